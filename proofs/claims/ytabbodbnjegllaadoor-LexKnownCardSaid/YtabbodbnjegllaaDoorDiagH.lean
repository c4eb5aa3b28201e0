import Derived.Test.YtabbodbnjegllaaDoorDiagG
import Derived.Test.YtabbodbnjegllaaDoorDiagN
namespace Go.Proofs.YtabbodbnjegllaaDoor
open Go.RowKit
theorem bcell {W w1 : World} (hb : Below W.heap.size W w1) : (∀ b o, b < W.heap.size → w1.cell? ⟨b, o, none⟩ = W.cell? ⟨b, o, none⟩) ∧ (∀ b o, b < W.heap.size → w1.frozen? ⟨b, o, none⟩ = W.frozen? ⟨b, o, none⟩) :=
  ⟨fun b o h => hb.cell (p := ⟨b, o, none⟩) h, fun b o h => hb.frozen (p := ⟨b, o, none⟩) h⟩
abbrev ET (w : World) : Prop := w.cell? ⟨0, 0, none⟩ = some (.iface 86 (.agg #[.pointer (some ⟨2, 26, none⟩)]))
theorem ET.below {w W : World} (h : ET w) (hb : Below w.heap.size w W) : ET W := by
  show W.cell? ⟨0, 0, none⟩ = _
  rw [hb.cell (p := ⟨0, 0, none⟩) (cell_lt h)]; exact h
/-- What the error at a place is known by, in any later world. -/
structure ErrAt (W : World) (B : Nat) (x l c n : Int) : Prop where
  lt : B < W.heap.size
  c0 : W.cell? ⟨B, 0, none⟩ = some (.int .i64 x)
  c1 : W.cell? ⟨B, 1, none⟩ = some (.int .i64 l)
  c2 : W.cell? ⟨B, 2, none⟩ = some (.int .i64 c)
  c3 : W.cell? ⟨B, 3, none⟩ = some (.int .i64 n)
theorem ErrAt.on {W W' : World} {B : Nat} {x l c n : Int} (h : ErrAt W B x l c n) (hb : Below W.heap.size W W') : ErrAt W' B x l c n where
  lt := Nat.lt_of_lt_of_le h.lt hb.size
  c0 := by rw [hb.cell (p := ⟨B, 0, none⟩) h.lt]; exact h.c0
  c1 := by rw [hb.cell (p := ⟨B, 1, none⟩) h.lt]; exact h.c1
  c2 := by rw [hb.cell (p := ⟨B, 2, none⟩) h.lt]; exact h.c2
  c3 := by rw [hb.cell (p := ⟨B, 3, none⟩) h.lt]; exact h.c3
theorem NewW.at_ {w W : World} {x l c n : Int} (h : NewW w W x l c n) : ErrAt W (w.heap.size + 1) x l c n := ⟨h.size, h.c0, h.c1, h.c2, h.c3⟩
theorem place_err {W : World} {B : Nat} {x l c n : Int} (hg : ET W) (h : ErrAt W B x l c n) :
    Calls Tryd.prog 16 #[.iface 59 (.pointer (some ⟨B, 0, none⟩))] W fun e w2 => e = .returned (.tuple #[.int .i64 x, .int .i64 l, .int .i64 c, .bool true]) ∧ Below W.heap.size W w2 :=
  place_in B 59 _ x l c 0 W hg .here h.c0 h.c1 h.c2
theorem code_err {W : World} {B : Nat} {x l c n : Int} (hg : ET W) (h : ErrAt W B x l c n) :
    Calls Tryd.prog 12 #[.iface 59 (.pointer (some ⟨B, 0, none⟩))] W fun e w2 => e = .returned (.int .i64 n) ∧ Below W.heap.size W w2 :=
  code_in 59 _ n 1 W hg (.err B n 0 rfl h.c3 .here)
theorem code_none (W : World) : Calls Tryd.prog 12 #[.nilIface] W fun e w2 => e = .returned (.int .i64 0) ∧ Below W.heap.size W w2 :=
  (code_nil W).mono fun _ _ ⟨h1, h2⟩ => ⟨h1, by rw [h2]; exact (Below.refl _ _).alloc (Nat.le_refl _) _⟩
end Go.Proofs.YtabbodbnjegllaaDoor
