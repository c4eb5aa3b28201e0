import Derived.Test.YtbimjgklldchfaaDoorDiagG
import Derived.Test.YtbimjgklldchfaaDoorDiagN
import Derived.Lib.SlBytesConst
namespace Go.Proofs.YtbimjgklldchfaaDoor
open Go.RowKit
theorem bcell {W w1 : World} (hb : Below W.heap.size W w1) : (∀ b o, b < W.heap.size → w1.cell? ⟨b, o, none⟩ = W.cell? ⟨b, o, none⟩) ∧ (∀ b o, b < W.heap.size → w1.frozen? ⟨b, o, none⟩ = W.frozen? ⟨b, o, none⟩) :=
  ⟨fun b o h => hb.cell (p := ⟨b, o, none⟩) h, fun b o h => hb.frozen (p := ⟨b, o, none⟩) h⟩
abbrev ET (w : World) : Prop := w.cell? ⟨0, 0, none⟩ = some (.iface 74 (.agg #[.pointer (some ⟨5, 26, none⟩)]))
theorem ET.below {w W : World} (h : ET w) (hb : Below w.heap.size w W) : ET W := by
  show W.cell? ⟨0, 0, none⟩ = _
  rw [hb.cell (p := ⟨0, 0, none⟩) (cell_lt h)]; exact h
theorem place_new {w w' : World} {x l c n : Int} (hg : ET w) (h : NewW w w' x l c n) :
    Calls Tryd.prog 10 #[.iface 45 (.pointer (some ⟨w.heap.size + 1, 0, none⟩))] w' fun e w2 => e = .returned (.tuple #[.int .i64 x, .int .i64 l, .int .i64 c, .bool true]) ∧ Below w'.heap.size w' w2 :=
  place_in (w.heap.size + 1) 45 _ x l c 0 w' (hg.below h.below) .here h.c0 h.c1 h.c2
theorem code_new {w w' : World} {x l c n : Int} (hg : ET w) (h : NewW w w' x l c n) (s : ByteArray) :
    Calls Tryd.prog 8 #[.iface 54 (.pointer (some ⟨w'.heap.size, 0, none⟩))] (w'.alloc (.cells #[.string s, .iface 45 (.pointer (some ⟨w.heap.size + 1, 0, none⟩))] 56)) fun e w2 => e = .returned (.int .i64 n) ∧ Below (w'.heap.size + 1) (w'.alloc (.cells #[.string s, .iface 45 (.pointer (some ⟨w.heap.size + 1, 0, none⟩))] 56)) w2 := by
  have hb : Below w'.heap.size w' (w'.alloc (.cells #[.string s, .iface 45 (.pointer (some ⟨w.heap.size + 1, 0, none⟩))] 56)) := (Below.refl _ _).alloc (Nat.le_refl _) _
  have := code_in 54 (.pointer (some ⟨w'.heap.size, 0, none⟩)) n 2 (w'.alloc (.cells #[.string s, .iface 45 (.pointer (some ⟨w.heap.size + 1, 0, none⟩))] 56)) ((hg.below h.below).below hb)
    (.inn w'.heap.size 45 (.pointer (some ⟨w.heap.size + 1, 0, none⟩)) 1 (by simp) (.err (w.heap.size + 1) n 0 rfl (by rw [hb.cell (p := ⟨w.heap.size + 1, 3, none⟩) h.size]; exact h.c3) .here))
  simpa using this
set_option maxHeartbeats 4000000 in
set_option maxRecDepth 1000000 in
theorem works (w : World) (hg : ET w) : Calls Tryd.prog 6 #[] w fun e w' => e = .returned (.bool true) ∧ Below w.heap.size w w' := by
  have hcv : (convert 22 22 (.slice (some ⟨w.heap.size, 0, none⟩) 4 4)).run Tryd.prog (w.alloc (.cells #[.int .u8 97, .int .u8 98, .int .u8 10, .int .u8 99] 5)) = .ok (.slice (some ⟨w.heap.size, 0, none⟩) 4 4) (w.alloc (.cells #[.int .u8 97, .int .u8 98, .int .u8 10, .int .u8 99] 5 (4, 5))) :=
    Lib.run_convert_bytes_const (P := Tryd.prog) w 22 5 _ 4 4 Tryd.underlying22 Tryd.underlying5
  have N1 := new_ab (w.alloc (.cells #[.int .u8 97, .int .u8 98, .int .u8 10, .int .u8 99] 5 (4, 5))) w.heap.size (by simp) (by rw [World.cell?_alloc_mark]; rfl) (by rw [World.cell?_alloc_mark]; rfl) (by rw [World.cell?_alloc_mark]; rfl) (by rw [World.cell?_alloc_mark]; rfl)
  have b0 := Lib.hid (show Below w.heap.size w (w.alloc (.cells #[.int .u8 97, .int .u8 98, .int .u8 10, .int .u8 99] 5 (4, 5))) from (Below.refl _ _).alloc (Nat.le_refl _) _)
  have HG := Lib.hid hg
  clear hg
  go_enter Tryd.func6, Tryd.ntmps6
  go_wp2_with fail
  (with_reducible refine N1.mono ?_)
  rintro e1 w1 ⟨rfl, hN⟩
  clear N1 hcv
  have P1 := place_new (HG.out.below b0.out) hN
  simp only [World.size_alloc] at P1
  have b1 := (Lib.hid (b0.out.trans (hN.below.mono (by simp))))
  have G1 := Lib.hid (HG.out.below b1.out)
  clear b0 hN
  go_wp2_with fail
  (with_reducible refine P1.mono ?_)
  rintro e2 w2 ⟨rfl, hb2⟩
  have b2 := Lib.hid (b1.out.trans (hb2.mono b1.out.size))
  have G2 := Lib.hid (HG.out.below b2.out)
  clear P1 hb2 b1 G1
  go_wp2_with fail
  (with_reducible refine (new_zero 5 51 w2 (by decide)).mono ?_)
  rintro e3 w3 ⟨rfl, hN⟩
  have P1 := place_new G2.out hN
  have b3 := Lib.hid (b2.out.trans (hN.below.mono b2.out.size))
  clear hN b2 G2
  go_wp2_with fail
  (with_reducible refine P1.mono ?_)
  rintro e4 w4 ⟨rfl, hb4⟩
  have b4 := Lib.hid (b3.out.trans (hb4.mono b3.out.size))
  have G4 := Lib.hid (HG.out.below b4.out)
  clear P1 hb4 b3
  go_wp2_with fail
  (with_reducible refine (new_zero 0 50 w4 (by decide)).mono ?_)
  rintro e5 w5 ⟨rfl, hN⟩
  have P1 := code_new G4.out hN
  have b5 := Lib.hid (b4.out.trans (hN.below.mono b4.out.size))
  clear hN b4 G4
  go_wp2_with fail
  (with_reducible refine (in_some _ _ _ _).mono ?_)
  rintro e6 w6 ⟨rfl, rfl⟩
  go_wp2_with fail
  (with_reducible refine (P1 _).mono ?_)
  rintro e7 w7 ⟨rfl, hb7⟩
  have b7 := Lib.hid ((b5.out.alloc b5.out.size _).trans (hb7.mono (by have := b5.out.size; omega)))
  clear P1 hb7 b5
  go_wp2_with fail
  (with_reducible refine (code_nil _).mono ?_)
  rintro e8 w8 ⟨rfl, rfl⟩
  go_wp2
  go_ret
  exact ⟨rfl, b7.out.alloc b7.out.size _⟩
end Go.Proofs.YtbimjgklldchfaaDoor
