/- Contracts on the way to the laws of layer 5: DiagG. -/
import Derived.Test.YtpemghcafbedeaaGreatDoorKaf
set_option linter.all false
section
namespace Go.Proofs.YtpemghcafbedeaaGreatDoor
open Go.RowKit

structure Aft (w W : World) (B : Nat) (a l c : Int) : Prop where
  t : W.cell? ⟨w.heap.size + 1 + 1 + 1 + 1, 0, none⟩ = some (.pointer (some ⟨B, 0, none⟩))
  e0 : W.cell? ⟨B, 0, none⟩ = some (.int .i64 a)
  e1 : W.cell? ⟨B, 1, none⟩ = some (.int .i64 l)
  e2 : W.cell? ⟨B, 2, none⟩ = some (.int .i64 c)
  r0 : W.cell? ⟨w.heap.size, 0, none⟩ = some (.int .i64 0)
  r1 : W.cell? ⟨w.heap.size + 1, 0, none⟩ = some (.int .i64 0)
  r2 : W.cell? ⟨w.heap.size + 1 + 1, 0, none⟩ = some (.int .i64 0)
  r3 : W.cell? ⟨w.heap.size + 1 + 1 + 1, 0, none⟩ = some (.bool false)
  f0 : W.frozen? ⟨w.heap.size, 0, none⟩ = false
  f1 : W.frozen? ⟨w.heap.size + 1, 0, none⟩ = false
  f2 : W.frozen? ⟨w.heap.size + 1 + 1, 0, none⟩ = false
  f3 : W.frozen? ⟨w.heap.size + 1 + 1 + 1, 0, none⟩ = false
  below : Below w.heap.size w W

set_option maxHeartbeats 4000000 in
set_option maxRecDepth 1000000 in
theorem place_in (B : Nat) (T : TypeId) (x : Value) (a l c : Int) (n : Nat) (w : World) (hg : w.cell? ⟨0, 0, none⟩ = some (.iface 176 (.agg #[.pointer (some ⟨5, 28, none⟩)]))) (hp : Path w false (.iface 86 (.pointer (some ⟨B, 0, none⟩))) (.iface T x) n)
    (h0 : w.cell? ⟨B, 0, none⟩ = some (.int .i64 a)) (h1 : w.cell? ⟨B, 1, none⟩ = some (.int .i64 l)) (h2 : w.cell? ⟨B, 2, none⟩ = some (.int .i64 c)) :
    Calls Tryz.prog 16 #[.iface T x] w fun e w' => e = .returned (.tuple #[.int .i64 a, .int .i64 l, .int .i64 c, .bool true]) ∧ Below w.heap.size w w' := by
  have hmf : ∀ (fn : Fn) (first cap : Array Value) (w : World), (Instr.makeFunc fn first cap).run Tryz.prog w = .ok (.func fn first cap) w := fun _ _ _ _ => rfl
  have hlt := cell_lt hg
  have hg2 : (((((w.alloc (.cells #[.int .i64 0] 3)).alloc (.cells #[.int .i64 0] 3)).alloc (.cells #[.int .i64 0] 3)).alloc (.cells #[.bool false] 4)).alloc (.cells #[.pointer none] 86)).cell? ⟨0, 0, none⟩ = some (.iface 176 (.agg #[.pointer (some ⟨5, 28, none⟩)])) := by
    rw [World.cell?_alloc_lt _ _ ⟨0, 0, none⟩ (by simp), World.cell?_alloc_lt _ _ ⟨0, 0, none⟩ (by simp), World.cell?_alloc_lt _ _ ⟨0, 0, none⟩ (by simp), World.cell?_alloc_lt _ _ ⟨0, 0, none⟩ (by simp), World.cell?_alloc_lt _ _ ⟨0, 0, none⟩ hlt]; exact hg
  have hp2 : Path (((((w.alloc (.cells #[.int .i64 0] 3)).alloc (.cells #[.int .i64 0] 3)).alloc (.cells #[.int .i64 0] 3)).alloc (.cells #[.bool false] 4)).alloc (.cells #[.pointer none] 86)) false (.iface 86 (.pointer (some ⟨B, 0, none⟩))) (.iface T x) n := path_world (fun B o h => by
    obtain ⟨v, hv⟩ := Option.isSome_iff_exists.1 h
    have hb := cell_lt hv
    simp only at hb
    rw [World.cell?_alloc_lt _ _ ⟨B, o, none⟩ (by simp; omega), World.cell?_alloc_lt _ _ ⟨B, o, none⟩ (by simp; omega), World.cell?_alloc_lt _ _ ⟨B, o, none⟩ (by simp; omega), World.cell?_alloc_lt _ _ ⟨B, o, none⟩ (by simp; omega), World.cell?_alloc_lt _ _ ⟨B, o, none⟩ hb]) hp
  have HP := Lib.hid hp2
  clear hp2 hp
  have ht2 : (((((w.alloc (.cells #[.int .i64 0] 3)).alloc (.cells #[.int .i64 0] 3)).alloc (.cells #[.int .i64 0] 3)).alloc (.cells #[.bool false] 4)).alloc (.cells #[.pointer none] 86)).cell? ⟨w.heap.size + 1 + 1 + 1 + 1, 0, none⟩ = some (.pointer none) := by go_simp
  have hf2 : (((((w.alloc (.cells #[.int .i64 0] 3)).alloc (.cells #[.int .i64 0] 3)).alloc (.cells #[.int .i64 0] 3)).alloc (.cells #[.bool false] 4)).alloc (.cells #[.pointer none] 86)).frozen? ⟨w.heap.size + 1 + 1 + 1 + 1, 0, none⟩ = false := by go_simp
  have H := As45 ⟨B, 0, none⟩ ⟨w.heap.size + 1 + 1 + 1 + 1, 0, none⟩ T x (.pointer none) n _ hg2 HP.out ht2 hf2
  clear hg2 hg ht2 hf2
  have hB : B < w.heap.size := cell_lt h0
  have H' := H.mono (R' := fun ev w' => ev = .returned (.bool true) ∧ Aft w w' B a l c) (by
    rintro ev w' ⟨rfl, rfl⟩
    have hb : Below w.heap.size w ((((((((((w.alloc (.cells #[.int .i64 0] 3)).alloc (.cells #[.int .i64 0] 3)).alloc (.cells #[.int .i64 0] 3)).alloc (.cells #[.bool false] 4)).alloc (.cells #[.pointer none] 86)).alloc (.cells #[.pointer (some ⟨w.heap.size + 1 + 1 + 1 + 1, 0, none⟩)] 88)).alloc (.cells #[.pointer (some ⟨5, 88, none⟩), .pointer (some ⟨w.heap.size + 1 + 1 + 1 + 1 + 1, 0, none⟩), .int .u64 150] 134)).alloc (.cells #[.pointer (some ⟨5, 88, none⟩), .pointer (some ⟨w.heap.size + 1 + 1 + 1 + 1 + 1, 0, none⟩), .int .u64 150] 134)).alloc (.cells #[.pointer (some ⟨B, 0, none⟩)] 86)).setCell ⟨w.heap.size + 1 + 1 + 1 + 1, 0, none⟩ (.pointer (some ⟨B, 0, none⟩))) :=
      ((((((((((Below.refl _ _).alloc (Nat.le_refl _) _).alloc (by simp) _).alloc (by simp; omega) _).alloc (by simp; omega) _).alloc (by simp; omega) _).alloc (by simp; omega) _).alloc (by simp; omega) _).alloc (by simp; omega) _).alloc (by simp; omega) _).setCell (by simp; omega) _
    refine ⟨rfl, ?_⟩
    simp only [World.size_alloc]
    exact { t := by go_simp, e0 := by rw [hb.cell (p := ⟨B, 0, none⟩) hB]; exact h0, e1 := by rw [hb.cell (p := ⟨B, 1, none⟩) hB]; exact h1, e2 := by rw [hb.cell (p := ⟨B, 2, none⟩) hB]; exact h2, r0 := by go_simp, r1 := by go_simp, r2 := by go_simp, r3 := by go_simp, f0 := by go_simp, f1 := by go_simp, f2 := by go_simp, f3 := by go_simp, below := hb })
  clear H HP h0 h1 h2
  go_enter_defers Tryz.func16, Tryz.ntmps16
  go_wp2_with (go_at_call 47; (with_reducible refine H'.mono ?_); rintro e' w' ⟨rfl, hA⟩; obtain ⟨qt, q0, q1, q2, z0, z1, z2, z3, y0, y1, y2, y3, hbl⟩ := hA)
  clear H'
  go_region
  clear qt q0 q1 q2
  go_wp2
  refine leaves_cons (f := 46) (args := #[.pointer (some ⟨w.heap.size, 0, none⟩), .pointer (some ⟨w.heap.size + 1, 0, none⟩), .pointer (some ⟨w.heap.size + 1 + 1, 0, none⟩), .pointer (some ⟨w.heap.size + 1 + 1 + 1, 0, none⟩)]) (by simp) (by simp [go_sem]) ?_
  refine (placeDone _ _ _ _ _).mono ?_
  rintro e u' w'' ⟨rfl, rfl, rfl⟩
  simp [Leaves, settle, results, Tryz.results16, go_sem, z0, z1, z2, z3]
  exact ((((hbl.setCell (Nat.le_refl w.heap.size) _).setCell (show w.heap.size ≤ w.heap.size + 1 by omega) _).setCell (show w.heap.size ≤ w.heap.size + 1 + 1 by omega) _).setCell (show w.heap.size ≤ w.heap.size + 1 + 1 + 1 by omega) _).drew
end Go.Proofs.YtpemghcafbedeaaGreatDoor
end
