import Derived.Test.YtabbodbnjegllaaDoorDiagD
import Derived.Defers
import Derived.Recover
import Derived.BigRegion
import Derived.Below
namespace Go.Proofs.YtabbodbnjegllaaDoor
open Go.RowKit

theorem placeDone (p q r s : Addr) (w : World) :
    CallsD Tryd.prog 31 #[.pointer (some p), .pointer (some q), .pointer (some r), .pointer (some s)] .returning w fun e u' w' => e = .returned (.tuple #[]) ∧ u' = .returning ∧ w' = w := by
  refine callsD_of_wpS Tryd.func31 rfl fun c₀ cs hu => ?_
  apply wpS_seq
  apply wpS_region
  simp [wpOpsS, go_sem, recoverD, hu, Tryd.ntmps31, Exit.thenS]
  refine wpS_cond (t := false) (by simp [Act.eval, Array.replicate]) ?_
  simp only [Bool.false_eq_true, if_false]
  refine wpS_of_wp (wp_skip ?_)
  cases c₀
  simp_all [bodyPostS, results, Tryd.results31]
theorem codeDone (p : Addr) (w : World) :
    CallsD Tryd.prog 29 #[.pointer (some p)] .returning w fun e u' w' => e = .returned (.tuple #[]) ∧ u' = .returning ∧ w' = w := by
  refine callsD_of_wpS Tryd.func29 rfl fun c₀ cs hu => ?_
  apply wpS_seq
  apply wpS_region
  simp [wpOpsS, go_sem, recoverD, hu, Tryd.ntmps29, Exit.thenS]
  refine wpS_cond (t := false) (by simp [Act.eval, Array.replicate]) ?_
  simp only [Bool.false_eq_true, if_false]
  refine wpS_of_wp (wp_skip ?_)
  cases c₀
  simp_all [bodyPostS, results, Tryd.results29]

set_option maxHeartbeats 4000000 in
theorem code_nil (w : World) :
    Calls Tryd.prog 12 #[.nilIface] w fun e w' => e = .returned (.int .i64 0) ∧ w' = w.alloc (.cells #[.int .i64 0] 30) := by
  go_enter_defers Tryd.func12, Tryd.ntmps12
  go_wp2
  simp [bodyPostD, Leaves, results, Tryd.results12, go_sem]

set_option maxHeartbeats 4000000 in
set_option maxRecDepth 1000000 in
theorem code_in (T : TypeId) (x : Value) (j : Int) (n : Nat) (w : World) (hg : w.cell? ⟨0, 0, none⟩ = some (.iface 86 (.agg #[.pointer (some ⟨2, 26, none⟩)]))) (hp : Path w true (.iface 30 (.int .i64 j)) (.iface T x) n) :
    Calls Tryd.prog 12 #[.iface T x] w fun e w' => e = .returned (.int .i64 j) ∧ Below w.heap.size w w' := by
  have hmf : ∀ (fn : Fn) (first cap : Array Value) (w : World), (Instr.makeFunc fn first cap).run Tryd.prog w = .ok (.func fn first cap) w := fun _ _ _ _ => rfl
  have hlt := cell_lt hg
  have hg2 : ((w.alloc (.cells #[.int .i64 0] 30)).alloc (.cells #[.int .i64 0] 30)).cell? ⟨0, 0, none⟩ = some (.iface 86 (.agg #[.pointer (some ⟨2, 26, none⟩)])) := by
    rw [World.cell?_alloc_lt _ _ ⟨0, 0, none⟩ (by simp), World.cell?_alloc_lt _ _ ⟨0, 0, none⟩ hlt]; exact hg
  have hp2 : Path ((w.alloc (.cells #[.int .i64 0] 30)).alloc (.cells #[.int .i64 0] 30)) true (.iface 30 (.int .i64 j)) (.iface T x) n := path_world (fun B o h => by
    obtain ⟨v, hv⟩ := Option.isSome_iff_exists.1 h
    rw [World.cell?_alloc_lt _ _ ⟨B, o, none⟩ (by have := cell_lt hv; simp at this ⊢; omega), World.cell?_alloc_lt _ _ ⟨B, o, none⟩ (cell_lt hv)]) hp
  have HP := Lib.hid hp2
  clear hp2 hp
  have H := As23 ⟨w.heap.size + 1, 0, none⟩ T x (.int .i64 0) j n _ hg2 HP.out (by simp) (by simp)
  clear hg2 hg
  go_enter_defers Tryd.func12, Tryd.ntmps12
  go_wp2_with (go_at_call 30; (with_reducible refine H.mono ?_); rintro e' w' ⟨rfl, rfl⟩)
  refine leaves_cons (f := 29) (args := #[.pointer (some ⟨w.heap.size, 0, none⟩)]) (by simp) (by simp [go_sem]) ?_
  refine (codeDone ⟨w.heap.size, 0, none⟩ _).mono ?_
  rintro e u' w'' ⟨rfl, rfl, rfl⟩
  simp [Leaves, settle, results, Tryd.results12, go_sem]
  exact ((((((Below.refl _ _).alloc (Nat.le_refl _) _).alloc (by simp) _).alloc (by simp; omega) _).alloc (by simp; omega) _).alloc (by simp; omega) _).alloc (by simp; omega) _

set_option maxHeartbeats 4000000 in
set_option maxRecDepth 1000000 in
theorem place_no (T : TypeId) (x : Value) (j : Int) (n : Nat) (w : World) (hg : w.cell? ⟨0, 0, none⟩ = some (.iface 86 (.agg #[.pointer (some ⟨2, 26, none⟩)]))) (hp : Path w false (.iface 30 (.int .i64 j)) (.iface T x) n) :
    Calls Tryd.prog 16 #[.iface T x] w fun e w' => e = .returned (.tuple #[.int .i64 0, .int .i64 0, .int .i64 0, .bool false]) ∧ Below w.heap.size w w' := by
  have hmf : ∀ (fn : Fn) (first cap : Array Value) (w : World), (Instr.makeFunc fn first cap).run Tryd.prog w = .ok (.func fn first cap) w := fun _ _ _ _ => rfl
  have hlt := cell_lt hg
  have hg2 : (((((w.alloc (.cells #[.int .i64 0] 3)).alloc (.cells #[.int .i64 0] 3)).alloc (.cells #[.int .i64 0] 3)).alloc (.cells #[.bool false] 4)).alloc (.cells #[.pointer none] 59)).cell? ⟨0, 0, none⟩ = some (.iface 86 (.agg #[.pointer (some ⟨2, 26, none⟩)])) := by
    rw [World.cell?_alloc_lt _ _ ⟨0, 0, none⟩ (by simp), World.cell?_alloc_lt _ _ ⟨0, 0, none⟩ (by simp), World.cell?_alloc_lt _ _ ⟨0, 0, none⟩ (by simp), World.cell?_alloc_lt _ _ ⟨0, 0, none⟩ (by simp), World.cell?_alloc_lt _ _ ⟨0, 0, none⟩ hlt]; exact hg
  have hp2 : Path (((((w.alloc (.cells #[.int .i64 0] 3)).alloc (.cells #[.int .i64 0] 3)).alloc (.cells #[.int .i64 0] 3)).alloc (.cells #[.bool false] 4)).alloc (.cells #[.pointer none] 59)) false (.iface 30 (.int .i64 j)) (.iface T x) n := path_world (fun B o h => by
    obtain ⟨v, hv⟩ := Option.isSome_iff_exists.1 h
    have hb := cell_lt hv
    simp only at hb
    rw [World.cell?_alloc_lt _ _ ⟨B, o, none⟩ (by simp; omega), World.cell?_alloc_lt _ _ ⟨B, o, none⟩ (by simp; omega), World.cell?_alloc_lt _ _ ⟨B, o, none⟩ (by simp; omega), World.cell?_alloc_lt _ _ ⟨B, o, none⟩ (by simp; omega), World.cell?_alloc_lt _ _ ⟨B, o, none⟩ hb]) hp
  have HP := Lib.hid hp2
  clear hp2 hp
  have H := As45_miss ⟨w.heap.size + 1 + 1 + 1 + 1, 0, none⟩ T x j n _ hg2 HP.out
  clear hg2 hg
  go_enter_defers Tryd.func16, Tryd.ntmps16
  go_wp2_with (go_at_call 30; (with_reducible refine H.mono ?_); rintro e' w' ⟨rfl, rfl⟩)
  refine leaves_cons (f := 31) (args := #[.pointer (some ⟨w.heap.size, 0, none⟩), .pointer (some ⟨w.heap.size + 1, 0, none⟩), .pointer (some ⟨w.heap.size + 1 + 1, 0, none⟩), .pointer (some ⟨w.heap.size + 1 + 1 + 1, 0, none⟩)]) (by simp) (by simp [go_sem]) ?_
  refine (placeDone _ _ _ _ _).mono ?_
  rintro e u' w'' ⟨rfl, rfl, rfl⟩
  simp [Leaves, settle, results, Tryd.results16, go_sem]
  exact ((((((((Below.refl _ _).alloc (Nat.le_refl _) _).alloc (by simp) _).alloc (by simp; omega) _).alloc (by simp; omega) _).alloc (by simp; omega) _).alloc (by simp; omega) _).alloc (by simp; omega) _).alloc (by simp; omega) _

end Go.Proofs.YtabbodbnjegllaaDoor
