import Derived.Test.YtbimjgklldchfaaDoorDiagA
import Derived.Lib.Hide
namespace Go.Proofs.YtbimjgklldchfaaDoor
open Go.RowKit Go.Extern.Stop Go.Stop Go.Extern

inductive Path (W : World) (b : Bool) (u : Value) : Value → Nat → Prop
  | here : Path W b u u 0
  | inn (B : Nat) (T : TypeId) (x : Value) (n : Nat) : W.cell? ⟨B, 1, none⟩ = some (.iface T x) → Path W b u (.iface T x) n → Path W b u (.iface 54 (.pointer (some ⟨B, 0, none⟩))) (n + 1)
  | err (B : Nat) (k : Int) (n : Nat) : b = true → W.cell? ⟨B, 3, none⟩ = some (.int .i64 k) → Path W b u (.iface 23 (.int .i64 k)) n → Path W b u (.iface 45 (.pointer (some ⟨B, 0, none⟩))) (n + 1)
open Classical in
noncomputable def far (W : World) (b : Bool) (u v : Value) : Nat := if h : ∃ n, Path W b u v n then h.choose else 0
theorem path_same {W : World} {b : Bool} {u v : Value} (hu : ∀ x, u ≠ .iface 54 x) (hb : b = true → ∀ x, u ≠ .iface 45 x) {n m : Nat} (h : Path W b u v n) (h' : Path W b u v m) : n = m := by
  induction h generalizing m with
  | here => cases h' with
    | here => rfl
    | inn => exact absurd rfl (hu _)
    | err _ _ _ e => exact absurd rfl (hb e _)
  | inn B T x n hc _ ih => cases h' with
    | here => exact absurd rfl (hu _)
    | inn _ T' x' n' hc' hp' =>
      rw [hc] at hc'
      obtain ⟨rfl, rfl⟩ : T = T' ∧ x = x' := by simpa using hc'
      rw [ih hp']
  | err B k n e hc _ ih => cases h' with
    | here => exact absurd rfl (hb e _)
    | err _ k' n' e' hc' hp' =>
      rw [hc] at hc'
      obtain rfl : k = k' := by simpa using hc'
      rw [ih hp']
theorem far_eq {W : World} {b : Bool} {u v : Value} (hu : ∀ x, u ≠ .iface 54 x) (hb : b = true → ∀ x, u ≠ .iface 45 x) {n : Nat} (h : Path W b u v n) : far W b u v = n := by
  have e : ∃ n, Path W b u v n := ⟨n, h⟩
  unfold far
  rw [dif_pos e]
  exact path_same hu hb e.choose_spec h
theorem path_world {W W' : World} {b : Bool} {u v : Value} {n : Nat} (hc : ∀ B o, (W.cell? ⟨B, o, none⟩).isSome → W'.cell? ⟨B, o, none⟩ = W.cell? ⟨B, o, none⟩) (h : Path W b u v n) : Path W' b u v n := by
  induction h with
  | here => exact .here
  | inn B T x n h1 _ ih => exact .inn B T x n (by rw [hc _ _ (by rw [h1]; rfl), h1]) ih
  | err B k n e h1 _ ih => exact .err B k n e (by rw [hc _ _ (by rw [h1]; rfl), h1]) ih

theorem cell_lt {W : World} {a : Addr} {v : Value} (h : W.cell? a = some v) : a.block < W.heap.size := by
  rcases Nat.lt_or_ge a.block W.heap.size with h1 | h1
  · exact h1
  · simp [World.cell?, Array.getElem?_eq_none h1] at h
theorem no_as54 (v : Value) (w : World) : (Instr.typeAssert (.iface 54 v) 26 88 true).run Tryd.prog w = .ok (.tuple #[.nilIface, .bool false]) w := run_typeAssert_lacksB (P := Tryd.prog) (t := 54) (z := .nilIface) Tryd.underlying88 (by kernel_rfl) (by kernel_rfl) v 26 w
theorem no_as45 (v : Value) (w : World) : (Instr.typeAssert (.iface 45 v) 26 88 true).run Tryd.prog w = .ok (.tuple #[.nilIface, .bool false]) w := run_typeAssert_lacksB (P := Tryd.prog) (t := 45) (z := .nilIface) Tryd.underlying88 (by kernel_rfl) (by kernel_rfl) v 26 w
theorem no_as23 (v : Value) (w : World) : (Instr.typeAssert (.iface 23 v) 26 88 true).run Tryd.prog w = .ok (.tuple #[.nilIface, .bool false]) w := run_typeAssert_lacksB (P := Tryd.prog) (t := 23) (z := .nilIface) Tryd.underlying88 (by kernel_rfl) (by kernel_rfl) v 26 w
theorem un54 (v : Value) (w : World) : (Instr.typeAssert (.iface 54 v) 26 51 true).run Tryd.prog w = .ok (.tuple #[.iface 54 v, .bool true]) w := run_typeAssert_hasB (P := Tryd.prog) (t := 54) Tryd.underlying51 (by kernel_rfl) v 26 w
theorem un45 (v : Value) (w : World) : (Instr.typeAssert (.iface 45 v) 26 51 true).run Tryd.prog w = .ok (.tuple #[.iface 45 v, .bool true]) w := run_typeAssert_hasB (P := Tryd.prog) (t := 45) Tryd.underlying51 (by kernel_rfl) v 26 w
theorem no_un23 (v : Value) (w : World) : (Instr.typeAssert (.iface 23 v) 26 51 true).run Tryd.prog w = .ok (.tuple #[.nilIface, .bool false]) w := run_typeAssert_lacksB (P := Tryd.prog) (t := 23) (z := .nilIface) Tryd.underlying51 (by kernel_rfl) (by kernel_rfl) v 26 w
theorem no_uns23 (v : Value) (w : World) : (Instr.typeAssert (.iface 23 v) 26 79 true).run Tryd.prog w = .ok (.tuple #[.nilIface, .bool false]) w := run_typeAssert_lacksB (P := Tryd.prog) (t := 23) (z := .nilIface) Tryd.underlying79 (by kernel_rfl) (by kernel_rfl) v 26 w
/-- (*within).Unwrap -/
theorem unwrap54 (B : Nat) (x : Value) (w : World) (hc : w.cell? ⟨B, 1, none⟩ = some x) :
    Calls Tryd.prog 75 #[.pointer (some ⟨B, 0, none⟩)] w fun e w' => e = .returned x ∧ w = w' := by
  go_enter Tryd.func75, Tryd.ntmps75
  go_wp2
  go_ret
  exact ⟨rfl, rfl⟩
/-- (*Error).Unwrap -/
theorem unwrap45 (B : Nat) (k : Int) (w : World) (hc : w.cell? ⟨B, 3, none⟩ = some (.int .i64 k)) :
    Calls Tryd.prog 73 #[.pointer (some ⟨B, 0, none⟩)] w fun e w' => e = .returned (.iface 23 (.int .i64 k)) ∧ w = w' := by
  go_enter Tryd.func73, Tryd.ntmps73
  go_wp2
  go_ret
  exact ⟨rfl, rfl⟩
set_option maxHeartbeats 4000000 in
set_option maxRecDepth 1000000 in
theorem as45 (e t : Addr) (v old : Value) (n : Nat) (a : Addr) (W : World) (hp : Path W false (.iface 45 (.pointer (some e))) v n)
    (ha : W.cell? a = some (.pointer (some t))) (ht0 : W.cell? t = some old) (hf0 : W.frozen? t = false) :
    Calls Tryd.prog 32 #[v, .iface 50 (.pointer (some t)), .agg #[.pointer (some ⟨5, 50, none⟩), .pointer (some a), .int .u64 150], .iface 74 (.agg #[.pointer (some ⟨5, 45, none⟩)])] W
      fun ev w' => ev = .returned (.bool true) ∧ w' = ((W.alloc (.cells #[.pointer (some ⟨5, 50, none⟩), .pointer (some a), .int .u64 150] 65)).alloc (.cells #[.pointer (some e)] 45)).setCell t (.pointer (some e)) := by
  have h23 := @run_callFunc_extern Tryd.prog 23 _ ReflectliteType.typeOf Tryd.func23 (by kernel_rfl) (by kernel_rfl) (by kernel_rfl) (by kernel_rfl)
  have h86 := @run_callFunc_extern Tryd.prog 86 _ (ReflectliteType.relation "AssignableTo" ReflectliteType.assignableTo) Tryd.func86 (by kernel_rfl) (by kernel_rfl) (by kernel_rfl) (by kernel_rfl)
  have h40 := @run_callFunc_extern Tryd.prog 40 _ (ReflectliteValue.method (ReflectliteValue.valueError "reflectlite.Value.Elem" 0) ReflectliteValue.elem) Tryd.func40 (by kernel_rfl) (by kernel_rfl) (by kernel_rfl) (by kernel_rfl)
  have h41 := @run_callFunc_extern Tryd.prog 41 _ ReflectliteValue.set Tryd.func41 (by kernel_rfl) (by kernel_rfl) (by kernel_rfl) (by kernel_rfl)
  have h29 := @run_callFunc_extern Tryd.prog 29 _ (fun args => ReflectliteValue.unpack (args.getD 0 (.tuple #[]))) Tryd.func29 (by kernel_rfl) (by kernel_rfl) (by kernel_rfl) (by kernel_rfl)
  have t45 := typeOf45
  have t54 := typeOf54
  have a45 := assign45_45
  have a54 := assign54_45
  have v45 := valueOf45
  have n54 := no_as54
  have u54 := un54
  have hal := cell_lt ha
  have htl := cell_lt ht0
  have el := elemV50 a t (W.alloc (.cells #[.pointer (some ⟨5, 50, none⟩), .pointer (some a), .int .u64 150] 65)) (by rw [World.cell?_alloc_lt _ _ a hal]; exact ha)
  have st := set45 t ⟨W.heap.size + 1, 0, none⟩ e old ((W.alloc (.cells #[.pointer (some ⟨5, 50, none⟩), .pointer (some a), .int .u64 150] 65)).alloc (.cells #[.pointer (some e)] 45))
    (by rw [World.cell?_alloc_at _ _ _ _ (by simp)]; rfl)
    (by rw [World.cell?_alloc_lt _ _ t (by simp; omega), World.cell?_alloc_lt _ _ t htl]; exact ht0)
    (by rw [World.frozen?_alloc_old _ _ t (by simp; omega), World.frozen?_alloc_old _ _ t (Nat.ne_of_lt htl)]; exact hf0)
  go_enter Tryd.func32, Tryd.ntmps32
  go_wp2
  go_loop [0] (fun v => ∃ n, Path W false (.iface 45 (.pointer (some e))) v n) (fun v => far W false (.iface 45 (.pointer (some e))) v)
  case atStart => exact ⟨n, hp⟩
  case round =>
    obtain ⟨m, hm⟩ := hrel
    cases hm with
    | here =>
      go_wp2
      go_ret
      exact ⟨rfl, rfl⟩
    | inn B T x k hc hq =>
      have hbl := cell_lt hc
      have hc1 : (W.alloc (.cells #[.pointer (some ⟨5, 50, none⟩), .pointer (some a), .int .u64 150] 65)).cell? ⟨B, 1, none⟩ = some (.iface T x) := by rw [World.cell?_alloc_lt _ _ _ hbl]; exact hc
      have HF : Hid (far W false (.iface 45 (.pointer (some e))) (.iface 54 (.pointer (some ⟨B, 0, none⟩))) = k + 1) := Lib.hid (far_eq (by simp) (by simp) (.inn B T x k hc hq))
      have HG : Hid (far W false (.iface 45 (.pointer (some e))) (.iface T x) = k) := Lib.hid (far_eq (by simp) (by simp) hq)
      go_wp2_with (go_at_call 75; (with_reducible refine (unwrap54 _ _ _ hc1).mono ?_); rintro e' w' ⟨rfl, rfl⟩)
      go_round
      case rel => exact ⟨k, hq⟩
      case measure => rw [HF.out, HG.out]; omega
    | err B k n e => cases e
end Go.Proofs.YtbimjgklldchfaaDoor
