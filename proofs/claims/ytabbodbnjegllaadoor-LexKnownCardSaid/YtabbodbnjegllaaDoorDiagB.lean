import Derived.Test.YtabbodbnjegllaaDoorDiagA
import Derived.Lib.Hide
namespace Go.Proofs.YtabbodbnjegllaaDoor
open Go.RowKit Go.Extern.Stop Go.Stop Go.Extern

inductive Path (W : World) (b : Bool) (u : Value) : Value → Nat → Prop
  | here : Path W b u u 0
  | err (B : Nat) (k : Int) (n : Nat) : b = true → W.cell? ⟨B, 3, none⟩ = some (.int .i64 k) → Path W b u (.iface 30 (.int .i64 k)) n → Path W b u (.iface 59 (.pointer (some ⟨B, 0, none⟩))) (n + 1)
open Classical in
noncomputable def far (W : World) (b : Bool) (u v : Value) : Nat := if h : ∃ n, Path W b u v n then h.choose else 0
theorem path_same {W : World} {b : Bool} {u v : Value} (hb : b = true → ∀ x, u ≠ .iface 59 x) {n m : Nat} (h : Path W b u v n) (h' : Path W b u v m) : n = m := by
  induction h generalizing m with
  | here => cases h' with
    | here => rfl
    | err _ _ _ e => exact absurd rfl (hb e _)
  | err B k n e hc _ ih => cases h' with
    | here => exact absurd rfl (hb e _)
    | err _ k' n' e' hc' hp' =>
      rw [hc] at hc'
      obtain rfl : k = k' := by simpa using hc'
      rw [ih hp']
theorem far_eq {W : World} {b : Bool} {u v : Value} (hb : b = true → ∀ x, u ≠ .iface 59 x) {n : Nat} (h : Path W b u v n) : far W b u v = n := by
  have e : ∃ n, Path W b u v n := ⟨n, h⟩
  unfold far
  rw [dif_pos e]
  exact path_same hb e.choose_spec h
theorem path_world {W W' : World} {b : Bool} {u v : Value} {n : Nat} (hc : ∀ B o, (W.cell? ⟨B, o, none⟩).isSome → W'.cell? ⟨B, o, none⟩ = W.cell? ⟨B, o, none⟩) (h : Path W b u v n) : Path W' b u v n := by
  induction h with
  | here => exact .here
  | err B k n e h1 _ ih => exact .err B k n e (by rw [hc _ _ (by rw [h1]; rfl), h1]) ih

theorem cell_lt {W : World} {a : Addr} {v : Value} (h : W.cell? a = some v) : a.block < W.heap.size := by
  rcases Nat.lt_or_ge a.block W.heap.size with h1 | h1
  · exact h1
  · simp [World.cell?, Array.getElem?_eq_none h1] at h
theorem no_as45 (v : Value) (w : World) : (Instr.typeAssert (.iface 59 v) 26 91 true).run Tryd.prog w = .ok (.tuple #[.nilIface, .bool false]) w := run_typeAssert_lacksB (P := Tryd.prog) (t := 59) (z := .nilIface) Tryd.underlying91 (by kernel_rfl) (by kernel_rfl) v 26 w
theorem no_as23 (v : Value) (w : World) : (Instr.typeAssert (.iface 30 v) 26 91 true).run Tryd.prog w = .ok (.tuple #[.nilIface, .bool false]) w := run_typeAssert_lacksB (P := Tryd.prog) (t := 30) (z := .nilIface) Tryd.underlying91 (by kernel_rfl) (by kernel_rfl) v 26 w
theorem un45 (v : Value) (w : World) : (Instr.typeAssert (.iface 59 v) 26 94 true).run Tryd.prog w = .ok (.tuple #[.iface 59 v, .bool true]) w := run_typeAssert_hasB (P := Tryd.prog) (t := 59) Tryd.underlying94 (by kernel_rfl) v 26 w
theorem no_un23 (v : Value) (w : World) : (Instr.typeAssert (.iface 30 v) 26 94 true).run Tryd.prog w = .ok (.tuple #[.nilIface, .bool false]) w := run_typeAssert_lacksB (P := Tryd.prog) (t := 30) (z := .nilIface) Tryd.underlying94 (by kernel_rfl) (by kernel_rfl) v 26 w
theorem no_uns23 (v : Value) (w : World) : (Instr.typeAssert (.iface 30 v) 26 96 true).run Tryd.prog w = .ok (.tuple #[.nilIface, .bool false]) w := run_typeAssert_lacksB (P := Tryd.prog) (t := 30) (z := .nilIface) Tryd.underlying96 (by kernel_rfl) (by kernel_rfl) v 26 w
/-- (*Error).Unwrap -/
theorem unwrap45 (B : Nat) (k : Int) (w : World) (hc : w.cell? ⟨B, 3, none⟩ = some (.int .i64 k)) :
    Calls Tryd.prog 80 #[.pointer (some ⟨B, 0, none⟩)] w fun e w' => e = .returned (.iface 30 (.int .i64 k)) ∧ w = w' := by
  go_enter Tryd.func80, Tryd.ntmps80
  go_wp2
  go_ret
  exact ⟨rfl, rfl⟩
set_option maxHeartbeats 4000000 in
set_option maxRecDepth 1000000 in
theorem as45 (e t : Addr) (v old : Value) (n : Nat) (a : Addr) (W : World) (hp : Path W false (.iface 59 (.pointer (some e))) v n)
    (ha : W.cell? a = some (.pointer (some t))) (ht0 : W.cell? t = some old) (hf0 : W.frozen? t = false) :
    Calls Tryd.prog 44 #[v, .iface 60 (.pointer (some t)), .agg #[.pointer (some ⟨2, 60, none⟩), .pointer (some a), .int .u64 150], .iface 86 (.agg #[.pointer (some ⟨2, 59, none⟩)])] W
      fun ev w' => ev = .returned (.bool true) ∧ w' = ((W.alloc (.cells #[.pointer (some ⟨2, 60, none⟩), .pointer (some a), .int .u64 150] 75)).alloc (.cells #[.pointer (some e)] 59)).setCell t (.pointer (some e)) := by
  have h23 := @run_callFunc_extern Tryd.prog 51 _ ReflectliteType.typeOf Tryd.func51 (by kernel_rfl) (by kernel_rfl) (by kernel_rfl) (by kernel_rfl)
  have h86 := @run_callFunc_extern Tryd.prog 85 _ (ReflectliteType.relation "AssignableTo" ReflectliteType.assignableTo) Tryd.func85 (by kernel_rfl) (by kernel_rfl) (by kernel_rfl) (by kernel_rfl)
  have h40 := @run_callFunc_extern Tryd.prog 52 _ (ReflectliteValue.method (ReflectliteValue.valueError "reflectlite.Value.Elem" 0) ReflectliteValue.elem) Tryd.func52 (by kernel_rfl) (by kernel_rfl) (by kernel_rfl) (by kernel_rfl)
  have h41 := @run_callFunc_extern Tryd.prog 53 _ ReflectliteValue.set Tryd.func53 (by kernel_rfl) (by kernel_rfl) (by kernel_rfl) (by kernel_rfl)
  have h29 := @run_callFunc_extern Tryd.prog 41 _ (fun args => ReflectliteValue.unpack (args.getD 0 (.tuple #[]))) Tryd.func41 (by kernel_rfl) (by kernel_rfl) (by kernel_rfl) (by kernel_rfl)
  have t45 := typeOf45
  have a45 := assign45_45
  have v45 := valueOf45
  have hal := cell_lt ha
  have htl := cell_lt ht0
  have el := elemV50 a t (W.alloc (.cells #[.pointer (some ⟨2, 60, none⟩), .pointer (some a), .int .u64 150] 75)) (by rw [World.cell?_alloc_lt _ _ a hal]; exact ha)
  have st := set45 t ⟨W.heap.size + 1, 0, none⟩ e old ((W.alloc (.cells #[.pointer (some ⟨2, 60, none⟩), .pointer (some a), .int .u64 150] 75)).alloc (.cells #[.pointer (some e)] 59))
    (by rw [World.cell?_alloc_at _ _ _ _ (by simp)]; rfl)
    (by rw [World.cell?_alloc_lt _ _ t (by simp; omega), World.cell?_alloc_lt _ _ t htl]; exact ht0)
    (by rw [World.frozen?_alloc_old _ _ t (by simp; omega), World.frozen?_alloc_old _ _ t (Nat.ne_of_lt htl)]; exact hf0)
  go_enter Tryd.func44, Tryd.ntmps44
  go_wp2
  go_loop [0] (fun v => ∃ n, Path W false (.iface 59 (.pointer (some e))) v n) (fun v => far W false (.iface 59 (.pointer (some e))) v)
  case atStart => exact ⟨n, hp⟩
  case round =>
    obtain ⟨m, hm⟩ := hrel
    cases hm with
    | here =>
      go_wp2
      go_ret
      exact ⟨rfl, rfl⟩
    | err B k n e => cases e
end Go.Proofs.YtabbodbnjegllaaDoor
