/- errors.Is over a chain of errors within one another. -/
import Derived.Test.YtbimjgklldchfaaDoorDiagV
namespace Go.Proofs.YtbimjgklldchfaaDoor
open Go.RowKit Go.Extern.Stop Go.Stop Go.Extern

/-- the entry of rtype's Comparable -/
def cmpEntry : Array Value → Sem Value := ReflectliteType.method fun t => do Rtype.noPackHeld "Comparable" t; pure (.bool (← typeInfo t).comparable)
theorem comp45 (w : World) : (cmpEntry #[.agg #[.pointer (some ⟨5, 45, none⟩)]]).run Tryd.prog w = .ok (.bool true) w := by kernel_rfl
theorem comp23 (w : World) : (cmpEntry #[.agg #[.pointer (some ⟨5, 23, none⟩)]]).run Tryd.prog w = .ok (.bool true) w := by kernel_rfl
theorem eql54_45 (v u : Value) (w : World) : (binOp .eql 26 (.iface 54 v) (.iface 45 u)).run Tryd.prog w = .ok (.bool false) w := by kernel_rfl
theorem eql54_23 (v u : Value) (w : World) : (binOp .eql 26 (.iface 54 v) (.iface 23 u)).run Tryd.prog w = .ok (.bool false) w := by kernel_rfl
theorem eql45_23 (v u : Value) (w : World) : (binOp .eql 26 (.iface 45 v) (.iface 23 u)).run Tryd.prog w = .ok (.bool false) w := by kernel_rfl
theorem eql45_same (a : Addr) (w : World) : (binOp .eql 26 (.iface 45 (.pointer (some a))) (.iface 45 (.pointer (some a)))).run Tryd.prog w = .ok (.bool true) w := by
  obtain ⟨i, hi, hc⟩ := Option.map_eq_some_iff.1 (show (Tryd.prog.info? 45).map (·.comparable) = some true by kernel_rfl)
  obtain ⟨j, hj, _⟩ := Option.map_eq_some_iff.1 (show (Tryd.prog.info? 47).map (·.comparable) = some true by kernel_rfl)
  exact run_eql_iface_ptr_same (P := Tryd.prog) w a Tryd.underlying26 Tryd.underlying45 hi hc hj
theorem eql23_same (a : Int) (w : World) : (binOp .eql 26 (.iface 23 (.int .i64 a)) (.iface 23 (.int .i64 a))).run Tryd.prog w = .ok (.bool true) w := by
  rw [eqlE]; simp
theorem no_is54 (v : Value) (w : World) : (Instr.typeAssert (.iface 54 v) 26 76 true).run Tryd.prog w = .ok (.tuple #[.nilIface, .bool false]) w := run_typeAssert_lacksB (P := Tryd.prog) (t := 54) (z := .nilIface) Tryd.underlying76 (by kernel_rfl) (by kernel_rfl) v 26 w
theorem no_is45 (v : Value) (w : World) : (Instr.typeAssert (.iface 45 v) 26 76 true).run Tryd.prog w = .ok (.tuple #[.nilIface, .bool false]) w := run_typeAssert_lacksB (P := Tryd.prog) (t := 45) (z := .nilIface) Tryd.underlying76 (by kernel_rfl) (by kernel_rfl) v 26 w
set_option maxHeartbeats 4000000 in
set_option maxRecDepth 1000000 in
theorem is45 (e : Addr) (v : Value) (n : Nat) (W : World) (hp : Path W false (.iface 45 (.pointer (some e))) v n) :
    Calls Tryd.prog 24 #[v, .iface 45 (.pointer (some e)), .bool true] W fun ev w' => ev = .returned (.bool true) ∧ W = w' := by
  have q1 := eql54_45
  have q2 := eql45_same
  have n54 := no_is54
  have u54 := un54
  go_enter Tryd.func24, Tryd.ntmps24
  go_wp2
  go_loop [0] (fun v => ∃ n, Path W false (.iface 45 (.pointer (some e))) v n) (fun v => far W false (.iface 45 (.pointer (some e))) v)
  case atStart => exact ⟨n, hp⟩
  case round =>
    obtain ⟨m, hm⟩ := hrel
    cases hm with
    | here =>
      go_wp2
      go_ret
      exact ⟨rfl, rfl⟩
    | inn B T x k hc hq =>
      have HF : Hid (far W false (.iface 45 (.pointer (some e))) (.iface 54 (.pointer (some ⟨B, 0, none⟩))) = k + 1) := Lib.hid (far_eq (by simp) (by simp) (.inn B T x k hc hq))
      have HG : Hid (far W false (.iface 45 (.pointer (some e))) (.iface T x) = k) := Lib.hid (far_eq (by simp) (by simp) hq)
      go_wp2_with (go_at_call 75; (with_reducible refine (unwrap54 _ _ _ hc).mono ?_); rintro e' w' ⟨rfl, rfl⟩)
      go_round
      case rel => exact ⟨k, hq⟩
      case measure => rw [HF.out, HG.out]; omega
    | err B k n e => cases e
set_option maxHeartbeats 4000000 in
set_option maxRecDepth 1000000 in
theorem is23 (j : Int) (v : Value) (n : Nat) (W : World) (hp : Path W true (.iface 23 (.int .i64 j)) v n) :
    Calls Tryd.prog 24 #[v, .iface 23 (.int .i64 j), .bool true] W fun ev w' => ev = .returned (.bool true) ∧ W = w' := by
  have q1 := eql54_23
  have q2 := eql45_23
  have q3 := eql23_same
  have n54 := no_is54
  have u54 := un54
  have n45 := no_is45
  have u45 := un45
  go_enter Tryd.func24, Tryd.ntmps24
  go_wp2
  go_loop [0] (fun v => ∃ n, Path W true (.iface 23 (.int .i64 j)) v n) (fun v => far W true (.iface 23 (.int .i64 j)) v)
  case atStart => exact ⟨n, hp⟩
  case round =>
    obtain ⟨m, hm⟩ := hrel
    cases hm with
    | here =>
      go_wp2
      go_ret
      exact ⟨rfl, rfl⟩
    | inn B T x k hc hq =>
      have HF : Hid (far W true (.iface 23 (.int .i64 j)) (.iface 54 (.pointer (some ⟨B, 0, none⟩))) = k + 1) := Lib.hid (far_eq (by simp) (by simp) (.inn B T x k hc hq))
      have HG : Hid (far W true (.iface 23 (.int .i64 j)) (.iface T x) = k) := Lib.hid (far_eq (by simp) (by simp) hq)
      go_wp2_with (go_at_call 75; (with_reducible refine (unwrap54 _ _ _ hc).mono ?_); rintro e' w' ⟨rfl, rfl⟩)
      go_round
      case rel => exact ⟨k, hq⟩
      case measure => rw [HF.out, HG.out]; omega
    | err B i k hb hc hq =>
      have HF : Hid (far W true (.iface 23 (.int .i64 j)) (.iface 45 (.pointer (some ⟨B, 0, none⟩))) = k + 1) := Lib.hid (far_eq (by simp) (by simp) (.err B i k hb hc hq))
      have HG : Hid (far W true (.iface 23 (.int .i64 j)) (.iface 23 (.int .i64 i)) = k) := Lib.hid (far_eq (by simp) (by simp) hq)
      go_wp2_with (go_at_call 73; (with_reducible refine (unwrap45 _ _ _ hc).mono ?_); rintro e' w' ⟨rfl, rfl⟩)
      go_round
      case rel => exact ⟨k, hq⟩
      case measure => rw [HF.out, HG.out]; omega
set_option maxHeartbeats 4000000 in
set_option maxRecDepth 1000000 in
theorem Is45 (e : Addr) (T : TypeId) (x : Value) (n : Nat) (W : World) (hp : Path W false (.iface 45 (.pointer (some e))) (.iface T x) n) :
    Calls Tryd.prog 16 #[.iface T x, .iface 45 (.pointer (some e))] W fun ev w' => ev = .returned (.bool true) ∧ W = w' := by
  have h23 := @run_callFunc_extern Tryd.prog 23 _ ReflectliteType.typeOf Tryd.func23 (by kernel_rfl) (by kernel_rfl) (by kernel_rfl) (by kernel_rfl)
  have h87 := @run_callFunc_extern Tryd.prog 87 _ cmpEntry Tryd.func87 (by kernel_rfl) (by kernel_rfl) (by kernel_rfl) (by kernel_rfl)
  have t45 := typeOf45
  have k45 := comp45
  have H := is45 e _ n W hp
  clear hp
  go_enter Tryd.func16, Tryd.ntmps16
  go_wp2_with (go_at_call 24; (with_reducible refine H.mono ?_); rintro e' w' ⟨rfl, rfl⟩)
  go_ret
  exact ⟨rfl, rfl⟩
set_option maxHeartbeats 4000000 in
set_option maxRecDepth 1000000 in
theorem Is23 (j : Int) (T : TypeId) (x : Value) (n : Nat) (W : World) (hp : Path W true (.iface 23 (.int .i64 j)) (.iface T x) n) :
    Calls Tryd.prog 16 #[.iface T x, .iface 23 (.int .i64 j)] W fun ev w' => ev = .returned (.bool true) ∧ W = w' := by
  have h23 := @run_callFunc_extern Tryd.prog 23 _ ReflectliteType.typeOf Tryd.func23 (by kernel_rfl) (by kernel_rfl) (by kernel_rfl) (by kernel_rfl)
  have h87 := @run_callFunc_extern Tryd.prog 87 _ cmpEntry Tryd.func87 (by kernel_rfl) (by kernel_rfl) (by kernel_rfl) (by kernel_rfl)
  have t23 := typeOf23
  have k23 := comp23
  have H := is23 j _ n W hp
  clear hp
  go_enter Tryd.func16, Tryd.ntmps16
  go_wp2_with (go_at_call 24; (with_reducible refine H.mono ?_); rintro e' w' ⟨rfl, rfl⟩)
  go_ret
  exact ⟨rfl, rfl⟩
end Go.Proofs.YtbimjgklldchfaaDoor
