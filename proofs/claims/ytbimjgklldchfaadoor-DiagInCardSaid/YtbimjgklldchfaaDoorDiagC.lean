import Derived.Test.YtbimjgklldchfaaDoorDiagB
namespace Go.Proofs.YtbimjgklldchfaaDoor
open Go.RowKit Go.Extern.Stop Go.Stop Go.Extern

set_option maxHeartbeats 4000000 in
set_option maxRecDepth 1000000 in
theorem as45_miss (t : Addr) (v : Value) (j : Int) (n : Nat) (a : Addr) (W : World) (hp : Path W false (.iface 23 (.int .i64 j)) v n) :
    Calls Tryd.prog 32 #[v, .iface 50 (.pointer (some t)), .agg #[.pointer (some ⟨5, 50, none⟩), .pointer (some a), .int .u64 150], .iface 74 (.agg #[.pointer (some ⟨5, 45, none⟩)])] W
      fun ev w' => ev = .returned (.bool false) ∧ w' = W.alloc (.cells #[.pointer (some ⟨5, 50, none⟩), .pointer (some a), .int .u64 150] 65) := by
  have h23 := @run_callFunc_extern Tryd.prog 23 _ ReflectliteType.typeOf Tryd.func23 (by kernel_rfl) (by kernel_rfl) (by kernel_rfl) (by kernel_rfl)
  have h86 := @run_callFunc_extern Tryd.prog 86 _ (ReflectliteType.relation "AssignableTo" ReflectliteType.assignableTo) Tryd.func86 (by kernel_rfl) (by kernel_rfl) (by kernel_rfl) (by kernel_rfl)
  have t23 := typeOf23
  have t54 := typeOf54
  have a23 := assign23_45
  have a54 := assign54_45
  have n54 := no_as54
  have u54 := un54
  have n23 := no_as23
  have u23 := no_un23
  have uu23 := no_uns23
  go_enter Tryd.func32, Tryd.ntmps32
  go_wp2
  go_loop [0] (fun v => ∃ n, Path W false (.iface 23 (.int .i64 j)) v n) (fun v => far W false (.iface 23 (.int .i64 j)) v)
  case atStart => exact ⟨n, hp⟩
  case round =>
    obtain ⟨m, hm⟩ := hrel
    cases hm with
    | here =>
      go_wp2
      go_ret
      exact ⟨rfl, rfl⟩
    | inn B T x k hc hq =>
      have hbl := cell_lt hc
      have hc1 : (W.alloc (.cells #[.pointer (some ⟨5, 50, none⟩), .pointer (some a), .int .u64 150] 65)).cell? ⟨B, 1, none⟩ = some (.iface T x) := by rw [World.cell?_alloc_lt _ _ _ hbl]; exact hc
      have HF : Hid (far W false (.iface 23 (.int .i64 j)) (.iface 54 (.pointer (some ⟨B, 0, none⟩))) = k + 1) := Lib.hid (far_eq (by simp) (by simp) (.inn B T x k hc hq))
      have HG : Hid (far W false (.iface 23 (.int .i64 j)) (.iface T x) = k) := Lib.hid (far_eq (by simp) (by simp) hq)
      go_wp2_with (go_at_call 75; (with_reducible refine (unwrap54 _ _ _ hc1).mono ?_); rintro e' w' ⟨rfl, rfl⟩)
      go_round
      case rel => exact ⟨k, hq⟩
      case measure => rw [HF.out, HG.out]; omega
    | err B k n e => cases e

set_option maxHeartbeats 4000000 in
set_option maxRecDepth 1000000 in
theorem as23 (t : Addr) (v old : Value) (j : Int) (n : Nat) (a : Addr) (W : World) (hp : Path W true (.iface 23 (.int .i64 j)) v n)
    (ha : W.cell? a = some (.pointer (some t))) (ht0 : W.cell? t = some old) (hf0 : W.frozen? t = false) :
    Calls Tryd.prog 32 #[v, .iface 49 (.pointer (some t)), .agg #[.pointer (some ⟨5, 49, none⟩), .pointer (some a), .int .u64 150], .iface 74 (.agg #[.pointer (some ⟨5, 23, none⟩)])] W
      fun ev w' => ev = .returned (.bool true) ∧ w' = ((W.alloc (.cells #[.pointer (some ⟨5, 49, none⟩), .pointer (some a), .int .u64 150] 65)).alloc (.cells #[.int .i64 j] 23)).setCell t (.int .i64 j) := by
  have h23 := @run_callFunc_extern Tryd.prog 23 _ ReflectliteType.typeOf Tryd.func23 (by kernel_rfl) (by kernel_rfl) (by kernel_rfl) (by kernel_rfl)
  have h86 := @run_callFunc_extern Tryd.prog 86 _ (ReflectliteType.relation "AssignableTo" ReflectliteType.assignableTo) Tryd.func86 (by kernel_rfl) (by kernel_rfl) (by kernel_rfl) (by kernel_rfl)
  have h40 := @run_callFunc_extern Tryd.prog 40 _ (ReflectliteValue.method (ReflectliteValue.valueError "reflectlite.Value.Elem" 0) ReflectliteValue.elem) Tryd.func40 (by kernel_rfl) (by kernel_rfl) (by kernel_rfl) (by kernel_rfl)
  have h41 := @run_callFunc_extern Tryd.prog 41 _ ReflectliteValue.set Tryd.func41 (by kernel_rfl) (by kernel_rfl) (by kernel_rfl) (by kernel_rfl)
  have h29 := @run_callFunc_extern Tryd.prog 29 _ (fun args => ReflectliteValue.unpack (args.getD 0 (.tuple #[]))) Tryd.func29 (by kernel_rfl) (by kernel_rfl) (by kernel_rfl) (by kernel_rfl)
  have t23 := typeOf23
  have t45 := typeOf45
  have t54 := typeOf54
  have a23 := assign23_23
  have a45 := assign45_23
  have a54 := assign54_23
  have v23 := valueOf23
  have n54 := no_as54
  have u54 := un54
  have n45 := no_as45
  have u45 := un45
  have hal := cell_lt ha
  have htl := cell_lt ht0
  have el := elemV49 a t (W.alloc (.cells #[.pointer (some ⟨5, 49, none⟩), .pointer (some a), .int .u64 150] 65)) (by rw [World.cell?_alloc_lt _ _ a hal]; exact ha)
  have st := set23 t ⟨W.heap.size + 1, 0, none⟩ j old ((W.alloc (.cells #[.pointer (some ⟨5, 49, none⟩), .pointer (some a), .int .u64 150] 65)).alloc (.cells #[.int .i64 j] 23))
    (by rw [World.cell?_alloc_at _ _ _ _ (by simp)]; rfl)
    (by rw [World.cell?_alloc_lt _ _ t (by simp; omega), World.cell?_alloc_lt _ _ t htl]; exact ht0)
    (by rw [World.frozen?_alloc_old _ _ t (by simp; omega), World.frozen?_alloc_old _ _ t (Nat.ne_of_lt htl)]; exact hf0)
  go_enter Tryd.func32, Tryd.ntmps32
  go_wp2
  go_loop [0] (fun v => ∃ n, Path W true (.iface 23 (.int .i64 j)) v n) (fun v => far W true (.iface 23 (.int .i64 j)) v)
  case atStart => exact ⟨n, hp⟩
  case round =>
    obtain ⟨m, hm⟩ := hrel
    cases hm with
    | here =>
      go_wp2
      go_ret
      exact ⟨rfl, rfl⟩
    | inn B T x k hc hq =>
      have hbl := cell_lt hc
      have hc1 : (W.alloc (.cells #[.pointer (some ⟨5, 49, none⟩), .pointer (some a), .int .u64 150] 65)).cell? ⟨B, 1, none⟩ = some (.iface T x) := by rw [World.cell?_alloc_lt _ _ _ hbl]; exact hc
      have HF : Hid (far W true (.iface 23 (.int .i64 j)) (.iface 54 (.pointer (some ⟨B, 0, none⟩))) = k + 1) := Lib.hid (far_eq (by simp) (by simp) (.inn B T x k hc hq))
      have HG : Hid (far W true (.iface 23 (.int .i64 j)) (.iface T x) = k) := Lib.hid (far_eq (by simp) (by simp) hq)
      go_wp2_with (go_at_call 75; (with_reducible refine (unwrap54 _ _ _ hc1).mono ?_); rintro e' w' ⟨rfl, rfl⟩)
      go_round
      case rel => exact ⟨k, hq⟩
      case measure => rw [HF.out, HG.out]; omega
    | err B i k hb hc hq =>
      have hbl := cell_lt hc
      have hc1 : (W.alloc (.cells #[.pointer (some ⟨5, 49, none⟩), .pointer (some a), .int .u64 150] 65)).cell? ⟨B, 3, none⟩ = some (.int .i64 i) := by rw [World.cell?_alloc_lt _ _ _ hbl]; exact hc
      have HF : Hid (far W true (.iface 23 (.int .i64 j)) (.iface 45 (.pointer (some ⟨B, 0, none⟩))) = k + 1) := Lib.hid (far_eq (by simp) (by simp) (.err B i k hb hc hq))
      have HG : Hid (far W true (.iface 23 (.int .i64 j)) (.iface 23 (.int .i64 i)) = k) := Lib.hid (far_eq (by simp) (by simp) hq)
      go_wp2_with (go_at_call 73; (with_reducible refine (unwrap45 _ _ _ hc1).mono ?_); rintro e' w' ⟨rfl, rfl⟩)
      go_round
      case rel => exact ⟨k, hq⟩
      case measure => rw [HF.out, HG.out]; omega
end Go.Proofs.YtbimjgklldchfaaDoor
