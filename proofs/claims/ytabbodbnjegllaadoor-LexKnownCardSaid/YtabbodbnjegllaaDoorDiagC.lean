import Derived.Test.YtabbodbnjegllaaDoorDiagB
namespace Go.Proofs.YtabbodbnjegllaaDoor
open Go.RowKit Go.Extern.Stop Go.Stop Go.Extern

set_option maxHeartbeats 4000000 in
set_option maxRecDepth 1000000 in
theorem as45_miss (t : Addr) (v : Value) (j : Int) (n : Nat) (a : Addr) (W : World) (hp : Path W false (.iface 30 (.int .i64 j)) v n) :
    Calls Tryd.prog 44 #[v, .iface 60 (.pointer (some t)), .agg #[.pointer (some ⟨2, 60, none⟩), .pointer (some a), .int .u64 150], .iface 86 (.agg #[.pointer (some ⟨2, 59, none⟩)])] W
      fun ev w' => ev = .returned (.bool false) ∧ w' = W.alloc (.cells #[.pointer (some ⟨2, 60, none⟩), .pointer (some a), .int .u64 150] 75) := by
  have h23 := @run_callFunc_extern Tryd.prog 51 _ ReflectliteType.typeOf Tryd.func51 (by kernel_rfl) (by kernel_rfl) (by kernel_rfl) (by kernel_rfl)
  have h86 := @run_callFunc_extern Tryd.prog 85 _ (ReflectliteType.relation "AssignableTo" ReflectliteType.assignableTo) Tryd.func85 (by kernel_rfl) (by kernel_rfl) (by kernel_rfl) (by kernel_rfl)
  have t23 := typeOf23
  have a23 := assign23_45
  have n23 := no_as23
  have u23 := no_un23
  have uu23 := no_uns23
  go_enter Tryd.func44, Tryd.ntmps44
  go_wp2
  go_loop [0] (fun v => ∃ n, Path W false (.iface 30 (.int .i64 j)) v n) (fun v => far W false (.iface 30 (.int .i64 j)) v)
  case atStart => exact ⟨n, hp⟩
  case round =>
    obtain ⟨m, hm⟩ := hrel
    cases hm with
    | here =>
      go_wp2
      go_ret
      exact ⟨rfl, rfl⟩
    | err B k n e => cases e

set_option maxHeartbeats 4000000 in
set_option maxRecDepth 1000000 in
theorem as23 (t : Addr) (v old : Value) (j : Int) (n : Nat) (a : Addr) (W : World) (hp : Path W true (.iface 30 (.int .i64 j)) v n)
    (ha : W.cell? a = some (.pointer (some t))) (ht0 : W.cell? t = some old) (hf0 : W.frozen? t = false) :
    Calls Tryd.prog 44 #[v, .iface 58 (.pointer (some t)), .agg #[.pointer (some ⟨2, 58, none⟩), .pointer (some a), .int .u64 150], .iface 86 (.agg #[.pointer (some ⟨2, 30, none⟩)])] W
      fun ev w' => ev = .returned (.bool true) ∧ w' = ((W.alloc (.cells #[.pointer (some ⟨2, 58, none⟩), .pointer (some a), .int .u64 150] 75)).alloc (.cells #[.int .i64 j] 30)).setCell t (.int .i64 j) := by
  have h23 := @run_callFunc_extern Tryd.prog 51 _ ReflectliteType.typeOf Tryd.func51 (by kernel_rfl) (by kernel_rfl) (by kernel_rfl) (by kernel_rfl)
  have h86 := @run_callFunc_extern Tryd.prog 85 _ (ReflectliteType.relation "AssignableTo" ReflectliteType.assignableTo) Tryd.func85 (by kernel_rfl) (by kernel_rfl) (by kernel_rfl) (by kernel_rfl)
  have h40 := @run_callFunc_extern Tryd.prog 52 _ (ReflectliteValue.method (ReflectliteValue.valueError "reflectlite.Value.Elem" 0) ReflectliteValue.elem) Tryd.func52 (by kernel_rfl) (by kernel_rfl) (by kernel_rfl) (by kernel_rfl)
  have h41 := @run_callFunc_extern Tryd.prog 53 _ ReflectliteValue.set Tryd.func53 (by kernel_rfl) (by kernel_rfl) (by kernel_rfl) (by kernel_rfl)
  have h29 := @run_callFunc_extern Tryd.prog 41 _ (fun args => ReflectliteValue.unpack (args.getD 0 (.tuple #[]))) Tryd.func41 (by kernel_rfl) (by kernel_rfl) (by kernel_rfl) (by kernel_rfl)
  have t23 := typeOf23
  have t45 := typeOf45
  have a23 := assign23_23
  have a45 := assign45_23
  have v23 := valueOf23
  have n45 := no_as45
  have u45 := un45
  have hal := cell_lt ha
  have htl := cell_lt ht0
  have el := elemV49 a t (W.alloc (.cells #[.pointer (some ⟨2, 58, none⟩), .pointer (some a), .int .u64 150] 75)) (by rw [World.cell?_alloc_lt _ _ a hal]; exact ha)
  have st := set23 t ⟨W.heap.size + 1, 0, none⟩ j old ((W.alloc (.cells #[.pointer (some ⟨2, 58, none⟩), .pointer (some a), .int .u64 150] 75)).alloc (.cells #[.int .i64 j] 30))
    (by rw [World.cell?_alloc_at _ _ _ _ (by simp)]; rfl)
    (by rw [World.cell?_alloc_lt _ _ t (by simp; omega), World.cell?_alloc_lt _ _ t htl]; exact ht0)
    (by rw [World.frozen?_alloc_old _ _ t (by simp; omega), World.frozen?_alloc_old _ _ t (Nat.ne_of_lt htl)]; exact hf0)
  go_enter Tryd.func44, Tryd.ntmps44
  go_wp2
  go_loop [0] (fun v => ∃ n, Path W true (.iface 30 (.int .i64 j)) v n) (fun v => far W true (.iface 30 (.int .i64 j)) v)
  case atStart => exact ⟨n, hp⟩
  case round =>
    obtain ⟨m, hm⟩ := hrel
    cases hm with
    | here =>
      go_wp2
      go_ret
      exact ⟨rfl, rfl⟩
    | err B i k hb hc hq =>
      have hbl := cell_lt hc
      have hc1 : (W.alloc (.cells #[.pointer (some ⟨2, 58, none⟩), .pointer (some a), .int .u64 150] 75)).cell? ⟨B, 3, none⟩ = some (.int .i64 i) := by rw [World.cell?_alloc_lt _ _ _ hbl]; exact hc
      have HF : Hid (far W true (.iface 30 (.int .i64 j)) (.iface 59 (.pointer (some ⟨B, 0, none⟩))) = k + 1) := Lib.hid (far_eq (by simp) (.err B i k hb hc hq))
      have HG : Hid (far W true (.iface 30 (.int .i64 j)) (.iface 30 (.int .i64 i)) = k) := Lib.hid (far_eq (by simp) hq)
      go_wp2_with (go_at_call 80; (with_reducible refine (unwrap45 _ _ _ hc1).mono ?_); rintro e' w' ⟨rfl, rfl⟩)
      go_round
      case rel => exact ⟨k, hq⟩
      case measure => rw [HF.out, HG.out]; omega
end Go.Proofs.YtabbodbnjegllaaDoor
