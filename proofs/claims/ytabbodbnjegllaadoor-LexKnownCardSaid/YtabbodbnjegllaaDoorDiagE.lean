import Derived.Test.YtabbodbnjegllaaDoorProg
import Derived.Test.YtabbodbnjegllaaDoorDiagM
import Derived.WalkKit
import Derived.Handy
import Derived.Lib.Hide
namespace Go.Proofs.YtabbodbnjegllaaDoor
open Go.RowKit Go.Lib
theorem ret_i64 {a b : Int} (h : a = b) : Ending.returned (.int .i64 a) = .returned (.int .i64 b) := by rw [h]
set_option maxHeartbeats 1000000 in
theorem count_at (b off n c d : Nat) (xs : List Int) (w : World) (hn : xs.length = n) (hc : ∀ i, i < n → w.cell? ⟨b, off + i, none⟩ = some (.int .u8 (xs.getD i 0))) (hs : w.cell? ⟨d, 0, none⟩ = some (.int .u8 10)) :
    Calls Tryd.prog 33 #[.slice (some ⟨b, off, none⟩) n c, .slice (some ⟨d, 0, none⟩) 1 1] w fun e w' => e = .returned (.int .i64 (countByte (bytesOf xs) (10 : Int).toNat.toUInt8)) ∧ w = w' := by
  have h26 := @run_callFunc_extern Tryd.prog 46 _ Extern.BytealgCount.count Tryd.func46 (by kernel_rfl) (by kernel_rfl) (by kernel_rfl) (by kernel_rfl)
  have hr := run_countSlice (P := Tryd.prog) w b off n c xs hn hc 10
  generalize countByte (bytesOf xs) (10 : Int).toNat.toUInt8 = m at *
  clear hc hn
  go_enter Tryd.func33, Tryd.ntmps33
  go_wp2
  go_ret
  exact ⟨rfl, rfl⟩
set_option maxHeartbeats 1000000 in
theorem count_nil (d : Nat) (w : World) (hs : w.cell? ⟨d, 0, none⟩ = some (.int .u8 10)) :
    Calls Tryd.prog 33 #[.slice none 0 0, .slice (some ⟨d, 0, none⟩) 1 1] w fun e w' => e = .returned (.int .i64 0) ∧ w = w' := by
  have h26 := @run_callFunc_extern Tryd.prog 46 _ Extern.BytealgCount.count Tryd.func46 (by kernel_rfl) (by kernel_rfl) (by kernel_rfl) (by kernel_rfl)
  have hr := run_countNil (P := Tryd.prog) w 0 0 10
  go_enter Tryd.func33, Tryd.ntmps33
  go_wp2
  go_ret
  exact ⟨rfl, rfl⟩
theorem last_nil (w : World) :
    Calls Tryd.prog 34 #[.slice none 0 0, .int .u8 10] w fun e w' => e = .returned (.int .i64 (-1)) ∧ w = w' := by
  go_enter Tryd.func34, Tryd.ntmps34
  go_wp2
  refine wp_loop_rounds 1 ?_
  rw [rounds_succ]
  go_wp2
  go_ret
  exact ⟨rfl, rfl⟩
set_option maxHeartbeats 1000000 in
theorem last_in (b off n c : Nat) (xs : List Int) (w : World) (_hn : n ≤ xs.length) (hb : n ≤ 70000) (hc : ∀ i, i < n → w.cell? ⟨b, off + i, none⟩ = some (.int .u8 (xs.getD i 0))) :
    Calls Tryd.prog 48 #[.slice (some ⟨b, off, none⟩) n c, .int .u8 10] w fun e w' => e = .returned (.int .i64 (lastF xs n)) ∧ w = w' := by
  have HC := Lib.hid hc
  clear hc
  go_enter Tryd.func48, Tryd.ntmps48
  go_wp2
  go_loop [5] (fun i => ∃ m : Nat, m ≤ n ∧ i = .int .i64 ((m : Int) - 1) ∧ lastF xs n = lastF xs m) (fun i => (RowKit.intOf i + 1).toNat)
  case atStart => exact ⟨n, Nat.le_refl _, rfl, rfl⟩
  case round =>
    obtain ⟨m, hm, rfl, he⟩ := hrel
    have HE := Lib.hid he
    clear he
    cases m with
    | zero =>
      go_wp2
      go_ret
      exact ⟨by rw [HE.out]; rfl, rfl⟩
    | succ m =>
      have hcell := HC.out m (by omega)
      obtain ⟨y, hy⟩ : ∃ y, xs.getD m 0 = y := ⟨_, rfl⟩
      rw [hy] at hcell
      have HY := Lib.hid hy
      clear hy
      rw [show ((m + 1 : Nat) : Int) - 1 = (m : Int) by omega]
      by_cases h10 : y = 10
      · subst h10
        go_wp2
        go_ret
        exact ⟨ret_i64 (by rw [HE.out, lastF, if_pos HY.out]), rfl⟩
      · have hd : (y == 10) = false := by simpa using h10
        go_wp2
        go_round
        case rel => exact ⟨m, by omega, by go_num, by rw [HE.out, lastF, if_neg (by rw [HY.out]; exact h10)]⟩
        case measure => simp only [RowKit.intOf]; omega
theorem last_at (b off n c : Nat) (xs : List Int) (w : World) (hn : n ≤ xs.length) (hb : n ≤ 70000) (hc : ∀ i, i < n → w.cell? ⟨b, off + i, none⟩ = some (.int .u8 (xs.getD i 0))) :
    Calls Tryd.prog 34 #[.slice (some ⟨b, off, none⟩) n c, .int .u8 10] w fun e w' => e = .returned (.int .i64 (lastF xs n)) ∧ w = w' := by
  have H := last_in b off n c xs w hn hb hc
  clear hc hn
  generalize lastF xs n = r at *
  go_enter Tryd.func34, Tryd.ntmps34
  go_wp2_with (go_at_call 48; refine H.mono ?_; rintro e' w' ⟨rfl, rfl⟩)
  go_ret
  exact ⟨rfl, rfl⟩
theorem new_ok (v : Value) (at' : Int) (w : World) :
    Calls Tryd.prog 20 #[v, .int .i64 at', .int .i64 0] w fun e w' => e = .returned .nilIface ∧ w = w' := by
  go_enter Tryd.func20, Tryd.ntmps20
  go_wp2
  go_ret
  exact ⟨rfl, rfl⟩
set_option maxHeartbeats 1000000 in
theorem new_nil (at' n : Int) (w : World) (h0 : n ≠ 0) :
    Calls Tryd.prog 20 #[.slice none 0 0, .int .i64 at', .int .i64 n] w fun e w' => e = .returned (.iface 59 (.pointer (some ⟨w.heap.size + 1, 0, none⟩))) ∧ w' = (w.alloc (.cells #[.int .u8 10] 5)).alloc (.cells #[.int .i64 0, .int .i64 1, .int .i64 1, .int .i64 n] 62) := by
  have hz : (n == 0) = false := by simpa using h0
  have hm : min (max at' 0) 0 = 0 := by omega
  go_enter Tryd.func20, Tryd.ntmps20
  go_wp2_with (first | (go_at_call 33; (with_reducible refine (count_nil _ _ (by simp)).mono ?_); rintro e' w' ⟨rfl, rfl⟩) | (go_at_call 34; (with_reducible refine (last_nil _).mono ?_); rintro e' w' ⟨rfl, rfl⟩))
  go_ret
  exact ⟨rfl, rfl⟩
set_option maxHeartbeats 1000000 in
theorem new_at (b off len c k : Nat) (xs : List Int) (at' n : Int) (w : World) (h0 : n ≠ 0) (hl : xs.length = len) (hcap : len ≤ c) (hb : len ≤ 70000) (hk : min (max at' 0) (len : Int) = (k : Int))
    (hr : ∀ i, 0 ≤ xs.getD i 0 ∧ xs.getD i 0 < 256) (hc : ∀ i, i < len → w.cell? ⟨b, off + i, none⟩ = some (.int .u8 (xs.getD i 0))) (hbl : b < w.heap.size) :
    Calls Tryd.prog 20 #[.slice (some ⟨b, off, none⟩) len c, .int .i64 at', .int .i64 n] w fun e w' => e = .returned (.iface 59 (.pointer (some ⟨w.heap.size + 1, 0, none⟩))) ∧ w' = (w.alloc (.cells #[.int .u8 10] 5)).alloc (.cells #[.int .i64 k, .int .i64 (lineF xs k), .int .i64 ((k : Int) - lastF xs k), .int .i64 n] 62) := by
  have hz : (n == 0) = false := by simpa using h0
  have hkl : k ≤ len := by omega
  have hlb := last_bd xs k
  have hlbd := line_bd xs k
  have hcl := count_line xs hr k (by omega)
  have HA : ∀ i, i < k → (w.alloc (.cells #[.int .u8 10] 5)).cell? ⟨b, off + i, none⟩ = some (.int .u8 (xs.getD i 0)) := fun i hi => by rw [World.cell?_alloc_lt _ _ _ hbl]; exact hc i (by omega)
  have H1 := count_at b off k c w.heap.size (xs.take k) (w.alloc (.cells #[.int .u8 10] 5)) (by simp; omega) (fun i hi => by rw [HA i hi]; simp [List.getD, hi]) (by simp)
  have H2 := last_at b off k c xs (w.alloc (.cells #[.int .u8 10] 5)) (by omega) (by omega) HA
  clear HA hc hr
  generalize countByte (bytesOf (xs.take k)) (10 : Int).toNat.toUInt8 = cnt at *
  have hcn : (lineF xs k : Int) = 1 + cnt := hcl.symm
  have hcnt : cnt ≤ 70000 := by omega
  rw [hcn]
  generalize lineF xs k = L at *
  generalize lastF xs k = R at *
  clear hl hcl hcn
  clear hlbd
  go_enter Tryd.func20, Tryd.ntmps20
  go_wp2_with (first | (go_at_call 33; (with_reducible refine H1.mono ?_); rintro e' w' ⟨rfl, rfl⟩) | (go_at_call 34; (with_reducible refine H2.mono ?_); rintro e' w' ⟨rfl, rfl⟩))
  go_ret
  exact ⟨rfl, rfl⟩
set_option maxHeartbeats 1000000 in
theorem count_none (a : Addr) (d : Nat) (w : World) (hs : w.cell? ⟨d, 0, none⟩ = some (.int .u8 10)) :
    Calls Tryd.prog 33 #[.slice (some a) 0 0, .slice (some ⟨d, 0, none⟩) 1 1] w fun e w' => e = .returned (.int .i64 0) ∧ w = w' := by
  have h26 := @run_callFunc_extern Tryd.prog 46 _ Extern.BytealgCount.count Tryd.func46 (by kernel_rfl) (by kernel_rfl) (by kernel_rfl) (by kernel_rfl)
  have hr : (Extern.BytealgCount.count #[.slice (some a) 0 0, .int .u8 10]).run Tryd.prog w = .ok (.int .i64 0) w := run_countAt (P := Tryd.prog) w a 0 0 [] rfl (fun i hi => by omega) 10
  go_enter Tryd.func33, Tryd.ntmps33
  go_wp2
  go_ret
  exact ⟨rfl, rfl⟩
theorem last_none (a : Addr) (w : World) :
    Calls Tryd.prog 34 #[.slice (some a) 0 0, .int .u8 10] w fun e w' => e = .returned (.int .i64 (-1)) ∧ w = w' := by
  go_enter Tryd.func34, Tryd.ntmps34
  go_wp2
  refine wp_loop_rounds 1 ?_
  rw [rounds_succ]
  go_wp2
  go_ret
  exact ⟨rfl, rfl⟩
set_option maxHeartbeats 1000000 in
theorem new_none (a : Addr) (at' n : Int) (w : World) (h0 : n ≠ 0) :
    Calls Tryd.prog 20 #[.slice (some a) 0 0, .int .i64 at', .int .i64 n] w fun e w' => e = .returned (.iface 59 (.pointer (some ⟨w.heap.size + 1, 0, none⟩))) ∧ w' = (w.alloc (.cells #[.int .u8 10] 5)).alloc (.cells #[.int .i64 0, .int .i64 1, .int .i64 1, .int .i64 n] 62) := by
  have hz : (n == 0) = false := by simpa using h0
  have hm : min (max at' 0) 0 = 0 := by omega
  go_enter Tryd.func20, Tryd.ntmps20
  go_wp2_with (first | (go_at_call 33; (with_reducible refine (count_none _ _ _ (by simp)).mono ?_); rintro e' w' ⟨rfl, rfl⟩) | (go_at_call 34; (with_reducible refine (last_none _ _).mono ?_); rintro e' w' ⟨rfl, rfl⟩))
  go_ret
  exact ⟨rfl, rfl⟩
end Go.Proofs.YtabbodbnjegllaaDoor
