import Derived.Test.YtbimjgklldchfaaDoorDiagH
namespace Go.Proofs.YtbimjgklldchfaaDoor
open Go.RowKit

theorem at_any (p : Option Addr) (len c k : Nat) (at' : Int) (w : World) (hl : len ≤ 500) (hk : min (max at' 0) (len : Int) = (k : Int)) :
    Calls Tryd.prog 13 #[.slice p len c, .int .i64 at'] w fun e w' => e = .returned (.int .i64 k) ∧ w = w' := by
  have hm : max 0 (min at' (len : Int)) = (k : Int) := by omega
  clear hk
  go_enter Tryd.func13, Tryd.ntmps13
  go_wp2
  go_ret
  exact ⟨rfl, rfl⟩
set_option maxHeartbeats 1000000 in
theorem where_zero (p : Option Addr) (len c : Nat) (at' : Int) (w : World) (hl : len ≤ 500) (hk : min (max at' 0) (len : Int) = 0) :
    Calls Tryd.prog 9 #[.slice p len c, .int .i64 at'] w fun e w' => e = .returned (.tuple #[.int .i64 1, .int .i64 1]) ∧ w = w' := by
  have HA := at_any p len c 0 at' w hl hk
  clear hk
  go_enter Tryd.func9, Tryd.ntmps9
  go_wp2
  refine wp_loop_rounds 1 ?_
  rw [rounds_succ]
  go_wp2_with (go_at_call 13; (with_reducible refine HA.mono ?_); rintro e' w' ⟨rfl, rfl⟩)
  go_ret2
  exact ⟨rfl, rfl⟩
set_option maxHeartbeats 2000000 in
theorem where_at (b off len c k : Nat) (xs : List Int) (at' : Int) (w : World) (hl : len ≤ 500) (hk : min (max at' 0) (len : Int) = (k : Int)) (hc : ∀ i, i < len → w.cell? ⟨b, off + i, none⟩ = some (.int .u8 (xs.getD i 0))) (hlc : len ≤ c) :
    Calls Tryd.prog 9 #[.slice (some ⟨b, off, none⟩) len c, .int .i64 at'] w fun e w' => e = .returned (.tuple #[.int .i64 (lineF xs k), .int .i64 ((k : Int) - lastF xs k)]) ∧ w = w' := by
  have hkl : k ≤ len := by omega
  have HA := at_any (some ⟨b, off, none⟩) len c k at' w hl hk
  have HC := Lib.hid hc
  clear hc hk
  go_enter Tryd.func9, Tryd.ntmps9
  go_wp2
  go_loop [6, 7, 8] (fun l c i => ∃ m : Nat, m ≤ k ∧ i = .int .i64 m ∧ l = .int .i64 (lineF xs m) ∧ c = .int .i64 ((m : Int) - lastF xs m)) (fun _ _ i => k - (RowKit.intOf i).toNat)
  case atStart => exact ⟨0, Nat.zero_le _, rfl, rfl, rfl⟩
  case round =>
    obtain ⟨m, hm, rfl, rfl, rfl⟩ := hrel
    have h1 := line_bd xs m
    have h2 := last_bd xs m
    by_cases hlt : m < k
    · have hcell := HC.out m (by omega)
      have h3 : Hid (lineF xs (m + 1) = if xs.getD m 0 = 10 then lineF xs m + 1 else lineF xs m) := Lib.hid rfl
      have h4 : Hid (lastF xs (m + 1) = if xs.getD m 0 = 10 then (m : Int) else lastF xs m) := Lib.hid rfl
      generalize lineF xs m = L at *
      generalize lastF xs m = R at *
      generalize xs.getD m 0 = y at *
      have hml : (m : Int) < len := by omega
      by_cases h10 : y = 10
      · subst h10
        go_wp2_with (go_at_call 13; (with_reducible refine HA.mono ?_); rintro e' w' ⟨rfl, rfl⟩)
        go_round
        case rel => exact ⟨m + 1, by omega, by go_num, by rw [h3.out, if_pos trivial]; go_num, by rw [h4.out, if_pos trivial]; congr 1; omega⟩
        case measure => simp [RowKit.intOf]; omega
      · have hd : (y == 10) = false := by simpa using h10
        go_wp2_with (go_at_call 13; (with_reducible refine HA.mono ?_); rintro e' w' ⟨rfl, rfl⟩)
        go_round
        case rel => exact ⟨m + 1, by omega, by go_num, by rw [h3.out, if_neg h10], by rw [h4.out, if_neg h10]; congr 1; omega⟩
        case measure => simp [RowKit.intOf]; omega
    · obtain rfl : m = k := by omega
      go_wp2_with (go_at_call 13; (with_reducible refine HA.mono ?_); rintro e' w' ⟨rfl, rfl⟩)
      go_ret2
      exact ⟨rfl, rfl⟩
theorem where_src (p : Option Addr) (len c k : Nat) (xs : List Int) (at' : Int) (w : World) (hl : len ≤ 500) (hk : min (max at' 0) (len : Int) = (k : Int)) (hs : Src w p len c xs) :
    Calls Tryd.prog 9 #[.slice p len c, .int .i64 at'] w fun e w' => e = .returned (.tuple #[.int .i64 (lineF xs k), .int .i64 ((k : Int) - lastF xs k)]) ∧ w = w' := by
  obtain ⟨h1, h2, h3⟩ := hs
  rcases h3 with ⟨rfl, rfl⟩ | ⟨b, off, rfl, hc, _, hx⟩
  · obtain rfl : k = 0 := by omega
    exact where_zero p 0 0 at' w hl hk
  · exact where_at b off len c k xs at' w hl hk hx hc
theorem unwrap_err (B : Nat) (n : Int) (w : World) (hc : w.cell? ⟨B, 3, none⟩ = some (.int .i64 n)) :
    Calls Tryd.prog 14 #[.iface 45 (.pointer (some ⟨B, 0, none⟩))] w fun e w' => e = .returned (.iface 23 (.int .i64 n)) ∧ w = w' := by
  have u45 := un45
  go_enter Tryd.func14, Tryd.ntmps14
  go_wp2_with (go_at_call 73; (with_reducible refine (unwrap45 _ _ _ hc).mono ?_); rintro e' w' ⟨rfl, rfl⟩)
  go_ret
  exact ⟨rfl, rfl⟩
theorem eqlE (a b : Int) (w : World) : (binOp .eql 26 (.iface 23 (.int .i64 a)) (.iface 23 (.int .i64 b))).run Tryd.prog w = .ok (.bool (a == b)) w := by kernel_rfl
end Go.Proofs.YtbimjgklldchfaaDoor
