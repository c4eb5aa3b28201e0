import Derived.Test.YtijaelncmjcbmaaTreeFd
namespace Go.Proofs.Ytijaelncmjcbmaa
open Go.RowKit
set_option maxHeartbeats 8000000 in
set_option maxRecDepth 1000000 in
theorem refWords_2 (w : World) (at0 n : Int) (s : ByteArray) (kp : Option Addr) (kl kc : Nat) (hs : s.size ≤ 70000) :
    Calls Try.prog 25 #[.agg #[.int .u8 2, .int .i64 at0, .string s, .int .i64 n, .slice kp kl kc]] w fun e w' => e = .returned (.bool ((true == namesF (bytesI s)) && ((true || decide (s.size = 0)) && (decide (0 ≤ n) && decide (n ≤ 0))))) ∧ Below w.heap.size w w' := by
  have HQ := Lib.hid (refIsName_at (w.alloc (.cells #[.int .u8 2, .int .i64 at0, .string s, .int .i64 n, .slice kp kl kc] 41)) s hs)
  have HE : Hid (s.toList.isEmpty = decide (s.size = 0)) := Lib.hid (isEmpty_size s)
  generalize namesF (bytesI s) = b at *
  rw [show ((true == b) && ((true || decide (s.size = 0)) && (decide (0 ≤ n) && decide (n ≤ 0)))) = (b && (decide (0 ≤ n) && decide (n ≤ 0))) by cases b <;> simp]
  cases b with
  | false =>
    clear HE
    go_enter Try.func25, Try.ntmps25
    go_wp2_with fail
    (with_reducible refine HQ.out.mono ?_)
    rintro e w' ⟨rfl, rfl⟩
    clear HQ
    go_wp2
    go_ret
    first | exact ⟨rfl, one_below w _⟩ | exact ⟨by simp, one_below w _⟩
  | true =>
    clear HE
    by_cases h0 : 0 ≤ n
    · have d0 : decide (n ≥ 0) = true := by simpa using h0
      have d0' : decide (0 ≤ n) = true := by simpa using h0
      by_cases h1 : n ≤ 0
      · have d1 : decide (n ≤ 0) = true := by simpa using h1
        rw [d0', d1]
        clear h0 h1
        go_enter Try.func25, Try.ntmps25
        go_wp2_with fail
        (with_reducible refine HQ.out.mono ?_)
        rintro e w' ⟨rfl, rfl⟩
        clear HQ
        go_wp2
        go_ret
        first | exact ⟨rfl, one_below w _⟩ | exact ⟨by simp, one_below w _⟩
      · have d1 : decide (n ≤ 0) = false := by simpa using h1
        rw [d0', d1]
        clear h0 h1
        go_enter Try.func25, Try.ntmps25
        go_wp2_with fail
        (with_reducible refine HQ.out.mono ?_)
        rintro e w' ⟨rfl, rfl⟩
        clear HQ
        go_wp2
        go_ret
        first | exact ⟨rfl, one_below w _⟩ | exact ⟨by simp, one_below w _⟩
    · have d0 : decide (n ≥ 0) = false := by simpa using h0
      have d0' : decide (0 ≤ n) = false := by simpa using h0
      rw [d0']
      clear h0
      go_enter Try.func25, Try.ntmps25
      go_wp2_with fail
      (with_reducible refine HQ.out.mono ?_)
      rintro e w' ⟨rfl, rfl⟩
      clear HQ
      go_wp2
      go_ret
      first | exact ⟨rfl, one_below w _⟩ | exact ⟨by simp, one_below w _⟩

set_option maxHeartbeats 8000000 in
set_option maxRecDepth 1000000 in
theorem refWords_3 (w : World) (at0 n : Int) (s : ByteArray) (kp : Option Addr) (kl kc : Nat) (hs : s.size ≤ 70000) :
    Calls Try.prog 25 #[.agg #[.int .u8 3, .int .i64 at0, .string s, .int .i64 n, .slice kp kl kc]] w fun e w' => e = .returned (.bool ((true == namesF (bytesI s)) && ((true || decide (s.size = 0)) && (decide (0 ≤ n) && decide (n ≤ 1))))) ∧ Below w.heap.size w w' := by
  have HQ := Lib.hid (refIsName_at (w.alloc (.cells #[.int .u8 3, .int .i64 at0, .string s, .int .i64 n, .slice kp kl kc] 41)) s hs)
  have HE : Hid (s.toList.isEmpty = decide (s.size = 0)) := Lib.hid (isEmpty_size s)
  generalize namesF (bytesI s) = b at *
  rw [show ((true == b) && ((true || decide (s.size = 0)) && (decide (0 ≤ n) && decide (n ≤ 1)))) = (b && (decide (0 ≤ n) && decide (n ≤ 1))) by cases b <;> simp]
  cases b with
  | false =>
    clear HE
    go_enter Try.func25, Try.ntmps25
    go_wp2_with fail
    (with_reducible refine HQ.out.mono ?_)
    rintro e w' ⟨rfl, rfl⟩
    clear HQ
    go_wp2
    go_ret
    first | exact ⟨rfl, one_below w _⟩ | exact ⟨by simp, one_below w _⟩
  | true =>
    clear HE
    by_cases h0 : 0 ≤ n
    · have d0 : decide (n ≥ 0) = true := by simpa using h0
      have d0' : decide (0 ≤ n) = true := by simpa using h0
      by_cases h1 : n ≤ 1
      · have d1 : decide (n ≤ 1) = true := by simpa using h1
        rw [d0', d1]
        clear h0 h1
        go_enter Try.func25, Try.ntmps25
        go_wp2_with fail
        (with_reducible refine HQ.out.mono ?_)
        rintro e w' ⟨rfl, rfl⟩
        clear HQ
        go_wp2
        go_ret
        first | exact ⟨rfl, one_below w _⟩ | exact ⟨by simp, one_below w _⟩
      · have d1 : decide (n ≤ 1) = false := by simpa using h1
        rw [d0', d1]
        clear h0 h1
        go_enter Try.func25, Try.ntmps25
        go_wp2_with fail
        (with_reducible refine HQ.out.mono ?_)
        rintro e w' ⟨rfl, rfl⟩
        clear HQ
        go_wp2
        go_ret
        first | exact ⟨rfl, one_below w _⟩ | exact ⟨by simp, one_below w _⟩
    · have d0 : decide (n ≥ 0) = false := by simpa using h0
      have d0' : decide (0 ≤ n) = false := by simpa using h0
      rw [d0']
      clear h0
      go_enter Try.func25, Try.ntmps25
      go_wp2_with fail
      (with_reducible refine HQ.out.mono ?_)
      rintro e w' ⟨rfl, rfl⟩
      clear HQ
      go_wp2
      go_ret
      first | exact ⟨rfl, one_below w _⟩ | exact ⟨by simp, one_below w _⟩

set_option maxHeartbeats 8000000 in
set_option maxRecDepth 1000000 in
theorem refWords_5 (w : World) (at0 n : Int) (s : ByteArray) (kp : Option Addr) (kl kc : Nat) (hs : s.size ≤ 70000) :
    Calls Try.prog 25 #[.agg #[.int .u8 5, .int .i64 at0, .string s, .int .i64 n, .slice kp kl kc]] w fun e w' => e = .returned (.bool ((true == namesF (bytesI s)) && ((true || decide (s.size = 0)) && (decide (0 ≤ n) && decide (n ≤ 0))))) ∧ Below w.heap.size w w' := by
  have HQ := Lib.hid (refIsName_at (w.alloc (.cells #[.int .u8 5, .int .i64 at0, .string s, .int .i64 n, .slice kp kl kc] 41)) s hs)
  have HE : Hid (s.toList.isEmpty = decide (s.size = 0)) := Lib.hid (isEmpty_size s)
  generalize namesF (bytesI s) = b at *
  rw [show ((true == b) && ((true || decide (s.size = 0)) && (decide (0 ≤ n) && decide (n ≤ 0)))) = (b && (decide (0 ≤ n) && decide (n ≤ 0))) by cases b <;> simp]
  cases b with
  | false =>
    clear HE
    go_enter Try.func25, Try.ntmps25
    go_wp2_with fail
    (with_reducible refine HQ.out.mono ?_)
    rintro e w' ⟨rfl, rfl⟩
    clear HQ
    go_wp2
    go_ret
    first | exact ⟨rfl, one_below w _⟩ | exact ⟨by simp, one_below w _⟩
  | true =>
    clear HE
    by_cases h0 : 0 ≤ n
    · have d0 : decide (n ≥ 0) = true := by simpa using h0
      have d0' : decide (0 ≤ n) = true := by simpa using h0
      by_cases h1 : n ≤ 0
      · have d1 : decide (n ≤ 0) = true := by simpa using h1
        rw [d0', d1]
        clear h0 h1
        go_enter Try.func25, Try.ntmps25
        go_wp2_with fail
        (with_reducible refine HQ.out.mono ?_)
        rintro e w' ⟨rfl, rfl⟩
        clear HQ
        go_wp2
        go_ret
        first | exact ⟨rfl, one_below w _⟩ | exact ⟨by simp, one_below w _⟩
      · have d1 : decide (n ≤ 0) = false := by simpa using h1
        rw [d0', d1]
        clear h0 h1
        go_enter Try.func25, Try.ntmps25
        go_wp2_with fail
        (with_reducible refine HQ.out.mono ?_)
        rintro e w' ⟨rfl, rfl⟩
        clear HQ
        go_wp2
        go_ret
        first | exact ⟨rfl, one_below w _⟩ | exact ⟨by simp, one_below w _⟩
    · have d0 : decide (n ≥ 0) = false := by simpa using h0
      have d0' : decide (0 ≤ n) = false := by simpa using h0
      rw [d0']
      clear h0
      go_enter Try.func25, Try.ntmps25
      go_wp2_with fail
      (with_reducible refine HQ.out.mono ?_)
      rintro e w' ⟨rfl, rfl⟩
      clear HQ
      go_wp2
      go_ret
      first | exact ⟨rfl, one_below w _⟩ | exact ⟨by simp, one_below w _⟩

set_option maxHeartbeats 8000000 in
set_option maxRecDepth 1000000 in
theorem refWords_7 (w : World) (at0 n : Int) (s : ByteArray) (kp : Option Addr) (kl kc : Nat) (hs : s.size ≤ 70000) :
    Calls Try.prog 25 #[.agg #[.int .u8 7, .int .i64 at0, .string s, .int .i64 n, .slice kp kl kc]] w fun e w' => e = .returned (.bool ((true == namesF (bytesI s)) && ((true || decide (s.size = 0)) && (decide (0 ≤ n) && decide (n ≤ 1))))) ∧ Below w.heap.size w w' := by
  have HQ := Lib.hid (refIsName_at (w.alloc (.cells #[.int .u8 7, .int .i64 at0, .string s, .int .i64 n, .slice kp kl kc] 41)) s hs)
  have HE : Hid (s.toList.isEmpty = decide (s.size = 0)) := Lib.hid (isEmpty_size s)
  generalize namesF (bytesI s) = b at *
  rw [show ((true == b) && ((true || decide (s.size = 0)) && (decide (0 ≤ n) && decide (n ≤ 1)))) = (b && (decide (0 ≤ n) && decide (n ≤ 1))) by cases b <;> simp]
  cases b with
  | false =>
    clear HE
    go_enter Try.func25, Try.ntmps25
    go_wp2_with fail
    (with_reducible refine HQ.out.mono ?_)
    rintro e w' ⟨rfl, rfl⟩
    clear HQ
    go_wp2
    go_ret
    first | exact ⟨rfl, one_below w _⟩ | exact ⟨by simp, one_below w _⟩
  | true =>
    clear HE
    by_cases h0 : 0 ≤ n
    · have d0 : decide (n ≥ 0) = true := by simpa using h0
      have d0' : decide (0 ≤ n) = true := by simpa using h0
      by_cases h1 : n ≤ 1
      · have d1 : decide (n ≤ 1) = true := by simpa using h1
        rw [d0', d1]
        clear h0 h1
        go_enter Try.func25, Try.ntmps25
        go_wp2_with fail
        (with_reducible refine HQ.out.mono ?_)
        rintro e w' ⟨rfl, rfl⟩
        clear HQ
        go_wp2
        go_ret
        first | exact ⟨rfl, one_below w _⟩ | exact ⟨by simp, one_below w _⟩
      · have d1 : decide (n ≤ 1) = false := by simpa using h1
        rw [d0', d1]
        clear h0 h1
        go_enter Try.func25, Try.ntmps25
        go_wp2_with fail
        (with_reducible refine HQ.out.mono ?_)
        rintro e w' ⟨rfl, rfl⟩
        clear HQ
        go_wp2
        go_ret
        first | exact ⟨rfl, one_below w _⟩ | exact ⟨by simp, one_below w _⟩
    · have d0 : decide (n ≥ 0) = false := by simpa using h0
      have d0' : decide (0 ≤ n) = false := by simpa using h0
      rw [d0']
      clear h0
      go_enter Try.func25, Try.ntmps25
      go_wp2_with fail
      (with_reducible refine HQ.out.mono ?_)
      rintro e w' ⟨rfl, rfl⟩
      clear HQ
      go_wp2
      go_ret
      first | exact ⟨rfl, one_below w _⟩ | exact ⟨by simp, one_below w _⟩

set_option maxHeartbeats 8000000 in
set_option maxRecDepth 1000000 in
theorem refWords_11 (w : World) (at0 n : Int) (s : ByteArray) (kp : Option Addr) (kl kc : Nat) (hs : s.size ≤ 70000) :
    Calls Try.prog 25 #[.agg #[.int .u8 11, .int .i64 at0, .string s, .int .i64 n, .slice kp kl kc]] w fun e w' => e = .returned (.bool ((true == namesF (bytesI s)) && ((true || decide (s.size = 0)) && (decide (0 ≤ n) && decide (n ≤ 0))))) ∧ Below w.heap.size w w' := by
  have HQ := Lib.hid (refIsName_at (w.alloc (.cells #[.int .u8 11, .int .i64 at0, .string s, .int .i64 n, .slice kp kl kc] 41)) s hs)
  have HE : Hid (s.toList.isEmpty = decide (s.size = 0)) := Lib.hid (isEmpty_size s)
  generalize namesF (bytesI s) = b at *
  rw [show ((true == b) && ((true || decide (s.size = 0)) && (decide (0 ≤ n) && decide (n ≤ 0)))) = (b && (decide (0 ≤ n) && decide (n ≤ 0))) by cases b <;> simp]
  cases b with
  | false =>
    clear HE
    go_enter Try.func25, Try.ntmps25
    go_wp2_with fail
    (with_reducible refine HQ.out.mono ?_)
    rintro e w' ⟨rfl, rfl⟩
    clear HQ
    go_wp2
    go_ret
    first | exact ⟨rfl, one_below w _⟩ | exact ⟨by simp, one_below w _⟩
  | true =>
    clear HE
    by_cases h0 : 0 ≤ n
    · have d0 : decide (n ≥ 0) = true := by simpa using h0
      have d0' : decide (0 ≤ n) = true := by simpa using h0
      by_cases h1 : n ≤ 0
      · have d1 : decide (n ≤ 0) = true := by simpa using h1
        rw [d0', d1]
        clear h0 h1
        go_enter Try.func25, Try.ntmps25
        go_wp2_with fail
        (with_reducible refine HQ.out.mono ?_)
        rintro e w' ⟨rfl, rfl⟩
        clear HQ
        go_wp2
        go_ret
        first | exact ⟨rfl, one_below w _⟩ | exact ⟨by simp, one_below w _⟩
      · have d1 : decide (n ≤ 0) = false := by simpa using h1
        rw [d0', d1]
        clear h0 h1
        go_enter Try.func25, Try.ntmps25
        go_wp2_with fail
        (with_reducible refine HQ.out.mono ?_)
        rintro e w' ⟨rfl, rfl⟩
        clear HQ
        go_wp2
        go_ret
        first | exact ⟨rfl, one_below w _⟩ | exact ⟨by simp, one_below w _⟩
    · have d0 : decide (n ≥ 0) = false := by simpa using h0
      have d0' : decide (0 ≤ n) = false := by simpa using h0
      rw [d0']
      clear h0
      go_enter Try.func25, Try.ntmps25
      go_wp2_with fail
      (with_reducible refine HQ.out.mono ?_)
      rintro e w' ⟨rfl, rfl⟩
      clear HQ
      go_wp2
      go_ret
      first | exact ⟨rfl, one_below w _⟩ | exact ⟨by simp, one_below w _⟩

set_option maxHeartbeats 8000000 in
set_option maxRecDepth 1000000 in
theorem refWords_12 (w : World) (at0 n : Int) (s : ByteArray) (kp : Option Addr) (kl kc : Nat) (hs : s.size ≤ 70000) :
    Calls Try.prog 25 #[.agg #[.int .u8 12, .int .i64 at0, .string s, .int .i64 n, .slice kp kl kc]] w fun e w' => e = .returned (.bool ((false == namesF (bytesI s)) && ((false || decide (s.size = 0)) && (decide (0 ≤ n) && decide (n ≤ 1))))) ∧ Below w.heap.size w w' := by
  have HQ := Lib.hid (refIsName_at (w.alloc (.cells #[.int .u8 12, .int .i64 at0, .string s, .int .i64 n, .slice kp kl kc] 41)) s hs)
  have HE : Hid (s.toList.isEmpty = decide (s.size = 0)) := Lib.hid (isEmpty_size s)
  generalize namesF (bytesI s) = b at *
  rw [show ((false == b) && ((false || decide (s.size = 0)) && (decide (0 ≤ n) && decide (n ≤ 1)))) = (!b && (decide (s.size = 0) && (decide (0 ≤ n) && decide (n ≤ 1)))) by cases b <;> simp]
  cases b with
  | true =>
    clear HE
    go_enter Try.func25, Try.ntmps25
    go_wp2_with fail
    (with_reducible refine HQ.out.mono ?_)
    rintro e w' ⟨rfl, rfl⟩
    clear HQ
    go_wp2
    go_ret
    first | exact ⟨rfl, one_below w _⟩ | exact ⟨by simp, one_below w _⟩
  | false =>
    by_cases hz : s.size = 0
    · have dz : s.toList.isEmpty = true := by rw [HE.out]; simpa using hz
      rw [decide_eq_true hz]
      clear hz HE
      by_cases h0 : 0 ≤ n
      · have d0 : decide (n ≥ 0) = true := by simpa using h0
        have d0' : decide (0 ≤ n) = true := by simpa using h0
        by_cases h1 : n ≤ 1
        · have d1 : decide (n ≤ 1) = true := by simpa using h1
          rw [d0', d1]
          clear h0 h1
          go_enter Try.func25, Try.ntmps25
          go_wp2_with fail
          (with_reducible refine HQ.out.mono ?_)
          rintro e w' ⟨rfl, rfl⟩
          clear HQ
          go_wp2
          go_ret
          first | exact ⟨rfl, one_below w _⟩ | exact ⟨by simp, one_below w _⟩
        · have d1 : decide (n ≤ 1) = false := by simpa using h1
          rw [d0', d1]
          clear h0 h1
          go_enter Try.func25, Try.ntmps25
          go_wp2_with fail
          (with_reducible refine HQ.out.mono ?_)
          rintro e w' ⟨rfl, rfl⟩
          clear HQ
          go_wp2
          go_ret
          first | exact ⟨rfl, one_below w _⟩ | exact ⟨by simp, one_below w _⟩
      · have d0 : decide (n ≥ 0) = false := by simpa using h0
        have d0' : decide (0 ≤ n) = false := by simpa using h0
        rw [d0']
        clear h0
        go_enter Try.func25, Try.ntmps25
        go_wp2_with fail
        (with_reducible refine HQ.out.mono ?_)
        rintro e w' ⟨rfl, rfl⟩
        clear HQ
        go_wp2
        go_ret
        first | exact ⟨rfl, one_below w _⟩ | exact ⟨by simp, one_below w _⟩
    · have dz : s.toList.isEmpty = false := by rw [HE.out]; simpa using hz
      rw [decide_eq_false hz]
      clear hz HE
      go_enter Try.func25, Try.ntmps25
      go_wp2_with fail
      (with_reducible refine HQ.out.mono ?_)
      rintro e w' ⟨rfl, rfl⟩
      clear HQ
      go_wp2
      go_ret
      first | exact ⟨rfl, one_below w _⟩ | exact ⟨by simp, one_below w _⟩

set_option maxHeartbeats 8000000 in
set_option maxRecDepth 1000000 in
theorem refWords_14 (w : World) (at0 n : Int) (s : ByteArray) (kp : Option Addr) (kl kc : Nat) (hs : s.size ≤ 70000) :
    Calls Try.prog 25 #[.agg #[.int .u8 14, .int .i64 at0, .string s, .int .i64 n, .slice kp kl kc]] w fun e w' => e = .returned (.bool ((false == namesF (bytesI s)) && ((false || decide (s.size = 0)) && (decide (0 ≤ n) && decide (n ≤ 1))))) ∧ Below w.heap.size w w' := by
  have HQ := Lib.hid (refIsName_at (w.alloc (.cells #[.int .u8 14, .int .i64 at0, .string s, .int .i64 n, .slice kp kl kc] 41)) s hs)
  have HE : Hid (s.toList.isEmpty = decide (s.size = 0)) := Lib.hid (isEmpty_size s)
  generalize namesF (bytesI s) = b at *
  rw [show ((false == b) && ((false || decide (s.size = 0)) && (decide (0 ≤ n) && decide (n ≤ 1)))) = (!b && (decide (s.size = 0) && (decide (0 ≤ n) && decide (n ≤ 1)))) by cases b <;> simp]
  cases b with
  | true =>
    clear HE
    go_enter Try.func25, Try.ntmps25
    go_wp2_with fail
    (with_reducible refine HQ.out.mono ?_)
    rintro e w' ⟨rfl, rfl⟩
    clear HQ
    go_wp2
    go_ret
    first | exact ⟨rfl, one_below w _⟩ | exact ⟨by simp, one_below w _⟩
  | false =>
    by_cases hz : s.size = 0
    · have dz : s.toList.isEmpty = true := by rw [HE.out]; simpa using hz
      rw [decide_eq_true hz]
      clear hz HE
      by_cases h0 : 0 ≤ n
      · have d0 : decide (n ≥ 0) = true := by simpa using h0
        have d0' : decide (0 ≤ n) = true := by simpa using h0
        by_cases h1 : n ≤ 1
        · have d1 : decide (n ≤ 1) = true := by simpa using h1
          rw [d0', d1]
          clear h0 h1
          go_enter Try.func25, Try.ntmps25
          go_wp2_with fail
          (with_reducible refine HQ.out.mono ?_)
          rintro e w' ⟨rfl, rfl⟩
          clear HQ
          go_wp2
          go_ret
          first | exact ⟨rfl, one_below w _⟩ | exact ⟨by simp, one_below w _⟩
        · have d1 : decide (n ≤ 1) = false := by simpa using h1
          rw [d0', d1]
          clear h0 h1
          go_enter Try.func25, Try.ntmps25
          go_wp2_with fail
          (with_reducible refine HQ.out.mono ?_)
          rintro e w' ⟨rfl, rfl⟩
          clear HQ
          go_wp2
          go_ret
          first | exact ⟨rfl, one_below w _⟩ | exact ⟨by simp, one_below w _⟩
      · have d0 : decide (n ≥ 0) = false := by simpa using h0
        have d0' : decide (0 ≤ n) = false := by simpa using h0
        rw [d0']
        clear h0
        go_enter Try.func25, Try.ntmps25
        go_wp2_with fail
        (with_reducible refine HQ.out.mono ?_)
        rintro e w' ⟨rfl, rfl⟩
        clear HQ
        go_wp2
        go_ret
        first | exact ⟨rfl, one_below w _⟩ | exact ⟨by simp, one_below w _⟩
    · have dz : s.toList.isEmpty = false := by rw [HE.out]; simpa using hz
      rw [decide_eq_false hz]
      clear hz HE
      go_enter Try.func25, Try.ntmps25
      go_wp2_with fail
      (with_reducible refine HQ.out.mono ?_)
      rintro e w' ⟨rfl, rfl⟩
      clear HQ
      go_wp2
      go_ret
      first | exact ⟨rfl, one_below w _⟩ | exact ⟨by simp, one_below w _⟩

set_option maxHeartbeats 8000000 in
set_option maxRecDepth 1000000 in
theorem refWords_15 (w : World) (at0 n : Int) (s : ByteArray) (kp : Option Addr) (kl kc : Nat) (hs : s.size ≤ 70000) :
    Calls Try.prog 25 #[.agg #[.int .u8 15, .int .i64 at0, .string s, .int .i64 n, .slice kp kl kc]] w fun e w' => e = .returned (.bool ((true == namesF (bytesI s)) && ((true || decide (s.size = 0)) && (decide (0 ≤ n) && decide (n ≤ 0))))) ∧ Below w.heap.size w w' := by
  have HQ := Lib.hid (refIsName_at (w.alloc (.cells #[.int .u8 15, .int .i64 at0, .string s, .int .i64 n, .slice kp kl kc] 41)) s hs)
  have HE : Hid (s.toList.isEmpty = decide (s.size = 0)) := Lib.hid (isEmpty_size s)
  generalize namesF (bytesI s) = b at *
  rw [show ((true == b) && ((true || decide (s.size = 0)) && (decide (0 ≤ n) && decide (n ≤ 0)))) = (b && (decide (0 ≤ n) && decide (n ≤ 0))) by cases b <;> simp]
  cases b with
  | false =>
    clear HE
    go_enter Try.func25, Try.ntmps25
    go_wp2_with fail
    (with_reducible refine HQ.out.mono ?_)
    rintro e w' ⟨rfl, rfl⟩
    clear HQ
    go_wp2
    go_ret
    first | exact ⟨rfl, one_below w _⟩ | exact ⟨by simp, one_below w _⟩
  | true =>
    clear HE
    by_cases h0 : 0 ≤ n
    · have d0 : decide (n ≥ 0) = true := by simpa using h0
      have d0' : decide (0 ≤ n) = true := by simpa using h0
      by_cases h1 : n ≤ 0
      · have d1 : decide (n ≤ 0) = true := by simpa using h1
        rw [d0', d1]
        clear h0 h1
        go_enter Try.func25, Try.ntmps25
        go_wp2_with fail
        (with_reducible refine HQ.out.mono ?_)
        rintro e w' ⟨rfl, rfl⟩
        clear HQ
        go_wp2
        go_ret
        first | exact ⟨rfl, one_below w _⟩ | exact ⟨by simp, one_below w _⟩
      · have d1 : decide (n ≤ 0) = false := by simpa using h1
        rw [d0', d1]
        clear h0 h1
        go_enter Try.func25, Try.ntmps25
        go_wp2_with fail
        (with_reducible refine HQ.out.mono ?_)
        rintro e w' ⟨rfl, rfl⟩
        clear HQ
        go_wp2
        go_ret
        first | exact ⟨rfl, one_below w _⟩ | exact ⟨by simp, one_below w _⟩
    · have d0 : decide (n ≥ 0) = false := by simpa using h0
      have d0' : decide (0 ≤ n) = false := by simpa using h0
      rw [d0']
      clear h0
      go_enter Try.func25, Try.ntmps25
      go_wp2_with fail
      (with_reducible refine HQ.out.mono ?_)
      rintro e w' ⟨rfl, rfl⟩
      clear HQ
      go_wp2
      go_ret
      first | exact ⟨rfl, one_below w _⟩ | exact ⟨by simp, one_below w _⟩

set_option maxHeartbeats 8000000 in
set_option maxRecDepth 1000000 in
theorem refWords_16 (w : World) (at0 n : Int) (s : ByteArray) (kp : Option Addr) (kl kc : Nat) (hs : s.size ≤ 70000) :
    Calls Try.prog 25 #[.agg #[.int .u8 16, .int .i64 at0, .string s, .int .i64 n, .slice kp kl kc]] w fun e w' => e = .returned (.bool ((true == namesF (bytesI s)) && ((true || decide (s.size = 0)) && (decide (0 ≤ n) && decide (n ≤ 0))))) ∧ Below w.heap.size w w' := by
  have HQ := Lib.hid (refIsName_at (w.alloc (.cells #[.int .u8 16, .int .i64 at0, .string s, .int .i64 n, .slice kp kl kc] 41)) s hs)
  have HE : Hid (s.toList.isEmpty = decide (s.size = 0)) := Lib.hid (isEmpty_size s)
  generalize namesF (bytesI s) = b at *
  rw [show ((true == b) && ((true || decide (s.size = 0)) && (decide (0 ≤ n) && decide (n ≤ 0)))) = (b && (decide (0 ≤ n) && decide (n ≤ 0))) by cases b <;> simp]
  cases b with
  | false =>
    clear HE
    go_enter Try.func25, Try.ntmps25
    go_wp2_with fail
    (with_reducible refine HQ.out.mono ?_)
    rintro e w' ⟨rfl, rfl⟩
    clear HQ
    go_wp2
    go_ret
    first | exact ⟨rfl, one_below w _⟩ | exact ⟨by simp, one_below w _⟩
  | true =>
    clear HE
    by_cases h0 : 0 ≤ n
    · have d0 : decide (n ≥ 0) = true := by simpa using h0
      have d0' : decide (0 ≤ n) = true := by simpa using h0
      by_cases h1 : n ≤ 0
      · have d1 : decide (n ≤ 0) = true := by simpa using h1
        rw [d0', d1]
        clear h0 h1
        go_enter Try.func25, Try.ntmps25
        go_wp2_with fail
        (with_reducible refine HQ.out.mono ?_)
        rintro e w' ⟨rfl, rfl⟩
        clear HQ
        go_wp2
        go_ret
        first | exact ⟨rfl, one_below w _⟩ | exact ⟨by simp, one_below w _⟩
      · have d1 : decide (n ≤ 0) = false := by simpa using h1
        rw [d0', d1]
        clear h0 h1
        go_enter Try.func25, Try.ntmps25
        go_wp2_with fail
        (with_reducible refine HQ.out.mono ?_)
        rintro e w' ⟨rfl, rfl⟩
        clear HQ
        go_wp2
        go_ret
        first | exact ⟨rfl, one_below w _⟩ | exact ⟨by simp, one_below w _⟩
    · have d0 : decide (n ≥ 0) = false := by simpa using h0
      have d0' : decide (0 ≤ n) = false := by simpa using h0
      rw [d0']
      clear h0
      go_enter Try.func25, Try.ntmps25
      go_wp2_with fail
      (with_reducible refine HQ.out.mono ?_)
      rintro e w' ⟨rfl, rfl⟩
      clear HQ
      go_wp2
      go_ret
      first | exact ⟨rfl, one_below w _⟩ | exact ⟨by simp, one_below w _⟩

set_option maxHeartbeats 8000000 in
set_option maxRecDepth 1000000 in
theorem refWords_20 (w : World) (at0 n : Int) (s : ByteArray) (kp : Option Addr) (kl kc : Nat) (hs : s.size ≤ 70000) :
    Calls Try.prog 25 #[.agg #[.int .u8 20, .int .i64 at0, .string s, .int .i64 n, .slice kp kl kc]] w fun e w' => e = .returned (.bool ((true == namesF (bytesI s)) && ((true || decide (s.size = 0)) && (decide (0 ≤ n) && decide (n ≤ 0))))) ∧ Below w.heap.size w w' := by
  have HQ := Lib.hid (refIsName_at (w.alloc (.cells #[.int .u8 20, .int .i64 at0, .string s, .int .i64 n, .slice kp kl kc] 41)) s hs)
  have HE : Hid (s.toList.isEmpty = decide (s.size = 0)) := Lib.hid (isEmpty_size s)
  generalize namesF (bytesI s) = b at *
  rw [show ((true == b) && ((true || decide (s.size = 0)) && (decide (0 ≤ n) && decide (n ≤ 0)))) = (b && (decide (0 ≤ n) && decide (n ≤ 0))) by cases b <;> simp]
  cases b with
  | false =>
    clear HE
    go_enter Try.func25, Try.ntmps25
    go_wp2_with fail
    (with_reducible refine HQ.out.mono ?_)
    rintro e w' ⟨rfl, rfl⟩
    clear HQ
    go_wp2
    go_ret
    first | exact ⟨rfl, one_below w _⟩ | exact ⟨by simp, one_below w _⟩
  | true =>
    clear HE
    by_cases h0 : 0 ≤ n
    · have d0 : decide (n ≥ 0) = true := by simpa using h0
      have d0' : decide (0 ≤ n) = true := by simpa using h0
      by_cases h1 : n ≤ 0
      · have d1 : decide (n ≤ 0) = true := by simpa using h1
        rw [d0', d1]
        clear h0 h1
        go_enter Try.func25, Try.ntmps25
        go_wp2_with fail
        (with_reducible refine HQ.out.mono ?_)
        rintro e w' ⟨rfl, rfl⟩
        clear HQ
        go_wp2
        go_ret
        first | exact ⟨rfl, one_below w _⟩ | exact ⟨by simp, one_below w _⟩
      · have d1 : decide (n ≤ 0) = false := by simpa using h1
        rw [d0', d1]
        clear h0 h1
        go_enter Try.func25, Try.ntmps25
        go_wp2_with fail
        (with_reducible refine HQ.out.mono ?_)
        rintro e w' ⟨rfl, rfl⟩
        clear HQ
        go_wp2
        go_ret
        first | exact ⟨rfl, one_below w _⟩ | exact ⟨by simp, one_below w _⟩
    · have d0 : decide (n ≥ 0) = false := by simpa using h0
      have d0' : decide (0 ≤ n) = false := by simpa using h0
      rw [d0']
      clear h0
      go_enter Try.func25, Try.ntmps25
      go_wp2_with fail
      (with_reducible refine HQ.out.mono ?_)
      rintro e w' ⟨rfl, rfl⟩
      clear HQ
      go_wp2
      go_ret
      first | exact ⟨rfl, one_below w _⟩ | exact ⟨by simp, one_below w _⟩

set_option maxHeartbeats 8000000 in
set_option maxRecDepth 1000000 in
theorem refWords_21 (w : World) (at0 n : Int) (s : ByteArray) (kp : Option Addr) (kl kc : Nat) (hs : s.size ≤ 70000) :
    Calls Try.prog 25 #[.agg #[.int .u8 21, .int .i64 at0, .string s, .int .i64 n, .slice kp kl kc]] w fun e w' => e = .returned (.bool ((false == namesF (bytesI s)) && ((false || decide (s.size = 0)) && (decide (0 ≤ n) && decide (n ≤ 2147483647))))) ∧ Below w.heap.size w w' := by
  have HQ := Lib.hid (refIsName_at (w.alloc (.cells #[.int .u8 21, .int .i64 at0, .string s, .int .i64 n, .slice kp kl kc] 41)) s hs)
  have HE : Hid (s.toList.isEmpty = decide (s.size = 0)) := Lib.hid (isEmpty_size s)
  generalize namesF (bytesI s) = b at *
  rw [show ((false == b) && ((false || decide (s.size = 0)) && (decide (0 ≤ n) && decide (n ≤ 2147483647)))) = (!b && (decide (s.size = 0) && (decide (0 ≤ n) && decide (n ≤ 2147483647)))) by cases b <;> simp]
  cases b with
  | true =>
    clear HE
    go_enter Try.func25, Try.ntmps25
    go_wp2_with fail
    (with_reducible refine HQ.out.mono ?_)
    rintro e w' ⟨rfl, rfl⟩
    clear HQ
    go_wp2
    go_ret
    first | exact ⟨rfl, one_below w _⟩ | exact ⟨by simp, one_below w _⟩
  | false =>
    by_cases hz : s.size = 0
    · have dz : s.toList.isEmpty = true := by rw [HE.out]; simpa using hz
      rw [decide_eq_true hz]
      clear hz HE
      by_cases h0 : 0 ≤ n
      · have d0 : decide (n ≥ 0) = true := by simpa using h0
        have d0' : decide (0 ≤ n) = true := by simpa using h0
        by_cases h1 : n ≤ 2147483647
        · have d1 : decide (n ≤ 2147483647) = true := by simpa using h1
          rw [d0', d1]
          clear h0 h1
          go_enter Try.func25, Try.ntmps25
          go_wp2_with fail
          (with_reducible refine HQ.out.mono ?_)
          rintro e w' ⟨rfl, rfl⟩
          clear HQ
          go_wp2
          go_ret
          first | exact ⟨rfl, one_below w _⟩ | exact ⟨by simp, one_below w _⟩
        · have d1 : decide (n ≤ 2147483647) = false := by simpa using h1
          rw [d0', d1]
          clear h0 h1
          go_enter Try.func25, Try.ntmps25
          go_wp2_with fail
          (with_reducible refine HQ.out.mono ?_)
          rintro e w' ⟨rfl, rfl⟩
          clear HQ
          go_wp2
          go_ret
          first | exact ⟨rfl, one_below w _⟩ | exact ⟨by simp, one_below w _⟩
      · have d0 : decide (n ≥ 0) = false := by simpa using h0
        have d0' : decide (0 ≤ n) = false := by simpa using h0
        rw [d0']
        clear h0
        go_enter Try.func25, Try.ntmps25
        go_wp2_with fail
        (with_reducible refine HQ.out.mono ?_)
        rintro e w' ⟨rfl, rfl⟩
        clear HQ
        go_wp2
        go_ret
        first | exact ⟨rfl, one_below w _⟩ | exact ⟨by simp, one_below w _⟩
    · have dz : s.toList.isEmpty = false := by rw [HE.out]; simpa using hz
      rw [decide_eq_false hz]
      clear hz HE
      go_enter Try.func25, Try.ntmps25
      go_wp2_with fail
      (with_reducible refine HQ.out.mono ?_)
      rintro e w' ⟨rfl, rfl⟩
      clear HQ
      go_wp2
      go_ret
      first | exact ⟨rfl, one_below w _⟩ | exact ⟨by simp, one_below w _⟩

set_option maxHeartbeats 8000000 in
set_option maxRecDepth 1000000 in
theorem refWords_22 (w : World) (at0 n : Int) (s : ByteArray) (kp : Option Addr) (kl kc : Nat) (hs : s.size ≤ 70000) :
    Calls Try.prog 25 #[.agg #[.int .u8 22, .int .i64 at0, .string s, .int .i64 n, .slice kp kl kc]] w fun e w' => e = .returned (.bool ((true == namesF (bytesI s)) && ((true || decide (s.size = 0)) && (decide (0 ≤ n) && decide (n ≤ 0))))) ∧ Below w.heap.size w w' := by
  have HQ := Lib.hid (refIsName_at (w.alloc (.cells #[.int .u8 22, .int .i64 at0, .string s, .int .i64 n, .slice kp kl kc] 41)) s hs)
  have HE : Hid (s.toList.isEmpty = decide (s.size = 0)) := Lib.hid (isEmpty_size s)
  generalize namesF (bytesI s) = b at *
  rw [show ((true == b) && ((true || decide (s.size = 0)) && (decide (0 ≤ n) && decide (n ≤ 0)))) = (b && (decide (0 ≤ n) && decide (n ≤ 0))) by cases b <;> simp]
  cases b with
  | false =>
    clear HE
    go_enter Try.func25, Try.ntmps25
    go_wp2_with fail
    (with_reducible refine HQ.out.mono ?_)
    rintro e w' ⟨rfl, rfl⟩
    clear HQ
    go_wp2
    go_ret
    first | exact ⟨rfl, one_below w _⟩ | exact ⟨by simp, one_below w _⟩
  | true =>
    clear HE
    by_cases h0 : 0 ≤ n
    · have d0 : decide (n ≥ 0) = true := by simpa using h0
      have d0' : decide (0 ≤ n) = true := by simpa using h0
      by_cases h1 : n ≤ 0
      · have d1 : decide (n ≤ 0) = true := by simpa using h1
        rw [d0', d1]
        clear h0 h1
        go_enter Try.func25, Try.ntmps25
        go_wp2_with fail
        (with_reducible refine HQ.out.mono ?_)
        rintro e w' ⟨rfl, rfl⟩
        clear HQ
        go_wp2
        go_ret
        first | exact ⟨rfl, one_below w _⟩ | exact ⟨by simp, one_below w _⟩
      · have d1 : decide (n ≤ 0) = false := by simpa using h1
        rw [d0', d1]
        clear h0 h1
        go_enter Try.func25, Try.ntmps25
        go_wp2_with fail
        (with_reducible refine HQ.out.mono ?_)
        rintro e w' ⟨rfl, rfl⟩
        clear HQ
        go_wp2
        go_ret
        first | exact ⟨rfl, one_below w _⟩ | exact ⟨by simp, one_below w _⟩
    · have d0 : decide (n ≥ 0) = false := by simpa using h0
      have d0' : decide (0 ≤ n) = false := by simpa using h0
      rw [d0']
      clear h0
      go_enter Try.func25, Try.ntmps25
      go_wp2_with fail
      (with_reducible refine HQ.out.mono ?_)
      rintro e w' ⟨rfl, rfl⟩
      clear HQ
      go_wp2
      go_ret
      first | exact ⟨rfl, one_below w _⟩ | exact ⟨by simp, one_below w _⟩

set_option maxHeartbeats 8000000 in
set_option maxRecDepth 1000000 in
theorem refWords_other (w : World) (k at0 n : Int) (s : ByteArray) (kp : Option Addr) (kl kc : Nat) (hs : s.size ≤ 70000) (d2 : (k == 2) = false) (d3 : (k == 3) = false) (d5 : (k == 5) = false) (d7 : (k == 7) = false) (d11 : (k == 11) = false) (d12 : (k == 12) = false) (d14 : (k == 14) = false) (d15 : (k == 15) = false) (d16 : (k == 16) = false) (d20 : (k == 20) = false) (d21 : (k == 21) = false) (d22 : (k == 22) = false) :
    Calls Try.prog 25 #[.agg #[.int .u8 k, .int .i64 at0, .string s, .int .i64 n, .slice kp kl kc]] w fun e w' => e = .returned (.bool ((false == namesF (bytesI s)) && ((false || decide (s.size = 0)) && (decide (0 ≤ n) && decide (n ≤ 0))))) ∧ Below w.heap.size w w' := by
  have HQ := Lib.hid (refIsName_at (w.alloc (.cells #[.int .u8 k, .int .i64 at0, .string s, .int .i64 n, .slice kp kl kc] 41)) s hs)
  have HE : Hid (s.toList.isEmpty = decide (s.size = 0)) := Lib.hid (isEmpty_size s)
  generalize namesF (bytesI s) = b at *
  rw [show ((false == b) && ((false || decide (s.size = 0)) && (decide (0 ≤ n) && decide (n ≤ 0)))) = (!b && (decide (s.size = 0) && (decide (0 ≤ n) && decide (n ≤ 0)))) by cases b <;> simp]
  cases b with
  | true =>
    clear HE
    go_enter Try.func25, Try.ntmps25
    go_wp2_with fail
    (with_reducible refine HQ.out.mono ?_)
    rintro e w' ⟨rfl, rfl⟩
    clear HQ
    go_wp2
    go_ret
    first | exact ⟨rfl, one_below w _⟩ | exact ⟨by simp, one_below w _⟩
  | false =>
    by_cases hz : s.size = 0
    · have dz : s.toList.isEmpty = true := by rw [HE.out]; simpa using hz
      rw [decide_eq_true hz]
      clear hz HE
      by_cases h0 : 0 ≤ n
      · have d0 : decide (n ≥ 0) = true := by simpa using h0
        have d0' : decide (0 ≤ n) = true := by simpa using h0
        by_cases h1 : n ≤ 0
        · have d1 : decide (n ≤ 0) = true := by simpa using h1
          rw [d0', d1]
          clear h0 h1
          go_enter Try.func25, Try.ntmps25
          go_wp2_with fail
          (with_reducible refine HQ.out.mono ?_)
          rintro e w' ⟨rfl, rfl⟩
          clear HQ
          go_wp2
          go_ret
          first | exact ⟨rfl, one_below w _⟩ | exact ⟨by simp, one_below w _⟩
        · have d1 : decide (n ≤ 0) = false := by simpa using h1
          rw [d0', d1]
          clear h0 h1
          go_enter Try.func25, Try.ntmps25
          go_wp2_with fail
          (with_reducible refine HQ.out.mono ?_)
          rintro e w' ⟨rfl, rfl⟩
          clear HQ
          go_wp2
          go_ret
          first | exact ⟨rfl, one_below w _⟩ | exact ⟨by simp, one_below w _⟩
      · have d0 : decide (n ≥ 0) = false := by simpa using h0
        have d0' : decide (0 ≤ n) = false := by simpa using h0
        rw [d0']
        clear h0
        go_enter Try.func25, Try.ntmps25
        go_wp2_with fail
        (with_reducible refine HQ.out.mono ?_)
        rintro e w' ⟨rfl, rfl⟩
        clear HQ
        go_wp2
        go_ret
        first | exact ⟨rfl, one_below w _⟩ | exact ⟨by simp, one_below w _⟩
    · have dz : s.toList.isEmpty = false := by rw [HE.out]; simpa using hz
      rw [decide_eq_false hz]
      clear hz HE
      go_enter Try.func25, Try.ntmps25
      go_wp2_with fail
      (with_reducible refine HQ.out.mono ?_)
      rintro e w' ⟨rfl, rfl⟩
      clear HQ
      go_wp2
      go_ret
      first | exact ⟨rfl, one_below w _⟩ | exact ⟨by simp, one_below w _⟩

theorem refWords_at (w : World) (nd : Nd) (kp : Option Addr) (kl kc : Nat) (hs : nd.text.size ≤ 70000) :
    Calls Try.prog 25 #[ndV nd kp kl kc] w fun e w' => e = .returned (.bool (wordsR nd)) ∧ Below w.heap.size w w' := by
  obtain ⟨k, at0, s, n, ks⟩ := nd
  unfold ndV wordsR
  simp only at hs ⊢
  by_cases h2 : k = 2
  · subst h2; exact refWords_2 w at0 n s kp kl kc hs
  by_cases h3 : k = 3
  · subst h3; exact refWords_3 w at0 n s kp kl kc hs
  by_cases h5 : k = 5
  · subst h5; exact refWords_5 w at0 n s kp kl kc hs
  by_cases h7 : k = 7
  · subst h7; exact refWords_7 w at0 n s kp kl kc hs
  by_cases h11 : k = 11
  · subst h11; exact refWords_11 w at0 n s kp kl kc hs
  by_cases h12 : k = 12
  · subst h12; exact refWords_12 w at0 n s kp kl kc hs
  by_cases h14 : k = 14
  · subst h14; exact refWords_14 w at0 n s kp kl kc hs
  by_cases h15 : k = 15
  · subst h15; exact refWords_15 w at0 n s kp kl kc hs
  by_cases h16 : k = 16
  · subst h16; exact refWords_16 w at0 n s kp kl kc hs
  by_cases h20 : k = 20
  · subst h20; exact refWords_20 w at0 n s kp kl kc hs
  by_cases h21 : k = 21
  · subst h21; exact refWords_21 w at0 n s kp kl kc hs
  by_cases h22 : k = 22
  · subst h22; exact refWords_22 w at0 n s kp kl kc hs
  have e1 : namedR k = false := by unfold namedR; simp [h2, h3, h5, h7, h11, h15, h16, h20, h22]
  have e2 : mostR k = 0 := by unfold mostR; simp [h3, h7, h12, h14, h21]
  rw [e1, e2]
  exact refWords_other w k at0 n s kp kl kc hs (by simpa using h2) (by simpa using h3) (by simpa using h5) (by simpa using h7) (by simpa using h11) (by simpa using h12) (by simpa using h14) (by simpa using h15) (by simpa using h16) (by simpa using h20) (by simpa using h21) (by simpa using h22)
end Go.Proofs.Ytijaelncmjcbmaa
