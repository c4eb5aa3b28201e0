import Derived.Test.YtabbodbnjegllaaDoorLexI
namespace Go.Proofs.YtabbodbnjegllaaDoor
open Go.RowKit
set_option maxHeartbeats 1000000 in
theorem blank_at (c : Int) (w : World) : Calls Tryd.prog 24 #[.int .u8 c] w fun e w' => e = .returned (.bool (isBlank c)) ∧ w' = w := by
  by_cases h1 : c = 32
  · subst h1
    show Calls Tryd.prog 24 #[.int .u8 32] w fun e w' => e = .returned (.bool true) ∧ w' = w
    go_enter Tryd.func24, Tryd.ntmps24
    go_wp2
    go_ret
    exact ⟨rfl, rfl⟩
  · have d1 : (c == 32) = false := by simpa using h1
    by_cases h2 : c = 9
    · subst h2
      show Calls Tryd.prog 24 #[.int .u8 9] w fun e w' => e = .returned (.bool true) ∧ w' = w
      go_enter Tryd.func24, Tryd.ntmps24
      go_wp2
      go_ret
      exact ⟨rfl, rfl⟩
    · have d2 : (c == 9) = false := by simpa using h2
      by_cases h3 : c = 10
      · subst h3
        show Calls Tryd.prog 24 #[.int .u8 10] w fun e w' => e = .returned (.bool true) ∧ w' = w
        go_enter Tryd.func24, Tryd.ntmps24
        go_wp2
        go_ret
        exact ⟨rfl, rfl⟩
      · have d3 : (c == 10) = false := by simpa using h3
        have e : isBlank c = (c == 13) := by simp [isBlank, d1, d2, d3]
        rw [e]
        generalize hq : (c == 13) = q
        go_enter Tryd.func24, Tryd.ntmps24
        go_wp2
        go_ret
        exact ⟨rfl, rfl⟩
def marks : List Int := [123, 125, 40, 41, 91, 93, 59, 44, 46, 43, 45, 42, 60, 61]
theorem isMark_yes (c : Int) (k : Nat) (hk : k < 14) (h : marks.getD k 0 = c) : isMark c = true := by
  have hk' : k < marks.length := hk
  have : c ∈ marks := by
    rw [← h, List.getD, List.getElem?_eq_getElem hk', Option.getD_some]
    exact List.getElem_mem hk'
  simpa [isMark, marks] using this
theorem isMark_no (c : Int) (h : ∀ k, k < 14 → marks.getD k 0 ≠ c) : isMark c = false := by
  cases hm : isMark c with
  | false => rfl
  | true =>
    have hin : c ∈ marks := by simpa [isMark, marks] using hm
    obtain ⟨k, hk, e⟩ := List.mem_iff_getElem.1 hin
    exact absurd (by rw [List.getD, List.getElem?_eq_getElem hk, Option.getD_some]; exact e) (h k hk)
set_option maxHeartbeats 1000000 in
theorem one_at (c : Int) (w : World) : Calls Tryd.prog 28 #[.int .u8 c] w fun e w' => e = .returned (.bool (isMark c)) ∧ Below w.heap.size w w' := by
  have kc := fun (w : World) (C : Array Value) (n c : Nat) => Lib.run_convert_bytes_const (P := Tryd.prog) w 22 5 C n c Tryd.underlying22 Tryd.underlying5
  have HC : Hid (∀ k, k < 14 → (w.alloc (.cells #[.int .u8 123, .int .u8 125, .int .u8 40, .int .u8 41, .int .u8 91, .int .u8 93, .int .u8 59, .int .u8 44, .int .u8 46, .int .u8 43, .int .u8 45, .int .u8 42, .int .u8 60, .int .u8 61] 5 (14, 15))).cell? ⟨w.heap.size, k, none⟩ = some (.int .u8 (marks.getD k 0))) := Lib.hid (fun k hk => by
    have hs := src_const w #[.int .u8 123, .int .u8 125, .int .u8 40, .int .u8 41, .int .u8 91, .int .u8 93, .int .u8 59, .int .u8 44, .int .u8 46, .int .u8 43, .int .u8 45, .int .u8 42, .int .u8 60, .int .u8 61] marks 14 rfl rfl (by decide) 14 15
    rcases hs.2.2 with ⟨h, _⟩ | ⟨b, off, e, _, _, hx⟩
    · omega
    · simp only [Option.some.injEq, Addr.mk.injEq, and_true] at e
      obtain ⟨rfl, rfl⟩ := e
      have := hx k hk
      rw [Nat.zero_add] at this
      exact this)
  go_enter Tryd.func28, Tryd.ntmps28
  go_wp2_with fail
  go_loop [8] (fun iv => ∃ k : Nat, k ≤ 14 ∧ iv = .int .i64 k ∧ Hid (∀ j, j < k → marks.getD j 0 ≠ c)) (fun iv => 14 - (intOf iv).toNat)
  case atStart => exact ⟨0, by omega, rfl, Lib.hid (fun j hj => by omega)⟩
  case round =>
    obtain ⟨k, hk, rfl, HN⟩ := hrel
    by_cases hlt : k < 14
    · have hc := HC.out k hlt
      obtain ⟨m, hm⟩ : ∃ m, marks.getD k 0 = m := ⟨_, rfl⟩
      rw [hm] at hc
      have HM := Lib.hid hm
      clear hm kc
      by_cases he : m = c
      · have hd : (m == c) = true := by simpa using he
        have HE := Lib.hid he
        clear he
        go_wp2
        go_ret
        exact ⟨retB (isMark_yes c k hlt (HM.out.trans HE.out)).symm, one_below _ _⟩
      · have hd : (m == c) = false := by simpa using he
        have HE := Lib.hid he
        clear he
        go_wp2
        go_round
        case rel => exact ⟨k + 1, by omega, by go_num, Lib.hid (fun j hj => by
          by_cases hjk : j < k
          · exact HN.out j hjk
          · obtain rfl : j = k := by omega
            rw [HM.out]
            exact HE.out)⟩
        case measure => simp [intOf]; omega
    · clear kc
      go_wp2
      go_ret
      exact ⟨retB (isMark_no c (fun j hj => HN.out j (by omega))).symm, one_below _ _⟩
/-- What the reference's number answers. -/
def RefNum (s : ByteArray) (e : Ending) : Prop :=
  e = match numV 0 (bytesI s) with
    | some n => .returned (.tuple #[.int .i64 n, .bool true])
    | none => .returned (.tuple #[.int .i64 0, .bool false])
set_option maxHeartbeats 4000000 in
set_option maxRecDepth 1000000 in
theorem refNumber_at (w : World) (s : ByteArray) (hb : s.size ≤ 70000) (hd : ∀ k, k < s.size → isDigit ((bytesI s).getD k 0) = true) :
    Calls Tryd.prog 27 #[.string s] w fun e w' => RefNum s e ∧ w' = w := by
  have hlen := Lib.hid (bytesI_length s)
  have HD := Lib.hid hd
  clear hd
  go_enter Tryd.func27, Tryd.ntmps27
  go_wp2_with fail
  go_loop [4, 5] (fun nv iv => ∃ (k : Nat) (n : Int), k ≤ s.size ∧ 0 ≤ n ∧ n ≤ 2147483647 ∧ nv = .int .i64 n ∧ iv = .int .i64 k ∧ Hid (numV n ((bytesI s).drop k) = numV 0 (bytesI s))) (fun _ iv => s.size - (intOf iv).toNat)
  case atStart => exact ⟨0, 0, by omega, by omega, by omega, rfl, rfl, Lib.hid rfl⟩
  case round =>
    obtain ⟨k, n, hk, hn0, hn1, rfl, rfl, HN⟩ := hrel
    by_cases hlt : k < s.size
    · have hgk := bytesI_get s k hlt
      have hdk := HD.out k hlt
      have HY := numV_yes n (bytesI s) k (by have := hlen.out; omega) hdk
      have hmk := UInt8.toNat_lt s[k]
      obtain ⟨m, hm⟩ : ∃ m, s[k].toNat = m := ⟨_, rfl⟩
      rw [hm] at hgk hmk
      rw [hgk] at HY hdk
      have hdd : 48 ≤ m ∧ m ≤ 57 := by simp [isDigit] at hdk; omega
      obtain ⟨hd1, hd2⟩ := hdd
      have HYY := Lib.hid HY
      clear HY hgk hdk
      by_cases hbig : 2147483647 < 10 * n + ((m : Int) - 48)
      · have HF : Hid (numV 0 (bytesI s) = none) := Lib.hid (by rw [← HN.out, HYY.out, if_pos hbig])
        have hbig2 : 2147483647 < n * 10 + ((m : Int) - 48) := by omega
        go_wp2
        go_ret2
        exact ⟨by rw [RefNum, HF.out]; rfl, rfl⟩
      · have HF : Hid (numV (10 * n + ((m : Int) - 48)) ((bytesI s).drop (k + 1)) = numV 0 (bytesI s)) := Lib.hid (by rw [← HN.out, HYY.out, if_neg hbig])
        have hbig2 : ¬ 2147483647 < n * 10 + ((m : Int) - 48) := by omega
        go_wp2
        go_round
        case rel => exact ⟨k + 1, 10 * n + ((m : Int) - 48), by omega, by omega, by omega, by rw [Int.mul_comm], by go_num, HF⟩
        case measure => simp [intOf]; omega
    · have HF : Hid (numV 0 (bytesI s) = some n) := Lib.hid (by rw [← HN.out, List.drop_eq_nil_of_le (by have := hlen.out; omega)]; rfl)
      go_wp2
      go_ret2
      exact ⟨by rw [RefNum, HF.out]; rfl, rfl⟩
end Go.Proofs.YtabbodbnjegllaaDoor
