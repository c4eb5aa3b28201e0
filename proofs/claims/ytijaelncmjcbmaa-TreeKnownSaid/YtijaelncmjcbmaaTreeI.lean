import Derived.Test.YtijaelncmjcbmaaTreeL
import Derived.Deep.QuietTactic
import Derived.BigQuiet
import Derived.Lib.Bytes
namespace Go.Proofs.Ytijaelncmjcbmaa
open Go.RowKit
theorem kind_at (W : World) (kb m : Nat) (hm : m < 256) (hk : W.cell? ⟨kb, m, none⟩ = some (.int .u8 (kindF m))) :
    Calls Try.prog 57 #[.int .u8 m, .pointer (some ⟨kb, 0, none⟩)] W fun e w' => e = .returned (.int .u8 (kindF m)) ∧ w' = W := by
  generalize kindF m = k at *
  go_enter Try.func57, Try.ntmps57
  go_wp2
  go_ret
  exact ⟨rfl, rfl⟩
theorem inName_at (W : World) (k : Int) :
    Calls Try.prog 55 #[.int .u8 k] W fun e w' => e = .returned (.bool (k == 3 || k == 4 || k == 5)) ∧ w' = W := by
  go_enter Try.func55, Try.ntmps55
  go_wp2
  all_goals (go_ret; simp_all)
theorem kind_name (c : Int) : (kindF c == 3 || kindF c == 4 || kindF c == 5) = isNameB c := by
  unfold kindF
  by_cases h1 : isBlank c = true
  · have : c = 32 ∨ c = 9 ∨ c = 10 ∨ c = 13 := by simpa [isBlank, or_assoc] using h1
    rcases this with rfl | rfl | rfl | rfl <;> decide
  · by_cases h2 : c = 35
    · subst h2; decide
    · by_cases h3 : isLetter c = true
      · simp [h1, h2, h3, isNameB]
      · by_cases h4 : isDigit c = true
        · simp [h1, h2, h3, h4, isNameB]
        · by_cases h5 : c = 95
          · subst h5; decide
          · by_cases h6 : isMark c = true
            · simp [h1, h2, h3, h4, h5, h6, isNameB]
            · simp [h1, h2, h3, h4, h5, h6, isNameB]
theorem kind_letter (c : Int) : (kindF c == 3) = isLetter c := by
  unfold kindF
  by_cases h1 : isBlank c = true
  · have : c = 32 ∨ c = 9 ∨ c = 10 ∨ c = 13 := by simpa [isBlank, or_assoc] using h1
    rcases this with rfl | rfl | rfl | rfl <;> decide
  · by_cases h2 : c = 35
    · subst h2; decide
    · by_cases h3 : isLetter c = true
      · simp [h1, h2, h3]
      · simp only [h1, h2, h3]
        repeat' split
        all_goals simp_all
set_option maxHeartbeats 4000000 in
set_option maxRecDepth 1000000 in
theorem isName_at (w : World) (s : ByteArray) (hb : s.size ≤ 70000) :
    Calls Try.prog 44 #[.string s] w fun e w' => e = .returned (.bool (namesF (bytesI s))) ∧ Below w.heap.size w w' := by
  have HK := Lib.hid (byteKinds_run w)
  by_cases h0 : s.size = 0
  · obtain rfl : s = ByteArray.empty := ByteArray.size_eq_zero_iff.1 h0
    show Calls Try.prog 44 #[.string ⟨#[]⟩] w fun e w' => e = .returned (.bool false) ∧ Below w.heap.size w w'
    go_enter Try.func44, Try.ntmps44
    go_wp2_with fail
    (with_reducible refine HK.out.mono ?_)
    rintro e W1 ⟨rfl, hk⟩
    have HB := Lib.hid hk.below
    clear hk HK
    go_wp2
    go_ret
    exact ⟨rfl, HB.out⟩
  · have hne : s.toList.isEmpty = false := by
      rw [← bytesI_str s, Lib.strOfNums_toList, List.isEmpty_eq_false_iff]
      intro e
      have := congrArg List.length e
      rw [Lib.bytesOf, List.length_map, bytesI_length, List.length_nil] at this
      exact h0 this
    have hpos : 0 < s.size := by omega
    have hlen := Lib.hid (bytesI_length s)
    have h00 := Lib.hid (bytesI_get s 0 hpos)
    have hm0 := UInt8.toNat_lt s[0]
    have KL := Lib.hid (kind_letter (s[0].toNat : Int))
    obtain ⟨m0, hm⟩ : ∃ m0, s[0].toNat = m0 := ⟨_, rfl⟩
    go_enter Try.func44, Try.ntmps44
    go_wp2_with fail
    (with_reducible refine HK.out.mono ?_)
    rintro e W1 ⟨rfl, hk⟩
    have HKW := Lib.hid hk
    have HB := Lib.hid hk.below
    clear hk HK
    go_wp2_with fail
    have hm256 : m0 < 256 := by omega
    have KA := kind_at W1 (w.heap.size + 1) m0 hm256 (by rw [HKW.out.arr m0 hm256, FK_kind m0 hm256])
    have KL2 := KL.out
    rw [hm] at KL2
    have KL3 := Lib.hid KL2
    have H00 : Hid ((bytesI s).getD 0 0 = (m0 : Int)) := by rw [← hm]; exact h00
    clear KL2 KL h00
    generalize kindF m0 = k at *
    (with_reducible refine KA.mono ?_)
    rintro e w' ⟨rfl, rfl⟩
    clear KA
    by_cases hk3 : k = 3
    · subst hk3
      have HL : Hid (isLetter ((bytesI s).getD 0 0) = true) := Lib.hid (by rw [H00.out]; simpa using KL3.out.symm)
      clear hm hm0 hm256 KL3 H00
      go_wp2_with fail
      go_loop [17] (fun iv => ∃ k : Nat, k ≤ s.size ∧ iv = .int .i64 k ∧ Hid (((bytesI s).take k).all isNameB = true)) (fun iv => s.size - (intOf iv).toNat)
      case atStart => exact ⟨0, Nat.zero_le _, rfl, Lib.hid rfl⟩
      case round =>
        obtain ⟨k, hk, rfl, HA⟩ := hrel
        by_cases hlt : k < s.size
        · have hgk := bytesI_get s k hlt
          have hmk := UInt8.toNat_lt s[k]
          obtain ⟨m, hm⟩ : ∃ m, s[k].toNat = m := ⟨_, rfl⟩
          rw [hm] at hgk hmk
          have hm256 : m < 256 := by omega
          have KA := kind_at w' (w.heap.size + 1) m hm256 (by rw [HKW.out.arr m hm256, FK_kind m hm256])
          have KN := kind_name m
          have HG := Lib.hid hgk
          clear hgk
          generalize kindF m = kk at *
          have IN := inName_at w' kk
          rw [KN] at IN
          have HKA := Lib.hid KA
          have HIN := Lib.hid IN
          clear KN KA IN
          cases hq : isNameB m with
          | true =>
            have HIN2 : Hid (Calls Try.prog 55 #[.int .u8 kk] w' fun e w1 => e = .returned (.bool true) ∧ w1 = w') := by rw [← hq]; exact HIN.out
            have HQ := Lib.hid hq
            clear hq HIN
            go_wp2_with fail
            (with_reducible refine HKA.out.mono ?_)
            rintro e w2 ⟨rfl, rfl⟩
            go_wp2_with fail
            (with_reducible refine HIN2.out.mono ?_)
            rintro e w3 ⟨rfl, rfl⟩
            clear HKA HIN2
            go_wp2
            go_round
            case rel => exact ⟨k + 1, by omega, by go_num, Lib.hid (by rw [all_take_succ _ _ (by have := hlen.out; omega), HA.out, HG.out, HQ.out]; rfl)⟩
            case measure => simp [intOf]; omega
          | false =>
            have HIN2 : Hid (Calls Try.prog 55 #[.int .u8 kk] w' fun e w1 => e = .returned (.bool false) ∧ w1 = w') := by rw [← hq]; exact HIN.out
            have HQ := Lib.hid hq
            clear hq HIN
            go_wp2_with fail
            (with_reducible refine HKA.out.mono ?_)
            rintro e w2 ⟨rfl, rfl⟩
            go_wp2_with fail
            (with_reducible refine HIN2.out.mono ?_)
            rintro e w3 ⟨rfl, rfl⟩
            clear HKA HIN2
            go_wp2
            go_ret
            exact ⟨retB (namesF_no _ k (by have := hlen.out; omega) (by rw [HG.out]; exact HQ.out)).symm, HB.out⟩
        · have hks : k = s.size := by omega
          have HKS := Lib.hid hks
          clear hks
          go_wp2
          go_ret
          exact ⟨retB (namesF_yes _ (by have := hlen.out; omega) HL.out (by rw [hlen.out, ← HKS.out]; exact HA.out)).symm, HB.out⟩
    · have hk3' : (k != 3) = true := by simpa using hk3
      have HL : Hid (isLetter ((bytesI s).getD 0 0) = false) := Lib.hid (by rw [H00.out, ← KL3.out]; simpa using hk3)
      clear KL3 H00
      go_wp2
      go_ret
      exact ⟨retB (namesF_head _ (by have := hlen.out; omega) HL.out).symm, HB.out⟩
set_option maxHeartbeats 1000000 in
theorem letter_at (c : Int) (w : World) : Calls Try.prog 47 #[.int .u8 c] w fun e w' => e = .returned (.bool (isLetter c)) ∧ w' = w := by
  unfold isLetter
  by_cases h : 97 ≤ c
  · by_cases h2 : c ≤ 122
    · have e : (decide (97 ≤ c) && decide (c ≤ 122)) = true := by simp [h, h2]
      rw [e]
      clear e
      go_enter Try.func47, Try.ntmps47
      go_wp2
      go_ret
      exact ⟨rfl, rfl⟩
    · have e : (decide (97 ≤ c) && decide (c ≤ 122)) = false := by simp [h2]
      rw [e]
      clear e
      go_enter Try.func47, Try.ntmps47
      go_wp2
      go_ret
      exact ⟨rfl, rfl⟩
  · have e : (decide (97 ≤ c) && decide (c ≤ 122)) = false := by simp [h]
    rw [e]
    clear e
    have hd : decide (97 ≤ c) = false := by simpa using h
    go_enter Try.func47, Try.ntmps47
    go_wp2
    go_ret
    exact ⟨rfl, rfl⟩
set_option maxHeartbeats 1000000 in
theorem digit_at (c : Int) (w : World) : Calls Try.prog 48 #[.int .u8 c] w fun e w' => e = .returned (.bool (isDigit c)) ∧ w' = w := by
  unfold isDigit
  by_cases h : 48 ≤ c
  · by_cases h2 : c ≤ 57
    · have e : (decide (48 ≤ c) && decide (c ≤ 57)) = true := by simp [h, h2]
      rw [e]
      clear e
      go_enter Try.func48, Try.ntmps48
      go_wp2
      go_ret
      exact ⟨rfl, rfl⟩
    · have e : (decide (48 ≤ c) && decide (c ≤ 57)) = false := by simp [h2]
      rw [e]
      clear e
      go_enter Try.func48, Try.ntmps48
      go_wp2
      go_ret
      exact ⟨rfl, rfl⟩
  · have e : (decide (48 ≤ c) && decide (c ≤ 57)) = false := by simp [h]
    rw [e]
    clear e
    have hd : decide (48 ≤ c) = false := by simpa using h
    go_enter Try.func48, Try.ntmps48
    go_wp2
    go_ret
    exact ⟨rfl, rfl⟩
set_option maxHeartbeats 4000000 in
set_option maxRecDepth 1000000 in
theorem refIsName_at (w : World) (s : ByteArray) (hb : s.size ≤ 70000) :
    Calls Try.prog 33 #[.string s] w fun e w' => e = .returned (.bool (namesF (bytesI s))) ∧ w' = w := by
  have hlen := Lib.hid (bytesI_length s)
  go_enter Try.func33, Try.ntmps33
  go_wp2_with fail
  go_loop [3] (fun iv => ∃ k : Nat, k ≤ s.size ∧ iv = .int .i64 k ∧ Hid (0 < k → isLetter ((bytesI s).getD 0 0) = true) ∧ Hid (((bytesI s).take k).all isNameB = true)) (fun iv => s.size - (intOf iv).toNat)
  case atStart => exact ⟨0, Nat.zero_le _, rfl, Lib.hid (fun h => absurd h (by omega)), Lib.hid rfl⟩
  case round =>
    obtain ⟨k, hk, rfl, HF, HA⟩ := hrel
    by_cases hlt : k < s.size
    · have hgk := bytesI_get s k hlt
      have hmk := UInt8.toNat_lt s[k]
      obtain ⟨m, hm⟩ : ∃ m, s[k].toNat = m := ⟨_, rfl⟩
      rw [hm] at hgk hmk
      have HG := Lib.hid hgk
      clear hgk
      have LA := Lib.hid (letter_at (m : Int) w)
      have DA := Lib.hid (digit_at (m : Int) w)
      cases hl : isLetter (m : Int) with
      | true =>
        rw [hl] at LA
        have HL := Lib.hid hl
        clear hl DA
        go_wp2_with fail
        (with_reducible refine LA.out.mono ?_)
        rintro e w1 ⟨rfl, rfl⟩
        clear LA
        go_wp2
        go_round
        case rel => exact ⟨k + 1, by omega, by go_num, Lib.hid (fun _ => by
            by_cases h0 : 0 < k
            · exact HF.out h0
            · have : k = 0 := by omega
              rw [← this, HG.out]; exact HL.out), Lib.hid (by rw [all_take_succ _ _ (by have := hlen.out; omega), HA.out, HG.out, isNameB, HL.out]; rfl)⟩
        case measure => simp [intOf]; omega
      | false =>
        rw [hl] at LA
        have HL := Lib.hid hl
        clear hl
        by_cases h0 : k = 0
        · have h0' : ((k : Int) == 0) = true := by simpa using h0
          have HK0 := Lib.hid h0
          clear h0 DA
          go_wp2_with fail
          (with_reducible refine LA.out.mono ?_)
          rintro e w1 ⟨rfl, rfl⟩
          clear LA
          go_wp2
          go_ret
          exact ⟨retB (namesF_head _ (by have := hlen.out; omega) (by have := HG.out; rw [HK0.out] at this; rw [this]; exact HL.out)).symm, rfl⟩
        · have h0' : ((k : Int) == 0) = false := by simpa using h0
          cases hd : isDigit (m : Int) with
          | true =>
            rw [hd] at DA
            have HD := Lib.hid hd
            clear hd
            go_wp2_with fail
            (with_reducible refine LA.out.mono ?_)
            rintro e w1 ⟨rfl, rfl⟩
            go_wp2_with fail
            (with_reducible refine DA.out.mono ?_)
            rintro e w1 ⟨rfl, rfl⟩
            clear LA DA
            go_wp2
            go_round
            case rel => exact ⟨k + 1, by omega, by go_num, Lib.hid (fun _ => HF.out (by omega)), Lib.hid (by rw [all_take_succ _ _ (by have := hlen.out; omega), HA.out, HG.out, isNameB, HL.out, HD.out]; rfl)⟩
            case measure => simp [intOf]; omega
          | false =>
            rw [hd] at DA
            have HD := Lib.hid hd
            clear hd
            by_cases h95 : (m : Int) = 95
            · have h1 : ((m : Int) != 95) = false := by simp [h95]
              have H95 := Lib.hid h95
              clear h95
              go_wp2_with fail
              (with_reducible refine LA.out.mono ?_)
              rintro e w1 ⟨rfl, rfl⟩
              go_wp2_with fail
              (with_reducible refine DA.out.mono ?_)
              rintro e w1 ⟨rfl, rfl⟩
              clear LA DA
              go_wp2
              go_round
              case rel => exact ⟨k + 1, by omega, by go_num, Lib.hid (fun _ => HF.out (by omega)), Lib.hid (by rw [all_take_succ _ _ (by have := hlen.out; omega), HA.out, HG.out, H95.out]; rfl)⟩
              case measure => simp [intOf]; omega
            · have h1 : ((m : Int) != 95) = true := by simpa using h95
              have H95 := Lib.hid h95
              clear h95
              go_wp2_with fail
              (with_reducible refine LA.out.mono ?_)
              rintro e w1 ⟨rfl, rfl⟩
              go_wp2_with fail
              (with_reducible refine DA.out.mono ?_)
              rintro e w1 ⟨rfl, rfl⟩
              clear LA DA
              go_wp2
              go_ret
              exact ⟨retB (namesF_no _ k (by have := hlen.out; omega) (by rw [HG.out, isNameB, HL.out, HD.out]; simpa using H95.out)).symm, rfl⟩
    · have hks : k = s.size := by omega
      have HKS := Lib.hid hks
      clear hks
      go_wp2
      go_ret
      refine ⟨retB ?_, rfl⟩
      by_cases h0 : 0 < s.size
      · rw [namesF_yes _ (by have := hlen.out; omega) (HF.out (by have := HKS.out; omega)) (by rw [hlen.out, ← HKS.out]; exact HA.out)]
        exact decide_eq_true (by omega)
      · have e : bytesI s = [] := List.eq_nil_of_length_eq_zero (by have := hlen.out; omega)
        rw [e, namesF_nil]
        exact decide_eq_false (by omega)
end Go.Proofs.Ytijaelncmjcbmaa
