import Derived.Test.YtabbodbnjegllaaDoorLexG
import Derived.Lib.ConvBytes
namespace Go.Proofs.YtabbodbnjegllaaDoor
open Go.RowKit
def bytesI (s : ByteArray) : List Int := s.data.toList.map fun b => (b.toNat : Int)
theorem bytesI_length (s : ByteArray) : (bytesI s).length = s.size := by simp [bytesI]
theorem bytesI_get (s : ByteArray) (k : Nat) (h : k < s.size) : (bytesI s).getD k 0 = (s[k].toNat : Int) := by
  have : k < s.data.toList.length := by simpa using h
  have e : s.data.toList[k]? = some s[k] := List.getElem?_eq_getElem this
  simp only [bytesI, List.getD, List.getElem?_map, e, Option.map_some, Option.getD_some]
theorem bytesI_byte (s : ByteArray) (i : Nat) : 0 ≤ (bytesI s).getD i 0 ∧ (bytesI s).getD i 0 < 256 := by
  by_cases h : i < s.size
  · rw [bytesI_get s i h]
    have := UInt8.toNat_lt s[i]
    omega
  · simp [List.getD, List.getElem?_eq_none (show (bytesI s).length ≤ i by rw [bytesI_length]; omega)]
theorem bytesI_str (s : ByteArray) : strOfNums (bytesI s) = s := by
  obtain ⟨⟨l⟩⟩ := s
  simp [strOfNums, bytesI, Function.comp_def]
def namesF (l : List Int) : Bool := (match l with | [] => false | c :: _ => isLetter c) && l.all isNameB
theorem namesF_nil : namesF [] = false := rfl
theorem all_take_succ (l : List Int) (k : Nat) (h : k < l.length) : (l.take (k + 1)).all isNameB = ((l.take k).all isNameB && isNameB (l.getD k 0)) := by
  rw [List.take_succ_eq_append_getElem h, List.all_append]
  simp [List.getD, h]
theorem namesF_no (l : List Int) (k : Nat) (h : k < l.length) (hk : isNameB (l.getD k 0) = false) : namesF l = false := by
  unfold namesF
  have : l.all isNameB = false := by
    rw [List.all_eq_false]
    exact ⟨l.getD k 0, by simp [List.getD, h], by rw [hk]; simp⟩
  rw [this, Bool.and_false]
theorem namesF_head (l : List Int) (h : 0 < l.length) (hk : isLetter (l.getD 0 0) = false) : namesF l = false := by
  cases l with
  | nil => simp at h
  | cons c r => simp only [List.getD_cons_zero] at hk; simp [namesF, hk]
theorem namesF_yes (l : List Int) (h : 0 < l.length) (hk : isLetter (l.getD 0 0) = true) (ha : (l.take l.length).all isNameB = true) : namesF l = true := by
  cases l with
  | nil => simp at h
  | cons c r => simp only [List.getD_cons_zero] at hk; rw [List.take_length] at ha; simp only [namesF, hk, ha, Bool.and_true]
theorem retB {a b : Bool} (h : a = b) : Ending.returned (.bool a) = .returned (.bool b) := by rw [h]
set_option maxHeartbeats 4000000 in
set_option maxRecDepth 1000000 in
theorem isName_at (w : World) (s : ByteArray) (hb : s.size ≤ 70000) :
    Calls Tryd.prog 17 #[.string s] w fun e w' => e = .returned (.bool (namesF (bytesI s))) ∧ Below w.heap.size w w' := by
  have HK := Lib.hid (byteKinds_run w)
  by_cases h0 : s.size = 0
  · obtain rfl : s = ByteArray.empty := ByteArray.size_eq_zero_iff.1 h0
    show Calls Tryd.prog 17 #[.string ⟨#[]⟩] w fun e w' => e = .returned (.bool false) ∧ Below w.heap.size w w'
    go_enter Tryd.func17, Tryd.ntmps17
    go_wp2_with fail
    (with_reducible refine HK.out.mono ?_)
    rintro e W1 ⟨rfl, hk⟩
    have HB := Lib.hid hk.below
    clear hk HK
    go_wp2
    go_ret
    exact ⟨rfl, HB.out⟩
  · have hne : s.toList.isEmpty = false := by
      rw [← bytesI_str s, Lib.strOfNums_toList, List.isEmpty_eq_false_iff]
      intro e
      have := congrArg List.length e
      rw [Lib.bytesOf, List.length_map, bytesI_length, List.length_nil] at this
      exact h0 this
    have hpos : 0 < s.size := by omega
    have hlen := Lib.hid (bytesI_length s)
    have h00 := Lib.hid (bytesI_get s 0 hpos)
    have hm0 := UInt8.toNat_lt s[0]
    have KL := Lib.hid (kind_letter (s[0].toNat : Int))
    obtain ⟨m0, hm⟩ : ∃ m0, s[0].toNat = m0 := ⟨_, rfl⟩
    go_enter Tryd.func17, Tryd.ntmps17
    go_wp2_with fail
    (with_reducible refine HK.out.mono ?_)
    rintro e W1 ⟨rfl, hk⟩
    have HKW := Lib.hid hk
    have HB := Lib.hid hk.below
    clear hk HK
    go_wp2_with fail
    have hm256 : m0 < 256 := by omega
    have KA := kind_at W1 (w.heap.size + 1) m0 hm256 (by rw [HKW.out.arr m0 hm256, FK_kind m0 hm256])
    have KL2 := KL.out
    rw [hm] at KL2
    have KL3 := Lib.hid KL2
    have H00 : Hid ((bytesI s).getD 0 0 = (m0 : Int)) := by rw [← hm]; exact h00
    clear KL2 KL h00
    generalize kindF m0 = k at *
    (with_reducible refine KA.mono ?_)
    rintro e w' ⟨rfl, rfl⟩
    clear KA
    by_cases hk3 : k = 3
    · subst hk3
      have HL : Hid (isLetter ((bytesI s).getD 0 0) = true) := Lib.hid (by rw [H00.out]; simpa using KL3.out.symm)
      clear hm hm0 hm256 KL3 H00
      go_wp2_with fail
      go_loop [17] (fun iv => ∃ k : Nat, k ≤ s.size ∧ iv = .int .i64 k ∧ Hid (((bytesI s).take k).all isNameB = true)) (fun iv => s.size - (intOf iv).toNat)
      case atStart => exact ⟨0, Nat.zero_le _, rfl, Lib.hid rfl⟩
      case round =>
        obtain ⟨k, hk, rfl, HA⟩ := hrel
        by_cases hlt : k < s.size
        · have hgk := bytesI_get s k hlt
          have hmk := UInt8.toNat_lt s[k]
          obtain ⟨m, hm⟩ : ∃ m, s[k].toNat = m := ⟨_, rfl⟩
          rw [hm] at hgk hmk
          have hm256 : m < 256 := by omega
          have KA := kind_at w' (w.heap.size + 1) m hm256 (by rw [HKW.out.arr m hm256, FK_kind m hm256])
          have KN := kind_name m
          have HG := Lib.hid hgk
          clear hgk
          generalize kindF m = kk at *
          have IN := inName_at w' kk
          rw [KN] at IN
          have HKA := Lib.hid KA
          have HIN := Lib.hid IN
          clear KN KA IN
          cases hq : isNameB m with
          | true =>
            have HIN2 : Hid (Calls Tryd.prog 32 #[.int .u8 kk] w' fun e w1 => e = .returned (.bool true) ∧ w1 = w') := by rw [← hq]; exact HIN.out
            have HQ := Lib.hid hq
            clear hq HIN
            go_wp2_with fail
            (with_reducible refine HKA.out.mono ?_)
            rintro e w2 ⟨rfl, rfl⟩
            go_wp2_with fail
            (with_reducible refine HIN2.out.mono ?_)
            rintro e w3 ⟨rfl, rfl⟩
            clear HKA HIN2
            go_wp2
            go_round
            case rel => exact ⟨k + 1, by omega, by go_num, Lib.hid (by rw [all_take_succ _ _ (by have := hlen.out; omega), HA.out, HG.out, HQ.out]; rfl)⟩
            case measure => simp [intOf]; omega
          | false =>
            have HIN2 : Hid (Calls Tryd.prog 32 #[.int .u8 kk] w' fun e w1 => e = .returned (.bool false) ∧ w1 = w') := by rw [← hq]; exact HIN.out
            have HQ := Lib.hid hq
            clear hq HIN
            go_wp2_with fail
            (with_reducible refine HKA.out.mono ?_)
            rintro e w2 ⟨rfl, rfl⟩
            go_wp2_with fail
            (with_reducible refine HIN2.out.mono ?_)
            rintro e w3 ⟨rfl, rfl⟩
            clear HKA HIN2
            go_wp2
            go_ret
            exact ⟨retB (namesF_no _ k (by have := hlen.out; omega) (by rw [HG.out]; exact HQ.out)).symm, HB.out⟩
        · have hks : k = s.size := by omega
          have HKS := Lib.hid hks
          clear hks
          go_wp2
          go_ret
          exact ⟨retB (namesF_yes _ (by have := hlen.out; omega) HL.out (by rw [hlen.out, ← HKS.out]; exact HA.out)).symm, HB.out⟩
    · have hk3' : (k != 3) = true := by simpa using hk3
      have HL : Hid (isLetter ((bytesI s).getD 0 0) = false) := Lib.hid (by rw [H00.out, ← KL3.out]; simpa using hk3)
      clear KL3 H00
      go_wp2
      go_ret
      exact ⟨retB (namesF_head _ (by have := hlen.out; omega) HL.out).symm, HB.out⟩
end Go.Proofs.YtabbodbnjegllaaDoor
