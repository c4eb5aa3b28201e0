import Derived.Test.YtabbodbnjegllaaDoorLexH
namespace Go.Proofs.YtabbodbnjegllaaDoor
open Go.RowKit
set_option maxHeartbeats 1000000 in
theorem letter_at (c : Int) (w : World) : Calls Tryd.prog 25 #[.int .u8 c] w fun e w' => e = .returned (.bool (isLetter c)) ∧ w' = w := by
  unfold isLetter
  by_cases h : 97 ≤ c
  · by_cases h2 : c ≤ 122
    · have e : (decide (97 ≤ c) && decide (c ≤ 122)) = true := by simp [h, h2]
      rw [e]
      clear e
      go_enter Tryd.func25, Tryd.ntmps25
      go_wp2
      go_ret
      exact ⟨rfl, rfl⟩
    · have e : (decide (97 ≤ c) && decide (c ≤ 122)) = false := by simp [h2]
      rw [e]
      clear e
      go_enter Tryd.func25, Tryd.ntmps25
      go_wp2
      go_ret
      exact ⟨rfl, rfl⟩
  · have e : (decide (97 ≤ c) && decide (c ≤ 122)) = false := by simp [h]
    rw [e]
    clear e
    have hd : decide (97 ≤ c) = false := by simpa using h
    go_enter Tryd.func25, Tryd.ntmps25
    go_wp2
    go_ret
    exact ⟨rfl, rfl⟩
set_option maxHeartbeats 1000000 in
theorem digit_at (c : Int) (w : World) : Calls Tryd.prog 26 #[.int .u8 c] w fun e w' => e = .returned (.bool (isDigit c)) ∧ w' = w := by
  unfold isDigit
  by_cases h : 48 ≤ c
  · by_cases h2 : c ≤ 57
    · have e : (decide (48 ≤ c) && decide (c ≤ 57)) = true := by simp [h, h2]
      rw [e]
      clear e
      go_enter Tryd.func26, Tryd.ntmps26
      go_wp2
      go_ret
      exact ⟨rfl, rfl⟩
    · have e : (decide (48 ≤ c) && decide (c ≤ 57)) = false := by simp [h2]
      rw [e]
      clear e
      go_enter Tryd.func26, Tryd.ntmps26
      go_wp2
      go_ret
      exact ⟨rfl, rfl⟩
  · have e : (decide (48 ≤ c) && decide (c ≤ 57)) = false := by simp [h]
    rw [e]
    clear e
    have hd : decide (48 ≤ c) = false := by simpa using h
    go_enter Tryd.func26, Tryd.ntmps26
    go_wp2
    go_ret
    exact ⟨rfl, rfl⟩
set_option maxHeartbeats 4000000 in
set_option maxRecDepth 1000000 in
theorem refIsName_at (w : World) (s : ByteArray) (hb : s.size ≤ 70000) :
    Calls Tryd.prog 18 #[.string s] w fun e w' => e = .returned (.bool (namesF (bytesI s))) ∧ w' = w := by
  have hlen := Lib.hid (bytesI_length s)
  go_enter Tryd.func18, Tryd.ntmps18
  go_wp2_with fail
  go_loop [3] (fun iv => ∃ k : Nat, k ≤ s.size ∧ iv = .int .i64 k ∧ Hid (0 < k → isLetter ((bytesI s).getD 0 0) = true) ∧ Hid (((bytesI s).take k).all isNameB = true)) (fun iv => s.size - (intOf iv).toNat)
  case atStart => exact ⟨0, Nat.zero_le _, rfl, Lib.hid (fun h => absurd h (by omega)), Lib.hid rfl⟩
  case round =>
    obtain ⟨k, hk, rfl, HF, HA⟩ := hrel
    by_cases hlt : k < s.size
    · have hgk := bytesI_get s k hlt
      have hmk := UInt8.toNat_lt s[k]
      obtain ⟨m, hm⟩ : ∃ m, s[k].toNat = m := ⟨_, rfl⟩
      rw [hm] at hgk hmk
      have HG := Lib.hid hgk
      clear hgk
      have LA := Lib.hid (letter_at (m : Int) w)
      have DA := Lib.hid (digit_at (m : Int) w)
      cases hl : isLetter (m : Int) with
      | true =>
        rw [hl] at LA
        have HL := Lib.hid hl
        clear hl DA
        go_wp2_with fail
        (with_reducible refine LA.out.mono ?_)
        rintro e w1 ⟨rfl, rfl⟩
        clear LA
        go_wp2
        go_round
        case rel => exact ⟨k + 1, by omega, by go_num, Lib.hid (fun _ => by
            by_cases h0 : 0 < k
            · exact HF.out h0
            · have : k = 0 := by omega
              rw [← this, HG.out]; exact HL.out), Lib.hid (by rw [all_take_succ _ _ (by have := hlen.out; omega), HA.out, HG.out, isNameB, HL.out]; rfl)⟩
        case measure => simp [intOf]; omega
      | false =>
        rw [hl] at LA
        have HL := Lib.hid hl
        clear hl
        by_cases h0 : k = 0
        · have h0' : ((k : Int) == 0) = true := by simpa using h0
          have HK0 := Lib.hid h0
          clear h0 DA
          go_wp2_with fail
          (with_reducible refine LA.out.mono ?_)
          rintro e w1 ⟨rfl, rfl⟩
          clear LA
          go_wp2
          go_ret
          exact ⟨retB (namesF_head _ (by have := hlen.out; omega) (by have := HG.out; rw [HK0.out] at this; rw [this]; exact HL.out)).symm, rfl⟩
        · have h0' : ((k : Int) == 0) = false := by simpa using h0
          cases hd : isDigit (m : Int) with
          | true =>
            rw [hd] at DA
            have HD := Lib.hid hd
            clear hd
            go_wp2_with fail
            (with_reducible refine LA.out.mono ?_)
            rintro e w1 ⟨rfl, rfl⟩
            go_wp2_with fail
            (with_reducible refine DA.out.mono ?_)
            rintro e w1 ⟨rfl, rfl⟩
            clear LA DA
            go_wp2
            go_round
            case rel => exact ⟨k + 1, by omega, by go_num, Lib.hid (fun _ => HF.out (by omega)), Lib.hid (by rw [all_take_succ _ _ (by have := hlen.out; omega), HA.out, HG.out, isNameB, HL.out, HD.out]; rfl)⟩
            case measure => simp [intOf]; omega
          | false =>
            rw [hd] at DA
            have HD := Lib.hid hd
            clear hd
            by_cases h95 : (m : Int) = 95
            · have h1 : ((m : Int) != 95) = false := by simp [h95]
              have H95 := Lib.hid h95
              clear h95
              go_wp2_with fail
              (with_reducible refine LA.out.mono ?_)
              rintro e w1 ⟨rfl, rfl⟩
              go_wp2_with fail
              (with_reducible refine DA.out.mono ?_)
              rintro e w1 ⟨rfl, rfl⟩
              clear LA DA
              go_wp2
              go_round
              case rel => exact ⟨k + 1, by omega, by go_num, Lib.hid (fun _ => HF.out (by omega)), Lib.hid (by rw [all_take_succ _ _ (by have := hlen.out; omega), HA.out, HG.out, H95.out]; rfl)⟩
              case measure => simp [intOf]; omega
            · have h1 : ((m : Int) != 95) = true := by simpa using h95
              have H95 := Lib.hid h95
              clear h95
              go_wp2_with fail
              (with_reducible refine LA.out.mono ?_)
              rintro e w1 ⟨rfl, rfl⟩
              go_wp2_with fail
              (with_reducible refine DA.out.mono ?_)
              rintro e w1 ⟨rfl, rfl⟩
              clear LA DA
              go_wp2
              go_ret
              exact ⟨retB (namesF_no _ k (by have := hlen.out; omega) (by rw [HG.out, isNameB, HL.out, HD.out]; simpa using H95.out)).symm, rfl⟩
    · have hks : k = s.size := by omega
      have HKS := Lib.hid hks
      clear hks
      go_wp2
      go_ret
      refine ⟨retB ?_, rfl⟩
      by_cases h0 : 0 < s.size
      · rw [namesF_yes _ (by have := hlen.out; omega) (HF.out (by have := HKS.out; omega)) (by rw [hlen.out, ← HKS.out]; exact HA.out)]
        exact decide_eq_true (by omega)
      · have e : bytesI s = [] := List.eq_nil_of_length_eq_zero (by have := hlen.out; omega)
        rw [e, namesF_nil]
        exact decide_eq_false (by omega)
theorem run_full (p : Int → Bool) (l : List Int) (h : l.all p = true) : run p l = l.length := by
  induction l with
  | nil => rfl
  | cons c r ih =>
    simp only [List.all_cons, Bool.and_eq_true] at h
    simp only [run, h.1, if_true, ih h.2, List.length_cons]
theorem full_run (p : Int → Bool) (l : List Int) (h : run p l = l.length) : l.all p = true := by
  rw [List.all_eq_true]
  intro x hx
  obtain ⟨i, hi, rfl⟩ := List.mem_iff_getElem.1 hx
  have := run_all p l i (by omega)
  simpa [List.getD, hi] using this
theorem letter_plain {c : Int} (h : isLetter c = true) : isBlank c = false ∧ c ≠ 35 := by
  simp only [isLetter, Bool.and_eq_true, decide_eq_true_eq] at h
  refine ⟨?_, by omega⟩
  simp only [isBlank, Bool.or_eq_false_iff, beq_eq_false_iff_ne]
  omega
theorem lexS_name (xs : List Int) (h : namesF xs = true) : lexS xs = .ok [⟨1, 0, xs.length, xs, 0⟩, Tok.endAt xs.length] := by
  have hpos : 0 < xs.length := by
    cases xs with
    | nil => simp [namesF] at h
    | cons c r => simp
  obtain ⟨hl, ha⟩ : isLetter (xs.getD 0 0) = true ∧ xs.all isNameB = true := by
    cases xs with
    | nil => simp at hpos
    | cons c r => simpa [namesF] using h
  have hp := letter_plain hl
  have hs : step (xs.drop 0) = .tok 1 xs.length 0 := by
    rw [drop_at xs 0 hpos, step, if_pos hl, ← drop_at xs 0 hpos, List.drop_zero, run_full _ _ ha]
  rw [lexS_at, lexAt_tok xs 0 1 xs.length 0 hpos (bl_stay xs 0 hpos hp.1 hp.2) hs, lexAt_end xs _ (by simp)]
  simp [pre]
theorem step_name {l : List Int} {len : Nat} {n : Int} (h : step l = .tok 1 len n) : isLetter (l.getD 0 0) = true ∧ len = run isNameB l := by
  cases l with
  | nil => simp [step] at h
  | cons c r =>
    simp only [step] at h
    split at h
    · rename_i hl
      simp only [Step.tok.injEq] at h
      exact ⟨by simpa using hl, h.2.1.symm⟩
    · split at h
      · split at h <;> simp at h
      · split at h <;> simp at h
theorem name_lexS (xs : List Int) (t u : Tok) (h : lexS xs = .ok [t, u]) (hk : t.kind = 1) (ht : t.text = xs) : namesF xs = true := by
  rw [lexS_at, lexAt_bl xs 0 (by omega)] at h
  have hb := bl_le xs 0 (by omega)
  have hi := bl_idem xs 0
  generalize bl xs 0 = i at *
  by_cases hlt : i < xs.length
  · cases hs : step (xs.drop i) with
    | err e => rw [lexAt_err xs i e hlt hi hs] at h; simp at h
    | tok k l n =>
      rw [lexAt_tok xs i k l n hlt hi hs] at h
      have hl := step_len hs
      rw [List.length_drop] at hl
      cases hr : lexAt xs (i + l) with
      | error e => rw [hr] at h; simp [pre] at h
      | ok us =>
        rw [hr] at h
        simp only [pre, Except.ok.injEq, List.singleton_append, List.cons.injEq] at h
        obtain ⟨rfl, _⟩ := h
        simp only at hk ht
        subst hk
        have hlen := congrArg List.length ht
        rw [List.length_take, List.length_drop] at hlen
        obtain rfl : i = 0 := by omega
        obtain ⟨h1, h2⟩ := step_name hs
        rw [List.drop_zero] at h1 h2
        exact namesF_yes xs hlt h1 (by rw [List.take_length]; exact full_run _ _ (by omega))
  · rw [lexAt_end xs i (by omega)] at h
    simp at h
theorem bytes_conv (W : World) (s : ByteArray) : ∃ W' cap, (convert 9 22 (.string s)).run Tryd.prog W = .ok (.slice (some ⟨W.heap.size, 0, none⟩) s.size cap) W' ∧ Below W.heap.size W W' ∧ Src W' (some ⟨W.heap.size, 0, none⟩) s.size cap (bytesI s) := by
  refine ⟨Lib.bytesWorld W 5 s, grownCap W s.size 0 5, Lib.run_convert_string_bytes W 9 22 5 s Tryd.underlying9 Tryd.underlying22 Tryd.underlying5, ?_, bytesI_length s, bytesI_byte s, Or.inr ⟨W.heap.size, 0, rfl, grownCap_ge _ _ _ _, by rw [Lib.bytesWorld_size]; omega, fun i hi => ?_⟩⟩
  · exact ⟨by simp [Lib.bytesWorld, World.freeze, World.alloc, World.drew, -World.alloc_eq, -World.drew_eq], by simp [Lib.bytesWorld, World.freeze, World.alloc, World.drew, -World.alloc_eq, -World.drew_eq], by simp [Lib.bytesWorld, World.freeze, World.alloc, World.drew, -World.alloc_eq, -World.drew_eq], by rw [Lib.bytesWorld_size]; omega, fun k hk => Lib.bytesWorld_at_old W 5 s k hk⟩
  · rw [Nat.zero_add, Lib.bytesWorld_cell W 5 s i hi, bytesI_get s i hi]
    have e : s.data.toList[i]? = some s[i] := List.getElem?_eq_getElem (by simpa using hi)
    rw [List.getD, e, Option.getD_some]
end Go.Proofs.YtabbodbnjegllaaDoor
