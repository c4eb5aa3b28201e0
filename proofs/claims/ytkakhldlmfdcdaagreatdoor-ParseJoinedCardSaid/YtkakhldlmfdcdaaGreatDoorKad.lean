/- Contracts on the way to the laws of layer 5: LexE, DiagM, DiagE, DiagN, ParsePa, ParsePb, ParsePc, ParseQ. -/
import Derived.Test.YtkakhldlmfdcdaaGreatDoorKab
import Derived.Test.YtkakhldlmfdcdaaGreatDoorKac
import Derived.Deep.RegionHeld3
import Derived.Shelf.Bytes.SlCountOne
import Derived.Test.YtkakhldlmfdcdaaGreatDoorProg
import Derived.WalkKit
import Derived.Handy
import Derived.Lib.Hide
import Derived.Below
import Derived.Deep.QuietTactic
import Derived.BigQuiet
section
namespace Go.Proofs.YtkakhldlmfdcdaaGreatDoor
open Go.RowKit
theorem kind_letter (c : Int) : (kindF c == 3) = isLetter c := by
  unfold kindF
  by_cases h1 : isBlank c = true
  · have : c = 32 ∨ c = 9 ∨ c = 10 ∨ c = 13 := by simpa [isBlank, or_assoc] using h1
    rcases this with rfl | rfl | rfl | rfl <;> decide
  · by_cases h2 : c = 35
    · subst h2; decide
    · by_cases h3 : isLetter c = true
      · simp [h1, h2, h3]
      · simp only [h1, h2, h3]
        repeat' split
        all_goals simp_all
theorem mark_cases {c : Int} (h : isMark c = true) : c = 123 ∨ c = 125 ∨ c = 40 ∨ c = 41 ∨ c = 91 ∨ c = 93 ∨ c = 59 ∨ c = 44 ∨ c = 46 ∨ c = 43 ∨ c = 45 ∨ c = 42 ∨ c = 60 ∨ c = 61 := by
  simpa [isMark] using h
theorem kind_mark (c : Int) : (kindF c == 6) = isMark c := by
  by_cases h : isMark c = true
  · rcases mark_cases h with rfl | rfl | rfl | rfl | rfl | rfl | rfl | rfl | rfl | rfl | rfl | rfl | rfl | rfl <;> decide
  · have h' : isMark c = false := by simpa using h
    unfold kindF
    rw [h']
    repeat' split
    all_goals simp_all
/-- What tokenAt answers. -/
def TokPost (xs : List Int) (i : Nat) (w : World) (e : Ending) (w' : World) : Prop :=
  (e = match step (xs.drop i) with
    | .err er => .returned (.tuple #[tokV 0 0 0 ⟨#[]⟩ 0, .int .i64 er])
    | .tok k l n => .returned (.tuple #[tokV k i ((i + l : Nat) : Int) (strOfNums ((xs.drop i).take l)) n, .int .i64 0])) ∧ Below w.heap.size w w'
theorem tokPost_tok {xs : List Int} {i l j : Nat} {w W : World} {k n : Int} {st : ByteArray} (hs : step (xs.drop i) = .tok k l n) (hj : j = i + l) (ht : strOfNums ((xs.drop i).take (j - i)) = st) (hb : Below w.heap.size w W) :
    TokPost xs i w (.returned (.tuple #[tokV k i j st n, .int .i64 0])) W := by
  subst ht
  refine ⟨?_, hb⟩
  rw [hs]
  subst hj
  rw [Nat.add_sub_cancel_left]
theorem tokPost_err {xs : List Int} {i : Nat} {w W : World} {er : Int} (hs : step (xs.drop i) = .err er) (hb : Below w.heap.size w W) :
    TokPost xs i w (.returned (.tuple #[tokV 0 0 0 ⟨#[]⟩ 0, .int .i64 er])) W := by
  refine ⟨?_, hb⟩
  rw [hs]
theorem word_keep (w : World) (p : Option Addr) (len c kb i e : Nat) (kd : Int) (xs : List Int) (h : SK w p len c kb xs) (hb : len ≤ 70000) (hi : i < e) (he : e ≤ len) (W : World) (hW : InT w p len c kb W) :
    Calls Tryz.prog 80 #[.agg #[.slice p len c, .func (.func 78) #[] #[.pointer (some ⟨kb, 0, none⟩)]], .int .u8 kd, .int .i64 i, .int .i64 e] W fun ev w' => ev = .returned (.agg #[.int .u8 kd, .int .i64 i, .int .i64 e, .string (strOfNums ((xs.drop i).take (e - i))), .int .i64 0]) ∧ InT w p len c kb w' :=
  (lexWord_at W p len c kb i e kd xs (h.on (Nat.le_refl _) hW.below) hb hi he).mono fun _ _ ⟨h1, h2⟩ => ⟨h1, hW.on h2⟩
theorem pastName_keep (w : World) (p : Option Addr) (len c kb i : Nat) (xs : List Int) (h : SK w p len c kb xs) (hb : len ≤ 70000) (hi : i ≤ len) (W : World) (hW : InT w p len c kb W) :
    Calls Tryz.prog 81 #[.agg #[.slice p len c, .func (.func 78) #[] #[.pointer (some ⟨kb, 0, none⟩)]], .int .i64 i] W fun ev w' => ev = .returned (.int .i64 ((i + run isNameB (xs.drop i) : Nat) : Int)) ∧ InT w p len c kb w' :=
  (pastName_at W p len c kb i xs (h.on (Nat.le_refl _) hW.below) hb hi).mono fun _ _ ⟨h1, h2⟩ => ⟨h1, hW.on h2⟩
theorem pastMark_keep (w : World) (p : Option Addr) (len c kb i : Nat) (xs : List Int) (h : SK w p len c kb xs) (hb : len ≤ 70000) (hi : i < len) (W : World) (hW : InT w p len c kb W) :
    Calls Tryz.prog 83 #[.agg #[.slice p len c, .func (.func 78) #[] #[.pointer (some ⟨kb, 0, none⟩)]], .int .i64 i] W fun ev w' => ev = .returned (.int .i64 ((i + (if xs.getD i 0 = 61 ∧ (xs.drop (i + 1)).head? = some 61 then 2 else 1) : Nat) : Int)) ∧ InT w p len c kb w' :=
  (pastMark_at W p len c kb i xs (h.on (Nat.le_refl _) hW.below) hb hi).mono fun _ _ ⟨h1, h2⟩ => ⟨h1, hW.on h2⟩
set_option maxHeartbeats 4000000 in
set_option maxRecDepth 1000000 in
theorem tokenAt_at (w : World) (p : Option Addr) (len c kb i : Nat) (xs : List Int) (h : SK w p len c kb xs) (hb : len ≤ 70000) (hi : i < len) :
    Calls Tryz.prog 37 #[.agg #[.slice p len c, .func (.func 78) #[] #[.pointer (some ⟨kb, 0, none⟩)]], .int .i64 i] w (TokPost xs i w) := by
  have hlen := Lib.hid h.len_eq
  have HI := Lib.hid (InT.start w p len c kb)
  have hsk := Lib.hid (h.on (Nat.le_refl _) HI.out.below)
  obtain ⟨b, off, rfl, hbl, hc⟩ := hsk.out.addr (by omega)
  have hcj := hc i hi
  have hby := hsk.out.byte i
  obtain ⟨m, hm⟩ : ∃ m : Nat, xs.getD i 0 = m := ⟨(xs.getD i 0).toNat, by omega⟩
  rw [hm] at hcj hby
  have HM := Lib.hid hm
  have hm256 : m < 256 := by omega
  have HK := Lib.hid (hsk.out.kinds m hm256)
  have HX := Lib.hid (drop_at xs i (by have := h.len_eq; omega))
  have KL := Lib.hid (kind_letter m)
  have KD := Lib.hid (kind_digit m)
  have KM := Lib.hid (kind_mark m)
  have HRn := Lib.hid (run_le isNameB (xs.drop i))
  have hpn := pastName_keep w (some ⟨b, off, none⟩) len c kb i xs h hb (by omega)
  have hpm := pastMark_keep w (some ⟨b, off, none⟩) len c kb i xs h hb hi
  have hpw := fun e kd (he : i < e) (he2 : e ≤ len) => word_keep w (some ⟨b, off, none⟩) len c kb i e kd xs h hb he he2
  have H := Lib.hid h
  have PN := Lib.hid hpn
  have PM := Lib.hid hpm
  have PW := Lib.hid hpw
  clear hc hbl hm hby hpn hpm hpw h
  go_enter Tryz.func37, Tryz.ntmps37
  go_wp2_with fail
  go_quiet (first | (go_at_call 78; refine Calls.quiet_of_same (kind_at _ kb m hm256 HK.out)))
  have HIn := Lib.hid (HI.out.on (drewN_below _ _ nq))
  have HId : InT w (some ⟨b, off, none⟩) len c kb ((scanW w (some ⟨b, off, none⟩) len c kb).drewN nq).drew := HIn.out.on (drewN_below _ _ 1)
  clear HK
  generalize kindF m = k at *
  by_cases k3 : k = 3
  · subst k3
    have hst : step (xs.drop i) = .tok 1 (run isNameB (xs.drop i)) 0 := by rw [HX.out, step, HM.out, if_pos (by simpa using KL.out.symm)]
    have hpos : i < i + run isNameB (xs.drop i) ∧ i + run isNameB (xs.drop i) ≤ len := by
      have h1 := (step_len hst).1
      have h2 := HRn.out
      rw [List.length_drop, hlen.out] at h2
      omega
    obtain ⟨j, hj⟩ : ∃ j, i + run isNameB (xs.drop i) = j := ⟨_, rfl⟩
    rw [hj] at hpos
    have PN0 := PN.out
    rw [hj] at PN0
    have PN1 := Lib.hid PN0
    have HJ := Lib.hid hj
    have HS := Lib.hid hst
    have PW1 := Lib.hid (PW.out j 1 hpos.1 hpos.2)
    clear PN0 hj hst PN PM PW
    generalize hst : strOfNums ((xs.drop i).take (j - i)) = st at *
    have HT := Lib.hid hst
    clear hst
    go_wp2_with fail
    go_region_held3 (fun w' => w'.cell? ⟨w.heap.size, 0, none⟩ = some (.slice (some ⟨b, off, none⟩) len c) ∧ w'.cell? ⟨w.heap.size, 1, none⟩ = some (.func (.func 78) #[] #[.pointer (some ⟨kb, 0, none⟩)]) ∧ InT w (some ⟨b, off, none⟩) len c kb w') (refine ⟨?_, ?_, ?_⟩ <;> (first | (with_reducible assumption) | go_keep | (repeat (with_reducible refine InT.set ?_ _ _)); with_reducible assumption))
      (first
        | (go_at_call 81; (with_reducible refine (PN1.out _ ?_).mono ?_); (assumption); rintro e w' ⟨rfl, q⟩; have q0 := q.b0; have q1 := q.b1)
        | (go_at_call 80; (with_reducible refine (PW1.out _ ?_).mono ?_); (assumption); rintro e w' ⟨rfl, q⟩; have q0 := q.b0; have q1 := q.b1; obtain ⟨v0, z0⟩ := q.t0; obtain ⟨v1, z1⟩ := q.t1; obtain ⟨v2, z2⟩ := q.t2; obtain ⟨v3, z3⟩ := q.t3; obtain ⟨v4, z4⟩ := q.t4; have y0 := q.f0; have y1 := q.f1; have y2 := q.f2; have y3 := q.f3; have y4 := q.f4))
    all_goals go_wp2
    all_goals simp [bodyPost, results, Tryz.results37, go_sem, z0, z1, z2, z3, z4]
    all_goals exact tokPost_tok HS.out HJ.out.symm HT.out (five q.below (by omega) _ _ _ _ _)
  · have k3' : (k == 3) = false := by simpa using k3
    by_cases k4 : k = 4
    · subst k4
      have hnl : ¬ (isLetter (m : Int) = true) := by rw [← KL.out]; simp
      have hdg : isDigit (m : Int) = true := by simpa using KD.out.symm
      have NA := lexNumber_at ((scanW w (some ⟨b, off, none⟩) len c kb).drewN nq) (some ⟨b, off, none⟩) len c kb i xs (hsk.out.on (Nat.le_refl _) (drewN_below _ _ nq)) hb hi (by rw [HM.out]; exact hdg)
      cases hn : numV 0 (xs.drop i) with
      | some n =>
        have hst : step (xs.drop i) = .tok 2 (run isDigit (xs.drop i)) n := by
          rw [HX.out, HM.out] at hn
          rw [HX.out, step, HM.out, if_neg hnl, if_pos hdg, hn]
        obtain ⟨j, hj⟩ : ∃ j, i + run isDigit (xs.drop i) = j := ⟨_, rfl⟩
        obtain ⟨st, ht⟩ : ∃ st, strOfNums ((xs.drop i).take (j - i)) = st := ⟨_, rfl⟩
        have NA1 := NA.mono (R' := fun e w' => e = .returned (.tuple #[tokV 2 i j st n, .int .i64 0]) ∧ InT w (some ⟨b, off, none⟩) len c kb w') (fun e w' h => ⟨by
          have h1 := h.1
          rw [hn] at h1
          rw [h1, ← ht, ← hj, Nat.add_sub_cancel_left], HIn.out.on h.2⟩)
        have HJ := Lib.hid hj
        have HS := Lib.hid hst
        have HT := Lib.hid ht
        have NA2 := Lib.hid NA1
        clear NA NA1 hj hst ht hn hnl hdg PN PM PW HId
        go_wp2_with fail
        (with_reducible refine NA2.out.mono ?_)
        rintro e w' ⟨rfl, q⟩
        obtain ⟨_, _, ⟨v0, z0⟩, ⟨v1, z1⟩, ⟨v2, z2⟩, ⟨v3, z3⟩, ⟨v4, z4⟩, y0, y1, y2, y3, y4, zs, zb⟩ := q
        have ZB := Lib.hid zb
        clear zb HI H NA2
        go_wp2
        simp [bodyPost, results, Tryz.results37, go_sem, z0, z1, z2, z3, z4]
        exact tokPost_tok HS.out HJ.out.symm HT.out (five ZB.out (by omega) _ _ _ _ _)
      | none =>
        have hst : step (xs.drop i) = .err 31 := by
          rw [HX.out, HM.out] at hn
          rw [HX.out, step, HM.out, if_neg hnl, if_pos hdg, hn]
        have NA1 := NA.mono (R' := fun e w' => e = .returned (.tuple #[tokV 0 0 0 ⟨#[]⟩ 0, .int .i64 31]) ∧ InT w (some ⟨b, off, none⟩) len c kb w') (fun e w' h => ⟨by
          have h1 := h.1
          rw [hn] at h1
          exact h1, HIn.out.on h.2⟩)
        have HS := Lib.hid hst
        have NA2 := Lib.hid NA1
        clear NA NA1 hst hn hnl hdg PN PM PW HId
        go_wp2_with fail
        (with_reducible refine NA2.out.mono ?_)
        rintro e w' ⟨rfl, q⟩
        obtain ⟨_, _, ⟨v0, z0⟩, ⟨v1, z1⟩, ⟨v2, z2⟩, ⟨v3, z3⟩, ⟨v4, z4⟩, y0, y1, y2, y3, y4, zs, zb⟩ := q
        have ZB := Lib.hid zb
        clear zb HI H NA2
        go_wp2
        simp [bodyPost, results, Tryz.results37, go_sem, z0, z1, z2, z3, z4]
        exact tokPost_err HS.out (five ZB.out (by omega) _ _ _ _ _)
    · have k4' : (k == 4) = false := by simpa using k4
      by_cases k6 : k = 6
      · subst k6
        have hst : step (xs.drop i) = .tok 3 (if xs.getD i 0 = 61 ∧ (xs.drop (i + 1)).head? = some 61 then 2 else 1) 0 := by
          rw [HX.out, step, HM.out, if_neg (by rw [← KL.out]; simp), if_neg (by rw [← KD.out]; simp), if_pos (by simpa using KM.out.symm)]
        have hpos : i < i + (if xs.getD i 0 = 61 ∧ (xs.drop (i + 1)).head? = some 61 then 2 else 1) ∧ i + (if xs.getD i 0 = 61 ∧ (xs.drop (i + 1)).head? = some 61 then 2 else 1) ≤ len := by
          have h1 := step_len hst
          rw [List.length_drop, hlen.out] at h1
          omega
        obtain ⟨j, hj⟩ : ∃ j, i + (if xs.getD i 0 = 61 ∧ (xs.drop (i + 1)).head? = some 61 then 2 else 1) = j := ⟨_, rfl⟩
        rw [hj] at hpos
        have PN0 := PM.out
        rw [hj] at PN0
        have PN1 := Lib.hid PN0
        have HJ := Lib.hid hj
        have HS := Lib.hid hst
        have PW1 := Lib.hid (PW.out j 3 hpos.1 hpos.2)
        clear PN0 hj hst PN PM PW
        generalize hst : strOfNums ((xs.drop i).take (j - i)) = st at *
        have HT := Lib.hid hst
        clear hst
        go_wp2_with fail
        go_region_held3 (fun w' => w'.cell? ⟨w.heap.size, 0, none⟩ = some (.slice (some ⟨b, off, none⟩) len c) ∧ w'.cell? ⟨w.heap.size, 1, none⟩ = some (.func (.func 78) #[] #[.pointer (some ⟨kb, 0, none⟩)]) ∧ InT w (some ⟨b, off, none⟩) len c kb w') (refine ⟨?_, ?_, ?_⟩ <;> (first | (with_reducible assumption) | go_keep | (repeat (with_reducible refine InT.set ?_ _ _)); with_reducible assumption))
          (first
            | (go_at_call 83; (with_reducible refine (PN1.out _ ?_).mono ?_); (assumption); rintro e w' ⟨rfl, q⟩; have q0 := q.b0; have q1 := q.b1)
            | (go_at_call 80; (with_reducible refine (PW1.out _ ?_).mono ?_); (assumption); rintro e w' ⟨rfl, q⟩; have q0 := q.b0; have q1 := q.b1; obtain ⟨v0, z0⟩ := q.t0; obtain ⟨v1, z1⟩ := q.t1; obtain ⟨v2, z2⟩ := q.t2; obtain ⟨v3, z3⟩ := q.t3; obtain ⟨v4, z4⟩ := q.t4; have y0 := q.f0; have y1 := q.f1; have y2 := q.f2; have y3 := q.f3; have y4 := q.f4))

        all_goals go_wp2
        all_goals simp [bodyPost, results, Tryz.results37, go_sem, z0, z1, z2, z3, z4]
        all_goals exact tokPost_tok HS.out HJ.out.symm HT.out (five q.below (by omega) _ _ _ _ _)
      · have k6' : (k == 6) = false := by simpa using k6
        obtain ⟨_, _, ⟨v0, z0⟩, ⟨v1, z1⟩, ⟨v2, z2⟩, ⟨v3, z3⟩, ⟨v4, z4⟩, y0, y1, y2, y3, y4, zs, zb⟩ := HIn.out
        have ZB := Lib.hid zb
        clear zb HI H
        go_wp2
        simp [bodyPost, results, Tryz.results37, go_sem, z0, z1, z2, z3, z4]
        refine tokPost_err ?_ (five ZB.out (by omega) _ _ _ _ _)
        rw [HX.out, step, HM.out, if_neg (by rw [← KL.out]; simp [k3']), if_neg (by rw [← KD.out]; simp [k4']), if_neg (by rw [← KM.out]; simp [k6'])]
end Go.Proofs.YtkakhldlmfdcdaaGreatDoor
end
section
namespace Go.Proofs.YtkakhldlmfdcdaaGreatDoor
open Go.Lib
def lineF (xs : List Int) : Nat → Nat
  | 0 => 1
  | k + 1 => if xs.getD k 0 = 10 then lineF xs k + 1 else lineF xs k
def lastF (xs : List Int) : Nat → Int
  | 0 => -1
  | k + 1 => if xs.getD k 0 = 10 then (k : Int) else lastF xs k
theorem last_bd (xs : List Int) (k : Nat) : -1 ≤ lastF xs k ∧ lastF xs k < k := by
  induction k with
  | zero => simp [lastF]
  | succ k ih => unfold lastF; split <;> omega
theorem line_bd (xs : List Int) (k : Nat) : 1 ≤ lineF xs k ∧ lineF xs k ≤ k + 1 := by
  induction k with
  | zero => simp [lineF]
  | succ k ih => unfold lineF; split <;> omega
theorem line_mono (xs : List Int) (j d : Nat) : lineF xs j ≤ lineF xs (j + d) ∧ (lineF xs j = lineF xs (j + d) → lastF xs j = lastF xs (j + d)) := by
  induction d with
  | zero => simp
  | succ d ih =>
    rw [show j + (d + 1) = (j + d) + 1 from rfl, lineF, lastF]
    split
    · exact ⟨by omega, fun h => by omega⟩
    · exact ih
theorem places (xs : List Int) (j k : Nat) (h : j < k) : lineF xs j < lineF xs k ∨ (lineF xs j = lineF xs k ∧ (j : Int) - lastF xs j < k - lastF xs k) := by
  obtain ⟨d, rfl⟩ : ∃ d, k = j + d := ⟨k - j, by omega⟩
  have := line_mono xs j d
  rcases Nat.lt_or_ge (lineF xs j) (lineF xs (j + d)) with h1 | h1
  · exact Or.inl h1
  · have e : lineF xs j = lineF xs (j + d) := by omega
    exact Or.inr ⟨e, by have := this.2 e; omega⟩
theorem count_line (xs : List Int) (hr : ∀ i, 0 ≤ xs.getD i 0 ∧ xs.getD i 0 < 256) (k : Nat) (hk : k ≤ xs.length) :
    1 + ((countByte (bytesOf (xs.take k)) (10 : Int).toNat.toUInt8 : Nat) : Int) = lineF xs k := by
  induction k with
  | zero => rfl
  | succ k ih =>
    have ih := ih (by omega)
    have ht : xs.take (k + 1) = xs.take k ++ [xs.getD k 0] := by
      rw [List.take_succ_eq_append_getElem (by omega)]
      simp [List.getD, List.getElem?_eq_getElem (show k < xs.length by omega)]
    rw [ht, lineF]
    obtain ⟨h0, h1⟩ := hr k
    generalize xs.getD k 0 = c at h0 h1
    have hb : ∀ l : List Int, bytesOf (l ++ [c]) = bytesOf l ++ [c.toNat.toUInt8] := by intro l; simp [bytesOf]
    have hcb : ∀ l : List UInt8, ∀ x y : UInt8, countByte (l ++ [x]) y = countByte l y + if x = y then 1 else 0 := by
      intro l x y
      simp only [countByte, List.count_append, List.count_singleton]
      by_cases h : x = y <;> simp [h]
    rw [hb, hcb]
    have : c.toNat.toUInt8 = (10 : Int).toNat.toUInt8 ↔ c = 10 := by
      constructor
      · intro h
        have := congrArg UInt8.toNat h
        simp at this
        omega
      · rintro rfl; rfl
    by_cases h : c = 10
    · rw [if_pos (this.2 h), if_pos h]; omega
    · rw [if_neg (fun h' => h (this.1 h')), if_neg h]; omega
end Go.Proofs.YtkakhldlmfdcdaaGreatDoor
end
section
namespace Go.Proofs.YtkakhldlmfdcdaaGreatDoor
open Go.RowKit Go.Lib
theorem ret_i64 {a b : Int} (h : a = b) : Ending.returned (.int .i64 a) = .returned (.int .i64 b) := by rw [h]
set_option maxHeartbeats 1000000 in
theorem count_at (b off n c d : Nat) (xs : List Int) (w : World) (hn : xs.length = n) (hc : ∀ i, i < n → w.cell? ⟨b, off + i, none⟩ = some (.int .u8 (xs.getD i 0))) (hs : w.cell? ⟨d, 0, none⟩ = some (.int .u8 10)) :
    Calls Tryz.prog 42 #[.slice (some ⟨b, off, none⟩) n c, .slice (some ⟨d, 0, none⟩) 1 1] w fun e w' => e = .returned (.int .i64 (countByte (bytesOf xs) (10 : Int).toNat.toUInt8)) ∧ w = w' := by
  have h26 := @run_callFunc_extern Tryz.prog 89 _ Extern.BytealgCount.count Tryz.func89 (by kernel_rfl) (by kernel_rfl) (by kernel_rfl) (by kernel_rfl)
  have hr := run_countSlice (P := Tryz.prog) w b off n c xs hn hc 10
  generalize countByte (bytesOf xs) (10 : Int).toNat.toUInt8 = m at *
  clear hc hn
  go_enter Tryz.func42, Tryz.ntmps42
  go_wp2
  go_ret
  exact ⟨rfl, rfl⟩
set_option maxHeartbeats 1000000 in
theorem count_nil (d : Nat) (w : World) (hs : w.cell? ⟨d, 0, none⟩ = some (.int .u8 10)) :
    Calls Tryz.prog 42 #[.slice none 0 0, .slice (some ⟨d, 0, none⟩) 1 1] w fun e w' => e = .returned (.int .i64 0) ∧ w = w' := by
  have h26 := @run_callFunc_extern Tryz.prog 89 _ Extern.BytealgCount.count Tryz.func89 (by kernel_rfl) (by kernel_rfl) (by kernel_rfl) (by kernel_rfl)
  have hr := run_countNil (P := Tryz.prog) w 0 0 10
  go_enter Tryz.func42, Tryz.ntmps42
  go_wp2
  go_ret
  exact ⟨rfl, rfl⟩
theorem last_nil (w : World) :
    Calls Tryz.prog 43 #[.slice none 0 0, .int .u8 10] w fun e w' => e = .returned (.int .i64 (-1)) ∧ w = w' := by
  go_enter Tryz.func43, Tryz.ntmps43
  go_wp2
  refine wp_loop_rounds 1 ?_
  rw [rounds_succ]
  go_wp2
  go_ret
  exact ⟨rfl, rfl⟩
set_option maxHeartbeats 1000000 in
theorem last_in (b off n c : Nat) (xs : List Int) (w : World) (_hn : n ≤ xs.length) (hb : n ≤ 70000) (hc : ∀ i, i < n → w.cell? ⟨b, off + i, none⟩ = some (.int .u8 (xs.getD i 0))) :
    Calls Tryz.prog 91 #[.slice (some ⟨b, off, none⟩) n c, .int .u8 10] w fun e w' => e = .returned (.int .i64 (lastF xs n)) ∧ w = w' := by
  have HC := Lib.hid hc
  clear hc
  go_enter Tryz.func91, Tryz.ntmps91
  go_wp2
  go_loop [5] (fun i => ∃ m : Nat, m ≤ n ∧ i = .int .i64 ((m : Int) - 1) ∧ lastF xs n = lastF xs m) (fun i => (RowKit.intOf i + 1).toNat)
  case atStart => exact ⟨n, Nat.le_refl _, rfl, rfl⟩
  case round =>
    obtain ⟨m, hm, rfl, he⟩ := hrel
    have HE := Lib.hid he
    clear he
    cases m with
    | zero =>
      go_wp2
      go_ret
      exact ⟨by rw [HE.out]; rfl, rfl⟩
    | succ m =>
      have hcell := HC.out m (by omega)
      obtain ⟨y, hy⟩ : ∃ y, xs.getD m 0 = y := ⟨_, rfl⟩
      rw [hy] at hcell
      have HY := Lib.hid hy
      clear hy
      rw [show ((m + 1 : Nat) : Int) - 1 = (m : Int) by omega]
      by_cases h10 : y = 10
      · subst h10
        go_wp2
        go_ret
        exact ⟨ret_i64 (by rw [HE.out, lastF, if_pos HY.out]), rfl⟩
      · have hd : (y == 10) = false := by simpa using h10
        go_wp2
        go_round
        case rel => exact ⟨m, by omega, by go_num, by rw [HE.out, lastF, if_neg (by rw [HY.out]; exact h10)]⟩
        case measure => simp only [RowKit.intOf]; omega
theorem last_at (b off n c : Nat) (xs : List Int) (w : World) (hn : n ≤ xs.length) (hb : n ≤ 70000) (hc : ∀ i, i < n → w.cell? ⟨b, off + i, none⟩ = some (.int .u8 (xs.getD i 0))) :
    Calls Tryz.prog 43 #[.slice (some ⟨b, off, none⟩) n c, .int .u8 10] w fun e w' => e = .returned (.int .i64 (lastF xs n)) ∧ w = w' := by
  have H := last_in b off n c xs w hn hb hc
  clear hc hn
  generalize lastF xs n = r at *
  go_enter Tryz.func43, Tryz.ntmps43
  go_wp2_with (go_at_call 91; refine H.mono ?_; rintro e' w' ⟨rfl, rfl⟩)
  go_ret
  exact ⟨rfl, rfl⟩
theorem new_ok (v : Value) (at' : Int) (w : World) :
    Calls Tryz.prog 21 #[v, .int .i64 at', .int .i64 0] w fun e w' => e = .returned .nilIface ∧ w = w' := by
  go_enter Tryz.func21, Tryz.ntmps21
  go_wp2
  go_ret
  exact ⟨rfl, rfl⟩
set_option maxHeartbeats 1000000 in
theorem new_nil (at' n : Int) (w : World) (h0 : n ≠ 0) :
    Calls Tryz.prog 21 #[.slice none 0 0, .int .i64 at', .int .i64 n] w fun e w' => e = .returned (.iface 74 (.pointer (some ⟨w.heap.size + 1, 0, none⟩))) ∧ w' = (w.alloc (.cells #[.int .u8 10] 5)).alloc (.cells #[.int .i64 0, .int .i64 1, .int .i64 1, .int .i64 n] 78) := by
  have hz : (n == 0) = false := by simpa using h0
  have hm : min (max at' 0) 0 = 0 := by omega
  go_enter Tryz.func21, Tryz.ntmps21
  go_wp2_with (first | (go_at_call 42; (with_reducible refine (count_nil _ _ (by simp)).mono ?_); rintro e' w' ⟨rfl, rfl⟩) | (go_at_call 43; (with_reducible refine (last_nil _).mono ?_); rintro e' w' ⟨rfl, rfl⟩))
  go_ret
  exact ⟨rfl, rfl⟩
set_option maxHeartbeats 1000000 in
theorem new_at (b off len c k : Nat) (xs : List Int) (at' n : Int) (w : World) (h0 : n ≠ 0) (hl : xs.length = len) (hcap : len ≤ c) (hb : len ≤ 70000) (hk : min (max at' 0) (len : Int) = (k : Int))
    (hr : ∀ i, 0 ≤ xs.getD i 0 ∧ xs.getD i 0 < 256) (hc : ∀ i, i < len → w.cell? ⟨b, off + i, none⟩ = some (.int .u8 (xs.getD i 0))) (hbl : b < w.heap.size) :
    Calls Tryz.prog 21 #[.slice (some ⟨b, off, none⟩) len c, .int .i64 at', .int .i64 n] w fun e w' => e = .returned (.iface 74 (.pointer (some ⟨w.heap.size + 1, 0, none⟩))) ∧ w' = (w.alloc (.cells #[.int .u8 10] 5)).alloc (.cells #[.int .i64 k, .int .i64 (lineF xs k), .int .i64 ((k : Int) - lastF xs k), .int .i64 n] 78) := by
  have hz : (n == 0) = false := by simpa using h0
  have hkl : k ≤ len := by omega
  have hlb := last_bd xs k
  have hlbd := line_bd xs k
  have hcl := count_line xs hr k (by omega)
  have HA : ∀ i, i < k → (w.alloc (.cells #[.int .u8 10] 5)).cell? ⟨b, off + i, none⟩ = some (.int .u8 (xs.getD i 0)) := fun i hi => by rw [World.cell?_alloc_lt _ _ _ hbl]; exact hc i (by omega)
  have H1 := count_at b off k c w.heap.size (xs.take k) (w.alloc (.cells #[.int .u8 10] 5)) (by simp; omega) (fun i hi => by rw [HA i hi]; simp [List.getD, hi]) (by simp)
  have H2 := last_at b off k c xs (w.alloc (.cells #[.int .u8 10] 5)) (by omega) (by omega) HA
  clear HA hc hr
  generalize countByte (bytesOf (xs.take k)) (10 : Int).toNat.toUInt8 = cnt at *
  have hcn : (lineF xs k : Int) = 1 + cnt := hcl.symm
  have hcnt : cnt ≤ 70000 := by omega
  rw [hcn]
  generalize lineF xs k = L at *
  generalize lastF xs k = R at *
  clear hl hcl hcn
  clear hlbd
  go_enter Tryz.func21, Tryz.ntmps21
  go_wp2_with (first | (go_at_call 42; (with_reducible refine H1.mono ?_); rintro e' w' ⟨rfl, rfl⟩) | (go_at_call 43; (with_reducible refine H2.mono ?_); rintro e' w' ⟨rfl, rfl⟩))
  go_ret
  exact ⟨rfl, rfl⟩
set_option maxHeartbeats 1000000 in
theorem count_none (a : Addr) (d : Nat) (w : World) (hs : w.cell? ⟨d, 0, none⟩ = some (.int .u8 10)) :
    Calls Tryz.prog 42 #[.slice (some a) 0 0, .slice (some ⟨d, 0, none⟩) 1 1] w fun e w' => e = .returned (.int .i64 0) ∧ w = w' := by
  have h26 := @run_callFunc_extern Tryz.prog 89 _ Extern.BytealgCount.count Tryz.func89 (by kernel_rfl) (by kernel_rfl) (by kernel_rfl) (by kernel_rfl)
  have hr : (Extern.BytealgCount.count #[.slice (some a) 0 0, .int .u8 10]).run Tryz.prog w = .ok (.int .i64 0) w := run_countAt (P := Tryz.prog) w a 0 0 [] rfl (fun i hi => by omega) 10
  go_enter Tryz.func42, Tryz.ntmps42
  go_wp2
  go_ret
  exact ⟨rfl, rfl⟩
theorem last_none (a : Addr) (w : World) :
    Calls Tryz.prog 43 #[.slice (some a) 0 0, .int .u8 10] w fun e w' => e = .returned (.int .i64 (-1)) ∧ w = w' := by
  go_enter Tryz.func43, Tryz.ntmps43
  go_wp2
  refine wp_loop_rounds 1 ?_
  rw [rounds_succ]
  go_wp2
  go_ret
  exact ⟨rfl, rfl⟩
set_option maxHeartbeats 1000000 in
theorem new_none (a : Addr) (at' n : Int) (w : World) (h0 : n ≠ 0) :
    Calls Tryz.prog 21 #[.slice (some a) 0 0, .int .i64 at', .int .i64 n] w fun e w' => e = .returned (.iface 74 (.pointer (some ⟨w.heap.size + 1, 0, none⟩))) ∧ w' = (w.alloc (.cells #[.int .u8 10] 5)).alloc (.cells #[.int .i64 0, .int .i64 1, .int .i64 1, .int .i64 n] 78) := by
  have hz : (n == 0) = false := by simpa using h0
  have hm : min (max at' 0) 0 = 0 := by omega
  go_enter Tryz.func21, Tryz.ntmps21
  go_wp2_with (first | (go_at_call 42; (with_reducible refine (count_none _ _ _ (by simp)).mono ?_); rintro e' w' ⟨rfl, rfl⟩) | (go_at_call 43; (with_reducible refine (last_none _ _).mono ?_); rintro e' w' ⟨rfl, rfl⟩))
  go_ret
  exact ⟨rfl, rfl⟩
end Go.Proofs.YtkakhldlmfdcdaaGreatDoor
end
section
namespace Go.Proofs.YtkakhldlmfdcdaaGreatDoor
open Go.RowKit

structure NewW (w W : World) (x l c n : Int) : Prop where
  below : Below w.heap.size w W
  size : w.heap.size + 1 < W.heap.size
  c0 : W.cell? ⟨w.heap.size + 1, 0, none⟩ = some (.int .i64 x)
  c1 : W.cell? ⟨w.heap.size + 1, 1, none⟩ = some (.int .i64 l)
  c2 : W.cell? ⟨w.heap.size + 1, 2, none⟩ = some (.int .i64 c)
  c3 : W.cell? ⟨w.heap.size + 1, 3, none⟩ = some (.int .i64 n)
theorem newW_mk (w : World) (x l c n : Int) : NewW w ((w.alloc (.cells #[.int .u8 10] 5)).alloc (.cells #[.int .i64 x, .int .i64 l, .int .i64 c, .int .i64 n] 78)) x l c n :=
  { below := ((Below.refl _ _).alloc (Nat.le_refl _) _).alloc (by simp) _, size := by simp, c0 := by simp, c1 := by simp, c2 := by simp, c3 := by simp }
def Src (w : World) (p : Option Addr) (len c : Nat) (xs : List Int) : Prop :=
  xs.length = len ∧ (∀ i, 0 ≤ xs.getD i 0 ∧ xs.getD i 0 < 256) ∧ ((len = 0 ∧ c = 0) ∨ ∃ b off, p = some ⟨b, off, none⟩ ∧ len ≤ c ∧ b < w.heap.size ∧ ∀ i, i < len → w.cell? ⟨b, off + i, none⟩ = some (.int .u8 (xs.getD i 0)))
theorem Src.below {w W : World} {p : Option Addr} {len c : Nat} {xs : List Int} (h : Src w p len c xs) (hb : Below w.heap.size w W) : Src W p len c xs := by
  obtain ⟨h1, h2, h3⟩ := h
  refine ⟨h1, h2, ?_⟩
  rcases h3 with h3 | ⟨b, off, e, hc, hl, hx⟩
  · exact Or.inl h3
  · exact Or.inr ⟨b, off, e, hc, Nat.lt_of_lt_of_le hl hb.size, fun i hi => by rw [hb.cell (p := ⟨b, off + i, none⟩) hl]; exact hx i hi⟩
theorem new_src (p : Option Addr) (len c k : Nat) (xs : List Int) (at' n : Int) (w : World) (h0 : n ≠ 0) (hb : len ≤ 70000) (hk : min (max at' 0) (len : Int) = (k : Int)) (hs : Src w p len c xs) :
    Calls Tryz.prog 21 #[.slice p len c, .int .i64 at', .int .i64 n] w fun e w' => e = .returned (.iface 74 (.pointer (some ⟨w.heap.size + 1, 0, none⟩))) ∧ NewW w w' k (lineF xs k) ((k : Int) - lastF xs k) n := by
  obtain ⟨h1, h2, h3⟩ := hs
  rcases h3 with ⟨rfl, rfl⟩ | ⟨b, off, rfl, hc, hl, hx⟩
  · obtain rfl : k = 0 := by omega
    cases p with
    | none =>
      refine (new_nil at' n w h0).mono ?_
      rintro e w' ⟨rfl, rfl⟩
      exact ⟨rfl, newW_mk w _ _ _ n⟩
    | some a =>
      refine (new_none a at' n w h0).mono ?_
      rintro e w' ⟨rfl, rfl⟩
      exact ⟨rfl, newW_mk w _ _ _ n⟩
  · refine (new_at b off len c k xs at' n w h0 h1 hc hb hk h2 hx hl).mono ?_
    rintro e w' ⟨rfl, rfl⟩
    exact ⟨rfl, newW_mk w _ _ _ n⟩
theorem new_ab (w : World) (b : Nat) (hbl : b < w.heap.size) (h0 : w.cell? ⟨b, 0, none⟩ = some (.int .u8 97)) (h1 : w.cell? ⟨b, 1, none⟩ = some (.int .u8 98)) (h2 : w.cell? ⟨b, 2, none⟩ = some (.int .u8 10)) (h3 : w.cell? ⟨b, 3, none⟩ = some (.int .u8 99)) :
    Calls Tryz.prog 21 #[.slice (some ⟨b, 0, none⟩) 4 4, .int .i64 3, .int .i64 50] w fun e w' => e = .returned (.iface 74 (.pointer (some ⟨w.heap.size + 1, 0, none⟩))) ∧ NewW w w' 3 2 1 50 := by
  refine (new_src (some ⟨b, 0, none⟩) 4 4 3 [97, 98, 10, 99] 3 50 w (by decide) (by decide) (by decide) ⟨rfl, ?_, Or.inr ⟨b, 0, rfl, by decide, hbl, ?_⟩⟩).mono ?_
  · intro i
    match i with
    | 0 | 1 | 2 | 3 => decide
    | i + 4 => simp [List.getD]
  · intro i hi
    match i, hi with
    | 0, _ => simpa using h0
    | 1, _ => simpa using h1
    | 2, _ => simpa using h2
    | 3, _ => simpa using h3
  · rintro e w' ⟨rfl, h⟩
    exact ⟨rfl, h⟩
theorem new_zero (at' n : Int) (w : World) (h0 : n ≠ 0) :
    Calls Tryz.prog 21 #[.slice none 0 0, .int .i64 at', .int .i64 n] w fun e w' => e = .returned (.iface 74 (.pointer (some ⟨w.heap.size + 1, 0, none⟩))) ∧ NewW w w' 0 1 1 n := by
  refine (new_nil at' n w h0).mono ?_
  rintro e w' ⟨rfl, rfl⟩
  exact ⟨rfl, newW_mk w _ _ _ n⟩
end Go.Proofs.YtkakhldlmfdcdaaGreatDoor
end
section
namespace Go.Proofs.YtkakhldlmfdcdaaGreatDoor
open Par
/-- Two tokens that are the same, but for where they stand. -/
def TokR (ρ : Nat → Nat → Prop) (t t' : PT) : Prop := t.kind = t'.kind ∧ t.txt = t'.txt ∧ t.n = t'.n ∧ ρ t.at' t'.at'
inductive TokL (ρ : Nat → Nat → Prop) : List PT → List PT → Prop
  | nil : TokL ρ [] []
  | cons {t t' : PT} {l l' : List PT} (h : TokR ρ t t') (r : TokL ρ l l') : TokL ρ (t :: l) (t' :: l')
inductive AstR (ρ : Nat → Nat → Prop) : Ast → Ast → Prop
  | mk {k : Int} {a a' : Nat} {t : ByteArray} {n : Int} {ks ks' : List Ast} (h : ρ a a') (hl : ks.length = ks'.length) (hk : ∀ (i : Nat) (x y : Ast), ks[i]? = some x → ks'[i]? = some y → AstR ρ x y) : AstR ρ (.mk k a t n ks) (.mk k a' t n ks')
def KidsR (ρ : Nat → Nat → Prop) (ks ks' : List Ast) : Prop := ks.length = ks'.length ∧ ∀ (i : Nat) (x y : Ast), ks[i]? = some x → ks'[i]? = some y → AstR ρ x y
def ResR {α : Type} (ρ : Nat → Nat → Prop) (R : α → α → Prop) : Res α → Res α → Prop
  | .err _ c, .err _ c' => c = c'
  | .ok a l, .ok a' l' => R a a' ∧ TokL ρ l l'
  | _, _ => False
/-- A parser does not ask where tokens stand. -/
def RelP {α : Type} (ρ : Nat → Nat → Prop) (R : α → α → Prop) (f f' : Par α) : Prop := ∀ l l', TokL ρ l l' → ResR ρ R (f l) (f' l')
section
variable {ρ : Nat → Nat → Prop} {α β : Type}
theorem TokL.len {l l' : List PT} (h : TokL ρ l l') : l.length = l'.length := by
  induction h with
  | nil => rfl
  | cons _ _ ih => simp only [List.length_cons, ih]
theorem RelP.pure {R : α → α → Prop} {a a' : α} (h : R a a') : RelP ρ R (Par.pure a) (Par.pure a') := fun _ _ hl => ⟨h, hl⟩
theorem RelP.bind {R : α → α → Prop} {S : β → β → Prop} {f f' : Par α} {g g' : α → Par β} (hf : RelP ρ R f f') (hg : ∀ a a', R a a' → RelP ρ S (g a) (g' a')) : RelP ρ S (Par.bind f g) (Par.bind f' g') := fun l l' hl => by
  have h := hf l l' hl
  simp only [Par.bind]
  cases h1 : f l with
  | err p c =>
    cases h2 : f' l' with
    | err p' c' => rw [h1, h2] at h; exact h
    | ok a' m' => rw [h1, h2] at h; exact h.elim
  | ok a m =>
    cases h2 : f' l' with
    | err p' c' => rw [h1, h2] at h; exact h.elim
    | ok a' m' => rw [h1, h2] at h; exact hg a a' h.1 m m' h.2
def OptR (R : α → α → Prop) : Option α → Option α → Prop
  | none, none => True
  | some a, some b => R a b
  | _, _ => False
theorem RelP.loop {R : α → α → Prop} {step step' : α → Par (Option α)} (hs : ∀ a a', R a a' → RelP ρ (OptR R) (step a) (step' a')) (m : Nat) : ∀ a a', R a a' → RelP ρ R (loop step m a) (loop step' m a') := by
  induction m with
  | zero => intro a a' _ l l' _; exact rfl
  | succ m ih =>
    intro a a' h
    refine RelP.bind (hs a a' h) fun b b' hb => ?_
    cases b with
    | none =>
      cases b' with
      | none => exact RelP.pure h
      | some _ => exact hb.elim
    | some b =>
      cases b' with
      | none => exact hb.elim
      | some b' => exact ih b b' hb
theorem RelP.many {R : α → α → Prop} {step step' : α → Par (Option α)} (hs : ∀ a a', R a a' → RelP ρ (OptR R) (step a) (step' a')) {a a' : α} (h : R a a') : RelP ρ R (many step a) (many step' a') := fun l l' hl => by
  have := RelP.loop hs (l.length + 1) a a' h l l' hl
  simp only [Par.many, ← hl.len]
  exact this
theorem rel_isNext (s : ByteArray) : RelP ρ Eq (isNextP s) (isNextP s) := fun l l' hl => by
  cases hl with
  | nil => exact rfl
  | cons h r => exact ⟨by rw [h.2.1], .cons h r⟩
theorem rel_skip (s : ByteArray) : RelP ρ Eq (skipP s) (skipP s) := fun l l' hl => by
  cases hl with
  | nil => exact rfl
  | cons h r =>
    simp only [skipP, h.2.1]
    split
    · exact ⟨rfl, r⟩
    · exact ⟨rfl, .cons h r⟩
theorem rel_expect (s : ByteArray) : RelP ρ ρ (expectP s) (expectP s) := fun l l' hl => by
  cases hl with
  | nil => exact rfl
  | cons h r =>
    simp only [expectP, h.2.1]
    split
    · exact ⟨h.2.2.2, r⟩
    · exact rfl
theorem rel_take (k : Int) : RelP ρ (TokR ρ) (takeP k) (takeP k) := fun l l' hl => by
  cases hl with
  | nil => exact rfl
  | cons h r =>
    simp only [takeP, h.1]
    split
    · exact ⟨h, r⟩
    · exact rfl
theorem rel_peek : RelP ρ (TokR ρ) peekP peekP := fun l l' hl => by
  cases hl with
  | nil => exact rfl
  | cons h r => exact ⟨h, .cons h r⟩
theorem rel_next : RelP ρ (TokR ρ) nextP nextP := fun l l' hl => by
  cases hl with
  | nil => exact rfl
  | cons h r => exact ⟨h, r⟩
theorem rel_enter (s : ByteArray) (r : Nat) : RelP ρ ρ (enterP s r) (enterP s r) := fun l l' hl => by
  cases hl with
  | nil => exact rfl
  | cons h hr =>
    simp only [enterP, h.2.1]
    split
    · split
      · exact rfl
      · exact ⟨h.2.2.2, hr⟩
    · exact rfl
theorem rel_fail {R : α → α → Prop} : RelP ρ R (failP : Par α) failP := fun l l' hl => by
  cases hl with
  | nil => exact rfl
  | cons h r => exact rfl
theorem KidsR.nil : KidsR ρ [] [] := ⟨rfl, fun i x y h => by simp at h⟩
theorem KidsR.cons {a a' : Ast} {ks ks' : List Ast} (h : AstR ρ a a') (hk : KidsR ρ ks ks') : KidsR ρ (a :: ks) (a' :: ks') := ⟨by simp [hk.1], fun i x y hx hy => by
  cases i with
  | zero => simp at hx hy; subst hx hy; exact h
  | succ i => exact hk.2 i x y (by simpa using hx) (by simpa using hy)⟩
theorem KidsR.snoc {a a' : Ast} {ks ks' : List Ast} (hk : KidsR ρ ks ks') (h : AstR ρ a a') : KidsR ρ (ks ++ [a]) (ks' ++ [a']) := ⟨by simp [hk.1], fun i x y hx hy => by
  by_cases hi : i < ks.length
  · rw [List.getElem?_append_left hi] at hx
    rw [List.getElem?_append_left (by rw [← hk.1]; exact hi)] at hy
    exact hk.2 i x y hx hy
  · rw [List.getElem?_append_right (by omega)] at hx
    rw [List.getElem?_append_right (by rw [← hk.1]; omega), ← hk.1] at hy
    cases hj : i - ks.length with
    | zero => rw [hj] at hx hy; simp at hx hy; subst hx hy; exact h
    | succ j => rw [hj] at hx; simp at hx⟩
theorem AstR.node {k n : Int} {a a' : Nat} {t : ByteArray} {ks ks' : List Ast} (h : ρ a a') (hk : KidsR ρ ks ks') : AstR ρ (.mk k a t n ks) (.mk k a' t n ks') := .mk h hk.1 hk.2
theorem AstR.at' {a a' : Ast} (h : AstR ρ a a') : ρ a.at' a'.at' := by
  cases h with
  | mk h _ _ => exact h
theorem rel_word {t t' : PT} (h : TokR ρ t t') : AstR ρ (wordA t) (wordA t') := by
  unfold wordA; rw [h.2.1]; exact .node h.2.2.2 KidsR.nil
theorem rel_both (k : Int) {a a' b b' : Ast} (h : AstR ρ a a') (h' : AstR ρ b b') : AstR ρ (bothA k a b) (bothA k a' b') := .node h.at' (.cons h (.cons h' .nil))
theorem rel_wordP : RelP ρ (AstR ρ) wordP wordP := .bind (rel_take _) fun _ _ h => .pure (rel_word h)
theorem rel_numberP : RelP ρ (AstR ρ) numberP numberP := .bind (rel_take _) fun t t' h => .pure (by rw [h.2.2.1]; exact .node h.2.2.2 .nil)
theorem rel_times {fac fac' : Par Ast} (h : RelP ρ (AstR ρ) fac fac') (a a' : Ast) (ha : AstR ρ a a') : RelP ρ (OptR (AstR ρ)) (timesStep fac a) (timesStep fac' a') := .bind (rel_skip _) fun b b' e => by
  subst e
  cases b
  · exact .pure trivial
  · exact .bind h fun _ _ hb => .pure (rel_both _ ha hb)
theorem rel_term {fac fac' : Par Ast} (h : RelP ρ (AstR ρ) fac fac') : RelP ρ (AstR ρ) (termP fac) (termP fac') := .bind h fun _ _ ha => .many (rel_times h) ha
theorem rel_sum {fac fac' : Par Ast} (h : RelP ρ (AstR ρ) fac fac') (a a' : Ast) (ha : AstR ρ a a') : RelP ρ (OptR (AstR ρ)) (sumStep fac a) (sumStep fac' a') := .bind (rel_skip _) fun b b' e => by
  subst e
  cases b
  · refine .bind (rel_skip _) fun b b' e => ?_
    subst e
    cases b
    · exact .pure trivial
    · exact .bind (rel_term h) fun _ _ hb => .pure (rel_both _ ha hb)
  · exact .bind (rel_term h) fun _ _ hb => .pure (rel_both _ ha hb)
theorem rel_exprP {fac fac' : Par Ast} (h : RelP ρ (AstR ρ) fac fac') : RelP ρ (AstR ρ) (exprP fac) (exprP fac') := .bind (rel_term h) fun _ _ ha => .many (rel_sum h) ha
theorem RelP.ite {R : α → α → Prop} {p p' : Prop} [Decidable p] [Decidable p'] (hp : p ↔ p') {f f' g g' : Par α} (hf : RelP ρ R f f') (hg : RelP ρ R g g') : RelP ρ R (if p then f else g) (if p' then f' else g') := by
  by_cases h : p
  · rw [if_pos h, if_pos (hp.1 h)]; exact hf
  · rw [if_neg h, if_neg (fun e => h (hp.2 e))]; exact hg
theorem rel_factorOf (r : Nat) {fac fac' : Par Ast} (h : RelP ρ (AstR ρ) fac fac') : RelP ρ (AstR ρ) (factorOf r fac) (factorOf r fac') := .bind rel_peek fun t t' ht =>
  .ite (by rw [ht.1]) rel_numberP <| .ite (by rw [ht.1]) (.bind rel_next fun u u' hu => .pure (by rw [hu.2.1]; exact .node hu.2.2.2 .nil)) <|
  .ite (by rw [ht.2.1]) (.bind (rel_enter _ _) fun _ _ _ => .bind (rel_exprP h) fun _ _ ha => .bind (rel_expect _) fun _ _ _ => .pure ha) <|
  .ite (by rw [ht.2.1]) (.bind (rel_enter _ _) fun _ _ hp => .bind h fun _ _ ha => .pure (.node hp (.cons ha .nil))) rel_fail
theorem rel_factor (r : Nat) : RelP ρ (AstR ρ) (factorP r) (factorP r) := by
  induction r with
  | zero => exact rel_factorOf 0 rel_fail
  | succ r ih => exact rel_factorOf (r + 1) ih
theorem rel_expr (r : Nat) : RelP ρ (AstR ρ) (exprR r) (exprR r) := rel_exprP (rel_factor r)
theorem rel_wordsStep (ks ks' : List Ast) (hk : KidsR ρ ks ks') : RelP ρ (OptR (KidsR ρ)) (wordsStep ks) (wordsStep ks') := .bind (rel_skip _) fun b b' e => by
  subst e
  cases b
  · exact .pure trivial
  · exact .bind rel_wordP fun _ _ ha => .pure (hk.snoc ha)
theorem rel_words : RelP ρ (KidsR ρ) wordsP wordsP := .bind rel_wordP fun _ _ ha => .many rel_wordsStep (.cons ha .nil)
theorem rel_rowOf (r : Nat) {t t' : PT} (ht : TokR ρ t t') : RelP ρ (AstR ρ) (rowOfP r t) (rowOfP r t') := .bind (rel_enter _ _) fun _ _ _ => .bind (rel_expr _) fun _ _ ha => .bind (rel_expect _) fun _ _ _ => .pure (by rw [ht.2.1]; exact .node ht.2.2.2 (.cons ha .nil))
theorem rel_row (r : Nat) : RelP ρ (AstR ρ) (rowP r) (rowP r) := .bind (rel_take _) fun _ _ ht => rel_rowOf r ht
def PairR (ρ : Nat → Nat → Prop) (x y : Ast × Ast) : Prop := AstR ρ x.1 y.1 ∧ AstR ρ x.2 y.2
theorem rel_cell (r : Nat) : RelP ρ (PairR ρ) (cellP r) (cellP r) := .bind (rel_row r) fun _ _ ha => .bind (rel_expect _) fun _ _ _ => .bind rel_wordP fun _ _ hb => .pure ⟨ha, hb⟩
theorem rel_end {a a' : Ast} (h : AstR ρ a a') : RelP ρ (AstR ρ) (endP a) (endP a') := .bind (rel_expect _) fun _ _ _ => .pure h
theorem rel_read (r : Nat) {p p' : Nat} (hp : ρ p p') : RelP ρ (AstR ρ) (readP r p) (readP r p') := .bind (rel_take _) fun t t' ht => .bind (rel_expect _) fun _ _ _ => .bind (rel_cell r) fun _ _ hc => .bind (rel_skip _) fun b b' e => by
  subst e
  rw [ht.2.1]
  cases b
  · exact rel_end (.node hp (.cons hc.1 (.cons hc.2 .nil)))
  · exact .bind (rel_expect _) fun _ _ _ => rel_end (.node hp (.cons hc.1 (.cons hc.2 .nil)))
theorem rel_set (r : Nat) {p p' : Nat} (hp : ρ p p') : RelP ρ (AstR ρ) (setP r p) (setP r p') := .bind (rel_cell r) fun _ _ hc => .bind (rel_expect _) fun _ _ _ => .bind (rel_expr r) fun _ _ hv => rel_end (.node hp (.cons hc.1 (.cons hc.2 (.cons hv .nil))))
theorem rel_putStep (r : Nat) (ks ks' : List Ast) (hk : KidsR ρ ks ks') : RelP ρ (OptR (KidsR ρ)) (putStep r ks) (putStep r ks') := .bind (rel_skip _) fun b b' e => by
  subst e
  cases b
  · exact .pure trivial
  · exact .bind (rel_expr r) fun _ _ ha => .pure (hk.snoc ha)
theorem rel_put (r : Nat) {p p' : Nat} (hp : ρ p p') : RelP ρ (AstR ρ) (putP r p) (putP r p') := .bind (rel_row r) fun _ _ ha => .bind (rel_expect _) fun _ _ _ => .bind (rel_expr r) fun _ _ he => .bind (.many (rel_putStep r) (.cons ha (.cons he .nil))) fun _ _ hk => .bind (rel_expect _) fun _ _ _ => rel_end (.node hp hk)
theorem rel_delete (r : Nat) {p p' : Nat} (hp : ρ p p') : RelP ρ (AstR ρ) (deleteP r p) (deleteP r p') := .bind (rel_row r) fun _ _ ha => rel_end (.node hp (.cons ha .nil))
theorem rel_scan {p p' : Nat} (hp : ρ p p') : RelP ρ (AstR ρ) (scanP p) (scanP p') := .bind (rel_take _) fun t t' ht => .bind (rel_expect _) fun _ _ _ => .bind rel_wordP fun _ _ ha => .bind (rel_expect _) fun _ _ _ => .bind rel_wordP fun _ _ hb => rel_end (by rw [ht.2.1]; exact .node hp (.cons ha (.cons hb .nil)))
theorem rel_lock {p p' : Nat} (hp : ρ p p') : RelP ρ (AstR ρ) (lockP p) (lockP p') := .bind rel_wordP fun _ _ ha => .bind (rel_skip _) fun b b' e => by
  subst e
  cases b
  · exact .bind (rel_expect _) fun _ _ _ => rel_end (.node hp (.cons ha .nil))
  · exact rel_end (.node hp (.cons ha .nil))
theorem rel_release (r : Nat) {p p' : Nat} (hp : ρ p p') : RelP ρ (AstR ρ) (releaseP r p) (releaseP r p') := .bind (rel_take _) fun t t' ht => .bind (rel_isNext _) fun b b' e => by
  subst e
  cases b
  · exact rel_end (.node hp (.cons (rel_word ht) .nil))
  · exact .bind (rel_rowOf r ht) fun _ _ ha => rel_end (.node hp (.cons ha .nil))
theorem rel_ifTail {B B' : Par Ast} (h : RelP ρ (AstR ρ) B B') {p p' : Nat} (hp : ρ p p') (n : Int) {a a' b b' : Ast} (ha : AstR ρ a a') (hb : AstR ρ b b') : RelP ρ (AstR ρ) (ifTail B p n a b) (ifTail B' p' n a' b') := .bind h fun _ _ hc => .bind (rel_skip _) fun u u' e => by
  subst e
  cases u
  · exact .pure (.node hp (.cons ha (.cons hb (.cons hc .nil))))
  · exact .bind h fun _ _ hd => .pure (.node hp (.cons ha (.cons hb (.cons hc (.cons hd .nil)))))
theorem rel_if (r : Nat) {B B' : Par Ast} (h : RelP ρ (AstR ρ) B B') {p p' : Nat} (hp : ρ p p') : RelP ρ (AstR ρ) (ifP r B p) (ifP r B' p') := .bind (rel_expr r) fun _ _ ha => .bind (rel_skip _) fun u u' e => by
  subst e
  cases u
  · exact .bind (rel_expect _) fun _ _ _ => .bind (rel_expr r) fun _ _ hb => rel_ifTail h hp _ ha hb
  · exact .bind (rel_expr r) fun _ _ hb => rel_ifTail h hp _ ha hb
theorem rel_for {B B' : Par Ast} (h : RelP ρ (AstR ρ) B B') {p p' : Nat} (hp : ρ p p') : RelP ρ (AstR ρ) (forP B p) (forP B' p') := .bind (rel_take _) fun t t' ht => .bind (rel_expect _) fun _ _ _ => .bind rel_numberP fun _ _ ha => .bind (rel_expect _) fun _ _ _ => .bind rel_numberP fun _ _ hb => .bind h fun _ _ hc => .pure (by rw [ht.2.1]; exact .node hp (.cons ha (.cons hb (.cons hc .nil))))
theorem rel_let (r : Nat) {p p' : Nat} (hp : ρ p p') : RelP ρ (AstR ρ) (letP r p) (letP r p') := .bind (rel_take _) fun t t' ht => .bind (rel_expect _) fun _ _ _ => .bind (rel_expr r) fun _ _ ha => rel_end (by rw [ht.2.1]; exact .node hp (.cons ha .nil))
theorem rel_emit (r : Nat) {p p' : Nat} (hp : ρ p p') : RelP ρ (AstR ρ) (emitP r p) (emitP r p') := .bind (rel_expr r) fun _ _ ha => rel_end (.node hp (.cons ha .nil))
theorem rel_rest (r : Nat) {B B' : Par Ast} (h : RelP ρ (AstR ρ) B B') (j : Nat) {p p' : Nat} (hp : ρ p p') : RelP ρ (AstR ρ) (restP r B j p) (restP r B' j p') := by
  unfold restP
  split
  · exact rel_read r hp
  · exact rel_set r hp
  · exact rel_put r hp
  · exact rel_delete r hp
  · exact rel_scan hp
  · exact rel_lock hp
  · exact rel_release r hp
  · exact rel_if r h hp
  · exact rel_for h hp
  · exact rel_let r hp
  · exact rel_emit r hp
  · exact rel_end (.node hp .nil)
  · exact rel_end (.node hp .nil)
  · exact rel_fail
theorem rel_stmt (r : Nat) {B B' : Par Ast} (h : RelP ρ (AstR ρ) B B') : RelP ρ (AstR ρ) (stmtP r B) (stmtP r B') := .bind rel_peek fun t t' ht =>
  .ite (by rw [ht.2.1]) (.bind rel_next fun u u' hu => by rw [hu.2.1]; exact rel_rest r h _ hu.2.2.2) rel_fail
theorem rel_blockStep {st st' : Par Ast} (h : RelP ρ (AstR ρ) st st') (ks ks' : List Ast) (hk : KidsR ρ ks ks') : RelP ρ (OptR (KidsR ρ)) (blockStep st ks) (blockStep st' ks') := .bind (rel_isNext _) fun b b' e => by
  subst e
  cases b
  · exact .bind h fun _ _ ha => .pure (hk.snoc ha)
  · exact .pure trivial
theorem rel_blockOf (r : Nat) {st st' : Par Ast} (h : RelP ρ (AstR ρ) st st') : RelP ρ (AstR ρ) (blockOf r st) (blockOf r st') := .bind (rel_enter _ _) fun _ _ hp => .bind (.many (rel_blockStep h) .nil) fun _ _ hk => .bind (rel_expect _) fun _ _ _ => .pure (.node hp hk)
theorem rel_block (r : Nat) : RelP ρ (AstR ρ) (blockP r) (blockP r) := by
  induction r with
  | zero => exact rel_blockOf 0 rel_fail
  | succ r ih => exact rel_blockOf (r + 1) (rel_stmt r ih)
theorem rel_names : RelP ρ (AstR ρ) namesP namesP := .bind rel_peek fun t t' ht => .bind (rel_isNext _) fun b b' e => by
  subst e
  cases b
  · exact .bind rel_words fun _ _ hk => .pure (.node ht.2.2.2 hk)
  · exact .pure (.node ht.2.2.2 .nil)
theorem rel_table : RelP ρ (AstR ρ) tableP tableP := .bind (rel_expect _) fun _ _ hp => .bind (rel_take _) fun t t' ht => .bind (rel_expect _) fun _ _ _ => .bind rel_words fun _ _ hk => .bind (rel_expect _) fun _ _ _ => rel_end (by rw [ht.2.1]; exact .node hp hk)
theorem rel_proc : RelP ρ (AstR ρ) procP procP := .bind (rel_expect _) fun _ _ hp => .bind (rel_take _) fun t t' ht => .bind (rel_expect _) fun _ _ _ => .bind rel_names fun _ _ hn => .bind (rel_expect _) fun _ _ _ => .bind (rel_skip _) fun b b' e => by
  subst e
  rw [ht.2.1]
  cases b
  · exact .bind (rel_block 64) fun _ _ hb => .pure (.node hp (.cons hn (.cons hb .nil)))
  · exact .bind (rel_block 64) fun _ _ hb => .pure (.node hp (.cons hn (.cons hb .nil)))
theorem rel_progStep (ks ks' : List Ast) (hk : KidsR ρ ks ks') : RelP ρ (OptR (KidsR ρ)) (progStep ks) (progStep ks') := .bind rel_peek fun t t' ht => .ite (by rw [ht.1]) (.pure trivial) <| .bind (rel_isNext _) fun b b' e => by
  subst e
  cases b
  · exact .bind rel_proc fun _ _ ha => .pure (hk.snoc ha)
  · exact .bind rel_table fun _ _ ha => .pure (hk.snoc ha)
theorem rel_program : RelP ρ (AstR ρ) programP programP := .bind rel_peek fun t t' ht => .bind (.many rel_progStep .nil) fun _ _ hk => .pure (.node ht.2.2.2 hk)
end
end Go.Proofs.YtkakhldlmfdcdaaGreatDoor
end
section
namespace Go.Proofs.YtkakhldlmfdcdaaGreatDoor
open Par
/-- The token at a source's end. -/
def IsEnd (e : PT) : Prop := e.kind = 4 ∧ e.txt = none0
/-- What a parser does where only the end is left. -/
def EndP {α : Type} (f : Par α) : Prop := ∀ e, IsEnd e → f [e] = .err e.at' 50 ∨ ∃ a, f [e] = .ok a [e]
def CutR {α : Type} (f : Par α) (e : PT) (pre rest : List PT) (a : α) (l1 : List PT) : Prop :=
  (∃ pre', l1 = pre' ++ rest ∧ f (pre ++ [e]) = .ok a (pre' ++ [e])) ∨ f (pre ++ [e]) = .err e.at' 50 ∨ ∃ a', f (pre ++ [e]) = .ok a' [e]
/-- Tokens of which a parser makes something, cut: it makes the same of them, or comes to the end. -/
def CutP {α : Type} (f : Par α) : Prop := ∀ e, IsEnd e → ∀ pre rest a l1, f (pre ++ rest) = .ok a l1 → CutR f e pre rest a l1
section
variable {α β : Type}
theorem EndP.bind {f : Par α} {g : α → Par β} (hf : EndP f) (hg : ∀ a, EndP (g a)) : EndP (Par.bind f g) := fun e he => by
  rcases hf e he with h | ⟨a, h⟩
  · exact Or.inl (bind_err h)
  · rw [bind_ok h]; exact hg a e he
theorem EndP.pure (a : α) : EndP (Par.pure a) := fun e _ => Or.inr ⟨a, rfl⟩
theorem EndP.fail : EndP (failP : Par α) := fun e _ => Or.inl rfl
theorem CutP.bind {f : Par α} {g : α → Par β} (hf : CutP f) (hg : ∀ a, CutP (g a)) (hge : ∀ a, EndP (g a)) : CutP (Par.bind f g) := fun e he pre rest b l2 h => by
  simp only [Par.bind] at h
  cases h1 : f (pre ++ rest) with
  | err p c => rw [h1] at h; simp at h
  | ok a l1 =>
    rw [h1] at h
    rcases hf e he pre rest a l1 h1 with ⟨pre', rfl, h2⟩ | h2 | ⟨a', h2⟩
    · have := hg a e he pre' rest b l2 h
      unfold CutR at this ⊢
      rw [bind_ok h2]
      exact this
    · exact Or.inr (Or.inl (bind_err h2))
    · rcases hge a' e he with h3 | ⟨b', h3⟩
      · exact Or.inr (Or.inl (by rw [bind_ok h2]; exact h3))
      · exact Or.inr (Or.inr ⟨b', by rw [bind_ok h2]; exact h3⟩)
theorem CutP.pure (a : α) : CutP (Par.pure a) := fun e _ pre rest b l1 h => by
  simp only [Par.pure, Res.ok.injEq] at h
  obtain ⟨rfl, rfl⟩ := h
  exact Or.inl ⟨pre, rfl, rfl⟩
theorem CutP.fail : CutP (failP : Par α) := fun e _ pre rest b l1 h => by
  cases h1 : pre ++ rest with
  | nil => rw [h1] at h; simp [failP] at h
  | cons t l => rw [h1] at h; simp [failP] at h
theorem cut_end {f : Par α} (h : EndP f) {e : PT} (he : IsEnd e) (rest : List PT) (a : α) (l1 : List PT) : CutR f e [] rest a l1 := Or.inr (h e he)
theorem end_isNext (s : ByteArray) : EndP (isNextP s) := fun e _ => Or.inr ⟨_, rfl⟩
theorem end_peek : EndP peekP := fun e _ => Or.inr ⟨_, rfl⟩
theorem end_skip (s : ByteArray) (hs : s ≠ none0) : EndP (skipP s) := fun e he => Or.inr ⟨false, by simp only [skipP, he.2]; rw [if_neg (fun h => hs h.symm)]⟩
theorem end_expect (s : ByteArray) (hs : s ≠ none0) : EndP (expectP s) := fun e he => Or.inl (by simp only [expectP, he.2]; rw [if_neg (fun h => hs h.symm)])
theorem end_enter (s : ByteArray) (r : Nat) (hs : s ≠ none0) : EndP (enterP s r) := fun e he => Or.inl (by simp only [enterP, he.2]; rw [if_neg (fun h => hs h.symm)])
theorem end_take (k : Int) (hk : k ≠ 4) : EndP (takeP k) := fun e he => Or.inl (by simp only [takeP, he.1]; rw [if_neg (fun h => hk h.symm)])
theorem cut_isNext (s : ByteArray) : CutP (isNextP s) := fun e he pre rest a l1 h => by
  cases pre with
  | nil => exact cut_end (end_isNext s) he _ _ _
  | cons t pre =>
    simp only [List.cons_append, isNextP, Res.ok.injEq] at h
    obtain ⟨rfl, rfl⟩ := h
    exact Or.inl ⟨t :: pre, rfl, rfl⟩
theorem cut_peek : CutP peekP := fun e he pre rest a l1 h => by
  cases pre with
  | nil => exact cut_end end_peek he _ _ _
  | cons t pre =>
    simp only [List.cons_append, peekP, Res.ok.injEq] at h
    obtain ⟨rfl, rfl⟩ := h
    exact Or.inl ⟨t :: pre, rfl, rfl⟩
theorem cut_skip (s : ByteArray) (hs : s ≠ none0) : CutP (skipP s) := fun e he pre rest a l1 h => by
  cases pre with
  | nil => exact cut_end (end_skip s hs) he _ _ _
  | cons t pre =>
    simp only [List.cons_append, skipP] at h
    split at h <;> simp only [Res.ok.injEq] at h <;> obtain ⟨rfl, rfl⟩ := h
    · exact Or.inl ⟨pre, rfl, by simp only [List.cons_append, skipP]; rw [if_pos ‹_›]⟩
    · exact Or.inl ⟨t :: pre, rfl, by simp only [List.cons_append, skipP]; rw [if_neg ‹_›]⟩
theorem cut_expect (s : ByteArray) (hs : s ≠ none0) : CutP (expectP s) := fun e he pre rest a l1 h => by
  cases pre with
  | nil => exact cut_end (end_expect s hs) he _ _ _
  | cons t pre =>
    simp only [List.cons_append, expectP] at h
    split at h <;> simp only [Res.ok.injEq, reduceCtorEq] at h
    obtain ⟨rfl, rfl⟩ := h
    exact Or.inl ⟨pre, rfl, by simp only [List.cons_append, expectP]; rw [if_pos ‹_›]⟩
theorem cut_take (k : Int) (hk : k ≠ 4) : CutP (takeP k) := fun e he pre rest a l1 h => by
  cases pre with
  | nil => exact cut_end (end_take k hk) he _ _ _
  | cons t pre =>
    simp only [List.cons_append, takeP] at h
    split at h <;> simp only [Res.ok.injEq, reduceCtorEq] at h
    obtain ⟨rfl, rfl⟩ := h
    exact Or.inl ⟨pre, rfl, by simp only [List.cons_append, takeP]; rw [if_pos ‹_›]⟩
theorem cut_enter (s : ByteArray) (r : Nat) (hs : s ≠ none0) : CutP (enterP s r) := fun e he pre rest a l1 h => by
  cases pre with
  | nil => exact cut_end (end_enter s r hs) he _ _ _
  | cons t pre =>
    simp only [List.cons_append, enterP] at h
    split at h
    · split at h <;> simp only [Res.ok.injEq, reduceCtorEq] at h
      obtain ⟨rfl, rfl⟩ := h
      exact Or.inl ⟨pre, rfl, by simp only [List.cons_append, enterP]; rw [if_pos ‹_›, if_neg ‹_›]⟩
    · simp at h
/-- What looks at the next token, and then goes on with it. -/
theorem cut_first {g : PT → Par β} (hend : EndP (Par.bind peekP g)) (h : ∀ e, IsEnd e → ∀ t pre rest a l1, g t (t :: pre ++ rest) = .ok a l1 → CutR (g t) e (t :: pre) rest a l1) : CutP (Par.bind peekP g) := fun e he pre rest a l1 hx => by
  cases pre with
  | nil => exact cut_end hend he _ _ _
  | cons t pre => exact h e he t pre rest a l1 hx
theorem cut_next {g : PT → Par β} {e : PT} (he : IsEnd e) {t : PT} {pre rest : List PT} {a : β} {l1 : List PT} (hg : CutP (g t)) (h : Par.bind nextP g (t :: pre ++ rest) = .ok a l1) : CutR (Par.bind nextP g) e (t :: pre) rest a l1 := hg e he pre rest a l1 h
theorem EndP.ite {p : Prop} [Decidable p] {f g : Par α} (hf : EndP f) (hg : EndP g) : EndP (if p then f else g) := by split <;> assumption
theorem EndP.bool {f g : Par α} (hf : EndP f) (hg : EndP g) (b : Bool) : EndP (match b with | true => f | false => g) := by
  cases b
  · exact hg
  · exact hf
theorem CutP.bool {f g : Par α} (hf : CutP f) (hg : CutP g) (b : Bool) : CutP (match b with | true => f | false => g) := by
  cases b
  · exact hg
  · exact hf
theorem EndP.loop {step : α → Par (Option α)} (hs : Adv step) (he : ∀ a, EndP (step a)) (m : Nat) (a : α) (e : PT) (hE : IsEnd e) : Par.loop step (m + 1) a [e] = .err e.at' 50 ∨ ∃ b, Par.loop step (m + 1) a [e] = .ok b [e] := by
  rw [Par.loop]
  rcases he a e hE with h | ⟨b, h⟩
  · exact Or.inl (bind_err h)
  · cases b with
    | none => exact Or.inr ⟨a, by rw [bind_ok h]; rfl⟩
    | some b =>
      have := (hs _ _ _ _ h).1 rfl
      simp at this
theorem EndP.many {step : α → Par (Option α)} (hs : Adv step) (he : ∀ a, EndP (step a)) (a : α) : EndP (many step a) := fun e hE => EndP.loop hs he 1 a e hE
theorem CutP.loop {step : α → Par (Option α)} (hs : Adv step) (hc : ∀ a, CutP (step a)) (hE : ∀ a, EndP (step a)) (e : PT) (he : IsEnd e) (m : Nat) : ∀ (k : Nat) (a : α) (pre rest : List PT) (b : α) (l1 : List PT), (pre ++ [e]).length < k → loop step m a (pre ++ rest) = .ok b l1 →
    (∃ pre', l1 = pre' ++ rest ∧ loop step k a (pre ++ [e]) = .ok b (pre' ++ [e])) ∨ loop step k a (pre ++ [e]) = .err e.at' 50 ∨ ∃ a', loop step k a (pre ++ [e]) = .ok a' [e] := by
  induction m with
  | zero => intro k a pre rest b l1 _ h; simp [Par.loop] at h
  | succ m ih =>
    intro k a pre rest b l1 hk h
    obtain ⟨k, rfl⟩ : ∃ k', k = k' + 1 := ⟨k - 1, by omega⟩
    rw [Par.loop] at h
    rw [Par.loop]
    simp only [Par.bind] at h
    cases h1 : step a (pre ++ rest) with
    | err p c => rw [h1] at h; simp at h
    | ok o l2 =>
      rw [h1] at h
      rcases hc a e he pre rest o l2 h1 with ⟨pre', rfl, h2⟩ | h2 | ⟨o', h2⟩
      · cases o with
        | none =>
          simp only [Par.pure, Res.ok.injEq] at h
          obtain ⟨rfl, rfl⟩ := h
          exact Or.inl ⟨pre', rfl, by rw [bind_ok h2]; rfl⟩
        | some a2 =>
          have h3 := (hs _ _ _ _ h2).1 rfl
          rw [bind_ok h2]
          exact ih k a2 pre' rest b l1 (by omega) h
      · exact Or.inr (Or.inl (bind_err h2))
      · rw [bind_ok h2]
        cases o' with
        | none => exact Or.inr (Or.inr ⟨a, rfl⟩)
        | some a2 =>
          have h3 := (hs _ _ _ _ h2).1 rfl
          simp only [List.length_append, List.length_singleton] at h3 hk
          obtain ⟨k, rfl⟩ : ∃ k', k = k' + 1 := ⟨k - 1, by omega⟩
          exact Or.inr (EndP.loop hs hE k a2 e he)
theorem CutP.many {step : α → Par (Option α)} (hs : Adv step) (hc : ∀ a, CutP (step a)) (hE : ∀ a, EndP (step a)) (a : α) : CutP (many step a) := fun e he pre rest b l1 h =>
  CutP.loop hs hc hE e he _ _ a pre rest b l1 (Nat.lt_succ_self _) h
/-- What was read, and more behind it, is the same in front of anything, if the end was not come to. -/
def FrW (f : Par α) : Prop := ∀ e, IsEnd e → ∀ pre a l', f (pre ++ [e]) = .ok a l' → ∃ pre', l' = pre' ++ [e] ∧ (pre' ≠ [] → ∀ rest, f (pre ++ rest) = .ok a (pre' ++ rest))
theorem FrW.bind {f : Par α} {g : α → Par β} (hf : FrW f) (hg : ∀ a, FrW (g a)) (hl : ∀ a, Less (g a)) : FrW (Par.bind f g) := fun e he pre b l2 h => by
  simp only [Par.bind] at h
  cases h1 : f (pre ++ [e]) with
  | err p c => rw [h1] at h; simp at h
  | ok a l1 =>
    rw [h1] at h
    obtain ⟨pre1, rfl, k1⟩ := hf e he pre a l1 h1
    obtain ⟨pre2, rfl, k2⟩ := hg a e he pre1 b l2 h
    refine ⟨pre2, rfl, fun hn rest => ?_⟩
    have h3 := hl a _ _ _ h
    have hn1 : pre1 ≠ [] := fun e1 => by
      subst e1
      simp only [List.length_append, List.length_nil, List.length_singleton] at h3
      exact hn (List.length_eq_zero_iff.1 (by omega))
    rw [bind_ok (k1 hn1 rest)]
    exact k2 hn rest
theorem FrW.pure (a : α) : FrW (Par.pure a) := fun e _ pre b l1 h => by
  simp only [Par.pure, Res.ok.injEq] at h
  obtain ⟨rfl, rfl⟩ := h
  exact ⟨pre, rfl, fun _ _ => rfl⟩
theorem FrW.fail : FrW (failP : Par α) := fun e _ pre b l1 h => by cases pre <;> simp [failP] at h
theorem fr_isNext (s : ByteArray) : FrW (isNextP s) := fun e _ pre a l1 h => by
  cases pre with
  | nil =>
    simp only [List.nil_append, isNextP, Res.ok.injEq] at h
    exact ⟨[], h.2.symm, fun hn => absurd rfl hn⟩
  | cons t pre =>
    simp only [List.cons_append, isNextP, Res.ok.injEq] at h
    obtain ⟨rfl, rfl⟩ := h
    exact ⟨t :: pre, rfl, fun _ _ => rfl⟩
theorem fr_peek : FrW peekP := fun e _ pre a l1 h => by
  cases pre with
  | nil =>
    simp only [List.nil_append, peekP, Res.ok.injEq] at h
    exact ⟨[], h.2.symm, fun hn => absurd rfl hn⟩
  | cons t pre =>
    simp only [List.cons_append, peekP, Res.ok.injEq] at h
    obtain ⟨rfl, rfl⟩ := h
    exact ⟨t :: pre, rfl, fun _ _ => rfl⟩
theorem fr_skip (s : ByteArray) (hs : s ≠ none0) : FrW (skipP s) := fun e he pre a l1 h => by
  cases pre with
  | nil =>
    simp only [List.nil_append, skipP, he.2] at h
    rw [if_neg (fun h => hs h.symm)] at h
    simp only [Res.ok.injEq] at h
    exact ⟨[], h.2.symm, fun hn => absurd rfl hn⟩
  | cons t pre =>
    simp only [List.cons_append, skipP] at h
    split at h <;> simp only [Res.ok.injEq] at h <;> obtain ⟨rfl, rfl⟩ := h
    · exact ⟨pre, rfl, fun _ rest => by simp only [List.cons_append, skipP]; rw [if_pos ‹_›]⟩
    · exact ⟨t :: pre, rfl, fun _ rest => by simp only [List.cons_append, skipP]; rw [if_neg ‹_›]⟩
/-- The same, though the end may come next. -/
def FrS (f : Par α) : Prop := ∀ e, IsEnd e → ∀ pre a l', f (pre ++ [e]) = .ok a l' → ∃ pre', l' = pre' ++ [e] ∧ ∀ rest, f (pre ++ rest) = .ok a (pre' ++ rest)
theorem FrS.weak {f : Par α} (h : FrS f) : FrW f := fun e he pre a l' hx => by
  obtain ⟨pre', h1, h2⟩ := h e he pre a l' hx
  exact ⟨pre', h1, fun _ => h2⟩
theorem frs_expect (s : ByteArray) (hs : s ≠ none0) : FrS (expectP s) := fun e he pre a l1 h => by
  cases pre with
  | nil =>
    simp only [List.nil_append, expectP, he.2] at h
    rw [if_neg (fun h => hs h.symm)] at h
    simp at h
  | cons t pre =>
    simp only [List.cons_append, expectP] at h
    split at h <;> simp only [Res.ok.injEq, reduceCtorEq] at h
    obtain ⟨rfl, rfl⟩ := h
    exact ⟨pre, rfl, fun rest => by simp only [List.cons_append, expectP]; rw [if_pos ‹_›]⟩
theorem frs_take (k : Int) (hk : k ≠ 4) : FrS (takeP k) := fun e he pre a l1 h => by
  cases pre with
  | nil =>
    simp only [List.nil_append, takeP, he.1] at h
    rw [if_neg (fun h => hk h.symm)] at h
    simp at h
  | cons t pre =>
    simp only [List.cons_append, takeP] at h
    split at h <;> simp only [Res.ok.injEq, reduceCtorEq] at h
    obtain ⟨rfl, rfl⟩ := h
    exact ⟨pre, rfl, fun rest => by simp only [List.cons_append, takeP]; rw [if_pos ‹_›]⟩
theorem frs_enter (s : ByteArray) (r : Nat) (hs : s ≠ none0) : FrS (enterP s r) := fun e he pre a l1 h => by
  cases pre with
  | nil =>
    simp only [List.nil_append, enterP, he.2] at h
    rw [if_neg (fun h => hs h.symm)] at h
    simp at h
  | cons t pre =>
    simp only [List.cons_append, enterP] at h
    split at h
    · split at h <;> simp only [Res.ok.injEq, reduceCtorEq] at h
      obtain ⟨rfl, rfl⟩ := h
      exact ⟨pre, rfl, fun rest => by simp only [List.cons_append, enterP]; rw [if_pos ‹_›, if_neg ‹_›]⟩
    · simp at h
theorem FrS.pure (a : α) : FrS (Par.pure a) := fun e _ pre b l1 h => by
  simp only [Par.pure, Res.ok.injEq] at h
  obtain ⟨rfl, rfl⟩ := h
  exact ⟨pre, rfl, fun _ => rfl⟩
theorem FrS.bind {f : Par α} {g : α → Par β} (hf : FrS f) (hg : ∀ a, FrS (g a)) : FrS (Par.bind f g) := fun e he pre b l2 h => by
  simp only [Par.bind] at h
  cases h1 : f (pre ++ [e]) with
  | err p c => rw [h1] at h; simp at h
  | ok a l1 =>
    rw [h1] at h
    obtain ⟨pre1, rfl, k1⟩ := hf e he pre a l1 h1
    obtain ⟨pre2, rfl, k2⟩ := hg a e he pre1 b l2 h
    exact ⟨pre2, rfl, fun rest => by rw [bind_ok (k1 rest)]; exact k2 rest⟩
/-- What a word or mark closes. -/
theorem FrS.close {f : Par α} {g : α → Par β} (hf : FrW f) (hg : ∀ a, FrS (g a)) (hno : ∀ a e, IsEnd e → ∀ b l, g a [e] ≠ .ok b l) : FrS (Par.bind f g) := fun e he pre b l2 h => by
  simp only [Par.bind] at h
  cases h1 : f (pre ++ [e]) with
  | err p c => rw [h1] at h; simp at h
  | ok a l1 =>
    rw [h1] at h
    obtain ⟨pre1, rfl, k1⟩ := hf e he pre a l1 h1
    obtain ⟨pre2, rfl, k2⟩ := hg a e he pre1 b l2 h
    have hn1 : pre1 ≠ [] := fun e1 => by
      subst e1
      exact hno a e he b _ h
    exact ⟨pre2, rfl, fun rest => by rw [bind_ok (k1 hn1 rest)]; exact k2 rest⟩
theorem no_expect {s : ByteArray} (hs : s ≠ none0) {g : Nat → Par β} (e : PT) (he : IsEnd e) (b : β) (l : List PT) : Par.bind (expectP s) g [e] ≠ .ok b l := by
  rcases end_expect s hs e he with h | ⟨a, h⟩
  · rw [bind_err h]; simp
  · simp only [expectP, he.2] at h
    rw [if_neg (fun h => hs h.symm)] at h
    simp at h
theorem no_enter {s : ByteArray} {r : Nat} (hs : s ≠ none0) {g : Nat → Par β} (e : PT) (he : IsEnd e) (b : β) (l : List PT) : Par.bind (enterP s r) g [e] ≠ .ok b l := by
  rcases end_enter s r hs e he with h | ⟨a, h⟩
  · rw [bind_err h]; simp
  · simp only [enterP, he.2] at h
    rw [if_neg (fun h => hs h.symm)] at h
    simp at h
theorem FrW.loop {step : α → Par (Option α)} (hs : Adv step) (hl : ∀ a, Less (step a)) (hc : ∀ a, FrW (step a)) (e : PT) (he : IsEnd e) (m : Nat) : ∀ (a : α) (pre : List PT) (b : α) (l1 : List PT), loop step m a (pre ++ [e]) = .ok b l1 →
    ∃ pre', l1 = pre' ++ [e] ∧ (pre' ≠ [] → ∀ rest k, (pre ++ rest).length < k → loop step k a (pre ++ rest) = .ok b (pre' ++ rest)) := by
  induction m with
  | zero => intro a pre b l1 h; simp [Par.loop] at h
  | succ m ih =>
    intro a pre b l1 h
    rw [Par.loop] at h
    simp only [Par.bind] at h
    cases h1 : step a (pre ++ [e]) with
    | err p c => rw [h1] at h; simp at h
    | ok o l2 =>
      rw [h1] at h
      obtain ⟨pre1, rfl, k1⟩ := hc a e he pre o l2 h1
      cases o with
      | none =>
        simp only [Par.pure, Res.ok.injEq] at h
        obtain ⟨rfl, rfl⟩ := h
        refine ⟨pre1, rfl, fun hn rest k hk => ?_⟩
        obtain ⟨k, rfl⟩ : ∃ k', k = k' + 1 := ⟨k - 1, by omega⟩
        rw [Par.loop, bind_ok (k1 hn rest)]
        rfl
      | some a2 =>
        obtain ⟨pre2, rfl, k2⟩ := ih a2 pre1 b l1 h
        refine ⟨pre2, rfl, fun hn rest k hk => ?_⟩
        have hlen := Less.loop hl m a2 _ _ _ h
        have hn1 : pre1 ≠ [] := fun e1 => by
          subst e1
          simp only [List.length_append, List.length_nil, List.length_singleton] at hlen
          exact hn (List.length_eq_zero_iff.1 (by omega))
        obtain ⟨k, rfl⟩ : ∃ k', k = k' + 1 := ⟨k - 1, by omega⟩
        have h5 := (hs _ _ _ _ (k1 hn1 rest)).1 rfl
        rw [Par.loop, bind_ok (k1 hn1 rest)]
        exact k2 hn rest k (by omega)
theorem FrW.many {step : α → Par (Option α)} (hs : Adv step) (hl : ∀ a, Less (step a)) (hc : ∀ a, FrW (step a)) (a : α) : FrW (many step a) := fun e he pre b l1 h => by
  obtain ⟨pre', h1, h2⟩ := FrW.loop hs hl hc e he _ a pre b l1 h
  exact ⟨pre', h1, fun hn rest => h2 hn rest _ (Nat.lt_succ_self _)⟩
/-- What is left is an end of what was there. -/
def Suf (f : Par α) : Prop := ∀ l a l', f l = .ok a l' → l' <:+ l
theorem Suf.pure (a : α) : Suf (Par.pure a) := fun l b l' h => by
  simp only [Par.pure, Res.ok.injEq] at h
  rw [h.2]; exact List.suffix_refl _
theorem Suf.bind {f : Par α} {g : α → Par β} (hf : Suf f) (hg : ∀ a, Suf (g a)) : Suf (Par.bind f g) := fun l b l' h => by
  simp only [Par.bind] at h
  cases h1 : f l with
  | err p c => rw [h1] at h; simp at h
  | ok a l1 =>
    rw [h1] at h
    exact (hg a l1 b l' h).trans (hf l a l1 h1)
theorem Suf.loop {step : α → Par (Option α)} (hs : ∀ a, Suf (step a)) (m : Nat) (a : α) : Suf (loop step m a) := by
  induction m generalizing a with
  | zero => intro l b l' h; simp [Par.loop] at h
  | succ m ih =>
    refine Suf.bind (hs a) fun b => ?_
    cases b with
    | none => exact Suf.pure a
    | some b => exact ih b
theorem Suf.many {step : α → Par (Option α)} (hs : ∀ a, Suf (step a)) (a : α) : Suf (many step a) := fun l => Suf.loop hs (l.length + 1) a l
theorem suf_fail : Suf (failP : Par α) := fun l a l' h => by cases l <;> simp [failP] at h
theorem suf_peek : Suf peekP := fun l a l' h => by
  cases l with
  | nil => simp [peekP] at h
  | cons t l => simp only [peekP, Res.ok.injEq] at h; rw [h.2]; exact List.suffix_refl _
theorem suf_isNext (s : ByteArray) : Suf (isNextP s) := fun l a l' h => by
  cases l with
  | nil => simp [isNextP] at h
  | cons t l => simp only [isNextP, Res.ok.injEq] at h; rw [h.2]; exact List.suffix_refl _
theorem suf_next : Suf nextP := fun l a l' h => by
  cases l with
  | nil => simp [nextP] at h
  | cons t l => simp only [nextP, Res.ok.injEq] at h; rw [h.2]; exact List.suffix_cons _ _
theorem suf_skip (s : ByteArray) : Suf (skipP s) := fun l a l' h => by
  cases l with
  | nil => simp [skipP] at h
  | cons t l =>
    simp only [skipP] at h
    split at h <;> simp only [Res.ok.injEq] at h <;> rw [← h.2]
    · exact List.suffix_cons _ _
    · exact List.suffix_refl _
theorem suf_expect (s : ByteArray) : Suf (expectP s) := fun l a l' h => by
  cases l with
  | nil => simp [expectP] at h
  | cons t l =>
    simp only [expectP] at h
    split at h <;> simp only [Res.ok.injEq, reduceCtorEq] at h
    rw [← h.2]
    exact List.suffix_cons _ _
theorem suf_take (k : Int) : Suf (takeP k) := fun l a l' h => by
  cases l with
  | nil => simp [takeP] at h
  | cons t l =>
    simp only [takeP] at h
    split at h <;> simp only [Res.ok.injEq, reduceCtorEq] at h
    rw [← h.2]
    exact List.suffix_cons _ _
theorem suf_enter (s : ByteArray) (r : Nat) : Suf (enterP s r) := fun l a l' h => by
  cases l with
  | nil => simp [enterP] at h
  | cons t l =>
    simp only [enterP] at h
    split at h
    · split at h <;> simp only [Res.ok.injEq, reduceCtorEq] at h
      rw [← h.2]
      exact List.suffix_cons _ _
    · simp at h
theorem suf_ite {p : Prop} [Decidable p] {f g : Par α} (hf : Suf f) (hg : Suf g) : Suf (if p then f else g) := by split <;> assumption
/-- An error has a number, and is at a token. -/
def ErrQ (f : Par α) : Prop := ∀ l p c, f l = .err p c → c ≠ 0 ∧ (p = 0 ∨ ∃ t ∈ l, p = t.at')
theorem ErrQ.pure (a : α) : ErrQ (Par.pure a) := fun l p c h => by simp [Par.pure] at h
theorem ErrQ.bind {f : Par α} {g : α → Par β} (hf : ErrQ f) (hs : Suf f) (hg : ∀ a, ErrQ (g a)) : ErrQ (Par.bind f g) := fun l p c h => by
  simp only [Par.bind] at h
  cases h1 : f l with
  | err q d =>
    rw [h1] at h
    simp only [Res.err.injEq] at h
    obtain ⟨rfl, rfl⟩ := h
    exact hf l _ _ h1
  | ok a l1 =>
    rw [h1] at h
    obtain ⟨h2, h3⟩ := hg a l1 p c h
    refine ⟨h2, h3.imp id ?_⟩
    rintro ⟨t, ht, e⟩
    exact ⟨t, (hs l a l1 h1).subset ht, e⟩
theorem ErrQ.loop {step : α → Par (Option α)} (hs : ∀ a, ErrQ (step a)) (hf : ∀ a, Suf (step a)) (m : Nat) (a : α) : ErrQ (loop step m a) := by
  induction m generalizing a with
  | zero => intro l p c h; simp only [Par.loop, Res.err.injEq] at h; exact ⟨by omega, Or.inl h.1.symm⟩
  | succ m ih =>
    refine ErrQ.bind (hs a) (hf a) fun b => ?_
    cases b with
    | none => exact ErrQ.pure a
    | some b => exact ih b
theorem ErrQ.many {step : α → Par (Option α)} (hs : ∀ a, ErrQ (step a)) (hf : ∀ a, Suf (step a)) (a : α) : ErrQ (many step a) := fun l => ErrQ.loop hs hf (l.length + 1) a l
theorem er_one {p : Nat} {c : Int} {q : Nat} {d : Int} {l : List PT} (h : (Res.err q d : Res α) = .err p c) (hd : d ≠ 0) (hq : q = 0 ∨ ∃ t ∈ l, q = t.at') : c ≠ 0 ∧ (p = 0 ∨ ∃ t ∈ l, p = t.at') := by
  simp only [Res.err.injEq] at h
  obtain ⟨rfl, rfl⟩ := h
  exact ⟨hd, hq⟩
theorem er_fail : ErrQ (failP : Par α) := fun l p c h => by
  cases l with
  | nil => exact er_one h (by decide) (Or.inl rfl)
  | cons t l => exact er_one h (by decide) (Or.inr ⟨t, by simp, rfl⟩)
theorem er_peek : ErrQ peekP := fun l p c h => by
  cases l with
  | nil => exact er_one h (by decide) (Or.inl rfl)
  | cons t l => simp [peekP] at h
theorem er_next : ErrQ nextP := fun l p c h => by
  cases l with
  | nil => exact er_one h (by decide) (Or.inl rfl)
  | cons t l => simp [nextP] at h
theorem er_isNext (s : ByteArray) : ErrQ (isNextP s) := fun l p c h => by
  cases l with
  | nil => exact er_one h (by decide) (Or.inl rfl)
  | cons t l => simp [isNextP] at h
theorem er_skip (s : ByteArray) : ErrQ (skipP s) := fun l p c h => by
  cases l with
  | nil => exact er_one h (by decide) (Or.inl rfl)
  | cons t l => simp only [skipP] at h; split at h <;> simp at h
theorem er_expect (s : ByteArray) : ErrQ (expectP s) := fun l p c h => by
  cases l with
  | nil => exact er_one h (by decide) (Or.inl rfl)
  | cons t l =>
    simp only [expectP] at h
    split at h
    · simp at h
    · exact er_one h (by decide) (Or.inr ⟨t, by simp, rfl⟩)
theorem er_take (k : Int) : ErrQ (takeP k) := fun l p c h => by
  cases l with
  | nil => exact er_one h (by decide) (Or.inl rfl)
  | cons t l =>
    simp only [takeP] at h
    split at h
    · simp at h
    · exact er_one h (by decide) (Or.inr ⟨t, by simp, rfl⟩)
theorem er_enter (s : ByteArray) (r : Nat) : ErrQ (enterP s r) := fun l p c h => by
  cases l with
  | nil => exact er_one h (by decide) (Or.inl rfl)
  | cons t l =>
    simp only [enterP] at h
    split at h
    · split at h
      · exact er_one h (by decide) (Or.inr ⟨t, by simp, rfl⟩)
      · simp at h
    · exact er_one h (by decide) (Or.inr ⟨t, by simp, rfl⟩)
theorem er_ite {p : Prop} [Decidable p] {f g : Par α} (hf : ErrQ f) (hg : ErrQ g) : ErrQ (if p then f else g) := by split <;> assumption
/-- All of it. -/
structure CE (f : Par α) : Prop where
  less : Less f
  suf : Suf f
  er : ErrQ f
  cut : CutP f
  fin : EndP f
  fr : FrW f
theorem CE.bind {f : Par α} {g : α → Par β} (hf : CE f) (hg : ∀ a, CE (g a)) : CE (Par.bind f g) := ⟨Less.bind hf.less fun a => (hg a).less, Suf.bind hf.suf fun a => (hg a).suf, ErrQ.bind hf.er hf.suf fun a => (hg a).er, hf.cut.bind (fun a => (hg a).cut) (fun a => (hg a).fin), hf.fin.bind fun a => (hg a).fin, hf.fr.bind (fun a => (hg a).fr) fun a => (hg a).less⟩
theorem CE.pure (a : α) : CE (Par.pure a) := ⟨Less.pure a, Suf.pure a, ErrQ.pure a, CutP.pure a, EndP.pure a, FrW.pure a⟩
theorem CE.fail : CE (failP : Par α) := ⟨less_fail, suf_fail, er_fail, CutP.fail, EndP.fail, FrW.fail⟩
theorem CE.many {step : α → Par (Option α)} (hs : Adv step) (h : ∀ a, CE (step a)) (a : α) : CE (many step a) := ⟨Less.many (fun a => (h a).less) a, Suf.many (fun a => (h a).suf) a, ErrQ.many (fun a => (h a).er) (fun a => (h a).suf) a, CutP.many hs (fun a => (h a).cut) (fun a => (h a).fin) a, EndP.many hs (fun a => (h a).fin) a, FrW.many hs (fun a => (h a).less) (fun a => (h a).fr) a⟩
theorem ce_isNext (s : ByteArray) : CE (isNextP s) := ⟨less_isNext s, suf_isNext s, er_isNext s, cut_isNext s, end_isNext s, fr_isNext s⟩
theorem ce_peek : CE peekP := ⟨less_peek, suf_peek, er_peek, cut_peek, end_peek, fr_peek⟩
theorem ce_skip (s : ByteArray) (hs : s ≠ none0) : CE (skipP s) := ⟨less_skip s, suf_skip s, er_skip s, cut_skip s hs, end_skip s hs, fr_skip s hs⟩
theorem ce_expect (s : ByteArray) (hs : s ≠ none0) : CE (expectP s) := ⟨less_expect s, suf_expect s, er_expect s, cut_expect s hs, end_expect s hs, (frs_expect s hs).weak⟩
theorem ce_take (k : Int) (hk : k ≠ 4) : CE (takeP k) := ⟨less_take k, suf_take k, er_take k, cut_take k hk, end_take k hk, (frs_take k hk).weak⟩
theorem ce_enter (s : ByteArray) (r : Nat) (hs : s ≠ none0) : CE (enterP s r) := ⟨less_enter s r, suf_enter s r, er_enter s r, cut_enter s r hs, end_enter s r hs, (frs_enter s r hs).weak⟩
/-- What looks at the next token, and goes on with it where it is none of the end. -/
theorem CE.first {g : PT → Par β} (hless : ∀ t, Less (g t)) (hsuf : ∀ t, Suf (g t)) (her : ∀ t, ErrQ (g t)) (hend : ∀ e, IsEnd e → g e [e] = .err e.at' 50) (hc : ∀ e, IsEnd e → ∀ t pre rest a l1, g t (t :: pre ++ rest) = .ok a l1 → CutR (g t) e (t :: pre) rest a l1)
    (hf : ∀ e, IsEnd e → ∀ t pre a l', g t (t :: pre ++ [e]) = .ok a l' → ∃ pre', l' = pre' ++ [e] ∧ (pre' ≠ [] → ∀ rest, g t (t :: pre ++ rest) = .ok a (pre' ++ rest))) : CE (Par.bind peekP g) where
  less := Less.bind less_peek hless
  suf := Suf.bind suf_peek hsuf
  er := ErrQ.bind er_peek suf_peek her
  fin := fun e he => Or.inl (hend e he)
  cut := cut_first (fun e he => Or.inl (hend e he)) hc
  fr := fun e he pre a l1 h => by
    cases pre with
    | nil =>
      have : g e [e] = .ok a l1 := h
      rw [hend e he] at this
      simp at this
    | cons t pre => exact hf e he t pre a l1 h
theorem ce_word : CE wordP := (ce_take _ (by decide)).bind fun _ => .pure _
theorem ce_number : CE numberP := (ce_take _ (by decide)).bind fun _ => .pure _
theorem ce_times {fac : Par Ast} (h : CE fac) (a : Ast) : CE (timesStep fac a) := (ce_skip _ (by decide)).bind fun b => by
  cases b
  · exact .pure _
  · exact h.bind fun _ => .pure _
theorem ce_term {fac : Par Ast} (h : CE fac) : CE (termP fac) := h.bind fun _ => .many (step_times h.less) (ce_times h) _
theorem ce_sum {fac : Par Ast} (h : CE fac) (a : Ast) : CE (sumStep fac a) := (ce_skip _ (by decide)).bind fun b => by
  cases b
  · refine (ce_skip _ (by decide)).bind fun b => ?_
    cases b
    · exact .pure _
    · exact (ce_term h).bind fun _ => .pure _
  · exact (ce_term h).bind fun _ => .pure _
theorem ce_exprP {fac : Par Ast} (h : CE fac) : CE (exprP fac) := (ce_term h).bind fun _ => .many (step_sum h.less) (ce_sum h) _
theorem ce_factorOf (r : Nat) {fac : Par Ast} (h : CE fac) : CE (factorOf r fac) := by
  have hb : CE (bracketP r (exprP fac)) := (ce_enter _ _ (by decide)).bind fun _ => (ce_exprP h).bind fun _ => (ce_expect _ (by decide)).bind fun _ => .pure _
  have hn : CE (negP r fac) := (ce_enter _ _ (by decide)).bind fun _ => h.bind fun _ => .pure _
  refine CE.first (fun t => ?_) (fun t => ?_) (fun t => ?_) (fun e he => ?_) (fun e he t pre rest a l1 hx => ?_) (fun e he t pre a l1 hx => ?_)
  · exact less_ite less_number (less_ite (Less.bind less_next fun _ => Less.pure _) (less_ite hb.less (less_ite hn.less less_fail)))
  · exact suf_ite ce_number.suf (suf_ite (Suf.bind suf_next fun _ => Suf.pure _) (suf_ite hb.suf (suf_ite hn.suf suf_fail)))
  · exact er_ite ce_number.er (er_ite (ErrQ.bind er_next suf_next fun _ => ErrQ.pure _) (er_ite hb.er (er_ite hn.er er_fail)))
  · rw [if_neg (by rw [he.1]; decide), if_neg (by rw [he.1]; decide), if_neg (by rw [he.2]; decide), if_neg (by rw [he.2]; decide)]
    rfl
  · unfold CutR
    by_cases h1 : t.kind = 2
    · simp only [if_pos h1] at hx ⊢; exact ce_number.cut e he _ rest a l1 hx
    · simp only [if_neg h1] at hx ⊢
      by_cases h2 : t.kind = 1
      · simp only [if_pos h2] at hx ⊢; exact cut_next he (CutP.pure _) hx
      · simp only [if_neg h2] at hx ⊢
        by_cases h3 : t.txt = ⟨#[40]⟩
        · simp only [if_pos h3] at hx ⊢; exact hb.cut e he _ rest a l1 hx
        · simp only [if_neg h3] at hx ⊢
          by_cases h4 : t.txt = ⟨#[45]⟩
          · simp only [if_pos h4] at hx ⊢; exact hn.cut e he _ rest a l1 hx
          · simp only [if_neg h4] at hx ⊢; exact CutP.fail e he _ rest a l1 hx
  · by_cases h1 : t.kind = 2
    · simp only [if_pos h1] at hx ⊢; exact ce_number.fr e he _ a l1 hx
    · simp only [if_neg h1] at hx ⊢
      by_cases h2 : t.kind = 1
      · simp only [if_pos h2] at hx ⊢; exact FrW.pure _ e he pre a l1 hx
      · simp only [if_neg h2] at hx ⊢
        by_cases h3 : t.txt = ⟨#[40]⟩
        · simp only [if_pos h3] at hx ⊢; exact hb.fr e he _ a l1 hx
        · simp only [if_neg h3] at hx ⊢
          by_cases h4 : t.txt = ⟨#[45]⟩
          · simp only [if_pos h4] at hx ⊢; exact hn.fr e he _ a l1 hx
          · simp only [if_neg h4] at hx ⊢; exact FrW.fail e he _ a l1 hx
theorem ce_factor (r : Nat) : CE (factorP r) := by
  induction r with
  | zero => exact ce_factorOf 0 .fail
  | succ r ih => exact ce_factorOf (r + 1) ih
theorem ce_expr (r : Nat) : CE (exprR r) := ce_exprP (ce_factor r)
theorem ce_wordsStep (ks : List Ast) : CE (wordsStep ks) := (ce_skip _ (by decide)).bind fun b => by
  cases b
  · exact .pure _
  · exact ce_word.bind fun _ => .pure _
theorem ce_words : CE wordsP := ce_word.bind fun _ => .many step_words ce_wordsStep _
theorem ce_rowOf (r : Nat) (t : PT) : CE (rowOfP r t) := (ce_enter _ _ (by decide)).bind fun _ => (ce_expr _).bind fun _ => (ce_expect _ (by decide)).bind fun _ => .pure _
theorem ce_row (r : Nat) : CE (rowP r) := (ce_take _ (by decide)).bind fun _ => ce_rowOf r _
theorem ce_cell (r : Nat) : CE (cellP r) := (ce_row r).bind fun _ => (ce_expect _ (by decide)).bind fun _ => ce_word.bind fun _ => .pure _
theorem ce_endP (a : Ast) : CE (endP a) := (ce_expect _ (by decide)).bind fun _ => .pure _
theorem ce_read (r p : Nat) : CE (readP r p) := (ce_take _ (by decide)).bind fun _ => (ce_expect _ (by decide)).bind fun _ => (ce_cell r).bind fun _ => (ce_skip _ (by decide)).bind fun b => by
  cases b
  · exact ce_endP _
  · exact (ce_expect _ (by decide)).bind fun _ => ce_endP _
theorem ce_set (r p : Nat) : CE (setP r p) := (ce_cell r).bind fun _ => (ce_expect _ (by decide)).bind fun _ => (ce_expr r).bind fun _ => ce_endP _
theorem ce_putStep (r : Nat) (ks : List Ast) : CE (putStep r ks) := (ce_skip _ (by decide)).bind fun b => by
  cases b
  · exact .pure _
  · exact (ce_expr r).bind fun _ => .pure _
theorem ce_put (r p : Nat) : CE (putP r p) := (ce_row r).bind fun _ => (ce_expect _ (by decide)).bind fun _ => (ce_expr r).bind fun _ => (CE.many (step_put r) (ce_putStep r) _).bind fun _ => (ce_expect _ (by decide)).bind fun _ => ce_endP _
theorem ce_delete (r p : Nat) : CE (deleteP r p) := (ce_row r).bind fun _ => ce_endP _
theorem ce_scan (p : Nat) : CE (scanP p) := (ce_take _ (by decide)).bind fun _ => (ce_expect _ (by decide)).bind fun _ => ce_word.bind fun _ => (ce_expect _ (by decide)).bind fun _ => ce_word.bind fun _ => ce_endP _
theorem ce_lock (p : Nat) : CE (lockP p) := ce_word.bind fun _ => (ce_skip _ (by decide)).bind fun b => by
  cases b
  · exact (ce_expect _ (by decide)).bind fun _ => ce_endP _
  · exact ce_endP _
theorem ce_release (r p : Nat) : CE (releaseP r p) := (ce_take _ (by decide)).bind fun _ => (ce_isNext _).bind fun b => by
  cases b
  · exact ce_endP _
  · exact (ce_rowOf r _).bind fun _ => ce_endP _
theorem ce_ifTail {B : Par Ast} (h : CE B) (p : Nat) (n : Int) (a b : Ast) : CE (ifTail B p n a b) := h.bind fun _ => (ce_skip _ (by decide)).bind fun b => by
  cases b
  · exact .pure _
  · exact h.bind fun _ => .pure _
theorem ce_if (r : Nat) {B : Par Ast} (h : CE B) (p : Nat) : CE (ifP r B p) := (ce_expr r).bind fun _ => (ce_skip _ (by decide)).bind fun b => by
  cases b
  · exact (ce_expect _ (by decide)).bind fun _ => (ce_expr r).bind fun _ => ce_ifTail h p _ _ _
  · exact (ce_expr r).bind fun _ => ce_ifTail h p _ _ _
theorem ce_for {B : Par Ast} (h : CE B) (p : Nat) : CE (forP B p) := (ce_take _ (by decide)).bind fun _ => (ce_expect _ (by decide)).bind fun _ => ce_number.bind fun _ => (ce_expect _ (by decide)).bind fun _ => ce_number.bind fun _ => h.bind fun _ => .pure _
theorem ce_let (r p : Nat) : CE (letP r p) := (ce_take _ (by decide)).bind fun _ => (ce_expect _ (by decide)).bind fun _ => (ce_expr r).bind fun _ => ce_endP _
theorem ce_emit (r p : Nat) : CE (emitP r p) := (ce_expr r).bind fun _ => ce_endP _
theorem ce_rest (r : Nat) {B : Par Ast} (h : CE B) (j p : Nat) : CE (restP r B j p) := by
  unfold restP
  split
  · exact ce_read r p
  · exact ce_set r p
  · exact ce_put r p
  · exact ce_delete r p
  · exact ce_scan p
  · exact ce_lock p
  · exact ce_release r p
  · exact ce_if r h p
  · exact ce_for h p
  · exact ce_let r p
  · exact ce_emit r p
  · exact ce_endP _
  · exact ce_endP _
  · exact .fail
theorem ce_stmt (r : Nat) {B : Par Ast} (h : CE B) : CE (stmtP r B) := by
  refine CE.first (fun t => ?_) (fun t => ?_) (fun t => ?_) (fun e he => ?_) (fun e he t pre rest a l1 hx => ?_) (fun e he t pre a l1 hx => ?_)
  · exact less_ite (Less.bind less_next fun u => (ce_rest r h _ _).less) less_fail
  · exact suf_ite (Suf.bind suf_next fun u => (ce_rest r h _ _).suf) suf_fail
  · exact er_ite (ErrQ.bind er_next suf_next fun u => (ce_rest r h _ _).er) er_fail
  · rw [if_neg (by rw [he.2]; decide)]; rfl
  · unfold CutR
    by_cases h1 : words13.idxOf t.txt < 13
    · simp only [if_pos h1] at hx ⊢; exact cut_next he (ce_rest r h _ _).cut hx
    · simp only [if_neg h1] at hx ⊢; exact CutP.fail e he _ rest a l1 hx
  · by_cases h1 : words13.idxOf t.txt < 13
    · simp only [if_pos h1] at hx ⊢; exact (ce_rest r h _ _).fr e he pre a l1 hx
    · simp only [if_neg h1] at hx ⊢; exact FrW.fail e he _ a l1 hx
theorem ce_blockStep {st : Par Ast} (h : CE st) (ks : List Ast) : CE (blockStep st ks) := (ce_isNext _).bind fun b => by
  cases b
  · exact h.bind fun _ => .pure _
  · exact .pure _
theorem ce_blockOf (r : Nat) {st : Par Ast} (h : CE st) (ht : Takes st) : CE (blockOf r st) := (ce_enter _ _ (by decide)).bind fun _ => (CE.many (step_block ht) (ce_blockStep h) _).bind fun _ => (ce_expect _ (by decide)).bind fun _ => .pure _
theorem frs_blockOf (r : Nat) {st : Par Ast} (h : CE st) (ht : Takes st) : FrS (blockOf r st) := (frs_enter _ _ (by decide)).bind fun _ => FrS.close (CE.many (step_block ht) (ce_blockStep h) _).fr (fun _ => (frs_expect _ (by decide)).bind fun _ => .pure _) (fun _ => no_expect (by decide))
theorem ce_block (r : Nat) : CE (blockP r) := by
  induction r with
  | zero => exact ce_blockOf 0 .fail takes_fail
  | succ r ih => exact ce_blockOf (r + 1) (ce_stmt r ih) (takes_stmt r ih.less)
theorem frs_block (r : Nat) : FrS (blockP r) := by
  cases r with
  | zero => exact frs_blockOf 0 .fail takes_fail
  | succ r => exact frs_blockOf (r + 1) (ce_stmt r (ce_block r)) (takes_stmt r (ce_block r).less)
theorem no_block (r : Nat) (e : PT) (he : IsEnd e) (b : Ast) (l : List PT) : blockP r [e] ≠ .ok b l := by
  cases r with
  | zero => exact no_enter (by decide) e he b l
  | succ r => exact no_enter (by decide) e he b l
theorem ce_names : CE namesP := ce_peek.bind fun _ => (ce_isNext _).bind fun b => by
  cases b
  · exact ce_words.bind fun _ => .pure _
  · exact .pure _
theorem ce_table : CE tableP := (ce_expect _ (by decide)).bind fun _ => (ce_take _ (by decide)).bind fun _ => (ce_expect _ (by decide)).bind fun _ => ce_words.bind fun _ => (ce_expect _ (by decide)).bind fun _ => ce_endP _
theorem ce_proc : CE procP := (ce_expect _ (by decide)).bind fun _ => (ce_take _ (by decide)).bind fun _ => (ce_expect _ (by decide)).bind fun _ => ce_names.bind fun _ => (ce_expect _ (by decide)).bind fun _ => (ce_skip _ (by decide)).bind fun b => by
  cases b
  · exact (ce_block 64).bind fun _ => .pure _
  · exact (ce_block 64).bind fun _ => .pure _
theorem frs_table : FrS tableP := (frs_expect _ (by decide)).bind fun _ => (frs_take _ (by decide)).bind fun _ => (frs_expect _ (by decide)).bind fun _ => FrS.close ce_words.fr (fun _ => (frs_expect _ (by decide)).bind fun _ => (frs_expect _ (by decide)).bind fun _ => .pure _) (fun _ => no_expect (by decide))
theorem frs_proc : FrS procP := (frs_expect _ (by decide)).bind fun _ => (frs_take _ (by decide)).bind fun _ => (frs_expect _ (by decide)).bind fun _ => FrS.close ce_names.fr (fun _ => (frs_expect _ (by decide)).bind fun _ => FrS.close (fr_skip _ (by decide)) (fun b => by
  cases b
  · exact (frs_block 64).bind fun _ => .pure _
  · exact (frs_block 64).bind fun _ => .pure _) (fun b e he c l h => by
  cases b
  · cases hb : blockP 64 [e] with
    | err p q => simp only [Par.bind, hb] at h; simp at h
    | ok x y => exact no_block 64 e he x y hb
  · cases hb : blockP 64 [e] with
    | err p q => simp only [Par.bind, hb] at h; simp at h
    | ok x y => exact no_block 64 e he x y hb)) (fun _ => no_expect (by decide))
theorem ce_progStep (ks : List Ast) : CE (progStep ks) := ce_peek.bind fun t => by
  by_cases h : t.kind = 4
  · simp only [if_pos h]; exact .pure _
  · simp only [if_neg h]
    refine (ce_isNext _).bind fun b => ?_
    cases b
    · exact ce_proc.bind fun _ => .pure _
    · exact ce_table.bind fun _ => .pure _
theorem ce_program : CE programP := ce_peek.bind fun _ => (CE.many step_prog ce_progStep _).bind fun _ => .pure _
/-- P5.3: a beginning fails at its end, or is of the grammar, too. -/
theorem program_cut {e : PT} (he : IsEnd e) {pre rest : List PT} {a : Ast} {l1 : List PT} (h : programP (pre ++ rest) = .ok a l1) : programP (pre ++ [e]) = .err e.at' 50 ∨ ∃ b l2, programP (pre ++ [e]) = .ok b l2 := by
  rcases ce_program.cut e he pre rest a l1 h with ⟨pre', _, h1⟩ | h1 | ⟨b, h1⟩
  · exact Or.inr ⟨_, _, h1⟩
  · exact Or.inl h1
  · exact Or.inr ⟨_, _, h1⟩
end
end Go.Proofs.YtkakhldlmfdcdaaGreatDoor
end
section
namespace Go.Proofs.YtkakhldlmfdcdaaGreatDoor
open Par
theorem prog_ends {m : Nat} : ∀ {ks ks' : List Ast} {l l' : List PT}, loop progStep m ks l = .ok ks' l' → ∃ t r, l' = t :: r ∧ t.kind = 4 := by
  induction m with
  | zero => intro ks ks' l l' h; simp [Par.loop] at h
  | succ m ih =>
    intro ks ks' l l' h
    rw [Par.loop] at h
    simp only [Par.bind] at h
    cases h1 : progStep ks l with
    | err p c => rw [h1] at h; simp at h
    | ok o l1 =>
      rw [h1] at h
      cases o with
      | some b => exact ih h
      | none =>
        simp only [Par.pure, Res.ok.injEq] at h
        obtain ⟨_, rfl⟩ := h
        cases l with
        | nil => simp [progStep, Par.bind, peekP] at h1
        | cons t r =>
          simp only [progStep, Par.bind, peekP] at h1
          by_cases hk : t.kind = 4
          · simp only [if_pos hk, Par.pure, Res.ok.injEq, true_and] at h1
            exact ⟨t, r, h1.symm, hk⟩
          · simp only [if_neg hk, Par.bind, isNextP] at h1
            cases hd : decide (t.txt = ⟨#[116, 97, 98, 108, 101]⟩) with
            | false =>
              simp only [hd] at h1
              cases h2 : procP (t :: r) with
              | err p c => simp only [Par.bind, h2] at h1; simp at h1
              | ok a l2 => simp only [Par.bind, h2, Par.pure] at h1; simp at h1
            | true =>
              simp only [hd] at h1
              cases h2 : tableP (t :: r) with
              | err p c => simp only [Par.bind, h2] at h1; simp at h1
              | ok a l2 => simp only [Par.bind, h2, Par.pure] at h1; simp at h1
theorem all_suffix {e : PT} {x y : List PT} (h : x ++ [e] <:+ y ++ [e]) (hy : ∀ t ∈ y, t.kind ≠ 4) : ∀ t ∈ x, t.kind ≠ 4 := fun t ht => by
  obtain ⟨z, hz⟩ := h
  rw [← List.append_assoc] at hz
  have := List.append_inj_left' hz rfl
  exact hy t (by rw [← this]; simp [ht])
/-- Up to its end a source's parts are read the same in front of anything. -/
theorem prog_frame {e : PT} (he : IsEnd e) : ∀ (n : Nat) (A : List PT), A.length ≤ n → (∀ t ∈ A, t.kind ≠ 4) → ∀ ks ks' l', many progStep ks (A ++ [e]) = .ok ks' l' → l' = [e] ∧ ∀ rest, many progStep ks (A ++ rest) = many progStep ks' rest := by
  intro n
  induction n with
  | zero =>
    intro A hA _ ks ks' l' h
    obtain rfl : A = [] := List.length_eq_zero_iff.1 (by omega)
    have h1 : progStep ks ([] ++ [e]) = .ok none [e] := by simp only [List.nil_append, progStep, Par.bind, peekP, if_pos he.1, Par.pure]
    rw [many_done h1] at h
    simp only [Res.ok.injEq] at h
    obtain ⟨rfl, rfl⟩ := h
    exact ⟨rfl, fun _ => rfl⟩
  | succ n ih =>
    intro A hA hk ks ks' l' h
    cases A with
    | nil => exact ih [] (by simp) hk ks ks' l' h
    | cons t A =>
      have hkt : t.kind ≠ 4 := hk t (by simp)
      have key : ∀ (f : Par Ast), FrS f → Takes f → Suf f → (∀ l, progStep ks (t :: l) = Par.bind f (fun a => Par.pure (some (ks ++ [a]))) (t :: l)) → l' = [e] ∧ ∀ rest, many progStep ks (t :: A ++ rest) = many progStep ks' rest := by
        intro f hf ht hsf hstep
        cases h2 : f (t :: A ++ [e]) with
        | err p c =>
          have h3 : progStep ks (t :: A ++ [e]) = .err p c := by
            rw [List.cons_append, hstep]; exact bind_err h2
          rw [many_err h3] at h
          simp at h
        | ok a l2 =>
          obtain ⟨A1, rfl, h4⟩ := hf e he _ a l2 h2
          have h3 : progStep ks (t :: A ++ [e]) = .ok (some (ks ++ [a])) (A1 ++ [e]) := by
            rw [List.cons_append, hstep, ← List.cons_append, bind_ok h2]; rfl
          rw [many_more step_prog h3] at h
          have hlen := ht _ _ _ h2
          simp only [List.length_append, List.length_cons, List.length_nil] at hlen hA
          obtain ⟨h5, h6⟩ := ih A1 (by omega) (all_suffix (hsf _ _ _ h2) hk) _ _ _ h
          refine ⟨h5, fun rest => ?_⟩
          have h7 : progStep ks (t :: A ++ rest) = .ok (some (ks ++ [a])) (A1 ++ rest) := by
            rw [List.cons_append, hstep, ← List.cons_append, bind_ok (h4 rest)]; rfl
          rw [many_more step_prog h7]
          exact h6 rest
      cases hd : decide (t.txt = ⟨#[116, 97, 98, 108, 101]⟩) with
      | true => exact key tableP frs_table takes_table ce_table.suf fun l => by simp only [progStep, Par.bind, peekP, if_neg hkt, isNextP, hd]
      | false => exact key procP frs_proc takes_proc ce_proc.suf fun l => by simp only [progStep, Par.bind, peekP, if_neg hkt, isNextP, hd]
def more (k0 : List Ast) : Res (List Ast) → Res (List Ast)
  | .err p c => .err p c
  | .ok ks l => .ok (k0 ++ ks) l
def moreO (k0 : List Ast) : Res (Option (List Ast)) → Res (Option (List Ast))
  | .err p c => .err p c
  | .ok none l => .ok none l
  | .ok (some ks) l => .ok (some (k0 ++ ks)) l
theorem step_more (k0 ks : List Ast) (l : List PT) : progStep (k0 ++ ks) l = moreO k0 (progStep ks l) := by
  cases l with
  | nil => rfl
  | cons t r =>
    simp only [progStep, Par.bind, peekP]
    by_cases hk : t.kind = 4
    · simp only [if_pos hk]; rfl
    · simp only [if_neg hk, Par.bind, isNextP]
      cases hd : decide (t.txt = ⟨#[116, 97, 98, 108, 101]⟩) with
      | false =>
        simp only [hd]
        cases h2 : procP (t :: r) with
        | err p c => simp only [Par.bind, h2]; rfl
        | ok a l2 => simp only [Par.bind, h2, Par.pure, moreO, List.append_assoc]
      | true =>
        simp only [hd]
        cases h2 : tableP (t :: r) with
        | err p c => simp only [Par.bind, h2]; rfl
        | ok a l2 => simp only [Par.bind, h2, Par.pure, moreO, List.append_assoc]
theorem loop_more_ks (k0 : List Ast) (m : Nat) : ∀ (ks : List Ast) (l : List PT), loop progStep m (k0 ++ ks) l = more k0 (loop progStep m ks l) := by
  induction m with
  | zero => intro ks l; rfl
  | succ m ih =>
    intro ks l
    rw [Par.loop, Par.loop]
    simp only [Par.bind, step_more]
    cases h : progStep ks l with
    | err p c => rfl
    | ok o l1 =>
      cases o with
      | none => rfl
      | some b => exact ih b l1
theorem many_more_ks (k0 : List Ast) (l : List PT) : many progStep k0 l = more k0 (many progStep [] l) := by
  have := loop_more_ks k0 (l.length + 1) [] l
  rw [List.append_nil] at this
  exact this
theorem program_of {l l' : List PT} {a : Ast} (h : programP l = .ok a l') : ∃ t r ks, l = t :: r ∧ a = nodeA 1 t.at' ks ∧ many progStep [] l = .ok ks l' := by
  cases l with
  | nil => simp [programP, Par.bind, peekP] at h
  | cons t r =>
    simp only [programP, Par.bind, peekP] at h
    cases h1 : many progStep [] (t :: r) with
    | err p c => rw [h1] at h; simp at h
    | ok ks l1 =>
      rw [h1] at h
      simp only [Par.pure, Res.ok.injEq] at h
      exact ⟨t, r, ks, rfl, h.1.symm, by rw [h.2]⟩
theorem program_err {l : List PT} {p : Nat} {c : Int} (hl : l ≠ []) (h : programP l = .err p c) : many progStep [] l = .err p c := by
  cases l with
  | nil => exact absurd rfl hl
  | cons t r =>
    simp only [programP, Par.bind, peekP] at h
    cases h1 : many progStep [] (t :: r) with
    | err q d => rw [h1] at h; simpa using h
    | ok ks l1 => rw [h1] at h; simp [Par.pure] at h
theorem of_program {l l' : List PT} {t : PT} {r : List PT} {ks : List Ast} (hl : l = t :: r) (h : many progStep [] l = .ok ks l') : programP l = .ok (nodeA 1 t.at' ks) l' := by
  subst hl
  simp only [programP, Par.bind, peekP, h, Par.pure]
theorem of_program_err {l : List PT} {p : Nat} {c : Int} (hl : l ≠ []) (h : many progStep [] l = .err p c) : programP l = .err p c := by
  cases l with
  | nil => exact absurd rfl hl
  | cons t r => simp only [programP, Par.bind, peekP, h]
/-- P5.3: a source behind another one. -/
theorem program_joined {ρ : Nat → Nat → Prop} {e : PT} (he : IsEnd e) {A B C : List PT} (hA : ∀ t ∈ A, t.kind ≠ 4) {a : Ast} {l1 : List PT} (h1 : programP (A ++ [e]) = .ok a l1) (hB : B ≠ []) (hBC : TokL ρ B C) :
    ∃ p ksA, a = nodeA 1 p ksA ∧
      (∀ q c, programP B = .err q c → ∃ q', programP (A ++ C) = .err q' c) ∧
      (∀ b l2, programP B = .ok b l2 → ∃ q ksB q' ksC l3, b = nodeA 1 q ksB ∧ programP (A ++ C) = .ok (nodeA 1 q' (ksA ++ ksC)) l3 ∧ KidsR ρ ksB ksC) := by
  obtain ⟨t, r, ksA, _, ea, hm⟩ := program_of h1
  obtain ⟨_, hf⟩ := prog_frame he A.length A (Nat.le_refl _) hA _ _ _ hm
  have hj : many progStep [] (A ++ C) = more ksA (many progStep [] C) := by rw [hf C, many_more_ks]
  have hCn : C ≠ [] := fun e => by
    subst e
    cases hBC
    exact hB rfl
  have hAC : A ++ C ≠ [] := by simp [hCn]
  have hrel : ResR ρ (KidsR ρ) (many progStep [] B) (many progStep [] C) := RelP.many rel_progStep KidsR.nil B C hBC
  refine ⟨t.at', ksA, ea, fun q c hx => ?_, fun b l2 hx => ?_⟩
  · rw [program_err hB hx] at hrel
    cases h2 : many progStep [] C with
    | err q' c' =>
      rw [h2] at hrel hj
      obtain rfl : c = c' := hrel
      exact ⟨q', of_program_err hAC hj⟩
    | ok ks l => rw [h2] at hrel; exact hrel.elim
  · obtain ⟨t', r', ksB, _, eb, hmb⟩ := program_of hx
    rw [hmb] at hrel
    cases h2 : many progStep [] C with
    | err q' c' => rw [h2] at hrel; exact hrel.elim
    | ok ksC l3 =>
      rw [h2] at hrel hj
      obtain ⟨t2, r2, e2⟩ : ∃ t2 r2, A ++ C = t2 :: r2 := by
        cases hac : A ++ C with
        | nil => exact absurd hac hAC
        | cons x y => exact ⟨x, y, rfl⟩
      exact ⟨_, ksB, _, ksC, l3, eb, of_program e2 hj, hrel.1⟩
-- trees that are alike, node by node
def NdR (ρ : Nat → Nat → Prop) (x y : Nd) : Prop := x.kind = y.kind ∧ x.text = y.text ∧ x.n = y.n ∧ x.kids.length = y.kids.length ∧ ∃ a a' : Nat, x.at' = (a : Int) ∧ y.at' = (a' : Int) ∧ ρ a a'
theorem AstR.size {ρ : Nat → Nat → Prop} {a a' : Ast} (h : AstR ρ a a') : a.size = a'.size := by
  induction h with
  | @mk k p p' t n ks ks' _ hl hk ih =>
    simp only [Ast.size]
    congr 1
    clear hk
    induction ks generalizing ks' with
    | nil =>
      cases ks' with
      | nil => rfl
      | cons _ _ => simp at hl
    | cons x r ih2 =>
      cases ks' with
      | nil => simp at hl
      | cons y r' =>
        simp only [sizeL]
        rw [ih 0 x y (by simp) (by simp), ih2 (by simpa using hl) fun i u v hu hv => ih (i + 1) u v (by simpa using hu) (by simpa using hv)]
theorem KidsR.tail {ρ : Nat → Nat → Prop} {x y : Ast} {r r' : List Ast} (h : KidsR ρ (x :: r) (y :: r')) : AstR ρ x y ∧ KidsR ρ r r' :=
  ⟨h.2 0 x y (by simp) (by simp), by simpa using h.1, fun i u v hu hv => h.2 (i + 1) u v (by simpa using hu) (by simpa using hv)⟩
theorem KidsR.size {ρ : Nat → Nat → Prop} {ks ks' : List Ast} (h : KidsR ρ ks ks') : sizeL ks = sizeL ks' := by
  induction ks generalizing ks' with
  | nil =>
    cases ks' with
    | nil => rfl
    | cons _ _ => have := h.1; simp at this
  | cons x r ih =>
    cases ks' with
    | nil => have := h.1; simp at this
    | cons y r' =>
      obtain ⟨h1, h2⟩ := h.tail
      simp only [sizeL, h1.size, ih h2]
def AllR (R : Nd → Nd → Prop) (x y : List Nd) : Prop := x.length = y.length ∧ ∀ (i : Nat) (u v : Nd), x[i]? = some u → y[i]? = some v → R u v
theorem AllR.append {R : Nd → Nd → Prop} {x y x' y' : List Nd} (h : AllR R x x') (h' : AllR R y y') : AllR R (x ++ y) (x' ++ y') := ⟨by simp [h.1, h'.1], fun i u v hu hv => by
  by_cases hi : i < x.length
  · rw [List.getElem?_append_left hi] at hu
    rw [List.getElem?_append_left (by rw [← h.1]; exact hi)] at hv
    exact h.2 i u v hu hv
  · rw [List.getElem?_append_right (by omega)] at hu
    rw [List.getElem?_append_right (by rw [← h.1]; omega), ← h.1] at hv
    exact h'.2 _ u v hu hv⟩
theorem AllR.cons {R : Nd → Nd → Prop} {x x' : Nd} {y y' : List Nd} (h : R x x') (h' : AllR R y y') : AllR R (x :: y) (x' :: y') := ⟨by simp [h'.1], fun i u v hu hv => by
  cases i with
  | zero => simp at hu hv; subst hu hv; exact h
  | succ i => exact h'.2 i u v (by simpa using hu) (by simpa using hv)⟩
theorem AllR.nil {R : Nd → Nd → Prop} : AllR R [] [] := ⟨rfl, fun i u v h => by simp at h⟩
mutual
theorem flat_rel {ρ : Nat → Nat → Prop} (o o' : Nat) : ∀ (a a' : Ast), AstR ρ a a' → AllR (NdR ρ) (flat o a) (flat o' a')
  | .mk k p t n ks, a', h => by
    cases h with
    | @mk _ _ p' _ _ _ ks' h hl hk =>
      simp only [flat]
      exact .cons ⟨rfl, rfl, rfl, by simp only [heads_length, hl], p, p', rfl, rfl, h⟩ (flatL_rel (o + 1) (o' + 1) ks ks' ⟨hl, hk⟩)
theorem flatL_rel {ρ : Nat → Nat → Prop} (o o' : Nat) : ∀ (ks ks' : List Ast), KidsR ρ ks ks' → AllR (NdR ρ) (flatL o ks) (flatL o' ks')
  | [], ks', h => by
    cases ks' with
    | nil => simp only [flatL]; exact .nil
    | cons _ _ => have := h.1; simp at this
  | x :: r, ks', h => by
    cases ks' with
    | nil => have := h.1; simp at this
    | cons y r' =>
      obtain ⟨h1, h2⟩ := h.tail
      simp only [flatL]
      exact .append (flat_rel o o' x y h1) (flatL_rel _ _ r r' h2)
end
theorem flatL_append (o : Nat) (x y : List Ast) : flatL o (x ++ y) = flatL o x ++ flatL (o + sizeL x) y := by
  induction x generalizing o with
  | nil => simp [flatL, sizeL]
  | cons a r ih => simp only [List.cons_append, flatL, ih, sizeL, List.append_assoc, Nat.add_assoc]
end Go.Proofs.YtkakhldlmfdcdaaGreatDoor
end
section
namespace Go.Proofs.YtkakhldlmfdcdaaGreatDoor
open Go.RowKit
theorem beq_str (a b : ByteArray) : (a.toList == b.toList) = decide (a = b) := by
  rw [ByteArray.toList_eq, ByteArray.toList_eq]
  by_cases h : a = b
  · subst h; simp
  · rw [decide_eq_false h]
    have : a.data.toList ≠ b.data.toList := fun e => h (by
      obtain ⟨⟨a⟩⟩ := a
      obtain ⟨⟨b⟩⟩ := b
      simp only at e
      rw [e])
    simpa using this
abbrev tokA (t : PT) (sp : Nat) : Value := .agg #[.int .u8 t.kind, .int .i64 (t.at' : Int), .int .i64 (sp : Int), .string t.txt, .int .i64 t.n]
theorem tok_f0 (k a b n : Int) (s : ByteArray) (W : World) : (Instr.field 45 (.agg #[.int .u8 k, .int .i64 a, .int .i64 b, .string s, .int .i64 n]) 0).run Tryz.prog W = .ok (.int .u8 k) W := by kernel_rfl
theorem tok_f1 (k a b n : Int) (s : ByteArray) (W : World) : (Instr.field 45 (.agg #[.int .u8 k, .int .i64 a, .int .i64 b, .string s, .int .i64 n]) 1).run Tryz.prog W = .ok (.int .i64 a) W := by kernel_rfl
theorem tok_f3 (k a b n : Int) (s : ByteArray) (W : World) : (Instr.field 45 (.agg #[.int .u8 k, .int .i64 a, .int .i64 b, .string s, .int .i64 n]) 3).run Tryz.prog W = .ok (.string s) W := by kernel_rfl
theorem tok_f4 (k a b n : Int) (s : ByteArray) (W : World) : (Instr.field 45 (.agg #[.int .u8 k, .int .i64 a, .int .i64 b, .string s, .int .i64 n]) 4).run Tryz.prog W = .ok (.int .i64 n) W := by kernel_rfl
section
variable {E : Env} {v : Value} {kvs : List Value} {md : List Nd} {r : Nat} {l : List PT} {w : World}
/-- The token that comes next, in memory. -/
theorem PS.head (h : PS E v kvs md r l w) : ∃ (i : Nat) (t : PT) (l' : List PT) (sp : Nat), l = t :: l' ∧ l' = E.pts.drop (i + 1) ∧ i < E.toks.length ∧ w.heap[E.b]? = some (.cells #[.slice (some ⟨E.g, 0, none⟩) E.toks.length E.cap, .int .i64 (i : Int), .int .i64 (64 - (r : Int)), E.mp, v] 61 (0, 0)) ∧
    w.cell? ⟨E.g, i * 5, none⟩ = some (.int .u8 t.kind) ∧ w.cell? ⟨E.g, i * 5 + 1, none⟩ = some (.int .i64 (t.at' : Int)) ∧ w.cell? ⟨E.g, i * 5 + 2, none⟩ = some (.int .i64 (sp : Int)) ∧ w.cell? ⟨E.g, i * 5 + 3, none⟩ = some (.string t.txt) ∧ w.cell? ⟨E.g, i * 5 + 4, none⟩ = some (.int .i64 t.n) := by
  obtain ⟨i, hl, hc⟩ := h.nx
  obtain ⟨t, l', he⟩ := h.ended.pos
  have hi : i < E.pts.length := by
    rcases Nat.lt_or_ge i E.pts.length with h1 | h1
    · exact h1
    · rw [List.drop_eq_nil_of_le h1] at hl; rw [hl] at he; simp at he
  have hi2 : i < E.toks.length := by simpa [Env.pts] using hi
  have hd := List.drop_eq_getElem_cons hi
  rw [← hl, he, List.cons.injEq] at hd
  have ht : t = ptOf (E.toks.getD i (Tok.endAt 0)) := by
    rw [hd.1]
    simp [Env.pts, List.getD, hi2]
  refine ⟨i, t, l', (E.toks.getD i (Tok.endAt 0)).stop, he, hd.2, hi2, hc, ?_, ?_, ?_, ?_, ?_⟩
  · rw [ht]; exact h.tok i 0 _ hi2 rfl
  · rw [ht]; exact h.tok i 1 _ hi2 rfl
  · exact h.tok i 2 _ hi2 rfl
  · rw [ht]; exact h.tok i 3 _ hi2 rfl
  · rw [ht]; exact h.tok i 4 _ hi2 rfl
/-- The next token is taken. -/
theorem PS.next {t : PT} {i : Nat} {l' : List PT} (h : PS E v kvs md r (t :: l') w) (ht : t.kind ≠ 4 ∨ t.txt ≠ none0) (hl : l' = E.pts.drop (i + 1)) (hc : w.heap[E.b]? = some (.cells #[.slice (some ⟨E.g, 0, none⟩) E.toks.length E.cap, .int .i64 (i : Int), .int .i64 (64 - (r : Int)), E.mp, v] 61 (0, 0))) :
    PS E v kvs md r l' (w.setCell ⟨E.b, 1, none⟩ (.int .i64 ((i : Int) + 1))) where
  below := h.below.setCell (p := ⟨E.b, 1, none⟩) (Nat.le_refl _) _
  lt := by simpa [World.setCell] using h.lt
  gl := h.gl
  cap := h.cap
  tok := fun j k u hj hk => by
    have := h.gl
    rw [World.cell?_of_block (w := w) (a := ⟨E.g, j * 5 + k, none⟩) (Below.heap_setCell _ _ _ _ (show E.g ≠ E.b by omega))]
    exact h.tok j k u hj hk
  nx := ⟨i + 1, hl, by rw [heap_set _ _ _ _ _ _ hc]; rfl⟩
  r64 := h.r64
  ended := h.ended.tail ht
  few := h.few
  room := by have := h.room; simp only [List.length_cons] at this; omega
  klen := h.klen
  own := h.own.kept (grownBy_set w _ _) (by
    cases hv : v.ownBlock with
    | none => exact Or.inl rfl
    | some k => exact Or.inr (fun e => by have := h.vlt k hv; have e := Option.some.inj e; simp only at e; omega))
  kids := fun j hj => (h.kids j hj).grown (grownBy_set w _ _) (by
    cases hv : (kvs.getD j default).ownBlock with
    | none => exact Or.inl rfl
    | some k => exact Or.inr (fun e => by have := (h.kids j hj).lt k hv; have e := Option.some.inj e; simp only at e; omega))
  apart := h.apart
  pair := h.pair
theorem Fr.setB {v' : Value} {B : Nat} {w1 : World} (h : Fr E B v v' w w1) (i : Nat) (u : Value) : Fr E B v v' w (w1.setCell ⟨E.b, i, none⟩ u) :=
  ⟨h.os, h.tape, h.output, by have := h.size; simpa [World.setCell] using this, fun k hk hb hv => (Below.heap_setCell w1 ⟨E.b, i, none⟩ u k hb).trans (h.block k hk hb hv), h.grow⟩
theorem grownBy_drewN (w : World) (n : Nat) : w.grownBy (w.drewN n) none := ⟨rfl, rfl, rfl, Nat.le_refl _, fun _ _ _ => rfl⟩
theorem PS.drewN (h : PS E v kvs md r l w) (n : Nat) : PS E v kvs md r l (w.drewN n) := h.grown (grownBy_drewN w n) (fun _ e => by cases e)
theorem PS.drew (h : PS E v kvs md r l w) : PS E v kvs md r l w.drew := h.drewN 1
theorem Fr.drew {B : Nat} {v' : Value} {w1 : World} (h : Fr E B v v' w w1) : Fr E B v v' w w1.drew := h.drewN 1
def PeekP (E : Env) (v : Value) (kvs : List Value) (md : List Nd) (r : Nat) (l : List PT) (w : World) (e : Ending) (w' : World) : Prop := ∃ t l' sp, l = t :: l' ∧ e = .returned (tokA t sp) ∧ PS E v kvs md r l w' ∧ Fr E w.heap.size v v w w'
def NextP (E : Env) (v : Value) (kvs : List Value) (md : List Nd) (r : Nat) (l : List PT) (w : World) (s : ByteArray) (e : Ending) (w' : World) : Prop := ∃ t l', l = t :: l' ∧ e = .returned (.bool (decide (t.txt = s))) ∧ PS E v kvs md r l w' ∧ Fr E w.heap.size v v w w'
set_option maxRecDepth 1000000 in
set_option maxHeartbeats 1000000 in
theorem peek_at (h : PS E v kvs md r l w) : Calls Tryz.prog 57 #[.pointer (some ⟨E.b, 0, none⟩)] w (PeekP E v kvs md r l w) := by
  obtain ⟨i, t, l', sp, hl, _, hi, hb, k0, k1, k2, k3, k4⟩ := h.head
  have c0 := cell_of_row w E.b 0 _ _ _ hb
  have c1 := cell_of_row w E.b 1 _ _ _ hb
  simp only [List.getElem?_toArray, List.getElem?_cons_zero, List.getElem?_cons_succ] at c0 c1
  clear hb
  have hcap := h.cap
  have HS := Lib.hid h
  have HL := Lib.hid hl
  clear h hl
  have hlt := HS.out.lt
  have hgl := HS.out.gl
  have hg2 : E.g < w.heap.size := by omega
  go_enter Tryz.func57, Tryz.ntmps57
  go_wp2_with fail
  go_region
  go_wp2
  simp [bodyPost, results, Tryz.results57, go_sem]
  exact ⟨t, l', sp, HL.out, rfl, (HS.out.alloc _).drew, ((Fr.refl _ _ _ _).alloc (Nat.le_refl _) _).drew⟩
/-- What a part's call that changes nothing but the next token's place leaves. -/
structure Same (E : Env) (v : Value) (kvs : List Value) (md : List Nd) (r : Nat) (l : List PT) (w w' : World) : Prop where
  ps : PS E v kvs md r l w'
  fr : Fr E w.heap.size v v w w'
set_option maxRecDepth 1000000 in
set_option maxHeartbeats 1000000 in
theorem isNext_at (h : PS E v kvs md r l w) (s : ByteArray) : Calls Tryz.prog 58 #[.pointer (some ⟨E.b, 0, none⟩), .string s] w (NextP E v kvs md r l w s) := by
  have PK := Lib.hid (peek_at h)
  have fl := tok_f3
  clear h
  go_enter Tryz.func58, Tryz.ntmps58
  go_wp2_with fail
  (with_reducible refine PK.out.mono ?_)
  rintro e w1 ⟨t, l', sp, hl, rfl, hs, hf⟩
  have HL := Lib.hid hl
  have HS := Lib.hid hs
  have HF := Lib.hid hf
  clear hl hs hf PK
  simp only [tokA]
  have HB := Lib.hid (beq_str t.txt s)
  go_wp2
  rw [HB.out]
  go_ret
  exact ⟨t, l', HL.out, rfl, HS.out, HF.out⟩
/-- What a part of the parser leaves: it gave up, or went on. -/
def PostE {α : Type} (E : Env) (res : Res α) (ok : α → List PT → Ending → World → Prop) (e : Ending) (w' : World) : Prop :=
  match res with
  | .err p c => e = .panicked [{ v := .iface 56 (.agg #[.int .i64 (p : Int), .int .i64 c]), recovered := false }] ∧ Below E.b E.W w'
  | .ok a l' => ok a l' e w'
theorem post_err {α : Type} {E : Env} {res : Res α} {ok : α → List PT → Ending → World → Prop} {f : Nat} {args : Array Value} {w : World} (T : Calls Tryz.prog f args w (PostE E res ok)) {p : Nat} {c : Int} (hx : res = .err p c) :
    Calls Tryz.prog f args w fun e w' => e = .panicked [{ v := .iface 56 (.agg #[.int .i64 (p : Int), .int .i64 c]), recovered := false }] ∧ Below E.b E.W w' := T.mono fun e w' h => by rw [hx] at h; exact h
theorem post_ok {α : Type} {E : Env} {res : Res α} {ok : α → List PT → Ending → World → Prop} {f : Nat} {args : Array Value} {w : World} (T : Calls Tryz.prog f args w (PostE E res ok)) {a : α} {l' : List PT} (hx : res = .ok a l') :
    Calls Tryz.prog f args w (ok a l') := T.mono fun e w' h => by rw [hx] at h; exact h
theorem of_err {α : Type} {E : Env} {res : Res α} {ok : α → List PT → Ending → World → Prop} {w' : World} {p : Nat} {c : Int} (hx : res = .err p c) (hb : Below E.b E.W w') :
    PostE E res ok (.panicked [{ v := .iface 56 (.agg #[.int .i64 (p : Int), .int .i64 c]), recovered := false }]) w' := by rw [hx]; exact ⟨rfl, hb⟩
theorem of_ok {α : Type} {E : Env} {res : Res α} {ok : α → List PT → Ending → World → Prop} {e : Ending} {w' : World} {a : α} {l' : List PT} (hx : res = .ok a l') (h : ok a l' e w') : PostE E res ok e w' := by rw [hx]; exact h
def RefP (E : Env) (l : List PT) (c : Int) (e : Ending) (w' : World) : Prop := ∃ t l', l = t :: l' ∧ e = .returned (.agg #[.int .i64 (t.at' : Int), .int .i64 c]) ∧ Below E.b E.W w'
set_option maxRecDepth 1000000 in
set_option maxHeartbeats 1000000 in
theorem refused_at (h : PS E v kvs md r l w) (c : Int) : Calls Tryz.prog 123 #[.pointer (some ⟨E.b, 0, none⟩), .int .i64 c] w (RefP E l c) := by
  have L0 := Lib.hid (Lcl.new h (.cells #[.int .i64 0, .int .i64 0] 56))
  have PK := Lib.hid (peek_at (h.alloc (.cells #[.int .i64 0, .int .i64 0] 56)))
  have fl := tok_f1
  clear h
  go_enter Tryz.func123, Tryz.ntmps123
  go_wp2_with fail
  (with_reducible refine PK.out.mono ?_)
  rintro e w1 ⟨t, l', sp, hl, rfl, hs, hf⟩
  have HL := Lib.hid hl
  have HS := Lib.hid hs
  have L1 := Lib.hid (L0.out.on0 hf)
  have k0 := L1.out.cell 0 rfl
  have k1 := L1.out.cell 1 rfl
  have z := L1.out.fz
  clear hl hs hf PK L0
  simp only [tokA]
  go_wp2
  simp [bodyPost, results, Tryz.results123, go_sem, k0, k1, z]
  exact ⟨t, l', HL.out, rfl, ((HS.out.set (a := ⟨w.heap.size, 0, none⟩) L1.out.loc _).set (a := ⟨w.heap.size, 1, none⟩) L1.out.loc _).below⟩
end
end Go.Proofs.YtkakhldlmfdcdaaGreatDoor
end
