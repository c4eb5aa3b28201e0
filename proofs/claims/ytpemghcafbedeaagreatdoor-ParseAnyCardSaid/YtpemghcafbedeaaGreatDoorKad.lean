/- Contracts on the way to the laws of layer 5: LexE, DiagM, DiagE, DiagN, ParseQ, ParseR, ParseS, ParseT. -/
import Derived.Test.YtpemghcafbedeaaGreatDoorKab
import Derived.Test.YtpemghcafbedeaaGreatDoorKac
import Derived.Deep.RegionHeld3
import Derived.Shelf.Bytes.SlCountOne
import Derived.Test.YtpemghcafbedeaaGreatDoorProg
import Derived.WalkKit
import Derived.Handy
import Derived.Lib.Hide
import Derived.Below
import Derived.Deep.QuietTactic
import Derived.BigQuiet
import Derived.WalkSmall
import Derived.Deep.RegionLaw
set_option linter.all false
section
namespace Go.Proofs.YtpemghcafbedeaaGreatDoor
open Go.RowKit
theorem kind_letter (c : Int) : (kindF c == 3) = isLetter c := by
  unfold kindF
  by_cases h1 : isBlank c = true
  · have : c = 32 ∨ c = 9 ∨ c = 10 ∨ c = 13 := by simpa [isBlank, or_assoc] using h1
    rcases this with rfl | rfl | rfl | rfl <;> decide
  · by_cases h2 : c = 35
    · subst h2; decide
    · by_cases h3 : isLetter c = true
      · simp [h1, h2, h3]
      · simp only [h1, h2, h3]
        repeat' split
        all_goals simp_all
theorem mark_cases {c : Int} (h : isMark c = true) : c = 123 ∨ c = 125 ∨ c = 40 ∨ c = 41 ∨ c = 91 ∨ c = 93 ∨ c = 59 ∨ c = 44 ∨ c = 46 ∨ c = 43 ∨ c = 45 ∨ c = 42 ∨ c = 60 ∨ c = 61 := by
  simpa [isMark] using h
theorem kind_mark (c : Int) : (kindF c == 6) = isMark c := by
  by_cases h : isMark c = true
  · rcases mark_cases h with rfl | rfl | rfl | rfl | rfl | rfl | rfl | rfl | rfl | rfl | rfl | rfl | rfl | rfl <;> decide
  · have h' : isMark c = false := by simpa using h
    unfold kindF
    rw [h']
    repeat' split
    all_goals simp_all
def TokPost (xs : List Int) (i : Nat) (w : World) (e : Ending) (w' : World) : Prop :=
  (e = match step (xs.drop i) with
    | .err er => .returned (.tuple #[tokV 0 0 0 ⟨#[]⟩ 0, .int .i64 er])
    | .tok k l n => .returned (.tuple #[tokV k i ((i + l : Nat) : Int) (strOfNums ((xs.drop i).take l)) n, .int .i64 0])) ∧ Below w.heap.size w w'
theorem tokPost_tok {xs : List Int} {i l j : Nat} {w W : World} {k n : Int} {st : ByteArray} (hs : step (xs.drop i) = .tok k l n) (hj : j = i + l) (ht : strOfNums ((xs.drop i).take (j - i)) = st) (hb : Below w.heap.size w W) :
    TokPost xs i w (.returned (.tuple #[tokV k i j st n, .int .i64 0])) W := by
  subst ht
  refine ⟨?_, hb⟩
  rw [hs]
  subst hj
  rw [Nat.add_sub_cancel_left]
theorem tokPost_err {xs : List Int} {i : Nat} {w W : World} {er : Int} (hs : step (xs.drop i) = .err er) (hb : Below w.heap.size w W) :
    TokPost xs i w (.returned (.tuple #[tokV 0 0 0 ⟨#[]⟩ 0, .int .i64 er])) W := by
  refine ⟨?_, hb⟩
  rw [hs]
theorem word_keep (w : World) (p : Option Addr) (len c kb i e : Nat) (kd : Int) (xs : List Int) (h : SK w p len c kb xs) (hb : len ≤ 70000) (hi : i < e) (he : e ≤ len) (W : World) (hW : InT w p len c kb W) :
    Calls Tryz.prog 107 #[.agg #[.slice p len c, .func (.func 105) #[] #[.pointer (some ⟨kb, 0, none⟩)]], .int .u8 kd, .int .i64 i, .int .i64 e] W fun ev w' => ev = .returned (.agg #[.int .u8 kd, .int .i64 i, .int .i64 e, .string (strOfNums ((xs.drop i).take (e - i))), .int .i64 0]) ∧ InT w p len c kb w' :=
  (lexWord_at W p len c kb i e kd xs (h.on (Nat.le_refl _) hW.below) hb hi he).mono fun _ _ ⟨h1, h2⟩ => ⟨h1, hW.on h2⟩
theorem pastName_keep (w : World) (p : Option Addr) (len c kb i : Nat) (xs : List Int) (h : SK w p len c kb xs) (hb : len ≤ 70000) (hi : i ≤ len) (W : World) (hW : InT w p len c kb W) :
    Calls Tryz.prog 108 #[.agg #[.slice p len c, .func (.func 105) #[] #[.pointer (some ⟨kb, 0, none⟩)]], .int .i64 i] W fun ev w' => ev = .returned (.int .i64 ((i + run isNameB (xs.drop i) : Nat) : Int)) ∧ InT w p len c kb w' :=
  (pastName_at W p len c kb i xs (h.on (Nat.le_refl _) hW.below) hb hi).mono fun _ _ ⟨h1, h2⟩ => ⟨h1, hW.on h2⟩
theorem pastMark_keep (w : World) (p : Option Addr) (len c kb i : Nat) (xs : List Int) (h : SK w p len c kb xs) (hb : len ≤ 70000) (hi : i < len) (W : World) (hW : InT w p len c kb W) :
    Calls Tryz.prog 110 #[.agg #[.slice p len c, .func (.func 105) #[] #[.pointer (some ⟨kb, 0, none⟩)]], .int .i64 i] W fun ev w' => ev = .returned (.int .i64 ((i + (if xs.getD i 0 = 61 ∧ (xs.drop (i + 1)).head? = some 61 then 2 else 1) : Nat) : Int)) ∧ InT w p len c kb w' :=
  (pastMark_at W p len c kb i xs (h.on (Nat.le_refl _) hW.below) hb hi).mono fun _ _ ⟨h1, h2⟩ => ⟨h1, hW.on h2⟩
set_option maxHeartbeats 4000000 in
set_option maxRecDepth 1000000 in
theorem tokenAt_at (w : World) (p : Option Addr) (len c kb i : Nat) (xs : List Int) (h : SK w p len c kb xs) (hb : len ≤ 70000) (hi : i < len) :
    Calls Tryz.prog 52 #[.agg #[.slice p len c, .func (.func 105) #[] #[.pointer (some ⟨kb, 0, none⟩)]], .int .i64 i] w (TokPost xs i w) := by
  have hlen := Lib.hid h.len_eq
  have HI := Lib.hid (InT.start w p len c kb)
  have hsk := Lib.hid (h.on (Nat.le_refl _) HI.out.below)
  obtain ⟨b, off, rfl, hbl, hc⟩ := hsk.out.addr (by omega)
  have hcj := hc i hi
  have hby := hsk.out.byte i
  obtain ⟨m, hm⟩ : ∃ m : Nat, xs.getD i 0 = m := ⟨(xs.getD i 0).toNat, by omega⟩
  rw [hm] at hcj hby
  have HM := Lib.hid hm
  have hm256 : m < 256 := by omega
  have HK := Lib.hid (hsk.out.kinds m hm256)
  have HX := Lib.hid (drop_at xs i (by have := h.len_eq; omega))
  have KL := Lib.hid (kind_letter m)
  have KD := Lib.hid (kind_digit m)
  have KM := Lib.hid (kind_mark m)
  have HRn := Lib.hid (run_le isNameB (xs.drop i))
  have hpn := pastName_keep w (some ⟨b, off, none⟩) len c kb i xs h hb (by omega)
  have hpm := pastMark_keep w (some ⟨b, off, none⟩) len c kb i xs h hb hi
  have hpw := fun e kd (he : i < e) (he2 : e ≤ len) => word_keep w (some ⟨b, off, none⟩) len c kb i e kd xs h hb he he2
  have H := Lib.hid h
  have PN := Lib.hid hpn
  have PM := Lib.hid hpm
  have PW := Lib.hid hpw
  clear hc hbl hm hby hpn hpm hpw h
  go_enter Tryz.func52, Tryz.ntmps52
  go_wp2_with fail
  go_quiet (first | (go_at_call 105; refine Calls.quiet_of_same (kind_at _ kb m hm256 HK.out)))
  have HIn := Lib.hid (HI.out.on (drewN_below _ _ nq))
  have HId : InT w (some ⟨b, off, none⟩) len c kb ((scanW w (some ⟨b, off, none⟩) len c kb).drewN nq).drew := HIn.out.on (drewN_below _ _ 1)
  clear HK
  generalize kindF m = k at *
  by_cases k3 : k = 3
  · subst k3
    have hst : step (xs.drop i) = .tok 1 (run isNameB (xs.drop i)) 0 := by rw [HX.out, step, HM.out, if_pos (by simpa using KL.out.symm)]
    have hpos : i < i + run isNameB (xs.drop i) ∧ i + run isNameB (xs.drop i) ≤ len := by
      have h1 := (step_len hst).1
      have h2 := HRn.out
      rw [List.length_drop, hlen.out] at h2
      omega
    obtain ⟨j, hj⟩ : ∃ j, i + run isNameB (xs.drop i) = j := ⟨_, rfl⟩
    rw [hj] at hpos
    have PN0 := PN.out
    rw [hj] at PN0
    have PN1 := Lib.hid PN0
    have HJ := Lib.hid hj
    have HS := Lib.hid hst
    have PW1 := Lib.hid (PW.out j 1 hpos.1 hpos.2)
    clear PN0 hj hst PN PM PW
    generalize hst : strOfNums ((xs.drop i).take (j - i)) = st at *
    have HT := Lib.hid hst
    clear hst
    go_wp2_with fail
    go_region_held3 (fun w' => w'.cell? ⟨w.heap.size, 0, none⟩ = some (.slice (some ⟨b, off, none⟩) len c) ∧ w'.cell? ⟨w.heap.size, 1, none⟩ = some (.func (.func 105) #[] #[.pointer (some ⟨kb, 0, none⟩)]) ∧ InT w (some ⟨b, off, none⟩) len c kb w') (refine ⟨?_, ?_, ?_⟩ <;> (first | (with_reducible assumption) | go_keep | (repeat (with_reducible refine InT.set ?_ _ _)); with_reducible assumption))
      (first
        | (go_at_call 108; (with_reducible refine (PN1.out _ ?_).mono ?_); (assumption); rintro e w' ⟨rfl, q⟩; have q0 := q.b0; have q1 := q.b1)
        | (go_at_call 107; (with_reducible refine (PW1.out _ ?_).mono ?_); (assumption); rintro e w' ⟨rfl, q⟩; have q0 := q.b0; have q1 := q.b1; obtain ⟨v0, z0⟩ := q.t0; obtain ⟨v1, z1⟩ := q.t1; obtain ⟨v2, z2⟩ := q.t2; obtain ⟨v3, z3⟩ := q.t3; obtain ⟨v4, z4⟩ := q.t4; have y0 := q.f0; have y1 := q.f1; have y2 := q.f2; have y3 := q.f3; have y4 := q.f4))
    all_goals go_wp2
    all_goals simp [bodyPost, results, Tryz.results52, go_sem, z0, z1, z2, z3, z4]
    all_goals exact tokPost_tok HS.out HJ.out.symm HT.out (five q.below (by omega) _ _ _ _ _)
  · have k3' : (k == 3) = false := by simpa using k3
    by_cases k4 : k = 4
    · subst k4
      have hnl : ¬ (isLetter (m : Int) = true) := by rw [← KL.out]; simp
      have hdg : isDigit (m : Int) = true := by simpa using KD.out.symm
      have NA := lexNumber_at ((scanW w (some ⟨b, off, none⟩) len c kb).drewN nq) (some ⟨b, off, none⟩) len c kb i xs (hsk.out.on (Nat.le_refl _) (drewN_below _ _ nq)) hb hi (by rw [HM.out]; exact hdg)
      cases hn : numV 0 (xs.drop i) with
      | some n =>
        have hst : step (xs.drop i) = .tok 2 (run isDigit (xs.drop i)) n := by
          rw [HX.out, HM.out] at hn
          rw [HX.out, step, HM.out, if_neg hnl, if_pos hdg, hn]
        obtain ⟨j, hj⟩ : ∃ j, i + run isDigit (xs.drop i) = j := ⟨_, rfl⟩
        obtain ⟨st, ht⟩ : ∃ st, strOfNums ((xs.drop i).take (j - i)) = st := ⟨_, rfl⟩
        have NA1 := NA.mono (R' := fun e w' => e = .returned (.tuple #[tokV 2 i j st n, .int .i64 0]) ∧ InT w (some ⟨b, off, none⟩) len c kb w') (fun e w' h => ⟨by
          have h1 := h.1
          rw [hn] at h1
          rw [h1, ← ht, ← hj, Nat.add_sub_cancel_left], HIn.out.on h.2⟩)
        have HJ := Lib.hid hj
        have HS := Lib.hid hst
        have HT := Lib.hid ht
        have NA2 := Lib.hid NA1
        clear NA NA1 hj hst ht hn hnl hdg PN PM PW HId
        go_wp2_with fail
        (with_reducible refine NA2.out.mono ?_)
        rintro e w' ⟨rfl, q⟩
        obtain ⟨_, _, ⟨v0, z0⟩, ⟨v1, z1⟩, ⟨v2, z2⟩, ⟨v3, z3⟩, ⟨v4, z4⟩, y0, y1, y2, y3, y4, zs, zb⟩ := q
        have ZB := Lib.hid zb
        clear zb HI H NA2
        go_wp2
        simp [bodyPost, results, Tryz.results52, go_sem, z0, z1, z2, z3, z4]
        exact tokPost_tok HS.out HJ.out.symm HT.out (five ZB.out (by omega) _ _ _ _ _)
      | none =>
        have hst : step (xs.drop i) = .err 31 := by
          rw [HX.out, HM.out] at hn
          rw [HX.out, step, HM.out, if_neg hnl, if_pos hdg, hn]
        have NA1 := NA.mono (R' := fun e w' => e = .returned (.tuple #[tokV 0 0 0 ⟨#[]⟩ 0, .int .i64 31]) ∧ InT w (some ⟨b, off, none⟩) len c kb w') (fun e w' h => ⟨by
          have h1 := h.1
          rw [hn] at h1
          exact h1, HIn.out.on h.2⟩)
        have HS := Lib.hid hst
        have NA2 := Lib.hid NA1
        clear NA NA1 hst hn hnl hdg PN PM PW HId
        go_wp2_with fail
        (with_reducible refine NA2.out.mono ?_)
        rintro e w' ⟨rfl, q⟩
        obtain ⟨_, _, ⟨v0, z0⟩, ⟨v1, z1⟩, ⟨v2, z2⟩, ⟨v3, z3⟩, ⟨v4, z4⟩, y0, y1, y2, y3, y4, zs, zb⟩ := q
        have ZB := Lib.hid zb
        clear zb HI H NA2
        go_wp2
        simp [bodyPost, results, Tryz.results52, go_sem, z0, z1, z2, z3, z4]
        exact tokPost_err HS.out (five ZB.out (by omega) _ _ _ _ _)
    · have k4' : (k == 4) = false := by simpa using k4
      by_cases k6 : k = 6
      · subst k6
        have hst : step (xs.drop i) = .tok 3 (if xs.getD i 0 = 61 ∧ (xs.drop (i + 1)).head? = some 61 then 2 else 1) 0 := by
          rw [HX.out, step, HM.out, if_neg (by rw [← KL.out]; simp), if_neg (by rw [← KD.out]; simp), if_pos (by simpa using KM.out.symm)]
        have hpos : i < i + (if xs.getD i 0 = 61 ∧ (xs.drop (i + 1)).head? = some 61 then 2 else 1) ∧ i + (if xs.getD i 0 = 61 ∧ (xs.drop (i + 1)).head? = some 61 then 2 else 1) ≤ len := by
          have h1 := step_len hst
          rw [List.length_drop, hlen.out] at h1
          omega
        obtain ⟨j, hj⟩ : ∃ j, i + (if xs.getD i 0 = 61 ∧ (xs.drop (i + 1)).head? = some 61 then 2 else 1) = j := ⟨_, rfl⟩
        rw [hj] at hpos
        have PN0 := PM.out
        rw [hj] at PN0
        have PN1 := Lib.hid PN0
        have HJ := Lib.hid hj
        have HS := Lib.hid hst
        have PW1 := Lib.hid (PW.out j 3 hpos.1 hpos.2)
        clear PN0 hj hst PN PM PW
        generalize hst : strOfNums ((xs.drop i).take (j - i)) = st at *
        have HT := Lib.hid hst
        clear hst
        go_wp2_with fail
        go_region_held3 (fun w' => w'.cell? ⟨w.heap.size, 0, none⟩ = some (.slice (some ⟨b, off, none⟩) len c) ∧ w'.cell? ⟨w.heap.size, 1, none⟩ = some (.func (.func 105) #[] #[.pointer (some ⟨kb, 0, none⟩)]) ∧ InT w (some ⟨b, off, none⟩) len c kb w') (refine ⟨?_, ?_, ?_⟩ <;> (first | (with_reducible assumption) | go_keep | (repeat (with_reducible refine InT.set ?_ _ _)); with_reducible assumption))
          (first
            | (go_at_call 110; (with_reducible refine (PN1.out _ ?_).mono ?_); (assumption); rintro e w' ⟨rfl, q⟩; have q0 := q.b0; have q1 := q.b1)
            | (go_at_call 107; (with_reducible refine (PW1.out _ ?_).mono ?_); (assumption); rintro e w' ⟨rfl, q⟩; have q0 := q.b0; have q1 := q.b1; obtain ⟨v0, z0⟩ := q.t0; obtain ⟨v1, z1⟩ := q.t1; obtain ⟨v2, z2⟩ := q.t2; obtain ⟨v3, z3⟩ := q.t3; obtain ⟨v4, z4⟩ := q.t4; have y0 := q.f0; have y1 := q.f1; have y2 := q.f2; have y3 := q.f3; have y4 := q.f4))

        all_goals go_wp2
        all_goals simp [bodyPost, results, Tryz.results52, go_sem, z0, z1, z2, z3, z4]
        all_goals exact tokPost_tok HS.out HJ.out.symm HT.out (five q.below (by omega) _ _ _ _ _)
      · have k6' : (k == 6) = false := by simpa using k6
        obtain ⟨_, _, ⟨v0, z0⟩, ⟨v1, z1⟩, ⟨v2, z2⟩, ⟨v3, z3⟩, ⟨v4, z4⟩, y0, y1, y2, y3, y4, zs, zb⟩ := HIn.out
        have ZB := Lib.hid zb
        clear zb HI H
        go_wp2
        simp [bodyPost, results, Tryz.results52, go_sem, z0, z1, z2, z3, z4]
        refine tokPost_err ?_ (five ZB.out (by omega) _ _ _ _ _)
        rw [HX.out, step, HM.out, if_neg (by rw [← KL.out]; simp [k3']), if_neg (by rw [← KD.out]; simp [k4']), if_neg (by rw [← KM.out]; simp [k6'])]
end Go.Proofs.YtpemghcafbedeaaGreatDoor
end
section
namespace Go.Proofs.YtpemghcafbedeaaGreatDoor
open Go.Lib
def lineF (xs : List Int) : Nat → Nat
  | 0 => 1
  | k + 1 => if xs.getD k 0 = 10 then lineF xs k + 1 else lineF xs k
def lastF (xs : List Int) : Nat → Int
  | 0 => -1
  | k + 1 => if xs.getD k 0 = 10 then (k : Int) else lastF xs k
theorem last_bd (xs : List Int) (k : Nat) : -1 ≤ lastF xs k ∧ lastF xs k < k := by
  induction k with
  | zero => simp [lastF]
  | succ k ih => unfold lastF; split <;> omega
theorem line_bd (xs : List Int) (k : Nat) : 1 ≤ lineF xs k ∧ lineF xs k ≤ k + 1 := by
  induction k with
  | zero => simp [lineF]
  | succ k ih => unfold lineF; split <;> omega
theorem line_mono (xs : List Int) (j d : Nat) : lineF xs j ≤ lineF xs (j + d) ∧ (lineF xs j = lineF xs (j + d) → lastF xs j = lastF xs (j + d)) := by
  induction d with
  | zero => simp
  | succ d ih =>
    rw [show j + (d + 1) = (j + d) + 1 from rfl, lineF, lastF]
    split
    · exact ⟨by omega, fun h => by omega⟩
    · exact ih
theorem places (xs : List Int) (j k : Nat) (h : j < k) : lineF xs j < lineF xs k ∨ (lineF xs j = lineF xs k ∧ (j : Int) - lastF xs j < k - lastF xs k) := by
  obtain ⟨d, rfl⟩ : ∃ d, k = j + d := ⟨k - j, by omega⟩
  have := line_mono xs j d
  rcases Nat.lt_or_ge (lineF xs j) (lineF xs (j + d)) with h1 | h1
  · exact Or.inl h1
  · have e : lineF xs j = lineF xs (j + d) := by omega
    exact Or.inr ⟨e, by have := this.2 e; omega⟩
theorem count_line (xs : List Int) (hr : ∀ i, 0 ≤ xs.getD i 0 ∧ xs.getD i 0 < 256) (k : Nat) (hk : k ≤ xs.length) :
    1 + ((countByte (bytesOf (xs.take k)) (10 : Int).toNat.toUInt8 : Nat) : Int) = lineF xs k := by
  induction k with
  | zero => rfl
  | succ k ih =>
    have ih := ih (by omega)
    have ht : xs.take (k + 1) = xs.take k ++ [xs.getD k 0] := by
      rw [List.take_succ_eq_append_getElem (by omega)]
      simp [List.getD, List.getElem?_eq_getElem (show k < xs.length by omega)]
    rw [ht, lineF]
    obtain ⟨h0, h1⟩ := hr k
    generalize xs.getD k 0 = c at h0 h1
    have hb : ∀ l : List Int, bytesOf (l ++ [c]) = bytesOf l ++ [c.toNat.toUInt8] := by intro l; simp [bytesOf]
    have hcb : ∀ l : List UInt8, ∀ x y : UInt8, countByte (l ++ [x]) y = countByte l y + if x = y then 1 else 0 := by
      intro l x y
      simp only [countByte, List.count_append, List.count_singleton]
      by_cases h : x = y <;> simp [h]
    rw [hb, hcb]
    have : c.toNat.toUInt8 = (10 : Int).toNat.toUInt8 ↔ c = 10 := by
      constructor
      · intro h
        have := congrArg UInt8.toNat h
        simp at this
        omega
      · rintro rfl; rfl
    by_cases h : c = 10
    · rw [if_pos (this.2 h), if_pos h]; omega
    · rw [if_neg (fun h' => h (this.1 h')), if_neg h]; omega
end Go.Proofs.YtpemghcafbedeaaGreatDoor
end
section
namespace Go.Proofs.YtpemghcafbedeaaGreatDoor
open Go.RowKit Go.Lib
theorem ret_i64 {a b : Int} (h : a = b) : Ending.returned (.int .i64 a) = .returned (.int .i64 b) := by rw [h]
set_option maxHeartbeats 1000000 in
theorem count_at (b off n c d : Nat) (xs : List Int) (w : World) (hn : xs.length = n) (hc : ∀ i, i < n → w.cell? ⟨b, off + i, none⟩ = some (.int .u8 (xs.getD i 0))) (hs : w.cell? ⟨d, 0, none⟩ = some (.int .u8 10)) :
    Calls Tryz.prog 69 #[.slice (some ⟨b, off, none⟩) n c, .slice (some ⟨d, 0, none⟩) 1 1] w fun e w' => e = .returned (.int .i64 (countByte (bytesOf xs) (10 : Int).toNat.toUInt8)) ∧ w = w' := by
  have h26 := @run_callFunc_extern Tryz.prog 126 _ Extern.BytealgCount.count Tryz.func126 (by kernel_rfl) (by kernel_rfl) (by kernel_rfl) (by kernel_rfl)
  have hr := run_countSlice (P := Tryz.prog) w b off n c xs hn hc 10
  generalize countByte (bytesOf xs) (10 : Int).toNat.toUInt8 = m at *
  clear hc hn
  go_enter Tryz.func69, Tryz.ntmps69
  go_wp2
  go_ret
  exact ⟨rfl, rfl⟩
set_option maxHeartbeats 1000000 in
theorem count_nil (d : Nat) (w : World) (hs : w.cell? ⟨d, 0, none⟩ = some (.int .u8 10)) :
    Calls Tryz.prog 69 #[.slice none 0 0, .slice (some ⟨d, 0, none⟩) 1 1] w fun e w' => e = .returned (.int .i64 0) ∧ w = w' := by
  have h26 := @run_callFunc_extern Tryz.prog 126 _ Extern.BytealgCount.count Tryz.func126 (by kernel_rfl) (by kernel_rfl) (by kernel_rfl) (by kernel_rfl)
  have hr := run_countNil (P := Tryz.prog) w 0 0 10
  go_enter Tryz.func69, Tryz.ntmps69
  go_wp2
  go_ret
  exact ⟨rfl, rfl⟩
theorem last_nil (w : World) :
    Calls Tryz.prog 70 #[.slice none 0 0, .int .u8 10] w fun e w' => e = .returned (.int .i64 (-1)) ∧ w = w' := by
  go_enter Tryz.func70, Tryz.ntmps70
  go_wp2
  refine wp_loop_rounds 1 ?_
  rw [rounds_succ]
  go_wp2
  go_ret
  exact ⟨rfl, rfl⟩
set_option maxHeartbeats 1000000 in
theorem last_in (b off n c : Nat) (xs : List Int) (w : World) (_hn : n ≤ xs.length) (hb : n ≤ 70000) (hc : ∀ i, i < n → w.cell? ⟨b, off + i, none⟩ = some (.int .u8 (xs.getD i 0))) :
    Calls Tryz.prog 128 #[.slice (some ⟨b, off, none⟩) n c, .int .u8 10] w fun e w' => e = .returned (.int .i64 (lastF xs n)) ∧ w = w' := by
  have HC := Lib.hid hc
  clear hc
  go_enter Tryz.func128, Tryz.ntmps128
  go_wp2
  go_loop [5] (fun i => ∃ m : Nat, m ≤ n ∧ i = .int .i64 ((m : Int) - 1) ∧ lastF xs n = lastF xs m) (fun i => (RowKit.intOf i + 1).toNat)
  case atStart => exact ⟨n, Nat.le_refl _, rfl, rfl⟩
  case round =>
    obtain ⟨m, hm, rfl, he⟩ := hrel
    have HE := Lib.hid he
    clear he
    cases m with
    | zero =>
      go_wp2
      go_ret
      exact ⟨by rw [HE.out]; rfl, rfl⟩
    | succ m =>
      have hcell := HC.out m (by omega)
      obtain ⟨y, hy⟩ : ∃ y, xs.getD m 0 = y := ⟨_, rfl⟩
      rw [hy] at hcell
      have HY := Lib.hid hy
      clear hy
      rw [show ((m + 1 : Nat) : Int) - 1 = (m : Int) by omega]
      by_cases h10 : y = 10
      · subst h10
        go_wp2
        go_ret
        exact ⟨ret_i64 (by rw [HE.out, lastF, if_pos HY.out]), rfl⟩
      · have hd : (y == 10) = false := by simpa using h10
        go_wp2
        go_round
        case rel => exact ⟨m, by omega, by go_num, by rw [HE.out, lastF, if_neg (by rw [HY.out]; exact h10)]⟩
        case measure => simp only [RowKit.intOf]; omega
theorem last_at (b off n c : Nat) (xs : List Int) (w : World) (hn : n ≤ xs.length) (hb : n ≤ 70000) (hc : ∀ i, i < n → w.cell? ⟨b, off + i, none⟩ = some (.int .u8 (xs.getD i 0))) :
    Calls Tryz.prog 70 #[.slice (some ⟨b, off, none⟩) n c, .int .u8 10] w fun e w' => e = .returned (.int .i64 (lastF xs n)) ∧ w = w' := by
  have H := last_in b off n c xs w hn hb hc
  clear hc hn
  generalize lastF xs n = r at *
  go_enter Tryz.func70, Tryz.ntmps70
  go_wp2_with (go_at_call 128; refine H.mono ?_; rintro e' w' ⟨rfl, rfl⟩)
  go_ret
  exact ⟨rfl, rfl⟩
set_option maxHeartbeats 1000000 in
theorem new_nil (at' n : Int) (w : World) (h0 : n ≠ 0) :
    Calls Tryz.prog 36 #[.slice none 0 0, .int .i64 at', .int .i64 n] w fun e w' => e = .returned (.iface 86 (.pointer (some ⟨w.heap.size + 1, 0, none⟩))) ∧ w' = (w.alloc (.cells #[.int .u8 10] 5)).alloc (.cells #[.int .i64 0, .int .i64 1, .int .i64 1, .int .i64 n] 90) := by
  have hz : (n == 0) = false := by simpa using h0
  have hm : min (max at' 0) 0 = 0 := by omega
  go_enter Tryz.func36, Tryz.ntmps36
  go_wp2_with (first | (go_at_call 69; (with_reducible refine (count_nil _ _ (by simp)).mono ?_); rintro e' w' ⟨rfl, rfl⟩) | (go_at_call 70; (with_reducible refine (last_nil _).mono ?_); rintro e' w' ⟨rfl, rfl⟩))
  go_ret
  exact ⟨rfl, rfl⟩
set_option maxHeartbeats 1000000 in
theorem new_at (b off len c k : Nat) (xs : List Int) (at' n : Int) (w : World) (h0 : n ≠ 0) (hl : xs.length = len) (hcap : len ≤ c) (hb : len ≤ 70000) (hk : min (max at' 0) (len : Int) = (k : Int))
    (hr : ∀ i, 0 ≤ xs.getD i 0 ∧ xs.getD i 0 < 256) (hc : ∀ i, i < len → w.cell? ⟨b, off + i, none⟩ = some (.int .u8 (xs.getD i 0))) (hbl : b < w.heap.size) :
    Calls Tryz.prog 36 #[.slice (some ⟨b, off, none⟩) len c, .int .i64 at', .int .i64 n] w fun e w' => e = .returned (.iface 86 (.pointer (some ⟨w.heap.size + 1, 0, none⟩))) ∧ w' = (w.alloc (.cells #[.int .u8 10] 5)).alloc (.cells #[.int .i64 k, .int .i64 (lineF xs k), .int .i64 ((k : Int) - lastF xs k), .int .i64 n] 90) := by
  have hz : (n == 0) = false := by simpa using h0
  have hkl : k ≤ len := by omega
  have hlb := last_bd xs k
  have hlbd := line_bd xs k
  have hcl := count_line xs hr k (by omega)
  have HA : ∀ i, i < k → (w.alloc (.cells #[.int .u8 10] 5)).cell? ⟨b, off + i, none⟩ = some (.int .u8 (xs.getD i 0)) := fun i hi => by rw [World.cell?_alloc_lt _ _ _ hbl]; exact hc i (by omega)
  have H1 := count_at b off k c w.heap.size (xs.take k) (w.alloc (.cells #[.int .u8 10] 5)) (by simp; omega) (fun i hi => by rw [HA i hi]; simp [List.getD, hi]) (by simp)
  have H2 := last_at b off k c xs (w.alloc (.cells #[.int .u8 10] 5)) (by omega) (by omega) HA
  clear HA hc hr
  generalize countByte (bytesOf (xs.take k)) (10 : Int).toNat.toUInt8 = cnt at *
  have hcn : (lineF xs k : Int) = 1 + cnt := hcl.symm
  have hcnt : cnt ≤ 70000 := by omega
  rw [hcn]
  generalize lineF xs k = L at *
  generalize lastF xs k = R at *
  clear hl hcl hcn
  clear hlbd
  go_enter Tryz.func36, Tryz.ntmps36
  go_wp2_with (first | (go_at_call 69; (with_reducible refine H1.mono ?_); rintro e' w' ⟨rfl, rfl⟩) | (go_at_call 70; (with_reducible refine H2.mono ?_); rintro e' w' ⟨rfl, rfl⟩))
  go_ret
  exact ⟨rfl, rfl⟩
set_option maxHeartbeats 1000000 in
theorem count_none (a : Addr) (d : Nat) (w : World) (hs : w.cell? ⟨d, 0, none⟩ = some (.int .u8 10)) :
    Calls Tryz.prog 69 #[.slice (some a) 0 0, .slice (some ⟨d, 0, none⟩) 1 1] w fun e w' => e = .returned (.int .i64 0) ∧ w = w' := by
  have h26 := @run_callFunc_extern Tryz.prog 126 _ Extern.BytealgCount.count Tryz.func126 (by kernel_rfl) (by kernel_rfl) (by kernel_rfl) (by kernel_rfl)
  have hr : (Extern.BytealgCount.count #[.slice (some a) 0 0, .int .u8 10]).run Tryz.prog w = .ok (.int .i64 0) w := run_countAt (P := Tryz.prog) w a 0 0 [] rfl (fun i hi => by omega) 10
  go_enter Tryz.func69, Tryz.ntmps69
  go_wp2
  go_ret
  exact ⟨rfl, rfl⟩
theorem last_none (a : Addr) (w : World) :
    Calls Tryz.prog 70 #[.slice (some a) 0 0, .int .u8 10] w fun e w' => e = .returned (.int .i64 (-1)) ∧ w = w' := by
  go_enter Tryz.func70, Tryz.ntmps70
  go_wp2
  refine wp_loop_rounds 1 ?_
  rw [rounds_succ]
  go_wp2
  go_ret
  exact ⟨rfl, rfl⟩
set_option maxHeartbeats 1000000 in
theorem new_none (a : Addr) (at' n : Int) (w : World) (h0 : n ≠ 0) :
    Calls Tryz.prog 36 #[.slice (some a) 0 0, .int .i64 at', .int .i64 n] w fun e w' => e = .returned (.iface 86 (.pointer (some ⟨w.heap.size + 1, 0, none⟩))) ∧ w' = (w.alloc (.cells #[.int .u8 10] 5)).alloc (.cells #[.int .i64 0, .int .i64 1, .int .i64 1, .int .i64 n] 90) := by
  have hz : (n == 0) = false := by simpa using h0
  have hm : min (max at' 0) 0 = 0 := by omega
  go_enter Tryz.func36, Tryz.ntmps36
  go_wp2_with (first | (go_at_call 69; (with_reducible refine (count_none _ _ _ (by simp)).mono ?_); rintro e' w' ⟨rfl, rfl⟩) | (go_at_call 70; (with_reducible refine (last_none _ _).mono ?_); rintro e' w' ⟨rfl, rfl⟩))
  go_ret
  exact ⟨rfl, rfl⟩
end Go.Proofs.YtpemghcafbedeaaGreatDoor
end
section
namespace Go.Proofs.YtpemghcafbedeaaGreatDoor
open Go.RowKit

structure NewW (w W : World) (x l c n : Int) : Prop where
  below : Below w.heap.size w W
  size : w.heap.size + 1 < W.heap.size
  c0 : W.cell? ⟨w.heap.size + 1, 0, none⟩ = some (.int .i64 x)
  c1 : W.cell? ⟨w.heap.size + 1, 1, none⟩ = some (.int .i64 l)
  c2 : W.cell? ⟨w.heap.size + 1, 2, none⟩ = some (.int .i64 c)
  c3 : W.cell? ⟨w.heap.size + 1, 3, none⟩ = some (.int .i64 n)
theorem newW_mk (w : World) (x l c n : Int) : NewW w ((w.alloc (.cells #[.int .u8 10] 5)).alloc (.cells #[.int .i64 x, .int .i64 l, .int .i64 c, .int .i64 n] 90)) x l c n :=
  { below := ((Below.refl _ _).alloc (Nat.le_refl _) _).alloc (by simp) _, size := by simp, c0 := by simp, c1 := by simp, c2 := by simp, c3 := by simp }
def Src (w : World) (p : Option Addr) (len c : Nat) (xs : List Int) : Prop :=
  xs.length = len ∧ (∀ i, 0 ≤ xs.getD i 0 ∧ xs.getD i 0 < 256) ∧ ((len = 0 ∧ c = 0) ∨ ∃ b off, p = some ⟨b, off, none⟩ ∧ len ≤ c ∧ b < w.heap.size ∧ ∀ i, i < len → w.cell? ⟨b, off + i, none⟩ = some (.int .u8 (xs.getD i 0)))
theorem Src.below {w W : World} {p : Option Addr} {len c : Nat} {xs : List Int} (h : Src w p len c xs) (hb : Below w.heap.size w W) : Src W p len c xs := by
  obtain ⟨h1, h2, h3⟩ := h
  refine ⟨h1, h2, ?_⟩
  rcases h3 with h3 | ⟨b, off, e, hc, hl, hx⟩
  · exact Or.inl h3
  · exact Or.inr ⟨b, off, e, hc, Nat.lt_of_lt_of_le hl hb.size, fun i hi => by rw [hb.cell (p := ⟨b, off + i, none⟩) hl]; exact hx i hi⟩
theorem new_src (p : Option Addr) (len c k : Nat) (xs : List Int) (at' n : Int) (w : World) (h0 : n ≠ 0) (hb : len ≤ 70000) (hk : min (max at' 0) (len : Int) = (k : Int)) (hs : Src w p len c xs) :
    Calls Tryz.prog 36 #[.slice p len c, .int .i64 at', .int .i64 n] w fun e w' => e = .returned (.iface 86 (.pointer (some ⟨w.heap.size + 1, 0, none⟩))) ∧ NewW w w' k (lineF xs k) ((k : Int) - lastF xs k) n := by
  obtain ⟨h1, h2, h3⟩ := hs
  rcases h3 with ⟨rfl, rfl⟩ | ⟨b, off, rfl, hc, hl, hx⟩
  · obtain rfl : k = 0 := by omega
    cases p with
    | none =>
      refine (new_nil at' n w h0).mono ?_
      rintro e w' ⟨rfl, rfl⟩
      exact ⟨rfl, newW_mk w _ _ _ n⟩
    | some a =>
      refine (new_none a at' n w h0).mono ?_
      rintro e w' ⟨rfl, rfl⟩
      exact ⟨rfl, newW_mk w _ _ _ n⟩
  · refine (new_at b off len c k xs at' n w h0 h1 hc hb hk h2 hx hl).mono ?_
    rintro e w' ⟨rfl, rfl⟩
    exact ⟨rfl, newW_mk w _ _ _ n⟩
end Go.Proofs.YtpemghcafbedeaaGreatDoor
end
section
namespace Go.Proofs.YtpemghcafbedeaaGreatDoor
open Go.RowKit
theorem beq_str (a b : ByteArray) : (a.toList == b.toList) = decide (a = b) := by
  rw [ByteArray.toList_eq, ByteArray.toList_eq]
  by_cases h : a = b
  · subst h; simp
  · rw [decide_eq_false h]
    have : a.data.toList ≠ b.data.toList := fun e => h (by
      obtain ⟨⟨a⟩⟩ := a
      obtain ⟨⟨b⟩⟩ := b
      simp only at e
      rw [e])
    simpa using this
abbrev tokA (t : PT) (sp : Nat) : Value := .agg #[.int .u8 t.kind, .int .i64 (t.at' : Int), .int .i64 (sp : Int), .string t.txt, .int .i64 t.n]
theorem tok_f0 (k a b n : Int) (s : ByteArray) (W : World) : (Instr.field 45 (.agg #[.int .u8 k, .int .i64 a, .int .i64 b, .string s, .int .i64 n]) 0).run Tryz.prog W = .ok (.int .u8 k) W := by kernel_rfl
theorem tok_f1 (k a b n : Int) (s : ByteArray) (W : World) : (Instr.field 45 (.agg #[.int .u8 k, .int .i64 a, .int .i64 b, .string s, .int .i64 n]) 1).run Tryz.prog W = .ok (.int .i64 a) W := by kernel_rfl
theorem tok_f3 (k a b n : Int) (s : ByteArray) (W : World) : (Instr.field 45 (.agg #[.int .u8 k, .int .i64 a, .int .i64 b, .string s, .int .i64 n]) 3).run Tryz.prog W = .ok (.string s) W := by kernel_rfl
section
variable {E : Env} {v : Value} {kvs : List Value} {md : List Nd} {r : Nat} {l : List PT} {w : World}
theorem PS.head (h : PS E v kvs md r l w) : ∃ (i : Nat) (t : PT) (l' : List PT) (sp : Nat), l = t :: l' ∧ l' = E.pts.drop (i + 1) ∧ i < E.toks.length ∧ w.heap[E.b]? = some (.cells #[.slice (some ⟨E.g, 0, none⟩) E.toks.length E.cap, .int .i64 (i : Int), .int .i64 (64 - (r : Int)), E.mp, v] 73 (0, 0)) ∧
    w.cell? ⟨E.g, i * 5, none⟩ = some (.int .u8 t.kind) ∧ w.cell? ⟨E.g, i * 5 + 1, none⟩ = some (.int .i64 (t.at' : Int)) ∧ w.cell? ⟨E.g, i * 5 + 2, none⟩ = some (.int .i64 (sp : Int)) ∧ w.cell? ⟨E.g, i * 5 + 3, none⟩ = some (.string t.txt) ∧ w.cell? ⟨E.g, i * 5 + 4, none⟩ = some (.int .i64 t.n) := by
  obtain ⟨i, hl, hc⟩ := h.nx
  obtain ⟨t, l', he⟩ := h.ended.pos
  have hi : i < E.pts.length := by
    rcases Nat.lt_or_ge i E.pts.length with h1 | h1
    · exact h1
    · rw [List.drop_eq_nil_of_le h1] at hl; rw [hl] at he; simp at he
  have hi2 : i < E.toks.length := by simpa [Env.pts] using hi
  have hd := List.drop_eq_getElem_cons hi
  rw [← hl, he, List.cons.injEq] at hd
  have ht : t = ptOf (E.toks.getD i (Tok.endAt 0)) := by
    rw [hd.1]
    simp [Env.pts, List.getD, hi2]
  refine ⟨i, t, l', (E.toks.getD i (Tok.endAt 0)).stop, he, hd.2, hi2, hc, ?_, ?_, ?_, ?_, ?_⟩
  · rw [ht]; exact h.tok i 0 _ hi2 rfl
  · rw [ht]; exact h.tok i 1 _ hi2 rfl
  · exact h.tok i 2 _ hi2 rfl
  · rw [ht]; exact h.tok i 3 _ hi2 rfl
  · rw [ht]; exact h.tok i 4 _ hi2 rfl
theorem PS.next {t : PT} {i : Nat} {l' : List PT} (h : PS E v kvs md r (t :: l') w) (ht : t.kind ≠ 4 ∨ t.txt ≠ none0) (hl : l' = E.pts.drop (i + 1)) (hc : w.heap[E.b]? = some (.cells #[.slice (some ⟨E.g, 0, none⟩) E.toks.length E.cap, .int .i64 (i : Int), .int .i64 (64 - (r : Int)), E.mp, v] 73 (0, 0))) :
    PS E v kvs md r l' (w.setCell ⟨E.b, 1, none⟩ (.int .i64 ((i : Int) + 1))) where
  below := h.below.setCell (p := ⟨E.b, 1, none⟩) (Nat.le_refl _) _
  lt := by simpa [World.setCell] using h.lt
  gl := h.gl
  cap := h.cap
  tok := fun j k u hj hk => by
    have := h.gl
    rw [World.cell?_of_block (w := w) (a := ⟨E.g, j * 5 + k, none⟩) (Below.heap_setCell _ _ _ _ (show E.g ≠ E.b by omega))]
    exact h.tok j k u hj hk
  nx := ⟨i + 1, hl, by rw [heap_set _ _ _ _ _ _ hc]; rfl⟩
  r64 := h.r64
  ended := h.ended.tail ht
  few := h.few
  room := by have := h.room; simp only [List.length_cons] at this; omega
  klen := h.klen
  own := h.own.kept (grownBy_set w _ _) (by
    cases hv : v.ownBlock with
    | none => exact Or.inl rfl
    | some k => exact Or.inr (fun e => by have := h.vlt k hv; have e := Option.some.inj e; simp only at e; omega))
  kids := fun j hj => (h.kids j hj).grown (grownBy_set w _ _) (by
    cases hv : (kvs.getD j default).ownBlock with
    | none => exact Or.inl rfl
    | some k => exact Or.inr (fun e => by have := (h.kids j hj).lt k hv; have e := Option.some.inj e; simp only at e; omega))
  apart := h.apart
  pair := h.pair
theorem Fr.setB {v' : Value} {B : Nat} {w1 : World} (h : Fr E B v v' w w1) (i : Nat) (u : Value) : Fr E B v v' w (w1.setCell ⟨E.b, i, none⟩ u) :=
  ⟨h.os, h.tape, h.output, by have := h.size; simpa [World.setCell] using this, fun k hk hb hv => (Below.heap_setCell w1 ⟨E.b, i, none⟩ u k hb).trans (h.block k hk hb hv), h.grow⟩
theorem grownBy_drewN (w : World) (n : Nat) : w.grownBy (w.drewN n) none := ⟨rfl, rfl, rfl, Nat.le_refl _, fun _ _ _ => rfl⟩
theorem PS.drewN (h : PS E v kvs md r l w) (n : Nat) : PS E v kvs md r l (w.drewN n) := h.grown (grownBy_drewN w n) (fun _ e => by cases e)
theorem PS.drew (h : PS E v kvs md r l w) : PS E v kvs md r l w.drew := h.drewN 1
theorem Fr.drew {B : Nat} {v' : Value} {w1 : World} (h : Fr E B v v' w w1) : Fr E B v v' w w1.drew := h.drewN 1
def PeekP (E : Env) (v : Value) (kvs : List Value) (md : List Nd) (r : Nat) (l : List PT) (w : World) (e : Ending) (w' : World) : Prop := ∃ t l' sp, l = t :: l' ∧ e = .returned (tokA t sp) ∧ PS E v kvs md r l w' ∧ Fr E w.heap.size v v w w'
def NextP (E : Env) (v : Value) (kvs : List Value) (md : List Nd) (r : Nat) (l : List PT) (w : World) (s : ByteArray) (e : Ending) (w' : World) : Prop := ∃ t l', l = t :: l' ∧ e = .returned (.bool (decide (t.txt = s))) ∧ PS E v kvs md r l w' ∧ Fr E w.heap.size v v w w'
set_option maxRecDepth 1000000 in
set_option maxHeartbeats 1000000 in
theorem peek_at (h : PS E v kvs md r l w) : Calls Tryz.prog 84 #[.pointer (some ⟨E.b, 0, none⟩)] w (PeekP E v kvs md r l w) := by
  obtain ⟨i, t, l', sp, hl, _, hi, hb, k0, k1, k2, k3, k4⟩ := h.head
  have c0 := cell_of_row w E.b 0 _ _ _ hb
  have c1 := cell_of_row w E.b 1 _ _ _ hb
  simp only [List.getElem?_toArray, List.getElem?_cons_zero, List.getElem?_cons_succ] at c0 c1
  clear hb
  have hcap := h.cap
  have HS := Lib.hid h
  have HL := Lib.hid hl
  clear h hl
  have hlt := HS.out.lt
  have hgl := HS.out.gl
  have hg2 : E.g < w.heap.size := by omega
  go_enter Tryz.func84, Tryz.ntmps84
  go_wp2_with fail
  go_region
  go_wp2
  simp [bodyPost, results, Tryz.results84, go_sem]
  exact ⟨t, l', sp, HL.out, rfl, (HS.out.alloc _).drew, ((Fr.refl _ _ _ _).alloc (Nat.le_refl _) _).drew⟩
structure Same (E : Env) (v : Value) (kvs : List Value) (md : List Nd) (r : Nat) (l : List PT) (w w' : World) : Prop where
  ps : PS E v kvs md r l w'
  fr : Fr E w.heap.size v v w w'
set_option maxRecDepth 1000000 in
set_option maxHeartbeats 1000000 in
theorem isNext_at (h : PS E v kvs md r l w) (s : ByteArray) : Calls Tryz.prog 85 #[.pointer (some ⟨E.b, 0, none⟩), .string s] w (NextP E v kvs md r l w s) := by
  have PK := Lib.hid (peek_at h)
  have fl := tok_f3
  clear h
  go_enter Tryz.func85, Tryz.ntmps85
  go_wp2_with fail
  (with_reducible refine PK.out.mono ?_)
  rintro e w1 ⟨t, l', sp, hl, rfl, hs, hf⟩
  have HL := Lib.hid hl
  have HS := Lib.hid hs
  have HF := Lib.hid hf
  clear hl hs hf PK
  simp only [tokA]
  have HB := Lib.hid (beq_str t.txt s)
  go_wp2
  rw [HB.out]
  go_ret
  exact ⟨t, l', HL.out, rfl, HS.out, HF.out⟩
def PostE {α : Type} (E : Env) (res : Res α) (ok : α → List PT → Ending → World → Prop) (e : Ending) (w' : World) : Prop :=
  match res with
  | .err p c => e = .panicked [{ v := .iface 68 (.agg #[.int .i64 (p : Int), .int .i64 c]), recovered := false }] ∧ Below E.b E.W w'
  | .ok a l' => ok a l' e w'
theorem post_err {α : Type} {E : Env} {res : Res α} {ok : α → List PT → Ending → World → Prop} {f : Nat} {args : Array Value} {w : World} (T : Calls Tryz.prog f args w (PostE E res ok)) {p : Nat} {c : Int} (hx : res = .err p c) :
    Calls Tryz.prog f args w fun e w' => e = .panicked [{ v := .iface 68 (.agg #[.int .i64 (p : Int), .int .i64 c]), recovered := false }] ∧ Below E.b E.W w' := T.mono fun e w' h => by rw [hx] at h; exact h
theorem post_ok {α : Type} {E : Env} {res : Res α} {ok : α → List PT → Ending → World → Prop} {f : Nat} {args : Array Value} {w : World} (T : Calls Tryz.prog f args w (PostE E res ok)) {a : α} {l' : List PT} (hx : res = .ok a l') :
    Calls Tryz.prog f args w (ok a l') := T.mono fun e w' h => by rw [hx] at h; exact h
theorem of_err {α : Type} {E : Env} {res : Res α} {ok : α → List PT → Ending → World → Prop} {w' : World} {p : Nat} {c : Int} (hx : res = .err p c) (hb : Below E.b E.W w') :
    PostE E res ok (.panicked [{ v := .iface 68 (.agg #[.int .i64 (p : Int), .int .i64 c]), recovered := false }]) w' := by rw [hx]; exact ⟨rfl, hb⟩
theorem of_ok {α : Type} {E : Env} {res : Res α} {ok : α → List PT → Ending → World → Prop} {e : Ending} {w' : World} {a : α} {l' : List PT} (hx : res = .ok a l') (h : ok a l' e w') : PostE E res ok e w' := by rw [hx]; exact h
def RefP (E : Env) (l : List PT) (c : Int) (e : Ending) (w' : World) : Prop := ∃ t l', l = t :: l' ∧ e = .returned (.agg #[.int .i64 (t.at' : Int), .int .i64 c]) ∧ Below E.b E.W w'
set_option maxRecDepth 1000000 in
set_option maxHeartbeats 1000000 in
theorem refused_at (h : PS E v kvs md r l w) (c : Int) : Calls Tryz.prog 180 #[.pointer (some ⟨E.b, 0, none⟩), .int .i64 c] w (RefP E l c) := by
  have L0 := Lib.hid (Lcl.new h (.cells #[.int .i64 0, .int .i64 0] 68))
  have PK := Lib.hid (peek_at (h.alloc (.cells #[.int .i64 0, .int .i64 0] 68)))
  have fl := tok_f1
  clear h
  go_enter Tryz.func180, Tryz.ntmps180
  go_wp2_with fail
  (with_reducible refine PK.out.mono ?_)
  rintro e w1 ⟨t, l', sp, hl, rfl, hs, hf⟩
  have HL := Lib.hid hl
  have HS := Lib.hid hs
  have L1 := Lib.hid (L0.out.on0 hf)
  have k0 := L1.out.cell 0 rfl
  have k1 := L1.out.cell 1 rfl
  have z := L1.out.fz
  clear hl hs hf PK L0
  simp only [tokA]
  go_wp2
  simp [bodyPost, results, Tryz.results180, go_sem, k0, k1, z]
  exact ⟨t, l', HL.out, rfl, ((HS.out.set (a := ⟨w.heap.size, 0, none⟩) L1.out.loc _).set (a := ⟨w.heap.size, 1, none⟩) L1.out.loc _).below⟩
end
end Go.Proofs.YtpemghcafbedeaaGreatDoor
end
section
namespace Go.Proofs.YtpemghcafbedeaaGreatDoor
open Go.RowKit
section
variable {E : Env} {v : Value} {kvs : List Value} {md : List Nd} {r : Nat} {l : List PT} {w : World}
def OkV (E : Env) (v : Value) (kvs : List Value) (md : List Nd) (r : Nat) (w : World) (x : Value) (l' : List PT) (e : Ending) (w' : World) : Prop := e = .returned x ∧ PS E v kvs md r l' w' ∧ Fr E w.heap.size v v w w'
set_option maxRecDepth 1000000 in
set_option maxHeartbeats 1000000 in
theorem skip_at (h : PS E v kvs md r l w) (s : ByteArray) (hs0 : s ≠ none0) : Calls Tryz.prog 132 #[.pointer (some ⟨E.b, 0, none⟩), .string s] w (PostE E (skipP s l) fun b l' => OkV E v kvs md r w (.bool b) l') := by
  have NX := Lib.hid (isNext_at h s)
  clear h
  have hnot : ∀ (x : Bool) (w : World), (Op.unary .not (.bool x)).run Tryz.prog w = .ok (.bool (!x)) w := fun _ _ => rfl
  go_enter Tryz.func132, Tryz.ntmps132
  go_wp2_with fail
  (with_reducible refine NX.out.mono ?_)
  rintro e w1 ⟨t, l', hl, rfl, hs, hf⟩
  subst hl
  obtain ⟨i, t0, l0, sp, hl, hl0, hi, hb, _, _, _, _, _⟩ := hs.head
  obtain ⟨rfl, rfl⟩ := List.cons.inj hl
  have HS := Lib.hid hs
  have HF := Lib.hid hf
  have HB := Lib.hid hb
  have HL := Lib.hid hl0
  have hfew := hs.few
  have c1 := cell_of_row w1 E.b 1 _ _ _ hb
  have z := hs.fz
  simp only [List.getElem?_toArray, List.getElem?_cons_zero, List.getElem?_cons_succ] at c1
  clear hl hs hf NX hb hl0
  by_cases ht : t.txt = s
  · have ht2 : t.txt ≠ none0 := by rw [ht]; exact hs0
    have HR : Hid (skipP s (t :: l') = .ok true l') := Lib.hid (by rw [skipP, if_pos ht])
    have hd : decide (t.txt = s) = true := decide_eq_true ht
    rw [hd]
    have H2 := Lib.hid ht2
    clear ht hd ht2
    go_wp2
    go_ret
    exact of_ok HR.out ⟨rfl, HS.out.next (Or.inr H2.out) HL.out HB.out, HF.out.setB 1 _⟩
  · have HR : Hid (skipP s (t :: l') = .ok false (t :: l')) := Lib.hid (by rw [skipP, if_neg ht])
    have hd : decide (t.txt = s) = false := decide_eq_false ht
    rw [hd]
    clear ht hd
    go_wp2
    go_ret
    exact of_ok HR.out ⟨rfl, HS.out, HF.out⟩
set_option maxRecDepth 1000000 in
set_option maxHeartbeats 1000000 in
theorem expect_at (h : PS E v kvs md r l w) (s : ByteArray) (hs0 : s ≠ none0) : Calls Tryz.prog 130 #[.pointer (some ⟨E.b, 0, none⟩), .string s] w (PostE E (expectP s l) fun p l' => OkV E v kvs md r w (.int .i64 (p : Int)) l') := by
  have PK := Lib.hid (peek_at h)
  have fl := tok_f1
  clear h
  have hnot : ∀ (x : Bool) (w : World), (Op.unary .not (.bool x)).run Tryz.prog w = .ok (.bool (!x)) w := fun _ _ => rfl
  go_enter Tryz.func130, Tryz.ntmps130
  go_wp2_with fail
  (with_reducible refine PK.out.mono ?_)
  rintro e w1 ⟨t, l', sp, hl, rfl, hs, hf⟩
  subst hl
  have SK := skip_at hs s hs0
  have HF := Lib.hid hf
  have HS := Lib.hid hs
  clear hs hf PK
  simp only [tokA]
  by_cases ht : t.txt = s
  · have SK1 := Lib.hid (post_ok SK (show skipP s (t :: l') = .ok true l' by rw [skipP, if_pos ht]))
    have HR : Hid (expectP s (t :: l') = .ok t.at' l') := Lib.hid (by rw [expectP, if_pos ht])
    clear SK ht
    go_wp2_with fail
    (with_reducible refine SK1.out.mono ?_)
    rintro e w2 ⟨rfl, hs2, hf2⟩
    have HS2 := Lib.hid hs2
    have HF2 := Lib.hid (HF.out.trans (hf2.mono HF.out.size))
    clear hs2 hf2 SK1
    go_wp2
    go_ret
    exact of_ok HR.out ⟨rfl, HS2.out, HF2.out⟩
  · have SK1 := Lib.hid (post_ok SK (show skipP s (t :: l') = .ok false (t :: l') by rw [skipP, if_neg ht]))
    have HR : Hid (expectP s (t :: l') = .err t.at' 50) := Lib.hid (by rw [expectP, if_neg ht])
    clear SK ht
    go_wp2_with fail
    (with_reducible refine SK1.out.mono ?_)
    rintro e w2 ⟨rfl, hs2, hf2⟩
    have RF := Lib.hid (refused_at hs2 50)
    clear hs2 hf2 SK1
    go_wp2_with fail
    (with_reducible refine RF.out.mono ?_)
    rintro e w3 ⟨t3, l3, hl, rfl, hb⟩
    obtain ⟨rfl, rfl⟩ := List.cons.inj hl
    have HB := Lib.hid hb
    clear RF hb
    go_wp2
    exact ⟨rfl, of_err HR.out HB.out⟩
def OkT (E : Env) (v : Value) (kvs : List Value) (md : List Nd) (r : Nat) (w : World) (t : PT) (l' : List PT) (e : Ending) (w' : World) : Prop := ∃ sp, e = .returned (tokA t sp) ∧ PS E v kvs md r l' w' ∧ Fr E w.heap.size v v w w'
set_option maxRecDepth 1000000 in
set_option maxHeartbeats 1000000 in
theorem take_at (h : PS E v kvs md r l w) (k : Int) (hk : k ≠ 4) : Calls Tryz.prog 137 #[.pointer (some ⟨E.b, 0, none⟩), .int .u8 k] w (PostE E (takeP k l) fun t l' => OkT E v kvs md r w t l') := by
  have hw1 : Hid (w.heap.size + 1 = (w.alloc (.cells #[.int .u8 0, .int .i64 0, .int .i64 0, .string ⟨#[]⟩, .int .i64 0] 45)).heap.size) := Lib.hid (by simp)
  have L0 := Lib.hid (Lcl.new h (.cells #[.int .u8 0, .int .i64 0, .int .i64 0, .string ⟨#[]⟩, .int .i64 0] 45))
  have F0 : Hid (Fr E w.heap.size v v w (w.alloc (.cells #[.int .u8 0, .int .i64 0, .int .i64 0, .string ⟨#[]⟩, .int .i64 0] 45))) := Lib.hid ((Fr.refl _ _ _ _).alloc (Nat.le_refl _) _)
  have PK := Lib.hid (peek_at (h.alloc (.cells #[.int .u8 0, .int .i64 0, .int .i64 0, .string ⟨#[]⟩, .int .i64 0] 45)))
  have fl := tok_f0
  clear h
  go_enter Tryz.func137, Tryz.ntmps137
  go_wp2_with fail
  (with_reducible refine PK.out.mono ?_)
  rintro e w1 ⟨t, l', sp, hl, rfl, hs, hf⟩
  subst hl
  obtain ⟨i, t0, l0, sp0, hl, hl0, hi, hb, _, _, _, _, _⟩ := hs.head
  obtain ⟨rfl, rfl⟩ := List.cons.inj hl
  have hb1 : (w1.alloc (.cells #[.int .u8 t.kind, .int .i64 (t.at' : Int), .int .i64 (sp : Int), .string t.txt, .int .i64 t.n] 45)).heap[E.b]? = _ := (Below.heap_alloc w1 _ E.b hs.lt).trans hb
  have HS := Lib.hid (hs.alloc (.cells #[.int .u8 t.kind, .int .i64 (t.at' : Int), .int .i64 (sp : Int), .string t.txt, .int .i64 t.n] 45))
  have HF := Lib.hid ((F0.out.trans (hf.mono (by simp))).alloc (by have := hf.size; simp at this; omega) (.cells #[.int .u8 t.kind, .int .i64 (t.at' : Int), .int .i64 (sp : Int), .string t.txt, .int .i64 t.n] 45))
  have L1 := Lib.hid ((L0.out.on0 hf).alloc (.cells #[.int .u8 t.kind, .int .i64 (t.at' : Int), .int .i64 (sp : Int), .string t.txt, .int .i64 t.n] 45))
  have k0 := L1.out.cell 0 rfl
  have k1 := L1.out.cell 1 rfl
  have k2 := L1.out.cell 2 rfl
  have k3 := L1.out.cell 3 rfl
  have k4 := L1.out.cell 4 rfl
  have zl := L1.out.fz
  have hfew := hs.few
  have c1 := cell_of_row _ E.b 1 _ _ _ hb1
  have z := HS.out.fz
  have hne : ¬ E.b = w.heap.size := by have := L1.out.loc.lt; omega
  have hne2 : ¬ w1.heap.size = w.heap.size := by have := hf.size; simp at this; omega
  have hne3 : ¬ E.b = w1.heap.size := by have := hs.lt; omega
  have HB := Lib.hid hb1
  have HL := Lib.hid hl0
  simp only [List.getElem?_toArray, List.getElem?_cons_zero, List.getElem?_cons_succ] at c1
  clear hl hs hf PK hb hb1 hl0 L0 F0
  simp only [tokA]
  by_cases ht : t.kind = k
  · have hd : (t.kind != k) = false := by simpa using ht
    have HR : Hid (takeP k (t :: l') = .ok t l') := Lib.hid (by rw [takeP, if_pos ht])
    have HK : Hid (t.kind ≠ 4) := Lib.hid (by rw [ht]; exact hk)
    have hsz : Hid (w.heap.size ≤ w.heap.size) := Lib.hid (Nat.le_refl _)
    clear ht hk hw1
    have L9 := (L1.out.setB 1 (.int .i64 ((i : Int) + 1))).set5 (.int .u8 t.kind) (.int .i64 (t.at' : Int)) (.int .i64 (sp : Int)) (.string t.txt) (.int .i64 t.n)
    have r0 := L9.cell 0 rfl
    have r1 := L9.cell 1 rfl
    have r2 := L9.cell 2 rfl
    have r3 := L9.cell 3 rfl
    have r4 := L9.cell 4 rfl
    clear L9
    go_wp2
    simp [bodyPost, results, Tryz.results137, go_sem, r0, r1, r2, r3, r4]
    refine of_ok HR.out ?_
    have f1 := HF.out.setB 1 (.int .i64 ((i : Int) + 1))
    exact ⟨sp, rfl, (HS.out.next (Or.inl HK.out) HL.out HB.out).set5 L1.out.loc _ _ _ _ _, f1.set5 f1.size (Nat.le_refl _) _ _ _ _ _⟩
  · have hd : (t.kind != k) = true := by simpa using ht
    have HR : Hid (takeP k (t :: l') = .err t.at' 50) := Lib.hid (by rw [takeP, if_neg ht])
    have RF := Lib.hid (refused_at HS.out 50)
    clear ht hk hw1
    go_wp2_with fail
    (with_reducible refine RF.out.mono ?_)
    rintro e w3 ⟨t3, l3, hl, rfl, hb⟩
    obtain ⟨rfl, rfl⟩ := List.cons.inj hl
    have HB := Lib.hid hb
    clear RF hb
    go_wp2
    exact ⟨rfl, of_err HR.out HB.out⟩
end
end Go.Proofs.YtpemghcafbedeaaGreatDoor
end
section
namespace Go.Proofs.YtpemghcafbedeaaGreatDoor
open Go.RowKit
theorem infoNode : (Tryz.prog.info? 53).map (fun i => (i.zero, i.size, i.bytes)) = some (some (.agg #[.int .u8 0, .int .i64 0, .string ⟨#[]⟩, .int .i64 0, .slice none 0 0]), 5, 64) := by kernel_rfl
theorem infoInt : (Tryz.prog.info? 3).map (fun i => (i.zero, i.size, i.bytes)) = some (some (.int .i64 0), 1, 8) := by kernel_rfl
theorem info_partsP {t : Nat} {z : Value} {s b : Nat} (h : (Tryz.prog.info? t).map (fun i => (i.zero, i.size, i.bytes)) = some (some z, s, b)) : ∃ i, Tryz.prog.info? t = some i ∧ i.zero = some z ∧ i.size = s ∧ i.bytes = b := by
  cases hi : Tryz.prog.info? t with
  | none => rw [hi] at h; simp at h
  | some i =>
    rw [hi] at h
    simp only [Option.map_some, Option.some.injEq, Prod.mk.injEq] at h
    exact ⟨i, rfl, h.1, h.2.1, h.2.2⟩
theorem own1.slice {B : Nat} {w : World} {kv : Value} {ks : List Int} (h : own1 B w kv ks) : ∃ kp kl kc, kv = .slice kp kl kc := by
  rcases h.2 with h2 | ⟨g, cap, cur, e, _⟩
  · exact ⟨_, _, _, h2.1⟩
  · exact ⟨_, _, _, e⟩
section
variable {E : Env} {v : Value} {kvs : List Value} {md : List Nd} {r : Nat} {l : List PT} {w : World}
theorem of_drew {w w' : World} {row : Option Nat} (h : w.drew.grownBy w' row) : w.grownBy w' row := ⟨h.os, h.tape, h.output, h.size, h.block⟩
theorem PS.push {W2 w5 : World} {o : Obj} {g cap n : Nat} {nd : Nd} {kv : Value} {cs : List Value} (h : PS E v kvs md r l W2) (hg : (W2.alloc o).grownBy w5 v.ownBlock) (hat : v.ownBlock = some g ∨ g = W2.heap.size + 1) (hn : n = md.length + 1) (hcs : cs = cellsM md kvs ++ nodeC nd kv)
    (hown : w5.ownsRow (E.b + 1) 53 5 (.slice (some ⟨g, 0, none⟩) n cap) n cs) (ho : own1 (E.b + 1) W2 kv nd.kids) (hl : LocV E v kvs kv) (hroom : md.length + 1 + l.length ≤ 70000) :
    PS E (.slice (some ⟨g, 0, none⟩) n cap) (kvs ++ [kv]) (md ++ [nd]) r l (w5.setCell ⟨E.b, 4, none⟩ (.slice (some ⟨g, 0, none⟩) n cap)) ∧ Fr E W2.heap.size v (.slice (some ⟨g, 0, none⟩) n cap) W2 (w5.setCell ⟨E.b, 4, none⟩ (.slice (some ⟨g, 0, none⟩) n cap)) := by
  subst hn hcs
  have hlt := h.lt
  have hsz : W2.heap.size + 1 ≤ w5.heap.size := by have := hg.size; simpa using this
  have hg2 : W2.grownBy w5 v.ownBlock := ⟨hg.os, hg.tape, hg.output, by omega, fun k hk hne => (hg.block k (by simp; omega) hne).trans (Below.heap_alloc _ _ _ hk)⟩
  have hvb : v.ownBlock ≠ some E.b := fun e => by have := (h.vlt _ e).1; omega
  have hb5 : w5.heap[E.b]? = W2.heap[E.b]? := hg2.block E.b hlt (fun e => hvb e.symm)
  have hgb : g ≠ E.b := fun e => by
    rcases hat with h1 | h1
    · rw [e] at h1; exact hvb h1
    · omega
  generalize hv5 : Value.slice (some ⟨g, 0, none⟩) (md.length + 1) cap = v5 at *
  have hv5o : v5.ownBlock = some g := by rw [← hv5]; rfl
  have hset : w5.grownBy (w5.setCell ⟨E.b, 4, none⟩ v5) (some E.b) := grownBy_set w5 _ _
  have kidold : ∀ (x : Value) (ks : List Int), own1 (E.b + 1) W2 x ks → (∀ k, x.ownBlock = some k → v.ownBlock ≠ some k) → own1 (E.b + 1) (w5.setCell ⟨E.b, 4, none⟩ v5) x ks := fun x ks hx hne => by
    refine own1.grown (row := some E.b) (own1.grown hx hg2 ?_) hset ?_
    · cases hk : x.ownBlock with
      | none => exact Or.inl rfl
      | some k => exact Or.inr (fun e => hne k hk e.symm)
    · cases hk : x.ownBlock with
      | none => exact Or.inl rfl
      | some k => exact Or.inr (fun e => by have := (hx.lt k hk).1; have e := Option.some.inj e; omega)
  have hkl : ∀ x ∈ kvs ++ [kv], ∀ k, x.ownBlock = some k → v5.ownBlock ≠ some k := fun x hx k hk e => by
    rw [hv5o] at e
    obtain rfl := Option.some.inj e
    rcases List.mem_append.1 hx with hx | hx
    · rcases hat with h1 | h1
      · exact h.apart x hx g hk h1
      · have := (h.klt x hx g hk).2; omega
    · obtain rfl := List.mem_singleton.1 hx
      rcases hat with h1 | h1
      · exact (hl g hk).v h1
      · have := (ho.lt g hk).2; omega
  refine ⟨⟨(h.below.grown hg2 (Nat.le_of_lt hlt) (fun k e => Nat.le_of_lt (h.vlt k e).1)).setCell (p := ⟨E.b, 4, none⟩) (Nat.le_refl _) _, by simp [World.setCell]; omega, h.gl, h.cap, fun j i u hj hi => ?_, ?_, h.r64, h.ended, h.few, by simp only [List.length_append, List.length_singleton]; omega, by simp [h.klen], ?_, fun j hj => ?_, hkl, ?_⟩, ?_⟩
  · have hgl := h.gl
    rw [World.cell?_of_block (w := w5) (a := ⟨E.g, j * 5 + i, none⟩) (Below.heap_setCell _ _ _ _ (show E.g ≠ E.b by omega)), World.cell?_of_block (w := W2) (a := ⟨E.g, j * 5 + i, none⟩) (hg2.block E.g (by omega) (fun e => by have := (h.vlt _ e.symm).1; omega))]
    exact h.tok j i u hj hi
  · obtain ⟨i, h1, h2⟩ := h.nx
    exact ⟨i, h1, by rw [heap_set _ _ _ _ _ _ (hb5.trans h2)]; rfl⟩
  · rw [cellsM_snoc md kvs nd kv h.klen, List.length_append, List.length_singleton]
    exact hown.kept hset (Or.inr (fun e => by rw [hv5o] at e; exact hgb (Option.some.inj e)))
  · by_cases hj' : j < md.length
    · have h1 := kidold _ _ (h.kids j hj') (fun k hk => h.apart (kvs.getD j default) (by have := h.klen; simp [List.getD, show j < kvs.length by omega]) k hk)
      have e1 : (kvs ++ [kv]).getD j default = kvs.getD j default := by have := h.klen; simp [List.getD, List.getElem?_append_left (show j < kvs.length by omega)]
      have e2 : (md ++ [nd]).getD j default = md.getD j default := by simp [List.getD, List.getElem?_append_left hj']
      rw [e1, e2]; exact h1
    · have hjn : j = md.length := by simp only [List.length_append, List.length_singleton] at hj; omega
      have e1 : (kvs ++ [kv]).getD j default = kv := by rw [hjn, ← h.klen]; simp [List.getD]
      have e2 : (md ++ [nd]).getD j default = nd := by rw [hjn]; simp [List.getD]
      rw [e1, e2]
      exact kidold _ _ ho (fun k hk => (hl k hk).v)
  · refine List.pairwise_append.2 ⟨h.pair, List.pairwise_singleton _ _, fun x hx y hy k hk e => ?_⟩
    obtain rfl := List.mem_singleton.1 hy
    exact (hl k e).ks x hx hk
  · refine ⟨hg.os, hg.tape, hg.output, by simp [World.setCell]; omega, fun k hk hkb hkv => (Below.heap_setCell w5 ⟨E.b, 4, none⟩ v5 k hkb).trans (hg2.block k hk (fun e => hkv e.symm)), fun k hk => ?_⟩
    rw [hv5o] at hk
    obtain rfl := Option.some.inj hk
    rcases hat with h1 | h1
    · exact Or.inl h1
    · exact Or.inr (by omega)
def AddP (E : Env) (v : Value) (kvs : List Value) (md : List Nd) (r : Nat) (l : List PT) (w : World) (nd : Nd) (kv : Value) (e : Ending) (w' : World) : Prop :=
  ∃ v', e = .returned (.int .i64 (md.length : Int)) ∧ PS E v' (kvs ++ [kv]) (md ++ [nd]) r l w' ∧ Fr E w.heap.size v v' w w'
set_option maxRecDepth 1000000 in
set_option maxHeartbeats 2000000 in
theorem add_at (h : PS E v kvs md r l w) (k a n : Int) (t : ByteArray) (kz kv : Value) (ks : List Int) (ho : own1 (E.b + 1) w kv ks) (hl : LocV E v kvs kv) (hroom : md.length + 1 + l.length ≤ 70000) :
    Calls Tryz.prog 88 #[.pointer (some ⟨E.b, 0, none⟩), .agg #[.int .u8 k, .int .i64 a, .string t, .int .i64 n, kz], kv] w (AddP E v kvs md r l w ⟨k, a, t, n, ks⟩ kv) := by
  obtain ⟨i0, hi, hz0, hz1, hz2⟩ := info_partsP infoNode
  obtain ⟨kp, kl, kc, rfl⟩ := ho.slice
  have HS := Lib.hid h
  have L0 := Lib.hid (Lcl.new h (.cells #[.int .u8 k, .int .i64 a, .string t, .int .i64 n, kz] 53))
  have HO := Lib.hid ho
  have HL := Lib.hid hl
  have I0 := Lib.hid hi
  have I1 := Lib.hid hz0
  have I2 := Lib.hid hz1
  have I3 := Lib.hid hz2
  clear h ho hl hi hz0 hz1 hz2
  go_enter Tryz.func88, Tryz.ntmps88
  go_wp2_with fail
  obtain ⟨W2, hW2⟩ : ∃ W, W = w.alloc (.cells #[.int .u8 k, .int .i64 a, .string t, .int .i64 n, .slice kp kl kc] 53) := ⟨_, rfl⟩
  have HS2 : Hid (PS E v kvs md r l W2) := Lib.hid (by rw [hW2]; exact HS.out.alloc _)
  have L2 : Hid (Lcl E v kvs w.heap.size (.cells #[.int .u8 k, .int .i64 a, .string t, .int .i64 n, .slice kp kl kc] 53 (0, 0)) W2) := Lib.hid (by rw [hW2]; exact Lcl.new HS.out _)
  have HF2 : Hid (Fr E w.heap.size v v w W2) := Lib.hid (by rw [hW2]; exact (Fr.refl _ _ _ _).alloc (Nat.le_refl _) _)
  have hsz : Hid (W2.heap.size = w.heap.size + 1) := Lib.hid (by rw [hW2]; simp)
  have HO2 : Hid (own1 (E.b + 1) W2 (.slice kp kl kc) ks) := Lib.hid (by rw [hW2]; exact HO.out.grown (World.grownBy_alloc _ _ none) (by cases (Value.slice kp kl kc).ownBlock <;> simp))
  rw [← hW2]
  clear hW2 HO L0
  obtain ⟨vp, vn, vc, rfl⟩ : ∃ vp vn vc, v = .slice vp vn vc := by
    rcases HS2.out.own.2 with h2 | ⟨g, cap, cur, e, _⟩
    · exact ⟨_, _, _, h2.1⟩
    · exact ⟨_, _, _, e⟩
  obtain ⟨i, hi, _, _, _, _, c4⟩ := HS2.out.cells
  have z4 := HS2.out.fz 4
  have k0 := L2.out.cell 0 rfl
  have k1 := L2.out.cell 1 rfl
  have k2 := L2.out.cell 2 rfl
  have k3 := L2.out.cell 3 rfl
  have k4 := L2.out.cell 4 rfl
  have hlt := HS2.out.lt
  have hqlt := L2.out.lt
  have hne : ¬ E.b = w.heap.size := by have := L2.out.loc.lt; omega
  have hvb : ¬ (Value.slice vp vn vc).ownBlock = some E.b := fun e => by have := (HS2.out.vlt _ e).1; omega
  clear hi
  go_region_law ((refine step_append_lies _ (by rfl) (.tmp 13) (.tmp 15) 24 (by rfl) (E.b + 1) 53 i0 _ 5 64 Tryz.underlying24 I0.out I1.out I2.out I3.out rfl (by decide) (.slice vp vn vc) md.length (cellsM md kvs) (by rfl) (HS2.out.own.drew.alloc _) ⟨W2.heap.size, 0, none⟩ 1 1 [.int .u8 k, .int .i64 a, .string t, .int .i64 n, .slice kp kl kc] (by rfl) (by rfl) (World.news_of_block (cs := #[.int .u8 k, .int .i64 a, .string t, .int .i64 n, .slice kp kl kc]) (t := 53) (fr := (0, 0)) (heap_alloc_new _ _)) (by simp [Value.oneCell']) (by decide) (by unfold maxLen; omega) (by omega) (by simp; omega) _ (by rfl) ?_; intro g5 cap5 w5 hown5 hgrow5 hat5 hlt5; have c45 : w5.cell? ⟨E.b, 4, none⟩ = some (.slice vp vn vc) := (hgrow5.cell_far ⟨E.b, 4, none⟩ (by simp; omega) (fun e => hvb e.symm)).trans ((World.cell?_alloc_lt _ _ _ hlt).trans c4); have z45 : w5.frozen? ⟨E.b, 4, none⟩ = false := (hgrow5.frozen_far ⟨E.b, 4, none⟩ (by simp; omega) (fun e => hvb e.symm)).trans ((World.frozen?_of_block (w := W2) (Below.heap_alloc W2 _ E.b hlt)).trans z4)))
  all_goals
    have HP := Lib.hid (HS2.out.push (nd := ⟨k, a, t, n, ks⟩) (kv := .slice kp kl kc) (of_drew hgrow5) (by simpa using hat5) rfl rfl hown5 HO2.out HL.out hroom)
    obtain ⟨_, _, _, _, _, _, d4⟩ := HP.out.1.cells
    have hfin : Hid (AddP E (.slice vp vn vc) kvs md r l w ⟨k, a, t, n, ks⟩ (.slice kp kl kc) (.returned (.int .i64 (md.length : Int))) (w5.setCell ⟨E.b, 4, none⟩ (.slice (some ⟨g5, 0, none⟩) (md.length + 1) cap5))) := Lib.hid ⟨_, rfl, HP.out.1, HF2.out.trans (HP.out.2.mono (by have := hsz.out; omega))⟩
    clear hown5 hgrow5 hat5 c45 z45 k0 k1 k2 k3 k4 c4 z4 HP
    go_wp2
    go_ret
    exact hfin.out
end
end Go.Proofs.YtpemghcafbedeaaGreatDoor
end
section
namespace Go.Proofs.YtpemghcafbedeaaGreatDoor
open Go.RowKit
section
variable {E : Env} {v : Value} {kvs : List Value} {md : List Nd} {r : Nat} {l : List PT} {w : World}
theorem PS.deep {r' i : Nat} {z : Int} (h : PS E v kvs md r l w) (hr : r' ≤ 64) (hz : z = 64 - (r' : Int)) (hb : w.heap[E.b]? = some (.cells #[.slice (some ⟨E.g, 0, none⟩) E.toks.length E.cap, .int .i64 (i : Int), .int .i64 (64 - (r : Int)), E.mp, v] 73 (0, 0))) (hl : l = E.pts.drop i) :
    PS E v kvs md r' l (w.setCell ⟨E.b, 2, none⟩ (.int .i64 z)) where
  below := h.below.setCell (p := ⟨E.b, 2, none⟩) (Nat.le_refl _) _
  lt := by simpa [World.setCell] using h.lt
  gl := h.gl
  cap := h.cap
  tok := fun j k u hj hk => by
    have := h.gl
    rw [World.cell?_of_block (w := w) (a := ⟨E.g, j * 5 + k, none⟩) (Below.heap_setCell _ _ _ _ (show E.g ≠ E.b by omega))]
    exact h.tok j k u hj hk
  nx := ⟨i, hl, by rw [heap_set _ _ _ _ _ _ hb, hz]; rfl⟩
  r64 := hr
  ended := h.ended
  few := h.few
  room := h.room
  klen := h.klen
  own := h.own.kept (grownBy_set w _ _) (by
    cases hv : v.ownBlock with
    | none => exact Or.inl rfl
    | some k => exact Or.inr (fun e => by have := h.vlt k hv; have e := Option.some.inj e; simp only at e; omega))
  kids := fun j hj => (h.kids j hj).grown (grownBy_set w _ _) (by
    cases hv : (kvs.getD j default).ownBlock with
    | none => exact Or.inl rfl
    | some k => exact Or.inr (fun e => by have := (h.kids j hj).lt k hv; have e := Option.some.inj e; simp only at e; omega))
  apart := h.apart
  pair := h.pair
set_option maxRecDepth 1000000 in
set_option maxHeartbeats 1000000 in
theorem enter_at (h : PS E v kvs md r l w) (s : ByteArray) (hs0 : s ≠ none0) : Calls Tryz.prog 183 #[.pointer (some ⟨E.b, 0, none⟩), .string s] w (PostE E (enterP s r l) fun p l' => OkV E v kvs md (r - 1) w (.int .i64 (p : Int)) l') := by
  have NX := Lib.hid (isNext_at h s)
  have hr64 := h.r64
  clear h
  go_enter Tryz.func183, Tryz.ntmps183
  go_wp2_with fail
  (with_reducible refine NX.out.mono ?_)
  rintro e w1 ⟨t, l', hl, rfl, hs, hf⟩
  subst hl
  obtain ⟨_, hl, _, _, c2, _, _⟩ := hs.cells
  have HF := Lib.hid hf
  have HS := Lib.hid hs
  have EX := expect_at hs s hs0
  clear hs hf NX hl
  by_cases ht : t.txt = s
  · have hd : decide (t.txt = s) = true := decide_eq_true ht
    rw [hd]
    clear hd
    have EX1 := Lib.hid (post_ok EX (show expectP s (t :: l') = .ok t.at' l' by rw [expectP, if_pos ht]))
    by_cases hr : r = 0
    · have HR : Hid (enterP s r (t :: l') = .err t.at' 51) := Lib.hid (by rw [enterP, if_pos ht, if_pos hr])
      have RF := Lib.hid (refused_at HS.out 51)
      have hd2 : ((64 - (r : Int)) == 64) = true := by simp [hr]
      clear EX EX1 ht
      go_wp2_with fail
      (with_reducible refine RF.out.mono ?_)
      rintro e w3 ⟨t3, l3, hl, rfl, hb⟩
      obtain ⟨rfl, rfl⟩ := List.cons.inj hl
      have HB := Lib.hid hb
      clear RF hb
      go_wp2
      exact ⟨rfl, of_err HR.out HB.out⟩
    · have HR : Hid (enterP s r (t :: l') = .ok t.at' l') := Lib.hid (by rw [enterP, if_pos ht, if_neg hr])
      have hd2 : ((64 - (r : Int)) == 64) = false := by simp; omega
      clear EX ht
      go_wp2_with fail
      (with_reducible refine EX1.out.mono ?_)
      rintro e w2 ⟨rfl, hs2, hf2⟩
      obtain ⟨i, hl, hb⟩ := hs2.nx
      have HP := Lib.hid (hs2.deep (r' := r - 1) (z := 64 - (r : Int) + 1) (by omega) (by omega) hb hl)
      have HF2 := Lib.hid ((HF.out.trans (hf2.mono HF.out.size)).setB 2 (.int .i64 (64 - (r : Int) + 1)))
      obtain ⟨_, _, _, _, d2, _, _⟩ := hs2.cells
      have z2 := hs2.fz
      clear hs2 hf2 EX1 hl hb c2
      go_wp2
      go_ret
      exact of_ok HR.out ⟨rfl, HP.out, HF2.out⟩
  · have hd : decide (t.txt = s) = false := decide_eq_false ht
    rw [hd]
    clear hd
    have EX1 := Lib.hid (post_err EX (show expectP s (t :: l') = .err t.at' 50 by rw [expectP, if_neg ht]))
    have HR : Hid (enterP s r (t :: l') = .err t.at' 50) := Lib.hid (by rw [enterP, if_neg ht])
    clear EX ht
    go_wp2_with fail
    (with_reducible refine EX1.out.mono ?_)
    rintro e w2 ⟨rfl, hb⟩
    have HB := Lib.hid hb
    clear hb EX1
    go_wp2
    exact ⟨rfl, of_err HR.out HB.out⟩
set_option maxRecDepth 1000000 in
set_option maxHeartbeats 1000000 in
theorem leave_at (h : PS E v kvs md r l w) (s : ByteArray) (hs0 : s ≠ none0) (hr : r < 64) : Calls Tryz.prog 184 #[.pointer (some ⟨E.b, 0, none⟩), .string s] w (PostE E (expectP s l) fun _ l' => OkV E v kvs md (r + 1) w (.tuple #[]) l') := by
  have EX := expect_at h s hs0
  clear h
  cases hx : expectP s l with
  | err p c =>
    have EX1 := Lib.hid (post_err EX hx)
    clear EX hx
    go_enter Tryz.func184, Tryz.ntmps184
    go_wp2_with fail
    (with_reducible refine EX1.out.mono ?_)
    rintro e w2 ⟨rfl, hb⟩
    have HB := Lib.hid hb
    clear hb EX1
    go_wp2
    exact ⟨rfl, of_err rfl HB.out⟩
  | ok p l' =>
    have EX1 := Lib.hid (post_ok EX hx)
    clear EX hx
    go_enter Tryz.func184, Tryz.ntmps184
    go_wp2_with fail
    (with_reducible refine EX1.out.mono ?_)
    rintro e w2 ⟨rfl, hs2, hf2⟩
    obtain ⟨i, hl, hb⟩ := hs2.nx
    have HP := Lib.hid (hs2.deep (r' := r + 1) (z := 64 - (r : Int) - 1) (by omega) (by omega) hb hl)
    have HF2 := Lib.hid (hf2.setB 2 (.int .i64 (64 - (r : Int) - 1)))
    obtain ⟨_, _, _, _, d2, _, _⟩ := hs2.cells
    have z2 := hs2.fz
    clear hs2 hf2 EX1 hl hb
    go_wp2
    first
      | go_end0
      | skip
    exact of_ok rfl ⟨rfl, HP.out, HF2.out⟩
end
end Go.Proofs.YtpemghcafbedeaaGreatDoor
end
