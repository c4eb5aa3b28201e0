/- Contracts on the way to the laws of layer 5: LexE. -/
import Derived.Test.YthdioipfdbbmmaaGreatDoorKaa
import Derived.Test.YthdioipfdbbmmaaGreatDoorKae
import Derived.Deep.RegionHeld3
set_option linter.all false
set_option maxRecDepth 1000000
set_option maxHeartbeats 16000000
namespace Go.Proofs.YthdioipfdbbmmaaGreatDoor
section
open Go.RowKit
theorem kind_letter (c : Int) : (kindF c == 3) = isLetter c := by
 unfold kindF
 by_cases h1 : isBlank c = true
 · have : c = 32 ∨ c = 9 ∨ c = 10 ∨ c = 13 := by simpa [isBlank, or_assoc] using h1
   rcases this with rfl | rfl | rfl | rfl <;> decide
 · by_cases h2 : c = 35
   · subst h2; decide
   · by_cases h3 : isLetter c = true
     · simp [h1, h2, h3]
     · simp only [h1, h2, h3]
       repeat' split
       all_goals simp_all
theorem mark_cases {c : Int} (h : isMark c = true) : c = 123 ∨ c = 125 ∨ c = 40 ∨ c = 41 ∨ c = 91 ∨ c = 93 ∨ c = 59 ∨ c = 44 ∨ c = 46 ∨ c = 43 ∨ c = 45 ∨ c = 42 ∨ c = 60 ∨ c = 61 := by
 simpa [isMark] using h
theorem kind_mark (c : Int) : (kindF c == 6) = isMark c := by
 by_cases h : isMark c = true
 · rcases mark_cases h with rfl | rfl | rfl | rfl | rfl | rfl | rfl | rfl | rfl | rfl | rfl | rfl | rfl | rfl <;> decide
 · have h' : isMark c = false := by simpa using h
   unfold kindF
   rw [h']
   repeat' split
   all_goals simp_all
def TokPost (xs : List Int) (i : Nat) (w : World) (e : Ending) (w' : World) : Prop :=
 (e = match step (xs.drop i) with
  | .err er => .returned (.tuple #[tokV 0 0 0 ⟨#[]⟩ 0, .int .i64 er])
  | .tok k l n => .returned (.tuple #[tokV k i ((i + l : Nat) : Int) (strOfNums ((xs.drop i).take l)) n, .int .i64 0])) ∧ Below w.heap.size w w'
theorem tokPost_tok {xs : List Int} {i l j : Nat} {w W : World} {k n : Int} {st : ByteArray} (hs : step (xs.drop i) = .tok k l n) (hj : j = i + l) (ht : strOfNums ((xs.drop i).take (j - i)) = st) (hb : Below w.heap.size w W) :
 TokPost xs i w (.returned (.tuple #[tokV k i j st n, .int .i64 0])) W := by
 subst ht
 refine ⟨?_, hb⟩
 rw [hs]
 subst hj
 rw [Nat.add_sub_cancel_left]
theorem tokPost_err {xs : List Int} {i : Nat} {w W : World} {er : Int} (hs : step (xs.drop i) = .err er) (hb : Below w.heap.size w W) :
 TokPost xs i w (.returned (.tuple #[tokV 0 0 0 ⟨#[]⟩ 0, .int .i64 er])) W := by
 refine ⟨?_, hb⟩
 rw [hs]
theorem word_keep (w : World) (p : Option Addr) (len c kb i e : Nat) (kd : Int) (xs : List Int) (h : SK w p len c kb xs) (hb : len ≤ 70000) (hi : i < e) (he : e ≤ len) (W : World) (hW : InT w p len c kb W) :
 Calls Tryz.prog 89 #[.agg #[.slice p len c, .func (.func 87) #[] #[.pointer (some ⟨kb, 0, none⟩)]], .int .u8 kd, .int .i64 i, .int .i64 e] W fun ev w' => ev = .returned (.agg #[.int .u8 kd, .int .i64 i, .int .i64 e, .string (strOfNums ((xs.drop i).take (e - i))), .int .i64 0]) ∧ InT w p len c kb w' :=
 (lexWord_at W p len c kb i e kd xs (h.on (Nat.le_refl _) hW.below) hb hi he).mono fun _ _ ⟨h1, h2⟩ => ⟨h1, hW.on h2⟩
theorem pastName_keep (w : World) (p : Option Addr) (len c kb i : Nat) (xs : List Int) (h : SK w p len c kb xs) (hb : len ≤ 70000) (hi : i ≤ len) (W : World) (hW : InT w p len c kb W) :
 Calls Tryz.prog 90 #[.agg #[.slice p len c, .func (.func 87) #[] #[.pointer (some ⟨kb, 0, none⟩)]], .int .i64 i] W fun ev w' => ev = .returned (.int .i64 ((i + run isNameB (xs.drop i) : Nat) : Int)) ∧ InT w p len c kb w' :=
 (pastName_at W p len c kb i xs (h.on (Nat.le_refl _) hW.below) hb hi).mono fun _ _ ⟨h1, h2⟩ => ⟨h1, hW.on h2⟩
theorem pastMark_keep (w : World) (p : Option Addr) (len c kb i : Nat) (xs : List Int) (h : SK w p len c kb xs) (hb : len ≤ 70000) (hi : i < len) (W : World) (hW : InT w p len c kb W) :
 Calls Tryz.prog 92 #[.agg #[.slice p len c, .func (.func 87) #[] #[.pointer (some ⟨kb, 0, none⟩)]], .int .i64 i] W fun ev w' => ev = .returned (.int .i64 ((i + (if xs.getD i 0 = 61 ∧ (xs.drop (i + 1)).head? = some 61 then 2 else 1) : Nat) : Int)) ∧ InT w p len c kb w' :=
 (pastMark_at W p len c kb i xs (h.on (Nat.le_refl _) hW.below) hb hi).mono fun _ _ ⟨h1, h2⟩ => ⟨h1, hW.on h2⟩
theorem tokenAt_at (w : World) (p : Option Addr) (len c kb i : Nat) (xs : List Int) (h : SK w p len c kb xs) (hb : len ≤ 70000) (hi : i < len) :
 Calls Tryz.prog 49 #[.agg #[.slice p len c, .func (.func 87) #[] #[.pointer (some ⟨kb, 0, none⟩)]], .int .i64 i] w (TokPost xs i w) := by
 have hlen := lh h.len_eq
 have HI := lh (InT.start w p len c kb)
 have hsk := lh (h.on (Nat.le_refl _) HI.out.below)
 obtain ⟨b, off, rfl, hbl, hc⟩ := hsk.out.addr (by omega)
 have hcj := hc i hi
 have hby := hsk.out.byte i
 obtain ⟨m, hm⟩ : ∃ m : Nat, xs.getD i 0 = m := ⟨(xs.getD i 0).toNat, by omega⟩
 rw [hm] at hcj hby
 have HM := lh hm
 have hm256 : m < 256 := by omega
 have HK := lh (hsk.out.kinds m hm256)
 have HX := lh (drop_at xs i (by have := h.len_eq; omega))
 have KL := lh (kind_letter m)
 have KD := lh (kind_digit m)
 have KM := lh (kind_mark m)
 have HRn := lh (run_le isNameB (xs.drop i))
 have hpn := pastName_keep w (some ⟨b, off, none⟩) len c kb i xs h hb (by omega)
 have hpm := pastMark_keep w (some ⟨b, off, none⟩) len c kb i xs h hb hi
 have hpw := fun e kd (he : i < e) (he2 : e ≤ len) => word_keep w (some ⟨b, off, none⟩) len c kb i e kd xs h hb he he2
 have H := lh h
 have PN := lh hpn
 have PM := lh hpm
 have PW := lh hpw
 clear hc hbl hm hby hpn hpm hpw h
 go_enter Tryz.func49, Tryz.ntmps49
 go_wp2_with fail
 go_quiet (first | (go_at_call 87; refine Calls.quiet_of_same (kind_at _ kb m hm256 HK.out)))
 have HIn := lh (HI.out.on (drewN_below _ _ nq))
 have HId : InT w (some ⟨b, off, none⟩) len c kb ((scanW w (some ⟨b, off, none⟩) len c kb).drewN nq).drew := HIn.out.on (drewN_below _ _ 1)
 clear HK
 generalize kindF m = k at *
 by_cases k3 : k = 3
 · subst k3
   have hst : step (xs.drop i) = .tok 1 (run isNameB (xs.drop i)) 0 := by rw [HX.out, step, HM.out, if_pos (by simpa using KL.out.symm)]
   have hpos : i < i + run isNameB (xs.drop i) ∧ i + run isNameB (xs.drop i) ≤ len := by
    have h1 := (step_len hst).1
    have h2 := HRn.out
    rw [List.length_drop, hlen.out] at h2
    omega
   obtain ⟨j, hj⟩ : ∃ j, i + run isNameB (xs.drop i) = j := ⟨_, rfl⟩
   rw [hj] at hpos
   have PN0 := PN.out
   rw [hj] at PN0
   have PN1 := lh PN0
   have HJ := lh hj
   have HS := lh hst
   have PW1 := lh (PW.out j 1 hpos.1 hpos.2)
   clear PN0 hj hst PN PM PW
   generalize hst : strOfNums ((xs.drop i).take (j - i)) = st at *
   have HT := lh hst
   clear hst
   go_wp2_with fail
   go_region_held3 (fun w' => w'.cell? ⟨w.heap.size, 0, none⟩ = some (.slice (some ⟨b, off, none⟩) len c) ∧ w'.cell? ⟨w.heap.size, 1, none⟩ = some (.func (.func 87) #[] #[.pointer (some ⟨kb, 0, none⟩)]) ∧ InT w (some ⟨b, off, none⟩) len c kb w') (refine ⟨?_, ?_, ?_⟩ <;> (first | (with_reducible assumption) | go_keep | (repeat (with_reducible refine InT.set ?_ _ _)); with_reducible assumption))
    (first
     | (go_at_call 90; (with_reducible refine (PN1.out _ ?_).mono ?_); (assumption); rintro e w' ⟨rfl, q⟩; have q0 := q.b0; have q1 := q.b1)
     | (go_at_call 89; (with_reducible refine (PW1.out _ ?_).mono ?_); (assumption); rintro e w' ⟨rfl, q⟩; have q0 := q.b0; have q1 := q.b1; obtain ⟨v0, z0⟩ := q.t0; obtain ⟨v1, z1⟩ := q.t1; obtain ⟨v2, z2⟩ := q.t2; obtain ⟨v3, z3⟩ := q.t3; obtain ⟨v4, z4⟩ := q.t4; have y0 := q.f0; have y1 := q.f1; have y2 := q.f2; have y3 := q.f3; have y4 := q.f4))
   all_goals go_wp2
   all_goals simp [bodyPost, results, Tryz.results49, go_sem, z0, z1, z2, z3, z4]
   all_goals exact tokPost_tok HS.out HJ.out.symm HT.out (five q.below (by omega) _ _ _ _ _)
 · have k3' : (k == 3) = false := by simpa using k3
   by_cases k4 : k = 4
   · subst k4
     have hnl : ¬ (isLetter (m : Int) = true) := by rw [← KL.out]; simp
     have hdg : isDigit (m : Int) = true := by simpa using KD.out.symm
     have NA := lexNumber_at ((scanW w (some ⟨b, off, none⟩) len c kb).drewN nq) (some ⟨b, off, none⟩) len c kb i xs (hsk.out.on (Nat.le_refl _) (drewN_below _ _ nq)) hb hi (by rw [HM.out]; exact hdg)
     cases hn : numV 0 (xs.drop i) with
     | some n =>
      have hst : step (xs.drop i) = .tok 2 (run isDigit (xs.drop i)) n := by
       rw [HX.out, HM.out] at hn
       rw [HX.out, step, HM.out, if_neg hnl, if_pos hdg, hn]
      obtain ⟨j, hj⟩ : ∃ j, i + run isDigit (xs.drop i) = j := ⟨_, rfl⟩
      obtain ⟨st, ht⟩ : ∃ st, strOfNums ((xs.drop i).take (j - i)) = st := ⟨_, rfl⟩
      have NA1 := NA.mono (R' := fun e w' => e = .returned (.tuple #[tokV 2 i j st n, .int .i64 0]) ∧ InT w (some ⟨b, off, none⟩) len c kb w') (fun e w' h => ⟨by
       have h1 := h.1
       rw [hn] at h1
       rw [h1, ← ht, ← hj, Nat.add_sub_cancel_left], HIn.out.on h.2⟩)
      have HJ := lh hj
      have HS := lh hst
      have HT := lh ht
      have NA2 := lh NA1
      clear NA NA1 hj hst ht hn hnl hdg PN PM PW HId
      go_wp2_with fail
      (with_reducible refine NA2.out.mono ?_)
      rintro e w' ⟨rfl, q⟩
      obtain ⟨_, _, ⟨v0, z0⟩, ⟨v1, z1⟩, ⟨v2, z2⟩, ⟨v3, z3⟩, ⟨v4, z4⟩, y0, y1, y2, y3, y4, zs, zb⟩ := q
      have ZB := lh zb
      clear zb HI H NA2
      go_wp2
      simp [bodyPost, results, Tryz.results49, go_sem, z0, z1, z2, z3, z4]
      exact tokPost_tok HS.out HJ.out.symm HT.out (five ZB.out (by omega) _ _ _ _ _)
     | none =>
      have hst : step (xs.drop i) = .err 31 := by
       rw [HX.out, HM.out] at hn
       rw [HX.out, step, HM.out, if_neg hnl, if_pos hdg, hn]
      have NA1 := NA.mono (R' := fun e w' => e = .returned (.tuple #[tokV 0 0 0 ⟨#[]⟩ 0, .int .i64 31]) ∧ InT w (some ⟨b, off, none⟩) len c kb w') (fun e w' h => ⟨by
       have h1 := h.1
       rw [hn] at h1
       exact h1, HIn.out.on h.2⟩)
      have HS := lh hst
      have NA2 := lh NA1
      clear NA NA1 hst hn hnl hdg PN PM PW HId
      go_wp2_with fail
      (with_reducible refine NA2.out.mono ?_)
      rintro e w' ⟨rfl, q⟩
      obtain ⟨_, _, ⟨v0, z0⟩, ⟨v1, z1⟩, ⟨v2, z2⟩, ⟨v3, z3⟩, ⟨v4, z4⟩, y0, y1, y2, y3, y4, zs, zb⟩ := q
      have ZB := lh zb
      clear zb HI H NA2
      go_wp2
      simp [bodyPost, results, Tryz.results49, go_sem, z0, z1, z2, z3, z4]
      exact tokPost_err HS.out (five ZB.out (by omega) _ _ _ _ _)
   · have k4' : (k == 4) = false := by simpa using k4
     by_cases k6 : k = 6
     · subst k6
       have hst : step (xs.drop i) = .tok 3 (if xs.getD i 0 = 61 ∧ (xs.drop (i + 1)).head? = some 61 then 2 else 1) 0 := by
        rw [HX.out, step, HM.out, if_neg (by rw [← KL.out]; simp), if_neg (by rw [← KD.out]; simp), if_pos (by simpa using KM.out.symm)]
       have hpos : i < i + (if xs.getD i 0 = 61 ∧ (xs.drop (i + 1)).head? = some 61 then 2 else 1) ∧ i + (if xs.getD i 0 = 61 ∧ (xs.drop (i + 1)).head? = some 61 then 2 else 1) ≤ len := by
        have h1 := step_len hst
        rw [List.length_drop, hlen.out] at h1
        omega
       obtain ⟨j, hj⟩ : ∃ j, i + (if xs.getD i 0 = 61 ∧ (xs.drop (i + 1)).head? = some 61 then 2 else 1) = j := ⟨_, rfl⟩
       rw [hj] at hpos
       have PN0 := PM.out
       rw [hj] at PN0
       have PN1 := lh PN0
       have HJ := lh hj
       have HS := lh hst
       have PW1 := lh (PW.out j 3 hpos.1 hpos.2)
       clear PN0 hj hst PN PM PW
       generalize hst : strOfNums ((xs.drop i).take (j - i)) = st at *
       have HT := lh hst
       clear hst
       go_wp2_with fail
       go_region_held3 (fun w' => w'.cell? ⟨w.heap.size, 0, none⟩ = some (.slice (some ⟨b, off, none⟩) len c) ∧ w'.cell? ⟨w.heap.size, 1, none⟩ = some (.func (.func 87) #[] #[.pointer (some ⟨kb, 0, none⟩)]) ∧ InT w (some ⟨b, off, none⟩) len c kb w') (refine ⟨?_, ?_, ?_⟩ <;> (first | (with_reducible assumption) | go_keep | (repeat (with_reducible refine InT.set ?_ _ _)); with_reducible assumption))
        (first
         | (go_at_call 92; (with_reducible refine (PN1.out _ ?_).mono ?_); (assumption); rintro e w' ⟨rfl, q⟩; have q0 := q.b0; have q1 := q.b1)
         | (go_at_call 89; (with_reducible refine (PW1.out _ ?_).mono ?_); (assumption); rintro e w' ⟨rfl, q⟩; have q0 := q.b0; have q1 := q.b1; obtain ⟨v0, z0⟩ := q.t0; obtain ⟨v1, z1⟩ := q.t1; obtain ⟨v2, z2⟩ := q.t2; obtain ⟨v3, z3⟩ := q.t3; obtain ⟨v4, z4⟩ := q.t4; have y0 := q.f0; have y1 := q.f1; have y2 := q.f2; have y3 := q.f3; have y4 := q.f4))
       all_goals go_wp2
       all_goals simp [bodyPost, results, Tryz.results49, go_sem, z0, z1, z2, z3, z4]
       all_goals exact tokPost_tok HS.out HJ.out.symm HT.out (five q.below (by omega) _ _ _ _ _)
     · have k6' : (k == 6) = false := by simpa using k6
       obtain ⟨_, _, ⟨v0, z0⟩, ⟨v1, z1⟩, ⟨v2, z2⟩, ⟨v3, z3⟩, ⟨v4, z4⟩, y0, y1, y2, y3, y4, zs, zb⟩ := HIn.out
       have ZB := lh zb
       clear zb HI H
       go_wp2
       simp [bodyPost, results, Tryz.results49, go_sem, z0, z1, z2, z3, z4]
       refine tokPost_err ?_ (five ZB.out (by omega) _ _ _ _ _)
       rw [HX.out, step, HM.out, if_neg (by rw [← KL.out]; simp [k3']), if_neg (by rw [← KD.out]; simp [k4']), if_neg (by rw [← KM.out]; simp [k6'])]
end
end Go.Proofs.YthdioipfdbbmmaaGreatDoor
