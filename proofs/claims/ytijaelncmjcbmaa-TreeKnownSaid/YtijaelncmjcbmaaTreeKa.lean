import Derived.Test.YtijaelncmjcbmaaTreeFd
namespace Go.Proofs.Ytijaelncmjcbmaa
open Go.RowKit
set_option maxHeartbeats 1000000 in
theorem refExpr_at (c : Int) (w : World) : Calls Try.prog 37 #[.int .u8 c] w fun e w' => e = .returned (.bool (isExprK c)) ∧ w' = w := by
  unfold isExprK
  by_cases h : 21 ≤ c
  · by_cases h2 : c ≤ 26
    · have e : (decide (21 ≤ c) && decide (c ≤ 26)) = true := by simp [h, h2]
      rw [e]
      clear e
      go_enter Try.func37, Try.ntmps37
      go_wp2
      go_ret
      exact ⟨rfl, rfl⟩
    · have e : (decide (21 ≤ c) && decide (c ≤ 26)) = false := by simp [h2]
      rw [e]
      clear e
      go_enter Try.func37, Try.ntmps37
      go_wp2
      go_ret
      exact ⟨rfl, rfl⟩
  · have e : (decide (21 ≤ c) && decide (c ≤ 26)) = false := by simp [h]
    rw [e]
    clear e
    have hd : decide (c ≥ 21) = false := by simpa using h
    go_enter Try.func37, Try.ntmps37
    go_wp2
    go_ret
    exact ⟨rfl, rfl⟩
set_option maxHeartbeats 1000000 in
theorem refStmt_at (c : Int) (w : World) : Calls Try.prog 49 #[.int .u8 c] w fun e w' => e = .returned (.bool (isStmtK c)) ∧ w' = w := by
  unfold isStmtK
  by_cases h : 7 ≤ c
  · by_cases h2 : c ≤ 19
    · have e : (decide (7 ≤ c) && decide (c ≤ 19)) = true := by simp [h, h2]
      rw [e]
      clear e
      go_enter Try.func49, Try.ntmps49
      go_wp2
      go_ret
      exact ⟨rfl, rfl⟩
    · have e : (decide (7 ≤ c) && decide (c ≤ 19)) = false := by simp [h2]
      rw [e]
      clear e
      go_enter Try.func49, Try.ntmps49
      go_wp2
      go_ret
      exact ⟨rfl, rfl⟩
  · have e : (decide (7 ≤ c) && decide (c ≤ 19)) = false := by simp [h]
    rw [e]
    clear e
    have hd : decide (c ≥ 7) = false := by simpa using h
    go_enter Try.func49, Try.ntmps49
    go_wp2
    go_ret
    exact ⟨rfl, rfl⟩
def allK (what k : Int) : Bool := if what = 0 then isExprK k else if what = 1 then isStmtK k else k == what
theorem all_drop_yes (f : Int → Bool) (l : List Int) (i : Nat) (h : i < l.length) (hf : f (l.getD i 0) = true) : (l.drop (i + 1)).all f = (l.drop i).all f := by
  rw [List.drop_eq_getElem_cons h, List.all_cons]
  simp only [List.getD, List.getElem?_eq_getElem h, Option.getD_some] at hf
  rw [hf, Bool.true_and]
theorem all_drop_no (f : Int → Bool) (l : List Int) (i : Nat) (h : i < l.length) (hf : f (l.getD i 0) = false) : (l.drop i).all f = false := by
  rw [List.drop_eq_getElem_cons h, List.all_cons]
  simp only [List.getD, List.getElem?_eq_getElem h, Option.getD_some] at hf
  rw [hf, Bool.false_and]
set_option maxHeartbeats 4000000 in
set_option maxRecDepth 1000000 in
theorem refAll_at (w : World) (p : Option Addr) (len c : Nat) (l : List Int) (frm : Nat) (what : Int) (h : BV w p len c l) (hl : len ≤ 1000) (hf : frm ≤ 1) (hw : what = 0 ∨ what = 1 ∨ what = 5) :
    Calls Try.prog 34 #[.slice p len c, .int .i64 (frm : Int), .int .u8 what] w fun e w' => e = .returned (.bool ((l.drop frm).all (allK what))) ∧ w' = w := by
  have hlen := Lib.hid h.len_eq
  have H := Lib.hid h
  clear h
  go_enter Try.func34, Try.ntmps34
  go_wp2_with fail
  go_loop [7] (fun iv => ∃ i : Nat, i ≤ len + 1 ∧ iv = .int .i64 i ∧ Hid ((l.drop i).all (allK what) = (l.drop frm).all (allK what))) (fun iv => len + 1 - (intOf iv).toNat)
  case atStart => exact ⟨frm, by omega, rfl, Lib.hid rfl⟩
  case round =>
    obtain ⟨i, hi, rfl, HA⟩ := hrel
    by_cases hil : i < len
    · obtain ⟨b, off, rfl, hc⟩ := H.out.cell (by omega)
      have hci := hc i hil
      have HY := Lib.hid (all_drop_yes (allK what) l i (by have := hlen.out; omega))
      have HN := Lib.hid (all_drop_no (allK what) l i (by have := hlen.out; omega))
      generalize l.getD i 0 = x at *
      clear hc
      have HE := Lib.hid (refExpr_at x w)
      have HS := Lib.hid (refStmt_at x w)
      rcases hw with rfl | rfl | rfl
      · have e : allK 0 x = isExprK x := rfl
        rw [e] at HY HN
        cases hx : isExprK x with
        | true =>
          rw [hx] at HE
          have HYY := Lib.hid (HY.out hx)
          clear hx HY HN HS e
          go_wp2_with fail
          (with_reducible refine HE.out.mono ?_)
          rintro e w1 ⟨rfl, rfl⟩
          clear HE
          go_wp2_with fail
          go_round
          case rel => exact ⟨i + 1, by omega, by go_num, Lib.hid (by rw [HYY.out, HA.out])⟩
          case measure => simp [intOf]; omega
        | false =>
          rw [hx] at HE
          have HNN := Lib.hid (HN.out hx)
          clear hx HY HN HS e
          go_wp2_with fail
          (with_reducible refine HE.out.mono ?_)
          rintro e w1 ⟨rfl, rfl⟩
          clear HE
          go_wp2
          go_ret
          exact ⟨retB (by rw [← HA.out, HNN.out]), rfl⟩
      · have e : allK 1 x = isStmtK x := rfl
        rw [e] at HY HN
        cases hx : isStmtK x with
        | true =>
          rw [hx] at HS
          have HYY := Lib.hid (HY.out hx)
          clear hx HY HN HE e
          go_wp2_with fail
          (with_reducible refine HS.out.mono ?_)
          rintro e w1 ⟨rfl, rfl⟩
          clear HS
          go_wp2_with fail
          go_round
          case rel => exact ⟨i + 1, by omega, by go_num, Lib.hid (by rw [HYY.out, HA.out])⟩
          case measure => simp [intOf]; omega
        | false =>
          rw [hx] at HS
          have HNN := Lib.hid (HN.out hx)
          clear hx HY HN HE e
          go_wp2_with fail
          (with_reducible refine HS.out.mono ?_)
          rintro e w1 ⟨rfl, rfl⟩
          clear HS
          go_wp2
          go_ret
          exact ⟨retB (by rw [← HA.out, HNN.out]), rfl⟩
      · have e : allK 5 x = (x == 5) := rfl
        rw [e] at HY HN
        by_cases hx : x = 5
        · have d1 : (x != 5) = false := by simp [hx]
          have HYY := Lib.hid (HY.out (by simp [hx]))
          clear hx HY HN HS HE e
          go_wp2_with fail
          go_round
          case rel => exact ⟨i + 1, by omega, by go_num, Lib.hid (by rw [HYY.out, HA.out])⟩
          case measure => simp [intOf]; omega
        · have d1 : (x != 5) = true := by simpa using hx
          have HNN := Lib.hid (HN.out (by simpa using hx))
          clear hx HY HN HS HE e
          go_wp2
          go_ret
          exact ⟨retB (by rw [← HA.out, HNN.out]), rfl⟩
    · have HE : Hid ((l.drop frm).all (allK what) = true) := Lib.hid (by rw [← HA.out, List.drop_eq_nil_of_le (by have := hlen.out; omega)]; rfl)
      have hd : decide ((i : Int) < (len : Int)) = false := by simp; omega
      go_wp2
      go_ret
      exact ⟨retB HE.out.symm, rfl⟩
end Go.Proofs.Ytijaelncmjcbmaa
