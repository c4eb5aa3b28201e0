import Derived.Test.YtijaelncmjcbmaaTreeKa
namespace Go.Proofs.Ytijaelncmjcbmaa
open Go.RowKit
def isOk (k w : Int) : Bool := if w = 0 then isExprK k else k == w
theorem isR_range (l m : List Int) : isR l m = (decide (l.length = m.length) && (List.range l.length).all fun i => isOk (l.getD i 0) (m.getD i 0)) := by
  unfold isR
  by_cases h : l.length = m.length
  · rw [decide_eq_true h, Bool.true_and, Bool.true_and, Bool.eq_iff_iff, List.all_eq_true, List.all_eq_true]
    constructor
    · intro h1 i hi
      have hi1 := List.mem_range.1 hi
      have h2 := h1 (l[i], m[i]) (by
        rw [List.mem_iff_getElem]
        exact ⟨i, by simp; omega, by simp⟩)
      simpa [isOk, List.getD, hi1, show i < m.length by omega] using h2
    · intro h1 x hx
      obtain ⟨i, hi, rfl⟩ := List.mem_iff_getElem.1 hx
      have hi1 : i < l.length := by simp at hi; omega
      have h2 := h1 i (List.mem_range.2 hi1)
      simpa [isOk, List.getD, hi1, show i < m.length by omega] using h2
  · rw [decide_eq_false h]; rfl
set_option maxHeartbeats 8000000 in
set_option maxRecDepth 1000000 in
theorem refIs_at (w : World) (p p2 : Option Addr) (len c len2 c2 : Nat) (l m : List Int) (h : BV w p len c l) (h2 : BV w p2 len2 c2 m) (hl : len ≤ 1000) (hm : ∀ x ∈ m, 0 ≤ x) :
    Calls Try.prog 35 #[.slice p len c, .slice p2 len2 c2] w fun e w' => e = .returned (.bool (isR l m)) ∧ Below w.heap.size w w' := by
  have hlen := Lib.hid h.len_eq
  have hlen2 := Lib.hid h2.len_eq
  have H := Lib.hid h
  have H2 := Lib.hid h2
  have HM := Lib.hid hm
  clear h h2 hm
  rw [isR_range]
  by_cases hll : len = len2
  · have d0 : ((len : Int) != (len2 : Int)) = false := by simp [hll]
    have HLL := Lib.hid hll
    clear hll
    go_enter Try.func35, Try.ntmps35
    go_wp2_with fail
    clear d0
    go_loopw [5] (fun iv wr => ∃ i : Nat, i ≤ len ∧ iv = .int .i64 i ∧ Hid ((List.range i).all (fun i => isOk (l.getD i 0) (m.getD i 0)) = true) ∧ Hid (Below w.heap.size w wr)) (fun iv _ => len - (intOf iv).toNat)
    case atStart => exact ⟨0, by omega, rfl, Lib.hid rfl, Lib.hid (Below.refl _ _)⟩
    case round =>
      obtain ⟨i, hi, rfl, HT, HB⟩ := hrel
      by_cases hil : i < len
      · obtain ⟨b, off, rfl, hc⟩ := (H.out.on (Aside.of HB.out)).cell (by omega)
        obtain ⟨b2, off2, rfl, hc2⟩ := (H2.out.on (Aside.of HB.out)).cell (by have := HLL.out; omega)
        have r1 := hc i hil
        have r2 := hc2 i (by have := HLL.out; omega)
        have hix : i < l.length := by have := hlen.out; omega
        have hm0 := HM.out (m.getD i 0) (by
          have : i < m.length := by have := hlen2.out; have := HLL.out; omega
          simp [List.getD, this])
        have HSU : Hid ((List.range (i + 1)).all (fun i => isOk (l.getD i 0) (m.getD i 0)) = ((List.range i).all (fun i => isOk (l.getD i 0) (m.getD i 0)) && isOk (l.getD i 0) (m.getD i 0))) := Lib.hid (range_all_succ _ i)
        have HNO : Hid (isOk (l.getD i 0) (m.getD i 0) = false → (decide (l.length = m.length) && (List.range l.length).all fun i => isOk (l.getD i 0) (m.getD i 0)) = false) := Lib.hid (fun h => by rw [range_all_no (fun i => isOk (l.getD i 0) (m.getD i 0)) l.length i hix h, Bool.and_false])
        generalize l.getD i 0 = x at *
        generalize m.getD i 0 = y at *
        have b0 : (0 : Int) ≤ (i : Int) := by omega
        have b1 : (i : Int) < (len : Int) := by omega
        have b2' : (i : Int) < (len2 : Int) := by have := HLL.out; omega
        have HBD : Hid (∀ n, Below w.heap.size w (wr.drewN n)) := Lib.hid (fun n => HB.out.trans (drewN_below _ _ _))
        have HE : Hid (∀ n, Calls Try.prog 37 #[.int .u8 x] (wr.drewN n) fun e w' => e = .returned (.bool (isExprK x)) ∧ w' = wr.drewN n) := Lib.hid (fun n => refExpr_at x _)
        clear hc hc2 hix
        by_cases hy : y = 0
        · subst hy
          have e : isOk x 0 = isExprK x := rfl
          rw [e] at HSU HNO
          cases hx : isExprK x with
          | true =>
            rw [hx] at HE HSU
            clear hx HNO e hm0
            go_wp2_with fail
            go_quiet (first | (go_at_call 37; refine Calls.quiet_of_same (HE.out _)))
            go_wp2_with fail
            go_roundw
            case rel => exact ⟨i + 1, by omega, by go_num, Lib.hid (by rw [HSU.out, HT.out]; rfl), Lib.hid (HBD.out nq)⟩
            case measure => simp [intOf]; omega
          | false =>
            rw [hx] at HE
            have HF := Lib.hid (HNO.out hx)
            clear hx HNO e hm0
            go_wp2_with fail
            go_quiet (first | (go_at_call 37; refine Calls.quiet_of_same (HE.out _)))
            go_wp2
            go_ret
            exact ⟨retB HF.out.symm, HBD.out nq⟩
        · have e : isOk x y = (x == y) := by unfold isOk; rw [if_neg hy]
          rw [e] at HSU HNO
          have d2 : (y == 0) = false := by simpa using hy
          have d3 : decide (y > 0) = true := by simp; omega
          by_cases hx : x = y
          · have d1 : (x != y) = false := by simp [hx]
            have HOK : Hid ((x == y) = true) := Lib.hid (by simp [hx])
            clear hx HNO e hm0 hy
            go_wp2_with fail
            go_quiet (fail)
            go_wp2_with fail
            go_roundw
            case rel => exact ⟨i + 1, by omega, by go_num, Lib.hid (by rw [HSU.out, HT.out, HOK.out]; rfl), Lib.hid (HBD.out nq)⟩
            case measure => simp [intOf]; omega
          · have d1 : (x != y) = true := by simpa using hx
            have HF := Lib.hid (HNO.out (by simpa using hx))
            clear hx HNO e hm0 hy
            go_wp2_with fail
            go_quiet (fail)
            go_wp2
            go_ret
            exact ⟨retB HF.out.symm, HBD.out nq⟩
      · have HE : Hid ((decide (l.length = m.length) && (List.range l.length).all fun i => isOk (l.getD i 0) (m.getD i 0)) = true) := Lib.hid (by
          have e : i = l.length := by have := hlen.out; omega
          rw [← e, HT.out, decide_eq_true (by rw [e, hlen.out, hlen2.out, HLL.out])]
          rfl)
        go_wp2
        go_ret
        exact ⟨retB HE.out.symm, HB.out⟩
  · have d0 : ((len : Int) != (len2 : Int)) = true := by simp; omega
    have HNO : Hid ((decide (l.length = m.length) && (List.range l.length).all fun i => isOk (l.getD i 0) (m.getD i 0)) = false) := Lib.hid (by rw [decide_eq_false (by rw [hlen.out, hlen2.out]; exact hll)]; rfl)
    clear hll
    go_enter Try.func35, Try.ntmps35
    go_wp2
    go_ret
    exact ⟨retB HNO.out.symm, Below.refl _ _⟩
end Go.Proofs.Ytijaelncmjcbmaa
