import Derived.Test.YtijaelncmjcbmaaTreeRr
import Derived.Test.YtijaelncmjcbmaaTreeP
import Derived.Test.YtijaelncmjcbmaaTreeY
import Derived.Test.YtijaelncmjcbmaaTreeT
namespace Go.Proofs.Ytijaelncmjcbmaa
open Go.RowKit
set_option maxHeartbeats 4000000 in
theorem refDeep_at (w : World) (p : Option Addr) (len c : Nat) (ns : List Nd) (h : TV w p len c ns) (hS : Small ns) :
    Calls Try.prog 14 #[.slice p len c] w fun e w' => e = .returned (.int .i64 (deepP ns : Nat)) ∧ Below w.heap.size w w' := by
  have H := Lib.hid h
  have HS := Lib.hid hS
  have hlen := Lib.hid h.len_eq
  have hl1 : len ≤ 1000 := by rw [← h.len_eq]; exact hS.len
  have HR := refRight_at w p len c ns h hS
  rw [← right_eq ns (fun nd hm => by have := (hS.each nd hm).1; omega)] at HR
  have HR := Lib.hid HR
  clear h hS
  cases hr : rightP ns with
  | false =>
    have HZ : Hid (deepP ns = 0) := Lib.hid (deepP_not hr)
    rw [hr] at HR
    generalize deepP ns = dp at *
    clear hr
    go_enter Try.func14, Try.ntmps14
    go_wp2_with fail
    (with_reducible refine HR.out.mono ?_)
    rintro e w1 ⟨rfl, hb⟩
    have B1 := Lib.hid hb
    clear hb HR
    go_wp2
    go_ret
    exact ⟨retI (by rw [HZ.out]; rfl), B1.out⟩
  | true =>
    rw [hr] at HR
    obtain ⟨s, hs, hk0, _⟩ := right_sizes hr
    have HSO := sizesP_some hs
    have e1 : isDeepB 0 (kindAt ns 0) = false := by rw [hk0]; rfl
    have e2 : ((if isDeepB 0 (kindAt ns 0) = true then 1 else 0) + deepK (ownK ns) (kidsAt ns) len 0 : Nat) = deepP ns := by
      rw [e1, deepP_right hr, hlen.out]; simp
    have hpos : 0 < len := by have := HSO.pos; have := hlen.out; omega
    have HD : Hid (∀ W', TV W' p len c ns → Calls Try.prog 29 #[.slice p len c, .int .i64 0, .int .u8 0] W' fun e w' => e = .returned (.int .i64 (deepP ns : Nat)) ∧ ∃ m, w' = W'.drewN m) := Lib.hid (fun W' h => by
      have h1 := refDeepN_at p len c ns s HSO hl1 (fun nd hm => (HS.out.each nd hm).1) len 0 0 W' h hpos (by omega)
      rw [e2] at h1
      exact h1)
    generalize deepP ns = dp at *
    clear hr hs hk0 HSO e1 e2
    go_enter Try.func14, Try.ntmps14
    go_wp2_with fail
    (with_reducible refine HR.out.mono ?_)
    rintro e w1 ⟨rfl, hb⟩
    have B1 := Lib.hid hb
    have HD1 := Lib.hid (HD.out w1 (H.out.on hb))
    clear hb HR HD
    go_wp2_with fail
    (with_reducible refine HD1.out.mono ?_)
    rintro e w2 ⟨rfl, m, rfl⟩
    clear HD1
    go_wp2
    go_ret
    exact ⟨rfl, B1.out.trans (drewN_below _ _ _)⟩
set_option maxHeartbeats 4000000 in
theorem refSize_at (w : World) (p : Option Addr) (len c : Nat) (ns : List Nd) (i : Int) (h : TV w p len c ns) (hS : Small ns) :
    Calls Try.prog 16 #[.slice p len c, .int .i64 i] w fun e w' => e = .returned (.int .i64 (sizeP ns i)) ∧ Below w.heap.size w w' := by
  have H := Lib.hid h
  have HS := Lib.hid hS
  have hlen := Lib.hid h.len_eq
  have hl1 : len ≤ 1000 := by rw [← h.len_eq]; exact hS.len
  have HR := refRight_at w p len c ns h hS
  rw [← right_eq ns (fun nd hm => by have := (hS.each nd hm).1; omega)] at HR
  have HR := Lib.hid HR
  clear h hS
  cases hr : rightP ns with
  | false =>
    have HZ : Hid (sizeP ns i = 0) := Lib.hid (by unfold sizeP; rw [if_neg (by rw [hr]; simp)])
    rw [hr] at HR
    clear hr
    go_enter Try.func16, Try.ntmps16
    go_wp2_with fail
    (with_reducible refine HR.out.mono ?_)
    rintro e w1 ⟨rfl, hb⟩
    have B1 := Lib.hid hb
    clear hb HR
    go_wp2
    go_ret
    exact ⟨retI HZ.out.symm, B1.out⟩
  | true =>
    rw [hr] at HR
    by_cases h0 : i < 0
    · have d0 : decide (i < 0) = true := by simpa using h0
      have HZ : Hid (sizeP ns i = 0) := Lib.hid (by unfold sizeP; rw [if_neg (by omega)])
      clear hr h0
      go_enter Try.func16, Try.ntmps16
      go_wp2_with fail
      (with_reducible refine HR.out.mono ?_)
      rintro e w1 ⟨rfl, hb⟩
      have B1 := Lib.hid hb
      clear hb HR
      go_wp2
      go_ret
      exact ⟨retI HZ.out.symm, B1.out⟩
    · have d0 : decide (i < 0) = false := by simpa using h0
      by_cases h1 : i < len
      · have d1 : decide (i ≥ (len : Int)) = false := by simpa using h1
        obtain ⟨q, rfl⟩ : ∃ q : Nat, i = (q : Int) := ⟨i.toNat, (Int.toNat_of_nonneg (by omega)).symm⟩
        have d2 : decide (len ≤ q) = false := by simp; omega
        obtain ⟨s, hs, hk0, _⟩ := right_sizes hr
        have HSO := sizesP_some hs
        have hql : q < len := by omega
        have hqn : q < ns.length := by have := hlen.out; omega
        have HZ : Hid (sizeP ns (q : Int) = (s.getD q 0 : Nat)) := Lib.hid (sizeP_at hr hs hqn)
        have HEN : endK (kidsAt ns) len len q = ((q + s.getD q 0 : Nat) : Int) := by
          rw [← hlen.out]
          exact HSO.right.endK _ q hqn (by omega)
        have hz : q + s.getD q 0 ≤ len := by have := (HSO.right.size q hqn); have := hlen.out; omega
        have HE : Hid (∀ W', TV W' p len c ns → Calls Try.prog 24 #[.slice p len c, .int .i64 (q : Int)] W' fun e w' => e = .returned (.int .i64 ((q + s.getD q 0 : Nat) : Int)) ∧ w' = W') := Lib.hid (fun W' h => by
          have h1 := refEnd_at W' p len c ns h hl1 (fun nd hm => (HS.out.each nd hm).1) len q (by omega) (by omega)
          rw [HEN] at h1
          exact h1)
        generalize s.getD q 0 = z at *
        have hw : IntKind.i64.wrap (((q + z : Nat) : Int) - (q : Int)) = (z : Int) := by
          rw [show ((q + z : Nat) : Int) - (q : Int) = (z : Int) by omega]
          exact IntWalk.i64_in _ (by omega)
        have hw2 : IntKind.i64.wrap ((q : Int) + (z : Int) - (q : Int)) = (z : Int) := by
          rw [show (q : Int) + (z : Int) - (q : Int) = (z : Int) by omega]
          exact IntWalk.i64_in _ (by omega)
        clear hr hs hk0 HSO HEN hqn h0 h1
        go_enter Try.func16, Try.ntmps16
        go_wp2_with fail
        (with_reducible refine HR.out.mono ?_)
        rintro e w1 ⟨rfl, hb⟩
        have B1 := Lib.hid hb
        have HE1 := Lib.hid (HE.out w1 (H.out.on hb))
        clear hb HR HE
        go_wp2_with fail
        (with_reducible refine HE1.out.mono ?_)
        rintro e w2 ⟨rfl, rfl⟩
        clear HE1
        go_wp2
        go_ret
        exact ⟨retI HZ.out.symm, B1.out⟩
      · have d1 : decide (i ≥ (len : Int)) = true := by simp; omega
        have HZ : Hid (sizeP ns i = 0) := Lib.hid (by unfold sizeP; rw [if_neg (by have := hlen.out; omega)])
        clear hr h0 h1
        go_enter Try.func16, Try.ntmps16
        go_wp2_with fail
        (with_reducible refine HR.out.mono ?_)
        rintro e w1 ⟨rfl, hb⟩
        have B1 := Lib.hid hb
        clear hb HR
        go_wp2
        go_ret
        exact ⟨retI HZ.out.symm, B1.out⟩
set_option maxHeartbeats 8000000 in
set_option maxRecDepth 1000000 in
theorem treeRight (w : World) (p : Option Addr) (len c : Nat) (ns : List Nd) (i0 : Int) (h : TV w p len c ns) :
    Calls Try.prog 3 #[.agg #[.slice p len c], .int .i64 i0] w fun e w' => e = .returned (.bool true) ∧ Below w.heap.size w w' := by
  have hlen := Lib.hid h.len_eq
  have H := Lib.hid h
  have B0 := Lib.hid (one_below w (.cells #[.slice p len c] 24))
  have HF := Lib.hid (few_at (w.alloc (.cells #[.slice p len c] 24)) p len c ns 200 (h.on B0.out) (by omega) (by omega))
  clear h
  go_enter Try.func3, Try.ntmps3
  go_wp2_with fail
  (with_reducible refine HF.out.mono ?_)
  rintro e wa ⟨rfl, hb⟩
  have BA := Lib.hid (B0.out.trans (hb.mono (by simp)))
  have c0 : wa.cell? ⟨w.heap.size, 0, none⟩ = some (.slice p len c) := by rw [hb.cell (by simp)]; simp
  clear hb HF
  cases hf : fewP ns 200 with
  | false =>
    have HW := Lib.hid (works_at wa)
    clear hf
    go_wp2_with fail
    (with_reducible refine HW.out.mono ?_)
    rintro e wb ⟨rfl, hb⟩
    have BB := Lib.hid (BA.out.trans (hb.mono BA.out.size))
    clear hb HW
    go_wp2
    go_ret
    exact ⟨rfl, BB.out⟩
  | true =>
    have HSM := Lib.hid (few_small hf (by omega))
    have hll : len ≤ 200 := by
      unfold fewP at hf
      simp only [Bool.and_eq_true, decide_eq_true_eq] at hf
      have := hlen.out
      omega
    have HP := Lib.hid (plain_at wa p len c ns (H.out.on BA.out) (by omega))
    have HRE := Lib.hid (right_eq ns (fun nd hm => by have := (HSM.out.each nd hm).1; omega))
    clear hf
    go_wp2_with fail
    (with_reducible refine HP.out.mono ?_)
    rintro e W0 ⟨⟨pw, cw, rfl, hT⟩, hb⟩
    have B1 := Lib.hid (BA.out.trans (hb.mono BA.out.size))
    have c1 : W0.cell? ⟨w.heap.size, 0, none⟩ = some (.slice p len c) := Aside.of hb _ _ c0
    have T1 := Lib.hid hT
    have HR1 := Lib.hid (right_at W0 p len c ns (H.out.on B1.out) HSM.out)
    clear hb HP c0 hT
    go_wp2_with fail
    (with_reducible refine HR1.out.mono ?_)
    rintro e W1 ⟨rfl, hb⟩
    have B2 := Lib.hid (B1.out.trans (hb.mono B1.out.size))
    have c2 : W1.cell? ⟨w.heap.size, 0, none⟩ = some (.slice p len c) := Aside.of hb _ _ c1
    have T2 := Lib.hid (T1.out.on hb)
    have HR2 := refRight_at W1 pw len cw ns T2.out HSM.out
    rw [← HRE.out] at HR2
    have HR2 := Lib.hid HR2
    clear hb HR1 c1 T1
    generalize rightP ns = rb at *
    go_wp2_with fail
    (with_reducible refine HR2.out.mono ?_)
    rintro e W2 ⟨rfl, hb⟩
    have B3 := Lib.hid (B2.out.trans (hb.mono B2.out.size))
    have c3 : W2.cell? ⟨w.heap.size, 0, none⟩ = some (.slice p len c) := Aside.of hb _ _ c2
    have T3 := Lib.hid (T2.out.on hb)
    have HD1 := Lib.hid (deep_at W2 p len c ns (H.out.on B3.out) HSM.out)
    clear hb HR2 c2 T2
    go_wp2_with fail
    (with_reducible refine HD1.out.mono ?_)
    rintro e W3 ⟨rfl, hb⟩
    have B4 := Lib.hid (B3.out.trans (hb.mono B3.out.size))
    have c4 : W3.cell? ⟨w.heap.size, 0, none⟩ = some (.slice p len c) := Aside.of hb _ _ c3
    have T4 := Lib.hid (T3.out.on hb)
    have HD2 := Lib.hid (refDeep_at W3 pw len cw ns T4.out HSM.out)
    clear hb HD1 c3 T3
    generalize deepP ns = dp at *
    go_wp2_with fail
    (with_reducible refine HD2.out.mono ?_)
    rintro e W4 ⟨rfl, hb⟩
    have B5 := Lib.hid (B4.out.trans (hb.mono B4.out.size))
    have c5 : W4.cell? ⟨w.heap.size, 0, none⟩ = some (.slice p len c) := Aside.of hb _ _ c4
    have T5 := Lib.hid (T4.out.on hb)
    have HS1 := Lib.hid (size_at W4 p len c ns i0 (H.out.on B5.out) HSM.out)
    clear hb HD2 c4 T4
    go_wp2_with fail
    (with_reducible refine HS1.out.mono ?_)
    rintro e W5 ⟨rfl, hb⟩
    have B6 := Lib.hid (B5.out.trans (hb.mono B5.out.size))
    have T6 := Lib.hid (T5.out.on hb)
    have HS2 := Lib.hid (refSize_at W5 pw len cw ns i0 T6.out HSM.out)
    clear hb HS1 c5 T5
    generalize sizeP ns i0 = sz at *
    go_wp2_with fail
    (with_reducible refine HS2.out.mono ?_)
    rintro e W6 ⟨rfl, hb⟩
    have B7 := Lib.hid (B6.out.trans (hb.mono B6.out.size))
    have HW := Lib.hid (works_at W6)
    clear hb HS2 T6
    go_wp2_with fail
    (with_reducible refine HW.out.mono ?_)
    rintro e wb ⟨rfl, hb⟩
    have B8 := Lib.hid (B7.out.trans (hb.mono B7.out.size))
    clear hb HW
    go_wp2
    go_ret
    exact ⟨rfl, B8.out⟩
end Go.Proofs.Ytijaelncmjcbmaa
