import Derived.Test.YtfboifbpbjmcbaaPzV
import Derived.Test.YtfboifbpbjmcbaaPzT
import Derived.Test.YtfboifbpbjmcbaaPzR
import Derived.Test.YtfboifbpbjmcbaaPzW
namespace Go.Proofs.Ytfboifbpbjmcbaa.Pz
open Go.RowKit
theorem IsIn.sz {n₀ : Nat} {W : World} {p : Option Addr} {len c : Nat} {is : List Ins} (h : IsIn n₀ W p len c is) : ∀ x ∈ is, SzI x := fun x hx => by
  obtain ⟨i, hi, rfl⟩ := List.getElem_of_mem hx
  have hl := h.len_eq
  obtain ⟨b, off, _, _, hc⟩ := h.cell (by omega)
  obtain ⟨kp, kl, kc, vp, vl, vc, ic⟩ := hc i (by omega)
  have e : is.getD i default = is[i] := by simp [List.getD, hi]
  rw [e] at ic
  refine ⟨by rw [ic.key.len_eq]; exact ic.key.sz, by rw [ic.vals.len_eq]; exact ic.vals.sz, fun v hv => ?_⟩
  obtain ⟨j, hj, rfl⟩ := List.getElem_of_mem hv
  have hvl := ic.vals.len_eq
  obtain ⟨b', o', _, _, hc'⟩ := ic.vals.cell (by omega)
  obtain ⟨q, l, d, _, ht⟩ := hc' j (by omega)
  have e2 : is[i].vals.getD j [] = is[i].vals[j] := by simp [List.getD, hj]
  rw [e2] at ht
  rw [ht.len_eq]
  exact ht.sz
theorem withTo_sz (is : List Ins) (pl : List Int) (h : ∀ x ∈ is, SzI x) (k : Nat) (hk : k ≤ is.length) : ∀ x ∈ withTo is pl k, SzI x := by
  induction k with
  | zero => intro x hx; simp [withTo] at hx
  | succ k ih =>
    intro x hx
    simp only [withTo] at hx
    split at hx
    · exact ih (by omega) x hx
    · rcases List.mem_append.1 hx with h1 | h1
      · exact ih (by omega) x h1
      · rw [List.mem_singleton] at h1
        subst h1
        have hm : is.getD k default ∈ is := by simp [List.getD, show k < is.length by omega]
        have h2 := h _ hm
        exact ⟨h2.1, h2.2.1, h2.2.2⟩
set_option maxHeartbeats 16000000 in
set_option maxRecDepth 1000000 in
/-- The law PiecesAny. -/
theorem piecesAny (w : World) (n₀ len c dl dc : Nat) (p dp : Option Addr) (is : List Ins) (drop : List Int) (way : Int) (hI : IsIn n₀ w p len c is) (hD : VIn n₀ w dp dl dc drop) (hwf : ∀ x ∈ drop, wfI x = true) (hn : n₀ ≤ w.heap.size) :
    Calls Try.prog 3 #[.slice p len c, .int .u8 way, .slice dp dl dc] w fun e w' => e = .returned (.bool true) ∧ Below w.heap.size w w' := by
  have CF := Lib.hid (few_at w n₀ len c p is 60 hI (by omega))
  have WK := Lib.hid (works w)
  cases hf : fewP is 60 with
  | false =>
    rw [hf] at CF
    clear hI hD hwf
    go_enter Try.func3, Try.ntmps3
    go_wp2_with fail
    (with_reducible refine CF.out.mono ?_)
    rintro e w1 ⟨rfl, rfl⟩
    go_wp2_with fail
    (with_reducible refine WK.out.mono ?_)
    rintro e w2 ⟨rfl, hb2⟩
    go_wp2
    go_ret
    exact ⟨rfl, hb2⟩
  | true =>
    rw [hf] at CF
    by_cases hdl : 60 < dl
    · have hd1 : (dl : Int) > 60 := by omega
      clear hI hD hwf
      go_enter Try.func3, Try.ntmps3
      go_wp2_with fail
      (with_reducible refine CF.out.mono ?_)
      rintro e w1 ⟨rfl, rfl⟩
      go_wp2_with fail
      (with_reducible refine WK.out.mono ?_)
      rintro e w2 ⟨rfl, hb2⟩
      go_wp2
      go_ret
      exact ⟨rfl, hb2⟩
    · have hd1 : ¬ (dl : Int) > 60 := by omega
      have hlen := hI.len_eq
      have hl60 : len ≤ 60 := by
        unfold fewP at hf
        rw [hlen] at hf
        simp at hf
        omega
      have HI := Lib.hid hI
      have HD := Lib.hid hD
      have HW := Lib.hid hwf
      have HSZ := Lib.hid hI.sz
      have HSZ2 : Hid (∀ x ∈ withoutP is drop, SzI x) := Lib.hid (withTo_sz is _ hI.sz _ (Nat.le_refl _))
      have hwl : (withoutP is drop).length ≤ 60 := Nat.le_trans (withTo_len is _ _) (by omega)
      have CP := Lib.hid (plainC_at w n₀ len c p is hI hn (by omega))
      clear hI hD hwf WK hf
      go_enter Try.func3, Try.ntmps3
      go_wp2_with fail
      (with_reducible refine CF.out.mono ?_)
      rintro e w0 ⟨rfl, rfl⟩
      go_wp2_with fail
      (with_reducible refine CP.out.mono ?_)
      rintro e w1 ⟨v, rfl, hO1, hb1⟩
      obtain ⟨mp, mc, rfl, hM⟩ := is_own hO1 HSZ.out
      rw [hlen] at hM
      rw [hlen]
      have HM := Lib.hid hM
      have HB1 := Lib.hid hb1
      have hs1 := hb1.size
      have CU := Lib.hid (units_row w1 n₀ len c p is way (HI.out.on (Kb.of hb1 hn)) (by omega) (by omega))
      clear hO1 hM hb1 CP CF
      go_wp2_with fail
      (with_reducible refine CU.out.mono ?_)
      rintro e w2 ⟨up, uc, rfl, hU, hb2⟩
      have HU := Lib.hid hU
      have HB2 := Lib.hid (HB1.out.trans (hb2.mono hs1))
      have HM2 := Lib.hid (HM.out.on (Kb.of hb2 (Nat.le_refl _)))
      have hs2 := hb2.size
      have CR := Lib.hid (refUnits_at w2 w1.heap.size len mc mp is way HM2.out hs2 (by omega))
      clear hU hb2 CU HB1
      have hul : (unitsP (opsOf is) way).length ≤ 60 := by
        have := unitsTo_len (opsOf is) way (opsOf is).length
        have h2 := opsOf_len is
        unfold unitsP
        omega
      obtain ⟨US, hUS⟩ : ∃ US, unitsP (opsOf is) way = US := ⟨_, rfl⟩
      rw [hUS] at HU CR hul ⊢
      clear hUS
      obtain ⟨n, hnn⟩ : ∃ n, US.length = n := ⟨_, rfl⟩
      rw [hnn] at HU CR hul ⊢
      clear hnn
      go_wp2_with fail
      (with_reducible refine CR.out.mono ?_)
      rintro e w3 ⟨rp, rc, rfl, hR, hb3⟩
      have HR := Lib.hid hR
      have HU3 := Lib.hid (HU.out.on (Kb.of hb3 (Nat.le_refl _)))
      have HB3 := Lib.hid (HB2.out.trans (hb3.mono HB2.out.size))
      have HM3 := Lib.hid (HM2.out.on (Kb.of hb3 hs2))
      have hs3 := hb3.size
      have huc := hR.cap
      have huc2 := HU.out.cap
      clear hR hb3 CR HU HB2 HM2
      go_wp2_with fail
      go_loopw [10] (fun iv wr => ∃ i : Nat, iv = .int .i64 i ∧ i ≤ n ∧ Hid (∀ B, Below B w3 wr)) (fun iv _ => n - (intOf iv).toNat)
      case atStart => exact ⟨0, rfl, Nat.zero_le _, Lib.hid (fun B => Below.refl B _)⟩
      case round =>
        obtain ⟨i, rfl, hi, HX⟩ := hrel
        by_cases hin : i < n
        · obtain ⟨bu, rfl, hbu, hcu⟩ := (HU3.out.on (Kb.of (HX.out w2.heap.size) (Nat.le_refl _))).cell (by omega)
          obtain ⟨br, rfl, hbr, hcr⟩ := (HR.out.on (Kb.of (HX.out w3.heap.size) (Nat.le_refl _))).cell (by omega)
          obtain ⟨m0, m1⟩ := hcu i hin
          obtain ⟨k0, k1⟩ := hcr i hin
          generalize (US.getD i (0, 0)).1 = uf at *
          generalize (US.getD i (0, 0)).2 = ut at *
          clear hcu hcr
          go_wp2_with fail
          go_quiet (fail)
          go_wp2
          go_roundw
          case rel => exact ⟨i + 1, by simp, by omega, Lib.hid (fun B => (HX.out B).trans (below_drewN B wr nq))⟩
          case measure => simp [intOf]; omega
        · obtain rfl : i = n := by omega
          obtain ⟨wg, rfl⟩ : ∃ wg : World, wg = wr := ⟨_, rfl⟩
          have HG := Lib.hid (HB3.out.trans (HX.out _))
          have HMG := Lib.hid (HM3.out.on (Kb.of (HX.out w1.heap.size) (Nat.le_refl _)))
          have hsg : w3.heap.size ≤ wg.heap.size := (HX.out 0).size
          have hsw := hs1
          clear HX HB3 HM3 HR HU3
          go_wp2_with fail
          go_loopw [11] (fun av W => ∃ a : Int, av = .int .i64 a ∧ -1 ≤ a ∧ a ≤ len + 1 ∧ Hid (Below wg.heap.size wg W)) (fun av _ => ((len : Int) + 1 - intOf av).toNat)
          case atStart => exact ⟨-1, rfl, by omega, by omega, Lib.hid (Below.refl _ _)⟩
          case round =>
            obtain ⟨a, rfl, ha1, ha2, HX⟩ := hrel
            have HBW := Lib.hid (HG.out.trans (HX.out.mono HG.out.size))
            have hsr := HX.out.size
            have HIW := Lib.hid (HI.out.on (Kb.of HBW.out hn))
            have HMW := Lib.hid (HMG.out.on (Kb.of HX.out (show w1.heap.size ≤ wg.heap.size by omega)))
            by_cases hal : a ≤ (len : Int)
            · have CO := Lib.hid (of_at wr n₀ len c p is way a HIW.out (by omega) (by omega))
              generalize hz : ofP (unitsP (opsOf is) way) a 0 = z at *
              have HZ := Lib.hid hz
              clear hz
              go_wp2_with fail
              (with_reducible refine CO.out.mono ?_)
              rintro e w5 ⟨rfl, hb5⟩
              have HX5 := Lib.hid (HX.out.trans (hb5.mono hsr))
              have hs5 := hb5.size
              have CQ := Lib.hid (refOf_at w5 w1.heap.size len mc mp is way a (HMW.out.on (Kb.of hb5 (by omega))) (by omega) (by omega))
              rw [HZ.out] at CQ
              clear hb5 CO
              go_wp2_with fail
              (with_reducible refine CQ.out.mono ?_)
              rintro e w6 ⟨rfl, hb6⟩
              have HX6 := Lib.hid (HX5.out.trans (hb6.mono HX5.out.size))
              clear hb6 CQ
              go_wp2
              go_roundw
              case rel => exact ⟨a + 1, by simp, by omega, by omega, HX6⟩
              case measure => simp [intOf]; omega
            · have hDW := HD.out.on (Kb.of HBW.out hn)
              have CW := Lib.hid (without_at wr n₀ len c dl dc p dp is drop HIW.out hDW HW.out (by omega) (by omega) (by omega))
              have HDW := Lib.hid hDW
              clear hDW
              obtain ⟨WP, hWP⟩ : ∃ WP, withoutP is drop = WP := ⟨_, rfl⟩
              have HWP := Lib.hid hWP
              rw [hWP] at CW HSZ2 hwl
              clear hWP
              go_wp2_with fail
              (with_reducible refine CW.out.mono ?_)
              rintro e w5 ⟨v, rfl, hO5, hb5⟩
              obtain ⟨p5, c5, rfl, hI5⟩ := is_own hO5 HSZ2.out
              have HB5 := Lib.hid (HBW.out.trans (hb5.mono HBW.out.size))
              have HI5 := Lib.hid (HIW.out.on (Kb.of hb5 (by omega)))
              have HM5 := Lib.hid (HMW.out.on (Kb.of hb5 (by omega)))
              have HD5 := Lib.hid (HDW.out.on (Kb.of hb5 (by omega)))
              have hs5 := hb5.size
              have CP5 := Lib.hid (plainC_at w5 w5.heap.size WP.length c5 p5 WP hI5 (Nat.le_refl _) (by omega))
              clear hO5 hI5 hb5 CW HIW HMW HDW
              go_wp2_with fail
              (with_reducible refine CP5.out.mono ?_)
              rintro e w6 ⟨v, rfl, hO6, hb6⟩
              obtain ⟨p6, c6, rfl, hI6⟩ := is_own hO6 HSZ2.out
              have HA6 := Lib.hid hI6
              have HB6 := Lib.hid (HB5.out.trans (hb6.mono HB5.out.size))
              have HI6 := Lib.hid (HI5.out.on (Kb.of hb6 (by omega)))
              have HM6 := Lib.hid (HM5.out.on (Kb.of hb6 (by omega)))
              have HD6 := Lib.hid (HD5.out.on (Kb.of hb6 (by omega)))
              have hs6 := hb6.size
              have CR6 := Lib.hid (refWithout_at w6 w1.heap.size len mc dl dc mp dp is drop HM6.out (HD6.out.mono (by omega)) (by omega) (by omega) (by omega))
              rw [HWP.out] at CR6
              clear hO6 hI6 hb6 CP5 HB5 HI5 HM5 HD5
              go_wp2_with fail
              (with_reducible refine CR6.out.mono ?_)
              rintro e w7 ⟨p7, c7, rfl, hI7, hb7⟩
              have HB7 := Lib.hid (HB6.out.trans (hb7.mono HB6.out.size))
              have HI7 := Lib.hid (HI6.out.on (Kb.of hb7 (by omega)))
              have HM7 := Lib.hid (HM6.out.on (Kb.of hb7 (by omega)))
              have hs7 := hb7.size
              have CS7 := Lib.hid (same_at w7 w7.heap.size WP.length c6 c7 p6 p7 WP ((HA6.out.on (Kb.of hb7 (Nat.le_refl _))).mono hs7) hI7 (Nat.le_refl _) (by omega))
              clear hI7 hb7 CR6 HB6 HI6 HM6 HA6
              go_wp2_with fail
              (with_reducible refine CS7.out.mono ?_)
              rintro e w8 ⟨rfl, hb8⟩
              have HB8 := Lib.hid (HB7.out.trans (hb8.mono HB7.out.size))
              have HI8 := Lib.hid (HI7.out.on (Kb.of hb8 (by omega)))
              have HM8 := Lib.hid (HM7.out.on (Kb.of hb8 (by omega)))
              have hs8 := hb8.size
              have CP8 := Lib.hid (plainC_at w8 n₀ len c p is HI8.out (by omega) (by omega))
              clear hb8 CS7 HB7 HI7 HM7
              go_wp2_with fail
              (with_reducible refine CP8.out.mono ?_)
              rintro e w9 ⟨v, rfl, hO9, hb9⟩
              obtain ⟨p9, c9, rfl, hI9⟩ := is_own hO9 HSZ.out
              rw [hlen] at hI9
              rw [hlen]
              have HB9 := Lib.hid (HB8.out.trans (hb9.mono HB8.out.size))
              have HM9 := Lib.hid (HM8.out.on (Kb.of hb9 (by omega)))
              have hs9 := hb9.size
              have CS9 := Lib.hid (same_at w9 w9.heap.size len c9 mc p9 mp is hI9 (HM9.out.mono (by omega)) (Nat.le_refl _) (by omega))
              clear hO9 hI9 hb9 CP8 HB8 HI8 HM8
              go_wp2_with fail
              (with_reducible refine CS9.out.mono ?_)
              rintro e w10 ⟨rfl, hb10⟩
              have HB10 := Lib.hid (HB9.out.trans (hb10.mono HB9.out.size))
              have WK := Lib.hid (works w10)
              clear hb10 CS9 HB9 HM9
              go_wp2_with fail
              (with_reducible refine WK.out.mono ?_)
              rintro e w11 ⟨rfl, hb11⟩
              go_wp2
              go_ret
              exact ⟨rfl, HB10.out.trans (hb11.mono HB10.out.size)⟩
end Go.Proofs.Ytfboifbpbjmcbaa.Pz
