import Derived.Test.YtfboifbpbjmcbaaPzU
namespace Go.Proofs.Ytfboifbpbjmcbaa.Pz
open Go.RowKit
theorem set_app (l : List Bool) (k m : Nat) (b : Bool) (hl : l.length = k) : (l ++ List.replicate (m + 1) false).set k b = (l ++ [b]) ++ List.replicate m false := by
  subst hl
  rw [List.set_append_right _ _ (Nat.le_refl _), Nat.sub_self, List.replicate_succ, List.set_cons_zero]
  simp
theorem gone_yes {ops drop : List Int} {k : Nat} (h : ops.getD k 0 = 15) : goneTo ops drop (k + 1) = ((goneTo ops drop k).1 + 1, (goneTo ops drop k).2 ++ [drop.any fun y => y == ((goneTo ops drop k).1 : Nat)]) := by simp only [goneTo, if_pos h]
theorem gone_no {ops drop : List Int} {k : Nat} (h : ¬ ops.getD k 0 = 15) : goneTo ops drop (k + 1) = ((goneTo ops drop k).1, (goneTo ops drop k).2 ++ [false]) := by simp only [goneTo, if_neg h]
theorem any_snoc (drop : List Int) (j : Nat) (hj : j < drop.length) (f : Int → Bool) : (drop.take (j + 1)).any f = ((drop.take j).any f || f (drop.getD j 0)) := by
  rw [List.take_succ_eq_append_getElem hj, List.any_append]
  simp [List.getD, hj]
/-- What the first loop has marked. -/
def markTo (ops drop : List Int) (len k : Nat) : List Bool := (goneTo ops drop k).2 ++ List.replicate (len - k) false
theorem mark_no {ops drop : List Int} {len k : Nat} (hk : k < len) (h : ¬ ops.getD k 0 = 15) : markTo ops drop len (k + 1) = markTo ops drop len k := by
  unfold markTo
  rw [gone_no h, List.append_assoc]
  congr 1
  obtain ⟨m, hm⟩ : ∃ m, len - k = m + 1 := ⟨len - k - 1, by omega⟩
  rw [hm, show len - (k + 1) = m by omega, List.replicate_succ]
  rfl
theorem mark_set {ops drop : List Int} {len k : Nat} (hk : k < len) (b : Bool) : (markTo ops drop len k).set k b = ((goneTo ops drop k).2 ++ [b]) ++ List.replicate (len - (k + 1)) false := by
  unfold markTo
  obtain ⟨m, hm⟩ : ∃ m, len - k = m + 1 := ⟨len - k - 1, by omega⟩
  rw [hm, set_app _ k m b (goneTo_len ops drop k), show len - (k + 1) = m by omega]
theorem mark_false {ops drop : List Int} {len k : Nat} (hk : k < len) : (markTo ops drop len k).set k false = markTo ops drop len k := by
  rw [mark_set hk]
  unfold markTo
  obtain ⟨m, hm⟩ : ∃ m, len - k = m + 1 := ⟨len - k - 1, by omega⟩
  rw [hm, show len - (k + 1) = m by omega, List.replicate_succ, List.append_assoc]
  rfl
set_option maxHeartbeats 16000000 in
set_option maxRecDepth 1000000 in
theorem refWithout_at (w : World) (n₀ len c dl dc : Nat) (p dp : Option Addr) (is : List Ins) (drop : List Int) (hI : IsIn n₀ w p len c is) (hD : VIn n₀ w dp dl dc drop) (hn : n₀ ≤ w.heap.size) (b1 : len ≤ 100000) (b2 : dl ≤ 100000) :
    Calls Try.prog 15 #[.slice p len c, .slice dp dl dc] w fun e w' => ∃ p' c', e = .returned (.slice p' (withoutP is drop).length c') ∧ IsIn w'.heap.size w' p' (withoutP is drop).length c' (withoutP is drop) ∧ Below w.heap.size w w' := by
  obtain ⟨i0, hi, hz0, hz1, hz2⟩ := info_of infoRI
  obtain ⟨j0, hj, hy0, hy1, hy2⟩ := info_of infoB
  have hm1 : ∀ W : World, (Instr.makeSlice 61 (.int .i64 (len : Int)) (.int .i64 (len : Int))).run Try.prog W = .ok (.slice (some ⟨W.heap.size, 0, none⟩) len len) (W.alloc (.cells (madeCells (Value.bool false).cells (len * 1)) 4)) := fun W => by
    have := run_makeSlice (P := Try.prog) (w := W) 61 4 j0 _ Try.underlying61 hj hy0 .i64 .i64 len len (by omega) (Int.le_refl _) (by rw [hy1]; omega) (by rw [hy2]; omega) (by omega)
    rw [hy1] at this
    simpa using this
  have HI := Lib.hid hI
  have HD := Lib.hid hD
  have hlen := hI.len_eq
  have hdl := hD.len_eq
  have hol := opsOf_len is
  have hRW : withoutP is drop = withTo is (placesP (opsOf is) drop) len := by unfold withoutP; rw [hlen]
  have HRW := Lib.hid hRW
  generalize withoutP is drop = RW at *
  have RB0 := made_bool w len
  rw [Nat.mul_one] at RB0
  obtain ⟨w1, hw1⟩ : ∃ w1, w.alloc (.cells (madeCells #[.bool false] len) 4) = w1 := ⟨_, rfl⟩
  have hb1 : Below w.heap.size w w1 := by rw [← hw1]; exact one_below _ _
  rw [hw1] at RB0
  have HR0 : Hid (RB w1 w.heap.size len (markTo (opsOf is) drop len 0)) := Lib.hid (by unfold markTo; simpa [goneTo] using RB0)
  have HB0 := Lib.hid hb1
  clear hI hD hRW RB0 hb1
  go_enter Try.func15, Try.ntmps15
  go_wp2_with fail
  clear hm1
  go_loopw [6, 7] (fun nv iv wr => ∃ k : Nat, iv = .int .i64 k ∧ k ≤ len ∧ nv = .int .i64 ((goneTo (opsOf is) drop k).1 : Nat) ∧ Hid (RB wr w.heap.size len (markTo (opsOf is) drop len k)) ∧ Hid (Below w.heap.size w wr)) (fun _ iv _ => len - (intOf iv).toNat)
  case atStart => exact ⟨0, rfl, Nat.zero_le _, rfl, HR0, HB0⟩
  case round =>
    clear HR0 HB0
    obtain ⟨k, rfl, hk, rfl, HR, HB⟩ := hrel
    by_cases hlt : k < len
    · obtain ⟨b, off, rfl, hbn, hc⟩ := (HI.out.on (Kb.of HB.out hn)).cell (by omega)
      obtain ⟨kp, kl, kc, vp, vl, vc, ic⟩ := hc k hlt
      have c0 := ic.c0
      have hop : (opsOf is).getD k 0 = (is.getD k default).op := opsOf_get is k
      obtain ⟨xo, hxo⟩ : ∃ xo, (is.getD k default).op = xo := ⟨_, rfl⟩
      rw [hxo] at c0 hop
      have hcap := HI.out.cap
      have hnum : (goneTo (opsOf is) drop k).1 ≤ k := by rw [goneTo_num]; exact placesTo_num _ _ _
      clear ic hc hxo
      by_cases h15 : xo = 15
      · subst h15
        have HG := Lib.hid (gone_yes (drop := drop) hop)
        have HM : Hid (∀ bb, (markTo (opsOf is) drop len k).set k bb = ((goneTo (opsOf is) drop k).2 ++ [bb]) ++ List.replicate (len - (k + 1)) false) := Lib.hid (fun bb => mark_set hlt bb)
        have HMF := Lib.hid (mark_false (ops := opsOf is) (drop := drop) hlt)
        have HE : Hid (markTo (opsOf is) drop len (k + 1) = (goneTo (opsOf is) drop (k + 1)).2 ++ List.replicate (len - (k + 1)) false) := Lib.hid rfl
        rw [HG.out] at HE
        clear hop
        generalize (goneTo (opsOf is) drop k).1 = nu at *
        go_wp2_with fail
        obtain ⟨wo, rfl⟩ : ∃ wo : World, wo = wr := ⟨_, rfl⟩
        go_loopw [8] (fun jv wr => ∃ j : Nat, jv = .int .i64 j ∧ j ≤ dl ∧ Hid (RB wr w.heap.size len ((markTo (opsOf is) drop len k).set k ((drop.take j).any fun y => y == (nu : Nat)))) ∧ Hid (Below w.heap.size w wr)) (fun jv _ => dl - (intOf jv).toNat)
        case atStart => exact ⟨0, rfl, Nat.zero_le _, by rw [List.take_zero, List.any_nil, HMF.out]; exact HR, HB⟩
        case round =>
          clear HR HB
          obtain ⟨j, rfl, hj2, HR, HB⟩ := hrel
          by_cases hjl : j < dl
          · obtain ⟨bd, od, rfl, hbd, hcd⟩ := (HD.out.on (Kb.of HB.out hn)).cell (by omega)
            have cd := hcd j hjl
            have hdc := HD.out.cap
            have HS := Lib.hid (any_snoc drop j (by omega) (fun y => y == ((nu : Nat) : Int)))
            obtain ⟨z, hz⟩ : ∃ z, drop.getD j 0 = z := ⟨_, rfl⟩
            rw [hz] at cd HS
            have HW : Hid (∀ b1 b2, RB (wr.setCell ⟨w.heap.size, k, none⟩ (.bool b2)) w.heap.size len ((markTo (opsOf is) drop len k).set k b2) ∨ b1 = true ∨ b1 = false) := Lib.hid (fun b1 b2 => by cases b1 <;> simp)
            have ml : k < (markTo (opsOf is) drop len k).length := by have := HR.out.2; simp at this; omega
            have ck := HR.out.cell k hlt
            have fk := HR.out.frozen k
            rw [getD_set_eq ml] at ck
            have HST : Hid (∀ b2, RB (wr.setCell ⟨w.heap.size, k, none⟩ (.bool b2)) w.heap.size len ((markTo (opsOf is) drop len k).set k b2)) := Lib.hid (fun b2 => by have := HR.out.set k b2; rwa [List.set_set] at this)
            have HBT : Hid (∀ b2, Below w.heap.size w (wr.setCell ⟨w.heap.size, k, none⟩ (.bool b2))) := Lib.hid (fun b2 => HB.out.setCell (p := ⟨w.heap.size, k, none⟩) (Nat.le_refl _) _)
            clear hcd hz HW ml
            cases hany : (drop.take j).any (fun y => y == ((nu : Nat) : Int)) with
            | true =>
              rw [hany] at ck HS
              clear hany
              go_wp2_with fail
              go_roundw
              case rel => exact ⟨j + 1, by simp, by omega, by rw [HS.out]; exact Lib.hid (HST.out true), Lib.hid (HBT.out true)⟩
              case measure => simp [intOf]; omega
            | false =>
              rw [hany] at ck HS
              clear hany
              go_wp2_with fail
              go_roundw
              case rel => exact ⟨j + 1, by simp, by omega, by rw [HS.out]; exact Lib.hid (HST.out _), Lib.hid (HBT.out _)⟩
              case measure => simp [intOf]; omega
          · obtain rfl : j = dl := by omega
            have HEND : Hid (RB wr w.heap.size len (markTo (opsOf is) drop len (k + 1))) := Lib.hid (by
              have := HR.out
              rw [List.take_of_length_le (by omega), HM.out] at this
              rw [HE.out]
              exact this)
            go_wp2_with fail
            go_roundw
            case rel => exact ⟨k + 1, by simp, by omega, by rw [HG.out]; simp, HEND, HB⟩
            case measure => simp [intOf]; omega
      · have HG := Lib.hid (gone_no (drop := drop) (show ¬ (opsOf is).getD k 0 = 15 by rw [hop]; exact h15))
        have HMN := Lib.hid (mark_no (drop := drop) hlt (show ¬ (opsOf is).getD k 0 = 15 by rw [hop]; exact h15))
        have h2 : (xo != 15) = true := by simpa using h15
        have h3 : (xo == 15) = false := by simpa using h15
        clear hop
        go_wp2_with fail
        go_roundw
        case rel => exact ⟨k + 1, by simp, by omega, by rw [HG.out], by rw [HMN.out]; exact HR, HB⟩
        case measure => simp [intOf]; omega
    · obtain rfl : k = len := by omega
      have hns : n₀ ≤ wr.heap.size := by have := HB.out.size; omega
      have HGL : Hid (∀ i : Nat, i < k → (goneTo (opsOf is) drop k).2.getD i false = foundP (placesP (opsOf is) drop) i) := Lib.hid (fun i hi => by
        have := gone_found (opsOf is) drop i (by omega)
        rwa [hol, hlen] at this)
      have HCE : Hid (∀ (t : Int) (j : Nat), j ≤ k → (∀ i : Nat, i < j → (i : Int) < t) → (j = k ∨ t ≤ j) → cntTo (goneTo (opsOf is) drop k).2 j = lowP (placesP (opsOf is) drop) t) := Lib.hid (fun t j h1 h2 h3 => cnt_end (opsOf is) drop _ (fun i hi => by
        have := goneTo_places (opsOf is) drop (opsOf is).length i hi
        rw [show k = (opsOf is).length by omega]
        exact this) t j (by omega) h2 (by omega))
      have HRG : Hid (RB wr w.heap.size k (goneTo (opsOf is) drop k).2) := Lib.hid (by
        have := HR.out
        unfold markTo at this
        simpa using this)
      generalize placesP (opsOf is) drop = PL at *
      generalize (goneTo (opsOf is) drop k).2 = GL at *
      obtain ⟨wg, rfl⟩ : ∃ wg : World, wg = wr := ⟨_, rfl⟩
      clear HR
      go_wp2_with fail
      go_loopw [9, 10] (fun v iv W => ∃ i : Nat, iv = .int .i64 i ∧ i ≤ k ∧ Hid (RL n₀ W wg.heap.size v (withTo is PL i)) ∧ Hid (Below wg.heap.size wg W)) (fun _ iv _ => k - (intOf iv).toNat)
      case atStart => exact ⟨0, rfl, Nat.zero_le _, Lib.hid (RL.nil _ _ _), Lib.hid (Below.refl _ _)⟩
      case round =>
        obtain ⟨i, rfl, hik, HO, HD2⟩ := hrel
        have hwl := withTo_len is PL i
        obtain ⟨n, htl⟩ : ∃ n, (withTo is PL i).length = n := ⟨_, rfl⟩
        obtain ⟨vg, vq, rfl⟩ := HO.out.shapeN htl
        rw [htl] at hwl
        obtain ⟨wo, rfl⟩ : ∃ wo : World, wo = wr := ⟨_, rfl⟩
        have hso := HD2.out.size
        have HBW := Lib.hid (HB.out.trans (HD2.out.mono HB.out.size))
        have hG := HRG.out.lt
        by_cases hik2 : i < k
        · obtain ⟨b, off, rfl, hbn, hc⟩ := (HI.out.on (Kb.of HBW.out hn)).cell (by omega)
          obtain ⟨kp, kl, kc, vp, vl, vc, ic⟩ := hc i hik2
          have c0 := ic.c0
          have c1 := ic.c1
          have c2 := ic.c2
          have c3 := ic.c3
          have c4 := ic.c4
          have c5 := ic.c5
          have c6 := ic.c6
          have c7 := ic.c7
          have c8 := ic.c8
          have c9 := ic.c9
          have c10 := ic.c10
          have c11 := ic.c11
          have c12 := ic.c12
          have HW1 : Hid (∀ y, is.getD i default = y → withTo is PL (i + 1) = if foundP PL i then withTo is PL i else withTo is PL i ++ [{ y with to := wrap64 (y.to - lowP PL y.to) }]) := Lib.hid (fun y hy => by subst hy; rfl)
          have HK := Lib.hid ic.key
          have HV := Lib.hid ic.vals
          obtain ⟨x, hx⟩ : ∃ x, is.getD i default = x := ⟨_, rfl⟩
          have HW2 := Lib.hid (HW1.out x hx)
          rw [hx] at c0 c1 c2 c3 c4 c5 c6 c7 c8 c9 c10 HK HV
          obtain ⟨o, ho⟩ : ∃ o, off + i * 13 = o := ⟨_, rfl⟩
          rw [ho] at c0 c1 c2 c3 c4 c5 c6 c7 c8 c9 c10 c11 c12
          have hcap := HI.out.cap
          have B2 := BI.new wo 51 x (.slice kp kl kc) (.slice vp vl vc)
          obtain ⟨w2, hw2⟩ : ∃ w2, wo.alloc (.cells (insC x (.slice kp kl kc) (.slice vp vl vc)).toArray 51) = w2 := ⟨_, rfl⟩
          have hb2 : Below wo.heap.size wo w2 := by rw [← hw2]; exact one_below _ _
          rw [hw2] at B2
          simp only [insC] at hw2
          obtain ⟨bh, hbh⟩ : ∃ bh, lowP PL x.to = bh := ⟨_, rfl⟩
          have HCE2 : Hid (∀ j : Nat, j ≤ k → (∀ i : Nat, i < j → (i : Int) < x.to) → (j = k ∨ x.to ≤ j) → cntTo GL j = bh) := Lib.hid (fun j h1 h2 h3 => by rw [← hbh]; exact HCE.out x.to j h1 h2 h3)
          rw [hbh] at HW2
          obtain ⟨xt, hxt⟩ : ∃ xt, wrap64 (x.to - (bh : Nat)) = xt := ⟨_, rfl⟩
          rw [hxt] at HW2
          have RBo := HRG.out.on HD2.out (Nat.le_refl _)
          have RB2 := Lib.hid (RBo.on hb2 (Nat.le_refl _))
          have k7 := B2.c7
          have f7 := B2.frozen 7
          obtain ⟨w3, hw3⟩ : ∃ w3, w2.setCell ⟨wo.heap.size, 7, none⟩ (.int .i64 xt) = w3 := ⟨_, rfl⟩
          have hb3 : Below wo.heap.size wo w3 := by rw [← hw3]; exact hb2.setCell (p := ⟨wo.heap.size, 7, none⟩) (Nat.le_refl _) _
          have B3 := B2.setTo xt
          have RB3 : RB w3 w.heap.size k GL := by rw [← hw3]; exact RB2.out.grown (grown_set w2 wo.heap.size 7 _) (by simp; omega)
          rw [hw3] at B3
          have gI := RB3.cell i hik2
          rw [HGL.out i hik2] at gI
          have e0 := B3.c0
          have e1 := B3.c1
          have e2 := B3.c2
          have e3 := B3.c3
          have e4 := B3.c4
          have e5 := B3.c5
          have e6 := B3.c6
          have e7 := B3.c7
          have e8 := B3.c8
          have e9 := B3.c9
          have e10 := B3.c10
          have e11 := B3.c11
          have e12 := B3.c12
          have HO3 := Lib.hid (HO.out.on hb3 (Nat.le_refl _) (by omega))
          have HD3 := Lib.hid (HD2.out.trans (hb3.mono hso))
          have HK3 := Lib.hid (HK.out.on (Kb.of hb3 (show n₀ ≤ wo.heap.size by omega)))
          have HV3 := Lib.hid (HV.out.on (Kb.of hb3 (show n₀ ≤ wo.heap.size by omega)))
          have hs3 := hb3.size
          have hxt2 : wrap64 (x.to - (bh : Nat)) = xt := hxt
          clear ic hc hx HW1 hb2 hb3 B2 B3 RB3 RBo hbh
          go_wp2_with fail
          go_loopw [12, 13] (fun lv jv W4 => ∃ j : Nat, jv = .int .i64 j ∧ j ≤ k ∧ lv = .int .i64 (cntTo GL j : Nat) ∧ W4 = w2 ∧ Hid (∀ i : Nat, i < j → (i : Int) < x.to)) (fun _ jv _ => k - (intOf jv).toNat)
          case atStart => exact ⟨0, rfl, Nat.zero_le _, rfl, rfl, Lib.hid (fun i hi => by omega)⟩
          case round =>
            obtain ⟨j, rfl, hjk, rfl, rfl, HX⟩ := hrel
            by_cases hj1 : j < k
            · by_cases hj3 : (j : Int) < x.to
              · have gJ := RB2.out.cell j hj1
                have HX2 : Hid (∀ i : Nat, i < j + 1 → (i : Int) < x.to) := Lib.hid (fun i hi => by
                  rcases Nat.lt_or_ge i j with h | h
                  · exact HX.out i h
                  · obtain rfl : i = j := by omega
                    exact hj3)
                have hcl := cnt_le GL j
                have HST : Hid (cntTo GL (j + 1) = if GL.getD j false = true then cntTo GL j + 1 else cntTo GL j) := Lib.hid rfl
                generalize cntTo GL j = cn at *
                cases hgj : GL.getD j false with
                | true =>
                  rw [hgj] at gJ HST
                  have HST2 : Hid (cntTo GL (j + 1) = cn + 1) := Lib.hid (by rw [HST.out]; rfl)
                  clear hgj
                  go_wp2_with fail
                  go_roundw
                  case rel => exact ⟨j + 1, by simp, by omega, by rw [HST2.out]; simp, by simp, HX2⟩
                  case measure => simp [intOf]; omega
                | false =>
                  rw [hgj] at gJ HST
                  have HST2 : Hid (cntTo GL (j + 1) = cn) := Lib.hid (by rw [HST.out]; rfl)
                  clear hgj
                  go_wp2_with fail
                  go_roundw
                  case rel => exact ⟨j + 1, by simp, by omega, by rw [HST2.out], by simp, HX2⟩
                  case measure => simp [intOf]; omega
              · have HCJ := Lib.hid (HCE2.out j hjk HX.out (Or.inr (by omega)))
                rw [HCJ.out]
                cases hfd : foundP PL i with
                | true =>
                  rw [hfd] at gI
                  have HWN : Hid (withTo is PL (i + 1) = withTo is PL i) := Lib.hid (by rw [HW2.out, hfd]; rfl)
                  clear hfd
                  go_wp2_with fail
                  go_roundw
                  case rel => exact ⟨i + 1, by simp, by omega, by rw [HWN.out]; exact HO3, HD3⟩
                  case measure => simp [intOf]; omega
                | false =>
                  rw [hfd] at gI
                  have HWN : Hid (withTo is PL (i + 1) = withTo is PL i ++ [{ x with to := xt }]) := Lib.hid (by rw [HW2.out, hfd]; simp)
                  have hOA := HO3.out.on (one_below w3 (.cells #[.int .u8 x.op, .int .i64 x.nd, .int .u8 x.md, .int .i64 x.tb, .bool x.row, .int .i64 x.col, .int .i64 x.vr, .int .i64 xt, .bool x.eq, .int .i64 x.frm, .int .i64 x.upt, .slice kp kl kc, .slice vp vl vc] 51)) (Nat.le_refl _) (by omega)
                  obtain ⟨ks, vs, hk1, hk2, hk3, hk4⟩ := hOA.row
                  have HK4 := Lib.hid hk4
                  rw [htl] at hk3
                  clear hfd hOA hk4
                  go_wp2_with (at_builtin; refine wpList_append_own _ rfl (.tmp 90) (.tmp 92) 26 rfl wg.heap.size 51 i0 _ 13 136 Try.underlying26 hi hz0 hz1 hz2 rfl (by decide) (.slice vg n vq) n _ rfl hk3 ⟨w3.heap.size, 0, none⟩ 1 1 [.int .u8 x.op, .int .i64 x.nd, .int .u8 x.md, .int .i64 x.tb, .bool x.row, .int .i64 x.col, .int .i64 x.vr, .int .i64 xt, .bool x.eq, .int .i64 x.frm, .int .i64 x.upt, .slice kp kl kc, .slice vp vl vc] rfl rfl (World.news_of_block (fr := (0, 0)) (heap_alloc_new _ _)) (by simp [Value.oneCell']) (by unfold maxLen; omega) (by omega) (by simp; omega) ?_; intro v' w8 hown8 hgrow8 _)
                  go_roundw
                  case rel =>
                    refine ⟨i + 1, by simp, by omega, ?_, ?_⟩
                    · rw [HWN.out]
                      exact Lib.hid (RL.snoc hk1 hk2 (by rw [htl]; exact hk3) HK4.out (HK3.out.on (Kb.of (one_below w3 _) (by omega))) (HV3.out.on (Kb.of (one_below w3 _) (by omega))) (by omega) (by rw [htl]; exact hown8) hgrow8)
                    · exact Lib.hid ((HD3.out.alloc HD3.out.size _).grown hgrow8 (by simp; omega) (fun r e => (hk3.lt r e).1))
                  case measure => simp [intOf]; omega
            · obtain rfl : j = k := by omega
              have HCJ := Lib.hid (HCE2.out j hjk HX.out (Or.inl rfl))
              rw [HCJ.out]
              cases hfd : foundP PL i with
              | true =>
                rw [hfd] at gI
                have HWN : Hid (withTo is PL (i + 1) = withTo is PL i) := Lib.hid (by rw [HW2.out, hfd]; rfl)
                clear hfd
                go_wp2_with fail
                go_roundw
                case rel => exact ⟨i + 1, by simp, by omega, by rw [HWN.out]; exact HO3, HD3⟩
                case measure => simp [intOf]; omega
              | false =>
                rw [hfd] at gI
                have HWN : Hid (withTo is PL (i + 1) = withTo is PL i ++ [{ x with to := xt }]) := Lib.hid (by rw [HW2.out, hfd]; simp)
                have hOA := HO3.out.on (one_below w3 (.cells #[.int .u8 x.op, .int .i64 x.nd, .int .u8 x.md, .int .i64 x.tb, .bool x.row, .int .i64 x.col, .int .i64 x.vr, .int .i64 xt, .bool x.eq, .int .i64 x.frm, .int .i64 x.upt, .slice kp kl kc, .slice vp vl vc] 51)) (Nat.le_refl _) (by omega)
                obtain ⟨ks, vs, hk1, hk2, hk3, hk4⟩ := hOA.row
                have HK4 := Lib.hid hk4
                rw [htl] at hk3
                clear hfd hOA hk4
                go_wp2_with (at_builtin; refine wpList_append_own _ rfl (.tmp 90) (.tmp 92) 26 rfl wg.heap.size 51 i0 _ 13 136 Try.underlying26 hi hz0 hz1 hz2 rfl (by decide) (.slice vg n vq) n _ rfl hk3 ⟨w3.heap.size, 0, none⟩ 1 1 [.int .u8 x.op, .int .i64 x.nd, .int .u8 x.md, .int .i64 x.tb, .bool x.row, .int .i64 x.col, .int .i64 x.vr, .int .i64 xt, .bool x.eq, .int .i64 x.frm, .int .i64 x.upt, .slice kp kl kc, .slice vp vl vc] rfl rfl (World.news_of_block (fr := (0, 0)) (heap_alloc_new _ _)) (by simp [Value.oneCell']) (by unfold maxLen; omega) (by omega) (by simp; omega) ?_; intro v' w8 hown8 hgrow8 _)
                go_roundw
                case rel =>
                  refine ⟨i + 1, by simp, by omega, ?_, ?_⟩
                  · rw [HWN.out]
                    exact Lib.hid (RL.snoc hk1 hk2 (by rw [htl]; exact hk3) HK4.out (HK3.out.on (Kb.of (one_below w3 _) (by omega))) (HV3.out.on (Kb.of (one_below w3 _) (by omega))) (by omega) (by rw [htl]; exact hown8) hgrow8)
                  · exact Lib.hid ((HD3.out.alloc HD3.out.size _).grown hgrow8 (by simp; omega) (fun r e => (hk3.lt r e).1))
                case measure => simp [intOf]; omega
        · obtain rfl : i = k := by omega
          have HRI := HO.out
          rw [← HRW.out] at HRI
          obtain ⟨p', c', e', hIF⟩ := is_rl HRI (by omega)
          obtain ⟨rfl, hl9, rfl⟩ : vg = p' ∧ n = RW.length ∧ vq = c' := by simpa using e'
          have HL9 := Lib.hid hl9
          have HIF := Lib.hid hIF
          clear HRI e' hIF hl9
          go_wp2_with fail
          go_ret
          exact ⟨_, _, by rw [HL9.out]; rfl, HIF.out, HBW.out⟩
end Go.Proofs.Ytfboifbpbjmcbaa.Pz
