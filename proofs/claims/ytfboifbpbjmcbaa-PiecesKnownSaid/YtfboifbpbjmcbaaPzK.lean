import Derived.Test.YtfboifbpbjmcbaaPzJ
namespace Go.Proofs.Ytfboifbpbjmcbaa.Pz
open Go.RowKit
theorem withTo_len (is : List Ins) (pl : List Int) (k : Nat) : (withTo is pl k).length ≤ k := by
  induction k with
  | zero => simp [withTo]
  | succ k ih =>
    simp only [withTo]
    split
    · omega
    · simp; omega
set_option maxHeartbeats 16000000 in
set_option maxRecDepth 1000000 in
theorem without_at (w : World) (n₀ len c dl dc : Nat) (p dp : Option Addr) (is : List Ins) (drop : List Int) (hI : IsIn n₀ w p len c is) (hD : VIn n₀ w dp dl dc drop) (hwf : ∀ x ∈ drop, wfI x = true) (hn : n₀ ≤ w.heap.size) (b1 : len ≤ 100000) (b2 : dl ≤ 100000) :
    Calls Try.prog 14 #[.slice p len c, .slice dp dl dc] w fun e w' => ∃ v, e = .returned v ∧ OL w' w.heap.size 45 63 42 v (withoutP is drop) ∧ Below w.heap.size w w' := by
  obtain ⟨i0, hi, hz0, hz1, hz2⟩ := info_of infoIns
  have CP := Lib.hid (placesOf_at w n₀ len c dl dc p dp is drop hI hD hwf hn b1 b2)
  have HI := Lib.hid hI
  have hlen := hI.len_eq
  have hrise : Hid ((placesP (opsOf is) drop).Pairwise (· < ·)) := Lib.hid (placesTo_rise _ _ _)
  have hplen : (placesP (opsOf is) drop).length ≤ 100000 := Nat.le_trans (placesTo_len _ _ _) (by rw [opsOf_len]; omega)
  have HWP : Hid (withoutP is drop = withTo is (placesP (opsOf is) drop) is.length) := Lib.hid rfl
  generalize withoutP is drop = res at *
  generalize placesP (opsOf is) drop = PL at *
  clear hI hD hwf
  go_enter Try.func14, Try.ntmps14
  go_wp2_with fail
  (with_reducible refine CP.out.mono ?_)
  rintro e w1 ⟨v, rfl, hown, hb1⟩
  obtain ⟨pp, pc, rfl, hV⟩ := vi_own rfl hown
  have HV := Lib.hid hV
  have HB1 := Lib.hid hb1
  have hs1 := hb1.size
  obtain ⟨pn, hpn⟩ : ∃ pn, PL.length = pn := ⟨_, rfl⟩
  rw [hpn] at HV hplen ⊢
  clear hV hb1 hown CP hpn
  go_wp2_with fail
  go_loopw [6, 19] (fun v i wr => ∃ k : Nat, i = .int .i64 k ∧ k ≤ len ∧ Hid (OL wr w1.heap.size 45 63 42 v (withTo is PL k)) ∧ Hid (Below w1.heap.size w1 wr)) (fun _ i _ => len - (intOf i).toNat)
  case atStart => exact ⟨0, rfl, Nat.zero_le _, Lib.hid (OL.nil _ _ _ _ _), Lib.hid (Below.refl _ _)⟩
  case round =>
    obtain ⟨k, rfl, hk, HO, HB⟩ := hrel
    have HBW := Lib.hid (HB1.out.trans (HB.out.mono HB1.out.size))
    obtain ⟨vg, vq, rfl⟩ := HO.out.shape
    by_cases hlt : k < len
    · obtain ⟨b, off, rfl, hbn, hc⟩ := (HI.out.on (Kb.of HBW.out hn)).cell (by omega)
      obtain ⟨kp, kl, kc, vp, vl, vc, ic⟩ := hc k hlt
      have c0 := ic.c0
      have c1 := ic.c1
      have c2 := ic.c2
      have c3 := ic.c3
      have c4 := ic.c4
      have c5 := ic.c5
      have c6 := ic.c6
      have c7 := ic.c7
      have c8 := ic.c8
      have c9 := ic.c9
      have c10 := ic.c10
      have c11 := ic.c11
      have c12 := ic.c12
      have HK := Lib.hid ic.key
      have HVs := Lib.hid ic.vals
      have HW1 : Hid (∀ y, is.getD k default = y → withTo is PL (k + 1) = if foundP PL k then withTo is PL k else withTo is PL k ++ [{ y with to := wrap64 (y.to - lowP PL y.to) }]) := Lib.hid (fun y hy => by subst hy; rfl)
      obtain ⟨x, hx⟩ : ∃ x, is.getD k default = x := ⟨_, rfl⟩
      have HW2 := Lib.hid (HW1.out x hx)
      rw [hx] at c0 c1 c2 c3 c4 c5 c6 c7 c8 c9 c10 HK HVs
      obtain ⟨o, ho⟩ : ∃ o, off + k * 13 = o := ⟨_, rfl⟩
      rw [ho] at c0 c1 c2 c3 c4 c5 c6 c7 c8 c9 c10 c11 c12
      have hcap := HI.out.cap
      have hwl := withTo_len is PL k
      have hsr : w1.heap.size ≤ wr.heap.size := HB.out.size
      have B2 := BI.new wr 45 x (.slice kp kl kc) (.slice vp vl vc)
      obtain ⟨w2, hw2⟩ : ∃ w2, wr.alloc (.cells (insC x (.slice kp kl kc) (.slice vp vl vc)).toArray 45) = w2 := ⟨_, rfl⟩
      have hb2 : Below wr.heap.size wr w2 := by rw [← hw2]; exact one_below _ _
      have hs2 : w2.heap.size = wr.heap.size + 1 := by rw [← hw2]; simp
      rw [hw2] at B2
      simp only [insC] at hw2
      have HV2 := Lib.hid (HV.out.on (Kb.of (HB.out.trans (hb2.mono hsr)) (Nat.le_refl _)))
      have S1 := Lib.hid (search_at w2 w1.heap.size pn pc pp PL k HV2.out hrise.out hplen)
      have HB2 := Lib.hid B2
      have HD2 := Lib.hid hb2
      clear ic hc hx HW1 hb2
      cases hf : foundP PL k with
      | true =>
        rw [hf] at S1 HW2
        have HF : Hid (withTo is PL (k + 1) = withTo is PL k) := Lib.hid (by rw [HW2.out]; rfl)
        clear hf B2
        go_wp2_with fail
        (with_reducible refine S1.out.mono ?_)
        rintro e w3 ⟨rfl, rfl⟩
        go_wp2_with fail
        go_roundw
        case rel => exact ⟨k + 1, by simp, by omega, by rw [HF.out]; exact Lib.hid (HO.out.on HD2.out (Nat.le_refl _)), Lib.hid (HB.out.trans (HD2.out.mono hsr))⟩
        case measure => simp [intOf]; omega
      | false =>
        rw [hf] at S1 HW2
        have HF : Hid (withTo is PL (k + 1) = withTo is PL k ++ [{ x with to := wrap64 (x.to - lowP PL x.to) }]) := Lib.hid (by rw [HW2.out]; simp)
        have d0 := B2.c0
        have d1 := B2.c1
        have d2 := B2.c2
        have d3 := B2.c3
        have d4 := B2.c4
        have d5 := B2.c5
        have d6 := B2.c6
        have d7 := B2.c7
        have d8 := B2.c8
        have d9 := B2.c9
        have d10 := B2.c10
        have d11 := B2.c11
        have d12 := B2.c12
        have CC := Lib.hid (clone_at w2 n₀ kl kc vl vc kp vp x (HK.out.on (Kb.of HD2.out (by omega))) (HVs.out.on (Kb.of HD2.out (by omega))) (by omega))
        unfold insV at CC
        simp only [insC] at CC
        clear hf B2
        go_wp2_with fail
        (with_reducible refine S1.out.mono ?_)
        rintro e w3 ⟨rfl, rfl⟩
        go_wp2_with fail
        (with_reducible refine CC.out.mono ?_)
        rintro e w4 ⟨kv, vv, rfl, ho4, hb4⟩
        obtain ⟨kvs, hv1, _⟩ := ho4.vals
        obtain ⟨kg, kq, rfl⟩ := own_shape ho4.key
        obtain ⟨xg, xq, rfl⟩ := own_shape hv1
        have hwb : w1.heap.size ≤ w3.heap.size := by omega
        have HO4 := Lib.hid (ho4.based hwb)
        have HD4 := Lib.hid (HD2.out.trans (hb4.mono HD2.out.size))
        have hs4 := hb4.size
        have B8 := HB2.out.on hb4 (Nat.le_refl _)
        have B5 := BI.new w4 45 x (.slice kg x.key.length kq) (.slice xg x.vals.length xq)
        obtain ⟨w5, hw5⟩ : ∃ w5, w4.alloc (.cells (insC x (.slice kg x.key.length kq) (.slice xg x.vals.length xq)).toArray 45) = w5 := ⟨_, rfl⟩
        have hb5 : Below w4.heap.size w4 w5 := by rw [← hw5]; exact one_below _ _
        rw [hw5] at B5
        simp only [insC] at hw5
        have B8' := B8.on hb5 (Nat.le_refl _)
        have HV5 := Lib.hid (HV.out.on (Kb.of (HB.out.trans ((HD4.out.trans (hb5.mono HD4.out.size)).mono hsr)) (Nat.le_refl _)))
        have S2 := Lib.hid (search_at w5 w1.heap.size pn pc pp PL x.to HV5.out hrise.out hplen)
        have k7 := B8'.c7
        have HB5 := Lib.hid B5
        have HD5 := Lib.hid hb5
        have hs5 := hb5.size
        have y7 := B5.c7
        have f7 := B5.frozen 7
        obtain ⟨bh, hbh⟩ : ∃ bh, lowP PL x.to = bh := ⟨_, rfl⟩
        rw [hbh] at S2 HF
        obtain ⟨w7, hw7⟩ : ∃ w7, w5.setCell ⟨w4.heap.size, 7, none⟩ (.int .i64 (wrap64 (x.to - (bh : Nat)))) = w7 := ⟨_, rfl⟩
        have hb7 : Below w4.heap.size w4 w7 := by rw [← hw7]; exact hb5.setCell (p := ⟨w4.heap.size, 7, none⟩) (Nat.le_refl _) _
        have B7 := B5.setTo (wrap64 (x.to - (bh : Nat)))
        rw [hw7] at B7
        obtain ⟨xt, hxt⟩ : ∃ xt, wrap64 (x.to - (bh : Nat)) = xt := ⟨_, rfl⟩
        rw [hxt] at B7 HF hw7
        have e0 := B7.c0
        have e1 := B7.c1
        have e2 := B7.c2
        have e3 := B7.c3
        have e4 := B7.c4
        have e5 := B7.c5
        have e6 := B7.c6
        have e7 := B7.c7
        have e8 := B7.c8
        have e9 := B7.c9
        have e10 := B7.c10
        have e11 := B7.c11
        have e12 := B7.c12
        have hs7 := hb7.size
        have HD7 := Lib.hid hb7
        have HY7 := Lib.hid ((HO4.out.on hb7 (Nat.le_refl _)).to xt)
        have HO7 := Lib.hid (((HO.out.on HD4.out (Nat.le_refl _))).on hb7 (by omega))
        have HBN := Lib.hid (HB.out.trans ((HD4.out.trans (hb7.mono HD4.out.size)).mono hsr))
        have hOA := HO7.out.on (one_below w7 (.cells #[.int .u8 x.op, .int .i64 x.nd, .int .u8 x.md, .int .i64 x.tb, .bool x.row, .int .i64 x.col, .int .i64 x.vr, .int .i64 xt, .bool x.eq, .int .i64 x.frm, .int .i64 x.upt, .slice kg x.key.length kq, .slice xg x.vals.length xq] 45)) (Nat.le_refl _)
        obtain ⟨ks, vs, hk1, hk2, hk3, hk4⟩ := hOA.row
        have HK4 := Lib.hid hk4
        have HYA := Lib.hid (HY7.out.on (one_below w7 (.cells #[.int .u8 x.op, .int .i64 x.nd, .int .u8 x.md, .int .i64 x.tb, .bool x.row, .int .i64 x.col, .int .i64 x.vr, .int .i64 xt, .bool x.eq, .int .i64 x.frm, .int .i64 x.upt, .slice kg x.key.length kq, .slice xg x.vals.length xq] 45)) (Nat.le_refl _))
        clear hb7 B7 hOA hk4
        clear hv1 ho4 hb4 B8 B8' B5 hb5 CC S1 d0 d1 d2 d3 d4 d5 d6 d7 d8 d9 d10 d11 d12 c0 c1 c2 c3 c4 c5 c6 c7 c8 c9 c10 c11 c12 hbh
        go_wp2_with fail
        (with_reducible refine S2.out.mono ?_)
        rintro e w6 ⟨rfl, rfl⟩
        go_wp2_with (at_builtin; refine wpList_append_own _ rfl (.tmp 45) (.tmp 47) 22 rfl w1.heap.size 45 i0 _ 13 136 Try.underlying22 hi hz0 hz1 hz2 rfl (by decide) (.slice vg (withTo is PL k).length vq) (withTo is PL k).length _ rfl hk3 ⟨w7.heap.size, 0, none⟩ 1 1 [.int .u8 x.op, .int .i64 x.nd, .int .u8 x.md, .int .i64 x.tb, .bool x.row, .int .i64 x.col, .int .i64 x.vr, .int .i64 xt, .bool x.eq, .int .i64 x.frm, .int .i64 x.upt, .slice kg x.key.length kq, .slice xg x.vals.length xq] rfl rfl (World.news_of_block (fr := (0, 0)) (heap_alloc_new _ _)) (by simp [Value.oneCell']) (by unfold maxLen; omega) (by omega) (by simp; omega) ?_; intro v' w8 hown8 hgrow8 _)
        go_roundw
        case rel =>
          refine ⟨k + 1, by simp, by omega, ?_, ?_⟩
          · rw [HF.out]
            exact Lib.hid (OL.snoc hk1 hk2 hk3 HK4.out HYA.out (by decide) (by decide) hown8 hgrow8)
          · exact Lib.hid ((HBN.out.alloc HBN.out.size _).grown hgrow8 (by simp; omega) (fun r e => (hk3.lt r e).1))
        case measure => simp [intOf]; omega
    · obtain rfl : k = len := by omega
      have HR : Hid (res = withTo is PL k) := Lib.hid (by rw [HWP.out, hlen])
      go_wp2_with fail
      go_ret
      exact ⟨_, rfl, by rw [HR.out]; exact HO.out.based HB1.out.size, HBW.out⟩
end Go.Proofs.Ytfboifbpbjmcbaa.Pz
