import Derived.Test.YtfboifbpbjmcbaaPzQ
import Derived.OrdersHeld
import Derived.Deep.Cut
import Derived.Deep.CutRange
import Derived.Deep.RegionLaw
namespace Go.Proofs.Ytfboifbpbjmcbaa.Pz
open Go.RowKit
theorem tk {P : Program} {ops : Array Oper} {Q : Exit → Act → World → Prop} {md : Region.Mode} {S : World → Prop} {i : Nat} {oi : Oper} {v : Value} {fuel : Nat} {listed : Array Bool} {a : Act} {w : World} (hi : ops[i]? = some oi) (hS : S w) (hy : ∀ w, S w → (execOp a.eval oi).run P w = .ok (.value v) w) (h : wpAnyH P md ops Q S fuel (listed.setIfInBounds i true) (a.put oi.dst v) w) (hs : Region.noSelect ops = true := by kernel_rfl) (hf : Region.free md ops listed i = true := by kernel_rfl) (hr : (Region.ready md ops listed).contains i = true := by kernel_rfl) (hw : Region.wanted oi (yielded ops a.tmps) = true := by rfl) (hQ : ∀ c a w, Q (.panic c) (a.put oi.dst v) w → Q (.panic c) a w := by exact fun _ _ _ h => h) : wpAnyH P md ops Q S (fuel + 1) listed a w := wpAnyH_take hi hs hf hr hQ (Or.inl ⟨hw, hy⟩) hS h
theorem tn {P : Program} {ops : Array Oper} {Q : Exit → Act → World → Prop} {md : Region.Mode} {S : World → Prop} {oi : Oper} {v : Value} {fuel : Nat} {listed : Array Bool} {a : Act} {w : World} (i : Nat) (hS : S w) (h : wpAnyH P md ops Q S fuel (listed.setIfInBounds i true) (a.put oi.dst v) w) (hi : ops[i]? = some oi := by exact rfl) (hs : Region.noSelect ops = true := by kernel_rfl) (hf : Region.free md ops listed i = true := by kernel_rfl) (hr : (Region.ready md ops listed).contains i = true := by kernel_rfl) (hw : Region.wanted oi (yielded ops a.tmps) = true := by rfl) (hy : ∀ w, S w → (execOp a.eval oi).run P w = .ok (.value v) w := by (intro w' hSw; clear hSw; go_simp; try with_reducible rfl)) (hQ : ∀ c a w, Q (.panic c) (a.put oi.dst v) w → Q (.panic c) a w := by exact fun _ _ _ h => h) : wpAnyH P md ops Q S (fuel + 1) listed a w := wpAnyH_take hi hs hf hr hQ (Or.inl ⟨hw, hy⟩) hS h
theorem OL.shapeN {W : World} {base T tT tS : Nat} {v : Value} {is : List Ins} {n : Nat} (h : OL W base T tT tS v is) (hl : is.length = n) : ∃ vg vc, v = .slice vg n vc := by
  subst hl
  exact h.shape
theorem PL.first {base B : Nat} {x : Ins} {kv : Value} {W : World} {kl : Nat} (h : BI W B 51 x kv (.slice none 0 0)) (hB : base ≤ B) (hk : W.ownsRow base 64 3 kv kl (flatT x.key)) (hl : x.key.length = kl) : PL base B x kv (.slice none 0 0) 0 W := by
  subst hl
  exact ⟨h, hB, hk, [], ⟨rfl, Or.inl ⟨rfl, rfl⟩⟩, fun i hi => by omega⟩
set_option maxHeartbeats 16000000 in
set_option maxRecDepth 1000000 in
theorem plainC_at (w : World) (n₀ len c : Nat) (p : Option Addr) (is : List Ins) (hI : IsIn n₀ w p len c is) (hn : n₀ ≤ w.heap.size) (b1 : len ≤ 100000) :
    Calls Try.prog 8 #[.slice p len c] w fun e w' => ∃ v, e = .returned v ∧ OL w' w.heap.size 51 64 47 v is ∧ Below w.heap.size w w' := by
  obtain ⟨i0, hi, hz0, hz1, hz2⟩ := info_of infoRI
  obtain ⟨j0, hj', hy0, hy1, hy2⟩ := info_of infoRS
  have HI := Lib.hid hI
  have hlen := hI.len_eq
  clear hI
  go_enter Try.func8, Try.ntmps8
  go_wp2_with fail
  go_loopw [3, 4] (fun v iv wr => ∃ k : Nat, iv = .int .i64 k ∧ k ≤ len ∧ Hid (OL wr w.heap.size 51 64 47 v (is.take k)) ∧ Hid (Below w.heap.size w wr)) (fun _ iv _ => len - (intOf iv).toNat)
  case atStart => exact ⟨0, rfl, Nat.zero_le _, Lib.hid (OL.nil _ _ _ _ _), Lib.hid (Below.refl _ _)⟩
  case round =>
    obtain ⟨k, rfl, hk, HO, HB⟩ := hrel
    have htl : (is.take k).length = k := by rw [List.length_take]; omega
    obtain ⟨vg, vq, rfl⟩  := HO.out.shapeN htl
    by_cases hlt : k < len
    · obtain ⟨b, off, rfl, hbn, hc⟩ := (HI.out.on (Kb.of HB.out hn)).cell (by omega)
      obtain ⟨kp, kl, kc, vp, vl, vc, ic⟩ := hc k hlt
      have c0 := ic.c0
      have c1 := ic.c1
      have c2 := ic.c2
      have c3 := ic.c3
      have c4 := ic.c4
      have c5 := ic.c5
      have c6 := ic.c6
      have c7 := ic.c7
      have c8 := ic.c8
      have c9 := ic.c9
      have c10 := ic.c10
      have c11 := ic.c11
      have c12 := ic.c12
      have HK := Lib.hid ic.key
      have HVs := Lib.hid ic.vals
      have HTK := Lib.hid (take_snoc is k (by omega))
      obtain ⟨x, hx⟩ : ∃ x, is.getD k default = x := ⟨_, rfl⟩
      rw [hx] at c0 c1 c2 c3 c4 c5 c6 c7 c8 c9 c10 HK HVs HTK
      obtain ⟨o, ho⟩ : ∃ o, off + k * 13 = o := ⟨_, rfl⟩
      rw [ho] at c0 c1 c2 c3 c4 c5 c6 c7 c8 c9 c10 c11 c12
      have hcap := HI.out.cap
      have hsr : w.heap.size ≤ wr.heap.size := HB.out.size
      have B2 := BI.new wr 45 x (.slice kp kl kc) (.slice vp vl vc)
      obtain ⟨w2, hw2⟩ : ∃ w2, wr.alloc (.cells (insC x (.slice kp kl kc) (.slice vp vl vc)).toArray 45) = w2 := ⟨_, rfl⟩
      have hb2 : Below wr.heap.size wr w2 := by rw [← hw2]; exact one_below _ _
      have hs2 : w2.heap.size = wr.heap.size + 1 := by rw [← hw2]; simp
      rw [hw2] at B2
      simp only [insC] at hw2
      have HB2 := Lib.hid B2.drew
      have HD2 := Lib.hid hb2.drew
      have hkl := HK.out.len_eq
      have hvl := HVs.out.len_eq
      have hvz := HVs.out.sz
      have PT := Lib.hid (plainT_at w2.drew n₀ kl kc kp x.key (HK.out.on (Kb.of HD2.out (by omega))) (by show n₀ ≤ w2.heap.size; omega))
      -- the variable's box made ahead of the call
      have Z2 := BI.new w2.drew 51 zI (.slice none 0 0) (.slice none 0 0)
      obtain ⟨wz, hwz⟩ : ∃ wz, w2.drew.alloc (.cells (insC zI (.slice none 0 0) (.slice none 0 0)).toArray 51) = wz := ⟨_, rfl⟩
      have hbz : Below wr.heap.size wr wz := by rw [← hwz]; exact HD2.out.trans ((one_below w2.drew _).mono (by show wr.heap.size ≤ w2.heap.size; omega))
      have hsd : w2.drew.heap.size = wr.heap.size + 1 := hs2
      have hsz : wz.heap.size = wr.heap.size + 1 + 1 := by rw [← hwz, World.size_alloc, hsd]
      have HBz := Lib.hid (HB2.out.on (show Below w2.drew.heap.size w2.drew wz by rw [← hwz]; exact one_below _ _) (Nat.le_refl _))
      rw [hwz, hsd] at Z2
      simp only [insC] at hwz
      have HZ2 := Lib.hid Z2
      have HDz := Lib.hid hbz
      have PTz := Lib.hid (plainT_at wz n₀ kl kc kp x.key (HK.out.on (Kb.of hbz (by omega))) (by omega))
      clear ic hc hx hb2 B2 hbz Z2
      go_upto_region 6 with fail
      clear c0 c1 c2 c3 c4 c5 c6 c7 c8 c9 c10 c11 c12 hw2
      go_cut [6] from 8 to 65 (fun s6 wx => ∃ Bm kg kq, s6 = .pointer (some ⟨Bm, 0, none⟩) ∧ wr.heap.size < Bm ∧ Hid (PL wr.heap.size Bm x (.slice kg kl kq) (.slice none 0 0) 0 wx) ∧ Hid (BI wx wr.heap.size 45 x (.slice kp kl kc) (.slice vp vl vc)) ∧ Hid (Below wr.heap.size wr wx))
      case first =>
        have hS := HB2.out
        refine wp_region_held_drew (S := (fun W => BI W wr.heap.size 45 x (.slice kp kl kc) (.slice vp vl vc))) (by kernel_rfl) hS (fun _ => ?_)
        refine tn 0 hS ?_
        (try simp only [Act.put, List.getElem_toArray, List.getElem_cons_zero, List.setIfInBounds_toArray, List.set_cons_zero, List.set_cons_succ])
        refine tk (i := 1) (v := (.int .u8 x.op)) rfl hS (fun w' hSw => by have c := BI.c0 hSw; clear hSw; go_simp) ?_
        (try simp only [Act.put, List.getElem_toArray, List.getElem_cons_zero, List.getElem_cons_succ, List.setIfInBounds_toArray, List.set_cons_zero, List.set_cons_succ])
        refine tn 2 hS ?_
        (try simp only [Act.put, List.getElem_toArray, List.getElem_cons_zero, List.getElem_cons_succ, List.setIfInBounds_toArray, List.set_cons_zero, List.set_cons_succ])
        refine tk (i := 3) (v := (.int .i64 x.nd)) rfl hS (fun w' hSw => by have c := BI.c1 hSw; clear hSw; go_simp) ?_
        (try simp only [Act.put, List.getElem_toArray, List.getElem_cons_zero, List.getElem_cons_succ, List.setIfInBounds_toArray, List.set_cons_zero, List.set_cons_succ])
        refine tn 4 hS ?_
        (try simp only [Act.put, List.getElem_toArray, List.getElem_cons_zero, List.getElem_cons_succ, List.setIfInBounds_toArray, List.set_cons_zero, List.set_cons_succ])
        refine tk (i := 5) (v := (.int .u8 x.md)) rfl hS (fun w' hSw => by have c := BI.c2 hSw; clear hSw; go_simp) ?_
        (try simp only [Act.put, List.getElem_toArray, List.getElem_cons_zero, List.getElem_cons_succ, List.setIfInBounds_toArray, List.set_cons_zero, List.set_cons_succ])
        refine tn 6 hS ?_
        (try simp only [Act.put, List.getElem_toArray, List.getElem_cons_zero, List.getElem_cons_succ, List.setIfInBounds_toArray, List.set_cons_zero, List.set_cons_succ])
        refine tk (i := 7) (v := (.int .i64 x.tb)) rfl hS (fun w' hSw => by have c := BI.c3 hSw; clear hSw; go_simp) ?_
        (try simp only [Act.put, List.getElem_toArray, List.getElem_cons_zero, List.getElem_cons_succ, List.setIfInBounds_toArray, List.set_cons_zero, List.set_cons_succ])
        refine tn 8 hS ?_
        (try simp only [Act.put, List.getElem_toArray, List.getElem_cons_zero, List.getElem_cons_succ, List.setIfInBounds_toArray, List.set_cons_zero, List.set_cons_succ])
        refine tk (i := 9) (v := (.bool x.row)) rfl hS (fun w' hSw => by have c := BI.c4 hSw; clear hSw; go_simp) ?_
        (try simp only [Act.put, List.getElem_toArray, List.getElem_cons_zero, List.getElem_cons_succ, List.setIfInBounds_toArray, List.set_cons_zero, List.set_cons_succ])
        refine tn 10 hS ?_
        (try simp only [Act.put, List.getElem_toArray, List.getElem_cons_zero, List.getElem_cons_succ, List.setIfInBounds_toArray, List.set_cons_zero, List.set_cons_succ])
        refine tk (i := 11) (v := (.int .i64 x.col)) rfl hS (fun w' hSw => by have c := BI.c5 hSw; clear hSw; go_simp) ?_
        (try simp only [Act.put, List.getElem_toArray, List.getElem_cons_zero, List.getElem_cons_succ, List.setIfInBounds_toArray, List.set_cons_zero, List.set_cons_succ])
        refine tn 12 hS ?_
        (try simp only [Act.put, List.getElem_toArray, List.getElem_cons_zero, List.getElem_cons_succ, List.setIfInBounds_toArray, List.set_cons_zero, List.set_cons_succ])
        refine tk (i := 13) (v := (.int .i64 x.vr)) rfl hS (fun w' hSw => by have c := BI.c6 hSw; clear hSw; go_simp) ?_
        (try simp only [Act.put, List.getElem_toArray, List.getElem_cons_zero, List.getElem_cons_succ, List.setIfInBounds_toArray, List.set_cons_zero, List.set_cons_succ])
        refine tn 14 hS ?_
        (try simp only [Act.put, List.getElem_toArray, List.getElem_cons_zero, List.getElem_cons_succ, List.setIfInBounds_toArray, List.set_cons_zero, List.set_cons_succ])
        refine tk (i := 15) (v := (.int .i64 x.to)) rfl hS (fun w' hSw => by have c := BI.c7 hSw; clear hSw; go_simp) ?_
        (try simp only [Act.put, List.getElem_toArray, List.getElem_cons_zero, List.getElem_cons_succ, List.setIfInBounds_toArray, List.set_cons_zero, List.set_cons_succ])
        refine tn 16 hS ?_
        (try simp only [Act.put, List.getElem_toArray, List.getElem_cons_zero, List.getElem_cons_succ, List.setIfInBounds_toArray, List.set_cons_zero, List.set_cons_succ])
        refine tk (i := 17) (v := (.bool x.eq)) rfl hS (fun w' hSw => by have c := BI.c8 hSw; clear hSw; go_simp) ?_
        (try simp only [Act.put, List.getElem_toArray, List.getElem_cons_zero, List.getElem_cons_succ, List.setIfInBounds_toArray, List.set_cons_zero, List.set_cons_succ])
        refine tn 18 hS ?_
        (try simp only [Act.put, List.getElem_toArray, List.getElem_cons_zero, List.getElem_cons_succ, List.setIfInBounds_toArray, List.set_cons_zero, List.set_cons_succ])
        refine tk (i := 19) (v := (.int .i64 x.frm)) rfl hS (fun w' hSw => by have c := BI.c9 hSw; clear hSw; go_simp) ?_
        (try simp only [Act.put, List.getElem_toArray, List.getElem_cons_zero, List.getElem_cons_succ, List.setIfInBounds_toArray, List.set_cons_zero, List.set_cons_succ])
        refine tn 20 hS ?_
        (try simp only [Act.put, List.getElem_toArray, List.getElem_cons_zero, List.getElem_cons_succ, List.setIfInBounds_toArray, List.set_cons_zero, List.set_cons_succ])
        refine tk (i := 21) (v := (.int .i64 x.upt)) rfl hS (fun w' hSw => by have c := BI.c10 hSw; clear hSw; go_simp) ?_
        (try simp only [Act.put, List.getElem_toArray, List.getElem_cons_zero, List.getElem_cons_succ, List.setIfInBounds_toArray, List.set_cons_zero, List.set_cons_succ])
        refine tn 22 hS ?_
        (try simp only [Act.put, List.getElem_toArray, List.getElem_cons_zero, List.getElem_cons_succ, List.setIfInBounds_toArray, List.set_cons_zero, List.set_cons_succ])
        refine tk (i := 23) (v := (.slice kp kl kc)) rfl hS (fun w' hSw => by have c := BI.c11 hSw; clear hSw; go_simp) ?_
        (try simp only [Act.put, List.getElem_toArray, List.getElem_cons_zero, List.getElem_cons_succ, List.setIfInBounds_toArray, List.set_cons_zero, List.set_cons_succ])
        refine wpAnyH_ready (rs := [24, 26]) (by kernel_rfl) (by simp) (AllReadyH.cons rfl (fun K hK => ?_) (AllReadyH.cons rfl (fun K hK => ?_) AllReadyH.nil))
        · clear hS HBz HZ2 HDz PTz hwz
          go_simp
          go_at_call 16
          (with_reducible refine PT.out.mono ?_)
          rintro e w3 ⟨kv, rfl, hk3, hb3⟩
          obtain ⟨kg, kq, rfl⟩ := own_shape hk3
          have hs3 := hb3.size
          have HB3 := Lib.hid (HB2.out.on hb3 (Nat.le_refl _))
          have HK3 := Lib.hid (own_base hk3 (show wr.heap.size ≤ _ by omega))
          have HD3 := Lib.hid (HD2.out.trans (hb3.mono HD2.out.size))
          have Z3 := BI.new w3 51 zI (.slice none 0 0) (.slice none 0 0)
          obtain ⟨w4, hw4⟩ : ∃ w4, w3.alloc (.cells (insC zI (.slice none 0 0) (.slice none 0 0)).toArray 51) = w4 := ⟨_, rfl⟩
          have hb4 : Below w3.heap.size w3 w4 := by rw [← hw4]; exact one_below _ _
          rw [hw4] at Z3
          simp only [insC] at hw4
          have hs4 := hb4.size
          have HZ4 := Lib.hid Z3
          have HB4 := Lib.hid (HB3.out.on hb4 (Nat.le_refl _))
          have HK4 := Lib.hid (own_on HK3.out hb4 (Nat.le_refl _))
          have HD4 := Lib.hid (HD3.out.trans (hb4.mono HD3.out.size))
          clear Z3 hb4 hk3 hb3
          go_simp
          refine hK.out _ _ HB3.out (fun _ => ?_)
          clear hK K
          (try simp only [Act.put, List.getElem_toArray, List.getElem_cons_zero, List.getElem_cons_succ, List.setIfInBounds_toArray, List.set_cons_zero, List.set_cons_succ])
          refine tn 25 HB3.out ?_
          (try simp only [Act.put, List.getElem_toArray, List.getElem_cons_zero, List.getElem_cons_succ, List.setIfInBounds_toArray, List.set_cons_zero, List.set_cons_succ])
          refine wpAnyH_ready (rs := [26]) (by kernel_rfl) (by simp) (AllReadyH.cons rfl (fun K hK => ?_) AllReadyH.nil)
          go_simp
          refine hK.out _ _ HB4.out (fun _ => ?_)
          clear hK K
          (try simp only [Act.put, List.getElem_toArray, List.getElem_cons_zero, List.getElem_cons_succ, List.setIfInBounds_toArray, List.set_cons_zero, List.set_cons_succ])
          have hZk := HZ4.out
          have z0 := hZk.c0
          have y0 := hZk.frozen 0
          have z1 := hZk.c1
          have y1 := hZk.frozen 1
          have z2 := hZk.c2
          have y2 := hZk.frozen 2
          have z3 := hZk.c3
          have y3 := hZk.frozen 3
          have z4 := hZk.c4
          have y4 := hZk.frozen 4
          have z5 := hZk.c5
          have y5 := hZk.frozen 5
          have z6 := hZk.c6
          have y6 := hZk.frozen 6
          have z7 := hZk.c7
          have y7 := hZk.frozen 7
          have z8 := hZk.c8
          have y8 := hZk.frozen 8
          have z9 := hZk.c9
          have y9 := hZk.frozen 9
          have z10 := hZk.c10
          have y10 := hZk.frozen 10
          have z11 := hZk.c11
          have y11 := hZk.frozen 11
          have z12 := hZk.c12
          have y12 := hZk.frozen 12
          clear hZk
          refine wpAnyH_ready (rs := [27]) (by kernel_rfl) (by simp) (AllReadyH.cons rfl (fun K hK => ?_) AllReadyH.nil)
          go_simp
          have HF := Lib.hid (fill_box HZ4.out x (.slice kg kl kq) (.slice none 0 0))
          have HG := Lib.hid (fill_grown w4 w3.heap.size x (.slice kg kl kq) (.slice none 0 0))
          have HNB := Lib.hid (HB4.out.grown HG.out (by first | (simp; done) | (simp; omega)))
          have HKF := Lib.hid (own_apart HK4.out HG.out (fun r e cs fr h => by cases e; rw [show w4.heap[w3.heap.size]? = _ from HZ4.out] at h; simp at h))
          have HDF := Lib.hid (HD4.out.grown HG.out HD4.out.size (fun r e => by cases e; omega))
          refine hK.out _ _ HNB.out (fun _ => ?_)
          clear hK K
          (try simp only [Act.put, List.getElem_toArray, List.getElem_cons_zero, List.getElem_cons_succ, List.setIfInBounds_toArray, List.set_cons_zero, List.set_cons_succ])
          refine wpAnyH_done (by kernel_rfl) ?_ _
          obtain ⟨wF, hwF⟩ : ∃ wF, fill w4 w3.heap.size x (.slice kg kl kq) (.slice none 0 0) = wF := ⟨_, rfl⟩
          rw [hwF] at HF HG HNB HKF HDF
          unfold fill at hwF
          rw [hwF]
          go_wp2_with fail
          go_meet
          exact ⟨w3.heap.size, kg, kq, rfl, by omega, Lib.hid (PL.first HF.out (by omega) HKF.out hkl), HNB, HDF⟩
        · clear hS PT
          go_simp
          refine hK.out _ _ HBz.out (fun _ => ?_)
          clear hK K
          (try simp only [Act.put, List.getElem_toArray, List.getElem_cons_zero, List.getElem_cons_succ, List.setIfInBounds_toArray, List.set_cons_zero, List.set_cons_succ])
          refine wpAnyH_ready (rs := [24]) (by kernel_rfl) (by simp) (AllReadyH.cons rfl (fun K hK => ?_) AllReadyH.nil)
          go_simp
          go_at_call 16
          (with_reducible refine PTz.out.mono ?_)
          rintro e w3 ⟨kv, rfl, hk3, hb3⟩
          obtain ⟨kg, kq, rfl⟩ := own_shape hk3
          have hs3 := hb3.size
          have HB3 := Lib.hid (HBz.out.on hb3 (Nat.le_refl _))
          have HK3 := Lib.hid (own_base hk3 (show wr.heap.size ≤ _ by omega))
          have HD3 := Lib.hid (HDz.out.trans (hb3.mono HDz.out.size))
          have HZ3 := Lib.hid (HZ2.out.on hb3 (Nat.le_refl _))
          clear hb3 hk3
          go_simp
          refine hK.out _ _ HB3.out (fun _ => ?_)
          clear hK K
          (try simp only [Act.put, List.getElem_toArray, List.getElem_cons_zero, List.getElem_cons_succ, List.setIfInBounds_toArray, List.set_cons_zero, List.set_cons_succ])
          refine tn 25 HB3.out ?_
          (try simp only [Act.put, List.getElem_toArray, List.getElem_cons_zero, List.getElem_cons_succ, List.setIfInBounds_toArray, List.set_cons_zero, List.set_cons_succ])
          have hZk := HZ3.out
          have z0 := hZk.c0
          have y0 := hZk.frozen 0
          have z1 := hZk.c1
          have y1 := hZk.frozen 1
          have z2 := hZk.c2
          have y2 := hZk.frozen 2
          have z3 := hZk.c3
          have y3 := hZk.frozen 3
          have z4 := hZk.c4
          have y4 := hZk.frozen 4
          have z5 := hZk.c5
          have y5 := hZk.frozen 5
          have z6 := hZk.c6
          have y6 := hZk.frozen 6
          have z7 := hZk.c7
          have y7 := hZk.frozen 7
          have z8 := hZk.c8
          have y8 := hZk.frozen 8
          have z9 := hZk.c9
          have y9 := hZk.frozen 9
          have z10 := hZk.c10
          have y10 := hZk.frozen 10
          have z11 := hZk.c11
          have y11 := hZk.frozen 11
          have z12 := hZk.c12
          have y12 := hZk.frozen 12
          clear hZk
          refine wpAnyH_ready (rs := [27]) (by kernel_rfl) (by simp) (AllReadyH.cons rfl (fun K hK => ?_) AllReadyH.nil)
          go_simp
          have HF := Lib.hid (fill_box HZ3.out x (.slice kg kl kq) (.slice none 0 0))
          have HG := Lib.hid (fill_grown w3 (wr.heap.size + 1) x (.slice kg kl kq) (.slice none 0 0))
          have HNB := Lib.hid (HB3.out.grown HG.out (by first | (simp; done) | (simp; omega)))
          have HKF := Lib.hid (own_apart HK3.out HG.out (fun r e cs fr h => by cases e; rw [show w3.heap[(wr.heap.size + 1)]? = _ from HZ3.out] at h; simp at h))
          have HDF := Lib.hid (HD3.out.grown HG.out HD3.out.size (fun r e => by cases e; omega))
          refine hK.out _ _ HNB.out (fun _ => ?_)
          clear hK K
          (try simp only [Act.put, List.getElem_toArray, List.getElem_cons_zero, List.getElem_cons_succ, List.setIfInBounds_toArray, List.set_cons_zero, List.set_cons_succ])
          refine wpAnyH_done (by kernel_rfl) ?_ _
          obtain ⟨wF, hwF⟩ : ∃ wF, fill w3 (wr.heap.size + 1) x (.slice kg kl kq) (.slice none 0 0) = wF := ⟨_, rfl⟩
          rw [hwF] at HF HG HNB HKF HDF
          unfold fill at hwF
          rw [hwF]
          go_wp2_with fail
          go_meet
          exact ⟨(wr.heap.size + 1), kg, kq, rfl, by omega, Lib.hid (PL.first HF.out (by omega) HKF.out hkl), HNB, HDF⟩
      case rest =>
        obtain ⟨wo, rfl⟩ : ∃ wo : World, wo = wr := ⟨_, rfl⟩
        obtain ⟨Bm, kg, kq, rfl, hBm, HP, HN, HD⟩ := hcut
        clear HBz HZ2 HDz PTz PT HB2 HD2 hwz hsd hsz hs2
        go_wp2_with fail
        go_loopw [7] (fun jv W => ∃ j : Nat, jv = .int .i64 j ∧ j ≤ vl ∧ ∃ vv, Hid (PL wo.heap.size Bm x (.slice kg kl kq) vv j W) ∧ Hid (BI W wo.heap.size 45 x (.slice kp kl kc) (.slice vp vl vc)) ∧ Hid (Below wo.heap.size wo W)) (fun jv _ => vl - (intOf jv).toNat)
        case atStart => exact ⟨0, rfl, Nat.zero_le _, _, HP, HN, HD⟩
        case round =>
          clear HP HN HD
          obtain ⟨j, rfl, hj, vv, HP, HN, HD⟩ := hrel
          obtain ⟨kvs, hr1, hr2⟩ := HP.out.row
          obtain ⟨xg, xq, rfl⟩ := own_shape hr1
          have hsw := HD.out.size
          have n12 := HN.out.c12
          by_cases hjl : j < vl
          · obtain ⟨bv, offv, rfl, hbv, hcv⟩ := (HVs.out.on (Kb.of HD.out (by omega))).cell (by omega)
            obtain ⟨q, l, d, el, ht⟩ := hcv j hjl
            have hvc := HVs.out.cap
            have m12 := HP.out.box.c12
            have hdr : Below wr.heap.size wr wr.drew := (Below.refl _ wr).drew
            have PT := Lib.hid (plainT_at wr.drew n₀ l d q (x.vals.getD j []) (ht.on (Kb.of hdr (by omega))) (by show n₀ ≤ wr.heap.size; omega))
            have htl2 := ht.len_eq
            have HSb : Hid (∀ w5 : World, Below wr.drew.heap.size wr.drew w5 → PL wo.heap.size Bm x (.slice kg kl kq) (.slice xg j xq) j w5 ∧ BI w5 wo.heap.size 45 x (.slice kp kl kc) (.slice (some ⟨bv, offv, none⟩) vl vc) ∧ Below wo.heap.size wo w5 ∧ w5.cell? ⟨bv, offv + j, none⟩ = some (.slice q l d) ∧ w5.ownsRow wo.heap.size 47 1 (.slice xg j xq) j kvs ∧ (∀ i, i < j → w5.ownsRow wo.heap.size 64 3 (kvs.getD i default) (x.vals.getD i []).length (flatT (x.vals.getD i [])))) := Lib.hid (fun w5 h5 => by
              have h6 : Below wr.heap.size wr w5 := hdr.trans h5
              exact ⟨HP.out.on h6 (Nat.le_refl _), HN.out.on h6 (Nat.le_refl _), HD.out.trans (h6.mono hsw), (Kb.of h6 (Nat.le_refl _)).cell (by have := cell_lt el; exact this) el, own_on hr1 h6 (Nat.le_refl _), fun i hi => own_on (hr2 i hi) h6 (Nat.le_refl _)⟩)
            have BM : Hid (∀ g6 cap6 (w5 w6 : World), w5.ownsRow wo.heap.size 47 1 (.slice xg j xq) j kvs → BI w5 Bm 51 x (.slice kg kl kq) (.slice xg j xq) → (w5.alloc (.cells #[.slice (g6 : Option Addr) l (cap6 : Nat)] 47)).grownBy w6 (Value.slice xg j xq).ownBlock → BI w6 Bm 51 x (.slice kg kl kq) (.slice xg j xq)) := Lib.hid (fun g6 cap6 w5 w6 h1 h2 h3 => (h2.grown (World.grownBy_alloc _ _ none) (by simp)).grown h3 (fun e => by
              obtain ⟨c, fz, h5⟩ := Lib.ownsRow_kind h1 Bm e
              have := h5.symm.trans (show w5.heap[Bm]? = _ from h2)
              simp at this))
            clear hcv hr2 ht
            go_wp2_with fail
            go_region_law
              (first
                | (refine step_append_lies _ (by rfl) (.tmp 52) (.tmp 59) 49 (by rfl) wo.heap.size 47 j0 _ 1 24 Try.underlying49 hj' hy0 hy1 hy2 rfl (by decide) (.slice xg j xq) j kvs (by rfl) (hr5.alloc _) ⟨w5.heap.size, 0, none⟩ 1 1 [.slice ng l nq] (by rfl) (by rfl) (World.news_of_block (cs := #[.slice ng l nq]) (t := 47) (fr := (0, 0)) (heap_alloc_new _ _)) (by simp [Value.oneCell']) (by decide) (by unfold maxLen; omega) (by omega) (by simp; omega) _ (by rfl) ?_; intro g6 cap6 w6 hown6 hgrow6 hat6 hlt6; have b6 := BM.out ng nq w5 w6 hr5 (HP5.out.box) hgrow6; have m6 := b6.c12; have z6 := b6.frozen 12)
                | (rw [if_pos (by rfl)]; go_simp; go_at_call 16; refine PT.out.mono ?_; rintro e w5 ⟨nv, rfl, hown5, hb5⟩; obtain ⟨ng, nq, rfl⟩ := own_shape hown5; obtain ⟨hp5, hn5, hd5, el5, hr5, hrr5⟩ := HSb.out w5 hb5; have m5 := hp5.box.c12; have ma5 : (w5.alloc (.cells #[.slice ng l nq] 47)).cell? ⟨Bm, 12, none⟩ = some (.slice xg j xq) := (World.cell?_alloc_lt _ _ ⟨Bm, 12, none⟩ (cell_lt m5)).trans m5; have HP5 := Lib.hid hp5; have HN5 := Lib.hid hn5; have HD5 := Lib.hid hd5; have HRR5 := Lib.hid hrr5; have HO5 := Lib.hid hown5; have hs5 : wo.heap.size ≤ w5.heap.size := hd5.size; clear hp5 hn5 hd5 hrr5 hown5 hb5; (try go_wp2_with fail)))
            all_goals
              have bA := one_below w5 (.cells #[.slice ng l nq] 47)
              have PN := Lib.hid (PL.push (HP5.out.on bA (Nat.le_refl _)) (hr5.alloc _) (fun i hi => own_on (HRR5.out i hi) bA (Nat.le_refl _)) (by rw [htl2]; exact own_on (own_base HO5.out (show wo.heap.size ≤ wr.drew.heap.size from hsw)) bA (Nat.le_refl _)) hown6 hgrow6)
              have gS := grown_set w6 Bm 12 (.slice (some ⟨g6, 0, none⟩) (j + 1) cap6)
              have NN := Lib.hid (((HN5.out.grown (World.grownBy_alloc w5 (.cells #[.slice ng l nq] 47) none) (by simp)).grown hgrow6 (fun e => by
                obtain ⟨c, fz, h5⟩ := Lib.ownsRow_kind (hr5.alloc (.cells #[.slice ng l nq] 47)) wo.heap.size e
                have := h5.symm.trans (show (w5.alloc (.cells #[.slice ng l nq] 47)).heap[wo.heap.size]? = _ from HN5.out.grown (World.grownBy_alloc w5 _ none) (by simp))
                simp at this)).grown gS (by simp; omega))
              have DN := Lib.hid (((HD5.out.alloc hs5 (.cells #[.slice ng l nq] 47)).grown hgrow6 (by simp; omega) (fun r e => ((hr5.alloc (.cells #[.slice ng l nq] 47)).lt r e).1)).grown gS (by have := hgrow6.size; simp at this; omega) (fun r e => by cases e; omega))
              clear hown6 hgrow6 bA gS
              go_wp2
              go_roundw
              case rel => exact ⟨j + 1, by simp, by omega, _, PN, NN, DN⟩
              case measure => simp [intOf]; omega
          · obtain rfl : j = vl := by omega
            have hpb := HP.out.box
            have d0 := hpb.c0
            have d1 := hpb.c1
            have d2 := hpb.c2
            have d3 := hpb.c3
            have d4 := hpb.c4
            have d5 := hpb.c5
            have d6 := hpb.c6
            have d7 := hpb.c7
            have d8 := hpb.c8
            have d9 := hpb.c9
            have d10 := hpb.c10
            have d11 := hpb.c11
            have d12 := hpb.c12
            have HOI : Hid (OI wr w.heap.size 64 47 x (.slice kg kl kq) (.slice xg j xq)) := Lib.hid ⟨own_base HP.out.key hsr, kvs, own_base (by rw [hvl]; exact hr1) hsr, fun i hi => own_base (hr2 i (by omega)) hsr⟩
            have bA := one_below wr (.cells #[.int .u8 x.op, .int .i64 x.nd, .int .u8 x.md, .int .i64 x.tb, .bool x.row, .int .i64 x.col, .int .i64 x.vr, .int .i64 x.to, .bool x.eq, .int .i64 x.frm, .int .i64 x.upt, .slice kg kl kq, .slice xg j xq] 51)
            have hOA := (HO.out.on HD.out (Nat.le_refl _)).on bA (Nat.le_refl _)
            have HOA := Lib.hid (HOI.out.on bA (Nat.le_refl _))
            obtain ⟨ks, vs, hk1, hk2, hk3, hk4⟩ := hOA.row
            have HK4 := Lib.hid hk4
            have HBW := Lib.hid (HB.out.trans (HD.out.mono hsr))
            clear hpb hr2 hOA hk4 bA
            rw [htl] at hk3
            go_wp2_with (at_builtin; refine wpList_append_own _ rfl (.tmp 62) (.tmp 64) 26 rfl w.heap.size 51 i0 _ 13 136 Try.underlying26 hi hz0 hz1 hz2 rfl (by decide) (.slice vg k vq) k _ rfl hk3 ⟨wr.heap.size, 0, none⟩ 1 1 [.int .u8 x.op, .int .i64 x.nd, .int .u8 x.md, .int .i64 x.tb, .bool x.row, .int .i64 x.col, .int .i64 x.vr, .int .i64 x.to, .bool x.eq, .int .i64 x.frm, .int .i64 x.upt, .slice kg kl kq, .slice xg j xq] rfl rfl (World.news_of_block (fr := (0, 0)) (heap_alloc_new _ _)) (by simp [Value.oneCell']) (by unfold maxLen; omega) (by omega) (by simp; omega) ?_; intro v' w8 hown8 hgrow8 _)
            go_roundw
            case rel =>
              refine ⟨k + 1, by simp, by omega, ?_, ?_⟩
              · rw [HTK.out]
                exact Lib.hid (OL.snoc hk1 hk2 (by rw [htl]; exact hk3) HK4.out HOA.out (by decide) (by decide) (by rw [htl]; exact hown8) hgrow8)
              · exact Lib.hid ((HBW.out.alloc HBW.out.size _).grown hgrow8 (by simp; omega) (fun r e => (hk3.lt r e).1))
            case measure => simp [intOf]; omega
    · obtain rfl : k = len := by omega
      have HR : Hid (is.take k = is) := Lib.hid (List.take_of_length_le (by omega))
      go_wp2_with fail
      go_ret
      rw [HR.out] at HO
      exact ⟨_, rfl, HO.out, HB.out⟩
end Go.Proofs.Ytfboifbpbjmcbaa.Pz
