import Derived.Test.YtfboifbpbjmcbaaPzS
import Derived.Test.YtfboifbpbjmcbaaPzR
import Derived.OrdersHeld
import Derived.Deep.RegionHeld3
import Derived.Deep.Cut
import Derived.Deep.CutRange
import Derived.Deep.RegionLaw
import Derived.BigRegion
namespace Go.Proofs.Ytfboifbpbjmcbaa.Pz
open Go.RowKit
/-- An instruction's cells at a place. -/
def CI (W : World) (b o : Nat) (x : Ins) (kv vv : Value) : Prop := ∀ j v, (insC x kv vv)[j]? = some v → W.cell? ⟨b, o + j, none⟩ = some v
theorem CI.alloc {W : World} {b o : Nat} {x : Ins} {kv vv : Value} (h : CI W b o x kv vv) (ob : Obj) : CI (W.alloc ob) b o x kv vv := fun j v hj => (World.cell?_alloc_lt _ _ ⟨b, o + j, none⟩ (cell_lt (h j v hj))).trans (h j v hj)
theorem CI.grown {W W' : World} {b o B : Nat} {x : Ins} {kv vv : Value} (h : CI W b o x kv vv) (hg : W.grownBy W' (some B)) (hb : b ≠ B) : CI W' b o x kv vv := fun j v hj => by
  have h1 := h j v hj
  rw [World.cell?_of_block (w := W) (a := ⟨b, o + j, none⟩) (hg.block b (cell_lt h1) (fun e => hb (Option.some.inj e)))]
  exact h1
set_option maxHeartbeats 16000000 in
set_option maxRecDepth 1000000 in
/-- Two like rows of instructions are the same. -/
theorem same_at (w : World) (n₀ len c ce : Nat) (p q : Option Addr) (is : List Ins) (h1 : IsIn n₀ w p len c is) (h2 : IsIn n₀ w q len ce is) (hn : n₀ ≤ w.heap.size) (hb : len ≤ 100000) :
    Calls Try.prog 13 #[.slice p len c, .slice q len ce] w fun e w' => e = .returned (.bool true) ∧ Below w.heap.size w w' := by
  have H1 := Lib.hid h1
  have H2 := Lib.hid h2
  have hca := h1.cap
  have hce := h2.cap
  clear h1 h2
  go_enter Try.func13, Try.ntmps13
  go_wp2_with fail
  go_loopw [5] (fun iv wr => ∃ i : Nat, iv = .int .i64 i ∧ i ≤ len ∧ Hid (Below w.heap.size w wr)) (fun iv _ => len - (intOf iv).toNat)
  case atStart => exact ⟨0, rfl, Nat.zero_le _, Lib.hid (Below.refl _ _)⟩
  case round =>
    obtain ⟨i, rfl, hi, HB⟩ := hrel
    by_cases hlt : i < len
    · obtain ⟨b, off, rfl, hbn, hc⟩ := (H1.out.on (Kb.of HB.out hn)).cell (by omega)
      obtain ⟨b', off', rfl, hbn', hc'⟩ := (H2.out.on (Kb.of HB.out hn)).cell (by omega)
      obtain ⟨kp, kl, kc, vp, vl, vc, ic⟩ := hc i hlt
      obtain ⟨kp', kl', kc', vp', vl', vc', ic'⟩ := hc' i hlt
      obtain rfl : kl = kl' := by rw [← ic.key.len_eq, ← ic'.key.len_eq]
      obtain rfl : vl = vl' := by rw [← ic.vals.len_eq, ← ic'.vals.len_eq]
      have c0 := ic.c0
      have c1 := ic.c1
      have c2 := ic.c2
      have c3 := ic.c3
      have c4 := ic.c4
      have c5 := ic.c5
      have c6 := ic.c6
      have c7 := ic.c7
      have c8 := ic.c8
      have c9 := ic.c9
      have c10 := ic.c10
      have c11 := ic.c11
      have c12 := ic.c12
      have d0 := ic'.c0
      have d1 := ic'.c1
      have d2 := ic'.c2
      have d3 := ic'.c3
      have d4 := ic'.c4
      have d5 := ic'.c5
      have d6 := ic'.c6
      have d7 := ic'.c7
      have d8 := ic'.c8
      have d9 := ic'.c9
      have d10 := ic'.c10
      have d11 := ic'.c11
      have d12 := ic'.c12
      have HK := Lib.hid ic.key
      have HV := Lib.hid ic.vals
      have HK' := Lib.hid ic'.key
      have HV' := Lib.hid ic'.vals
      obtain ⟨x, hx⟩ : ∃ x, is.getD i default = x := ⟨_, rfl⟩
      rw [hx] at c0 c1 c2 c3 c4 c5 c6 c7 c8 c9 c10 d0 d1 d2 d3 d4 d5 d6 d7 d8 d9 d10 HK HV HK' HV'
      obtain ⟨o, ho⟩ : ∃ o, off + i * 13 = o := ⟨_, rfl⟩
      obtain ⟨o', ho'⟩ : ∃ o', off' + i * 13 = o' := ⟨_, rfl⟩
      rw [ho] at c0 c1 c2 c3 c4 c5 c6 c7 c8 c9 c10 c11 c12
      rw [ho'] at d0 d1 d2 d3 d4 d5 d6 d7 d8 d9 d10 d11 d12
      have HC0 : Hid (CI wr.drew b o x (.slice kp kl kc) (.slice vp vl vc) ∧ CI wr.drew b' o' x (.slice kp' kl kc') (.slice vp' vl vc')) := Lib.hid (by rw [← ho, ← ho', ← hx]; exact ⟨ic.cell, ic'.cell⟩)
      have hsr := HB.out.size
      have hvz := HV.out.sz
      clear hc hc' ic ic' hx
      go_upto_region 6 with fail
      go_cut [6, 7] from 14 to 131 (fun s6 s7 wx => ∃ Bx By, s6 = .pointer (some ⟨Bx, 0, none⟩) ∧ s7 = .pointer (some ⟨By, 0, none⟩) ∧ Hid (BI wx Bx 51 x (.slice kp kl kc) (.slice vp vl vc)) ∧ Hid (BI wx By 51 x (.slice kp' kl kc') (.slice vp' vl vc')) ∧ Hid (Below wr.heap.size wr wx))
      case first =>
        have hS : CI wr.drew b o x (.slice kp kl kc) (.slice vp vl vc) ∧ CI wr.drew b' o' x (.slice kp' kl kc') (.slice vp' vl vc') := HC0.out
        refine wp_region_held_drew (S := fun W => CI W b o x (.slice kp kl kc) (.slice vp vl vc) ∧ CI W b' o' x (.slice kp' kl kc') (.slice vp' vl vc')) (by kernel_rfl) hS (fun _ => ?_)
        refine tn 0 hS ?_
        (try simp only [Act.put, List.getElem_toArray, List.getElem_cons_zero, List.setIfInBounds_toArray, List.set_cons_zero, List.set_cons_succ])
        refine tn 1 hS ?_
        (try simp only [Act.put, List.getElem_toArray, List.getElem_cons_zero, List.getElem_cons_succ, List.setIfInBounds_toArray, List.set_cons_zero, List.set_cons_succ])
        refine tn 2 hS ?_
        (try simp only [Act.put, List.getElem_toArray, List.getElem_cons_zero, List.getElem_cons_succ, List.setIfInBounds_toArray, List.set_cons_zero, List.set_cons_succ])
        refine tk (i := 3) (v := (.agg #[.int .u8 x.op, .int .i64 x.nd, .int .u8 x.md, .int .i64 x.tb, .bool x.row, .int .i64 x.col, .int .i64 x.vr, .int .i64 x.to, .bool x.eq, .int .i64 x.frm, .int .i64 x.upt, .slice kp kl kc, .slice vp vl vc])) rfl hS (fun w' hSw => by have cc := hSw.1; clear hSw; have q0 : w'.cell? ⟨b, o, none⟩ = some (.int .u8 x.op) := cc 0 _ rfl; have q1 := cc 1 _ rfl; have q2 := cc 2 _ rfl; have q3 := cc 3 _ rfl; have q4 := cc 4 _ rfl; have q5 := cc 5 _ rfl; have q6 := cc 6 _ rfl; have q7 := cc 7 _ rfl; have q8 := cc 8 _ rfl; have q9 := cc 9 _ rfl; have q10 := cc 10 _ rfl; have q11 := cc 11 _ rfl; have q12 := cc 12 _ rfl; clear cc; go_simp) ?_
        (try simp only [Act.put, List.getElem_toArray, List.getElem_cons_zero, List.getElem_cons_succ, List.setIfInBounds_toArray, List.set_cons_zero, List.set_cons_succ])
        refine tn 4 hS ?_
        (try simp only [Act.put, List.getElem_toArray, List.getElem_cons_zero, List.getElem_cons_succ, List.setIfInBounds_toArray, List.set_cons_zero, List.set_cons_succ])
        refine tn 5 hS ?_
        (try simp only [Act.put, List.getElem_toArray, List.getElem_cons_zero, List.getElem_cons_succ, List.setIfInBounds_toArray, List.set_cons_zero, List.set_cons_succ])
        refine tn 6 hS ?_
        (try simp only [Act.put, List.getElem_toArray, List.getElem_cons_zero, List.getElem_cons_succ, List.setIfInBounds_toArray, List.set_cons_zero, List.set_cons_succ])
        refine tk (i := 7) (v := (.agg #[.int .u8 x.op, .int .i64 x.nd, .int .u8 x.md, .int .i64 x.tb, .bool x.row, .int .i64 x.col, .int .i64 x.vr, .int .i64 x.to, .bool x.eq, .int .i64 x.frm, .int .i64 x.upt, .slice kp' kl kc', .slice vp' vl vc'])) rfl hS (fun w' hSw => by have cc := hSw.2; clear hSw; have q0 : w'.cell? ⟨b', o', none⟩ = some (.int .u8 x.op) := cc 0 _ rfl; have q1 := cc 1 _ rfl; have q2 := cc 2 _ rfl; have q3 := cc 3 _ rfl; have q4 := cc 4 _ rfl; have q5 := cc 5 _ rfl; have q6 := cc 6 _ rfl; have q7 := cc 7 _ rfl; have q8 := cc 8 _ rfl; have q9 := cc 9 _ rfl; have q10 := cc 10 _ rfl; have q11 := cc 11 _ rfl; have q12 := cc 12 _ rfl; clear cc; go_simp) ?_
        (try simp only [Act.put, List.getElem_toArray, List.getElem_cons_zero, List.getElem_cons_succ, List.setIfInBounds_toArray, List.set_cons_zero, List.set_cons_succ])
        have Z1 := BI.new wr.drew 51 zI (.slice none 0 0) (.slice none 0 0)
        obtain ⟨wa, hwa⟩ : ∃ wa, wr.drew.alloc (.cells (insC zI (.slice none 0 0) (.slice none 0 0)).toArray 51) = wa := ⟨_, rfl⟩
        have hsa : wa.heap.size = wr.heap.size + 1 := by rw [← hwa, World.size_alloc]; rfl
        have hca : CI wa b o x (.slice kp kl kc) (.slice vp vl vc) ∧ CI wa b' o' x (.slice kp' kl kc') (.slice vp' vl vc') := by rw [← hwa]; exact ⟨hS.1.alloc _, hS.2.alloc _⟩
        have hda : Below wr.heap.size wr wa := by rw [← hwa]; exact ((Below.refl _ wr).drew).alloc (Nat.le_refl _) _
        rw [hwa] at Z1
        have Z2 := BI.new wa 51 zI (.slice none 0 0) (.slice none 0 0)
        obtain ⟨wb, hwb⟩ : ∃ wb, wa.alloc (.cells (insC zI (.slice none 0 0) (.slice none 0 0)).toArray 51) = wb := ⟨_, rfl⟩
        have hcb : CI wb b o x (.slice kp kl kc) (.slice vp vl vc) ∧ CI wb b' o' x (.slice kp' kl kc') (.slice vp' vl vc') := by rw [← hwb]; exact ⟨hca.1.alloc _, hca.2.alloc _⟩
        have hdb : Below wr.heap.size wr wb := by rw [← hwb]; exact hda.alloc (by omega) _
        have Z1b : BI wb wr.heap.size 51 zI (.slice none 0 0) (.slice none 0 0) := by rw [← hwb]; exact (show BI wa wr.heap.size _ _ _ _ from Z1).grown (World.grownBy_alloc _ _ none) (by simp)
        rw [hwb, hsa] at Z2
        simp only [insC] at hwa hwb
        have HCZ := Lib.hid hcb
        have HDZ := Lib.hid hdb
        have HZ1 := Lib.hid Z1b
        have HZ2 := Lib.hid Z2
        have HCA0 := Lib.hid hca
        clear Z1 Z1b Z2 hcb hdb hda hS hca
        refine wpAnyH_ready (rs := [8, 9]) (by kernel_rfl) (by simp) (AllReadyH.cons rfl (fun K hK => ?_) (AllReadyH.cons rfl (fun K hK => ?_) AllReadyH.nil))
        · go_simp
          refine hK.out _ _ HCA0.out (fun _ => ?_)
          clear hK K
          (try simp only [Act.put, List.getElem_toArray, List.getElem_cons_zero, List.getElem_cons_succ, List.setIfInBounds_toArray, List.set_cons_zero, List.set_cons_succ])
          refine wpAnyH_ready (rs := [9]) (by kernel_rfl) (by simp) (AllReadyH.cons rfl (fun K hK => ?_) AllReadyH.nil)
          go_simp
          refine hK.out _ _ HCZ.out (fun _ => ?_)
          clear hK K
          (try simp only [Act.put, List.getElem_toArray, List.getElem_cons_zero, List.getElem_cons_succ, List.setIfInBounds_toArray, List.set_cons_zero, List.set_cons_succ])
          have HZA := HZ1
          have HZB := HZ2
          clear HZ1 HZ2
          have z0 := HZA.out.c0
          have y0 := HZA.out.frozen 0
          have z1 := HZA.out.c1
          have y1 := HZA.out.frozen 1
          have z2 := HZA.out.c2
          have y2 := HZA.out.frozen 2
          have z3 := HZA.out.c3
          have y3 := HZA.out.frozen 3
          have z4 := HZA.out.c4
          have y4 := HZA.out.frozen 4
          have z5 := HZA.out.c5
          have y5 := HZA.out.frozen 5
          have z6 := HZA.out.c6
          have y6 := HZA.out.frozen 6
          have z7 := HZA.out.c7
          have y7 := HZA.out.frozen 7
          have z8 := HZA.out.c8
          have y8 := HZA.out.frozen 8
          have z9 := HZA.out.c9
          have y9 := HZA.out.frozen 9
          have z10 := HZA.out.c10
          have y10 := HZA.out.frozen 10
          have z11 := HZA.out.c11
          have y11 := HZA.out.frozen 11
          have z12 := HZA.out.c12
          have y12 := HZA.out.frozen 12
          refine wpAnyH_ready (rs := [10]) (by kernel_rfl) (by simp) (AllReadyH.cons rfl (fun K hK => ?_) AllReadyH.nil)
          go_simp
          have HFA := Lib.hid (fill_box HZA.out x (.slice kp kl kc) (.slice vp vl vc))
          have HGA := Lib.hid (fill_grown wb wr.heap.size x (.slice kp kl kc) (.slice vp vl vc))
          have HCA := Lib.hid (And.intro (HCZ.out.1.grown HGA.out (by omega)) (HCZ.out.2.grown HGA.out (by omega)))
          have HZB2 := Lib.hid (HZB.out.grown HGA.out (by simp))
          have HDA := Lib.hid (HDZ.out.grown HGA.out HDZ.out.size (fun r e => by cases e; omega))
          refine hK.out _ _ HCA.out (fun _ => ?_)
          clear hK K
          (try simp only [Act.put, List.getElem_toArray, List.getElem_cons_zero, List.getElem_cons_succ, List.setIfInBounds_toArray, List.set_cons_zero, List.set_cons_succ])
          obtain ⟨wF, hwF⟩ : ∃ wF, fill wb wr.heap.size x (.slice kp kl kc) (.slice vp vl vc) = wF := ⟨_, rfl⟩
          rw [hwF] at HFA HCA HZB2 HDA
          unfold fill at hwF
          rw [hwF]
          clear HGA hwF z0 y0 z1 y1 z2 y2 z3 y3 z4 y4 z5 y5 z6 y6 z7 y7 z8 y8 z9 y9 z10 y10 z11 y11 z12 y12
          have z0 := HZB2.out.c0
          have y0 := HZB2.out.frozen 0
          have z1 := HZB2.out.c1
          have y1 := HZB2.out.frozen 1
          have z2 := HZB2.out.c2
          have y2 := HZB2.out.frozen 2
          have z3 := HZB2.out.c3
          have y3 := HZB2.out.frozen 3
          have z4 := HZB2.out.c4
          have y4 := HZB2.out.frozen 4
          have z5 := HZB2.out.c5
          have y5 := HZB2.out.frozen 5
          have z6 := HZB2.out.c6
          have y6 := HZB2.out.frozen 6
          have z7 := HZB2.out.c7
          have y7 := HZB2.out.frozen 7
          have z8 := HZB2.out.c8
          have y8 := HZB2.out.frozen 8
          have z9 := HZB2.out.c9
          have y9 := HZB2.out.frozen 9
          have z10 := HZB2.out.c10
          have y10 := HZB2.out.frozen 10
          have z11 := HZB2.out.c11
          have y11 := HZB2.out.frozen 11
          have z12 := HZB2.out.c12
          have y12 := HZB2.out.frozen 12
          refine wpAnyH_ready (rs := [11]) (by kernel_rfl) (by simp) (AllReadyH.cons rfl (fun K hK => ?_) AllReadyH.nil)
          go_simp
          have HFB := Lib.hid (fill_box HZB2.out x (.slice kp' kl kc') (.slice vp' vl vc'))
          have HGB := Lib.hid (fill_grown wF (wr.heap.size + 1) x (.slice kp' kl kc') (.slice vp' vl vc'))
          have HFA2 := Lib.hid (HFA.out.grown HGB.out (by simp))
          have HCB := Lib.hid (And.intro (HCA.out.1.grown HGB.out (by omega)) (HCA.out.2.grown HGB.out (by omega)))
          have HDB := Lib.hid (HDA.out.grown HGB.out HDA.out.size (fun r e => by cases e; omega))
          refine hK.out _ _ HCB.out (fun _ => ?_)
          clear hK K
          (try simp only [Act.put, List.getElem_toArray, List.getElem_cons_zero, List.getElem_cons_succ, List.setIfInBounds_toArray, List.set_cons_zero, List.set_cons_succ])
          refine wpAnyH_done (by kernel_rfl) ?_ _
          obtain ⟨wG, hwG⟩ : ∃ wG, fill wF (wr.heap.size + 1) x (.slice kp' kl kc') (.slice vp' vl vc') = wG := ⟨_, rfl⟩
          rw [hwG] at HFB HFA2 HDB
          unfold fill at hwG
          rw [hwG]
          go_wp2_with fail
          go_meet
          exact ⟨wr.heap.size, (wr.heap.size + 1), rfl, rfl, HFA2, HFB, HDB⟩
        · go_simp
          refine hK.out _ _ HCA0.out (fun _ => ?_)
          clear hK K
          (try simp only [Act.put, List.getElem_toArray, List.getElem_cons_zero, List.getElem_cons_succ, List.setIfInBounds_toArray, List.set_cons_zero, List.set_cons_succ])
          refine wpAnyH_ready (rs := [8]) (by kernel_rfl) (by simp) (AllReadyH.cons rfl (fun K hK => ?_) AllReadyH.nil)
          go_simp
          refine hK.out _ _ HCZ.out (fun _ => ?_)
          clear hK K
          (try simp only [Act.put, List.getElem_toArray, List.getElem_cons_zero, List.getElem_cons_succ, List.setIfInBounds_toArray, List.set_cons_zero, List.set_cons_succ])
          have HZA := HZ2
          have HZB := HZ1
          clear HZ1 HZ2
          have z0 := HZA.out.c0
          have y0 := HZA.out.frozen 0
          have z1 := HZA.out.c1
          have y1 := HZA.out.frozen 1
          have z2 := HZA.out.c2
          have y2 := HZA.out.frozen 2
          have z3 := HZA.out.c3
          have y3 := HZA.out.frozen 3
          have z4 := HZA.out.c4
          have y4 := HZA.out.frozen 4
          have z5 := HZA.out.c5
          have y5 := HZA.out.frozen 5
          have z6 := HZA.out.c6
          have y6 := HZA.out.frozen 6
          have z7 := HZA.out.c7
          have y7 := HZA.out.frozen 7
          have z8 := HZA.out.c8
          have y8 := HZA.out.frozen 8
          have z9 := HZA.out.c9
          have y9 := HZA.out.frozen 9
          have z10 := HZA.out.c10
          have y10 := HZA.out.frozen 10
          have z11 := HZA.out.c11
          have y11 := HZA.out.frozen 11
          have z12 := HZA.out.c12
          have y12 := HZA.out.frozen 12
          refine wpAnyH_ready (rs := [10]) (by kernel_rfl) (by simp) (AllReadyH.cons rfl (fun K hK => ?_) AllReadyH.nil)
          go_simp
          have HFA := Lib.hid (fill_box HZA.out x (.slice kp kl kc) (.slice vp vl vc))
          have HGA := Lib.hid (fill_grown wb (wr.heap.size + 1) x (.slice kp kl kc) (.slice vp vl vc))
          have HCA := Lib.hid (And.intro (HCZ.out.1.grown HGA.out (by omega)) (HCZ.out.2.grown HGA.out (by omega)))
          have HZB2 := Lib.hid (HZB.out.grown HGA.out (by simp))
          have HDA := Lib.hid (HDZ.out.grown HGA.out HDZ.out.size (fun r e => by cases e; omega))
          refine hK.out _ _ HCA.out (fun _ => ?_)
          clear hK K
          (try simp only [Act.put, List.getElem_toArray, List.getElem_cons_zero, List.getElem_cons_succ, List.setIfInBounds_toArray, List.set_cons_zero, List.set_cons_succ])
          obtain ⟨wF, hwF⟩ : ∃ wF, fill wb (wr.heap.size + 1) x (.slice kp kl kc) (.slice vp vl vc) = wF := ⟨_, rfl⟩
          rw [hwF] at HFA HCA HZB2 HDA
          unfold fill at hwF
          rw [hwF]
          clear HGA hwF z0 y0 z1 y1 z2 y2 z3 y3 z4 y4 z5 y5 z6 y6 z7 y7 z8 y8 z9 y9 z10 y10 z11 y11 z12 y12
          have z0 := HZB2.out.c0
          have y0 := HZB2.out.frozen 0
          have z1 := HZB2.out.c1
          have y1 := HZB2.out.frozen 1
          have z2 := HZB2.out.c2
          have y2 := HZB2.out.frozen 2
          have z3 := HZB2.out.c3
          have y3 := HZB2.out.frozen 3
          have z4 := HZB2.out.c4
          have y4 := HZB2.out.frozen 4
          have z5 := HZB2.out.c5
          have y5 := HZB2.out.frozen 5
          have z6 := HZB2.out.c6
          have y6 := HZB2.out.frozen 6
          have z7 := HZB2.out.c7
          have y7 := HZB2.out.frozen 7
          have z8 := HZB2.out.c8
          have y8 := HZB2.out.frozen 8
          have z9 := HZB2.out.c9
          have y9 := HZB2.out.frozen 9
          have z10 := HZB2.out.c10
          have y10 := HZB2.out.frozen 10
          have z11 := HZB2.out.c11
          have y11 := HZB2.out.frozen 11
          have z12 := HZB2.out.c12
          have y12 := HZB2.out.frozen 12
          refine wpAnyH_ready (rs := [11]) (by kernel_rfl) (by simp) (AllReadyH.cons rfl (fun K hK => ?_) AllReadyH.nil)
          go_simp
          have HFB := Lib.hid (fill_box HZB2.out x (.slice kp' kl kc') (.slice vp' vl vc'))
          have HGB := Lib.hid (fill_grown wF wr.heap.size x (.slice kp' kl kc') (.slice vp' vl vc'))
          have HFA2 := Lib.hid (HFA.out.grown HGB.out (by simp))
          have HCB := Lib.hid (And.intro (HCA.out.1.grown HGB.out (by omega)) (HCA.out.2.grown HGB.out (by omega)))
          have HDB := Lib.hid (HDA.out.grown HGB.out HDA.out.size (fun r e => by cases e; omega))
          refine hK.out _ _ HCB.out (fun _ => ?_)
          clear hK K
          (try simp only [Act.put, List.getElem_toArray, List.getElem_cons_zero, List.getElem_cons_succ, List.setIfInBounds_toArray, List.set_cons_zero, List.set_cons_succ])
          refine wpAnyH_done (by kernel_rfl) ?_ _
          obtain ⟨wG, hwG⟩ : ∃ wG, fill wF wr.heap.size x (.slice kp' kl kc') (.slice vp' vl vc') = wG := ⟨_, rfl⟩
          rw [hwG] at HFB HFA2 HDB
          unfold fill at hwG
          rw [hwG]
          go_wp2_with fail
          go_meet
          exact ⟨(wr.heap.size + 1), wr.heap.size, rfl, rfl, HFA2, HFB, HDB⟩
      case rest =>
        obtain ⟨wo, rfl⟩ : ∃ wo : World, wo = wr := ⟨_, rfl⟩
        obtain ⟨Bx, By, rfl, rfl, HX, HY, HD⟩ := hcut
        clear c0 c1 c2 c3 c4 c5 c6 c7 c8 c9 c10 c11 c12 d0 d1 d2 d3 d4 d5 d6 d7 d8 d9 d10 d11 d12
        have c0 := HX.out.c0
        have c1 := HX.out.c1
        have c2 := HX.out.c2
        have c3 := HX.out.c3
        have c4 := HX.out.c4
        have c5 := HX.out.c5
        have c6 := HX.out.c6
        have c7 := HX.out.c7
        have c8 := HX.out.c8
        have c9 := HX.out.c9
        have c10 := HX.out.c10
        have c11 := HX.out.c11
        have c12 := HX.out.c12
        have d0 := HY.out.c0
        have d1 := HY.out.c1
        have d2 := HY.out.c2
        have d3 := HY.out.c3
        have d4 := HY.out.c4
        have d5 := HY.out.c5
        have d6 := HY.out.c6
        have d7 := HY.out.c7
        have d8 := HY.out.c8
        have d9 := HY.out.c9
        have d10 := HY.out.c10
        have d11 := HY.out.c11
        have d12 := HY.out.c12
        have CT := Lib.hid (sameT_at wc n₀ kl kc kc' kp kp' x.key (HK.out.on (Kb.of HD.out (by omega))) (HK'.out.on (Kb.of HD.out (by omega))))
        go_wp2_with fail
        (with_reducible refine CT.out.mono ?_)
        rintro e w4 ⟨rfl, hb4⟩
        have HX4 := Lib.hid (HX.out.on (hb4 wc.heap.size) (Nat.le_refl _))
        have HY4 := Lib.hid (HY.out.on (hb4 wc.heap.size) (Nat.le_refl _))
        have HD4 := Lib.hid (HD.out.trans (hb4 wo.heap.size))
        clear hb4 c0 c1 c2 c3 c4 c5 c6 c7 c8 c9 c10 c11 c12 d0 d1 d2 d3 d4 d5 d6 d7 d8 d9 d10 d11 d12
        have c12 := HX4.out.c12
        have d12 := HY4.out.c12
        clear CT HX HY HD
        go_wp2_with fail
        go_loopw [8] (fun jv W => ∃ j : Nat, jv = .int .i64 j ∧ j ≤ vl ∧ Hid (BI W Bx 51 x (.slice kp kl kc) (.slice vp vl vc)) ∧ Hid (BI W By 51 x (.slice kp' kl kc') (.slice vp' vl vc')) ∧ Hid (Below wo.heap.size wo W)) (fun jv _ => vl - (intOf jv).toNat)
        case atStart => exact ⟨0, rfl, Nat.zero_le _, HX4, HY4, HD4⟩
        case round =>
          clear HX4 HY4 HD4
          obtain ⟨j, rfl, hj, HX, HY, HD⟩ := hrel
          have n12 := HX.out.c12
          have m12 := HY.out.c12
          have hsw := HD.out.size
          by_cases hjl : j < vl
          · obtain ⟨bv, ov, rfl, hbv, hcv⟩ := (HV.out.on (Kb.of HD.out (by omega))).cell (by omega)
            obtain ⟨bw, ow, rfl, hbw, hcw⟩ := (HV'.out.on (Kb.of HD.out (by omega))).cell (by omega)
            obtain ⟨q, l, d, el, ht⟩ := hcv j hjl
            obtain ⟨q', l', d', el', ht'⟩ := hcw j hjl
            obtain rfl : l = l' := by rw [← ht.len_eq, ← ht'.len_eq]
            have hvc := HV.out.cap
            have hvc' := HV'.out.cap
            have CT := Lib.hid (sameT_at wr.drew n₀ l d d' q q' (x.vals.getD j []) (ht.on (Kb.of (Below.refl n₀ wr).drew (Nat.le_refl _))) (ht'.on (Kb.of (Below.refl n₀ wr).drew (Nat.le_refl _))))
            have SK : Hid (∀ W, (∀ B, Below B wr.drew W) → W.cell? ⟨Bx, 12, none⟩ = some (.slice (some ⟨bv, ov, none⟩) vl vc) ∧ W.cell? ⟨By, 12, none⟩ = some (.slice (some ⟨bw, ow, none⟩) vl vc') ∧ W.cell? ⟨bv, ov + j, none⟩ = some (.slice q l d) ∧ W.cell? ⟨bw, ow + j, none⟩ = some (.slice q' l d')) := Lib.hid (fun W hW => by
              have k := Kb.of ((Below.refl wr.heap.size wr).drew.trans (hW wr.heap.size)) (Nat.le_refl _)
              exact ⟨k.cell (cell_lt n12) n12, k.cell (cell_lt m12) m12, k.cell (cell_lt el) el, k.cell (cell_lt el') el'⟩)
            clear hcv hcw ht ht'
            go_wp2_with fail
            go_region_held3 (fun w' => w'.cell? ⟨Bx, 12, none⟩ = some (.slice (some ⟨bv, ov, none⟩) vl vc) ∧ w'.cell? ⟨By, 12, none⟩ = some (.slice (some ⟨bw, ow, none⟩) vl vc') ∧ w'.cell? ⟨bv, ov + j, none⟩ = some (.slice q l d) ∧ w'.cell? ⟨bw, ow + j, none⟩ = some (.slice q' l d')) (first | exact ⟨n12, m12, el, el'⟩ | exact sk5 | go_keep)
              (first
                | (go_at_call 19; (with_reducible refine CT.out.mono ?_); rintro e w5 ⟨rfl, hb5⟩; have sk5 := SK.out w5 hb5; have HB5 := Lib.hid hb5; clear hb5))
            have HX5 := Lib.hid (HX.out.drew.on (HB5.out wr.drew.heap.size) (Nat.le_refl _))
            have HY5 := Lib.hid (HY.out.drew.on (HB5.out wr.drew.heap.size) (Nat.le_refl _))
            have HD5 := Lib.hid (HD.out.drew.trans (HB5.out wo.heap.size))
            clear sk5 HB5
            go_wp2
            go_roundw
            case rel => exact ⟨j + 1, by simp, by omega, HX5, HY5, HD5⟩
            case measure => simp [intOf]; omega
          · obtain rfl : j = vl := by omega
            go_wp2
            go_roundw
            case rel => exact ⟨i + 1, by simp, by omega, Lib.hid (HB.out.trans (HD.out.mono hsr))⟩
            case measure => simp [intOf]; omega
    · obtain rfl : i = len := by omega
      go_wp2_with fail
      go_ret
      exact ⟨rfl, HB.out⟩
end Go.Proofs.Ytfboifbpbjmcbaa.Pz
