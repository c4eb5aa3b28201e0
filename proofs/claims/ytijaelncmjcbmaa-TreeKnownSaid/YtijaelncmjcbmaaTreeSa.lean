import Derived.Test.YtijaelncmjcbmaaTreePl
namespace Go.Proofs.Ytijaelncmjcbmaa
open Go.RowKit
set_option maxHeartbeats 16000000 in
set_option maxRecDepth 1000000 in
theorem treeSame (w : World) (p p2 : Option Addr) (len c len2 cq : Nat) (ns ms : List Nd) (a0 : Int) (h : TV w p len c ns) (h2 : TV w p2 len2 cq ms) :
    Calls Try.prog 4 #[.agg #[.slice p len c], .agg #[.slice p2 len2 cq], .int .i64 a0] w fun e w' => e = .returned (.bool true) ∧ Below w.heap.size w w' := by
  have hlen := Lib.hid h.len_eq
  have H := Lib.hid h
  have H2 := Lib.hid h2
  obtain ⟨f0, hi, hz0, hz1, hz2⟩ := info_parts infoN37
  have I0 := Lib.hid hi
  have I1 := Lib.hid hz0
  have I2 := Lib.hid hz1
  have I3 := Lib.hid hz2
  have B0 : Hid (Below w.heap.size w ((w.alloc (.cells #[.slice p len c] 24)).alloc (.cells #[.slice p2 len2 cq] 24))) := Lib.hid ((one_below w _).alloc (by simp) _)
  have HF := Lib.hid (few_at ((w.alloc (.cells #[.slice p len c] 24)).alloc (.cells #[.slice p2 len2 cq] 24)) p len c ns 200 (h.on B0.out) (by omega) (by omega))
  clear h h2 hi hz0 hz1 hz2
  go_enter Try.func4, Try.ntmps4
  go_wp2_with fail
  (with_reducible refine HF.out.mono ?_)
  rintro e wa ⟨rfl, hb⟩
  have BA := Lib.hid (B0.out.trans (hb.mono (by simp; omega)))
  have c0 : wa.cell? ⟨w.heap.size, 0, none⟩ = some (.slice p len c) := by rw [hb.cell (by simp; omega), World.cell?_alloc_past _ _ _ (by simp), World.cell?_alloc_at _ _ _ _ rfl]; rfl
  have c2 : wa.cell? ⟨w.heap.size + 1, 0, none⟩ = some (.slice p2 len2 cq) := by rw [hb.cell (by simp), World.cell?_alloc_at _ _ _ _ (by simp)]; rfl
  clear hb HF
  cases hf : fewP ns 200 with
  | false =>
    have HW := Lib.hid (works_at wa)
    clear hf
    go_wp2_with fail
    (with_reducible refine HW.out.mono ?_)
    rintro e wb ⟨rfl, hb⟩
    have BB := Lib.hid (BA.out.trans (hb.mono BA.out.size))
    clear hb HW
    go_wp2
    go_ret
    exact ⟨rfl, BB.out⟩
  | true =>
    have HSM := Lib.hid (few_small hf (by omega))
    have hll : len ≤ 200 := by
      unfold fewP at hf
      simp only [Bool.and_eq_true, decide_eq_true_eq] at hf
      have := hlen.out
      omega
    have HF2 := Lib.hid (few_at wa p2 len2 cq ms 200 (H2.out.on BA.out) (by omega) (by omega))
    clear hf
    go_wp2_with fail
    (with_reducible refine HF2.out.mono ?_)
    rintro e W0 ⟨rfl, hb⟩
    have B1 := Lib.hid (BA.out.trans (hb.mono BA.out.size))
    have C1 := Lib.hid (Aside.of hb _ _ c0)
    have C2 := Lib.hid (Aside.of hb _ _ c2)
    have c0 := C1.out
    have c2' := C2.out
    have hsz : w.heap.size + 1 < W0.heap.size := World.block_lt_of_cell? W0 _ C2.out
    clear hb HF2
    cases hf : fewP ms 200 with
    | false =>
      have HW := Lib.hid (works_at W0)
      clear hf
      go_wp2_with fail
      (with_reducible refine HW.out.mono ?_)
      rintro e wb ⟨rfl, hb⟩
      have BB := Lib.hid (B1.out.trans (hb.mono B1.out.size))
      clear hb HW
      go_wp2
      go_ret
      exact ⟨rfl, BB.out⟩
    | true =>
      have HSM2 := Lib.hid (few_small hf (by omega))
      have hll2 : len2 ≤ 200 := by
        unfold fewP at hf
        simp only [Bool.and_eq_true, decide_eq_true_eq] at hf
        have := H2.out.len_eq
        omega
      clear hf c2
      go_wp2_with fail
      go_loopw [8] (fun iv wr => ∃ (i : Nat) (xs : List KP) (v : Value), i ≤ len ∧ iv = .int .i64 i ∧ Hid (xs.length = i) ∧ Hid ((xs.map (·.1)).map forget = (ns.take i).map forget) ∧ Hid (∀ x ∈ xs, IV w x.2.1 x.2.2.1 x.2.2.2 x.1.kids) ∧ Hid (UI W0 W0.heap.size xs v wr)) (fun iv _ => len - (intOf iv).toNat)
      case atStart => exact ⟨0, [], _, by omega, rfl, Lib.hid rfl, Lib.hid rfl, Lib.hid (fun x hx => by simp at hx), Lib.hid (UI.start W0)⟩
      case round =>
        clear c0 c2'
        obtain ⟨i, xs, v, hil, rfl, HXL, HM, HX, HU⟩ := hrel
        have c0 : wr.cell? ⟨w.heap.size, 0, none⟩ = some (.slice p len c) := by rw [HU.out.below.cell (by simp; omega)]; exact C1.out
        have c2' : wr.cell? ⟨w.heap.size + 1, 0, none⟩ = some (.slice p2 len2 cq) := by rw [HU.out.below.cell hsz]; exact C2.out
        have HBW := Lib.hid (B1.out.trans (HU.out.below.mono (by omega)))
        have cu := HU.out.cell
        have hus := HU.out.size
        by_cases hlt : i < len
        · obtain ⟨b, off, rfl, hbl, hc⟩ := H.out.node (by omega)
          obtain ⟨kp, kl, kc, hnw⟩ := hc i hlt
          have hn := hnw.on hbl HBW.out
          have k0 := hn.kind
          have k1 := hn.at'
          have k2 := hn.text
          have k3 := hn.n
          have k4 := hn.kids
          have HIV := Lib.hid hnw.iv
          have hix : i < ns.length := by have := hlen.out; omega
          have HTK : Hid (ns.take (i + 1) = ns.take i ++ [ns.getD i default]) := Lib.hid (by
            rw [List.take_succ_eq_append_getElem hix]
            simp [List.getD, hix])
          generalize ns.getD i default = nd at *
          have ho := HU.out.own
          rw [HXL.out] at ho
          clear hn hnw hc hix
          obtain ⟨x, hx⟩ : ∃ x, IntKind.i64.wrap (nd.at' + 7) = x := ⟨_, rfl⟩
          have hnew : ((wr.alloc (.cells #[.int .u8 nd.kind, .int .i64 x, .string nd.text, .int .i64 nd.n, .slice kp kl kc] 37)).alloc (.cells #[.int .u8 nd.kind, .int .i64 x, .string nd.text, .int .i64 nd.n, .slice kp kl kc] 37)).heap[wr.heap.size + 1]? = some (.cells #[.int .u8 nd.kind, .int .i64 x, .string nd.text, .int .i64 nd.n, .slice kp kl kc] 37 (0, 0)) := by
            have := heap_alloc_new (wr.alloc (.cells #[.int .u8 nd.kind, .int .i64 x, .string nd.text, .int .i64 nd.n, .slice kp kl kc] 37)) (.cells #[.int .u8 nd.kind, .int .i64 x, .string nd.text, .int .i64 nd.n, .slice kp kl kc] 37)
            rw [World.size_alloc] at this
            exact this
          have HNW := Lib.hid hnew
          clear hnew
          go_wp2_with (at_builtin; refine wpList_append_lies _ rfl (.tmp 37) (.tmp 39) 22 rfl (W0.heap.size + 1) 37 f0 _ 5 64 Try.underlying22 I0.out I1.out I2.out I3.out rfl (by decide) v i (xs.flatMap kpC) rfl ((ho.alloc _).alloc _) ⟨wr.heap.size + 1, 0, none⟩ 1 1 [.int .u8 nd.kind, .int .i64 x, .string nd.text, .int .i64 nd.n, .slice kp kl kc] rfl rfl (World.news_of_block (cs := #[.int .u8 nd.kind, .int .i64 x, .string nd.text, .int .i64 nd.n, .slice kp kl kc]) (t := 37) (fr := (0, 0)) HNW.out) (nd_one _ _ _ _ _ _ _) (by decide) (by unfold maxLen; omega) (by omega) (by simp; omega) _ rfl ?_)
          intro g cap w5 hown5 hgrow5 _ _
          obtain ⟨cu5, fu5⟩ := HU.out.free5 _ _ hgrow5
          have HU5 := Lib.hid (HU.out.push _ _ (⟨nd.kind, x, nd.text, nd.n, nd.kids⟩, kp, kl, kc) i HXL.out.symm hgrow5 hown5)
          have HM5 : Hid (((xs ++ [((⟨nd.kind, x, nd.text, nd.n, nd.kids⟩, kp, kl, kc) : KP)]).map (·.1)).map forget = (ns.take (i + 1)).map forget) := Lib.hid (by rw [HTK.out, List.map_append, List.map_append, List.map_append, HM.out]; rfl)
          have HX5 : Hid (∀ y ∈ xs ++ [((⟨nd.kind, x, nd.text, nd.n, nd.kids⟩, kp, kl, kc) : KP)], IV w y.2.1 y.2.2.1 y.2.2.2 y.1.kids) := Lib.hid (fun y hx => by
            rcases List.mem_append.1 hx with hx | hx
            · exact HX.out y hx
            · rw [List.mem_singleton] at hx; subst hx; exact HIV.out)
          have HL5 : Hid ((xs ++ [((⟨nd.kind, x, nd.text, nd.n, nd.kids⟩, kp, kl, kc) : KP)]).length = i + 1) := Lib.hid (by rw [List.length_append, HXL.out]; rfl)
          clear hown5 hgrow5 ho
          go_wp2_with fail
          go_roundw
          case rel => exact ⟨i + 1, _, _, by omega, by go_num, HL5, HM5, HX5, HU5⟩
          case measure => simp [intOf]; omega
        · -- the end
          have hm := HM.out
          have hie : i = ns.length := by have := hlen.out; omega
          rw [hie, List.take_length] at hm
          obtain ⟨pu, c5, hv, hTU⟩ := tv_own HU.out.own (fun x hx => (HX.out x hx).on HBW.out)
          subst hv
          have HTU := Lib.hid hTU
          have HMM := Lib.hid hm
          obtain ⟨us, hus2⟩ : ∃ us, xs.map (·.1) = us := ⟨_, rfl⟩
          rw [hus2] at HTU HMM
          have hxe : xs.length = len := by rw [HXL.out, hie, hlen.out]
          rw [hxe] at HTU cu
          clear hTU hm hie hus2 hxe HM HX HXL
          obtain ⟨W1, hW1⟩ : ∃ W1 : World, W1 = wr := ⟨_, rfl⟩
          have KQ : ∀ (F : Nat) (args : Array Value) (R : Value → World → Prop), (∀ W', Below W1.heap.size W1 W' → Calls Try.prog F args W' fun e W'' => (∃ r, e = .returned r ∧ R r W'') ∧ Below W'.heap.size W' W'') →
              ∀ W', W'.cell? ⟨w.heap.size, 0, none⟩ = some (.slice p len c) → W'.cell? ⟨w.heap.size + 1, 0, none⟩ = some (.slice p2 len2 cq) → W'.cell? ⟨W0.heap.size, 0, none⟩ = some (.slice pu len c5) → Below W1.heap.size W1 W' →
                Calls Try.prog F args W' fun e W'' => (∃ r, e = .returned r ∧ R r W'') ∧ W''.cell? ⟨w.heap.size, 0, none⟩ = some (.slice p len c) ∧ W''.cell? ⟨w.heap.size + 1, 0, none⟩ = some (.slice p2 len2 cq) ∧ W''.cell? ⟨W0.heap.size, 0, none⟩ = some (.slice pu len c5) ∧ Below W1.heap.size W1 W'' ∧ Below W'.heap.size W' W'' :=
            fun F args R hc W' q1 q2 qu q3 => (hc W' q3).mono fun e W'' ⟨h1, h2⟩ => ⟨h1, Aside.of h2 _ _ q1, Aside.of h2 _ _ q2, Aside.of h2 _ _ qu, q3.trans (h2.mono q3.size), h2⟩
          have HT1 : ∀ W', Below W1.heap.size W1 W' → TV W' p len c ns := fun W' hb => H.out.on (HBW.out.trans (by rw [hW1] at hb; exact hb.mono HBW.out.size))
          have HT2 : ∀ W', Below W1.heap.size W1 W' → TV W' p2 len2 cq ms := fun W' hb => H2.out.on (HBW.out.trans (by rw [hW1] at hb; exact hb.mono HBW.out.size))
          have HU1 : ∀ W', Below W1.heap.size W1 W' → TV W' pu len c5 us := fun W' hb => HTU.out.on (by rw [hW1] at hb; exact hb)
          have E1 := Lib.hid (KQ 17 _ (fun r _ => r = .bool (sameP ns ms)) (fun W' hb => (same_at W' p p2 len c len2 cq ns ms (HT1 W' hb) (HT2 W' hb) HSM.out).mono fun e W'' h => ⟨⟨_, h.1, rfl⟩, h.2⟩))
          have E2 := Lib.hid (KQ 17 _ (fun r _ => r = .bool (sameP ns us)) (fun W' hb => (same_at W' p pu len c len c5 ns us (HT1 W' hb) (HU1 W' hb) HSM.out).mono fun e W'' h => ⟨⟨_, h.1, rfl⟩, h.2⟩))
          have PA := Lib.hid (KQ 10 _ (fun r W'' => ∃ p' c', r = .slice p' len c' ∧ TV W'' p' len c' ns) (fun W' hb => (plain_at W' p len c ns (HT1 W' hb) (by omega)).mono fun e W'' ⟨⟨p', c', h1, h2⟩, h3⟩ => ⟨⟨_, h1, p', c', rfl, h2⟩, h3⟩))
          have PB := Lib.hid (KQ 10 _ (fun r W'' => ∃ p' c', r = .slice p' len2 c' ∧ TV W'' p' len2 c' ms) (fun W' hb => (plain_at W' p2 len2 cq ms (HT2 W' hb) (by omega)).mono fun e W'' ⟨⟨p', c', h1, h2⟩, h3⟩ => ⟨⟨_, h1, p', c', rfl, h2⟩, h3⟩))
          have RS : Hid (∀ W' pA cA pB cB, TV W' pA len cA ns → TV W' pB len2 cB ms → W'.cell? ⟨w.heap.size, 0, none⟩ = some (.slice p len c) → W'.cell? ⟨w.heap.size + 1, 0, none⟩ = some (.slice p2 len2 cq) → W'.cell? ⟨W0.heap.size, 0, none⟩ = some (.slice pu len c5) → Below W1.heap.size W1 W' →
              Calls Try.prog 18 #[.slice pA len cA, .slice pB len2 cB] W' fun e W'' => e = .returned (.bool (sameP ns ms)) ∧ W''.cell? ⟨w.heap.size, 0, none⟩ = some (.slice p len c) ∧ W''.cell? ⟨w.heap.size + 1, 0, none⟩ = some (.slice p2 len2 cq) ∧ W''.cell? ⟨W0.heap.size, 0, none⟩ = some (.slice pu len c5) ∧ Below W1.heap.size W1 W'' ∧ Below W'.heap.size W' W'') := Lib.hid (fun W' pA cA pB cB tA tB q1 q2 qu q3 => (refSame_at W' pA pB len cA len2 cB ns ms tA tB HSM.out).mono fun e W'' h => ⟨h.1, Aside.of h.2 _ _ q1, Aside.of h.2 _ _ q2, Aside.of h.2 _ _ qu, q3.trans (h.2.mono q3.size), h.2⟩)
          have FA := Lib.hid (KQ 19 _ (fun r _ => r = .int .i64 (findF ns a0 ns.length)) (fun W' hb => (find_at W' p len c ns a0 (HT1 W' hb) (by omega)).mono fun e W'' h => ⟨⟨_, h.1, rfl⟩, h.2⟩))
          have RF : Hid (∀ W' pA cA, TV W' pA len cA ns → W'.cell? ⟨w.heap.size, 0, none⟩ = some (.slice p len c) → W'.cell? ⟨w.heap.size + 1, 0, none⟩ = some (.slice p2 len2 cq) → W'.cell? ⟨W0.heap.size, 0, none⟩ = some (.slice pu len c5) → Below W1.heap.size W1 W' →
              Calls Try.prog 20 #[.slice pA len cA, .int .i64 a0] W' fun e W'' => e = .returned (.int .i64 (findF ns a0 ns.length)) ∧ W''.cell? ⟨w.heap.size, 0, none⟩ = some (.slice p len c) ∧ W''.cell? ⟨w.heap.size + 1, 0, none⟩ = some (.slice p2 len2 cq) ∧ W''.cell? ⟨W0.heap.size, 0, none⟩ = some (.slice pu len c5) ∧ Below W1.heap.size W1 W'' ∧ Below W'.heap.size W' W'') := Lib.hid (fun W' pA cA tA q1 q2 qu q3 => (refFind_at W' pA len cA ns a0 tA (by omega)).mono fun e W'' h => ⟨h.1, Aside.of h.2 _ _ q1, Aside.of h.2 _ _ q2, Aside.of h.2 _ _ qu, q3.trans (h.2.mono q3.size), h.2⟩)
          have WK := Lib.hid (KQ 9 #[] (fun r _ => r = .bool true) (fun W' hb => (works_at W').mono fun e W'' h => ⟨⟨_, h.1, rfl⟩, h.2⟩))
          rw [same_forget HMM.out.symm] at E2
          generalize sameP ns ms = sb at *
          generalize findF ns a0 ns.length = fv at *
          have HBW1 : Hid (Below w.heap.size w W1) := Lib.hid (by rw [hW1]; exact HBW.out)
          have hbd : Below W1.heap.size W1 wr.drew := by rw [hW1]; exact (Below.refl _ _).drew
          clear KQ HT1 HT2 HU1 hW1
          go_wp2_with fail
          go_region_held3 (fun w' => w'.cell? ⟨w.heap.size, 0, none⟩ = some (.slice p len c) ∧ w'.cell? ⟨w.heap.size + 1, 0, none⟩ = some (.slice p2 len2 cq) ∧ w'.cell? ⟨W0.heap.size, 0, none⟩ = some (.slice pu len c5) ∧ Below W1.heap.size W1 w') (go_keep)
            (first
              | (go_at_call 20; (with_reducible refine (RF.out _ _ _ ?_ ?_ ?_ ?_ ?_).mono ?_); (assumption); (first | assumption | exact c0); (first | assumption | exact c2'); (first | assumption | exact cu); (first | assumption | exact hbd); rintro e w' ⟨rfl, q1, q2, qu, q3, q4⟩)
              | (go_at_call 17; (with_reducible refine (E1.out _ ?_ ?_ ?_ ?_).mono ?_); (first | assumption | exact c0); (first | assumption | exact c2'); (first | assumption | exact cu); (first | assumption | exact hbd); rintro e w' ⟨⟨_, rfl, rfl⟩, q1, q2, qu, q3, q4⟩)
              | (go_at_call 17; (with_reducible refine (E2.out _ ?_ ?_ ?_ ?_).mono ?_); (first | assumption | exact c0); (first | assumption | exact c2'); (first | assumption | exact cu); (first | assumption | exact hbd); rintro e w' ⟨⟨_, rfl, rfl⟩, q1, q2, qu, q3, q4⟩)
              | (go_at_call_of 10 (Value.agg #[Value.slice p len c]); (with_reducible refine (PA.out _ ?_ ?_ ?_ ?_).mono ?_); (first | assumption | exact c0); (first | assumption | exact c2'); (first | assumption | exact cu); (first | assumption | exact hbd); rintro e w' ⟨⟨_, rfl, pA, cA, rfl, tA⟩, q1, q2, qu, q3, q4⟩)
              | (go_at_call_of 10 (Value.agg #[Value.slice p2 len2 cq]); (with_reducible refine (PB.out _ ?_ ?_ ?_ ?_).mono ?_); (first | assumption | exact c0); (first | assumption | exact c2'); (first | assumption | exact cu); (first | assumption | exact hbd); rintro e w' ⟨⟨_, rfl, pB, cB, rfl, tB⟩, q1, q2, qu, q3, q4⟩)
              | (go_at_call 19; (with_reducible refine (FA.out _ ?_ ?_ ?_ ?_).mono ?_); (first | assumption | exact c0); (first | assumption | exact c2'); (first | assumption | exact cu); (first | assumption | exact hbd); rintro e w' ⟨⟨_, rfl, rfl⟩, q1, q2, qu, q3, q4⟩)
              | (go_at_call 9; (with_reducible refine (WK.out _ ?_ ?_ ?_ ?_).mono ?_); (first | assumption | exact c0); (first | assumption | exact c2'); (first | assumption | exact cu); (first | assumption | exact hbd); rintro e w' ⟨⟨_, rfl, rfl⟩, q1, q2, qu, q3, q4⟩)
              | (go_at_call 18; (with_reducible refine (RS.out _ _ _ _ _ ?_ ?_ ?_ ?_ ?_ ?_).mono ?_); (apply TV.on); (assumption); (assumption); (assumption); (first | assumption | exact c0); (first | assumption | exact c2'); (first | assumption | exact cu); (first | assumption | exact hbd); rintro e w' ⟨rfl, q1, q2, qu, q3, q4⟩))
          all_goals go_wp2
          all_goals go_ret
          all_goals (refine ⟨rfl, HBW1.out.trans (Below.mono ?_ HBW1.out.size)⟩; assumption)
end Go.Proofs.Ytijaelncmjcbmaa
