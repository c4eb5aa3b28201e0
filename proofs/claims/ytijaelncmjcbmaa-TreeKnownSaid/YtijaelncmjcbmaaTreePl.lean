import Derived.Test.YtijaelncmjcbmaaTreeFd
import Derived.Test.YtijaelncmjcbmaaTreeT
namespace Go.Proofs.Ytijaelncmjcbmaa
open Go.RowKit
/-- A row of nodes that a variable holds, and that grows. -/
structure UI (W0 : World) (U : Nat) (xs : List KP) (v : Value) (W : World) : Prop where
  below : Below U W0 W
  size : U < W.heap.size
  cell : W.cell? ⟨U, 0, none⟩ = some v
  free : W.frozen? ⟨U, 0, none⟩ = false
  own : W.ownsRow (U + 1) 37 5 v xs.length (xs.flatMap kpC)
theorem UI.start (W0 : World) : UI W0 W0.heap.size [] (.slice none 0 0) (W0.alloc (.cells #[.slice none 0 0] 24)) where
  below := one_below W0 _
  size := by simp
  cell := by rw [World.cell?_alloc_at _ _ _ _ rfl]; rfl
  free := by simp
  own := World.ownsRow_nil _ _ _ _
theorem UI.push {W0 W w5 : World} {U g cap : Nat} {xs : List KP} {v : Value} (h : UI W0 U xs v W) (A C : Obj) (x : KP) (n : Nat) (hn : n = xs.length) (hg : ((W.alloc A).alloc C).grownBy w5 v.ownBlock)
    (ho : w5.ownsRow (U + 1) 37 5 (.slice (some ⟨g, 0, none⟩) (n + 1) cap) (n + 1) (xs.flatMap kpC ++ kpC x)) :
    UI W0 U (xs ++ [x]) (.slice (some ⟨g, 0, none⟩) (n + 1) cap) (w5.setCell ⟨U, 0, none⟩ (.slice (some ⟨g, 0, none⟩) (n + 1) cap)) := by
  have hs := h.size
  have hU : v.ownBlock ≠ some U := fun e => by have := (h.own.lt U e).1; omega
  have hblk : w5.heap[U]? = W.heap[U]? := by
    rw [hg.block U (by simp; omega) (fun e => hU e.symm), Below.heap_alloc _ _ _ (by simp; omega), Below.heap_alloc _ _ _ hs]
  have hcell : w5.cell? ⟨U, 0, none⟩ = some v := by rw [World.cell?_of_block (w := W) hblk]; exact h.cell
  have hfr : w5.frozen? ⟨U, 0, none⟩ = false := by rw [World.frozen?_of_block (w := W) hblk]; exact h.free
  have h5 : Below U W0 w5 := ((h.below.alloc (by omega) A).alloc (by simp; omega) C).grown hg (by simp; omega) (fun k hk => by have := (h.own.lt k hk).1; omega)
  refine ⟨h5.setCell (Nat.le_refl _) _, ?_, ?_, ?_, ?_⟩
  · have := hg.size
    simp [World.setCell] at this ⊢
    omega
  · rw [World.cell?_setCell_same _ _ _ hcell]
  · simp [hfr]
  · rw [List.flatMap_append, List.length_append, ← hn]
    exact ownsRow_setCell_below ho (by simp) _
theorem UI.free5 {W0 W w5 : World} {U : Nat} {xs : List KP} {v : Value} (h : UI W0 U xs v W) (A C : Obj) (hg : ((W.alloc A).alloc C).grownBy w5 v.ownBlock) : w5.cell? ⟨U, 0, none⟩ = some v ∧ w5.frozen? ⟨U, 0, none⟩ = false := by
  have hs := h.size
  have hU : v.ownBlock ≠ some U := fun e => by have := (h.own.lt U e).1; omega
  have hblk : w5.heap[U]? = W.heap[U]? := by
    rw [hg.block U (by simp; omega) (fun e => hU e.symm), Below.heap_alloc _ _ _ (by simp; omega), Below.heap_alloc _ _ _ hs]
  exact ⟨by rw [World.cell?_of_block (w := W) hblk]; exact h.cell, by rw [World.frozen?_of_block (w := W) hblk]; exact h.free⟩
set_option maxHeartbeats 16000000 in
set_option maxRecDepth 1000000 in
theorem treePlaces (w : World) (p : Option Addr) (len c : Nat) (ns : List Nd) (q : Option Addr) (l cl : Nat) (zs : List Int) (i0 : Int) (h : TV w p len c ns) (hz : IV w q l cl zs) :
    Calls Try.prog 6 #[.agg #[.slice p len c], .slice q l cl, .int .i64 i0] w fun e w' => e = .returned (.bool true) ∧ Below w.heap.size w w' := by
  have hlen := Lib.hid h.len_eq
  have H := Lib.hid h
  have HZ := Lib.hid hz
  obtain ⟨f0, hi, hz0, hz1, hz2⟩ := info_parts infoN37
  have I0 := Lib.hid hi
  have I1 := Lib.hid hz0
  have I2 := Lib.hid hz1
  have I3 := Lib.hid hz2
  have B0 := Lib.hid (one_below w (.cells #[.slice p len c] 24))
  have HF := Lib.hid (few_at (w.alloc (.cells #[.slice p len c] 24)) p len c ns 200 (h.on B0.out) (by omega) (by omega))
  clear h hz hi hz0 hz1 hz2
  go_enter Try.func6, Try.ntmps6
  go_wp2_with fail
  (with_reducible refine HF.out.mono ?_)
  rintro e wa ⟨rfl, hb⟩
  have BA := Lib.hid (B0.out.trans (hb.mono (by simp)))
  have c0 : wa.cell? ⟨w.heap.size, 0, none⟩ = some (.slice p len c) := by rw [hb.cell (by simp)]; simp
  clear hb HF
  cases hf : fewP ns 200 with
  | false =>
    have HW := Lib.hid (works_at wa)
    clear hf
    go_wp2_with fail
    (with_reducible refine HW.out.mono ?_)
    rintro e wb ⟨rfl, hb⟩
    have BB := Lib.hid (BA.out.trans (hb.mono BA.out.size))
    clear hb HW
    go_wp2
    go_ret
    exact ⟨rfl, BB.out⟩
  | true =>
    have HSM := Lib.hid (few_small hf (by omega))
    have hll : len ≤ 200 := by
      unfold fewP at hf
      simp only [Bool.and_eq_true, decide_eq_true_eq] at hf
      have := hlen.out
      omega
    have HP := Lib.hid (plain_at wa p len c ns (H.out.on BA.out) (by omega))
    clear hf
    go_wp2_with fail
    (with_reducible refine HP.out.mono ?_)
    rintro e W0 ⟨⟨pw, cw, rfl, hT⟩, hb⟩
    have B1 := Lib.hid (BA.out.trans (hb.mono BA.out.size))
    have c1 : W0.cell? ⟨w.heap.size, 0, none⟩ = some (.slice p len c) := Aside.of hb _ _ c0
    have C1 := Lib.hid c1
    have hsz : w.heap.size < W0.heap.size := World.block_lt_of_cell? W0 _ c1
    have HTW := Lib.hid hT
    clear hb HP c0 hT
    go_wp2_with fail
    go_loopw [9] (fun iv wr => ∃ (i : Nat) (xs : List KP) (v : Value), i ≤ len ∧ iv = .int .i64 i ∧ Hid (xs.length = i) ∧ Hid ((xs.map (·.1)).map forget = (ns.take i).map forget) ∧ Hid (∀ x ∈ xs, IV w x.2.1 x.2.2.1 x.2.2.2 x.1.kids) ∧ Hid (UI W0 W0.heap.size xs v wr)) (fun iv _ => len - (intOf iv).toNat)
    case atStart => exact ⟨0, [], _, by omega, rfl, Lib.hid rfl, Lib.hid rfl, Lib.hid (fun x hx => by simp at hx), Lib.hid (UI.start W0)⟩
    case round =>
      clear c1
      obtain ⟨i, xs, v, hil, rfl, HXL, HM, HX, HU⟩ := hrel
      have c0 : wr.cell? ⟨w.heap.size, 0, none⟩ = some (.slice p len c) := by rw [HU.out.below.cell hsz]; exact C1.out
      have HBW := Lib.hid (B1.out.trans (HU.out.below.mono (by omega)))
      have cu := HU.out.cell
      have hus := HU.out.size
      by_cases hlt : i < len
      · obtain ⟨b, off, rfl, hbl, hc⟩ := H.out.node (by omega)
        obtain ⟨kp, kl, kc, hnw⟩ := hc i hlt
        have hn := hnw.on hbl HBW.out
        have k0 := hn.kind
        have k1 := hn.at'
        have k2 := hn.text
        have k3 := hn.n
        have k4 := hn.kids
        have HIV := Lib.hid hnw.iv
        have hix : i < ns.length := by have := hlen.out; omega
        have HTK : Hid (ns.take (i + 1) = ns.take i ++ [ns.getD i default]) := Lib.hid (by
          rw [List.take_succ_eq_append_getElem hix]
          simp [List.getD, hix])
        generalize ns.getD i default = nd at *
        have ho := HU.out.own
        rw [HXL.out] at ho
        clear hn hnw hc hix
        by_cases hal : i < l
        · have d1 : decide ((i : Int) < (l : Int)) = true := by simp; omega
          obtain ⟨zb, zoff, rfl, hzb, hzc⟩ := (HZ.out.on HBW.out).cell (by omega)
          have zr := hzc i hal
          generalize zs.getD i 0 = x at *
          clear hzc
          have zr2 : (wr.alloc (.cells #[.int .u8 nd.kind, .int .i64 nd.at', .string nd.text, .int .i64 nd.n, .slice kp kl kc] 37)).cell? ⟨zb, zoff + i, none⟩ = some (.int .i64 x) := by rw [World.cell?_alloc_past _ _ _ hzb]; exact zr
          have hnew : ((wr.alloc (.cells #[.int .u8 nd.kind, .int .i64 x, .string nd.text, .int .i64 nd.n, .slice kp kl kc] 37)).alloc (.cells #[.int .u8 nd.kind, .int .i64 x, .string nd.text, .int .i64 nd.n, .slice kp kl kc] 37)).heap[wr.heap.size + 1]? = some (.cells #[.int .u8 nd.kind, .int .i64 x, .string nd.text, .int .i64 nd.n, .slice kp kl kc] 37 (0, 0)) := by
            have := heap_alloc_new (wr.alloc (.cells #[.int .u8 nd.kind, .int .i64 x, .string nd.text, .int .i64 nd.n, .slice kp kl kc] 37)) (.cells #[.int .u8 nd.kind, .int .i64 x, .string nd.text, .int .i64 nd.n, .slice kp kl kc] 37)
            rw [World.size_alloc] at this
            exact this
          have HNW := Lib.hid hnew
          clear hnew
          go_wp2_with (at_builtin; refine wpList_append_lies _ rfl (.tmp 42) (.tmp 44) 22 rfl (W0.heap.size + 1) 37 f0 _ 5 64 Try.underlying22 I0.out I1.out I2.out I3.out rfl (by decide) v i (xs.flatMap kpC) rfl ((ho.alloc _).alloc _) ⟨wr.heap.size + 1, 0, none⟩ 1 1 [.int .u8 nd.kind, .int .i64 x, .string nd.text, .int .i64 nd.n, .slice kp kl kc] rfl rfl (World.news_of_block (cs := #[.int .u8 nd.kind, .int .i64 x, .string nd.text, .int .i64 nd.n, .slice kp kl kc]) (t := 37) (fr := (0, 0)) HNW.out) (nd_one _ _ _ _ _ _ _) (by decide) (by unfold maxLen; omega) (by omega) (by simp; omega) _ rfl ?_)
          intro g cap w5 hown5 hgrow5 _ _
          obtain ⟨cu5, fu5⟩ := HU.out.free5 _ _ hgrow5
          have HU5 := Lib.hid (HU.out.push _ _ (⟨nd.kind, x, nd.text, nd.n, nd.kids⟩, kp, kl, kc) i HXL.out.symm hgrow5 hown5)
          have HM5 : Hid (((xs ++ [((⟨nd.kind, x, nd.text, nd.n, nd.kids⟩, kp, kl, kc) : KP)]).map (·.1)).map forget = (ns.take (i + 1)).map forget) := Lib.hid (by rw [HTK.out, List.map_append, List.map_append, List.map_append, HM.out]; rfl)
          have HX5 : Hid (∀ y ∈ xs ++ [((⟨nd.kind, x, nd.text, nd.n, nd.kids⟩, kp, kl, kc) : KP)], IV w y.2.1 y.2.2.1 y.2.2.2 y.1.kids) := Lib.hid (fun y hx => by
            rcases List.mem_append.1 hx with hx | hx
            · exact HX.out y hx
            · rw [List.mem_singleton] at hx; subst hx; exact HIV.out)
          have HL5 : Hid ((xs ++ [((⟨nd.kind, x, nd.text, nd.n, nd.kids⟩, kp, kl, kc) : KP)]).length = i + 1) := Lib.hid (by rw [List.length_append, HXL.out]; rfl)
          clear hown5 hgrow5 ho
          go_wp2_with fail
          go_roundw
          case rel => exact ⟨i + 1, _, _, by omega, by go_num, HL5, HM5, HX5, HU5⟩
          case measure => simp [intOf]; omega
        · have d1 : decide ((i : Int) < (l : Int)) = false := by simp; omega
          have hnew : ((wr.alloc (.cells #[.int .u8 nd.kind, .int .i64 nd.at', .string nd.text, .int .i64 nd.n, .slice kp kl kc] 37)).alloc (.cells #[.int .u8 nd.kind, .int .i64 nd.at', .string nd.text, .int .i64 nd.n, .slice kp kl kc] 37)).heap[wr.heap.size + 1]? = some (.cells #[.int .u8 nd.kind, .int .i64 nd.at', .string nd.text, .int .i64 nd.n, .slice kp kl kc] 37 (0, 0)) := by
            have := heap_alloc_new (wr.alloc (.cells #[.int .u8 nd.kind, .int .i64 nd.at', .string nd.text, .int .i64 nd.n, .slice kp kl kc] 37)) (.cells #[.int .u8 nd.kind, .int .i64 nd.at', .string nd.text, .int .i64 nd.n, .slice kp kl kc] 37)
            rw [World.size_alloc] at this
            exact this
          have HNW := Lib.hid hnew
          clear hnew
          go_wp2_with (at_builtin; refine wpList_append_lies _ rfl (.tmp 42) (.tmp 44) 22 rfl (W0.heap.size + 1) 37 f0 _ 5 64 Try.underlying22 I0.out I1.out I2.out I3.out rfl (by decide) v i (xs.flatMap kpC) rfl ((ho.alloc _).alloc _) ⟨wr.heap.size + 1, 0, none⟩ 1 1 [.int .u8 nd.kind, .int .i64 nd.at', .string nd.text, .int .i64 nd.n, .slice kp kl kc] rfl rfl (World.news_of_block (cs := #[.int .u8 nd.kind, .int .i64 nd.at', .string nd.text, .int .i64 nd.n, .slice kp kl kc]) (t := 37) (fr := (0, 0)) HNW.out) (nd_one _ _ _ _ _ _ _) (by decide) (by unfold maxLen; omega) (by omega) (by simp; omega) _ rfl ?_)
          intro g cap w5 hown5 hgrow5 _ _
          obtain ⟨cu5, fu5⟩ := HU.out.free5 _ _ hgrow5
          have HU5 := Lib.hid (HU.out.push _ _ (⟨nd.kind, nd.at', nd.text, nd.n, nd.kids⟩, kp, kl, kc) i HXL.out.symm hgrow5 hown5)
          have HM5 : Hid (((xs ++ [((⟨nd.kind, nd.at', nd.text, nd.n, nd.kids⟩, kp, kl, kc) : KP)]).map (·.1)).map forget = (ns.take (i + 1)).map forget) := Lib.hid (by rw [HTK.out, List.map_append, List.map_append, List.map_append, HM.out]; rfl)
          have HX5 : Hid (∀ y ∈ xs ++ [((⟨nd.kind, nd.at', nd.text, nd.n, nd.kids⟩, kp, kl, kc) : KP)], IV w y.2.1 y.2.2.1 y.2.2.2 y.1.kids) := Lib.hid (fun y hx => by
            rcases List.mem_append.1 hx with hx | hx
            · exact HX.out y hx
            · rw [List.mem_singleton] at hx; subst hx; exact HIV.out)
          have HL5 : Hid ((xs ++ [((⟨nd.kind, nd.at', nd.text, nd.n, nd.kids⟩, kp, kl, kc) : KP)]).length = i + 1) := Lib.hid (by rw [List.length_append, HXL.out]; rfl)
          clear hown5 hgrow5 ho
          go_wp2_with fail
          go_roundw
          case rel => exact ⟨i + 1, _, _, by omega, by go_num, HL5, HM5, HX5, HU5⟩
          case measure => simp [intOf]; omega
      · have hie : i = ns.length := by have := hlen.out; omega
        have hm := HM.out
        rw [hie, List.take_length] at hm
        obtain ⟨pu, c5, hv, hTU⟩ := tv_own HU.out.own (fun x hx => (HX.out x hx).on HBW.out)
        subst hv
        have HTU := Lib.hid hTU
        have HMM := Lib.hid hm
        obtain ⟨us, hus2⟩ : ∃ us, xs.map (·.1) = us := ⟨_, rfl⟩
        rw [hus2] at HTU HMM
        have hxe : xs.length = len := by rw [HXL.out, hie, hlen.out]
        rw [hxe] at HTU cu
        have HUS := Lib.hid (small_forget HMM.out.symm HSM.out)
        have CU := Lib.hid cu
        have C0 := Lib.hid c0
        have HWU : Hid (W0.heap.size < wr.heap.size) := Lib.hid hus
        clear hTU hm hie hus2 hxe HM HX HXL
        obtain ⟨W1, hW1⟩ : ∃ W1 : World, W1 = wr := ⟨_, rfl⟩
        have KQ : ∀ (F : Nat) (args : Array Value) (r : Value), (∀ W', Below W1.heap.size W1 W' → Calls Try.prog F args W' fun e W'' => e = .returned r ∧ Below W'.heap.size W' W'') →
            ∀ W', W'.cell? ⟨w.heap.size, 0, none⟩ = some (.slice p len c) → W'.cell? ⟨W0.heap.size, 0, none⟩ = some (.slice pu len c5) → Below W1.heap.size W1 W' →
              Calls Try.prog F args W' fun e W'' => e = .returned r ∧ W''.cell? ⟨w.heap.size, 0, none⟩ = some (.slice p len c) ∧ W''.cell? ⟨W0.heap.size, 0, none⟩ = some (.slice pu len c5) ∧ Below W1.heap.size W1 W'' :=
          fun F args r hc W' q1 q2 q3 => (hc W' q3).mono fun e W'' ⟨h1, h2⟩ => ⟨h1, Aside.of h2 _ _ q1, Aside.of h2 _ _ q2, q3.trans (h2.mono q3.size)⟩
        have HT1 : ∀ W', Below W1.heap.size W1 W' → TV W' p len c ns := fun W' hb => H.out.on (HBW.out.trans (by rw [hW1] at hb; exact hb.mono HBW.out.size))
        have HU1 : ∀ W', Below W1.heap.size W1 W' → TV W' pu len c5 us := fun W' hb => HTU.out.on (by rw [hW1] at hb; exact hb)
        have R1 := Lib.hid (KQ 11 _ _ (fun W' hb => right_at W' p len c ns (HT1 W' hb) HSM.out))
        have R2 := Lib.hid (KQ 11 _ _ (fun W' hb => right_at W' pu len c5 us (HU1 W' hb) HUS.out))
        have D1 := Lib.hid (KQ 13 _ _ (fun W' hb => deep_at W' p len c ns (HT1 W' hb) HSM.out))
        have D2 := Lib.hid (KQ 13 _ _ (fun W' hb => deep_at W' pu len c5 us (HU1 W' hb) HUS.out))
        have S1 := Lib.hid (KQ 15 _ _ (fun W' hb => size_at W' p len c ns i0 (HT1 W' hb) HSM.out))
        have S2 := Lib.hid (KQ 15 _ _ (fun W' hb => size_at W' pu len c5 us i0 (HU1 W' hb) HUS.out))
        have E1 := Lib.hid (KQ 17 _ _ (fun W' hb => same_at W' p pu len c len c5 ns us (HT1 W' hb) (HU1 W' hb) HSM.out))
        rw [right_forget HMM.out] at R2
        rw [deep_forget HMM.out] at D2
        rw [size_forget HMM.out] at S2
        rw [same_forget HMM.out.symm] at E1
        generalize rightP ns = rb at *
        generalize deepP ns = dn at *
        generalize sizeP ns i0 = sz at *
        have HT1' := Lib.hid HT1
        have HUB : Hid (Below W0.heap.size W0 W1) := Lib.hid (by rw [hW1]; exact HU.out.below)
        have HBW1 : Hid (Below w.heap.size w W1) := Lib.hid (by rw [hW1]; exact HBW.out)
        have hbd : Below W1.heap.size W1 wr.drew := by rw [hW1]; exact (Below.refl _ _).drew
        clear KQ HT1 HU1 hW1
        go_wp2_with fail
        go_region_held3 (fun w' => w'.cell? ⟨w.heap.size, 0, none⟩ = some (.slice p len c) ∧ w'.cell? ⟨W0.heap.size, 0, none⟩ = some (.slice pu len c5) ∧ Below W1.heap.size W1 w') (go_keep)
          (first
            | (go_at_call_of 11 (Value.agg #[Value.slice p len c]); (with_reducible refine (R1.out _ ?_ ?_ ?_).mono ?_); (first | assumption | exact c0); (first | assumption | exact cu); (first | assumption | exact hbd); rintro e w' ⟨rfl, q1, q2, q3⟩)
            | (go_at_call_of 11 (Value.agg #[Value.slice pu len c5]); (with_reducible refine (R2.out _ ?_ ?_ ?_).mono ?_); (first | assumption | exact c0); (first | assumption | exact cu); (first | assumption | exact hbd); rintro e w' ⟨rfl, q1, q2, q3⟩)
            | (go_at_call_of 13 (Value.agg #[Value.slice p len c]); (with_reducible refine (D1.out _ ?_ ?_ ?_).mono ?_); (first | assumption | exact c0); (first | assumption | exact cu); (first | assumption | exact hbd); rintro e w' ⟨rfl, q1, q2, q3⟩)
            | (go_at_call_of 13 (Value.agg #[Value.slice pu len c5]); (with_reducible refine (D2.out _ ?_ ?_ ?_).mono ?_); (first | assumption | exact c0); (first | assumption | exact cu); (first | assumption | exact hbd); rintro e w' ⟨rfl, q1, q2, q3⟩)
            | (go_at_call_of 15 (Value.agg #[Value.slice p len c]); (with_reducible refine (S1.out _ ?_ ?_ ?_).mono ?_); (first | assumption | exact c0); (first | assumption | exact cu); (first | assumption | exact hbd); rintro e w' ⟨rfl, q1, q2, q3⟩)
            | (go_at_call_of 15 (Value.agg #[Value.slice pu len c5]); (with_reducible refine (S2.out _ ?_ ?_ ?_).mono ?_); (first | assumption | exact c0); (first | assumption | exact cu); (first | assumption | exact hbd); rintro e w' ⟨rfl, q1, q2, q3⟩)
            | (go_at_call 17; (with_reducible refine (E1.out _ ?_ ?_ ?_).mono ?_); (first | assumption | exact c0); (first | assumption | exact cu); (first | assumption | exact hbd); rintro e w' ⟨rfl, q1, q2, q3⟩))
        go_wp2_with fail
        have HW3 := Lib.hid (HBW1.out.trans (q3.mono HBW1.out.size))
        have HTN := HT1'.out _ q3
        have HTW3 := Lib.hid (H.out.on HW3.out)
        have HWAS := Lib.hid (HTW.out.on (show Below W0.heap.size W0 w' from (HUB.out.trans (q3.mono HUB.out.size))))
        have HPN := Lib.hid (plain_at w' p len c ns HTN (by omega))
        clear q1 q2 q3 HTN R1 R2 D1 D2 S1 S2 E1
        (with_reducible refine HPN.out.mono ?_)
        rintro e w3 ⟨⟨pn, cn, rfl, hTn⟩, hb3⟩
        have HW4 := Lib.hid (HW3.out.trans (hb3.mono HW3.out.size))
        have TN := Lib.hid hTn
        have TW := Lib.hid (HWAS.out.on hb3)
        have HRS := Lib.hid (refSame_at w3 pw pn len cw len cn ns ns TW.out TN.out HSM.out)
        rw [same_forget rfl] at HRS
        clear hTn hb3 HPN
        go_wp2_with fail
        (with_reducible refine HRS.out.mono ?_)
        rintro e w4 ⟨rfl, hb4⟩
        have HW5 := Lib.hid (HW4.out.trans (hb4.mono HW4.out.size))
        have TN4 := Lib.hid (TN.out.on hb4)
        have TW4 := Lib.hid (TW.out.on hb4)
        clear hb4 HRS
        go_wp2_with fail
        obtain ⟨wo, rfl⟩ : ∃ wo : World, wo = wr := ⟨_, rfl⟩
        go_loopw [12] (fun kv wz => ∃ k : Nat, k ≤ len ∧ kv = .int .i64 k ∧ Hid (Below w4.heap.size w4 wz)) (fun kv _ => len - (intOf kv).toNat)
        case atStart => exact ⟨0, by omega, rfl, Lib.hid (Below.refl _ _)⟩
        case round =>
          obtain ⟨wz, rfl⟩ : ∃ wz : World, wz = wr := ⟨_, rfl⟩
          obtain ⟨k, hk, rfl, HZB⟩ := hrel
          have HW6 := Lib.hid (HW5.out.trans (HZB.out.mono HW5.out.size))
          by_cases hkl : k < len
          · obtain ⟨b, off, rfl, _, hc⟩ := (TN4.out.on HZB.out).node (by omega)
            obtain ⟨b2, off2, rfl, _, hc2⟩ := (TW4.out.on HZB.out).node (by omega)
            obtain ⟨_, _, _, hn⟩ := hc k hkl
            obtain ⟨_, _, _, hn2⟩ := hc2 k hkl
            have r1 := hn.at'
            have r2 := hn2.at'
            generalize (ns.getD k default).at' = x at *
            have b0 : (0 : Int) ≤ (k : Int) := by omega
            have b1 : (k : Int) < (len : Int) := by omega
            have d1 : (x != x) = false := by simp
            have HZD : Hid (∀ n, Below w4.heap.size w4 (wz.drewN n)) := Lib.hid (fun n => HZB.out.trans (drewN_below _ _ _))
            clear hc hc2 hn hn2
            go_wp2_with fail
            go_quiet (fail)
            go_wp2_with fail
            go_roundw
            case rel => exact ⟨k + 1, by omega, by go_num, Lib.hid (HZD.out nq)⟩
            case measure => simp [intOf]; omega
          · have HWK := Lib.hid (works_at wz)
            go_wp2_with fail
            (with_reducible refine HWK.out.mono ?_)
            rintro e w5 ⟨rfl, hb5⟩
            have HW7 := Lib.hid (HW6.out.trans (hb5.mono HW6.out.size))
            clear hb5 HWK
            go_wp2
            go_ret
            exact ⟨rfl, HW7.out⟩
end Go.Proofs.Ytijaelncmjcbmaa
