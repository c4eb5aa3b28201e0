import Derived.Test.YtijaelncmjcbmaaTreeH
import Derived.Deep.AppendLies
import Derived.OwnWalk
namespace Go.Proofs.Ytijaelncmjcbmaa
open Go.RowKit Go.MapKept
theorem infoK : (Try.prog.info? 5).map (fun i => (i.zero, i.size, i.bytes)) = some (some (.int .u8 0), 1, 1) := by kernel_rfl
theorem cut_own (B : Nat) (W0 : World) (v : Value) (n : Nat) (xs : List Value) (h0 : W0.ownsRow B 5 1 v n xs) :
    ∃ v', (∀ W, (Instr.sliceAt 45 v none (some (.int .i64 0)) none).run Try.prog W = .ok v' W) ∧ (∀ (W : World) (n : Nat) (xs : List Value), W.ownsRow B 5 1 v n xs → W.ownsRow B 5 1 v' 0 []) := by
  have hu : Try.prog.underlying 45 = some (.slice (Try.prog.elem 45)) := by kernel_rfl
  have hz : ∀ W, (sizeOf (Try.prog.elem 45)).run Try.prog W = .ok 1 W := fun _ => by kernel_rfl
  have key : ∀ W p n c, (Instr.sliceAt 45 (.slice p n c) none (some (.int .i64 0)) none).run Try.prog W = .ok (sliced p 0 0 c 1) W := fun W p n c => by
    rw [run_sliceAt_slice W 45 _ _ _ _ hu, run_slice_h W 45 p n c hu .i64 0 (by omega) (by omega), hz]
    rfl
  have hv : ∃ p n c, v = .slice p n c := by
    obtain ⟨_, ⟨rfl, _⟩ | ⟨g, cap, cur, rfl, _⟩⟩ := h0
    · exact ⟨_, _, _, rfl⟩
    · exact ⟨_, _, _, rfl⟩
  obtain ⟨p, n, c, rfl⟩ := hv
  refine ⟨_, fun W => key W p n c, fun W n' xs' h => ?_⟩
  obtain ⟨_, ⟨h1, _⟩ | ⟨g, cap, cur, h0, h1, h2, h3, h4, h5, h6⟩⟩ := h
  · simp only [Value.slice.injEq] at h1
    obtain ⟨rfl, rfl, rfl⟩ := h1
    exact World.ownsRow_nil _ _ _ _
  · simp only [Value.slice.injEq] at h0
    obtain ⟨rfl, rfl, rfl⟩ := h0
    refine ⟨rfl, Or.inr ⟨g, c, cur, ?_, h1, h2, by omega, h4, h5, by simp⟩⟩
    simp [sliced, Addr.add]
theorem own_bv {W : World} {B : Nat} {v : Value} {ks : List Int} (h : W.ownsRow B 5 1 v ks.length (ks.map (Value.int .u8))) : ∃ p c, v = .slice p ks.length c ∧ BV W p ks.length c ks := by
  have h0 := h
  obtain ⟨_, ⟨rfl, h1⟩ | ⟨g, cap, cur, rfl, _, _, h3, _⟩⟩ := h
  · exact ⟨none, 0, by rw [h1], rfl, by omega, fun hl => by omega⟩
  · refine ⟨_, _, rfl, rfl, h3, fun _ => ⟨g, 0, rfl, fun i hi => ?_⟩⟩
    rw [Nat.zero_add, h0.cellAt i (by omega)]
    simp [List.getD, hi]
theorem rule_small {k : Int} {R : Rule} (h : ruleOf k = some R) : R.parts.length ≤ 8 ∧ ∀ x ∈ R.parts, x.least ≤ 1 ∧ x.most ≤ 9223372036854775807 := by
  unfold ruleOf at h
  rw [Option.map_eq_some_iff] at h
  obtain ⟨x, hx, rfl⟩ := h
  have h2 := List.mem_of_find?_eq_some hx
  have h3 : (ruleT.all fun x => decide (x.2.parts.length ≤ 8) && x.2.parts.all fun y => decide (y.least ≤ 1) && decide (y.most ≤ 9223372036854775807)) = true := by decide +kernel
  rw [List.all_eq_true] at h3
  have := h3 x h2
  simp only [Bool.and_eq_true, decide_eq_true_eq, List.all_eq_true] at this
  exact this
theorem rule_none {k : Int} (h : ¬ (1 ≤ k ∧ k ≤ 26)) : ruleOf k = none := by
  cases hr : ruleOf k with
  | none => rfl
  | some R => exact absurd (rule_range hr) h
theorem rule_some {k : Int} (h : 1 ≤ k ∧ k ≤ 26) : ∃ R, ruleOf k = some R := by
  obtain ⟨i, t, R, hi⟩ := key_all k h.1 h.2
  have := rt_good hi
  simp only [RK.good, beq_iff_eq] at this
  exact ⟨R, this⟩
theorem RulesAt.on {w w' : World} {r : Nat} (h : RulesAt w r) (hr : r < w.heap.size) (hb : Below w.heap.size w w') : RulesAt w' r := by
  obtain ⟨es, n, h1, h2, h3⟩ := h
  refine ⟨es, n, by rw [hb.block r hr]; exact h1, fun x hx => ?_, h3⟩
  obtain ⟨k, R, q1, q2, q3⟩ := h2 x hx
  exact ⟨k, R, q1, q2, q3.on (Aside.of hb)⟩
theorem RulesAt.lt {w : World} {r : Nat} (h : RulesAt w r) : r < w.heap.size := by
  obtain ⟨es, n, h1, _⟩ := h
  by_cases hr : r < w.heap.size
  · exact hr
  · rw [Array.getElem?_eq_none (by omega)] at h1; simp at h1
/-- The map is asked. -/
theorem RulesAt.ask {w : World} {r : Nat} (h : RulesAt w r) (k : Int) :
    (ruleOf k = none ∧ (Instr.lookup 56 (.map (some r)) (.int .u8 k) true).run Try.prog w = .ok (.tuple #[.nilFunc, .bool false]) w) ∨
    ∃ R tb mb kb, ruleOf k = some R ∧ (Instr.lookup 56 (.map (some r)) (.int .u8 k) true).run Try.prog w = .ok (.tuple #[closV tb mb kb, .bool true]) w ∧ NV w tb mb kb R := by
  obtain ⟨es, n, h1, h2, h3⟩ := h
  have hks : ∀ x ∈ es.toList, IsKey (.int .u8) x.key := fun x hx => by
    obtain ⟨k, R, q1, _⟩ := h2 x hx
    rw [q1]; simp [IsKey]
  by_cases hk : 1 ≤ k ∧ k ≤ 26
  · obtain ⟨e, he, hek, hrun⟩ := known_yes w r n es k h1 hks (h3 k hk.1 hk.2)
    obtain ⟨k', R, q1, q2, tb, mb, kb, q3, q4⟩ := h2 e he
    rw [hek] at q1
    simp only [Value.int.injEq, true_and] at q1
    subst q1
    rw [q3] at hrun
    exact Or.inr ⟨R, tb, mb, kb, q2, hrun, q4⟩
  · refine Or.inl ⟨rule_none hk, known_no w r n es k h1 hks fun x hx hxk => ?_⟩
    obtain ⟨k', R, q1, q2, _⟩ := h2 x hx
    rw [hxk] at q1
    simp only [Value.int.injEq, true_and] at q1
    subst q1
    exact hk (rule_range q2)
theorem u8_one (k : Int) : ∀ u ∈ ([.int .u8 k] : List Value), u.oneCell' = true := by
  intro u hu
  simp only [List.mem_singleton] at hu
  rw [hu]; rfl
set_option maxHeartbeats 16000000 in
set_option maxRecDepth 1000000 in
theorem ruled_at (w : World) (p : Option Addr) (len c : Nat) (ns : List Nd) (h : TV w p len c ns) (hl : len ≤ 1000) (hk : ∀ nd ∈ ns, nd.kids.length ≤ 1000 ∧ nd.text.size ≤ 70000 ∧ ∀ k ∈ nd.kids, 0 ≤ k ∧ k < len) :
    Calls Try.prog 23 #[.agg #[.slice p len c]] w fun e w' => e = .returned (.bool (ruledP ns)) ∧ Below w.heap.size w w' := by
  have H := Lib.hid h
  have HK := Lib.hid hk
  have hlen := Lib.hid h.len_eq
  obtain ⟨i0, hi, hz0, hz1, hz2⟩ := info_parts infoK
  have I0 := Lib.hid hi
  have I1 := Lib.hid hz0
  have I2 := Lib.hid hz1
  have I3 := Lib.hid hz2
  clear h hk hi hz0 hz1 hz2
  have B0 := Lib.hid (one_below w (.cells #[.slice p len c] 24))
  have HR := Lib.hid (rules_run (w.alloc (.cells #[.slice p len c] 24)))
  go_enter Try.func23, Try.ntmps23
  go_wp2_with fail
  (with_reducible refine HR.out.mono ?_)
  rintro e w1 ⟨r, rfl, hr0, hR, hb1⟩
  have RU := Lib.hid hR
  have B1 := Lib.hid (B0.out.trans (hb1.mono (by simp)))
  have c1 : w1.cell? ⟨w.heap.size, 0, none⟩ = some (.slice p len c) := by rw [hb1.cell (by simp)]; simp
  have C1 := Lib.hid c1
  have hsz : Hid (w.heap.size < w1.heap.size) := Lib.hid (World.block_lt_of_cell? w1 _ c1)
  clear hR hb1 HR hr0
  go_wp2_with fail
  go_loopw [4, 15] (fun kv iv wr => ∃ (i n : Nat) (xs : List Value), i ≤ len ∧ iv = .int .i64 i ∧ Hid (wr.ownsRow w1.heap.size 5 1 kv n xs) ∧ Hid ((ns.take i).all (nodeOk ns) = true) ∧ Hid (Below w1.heap.size w1 wr)) (fun _ iv _ => len - (intOf iv).toNat)
  case atStart => exact ⟨0, 0, [], by omega, rfl, Lib.hid (World.ownsRow_nil _ _ _ _), Lib.hid rfl, Lib.hid (Below.refl _ _)⟩
  case round =>
    obtain ⟨i, n, xs, hil, rfl, HO, HA, HB⟩ := hrel
    clear c1
    by_cases hlt : i < len
    · have HBW := Lib.hid (B1.out.trans (HB.out.mono (by have := hsz.out; omega)))
      obtain ⟨b, off, rfl, hbl, hc⟩ := H.out.node (by omega)
      obtain ⟨kp, kl, kc, hnw⟩ := hc i hlt
      have hn := hnw.on hbl HBW.out
      have k0 := hn.kind
      have k1 := hn.at'
      have k2 := hn.text
      have k3 := hn.n
      have k4 := hn.kids
      have HIV := Lib.hid hnw.iv
      have hkl := hn.iv.len_eq
      have HC := Lib.hid hc
      have hix : i < ns.length := by have := hlen.out; omega
      have HT := Lib.hid (all_take (nodeOk ns) ns i hix)
      have HN := Lib.hid (all_no (nodeOk ns) ns i hix)
      have hkb := HK.out (ns.getD i default) (by simp [List.getD, hix])
      generalize ns.getD i default = nd at *
      have HKB := Lib.hid hkb
      have HKL := Lib.hid hkl
      have hkl2 : kl ≤ 1000 := by omega
      obtain ⟨kv', hcut, hcow⟩ := cut_own w1.heap.size wr u4 n xs HO.out
      have HKV : Hid (∀ k, kv'.ownBlock = some k → k < wr.heap.size) := Lib.hid (fun k hk => ((hcow wr n xs HO.out).lt k hk).2)
      have HCO := Lib.hid (hcow _ n xs (HO.out.alloc (.cells #[.int .u8 nd.kind, .int .i64 nd.at', .string nd.text, .int .i64 nd.n, .slice kp kl kc] 37)))
      have BN := Lib.hid (one_below wr (.cells #[.int .u8 nd.kind, .int .i64 nd.at', .string nd.text, .int .i64 nd.n, .slice kp kl kc] 37))
      have HB2 := Lib.hid (HB.out.trans (BN.out.mono HB.out.size))
      clear hn hnw hc hkb hkl hcow HO hix
      have HWS : Hid (w1.heap.size ≤ wr.heap.size) := Lib.hid HB.out.size
      have hkn : (kindsOf ns nd).length = kl := by rw [kindsOf, List.length_map]; exact HKL.out
      have HKN := Lib.hid hkn
      clear hkn
      go_wp2_with fail
      obtain ⟨wo, rfl⟩ : ∃ wo : World, wo = wr := ⟨_, rfl⟩
      go_loopw [4, 24] (fun kv jv wq => ∃ j : Nat, j ≤ kl ∧ jv = .int .i64 j ∧ Hid (wq.ownsRow w1.heap.size 5 1 kv j (((kindsOf ns nd).take j).map (Value.int .u8))) ∧ Hid (Below w1.heap.size w1 wq) ∧ Hid (wo.heap.size < wq.heap.size ∧ wq.heap[wo.heap.size]? = (wo.alloc (.cells #[.int .u8 nd.kind, .int .i64 nd.at', .string nd.text, .int .i64 nd.n, .slice kp kl kc] 37)).heap[wo.heap.size]?) ∧ Hid (kv.ownBlock ≠ some wo.heap.size)) (fun _ jv _ => kl - (intOf jv).toNat)
      case atStart => exact ⟨0, by omega, rfl, HCO, HB2, Lib.hid ⟨by simp, rfl⟩, Lib.hid (fun e => by have := HKV.out _ e; omega)⟩
      case round =>
        obtain ⟨wq, rfl⟩ : ∃ wq : World, wq = wr := ⟨_, rfl⟩
        clear hcut k0 k1 k2 k3 k4
        obtain ⟨j, hj, rfl, HO, HQ, HBX, HNE⟩ := hrel
        have hbox : ∀ f v, #[Value.int .u8 nd.kind, .int .i64 nd.at', .string nd.text, .int .i64 nd.n, .slice kp kl kc][f]? = some v → wq.cell? ⟨wo.heap.size, f, none⟩ = some v := fun f v hv => by
          rw [World.cell?_of_block (w := wo.alloc (.cells #[.int .u8 nd.kind, .int .i64 nd.at', .string nd.text, .int .i64 nd.n, .slice kp kl kc] 37)) HBX.out.2, World.cell?_alloc_at _ _ _ _ rfl]; exact hv
        have x0 := hbox 0 _ rfl
        have x1 := hbox 1 _ rfl
        have x2 := hbox 2 _ rfl
        have x3 := hbox 3 _ rfl
        have x4 := hbox 4 _ rfl
        have c1 : wq.cell? ⟨w.heap.size, 0, none⟩ = some (.slice (some ⟨b, off, none⟩) len c) := by rw [HQ.out.cell hsz.out]; exact C1.out
        have HWQ := Lib.hid (B1.out.trans (HQ.out.mono (by have := hsz.out; omega)))
        by_cases hjl : j < kl
        · obtain ⟨kb, koff, rfl, hkbl, hkc⟩ := HIV.out.cell (by omega)
          have hkj := hkc j hjl
          rw [← HWQ.out.cell (p := ⟨kb, koff + j, none⟩) hkbl] at hkj
          have hjx : j < nd.kids.length := by have := HKL.out; omega
          have hmem : nd.kids.getD j 0 ∈ nd.kids := by simp [List.getD, hjx]
          obtain ⟨hq0, hq1⟩ := HKB.out.2.2 _ hmem
          have HKT : Hid ((kindsOf ns nd).take (j + 1) = (kindsOf ns nd).take j ++ [kindAt ns (nd.kids.getD j 0).toNat]) := Lib.hid (by
            rw [List.take_succ_eq_append_getElem (by rw [HKN.out]; exact hjl)]
            simp [kindsOf, List.getD, hjx])
          generalize nd.kids.getD j 0 = kid at *
          obtain ⟨q, rfl⟩ : ∃ q : Nat, kid = (q : Int) := ⟨kid.toNat, (Int.toNat_of_nonneg hq0).symm⟩
          have hql : q < len := by omega
          obtain ⟨kp2, kl2, kc2, hn2⟩ := HC.out q hql
          have hk2 := (hn2.on hbl HWQ.out).kind
          have HKT2 : Hid ((kindsOf ns nd).take (j + 1) = (kindsOf ns nd).take j ++ [(ns.getD q default).kind]) := Lib.hid (by rw [HKT.out, Int.toNat_natCast]; rfl)
          generalize (ns.getD q default).kind = kq at *
          clear hkc hkbl hjx hmem hn2 hbox
          have ho := HO.out
          have hHQs := HQ.out.size
          go_wp2_with (at_builtin; refine wpList_append_lies _ rfl (.tmp 28) (.tmp 35) 45 rfl w1.heap.size 5 i0 _ 1 1 Try.underlying45 I0.out I1.out I2.out I3.out rfl (by decide) u4 j (((kindsOf ns nd).take j).map (Value.int .u8)) rfl (ho.alloc _) ⟨wq.heap.size, 0, none⟩ 1 1 [.int .u8 kq] rfl rfl (World.news_of_block (cs := #[.int .u8 kq]) (t := 5) (fr := (0, 0)) (heap_alloc_new _ _)) (u8_one _) (by decide) (by unfold maxLen; omega) (by omega) (by simp; omega) _ rfl ?_)
          intro g cap w5 hown5 hgrow5 hlie _
          have HO5 : Hid (w5.ownsRow w1.heap.size 5 1 (.slice (some ⟨g, 0, none⟩) (j + 1) cap) (j + 1) (((kindsOf ns nd).take (j + 1)).map (Value.int .u8))) := Lib.hid (by rw [HKT2.out, List.map_append, List.map_take]; exact hown5)
          have HB5 : Hid (Below w1.heap.size w1 w5) := Lib.hid ((HQ.out.alloc (by omega) (.cells #[.int .u8 kq] 5)).grown hgrow5 (by simp; omega) (fun k hk => (ho.lt k hk).1))
          have HX5 : Hid (wo.heap.size < w5.heap.size ∧ w5.heap[wo.heap.size]? = (wo.alloc (.cells #[.int .u8 nd.kind, .int .i64 nd.at', .string nd.text, .int .i64 nd.n, .slice (some ⟨kb, koff, none⟩) kl kc] 37)).heap[wo.heap.size]?) := Lib.hid (by
            have h1 := HBX.out
            refine ⟨?_, ?_⟩
            · have := hgrow5.size; simp at this; omega
            · rw [hgrow5.block _ (by simp; omega) (fun e => HNE.out e.symm), Below.heap_alloc _ _ _ h1.1]; exact h1.2)
          have HN5 : Hid ((Value.slice (some ⟨g, 0, none⟩) (j + 1) cap).ownBlock ≠ some wo.heap.size) := Lib.hid (by
            intro e
            simp only [Value.ownBlock, Option.some.injEq] at e
            rcases hlie with h | h
            · exact HNE.out (by rw [h, e])
            · have := HBX.out.1
              (try simp at h)
              omega)
          clear hown5 hgrow5 hlie ho
          go_wp2_with fail
          go_roundw
          case rel => exact ⟨j + 1, by omega, by go_num, HO5, HB5, HX5, HN5⟩
          case measure => simp [intOf]; omega
        · have hje : j = kl := by omega
          have HO2 : Hid (wq.ownsRow w1.heap.size 5 1 u4 (kindsOf ns nd).length ((kindsOf ns nd).map (Value.int .u8))) := Lib.hid (by
            have := HO.out
            rw [hje, ← HKN.out, List.take_length] at this
            exact this)
          obtain ⟨pv, cv, rfl, hbv⟩ := own_bv HO2.out
          have HBV := Lib.hid hbv
          have RU2 := RU.out.on RU.out.lt HQ.out
          clear hje hbox hbv
          rcases RU2.ask nd.kind with ⟨hno, hask⟩ | ⟨R, tb, mb, kb, hyes, hask, hnv⟩
          · have HF : Hid (nodeOk ns nd = false) := Lib.hid (by unfold nodeOk; rw [hno])
            clear hno RU2
            go_wp2
            go_ret
            exact ⟨retB (by rw [ruledP, HN.out HF.out]), HWQ.out⟩
          · have HF : Hid (nodeOk ns nd = fitsRule R nd (kindsOf ns nd)) := Lib.hid (by unfold nodeOk; rw [hyes])
            have HRC := Lib.hid (rule_at wq tb mb kb R nd (.slice kp kl kc) pv (kindsOf ns nd).length cv (kindsOf ns nd) hnv HBV.out (by rw [HKN.out]; omega) HKB.out.2.1 (rule_small hyes) kp kl kc rfl)
            clear hyes RU2 hnv
            unfold closV at hask
            go_wp2_with fail
            (with_reducible refine HRC.out.mono ?_)
            rintro e w6 ⟨rfl, hb6⟩
            have HB6 := Lib.hid (HQ.out.trans (hb6.mono HQ.out.size))
            have HO6 := Lib.hid (HO2.out.kept (row := none) ⟨hb6.os, hb6.tape, hb6.output, hb6.size, fun k hk _ => hb6.block k hk⟩ (by
              cases hv : (Value.slice pv (kindsOf ns nd).length cv).ownBlock with
              | none => exact Or.inl rfl
              | some k => exact Or.inr (by simp)))
            have HW6 := Lib.hid (HWQ.out.trans (hb6.mono HWQ.out.size))
            clear hb6 HRC hask
            cases hfr : fitsRule R nd (kindsOf ns nd) with
            | true =>
              have HFR := Lib.hid (HF.out.trans hfr)
              clear hfr
              go_wp2_with fail
              go_roundw
              case rel => exact ⟨i + 1, _, _, by omega, by go_num, HO6, Lib.hid (by rw [HT.out, HA.out, HFR.out]; rfl), HB6⟩
              case measure => simp [intOf]; omega
            | false =>
              have HFR := Lib.hid (HF.out.trans hfr)
              clear hfr
              go_wp2
              go_ret
              exact ⟨retB (by rw [ruledP, HN.out HFR.out]), HW6.out⟩
    · have e : i = ns.length := by have := hlen.out; omega
      have HE := Lib.hid e
      clear e
      go_wp2
      go_ret
      refine ⟨retB ?_, B1.out.trans (HB.out.mono (by have := hsz.out; omega))⟩
      have := HA.out
      rw [HE.out, List.take_length] at this
      exact this.symm
end Go.Proofs.Ytijaelncmjcbmaa
