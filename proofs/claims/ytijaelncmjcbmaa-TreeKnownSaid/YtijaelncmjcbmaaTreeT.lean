import Derived.Test.YtijaelncmjcbmaaTreeR
import Derived.Deep.RegionHeld3
namespace Go.Proofs.Ytijaelncmjcbmaa
open Go.RowKit
theorem few_small {ns : List Nd} {top : Int} (h : fewP ns top = true) (ht : top ≤ 1000) : Small ns := by
  unfold fewP at h
  simp only [Bool.and_eq_true, decide_eq_true_eq, List.all_eq_true] at h
  exact ⟨by omega, fun nd hm => by have := h.2 nd hm; exact ⟨by omega, by omega⟩⟩
theorem own_below {W W' : World} {B : Nat} {v : Value} {n : Nat} {xs : List Value} (h : W.ownsRow B 3 1 v n xs) (hb : Below W.heap.size W W') : W'.ownsRow B 3 1 v n xs :=
  h.kept (row := none) ⟨hb.os, hb.tape, hb.output, hb.size, fun k hk _ => hb.block k hk⟩ (by
    cases hv : v.ownBlock with
    | none => exact Or.inl rfl
    | some k => exact Or.inr (by simp))
theorem cnt_le_whole {K : Nat → List Int} {S : Nat → Nat} {n : Nat} (h : RightSz K S n) (h0 : S 0 = n) (hn : 0 < n) (j i : Nat) (hi : i < n) : cnt K j 0 i + (K i).count (j : Int) ≤ 1 := by
  have h1 := h.count j 0 hn
  rw [h0] at h1
  have e : n = (i + 1) + (n - (i + 1)) := by omega
  rw [e, cnt_add] at h1
  have h2 : cnt K j 0 (i + 1) = cnt K j 0 i + (K i).count (j : Int) := by simp [cnt]
  split at h1 <;> omega
theorem sum_take_le (f : Int → Nat) (l : List Int) (k : Nat) : ((l.take k).map f).sum ≤ (l.map f).sum := by
  have : (l.map f).sum = ((l.take k).map f).sum + ((l.drop k).map f).sum := by
    rw [← List.sum_append, ← List.map_append, List.take_append_drop]
  omega
set_option maxHeartbeats 16000000 in
set_option maxRecDepth 1000000 in
theorem treeSizes (w : World) (p : Option Addr) (len c : Nat) (ns : List Nd) (h : TV w p len c ns) :
    Calls Try.prog 5 #[.agg #[.slice p len c]] w fun e w' => e = .returned (.bool true) ∧ Below w.heap.size w w' := by
  have hlen := Lib.hid h.len_eq
  have H := Lib.hid h
  have B0 := Lib.hid (one_below w (.cells #[.slice p len c] 24))
  have HF := Lib.hid (few_at (w.alloc (.cells #[.slice p len c] 24)) p len c ns 150 (h.on B0.out) (by omega) (by omega))
  clear h
  go_enter Try.func5, Try.ntmps5
  go_wp2_with fail
  (with_reducible refine HF.out.mono ?_)
  rintro e wa ⟨rfl, hb⟩
  have BA := Lib.hid (B0.out.trans (hb.mono (by simp)))
  have c0 : wa.cell? ⟨w.heap.size, 0, none⟩ = some (.slice p len c) := by rw [hb.cell (by simp)]; simp
  clear hb HF
  cases hf : fewP ns 150 with
  | false =>
    have HW := Lib.hid (works_at wa)
    clear hf
    go_wp2_with fail
    (with_reducible refine HW.out.mono ?_)
    rintro e wb ⟨rfl, hb⟩
    have BB := Lib.hid (BA.out.trans (hb.mono BA.out.size))
    clear hb HW
    go_wp2
    go_ret
    exact ⟨rfl, BB.out⟩
  | true =>
    have HSM := Lib.hid (few_small hf (by omega))
    have HR := Lib.hid (right_at wa p len c ns (H.out.on BA.out) HSM.out)
    have hll : len ≤ 150 := by
      unfold fewP at hf
      simp only [Bool.and_eq_true, decide_eq_true_eq] at hf
      have := hlen.out
      omega
    clear hf
    go_wp2_with fail
    (with_reducible refine HR.out.mono ?_)
    rintro e w1 ⟨rfl, hb⟩
    have B1 := Lib.hid (BA.out.trans (hb.mono BA.out.size))
    have c1 : w1.cell? ⟨w.heap.size, 0, none⟩ = some (.slice p len c) := by rw [hb.cell (World.block_lt_of_cell? wa _ c0)]; exact c0
    have C1 := Lib.hid c1
    have hsz : w.heap.size < w1.heap.size := World.block_lt_of_cell? w1 _ c1
    clear hb HR c0
    cases hr : rightP ns with
    | false =>
      have HW := Lib.hid (works_at w1)
      clear hr
      go_wp2_with fail
      (with_reducible refine HW.out.mono ?_)
      rintro e wb ⟨rfl, hb⟩
      have BB := Lib.hid (B1.out.trans (hb.mono B1.out.size))
      clear hb HW
      go_wp2
      go_ret
      exact ⟨rfl, BB.out⟩
    | true =>
      have HRT := Lib.hid hr
      obtain ⟨s, hs, _, _⟩ := right_sizes hr
      have HSO := Lib.hid (sizesP_some hs)
      have HSP := Lib.hid (fun (i : Nat) (hi : i < ns.length) => sizeP_at hr hs hi)
      obtain ⟨w2, hmk, hb2, hown⟩ := make_int w1 len (by omega)
      have B2 := Lib.hid hb2
      have HO0 := Lib.hid hown
      clear hr hs hb2 hown
      go_wp2_with fail
      clear hmk c1
      go_loopw [4] (fun iv wr => ∃ (i : Nat) (L : List Value), i ≤ len ∧ iv = .int .i64 i ∧ Hid (wr.ownsRow w1.heap.size 3 1 (.slice (some ⟨w1.heap.size, 0, none⟩) len len) len L) ∧ Hid (∀ j, j < len → L[j]? = some (.int .i64 ((cnt (kidsAt ns) j 0 i : Nat) : Int))) ∧ Hid (Below w1.heap.size w1 wr)) (fun iv _ => len - (intOf iv).toNat)
      case atStart => exact ⟨0, _, by omega, rfl, HO0, Lib.hid (fun j hj => by rw [List.getElem?_replicate, if_pos hj]; rfl), B2⟩
      case round =>
        obtain ⟨i, L, hil, rfl, HO, HL, HB⟩ := hrel
        have c0 : wr.cell? ⟨w.heap.size, 0, none⟩ = some (.slice p len c) := by rw [HB.out.cell hsz]; exact C1.out
        have HBW := Lib.hid (B1.out.trans (HB.out.mono (by omega)))
        by_cases hlt : i < len
        · obtain ⟨b, off, rfl, hbl, hc⟩ := H.out.node (by omega)
          obtain ⟨kp, kl, kc, hnw⟩ := hc i hlt
          have HNK := Lib.hid hnw
          have hix : i < ns.length := by have := hlen.out; omega
          have HIV : Hid (IV w kp kl kc (kidsAt ns i)) := Lib.hid hnw.iv
          have hkb := (HSM.out.each (ns.getD i default) (by simp [List.getD, hix])).1
          have hkl2 : kl ≤ 1000 := by have := hnw.iv.len_eq; omega
          have HKL : Hid ((kidsAt ns i).length = kl) := Lib.hid hnw.iv.len_eq
          have HSUM := Lib.hid (HSO.out.right.sum hix)
          have HSI := Lib.hid (HSO.out.right.size i hix)
          clear hnw hc hkb
          go_wp2_with fail
          obtain ⟨wo, rfl⟩ : ∃ wo : World, wo = wr := ⟨_, rfl⟩
          go_loopw [5, 6] (fun sv jv wq => ∃ (j : Nat) (L : List Value), j ≤ kl ∧ sv = .int .i64 ((1 + (((kidsAt ns i).take j).map fun k => s.getD k.toNat 0).sum : Nat) : Int) ∧ jv = .int .i64 j ∧ Hid (wq.ownsRow w1.heap.size 3 1 (.slice (some ⟨w1.heap.size, 0, none⟩) len len) len L) ∧ Hid (∀ x, x < len → L[x]? = some (.int .i64 ((cnt (kidsAt ns) x 0 i + ((kidsAt ns i).take j).count (x : Int) : Nat) : Int))) ∧ Hid (Below w1.heap.size w1 wq)) (fun _ jv _ => kl - (intOf jv).toNat)
          case atStart => exact ⟨0, L, by omega, by simp, rfl, HO, Lib.hid (fun x hx => by rw [HL.out x hx]; simp), HB⟩
          case round =>
            obtain ⟨wq, rfl⟩ : ∃ wq : World, wq = wr := ⟨_, rfl⟩
            clear c0 HO HL
            obtain ⟨j, L, hj, rfl, rfl, HO, HL, HQ⟩ := hrel
            have c0 : wq.cell? ⟨w.heap.size, 0, none⟩ = some (.slice (some ⟨b, off, none⟩) len c) := by rw [HQ.out.cell hsz]; exact C1.out
            have HWQ := Lib.hid (B1.out.trans (HQ.out.mono (by omega)))
            have k4 := (HNK.out.on hbl HWQ.out).kids
            by_cases hjl : j < kl
            · obtain ⟨kb, koff, rfl, hkbl, hkc⟩ := HIV.out.cell (by omega)
              have hkj := hkc j hjl
              rw [← HWQ.out.cell (p := ⟨kb, koff + j, none⟩) hkbl] at hkj
              have hjx : j < (kidsAt ns i).length := by rw [HKL.out]; exact hjl
              have hmem : (kidsAt ns i).getD j 0 ∈ kidsAt ns i := by simp [List.getD, hjx]
              obtain ⟨q, hq, hiq, _, hqn⟩ := HSO.out.right.kid hix hmem
              rw [hq] at hkj
              have hql : q < len := by have := hlen.out; omega
              have HTK : Hid ((kidsAt ns i).take (j + 1) = (kidsAt ns i).take j ++ [(q : Int)]) := Lib.hid (by
                rw [List.take_succ_eq_append_getElem hjx, ← hq]
                simp [List.getD, hjx])
              have d1 : decide ((q : Int) ≤ (i : Int)) = false := by simp; omega
              have d2 : decide ((q : Int) ≥ (len : Int)) = false := by simp; omega
              have HCW := Lib.hid (cnt_le_whole HSO.out.right HSO.out.whole HSO.out.pos q i hix)
              have HCT := Lib.hid ((List.take_sublist j (kidsAt ns i)).count_le (q : Int))
              have r1 := HO.out.cellAt q (by omega)
              rw [HL.out q hql] at r1
              have f1 := HO.out.frozenAt q
              have hLL : L.length = len := by have := HO.out.1; omega
              have HLL := Lib.hid hLL
              have HSTL := Lib.hid (sum_take_le (fun k => s.getD k.toNat 0) (kidsAt ns i) (j + 1))
              have HZ := Lib.hid (HSP.out q hqn)
              have HLX : Hid (∀ x, x < len → (L.set q (.int .i64 (((cnt (kidsAt ns) q 0 i + ((kidsAt ns i).take j).count (q : Int) : Nat) : Int) + 1)))[x]? = some (.int .i64 ((cnt (kidsAt ns) x 0 i + ((kidsAt ns i).take (j + 1)).count (x : Int) : Nat) : Int))) := Lib.hid (fun x hx => by
                rw [HTK.out, List.count_append]
                by_cases e : x = q
                · rw [e, List.getElem?_set_self (by omega)]
                  simp only [List.count_singleton_self]
                  congr 2
                · rw [List.getElem?_set_ne (fun h => e h.symm), HL.out x hx]
                  have h1 : ([(q : Int)]).count (x : Int) = 0 := by
                    rw [List.count_eq_zero]
                    simp only [List.mem_singleton]
                    omega
                  rw [h1, Nat.add_zero])
              have HSN : Hid ((((kidsAt ns i).take (j + 1)).map fun k => s.getD k.toNat 0).sum = (((kidsAt ns i).take j).map fun k => s.getD k.toNat 0).sum + s.getD q 0) := Lib.hid (by
                rw [HTK.out, List.map_append, List.sum_append]
                simp)
              have HSB : Hid (1 + (((kidsAt ns i).take j).map fun k => s.getD k.toNat 0).sum + s.getD q 0 ≤ len) := Lib.hid (by
                have h1 := HSTL.out
                rw [HSN.out] at h1
                have h2 := HSUM.out
                have h3 := HSI.out.2
                have h4 := hlen.out
                omega)
              have hcn : cnt (kidsAt ns) q 0 i + ((kidsAt ns i).take j).count (q : Int) ≤ 1 := by have := HCW.out; have := HCT.out; omega
              have HO1 := Lib.hid (HO.out.stored q (.int .i64 (((cnt (kidsAt ns) q 0 i + ((kidsAt ns i).take j).count (q : Int) : Nat) : Int) + 1))).1
              have HQ1 := Lib.hid (HQ.out.setCell (p := ⟨w1.heap.size, q, none⟩) (Nat.le_refl _) (.int .i64 (((cnt (kidsAt ns) q 0 i + ((kidsAt ns i).take j).count (q : Int) : Nat) : Int) + 1)))
              generalize cnt (kidsAt ns) q 0 i + ((kidsAt ns i).take j).count (q : Int) = cn at *
              have hw1 : IntKind.i64.wrap ((cn : Int) + 1) = (cn : Int) + 1 := IntWalk.i64_in _ (by omega)
              have c0' : (wq.setCell ⟨w1.heap.size, q, none⟩ (.int .i64 ((cn : Int) + 1))).cell? ⟨w.heap.size, 0, none⟩ = some (.slice (some ⟨b, off, none⟩) len c) := by
                rw [((But.refl w1.heap.size wq).set q _).cell (by simp; omega)]; exact c0
              have HW1 := Lib.hid (B1.out.trans (HQ1.out.mono (by omega)))
              have HSZ := Lib.hid (size_at (wq.setCell ⟨w1.heap.size, q, none⟩ (.int .i64 ((cn : Int) + 1))) (some ⟨b, off, none⟩) len c ns (q : Int) (H.out.on HW1.out) HSM.out)
              rw [HZ.out] at HSZ
              have hsb := HSB.out
              generalize s.getD q 0 = z at *
              generalize hsm : (((kidsAt ns i).take j).map fun k => s.getD k.toNat 0).sum = sm at *
              have HSM2 := Lib.hid hsm
              have hw2 : IntKind.i64.wrap (((1 + sm : Nat) : Int) + (z : Int)) = ((1 + sm : Nat) : Int) + (z : Int) := IntWalk.i64_in _ (by omega)
              obtain ⟨sm1, hsm1⟩ : ∃ t, 1 + sm = t := ⟨_, rfl⟩
              rw [hsm1] at hw2 hsb ⊢
              have HS1 := Lib.hid hsm1
              clear hkc hkbl hjx hmem hq hsm hsm1 hLL
              go_wp2_with fail
              (with_reducible refine HSZ.out.mono ?_)
              rintro e w5 ⟨rfl, hb⟩
              have HO5 := Lib.hid (own_below HO1.out hb)
              have HB5 := Lib.hid (HQ1.out.trans (hb.mono HQ1.out.size))
              clear hb HSZ
              go_wp2_with fail
              go_roundw
              case rel => exact ⟨j + 1, _, by omega, by rw [HSN.out, ← HS1.out]; go_num, by go_num, HO5, HLX, HB5⟩
              case measure => simp [intOf]; omega
            · have hje : j = kl := by omega
              have HTA : Hid ((kidsAt ns i).take j = kidsAt ns i) := Lib.hid (List.take_of_length_le (by rw [HKL.out]; omega))
              have HLA : Hid (∀ x, x < len → L[x]? = some (.int .i64 ((cnt (kidsAt ns) x 0 (i + 1) : Nat) : Int))) := Lib.hid (fun x hx => by
                rw [HL.out x hx, HTA.out]
                simp [cnt])
              have HZ := Lib.hid (HSP.out i hix)
              have HSZ := Lib.hid (size_at wq (some ⟨b, off, none⟩) len c ns (i : Int) (H.out.on HWQ.out) HSM.out)
              have HAH := Lib.hid (HSO.out.right.ahead HSO.out.whole i)
              rw [HZ.out] at HSZ
              have HSS : Hid (1 + (((kidsAt ns i).take j).map fun k => s.getD k.toNat 0).sum = s.getD i 0) := Lib.hid (by rw [HTA.out]; exact HSUM.out)
              rw [HSS.out]
              generalize s.getD i 0 = z at *
              have r1 := HO.out.cellAt i (by omega)
              rw [HLA.out i hlt] at r1
              have hil2 : (i : Int) < (len : Int) := by omega
              clear hje HL
              go_wp2_with fail
              (with_reducible refine HSZ.out.mono ?_)
              rintro e w5 ⟨rfl, hb⟩
              have r2 : w5.cell? ⟨w1.heap.size, i, none⟩ = some (.int .i64 ((cnt (kidsAt ns) i 0 (i + 1) : Nat) : Int)) := Aside.of hb _ _ r1
              have HO5 := Lib.hid (own_below HO.out hb)
              have HB5 := Lib.hid (HQ.out.trans (hb.mono HQ.out.size))
              clear hb HSZ r1 c0 k4
              by_cases hi0 : 0 < i
              · have dz : decide ((i : Int) > 0) = true := by simp; omega
                rw [HAH.out hi0 (by have := hlen.out; omega)] at r2
                go_wp2_with fail
                go_roundw
                case rel => exact ⟨i + 1, _, by omega, by go_num, HO5, HLA, HB5⟩
                case measure => simp [intOf]; omega
              · have dz : decide ((i : Int) > 0) = false := by simp; omega
                go_wp2_with fail
                go_roundw
                case rel => exact ⟨i + 1, _, by omega, by go_num, HO5, HLA, HB5⟩
                case measure => simp [intOf]; omega
        · have HZ : Hid (sizeP ns 0 = (len : Int)) := Lib.hid (by
            have h1 := HSP.out 0 HSO.out.pos
            have h2 := HSO.out.whole
            rw [h2, hlen.out] at h1
            exact h1)
          clear HL HO
          have HZC : Hid (∀ W', W'.cell? ⟨w.heap.size, 0, none⟩ = some (.slice p len c) → Below w.heap.size w W' → Calls Try.prog 15 #[.agg #[.slice p len c], .int .i64 0] W' fun e W'' => e = .returned (.int .i64 len) ∧ W''.cell? ⟨w.heap.size, 0, none⟩ = some (.slice p len c) ∧ Below w.heap.size w W'') := Lib.hid (fun W' q1 q2 =>
            (size_at W' p len c ns 0 (H.out.on q2) HSM.out).mono fun e W'' ⟨h1, h2⟩ => ⟨by rw [h1, HZ.out], Aside.of h2 _ _ q1, q2.trans (h2.mono q2.size)⟩)
          have HWC : Hid (∀ W', W'.cell? ⟨w.heap.size, 0, none⟩ = some (.slice p len c) → Below w.heap.size w W' → Calls Try.prog 9 #[] W' fun e W'' => e = .returned (.bool true) ∧ W''.cell? ⟨w.heap.size, 0, none⟩ = some (.slice p len c) ∧ Below w.heap.size w W'') := Lib.hid (fun W' q1 q2 =>
            (works_at W').mono fun e W'' ⟨h1, h2⟩ => ⟨h1, Aside.of h2 _ _ q1, q2.trans (h2.mono q2.size)⟩)
          have hbw := HBW.out
          have hbd : Below w.heap.size w wr.drew := hbw.drew
          go_wp2_with fail
          go_region_held3 (fun w' => w'.cell? ⟨w.heap.size, 0, none⟩ = some (.slice p len c) ∧ Below w.heap.size w w') (go_keep)
            (first
              | (go_at_call 15; (with_reducible refine (HZC.out _ ?_ ?_).mono ?_); (first | assumption | exact c0); (first | assumption | exact hbd); rintro e w' ⟨rfl, q1, q2⟩)
              | (go_at_call 9; (with_reducible refine (HWC.out _ ?_ ?_).mono ?_); (first | assumption | exact c0); (first | assumption | exact hbd); rintro e w' ⟨rfl, q1, q2⟩))
          all_goals go_wp2
          all_goals go_ret
          all_goals (refine ⟨rfl, ?_⟩; assumption)
end Go.Proofs.Ytijaelncmjcbmaa
