import Derived.Test.YtijaelncmjcbmaaTreeP
namespace Go.Proofs.Ytijaelncmjcbmaa
open Go.RowKit
theorem sameP_no {ns ms : List Nd} {i : Nat} (hi : i < ns.length) (h : sameNd (ns.getD i default) (ms.getD i default) = false) : sameP ns ms = false := by
  unfold sameP
  rw [range_all_no (fun i => sameNd (ns.getD i default) (ms.getD i default)) ns.length i hi h, Bool.and_false]
set_option maxHeartbeats 16000000 in
set_option maxRecDepth 1000000 in
theorem refSame_at (w : World) (p p2 : Option Addr) (len c len2 c2 : Nat) (ns ms : List Nd) (h : TV w p len c ns) (h2 : TV w p2 len2 c2 ms) (hS : Small ns) :
    Calls Try.prog 18 #[.slice p len c, .slice p2 len2 c2] w fun e w' => e = .returned (.bool (sameP ns ms)) ∧ Below w.heap.size w w' := by
  have hlen := Lib.hid h.len_eq
  have hlen2 := Lib.hid h2.len_eq
  have H := Lib.hid h
  have H2 := Lib.hid h2
  have HS := Lib.hid hS
  have hl1 : len ≤ 1000 := by rw [← h.len_eq]; exact hS.len
  clear h h2 hS
  by_cases hll : len = len2
  · have d0 : ((len : Int) != (len2 : Int)) = false := by simp [hll]
    have HLL := Lib.hid hll
    clear hll
    go_enter Try.func18, Try.ntmps18
    go_wp2_with fail
    clear d0
    go_loopw [5] (fun iv wr => ∃ j : Nat, j ≤ len ∧ iv = .int .i64 j ∧ Hid ((List.range j).all (fun i => sameNd (ns.getD i default) (ms.getD i default)) = true) ∧ Hid (Below w.heap.size w wr)) (fun iv _ => len - (intOf iv).toNat)
    case atStart => exact ⟨0, by omega, rfl, Lib.hid rfl, Lib.hid (Below.refl _ _)⟩
    case round =>
      obtain ⟨i, hi, rfl, HT, HB⟩ := hrel
      by_cases hil : i < len
      · obtain ⟨b, off, rfl, hbl, hc⟩ := (H.out.on HB.out).node (by omega)
        obtain ⟨b2, off2, rfl, hbl2, hc2⟩ := (H2.out.on HB.out).node (by have := HLL.out; omega)
        obtain ⟨kp, kl, kc, hn⟩ := hc i hil
        obtain ⟨kp2, kl2, kc2, hn2⟩ := hc2 i (by have := HLL.out; omega)
        have hix : i < ns.length := by have := hlen.out; omega
        have hkb := (HS.out.each (ns.getD i default) (by simp [List.getD, hix])).1
        have HSU : Hid ((List.range (i + 1)).all (fun i => sameNd (ns.getD i default) (ms.getD i default)) = ((List.range i).all (fun i => sameNd (ns.getD i default) (ms.getD i default)) && sameNd (ns.getD i default) (ms.getD i default))) := Lib.hid (range_all_succ _ i)
        have HNO : Hid (sameNd (ns.getD i default) (ms.getD i default) = false → sameP ns ms = false) := Lib.hid (fun h => sameP_no hix h)
        generalize ns.getD i default = a at *
        generalize ms.getD i default = e0 at *
        have k0 := hn.kind
        have k2 := hn.text
        have k3 := hn.n
        have k4 := hn.kids
        have m0 := hn2.kind
        have m2 := hn2.text
        have m3 := hn2.n
        have m4 := hn2.kids
        have b0 : (0 : Int) ≤ (i : Int) := by omega
        have b1 : (i : Int) < (len : Int) := by omega
        have b2' : (i : Int) < (len2 : Int) := by have := HLL.out; omega
        have HV1 := Lib.hid hn.iv
        have HV2 := Lib.hid hn2.iv
        have hkl : kl ≤ 1000 := by have := hn.iv.len_eq; omega
        have HBD : Hid (∀ n, Below w.heap.size w (wr.drewN n)) := Lib.hid (fun n => HB.out.trans (drewN_below _ _ _))
        have C0 := Lib.hid k4
        have C1 := Lib.hid m4
        clear hn hn2 hc hc2 hbl hbl2 hkb hix
        by_cases h1 : a.kind = e0.kind
        · have e1 : (a.kind != e0.kind) = false := by simpa using h1
          by_cases h2 : a.text = e0.text
          · have e2 : (a.text.toList == e0.text.toList) = true := by rw [text_eq]; simpa using h2
            have e2' : (a.text.toList != e0.text.toList) = false := by rw [bne, e2]; rfl
            by_cases h3 : a.n = e0.n
            · have e3 : (a.n != e0.n) = false := by simpa using h3
              by_cases h4 : kl = kl2
              · have e4 : ((kl : Int) != (kl2 : Int)) = false := by simp [h4]
                have HK4 := Lib.hid h4
                have HSK : Hid (sameNd a e0 = decide (a.kids = e0.kids)) := Lib.hid (by
                  unfold sameNd
                  rw [show (a.kind == e0.kind) = true by simpa using h1, decide_eq_true h2, show (a.n == e0.n) = true by simpa using h3]
                  rfl)
                clear h1 h2 h3 h4
                go_wp2_with fail
                go_quiet (fail)
                go_wp2_with fail
                clear k0 k2 k3 m0 m2 m3 e1 e2 e2' e3 e4
                obtain ⟨wo, rfl⟩ : ∃ wo : World, wo = wr := ⟨_, rfl⟩
                go_loopw [6] (fun jv wq => ∃ j : Nat, j ≤ kl ∧ jv = .int .i64 j ∧ Hid (a.kids.take j = e0.kids.take j) ∧ Hid (Below w.heap.size w wq ∧ Below wo.heap.size wo wq)) (fun jv _ => kl - (intOf jv).toNat)
                case atStart => exact ⟨0, by omega, rfl, Lib.hid rfl, Lib.hid ⟨HBD.out nq, drewN_below _ _ _⟩⟩
                case round =>
                  obtain ⟨wq, rfl⟩ : ∃ wq : World, wq = wr := ⟨_, rfl⟩
                  clear k4 m4
                  obtain ⟨j, hj, rfl, HTJ, HQ⟩ := hrel
                  have k4 := Aside.of HQ.out.2 _ _ C0.out
                  have m4 := Aside.of HQ.out.2 _ _ C1.out
                  by_cases hjl : j < kl
                  · obtain ⟨kb, koff, rfl, hkbl, hkc⟩ := (HV1.out.on HQ.out.2).cell (by omega)
                    obtain ⟨kb2, koff2, rfl, hkbl2, hkc2⟩ := (HV2.out.on HQ.out.2).cell (by have := HK4.out; omega)
                    have r1 := hkc j hjl
                    have r2 := hkc2 j (by have := HK4.out; omega)
                    have HTS : Hid (a.kids.getD j 0 = e0.kids.getD j 0 → a.kids.take (j + 1) = e0.kids.take (j + 1)) := Lib.hid (fun he => take_eq_succ HTJ.out (by have := HV1.out.len_eq; omega) (by have := HV2.out.len_eq; have := HK4.out; omega) he)
                    have HNE : Hid (a.kids.getD j 0 ≠ e0.kids.getD j 0 → sameNd a e0 = false) := Lib.hid (fun hne => by rw [HSK.out]; exact decide_eq_false (fun e => hne (by rw [e])))
                    generalize a.kids.getD j 0 = x at *
                    generalize e0.kids.getD j 0 = y at *
                    have c0 : (0 : Int) ≤ (j : Int) := by omega
                    have c1 : (j : Int) < (kl : Int) := by omega
                    have c2' : (j : Int) < (kl2 : Int) := by have := HK4.out; omega
                    have HQD : Hid (∀ n, Below w.heap.size w (wq.drewN n) ∧ Below wo.heap.size wo (wq.drewN n)) := Lib.hid (fun n => ⟨HQ.out.1.trans (drewN_below _ _ _), HQ.out.2.trans (drewN_below _ _ _)⟩)
                    clear hkc hkc2 hkbl hkbl2
                    by_cases hxy : x = y
                    · have d1 : (x != y) = false := by simp [hxy]
                      have HTJ2 := Lib.hid (HTS.out hxy)
                      clear hxy
                      go_wp2_with fail
                      go_quiet (fail)
                      go_wp2_with fail
                      go_roundw
                      case rel => exact ⟨j + 1, by omega, by go_num, HTJ2, Lib.hid (HQD.out nq)⟩
                      case measure => simp [intOf]; omega
                    · have d1 : (x != y) = true := by simpa using hxy
                      have HF : Hid (sameP ns ms = false) := Lib.hid (HNO.out (HNE.out hxy))
                      clear hxy
                      go_wp2_with fail
                      go_quiet (fail)
                      go_wp2
                      go_ret
                      exact ⟨retB HF.out.symm, (HQD.out nq).1⟩
                  · have hje : j = kl := by omega
                    have HTR : Hid (sameNd a e0 = true) := Lib.hid (by
                      have h1 := HTJ.out
                      rw [hje, List.take_of_length_le (by have := HV1.out.len_eq; omega), List.take_of_length_le (by have := HV2.out.len_eq; have := HK4.out; omega)] at h1
                      rw [HSK.out, h1]; simp)
                    have HT2 : Hid ((List.range (i + 1)).all (fun i => sameNd (ns.getD i default) (ms.getD i default)) = true) := Lib.hid (by rw [HSU.out, HT.out, HTR.out]; rfl)
                    have HBQ := Lib.hid HQ.out.1
                    clear hje
                    go_wp2_with fail
                    go_roundw
                    case rel => exact ⟨i + 1, by omega, by go_num, HT2, HBQ⟩
                    case measure => simp [intOf]; omega
              · have e4 : ((kl : Int) != (kl2 : Int)) = true := by simp; omega
                have HNK : Hid (a.kids ≠ e0.kids) := Lib.hid (fun e => h4 (by rw [← HV1.out.len_eq, ← HV2.out.len_eq, e]))
                have HF : Hid (sameP ns ms = false) := Lib.hid (HNO.out (by unfold sameNd; rw [decide_eq_false HNK.out]; simp))
                go_wp2_with fail
                go_quiet (fail)
                go_wp2
                go_ret
                exact ⟨retB HF.out.symm, HBD.out nq⟩
            · have e3 : (a.n != e0.n) = true := by simpa using h3
              have HN3 : Hid ((a.n == e0.n) = false) := Lib.hid (by simpa using h3)
              have HF : Hid (sameP ns ms = false) := Lib.hid (HNO.out (by unfold sameNd; rw [HN3.out]; simp))
              go_wp2_with fail
              go_quiet (fail)
              go_wp2
              go_ret
              exact ⟨retB HF.out.symm, HBD.out nq⟩
          · have e2 : (a.text.toList == e0.text.toList) = false := by rw [text_eq]; simpa using h2
            have e2' : (a.text.toList != e0.text.toList) = true := by rw [bne, e2]; rfl
            have HN2 : Hid (decide (a.text = e0.text) = false) := Lib.hid (decide_eq_false h2)
            have HF : Hid (sameP ns ms = false) := Lib.hid (HNO.out (by unfold sameNd; rw [HN2.out]; simp))
            go_wp2_with fail
            go_quiet (fail)
            go_wp2
            go_ret
            exact ⟨retB HF.out.symm, HBD.out nq⟩
        · have e1 : (a.kind != e0.kind) = true := by simpa using h1
          have HN1 : Hid ((a.kind == e0.kind) = false) := Lib.hid (by simpa using h1)
          have HF : Hid (sameP ns ms = false) := Lib.hid (HNO.out (by unfold sameNd; rw [HN1.out]; rfl))
          go_wp2_with fail
          go_quiet (fail)
          go_wp2
          go_ret
          exact ⟨retB HF.out.symm, HBD.out nq⟩
      · have HE : Hid (sameP ns ms = true) := Lib.hid (by
          have e : i = ns.length := by have := hlen.out; omega
          unfold sameP
          rw [← e, HT.out, decide_eq_true (by rw [e, hlen.out, hlen2.out, HLL.out])]
          rfl)
        go_wp2
        go_ret
        exact ⟨retB HE.out.symm, HB.out⟩
  · have d0 : ((len : Int) != (len2 : Int)) = true := by simp; omega
    have HNO : Hid (sameP ns ms = false) := Lib.hid (by unfold sameP; rw [decide_eq_false (by rw [hlen.out, hlen2.out]; exact hll)]; rfl)
    clear hll
    go_enter Try.func18, Try.ntmps18
    go_wp2
    go_ret
    exact ⟨retB HNO.out.symm, Below.refl _ _⟩
end Go.Proofs.Ytijaelncmjcbmaa
