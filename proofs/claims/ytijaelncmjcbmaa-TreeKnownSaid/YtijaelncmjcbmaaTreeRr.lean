import Derived.Test.YtijaelncmjcbmaaTreeKd
import Derived.Test.YtijaelncmjcbmaaTreeKe
import Derived.Test.YtijaelncmjcbmaaTreeEn
import Derived.Test.YtijaelncmjcbmaaTreeDr
import Derived.Deep.RegionHeld3
namespace Go.Proofs.Ytijaelncmjcbmaa
open Go.RowKit
theorem rightR_parts (ns : List Nd) (h1 : 0 < ns.length) (h2 : kindAt ns 0 = 1) (h3 : aheadR ns = true) (h4 : endK (kidsAt ns) ns.length ns.length 0 = ns.length) : rightR ns = ns.all (nodeR ns) := by
  unfold rightR
  rw [decide_eq_true h1, h2, h3, decide_eq_true h4]
  simp
theorem rightR_ahead {ns : List Nd} {i : Nat} (hi : i < ns.length) {k : Int} (hk : k ∈ kidsAt ns i) (h : ¬ ((i : Int) < k ∧ k < ns.length)) : rightR ns = false := by
  have : aheadR ns = false := by
    unfold aheadR
    rw [List.all_eq_false]
    refine ⟨i, List.mem_range.2 hi, ?_⟩
    rw [Bool.not_eq_true, List.all_eq_false]
    refine ⟨k, hk, ?_⟩
    simp only [Bool.and_eq_true, decide_eq_true_eq]
    exact h
  unfold rightR
  rw [this]; simp
theorem ahead_of {ns : List Nd} (h : ∀ i, i < ns.length → ∀ k ∈ kidsAt ns i, (i : Int) < k ∧ k < ns.length) : aheadR ns = true := by
  unfold aheadR
  rw [List.all_eq_true]
  intro i hi
  rw [List.all_eq_true]
  intro k hk
  simp only [Bool.and_eq_true, decide_eq_true_eq]
  exact h i (List.mem_range.1 hi) k hk
set_option maxHeartbeats 16000000 in
set_option maxRecDepth 1000000 in
theorem refRight_at (w : World) (p : Option Addr) (len c : Nat) (ns : List Nd) (h : TV w p len c ns) (hS : Small ns) :
    Calls Try.prog 12 #[.slice p len c] w fun e w' => e = .returned (.bool (rightR ns)) ∧ Below w.heap.size w w' := by
  have hlen := Lib.hid h.len_eq
  have H := Lib.hid h
  have HS := Lib.hid hS
  have hl1 : len ≤ 1000 := by rw [← h.len_eq]; exact hS.len
  clear h hS
  by_cases hz : len = 0
  · have d0 : ((len : Int) == 0) = true := by simp [hz]
    have HF : Hid (rightR ns = false) := Lib.hid (by unfold rightR; rw [decide_eq_false (by rw [hlen.out]; omega)]; rfl)
    clear hz
    go_enter Try.func12, Try.ntmps12
    go_wp2
    go_ret
    exact ⟨retB HF.out.symm, Below.refl _ _⟩
  · have d0 : ((len : Int) == 0) = false := by simp; omega
    have hpos : 0 < len := by omega
    have hposI : (0 : Int) < (len : Int) := by omega
    obtain ⟨b, off, rfl, hbl, hc⟩ := H.out.node hpos
    obtain ⟨_, _, _, hn0⟩ := hc 0 hpos
    have r0 : w.cell? ⟨b, off, none⟩ = some (.int .u8 (kindAt ns 0)) := by have := hn0.kind; simpa [kindAt] using this
    have HC := Lib.hid hc
    clear hn0 hc hz
    by_cases h1 : kindAt ns 0 = 1
    · have HK1 := Lib.hid h1
      rw [h1] at r0
      clear h1
      go_enter Try.func12, Try.ntmps12
      go_wp2_with fail
      clear r0 d0
      go_loop [3] (fun iv => ∃ i : Nat, i ≤ len ∧ iv = .int .i64 i ∧ Hid (∀ x, x < i → ∀ k ∈ kidsAt ns x, (x : Int) < k ∧ k < ns.length)) (fun iv => len - (intOf iv).toNat)
      case atStart => exact ⟨0, by omega, rfl, Lib.hid (fun x hx => absurd hx (by omega))⟩
      case round =>
        obtain ⟨i, hi, rfl, HA⟩ := hrel
        by_cases hil : i < len
        · obtain ⟨kp, kl, kc, hn⟩ := HC.out i hil
          have k4 := hn.kids
          have HIV : Hid (IV w kp kl kc (kidsAt ns i)) := Lib.hid hn.iv
          have hix : i < ns.length := by have := hlen.out; omega
          have hkl : kl ≤ 1000 := by
            have h1 := (HS.out.each (ns.getD i default) (by simp [List.getD, hix])).1
            have := hn.iv.len_eq
            omega
          clear hn
          go_wp2_with fail
          go_loop [4] (fun jv => ∃ j : Nat, j ≤ kl ∧ jv = .int .i64 j ∧ Hid (∀ k ∈ (kidsAt ns i).take j, (i : Int) < k ∧ k < ns.length)) (fun jv => kl - (intOf jv).toNat)
          case atStart => exact ⟨0, by omega, rfl, Lib.hid (fun k hk => by simp at hk)⟩
          case round =>
            obtain ⟨j, hj, rfl, HJ⟩ := hrel
            by_cases hjl : j < kl
            · obtain ⟨kb, koff, rfl, _, hkc⟩ := HIV.out.cell (by omega)
              have hkj := hkc j hjl
              have hjx : j < (kidsAt ns i).length := by have := HIV.out.len_eq; omega
              have hmem : (kidsAt ns i).getD j 0 ∈ kidsAt ns i := by simp [List.getD, hjx]
              have HTK : Hid ((kidsAt ns i).take (j + 1) = (kidsAt ns i).take j ++ [(kidsAt ns i).getD j 0]) := Lib.hid (by
                rw [List.take_succ_eq_append_getElem hjx]
                simp [List.getD, hjx])
              have BAD : ¬ ((i : Int) < (kidsAt ns i).getD j 0 ∧ (kidsAt ns i).getD j 0 < ns.length) → Hid (rightR ns = false) := fun hb => Lib.hid (rightR_ahead hix hmem hb)
              generalize (kidsAt ns i).getD j 0 = x at *
              clear hkc hjx hmem
              by_cases hx1 : x ≤ (i : Int)
              · have e1 : decide (x ≤ (i : Int)) = true := by simpa using hx1
                have HB := BAD (by omega)
                clear BAD hx1
                go_wp2
                go_ret
                exact ⟨retB HB.out.symm, Below.refl _ _⟩
              · have e1 : decide (x ≤ (i : Int)) = false := by simpa using hx1
                by_cases hx2 : x < (len : Int)
                · have e2 : decide (x ≥ (len : Int)) = false := by simpa using hx2
                  have HJ2 : Hid (∀ k ∈ (kidsAt ns i).take (j + 1), (i : Int) < k ∧ k < ns.length) := Lib.hid (fun k hk => by
                    rw [HTK.out, List.mem_append, List.mem_singleton] at hk
                    rcases hk with hk | rfl
                    · exact HJ.out k hk
                    · rw [hlen.out]; omega)
                  clear BAD hx1 hx2
                  go_wp2_with fail
                  go_round
                  case rel => exact ⟨j + 1, by omega, by go_num, HJ2⟩
                  case measure => simp [intOf]; omega
                · have e2 : decide (x ≥ (len : Int)) = true := by simp; omega
                  have HB := BAD (by rw [hlen.out]; omega)
                  clear BAD hx1 hx2
                  go_wp2
                  go_ret
                  exact ⟨retB HB.out.symm, Below.refl _ _⟩
            · have HA2 : Hid (∀ x, x < i + 1 → ∀ k ∈ kidsAt ns x, (x : Int) < k ∧ k < ns.length) := Lib.hid (fun x hx k hk => by
                by_cases e : x = i
                · subst e
                  exact HJ.out k (by rw [List.take_of_length_le (by have := HIV.out.len_eq; omega)]; exact hk)
                · exact HA.out x (by omega) k hk)
              go_wp2_with fail
              go_round
              case rel => exact ⟨i + 1, by omega, by go_num, HA2⟩
              case measure => simp [intOf]; omega
        · have HAH : Hid (aheadR ns = true) := Lib.hid (ahead_of (fun x hx => HA.out x (by have := hlen.out; omega)))
          have HKR : Hid (∀ nd ∈ ns, ∀ k ∈ nd.kids, 0 ≤ k ∧ k < len) := Lib.hid (fun nd hm k hk => by
            obtain ⟨x, hx⟩ := List.mem_iff_getElem?.1 hm
            obtain ⟨hxl, _⟩ := List.getElem?_eq_some_iff.1 hx
            have hk2 : k ∈ kidsAt ns x := by unfold kidsAt; rw [List.getD, hx]; exact hk
            have := HA.out x (by have := hlen.out; omega) k hk2
            rw [hlen.out] at this
            omega)
          have HEC := Lib.hid (refEnd_at w (some ⟨b, off, none⟩) len c ns H.out hl1 (fun nd hm => (HS.out.each nd hm).1) len 0 (by omega) (by omega))
          have HEN : Hid (endK (kidsAt ns) ns.length ns.length 0 = endK (kidsAt ns) len len 0) := Lib.hid (by rw [hlen.out])
          generalize endK (kidsAt ns) len len 0 = en at *
          clear HA
          have HEC2 : Hid (Calls Try.prog 24 #[.slice (some ⟨b, off, none⟩) len c, .int .i64 0] w fun e w' => e = .returned (.int .i64 en) ∧ w' = w) := HEC
          clear HEC
          go_wp2_with fail
          (with_reducible refine HEC2.out.mono ?_)
          rintro e w1 ⟨rfl, rfl⟩
          clear HEC2
          by_cases hen : en = (len : Int)
          · have e1 : (en != (len : Int)) = false := by simp [hen]
            have HALL : Hid (rightR ns = ns.all (nodeR ns)) := Lib.hid (rightR_parts ns (by rw [hlen.out]; exact hpos) HK1.out HAH.out (by rw [HEN.out, hen, hlen.out]))
            clear hen
            go_wp2_with fail
            clear e1
            go_loopw [5] (fun iv wr => ∃ i : Nat, i ≤ len ∧ iv = .int .i64 i ∧ Hid ((ns.take i).all (nodeR ns) = true) ∧ Hid (Below w1.heap.size w1 wr)) (fun iv _ => len - (intOf iv).toNat)
            case atStart => exact ⟨0, by omega, rfl, Lib.hid rfl, Lib.hid (Below.refl _ _)⟩
            case round =>
              obtain ⟨i, hi, rfl, HT, HB⟩ := hrel
              by_cases hil : i < len
              · obtain ⟨kp, kl, kc, hn⟩ := HC.out i hil
                obtain ⟨nd, hnd⟩ : ∃ nd, ns.getD i default = nd := ⟨_, rfl⟩
                rw [hnd] at hn
                have hix : i < ns.length := by have := hlen.out; omega
                have HMEM : Hid (nd ∈ ns) := Lib.hid (by rw [← hnd]; simp [List.getD, hix])
                have HN := Lib.hid hn
                have HIV : Hid (IV w1 kp kl kc nd.kids) := Lib.hid hn.iv
                have hkl : kl ≤ 1000 := by
                  have h1 := (HS.out.each nd HMEM.out).1
                  have := hn.iv.len_eq
                  omega
                have CELLS : Hid (∀ W', Below w1.heap.size w1 W' → NC W' b (off + i * 5) nd kp kl kc) := Lib.hid (fun W' hb => HN.out.on hbl hb)
                have HNF : Hid (nodeR ns nd = false → rightR ns = false) := Lib.hid (fun hf => by
                  rw [HALL.out, List.all_eq_false]
                  exact ⟨nd, HMEM.out, by rw [hf]; simp⟩)
                have HTT : Hid (nodeR ns nd = true → (ns.take (i + 1)).all (nodeR ns) = true) := Lib.hid (fun ht => by
                  have e : ns.take (i + 1) = ns.take i ++ [nd] := by
                    rw [List.take_succ_eq_append_getElem hix, ← hnd]
                    simp [List.getD, hix]
                  rw [e, List.all_append, HT.out]
                  simp [ht])
                obtain ⟨l, hl0⟩ : ∃ l, kindsOf ns nd = l := ⟨_, rfl⟩
                have hll : l.length ≤ 1000 := by rw [← hl0]; unfold kindsOf; rw [List.length_map]; exact (HS.out.each nd HMEM.out).1
                obtain ⟨wb, hwb⟩ : ∃ x, wordsR nd = x := ⟨_, rfl⟩
                obtain ⟨kb, hkb⟩ : ∃ x, kidsR nd.kind l = x := ⟨_, rfl⟩
                have HNR : Hid (nodeR ns nd = (decide (1 ≤ nd.kind) && (decide (nd.kind ≤ 26) && (wb && kb)))) := Lib.hid (by unfold nodeR; rw [hl0, hwb, hkb])
                have WC : Hid (∀ W', Below w1.heap.size w1 W' → Calls Try.prog 25 #[(.agg #[.int .u8 nd.kind, .int .i64 nd.at', .string nd.text, .int .i64 nd.n, .slice kp kl kc])] W' fun e w'' => e = .returned (.bool wb) ∧ w''.cell? ⟨b, off + i * 5, none⟩ = some (.int .u8 nd.kind) ∧ w''.cell? ⟨b, off + i * 5 + 1, none⟩ = some (.int .i64 nd.at') ∧ w''.cell? ⟨b, off + i * 5 + 2, none⟩ = some (.string nd.text) ∧ w''.cell? ⟨b, off + i * 5 + 3, none⟩ = some (.int .i64 nd.n) ∧ w''.cell? ⟨b, off + i * 5 + 4, none⟩ = some (.slice kp kl kc) ∧ Below w1.heap.size w1 w'') := Lib.hid (fun W' hb => by
                  rw [← hwb]
                  refine (refWords_at W' nd kp kl kc (HS.out.each nd HMEM.out).2).mono fun e w'' ⟨he, h2⟩ => ?_
                  have hb2 := hb.trans (h2.mono hb.size)
                  have hn2 := CELLS.out w'' hb2
                  exact ⟨he, hn2.kind, hn2.at', hn2.text, hn2.n, hn2.kids, hb2⟩)
                have KC : Hid (∀ W', Below w1.heap.size w1 W' → Calls Try.prog 27 #[.slice (some ⟨b, off, none⟩) len c, (.agg #[.int .u8 nd.kind, .int .i64 nd.at', .string nd.text, .int .i64 nd.n, .slice kp kl kc])] W' fun e w'' => ∃ pv cv, e = .returned (.slice pv l.length cv) ∧ BV w'' pv l.length cv l ∧ w''.cell? ⟨b, off + i * 5, none⟩ = some (.int .u8 nd.kind) ∧ w''.cell? ⟨b, off + i * 5 + 1, none⟩ = some (.int .i64 nd.at') ∧ w''.cell? ⟨b, off + i * 5 + 2, none⟩ = some (.string nd.text) ∧ w''.cell? ⟨b, off + i * 5 + 3, none⟩ = some (.int .i64 nd.n) ∧ w''.cell? ⟨b, off + i * 5 + 4, none⟩ = some (.slice kp kl kc) ∧ Below w1.heap.size w1 w'') := Lib.hid (fun W' hb => by
                  refine (refKinds_at W' (some ⟨b, off, none⟩) len c ns nd kp kl kc (H.out.on hb) (HIV.out.on hb) hkl (HKR.out nd HMEM.out)).mono fun e w'' ⟨⟨pv, cv, he, hbv⟩, h2⟩ => ?_
                  have hb2 := hb.trans (h2.mono hb.size)
                  have hn2 := CELLS.out w'' hb2
                  rw [hl0] at he hbv
                  exact ⟨pv, cv, he, hbv, hn2.kind, hn2.at', hn2.text, hn2.n, hn2.kids, hb2⟩)
                have DC : Hid (∀ W' pv cv, BV W' pv l.length cv l → Below w1.heap.size w1 W' → Calls Try.prog 26 #[.int .u8 nd.kind, .slice pv l.length cv] W' fun e w'' => e = .returned (.bool kb) ∧ w''.cell? ⟨b, off + i * 5, none⟩ = some (.int .u8 nd.kind) ∧ w''.cell? ⟨b, off + i * 5 + 1, none⟩ = some (.int .i64 nd.at') ∧ w''.cell? ⟨b, off + i * 5 + 2, none⟩ = some (.string nd.text) ∧ w''.cell? ⟨b, off + i * 5 + 3, none⟩ = some (.int .i64 nd.n) ∧ w''.cell? ⟨b, off + i * 5 + 4, none⟩ = some (.slice kp kl kc) ∧ Below w1.heap.size w1 w'') := Lib.hid (fun W' pv cv hbv hb => by
                  rw [← hkb]
                  refine (refKids_at W' nd.kind pv l.length cv l hbv hll).mono fun e w'' ⟨he, h2⟩ => ?_
                  have hb2 := hb.trans (h2.mono hb.size)
                  have hn2 := CELLS.out w'' hb2
                  exact ⟨he, hn2.kind, hn2.at', hn2.text, hn2.n, hn2.kids, hb2⟩)
                have hC := CELLS.out wr HB.out
                have k0 := hC.kind
                have k1 := hC.at'
                have k2 := hC.text
                have k3 := hC.n
                have k4 := hC.kids
                have hilI : (i : Int) < (len : Int) := by omega
                have hi0 : (0 : Int) ≤ (i : Int) := by omega
                clear hn hC hnd hl0 hwb hkb hix
                by_cases hk1 : nd.kind < 1
                · have e1 : decide (nd.kind < 1) = true := by simpa using hk1
                  have HF : Hid (rightR ns = false) := Lib.hid (HNF.out (by rw [HNR.out, decide_eq_false (by omega)]; rfl))
                  clear hk1
                  go_wp2_with fail
                  go_quiet (fail)
                  go_wp2
                  go_ret
                  exact ⟨retB HF.out.symm, HB.out.trans (drewN_below _ _ _)⟩
                · have e1 : decide (nd.kind < 1) = false := by simpa using hk1
                  by_cases hk2 : nd.kind > 26
                  · have e2 : decide (nd.kind > 26) = true := by simpa using hk2
                    have HF : Hid (rightR ns = false) := Lib.hid (HNF.out (by rw [HNR.out, decide_eq_false (show ¬ nd.kind ≤ 26 by omega)]; simp))
                    clear hk1 hk2
                    go_wp2_with fail
                    go_quiet (fail)
                    go_wp2
                    go_ret
                    exact ⟨retB HF.out.symm, HB.out.trans (drewN_below _ _ _)⟩
                  · have e2 : decide (nd.kind > 26) = false := by simpa using hk2
                    have HNR2 : Hid (nodeR ns nd = (wb && kb)) := Lib.hid (by rw [HNR.out, decide_eq_true (show 1 ≤ nd.kind by omega), decide_eq_true (show nd.kind ≤ 26 by omega)]; simp)
                    have hbd : Below w1.heap.size w1 wr.drew := HB.out.drew
                    have hbw : Below w1.heap.size w1 wr := HB.out
                    clear hk1 hk2 HNR
                    cases wb with
                    | false =>
                      have HF : Hid (rightR ns = false) := Lib.hid (HNF.out (by rw [HNR2.out]; rfl))
                      clear HNR2 HTT
                      go_wp2_with fail
                      refine wp_region_held_drew (S := fun w' => w'.cell? ⟨b, off + i * 5, none⟩ = some (.int .u8 nd.kind) ∧ w'.cell? ⟨b, off + i * 5 + 1, none⟩ = some (.int .i64 nd.at') ∧ w'.cell? ⟨b, off + i * 5 + 2, none⟩ = some (.string nd.text) ∧ w'.cell? ⟨b, off + i * 5 + 3, none⟩ = some (.int .i64 nd.n) ∧ w'.cell? ⟨b, off + i * 5 + 4, none⟩ = some (.slice kp kl kc) ∧ Below w1.heap.size w1 w') (by kernel_rfl) ⟨k0, k1, k2, k3, k4, hbd⟩ (fun hHeld => ?_)
                      refine wpAnyH_take (i := 0) (v := ?_) rfl (by kernel_rfl) (by kernel_rfl) (by kernel_rfl) (fun _ _ _ h => h) (Or.inl ⟨by rfl, ?_⟩) hHeld ?_
                      rotate_left
                      · (intro w hSw; (try dsimp only at hSw); go_simp; try with_reducible rfl)
                      (try simp only [Act.put, List.getElem_toArray, List.getElem_cons_zero, List.setIfInBounds_toArray, List.set_cons_zero, List.set_cons_succ])
                      refine wpAnyH_take (i := 1) (v := ?_) rfl (by kernel_rfl) (by kernel_rfl) (by kernel_rfl) (fun _ _ _ h => h) (Or.inl ⟨by rfl, ?_⟩) hHeld ?_
                      rotate_left
                      · (intro w hSw; (try dsimp only at hSw); go_simp; try with_reducible rfl)
                      (try simp only [Act.put, List.getElem_toArray, List.getElem_cons_zero, List.getElem_cons_succ, List.setIfInBounds_toArray, List.set_cons_zero, List.set_cons_succ])
                      refine wpAnyH_take (i := 2) (v := ?_) rfl (by kernel_rfl) (by kernel_rfl) (by kernel_rfl) (fun _ _ _ h => h) (Or.inl ⟨by rfl, ?_⟩) hHeld ?_
                      rotate_left
                      · (intro w hSw; (try dsimp only at hSw); go_simp; try with_reducible rfl)
                      (try simp only [Act.put, List.getElem_toArray, List.getElem_cons_zero, List.getElem_cons_succ, List.setIfInBounds_toArray, List.set_cons_zero, List.set_cons_succ])
                      refine wpAnyH_take (i := 3) (v := ?_) rfl (by kernel_rfl) (by kernel_rfl) (by kernel_rfl) (fun _ _ _ h => h) (Or.inl ⟨by rfl, ?_⟩) hHeld ?_
                      rotate_left
                      · (intro w hSw; (try dsimp only at hSw); go_simp; try with_reducible rfl)
                      (try simp only [Act.put, List.getElem_toArray, List.getElem_cons_zero, List.getElem_cons_succ, List.setIfInBounds_toArray, List.set_cons_zero, List.set_cons_succ])
                      refine wpAnyH_take (i := 4) (v := ?_) rfl (by kernel_rfl) (by kernel_rfl) (by kernel_rfl) (fun _ _ _ h => h) (Or.inl ⟨by rfl, ?_⟩) hHeld ?_
                      rotate_left
                      · (intro w hSw; (try dsimp only at hSw); go_simp; try with_reducible rfl)
                      (try simp only [Act.put, List.getElem_toArray, List.getElem_cons_zero, List.getElem_cons_succ, List.setIfInBounds_toArray, List.set_cons_zero, List.set_cons_succ])
                      refine wpAnyH_take (i := 5) (v := ?_) rfl (by kernel_rfl) (by kernel_rfl) (by kernel_rfl) (fun _ _ _ h => h) (Or.inl ⟨by rfl, ?_⟩) hHeld ?_
                      rotate_left
                      · (intro w hSw; (try dsimp only at hSw); go_simp; try with_reducible rfl)
                      (try simp only [Act.put, List.getElem_toArray, List.getElem_cons_zero, List.getElem_cons_succ, List.setIfInBounds_toArray, List.set_cons_zero, List.set_cons_succ])
                      refine wpAnyH_take (i := 6) (v := ?_) rfl (by kernel_rfl) (by kernel_rfl) (by kernel_rfl) (fun _ _ _ h => h) (Or.inl ⟨by rfl, ?_⟩) hHeld ?_
                      rotate_left
                      · (intro w hSw; (try dsimp only at hSw); go_simp; try with_reducible rfl)
                      (try simp only [Act.put, List.getElem_toArray, List.getElem_cons_zero, List.getElem_cons_succ, List.setIfInBounds_toArray, List.set_cons_zero, List.set_cons_succ])
                      refine wpAnyH_take (i := 7) (v := ?_) rfl (by kernel_rfl) (by kernel_rfl) (by kernel_rfl) (fun _ _ _ h => h) (Or.inl ⟨by rfl, ?_⟩) hHeld ?_
                      rotate_left
                      · (intro w hSw; (try dsimp only at hSw); go_simp; try with_reducible rfl)
                      (try simp only [Act.put, List.getElem_toArray, List.getElem_cons_zero, List.getElem_cons_succ, List.setIfInBounds_toArray, List.set_cons_zero, List.set_cons_succ])
                      refine wpAnyH_take (i := 8) (v := ?_) rfl (by kernel_rfl) (by kernel_rfl) (by kernel_rfl) (fun _ _ _ h => h) (Or.inl ⟨by rfl, ?_⟩) hHeld ?_
                      rotate_left
                      · (intro w hSw; (try dsimp only at hSw); go_simp; try with_reducible rfl)
                      (try simp only [Act.put, List.getElem_toArray, List.getElem_cons_zero, List.getElem_cons_succ, List.setIfInBounds_toArray, List.set_cons_zero, List.set_cons_succ])
                      refine wpAnyH_take (i := 9) (v := ?_) rfl (by kernel_rfl) (by kernel_rfl) (by kernel_rfl) (fun _ _ _ h => h) (Or.inl ⟨by rfl, ?_⟩) hHeld ?_
                      rotate_left
                      · (intro w hSw; (try dsimp only at hSw); go_simp; try with_reducible rfl)
                      (try simp only [Act.put, List.getElem_toArray, List.getElem_cons_zero, List.getElem_cons_succ, List.setIfInBounds_toArray, List.set_cons_zero, List.set_cons_succ])
                      refine wpAnyH_take (i := 10) (v := ?_) rfl (by kernel_rfl) (by kernel_rfl) (by kernel_rfl) (fun _ _ _ h => h) (Or.inl ⟨by rfl, ?_⟩) hHeld ?_
                      rotate_left
                      · (intro w hSw; (try dsimp only at hSw); go_simp; try with_reducible rfl)
                      (try simp only [Act.put, List.getElem_toArray, List.getElem_cons_zero, List.getElem_cons_succ, List.setIfInBounds_toArray, List.set_cons_zero, List.set_cons_succ])
                      refine wpAnyH_take (i := 11) (v := ?_) rfl (by kernel_rfl) (by kernel_rfl) (by kernel_rfl) (fun _ _ _ h => h) (Or.inl ⟨by rfl, ?_⟩) hHeld ?_
                      rotate_left
                      · (intro w hSw; (try dsimp only at hSw); go_simp; try with_reducible rfl)
                      (try simp only [Act.put, List.getElem_toArray, List.getElem_cons_zero, List.getElem_cons_succ, List.setIfInBounds_toArray, List.set_cons_zero, List.set_cons_succ])
                      refine wpAnyH_take (i := 12) (v := ?_) rfl (by kernel_rfl) (by kernel_rfl) (by kernel_rfl) (fun _ _ _ h => h) (Or.inl ⟨by rfl, ?_⟩) hHeld ?_
                      rotate_left
                      · (intro w hSw; (try dsimp only at hSw); go_simp; try with_reducible rfl)
                      (try simp only [Act.put, List.getElem_toArray, List.getElem_cons_zero, List.getElem_cons_succ, List.setIfInBounds_toArray, List.set_cons_zero, List.set_cons_succ])
                      refine wpAnyH_take (i := 13) (v := ?_) rfl (by kernel_rfl) (by kernel_rfl) (by kernel_rfl) (fun _ _ _ h => h) (Or.inl ⟨by rfl, ?_⟩) hHeld ?_
                      rotate_left
                      · (intro w hSw; (try dsimp only at hSw); go_simp; try with_reducible rfl)
                      (try simp only [Act.put, List.getElem_toArray, List.getElem_cons_zero, List.getElem_cons_succ, List.setIfInBounds_toArray, List.set_cons_zero, List.set_cons_succ])
                      refine wpAnyH_take (i := 14) (v := ?_) rfl (by kernel_rfl) (by kernel_rfl) (by kernel_rfl) (fun _ _ _ h => h) (Or.inl ⟨by rfl, ?_⟩) hHeld ?_
                      rotate_left
                      · (intro w hSw; (try dsimp only at hSw); go_simp; try with_reducible rfl)
                      (try simp only [Act.put, List.getElem_toArray, List.getElem_cons_zero, List.getElem_cons_succ, List.setIfInBounds_toArray, List.set_cons_zero, List.set_cons_succ])
                      refine wpAnyH_take (i := 15) (v := ?_) rfl (by kernel_rfl) (by kernel_rfl) (by kernel_rfl) (fun _ _ _ h => h) (Or.inl ⟨by rfl, ?_⟩) hHeld ?_
                      rotate_left
                      · (intro w hSw; (try dsimp only at hSw); go_simp; try with_reducible rfl)
                      (try simp only [Act.put, List.getElem_toArray, List.getElem_cons_zero, List.getElem_cons_succ, List.setIfInBounds_toArray, List.set_cons_zero, List.set_cons_succ])
                      refine wpAnyH_take (i := 16) (v := ?_) rfl (by kernel_rfl) (by kernel_rfl) (by kernel_rfl) (fun _ _ _ h => h) (Or.inl ⟨by rfl, ?_⟩) hHeld ?_
                      rotate_left
                      · (intro w hSw; (try dsimp only at hSw); go_simp; try with_reducible rfl)
                      (try simp only [Act.put, List.getElem_toArray, List.getElem_cons_zero, List.getElem_cons_succ, List.setIfInBounds_toArray, List.set_cons_zero, List.set_cons_succ])
                      refine wpAnyH_take (i := 17) (v := ?_) rfl (by kernel_rfl) (by kernel_rfl) (by kernel_rfl) (fun _ _ _ h => h) (Or.inl ⟨by rfl, ?_⟩) hHeld ?_
                      rotate_left
                      · (intro w hSw; (try dsimp only at hSw); go_simp; try with_reducible rfl)
                      (try simp only [Act.put, List.getElem_toArray, List.getElem_cons_zero, List.getElem_cons_succ, List.setIfInBounds_toArray, List.set_cons_zero, List.set_cons_succ])
                      refine wpAnyH_take (i := 18) (v := ?_) rfl (by kernel_rfl) (by kernel_rfl) (by kernel_rfl) (fun _ _ _ h => h) (Or.inl ⟨by rfl, ?_⟩) hHeld ?_
                      rotate_left
                      · (intro w hSw; (try dsimp only at hSw); go_simp; try with_reducible rfl)
                      (try simp only [Act.put, List.getElem_toArray, List.getElem_cons_zero, List.getElem_cons_succ, List.setIfInBounds_toArray, List.set_cons_zero, List.set_cons_succ])
                      refine wpAnyH_ready (rs := [19]) (by kernel_rfl) (by simp) ?_
                      refine AllReadyH.cons rfl (fun K hK => ?_) AllReadyH.nil
                      go_simp
                      go_at_call 25
                      (with_reducible refine (WC.out _ ?_).mono ?_)
                      · (first | assumption | exact hHeld.2.2.2.2.2)
                      rintro e w' ⟨rfl, q0, q1, q2, q3, q4, q5⟩
                      go_simp
                      refine hK.out _ _ ⟨q0, q1, q2, q3, q4, q5⟩ (fun hHeld => ?_)
                      clear hK K
                      (try simp only [Act.put, List.getElem_toArray, List.getElem_cons_zero, List.getElem_cons_succ, List.setIfInBounds_toArray, List.set_cons_zero, List.set_cons_succ])
                      refine wpAnyH_take (i := 20) (v := ?_) rfl (by kernel_rfl) (by kernel_rfl) (by kernel_rfl) (fun _ _ _ h => h) (Or.inl ⟨by rfl, ?_⟩) hHeld ?_
                      rotate_left
                      · (intro w hSw; (try dsimp only at hSw); go_simp; try with_reducible rfl)
                      (try simp only [Act.put, List.getElem_toArray, List.getElem_cons_zero, List.getElem_cons_succ, List.setIfInBounds_toArray, List.set_cons_zero, List.set_cons_succ])
                      refine wpAnyH_take (i := 21) (v := ?_) rfl (by kernel_rfl) (by kernel_rfl) (by kernel_rfl) (fun _ _ _ h => h) (Or.inl ⟨by rfl, ?_⟩) hHeld ?_
                      rotate_left
                      · (intro w hSw; (try dsimp only at hSw); go_simp; try with_reducible rfl)
                      (try simp only [Act.put, List.getElem_toArray, List.getElem_cons_zero, List.getElem_cons_succ, List.setIfInBounds_toArray, List.set_cons_zero, List.set_cons_succ])
                      refine wpAnyH_take (i := 22) (v := ?_) rfl (by kernel_rfl) (by kernel_rfl) (by kernel_rfl) (fun _ _ _ h => h) (Or.inl ⟨by rfl, ?_⟩) hHeld ?_
                      rotate_left
                      · (intro w hSw; (try dsimp only at hSw); go_simp; try with_reducible rfl)
                      (try simp only [Act.put, List.getElem_toArray, List.getElem_cons_zero, List.getElem_cons_succ, List.setIfInBounds_toArray, List.set_cons_zero, List.set_cons_succ])
                      refine wpAnyH_take (i := 23) (v := undef) rfl (by kernel_rfl) (by kernel_rfl) (by kernel_rfl) (fun _ _ _ h => h) (Or.inr ⟨by rfl, rfl⟩) hHeld ?_
                      (try simp only [Act.put, List.getElem_toArray, List.getElem_cons_zero, List.getElem_cons_succ, List.setIfInBounds_toArray, List.set_cons_zero, List.set_cons_succ])
                      refine wpAnyH_take (i := 24) (v := undef) rfl (by kernel_rfl) (by kernel_rfl) (by kernel_rfl) (fun _ _ _ h => h) (Or.inr ⟨by rfl, rfl⟩) hHeld ?_
                      (try simp only [Act.put, List.getElem_toArray, List.getElem_cons_zero, List.getElem_cons_succ, List.setIfInBounds_toArray, List.set_cons_zero, List.set_cons_succ])
                      refine wpAnyH_take (i := 25) (v := undef) rfl (by kernel_rfl) (by kernel_rfl) (by kernel_rfl) (fun _ _ _ h => h) (Or.inr ⟨by rfl, rfl⟩) hHeld ?_
                      (try simp only [Act.put, List.getElem_toArray, List.getElem_cons_zero, List.getElem_cons_succ, List.setIfInBounds_toArray, List.set_cons_zero, List.set_cons_succ])
                      refine wpAnyH_take (i := 26) (v := undef) rfl (by kernel_rfl) (by kernel_rfl) (by kernel_rfl) (fun _ _ _ h => h) (Or.inr ⟨by rfl, rfl⟩) hHeld ?_
                      (try simp only [Act.put, List.getElem_toArray, List.getElem_cons_zero, List.getElem_cons_succ, List.setIfInBounds_toArray, List.set_cons_zero, List.set_cons_succ])
                      refine wpAnyH_take (i := 27) (v := undef) rfl (by kernel_rfl) (by kernel_rfl) (by kernel_rfl) (fun _ _ _ h => h) (Or.inr ⟨by rfl, rfl⟩) hHeld ?_
                      (try simp only [Act.put, List.getElem_toArray, List.getElem_cons_zero, List.getElem_cons_succ, List.setIfInBounds_toArray, List.set_cons_zero, List.set_cons_succ])
                      refine wpAnyH_take (i := 28) (v := undef) rfl (by kernel_rfl) (by kernel_rfl) (by kernel_rfl) (fun _ _ _ h => h) (Or.inr ⟨by rfl, rfl⟩) hHeld ?_
                      (try simp only [Act.put, List.getElem_toArray, List.getElem_cons_zero, List.getElem_cons_succ, List.setIfInBounds_toArray, List.set_cons_zero, List.set_cons_succ])
                      refine wpAnyH_take (i := 29) (v := undef) rfl (by kernel_rfl) (by kernel_rfl) (by kernel_rfl) (fun _ _ _ h => h) (Or.inr ⟨by rfl, rfl⟩) hHeld ?_
                      (try simp only [Act.put, List.getElem_toArray, List.getElem_cons_zero, List.getElem_cons_succ, List.setIfInBounds_toArray, List.set_cons_zero, List.set_cons_succ])
                      refine wpAnyH_take (i := 30) (v := undef) rfl (by kernel_rfl) (by kernel_rfl) (by kernel_rfl) (fun _ _ _ h => h) (Or.inr ⟨by rfl, rfl⟩) hHeld ?_
                      (try simp only [Act.put, List.getElem_toArray, List.getElem_cons_zero, List.getElem_cons_succ, List.setIfInBounds_toArray, List.set_cons_zero, List.set_cons_succ])
                      refine wpAnyH_take (i := 31) (v := undef) rfl (by kernel_rfl) (by kernel_rfl) (by kernel_rfl) (fun _ _ _ h => h) (Or.inr ⟨by rfl, rfl⟩) hHeld ?_
                      (try simp only [Act.put, List.getElem_toArray, List.getElem_cons_zero, List.getElem_cons_succ, List.setIfInBounds_toArray, List.set_cons_zero, List.set_cons_succ])
                      refine wpAnyH_take (i := 32) (v := undef) rfl (by kernel_rfl) (by kernel_rfl) (by kernel_rfl) (fun _ _ _ h => h) (Or.inr ⟨by rfl, rfl⟩) hHeld ?_
                      (try simp only [Act.put, List.getElem_toArray, List.getElem_cons_zero, List.getElem_cons_succ, List.setIfInBounds_toArray, List.set_cons_zero, List.set_cons_succ])
                      refine wpAnyH_take (i := 33) (v := undef) rfl (by kernel_rfl) (by kernel_rfl) (by kernel_rfl) (fun _ _ _ h => h) (Or.inr ⟨by rfl, rfl⟩) hHeld ?_
                      (try simp only [Act.put, List.getElem_toArray, List.getElem_cons_zero, List.getElem_cons_succ, List.setIfInBounds_toArray, List.set_cons_zero, List.set_cons_succ])
                      refine wpAnyH_take (i := 34) (v := undef) rfl (by kernel_rfl) (by kernel_rfl) (by kernel_rfl) (fun _ _ _ h => h) (Or.inr ⟨by rfl, rfl⟩) hHeld ?_
                      (try simp only [Act.put, List.getElem_toArray, List.getElem_cons_zero, List.getElem_cons_succ, List.setIfInBounds_toArray, List.set_cons_zero, List.set_cons_succ])
                      refine wpAnyH_take (i := 35) (v := undef) rfl (by kernel_rfl) (by kernel_rfl) (by kernel_rfl) (fun _ _ _ h => h) (Or.inr ⟨by rfl, rfl⟩) hHeld ?_
                      (try simp only [Act.put, List.getElem_toArray, List.getElem_cons_zero, List.getElem_cons_succ, List.setIfInBounds_toArray, List.set_cons_zero, List.set_cons_succ])
                      refine wpAnyH_take (i := 36) (v := ?_) rfl (by kernel_rfl) (by kernel_rfl) (by kernel_rfl) (fun _ _ _ h => h) (Or.inl ⟨by rfl, ?_⟩) hHeld ?_
                      rotate_left
                      · (intro w hSw; (try dsimp only at hSw); go_simp; try with_reducible rfl)
                      (try simp only [Act.put, List.getElem_toArray, List.getElem_cons_zero, List.getElem_cons_succ, List.setIfInBounds_toArray, List.set_cons_zero, List.set_cons_succ])
                      refine wpAnyH_done (by kernel_rfl) ?_ _
                      all_goals go_wp2
                      all_goals go_ret
                      all_goals (refine ⟨retB HF.out.symm, ?_⟩; assumption)
                    | true =>
                      cases kb with
                      | false =>
                        have HF : Hid (rightR ns = false) := Lib.hid (HNF.out (by rw [HNR2.out]; rfl))
                        clear HNR2 HTT
                        go_wp2_with fail
                        go_region_held3 (fun w' => w'.cell? ⟨b, off + i * 5, none⟩ = some (.int .u8 nd.kind) ∧ w'.cell? ⟨b, off + i * 5 + 1, none⟩ = some (.int .i64 nd.at') ∧ w'.cell? ⟨b, off + i * 5 + 2, none⟩ = some (.string nd.text) ∧ w'.cell? ⟨b, off + i * 5 + 3, none⟩ = some (.int .i64 nd.n) ∧ w'.cell? ⟨b, off + i * 5 + 4, none⟩ = some (.slice kp kl kc) ∧ Below w1.heap.size w1 w') (go_keep)
                          (first
                            | (go_at_call 25; (with_reducible refine (WC.out _ ?_).mono ?_); (first | assumption | exact hbd); rintro e w' ⟨rfl, q0, q1, q2, q3, q4, q5⟩)
                            | (go_at_call 27; (with_reducible refine (KC.out _ ?_).mono ?_); (first | assumption | exact hbd); rintro e w' ⟨pv, cv, rfl, qb, q0, q1, q2, q3, q4, q5⟩)
                            | (go_at_call 26; (with_reducible refine (DC.out _ _ _ ?_ ?_).mono ?_); (assumption); (first | assumption | exact hbd); rintro e w' ⟨rfl, q0, q1, q2, q3, q4, q5⟩))
                        all_goals go_wp2
                        all_goals go_ret
                        all_goals (refine ⟨retB HF.out.symm, ?_⟩; assumption)
                      | true =>
                        have HT2 := Lib.hid (HTT.out (by rw [HNR2.out]; rfl))
                        clear HNR2 HTT
                        go_wp2_with fail
                        go_region_held3 (fun w' => w'.cell? ⟨b, off + i * 5, none⟩ = some (.int .u8 nd.kind) ∧ w'.cell? ⟨b, off + i * 5 + 1, none⟩ = some (.int .i64 nd.at') ∧ w'.cell? ⟨b, off + i * 5 + 2, none⟩ = some (.string nd.text) ∧ w'.cell? ⟨b, off + i * 5 + 3, none⟩ = some (.int .i64 nd.n) ∧ w'.cell? ⟨b, off + i * 5 + 4, none⟩ = some (.slice kp kl kc) ∧ Below w1.heap.size w1 w') (go_keep)
                          (first
                            | (go_at_call 25; (with_reducible refine (WC.out _ ?_).mono ?_); (first | assumption | exact hbd); rintro e w' ⟨rfl, q0, q1, q2, q3, q4, q5⟩)
                            | (go_at_call 27; (with_reducible refine (KC.out _ ?_).mono ?_); (first | assumption | exact hbd); rintro e w' ⟨pv, cv, rfl, qb, q0, q1, q2, q3, q4, q5⟩)
                            | (go_at_call 26; (with_reducible refine (DC.out _ _ _ ?_ ?_).mono ?_); (assumption); (first | assumption | exact hbd); rintro e w' ⟨rfl, q0, q1, q2, q3, q4, q5⟩))
                        go_wp2_with fail
                        go_roundw
                        case rel => exact ⟨i + 1, by omega, by first | rfl | go_num, HT2, Lib.hid q5⟩
                        case measure => simp [intOf]; omega
              · have e : i = ns.length := by have := hlen.out; omega
                have HE : Hid (rightR ns = true) := Lib.hid (by
                  have := HT.out
                  rw [e, List.take_length] at this
                  rw [HALL.out, this])
                clear e
                go_wp2
                go_ret
                exact ⟨retB HE.out.symm, HB.out⟩
          · have e1 : (en != (len : Int)) = true := by simpa using hen
            have HF : Hid (rightR ns = false) := Lib.hid (by
              unfold rightR
              rw [decide_eq_false (show ¬ endK (kidsAt ns) ns.length ns.length 0 = (ns.length : Int) by rw [HEN.out, hlen.out]; exact hen)]
              simp)
            clear hen
            go_wp2
            go_ret
            exact ⟨retB HF.out.symm, Below.refl _ _⟩
    · have d1 : (kindAt ns 0 != 1) = true := by simpa using h1
      have HF : Hid (rightR ns = false) := Lib.hid (by
        have e : (kindAt ns 0 == 1) = false := by simpa using h1
        unfold rightR; rw [e]; simp)
      generalize kindAt ns 0 = k at *
      clear h1
      go_enter Try.func12, Try.ntmps12
      go_wp2
      go_ret
      exact ⟨retB HF.out.symm, Below.refl _ _⟩
end Go.Proofs.Ytijaelncmjcbmaa
