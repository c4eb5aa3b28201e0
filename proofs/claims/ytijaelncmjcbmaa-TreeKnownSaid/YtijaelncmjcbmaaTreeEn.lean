import Derived.Test.YtijaelncmjcbmaaTreeFd
namespace Go.Proofs.Ytijaelncmjcbmaa
open Go.RowKit
theorem fold_bad (K : Nat → List Int) (n f : Nat) (k a : Int) (ks : List Int) (h : a < 0 ∨ (n : Int) ≤ a ∨ k ≠ a) : (k :: ks).foldl (fun a k => if a < 0 ∨ (n : Int) ≤ a ∨ k ≠ a then -1 else endK K n f a.toNat) a = -1 := by
  rw [List.foldl_cons, if_pos h, endK_fold_neg]
theorem fold_ok (K : Nat → List Int) (n f m : Nat) (ks : List Int) (h : m < n) : ((m : Int) :: ks).foldl (fun a k => if a < 0 ∨ (n : Int) ≤ a ∨ k ≠ a then -1 else endK K n f a.toNat) (m : Int) = ks.foldl (fun a k => if a < 0 ∨ (n : Int) ≤ a ∨ k ≠ a then -1 else endK K n f a.toNat) (endK K n f m) := by
  rw [List.foldl_cons, if_neg (by omega), Int.toNat_natCast]
set_option maxHeartbeats 8000000 in
set_option maxRecDepth 1000000 in
theorem refEnd_at (w : World) (p : Option Addr) (len c : Nat) (ns : List Nd) (h : TV w p len c ns) (hl : len ≤ 1000) (hk : ∀ nd ∈ ns, nd.kids.length ≤ 1000) : ∀ f i : Nat, i ≤ 1000 → len ≤ i + f →
    Calls Try.prog 24 #[.slice p len c, .int .i64 (i : Int)] w fun e w' => e = .returned (.int .i64 (endK (kidsAt ns) len f i)) ∧ w' = w := by
  have hlen := Lib.hid h.len_eq
  have H := Lib.hid h
  have HK := Lib.hid hk
  clear h hk
  have over : ∀ i f : Nat, len ≤ i → Calls Try.prog 24 #[.slice p len c, .int .i64 (i : Int)] w fun e w' => e = .returned (.int .i64 (endK (kidsAt ns) len f i)) ∧ w' = w := by
    intro i f hi
    have e : endK (kidsAt ns) len f i = -1 := by
      cases f with
      | zero => rfl
      | succ f => simp only [endK]; rw [if_pos hi]
    rw [e]
    have d : decide ((i : Int) ≥ (len : Int)) = true := by simp; omega
    clear e H HK
    go_enter Try.func24, Try.ntmps24
    go_wp2
    go_ret
    exact ⟨rfl, rfl⟩
  intro f
  induction f with
  | zero => intro i _ hi; exact over i 0 (by omega)
  | succ f ih =>
    intro i hi1 hi
    by_cases hin : len ≤ i
    · exact over i (f + 1) hin
    · have IH := Lib.hid ih
      clear over ih
      have d : decide ((i : Int) ≥ (len : Int)) = false := by simp; omega
      have d5 : decide (len ≤ i) = false := by simp; omega
      obtain ⟨b, off, rfl, _, hc⟩ := H.out.node (by omega)
      obtain ⟨kp, kl, kc, hn⟩ := hc i (by omega)
      have k4 := hn.kids
      have HIV : Hid (IV w kp kl kc (kidsAt ns i)) := Lib.hid hn.iv
      have hkl : kl ≤ 1000 := by
        have hix : i < ns.length := by have := hlen.out; omega
        have h1 := HK.out (ns.getD i default) (by simp [List.getD, hix])
        have := hn.iv.len_eq
        omega
      have hil : i < len := by omega
      have hilI : (i : Int) < (len : Int) := by omega
      have HE : Hid (endK (kidsAt ns) len (f + 1) i = (kidsAt ns i).foldl (fun a k => if a < 0 ∨ (len : Int) ≤ a ∨ k ≠ a then -1 else endK (kidsAt ns) len f a.toNat) ((i : Int) + 1)) := Lib.hid (by simp only [endK]; rw [if_neg hin])
      have hw : IntKind.i64.wrap ((i : Int) + 1) = (i : Int) + 1 := IntWalk.i64_in _ (by omega)
      obtain ⟨R, hR⟩ : ∃ R, endK (kidsAt ns) len (f + 1) i = R := ⟨_, rfl⟩
      rw [hR] at HE ⊢
      clear hR hn hc hin
      go_enter Try.func24, Try.ntmps24
      go_wp2_with fail
      clear d d5
      go_loopw [5, 6] (fun av jv wq => ∃ (j : Nat) (a : Int), wq = w ∧ j ≤ kl ∧ (a = -1 ∨ (i : Int) < a) ∧ av = .int .i64 a ∧ jv = .int .i64 j ∧ Hid (R = ((kidsAt ns i).drop j).foldl (fun a k => if a < 0 ∨ (len : Int) ≤ a ∨ k ≠ a then -1 else endK (kidsAt ns) len f a.toNat) a)) (fun _ jv _ => kl - (intOf jv).toNat)
      case atStart => exact ⟨0, (i : Int) + 1, rfl, by omega, by omega, rfl, rfl, HE⟩
      case round =>
        obtain ⟨j, a, hwq, hj, ha, rfl, rfl, HF⟩ := hrel
        have hwq2 := hwq.symm
        subst hwq2
        clear hwq
        by_cases hjl : j < kl
        · obtain ⟨kb, koff, rfl, _, hkc⟩ := HIV.out.cell (by omega)
          have hkj := hkc j hjl
          have HDR : Hid ((kidsAt ns i).drop j = (kidsAt ns i).getD j 0 :: (kidsAt ns i).drop (j + 1)) := Lib.hid (by
            have hjx : j < (kidsAt ns i).length := by have := HIV.out.len_eq; omega
            rw [List.drop_eq_getElem_cons hjx]
            simp [List.getD, hjx])
          generalize (kidsAt ns i).getD j 0 = kid at *
          have BAD : ∀ (hne : a < 0 ∨ (len : Int) ≤ a ∨ kid ≠ a), Hid (R = -1) := fun hne => Lib.hid (by rw [HF.out, HDR.out, fold_bad _ _ _ _ _ _ hne])
          clear hkc
          by_cases h0 : a < 0
          · have d0 : decide (a < 0) = true := by simpa using h0
            have HB := BAD (Or.inl h0)
            clear BAD h0 ha
            go_wp2
            go_ret
            exact ⟨retI HB.out.symm, rfl⟩
          · have d0 : decide (a < 0) = false := by simpa using h0
            by_cases h1 : (len : Int) ≤ a
            · have d1 : decide (a ≥ (len : Int)) = true := by simpa using h1
              have HB := BAD (Or.inr (Or.inl h1))
              clear BAD h0 ha h1
              go_wp2
              go_ret
              exact ⟨retI HB.out.symm, rfl⟩
            · have d1 : decide (a ≥ (len : Int)) = false := by simpa using h1
              by_cases h2 : kid = a
              · subst h2
                obtain ⟨m, rfl⟩ : ∃ m : Nat, kid = (m : Int) := ⟨kid.toNat, (Int.toNat_of_nonneg (by omega)).symm⟩
                have hml : m < len := by omega
                have him : i < m := by omega
                have HN : Hid (R = ((kidsAt ns i).drop (j + 1)).foldl (fun a k => if a < 0 ∨ (len : Int) ≤ a ∨ k ≠ a then -1 else endK (kidsAt ns) len f a.toNat) (endK (kidsAt ns) len f m)) := Lib.hid (by rw [HF.out, HDR.out, fold_ok _ _ _ _ _ hml])
                have HC := Lib.hid (IH.out m (by omega) (by omega))
                have HRG := Lib.hid (endK_range (kidsAt ns) len f m)
                have d2 : ((m : Int) != (m : Int)) = false := by simp
                generalize endK (kidsAt ns) len f m = a2 at *
                clear BAD h0 h1 ha
                go_wp2_with fail
                (with_reducible refine HC.out.mono ?_)
                rintro e w2 ⟨rfl, hw2⟩
                have hw3 := hw2.symm
                subst hw3
                clear HC hw2
                go_wp2_with fail
                go_roundw
                case rel => exact ⟨j + 1, a2, by trivial, by omega, by have := HRG.out; omega, rfl, by go_num, HN⟩
                case measure => simp [intOf]; omega
              · have d2 : (kid != a) = true := by simpa using h2
                have HB := BAD (Or.inr (Or.inr h2))
                clear BAD h0 ha h1 h2
                go_wp2
                go_ret
                exact ⟨retI HB.out.symm, rfl⟩
        · have HZ : Hid (R = a) := Lib.hid (by rw [HF.out, List.drop_eq_nil_of_le (by have := HIV.out.len_eq; omega)]; rfl)
          clear ha
          go_wp2
          go_ret
          exact ⟨retI HZ.out.symm, rfl⟩
end Go.Proofs.Ytijaelncmjcbmaa
