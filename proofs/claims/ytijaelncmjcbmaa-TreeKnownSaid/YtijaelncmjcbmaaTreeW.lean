import Derived.Test.YtijaelncmjcbmaaTreeK
namespace Go.Proofs.Ytijaelncmjcbmaa
open Go.RowKit
structure Small (ns : List Nd) : Prop where
  len : ns.length ≤ 1000
  each : ∀ nd ∈ ns, nd.kids.length ≤ 1000 ∧ nd.text.size ≤ 70000
theorem kids_in {ns : List Nd} {s : List Nat} (hs : sizesP ns = some s) : ∀ nd ∈ ns, ∀ k ∈ nd.kids, 0 ≤ k ∧ k < ns.length := by
  intro nd hm k hk
  obtain ⟨i, hi⟩ := List.mem_iff_getElem?.1 hm
  obtain ⟨hil, _⟩ := List.getElem?_eq_some_iff.1 hi
  have h := (sizesP_some hs).right
  have hk2 : k ∈ kidsAt ns i := by unfold kidsAt; rw [List.getD, hi]; exact hk
  obtain ⟨j, e1, e2, e3, e4⟩ := h.kid hil hk2
  omega
theorem neq_nil (W : World) : (binOp .neq 35 (.slice none 0 0) (.slice none 0 0)).run Try.prog W = .ok (.bool false) W := by kernel_rfl
theorem neq_some (g n c : Nat) (W : World) : (binOp .neq 35 (.slice (some ⟨g, 0, none⟩) n c) (.slice none 0 0)).run Try.prog W = .ok (.bool true) W := by kernel_rfl
set_option maxHeartbeats 4000000 in
theorem right_at (w : World) (p : Option Addr) (len c : Nat) (ns : List Nd) (h : TV w p len c ns) (hS : Small ns) :
    Calls Try.prog 11 #[.agg #[.slice p len c]] w fun e w' => e = .returned (.bool (rightP ns)) ∧ Below w.heap.size w w' := by
  have hlen := Lib.hid h.len_eq
  have H := Lib.hid h
  have HS := Lib.hid hS
  have B0 := Lib.hid (one_below w (.cells #[.slice p len c] 24))
  have HZ := Lib.hid (sizes_at (w.alloc (.cells #[.slice p len c] 24)) p len c ns (h.on B0.out) (by rw [← h.len_eq]; exact hS.len) (fun nd hm => (hS.each nd hm).1))
  clear h hS
  go_enter Try.func11, Try.ntmps11
  go_wp2_with fail
  (with_reducible refine HZ.out.mono ?_)
  rintro e w1 ⟨⟨v, rfl, hv⟩, hb1⟩
  have B1 := Lib.hid (B0.out.trans (hb1.mono (by simp)))
  have c0 : w1.cell? ⟨w.heap.size, 0, none⟩ = some (.slice p len c) := by rw [hb1.cell (by simp)]; simp
  clear hb1 HZ
  unfold SizesOut at hv
  cases hs : sizesP ns with
  | none =>
    rw [hs] at hv
    simp only at hv
    subst hv
    have HP : Hid (rightP ns = false) := Lib.hid (by unfold rightP; rw [hs])
    have hne := neq_nil
    clear hs
    go_wp2
    go_ret
    exact ⟨retB HP.out.symm, B1.out⟩
  | some s =>
    rw [hs] at hv
    simp only at hv
    obtain ⟨g, rfl, _⟩ := hv
    have hne := neq_some g ns.length ns.length
    have hpos : 0 < len := by have := (sizesP_some hs).pos; have := hlen.out; omega
    have hposI : (0 : Int) < (len : Int) := by omega
    have HP : Hid (rightP ns = (kindAt ns 0 == 1 && ruledP ns)) := Lib.hid (by unfold rightP; rw [hs])
    have HRU := Lib.hid (ruled_at w1 p len c ns (H.out.on B1.out) (by rw [← hlen.out]; exact HS.out.len) (fun nd hm => ⟨(HS.out.each nd hm).1, (HS.out.each nd hm).2, by rw [← hlen.out]; exact kids_in hs nd hm⟩))
    obtain ⟨b, off, rfl, hbl, hc⟩ := (H.out.on B1.out).node hpos
    obtain ⟨kp, kl, kc, hn⟩ := hc 0 hpos
    have k0 : w1.cell? ⟨b, off, none⟩ = some (.int .u8 (kindAt ns 0)) := by have := hn.kind; simpa [kindAt] using this
    generalize kindAt ns 0 = k at *
    clear hs hn hc
    by_cases h1 : k = 1
    · have d1 : (k == 1) = true := by simpa using h1
      have D1 := Lib.hid d1
      subst h1
      go_wp2_with fail
      (with_reducible refine HRU.out.mono ?_)
      rintro e w2 ⟨rfl, hb2⟩
      have B2 := Lib.hid (B1.out.trans (hb2.mono B1.out.size))
      clear hb2 HRU
      go_wp2
      go_ret
      exact ⟨retB (by rw [HP.out]; simp), B2.out⟩
    · have d1 : (k == 1) = false := by simpa using h1
      go_wp2
      go_ret
      exact ⟨retB (by rw [HP.out, d1]; rfl), B1.out⟩
set_option maxHeartbeats 4000000 in
theorem size_at (w : World) (p : Option Addr) (len c : Nat) (ns : List Nd) (i : Int) (h : TV w p len c ns) (hS : Small ns) :
    Calls Try.prog 15 #[.agg #[.slice p len c], .int .i64 i] w fun e w' => e = .returned (.int .i64 (sizeP ns i)) ∧ Below w.heap.size w w' := by
  have hlen := Lib.hid h.len_eq
  have H := Lib.hid h
  have HS := Lib.hid hS
  have B0 := Lib.hid (one_below w (.cells #[.slice p len c] 24))
  have HR := Lib.hid (right_at (w.alloc (.cells #[.slice p len c] 24)) p len c ns (h.on B0.out) hS)
  clear h hS
  by_cases h0 : i < 0
  · have d0 : decide (i < 0) = true := by simpa using h0
    have HZ : Hid (sizeP ns i = 0) := Lib.hid (by unfold sizeP; rw [if_neg (by omega)])
    go_enter Try.func15, Try.ntmps15
    go_wp2
    go_ret
    exact ⟨retI HZ.out.symm, B0.out⟩
  · have d0 : decide (i < 0) = false := by simpa using h0
    by_cases h1 : i < len
    · have d1 : decide (i ≥ (len : Int)) = false := by simpa using h1
      obtain ⟨q, rfl⟩ : ∃ q : Nat, i = (q : Int) := ⟨i.toNat, (Int.toNat_of_nonneg (by omega)).symm⟩
      have hql : q < len := by omega
      clear h0 h1
      go_enter Try.func15, Try.ntmps15
      go_wp2_with fail
      (with_reducible refine HR.out.mono ?_)
      rintro e w1 ⟨rfl, hb1⟩
      have B1 := Lib.hid (B0.out.trans (hb1.mono (by simp)))
      have c0 : w1.cell? ⟨w.heap.size, 0, none⟩ = some (.slice p len c) := by rw [hb1.cell (by simp)]; simp
      clear hb1 HR
      have HSZ := Lib.hid (sizes_at w1 p len c ns (H.out.on B1.out) (by rw [← hlen.out]; exact HS.out.len) (fun nd hm => (HS.out.each nd hm).1))
      cases hr : rightP ns with
      | false =>
        have HZ : Hid (sizeP ns (q : Int) = 0) := Lib.hid (by unfold sizeP; rw [if_neg (by rw [hr]; simp)])
        clear hr HSZ
        go_wp2
        go_ret
        exact ⟨retI HZ.out.symm, B1.out⟩
      | true =>
        obtain ⟨s, hs, _, _⟩ := right_sizes hr
        have HZ : Hid (sizeP ns (q : Int) = (s.getD q 0 : Nat)) := Lib.hid (sizeP_at hr hs (by have := hlen.out; omega))
        have HSS := Lib.hid hs
        clear hr hs
        go_wp2_with fail
        (with_reducible refine HSZ.out.mono ?_)
        rintro e w2 ⟨⟨v, rfl, hv⟩, hb2⟩
        have B2 := Lib.hid (B1.out.trans (hb2.mono B1.out.size))
        unfold SizesOut at hv
        rw [HSS.out] at hv
        obtain ⟨g, rfl, hg⟩ := hv
        have hgc := hg q (by have := hlen.out; omega)
        have hql2 : q < ns.length := by have := hlen.out; omega
        have hql3 : (q : Int) < (ns.length : Int) := by omega
        generalize s.getD q 0 = z at *
        clear hb2 HSZ hg
        go_wp2
        go_ret
        exact ⟨retI HZ.out.symm, B2.out⟩
    · have d1 : decide (i ≥ (len : Int)) = true := by simp; omega
      have HZ : Hid (sizeP ns i = 0) := Lib.hid (by unfold sizeP; rw [if_neg (by have := hlen.out; omega)])
      go_enter Try.func15, Try.ntmps15
      go_wp2
      go_ret
      exact ⟨retI HZ.out.symm, B0.out⟩
end Go.Proofs.Ytijaelncmjcbmaa
