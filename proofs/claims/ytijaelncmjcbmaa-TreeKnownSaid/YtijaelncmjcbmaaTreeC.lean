import Derived.Test.YtijaelncmjcbmaaTreeB
namespace Go.Proofs.Ytijaelncmjcbmaa
open Go.RowKit
/-- A kind's rule, as a closure has it. -/
structure NV (W : World) (tb mb kb : Nat) (R : Rule) : Prop where
  text : W.cell? ⟨tb, 0, none⟩ = some (.func (.func (if R.named then 44 else 42)) #[] #[])
  most : W.cell? ⟨mb, 0, none⟩ = some (.int .i64 R.most)
  kids : ∃ q l c, W.cell? ⟨kb, 0, none⟩ = some (.slice q l c) ∧ PV W q l c R.parts
theorem NV.on {W V : World} {tb mb kb : Nat} {R : Rule} (h : NV W tb mb kb R) (hb : Aside W V) : NV V tb mb kb R where
  text := hb _ _ h.text
  most := hb _ _ h.most
  kids := by
    obtain ⟨q, l, c, h1, h2⟩ := h.kids
    exact ⟨q, l, c, hb _ _ h1, h2.on hb⟩
def closV (tb mb kb : Nat) : Value := .func (.func 52) #[] #[.pointer (some ⟨tb, 0, none⟩), .pointer (some ⟨mb, 0, none⟩), .pointer (some ⟨kb, 0, none⟩)]
set_option maxHeartbeats 1000000 in
theorem node_at (w : World) (q : Option Addr) (l c : Nat) (R : Rule) (fT : Nat) (most : Int) (hT : fT = if R.named then 44 else 42) (hM : most = R.most) (h : PV w q l c R.parts) :
    Calls Try.prog 41 #[.func (.func fT) #[] #[], .int .i64 most, .slice q l c] w fun e w' => (∃ tb mb kb, e = .returned (closV tb mb kb) ∧ NV w' tb mb kb R) ∧ Below w.heap.size w w' := by
  subst hT hM
  have H := Lib.hid h
  clear h
  generalize hf : (if R.named then 44 else 42) = fT at *
  have HF := Lib.hid hf
  clear hf
  go_enter Try.func41, Try.ntmps41
  go_wp2
  go_ret
  have hB := ((one_below w (.cells #[.func (.func fT) #[] #[]] 61)).trans ((one_below (w.alloc (.cells #[.func (.func fT) #[] #[]] 61)) (.cells #[.int .i64 R.most] 2)).mono (by simp))).trans ((one_below ((w.alloc (.cells #[.func (.func fT) #[] #[]] 61)).alloc (.cells #[.int .i64 R.most] 2)) (.cells #[.slice q l c] 72)).mono (by simp; omega))
  refine ⟨⟨_, _, _, rfl, ⟨?_, ?_, ⟨q, l, c, ?_, H.out.on (Aside.of hB)⟩⟩⟩, hB⟩
  · rw [HF.out, World.cell?_alloc_past _ _ _ (by simp; omega), World.cell?_alloc_past _ _ _ (by simp)]; simp
  · rw [World.cell?_alloc_past _ _ _ (by simp)]; exact World.cell?_alloc_at _ _ _ _ (by simp)
  · exact World.cell?_alloc_at _ _ _ _ (by simp)
set_option maxHeartbeats 4000000 in
set_option maxRecDepth 1000000 in
theorem rule_at (w : World) (tb mb kb : Nat) (R : Rule) (nd : Nd) (kv : Value) (p : Option Addr) (n c2 : Nat) (ks : List Int) (h : NV w tb mb kb R) (hk : BV w p n c2 ks) (hn : n ≤ 1000) (hs : nd.text.size ≤ 70000) (hR : R.parts.length ≤ 8 ∧ ∀ x ∈ R.parts, x.least ≤ 1 ∧ x.most ≤ 9223372036854775807)
    (kp : Option Addr) (kl kc : Nat) (hkv : kv = .slice kp kl kc) :
    Calls Try.prog 52 #[.agg #[.int .u8 nd.kind, .int .i64 nd.at', .string nd.text, .int .i64 nd.n, kv], .slice p n c2, .pointer (some ⟨tb, 0, none⟩), .pointer (some ⟨mb, 0, none⟩), .pointer (some ⟨kb, 0, none⟩)] w
      fun e w' => e = .returned (.bool (fitsRule R nd ks)) ∧ Below w.heap.size w w' := by
  subst hkv
  obtain ⟨q, l, c, hkb, hpv⟩ := h.kids
  have htb := h.text
  have hmb := h.most
  have l1 : tb < w.heap.size := World.block_lt_of_cell? w _ htb
  have l2 : mb < w.heap.size := World.block_lt_of_cell? w _ hmb
  have l3 : kb < w.heap.size := World.block_lt_of_cell? w _ hkb
  have HPV := Lib.hid hpv
  have HBV := Lib.hid hk
  have HR := Lib.hid hR
  have HS := Lib.hid hs
  have HPL := Lib.hid hpv.len_eq
  have B0 := Lib.hid (one_below w (.cells #[.int .u8 nd.kind, .int .i64 nd.at', .string nd.text, .int .i64 nd.n, .slice kp kl kc] 37))
  clear h hpv hk hR hs
  obtain ⟨named, most, parts⟩ := R
  simp only at hmb htb
  have fin : ∀ W, Hid (Below (w.heap.size + 1) (w.alloc (.cells #[.int .u8 nd.kind, .int .i64 nd.at', .string nd.text, .int .i64 nd.n, .slice kp kl kc] 37)) W) → Hid (Below w.heap.size w W) := fun W hW => Lib.hid (B0.out.trans (hW.out.mono (by omega)))
  have FIN := Lib.hid fin
  clear fin
  cases named with
  | true =>
    simp only [if_true] at htb
    have HT := Lib.hid (isName_at (w.alloc (.cells #[.int .u8 nd.kind, .int .i64 nd.at', .string nd.text, .int .i64 nd.n, .slice kp kl kc] 37)) nd.text HS.out)
    have hfr : ∀ t : Bool, namesF (bytesI nd.text) = t → fitsRule ⟨true, most, parts⟩ nd ks = (t && (decide (0 ≤ nd.n) && (decide (nd.n ≤ most) && inTurnP parts ks))) := fun t ht => by rw [← ht]; rfl
    have HFR := Lib.hid hfr
    clear hfr
    generalize namesF (bytesI nd.text) = t at *
    go_enter Try.func52, Try.ntmps52
    go_wp2_with fail
    (with_reducible refine HT.out.mono ?_)
    rintro e W1 ⟨rfl, hb1⟩
    have B1 : Hid (Below (w.heap.size + 1) (w.alloc (.cells #[.int .u8 nd.kind, .int .i64 nd.at', .string nd.text, .int .i64 nd.n, .slice kp kl kc] 37)) W1) := Lib.hid (by simpa using hb1)
    have n3 : W1.cell? ⟨w.heap.size, 3, none⟩ = some (.int .i64 nd.n) := by rw [B1.out.cell (by simp)]; simp
    have m0 : W1.cell? ⟨mb, 0, none⟩ = some (.int .i64 most) := by rw [B1.out.cell (by simp; omega), World.cell?_alloc_past _ _ _ l2]; exact hmb
    have k0 : W1.cell? ⟨kb, 0, none⟩ = some (.slice q l c) := by rw [B1.out.cell (by simp; omega), World.cell?_alloc_past _ _ _ l3]; exact hkb
    have BW := FIN.out W1 B1
    have HIT := Lib.hid (inTurn_at W1 q l c parts p n c2 ks (HPV.out.on (Aside.of BW.out)) (HBV.out.on (Aside.of BW.out)) (by rw [← HPL.out]; exact HR.out.1) hn HR.out.2)
    clear hb1 HT htb hmb hkb
    cases t with
    | false =>
      go_wp2
      go_ret
      exact ⟨retB (by rw [HFR.out false rfl]; rfl), BW.out⟩
    | true =>
      by_cases h0 : 0 ≤ nd.n
      · have d0 : decide (0 ≤ nd.n) = true := by simpa using h0
        by_cases h1 : nd.n ≤ most
        · have d1 : decide (nd.n ≤ most) = true := by simpa using h1
          go_wp2_with fail
          (with_reducible refine HIT.out.mono ?_)
          rintro e W2 ⟨rfl, hb2⟩
          have BZ := Lib.hid (BW.out.trans (hb2.mono BW.out.size))
          clear hb2
          go_wp2
          go_ret
          exact ⟨retB (by rw [HFR.out true rfl, d0, d1]; simp), BZ.out⟩
        · have d1 : decide (nd.n ≤ most) = false := by simpa using h1
          go_wp2
          go_ret
          exact ⟨retB (by rw [HFR.out true rfl, d0, d1]; rfl), BW.out⟩
      · have d0 : decide (0 ≤ nd.n) = false := by simpa using h0
        go_wp2
        go_ret
        exact ⟨retB (by rw [HFR.out true rfl, d0]; rfl), BW.out⟩
  | false =>
    simp only [Bool.false_eq_true, if_false] at htb
    have HT := Lib.hid (show Calls Try.prog 42 #[.string nd.text] (w.alloc (.cells #[.int .u8 nd.kind, .int .i64 nd.at', .string nd.text, .int .i64 nd.n, .slice kp kl kc] 37)) fun e w' => e = .returned (.bool (decide (nd.text.size = 0))) ∧ Below (w.alloc (.cells #[.int .u8 nd.kind, .int .i64 nd.at', .string nd.text, .int .i64 nd.n, .slice kp kl kc] 37)).heap.size (w.alloc (.cells #[.int .u8 nd.kind, .int .i64 nd.at', .string nd.text, .int .i64 nd.n, .slice kp kl kc] 37)) w' from (isEmpty_at nd.text _).mono fun _ _ ⟨h1, h2⟩ => ⟨h1, by rw [h2]; exact Below.refl _ _⟩)
    have hfr : ∀ t : Bool, decide (nd.text.size = 0) = t → fitsRule ⟨false, most, parts⟩ nd ks = (t && (decide (0 ≤ nd.n) && (decide (nd.n ≤ most) && inTurnP parts ks))) := fun t ht => by rw [← ht]; rfl
    have HFR := Lib.hid hfr
    clear hfr
    generalize decide (nd.text.size = 0) = t at *
    go_enter Try.func52, Try.ntmps52
    go_wp2_with fail
    (with_reducible refine HT.out.mono ?_)
    rintro e W1 ⟨rfl, hb1⟩
    have B1 : Hid (Below (w.heap.size + 1) (w.alloc (.cells #[.int .u8 nd.kind, .int .i64 nd.at', .string nd.text, .int .i64 nd.n, .slice kp kl kc] 37)) W1) := Lib.hid (by simpa using hb1)
    have n3 : W1.cell? ⟨w.heap.size, 3, none⟩ = some (.int .i64 nd.n) := by rw [B1.out.cell (by simp)]; simp
    have m0 : W1.cell? ⟨mb, 0, none⟩ = some (.int .i64 most) := by rw [B1.out.cell (by simp; omega), World.cell?_alloc_past _ _ _ l2]; exact hmb
    have k0 : W1.cell? ⟨kb, 0, none⟩ = some (.slice q l c) := by rw [B1.out.cell (by simp; omega), World.cell?_alloc_past _ _ _ l3]; exact hkb
    have BW := FIN.out W1 B1
    have HIT := Lib.hid (inTurn_at W1 q l c parts p n c2 ks (HPV.out.on (Aside.of BW.out)) (HBV.out.on (Aside.of BW.out)) (by rw [← HPL.out]; exact HR.out.1) hn HR.out.2)
    clear hb1 HT htb hmb hkb
    cases t with
    | false =>
      go_wp2
      go_ret
      exact ⟨retB (by rw [HFR.out false rfl]; rfl), BW.out⟩
    | true =>
      by_cases h0 : 0 ≤ nd.n
      · have d0 : decide (0 ≤ nd.n) = true := by simpa using h0
        by_cases h1 : nd.n ≤ most
        · have d1 : decide (nd.n ≤ most) = true := by simpa using h1
          go_wp2_with fail
          (with_reducible refine HIT.out.mono ?_)
          rintro e W2 ⟨rfl, hb2⟩
          have BZ := Lib.hid (BW.out.trans (hb2.mono BW.out.size))
          clear hb2
          go_wp2
          go_ret
          exact ⟨retB (by rw [HFR.out true rfl, d0, d1]; simp), BZ.out⟩
        · have d1 : decide (nd.n ≤ most) = false := by simpa using h1
          go_wp2
          go_ret
          exact ⟨retB (by rw [HFR.out true rfl, d0, d1]; rfl), BW.out⟩
      · have d0 : decide (0 ≤ nd.n) = false := by simpa using h0
        go_wp2
        go_ret
        exact ⟨retB (by rw [HFR.out true rfl, d0]; rfl), BW.out⟩
end Go.Proofs.Ytijaelncmjcbmaa
