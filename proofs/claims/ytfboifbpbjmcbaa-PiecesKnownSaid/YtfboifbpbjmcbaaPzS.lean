import Derived.Test.YtfboifbpbjmcbaaPzQ
import Derived.Test.YtfboifbpbjmcbaaPzE
namespace Go.Proofs.Ytfboifbpbjmcbaa.Pz
open Go.RowKit
theorem infoRU : (Try.prog.info? 34).map (fun i => (i.zero, i.size, i.bytes)) = some (some (.agg #[.int .i64 0, .int .i64 0]), 2, 16) := by kernel_rfl
theorem rUnitsTo_len (ops : List Int) (way : Int) (k : Nat) : (rUnitsTo ops way k).2.length ≤ k ∧ (rUnitsTo ops way k).1 ≤ k := by
  induction k with
  | zero => simp [rUnitsTo]
  | succ k ih =>
    simp only [rUnitsTo]
    split
    · simp; omega
    · omega
set_option maxHeartbeats 8000000 in
set_option maxRecDepth 1000000 in
theorem refUnits_at (w : World) (n₀ len c : Nat) (p : Option Addr) (is : List Ins) (way : Int) (hI : IsIn n₀ w p len c is) (hn : n₀ ≤ w.heap.size) (b1 : len ≤ 100000) :
    Calls Try.prog 10 #[.slice p len c, .int .u8 way] w fun e W' => ∃ v c', e = .returned (.slice v (unitsP (opsOf is) way).length c') ∧ UsIn W'.heap.size W' v (unitsP (opsOf is) way).length c' (unitsP (opsOf is) way) ∧ Below w.heap.size w W' := by
  obtain ⟨i0, hi, hz0, hz1, hz2⟩ := info_of infoRU
  have HI := Lib.hid hI
  have hlen := hI.len_eq
  have hol := opsOf_len is
  have HE := Lib.hid (rUnits_eq (opsOf is) way)
  have HD : Hid (rUnitsP (opsOf is) way = if (rUnitsTo (opsOf is) way len).1 < len then (rUnitsTo (opsOf is) way len).2 ++ [((rUnitsTo (opsOf is) way len).1, len)] else (rUnitsTo (opsOf is) way len).2) := Lib.hid (by unfold rUnitsP; rw [hol, hlen])
  rw [← HE.out]
  clear hI hol HE
  generalize rUnitsP (opsOf is) way = RU at *
  go_enter Try.func10, Try.ntmps10
  go_wp2_with fail
  go_loopw [5, 6, 7] (fun v fv iv wr => ∃ k : Nat, iv = .int .i64 k ∧ k ≤ len ∧ fv = .int .i64 ((rUnitsTo (opsOf is) way k).1 : Nat) ∧ Hid (wr.ownsRow w.heap.size 34 2 v (rUnitsTo (opsOf is) way k).2.length (flatU (rUnitsTo (opsOf is) way k).2)) ∧ Hid (Below w.heap.size w wr)) (fun _ _ iv _ => len - (intOf iv).toNat)
  case atStart => exact ⟨0, rfl, Nat.zero_le _, rfl, Lib.hid ⟨rfl, Or.inl ⟨rfl, rfl⟩⟩, Lib.hid (Below.refl _ _)⟩
  case round =>
    obtain ⟨k, rfl, hk, rfl, HO, HB⟩ := hrel
    have hrl := rUnitsTo_len (opsOf is) way k
    have hsr := HB.out.size
    obtain ⟨vg, vq, rfl⟩ := own_shape HO.out
    by_cases hlt : k < len
    · obtain ⟨b, off, rfl, hbn, hc⟩ := (HI.out.on (Kb.of HB.out hn)).cell (by omega)
      obtain ⟨kp, kl, kc, vp, vl, vc, ic⟩ := hc k hlt
      have c0 := ic.c0
      have hop : (opsOf is).getD k 0 = (is.getD k default).op := opsOf_get is k
      have HS : Hid (rUnitsTo (opsOf is) way (k + 1) = if way = 1 ∧ (opsOf is).getD k 0 = 15 then (k + 1, (rUnitsTo (opsOf is) way k).2 ++ [((rUnitsTo (opsOf is) way k).1, k + 1)]) else rUnitsTo (opsOf is) way k) := Lib.hid rfl
      rw [hop] at HS
      obtain ⟨xo, hxo⟩ : ∃ xo, (is.getD k default).op = xo := ⟨_, rfl⟩
      rw [hxo] at c0 HS
      have hcap := HI.out.cap
      clear ic hc hop hxo
      obtain ⟨fr, hfr⟩ : ∃ fr, (rUnitsTo (opsOf is) way k).1 = fr := ⟨_, rfl⟩
      obtain ⟨us, hus⟩ : ∃ us, (rUnitsTo (opsOf is) way k).2 = us := ⟨_, rfl⟩
      have HS1 : Hid (way = 1 → xo = 15 → rUnitsTo (opsOf is) way (k + 1) = (k + 1, us ++ [(fr, k + 1)])) := Lib.hid (fun h1 h2 => by rw [HS.out, if_pos ⟨h1, h2⟩, hfr, hus])
      have HS2 : Hid (¬ (way = 1 ∧ xo = 15) → rUnitsTo (opsOf is) way (k + 1) = (fr, us)) := Lib.hid (fun h => by rw [HS.out, if_neg h, ← hfr, ← hus])
      rw [hus] at HO hrl
      rw [hfr] at hrl ⊢
      rw [hus]
      clear HS hfr hus
      by_cases h1 : way = 1
      · by_cases h2 : xo = 15
        · have HT := Lib.hid (HS1.out h1 h2)
          clear HS1 HS2
          subst h2
          have h1' : (way == 1) = true := by simpa using h1
          clear h1
          go_wp2_with (at_builtin; refine wpList_append_own _ rfl (.tmp 24) (.tmp 29) 30 rfl w.heap.size 34 i0 _ 2 16 Try.underlying30 hi hz0 hz1 hz2 rfl (by decide) (.slice vg us.length vq) us.length _ rfl (HO.out.alloc _) ⟨wr.heap.size, 0, none⟩ 1 1 [.int .i64 (fr : Nat), .int .i64 ((k : Int) + 1)] rfl rfl (World.news_of_block (fr := (0, 0)) (heap_alloc_new _ _)) (by simp [Value.oneCell']) (by unfold maxLen; omega) (by omega) (by simp; omega) ?_; intro v' w8 hown8 hgrow8 _)
          go_roundw
          case rel =>
            refine ⟨k + 1, by simp, by omega, by rw [HT.out]; simp, ?_, ?_⟩
            · rw [HT.out, List.length_append, flatU_app]
              exact Lib.hid (by simpa [flatU] using hown8)
            · exact Lib.hid ((HB.out.alloc HB.out.size _).grown hgrow8 (by simp; omega) (fun r e => (HO.out.lt r e).1))
          case measure => simp [intOf]; omega
        · have HT := Lib.hid (HS2.out (fun h => h2 h.2))
          have h1' : (way == 1) = true := by simpa using h1
          have h2' : (xo == 15) = false := by simpa using h2
          clear h1 HS1 HS2
          go_wp2_with fail
          go_roundw
          case rel => exact ⟨k + 1, by simp, by omega, by rw [HT.out], by rw [HT.out]; exact HO, HB⟩
          case measure => simp [intOf]; omega
      · have HT := Lib.hid (HS2.out (fun h => h1 h.1))
        have h1' : (way == 1) = false := by simpa using h1
        clear HS1 HS2
        go_wp2_with fail
        go_roundw
        case rel => exact ⟨k + 1, by simp, by omega, by rw [HT.out], by rw [HT.out]; exact HO, HB⟩
        case measure => simp [intOf]; omega
    · obtain rfl : k = len := by omega
      obtain ⟨fr, hfr⟩ : ∃ fr, (rUnitsTo (opsOf is) way k).1 = fr := ⟨_, rfl⟩
      obtain ⟨us, hus⟩ : ∃ us, (rUnitsTo (opsOf is) way k).2 = us := ⟨_, rfl⟩
      rw [hus] at HO hrl
      rw [hfr, hus] at HD
      rw [hfr] at hrl ⊢
      rw [hus]
      clear hfr hus
      by_cases hf : fr < k
      · rw [if_pos hf] at HD
        go_wp2_with (at_builtin; refine wpList_append_own _ rfl (.tmp 37) (.tmp 42) 30 rfl w.heap.size 34 i0 _ 2 16 Try.underlying30 hi hz0 hz1 hz2 rfl (by decide) (.slice vg us.length vq) us.length _ rfl (HO.out.alloc _) ⟨wr.heap.size, 0, none⟩ 1 1 [.int .i64 (fr : Nat), .int .i64 (k : Nat)] rfl rfl (World.news_of_block (fr := (0, 0)) (heap_alloc_new _ _)) (by simp [Value.oneCell']) (by unfold maxLen; omega) (by omega) (by simp; omega) ?_; intro v' w8 hown8 hgrow8 _)
        have h9 : w8.ownsRow w.heap.size 34 2 v' RU.length (flatU RU) := by
          rw [HD.out, List.length_append, flatU_app]
          simpa [flatU] using hown8
        obtain ⟨p9, c9, rfl, hU⟩ := us_own h9
        have HU := Lib.hid hU
        have HBN := Lib.hid ((HB.out.alloc HB.out.size _).grown hgrow8 (by simp; omega) (fun r e => (HO.out.lt r e).1))
        clear hU h9 hown8 hgrow8
        go_ret
        exact ⟨_, _, rfl, HU.out, HBN.out⟩
      · rw [if_neg hf] at HD
        have h9 : wr.ownsRow w.heap.size 34 2 (.slice vg us.length vq) RU.length (flatU RU) := by rw [HD.out]; exact HO.out
        obtain ⟨p9, c9, e9, hU⟩ := us_own h9
        obtain ⟨rfl, hl9, rfl⟩ : vg = p9 ∧ us.length = RU.length ∧ vq = c9 := by simpa using e9
        have HU := Lib.hid hU
        have HL9 := Lib.hid hl9
        clear hU h9 e9 hl9
        go_wp2_with fail
        go_ret
        exact ⟨_, _, by rw [HL9.out]; rfl, HU.out, HB.out⟩
/-- Which unit the reference finds. -/
theorem ofP_at (us : List (Nat × Nat)) (at' : Int) (i : Nat) (h1 : ∀ j, j < i → ¬ (((us.getD j (0, 0)).1 : Int) ≤ at' ∧ at' < ((us.getD j (0, 0)).2 : Nat))) (hi : i < us.length) (h2 : ((us.getD i (0, 0)).1 : Int) ≤ at' ∧ at' < ((us.getD i (0, 0)).2 : Nat)) : ofP us at' 0 = i := by
  have hs : us = us.take i ++ us.drop i := (List.take_append_drop i us).symm
  rw [hs, ofP_skip]
  · rw [List.drop_eq_getElem_cons hi, ofP, if_pos (by simpa [List.getD, hi] using h2), List.length_take]
    simp; omega
  · intro u hu
    obtain ⟨j, hj, rfl⟩ := List.getElem_of_mem hu
    rw [List.length_take] at hj
    have := h1 j (by omega)
    simpa [List.getD, show j < us.length by omega] using this
theorem ofP_none (us : List (Nat × Nat)) (at' : Int) (h1 : ∀ j, j < us.length → ¬ (((us.getD j (0, 0)).1 : Int) ≤ at' ∧ at' < ((us.getD j (0, 0)).2 : Nat))) : ofP us at' 0 = -1 := by
  have := ofP_skip us [] at' 0 (fun u hu => by
    obtain ⟨j, hj, rfl⟩ := List.getElem_of_mem hu
    have := h1 j hj
    simpa [List.getD, hj] using this)
  simpa [ofP] using this
set_option maxHeartbeats 8000000 in
set_option maxRecDepth 1000000 in
theorem refOf_at (w : World) (n₀ len c : Nat) (p : Option Addr) (is : List Ins) (way at' : Int) (hI : IsIn n₀ w p len c is) (hn : n₀ ≤ w.heap.size) (b1 : len ≤ 100000) :
    Calls Try.prog 12 #[.slice p len c, .int .u8 way, .int .i64 at'] w fun e W' => e = .returned (.int .i64 (ofP (unitsP (opsOf is) way) at' 0)) ∧ Below w.heap.size w W' := by
  have CU := Lib.hid (refUnits_at w n₀ len c p is way hI hn b1)
  have hul : (unitsP (opsOf is) way).length ≤ 100000 := by
    have := unitsTo_len (opsOf is) way (opsOf is).length
    have h2 := opsOf_len is
    have h3 := hI.len_eq
    unfold unitsP
    omega
  clear hI
  generalize unitsP (opsOf is) way = US at *
  obtain ⟨n, hnn⟩ : ∃ n, US.length = n := ⟨_, rfl⟩
  have HNN := Lib.hid hnn
  rw [hnn] at CU hul
  clear hnn
  go_enter Try.func12, Try.ntmps12
  go_wp2_with fail
  (with_reducible refine CU.out.mono ?_)
  rintro e w1 ⟨up, uc, rfl, hU, hb1⟩
  have HU := Lib.hid hU
  have HB1 := Lib.hid hb1
  have hcap := hU.cap
  clear hU hb1 CU
  go_wp2_with fail
  go_loopw [8] (fun iv wr => ∃ i : Nat, iv = .int .i64 i ∧ i ≤ n ∧ wr = w1 ∧ Hid (∀ j, j < i → ¬ (((US.getD j (0, 0)).1 : Int) ≤ at' ∧ at' < ((US.getD j (0, 0)).2 : Nat)))) (fun iv _ => n - (intOf iv).toNat)
  case atStart => exact ⟨0, rfl, Nat.zero_le _, rfl, Lib.hid (fun j hj => by omega)⟩
  case round =>
    obtain ⟨i, rfl, hi, rfl, HX⟩ := hrel
    by_cases hlt : i < n
    · obtain ⟨b, rfl, hbn, hc⟩ := HU.out.cell (by omega)
      obtain ⟨m0, m1⟩ := hc i hlt
      have HI := Lib.hid (ofP_at US at' i HX.out (by rw [HNN.out]; exact hlt))
      have HN : Hid (∀ f t : Int, ((US.getD i (0, 0)).1 : Int) = f → (((US.getD i (0, 0)).2 : Nat) : Int) = t → ¬ (f ≤ at' ∧ at' < t) → ∀ j, j < i + 1 → ¬ (((US.getD j (0, 0)).1 : Int) ≤ at' ∧ at' < ((US.getD j (0, 0)).2 : Nat))) := Lib.hid (fun f t hf ht h j hj => by
        rcases Nat.lt_or_ge j i with h1 | h1
        · exact HX.out j h1
        · obtain rfl : j = i := by omega
          rw [hf, ht]; exact h)
      obtain ⟨f, hf⟩ : ∃ f : Int, ((US.getD i (0, 0)).1 : Int) = f := ⟨_, rfl⟩
      obtain ⟨t, ht⟩ : ∃ t : Int, (((US.getD i (0, 0)).2 : Nat) : Int) = t := ⟨_, rfl⟩
      have HN2 := Lib.hid (HN.out f t hf ht)
      rw [hf] at m0 HI
      rw [ht] at m1 HI
      clear hc hf ht HN
      by_cases h1 : f ≤ at'
      · have h1' : at' ≥ f := h1
        by_cases h2 : at' < t
        · have HV := Lib.hid (HI.out ⟨h1, h2⟩)
          go_wp2_with fail
          go_ret
          exact ⟨by rw [HV.out]; rfl, HB1.out⟩
        · have HX2 := Lib.hid (HN2.out (fun h => h2 h.2))
          go_wp2_with fail
          go_roundw
          case rel => exact ⟨i + 1, by simp, by omega, by simp, HX2⟩
          case measure => simp [intOf]; omega
      · have h1' : ¬ at' ≥ f := h1
        have HX2 := Lib.hid (HN2.out (fun h => h1 h.1))
        go_wp2_with fail
        go_roundw
        case rel => exact ⟨i + 1, by simp, by omega, by simp, HX2⟩
        case measure => simp [intOf]; omega
    · obtain rfl : i = n := by omega
      have HV := Lib.hid (ofP_none US at' (by rw [HNN.out]; exact HX.out))
      go_wp2_with fail
      go_ret
      exact ⟨by rw [HV.out]; rfl, HB1.out⟩
theorem below_drewN (B : Nat) (w : World) (n : Nat) : Below B w (w.drewN n) := by
  induction n with
  | zero => exact Below.refl _ _
  | succ n ih => exact ih.drew
theorem neqT (x : Tm) (W : World) : (binOp .neq 64 (.agg #[.int .u8 x.k, .int .i64 x.n, .int .i64 x.v]) (.agg #[.int .u8 x.k, .int .i64 x.n, .int .i64 x.v])).run Try.prog W = .ok (.bool false) W := by
  simp [go_sem]
set_option maxHeartbeats 8000000 in
set_option maxRecDepth 1000000 in
/-- Two like reckonings are the same. -/
theorem sameT_at (w : World) (n₀ len c c2 : Nat) (p q : Option Addr) (ts : List Tm) (h1 : TsIn n₀ w p len c ts) (h2 : TsIn n₀ w q len c2 ts) :
    Calls Try.prog 19 #[.slice p len c, .slice q len c2] w fun e w' => e = .returned (.bool true) ∧ ∀ B, Below B w w' := by
  have H1 := Lib.hid h1
  have H2 := Lib.hid h2
  have hc1 := h1.cap
  have hc2 := h2.cap
  have hsz := h1.sz
  clear h1 h2
  go_enter Try.func19, Try.ntmps19
  go_wp2_with fail
  go_loopw [5] (fun iv wr => ∃ i : Nat, iv = .int .i64 i ∧ i ≤ len ∧ Hid (∀ B, Below B w wr)) (fun iv _ => len - (intOf iv).toNat)
  case atStart => exact ⟨0, rfl, Nat.zero_le _, Lib.hid (fun B => Below.refl B w)⟩
  case round =>
    obtain ⟨i, rfl, hi, HB⟩ := hrel
    by_cases hlt : i < len
    · obtain ⟨b, off, rfl, hb, hc⟩ := (H1.out.on (Kb.of (HB.out n₀) (Nat.le_refl _))).cell (by omega)
      obtain ⟨b', off', rfl, hb', hc'⟩ := (H2.out.on (Kb.of (HB.out n₀) (Nat.le_refl _))).cell (by omega)
      obtain ⟨m0, m1, m2⟩ := hc i hlt
      obtain ⟨k0, k1, k2⟩ := hc' i hlt
      obtain ⟨o, ho⟩ : ∃ o, off + i * 3 = o := ⟨_, rfl⟩
      obtain ⟨o', ho'⟩ : ∃ o', off' + i * 3 = o' := ⟨_, rfl⟩
      rw [ho] at m0 m1 m2
      rw [ho'] at k0 k1 k2
      generalize ts.getD i default = x at *
      have hne : ∀ W, (binOp .neq 64 (.agg #[.int .u8 x.k, .int .i64 x.n, .int .i64 x.v]) (.agg #[.int .u8 x.k, .int .i64 x.n, .int .i64 x.v])).run Try.prog W = .ok (.bool false) W := fun W => neqT x W
      clear hc hc'
      go_wp2_with fail
      go_quiet (fail)
      go_wp2
      go_roundw
      case rel => exact ⟨i + 1, by simp, by omega, Lib.hid (fun B => (HB.out B).trans (below_drewN B wr nq))⟩
      case measure => simp [intOf]; omega
    · obtain rfl : i = len := by omega
      go_wp2_with fail
      go_ret
      exact ⟨rfl, HB.out⟩
/-- At most so many, of at most 40 terms and values each? -/
def fewI (x : Ins) : Bool := decide (x.key.length ≤ 40) && decide (x.vals.length ≤ 40)
def fewP (is : List Ins) (top : Int) : Bool := decide ((is.length : Int) ≤ top) && is.all fewI
theorem all_no (is : List Ins) (k : Nat) (h : k < is.length) (hk : fewI (is.getD k default) = false) : is.all fewI = false := by
  rw [List.all_eq_false]
  exact ⟨is.getD k default, by simp [List.getD, h], by rw [hk]; simp⟩
set_option maxHeartbeats 8000000 in
set_option maxRecDepth 1000000 in
theorem few_at (w : World) (n₀ len c : Nat) (p : Option Addr) (is : List Ins) (top : Int) (hI : IsIn n₀ w p len c is) (hb : top ≤ 1000000000) :
    Calls Try.prog 6 #[.slice p len c, .int .i64 top] w fun e w' => e = .returned (.bool (fewP is top)) ∧ w' = w := by
  have HI := Lib.hid hI
  have hlen := hI.len_eq
  have hcap := hI.cap
  clear hI
  by_cases ht : top < (len : Int)
  · have hF : fewP is top = false := by unfold fewP; rw [hlen]; simp; intro h; omega
    have HF := Lib.hid hF
    clear hF
    go_enter Try.func6, Try.ntmps6
    go_wp2_with fail
    go_ret
    exact ⟨by rw [HF.out]; rfl, rfl⟩
  · have ht2 : ¬ (len : Int) > top := by omega
    go_enter Try.func6, Try.ntmps6
    go_wp2_with fail
    go_loopw [5] (fun iv wr => ∃ i : Nat, iv = .int .i64 i ∧ i ≤ len ∧ wr = w ∧ Hid ((is.take i).all fewI = true)) (fun iv _ => len - (intOf iv).toNat)
    case atStart => exact ⟨0, rfl, Nat.zero_le _, rfl, Lib.hid rfl⟩
    case round =>
      obtain ⟨i, rfl, hi, rfl, HA⟩ := hrel
      by_cases hlt : i < len
      · obtain ⟨b, off, rfl, hbn, hc⟩ := HI.out.cell (by omega)
        obtain ⟨kp, kl, kc, vp, vl, vc, ic⟩ := hc i hlt
        have c11 := ic.c11
        have c12 := ic.c12
        have hkl := ic.key.len_eq
        have hvl := ic.vals.len_eq
        have HNO := Lib.hid (fun h => all_no is i (by omega) h)
        have HTK := Lib.hid (take_snoc is i (by omega))
        obtain ⟨x, hx⟩ : ∃ x, is.getD i default = x := ⟨_, rfl⟩
        rw [hx] at hkl hvl HNO HTK
        obtain ⟨o, ho⟩ : ∃ o, off + i * 13 = o := ⟨_, rfl⟩
        rw [ho] at c11 c12
        have hFI : fewI x = (decide (kl ≤ 40) && decide (vl ≤ 40)) := by unfold fewI; rw [hkl, hvl]
        have HFI := Lib.hid hFI
        clear hc ic hFI hx
        by_cases h1 : kl ≤ 40
        · have h1' : ¬ (kl : Int) > 40 := by omega
          by_cases h2 : vl ≤ 40
          · have h2' : ¬ (vl : Int) > 40 := by omega
            have HX : Hid ((is.take (i + 1)).all fewI = true) := Lib.hid (by rw [HTK.out, List.all_append, HA.out]; simp [HFI.out, h1, h2])
            go_wp2_with fail
            go_roundw
            case rel => exact ⟨i + 1, by simp, by omega, by simp, HX⟩
            case measure => simp [intOf]; omega
          · have h2' : (vl : Int) > 40 := by omega
            have HF : Hid (fewP is top = false) := Lib.hid (by unfold fewP; rw [HNO.out (by rw [HFI.out]; simp [h2])]; simp)
            go_wp2_with fail
            go_ret
            exact ⟨by rw [HF.out]; rfl, by simp⟩
        · have h1' : (kl : Int) > 40 := by omega
          have HF : Hid (fewP is top = false) := Lib.hid (by unfold fewP; rw [HNO.out (by rw [HFI.out]; simp [h1])]; simp)
          go_wp2_with fail
          go_ret
          exact ⟨by rw [HF.out]; rfl, by simp⟩
      · obtain rfl : i = len := by omega
        have HF : Hid (fewP is top = true) := Lib.hid (by
          have := HA.out
          rw [List.take_of_length_le (by omega)] at this
          unfold fewP
          rw [this, hlen]
          simp; omega)
        go_wp2_with fail
        go_ret
        exact ⟨by rw [HF.out]; rfl, by simp⟩
end Go.Proofs.Ytfboifbpbjmcbaa.Pz
