import Derived.Test.YtijaelncmjcbmaaTreeJ
import Derived.IntWalk
namespace Go.Proofs.Ytijaelncmjcbmaa
open Go.RowKit
theorem infoI : (Try.prog.info? 3).map (fun i => (i.zero, i.size, i.bytes)) = some (some (.int .i64 0), 1, 8) := by kernel_rfl
theorem make_int (W : World) (n : Nat) (hn : n ≤ 70000) : ∃ W', (Instr.makeSlice 35 (.int .i64 (n : Int)) (.int .i64 (n : Int))).run Try.prog W = .ok (.slice (some ⟨W.heap.size, 0, none⟩) n n) W' ∧ Below W.heap.size W W' ∧ W'.ownsRow W.heap.size 3 1 (.slice (some ⟨W.heap.size, 0, none⟩) n n) n (List.replicate n (.int .i64 0)) := by
  obtain ⟨i0, hi, hz0, hz1, hz2⟩ := info_parts infoI
  obtain ⟨W', h1, h2, h3⟩ := run_makeSlice_full (P := Try.prog) W W.heap.size 35 3 i0 (.int .i64 0) 1 Try.underlying35 hi hz0 hz1 .i64 .i64 n (by omega) (by rw [hz2]; omega) (by unfold maxLen; omega) (Nat.le_refl _)
  refine ⟨W', h1, ⟨h3.os, h3.tape, h3.output, h3.size, fun k hk => h3.block k hk (by simp)⟩, ?_⟩
  have e : (madeCells (Value.int .i64 0).cells (n * 1)).toList = List.replicate n (.int .i64 0) := by
    rw [Nat.mul_one]
    exact toList_madeCells_one _ _
  rw [e] at h2
  exact h2
theorem stepS_le (s : List Nat) (b n : Nat) (_hn : b + s.length ≤ n) (hs : ∀ x, x < s.length → b + x + s.getD x 0 ≤ n) (ks : List Int) (a e : Nat) (hba : b ≤ a) (ha : a ≤ n) (h : stepS s b ks a = some e) : a ≤ e ∧ e ≤ n := by
  induction ks generalizing a with
  | nil => simp [stepS] at h; omega
  | cons k ks ih =>
    simp only [stepS] at h
    split at h
    · rename_i hk
      have h1 := hs (a - b) (by omega)
      have := ih (a + s.getD (a - b) 0) (by omega) (by omega) h
      omega
    · simp at h
theorem sizesL_le : ∀ (rows : List (List Int)) (b : Nat) (s : List Nat), sizesL rows b = some s → ∀ x, x < s.length → b + x + s.getD x 0 ≤ b + rows.length := by
  intro rows
  induction rows with
  | nil => intro b s h x hx; simp [sizesL] at h; subst h; simp at hx
  | cons r rs ih =>
    intro b s h x hx
    simp only [sizesL] at h
    split at h
    · simp at h
    · rename_i s1 h1
      have hl := sizesL_len _ _ _ h1
      have h2 := ih _ _ h1
      split at h
      · simp at h
      · rename_i e h3
        simp at h; subst h
        cases x with
        | zero =>
          have := stepS_le s1 (b + 1) (b + 1 + rs.length) (by omega) h2 r (b + 1) e (Nat.le_refl _) (by omega) h3
          simp; omega
        | succ x =>
          have := h2 x (by simpa using hx)
          simp only [List.getD_cons_succ, List.length_cons]
          omega
theorem sizesL_none : ∀ (rows : List (List Int)) (b m : Nat), sizesL (rows.drop m) (b + m) = none → m ≤ rows.length → sizesL rows b = none := by
  intro rows b m
  induction m generalizing rows b with
  | zero => intro h _; simpa using h
  | succ m ih =>
    intro h hm
    cases rows with
    | nil => simp at hm
    | cons r rs =>
      simp only [List.drop_succ_cons] at h
      have := ih rs (b + 1) (by rw [show b + 1 + m = b + (m + 1) by omega]; exact h) (by simpa using hm)
      simp only [sizesL, this]
/-- What sizes answers. -/
def SizesOut (ns : List Nd) (W : World) (v : Value) : Prop := match sizesP ns with
  | none => v = .slice none 0 0
  | some s => ∃ g, v = .slice (some ⟨g, 0, none⟩) ns.length ns.length ∧ ∀ i, i < ns.length → W.cell? ⟨g, i, none⟩ = some (.int .i64 ((s.getD i 0 : Nat) : Int))
theorem SizesOut.none {ns : List Nd} {W : World} (h : sizesP ns = none) : SizesOut ns W (.slice none 0 0) := by unfold SizesOut; rw [h]
theorem drop_row (ns : List Nd) (q : Nat) (h : q < ns.length) : (rowsOf ns).drop q = (ns.getD q default).kids :: (rowsOf ns).drop (q + 1) := by
  have hl : q < (rowsOf ns).length := by rw [rowsOf_length]; exact h
  rw [List.drop_eq_getElem_cons hl]
  simp [rowsOf, List.getD, h]
set_option maxHeartbeats 16000000 in
set_option maxRecDepth 1000000 in
theorem sizes_at (w : World) (p : Option Addr) (len c : Nat) (ns : List Nd) (h : TV w p len c ns) (hl : len ≤ 1000) (hk : ∀ nd ∈ ns, nd.kids.length ≤ 1000) :
    Calls Try.prog 22 #[.agg #[.slice p len c]] w fun e w' => (∃ v, e = .returned v ∧ SizesOut ns w' v) ∧ Below w.heap.size w w' := by
  have H := Lib.hid h
  have HK := Lib.hid hk
  have hlen := Lib.hid h.len_eq
  clear h hk
  have B0 := Lib.hid (one_below w (.cells #[.slice p len c] 24))
  obtain ⟨w1, hmk, hb1, hown⟩ := make_int (w.alloc (.cells #[.slice p len c] 24)) len (by omega)
  have hG : (w.alloc (.cells #[.slice p len c] 24)).heap.size = w.heap.size + 1 := by simp
  rw [hG] at hmk hb1 hown
  have B1 := Lib.hid hb1
  have c0 : w1.cell? ⟨w.heap.size, 0, none⟩ = some (.slice p len c) := by rw [hb1.cell (by simp)]; simp
  have HO0 := Lib.hid hown
  clear hb1 hown hG
  have hw1 : IntKind.i64.wrap ((len : Int) - 1) = (len : Int) - 1 := IntWalk.i64_in _ (by omega)
  go_enter Try.func22, Try.ntmps22
  go_wp2_with fail
  clear hmk
  go_loopw [4] (fun iv wr => ∃ (m : Nat) (s : List Nat) (L : List Value), m ≤ len ∧ iv = .int .i64 ((m : Int) - 1) ∧ Hid (sizesL ((rowsOf ns).drop m) m = some s) ∧ Hid (wr.ownsRow (w.heap.size + 1) 3 1 (.slice (some ⟨w.heap.size + 1, 0, none⟩) len len) len L) ∧ Hid (∀ j, m ≤ j → j < len → L[j]? = some (.int .i64 ((s.getD (j - m) 0 : Nat) : Int))) ∧ Hid (Below (w.heap.size + 1) (w.alloc (.cells #[.slice p len c] 24)) wr)) (fun iv _ => (intOf iv + 1).toNat)
  case atStart => exact ⟨len, [], _, by omega, rfl, Lib.hid (by rw [List.drop_eq_nil_of_le (by rw [rowsOf_length, hlen.out]; omega)]; rfl), HO0, Lib.hid (fun j h1 h2 => by omega), B1⟩
  case round =>
    obtain ⟨m, s, L, hml, rfl, HS, HO, HL, HB⟩ := hrel
    have c0 : wr.cell? ⟨w.heap.size, 0, none⟩ = some (.slice p len c) := by rw [HB.out.cell (by simp)]; simp
    have HBW := Lib.hid (B0.out.trans (HB.out.mono (by omega)))
    by_cases hm : m = 0
    · subst hm
      clear hw1
      have HS0 : Hid (sizesL (rowsOf ns) 0 = some s) := Lib.hid (by simpa using HS.out)
      have HSL : Hid (s.length = len) := Lib.hid (by have := sizesL_len _ _ _ HS0.out; rw [rowsOf_length, hlen.out] at this; exact this)
      by_cases hl0 : len = 0
      · have HNO : Hid (sizesP ns = none) := Lib.hid (by
          unfold sizesP
          rw [HS0.out]
          simp only
          rw [if_neg (fun hc => hc.1 (by rw [HSL.out, hl0]))])
        have d0 : ((len : Int) == 0) = true := by simp [hl0]
        clear hl0
        go_wp2
        go_ret
        exact ⟨⟨_, rfl, SizesOut.none HNO.out⟩, HBW.out⟩
      · have d0 : ((len : Int) == 0) = false := by simp; omega
        have p0 : 0 < len := by omega
        have p1 : (0 : Int) < (len : Int) := by omega
        have hc0 := HO.out.cellAt 0 (by omega)
        rw [HL.out 0 (by omega) (by omega)] at hc0
        simp only [Nat.sub_zero] at hc0
        obtain ⟨z0, hz0⟩ : ∃ z, s.getD 0 0 = z := ⟨_, rfl⟩
        rw [hz0] at hc0
        have HZ0 := Lib.hid hz0
        clear hz0
        by_cases hz : z0 = len
        · have HYES : Hid (sizesP ns = some s) := Lib.hid (by
            unfold sizesP
            rw [HS0.out]
            simp only
            rw [if_pos ⟨by rw [HSL.out]; exact hl0, by rw [HZ0.out, hz, HSL.out]⟩])
          have d1 : ((z0 : Int) != (len : Int)) = false := by simp [hz]
          clear hl0 hz
          go_wp2
          go_ret
          refine ⟨⟨.slice (some ⟨w.heap.size + 1, 0, none⟩) len len, rfl, ?_⟩, HBW.out⟩
          unfold SizesOut
          rw [HYES.out]
          refine ⟨w.heap.size + 1, by rw [hlen.out], fun i hi => ?_⟩
          rw [hlen.out] at hi
          rw [HO.out.cellAt i (by omega), HL.out i (by omega) hi, Nat.sub_zero]
        · have HNO : Hid (sizesP ns = none) := Lib.hid (by
            unfold sizesP
            rw [HS0.out]
            simp only
            rw [if_neg (fun hc => hz (by rw [← HZ0.out, hc.2, HSL.out]))])
          have d1 : ((z0 : Int) != (len : Int)) = true := by simp; omega
          clear hl0 hz
          go_wp2
          go_ret
          exact ⟨⟨_, rfl, SizesOut.none HNO.out⟩, HBW.out⟩
    · obtain ⟨q, rfl⟩ : ∃ q, m = q + 1 := ⟨m - 1, by omega⟩
      have hq : ((q + 1 : Nat) : Int) - 1 = (q : Int) := by omega
      rw [hq]
      have hql : q < len := by omega
      obtain ⟨b, off, rfl, hbl, hc⟩ := H.out.node (by omega)
      obtain ⟨kp, kl, kc, hnw⟩ := hc q hql
      have k4 := (hnw.on hbl HBW.out).kids
      have HIV := Lib.hid (hnw.iv.on HBW.out)
      have hkl := hnw.iv.len_eq
      have hix : q < ns.length := by have := hlen.out; omega
      have HD := Lib.hid (drop_row ns q hix)
      have hkb := HK.out (ns.getD q default) (by simp [List.getD, hix])
      generalize (ns.getD q default).kids = ks at *
      have hkl2 : kl ≤ 1000 := by omega
      have HKL := Lib.hid hkl
      clear hnw hc hkl hkb hix hq hw1
      go_wp2_with fail
      obtain ⟨wo, rfl⟩ : ∃ wo : World, wo = wr := ⟨_, rfl⟩
      have HSL := Lib.hid (sizesL_len _ _ _ HS.out)
      have HLE := Lib.hid (sizesL_le _ _ _ HS.out)
      have hsl : s.length = len - (q + 1) := by have := HSL.out; rw [List.length_drop, rowsOf_length, hlen.out] at this; exact this
      have hrl : ((rowsOf ns).drop (q + 1)).length = len - (q + 1) := by rw [List.length_drop, rowsOf_length, hlen.out]
      have HSL2 := Lib.hid hsl
      have HRL := Lib.hid hrl
      clear hsl hrl
      have hsize := HB.out.size
      go_loopw [5, 29] (fun av jv wq => ∃ j a : Nat, j ≤ kl ∧ q < a ∧ a ≤ len ∧ av = .int .i64 a ∧ jv = .int .i64 j ∧ Hid (stepS s (q + 1) (ks.drop j) a = stepS s (q + 1) ks (q + 1)) ∧ wq = wo) (fun _ jv _ => kl - (intOf jv).toNat)
      case atStart => exact ⟨0, q + 1, by omega, by omega, by omega, by go_num, rfl, Lib.hid rfl, rfl⟩
      case round =>
        obtain ⟨j, a, hj, haq, hal, rfl, rfl, HST, rfl⟩ := hrel
        by_cases hjl : j < kl
        · obtain ⟨kb, koff, rfl, hkbl, hkc⟩ := HIV.out.cell (by omega)
          have hkj := hkc j hjl
          have HDR : Hid (ks.drop j = ks.getD j 0 :: ks.drop (j + 1)) := Lib.hid (by
            have hjx : j < ks.length := by have := HKL.out; omega
            rw [List.drop_eq_getElem_cons hjx]
            simp [List.getD, hjx])
          generalize ks.getD j 0 = kid at *
          clear hkc hkbl
          have BAD : ∀ (hne : ¬ (kid = (a : Int) ∧ a < len)), Hid (sizesP ns = none) := fun hne => Lib.hid (by
            have h1 : stepS s (q + 1) (ks.drop j) a = none := by
              rw [HDR.out]
              simp only [stepS]
              rw [if_neg (fun hc => hne ⟨hc.1, by have := HSL2.out; omega⟩)]
            rw [HST.out] at h1
            have h2 : sizesL ((rowsOf ns).drop q) q = none := by
              rw [HD.out]
              simp only [sizesL, HS.out, h1]
            have h3 := sizesL_none (rowsOf ns) 0 q (by rw [Nat.zero_add]; exact h2) (by rw [rowsOf_length, hlen.out]; omega)
            unfold sizesP
            rw [h3])
          by_cases hka : kid = (a : Int)
          · subst hka
            have d1 : ((a : Int) != (a : Int)) = false := by simp
            by_cases hal2 : a < len
            · have d2 : decide ((a : Int) ≥ (len : Int)) = false := by simp; omega
              have hla := HL.out a (by omega) hal2
              have hcell := HO.out.cellAt a (by omega)
              rw [hla] at hcell
              have HBD := Lib.hid (HLE.out (a - (q + 1)) (by have := HSL2.out; omega))
              have HNX : Hid (stepS s (q + 1) (ks.drop (j + 1)) (a + s.getD (a - (q + 1)) 0) = stepS s (q + 1) ks (q + 1)) := Lib.hid (by
                rw [← HST.out, HDR.out]
                simp only [stepS]
                rw [if_pos ⟨trivial, by have := HSL2.out; omega⟩])
              have hb2 : a + s.getD (a - (q + 1)) 0 ≤ len := by have := HBD.out; have := HRL.out; omega
              generalize s.getD (a - (q + 1)) 0 = z at *
              have hw : IntKind.i64.wrap ((a : Int) + (z : Int)) = (a : Int) + (z : Int) := IntWalk.i64_in _ (by omega)
              clear hla BAD HBD
              go_wp2_with fail
              go_roundw
              case rel => exact ⟨j + 1, a + z, by omega, by omega, hb2, by go_num, by go_num, HNX, trivial⟩
              case measure => simp [intOf]; omega
            · have d2 : decide ((a : Int) ≥ (len : Int)) = true := by simp; omega
              have HNO := BAD (fun hc => hal2 hc.2)
              clear BAD
              go_wp2
              go_ret
              exact ⟨⟨_, rfl, SizesOut.none HNO.out⟩, HBW.out⟩
          · have d1 : (kid != (a : Int)) = true := by simpa using hka
            have HNO := BAD (fun hc => hka hc.1)
            clear BAD hka
            go_wp2
            go_ret
            exact ⟨⟨_, rfl, SizesOut.none HNO.out⟩, HBW.out⟩
        · have HEND : Hid (stepS s (q + 1) ks (q + 1) = some a) := Lib.hid (by
            have := HST.out
            rw [List.drop_eq_nil_of_le (by have := HKL.out; omega)] at this
            simpa [stepS] using this.symm)
          have HS2 : Hid (sizesL ((rowsOf ns).drop q) q = some ((a - q) :: s)) := Lib.hid (by
            rw [HD.out]
            simp only [sizesL, HS.out, HEND.out])
          have hcell := HO.out.cellAt q (by omega)
          obtain ⟨v0, hv0⟩ : ∃ v, L[q]? = some v := ⟨L[q]'(by have := HO.out.1; omega), List.getElem?_eq_getElem _⟩
          rw [hv0] at hcell
          have hfz := HO.out.frozenAt q
          have hw : IntKind.i64.wrap ((a : Int) - (q : Int)) = (a : Int) - (q : Int) := IntWalk.i64_in _ (by omega)
          have hw2 : IntKind.i64.wrap ((q : Int) - 1) = (q : Int) - 1 := IntWalk.i64_in _ (by omega)
          have HO3 := Lib.hid (HO.out.stored q (.int .i64 ((a : Int) - (q : Int)))).1
          have HB3 := Lib.hid (HB.out.setCell (p := ⟨w.heap.size + 1, q, none⟩) (Nat.le_refl _) (.int .i64 ((a : Int) - (q : Int))))
          have hll : L.length = len := by have := HO.out.1; omega
          have HL3 : Hid (∀ j, q ≤ j → j < len → (L.set q (.int .i64 ((a : Int) - (q : Int))))[j]? = some (.int .i64 ((((a - q) :: s).getD (j - q) 0 : Nat) : Int))) := Lib.hid (by
            intro j h1 h2
            by_cases hjq : j = q
            · subst hjq
              rw [List.getElem?_set_self (by omega)]
              simp; try omega
            · rw [List.getElem?_set_ne (by omega), HL.out j (by omega) h2]
              have e : j - q = (j - (q + 1)) + 1 := by omega
              rw [e, List.getD_cons_succ])
          clear hll hv0
          go_wp2_with fail
          go_roundw
          case rel => exact ⟨q, (a - q) :: s, _, by omega, by go_num, HS2, HO3, HL3, HB3⟩
          case measure => (simp [intOf]; try omega)
end Go.Proofs.Ytijaelncmjcbmaa
