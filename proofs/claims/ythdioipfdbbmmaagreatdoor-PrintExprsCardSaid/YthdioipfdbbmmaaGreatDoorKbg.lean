/- Contracts on the way to the laws of layer 5: PrintWh, TreeK, TreeW, TreeX. -/
import Derived.Test.YthdioipfdbbmmaaGreatDoorKaa
import Derived.Test.YthdioipfdbbmmaaGreatDoorKax
import Derived.Test.YthdioipfdbbmmaaGreatDoorKbf
import Derived.IntWalk
set_option linter.all false
set_option maxRecDepth 1000000
set_option maxHeartbeats 16000000
namespace Go.Proofs.YthdioipfdbbmmaaGreatDoor
section
open Go.RowKit Tr Go.Shelf
theorem write18 (ns : List Nd) (a : Nat) (s : ByteArray) (n : Int) (ks : List Ast) : HasW ns 18 a s n ks (fun d => stT d (.mk 18 a s n ks)) := by
 intro d o w0 w b p len c most v L a' kp kl kc hT hO hw ht hlen hd hb hI hP hmost hfit
 have HEQ : stT d (.mk 18 a s n ks) = lineT d (catT [⟨#[114, 111, 108, 108, 98, 97, 99, 107, 59]⟩]) := by
  show stF d 18 s n _ _ = _
  unfold stF
  rw [if_neg (by decide), if_neg (by decide), if_neg (by decide), if_neg (by decide), if_neg (by decide), if_neg (by decide), if_neg (by decide), if_neg (by decide), if_neg (by decide), if_neg (by decide), if_neg (by decide), if_pos rfl]
  simp only [catT, app_none]
 have hbw := hP.lt
 have hd7 : d ≤ 70000 := by omega
 have LN : Hid (∀ w' g, PrW w0 b (.slice p len c) most v L w' → w'.heap[g]? = some (.cells #[.string ⟨#[114, 111, 108, 108, 98, 97, 99, 107, 59]⟩] 9 (0, 0)) → Calls Tryz.prog 167 #[.pointer (some ⟨b, 0, none⟩), .int .i64 (d : Int), .slice (some ⟨g, 0, none⟩) 1 1] w' fun e w'' => e = .returned (.tuple #[]) ∧ ∃ v', PrW w0 b (.slice p len c) most v' (L ++ stT d (.mk 18 a s n ks)) w'' ∧ KeepT b w' w'') := lh (fun w' g h1 h2 => by rw [HEQ]; exact line_at w0 w' b _ most v L h1 d g 1 [⟨#[114, 111, 108, 108, 98, 97, 99, 107, 59]⟩] h2 (by simp) hd7 (by omega) (by simp only [catT, ByteArray.size_append]; exact Nat.le_trans (show _ ≤ 100 by decide) (by decide)))
 have HS := lh ((hP.on (one_below w (.cells #[.int .u8 18, .int .i64 a', .string s, .int .i64 n, .slice kp kl kc] 54))).on (one_below _ (.cells #[.string ⟨#[114, 111, 108, 108, 98, 97, 99, 107, 59]⟩] 9)))
 have F := lh (heap_alloc_new (w.alloc (.cells #[.int .u8 18, .int .i64 a', .string s, .int .i64 n, .slice kp kl kc] 54)) (.cells #[.string ⟨#[114, 111, 108, 108, 98, 97, 99, 107, 59]⟩] 9))
 show Calls _ _ _ _ (fun e w' => e = .returned (.tuple #[]) ∧ ∃ v', PrW w0 b _ most v' (L ++ stT d (.mk 18 a s n ks)) w')
 generalize stT d (.mk 18 a s n ks) = ST at *
 clear hT hO hw ht hI hP hfit hmost HEQ hd hlen hb hbw
 go_enter Tryz.func99, Tryz.ntmps99
 go_wp2_with (go_at_call 167; (with_reducible refine (LN.out _ _ HS.out (by first | exact F.out | simpa using F.out)).mono ?_); rintro e w5 ⟨rfl, v', HP, HK⟩)
 go_end0
 exact ⟨rfl, v', HP⟩
theorem write19 (ns : List Nd) (a : Nat) (s : ByteArray) (n : Int) (ks : List Ast) : HasW ns 19 a s n ks (fun d => stT d (.mk 19 a s n ks)) := by
 intro d o w0 w b p len c most v L a' kp kl kc hT hO hw ht hlen hd hb hI hP hmost hfit
 have HEQ : stT d (.mk 19 a s n ks) = lineT d (catT [⟨#[99, 104, 111, 112, 59]⟩]) := by
  show stF d 19 s n _ _ = _
  unfold stF
  rw [if_neg (by decide), if_neg (by decide), if_neg (by decide), if_neg (by decide), if_neg (by decide), if_neg (by decide), if_neg (by decide), if_neg (by decide), if_neg (by decide), if_neg (by decide), if_neg (by decide), if_neg (by decide), if_pos rfl]
  simp only [catT, app_none]
 have hbw := hP.lt
 have hd7 : d ≤ 70000 := by omega
 have LN : Hid (∀ w' g, PrW w0 b (.slice p len c) most v L w' → w'.heap[g]? = some (.cells #[.string ⟨#[99, 104, 111, 112, 59]⟩] 9 (0, 0)) → Calls Tryz.prog 167 #[.pointer (some ⟨b, 0, none⟩), .int .i64 (d : Int), .slice (some ⟨g, 0, none⟩) 1 1] w' fun e w'' => e = .returned (.tuple #[]) ∧ ∃ v', PrW w0 b (.slice p len c) most v' (L ++ stT d (.mk 19 a s n ks)) w'' ∧ KeepT b w' w'') := lh (fun w' g h1 h2 => by rw [HEQ]; exact line_at w0 w' b _ most v L h1 d g 1 [⟨#[99, 104, 111, 112, 59]⟩] h2 (by simp) hd7 (by omega) (by simp only [catT, ByteArray.size_append]; exact Nat.le_trans (show _ ≤ 100 by decide) (by decide)))
 have HS := lh ((hP.on (one_below w (.cells #[.int .u8 19, .int .i64 a', .string s, .int .i64 n, .slice kp kl kc] 54))).on (one_below _ (.cells #[.string ⟨#[99, 104, 111, 112, 59]⟩] 9)))
 have F := lh (heap_alloc_new (w.alloc (.cells #[.int .u8 19, .int .i64 a', .string s, .int .i64 n, .slice kp kl kc] 54)) (.cells #[.string ⟨#[99, 104, 111, 112, 59]⟩] 9))
 show Calls _ _ _ _ (fun e w' => e = .returned (.tuple #[]) ∧ ∃ v', PrW w0 b _ most v' (L ++ stT d (.mk 19 a s n ks)) w')
 generalize stT d (.mk 19 a s n ks) = ST at *
 clear hT hO hw ht hI hP hfit hmost HEQ hd hlen hb hbw
 go_enter Tryz.func99, Tryz.ntmps99
 go_wp2_with (go_at_call 167; (with_reducible refine (LN.out _ _ HS.out (by first | exact F.out | simpa using F.out)).mono ?_); rintro e w5 ⟨rfl, v', HP, HK⟩)
 go_end0
 exact ⟨rfl, v', HP⟩
end
namespace Tr
open Go.RowKit
theorem infoI : (Tryz.prog.info? 3).map (fun i => (i.zero, i.size, i.bytes)) = some (some (.int .i64 0), 1, 8) := by kernel_rfl
theorem make_int (W : World) (n : Nat) (hn : n ≤ 70000) : ∃ W', (Instr.makeSlice 32 (.int .i64 (n : Int)) (.int .i64 (n : Int))).run Tryz.prog W = .ok (.slice (some ⟨W.heap.size, 0, none⟩) n n) W' ∧ Below W.heap.size W W' ∧ W'.ownsRow W.heap.size 3 1 (.slice (some ⟨W.heap.size, 0, none⟩) n n) n (List.replicate n (.int .i64 0)) := by
 obtain ⟨i0, hi, hz0, hz1, hz2⟩ := info_parts infoI
 obtain ⟨W', h1, h2, h3⟩ := run_makeSlice_full (P := Tryz.prog) W W.heap.size 32 3 i0 (.int .i64 0) 1 Tryz.underlying32 hi hz0 hz1 .i64 .i64 n (by omega) (by rw [hz2]; omega) (by unfold maxLen; omega) (Nat.le_refl _)
 refine ⟨W', h1, ⟨h3.os, h3.tape, h3.output, h3.size, fun k hk => h3.block k hk (by simp)⟩, ?_⟩
 have e : (madeCells (Value.int .i64 0).cells (n * 1)).toList = List.replicate n (.int .i64 0) := by
  rw [Nat.mul_one]
  exact toList_madeCells_one _ _
 rw [e] at h2
 exact h2
theorem stepS_le (s : List Nat) (b n : Nat) (_hn : b + s.length ≤ n) (hs : ∀ x, x < s.length → b + x + s.getD x 0 ≤ n) (ks : List Int) (a e : Nat) (hba : b ≤ a) (ha : a ≤ n) (h : stepS s b ks a = some e) : a ≤ e ∧ e ≤ n := by
 induction ks generalizing a with
 | nil => simp [stepS] at h; omega
 | cons k ks ih =>
  simp only [stepS] at h
  split at h
  · rename_i hk
    have h1 := hs (a - b) (by omega)
    have := ih (a + s.getD (a - b) 0) (by omega) (by omega) h
    omega
  · simp at h
theorem sizesL_le : ∀ (rows : List (List Int)) (b : Nat) (s : List Nat), sizesL rows b = some s → ∀ x, x < s.length → b + x + s.getD x 0 ≤ b + rows.length := by
 intro rows
 induction rows with
 | nil => intro b s h x hx; simp [sizesL] at h; subst h; simp at hx
 | cons r rs ih =>
  intro b s h x hx
  simp only [sizesL] at h
  split at h
  · simp at h
  · rename_i s1 h1
    have hl := sizesL_len _ _ _ h1
    have h2 := ih _ _ h1
    split at h
    · simp at h
    · rename_i e h3
      simp at h; subst h
      cases x with
      | zero =>
       have := stepS_le s1 (b + 1) (b + 1 + rs.length) (by omega) h2 r (b + 1) e (Nat.le_refl _) (by omega) h3
       simp; omega
      | succ x =>
       have := h2 x (by simpa using hx)
       simp only [List.getD_cons_succ, List.length_cons]
       omega
theorem sizesL_none : ∀ (rows : List (List Int)) (b m : Nat), sizesL (rows.drop m) (b + m) = none → m ≤ rows.length → sizesL rows b = none := by
 intro rows b m
 induction m generalizing rows b with
 | zero => intro h _; simpa using h
 | succ m ih =>
  intro h hm
  cases rows with
  | nil => simp at hm
  | cons r rs =>
   simp only [List.drop_succ_cons] at h
   have := ih rs (b + 1) (by rw [show b + 1 + m = b + (m + 1) by omega]; exact h) (by simpa using hm)
   simp only [sizesL, this]
def SizesOut (ns : List Nd) (W : World) (v : Value) : Prop := match sizesP ns with
 | none => v = .slice none 0 0
 | some s => ∃ g, v = .slice (some ⟨g, 0, none⟩) ns.length ns.length ∧ ∀ i, i < ns.length → W.cell? ⟨g, i, none⟩ = some (.int .i64 ((s.getD i 0 : Nat) : Int))
theorem SizesOut.none {ns : List Nd} {W : World} (h : sizesP ns = none) : SizesOut ns W (.slice none 0 0) := by unfold SizesOut; rw [h]
theorem drop_row (ns : List Nd) (q : Nat) (h : q < ns.length) : (rowsOf ns).drop q = (ns.getD q default).kids :: (rowsOf ns).drop (q + 1) := by
 have hl : q < (rowsOf ns).length := by rw [rowsOf_length]; exact h
 rw [List.drop_eq_getElem_cons hl]
 simp [rowsOf, List.getD, h]
theorem sizes_at (w : World) (p : Option Addr) (len c : Nat) (ns : List Nd) (h : TV w p len c ns) (hl : len ≤ 70000) (hk : ∀ nd ∈ ns, nd.kids.length ≤ 70000) :
 Calls Tryz.prog 68 #[.agg #[.slice p len c]] w fun e w' => (∃ v, e = .returned v ∧ SizesOut ns w' v) ∧ Below w.heap.size w w' := by
 have H := lh h
 have HK := lh hk
 have hlen := lh h.len_eq
 clear h hk
 have B0 := lh (one_below w (.cells #[.slice p len c] 39))
 obtain ⟨w1, hmk, hb1, hown⟩ := make_int (w.alloc (.cells #[.slice p len c] 39)) len (by omega)
 have hG : (w.alloc (.cells #[.slice p len c] 39)).heap.size = w.heap.size + 1 := by simp
 rw [hG] at hmk hb1 hown
 have B1 := lh hb1
 have c0 : w1.cell? ⟨w.heap.size, 0, none⟩ = some (.slice p len c) := by rw [hb1.cell (by simp)]; simp
 have HO0 := lh hown
 clear hb1 hown hG
 have hw1 : IntKind.i64.wrap ((len : Int) - 1) = (len : Int) - 1 := IntWalk.i64_in _ (by omega)
 go_enter Tryz.func68, Tryz.ntmps68
 go_wp2_with fail
 clear hmk
 go_loopw [4] (fun iv wr => ∃ (m : Nat) (s : List Nat) (L : List Value), m ≤ len ∧ iv = .int .i64 ((m : Int) - 1) ∧ Hid (sizesL ((rowsOf ns).drop m) m = some s) ∧ Hid (wr.ownsRow (w.heap.size + 1) 3 1 (.slice (some ⟨w.heap.size + 1, 0, none⟩) len len) len L) ∧ Hid (∀ j, m ≤ j → j < len → L[j]? = some (.int .i64 ((s.getD (j - m) 0 : Nat) : Int))) ∧ Hid (Below (w.heap.size + 1) (w.alloc (.cells #[.slice p len c] 39)) wr)) (fun iv _ => (intOf iv + 1).toNat)
 case atStart => exact ⟨len, [], _, by omega, rfl, lh (by rw [List.drop_eq_nil_of_le (by rw [rowsOf_length, hlen.out]; omega)]; rfl), HO0, lh (fun j h1 h2 => by omega), B1⟩
 case round =>
  obtain ⟨m, s, L, hml, rfl, HS, HO, HL, HB⟩ := hrel
  have c0 : wr.cell? ⟨w.heap.size, 0, none⟩ = some (.slice p len c) := by rw [HB.out.cell (by simp)]; simp
  have HBW := lh (B0.out.trans (HB.out.mono (by omega)))
  by_cases hm : m = 0
  · subst hm
    clear hw1
    have HS0 : Hid (sizesL (rowsOf ns) 0 = some s) := lh (by simpa using HS.out)
    have HSL : Hid (s.length = len) := lh (by have := sizesL_len _ _ _ HS0.out; rw [rowsOf_length, hlen.out] at this; exact this)
    by_cases hl0 : len = 0
    · have HNO : Hid (sizesP ns = none) := lh (by
       unfold sizesP
       rw [HS0.out]
       simp only
       rw [if_neg (fun hc => hc.1 (by rw [HSL.out, hl0]))])
      have d0 : ((len : Int) == 0) = true := by simp [hl0]
      clear hl0
      go_wp2
      go_ret
      exact ⟨⟨_, rfl, SizesOut.none HNO.out⟩, HBW.out⟩
    · have d0 : ((len : Int) == 0) = false := by simp; omega
      have p0 : 0 < len := by omega
      have p1 : (0 : Int) < (len : Int) := by omega
      have hc0 := HO.out.cellAt 0 (by omega)
      rw [HL.out 0 (by omega) (by omega)] at hc0
      simp only [Nat.sub_zero] at hc0
      obtain ⟨z0, hz0⟩ : ∃ z, s.getD 0 0 = z := ⟨_, rfl⟩
      rw [hz0] at hc0
      have HZ0 := lh hz0
      clear hz0
      by_cases hz : z0 = len
      · have HYES : Hid (sizesP ns = some s) := lh (by
         unfold sizesP
         rw [HS0.out]
         simp only
         rw [if_pos ⟨by rw [HSL.out]; exact hl0, by rw [HZ0.out, hz, HSL.out]⟩])
        have d1 : ((z0 : Int) != (len : Int)) = false := by simp [hz]
        clear hl0 hz
        go_wp2
        go_ret
        refine ⟨⟨.slice (some ⟨w.heap.size + 1, 0, none⟩) len len, rfl, ?_⟩, HBW.out⟩
        unfold SizesOut
        rw [HYES.out]
        refine ⟨w.heap.size + 1, by rw [hlen.out], fun i hi => ?_⟩
        rw [hlen.out] at hi
        rw [HO.out.cellAt i (by omega), HL.out i (by omega) hi, Nat.sub_zero]
      · have HNO : Hid (sizesP ns = none) := lh (by
         unfold sizesP
         rw [HS0.out]
         simp only
         rw [if_neg (fun hc => hz (by rw [← HZ0.out, hc.2, HSL.out]))])
        have d1 : ((z0 : Int) != (len : Int)) = true := by simp; omega
        clear hl0 hz
        go_wp2
        go_ret
        exact ⟨⟨_, rfl, SizesOut.none HNO.out⟩, HBW.out⟩
  · obtain ⟨q, rfl⟩ : ∃ q, m = q + 1 := ⟨m - 1, by omega⟩
    have hq : ((q + 1 : Nat) : Int) - 1 = (q : Int) := by omega
    rw [hq]
    have hql : q < len := by omega
    obtain ⟨b, off, rfl, hbl, hc⟩ := H.out.node (by omega)
    obtain ⟨kp, kl, kc, hnw⟩ := hc q hql
    have k4 := (hnw.on hbl HBW.out).kids
    have HIV := lh (hnw.iv.on HBW.out)
    have hkl := hnw.iv.len_eq
    have hix : q < ns.length := by have := hlen.out; omega
    have HD := lh (drop_row ns q hix)
    have hkb := HK.out (ns.getD q default) (by simp [List.getD, hix])
    generalize (ns.getD q default).kids = ks at *
    have hkl2 : kl ≤ 70000 := by omega
    have HKL := lh hkl
    clear hnw hc hkl hkb hix hq hw1
    go_wp2_with fail
    obtain ⟨wo, rfl⟩ : ∃ wo : World, wo = wr := ⟨_, rfl⟩
    have HSL := lh (sizesL_len _ _ _ HS.out)
    have HLE := lh (sizesL_le _ _ _ HS.out)
    have hsl : s.length = len - (q + 1) := by have := HSL.out; rw [List.length_drop, rowsOf_length, hlen.out] at this; exact this
    have hrl : ((rowsOf ns).drop (q + 1)).length = len - (q + 1) := by rw [List.length_drop, rowsOf_length, hlen.out]
    have HSL2 := lh hsl
    have HRL := lh hrl
    clear hsl hrl
    have hsize := HB.out.size
    go_loopw [5, 29] (fun av jv wq => ∃ j a : Nat, j ≤ kl ∧ q < a ∧ a ≤ len ∧ av = .int .i64 a ∧ jv = .int .i64 j ∧ Hid (stepS s (q + 1) (ks.drop j) a = stepS s (q + 1) ks (q + 1)) ∧ wq = wo) (fun _ jv _ => kl - (intOf jv).toNat)
    case atStart => exact ⟨0, q + 1, by omega, by omega, by omega, by go_num, rfl, lh rfl, rfl⟩
    case round =>
     obtain ⟨j, a, hj, haq, hal, rfl, rfl, HST, rfl⟩ := hrel
     by_cases hjl : j < kl
     · obtain ⟨kb, koff, rfl, hkbl, hkc⟩ := HIV.out.cell (by omega)
       have hkj := hkc j hjl
       have HDR : Hid (ks.drop j = ks.getD j 0 :: ks.drop (j + 1)) := lh (by
        have hjx : j < ks.length := by have := HKL.out; omega
        rw [List.drop_eq_getElem_cons hjx]
        simp [List.getD, hjx])
       generalize ks.getD j 0 = kid at *
       clear hkc hkbl
       have BAD : ∀ (hne : ¬ (kid = (a : Int) ∧ a < len)), Hid (sizesP ns = none) := fun hne => lh (by
        have h1 : stepS s (q + 1) (ks.drop j) a = none := by
         rw [HDR.out]
         simp only [stepS]
         rw [if_neg (fun hc => hne ⟨hc.1, by have := HSL2.out; omega⟩)]
        rw [HST.out] at h1
        have h2 : sizesL ((rowsOf ns).drop q) q = none := by
         rw [HD.out]
         simp only [sizesL, HS.out, h1]
        have h3 := sizesL_none (rowsOf ns) 0 q (by rw [Nat.zero_add]; exact h2) (by rw [rowsOf_length, hlen.out]; omega)
        unfold sizesP
        rw [h3])
       by_cases hka : kid = (a : Int)
       · subst hka
         have d1 : ((a : Int) != (a : Int)) = false := by simp
         by_cases hal2 : a < len
         · have d2 : decide ((a : Int) ≥ (len : Int)) = false := by simp; omega
           have hla := HL.out a (by omega) hal2
           have hcell := HO.out.cellAt a (by omega)
           rw [hla] at hcell
           have HBD := lh (HLE.out (a - (q + 1)) (by have := HSL2.out; omega))
           have HNX : Hid (stepS s (q + 1) (ks.drop (j + 1)) (a + s.getD (a - (q + 1)) 0) = stepS s (q + 1) ks (q + 1)) := lh (by
            rw [← HST.out, HDR.out]
            simp only [stepS]
            rw [if_pos ⟨trivial, by have := HSL2.out; omega⟩])
           have hb2 : a + s.getD (a - (q + 1)) 0 ≤ len := by have := HBD.out; have := HRL.out; omega
           generalize s.getD (a - (q + 1)) 0 = z at *
           have hw : IntKind.i64.wrap ((a : Int) + (z : Int)) = (a : Int) + (z : Int) := IntWalk.i64_in _ (by omega)
           clear hla BAD HBD
           go_wp2_with fail
           go_roundw
           case rel => exact ⟨j + 1, a + z, by omega, by omega, hb2, by go_num, by go_num, HNX, trivial⟩
           case measure => simp [intOf]; omega
         · have d2 : decide ((a : Int) ≥ (len : Int)) = true := by simp; omega
           have HNO := BAD (fun hc => hal2 hc.2)
           clear BAD
           go_wp2
           go_ret
           exact ⟨⟨_, rfl, SizesOut.none HNO.out⟩, HBW.out⟩
       · have d1 : (kid != (a : Int)) = true := by simpa using hka
         have HNO := BAD (fun hc => hka hc.1)
         clear BAD hka
         go_wp2
         go_ret
         exact ⟨⟨_, rfl, SizesOut.none HNO.out⟩, HBW.out⟩
     · have HEND : Hid (stepS s (q + 1) ks (q + 1) = some a) := lh (by
        have := HST.out
        rw [List.drop_eq_nil_of_le (by have := HKL.out; omega)] at this
        simpa [stepS] using this.symm)
       have HS2 : Hid (sizesL ((rowsOf ns).drop q) q = some ((a - q) :: s)) := lh (by
        rw [HD.out]
        simp only [sizesL, HS.out, HEND.out])
       have hcell := HO.out.cellAt q (by omega)
       obtain ⟨v0, hv0⟩ : ∃ v, L[q]? = some v := ⟨L[q]'(by have := HO.out.1; omega), List.getElem?_eq_getElem _⟩
       rw [hv0] at hcell
       have hfz := HO.out.frozenAt q
       have hw : IntKind.i64.wrap ((a : Int) - (q : Int)) = (a : Int) - (q : Int) := IntWalk.i64_in _ (by omega)
       have hw2 : IntKind.i64.wrap ((q : Int) - 1) = (q : Int) - 1 := IntWalk.i64_in _ (by omega)
       have HO3 := lh (HO.out.stored q (.int .i64 ((a : Int) - (q : Int)))).1
       have HB3 := lh (HB.out.setCell (p := ⟨w.heap.size + 1, q, none⟩) (Nat.le_refl _) (.int .i64 ((a : Int) - (q : Int))))
       have hll : L.length = len := by have := HO.out.1; omega
       have HL3 : Hid (∀ j, q ≤ j → j < len → (L.set q (.int .i64 ((a : Int) - (q : Int))))[j]? = some (.int .i64 ((((a - q) :: s).getD (j - q) 0 : Nat) : Int))) := lh (by
        intro j h1 h2
        by_cases hjq : j = q
        · subst hjq
          rw [List.getElem?_set_self (by omega)]
          simp; try omega
        · rw [List.getElem?_set_ne (by omega), HL.out j (by omega) h2]
          have e : j - q = (j - (q + 1)) + 1 := by omega
          rw [e, List.getD_cons_succ])
       clear hll hv0
       go_wp2_with fail
       go_roundw
       case rel => exact ⟨q, (a - q) :: s, _, by omega, by go_num, HS2, HO3, HL3, HB3⟩
       case measure => (simp [intOf]; try omega)
end Tr
namespace Tr
open Go.RowKit
structure SmallT (ns : List Nd) : Prop where
 len : ns.length ≤ 70000
 each : ∀ nd ∈ ns, nd.kids.length ≤ 70000 ∧ nd.text.size ≤ 70000
theorem kids_in {ns : List Nd} {s : List Nat} (hs : sizesP ns = some s) : ∀ nd ∈ ns, ∀ k ∈ nd.kids, 0 ≤ k ∧ k < ns.length := by
 intro nd hm k hk
 obtain ⟨i, hi⟩ := List.mem_iff_getElem?.1 hm
 obtain ⟨hil, _⟩ := List.getElem?_eq_some_iff.1 hi
 have h := (sizesP_some hs).right
 have hk2 : k ∈ kidsAt ns i := by unfold kidsAt; rw [List.getD, hi]; exact hk
 obtain ⟨j, e1, e2, e3, e4⟩ := h.kid hil hk2
 omega
theorem neq_nil (W : World) : (binOp .neq 32 (.slice none 0 0) (.slice none 0 0)).run Tryz.prog W = .ok (.bool false) W := by kernel_rfl
theorem neq_some (g n c : Nat) (W : World) : (binOp .neq 32 (.slice (some ⟨g, 0, none⟩) n c) (.slice none 0 0)).run Tryz.prog W = .ok (.bool true) W := by kernel_rfl
theorem right_at (w : World) (p : Option Addr) (len c : Nat) (ns : List Nd) (h : TV w p len c ns) (hS : SmallT ns) :
 Calls Tryz.prog 29 #[.agg #[.slice p len c]] w fun e w' => e = .returned (.bool (rightP ns)) ∧ Below w.heap.size w w' := by
 have hlen := lh h.len_eq
 have H := lh h
 have HS := lh hS
 have B0 := lh (one_below w (.cells #[.slice p len c] 39))
 have HZ := lh (sizes_at (w.alloc (.cells #[.slice p len c] 39)) p len c ns (h.on B0.out) (by rw [← h.len_eq]; exact hS.len) (fun nd hm => (hS.each nd hm).1))
 clear h hS
 go_enter Tryz.func29, Tryz.ntmps29
 go_wp2_with fail
 (with_reducible refine HZ.out.mono ?_)
 rintro e w1 ⟨⟨v, rfl, hv⟩, hb1⟩
 have B1 := lh (B0.out.trans (hb1.mono (by simp)))
 have c0 : w1.cell? ⟨w.heap.size, 0, none⟩ = some (.slice p len c) := by rw [hb1.cell (by simp)]; simp
 clear hb1 HZ
 unfold SizesOut at hv
 cases hs : sizesP ns with
 | none =>
  rw [hs] at hv
  simp only at hv
  subst hv
  have HP : Hid (rightP ns = false) := lh (by unfold rightP; rw [hs])
  have hne := neq_nil
  clear hs
  go_wp2
  go_ret
  exact ⟨retB HP.out.symm, B1.out⟩
 | some s =>
  rw [hs] at hv
  simp only at hv
  obtain ⟨g, rfl, _⟩ := hv
  have hne := neq_some g ns.length ns.length
  have hpos : 0 < len := by have := (sizesP_some hs).pos; have := hlen.out; omega
  have hposI : (0 : Int) < (len : Int) := by omega
  have HP : Hid (rightP ns = (kindAt ns 0 == 1 && ruledP ns)) := lh (by unfold rightP; rw [hs])
  have HRU := lh (ruled_at w1 p len c ns (H.out.on B1.out) (by rw [← hlen.out]; exact HS.out.len) (fun nd hm => ⟨(HS.out.each nd hm).1, (HS.out.each nd hm).2, by rw [← hlen.out]; exact kids_in hs nd hm⟩))
  obtain ⟨b, off, rfl, hbl, hc⟩ := (H.out.on B1.out).node hpos
  obtain ⟨kp, kl, kc, hn⟩ := hc 0 hpos
  have k0 : w1.cell? ⟨b, off, none⟩ = some (.int .u8 (kindAt ns 0)) := by have := hn.kind; simpa [kindAt] using this
  generalize kindAt ns 0 = k at *
  clear hs hn hc
  by_cases h1 : k = 1
  · have d1 : (k == 1) = true := by simpa using h1
    have D1 := lh d1
    subst h1
    go_wp2_with fail
    (with_reducible refine HRU.out.mono ?_)
    rintro e w2 ⟨rfl, hb2⟩
    have B2 := lh (B1.out.trans (hb2.mono B1.out.size))
    clear hb2 HRU
    go_wp2
    go_ret
    exact ⟨retB (by rw [HP.out]; simp), B2.out⟩
  · have d1 : (k == 1) = false := by simpa using h1
    go_wp2
    go_ret
    exact ⟨retB (by rw [HP.out, d1]; rfl), B1.out⟩
theorem size_at (w : World) (p : Option Addr) (len c : Nat) (ns : List Nd) (i : Int) (h : TV w p len c ns) (hS : SmallT ns) :
 Calls Tryz.prog 34 #[.agg #[.slice p len c], .int .i64 i] w fun e w' => e = .returned (.int .i64 (sizeP ns i)) ∧ Below w.heap.size w w' := by
 have hlen := lh h.len_eq
 have H := lh h
 have HS := lh hS
 have B0 := lh (one_below w (.cells #[.slice p len c] 39))
 have HR := lh (right_at (w.alloc (.cells #[.slice p len c] 39)) p len c ns (h.on B0.out) hS)
 clear h hS
 by_cases h0 : i < 0
 · have d0 : decide (i < 0) = true := by simpa using h0
   have HZ : Hid (sizeP ns i = 0) := lh (by unfold sizeP; rw [if_neg (by omega)])
   go_enter Tryz.func34, Tryz.ntmps34
   go_wp2
   go_ret
   exact ⟨retI HZ.out.symm, B0.out⟩
 · have d0 : decide (i < 0) = false := by simpa using h0
   by_cases h1 : i < len
   · have d1 : decide (i ≥ (len : Int)) = false := by simpa using h1
     obtain ⟨q, rfl⟩ : ∃ q : Nat, i = (q : Int) := ⟨i.toNat, (Int.toNat_of_nonneg (by omega)).symm⟩
     have hql : q < len := by omega
     clear h0 h1
     go_enter Tryz.func34, Tryz.ntmps34
     go_wp2_with fail
     (with_reducible refine HR.out.mono ?_)
     rintro e w1 ⟨rfl, hb1⟩
     have B1 := lh (B0.out.trans (hb1.mono (by simp)))
     have c0 : w1.cell? ⟨w.heap.size, 0, none⟩ = some (.slice p len c) := by rw [hb1.cell (by simp)]; simp
     clear hb1 HR
     have HSZ := lh (sizes_at w1 p len c ns (H.out.on B1.out) (by rw [← hlen.out]; exact HS.out.len) (fun nd hm => (HS.out.each nd hm).1))
     cases hr : rightP ns with
     | false =>
      have HZ : Hid (sizeP ns (q : Int) = 0) := lh (by unfold sizeP; rw [if_neg (by rw [hr]; simp)])
      clear hr HSZ
      go_wp2
      go_ret
      exact ⟨retI HZ.out.symm, B1.out⟩
     | true =>
      obtain ⟨s, hs, _, _⟩ := right_sizes hr
      have HZ : Hid (sizeP ns (q : Int) = (s.getD q 0 : Nat)) := lh (sizeP_at hr hs (by have := hlen.out; omega))
      have HSS := lh hs
      clear hr hs
      go_wp2_with fail
      (with_reducible refine HSZ.out.mono ?_)
      rintro e w2 ⟨⟨v, rfl, hv⟩, hb2⟩
      have B2 := lh (B1.out.trans (hb2.mono B1.out.size))
      unfold SizesOut at hv
      rw [HSS.out] at hv
      obtain ⟨g, rfl, hg⟩ := hv
      have hgc := hg q (by have := hlen.out; omega)
      have hql2 : q < ns.length := by have := hlen.out; omega
      have hql3 : (q : Int) < (ns.length : Int) := by omega
      generalize s.getD q 0 = z at *
      clear hb2 HSZ hg
      go_wp2
      go_ret
      exact ⟨retI HZ.out.symm, B2.out⟩
   · have d1 : decide (i ≥ (len : Int)) = true := by simp; omega
     have HZ : Hid (sizeP ns i = 0) := lh (by unfold sizeP; rw [if_neg (by have := hlen.out; omega)])
     go_enter Tryz.func34, Tryz.ntmps34
     go_wp2
     go_ret
     exact ⟨retI HZ.out.symm, B0.out⟩
end Tr
namespace Tr
open Go.RowKit
def isDeepB (p k : Int) : Bool := k == 6 || (k == 20 || (isExprK k && isExprK p))
theorem own_deep (ns : List Nd) (i j : Nat) : ownK ns i j = if isDeepB (kindAt ns i) (kindAt ns j) = true then 1 else 0 := by
 unfold ownK isDeepB
 simp only [Bool.or_eq_true, beq_iff_eq, Bool.and_eq_true]
structure DI (ns : List Nd) (i jj m : Nat) (F : Nat → Nat) : Prop where
 zero : F 0 = 0
 old : ∀ x, x < i → ∀ j : Nat, (j : Int) ∈ kidsAt ns x → F j = F x + ownK ns x j
 now : ∀ j : Nat, (j : Int) ∈ (kidsAt ns i).take jj → F j = F i + ownK ns i j
 most : m = max (deepest F (kidsAt ns) 0 i) (maxL (fun k => F k.toNat) ((kidsAt ns i).take jj))
 le : ∀ j, j < ns.length → F j ≤ j
theorem maxL_congr (f g : Int → Nat) (l : List Int) (h : ∀ k ∈ l, f k = g k) : maxL f l = maxL g l := by
 induction l with
 | nil => rfl
 | cons k l ih => rw [maxL_cons, maxL_cons, h k (by simp), ih (fun k hk => h k (by simp [hk]))]
theorem maxL_snoc (f : Int → Nat) (l : List Int) (k : Int) : maxL f (l ++ [k]) = max (maxL f l) (f k) := by
 unfold maxL
 rw [List.foldl_append]
 rfl
theorem deepest_congr (F G : Nat → Nat) (K : Nat → List Int) (a d : Nat) (h : ∀ x, x < d → ∀ k ∈ K (a + x), F k.toNat = G k.toNat) : deepest F K a d = deepest G K a d := by
 induction d with
 | zero => rfl
 | succ d ih =>
  simp only [deepest]
  rw [ih (fun x hx => h x (by omega)), maxL_congr _ (fun k => G k.toNat) _ (h d (by omega))]
theorem DI.start (ns : List Nd) : DI ns 0 0 0 (fun _ => 0) where
 zero := rfl
 old := fun x hx => absurd hx (by omega)
 now := fun j hj => by simp at hj
 most := by simp [deepest, maxL]
 le := fun _ _ => Nat.zero_le _
theorem DI.turn {ns : List Nd} {i jj m : Nat} {F : Nat → Nat} (h : DI ns i jj m F) (hj : (kidsAt ns i).length ≤ jj) : DI ns (i + 1) 0 m F where
 zero := h.zero
 old := fun x hx j hk => by
  by_cases e : x = i
  · subst e
    exact h.now j (by rw [List.take_of_length_le hj]; exact hk)
  · exact h.old x (by omega) j hk
 now := fun j hj => by simp at hj
 most := by
  rw [h.most, List.take_of_length_le hj]
  simp [deepest, maxL]
 le := h.le
theorem DI.step {ns : List Nd} {s : List Nat} (hs : SizesOk ns s) {i jj m : Nat} {F : Nat → Nat} (h : DI ns i jj m F) (hi : i < ns.length) (hjj : jj < (kidsAt ns i).length) (q : Nat) (hq : (kidsAt ns i).getD jj 0 = (q : Int)) :
 i < q ∧ q < ns.length ∧ DI ns i (jj + 1) (max m (F i + ownK ns i q)) (fun x => if x = q then F i + ownK ns i q else F x) := by
 have hmem : (q : Int) ∈ kidsAt ns i := by rw [← hq]; simp [List.getD, hjj]
 obtain ⟨q', e1, e2, _, e4⟩ := hs.right.kid hi hmem
 have hqq : q = q' := by omega
 subst hqq
 have hne : ∀ x, x < i → ∀ k ∈ kidsAt ns x, k.toNat ≠ q := by
  intro x hx k hk hkq
  obtain ⟨j, f1, _, _, f4⟩ := hs.right.kid (by omega) hk
  have : k = (q : Int) := by omega
  rw [this] at hk
  have := hs.right.one hs.whole (by omega) hi hk hmem
  omega
 have htk : (kidsAt ns i).take (jj + 1) = (kidsAt ns i).take jj ++ [(q : Int)] := by
  rw [List.take_succ_eq_append_getElem hjj, ← hq]
  simp [List.getD, hjj]
 have hkk : ∀ k ∈ (kidsAt ns i).take jj, (if k.toNat = q then F i + ownK ns i q else F k.toNat) = F k.toNat := by
  intro k hk
  by_cases e : k.toNat = q
  · rw [if_pos e]
    obtain ⟨j, f1, _, _, _⟩ := hs.right.kid hi (List.mem_of_mem_take hk)
    have : k = (q : Int) := by omega
    rw [this] at hk
    rw [e, h.now q hk]
  · rw [if_neg e]
 refine ⟨e2, e4, ?_, ?_, ?_, ?_, ?_⟩
 · show (if 0 = q then _ else F 0) = 0
   rw [if_neg (by omega)]; exact h.zero
 · intro x hx j hk
   have h1 := hne x hx j hk
   rw [Int.toNat_natCast] at h1
   show (if j = q then _ else F j) = (if x = q then _ else F x) + _
   rw [if_neg h1, if_neg (by omega)]
   exact h.old x hx j hk
 · intro j hj
   show (if j = q then _ else F j) = (if i = q then _ else F i) + _
   rw [if_neg (show i ≠ q by omega)]
   by_cases e : j = q
   · rw [if_pos e, e]
   · rw [if_neg e]
     rw [htk, List.mem_append, List.mem_singleton] at hj
     rcases hj with hj | hj
     · exact h.now j hj
     · omega
 · rw [htk, maxL_snoc, Int.toNat_natCast, if_pos rfl]
   have h1 : deepest (fun x => if x = q then F i + ownK ns i q else F x) (kidsAt ns) 0 i = deepest F (kidsAt ns) 0 i := deepest_congr _ _ _ _ _ (fun x hx k hk => by
    rw [Nat.zero_add] at hk
    rw [if_neg (hne x hx k hk)])
   rw [h1, maxL_congr _ (fun k => F k.toNat) _ hkk, h.most]
   omega
 · intro j hj
   show (if j = q then _ else F j) ≤ j
   by_cases e : j = q
   · rw [if_pos e]
     have := h.le i hi
     have h2 : ownK ns i q ≤ 1 := by unfold ownK; split <;> omega
     omega
   · rw [if_neg e]; exact h.le j hj
theorem DI.done {ns : List Nd} {s : List Nat} (hs : SizesOk ns s) {m : Nat} {F : Nat → Nat} (h : DI ns ns.length 0 m F) : m = deepK (ownK ns) (kidsAt ns) ns.length 0 := by
 have h1 := hs.right.deep (ownK ns) F (fun i hi j hj => h.old i hi j hj) ns.length 0 hs.pos (by omega)
 simp only [hs.whole, h.zero] at h1
 have h2 := h.most
 simp [maxL] at h2
 omega
theorem isDeeper_at (p k : Int) (w : World) : Calls Tryz.prog 70 #[.int .u8 p, .int .u8 k] w fun e w' => e = .returned (.bool (isDeepB p k)) ∧ w' = w := by
 unfold isDeepB
 have HE := lh (isExpr_at k w)
 have HP := lh (isExpr_at p w)
 by_cases h1 : k = 6
 · have d1 : (k == 6) = true := by simpa using h1
   rw [d1]
   subst h1
   clear HE HP
   go_enter Tryz.func70, Tryz.ntmps70
   go_wp2
   go_ret
   exact ⟨rfl, rfl⟩
 · have d1 : (k == 6) = false := by simpa using h1
   rw [d1]
   by_cases h2 : k = 20
   · have d2 : (k == 20) = true := by simpa using h2
     rw [d2]
     subst h2
     clear HE HP
     go_enter Tryz.func70, Tryz.ntmps70
     go_wp2
     go_ret
     exact ⟨rfl, rfl⟩
   · have d2 : (k == 20) = false := by simpa using h2
     rw [d2]
     cases hx : isExprK k with
     | false =>
      rw [hx] at HE
      clear hx HP
      go_enter Tryz.func70, Tryz.ntmps70
      go_wp2_with fail
      (with_reducible refine HE.out.mono ?_)
      rintro e w' ⟨rfl, rfl⟩
      clear HE
      go_wp2
      go_ret
      exact ⟨rfl, rfl⟩
     | true =>
      rw [hx] at HE
      clear hx
      generalize isExprK p = t at *
      go_enter Tryz.func70, Tryz.ntmps70
      go_wp2_with fail
      (with_reducible refine HE.out.mono ?_)
      rintro e w' ⟨rfl, rfl⟩
      clear HE
      go_wp2_with fail
      (with_reducible refine HP.out.mono ?_)
      rintro e w'' ⟨rfl, rfl⟩
      clear HP
      go_wp2
      go_ret
      exact ⟨rfl, rfl⟩
end Tr
end Go.Proofs.YthdioipfdbbmmaaGreatDoor
