/- Contracts on the way to the laws of layer 5: PrintX, PrintYa, PrintWk. -/
import Derived.Test.YthdioipfdbbmmaaGreatDoorKaa
import Derived.Test.YthdioipfdbbmmaaGreatDoorKah
import Derived.Test.YthdioipfdbbmmaaGreatDoorKai
import Derived.Test.YthdioipfdbbmmaaGreatDoorKaw
import Derived.Test.YthdioipfdbbmmaaGreatDoorKax
import Derived.Test.YthdioipfdbbmmaaGreatDoorKay
import Derived.Test.YthdioipfdbbmmaaGreatDoorKbf
import Derived.Test.YthdioipfdbbmmaaGreatDoorKbg
set_option linter.all false
set_option maxRecDepth 1000000
set_option maxHeartbeats 16000000
namespace Go.Proofs.YthdioipfdbbmmaaGreatDoor
section
open Go.RowKit Tr Go.Shelf
def HasF (ns : List Nd) (F : Nat → Ast → ByteArray) : Ast → Prop
 | .mk k a s n ks => HasW ns k a s n ks (fun d => F d (.mk k a s n ks))
def catF (F : Nat → Ast → ByteArray) (d : Nat) (ks : List Ast) : ByteArray := catT (ks.map (F d))
theorem catF_take (F : Nat → Ast → ByteArray) (d : Nat) (ks : List Ast) (j : Nat) (h : j < ks.length) : catF F d (ks.take (j + 1)) = catF F d (ks.take j) ++ F d ks[j] := by
 unfold catF
 rw [List.take_succ_eq_append_getElem h, List.map_append, List.map_cons, List.map_nil, catT_snoc]
theorem catF_le (F : Nat → Ast → ByteArray) (d : Nat) (ks : List Ast) (j : Nat) : (catF F d (ks.take j)).size ≤ (catF F d ks).size := by
 unfold catF
 rw [List.map_take]
 exact catT_le _ _
theorem all_of (ns : List Nd) (F : Nat → Ast → ByteArray) (k : Int) (a : Nat) (s : ByteArray) (n : Int) (ks : List Ast) (ih : ∀ y ∈ ks, HasF ns F y) (d o : Nat) (w0 w : World) (b : Nat) (p : Option Addr) (len c : Nat) (most : Int) (v : Value) (L : ByteArray) (hT : TV w0 p len c ns) (hO : On ns o (.mk k a s n ks)) (hw : wfR (.mk k a s n ks)) (ht : PT10 w0) (hlen : len ≤ 70000) (hd : d + (Ast.mk k a s n ks).size ≤ 70001) (hb : b = w0.heap.size)
 (hP : PrW w0 b (.slice p len c) most v L w) (hmost : most ≤ 1000000) (hfit : ((L.size + (catF F d ks).size : Nat) : Int) ≤ most) :
 Calls Tryz.prog 54 #[.pointer (some ⟨b, 0, none⟩), .int .i64 (o : Int), .int .i64 (d : Int)] w fun e w' => e = .returned (.tuple #[]) ∧ ∃ v', PrW w0 b (.slice p len c) most v' (L ++ catF F d ks) w' := by
 obtain ⟨a', hnd⟩ := hO.node
 have hol := hO.lt
 have hle := hT.len_eq
 have hb2 := hb
 obtain ⟨nb, off, rfl, hbl, hc⟩ := hT.node (by omega)
 have HC := lh hc
 obtain ⟨kp, kl, kc, hn⟩ := hc o (by omega)
 rw [hnd] at hn
 have hbw := hP.lt
 have k4 : w.cell? ⟨nb, off + o * 5 + 4, none⟩ = some (.slice kp kl kc) := by rw [hP.below.cell (p := ⟨nb, off + o * 5 + 4, none⟩) (by show nb < b; omega)]; exact hn.kids
 have hiv : IV w0 kp kl kc (heads (o + 1) ks) := hn.iv
 have hkl : ks.length = kl := by rw [← hiv.len_eq, heads_length]
 have hks : sizeL ks + 1 ≤ 70000 := by have := hO.size; simp only [Ast.size] at this; omega
 have hkl7 : kl ≤ 70000 := by have := len_sizeL ks; omega
 have HT := lh hT
 have HO := lh hO
 have HW := lh hw
 have HPT := lh ht
 have HIV := lh hiv
 have HKL := lh hkl
 have HB0 := lh hb
 have HM := lh hmost
 have HFIT := lh hfit
 have HLE := lh hle
 have hnbb : nb < b := by omega
 have HD : Hid (∀ y ∈ ks, d + y.size ≤ 70000) := lh (fun y hy => by have := sizeL_mem hy; simp only [Ast.size] at hd; omega)
 have b0 : (0 : Int) ≤ (o : Int) := by omega
 have b1 : (o : Int) < (len : Int) := by omega
 obtain ⟨e0, _, _, _⟩ := hP.cell
 have HP0 : Hid (PrW w0 b (.slice (some ⟨nb, off, none⟩) len c) most v (L ++ catF F d (ks.take 0)) w) := lh (by rw [show catF F d (ks.take 0) = none0 from rfl, app_none]; exact hP)
 clear hT hO hw ht hiv hn hc hle hnd hd hks hb hb2 hP hmost hfit hkl hol hbw
 go_enter Tryz.func54, Tryz.ntmps54
 go_wp2_with fail
 go_loopg [7, 17] kl (fun g v7 v17 wr => ∃ (j : Nat) (v : Value), v17 = .int .i64 (j : Int) ∧ Hid (g + j = kl) ∧ Hid (PrW w0 b (.slice (some ⟨nb, off, none⟩) len c) most v (L ++ catF F d (ks.take j)) wr))
 case atStart => exact ⟨0, _, rfl, lh rfl, HP0⟩
 case round =>
  clear HP0 k4 e0
  obtain ⟨j, v, rfl, HG, HS⟩ := hrel
  obtain ⟨vp1, vc1, rfl⟩ := ownsRow_shape HS.out.own
  obtain ⟨e0, _, e2, _⟩ := HS.out.cell
  by_cases hlt : j < kl
  · have hjk : j < ks.length := by have := HKL.out; omega
    obtain ⟨q, hq, hql, hOq⟩ := HO.out.kid j hjk
    obtain ⟨kb, koff, rfl, hkb, hkc⟩ := HIV.out.cell (by omega)
    have m5 : wr.cell? ⟨kb, koff + j, none⟩ = some (.int .i64 (q : Int)) := by
     rw [HS.out.below.cell (p := ⟨kb, koff + j, none⟩) (by show kb < b; have := HB0.out; omega), hkc j hlt, hq]
    have HWq := HW.out.kids hjk
    have HDq := HD.out _ (List.getElem_mem hjk)
    have HIq := ih ks[j] (List.getElem_mem hjk)
    have HSN := catF_take F d ks j hjk
    have hle1 := catF_le F d ks (j + 1)
    generalize ks[j] = x at *
    obtain ⟨xk, xa, xs, xn, xks⟩ := x
    obtain ⟨qa, hqn⟩ := hOq.node
    have hqlen : q < len := by have := HLE.out; omega
    obtain ⟨qp, qkl, qkc, hqc⟩ := HC.out q hqlen
    rw [hqn] at hqc
    have t : ∀ i, wr.cell? ⟨nb, off + q * 5 + i, none⟩ = w0.cell? ⟨nb, off + q * 5 + i, none⟩ := fun i => HS.out.below.cell (p := ⟨nb, off + q * 5 + i, none⟩) hnbb
    have n0 : wr.cell? ⟨nb, off + q * 5, none⟩ = some (.int .u8 xk) := (t 0).trans hqc.kind
    have n1 : wr.cell? ⟨nb, off + q * 5 + 1, none⟩ = some (.int .i64 qa) := (t 1).trans hqc.at'
    have n2 : wr.cell? ⟨nb, off + q * 5 + 2, none⟩ = some (.string xs) := (t 2).trans hqc.text
    have n3 : wr.cell? ⟨nb, off + q * 5 + 3, none⟩ = some (.int .i64 xn) := (t 3).trans hqc.n
    have n4 : wr.cell? ⟨nb, off + q * 5 + 4, none⟩ = some (.slice qp qkl qkc) := (t 4).trans hqc.kids
    have hfit2 : (((L ++ catF F d (ks.take j)).size + (F d (.mk xk xa xs xn xks)).size : Nat) : Int) ≤ most := by
     have h1 := HFIT.out
     rw [HSN, ByteArray.size_append] at hle1
     rw [ByteArray.size_append]
     omega
    have CE := lh (HIq d q w0 wr b (some ⟨nb, off, none⟩) len c most _ (L ++ catF F d (ks.take j)) qa qp qkl qkc HT.out hOq HWq HPT.out hlen HDq HB0.out hqc.iv HS.out HM.out hfit2)
    have HOV := lh (isOver_at wr b most vp1 (L ++ catF F d (ks.take j)).size vc1 HS.out.cell.2.1)
    have hno : decide (most < ((L ++ catF F d (ks.take j)).size : Int)) = false := by rw [decide_eq_false_iff_not]; omega
    rw [hno] at HOV
    have HSN2 := lh HSN
    have h0j : (0 : Int) ≤ (j : Int) := by omega
    have hj2 : (j : Int) < (kl : Int) := by omega
    have h0q : (0 : Int) ≤ (q : Int) := by omega
    have hq2 : (q : Int) < (len : Int) := by omega
    clear hkc hq hOq hqn hqc t HSN hle1 hfit2 hno HIq HWq HDq
    generalize hLL : L ++ catF F d (ks.take j) = LL at *
    go_wp2_with (first | (go_at_call 55; (with_reducible refine HOV.out.mono ?_); rintro e w5 ⟨rfl, hw5⟩; have hw6 := hw5.symm; subst hw6) | (go_at_call 99; (with_reducible refine CE.out.mono ?_); rintro e w6 ⟨rfl, v6, HX⟩; have HX := lh HX))
    go_roundg (kl - (j + 1))
    case rel => exact ⟨j + 1, _, by simp, lh (by omega), lh (by rw [HSN2.out, ← app_assoc, hLL]; exact HX.out)⟩
    case measure => have := HG.out; omega
  · have e : ks.take j = ks := List.take_of_length_le (by have := HKL.out; have := HG.out; omega)
    rw [e] at HS
    clear e2
    go_wp2_with fail
    go_end0
    exact ⟨rfl, _, HS.out⟩
end
section
open Go.RowKit Tr Go.Shelf
theorem write14 (ns : List Nd) (a : Nat) (s : ByteArray) (n : Int) (ks : List Ast) (T : Nat → ByteArray) (hc : HasC ns 14 a s n ks T) : HasW ns 14 a s n ks T := by
 intro d o w0 w b p len c most v L a' kp kl kc hT hO hw ht hlen hd hb hI hP hmost hfit
 have CC := lh (hc d o w0 (w.alloc (.cells #[.int .u8 14, .int .i64 a', .string s, .int .i64 n, .slice kp kl kc] 54)) b p len c most v L a' kp kl kc hT hO hw ht hlen hd hb hI (hP.on (one_below w _)) hmost hfit)
 show Calls _ _ _ _ (fun e w' => e = .returned (.tuple #[]) ∧ ∃ v', PrW w0 b _ most v' (L ++ T d) w')
 clear hT hO hw ht hI hP hfit hmost hd hlen hb hc
 go_enter Tryz.func99, Tryz.ntmps99
 go_wp2_with (go_at_call 169; (with_reducible refine CC.out.mono ?_); rintro e w5 ⟨rfl, v', HP⟩)
 go_end0
 exact ⟨rfl, v', HP⟩
end
section
open Go.RowKit Tr Go.Shelf
def partD (d : Nat) : Ast → ByteArray
 | .mk k _ t n ks => if k = 2 then lineT d (catT [⟨#[116, 97, 98, 108, 101, 32]⟩, t, ⟨#[40]⟩, joinT (ks.map exT), ⟨#[41, 59]⟩])
  else match ks with
   | [a, b] => lineT d (catT [⟨#[112, 114, 111, 99, 32]⟩, t, ⟨#[40]⟩, joinT (a.kids.map exT), ⟨#[41]⟩, (if n = 1 then ⟨#[32, 115, 105, 110, 103, 108, 101]⟩ else ⟨#[]⟩), ⟨#[32, 123]⟩]) ++ blT (d + 1) b ++ lineT d (catT [⟨#[125]⟩])
   | _ => none0
theorem partD_zero (x : Ast) : partD 0 x = partT x := by
 cases x with
 | mk k a t n ks =>
  unfold partD partT; dsimp only
  by_cases h : k = 2
  · rw [if_pos h, if_pos h]
    simp only [catT, app_none, namesOf, app_assoc]
  · rw [if_neg h, if_neg h]
    rcases ks with _ | ⟨a', _ | ⟨b', _ | ⟨c', r⟩⟩⟩
    · rfl
    · rfl
    · simp only [catT, app_none, namesOf, app_assoc]
    · rfl
theorem progL_cat (ks : List Ast) : progL ks = catF partD 0 ks := by
 induction ks with
 | nil => rfl
 | cons x r ih =>
  show partT x ++ progL r = partD 0 x ++ catF partD 0 r
  rw [ih, partD_zero]
theorem stL_cat (d : Nat) (ks : List Ast) : stL d ks = catF stT d ks := by
 induction ks with
 | nil => rfl
 | cons x r ih =>
  show stT d x ++ stL d r = stT d x ++ catF stT d r
  rw [ih]
theorem write2 (ns : List Nd) (a : Nat) (s : ByteArray) (n : Int) (ks : List Ast) (hks : ∀ x ∈ ks, x.kind = 5) : HasW ns 2 a s n ks (fun d => partD d (.mk 2 a s n ks)) := by
 intro d o w0 w b p len c most v L a' kp kl kc hT hO hw ht hlen hd hb hI hP hmost hfit
 obtain ⟨TS, hTS⟩ : ∃ TS, joinT (ks.map exT) = TS := ⟨_, rfl⟩
 have HEQ : partD d (.mk 2 a s n ks) = lineT d (catT [⟨#[116, 97, 98, 108, 101, 32]⟩, s, ⟨#[40]⟩, TS, ⟨#[41, 59]⟩]) := by
  rw [← hTS]
  unfold partD; dsimp only
  rw [if_pos rfl]
 have hst := congrArg ByteArray.size HEQ
 simp only [lineT, catT, ByteArray.size_append] at hst
 dsimp only at hfit
 rw [hst] at hfit
 have hbw := hP.lt
 have hwr : wfRL ks := hw.2
 have hXS : TxL ns (heads (o + 1) ks) ks := ⟨hO.kids, fun j hj => by
  rw [heads_length] at hj
  have h1 := heads_ge ks (o + 1) j hj
  omega, fun x hx => ⟨Or.inl (hks x hx), wfRL_mem hwr x hx⟩⟩
 have TXS : Hid (∀ w', PrW w0 b (.slice p len c) most v L w' → Calls Tryz.prog 64 #[.pointer (some ⟨b, 0, none⟩), .slice kp kl kc] w' fun e w'' => e = .returned (.string TS) ∧ Below w'.heap.size w' w'') := lh (fun w' h1 => by rw [← hTS]; exact text_all h1 hb hT ht hlen hI hXS (by simp only [Ast.size] at hd; omega) (by rw [hTS]; omega))
 have LN : Hid (∀ w' g, PrW w0 b (.slice p len c) most v L w' → w'.heap[g]? = some (.cells #[.string (⟨#[116, 97, 98, 108, 101, 32]⟩), .string s, .string ⟨#[40]⟩, .string TS, .string (⟨#[41, 59]⟩)] 9 (0, 0)) → Calls Tryz.prog 167 #[.pointer (some ⟨b, 0, none⟩), .int .i64 (d : Int), .slice (some ⟨g, 0, none⟩) 5 5] w' fun e w'' => e = .returned (.tuple #[]) ∧ ∃ v', PrW w0 b (.slice p len c) most v' (L ++ partD d (.mk 2 a s n ks)) w'' ∧ KeepT b w' w'') := lh (fun w' g h1 h2 => by rw [HEQ]; exact line_at w0 w' b _ most v L h1 d g 5 [⟨#[116, 97, 98, 108, 101, 32]⟩, s, ⟨#[40]⟩, TS, ⟨#[41, 59]⟩] h2 (by simp) (by omega) (by omega) (by simp only [catT, ByteArray.size_append]; omega))
 have HB : Hid (Below b w0 (w.alloc (.cells #[.int .u8 2, .int .i64 a', .string s, .int .i64 n, .slice kp kl kc] 54)) ∧ (w.alloc (.cells #[.int .u8 2, .int .i64 a', .string s, .int .i64 n, .slice kp kl kc] 54)).heap[w.heap.size]? = some (.cells #[.int .u8 2, .int .i64 a', .string s, .int .i64 n, .slice kp kl kc] 54 (0, 0))) := lh ⟨(hP.on (one_below w _)).below, heap_alloc_new w _⟩
 have HS := lh (hP.on (one_below w (.cells #[.int .u8 2, .int .i64 a', .string s, .int .i64 n, .slice kp kl kc] 54)))
 have hgb : ¬ w.heap.size = b := by omega
 show Calls _ _ _ _ (fun e w' => e = .returned (.tuple #[]) ∧ ∃ v', PrW w0 b _ most v' (L ++ partD d (.mk 2 a s n ks)) w')
 generalize partD d (.mk 2 a s n ks) = ST at *
 clear hwr hXS hTS hks
 clear hT hO hw ht hI hP hfit hmost hst HEQ hd hlen hb hbw
 go_enter Tryz.func99, Tryz.ntmps99
 go_wp2_with fail
 generalize w.alloc (.cells #[.int .u8 2, .int .i64 a', .string s, .int .i64 n, .slice kp kl kc] 54) = W1 at *
 generalize w.heap.size = g0 at *
 have HF : Hid (∀ w' : World, w'.heap[g0]? = some (.cells #[.int .u8 2, .int .i64 a', .string s, .int .i64 n, .slice kp kl kc] 54 (0, 0)) → w'.cell? ⟨g0, 2, none⟩ = some (.string s) ∧ w'.cell? ⟨g0, 3, none⟩ = some (.int .i64 n)) := lh (fun w' h => ⟨by rw [cell_of_row _ _ _ _ _ _ h]; rfl, by rw [cell_of_row _ _ _ _ _ _ h]; rfl⟩)
 refine wp_region_held_drew (S := fun w' => Below b w0 w' ∧ w'.heap[g0]? = some (.cells #[.int .u8 2, .int .i64 a', .string s, .int .i64 n, .slice kp kl kc] 54 (0, 0))) (by kernel_rfl) ⟨HB.out.1.drew, HB.out.2⟩ (fun hHeld => ?_)
 have HS := lh (HS.out.on (drew_on W1))
 have HB := lh hHeld
 generalize W1.drew = W2 at *
 clear hHeld
 refine tn 0 HB.out ?_
 (try simp only [pn])
 refine tn 1 HB.out ?_
 (try simp only [pn])
 refine tn 2 HB.out ?_
 (try simp only [pn])
 refine tk (i := 3) (v := ?_) rfl HB.out ?_ ?_
 rotate_left
 · (intro w' hSw; have h9 := HF.out _ hSw.2; obtain ⟨f9, e9⟩ := h9; clear hSw; go_simp; try with_reducible rfl)
 (try simp only [pn])
 refine tn 4 HB.out ?_
 (try simp only [pn])
 refine tn 5 HB.out ?_
 (try simp only [pn])
 refine wpAnyH_ready (rs := [6]) (by kernel_rfl) (by simp) ?_
 refine AllReadyH.cons rfl (fun K hK => ?_) (AllReadyH.nil)
 · skip
   go_simp
   go_at_call 64
   (with_reducible refine (TXS.out W2 HS.out).mono ?_)
   rintro e W3 ⟨rfl, hb9⟩
   have HS := lh (HS.out.on hb9)
   have HB := lh (And.intro HS.out.below (on_row hb9 HB.out.2))
   clear hb9
   go_simp
   refine hK.out _ _ HB.out (fun hHeld => ?_)
   clear hK K hHeld
   (try simp only [pn])
   refine wpAnyH_ready (rs := [7]) (by kernel_rfl) (by simp) ?_
   refine AllReadyH.cons rfl (fun K hK => ?_) (AllReadyH.nil)
   · skip
     go_simp
     have hb9 := one_below W3 (.cells #[.string (⟨#[116, 97, 98, 108, 101, 32]⟩), .string s, .string ⟨#[40]⟩, .string TS, .string (⟨#[41, 59]⟩)] 9)
     have HS := lh (HS.out.on hb9)
     have HB := lh (And.intro HS.out.below (on_row hb9 HB.out.2))
     have F7 := lh (heap_alloc_new W3 (.cells #[.string (⟨#[116, 97, 98, 108, 101, 32]⟩), .string s, .string ⟨#[40]⟩, .string TS, .string (⟨#[41, 59]⟩)] 9))
     clear hb9
     refine hK.out _ _ HB.out (fun hHeld => ?_)
     clear hK K hHeld
     (try simp only [pn])
     generalize W3.heap.size = g17 at *
     generalize W3.alloc (.cells #[.string (⟨#[116, 97, 98, 108, 101, 32]⟩), .string s, .string ⟨#[40]⟩, .string TS, .string (⟨#[41, 59]⟩)] 9) = W4 at *
     refine wpAnyH_ready (rs := [8]) (by kernel_rfl) (by simp) ?_
     refine AllReadyH.cons rfl (fun K hK => ?_) (AllReadyH.nil)
     · skip
       go_simp
       go_at_call 167
       (with_reducible refine (LN.out W4 g17 HS.out F7.out).mono ?_)
       rintro e W5 ⟨rfl, v', HP, HK⟩
       have HP := lh HP
       have HB := lh (And.intro HP.out.below (HK _ _ _ _ HB.out.2 (by decide) hgb))
       clear HK
       go_simp
       refine hK.out _ _ HB.out (fun hHeld => ?_)
       clear hK K hHeld
       (try simp only [pn])
       refine wpAnyH_done (by kernel_rfl) ?_ _
       go_wp2_with fail
       go_end0
       exact ⟨rfl, v', HP.out⟩
end
end Go.Proofs.YthdioipfdbbmmaaGreatDoor
