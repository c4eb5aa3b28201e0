/- Contracts on the way to the laws of layer 5: PrintWi, PrintWj, ParseFs, ParseFt, ParseFu. -/
import Derived.Test.YthdioipfdbbmmaaGreatDoorKaa
import Derived.Test.YthdioipfdbbmmaaGreatDoorKai
import Derived.Test.YthdioipfdbbmmaaGreatDoorKal
import Derived.Test.YthdioipfdbbmmaaGreatDoorKan
import Derived.Test.YthdioipfdbbmmaaGreatDoorKax
import Derived.Test.YthdioipfdbbmmaaGreatDoorKbj
import Derived.Recover
import Derived.Defers
import Derived.Lib.ConvBytes
set_option linter.all false
set_option maxRecDepth 1000000
set_option maxHeartbeats 16000000
namespace Go.Proofs.YthdioipfdbbmmaaGreatDoor
section
open Go.RowKit Tr Go.Shelf
theorem write13b (ns : List Nd) (a : Nat) (s : ByteArray) (n : Int) (ks : List Ast) (hsh : isR (ks.map Ast.kind) [20] = true) : HasW ns 13 a s n ks (fun d => stT d (.mk 13 a s n ks)) := by
 intro d o w0 w b p len c most v L a' kp kl kc hT hO hw ht hlen hd hb hI hP hmost hfit
 have hkl : ks.length = kl := by rw [← hI.len_eq, heads_length]
 obtain ⟨x0, rfl, hx0⟩ := sh20 hsh
 obtain rfl : kl = 1 := hkl.symm
 obtain ⟨kb, koff, rfl, hkb, hkc⟩ := hI.cell (by omega)
 obtain ⟨q0, hq0, hql0, hO0⟩ := hO.kid 0 (by simp)
 have hg0 := heads_ge [x0] (o + 1) 0 (by simp)
 rw [hq0] at hg0
 have c0 : w0.cell? ⟨kb, koff, none⟩ = some (.int .i64 (q0 : Int)) := by have h := hkc 0 (by omega); rw [hq0] at h; exact h
 have hw0 : wfR x0 := hw.kids (j := 0) (by simp)
 have hO0 : On ns q0 x0 := hO0
 have HEQ : stT d (.mk 13 a s n [x0]) = lineT d (catT [⟨#[114, 101, 108, 101, 97, 115, 101, 32]⟩, exT x0, ⟨#[59]⟩]) := by
  show stF d 13 s n [exT x0] _ = _
  unfold stF
  rw [if_neg (by decide), if_neg (by decide), if_neg (by decide), if_neg (by decide), if_neg (by decide), if_neg (by decide), if_pos rfl]
  simp only [lineT, catT, app_none, app_assoc, List.getD_cons_zero, List.getD_cons_succ]
 have hst := congrArg ByteArray.size HEQ
 simp only [lineT, catT, ByteArray.size_append] at hst
 dsimp only at hfit
 rw [hst] at hfit
 have hbw := hP.lt
 have TX0 : Hid (∀ w' g, PrW w0 b (.slice p len c) most v L w' → w'.heap[g]? = some (.cells #[.int .i64 (q0 : Int)] 3 (0, 0)) → Calls Tryz.prog 64 #[.pointer (some ⟨b, 0, none⟩), .slice (some ⟨g, 0, none⟩) 1 1] w' fun e w'' => e = .returned (.string (exT x0)) ∧ Below w'.heap.size w' w'') := lh (fun w' g h1 h2 => text_one h1 hb hT ht hlen hO0 (by omega) (Or.inr (by rw [hx0]; decide)) hw0 (by omega) g h2)
 have LN : Hid (∀ w' g, PrW w0 b (.slice p len c) most v L w' → w'.heap[g]? = some (.cells #[.string (⟨#[114, 101, 108, 101, 97, 115, 101, 32]⟩), .string (exT x0), .string ⟨#[59]⟩] 9 (0, 0)) → Calls Tryz.prog 167 #[.pointer (some ⟨b, 0, none⟩), .int .i64 (d : Int), .slice (some ⟨g, 0, none⟩) 3 3] w' fun e w'' => e = .returned (.tuple #[]) ∧ ∃ v', PrW w0 b (.slice p len c) most v' (L ++ stT d (.mk 13 a s n [x0])) w'' ∧ KeepT b w' w'') := lh (fun w' g h1 h2 => by rw [HEQ]; exact line_at w0 w' b _ most v L h1 d g 3 [⟨#[114, 101, 108, 101, 97, 115, 101, 32]⟩, exT x0, ⟨#[59]⟩] h2 (by simp) (by simp only [Ast.size, sizeL] at hd; omega) (by omega) (by simp only [catT, ByteArray.size_append]; omega))
 have HB : Hid (Below b w0 (w.alloc (.cells #[.int .u8 13, .int .i64 a', .string s, .int .i64 n, .slice (some ⟨kb, koff, none⟩) 1 kc] 54)) ∧ (w.alloc (.cells #[.int .u8 13, .int .i64 a', .string s, .int .i64 n, .slice (some ⟨kb, koff, none⟩) 1 kc] 54)).heap[w.heap.size]? = some (.cells #[.int .u8 13, .int .i64 a', .string s, .int .i64 n, .slice (some ⟨kb, koff, none⟩) 1 kc] 54 (0, 0))) := lh ⟨(hP.on (one_below w _)).below, heap_alloc_new w _⟩
 have HS := lh (hP.on (one_below w (.cells #[.int .u8 13, .int .i64 a', .string s, .int .i64 n, .slice (some ⟨kb, koff, none⟩) 1 kc] 54)))
 have hgb : ¬ w.heap.size = b := by omega
 have hkb2 : kb < b := by omega
 have HC0 : Hid (∀ w', Below b w0 w' → w'.cell? ⟨kb, koff, none⟩ = some (.int .i64 (q0 : Int))) := lh (fun w' h => (h.cell (p := ⟨kb, koff, none⟩) hkb2).trans c0)
 show Calls _ _ _ _ (fun e w' => e = .returned (.tuple #[]) ∧ ∃ v', PrW w0 b _ most v' (L ++ stT d (.mk 13 a s n [x0])) w')
 generalize stT d (.mk 13 a s n [x0]) = ST at *
 clear hT hO hw ht hI hP hfit hmost hst HEQ hkc hkl hsh hd hlen hb hbw hkb hkb2 hq0 hql0 hO0 hg0 c0 hw0 hx0
 go_enter Tryz.func99, Tryz.ntmps99
 have d0 := HC0.out _ HB.out.1
 have hb9 := one_below (w.alloc (.cells #[.int .u8 13, .int .i64 a', .string s, .int .i64 n, .slice (some ⟨kb, koff, none⟩) 1 kc] 54)) (.cells #[.int .i64 (q0 : Int)] 3)
 have HS3 := lh (HS.out.on hb9)
 have F3 := lh (heap_alloc_new (w.alloc (.cells #[.int .u8 13, .int .i64 a', .string s, .int .i64 n, .slice (some ⟨kb, koff, none⟩) 1 kc] 54)) (.cells #[.int .i64 (q0 : Int)] 3))
 clear hb9
 go_wp2_with (first | (go_at_call 64; (with_reducible refine (TX0.out _ _ HS3.out (by first | exact F3.out | simpa using F3.out)).mono ?_); rintro e w3 ⟨rfl, hb3⟩; have HS4 := lh ((HS3.out.on hb3).on (one_below w3 (.cells #[.string (⟨#[114, 101, 108, 101, 97, 115, 101, 32]⟩), .string (exT x0), .string ⟨#[59]⟩] 9))); have F4 := lh (heap_alloc_new w3 (.cells #[.string (⟨#[114, 101, 108, 101, 97, 115, 101, 32]⟩), .string (exT x0), .string ⟨#[59]⟩] 9)); clear hb3) | (go_at_call 167; (with_reducible refine (LN.out _ _ HS4.out (by first | exact F4.out | simpa using F4.out)).mono ?_); rintro e w5 ⟨rfl, v', HP, HK⟩))
 go_end0
 exact ⟨rfl, v', HP⟩
end
section
open Go.RowKit Tr Go.Shelf
theorem text_allW {w0 w : World} {b : Nat} {p : Option Addr} {len c : Nat} {most : Int} {v : Value} {L : ByteArray} {ns : List Nd} (hP : PrW w0 b (.slice p len c) most v L w) (hb : b = w0.heap.size) (hT : TV w0 p len c ns) (ht : PT10 w0) (hlen : len ≤ 70000)
 {kp : Option Addr} {kl kc : Nat} {l : List Int} {ks : List Ast} (hI : IntsW w0.heap.size w0 (.slice kp kl kc) l) (hX : TxL ns l ks) (hS : sizeL ks ≤ 70000) (hm : ((joinT (ks.map exT)).size : Int) ≤ most) :
 Calls Tryz.prog 64 #[.pointer (some ⟨b, 0, none⟩), .slice kp kl kc] w fun e w' => e = .returned (.string (joinT (ks.map exT))) ∧ Below w.heap.size w w' := by
 subst hb
 have hI2 : IntsW w.heap.size w (.slice kp kl kc) l := by
  rcases hI.below hP.below with ⟨a, c, h1, h2⟩ | ⟨g, off, cap, h1, h2, h3⟩
  · exact .inl ⟨a, c, h1, h2⟩
  · exact .inr ⟨g, off, cap, h1, Nat.lt_of_lt_of_le h2 hP.below.size, h3⟩
 exact text_at w w0.heap.size p len c ns most kp kl kc l ks hP.cell.1 hP.cell.2.1 (hT.on hP.below) hI2 hX hS hlen (ht.below hP.below) hm
theorem write9 (ns : List Nd) (a : Nat) (s : ByteArray) (n : Int) (x0 : Ast) (xs : List Ast) (hx0 : x0.kind = 20) (hxs : ∀ x ∈ xs, isExprK x.kind = true) (hne : 0 < xs.length) : HasW ns 9 a s n (x0 :: xs) (fun d => stT d (.mk 9 a s n (x0 :: xs))) := by
 intro d o w0 w b p len c most v L a' kp kl kc hT hO hw ht hlen hd hb hI hP hmost hfit
 have hkl : (x0 :: xs).length = kl := by rw [← hI.len_eq, heads_length]
 rw [List.length_cons] at hkl
 have hcap := hI.cap
 obtain ⟨kb, koff, rfl, hkb, hkc⟩ := hI.cell (by omega)
 obtain ⟨q0, hq0, hql0, hO0⟩ := hO.kid 0 (by simp)
 have hg0 := heads_ge (x0 :: xs) (o + 1) 0 (by simp)
 rw [hq0] at hg0
 have c0 : w0.cell? ⟨kb, koff, none⟩ = some (.int .i64 (q0 : Int)) := by have h := hkc 0 (by omega); rw [hq0] at h; exact h
 have hw0 : wfR x0 := hw.kids (j := 0) (by simp)
 have hO0 : On ns q0 x0 := hO0
 obtain ⟨TS, hTS⟩ : ∃ TS, joinT (xs.map exT) = TS := ⟨_, rfl⟩
 have HEQ : stT d (.mk 9 a s n (x0 :: xs)) = lineT d (catT [⟨#[112, 117, 116, 32]⟩, exT x0, ⟨#[40]⟩, TS, ⟨#[41, 59]⟩]) := by
  show stF d 9 s n (exT x0 :: xs.map exT) _ = _
  unfold stF
  rw [if_neg (by decide), if_neg (by decide), if_pos rfl]
  simp only [lineT, catT, app_none, app_assoc, List.getD_cons_zero, List.drop_succ_cons, List.drop_zero, hTS]
 have hst := congrArg ByteArray.size HEQ
 simp only [lineT, catT, ByteArray.size_append] at hst
 dsimp only at hfit
 rw [hst] at hfit
 have hbw := hP.lt
 have TX0 : Hid (∀ w' g, PrW w0 b (.slice p len c) most v L w' → w'.heap[g]? = some (.cells #[.int .i64 (q0 : Int)] 3 (0, 0)) → Calls Tryz.prog 64 #[.pointer (some ⟨b, 0, none⟩), .slice (some ⟨g, 0, none⟩) 1 1] w' fun e w'' => e = .returned (.string (exT x0)) ∧ Below w'.heap.size w' w'') := lh (fun w' g h1 h2 => text_one h1 hb hT ht hlen hO0 (by omega) (Or.inr (by rw [hx0]; decide)) hw0 (by omega) g h2)
 have hwr : wfRL xs := hw.2.2
 have hXS : TxL ns ((heads (o + 1) (x0 :: xs)).drop 1) xs := ⟨⟨by simp [heads, heads_length], fun j hj => by
  obtain ⟨q, h1, h2, h3⟩ := hO.kid (j + 1) (by simpa using hj)
  refine ⟨q, ?_, h2, by simpa using h3⟩
  rw [← h1]
  simp [List.getD, List.getElem?_drop, Nat.add_comm]⟩, fun j hj => by
  have hj2 : j + 1 < (x0 :: xs).length := by simp [heads_length] at hj ⊢; simpa [heads, heads_length] using hj
  have h1 := heads_ge (x0 :: xs) (o + 1) (j + 1) hj2
  have h2 : ((heads (o + 1) (x0 :: xs)).drop 1).getD j 0 = (heads (o + 1) (x0 :: xs)).getD (j + 1) 0 := by simp [List.getD, List.getElem?_drop, Nat.add_comm]
  rw [h2]
  omega, fun x hx => ⟨isTx_expr (hxs x hx), wfRL_mem hwr x hx⟩⟩
 have hIS : ∀ kc', IntsW w0.heap.size w0 (.slice (some ⟨kb, koff + 1, none⟩) (kl - 1) kc') ((heads (o + 1) (x0 :: xs)).drop 1) := fun kc' => .inr ⟨kb, koff + 1, kc', by rw [show ((heads (o + 1) (x0 :: xs)).drop 1).length = kl - 1 by rw [List.length_drop, heads_length, List.length_cons]; omega], hkb, fun j hj => by
  rw [List.length_drop, heads_length, List.length_cons] at hj
  rw [show koff + 1 + j = koff + (j + 1) by omega, hkc (j + 1) (by omega)]
  simp [List.getD, List.getElem?_drop, Nat.add_comm]⟩
 have TXS : Hid (∀ w' kc', PrW w0 b (.slice p len c) most v L w' → Calls Tryz.prog 64 #[.pointer (some ⟨b, 0, none⟩), .slice (some ⟨kb, koff + 1, none⟩) (kl - 1) kc'] w' fun e w'' => e = .returned (.string TS) ∧ Below w'.heap.size w' w'') := lh (fun w' kc' h1 => by rw [← hTS]; exact text_allW h1 hb hT ht hlen (hIS kc') hXS (by simp only [Ast.size, sizeL] at hd; omega) (by rw [hTS]; omega))
 have LN : Hid (∀ w' g, PrW w0 b (.slice p len c) most v L w' → w'.heap[g]? = some (.cells #[.string (⟨#[112, 117, 116, 32]⟩), .string (exT x0), .string ⟨#[40]⟩, .string TS, .string (⟨#[41, 59]⟩)] 9 (0, 0)) → Calls Tryz.prog 167 #[.pointer (some ⟨b, 0, none⟩), .int .i64 (d : Int), .slice (some ⟨g, 0, none⟩) 5 5] w' fun e w'' => e = .returned (.tuple #[]) ∧ ∃ v', PrW w0 b (.slice p len c) most v' (L ++ stT d (.mk 9 a s n (x0 :: xs))) w'' ∧ KeepT b w' w'') := lh (fun w' g h1 h2 => by rw [HEQ]; exact line_at w0 w' b _ most v L h1 d g 5 [⟨#[112, 117, 116, 32]⟩, exT x0, ⟨#[40]⟩, TS, ⟨#[41, 59]⟩] h2 (by simp) (by simp only [Ast.size, sizeL] at hd; omega) (by omega) (by simp only [catT, ByteArray.size_append]; omega))
 have HB : Hid (Below b w0 (w.alloc (.cells #[.int .u8 9, .int .i64 a', .string s, .int .i64 n, .slice (some ⟨kb, koff, none⟩) kl kc] 54)) ∧ (w.alloc (.cells #[.int .u8 9, .int .i64 a', .string s, .int .i64 n, .slice (some ⟨kb, koff, none⟩) kl kc] 54)).heap[w.heap.size]? = some (.cells #[.int .u8 9, .int .i64 a', .string s, .int .i64 n, .slice (some ⟨kb, koff, none⟩) kl kc] 54 (0, 0))) := lh ⟨(hP.on (one_below w _)).below, heap_alloc_new w _⟩
 have HS := lh (hP.on (one_below w (.cells #[.int .u8 9, .int .i64 a', .string s, .int .i64 n, .slice (some ⟨kb, koff, none⟩) kl kc] 54)))
 have hgb : ¬ w.heap.size = b := by omega
 have hkb2 : kb < b := by omega
 have HC0 : Hid (∀ w', Below b w0 w' → w'.cell? ⟨kb, koff, none⟩ = some (.int .i64 (q0 : Int))) := lh (fun w' h => (h.cell (p := ⟨kb, koff, none⟩) hkb2).trans c0)
 show Calls _ _ _ _ (fun e w' => e = .returned (.tuple #[]) ∧ ∃ v', PrW w0 b _ most v' (L ++ stT d (.mk 9 a s n (x0 :: xs))) w')
 generalize stT d (.mk 9 a s n (x0 :: xs)) = ST at *
 clear hwr hXS hIS hTS hxs
 have h1kl : 1 ≤ kl := by omega
 have hx4 : 0 < kl := by omega
 have hx5 : ¬ kc = 1 := by omega
 have hx2 : (1 : Int) ≤ (kl : Int) := by omega
 have hx3 : (kl : Int) ≤ (kc : Int) := by omega
 clear hT hO hw ht hI hP hfit hmost hst HEQ hkc hkl hd hne hlen hb hbw hkb hkb2 hq0 hql0 hO0 hg0 c0 hw0 hx0
 go_enter Tryz.func99, Tryz.ntmps99
 have d0 := HC0.out _ HB.out.1
 go_wp2_with fail
 clear d0
 generalize w.alloc (.cells #[.int .u8 9, .int .i64 a', .string s, .int .i64 n, .slice (some ⟨kb, koff, none⟩) kl kc] 54) = W1 at *
 generalize w.heap.size = g0 at *
 have HF : Hid (∀ w' : World, w'.heap[g0]? = some (.cells #[.int .u8 9, .int .i64 a', .string s, .int .i64 n, .slice (some ⟨kb, koff, none⟩) kl kc] 54 (0, 0)) → w'.cell? ⟨g0, 2, none⟩ = some (.string s) ∧ w'.cell? ⟨g0, 3, none⟩ = some (.int .i64 n)) := lh (fun w' h => ⟨by rw [cell_of_row _ _ _ _ _ _ h]; rfl, by rw [cell_of_row _ _ _ _ _ _ h]; rfl⟩)
 refine wp_region_held_drew (S := fun w' => Below b w0 w' ∧ w'.heap[g0]? = some (.cells #[.int .u8 9, .int .i64 a', .string s, .int .i64 n, .slice (some ⟨kb, koff, none⟩) kl kc] 54 (0, 0))) (by kernel_rfl) ⟨HB.out.1.drew, HB.out.2⟩ (fun hHeld => ?_)
 have HS := lh (HS.out.on (drew_on W1))
 have HB := lh hHeld
 generalize W1.drew = W2 at *
 clear hHeld
 refine tn 0 HB.out ?_
 (try simp only [pn])
 refine tn 1 HB.out ?_
 (try simp only [pn])
 refine tn 2 HB.out ?_
 (try simp only [pn])
 refine tn 3 HB.out ?_
 (try simp only [pn])
 refine tn 4 HB.out ?_
 (try simp only [pn])
 refine tk (i := 5) (v := ?_) rfl HB.out ?_ ?_
 rotate_left
 · (intro w' hSw; have hb9 := hSw.1; have h9 := HF.out _ hSw.2; obtain ⟨f9, e9⟩ := h9; have d0 := HC0.out _ hb9; clear hSw hb9; go_simp; try with_reducible rfl)
 (try simp only [pn])
 refine tn 8 HB.out ?_
 (try simp only [pn])
 refine tn 9 HB.out ?_
 (try simp only [pn])
 refine tn 10 HB.out ?_
 (try simp only [pn])
 refine wpAnyH_ready (rs := [6]) (by kernel_rfl) (by simp) ?_
 refine AllReadyH.cons rfl (fun K hK => ?_) (AllReadyH.nil)
 · skip
   go_simp
   have hb9 := one_below W2 (.cells #[.int .i64 (q0 : Int)] 3)
   have HS := lh (HS.out.on hb9)
   have HB := lh (And.intro HS.out.below (on_row hb9 HB.out.2))
   have F6 := lh (heap_alloc_new W2 (.cells #[.int .i64 (q0 : Int)] 3))
   clear hb9
   refine hK.out _ _ HB.out (fun hHeld => ?_)
   clear hK K hHeld
   (try simp only [pn])
   generalize W2.heap.size = g16 at *
   generalize W2.alloc (.cells #[.int .i64 (q0 : Int)] 3) = W3 at *
   refine wpAnyH_ready (rs := [7]) (by kernel_rfl) (by simp) ?_
   refine AllReadyH.cons rfl (fun K hK => ?_) (AllReadyH.nil)
   · skip
     go_simp
     go_at_call 64
     (with_reducible refine (TX0.out W3 g16 HS.out F6.out).mono ?_)
     rintro e W4 ⟨rfl, hb9⟩
     clear F6
     have HS := lh (HS.out.on hb9)
     have HB := lh (And.intro HS.out.below (on_row hb9 HB.out.2))
     clear hb9
     go_simp
     refine hK.out _ _ HB.out (fun hHeld => ?_)
     clear hK K hHeld
     (try simp only [pn])
     refine wpAnyH_ready (rs := [11]) (by kernel_rfl) (by simp) ?_
     refine AllReadyH.cons rfl (fun K hK => ?_) (AllReadyH.nil)
     · skip
       go_simp
       go_at_call 64
       (with_reducible refine (TXS.out W4 _ HS.out).mono ?_)
       rintro e W5 ⟨rfl, hb9⟩
       have HS := lh (HS.out.on hb9)
       have HB := lh (And.intro HS.out.below (on_row hb9 HB.out.2))
       clear hb9
       go_simp
       refine hK.out _ _ HB.out (fun hHeld => ?_)
       clear hK K hHeld
       (try simp only [pn])
       refine wpAnyH_ready (rs := [12]) (by kernel_rfl) (by simp) ?_
       refine AllReadyH.cons rfl (fun K hK => ?_) (AllReadyH.nil)
       · skip
         go_simp
         have hb9 := one_below W5 (.cells #[.string (⟨#[112, 117, 116, 32]⟩), .string (exT x0), .string ⟨#[40]⟩, .string TS, .string (⟨#[41, 59]⟩)] 9)
         have HS := lh (HS.out.on hb9)
         have HB := lh (And.intro HS.out.below (on_row hb9 HB.out.2))
         have F12 := lh (heap_alloc_new W5 (.cells #[.string (⟨#[112, 117, 116, 32]⟩), .string (exT x0), .string ⟨#[40]⟩, .string TS, .string (⟨#[41, 59]⟩)] 9))
         clear hb9
         refine hK.out _ _ HB.out (fun hHeld => ?_)
         clear hK K hHeld
         (try simp only [pn])
         generalize W5.heap.size = g22 at *
         generalize W5.alloc (.cells #[.string (⟨#[112, 117, 116, 32]⟩), .string (exT x0), .string ⟨#[40]⟩, .string TS, .string (⟨#[41, 59]⟩)] 9) = W6 at *
         refine wpAnyH_ready (rs := [13]) (by kernel_rfl) (by simp) ?_
         refine AllReadyH.cons rfl (fun K hK => ?_) (AllReadyH.nil)
         · skip
           go_simp
           go_at_call 167
           (with_reducible refine (LN.out W6 g22 HS.out F12.out).mono ?_)
           rintro e W7 ⟨rfl, v', HP, HK⟩
           have HP := lh HP
           have HB := lh (And.intro HP.out.below (HK _ _ _ _ HB.out.2 (by decide) hgb))
           clear HK
           go_simp
           refine hK.out _ _ HB.out (fun hHeld => ?_)
           clear hK K hHeld
           (try simp only [pn])
           refine wpAnyH_done (by kernel_rfl) ?_ _
           go_wp2_with fail
           go_end0
           exact ⟨rfl, v', HP.out⟩
end
section
open Go.RowKit
theorem rec_idle (p q r : Addr) (w : World) :
 CallsD Tryz.prog 71 #[.pointer (some p), .pointer (some q), .pointer (some r)] .returning w fun e u' w' => e = .returned (.tuple #[]) ∧ u' = .returning ∧ w' = w := by
 refine callsD_of_wpS Tryz.func71 rfl fun c₀ cs hu => ?_
 apply wpS_seq
 apply wpS_region
 simp [wpOpsS, go_sem, recoverD, hu, Tryz.ntmps71, Exit.thenS]
 refine wpS_of_wp ?_
 simp only [Array.replicate_succ, Array.replicate_zero, List.push_toArray, List.append_toArray, List.nil_append, List.cons_append, List.setIfInBounds_toArray, List.set_cons_zero, List.set_cons_succ]
 go_wp2_with fail
 cases c₀
 simp_all [bodyPostS, results, Tryz.results71]
theorem is_wrong (v : Value) (w : World) : (Instr.typeAssert (.iface 121 v) 20 121 true).run Tryz.prog w = .ok (.tuple #[v, .bool true]) w := by
 simp [Instr.typeAssert, Sem.run_bind, run_underlying Tryz.underlying121, Result.andThen]
theorem rec_wrong (B : Nat) (bs bt be : Nat) (sp : Option Addr) (len c : Nat) (xs : List Int) (k : Nat) (code : Int) (vt ve : Value) (w : World) (hs : w.cell? ⟨bs, 0, none⟩ = some (.slice sp len c)) (hsrc : Src w sp len c xs) (hlen : len ≤ 65536) (hk : k ≤ len) (hc : code ≠ 0)
 (ht : Boxed w bt 39 vt) (he : Boxed w be 25 ve) (hte : bt ≠ be) (hB1 : B ≤ bt) (hB2 : B ≤ be) :
 CallsD Tryz.prog 71 #[.pointer (some ⟨bs, 0, none⟩), .pointer (some ⟨bt, 0, none⟩), .pointer (some ⟨be, 0, none⟩)] (.panicking [{ v := .iface 121 (.agg #[.int .i64 (k : Int), .int .i64 code]), recovered := false }]) w fun e u' w' =>
  e = .returned (.tuple #[]) ∧ u' = .panicking [{ v := .iface 121 (.agg #[.int .i64 (k : Int), .int .i64 code]), recovered := true }] ∧ ∃ C l cc, Boxed w' bt 39 (.slice none 0 0) ∧ Boxed w' be 25 (.iface 109 (.pointer (some ⟨C, 0, none⟩))) ∧ ErrAt w' C (k : Int) l cc code ∧ Below B w w' := by
 have hta := is_wrong
 have hs2 : (w.alloc (.cells #[.int .i64 (k : Int), .int .i64 code] 121)).cell? ⟨bs, 0, none⟩ = some (.slice sp len c) := (World.cell?_alloc_lt _ _ ⟨bs, 0, none⟩ (cell_lt hs)).trans hs
 have htc := ht.cell
 have htz := ht.frozen
 have hec := he.cell
 have hez := he.frozen
 have htl := ht.lt
 have hel := he.lt
 have hBw : B ≤ w.heap.size := by omega
 have NW := lh (new_src sp len c k xs (k : Int) code (w.alloc (.cells #[.int .i64 (k : Int), .int .i64 code] 121)) hc (by omega) (by omega) (hsrc.below ((Below.refl _ _).alloc (Nat.le_refl _) _)))
 have HT := lh ht
 have HE := lh he
 clear ht he hsrc
 refine callsD_of_wpS Tryz.func71 rfl fun c₀ cs hu => ?_
 apply wpS_seq
 apply wpS_region
 simp [wpOpsS, go_sem, recoverD, hu, Tryz.ntmps71, Exit.thenS]
 refine wpS_of_wp ?_
 simp only [Array.replicate_succ, Array.replicate_zero, List.push_toArray, List.append_toArray, List.nil_append, List.cons_append, List.setIfInBounds_toArray, List.set_cons_zero, List.set_cons_succ]
 go_wp2_with fail
 (with_reducible refine NW.out.mono ?_)
 rintro e w' ⟨rfl, hN⟩
 have hb := hN.below
 have hal : Below w.heap.size w (w.alloc (.cells #[.int .i64 (k : Int), .int .i64 code] 121)) := (Below.refl _ _).alloc (Nat.le_refl _) _
 have hbb : Below w.heap.size w w' := hal.trans (hb.mono hal.size)
 have bt1 : Boxed w' bt 39 vt := (hbb.block bt htl).trans HT.out
 have be1 : Boxed w' be 25 ve := (hbb.block be hel).trans HE.out
 have d1 := bt1.cell
 have d2 := bt1.frozen
 have d3 := be1.cell
 have d4 := be1.frozen
 have hne1 : ¬ bt = be := hte
 have hne2 : ¬ be = bt := fun e => hte e.symm
 have HN := lh hN
 have bt2 := bt1.set (.slice none 0 0)
 have be2 := (be1.kept (grownBy_set w' ⟨bt, 0, none⟩ (.slice none 0 0)) (fun e => hne2 (Option.some.inj e))).set (.iface 109 (.pointer (some ⟨(w.alloc (.cells #[.int .i64 (k : Int), .int .i64 code] 121)).heap.size + 1, 0, none⟩)))
 have bt3 := bt2.kept (grownBy_set (w'.setCell ⟨bt, 0, none⟩ (.slice none 0 0)) ⟨be, 0, none⟩ (.iface 109 (.pointer (some ⟨(w.alloc (.cells #[.int .i64 (k : Int), .int .i64 code] 121)).heap.size + 1, 0, none⟩)))) (fun e => hne1 (Option.some.inj e))
 have hEA : ErrAt ((w'.setCell ⟨bt, 0, none⟩ (.slice none 0 0)).setCell ⟨be, 0, none⟩ (.iface 109 (.pointer (some ⟨(w.alloc (.cells #[.int .i64 (k : Int), .int .i64 code] 121)).heap.size + 1, 0, none⟩)))) ((w.alloc (.cells #[.int .i64 (k : Int), .int .i64 code] 121)).heap.size + 1) (k : Int) (lineF xs k) ((k : Int) - lastF xs k) code := by
  have h1 := hN.at_
  have hq : ∀ i, ((w'.setCell ⟨bt, 0, none⟩ (.slice none 0 0)).setCell ⟨be, 0, none⟩ (.iface 109 (.pointer (some ⟨(w.alloc (.cells #[.int .i64 (k : Int), .int .i64 code] 121)).heap.size + 1, 0, none⟩)))).cell? ⟨(w.alloc (.cells #[.int .i64 (k : Int), .int .i64 code] 121)).heap.size + 1, i, none⟩ = w'.cell? ⟨(w.alloc (.cells #[.int .i64 (k : Int), .int .i64 code] 121)).heap.size + 1, i, none⟩ := fun i => by
   rw [World.cell?_setCell_other _ _ _ _ (by first | (simp; done) | (simp; omega)), World.cell?_setCell_other _ _ _ _ (by first | (simp; done) | (simp; omega))]
  exact ⟨by have := h1.lt; simpa [World.setCell] using this, by rw [hq]; exact h1.c0, by rw [hq]; exact h1.c1, by rw [hq]; exact h1.c2, by rw [hq]; exact h1.c3⟩
 have HEA := lh hEA
 have BT3 := lh bt3
 have BE2 := lh be2
 have hfb : Below B w ((w'.setCell ⟨bt, 0, none⟩ (.slice none 0 0)).setCell ⟨be, 0, none⟩ (.iface 109 (.pointer (some ⟨(w.alloc (.cells #[.int .i64 (k : Int), .int .i64 code] 121)).heap.size + 1, 0, none⟩)))) := ((hbb.mono hBw).setCell (p := ⟨bt, 0, none⟩) hB1 _).setCell (p := ⟨be, 0, none⟩) hB2 _
 clear hN bt1 be1 bt2 be2 bt3 hEA NW
 go_wp2_with fail
 have hsz : (w.alloc (.cells #[.int .i64 (k : Int), .int .i64 code] 121)).heap.size = w.heap.size + 1 := by simp
 have h1 := BT3.out
 have h2 := BE2.out
 have h3 := HEA.out
 rw [hsz] at h1 h2 h3 hfb
 exact ⟨rfl, _, rfl, .tuple #[], by simp [results, Tryz.results71, Tryz.f71, go_sem], rfl, rfl, h1, _, h2, ⟨_, _, h3⟩, hfb⟩
end
section
open Go.RowKit
def ParsePost (xs : List Int) (w : World) (e : Ending) (w' : World) : Prop := Below w.heap.size w w' ∧ match parseS xs with
 | .error (i, er) => ∃ C l cc, e = .returned (.tuple #[.agg #[.slice none 0 0], .iface 109 (.pointer (some ⟨C, 0, none⟩))]) ∧ ErrAt w' C (i : Int) l cc er
 | .ok ns => ∃ p len cap, e = .returned (.tuple #[.agg #[.slice p len cap], .nilIface]) ∧ Tr.TV w' p len cap ns
abbrev W3 (w : World) (p : Option Addr) (len c : Nat) : World := ((w.alloc (.cells #[.slice p len c] 22)).alloc (.cells #[.slice none 0 0] 39)).alloc (.cells #[.nilIface] 25)
theorem W3_below (w : World) (p : Option Addr) (len c : Nat) : Below w.heap.size w (W3 w p len c) := (((Below.refl _ _).alloc (Nat.le_refl _) _).alloc (by simp) _).alloc (by simp; omega) _
theorem W3_size (w : World) (p : Option Addr) (len c : Nat) : (W3 w p len c).heap.size = w.heap.size + 1 + 1 + 1 := by simp [W3]
theorem W3_boxes (w : World) (p : Option Addr) (len c : Nat) : Boxed (W3 w p len c) w.heap.size 22 (.slice p len c) ∧ Boxed (W3 w p len c) (w.heap.size + 1) 39 (.slice none 0 0) ∧ Boxed (W3 w p len c) (w.heap.size + 1 + 1) 25 .nilIface := by
 refine ⟨((Boxed.new w _ _).alloc _).alloc _, ?_, ?_⟩
 · have h := (Boxed.new (w.alloc (.cells #[.slice p len c] 22)) 39 (.slice none 0 0)).alloc (.cells #[.nilIface] 25)
   rw [World.size_alloc] at h
   exact h
 · have h := Boxed.new ((w.alloc (.cells #[.slice p len c] 22)).alloc (.cells #[.slice none 0 0] 39)) 25 .nilIface
   simp only [World.size_alloc] at h
   exact h
theorem ErrAt.ne {W : World} {C q T : Nat} {u : Value} {x l c n : Int} (h : ErrAt W C x l c n) (hb : Boxed W q T u) : C ≠ q := fun e => by
 have h1 := h.c1
 have h2 : W.heap[q]? = some (.cells #[u] T (0, 0)) := hb
 rw [e, cell_of_row _ _ _ _ _ _ h2] at h1
 simp at h1
theorem ErrAt.put {W : World} {C q : Nat} {u : Value} {x l c n : Int} (h : ErrAt W C x l c n) (hne : C ≠ q) : ErrAt (W.setCell ⟨q, 0, none⟩ u) C x l c n := by
 have hq : ∀ i, (W.setCell ⟨q, 0, none⟩ u).cell? ⟨C, i, none⟩ = W.cell? ⟨C, i, none⟩ := fun i => World.cell?_of_block (w := W) (Below.heap_setCell _ _ _ _ hne)
 exact ⟨by have := h.lt; simpa [World.setCell] using this, by rw [hq]; exact h.c0, by rw [hq]; exact h.c1, by rw [hq]; exact h.c2, by rw [hq]; exact h.c3⟩
theorem parse_lex (w : World) (p : Option Addr) (len c : Nat) (xs : List Int) (h : Src w p len c xs) (hb : len ≤ 65536) (i : Nat) (er : Int) (hx : lexS xs = .error (i, er)) :
 Calls Tryz.prog 31 #[.slice p len c] w (ParsePost xs w) := by
 have LN := lh (lex_no (h.below (W3_below w p len c)) hb hx)
 have HX : Hid (parseS xs = .error (i, er)) := lh (by simp only [parseS, hx])
 obtain ⟨b1, b2, b3⟩ := W3_boxes w p len c
 have B1 := lh b1
 have B2 := lh b2
 have B3 := lh b3
 have hsz := W3_size w p len c
 have HSZ := lh hsz
 clear h hx b1 b2 b3 hsz
 go_enter_defers Tryz.func31, Tryz.ntmps31
 go_wp2_with fail
 (with_reducible refine LN.out.mono ?_)
 rintro e w4 ⟨C, l, cc, rfl, hE, hb4⟩
 have c1 : Boxed w4 w.heap.size 22 (.slice p len c) := (hb4.block _ B1.out.lt).trans B1.out
 have c2 : Boxed w4 (w.heap.size + 1) 39 (.slice none 0 0) := (hb4.block _ B2.out.lt).trans B2.out
 have c3 : Boxed w4 (w.heap.size + 1 + 1) 25 .nilIface := (hb4.block _ B3.out.lt).trans B3.out
 have d2 := c2.cell
 have z2 := c2.frozen
 have d3 := c3.cell
 have z3 := c3.frozen
 have hn2 := hE.ne c2
 have hn3 := hE.ne c3
 have hF := ((hE.put (u := .iface 109 (.pointer (some ⟨C, 0, none⟩))) hn3).put (u := .slice none 0 0) hn2).put (u := .iface 109 (.pointer (some ⟨C, 0, none⟩))) hn3
 have HF := lh hF
 have hfb : Below w.heap.size w (((w4.setCell ⟨w.heap.size + 1 + 1, 0, none⟩ (.iface 109 (.pointer (some ⟨C, 0, none⟩)))).setCell ⟨w.heap.size + 1, 0, none⟩ (.slice none 0 0)).setCell ⟨w.heap.size + 1 + 1, 0, none⟩ (.iface 109 (.pointer (some ⟨C, 0, none⟩)))) :=
  ((((W3_below w p len c).trans (hb4.mono (W3_below w p len c).size)).setCell (p := ⟨w.heap.size + 1 + 1, 0, none⟩) (by simp only; omega) _).setCell (p := ⟨w.heap.size + 1, 0, none⟩) (by simp only; omega) _).setCell (p := ⟨w.heap.size + 1 + 1, 0, none⟩) (by simp only; omega) _
 have HFB := lh hfb
 clear hF hfb
 clear hE hb4 c1 c2 c3 LN
 go_wp2_with fail
 go_region
 all_goals go_wp2_with fail
 all_goals simp [bodyPostD, Leaves, results, Tryz.results31, go_sem, d2, d3]
 all_goals
  refine ⟨HFB.out.drew, ?_⟩
  rw [HX.out]
  exact ⟨C, l, cc, rfl, ⟨HF.out.lt, HF.out.c0, HF.out.c1, HF.out.c2, HF.out.c3⟩⟩
theorem PS.begin (w4 w5 : World) (g cap : Nat) (ts : List Tok) (rb b : Nat) (xs : List Int) (hT : TR w4 g cap ts) (hg5 : w5.heap[g]? = w4.heap[g]?) (hs5 : w5.heap.size = w4.heap.size) (hrb : rb = w4.heap.size) (hbb : b = rb + 1) (hx : lexS xs = .ok ts) (hb : xs.length ≤ 65536) :
 PS { W := w5.alloc (.map ES13 13), b := b, g := g, cap := cap, toks := ts, mp := .map (some rb) } (.slice none 0 0) [] [] 64 (ts.map ptOf) ((w5.alloc (.map ES13 13)).alloc (.cells #[.slice (some ⟨g, 0, none⟩) ts.length cap, .int .i64 0, .int .i64 0, .map (some rb), .slice none 0 0] 125)) ∧ MapAt { W := w5.alloc (.map ES13 13), b := b, g := g, cap := cap, toks := ts, mp := .map (some rb) } := by
 obtain ⟨vs, hts, hvs⟩ := lexS_shape hx
 have hlen := lexN_len _ _ _ _ hx
 have hbs : b = (w5.alloc (.map ES13 13)).heap.size := by simp; omega
 have hgl := hT.lt
 refine ⟨{ below := ?_, lt := ?_, gl := by simp only; omega, cap := hT.le, tok := ?_, nx := ?_, r64 := Nat.le_refl _, ended := ?_, few := ?_, room := ?_, klen := rfl, own := World.ownsRow_nil _ _ _ _, kids := fun j hj => by simp at hj, apart := fun x hx => by simp at hx, pair := List.Pairwise.nil }, ⟨rb, rfl, by simp only; omega, ?_⟩⟩
 · simp only
   rw [hbs]
   exact (Below.refl _ _).alloc (Nat.le_refl _) _
 · simp only
   rw [hbs]
   simp
 · intro j i u hj hi
   have h5 : i < 5 := by have := (List.getElem?_eq_some_iff.1 hi).1; simpa [tokC5] using this
   have h1 : ts[j]? = some (ts.getD j (Tok.endAt 0)) := by simp only at hj; simp [List.getD, hj]
   have h2 := hT.cell (j * 5 + i) u (by rw [tok_cell ts j i _ h1 h5]; exact hi)
   simp only
   rw [World.cell?_of_block (w := w4) (a := ⟨g, j * 5 + i, none⟩) ?_]
   · exact h2
   · rw [Below.heap_alloc _ _ _ (by simp; omega), Below.heap_alloc _ _ _ (by simp only; omega)]
     exact hg5
 · refine ⟨0, rfl, ?_⟩
   simp only
   rw [hbs, World.alloc_heap_new]
   rfl
 · rw [hts, List.map_append]
   exact ended_snoc _ _ (end_pt _)
 · simp only; omega
 · simp only [List.length_nil, List.length_map]; omega
 · simp only
   rw [hrb, ← hs5]
   exact World.alloc_heap_new w5 _
theorem parse_run (w : World) (p : Option Addr) (len c : Nat) (xs : List Int) (h : Src w p len c xs) (hb : len ≤ 65536) (ts : List Tok) (hx : lexS xs = .ok ts) :
 Calls Tryz.prog 31 #[.slice p len c] w (ParsePost xs w) := by
 have hmf : ∀ (fn : Fn) (first cap : Array Value) (w : World), (Instr.makeFunc fn first cap).run Tryz.prog w = .ok (.func fn first cap) w := fun _ _ _ _ => rfl
 have LK := lh (lex_ok (h.below (W3_below w p len c)) hb hx)
 have HXS := lh hx
 have HS := lh h
 have hlx : Hid (xs.length = len) := lh h.1
 obtain ⟨b1, b2, b3⟩ := W3_boxes w p len c
 have B1 := lh b1
 have B2 := lh b2
 have B3 := lh b3
 have HSZ := lh (W3_size w p len c)
 clear h hx b1 b2 b3
 go_enter_defers Tryz.func31, Tryz.ntmps31
 go_wp2_with fail
 (with_reducible refine LK.out.mono ?_)
 rintro e w4 ⟨g, cap, rfl, hT, hg, hb4⟩
 have c1 : Boxed w4 w.heap.size 22 (.slice p len c) := (hb4.block _ B1.out.lt).trans B1.out
 have c2 : Boxed w4 (w.heap.size + 1) 39 (.slice none 0 0) := (hb4.block _ B2.out.lt).trans B2.out
 have c3 : Boxed w4 (w.heap.size + 1 + 1) 25 .nilIface := (hb4.block _ B3.out.lt).trans B3.out
 have d3 := c3.cell
 have z3 := c3.frozen
 have HB4 := lh hb4
 have HT := lh hT
 have HG := lh hg
 have hn1 : ¬ w.heap.size = w.heap.size + 1 + 1 := by omega
 have C1 := lh (c1.kept (grownBy_set w4 ⟨w.heap.size + 1 + 1, 0, none⟩ .nilIface) (fun e => by have e := Option.some.inj e; simp only at e; omega))
 have C2 := lh (c2.kept (grownBy_set w4 ⟨w.heap.size + 1 + 1, 0, none⟩ .nilIface) (fun e => by have e := Option.some.inj e; simp only at e; omega))
 have C3 := lh (c3.set .nilIface)
 have ST := lh (statements_at (w4.setCell ⟨w.heap.size + 1 + 1, 0, none⟩ .nilIface))
 have hP := PS.begin w4 (w4.setCell ⟨w.heap.size + 1 + 1, 0, none⟩ .nilIface) g cap ts w4.heap.size (w4.heap.size + 1) xs hT (Below.heap_setCell _ _ _ _ (by have := HSZ.out; simp only; omega)) (by simp [World.setCell]) rfl rfl HXS.out (by have := hlx.out; omega)
 have HP := lh hP.1
 have HM := lh hP.2
 clear hT hg hb4 c1 c2 c3 LK hP
 go_wp2_with fail
 (with_reducible refine ST.out.mono ?_)
 rintro e w6 ⟨rfl, rfl⟩
 clear d3 z3 ST
 have hsz5 : (w4.setCell ⟨w.heap.size + 1 + 1, 0, none⟩ .nilIface).heap.size = w4.heap.size := by simp [World.setCell]
 go_wp2_with fail
 obtain ⟨E, hE⟩ : ∃ E : Env, E = { W := (w4.setCell ⟨w.heap.size + 1 + 1, 0, none⟩ .nilIface).alloc (.map ES13 13), b := w4.heap.size + 1, g := g, cap := cap, toks := ts, mp := .map (some w4.heap.size) } := ⟨_, rfl⟩
 rw [← hE] at HP HM
 have hEb : E.b = w4.heap.size + 1 := by rw [hE]
 have hEW : E.W = (w4.setCell ⟨w.heap.size + 1 + 1, 0, none⟩ .nilIface).alloc (.map ES13 13) := by rw [hE]
 have hptl : (ts.map ptOf).length ≤ 65537 := by have h1 := lexN_len _ _ _ _ HXS.out; have h2 := hlx.out; rw [List.length_map]; omega
 have PG := lh (program_at HP.out HM.out (by simp only [List.length_nil]; omega))
 rw [hEb] at PG
 have HEB := lh hEb
 have HEW := lh hEW
 have hs4 : w.heap.size + 1 + 1 + 1 ≤ w4.heap.size := by have h1 := HB4.out.size; have h2 := HSZ.out; omega
 have HSB : Hid (Below w.heap.size w E.W) := lh (by
  rw [HEW.out]
  exact (((W3_below w p len c).trans (HB4.out.mono (W3_below w p len c).size)).setCell (p := ⟨w.heap.size + 1 + 1, 0, none⟩) (by simp only; omega) _).alloc (by rw [hsz5]; omega) _)
 have HWS : Hid (E.W.heap.size = w4.heap.size + 1) := lh (by rw [HEW.out]; simp)
 have K1 := lh (show Boxed E.W w.heap.size 22 (.slice p len c) by rw [HEW.out]; exact C1.out.alloc _)
 have K2 := lh (show Boxed E.W (w.heap.size + 1) 39 (.slice none 0 0) by rw [HEW.out]; exact C2.out.alloc _)
 have K3 := lh (show Boxed E.W (w.heap.size + 1 + 1) 25 .nilIface by rw [HEW.out]; exact C3.out.alloc _)
 clear hE hEb hEW HP HM hsz5 C1 C2 C3 HT HG HB4
 (with_reducible refine PG.out.mono ?_)
 rintro e w8 hP8
 cases hp : programP (ts.map ptOf) with
 | err q d =>
  rw [hp] at hP8
  obtain ⟨rfl, hb8⟩ := hP8
  have HR : Hid (parseS xs = .error (q, d)) := lh (by simp only [parseS, HXS.out, hp])
  obtain ⟨hd0, hq0⟩ := ce_program.er _ _ _ hp
  have hql : q ≤ len := by
   rcases hq0 with rfl | ⟨t, ht, rfl⟩
   · exact Nat.zero_le _
   · obtain ⟨vs, hts, hvs⟩ := lexS_shape HXS.out
     rw [hts, List.map_append, List.mem_append] at ht
     rcases ht with ht | ht
     · obtain ⟨u, hu, rfl⟩ := List.mem_map.1 ht
       have h1 := (hvs u hu).2
       have h2 := hlx.out
       show u.at' ≤ len
       omega
     · simp only [List.map_cons, List.map_nil, List.mem_singleton] at ht
       subst ht
       have h2 := hlx.out
       show xs.length ≤ len
       omega
  rw [HEB.out] at hb8
  have hb8w : Below w.heap.size w w8 := HSB.out.trans (hb8.mono (by omega))
  have k1 : Boxed w8 w.heap.size 22 (.slice p len c) := (hb8.block _ (by omega)).trans K1.out
  have k2 : Boxed w8 (w.heap.size + 1) 39 (.slice none 0 0) := (hb8.block _ (by omega)).trans K2.out
  have k3 : Boxed w8 (w.heap.size + 1 + 1) 25 .nilIface := (hb8.block _ (by omega)).trans K3.out
  have RW := lh (rec_wrong w.heap.size w.heap.size (w.heap.size + 1) (w.heap.size + 1 + 1) p len c xs q d _ _ w8 k1.cell (HS.out.below hb8w) hb hql hd0 k2 k3 (by omega) (by omega) (by omega))
  have HB8 := lh hb8w
  clear hb8 hb8w k1 k2 k3 hp
  go_wp2_with fail
  refine leaves_cons (f := 71) (args := #[.pointer (some ⟨w.heap.size, 0, none⟩), .pointer (some ⟨w.heap.size + 1, 0, none⟩), .pointer (some ⟨w.heap.size + 1 + 1, 0, none⟩)]) (by simp) (by simp [go_sem]) ?_
  refine RW.out.mono ?_
  rintro e u' w9 ⟨rfl, rfl, C, l, cc, r2, r3, hEA, hb9⟩
  have d2 := r2.cell
  have d3 := r3.cell
  have hfin : Hid (ParsePost xs w (.returned (.tuple #[.agg #[.slice none 0 0], .iface 109 (.pointer (some ⟨C, 0, none⟩))])) w9) := lh (by
   refine ⟨HB8.out.trans hb9, ?_⟩
   rw [HR.out]
   exact ⟨C, l, cc, rfl, hEA⟩)
  clear r2 r3 hEA hb9
  simp [Leaves, settle, results, Tryz.results31, go_sem, d2, d3]
  exact hfin.out
 | ok a l1 =>
  rw [hp] at hP8
  obtain ⟨v', new, rfl, hps, hnw, hfr⟩ := hP8
  have HR : Hid (parseS xs = .ok (flat 0 a)) := lh (by simp only [parseS, HXS.out, hp])
  obtain ⟨_, _, _, _, _, _, c4⟩ := hps.cells
  have hmade : Made (E.b + 1) w8 v' new (post 0 a) := {
   base := hps.lt
   own := by simpa using hps.own
   klen := by simpa using hps.klen
   kids := fun j hj => by simpa using hps.kids j (by simpa using hj)
   apart := by simpa using hps.apart
   pair := by simpa using hps.pair
   few := by have := hps.room; simp at this; omega }
  have FL := flat_at (E.b + 1) v' new a w8 hmade
  have hroot : rootI ([] : List Nd).length a = (a.size : Int) - 1 := by simp [rootI]
  have hb8 := hps.below
  rw [HEB.out] at hb8 FL c4
  have hlt8 := hps.lt
  rw [HEB.out] at hlt8
  have hb8w : Below w.heap.size w w8 := HSB.out.trans (hb8.mono (by omega))
  have k2 : Boxed w8 (w.heap.size + 1) 39 (.slice none 0 0) := (hb8.block _ (by omega)).trans K2.out
  have k3 : Boxed w8 (w.heap.size + 1 + 1) 25 .nilIface := (hb8.block _ (by omega)).trans K3.out
  have FLH := lh FL
  have KK2 := lh k2
  have KK3 := lh k3
  have HB8 := lh hb8w
  have hr2 : (.int .i64 (rootI ([] : List Nd).length a) : Value) = .int .i64 ((a.size : Int) - 1) := by rw [hroot]
  rw [hr2]
  clear hps hnw hfr hmade FL hroot hb8 hb8w k2 k3 hp hr2
  go_wp2_with fail
  (with_reducible refine FLH.out.mono ?_)
  rintro e w9 ⟨p9, l9, c9, rfl, hTV, hb9⟩
  have k2 : Boxed w9 (w.heap.size + 1) 39 (.slice none 0 0) := (hb9.block _ (by omega)).trans KK2.out
  have k3 : Boxed w9 (w.heap.size + 1 + 1) 25 .nilIface := (hb9.block _ (by omega)).trans KK3.out
  have d2 := k2.cell
  have z2 := k2.frozen
  have d3 := k3.cell
  have z3 := k3.frozen
  have hfin : Hid (ParsePost xs w (.returned (.tuple #[.agg #[.slice p9 l9 c9], .nilIface])) ((w9.setCell ⟨w.heap.size + 1, 0, none⟩ (.slice p9 l9 c9)).setCell ⟨w.heap.size + 1 + 1, 0, none⟩ .nilIface)) := lh (by
   refine ⟨((HB8.out.trans (hb9.mono (by omega))).setCell (p := ⟨w.heap.size + 1, 0, none⟩) (by simp only; omega) _).setCell (p := ⟨w.heap.size + 1 + 1, 0, none⟩) (by simp only; omega) _, ?_⟩
   rw [HR.out]
   exact ⟨p9, l9, c9, rfl, hTV _ (fun k hk => by rw [Below.heap_setCell _ _ _ _ (by simp only; omega), Below.heap_setCell _ _ _ _ (by simp only; omega)])⟩)
  have RI := lh (rec_idle ⟨w.heap.size, 0, none⟩ ⟨w.heap.size + 1, 0, none⟩ ⟨w.heap.size + 1 + 1, 0, none⟩ ((w9.setCell ⟨w.heap.size + 1, 0, none⟩ (.slice p9 l9 c9)).setCell ⟨w.heap.size + 1 + 1, 0, none⟩ .nilIface))
  clear k2 k3 hTV hb9 FLH
  go_wp2_with fail
  refine leaves_cons (f := 71) (args := #[.pointer (some ⟨w.heap.size, 0, none⟩), .pointer (some ⟨w.heap.size + 1, 0, none⟩), .pointer (some ⟨w.heap.size + 1 + 1, 0, none⟩)]) (by simp) (by simp [go_sem]) ?_
  refine RI.out.mono ?_
  rintro e u' w'' ⟨rfl, rfl, rfl⟩
  simp [Leaves, settle, results, Tryz.results31, go_sem, d2, d3]
  exact hfin.out
theorem parse_at (w : World) (p : Option Addr) (len c : Nat) (xs : List Int) (h : Src w p len c xs) (hb : len ≤ 65536) : Calls Tryz.prog 31 #[.slice p len c] w (ParsePost xs w) := by
 cases hx : lexS xs with
 | error e => exact parse_lex w p len c xs h hb e.1 e.2 hx
 | ok ts => exact parse_run w p len c xs h hb ts hx
end
section
open Go.RowKit
theorem bw_below (w : World) (s : ByteArray) : Below w.heap.size w (Lib.bytesWorld w 5 s) where
 os := rfl
 tape := rfl
 output := rfl
 size := by rw [Lib.bytesWorld_size]; omega
 block := fun k hk => Lib.bytesWorld_at_old w 5 s k hk
theorem bw_src (w : World) (s : ByteArray) : Src (Lib.bytesWorld w 5 s) (some ⟨w.heap.size, 0, none⟩) s.size (grownCap w s.size 0 5) (Tr.bytesI s) := by
 refine ⟨Tr.bytesI_length s, fun i => ?_, Or.inr ⟨w.heap.size, 0, rfl, grownCap_ge w s.size 0 5, by rw [Lib.bytesWorld_size]; omega, fun i hi => ?_⟩⟩
 · by_cases hi : i < s.data.toList.length
   · have h1 : (Tr.bytesI s).getD i 0 = ((s.data.toList[i]).toNat : Int) := by simp [Tr.bytesI, List.getD]; simp at hi; simp [hi]
     rw [h1]
     have := (s.data.toList[i]).toNat_lt
     omega
   · have h1 : (Tr.bytesI s).getD i 0 = 0 := by simp only [Tr.bytesI, List.getD]; rw [List.getElem?_eq_none (by simpa using hi)]; rfl
     rw [h1]
     omega
 · rw [Nat.zero_add, Lib.bytesWorld_cell w 5 s i hi]
   have hi' : i < s.data.toList.length := by simpa using hi
   congr 2
   simp [Tr.bytesI, List.getD]
   simp at hi'
   simp [hi']
end
end Go.Proofs.YthdioipfdbbmmaaGreatDoor
