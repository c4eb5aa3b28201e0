/- Contracts on the way to the laws of layer 5: PrintWl. -/
import Derived.Test.YthdioipfdbbmmaaGreatDoorKaa
import Derived.Test.YthdioipfdbbmmaaGreatDoorKbh
import Derived.BigQuiet
set_option linter.all false
set_option maxRecDepth 1000000
set_option maxHeartbeats 16000000
namespace Go.Proofs.YthdioipfdbbmmaaGreatDoor
section
open Go.RowKit Tr Go.Shelf
theorem write3 (ns : List Nd) (a : Nat) (s : ByteArray) (n : Int) (x0 x1 : Ast) (hx0 : ∀ x ∈ x0.kids, x.kind = 5) (hx1 : x1.kind = 6) (ih : HasAl ns x1) : HasW ns 3 a s n [x0, x1] (fun d => partD d (.mk 3 a s n [x0, x1])) := by
 intro d o w0 w b p len c most v L a' kp kl kc hT hO hw ht hlen hd hb hI hP hmost hfit
 have hkl : 2 = kl := by rw [← hI.len_eq, heads_length]; rfl
 obtain rfl : kl = 2 := hkl.symm
 obtain ⟨kb, koff, rfl, hkb, hkc⟩ := hI.cell (by omega)
 obtain ⟨q0, hq0, hql0, hO0⟩ := hO.kid 0 (by simp)
 have hg0 := heads_ge [x0, x1] (o + 1) 0 (by simp)
 rw [hq0] at hg0
 have c0 : w0.cell? ⟨kb, koff, none⟩ = some (.int .i64 (q0 : Int)) := by have h := hkc 0 (by omega); rw [hq0] at h; exact h
 have hw0 : wfR x0 := hw.kids (j := 0) (by simp)
 have hO0 : On ns q0 x0 := hO0
 obtain ⟨q1, hq1, hql1, hO1⟩ := hO.kid 1 (by simp)
 have hg1 := heads_ge [x0, x1] (o + 1) 1 (by simp)
 rw [hq1] at hg1
 have c1 : w0.cell? ⟨kb, koff + 1, none⟩ = some (.int .i64 (q1 : Int)) := by have h := hkc 1 (by omega); rw [hq1] at h; exact h
 have hw1 : wfR x1 := hw.kids (j := 1) (by simp)
 have hO1 : On ns q1 x1 := hO1
 obtain ⟨EI, hEI⟩ : ∃ EI, (if n = 1 then (⟨#[32, 115, 105, 110, 103, 108, 101]⟩ : ByteArray) else ⟨#[]⟩) = EI := ⟨_, rfl⟩
 have hn01 : n = 0 ∨ n = 1 := by have h1 := hw.parts.2.1; have h2 : mostR 3 = 1 := (by decide); rw [h2] at h1; omega
 obtain ⟨TS, hTS⟩ : ∃ TS, joinT (x0.kids.map exT) = TS := ⟨_, rfl⟩
 obtain ⟨A1, hA1⟩ : ∃ A1, lineT d (catT [⟨#[112, 114, 111, 99, 32]⟩, s, ⟨#[40]⟩, TS, ⟨#[41]⟩, EI, ⟨#[32, 123]⟩]) = A1 := ⟨_, rfl⟩
 obtain ⟨E1, hE1⟩ : ∃ E1, lineT d (catT [⟨#[125]⟩]) = E1 := ⟨_, rfl⟩
 have HEQ : partD d (.mk 3 a s n [x0, x1]) = A1 ++ blT (d + 1) x1 ++ E1 := by
  rw [← hA1, ← hE1]
  rw [← hTS, ← hEI]
  rfl
 have hs1 := congrArg ByteArray.size hA1
 simp only [lineT, catT, ByteArray.size_append] at hs1
 have hst := congrArg ByteArray.size HEQ
 simp only [ByteArray.size_append] at hst
 dsimp only at hfit
 rw [hst] at hfit
 have hbw := hP.lt
 have PK : Hid (∀ w' g, w'.heap[g]? = some (.cells #[.string ⟨#[]⟩, .string ⟨#[32, 115, 105, 110, 103, 108, 101]⟩] 9 (0, 0)) → Calls Tryz.prog 168 #[.int .i64 n, .slice (some ⟨g, 0, none⟩) 2 2] w' fun e w'' => e = .returned (.string EI) ∧ Below w'.heap.size w' w'') := lh (fun w' g h => by rw [← hEI]; exact pick_row w' n g _ _ h hn01)
 obtain ⟨k0', a0', s0', n0', ks0⟩ := x0
 simp only [Ast.kids] at hTS hx0
 obtain ⟨qa, hqn⟩ := hO0.node
 have hlen2 := hT.len_eq
 obtain ⟨nb, off, rfl, hbl, hnc⟩ := hT.node (by omega)
 obtain ⟨np, nl, nc, hqc⟩ := hnc q0 (by omega)
 rw [hqn] at hqc
 have hIn : IV w0 np nl nc (heads (q0 + 1) ks0) := hqc.iv
 have hcn : w0.cell? ⟨nb, off + q0 * 5 + 4, none⟩ = some (.slice np nl nc) := hqc.kids
 have hXS : TxL ns (heads (q0 + 1) ks0) ks0 := ⟨hO0.kids, fun j hj => by
  rw [heads_length] at hj
  have h1 := heads_ge ks0 (q0 + 1) j hj
  omega, fun x hx => ⟨Or.inl (hx0 x hx), wfRL_mem hw0.2 x hx⟩⟩
 have TXS : Hid (∀ w', PrW w0 b (.slice (some ⟨nb, off, none⟩) len c) most v L w' → Calls Tryz.prog 64 #[.pointer (some ⟨b, 0, none⟩), .slice np nl nc] w' fun e w'' => e = .returned (.string TS) ∧ Below w'.heap.size w' w'') := lh (fun w' h1 => by rw [← hTS]; exact text_all h1 hb hT ht hlen hIn hXS (by simp only [Ast.size, sizeL] at hd; omega) (by rw [hTS]; omega))
 have LN : Hid (∀ w' g, PrW w0 b (.slice (some ⟨nb, off, none⟩) len c) most v L w' → w'.heap[g]? = some (.cells #[.string (⟨#[112, 114, 111, 99, 32]⟩), .string s, .string ⟨#[40]⟩, .string TS, .string ⟨#[41]⟩, .string EI, .string (⟨#[32, 123]⟩)] 9 (0, 0)) → Calls Tryz.prog 167 #[.pointer (some ⟨b, 0, none⟩), .int .i64 (d : Int), .slice (some ⟨g, 0, none⟩) 7 7] w' fun e w'' => e = .returned (.tuple #[]) ∧ ∃ v', PrW w0 b (.slice (some ⟨nb, off, none⟩) len c) most v' (L ++ A1) w'' ∧ KeepT b w' w'') := lh (fun w' g h1 h2 => by rw [← hA1]; exact line_at w0 w' b _ most v L h1 d g 7 [⟨#[112, 114, 111, 99, 32]⟩, s, ⟨#[40]⟩, TS, ⟨#[41]⟩, EI, ⟨#[32, 123]⟩] h2 (by simp) (by simp only [Ast.size, sizeL] at hd; omega) (by omega) (by simp only [catT, ByteArray.size_append]; omega))
 have AL1 : Hid (∀ w' v' L', PrW w0 b (.slice (some ⟨nb, off, none⟩) len c) most v' L' w' → ((L'.size + (blT (d + 1) x1).size : Nat) : Int) ≤ most → Calls Tryz.prog 54 #[.pointer (some ⟨b, 0, none⟩), .int .i64 (q1 : Int), .int .i64 ((d : Int) + 1)] w' fun e w'' => e = .returned (.tuple #[]) ∧ ∃ v2, PrW w0 b (.slice (some ⟨nb, off, none⟩) len c) most v2 (L' ++ blT (d + 1) x1) w'') := lh (fun w' v' L' h1 h2 => ih (d + 1) q1 w0 w' b _ len c most v' L' hT hO1 hw1 ht hlen (by simp only [Ast.size, sizeL] at hd; omega) hb h1 hmost h2)
 have LN1 : Hid (∀ w' g v' L', PrW w0 b (.slice (some ⟨nb, off, none⟩) len c) most v' L' w' → L'.size ≤ 1000000000 → w'.heap[g]? = some (.cells #[.string ⟨#[125]⟩] 9 (0, 0)) → Calls Tryz.prog 167 #[.pointer (some ⟨b, 0, none⟩), .int .i64 (d : Int), .slice (some ⟨g, 0, none⟩) 1 1] w' fun e w'' => e = .returned (.tuple #[]) ∧ ∃ v2, PrW w0 b (.slice (some ⟨nb, off, none⟩) len c) most v2 (L' ++ E1) w'') := lh (fun w' g v' L' h1 h3 h2 => by rw [← hE1]; exact (line_at w0 w' b _ most v' L' h1 d g 1 [⟨#[125]⟩] h2 (by simp) (by simp only [Ast.size, sizeL] at hd; omega) h3 (by show (ByteArray.size _) ≤ _; simp only [catT, ByteArray.size_append]; exact Nat.le_trans (show _ ≤ 100 by decide) (by decide))).mono fun e w'' ⟨e1, v2, h4, _⟩ => ⟨e1, v2, h4⟩)
 have HB : Hid (Below b w0 (w.alloc (.cells #[.int .u8 3, .int .i64 a', .string s, .int .i64 n, .slice (some ⟨kb, koff, none⟩) 2 kc] 54)) ∧ (w.alloc (.cells #[.int .u8 3, .int .i64 a', .string s, .int .i64 n, .slice (some ⟨kb, koff, none⟩) 2 kc] 54)).heap[w.heap.size]? = some (.cells #[.int .u8 3, .int .i64 a', .string s, .int .i64 n, .slice (some ⟨kb, koff, none⟩) 2 kc] 54 (0, 0))) := lh ⟨(hP.on (one_below w _)).below, heap_alloc_new w _⟩
 have HS := lh (hP.on (one_below w (.cells #[.int .u8 3, .int .i64 a', .string s, .int .i64 n, .slice (some ⟨kb, koff, none⟩) 2 kc] 54)))
 have hgb : ¬ w.heap.size = b := by omega
 have hkb2 : kb < b := by omega
 have HC0 : Hid (∀ w', Below b w0 w' → w'.cell? ⟨kb, koff, none⟩ = some (.int .i64 (q0 : Int))) := lh (fun w' h => (h.cell (p := ⟨kb, koff, none⟩) hkb2).trans c0)
 have HC1 : Hid (∀ w', Below b w0 w' → w'.cell? ⟨kb, koff + 1, none⟩ = some (.int .i64 (q1 : Int))) := lh (fun w' h => (h.cell (p := ⟨kb, koff + 1, none⟩) hkb2).trans c1)
 show Calls _ _ _ _ (fun e w' => e = .returned (.tuple #[]) ∧ ∃ v', PrW w0 b _ most v' (L ++ partD d (.mk 3 a s n [.mk k0' a0' s0' n0' ks0, x1])) w')
 have hbl2 : nb < b := by omega
 have HN4 : Hid (∀ w', Below b w0 w' → w'.cell? ⟨nb, off + q0 * 5 + 4, none⟩ = some (.slice np nl nc)) := lh (fun w' h => (h.cell (p := ⟨nb, off + q0 * 5 + 4, none⟩) hbl2).trans hcn)
 have e4 := HN4.out _ HB.out.1
 have e0 := HS.out.cell.1
 have f0 : (0 : Int) ≤ (q0 : Int) := by omega
 have f1 : (q0 : Int) < (len : Int) := by omega
 clear hcn hbl2
 have HFIT := lh hfit
 have HMOST := lh hmost
 show Calls _ _ _ _ (fun e w' => e = .returned (.tuple #[]) ∧ ∃ v', PrW w0 b _ most v' (L ++ partD d (.mk 3 a s n [.mk k0' a0' s0' n0' ks0, x1])) w')
 rw [HEQ]
 have hd7 : d ≤ 70000 := by simp only [Ast.size, sizeL] at hd; omega
 generalize blT (d + 1) x1 = B1 at *
 clear hE1 ih hA1 hs1 hT hO hw ht hI hP hfit hmost hst HEQ hkc hkl hqc hIn hXS hTS hnc hqn hd hlen hb hbw hkb hkb2 hq0 hql0 hO0 hg0 c0 hw0 hx0 hq1 hql1 hO1 hg1 c1 hw1 hx1 hEI hn01
 go_enter Tryz.func99, Tryz.ntmps99
 have d0 := HC0.out _ HB.out.1
 have d1 := HC1.out _ HB.out.1
 go_wp2_with fail
 go_quiet (fail)
 have HS := lh (HS.out.on (drewN_below _ (w.alloc (.cells #[.int .u8 3, .int .i64 a', .string s, .int .i64 n, .slice (some ⟨kb, koff, none⟩) 2 kc] 54)) nq))
 have HB : Hid (Below b w0 ((w.alloc (.cells #[.int .u8 3, .int .i64 a', .string s, .int .i64 n, .slice (some ⟨kb, koff, none⟩) 2 kc] 54)).drewN nq) ∧ ((w.alloc (.cells #[.int .u8 3, .int .i64 a', .string s, .int .i64 n, .slice (some ⟨kb, koff, none⟩) 2 kc] 54)).drewN nq).heap[w.heap.size]? = some (.cells #[.int .u8 3, .int .i64 a', .string s, .int .i64 n, .slice (some ⟨kb, koff, none⟩) 2 kc] 54 (0, 0))) := lh ⟨HS.out.below, HB.out.2⟩
 clear e0 e4 d0 d1
 go_wp2_with fail
 generalize (w.alloc (.cells #[.int .u8 3, .int .i64 a', .string s, .int .i64 n, .slice (some ⟨kb, koff, none⟩) 2 kc] 54)).drewN nq = W1 at *
 generalize w.heap.size = g0 at *
 have HF : Hid (∀ w' : World, w'.heap[g0]? = some (.cells #[.int .u8 3, .int .i64 a', .string s, .int .i64 n, .slice (some ⟨kb, koff, none⟩) 2 kc] 54 (0, 0)) → w'.cell? ⟨g0, 2, none⟩ = some (.string s) ∧ w'.cell? ⟨g0, 3, none⟩ = some (.int .i64 n)) := lh (fun w' h => ⟨by rw [cell_of_row _ _ _ _ _ _ h]; rfl, by rw [cell_of_row _ _ _ _ _ _ h]; rfl⟩)
 refine wp_region_held_drew (S := fun w' => Below b w0 w' ∧ w'.heap[g0]? = some (.cells #[.int .u8 3, .int .i64 a', .string s, .int .i64 n, .slice (some ⟨kb, koff, none⟩) 2 kc] 54 (0, 0))) (by kernel_rfl) ⟨HB.out.1.drew, HB.out.2⟩ (fun hHeld => ?_)
 have HS := lh (HS.out.on (drew_on W1))
 have HB := lh hHeld
 generalize W1.drew = W2 at *
 clear hHeld
 refine tn 0 HB.out ?_
 (try simp only [pn])
 refine tn 1 HB.out ?_
 (try simp only [pn])
 refine tn 2 HB.out ?_
 (try simp only [pn])
 refine tk (i := 3) (v := ?_) rfl HB.out ?_ ?_
 rotate_left
 · (intro w' hSw; have hb9 := hSw.1; have h9 := HF.out _ hSw.2; obtain ⟨f9, e9⟩ := h9; have d0 := HC0.out _ hb9; have d1 := HC1.out _ hb9; clear hSw hb9; go_simp; try with_reducible rfl)
 (try simp only [pn])
 refine tn 4 HB.out ?_
 (try simp only [pn])
 refine tn 5 HB.out ?_
 (try simp only [pn])
 refine tn 7 HB.out ?_
 (try simp only [pn])
 refine tk (i := 8) (v := ?_) rfl HB.out ?_ ?_
 rotate_left
 · (intro w' hSw; have hb9 := hSw.1; have h9 := HF.out _ hSw.2; obtain ⟨f9, e9⟩ := h9; have d0 := HC0.out _ hb9; have d1 := HC1.out _ hb9; clear hSw hb9; go_simp; try with_reducible rfl)
 (try simp only [pn])
 refine wpAnyH_ready (rs := [6, 9]) (by kernel_rfl) (by simp) ?_
 refine AllReadyH.cons rfl (fun K hK => ?_) (AllReadyH.cons rfl (fun K hK => ?_) (AllReadyH.nil))
 · skip
   go_simp
   go_at_call 64
   (with_reducible refine (TXS.out W2 HS.out).mono ?_)
   rintro e W3 ⟨rfl, hb9⟩
   have HS := lh (HS.out.on hb9)
   have HB := lh (And.intro HS.out.below (on_row hb9 HB.out.2))
   clear hb9
   go_simp
   refine hK.out _ _ HB.out (fun hHeld => ?_)
   clear hK K hHeld
   (try simp only [pn])
   refine wpAnyH_ready (rs := [9]) (by kernel_rfl) (by simp) ?_
   refine AllReadyH.cons rfl (fun K hK => ?_) (AllReadyH.nil)
   · skip
     go_simp
     have hb9 := one_below W3 (.cells #[.string ⟨#[]⟩, .string (⟨#[32, 115, 105, 110, 103, 108, 101]⟩)] 9)
     have HS := lh (HS.out.on hb9)
     have HB := lh (And.intro HS.out.below (on_row hb9 HB.out.2))
     have F9 := lh (heap_alloc_new W3 (.cells #[.string ⟨#[]⟩, .string (⟨#[32, 115, 105, 110, 103, 108, 101]⟩)] 9))
     clear hb9
     refine hK.out _ _ HB.out (fun hHeld => ?_)
     clear hK K hHeld
     (try simp only [pn])
     generalize W3.heap.size = g19 at *
     generalize W3.alloc (.cells #[.string ⟨#[]⟩, .string (⟨#[32, 115, 105, 110, 103, 108, 101]⟩)] 9) = W4 at *
     refine wpAnyH_ready (rs := [10]) (by kernel_rfl) (by simp) ?_
     refine AllReadyH.cons rfl (fun K hK => ?_) (AllReadyH.nil)
     · skip
       go_simp
       go_at_call 168
       (with_reducible refine (PK.out W4 g19 F9.out).mono ?_)
       rintro e W5 ⟨rfl, hb9⟩
       clear F9
       have HS := lh (HS.out.on hb9)
       have HB := lh (And.intro HS.out.below (on_row hb9 HB.out.2))
       clear hb9
       go_simp
       refine hK.out _ _ HB.out (fun hHeld => ?_)
       clear hK K hHeld
       (try simp only [pn])
       refine wpAnyH_ready (rs := [11]) (by kernel_rfl) (by simp) ?_
       refine AllReadyH.cons rfl (fun K hK => ?_) (AllReadyH.nil)
       · skip
         go_simp
         have hb9 := one_below W5 (.cells #[.string (⟨#[112, 114, 111, 99, 32]⟩), .string s, .string ⟨#[40]⟩, .string TS, .string ⟨#[41]⟩, .string EI, .string (⟨#[32, 123]⟩)] 9)
         have HS := lh (HS.out.on hb9)
         have HB := lh (And.intro HS.out.below (on_row hb9 HB.out.2))
         have F11 := lh (heap_alloc_new W5 (.cells #[.string (⟨#[112, 114, 111, 99, 32]⟩), .string s, .string ⟨#[40]⟩, .string TS, .string ⟨#[41]⟩, .string EI, .string (⟨#[32, 123]⟩)] 9))
         clear hb9
         refine hK.out _ _ HB.out (fun hHeld => ?_)
         clear hK K hHeld
         (try simp only [pn])
         generalize W5.heap.size = g21 at *
         generalize W5.alloc (.cells #[.string (⟨#[112, 114, 111, 99, 32]⟩), .string s, .string ⟨#[40]⟩, .string TS, .string ⟨#[41]⟩, .string EI, .string (⟨#[32, 123]⟩)] 9) = W6 at *
         refine wpAnyH_ready (rs := [12]) (by kernel_rfl) (by simp) ?_
         refine AllReadyH.cons rfl (fun K hK => ?_) (AllReadyH.nil)
         · skip
           go_simp
           go_at_call 167
           (with_reducible refine (LN.out W6 g21 HS.out F11.out).mono ?_)
           rintro e W7 ⟨rfl, v', HP, HK⟩
           have HP := lh HP
           have HB := lh (And.intro HP.out.below (HK _ _ _ _ HB.out.2 (by decide) hgb))
           clear HK
           go_simp
           refine hK.out _ _ HB.out (fun hHeld => ?_)
           clear hK K hHeld
           (try simp only [pn])
           refine wpAnyH_done (by kernel_rfl) ?_ _
           have HPP0 := lh HP.out
           clear HP HB HS
           have k1 := HC1.out _ HPP0.out.below
           go_wp2_with (first | (go_at_call 54; (with_reducible refine (AL1.out _ _ _ HPP0.out (by have := HFIT.out; simp only [ByteArray.size_append] at this ⊢; omega)).mono ?_); rintro e wx0 ⟨rfl, vx0, HX⟩; have HPP1 := lh (HX.on (one_below wx0 (.cells #[.string ⟨#[125]⟩] 9))); have FY0 := lh (heap_alloc_new wx0 (.cells #[.string ⟨#[125]⟩] 9)); clear HX k1 HPP0) | (go_at_call 167; (with_reducible refine (LN1.out _ _ _ _ HPP1.out (by have := HFIT.out; have := HMOST.out; simp only [ByteArray.size_append] at *; omega) (by first | exact FY0.out | simpa using FY0.out)).mono ?_); rintro e wx1 ⟨rfl, vx1, HX⟩; have HPP2 := lh HX; clear HX HPP1 FY0))
           go_end0
           have HZ := HPP2.out
           simp only [app_assoc] at HZ
           refine ⟨rfl, vx1, ?_⟩
           simp only [app_assoc]
           exact HZ
 · skip
   go_simp
   have hb9 := one_below W2 (.cells #[.string ⟨#[]⟩, .string (⟨#[32, 115, 105, 110, 103, 108, 101]⟩)] 9)
   have HS := lh (HS.out.on hb9)
   have HB := lh (And.intro HS.out.below (on_row hb9 HB.out.2))
   have F9 := lh (heap_alloc_new W2 (.cells #[.string ⟨#[]⟩, .string (⟨#[32, 115, 105, 110, 103, 108, 101]⟩)] 9))
   clear hb9
   refine hK.out _ _ HB.out (fun hHeld => ?_)
   clear hK K hHeld
   (try simp only [pn])
   generalize W2.heap.size = g19 at *
   generalize W2.alloc (.cells #[.string ⟨#[]⟩, .string (⟨#[32, 115, 105, 110, 103, 108, 101]⟩)] 9) = W3 at *
   refine wpAnyH_ready (rs := [6]) (by kernel_rfl) (by simp) ?_
   refine AllReadyH.cons rfl (fun K hK => ?_) (AllReadyH.nil)
   · skip
     go_simp
     go_at_call 64
     (with_reducible refine (TXS.out W3 HS.out).mono ?_)
     rintro e W4 ⟨rfl, hb9⟩
     have HS := lh (HS.out.on hb9)
     have HB := lh (And.intro HS.out.below (on_row hb9 HB.out.2))
     have F9 := lh (on_row hb9 F9.out)
     clear hb9
     go_simp
     refine hK.out _ _ HB.out (fun hHeld => ?_)
     clear hK K hHeld
     (try simp only [pn])
     refine wpAnyH_ready (rs := [10]) (by kernel_rfl) (by simp) ?_
     refine AllReadyH.cons rfl (fun K hK => ?_) (AllReadyH.nil)
     · skip
       go_simp
       go_at_call 168
       (with_reducible refine (PK.out W4 g19 F9.out).mono ?_)
       rintro e W5 ⟨rfl, hb9⟩
       clear F9
       have HS := lh (HS.out.on hb9)
       have HB := lh (And.intro HS.out.below (on_row hb9 HB.out.2))
       clear hb9
       go_simp
       refine hK.out _ _ HB.out (fun hHeld => ?_)
       clear hK K hHeld
       (try simp only [pn])
       refine wpAnyH_ready (rs := [11]) (by kernel_rfl) (by simp) ?_
       refine AllReadyH.cons rfl (fun K hK => ?_) (AllReadyH.nil)
       · skip
         go_simp
         have hb9 := one_below W5 (.cells #[.string (⟨#[112, 114, 111, 99, 32]⟩), .string s, .string ⟨#[40]⟩, .string TS, .string ⟨#[41]⟩, .string EI, .string (⟨#[32, 123]⟩)] 9)
         have HS := lh (HS.out.on hb9)
         have HB := lh (And.intro HS.out.below (on_row hb9 HB.out.2))
         have F11 := lh (heap_alloc_new W5 (.cells #[.string (⟨#[112, 114, 111, 99, 32]⟩), .string s, .string ⟨#[40]⟩, .string TS, .string ⟨#[41]⟩, .string EI, .string (⟨#[32, 123]⟩)] 9))
         clear hb9
         refine hK.out _ _ HB.out (fun hHeld => ?_)
         clear hK K hHeld
         (try simp only [pn])
         generalize W5.heap.size = g21 at *
         generalize W5.alloc (.cells #[.string (⟨#[112, 114, 111, 99, 32]⟩), .string s, .string ⟨#[40]⟩, .string TS, .string ⟨#[41]⟩, .string EI, .string (⟨#[32, 123]⟩)] 9) = W6 at *
         refine wpAnyH_ready (rs := [12]) (by kernel_rfl) (by simp) ?_
         refine AllReadyH.cons rfl (fun K hK => ?_) (AllReadyH.nil)
         · skip
           go_simp
           go_at_call 167
           (with_reducible refine (LN.out W6 g21 HS.out F11.out).mono ?_)
           rintro e W7 ⟨rfl, v', HP, HK⟩
           have HP := lh HP
           have HB := lh (And.intro HP.out.below (HK _ _ _ _ HB.out.2 (by decide) hgb))
           clear HK
           go_simp
           refine hK.out _ _ HB.out (fun hHeld => ?_)
           clear hK K hHeld
           (try simp only [pn])
           refine wpAnyH_done (by kernel_rfl) ?_ _
           have HPP0 := lh HP.out
           clear HP HB HS
           have k1 := HC1.out _ HPP0.out.below
           go_wp2_with (first | (go_at_call 54; (with_reducible refine (AL1.out _ _ _ HPP0.out (by have := HFIT.out; simp only [ByteArray.size_append] at this ⊢; omega)).mono ?_); rintro e wx0 ⟨rfl, vx0, HX⟩; have HPP1 := lh (HX.on (one_below wx0 (.cells #[.string ⟨#[125]⟩] 9))); have FY0 := lh (heap_alloc_new wx0 (.cells #[.string ⟨#[125]⟩] 9)); clear HX k1 HPP0) | (go_at_call 167; (with_reducible refine (LN1.out _ _ _ _ HPP1.out (by have := HFIT.out; have := HMOST.out; simp only [ByteArray.size_append] at *; omega) (by first | exact FY0.out | simpa using FY0.out)).mono ?_); rintro e wx1 ⟨rfl, vx1, HX⟩; have HPP2 := lh HX; clear HX HPP1 FY0))
           go_end0
           have HZ := HPP2.out
           simp only [app_assoc] at HZ
           refine ⟨rfl, vx1, ?_⟩
           simp only [app_assoc]
           exact HZ
end
end Go.Proofs.YthdioipfdbbmmaaGreatDoor
