/- Contracts on the way to the laws of layer 5: PrintWe. -/
import Derived.Test.YthdioipfdbbmmaaGreatDoorKaa
import Derived.Test.YthdioipfdbbmmaaGreatDoorKax
set_option linter.all false
set_option maxRecDepth 1000000
set_option maxHeartbeats 16000000
namespace Go.Proofs.YthdioipfdbbmmaaGreatDoor
section
open Go.RowKit Tr Go.Shelf
def HasC (ns : List Nd) (k : Int) (a : Nat) (s : ByteArray) (n : Int) (ks : List Ast) (T : Nat → ByteArray) : Prop := ∀ (d o : Nat) (w0 w : World) (b : Nat) (p : Option Addr) (len c : Nat) (most : Int) (v : Value) (L : ByteArray) (a' : Int) (kp : Option Addr) (kl kc : Nat), TV w0 p len c ns → On ns o (.mk k a s n ks) → wfR (.mk k a s n ks) → PT10 w0 → len ≤ 70000 → d + (Ast.mk k a s n ks).size ≤ 70000 → b = w0.heap.size → IV w0 kp kl kc (heads (o + 1) ks) →
 PrW w0 b (.slice p len c) most v L w → most ≤ 1000000 → ((L.size + (T d).size : Nat) : Int) ≤ most →
 Calls Tryz.prog 169 #[.pointer (some ⟨b, 0, none⟩), .agg #[.int .u8 k, .int .i64 a', .string s, .int .i64 n, .slice kp kl kc], .int .i64 (d : Int)] w fun e w' => e = .returned (.tuple #[]) ∧ ∃ v', PrW w0 b (.slice p len c) most v' (L ++ T d) w'
theorem choice3 (ns : List Nd) (a : Nat) (s : ByteArray) (n : Int) (ks : List Ast) (hsh : isR (ks.map Ast.kind) [0, 0, 6] = true) (ih : ∀ y ∈ ks, y.kind = 6 → HasAl ns y) : HasC ns 14 a s n ks (fun d => stT d (.mk 14 a s n ks)) := by
 intro d o w0 w b p len c most v L a' kp kl kc hT hO hw ht hlen hd hb hI hP hmost hfit
 have hkl : ks.length = kl := by rw [← hI.len_eq, heads_length]
 obtain ⟨x0, x1, x2, rfl, hx0, hx1, hx2⟩ := sh0_0_6 hsh
 obtain rfl : kl = 3 := hkl.symm
 obtain ⟨kb, koff, rfl, hkb, hkc⟩ := hI.cell (by omega)
 obtain ⟨q0, hq0, hql0, hO0⟩ := hO.kid 0 (by simp)
 have hg0 := heads_ge [x0, x1, x2] (o + 1) 0 (by simp)
 rw [hq0] at hg0
 have c0 : w0.cell? ⟨kb, koff, none⟩ = some (.int .i64 (q0 : Int)) := by have h := hkc 0 (by omega); rw [hq0] at h; exact h
 have hw0 : wfR x0 := hw.kids (j := 0) (by simp)
 have hO0 : On ns q0 x0 := hO0
 obtain ⟨q1, hq1, hql1, hO1⟩ := hO.kid 1 (by simp)
 have hg1 := heads_ge [x0, x1, x2] (o + 1) 1 (by simp)
 rw [hq1] at hg1
 have c1 : w0.cell? ⟨kb, koff + 1, none⟩ = some (.int .i64 (q1 : Int)) := by have h := hkc 1 (by omega); rw [hq1] at h; exact h
 have hw1 : wfR x1 := hw.kids (j := 1) (by simp)
 have hO1 : On ns q1 x1 := hO1
 obtain ⟨q2, hq2, hql2, hO2⟩ := hO.kid 2 (by simp)
 have hg2 := heads_ge [x0, x1, x2] (o + 1) 2 (by simp)
 rw [hq2] at hg2
 have c2 : w0.cell? ⟨kb, koff + 2, none⟩ = some (.int .i64 (q2 : Int)) := by have h := hkc 2 (by omega); rw [hq2] at h; exact h
 have hw2 : wfR x2 := hw.kids (j := 2) (by simp)
 have hO2 : On ns q2 x2 := hO2
 obtain ⟨EI, hEI⟩ : ∃ EI, (if n = 1 then (⟨#[32, 61, 61, 32]⟩ : ByteArray) else ⟨#[32, 60, 32]⟩) = EI := ⟨_, rfl⟩
 have hn01 : n = 0 ∨ n = 1 := by have h1 := hw.parts.2.1; have h2 : mostR 14 = 1 := (by decide); rw [h2] at h1; omega
 obtain ⟨A1, hA1⟩ : ∃ A1, lineT d (catT [⟨#[105, 102, 32]⟩, exT x0, EI, exT x1, ⟨#[32, 123]⟩]) = A1 := ⟨_, rfl⟩
 obtain ⟨E1, hE1⟩ : ∃ E1, lineT d (catT [⟨#[125]⟩]) = E1 := ⟨_, rfl⟩
 have HEQ : stT d (.mk 14 a s n [x0, x1, x2]) = A1 ++ blT (d + 1) x2 ++ E1 := by
  rw [← hA1, ← hE1]
  show stF d 14 s n [exT x0, exT x1, exT x2] [blT (d + 1) x0, blT (d + 1) x1, blT (d + 1) x2] = _
  unfold stF
  rw [if_neg (by decide), if_neg (by decide), if_neg (by decide), if_neg (by decide), if_neg (by decide), if_neg (by decide), if_neg (by decide), if_pos rfl, hEI]
  rw [if_neg (by simp)]
  simp only [lineT, catT, app_none, none_app, app_assoc, List.getD_cons_zero, List.getD_cons_succ]
 have hs1 := congrArg ByteArray.size hA1
 simp only [lineT, catT, ByteArray.size_append] at hs1
 have hst := congrArg ByteArray.size HEQ
 simp only [ByteArray.size_append] at hst
 dsimp only at hfit
 rw [hst] at hfit
 have hbw := hP.lt
 have TX0 : Hid (∀ w' g, PrW w0 b (.slice p len c) most v L w' → w'.heap[g]? = some (.cells #[.int .i64 (q0 : Int)] 3 (0, 0)) → Calls Tryz.prog 64 #[.pointer (some ⟨b, 0, none⟩), .slice (some ⟨g, 0, none⟩) 1 1] w' fun e w'' => e = .returned (.string (exT x0)) ∧ Below w'.heap.size w' w'') := lh (fun w' g h1 h2 => text_one h1 hb hT ht hlen hO0 (by omega) (isTx_expr hx0) hw0 (by omega) g h2)
 have TX1 : Hid (∀ w' g, PrW w0 b (.slice p len c) most v L w' → w'.heap[g]? = some (.cells #[.int .i64 (q1 : Int)] 3 (0, 0)) → Calls Tryz.prog 64 #[.pointer (some ⟨b, 0, none⟩), .slice (some ⟨g, 0, none⟩) 1 1] w' fun e w'' => e = .returned (.string (exT x1)) ∧ Below w'.heap.size w' w'') := lh (fun w' g h1 h2 => text_one h1 hb hT ht hlen hO1 (by omega) (isTx_expr hx1) hw1 (by omega) g h2)
 have PK : Hid (∀ w' g, w'.heap[g]? = some (.cells #[.string ⟨#[32, 60, 32]⟩, .string ⟨#[32, 61, 61, 32]⟩] 9 (0, 0)) → Calls Tryz.prog 168 #[.int .i64 n, .slice (some ⟨g, 0, none⟩) 2 2] w' fun e w'' => e = .returned (.string EI) ∧ Below w'.heap.size w' w'') := lh (fun w' g h => by rw [← hEI]; exact pick_row w' n g _ _ h hn01)
 have LN : Hid (∀ w' g, PrW w0 b (.slice p len c) most v L w' → w'.heap[g]? = some (.cells #[.string (⟨#[105, 102, 32]⟩), .string (exT x0), .string EI, .string (exT x1), .string (⟨#[32, 123]⟩)] 9 (0, 0)) → Calls Tryz.prog 167 #[.pointer (some ⟨b, 0, none⟩), .int .i64 (d : Int), .slice (some ⟨g, 0, none⟩) 5 5] w' fun e w'' => e = .returned (.tuple #[]) ∧ ∃ v', PrW w0 b (.slice p len c) most v' (L ++ A1) w'' ∧ KeepT b w' w'') := lh (fun w' g h1 h2 => by rw [← hA1]; exact line_at w0 w' b _ most v L h1 d g 5 [⟨#[105, 102, 32]⟩, exT x0, EI, exT x1, ⟨#[32, 123]⟩] h2 (by simp) (by simp only [Ast.size, sizeL] at hd; omega) (by omega) (by simp only [catT, ByteArray.size_append]; omega))
 have AL2 : Hid (∀ w' v' L', PrW w0 b (.slice p len c) most v' L' w' → ((L'.size + (blT (d + 1) x2).size : Nat) : Int) ≤ most → Calls Tryz.prog 54 #[.pointer (some ⟨b, 0, none⟩), .int .i64 (q2 : Int), .int .i64 ((d : Int) + 1)] w' fun e w'' => e = .returned (.tuple #[]) ∧ ∃ v2, PrW w0 b (.slice p len c) most v2 (L' ++ blT (d + 1) x2) w'') := lh (fun w' v' L' h1 h2 => ih x2 (by simp) hx2 (d + 1) q2 w0 w' b p len c most v' L' hT hO2 hw2 ht hlen (by simp only [Ast.size, sizeL] at hd; have := ast_pos x0; have := ast_pos x1; omega) hb h1 hmost h2)
 have LN1 : Hid (∀ w' g v' L', PrW w0 b (.slice p len c) most v' L' w' → L'.size ≤ 1000000000 → w'.heap[g]? = some (.cells #[.string ⟨#[125]⟩] 9 (0, 0)) → Calls Tryz.prog 167 #[.pointer (some ⟨b, 0, none⟩), .int .i64 (d : Int), .slice (some ⟨g, 0, none⟩) 1 1] w' fun e w'' => e = .returned (.tuple #[]) ∧ ∃ v2, PrW w0 b (.slice p len c) most v2 (L' ++ E1) w'') := lh (fun w' g v' L' h1 h3 h2 => by rw [← hE1]; exact (line_at w0 w' b _ most v' L' h1 d g 1 [⟨#[125]⟩] h2 (by simp) (by simp only [Ast.size, sizeL] at hd; omega) h3 (by show (ByteArray.size _) ≤ _; simp only [catT, ByteArray.size_append]; exact Nat.le_trans (show _ ≤ 100 by decide) (by decide))).mono fun e w'' ⟨e1, v2, h4, _⟩ => ⟨e1, v2, h4⟩)
 have HB : Hid (Below b w0 (w.alloc (.cells #[.int .u8 14, .int .i64 a', .string s, .int .i64 n, .slice (some ⟨kb, koff, none⟩) 3 kc] 54)) ∧ (w.alloc (.cells #[.int .u8 14, .int .i64 a', .string s, .int .i64 n, .slice (some ⟨kb, koff, none⟩) 3 kc] 54)).heap[w.heap.size]? = some (.cells #[.int .u8 14, .int .i64 a', .string s, .int .i64 n, .slice (some ⟨kb, koff, none⟩) 3 kc] 54 (0, 0))) := lh ⟨(hP.on (one_below w _)).below, heap_alloc_new w _⟩
 have HS := lh (hP.on (one_below w (.cells #[.int .u8 14, .int .i64 a', .string s, .int .i64 n, .slice (some ⟨kb, koff, none⟩) 3 kc] 54)))
 have hgb : ¬ w.heap.size = b := by omega
 have hkb2 : kb < b := by omega
 have HC0 : Hid (∀ w', Below b w0 w' → w'.cell? ⟨kb, koff, none⟩ = some (.int .i64 (q0 : Int))) := lh (fun w' h => (h.cell (p := ⟨kb, koff, none⟩) hkb2).trans c0)
 have HC1 : Hid (∀ w', Below b w0 w' → w'.cell? ⟨kb, koff + 1, none⟩ = some (.int .i64 (q1 : Int))) := lh (fun w' h => (h.cell (p := ⟨kb, koff + 1, none⟩) hkb2).trans c1)
 have HC2 : Hid (∀ w', Below b w0 w' → w'.cell? ⟨kb, koff + 2, none⟩ = some (.int .i64 (q2 : Int))) := lh (fun w' h => (h.cell (p := ⟨kb, koff + 2, none⟩) hkb2).trans c2)
 show Calls _ _ _ _ (fun e w' => e = .returned (.tuple #[]) ∧ ∃ v', PrW w0 b _ most v' (L ++ stT d (.mk 14 a s n [x0, x1, x2])) w')
 have HFIT := lh hfit
 have HMOST := lh hmost
 show Calls _ _ _ _ (fun e w' => e = .returned (.tuple #[]) ∧ ∃ v', PrW w0 b _ most v' (L ++ stT d (.mk 14 a s n [x0, x1, x2])) w')
 rw [HEQ]
 have hd7 : d ≤ 70000 := by simp only [Ast.size, sizeL] at hd; omega
 generalize blT (d + 1) x2 = B2 at *
 clear hE1 ih hA1 hs1 hT hO hw ht hI hP hfit hmost hst HEQ hkc hkl hsh hd hlen hb hbw hkb hkb2 hq0 hql0 hO0 hg0 c0 hw0 hx0 hq1 hql1 hO1 hg1 c1 hw1 hx1 hq2 hql2 hO2 hg2 c2 hw2 hx2 hEI hn01
 go_enter Tryz.func169, Tryz.ntmps169
 have d0 := HC0.out _ HB.out.1
 have d1 := HC1.out _ HB.out.1
 have d2 := HC2.out _ HB.out.1
 go_wp2_with fail
 clear d0
 clear d1
 clear d2
 generalize w.alloc (.cells #[.int .u8 14, .int .i64 a', .string s, .int .i64 n, .slice (some ⟨kb, koff, none⟩) 3 kc] 54) = W1 at *
 generalize w.heap.size = g0 at *
 have HF : Hid (∀ w' : World, w'.heap[g0]? = some (.cells #[.int .u8 14, .int .i64 a', .string s, .int .i64 n, .slice (some ⟨kb, koff, none⟩) 3 kc] 54 (0, 0)) → w'.cell? ⟨g0, 2, none⟩ = some (.string s) ∧ w'.cell? ⟨g0, 3, none⟩ = some (.int .i64 n)) := lh (fun w' h => ⟨by rw [cell_of_row _ _ _ _ _ _ h]; rfl, by rw [cell_of_row _ _ _ _ _ _ h]; rfl⟩)
 refine wp_region_held_drew (S := fun w' => Below b w0 w' ∧ w'.heap[g0]? = some (.cells #[.int .u8 14, .int .i64 a', .string s, .int .i64 n, .slice (some ⟨kb, koff, none⟩) 3 kc] 54 (0, 0))) (by kernel_rfl) ⟨HB.out.1.drew, HB.out.2⟩ (fun hHeld => ?_)
 have HS := lh (HS.out.on (drew_on W1))
 have HB := lh hHeld
 generalize W1.drew = W at *
 clear hHeld
 refine tn 0 HB.out ?_
 (try simp only [pn])
 refine tn 1 HB.out ?_
 (try simp only [pn])
 refine tn 2 HB.out ?_
 (try simp only [pn])
 refine tn 3 HB.out ?_
 (try simp only [pn])
 refine tn 4 HB.out ?_
 (try simp only [pn])
 refine tk (i := 5) (v := ?_) rfl HB.out ?_ ?_
 rotate_left
 · (intro w' hSw; have hb9 := hSw.1; have h9 := HF.out _ hSw.2; obtain ⟨f9, e9⟩ := h9; have d0 := HC0.out _ hb9; have d1 := HC1.out _ hb9; have d2 := HC2.out _ hb9; clear hSw hb9; go_simp; try with_reducible rfl)
 (try simp only [pn])
 refine tn 8 HB.out ?_
 (try simp only [pn])
 refine tk (i := 9) (v := ?_) rfl HB.out ?_ ?_
 rotate_left
 · (intro w' hSw; have hb9 := hSw.1; have h9 := HF.out _ hSw.2; obtain ⟨f9, e9⟩ := h9; have d0 := HC0.out _ hb9; have d1 := HC1.out _ hb9; have d2 := HC2.out _ hb9; clear hSw hb9; go_simp; try with_reducible rfl)
 (try simp only [pn])
 refine tn 12 HB.out ?_
 (try simp only [pn])
 refine tn 13 HB.out ?_
 (try simp only [pn])
 refine tn 14 HB.out ?_
 (try simp only [pn])
 refine tk (i := 15) (v := ?_) rfl HB.out ?_ ?_
 rotate_left
 · (intro w' hSw; have hb9 := hSw.1; have h9 := HF.out _ hSw.2; obtain ⟨f9, e9⟩ := h9; have d0 := HC0.out _ hb9; have d1 := HC1.out _ hb9; have d2 := HC2.out _ hb9; clear hSw hb9; go_simp; try with_reducible rfl)
 (try simp only [pn])
 repeat' (first
  | (clear op6; have dn6 := trivial; go_simp; have hb9 := one_below W (.cells #[.int .i64 (q0 : Int)] 3); replace HS := lh (HS.out.on hb9); replace HB := lh (And.intro HS.out.below (on_row hb9 HB.out.2)); (try replace F10 := lh (on_row hb9 F10.out)); (try replace F16 := lh (on_row hb9 F16.out)); (try replace F18 := lh (on_row hb9 F18.out)); have F6 := lh (heap_alloc_new W (.cells #[.int .i64 (q0 : Int)] 3)); clear hb9; (refine hK.out _ _ HB.out (fun hHeld => ?_)); clear hK K hHeld; (try simp only [pn]); generalize W.heap.size = g16 at *; generalize W.alloc (.cells #[.int .i64 (q0 : Int)] 3) = W at *)
  | (clear op7; have dn7 := trivial; go_simp; go_at_call 64; (with_reducible refine (TX0.out W g16 HS.out F6.out).mono ?_); rintro e W ⟨rfl, hb9⟩; clear F6; replace HS := lh (HS.out.on hb9); replace HB := lh (And.intro HS.out.below (on_row hb9 HB.out.2)); (try replace F10 := lh (on_row hb9 F10.out)); (try replace F16 := lh (on_row hb9 F16.out)); (try replace F18 := lh (on_row hb9 F18.out)); clear hb9; go_simp; (refine hK.out _ _ HB.out (fun hHeld => ?_)); clear hK K hHeld; (try simp only [pn]))
  | (clear op10; have dn10 := trivial; go_simp; have hb9 := one_below W (.cells #[.string (⟨#[32, 60, 32]⟩), .string (⟨#[32, 61, 61, 32]⟩)] 9); replace HS := lh (HS.out.on hb9); replace HB := lh (And.intro HS.out.below (on_row hb9 HB.out.2)); (try replace F6 := lh (on_row hb9 F6.out)); (try replace F16 := lh (on_row hb9 F16.out)); (try replace F18 := lh (on_row hb9 F18.out)); have F10 := lh (heap_alloc_new W (.cells #[.string (⟨#[32, 60, 32]⟩), .string (⟨#[32, 61, 61, 32]⟩)] 9)); clear hb9; (refine hK.out _ _ HB.out (fun hHeld => ?_)); clear hK K hHeld; (try simp only [pn]); generalize W.heap.size = g20 at *; generalize W.alloc (.cells #[.string (⟨#[32, 60, 32]⟩), .string (⟨#[32, 61, 61, 32]⟩)] 9) = W at *)
  | (clear op11; have dn11 := trivial; go_simp; go_at_call 168; (with_reducible refine (PK.out W g20 F10.out).mono ?_); rintro e W ⟨rfl, hb9⟩; clear F10; replace HS := lh (HS.out.on hb9); replace HB := lh (And.intro HS.out.below (on_row hb9 HB.out.2)); (try replace F6 := lh (on_row hb9 F6.out)); (try replace F16 := lh (on_row hb9 F16.out)); (try replace F18 := lh (on_row hb9 F18.out)); clear hb9; go_simp; (refine hK.out _ _ HB.out (fun hHeld => ?_)); clear hK K hHeld; (try simp only [pn]))
  | (clear op16; have dn16 := trivial; go_simp; have hb9 := one_below W (.cells #[.int .i64 (q1 : Int)] 3); replace HS := lh (HS.out.on hb9); replace HB := lh (And.intro HS.out.below (on_row hb9 HB.out.2)); (try replace F6 := lh (on_row hb9 F6.out)); (try replace F10 := lh (on_row hb9 F10.out)); (try replace F18 := lh (on_row hb9 F18.out)); have F16 := lh (heap_alloc_new W (.cells #[.int .i64 (q1 : Int)] 3)); clear hb9; (refine hK.out _ _ HB.out (fun hHeld => ?_)); clear hK K hHeld; (try simp only [pn]); generalize W.heap.size = g26 at *; generalize W.alloc (.cells #[.int .i64 (q1 : Int)] 3) = W at *)
  | (clear op17; have dn17 := trivial; go_simp; go_at_call 64; (with_reducible refine (TX1.out W g26 HS.out F16.out).mono ?_); rintro e W ⟨rfl, hb9⟩; clear F16; replace HS := lh (HS.out.on hb9); replace HB := lh (And.intro HS.out.below (on_row hb9 HB.out.2)); (try replace F6 := lh (on_row hb9 F6.out)); (try replace F10 := lh (on_row hb9 F10.out)); (try replace F18 := lh (on_row hb9 F18.out)); clear hb9; go_simp; (refine hK.out _ _ HB.out (fun hHeld => ?_)); clear hK K hHeld; (try simp only [pn]))
  | (clear op18; have dn18 := trivial; go_simp; have hb9 := one_below W (.cells #[.string (⟨#[105, 102, 32]⟩), .string (exT x0), .string EI, .string (exT x1), .string (⟨#[32, 123]⟩)] 9); replace HS := lh (HS.out.on hb9); replace HB := lh (And.intro HS.out.below (on_row hb9 HB.out.2)); (try replace F6 := lh (on_row hb9 F6.out)); (try replace F10 := lh (on_row hb9 F10.out)); (try replace F16 := lh (on_row hb9 F16.out)); have F18 := lh (heap_alloc_new W (.cells #[.string (⟨#[105, 102, 32]⟩), .string (exT x0), .string EI, .string (exT x1), .string (⟨#[32, 123]⟩)] 9)); clear hb9; (refine hK.out _ _ HB.out (fun hHeld => ?_)); clear hK K hHeld; (try simp only [pn]); generalize W.heap.size = g28 at *; generalize W.alloc (.cells #[.string (⟨#[105, 102, 32]⟩), .string (exT x0), .string EI, .string (exT x1), .string (⟨#[32, 123]⟩)] 9) = W at *)
  | (clear op19; have dn19 := trivial; go_simp; go_at_call 167; (with_reducible refine (LN.out W g28 HS.out F18.out).mono ?_); rintro e W ⟨rfl, v', HP, HK⟩; have HP := lh HP; replace HB := lh (And.intro HP.out.below (HK _ _ _ _ HB.out.2 (by decide) hgb)); clear HK; go_simp; (refine hK.out _ _ HB.out (fun hHeld => ?_)); clear hK K hHeld; (try simp only [pn]))
  | (have := dn6; have := dn7; have := dn10; have := dn11; have := dn16; have := dn17; have := dn18; have := dn19; refine wpAnyH_done (by kernel_rfl) ?_ _; have HPP0 := lh HP.out; clear HP HB HS; have k2 := HC2.out _ HPP0.out.below; go_wp2_with (first | (go_at_call 54; (with_reducible refine (AL2.out _ _ _ HPP0.out (by have := HFIT.out; simp only [ByteArray.size_append] at this ⊢; omega)).mono ?_); rintro e wx0 ⟨rfl, vx0, HX⟩; have HPP1 := lh (HX.on (one_below wx0 (.cells #[.string ⟨#[125]⟩] 9))); have FY0 := lh (heap_alloc_new wx0 (.cells #[.string ⟨#[125]⟩] 9)); clear HX k2 HPP0) | (go_at_call 167; (with_reducible refine (LN1.out _ _ _ _ HPP1.out (by have := HFIT.out; have := HMOST.out; simp only [ByteArray.size_append] at *; omega) (by first | exact FY0.out | simpa using FY0.out)).mono ?_); rintro e wx1 ⟨rfl, vx1, HX⟩; have HPP2 := lh HX; clear HX HPP1 FY0)); go_end0; have HZ := HPP2.out; simp only [app_assoc] at HZ; refine ⟨rfl, vx1, ?_⟩; simp only [app_assoc]; exact HZ)
  | (have := dn18; refine wpAnyH_ready (rs := [19]) (by kernel_rfl) (by simp) (AllReadyH.cons rfl (fun K hK => have op19 := trivial; ?_) (AllReadyH.nil)))
  | (have := dn17; refine wpAnyH_ready (rs := [18]) (by kernel_rfl) (by simp) (AllReadyH.cons rfl (fun K hK => have op18 := trivial; ?_) (AllReadyH.nil)))
  | (have := dn11; have := dn16; refine wpAnyH_ready (rs := [17]) (by kernel_rfl) (by simp) (AllReadyH.cons rfl (fun K hK => have op17 := trivial; ?_) (AllReadyH.nil)))
  | (have := dn11; refine wpAnyH_ready (rs := [16]) (by kernel_rfl) (by simp) (AllReadyH.cons rfl (fun K hK => have op16 := trivial; ?_) (AllReadyH.nil)))
  | (have := dn7; have := dn10; have := dn16; refine wpAnyH_ready (rs := [11]) (by kernel_rfl) (by simp) (AllReadyH.cons rfl (fun K hK => have op11 := trivial; ?_) (AllReadyH.nil)))
  | (have := dn7; have := dn10; refine wpAnyH_ready (rs := [11, 16]) (by kernel_rfl) (by simp) (AllReadyH.cons rfl (fun K hK => have op11 := trivial; ?_) (AllReadyH.cons rfl (fun K hK => have op16 := trivial; ?_) (AllReadyH.nil))))
  | (have := dn7; have := dn16; refine wpAnyH_ready (rs := [10]) (by kernel_rfl) (by simp) (AllReadyH.cons rfl (fun K hK => have op10 := trivial; ?_) (AllReadyH.nil)))
  | (have := dn6; have := dn10; have := dn16; refine wpAnyH_ready (rs := [7]) (by kernel_rfl) (by simp) (AllReadyH.cons rfl (fun K hK => have op7 := trivial; ?_) (AllReadyH.nil)))
  | (have := dn7; refine wpAnyH_ready (rs := [10, 16]) (by kernel_rfl) (by simp) (AllReadyH.cons rfl (fun K hK => have op10 := trivial; ?_) (AllReadyH.cons rfl (fun K hK => have op16 := trivial; ?_) (AllReadyH.nil))))
  | (have := dn6; have := dn10; refine wpAnyH_ready (rs := [7, 16]) (by kernel_rfl) (by simp) (AllReadyH.cons rfl (fun K hK => have op7 := trivial; ?_) (AllReadyH.cons rfl (fun K hK => have op16 := trivial; ?_) (AllReadyH.nil))))
  | (have := dn6; have := dn16; refine wpAnyH_ready (rs := [7, 10]) (by kernel_rfl) (by simp) (AllReadyH.cons rfl (fun K hK => have op7 := trivial; ?_) (AllReadyH.cons rfl (fun K hK => have op10 := trivial; ?_) (AllReadyH.nil))))
  | (have := dn10; have := dn16; refine wpAnyH_ready (rs := [6]) (by kernel_rfl) (by simp) (AllReadyH.cons rfl (fun K hK => have op6 := trivial; ?_) (AllReadyH.nil)))
  | (have := dn6; refine wpAnyH_ready (rs := [7, 10, 16]) (by kernel_rfl) (by simp) (AllReadyH.cons rfl (fun K hK => have op7 := trivial; ?_) (AllReadyH.cons rfl (fun K hK => have op10 := trivial; ?_) (AllReadyH.cons rfl (fun K hK => have op16 := trivial; ?_) (AllReadyH.nil)))))
  | (have := dn10; refine wpAnyH_ready (rs := [6, 16]) (by kernel_rfl) (by simp) (AllReadyH.cons rfl (fun K hK => have op6 := trivial; ?_) (AllReadyH.cons rfl (fun K hK => have op16 := trivial; ?_) (AllReadyH.nil))))
  | (have := dn16; refine wpAnyH_ready (rs := [6, 10]) (by kernel_rfl) (by simp) (AllReadyH.cons rfl (fun K hK => have op6 := trivial; ?_) (AllReadyH.cons rfl (fun K hK => have op10 := trivial; ?_) (AllReadyH.nil))))
  | ( refine wpAnyH_ready (rs := [6, 10, 16]) (by kernel_rfl) (by simp) (AllReadyH.cons rfl (fun K hK => have op6 := trivial; ?_) (AllReadyH.cons rfl (fun K hK => have op10 := trivial; ?_) (AllReadyH.cons rfl (fun K hK => have op16 := trivial; ?_) (AllReadyH.nil)))))
  | fail)
end
end Go.Proofs.YthdioipfdbbmmaaGreatDoor
