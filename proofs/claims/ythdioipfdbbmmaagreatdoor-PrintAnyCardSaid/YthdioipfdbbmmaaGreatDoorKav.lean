/- Contracts. -/
import Derived.Test.YthdioipfdbbmmaaGreatDoorKab
import Derived.Test.YthdioipfdbbmmaaGreatDoorKat
set_option linter.all false
set_option maxRecDepth 1000000
set_option maxHeartbeats 16000000
namespace Go.Proofs.YthdioipfdbbmmaaGreatDoor
section
open Go.RowKit Tr Go.Shelf
theorem write11 (ns:List Nd)(a:Nat)(s:ByteArray)(n:Int)(ks:List Ast)(hsh:isR (ks.map Ast.kind) [5,5]=true):HasW ns 11 a s n ks (fun d=>stT d (.mk 11 a s n ks)):=by
 intro d o w0 w b p len c most v L a' kp kl kc hT hO hw ht hlen hd hb hI hP hmost hfit
 have hkl:ks.length=kl:=by rw [← hI.len_eq,heads_length]
 obtain ⟨x0,x1,rfl,hx0,hx1⟩:=sh5_5 hsh
 obtain rfl:kl=2:=hkl.symm
 obtain ⟨kb,koff,rfl,hkb,hkc⟩:=hI.cell (by omega)
 obtain ⟨q0,hq0,hql0,hO0⟩:=hO.kid 0 (by simp)
 have hg0:=heads_ge [x0,x1] (o+1) 0 (by simp)
 rw [hq0] at hg0
 have c0:w0.cell? ⟨kb,koff,none⟩=some (.int .i64 (q0:Int)):=by have h:=hkc 0 (by omega);rw [hq0] at h;exact h
 have hw0:wfR x0:=hw.kids (j:=0) (by simp)
 have hO0:On ns q0 x0:=hO0
 obtain ⟨q1,hq1,hql1,hO1⟩:=hO.kid 1 (by simp)
 have hg1:=heads_ge [x0,x1] (o+1) 1 (by simp)
 rw [hq1] at hg1
 have c1:w0.cell? ⟨kb,koff+1,none⟩=some (.int .i64 (q1:Int)):=by have h:=hkc 1 (by omega);rw [hq1] at h;exact h
 have hw1:wfR x1:=hw.kids (j:=1) (by simp)
 have hO1:On ns q1 x1:=hO1
 have HEQ:stT d (.mk 11 a s n [x0,x1])=lineT d (catT [⟨#[115,99,97,110,32]⟩,s,⟨#[32,61,32]⟩,exT x0,⟨#[46]⟩,exT x1,⟨#[59]⟩]):=by
  show stF d 11 s n [exT x0,exT x1] _=_
  unfold stF
  rw [nn,nn,nn,nn,if_pos rfl]
  simp only [lineT,catT,app_none,app_assoc,List.getD_cons_zero,List.getD_cons_succ]
 have hst:=congrArg ByteArray.size HEQ
 simp only [lineT,catT,ByteArray.size_append] at hst
 dsimp only at hfit
 rw [hst] at hfit
 have hbw:=hP.lt
 have TX0:Hid (∀w' g,PrW w0 b (.slice p len c) most v L w'→w'.heap[g]?=some (.cells #[.int .i64 (q0:Int)] 3 (0,0))→Calls Tryz.prog 64 #[.pointer (some ⟨b,0,none⟩),.slice (some ⟨g,0,none⟩) 1 1] w' fun e w''=>e=.returned (.string (exT x0))∧Below w'.heap.size w' w''):=lh (fun w' g h1 h2=>text_one h1 hb hT ht hlen hO0 (by omega) (Or.inl hx0) hw0 (by omega) g h2)
 have TX1:Hid (∀w' g,PrW w0 b (.slice p len c) most v L w'→w'.heap[g]?=some (.cells #[.int .i64 (q1:Int)] 3 (0,0))→Calls Tryz.prog 64 #[.pointer (some ⟨b,0,none⟩),.slice (some ⟨g,0,none⟩) 1 1] w' fun e w''=>e=.returned (.string (exT x1))∧Below w'.heap.size w' w''):=lh (fun w' g h1 h2=>text_one h1 hb hT ht hlen hO1 (by omega) (Or.inl hx1) hw1 (by omega) g h2)
 have LN:Hid (∀w' g,PrW w0 b (.slice p len c) most v L w'→w'.heap[g]?=some (.cells #[.string (⟨#[115,99,97,110,32]⟩),.string s,.string (⟨#[32,61,32]⟩),.string (exT x0),.string ⟨#[46]⟩,.string (exT x1),.string ⟨#[59]⟩] 9 (0,0))→Calls Tryz.prog 167 #[.pointer (some ⟨b,0,none⟩),.int .i64 (d:Int),.slice (some ⟨g,0,none⟩) 7 7] w' fun e w''=>e=.returned (.tuple #[])∧∃v',PrW w0 b (.slice p len c) most v' (L++stT d (.mk 11 a s n [x0,x1])) w''∧KeepT b w' w''):=lh (fun w' g h1 h2=>by rw [HEQ];exact line_at w0 w' b _ most v L h1 d g 7 [⟨#[115,99,97,110,32]⟩,s,⟨#[32,61,32]⟩,exT x0,⟨#[46]⟩,exT x1,⟨#[59]⟩] h2 (by simp) (by simp only [Ast.size,sizeL] at hd;omega) (by omega) (by simp only [catT,ByteArray.size_append];omega))
 have HB:Hid (Below b w0 (w.alloc (.cells #[.int .u8 11,.int .i64 a',.string s,.int .i64 n,.slice (some ⟨kb,koff,none⟩) 2 kc] 54))∧(w.alloc (.cells #[.int .u8 11,.int .i64 a',.string s,.int .i64 n,.slice (some ⟨kb,koff,none⟩) 2 kc] 54)).heap[w.heap.size]?=some (.cells #[.int .u8 11,.int .i64 a',.string s,.int .i64 n,.slice (some ⟨kb,koff,none⟩) 2 kc] 54 (0,0))):=lh ⟨(hP.on (one_below w _)).below,heap_alloc_new w _⟩
 have HS:=lh (hP.on (one_below w (.cells #[.int .u8 11,.int .i64 a',.string s,.int .i64 n,.slice (some ⟨kb,koff,none⟩) 2 kc] 54)))
 have hgb:¬ w.heap.size=b:=by omega
 have hkb2:kb<b:=by omega
 have HC0:=ckH hkb2 c0
 have HC1:=ckH hkb2 c1
 show Calls _ _ _ _ (fun e w'=>e=.returned (.tuple #[])∧∃v',PrW w0 b _ most v' (L++stT d (.mk 11 a s n [x0,x1])) w')
 generalize stT d (.mk 11 a s n [x0,x1])=ST at *
 clear hT hO hw ht hI hP hfit hmost hst HEQ hkc hkl hsh hd hlen hb hbw hkb hkb2 hq0 hql0 hO0 hg0 c0 hw0 hx0 hq1 hql1 hO1 hg1 c1 hw1 hx1
 go_enter Tryz.func99,Tryz.ntmps99
 have d0:=HC0.out _ HB.out.1
 have d1:=HC1.out _ HB.out.1
 go_wp2_with fail
 clear d0
 clear d1
 generalize w.alloc (.cells #[.int .u8 11,.int .i64 a',.string s,.int .i64 n,.slice (some ⟨kb,koff,none⟩) 2 kc] 54)=W1 at *
 generalize w.heap.size=g0 at *
 have HF:Hid (∀w':World,w'.heap[g0]?=some (.cells #[.int .u8 11,.int .i64 a',.string s,.int .i64 n,.slice (some ⟨kb,koff,none⟩) 2 kc] 54 (0,0))→w'.cell? ⟨g0,2,none⟩=some (.string s)∧w'.cell? ⟨g0,3,none⟩=some (.int .i64 n)):=lh (fun w' h=>⟨by rw [cell_of_row _ _ _ _ _ _ h];rfl,by rw [cell_of_row _ _ _ _ _ _ h];rfl⟩)
 refine wp_region_held_drew (S:=fun w'=>Below b w0 w'∧w'.heap[g0]?=some (.cells #[.int .u8 11,.int .i64 a',.string s,.int .i64 n,.slice (some ⟨kb,koff,none⟩) 2 kc] 54 (0,0))) (by kernel_rfl) ⟨HB.out.1.drew,HB.out.2⟩ (fun hHeld=>?_)
 have HS:=lh (HS.out.on (drew_on W1))
 have HB:=lh hHeld
 generalize W1.drew=W at *
 clear hHeld
 refine tn 0 HB.out ?_
 (try simp only [pn])
 refine tn 1 HB.out ?_
 (try simp only [pn])
 refine tn 2 HB.out ?_
 (try simp only [pn])
 refine tk (i:=3) (v:=?_) rfl HB.out ?_ ?_
 rotate_left
 · (intro w' hSw;have hb9:=hSw.1;have h9:=HF.out _ hSw.2;obtain ⟨f9,e9⟩:=h9;have d0:=HC0.out _ hb9;have d1:=HC1.out _ hb9;clear hSw hb9;go_simp;try with_reducible rfl)
 (try simp only [pn])
 refine tn 4 HB.out ?_
 (try simp only [pn])
 refine tn 5 HB.out ?_
 (try simp only [pn])
 refine tn 6 HB.out ?_
 (try simp only [pn])
 refine tk (i:=7) (v:=?_) rfl HB.out ?_ ?_
 rotate_left
 · (intro w' hSw;have hb9:=hSw.1;have h9:=HF.out _ hSw.2;obtain ⟨f9,e9⟩:=h9;have d0:=HC0.out _ hb9;have d1:=HC1.out _ hb9;clear hSw hb9;go_simp;try with_reducible rfl)
 (try simp only [pn])
 refine tn 10 HB.out ?_
 (try simp only [pn])
 refine tn 11 HB.out ?_
 (try simp only [pn])
 refine tn 12 HB.out ?_
 (try simp only [pn])
 refine tk (i:=13) (v:=?_) rfl HB.out ?_ ?_
 rotate_left
 · (intro w' hSw;have hb9:=hSw.1;have h9:=HF.out _ hSw.2;obtain ⟨f9,e9⟩:=h9;have d0:=HC0.out _ hb9;have d1:=HC1.out _ hb9;clear hSw hb9;go_simp;try with_reducible rfl)
 (try simp only [pn])
 repeat' (first
  | (clear op8;have dn8:=trivial;go_simp;have hb9:=one_below W (.cells #[.int .i64 (q0:Int)] 3);replace HS:=lh (HS.out.on hb9);replace HB:=lh (And.intro HS.out.below (on_row hb9 HB.out.2));(try replace F14:=lh (on_row hb9 F14.out));(try replace F16:=lh (on_row hb9 F16.out));have F8:=lh (heap_alloc_new W (.cells #[.int .i64 (q0:Int)] 3));clear hb9;(refine hK.out _ _ HB.out (fun hHeld=>?_));clear hK K hHeld;(try simp only [pn]);generalize W.heap.size=g18 at *;generalize W.alloc (.cells #[.int .i64 (q0:Int)] 3)=W at *)
  | (clear op9;have dn9:=trivial;go_simp;go_at_call 64;(with_reducible refine (TX0.out W g18 HS.out F8.out).mono ?_);rintro e W ⟨rfl,hb9⟩;clear F8;replace HS:=lh (HS.out.on hb9);replace HB:=lh (And.intro HS.out.below (on_row hb9 HB.out.2));(try replace F14:=lh (on_row hb9 F14.out));(try replace F16:=lh (on_row hb9 F16.out));clear hb9;go_simp;(refine hK.out _ _ HB.out (fun hHeld=>?_));clear hK K hHeld;(try simp only [pn]))
  | (clear op14;have dn14:=trivial;go_simp;have hb9:=one_below W (.cells #[.int .i64 (q1:Int)] 3);replace HS:=lh (HS.out.on hb9);replace HB:=lh (And.intro HS.out.below (on_row hb9 HB.out.2));(try replace F8:=lh (on_row hb9 F8.out));(try replace F16:=lh (on_row hb9 F16.out));have F14:=lh (heap_alloc_new W (.cells #[.int .i64 (q1:Int)] 3));clear hb9;(refine hK.out _ _ HB.out (fun hHeld=>?_));clear hK K hHeld;(try simp only [pn]);generalize W.heap.size=g24 at *;generalize W.alloc (.cells #[.int .i64 (q1:Int)] 3)=W at *)
  | (clear op15;have dn15:=trivial;go_simp;go_at_call 64;(with_reducible refine (TX1.out W g24 HS.out F14.out).mono ?_);rintro e W ⟨rfl,hb9⟩;clear F14;replace HS:=lh (HS.out.on hb9);replace HB:=lh (And.intro HS.out.below (on_row hb9 HB.out.2));(try replace F8:=lh (on_row hb9 F8.out));(try replace F16:=lh (on_row hb9 F16.out));clear hb9;go_simp;(refine hK.out _ _ HB.out (fun hHeld=>?_));clear hK K hHeld;(try simp only [pn]))
  | (clear op16;have dn16:=trivial;go_simp;have hb9:=one_below W (.cells #[.string (⟨#[115,99,97,110,32]⟩),.string s,.string (⟨#[32,61,32]⟩),.string (exT x0),.string ⟨#[46]⟩,.string (exT x1),.string ⟨#[59]⟩] 9);replace HS:=lh (HS.out.on hb9);replace HB:=lh (And.intro HS.out.below (on_row hb9 HB.out.2));(try replace F8:=lh (on_row hb9 F8.out));(try replace F14:=lh (on_row hb9 F14.out));have F16:=lh (heap_alloc_new W (.cells #[.string (⟨#[115,99,97,110,32]⟩),.string s,.string (⟨#[32,61,32]⟩),.string (exT x0),.string ⟨#[46]⟩,.string (exT x1),.string ⟨#[59]⟩] 9));clear hb9;(refine hK.out _ _ HB.out (fun hHeld=>?_));clear hK K hHeld;(try simp only [pn]);generalize W.heap.size=g26 at *;generalize W.alloc (.cells #[.string (⟨#[115,99,97,110,32]⟩),.string s,.string (⟨#[32,61,32]⟩),.string (exT x0),.string ⟨#[46]⟩,.string (exT x1),.string ⟨#[59]⟩] 9)=W at *)
  | (clear op17;have dn17:=trivial;go_simp;go_at_call 167;(with_reducible refine (LN.out W g26 HS.out F16.out).mono ?_);rintro e W ⟨rfl,v',HP,HK⟩;have HP:=lh HP;replace HB:=lh (And.intro HP.out.below (HK _ _ _ _ HB.out.2 (by decide) hgb));clear HK;go_simp;(refine hK.out _ _ HB.out (fun hHeld=>?_));clear hK K hHeld;(try simp only [pn]))
  | (have:=dn8;have:=dn9;have:=dn14;have:=dn15;have:=dn16;have:=dn17;refine wpAnyH_done (by kernel_rfl) ?_ _;go_wp2_with fail;go_end0;exact ⟨rfl,v',HP.out⟩)
  | (have:=dn16;refine wpAnyH_ready (rs:=[17]) (by kernel_rfl) (by simp) (AllReadyH.cons rfl (fun K hK=>have op17:=trivial;?_) (AllReadyH.nil)))
  | (have:=dn15;refine wpAnyH_ready (rs:=[16]) (by kernel_rfl) (by simp) (AllReadyH.cons rfl (fun K hK=>have op16:=trivial;?_) (AllReadyH.nil)))
  | (have:=dn9;have:=dn14;refine wpAnyH_ready (rs:=[15]) (by kernel_rfl) (by simp) (AllReadyH.cons rfl (fun K hK=>have op15:=trivial;?_) (AllReadyH.nil)))
  | (have:=dn9;refine wpAnyH_ready (rs:=[14]) (by kernel_rfl) (by simp) (AllReadyH.cons rfl (fun K hK=>have op14:=trivial;?_) (AllReadyH.nil)))
  | (have:=dn8;have:=dn14;refine wpAnyH_ready (rs:=[9]) (by kernel_rfl) (by simp) (AllReadyH.cons rfl (fun K hK=>have op9:=trivial;?_) (AllReadyH.nil)))
  | (have:=dn8;refine wpAnyH_ready (rs:=[9,14]) (by kernel_rfl) (by simp) (AllReadyH.cons rfl (fun K hK=>have op9:=trivial;?_) (AllReadyH.cons rfl (fun K hK=>have op14:=trivial;?_) (AllReadyH.nil))))
  | (have:=dn14;refine wpAnyH_ready (rs:=[8]) (by kernel_rfl) (by simp) (AllReadyH.cons rfl (fun K hK=>have op8:=trivial;?_) (AllReadyH.nil)))
  | ( refine wpAnyH_ready (rs:=[8,14]) (by kernel_rfl) (by simp) (AllReadyH.cons rfl (fun K hK=>have op8:=trivial;?_) (AllReadyH.cons rfl (fun K hK=>have op14:=trivial;?_) (AllReadyH.nil))))
  | fail)
end
end Go.Proofs.YthdioipfdbbmmaaGreatDoor
