/- Contracts. -/
import Derived.Test.YthdioipfdbbmmaaGreatDoorKab
import Derived.Test.YthdioipfdbbmmaaGreatDoorKas
import Derived.Test.YthdioipfdbbmmaaGreatDoorKat
import Derived.Test.YthdioipfdbbmmaaGreatDoorKau
import Derived.Test.YthdioipfdbbmmaaGreatDoorKav
import Derived.Test.YthdioipfdbbmmaaGreatDoorKax
set_option linter.all false
set_option maxRecDepth 1000000
set_option maxHeartbeats 16000000
namespace Go.Proofs.YthdioipfdbbmmaaGreatDoor
section
open Go.RowKit Tr Go.Shelf
theorem write15 (ns:List Nd)(a:Nat)(s:ByteArray)(n:Int)(ks:List Ast)(hsh:isR (ks.map Ast.kind) [21,21,6]=true)(ih:∀y∈ks,y.kind=6→HasAl ns y):HasW ns 15 a s n ks (fun d=>stT d (.mk 15 a s n ks)):=by
 intro d o w0 w b p len c most v L a' kp kl kc hT hO hw ht hlen hd hb hI hP hmost hfit
 have hkl:ks.length=kl:=by rw [← hI.len_eq,heads_length]
 obtain ⟨x0,x1,x2,rfl,hx0,hx1,hx2⟩:=sh21_21_6 hsh
 obtain rfl:kl=3:=hkl.symm
 obtain ⟨kb,koff,rfl,hkb,hkc⟩:=hI.cell (by omega)
 obtain ⟨q0,hq0,hql0,hO0⟩:=hO.kid 0 (by simp)
 have hg0:=heads_ge [x0,x1,x2] (o+1) 0 (by simp)
 rw [hq0] at hg0
 have c0:w0.cell? ⟨kb,koff,none⟩=some (.int .i64 (q0:Int)):=by have h:=hkc 0 (by omega);rw [hq0] at h;exact h
 have hw0:wfR x0:=hw.kids (j:=0) (by simp)
 have hO0:On ns q0 x0:=hO0
 obtain ⟨q1,hq1,hql1,hO1⟩:=hO.kid 1 (by simp)
 have hg1:=heads_ge [x0,x1,x2] (o+1) 1 (by simp)
 rw [hq1] at hg1
 have c1:w0.cell? ⟨kb,koff+1,none⟩=some (.int .i64 (q1:Int)):=by have h:=hkc 1 (by omega);rw [hq1] at h;exact h
 have hw1:wfR x1:=hw.kids (j:=1) (by simp)
 have hO1:On ns q1 x1:=hO1
 obtain ⟨q2,hq2,hql2,hO2⟩:=hO.kid 2 (by simp)
 have hg2:=heads_ge [x0,x1,x2] (o+1) 2 (by simp)
 rw [hq2] at hg2
 have c2:w0.cell? ⟨kb,koff+2,none⟩=some (.int .i64 (q2:Int)):=by have h:=hkc 2 (by omega);rw [hq2] at h;exact h
 have hw2:wfR x2:=hw.kids (j:=2) (by simp)
 have hO2:On ns q2 x2:=hO2
 obtain ⟨A1,hA1⟩:∃A1,lineT d (catT [⟨#[102,111,114,32]⟩,s,⟨#[32,61,32]⟩,exT x0,⟨#[32,116,111,32]⟩,exT x1,⟨#[32,123]⟩])=A1:=⟨_,rfl⟩
 obtain ⟨E1,hE1⟩:∃E1,lineT d (catT [⟨#[125]⟩])=E1:=⟨_,rfl⟩
 have HEQ:stT d (.mk 15 a s n [x0,x1,x2])=A1++blT (d+1) x2++E1:=by
  rw [← hA1,← hE1]
  show stF d 15 s n [exT x0,exT x1,exT x2] [blT (d+1) x0,blT (d+1) x1,blT (d+1) x2]=_
  unfold stF
  rw [nn,nn,nn,nn,nn,nn,nn,nn,if_pos rfl]
  simp only [lineT,catT,app_none,none_app,app_assoc,List.getD_cons_zero,List.getD_cons_succ]
 have hs1:=congrArg ByteArray.size hA1
 simp only [lineT,catT,ByteArray.size_append] at hs1
 have hst:=congrArg ByteArray.size HEQ
 simp only [ByteArray.size_append] at hst
 dsimp only at hfit
 rw [hst] at hfit
 have hbw:=hP.lt
 have TX0:Hid (∀w' g,PrW w0 b (.slice p len c) most v L w'→w'.heap[g]?=some (.cells #[.int .i64 (q0:Int)] 3 (0,0))→Calls Tryz.prog 64 #[.pointer (some ⟨b,0,none⟩),.slice (some ⟨g,0,none⟩) 1 1] w' fun e w''=>e=.returned (.string (exT x0))∧Below w'.heap.size w' w''):=lh (fun w' g h1 h2=>text_one h1 hb hT ht hlen hO0 (by omega) (Or.inr (by rw [hx0];decide)) hw0 (by omega) g h2)
 have TX1:Hid (∀w' g,PrW w0 b (.slice p len c) most v L w'→w'.heap[g]?=some (.cells #[.int .i64 (q1:Int)] 3 (0,0))→Calls Tryz.prog 64 #[.pointer (some ⟨b,0,none⟩),.slice (some ⟨g,0,none⟩) 1 1] w' fun e w''=>e=.returned (.string (exT x1))∧Below w'.heap.size w' w''):=lh (fun w' g h1 h2=>text_one h1 hb hT ht hlen hO1 (by omega) (Or.inr (by rw [hx1];decide)) hw1 (by omega) g h2)
 have LN:Hid (∀w' g,PrW w0 b (.slice p len c) most v L w'→w'.heap[g]?=some (.cells #[.string (⟨#[102,111,114,32]⟩),.string s,.string (⟨#[32,61,32]⟩),.string (exT x0),.string (⟨#[32,116,111,32]⟩),.string (exT x1),.string (⟨#[32,123]⟩)] 9 (0,0))→Calls Tryz.prog 167 #[.pointer (some ⟨b,0,none⟩),.int .i64 (d:Int),.slice (some ⟨g,0,none⟩) 7 7] w' fun e w''=>e=.returned (.tuple #[])∧∃v',PrW w0 b (.slice p len c) most v' (L++A1) w''∧KeepT b w' w''):=lh (fun w' g h1 h2=>by rw [← hA1];exact line_at w0 w' b _ most v L h1 d g 7 [⟨#[102,111,114,32]⟩,s,⟨#[32,61,32]⟩,exT x0,⟨#[32,116,111,32]⟩,exT x1,⟨#[32,123]⟩] h2 (by simp) (by simp only [Ast.size,sizeL] at hd;omega) (by omega) (by simp only [catT,ByteArray.size_append];omega))
 have AL2:Hid (∀w' v' L',PrW w0 b (.slice p len c) most v' L' w'→((L'.size+(blT (d+1) x2).size:Nat):Int)≤most→Calls Tryz.prog 54 #[.pointer (some ⟨b,0,none⟩),.int .i64 (q2:Int),.int .i64 ((d:Int)+1)] w' fun e w''=>e=.returned (.tuple #[])∧∃v2,PrW w0 b (.slice p len c) most v2 (L'++blT (d+1) x2) w''):=lh (fun w' v' L' h1 h2=>ih x2 (by simp) hx2 (d+1) q2 w0 w' b p len c most v' L' hT hO2 hw2 ht hlen (by simp only [Ast.size,sizeL] at hd;have:=ast_pos x0;have:=ast_pos x1;omega) hb h1 hmost h2)
 have LN1:Hid (∀w' g v' L',PrW w0 b (.slice p len c) most v' L' w'→L'.size≤1000000000→w'.heap[g]?=some (.cells #[.string ⟨#[125]⟩] 9 (0,0))→Calls Tryz.prog 167 #[.pointer (some ⟨b,0,none⟩),.int .i64 (d:Int),.slice (some ⟨g,0,none⟩) 1 1] w' fun e w''=>e=.returned (.tuple #[])∧∃v2,PrW w0 b (.slice p len c) most v2 (L'++E1) w''):=lh (fun w' g v' L' h1 h3 h2=>by rw [← hE1];exact (line_at w0 w' b _ most v' L' h1 d g 1 [⟨#[125]⟩] h2 (by simp) (by simp only [Ast.size,sizeL] at hd;omega) h3 (by show (ByteArray.size _)≤_;simp only [catT,ByteArray.size_append];exact Nat.le_trans (show _≤100 by decide) (by decide))).mono fun e w'' ⟨e1,v2,h4,_⟩=>⟨e1,v2,h4⟩)
 have HB:Hid (Below b w0 (w.alloc (.cells #[.int .u8 15,.int .i64 a',.string s,.int .i64 n,.slice (some ⟨kb,koff,none⟩) 3 kc] 54))∧(w.alloc (.cells #[.int .u8 15,.int .i64 a',.string s,.int .i64 n,.slice (some ⟨kb,koff,none⟩) 3 kc] 54)).heap[w.heap.size]?=some (.cells #[.int .u8 15,.int .i64 a',.string s,.int .i64 n,.slice (some ⟨kb,koff,none⟩) 3 kc] 54 (0,0))):=lh ⟨(hP.on (one_below w _)).below,heap_alloc_new w _⟩
 have HS:=lh (hP.on (one_below w (.cells #[.int .u8 15,.int .i64 a',.string s,.int .i64 n,.slice (some ⟨kb,koff,none⟩) 3 kc] 54)))
 have hgb:¬ w.heap.size=b:=by omega
 have hkb2:kb<b:=by omega
 have HC0:=ckH hkb2 c0
 have HC1:=ckH hkb2 c1
 have HC2:=ckH hkb2 c2
 show Calls _ _ _ _ (fun e w'=>e=.returned (.tuple #[])∧∃v',PrW w0 b _ most v' (L++stT d (.mk 15 a s n [x0,x1,x2])) w')
 have HFIT:=lh hfit
 have HMOST:=lh hmost
 show Calls _ _ _ _ (fun e w'=>e=.returned (.tuple #[])∧∃v',PrW w0 b _ most v' (L++stT d (.mk 15 a s n [x0,x1,x2])) w')
 rw [HEQ]
 have hd7:d≤70000:=by simp only [Ast.size,sizeL] at hd;omega
 generalize blT (d+1) x2=B2 at *
 clear hE1 ih hA1 hs1 hT hO hw ht hI hP hfit hmost hst HEQ hkc hkl hsh hd hlen hb hbw hkb hkb2 hq0 hql0 hO0 hg0 c0 hw0 hx0 hq1 hql1 hO1 hg1 c1 hw1 hx1 hq2 hql2 hO2 hg2 c2 hw2 hx2
 go_enter Tryz.func99,Tryz.ntmps99
 have d0:=HC0.out _ HB.out.1
 have d1:=HC1.out _ HB.out.1
 have d2:=HC2.out _ HB.out.1
 go_wp2_with fail
 clear d0
 clear d1
 clear d2
 generalize w.alloc (.cells #[.int .u8 15,.int .i64 a',.string s,.int .i64 n,.slice (some ⟨kb,koff,none⟩) 3 kc] 54)=W1 at *
 generalize w.heap.size=g0 at *
 have HF:Hid (∀w':World,w'.heap[g0]?=some (.cells #[.int .u8 15,.int .i64 a',.string s,.int .i64 n,.slice (some ⟨kb,koff,none⟩) 3 kc] 54 (0,0))→w'.cell? ⟨g0,2,none⟩=some (.string s)∧w'.cell? ⟨g0,3,none⟩=some (.int .i64 n)):=lh (fun w' h=>⟨by rw [cell_of_row _ _ _ _ _ _ h];rfl,by rw [cell_of_row _ _ _ _ _ _ h];rfl⟩)
 refine wp_region_held_drew (S:=fun w'=>Below b w0 w'∧w'.heap[g0]?=some (.cells #[.int .u8 15,.int .i64 a',.string s,.int .i64 n,.slice (some ⟨kb,koff,none⟩) 3 kc] 54 (0,0))) (by kernel_rfl) ⟨HB.out.1.drew,HB.out.2⟩ (fun hHeld=>?_)
 have HS:=lh (HS.out.on (drew_on W1))
 have HB:=lh hHeld
 generalize W1.drew=W at *
 clear hHeld
 refine tn 0 HB.out ?_
 (try simp only [pn])
 refine tn 1 HB.out ?_
 (try simp only [pn])
 refine tn 2 HB.out ?_
 (try simp only [pn])
 refine tk (i:=3) (v:=?_) rfl HB.out ?_ ?_
 rotate_left
 · (intro w' hSw;have hb9:=hSw.1;have h9:=HF.out _ hSw.2;obtain ⟨f9,e9⟩:=h9;have d0:=HC0.out _ hb9;have d1:=HC1.out _ hb9;have d2:=HC2.out _ hb9;clear hSw hb9;go_simp;try with_reducible rfl)
 (try simp only [pn])
 refine tn 4 HB.out ?_
 (try simp only [pn])
 refine tn 5 HB.out ?_
 (try simp only [pn])
 refine tn 6 HB.out ?_
 (try simp only [pn])
 refine tk (i:=7) (v:=?_) rfl HB.out ?_ ?_
 rotate_left
 · (intro w' hSw;have hb9:=hSw.1;have h9:=HF.out _ hSw.2;obtain ⟨f9,e9⟩:=h9;have d0:=HC0.out _ hb9;have d1:=HC1.out _ hb9;have d2:=HC2.out _ hb9;clear hSw hb9;go_simp;try with_reducible rfl)
 (try simp only [pn])
 refine tn 10 HB.out ?_
 (try simp only [pn])
 refine tn 11 HB.out ?_
 (try simp only [pn])
 refine tn 12 HB.out ?_
 (try simp only [pn])
 refine tk (i:=13) (v:=?_) rfl HB.out ?_ ?_
 rotate_left
 · (intro w' hSw;have hb9:=hSw.1;have h9:=HF.out _ hSw.2;obtain ⟨f9,e9⟩:=h9;have d0:=HC0.out _ hb9;have d1:=HC1.out _ hb9;have d2:=HC2.out _ hb9;clear hSw hb9;go_simp;try with_reducible rfl)
 (try simp only [pn])
 repeat' (first
  | (clear op8;have dn8:=trivial;go_simp;have hb9:=one_below W (.cells #[.int .i64 (q0:Int)] 3);replace HS:=lh (HS.out.on hb9);replace HB:=lh (And.intro HS.out.below (on_row hb9 HB.out.2));(try replace F14:=lh (on_row hb9 F14.out));(try replace F16:=lh (on_row hb9 F16.out));have F8:=lh (heap_alloc_new W (.cells #[.int .i64 (q0:Int)] 3));clear hb9;(refine hK.out _ _ HB.out (fun hHeld=>?_));clear hK K hHeld;(try simp only [pn]);generalize W.heap.size=g18 at *;generalize W.alloc (.cells #[.int .i64 (q0:Int)] 3)=W at *)
  | (clear op9;have dn9:=trivial;go_simp;go_at_call 64;(with_reducible refine (TX0.out W g18 HS.out F8.out).mono ?_);rintro e W ⟨rfl,hb9⟩;clear F8;replace HS:=lh (HS.out.on hb9);replace HB:=lh (And.intro HS.out.below (on_row hb9 HB.out.2));(try replace F14:=lh (on_row hb9 F14.out));(try replace F16:=lh (on_row hb9 F16.out));clear hb9;go_simp;(refine hK.out _ _ HB.out (fun hHeld=>?_));clear hK K hHeld;(try simp only [pn]))
  | (clear op14;have dn14:=trivial;go_simp;have hb9:=one_below W (.cells #[.int .i64 (q1:Int)] 3);replace HS:=lh (HS.out.on hb9);replace HB:=lh (And.intro HS.out.below (on_row hb9 HB.out.2));(try replace F8:=lh (on_row hb9 F8.out));(try replace F16:=lh (on_row hb9 F16.out));have F14:=lh (heap_alloc_new W (.cells #[.int .i64 (q1:Int)] 3));clear hb9;(refine hK.out _ _ HB.out (fun hHeld=>?_));clear hK K hHeld;(try simp only [pn]);generalize W.heap.size=g24 at *;generalize W.alloc (.cells #[.int .i64 (q1:Int)] 3)=W at *)
  | (clear op15;have dn15:=trivial;go_simp;go_at_call 64;(with_reducible refine (TX1.out W g24 HS.out F14.out).mono ?_);rintro e W ⟨rfl,hb9⟩;clear F14;replace HS:=lh (HS.out.on hb9);replace HB:=lh (And.intro HS.out.below (on_row hb9 HB.out.2));(try replace F8:=lh (on_row hb9 F8.out));(try replace F16:=lh (on_row hb9 F16.out));clear hb9;go_simp;(refine hK.out _ _ HB.out (fun hHeld=>?_));clear hK K hHeld;(try simp only [pn]))
  | (clear op16;have dn16:=trivial;go_simp;have hb9:=one_below W (.cells #[.string (⟨#[102,111,114,32]⟩),.string s,.string (⟨#[32,61,32]⟩),.string (exT x0),.string (⟨#[32,116,111,32]⟩),.string (exT x1),.string (⟨#[32,123]⟩)] 9);replace HS:=lh (HS.out.on hb9);replace HB:=lh (And.intro HS.out.below (on_row hb9 HB.out.2));(try replace F8:=lh (on_row hb9 F8.out));(try replace F14:=lh (on_row hb9 F14.out));have F16:=lh (heap_alloc_new W (.cells #[.string (⟨#[102,111,114,32]⟩),.string s,.string (⟨#[32,61,32]⟩),.string (exT x0),.string (⟨#[32,116,111,32]⟩),.string (exT x1),.string (⟨#[32,123]⟩)] 9));clear hb9;(refine hK.out _ _ HB.out (fun hHeld=>?_));clear hK K hHeld;(try simp only [pn]);generalize W.heap.size=g26 at *;generalize W.alloc (.cells #[.string (⟨#[102,111,114,32]⟩),.string s,.string (⟨#[32,61,32]⟩),.string (exT x0),.string (⟨#[32,116,111,32]⟩),.string (exT x1),.string (⟨#[32,123]⟩)] 9)=W at *)
  | (clear op17;have dn17:=trivial;go_simp;go_at_call 167;(with_reducible refine (LN.out W g26 HS.out F16.out).mono ?_);rintro e W ⟨rfl,v',HP,HK⟩;have HP:=lh HP;replace HB:=lh (And.intro HP.out.below (HK _ _ _ _ HB.out.2 (by decide) hgb));clear HK;go_simp;(refine hK.out _ _ HB.out (fun hHeld=>?_));clear hK K hHeld;(try simp only [pn]))
  | (have:=dn8;have:=dn9;have:=dn14;have:=dn15;have:=dn16;have:=dn17;refine wpAnyH_done (by kernel_rfl) ?_ _;have HPP0:=lh HP.out;clear HP HB HS;have k2:=HC2.out _ HPP0.out.below;go_wp2_with (first|(go_at_call 54;(with_reducible refine (AL2.out _ _ _ HPP0.out (by have:=HFIT.out;simp only [ByteArray.size_append] at this ⊢;omega)).mono ?_);rintro e wx0 ⟨rfl,vx0,HX⟩;have HPP1:=lh (HX.on (one_below wx0 (.cells #[.string ⟨#[125]⟩] 9)));have FY0:=lh (heap_alloc_new wx0 (.cells #[.string ⟨#[125]⟩] 9));clear HX k2 HPP0)|(go_at_call 167;(with_reducible refine (LN1.out _ _ _ _ HPP1.out (by have:=HFIT.out;have:=HMOST.out;simp only [ByteArray.size_append] at *;omega) (by first|exact FY0.out|simpa using FY0.out)).mono ?_);rintro e wx1 ⟨rfl,vx1,HX⟩;have HPP2:=lh HX;clear HX HPP1 FY0));go_end0;have HZ:=HPP2.out;simp only [app_assoc] at HZ;refine ⟨rfl,vx1,?_⟩;simp only [app_assoc];exact HZ)
  | (have:=dn16;refine wpAnyH_ready (rs:=[17]) (by kernel_rfl) (by simp) (AllReadyH.cons rfl (fun K hK=>have op17:=trivial;?_) (AllReadyH.nil)))
  | (have:=dn15;refine wpAnyH_ready (rs:=[16]) (by kernel_rfl) (by simp) (AllReadyH.cons rfl (fun K hK=>have op16:=trivial;?_) (AllReadyH.nil)))
  | (have:=dn9;have:=dn14;refine wpAnyH_ready (rs:=[15]) (by kernel_rfl) (by simp) (AllReadyH.cons rfl (fun K hK=>have op15:=trivial;?_) (AllReadyH.nil)))
  | (have:=dn9;refine wpAnyH_ready (rs:=[14]) (by kernel_rfl) (by simp) (AllReadyH.cons rfl (fun K hK=>have op14:=trivial;?_) (AllReadyH.nil)))
  | (have:=dn8;have:=dn14;refine wpAnyH_ready (rs:=[9]) (by kernel_rfl) (by simp) (AllReadyH.cons rfl (fun K hK=>have op9:=trivial;?_) (AllReadyH.nil)))
  | (have:=dn8;refine wpAnyH_ready (rs:=[9,14]) (by kernel_rfl) (by simp) (AllReadyH.cons rfl (fun K hK=>have op9:=trivial;?_) (AllReadyH.cons rfl (fun K hK=>have op14:=trivial;?_) (AllReadyH.nil))))
  | (have:=dn14;refine wpAnyH_ready (rs:=[8]) (by kernel_rfl) (by simp) (AllReadyH.cons rfl (fun K hK=>have op8:=trivial;?_) (AllReadyH.nil)))
  | ( refine wpAnyH_ready (rs:=[8,14]) (by kernel_rfl) (by simp) (AllReadyH.cons rfl (fun K hK=>have op8:=trivial;?_) (AllReadyH.cons rfl (fun K hK=>have op14:=trivial;?_) (AllReadyH.nil))))
  | fail)
end
section
open Go.RowKit Tr Go.Shelf
theorem hasAl_of (ns:List Nd)(k:Int)(a:Nat)(s:ByteArray)(n:Int)(ks:List Ast)(ih:∀y∈ks,HasF ns stT y):HasAl ns (.mk k a s n ks):=by
 intro d o w0 w b p len c most v L hT hO hw ht hlen hd hb hP hmost hfit
 have e:blT d (.mk k a s n ks)=catF stT d ks:=stL_cat d ks
 rw [e] at hfit ⊢
 exact all_of ns stT k a s n ks ih d o w0 w b p len c most v L hT hO hw ht hlen hd hb hP hmost hfit
mutual
theorem write_at (ns:List Nd):∀(m:Nat) (x:Ast),x.size≤m→wfR x→isStmtK x.kind=true→HasF ns stT x
 | 0,x,h,_,_=>absurd h (by have:=ast_pos x;omega)
 | m+1,.mk k a s n ks,h,hw,hk=>by
  have h1:sizeL ks≤m:=by simp only [Ast.size] at h;omega
  have ih:∀y∈ks,y.kind=6→HasAl ns y:=fun y hy hy6=>writeAll_at ns m y (Nat.le_trans (sizeL_mem hy) h1) (wfRL_mem hw.2 y hy) hy6
  have hp:=hw.parts.2.2.2
  have hk1:7≤k∧k≤19:=by
   have h9:isStmtK k=true:=hk
   simpa [isStmtK] using h9
  have hkk:k=7∨k=8∨k=9∨k=10∨k=11∨k=12∨k=13∨k=14∨k=15∨k=16∨k=17∨k=18∨k=19:=by omega
  clear hk hk1
  show HasW ns k a s n ks (fun d=>stT d (.mk k a s n ks))
  rcases hkk with rfl|rfl|rfl|rfl|rfl|rfl|rfl|rfl|rfl|rfl|rfl|rfl|rfl
  · exact write7 ns a s n ks hp
  · exact write8 ns a s n ks hp
  · obtain ⟨x0,xs,rfl,h2,h3,h4⟩:=sh9 hp
    exact write9 ns a s n x0 xs h2 h3 h4
  · exact write10 ns a s n ks hp
  · exact write11 ns a s n ks hp
  · exact write12 ns a s n ks hp
  · rcases sh13 hp with hp|hp
    · first|exact write13 ns a s n ks hp|exact write13b ns a s n ks hp
    · first|exact write13 ns a s n ks hp|exact write13b ns a s n ks hp
  · refine write14 ns a s n ks _ ?_
    rcases sh14 hp with hp|hp
    · first|exact choice3 ns a s n ks hp ih|exact choice4 ns a s n ks hp ih
    · first|exact choice3 ns a s n ks hp ih|exact choice4 ns a s n ks hp ih
  · exact write15 ns a s n ks hp ih
  · exact write16 ns a s n ks hp
  · exact write17 ns a s n ks hp
  · exact write18 ns a s n ks
  · exact write19 ns a s n ks
theorem writeAll_at (ns:List Nd):∀(m:Nat) (x:Ast),x.size≤m→wfR x→x.kind=6→HasAl ns x
 | 0,x,h,_,_=>absurd h (by have:=ast_pos x;omega)
 | m+1,.mk k a s n ks,h,hw,hk=>by
  have h1:sizeL ks≤m:=by simp only [Ast.size] at h;omega
  refine hasAl_of ns k a s n ks fun y hy=>write_at ns m y (Nat.le_trans (sizeL_mem hy) h1) (wfRL_mem hw.2 y hy) ?_
  have hk6:k=6:=hk
  subst hk6
  have h2:(ks.map Ast.kind).all isStmtK=true:=hw.parts.2.2.2
  exact List.all_eq_true.1 h2 _ (List.mem_map_of_mem hy)
end
end
section
open Go.RowKit Tr Go.Shelf
theorem part_of (ns:List Nd)(x:Ast)(hw:wfR x)(hk:x.kind=2∨x.kind=3):HasF ns partD x:=by
 cases x with
 | mk k a s n ks =>
  have hp:=hw.parts.2.2.2
  rcases hk with hk|hk
  · have hk2:k=2:=hk
    subst hk2
    refine write2 ns a s n ks fun x hx=>?_
    have h2:(decide (0<(ks.map Ast.kind).length)&&(ks.map Ast.kind).all (·==5))=true:=hp
    have h3:=Bool.and_eq_true_iff.1 h2
    have:=List.all_eq_true.1 h3.2 _ (List.mem_map_of_mem hx)
    simpa using this
  · have hk2:k=3:=hk
    subst hk2
    have h2:isR (ks.map Ast.kind) [4,6]=true:=hp
    obtain ⟨x0,x1,rfl,h0,h1⟩:=sh3 h2
    refine write3 ns a s n x0 x1 (fun y hy=>?_) h1 (writeAll_at ns x1.size x1 (Nat.le_refl _) hw.2.2.1 h1)
    cases x0 with
    | mk k0 a0 s0 n0 ks0 =>
     have hk0:k0=4:=h0
     subst hk0
     have h4:(ks0.map Ast.kind).all (·==5)=true:=hw.2.1.parts.2.2.2
     have:=List.all_eq_true.1 h4 _ (List.mem_map_of_mem (f:=Ast.kind) hy)
     simpa using this
theorem root_of (ns:List Nd)(a0:Nat)(s0:ByteArray)(n0:Int)(ks:List Ast)(hO:On ns 0 (.mk 1 a0 s0 n0 ks))(hw:wfR (.mk 1 a0 s0 n0 ks))(w0 w:World)(b:Nat)(p:Option Addr)(len c:Nat)(v:Value)(hT:TV w0 p len c ns)(ht:PT10 w0)(hlen:len≤70000)(hb:b=w0.heap.size)
 (hP:PrW w0 b (.slice p len c) 65536 v none0 w) (hfit:(progL ks).size≤65536) :
 Calls Tryz.prog 54 #[.pointer (some ⟨b,0,none⟩),.int .i64 0,.int .i64 0] w fun e w'=>e=.returned (.tuple #[])∧∃v',PrW w0 b (.slice p len c) 65536 v' (progL ks) w':=by
 have hk1:(ks.map Ast.kind).all (fun k=>k==2||k==3)=true:=hw.parts.2.2.2
 have hsz:=hO.size
 have hle:=hT.len_eq
 have h:=all_of ns partD 1 a0 s0 n0 ks (fun y hy=>part_of ns y (wfRL_mem hw.2 y hy) (by have:=List.all_eq_true.1 hk1 _ (List.mem_map_of_mem hy);simpa using this)) 0 0 w0 w b p len c 65536 v none0 hT hO hw ht hlen (by omega) hb hP (by decide) (by rw [← progL_cat];show ((0+(progL ks).size:Nat):Int)≤_;omega)
 rw [none_app,← progL_cat] at h
 exact h
end
section
open Go.RowKit Tr Go.Shelf
theorem ownsRow_weaken {W:World}{B B' e size n:Nat}{v:Value}{xs:List Value}(h:W.ownsRow B e size v n xs)(hB:B'≤B):W.ownsRow B' e size v n xs :=
 ⟨h.1,h.2.imp id fun ⟨g,cap,cur,h1,h2,h3⟩=>⟨g,cap,cur,h1,Nat.le_trans hB h2,h3⟩⟩
theorem print_no (w:World)(p:Option Addr)(len c:Nat)(ns:List Nd)(hT:TV w p len c ns)(hS:SmallT ns)(hr:rightP ns=false) :
 Calls Tryz.prog 23 #[.agg #[.slice p len c]] w fun e w'=>e=.returned (.tuple #[.slice none 0 0,.iface 45 (.int .i64 2)])∧Below w.heap.size w w':=by
 have hb1:=one_below w (.cells #[.slice p len c] 39)
 have R:=lh (right_at (w.alloc (.cells #[.slice p len c] 39)) p len c ns (hT.on hb1) hS)
 rw [hr] at R
 clear hT hS hr
 go_enter Tryz.func23,Tryz.ntmps23
 go_wp2_with (go_at_call 29;(with_reducible refine R.out.mono ?_);rintro e w5 ⟨rfl,h5⟩)
 go_ret2
 exact ⟨rfl,hb1.trans (h5.mono hb1.size)⟩
theorem print_yes (w:World)(p:Option Addr)(len c:Nat)(ns:List Nd)(hT:TV w p len c ns)(hS:SmallT ns)(ht:PT10 w)(hr:rightP ns=true)(a0:Nat)(s0:ByteArray)(n0:Int)(ks:List Ast)(hO:On ns 0 (.mk 1 a0 s0 n0 ks))(hw:wfR (.mk 1 a0 s0 n0 ks))(hlen:len≤70000)(hfit:(progL ks).size≤65536) :
 Calls Tryz.prog 23 #[.agg #[.slice p len c]] w fun e w'=>∃v,e=.returned (.tuple #[v,.nilIface])∧Below w.heap.size w w'∧w'.ownsRow w.heap.size 5 1 v (progL ks).size (Lib.strCells (progL ks)):=by
 have hb1:=one_below w (.cells #[.slice p len c] 39)
 have R:=lh (right_at (w.alloc (.cells #[.slice p len c] 39)) p len c ns (hT.on hb1) hS)
 rw [hr] at R
 have HR:Hid (∀w5,Below (w.alloc (.cells #[.slice p len c] 39)).heap.size (w.alloc (.cells #[.slice p len c] 39)) w5→Calls Tryz.prog 54 #[.pointer (some ⟨w5.heap.size,0,none⟩),.int .i64 0,.int .i64 0] (w5.alloc (.cells #[.slice p len c,.int .i64 65536,.slice none 0 0] 101)) fun e w'=>e=.returned (.tuple #[])∧∃v',PrW w5 w5.heap.size (.slice p len c) 65536 v' (progL ks) w'):=lh (fun w5 h5 =>
  root_of ns a0 s0 n0 ks hO hw w5 _ w5.heap.size p len c (.slice none 0 0) ((hT.on hb1).on h5) ((ht.below hb1).below h5) hlen rfl ⟨one_below w5 _,heap_alloc_new w5 _,World.ownsRow_nil _ _ _ _⟩ hfit)
 have HFIT:=lh hfit
 have HB1:=lh hb1
 generalize progL ks=PL at *
 clear hT hS ht hr hO hw hlen hfit hb1
 go_enter Tryz.func23,Tryz.ntmps23
 go_wp2_with (first|(go_at_call 29;(with_reducible refine R.out.mono ?_);rintro e w5 ⟨rfl,h5⟩;have kt:w5.cell? ⟨w.heap.size,0,none⟩=some (.slice p len c):=(h5.cell (p:=⟨w.heap.size,0,none⟩) (by simp)).trans (by simp))|(go_at_call 54;(with_reducible refine (HR.out w5 h5).mono ?_);rintro e w6 ⟨rfl,v',HP⟩;obtain ⟨vp,vc,hvs⟩:=ownsRow_shape HP.own;subst hvs;have HP:=lh HP;have HOV:=lh (isOver_at w6 w5.heap.size 65536 vp PL.size vc HP.out.cell.2.1);have hno:decide ((65536:Int)<(PL.size:Int))=false:=(by rw [decide_eq_false_iff_not];have:=HFIT.out;omega);rw [hno] at HOV;have e2:=HP.out.cell.2.2.1;have HB5:=lh h5;clear hno h5 kt)|(go_at_call 55;(with_reducible refine HOV.out.mono ?_);rintro e w7 ⟨rfl,hw7⟩;have hw8:=hw7.symm;subst hw8))
 go_ret2
 have hs5:w.heap.size+1≤w5.heap.size:=by have:=HB5.out.size;simpa using this
 exact ⟨_,rfl,HB1.out.trans ((HB5.out.mono (by simp)).trans (HP.out.below.mono (by omega))),ownsRow_weaken HP.out.own (by omega)⟩
end
end Go.Proofs.YthdioipfdbbmmaaGreatDoor
