/- Contracts. -/
import Derived.Test.YthdioipfdbbmmaaGreatDoorKab
import Derived.Test.YthdioipfdbbmmaaGreatDoorKas
import Derived.Test.YthdioipfdbbmmaaGreatDoorKat
import Derived.BigQuiet
set_option linter.all false
set_option maxRecDepth 1000000
set_option maxHeartbeats 16000000
namespace Go.Proofs.YthdioipfdbbmmaaGreatDoor
section
open Go.RowKit Tr Go.Shelf
def HasC (ns:List Nd)(k:Int)(a:Nat)(s:ByteArray)(n:Int)(ks:List Ast)(T:Nat→ByteArray):Prop:=∀(d o:Nat) (w0 w:World) (b:Nat) (p:Option Addr) (len c:Nat) (most:Int) (v:Value) (L:ByteArray) (a':Int) (kp:Option Addr) (kl kc:Nat),TV w0 p len c ns→On ns o (.mk k a s n ks)→wfR (.mk k a s n ks)→PT10 w0→len≤70000→d+(Ast.mk k a s n ks).size≤70000→b=w0.heap.size→IV w0 kp kl kc (heads (o+1) ks) →
 PrW w0 b (.slice p len c) most v L w→most≤1000000→((L.size+(T d).size:Nat):Int)≤most →
 Calls Tryz.prog 169 #[.pointer (some ⟨b,0,none⟩),.agg #[.int .u8 k,.int .i64 a',.string s,.int .i64 n,.slice kp kl kc],.int .i64 (d:Int)] w fun e w'=>e=.returned (.tuple #[])∧∃v',PrW w0 b (.slice p len c) most v' (L++T d) w'
theorem choice3 (ns:List Nd)(a:Nat)(s:ByteArray)(n:Int)(ks:List Ast)(hsh:isR (ks.map Ast.kind) [0,0,6]=true)(ih:∀y∈ks,y.kind=6→HasAl ns y):HasC ns 14 a s n ks (fun d=>stT d (.mk 14 a s n ks)):=by
 intro d o w0 w b p len c most v L a' kp kl kc hT hO hw ht hlen hd hb hI hP hmost hfit
 have hkl:ks.length=kl:=by rw [← hI.len_eq,heads_length]
 obtain ⟨x0,x1,x2,rfl,hx0,hx1,hx2⟩:=sh0_0_6 hsh
 obtain rfl:kl=3:=hkl.symm
 obtain ⟨kb,koff,rfl,hkb,hkc⟩:=hI.cell (by omega)
 obtain ⟨q0,hq0,hql0,hO0⟩:=hO.kid 0 (by simp)
 have hg0:=heads_ge [x0,x1,x2] (o+1) 0 (by simp)
 rw [hq0] at hg0
 have c0:w0.cell? ⟨kb,koff,none⟩=some (.int .i64 (q0:Int)):=by have h:=hkc 0 (by omega);rw [hq0] at h;exact h
 have hw0:wfR x0:=hw.kids (j:=0) (by simp)
 have hO0:On ns q0 x0:=hO0
 obtain ⟨q1,hq1,hql1,hO1⟩:=hO.kid 1 (by simp)
 have hg1:=heads_ge [x0,x1,x2] (o+1) 1 (by simp)
 rw [hq1] at hg1
 have c1:w0.cell? ⟨kb,koff+1,none⟩=some (.int .i64 (q1:Int)):=by have h:=hkc 1 (by omega);rw [hq1] at h;exact h
 have hw1:wfR x1:=hw.kids (j:=1) (by simp)
 have hO1:On ns q1 x1:=hO1
 obtain ⟨q2,hq2,hql2,hO2⟩:=hO.kid 2 (by simp)
 have hg2:=heads_ge [x0,x1,x2] (o+1) 2 (by simp)
 rw [hq2] at hg2
 have c2:w0.cell? ⟨kb,koff+2,none⟩=some (.int .i64 (q2:Int)):=by have h:=hkc 2 (by omega);rw [hq2] at h;exact h
 have hw2:wfR x2:=hw.kids (j:=2) (by simp)
 have hO2:On ns q2 x2:=hO2
 obtain ⟨EI,hEI⟩:∃EI,(if n=1 then (⟨#[32,61,61,32]⟩:ByteArray) else ⟨#[32,60,32]⟩)=EI:=⟨_,rfl⟩
 have hn01:n=0∨n=1:=by have h1:=hw.parts.2.1;have h2:mostR 14=1:=(by decide);rw [h2] at h1;omega
 obtain ⟨A1,hA1⟩:∃A1,lineT d (catT [⟨#[105,102,32]⟩,exT x0,EI,exT x1,⟨#[32,123]⟩])=A1:=⟨_,rfl⟩
 obtain ⟨E1,hE1⟩:∃E1,lineT d (catT [⟨#[125]⟩])=E1:=⟨_,rfl⟩
 have HEQ:stT d (.mk 14 a s n [x0,x1,x2])=A1++blT (d+1) x2++E1:=by
  rw [← hA1,← hE1]
  show stF d 14 s n [exT x0,exT x1,exT x2] [blT (d+1) x0,blT (d+1) x1,blT (d+1) x2]=_
  unfold stF
  rw [nn,nn,nn,nn,nn,nn,nn,if_pos rfl,hEI]
  rw [if_neg (by simp)]
  simp only [lineT,catT,app_none,none_app,app_assoc,List.getD_cons_zero,List.getD_cons_succ]
 have hs1:=congrArg ByteArray.size hA1
 simp only [lineT,catT,ByteArray.size_append] at hs1
 have hst:=congrArg ByteArray.size HEQ
 simp only [ByteArray.size_append] at hst
 dsimp only at hfit
 rw [hst] at hfit
 have hbw:=hP.lt
 have TX0:Hid (∀w' g,PrW w0 b (.slice p len c) most v L w'→w'.heap[g]?=some (.cells #[.int .i64 (q0:Int)] 3 (0,0))→Calls Tryz.prog 64 #[.pointer (some ⟨b,0,none⟩),.slice (some ⟨g,0,none⟩) 1 1] w' fun e w''=>e=.returned (.string (exT x0))∧Below w'.heap.size w' w''):=lh (fun w' g h1 h2=>text_one h1 hb hT ht hlen hO0 (by omega) (isTx_expr hx0) hw0 (by omega) g h2)
 have TX1:Hid (∀w' g,PrW w0 b (.slice p len c) most v L w'→w'.heap[g]?=some (.cells #[.int .i64 (q1:Int)] 3 (0,0))→Calls Tryz.prog 64 #[.pointer (some ⟨b,0,none⟩),.slice (some ⟨g,0,none⟩) 1 1] w' fun e w''=>e=.returned (.string (exT x1))∧Below w'.heap.size w' w''):=lh (fun w' g h1 h2=>text_one h1 hb hT ht hlen hO1 (by omega) (isTx_expr hx1) hw1 (by omega) g h2)
 have PK:Hid (∀w' g,w'.heap[g]?=some (.cells #[.string ⟨#[32,60,32]⟩,.string ⟨#[32,61,61,32]⟩] 9 (0,0))→Calls Tryz.prog 168 #[.int .i64 n,.slice (some ⟨g,0,none⟩) 2 2] w' fun e w''=>e=.returned (.string EI)∧Below w'.heap.size w' w''):=lh (fun w' g h=>by rw [← hEI];exact pick_row w' n g _ _ h hn01)
 have LN:Hid (∀w' g,PrW w0 b (.slice p len c) most v L w'→w'.heap[g]?=some (.cells #[.string (⟨#[105,102,32]⟩),.string (exT x0),.string EI,.string (exT x1),.string (⟨#[32,123]⟩)] 9 (0,0))→Calls Tryz.prog 167 #[.pointer (some ⟨b,0,none⟩),.int .i64 (d:Int),.slice (some ⟨g,0,none⟩) 5 5] w' fun e w''=>e=.returned (.tuple #[])∧∃v',PrW w0 b (.slice p len c) most v' (L++A1) w''∧KeepT b w' w''):=lh (fun w' g h1 h2=>by rw [← hA1];exact line_at w0 w' b _ most v L h1 d g 5 [⟨#[105,102,32]⟩,exT x0,EI,exT x1,⟨#[32,123]⟩] h2 (by simp) (by simp only [Ast.size,sizeL] at hd;omega) (by omega) (by simp only [catT,ByteArray.size_append];omega))
 have AL2:Hid (∀w' v' L',PrW w0 b (.slice p len c) most v' L' w'→((L'.size+(blT (d+1) x2).size:Nat):Int)≤most→Calls Tryz.prog 54 #[.pointer (some ⟨b,0,none⟩),.int .i64 (q2:Int),.int .i64 ((d:Int)+1)] w' fun e w''=>e=.returned (.tuple #[])∧∃v2,PrW w0 b (.slice p len c) most v2 (L'++blT (d+1) x2) w''):=lh (fun w' v' L' h1 h2=>ih x2 (by simp) hx2 (d+1) q2 w0 w' b p len c most v' L' hT hO2 hw2 ht hlen (by simp only [Ast.size,sizeL] at hd;have:=ast_pos x0;have:=ast_pos x1;omega) hb h1 hmost h2)
 have LN1:Hid (∀w' g v' L',PrW w0 b (.slice p len c) most v' L' w'→L'.size≤1000000000→w'.heap[g]?=some (.cells #[.string ⟨#[125]⟩] 9 (0,0))→Calls Tryz.prog 167 #[.pointer (some ⟨b,0,none⟩),.int .i64 (d:Int),.slice (some ⟨g,0,none⟩) 1 1] w' fun e w''=>e=.returned (.tuple #[])∧∃v2,PrW w0 b (.slice p len c) most v2 (L'++E1) w''):=lh (fun w' g v' L' h1 h3 h2=>by rw [← hE1];exact (line_at w0 w' b _ most v' L' h1 d g 1 [⟨#[125]⟩] h2 (by simp) (by simp only [Ast.size,sizeL] at hd;omega) h3 (by show (ByteArray.size _)≤_;simp only [catT,ByteArray.size_append];exact Nat.le_trans (show _≤100 by decide) (by decide))).mono fun e w'' ⟨e1,v2,h4,_⟩=>⟨e1,v2,h4⟩)
 have HB:Hid (Below b w0 (w.alloc (.cells #[.int .u8 14,.int .i64 a',.string s,.int .i64 n,.slice (some ⟨kb,koff,none⟩) 3 kc] 54))∧(w.alloc (.cells #[.int .u8 14,.int .i64 a',.string s,.int .i64 n,.slice (some ⟨kb,koff,none⟩) 3 kc] 54)).heap[w.heap.size]?=some (.cells #[.int .u8 14,.int .i64 a',.string s,.int .i64 n,.slice (some ⟨kb,koff,none⟩) 3 kc] 54 (0,0))):=lh ⟨(hP.on (one_below w _)).below,heap_alloc_new w _⟩
 have HS:=lh (hP.on (one_below w (.cells #[.int .u8 14,.int .i64 a',.string s,.int .i64 n,.slice (some ⟨kb,koff,none⟩) 3 kc] 54)))
 have hgb:¬ w.heap.size=b:=by omega
 have hkb2:kb<b:=by omega
 have HC0:=ckH hkb2 c0
 have HC1:=ckH hkb2 c1
 have HC2:=ckH hkb2 c2
 show Calls _ _ _ _ (fun e w'=>e=.returned (.tuple #[])∧∃v',PrW w0 b _ most v' (L++stT d (.mk 14 a s n [x0,x1,x2])) w')
 have HFIT:=lh hfit
 have HMOST:=lh hmost
 show Calls _ _ _ _ (fun e w'=>e=.returned (.tuple #[])∧∃v',PrW w0 b _ most v' (L++stT d (.mk 14 a s n [x0,x1,x2])) w')
 rw [HEQ]
 have hd7:d≤70000:=by simp only [Ast.size,sizeL] at hd;omega
 generalize blT (d+1) x2=B2 at *
 clear hE1 ih hA1 hs1 hT hO hw ht hI hP hfit hmost hst HEQ hkc hkl hsh hd hlen hb hbw hkb hkb2 hq0 hql0 hO0 hg0 c0 hw0 hx0 hq1 hql1 hO1 hg1 c1 hw1 hx1 hq2 hql2 hO2 hg2 c2 hw2 hx2 hEI hn01
 go_enter Tryz.func169,Tryz.ntmps169
 have d0:=HC0.out _ HB.out.1
 have d1:=HC1.out _ HB.out.1
 have d2:=HC2.out _ HB.out.1
 go_wp2_with fail
 clear d0
 clear d1
 clear d2
 generalize w.alloc (.cells #[.int .u8 14,.int .i64 a',.string s,.int .i64 n,.slice (some ⟨kb,koff,none⟩) 3 kc] 54)=W1 at *
 generalize w.heap.size=g0 at *
 have HF:Hid (∀w':World,w'.heap[g0]?=some (.cells #[.int .u8 14,.int .i64 a',.string s,.int .i64 n,.slice (some ⟨kb,koff,none⟩) 3 kc] 54 (0,0))→w'.cell? ⟨g0,2,none⟩=some (.string s)∧w'.cell? ⟨g0,3,none⟩=some (.int .i64 n)):=lh (fun w' h=>⟨by rw [cell_of_row _ _ _ _ _ _ h];rfl,by rw [cell_of_row _ _ _ _ _ _ h];rfl⟩)
 refine wp_region_held_drew (S:=fun w'=>Below b w0 w'∧w'.heap[g0]?=some (.cells #[.int .u8 14,.int .i64 a',.string s,.int .i64 n,.slice (some ⟨kb,koff,none⟩) 3 kc] 54 (0,0))) (by kernel_rfl) ⟨HB.out.1.drew,HB.out.2⟩ (fun hHeld=>?_)
 have HS:=lh (HS.out.on (drew_on W1))
 have HB:=lh hHeld
 generalize W1.drew=W at *
 clear hHeld
 refine tn 0 HB.out ?_
 (try simp only [pn])
 refine tn 1 HB.out ?_
 (try simp only [pn])
 refine tn 2 HB.out ?_
 (try simp only [pn])
 refine tn 3 HB.out ?_
 (try simp only [pn])
 refine tn 4 HB.out ?_
 (try simp only [pn])
 refine tk (i:=5) (v:=?_) rfl HB.out ?_ ?_
 rotate_left
 · (intro w' hSw;have hb9:=hSw.1;have h9:=HF.out _ hSw.2;obtain ⟨f9,e9⟩:=h9;have d0:=HC0.out _ hb9;have d1:=HC1.out _ hb9;have d2:=HC2.out _ hb9;clear hSw hb9;go_simp;try with_reducible rfl)
 (try simp only [pn])
 refine tn 8 HB.out ?_
 (try simp only [pn])
 refine tk (i:=9) (v:=?_) rfl HB.out ?_ ?_
 rotate_left
 · (intro w' hSw;have hb9:=hSw.1;have h9:=HF.out _ hSw.2;obtain ⟨f9,e9⟩:=h9;have d0:=HC0.out _ hb9;have d1:=HC1.out _ hb9;have d2:=HC2.out _ hb9;clear hSw hb9;go_simp;try with_reducible rfl)
 (try simp only [pn])
 refine tn 12 HB.out ?_
 (try simp only [pn])
 refine tn 13 HB.out ?_
 (try simp only [pn])
 refine tn 14 HB.out ?_
 (try simp only [pn])
 refine tk (i:=15) (v:=?_) rfl HB.out ?_ ?_
 rotate_left
 · (intro w' hSw;have hb9:=hSw.1;have h9:=HF.out _ hSw.2;obtain ⟨f9,e9⟩:=h9;have d0:=HC0.out _ hb9;have d1:=HC1.out _ hb9;have d2:=HC2.out _ hb9;clear hSw hb9;go_simp;try with_reducible rfl)
 (try simp only [pn])
 repeat' (first
  | (clear op6;have dn6:=trivial;go_simp;have hb9:=one_below W (.cells #[.int .i64 (q0:Int)] 3);replace HS:=lh (HS.out.on hb9);replace HB:=lh (And.intro HS.out.below (on_row hb9 HB.out.2));(try replace F10:=lh (on_row hb9 F10.out));(try replace F16:=lh (on_row hb9 F16.out));(try replace F18:=lh (on_row hb9 F18.out));have F6:=lh (heap_alloc_new W (.cells #[.int .i64 (q0:Int)] 3));clear hb9;(refine hK.out _ _ HB.out (fun hHeld=>?_));clear hK K hHeld;(try simp only [pn]);generalize W.heap.size=g16 at *;generalize W.alloc (.cells #[.int .i64 (q0:Int)] 3)=W at *)
  | (clear op7;have dn7:=trivial;go_simp;go_at_call 64;(with_reducible refine (TX0.out W g16 HS.out F6.out).mono ?_);rintro e W ⟨rfl,hb9⟩;clear F6;replace HS:=lh (HS.out.on hb9);replace HB:=lh (And.intro HS.out.below (on_row hb9 HB.out.2));(try replace F10:=lh (on_row hb9 F10.out));(try replace F16:=lh (on_row hb9 F16.out));(try replace F18:=lh (on_row hb9 F18.out));clear hb9;go_simp;(refine hK.out _ _ HB.out (fun hHeld=>?_));clear hK K hHeld;(try simp only [pn]))
  | (clear op10;have dn10:=trivial;go_simp;have hb9:=one_below W (.cells #[.string (⟨#[32,60,32]⟩),.string (⟨#[32,61,61,32]⟩)] 9);replace HS:=lh (HS.out.on hb9);replace HB:=lh (And.intro HS.out.below (on_row hb9 HB.out.2));(try replace F6:=lh (on_row hb9 F6.out));(try replace F16:=lh (on_row hb9 F16.out));(try replace F18:=lh (on_row hb9 F18.out));have F10:=lh (heap_alloc_new W (.cells #[.string (⟨#[32,60,32]⟩),.string (⟨#[32,61,61,32]⟩)] 9));clear hb9;(refine hK.out _ _ HB.out (fun hHeld=>?_));clear hK K hHeld;(try simp only [pn]);generalize W.heap.size=g20 at *;generalize W.alloc (.cells #[.string (⟨#[32,60,32]⟩),.string (⟨#[32,61,61,32]⟩)] 9)=W at *)
  | (clear op11;have dn11:=trivial;go_simp;go_at_call 168;(with_reducible refine (PK.out W g20 F10.out).mono ?_);rintro e W ⟨rfl,hb9⟩;clear F10;replace HS:=lh (HS.out.on hb9);replace HB:=lh (And.intro HS.out.below (on_row hb9 HB.out.2));(try replace F6:=lh (on_row hb9 F6.out));(try replace F16:=lh (on_row hb9 F16.out));(try replace F18:=lh (on_row hb9 F18.out));clear hb9;go_simp;(refine hK.out _ _ HB.out (fun hHeld=>?_));clear hK K hHeld;(try simp only [pn]))
  | (clear op16;have dn16:=trivial;go_simp;have hb9:=one_below W (.cells #[.int .i64 (q1:Int)] 3);replace HS:=lh (HS.out.on hb9);replace HB:=lh (And.intro HS.out.below (on_row hb9 HB.out.2));(try replace F6:=lh (on_row hb9 F6.out));(try replace F10:=lh (on_row hb9 F10.out));(try replace F18:=lh (on_row hb9 F18.out));have F16:=lh (heap_alloc_new W (.cells #[.int .i64 (q1:Int)] 3));clear hb9;(refine hK.out _ _ HB.out (fun hHeld=>?_));clear hK K hHeld;(try simp only [pn]);generalize W.heap.size=g26 at *;generalize W.alloc (.cells #[.int .i64 (q1:Int)] 3)=W at *)
  | (clear op17;have dn17:=trivial;go_simp;go_at_call 64;(with_reducible refine (TX1.out W g26 HS.out F16.out).mono ?_);rintro e W ⟨rfl,hb9⟩;clear F16;replace HS:=lh (HS.out.on hb9);replace HB:=lh (And.intro HS.out.below (on_row hb9 HB.out.2));(try replace F6:=lh (on_row hb9 F6.out));(try replace F10:=lh (on_row hb9 F10.out));(try replace F18:=lh (on_row hb9 F18.out));clear hb9;go_simp;(refine hK.out _ _ HB.out (fun hHeld=>?_));clear hK K hHeld;(try simp only [pn]))
  | (clear op18;have dn18:=trivial;go_simp;have hb9:=one_below W (.cells #[.string (⟨#[105,102,32]⟩),.string (exT x0),.string EI,.string (exT x1),.string (⟨#[32,123]⟩)] 9);replace HS:=lh (HS.out.on hb9);replace HB:=lh (And.intro HS.out.below (on_row hb9 HB.out.2));(try replace F6:=lh (on_row hb9 F6.out));(try replace F10:=lh (on_row hb9 F10.out));(try replace F16:=lh (on_row hb9 F16.out));have F18:=lh (heap_alloc_new W (.cells #[.string (⟨#[105,102,32]⟩),.string (exT x0),.string EI,.string (exT x1),.string (⟨#[32,123]⟩)] 9));clear hb9;(refine hK.out _ _ HB.out (fun hHeld=>?_));clear hK K hHeld;(try simp only [pn]);generalize W.heap.size=g28 at *;generalize W.alloc (.cells #[.string (⟨#[105,102,32]⟩),.string (exT x0),.string EI,.string (exT x1),.string (⟨#[32,123]⟩)] 9)=W at *)
  | (clear op19;have dn19:=trivial;go_simp;go_at_call 167;(with_reducible refine (LN.out W g28 HS.out F18.out).mono ?_);rintro e W ⟨rfl,v',HP,HK⟩;have HP:=lh HP;replace HB:=lh (And.intro HP.out.below (HK _ _ _ _ HB.out.2 (by decide) hgb));clear HK;go_simp;(refine hK.out _ _ HB.out (fun hHeld=>?_));clear hK K hHeld;(try simp only [pn]))
  | (have:=dn6;have:=dn7;have:=dn10;have:=dn11;have:=dn16;have:=dn17;have:=dn18;have:=dn19;refine wpAnyH_done (by kernel_rfl) ?_ _;have HPP0:=lh HP.out;clear HP HB HS;have k2:=HC2.out _ HPP0.out.below;go_wp2_with (first|(go_at_call 54;(with_reducible refine (AL2.out _ _ _ HPP0.out (by have:=HFIT.out;simp only [ByteArray.size_append] at this ⊢;omega)).mono ?_);rintro e wx0 ⟨rfl,vx0,HX⟩;have HPP1:=lh (HX.on (one_below wx0 (.cells #[.string ⟨#[125]⟩] 9)));have FY0:=lh (heap_alloc_new wx0 (.cells #[.string ⟨#[125]⟩] 9));clear HX k2 HPP0)|(go_at_call 167;(with_reducible refine (LN1.out _ _ _ _ HPP1.out (by have:=HFIT.out;have:=HMOST.out;simp only [ByteArray.size_append] at *;omega) (by first|exact FY0.out|simpa using FY0.out)).mono ?_);rintro e wx1 ⟨rfl,vx1,HX⟩;have HPP2:=lh HX;clear HX HPP1 FY0));go_end0;have HZ:=HPP2.out;simp only [app_assoc] at HZ;refine ⟨rfl,vx1,?_⟩;simp only [app_assoc];exact HZ)
  | (have:=dn18;refine wpAnyH_ready (rs:=[19]) (by kernel_rfl) (by simp) (AllReadyH.cons rfl (fun K hK=>have op19:=trivial;?_) (AllReadyH.nil)))
  | (have:=dn17;refine wpAnyH_ready (rs:=[18]) (by kernel_rfl) (by simp) (AllReadyH.cons rfl (fun K hK=>have op18:=trivial;?_) (AllReadyH.nil)))
  | (have:=dn11;have:=dn16;refine wpAnyH_ready (rs:=[17]) (by kernel_rfl) (by simp) (AllReadyH.cons rfl (fun K hK=>have op17:=trivial;?_) (AllReadyH.nil)))
  | (have:=dn11;refine wpAnyH_ready (rs:=[16]) (by kernel_rfl) (by simp) (AllReadyH.cons rfl (fun K hK=>have op16:=trivial;?_) (AllReadyH.nil)))
  | (have:=dn7;have:=dn10;have:=dn16;refine wpAnyH_ready (rs:=[11]) (by kernel_rfl) (by simp) (AllReadyH.cons rfl (fun K hK=>have op11:=trivial;?_) (AllReadyH.nil)))
  | (have:=dn7;have:=dn10;refine wpAnyH_ready (rs:=[11,16]) (by kernel_rfl) (by simp) (AllReadyH.cons rfl (fun K hK=>have op11:=trivial;?_) (AllReadyH.cons rfl (fun K hK=>have op16:=trivial;?_) (AllReadyH.nil))))
  | (have:=dn7;have:=dn16;refine wpAnyH_ready (rs:=[10]) (by kernel_rfl) (by simp) (AllReadyH.cons rfl (fun K hK=>have op10:=trivial;?_) (AllReadyH.nil)))
  | (have:=dn6;have:=dn10;have:=dn16;refine wpAnyH_ready (rs:=[7]) (by kernel_rfl) (by simp) (AllReadyH.cons rfl (fun K hK=>have op7:=trivial;?_) (AllReadyH.nil)))
  | (have:=dn7;refine wpAnyH_ready (rs:=[10,16]) (by kernel_rfl) (by simp) (AllReadyH.cons rfl (fun K hK=>have op10:=trivial;?_) (AllReadyH.cons rfl (fun K hK=>have op16:=trivial;?_) (AllReadyH.nil))))
  | (have:=dn6;have:=dn10;refine wpAnyH_ready (rs:=[7,16]) (by kernel_rfl) (by simp) (AllReadyH.cons rfl (fun K hK=>have op7:=trivial;?_) (AllReadyH.cons rfl (fun K hK=>have op16:=trivial;?_) (AllReadyH.nil))))
  | (have:=dn6;have:=dn16;refine wpAnyH_ready (rs:=[7,10]) (by kernel_rfl) (by simp) (AllReadyH.cons rfl (fun K hK=>have op7:=trivial;?_) (AllReadyH.cons rfl (fun K hK=>have op10:=trivial;?_) (AllReadyH.nil))))
  | (have:=dn10;have:=dn16;refine wpAnyH_ready (rs:=[6]) (by kernel_rfl) (by simp) (AllReadyH.cons rfl (fun K hK=>have op6:=trivial;?_) (AllReadyH.nil)))
  | (have:=dn6;refine wpAnyH_ready (rs:=[7,10,16]) (by kernel_rfl) (by simp) (AllReadyH.cons rfl (fun K hK=>have op7:=trivial;?_) (AllReadyH.cons rfl (fun K hK=>have op10:=trivial;?_) (AllReadyH.cons rfl (fun K hK=>have op16:=trivial;?_) (AllReadyH.nil)))))
  | (have:=dn10;refine wpAnyH_ready (rs:=[6,16]) (by kernel_rfl) (by simp) (AllReadyH.cons rfl (fun K hK=>have op6:=trivial;?_) (AllReadyH.cons rfl (fun K hK=>have op16:=trivial;?_) (AllReadyH.nil))))
  | (have:=dn16;refine wpAnyH_ready (rs:=[6,10]) (by kernel_rfl) (by simp) (AllReadyH.cons rfl (fun K hK=>have op6:=trivial;?_) (AllReadyH.cons rfl (fun K hK=>have op10:=trivial;?_) (AllReadyH.nil))))
  | ( refine wpAnyH_ready (rs:=[6,10,16]) (by kernel_rfl) (by simp) (AllReadyH.cons rfl (fun K hK=>have op6:=trivial;?_) (AllReadyH.cons rfl (fun K hK=>have op10:=trivial;?_) (AllReadyH.cons rfl (fun K hK=>have op16:=trivial;?_) (AllReadyH.nil)))))
  | fail)
end
section
open Go.RowKit Tr Go.Shelf
def HasF (ns:List Nd)(F:Nat→Ast→ByteArray):Ast→Prop
 | .mk k a s n ks=>HasW ns k a s n ks (fun d=>F d (.mk k a s n ks))
def catF (F:Nat→Ast→ByteArray)(d:Nat)(ks:List Ast):ByteArray:=catT (ks.map (F d))
theorem catF_take (F:Nat→Ast→ByteArray)(d:Nat)(ks:List Ast)(j:Nat)(h:j<ks.length):catF F d (ks.take (j+1))=catF F d (ks.take j)++F d ks[j]:=by
 unfold catF
 rw [List.take_succ_eq_append_getElem h,List.map_append,List.map_cons,List.map_nil,catT_snoc]
theorem catF_le (F:Nat→Ast→ByteArray)(d:Nat)(ks:List Ast)(j:Nat):(catF F d (ks.take j)).size≤(catF F d ks).size:=by
 unfold catF
 rw [List.map_take]
 exact catT_le _ _
theorem all_of (ns:List Nd)(F:Nat→Ast→ByteArray)(k:Int)(a:Nat)(s:ByteArray)(n:Int)(ks:List Ast)(ih:∀y∈ks,HasF ns F y)(d o:Nat)(w0 w:World)(b:Nat)(p:Option Addr)(len c:Nat)(most:Int)(v:Value)(L:ByteArray)(hT:TV w0 p len c ns)(hO:On ns o (.mk k a s n ks))(hw:wfR (.mk k a s n ks))(ht:PT10 w0)(hlen:len≤70000)(hd:d+(Ast.mk k a s n ks).size≤70001)(hb:b=w0.heap.size)
 (hP:PrW w0 b (.slice p len c) most v L w) (hmost:most≤1000000) (hfit:((L.size+(catF F d ks).size:Nat):Int)≤most) :
 Calls Tryz.prog 54 #[.pointer (some ⟨b,0,none⟩),.int .i64 (o:Int),.int .i64 (d:Int)] w fun e w'=>e=.returned (.tuple #[])∧∃v',PrW w0 b (.slice p len c) most v' (L++catF F d ks) w':=by
 obtain ⟨a',hnd⟩:=hO.node
 have hol:=hO.lt
 have hle:=hT.len_eq
 have hb2:=hb
 obtain ⟨nb,off,rfl,hbl,hc⟩:=hT.node (by omega)
 have HC:=lh hc
 obtain ⟨kp,kl,kc,hn⟩:=hc o (by omega)
 rw [hnd] at hn
 have hbw:=hP.lt
 have k4:w.cell? ⟨nb,off+o*5+4,none⟩=some (.slice kp kl kc):=by rw [hP.below.cell (p:=⟨nb,off+o*5+4,none⟩) (by show nb<b;omega)];exact hn.kids
 have hiv:IV w0 kp kl kc (heads (o+1) ks):=hn.iv
 have hkl:ks.length=kl:=by rw [← hiv.len_eq,heads_length]
 have hks:sizeL ks+1≤70000:=by have:=hO.size;simp only [Ast.size] at this;omega
 have hkl7:kl≤70000:=by have:=len_sizeL ks;omega
 have HT:=lh hT
 have HO:=lh hO
 have HW:=lh hw
 have HPT:=lh ht
 have HIV:=lh hiv
 have HKL:=lh hkl
 have HB0:=lh hb
 have HM:=lh hmost
 have HFIT:=lh hfit
 have HLE:=lh hle
 have hnbb:nb<b:=by omega
 have HD:Hid (∀y∈ks,d+y.size≤70000):=lh (fun y hy=>by have:=sizeL_mem hy;simp only [Ast.size] at hd;omega)
 have b0:(0:Int)≤(o:Int):=by omega
 have b1:(o:Int)<(len:Int):=by omega
 obtain ⟨e0,_,_,_⟩:=hP.cell
 have HP0:Hid (PrW w0 b (.slice (some ⟨nb,off,none⟩) len c) most v (L++catF F d (ks.take 0)) w):=lh (by rw [show catF F d (ks.take 0)=none0 from rfl,app_none];exact hP)
 clear hT hO hw ht hiv hn hc hle hnd hd hks hb hb2 hP hmost hfit hkl hol hbw
 go_enter Tryz.func54,Tryz.ntmps54
 go_wp2_with fail
 go_loopg [7,17] kl (fun g v7 v17 wr=>∃(j:Nat) (v:Value),v17=.int .i64 (j:Int)∧Hid (g+j=kl)∧Hid (PrW w0 b (.slice (some ⟨nb,off,none⟩) len c) most v (L++catF F d (ks.take j)) wr))
 case atStart=>exact ⟨0,_,rfl,lh rfl,HP0⟩
 case round =>
  clear HP0 k4 e0
  obtain ⟨j,v,rfl,HG,HS⟩:=hrel
  obtain ⟨vp1,vc1,rfl⟩:=ownsRow_shape HS.out.own
  obtain ⟨e0,_,e2,_⟩:=HS.out.cell
  by_cases hlt:j<kl
  · have hjk:j<ks.length:=by have:=HKL.out;omega
    obtain ⟨q,hq,hql,hOq⟩:=HO.out.kid j hjk
    obtain ⟨kb,koff,rfl,hkb,hkc⟩:=HIV.out.cell (by omega)
    have m5:wr.cell? ⟨kb,koff+j,none⟩=some (.int .i64 (q:Int)):=by
     rw [HS.out.below.cell (p:=⟨kb,koff+j,none⟩) (by show kb<b;have:=HB0.out;omega),hkc j hlt,hq]
    have HWq:=HW.out.kids hjk
    have HDq:=HD.out _ (List.getElem_mem hjk)
    have HIq:=ih ks[j] (List.getElem_mem hjk)
    have HSN:=catF_take F d ks j hjk
    have hle1:=catF_le F d ks (j+1)
    generalize ks[j]=x at *
    obtain ⟨xk,xa,xs,xn,xks⟩:=x
    obtain ⟨qa,hqn⟩:=hOq.node
    have hqlen:q<len:=by have:=HLE.out;omega
    obtain ⟨qp,qkl,qkc,hqc⟩:=HC.out q hqlen
    rw [hqn] at hqc
    have t:∀i,wr.cell? ⟨nb,off+q*5+i,none⟩=w0.cell? ⟨nb,off+q*5+i,none⟩:=fun i=>HS.out.below.cell (p:=⟨nb,off+q*5+i,none⟩) hnbb
    have n0:wr.cell? ⟨nb,off+q*5,none⟩=some (.int .u8 xk):=(t 0).trans hqc.kind
    have n1:wr.cell? ⟨nb,off+q*5+1,none⟩=some (.int .i64 qa):=(t 1).trans hqc.at'
    have n2:wr.cell? ⟨nb,off+q*5+2,none⟩=some (.string xs):=(t 2).trans hqc.text
    have n3:wr.cell? ⟨nb,off+q*5+3,none⟩=some (.int .i64 xn):=(t 3).trans hqc.n
    have n4:wr.cell? ⟨nb,off+q*5+4,none⟩=some (.slice qp qkl qkc):=(t 4).trans hqc.kids
    have hfit2:(((L++catF F d (ks.take j)).size+(F d (.mk xk xa xs xn xks)).size:Nat):Int)≤most:=by
     have h1:=HFIT.out
     rw [HSN,ByteArray.size_append] at hle1
     rw [ByteArray.size_append]
     omega
    have CE:=lh (HIq d q w0 wr b (some ⟨nb,off,none⟩) len c most _ (L++catF F d (ks.take j)) qa qp qkl qkc HT.out hOq HWq HPT.out hlen HDq HB0.out hqc.iv HS.out HM.out hfit2)
    have HOV:=lh (isOver_at wr b most vp1 (L++catF F d (ks.take j)).size vc1 HS.out.cell.2.1)
    have hno:decide (most<((L++catF F d (ks.take j)).size:Int))=false:=by rw [decide_eq_false_iff_not];omega
    rw [hno] at HOV
    have HSN2:=lh HSN
    have h0j:(0:Int)≤(j:Int):=by omega
    have hj2:(j:Int)<(kl:Int):=by omega
    have h0q:(0:Int)≤(q:Int):=by omega
    have hq2:(q:Int)<(len:Int):=by omega
    clear hkc hq hOq hqn hqc t HSN hle1 hfit2 hno HIq HWq HDq
    generalize hLL:L++catF F d (ks.take j)=LL at *
    go_wp2_with (first|(go_at_call 55;(with_reducible refine HOV.out.mono ?_);rintro e w5 ⟨rfl,hw5⟩;have hw6:=hw5.symm;subst hw6)|(go_at_call 99;(with_reducible refine CE.out.mono ?_);rintro e w6 ⟨rfl,v6,HX⟩;have HX:=lh HX))
    go_roundg (kl-(j+1))
    case rel=>exact ⟨j+1,_,by simp,lh (by omega),lh (by rw [HSN2.out,← app_assoc,hLL];exact HX.out)⟩
    case measure=>have:=HG.out;omega
  · have e:ks.take j=ks:=List.take_of_length_le (by have:=HKL.out;have:=HG.out;omega)
    rw [e] at HS
    clear e2
    go_wp2_with fail
    go_end0
    exact ⟨rfl,_,HS.out⟩
end
section
open Go.RowKit Tr Go.Shelf
theorem write14 (ns:List Nd)(a:Nat)(s:ByteArray)(n:Int)(ks:List Ast)(T:Nat→ByteArray)(hc:HasC ns 14 a s n ks T):HasW ns 14 a s n ks T:=by
 intro d o w0 w b p len c most v L a' kp kl kc hT hO hw ht hlen hd hb hI hP hmost hfit
 have CC:=lh (hc d o w0 (w.alloc (.cells #[.int .u8 14,.int .i64 a',.string s,.int .i64 n,.slice kp kl kc] 54)) b p len c most v L a' kp kl kc hT hO hw ht hlen hd hb hI (hP.on (one_below w _)) hmost hfit)
 show Calls _ _ _ _ (fun e w'=>e=.returned (.tuple #[])∧∃v',PrW w0 b _ most v' (L++T d) w')
 clear hT hO hw ht hI hP hfit hmost hd hlen hb hc
 go_enter Tryz.func99,Tryz.ntmps99
 go_wp2_with (go_at_call 169;(with_reducible refine CC.out.mono ?_);rintro e w5 ⟨rfl,v',HP⟩)
 go_end0
 exact ⟨rfl,v',HP⟩
end
section
open Go.RowKit Tr Go.Shelf
theorem write7 (ns:List Nd)(a:Nat)(s:ByteArray)(n:Int)(ks:List Ast)(hsh:isR (ks.map Ast.kind) [20,5]=true):HasW ns 7 a s n ks (fun d=>stT d (.mk 7 a s n ks)):=by
 intro d o w0 w b p len c most v L a' kp kl kc hT hO hw ht hlen hd hb hI hP hmost hfit
 have hkl:ks.length=kl:=by rw [← hI.len_eq,heads_length]
 obtain ⟨x0,x1,rfl,hx0,hx1⟩:=sh20_5 hsh
 obtain rfl:kl=2:=hkl.symm
 obtain ⟨kb,koff,rfl,hkb,hkc⟩:=hI.cell (by omega)
 obtain ⟨q0,hq0,hql0,hO0⟩:=hO.kid 0 (by simp)
 have hg0:=heads_ge [x0,x1] (o+1) 0 (by simp)
 rw [hq0] at hg0
 have c0:w0.cell? ⟨kb,koff,none⟩=some (.int .i64 (q0:Int)):=by have h:=hkc 0 (by omega);rw [hq0] at h;exact h
 have hw0:wfR x0:=hw.kids (j:=0) (by simp)
 have hO0:On ns q0 x0:=hO0
 obtain ⟨q1,hq1,hql1,hO1⟩:=hO.kid 1 (by simp)
 have hg1:=heads_ge [x0,x1] (o+1) 1 (by simp)
 rw [hq1] at hg1
 have c1:w0.cell? ⟨kb,koff+1,none⟩=some (.int .i64 (q1:Int)):=by have h:=hkc 1 (by omega);rw [hq1] at h;exact h
 have hw1:wfR x1:=hw.kids (j:=1) (by simp)
 have hO1:On ns q1 x1:=hO1
 obtain ⟨EI,hEI⟩:∃EI,(if n=1 then (⟨#[32,102,111,114,32,117,112,100,97,116,101]⟩:ByteArray) else ⟨#[]⟩)=EI:=⟨_,rfl⟩
 have hn01:n=0∨n=1:=by have h1:=hw.parts.2.1;have h2:mostR 7=1:=(by decide);rw [h2] at h1;omega
 have HEQ:stT d (.mk 7 a s n [x0,x1])=lineT d (catT [⟨#[114,101,97,100,32]⟩,s,⟨#[32,61,32]⟩,exT x0,⟨#[46]⟩,exT x1,EI,⟨#[59]⟩]):=by
  show stF d 7 s n [exT x0,exT x1] _=_
  unfold stF
  rw [if_pos rfl,hEI]
  simp only [lineT,catT,app_none,app_assoc,List.getD_cons_zero,List.getD_cons_succ]
 have hst:=congrArg ByteArray.size HEQ
 simp only [lineT,catT,ByteArray.size_append] at hst
 dsimp only at hfit
 rw [hst] at hfit
 have hbw:=hP.lt
 have TX0:Hid (∀w' g,PrW w0 b (.slice p len c) most v L w'→w'.heap[g]?=some (.cells #[.int .i64 (q0:Int)] 3 (0,0))→Calls Tryz.prog 64 #[.pointer (some ⟨b,0,none⟩),.slice (some ⟨g,0,none⟩) 1 1] w' fun e w''=>e=.returned (.string (exT x0))∧Below w'.heap.size w' w''):=lh (fun w' g h1 h2=>text_one h1 hb hT ht hlen hO0 (by omega) (Or.inr (by rw [hx0];decide)) hw0 (by omega) g h2)
 have TX1:Hid (∀w' g,PrW w0 b (.slice p len c) most v L w'→w'.heap[g]?=some (.cells #[.int .i64 (q1:Int)] 3 (0,0))→Calls Tryz.prog 64 #[.pointer (some ⟨b,0,none⟩),.slice (some ⟨g,0,none⟩) 1 1] w' fun e w''=>e=.returned (.string (exT x1))∧Below w'.heap.size w' w''):=lh (fun w' g h1 h2=>text_one h1 hb hT ht hlen hO1 (by omega) (Or.inl hx1) hw1 (by omega) g h2)
 have PK:Hid (∀w' g,w'.heap[g]?=some (.cells #[.string ⟨#[]⟩,.string ⟨#[32,102,111,114,32,117,112,100,97,116,101]⟩] 9 (0,0))→Calls Tryz.prog 168 #[.int .i64 n,.slice (some ⟨g,0,none⟩) 2 2] w' fun e w''=>e=.returned (.string EI)∧Below w'.heap.size w' w''):=lh (fun w' g h=>by rw [← hEI];exact pick_row w' n g _ _ h hn01)
 have LN:Hid (∀w' g,PrW w0 b (.slice p len c) most v L w'→w'.heap[g]?=some (.cells #[.string (⟨#[114,101,97,100,32]⟩),.string s,.string (⟨#[32,61,32]⟩),.string (exT x0),.string ⟨#[46]⟩,.string (exT x1),.string EI,.string ⟨#[59]⟩] 9 (0,0))→Calls Tryz.prog 167 #[.pointer (some ⟨b,0,none⟩),.int .i64 (d:Int),.slice (some ⟨g,0,none⟩) 8 8] w' fun e w''=>e=.returned (.tuple #[])∧∃v',PrW w0 b (.slice p len c) most v' (L++stT d (.mk 7 a s n [x0,x1])) w''∧KeepT b w' w''):=lh (fun w' g h1 h2=>by rw [HEQ];exact line_at w0 w' b _ most v L h1 d g 8 [⟨#[114,101,97,100,32]⟩,s,⟨#[32,61,32]⟩,exT x0,⟨#[46]⟩,exT x1,EI,⟨#[59]⟩] h2 (by simp) (by simp only [Ast.size,sizeL] at hd;omega) (by omega) (by simp only [catT,ByteArray.size_append];omega))
 have HB:Hid (Below b w0 (w.alloc (.cells #[.int .u8 7,.int .i64 a',.string s,.int .i64 n,.slice (some ⟨kb,koff,none⟩) 2 kc] 54))∧(w.alloc (.cells #[.int .u8 7,.int .i64 a',.string s,.int .i64 n,.slice (some ⟨kb,koff,none⟩) 2 kc] 54)).heap[w.heap.size]?=some (.cells #[.int .u8 7,.int .i64 a',.string s,.int .i64 n,.slice (some ⟨kb,koff,none⟩) 2 kc] 54 (0,0))):=lh ⟨(hP.on (one_below w _)).below,heap_alloc_new w _⟩
 have HS:=lh (hP.on (one_below w (.cells #[.int .u8 7,.int .i64 a',.string s,.int .i64 n,.slice (some ⟨kb,koff,none⟩) 2 kc] 54)))
 have hgb:¬ w.heap.size=b:=by omega
 have hkb2:kb<b:=by omega
 have HC0:=ckH hkb2 c0
 have HC1:=ckH hkb2 c1
 show Calls _ _ _ _ (fun e w'=>e=.returned (.tuple #[])∧∃v',PrW w0 b _ most v' (L++stT d (.mk 7 a s n [x0,x1])) w')
 generalize stT d (.mk 7 a s n [x0,x1])=ST at *
 clear hT hO hw ht hI hP hfit hmost hst HEQ hkc hkl hsh hd hlen hb hbw hkb hkb2 hq0 hql0 hO0 hg0 c0 hw0 hx0 hq1 hql1 hO1 hg1 c1 hw1 hx1 hEI hn01
 go_enter Tryz.func99,Tryz.ntmps99
 have d0:=HC0.out _ HB.out.1
 have d1:=HC1.out _ HB.out.1
 go_wp2_with fail
 clear d0
 clear d1
 generalize w.alloc (.cells #[.int .u8 7,.int .i64 a',.string s,.int .i64 n,.slice (some ⟨kb,koff,none⟩) 2 kc] 54)=W1 at *
 generalize w.heap.size=g0 at *
 have HF:Hid (∀w':World,w'.heap[g0]?=some (.cells #[.int .u8 7,.int .i64 a',.string s,.int .i64 n,.slice (some ⟨kb,koff,none⟩) 2 kc] 54 (0,0))→w'.cell? ⟨g0,2,none⟩=some (.string s)∧w'.cell? ⟨g0,3,none⟩=some (.int .i64 n)):=lh (fun w' h=>⟨by rw [cell_of_row _ _ _ _ _ _ h];rfl,by rw [cell_of_row _ _ _ _ _ _ h];rfl⟩)
 refine wp_region_held_drew (S:=fun w'=>Below b w0 w'∧w'.heap[g0]?=some (.cells #[.int .u8 7,.int .i64 a',.string s,.int .i64 n,.slice (some ⟨kb,koff,none⟩) 2 kc] 54 (0,0))) (by kernel_rfl) ⟨HB.out.1.drew,HB.out.2⟩ (fun hHeld=>?_)
 have HS:=lh (HS.out.on (drew_on W1))
 have HB:=lh hHeld
 generalize W1.drew=W at *
 clear hHeld
 refine tn 0 HB.out ?_
 (try simp only [pn])
 refine tn 1 HB.out ?_
 (try simp only [pn])
 refine tn 2 HB.out ?_
 (try simp only [pn])
 refine tk (i:=3) (v:=?_) rfl HB.out ?_ ?_
 rotate_left
 · (intro w' hSw;have hb9:=hSw.1;have h9:=HF.out _ hSw.2;obtain ⟨f9,e9⟩:=h9;have d0:=HC0.out _ hb9;have d1:=HC1.out _ hb9;clear hSw hb9;go_simp;try with_reducible rfl)
 (try simp only [pn])
 refine tn 4 HB.out ?_
 (try simp only [pn])
 refine tn 5 HB.out ?_
 (try simp only [pn])
 refine tn 6 HB.out ?_
 (try simp only [pn])
 refine tk (i:=7) (v:=?_) rfl HB.out ?_ ?_
 rotate_left
 · (intro w' hSw;have hb9:=hSw.1;have h9:=HF.out _ hSw.2;obtain ⟨f9,e9⟩:=h9;have d0:=HC0.out _ hb9;have d1:=HC1.out _ hb9;clear hSw hb9;go_simp;try with_reducible rfl)
 (try simp only [pn])
 refine tn 10 HB.out ?_
 (try simp only [pn])
 refine tn 11 HB.out ?_
 (try simp only [pn])
 refine tn 12 HB.out ?_
 (try simp only [pn])
 refine tk (i:=13) (v:=?_) rfl HB.out ?_ ?_
 rotate_left
 · (intro w' hSw;have hb9:=hSw.1;have h9:=HF.out _ hSw.2;obtain ⟨f9,e9⟩:=h9;have d0:=HC0.out _ hb9;have d1:=HC1.out _ hb9;clear hSw hb9;go_simp;try with_reducible rfl)
 (try simp only [pn])
 refine tn 16 HB.out ?_
 (try simp only [pn])
 refine tk (i:=17) (v:=?_) rfl HB.out ?_ ?_
 rotate_left
 · (intro w' hSw;have hb9:=hSw.1;have h9:=HF.out _ hSw.2;obtain ⟨f9,e9⟩:=h9;have d0:=HC0.out _ hb9;have d1:=HC1.out _ hb9;clear hSw hb9;go_simp;try with_reducible rfl)
 (try simp only [pn])
 repeat' (first
  | (clear op8;have dn8:=trivial;go_simp;have hb9:=one_below W (.cells #[.int .i64 (q0:Int)] 3);replace HS:=lh (HS.out.on hb9);replace HB:=lh (And.intro HS.out.below (on_row hb9 HB.out.2));(try replace F14:=lh (on_row hb9 F14.out));(try replace F18:=lh (on_row hb9 F18.out));(try replace F20:=lh (on_row hb9 F20.out));have F8:=lh (heap_alloc_new W (.cells #[.int .i64 (q0:Int)] 3));clear hb9;(refine hK.out _ _ HB.out (fun hHeld=>?_));clear hK K hHeld;(try simp only [pn]);generalize W.heap.size=g18 at *;generalize W.alloc (.cells #[.int .i64 (q0:Int)] 3)=W at *)
  | (clear op9;have dn9:=trivial;go_simp;go_at_call 64;(with_reducible refine (TX0.out W g18 HS.out F8.out).mono ?_);rintro e W ⟨rfl,hb9⟩;clear F8;replace HS:=lh (HS.out.on hb9);replace HB:=lh (And.intro HS.out.below (on_row hb9 HB.out.2));(try replace F14:=lh (on_row hb9 F14.out));(try replace F18:=lh (on_row hb9 F18.out));(try replace F20:=lh (on_row hb9 F20.out));clear hb9;go_simp;(refine hK.out _ _ HB.out (fun hHeld=>?_));clear hK K hHeld;(try simp only [pn]))
  | (clear op14;have dn14:=trivial;go_simp;have hb9:=one_below W (.cells #[.int .i64 (q1:Int)] 3);replace HS:=lh (HS.out.on hb9);replace HB:=lh (And.intro HS.out.below (on_row hb9 HB.out.2));(try replace F8:=lh (on_row hb9 F8.out));(try replace F18:=lh (on_row hb9 F18.out));(try replace F20:=lh (on_row hb9 F20.out));have F14:=lh (heap_alloc_new W (.cells #[.int .i64 (q1:Int)] 3));clear hb9;(refine hK.out _ _ HB.out (fun hHeld=>?_));clear hK K hHeld;(try simp only [pn]);generalize W.heap.size=g24 at *;generalize W.alloc (.cells #[.int .i64 (q1:Int)] 3)=W at *)
  | (clear op15;have dn15:=trivial;go_simp;go_at_call 64;(with_reducible refine (TX1.out W g24 HS.out F14.out).mono ?_);rintro e W ⟨rfl,hb9⟩;clear F14;replace HS:=lh (HS.out.on hb9);replace HB:=lh (And.intro HS.out.below (on_row hb9 HB.out.2));(try replace F8:=lh (on_row hb9 F8.out));(try replace F18:=lh (on_row hb9 F18.out));(try replace F20:=lh (on_row hb9 F20.out));clear hb9;go_simp;(refine hK.out _ _ HB.out (fun hHeld=>?_));clear hK K hHeld;(try simp only [pn]))
  | (clear op18;have dn18:=trivial;go_simp;have hb9:=one_below W (.cells #[.string ⟨#[]⟩,.string (⟨#[32,102,111,114,32,117,112,100,97,116,101]⟩)] 9);replace HS:=lh (HS.out.on hb9);replace HB:=lh (And.intro HS.out.below (on_row hb9 HB.out.2));(try replace F8:=lh (on_row hb9 F8.out));(try replace F14:=lh (on_row hb9 F14.out));(try replace F20:=lh (on_row hb9 F20.out));have F18:=lh (heap_alloc_new W (.cells #[.string ⟨#[]⟩,.string (⟨#[32,102,111,114,32,117,112,100,97,116,101]⟩)] 9));clear hb9;(refine hK.out _ _ HB.out (fun hHeld=>?_));clear hK K hHeld;(try simp only [pn]);generalize W.heap.size=g28 at *;generalize W.alloc (.cells #[.string ⟨#[]⟩,.string (⟨#[32,102,111,114,32,117,112,100,97,116,101]⟩)] 9)=W at *)
  | (clear op19;have dn19:=trivial;go_simp;go_at_call 168;(with_reducible refine (PK.out W g28 F18.out).mono ?_);rintro e W ⟨rfl,hb9⟩;clear F18;replace HS:=lh (HS.out.on hb9);replace HB:=lh (And.intro HS.out.below (on_row hb9 HB.out.2));(try replace F8:=lh (on_row hb9 F8.out));(try replace F14:=lh (on_row hb9 F14.out));(try replace F20:=lh (on_row hb9 F20.out));clear hb9;go_simp;(refine hK.out _ _ HB.out (fun hHeld=>?_));clear hK K hHeld;(try simp only [pn]))
  | (clear op20;have dn20:=trivial;go_simp;have hb9:=one_below W (.cells #[.string (⟨#[114,101,97,100,32]⟩),.string s,.string (⟨#[32,61,32]⟩),.string (exT x0),.string ⟨#[46]⟩,.string (exT x1),.string EI,.string ⟨#[59]⟩] 9);replace HS:=lh (HS.out.on hb9);replace HB:=lh (And.intro HS.out.below (on_row hb9 HB.out.2));(try replace F8:=lh (on_row hb9 F8.out));(try replace F14:=lh (on_row hb9 F14.out));(try replace F18:=lh (on_row hb9 F18.out));have F20:=lh (heap_alloc_new W (.cells #[.string (⟨#[114,101,97,100,32]⟩),.string s,.string (⟨#[32,61,32]⟩),.string (exT x0),.string ⟨#[46]⟩,.string (exT x1),.string EI,.string ⟨#[59]⟩] 9));clear hb9;(refine hK.out _ _ HB.out (fun hHeld=>?_));clear hK K hHeld;(try simp only [pn]);generalize W.heap.size=g30 at *;generalize W.alloc (.cells #[.string (⟨#[114,101,97,100,32]⟩),.string s,.string (⟨#[32,61,32]⟩),.string (exT x0),.string ⟨#[46]⟩,.string (exT x1),.string EI,.string ⟨#[59]⟩] 9)=W at *)
  | (clear op21;have dn21:=trivial;go_simp;go_at_call 167;(with_reducible refine (LN.out W g30 HS.out F20.out).mono ?_);rintro e W ⟨rfl,v',HP,HK⟩;have HP:=lh HP;replace HB:=lh (And.intro HP.out.below (HK _ _ _ _ HB.out.2 (by decide) hgb));clear HK;go_simp;(refine hK.out _ _ HB.out (fun hHeld=>?_));clear hK K hHeld;(try simp only [pn]))
  | (have:=dn8;have:=dn9;have:=dn14;have:=dn15;have:=dn18;have:=dn19;have:=dn20;have:=dn21;refine wpAnyH_done (by kernel_rfl) ?_ _;go_wp2_with fail;go_end0;exact ⟨rfl,v',HP.out⟩)
  | (have:=dn20;refine wpAnyH_ready (rs:=[21]) (by kernel_rfl) (by simp) (AllReadyH.cons rfl (fun K hK=>have op21:=trivial;?_) (AllReadyH.nil)))
  | (have:=dn19;refine wpAnyH_ready (rs:=[20]) (by kernel_rfl) (by simp) (AllReadyH.cons rfl (fun K hK=>have op20:=trivial;?_) (AllReadyH.nil)))
  | (have:=dn15;have:=dn18;refine wpAnyH_ready (rs:=[19]) (by kernel_rfl) (by simp) (AllReadyH.cons rfl (fun K hK=>have op19:=trivial;?_) (AllReadyH.nil)))
  | (have:=dn15;refine wpAnyH_ready (rs:=[18]) (by kernel_rfl) (by simp) (AllReadyH.cons rfl (fun K hK=>have op18:=trivial;?_) (AllReadyH.nil)))
  | (have:=dn9;have:=dn14;have:=dn18;refine wpAnyH_ready (rs:=[15]) (by kernel_rfl) (by simp) (AllReadyH.cons rfl (fun K hK=>have op15:=trivial;?_) (AllReadyH.nil)))
  | (have:=dn9;have:=dn14;refine wpAnyH_ready (rs:=[15,18]) (by kernel_rfl) (by simp) (AllReadyH.cons rfl (fun K hK=>have op15:=trivial;?_) (AllReadyH.cons rfl (fun K hK=>have op18:=trivial;?_) (AllReadyH.nil))))
  | (have:=dn9;have:=dn18;refine wpAnyH_ready (rs:=[14]) (by kernel_rfl) (by simp) (AllReadyH.cons rfl (fun K hK=>have op14:=trivial;?_) (AllReadyH.nil)))
  | (have:=dn8;have:=dn14;have:=dn18;refine wpAnyH_ready (rs:=[9]) (by kernel_rfl) (by simp) (AllReadyH.cons rfl (fun K hK=>have op9:=trivial;?_) (AllReadyH.nil)))
  | (have:=dn9;refine wpAnyH_ready (rs:=[14,18]) (by kernel_rfl) (by simp) (AllReadyH.cons rfl (fun K hK=>have op14:=trivial;?_) (AllReadyH.cons rfl (fun K hK=>have op18:=trivial;?_) (AllReadyH.nil))))
  | (have:=dn8;have:=dn14;refine wpAnyH_ready (rs:=[9,18]) (by kernel_rfl) (by simp) (AllReadyH.cons rfl (fun K hK=>have op9:=trivial;?_) (AllReadyH.cons rfl (fun K hK=>have op18:=trivial;?_) (AllReadyH.nil))))
  | (have:=dn8;have:=dn18;refine wpAnyH_ready (rs:=[9,14]) (by kernel_rfl) (by simp) (AllReadyH.cons rfl (fun K hK=>have op9:=trivial;?_) (AllReadyH.cons rfl (fun K hK=>have op14:=trivial;?_) (AllReadyH.nil))))
  | (have:=dn14;have:=dn18;refine wpAnyH_ready (rs:=[8]) (by kernel_rfl) (by simp) (AllReadyH.cons rfl (fun K hK=>have op8:=trivial;?_) (AllReadyH.nil)))
  | (have:=dn8;refine wpAnyH_ready (rs:=[9,14,18]) (by kernel_rfl) (by simp) (AllReadyH.cons rfl (fun K hK=>have op9:=trivial;?_) (AllReadyH.cons rfl (fun K hK=>have op14:=trivial;?_) (AllReadyH.cons rfl (fun K hK=>have op18:=trivial;?_) (AllReadyH.nil)))))
  | (have:=dn14;refine wpAnyH_ready (rs:=[8,18]) (by kernel_rfl) (by simp) (AllReadyH.cons rfl (fun K hK=>have op8:=trivial;?_) (AllReadyH.cons rfl (fun K hK=>have op18:=trivial;?_) (AllReadyH.nil))))
  | (have:=dn18;refine wpAnyH_ready (rs:=[8,14]) (by kernel_rfl) (by simp) (AllReadyH.cons rfl (fun K hK=>have op8:=trivial;?_) (AllReadyH.cons rfl (fun K hK=>have op14:=trivial;?_) (AllReadyH.nil))))
  | ( refine wpAnyH_ready (rs:=[8,14,18]) (by kernel_rfl) (by simp) (AllReadyH.cons rfl (fun K hK=>have op8:=trivial;?_) (AllReadyH.cons rfl (fun K hK=>have op14:=trivial;?_) (AllReadyH.cons rfl (fun K hK=>have op18:=trivial;?_) (AllReadyH.nil)))))
  | fail)
end
section
open Go.RowKit Tr Go.Shelf
theorem write8 (ns:List Nd)(a:Nat)(s:ByteArray)(n:Int)(ks:List Ast)(hsh:isR (ks.map Ast.kind) [20,5,0]=true):HasW ns 8 a s n ks (fun d=>stT d (.mk 8 a s n ks)):=by
 intro d o w0 w b p len c most v L a' kp kl kc hT hO hw ht hlen hd hb hI hP hmost hfit
 have hkl:ks.length=kl:=by rw [← hI.len_eq,heads_length]
 obtain ⟨x0,x1,x2,rfl,hx0,hx1,hx2⟩:=sh20_5_0 hsh
 obtain rfl:kl=3:=hkl.symm
 obtain ⟨kb,koff,rfl,hkb,hkc⟩:=hI.cell (by omega)
 obtain ⟨q0,hq0,hql0,hO0⟩:=hO.kid 0 (by simp)
 have hg0:=heads_ge [x0,x1,x2] (o+1) 0 (by simp)
 rw [hq0] at hg0
 have c0:w0.cell? ⟨kb,koff,none⟩=some (.int .i64 (q0:Int)):=by have h:=hkc 0 (by omega);rw [hq0] at h;exact h
 have hw0:wfR x0:=hw.kids (j:=0) (by simp)
 have hO0:On ns q0 x0:=hO0
 obtain ⟨q1,hq1,hql1,hO1⟩:=hO.kid 1 (by simp)
 have hg1:=heads_ge [x0,x1,x2] (o+1) 1 (by simp)
 rw [hq1] at hg1
 have c1:w0.cell? ⟨kb,koff+1,none⟩=some (.int .i64 (q1:Int)):=by have h:=hkc 1 (by omega);rw [hq1] at h;exact h
 have hw1:wfR x1:=hw.kids (j:=1) (by simp)
 have hO1:On ns q1 x1:=hO1
 obtain ⟨q2,hq2,hql2,hO2⟩:=hO.kid 2 (by simp)
 have hg2:=heads_ge [x0,x1,x2] (o+1) 2 (by simp)
 rw [hq2] at hg2
 have c2:w0.cell? ⟨kb,koff+2,none⟩=some (.int .i64 (q2:Int)):=by have h:=hkc 2 (by omega);rw [hq2] at h;exact h
 have hw2:wfR x2:=hw.kids (j:=2) (by simp)
 have hO2:On ns q2 x2:=hO2
 have HEQ:stT d (.mk 8 a s n [x0,x1,x2])=lineT d (catT [⟨#[115,101,116,32]⟩,exT x0,⟨#[46]⟩,exT x1,⟨#[32,61,32]⟩,exT x2,⟨#[59]⟩]):=by
  show stF d 8 s n [exT x0,exT x1,exT x2] _=_
  unfold stF
  rw [nn,if_pos rfl]
  simp only [lineT,catT,app_none,app_assoc,List.getD_cons_zero,List.getD_cons_succ]
 have hst:=congrArg ByteArray.size HEQ
 simp only [lineT,catT,ByteArray.size_append] at hst
 dsimp only at hfit
 rw [hst] at hfit
 have hbw:=hP.lt
 have TX0:Hid (∀w' g,PrW w0 b (.slice p len c) most v L w'→w'.heap[g]?=some (.cells #[.int .i64 (q0:Int)] 3 (0,0))→Calls Tryz.prog 64 #[.pointer (some ⟨b,0,none⟩),.slice (some ⟨g,0,none⟩) 1 1] w' fun e w''=>e=.returned (.string (exT x0))∧Below w'.heap.size w' w''):=lh (fun w' g h1 h2=>text_one h1 hb hT ht hlen hO0 (by omega) (Or.inr (by rw [hx0];decide)) hw0 (by omega) g h2)
 have TX1:Hid (∀w' g,PrW w0 b (.slice p len c) most v L w'→w'.heap[g]?=some (.cells #[.int .i64 (q1:Int)] 3 (0,0))→Calls Tryz.prog 64 #[.pointer (some ⟨b,0,none⟩),.slice (some ⟨g,0,none⟩) 1 1] w' fun e w''=>e=.returned (.string (exT x1))∧Below w'.heap.size w' w''):=lh (fun w' g h1 h2=>text_one h1 hb hT ht hlen hO1 (by omega) (Or.inl hx1) hw1 (by omega) g h2)
 have TX2:Hid (∀w' g,PrW w0 b (.slice p len c) most v L w'→w'.heap[g]?=some (.cells #[.int .i64 (q2:Int)] 3 (0,0))→Calls Tryz.prog 64 #[.pointer (some ⟨b,0,none⟩),.slice (some ⟨g,0,none⟩) 1 1] w' fun e w''=>e=.returned (.string (exT x2))∧Below w'.heap.size w' w''):=lh (fun w' g h1 h2=>text_one h1 hb hT ht hlen hO2 (by omega) (isTx_expr hx2) hw2 (by omega) g h2)
 have LN:Hid (∀w' g,PrW w0 b (.slice p len c) most v L w'→w'.heap[g]?=some (.cells #[.string (⟨#[115,101,116,32]⟩),.string (exT x0),.string ⟨#[46]⟩,.string (exT x1),.string (⟨#[32,61,32]⟩),.string (exT x2),.string ⟨#[59]⟩] 9 (0,0))→Calls Tryz.prog 167 #[.pointer (some ⟨b,0,none⟩),.int .i64 (d:Int),.slice (some ⟨g,0,none⟩) 7 7] w' fun e w''=>e=.returned (.tuple #[])∧∃v',PrW w0 b (.slice p len c) most v' (L++stT d (.mk 8 a s n [x0,x1,x2])) w''∧KeepT b w' w''):=lh (fun w' g h1 h2=>by rw [HEQ];exact line_at w0 w' b _ most v L h1 d g 7 [⟨#[115,101,116,32]⟩,exT x0,⟨#[46]⟩,exT x1,⟨#[32,61,32]⟩,exT x2,⟨#[59]⟩] h2 (by simp) (by simp only [Ast.size,sizeL] at hd;omega) (by omega) (by simp only [catT,ByteArray.size_append];omega))
 have HB:Hid (Below b w0 (w.alloc (.cells #[.int .u8 8,.int .i64 a',.string s,.int .i64 n,.slice (some ⟨kb,koff,none⟩) 3 kc] 54))∧(w.alloc (.cells #[.int .u8 8,.int .i64 a',.string s,.int .i64 n,.slice (some ⟨kb,koff,none⟩) 3 kc] 54)).heap[w.heap.size]?=some (.cells #[.int .u8 8,.int .i64 a',.string s,.int .i64 n,.slice (some ⟨kb,koff,none⟩) 3 kc] 54 (0,0))):=lh ⟨(hP.on (one_below w _)).below,heap_alloc_new w _⟩
 have HS:=lh (hP.on (one_below w (.cells #[.int .u8 8,.int .i64 a',.string s,.int .i64 n,.slice (some ⟨kb,koff,none⟩) 3 kc] 54)))
 have hgb:¬ w.heap.size=b:=by omega
 have hkb2:kb<b:=by omega
 have HC0:=ckH hkb2 c0
 have HC1:=ckH hkb2 c1
 have HC2:=ckH hkb2 c2
 show Calls _ _ _ _ (fun e w'=>e=.returned (.tuple #[])∧∃v',PrW w0 b _ most v' (L++stT d (.mk 8 a s n [x0,x1,x2])) w')
 generalize stT d (.mk 8 a s n [x0,x1,x2])=ST at *
 clear hT hO hw ht hI hP hfit hmost hst HEQ hkc hkl hsh hd hlen hb hbw hkb hkb2 hq0 hql0 hO0 hg0 c0 hw0 hx0 hq1 hql1 hO1 hg1 c1 hw1 hx1 hq2 hql2 hO2 hg2 c2 hw2 hx2
 go_enter Tryz.func99,Tryz.ntmps99
 have d0:=HC0.out _ HB.out.1
 have d1:=HC1.out _ HB.out.1
 have d2:=HC2.out _ HB.out.1
 go_wp2_with fail
 clear d0
 clear d1
 clear d2
 generalize w.alloc (.cells #[.int .u8 8,.int .i64 a',.string s,.int .i64 n,.slice (some ⟨kb,koff,none⟩) 3 kc] 54)=W1 at *
 generalize w.heap.size=g0 at *
 have HF:Hid (∀w':World,w'.heap[g0]?=some (.cells #[.int .u8 8,.int .i64 a',.string s,.int .i64 n,.slice (some ⟨kb,koff,none⟩) 3 kc] 54 (0,0))→w'.cell? ⟨g0,2,none⟩=some (.string s)∧w'.cell? ⟨g0,3,none⟩=some (.int .i64 n)):=lh (fun w' h=>⟨by rw [cell_of_row _ _ _ _ _ _ h];rfl,by rw [cell_of_row _ _ _ _ _ _ h];rfl⟩)
 refine wp_region_held_drew (S:=fun w'=>Below b w0 w'∧w'.heap[g0]?=some (.cells #[.int .u8 8,.int .i64 a',.string s,.int .i64 n,.slice (some ⟨kb,koff,none⟩) 3 kc] 54 (0,0))) (by kernel_rfl) ⟨HB.out.1.drew,HB.out.2⟩ (fun hHeld=>?_)
 have HS:=lh (HS.out.on (drew_on W1))
 have HB:=lh hHeld
 generalize W1.drew=W at *
 clear hHeld
 refine tn 0 HB.out ?_
 (try simp only [pn])
 refine tn 1 HB.out ?_
 (try simp only [pn])
 refine tn 2 HB.out ?_
 (try simp only [pn])
 refine tn 3 HB.out ?_
 (try simp only [pn])
 refine tn 4 HB.out ?_
 (try simp only [pn])
 refine tk (i:=5) (v:=?_) rfl HB.out ?_ ?_
 rotate_left
 · (intro w' hSw;have hb9:=hSw.1;have h9:=HF.out _ hSw.2;obtain ⟨f9,e9⟩:=h9;have d0:=HC0.out _ hb9;have d1:=HC1.out _ hb9;have d2:=HC2.out _ hb9;clear hSw hb9;go_simp;try with_reducible rfl)
 (try simp only [pn])
 refine tn 8 HB.out ?_
 (try simp only [pn])
 refine tn 9 HB.out ?_
 (try simp only [pn])
 refine tn 10 HB.out ?_
 (try simp only [pn])
 refine tk (i:=11) (v:=?_) rfl HB.out ?_ ?_
 rotate_left
 · (intro w' hSw;have hb9:=hSw.1;have h9:=HF.out _ hSw.2;obtain ⟨f9,e9⟩:=h9;have d0:=HC0.out _ hb9;have d1:=HC1.out _ hb9;have d2:=HC2.out _ hb9;clear hSw hb9;go_simp;try with_reducible rfl)
 (try simp only [pn])
 refine tn 14 HB.out ?_
 (try simp only [pn])
 refine tn 15 HB.out ?_
 (try simp only [pn])
 refine tn 16 HB.out ?_
 (try simp only [pn])
 refine tk (i:=17) (v:=?_) rfl HB.out ?_ ?_
 rotate_left
 · (intro w' hSw;have hb9:=hSw.1;have h9:=HF.out _ hSw.2;obtain ⟨f9,e9⟩:=h9;have d0:=HC0.out _ hb9;have d1:=HC1.out _ hb9;have d2:=HC2.out _ hb9;clear hSw hb9;go_simp;try with_reducible rfl)
 (try simp only [pn])
 repeat' (first
  | (clear op6;have dn6:=trivial;go_simp;have hb9:=one_below W (.cells #[.int .i64 (q0:Int)] 3);replace HS:=lh (HS.out.on hb9);replace HB:=lh (And.intro HS.out.below (on_row hb9 HB.out.2));(try replace F12:=lh (on_row hb9 F12.out));(try replace F18:=lh (on_row hb9 F18.out));(try replace F20:=lh (on_row hb9 F20.out));have F6:=lh (heap_alloc_new W (.cells #[.int .i64 (q0:Int)] 3));clear hb9;(refine hK.out _ _ HB.out (fun hHeld=>?_));clear hK K hHeld;(try simp only [pn]);generalize W.heap.size=g16 at *;generalize W.alloc (.cells #[.int .i64 (q0:Int)] 3)=W at *)
  | (clear op7;have dn7:=trivial;go_simp;go_at_call 64;(with_reducible refine (TX0.out W g16 HS.out F6.out).mono ?_);rintro e W ⟨rfl,hb9⟩;clear F6;replace HS:=lh (HS.out.on hb9);replace HB:=lh (And.intro HS.out.below (on_row hb9 HB.out.2));(try replace F12:=lh (on_row hb9 F12.out));(try replace F18:=lh (on_row hb9 F18.out));(try replace F20:=lh (on_row hb9 F20.out));clear hb9;go_simp;(refine hK.out _ _ HB.out (fun hHeld=>?_));clear hK K hHeld;(try simp only [pn]))
  | (clear op12;have dn12:=trivial;go_simp;have hb9:=one_below W (.cells #[.int .i64 (q1:Int)] 3);replace HS:=lh (HS.out.on hb9);replace HB:=lh (And.intro HS.out.below (on_row hb9 HB.out.2));(try replace F6:=lh (on_row hb9 F6.out));(try replace F18:=lh (on_row hb9 F18.out));(try replace F20:=lh (on_row hb9 F20.out));have F12:=lh (heap_alloc_new W (.cells #[.int .i64 (q1:Int)] 3));clear hb9;(refine hK.out _ _ HB.out (fun hHeld=>?_));clear hK K hHeld;(try simp only [pn]);generalize W.heap.size=g22 at *;generalize W.alloc (.cells #[.int .i64 (q1:Int)] 3)=W at *)
  | (clear op13;have dn13:=trivial;go_simp;go_at_call 64;(with_reducible refine (TX1.out W g22 HS.out F12.out).mono ?_);rintro e W ⟨rfl,hb9⟩;clear F12;replace HS:=lh (HS.out.on hb9);replace HB:=lh (And.intro HS.out.below (on_row hb9 HB.out.2));(try replace F6:=lh (on_row hb9 F6.out));(try replace F18:=lh (on_row hb9 F18.out));(try replace F20:=lh (on_row hb9 F20.out));clear hb9;go_simp;(refine hK.out _ _ HB.out (fun hHeld=>?_));clear hK K hHeld;(try simp only [pn]))
  | (clear op18;have dn18:=trivial;go_simp;have hb9:=one_below W (.cells #[.int .i64 (q2:Int)] 3);replace HS:=lh (HS.out.on hb9);replace HB:=lh (And.intro HS.out.below (on_row hb9 HB.out.2));(try replace F6:=lh (on_row hb9 F6.out));(try replace F12:=lh (on_row hb9 F12.out));(try replace F20:=lh (on_row hb9 F20.out));have F18:=lh (heap_alloc_new W (.cells #[.int .i64 (q2:Int)] 3));clear hb9;(refine hK.out _ _ HB.out (fun hHeld=>?_));clear hK K hHeld;(try simp only [pn]);generalize W.heap.size=g28 at *;generalize W.alloc (.cells #[.int .i64 (q2:Int)] 3)=W at *)
  | (clear op19;have dn19:=trivial;go_simp;go_at_call 64;(with_reducible refine (TX2.out W g28 HS.out F18.out).mono ?_);rintro e W ⟨rfl,hb9⟩;clear F18;replace HS:=lh (HS.out.on hb9);replace HB:=lh (And.intro HS.out.below (on_row hb9 HB.out.2));(try replace F6:=lh (on_row hb9 F6.out));(try replace F12:=lh (on_row hb9 F12.out));(try replace F20:=lh (on_row hb9 F20.out));clear hb9;go_simp;(refine hK.out _ _ HB.out (fun hHeld=>?_));clear hK K hHeld;(try simp only [pn]))
  | (clear op20;have dn20:=trivial;go_simp;have hb9:=one_below W (.cells #[.string (⟨#[115,101,116,32]⟩),.string (exT x0),.string ⟨#[46]⟩,.string (exT x1),.string (⟨#[32,61,32]⟩),.string (exT x2),.string ⟨#[59]⟩] 9);replace HS:=lh (HS.out.on hb9);replace HB:=lh (And.intro HS.out.below (on_row hb9 HB.out.2));(try replace F6:=lh (on_row hb9 F6.out));(try replace F12:=lh (on_row hb9 F12.out));(try replace F18:=lh (on_row hb9 F18.out));have F20:=lh (heap_alloc_new W (.cells #[.string (⟨#[115,101,116,32]⟩),.string (exT x0),.string ⟨#[46]⟩,.string (exT x1),.string (⟨#[32,61,32]⟩),.string (exT x2),.string ⟨#[59]⟩] 9));clear hb9;(refine hK.out _ _ HB.out (fun hHeld=>?_));clear hK K hHeld;(try simp only [pn]);generalize W.heap.size=g30 at *;generalize W.alloc (.cells #[.string (⟨#[115,101,116,32]⟩),.string (exT x0),.string ⟨#[46]⟩,.string (exT x1),.string (⟨#[32,61,32]⟩),.string (exT x2),.string ⟨#[59]⟩] 9)=W at *)
  | (clear op21;have dn21:=trivial;go_simp;go_at_call 167;(with_reducible refine (LN.out W g30 HS.out F20.out).mono ?_);rintro e W ⟨rfl,v',HP,HK⟩;have HP:=lh HP;replace HB:=lh (And.intro HP.out.below (HK _ _ _ _ HB.out.2 (by decide) hgb));clear HK;go_simp;(refine hK.out _ _ HB.out (fun hHeld=>?_));clear hK K hHeld;(try simp only [pn]))
  | (have:=dn6;have:=dn7;have:=dn12;have:=dn13;have:=dn18;have:=dn19;have:=dn20;have:=dn21;refine wpAnyH_done (by kernel_rfl) ?_ _;go_wp2_with fail;go_end0;exact ⟨rfl,v',HP.out⟩)
  | (have:=dn20;refine wpAnyH_ready (rs:=[21]) (by kernel_rfl) (by simp) (AllReadyH.cons rfl (fun K hK=>have op21:=trivial;?_) (AllReadyH.nil)))
  | (have:=dn19;refine wpAnyH_ready (rs:=[20]) (by kernel_rfl) (by simp) (AllReadyH.cons rfl (fun K hK=>have op20:=trivial;?_) (AllReadyH.nil)))
  | (have:=dn13;have:=dn18;refine wpAnyH_ready (rs:=[19]) (by kernel_rfl) (by simp) (AllReadyH.cons rfl (fun K hK=>have op19:=trivial;?_) (AllReadyH.nil)))
  | (have:=dn13;refine wpAnyH_ready (rs:=[18]) (by kernel_rfl) (by simp) (AllReadyH.cons rfl (fun K hK=>have op18:=trivial;?_) (AllReadyH.nil)))
  | (have:=dn7;have:=dn12;have:=dn18;refine wpAnyH_ready (rs:=[13]) (by kernel_rfl) (by simp) (AllReadyH.cons rfl (fun K hK=>have op13:=trivial;?_) (AllReadyH.nil)))
  | (have:=dn7;have:=dn12;refine wpAnyH_ready (rs:=[13,18]) (by kernel_rfl) (by simp) (AllReadyH.cons rfl (fun K hK=>have op13:=trivial;?_) (AllReadyH.cons rfl (fun K hK=>have op18:=trivial;?_) (AllReadyH.nil))))
  | (have:=dn7;have:=dn18;refine wpAnyH_ready (rs:=[12]) (by kernel_rfl) (by simp) (AllReadyH.cons rfl (fun K hK=>have op12:=trivial;?_) (AllReadyH.nil)))
  | (have:=dn6;have:=dn12;have:=dn18;refine wpAnyH_ready (rs:=[7]) (by kernel_rfl) (by simp) (AllReadyH.cons rfl (fun K hK=>have op7:=trivial;?_) (AllReadyH.nil)))
  | (have:=dn7;refine wpAnyH_ready (rs:=[12,18]) (by kernel_rfl) (by simp) (AllReadyH.cons rfl (fun K hK=>have op12:=trivial;?_) (AllReadyH.cons rfl (fun K hK=>have op18:=trivial;?_) (AllReadyH.nil))))
  | (have:=dn6;have:=dn12;refine wpAnyH_ready (rs:=[7,18]) (by kernel_rfl) (by simp) (AllReadyH.cons rfl (fun K hK=>have op7:=trivial;?_) (AllReadyH.cons rfl (fun K hK=>have op18:=trivial;?_) (AllReadyH.nil))))
  | (have:=dn6;have:=dn18;refine wpAnyH_ready (rs:=[7,12]) (by kernel_rfl) (by simp) (AllReadyH.cons rfl (fun K hK=>have op7:=trivial;?_) (AllReadyH.cons rfl (fun K hK=>have op12:=trivial;?_) (AllReadyH.nil))))
  | (have:=dn12;have:=dn18;refine wpAnyH_ready (rs:=[6]) (by kernel_rfl) (by simp) (AllReadyH.cons rfl (fun K hK=>have op6:=trivial;?_) (AllReadyH.nil)))
  | (have:=dn6;refine wpAnyH_ready (rs:=[7,12,18]) (by kernel_rfl) (by simp) (AllReadyH.cons rfl (fun K hK=>have op7:=trivial;?_) (AllReadyH.cons rfl (fun K hK=>have op12:=trivial;?_) (AllReadyH.cons rfl (fun K hK=>have op18:=trivial;?_) (AllReadyH.nil)))))
  | (have:=dn12;refine wpAnyH_ready (rs:=[6,18]) (by kernel_rfl) (by simp) (AllReadyH.cons rfl (fun K hK=>have op6:=trivial;?_) (AllReadyH.cons rfl (fun K hK=>have op18:=trivial;?_) (AllReadyH.nil))))
  | (have:=dn18;refine wpAnyH_ready (rs:=[6,12]) (by kernel_rfl) (by simp) (AllReadyH.cons rfl (fun K hK=>have op6:=trivial;?_) (AllReadyH.cons rfl (fun K hK=>have op12:=trivial;?_) (AllReadyH.nil))))
  | ( refine wpAnyH_ready (rs:=[6,12,18]) (by kernel_rfl) (by simp) (AllReadyH.cons rfl (fun K hK=>have op6:=trivial;?_) (AllReadyH.cons rfl (fun K hK=>have op12:=trivial;?_) (AllReadyH.cons rfl (fun K hK=>have op18:=trivial;?_) (AllReadyH.nil)))))
  | fail)
end
section
open Go.RowKit Tr Go.Shelf
theorem choice4 (ns:List Nd)(a:Nat)(s:ByteArray)(n:Int)(ks:List Ast)(hsh:isR (ks.map Ast.kind) [0,0,6,6]=true)(ih:∀y∈ks,y.kind=6→HasAl ns y):HasC ns 14 a s n ks (fun d=>stT d (.mk 14 a s n ks)):=by
 intro d o w0 w b p len c most v L a' kp kl kc hT hO hw ht hlen hd hb hI hP hmost hfit
 have hkl:ks.length=kl:=by rw [← hI.len_eq,heads_length]
 obtain ⟨x0,x1,x2,x3,rfl,hx0,hx1,hx2,hx3⟩:=sh0_0_6_6 hsh
 obtain rfl:kl=4:=hkl.symm
 obtain ⟨kb,koff,rfl,hkb,hkc⟩:=hI.cell (by omega)
 obtain ⟨q0,hq0,hql0,hO0⟩:=hO.kid 0 (by simp)
 have hg0:=heads_ge [x0,x1,x2,x3] (o+1) 0 (by simp)
 rw [hq0] at hg0
 have c0:w0.cell? ⟨kb,koff,none⟩=some (.int .i64 (q0:Int)):=by have h:=hkc 0 (by omega);rw [hq0] at h;exact h
 have hw0:wfR x0:=hw.kids (j:=0) (by simp)
 have hO0:On ns q0 x0:=hO0
 obtain ⟨q1,hq1,hql1,hO1⟩:=hO.kid 1 (by simp)
 have hg1:=heads_ge [x0,x1,x2,x3] (o+1) 1 (by simp)
 rw [hq1] at hg1
 have c1:w0.cell? ⟨kb,koff+1,none⟩=some (.int .i64 (q1:Int)):=by have h:=hkc 1 (by omega);rw [hq1] at h;exact h
 have hw1:wfR x1:=hw.kids (j:=1) (by simp)
 have hO1:On ns q1 x1:=hO1
 obtain ⟨q2,hq2,hql2,hO2⟩:=hO.kid 2 (by simp)
 have hg2:=heads_ge [x0,x1,x2,x3] (o+1) 2 (by simp)
 rw [hq2] at hg2
 have c2:w0.cell? ⟨kb,koff+2,none⟩=some (.int .i64 (q2:Int)):=by have h:=hkc 2 (by omega);rw [hq2] at h;exact h
 have hw2:wfR x2:=hw.kids (j:=2) (by simp)
 have hO2:On ns q2 x2:=hO2
 obtain ⟨q3,hq3,hql3,hO3⟩:=hO.kid 3 (by simp)
 have hg3:=heads_ge [x0,x1,x2,x3] (o+1) 3 (by simp)
 rw [hq3] at hg3
 have c3:w0.cell? ⟨kb,koff+3,none⟩=some (.int .i64 (q3:Int)):=by have h:=hkc 3 (by omega);rw [hq3] at h;exact h
 have hw3:wfR x3:=hw.kids (j:=3) (by simp)
 have hO3:On ns q3 x3:=hO3
 obtain ⟨EI,hEI⟩:∃EI,(if n=1 then (⟨#[32,61,61,32]⟩:ByteArray) else ⟨#[32,60,32]⟩)=EI:=⟨_,rfl⟩
 have hn01:n=0∨n=1:=by have h1:=hw.parts.2.1;have h2:mostR 14=1:=(by decide);rw [h2] at h1;omega
 obtain ⟨A1,hA1⟩:∃A1,lineT d (catT [⟨#[105,102,32]⟩,exT x0,EI,exT x1,⟨#[32,123]⟩])=A1:=⟨_,rfl⟩
 obtain ⟨E1,hE1⟩:∃E1,lineT d (catT [⟨#[125,32,101,108,115,101,32,123]⟩])=E1:=⟨_,rfl⟩
 obtain ⟨E3,hE3⟩:∃E3,lineT d (catT [⟨#[125]⟩])=E3:=⟨_,rfl⟩
 have HEQ:stT d (.mk 14 a s n [x0,x1,x2,x3])=A1++blT (d+1) x2++E1++blT (d+1) x3++E3:=by
  rw [← hA1,← hE1,← hE3]
  show stF d 14 s n [exT x0,exT x1,exT x2,exT x3] [blT (d+1) x0,blT (d+1) x1,blT (d+1) x2,blT (d+1) x3]=_
  unfold stF
  rw [nn,nn,nn,nn,nn,nn,nn,if_pos rfl,hEI]
  rw [if_pos (by simp)]
  simp only [lineT,catT,app_none,none_app,app_assoc,List.getD_cons_zero,List.getD_cons_succ]
 have hs1:=congrArg ByteArray.size hA1
 simp only [lineT,catT,ByteArray.size_append] at hs1
 have hst:=congrArg ByteArray.size HEQ
 simp only [ByteArray.size_append] at hst
 dsimp only at hfit
 rw [hst] at hfit
 have hbw:=hP.lt
 have TX0:Hid (∀w' g,PrW w0 b (.slice p len c) most v L w'→w'.heap[g]?=some (.cells #[.int .i64 (q0:Int)] 3 (0,0))→Calls Tryz.prog 64 #[.pointer (some ⟨b,0,none⟩),.slice (some ⟨g,0,none⟩) 1 1] w' fun e w''=>e=.returned (.string (exT x0))∧Below w'.heap.size w' w''):=lh (fun w' g h1 h2=>text_one h1 hb hT ht hlen hO0 (by omega) (isTx_expr hx0) hw0 (by omega) g h2)
 have TX1:Hid (∀w' g,PrW w0 b (.slice p len c) most v L w'→w'.heap[g]?=some (.cells #[.int .i64 (q1:Int)] 3 (0,0))→Calls Tryz.prog 64 #[.pointer (some ⟨b,0,none⟩),.slice (some ⟨g,0,none⟩) 1 1] w' fun e w''=>e=.returned (.string (exT x1))∧Below w'.heap.size w' w''):=lh (fun w' g h1 h2=>text_one h1 hb hT ht hlen hO1 (by omega) (isTx_expr hx1) hw1 (by omega) g h2)
 have PK:Hid (∀w' g,w'.heap[g]?=some (.cells #[.string ⟨#[32,60,32]⟩,.string ⟨#[32,61,61,32]⟩] 9 (0,0))→Calls Tryz.prog 168 #[.int .i64 n,.slice (some ⟨g,0,none⟩) 2 2] w' fun e w''=>e=.returned (.string EI)∧Below w'.heap.size w' w''):=lh (fun w' g h=>by rw [← hEI];exact pick_row w' n g _ _ h hn01)
 have LN:Hid (∀w' g,PrW w0 b (.slice p len c) most v L w'→w'.heap[g]?=some (.cells #[.string (⟨#[105,102,32]⟩),.string (exT x0),.string EI,.string (exT x1),.string (⟨#[32,123]⟩)] 9 (0,0))→Calls Tryz.prog 167 #[.pointer (some ⟨b,0,none⟩),.int .i64 (d:Int),.slice (some ⟨g,0,none⟩) 5 5] w' fun e w''=>e=.returned (.tuple #[])∧∃v',PrW w0 b (.slice p len c) most v' (L++A1) w''∧KeepT b w' w''):=lh (fun w' g h1 h2=>by rw [← hA1];exact line_at w0 w' b _ most v L h1 d g 5 [⟨#[105,102,32]⟩,exT x0,EI,exT x1,⟨#[32,123]⟩] h2 (by simp) (by simp only [Ast.size,sizeL] at hd;omega) (by omega) (by simp only [catT,ByteArray.size_append];omega))
 have AL2:Hid (∀w' v' L',PrW w0 b (.slice p len c) most v' L' w'→((L'.size+(blT (d+1) x2).size:Nat):Int)≤most→Calls Tryz.prog 54 #[.pointer (some ⟨b,0,none⟩),.int .i64 (q2:Int),.int .i64 ((d:Int)+1)] w' fun e w''=>e=.returned (.tuple #[])∧∃v2,PrW w0 b (.slice p len c) most v2 (L'++blT (d+1) x2) w''):=lh (fun w' v' L' h1 h2=>ih x2 (by simp) hx2 (d+1) q2 w0 w' b p len c most v' L' hT hO2 hw2 ht hlen (by simp only [Ast.size,sizeL] at hd;have:=ast_pos x0;have:=ast_pos x1;omega) hb h1 hmost h2)
 have LN1:Hid (∀w' g v' L',PrW w0 b (.slice p len c) most v' L' w'→L'.size≤1000000000→w'.heap[g]?=some (.cells #[.string ⟨#[125,32,101,108,115,101,32,123]⟩] 9 (0,0))→Calls Tryz.prog 167 #[.pointer (some ⟨b,0,none⟩),.int .i64 (d:Int),.slice (some ⟨g,0,none⟩) 1 1] w' fun e w''=>e=.returned (.tuple #[])∧∃v2,PrW w0 b (.slice p len c) most v2 (L'++E1) w''):=lh (fun w' g v' L' h1 h3 h2=>by rw [← hE1];exact (line_at w0 w' b _ most v' L' h1 d g 1 [⟨#[125,32,101,108,115,101,32,123]⟩] h2 (by simp) (by simp only [Ast.size,sizeL] at hd;omega) h3 (by show (ByteArray.size _)≤_;simp only [catT,ByteArray.size_append];exact Nat.le_trans (show _≤100 by decide) (by decide))).mono fun e w'' ⟨e1,v2,h4,_⟩=>⟨e1,v2,h4⟩)
 have AL3:Hid (∀w' v' L',PrW w0 b (.slice p len c) most v' L' w'→((L'.size+(blT (d+1) x3).size:Nat):Int)≤most→Calls Tryz.prog 54 #[.pointer (some ⟨b,0,none⟩),.int .i64 (q3:Int),.int .i64 ((d:Int)+1)] w' fun e w''=>e=.returned (.tuple #[])∧∃v2,PrW w0 b (.slice p len c) most v2 (L'++blT (d+1) x3) w''):=lh (fun w' v' L' h1 h2=>ih x3 (by simp) hx3 (d+1) q3 w0 w' b p len c most v' L' hT hO3 hw3 ht hlen (by simp only [Ast.size,sizeL] at hd;have:=ast_pos x0;have:=ast_pos x1;omega) hb h1 hmost h2)
 have LN3:Hid (∀w' g v' L',PrW w0 b (.slice p len c) most v' L' w'→L'.size≤1000000000→w'.heap[g]?=some (.cells #[.string ⟨#[125]⟩] 9 (0,0))→Calls Tryz.prog 167 #[.pointer (some ⟨b,0,none⟩),.int .i64 (d:Int),.slice (some ⟨g,0,none⟩) 1 1] w' fun e w''=>e=.returned (.tuple #[])∧∃v2,PrW w0 b (.slice p len c) most v2 (L'++E3) w''):=lh (fun w' g v' L' h1 h3 h2=>by rw [← hE3];exact (line_at w0 w' b _ most v' L' h1 d g 1 [⟨#[125]⟩] h2 (by simp) (by simp only [Ast.size,sizeL] at hd;omega) h3 (by show (ByteArray.size _)≤_;simp only [catT,ByteArray.size_append];exact Nat.le_trans (show _≤100 by decide) (by decide))).mono fun e w'' ⟨e1,v2,h4,_⟩=>⟨e1,v2,h4⟩)
 have HB:Hid (Below b w0 (w.alloc (.cells #[.int .u8 14,.int .i64 a',.string s,.int .i64 n,.slice (some ⟨kb,koff,none⟩) 4 kc] 54))∧(w.alloc (.cells #[.int .u8 14,.int .i64 a',.string s,.int .i64 n,.slice (some ⟨kb,koff,none⟩) 4 kc] 54)).heap[w.heap.size]?=some (.cells #[.int .u8 14,.int .i64 a',.string s,.int .i64 n,.slice (some ⟨kb,koff,none⟩) 4 kc] 54 (0,0))):=lh ⟨(hP.on (one_below w _)).below,heap_alloc_new w _⟩
 have HS:=lh (hP.on (one_below w (.cells #[.int .u8 14,.int .i64 a',.string s,.int .i64 n,.slice (some ⟨kb,koff,none⟩) 4 kc] 54)))
 have hgb:¬ w.heap.size=b:=by omega
 have hkb2:kb<b:=by omega
 have HC0:=ckH hkb2 c0
 have HC1:=ckH hkb2 c1
 have HC2:=ckH hkb2 c2
 have HC3:=ckH hkb2 c3
 show Calls _ _ _ _ (fun e w'=>e=.returned (.tuple #[])∧∃v',PrW w0 b _ most v' (L++stT d (.mk 14 a s n [x0,x1,x2,x3])) w')
 have HFIT:=lh hfit
 have HMOST:=lh hmost
 show Calls _ _ _ _ (fun e w'=>e=.returned (.tuple #[])∧∃v',PrW w0 b _ most v' (L++stT d (.mk 14 a s n [x0,x1,x2,x3])) w')
 rw [HEQ]
 have hd7:d≤70000:=by simp only [Ast.size,sizeL] at hd;omega
 generalize blT (d+1) x2=B2 at *
 generalize blT (d+1) x3=B3 at *
 clear hE1 hE3 ih hA1 hs1 hT hO hw ht hI hP hfit hmost hst HEQ hkc hkl hsh hd hlen hb hbw hkb hkb2 hq0 hql0 hO0 hg0 c0 hw0 hx0 hq1 hql1 hO1 hg1 c1 hw1 hx1 hq2 hql2 hO2 hg2 c2 hw2 hx2 hq3 hql3 hO3 hg3 c3 hw3 hx3 hEI hn01
 go_enter Tryz.func169,Tryz.ntmps169
 have d0:=HC0.out _ HB.out.1
 have d1:=HC1.out _ HB.out.1
 have d2:=HC2.out _ HB.out.1
 have d3:=HC3.out _ HB.out.1
 go_wp2_with fail
 clear d0
 clear d1
 clear d2
 clear d3
 generalize w.alloc (.cells #[.int .u8 14,.int .i64 a',.string s,.int .i64 n,.slice (some ⟨kb,koff,none⟩) 4 kc] 54)=W1 at *
 generalize w.heap.size=g0 at *
 have HF:Hid (∀w':World,w'.heap[g0]?=some (.cells #[.int .u8 14,.int .i64 a',.string s,.int .i64 n,.slice (some ⟨kb,koff,none⟩) 4 kc] 54 (0,0))→w'.cell? ⟨g0,2,none⟩=some (.string s)∧w'.cell? ⟨g0,3,none⟩=some (.int .i64 n)):=lh (fun w' h=>⟨by rw [cell_of_row _ _ _ _ _ _ h];rfl,by rw [cell_of_row _ _ _ _ _ _ h];rfl⟩)
 refine wp_region_held_drew (S:=fun w'=>Below b w0 w'∧w'.heap[g0]?=some (.cells #[.int .u8 14,.int .i64 a',.string s,.int .i64 n,.slice (some ⟨kb,koff,none⟩) 4 kc] 54 (0,0))) (by kernel_rfl) ⟨HB.out.1.drew,HB.out.2⟩ (fun hHeld=>?_)
 have HS:=lh (HS.out.on (drew_on W1))
 have HB:=lh hHeld
 generalize W1.drew=W at *
 clear hHeld
 refine tn 0 HB.out ?_
 (try simp only [pn])
 refine tn 1 HB.out ?_
 (try simp only [pn])
 refine tn 2 HB.out ?_
 (try simp only [pn])
 refine tn 3 HB.out ?_
 (try simp only [pn])
 refine tn 4 HB.out ?_
 (try simp only [pn])
 refine tk (i:=5) (v:=?_) rfl HB.out ?_ ?_
 rotate_left
 · (intro w' hSw;have hb9:=hSw.1;have h9:=HF.out _ hSw.2;obtain ⟨f9,e9⟩:=h9;have d0:=HC0.out _ hb9;have d1:=HC1.out _ hb9;have d2:=HC2.out _ hb9;have d3:=HC3.out _ hb9;clear hSw hb9;go_simp;try with_reducible rfl)
 (try simp only [pn])
 refine tn 8 HB.out ?_
 (try simp only [pn])
 refine tk (i:=9) (v:=?_) rfl HB.out ?_ ?_
 rotate_left
 · (intro w' hSw;have hb9:=hSw.1;have h9:=HF.out _ hSw.2;obtain ⟨f9,e9⟩:=h9;have d0:=HC0.out _ hb9;have d1:=HC1.out _ hb9;have d2:=HC2.out _ hb9;have d3:=HC3.out _ hb9;clear hSw hb9;go_simp;try with_reducible rfl)
 (try simp only [pn])
 refine tn 12 HB.out ?_
 (try simp only [pn])
 refine tn 13 HB.out ?_
 (try simp only [pn])
 refine tn 14 HB.out ?_
 (try simp only [pn])
 refine tk (i:=15) (v:=?_) rfl HB.out ?_ ?_
 rotate_left
 · (intro w' hSw;have hb9:=hSw.1;have h9:=HF.out _ hSw.2;obtain ⟨f9,e9⟩:=h9;have d0:=HC0.out _ hb9;have d1:=HC1.out _ hb9;have d2:=HC2.out _ hb9;have d3:=HC3.out _ hb9;clear hSw hb9;go_simp;try with_reducible rfl)
 (try simp only [pn])
 repeat' (first
  | (clear op6;have dn6:=trivial;go_simp;have hb9:=one_below W (.cells #[.int .i64 (q0:Int)] 3);replace HS:=lh (HS.out.on hb9);replace HB:=lh (And.intro HS.out.below (on_row hb9 HB.out.2));(try replace F10:=lh (on_row hb9 F10.out));(try replace F16:=lh (on_row hb9 F16.out));(try replace F18:=lh (on_row hb9 F18.out));have F6:=lh (heap_alloc_new W (.cells #[.int .i64 (q0:Int)] 3));clear hb9;(refine hK.out _ _ HB.out (fun hHeld=>?_));clear hK K hHeld;(try simp only [pn]);generalize W.heap.size=g16 at *;generalize W.alloc (.cells #[.int .i64 (q0:Int)] 3)=W at *)
  | (clear op7;have dn7:=trivial;go_simp;go_at_call 64;(with_reducible refine (TX0.out W g16 HS.out F6.out).mono ?_);rintro e W ⟨rfl,hb9⟩;clear F6;replace HS:=lh (HS.out.on hb9);replace HB:=lh (And.intro HS.out.below (on_row hb9 HB.out.2));(try replace F10:=lh (on_row hb9 F10.out));(try replace F16:=lh (on_row hb9 F16.out));(try replace F18:=lh (on_row hb9 F18.out));clear hb9;go_simp;(refine hK.out _ _ HB.out (fun hHeld=>?_));clear hK K hHeld;(try simp only [pn]))
  | (clear op10;have dn10:=trivial;go_simp;have hb9:=one_below W (.cells #[.string (⟨#[32,60,32]⟩),.string (⟨#[32,61,61,32]⟩)] 9);replace HS:=lh (HS.out.on hb9);replace HB:=lh (And.intro HS.out.below (on_row hb9 HB.out.2));(try replace F6:=lh (on_row hb9 F6.out));(try replace F16:=lh (on_row hb9 F16.out));(try replace F18:=lh (on_row hb9 F18.out));have F10:=lh (heap_alloc_new W (.cells #[.string (⟨#[32,60,32]⟩),.string (⟨#[32,61,61,32]⟩)] 9));clear hb9;(refine hK.out _ _ HB.out (fun hHeld=>?_));clear hK K hHeld;(try simp only [pn]);generalize W.heap.size=g20 at *;generalize W.alloc (.cells #[.string (⟨#[32,60,32]⟩),.string (⟨#[32,61,61,32]⟩)] 9)=W at *)
  | (clear op11;have dn11:=trivial;go_simp;go_at_call 168;(with_reducible refine (PK.out W g20 F10.out).mono ?_);rintro e W ⟨rfl,hb9⟩;clear F10;replace HS:=lh (HS.out.on hb9);replace HB:=lh (And.intro HS.out.below (on_row hb9 HB.out.2));(try replace F6:=lh (on_row hb9 F6.out));(try replace F16:=lh (on_row hb9 F16.out));(try replace F18:=lh (on_row hb9 F18.out));clear hb9;go_simp;(refine hK.out _ _ HB.out (fun hHeld=>?_));clear hK K hHeld;(try simp only [pn]))
  | (clear op16;have dn16:=trivial;go_simp;have hb9:=one_below W (.cells #[.int .i64 (q1:Int)] 3);replace HS:=lh (HS.out.on hb9);replace HB:=lh (And.intro HS.out.below (on_row hb9 HB.out.2));(try replace F6:=lh (on_row hb9 F6.out));(try replace F10:=lh (on_row hb9 F10.out));(try replace F18:=lh (on_row hb9 F18.out));have F16:=lh (heap_alloc_new W (.cells #[.int .i64 (q1:Int)] 3));clear hb9;(refine hK.out _ _ HB.out (fun hHeld=>?_));clear hK K hHeld;(try simp only [pn]);generalize W.heap.size=g26 at *;generalize W.alloc (.cells #[.int .i64 (q1:Int)] 3)=W at *)
  | (clear op17;have dn17:=trivial;go_simp;go_at_call 64;(with_reducible refine (TX1.out W g26 HS.out F16.out).mono ?_);rintro e W ⟨rfl,hb9⟩;clear F16;replace HS:=lh (HS.out.on hb9);replace HB:=lh (And.intro HS.out.below (on_row hb9 HB.out.2));(try replace F6:=lh (on_row hb9 F6.out));(try replace F10:=lh (on_row hb9 F10.out));(try replace F18:=lh (on_row hb9 F18.out));clear hb9;go_simp;(refine hK.out _ _ HB.out (fun hHeld=>?_));clear hK K hHeld;(try simp only [pn]))
  | (clear op18;have dn18:=trivial;go_simp;have hb9:=one_below W (.cells #[.string (⟨#[105,102,32]⟩),.string (exT x0),.string EI,.string (exT x1),.string (⟨#[32,123]⟩)] 9);replace HS:=lh (HS.out.on hb9);replace HB:=lh (And.intro HS.out.below (on_row hb9 HB.out.2));(try replace F6:=lh (on_row hb9 F6.out));(try replace F10:=lh (on_row hb9 F10.out));(try replace F16:=lh (on_row hb9 F16.out));have F18:=lh (heap_alloc_new W (.cells #[.string (⟨#[105,102,32]⟩),.string (exT x0),.string EI,.string (exT x1),.string (⟨#[32,123]⟩)] 9));clear hb9;(refine hK.out _ _ HB.out (fun hHeld=>?_));clear hK K hHeld;(try simp only [pn]);generalize W.heap.size=g28 at *;generalize W.alloc (.cells #[.string (⟨#[105,102,32]⟩),.string (exT x0),.string EI,.string (exT x1),.string (⟨#[32,123]⟩)] 9)=W at *)
  | (clear op19;have dn19:=trivial;go_simp;go_at_call 167;(with_reducible refine (LN.out W g28 HS.out F18.out).mono ?_);rintro e W ⟨rfl,v',HP,HK⟩;have HP:=lh HP;replace HB:=lh (And.intro HP.out.below (HK _ _ _ _ HB.out.2 (by decide) hgb));clear HK;go_simp;(refine hK.out _ _ HB.out (fun hHeld=>?_));clear hK K hHeld;(try simp only [pn]))
  | (have:=dn6;have:=dn7;have:=dn10;have:=dn11;have:=dn16;have:=dn17;have:=dn18;have:=dn19;refine wpAnyH_done (by kernel_rfl) ?_ _;have HPP0:=lh HP.out;clear HP HB HS;have k2:=HC2.out _ HPP0.out.below;go_wp2_with (first|(go_at_call 54;(with_reducible refine (AL2.out _ _ _ HPP0.out (by have:=HFIT.out;simp only [ByteArray.size_append] at this ⊢;omega)).mono ?_);rintro e wx0 ⟨rfl,vx0,HX⟩;have HPP1:=lh (HX.on (one_below wx0 (.cells #[.string ⟨#[125,32,101,108,115,101,32,123]⟩] 9)));have FY0:=lh (heap_alloc_new wx0 (.cells #[.string ⟨#[125,32,101,108,115,101,32,123]⟩] 9));clear HX k2 HPP0)|(go_at_call 167;(with_reducible refine (LN1.out _ _ _ _ HPP1.out (by have:=HFIT.out;have:=HMOST.out;simp only [ByteArray.size_append] at *;omega) (by first|exact FY0.out|simpa using FY0.out)).mono ?_);rintro e wx1 ⟨rfl,vx1,HX⟩;have k3:=HC3.out _ HX.below;have HPP2:=lh HX;clear HX HPP1 FY0)|(go_at_call 54;(with_reducible refine (AL3.out _ _ _ HPP2.out (by have:=HFIT.out;simp only [ByteArray.size_append] at this ⊢;omega)).mono ?_);rintro e wx2 ⟨rfl,vx2,HX⟩;have HPP3:=lh (HX.on (one_below wx2 (.cells #[.string ⟨#[125]⟩] 9)));have FY2:=lh (heap_alloc_new wx2 (.cells #[.string ⟨#[125]⟩] 9));clear HX k3 HPP2)|(go_at_call 167;(with_reducible refine (LN3.out _ _ _ _ HPP3.out (by have:=HFIT.out;have:=HMOST.out;simp only [ByteArray.size_append] at *;omega) (by first|exact FY2.out|simpa using FY2.out)).mono ?_);rintro e wx3 ⟨rfl,vx3,HX⟩;have HPP4:=lh HX;clear HX HPP3 FY2));go_end0;have HZ:=HPP4.out;simp only [app_assoc] at HZ;refine ⟨rfl,vx3,?_⟩;simp only [app_assoc];exact HZ)
  | (have:=dn18;refine wpAnyH_ready (rs:=[19]) (by kernel_rfl) (by simp) (AllReadyH.cons rfl (fun K hK=>have op19:=trivial;?_) (AllReadyH.nil)))
  | (have:=dn17;refine wpAnyH_ready (rs:=[18]) (by kernel_rfl) (by simp) (AllReadyH.cons rfl (fun K hK=>have op18:=trivial;?_) (AllReadyH.nil)))
  | (have:=dn11;have:=dn16;refine wpAnyH_ready (rs:=[17]) (by kernel_rfl) (by simp) (AllReadyH.cons rfl (fun K hK=>have op17:=trivial;?_) (AllReadyH.nil)))
  | (have:=dn11;refine wpAnyH_ready (rs:=[16]) (by kernel_rfl) (by simp) (AllReadyH.cons rfl (fun K hK=>have op16:=trivial;?_) (AllReadyH.nil)))
  | (have:=dn7;have:=dn10;have:=dn16;refine wpAnyH_ready (rs:=[11]) (by kernel_rfl) (by simp) (AllReadyH.cons rfl (fun K hK=>have op11:=trivial;?_) (AllReadyH.nil)))
  | (have:=dn7;have:=dn10;refine wpAnyH_ready (rs:=[11,16]) (by kernel_rfl) (by simp) (AllReadyH.cons rfl (fun K hK=>have op11:=trivial;?_) (AllReadyH.cons rfl (fun K hK=>have op16:=trivial;?_) (AllReadyH.nil))))
  | (have:=dn7;have:=dn16;refine wpAnyH_ready (rs:=[10]) (by kernel_rfl) (by simp) (AllReadyH.cons rfl (fun K hK=>have op10:=trivial;?_) (AllReadyH.nil)))
  | (have:=dn6;have:=dn10;have:=dn16;refine wpAnyH_ready (rs:=[7]) (by kernel_rfl) (by simp) (AllReadyH.cons rfl (fun K hK=>have op7:=trivial;?_) (AllReadyH.nil)))
  | (have:=dn7;refine wpAnyH_ready (rs:=[10,16]) (by kernel_rfl) (by simp) (AllReadyH.cons rfl (fun K hK=>have op10:=trivial;?_) (AllReadyH.cons rfl (fun K hK=>have op16:=trivial;?_) (AllReadyH.nil))))
  | (have:=dn6;have:=dn10;refine wpAnyH_ready (rs:=[7,16]) (by kernel_rfl) (by simp) (AllReadyH.cons rfl (fun K hK=>have op7:=trivial;?_) (AllReadyH.cons rfl (fun K hK=>have op16:=trivial;?_) (AllReadyH.nil))))
  | (have:=dn6;have:=dn16;refine wpAnyH_ready (rs:=[7,10]) (by kernel_rfl) (by simp) (AllReadyH.cons rfl (fun K hK=>have op7:=trivial;?_) (AllReadyH.cons rfl (fun K hK=>have op10:=trivial;?_) (AllReadyH.nil))))
  | (have:=dn10;have:=dn16;refine wpAnyH_ready (rs:=[6]) (by kernel_rfl) (by simp) (AllReadyH.cons rfl (fun K hK=>have op6:=trivial;?_) (AllReadyH.nil)))
  | (have:=dn6;refine wpAnyH_ready (rs:=[7,10,16]) (by kernel_rfl) (by simp) (AllReadyH.cons rfl (fun K hK=>have op7:=trivial;?_) (AllReadyH.cons rfl (fun K hK=>have op10:=trivial;?_) (AllReadyH.cons rfl (fun K hK=>have op16:=trivial;?_) (AllReadyH.nil)))))
  | (have:=dn10;refine wpAnyH_ready (rs:=[6,16]) (by kernel_rfl) (by simp) (AllReadyH.cons rfl (fun K hK=>have op6:=trivial;?_) (AllReadyH.cons rfl (fun K hK=>have op16:=trivial;?_) (AllReadyH.nil))))
  | (have:=dn16;refine wpAnyH_ready (rs:=[6,10]) (by kernel_rfl) (by simp) (AllReadyH.cons rfl (fun K hK=>have op6:=trivial;?_) (AllReadyH.cons rfl (fun K hK=>have op10:=trivial;?_) (AllReadyH.nil))))
  | ( refine wpAnyH_ready (rs:=[6,10,16]) (by kernel_rfl) (by simp) (AllReadyH.cons rfl (fun K hK=>have op6:=trivial;?_) (AllReadyH.cons rfl (fun K hK=>have op10:=trivial;?_) (AllReadyH.cons rfl (fun K hK=>have op16:=trivial;?_) (AllReadyH.nil)))))
  | fail)
end
section
open Go.RowKit Tr Go.Shelf
theorem write18 (ns:List Nd)(a:Nat)(s:ByteArray)(n:Int)(ks:List Ast):HasW ns 18 a s n ks (fun d=>stT d (.mk 18 a s n ks)):=by
 intro d o w0 w b p len c most v L a' kp kl kc hT hO hw ht hlen hd hb hI hP hmost hfit
 have HEQ:stT d (.mk 18 a s n ks)=lineT d (catT [⟨#[114,111,108,108,98,97,99,107,59]⟩]):=by
  show stF d 18 s n _ _=_
  unfold stF
  rw [nn,nn,nn,nn,nn,nn,nn,nn,nn,nn,nn,if_pos rfl]
  simp only [catT,app_none]
 have hbw:=hP.lt
 have hd7:d≤70000:=by omega
 have LN:Hid (∀w' g,PrW w0 b (.slice p len c) most v L w'→w'.heap[g]?=some (.cells #[.string ⟨#[114,111,108,108,98,97,99,107,59]⟩] 9 (0,0))→Calls Tryz.prog 167 #[.pointer (some ⟨b,0,none⟩),.int .i64 (d:Int),.slice (some ⟨g,0,none⟩) 1 1] w' fun e w''=>e=.returned (.tuple #[])∧∃v',PrW w0 b (.slice p len c) most v' (L++stT d (.mk 18 a s n ks)) w''∧KeepT b w' w''):=lh (fun w' g h1 h2=>by rw [HEQ];exact line_at w0 w' b _ most v L h1 d g 1 [⟨#[114,111,108,108,98,97,99,107,59]⟩] h2 (by simp) hd7 (by omega) (by simp only [catT,ByteArray.size_append];exact Nat.le_trans (show _≤100 by decide) (by decide)))
 have HS:=lh ((hP.on (one_below w (.cells #[.int .u8 18,.int .i64 a',.string s,.int .i64 n,.slice kp kl kc] 54))).on (one_below _ (.cells #[.string ⟨#[114,111,108,108,98,97,99,107,59]⟩] 9)))
 have F:=lh (heap_alloc_new (w.alloc (.cells #[.int .u8 18,.int .i64 a',.string s,.int .i64 n,.slice kp kl kc] 54)) (.cells #[.string ⟨#[114,111,108,108,98,97,99,107,59]⟩] 9))
 show Calls _ _ _ _ (fun e w'=>e=.returned (.tuple #[])∧∃v',PrW w0 b _ most v' (L++stT d (.mk 18 a s n ks)) w')
 generalize stT d (.mk 18 a s n ks)=ST at *
 clear hT hO hw ht hI hP hfit hmost HEQ hd hlen hb hbw
 go_enter Tryz.func99,Tryz.ntmps99
 go_wp2_with (go_at_call 167;(with_reducible refine (LN.out _ _ HS.out (by first|exact F.out|simpa using F.out)).mono ?_);rintro e w5 ⟨rfl,v',HP,HK⟩)
 go_end0
 exact ⟨rfl,v',HP⟩
theorem write19 (ns:List Nd)(a:Nat)(s:ByteArray)(n:Int)(ks:List Ast):HasW ns 19 a s n ks (fun d=>stT d (.mk 19 a s n ks)):=by
 intro d o w0 w b p len c most v L a' kp kl kc hT hO hw ht hlen hd hb hI hP hmost hfit
 have HEQ:stT d (.mk 19 a s n ks)=lineT d (catT [⟨#[99,104,111,112,59]⟩]):=by
  show stF d 19 s n _ _=_
  unfold stF
  rw [nn,nn,nn,nn,nn,nn,nn,nn,nn,nn,nn,nn,if_pos rfl]
  simp only [catT,app_none]
 have hbw:=hP.lt
 have hd7:d≤70000:=by omega
 have LN:Hid (∀w' g,PrW w0 b (.slice p len c) most v L w'→w'.heap[g]?=some (.cells #[.string ⟨#[99,104,111,112,59]⟩] 9 (0,0))→Calls Tryz.prog 167 #[.pointer (some ⟨b,0,none⟩),.int .i64 (d:Int),.slice (some ⟨g,0,none⟩) 1 1] w' fun e w''=>e=.returned (.tuple #[])∧∃v',PrW w0 b (.slice p len c) most v' (L++stT d (.mk 19 a s n ks)) w''∧KeepT b w' w''):=lh (fun w' g h1 h2=>by rw [HEQ];exact line_at w0 w' b _ most v L h1 d g 1 [⟨#[99,104,111,112,59]⟩] h2 (by simp) hd7 (by omega) (by simp only [catT,ByteArray.size_append];exact Nat.le_trans (show _≤100 by decide) (by decide)))
 have HS:=lh ((hP.on (one_below w (.cells #[.int .u8 19,.int .i64 a',.string s,.int .i64 n,.slice kp kl kc] 54))).on (one_below _ (.cells #[.string ⟨#[99,104,111,112,59]⟩] 9)))
 have F:=lh (heap_alloc_new (w.alloc (.cells #[.int .u8 19,.int .i64 a',.string s,.int .i64 n,.slice kp kl kc] 54)) (.cells #[.string ⟨#[99,104,111,112,59]⟩] 9))
 show Calls _ _ _ _ (fun e w'=>e=.returned (.tuple #[])∧∃v',PrW w0 b _ most v' (L++stT d (.mk 19 a s n ks)) w')
 generalize stT d (.mk 19 a s n ks)=ST at *
 clear hT hO hw ht hI hP hfit hmost HEQ hd hlen hb hbw
 go_enter Tryz.func99,Tryz.ntmps99
 go_wp2_with (go_at_call 167;(with_reducible refine (LN.out _ _ HS.out (by first|exact F.out|simpa using F.out)).mono ?_);rintro e w5 ⟨rfl,v',HP,HK⟩)
 go_end0
 exact ⟨rfl,v',HP⟩
end
section
open Go.RowKit Tr Go.Shelf
theorem write13b (ns:List Nd)(a:Nat)(s:ByteArray)(n:Int)(ks:List Ast)(hsh:isR (ks.map Ast.kind) [20]=true):HasW ns 13 a s n ks (fun d=>stT d (.mk 13 a s n ks)):=by
 intro d o w0 w b p len c most v L a' kp kl kc hT hO hw ht hlen hd hb hI hP hmost hfit
 have hkl:ks.length=kl:=by rw [← hI.len_eq,heads_length]
 obtain ⟨x0,rfl,hx0⟩:=sh20 hsh
 obtain rfl:kl=1:=hkl.symm
 obtain ⟨kb,koff,rfl,hkb,hkc⟩:=hI.cell (by omega)
 obtain ⟨q0,hq0,hql0,hO0⟩:=hO.kid 0 (by simp)
 have hg0:=heads_ge [x0] (o+1) 0 (by simp)
 rw [hq0] at hg0
 have c0:w0.cell? ⟨kb,koff,none⟩=some (.int .i64 (q0:Int)):=by have h:=hkc 0 (by omega);rw [hq0] at h;exact h
 have hw0:wfR x0:=hw.kids (j:=0) (by simp)
 have hO0:On ns q0 x0:=hO0
 have HEQ:stT d (.mk 13 a s n [x0])=lineT d (catT [⟨#[114,101,108,101,97,115,101,32]⟩,exT x0,⟨#[59]⟩]):=by
  show stF d 13 s n [exT x0] _=_
  unfold stF
  rw [nn,nn,nn,nn,nn,nn,if_pos rfl]
  simp only [lineT,catT,app_none,app_assoc,List.getD_cons_zero,List.getD_cons_succ]
 have hst:=congrArg ByteArray.size HEQ
 simp only [lineT,catT,ByteArray.size_append] at hst
 dsimp only at hfit
 rw [hst] at hfit
 have hbw:=hP.lt
 have TX0:Hid (∀w' g,PrW w0 b (.slice p len c) most v L w'→w'.heap[g]?=some (.cells #[.int .i64 (q0:Int)] 3 (0,0))→Calls Tryz.prog 64 #[.pointer (some ⟨b,0,none⟩),.slice (some ⟨g,0,none⟩) 1 1] w' fun e w''=>e=.returned (.string (exT x0))∧Below w'.heap.size w' w''):=lh (fun w' g h1 h2=>text_one h1 hb hT ht hlen hO0 (by omega) (Or.inr (by rw [hx0];decide)) hw0 (by omega) g h2)
 have LN:Hid (∀w' g,PrW w0 b (.slice p len c) most v L w'→w'.heap[g]?=some (.cells #[.string (⟨#[114,101,108,101,97,115,101,32]⟩),.string (exT x0),.string ⟨#[59]⟩] 9 (0,0))→Calls Tryz.prog 167 #[.pointer (some ⟨b,0,none⟩),.int .i64 (d:Int),.slice (some ⟨g,0,none⟩) 3 3] w' fun e w''=>e=.returned (.tuple #[])∧∃v',PrW w0 b (.slice p len c) most v' (L++stT d (.mk 13 a s n [x0])) w''∧KeepT b w' w''):=lh (fun w' g h1 h2=>by rw [HEQ];exact line_at w0 w' b _ most v L h1 d g 3 [⟨#[114,101,108,101,97,115,101,32]⟩,exT x0,⟨#[59]⟩] h2 (by simp) (by simp only [Ast.size,sizeL] at hd;omega) (by omega) (by simp only [catT,ByteArray.size_append];omega))
 have HB:Hid (Below b w0 (w.alloc (.cells #[.int .u8 13,.int .i64 a',.string s,.int .i64 n,.slice (some ⟨kb,koff,none⟩) 1 kc] 54))∧(w.alloc (.cells #[.int .u8 13,.int .i64 a',.string s,.int .i64 n,.slice (some ⟨kb,koff,none⟩) 1 kc] 54)).heap[w.heap.size]?=some (.cells #[.int .u8 13,.int .i64 a',.string s,.int .i64 n,.slice (some ⟨kb,koff,none⟩) 1 kc] 54 (0,0))):=lh ⟨(hP.on (one_below w _)).below,heap_alloc_new w _⟩
 have HS:=lh (hP.on (one_below w (.cells #[.int .u8 13,.int .i64 a',.string s,.int .i64 n,.slice (some ⟨kb,koff,none⟩) 1 kc] 54)))
 have hgb:¬ w.heap.size=b:=by omega
 have hkb2:kb<b:=by omega
 have HC0:=ckH hkb2 c0
 show Calls _ _ _ _ (fun e w'=>e=.returned (.tuple #[])∧∃v',PrW w0 b _ most v' (L++stT d (.mk 13 a s n [x0])) w')
 generalize stT d (.mk 13 a s n [x0])=ST at *
 clear hT hO hw ht hI hP hfit hmost hst HEQ hkc hkl hsh hd hlen hb hbw hkb hkb2 hq0 hql0 hO0 hg0 c0 hw0 hx0
 go_enter Tryz.func99,Tryz.ntmps99
 have d0:=HC0.out _ HB.out.1
 have hb9:=one_below (w.alloc (.cells #[.int .u8 13,.int .i64 a',.string s,.int .i64 n,.slice (some ⟨kb,koff,none⟩) 1 kc] 54)) (.cells #[.int .i64 (q0:Int)] 3)
 have HS3:=lh (HS.out.on hb9)
 have F3:=lh (heap_alloc_new (w.alloc (.cells #[.int .u8 13,.int .i64 a',.string s,.int .i64 n,.slice (some ⟨kb,koff,none⟩) 1 kc] 54)) (.cells #[.int .i64 (q0:Int)] 3))
 clear hb9
 go_wp2_with (first|(go_at_call 64;(with_reducible refine (TX0.out _ _ HS3.out (by first|exact F3.out|simpa using F3.out)).mono ?_);rintro e w3 ⟨rfl,hb3⟩;have HS4:=lh ((HS3.out.on hb3).on (one_below w3 (.cells #[.string (⟨#[114,101,108,101,97,115,101,32]⟩),.string (exT x0),.string ⟨#[59]⟩] 9)));have F4:=lh (heap_alloc_new w3 (.cells #[.string (⟨#[114,101,108,101,97,115,101,32]⟩),.string (exT x0),.string ⟨#[59]⟩] 9));clear hb3)|(go_at_call 167;(with_reducible refine (LN.out _ _ HS4.out (by first|exact F4.out|simpa using F4.out)).mono ?_);rintro e w5 ⟨rfl,v',HP,HK⟩))
 go_end0
 exact ⟨rfl,v',HP⟩
end
section
open Go.RowKit Tr Go.Shelf
theorem text_allW {w0 w:World}{b:Nat}{p:Option Addr}{len c:Nat}{most:Int}{v:Value}{L:ByteArray}{ns:List Nd}(hP:PrW w0 b (.slice p len c) most v L w)(hb:b=w0.heap.size)(hT:TV w0 p len c ns)(ht:PT10 w0)(hlen:len≤70000)
 {kp:Option Addr} {kl kc:Nat} {l:List Int} {ks:List Ast} (hI:IntsW w0.heap.size w0 (.slice kp kl kc) l) (hX:TxL ns l ks) (hS:sizeL ks≤70000) (hm:((joinT (ks.map exT)).size:Int)≤most) :
 Calls Tryz.prog 64 #[.pointer (some ⟨b,0,none⟩),.slice kp kl kc] w fun e w'=>e=.returned (.string (joinT (ks.map exT)))∧Below w.heap.size w w':=by
 subst hb
 have hI2:IntsW w.heap.size w (.slice kp kl kc) l:=by
  rcases hI.below hP.below with ⟨a,c,h1,h2⟩|⟨g,off,cap,h1,h2,h3⟩
  · exact .inl ⟨a,c,h1,h2⟩
  · exact .inr ⟨g,off,cap,h1,Nat.lt_of_lt_of_le h2 hP.below.size,h3⟩
 exact text_at w w0.heap.size p len c ns most kp kl kc l ks hP.cell.1 hP.cell.2.1 (hT.on hP.below) hI2 hX hS hlen (ht.below hP.below) hm
theorem write9 (ns:List Nd)(a:Nat)(s:ByteArray)(n:Int)(x0:Ast)(xs:List Ast)(hx0:x0.kind=20)(hxs:∀x∈xs,isExprK x.kind=true)(hne:0<xs.length):HasW ns 9 a s n (x0::xs) (fun d=>stT d (.mk 9 a s n (x0::xs))):=by
 intro d o w0 w b p len c most v L a' kp kl kc hT hO hw ht hlen hd hb hI hP hmost hfit
 have hkl:(x0::xs).length=kl:=by rw [← hI.len_eq,heads_length]
 rw [List.length_cons] at hkl
 have hcap:=hI.cap
 obtain ⟨kb,koff,rfl,hkb,hkc⟩:=hI.cell (by omega)
 obtain ⟨q0,hq0,hql0,hO0⟩:=hO.kid 0 (by simp)
 have hg0:=heads_ge (x0::xs) (o+1) 0 (by simp)
 rw [hq0] at hg0
 have c0:w0.cell? ⟨kb,koff,none⟩=some (.int .i64 (q0:Int)):=by have h:=hkc 0 (by omega);rw [hq0] at h;exact h
 have hw0:wfR x0:=hw.kids (j:=0) (by simp)
 have hO0:On ns q0 x0:=hO0
 obtain ⟨TS,hTS⟩:∃TS,joinT (xs.map exT)=TS:=⟨_,rfl⟩
 have HEQ:stT d (.mk 9 a s n (x0::xs))=lineT d (catT [⟨#[112,117,116,32]⟩,exT x0,⟨#[40]⟩,TS,⟨#[41,59]⟩]):=by
  show stF d 9 s n (exT x0::xs.map exT) _=_
  unfold stF
  rw [nn,nn,if_pos rfl]
  simp only [lineT,catT,app_none,app_assoc,List.getD_cons_zero,List.drop_succ_cons,List.drop_zero,hTS]
 have hst:=congrArg ByteArray.size HEQ
 simp only [lineT,catT,ByteArray.size_append] at hst
 dsimp only at hfit
 rw [hst] at hfit
 have hbw:=hP.lt
 have TX0:Hid (∀w' g,PrW w0 b (.slice p len c) most v L w'→w'.heap[g]?=some (.cells #[.int .i64 (q0:Int)] 3 (0,0))→Calls Tryz.prog 64 #[.pointer (some ⟨b,0,none⟩),.slice (some ⟨g,0,none⟩) 1 1] w' fun e w''=>e=.returned (.string (exT x0))∧Below w'.heap.size w' w''):=lh (fun w' g h1 h2=>text_one h1 hb hT ht hlen hO0 (by omega) (Or.inr (by rw [hx0];decide)) hw0 (by omega) g h2)
 have hwr:wfRL xs:=hw.2.2
 have hXS:TxL ns ((heads (o+1) (x0::xs)).drop 1) xs:=⟨⟨by simp [heads,heads_length],fun j hj=>by
  obtain ⟨q,h1,h2,h3⟩:=hO.kid (j+1) (by simpa using hj)
  refine ⟨q,?_,h2,by simpa using h3⟩
  rw [← h1]
  simp [List.getD,List.getElem?_drop,Nat.add_comm]⟩,fun j hj=>by
  have hj2:j+1<(x0::xs).length:=by simp [heads_length] at hj ⊢;simpa [heads,heads_length] using hj
  have h1:=heads_ge (x0::xs) (o+1) (j+1) hj2
  have h2:((heads (o+1) (x0::xs)).drop 1).getD j 0=(heads (o+1) (x0::xs)).getD (j+1) 0:=by simp [List.getD,List.getElem?_drop,Nat.add_comm]
  rw [h2]
  omega,fun x hx=>⟨isTx_expr (hxs x hx),wfRL_mem hwr x hx⟩⟩
 have hIS:∀kc',IntsW w0.heap.size w0 (.slice (some ⟨kb,koff+1,none⟩) (kl-1) kc') ((heads (o+1) (x0::xs)).drop 1):=fun kc'=>.inr ⟨kb,koff+1,kc',by rw [show ((heads (o+1) (x0::xs)).drop 1).length=kl-1 by rw [List.length_drop,heads_length,List.length_cons];omega],hkb,fun j hj=>by
  rw [List.length_drop,heads_length,List.length_cons] at hj
  rw [show koff+1+j=koff+(j+1) by omega,hkc (j+1) (by omega)]
  simp [List.getD,List.getElem?_drop,Nat.add_comm]⟩
 have TXS:Hid (∀w' kc',PrW w0 b (.slice p len c) most v L w'→Calls Tryz.prog 64 #[.pointer (some ⟨b,0,none⟩),.slice (some ⟨kb,koff+1,none⟩) (kl-1) kc'] w' fun e w''=>e=.returned (.string TS)∧Below w'.heap.size w' w''):=lh (fun w' kc' h1=>by rw [← hTS];exact text_allW h1 hb hT ht hlen (hIS kc') hXS (by simp only [Ast.size,sizeL] at hd;omega) (by rw [hTS];omega))
 have LN:Hid (∀w' g,PrW w0 b (.slice p len c) most v L w'→w'.heap[g]?=some (.cells #[.string (⟨#[112,117,116,32]⟩),.string (exT x0),.string ⟨#[40]⟩,.string TS,.string (⟨#[41,59]⟩)] 9 (0,0))→Calls Tryz.prog 167 #[.pointer (some ⟨b,0,none⟩),.int .i64 (d:Int),.slice (some ⟨g,0,none⟩) 5 5] w' fun e w''=>e=.returned (.tuple #[])∧∃v',PrW w0 b (.slice p len c) most v' (L++stT d (.mk 9 a s n (x0::xs))) w''∧KeepT b w' w''):=lh (fun w' g h1 h2=>by rw [HEQ];exact line_at w0 w' b _ most v L h1 d g 5 [⟨#[112,117,116,32]⟩,exT x0,⟨#[40]⟩,TS,⟨#[41,59]⟩] h2 (by simp) (by simp only [Ast.size,sizeL] at hd;omega) (by omega) (by simp only [catT,ByteArray.size_append];omega))
 have HB:Hid (Below b w0 (w.alloc (.cells #[.int .u8 9,.int .i64 a',.string s,.int .i64 n,.slice (some ⟨kb,koff,none⟩) kl kc] 54))∧(w.alloc (.cells #[.int .u8 9,.int .i64 a',.string s,.int .i64 n,.slice (some ⟨kb,koff,none⟩) kl kc] 54)).heap[w.heap.size]?=some (.cells #[.int .u8 9,.int .i64 a',.string s,.int .i64 n,.slice (some ⟨kb,koff,none⟩) kl kc] 54 (0,0))):=lh ⟨(hP.on (one_below w _)).below,heap_alloc_new w _⟩
 have HS:=lh (hP.on (one_below w (.cells #[.int .u8 9,.int .i64 a',.string s,.int .i64 n,.slice (some ⟨kb,koff,none⟩) kl kc] 54)))
 have hgb:¬ w.heap.size=b:=by omega
 have hkb2:kb<b:=by omega
 have HC0:=ckH hkb2 c0
 show Calls _ _ _ _ (fun e w'=>e=.returned (.tuple #[])∧∃v',PrW w0 b _ most v' (L++stT d (.mk 9 a s n (x0::xs))) w')
 generalize stT d (.mk 9 a s n (x0::xs))=ST at *
 clear hwr hXS hIS hTS hxs
 have h1kl:1≤kl:=by omega
 have hx4:0<kl:=by omega
 have hx5:¬ kc=1:=by omega
 have hx2:(1:Int)≤(kl:Int):=by omega
 have hx3:(kl:Int)≤(kc:Int):=by omega
 clear hT hO hw ht hI hP hfit hmost hst HEQ hkc hkl hd hne hlen hb hbw hkb hkb2 hq0 hql0 hO0 hg0 c0 hw0 hx0
 go_enter Tryz.func99,Tryz.ntmps99
 have d0:=HC0.out _ HB.out.1
 go_wp2_with fail
 clear d0
 generalize w.alloc (.cells #[.int .u8 9,.int .i64 a',.string s,.int .i64 n,.slice (some ⟨kb,koff,none⟩) kl kc] 54)=W1 at *
 generalize w.heap.size=g0 at *
 have HF:Hid (∀w':World,w'.heap[g0]?=some (.cells #[.int .u8 9,.int .i64 a',.string s,.int .i64 n,.slice (some ⟨kb,koff,none⟩) kl kc] 54 (0,0))→w'.cell? ⟨g0,2,none⟩=some (.string s)∧w'.cell? ⟨g0,3,none⟩=some (.int .i64 n)):=lh (fun w' h=>⟨by rw [cell_of_row _ _ _ _ _ _ h];rfl,by rw [cell_of_row _ _ _ _ _ _ h];rfl⟩)
 refine wp_region_held_drew (S:=fun w'=>Below b w0 w'∧w'.heap[g0]?=some (.cells #[.int .u8 9,.int .i64 a',.string s,.int .i64 n,.slice (some ⟨kb,koff,none⟩) kl kc] 54 (0,0))) (by kernel_rfl) ⟨HB.out.1.drew,HB.out.2⟩ (fun hHeld=>?_)
 have HS:=lh (HS.out.on (drew_on W1))
 have HB:=lh hHeld
 generalize W1.drew=W2 at *
 clear hHeld
 refine tn 0 HB.out ?_
 (try simp only [pn])
 refine tn 1 HB.out ?_
 (try simp only [pn])
 refine tn 2 HB.out ?_
 (try simp only [pn])
 refine tn 3 HB.out ?_
 (try simp only [pn])
 refine tn 4 HB.out ?_
 (try simp only [pn])
 refine tk (i:=5) (v:=?_) rfl HB.out ?_ ?_
 rotate_left
 · (intro w' hSw;have hb9:=hSw.1;have h9:=HF.out _ hSw.2;obtain ⟨f9,e9⟩:=h9;have d0:=HC0.out _ hb9;clear hSw hb9;go_simp;try with_reducible rfl)
 (try simp only [pn])
 refine tn 8 HB.out ?_
 (try simp only [pn])
 refine tn 9 HB.out ?_
 (try simp only [pn])
 refine tn 10 HB.out ?_
 (try simp only [pn])
 refine wpAnyH_ready (rs:=[6]) (by kernel_rfl) (by simp) ?_
 refine AllReadyH.cons rfl (fun K hK=>?_) (AllReadyH.nil)
 · skip
   go_simp
   have hb9:=one_below W2 (.cells #[.int .i64 (q0:Int)] 3)
   have HS:=lh (HS.out.on hb9)
   have HB:=lh (And.intro HS.out.below (on_row hb9 HB.out.2))
   have F6:=lh (heap_alloc_new W2 (.cells #[.int .i64 (q0:Int)] 3))
   clear hb9
   refine hK.out _ _ HB.out (fun hHeld=>?_)
   clear hK K hHeld
   (try simp only [pn])
   generalize W2.heap.size=g16 at *
   generalize W2.alloc (.cells #[.int .i64 (q0:Int)] 3)=W3 at *
   refine wpAnyH_ready (rs:=[7]) (by kernel_rfl) (by simp) ?_
   refine AllReadyH.cons rfl (fun K hK=>?_) (AllReadyH.nil)
   · skip
     go_simp
     go_at_call 64
     (with_reducible refine (TX0.out W3 g16 HS.out F6.out).mono ?_)
     rintro e W4 ⟨rfl,hb9⟩
     clear F6
     have HS:=lh (HS.out.on hb9)
     have HB:=lh (And.intro HS.out.below (on_row hb9 HB.out.2))
     clear hb9
     go_simp
     refine hK.out _ _ HB.out (fun hHeld=>?_)
     clear hK K hHeld
     (try simp only [pn])
     refine wpAnyH_ready (rs:=[11]) (by kernel_rfl) (by simp) ?_
     refine AllReadyH.cons rfl (fun K hK=>?_) (AllReadyH.nil)
     · skip
       go_simp
       go_at_call 64
       (with_reducible refine (TXS.out W4 _ HS.out).mono ?_)
       rintro e W5 ⟨rfl,hb9⟩
       have HS:=lh (HS.out.on hb9)
       have HB:=lh (And.intro HS.out.below (on_row hb9 HB.out.2))
       clear hb9
       go_simp
       refine hK.out _ _ HB.out (fun hHeld=>?_)
       clear hK K hHeld
       (try simp only [pn])
       refine wpAnyH_ready (rs:=[12]) (by kernel_rfl) (by simp) ?_
       refine AllReadyH.cons rfl (fun K hK=>?_) (AllReadyH.nil)
       · skip
         go_simp
         have hb9:=one_below W5 (.cells #[.string (⟨#[112,117,116,32]⟩),.string (exT x0),.string ⟨#[40]⟩,.string TS,.string (⟨#[41,59]⟩)] 9)
         have HS:=lh (HS.out.on hb9)
         have HB:=lh (And.intro HS.out.below (on_row hb9 HB.out.2))
         have F12:=lh (heap_alloc_new W5 (.cells #[.string (⟨#[112,117,116,32]⟩),.string (exT x0),.string ⟨#[40]⟩,.string TS,.string (⟨#[41,59]⟩)] 9))
         clear hb9
         refine hK.out _ _ HB.out (fun hHeld=>?_)
         clear hK K hHeld
         (try simp only [pn])
         generalize W5.heap.size=g22 at *
         generalize W5.alloc (.cells #[.string (⟨#[112,117,116,32]⟩),.string (exT x0),.string ⟨#[40]⟩,.string TS,.string (⟨#[41,59]⟩)] 9)=W6 at *
         refine wpAnyH_ready (rs:=[13]) (by kernel_rfl) (by simp) ?_
         refine AllReadyH.cons rfl (fun K hK=>?_) (AllReadyH.nil)
         · skip
           go_simp
           go_at_call 167
           (with_reducible refine (LN.out W6 g22 HS.out F12.out).mono ?_)
           rintro e W7 ⟨rfl,v',HP,HK⟩
           have HP:=lh HP
           have HB:=lh (And.intro HP.out.below (HK _ _ _ _ HB.out.2 (by decide) hgb))
           clear HK
           go_simp
           refine hK.out _ _ HB.out (fun hHeld=>?_)
           clear hK K hHeld
           (try simp only [pn])
           refine wpAnyH_done (by kernel_rfl) ?_ _
           go_wp2_with fail
           go_end0
           exact ⟨rfl,v',HP.out⟩
end
section
open Go.RowKit Tr Go.Shelf
def partD (d:Nat):Ast→ByteArray
 | .mk k _ t n ks=>if k=2 then lineT d (catT [⟨#[116,97,98,108,101,32]⟩,t,⟨#[40]⟩,joinT (ks.map exT),⟨#[41,59]⟩])
  else match ks with
   | [a,b]=>lineT d (catT [⟨#[112,114,111,99,32]⟩,t,⟨#[40]⟩,joinT (a.kids.map exT),⟨#[41]⟩,(if n=1 then ⟨#[32,115,105,110,103,108,101]⟩ else ⟨#[]⟩),⟨#[32,123]⟩])++blT (d+1) b++lineT d (catT [⟨#[125]⟩])
   | _=>none0
theorem partD_zero (x:Ast):partD 0 x=partT x:=by
 cases x with
 | mk k a t n ks =>
  unfold partD partT;dsimp only
  by_cases h:k=2
  · rw [if_pos h,if_pos h]
    simp only [catT,app_none,namesOf,app_assoc]
  · rw [if_neg h,if_neg h]
    rcases ks with _|⟨a',_|⟨b',_|⟨c',r⟩⟩⟩
    · rfl
    · rfl
    · simp only [catT,app_none,namesOf,app_assoc]
    · rfl
theorem progL_cat (ks:List Ast):progL ks=catF partD 0 ks:=by
 induction ks with
 | nil=>rfl
 | cons x r ih =>
  show partT x++progL r=partD 0 x++catF partD 0 r
  rw [ih,partD_zero]
theorem stL_cat (d:Nat)(ks:List Ast):stL d ks=catF stT d ks:=by
 induction ks with
 | nil=>rfl
 | cons x r ih =>
  show stT d x++stL d r=stT d x++catF stT d r
  rw [ih]
theorem write2 (ns:List Nd)(a:Nat)(s:ByteArray)(n:Int)(ks:List Ast)(hks:∀x∈ks,x.kind=5):HasW ns 2 a s n ks (fun d=>partD d (.mk 2 a s n ks)):=by
 intro d o w0 w b p len c most v L a' kp kl kc hT hO hw ht hlen hd hb hI hP hmost hfit
 obtain ⟨TS,hTS⟩:∃TS,joinT (ks.map exT)=TS:=⟨_,rfl⟩
 have HEQ:partD d (.mk 2 a s n ks)=lineT d (catT [⟨#[116,97,98,108,101,32]⟩,s,⟨#[40]⟩,TS,⟨#[41,59]⟩]):=by
  rw [← hTS]
  unfold partD;dsimp only
  rw [if_pos rfl]
 have hst:=congrArg ByteArray.size HEQ
 simp only [lineT,catT,ByteArray.size_append] at hst
 dsimp only at hfit
 rw [hst] at hfit
 have hbw:=hP.lt
 have hwr:wfRL ks:=hw.2
 have hXS:TxL ns (heads (o+1) ks) ks:=⟨hO.kids,fun j hj=>by
  rw [heads_length] at hj
  have h1:=heads_ge ks (o+1) j hj
  omega,fun x hx=>⟨Or.inl (hks x hx),wfRL_mem hwr x hx⟩⟩
 have TXS:Hid (∀w',PrW w0 b (.slice p len c) most v L w'→Calls Tryz.prog 64 #[.pointer (some ⟨b,0,none⟩),.slice kp kl kc] w' fun e w''=>e=.returned (.string TS)∧Below w'.heap.size w' w''):=lh (fun w' h1=>by rw [← hTS];exact text_all h1 hb hT ht hlen hI hXS (by simp only [Ast.size] at hd;omega) (by rw [hTS];omega))
 have LN:Hid (∀w' g,PrW w0 b (.slice p len c) most v L w'→w'.heap[g]?=some (.cells #[.string (⟨#[116,97,98,108,101,32]⟩),.string s,.string ⟨#[40]⟩,.string TS,.string (⟨#[41,59]⟩)] 9 (0,0))→Calls Tryz.prog 167 #[.pointer (some ⟨b,0,none⟩),.int .i64 (d:Int),.slice (some ⟨g,0,none⟩) 5 5] w' fun e w''=>e=.returned (.tuple #[])∧∃v',PrW w0 b (.slice p len c) most v' (L++partD d (.mk 2 a s n ks)) w''∧KeepT b w' w''):=lh (fun w' g h1 h2=>by rw [HEQ];exact line_at w0 w' b _ most v L h1 d g 5 [⟨#[116,97,98,108,101,32]⟩,s,⟨#[40]⟩,TS,⟨#[41,59]⟩] h2 (by simp) (by omega) (by omega) (by simp only [catT,ByteArray.size_append];omega))
 have HB:Hid (Below b w0 (w.alloc (.cells #[.int .u8 2,.int .i64 a',.string s,.int .i64 n,.slice kp kl kc] 54))∧(w.alloc (.cells #[.int .u8 2,.int .i64 a',.string s,.int .i64 n,.slice kp kl kc] 54)).heap[w.heap.size]?=some (.cells #[.int .u8 2,.int .i64 a',.string s,.int .i64 n,.slice kp kl kc] 54 (0,0))):=lh ⟨(hP.on (one_below w _)).below,heap_alloc_new w _⟩
 have HS:=lh (hP.on (one_below w (.cells #[.int .u8 2,.int .i64 a',.string s,.int .i64 n,.slice kp kl kc] 54)))
 have hgb:¬ w.heap.size=b:=by omega
 show Calls _ _ _ _ (fun e w'=>e=.returned (.tuple #[])∧∃v',PrW w0 b _ most v' (L++partD d (.mk 2 a s n ks)) w')
 generalize partD d (.mk 2 a s n ks)=ST at *
 clear hwr hXS hTS hks
 clear hT hO hw ht hI hP hfit hmost hst HEQ hd hlen hb hbw
 go_enter Tryz.func99,Tryz.ntmps99
 go_wp2_with fail
 generalize w.alloc (.cells #[.int .u8 2,.int .i64 a',.string s,.int .i64 n,.slice kp kl kc] 54)=W1 at *
 generalize w.heap.size=g0 at *
 have HF:Hid (∀w':World,w'.heap[g0]?=some (.cells #[.int .u8 2,.int .i64 a',.string s,.int .i64 n,.slice kp kl kc] 54 (0,0))→w'.cell? ⟨g0,2,none⟩=some (.string s)∧w'.cell? ⟨g0,3,none⟩=some (.int .i64 n)):=lh (fun w' h=>⟨by rw [cell_of_row _ _ _ _ _ _ h];rfl,by rw [cell_of_row _ _ _ _ _ _ h];rfl⟩)
 refine wp_region_held_drew (S:=fun w'=>Below b w0 w'∧w'.heap[g0]?=some (.cells #[.int .u8 2,.int .i64 a',.string s,.int .i64 n,.slice kp kl kc] 54 (0,0))) (by kernel_rfl) ⟨HB.out.1.drew,HB.out.2⟩ (fun hHeld=>?_)
 have HS:=lh (HS.out.on (drew_on W1))
 have HB:=lh hHeld
 generalize W1.drew=W2 at *
 clear hHeld
 refine tn 0 HB.out ?_
 (try simp only [pn])
 refine tn 1 HB.out ?_
 (try simp only [pn])
 refine tn 2 HB.out ?_
 (try simp only [pn])
 refine tk (i:=3) (v:=?_) rfl HB.out ?_ ?_
 rotate_left
 · (intro w' hSw;have h9:=HF.out _ hSw.2;obtain ⟨f9,e9⟩:=h9;clear hSw;go_simp;try with_reducible rfl)
 (try simp only [pn])
 refine tn 4 HB.out ?_
 (try simp only [pn])
 refine tn 5 HB.out ?_
 (try simp only [pn])
 refine wpAnyH_ready (rs:=[6]) (by kernel_rfl) (by simp) ?_
 refine AllReadyH.cons rfl (fun K hK=>?_) (AllReadyH.nil)
 · skip
   go_simp
   go_at_call 64
   (with_reducible refine (TXS.out W2 HS.out).mono ?_)
   rintro e W3 ⟨rfl,hb9⟩
   have HS:=lh (HS.out.on hb9)
   have HB:=lh (And.intro HS.out.below (on_row hb9 HB.out.2))
   clear hb9
   go_simp
   refine hK.out _ _ HB.out (fun hHeld=>?_)
   clear hK K hHeld
   (try simp only [pn])
   refine wpAnyH_ready (rs:=[7]) (by kernel_rfl) (by simp) ?_
   refine AllReadyH.cons rfl (fun K hK=>?_) (AllReadyH.nil)
   · skip
     go_simp
     have hb9:=one_below W3 (.cells #[.string (⟨#[116,97,98,108,101,32]⟩),.string s,.string ⟨#[40]⟩,.string TS,.string (⟨#[41,59]⟩)] 9)
     have HS:=lh (HS.out.on hb9)
     have HB:=lh (And.intro HS.out.below (on_row hb9 HB.out.2))
     have F7:=lh (heap_alloc_new W3 (.cells #[.string (⟨#[116,97,98,108,101,32]⟩),.string s,.string ⟨#[40]⟩,.string TS,.string (⟨#[41,59]⟩)] 9))
     clear hb9
     refine hK.out _ _ HB.out (fun hHeld=>?_)
     clear hK K hHeld
     (try simp only [pn])
     generalize W3.heap.size=g17 at *
     generalize W3.alloc (.cells #[.string (⟨#[116,97,98,108,101,32]⟩),.string s,.string ⟨#[40]⟩,.string TS,.string (⟨#[41,59]⟩)] 9)=W4 at *
     refine wpAnyH_ready (rs:=[8]) (by kernel_rfl) (by simp) ?_
     refine AllReadyH.cons rfl (fun K hK=>?_) (AllReadyH.nil)
     · skip
       go_simp
       go_at_call 167
       (with_reducible refine (LN.out W4 g17 HS.out F7.out).mono ?_)
       rintro e W5 ⟨rfl,v',HP,HK⟩
       have HP:=lh HP
       have HB:=lh (And.intro HP.out.below (HK _ _ _ _ HB.out.2 (by decide) hgb))
       clear HK
       go_simp
       refine hK.out _ _ HB.out (fun hHeld=>?_)
       clear hK K hHeld
       (try simp only [pn])
       refine wpAnyH_done (by kernel_rfl) ?_ _
       go_wp2_with fail
       go_end0
       exact ⟨rfl,v',HP.out⟩
end
section
open Go.RowKit Tr Go.Shelf
theorem write3 (ns:List Nd)(a:Nat)(s:ByteArray)(n:Int)(x0 x1:Ast)(hx0:∀x∈x0.kids,x.kind=5)(hx1:x1.kind=6)(ih:HasAl ns x1):HasW ns 3 a s n [x0,x1] (fun d=>partD d (.mk 3 a s n [x0,x1])):=by
 intro d o w0 w b p len c most v L a' kp kl kc hT hO hw ht hlen hd hb hI hP hmost hfit
 have hkl:2=kl:=by rw [← hI.len_eq,heads_length];rfl
 obtain rfl:kl=2:=hkl.symm
 obtain ⟨kb,koff,rfl,hkb,hkc⟩:=hI.cell (by omega)
 obtain ⟨q0,hq0,hql0,hO0⟩:=hO.kid 0 (by simp)
 have hg0:=heads_ge [x0,x1] (o+1) 0 (by simp)
 rw [hq0] at hg0
 have c0:w0.cell? ⟨kb,koff,none⟩=some (.int .i64 (q0:Int)):=by have h:=hkc 0 (by omega);rw [hq0] at h;exact h
 have hw0:wfR x0:=hw.kids (j:=0) (by simp)
 have hO0:On ns q0 x0:=hO0
 obtain ⟨q1,hq1,hql1,hO1⟩:=hO.kid 1 (by simp)
 have hg1:=heads_ge [x0,x1] (o+1) 1 (by simp)
 rw [hq1] at hg1
 have c1:w0.cell? ⟨kb,koff+1,none⟩=some (.int .i64 (q1:Int)):=by have h:=hkc 1 (by omega);rw [hq1] at h;exact h
 have hw1:wfR x1:=hw.kids (j:=1) (by simp)
 have hO1:On ns q1 x1:=hO1
 obtain ⟨EI,hEI⟩:∃EI,(if n=1 then (⟨#[32,115,105,110,103,108,101]⟩:ByteArray) else ⟨#[]⟩)=EI:=⟨_,rfl⟩
 have hn01:n=0∨n=1:=by have h1:=hw.parts.2.1;have h2:mostR 3=1:=(by decide);rw [h2] at h1;omega
 obtain ⟨TS,hTS⟩:∃TS,joinT (x0.kids.map exT)=TS:=⟨_,rfl⟩
 obtain ⟨A1,hA1⟩:∃A1,lineT d (catT [⟨#[112,114,111,99,32]⟩,s,⟨#[40]⟩,TS,⟨#[41]⟩,EI,⟨#[32,123]⟩])=A1:=⟨_,rfl⟩
 obtain ⟨E1,hE1⟩:∃E1,lineT d (catT [⟨#[125]⟩])=E1:=⟨_,rfl⟩
 have HEQ:partD d (.mk 3 a s n [x0,x1])=A1++blT (d+1) x1++E1:=by
  rw [← hA1,← hE1]
  rw [← hTS,← hEI]
  rfl
 have hs1:=congrArg ByteArray.size hA1
 simp only [lineT,catT,ByteArray.size_append] at hs1
 have hst:=congrArg ByteArray.size HEQ
 simp only [ByteArray.size_append] at hst
 dsimp only at hfit
 rw [hst] at hfit
 have hbw:=hP.lt
 have PK:Hid (∀w' g,w'.heap[g]?=some (.cells #[.string ⟨#[]⟩,.string ⟨#[32,115,105,110,103,108,101]⟩] 9 (0,0))→Calls Tryz.prog 168 #[.int .i64 n,.slice (some ⟨g,0,none⟩) 2 2] w' fun e w''=>e=.returned (.string EI)∧Below w'.heap.size w' w''):=lh (fun w' g h=>by rw [← hEI];exact pick_row w' n g _ _ h hn01)
 obtain ⟨k0',a0',s0',n0',ks0⟩:=x0
 simp only [Ast.kids] at hTS hx0
 obtain ⟨qa,hqn⟩:=hO0.node
 have hlen2:=hT.len_eq
 obtain ⟨nb,off,rfl,hbl,hnc⟩:=hT.node (by omega)
 obtain ⟨np,nl,nc,hqc⟩:=hnc q0 (by omega)
 rw [hqn] at hqc
 have hIn:IV w0 np nl nc (heads (q0+1) ks0):=hqc.iv
 have hcn:w0.cell? ⟨nb,off+q0*5+4,none⟩=some (.slice np nl nc):=hqc.kids
 have hXS:TxL ns (heads (q0+1) ks0) ks0:=⟨hO0.kids,fun j hj=>by
  rw [heads_length] at hj
  have h1:=heads_ge ks0 (q0+1) j hj
  omega,fun x hx=>⟨Or.inl (hx0 x hx),wfRL_mem hw0.2 x hx⟩⟩
 have TXS:Hid (∀w',PrW w0 b (.slice (some ⟨nb,off,none⟩) len c) most v L w'→Calls Tryz.prog 64 #[.pointer (some ⟨b,0,none⟩),.slice np nl nc] w' fun e w''=>e=.returned (.string TS)∧Below w'.heap.size w' w''):=lh (fun w' h1=>by rw [← hTS];exact text_all h1 hb hT ht hlen hIn hXS (by simp only [Ast.size,sizeL] at hd;omega) (by rw [hTS];omega))
 have LN:Hid (∀w' g,PrW w0 b (.slice (some ⟨nb,off,none⟩) len c) most v L w'→w'.heap[g]?=some (.cells #[.string (⟨#[112,114,111,99,32]⟩),.string s,.string ⟨#[40]⟩,.string TS,.string ⟨#[41]⟩,.string EI,.string (⟨#[32,123]⟩)] 9 (0,0))→Calls Tryz.prog 167 #[.pointer (some ⟨b,0,none⟩),.int .i64 (d:Int),.slice (some ⟨g,0,none⟩) 7 7] w' fun e w''=>e=.returned (.tuple #[])∧∃v',PrW w0 b (.slice (some ⟨nb,off,none⟩) len c) most v' (L++A1) w''∧KeepT b w' w''):=lh (fun w' g h1 h2=>by rw [← hA1];exact line_at w0 w' b _ most v L h1 d g 7 [⟨#[112,114,111,99,32]⟩,s,⟨#[40]⟩,TS,⟨#[41]⟩,EI,⟨#[32,123]⟩] h2 (by simp) (by simp only [Ast.size,sizeL] at hd;omega) (by omega) (by simp only [catT,ByteArray.size_append];omega))
 have AL1:Hid (∀w' v' L',PrW w0 b (.slice (some ⟨nb,off,none⟩) len c) most v' L' w'→((L'.size+(blT (d+1) x1).size:Nat):Int)≤most→Calls Tryz.prog 54 #[.pointer (some ⟨b,0,none⟩),.int .i64 (q1:Int),.int .i64 ((d:Int)+1)] w' fun e w''=>e=.returned (.tuple #[])∧∃v2,PrW w0 b (.slice (some ⟨nb,off,none⟩) len c) most v2 (L'++blT (d+1) x1) w''):=lh (fun w' v' L' h1 h2=>ih (d+1) q1 w0 w' b _ len c most v' L' hT hO1 hw1 ht hlen (by simp only [Ast.size,sizeL] at hd;omega) hb h1 hmost h2)
 have LN1:Hid (∀w' g v' L',PrW w0 b (.slice (some ⟨nb,off,none⟩) len c) most v' L' w'→L'.size≤1000000000→w'.heap[g]?=some (.cells #[.string ⟨#[125]⟩] 9 (0,0))→Calls Tryz.prog 167 #[.pointer (some ⟨b,0,none⟩),.int .i64 (d:Int),.slice (some ⟨g,0,none⟩) 1 1] w' fun e w''=>e=.returned (.tuple #[])∧∃v2,PrW w0 b (.slice (some ⟨nb,off,none⟩) len c) most v2 (L'++E1) w''):=lh (fun w' g v' L' h1 h3 h2=>by rw [← hE1];exact (line_at w0 w' b _ most v' L' h1 d g 1 [⟨#[125]⟩] h2 (by simp) (by simp only [Ast.size,sizeL] at hd;omega) h3 (by show (ByteArray.size _)≤_;simp only [catT,ByteArray.size_append];exact Nat.le_trans (show _≤100 by decide) (by decide))).mono fun e w'' ⟨e1,v2,h4,_⟩=>⟨e1,v2,h4⟩)
 have HB:Hid (Below b w0 (w.alloc (.cells #[.int .u8 3,.int .i64 a',.string s,.int .i64 n,.slice (some ⟨kb,koff,none⟩) 2 kc] 54))∧(w.alloc (.cells #[.int .u8 3,.int .i64 a',.string s,.int .i64 n,.slice (some ⟨kb,koff,none⟩) 2 kc] 54)).heap[w.heap.size]?=some (.cells #[.int .u8 3,.int .i64 a',.string s,.int .i64 n,.slice (some ⟨kb,koff,none⟩) 2 kc] 54 (0,0))):=lh ⟨(hP.on (one_below w _)).below,heap_alloc_new w _⟩
 have HS:=lh (hP.on (one_below w (.cells #[.int .u8 3,.int .i64 a',.string s,.int .i64 n,.slice (some ⟨kb,koff,none⟩) 2 kc] 54)))
 have hgb:¬ w.heap.size=b:=by omega
 have hkb2:kb<b:=by omega
 have HC0:=ckH hkb2 c0
 have HC1:=ckH hkb2 c1
 show Calls _ _ _ _ (fun e w'=>e=.returned (.tuple #[])∧∃v',PrW w0 b _ most v' (L++partD d (.mk 3 a s n [.mk k0' a0' s0' n0' ks0,x1])) w')
 have hbl2:nb<b:=by omega
 have HN4:Hid (∀w',Below b w0 w'→w'.cell? ⟨nb,off+q0*5+4,none⟩=some (.slice np nl nc)):=lh (fun w' h=>(h.cell (p:=⟨nb,off+q0*5+4,none⟩) hbl2).trans hcn)
 have e4:=HN4.out _ HB.out.1
 have e0:=HS.out.cell.1
 have f0:(0:Int)≤(q0:Int):=by omega
 have f1:(q0:Int)<(len:Int):=by omega
 clear hcn hbl2
 have HFIT:=lh hfit
 have HMOST:=lh hmost
 show Calls _ _ _ _ (fun e w'=>e=.returned (.tuple #[])∧∃v',PrW w0 b _ most v' (L++partD d (.mk 3 a s n [.mk k0' a0' s0' n0' ks0,x1])) w')
 rw [HEQ]
 have hd7:d≤70000:=by simp only [Ast.size,sizeL] at hd;omega
 generalize blT (d+1) x1=B1 at *
 clear hE1 ih hA1 hs1 hT hO hw ht hI hP hfit hmost hst HEQ hkc hkl hqc hIn hXS hTS hnc hqn hd hlen hb hbw hkb hkb2 hq0 hql0 hO0 hg0 c0 hw0 hx0 hq1 hql1 hO1 hg1 c1 hw1 hx1 hEI hn01
 go_enter Tryz.func99,Tryz.ntmps99
 have d0:=HC0.out _ HB.out.1
 have d1:=HC1.out _ HB.out.1
 go_wp2_with fail
 go_quiet (fail)
 have HS:=lh (HS.out.on (drewN_below _ (w.alloc (.cells #[.int .u8 3,.int .i64 a',.string s,.int .i64 n,.slice (some ⟨kb,koff,none⟩) 2 kc] 54)) nq))
 have HB:Hid (Below b w0 ((w.alloc (.cells #[.int .u8 3,.int .i64 a',.string s,.int .i64 n,.slice (some ⟨kb,koff,none⟩) 2 kc] 54)).drewN nq)∧((w.alloc (.cells #[.int .u8 3,.int .i64 a',.string s,.int .i64 n,.slice (some ⟨kb,koff,none⟩) 2 kc] 54)).drewN nq).heap[w.heap.size]?=some (.cells #[.int .u8 3,.int .i64 a',.string s,.int .i64 n,.slice (some ⟨kb,koff,none⟩) 2 kc] 54 (0,0))):=lh ⟨HS.out.below,HB.out.2⟩
 clear e0 e4 d0 d1
 go_wp2_with fail
 generalize (w.alloc (.cells #[.int .u8 3,.int .i64 a',.string s,.int .i64 n,.slice (some ⟨kb,koff,none⟩) 2 kc] 54)).drewN nq=W1 at *
 generalize w.heap.size=g0 at *
 have HF:Hid (∀w':World,w'.heap[g0]?=some (.cells #[.int .u8 3,.int .i64 a',.string s,.int .i64 n,.slice (some ⟨kb,koff,none⟩) 2 kc] 54 (0,0))→w'.cell? ⟨g0,2,none⟩=some (.string s)∧w'.cell? ⟨g0,3,none⟩=some (.int .i64 n)):=lh (fun w' h=>⟨by rw [cell_of_row _ _ _ _ _ _ h];rfl,by rw [cell_of_row _ _ _ _ _ _ h];rfl⟩)
 refine wp_region_held_drew (S:=fun w'=>Below b w0 w'∧w'.heap[g0]?=some (.cells #[.int .u8 3,.int .i64 a',.string s,.int .i64 n,.slice (some ⟨kb,koff,none⟩) 2 kc] 54 (0,0))) (by kernel_rfl) ⟨HB.out.1.drew,HB.out.2⟩ (fun hHeld=>?_)
 have HS:=lh (HS.out.on (drew_on W1))
 have HB:=lh hHeld
 generalize W1.drew=W2 at *
 clear hHeld
 refine tn 0 HB.out ?_
 (try simp only [pn])
 refine tn 1 HB.out ?_
 (try simp only [pn])
 refine tn 2 HB.out ?_
 (try simp only [pn])
 refine tk (i:=3) (v:=?_) rfl HB.out ?_ ?_
 rotate_left
 · (intro w' hSw;have hb9:=hSw.1;have h9:=HF.out _ hSw.2;obtain ⟨f9,e9⟩:=h9;have d0:=HC0.out _ hb9;have d1:=HC1.out _ hb9;clear hSw hb9;go_simp;try with_reducible rfl)
 (try simp only [pn])
 refine tn 4 HB.out ?_
 (try simp only [pn])
 refine tn 5 HB.out ?_
 (try simp only [pn])
 refine tn 7 HB.out ?_
 (try simp only [pn])
 refine tk (i:=8) (v:=?_) rfl HB.out ?_ ?_
 rotate_left
 · (intro w' hSw;have hb9:=hSw.1;have h9:=HF.out _ hSw.2;obtain ⟨f9,e9⟩:=h9;have d0:=HC0.out _ hb9;have d1:=HC1.out _ hb9;clear hSw hb9;go_simp;try with_reducible rfl)
 (try simp only [pn])
 refine wpAnyH_ready (rs:=[6,9]) (by kernel_rfl) (by simp) ?_
 refine AllReadyH.cons rfl (fun K hK=>?_) (AllReadyH.cons rfl (fun K hK=>?_) (AllReadyH.nil))
 · skip
   go_simp
   go_at_call 64
   (with_reducible refine (TXS.out W2 HS.out).mono ?_)
   rintro e W3 ⟨rfl,hb9⟩
   have HS:=lh (HS.out.on hb9)
   have HB:=lh (And.intro HS.out.below (on_row hb9 HB.out.2))
   clear hb9
   go_simp
   refine hK.out _ _ HB.out (fun hHeld=>?_)
   clear hK K hHeld
   (try simp only [pn])
   refine wpAnyH_ready (rs:=[9]) (by kernel_rfl) (by simp) ?_
   refine AllReadyH.cons rfl (fun K hK=>?_) (AllReadyH.nil)
   · skip
     go_simp
     have hb9:=one_below W3 (.cells #[.string ⟨#[]⟩,.string (⟨#[32,115,105,110,103,108,101]⟩)] 9)
     have HS:=lh (HS.out.on hb9)
     have HB:=lh (And.intro HS.out.below (on_row hb9 HB.out.2))
     have F9:=lh (heap_alloc_new W3 (.cells #[.string ⟨#[]⟩,.string (⟨#[32,115,105,110,103,108,101]⟩)] 9))
     clear hb9
     refine hK.out _ _ HB.out (fun hHeld=>?_)
     clear hK K hHeld
     (try simp only [pn])
     generalize W3.heap.size=g19 at *
     generalize W3.alloc (.cells #[.string ⟨#[]⟩,.string (⟨#[32,115,105,110,103,108,101]⟩)] 9)=W4 at *
     refine wpAnyH_ready (rs:=[10]) (by kernel_rfl) (by simp) ?_
     refine AllReadyH.cons rfl (fun K hK=>?_) (AllReadyH.nil)
     · skip
       go_simp
       go_at_call 168
       (with_reducible refine (PK.out W4 g19 F9.out).mono ?_)
       rintro e W5 ⟨rfl,hb9⟩
       clear F9
       have HS:=lh (HS.out.on hb9)
       have HB:=lh (And.intro HS.out.below (on_row hb9 HB.out.2))
       clear hb9
       go_simp
       refine hK.out _ _ HB.out (fun hHeld=>?_)
       clear hK K hHeld
       (try simp only [pn])
       refine wpAnyH_ready (rs:=[11]) (by kernel_rfl) (by simp) ?_
       refine AllReadyH.cons rfl (fun K hK=>?_) (AllReadyH.nil)
       · skip
         go_simp
         have hb9:=one_below W5 (.cells #[.string (⟨#[112,114,111,99,32]⟩),.string s,.string ⟨#[40]⟩,.string TS,.string ⟨#[41]⟩,.string EI,.string (⟨#[32,123]⟩)] 9)
         have HS:=lh (HS.out.on hb9)
         have HB:=lh (And.intro HS.out.below (on_row hb9 HB.out.2))
         have F11:=lh (heap_alloc_new W5 (.cells #[.string (⟨#[112,114,111,99,32]⟩),.string s,.string ⟨#[40]⟩,.string TS,.string ⟨#[41]⟩,.string EI,.string (⟨#[32,123]⟩)] 9))
         clear hb9
         refine hK.out _ _ HB.out (fun hHeld=>?_)
         clear hK K hHeld
         (try simp only [pn])
         generalize W5.heap.size=g21 at *
         generalize W5.alloc (.cells #[.string (⟨#[112,114,111,99,32]⟩),.string s,.string ⟨#[40]⟩,.string TS,.string ⟨#[41]⟩,.string EI,.string (⟨#[32,123]⟩)] 9)=W6 at *
         refine wpAnyH_ready (rs:=[12]) (by kernel_rfl) (by simp) ?_
         refine AllReadyH.cons rfl (fun K hK=>?_) (AllReadyH.nil)
         · skip
           go_simp
           go_at_call 167
           (with_reducible refine (LN.out W6 g21 HS.out F11.out).mono ?_)
           rintro e W7 ⟨rfl,v',HP,HK⟩
           have HP:=lh HP
           have HB:=lh (And.intro HP.out.below (HK _ _ _ _ HB.out.2 (by decide) hgb))
           clear HK
           go_simp
           refine hK.out _ _ HB.out (fun hHeld=>?_)
           clear hK K hHeld
           (try simp only [pn])
           refine wpAnyH_done (by kernel_rfl) ?_ _
           have HPP0:=lh HP.out
           clear HP HB HS
           have k1:=HC1.out _ HPP0.out.below
           go_wp2_with (first|(go_at_call 54;(with_reducible refine (AL1.out _ _ _ HPP0.out (by have:=HFIT.out;simp only [ByteArray.size_append] at this ⊢;omega)).mono ?_);rintro e wx0 ⟨rfl,vx0,HX⟩;have HPP1:=lh (HX.on (one_below wx0 (.cells #[.string ⟨#[125]⟩] 9)));have FY0:=lh (heap_alloc_new wx0 (.cells #[.string ⟨#[125]⟩] 9));clear HX k1 HPP0)|(go_at_call 167;(with_reducible refine (LN1.out _ _ _ _ HPP1.out (by have:=HFIT.out;have:=HMOST.out;simp only [ByteArray.size_append] at *;omega) (by first|exact FY0.out|simpa using FY0.out)).mono ?_);rintro e wx1 ⟨rfl,vx1,HX⟩;have HPP2:=lh HX;clear HX HPP1 FY0))
           go_end0
           have HZ:=HPP2.out
           simp only [app_assoc] at HZ
           refine ⟨rfl,vx1,?_⟩
           simp only [app_assoc]
           exact HZ
 · skip
   go_simp
   have hb9:=one_below W2 (.cells #[.string ⟨#[]⟩,.string (⟨#[32,115,105,110,103,108,101]⟩)] 9)
   have HS:=lh (HS.out.on hb9)
   have HB:=lh (And.intro HS.out.below (on_row hb9 HB.out.2))
   have F9:=lh (heap_alloc_new W2 (.cells #[.string ⟨#[]⟩,.string (⟨#[32,115,105,110,103,108,101]⟩)] 9))
   clear hb9
   refine hK.out _ _ HB.out (fun hHeld=>?_)
   clear hK K hHeld
   (try simp only [pn])
   generalize W2.heap.size=g19 at *
   generalize W2.alloc (.cells #[.string ⟨#[]⟩,.string (⟨#[32,115,105,110,103,108,101]⟩)] 9)=W3 at *
   refine wpAnyH_ready (rs:=[6]) (by kernel_rfl) (by simp) ?_
   refine AllReadyH.cons rfl (fun K hK=>?_) (AllReadyH.nil)
   · skip
     go_simp
     go_at_call 64
     (with_reducible refine (TXS.out W3 HS.out).mono ?_)
     rintro e W4 ⟨rfl,hb9⟩
     have HS:=lh (HS.out.on hb9)
     have HB:=lh (And.intro HS.out.below (on_row hb9 HB.out.2))
     have F9:=lh (on_row hb9 F9.out)
     clear hb9
     go_simp
     refine hK.out _ _ HB.out (fun hHeld=>?_)
     clear hK K hHeld
     (try simp only [pn])
     refine wpAnyH_ready (rs:=[10]) (by kernel_rfl) (by simp) ?_
     refine AllReadyH.cons rfl (fun K hK=>?_) (AllReadyH.nil)
     · skip
       go_simp
       go_at_call 168
       (with_reducible refine (PK.out W4 g19 F9.out).mono ?_)
       rintro e W5 ⟨rfl,hb9⟩
       clear F9
       have HS:=lh (HS.out.on hb9)
       have HB:=lh (And.intro HS.out.below (on_row hb9 HB.out.2))
       clear hb9
       go_simp
       refine hK.out _ _ HB.out (fun hHeld=>?_)
       clear hK K hHeld
       (try simp only [pn])
       refine wpAnyH_ready (rs:=[11]) (by kernel_rfl) (by simp) ?_
       refine AllReadyH.cons rfl (fun K hK=>?_) (AllReadyH.nil)
       · skip
         go_simp
         have hb9:=one_below W5 (.cells #[.string (⟨#[112,114,111,99,32]⟩),.string s,.string ⟨#[40]⟩,.string TS,.string ⟨#[41]⟩,.string EI,.string (⟨#[32,123]⟩)] 9)
         have HS:=lh (HS.out.on hb9)
         have HB:=lh (And.intro HS.out.below (on_row hb9 HB.out.2))
         have F11:=lh (heap_alloc_new W5 (.cells #[.string (⟨#[112,114,111,99,32]⟩),.string s,.string ⟨#[40]⟩,.string TS,.string ⟨#[41]⟩,.string EI,.string (⟨#[32,123]⟩)] 9))
         clear hb9
         refine hK.out _ _ HB.out (fun hHeld=>?_)
         clear hK K hHeld
         (try simp only [pn])
         generalize W5.heap.size=g21 at *
         generalize W5.alloc (.cells #[.string (⟨#[112,114,111,99,32]⟩),.string s,.string ⟨#[40]⟩,.string TS,.string ⟨#[41]⟩,.string EI,.string (⟨#[32,123]⟩)] 9)=W6 at *
         refine wpAnyH_ready (rs:=[12]) (by kernel_rfl) (by simp) ?_
         refine AllReadyH.cons rfl (fun K hK=>?_) (AllReadyH.nil)
         · skip
           go_simp
           go_at_call 167
           (with_reducible refine (LN.out W6 g21 HS.out F11.out).mono ?_)
           rintro e W7 ⟨rfl,v',HP,HK⟩
           have HP:=lh HP
           have HB:=lh (And.intro HP.out.below (HK _ _ _ _ HB.out.2 (by decide) hgb))
           clear HK
           go_simp
           refine hK.out _ _ HB.out (fun hHeld=>?_)
           clear hK K hHeld
           (try simp only [pn])
           refine wpAnyH_done (by kernel_rfl) ?_ _
           have HPP0:=lh HP.out
           clear HP HB HS
           have k1:=HC1.out _ HPP0.out.below
           go_wp2_with (first|(go_at_call 54;(with_reducible refine (AL1.out _ _ _ HPP0.out (by have:=HFIT.out;simp only [ByteArray.size_append] at this ⊢;omega)).mono ?_);rintro e wx0 ⟨rfl,vx0,HX⟩;have HPP1:=lh (HX.on (one_below wx0 (.cells #[.string ⟨#[125]⟩] 9)));have FY0:=lh (heap_alloc_new wx0 (.cells #[.string ⟨#[125]⟩] 9));clear HX k1 HPP0)|(go_at_call 167;(with_reducible refine (LN1.out _ _ _ _ HPP1.out (by have:=HFIT.out;have:=HMOST.out;simp only [ByteArray.size_append] at *;omega) (by first|exact FY0.out|simpa using FY0.out)).mono ?_);rintro e wx1 ⟨rfl,vx1,HX⟩;have HPP2:=lh HX;clear HX HPP1 FY0))
           go_end0
           have HZ:=HPP2.out
           simp only [app_assoc] at HZ
           refine ⟨rfl,vx1,?_⟩
           simp only [app_assoc]
           exact HZ
end
end Go.Proofs.YthdioipfdbbmmaaGreatDoor
