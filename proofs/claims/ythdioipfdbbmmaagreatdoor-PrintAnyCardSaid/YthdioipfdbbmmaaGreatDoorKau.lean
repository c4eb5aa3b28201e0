/- Contracts. -/
import Derived.Test.YthdioipfdbbmmaaGreatDoorKab
import Derived.Test.YthdioipfdbbmmaaGreatDoorKat
set_option linter.all false
set_option maxRecDepth 1000000
set_option maxHeartbeats 16000000
namespace Go.Proofs.YthdioipfdbbmmaaGreatDoor
section
open Go.RowKit Tr Go.Shelf
theorem write12 (ns:List Nd)(a:Nat)(s:ByteArray)(n:Int)(ks:List Ast)(hsh:isR (ks.map Ast.kind) [5]=true):HasW ns 12 a s n ks (fun d=>stT d (.mk 12 a s n ks)):=by
 intro d o w0 w b p len c most v L a' kp kl kc hT hO hw ht hlen hd hb hI hP hmost hfit
 have hkl:ks.length=kl:=by rw [← hI.len_eq,heads_length]
 obtain ⟨x0,rfl,hx0⟩:=sh5 hsh
 obtain rfl:kl=1:=hkl.symm
 obtain ⟨kb,koff,rfl,hkb,hkc⟩:=hI.cell (by omega)
 obtain ⟨q0,hq0,hql0,hO0⟩:=hO.kid 0 (by simp)
 have hg0:=heads_ge [x0] (o+1) 0 (by simp)
 rw [hq0] at hg0
 have c0:w0.cell? ⟨kb,koff,none⟩=some (.int .i64 (q0:Int)):=by have h:=hkc 0 (by omega);rw [hq0] at h;exact h
 have hw0:wfR x0:=hw.kids (j:=0) (by simp)
 have hO0:On ns q0 x0:=hO0
 obtain ⟨EI,hEI⟩:∃EI,(if n=1 then (⟨#[32,97,108,108]⟩:ByteArray) else ⟨#[32,115,104,97,114,101,100]⟩)=EI:=⟨_,rfl⟩
 have hn01:n=0∨n=1:=by have h1:=hw.parts.2.1;have h2:mostR 12=1:=(by decide);rw [h2] at h1;omega
 have HEQ:stT d (.mk 12 a s n [x0])=lineT d (catT [⟨#[108,111,99,107,32]⟩,exT x0,EI,⟨#[59]⟩]):=by
  show stF d 12 s n [exT x0] _=_
  unfold stF
  rw [nn,nn,nn,nn,nn,if_pos rfl,hEI]
  simp only [lineT,catT,app_none,app_assoc,List.getD_cons_zero,List.getD_cons_succ]
 have hst:=congrArg ByteArray.size HEQ
 simp only [lineT,catT,ByteArray.size_append] at hst
 dsimp only at hfit
 rw [hst] at hfit
 have hbw:=hP.lt
 have TX0:Hid (∀w' g,PrW w0 b (.slice p len c) most v L w'→w'.heap[g]?=some (.cells #[.int .i64 (q0:Int)] 3 (0,0))→Calls Tryz.prog 64 #[.pointer (some ⟨b,0,none⟩),.slice (some ⟨g,0,none⟩) 1 1] w' fun e w''=>e=.returned (.string (exT x0))∧Below w'.heap.size w' w''):=lh (fun w' g h1 h2=>text_one h1 hb hT ht hlen hO0 (by omega) (Or.inl hx0) hw0 (by omega) g h2)
 have PK:Hid (∀w' g,w'.heap[g]?=some (.cells #[.string ⟨#[32,115,104,97,114,101,100]⟩,.string ⟨#[32,97,108,108]⟩] 9 (0,0))→Calls Tryz.prog 168 #[.int .i64 n,.slice (some ⟨g,0,none⟩) 2 2] w' fun e w''=>e=.returned (.string EI)∧Below w'.heap.size w' w''):=lh (fun w' g h=>by rw [← hEI];exact pick_row w' n g _ _ h hn01)
 have LN:Hid (∀w' g,PrW w0 b (.slice p len c) most v L w'→w'.heap[g]?=some (.cells #[.string (⟨#[108,111,99,107,32]⟩),.string (exT x0),.string EI,.string ⟨#[59]⟩] 9 (0,0))→Calls Tryz.prog 167 #[.pointer (some ⟨b,0,none⟩),.int .i64 (d:Int),.slice (some ⟨g,0,none⟩) 4 4] w' fun e w''=>e=.returned (.tuple #[])∧∃v',PrW w0 b (.slice p len c) most v' (L++stT d (.mk 12 a s n [x0])) w''∧KeepT b w' w''):=lh (fun w' g h1 h2=>by rw [HEQ];exact line_at w0 w' b _ most v L h1 d g 4 [⟨#[108,111,99,107,32]⟩,exT x0,EI,⟨#[59]⟩] h2 (by simp) (by simp only [Ast.size,sizeL] at hd;omega) (by omega) (by simp only [catT,ByteArray.size_append];omega))
 have HB:Hid (Below b w0 (w.alloc (.cells #[.int .u8 12,.int .i64 a',.string s,.int .i64 n,.slice (some ⟨kb,koff,none⟩) 1 kc] 54))∧(w.alloc (.cells #[.int .u8 12,.int .i64 a',.string s,.int .i64 n,.slice (some ⟨kb,koff,none⟩) 1 kc] 54)).heap[w.heap.size]?=some (.cells #[.int .u8 12,.int .i64 a',.string s,.int .i64 n,.slice (some ⟨kb,koff,none⟩) 1 kc] 54 (0,0))):=lh ⟨(hP.on (one_below w _)).below,heap_alloc_new w _⟩
 have HS:=lh (hP.on (one_below w (.cells #[.int .u8 12,.int .i64 a',.string s,.int .i64 n,.slice (some ⟨kb,koff,none⟩) 1 kc] 54)))
 have hgb:¬ w.heap.size=b:=by omega
 have hkb2:kb<b:=by omega
 have HC0:=ckH hkb2 c0
 show Calls _ _ _ _ (fun e w'=>e=.returned (.tuple #[])∧∃v',PrW w0 b _ most v' (L++stT d (.mk 12 a s n [x0])) w')
 generalize stT d (.mk 12 a s n [x0])=ST at *
 clear hT hO hw ht hI hP hfit hmost hst HEQ hkc hkl hsh hd hlen hb hbw hkb hkb2 hq0 hql0 hO0 hg0 c0 hw0 hx0 hEI hn01
 go_enter Tryz.func99,Tryz.ntmps99
 have d0:=HC0.out _ HB.out.1
 go_wp2_with fail
 clear d0
 generalize w.alloc (.cells #[.int .u8 12,.int .i64 a',.string s,.int .i64 n,.slice (some ⟨kb,koff,none⟩) 1 kc] 54)=W1 at *
 generalize w.heap.size=g0 at *
 have HF:Hid (∀w':World,w'.heap[g0]?=some (.cells #[.int .u8 12,.int .i64 a',.string s,.int .i64 n,.slice (some ⟨kb,koff,none⟩) 1 kc] 54 (0,0))→w'.cell? ⟨g0,2,none⟩=some (.string s)∧w'.cell? ⟨g0,3,none⟩=some (.int .i64 n)):=lh (fun w' h=>⟨by rw [cell_of_row _ _ _ _ _ _ h];rfl,by rw [cell_of_row _ _ _ _ _ _ h];rfl⟩)
 refine wp_region_held_drew (S:=fun w'=>Below b w0 w'∧w'.heap[g0]?=some (.cells #[.int .u8 12,.int .i64 a',.string s,.int .i64 n,.slice (some ⟨kb,koff,none⟩) 1 kc] 54 (0,0))) (by kernel_rfl) ⟨HB.out.1.drew,HB.out.2⟩ (fun hHeld=>?_)
 have HS:=lh (HS.out.on (drew_on W1))
 have HB:=lh hHeld
 generalize W1.drew=W at *
 clear hHeld
 refine tn 0 HB.out ?_
 (try simp only [pn])
 refine tn 1 HB.out ?_
 (try simp only [pn])
 refine tn 2 HB.out ?_
 (try simp only [pn])
 refine tn 3 HB.out ?_
 (try simp only [pn])
 refine tn 4 HB.out ?_
 (try simp only [pn])
 refine tk (i:=5) (v:=?_) rfl HB.out ?_ ?_
 rotate_left
 · (intro w' hSw;have hb9:=hSw.1;have h9:=HF.out _ hSw.2;obtain ⟨f9,e9⟩:=h9;have d0:=HC0.out _ hb9;clear hSw hb9;go_simp;try with_reducible rfl)
 (try simp only [pn])
 refine tn 8 HB.out ?_
 (try simp only [pn])
 refine tk (i:=9) (v:=?_) rfl HB.out ?_ ?_
 rotate_left
 · (intro w' hSw;have hb9:=hSw.1;have h9:=HF.out _ hSw.2;obtain ⟨f9,e9⟩:=h9;have d0:=HC0.out _ hb9;clear hSw hb9;go_simp;try with_reducible rfl)
 (try simp only [pn])
 repeat' (first
  | (clear op6;have dn6:=trivial;go_simp;have hb9:=one_below W (.cells #[.int .i64 (q0:Int)] 3);replace HS:=lh (HS.out.on hb9);replace HB:=lh (And.intro HS.out.below (on_row hb9 HB.out.2));(try replace F10:=lh (on_row hb9 F10.out));(try replace F12:=lh (on_row hb9 F12.out));have F6:=lh (heap_alloc_new W (.cells #[.int .i64 (q0:Int)] 3));clear hb9;(refine hK.out _ _ HB.out (fun hHeld=>?_));clear hK K hHeld;(try simp only [pn]);generalize W.heap.size=g16 at *;generalize W.alloc (.cells #[.int .i64 (q0:Int)] 3)=W at *)
  | (clear op7;have dn7:=trivial;go_simp;go_at_call 64;(with_reducible refine (TX0.out W g16 HS.out F6.out).mono ?_);rintro e W ⟨rfl,hb9⟩;clear F6;replace HS:=lh (HS.out.on hb9);replace HB:=lh (And.intro HS.out.below (on_row hb9 HB.out.2));(try replace F10:=lh (on_row hb9 F10.out));(try replace F12:=lh (on_row hb9 F12.out));clear hb9;go_simp;(refine hK.out _ _ HB.out (fun hHeld=>?_));clear hK K hHeld;(try simp only [pn]))
  | (clear op10;have dn10:=trivial;go_simp;have hb9:=one_below W (.cells #[.string (⟨#[32,115,104,97,114,101,100]⟩),.string (⟨#[32,97,108,108]⟩)] 9);replace HS:=lh (HS.out.on hb9);replace HB:=lh (And.intro HS.out.below (on_row hb9 HB.out.2));(try replace F6:=lh (on_row hb9 F6.out));(try replace F12:=lh (on_row hb9 F12.out));have F10:=lh (heap_alloc_new W (.cells #[.string (⟨#[32,115,104,97,114,101,100]⟩),.string (⟨#[32,97,108,108]⟩)] 9));clear hb9;(refine hK.out _ _ HB.out (fun hHeld=>?_));clear hK K hHeld;(try simp only [pn]);generalize W.heap.size=g20 at *;generalize W.alloc (.cells #[.string (⟨#[32,115,104,97,114,101,100]⟩),.string (⟨#[32,97,108,108]⟩)] 9)=W at *)
  | (clear op11;have dn11:=trivial;go_simp;go_at_call 168;(with_reducible refine (PK.out W g20 F10.out).mono ?_);rintro e W ⟨rfl,hb9⟩;clear F10;replace HS:=lh (HS.out.on hb9);replace HB:=lh (And.intro HS.out.below (on_row hb9 HB.out.2));(try replace F6:=lh (on_row hb9 F6.out));(try replace F12:=lh (on_row hb9 F12.out));clear hb9;go_simp;(refine hK.out _ _ HB.out (fun hHeld=>?_));clear hK K hHeld;(try simp only [pn]))
  | (clear op12;have dn12:=trivial;go_simp;have hb9:=one_below W (.cells #[.string (⟨#[108,111,99,107,32]⟩),.string (exT x0),.string EI,.string ⟨#[59]⟩] 9);replace HS:=lh (HS.out.on hb9);replace HB:=lh (And.intro HS.out.below (on_row hb9 HB.out.2));(try replace F6:=lh (on_row hb9 F6.out));(try replace F10:=lh (on_row hb9 F10.out));have F12:=lh (heap_alloc_new W (.cells #[.string (⟨#[108,111,99,107,32]⟩),.string (exT x0),.string EI,.string ⟨#[59]⟩] 9));clear hb9;(refine hK.out _ _ HB.out (fun hHeld=>?_));clear hK K hHeld;(try simp only [pn]);generalize W.heap.size=g22 at *;generalize W.alloc (.cells #[.string (⟨#[108,111,99,107,32]⟩),.string (exT x0),.string EI,.string ⟨#[59]⟩] 9)=W at *)
  | (clear op13;have dn13:=trivial;go_simp;go_at_call 167;(with_reducible refine (LN.out W g22 HS.out F12.out).mono ?_);rintro e W ⟨rfl,v',HP,HK⟩;have HP:=lh HP;replace HB:=lh (And.intro HP.out.below (HK _ _ _ _ HB.out.2 (by decide) hgb));clear HK;go_simp;(refine hK.out _ _ HB.out (fun hHeld=>?_));clear hK K hHeld;(try simp only [pn]))
  | (have:=dn6;have:=dn7;have:=dn10;have:=dn11;have:=dn12;have:=dn13;refine wpAnyH_done (by kernel_rfl) ?_ _;go_wp2_with fail;go_end0;exact ⟨rfl,v',HP.out⟩)
  | (have:=dn12;refine wpAnyH_ready (rs:=[13]) (by kernel_rfl) (by simp) (AllReadyH.cons rfl (fun K hK=>have op13:=trivial;?_) (AllReadyH.nil)))
  | (have:=dn11;refine wpAnyH_ready (rs:=[12]) (by kernel_rfl) (by simp) (AllReadyH.cons rfl (fun K hK=>have op12:=trivial;?_) (AllReadyH.nil)))
  | (have:=dn7;have:=dn10;refine wpAnyH_ready (rs:=[11]) (by kernel_rfl) (by simp) (AllReadyH.cons rfl (fun K hK=>have op11:=trivial;?_) (AllReadyH.nil)))
  | (have:=dn7;refine wpAnyH_ready (rs:=[10]) (by kernel_rfl) (by simp) (AllReadyH.cons rfl (fun K hK=>have op10:=trivial;?_) (AllReadyH.nil)))
  | (have:=dn6;have:=dn10;refine wpAnyH_ready (rs:=[7]) (by kernel_rfl) (by simp) (AllReadyH.cons rfl (fun K hK=>have op7:=trivial;?_) (AllReadyH.nil)))
  | (have:=dn6;refine wpAnyH_ready (rs:=[7,10]) (by kernel_rfl) (by simp) (AllReadyH.cons rfl (fun K hK=>have op7:=trivial;?_) (AllReadyH.cons rfl (fun K hK=>have op10:=trivial;?_) (AllReadyH.nil))))
  | (have:=dn10;refine wpAnyH_ready (rs:=[6]) (by kernel_rfl) (by simp) (AllReadyH.cons rfl (fun K hK=>have op6:=trivial;?_) (AllReadyH.nil)))
  | ( refine wpAnyH_ready (rs:=[6,10]) (by kernel_rfl) (by simp) (AllReadyH.cons rfl (fun K hK=>have op6:=trivial;?_) (AllReadyH.cons rfl (fun K hK=>have op10:=trivial;?_) (AllReadyH.nil))))
  | fail)
end
end Go.Proofs.YthdioipfdbbmmaaGreatDoor
