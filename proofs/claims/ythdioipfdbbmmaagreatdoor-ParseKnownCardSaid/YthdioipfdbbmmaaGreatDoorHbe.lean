/- Contracts. -/
import Derived.Test.YthdioipfdbbmmaaGreatDoorHab
import Derived.Test.YthdioipfdbbmmaaGreatDoorHbc
import Derived.Deep.LoopGhost
import Derived.Deep.RegionHeld3
import Derived.Deep.Cut
set_option linter.all false
set_option maxRecDepth 1000000
set_option maxHeartbeats 16000000
namespace Go.Proofs.YthdioipfdbbmmaaGreatDoor
namespace Rf
open Go.RowKit Par
section
variable {p:List Nd}{k:Int}{a:Nat}{t:ByteArray}{n:Int}{Q B:Nat}{R:Res (List Ast)}{md:List Nd}{E:Env}{v:Value}{kvs:List Value}{d:Int}{w w':World}{i:Nat}
theorem stmt_2 {r:Nat}{ks:List Ast}(hbk:HasB r)(hs:Sh p k a t n Q B (.ok ks (RT E i::E.pts.drop (i+1))) md)(h:RS E v kvs md i (64-(r:Int)) 0 w)(hr:r≤64)(hQ:Q+20*r+24≤B∧Q≤200000)(hj:words13.idxOf (RT E i).txt=2) :
 Calls Tryz.prog 223 #[.pointer (some ⟨E.b,0,none⟩),.int .i64 (p.length:Int)] w fun x w'=>x=.returned (.tuple #[])∧In E p k a t n (64-(r:Int)) Q B (knd (.ok ks (RT E i::E.pts.drop (i+1))) (stmtP r (blockP r))) w':=by
 obtain ⟨c0,c1,_,_,c4⟩:=h.rowCells
 obtain ⟨k0,_,_,_⟩:=h.tokCells
 have b0:(0:Int)≤(i:Int):=by omega
 have b1:(i:Int)<(E.toks.length:Int):=by have:=h.it;omega
 have hcap:=h.cap
 have hwj:=word13_ne (j:=2) (by decide)
 have ht:(RT E i).kind=1:=pt_word h.ptOk (words13.getD 2 none0) hwj.2 hwj.1 (word13 hj (by decide))
 have hb:((RT E i).kind==1)=true:=by simp [ht]
 have HN:Hid ((RT E i).txt≠none0):=lh (by rw [word13 hj (by decide)];exact hwj.1)
 have HH:=lh h
 have HSh:=lh hs
 have HQ:=lh hQ
 have HR:=lh hr
 have HJ:=lh hj
 have HBK:=lh hbk
 have HB:Hid (Q+20*r+24≤400000):=lh (by omega)
 have HK0:Hid (kindW (RT E i).txt=9):=lh (by unfold kindW;rw [hj];rfl)
 clear h hs hQ hj hbk hr ht hwj
 generalize (RT E i).kind=kd at *
 go_enter Tryz.func223,Tryz.ntmps223
 go_wp2_with fail
 go_quiet (fail)
 have HD:=lh (HH.out.drewN nq)
 have C1:=lh (text_at HD.out)
 generalize w.drewN nq=w1 at *
 clear c0 c1 c4 k0
 go_wp2_with fail
 (with_reducible refine C1.out.mono ?_)
 rintro x wd ⟨rfl,m,rfl⟩
 have H2:=lh (HD.out.drewN m)
 generalize w1.drewN m=w2 at *
 clear C1
 have C2:Hid (Calls Tryz.prog 255 #[.string (RT E i).txt] w2 fun x w'=>x=.returned (.int .u8 9)∧w'=w2.alloc (.cells C13 9)):=lh (by have:=kind_at w2 (RT E i).txt;rw [HK0.out] at this;exact this)
 go_wp2_with fail
 (with_reducible refine C2.out.mono ?_)
 rintro x wd ⟨rfl,rfl⟩
 have H3:=lh (In.of_first HSh.out (H2.out.alloc (.cells C13 9)) (Q+20*r+12))
 generalize w2.alloc (.cells C13 9)=w3 at *
 clear C2
 have C4:=lh (kid_I H3.out (by omega) (by have:=HB.out;omega))
 go_wp2_with fail
 (with_reducible refine C4.out.mono ?_)
 rintro x w4 ⟨rfl,v4,kvs4,p2,ho,h4⟩
 have HO:=lh ho
 have C5:=lh (node_I ho h4 (by omega) (by have:=HB.out;omega) 9)
 clear C4 ho h4
 go_wp2_with fail
 (with_reducible refine C5.out.mono ?_)
 rintro x w5 ⟨rfl,h5⟩
 have h5:In E p2 9 (RT E i).at' none0 0 (64-(r:Int)) (Q+1) (Q+20*r+12+1) (.ok [] (RT E i::E.pts.drop (i+1))) w5:=h5
 obtain ⟨i6,h63,c16,cz6,h6⟩:=inc_ok h5 (by omega) HN.out
 have H6:=lh h6
 clear C5 h5 h6
 go_upto_region 8 with fail
 generalize w5.setCell ⟨E.b,1,none⟩ (.int .i64 ((i6:Int)+1))=w6 at *
 clear c16 cz6
 have C7:=lh (row_I H6.out HR.out (by have:=HQ.out;omega) (by have:=HB.out;omega))
 go_wp2_with fail
 (with_reducible refine C7.out.mono ?_)
 rintro x w7 ⟨rfl,h7⟩
 have H7:=lh h7
 clear C7 h7
 have C8:=lh (take_I H7.out (by have:=HQ.out;omega) ⟨#[40]⟩ (by decide) (by decide))
 go_wp2_with fail
 (with_reducible refine C8.out.mono ?_)
 rintro x w8 ⟨rfl,h8⟩
 have H8:=lh h8
 clear C8 h8
 have C9:=lh (expr_I H8.out HR.out (by have:=HQ.out;omega) (by have:=HB.out;omega))
 go_wp2_with fail
 (with_reducible refine C9.out.mono ?_)
 rintro x w9 ⟨rfl,h9⟩
 have H9:=lh h9
 clear C9 h9
 go_wp2_with fail
 go_loopg [] (left (knd (skp (knd (Res.ok [] (E.pts.drop (i+1)):Res (List Ast)) (rowP r)) (expectP ⟨#[40]⟩)) (exprR r))) (fun g wr=>∃R1:Res (List Ast),Hid (left R1≤g)∧Hid (then' R1 (many (listStep (exprR r)))=then' (knd (skp (knd (Res.ok [] (E.pts.drop (i+1)):Res (List Ast)) (rowP r)) (expectP ⟨#[40]⟩)) (exprR r)) (many (listStep (exprR r))))∧Hid (In E p2 9 (RT E i).at' none0 0 (64-(r:Int)) Q (Q+20*r+18) R1 wr))
 case atStart=>exact ⟨_,lh (Nat.le_refl _),lh rfl,lh (H9.out.mono (Nat.le_refl _) (by omega))⟩
 case round =>
  clear H9
  obtain ⟨R1,HG,HE,HL⟩:=hrel
  have C10:=lh (is_I HL.out ⟨#[44]⟩ (by decide) (by decide))
  obtain ⟨b10,y10⟩:=HL.out.look ⟨#[44]⟩
  rw [y10] at C10
  have HY10:=lh y10
  have HN10:=lh HL.out.ne
  clear y10
  go_wp2_with fail
  (with_reducible refine C10.out.mono ?_)
  rintro x wd ⟨rfl,m,rfl⟩
  have H10:=lh (HL.out.drewN m)
  generalize wr.drewN m=w10 at *
  clear C10
  cases b10 with
  | false =>
   have HE2:=lh ((list_done HN10.out HY10.out).symm.trans HE.out)
   have C11:=lh (take_I H10.out (by have:=HQ.out;omega) ⟨#[41]⟩ (by decide) (by decide))
   go_wp2_with fail
   (with_reducible refine C11.out.mono ?_)
   rintro x w11 ⟨rfl,h11⟩
   have H11:=lh h11
   clear C11 h11
   have C12:=lh (take_I H11.out (by have:=HQ.out;omega) ⟨#[59]⟩ (by decide) (by decide))
   go_wp2_with fail
   (with_reducible refine C12.out.mono ?_)
   rintro x w12 ⟨rfl,h12⟩
   have H12:=lh h12
   clear C12 h12
   have HF:=lh (In.close (B':=B) HO.out (H12.out.mono (Nat.le_refl _) (B':=B) (by have:=HQ.out;omega)) (by omega) (by have:=HQ.out;omega) (fun q c e=>by cases e))
   rw [stmt_eq HJ.out (by decide) (eq2 HE2.out)] at HF
   go_wp2
   simp [bodyPost,results,Tryz.results223,go_sem]
   exact HF.out
  | true =>
   obtain ⟨ks1,l1,rfl⟩:=nxt_ok HY10.out
   have HL2:=lh (H10.out.okB (Q+20*r+17))
   obtain ⟨i13,h6313,c113,cz13,h13⟩:=(HL2.out.mono (Nat.le_succ _) (Nat.le_refl _)).inc (by have:=HQ.out;omega) (by decide) HY10.out
   have H13:=lh h13
   clear h13
   go_upto_region 31 with fail
   generalize w10.setCell ⟨E.b,1,none⟩ (.int .i64 ((i13:Int)+1))=w13 at *
   clear c113 cz13
   have C14:=lh (expr_I H13.out HR.out (by have:=HQ.out;omega) (by have:=HB.out;omega))
   go_wp2_with fail
   (with_reducible refine C14.out.mono ?_)
   rintro x w14 ⟨rfl,h14⟩
   have H14:=lh h14
   clear C14 h14
   have HLT:Hid (left (knd (skp (Res.ok ks1 l1) (skipP ⟨#[44]⟩)) (exprR r))<gk):=lh (by have:=HG.out;have:=list_left (less_exprR r) HY10.out;omega)
   have HE3:=lh ((list_more (less_exprR r) HY10.out).symm.trans HE.out)
   go_wp2_with fail
   go_roundg (left (knd (skp (Res.ok ks1 l1) (skipP ⟨#[44]⟩)) (exprR r)))
   case rel=>exact ⟨_,lh (Nat.le_refl _),HE3,H14⟩
   case measure=>exact HLT.out
end
end Rf
namespace Rf
open Go.RowKit Par
section
variable {p:List Nd}{k:Int}{a:Nat}{t:ByteArray}{n:Int}{Q B:Nat}{R:Res (List Ast)}{md:List Nd}{E:Env}{v:Value}{kvs:List Value}{d:Int}{w w':World}{i:Nat}
theorem stmt_4 {r:Nat}{ks:List Ast}(hbk:HasB r)(hs:Sh p k a t n Q B (.ok ks (RT E i::E.pts.drop (i+1))) md)(h:RS E v kvs md i (64-(r:Int)) 0 w)(hr:r≤64)(hQ:Q+20*r+24≤B∧Q≤200000)(hj:words13.idxOf (RT E i).txt=4) :
 Calls Tryz.prog 223 #[.pointer (some ⟨E.b,0,none⟩),.int .i64 (p.length:Int)] w fun x w'=>x=.returned (.tuple #[])∧In E p k a t n (64-(r:Int)) Q B (knd (.ok ks (RT E i::E.pts.drop (i+1))) (stmtP r (blockP r))) w':=by
 obtain ⟨c0,c1,_,_,c4⟩:=h.rowCells
 obtain ⟨k0,_,_,_⟩:=h.tokCells
 have b0:(0:Int)≤(i:Int):=by omega
 have b1:(i:Int)<(E.toks.length:Int):=by have:=h.it;omega
 have hcap:=h.cap
 have hwj:=word13_ne (j:=4) (by decide)
 have ht:(RT E i).kind=1:=pt_word h.ptOk (words13.getD 4 none0) hwj.2 hwj.1 (word13 hj (by decide))
 have hb:((RT E i).kind==1)=true:=by simp [ht]
 have HN:Hid ((RT E i).txt≠none0):=lh (by rw [word13 hj (by decide)];exact hwj.1)
 have HH:=lh h
 have HSh:=lh hs
 have HQ:=lh hQ
 have HR:=lh hr
 have HJ:=lh hj
 have HBK:=lh hbk
 have HB:Hid (Q+20*r+24≤400000):=lh (by omega)
 have HK0:Hid (kindW (RT E i).txt=11):=lh (by unfold kindW;rw [hj];rfl)
 clear h hs hQ hj hbk hr ht hwj
 generalize (RT E i).kind=kd at *
 go_enter Tryz.func223,Tryz.ntmps223
 go_wp2_with fail
 go_quiet (fail)
 have HD:=lh (HH.out.drewN nq)
 have C1:=lh (text_at HD.out)
 generalize w.drewN nq=w1 at *
 clear c0 c1 c4 k0
 go_wp2_with fail
 (with_reducible refine C1.out.mono ?_)
 rintro x wd ⟨rfl,m,rfl⟩
 have H2:=lh (HD.out.drewN m)
 generalize w1.drewN m=w2 at *
 clear C1
 have C2:Hid (Calls Tryz.prog 255 #[.string (RT E i).txt] w2 fun x w'=>x=.returned (.int .u8 11)∧w'=w2.alloc (.cells C13 9)):=lh (by have:=kind_at w2 (RT E i).txt;rw [HK0.out] at this;exact this)
 go_wp2_with fail
 (with_reducible refine C2.out.mono ?_)
 rintro x wd ⟨rfl,rfl⟩
 have H3:=lh (In.of_first HSh.out (H2.out.alloc (.cells C13 9)) (Q+20*r+12))
 generalize w2.alloc (.cells C13 9)=w3 at *
 clear C2
 have C4:=lh (kid_I H3.out (by omega) (by have:=HB.out;omega))
 go_wp2_with fail
 (with_reducible refine C4.out.mono ?_)
 rintro x w4 ⟨rfl,v4,kvs4,p2,ho,h4⟩
 have HO:=lh ho
 have C5:=lh (node_I ho h4 (by omega) (by have:=HB.out;omega) 11)
 clear C4 ho h4
 go_wp2_with fail
 (with_reducible refine C5.out.mono ?_)
 rintro x w5 ⟨rfl,h5⟩
 have h5:In E p2 11 (RT E i).at' none0 0 (64-(r:Int)) (Q+1) (Q+20*r+12+1) (.ok [] (RT E i::E.pts.drop (i+1))) w5:=h5
 obtain ⟨i6,h63,c16,cz6,h6⟩:=inc_ok h5 (by omega) HN.out
 have H6:=lh h6
 clear C5 h5 h6
 go_upto_region 8 with fail
 generalize w5.setCell ⟨E.b,1,none⟩ (.int .i64 ((i6:Int)+1))=w6 at *
 clear c16 cz6
 obtain ⟨g7,len7,cap7,hn7,hc7⟩:=name_I H6.out.drew (by have:=HQ.out;omega)
 have c37:=hn7.c3
 have b07:(0:Int)≤(p2.length:Int):=by omega
 have b17:(p2.length:Int)<(len7:Int):=by have:=hn7.lt;omega
 have gb7:=hn7.gb
 have NM7:=lh hc7
 clear hn7 hc7
 go_wp2_with fail
 go_region_held3 (fun w'=>w'.cell? ⟨E.b,3,none⟩=some (.slice (some ⟨g7,0,none⟩) len7 cap7)) (first|exact c37|exact k37|exact (World.cell?_of_block (w:=v7) (a:=⟨E.b,3,none⟩) (Below.heap_setCell _ _ _ _ gb7)).trans k37)
  (first
   | (go_at_call 163;(with_reducible refine NM7.out.mono ?_);rintro x v7 ⟨s7,rfl,hd7,hm7,hi7⟩;have k37:=hm7.c3;have z57:=hm7.fz 2;obtain ⟨t57,k57⟩:=hm7.t0;have H7:=lh hi7;have HD7:=lh hd7;clear hm7 hi7 hd7))
 generalize v7.setCell ⟨g7,p2.length*5+2,none⟩ (.string s7)=w7 at *
 clear c37 k37 z57 k57 NM7
 have C8:=lh (take_I H7.out (by have:=HQ.out;omega) ⟨#[61]⟩ (by decide) (by decide))
 go_wp2_with fail
 (with_reducible refine C8.out.mono ?_)
 rintro x w8 ⟨rfl,h8⟩
 have H8:=lh h8
 clear C8 h8
 have C9:=lh (word_I H8.out (by have:=HQ.out;omega) (by have:=HB.out;omega))
 go_wp2_with fail
 (with_reducible refine C9.out.mono ?_)
 rintro x w9 ⟨rfl,h9⟩
 have H9:=lh h9
 clear C9 h9
 have C10:=lh (take_I H9.out (by have:=HQ.out;omega) ⟨#[46]⟩ (by decide) (by decide))
 go_wp2_with fail
 (with_reducible refine C10.out.mono ?_)
 rintro x w10 ⟨rfl,h10⟩
 have H10:=lh h10
 clear C10 h10
 have C11:=lh (word_I H10.out (by have:=HQ.out;omega) (by have:=HB.out;omega))
 go_wp2_with fail
 (with_reducible refine C11.out.mono ?_)
 rintro x w11 ⟨rfl,h11⟩
 have H11:=lh h11
 clear C11 h11
 have C12:=lh (take_I H11.out (by have:=HQ.out;omega) ⟨#[59]⟩ (by decide) (by decide))
 go_wp2_with fail
 (with_reducible refine C12.out.mono ?_)
 rintro x w12 ⟨rfl,h12⟩
 have H12:=lh h12
 clear C12 h12
 have HF:=lh (In.close (B':=B) HO.out (H12.out.mono (Nat.le_refl _) (B':=B) (by have:=HQ.out;omega)) (by omega) (by have:=HQ.out;omega) (fun q c e=>by cases e))
 rw [stmt_eq HJ.out (by decide) (eq4 (r:=r) HD7.out)] at HF
 go_wp2
 simp [bodyPost,results,Tryz.results223,go_sem]
 exact HF.out
end
end Rf
namespace Rf
open Go.RowKit Par
section
variable {p:List Nd}{k:Int}{a:Nat}{t:ByteArray}{n:Int}{Q B:Nat}{R:Res (List Ast)}{md:List Nd}{E:Env}{v:Value}{kvs:List Value}{d:Int}{w w':World}{i:Nat}
theorem stmt_6 {r:Nat}{ks:List Ast}(hbk:HasB r)(hs:Sh p k a t n Q B (.ok ks (RT E i::E.pts.drop (i+1))) md)(h:RS E v kvs md i (64-(r:Int)) 0 w)(hr:r≤64)(hQ:Q+20*r+24≤B∧Q≤200000)(hj:words13.idxOf (RT E i).txt=6) :
 Calls Tryz.prog 223 #[.pointer (some ⟨E.b,0,none⟩),.int .i64 (p.length:Int)] w fun x w'=>x=.returned (.tuple #[])∧In E p k a t n (64-(r:Int)) Q B (knd (.ok ks (RT E i::E.pts.drop (i+1))) (stmtP r (blockP r))) w':=by
 obtain ⟨c0,c1,_,_,c4⟩:=h.rowCells
 obtain ⟨k0,_,_,_⟩:=h.tokCells
 have b0:(0:Int)≤(i:Int):=by omega
 have b1:(i:Int)<(E.toks.length:Int):=by have:=h.it;omega
 have hcap:=h.cap
 have hwj:=word13_ne (j:=6) (by decide)
 have ht:(RT E i).kind=1:=pt_word h.ptOk (words13.getD 6 none0) hwj.2 hwj.1 (word13 hj (by decide))
 have hb:((RT E i).kind==1)=true:=by simp [ht]
 have HN:Hid ((RT E i).txt≠none0):=lh (by rw [word13 hj (by decide)];exact hwj.1)
 have HH:=lh h
 have HSh:=lh hs
 have HQ:=lh hQ
 have HR:=lh hr
 have HJ:=lh hj
 have HBK:=lh hbk
 have HB:Hid (Q+20*r+24≤400000):=lh (by omega)
 have HK0:Hid (kindW (RT E i).txt=13):=lh (by unfold kindW;rw [hj];rfl)
 clear h hs hQ hj hbk hr ht hwj
 generalize (RT E i).kind=kd at *
 go_enter Tryz.func223,Tryz.ntmps223
 go_wp2_with fail
 go_quiet (fail)
 have HD:=lh (HH.out.drewN nq)
 have C1:=lh (text_at HD.out)
 generalize w.drewN nq=w1 at *
 clear c0 c1 c4 k0
 go_wp2_with fail
 (with_reducible refine C1.out.mono ?_)
 rintro x wd ⟨rfl,m,rfl⟩
 have H2:=lh (HD.out.drewN m)
 generalize w1.drewN m=w2 at *
 clear C1
 have C2:Hid (Calls Tryz.prog 255 #[.string (RT E i).txt] w2 fun x w'=>x=.returned (.int .u8 13)∧w'=w2.alloc (.cells C13 9)):=lh (by have:=kind_at w2 (RT E i).txt;rw [HK0.out] at this;exact this)
 go_wp2_with fail
 (with_reducible refine C2.out.mono ?_)
 rintro x wd ⟨rfl,rfl⟩
 have H3:=lh (In.of_first HSh.out (H2.out.alloc (.cells C13 9)) (Q+20*r+12))
 generalize w2.alloc (.cells C13 9)=w3 at *
 clear C2
 have C4:=lh (kid_I H3.out (by omega) (by have:=HB.out;omega))
 go_wp2_with fail
 (with_reducible refine C4.out.mono ?_)
 rintro x w4 ⟨rfl,v4,kvs4,p2,ho,h4⟩
 have HO:=lh ho
 have C5:=lh (node_I ho h4 (by omega) (by have:=HB.out;omega) 13)
 clear C4 ho h4
 go_wp2_with fail
 (with_reducible refine C5.out.mono ?_)
 rintro x w5 ⟨rfl,h5⟩
 have h5:In E p2 13 (RT E i).at' none0 0 (64-(r:Int)) (Q+1) (Q+20*r+12+1) (.ok [] (RT E i::E.pts.drop (i+1))) w5:=h5
 obtain ⟨i6,h63,c16,cz6,h6⟩:=inc_ok h5 (by omega) HN.out
 have H6:=lh h6
 clear C5 h5 h6
 go_upto_region 8 with fail
 generalize w5.setCell ⟨E.b,1,none⟩ (.int .i64 ((i6:Int)+1))=w6 at *
 clear c16 cz6
 have C7:=lh (kid_I H6.out (by omega) (by have:=HB.out;omega))
 go_wp2_with fail
 (with_reducible refine C7.out.mono ?_)
 rintro x w7 ⟨rfl,v7,kvs7,p3,ho,h7⟩
 have HO2:=lh ho
 have C8:=lh (node_I ho h7 (by omega) (by have:=HB.out;omega) 5)
 clear C7 ho h7
 go_wp2_with fail
 (with_reducible refine C8.out.mono ?_)
 rintro x w8 ⟨rfl,h8⟩
 have h8:In E p3 5 (hda (Res.ok [] (E.pts.drop (i+1)):Res (List Ast))) none0 0 (64-(r:Int)) (Q+1) (Q+20*r+12+1+1) (.ok [] (E.pts.drop (i+1))) w8:=h8
 have H8:=lh h8
 clear C8 h8
 obtain ⟨g9,len9,cap9,hn9,hc9⟩:=name_IT H8.out.drew (by have:=HQ.out;omega)
 have c39:=hn9.c3
 have b09:(0:Int)≤(p3.length:Int):=by omega
 have b19:(p3.length:Int)<(len9:Int):=by have:=hn9.lt;omega
 have gb9:=hn9.gb
 have NM9:=lh hc9
 clear hn9 hc9
 go_wp2_with fail
 go_region_held3 (fun w'=>w'.cell? ⟨E.b,3,none⟩=some (.slice (some ⟨g9,0,none⟩) len9 cap9)) (first|exact c39|exact k39|exact (World.cell?_of_block (w:=v9) (a:=⟨E.b,3,none⟩) (Below.heap_setCell _ _ _ _ gb9)).trans k39)
  (first
   | (go_at_call 163;(with_reducible refine NM9.out.mono ?_);rintro x v9 ⟨s9,rfl,hd9,hm9,hi9⟩;have k39:=hm9.c3;have z59:=hm9.fz 2;obtain ⟨t59,k59⟩:=hm9.t0;have H9:=lh hi9;have HD9:=lh hd9;clear hm9 hi9 hd9))
 generalize v9.setCell ⟨g9,p3.length*5+2,none⟩ (.string s9)=w9 at *
 clear c39 k39 z59 k59 NM9
 have C10:=lh (is_I H9.out ⟨#[91]⟩ (by decide) (by decide))
 obtain ⟨b10,y10⟩:=H9.out.look ⟨#[91]⟩
 rw [y10] at C10
 have HY10:=lh y10
 have HN10:=lh H9.out.ne
 clear y10
 go_wp2_with fail
 (with_reducible refine C10.out.mono ?_)
 rintro x wd ⟨rfl,m,rfl⟩
 have H10:=lh (H9.out.drewN m)
 generalize w9.drewN m=w10 at *
 clear C10
 cases b10 with
 | true =>
  obtain ⟨g11,len11,cap11,hn11,_,_,hs11⟩:=H10.out.nod
  have c311:=hn11.c3
  have z311:w10.frozen? ⟨g11,p3.length*5,none⟩=false:=hn11.fz 0
  obtain ⟨o11,f11⟩:=hn11.k0
  have b011:(0:Int)≤(p3.length:Int):=by omega
  have b111:(p3.length:Int)<(len11:Int):=by have:=hn11.lt;omega
  have H11:=lh (hs11 20)
  clear hn11 hs11
  go_upto_region 53 with fail
  generalize w10.setCell ⟨g11,p3.length*5,none⟩ (.int .u8 20)=w11 at *
  clear c311 z311 f11
  have C12:=lh (bracket_I H11.out HR.out (by have:=HQ.out;omega) (by have:=HB.out;omega))
  go_wp2_with fail
  (with_reducible refine C12.out.mono ?_)
  rintro x w12 ⟨rfl,h12⟩
  have H12:=lh h12
  clear C12 h12
  have HI:=lh (In.close (B':=Q+20*r+16) HO2.out (H12.out.mono (Nat.le_refl _) (by omega)) (by omega) (by omega) (fun q c e=>by cases e))
  have C13:=lh (take_I HI.out (by have:=HQ.out;omega) ⟨#[59]⟩ (by decide) (by decide))
  go_wp2_with fail
  (with_reducible refine C13.out.mono ?_)
  rintro x w13 ⟨rfl,h13⟩
  have H13:=lh h13
  clear C13 h13
  have HF:=lh (In.close (B':=B) HO.out (H13.out.mono (Nat.le_refl _) (B':=B) (by have:=HQ.out;omega)) (by omega) (by have:=HQ.out;omega) (fun q c e=>by cases e))
  rw [stmt_eq HJ.out (by decide) (eq6y (r:=r) HD9.out HY10.out)] at HF
  go_wp2
  simp [bodyPost,results,Tryz.results223,go_sem]
  exact HF.out
 | false =>
  have HI:=lh (In.close (B':=Q+20*r+16) HO2.out (H10.out.mono (Nat.le_refl _) (by omega)) (by omega) (by omega) (fun q c e=>by cases e))
  have C14:=lh (take_I HI.out (by have:=HQ.out;omega) ⟨#[59]⟩ (by decide) (by decide))
  go_wp2_with fail
  (with_reducible refine C14.out.mono ?_)
  rintro x w14 ⟨rfl,h14⟩
  have H14:=lh h14
  clear C14 h14
  have HF:=lh (In.close (B':=B) HO.out (H14.out.mono (Nat.le_refl _) (B':=B) (by have:=HQ.out;omega)) (by omega) (by have:=HQ.out;omega) (fun q c e=>by cases e))
  rw [stmt_eq HJ.out (by decide) (eq6n (r:=r) HD9.out HY10.out HN10.out)] at HF
  go_wp2
  simp [bodyPost,results,Tryz.results223,go_sem]
  exact HF.out
end
end Rf
namespace Rf
open Go.RowKit Par
section
variable {p:List Nd}{k:Int}{a:Nat}{t:ByteArray}{n:Int}{Q B:Nat}{R:Res (List Ast)}{md:List Nd}{E:Env}{v:Value}{kvs:List Value}{d:Int}{w w':World}{i:Nat}
theorem stmt_12 {r:Nat}{ks:List Ast}(hbk:HasB r)(hs:Sh p k a t n Q B (.ok ks (RT E i::E.pts.drop (i+1))) md)(h:RS E v kvs md i (64-(r:Int)) 0 w)(hr:r≤64)(hQ:Q+20*r+24≤B∧Q≤200000)(hj:words13.idxOf (RT E i).txt=12) :
 Calls Tryz.prog 223 #[.pointer (some ⟨E.b,0,none⟩),.int .i64 (p.length:Int)] w fun x w'=>x=.returned (.tuple #[])∧In E p k a t n (64-(r:Int)) Q B (knd (.ok ks (RT E i::E.pts.drop (i+1))) (stmtP r (blockP r))) w':=by
 obtain ⟨c0,c1,_,_,c4⟩:=h.rowCells
 obtain ⟨k0,_,_,_⟩:=h.tokCells
 have b0:(0:Int)≤(i:Int):=by omega
 have b1:(i:Int)<(E.toks.length:Int):=by have:=h.it;omega
 have hcap:=h.cap
 have hwj:=word13_ne (j:=12) (by decide)
 have ht:(RT E i).kind=1:=pt_word h.ptOk (words13.getD 12 none0) hwj.2 hwj.1 (word13 hj (by decide))
 have hb:((RT E i).kind==1)=true:=by simp [ht]
 have HN:Hid ((RT E i).txt≠none0):=lh (by rw [word13 hj (by decide)];exact hwj.1)
 have HH:=lh h
 have HSh:=lh hs
 have HQ:=lh hQ
 have HR:=lh hr
 have HJ:=lh hj
 have HBK:=lh hbk
 have HB:Hid (Q+20*r+24≤400000):=lh (by omega)
 have HK0:Hid (kindW (RT E i).txt=19):=lh (by unfold kindW;rw [hj];rfl)
 clear h hs hQ hj hbk hr ht hwj
 generalize (RT E i).kind=kd at *
 go_enter Tryz.func223,Tryz.ntmps223
 go_wp2_with fail
 go_quiet (fail)
 have HD:=lh (HH.out.drewN nq)
 have C1:=lh (text_at HD.out)
 generalize w.drewN nq=w1 at *
 clear c0 c1 c4 k0
 go_wp2_with fail
 (with_reducible refine C1.out.mono ?_)
 rintro x wd ⟨rfl,m,rfl⟩
 have H2:=lh (HD.out.drewN m)
 generalize w1.drewN m=w2 at *
 clear C1
 have C2:Hid (Calls Tryz.prog 255 #[.string (RT E i).txt] w2 fun x w'=>x=.returned (.int .u8 19)∧w'=w2.alloc (.cells C13 9)):=lh (by have:=kind_at w2 (RT E i).txt;rw [HK0.out] at this;exact this)
 go_wp2_with fail
 (with_reducible refine C2.out.mono ?_)
 rintro x wd ⟨rfl,rfl⟩
 have H3:=lh (In.of_first HSh.out (H2.out.alloc (.cells C13 9)) (Q+20*r+12))
 generalize w2.alloc (.cells C13 9)=w3 at *
 clear C2
 have C4:=lh (kid_I H3.out (by omega) (by have:=HB.out;omega))
 go_wp2_with fail
 (with_reducible refine C4.out.mono ?_)
 rintro x w4 ⟨rfl,v4,kvs4,p2,ho,h4⟩
 have HO:=lh ho
 have C5:=lh (node_I ho h4 (by omega) (by have:=HB.out;omega) 19)
 clear C4 ho h4
 go_wp2_with fail
 (with_reducible refine C5.out.mono ?_)
 rintro x w5 ⟨rfl,h5⟩
 have h5:In E p2 19 (RT E i).at' none0 0 (64-(r:Int)) (Q+1) (Q+20*r+12+1) (.ok [] (RT E i::E.pts.drop (i+1))) w5:=h5
 obtain ⟨i6,h63,c16,cz6,h6⟩:=inc_ok h5 (by omega) HN.out
 have H6:=lh h6
 clear C5 h5 h6
 go_upto_region 8 with fail
 generalize w5.setCell ⟨E.b,1,none⟩ (.int .i64 ((i6:Int)+1))=w6 at *
 clear c16 cz6
 have C7:=lh (take_I H6.out (by have:=HQ.out;omega) ⟨#[59]⟩ (by decide) (by decide))
 go_wp2_with fail
 (with_reducible refine C7.out.mono ?_)
 rintro x w7 ⟨rfl,h7⟩
 have H7:=lh h7
 clear C7 h7
 have HF:=lh (In.close (B':=B) HO.out (H7.out.mono (Nat.le_refl _) (B':=B) (by have:=HQ.out;omega)) (by omega) (by have:=HQ.out;omega) (fun q c e=>by cases e))
 rw [stmt_eq HJ.out (by decide) (eq12 (r:=r))] at HF
 go_wp2
 simp [bodyPost,results,Tryz.results223,go_sem]
 exact HF.out
end
end Rf
end Go.Proofs.YthdioipfdbbmmaaGreatDoor
