/- Contracts. -/
import Derived.Test.YthdioipfdbbmmaaGreatDoorHab
import Derived.Test.YthdioipfdbbmmaaGreatDoorHar
import Derived.Test.YthdioipfdbbmmaaGreatDoorHaz
import Derived.Test.YthdioipfdbbmmaaGreatDoorHbc
import Derived.Test.YthdioipfdbbmmaaGreatDoorHbd
import Derived.Test.YthdioipfdbbmmaaGreatDoorHbe
import Derived.Deep.LoopGhost
import Derived.Deep.RegionHeld3
import Derived.Deep.Cut
set_option linter.all false
set_option maxRecDepth 1000000
set_option maxHeartbeats 16000000
namespace Go.Proofs.YthdioipfdbbmmaaGreatDoor
namespace Rf
open Go.RowKit Par
section
variable {p:List Nd}{k:Int}{a:Nat}{t:ByteArray}{n:Int}{Q B:Nat}{R:Res (List Ast)}{md:List Nd}{E:Env}{v:Value}{kvs:List Value}{d:Int}{w w':World}{i:Nat}
theorem stmt_0 {r:Nat}{ks:List Ast}(hbk:HasB r)(hs:Sh p k a t n Q B (.ok ks (RT E i::E.pts.drop (i+1))) md)(h:RS E v kvs md i (64-(r:Int)) 0 w)(hr:r≤64)(hQ:Q+20*r+24≤B∧Q≤200000)(hj:words13.idxOf (RT E i).txt=0) :
 Calls Tryz.prog 223 #[.pointer (some ⟨E.b,0,none⟩),.int .i64 (p.length:Int)] w fun x w'=>x=.returned (.tuple #[])∧In E p k a t n (64-(r:Int)) Q B (knd (.ok ks (RT E i::E.pts.drop (i+1))) (stmtP r (blockP r))) w':=by
 obtain ⟨c0,c1,_,_,c4⟩:=h.rowCells
 obtain ⟨k0,_,_,_⟩:=h.tokCells
 have b0:(0:Int)≤(i:Int):=by omega
 have b1:(i:Int)<(E.toks.length:Int):=by have:=h.it;omega
 have hcap:=h.cap
 have hwj:=word13_ne (j:=0) (by decide)
 have ht:(RT E i).kind=1:=pt_word h.ptOk (words13.getD 0 none0) hwj.2 hwj.1 (word13 hj (by decide))
 have hb:((RT E i).kind==1)=true:=by simp [ht]
 have HN:Hid ((RT E i).txt≠none0):=lh (by rw [word13 hj (by decide)];exact hwj.1)
 have HH:=lh h
 have HSh:=lh hs
 have HQ:=lh hQ
 have HR:=lh hr
 have HJ:=lh hj
 have HBK:=lh hbk
 have HB:Hid (Q+20*r+24≤400000):=lh (by omega)
 have HK0:Hid (kindW (RT E i).txt=7):=lh (by unfold kindW;rw [hj];rfl)
 clear h hs hQ hj hbk hr ht hwj
 generalize (RT E i).kind=kd at *
 go_enter Tryz.func223,Tryz.ntmps223
 go_wp2_with fail
 go_quiet (fail)
 have HD:=lh (HH.out.drewN nq)
 have C1:=lh (text_at HD.out)
 generalize w.drewN nq=w1 at *
 clear c0 c1 c4 k0
 go_wp2_with fail
 (with_reducible refine C1.out.mono ?_)
 rintro x wd ⟨rfl,m,rfl⟩
 have H2:=lh (HD.out.drewN m)
 generalize w1.drewN m=w2 at *
 clear C1
 have C2:Hid (Calls Tryz.prog 255 #[.string (RT E i).txt] w2 fun x w'=>x=.returned (.int .u8 7)∧w'=w2.alloc (.cells C13 9)):=lh (by have:=kind_at w2 (RT E i).txt;rw [HK0.out] at this;exact this)
 go_wp2_with fail
 (with_reducible refine C2.out.mono ?_)
 rintro x wd ⟨rfl,rfl⟩
 have H3:=lh (In.of_first HSh.out (H2.out.alloc (.cells C13 9)) (Q+20*r+12))
 generalize w2.alloc (.cells C13 9)=w3 at *
 clear C2
 have C4:=lh (kid_I H3.out (by omega) (by have:=HB.out;omega))
 go_wp2_with fail
 (with_reducible refine C4.out.mono ?_)
 rintro x w4 ⟨rfl,v4,kvs4,p2,ho,h4⟩
 have HO:=lh ho
 have C5:=lh (node_I ho h4 (by omega) (by have:=HB.out;omega) 7)
 clear C4 ho h4
 go_wp2_with fail
 (with_reducible refine C5.out.mono ?_)
 rintro x w5 ⟨rfl,h5⟩
 have h5:In E p2 7 (RT E i).at' none0 0 (64-(r:Int)) (Q+1) (Q+20*r+12+1) (.ok [] (RT E i::E.pts.drop (i+1))) w5:=h5
 obtain ⟨i6,h63,c16,cz6,h6⟩:=inc_ok h5 (by omega) HN.out
 have H6:=lh h6
 clear C5 h5 h6
 go_upto_region 8 with fail
 generalize w5.setCell ⟨E.b,1,none⟩ (.int .i64 ((i6:Int)+1))=w6 at *
 clear c16 cz6
 obtain ⟨g7,len7,cap7,hn7,hc7⟩:=name_I H6.out.drew (by have:=HQ.out;omega)
 have c37:=hn7.c3
 have b07:(0:Int)≤(p2.length:Int):=by omega
 have b17:(p2.length:Int)<(len7:Int):=by have:=hn7.lt;omega
 have gb7:=hn7.gb
 have NM7:=lh hc7
 clear hn7 hc7
 go_wp2_with fail
 go_region_held3 (fun w'=>w'.cell? ⟨E.b,3,none⟩=some (.slice (some ⟨g7,0,none⟩) len7 cap7)) (first|exact c37|exact k37|exact (World.cell?_of_block (w:=v7) (a:=⟨E.b,3,none⟩) (Below.heap_setCell _ _ _ _ gb7)).trans k37)
  (first
   | (go_at_call 163;(with_reducible refine NM7.out.mono ?_);rintro x v7 ⟨s7,rfl,hd7,hm7,hi7⟩;have k37:=hm7.c3;have z57:=hm7.fz 2;obtain ⟨t57,k57⟩:=hm7.t0;have H7:=lh hi7;have HD7:=lh hd7;clear hm7 hi7 hd7))
 generalize v7.setCell ⟨g7,p2.length*5+2,none⟩ (.string s7)=w7 at *
 clear c37 k37 z57 k57 NM7
 have C8:=lh (take_I H7.out (by have:=HQ.out;omega) ⟨#[61]⟩ (by decide) (by decide))
 go_wp2_with fail
 (with_reducible refine C8.out.mono ?_)
 rintro x w8 ⟨rfl,h8⟩
 have H8:=lh h8
 clear C8 h8
 have C9:=lh (row_I H8.out HR.out (by have:=HQ.out;omega) (by have:=HB.out;omega))
 go_wp2_with fail
 (with_reducible refine C9.out.mono ?_)
 rintro x w9 ⟨rfl,h9⟩
 have H9:=lh h9
 clear C9 h9
 have C10:=lh (take_I H9.out (by have:=HQ.out;omega) ⟨#[46]⟩ (by decide) (by decide))
 go_wp2_with fail
 (with_reducible refine C10.out.mono ?_)
 rintro x w10 ⟨rfl,h10⟩
 have H10:=lh h10
 clear C10 h10
 have C11:=lh (word_I H10.out (by have:=HQ.out;omega) (by have:=HB.out;omega))
 go_wp2_with fail
 (with_reducible refine C11.out.mono ?_)
 rintro x w11 ⟨rfl,h11⟩
 have H11:=lh h11
 clear C11 h11
 have C12:=lh (is_I H11.out ⟨#[102,111,114]⟩ (by decide) (by decide))
 obtain ⟨b12,y12⟩:=H11.out.look ⟨#[102,111,114]⟩
 rw [y12] at C12
 have HY12:=lh y12
 have HN12:=lh H11.out.ne
 clear y12
 go_wp2_with fail
 (with_reducible refine C12.out.mono ?_)
 rintro x wd ⟨rfl,m,rfl⟩
 have H12:=lh (H11.out.drewN m)
 generalize w11.drewN m=w12 at *
 clear C12
 cases b12 with
 | true =>
  obtain ⟨i13,h6313,c113,cz13,h13⟩:=(H12.out.mono (Nat.le_succ _) (Nat.le_refl _)).inc (by have:=HQ.out;omega) (by decide) HY12.out
  have H13:=lh h13
  clear h13
  go_upto_region 17 with fail
  generalize w12.setCell ⟨E.b,1,none⟩ (.int .i64 ((i13:Int)+1))=w13 at *
  clear c113 cz13
  have C14:=lh (take_I H13.out (by have:=HQ.out;omega) ⟨#[117,112,100,97,116,101]⟩ (by decide) (by decide))
  go_wp2_with fail
  (with_reducible refine C14.out.mono ?_)
  rintro x w14 ⟨rfl,h14⟩
  have H14:=lh h14
  clear C14 h14
  obtain ⟨g15,len15,cap15,hn15,_,hs15,_⟩:=H14.out.nod
  have c315:=hn15.c3
  have z315:w14.frozen? ⟨g15,p2.length*5+3,none⟩=false:=hn15.fz 3
  obtain ⟨o15,f15⟩:=hn15.n0
  have b015:(0:Int)≤(p2.length:Int):=by omega
  have b115:(p2.length:Int)<(len15:Int):=by have:=hn15.lt;omega
  have H15:=lh (hs15 1)
  clear hn15 hs15
  go_upto_region 64 with fail
  generalize w14.setCell ⟨g15,p2.length*5+3,none⟩ (.int .i64 1)=w15 at *
  clear c315 z315 f15
  have C16:=lh (take_I H15.out (by have:=HQ.out;omega) ⟨#[59]⟩ (by decide) (by decide))
  go_wp2_with fail
  (with_reducible refine C16.out.mono ?_)
  rintro x w16 ⟨rfl,h16⟩
  have H16:=lh h16
  clear C16 h16
  have HF:=lh (In.close (B':=B) HO.out (H16.out.mono (Nat.le_refl _) (B':=B) (by have:=HQ.out;omega)) (by omega) (by have:=HQ.out;omega) (fun q c e=>by cases e))
  rw [stmt_eq HJ.out (by decide) (eq0y (r:=r) HD7.out HY12.out)] at HF
  go_wp2
  simp [bodyPost,results,Tryz.results223,go_sem]
  exact HF.out
 | false =>
  have C17:=lh (take_I H12.out (by have:=HQ.out;omega) ⟨#[59]⟩ (by decide) (by decide))
  go_wp2_with fail
  (with_reducible refine C17.out.mono ?_)
  rintro x w17 ⟨rfl,h17⟩
  have H17:=lh h17
  clear C17 h17
  have HF:=lh (In.close (B':=B) HO.out (H17.out.mono (Nat.le_refl _) (B':=B) (by have:=HQ.out;omega)) (by omega) (by have:=HQ.out;omega) (fun q c e=>by cases e))
  rw [stmt_eq HJ.out (by decide) (eq0n (r:=r) HD7.out HY12.out HN12.out)] at HF
  go_wp2
  simp [bodyPost,results,Tryz.results223,go_sem]
  exact HF.out
end
end Rf
namespace Rf
open Go.RowKit Par
section
variable {p:List Nd}{k:Int}{a:Nat}{t:ByteArray}{n:Int}{Q B:Nat}{R:Res (List Ast)}{md:List Nd}{E:Env}{v:Value}{kvs:List Value}{d:Int}{w w':World}{i:Nat}
theorem stmt_1 {r:Nat}{ks:List Ast}(hbk:HasB r)(hs:Sh p k a t n Q B (.ok ks (RT E i::E.pts.drop (i+1))) md)(h:RS E v kvs md i (64-(r:Int)) 0 w)(hr:r≤64)(hQ:Q+20*r+24≤B∧Q≤200000)(hj:words13.idxOf (RT E i).txt=1) :
 Calls Tryz.prog 223 #[.pointer (some ⟨E.b,0,none⟩),.int .i64 (p.length:Int)] w fun x w'=>x=.returned (.tuple #[])∧In E p k a t n (64-(r:Int)) Q B (knd (.ok ks (RT E i::E.pts.drop (i+1))) (stmtP r (blockP r))) w':=by
 obtain ⟨c0,c1,_,_,c4⟩:=h.rowCells
 obtain ⟨k0,_,_,_⟩:=h.tokCells
 have b0:(0:Int)≤(i:Int):=by omega
 have b1:(i:Int)<(E.toks.length:Int):=by have:=h.it;omega
 have hcap:=h.cap
 have hwj:=word13_ne (j:=1) (by decide)
 have ht:(RT E i).kind=1:=pt_word h.ptOk (words13.getD 1 none0) hwj.2 hwj.1 (word13 hj (by decide))
 have hb:((RT E i).kind==1)=true:=by simp [ht]
 have HN:Hid ((RT E i).txt≠none0):=lh (by rw [word13 hj (by decide)];exact hwj.1)
 have HH:=lh h
 have HSh:=lh hs
 have HQ:=lh hQ
 have HR:=lh hr
 have HJ:=lh hj
 have HBK:=lh hbk
 have HB:Hid (Q+20*r+24≤400000):=lh (by omega)
 have HK0:Hid (kindW (RT E i).txt=8):=lh (by unfold kindW;rw [hj];rfl)
 clear h hs hQ hj hbk hr ht hwj
 generalize (RT E i).kind=kd at *
 go_enter Tryz.func223,Tryz.ntmps223
 go_wp2_with fail
 go_quiet (fail)
 have HD:=lh (HH.out.drewN nq)
 have C1:=lh (text_at HD.out)
 generalize w.drewN nq=w1 at *
 clear c0 c1 c4 k0
 go_wp2_with fail
 (with_reducible refine C1.out.mono ?_)
 rintro x wd ⟨rfl,m,rfl⟩
 have H2:=lh (HD.out.drewN m)
 generalize w1.drewN m=w2 at *
 clear C1
 have C2:Hid (Calls Tryz.prog 255 #[.string (RT E i).txt] w2 fun x w'=>x=.returned (.int .u8 8)∧w'=w2.alloc (.cells C13 9)):=lh (by have:=kind_at w2 (RT E i).txt;rw [HK0.out] at this;exact this)
 go_wp2_with fail
 (with_reducible refine C2.out.mono ?_)
 rintro x wd ⟨rfl,rfl⟩
 have H3:=lh (In.of_first HSh.out (H2.out.alloc (.cells C13 9)) (Q+20*r+12))
 generalize w2.alloc (.cells C13 9)=w3 at *
 clear C2
 have C4:=lh (kid_I H3.out (by omega) (by have:=HB.out;omega))
 go_wp2_with fail
 (with_reducible refine C4.out.mono ?_)
 rintro x w4 ⟨rfl,v4,kvs4,p2,ho,h4⟩
 have HO:=lh ho
 have C5:=lh (node_I ho h4 (by omega) (by have:=HB.out;omega) 8)
 clear C4 ho h4
 go_wp2_with fail
 (with_reducible refine C5.out.mono ?_)
 rintro x w5 ⟨rfl,h5⟩
 have h5:In E p2 8 (RT E i).at' none0 0 (64-(r:Int)) (Q+1) (Q+20*r+12+1) (.ok [] (RT E i::E.pts.drop (i+1))) w5:=h5
 obtain ⟨i6,h63,c16,cz6,h6⟩:=inc_ok h5 (by omega) HN.out
 have H6:=lh h6
 clear C5 h5 h6
 go_upto_region 8 with fail
 generalize w5.setCell ⟨E.b,1,none⟩ (.int .i64 ((i6:Int)+1))=w6 at *
 clear c16 cz6
 have C7:=lh (row_I H6.out HR.out (by have:=HQ.out;omega) (by have:=HB.out;omega))
 go_wp2_with fail
 (with_reducible refine C7.out.mono ?_)
 rintro x w7 ⟨rfl,h7⟩
 have H7:=lh h7
 clear C7 h7
 have C8:=lh (take_I H7.out (by have:=HQ.out;omega) ⟨#[46]⟩ (by decide) (by decide))
 go_wp2_with fail
 (with_reducible refine C8.out.mono ?_)
 rintro x w8 ⟨rfl,h8⟩
 have H8:=lh h8
 clear C8 h8
 have C9:=lh (word_I H8.out (by have:=HQ.out;omega) (by have:=HB.out;omega))
 go_wp2_with fail
 (with_reducible refine C9.out.mono ?_)
 rintro x w9 ⟨rfl,h9⟩
 have H9:=lh h9
 clear C9 h9
 have C10:=lh (take_I H9.out (by have:=HQ.out;omega) ⟨#[61]⟩ (by decide) (by decide))
 go_wp2_with fail
 (with_reducible refine C10.out.mono ?_)
 rintro x w10 ⟨rfl,h10⟩
 have H10:=lh h10
 clear C10 h10
 have C11:=lh (expr_I H10.out HR.out (by have:=HQ.out;omega) (by have:=HB.out;omega))
 go_wp2_with fail
 (with_reducible refine C11.out.mono ?_)
 rintro x w11 ⟨rfl,h11⟩
 have H11:=lh h11
 clear C11 h11
 have C12:=lh (take_I H11.out (by have:=HQ.out;omega) ⟨#[59]⟩ (by decide) (by decide))
 go_wp2_with fail
 (with_reducible refine C12.out.mono ?_)
 rintro x w12 ⟨rfl,h12⟩
 have H12:=lh h12
 clear C12 h12
 have HF:=lh (In.close (B':=B) HO.out (H12.out.mono (Nat.le_refl _) (B':=B) (by have:=HQ.out;omega)) (by omega) (by have:=HQ.out;omega) (fun q c e=>by cases e))
 rw [stmt_eq HJ.out (by decide) (eq1 (r:=r))] at HF
 go_wp2
 simp [bodyPost,results,Tryz.results223,go_sem]
 exact HF.out
end
end Rf
namespace Rf
open Go.RowKit Par
section
variable {p:List Nd}{k:Int}{a:Nat}{t:ByteArray}{n:Int}{Q B:Nat}{R:Res (List Ast)}{md:List Nd}{E:Env}{v:Value}{kvs:List Value}{d:Int}{w w':World}{i:Nat}
theorem stmt_9 {r:Nat}{ks:List Ast}(hbk:HasB r)(hs:Sh p k a t n Q B (.ok ks (RT E i::E.pts.drop (i+1))) md)(h:RS E v kvs md i (64-(r:Int)) 0 w)(hr:r≤64)(hQ:Q+20*r+24≤B∧Q≤200000)(hj:words13.idxOf (RT E i).txt=9) :
 Calls Tryz.prog 223 #[.pointer (some ⟨E.b,0,none⟩),.int .i64 (p.length:Int)] w fun x w'=>x=.returned (.tuple #[])∧In E p k a t n (64-(r:Int)) Q B (knd (.ok ks (RT E i::E.pts.drop (i+1))) (stmtP r (blockP r))) w':=by
 obtain ⟨c0,c1,_,_,c4⟩:=h.rowCells
 obtain ⟨k0,_,_,_⟩:=h.tokCells
 have b0:(0:Int)≤(i:Int):=by omega
 have b1:(i:Int)<(E.toks.length:Int):=by have:=h.it;omega
 have hcap:=h.cap
 have hwj:=word13_ne (j:=9) (by decide)
 have ht:(RT E i).kind=1:=pt_word h.ptOk (words13.getD 9 none0) hwj.2 hwj.1 (word13 hj (by decide))
 have hb:((RT E i).kind==1)=true:=by simp [ht]
 have HN:Hid ((RT E i).txt≠none0):=lh (by rw [word13 hj (by decide)];exact hwj.1)
 have HH:=lh h
 have HSh:=lh hs
 have HQ:=lh hQ
 have HR:=lh hr
 have HJ:=lh hj
 have HBK:=lh hbk
 have HB:Hid (Q+20*r+24≤400000):=lh (by omega)
 have HK0:Hid (kindW (RT E i).txt=16):=lh (by unfold kindW;rw [hj];rfl)
 clear h hs hQ hj hbk hr ht hwj
 generalize (RT E i).kind=kd at *
 go_enter Tryz.func223,Tryz.ntmps223
 go_wp2_with fail
 go_quiet (fail)
 have HD:=lh (HH.out.drewN nq)
 have C1:=lh (text_at HD.out)
 generalize w.drewN nq=w1 at *
 clear c0 c1 c4 k0
 go_wp2_with fail
 (with_reducible refine C1.out.mono ?_)
 rintro x wd ⟨rfl,m,rfl⟩
 have H2:=lh (HD.out.drewN m)
 generalize w1.drewN m=w2 at *
 clear C1
 have C2:Hid (Calls Tryz.prog 255 #[.string (RT E i).txt] w2 fun x w'=>x=.returned (.int .u8 16)∧w'=w2.alloc (.cells C13 9)):=lh (by have:=kind_at w2 (RT E i).txt;rw [HK0.out] at this;exact this)
 go_wp2_with fail
 (with_reducible refine C2.out.mono ?_)
 rintro x wd ⟨rfl,rfl⟩
 have H3:=lh (In.of_first HSh.out (H2.out.alloc (.cells C13 9)) (Q+20*r+12))
 generalize w2.alloc (.cells C13 9)=w3 at *
 clear C2
 have C4:=lh (kid_I H3.out (by omega) (by have:=HB.out;omega))
 go_wp2_with fail
 (with_reducible refine C4.out.mono ?_)
 rintro x w4 ⟨rfl,v4,kvs4,p2,ho,h4⟩
 have HO:=lh ho
 have C5:=lh (node_I ho h4 (by omega) (by have:=HB.out;omega) 16)
 clear C4 ho h4
 go_wp2_with fail
 (with_reducible refine C5.out.mono ?_)
 rintro x w5 ⟨rfl,h5⟩
 have h5:In E p2 16 (RT E i).at' none0 0 (64-(r:Int)) (Q+1) (Q+20*r+12+1) (.ok [] (RT E i::E.pts.drop (i+1))) w5:=h5
 obtain ⟨i6,h63,c16,cz6,h6⟩:=inc_ok h5 (by omega) HN.out
 have H6:=lh h6
 clear C5 h5 h6
 go_upto_region 8 with fail
 generalize w5.setCell ⟨E.b,1,none⟩ (.int .i64 ((i6:Int)+1))=w6 at *
 clear c16 cz6
 obtain ⟨g7,len7,cap7,hn7,hc7⟩:=name_I H6.out.drew (by have:=HQ.out;omega)
 have c37:=hn7.c3
 have b07:(0:Int)≤(p2.length:Int):=by omega
 have b17:(p2.length:Int)<(len7:Int):=by have:=hn7.lt;omega
 have gb7:=hn7.gb
 have NM7:=lh hc7
 clear hn7 hc7
 go_wp2_with fail
 go_region_held3 (fun w'=>w'.cell? ⟨E.b,3,none⟩=some (.slice (some ⟨g7,0,none⟩) len7 cap7)) (first|exact c37|exact k37|exact (World.cell?_of_block (w:=v7) (a:=⟨E.b,3,none⟩) (Below.heap_setCell _ _ _ _ gb7)).trans k37)
  (first
   | (go_at_call 163;(with_reducible refine NM7.out.mono ?_);rintro x v7 ⟨s7,rfl,hd7,hm7,hi7⟩;have k37:=hm7.c3;have z57:=hm7.fz 2;obtain ⟨t57,k57⟩:=hm7.t0;have H7:=lh hi7;have HD7:=lh hd7;clear hm7 hi7 hd7))
 generalize v7.setCell ⟨g7,p2.length*5+2,none⟩ (.string s7)=w7 at *
 clear c37 k37 z57 k57 NM7
 have C8:=lh (take_I H7.out (by have:=HQ.out;omega) ⟨#[61]⟩ (by decide) (by decide))
 go_wp2_with fail
 (with_reducible refine C8.out.mono ?_)
 rintro x w8 ⟨rfl,h8⟩
 have H8:=lh h8
 clear C8 h8
 have C9:=lh (expr_I H8.out HR.out (by have:=HQ.out;omega) (by have:=HB.out;omega))
 go_wp2_with fail
 (with_reducible refine C9.out.mono ?_)
 rintro x w9 ⟨rfl,h9⟩
 have H9:=lh h9
 clear C9 h9
 have C10:=lh (take_I H9.out (by have:=HQ.out;omega) ⟨#[59]⟩ (by decide) (by decide))
 go_wp2_with fail
 (with_reducible refine C10.out.mono ?_)
 rintro x w10 ⟨rfl,h10⟩
 have H10:=lh h10
 clear C10 h10
 have HF:=lh (In.close (B':=B) HO.out (H10.out.mono (Nat.le_refl _) (B':=B) (by have:=HQ.out;omega)) (by omega) (by have:=HQ.out;omega) (fun q c e=>by cases e))
 rw [stmt_eq HJ.out (by decide) (eq9 (r:=r) HD7.out)] at HF
 go_wp2
 simp [bodyPost,results,Tryz.results223,go_sem]
 exact HF.out
end
end Rf
namespace Rf
open Go.RowKit Par
section
variable {p:List Nd}{k:Int}{a:Nat}{t:ByteArray}{n:Int}{Q B:Nat}{R:Res (List Ast)}{md:List Nd}{E:Env}{v:Value}{kvs:List Value}{d:Int}{w w':World}{i:Nat}
theorem stmt_11 {r:Nat}{ks:List Ast}(hbk:HasB r)(hs:Sh p k a t n Q B (.ok ks (RT E i::E.pts.drop (i+1))) md)(h:RS E v kvs md i (64-(r:Int)) 0 w)(hr:r≤64)(hQ:Q+20*r+24≤B∧Q≤200000)(hj:words13.idxOf (RT E i).txt=11) :
 Calls Tryz.prog 223 #[.pointer (some ⟨E.b,0,none⟩),.int .i64 (p.length:Int)] w fun x w'=>x=.returned (.tuple #[])∧In E p k a t n (64-(r:Int)) Q B (knd (.ok ks (RT E i::E.pts.drop (i+1))) (stmtP r (blockP r))) w':=by
 obtain ⟨c0,c1,_,_,c4⟩:=h.rowCells
 obtain ⟨k0,_,_,_⟩:=h.tokCells
 have b0:(0:Int)≤(i:Int):=by omega
 have b1:(i:Int)<(E.toks.length:Int):=by have:=h.it;omega
 have hcap:=h.cap
 have hwj:=word13_ne (j:=11) (by decide)
 have ht:(RT E i).kind=1:=pt_word h.ptOk (words13.getD 11 none0) hwj.2 hwj.1 (word13 hj (by decide))
 have hb:((RT E i).kind==1)=true:=by simp [ht]
 have HN:Hid ((RT E i).txt≠none0):=lh (by rw [word13 hj (by decide)];exact hwj.1)
 have HH:=lh h
 have HSh:=lh hs
 have HQ:=lh hQ
 have HR:=lh hr
 have HJ:=lh hj
 have HBK:=lh hbk
 have HB:Hid (Q+20*r+24≤400000):=lh (by omega)
 have HK0:Hid (kindW (RT E i).txt=18):=lh (by unfold kindW;rw [hj];rfl)
 clear h hs hQ hj hbk hr ht hwj
 generalize (RT E i).kind=kd at *
 go_enter Tryz.func223,Tryz.ntmps223
 go_wp2_with fail
 go_quiet (fail)
 have HD:=lh (HH.out.drewN nq)
 have C1:=lh (text_at HD.out)
 generalize w.drewN nq=w1 at *
 clear c0 c1 c4 k0
 go_wp2_with fail
 (with_reducible refine C1.out.mono ?_)
 rintro x wd ⟨rfl,m,rfl⟩
 have H2:=lh (HD.out.drewN m)
 generalize w1.drewN m=w2 at *
 clear C1
 have C2:Hid (Calls Tryz.prog 255 #[.string (RT E i).txt] w2 fun x w'=>x=.returned (.int .u8 18)∧w'=w2.alloc (.cells C13 9)):=lh (by have:=kind_at w2 (RT E i).txt;rw [HK0.out] at this;exact this)
 go_wp2_with fail
 (with_reducible refine C2.out.mono ?_)
 rintro x wd ⟨rfl,rfl⟩
 have H3:=lh (In.of_first HSh.out (H2.out.alloc (.cells C13 9)) (Q+20*r+12))
 generalize w2.alloc (.cells C13 9)=w3 at *
 clear C2
 have C4:=lh (kid_I H3.out (by omega) (by have:=HB.out;omega))
 go_wp2_with fail
 (with_reducible refine C4.out.mono ?_)
 rintro x w4 ⟨rfl,v4,kvs4,p2,ho,h4⟩
 have HO:=lh ho
 have C5:=lh (node_I ho h4 (by omega) (by have:=HB.out;omega) 18)
 clear C4 ho h4
 go_wp2_with fail
 (with_reducible refine C5.out.mono ?_)
 rintro x w5 ⟨rfl,h5⟩
 have h5:In E p2 18 (RT E i).at' none0 0 (64-(r:Int)) (Q+1) (Q+20*r+12+1) (.ok [] (RT E i::E.pts.drop (i+1))) w5:=h5
 obtain ⟨i6,h63,c16,cz6,h6⟩:=inc_ok h5 (by omega) HN.out
 have H6:=lh h6
 clear C5 h5 h6
 go_upto_region 8 with fail
 generalize w5.setCell ⟨E.b,1,none⟩ (.int .i64 ((i6:Int)+1))=w6 at *
 clear c16 cz6
 have C7:=lh (take_I H6.out (by have:=HQ.out;omega) ⟨#[59]⟩ (by decide) (by decide))
 go_wp2_with fail
 (with_reducible refine C7.out.mono ?_)
 rintro x w7 ⟨rfl,h7⟩
 have H7:=lh h7
 clear C7 h7
 have HF:=lh (In.close (B':=B) HO.out (H7.out.mono (Nat.le_refl _) (B':=B) (by have:=HQ.out;omega)) (by omega) (by have:=HQ.out;omega) (fun q c e=>by cases e))
 rw [stmt_eq HJ.out (by decide) (eq11 (r:=r))] at HF
 go_wp2
 simp [bodyPost,results,Tryz.results223,go_sem]
 exact HF.out
end
end Rf
namespace Rf
open Go.RowKit Par
theorem stmt_of {r:Nat}(hr:r≤64)(hbk:HasB r):HasS r:=by
 intro E p k a t n Q B ks l w h hQ
 obtain ⟨v,kvs,md,i,rfl,h1,hs⟩:=h.first
 by_cases hj:words13.idxOf (RT E i).txt<13
 · obtain ⟨j,he⟩:∃j,words13.idxOf (RT E i).txt=j:=⟨_,rfl⟩
   rw [he] at hj
   rcases (by omega:j=0∨j=1∨j=2∨j=3∨j=4∨j=5∨j=6∨j=7∨j=8∨j=9∨j=10∨j=11∨j=12) with rfl|rfl|rfl|rfl|rfl|rfl|rfl|rfl|rfl|rfl|rfl|rfl|rfl
   · exact stmt_0 hbk hs h1 hr hQ he
   · exact stmt_1 hbk hs h1 hr hQ he
   · exact stmt_2 hbk hs h1 hr hQ he
   · exact stmt_3 hbk hs h1 hr hQ he
   · exact stmt_4 hbk hs h1 hr hQ he
   · exact stmt_5 hbk hs h1 hr hQ he
   · exact stmt_6 hbk hs h1 hr hQ he
   · exact stmt_7 hbk hs h1 hr hQ he
   · exact stmt_8 hbk hs h1 hr hQ he
   · exact stmt_9 hbk hs h1 hr hQ he
   · exact stmt_10 hbk hs h1 hr hQ he
   · exact stmt_11 hbk hs h1 hr hQ he
   · exact stmt_12 hbk hs h1 hr hQ he
 · exact stmt_none hs h1 (by omega) hj
theorem block_all:∀r:Nat,r≤64→HasB r
 | 0,h=>block_of h fun r' e=>by omega
 | r+1,h=>block_of h fun r' e=>by
  obtain rfl:r'=r:=by omega
  exact stmt_of (by omega) (block_all r' (by omega))
end Rf
namespace Rf
open Go.RowKit Par
section
variable {R:Res (List Ast)}{u:PT}{ks:List Ast}{l:List PT}{S:Res (List Ast)}{s:ByteArray}
theorem nxt_cons {s:ByteArray}(hy:nxt (.ok ks l) s=true):∃u l',l=u::l'∧u.txt=s:=by
 cases l with
 | nil=>simp [nxt] at hy
 | cons t l=>exact ⟨t,l,rfl,by simpa only [nxt,decide_eq_true_eq] using hy⟩
theorem Opn.up {p:List Nd}{k:Int}{a:Nat}{t:ByteArray}{n:Int}{Q B:Nat}{md:List Nd}(h:Opn p k a t n Q B R md):Opn p k a t n (Q+1) B R md:=by
 cases R with
 | err q c=>exact h
 | ok ks l=>exact ⟨by have:=h.1;omega,h.2⟩
theorem part_close {F:Par Ast}{kk n2:Int}(hS:then' S (fun ks2 l1=>Res.ok (Ast.mk kk u.at' s n2 ks2) l1)=F (u::l)) :
 (then' (Res.ok ks (u::l)) fun ks _=>then' S fun ks2 l1=>Res.ok (ks++[Ast.mk kk u.at' s n2 ks2]) l1)=knd (.ok ks (u::l)) F:=by
 rw [then_ok,then_pure,hS]
 simp only [knd,then',Par.bind,Par.pure]
 cases F (u::l)<;>rfl
theorem tbl_eq (hu:u.txt=⟨#[116,97,98,108,101]⟩)(hd:hdk (Res.ok [] l:Res (List Ast))=1→s=hdt (Res.ok [] l:Res (List Ast)))(hS:S=then' (knd (skp (skp (Res.ok [] l:Res (List Ast)) (takeP 1)) (expectP ⟨#[40]⟩)) wordP) (many (listStep wordP))) :
 then' (skp (skp S (expectP ⟨#[41]⟩)) (expectP ⟨#[59]⟩)) (fun ks2 l1=>Res.ok (Ast.mk 2 u.at' s 0 ks2) l1)=tableP (u::l):=by
 subst hS
 rw [← list_words]
 have h0:expectP ⟨#[116,97,98,108,101]⟩ (u::l)=.ok u.at' l:=by simp only [expectP,if_pos hu]
 cases h1:takeP 1 l with
 | err q c=>simp only [skp,knd,then',Par.bind,Par.pure,tableP,h0,h1]
 | ok x1 l1 =>
  obtain rfl:=take_hd hd h1
  cases h2:expectP ⟨#[40]⟩ l1 with
  | err q c=>simp only [skp,knd,then',Par.bind,Par.pure,tableP,h0,h1,h2]
  | ok x2 l2 =>
   cases h3:wordP l2 with
   | err q c=>simp only [skp,knd,then',Par.bind,Par.pure,tableP,wordsP,h0,h1,h2,h3]
   | ok x3 l3 =>
    cases h4:many wordsStep [x3] l3 with
    | err q c=>simp only [skp,knd,then',Par.bind,Par.pure,tableP,wordsP,h0,h1,h2,h3,h4,List.nil_append]
    | ok x4 l4 =>
     cases h5:expectP ⟨#[41]⟩ l4 with
     | err q c=>simp only [skp,knd,then',Par.bind,Par.pure,tableP,wordsP,h0,h1,h2,h3,h4,h5,List.nil_append]
     | ok x5 l5 =>
      cases h6:expectP ⟨#[59]⟩ l5 with
      | err q c=>simp only [skp,knd,then',Par.bind,Par.pure,tableP,wordsP,endP,h0,h1,h2,h3,h4,h5,h6,List.nil_append]
      | ok x6 l6=>simp only [skp,knd,then',Par.bind,Par.pure,tableP,wordsP,endP,h0,h1,h2,h3,h4,h5,h6,List.nil_append]
theorem names_y (hy:nxt (then' R fun _=>(Par.pure []:Par (List Ast))) ⟨#[41]⟩=true) :
 (then' R fun ks _=>then' (then' R fun _=>(Par.pure []:Par (List Ast))) fun ks2 l=>Res.ok (ks++[Ast.mk 4 (hda R) none0 0 ks2]) l)=knd R namesP:=by
 rw [nxt_open] at hy
 cases R with
 | err q c=>simp [nxt] at hy
 | ok ks l =>
  cases l with
  | nil=>simp [nxt] at hy
  | cons t l =>
   have k1:=is_yes hy
   simp only [then',knd,Par.bind,Par.pure,namesP,peekP,k1,hda,nodeA]
theorem names_n (hy:nxt (then' R fun _=>(Par.pure []:Par (List Ast))) ⟨#[41]⟩=false)(hn:∀ks l,(then' R fun _=>(Par.pure []:Par (List Ast)))=.ok ks l→l≠[])(hS:S=then' (knd (then' R fun _=>(Par.pure []:Par (List Ast))) wordP) (many (listStep wordP))) :
 (then' R fun ks _=>then' S fun ks2 l=>Res.ok (ks++[Ast.mk 4 (hda R) none0 0 ks2]) l)=knd R namesP:=by
 subst hS
 rw [nxt_open] at hy
 cases R with
 | err q c=>rfl
 | ok ks l =>
  cases l with
  | nil=>exact absurd rfl (hn [] [] rfl)
  | cons t l =>
   have k1:=is_no (by simp) hy
   rw [← list_words]
   cases h3:wordP (t::l) with
   | err q c=>simp only [then',knd,Par.bind,Par.pure,namesP,wordsP,peekP,k1,h3]
   | ok x3 l3 =>
    cases h4:many wordsStep [x3] l3 with
    | err q c=>simp only [then',knd,Par.bind,Par.pure,namesP,wordsP,peekP,k1,h3,h4,List.nil_append]
    | ok x4 l4=>simp only [then',knd,Par.bind,Par.pure,namesP,wordsP,peekP,k1,h3,h4,List.nil_append,hda,nodeA]
def procR (p:Nat):Par Ast:=Par.bind (takeP 1) fun t=>Par.bind (expectP ⟨#[40]⟩) fun _=>Par.bind namesP fun ns=>Par.bind (expectP ⟨#[41]⟩) fun _=>Par.bind (skipP ⟨#[115,105,110,103,108,101]⟩) fun
 | true=>Par.bind (blockP 64) fun b=>Par.pure (.mk 3 p t.txt 1 [ns,b])
 | false=>Par.bind (blockP 64) fun b=>Par.pure (.mk 3 p t.txt 0 [ns,b])
theorem procR_eq (hu:u.txt=⟨#[112,114,111,99]⟩):procP (u::l)=procR u.at' l:=by
 have h0:expectP ⟨#[112,114,111,99]⟩ (u::l)=.ok u.at' l:=by simp only [expectP,if_pos hu]
 have h1:procP (u::l)=Par.bind (expectP ⟨#[112,114,111,99]⟩) procR (u::l):=rfl
 rw [h1]
 simp only [Par.bind,h0]
end
theorem prc_y {a:Nat}{l:List PT}{s:ByteArray}(hd:hdk (Res.ok [] l:Res (List Ast))=1→s=hdt (Res.ok [] l:Res (List Ast)))(hy1:nxt (skp (knd (skp (skp (Res.ok [] l:Res (List Ast)) (takeP 1)) (expectP ⟨#[40]⟩)) (namesP)) (expectP ⟨#[41]⟩)) ⟨#[115,105,110,103,108,101]⟩=true):then' (knd (skp (skp (knd (skp (skp (Res.ok [] l:Res (List Ast)) (takeP 1)) (expectP ⟨#[40]⟩)) (namesP)) (expectP ⟨#[41]⟩)) (skipP ⟨#[115,105,110,103,108,101]⟩)) (blockP 64)) (fun ks2 l1=>Res.ok (Ast.mk 3 a s 1 ks2) l1)=procR a l:=by
 cases h1:takeP 1 l with
 | err q c=>simp only [skp,knd,then',Par.bind,Par.pure,procR,h1]
 | ok x1 l1 =>
  obtain rfl:=take_hd hd h1
  cases h2:expectP ⟨#[40]⟩ l1 with
  | err q c=>simp only [skp,knd,then',Par.bind,Par.pure,procR,h1,h2]
  | ok x2 l2 =>
   cases h3:namesP l2 with
   | err q c=>simp only [skp,knd,then',Par.bind,Par.pure,procR,h1,h2,h3]
   | ok x3 l3 =>
    cases h4:expectP ⟨#[41]⟩ l3 with
    | err q c=>simp only [skp,knd,then',Par.bind,Par.pure,procR,h1,h2,h3,h4]
    | ok x4 l4 =>
     simp only [skp,knd,then',Par.bind,Par.pure,h1,h2,h3,h4] at hy1
     obtain ⟨t1,m1,e1,k1⟩:=skip_yes hy1
     cases h5:blockP 64 m1 with
     | err q c=>simp only [skp,knd,then',Par.bind,Par.pure,procR,h1,h2,h3,h4,k1,h5]
     | ok x5 l5 =>
      simp only [skp,knd,then',Par.bind,Par.pure,procR,h1,h2,h3,h4,k1,h5,List.nil_append,List.cons_append]
theorem prc_n {a:Nat}{l:List PT}{s:ByteArray}(hd:hdk (Res.ok [] l:Res (List Ast))=1→s=hdt (Res.ok [] l:Res (List Ast)))(hy1:nxt (skp (knd (skp (skp (Res.ok [] l:Res (List Ast)) (takeP 1)) (expectP ⟨#[40]⟩)) (namesP)) (expectP ⟨#[41]⟩)) ⟨#[115,105,110,103,108,101]⟩=false)(hn1:∀ks l1,(skp (knd (skp (skp (Res.ok [] l:Res (List Ast)) (takeP 1)) (expectP ⟨#[40]⟩)) (namesP)) (expectP ⟨#[41]⟩))=.ok ks l1→l1≠[]):then' (knd (skp (knd (skp (skp (Res.ok [] l:Res (List Ast)) (takeP 1)) (expectP ⟨#[40]⟩)) (namesP)) (expectP ⟨#[41]⟩)) (blockP 64)) (fun ks2 l1=>Res.ok (Ast.mk 3 a s 0 ks2) l1)=procR a l:=by
 cases h1:takeP 1 l with
 | err q c=>simp only [skp,knd,then',Par.bind,Par.pure,procR,h1]
 | ok x1 l1 =>
  obtain rfl:=take_hd hd h1
  cases h2:expectP ⟨#[40]⟩ l1 with
  | err q c=>simp only [skp,knd,then',Par.bind,Par.pure,procR,h1,h2]
  | ok x2 l2 =>
   cases h3:namesP l2 with
   | err q c=>simp only [skp,knd,then',Par.bind,Par.pure,procR,h1,h2,h3]
   | ok x3 l3 =>
    cases h4:expectP ⟨#[41]⟩ l3 with
    | err q c=>simp only [skp,knd,then',Par.bind,Par.pure,procR,h1,h2,h3,h4]
    | ok x4 l4 =>
     simp only [skp,knd,then',Par.bind,Par.pure,h1,h2,h3,h4] at hy1 hn1
     have k1:=skip_no (hn1 _ _ rfl) hy1
     cases h5:blockP 64 l4 with
     | err q c=>simp only [skp,knd,then',Par.bind,Par.pure,procR,h1,h2,h3,h4,k1,h5]
     | ok x5 l5 =>
      simp only [skp,knd,then',Par.bind,Par.pure,procR,h1,h2,h3,h4,k1,h5,List.nil_append,List.cons_append]
end Rf
namespace Rf
open Go.RowKit Par
section
variable {p:List Nd}{k:Int}{a:Nat}{t:ByteArray}{n:Int}{Q B:Nat}{R:Res (List Ast)}{md:List Nd}{E:Env}{v:Value}{kvs:List Value}{d:Int}{w w':World}{i:Nat}
theorem proc_J {ks:List Ast}{l:List PT}(h:In E [] 1 a none0 0 (64-((64:Nat):Int)) (Q+1) B (.ok ks l) w)(hy:nxt (.ok ks l:Res (List Ast)) ⟨#[112,114,111,99]⟩=true)(hQ:Q+1310≤B∧Q≤199000) :
 Calls Tryz.prog 97 #[.pointer (some ⟨E.b,0,none⟩)] w fun x w'=>x=.returned (.tuple #[])∧In E [] 1 a none0 0 (64-((64:Nat):Int)) (Q+1) B (knd (.ok ks l) procP) w':=by
 obtain ⟨u,l,rfl,hu⟩:=nxt_cons hy
 have HU:=lh hu
 have HN:Hid (u.txt≠none0):=lh (by rw [hu];decide)
 have HQ:=lh hQ
 have HR:Hid (64≤64):=lh (Nat.le_refl _)
 have HBK:=lh (block_all 64 (Nat.le_refl _))
 have HB:Hid (Q+1310≤400000):=lh (by omega)
 have C1:Hid (Calls Tryz.prog 162 #[.pointer (some ⟨E.b,0,none⟩),.int .i64 0] w fun x w'=>x=.returned (.tuple #[])∧∃v kvs p2,Opn [] 1 a none0 0 (Q+1) (Q+1292) (.ok ks (u::l)) p2∧At E v kvs p2 (64-((64:Nat):Int)) (.ok ks (u::l):Res (List Ast)) w'):=lh (kid_I (p:=[]) (h.okB (Q+1292)) (by omega) (by omega))
 clear h hy hQ hu
 go_enter Tryz.func97,Tryz.ntmps97
 go_wp2_with fail
 (with_reducible refine C1.out.mono ?_)
 rintro x w4 ⟨rfl,v4,kvs4,p2,ho,h4⟩
 have HO:=lh ho
 have C5:=lh (node_I ho h4 (by omega) (by have:=HB.out;omega) 3)
 clear C1 ho h4
 go_wp2_with fail
 (with_reducible refine C5.out.mono ?_)
 rintro x w5 ⟨rfl,h5⟩
 have h5:In E p2 3 u.at' none0 0 (64-((64:Nat):Int)) ((Q+1)+1) (Q+1292+1) (.ok [] (u::l)) w5:=h5
 obtain ⟨i6,h63,c16,cz6,h6⟩:=inc_ok h5 (by omega) HN.out
 have H6:=lh h6
 clear C5 h5 h6
 go_upto_region 3 with fail
 generalize w5.setCell ⟨E.b,1,none⟩ (.int .i64 ((i6:Int)+1))=w6 at *
 clear c16 cz6
 obtain ⟨g7,len7,cap7,hn7,hc7⟩:=name_IT H6.out.drew (by have:=HQ.out;omega)
 have c37:=hn7.c3
 have b07:(0:Int)≤(p2.length:Int):=by omega
 have b17:(p2.length:Int)<(len7:Int):=by have:=hn7.lt;omega
 have gb7:=hn7.gb
 have NM7:=lh hc7
 clear hn7 hc7
 go_wp2_with fail
 go_region_held3 (fun w'=>w'.cell? ⟨E.b,3,none⟩=some (.slice (some ⟨g7,0,none⟩) len7 cap7)) (first|exact c37|exact k37|exact (World.cell?_of_block (w:=v7) (a:=⟨E.b,3,none⟩) (Below.heap_setCell _ _ _ _ gb7)).trans k37)
  (first
   | (go_at_call 163;(with_reducible refine NM7.out.mono ?_);rintro x v7 ⟨s7,rfl,hd7,hm7,hi7⟩;have k37:=hm7.c3;have z57:=hm7.fz 2;obtain ⟨t57,k57⟩:=hm7.t0;have H7:=lh hi7;have HD7:=lh hd7;clear hm7 hi7 hd7))
 generalize v7.setCell ⟨g7,p2.length*5+2,none⟩ (.string s7)=w7 at *
 clear c37 k37 z57 k57 NM7
 have C8:=lh (take_I H7.out (by have:=HQ.out;omega) ⟨#[40]⟩ (by decide) (by decide))
 go_wp2_with fail
 (with_reducible refine C8.out.mono ?_)
 rintro x w8 ⟨rfl,h8⟩
 have H8:=lh h8
 clear C8 h8
 have C10:=lh (kid_I H8.out (by omega) (by have:=HB.out;omega))
 go_wp2_with fail
 (with_reducible refine C10.out.mono ?_)
 rintro x w10 ⟨rfl,v10,kvs10,p3,ho,h10⟩
 have HO2:=lh ho
 have C11:=lh (node_I ho h10 (by omega) (by have:=HB.out;omega) 4)
 clear C10 ho h10
 go_wp2_with fail
 (with_reducible refine C11.out.mono ?_)
 rintro x w11 ⟨rfl,h11⟩
 have H11:=lh (h11.mono (Nat.le_refl _) (Nat.le_refl _))
 clear C11 h11
 have C12:=lh (is_I H11.out ⟨#[41]⟩ (by decide) (by decide))
 obtain ⟨b12,y12⟩:=H11.out.look ⟨#[41]⟩
 rw [y12] at C12
 have HY12:=lh y12
 have HN12:=lh H11.out.ne
 clear y12
 go_wp2_with fail
 (with_reducible refine C12.out.mono ?_)
 rintro x wd ⟨rfl,m,rfl⟩
 have H12:=lh (H11.out.drewN m)
 generalize w11.drewN m=w12 at *
 clear C12
 cases b12 with
 | true =>
  have HI:=lh (In.close (B':=Q+1298) HO2.out.up (H12.out.mono (Nat.le_refl _) (by omega)) (by omega) (by omega) (fun q c e=>by rw [e];rfl))
  rw [names_y HY12.out] at HI
  have C13:=lh (take_I HI.out (by have:=HQ.out;omega) ⟨#[41]⟩ (by decide) (by decide))
  go_wp2_with fail
  (with_reducible refine C13.out.mono ?_)
  rintro x w13 ⟨rfl,h13⟩
  have H13:=lh h13
  clear C13 h13
  have C14:=lh (is_I H13.out ⟨#[115,105,110,103,108,101]⟩ (by decide) (by decide))
  obtain ⟨b14,y14⟩:=H13.out.look ⟨#[115,105,110,103,108,101]⟩
  rw [y14] at C14
  have HY14:=lh y14
  have HN14:=lh H13.out.ne
  clear y14
  go_wp2_with fail
  (with_reducible refine C14.out.mono ?_)
  rintro x wd ⟨rfl,m,rfl⟩
  have H14:=lh (H13.out.drewN m)
  generalize w13.drewN m=w14 at *
  clear C14
  cases b14 with
  | true =>
   obtain ⟨g15,len15,cap15,hn15,_,hs15,_⟩:=H14.out.nod
   have c315:=hn15.c3
   have z315:w14.frozen? ⟨g15,p2.length*5+3,none⟩=false:=hn15.fz 3
   obtain ⟨o15,f15⟩:=hn15.n0
   have b015:(0:Int)≤(p2.length:Int):=by omega
   have b115:(p2.length:Int)<(len15:Int):=by have:=hn15.lt;omega
   have H15:=lh (hs15 1)
   clear hn15 hs15
   go_upto_region 15 with fail
   generalize w14.setCell ⟨g15,p2.length*5+3,none⟩ (.int .i64 1)=w15 at *
   clear c315 z315 f15
   obtain ⟨i16,h6316,c116,cz16,h16⟩:=(H15.out.mono (Nat.le_succ _) (Nat.le_refl _)).inc (by have:=HQ.out;omega) (by decide) HY14.out
   have H16:=lh h16
   clear h16
   go_upto_region 16 with fail
   generalize w15.setCell ⟨E.b,1,none⟩ (.int .i64 ((i16:Int)+1))=w16 at *
   clear c116 cz16
   have C17:=lh (HBK.out _ _ _ _ _ _ _ _ _ _ H16.out (by have:=HQ.out;omega) (by have:=HB.out;omega))
   go_wp2_with fail
   (with_reducible refine C17.out.mono ?_)
   rintro x w17 ⟨rfl,h17⟩
   have H17:=lh h17
   clear C17 h17
   have HF:=lh (In.close (B':=B) HO.out (H17.out.mono (Nat.le_refl _) (B':=B) (by have:=HQ.out;omega)) (by omega) (by have:=HQ.out;omega) (fun q c e=>by cases e))
   rw [part_close ((prc_y HD7.out HY14.out).trans (procR_eq HU.out).symm)] at HF
   go_wp2
   simp [bodyPost,results,Tryz.results97,go_sem]
   exact HF.out
  | false =>
   have C15:=lh (HBK.out _ _ _ _ _ _ _ _ _ _ H14.out (by have:=HQ.out;omega) (by have:=HB.out;omega))
   go_wp2_with fail
   (with_reducible refine C15.out.mono ?_)
   rintro x w15 ⟨rfl,h15⟩
   have H15:=lh h15
   clear C15 h15
   have HF:=lh (In.close (B':=B) HO.out (H15.out.mono (Nat.le_refl _) (B':=B) (by have:=HQ.out;omega)) (by omega) (by have:=HQ.out;omega) (fun q c e=>by cases e))
   rw [part_close ((prc_n HD7.out HY14.out HN14.out).trans (procR_eq HU.out).symm)] at HF
   go_wp2
   simp [bodyPost,results,Tryz.results97,go_sem]
   exact HF.out
 | false =>
  have C18:=lh (word_I H12.out (by have:=HQ.out;omega) (by have:=HB.out;omega))
  go_wp2_with fail
  (with_reducible refine C18.out.mono ?_)
  rintro x w18 ⟨rfl,h18⟩
  have H18:=lh h18
  clear C18 h18
  go_wp2_with fail
  go_loopg [] (left (knd (then' (skp (skp (Res.ok [] l:Res (List Ast)) (takeP 1)) (expectP ⟨#[40]⟩)) fun _=>(Par.pure []:Par (List Ast))) wordP)) (fun g wr=>∃R1:Res (List Ast),Hid (left R1≤g)∧Hid (then' R1 (many (listStep wordP))=then' (knd (then' (skp (skp (Res.ok [] l:Res (List Ast)) (takeP 1)) (expectP ⟨#[40]⟩)) fun _=>(Par.pure []:Par (List Ast))) wordP) (many (listStep wordP)))∧Hid (In E p3 4 (hda (skp (skp (Res.ok [] l:Res (List Ast)) (takeP 1)) (expectP ⟨#[40]⟩))) none0 0 (64-((64:Nat):Int)) (Q+1) (Q+1295+2) R1 wr))
  case atStart=>exact ⟨_,lh (Nat.le_refl _),lh rfl,lh (H18.out.mono (Nat.le_refl _) (by omega))⟩
  case round =>
   clear H18
   obtain ⟨R1,HG,HE,HL⟩:=hrel
   have C19:=lh (is_I HL.out ⟨#[44]⟩ (by decide) (by decide))
   obtain ⟨b19,y19⟩:=HL.out.look ⟨#[44]⟩
   rw [y19] at C19
   have HY19:=lh y19
   have HN19:=lh HL.out.ne
   clear y19
   go_wp2_with fail
   (with_reducible refine C19.out.mono ?_)
   rintro x wd ⟨rfl,m,rfl⟩
   have H19:=lh (HL.out.drewN m)
   generalize wr.drewN m=w19 at *
   clear C19
   cases b19 with
   | false =>
    have HE2:=lh ((list_done HN19.out HY19.out).symm.trans HE.out)
    have HI:=lh (In.close (B':=Q+1300) HO2.out.up (H19.out.mono (Nat.le_refl _) (by omega)) (by omega) (by omega) (fun q c e=>by rw [HE2.out,e];rfl))
    rw [names_n HY12.out HN12.out HE2.out] at HI
    have C20:=lh (take_I HI.out (by have:=HQ.out;omega) ⟨#[41]⟩ (by decide) (by decide))
    go_wp2_with fail
    (with_reducible refine C20.out.mono ?_)
    rintro x w20 ⟨rfl,h20⟩
    have H20:=lh h20
    clear C20 h20
    have C21:=lh (is_I H20.out ⟨#[115,105,110,103,108,101]⟩ (by decide) (by decide))
    obtain ⟨b21,y21⟩:=H20.out.look ⟨#[115,105,110,103,108,101]⟩
    rw [y21] at C21
    have HY21:=lh y21
    have HN21:=lh H20.out.ne
    clear y21
    go_wp2_with fail
    (with_reducible refine C21.out.mono ?_)
    rintro x wd ⟨rfl,m,rfl⟩
    have H21:=lh (H20.out.drewN m)
    generalize w20.drewN m=w21 at *
    clear C21
    cases b21 with
    | true =>
     obtain ⟨g22,len22,cap22,hn22,_,hs22,_⟩:=H21.out.nod
     have c322:=hn22.c3
     have z322:w21.frozen? ⟨g22,p2.length*5+3,none⟩=false:=hn22.fz 3
     obtain ⟨o22,f22⟩:=hn22.n0
     have b022:(0:Int)≤(p2.length:Int):=by omega
     have b122:(p2.length:Int)<(len22:Int):=by have:=hn22.lt;omega
     have H22:=lh (hs22 1)
     clear hn22 hs22
     go_upto_region 15 with fail
     generalize w21.setCell ⟨g22,p2.length*5+3,none⟩ (.int .i64 1)=w22 at *
     clear c322 z322 f22
     obtain ⟨i23,h6323,c123,cz23,h23⟩:=(H22.out.mono (Nat.le_succ _) (Nat.le_refl _)).inc (by have:=HQ.out;omega) (by decide) HY21.out
     have H23:=lh h23
     clear h23
     go_upto_region 16 with fail
     generalize w22.setCell ⟨E.b,1,none⟩ (.int .i64 ((i23:Int)+1))=w23 at *
     clear c123 cz23
     have C24:=lh (HBK.out _ _ _ _ _ _ _ _ _ _ H23.out (by have:=HQ.out;omega) (by have:=HB.out;omega))
     go_wp2_with fail
     (with_reducible refine C24.out.mono ?_)
     rintro x w24 ⟨rfl,h24⟩
     have H24:=lh h24
     clear C24 h24
     have HF:=lh (In.close (B':=B) HO.out (H24.out.mono (Nat.le_refl _) (B':=B) (by have:=HQ.out;omega)) (by omega) (by have:=HQ.out;omega) (fun q c e=>by cases e))
     rw [part_close ((prc_y HD7.out HY21.out).trans (procR_eq HU.out).symm)] at HF
     go_wp2
     simp [bodyPost,results,Tryz.results97,go_sem]
     exact HF.out
    | false =>
     have C22:=lh (HBK.out _ _ _ _ _ _ _ _ _ _ H21.out (by have:=HQ.out;omega) (by have:=HB.out;omega))
     go_wp2_with fail
     (with_reducible refine C22.out.mono ?_)
     rintro x w22 ⟨rfl,h22⟩
     have H22:=lh h22
     clear C22 h22
     have HF:=lh (In.close (B':=B) HO.out (H22.out.mono (Nat.le_refl _) (B':=B) (by have:=HQ.out;omega)) (by omega) (by have:=HQ.out;omega) (fun q c e=>by cases e))
     rw [part_close ((prc_n HD7.out HY21.out HN21.out).trans (procR_eq HU.out).symm)] at HF
     go_wp2
     simp [bodyPost,results,Tryz.results97,go_sem]
     exact HF.out
   | true =>
    obtain ⟨ks1,l1,rfl⟩:=nxt_ok HY19.out
    have HL2:=lh (H19.out.okB (Q+1295+1))
    obtain ⟨i25,h6325,c125,cz25,h25⟩:=(HL2.out.mono (Nat.le_succ _) (Nat.le_refl _)).inc (by have:=HQ.out;omega) (by decide) HY19.out
    have H25:=lh h25
    clear h25
    go_upto_region 11 with fail
    generalize w19.setCell ⟨E.b,1,none⟩ (.int .i64 ((i25:Int)+1))=w25 at *
    clear c125 cz25
    have C26:=lh (word_I H25.out (by have:=HQ.out;omega) (by have:=HB.out;omega))
    go_wp2_with fail
    (with_reducible refine C26.out.mono ?_)
    rintro x w26 ⟨rfl,h26⟩
    have H26:=lh h26
    clear C26 h26
    have HLT:Hid (left (knd (skp (Res.ok ks1 l1) (skipP ⟨#[44]⟩)) wordP)<gk):=lh (by have:=HG.out;have:=list_left less_word HY19.out;omega)
    have HE3:=lh ((list_more less_word HY19.out).symm.trans HE.out)
    go_wp2_with fail
    go_roundg (left (knd (skp (Res.ok ks1 l1) (skipP ⟨#[44]⟩)) wordP))
    case rel=>exact ⟨_,lh (Nat.le_refl _),HE3,H26⟩
    case measure=>exact HLT.out
theorem proc_I {ks:List Ast}{l:List PT}(h:In E [] 1 a none0 0 (64-((64:Nat):Int)) Q B (.ok ks l) w)(hy:nxt (.ok ks l:Res (List Ast)) ⟨#[112,114,111,99]⟩=true)(hQ:Q+1310≤B∧Q≤199000) :
 Calls Tryz.prog 97 #[.pointer (some ⟨E.b,0,none⟩)] w fun x w'=>x=.returned (.tuple #[])∧In E [] 1 a none0 0 (64-((64:Nat):Int)) Q B (knd (.ok ks l) procP) w':=by
 cases Q with
 | zero =>
  obtain ⟨_,_,_,hs,_⟩:=h
  have:=hs.1
  omega
 | succ Q=>exact proc_J h hy (by omega)
end
end Rf
section
open Go.RowKit
theorem lexAt_er (xs:List Int)(m p:Nat)(hm:xs.length-p≤m)(hp:p≤xs.length)(i:Nat)(er:Int)(h:lexAt xs p=.error (i,er)):er=30∨er=31:=by
 induction m generalizing p with
 | zero =>
  rw [lexAt_end xs p (by omega)] at h
  simp at h
 | succ m ih =>
  rw [lexAt_bl xs p hp] at h
  have hb:=bl_le xs p hp
  have hi:=bl_idem xs p
  generalize bl xs p=j at *
  by_cases hlt:j<xs.length
  · cases hs:step (xs.drop j) with
    | err e =>
     rw [lexAt_err xs j e hlt hi hs] at h
     simp only [Except.error.injEq,Prod.mk.injEq] at h
     rw [← h.2]
     exact step_err hs (by rw [List.length_drop];omega)
    | tok k l n =>
     rw [lexAt_tok xs j k l n hlt hi hs] at h
     have hl:=step_len hs
     rw [List.length_drop] at hl
     cases hr:lexAt xs (j+l) with
     | error e =>
      rw [hr] at h
      simp only [pre,Except.error.injEq] at h
      subst h
      exact ih (j+l) (by omega) (by omega) hr
     | ok us=>rw [hr] at h;simp [pre] at h
  · rw [lexAt_end xs j (by omega)] at h
    simp at h
theorem ref_ok {w:World}{p:Option Addr}{len c:Nat}{xs:List Int}{ts:List Tok}(h:Src w p len c xs)(hb:len≤65536)(he:lexS xs=.ok ts) :
 Calls Tryz.prog 93 #[.slice p len c] w fun e w'=>∃g cap,e=.returned (.tuple #[.slice (some ⟨g,0,none⟩) ts.length cap,.int .i64 0,.int .i64 0])∧TR w' g cap ts∧Below w.heap.size w w' :=
 (refLex_at w p len c xs h hb).mono fun e w' ⟨h1, h2⟩ => by
  rw [he] at h1
  obtain ⟨g,cap,e1,ho⟩:=h1
  refine ⟨g,cap,e1,⟨(ho.lt g rfl).2,?_,fun j u hj=>?_⟩,h2⟩
  · rcases ho.2 with ⟨h,_⟩|⟨g',cap',cur,hv,_,_,hc,_⟩
    · simp at h
    · simp at hv
      omega
  · rw [ho.cellAt j (by rw [← ho.1];exact (List.getElem?_eq_some_iff.1 hj).1)]
    exact hj
theorem ref_no {w:World}{p:Option Addr}{len c:Nat}{xs:List Int}{i:Nat}{er:Int}(h:Src w p len c xs)(hb:len≤65536)(he:lexS xs=.error (i,er)) :
 Calls Tryz.prog 93 #[.slice p len c] w fun e w'=>e=.returned (.tuple #[.slice none 0 0,.int .i64 i,.int .i64 er])∧Below w.heap.size w w' :=
 (refLex_at w p len c xs h hb).mono fun e w' ⟨h1, h2⟩ => by
  rw [he] at h1
  exact ⟨h1,h2⟩
theorem own_src (w:World)(p:Option Addr)(len c:Nat)(xs:List Int)(hs:Src w p len c xs):∃s w1 cap,(convert 22 9 (.slice p len c)).run Tryz.prog w=.ok (.string s) w∧(convert 9 22 (.string s)).run Tryz.prog w=.ok (.slice (some ⟨w.heap.size,0,none⟩) len cap) w1∧Below w.heap.size w w1∧Src w1 (some ⟨w.heap.size,0,none⟩) len cap xs:=by
 obtain ⟨w1,cap,h1,h2,h3⟩:=bytes_conv w (strOfNums xs)
 have hsz:(strOfNums xs).size=len:=by rw [strOfNums_size];exact hs.1
 rw [hsz] at h1 h3
 rw [bytesI_of xs (mem_byteX hs.2.1)] at h3
 exact ⟨strOfNums xs,w1,cap,src_conv hs,h1,h2,h3⟩
theorem sameBytes_at (w:World)(p p2:Option Addr)(n c c2:Nat)(xs:List Int)(h1:Src w p n c xs)(h2:Src w p2 n c2 xs) :
 Calls Tryz.prog 33 #[.slice p n c,.slice p2 n c2] w fun e w'=>e=.returned (.bool true)∧w=w':=by
 have e1:=src_conv h1
 have e2:=src_conv h2
 generalize strOfNums xs=s at *
 clear h1 h2
 go_enter Tryz.func33,Tryz.ntmps33
 go_wp2
 go_ret
 exact ⟨rfl,rfl⟩
end
namespace Rf
open Go.RowKit Par
section
variable {E:Env}{v:Value}{kvs:List Value}{md:List Nd}{i:Nat}{d e:Int}{w w':World}{R:Res (List Ast)}
theorem RS.tv (h:RS E v kvs md i d e w)(hp:0<md.length):∃g cap,v=.slice (some ⟨g,0,none⟩) md.length cap∧Tr.TV w (some ⟨g,0,none⟩) md.length cap md:=by
 obtain ⟨g,cap,rfl,_,_⟩:=h.own.form hp
 refine ⟨g,cap,rfl,⟨rfl,?_,fun hl=>⟨g,0,rfl,(h.own.lt g rfl).2,fun j hj=>?_⟩⟩⟩
 · rcases h.own.2 with ⟨h1,_⟩|⟨g',cap',cur,h1,_,_,h2,_⟩
   · simp at h1
   · simp only [Value.slice.injEq] at h1;omega
 · have hc:∀q u,q<5→(nodeC (md.getD j default) (kvs.getD j default))[q]?=some u→w.cell? ⟨g,0+j*5+q,none⟩=some u:=fun q u h5 hq=>by
    rw [Nat.zero_add,h.own.cellAt (j*5+q) (by omega),cellsM_get md kvs h.klen j hj q h5]
    exact hq
   obtain ⟨k1,k2⟩:=h.kids j hj
   rcases k2 with ⟨k2,k3⟩|⟨g',cap',cur,k2,k3⟩
   · have k3':(md.getD j default).kids=[]:=List.length_eq_zero_iff.1 k3
     exact ⟨none,0,0,⟨hc 0 _ (by decide) rfl,hc 1 _ (by decide) rfl,hc 2 _ (by decide) rfl,hc 3 _ (by decide) rfl,by rw [← k2];exact hc 4 _ (by decide) rfl,⟨by rw [k3'];rfl,Nat.le_refl _,fun h0=>absurd h0 (by omega)⟩⟩⟩
   · refine ⟨some ⟨g',0,none⟩,(md.getD j default).kids.length,cap',⟨hc 0 _ (by decide) rfl,hc 1 _ (by decide) rfl,hc 2 _ (by decide) rfl,hc 3 _ (by decide) rfl,by rw [← k2];exact hc 4 _ (by decide) rfl,⟨rfl,k3.2.2.1,fun h0=>?_⟩⟩⟩
     have hown:w.ownsRow (E.b+1) 3 1 (.slice (some ⟨g',0,none⟩) (md.getD j default).kids.length cap') (md.getD j default).kids.length ((md.getD j default).kids.map (Value.int .i64)):=⟨k1,.inr ⟨g',cap',cur,rfl,k3⟩⟩
     refine ⟨g',0,rfl,(hown.lt g' rfl).2,fun q hq=>?_⟩
     rw [Nat.zero_add,hown.cellAt q (by omega)]
     show _=some (Value.int .i64 ((md.getD j default).kids.getD q 0))
     generalize (md.getD j default).kids=zs at hq ⊢
     simp only [List.getElem?_map,List.getD]
     simp [hq]
theorem prog_table (hy:nxt R ⟨#[116,97,98,108,101]⟩=true)(hk:∀ks u l,R=.ok ks (u::l)→u.kind≠4):then' R (many progStep)=then' (knd R tableP) (many progStep):=by
 cases R with
 | err q c=>rfl
 | ok ks l =>
  cases l with
  | nil=>simp [nxt] at hy
  | cons u l =>
   have k1:=is_yes hy
   have k4:=hk ks u l rfl
   simp only [then',knd,Par.bind,Par.pure]
   have hs:progStep ks (u::l)=match tableP (u::l) with|.err p c=>.err p c|.ok x l'=>.ok (some (ks++[x])) l':=by
    simp only [progStep,Par.bind,peekP,if_neg k4,k1,Par.pure]
    cases tableP (u::l)<;>rfl
   cases hf:tableP (u::l) with
   | err q c=>rw [hf] at hs;exact many_err hs
   | ok x l'=>rw [hf] at hs;exact many_more step_prog hs
theorem prog_proc (hy:nxt R ⟨#[116,97,98,108,101]⟩=false)(hk:∀ks u l,R=.ok ks (u::l)→u.kind≠4)(hn:∀ks l,R=.ok ks l→l≠[]):then' R (many progStep)=then' (knd R procP) (many progStep):=by
 cases R with
 | err q c=>rfl
 | ok ks l =>
  cases l with
  | nil=>exact absurd rfl (hn ks [] rfl)
  | cons u l =>
   have k1:=is_no (hn _ _ rfl) hy
   have k4:=hk ks u l rfl
   simp only [then',knd,Par.bind,Par.pure]
   have hs:progStep ks (u::l)=match procP (u::l) with|.err p c=>.err p c|.ok x l'=>.ok (some (ks++[x])) l':=by
    simp only [progStep,Par.bind,peekP,if_neg k4,k1,Par.pure]
    cases procP (u::l)<;>rfl
   cases hf:procP (u::l) with
   | err q c=>rw [hf] at hs;exact many_err hs
   | ok x l'=>rw [hf] at hs;exact many_more step_prog hs
theorem proc_no (hy:nxt R ⟨#[112,114,111,99]⟩=false)(hn:∀ks l,R=.ok ks l→l≠[]):knd R procP=then' R fun _=>(failP:Par (List Ast)):=by
 cases R with
 | err q c=>rfl
 | ok ks l =>
  cases l with
  | nil=>exact absurd rfl (hn ks [] rfl)
  | cons u l =>
   simp only [nxt,decide_eq_false_iff_not] at hy
   simp only [knd,then',Par.bind,procP,expectP,if_neg hy,failP]
theorem prog_done {ks:List Ast}{u:PT}{l:List PT}(hk:u.kind=4):then' (.ok ks (u::l)) (many progStep)=.ok ks (u::l):=by
 simp only [then']
 refine many_done ?_
 simp only [progStep,Par.bind,peekP,if_pos hk,Par.pure]
theorem left_knd {F:Par Ast}(hF:Takes F){ks:List Ast}{l:List PT}(hl:l≠[]):left (knd (.ok ks l) F)<left (.ok ks l:Res (List Ast)):=by
 simp only [knd,then',Par.bind]
 cases hs:F l with
 | err q c=>cases l with|nil=>exact absurd rfl hl|cons t l=>simp [left]
 | ok x l'=>exact hF l x l' hs
theorem RS.begin (w4:World)(g cap:Nat)(ts:List Tok)(xs:List Int)(hT:TR w4 g cap ts)(hx:lexS xs=.ok ts)(hb:xs.length≤65536) :
 RS { W:=w4,b:=w4.heap.size,g:=g,cap:=cap,toks:=ts,mp:=.nilIface } (.slice none 0 0) [] [] 0 0 0 (w4.alloc (.cells #[.slice (some ⟨g,0,none⟩) ts.length cap,.int .i64 0,.int .i64 0,.slice none 0 0,.int .i64 0] 158)):=by
 obtain ⟨vs,hts,hvs⟩:=lexS_shape hx
 have hlen:=lexN_len _ _ _ _ hx
 have hgl:=hT.lt
 have hpos:0<ts.length:=by rw [hts];simp
 refine { below:=(Below.refl _ _).alloc (Nat.le_refl _) _,lt:=by simp,gl:=hgl,cap:=hT.le,tok:=?_,oks:=lexN_oks _ _ _ _ hx,last:=?_,row:=by simp only;rw [World.alloc_heap_new];rfl,it:=hpos,few:=?_,dd:=by omega,klen:=rfl,own:=World.ownsRow_nil _ _ _ _,kids:=fun j hj=>by simp at hj,apart:=fun x hx=>by simp at hx,pair:=List.Pairwise.nil }
 · intro j i u hj hi
   have h5:i<5:=by have:=(List.getElem?_eq_some_iff.1 hi).1;simpa [tokC5] using this
   have h1:ts[j]?=some (ts.getD j (Tok.endAt 0)):=by simp only at hj;simp [List.getD,hj]
   have h2:=hT.cell (j*5+i) u (by rw [tok_cell ts j i _ h1 h5];exact hi)
   simp only
   rw [World.cell?_of_block (w:=w4) (a:=⟨g,j*5+i,none⟩) (Below.heap_alloc _ _ _ hgl)]
   exact h2
 · intro j hj hk
   simp only at hj hk ⊢
   rcases Nat.lt_or_ge (j+1) ts.length with h|h
   · exact h
   · have hl:ts.length=vs.length+1:=by rw [hts];simp
     have:j=vs.length:=by omega
     refine absurd ?_ hk
     rw [this,hts]
     simp [List.getD,Tok.endAt]
 · simp only;omega
end
def RefP (xs:List Int)(w:World)(x:Ending)(w':World):Prop:=Below w.heap.size w w'∧match parseS xs with
 | .error (q,c)=>x=.returned (.tuple #[.slice none 0 0,.int .i64 (q:Int),.int .i64 c])∧c≠0
 | .ok ns=>∃g cap,x=.returned (.tuple #[.slice (some ⟨g,0,none⟩) ns.length cap,.int .i64 0,.int .i64 0])∧Tr.TV w' (some ⟨g,0,none⟩) ns.length cap ns
end Rf
end Go.Proofs.YthdioipfdbbmmaaGreatDoor
