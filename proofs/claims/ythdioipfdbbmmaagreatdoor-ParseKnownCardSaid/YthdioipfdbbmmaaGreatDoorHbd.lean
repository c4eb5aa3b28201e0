/- Contracts. -/
import Derived.Test.YthdioipfdbbmmaaGreatDoorHab
import Derived.Test.YthdioipfdbbmmaaGreatDoorHbc
import Derived.Deep.LoopGhost
import Derived.Deep.RegionHeld3
import Derived.Deep.Cut
set_option linter.all false
set_option maxRecDepth 1000000
set_option maxHeartbeats 16000000
namespace Go.Proofs.YthdioipfdbbmmaaGreatDoor
namespace Rf
open Go.RowKit Par
section
variable {p:List Nd}{k:Int}{a:Nat}{t:ByteArray}{n:Int}{Q B:Nat}{R:Res (List Ast)}{md:List Nd}{E:Env}{v:Value}{kvs:List Value}{d:Int}{w w':World}{i:Nat}
theorem stmt_3 {r:Nat}{ks:List Ast}(hbk:HasB r)(hs:Sh p k a t n Q B (.ok ks (RT E i::E.pts.drop (i+1))) md)(h:RS E v kvs md i (64-(r:Int)) 0 w)(hr:r≤64)(hQ:Q+20*r+24≤B∧Q≤200000)(hj:words13.idxOf (RT E i).txt=3) :
 Calls Tryz.prog 223 #[.pointer (some ⟨E.b,0,none⟩),.int .i64 (p.length:Int)] w fun x w'=>x=.returned (.tuple #[])∧In E p k a t n (64-(r:Int)) Q B (knd (.ok ks (RT E i::E.pts.drop (i+1))) (stmtP r (blockP r))) w':=by
 obtain ⟨c0,c1,_,_,c4⟩:=h.rowCells
 obtain ⟨k0,_,_,_⟩:=h.tokCells
 have b0:(0:Int)≤(i:Int):=by omega
 have b1:(i:Int)<(E.toks.length:Int):=by have:=h.it;omega
 have hcap:=h.cap
 have hwj:=word13_ne (j:=3) (by decide)
 have ht:(RT E i).kind=1:=pt_word h.ptOk (words13.getD 3 none0) hwj.2 hwj.1 (word13 hj (by decide))
 have hb:((RT E i).kind==1)=true:=by simp [ht]
 have HN:Hid ((RT E i).txt≠none0):=lh (by rw [word13 hj (by decide)];exact hwj.1)
 have HH:=lh h
 have HSh:=lh hs
 have HQ:=lh hQ
 have HR:=lh hr
 have HJ:=lh hj
 have HBK:=lh hbk
 have HB:Hid (Q+20*r+24≤400000):=lh (by omega)
 have HK0:Hid (kindW (RT E i).txt=10):=lh (by unfold kindW;rw [hj];rfl)
 clear h hs hQ hj hbk hr ht hwj
 generalize (RT E i).kind=kd at *
 go_enter Tryz.func223,Tryz.ntmps223
 go_wp2_with fail
 go_quiet (fail)
 have HD:=lh (HH.out.drewN nq)
 have C1:=lh (text_at HD.out)
 generalize w.drewN nq=w1 at *
 clear c0 c1 c4 k0
 go_wp2_with fail
 (with_reducible refine C1.out.mono ?_)
 rintro x wd ⟨rfl,m,rfl⟩
 have H2:=lh (HD.out.drewN m)
 generalize w1.drewN m=w2 at *
 clear C1
 have C2:Hid (Calls Tryz.prog 255 #[.string (RT E i).txt] w2 fun x w'=>x=.returned (.int .u8 10)∧w'=w2.alloc (.cells C13 9)):=lh (by have:=kind_at w2 (RT E i).txt;rw [HK0.out] at this;exact this)
 go_wp2_with fail
 (with_reducible refine C2.out.mono ?_)
 rintro x wd ⟨rfl,rfl⟩
 have H3:=lh (In.of_first HSh.out (H2.out.alloc (.cells C13 9)) (Q+20*r+12))
 generalize w2.alloc (.cells C13 9)=w3 at *
 clear C2
 have C4:=lh (kid_I H3.out (by omega) (by have:=HB.out;omega))
 go_wp2_with fail
 (with_reducible refine C4.out.mono ?_)
 rintro x w4 ⟨rfl,v4,kvs4,p2,ho,h4⟩
 have HO:=lh ho
 have C5:=lh (node_I ho h4 (by omega) (by have:=HB.out;omega) 10)
 clear C4 ho h4
 go_wp2_with fail
 (with_reducible refine C5.out.mono ?_)
 rintro x w5 ⟨rfl,h5⟩
 have h5:In E p2 10 (RT E i).at' none0 0 (64-(r:Int)) (Q+1) (Q+20*r+12+1) (.ok [] (RT E i::E.pts.drop (i+1))) w5:=h5
 obtain ⟨i6,h63,c16,cz6,h6⟩:=inc_ok h5 (by omega) HN.out
 have H6:=lh h6
 clear C5 h5 h6
 go_upto_region 8 with fail
 generalize w5.setCell ⟨E.b,1,none⟩ (.int .i64 ((i6:Int)+1))=w6 at *
 clear c16 cz6
 have C7:=lh (row_I H6.out HR.out (by have:=HQ.out;omega) (by have:=HB.out;omega))
 go_wp2_with fail
 (with_reducible refine C7.out.mono ?_)
 rintro x w7 ⟨rfl,h7⟩
 have H7:=lh h7
 clear C7 h7
 have C8:=lh (take_I H7.out (by have:=HQ.out;omega) ⟨#[59]⟩ (by decide) (by decide))
 go_wp2_with fail
 (with_reducible refine C8.out.mono ?_)
 rintro x w8 ⟨rfl,h8⟩
 have H8:=lh h8
 clear C8 h8
 have HF:=lh (In.close (B':=B) HO.out (H8.out.mono (Nat.le_refl _) (B':=B) (by have:=HQ.out;omega)) (by omega) (by have:=HQ.out;omega) (fun q c e=>by cases e))
 rw [stmt_eq HJ.out (by decide) (eq3 (r:=r))] at HF
 go_wp2
 simp [bodyPost,results,Tryz.results223,go_sem]
 exact HF.out
end
end Rf
namespace Rf
open Go.RowKit Par
section
variable {p:List Nd}{k:Int}{a:Nat}{t:ByteArray}{n:Int}{Q B:Nat}{R:Res (List Ast)}{md:List Nd}{E:Env}{v:Value}{kvs:List Value}{d:Int}{w w':World}{i:Nat}
theorem stmt_5 {r:Nat}{ks:List Ast}(hbk:HasB r)(hs:Sh p k a t n Q B (.ok ks (RT E i::E.pts.drop (i+1))) md)(h:RS E v kvs md i (64-(r:Int)) 0 w)(hr:r≤64)(hQ:Q+20*r+24≤B∧Q≤200000)(hj:words13.idxOf (RT E i).txt=5) :
 Calls Tryz.prog 223 #[.pointer (some ⟨E.b,0,none⟩),.int .i64 (p.length:Int)] w fun x w'=>x=.returned (.tuple #[])∧In E p k a t n (64-(r:Int)) Q B (knd (.ok ks (RT E i::E.pts.drop (i+1))) (stmtP r (blockP r))) w':=by
 obtain ⟨c0,c1,_,_,c4⟩:=h.rowCells
 obtain ⟨k0,_,_,_⟩:=h.tokCells
 have b0:(0:Int)≤(i:Int):=by omega
 have b1:(i:Int)<(E.toks.length:Int):=by have:=h.it;omega
 have hcap:=h.cap
 have hwj:=word13_ne (j:=5) (by decide)
 have ht:(RT E i).kind=1:=pt_word h.ptOk (words13.getD 5 none0) hwj.2 hwj.1 (word13 hj (by decide))
 have hb:((RT E i).kind==1)=true:=by simp [ht]
 have HN:Hid ((RT E i).txt≠none0):=lh (by rw [word13 hj (by decide)];exact hwj.1)
 have HH:=lh h
 have HSh:=lh hs
 have HQ:=lh hQ
 have HR:=lh hr
 have HJ:=lh hj
 have HBK:=lh hbk
 have HB:Hid (Q+20*r+24≤400000):=lh (by omega)
 have HK0:Hid (kindW (RT E i).txt=12):=lh (by unfold kindW;rw [hj];rfl)
 clear h hs hQ hj hbk hr ht hwj
 generalize (RT E i).kind=kd at *
 go_enter Tryz.func223,Tryz.ntmps223
 go_wp2_with fail
 go_quiet (fail)
 have HD:=lh (HH.out.drewN nq)
 have C1:=lh (text_at HD.out)
 generalize w.drewN nq=w1 at *
 clear c0 c1 c4 k0
 go_wp2_with fail
 (with_reducible refine C1.out.mono ?_)
 rintro x wd ⟨rfl,m,rfl⟩
 have H2:=lh (HD.out.drewN m)
 generalize w1.drewN m=w2 at *
 clear C1
 have C2:Hid (Calls Tryz.prog 255 #[.string (RT E i).txt] w2 fun x w'=>x=.returned (.int .u8 12)∧w'=w2.alloc (.cells C13 9)):=lh (by have:=kind_at w2 (RT E i).txt;rw [HK0.out] at this;exact this)
 go_wp2_with fail
 (with_reducible refine C2.out.mono ?_)
 rintro x wd ⟨rfl,rfl⟩
 have H3:=lh (In.of_first HSh.out (H2.out.alloc (.cells C13 9)) (Q+20*r+12))
 generalize w2.alloc (.cells C13 9)=w3 at *
 clear C2
 have C4:=lh (kid_I H3.out (by omega) (by have:=HB.out;omega))
 go_wp2_with fail
 (with_reducible refine C4.out.mono ?_)
 rintro x w4 ⟨rfl,v4,kvs4,p2,ho,h4⟩
 have HO:=lh ho
 have C5:=lh (node_I ho h4 (by omega) (by have:=HB.out;omega) 12)
 clear C4 ho h4
 go_wp2_with fail
 (with_reducible refine C5.out.mono ?_)
 rintro x w5 ⟨rfl,h5⟩
 have h5:In E p2 12 (RT E i).at' none0 0 (64-(r:Int)) (Q+1) (Q+20*r+12+1) (.ok [] (RT E i::E.pts.drop (i+1))) w5:=h5
 obtain ⟨i6,h63,c16,cz6,h6⟩:=inc_ok h5 (by omega) HN.out
 have H6:=lh h6
 clear C5 h5 h6
 go_upto_region 8 with fail
 generalize w5.setCell ⟨E.b,1,none⟩ (.int .i64 ((i6:Int)+1))=w6 at *
 clear c16 cz6
 have C7:=lh (word_I H6.out (by have:=HQ.out;omega) (by have:=HB.out;omega))
 go_wp2_with fail
 (with_reducible refine C7.out.mono ?_)
 rintro x w7 ⟨rfl,h7⟩
 have H7:=lh h7
 clear C7 h7
 have C8:=lh (is_I H7.out ⟨#[97,108,108]⟩ (by decide) (by decide))
 obtain ⟨b8,y8⟩:=H7.out.look ⟨#[97,108,108]⟩
 rw [y8] at C8
 have HY8:=lh y8
 have HN8:=lh H7.out.ne
 clear y8
 go_wp2_with fail
 (with_reducible refine C8.out.mono ?_)
 rintro x wd ⟨rfl,m,rfl⟩
 have H8:=lh (H7.out.drewN m)
 generalize w7.drewN m=w8 at *
 clear C8
 cases b8 with
 | true =>
  obtain ⟨g9,len9,cap9,hn9,_,hs9,_⟩:=H8.out.nod
  have c39:=hn9.c3
  have z39:w8.frozen? ⟨g9,p2.length*5+3,none⟩=false:=hn9.fz 3
  obtain ⟨o9,f9⟩:=hn9.n0
  have b09:(0:Int)≤(p2.length:Int):=by omega
  have b19:(p2.length:Int)<(len9:Int):=by have:=hn9.lt;omega
  have H9:=lh (hs9 1)
  clear hn9 hs9
  go_upto_region 45 with fail
  generalize w8.setCell ⟨g9,p2.length*5+3,none⟩ (.int .i64 1)=w9 at *
  clear c39 z39 f9
  obtain ⟨i10,h6310,c110,cz10,h10⟩:=(H9.out.mono (Nat.le_succ _) (Nat.le_refl _)).inc (by have:=HQ.out;omega) (by decide) HY8.out
  have H10:=lh h10
  clear h10
  go_upto_region 64 with fail
  generalize w9.setCell ⟨E.b,1,none⟩ (.int .i64 ((i10:Int)+1))=w10 at *
  clear c110 cz10
  have C11:=lh (take_I H10.out (by have:=HQ.out;omega) ⟨#[59]⟩ (by decide) (by decide))
  go_wp2_with fail
  (with_reducible refine C11.out.mono ?_)
  rintro x w11 ⟨rfl,h11⟩
  have H11:=lh h11
  clear C11 h11
  have HF:=lh (In.close (B':=B) HO.out (H11.out.mono (Nat.le_refl _) (B':=B) (by have:=HQ.out;omega)) (by omega) (by have:=HQ.out;omega) (fun q c e=>by cases e))
  rw [stmt_eq HJ.out (by decide) (eq5y (r:=r) HY8.out)] at HF
  go_wp2
  simp [bodyPost,results,Tryz.results223,go_sem]
  exact HF.out
 | false =>
  have C12:=lh (take_I H8.out (by have:=HQ.out;omega) ⟨#[115,104,97,114,101,100]⟩ (by decide) (by decide))
  go_wp2_with fail
  (with_reducible refine C12.out.mono ?_)
  rintro x w12 ⟨rfl,h12⟩
  have H12:=lh h12
  clear C12 h12
  have C13:=lh (take_I H12.out (by have:=HQ.out;omega) ⟨#[59]⟩ (by decide) (by decide))
  go_wp2_with fail
  (with_reducible refine C13.out.mono ?_)
  rintro x w13 ⟨rfl,h13⟩
  have H13:=lh h13
  clear C13 h13
  have HF:=lh (In.close (B':=B) HO.out (H13.out.mono (Nat.le_refl _) (B':=B) (by have:=HQ.out;omega)) (by omega) (by have:=HQ.out;omega) (fun q c e=>by cases e))
  rw [stmt_eq HJ.out (by decide) (eq5n (r:=r) HY8.out HN8.out)] at HF
  go_wp2
  simp [bodyPost,results,Tryz.results223,go_sem]
  exact HF.out
end
end Rf
namespace Rf
open Go.RowKit Par
section
variable {p:List Nd}{k:Int}{a:Nat}{t:ByteArray}{n:Int}{Q B:Nat}{R:Res (List Ast)}{md:List Nd}{E:Env}{v:Value}{kvs:List Value}{d:Int}{w w':World}{i:Nat}
theorem stmt_7 {r:Nat}{ks:List Ast}(hbk:HasB r)(hs:Sh p k a t n Q B (.ok ks (RT E i::E.pts.drop (i+1))) md)(h:RS E v kvs md i (64-(r:Int)) 0 w)(hr:r≤64)(hQ:Q+20*r+24≤B∧Q≤200000)(hj:words13.idxOf (RT E i).txt=7) :
 Calls Tryz.prog 223 #[.pointer (some ⟨E.b,0,none⟩),.int .i64 (p.length:Int)] w fun x w'=>x=.returned (.tuple #[])∧In E p k a t n (64-(r:Int)) Q B (knd (.ok ks (RT E i::E.pts.drop (i+1))) (stmtP r (blockP r))) w':=by
 obtain ⟨c0,c1,_,_,c4⟩:=h.rowCells
 obtain ⟨k0,_,_,_⟩:=h.tokCells
 have b0:(0:Int)≤(i:Int):=by omega
 have b1:(i:Int)<(E.toks.length:Int):=by have:=h.it;omega
 have hcap:=h.cap
 have hwj:=word13_ne (j:=7) (by decide)
 have ht:(RT E i).kind=1:=pt_word h.ptOk (words13.getD 7 none0) hwj.2 hwj.1 (word13 hj (by decide))
 have hb:((RT E i).kind==1)=true:=by simp [ht]
 have HN:Hid ((RT E i).txt≠none0):=lh (by rw [word13 hj (by decide)];exact hwj.1)
 have HH:=lh h
 have HSh:=lh hs
 have HQ:=lh hQ
 have HR:=lh hr
 have HJ:=lh hj
 have HBK:=lh hbk
 have HB:Hid (Q+20*r+24≤400000):=lh (by omega)
 have HK0:Hid (kindW (RT E i).txt=14):=lh (by unfold kindW;rw [hj];rfl)
 clear h hs hQ hj hbk hr ht hwj
 generalize (RT E i).kind=kd at *
 go_enter Tryz.func223,Tryz.ntmps223
 go_wp2_with fail
 go_quiet (fail)
 have HD:=lh (HH.out.drewN nq)
 have C1:=lh (text_at HD.out)
 generalize w.drewN nq=w1 at *
 clear c0 c1 c4 k0
 go_wp2_with fail
 (with_reducible refine C1.out.mono ?_)
 rintro x wd ⟨rfl,m,rfl⟩
 have H2:=lh (HD.out.drewN m)
 generalize w1.drewN m=w2 at *
 clear C1
 have C2:Hid (Calls Tryz.prog 255 #[.string (RT E i).txt] w2 fun x w'=>x=.returned (.int .u8 14)∧w'=w2.alloc (.cells C13 9)):=lh (by have:=kind_at w2 (RT E i).txt;rw [HK0.out] at this;exact this)
 go_wp2_with fail
 (with_reducible refine C2.out.mono ?_)
 rintro x wd ⟨rfl,rfl⟩
 have H3:=lh (In.of_first HSh.out (H2.out.alloc (.cells C13 9)) (Q+20*r+12))
 generalize w2.alloc (.cells C13 9)=w3 at *
 clear C2
 have C4:=lh (kid_I H3.out (by omega) (by have:=HB.out;omega))
 go_wp2_with fail
 (with_reducible refine C4.out.mono ?_)
 rintro x w4 ⟨rfl,v4,kvs4,p2,ho,h4⟩
 have HO:=lh ho
 have C5:=lh (node_I ho h4 (by omega) (by have:=HB.out;omega) 14)
 clear C4 ho h4
 go_wp2_with fail
 (with_reducible refine C5.out.mono ?_)
 rintro x w5 ⟨rfl,h5⟩
 have h5:In E p2 14 (RT E i).at' none0 0 (64-(r:Int)) (Q+1) (Q+20*r+12+1) (.ok [] (RT E i::E.pts.drop (i+1))) w5:=h5
 obtain ⟨i6,h63,c16,cz6,h6⟩:=inc_ok h5 (by omega) HN.out
 have H6:=lh h6
 clear C5 h5 h6
 go_upto_region 8 with fail
 generalize w5.setCell ⟨E.b,1,none⟩ (.int .i64 ((i6:Int)+1))=w6 at *
 clear c16 cz6
 have C7:=lh (branch_I HBK.out H6.out HR.out (by have:=HQ.out;omega) (by have:=HB.out;omega))
 go_wp2_with fail
 (with_reducible refine C7.out.mono ?_)
 rintro x w7 ⟨rfl,s7,n7,R7,h7,e7⟩
 have HF:=lh (In.close (B':=B) HO.out (h7.mono (Nat.le_refl _) (B':=B) (by have:=HQ.out;omega)) (by omega) (by have:=HQ.out;omega) (fun q c e=>by cases e))
 rw [stmt_eq HJ.out (by decide) e7] at HF
 clear C7 h7 e7
 go_wp2
 simp [bodyPost,results,Tryz.results223,go_sem]
 exact HF.out
end
end Rf
namespace Rf
open Go.RowKit Par
section
variable {p:List Nd}{k:Int}{a:Nat}{t:ByteArray}{n:Int}{Q B:Nat}{R:Res (List Ast)}{md:List Nd}{E:Env}{v:Value}{kvs:List Value}{d:Int}{w w':World}{i:Nat}
theorem stmt_8 {r:Nat}{ks:List Ast}(hbk:HasB r)(hs:Sh p k a t n Q B (.ok ks (RT E i::E.pts.drop (i+1))) md)(h:RS E v kvs md i (64-(r:Int)) 0 w)(hr:r≤64)(hQ:Q+20*r+24≤B∧Q≤200000)(hj:words13.idxOf (RT E i).txt=8) :
 Calls Tryz.prog 223 #[.pointer (some ⟨E.b,0,none⟩),.int .i64 (p.length:Int)] w fun x w'=>x=.returned (.tuple #[])∧In E p k a t n (64-(r:Int)) Q B (knd (.ok ks (RT E i::E.pts.drop (i+1))) (stmtP r (blockP r))) w':=by
 obtain ⟨c0,c1,_,_,c4⟩:=h.rowCells
 obtain ⟨k0,_,_,_⟩:=h.tokCells
 have b0:(0:Int)≤(i:Int):=by omega
 have b1:(i:Int)<(E.toks.length:Int):=by have:=h.it;omega
 have hcap:=h.cap
 have hwj:=word13_ne (j:=8) (by decide)
 have ht:(RT E i).kind=1:=pt_word h.ptOk (words13.getD 8 none0) hwj.2 hwj.1 (word13 hj (by decide))
 have hb:((RT E i).kind==1)=true:=by simp [ht]
 have HN:Hid ((RT E i).txt≠none0):=lh (by rw [word13 hj (by decide)];exact hwj.1)
 have HH:=lh h
 have HSh:=lh hs
 have HQ:=lh hQ
 have HR:=lh hr
 have HJ:=lh hj
 have HBK:=lh hbk
 have HB:Hid (Q+20*r+24≤400000):=lh (by omega)
 have HK0:Hid (kindW (RT E i).txt=15):=lh (by unfold kindW;rw [hj];rfl)
 clear h hs hQ hj hbk hr ht hwj
 generalize (RT E i).kind=kd at *
 go_enter Tryz.func223,Tryz.ntmps223
 go_wp2_with fail
 go_quiet (fail)
 have HD:=lh (HH.out.drewN nq)
 have C1:=lh (text_at HD.out)
 generalize w.drewN nq=w1 at *
 clear c0 c1 c4 k0
 go_wp2_with fail
 (with_reducible refine C1.out.mono ?_)
 rintro x wd ⟨rfl,m,rfl⟩
 have H2:=lh (HD.out.drewN m)
 generalize w1.drewN m=w2 at *
 clear C1
 have C2:Hid (Calls Tryz.prog 255 #[.string (RT E i).txt] w2 fun x w'=>x=.returned (.int .u8 15)∧w'=w2.alloc (.cells C13 9)):=lh (by have:=kind_at w2 (RT E i).txt;rw [HK0.out] at this;exact this)
 go_wp2_with fail
 (with_reducible refine C2.out.mono ?_)
 rintro x wd ⟨rfl,rfl⟩
 have H3:=lh (In.of_first HSh.out (H2.out.alloc (.cells C13 9)) (Q+20*r+12))
 generalize w2.alloc (.cells C13 9)=w3 at *
 clear C2
 have C4:=lh (kid_I H3.out (by omega) (by have:=HB.out;omega))
 go_wp2_with fail
 (with_reducible refine C4.out.mono ?_)
 rintro x w4 ⟨rfl,v4,kvs4,p2,ho,h4⟩
 have HO:=lh ho
 have C5:=lh (node_I ho h4 (by omega) (by have:=HB.out;omega) 15)
 clear C4 ho h4
 go_wp2_with fail
 (with_reducible refine C5.out.mono ?_)
 rintro x w5 ⟨rfl,h5⟩
 have h5:In E p2 15 (RT E i).at' none0 0 (64-(r:Int)) (Q+1) (Q+20*r+12+1) (.ok [] (RT E i::E.pts.drop (i+1))) w5:=h5
 obtain ⟨i6,h63,c16,cz6,h6⟩:=inc_ok h5 (by omega) HN.out
 have H6:=lh h6
 clear C5 h5 h6
 go_upto_region 8 with fail
 generalize w5.setCell ⟨E.b,1,none⟩ (.int .i64 ((i6:Int)+1))=w6 at *
 clear c16 cz6
 have C7:=lh (loop_I HBK.out H6.out HR.out (by have:=HQ.out;omega) (by have:=HB.out;omega))
 go_wp2_with fail
 (with_reducible refine C7.out.mono ?_)
 rintro x w7 ⟨rfl,s7,n7,R7,h7,e7⟩
 have HF:=lh (In.close (B':=B) HO.out (h7.mono (Nat.le_refl _) (B':=B) (by have:=HQ.out;omega)) (by omega) (by have:=HQ.out;omega) (fun q c e=>by cases e))
 rw [stmt_eq HJ.out (by decide) e7] at HF
 clear C7 h7 e7
 go_wp2
 simp [bodyPost,results,Tryz.results223,go_sem]
 exact HF.out
end
end Rf
namespace Rf
open Go.RowKit Par
section
variable {p:List Nd}{k:Int}{a:Nat}{t:ByteArray}{n:Int}{Q B:Nat}{R:Res (List Ast)}{md:List Nd}{E:Env}{v:Value}{kvs:List Value}{d:Int}{w w':World}{i:Nat}
theorem stmt_10 {r:Nat}{ks:List Ast}(hbk:HasB r)(hs:Sh p k a t n Q B (.ok ks (RT E i::E.pts.drop (i+1))) md)(h:RS E v kvs md i (64-(r:Int)) 0 w)(hr:r≤64)(hQ:Q+20*r+24≤B∧Q≤200000)(hj:words13.idxOf (RT E i).txt=10) :
 Calls Tryz.prog 223 #[.pointer (some ⟨E.b,0,none⟩),.int .i64 (p.length:Int)] w fun x w'=>x=.returned (.tuple #[])∧In E p k a t n (64-(r:Int)) Q B (knd (.ok ks (RT E i::E.pts.drop (i+1))) (stmtP r (blockP r))) w':=by
 obtain ⟨c0,c1,_,_,c4⟩:=h.rowCells
 obtain ⟨k0,_,_,_⟩:=h.tokCells
 have b0:(0:Int)≤(i:Int):=by omega
 have b1:(i:Int)<(E.toks.length:Int):=by have:=h.it;omega
 have hcap:=h.cap
 have hwj:=word13_ne (j:=10) (by decide)
 have ht:(RT E i).kind=1:=pt_word h.ptOk (words13.getD 10 none0) hwj.2 hwj.1 (word13 hj (by decide))
 have hb:((RT E i).kind==1)=true:=by simp [ht]
 have HN:Hid ((RT E i).txt≠none0):=lh (by rw [word13 hj (by decide)];exact hwj.1)
 have HH:=lh h
 have HSh:=lh hs
 have HQ:=lh hQ
 have HR:=lh hr
 have HJ:=lh hj
 have HBK:=lh hbk
 have HB:Hid (Q+20*r+24≤400000):=lh (by omega)
 have HK0:Hid (kindW (RT E i).txt=17):=lh (by unfold kindW;rw [hj];rfl)
 clear h hs hQ hj hbk hr ht hwj
 generalize (RT E i).kind=kd at *
 go_enter Tryz.func223,Tryz.ntmps223
 go_wp2_with fail
 go_quiet (fail)
 have HD:=lh (HH.out.drewN nq)
 have C1:=lh (text_at HD.out)
 generalize w.drewN nq=w1 at *
 clear c0 c1 c4 k0
 go_wp2_with fail
 (with_reducible refine C1.out.mono ?_)
 rintro x wd ⟨rfl,m,rfl⟩
 have H2:=lh (HD.out.drewN m)
 generalize w1.drewN m=w2 at *
 clear C1
 have C2:Hid (Calls Tryz.prog 255 #[.string (RT E i).txt] w2 fun x w'=>x=.returned (.int .u8 17)∧w'=w2.alloc (.cells C13 9)):=lh (by have:=kind_at w2 (RT E i).txt;rw [HK0.out] at this;exact this)
 go_wp2_with fail
 (with_reducible refine C2.out.mono ?_)
 rintro x wd ⟨rfl,rfl⟩
 have H3:=lh (In.of_first HSh.out (H2.out.alloc (.cells C13 9)) (Q+20*r+12))
 generalize w2.alloc (.cells C13 9)=w3 at *
 clear C2
 have C4:=lh (kid_I H3.out (by omega) (by have:=HB.out;omega))
 go_wp2_with fail
 (with_reducible refine C4.out.mono ?_)
 rintro x w4 ⟨rfl,v4,kvs4,p2,ho,h4⟩
 have HO:=lh ho
 have C5:=lh (node_I ho h4 (by omega) (by have:=HB.out;omega) 17)
 clear C4 ho h4
 go_wp2_with fail
 (with_reducible refine C5.out.mono ?_)
 rintro x w5 ⟨rfl,h5⟩
 have h5:In E p2 17 (RT E i).at' none0 0 (64-(r:Int)) (Q+1) (Q+20*r+12+1) (.ok [] (RT E i::E.pts.drop (i+1))) w5:=h5
 obtain ⟨i6,h63,c16,cz6,h6⟩:=inc_ok h5 (by omega) HN.out
 have H6:=lh h6
 clear C5 h5 h6
 go_upto_region 8 with fail
 generalize w5.setCell ⟨E.b,1,none⟩ (.int .i64 ((i6:Int)+1))=w6 at *
 clear c16 cz6
 have C7:=lh (expr_I H6.out HR.out (by have:=HQ.out;omega) (by have:=HB.out;omega))
 go_wp2_with fail
 (with_reducible refine C7.out.mono ?_)
 rintro x w7 ⟨rfl,h7⟩
 have H7:=lh h7
 clear C7 h7
 have C8:=lh (take_I H7.out (by have:=HQ.out;omega) ⟨#[59]⟩ (by decide) (by decide))
 go_wp2_with fail
 (with_reducible refine C8.out.mono ?_)
 rintro x w8 ⟨rfl,h8⟩
 have H8:=lh h8
 clear C8 h8
 have HF:=lh (In.close (B':=B) HO.out (H8.out.mono (Nat.le_refl _) (B':=B) (by have:=HQ.out;omega)) (by omega) (by have:=HQ.out;omega) (fun q c e=>by cases e))
 rw [stmt_eq HJ.out (by decide) (eq10 (r:=r))] at HF
 go_wp2
 simp [bodyPost,results,Tryz.results223,go_sem]
 exact HF.out
end
end Rf
end Go.Proofs.YthdioipfdbbmmaaGreatDoor
