/- Contracts. -/
import Derived.Test.YthdioipfdbbmmaaGreatDoorHab
import Derived.Test.YthdioipfdbbmmaaGreatDoorHak
import Derived.Test.YthdioipfdbbmmaaGreatDoorHas
import Derived.Test.YthdioipfdbbmmaaGreatDoorHax
import Derived.Test.YthdioipfdbbmmaaGreatDoorHaz
import Derived.Test.YthdioipfdbbmmaaGreatDoorHba
import Derived.Test.YthdioipfdbbmmaaGreatDoorHbf
import Derived.Deep.LoopGhost
import Derived.Deep.RegionHeld3
import Derived.Deep.Cut
import Derived.Deep.RegionLaw
import Derived.Deep.AppendLies
import Derived.Lib.ConvBytes
import Derived.Laws.AppendOwn
set_option linter.all false
set_option maxRecDepth 1000000
set_option maxHeartbeats 16000000
namespace Go.Proofs.YthdioipfdbbmmaaGreatDoor
namespace Rf
open Go.RowKit Par
section
variable {p:List Nd}{k:Int}{a:Nat}{t:ByteArray}{n:Int}{Q B:Nat}{R:Res (List Ast)}{md:List Nd}{E:Env}{v:Value}{kvs:List Value}{d:Int}{w w':World}{i:Nat}
theorem table_I {ks:List Ast}{l:List PT}(h:In E [] 1 a none0 0 (64-((64:Nat):Int)) Q B (.ok ks l) w)(hy:nxt (.ok ks l:Res (List Ast)) ⟨#[116,97,98,108,101]⟩=true)(hQ:Q+1310≤B∧Q≤199000) :
 Calls Tryz.prog 96 #[.pointer (some ⟨E.b,0,none⟩)] w fun x w'=>x=.returned (.tuple #[])∧In E [] 1 a none0 0 (64-((64:Nat):Int)) Q B (knd (.ok ks l) tableP) w':=by
 obtain ⟨u,l,rfl,hu⟩:=nxt_cons hy
 have HU:=lh hu
 have HN:Hid (u.txt≠none0):=lh (by rw [hu];decide)
 have HQ:=lh hQ
 have HR:Hid (64≤64):=lh (Nat.le_refl _)
 have HBK:=lh (block_all 64 (Nat.le_refl _))
 have HB:Hid (Q+1310≤400000):=lh (by omega)
 have C1:Hid (Calls Tryz.prog 162 #[.pointer (some ⟨E.b,0,none⟩),.int .i64 0] w fun x w'=>x=.returned (.tuple #[])∧∃v kvs p2,Opn [] 1 a none0 0 Q (Q+1292) (.ok ks (u::l)) p2∧At E v kvs p2 (64-((64:Nat):Int)) (.ok ks (u::l):Res (List Ast)) w'):=lh (kid_I (p:=[]) (h.okB (Q+1292)) (by omega) (by omega))
 clear h hy hQ hu
 go_enter Tryz.func96,Tryz.ntmps96
 go_wp2_with fail
 (with_reducible refine C1.out.mono ?_)
 rintro x w4 ⟨rfl,v4,kvs4,p2,ho,h4⟩
 have HO:=lh ho
 have C5:=lh (node_I ho h4 (by omega) (by have:=HB.out;omega) 2)
 clear C1 ho h4
 go_wp2_with fail
 (with_reducible refine C5.out.mono ?_)
 rintro x w5 ⟨rfl,h5⟩
 have h5:In E p2 2 u.at' none0 0 (64-((64:Nat):Int)) (Q+1) (Q+1292+1) (.ok [] (u::l)) w5:=h5
 obtain ⟨i6,h63,c16,cz6,h6⟩:=inc_ok h5 (by omega) HN.out
 have H6:=lh h6
 clear C5 h5 h6
 go_upto_region 3 with fail
 generalize w5.setCell ⟨E.b,1,none⟩ (.int .i64 ((i6:Int)+1))=w6 at *
 clear c16 cz6
 obtain ⟨g7,len7,cap7,hn7,hc7⟩:=name_I H6.out.drew (by have:=HQ.out;omega)
 have c37:=hn7.c3
 have b07:(0:Int)≤(p2.length:Int):=by omega
 have b17:(p2.length:Int)<(len7:Int):=by have:=hn7.lt;omega
 have gb7:=hn7.gb
 have NM7:=lh hc7
 clear hn7 hc7
 go_wp2_with fail
 go_region_held3 (fun w'=>w'.cell? ⟨E.b,3,none⟩=some (.slice (some ⟨g7,0,none⟩) len7 cap7)) (first|exact c37|exact k37|exact (World.cell?_of_block (w:=v7) (a:=⟨E.b,3,none⟩) (Below.heap_setCell _ _ _ _ gb7)).trans k37)
  (first
   | (go_at_call 163;(with_reducible refine NM7.out.mono ?_);rintro x v7 ⟨s7,rfl,hd7,hm7,hi7⟩;have k37:=hm7.c3;have z57:=hm7.fz 2;obtain ⟨t57,k57⟩:=hm7.t0;have H7:=lh hi7;have HD7:=lh hd7;clear hm7 hi7 hd7))
 generalize v7.setCell ⟨g7,p2.length*5+2,none⟩ (.string s7)=w7 at *
 clear c37 k37 z57 k57 NM7
 have C8:=lh (take_I H7.out (by have:=HQ.out;omega) ⟨#[40]⟩ (by decide) (by decide))
 go_wp2_with fail
 (with_reducible refine C8.out.mono ?_)
 rintro x w8 ⟨rfl,h8⟩
 have H8:=lh h8
 clear C8 h8
 have C9:=lh (word_I H8.out (by have:=HQ.out;omega) (by have:=HB.out;omega))
 go_wp2_with fail
 (with_reducible refine C9.out.mono ?_)
 rintro x w9 ⟨rfl,h9⟩
 have H9:=lh h9
 clear C9 h9
 go_wp2_with fail
 go_loopg [] (left (knd (skp (skp (Res.ok [] l:Res (List Ast)) (takeP 1)) (expectP ⟨#[40]⟩)) wordP)) (fun g wr=>∃R1:Res (List Ast),Hid (left R1≤g)∧Hid (then' R1 (many (listStep wordP))=then' (knd (skp (skp (Res.ok [] l:Res (List Ast)) (takeP 1)) (expectP ⟨#[40]⟩)) wordP) (many (listStep wordP)))∧Hid (In E p2 2 u.at' s7 0 (64-((64:Nat):Int)) Q (Q+1294+2) R1 wr))
 case atStart=>exact ⟨_,lh (Nat.le_refl _),lh rfl,lh (H9.out.mono (Nat.le_refl _) (by omega))⟩
 case round =>
  clear H9
  obtain ⟨R1,HG,HE,HL⟩:=hrel
  have C10:=lh (is_I HL.out ⟨#[44]⟩ (by decide) (by decide))
  obtain ⟨b10,y10⟩:=HL.out.look ⟨#[44]⟩
  rw [y10] at C10
  have HY10:=lh y10
  have HN10:=lh HL.out.ne
  clear y10
  go_wp2_with fail
  (with_reducible refine C10.out.mono ?_)
  rintro x wd ⟨rfl,m,rfl⟩
  have H10:=lh (HL.out.drewN m)
  generalize wr.drewN m=w10 at *
  clear C10
  cases b10 with
  | false =>
   have HE2:=lh ((list_done HN10.out HY10.out).symm.trans HE.out)
   have C11:=lh (take_I H10.out (by have:=HQ.out;omega) ⟨#[41]⟩ (by decide) (by decide))
   go_wp2_with fail
   (with_reducible refine C11.out.mono ?_)
   rintro x w11 ⟨rfl,h11⟩
   have H11:=lh h11
   clear C11 h11
   have C12:=lh (take_I H11.out (by have:=HQ.out;omega) ⟨#[59]⟩ (by decide) (by decide))
   go_wp2_with fail
   (with_reducible refine C12.out.mono ?_)
   rintro x w12 ⟨rfl,h12⟩
   have H12:=lh h12
   clear C12 h12
   have HF:=lh (In.close (B':=B) HO.out (H12.out.mono (Nat.le_refl _) (B':=B) (by have:=HQ.out;omega)) (by omega) (by have:=HQ.out;omega) (fun q c e=>by cases e))
   rw [part_close (tbl_eq HU.out HD7.out HE2.out)] at HF
   go_wp2
   simp [bodyPost,results,Tryz.results96,go_sem]
   exact HF.out
  | true =>
   obtain ⟨ks1,l1,rfl⟩:=nxt_ok HY10.out
   have HL2:=lh (H10.out.okB (Q+1294+1))
   obtain ⟨i13,h6313,c113,cz13,h13⟩:=(HL2.out.mono (Nat.le_succ _) (Nat.le_refl _)).inc (by have:=HQ.out;omega) (by decide) HY10.out
   have H13:=lh h13
   clear h13
   go_upto_region 8 with fail
   generalize w10.setCell ⟨E.b,1,none⟩ (.int .i64 ((i13:Int)+1))=w13 at *
   clear c113 cz13
   have C14:=lh (word_I H13.out (by have:=HQ.out;omega) (by have:=HB.out;omega))
   go_wp2_with fail
   (with_reducible refine C14.out.mono ?_)
   rintro x w14 ⟨rfl,h14⟩
   have H14:=lh h14
   clear C14 h14
   have HLT:Hid (left (knd (skp (Res.ok ks1 l1) (skipP ⟨#[44]⟩)) wordP)<gk):=lh (by have:=HG.out;have:=list_left less_word HY10.out;omega)
   have HE3:=lh ((list_more less_word HY10.out).symm.trans HE.out)
   go_wp2_with fail
   go_roundg (left (knd (skp (Res.ok ks1 l1) (skipP ⟨#[44]⟩)) wordP))
   case rel=>exact ⟨_,lh (Nat.le_refl _),HE3,H14⟩
   case measure=>exact HLT.out
end
end Rf
namespace Rf
open Go.RowKit Par
theorem prog_of {pts:List PT}{t0:PT}{l0:List PT}(h:pts=t0::l0):programP pts=match many progStep [] pts with|.err q c=>.err q c|.ok ks l=>.ok (nodeA 1 t0.at' ks) l:=by
 subst h
 simp only [programP,Par.bind,peekP,Par.pure]
 cases many progStep [] (t0::l0)<;>rfl
theorem refParse_lex (w:World)(p:Option Addr)(len c:Nat)(xs:List Int)(h:Src w p len c xs)(hb:len≤65536)(i:Nat)(er:Int)(hx:lexS xs=.error (i,er)) :
 Calls Tryz.prog 50 #[.slice p len c] w (RefP xs w):=by
 have her:=lexAt_er xs xs.length 0 (by omega) (by omega) i er (by rw [← lexS_at];exact hx)
 have her0:(er != 0)=true:=by simp;omega
 have HX:Hid (parseS xs=.error (i,er)):=lh (by simp only [parseS,hx])
 have LN:=lh (ref_no h hb hx)
 clear h hx her
 go_enter Tryz.func50,Tryz.ntmps50
 go_wp2_with fail
 (with_reducible refine LN.out.mono ?_)
 rintro x w1 ⟨rfl,hb1⟩
 have HB:=lh hb1
 clear LN hb1
 go_wp2
 simp [bodyPost,results,Tryz.results50,go_sem]
 refine ⟨HB.out,?_⟩
 rw [HX.out]
 exact ⟨rfl,by simpa using her0⟩
theorem refParse_run (w:World)(p:Option Addr)(len c:Nat)(xs:List Int)(h:Src w p len c xs)(hb:len≤65536)(ts:List Tok)(hx:lexS xs=.ok ts) :
 Calls Tryz.prog 50 #[.slice p len c] w (RefP xs w):=by
 have LX:=lh (ref_ok h hb hx)
 have HX:=lh hx
 have HLN:Hid (xs.length≤65536):=lh (by rw [h.1];exact hb)
 clear h hx hb
 go_enter Tryz.func50,Tryz.ntmps50
 go_wp2_with fail
 (with_reducible refine LX.out.mono ?_)
 rintro x w4 ⟨g,cap,rfl,hT,hb4⟩
 have HB4:=lh hb4
 obtain ⟨E,hEW,hEb,hEt,hR0⟩:∃E:Env,E.W=w4∧w4.heap.size=E.b∧E.toks=ts∧RS E (.slice none 0 0) [] [] 0 0 0 (w4.alloc (.cells #[.slice (some ⟨g,0,none⟩) ts.length cap,.int .i64 0,.int .i64 0,.slice none 0 0,.int .i64 0] 158)) :=
  ⟨_,rfl,rfl,rfl,RS.begin w4 g cap ts xs hT HX.out HLN.out⟩
 have HEW:=lh hEW
 have HET:=lh hEt
 have H0:=lh hR0
 clear LX hT hb4 hEW hEt hR0
 go_wp2_with fail
 obtain ⟨w5,hw5⟩:∃w5,w4.alloc (.cells #[.slice (some ⟨g,0,none⟩) ts.length cap,.int .i64 0,.int .i64 0,.slice none 0 0,.int .i64 0] 158)=w5:=⟨_,rfl⟩
 rw [hw5] at H0 ⊢
 clear hw5
 have C5:=lh (node_at H0.out 1 (by decide))
 go_wp2_with fail
 (with_reducible refine C5.out.mono ?_)
 rintro x w6 ⟨v6,rfl,h6,_⟩
 have HP0:Hid (E.pts=RT E 0::E.pts.drop 1):=lh (by have:=h6.drop;simpa using this)
 have hpl:E.pts.length=ts.length:=by simp [Env.pts,HET.out]
 have H6:Hid (In E [] 1 (RT E 0).at' none0 0 (64-((64:Nat):Int)) (ts.length+1) (ts.length+1+1310) (.ok [] E.pts) w6):=lh ⟨v6,_,_,⟨by simp only [List.length_nil,sizeL];omega,by rw [open_nil];rfl⟩,0,by simp,h6⟩
 have HQ:Hid (ts.length+1≤70001):=lh (by have:=h6.few;rw [HET.out] at this;omega)
 have HPE:Hid (∀q c,many progStep [] E.pts=.err q c→parseS xs=.error (q,c)):=lh fun q c e=>by
  have h1:ts.map ptOf=E.pts:=by simp [Env.pts,HET.out]
  simp only [parseS,HX.out,h1,prog_of HP0.out,e]
 have HPO:Hid (∀ks l,many progStep [] E.pts=.ok ks l→parseS xs=.ok (openN [] 1 (RT E 0).at' none0 0 ks)):=lh fun ks l e=>by
  have h1:ts.map ptOf=E.pts:=by simp [Env.pts,HET.out]
  simp only [parseS,HX.out,h1,prog_of HP0.out,e,open_done,List.nil_append,List.length_nil,nodeA]
 clear C5 h6 H0 hpl
 go_wp2_with fail
 go_loopg [] (left (.ok [] E.pts:Res (List Ast))) (fun g wr=>∃R1:Res (List Ast),Hid (left R1≤g)∧Hid (then' R1 (many progStep)=many progStep [] E.pts)∧Hid (In E [] 1 (RT E 0).at' none0 0 (64-((64:Nat):Int)) (ts.length+1) (ts.length+1+1310) R1 wr))
 case atStart=>exact ⟨_,lh (Nat.le_refl _),lh rfl,H6⟩
 case round =>
  clear H6
  obtain ⟨R1,HG,HE,HL⟩:=hrel
  cases R1 with
  | err q c =>
   obtain ⟨v1,kvs1,md1,hs1,i,d',_,hc,ha,h1⟩:=HL.out
   have HH:=lh h1
   obtain ⟨c0,c1,_,_,c4⟩:=h1.rowCells
   obtain ⟨_,k1,_,_⟩:=h1.tokCells
   rw [ha] at k1
   have b0:(0:Int)≤(i:Int):=by omega
   have b1:(i:Int)<(E.toks.length:Int):=by have:=h1.it;omega
   have hcap:=h1.cap
   have hb:(c==0)=false:=by simpa using hc
   have hb':(c != 0)=true:=by simpa using hc
   have HF:Hid (∀W,RS E v1 kvs1 md1 i d' c W→RefP xs w (.returned (.tuple #[.slice none 0 0,.int .i64 (q:Int),.int .i64 c])) W):=lh fun W hW=>⟨HB4.out.trans ((by have:=hW.below;rw [HEW.out,← hEb] at this;exact this:Below w4.heap.size w4 W).mono HB4.out.size),by rw [HPE.out q c HE.out.symm];exact ⟨rfl,hc⟩⟩
   have HA:=lh ha
   clear h1 hs1 ha hc hEb
   go_wp2_with fail
   go_quiet (fail)
   have HD:=lh (HH.out.drewN nq)
   generalize wr.drewN nq=w2 at *
   clear c0 c1 c4 k1
   obtain ⟨c0,c1,_,_,c4⟩:=HD.out.rowCells
   obtain ⟨_,k1,_,_⟩:=HD.out.tokCells
   rw [HA.out] at k1
   go_wp2_with fail
   go_quiet (fail)
   have HG2:=lh (HF.out _ (HD.out.drewN nq))
   go_wp2
   simp [bodyPost,results,Tryz.results50,go_sem]
   exact HG2.out
  | ok ks l =>
   obtain ⟨v1,kvs1,md1,i,rfl,h1,hs1⟩:=HL.out.first
   have HH:=lh h1
   obtain ⟨c0,c1,_,c3,c4⟩:=h1.rowCells
   obtain ⟨k0,_,_,_⟩:=h1.tokCells
   have b0:(0:Int)≤(i:Int):=by omega
   have b1:(i:Int)<(E.toks.length:Int):=by have:=h1.it;omega
   have hcap:=h1.cap
   by_cases hk:(RT E i).kind=4
   · have hb:((RT E i).kind != 4)=false:=by simp [hk]
     obtain ⟨g1,cap1,rfl,_,_⟩:=h1.own.form (by have:=hs1.lt;omega)
     have HF:Hid (∀W,RS E (.slice (some ⟨g1,0,none⟩) md1.length cap1) kvs1 md1 i (64-((64:Nat):Int)) 0 W→RefP xs w (.returned (.tuple #[.slice (some ⟨g1,0,none⟩) md1.length cap1,.int .i64 0,.int .i64 0])) W):=lh fun W hW=>by
      refine ⟨HB4.out.trans ((by have:=hW.below;rw [HEW.out,← hEb] at this;exact this:Below w4.heap.size w4 W).mono HB4.out.size),?_⟩
      rw [HPO.out ks _ (HE.out.symm.trans (prog_done hk))]
      obtain ⟨_,rfl⟩:=hs1
      obtain ⟨g',cap',e,ht⟩:=hW.tv (by rw [open_len];omega)
      simp only [Value.slice.injEq,Option.some.injEq,Addr.mk.injEq,and_true,true_and] at e
      obtain ⟨rfl,rfl⟩:=e
      exact ⟨_,_,rfl,ht⟩
     clear h1 hs1 hk hEb
     generalize (RT E i).kind=kd at *
     go_wp2_with fail
     go_quiet (fail)
     have HD:=lh (HH.out.drewN nq)
     generalize wr.drewN nq=w2 at *
     clear c0 c1 c3 c4 k0
     obtain ⟨c0,c1,_,c3,c4⟩:=HD.out.rowCells
     have HG2:=lh (HF.out _ HD.out)
     go_wp2
     simp [bodyPost,results,Tryz.results50,go_sem]
     exact HG2.out
   · have hb:((RT E i).kind != 4)=true:=by simp [hk]
     have HK4:Hid (∀ks' u l',(.ok ks (RT E i::E.pts.drop (i+1)):Res (List Ast))=.ok ks' (u::l')→u.kind≠4):=lh fun ks' u l' e=>by
      simp only [Res.ok.injEq,List.cons.injEq] at e
      rw [← e.2.1];exact hk
     have HLT:Hid (∀F,Takes F→left (knd (.ok ks (RT E i::E.pts.drop (i+1))) F)<gk):=lh fun F hF=>Nat.lt_of_lt_of_le (left_knd hF (by simp)) HG.out
     have HL0:Hid (0<gk):=lh (by have:=HG.out;simp only [left,List.length_cons] at this;omega)
     clear h1 hs1 hk
     generalize (RT E i).kind=kd at *
     go_wp2_with fail
     go_quiet (fail)
     have HD:=lh (HL.out.drewN nq)
     generalize wr.drewN nq=w2 at *
     clear c0 c1 c3 c4 k0
     have HN:=lh HD.out.ne
     have C5:=lh (is_I HD.out ⟨#[116,97,98,108,101]⟩ (by decide) (by decide))
     obtain ⟨b5,y5⟩:=HD.out.look ⟨#[116,97,98,108,101]⟩
     rw [y5] at C5
     have HY5:=lh y5
     clear y5
     go_wp2_with fail
     (with_reducible refine C5.out.mono ?_)
     rintro x wd ⟨rfl,m,rfl⟩
     have H5:=lh (HD.out.drewN m)
     generalize w2.drewN m=w5 at *
     clear C5
     cases b5 with
     | true =>
      have C7:=lh (table_I H5.out HY5.out (by have:=HQ.out;omega))
      go_wp2_with fail
      (with_reducible refine C7.out.mono ?_)
      rintro x w7 ⟨rfl,h7⟩
      have H7:=lh h7
      clear C7 h7
      have HE7:=lh ((prog_table HY5.out HK4.out).symm.trans HE.out)
      go_wp2_with fail
      go_roundg (left (knd (Res.ok ks (RT E i::E.pts.drop (i+1)):Res (List Ast)) tableP))
      case rel=>exact ⟨_,lh (Nat.le_refl _),HE7,H7⟩
      case measure=>exact HLT.out _ takes_table
     | false =>
      have C6:=lh (is_I H5.out ⟨#[112,114,111,99]⟩ (by decide) (by decide))
      obtain ⟨b6,y6⟩:=H5.out.look ⟨#[112,114,111,99]⟩
      rw [y6] at C6
      have HY6:=lh y6
      clear y6
      go_wp2_with fail
      (with_reducible refine C6.out.mono ?_)
      rintro x wd ⟨rfl,m,rfl⟩
      have H6:=lh (H5.out.drewN m)
      generalize w5.drewN m=w6 at *
      clear C6
      cases b6 with
      | true =>
       have C7:=lh (proc_I H6.out HY6.out (by have:=HQ.out;omega))
       go_wp2_with fail
       (with_reducible refine C7.out.mono ?_)
       rintro x w7 ⟨rfl,h7⟩
       have H7:=lh h7
       clear C7 h7
       have HE7:=lh ((prog_proc HY5.out HK4.out HN.out).symm.trans HE.out)
       go_wp2_with fail
       go_roundg (left (knd (Res.ok ks (RT E i::E.pts.drop (i+1)):Res (List Ast)) procP))
       case rel=>exact ⟨_,lh (Nat.le_refl _),HE7,H7⟩
       case measure=>exact HLT.out _ takes_proc
      | false =>
       have C7:=lh (fail_I H6.out (by have:=HQ.out;omega))
       go_wp2_with fail
       (with_reducible refine C7.out.mono ?_)
       rintro x w7 ⟨rfl,h7⟩
       have H7:=lh h7
       clear C7 h7
       have HE7:Hid (then' (then' (Res.ok ks (RT E i::E.pts.drop (i+1)):Res (List Ast)) fun _=>(failP:Par (List Ast))) (many progStep)=many progStep [] E.pts):=lh (by rw [← proc_no HY6.out HN.out];exact (prog_proc HY5.out HK4.out HN.out).symm.trans HE.out)
       go_wp2_with fail
       go_roundg (left (then' (Res.ok ks (RT E i::E.pts.drop (i+1)):Res (List Ast)) fun _=>(failP:Par (List Ast))))
       case rel=>exact ⟨_,lh (Nat.le_refl _),HE7,H7⟩
       case measure=>exact HL0.out
theorem refParse_at (w:World)(p:Option Addr)(len c:Nat)(xs:List Int)(h:Src w p len c xs)(hb:len≤65536):Calls Tryz.prog 50 #[.slice p len c] w (RefP xs w):=by
 cases hx:lexS xs with
 | error e=>exact refParse_lex w p len c xs h hb e.1 e.2 hx
 | ok ts=>exact refParse_run w p len c xs h hb ts hx
end Rf
section
open Go.RowKit
theorem any_big (w:World)(p:Option Addr)(len c:Nat)(hg:ET w)(hb:1000<len) :
 Calls Tryz.prog 15 #[.slice p len c] w fun e w'=>e=.returned (.bool true)∧Below w.heap.size w w':=by
 have WK:=lh (works_at w hg)
 clear hg
 go_enter Tryz.func15,Tryz.ntmps15
 go_wp2_with fail
 (with_reducible refine WK.out.mono ?_)
 rintro e w1 ⟨rfl,hb1⟩
 go_wp2
 go_ret
 exact ⟨rfl,hb1⟩
theorem parse_no {w:World}{p:Option Addr}{len c:Nat}{xs:List Int}{i:Nat}{er:Int}(h:Src w p len c xs)(hb:len≤65536)(he:parseS xs=.error (i,er)) :
 Calls Tryz.prog 31 #[.slice p len c] w fun e w'=>∃C l cc,e=.returned (.tuple #[.agg #[.slice none 0 0],.iface 109 (.pointer (some ⟨C,0,none⟩))])∧ErrAt w' C (i:Int) l cc er∧Below w.heap.size w w' :=
 (parse_at w p len c xs h hb).mono fun e w' ⟨h1, h2⟩ => by
  rw [he] at h2
  obtain ⟨C,l,cc,e1,e2⟩:=h2
  exact ⟨C,l,cc,e1,e2,h1⟩
theorem parse_ok {w:World}{p:Option Addr}{len c:Nat}{xs:List Int}{ns:List Nd}(h:Src w p len c xs)(hb:len≤65536)(he:parseS xs=.ok ns) :
 Calls Tryz.prog 31 #[.slice p len c] w fun e w'=>∃q n cap,e=.returned (.tuple #[.agg #[.slice q n cap],.nilIface])∧Tr.TV w' q n cap ns∧Below w.heap.size w w' :=
 (parse_at w p len c xs h hb).mono fun e w' ⟨h1, h2⟩ => by
  rw [he] at h2
  obtain ⟨q,n,cap,e1,e2⟩:=h2
  exact ⟨q,n,cap,e1,e2,h1⟩
theorem rparse_no {w:World}{p:Option Addr}{len c:Nat}{xs:List Int}{i:Nat}{er:Int}(h:Src w p len c xs)(hb:len≤65536)(he:parseS xs=.error (i,er)) :
 Calls Tryz.prog 50 #[.slice p len c] w fun e w'=>e=.returned (.tuple #[.slice none 0 0,.int .i64 (i:Int),.int .i64 er])∧er≠0∧Below w.heap.size w w' :=
 (Rf.refParse_at w p len c xs h hb).mono fun e w' ⟨h1, h2⟩ => by
  rw [he] at h2
  exact ⟨h2.1,h2.2,h1⟩
theorem rparse_ok {w:World}{p:Option Addr}{len c:Nat}{xs:List Int}{ns:List Nd}(h:Src w p len c xs)(hb:len≤65536)(he:parseS xs=.ok ns) :
 Calls Tryz.prog 50 #[.slice p len c] w fun e w'=>∃g cap,e=.returned (.tuple #[.slice (some ⟨g,0,none⟩) ns.length cap,.int .i64 0,.int .i64 0])∧Tr.TV w' (some ⟨g,0,none⟩) ns.length cap ns∧Below w.heap.size w w' :=
 (Rf.refParse_at w p len c xs h hb).mono fun e w' ⟨h1, h2⟩ => by
  rw [he] at h2
  obtain ⟨g,cap,e1,e2⟩:=h2
  exact ⟨g,cap,e1,e2,h1⟩
theorem tv_none (W:World):Tr.TV W none 0 0 []:=⟨rfl,Nat.le_refl _,fun h=>absurd h (by omega)⟩
theorem any_err (w:World)(p:Option Addr)(len c:Nat)(xs:List Int)(hs:Src w p len c xs)(hg:ET w)(hb:len≤1000)(i:Nat)(er:Int)(hx:parseS xs=.error (i,er)) :
 Calls Tryz.prog 15 #[.slice p len c] w fun e w'=>e=.returned (.bool true)∧Below w.heap.size w w':=by
 obtain ⟨s,w1,cap0,hc1,hc2,hb1,hs1⟩:=own_src w p len c xs hs
 have LX:=lh (parse_no hs1 (by omega) hx)
 have HG:=lh hg
 have HS:=lh hs
 have HS1:=lh hs1
 have HXX:=lh hx
 have B1:=lh hb1
 clear hg hs hs1 hx hb1
 go_enter Tryz.func15,Tryz.ntmps15
 go_wp2_with fail
 clear hc1 hc2
 (with_reducible refine LX.out.mono ?_)
 rintro e w2 ⟨b,l,cc,rfl,hE,hb2⟩
 have hb23:Below w2.heap.size w2 (w2.alloc (.cells #[.slice none 0 0] 39)):=(Below.refl _ _).alloc (Nat.le_refl _) _
 have BX:Hid (w2.heap.size<(w2.alloc (.cells #[.slice none 0 0] 39)).heap.size∧(w2.alloc (.cells #[.slice none 0 0] 39)).cell? ⟨w2.heap.size,0,none⟩=some (.slice none 0 0)):=lh ⟨by simp,by rw [cell_of_row _ _ _ _ _ _ (heap_alloc_new w2 _)];rfl⟩
 have B3:=lh (B1.out.trans ((hb2.trans (hb23.mono hb2.size)).mono B1.out.size))
 have E3:=lh (hE.on hb23)
 have S3:=lh ((HS1.out.below hb2).below hb23)
 have RF:=lh (rparse_no (HS.out.below B3.out) (by omega) HXX.out)
 clear LX hE hb2 HS1
 go_wp2_with fail
 generalize w2.alloc (.cells #[.slice none 0 0] 39)=w3 at *
 clear hb23
 (with_reducible refine RF.out.mono ?_)
 rintro e w4 ⟨rfl,her,hb4⟩
 have hea:(er != 0)=true:=by simpa using her
 have B4:=lh (B3.out.trans (hb4.mono B3.out.size))
 have E4:=lh (E3.out.on hb4)
 have S4:=lh (S3.out.below hb4)
 have X4:Hid (w2.heap.size<w4.heap.size∧w4.cell? ⟨w2.heap.size,0,none⟩=some (.slice none 0 0)):=lh ⟨Nat.lt_of_lt_of_le BX.out.1 hb4.size,(hb4.cell (p:=⟨w2.heap.size,0,none⟩) BX.out.1).trans BX.out.2⟩
 have PE:=lh (place_err (HG.out.below B4.out) E4.out)
 clear RF hb4 E3 S3 B3 BX her
 go_wp2_with fail
 (with_reducible refine PE.out.mono ?_)
 rintro e w5 ⟨rfl,hb5⟩
 have B5:=lh (B4.out.trans (hb5.mono B4.out.size))
 have E5:=lh (E4.out.on hb5)
 have S5:=lh (S4.out.below hb5)
 have X5:Hid (w2.heap.size<w5.heap.size∧w5.cell? ⟨w2.heap.size,0,none⟩=some (.slice none 0 0)):=lh ⟨Nat.lt_of_lt_of_le X4.out.1 hb5.size,(hb5.cell (p:=⟨w2.heap.size,0,none⟩) X4.out.1).trans X4.out.2⟩
 have CE:=lh (code_err (HG.out.below B5.out) E5.out)
 clear PE hb5 E4 S4 B4 X4
 go_wp2_with fail
 (with_reducible refine CE.out.mono ?_)
 rintro e w6 ⟨rfl,hb6⟩
 have B6:=lh (B5.out.trans (hb6.mono B5.out.size))
 have S6:=lh (S5.out.below hb6)
 have x6:=(hb6.cell (p:=⟨w2.heap.size,0,none⟩) X5.out.1).trans X5.out.2
 have SN:=lh (Rf.sameTree_at w6 none none 0 0 0 [] (tv_none _) (tv_none _) (by omega) (by simp))
 clear CE hb6 E5 S5 B5 X5
 go_wp2_with fail
 (with_reducible refine SN.out.mono ?_)
 rintro e w7 ⟨rfl,hb7⟩
 have B7:=lh (B6.out.trans (hb7.mono B6.out.size))
 have SB:=lh (sameBytes_at w7 _ _ len cap0 c xs (S6.out.below hb7) (HS.out.below B7.out))
 clear SN hb7 S6 B6 x6
 go_wp2_with fail
 (with_reducible refine SB.out.mono ?_)
 rintro e w8 ⟨rfl,rfl⟩
 have WK:=lh (works_at w7 (HG.out.below B7.out))
 clear SB
 go_wp2_with fail
 (with_reducible refine WK.out.mono ?_)
 rintro e w9 ⟨rfl,hb9⟩
 have B9:=lh (B7.out.trans (hb9.mono B7.out.size))
 clear WK hb9 B7
 go_wp2
 go_ret
 exact ⟨rfl,B9.out⟩
theorem any_ok (w:World)(p:Option Addr)(len c:Nat)(xs:List Int)(hs:Src w p len c xs)(hg:ET w)(hb:len≤1000)(ns:List Nd)(hx:parseS xs=.ok ns) :
 Calls Tryz.prog 15 #[.slice p len c] w fun e w'=>e=.returned (.bool true)∧Below w.heap.size w w':=by
 obtain ⟨s,w1,cap0,hc1,hc2,hb1,hs1⟩:=own_src w p len c xs hs
 have hsm:=parse_few hx (by have:=hs.1;omega)
 have LX:=lh (parse_ok hs1 (by omega) hx)
 have HG:=lh hg
 have HS:=lh hs
 have HS1:=lh hs1
 have HXX:=lh hx
 have HSM:=lh hsm
 have B1:=lh hb1
 clear hg hs hs1 hx hb1 hsm
 go_enter Tryz.func15,Tryz.ntmps15
 go_wp2_with fail
 clear hc1 hc2
 (with_reducible refine LX.out.mono ?_)
 rintro e w2 ⟨q,n,cap,rfl,hT,hb2⟩
 have hb23:Below w2.heap.size w2 (w2.alloc (.cells #[.slice q n cap] 39)):=(Below.refl _ _).alloc (Nat.le_refl _) _
 have BX:Hid (w2.heap.size<(w2.alloc (.cells #[.slice q n cap] 39)).heap.size∧(w2.alloc (.cells #[.slice q n cap] 39)).cell? ⟨w2.heap.size,0,none⟩=some (.slice q n cap)):=lh ⟨by simp,by rw [cell_of_row _ _ _ _ _ _ (heap_alloc_new w2 _)];rfl⟩
 have B3:=lh (B1.out.trans ((hb2.trans (hb23.mono hb2.size)).mono B1.out.size))
 have T3:=lh (hT.on hb23)
 have S3:=lh ((HS1.out.below hb2).below hb23)
 have RF0:=rparse_ok (HS.out.below B3.out) (by omega) HXX.out
 rw [hT.len_eq] at RF0
 have RF:=lh RF0
 clear LX hT hb2 HS1 RF0
 go_wp2_with fail
 generalize w2.alloc (.cells #[.slice q n cap] 39)=w3 at *
 clear hb23
 (with_reducible refine RF.out.mono ?_)
 rintro e w4 ⟨g,cap2,rfl,hR,hb4⟩
 have B4:=lh (B3.out.trans (hb4.mono B3.out.size))
 have T4:=lh (T3.out.on hb4)
 have R4:=lh hR
 have S4:=lh (S3.out.below hb4)
 have X4:Hid (w2.heap.size<w4.heap.size∧w4.cell? ⟨w2.heap.size,0,none⟩=some (.slice q n cap)):=lh ⟨Nat.lt_of_lt_of_le BX.out.1 hb4.size,(hb4.cell (p:=⟨w2.heap.size,0,none⟩) BX.out.1).trans BX.out.2⟩
 have PE:=lh (place_nilA w4)
 clear RF hb4 T3 S3 B3 BX hR
 go_wp2_with fail
 (with_reducible refine PE.out.mono ?_)
 rintro e w5 ⟨rfl,hb5⟩
 have B5:=lh (B4.out.trans (hb5.mono B4.out.size))
 have T5:=lh (T4.out.on hb5)
 have R5:=lh (R4.out.on hb5)
 have S5:=lh (S4.out.below hb5)
 have X5:Hid (w2.heap.size<w5.heap.size∧w5.cell? ⟨w2.heap.size,0,none⟩=some (.slice q n cap)):=lh ⟨Nat.lt_of_lt_of_le X4.out.1 hb5.size,(hb5.cell (p:=⟨w2.heap.size,0,none⟩) X4.out.1).trans X4.out.2⟩
 have CE:=lh (code_none w5)
 clear PE hb5 T4 R4 S4 B4 X4
 go_wp2_with fail
 (with_reducible refine CE.out.mono ?_)
 rintro e w6 ⟨rfl,hb6⟩
 have B6:=lh (B5.out.trans (hb6.mono B5.out.size))
 have S6:=lh (S5.out.below hb6)
 have x6:=(hb6.cell (p:=⟨w2.heap.size,0,none⟩) X5.out.1).trans X5.out.2
 have SN:=lh (Rf.sameTree_at w6 q (some ⟨g,0,none⟩) n cap cap2 ns (T5.out.on hb6) (R5.out.on hb6) (by rw [← T5.out.len_eq];exact HSM.out.1) HSM.out.2)
 clear CE hb6 T5 R5 S5 B5 X5
 go_wp2_with fail
 (with_reducible refine SN.out.mono ?_)
 rintro e w7 ⟨rfl,hb7⟩
 have B7:=lh (B6.out.trans (hb7.mono B6.out.size))
 have SB:=lh (sameBytes_at w7 _ _ len cap0 c xs (S6.out.below hb7) (HS.out.below B7.out))
 clear SN hb7 S6 B6 x6
 go_wp2_with fail
 (with_reducible refine SB.out.mono ?_)
 rintro e w8 ⟨rfl,rfl⟩
 have WK:=lh (works_at w7 (HG.out.below B7.out))
 clear SB
 go_wp2_with fail
 (with_reducible refine WK.out.mono ?_)
 rintro e w9 ⟨rfl,hb9⟩
 have B9:=lh (B7.out.trans (hb9.mono B7.out.size))
 clear WK hb9 B7
 go_wp2
 go_ret
 exact ⟨rfl,B9.out⟩
theorem parseAny (w:World)(p:Option Addr)(len c:Nat)(xs:List Int)(hs:Src w p len c xs)(hg:ET w) :
 Calls Tryz.prog 15 #[.slice p len c] w fun e w'=>e=.returned (.bool true)∧Below w.heap.size w w':=by
 by_cases hb:len≤1000
 · cases hx:parseS xs with
   | error e=>exact any_err w p len c xs hs hg hb e.1 e.2 hx
   | ok ns=>exact any_ok w p len c xs hs hg hb ns hx
 · exact any_big w p len c hg (by omega)
end
section
open Go.RowKit
theorem right_big (w:World)(p:Option Addr)(len c:Nat)(hg:ET w)(hb:1000<len) :
 Calls Tryz.prog 17 #[.slice p len c] w fun e w'=>e=.returned (.bool true)∧Below w.heap.size w w':=by
 have WK:=lh (works_at w hg)
 clear hg
 go_enter Tryz.func17,Tryz.ntmps17
 go_wp2_with fail
 (with_reducible refine WK.out.mono ?_)
 rintro e w1 ⟨rfl,hb1⟩
 go_wp2
 go_ret
 exact ⟨rfl,hb1⟩
theorem right_err (w:World)(p:Option Addr)(len c:Nat)(xs:List Int)(hs:Src w p len c xs)(hg:ET w)(hb:len≤1000)(i:Nat)(er:Int)(hx:parseS xs=.error (i,er)) :
 Calls Tryz.prog 17 #[.slice p len c] w fun e w'=>e=.returned (.bool true)∧Below w.heap.size w w':=by
 have LX:=lh (parse_no hs (by omega) hx)
 have HG:=lh hg
 clear hg hs hx
 go_enter Tryz.func17,Tryz.ntmps17
 go_wp2_with fail
 (with_reducible refine LX.out.mono ?_)
 rintro e w2 ⟨b,l,cc,rfl,hE,hb2⟩
 have hb23:Below w2.heap.size w2 (w2.alloc (.cells #[.slice none 0 0] 39)):=(Below.refl _ _).alloc (Nat.le_refl _) _
 have B3:=lh (hb2.trans (hb23.mono hb2.size))
 have WK:=lh (works_at (w2.alloc (.cells #[.slice none 0 0] 39)) (HG.out.below B3.out))
 clear LX hE hb2 hb23
 go_wp2_with fail
 (with_reducible refine WK.out.mono ?_)
 rintro e w9 ⟨rfl,hb9⟩
 have B9:=lh (B3.out.trans (hb9.mono B3.out.size))
 clear WK hb9 B3
 go_wp2
 go_ret
 exact ⟨rfl,B9.out⟩
theorem right_ok (w:World)(p:Option Addr)(len c:Nat)(xs:List Int)(hs:Src w p len c xs)(hg:ET w)(hb:len≤1000)(ns:List Nd)(hx:parseS xs=.ok ns)(ts:List Tok)(hl:lexS xs=.ok ts) :
 Calls Tryz.prog 17 #[.slice p len c] w fun e w'=>e=.returned (.bool true)∧Below w.heap.size w w':=by
 have hxl:=hs.1
 obtain ⟨hr,htx⟩:=parse_right hx (by omega)
 obtain ⟨hf1,hf2⟩:=parse_few hx (by omega)
 obtain ⟨hpl,hpa⟩:=parse_places hx hl
 have hdp:=deepP_le hr
 have htl:=lexN_len _ _ _ _ hl
 have SM:Hid (Tr.SmallT ns):=lh ⟨hf1,fun nd hm=>⟨hf2 nd hm,htx nd hm⟩⟩
 have HR:=lh hr
 have HPA:=lh hpa
 obtain ⟨m,hm⟩:∃m,ts.length=m:=⟨_,rfl⟩
 have HM:=lh hm
 have hd0:decide (m<Tr.deepP ns)=false:=by simp;omega
 have hm7:m≤70000:=by omega
 have LX:=lh (parse_ok hs (by omega) hx)
 have LK0:=fun w' (h:Src w' p len c xs)=>lex_ok h (by omega) hl
 rw [hm] at LK0
 have LK:=lh LK0
 have HG:=lh hg
 have HS:=lh hs
 clear hg hs hx hl LK0 hr htx hf1 hf2 hpl hpa hdp htl hm hxl
 generalize hdn:Tr.deepP ns=dn at *
 have HDN:=lh hdn
 clear hdn
 go_enter Tryz.func17,Tryz.ntmps17
 go_wp2_with fail
 (with_reducible refine LX.out.mono ?_)
 rintro e w2 ⟨q,n,cap,rfl,hT,hb2⟩
 have hb23:Below w2.heap.size w2 (w2.alloc (.cells #[.slice q n cap] 39)):=(Below.refl _ _).alloc (Nat.le_refl _) _
 have BX:Hid (w2.heap.size<(w2.alloc (.cells #[.slice q n cap] 39)).heap.size∧(w2.alloc (.cells #[.slice q n cap] 39)).cell? ⟨w2.heap.size,0,none⟩=some (.slice q n cap)):=lh ⟨by simp,by rw [cell_of_row _ _ _ _ _ _ (heap_alloc_new w2 _)];rfl⟩
 have B3:=lh (hb2.trans (hb23.mono hb2.size))
 have T3:=lh (hT.on hb23)
 have LC:=lh (LK.out _ (HS.out.below B3.out))
 clear LX hT hb2 LK
 go_wp2_with fail
 generalize w2.alloc (.cells #[.slice q n cap] 39)=w3 at *
 clear hb23
 (with_reducible refine LC.out.mono ?_)
 rintro e w4 ⟨g,cap2,rfl,hR,_,hb4⟩
 have B4:=lh (B3.out.trans (hb4.mono B3.out.size))
 have T4:=lh (T3.out.on hb4)
 have R4:=lh hR
 have X4:Hid (w2.heap.size<w4.heap.size∧w4.cell? ⟨w2.heap.size,0,none⟩=some (.slice q n cap)):=lh ⟨Nat.lt_of_lt_of_le BX.out.1 hb4.size,(hb4.cell (p:=⟨w2.heap.size,0,none⟩) BX.out.1).trans BX.out.2⟩
 have x4:=X4.out.2
 have RG0:=Tr.right_at w4 q n cap ns T4.out SM.out
 rw [HR.out] at RG0
 have RG:=lh RG0
 clear LC hb4 T3 B3 BX hR RG0
 go_wp2_with fail
 (with_reducible refine RG.out.mono ?_)
 rintro e w5 ⟨rfl,hb5⟩
 have B5:=lh (B4.out.trans (hb5.mono B4.out.size))
 have T5:=lh (T4.out.on hb5)
 have R5:=lh (R4.out.on hb5)
 have X5:Hid (w2.heap.size<w5.heap.size∧w5.cell? ⟨w2.heap.size,0,none⟩=some (.slice q n cap)):=lh ⟨Nat.lt_of_lt_of_le X4.out.1 hb5.size,(hb5.cell (p:=⟨w2.heap.size,0,none⟩) X4.out.1).trans X4.out.2⟩
 clear x4
 have x5:=X5.out.2
 have DP0:=Tr.deep_at w5 q n cap ns T5.out SM.out
 rw [HDN.out] at DP0
 have DP:=lh DP0
 clear RG hb5 T4 R4 B4 X4 DP0
 go_wp2_with fail
 (with_reducible refine DP.out.mono ?_)
 rintro e w6 ⟨rfl,hb6⟩
 have B6:=lh (B5.out.trans (hb6.mono B5.out.size))
 have T6:=lh (T5.out.on hb6)
 have R6:=lh (R5.out.on hb6)
 have X6:Hid (w2.heap.size<w6.heap.size∧w6.cell? ⟨w2.heap.size,0,none⟩=some (.slice q n cap)):=lh ⟨Nat.lt_of_lt_of_le X5.out.1 hb6.size,(hb6.cell (p:=⟨w2.heap.size,0,none⟩) X5.out.1).trans X5.out.2⟩
 have hcap:=R6.out.le
 rw [HM.out] at hcap
 have HN:Hid (ns.length=n∧n≤70000):=lh ⟨T6.out.len_eq,by rw [← T6.out.len_eq];exact SM.out.len⟩
 have hn7:n≤70000:=HN.out.2
 clear DP hb6 T5 R5 B5 X5 x5
 go_wp2_with fail
 clear hd0
 go_loopw [7] (fun iv wr=>∃k:Nat,k≤n∧iv=.int .i64 k∧Hid (Below w6.heap.size w6 wr)) (fun iv _=>n-(intOf iv).toNat)
 case atStart=>exact ⟨0,by omega,rfl,lh (Below.refl _ _)⟩
 case round =>
  obtain ⟨k,hk,rfl,HB⟩:=hrel
  have xr:=(HB.out.cell (p:=⟨w2.heap.size,0,none⟩) X6.out.1).trans X6.out.2
  by_cases hlt:k<n
  · obtain ⟨b,off,rfl,hbl,hc⟩:=T6.out.node (by omega)
    obtain ⟨kp,kl,kc,hn1⟩:=hc k hlt
    have hnd:ns.getD k default∈ns:=by have:=HN.out.1;simp [List.getD,show k<ns.length by omega]
    obtain ⟨t,ht,hta⟩:=HPA.out _ hnd
    have HTA:Hid (∃i,i<m∧((ts.getD i (Tok.endAt 0)).at':Int)=(ns.getD k default).at'):=lh (by
     obtain ⟨i,hi⟩:=List.mem_iff_getElem?.1 ht
     have hil:=(List.getElem?_eq_some_iff.1 hi).1
     exact ⟨i,by rw [← HM.out];exact hil,by rw [List.getD,hi,hta];rfl⟩)
    have A1:Hid (b<w6.heap.size∧w6.cell? ⟨b,off+k*5+1,none⟩=some (.int .i64 (ns.getD k default).at')):=lh ⟨hbl,hn1.at'⟩
    generalize (ns.getD k default).at'=na at *
    have hk0:(0:Int)≤(k:Int):=by omega
    have hk1:(k:Int)<(n:Int):=by omega
    clear hc hn1 hnd ht hta hbl
    go_wp2_with fail
    obtain ⟨wo,hwo⟩:∃wo:World,wo=wr:=⟨_,rfl⟩
    have HBo:Hid (Below w6.heap.size w6 wo):=lh (by rw [hwo];exact HB.out)
    clear xr HB
    rw [← hwo]
    clear hwo
    go_loopw [8,9] (fun fv jv wq=>∃(j:Nat) (fb:Bool),j≤m∧jv=.int .i64 j∧fv=.bool fb∧Hid ((∃i,i<j∧((ts.getD i (Tok.endAt 0)).at':Int)=na)→fb=true)∧Hid (Below w6.heap.size w6 wq)) (fun _ jv _=>m-(intOf jv).toNat)
    case atStart=>exact ⟨0,false,by omega,rfl,rfl,lh (fun ⟨i,h,_⟩=>absurd h (by omega)),HBo⟩
    case round =>
     obtain ⟨j,fb,hj,rfl,rfl,HF,HQ⟩:=hrel
     by_cases hjl:j<m
     · have hj0:(0:Int)≤(j:Int):=by omega
       have hj1:(j:Int)<(m:Int):=by omega
       have hjx:ts[j]?=some (ts.getD j (Tok.endAt 0)):=by have:=HM.out;simp [List.getD,show j<ts.length by omega]
       have HF2:Hid ((fb=true∨((ts.getD j (Tok.endAt 0)).at':Int)=na)→∀b:Bool,b=true→((∃i,i<j+1∧((ts.getD i (Tok.endAt 0)).at':Int)=na)→b=true)):=lh fun _ b hb _=>hb
       have HF3:Hid (¬ ((ts.getD j (Tok.endAt 0)).at':Int)=na→fb=false→((∃i,i<j+1∧((ts.getD i (Tok.endAt 0)).at':Int)=na)→false=true)):=lh fun hne hfb ⟨i,hi,he⟩=>by
        rcases Nat.lt_or_ge i j with h|h
        · have:=HF.out ⟨i,h,he⟩;rw [hfb] at this;exact this
        · obtain rfl:i=j:=by omega
          exact absurd he hne
       have u1:=(HQ.out.cell (p:=⟨g,j*5+1,none⟩) R6.out.lt).trans (R6.out.cell (j*5+1) (.int .i64 (ts.getD j (Tok.endAt 0)).at') (by rw [tok_cell ts j 1 _ hjx (by omega)];rfl))
       have v1:=(HQ.out.cell (p:=⟨b,off+k*5+1,none⟩) A1.out.1).trans A1.out.2
       have xq:=(HQ.out.cell (p:=⟨w2.heap.size,0,none⟩) X6.out.1).trans X6.out.2
       have HQD:Hid (∀nq,Below w6.heap.size w6 (wr.drewN nq)):=lh fun nq=>HQ.out.trans (drewN_below _ _ _)
       generalize ((ts.getD j (Tok.endAt 0)).at':Int)=ta at *
       clear hjx HF
       cases fb with
       | true =>
        have HF4:=lh (HF2.out (Or.inl rfl) true rfl)
        go_wp2_with fail
        go_quiet (fail)
        clear u1 v1 xq
        go_wp2
        go_roundw
        case rel=>exact ⟨j+1,true,by omega,by go_num,rfl,lh (fun _=>rfl),lh (HQD.out _)⟩
        case measure=>simp [intOf];omega
       | false =>
        by_cases he:ta=na
        · have d1:(ta==na)=true:=by simp [he]
          have HF4:=lh (HF2.out (Or.inr he) true rfl)
          clear he
          go_wp2_with fail
          go_quiet (fail)
          clear u1 v1 xq
          go_wp2
          go_roundw
          case rel=>exact ⟨j+1,true,by omega,by go_num,rfl,lh (fun _=>rfl),lh (HQD.out _)⟩
          case measure=>simp [intOf];omega
        · have d1:(ta==na)=false:=by simpa using he
          have HF4:=lh (HF3.out he rfl)
          clear he
          go_wp2_with fail
          go_quiet (fail)
          clear u1 v1 xq
          go_wp2
          go_roundw
          case rel=>exact ⟨j+1,false,by omega,by go_num,rfl,HF4,lh (HQD.out _)⟩
          case measure=>simp [intOf];omega
     · have hjm:j=m:=by omega
       have hfb:fb=true:=HF.out (by rw [hjm];exact HTA.out)
       subst hfb
       have HQ2:=HQ
       clear HF hjm
       go_wp2_with fail
       go_roundw
       case rel=>exact ⟨k+1,by omega,by first|rfl|go_num,HQ2⟩
       case measure=>simp [intOf];omega
  · have B7:=lh (B6.out.trans (HB.out.mono B6.out.size))
    have WK:=lh (works_at wr (HG.out.below B7.out))
    go_wp2_with fail
    (with_reducible refine WK.out.mono ?_)
    rintro e w9 ⟨rfl,hb9⟩
    have B9:=lh (B7.out.trans (hb9.mono B7.out.size))
    clear WK hb9 B7
    go_wp2
    go_ret
    exact ⟨rfl,B9.out⟩
theorem parseRight (w:World)(p:Option Addr)(len c:Nat)(xs:List Int)(hs:Src w p len c xs)(hg:ET w) :
 Calls Tryz.prog 17 #[.slice p len c] w fun e w'=>e=.returned (.bool true)∧Below w.heap.size w w':=by
 by_cases hb:len≤1000
 · cases hx:parseS xs with
   | error e=>exact right_err w p len c xs hs hg hb e.1 e.2 hx
   | ok ns =>
    cases hl:lexS xs with
    | error e=>simp [parseS,hl] at hx
    | ok ts=>exact right_ok w p len c xs hs hg hb ns hx ts hl
 · exact right_big w p len c hg (by omega)
end
section
open Go.RowKit
abbrev srcL:List Int:=[116,97,98,108,101,32,116,40,99,44,32,100,41,59,32,112,114,111,99,32,112,40,97,44,32,98,41,32,115,105,110,103,108,101,32,123,32,114,101,97,100,32,120,32,61,32,116,91,97,32,43,32,49,93,46,99,32,102,111,114,32,117,112,100,97,116,101,59,32,115,101,116,32,116,91,45,120,93,46,100,32,61,32,40,97,32,45,32,98,41,32,42,32,50,59,32,112,117,116,32,116,91,49,93,40,97,44,32,50,41,59,32,100,101,108,101,116,101,32,116,91,98,93,59,32,115,99,97,110,32,121,32,61,32,116,46,99,59,32,108,111,99,107,32,116,32,97,108,108,59,32,114,101,108,101,97,115,101,32,116,91,97,93,59,32,114,101,108,101,97,115,101,32,116,59,32,105,102,32,120,32,60,32,121,32,123,32,101,109,105,116,32,120,59,32,125,32,101,108,115,101,32,123,32,114,111,108,108,98,97,99,107,59,32,125,32,99,104,111,112,59,32,102,111,114,32,105,32,61,32,49,32,116,111,32,51,32,123,32,108,101,116,32,120,32,61,32,105,59,32,105,102,32,120,32,61,61,32,50,32,123,32,125,32,125,32,108,111,99,107,32,116,32,115,104,97,114,101,100,59,32,125,32,112,114,111,99,32,113,40,41,32,123,32,125]
theorem srcL_byte:∀z∈srcL,0≤z∧z<256:=by
 have h:srcL.all (fun z=>decide (0≤z)&&decide (z<256))=true:=by kernel_rfl
 intro z hz
 have:=List.all_eq_true.1 h z hz
 simpa using this
abbrev srcC:Array Value:=#[.int .u8 116,.int .u8 97,.int .u8 98,.int .u8 108,.int .u8 101,.int .u8 32,.int .u8 116,.int .u8 40,.int .u8 99,.int .u8 44,.int .u8 32,.int .u8 100,.int .u8 41,.int .u8 59,.int .u8 32,.int .u8 112,.int .u8 114,.int .u8 111,.int .u8 99,.int .u8 32,.int .u8 112,.int .u8 40,.int .u8 97,.int .u8 44,.int .u8 32,.int .u8 98,.int .u8 41,.int .u8 32,.int .u8 115,.int .u8 105,.int .u8 110,.int .u8 103,.int .u8 108,.int .u8 101,.int .u8 32,.int .u8 123,.int .u8 32,.int .u8 114,.int .u8 101,.int .u8 97,.int .u8 100,.int .u8 32,.int .u8 120,.int .u8 32,.int .u8 61,.int .u8 32,.int .u8 116,.int .u8 91,.int .u8 97,.int .u8 32,.int .u8 43,.int .u8 32,.int .u8 49,.int .u8 93,.int .u8 46,.int .u8 99,.int .u8 32,.int .u8 102,.int .u8 111,.int .u8 114,.int .u8 32,.int .u8 117,.int .u8 112,.int .u8 100,.int .u8 97,.int .u8 116,.int .u8 101,.int .u8 59,.int .u8 32,.int .u8 115,.int .u8 101,.int .u8 116,.int .u8 32,.int .u8 116,.int .u8 91,.int .u8 45,.int .u8 120,.int .u8 93,.int .u8 46,.int .u8 100,.int .u8 32,.int .u8 61,.int .u8 32,.int .u8 40,.int .u8 97,.int .u8 32,.int .u8 45,.int .u8 32,.int .u8 98,.int .u8 41,.int .u8 32,.int .u8 42,.int .u8 32,.int .u8 50,.int .u8 59,.int .u8 32,.int .u8 112,.int .u8 117,.int .u8 116,.int .u8 32,.int .u8 116,.int .u8 91,.int .u8 49,.int .u8 93,.int .u8 40,.int .u8 97,.int .u8 44,.int .u8 32,.int .u8 50,.int .u8 41,.int .u8 59,.int .u8 32,.int .u8 100,.int .u8 101,.int .u8 108,.int .u8 101,.int .u8 116,.int .u8 101,.int .u8 32,.int .u8 116,.int .u8 91,.int .u8 98,.int .u8 93,.int .u8 59,.int .u8 32,.int .u8 115,.int .u8 99,.int .u8 97,.int .u8 110,.int .u8 32,.int .u8 121,.int .u8 32,.int .u8 61,.int .u8 32,.int .u8 116,.int .u8 46,.int .u8 99,.int .u8 59,.int .u8 32,.int .u8 108,.int .u8 111,.int .u8 99,.int .u8 107,.int .u8 32,.int .u8 116,.int .u8 32,.int .u8 97,.int .u8 108,.int .u8 108,.int .u8 59,.int .u8 32,.int .u8 114,.int .u8 101,.int .u8 108,.int .u8 101,.int .u8 97,.int .u8 115,.int .u8 101,.int .u8 32,.int .u8 116,.int .u8 91,.int .u8 97,.int .u8 93,.int .u8 59,.int .u8 32,.int .u8 114,.int .u8 101,.int .u8 108,.int .u8 101,.int .u8 97,.int .u8 115,.int .u8 101,.int .u8 32,.int .u8 116,.int .u8 59,.int .u8 32,.int .u8 105,.int .u8 102,.int .u8 32,.int .u8 120,.int .u8 32,.int .u8 60,.int .u8 32,.int .u8 121,.int .u8 32,.int .u8 123,.int .u8 32,.int .u8 101,.int .u8 109,.int .u8 105,.int .u8 116,.int .u8 32,.int .u8 120,.int .u8 59,.int .u8 32,.int .u8 125,.int .u8 32,.int .u8 101,.int .u8 108,.int .u8 115,.int .u8 101,.int .u8 32,.int .u8 123,.int .u8 32,.int .u8 114,.int .u8 111,.int .u8 108,.int .u8 108,.int .u8 98,.int .u8 97,.int .u8 99,.int .u8 107,.int .u8 59,.int .u8 32,.int .u8 125,.int .u8 32,.int .u8 99,.int .u8 104,.int .u8 111,.int .u8 112,.int .u8 59,.int .u8 32,.int .u8 102,.int .u8 111,.int .u8 114,.int .u8 32,.int .u8 105,.int .u8 32,.int .u8 61,.int .u8 32,.int .u8 49,.int .u8 32,.int .u8 116,.int .u8 111,.int .u8 32,.int .u8 51,.int .u8 32,.int .u8 123,.int .u8 32,.int .u8 108,.int .u8 101,.int .u8 116,.int .u8 32,.int .u8 120,.int .u8 32,.int .u8 61,.int .u8 32,.int .u8 105,.int .u8 59,.int .u8 32,.int .u8 105,.int .u8 102,.int .u8 32,.int .u8 120,.int .u8 32,.int .u8 61,.int .u8 61,.int .u8 32,.int .u8 50,.int .u8 32,.int .u8 123,.int .u8 32,.int .u8 125,.int .u8 32,.int .u8 125,.int .u8 32,.int .u8 108,.int .u8 111,.int .u8 99,.int .u8 107,.int .u8 32,.int .u8 116,.int .u8 32,.int .u8 115,.int .u8 104,.int .u8 97,.int .u8 114,.int .u8 101,.int .u8 100,.int .u8 59,.int .u8 32,.int .u8 125,.int .u8 32,.int .u8 112,.int .u8 114,.int .u8 111,.int .u8 99,.int .u8 32,.int .u8 113,.int .u8 40,.int .u8 41,.int .u8 32,.int .u8 123,.int .u8 32,.int .u8 125]
end
section
open Go.RowKit
theorem wpList_run {P:Program}{ops:Array Oper}{rest:List Oper}{o:Oper}{a:Act}{w:World}{Q:Exit→Act→World→Prop}(hg:o.guard=none)(v:Value)(w':World)(hrun:(execOp a.eval o).run P w=.ok (.value v) w')(h:wpList P ops Q rest (a.put o.dst v) w'):wpList P ops Q (o::rest) a w:=by
 refine wpList_plain hg fun K hK=>?_
 unfold Oper.wp
 rw [hrun]
 exact hK _ _ h
theorem conv_lit (w:World)(a:Act)(o:Oper)(x:Operand)(ho:o.op=.convert 22 22 x)(C:Array Value)(n:Nat)(hx:a.eval x=.slice (some ⟨w.heap.size,0,none⟩) n n) :
 (execOp a.eval o).run Tryz.prog (w.alloc (.cells C 5))=.ok (.value (.slice (some ⟨w.heap.size,0,none⟩) n n)) (w.alloc (.cells C 5 (C.size,C.size+1))):=by
 have kc:=Lib.run_convert_bytes_const (P:=Tryz.prog) w 22 5 C n n Tryz.underlying22 Tryz.underlying5
 simp [execOp,ho,hx,kc,Result.andThen]
theorem run_storeCells_atZ (P:Program)(g o:Nat)(t:TypeId)(fz:Nat × Nat):∀(vs:List Value) (i:Nat) (cur:Array Value) (w:World),w.heap[g]?=some (.cells cur t fz)→o+i+vs.length≤fz.1→o+i+vs.length≤cur.size→(∀v∈vs,v.oneCell'=true) →
 (storeCells ⟨g,o,none⟩ vs i).run P w=.ok () (w.setRow g (cur.toList.take (o+i)++vs++cur.toList.drop (o+i+vs.length)).toArray)
 | [],i,cur,w,hg,_,_,_=>by
  simp only [storeCells,List.append_nil,List.length_nil,Nat.add_zero,List.take_append_drop,Array.toArray_toList]
  rw [setRow_self w g cur t fz hg]
  rfl
 | v::rest,i,cur,w,hg,hfz,hl,h1=>by
  have hi:o+i<cur.size:=by simp at hl;omega
  have hadd:(⟨g,o,none⟩:Addr).add i=⟨g,o+i,none⟩:=by unfold Addr.add;split<;>simp_all
  have hcell:w.cell? ⟨g,o+i,none⟩=some cur[o+i]:=by simp [World.cell?,hg,hi]
  have hfro:w.frozen? ⟨g,o+i,none⟩=false:=by
   obtain ⟨lo,hi'⟩:=fz
   simp only [World.frozen?,hg,Bool.and_eq_false_iff,decide_eq_false_iff_not]
   left
   simp only [List.length_cons] at hfz
   omega
  have hst:(store ((⟨g,o,none⟩:Addr).add i) v).run P w=.ok () (w.setRow g (cur.setIfInBounds (o+i) v)):=by
   rw [hadd,run_store P w _ v _ (h1 v (by simp)),hcell]
   simp [hfro,setCell_eq_setRow w g (o+i) cur t fz v hg]
  have ih:=run_storeCells_atZ P g o t fz rest (i+1) (cur.setIfInBounds (o+i) v) (w.setRow g (cur.setIfInBounds (o+i) v)) (setRow_heap w g cur _ t _ hg) (by simp only [List.length_cons] at hfz;omega) (by simp at hl ⊢;omega) (fun x hx=>h1 x (by simp [hx]))
  simp only [storeCells,Sem.run_bind,hst,Result.andThen_ok,ih,setRow_setRow]
  congr 3
  have e:=list_seg_step cur.toList (o+i) v rest (by simp at hl ⊢;omega)
  simpa [Array.toList_setIfInBounds,Nat.add_assoc] using e
theorem src_row {W:World}{g cap n:Nat}{cur:Array Value}{fz:Nat × Nat}(hg:W.heap[g]?=some (.cells cur 5 fz))(zs:List Int)(hn:zs.length=n)(hz:∀z∈zs,0≤z∧z<256)(ht:cur.toList.take n=zs.map (Value.int .u8))(hc:n≤cap):Src W (some ⟨g,0,none⟩) n cap zs:=by
 refine ⟨hn,fun i=>?_,Or.inr ⟨g,0,rfl,hc,(Array.getElem?_eq_some_iff.1 hg).1,fun i hi=>?_⟩⟩
 · by_cases hi:i<zs.length
   · have:=hz (zs[i]) (List.getElem_mem hi)
     simpa [List.getD,hi] using this
   · simp [List.getD,List.getElem?_eq_none (Nat.le_of_not_lt hi)]
 · rw [Nat.zero_add,cell_of_row W g i cur 5 fz hg]
   have h1:(cur.toList.take n)[i]?=cur[i]?:=by rw [List.getElem?_take,if_pos hi];simp
   rw [← h1,ht]
   have hi':i<zs.length:=by omega
   simp [List.getD,hi']
theorem infoBK:(Tryz.prog.info? 5).map (fun i=>(i.zero,i.size,i.bytes))=some (some (.int .u8 0),1,1):=by kernel_rfl
theorem run_append_conv (w:World)(ty:TypeId)(g n cap:Nat)(cur:Array Value)(xs:List Int)(hg:w.heap[g]?=some (.cells cur 5 (cur.size,cur.size+1)))(hcs:cur.size=cap)(hn:n≤cap)(hcm:cap≤maxLen)(hxl:xs.length=n)(hxs:cur.toList.take n=xs.map (Value.int .u8))(hxb:∀z∈xs,0≤z∧z<256)
 (ad:Addr) (m c:Nat) (ys:List Int) (hs:Src w (some ad) m c ys) (hb:n+m≤100000) :
 ∃p' c' w',(Builtin.append_ #[22, 22] ty #[.slice (some ⟨g,0,none⟩) n cap,.slice (some ad) m c]).run Tryz.prog w=.ok (.slice p' (n+m) c') w'∧Src w' p' (n+m) c' (xs++ys)∧(∀base,base≤g→Below base w w'):=by
 obtain ⟨i0,hi,hz0,hz1,hz2⟩:=info_parts infoBK
 obtain ⟨hl,hby,hor⟩:=hs
 have hyb:∀z∈ys,0≤z∧z<256:=fun z hz=>by
  obtain ⟨j,hj,rfl⟩:=List.mem_iff_getElem.1 hz
  have:=hby j
  simpa [List.getD,hj] using this
 have hnl:(ys.map (Value.int .u8)).length=m*i0.size:=by rw [hz1];simp;omega
 have hnews:∀j u,(ys.map (Value.int .u8))[j]?=some u→w.cell? (ad.add j)=some u:=by
  intro j u hj
  rcases hor with ⟨h0,_⟩|⟨b,off,e,_,_,hc⟩
  · have e:ys=[]:=List.eq_nil_of_length_eq_zero (by omega)
    subst e
    simp at hj
  · simp only [Option.some.injEq] at e
    subst e
    have hjl:j<ys.length:=by
     have:=(List.getElem?_eq_some_iff.1 hj).1
     simpa using this
    have ea:(⟨b,off,none⟩:Addr).add j=⟨b,off+j,none⟩:=by unfold Addr.add;split<;>simp_all
    rw [ea,hc j (by omega)]
    simp only [List.getElem?_map,List.getElem?_eq_getElem hjl,Option.map_some,Option.some.injEq] at hj
    rw [← hj]
    simp [List.getD,hjl]
 have h1:∀u∈ys.map (Value.int .u8),u.oneCell'=true:=by
  intro u hu
  obtain ⟨x,_,rfl⟩:=List.mem_map.1 hu
  rfl
 have hall:∀z∈xs++ys,0≤z∧z<256:=fun z hz=>by
  rcases List.mem_append.1 hz with h|h
  · exact hxb z h
  · exact hyb z h
 have hgl:=(Array.getElem?_eq_some_iff.1 hg).1
 by_cases hroom:n+m≤cap
 · have hf:=run_firstCells_some (P:=Tryz.prog) w i0.size m ad m c _ hnl hnews
   have hst:=run_storeCells_atZ Tryz.prog g (n*i0.size) 5 (cur.size,cur.size+1) (ys.map (Value.int .u8)) 0 cur w hg (by rw [hnl,hz1];simp;omega) (by rw [hnl,hz1];simp;omega) h1
   simp only [Nat.add_zero] at hst
   refine ⟨some ⟨g,0,none⟩,cap,w.setRow g (cur.toList.take (n*i0.size)++ys.map (Value.int .u8)++cur.toList.drop (n*i0.size+(ys.map (Value.int .u8)).length)).toArray,?_,?_,?_⟩
   · simp [Builtin.append_,run_underlying Tryz.underlying22,sizeOf,typeInfo,hi,Builtin.lenOf,hroom,hf,Addr.add_lit,hst]
   · refine src_row (setRow_heap w g cur _ 5 _ hg) (xs++ys) (by simp;omega) hall ?_ hroom
     rw [hz1,Nat.mul_one,hxs,List.map_append]
     have hlen:(xs.map (Value.int IntKind.u8)++ys.map (Value.int IntKind.u8)).length=n+m:=by simp;omega
     rw [show ((xs.map (Value.int IntKind.u8)++ys.map (Value.int IntKind.u8)++cur.toList.drop (n+(ys.map (Value.int IntKind.u8)).length)).toArray).toList=xs.map (Value.int IntKind.u8)++ys.map (Value.int IntKind.u8)++cur.toList.drop (n+(ys.map (Value.int IntKind.u8)).length) by simp,← hlen]
     exact List.take_left
   · intro base hbg
     exact ⟨rfl,rfl,rfl,by simp,fun k hk=>setRow_other w g k _ (fun e=>by omega)⟩
 · have holds:∀j u,(xs.map (Value.int .u8))[j]?=some u→w.cell? ((⟨g,0,none⟩:Addr).add j)=some u:=by
    intro j u hu
    have hadd:(⟨g,0,none⟩:Addr).add j=⟨g,j,none⟩:=by unfold Addr.add;split<;>simp_all
    rw [hadd,cell_of_row w g j cur 5 _ hg]
    rw [← hxs,List.getElem?_take] at hu
    split at hu
    · simpa using hu
    · cases hu
   have hr:=run_append_grow (P:=Tryz.prog) w 22 ty 5 i0 (.int .u8 0) Tryz.underlying22 hi hz0 ⟨g,0,none⟩ n cap (xs.map (Value.int .u8)) (by rw [hz1];simp;omega) holds ad m c _ hnl hnews (by omega) (by omega) (growslice_fits (by omega) (by rw [hz2];omega))
   refine ⟨_,_,_,hr,?_,fun base hbg=>⟨rfl,rfl,rfl,by simp,fun k hk=>Below.heap_alloc w.drew _ k (show k<w.heap.size by omega)⟩⟩
   refine src_row (heap_alloc_new w.drew _) (xs++ys) (by simp;omega) hall ?_ (grownCap_ge w (n+m) cap 5)
   rw [List.map_append,Array.toList_append,Array.toList_append]
   simp only [List.append_assoc]
   rw [← List.append_assoc]
   have hlen:(xs.map (Value.int IntKind.u8)++ys.map (Value.int IntKind.u8)).length=n+m:=by simp;omega
   rw [← hlen]
   exact List.take_left
def bI (s:ByteArray):List Int:=s.data.toList.map fun b=>(b.toNat:Int)
theorem bI_length (s:ByteArray):(bI s).length=s.size:=by simp [bI]
theorem bI_byte (s:ByteArray):∀z∈bI s,0≤z∧z<256:=by
 intro z hz
 obtain ⟨b,_,rfl⟩:=List.mem_map.1 hz
 have:=b.toNat_lt
 omega
theorem bk_below (w:World)(s:ByteArray):Below w.heap.size w (Lib.bytesWorld w 5 s) where
 os:=rfl
 tape:=rfl
 output:=rfl
 size:=by rw [Lib.bytesWorld_size];omega
 block:=fun k hk=>Lib.bytesWorld_at_old w 5 s k hk
theorem bk_take (w:World)(s:ByteArray):(Lib.bytesCells w 5 s).toList.take s.size=(bI s).map (Value.int .u8):=by
 unfold Lib.bytesCells bI
 rw [Array.toList_append,List.map_map]
 have e:(Array.map (fun b=>Value.int IntKind.u8 (b.toNat:Int)) s.data).toList=List.map (Value.int IntKind.u8 ∘ fun b=>(b.toNat:Int)) s.data.toList:=by simp [Function.comp_def]
 have hl:(List.map (Value.int IntKind.u8 ∘ fun b:UInt8=>(b.toNat:Int)) s.data.toList).length=s.size:=by simp
 rw [e,← hl]
 exact List.take_left
theorem bk_size (w:World)(s:ByteArray):(Lib.bytesCells w 5 s).size=grownCap w s.size 0 5:=by
 have:=grownCap_ge w s.size 0 5
 unfold Lib.bytesCells
 simp
 omega
theorem bk_src (w:World)(s:ByteArray):Src (Lib.bytesWorld w 5 s) (some ⟨w.heap.size,0,none⟩) s.size (grownCap w s.size 0 5) (bI s) :=
 src_row (Lib.bytesWorld_at_new w 5 s) (bI s) (bI_length s) (bI_byte s) (bk_take w s) (grownCap_ge w s.size 0 5)
theorem bk_conv (W:World)(s:ByteArray):(convert 9 22 (.string s)).run Tryz.prog W=.ok (.slice (some ⟨W.heap.size,0,none⟩) s.size (grownCap W s.size 0 5)) (Lib.bytesWorld W 5 s):=Lib.run_convert_string_bytes W 9 22 5 s Tryz.underlying9 Tryz.underlying22 Tryz.underlying5
theorem step_append_conv {ops:Array Oper}{o:Oper}{a:Act}{K:Act→World→Prop}{Q:Exit→Act→World→Prop}{E:Prop}(W0:World)(s:ByteArray)(hgd:o.guard=none)(sl x:Operand)
 (ho:o.op=.call { callee:=.builtin .append,args:=#[sl,x],argTypes:=#[22, 22] }) (hs:a.eval sl=.slice (some ⟨W0.heap.size,0,none⟩) s.size (grownCap W0 s.size 0 5))
 (ad:Addr) (m c:Nat) (ys:List Int) (hx:a.eval x=.slice (some ad) m c) (hsrc:Src (Lib.bytesWorld W0 5 s) (some ad) m c ys) (hb:s.size+m≤100000)
 (h:∀p' c' w',Src w' p' (s.size+m) c' (bI s++ys)→Below W0.heap.size W0 w'→K (a.put o.dst (.slice p' (s.size+m) c')) w') :
 if Region.wanted o (yielded ops a.tmps)=true then Oper.wp Tryz.prog o a (Lib.bytesWorld W0 5 s) K Q else E:=by
 have hw:Region.wanted o (yielded ops a.tmps)=true:=by simp [Region.wanted,hgd]
 rw [if_pos hw]
 obtain ⟨p',c',w',hr,h1,h2⟩:=run_append_conv (Lib.bytesWorld W0 5 s) o.type W0.heap.size s.size (grownCap W0 s.size 0 5) (Lib.bytesCells W0 5 s) (bI s) (Lib.bytesWorld_at_new W0 5 s) (bk_size W0 s) (grownCap_ge W0 s.size 0 5) (grownCap_le_maxLen W0 s.size 0 5 (by unfold maxLen;omega)) (bI_length s) (bk_take W0 s) (bI_byte s) ad m c ys hsrc hb
 unfold Oper.wp execOp
 simp only [ho,resolve,invoke,builtin,Sem.run_bind,Sem.run_pure,Result.andThen_ok,List.map_toArray,List.map_cons,List.map_nil,hs,hx,hr]
 exact h p' c' w' h1 ((bk_below W0 s).trans (h2 _ (Nat.le_refl _)))
theorem to_run (W:World)(p:Option Addr)(len c e:Nat)(h:e≤c)(hc:0<c):(Instr.sliceAt 22 (.slice p len c) none (some (.int .i64 e)) none).run Tryz.prog W=.ok (.slice p e c) W:=by
 have hu:Tryz.prog.underlying 22=some (.slice (Tryz.prog.elem 22)):=by kernel_rfl
 have hz:∀W,(sizeOf (Tryz.prog.elem 22)).run Tryz.prog W=.ok 1 W:=fun _=>by kernel_rfl
 rw [run_sliceAt_slice W 22 _ _ _ _ hu,run_slice_h W 22 p len c hu .i64 e (by omega) (by omega),hz]
 have hc0:¬ c=0:=by omega
 cases p with
 | none=>simp [sliced]
 | some a=>simp [sliced,hc0,Addr.add]
theorem from_run (W:World)(b len c a:Nat)(h:a≤len)(hlc:len≤c):∃q,(Instr.sliceAt 22 (.slice (some ⟨b,0,none⟩) len c) (some (.int .i64 a)) none none).run Tryz.prog W=.ok (.slice (some q) (len-a) (c-a)) W∧subP (some ⟨b,0,none⟩) c a=some q:=by
 have hu:Tryz.prog.underlying 22=some (.slice (Tryz.prog.elem 22)):=by kernel_rfl
 have hz:∀W,(sizeOf (Tryz.prog.elem 22)).run Tryz.prog W=.ok 1 W:=fun _=>by kernel_rfl
 have e:(Instr.sliceAt 22 (.slice (some ⟨b,0,none⟩) len c) (some (.int .i64 a)) none none).run Tryz.prog W=.ok (.slice (subP (some ⟨b,0,none⟩) c a) (len-a) (c-a)) W:=by
  rw [run_sliceAt_slice W 22 _ _ _ _ hu,run_slice_l W 22 _ len c hu .i64 a (by omega) (by omega),hz]
  rfl
 by_cases hca:c=a
 · have h1:subP (some ⟨b,0,none⟩) c a=some ⟨b,0,none⟩:=by unfold subP;rw [if_pos hca]
   rw [h1] at e
   exact ⟨_,e,h1⟩
 · have h1:subP (some ⟨b,0,none⟩) c a=some ((⟨b,0,none⟩:Addr).add (a*1)):=by unfold subP;rw [if_neg hca];rfl
   rw [h1] at e
   exact ⟨_,e,h1⟩
theorem bk_row (W:World)(s:ByteArray)(n:Nat)(hs:s.size=n):∃W3 cp cs,(convert 9 22 (.string s)).run Tryz.prog W=.ok (.slice (some ⟨W.heap.size,0,none⟩) n cp) W3∧Below W.heap.size W W3∧W3.heap.size=W.heap.size+1∧W3.heap[W.heap.size]?=some (.cells cs 5 (cp,cp+1))∧cs.size=cp∧cs.toList.take n=(bI s).map (Value.int .u8)∧n≤cp:=by
 subst hs
 have h:=Lib.bytesWorld_at_new W 5 s
 rw [bk_size] at h
 exact ⟨_,_,_,bk_conv W s,bk_below W s,Lib.bytesWorld_size W 5 s,h,bk_size W s,bk_take W s,grownCap_ge W s.size 0 5⟩
theorem src_set {W:World}{g cp n k:Nat}{cs:Array Value}{fz:Nat × Nat}(hg:W.heap[g]?=some (.cells cs 5 fz))(ys:List Int)(hn:ys.length=n)(hb:∀z∈ys,0≤z∧z<256)(ht:cs.toList.take n=ys.map (Value.int .u8))(hc:n≤cp)(hk:k<n)(v:Int)(hv:0≤v∧v<256):Src (W.setCell ⟨g,k,none⟩ (.int .u8 v)) (some ⟨g,0,none⟩) n cp (ys.set k v):=by
 rw [setCell_eq_setRow W g k cs 5 fz (.int .u8 v) hg]
 refine src_row (setRow_heap W g cs _ 5 fz hg) (ys.set k v) (by simpa using hn) (fun z hz=>?_) ?_ hc
 · rcases List.mem_or_eq_of_mem_set hz with h|rfl
   · exact hb z h
   · exact hv
 · rw [Array.toList_setIfInBounds,List.take_set,ht,List.map_set]
theorem lit8 (W:World)(C:Array Value)(L:List Int)(hC:C=(L.map (Value.int .u8)).toArray)(hb:∀z∈L,0≤z∧z<256)(fr:Nat × Nat)(j:Nat)(hj:j<L.length):∃v,(W.alloc (.cells C 5 fr)).cell? ⟨W.heap.size,j,none⟩=some (.int .u8 v)∧0≤v∧v<256:=by
 subst hC
 have h:=heap_alloc_new W (.cells (L.map (Value.int .u8)).toArray 5 fr)
 refine ⟨L[j],?_,hb _ (List.getElem_mem hj)⟩
 rw [cell_of_row _ _ _ _ _ _ h]
 simp [hj]
theorem frozen_row {W:World}{g lo hi k:Nat}{cs:Array Value}(hg:W.heap[g]?=some (.cells cs 5 (lo,hi)))(hk:k<lo):W.frozen? ⟨g,k,none⟩=false:=by
 simp only [World.frozen?,hg,Bool.and_eq_false_iff,decide_eq_false_iff_not]
 left
 omega
theorem cell_row {W:World}{g n k:Nat}{cs:Array Value}{fz:Nat × Nat}(hg:W.heap[g]?=some (.cells cs 5 fz))(ys:List Int)(hn:ys.length=n)(ht:cs.toList.take n=ys.map (Value.int .u8))(hk:k<n):∃y,W.cell? ⟨g,k,none⟩=some (.int .u8 y):=by
 refine ⟨ys.getD k 0,?_⟩
 rw [cell_of_row W g k cs 5 fz hg]
 have h1:(cs.toList.take n)[k]?=cs[k]?:=by rw [List.getElem?_take,if_pos hk];simp
 have hk':k<ys.length:=by omega
 rw [← h1,ht]
 simp [List.getD,hk']
structure TW (W:World)(A:Nat):Prop where
 row:∀q,q<5→W.cell? ⟨A+5,q,none⟩=some (.slice (some ⟨A+q,0,none⟩) 5 5)
 txt:∀q r,q<5→r<5→∃s,W.cell? ⟨A+q,r,none⟩=some (.string s)∧s.size≤30
 lt:A+5<W.heap.size
theorem TW.on {W W':World}{A:Nat}(h:TW W A)(hb:Below W.heap.size W W'):TW W' A where
 row:=fun q hq=>by rw [hb.cell (p:=⟨A+5,q,none⟩) h.lt];exact h.row q hq
 txt:=fun q r hq hr=>by
  obtain ⟨s,h1,h2⟩:=h.txt q r hq hr
  exact ⟨s,by rw [hb.cell (p:=⟨A+q,r,none⟩) (by have:=h.lt;show A+q<_;omega)];exact h1,h2⟩
 lt:=Nat.lt_of_lt_of_le h.lt hb.size
def tower (w:World):World:=(((((w.alloc (.cells #[.string ⟨#[112,114,111,99,32,112,40,41,32,123,32,101,109,105,116,32]⟩,.string ⟨#[40]⟩,.string ⟨#[49]⟩,.string ⟨#[41]⟩,.string ⟨#[59,32,125]⟩] 9)).alloc (.cells #[.string ⟨#[112,114,111,99,32,112,40,41,32,123,32,101,109,105,116,32]⟩,.string ⟨#[45]⟩,.string ⟨#[49]⟩,.string ⟨#[]⟩,.string ⟨#[59,32,125]⟩] 9)).alloc (.cells #[.string ⟨#[112,114,111,99,32,112,40,41,32,123,32]⟩,.string ⟨#[105,102,32,49,32,60,32,50,32,123,32]⟩,.string ⟨#[]⟩,.string ⟨#[125,32]⟩,.string ⟨#[125]⟩] 9)).alloc (.cells #[.string ⟨#[112,114,111,99,32,112,40,41,32,123,32,100,101,108,101,116,101,32]⟩,.string ⟨#[116,91]⟩,.string ⟨#[49]⟩,.string ⟨#[93]⟩,.string ⟨#[59,32,125]⟩] 9)).alloc (.cells #[.string ⟨#[112,114,111,99,32,112,40,41,32,123,32,100,101,108,101,116,101,32,116,91,32]⟩,.string ⟨#[45]⟩,.string ⟨#[49]⟩,.string ⟨#[]⟩,.string ⟨#[93,59,32,125]⟩] 9)).alloc (.cells #[.slice (some ⟨w.heap.size,0,none⟩) 5 5,.slice (some ⟨w.heap.size+1,0,none⟩) 5 5,.slice (some ⟨w.heap.size+1+1,0,none⟩) 5 5,.slice (some ⟨w.heap.size+1+1+1,0,none⟩) 5 5,.slice (some ⟨w.heap.size+1+1+1+1,0,none⟩) 5 5] 33)
theorem tower_below (w:World):Below w.heap.size w (tower w):=((((((Below.refl _ w).alloc (Nat.le_refl _) _).alloc (by simp) _).alloc (by simp;omega) _).alloc (by simp;omega) _).alloc (by simp;omega) _).alloc (by simp;omega) _
theorem cell_new {W:World}{b j:Nat}{cs:Array Value}{e:TypeId}(h:b=W.heap.size):(W.alloc (.cells cs e)).cell? ⟨b,j,none⟩=cs[j]?:=by
 subst h
 rw [cell_of_row _ _ _ _ _ _ (heap_alloc_new W (.cells cs e))]
theorem tower_tw (w:World):TW (tower w) w.heap.size where
 row:=fun q hq=>by
  rw [tower,cell_new (by simp only [World.size_alloc])]
  match q,hq with
  | 0,_=>rfl
  | 1,_=>rfl
  | 2,_=>rfl
  | 3,_=>rfl
  | 4,_=>rfl
 txt:=fun q r hq hr=>by
  match q,hq with
  | 0,_ =>
   have h:∀r,(tower w).cell? ⟨w.heap.size+0,r,none⟩=_:=fun r=>by rw [tower,World.cell?_alloc_lt _ _ _ (by simp only [World.size_alloc];omega),World.cell?_alloc_lt _ _ _ (by simp only [World.size_alloc];omega),World.cell?_alloc_lt _ _ _ (by simp only [World.size_alloc];omega),World.cell?_alloc_lt _ _ _ (by simp only [World.size_alloc];omega),World.cell?_alloc_lt _ _ _ (by simp only [World.size_alloc];omega),cell_new (by first|rfl|(simp only [World.size_alloc];try omega))]
   match r,hr with
   | 0,_=>exact ⟨_,h 0,by decide⟩
   | 1,_=>exact ⟨_,h 1,by decide⟩
   | 2,_=>exact ⟨_,h 2,by decide⟩
   | 3,_=>exact ⟨_,h 3,by decide⟩
   | 4,_=>exact ⟨_,h 4,by decide⟩
  | 1,_ =>
   have h:∀r,(tower w).cell? ⟨w.heap.size+1,r,none⟩=_:=fun r=>by rw [tower,World.cell?_alloc_lt _ _ _ (by simp only [World.size_alloc];omega),World.cell?_alloc_lt _ _ _ (by simp only [World.size_alloc];omega),World.cell?_alloc_lt _ _ _ (by simp only [World.size_alloc];omega),World.cell?_alloc_lt _ _ _ (by simp only [World.size_alloc];omega),cell_new (by first|rfl|(simp only [World.size_alloc];try omega))]
   match r,hr with
   | 0,_=>exact ⟨_,h 0,by decide⟩
   | 1,_=>exact ⟨_,h 1,by decide⟩
   | 2,_=>exact ⟨_,h 2,by decide⟩
   | 3,_=>exact ⟨_,h 3,by decide⟩
   | 4,_=>exact ⟨_,h 4,by decide⟩
  | 2,_ =>
   have h:∀r,(tower w).cell? ⟨w.heap.size+2,r,none⟩=_:=fun r=>by rw [tower,World.cell?_alloc_lt _ _ _ (by simp only [World.size_alloc];omega),World.cell?_alloc_lt _ _ _ (by simp only [World.size_alloc];omega),World.cell?_alloc_lt _ _ _ (by simp only [World.size_alloc];omega),cell_new (by first|rfl|(simp only [World.size_alloc];try omega))]
   match r,hr with
   | 0,_=>exact ⟨_,h 0,by decide⟩
   | 1,_=>exact ⟨_,h 1,by decide⟩
   | 2,_=>exact ⟨_,h 2,by decide⟩
   | 3,_=>exact ⟨_,h 3,by decide⟩
   | 4,_=>exact ⟨_,h 4,by decide⟩
  | 3,_ =>
   have h:∀r,(tower w).cell? ⟨w.heap.size+3,r,none⟩=_:=fun r=>by rw [tower,World.cell?_alloc_lt _ _ _ (by simp only [World.size_alloc];omega),World.cell?_alloc_lt _ _ _ (by simp only [World.size_alloc];omega),cell_new (by first|rfl|(simp only [World.size_alloc];try omega))]
   match r,hr with
   | 0,_=>exact ⟨_,h 0,by decide⟩
   | 1,_=>exact ⟨_,h 1,by decide⟩
   | 2,_=>exact ⟨_,h 2,by decide⟩
   | 3,_=>exact ⟨_,h 3,by decide⟩
   | 4,_=>exact ⟨_,h 4,by decide⟩
  | 4,_ =>
   have h:∀r,(tower w).cell? ⟨w.heap.size+4,r,none⟩=_:=fun r=>by rw [tower,World.cell?_alloc_lt _ _ _ (by simp only [World.size_alloc];omega),cell_new (by first|rfl|(simp only [World.size_alloc];try omega))]
   match r,hr with
   | 0,_=>exact ⟨_,h 0,by decide⟩
   | 1,_=>exact ⟨_,h 1,by decide⟩
   | 2,_=>exact ⟨_,h 2,by decide⟩
   | 3,_=>exact ⟨_,h 3,by decide⟩
   | 4,_=>exact ⟨_,h 4,by decide⟩
 lt:=by simp only [tower,World.size_alloc];omega
end
end Go.Proofs.YthdioipfdbbmmaaGreatDoor
