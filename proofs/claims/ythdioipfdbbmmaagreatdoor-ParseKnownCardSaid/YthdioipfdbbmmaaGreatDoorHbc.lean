/- Contracts. -/
import Derived.Test.YthdioipfdbbmmaaGreatDoorHab
import Derived.Test.YthdioipfdbbmmaaGreatDoorHan
import Derived.Test.YthdioipfdbbmmaaGreatDoorHaq
import Derived.Test.YthdioipfdbbmmaaGreatDoorHbb
import Derived.Deep.RegionHeld3
import Derived.Deep.Cut
import Derived.Deep.LoopGhost
set_option linter.all false
set_option maxRecDepth 1000000
set_option maxHeartbeats 16000000
namespace Go.Proofs.YthdioipfdbbmmaaGreatDoor
namespace Rf
open Go.RowKit Par
theorem fac_all:∀(r:Nat),r≤64→HasX 293 (64-(r:Int)) (factorP r)∧HasX 282 (64-(r:Int)) (exprR r)
 | 0,h=>by
  have h1:HasX 293 (64-((0:Nat):Int)) (factorP 0):=factor_x (r:=0) rfl h (fun r' e=>by omega)
  exact ⟨h1,sum_x (term_x h1 (less_factor 0)) (less_factor 0)⟩
 | r+1,h=>by
  obtain ⟨i1,i2⟩:=fac_all r (by omega)
  have hd:(64:Int)-((r+1:Nat):Int)+1=64-(r:Int):=by omega
  have h1:HasX 293 (64-((r+1:Nat):Int)) (factorP (r+1)):=factor_x (r:=r+1) (fac:=factorP r) rfl h (fun r' e=>by
   obtain rfl:r'=r:=by omega
   rw [hd]
   exact ⟨i2,i1⟩)
  exact ⟨h1,sum_x (term_x h1 (less_factor (r+1))) (less_factor (r+1))⟩
section
variable {p:List Nd}{k:Int}{a:Nat}{t:ByteArray}{n:Int}{Q B:Nat}{R:Res (List Ast)}{md:List Nd}{E:Env}{v:Value}{kvs:List Value}{d:Int}{w w':World}
theorem In.look (_h:In E p k a t n d Q B R w)(s:ByteArray):∃b,nxt R s=b:=⟨_,rfl⟩
theorem expr_I {r:Nat}(h:In E p k a t n (64-(r:Int)) Q B R w)(hr:r≤64)(hQ:Q≤B)(hB:B≤890000):Calls Tryz.prog 257 #[.pointer (some ⟨E.b,0,none⟩),.int .i64 (p.length:Int)] w fun x w'=>x=.returned (.tuple #[])∧In E p k a t n (64-(r:Int)) Q (B+1) (knd R (exprR r)) w':=by
 obtain ⟨v,kvs,md,hs,hm⟩:=h
 have C1:=lh ((fac_all r hr).2 E v kvs md w _ R hm)
 have HS:=lh hs
 have HQ:=lh hQ
 have HB:=lh hB
 clear hs hm hQ hB
 go_enter Tryz.func257,Tryz.ntmps257
 go_wp2_with fail
 (with_reducible refine C1.out.mono ?_)
 rintro x w1 ⟨ev,rfl,⟨k6,a6,t6,m6,p6,l6,c6,rfl⟩,ha,hf,hx⟩
 clear C1
 cases hS:then' R (fun _=>exprR r) with
 | err q c =>
  rw [hS] at ha
  obtain ⟨i,d',g1,g2,g3,h3⟩:=ha
  have H3:=lh (h3.alloc (.cells #[.int .u8 k6,.int .i64 a6,.string t6,.int .i64 m6,.slice p6 l6 c6] 317))
  obtain ⟨_,_,_,_,c4⟩:=H3.out.rowCells
  have hb:(c==0)=false:=by simpa using g2
  have hk:knd R (exprR r)=.err q c:=by
   cases R with
   | err q' c'=>simpa [then',knd] using hS
   | ok ks l=>simp only [then'] at hS;simp only [knd,then',Par.bind,hS]
  obtain ⟨nd,rest,e1,e2,e3⟩:=HS.out.any HQ.out
  have HF:Hid (In E p k a t n (64-(r:Int)) Q (B+1) (knd R (exprR r)) (w1.alloc (.cells #[.int .u8 k6,.int .i64 a6,.string t6,.int .i64 m6,.slice p6 l6 c6] 317))):=lh (by
   rw [hk]
   exact ⟨v,kvs,md,⟨nd,rest,e1,by omega,by omega⟩,⟨i,d',g1,g2,g3,H3.out⟩⟩)
  clear h3 hx hf hS hk g1 g2 g3 e1 e2 e3
  go_wp2
  simp [bodyPost,results,Tryz.results257,go_sem]
  exact HF.out
 | ok y l' =>
  rw [hS] at ha hx
  obtain ⟨i,rfl,h3⟩:=ha
  cases R with
  | err q c=>simp [then'] at hS
  | ok ks l =>
   simp only [then'] at hS
   obtain ⟨hb,rfl⟩:=HS.out
   have hz:y.size+(List.drop i E.pts).length≤l.length:=by have:=sz_exprR r 0 l y _ hS;simpa using this
   have hX:ExprV (w1.alloc (.cells #[.int .u8 k6,.int .i64 a6,.string t6,.int .i64 m6,.slice p6 l6 c6] 317)) (Loc E v kvs) y (.agg #[.int .u8 k6,.int .i64 a6,.string t6,.int .i64 m6,.slice p6 l6 c6]) :=
    ExprV.on (by simp) (fun k _ hl=>Below.heap_alloc _ _ _ hl) (fun k hk _=>hk.1) _ _ (hx y _ rfl)
   have H3:=lh (h3.alloc (.cells #[.int .u8 k6,.int .i64 a6,.string t6,.int .i64 m6,.slice p6 l6 c6] 317))
   have HL:=lh (h3.lcl (.cells #[.int .u8 k6,.int .i64 a6,.string t6,.int .i64 m6,.slice p6 l6 c6] 317))
   obtain ⟨_,_,_,_,c4⟩:=H3.out.rowCells
   have m0:=HL.out.cell 0 rfl
   have m1:=HL.out.cell 1 rfl
   have m2:=HL.out.cell 2 rfl
   have m3:=HL.out.cell 3 rfl
   have m4:=HL.out.cell 4 rfl
   have PT:=lh (put_at y.size y (Nat.le_refl _) E v kvs p k a t n ks i _ _ _ H3.out hX (by have:=HQ.out;have:=HB.out;omega))
   have HK:Hid (knd (Res.ok ks l) (exprR r)=.ok (ks++[y]) (List.drop i E.pts)):=lh (by simp only [knd,then',Par.bind,hS,Par.pure])
   have HZ:=lh hz
   have HBB:=lh hb
   clear h3 hx hf hS hX hz hb
   go_wp2_with fail
   (with_reducible refine PT.out.mono ?_)
   rintro x w5 ⟨rfl,v5,kvs5,h5,_⟩
   have HF:Hid (In E p k a t n (64-(r:Int)) Q (B+1) (knd (Res.ok ks l) (exprR r)) w5):=lh (by
    rw [HK.out]
    exact ⟨v5,kvs5,_,⟨by have:=HZ.out;have:=HBB.out;simp only [sizeL_append,sizeL_one];omega,rfl⟩,⟨i,rfl,h5⟩⟩)
   clear PT h5
   go_wp2
   simp [bodyPost,results,Tryz.results257,go_sem]
   exact HF.out
theorem in_I {r:Nat}(h:In E p k a t n (64-(r:Int)) Q B R w)(hr:r≤64)(hQ:Q≤B){s:ByteArray}(hn:s≠none0)(hy:nxt R s=true):Calls Tryz.prog 222 #[.pointer (some ⟨E.b,0,none⟩)] w fun x w'=>∃b,x=.returned (.bool b)∧(b=true→∃r',r=r'+1∧In E p k a t n (64-(r':Int)) Q B R w')∧(b=false→r=0∧In E p k a t n (64-(r:Int)) Q B (.err (hda R) 51) w'):=by
 obtain ⟨v,kvs,md,hs,hm⟩:=h
 obtain ⟨ks,i,rfl,h1,ht,hl⟩:=hm.yes hn hy
 cases r with
 | zero =>
  refine (in_deep h1).mono ?_
  rintro x w' ⟨rfl,hk⟩
  refine ⟨false,rfl,(fun e=>by cases e),fun _=>⟨rfl,v,kvs,md,hs.any hQ,?_⟩⟩
  exact ⟨i,65,by decide,by decide,rfl,hk.rs⟩
 | succ r =>
  refine (in_ok h1 (by omega)).mono ?_
  rintro x w' ⟨rfl,hk⟩
  refine ⟨true,rfl,fun _=>⟨r,rfl,v,kvs,md,hs,?_⟩,fun e=>by cases e⟩
  have hk:=hk.rs
  rw [show (64:Int)-((r+1:Nat):Int)+1=64-(r:Int) by omega] at hk
  exact ⟨i,hk.drop.symm,hk⟩
theorem In.deep {r:Nat}(h:In E p k a t n (64-(r:Int)) Q B R w)(hr:r+1≤64):∃d':Int,IntKind.i64.wrap (d'-1)=d'-1∧-9223372036854775808≤d'-1∧d'-1≤9223372036854775807∧w.cell? ⟨E.b,2,none⟩=some (.int .i64 d')∧w.frozen? ⟨E.b,2,none⟩=false∧In E p k a t n (64-((r+1:Nat):Int)) Q B R (w.setCell ⟨E.b,2,none⟩ (.int .i64 (d'-1))):=by
 obtain ⟨v,kvs,md,hs,hm⟩:=h
 rw [show (64:Int)-(r:Int)=64-((r+1:Nat):Int)+1 by omega] at hm
 obtain ⟨d',h1,h2,h3,h4,h5,_⟩:=hm.deep (by omega)
 exact ⟨d',IntWalk.i64_in _ (by omega),by omega,by omega,h3,h4,v,kvs,md,hs,h5⟩
def brkP (r:Nat):Par Ast:=Par.bind (enterP ⟨#[91]⟩ r) fun _=>Par.bind (exprR (r-1)) fun y=>Par.bind (expectP ⟨#[93]⟩) fun _=>Par.pure y
theorem brk_yes {r:Nat}(hy:nxt R ⟨#[91]⟩=true):skp (knd (skp R (skipP ⟨#[91]⟩)) (exprR r)) (expectP ⟨#[93]⟩)=knd R (brkP (r+1)):=by
 cases R with
 | err q c=>rfl
 | ok ks l =>
  cases l with
  | nil=>simp [nxt] at hy
  | cons t l =>
   simp only [nxt,decide_eq_true_eq] at hy
   simp only [skp,knd,then',Par.bind,skipP,if_pos hy,Par.pure,brkP,enterP,Nat.add_sub_cancel]
   rw [if_neg (by omega)]
   cases hx:exprR r l with
   | err q c=>simp only [hx]
   | ok y l' =>
    simp only [hx]
    cases hz:expectP ⟨#[93]⟩ l'<;>simp only [hz]
theorem brk_deep (hy:nxt R ⟨#[91]⟩=true):knd R (brkP 0)=.err (hda R) 51:=by
 cases R with
 | err q c=>simp [nxt] at hy
 | ok ks l =>
  cases l with
  | nil=>simp [nxt] at hy
  | cons t l =>
   simp only [nxt,decide_eq_true_eq] at hy
   simp only [knd,then',Par.bind,brkP,enterP,if_pos hy,hda]
   rfl
theorem brk_no {r:Nat}(hne:∀ks l,R=.ok ks l→l≠[])(hy:nxt R ⟨#[91]⟩=false):knd R (brkP r)=then' R fun _=>(failP:Par (List Ast)):=by
 cases R with
 | err q c=>rfl
 | ok ks l =>
  cases l with
  | nil=>exact absurd rfl (hne ks [] rfl)
  | cons t l =>
   simp only [nxt,decide_eq_false_iff_not] at hy
   simp only [knd,then',Par.bind,brkP,enterP,if_neg hy]
   rfl
theorem In.ne (h:In E p k a t n d Q B R w):∀ks l,R=.ok ks l→l≠[]:=fun ks l e=>by
 subst e
 obtain ⟨v,kvs,md,hs,hm⟩:=h
 obtain ⟨i,rfl,_⟩:=hm.ok_of
 simp
theorem bracket_I {r:Nat}(h:In E p k a t n (64-(r:Int)) Q B R w)(hr:r≤64)(hQ:Q+2≤B)(hB:B≤880000):Calls Tryz.prog 258 #[.pointer (some ⟨E.b,0,none⟩),.int .i64 (p.length:Int)] w fun x w'=>x=.returned (.tuple #[])∧In E p k a t n (64-(r:Int)) Q (B+1) (knd R (brkP r)) w':=by
 have H0:=lh h
 have C0:=lh (is_I h ⟨#[91]⟩ (by decide) (by decide))
 have HQ:=lh hQ
 have HB:=lh hB
 have HR:=lh hr
 obtain ⟨b,hb⟩:=h.look ⟨#[91]⟩
 rw [hb] at C0
 have HY:=lh hb
 clear h hQ hB hb hr
 go_enter Tryz.func258,Tryz.ntmps258
 go_wp2_with fail
 (with_reducible refine C0.out.mono ?_)
 rintro x wd ⟨rfl,m,rfl⟩
 have H1:=lh (H0.out.drewN m)
 generalize w.drewN m=w1 at *
 clear C0
 cases b with
 | false =>
  have C1:=lh (fail_I H1.out (by have:=HQ.out;omega))
  go_wp2_with fail
  (with_reducible refine C1.out.mono ?_)
  rintro x w2 ⟨rfl,h2⟩
  have H2:=lh h2
  clear C1 h2
  go_wp2
  simp [bodyPost,results,Tryz.results258,go_sem]
  rw [brk_no H0.out.ne HY.out]
  exact H2.out.mono (Nat.le_refl _) (by omega)
 | true =>
  have C1:=lh (in_I H1.out HR.out (by have:=HQ.out;omega) (by decide) HY.out)
  go_wp2_with fail
  (with_reducible refine C1.out.mono ?_)
  rintro x w2 ⟨b2,rfl,ht,hf⟩
  clear C1
  cases b2 with
  | false =>
   obtain ⟨rfl,h2⟩:=hf rfl
   have C2:=lh (fail_I h2 (by have:=HQ.out;omega))
   clear ht hf h2
   go_wp2_with fail
   (with_reducible refine C2.out.mono ?_)
   rintro x w3 ⟨rfl,h3⟩
   have H3:=lh h3
   clear C2 h3
   go_wp2
   simp [bodyPost,results,Tryz.results258,go_sem]
   rw [brk_deep HY.out]
   exact H3.out.mono (Nat.le_refl _) (by omega)
  | true =>
   obtain ⟨r',rfl,h2⟩:=ht rfl
   obtain ⟨i,h63,c1,cz,h3⟩:=(h2.mono (Nat.le_succ Q) (Nat.le_refl B)).inc (by have:=HQ.out;omega) (by decide) HY.out
   have H3:=lh h3
   clear ht hf h2 h3
   have C2:=lh (expr_I H3.out (by have:=HR.out;omega) (by have:=HQ.out;omega) (by have:=HB.out;omega))
   go_wp2_with fail
   (with_reducible refine C2.out.mono ?_)
   rintro x w4 ⟨rfl,h4⟩
   have C3:=lh (take_I h4 (by have:=HQ.out;omega) ⟨#[93]⟩ (by decide) (by decide))
   clear C2 h4 c1 cz
   go_wp2_with fail
   (with_reducible refine C3.out.mono ?_)
   rintro x w5 ⟨rfl,h5⟩
   obtain ⟨d',hw,l63,u63,c2,cz,h6⟩:=h5.deep (by have:=HR.out;omega)
   have H6:=lh h6
   clear C3 h5 h6
   go_wp2
   simp [bodyPost,results,Tryz.results258,go_sem]
   rw [← brk_yes HY.out]
   exact H6.out
end
end Rf
namespace Rf
open Go.RowKit Par
theorem skip_yes {ks:List Ast}{l:List PT}{s:ByteArray}(hy:nxt (.ok ks l) s=true):∃t l',l=t::l'∧skipP s l=.ok true l':=by
 cases l with
 | nil=>simp [nxt] at hy
 | cons t l =>
  simp only [nxt,decide_eq_true_eq] at hy
  exact ⟨t,l,rfl,by simp only [skipP,if_pos hy]⟩
theorem skip_no {ks:List Ast}{l:List PT}{s:ByteArray}(hl:l≠[])(hy:nxt (.ok ks l) s=false):skipP s l=.ok false l:=by
 cases l with
 | nil=>exact absurd rfl hl
 | cons t l =>
  simp only [nxt,decide_eq_false_iff_not] at hy
  simp only [skipP,if_neg hy]
theorem take_hd {ks:List Ast}{l l':List PT}{s:ByteArray}{t:PT}(hd:hdk (.ok ks l:Res (List Ast))=1→s=hdt (.ok ks l:Res (List Ast)))(h:takeP 1 l=.ok t l'):s=t.txt:=by
 cases l with
 | nil=>simp [takeP] at h
 | cons u l =>
  simp only [takeP] at h
  split at h
  · rename_i hk
    simp only [Res.ok.injEq] at h
    rw [← h.1]
    exact hd hk
  · simp at h
theorem then_pure (R:Res (List Ast))(k:Int)(a:Nat)(t:ByteArray)(n:Int)(ks:List Ast):(then' R fun ks2 l=>Res.ok (ks++[Ast.mk k a t n ks2]) l)=then' (then' R fun ks2 l1=>Res.ok (Ast.mk k a t n ks2) l1) fun x l=>Res.ok (ks++[x]) l:=by
 cases R<;>rfl
theorem eq0y {r:Nat}{a:Nat}{l:List PT}{s:ByteArray}(hd:hdk (Res.ok [] l:Res (List Ast))=1→s=hdt (Res.ok [] l:Res (List Ast)))(hy1:nxt (knd (skp (knd (skp (skp (Res.ok [] l:Res (List Ast)) (takeP 1)) (expectP ⟨#[61]⟩)) (rowP r)) (expectP ⟨#[46]⟩)) (wordP)) ⟨#[102,111,114]⟩=true):then' (skp (skp (skp (knd (skp (knd (skp (skp (Res.ok [] l:Res (List Ast)) (takeP 1)) (expectP ⟨#[61]⟩)) (rowP r)) (expectP ⟨#[46]⟩)) (wordP)) (skipP ⟨#[102,111,114]⟩)) (expectP ⟨#[117,112,100,97,116,101]⟩)) (expectP ⟨#[59]⟩)) (fun ks2 l1=>Res.ok (Ast.mk 7 a s 1 ks2) l1)=readP r a l:=by
 cases h1:takeP 1 l with
 | err q c=>simp only [skp,knd,then',Par.bind,Par.pure,readP,cellP,endP,h1]
 | ok x1 l1 =>
  obtain rfl:=take_hd hd h1
  cases h2:expectP ⟨#[61]⟩ l1 with
  | err q c=>simp only [skp,knd,then',Par.bind,Par.pure,readP,cellP,endP,h1,h2]
  | ok x2 l2 =>
   cases h3:rowP r l2 with
   | err q c=>simp only [skp,knd,then',Par.bind,Par.pure,readP,cellP,endP,h1,h2,h3]
   | ok x3 l3 =>
    cases h4:expectP ⟨#[46]⟩ l3 with
    | err q c=>simp only [skp,knd,then',Par.bind,Par.pure,readP,cellP,endP,h1,h2,h3,h4]
    | ok x4 l4 =>
     cases h5:wordP l4 with
     | err q c=>simp only [skp,knd,then',Par.bind,Par.pure,readP,cellP,endP,h1,h2,h3,h4,h5]
     | ok x5 l5 =>
      simp only [skp,knd,then',Par.bind,Par.pure,h1,h2,h3,h4,h5] at hy1
      obtain ⟨t1,m1,e1,k1⟩:=skip_yes hy1
      cases h6:expectP ⟨#[117,112,100,97,116,101]⟩ m1 with
      | err q c=>simp only [skp,knd,then',Par.bind,Par.pure,readP,cellP,endP,h1,h2,h3,h4,h5,k1,h6]
      | ok x6 l6 =>
       cases h7:expectP ⟨#[59]⟩ l6 with
       | err q c=>simp only [skp,knd,then',Par.bind,Par.pure,readP,cellP,endP,h1,h2,h3,h4,h5,k1,h6,h7]
       | ok x7 l7 =>
        simp only [skp,knd,then',Par.bind,Par.pure,readP,cellP,endP,h1,h2,h3,h4,h5,k1,h6,h7,List.nil_append,List.cons_append]
theorem eq0n {r:Nat}{a:Nat}{l:List PT}{s:ByteArray}(hd:hdk (Res.ok [] l:Res (List Ast))=1→s=hdt (Res.ok [] l:Res (List Ast)))(hy1:nxt (knd (skp (knd (skp (skp (Res.ok [] l:Res (List Ast)) (takeP 1)) (expectP ⟨#[61]⟩)) (rowP r)) (expectP ⟨#[46]⟩)) (wordP)) ⟨#[102,111,114]⟩=false)(hn1:∀ks l1,(knd (skp (knd (skp (skp (Res.ok [] l:Res (List Ast)) (takeP 1)) (expectP ⟨#[61]⟩)) (rowP r)) (expectP ⟨#[46]⟩)) (wordP))=.ok ks l1→l1≠[]):then' (skp (knd (skp (knd (skp (skp (Res.ok [] l:Res (List Ast)) (takeP 1)) (expectP ⟨#[61]⟩)) (rowP r)) (expectP ⟨#[46]⟩)) (wordP)) (expectP ⟨#[59]⟩)) (fun ks2 l1=>Res.ok (Ast.mk 7 a s 0 ks2) l1)=readP r a l:=by
 cases h1:takeP 1 l with
 | err q c=>simp only [skp,knd,then',Par.bind,Par.pure,readP,cellP,endP,h1]
 | ok x1 l1 =>
  obtain rfl:=take_hd hd h1
  cases h2:expectP ⟨#[61]⟩ l1 with
  | err q c=>simp only [skp,knd,then',Par.bind,Par.pure,readP,cellP,endP,h1,h2]
  | ok x2 l2 =>
   cases h3:rowP r l2 with
   | err q c=>simp only [skp,knd,then',Par.bind,Par.pure,readP,cellP,endP,h1,h2,h3]
   | ok x3 l3 =>
    cases h4:expectP ⟨#[46]⟩ l3 with
    | err q c=>simp only [skp,knd,then',Par.bind,Par.pure,readP,cellP,endP,h1,h2,h3,h4]
    | ok x4 l4 =>
     cases h5:wordP l4 with
     | err q c=>simp only [skp,knd,then',Par.bind,Par.pure,readP,cellP,endP,h1,h2,h3,h4,h5]
     | ok x5 l5 =>
      simp only [skp,knd,then',Par.bind,Par.pure,h1,h2,h3,h4,h5] at hy1 hn1
      have k1:=skip_no (hn1 _ _ rfl) hy1
      cases h6:expectP ⟨#[59]⟩ l5 with
      | err q c=>simp only [skp,knd,then',Par.bind,Par.pure,readP,cellP,endP,h1,h2,h3,h4,h5,k1,h6]
      | ok x6 l6 =>
       simp only [skp,knd,then',Par.bind,Par.pure,readP,cellP,endP,h1,h2,h3,h4,h5,k1,h6,List.nil_append,List.cons_append]
theorem eq1 {r:Nat}{a:Nat}{l:List PT}:then' (skp (knd (skp (knd (skp (knd (Res.ok [] l:Res (List Ast)) (rowP r)) (expectP ⟨#[46]⟩)) (wordP)) (expectP ⟨#[61]⟩)) (exprR r)) (expectP ⟨#[59]⟩)) (fun ks2 l1=>Res.ok (Ast.mk 8 a none0 0 ks2) l1)=setP r a l:=by
 cases h1:rowP r l with
 | err q c=>simp only [skp,knd,then',Par.bind,Par.pure,setP,cellP,endP,nodeA,h1]
 | ok x1 l1 =>
  cases h2:expectP ⟨#[46]⟩ l1 with
  | err q c=>simp only [skp,knd,then',Par.bind,Par.pure,setP,cellP,endP,nodeA,h1,h2]
  | ok x2 l2 =>
   cases h3:wordP l2 with
   | err q c=>simp only [skp,knd,then',Par.bind,Par.pure,setP,cellP,endP,nodeA,h1,h2,h3]
   | ok x3 l3 =>
    cases h4:expectP ⟨#[61]⟩ l3 with
    | err q c=>simp only [skp,knd,then',Par.bind,Par.pure,setP,cellP,endP,nodeA,h1,h2,h3,h4]
    | ok x4 l4 =>
     cases h5:exprR r l4 with
     | err q c=>simp only [skp,knd,then',Par.bind,Par.pure,setP,cellP,endP,nodeA,h1,h2,h3,h4,h5]
     | ok x5 l5 =>
      cases h6:expectP ⟨#[59]⟩ l5 with
      | err q c=>simp only [skp,knd,then',Par.bind,Par.pure,setP,cellP,endP,nodeA,h1,h2,h3,h4,h5,h6]
      | ok x6 l6 =>
       simp only [skp,knd,then',Par.bind,Par.pure,setP,cellP,endP,nodeA,h1,h2,h3,h4,h5,h6,List.nil_append,List.cons_append]
theorem eq3 {r:Nat}{a:Nat}{l:List PT}:then' (skp (knd (Res.ok [] l:Res (List Ast)) (rowP r)) (expectP ⟨#[59]⟩)) (fun ks2 l1=>Res.ok (Ast.mk 10 a none0 0 ks2) l1)=deleteP r a l:=by
 cases h1:rowP r l with
 | err q c=>simp only [skp,knd,then',Par.bind,Par.pure,deleteP,endP,nodeA,h1]
 | ok x1 l1 =>
  cases h2:expectP ⟨#[59]⟩ l1 with
  | err q c=>simp only [skp,knd,then',Par.bind,Par.pure,deleteP,endP,nodeA,h1,h2]
  | ok x2 l2 =>
   simp only [skp,knd,then',Par.bind,Par.pure,deleteP,endP,nodeA,h1,h2,List.nil_append,List.cons_append]
theorem eq4 {r:Nat}{a:Nat}{l:List PT}{s:ByteArray}(hd:hdk (Res.ok [] l:Res (List Ast))=1→s=hdt (Res.ok [] l:Res (List Ast))):then' (skp (knd (skp (knd (skp (skp (Res.ok [] l:Res (List Ast)) (takeP 1)) (expectP ⟨#[61]⟩)) (wordP)) (expectP ⟨#[46]⟩)) (wordP)) (expectP ⟨#[59]⟩)) (fun ks2 l1=>Res.ok (Ast.mk 11 a s 0 ks2) l1)=scanP a l:=by
 cases h1:takeP 1 l with
 | err q c=>simp only [skp,knd,then',Par.bind,Par.pure,scanP,endP,h1]
 | ok x1 l1 =>
  obtain rfl:=take_hd hd h1
  cases h2:expectP ⟨#[61]⟩ l1 with
  | err q c=>simp only [skp,knd,then',Par.bind,Par.pure,scanP,endP,h1,h2]
  | ok x2 l2 =>
   cases h3:wordP l2 with
   | err q c=>simp only [skp,knd,then',Par.bind,Par.pure,scanP,endP,h1,h2,h3]
   | ok x3 l3 =>
    cases h4:expectP ⟨#[46]⟩ l3 with
    | err q c=>simp only [skp,knd,then',Par.bind,Par.pure,scanP,endP,h1,h2,h3,h4]
    | ok x4 l4 =>
     cases h5:wordP l4 with
     | err q c=>simp only [skp,knd,then',Par.bind,Par.pure,scanP,endP,h1,h2,h3,h4,h5]
     | ok x5 l5 =>
      cases h6:expectP ⟨#[59]⟩ l5 with
      | err q c=>simp only [skp,knd,then',Par.bind,Par.pure,scanP,endP,h1,h2,h3,h4,h5,h6]
      | ok x6 l6 =>
       simp only [skp,knd,then',Par.bind,Par.pure,scanP,endP,h1,h2,h3,h4,h5,h6,List.nil_append,List.cons_append]
theorem eq5y {r:Nat}{a:Nat}{l:List PT}(hy1:nxt (knd (Res.ok [] l:Res (List Ast)) (wordP)) ⟨#[97,108,108]⟩=true):then' (skp (skp (knd (Res.ok [] l:Res (List Ast)) (wordP)) (skipP ⟨#[97,108,108]⟩)) (expectP ⟨#[59]⟩)) (fun ks2 l1=>Res.ok (Ast.mk 12 a none0 1 ks2) l1)=lockP a l:=by
 cases h1:wordP l with
 | err q c=>simp only [skp,knd,then',Par.bind,Par.pure,lockP,endP,h1]
 | ok x1 l1 =>
  simp only [skp,knd,then',Par.bind,Par.pure,h1] at hy1
  obtain ⟨t1,m1,e1,k1⟩:=skip_yes hy1
  cases h2:expectP ⟨#[59]⟩ m1 with
  | err q c=>simp only [skp,knd,then',Par.bind,Par.pure,lockP,endP,h1,k1,h2]
  | ok x2 l2 =>
   simp only [skp,knd,then',Par.bind,Par.pure,lockP,endP,h1,k1,h2,List.nil_append,List.cons_append]
theorem eq5n {r:Nat}{a:Nat}{l:List PT}(hy1:nxt (knd (Res.ok [] l:Res (List Ast)) (wordP)) ⟨#[97,108,108]⟩=false)(hn1:∀ks l1,(knd (Res.ok [] l:Res (List Ast)) (wordP))=.ok ks l1→l1≠[]):then' (skp (skp (knd (Res.ok [] l:Res (List Ast)) (wordP)) (expectP ⟨#[115,104,97,114,101,100]⟩)) (expectP ⟨#[59]⟩)) (fun ks2 l1=>Res.ok (Ast.mk 12 a none0 0 ks2) l1)=lockP a l:=by
 cases h1:wordP l with
 | err q c=>simp only [skp,knd,then',Par.bind,Par.pure,lockP,endP,h1]
 | ok x1 l1 =>
  simp only [skp,knd,then',Par.bind,Par.pure,h1] at hy1 hn1
  have k1:=skip_no (hn1 _ _ rfl) hy1
  cases h2:expectP ⟨#[115,104,97,114,101,100]⟩ l1 with
  | err q c=>simp only [skp,knd,then',Par.bind,Par.pure,lockP,endP,h1,k1,h2]
  | ok x2 l2 =>
   cases h3:expectP ⟨#[59]⟩ l2 with
   | err q c=>simp only [skp,knd,then',Par.bind,Par.pure,lockP,endP,h1,k1,h2,h3]
   | ok x3 l3 =>
    simp only [skp,knd,then',Par.bind,Par.pure,lockP,endP,h1,k1,h2,h3,List.nil_append,List.cons_append]
theorem eq9 {r:Nat}{a:Nat}{l:List PT}{s:ByteArray}(hd:hdk (Res.ok [] l:Res (List Ast))=1→s=hdt (Res.ok [] l:Res (List Ast))):then' (skp (knd (skp (skp (Res.ok [] l:Res (List Ast)) (takeP 1)) (expectP ⟨#[61]⟩)) (exprR r)) (expectP ⟨#[59]⟩)) (fun ks2 l1=>Res.ok (Ast.mk 16 a s 0 ks2) l1)=letP r a l:=by
 cases h1:takeP 1 l with
 | err q c=>simp only [skp,knd,then',Par.bind,Par.pure,letP,endP,h1]
 | ok x1 l1 =>
  obtain rfl:=take_hd hd h1
  cases h2:expectP ⟨#[61]⟩ l1 with
  | err q c=>simp only [skp,knd,then',Par.bind,Par.pure,letP,endP,h1,h2]
  | ok x2 l2 =>
   cases h3:exprR r l2 with
   | err q c=>simp only [skp,knd,then',Par.bind,Par.pure,letP,endP,h1,h2,h3]
   | ok x3 l3 =>
    cases h4:expectP ⟨#[59]⟩ l3 with
    | err q c=>simp only [skp,knd,then',Par.bind,Par.pure,letP,endP,h1,h2,h3,h4]
    | ok x4 l4 =>
     simp only [skp,knd,then',Par.bind,Par.pure,letP,endP,h1,h2,h3,h4,List.nil_append,List.cons_append]
theorem eq10 {r:Nat}{a:Nat}{l:List PT}:then' (skp (knd (Res.ok [] l:Res (List Ast)) (exprR r)) (expectP ⟨#[59]⟩)) (fun ks2 l1=>Res.ok (Ast.mk 17 a none0 0 ks2) l1)=emitP r a l:=by
 cases h1:exprR r l with
 | err q c=>simp only [skp,knd,then',Par.bind,Par.pure,emitP,endP,nodeA,h1]
 | ok x1 l1 =>
  cases h2:expectP ⟨#[59]⟩ l1 with
  | err q c=>simp only [skp,knd,then',Par.bind,Par.pure,emitP,endP,nodeA,h1,h2]
  | ok x2 l2 =>
   simp only [skp,knd,then',Par.bind,Par.pure,emitP,endP,nodeA,h1,h2,List.nil_append,List.cons_append]
theorem eq11 {r:Nat}{a:Nat}{l:List PT}:then' (skp (Res.ok [] l:Res (List Ast)) (expectP ⟨#[59]⟩)) (fun ks2 l1=>Res.ok (Ast.mk 18 a none0 0 ks2) l1)=rollbackP a l:=by
 cases h1:expectP ⟨#[59]⟩ l with
 | err q c=>simp only [skp,knd,then',Par.bind,Par.pure,rollbackP,endP,nodeA,h1]
 | ok x1 l1 =>
  simp only [skp,knd,then',Par.bind,Par.pure,rollbackP,endP,nodeA,h1,List.nil_append,List.cons_append]
theorem eq12 {r:Nat}{a:Nat}{l:List PT}:then' (skp (Res.ok [] l:Res (List Ast)) (expectP ⟨#[59]⟩)) (fun ks2 l1=>Res.ok (Ast.mk 19 a none0 0 ks2) l1)=chopP a l:=by
 cases h1:expectP ⟨#[59]⟩ l with
 | err q c=>simp only [skp,knd,then',Par.bind,Par.pure,chopP,endP,nodeA,h1]
 | ok x1 l1 =>
  simp only [skp,knd,then',Par.bind,Par.pure,chopP,endP,nodeA,h1,List.nil_append,List.cons_append]
theorem eq7yy {r:Nat}{a:Nat}{l:List PT}(hy1:nxt (knd (Res.ok [] l:Res (List Ast)) (exprR r)) ⟨#[61,61]⟩=true)(hy2:nxt (knd (knd (skp (knd (Res.ok [] l:Res (List Ast)) (exprR r)) (skipP ⟨#[61,61]⟩)) (exprR r)) (blockP r)) ⟨#[101,108,115,101]⟩=true):then' (knd (skp (knd (knd (skp (knd (Res.ok [] l:Res (List Ast)) (exprR r)) (skipP ⟨#[61,61]⟩)) (exprR r)) (blockP r)) (skipP ⟨#[101,108,115,101]⟩)) (blockP r)) (fun ks2 l1=>Res.ok (Ast.mk 14 a none0 1 ks2) l1)=ifP r (blockP r) a l:=by
 cases h1:exprR r l with
 | err q c=>simp only [skp,knd,then',Par.bind,Par.pure,ifP,ifTail,h1]
 | ok x1 l1 =>
  simp only [skp,knd,then',Par.bind,Par.pure,h1] at hy1
  obtain ⟨t1,m1,e1,k1⟩:=skip_yes hy1
  cases h2:exprR r m1 with
  | err q c=>simp only [skp,knd,then',Par.bind,Par.pure,ifP,ifTail,h1,k1,h2]
  | ok x2 l2 =>
   cases h3:blockP r l2 with
   | err q c=>simp only [skp,knd,then',Par.bind,Par.pure,ifP,ifTail,h1,k1,h2,h3]
   | ok x3 l3 =>
    simp only [skp,knd,then',Par.bind,Par.pure,h1,k1,h2,h3] at hy2
    obtain ⟨t2,m2,e2,k2⟩:=skip_yes hy2
    cases h4:blockP r m2 with
    | err q c=>simp only [skp,knd,then',Par.bind,Par.pure,ifP,ifTail,h1,k1,h2,h3,k2,h4]
    | ok x4 l4 =>
     simp only [skp,knd,then',Par.bind,Par.pure,ifP,ifTail,h1,k1,h2,h3,k2,h4,List.nil_append,List.cons_append]
theorem eq7yn {r:Nat}{a:Nat}{l:List PT}(hy1:nxt (knd (Res.ok [] l:Res (List Ast)) (exprR r)) ⟨#[61,61]⟩=true)(hy2:nxt (knd (knd (skp (knd (Res.ok [] l:Res (List Ast)) (exprR r)) (skipP ⟨#[61,61]⟩)) (exprR r)) (blockP r)) ⟨#[101,108,115,101]⟩=false)(hn2:∀ks l1,(knd (knd (skp (knd (Res.ok [] l:Res (List Ast)) (exprR r)) (skipP ⟨#[61,61]⟩)) (exprR r)) (blockP r))=.ok ks l1→l1≠[]):then' (knd (knd (skp (knd (Res.ok [] l:Res (List Ast)) (exprR r)) (skipP ⟨#[61,61]⟩)) (exprR r)) (blockP r)) (fun ks2 l1=>Res.ok (Ast.mk 14 a none0 1 ks2) l1)=ifP r (blockP r) a l:=by
 cases h1:exprR r l with
 | err q c=>simp only [skp,knd,then',Par.bind,Par.pure,ifP,ifTail,h1]
 | ok x1 l1 =>
  simp only [skp,knd,then',Par.bind,Par.pure,h1] at hy1
  obtain ⟨t1,m1,e1,k1⟩:=skip_yes hy1
  cases h2:exprR r m1 with
  | err q c=>simp only [skp,knd,then',Par.bind,Par.pure,ifP,ifTail,h1,k1,h2]
  | ok x2 l2 =>
   cases h3:blockP r l2 with
   | err q c=>simp only [skp,knd,then',Par.bind,Par.pure,ifP,ifTail,h1,k1,h2,h3]
   | ok x3 l3 =>
    simp only [skp,knd,then',Par.bind,Par.pure,h1,k1,h2,h3] at hy2 hn2
    have k2:=skip_no (hn2 _ _ rfl) hy2
    simp only [skp,knd,then',Par.bind,Par.pure,ifP,ifTail,h1,k1,h2,h3,k2,List.nil_append,List.cons_append]
theorem eq7ny {r:Nat}{a:Nat}{l:List PT}(hy1:nxt (knd (Res.ok [] l:Res (List Ast)) (exprR r)) ⟨#[61,61]⟩=false)(hn1:∀ks l1,(knd (Res.ok [] l:Res (List Ast)) (exprR r))=.ok ks l1→l1≠[])(hy2:nxt (knd (knd (skp (knd (Res.ok [] l:Res (List Ast)) (exprR r)) (expectP ⟨#[60]⟩)) (exprR r)) (blockP r)) ⟨#[101,108,115,101]⟩=true):then' (knd (skp (knd (knd (skp (knd (Res.ok [] l:Res (List Ast)) (exprR r)) (expectP ⟨#[60]⟩)) (exprR r)) (blockP r)) (skipP ⟨#[101,108,115,101]⟩)) (blockP r)) (fun ks2 l1=>Res.ok (Ast.mk 14 a none0 0 ks2) l1)=ifP r (blockP r) a l:=by
 cases h1:exprR r l with
 | err q c=>simp only [skp,knd,then',Par.bind,Par.pure,ifP,ifTail,h1]
 | ok x1 l1 =>
  simp only [skp,knd,then',Par.bind,Par.pure,h1] at hy1 hn1
  have k1:=skip_no (hn1 _ _ rfl) hy1
  cases h2:expectP ⟨#[60]⟩ l1 with
  | err q c=>simp only [skp,knd,then',Par.bind,Par.pure,ifP,ifTail,h1,k1,h2]
  | ok x2 l2 =>
   cases h3:exprR r l2 with
   | err q c=>simp only [skp,knd,then',Par.bind,Par.pure,ifP,ifTail,h1,k1,h2,h3]
   | ok x3 l3 =>
    cases h4:blockP r l3 with
    | err q c=>simp only [skp,knd,then',Par.bind,Par.pure,ifP,ifTail,h1,k1,h2,h3,h4]
    | ok x4 l4 =>
     simp only [skp,knd,then',Par.bind,Par.pure,h1,k1,h2,h3,h4] at hy2
     obtain ⟨t2,m2,e2,k2⟩:=skip_yes hy2
     cases h5:blockP r m2 with
     | err q c=>simp only [skp,knd,then',Par.bind,Par.pure,ifP,ifTail,h1,k1,h2,h3,h4,k2,h5]
     | ok x5 l5 =>
      simp only [skp,knd,then',Par.bind,Par.pure,ifP,ifTail,h1,k1,h2,h3,h4,k2,h5,List.nil_append,List.cons_append]
theorem eq7nn {r:Nat}{a:Nat}{l:List PT}(hy1:nxt (knd (Res.ok [] l:Res (List Ast)) (exprR r)) ⟨#[61,61]⟩=false)(hn1:∀ks l1,(knd (Res.ok [] l:Res (List Ast)) (exprR r))=.ok ks l1→l1≠[])(hy2:nxt (knd (knd (skp (knd (Res.ok [] l:Res (List Ast)) (exprR r)) (expectP ⟨#[60]⟩)) (exprR r)) (blockP r)) ⟨#[101,108,115,101]⟩=false)(hn2:∀ks l1,(knd (knd (skp (knd (Res.ok [] l:Res (List Ast)) (exprR r)) (expectP ⟨#[60]⟩)) (exprR r)) (blockP r))=.ok ks l1→l1≠[]):then' (knd (knd (skp (knd (Res.ok [] l:Res (List Ast)) (exprR r)) (expectP ⟨#[60]⟩)) (exprR r)) (blockP r)) (fun ks2 l1=>Res.ok (Ast.mk 14 a none0 0 ks2) l1)=ifP r (blockP r) a l:=by
 cases h1:exprR r l with
 | err q c=>simp only [skp,knd,then',Par.bind,Par.pure,ifP,ifTail,h1]
 | ok x1 l1 =>
  simp only [skp,knd,then',Par.bind,Par.pure,h1] at hy1 hn1
  have k1:=skip_no (hn1 _ _ rfl) hy1
  cases h2:expectP ⟨#[60]⟩ l1 with
  | err q c=>simp only [skp,knd,then',Par.bind,Par.pure,ifP,ifTail,h1,k1,h2]
  | ok x2 l2 =>
   cases h3:exprR r l2 with
   | err q c=>simp only [skp,knd,then',Par.bind,Par.pure,ifP,ifTail,h1,k1,h2,h3]
   | ok x3 l3 =>
    cases h4:blockP r l3 with
    | err q c=>simp only [skp,knd,then',Par.bind,Par.pure,ifP,ifTail,h1,k1,h2,h3,h4]
    | ok x4 l4 =>
     simp only [skp,knd,then',Par.bind,Par.pure,h1,k1,h2,h3,h4] at hy2 hn2
     have k2:=skip_no (hn2 _ _ rfl) hy2
     simp only [skp,knd,then',Par.bind,Par.pure,ifP,ifTail,h1,k1,h2,h3,h4,k2,List.nil_append,List.cons_append]
theorem eq8 {r:Nat}{a:Nat}{l:List PT}{s:ByteArray}(hd:hdk (Res.ok [] l:Res (List Ast))=1→s=hdt (Res.ok [] l:Res (List Ast))):then' (knd (knd (skp (knd (skp (skp (Res.ok [] l:Res (List Ast)) (takeP 1)) (expectP ⟨#[61]⟩)) (numberP)) (expectP ⟨#[116,111]⟩)) (numberP)) (blockP r)) (fun ks2 l1=>Res.ok (Ast.mk 15 a s 0 ks2) l1)=forP (blockP r) a l:=by
 cases h1:takeP 1 l with
 | err q c=>simp only [skp,knd,then',Par.bind,Par.pure,forP,h1]
 | ok x1 l1 =>
  obtain rfl:=take_hd hd h1
  cases h2:expectP ⟨#[61]⟩ l1 with
  | err q c=>simp only [skp,knd,then',Par.bind,Par.pure,forP,h1,h2]
  | ok x2 l2 =>
   cases h3:numberP l2 with
   | err q c=>simp only [skp,knd,then',Par.bind,Par.pure,forP,h1,h2,h3]
   | ok x3 l3 =>
    cases h4:expectP ⟨#[116,111]⟩ l3 with
    | err q c=>simp only [skp,knd,then',Par.bind,Par.pure,forP,h1,h2,h3,h4]
    | ok x4 l4 =>
     cases h5:numberP l4 with
     | err q c=>simp only [skp,knd,then',Par.bind,Par.pure,forP,h1,h2,h3,h4,h5]
     | ok x5 l5 =>
      cases h6:blockP r l5 with
      | err q c=>simp only [skp,knd,then',Par.bind,Par.pure,forP,h1,h2,h3,h4,h5,h6]
      | ok x6 l6 =>
       simp only [skp,knd,then',Par.bind,Par.pure,forP,h1,h2,h3,h4,h5,h6,List.nil_append,List.cons_append]
end Rf
namespace Rf
open Go.RowKit Par
section
variable {p:List Nd}{k:Int}{a:Nat}{t:ByteArray}{n:Int}{Q B:Nat}{R:Res (List Ast)}{md:List Nd}{E:Env}{v:Value}{kvs:List Value}{d:Int}{w w':World}
theorem row_eq {r:Nat}{s:ByteArray}(hd:hdk (then' R fun _=>(Par.pure []:Par (List Ast)))=1→s=hdt (then' R fun _=>(Par.pure []:Par (List Ast)))) :
 (then' R fun ks _=>then' (knd (skp (then' R fun _=>(Par.pure []:Par (List Ast))) (takeP 1)) (brkP r)) fun ks2 l=>Res.ok (ks++[Ast.mk 20 (hda R) s 0 ks2]) l)=knd R (rowP r):=by
 cases R with
 | err q c=>rfl
 | ok ks l =>
  simp only [then',Par.pure] at hd
  cases h1:takeP 1 l with
  | err q c=>simp only [then',knd,skp,Par.bind,Par.pure,rowP,h1]
  | ok t l1 =>
   obtain rfl:=take_hd hd h1
   have ha:hda (Res.ok ks l)=t.at':=by
    cases l with
    | nil=>simp [takeP] at h1
    | cons u l =>
     simp only [takeP] at h1
     split at h1
     · simp only [Res.ok.injEq] at h1;rw [← h1.1];rfl
     · simp at h1
   rw [ha]
   simp only [then',knd,skp,Par.bind,Par.pure,rowP,h1,rowOfP,brkP]
   cases h2:enterP ⟨#[91]⟩ r l1 with
   | err q c=>simp only [h2]
   | ok x2 l2 =>
    simp only [h2]
    cases h3:exprR (r-1) l2 with
    | err q c=>simp only [h3]
    | ok x3 l3 =>
     simp only [h3]
     cases h4:expectP ⟨#[93]⟩ l3 with
     | err q c=>simp only [h4]
     | ok x4 l4=>simp only [h4,List.nil_append]
theorem R_err (q:Nat)(c:Int)(h:R=.err q c){f:Res (List Ast)→Res (List Ast)}(hf:f (.err q c)=.err q c):f (then' R fun _=>(Par.pure []:Par (List Ast)))=.err q c:=by
 subst h
 exact hf
theorem row_I {r:Nat}(h:In E p k a t n (64-(r:Int)) Q B R w)(hr:r≤64)(hQ:Q+2≤B)(hB:B≤870000):Calls Tryz.prog 256 #[.pointer (some ⟨E.b,0,none⟩),.int .i64 (p.length:Int)] w fun x w'=>x=.returned (.tuple #[])∧In E p k a t n (64-(r:Int)) Q (B+2) (knd R (rowP r)) w':=by
 have C1:=lh (kid_I h (by omega) (by omega))
 have HQ:=lh hQ
 have HB:=lh hB
 have HR:=lh hr
 clear h hQ hB hr
 go_enter Tryz.func256,Tryz.ntmps256
 go_wp2_with fail
 (with_reducible refine C1.out.mono ?_)
 rintro x w1 ⟨rfl,v1,kvs1,p2,ho,h1⟩
 have HO:=lh ho
 have C2:=lh (node_I ho h1 (by have:=HQ.out;omega) (by have:=HB.out;omega) 20)
 clear C1 ho h1
 go_wp2_with fail
 (with_reducible refine C2.out.mono ?_)
 rintro x w2 ⟨rfl,h2⟩
 have H2:=lh h2
 clear C2 h2
 obtain ⟨g3,len3,cap3,hn3,hc3⟩:=name_IT H2.out.drew (by have:=HQ.out;omega)
 have c33:=hn3.c3
 have b03:(0:Int)≤(p2.length:Int):=by omega
 have b13:(p2.length:Int)<(len3:Int):=by have:=hn3.lt;omega
 have gb3:=hn3.gb
 have NM3:=lh hc3
 clear hn3 hc3
 go_wp2_with fail
 go_region_held3 (fun w'=>w'.cell? ⟨E.b,3,none⟩=some (.slice (some ⟨g3,0,none⟩) len3 cap3)) (first|exact c33|exact k33|exact (World.cell?_of_block (w:=v3) (a:=⟨E.b,3,none⟩) (Below.heap_setCell _ _ _ _ gb3)).trans k33)
  (first
   | (go_at_call 163;(with_reducible refine NM3.out.mono ?_);rintro x v3 ⟨s3,rfl,hd3,hm3,hi3⟩;have k33:=hm3.c3;have z53:=hm3.fz 2;obtain ⟨t53,k53⟩:=hm3.t0;have H3:=lh hi3;have HD3:=lh hd3;clear hm3 hi3 hd3))
 generalize v3.setCell ⟨g3,p2.length*5+2,none⟩ (.string s3)=w3 at *
 clear c33 k33 z53 k53 NM3
 have C4:=lh (bracket_I H3.out HR.out (by have:=HQ.out;omega) (by have:=HB.out;omega))
 go_wp2_with fail
 (with_reducible refine C4.out.mono ?_)
 rintro x w4 ⟨rfl,h4⟩
 have H4:=lh h4
 clear C4 h4
 have HF:=lh (In.close HO.out H4.out (by have:=HQ.out;omega) (by omega) (fun q c e=>R_err q c e (f:=fun R=>knd (skp R (takeP 1)) (brkP r)) rfl))
 rw [row_eq HD3.out] at HF
 go_wp2
 simp [bodyPost,results,Tryz.results256,go_sem]
 exact HF.out
end
end Rf
namespace Rf
open Go.RowKit Par
def HasB (r:Nat):Prop:=∀(E:Env) (p:List Nd) (k:Int) (a:Nat) (t:ByteArray) (n:Int) (Q B:Nat) (R:Res (List Ast)) (w:World),In E p k a t n (64-(r:Int)) Q B R w→(Q+20*r+10≤B∧Q≤200000)→B≤800000 →
 Calls Tryz.prog 166 #[.pointer (some ⟨E.b,0,none⟩),.int .i64 (p.length:Int)] w fun x w'=>x=.returned (.tuple #[])∧In E p k a t n (64-(r:Int)) Q (B+2) (knd R (blockP r)) w'
def HasS (r:Nat):Prop:=∀(E:Env) (p:List Nd) (k:Int) (a:Nat) (t:ByteArray) (n:Int) (Q B:Nat) (ks:List Ast) (l:List PT) (w:World),In E p k a t n (64-(r:Int)) Q B (.ok ks l) w→(Q+20*r+24≤B∧Q≤200000) →
 Calls Tryz.prog 223 #[.pointer (some ⟨E.b,0,none⟩),.int .i64 (p.length:Int)] w fun x w'=>x=.returned (.tuple #[])∧In E p k a t n (64-(r:Int)) Q B (knd (.ok ks l) (stmtP r (blockP r))) w'
section
variable {p:List Nd}{k:Int}{a:Nat}{t:ByteArray}{n:Int}{Q B:Nat}{R:Res (List Ast)}{md:List Nd}{E:Env}{v:Value}{kvs:List Value}{d:Int}{w w':World}
theorem In.okB {ks:List Ast}{l:List PT}(h:In E p k a t n d Q B (.ok ks l) w)(B':Nat):In E p k a t n d Q B' (.ok ks l) w:=h
theorem In.c4 {ks:List Ast}{l:List PT}(h:In E p k a t n d Q B (.ok ks l) w):w.cell? ⟨E.b,4,none⟩=some (.int .i64 0):=by
 obtain ⟨v,kvs,md,_,i,_,h⟩:=h
 exact h.rowCells.2.2.2.2
theorem In.c4e {q:Nat}{c:Int}(h:In E p k a t n d Q B (.err q c) w):w.cell? ⟨E.b,4,none⟩=some (.int .i64 c)∧c≠0:=by
 obtain ⟨v,kvs,md,_,i,d',_,h1,_,h⟩:=h
 exact ⟨h.rowCells.2.2.2.2,h1⟩
theorem block_more {st:Par Ast}(ht:Takes st){ks:List Ast}{l:List PT}(hl:l≠[])(hy:nxt (.ok ks l) ⟨#[125]⟩=false):then' (.ok ks l) (many (blockStep st))=then' (knd (.ok ks l) st) (many (blockStep st)):=by
 cases l with
 | nil=>exact absurd rfl hl
 | cons t l =>
  simp only [nxt,decide_eq_false_iff_not] at hy
  simp only [then',knd,Par.bind]
  have hs:blockStep st ks (t::l)=match st (t::l) with|.err p c=>.err p c|.ok s l'=>.ok (some (ks++[s])) l':=by
   simp only [blockStep,Par.bind,isNextP,hy,decide_false,Par.pure]
   cases st (t::l)<;>rfl
  cases hf:st (t::l) with
  | err p c=>rw [hf] at hs;exact many_err hs
  | ok b l'=>rw [hf] at hs;exact many_more (step_block ht) hs
theorem block_done {st:Par Ast}{ks:List Ast}{l:List PT}(hy:nxt (.ok ks l) ⟨#[125]⟩=true):then' (.ok ks l) (many (blockStep st))=.ok ks l:=by
 cases l with
 | nil=>simp [nxt] at hy
 | cons t l =>
  simp only [nxt,decide_eq_true_eq] at hy
  simp only [then']
  refine many_done ?_
  simp only [blockStep,Par.bind,isNextP,hy,decide_true,Par.pure]
theorem block_eq {r:Nat}{S:Res (List Ast)}(hy:nxt R ⟨#[123]⟩=true)(hS:S=then' (skp (then' R fun _=>(Par.pure []:Par (List Ast))) (skipP ⟨#[123]⟩)) (many (blockStep (stmtP r (blockP r))))) :
 (then' R fun ks _=>then' (skp S (expectP ⟨#[125]⟩)) fun ks2 l=>Res.ok (ks++[Ast.mk 6 (hda R) none0 0 ks2]) l)=knd R (blockP (r+1)):=by
 subst hS
 cases R with
 | err q c=>rfl
 | ok ks l =>
  cases l with
  | nil=>simp [nxt] at hy
  | cons t l =>
   simp only [nxt,decide_eq_true_eq] at hy
   have hx:many (blockStep (stmtP r (blockP r))) [] l=many (blockStep (stmtP r (blockP r))) [] l:=rfl
   simp only [then',knd,skp,Par.bind,Par.pure,skipP,if_pos hy,hda,blockP,blockOf,enterP]
   rw [if_neg (by omega)]
   cases h1:many (blockStep (stmtP r (blockP r))) [] l with
   | err q c=>simp only [h1]
   | ok x1 l1 =>
    simp only [h1]
    cases h2:expectP ⟨#[125]⟩ l1 with
    | err q c=>simp only [h2]
    | ok x2 l2=>simp only [h2,nodeA]
theorem block_deep (hy:nxt R ⟨#[123]⟩=true):knd R (blockP 0)=.err (hda R) 51:=by
 cases R with
 | err q c=>simp [nxt] at hy
 | ok ks l =>
  cases l with
  | nil=>simp [nxt] at hy
  | cons t l =>
   simp only [nxt,decide_eq_true_eq] at hy
   simp only [knd,then',Par.bind,blockP,blockOf,enterP,if_pos hy,hda,if_true]
theorem blockP_of (r:Nat):∃st,blockP r=blockOf r st:=by
 cases r with
 | zero=>exact ⟨_,rfl⟩
 | succ r=>exact ⟨_,rfl⟩
theorem block_no {r:Nat}(hne:∀ks l,R=.ok ks l→l≠[])(hy:nxt R ⟨#[123]⟩=false):knd R (blockP r)=then' R fun _=>(failP:Par (List Ast)):=by
 cases R with
 | err q c=>rfl
 | ok ks l =>
  cases l with
  | nil=>exact absurd rfl (hne ks [] rfl)
  | cons t l =>
   simp only [nxt,decide_eq_false_iff_not] at hy
   obtain ⟨st,hst⟩:=blockP_of r
   simp only [hst,knd,then',Par.bind,blockOf,enterP,if_neg hy]
   rfl
theorem nxt_open (s:ByteArray):nxt (then' R fun _=>(Par.pure []:Par (List Ast))) s=nxt R s:=by
 cases R with
 | err q c=>rfl
 | ok ks l=>cases l<;>rfl
theorem hda_open:hda (then' R fun _=>(Par.pure []:Par (List Ast)))=hda R:=by
 cases R with
 | err q c=>rfl
 | ok ks l=>cases l<;>rfl
theorem In.shut {p2:List Nd}{k2:Int}{a2:Nat}{t2:ByteArray}{n2:Int}{Q2 B':Nat}{q:Nat}{c:Int}(ho:Opn p k a t n Q B R p2)(h:In E p2 k2 a2 t2 n2 d Q2 B' (.err q c) w)(hQ:Q≤B)(hB:B+1≤B')(hR:∀q' c',R=.err q' c'→q'=q∧c'=c):In E p k a t n d Q B' (.err q c) w:=by
 have h':In E p2 k2 a2 t2 n2 d Q B' (.err q c) w:=h
 have:=In.close ho h' hQ hB (fun q' c' e=>by obtain ⟨rfl,rfl⟩:=hR q' c' e;rfl)
 cases R with
 | err q' c'=>obtain ⟨rfl,rfl⟩:=hR q' c' rfl;exact this
 | ok ks l=>exact this
theorem block_of {r:Nat}(hr:r≤64)(hst:∀r',r=r'+1→HasS r'):HasB r:=by
 intro E p k a t n Q B R w h hQ hB
 have C1:=lh (kid_I h (by omega) (by omega))
 have HQ:=lh hQ
 have HB:=lh hB
 have HR:=lh hr
 have HST:=lh hst
 have HNE:=lh h.ne
 clear h hQ hB hr hst
 go_enter Tryz.func166,Tryz.ntmps166
 go_wp2_with fail
 (with_reducible refine C1.out.mono ?_)
 rintro x w1 ⟨rfl,v1,kvs1,p2,ho,h1⟩
 have HO:=lh ho
 have C2:=lh (node_I ho h1 (by have:=HQ.out;omega) (by have:=HB.out;omega) 6)
 clear C1 ho h1
 go_wp2_with fail
 (with_reducible refine C2.out.mono ?_)
 rintro x w2 ⟨rfl,h2⟩
 have H2:=lh h2
 have C3:=lh (is_I h2 ⟨#[123]⟩ (by decide) (by decide))
 rw [nxt_open] at C3
 obtain ⟨b,hb⟩:∃b,nxt R ⟨#[123]⟩=b:=⟨_,rfl⟩
 rw [hb] at C3
 have HY:=lh hb
 clear C2 h2 hb
 go_wp2_with fail
 (with_reducible refine C3.out.mono ?_)
 rintro x wd ⟨rfl,m,rfl⟩
 have H3:=lh (H2.out.drewN m)
 generalize w2.drewN m=w3 at *
 clear C3
 cases b with
 | false =>
  have C4:=lh (fail_I H3.out (by have:=HQ.out;omega))
  go_wp2_with fail
  (with_reducible refine C4.out.mono ?_)
  rintro x w4 ⟨rfl,h4⟩
  have HF:Hid (In E p k a t n (64-(r:Int)) Q (B+2) (knd R (blockP r)) w4):=lh (by
   rw [block_no HNE.out HY.out]
   cases R with
   | err q c=>exact In.shut HO.out (h4:In E p2 6 _ none0 0 _ (Q+1) (B+1) (.err q c) w4) (by have:=HQ.out;omega) (by omega) (fun q' c' e=>by cases e;exact ⟨rfl,rfl⟩) |>.mono (Nat.le_refl _) (by omega)
   | ok ks l =>
    cases l with
    | nil=>exact absurd rfl (HNE.out ks [] rfl)
    | cons t l=>exact In.shut HO.out (h4:In E p2 6 _ none0 0 _ (Q+1) (B+1) (.err t.at' 50) w4) (by have:=HQ.out;omega) (by omega) (fun q' c' e=>by cases e) |>.mono (Nat.le_refl _) (by omega))
  clear C4 h4
  go_wp2
  simp [bodyPost,results,Tryz.results166,go_sem]
  exact HF.out
 | true =>
  have C4:=lh (in_I H3.out HR.out (by have:=HQ.out;omega) (s:=⟨#[123]⟩) (by decide) (by rw [nxt_open];exact HY.out))
  go_wp2_with fail
  (with_reducible refine C4.out.mono ?_)
  rintro x w4 ⟨b2,rfl,ht,hf⟩
  clear C4
  cases b2 with
  | false =>
   obtain ⟨rfl,h4⟩:=hf rfl
   rw [hda_open] at h4
   have C5:=lh (fail_I h4 (by have:=HQ.out;omega))
   clear ht hf h4
   go_wp2_with fail
   (with_reducible refine C5.out.mono ?_)
   rintro x w5 ⟨rfl,h5⟩
   have HF:Hid (In E p k a t n (64-((0:Nat):Int)) Q (B+2) (knd R (blockP 0)) w5):=lh (by
    rw [block_deep HY.out]
    have hR:∀q' c',R=.err q' c'→q'=hda R∧c'=51:=fun q' c' e=>by have:=HY.out;rw [e] at this;simp [nxt] at this
    exact In.shut HO.out (h5:In E p2 6 _ none0 0 _ (Q+1) (B+1) (.err (hda R) 51) w5) (by have:=HQ.out;omega) (by omega) hR |>.mono (Nat.le_refl _) (by omega))
   clear C5 h5
   go_wp2
   simp [bodyPost,results,Tryz.results166,go_sem]
   exact HF.out
  | true =>
   obtain ⟨r',rfl,h4⟩:=ht rfl
   obtain ⟨i,h63,c1,cz,h5⟩:=h4.inc (s:=⟨#[123]⟩) (by have:=HQ.out;omega) (by decide) (by rw [nxt_open];exact HY.out)
   have H5:=lh h5
   clear ht hf h4 h5
   go_upto_region 5 with fail
   generalize w4.setCell ⟨E.b,1,none⟩ (.int .i64 ((i:Int)+1))=w5 at *
   clear c1 cz
   go_loopg [] (left (skp (then' R fun _=>(Par.pure []:Par (List Ast))) (skipP ⟨#[123]⟩))) (fun g wr=>∃R1:Res (List Ast),Hid (left R1≤g)∧Hid (then' R1 (many (blockStep (stmtP r' (blockP r'))))=then' (skp (then' R fun _=>(Par.pure []:Par (List Ast))) (skipP ⟨#[123]⟩)) (many (blockStep (stmtP r' (blockP r')))))∧Hid (In E p2 6 (hda R) none0 0 (64-(r':Int)) Q (B+1) R1 wr))
   case atStart=>exact ⟨_,lh (Nat.le_refl _),lh rfl,H5⟩
   case round =>
    clear H5
    obtain ⟨R1,HG,HE,HL⟩:=hrel
    cases R1 with
    | err q c =>
     obtain ⟨c4,hc⟩:=HL.out.c4e
     have hb:(c==0)=false:=by simpa using hc
     clear hc
     have C7:=lh (take_I HL.out (by have:=HQ.out;omega) ⟨#[125]⟩ (by decide) (by decide))
     go_wp2_with fail
     (with_reducible refine C7.out.mono ?_)
     rintro x w7 ⟨rfl,h7⟩
     obtain ⟨d',hw,l63,u63,c2,cz,h8⟩:=h7.deep (by have:=HR.out;omega)
     have HF:Hid (In E p k a t n (64-((r'+1:Nat):Int)) Q (B+2) (knd R (blockP (r'+1))) (w7.setCell ⟨E.b,2,none⟩ (.int .i64 (d'-1)))):=lh (by
      have:=In.close HO.out h8 (by have:=HQ.out;omega) (Nat.le_refl _) (fun q c e=>by have:=HY.out;rw [e] at this;simp [nxt] at this)
      rw [block_eq HY.out (show Res.err q c=_ from HE.out)] at this
      exact this.mono (Nat.le_refl _) (by omega))
     clear C7 h7 h8
     go_wp2
     simp [bodyPost,results,Tryz.results166,go_sem]
     exact HF.out
    | ok ks l =>
     have c4:=HL.out.c4
     have C6:=lh (is_I HL.out ⟨#[125]⟩ (by decide) (by decide))
     obtain ⟨b6,hb6⟩:=HL.out.look ⟨#[125]⟩
     rw [hb6] at C6
     have HY6:=lh hb6
     clear hb6
     go_wp2_with fail
     (with_reducible refine C6.out.mono ?_)
     rintro x wd ⟨rfl,m6,rfl⟩
     have HL6:=lh (HL.out.drewN m6)
     clear C6
     cases b6 with
     | true =>
      have C7:=lh (take_I HL6.out (by have:=HQ.out;omega) ⟨#[125]⟩ (by decide) (by decide))
      go_wp2_with fail
      (with_reducible refine C7.out.mono ?_)
      rintro x w7 ⟨rfl,h7⟩
      obtain ⟨d',hw,l63,u63,c2,cz,h8⟩:=h7.deep (by have:=HR.out;omega)
      have HF:Hid (In E p k a t n (64-((r'+1:Nat):Int)) Q (B+2) (knd R (blockP (r'+1))) (w7.setCell ⟨E.b,2,none⟩ (.int .i64 (d'-1)))):=lh (by
       have:=In.close HO.out h8 (by have:=HQ.out;omega) (Nat.le_refl _) (fun q c e=>by have:=HY.out;rw [e] at this;simp [nxt] at this)
       rw [block_eq HY.out ((block_done HY6.out).symm.trans HE.out)] at this
       exact this.mono (Nat.le_refl _) (by omega))
      clear C7 h7 h8
      go_wp2
      simp [bodyPost,results,Tryz.results166,go_sem]
      exact HF.out
     | false =>
      have C7:=lh (HST.out r' rfl _ _ _ _ _ _ _ _ _ _ _ HL6.out (by have:=HQ.out;omega))
      go_wp2_with fail
      (with_reducible refine C7.out.mono ?_)
      rintro x w7 ⟨rfl,h7⟩
      have H7:=lh h7
      clear C7 h7
      have hlt:left (knd (.ok ks l) (stmtP r' (blockP r')))<l.length:=by
       simp only [knd,then',Par.bind]
       cases hs:stmtP r' (blockP r') l with
       | err q c=>have:=HL.out.ne ks l rfl;cases l with|nil=>exact absurd rfl this|cons t l=>simp [left]
       | ok x l'=>exact takes_stmt r' (less_block r') l x l' hs
      have HLT:Hid (left (knd (.ok ks l) (stmtP r' (blockP r')))<gk):=lh (by have:=HG.out;simp only [left] at this;omega)
      have HE7:=lh ((block_more (takes_stmt r' (less_block r')) (HL.out.ne ks l rfl) HY6.out).symm.trans HE.out)
      clear hlt
      go_wp2_with fail
      go_roundg (left (knd (.ok ks l) (stmtP r' (blockP r'))))
      case rel=>exact ⟨_,lh (Nat.le_refl _),HE7,H7⟩
      case measure=>exact HLT.out
end
end Rf
namespace Rf
open Go.RowKit Par
section
variable {p:List Nd}{k:Int}{a:Nat}{t:ByteArray}{n:Int}{Q B:Nat}{R:Res (List Ast)}{md:List Nd}{E:Env}{v:Value}{kvs:List Value}{d:Int}{w w':World}
theorem branch_I {r:Nat}{l:List PT}(hbk:HasB r)(h:In E p 14 a none0 0 (64-(r:Int)) Q B (.ok [] l) w)(hr:r≤64)(hQ:Q+20*r+10≤B∧Q≤200000)(hB:B≤700000):Calls Tryz.prog 259 #[.pointer (some ⟨E.b,0,none⟩),.int .i64 (p.length:Int)] w fun x w'=>x=.returned (.tuple #[])∧∃s' n' R2,In E p 14 a s' n' (64-(r:Int)) Q (B+8) R2 w'∧then' R2 (fun ks2 l1=>Res.ok (Ast.mk 14 a s' n' ks2) l1)=ifP r (blockP r) a l:=by
 have H0:=lh h
 have HBK:=lh hbk
 have HQ:=lh hQ
 have HB:=lh hB
 have HR:=lh hr
 clear h hbk hQ hB hr
 go_enter Tryz.func259,Tryz.ntmps259
 have C1:=lh (expr_I H0.out HR.out (by have:=HQ.out;omega) (by have:=HB.out;omega))
 go_wp2_with fail
 (with_reducible refine C1.out.mono ?_)
 rintro x w1 ⟨rfl,h1⟩
 have H1:=lh h1
 clear C1 h1
 have C2:=lh (is_I H1.out ⟨#[61,61]⟩ (by decide) (by decide))
 obtain ⟨b2,y2⟩:=H1.out.look ⟨#[61,61]⟩
 rw [y2] at C2
 have HY2:=lh y2
 have HN2:=lh H1.out.ne
 clear y2
 go_wp2_with fail
 (with_reducible refine C2.out.mono ?_)
 rintro x wd ⟨rfl,m,rfl⟩
 have H2:=lh (H1.out.drewN m)
 generalize w1.drewN m=w2 at *
 clear C2
 cases b2 with
 | true =>
  obtain ⟨g3,len3,cap3,hn3,_,hs3,_⟩:=H2.out.nod
  have c33:=hn3.c3
  have z33:=hn3.fz 3
  obtain ⟨o3,f3⟩:=hn3.n0
  have b03:(0:Int)≤(p.length:Int):=by omega
  have b13:(p.length:Int)<(len3:Int):=by have:=hn3.lt;omega
  have H3:=lh (hs3 1)
  clear hn3 hs3
  go_upto_region 3 with fail
  generalize w2.setCell ⟨g3,p.length*5+3,none⟩ (.int .i64 1)=w3 at *
  clear c33 z33 f3
  obtain ⟨i4,h634,c14,cz4,h4⟩:=(H3.out.mono (Nat.le_succ _) (Nat.le_refl _)).inc (by have:=HQ.out;omega) (by decide) HY2.out
  have H4:=lh h4
  clear h4
  go_upto_region 5 with fail
  generalize w3.setCell ⟨E.b,1,none⟩ (.int .i64 ((i4:Int)+1))=w4 at *
  clear c14 cz4
  have C5:=lh (expr_I H4.out HR.out (by have:=HQ.out;omega) (by have:=HB.out;omega))
  go_wp2_with fail
  (with_reducible refine C5.out.mono ?_)
  rintro x w5 ⟨rfl,h5⟩
  have H5:=lh h5
  clear C5 h5
  have C6:=lh (HBK.out _ _ _ _ _ _ _ _ _ _ H5.out (by have:=HQ.out;omega) (by have:=HB.out;omega))
  go_wp2_with fail
  (with_reducible refine C6.out.mono ?_)
  rintro x w6 ⟨rfl,h6⟩
  have H6:=lh h6
  clear C6 h6
  have C7:=lh (is_I H6.out ⟨#[101,108,115,101]⟩ (by decide) (by decide))
  obtain ⟨b7,y7⟩:=H6.out.look ⟨#[101,108,115,101]⟩
  rw [y7] at C7
  have HY7:=lh y7
  have HN7:=lh H6.out.ne
  clear y7
  go_wp2_with fail
  (with_reducible refine C7.out.mono ?_)
  rintro x wd ⟨rfl,m,rfl⟩
  have H7:=lh (H6.out.drewN m)
  generalize w6.drewN m=w7 at *
  clear C7
  cases b7 with
  | true =>
   obtain ⟨i8,h638,c18,cz8,h8⟩:=(H7.out.mono (Nat.le_succ _) (Nat.le_refl _)).inc (by have:=HQ.out;omega) (by decide) HY7.out
   have H8:=lh h8
   clear h8
   go_upto_region 9 with fail
   generalize w7.setCell ⟨E.b,1,none⟩ (.int .i64 ((i8:Int)+1))=w8 at *
   clear c18 cz8
   have C9:=lh (HBK.out _ _ _ _ _ _ _ _ _ _ H8.out (by have:=HQ.out;omega) (by have:=HB.out;omega))
   go_wp2_with fail
   (with_reducible refine C9.out.mono ?_)
   rintro x w9 ⟨rfl,h9⟩
   have H9:=lh h9
   clear C9 h9
   have HF:Hid (∃s' n' R2,In E p 14 a s' n' (64-(r:Int)) Q (B+8) R2 w9∧then' R2 (fun ks2 l1=>Res.ok (Ast.mk 14 a s' n' ks2) l1)=ifP r (blockP r) a l):=lh ⟨_,_,_,H9.out.mono (Nat.le_refl _) (by omega),eq7yy HY2.out HY7.out⟩
   go_wp2
   simp [bodyPost,results,Tryz.results259,go_sem]
   exact HF.out
  | false =>
   have HF:Hid (∃s' n' R2,In E p 14 a s' n' (64-(r:Int)) Q (B+8) R2 w7∧then' R2 (fun ks2 l1=>Res.ok (Ast.mk 14 a s' n' ks2) l1)=ifP r (blockP r) a l):=lh ⟨_,_,_,H7.out.mono (Nat.le_refl _) (by omega),eq7yn HY2.out HY7.out HN7.out⟩
   go_wp2
   simp [bodyPost,results,Tryz.results259,go_sem]
   exact HF.out
 | false =>
  have C10:=lh (take_I H2.out (by have:=HQ.out;omega) ⟨#[60]⟩ (by decide) (by decide))
  go_wp2_with fail
  (with_reducible refine C10.out.mono ?_)
  rintro x w10 ⟨rfl,h10⟩
  have H10:=lh h10
  clear C10 h10
  have C11:=lh (expr_I H10.out HR.out (by have:=HQ.out;omega) (by have:=HB.out;omega))
  go_wp2_with fail
  (with_reducible refine C11.out.mono ?_)
  rintro x w11 ⟨rfl,h11⟩
  have H11:=lh h11
  clear C11 h11
  have C12:=lh (HBK.out _ _ _ _ _ _ _ _ _ _ H11.out (by have:=HQ.out;omega) (by have:=HB.out;omega))
  go_wp2_with fail
  (with_reducible refine C12.out.mono ?_)
  rintro x w12 ⟨rfl,h12⟩
  have H12:=lh h12
  clear C12 h12
  have C13:=lh (is_I H12.out ⟨#[101,108,115,101]⟩ (by decide) (by decide))
  obtain ⟨b13,y13⟩:=H12.out.look ⟨#[101,108,115,101]⟩
  rw [y13] at C13
  have HY13:=lh y13
  have HN13:=lh H12.out.ne
  clear y13
  go_wp2_with fail
  (with_reducible refine C13.out.mono ?_)
  rintro x wd ⟨rfl,m,rfl⟩
  have H13:=lh (H12.out.drewN m)
  generalize w12.drewN m=w13 at *
  clear C13
  cases b13 with
  | true =>
   obtain ⟨i14,h6314,c114,cz14,h14⟩:=(H13.out.mono (Nat.le_succ _) (Nat.le_refl _)).inc (by have:=HQ.out;omega) (by decide) HY13.out
   have H14:=lh h14
   clear h14
   go_upto_region 9 with fail
   generalize w13.setCell ⟨E.b,1,none⟩ (.int .i64 ((i14:Int)+1))=w14 at *
   clear c114 cz14
   have C15:=lh (HBK.out _ _ _ _ _ _ _ _ _ _ H14.out (by have:=HQ.out;omega) (by have:=HB.out;omega))
   go_wp2_with fail
   (with_reducible refine C15.out.mono ?_)
   rintro x w15 ⟨rfl,h15⟩
   have H15:=lh h15
   clear C15 h15
   have HF:Hid (∃s' n' R2,In E p 14 a s' n' (64-(r:Int)) Q (B+8) R2 w15∧then' R2 (fun ks2 l1=>Res.ok (Ast.mk 14 a s' n' ks2) l1)=ifP r (blockP r) a l):=lh ⟨_,_,_,H15.out.mono (Nat.le_refl _) (by omega),eq7ny HY2.out HN2.out HY13.out⟩
   go_wp2
   simp [bodyPost,results,Tryz.results259,go_sem]
   exact HF.out
  | false =>
   have HF:Hid (∃s' n' R2,In E p 14 a s' n' (64-(r:Int)) Q (B+8) R2 w13∧then' R2 (fun ks2 l1=>Res.ok (Ast.mk 14 a s' n' ks2) l1)=ifP r (blockP r) a l):=lh ⟨_,_,_,H13.out.mono (Nat.le_refl _) (by omega),eq7nn HY2.out HN2.out HY13.out HN13.out⟩
   go_wp2
   simp [bodyPost,results,Tryz.results259,go_sem]
   exact HF.out
theorem loop_I {r:Nat}{l:List PT}(hbk:HasB r)(h:In E p 15 a none0 0 (64-(r:Int)) Q B (.ok [] l) w)(hr:r≤64)(hQ:Q+20*r+10≤B∧Q≤200000)(hB:B≤700000):Calls Tryz.prog 260 #[.pointer (some ⟨E.b,0,none⟩),.int .i64 (p.length:Int)] w fun x w'=>x=.returned (.tuple #[])∧∃s' n' R2,In E p 15 a s' n' (64-(r:Int)) Q (B+8) R2 w'∧then' R2 (fun ks2 l1=>Res.ok (Ast.mk 15 a s' n' ks2) l1)=forP (blockP r) a l:=by
 have H0:=lh h
 have HBK:=lh hbk
 have HQ:=lh hQ
 have HB:=lh hB
 have HR:=lh hr
 clear h hbk hQ hB hr
 go_enter Tryz.func260,Tryz.ntmps260
 obtain ⟨g1,len1,cap1,hn1,hc1⟩:=name_I H0.out.drew (by have:=HQ.out;omega)
 have c31:=hn1.c3
 have b01:(0:Int)≤(p.length:Int):=by omega
 have b11:(p.length:Int)<(len1:Int):=by have:=hn1.lt;omega
 have gb1:=hn1.gb
 have NM1:=lh hc1
 clear hn1 hc1
 go_wp2_with fail
 go_region_held3 (fun w'=>w'.cell? ⟨E.b,3,none⟩=some (.slice (some ⟨g1,0,none⟩) len1 cap1)) (first|exact c31|exact k31|exact (World.cell?_of_block (w:=v1) (a:=⟨E.b,3,none⟩) (Below.heap_setCell _ _ _ _ gb1)).trans k31)
  (first
   | (go_at_call 163;(with_reducible refine NM1.out.mono ?_);rintro x v1 ⟨s1,rfl,hd1,hm1,hi1⟩;have k31:=hm1.c3;have z51:=hm1.fz 2;obtain ⟨t51,k51⟩:=hm1.t0;have H1:=lh hi1;have HD1:=lh hd1;clear hm1 hi1 hd1))
 generalize v1.setCell ⟨g1,p.length*5+2,none⟩ (.string s1)=w1 at *
 clear c31 k31 z51 k51 NM1
 have C2:=lh (take_I H1.out (by have:=HQ.out;omega) ⟨#[61]⟩ (by decide) (by decide))
 go_wp2_with fail
 (with_reducible refine C2.out.mono ?_)
 rintro x w2 ⟨rfl,h2⟩
 have H2:=lh h2
 clear C2 h2
 have C3:=lh (number_I H2.out (by have:=HQ.out;omega) (by have:=HB.out;omega))
 go_wp2_with fail
 (with_reducible refine C3.out.mono ?_)
 rintro x w3 ⟨rfl,h3⟩
 have H3:=lh h3
 clear C3 h3
 have C4:=lh (take_I H3.out (by have:=HQ.out;omega) ⟨#[116,111]⟩ (by decide) (by decide))
 go_wp2_with fail
 (with_reducible refine C4.out.mono ?_)
 rintro x w4 ⟨rfl,h4⟩
 have H4:=lh h4
 clear C4 h4
 have C5:=lh (number_I H4.out (by have:=HQ.out;omega) (by have:=HB.out;omega))
 go_wp2_with fail
 (with_reducible refine C5.out.mono ?_)
 rintro x w5 ⟨rfl,h5⟩
 have H5:=lh h5
 clear C5 h5
 have C6:=lh (HBK.out _ _ _ _ _ _ _ _ _ _ H5.out (by have:=HQ.out;omega) (by have:=HB.out;omega))
 go_wp2_with fail
 (with_reducible refine C6.out.mono ?_)
 rintro x w6 ⟨rfl,h6⟩
 have H6:=lh h6
 clear C6 h6
 have HF:Hid (∃s' n' R2,In E p 15 a s' n' (64-(r:Int)) Q (B+8) R2 w6∧then' R2 (fun ks2 l1=>Res.ok (Ast.mk 15 a s' n' ks2) l1)=forP (blockP r) a l):=lh ⟨_,_,_,H6.out.mono (Nat.le_refl _) (by omega),eq8 HD1.out⟩
 go_wp2
 simp [bodyPost,results,Tryz.results260,go_sem]
 exact HF.out
end
end Rf
namespace Rf
open Go.RowKit Par
section
variable {p:List Nd}{k:Int}{a:Nat}{t:ByteArray}{n:Int}{Q B:Nat}{R:Res (List Ast)}{md:List Nd}{E:Env}{v:Value}{kvs:List Value}{d:Int}{w w':World}{i:Nat}
theorem idx_get (s dflt:ByteArray)(l:List ByteArray)(h:l.idxOf s<l.length):l.getD (l.idxOf s) dflt=s:=by
 induction l with
 | nil=>simp at h
 | cons a r ih =>
  rw [List.idxOf_cons] at h ⊢
  by_cases ha:a=s
  · subst ha
    rw [show (a==a)=true by rw [bbeq];simp]
    simp
  · have hb:(a==s)=false:=by rw [bbeq];exact decide_eq_false ha
    rw [hb] at h ⊢
    simp only [cond_false] at h ⊢
    simp only [List.getD_cons_succ]
    exact ih (by simpa using h)
theorem word13 {s:ByteArray}{j:Nat}(hj:words13.idxOf s=j)(h:j<13):s=words13.getD j none0:=by
 subst hj
 exact (idx_get s none0 words13 h).symm
theorem word13_ne {j:Nat}(h:j<13):words13.getD j none0≠none0∧97≤head0 (words13.getD j none0)∧head0 (words13.getD j none0)≤122:=by
 rcases (by omega:j=0∨j=1∨j=2∨j=3∨j=4∨j=5∨j=6∨j=7∨j=8∨j=9∨j=10∨j=11∨j=12) with rfl|rfl|rfl|rfl|rfl|rfl|rfl|rfl|rfl|rfl|rfl|rfl|rfl<;>decide
theorem stmt_eq {r j:Nat}{ks:List Ast}{u:PT}{l:List PT}{S:Res (List Ast)}{kk n2:Int}{s:ByteArray}(hj:words13.idxOf u.txt=j)(hlt:j<13)
 (hS:then' S (fun ks2 l1=>Res.ok (Ast.mk kk u.at' s n2 ks2) l1)=restP r (blockP r) j u.at' l) :
 (then' (Res.ok ks (u::l)) fun ks _=>then' S fun ks2 l1=>Res.ok (ks++[Ast.mk kk u.at' s n2 ks2]) l1)=knd (.ok ks (u::l)) (stmtP r (blockP r)):=by
 rw [then_ok,then_pure,hS]
 simp only [knd,then',Par.bind,stmtP,peekP,nextP,hj,if_pos hlt,Par.pure]
 cases restP r (blockP r) j u.at' l<;>rfl
theorem stmt_no {r:Nat}{ks:List Ast}{u:PT}{l:List PT}(h:¬ words13.idxOf u.txt<13):(then' (Res.ok ks (u::l)) fun _=>(failP:Par (List Ast)))=knd (.ok ks (u::l)) (stmtP r (blockP r)):=by
 simp only [knd,then',Par.bind,stmtP,peekP,if_neg h,failP]
theorem inc_ok {ks:List Ast}{u:PT}{l:List PT}(h:In E p k a t n d (Q+1) B (.ok ks (u::l)) w)(hQ:Q+1≤B)(hn:u.txt≠none0):∃(i:Nat),(i:Int)+1≤9223372036854775807∧w.cell? ⟨E.b,1,none⟩=some (.int .i64 (i:Int))∧w.frozen? ⟨E.b,1,none⟩=false∧In E p k a t n d Q B (.ok ks l) (w.setCell ⟨E.b,1,none⟩ (.int .i64 ((i:Int)+1))):=by
 obtain ⟨i,h1,h2,h3,h4⟩:=h.inc hQ hn (show nxt (Res.ok ks (u::l)) u.txt=true from decide_eq_true rfl)
 refine ⟨i,h1,h2,h3,?_⟩
 simpa only [skp,then',Par.bind,skipP,if_true,Par.pure] using h4
theorem In.first {ks:List Ast}{l:List PT}(h:In E p k a t n d Q B (.ok ks l) w):∃v kvs md i,l=RT E i::E.pts.drop (i+1)∧RS E v kvs md i d 0 w∧Sh p k a t n Q B (.ok ks l) md:=by
 obtain ⟨v,kvs,md,hs,hm⟩:=h
 obtain ⟨i,rfl,h1⟩:=hm.ok_of
 exact ⟨v,kvs,md,i,rfl,h1,hs⟩
theorem In.of_first {ks:List Ast}(hs:Sh p k a t n Q B (.ok ks (RT E i::E.pts.drop (i+1))) md)(h:RS E v kvs md i d 0 w)(B':Nat):In E p k a t n d Q B' (.ok ks (RT E i::E.pts.drop (i+1))) w :=
 ⟨v,kvs,md,hs,i,h.drop.symm,h⟩
theorem nxt_ok {s:ByteArray}(hy:nxt R s=true):∃ks l,R=.ok ks l:=by
 cases R with
 | err q c=>simp [nxt] at hy
 | ok ks l=>exact ⟨ks,l,rfl⟩
theorem stmt_none {r:Nat}{ks:List Ast}(hs:Sh p k a t n Q B (.ok ks (RT E i::E.pts.drop (i+1))) md)(h:RS E v kvs md i (64-(r:Int)) 0 w)(hQ:Q≤B)(hj:¬ words13.idxOf (RT E i).txt<13) :
 Calls Tryz.prog 223 #[.pointer (some ⟨E.b,0,none⟩),.int .i64 (p.length:Int)] w fun x w'=>x=.returned (.tuple #[])∧In E p k a t n (64-(r:Int)) Q B (knd (.ok ks (RT E i::E.pts.drop (i+1))) (stmtP r (blockP r))) w':=by
 obtain ⟨c0,c1,_,_,c4⟩:=h.rowCells
 obtain ⟨k0,_,_,_⟩:=h.tokCells
 have b0:(0:Int)≤(i:Int):=by omega
 have b1:(i:Int)<(E.toks.length:Int):=by have:=h.it;omega
 have hcap:=h.cap
 have HH:=lh h
 have HSh:=lh hs
 have HQ:=lh hQ
 have HJ:=lh hj
 have HK0:Hid (kindW (RT E i).txt=0):=lh (by unfold kindW;rw [if_neg hj])
 clear h hs hQ hj
 by_cases ht:(RT E i).kind=1
 · have hb:((RT E i).kind==1)=true:=by simp [ht]
   generalize (RT E i).kind=kd at *
   go_enter Tryz.func223,Tryz.ntmps223
   go_wp2_with fail
   go_quiet (fail)
   have HD:=lh (HH.out.drewN nq)
   have C1:=lh (text_at HD.out)
   generalize w.drewN nq=w1 at *
   clear c0 c1 c4 k0
   go_wp2_with fail
   (with_reducible refine C1.out.mono ?_)
   rintro x wd ⟨rfl,m,rfl⟩
   have H2:=lh (HD.out.drewN m)
   generalize w1.drewN m=w2 at *
   clear C1
   have C2:=lh (kind_at w2 (RT E i).txt)
   rw [HK0.out] at C2
   go_wp2_with fail
   (with_reducible refine C2.out.mono ?_)
   rintro x wd ⟨rfl,rfl⟩
   have H3:=lh (In.of_first HSh.out (H2.out.alloc (.cells C13 9)) B)
   generalize w2.alloc (.cells C13 9)=w3 at *
   clear C2
   have C4:=lh (fail_I H3.out HQ.out)
   go_wp2_with fail
   (with_reducible refine C4.out.mono ?_)
   rintro x w4 ⟨rfl,h4⟩
   rw [stmt_no (r:=r) HJ.out] at h4
   have H4:=lh h4
   clear C4 h4
   go_wp2
   simp [bodyPost,results,Tryz.results223,go_sem]
   exact H4.out
 · have hb:((RT E i).kind==1)=false:=by simp [ht]
   generalize (RT E i).kind=kd at *
   go_enter Tryz.func223,Tryz.ntmps223
   go_wp2_with fail
   go_quiet (fail)
   have H3:=lh (In.of_first HSh.out (HH.out.drewN nq) B)
   generalize w.drewN nq=w3 at *
   clear c0 c1 c4 k0
   have C4:=lh (fail_I H3.out HQ.out)
   go_wp2_with fail
   (with_reducible refine C4.out.mono ?_)
   rintro x w4 ⟨rfl,h4⟩
   rw [stmt_no (r:=r) HJ.out] at h4
   have H4:=lh h4
   clear C4 h4
   go_wp2
   simp [bodyPost,results,Tryz.results223,go_sem]
   exact H4.out
end
end Rf
namespace Rf
open Go.RowKit Par
section
variable {R:Res (List Ast)}
def listStep (F:Par Ast)(ks:List Ast):Par (Option (List Ast)):=Par.bind (skipP ⟨#[44]⟩) fun
 | true=>Par.bind F fun w=>Par.pure (some (ks++[w]))
 | false=>Par.pure none
theorem list_put (r:Nat):putStep r=listStep (exprR r):=by
 funext ks l
 simp only [putStep,listStep,Par.bind]
 cases skipP ⟨#[44]⟩ l with
 | err q c=>rfl
 | ok b l'=>cases b<;>rfl
theorem list_words:wordsStep=listStep wordP:=by
 funext ks l
 simp only [wordsStep,listStep,Par.bind]
 cases skipP ⟨#[44]⟩ l with
 | err q c=>rfl
 | ok b l'=>cases b<;>rfl
theorem adv_list {F:Par Ast}(hF:Less F):Adv (listStep F):=adv_skip (fun _=>Less.bind hF fun _=>Less.pure _) (fun _=>Less.pure _) none_no
theorem list_more {F:Par Ast}(hF:Less F)(hy:nxt R ⟨#[44]⟩=true):then' R (many (listStep F))=then' (knd (skp R (skipP ⟨#[44]⟩)) F) (many (listStep F)):=by
 cases R with
 | err q c=>simp [nxt] at hy
 | ok ks l =>
  cases l with
  | nil=>simp [nxt] at hy
  | cons t l =>
   simp only [nxt,decide_eq_true_eq] at hy
   simp only [then',knd,skp,Par.bind,Par.pure,skipP,if_pos hy]
   have hs:listStep F ks (t::l)=match F l with|.err p c=>.err p c|.ok x l'=>.ok (some (ks++[x])) l':=by
    simp only [listStep,Par.bind,skipP,if_pos hy,Par.pure]
    cases F l<;>rfl
   cases hf:F l with
   | err q c=>rw [hf] at hs;exact many_err hs
   | ok x l'=>rw [hf] at hs;exact many_more (adv_list hF) hs
theorem list_done {F:Par Ast}(hne:∀ks l,R=.ok ks l→l≠[])(hy:nxt R ⟨#[44]⟩=false):then' R (many (listStep F))=R:=by
 cases R with
 | err q c=>rfl
 | ok ks l =>
  simp only [then']
  refine many_done ?_
  simp only [listStep,Par.bind,skip_no (hne ks l rfl) hy,Par.pure]
theorem list_left {F:Par Ast}(hF:Less F)(hy:nxt R ⟨#[44]⟩=true):left (knd (skp R (skipP ⟨#[44]⟩)) F)<left R:=by
 cases R with
 | err q c=>simp [nxt] at hy
 | ok ks l =>
  cases l with
  | nil=>simp [nxt] at hy
  | cons t l =>
   simp only [nxt,decide_eq_true_eq] at hy
   simp only [then',knd,skp,Par.bind,Par.pure,skipP,if_pos hy]
   cases hf:F l with
   | err q c=>simp [left]
   | ok x l'=>have:=hF l x l' hf;simp only [left,List.length_cons];omega
end
section
variable {r a:Nat}{l:List PT}
theorem eq2 {S:Res (List Ast)}(hS:S=then' (knd (skp (knd (Res.ok [] l:Res (List Ast)) (rowP r)) (expectP ⟨#[40]⟩)) (exprR r)) (many (listStep (exprR r)))) :
 then' (skp (skp S (expectP ⟨#[41]⟩)) (expectP ⟨#[59]⟩)) (fun ks2 l1=>Res.ok (Ast.mk 9 a none0 0 ks2) l1)=putP r a l:=by
 subst hS
 rw [← list_put]
 cases h1:rowP r l with
 | err q c=>simp only [skp,knd,then',Par.bind,Par.pure,putP,h1]
 | ok x1 l1 =>
  cases h2:expectP ⟨#[40]⟩ l1 with
  | err q c=>simp only [skp,knd,then',Par.bind,Par.pure,putP,h1,h2]
  | ok x2 l2 =>
   cases h3:exprR r l2 with
   | err q c=>simp only [skp,knd,then',Par.bind,Par.pure,putP,h1,h2,h3]
   | ok x3 l3 =>
    cases h4:many (putStep r) [x1,x3] l3 with
    | err q c=>simp only [skp,knd,then',Par.bind,Par.pure,putP,h1,h2,h3,h4,List.nil_append,List.cons_append]
    | ok x4 l4 =>
     cases h5:expectP ⟨#[41]⟩ l4 with
     | err q c=>simp only [skp,knd,then',Par.bind,Par.pure,putP,h1,h2,h3,h4,h5,List.nil_append,List.cons_append]
     | ok x5 l5 =>
      cases h6:expectP ⟨#[59]⟩ l5 with
      | err q c=>simp only [skp,knd,then',Par.bind,Par.pure,putP,endP,nodeA,h1,h2,h3,h4,h5,h6,List.nil_append,List.cons_append]
      | ok x6 l6=>simp only [skp,knd,then',Par.bind,Par.pure,putP,endP,nodeA,h1,h2,h3,h4,h5,h6,List.nil_append,List.cons_append]
theorem is_yes {ks:List Ast}{s:ByteArray}(hy:nxt (.ok ks l) s=true):isNextP s l=.ok true l:=by
 cases l with
 | nil=>simp [nxt] at hy
 | cons t l=>simp only [nxt] at hy;simp only [isNextP,hy]
theorem is_no {ks:List Ast}{s:ByteArray}(hl:l≠[])(hy:nxt (.ok ks l) s=false):isNextP s l=.ok false l:=by
 cases l with
 | nil=>exact absurd rfl hl
 | cons t l=>simp only [nxt] at hy;simp only [isNextP,hy]
theorem eq6y {s:ByteArray}(hd:hdk (Res.ok [] l:Res (List Ast))=1→s=hdt (Res.ok [] l:Res (List Ast)))(hy:nxt (skp (Res.ok [] l:Res (List Ast)) (takeP 1)) ⟨#[91]⟩=true) :
 then' (skp (then' (Res.ok [] l:Res (List Ast)) fun ks _=>then' (knd (skp (Res.ok [] l:Res (List Ast)) (takeP 1)) (brkP r)) fun ks2 l9=>Res.ok (ks++[Ast.mk 20 (hda (Res.ok [] l:Res (List Ast))) s 0 ks2]) l9) (expectP ⟨#[59]⟩)) (fun ks2 l1=>Res.ok (Ast.mk 13 a none0 0 ks2) l1)=releaseP r a l:=by
 have e:=row_eq (R:=(Res.ok [] l:Res (List Ast))) (r:=r) hd
 simp only [then_ok,Par.pure] at e ⊢
 rw [e]
 cases h1:takeP 1 l with
 | err q c=>simp only [skp,knd,then',Par.bind,Par.pure,releaseP,rowP,h1]
 | ok x1 l1 =>
  simp only [skp,knd,then',Par.bind,Par.pure,h1] at hy
  have k1:=is_yes hy
  cases h2:rowOfP r x1 l1 with
  | err q c=>simp only [skp,knd,then',Par.bind,Par.pure,releaseP,rowP,h1,k1,h2]
  | ok x2 l2 =>
   cases h3:expectP ⟨#[59]⟩ l2 with
   | err q c=>simp only [skp,knd,then',Par.bind,Par.pure,releaseP,rowP,endP,nodeA,h1,k1,h2,h3,List.nil_append]
   | ok x3 l3=>simp only [skp,knd,then',Par.bind,Par.pure,releaseP,rowP,endP,nodeA,h1,k1,h2,h3,List.nil_append]
theorem take_at {k:Int}{u:PT}{l':List PT}(h:takeP k l=.ok u l'):hda (Res.ok [] l:Res (List Ast))=u.at':=by
 cases l with
 | nil=>simp [takeP] at h
 | cons t l =>
  simp only [takeP] at h
  split at h
  · simp only [Res.ok.injEq] at h;rw [← h.1];rfl
  · simp at h
theorem eq6n {s:ByteArray}(hd:hdk (Res.ok [] l:Res (List Ast))=1→s=hdt (Res.ok [] l:Res (List Ast)))(hy:nxt (skp (Res.ok [] l:Res (List Ast)) (takeP 1)) ⟨#[91]⟩=false)(hn:∀ks l1,skp (Res.ok [] l:Res (List Ast)) (takeP 1)=.ok ks l1→l1≠[]) :
 then' (skp (then' (Res.ok [] l:Res (List Ast)) fun ks _=>then' (skp (Res.ok [] l:Res (List Ast)) (takeP 1)) fun ks2 l9=>Res.ok (ks++[Ast.mk 5 (hda (Res.ok [] l:Res (List Ast))) s 0 ks2]) l9) (expectP ⟨#[59]⟩)) (fun ks2 l1=>Res.ok (Ast.mk 13 a none0 0 ks2) l1)=releaseP r a l:=by
 cases h1:takeP 1 l with
 | err q c=>simp only [skp,then',Par.bind,Par.pure,releaseP,h1]
 | ok x1 l1 =>
  obtain rfl:=take_hd hd h1
  rw [take_at h1]
  simp only [skp,then',Par.bind,Par.pure,h1] at hy hn
  have k1:=is_no (hn _ _ rfl) hy
  cases h3:expectP ⟨#[59]⟩ l1 with
  | err q c=>simp only [skp,then',Par.bind,Par.pure,releaseP,endP,nodeA,wordA,h1,k1,h3,List.nil_append]
  | ok x3 l3=>simp only [skp,then',Par.bind,Par.pure,releaseP,endP,nodeA,wordA,h1,k1,h3,List.nil_append]
end
end Rf
end Go.Proofs.YthdioipfdbbmmaaGreatDoor
