/- Contracts. -/
import Derived.Test.YthdioipfdbbmmaaGreatDoorKah
import Derived.Test.YthdioipfdbbmmaaGreatDoorKaw
import Derived.Test.YthdioipfdbbmmaaGreatDoorKax
import Derived.Test.YthdioipfdbbmmaaGreatDoorKbf
import Derived.Test.YthdioipfdbbmmaaGreatDoorKbn
import Derived.Test.YthdioipfdbbmmaaGreatDoorKbp
import Derived.Deep.AppendLies
import Derived.OwnWalk
import Derived.IntWalk
set_option linter.all false
set_option maxRecDepth 1000000
set_option maxHeartbeats 16000000
namespace Go.Proofs.YthdioipfdbbmmaaGreatDoor
namespace Nm
open Go.RowKit Go.Maps Tr
def cxB (B:Bs)(h:Hd)(tv pv cv:Value)(W:World):Cx:={ Wn:=B.Wn,W:=W,nb:=B.nb,nl:=B.nl,nc:=B.nc,kp:=B.kp,kc:=B.kc,S:=B.S,ns:=B.ns,tabs:=h.tabs,ob:=B.ob,oc:=B.oc,rb:=B.rb,tv:=tv,pv:=pv,tm:=B.tm,pm:=B.pm,cv:=cv }
theorem getD_ps {α:Type}{P:α→Prop}{l:List α}{d:α}(h:∀x∈l,P x)(hd:P d)(j:Nat):P (l.getD j d):=by
 by_cases hj:j<l.length
 · have:l.getD j d=l[j]:=by simp [List.getD,hj]
   rw [this]
   exact h _ (List.getElem_mem hj)
 · have:l.getD j d=d:=by simp [List.getD,List.getElem?_eq_none (Nat.le_of_not_lt hj)]
   rw [this]
   exact hd
theorem own_at {w:World}{base:Nat}{e:TypeId}{n:Nat}{v:Value}{xs:List Value}(h:w.ownsRow base e 1 v n xs)(hn:0<n):∃b c,v=.slice (some ⟨b,0,none⟩) n c∧n≤c∧base≤b∧b<w.heap.size∧∀j x,xs[j]?=some x→w.cell? ⟨b,j,none⟩=some x:=by
 have hl:=h.1
 rcases h.2 with ⟨_,rfl⟩|⟨g,cap,cur,rfl,hb,hg,h1,h2,h3,h4⟩
 · simp at hl;omega
 · refine ⟨g,cap,rfl,h1,hb,(Array.getElem?_eq_some_iff.1 hg).1,fun j x hx=>?_⟩
   rw [cell_of_row _ _ _ _ _ _ hg]
   have hj:j<n*1:=by
    have:=(List.getElem?_eq_some_iff.1 hx).1
    omega
   have:=hx
   rw [← h4,List.getElem?_take_of_lt hj] at this
   simpa using this
section
variable {B:Bs}{h:Hd}{prs:List Pr}{tcv:List Value}{mt:List Nat}{pvv:List Value}{tv pv cv:Value}{w w':World}{of:List Int}
theorem Rh.cx (r:Rh B h prs tcv mt pvv tv pv cv (rcells B tv pv cv) w)(ok:BsOk B)(htn:h.tnames=h.tabs.map Tb.name):CxOk (cxB B h tv pv cv w) where
 lown:=ok.lown
 nbl:=ok.nbl
 nslen:=ok.nslen
 nlc:=ok.nlc
 node:=ok.node
 rt:=ok.rt
 orb:=ok.orb
 rbl:=(Array.getElem?_eq_some_iff.1 r.lw.blk).1
 row:=r.lw.blk
 oc:=ok.oc
 otm:=ok.otm
 tml:=r.tmap.lt
 tmap:=by have:=r.tmap;rw [htn] at this;exact this
 tap:=by have:=r.tap;rw [htn] at this;exact this
 cols:=fun t ht=>by
  have ht:t<h.tabs.length:=ht
  obtain ⟨b,c,rfl,hc,hb,hbl,hcell⟩:=own_at r.crow (by omega)
  obtain ⟨h1,_,_,h4⟩:=r.cmaps t ht
  refine ⟨b,c,mt.getD t 0,rfl,hc,hb,hbl,hcell t _ ?_,h1,h4.lt,h4⟩
  have:t<mt.length:=by rw [r.mlen];exact ht
  simp [List.getD,this]
 cap:=getD_ps (P:=fun (l:List ByteArray)=>l.Pairwise (·≠·)) (fun x hx=>by
  obtain ⟨t,ht,rfl⟩:=List.mem_map.1 hx
  exact (r.caps t ht).1) List.Pairwise.nil
 txt:=ok.txt
 few:=ok.few
 tfew:=r.tfew
 cfew:=getD_ps (P:=fun (l:List ByteArray)=>l.length≤16) (fun x hx=>by
  obtain ⟨t,ht,rfl⟩:=List.mem_map.1 hx
  exact (r.caps t ht).2) (by decide)
theorem Rh.lo (r:Rh B h prs tcv mt pvv tv pv cv (rcells B tv pv cv) w):Lo (cxB B h tv pv cv w) h.of w where
 bn:=r.lw.bn
 mid:=fun _ _ _=>rfl
 sz:=Nat.le_refl _
 ol:=by
  obtain ⟨rest,hr⟩:=r.lw.row
  exact (Array.getElem?_eq_some_iff.1 hr).1
 row:=r.lw.row
 len:=r.lw.len
theorem Rh.back (r:Rh B h prs tcv mt pvv tv pv cv (rcells B tv pv cv) w)(ok:BsOk B)(htn:h.tnames=h.tabs.map Tb.name)(l:Lo (cxB B h tv pv cv w) of w'):Rh B { h with of:=of } prs tcv mt pvv tv pv cv (rcells B tv pv cv) w':=by
 have cok:=r.cx ok htn
 refine r.old ok ⟨l.bn.os.trans r.lw.bn.os.symm,l.bn.tape.trans r.lw.bn.tape.symm,l.bn.output.trans r.lw.bn.output.symm,l.sz,fun k hk hb=>l.mid k hb hk⟩ ⟨l.bn,l.row,l.len,l.rowR cok,rfl,rfl⟩
end
end Nm
namespace Tr
set_option maxRecDepth 1000000
open Go.RowKit Go.MapKept
theorem rules_step {ops:Array Oper}(h1:shapeOk ops)(h2:depsOk ops=true){w0 WL:World}{a0:Act}(hloc:∀x,1≤x→x≤5→∃b g cs,a0.tmps.getD x undef=.pointer (some ⟨b,0,none⟩)∧PC WL b 0 (locP x) g cs){Q:Exit→Act→World→Prop}
 (listed:Array Bool) (a:Act) (w:World) (i:Nat) (o:Oper) (hsz:listed.size=ops.size) (hI:RInv w0 WL a0 listed a w) (ho:ops[i]?=some o) (hni:listed.getD i true=false) (hd:∀e∈o.after,Region.binds .any e=true→listed.getD e.on false=true) :
 wpOp Tryz.prog ops Q i (fun a' w'=>RInv w0 WL a0 (listed.setIfInBounds i true) a' w') a w:=by
 obtain ⟨k,hk,ho1,ho2,ho3⟩:=shape_at h1 ho
 have hs125:listed.size=125:=by rw [hsz,shape_size h1]
 have hil:i<125:=by rw [← rt_size];exact (List.getElem?_eq_some_iff.1 hk).1
 obtain ⟨_,d2,d3⟩:=deps_at h2 hil ho hk
 have hgood:=rt_good hk
 have hni':listed.getD i false=false:=by
  have:i<listed.size:=by omega
  simp [Array.getD,this] at hni ⊢
  exact hni
 -- what a step wants is there
 have hreq:∀t s,(t,s)∈k.reqs→SpV w (a.tmps.getD t undef) s:=by
  intro t s hr
  obtain ⟨e,he,hb,hx⟩:=d2 (t,s) hr
  obtain ⟨l,hl,hlo⟩:=Option.bind_eq_some_iff.1 hx
  exact hI.done e.on l hl (hd e he hb) t s hlo
 have hfirst:∀j,k.first=some j→listed.getD j false=true:=by
  intro j hj
  obtain ⟨e,he,hb,hx⟩:=d3 j hj
  rw [← hx]
  exact hd e he hb
 obtain ⟨dst,op,ty,pos,after,guard⟩:=o
 simp only at ho1 ho2 ho3
 subst ho1 ho2 ho3
 unfold wpOp
 rw [ho]
 simp only
 rw [if_pos (show Region.wanted { dst:=k.dst,op:=k.op,type:=ty,pos:=pos,after:=after,guard:=none } (yielded ops a.tmps)=true from rfl)]
 refine Or.inl ?_
 have hput:∀d s,k.out=some (d,s)→∀v w',SpV w' v s→Below w.heap.size w w'→RInv w0 WL a0 (listed.setIfInBounds i true) (a.put (some d) v) w':=fun d s hks v w' hv hb=>hI.put hk hs125 hks hv hb
 cases k with
 | mk =>
  have hi0:=mk_at hk
  subst hi0
  exact wp_mk a w _ Q ty pos after (hI.made hs125 hni')
 | bs d l =>
  simp only [RK.good,Bool.or_eq_true,beq_iff_eq] at hgood
  exact wp_bs a w _ Q d ty pos after l hgood (hput d _ rfl)
 | isc d t l=>exact wp_isc a w _ Q d ty pos after t l (hreq t _ (by simp [RK.reqs])) (hput d _ rfl)
 | part d s p=>exact wp_part a w _ Q d ty pos after s p hgood (fun t ht=>by subst ht;exact hreq t _ (by simp [RK.reqs])) (hput d _ rfl)
 | ld d x p =>
  simp only [RK.good,Bool.and_eq_true,decide_eq_true_eq,beq_iff_eq] at hgood
  obtain ⟨⟨g1,g2⟩,g3⟩:=hgood
  obtain ⟨b,g,cs,q1,q2⟩:=hloc x g1 g2
  rw [← g3] at q2
  exact wp_ld a w _ Q d ty pos after x b p g cs (by rw [hI.locs x g1 g2];exact q1) (q2.on hI.aside) (hput d _ rfl)
 | ps d ts =>
  simp only [RK.good,Bool.or_eq_true,beq_iff_eq] at hgood
  exact wp_ps a w _ Q d ty pos after ts (by omega) (fun x hx=>hreq x.1 _ (by simp only [RK.reqs,List.mem_map];exact ⟨x,hx,rfl⟩)) (hput d _ rfl)
 | nd d s R=>exact wp_nd a w _ Q d ty pos after s R hgood (fun t ht=>by subst ht;exact hreq t _ (by simp [RK.reqs])) (hput d _ rfl)
 | ins q t R =>
  obtain ⟨r,V,e0,e1,e2⟩:=hI.laid hk hs125 hni' (hfirst 0 rfl) (hreq t _ (by simp [RK.reqs]))
  exact wp_ins a w _ Q ty pos after q t r R V e0 e1 e2
 | mv d =>
  have:=hI.move hk hs125 (d:=d) rfl rfl (hfirst 0 rfl)
  exact this
 | asg d t =>
  simp only [RK.good,beq_iff_eq] at hgood
  subst hgood
  have h123:RT[123]?=some (RK.mv 116):=rfl
  obtain ⟨q1,q2⟩:=hI.mvd 123 _ 116 h123 (hfirst 123 rfl) rfl
  have:=hI.move hk hs125 (d:=d) (v:=a.tmps.getD 116 undef) rfl q1 q2
  exact this
theorem rules_region {ops:Array Oper}{id:Nat}(h1:shapeOk ops)(h2:depsOk ops=true)(w0:World)(a:Act)(w:World)(hsz:a.tmps.size=117)(hb:Below w0.heap.size w0 w)
 (hloc:∀x,1≤x→x≤5→∃b g cs,a.tmps.getD x undef=.pointer (some ⟨b,0,none⟩)∧PC w b 0 (locP x) g cs) (Q:Exit→Act→World→Prop)
 (hQ:∀a' w' r,a'.defers=a.defers→a'.tmps.size=117→a'.tmps.getD 0 undef=.map (some r)→w0.heap.size≤r→RulesAt w' r→Below w0.heap.size w0 w'→Q .normal a' w'):(Code.region id ops true).wp Tryz.prog Q a w:=by
 have hs:=shape_size h1
 have hdr:Aside w w.drew:=fun _ _ h=>h
 refine wp_region_any (by kernel_rfl) (wpAny_inv (RInv w0 w.drew a) ?_ (fun listed a' w' i o h3 h4 h5 h6 h7=>rules_step h1 h2 (WL:=w.drew) (fun x x1 x5=>by
  obtain ⟨b,g,cs,q1,q2⟩:=hloc x x1 x5
  exact ⟨b,g,cs,q1,q2.on hdr⟩) listed a' w' i o h3 h4 h5 h6 h7) ?_ _ _ _ _ (by simp) (openN_start _) ?_)
 · intro i o ho e he hbi
   obtain ⟨k,hk,_⟩:=shape_at h1 ho
   have hil:i<125:=by rw [← rt_size];exact (List.getElem?_eq_some_iff.1 hk).1
   exact (deps_at h2 hil ho hk).1 e he
 · intro listed a' w' h3 h4 hI
   have hall:∀i,i<125→listed.getD i false=true:=fun i hi=>h4 i (by omega)
   obtain ⟨r,es,n,m1,m2,m3,m4,m5⟩:=hI.map (hall 0 (by omega))
   have h124:RT[124]?=some (RK.asg 0 116):=rfl
   obtain ⟨q1,_⟩:=hI.mvd 124 _ 0 h124 (hall 124 (by omega)) rfl
   refine hQ a' w' r hI.defers hI.size (by rw [q1];exact m1) m2 ⟨es,n,m3,fun x hx=>?_,fun k k1 k2=>?_⟩ hI.below
   · obtain ⟨i,k,t,R,_,p2,p3,p4⟩:=m4 x hx
     have:=rt_good p2
     simp only [RK.good,beq_iff_eq] at this
     exact ⟨k,R,p3,this,p4⟩
   · obtain ⟨i,t,R,hi⟩:=key_all k k1 k2
     exact m5 i k t R (hall i (by rw [← rt_size];exact (List.getElem?_eq_some_iff.1 hi).1)) hi
 · have hf:∀i,(Array.replicate ops.size false).getD i false=false:=fun i=>by
    by_cases h:i<ops.size
    · simp [Array.getD,h]
    · simp [Array.getD,h]
   exact ⟨hsz,rfl,hb.drew,Aside.refl _,fun _ _ _=>rfl,fun i _ _ h=>by rw [hf] at h;simp at h,fun h=>by rw [hf] at h;simp at h,fun i _ _ _ h=>by rw [hf] at h;simp at h,fun i _ _ _ _ h=>by rw [hf] at h;simp at h⟩
end Tr
namespace Tr
set_option maxRecDepth 1000000
open Go.RowKit Go.MapKept
theorem rules_run (w:World):Calls Tryz.prog 114 #[] w fun e w'=>∃r,e=.returned (.map (some r))∧w.heap.size≤r∧RulesAt w' r∧Below w.heap.size w w':=by
 go_enter Tryz.func114,Tryz.ntmps114
 go_wp2_with fail
 (with_reducible refine (is_at _ _ _ _ [5] ?_ (by omega)).mono ?_)
 · exact bv_new w _ [5] 1 rfl rfl
 rintro e w1 ⟨⟨g1,cs1,rfl,hf1⟩,hb1⟩
 have F1:=lh hf1
 have B1:Hid (Below w.heap.size w w1):=lh ((one_below w _).trans (hb1.mono (by simp)))
 clear hf1 hb1
 go_wp2_with fail
 (with_reducible refine (one_at _ _ _).mono ?_)
 rintro e w2 ⟨rfl,hb2⟩
 have F1:=lh (F1.out.on (Aside.of hb2))
 have B2:=lh (B1.out.trans (hb2.mono B1.out.size))
 clear hb2 B1
 go_wp2_with fail
 (with_reducible refine (is_at _ _ _ _ [20] ?_ (by omega)).mono ?_)
 · exact bv_new w2 _ [20] 1 rfl rfl
 rintro e w3 ⟨⟨g2,cs2,rfl,hf2⟩,hb3⟩
 have hb3':=(one_below w2 (.cells #[.int .u8 20] 5)).trans (hb3.mono (by simp))
 have F1:=lh (F1.out.on (Aside.of hb3'))
 have F2:=lh hf2
 have B3:=lh (B2.out.trans (hb3'.mono B2.out.size))
 clear hf2 hb3 hb3' B2
 go_wp2_with fail
 (with_reducible refine (one_at _ _ _).mono ?_)
 rintro e w4 ⟨rfl,hb4⟩
 have F1:=lh (F1.out.on (Aside.of hb4))
 have F2:=lh (F2.out.on (Aside.of hb4))
 have B4:=lh (B3.out.trans (hb4.mono B3.out.size))
 clear hb4 B3
 go_wp2_with fail
 (with_reducible refine (is_at _ _ _ _ [6] ?_ (by omega)).mono ?_)
 · exact bv_new w4 _ [6] 1 rfl rfl
 rintro e w5 ⟨⟨g3,cs3,rfl,hf3⟩,hb5⟩
 have hb5':=(one_below w4 (.cells #[.int .u8 6] 5)).trans (hb5.mono (by simp))
 have F1:=lh (F1.out.on (Aside.of hb5'))
 have F2:=lh (F2.out.on (Aside.of hb5'))
 have F3:=lh hf3
 have B5:=lh (B4.out.trans (hb5'.mono B4.out.size))
 clear hf3 hb5 hb5' B4
 go_wp2_with fail
 (with_reducible refine (one_at _ _ _).mono ?_)
 rintro e w6 ⟨rfl,hb6⟩
 have F1:=lh (F1.out.on (Aside.of hb6))
 have F2:=lh (F2.out.on (Aside.of hb6))
 have F3:=lh (F3.out.on (Aside.of hb6))
 have B6:=lh (B5.out.trans (hb6.mono B5.out.size))
 clear hb6 B5
 go_wp2_with fail
 (with_reducible refine (one_at _ _ _).mono ?_)
 rintro e w7 ⟨rfl,hb7⟩
 have F1:=lh (F1.out.on (Aside.of hb7))
 have F2:=lh (F2.out.on (Aside.of hb7))
 have F3:=lh (F3.out.on (Aside.of hb7))
 have B7:=lh (B6.out.trans (hb7.mono B6.out.size))
 clear hb7 B6
 go_wp2_with fail
 obtain ⟨W4,hW4⟩:∃W4,W4=((((w7.alloc (.cells #[.func g1 #[] cs1,.int .i64 1,.int .i64 1] 255)).alloc (.cells #[.func g2 #[] cs2,.int .i64 1,.int .i64 1] 255)).alloc (.cells #[.func g3 #[] cs3,.int .i64 1,.int .i64 1] 255)).alloc (.cells #[.func (.func 115) #[] #[],.int .i64 1,.int .i64 1] 255)):=⟨_,rfl⟩
 have hbW:Below w7.heap.size w7 W4:=by
  rw [hW4]
  exact (((one_below w7 _).trans ((one_below _ _).mono (by simp))).trans ((one_below _ _).mono (by simp;try omega))).trans ((one_below _ _).mono (by simp;try omega))
 have hsW:W4.heap.size=w7.heap.size+1+1+1+1:=by rw [hW4];simp
 have P1:Hid (PC W4 w7.heap.size 0 pW g1 cs1):=by
  have hc:∀i v,#[Value.func g1 #[] cs1,.int .i64 1,.int .i64 1][i]?=some v→W4.cell? ⟨w7.heap.size,i,none⟩=some v:=fun i v hv=>by
   rw [hW4,World.cell?_alloc_past _ _ _ (by simp;try omega),World.cell?_alloc_past _ _ _ (by simp;try omega),World.cell?_alloc_past _ _ _ (by simp),World.cell?_alloc_at _ _ _ _ rfl];exact hv
  exact lh ⟨hc 0 _ rfl,hc 1 _ rfl,hc 2 _ rfl,F1.out.on (Aside.of hbW)⟩
 have P2:Hid (PC W4 (w7.heap.size+1) 0 pR g2 cs2):=by
  have hc:∀i v,#[Value.func g2 #[] cs2,.int .i64 1,.int .i64 1][i]?=some v→W4.cell? ⟨w7.heap.size+1,i,none⟩=some v:=fun i v hv=>by
   rw [hW4,World.cell?_alloc_past _ _ _ (by simp;try omega),World.cell?_alloc_past _ _ _ (by simp),World.cell?_alloc_at _ _ _ _ (by simp)];exact hv
  exact lh ⟨hc 0 _ rfl,hc 1 _ rfl,hc 2 _ rfl,F2.out.on (Aside.of hbW)⟩
 have P3:Hid (PC W4 (w7.heap.size+1+1) 0 pB g3 cs3):=by
  have hc:∀i v,#[Value.func g3 #[] cs3,.int .i64 1,.int .i64 1][i]?=some v→W4.cell? ⟨w7.heap.size+1+1,i,none⟩=some v:=fun i v hv=>by
   rw [hW4,World.cell?_alloc_past _ _ _ (by simp),World.cell?_alloc_at _ _ _ _ (by simp)];exact hv
  exact lh ⟨hc 0 _ rfl,hc 1 _ rfl,hc 2 _ rfl,F3.out.on (Aside.of hbW)⟩
 have P4:Hid (PC W4 (w7.heap.size+1+1+1) 0 pE (.func 115) #[]):=by
  have hc:∀i v,#[Value.func (.func 115) #[] #[],.int .i64 1,.int .i64 1][i]?=some v→W4.cell? ⟨w7.heap.size+1+1+1,i,none⟩=some v:=fun i v hv=>by
   rw [hW4,World.cell?_alloc_at _ _ _ _ (by simp)];exact hv
  exact lh ⟨hc 0 _ rfl,hc 1 _ rfl,hc 2 _ rfl,⟨rfl,rfl⟩⟩
 have B8:=lh (B7.out.trans (hbW.mono B7.out.size))
 have HS:=lh hsW
 have I8:=lh (is_at (W4.alloc (.cells #[.int .u8 21] 5)) (some ⟨W4.heap.size,0,none⟩) 1 1 [21] (bv_new W4 _ [21] 1 rfl rfl) (by omega))
 rw [hsW] at I8
 subst hW4
 clear hbW hsW F1 F2 F3 B7
 (with_reducible refine I8.out.mono ?_)
 rintro e w8 ⟨⟨g5,cs5,rfl,hf5⟩,hb8⟩
 have hb8':=(one_below _ (.cells #[.int .u8 21] 5)).trans (hb8.mono (by simp))
 have P1:=lh (P1.out.on (Aside.of hb8'))
 have P2:=lh (P2.out.on (Aside.of hb8'))
 have P3:=lh (P3.out.on (Aside.of hb8'))
 have P4:=lh (P4.out.on (Aside.of hb8'))
 have F5:=lh hf5
 have B9:=lh (B8.out.trans (hb8'.mono B8.out.size))
 clear hf5 hb8 hb8' B8 I8 HS
 go_wp2_with fail
 (with_reducible refine (one_at _ _ _).mono ?_)
 rintro e w9 ⟨rfl,hb9⟩
 have P1:=lh (P1.out.on (Aside.of hb9))
 have P2:=lh (P2.out.on (Aside.of hb9))
 have P3:=lh (P3.out.on (Aside.of hb9))
 have P4:=lh (P4.out.on (Aside.of hb9))
 have F5:=lh (F5.out.on (Aside.of hb9))
 have B10:=lh (B9.out.trans (hb9.mono B9.out.size))
 clear hb9 B9
 go_wp2_with fail
 have hbZ:=one_below w9 (.cells #[.func g5 #[] cs5,.int .i64 1,.int .i64 1] 255)
 refine rules_region ?_ ?_ w _ _ rfl (B10.out.trans (hbZ.mono B10.out.size)) ?_ _ ?_
 · unfold shapeOk;kernel_rfl
 · decide +kernel
 · intro x h1 h5
   have hx:x=1∨x=2∨x=3∨x=4∨x=5:=by omega
   rcases hx with rfl|rfl|rfl|rfl|rfl
   · exact ⟨_,_,_,rfl,P1.out.on (Aside.of hbZ)⟩
   · exact ⟨_,_,_,rfl,P2.out.on (Aside.of hbZ)⟩
   · exact ⟨_,_,_,rfl,P3.out.on (Aside.of hbZ)⟩
   · exact ⟨_,_,_,rfl,P4.out.on (Aside.of hbZ)⟩
   · refine ⟨w9.heap.size,g5,cs5,rfl,?_⟩
     have hc:∀i v,#[Value.func g5 #[] cs5,.int .i64 1,.int .i64 1][i]?=some v→(w9.alloc (.cells #[.func g5 #[] cs5,.int .i64 1,.int .i64 1] 255)).cell? ⟨w9.heap.size,i,none⟩=some v:=fun i v hv=>by
      rw [World.cell?_alloc_at _ _ _ _ rfl];exact hv
     exact ⟨hc 0 _ rfl,hc 1 _ rfl,hc 2 _ rfl,F5.out.on (Aside.of hbZ)⟩
 · intro a' w' r q1 q2 q3 q4 q5 q6
   obtain ⟨tm,df⟩:=a'
   simp only at q1 q2 q3
   subst q1
   rename_i K hK
   refine hK _ _ ?_
   have HQ:=lh (show w.heap.size≤r∧RulesAt w' r∧Below w.heap.size w w' from ⟨q4,q5,q6⟩)
   clear P1 P2 P3 P4 F5 B10 hbZ q4 q5 q6 q2
   simp only [Array.getD_eq_getD_getElem?] at q3
   go_wp2
   simp [bodyPost,results,Tryz.results114,go_sem]
   exact ⟨r,q3,HQ.out⟩
end Tr
namespace Tr
open Go.RowKit Go.MapKept
theorem infoK:(Tryz.prog.info? 5).map (fun i=>(i.zero,i.size,i.bytes))=some (some (.int .u8 0),1,1):=by kernel_rfl
theorem cut_own (B:Nat)(W0:World)(v:Value)(n:Nat)(xs:List Value)(h0:W0.ownsRow B 5 1 v n xs) :
 ∃v',(∀W,(Instr.sliceAt 22 v none (some (.int .i64 0)) none).run Tryz.prog W=.ok v' W)∧(∀(W:World) (n:Nat) (xs:List Value),W.ownsRow B 5 1 v n xs→W.ownsRow B 5 1 v' 0 []):=by
 have hu:Tryz.prog.underlying 22=some (.slice (Tryz.prog.elem 22)):=by kernel_rfl
 have hz:∀W,(sizeOf (Tryz.prog.elem 22)).run Tryz.prog W=.ok 1 W:=fun _=>by kernel_rfl
 have key:∀W p n c,(Instr.sliceAt 22 (.slice p n c) none (some (.int .i64 0)) none).run Tryz.prog W=.ok (sliced p 0 0 c 1) W:=fun W p n c=>by
  rw [run_sliceAt_slice W 22 _ _ _ _ hu,run_slice_h W 22 p n c hu .i64 0 (by omega) (by omega),hz]
  rfl
 have hv:∃p n c,v=.slice p n c:=by
  obtain ⟨_,⟨rfl,_⟩|⟨g,cap,cur,rfl,_⟩⟩:=h0
  · exact ⟨_,_,_,rfl⟩
  · exact ⟨_,_,_,rfl⟩
 obtain ⟨p,n,c,rfl⟩:=hv
 refine ⟨_,fun W=>key W p n c,fun W n' xs' h=>?_⟩
 obtain ⟨_,⟨h1,_⟩|⟨g,cap,cur,h0,h1,h2,h3,h4,h5,h6⟩⟩:=h
 · simp only [Value.slice.injEq] at h1
   obtain ⟨rfl,rfl,rfl⟩:=h1
   exact World.ownsRow_nil _ _ _ _
 · simp only [Value.slice.injEq] at h0
   obtain ⟨rfl,rfl,rfl⟩:=h0
   refine ⟨rfl,Or.inr ⟨g,c,cur,?_,h1,h2,by omega,h4,h5,by simp⟩⟩
   simp [sliced,Addr.add]
theorem own_bv {W:World}{B:Nat}{v:Value}{ks:List Int}(h:W.ownsRow B 5 1 v ks.length (ks.map (Value.int .u8))):∃p c,v=.slice p ks.length c∧BV W p ks.length c ks:=by
 have h0:=h
 obtain ⟨_,⟨rfl,h1⟩|⟨g,cap,cur,rfl,_,_,h3,_⟩⟩:=h
 · exact ⟨none,0,by rw [h1],rfl,by omega,fun hl=>by omega⟩
 · refine ⟨_,_,rfl,rfl,h3,fun _=>⟨g,0,rfl,fun i hi=>?_⟩⟩
   rw [Nat.zero_add,h0.cellAt i (by omega)]
   simp [List.getD,hi]
theorem rule_small {k:Int}{R:Rule}(h:ruleOf k=some R):R.parts.length≤8∧∀x∈R.parts,x.least≤1∧x.most≤9223372036854775807:=by
 unfold ruleOf at h
 rw [Option.map_eq_some_iff] at h
 obtain ⟨x,hx,rfl⟩:=h
 have h2:=List.mem_of_find?_eq_some hx
 have h3:(ruleT.all fun x=>decide (x.2.parts.length≤8)&&x.2.parts.all fun y=>decide (y.least≤1)&&decide (y.most≤9223372036854775807))=true:=by decide +kernel
 rw [List.all_eq_true] at h3
 have:=h3 x h2
 simp only [Bool.and_eq_true,decide_eq_true_eq,List.all_eq_true] at this
 exact this
theorem rule_none {k:Int}(h:¬ (1≤k∧k≤26)):ruleOf k=none:=by
 cases hr:ruleOf k with
 | none=>rfl
 | some R=>exact absurd (rule_range hr) h
theorem RulesAt.on {w w':World}{r:Nat}(h:RulesAt w r)(hr:r<w.heap.size)(hb:Below w.heap.size w w'):RulesAt w' r:=by
 obtain ⟨es,n,h1,h2,h3⟩:=h
 refine ⟨es,n,by rw [hb.block r hr];exact h1,fun x hx=>?_,h3⟩
 obtain ⟨k,R,q1,q2,q3⟩:=h2 x hx
 exact ⟨k,R,q1,q2,q3.on (Aside.of hb)⟩
theorem RulesAt.lt {w:World}{r:Nat}(h:RulesAt w r):r<w.heap.size:=by
 obtain ⟨es,n,h1,_⟩:=h
 by_cases hr:r<w.heap.size
 · exact hr
 · rw [Array.getElem?_eq_none (by omega)] at h1;simp at h1
theorem RulesAt.ask {w:World}{r:Nat}(h:RulesAt w r)(k:Int) :
 (ruleOf k=none∧(Instr.lookup 187 (.map (some r)) (.int .u8 k) true).run Tryz.prog w=.ok (.tuple #[.nilFunc,.bool false]) w) ∨
 ∃R tb mb kb,ruleOf k=some R∧(Instr.lookup 187 (.map (some r)) (.int .u8 k) true).run Tryz.prog w=.ok (.tuple #[closV tb mb kb,.bool true]) w∧NV w tb mb kb R:=by
 obtain ⟨es,n,h1,h2,h3⟩:=h
 have hks:∀x∈es.toList,IsKey (.int .u8) x.key:=fun x hx=>by
  obtain ⟨k,R,q1,_⟩:=h2 x hx
  rw [q1];simp [IsKey]
 by_cases hk:1≤k∧k≤26
 · obtain ⟨e,he,hek,hrun⟩:=known_yes w r n es k h1 hks (h3 k hk.1 hk.2)
   obtain ⟨k',R,q1,q2,tb,mb,kb,q3,q4⟩:=h2 e he
   rw [hek] at q1
   simp only [Value.int.injEq,true_and] at q1
   subst q1
   rw [q3] at hrun
   exact Or.inr ⟨R,tb,mb,kb,q2,hrun,q4⟩
 · refine Or.inl ⟨rule_none hk,known_no w r n es k h1 hks fun x hx hxk=>?_⟩
   obtain ⟨k',R,q1,q2,_⟩:=h2 x hx
   rw [hxk] at q1
   simp only [Value.int.injEq,true_and] at q1
   subst q1
   exact hk (rule_range q2)
theorem u8_one (k:Int):∀u∈([.int .u8 k]:List Value),u.oneCell'=true:=by
 intro u hu
 simp only [List.mem_singleton] at hu
 rw [hu];rfl
theorem ruled_at (w:World)(p:Option Addr)(len c:Nat)(ns:List Nd)(h:TV w p len c ns)(hl:len≤70000)(hk:∀nd∈ns,nd.kids.length≤70000∧nd.text.size≤70000∧∀k∈nd.kids,0≤k∧k<len) :
 Calls Tryz.prog 69 #[.agg #[.slice p len c]] w fun e w'=>e=.returned (.bool (ruledP ns))∧Below w.heap.size w w':=by
 have H:=lh h
 have HK:=lh hk
 have hlen:=lh h.len_eq
 obtain ⟨i0,hi,hz0,hz1,hz2⟩:=info_parts infoK
 have I0:=lh hi
 have I1:=lh hz0
 have I2:=lh hz1
 have I3:=lh hz2
 clear h hk hi hz0 hz1 hz2
 have B0:=lh (one_below w (.cells #[.slice p len c] 39))
 have HR:=lh (rules_run (w.alloc (.cells #[.slice p len c] 39)))
 go_enter Tryz.func69,Tryz.ntmps69
 go_wp2_with fail
 (with_reducible refine HR.out.mono ?_)
 rintro e w1 ⟨r,rfl,hr0,hR,hb1⟩
 have RU:=lh hR
 have B1:=lh (B0.out.trans (hb1.mono (by simp)))
 have c1:w1.cell? ⟨w.heap.size,0,none⟩=some (.slice p len c):=by rw [hb1.cell (by simp)];simp
 have C1:=lh c1
 have hsz:Hid (w.heap.size<w1.heap.size):=lh (World.block_lt_of_cell? w1 _ c1)
 clear hR hb1 HR hr0
 go_wp2_with fail
 go_loopw [4,15] (fun kv iv wr=>∃(i n:Nat) (xs:List Value),i≤len∧iv=.int .i64 i∧Hid (wr.ownsRow w1.heap.size 5 1 kv n xs)∧Hid ((ns.take i).all (nodeOk ns)=true)∧Hid (Below w1.heap.size w1 wr)) (fun _ iv _=>len-(intOf iv).toNat)
 case atStart=>exact ⟨0,0,[],by omega,rfl,lh (World.ownsRow_nil _ _ _ _),lh rfl,lh (Below.refl _ _)⟩
 case round =>
  obtain ⟨i,n,xs,hil,rfl,HO,HA,HB⟩:=hrel
  clear c1
  by_cases hlt:i<len
  · have HBW:=lh (B1.out.trans (HB.out.mono (by have:=hsz.out;omega)))
    obtain ⟨b,off,rfl,hbl,hc⟩:=H.out.node (by omega)
    obtain ⟨kp,kl,kc,hnw⟩:=hc i hlt
    have hn:=hnw.on hbl HBW.out
    have k0:=hn.kind
    have k1:=hn.at'
    have k2:=hn.text
    have k3:=hn.n
    have k4:=hn.kids
    have HIV:=lh hnw.iv
    have hkl:=hn.iv.len_eq
    have HC:=lh hc
    have hix:i<ns.length:=by have:=hlen.out;omega
    have HT:=lh (all_take (nodeOk ns) ns i hix)
    have HN:=lh (all_no (nodeOk ns) ns i hix)
    have hkb:=HK.out (ns.getD i default) (by simp [List.getD,hix])
    generalize ns.getD i default=nd at *
    have HKB:=lh hkb
    have HKL:=lh hkl
    have hkl2:kl≤70000:=by omega
    obtain ⟨kv',hcut,hcow⟩:=cut_own w1.heap.size wr u4 n xs HO.out
    have HKV:Hid (∀k,kv'.ownBlock=some k→k<wr.heap.size):=lh (fun k hk=>((hcow wr n xs HO.out).lt k hk).2)
    have HCO:=lh (hcow _ n xs (HO.out.alloc (.cells #[.int .u8 nd.kind,.int .i64 nd.at',.string nd.text,.int .i64 nd.n,.slice kp kl kc] 54)))
    have BN:=lh (one_below wr (.cells #[.int .u8 nd.kind,.int .i64 nd.at',.string nd.text,.int .i64 nd.n,.slice kp kl kc] 54))
    have HB2:=lh (HB.out.trans (BN.out.mono HB.out.size))
    clear hn hnw hc hkb hkl hcow HO hix
    have HWS:Hid (w1.heap.size≤wr.heap.size):=lh HB.out.size
    have hkn:(kindsOf ns nd).length=kl:=by rw [kindsOf,List.length_map];exact HKL.out
    have HKN:=lh hkn
    clear hkn
    go_wp2_with fail
    obtain ⟨wo,rfl⟩:∃wo:World,wo=wr:=⟨_,rfl⟩
    go_loopw [4,24] (fun kv jv wq=>∃j:Nat,j≤kl∧jv=.int .i64 j∧Hid (wq.ownsRow w1.heap.size 5 1 kv j (((kindsOf ns nd).take j).map (Value.int .u8)))∧Hid (Below w1.heap.size w1 wq)∧Hid (wo.heap.size<wq.heap.size∧wq.heap[wo.heap.size]?=(wo.alloc (.cells #[.int .u8 nd.kind,.int .i64 nd.at',.string nd.text,.int .i64 nd.n,.slice kp kl kc] 54)).heap[wo.heap.size]?)∧Hid (kv.ownBlock≠some wo.heap.size)) (fun _ jv _=>kl-(intOf jv).toNat)
    case atStart=>exact ⟨0,by omega,rfl,HCO,HB2,lh ⟨by simp,rfl⟩,lh (fun e=>by have:=HKV.out _ e;omega)⟩
    case round =>
     obtain ⟨wq,rfl⟩:∃wq:World,wq=wr:=⟨_,rfl⟩
     clear hcut k0 k1 k2 k3 k4
     obtain ⟨j,hj,rfl,HO,HQ,HBX,HNE⟩:=hrel
     have hbox:∀f v,#[Value.int .u8 nd.kind,.int .i64 nd.at',.string nd.text,.int .i64 nd.n,.slice kp kl kc][f]?=some v→wq.cell? ⟨wo.heap.size,f,none⟩=some v:=fun f v hv=>by
      rw [World.cell?_of_block (w:=wo.alloc (.cells #[.int .u8 nd.kind,.int .i64 nd.at',.string nd.text,.int .i64 nd.n,.slice kp kl kc] 54)) HBX.out.2,World.cell?_alloc_at _ _ _ _ rfl];exact hv
     have x0:=hbox 0 _ rfl
     have x1:=hbox 1 _ rfl
     have x2:=hbox 2 _ rfl
     have x3:=hbox 3 _ rfl
     have x4:=hbox 4 _ rfl
     have c1:wq.cell? ⟨w.heap.size,0,none⟩=some (.slice (some ⟨b,off,none⟩) len c):=by rw [HQ.out.cell hsz.out];exact C1.out
     have HWQ:=lh (B1.out.trans (HQ.out.mono (by have:=hsz.out;omega)))
     by_cases hjl:j<kl
     · obtain ⟨kb,koff,rfl,hkbl,hkc⟩:=HIV.out.cell (by omega)
       have hkj:=hkc j hjl
       rw [← HWQ.out.cell (p:=⟨kb,koff+j,none⟩) hkbl] at hkj
       have hjx:j<nd.kids.length:=by have:=HKL.out;omega
       have hmem:nd.kids.getD j 0∈nd.kids:=by simp [List.getD,hjx]
       obtain ⟨hq0,hq1⟩:=HKB.out.2.2 _ hmem
       have HKT:Hid ((kindsOf ns nd).take (j+1)=(kindsOf ns nd).take j++[kindAt ns (nd.kids.getD j 0).toNat]):=lh (by
        rw [List.take_succ_eq_append_getElem (by rw [HKN.out];exact hjl)]
        simp [kindsOf,List.getD,hjx])
       generalize nd.kids.getD j 0=kid at *
       obtain ⟨q,rfl⟩:∃q:Nat,kid=(q:Int):=⟨kid.toNat,(Int.toNat_of_nonneg hq0).symm⟩
       have hql:q<len:=by omega
       obtain ⟨kp2,kl2,kc2,hn2⟩:=HC.out q hql
       have hk2:=(hn2.on hbl HWQ.out).kind
       have HKT2:Hid ((kindsOf ns nd).take (j+1)=(kindsOf ns nd).take j++[(ns.getD q default).kind]):=lh (by rw [HKT.out,Int.toNat_natCast];rfl)
       generalize (ns.getD q default).kind=kq at *
       clear hkc hkbl hjx hmem hn2 hbox
       have ho:=HO.out
       have hHQs:=HQ.out.size
       go_wp2_with (at_builtin;refine wpList_append_lies _ rfl (.tmp 28) (.tmp 35) 22 rfl w1.heap.size 5 i0 _ 1 1 Tryz.underlying22 I0.out I1.out I2.out I3.out rfl (by decide) u4 j (((kindsOf ns nd).take j).map (Value.int .u8)) rfl (ho.alloc _) ⟨wq.heap.size,0,none⟩ 1 1 [.int .u8 kq] rfl rfl (World.news_of_block (cs:=#[.int .u8 kq]) (t:=5) (fr:=(0,0)) (heap_alloc_new _ _)) (u8_one _) (by decide) (by unfold maxLen;omega) (by omega) (by simp;omega) _ rfl ?_)
       intro g cap w5 hown5 hgrow5 hlie _
       have HO5:Hid (w5.ownsRow w1.heap.size 5 1 (.slice (some ⟨g,0,none⟩) (j+1) cap) (j+1) (((kindsOf ns nd).take (j+1)).map (Value.int .u8))):=lh (by rw [HKT2.out,List.map_append,List.map_take];exact hown5)
       have HB5:Hid (Below w1.heap.size w1 w5):=lh ((HQ.out.alloc (by omega) (.cells #[.int .u8 kq] 5)).grown hgrow5 (by simp;omega) (fun k hk=>(ho.lt k hk).1))
       have HX5:Hid (wo.heap.size<w5.heap.size∧w5.heap[wo.heap.size]?=(wo.alloc (.cells #[.int .u8 nd.kind,.int .i64 nd.at',.string nd.text,.int .i64 nd.n,.slice (some ⟨kb,koff,none⟩) kl kc] 54)).heap[wo.heap.size]?):=lh (by
        have h1:=HBX.out
        refine ⟨?_,?_⟩
        · have:=hgrow5.size;simp at this;omega
        · rw [hgrow5.block _ (by simp;omega) (fun e=>HNE.out e.symm),Below.heap_alloc _ _ _ h1.1];exact h1.2)
       have HN5:Hid ((Value.slice (some ⟨g,0,none⟩) (j+1) cap).ownBlock≠some wo.heap.size):=lh (by
        intro e
        simp only [Value.ownBlock,Option.some.injEq] at e
        rcases hlie with h|h
        · exact HNE.out (by rw [h,e])
        · have:=HBX.out.1
          (try simp at h)
          omega)
       clear hown5 hgrow5 hlie ho
       go_wp2_with fail
       go_roundw
       case rel=>exact ⟨j+1,by omega,by go_num,HO5,HB5,HX5,HN5⟩
       case measure=>simp [intOf];omega
     · have hje:j=kl:=by omega
       have HO2:Hid (wq.ownsRow w1.heap.size 5 1 u4 (kindsOf ns nd).length ((kindsOf ns nd).map (Value.int .u8))):=lh (by
        have:=HO.out
        rw [hje,← HKN.out,List.take_length] at this
        exact this)
       obtain ⟨pv,cv,rfl,hbv⟩:=own_bv HO2.out
       have HBV:=lh hbv
       have RU2:=RU.out.on RU.out.lt HQ.out
       clear hje hbox hbv
       rcases RU2.ask nd.kind with ⟨hno,hask⟩|⟨R,tb,mb,kb,hyes,hask,hnv⟩
       · have HF:Hid (nodeOk ns nd=false):=lh (by unfold nodeOk;rw [hno])
         clear hno RU2
         go_wp2
         go_ret
         exact ⟨retB (by rw [ruledP,HN.out HF.out]),HWQ.out⟩
       · have HF:Hid (nodeOk ns nd=fitsRule R nd (kindsOf ns nd)):=lh (by unfold nodeOk;rw [hyes])
         have HRC:=lh (rule_at wq tb mb kb R nd (.slice kp kl kc) pv (kindsOf ns nd).length cv (kindsOf ns nd) hnv HBV.out (by rw [HKN.out];omega) HKB.out.2.1 (rule_small hyes) kp kl kc rfl)
         clear hyes RU2 hnv
         unfold closV at hask
         go_wp2_with fail
         (with_reducible refine HRC.out.mono ?_)
         rintro e w6 ⟨rfl,hb6⟩
         have HB6:=lh (HQ.out.trans (hb6.mono HQ.out.size))
         have HO6:=lh (HO2.out.kept (row:=none) ⟨hb6.os,hb6.tape,hb6.output,hb6.size,fun k hk _=>hb6.block k hk⟩ (by
          cases hv:(Value.slice pv (kindsOf ns nd).length cv).ownBlock with
          | none=>exact Or.inl rfl
          | some k=>exact Or.inr (by simp)))
         have HW6:=lh (HWQ.out.trans (hb6.mono HWQ.out.size))
         clear hb6 HRC hask
         cases hfr:fitsRule R nd (kindsOf ns nd) with
         | true =>
          have HFR:=lh (HF.out.trans hfr)
          clear hfr
          go_wp2_with fail
          go_roundw
          case rel=>exact ⟨i+1,_,_,by omega,by go_num,HO6,lh (by rw [HT.out,HA.out,HFR.out];rfl),HB6⟩
          case measure=>simp [intOf];omega
         | false =>
          have HFR:=lh (HF.out.trans hfr)
          clear hfr
          go_wp2
          go_ret
          exact ⟨retB (by rw [ruledP,HN.out HFR.out]),HW6.out⟩
  · have e:i=ns.length:=by have:=hlen.out;omega
    have HE:=lh e
    clear e
    go_wp2
    go_ret
    refine ⟨retB ?_,B1.out.trans (HB.out.mono (by have:=hsz.out;omega))⟩
    have:=HA.out
    rw [HE.out,List.take_length] at this
    exact this.symm
end Tr
namespace Tr
open Go.RowKit
theorem infoI:(Tryz.prog.info? 3).map (fun i=>(i.zero,i.size,i.bytes))=some (some (.int .i64 0),1,8):=by kernel_rfl
theorem make_int (W:World)(n:Nat)(hn:n≤70000):∃W',(Instr.makeSlice 32 (.int .i64 (n:Int)) (.int .i64 (n:Int))).run Tryz.prog W=.ok (.slice (some ⟨W.heap.size,0,none⟩) n n) W'∧Below W.heap.size W W'∧W'.ownsRow W.heap.size 3 1 (.slice (some ⟨W.heap.size,0,none⟩) n n) n (List.replicate n (.int .i64 0)):=by
 obtain ⟨i0,hi,hz0,hz1,hz2⟩:=info_parts infoI
 obtain ⟨W',h1,h2,h3⟩:=run_makeSlice_full (P:=Tryz.prog) W W.heap.size 32 3 i0 (.int .i64 0) 1 Tryz.underlying32 hi hz0 hz1 .i64 .i64 n (by omega) (by rw [hz2];omega) (by unfold maxLen;omega) (Nat.le_refl _)
 refine ⟨W',h1,⟨h3.os,h3.tape,h3.output,h3.size,fun k hk=>h3.block k hk (by simp)⟩,?_⟩
 have e:(madeCells (Value.int .i64 0).cells (n*1)).toList=List.replicate n (.int .i64 0):=by
  rw [Nat.mul_one]
  exact toList_madeCells_one _ _
 rw [e] at h2
 exact h2
theorem stepS_le (s:List Nat)(b n:Nat)(_hn:b+s.length≤n)(hs:∀x,x<s.length→b+x+s.getD x 0≤n)(ks:List Int)(a e:Nat)(hba:b≤a)(ha:a≤n)(h:stepS s b ks a=some e):a≤e∧e≤n:=by
 induction ks generalizing a with
 | nil=>simp [stepS] at h;omega
 | cons k ks ih =>
  simp only [stepS] at h
  split at h
  · rename_i hk
    have h1:=hs (a-b) (by omega)
    have:=ih (a+s.getD (a-b) 0) (by omega) (by omega) h
    omega
  · simp at h
theorem sizesL_le:∀(rows:List (List Int)) (b:Nat) (s:List Nat),sizesL rows b=some s→∀x,x<s.length→b+x+s.getD x 0≤b+rows.length:=by
 intro rows
 induction rows with
 | nil=>intro b s h x hx;simp [sizesL] at h;subst h;simp at hx
 | cons r rs ih =>
  intro b s h x hx
  simp only [sizesL] at h
  split at h
  · simp at h
  · rename_i s1 h1
    have hl:=sizesL_len _ _ _ h1
    have h2:=ih _ _ h1
    split at h
    · simp at h
    · rename_i e h3
      simp at h;subst h
      cases x with
      | zero =>
       have:=stepS_le s1 (b+1) (b+1+rs.length) (by omega) h2 r (b+1) e (Nat.le_refl _) (by omega) h3
       simp;omega
      | succ x =>
       have:=h2 x (by simpa using hx)
       simp only [List.getD_cons_succ,List.length_cons]
       omega
theorem sizesL_none:∀(rows:List (List Int)) (b m:Nat),sizesL (rows.drop m) (b+m)=none→m≤rows.length→sizesL rows b=none:=by
 intro rows b m
 induction m generalizing rows b with
 | zero=>intro h _;simpa using h
 | succ m ih =>
  intro h hm
  cases rows with
  | nil=>simp at hm
  | cons r rs =>
   simp only [List.drop_succ_cons] at h
   have:=ih rs (b+1) (by rw [show b+1+m=b+(m+1) by omega];exact h) (by simpa using hm)
   simp only [sizesL,this]
def SizesOut (ns:List Nd)(W:World)(v:Value):Prop:=match sizesP ns with
 | none=>v=.slice none 0 0
 | some s=>∃g,v=.slice (some ⟨g,0,none⟩) ns.length ns.length∧∀i,i<ns.length→W.cell? ⟨g,i,none⟩=some (.int .i64 ((s.getD i 0:Nat):Int))
theorem SizesOut.none {ns:List Nd}{W:World}(h:sizesP ns=none):SizesOut ns W (.slice none 0 0):=by unfold SizesOut;rw [h]
theorem drop_row (ns:List Nd)(q:Nat)(h:q<ns.length):(rowsOf ns).drop q=(ns.getD q default).kids::(rowsOf ns).drop (q+1):=by
 have hl:q<(rowsOf ns).length:=by rw [rowsOf_length];exact h
 rw [List.drop_eq_getElem_cons hl]
 simp [rowsOf,List.getD,h]
theorem sizes_at (w:World)(p:Option Addr)(len c:Nat)(ns:List Nd)(h:TV w p len c ns)(hl:len≤70000)(hk:∀nd∈ns,nd.kids.length≤70000) :
 Calls Tryz.prog 68 #[.agg #[.slice p len c]] w fun e w'=>(∃v,e=.returned v∧SizesOut ns w' v)∧Below w.heap.size w w':=by
 have H:=lh h
 have HK:=lh hk
 have hlen:=lh h.len_eq
 clear h hk
 have B0:=lh (one_below w (.cells #[.slice p len c] 39))
 obtain ⟨w1,hmk,hb1,hown⟩:=make_int (w.alloc (.cells #[.slice p len c] 39)) len (by omega)
 have hG:(w.alloc (.cells #[.slice p len c] 39)).heap.size=w.heap.size+1:=by simp
 rw [hG] at hmk hb1 hown
 have B1:=lh hb1
 have c0:w1.cell? ⟨w.heap.size,0,none⟩=some (.slice p len c):=by rw [hb1.cell (by simp)];simp
 have HO0:=lh hown
 clear hb1 hown hG
 have hw1:IntKind.i64.wrap ((len:Int)-1)=(len:Int)-1:=IntWalk.i64_in _ (by omega)
 go_enter Tryz.func68,Tryz.ntmps68
 go_wp2_with fail
 clear hmk
 go_loopw [4] (fun iv wr=>∃(m:Nat) (s:List Nat) (L:List Value),m≤len∧iv=.int .i64 ((m:Int)-1)∧Hid (sizesL ((rowsOf ns).drop m) m=some s)∧Hid (wr.ownsRow (w.heap.size+1) 3 1 (.slice (some ⟨w.heap.size+1,0,none⟩) len len) len L)∧Hid (∀j,m≤j→j<len→L[j]?=some (.int .i64 ((s.getD (j-m) 0:Nat):Int)))∧Hid (Below (w.heap.size+1) (w.alloc (.cells #[.slice p len c] 39)) wr)) (fun iv _=>(intOf iv+1).toNat)
 case atStart=>exact ⟨len,[],_,by omega,rfl,lh (by rw [List.drop_eq_nil_of_le (by rw [rowsOf_length,hlen.out];omega)];rfl),HO0,lh (fun j h1 h2=>by omega),B1⟩
 case round =>
  obtain ⟨m,s,L,hml,rfl,HS,HO,HL,HB⟩:=hrel
  have c0:wr.cell? ⟨w.heap.size,0,none⟩=some (.slice p len c):=by rw [HB.out.cell (by simp)];simp
  have HBW:=lh (B0.out.trans (HB.out.mono (by omega)))
  by_cases hm:m=0
  · subst hm
    clear hw1
    have HS0:Hid (sizesL (rowsOf ns) 0=some s):=lh (by simpa using HS.out)
    have HSL:Hid (s.length=len):=lh (by have:=sizesL_len _ _ _ HS0.out;rw [rowsOf_length,hlen.out] at this;exact this)
    by_cases hl0:len=0
    · have HNO:Hid (sizesP ns=none):=lh (by
       unfold sizesP
       rw [HS0.out]
       simp only
       rw [if_neg (fun hc=>hc.1 (by rw [HSL.out,hl0]))])
      have d0:((len:Int)==0)=true:=by simp [hl0]
      clear hl0
      go_wp2
      go_ret
      exact ⟨⟨_,rfl,SizesOut.none HNO.out⟩,HBW.out⟩
    · have d0:((len:Int)==0)=false:=by simp;omega
      have p0:0<len:=by omega
      have p1:(0:Int)<(len:Int):=by omega
      have hc0:=HO.out.cellAt 0 (by omega)
      rw [HL.out 0 (by omega) (by omega)] at hc0
      simp only [Nat.sub_zero] at hc0
      obtain ⟨z0,hz0⟩:∃z,s.getD 0 0=z:=⟨_,rfl⟩
      rw [hz0] at hc0
      have HZ0:=lh hz0
      clear hz0
      by_cases hz:z0=len
      · have HYES:Hid (sizesP ns=some s):=lh (by
         unfold sizesP
         rw [HS0.out]
         simp only
         rw [if_pos ⟨by rw [HSL.out];exact hl0,by rw [HZ0.out,hz,HSL.out]⟩])
        have d1:((z0:Int) != (len:Int))=false:=by simp [hz]
        clear hl0 hz
        go_wp2
        go_ret
        refine ⟨⟨.slice (some ⟨w.heap.size+1,0,none⟩) len len,rfl,?_⟩,HBW.out⟩
        unfold SizesOut
        rw [HYES.out]
        refine ⟨w.heap.size+1,by rw [hlen.out],fun i hi=>?_⟩
        rw [hlen.out] at hi
        rw [HO.out.cellAt i (by omega),HL.out i (by omega) hi,Nat.sub_zero]
      · have HNO:Hid (sizesP ns=none):=lh (by
         unfold sizesP
         rw [HS0.out]
         simp only
         rw [if_neg (fun hc=>hz (by rw [← HZ0.out,hc.2,HSL.out]))])
        have d1:((z0:Int) != (len:Int))=true:=by simp;omega
        clear hl0 hz
        go_wp2
        go_ret
        exact ⟨⟨_,rfl,SizesOut.none HNO.out⟩,HBW.out⟩
  · obtain ⟨q,rfl⟩:∃q,m=q+1:=⟨m-1,by omega⟩
    have hq:((q+1:Nat):Int)-1=(q:Int):=by omega
    rw [hq]
    have hql:q<len:=by omega
    obtain ⟨b,off,rfl,hbl,hc⟩:=H.out.node (by omega)
    obtain ⟨kp,kl,kc,hnw⟩:=hc q hql
    have k4:=(hnw.on hbl HBW.out).kids
    have HIV:=lh (hnw.iv.on HBW.out)
    have hkl:=hnw.iv.len_eq
    have hix:q<ns.length:=by have:=hlen.out;omega
    have HD:=lh (drop_row ns q hix)
    have hkb:=HK.out (ns.getD q default) (by simp [List.getD,hix])
    generalize (ns.getD q default).kids=ks at *
    have hkl2:kl≤70000:=by omega
    have HKL:=lh hkl
    clear hnw hc hkl hkb hix hq hw1
    go_wp2_with fail
    obtain ⟨wo,rfl⟩:∃wo:World,wo=wr:=⟨_,rfl⟩
    have HSL:=lh (sizesL_len _ _ _ HS.out)
    have HLE:=lh (sizesL_le _ _ _ HS.out)
    have hsl:s.length=len-(q+1):=by have:=HSL.out;rw [List.length_drop,rowsOf_length,hlen.out] at this;exact this
    have hrl:((rowsOf ns).drop (q+1)).length=len-(q+1):=by rw [List.length_drop,rowsOf_length,hlen.out]
    have HSL2:=lh hsl
    have HRL:=lh hrl
    clear hsl hrl
    have hsize:=HB.out.size
    go_loopw [5,29] (fun av jv wq=>∃j a:Nat,j≤kl∧q<a∧a≤len∧av=.int .i64 a∧jv=.int .i64 j∧Hid (stepS s (q+1) (ks.drop j) a=stepS s (q+1) ks (q+1))∧wq=wo) (fun _ jv _=>kl-(intOf jv).toNat)
    case atStart=>exact ⟨0,q+1,by omega,by omega,by omega,by go_num,rfl,lh rfl,rfl⟩
    case round =>
     obtain ⟨j,a,hj,haq,hal,rfl,rfl,HST,rfl⟩:=hrel
     by_cases hjl:j<kl
     · obtain ⟨kb,koff,rfl,hkbl,hkc⟩:=HIV.out.cell (by omega)
       have hkj:=hkc j hjl
       have HDR:Hid (ks.drop j=ks.getD j 0::ks.drop (j+1)):=lh (by
        have hjx:j<ks.length:=by have:=HKL.out;omega
        rw [List.drop_eq_getElem_cons hjx]
        simp [List.getD,hjx])
       generalize ks.getD j 0=kid at *
       clear hkc hkbl
       have BAD:∀(hne:¬ (kid=(a:Int)∧a<len)),Hid (sizesP ns=none):=fun hne=>lh (by
        have h1:stepS s (q+1) (ks.drop j) a=none:=by
         rw [HDR.out]
         simp only [stepS]
         rw [if_neg (fun hc=>hne ⟨hc.1,by have:=HSL2.out;omega⟩)]
        rw [HST.out] at h1
        have h2:sizesL ((rowsOf ns).drop q) q=none:=by
         rw [HD.out]
         simp only [sizesL,HS.out,h1]
        have h3:=sizesL_none (rowsOf ns) 0 q (by rw [Nat.zero_add];exact h2) (by rw [rowsOf_length,hlen.out];omega)
        unfold sizesP
        rw [h3])
       by_cases hka:kid=(a:Int)
       · subst hka
         have d1:((a:Int) != (a:Int))=false:=by simp
         by_cases hal2:a<len
         · have d2:decide ((a:Int)≥(len:Int))=false:=by simp;omega
           have hla:=HL.out a (by omega) hal2
           have hcell:=HO.out.cellAt a (by omega)
           rw [hla] at hcell
           have HBD:=lh (HLE.out (a-(q+1)) (by have:=HSL2.out;omega))
           have HNX:Hid (stepS s (q+1) (ks.drop (j+1)) (a+s.getD (a-(q+1)) 0)=stepS s (q+1) ks (q+1)):=lh (by
            rw [← HST.out,HDR.out]
            simp only [stepS]
            rw [if_pos ⟨trivial,by have:=HSL2.out;omega⟩])
           have hb2:a+s.getD (a-(q+1)) 0≤len:=by have:=HBD.out;have:=HRL.out;omega
           generalize s.getD (a-(q+1)) 0=z at *
           have hw:IntKind.i64.wrap ((a:Int)+(z:Int))=(a:Int)+(z:Int):=IntWalk.i64_in _ (by omega)
           clear hla BAD HBD
           go_wp2_with fail
           go_roundw
           case rel=>exact ⟨j+1,a+z,by omega,by omega,hb2,by go_num,by go_num,HNX,trivial⟩
           case measure=>simp [intOf];omega
         · have d2:decide ((a:Int)≥(len:Int))=true:=by simp;omega
           have HNO:=BAD (fun hc=>hal2 hc.2)
           clear BAD
           go_wp2
           go_ret
           exact ⟨⟨_,rfl,SizesOut.none HNO.out⟩,HBW.out⟩
       · have d1:(kid != (a:Int))=true:=by simpa using hka
         have HNO:=BAD (fun hc=>hka hc.1)
         clear BAD hka
         go_wp2
         go_ret
         exact ⟨⟨_,rfl,SizesOut.none HNO.out⟩,HBW.out⟩
     · have HEND:Hid (stepS s (q+1) ks (q+1)=some a):=lh (by
        have:=HST.out
        rw [List.drop_eq_nil_of_le (by have:=HKL.out;omega)] at this
        simpa [stepS] using this.symm)
       have HS2:Hid (sizesL ((rowsOf ns).drop q) q=some ((a-q)::s)):=lh (by
        rw [HD.out]
        simp only [sizesL,HS.out,HEND.out])
       have hcell:=HO.out.cellAt q (by omega)
       obtain ⟨v0,hv0⟩:∃v,L[q]?=some v:=⟨L[q]'(by have:=HO.out.1;omega),List.getElem?_eq_getElem _⟩
       rw [hv0] at hcell
       have hfz:=HO.out.frozenAt q
       have hw:IntKind.i64.wrap ((a:Int)-(q:Int))=(a:Int)-(q:Int):=IntWalk.i64_in _ (by omega)
       have hw2:IntKind.i64.wrap ((q:Int)-1)=(q:Int)-1:=IntWalk.i64_in _ (by omega)
       have HO3:=lh (HO.out.stored q (.int .i64 ((a:Int)-(q:Int)))).1
       have HB3:=lh (HB.out.setCell (p:=⟨w.heap.size+1,q,none⟩) (Nat.le_refl _) (.int .i64 ((a:Int)-(q:Int))))
       have hll:L.length=len:=by have:=HO.out.1;omega
       have HL3:Hid (∀j,q≤j→j<len→(L.set q (.int .i64 ((a:Int)-(q:Int))))[j]?=some (.int .i64 ((((a-q)::s).getD (j-q) 0:Nat):Int))):=lh (by
        intro j h1 h2
        by_cases hjq:j=q
        · subst hjq
          rw [List.getElem?_set_self (by omega)]
          simp;try omega
        · rw [List.getElem?_set_ne (by omega),HL.out j (by omega) h2]
          have e:j-q=(j-(q+1))+1:=by omega
          rw [e,List.getD_cons_succ])
       clear hll hv0
       go_wp2_with fail
       go_roundw
       case rel=>exact ⟨q,(a-q)::s,_,by omega,by go_num,HS2,HO3,HL3,HB3⟩
       case measure=>(simp [intOf];try omega)
end Tr
namespace Tr
open Go.RowKit
structure SmallT (ns:List Nd):Prop where
 len:ns.length≤70000
 each:∀nd∈ns,nd.kids.length≤70000∧nd.text.size≤70000
theorem kids_in {ns:List Nd}{s:List Nat}(hs:sizesP ns=some s):∀nd∈ns,∀k∈nd.kids,0≤k∧k<ns.length:=by
 intro nd hm k hk
 obtain ⟨i,hi⟩:=List.mem_iff_getElem?.1 hm
 obtain ⟨hil,_⟩:=List.getElem?_eq_some_iff.1 hi
 have h:=(sizesP_some hs).right
 have hk2:k∈kidsAt ns i:=by unfold kidsAt;rw [List.getD,hi];exact hk
 obtain ⟨j,e1,e2,e3,e4⟩:=h.kid hil hk2
 omega
theorem neq_nil (W:World):(binOp .neq 32 (.slice none 0 0) (.slice none 0 0)).run Tryz.prog W=.ok (.bool false) W:=by kernel_rfl
theorem neq_some (g n c:Nat)(W:World):(binOp .neq 32 (.slice (some ⟨g,0,none⟩) n c) (.slice none 0 0)).run Tryz.prog W=.ok (.bool true) W:=by kernel_rfl
theorem right_at (w:World)(p:Option Addr)(len c:Nat)(ns:List Nd)(h:TV w p len c ns)(hS:SmallT ns) :
 Calls Tryz.prog 29 #[.agg #[.slice p len c]] w fun e w'=>e=.returned (.bool (rightP ns))∧Below w.heap.size w w':=by
 have hlen:=lh h.len_eq
 have H:=lh h
 have HS:=lh hS
 have B0:=lh (one_below w (.cells #[.slice p len c] 39))
 have HZ:=lh (sizes_at (w.alloc (.cells #[.slice p len c] 39)) p len c ns (h.on B0.out) (by rw [← h.len_eq];exact hS.len) (fun nd hm=>(hS.each nd hm).1))
 clear h hS
 go_enter Tryz.func29,Tryz.ntmps29
 go_wp2_with fail
 (with_reducible refine HZ.out.mono ?_)
 rintro e w1 ⟨⟨v,rfl,hv⟩,hb1⟩
 have B1:=lh (B0.out.trans (hb1.mono (by simp)))
 have c0:w1.cell? ⟨w.heap.size,0,none⟩=some (.slice p len c):=by rw [hb1.cell (by simp)];simp
 clear hb1 HZ
 unfold SizesOut at hv
 cases hs:sizesP ns with
 | none =>
  rw [hs] at hv
  simp only at hv
  subst hv
  have HP:Hid (rightP ns=false):=lh (by unfold rightP;rw [hs])
  have hne:=neq_nil
  clear hs
  go_wp2
  go_ret
  exact ⟨retB HP.out.symm,B1.out⟩
 | some s =>
  rw [hs] at hv
  simp only at hv
  obtain ⟨g,rfl,_⟩:=hv
  have hne:=neq_some g ns.length ns.length
  have hpos:0<len:=by have:=(sizesP_some hs).pos;have:=hlen.out;omega
  have hposI:(0:Int)<(len:Int):=by omega
  have HP:Hid (rightP ns=(kindAt ns 0==1&&ruledP ns)):=lh (by unfold rightP;rw [hs])
  have HRU:=lh (ruled_at w1 p len c ns (H.out.on B1.out) (by rw [← hlen.out];exact HS.out.len) (fun nd hm=>⟨(HS.out.each nd hm).1,(HS.out.each nd hm).2,by rw [← hlen.out];exact kids_in hs nd hm⟩))
  obtain ⟨b,off,rfl,hbl,hc⟩:=(H.out.on B1.out).node hpos
  obtain ⟨kp,kl,kc,hn⟩:=hc 0 hpos
  have k0:w1.cell? ⟨b,off,none⟩=some (.int .u8 (kindAt ns 0)):=by have:=hn.kind;simpa [kindAt] using this
  generalize kindAt ns 0=k at *
  clear hs hn hc
  by_cases h1:k=1
  · have d1:(k==1)=true:=by simpa using h1
    have D1:=lh d1
    subst h1
    go_wp2_with fail
    (with_reducible refine HRU.out.mono ?_)
    rintro e w2 ⟨rfl,hb2⟩
    have B2:=lh (B1.out.trans (hb2.mono B1.out.size))
    clear hb2 HRU
    go_wp2
    go_ret
    exact ⟨retB (by rw [HP.out];simp),B2.out⟩
  · have d1:(k==1)=false:=by simpa using h1
    go_wp2
    go_ret
    exact ⟨retB (by rw [HP.out,d1];rfl),B1.out⟩
end Tr
section
open Tr Par
def nodeRW (k:Int)(s:ByteArray)(n:Int)(l:List Int):Bool:=decide (1≤k)&&(decide (k≤26)&&(wordsR ⟨k,0,s,n,[]⟩&&kidsR k l))
theorem kinds_row (l:List Int):kindsOf (l.map fun k=>(⟨k,0,⟨#[]⟩,0,[]⟩:Nd)) ⟨0,0,⟨#[]⟩,0,(List.range l.length).map fun i:Nat=>(i:Int)⟩=l:=by
 unfold kindsOf
 simp only [List.map_map]
 refine List.ext_getElem (by simp) fun i h1 h2=>?_
 simp only [List.getElem_map,List.getElem_range,Function.comp,Int.toNat_natCast]
 unfold kindAt
 simp only [List.length_map,List.length_range] at h1
 simp [List.getD,h2]
theorem nodeW_eq (k:Int)(s:ByteArray)(n:Int)(l:List Int)(hl:l.length≤9223372036854775807):nodeW k s n l=nodeRW k s n l:=by
 have h:=nodeOk_eq (l.map fun k=>(⟨k,0,⟨#[]⟩,0,[]⟩:Nd)) ⟨k,0,s,n,(List.range l.length).map fun i:Nat=>(i:Int)⟩ (by simpa using hl)
 have hk:kindsOf (l.map fun k=>(⟨k,0,⟨#[]⟩,0,[]⟩:Nd)) ⟨k,0,s,n,(List.range l.length).map fun i:Nat=>(i:Int)⟩=l:=kinds_row l
 unfold nodeOk nodeR at h
 rw [hk] at h
 exact h
mutual
def wfR:Ast→Prop
 | .mk k _ s n ks=>(nodeRW k s n (ks.map Ast.kind)=true∧s.size≤70000)∧wfRL ks
def wfRL:List Ast→Prop
 | []=>True
 | x::r=>wfR x∧wfRL r
end
theorem wfRL_of {l:List Ast}(h:∀x∈l,wfR x):wfRL l:=by
 induction l with
 | nil=>trivial
 | cons y r ih=>exact ⟨h y (by simp),ih fun x hx=>h x (by simp [hx])⟩
theorem len_sizeL (l:List Ast):l.length≤sizeL l:=by
 induction l with
 | nil=>simp [sizeL]
 | cons x r ih=>have:=ast_pos x;simp only [List.length_cons,sizeL];omega
mutual
theorem wf_of:∀a:Ast,a.size≤70000→wfR a→wf a
 | .mk k p s n ks,h,hw=>by
  simp only [Ast.size] at h
  have h1:=len_sizeL ks
  exact ⟨by rw [nodeW_eq k s n (ks.map Ast.kind) (by simp;omega)];exact hw.1.1,wf_ofL ks (by omega) hw.2⟩
theorem wf_ofL:∀l:List Ast,sizeL l≤70000→wfRL l→wfL l
 | [],_,_=>trivial
 | x::r,h,hw=>by
  simp only [sizeL] at h
  exact ⟨wf_of x (by omega) hw.1,wf_ofL r (by omega) hw.2⟩
end
mutual
theorem texts_few (o:Nat):∀a:Ast,wfR a→∀nd∈flat o a,nd.text.size≤70000
 | .mk k p s n ks,h,nd,hnd=>by
  simp only [flat,List.mem_cons] at hnd
  rcases hnd with rfl|hnd
  · exact h.1.2
  · exact texts_fewL (o+1) ks h.2 nd hnd
theorem texts_fewL (o:Nat):∀l:List Ast,wfRL l→∀nd∈flatL o l,nd.text.size≤70000
 | [],_,nd,hnd=>by simp [flatL] at hnd
 | x::r,h,nd,hnd=>by
  simp only [flatL,List.mem_append] at hnd
  rcases hnd with hnd|hnd
  · exact texts_few o x h.1 nd hnd
  · exact texts_fewL _ r h.2 nd hnd
end
theorem right_flatR (a:Ast)(h:a.size≤70000)(hk:a.kind=1)(hw:wfR a):rightP (flat 0 a)=true:=(right_flat a).2 ⟨hk,wf_of a h hw⟩
structure GoodP (t:PT):Prop where
 name:t.kind=1→namesF (bytesI t.txt)=true∧t.txt.size≤70000
 num:t.kind=2→0≤t.n∧t.n≤2147483647
def GL (l:List PT):Prop:=∀t∈l,GoodP t
theorem GL.tail {t:PT}{l:List PT}(h:GL (t::l)):GL l:=fun u hu=>h u (by simp [hu])
def Gd {α:Type}(f:Par α)(P:α→Prop):Prop:=∀l,GL l→∀a l',f l=.ok a l'→P a∧GL l'
section
variable {α β:Type}
theorem Gd.pure {a:α}{P:α→Prop}(h:P a):Gd (Par.pure a) P:=fun l hl b l' e=>by
 simp only [Par.pure,Res.ok.injEq] at e
 obtain ⟨rfl,rfl⟩:=e
 exact ⟨h,hl⟩
theorem Gd.bind {f:Par α}{g:α→Par β}{P:α→Prop}{Q:β→Prop}(hf:Gd f P)(hg:∀a,P a→Gd (g a) Q):Gd (Par.bind f g) Q:=fun l hl b l' e=>by
 simp only [Par.bind] at e
 cases hfl:f l with
 | err p c=>rw [hfl] at e;simp at e
 | ok a l1 =>
  rw [hfl] at e
  obtain ⟨h1,h2⟩:=hf l hl a l1 hfl
  exact hg a h1 l1 h2 b l' e
theorem Gd.mono {f:Par α}{P Q:α→Prop}(hf:Gd f P)(h:∀a,P a→Q a):Gd f Q:=fun l hl a l' e=>⟨h a (hf l hl a l' e).1,(hf l hl a l' e).2⟩
theorem Gd.loop {step:α→Par (Option α)}{P:α→Prop}(hs:∀a,P a→Gd (step a) fun o=>∀b,o=some b→P b):∀(m:Nat) (a:α),P a→Gd (Par.loop step m a) P
 | 0,a,_=>fun l _ b l' e=>by simp [Par.loop] at e
 | m+1,a,ha=>by
  refine Gd.bind (hs a ha) fun o ho=>?_
  cases o with
  | none=>exact Gd.pure ha
  | some b=>exact Gd.loop hs m b (ho b rfl)
theorem Gd.many {step:α→Par (Option α)}{P:α→Prop}(hs:∀a,P a→Gd (step a) fun o=>∀b,o=some b→P b)(a:α)(ha:P a):Gd (Par.many step a) P:=fun l=>Gd.loop hs (l.length+1) a ha l
theorem gd_isNext (s:ByteArray):Gd (isNextP s) fun _=>True:=fun l hl b l' e=>by
 cases l with
 | nil=>simp [isNextP] at e
 | cons t l=>simp only [isNextP,Res.ok.injEq] at e;rw [← e.2];exact ⟨trivial,hl⟩
theorem gd_skip (s:ByteArray):Gd (skipP s) fun _=>True:=fun l hl b l' e=>by
 cases l with
 | nil=>simp [skipP] at e
 | cons t l =>
  simp only [skipP] at e
  split at e
  · simp only [Res.ok.injEq] at e;rw [← e.2];exact ⟨trivial,hl.tail⟩
  · simp only [Res.ok.injEq] at e;rw [← e.2];exact ⟨trivial,hl⟩
theorem gd_expect (s:ByteArray):Gd (expectP s) fun _=>True:=fun l hl b l' e=>by
 cases l with
 | nil=>simp [expectP] at e
 | cons t l =>
  simp only [expectP] at e
  split at e
  · simp only [Res.ok.injEq] at e;rw [← e.2];exact ⟨trivial,hl.tail⟩
  · simp at e
theorem gd_take (k:Int):Gd (takeP k) fun t=>t.kind=k∧GoodP t:=fun l hl b l' e=>by
 cases l with
 | nil=>simp [takeP] at e
 | cons t l =>
  simp only [takeP] at e
  split at e
  · rename_i hk
    simp only [Res.ok.injEq] at e
    obtain ⟨rfl,rfl⟩:=e
    exact ⟨⟨hk,hl _ (by simp)⟩,hl.tail⟩
  · simp at e
theorem gd_peek:Gd peekP GoodP:=fun l hl b l' e=>by
 cases l with
 | nil=>simp [peekP] at e
 | cons t l =>
  simp only [peekP,Res.ok.injEq] at e
  obtain ⟨rfl,rfl⟩:=e
  exact ⟨hl _ (by simp),hl⟩
theorem gd_enter (s:ByteArray)(r:Nat):Gd (enterP s r) fun _=>True:=fun l hl b l' e=>by
 cases l with
 | nil=>simp [enterP] at e
 | cons t l =>
  simp only [enterP] at e
  split at e
  · split at e
    · simp at e
    · simp only [Res.ok.injEq] at e;rw [← e.2];exact ⟨trivial,hl.tail⟩
  · simp at e
theorem gd_fail {P:α→Prop}:Gd (failP:Par α) P:=fun l hl b l' e=>by cases l<;>simp [failP] at e
end
def isE (a:Ast):Prop:=wfR a∧isExprK a.kind=true
def isK (k:Int)(a:Ast):Prop:=wfR a∧a.kind=k
def isSt (a:Ast):Prop:=wfR a∧isStmtK a.kind=true
theorem none_named:namesF (bytesI none0)=false:=by decide
theorem wf_plain {k n:Int}{p:Nat}{ks:List Ast}(h1:1≤k)(h2:k≤26)(hn:namedR k=false)(h0:0≤n)(hm:n≤mostR k)(hk:kidsR k (ks.map Ast.kind)=true)(hs:∀x∈ks,wfR x):wfR (.mk k p none0 n ks):=by
 refine ⟨⟨?_,by decide⟩,wfRL_of hs⟩
 simp only [nodeRW,wordsR,hn,none_named,hk,decide_eq_true h1,decide_eq_true h2,decide_eq_true h0,decide_eq_true hm,show decide (none0.size=0)=true by decide]
 rfl
theorem wf_named {k n:Int}{p:Nat}{s:ByteArray}{ks:List Ast}(h1:1≤k)(h2:k≤26)(hn:namedR k=true)(ht:namesF (bytesI s)=true∧s.size≤70000)(h0:0≤n)(hm:n≤mostR k)(hk:kidsR k (ks.map Ast.kind)=true)(hs:∀x∈ks,wfR x):wfR (.mk k p s n ks):=by
 refine ⟨⟨?_,ht.2⟩,wfRL_of hs⟩
 simp only [nodeRW,wordsR,hn,ht.1,hk,decide_eq_true h1,decide_eq_true h2,decide_eq_true h0,decide_eq_true hm]
 simp
end
section
open Tr Par
theorem gd_some {α:Type}{a:α}{P:α→Prop}(h:P a):Gd (Par.pure (some a)) fun o=>∀b,o=some b→P b:=Gd.pure fun b e=>by cases e;exact h
theorem gd_none {α:Type}{P:α→Prop}:Gd (Par.pure (none:Option α)) fun o=>∀b,o=some b→P b:=Gd.pure fun b e=>by cases e
theorem mem_snoc {P:Ast→Prop}{ks:List Ast}{x:Ast}(h:∀y∈ks,P y)(hx:P x):∀y∈ks++[x],P y:=fun y hy=>by
 rcases List.mem_append.1 hy with hy|hy
 · exact h y hy
 · rw [List.mem_singleton.1 hy];exact hx
theorem gd_word:Gd wordP (isK 5):=Gd.bind (gd_take 1) fun t ht=>Gd.pure ⟨wf_named (by decide) (by decide) rfl (ht.2.name ht.1) (by decide) (by decide) rfl (by simp),rfl⟩
theorem gd_number:Gd numberP (isK 21):=Gd.bind (gd_take 2) fun t ht=>Gd.pure ⟨wf_plain (by decide) (by decide) rfl (ht.2.num ht.1).1 (ht.2.num ht.1).2 rfl (by simp),rfl⟩
theorem isE_num {a:Ast}(h:isK 21 a):isE a:=⟨h.1,by rw [h.2];rfl⟩
theorem isE_both {k:Int}(hk:k=23∨k=24∨k=25){a b:Ast}(ha:isE a)(hb:isE b):isE (bothA k a b):=by
 have hks:kidsR k ([a,b].map Ast.kind)=true:=by
  rcases hk with rfl|rfl|rfl<;>simp [kidsR,isR,ha.2,hb.2]
 refine ⟨wf_plain (by omega) (by omega) (by rcases hk with rfl|rfl|rfl<;>rfl) (by omega) (by rcases hk with rfl|rfl|rfl<;>decide) hks (by simp [ha.1,hb.1]),?_⟩
 rcases hk with rfl|rfl|rfl<;>rfl
theorem gd_times {fac:Par Ast}(h:Gd fac isE)(a:Ast)(ha:isE a):Gd (timesStep fac a) fun o=>∀b,o=some b→isE b:=Gd.bind (gd_skip _) fun b _=>by
 cases b with
 | true=>exact Gd.bind h fun b hb=>Gd.pure fun x e=>by simp only [Option.some.injEq] at e;subst e;exact isE_both (by decide) ha hb
 | false=>exact Gd.pure fun x e=>by simp at e
theorem gd_term {fac:Par Ast}(h:Gd fac isE):Gd (termP fac) isE:=Gd.bind h fun a ha=>Gd.many (fun a ha=>gd_times h a ha) a ha
theorem gd_sum {fac:Par Ast}(h:Gd fac isE)(a:Ast)(ha:isE a):Gd (sumStep fac a) fun o=>∀b,o=some b→isE b:=Gd.bind (gd_skip _) fun b _=>by
 cases b with
 | true=>exact Gd.bind (gd_term h) fun b hb=>Gd.pure fun x e=>by simp only [Option.some.injEq] at e;subst e;exact isE_both (by decide) ha hb
 | false =>
  refine Gd.bind (gd_skip _) fun b _=>?_
  cases b with
  | true=>exact Gd.bind (gd_term h) fun b hb=>Gd.pure fun x e=>by simp only [Option.some.injEq] at e;subst e;exact isE_both (by decide) ha hb
  | false=>exact Gd.pure fun x e=>by simp at e
theorem gd_exprP {fac:Par Ast}(h:Gd fac isE):Gd (exprP fac) isE:=Gd.bind (gd_term h) fun a ha=>Gd.many (fun a ha=>gd_sum h a ha) a ha
theorem gd_peeked {β:Type}{g:PT→Par β}{P:β→Prop}(h:∀u l,GL (u::l)→∀a l',g u (u::l)=.ok a l'→P a∧GL l'):Gd (Par.bind peekP g) P:=fun l hl a l' e=>by
 cases l with
 | nil=>simp [Par.bind,peekP] at e
 | cons u l=>exact h u l hl a l' e
theorem gd_factorOf {r:Nat}{fac:Par Ast}(h:Gd fac isE):Gd (factorOf r fac) isE:=gd_peeked fun u l hl a l' e=>by
 split at e
 · exact (Gd.mono gd_number fun a ha=>isE_num ha) _ hl a l' e
 · split at e
   · rename_i hk
     simp only [Par.bind,nextP,Par.pure,Res.ok.injEq] at e
     obtain ⟨rfl,rfl⟩:=e
     exact ⟨⟨wf_named (by decide) (by decide) rfl ((hl u (by simp)).name hk) (by decide) (by decide) rfl (by simp),rfl⟩,hl.tail⟩
   · split at e
     · exact (show Gd (bracketP r (exprP fac)) isE from Gd.bind (gd_enter _ _) fun _ _=>Gd.bind (gd_exprP h) fun a ha=>Gd.bind (gd_expect _) fun _ _=>Gd.pure ha) _ hl a l' e
     · split at e
       · exact (show Gd (negP r fac) isE from Gd.bind (gd_enter _ _) fun p _=>Gd.bind h fun a ha=>Gd.pure ⟨wf_plain (by decide) (by decide) rfl (by decide) (by decide) (by simp [kidsR,isR,ha.2]) (by simp [ha.1]),rfl⟩) _ hl a l' e
       · exact gd_fail _ hl a l' e
theorem gd_factor:∀r,Gd (factorP r) isE
 | 0=>gd_factorOf gd_fail
 | r+1=>gd_factorOf (gd_factor r)
theorem gd_expr (r:Nat):Gd (exprR r) isE:=gd_exprP (gd_factor r)
def isW (ks:List Ast):Prop:=(∀x∈ks,isK 5 x)∧0<ks.length
theorem gd_words:Gd wordsP isW:=Gd.bind gd_word fun w hw=>Gd.many (fun ks hk=>Gd.bind (gd_skip _) fun b _=>match b with
 | true=>Gd.bind gd_word fun w hw=>gd_some ⟨mem_snoc hk.1 hw,by simp⟩
 | false=>gd_none) [w] ⟨fun y hy=>by rw [List.mem_singleton.1 hy];exact hw,by simp⟩
theorem gd_rowOf (r:Nat){t:PT}(ht:t.kind=1∧GoodP t):Gd (rowOfP r t) (isK 20):=Gd.bind (gd_enter _ _) fun _ _=>Gd.bind (gd_expr _) fun k hk=>Gd.bind (gd_expect _) fun _ _ =>
 Gd.pure ⟨wf_named (by decide) (by decide) rfl (ht.2.name ht.1) (by decide) (by decide) (by simp [kidsR,isR,hk.2]) (by simp [hk.1]),rfl⟩
theorem gd_row (r:Nat):Gd (rowP r) (isK 20):=Gd.bind (gd_take 1) fun t ht=>gd_rowOf r ht
theorem gd_cell (r:Nat):Gd (cellP r) fun x=>isK 20 x.1∧isK 5 x.2:=Gd.bind (gd_row r) fun a ha=>Gd.bind (gd_expect _) fun _ _=>Gd.bind gd_word fun b hb=>Gd.pure ⟨ha,hb⟩
theorem gd_end {a:Ast}{P:Ast→Prop}(h:P a):Gd (endP a) P:=Gd.bind (gd_expect _) fun _ _=>Gd.pure h
theorem gd_read (r p:Nat):Gd (readP r p) isSt:=Gd.bind (gd_take 1) fun t ht=>Gd.bind (gd_expect _) fun _ _=>Gd.bind (gd_cell r) fun rc hc=>Gd.bind (gd_skip _) fun b _=>by
 have hk:kidsR 7 ([rc.1,rc.2].map Ast.kind)=true:=by simp [kidsR,isR,hc.1.2,hc.2.2]
 cases b with
 | true=>exact Gd.bind (gd_expect _) fun _ _=>gd_end ⟨wf_named (by decide) (by decide) rfl (ht.2.name ht.1) (by decide) (by decide) hk (by simp [hc.1.1,hc.2.1]),rfl⟩
 | false=>exact gd_end ⟨wf_named (by decide) (by decide) rfl (ht.2.name ht.1) (by decide) (by decide) hk (by simp [hc.1.1,hc.2.1]),rfl⟩
theorem gd_set (r p:Nat):Gd (setP r p) isSt:=Gd.bind (gd_cell r) fun rc hc=>Gd.bind (gd_expect _) fun _ _=>Gd.bind (gd_expr r) fun v hv =>
 gd_end ⟨wf_plain (by decide) (by decide) rfl (by decide) (by decide) (by simp [kidsR,isR,hc.1.2,hc.2.2,hv.2]) (by simp [hc.1.1,hc.2.1,hv.1]),rfl⟩
def isPut (ks:List Ast):Prop:=∃a b es,ks=a::b::es∧isK 20 a∧isE b∧∀x∈es,isE x
theorem put_snoc {ks:List Ast}{w:Ast}(hk:isPut ks)(hw:isE w):isPut (ks++[w]):=by
 obtain ⟨a,b,es,rfl,h1,h2,h3⟩:=hk
 exact ⟨a,b,es++[w],rfl,h1,h2,mem_snoc h3 hw⟩
theorem gd_put (r p:Nat):Gd (putP r p) isSt:=Gd.bind (gd_row r) fun a ha=>Gd.bind (gd_expect _) fun _ _=>Gd.bind (gd_expr r) fun e he =>
 Gd.bind (P:=isPut) (Gd.many (P:=isPut) (step:=putStep r) (fun ks hk=>Gd.bind (gd_skip ⟨#[44]⟩) fun b _=>match b with
  | true=>Gd.bind (gd_expr r) fun w hw=>gd_some (put_snoc hk hw)
  | false=>gd_none) [a,e] ⟨a,e,[],rfl,ha,he,by simp⟩)
 fun ks hk=>Gd.bind (gd_expect _) fun _ _=>by
  obtain ⟨a,b,es,rfl,h1,h2,h3⟩:=hk
  refine gd_end ⟨wf_plain (by decide) (by decide) rfl (by decide) (by decide) ?_ ?_,rfl⟩
  · simp only [kidsR,List.map_cons,List.length_cons,List.length_map]
    have:(es.map Ast.kind).all isExprK=true:=by
     rw [List.all_eq_true]
     intro k hk
     obtain ⟨x,hx,rfl⟩:=List.mem_map.1 hk
     exact (h3 x hx).2
    simp [h1.2,h2.2]
    intro x hx
    exact (h3 x hx).2
  · intro x hx
    simp only [List.mem_cons] at hx
    rcases hx with rfl|rfl|hx
    · exact h1.1
    · exact h2.1
    · exact (h3 x hx).1
theorem gd_delete (r p:Nat):Gd (deleteP r p) isSt:=Gd.bind (gd_row r) fun a ha=>gd_end ⟨wf_plain (by decide) (by decide) rfl (by decide) (by decide) (by simp [kidsR,isR,ha.2]) (by simp [ha.1]),rfl⟩
theorem gd_scan (p:Nat):Gd (scanP p) isSt:=Gd.bind (gd_take 1) fun t ht=>Gd.bind (gd_expect _) fun _ _=>Gd.bind gd_word fun a ha=>Gd.bind (gd_expect _) fun _ _=>Gd.bind gd_word fun b hb =>
 gd_end ⟨wf_named (by decide) (by decide) rfl (ht.2.name ht.1) (by decide) (by decide) (by simp [kidsR,isR,ha.2,hb.2]) (by simp [ha.1,hb.1]),rfl⟩
theorem gd_lock (p:Nat):Gd (lockP p) isSt:=Gd.bind gd_word fun a ha=>Gd.bind (gd_skip _) fun b _=>by
 have hk:kidsR 12 ([a].map Ast.kind)=true:=by simp [kidsR,isR,ha.2]
 cases b with
 | true=>exact gd_end ⟨wf_plain (by decide) (by decide) rfl (by decide) (by decide) hk (by simp [ha.1]),rfl⟩
 | false=>exact Gd.bind (gd_expect _) fun _ _=>gd_end ⟨wf_plain (by decide) (by decide) rfl (by decide) (by decide) hk (by simp [ha.1]),rfl⟩
theorem gd_release (r p:Nat):Gd (releaseP r p) isSt:=Gd.bind (gd_take 1) fun t ht=>Gd.bind (gd_isNext _) fun b _=>by
 cases b with
 | true=>exact Gd.bind (gd_rowOf r ht) fun a ha=>gd_end ⟨wf_plain (by decide) (by decide) rfl (by decide) (by decide) (by simp [kidsR,isR,ha.2]) (by simp [ha.1]),rfl⟩
 | false =>
  have hw:isK 5 (wordA t):=⟨wf_named (by decide) (by decide) rfl (ht.2.name ht.1) (by decide) (by decide) rfl (by simp),rfl⟩
  exact gd_end ⟨wf_plain (by decide) (by decide) rfl (by decide) (by decide) (by simp [kidsR,isR,hw.2]) (by simp [hw.1]),rfl⟩
theorem gd_ifTail {B:Par Ast}(hB:Gd B (isK 6))(p:Nat){n:Int}(hn:n=0∨n=1){a b:Ast}(ha:isE a)(hb:isE b):Gd (ifTail B p n a b) isSt:=Gd.bind hB fun c hc=>Gd.bind (gd_skip _) fun q _=>by
 have h0:0≤n:=by omega
 have h1:n≤mostR 14:=by show n≤1;omega
 cases q with
 | true=>exact Gd.bind hB fun d hd=>Gd.pure ⟨wf_plain (by decide) (by decide) rfl h0 h1 (by simp [kidsR,isR,ha.2,hb.2,hc.2,hd.2]) (by simp [ha.1,hb.1,hc.1,hd.1]),rfl⟩
 | false=>exact Gd.pure ⟨wf_plain (by decide) (by decide) rfl h0 h1 (by simp [kidsR,isR,ha.2,hb.2,hc.2]) (by simp [ha.1,hb.1,hc.1]),rfl⟩
theorem gd_if (r:Nat){B:Par Ast}(hB:Gd B (isK 6))(p:Nat):Gd (ifP r B p) isSt:=Gd.bind (gd_expr r) fun a ha=>Gd.bind (gd_skip _) fun b _=>by
 cases b with
 | true=>exact Gd.bind (gd_expr r) fun b hb=>gd_ifTail hB p (Or.inr rfl) ha hb
 | false=>exact Gd.bind (gd_expect _) fun _ _=>Gd.bind (gd_expr r) fun b hb=>gd_ifTail hB p (Or.inl rfl) ha hb
theorem gd_for {B:Par Ast}(hB:Gd B (isK 6))(p:Nat):Gd (forP B p) isSt:=Gd.bind (gd_take 1) fun t ht=>Gd.bind (gd_expect _) fun _ _=>Gd.bind gd_number fun a ha=>Gd.bind (gd_expect _) fun _ _=>Gd.bind gd_number fun b hb=>Gd.bind hB fun c hc =>
 Gd.pure ⟨wf_named (by decide) (by decide) rfl (ht.2.name ht.1) (by decide) (by decide) (by simp [kidsR,isR,ha.2,hb.2,hc.2]) (by simp [ha.1,hb.1,hc.1]),rfl⟩
theorem gd_let (r p:Nat):Gd (letP r p) isSt:=Gd.bind (gd_take 1) fun t ht=>Gd.bind (gd_expect _) fun _ _=>Gd.bind (gd_expr r) fun v hv =>
 gd_end ⟨wf_named (by decide) (by decide) rfl (ht.2.name ht.1) (by decide) (by decide) (by simp [kidsR,isR,hv.2]) (by simp [hv.1]),rfl⟩
theorem gd_emit (r p:Nat):Gd (emitP r p) isSt:=Gd.bind (gd_expr r) fun v hv=>gd_end ⟨wf_plain (by decide) (by decide) rfl (by decide) (by decide) (by simp [kidsR,isR,hv.2]) (by simp [hv.1]),rfl⟩
theorem gd_rest (r:Nat){B:Par Ast}(hB:Gd B (isK 6))(j p:Nat):Gd (restP r B j p) isSt:=by
 unfold restP
 split
 · exact gd_read r p
 · exact gd_set r p
 · exact gd_put r p
 · exact gd_delete r p
 · exact gd_scan p
 · exact gd_lock p
 · exact gd_release r p
 · exact gd_if r hB p
 · exact gd_for hB p
 · exact gd_let r p
 · exact gd_emit r p
 · exact gd_end ⟨wf_plain (by decide) (by decide) rfl (by decide) (by decide) rfl (by simp),rfl⟩
 · exact gd_end ⟨wf_plain (by decide) (by decide) rfl (by decide) (by decide) rfl (by simp),rfl⟩
 · exact gd_fail
theorem gd_stmt (r:Nat){B:Par Ast}(hB:Gd B (isK 6)):Gd (stmtP r B) isSt:=gd_peeked fun u l hl a l' e=>by
 split at e
 · simp only [Par.bind,nextP] at e
   exact gd_rest r hB _ _ l hl.tail a l' e
 · exact gd_fail _ hl a l' e
theorem gd_blockOf {r:Nat}{st:Par Ast}(h:Gd st isSt):Gd (blockOf r st) (isK 6):=Gd.bind (gd_enter _ _) fun p _ =>
 Gd.bind (P:=fun ks=>∀x∈ks,isSt x) (Gd.many (fun ks hk=>Gd.bind (gd_isNext _) fun b _=>match b with
  | true=>gd_none
  | false=>Gd.bind h fun s hs=>gd_some (mem_snoc hk hs)) [] (by simp))
 fun ks hk=>Gd.bind (gd_expect _) fun _ _=>Gd.pure ⟨wf_plain (by decide) (by decide) rfl (by decide) (by decide) (by
  simp only [kidsR]
  simp
  exact fun x hx=>(hk x hx).2) (fun x hx=>(hk x hx).1),rfl⟩
theorem gd_block:∀r,Gd (blockP r) (isK 6)
 | 0=>gd_blockOf gd_fail
 | r+1=>gd_blockOf (gd_stmt r (gd_block r))
theorem all5 {ks:List Ast}(h:∀x∈ks,isK 5 x):(ks.map Ast.kind).all (·==5)=true:=by
 rw [List.all_eq_true]
 intro k hk
 obtain ⟨x,hx,rfl⟩:=List.mem_map.1 hk
 simp [(h x hx).2]
theorem gd_names:Gd namesP (isK 4):=Gd.bind gd_peek fun t _=>Gd.bind (gd_isNext _) fun b _=>by
 cases b with
 | true=>exact Gd.pure ⟨wf_plain (by decide) (by decide) rfl (by decide) (by decide) rfl (by simp),rfl⟩
 | false=>exact Gd.bind gd_words fun ks hk=>Gd.pure ⟨wf_plain (by decide) (by decide) rfl (by decide) (by decide) (by simp only [kidsR];exact all5 hk.1) (fun x hx=>(hk.1 x hx).1),rfl⟩
def isPart (a:Ast):Prop:=wfR a∧(a.kind=2∨a.kind=3)
theorem gd_table:Gd tableP isPart:=Gd.bind (gd_expect _) fun p _=>Gd.bind (gd_take 1) fun t ht=>Gd.bind (gd_expect _) fun _ _=>Gd.bind gd_words fun ks hk=>Gd.bind (gd_expect _) fun _ _ =>
 gd_end ⟨wf_named (by decide) (by decide) rfl (ht.2.name ht.1) (by decide) (by decide) (by
  have h1:=all5 hk.1
  have h2:0<(ks.map Ast.kind).length:=by simpa using hk.2
  show (decide (0<(ks.map Ast.kind).length)&&(ks.map Ast.kind).all (·==5))=true
  rw [h1,decide_eq_true h2];rfl) (fun x hx=>(hk.1 x hx).1),Or.inl rfl⟩
theorem gd_proc:Gd procP isPart:=Gd.bind (gd_expect _) fun p _=>Gd.bind (gd_take 1) fun t ht=>Gd.bind (gd_expect _) fun _ _=>Gd.bind gd_names fun ns hn=>Gd.bind (gd_expect _) fun _ _=>Gd.bind (gd_skip _) fun b _=>by
 cases b with
 | true=>exact Gd.bind (gd_block 64) fun b hb=>Gd.pure ⟨wf_named (by decide) (by decide) rfl (ht.2.name ht.1) (by decide) (by decide) (by simp [kidsR,isR,hn.2,hb.2]) (by simp [hn.1,hb.1]),Or.inr rfl⟩
 | false=>exact Gd.bind (gd_block 64) fun b hb=>Gd.pure ⟨wf_named (by decide) (by decide) rfl (ht.2.name ht.1) (by decide) (by decide) (by simp [kidsR,isR,hn.2,hb.2]) (by simp [hn.1,hb.1]),Or.inr rfl⟩
theorem gd_progStep {ks:List Ast}(hk:∀x∈ks,isPart x):Gd (progStep ks) fun o=>∀b,o=some b→∀x∈b,isPart x:=gd_peeked fun u l hl a l' e=>by
 split at e
 · exact (gd_none (P:=fun b:List Ast=>∀x∈b,isPart x)) _ hl a l' e
 · have h1:∀b:Bool,Gd (match b with|true=>Par.bind tableP fun a=>Par.pure (some (ks++[a]))|false=>Par.bind procP fun a=>Par.pure (some (ks++[a]))) fun o=>∀b,o=some b→∀x∈b,isPart x:=fun b=>match b with
    | true=>Gd.bind gd_table fun a ha=>gd_some (mem_snoc hk ha)
    | false=>Gd.bind gd_proc fun a ha=>gd_some (mem_snoc hk ha)
   exact (Gd.bind (gd_isNext _) fun b _=>h1 b) _ hl a l' e
theorem gd_program:Gd programP fun a=>wfR a∧a.kind=1:=Gd.bind gd_peek fun t _ =>
 Gd.bind (P:=fun ks=>∀x∈ks,isPart x) (Gd.many (fun ks hk=>gd_progStep hk) [] (by simp))
 fun ks hk=>Gd.pure ⟨wf_plain (by decide) (by decide) rfl (by decide) (by decide) (by
  simp only [kidsR]
  simp
  exact fun x hx=>(hk x hx).2) (fun x hx=>(hk x hx).1),rfl⟩
end
section
open Go.RowKit Par
mutual
theorem flatL_few (o:Nat):∀(ks:List Ast),sizeL ks≤70000→∀nd∈flatL o ks,nd.kids.length≤70000
 | [],_,nd,hnd=>by simp [flatL] at hnd
 | x::r,hs,nd,hnd=>by
  simp only [flatL,List.mem_append] at hnd
  simp only [sizeL] at hs
  rcases hnd with hnd|hnd
  · exact flat_few o x (by omega) nd hnd
  · exact flatL_few _ r (by omega) nd hnd
theorem flat_few (o:Nat):∀(a:Ast),a.size≤70000→∀nd∈flat o a,nd.kids.length≤70000
 | .mk k p t n ks,hs,nd,hnd=>by
  simp only [flat,List.mem_cons] at hnd
  simp only [Ast.size] at hs
  rcases hnd with rfl|hnd
  · simp only [heads_length]
    have:=length_le_sizeL ks
    omega
  · exact flatL_few (o+1) ks (by omega) nd hnd
end
theorem program_few {l l':List PT}{a:Ast}(h:programP l=.ok a l'):a.size≤l.length+1:=by
 obtain ⟨t,r,ks,hl,rfl,hm⟩:=program_of h
 have h2:sizeL ks+l'.length≤0+l.length:=Sz.many (cr:=sizeL) sz_prog [] _ _ _ hm
 simp only [nodeA,Ast.size]
 omega
theorem parse_few {xs:List Int}{ns:List Nd}(hp:parseS xs=.ok ns)(hl:xs.length≤60000):ns.length≤70000∧∀nd∈ns,nd.kids.length≤70000:=by
 cases hx:lexS xs with
 | error e=>simp [parseS,hx] at hp
 | ok ts =>
  simp only [parseS,hx] at hp
  cases hq:programP (ts.map ptOf) with
  | err p c=>rw [hq] at hp;simp at hp
  | ok a l =>
   rw [hq] at hp
   simp only [Except.ok.injEq] at hp
   subst hp
   have h1:=program_few hq
   have h2:=lexN_len _ _ _ _ hx
   rw [List.length_map] at h1
   exact ⟨by rw [flat_length];omega,flat_few 0 a (by omega)⟩
end
section
open Par
theorem bytesT_of (l:List Int)(h:∀x∈l,0≤x∧x<256):Tr.bytesI (strOfNums l)=l:=by
 unfold Tr.bytesI
 rw [strOfNums_data,List.map_map]
 conv=>rhs;rw [← List.map_id l]
 apply List.map_congr_left
 intro x hx
 have:=h x hx
 have e:(UInt8.ofNat x.toNat).toNat=x.toNat:=by simp;omega
 simp only [Function.comp,e,id]
 rw [Int.toNat_of_nonneg this.1]
theorem numV_bound:∀(l:List Int) (m v:Int),0≤m→m≤2147483647→numV m l=some v→0≤v∧v≤2147483647
 | [],m,v,h0,h1,h=>by simp only [numV,Option.some.injEq] at h;omega
 | c::r,m,v,h0,h1,h=>by
  simp only [numV] at h
  split at h
  · rename_i hd
    simp only [isDigit,Bool.and_eq_true,decide_eq_true_eq] at hd
    split at h
    · simp at h
    · exact numV_bound r _ v (by omega) (by omega) h
  · simp only [Option.some.injEq] at h;omega
theorem run_takes (p:Int→Bool):∀l:List Int,∀x∈l.take (run p l),p x=true
 | [],x,hx=>by simp at hx
 | c::r,x,hx=>by
  simp only [run] at hx
  split at hx
  · rename_i hc
    rw [List.take_succ_cons] at hx
    rcases List.mem_cons.1 hx with rfl|hx
    · exact hc
    · exact run_takes p r x hx
  · simp at hx
theorem nameB_byte {x:Int}(h:isNameB x=true):0≤x∧x<256:=by
 simp only [isNameB,isLetter,isDigit,Bool.or_eq_true,Bool.and_eq_true,decide_eq_true_eq,beq_iff_eq] at h
 omega
theorem step_good {c:Int}{r:List Int}{k n:Int}{len a b:Nat}(h:step (c::r)=.tok k len n)(hf:(c::r).length≤70000):GoodP (ptOf ⟨k,a,b,(c::r).take len,n⟩):=by
 simp only [step] at h
 split at h
 · rename_i hc
   simp only [Step.tok.injEq] at h
   obtain ⟨rfl,rfl,rfl⟩:=h
   refine ⟨fun _=>⟨?_,by simp only [ptOf,strOfNums_size,List.length_take];omega⟩,by simp [ptOf]⟩
   have hall:=run_takes isNameB (c::r)
   show Tr.namesF (Tr.bytesI (strOfNums ((c::r).take (run isNameB (c::r)))))=true
   rw [bytesT_of _ (fun x hx=>nameB_byte (hall x hx))]
   have hp:run isNameB (c::r)=run isNameB r+1:=run_pos (by simp [isNameB,hc])
   rw [hp] at hall ⊢
   rw [List.take_succ_cons] at hall ⊢
   unfold Tr.namesF
   simp only [hc,Bool.true_and,List.all_eq_true]
   exact hall
 · split at h
   · split at h
     · rename_i n' hn
       simp only [Step.tok.injEq] at h
       obtain ⟨rfl,rfl,rfl⟩:=h
       exact ⟨by simp [ptOf],fun _=>numV_bound _ 0 _ (by decide) (by decide) hn⟩
     · simp at h
   · split at h
     · simp only [Step.tok.injEq] at h
       obtain ⟨rfl,rfl,rfl⟩:=h
       exact ⟨by simp [ptOf],by simp [ptOf]⟩
     · simp at h
theorem end_good (p:Nat):GoodP (ptOf (Tok.endAt p)):=⟨by simp [ptOf,Tok.endAt],by simp [ptOf,Tok.endAt]⟩
theorem lexN_good (f p:Nat)(l:List Int)(ts:List Tok)(hf:l.length≤70000)(h:lexN f p l=.ok ts):∀t∈ts,GoodP (ptOf t):=by
 induction f generalizing p l ts with
 | zero =>
  simp only [lexN,Except.ok.injEq] at h
  subst h
  intro t ht
  rw [List.mem_singleton.1 ht]
  exact end_good p
 | succ f ih =>
  simp only [lexN] at h
  split at h
  · simp only [Except.ok.injEq] at h
    subst h
    intro t ht
    rw [List.mem_singleton.1 ht]
    exact end_good _
  · rename_i c r hd
    split at h
    · simp at h
    · rename_i k len n hs
      cases hu:lexN f (p+blk false l+len) ((c::r).drop len) with
      | error e=>rw [hu] at h;simp [pre] at h
      | ok us =>
       have hd2:(c::r).length≤70000:=by rw [← hd,List.length_drop];omega
       rw [hu] at h
       simp only [pre,Except.ok.injEq,List.singleton_append] at h
       subst h
       intro t ht
       rcases List.mem_cons.1 ht with rfl|ht
       · exact step_good hs hd2
       · exact ih _ _ us (by rw [List.length_drop];omega) hu t ht
theorem parse_wf {xs:List Int}{ns:List Nd}(hp:parseS xs=.ok ns)(hl:xs.length≤60000):∃a,ns=flat 0 a∧wfR a∧a.kind=1∧a.size≤xs.length+2:=by
 cases hx:lexS xs with
 | error e=>simp [parseS,hx] at hp
 | ok ts =>
  simp only [parseS,hx] at hp
  cases hq:programP (ts.map ptOf) with
  | err p c=>rw [hq] at hp;simp at hp
  | ok a l =>
   rw [hq] at hp
   simp only [Except.ok.injEq] at hp
   have h1:=program_few hq
   have h2:=lexN_len _ _ _ _ hx
   rw [List.length_map] at h1
   have hg:GL (ts.map ptOf):=fun t ht=>by
    obtain ⟨u,hu,rfl⟩:=List.mem_map.1 ht
    exact lexN_good _ _ _ _ (by omega) hx u hu
   obtain ⟨⟨h3,h4⟩,_⟩:=gd_program _ hg a l hq
   exact ⟨a,hp.symm,h3,h4,by omega⟩
theorem parse_right {xs:List Int}{ns:List Nd}(hp:parseS xs=.ok ns)(hl:xs.length≤60000):Tr.rightP ns=true∧∀nd∈ns,nd.text.size≤70000:=by
 obtain ⟨a,rfl,h1,h2,h3⟩:=parse_wf hp hl
 exact ⟨right_flatR a (by omega) h2 h1,texts_few 0 a h1⟩
end
end Go.Proofs.YthdioipfdbbmmaaGreatDoor
