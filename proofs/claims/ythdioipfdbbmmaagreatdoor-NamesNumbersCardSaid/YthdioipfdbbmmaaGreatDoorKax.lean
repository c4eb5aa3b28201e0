/- Contracts. -/
import Derived.Test.YthdioipfdbbmmaaGreatDoorKah
import Derived.Test.YthdioipfdbbmmaaGreatDoorKai
import Derived.Test.YthdioipfdbbmmaaGreatDoorKak
import Derived.Test.YthdioipfdbbmmaaGreatDoorKal
import Derived.Test.YthdioipfdbbmmaaGreatDoorKap
import Derived.Test.YthdioipfdbbmmaaGreatDoorKaq
import Derived.Test.YthdioipfdbbmmaaGreatDoorKaw
import Derived.OwnWalkIn
import Derived.WalkSmall
import Derived.Lib.OwnKind
import Derived.Maps.AppendAt
import Derived.Deep.RegionHeld
import Derived.Deep.AppendLies
import Derived.Deep.RegionHeld3
import Derived.Deep.RegionLaw
set_option linter.all false
set_option maxRecDepth 1000000
set_option maxHeartbeats 16000000
namespace Go.Proofs.YthdioipfdbbmmaaGreatDoor
namespace Nm
open Go.RowKit Go.Maps Tr Go.Shelf
attribute [local go_sem] Oper.semAt_some
theorem back1_zero_in (F:Fence)(n:Nat)(h7:F.fn 207)(hro:F.round=none)(l Bs:Nat)(a:Option Addr)(c:Nat)(J:List (Int × Int)→World→Prop)(W:World)(hBs:W.cell? ⟨Bs,0,none⟩=some (.slice a 0 c))(h0:J [] W) :
 CallsIn F n Tryz.prog 207 #[.func (.yield l) #[] #[],.pointer (some ⟨Bs,0,none⟩)] W fun e W'=>(∃v,e=.returned v)∧J [] W':=by
 refine callsIn_of_wp Tryz.func207 rfl h7 ?_ hro
 simp only [Tryz.ntmps207,List.size_toArray,List.length_cons,List.length_nil,Nat.reduceAdd,Nat.reduceSub,Array.replicate_succ,Array.replicate_zero,List.push_toArray,List.append_toArray,List.nil_append,List.cons_append]
 gi_wp2
 gi_loopw [3] (fun i wr=>i=.int .i64 (-1)∧J [] wr) (fun _ _=>0)
 case atStart=>exact ⟨rfl,h0⟩
 case round =>
  obtain ⟨rfl,hJs⟩:=hrel
  gi_wp2
  go_end0
  exact ⟨⟨_,rfl⟩,hJs⟩
def IntsW (n₀:Nat)(W:World)(sv:Value)(zs:List Int):Prop :=
 (∃a c,sv=.slice a 0 c∧zs=[])∨∃b off cap,sv=.slice (some ⟨b,off,none⟩) zs.length cap∧b<n₀∧∀j,j<zs.length→W.cell? ⟨b,off+j,none⟩=some (.int .i64 (zs[j]?.getD 0))
theorem IntsW.below {n₀:Nat}{A B:World}(h:Below n₀ A B){sv:Value}{zs:List Int}:IntsW n₀ A sv zs→IntsW n₀ B sv zs
 | .inl e=>.inl e
 | .inr ⟨b,off,cap,e,hb,hc⟩=>.inr ⟨b,off,cap,e,hb,fun j hj=>(h.cell (p:=⟨b,off+j,none⟩) hb).trans (hc j hj)⟩
theorem IntsW.of_iv {W:World}{p:Option Addr}{len c:Nat}{xs:List Int}(h:IV W p len c xs):IntsW W.heap.size W (.slice p len c) xs:=by
 by_cases h0:0<len
 · obtain ⟨b,off,rfl,hlt,hc⟩:=h.cell h0
   exact .inr ⟨b,off,c,by rw [h.len_eq],hlt,fun j hj=>by
    rw [hc j (by rw [← h.len_eq];exact hj)]
    rfl⟩
 · obtain rfl:len=0:=by omega
   exact .inl ⟨p,c,rfl,List.eq_nil_of_length_eq_zero h.len_eq⟩
theorem back_stopsW (F:Fence)(n:Nat)(h7:F.fn 207)(hro:F.round=none)(hn:1≤n)(Bs n₀:Nat)(sv:Value)(zs:List Int)(hreach:zs.length*8≤140737488351232)(w:World)(hBs:Bs<w.heap.size)(hn₀:n₀≤w.heap.size)
 (hc:w.cell? ⟨Bs,0,none⟩=some sv) (hI:IntsW n₀ w sv zs) :
 SeqStopsK F n Tryz.prog 207 #[.pointer (some ⟨Bs,0,none⟩)] (fun x:Int × Int=>#[Value.int .i64 x.1,Value.int .i64 x.2]) (KeepsAt n₀ Bs) (fun ys=>ys=upto (backF zs) zs.length)
  (fun pre=>∃k,k≤zs.length∧pre=upto (backF zs) k) zs.length w:=fun l J Jx W hW _ _ hY h0=>by
 have hc':=(hW.cell (p:=⟨Bs,0,none⟩) hBs).trans hc
 rcases hI.below (hW.mono hn₀) with ⟨a,c,rfl,rfl⟩|⟨b,off,cap,rfl,hb,hcs⟩
 · exact (back1_zero_in F n h7 hro l Bs a c J W hc' h0).mono fun e W' ⟨he,hj⟩=>⟨he,.inl ⟨_,rfl,hj⟩⟩
 · exact back1_in F n h7 hro hn l Bs n₀ b off zs.length cap zs rfl hreach hb J Jx hY W hc' hcs h0
theorem itm_app (a b:List (Int × Int)):((a++b).map (·.2)).reverse=(b.map (·.2)).reverse++(a.map (·.2)).reverse:=by simp
theorem back_ints (l:List Int):((upto (backF l) l.length).map (·.2)).reverse=l:=by
 apply List.ext_getElem
 · simp [upto]
 · intro i h1 h2
   simp only [List.getElem_reverse,List.getElem_map,upto,List.getElem_range,backF,List.length_map,List.length_range]
   have:l.length-1-(l.length-1-i)=i:=by omega
   rw [this]
   simp [h2]
section
variable {C:Cx}{pb:Nat}{s:St}{pile:List Int}{ms:List (Nat × Bool)}{vv bv pv:Value}{cs:Array Value}{w:World}
theorem Rd.aside {X Y:World}{B:Nat}{row:Option Nat}(h:Rd C pb s pile ms vv bv pv cs X)(ok:CxOk C)(hg:X.grownBy Y row)(hB:C.W.heap.size≤B)(hm:∀m∈ms,m.1<B)(hr:∀r,row=some r→B≤r∧∃o:Obj,X.heap[r]?=some o∧o.isCells=false):Rd C pb s pile ms vv bv pv cs Y:=by
 have hk:∀q,row=some q→∀t,kd X q≠some (t+1):=fun q e t=>by
  obtain ⟨_,o,ho,hc⟩:=hr q e
  unfold kd
  rw [ho]
  cases o<;>simp [ko,Obj.isCells] at hc ⊢
 refine ⟨h.lo.grown ok hg (fun q e=>Nat.le_trans hB (hr q e).1),h.pbl,?_,own_kind h.vars hg (fun q e=>hk q e _),own_kind h.blocks hg (fun q e=>hk q e _),own_kind h.pile hg (fun q e=>hk q e _),?_⟩
 · refine (hg.block pb (Array.getElem?_eq_some_iff.1 h.blk).1 (fun e=>?_)).trans h.blk
   exact hk pb e.symm _ (kd_row h.blk)
 · refine ⟨h.maps.len,fun j hj=>⟨(h.maps.map j hj).1,map_kind (h.maps.map j hj).2 hg (fun e=>?_)⟩,h.maps.apart,h.maps.own⟩
   have h1:=hm (ms.getD j (0,false)) (by simp [List.getD,hj])
   have h2:=(hr _ e).1
   omega
theorem Rd.mapsLt (h:Rd C pb s pile ms vv bv pv cs w):∀m∈ms,m.1<w.heap.size:=by
 intro x hx
 obtain ⟨j,hj,rfl⟩:=List.getElem_of_mem hx
 have:=(h.maps.map j hj).2.lt
 simpa [List.getD,hj] using this
theorem next_at (h:Rd C pb s pile ms vv bv pv (C.cells vv bv pv) w)(ok:CxOk C)(kp:Option Addr)(kl kc:Nat)(l:List Int)(hl:l.length≤70000)(hp:pile.length≤1000000)(hI:IntsW C.Wn.heap.size w (.slice kp kl kc) l) :
 Calls Tryz.prog 271 #[.pointer (some ⟨pb,0,none⟩),.slice kp kl kc] w fun e W'=>e=.returned (.tuple #[])∧∃pv',Rd C pb s (l++pile) ms vv bv pv' (C.cells vv bv pv') W':=by
 have hml:=h.mapsLt
 have hpbl:pb<w.heap.size:=(Array.getElem?_eq_some_iff.1 h.blk).1
 refine callsIn_wide.1 (callsIn_of_wp_marks (n:=4) Tryz.func271 rfl trivial ?_ rfl)
 simp only [Tryz.ntmps271,List.size_toArray,List.length_cons,List.length_nil,Nat.reduceAdd,Nat.reduceSub,Array.replicate_succ,Array.replicate_zero,List.push_toArray,List.append_toArray,List.nil_append,List.cons_append]
 gi_wp2
 refine ⟨trivial,(callsIn_wide.2 (back_at _ _ _ _)).mono ?_⟩
 rintro e w' ⟨rfl,rfl⟩
 gi_wp2
 have bO:=Boxed.new w 296 (.pointer (some ⟨pb,0,none⟩))
 have bN:=Boxed.new (w.alloc (.cells #[.pointer (some ⟨pb,0,none⟩)] 296)) 32 (.slice kp kl kc)
 rw [World.size_alloc] at bN
 have hB0:Below w.heap.size w ((w.alloc (.cells #[.pointer (some ⟨pb,0,none⟩)] 296)).alloc (.cells #[.slice kp kl kc] 32)):=((Below.refl _ w).alloc (Nat.le_refl _) _).alloc (by simp) _
 have hs2:((w.alloc (.cells #[.pointer (some ⟨pb,0,none⟩)] 296)).alloc (.cells #[.slice kp kl kc] 32)).heap.size=w.heap.size+2:=by simp
 have bO2:=bO.alloc (.cells #[.slice kp kl kc] 32)
 obtain ⟨W2,hW2⟩:∃W2,(w.alloc (.cells #[.pointer (some ⟨pb,0,none⟩)] 296)).alloc (.cells #[.slice kp kl kc] 32)=W2:=⟨_,rfl⟩
 rw [hW2] at hs2 bO2 bN hB0 ⊢
 have hwn:C.Wn.heap.size≤w.heap.size:=h.lo.bn.size
 have hI2:IntsW C.Wn.heap.size W2 (.slice kp kl kc) l:=IntsW.below (hB0.mono hwn) hI
 have hle:C.Wn.heap.size≤W2.heap.size:=by omega
 have hlt1:w.heap.size+1<W2.heap.size:=by omega
 have R2:=h.on ok hB0
 have hsz:=h.lo.sz
 refine wpIn_rangeFunc_ownG (F:=Fence.wide) (n:=4) rfl (by omega) (gf := 207) (lb:=#[.pointer (some ⟨w.heap.size+1,0,none⟩)]) rfl trivial (enters_of Tryz.func207 (by kernel_rfl) rfl)
  (back_stopsW Fence.wide 3 trivial rfl (by omega) (w.heap.size+1) C.Wn.heap.size (.slice kp kl kc) l (by omega) W2 hlt1 hle bN.cell hI2) (fun h1 h2=>h1.trans h2) (KeepsAt.putObj hle hlt1) (Below.refl _ _) (fun _=>rfl)
  (fun (pre:List (Int × Int)) W=>(∃pv',Rd C pb s ((pre.map (·.2)).reverse++pile) ms vv bv pv' (C.cells vv bv pv') W)∧Boxed W w.heap.size 296 (.pointer (some ⟨pb,0,none⟩))∧Boxed W (w.heap.size+1) 32 (.slice kp kl kc))
  (fun _ _ _=>False)
  (fun pre X Y row hs hg hr => by
   obtain ⟨⟨pv',hR⟩,h1,h2⟩:=hs
   have hne:∀(B:Nat) (t:TypeId) (v:Value),Boxed X B t v→Boxed Y B t v:=fun B t v hv=>hv.kept hg (fun e'=>by
    obtain ⟨_,o,ho,hc⟩:=hr B e'.symm
    rw [show X.heap[B]?=_ from hv] at ho;cases ho;cases hc)
   exact ⟨⟨pv',hR.aside ok hg (B:=W2.heap.size) (by omega) (fun m hm=>by have:=hml m hm;omega) hr⟩,hne _ _ _ h1,hne _ _ _ h2⟩)
  (fun _ _ _ _ _ hs _ _=>hs)
  ⟨⟨pv,by simpa using R2⟩,bO2,bN⟩
  (fun x=>{ tmps:=#[.pointer (some ⟨pb,0,none⟩),.slice kp kl kc,.pointer (some ⟨w.heap.size,0,none⟩),undef,undef,.int .i64 x.2,.slice kp kl kc,.func (.func 207) #[] #[.pointer (some ⟨w.heap.size+1,0,none⟩)],.int .i64 x.1,.int .i64 x.2,undef,undef,undef,undef,undef,undef,undef,undef,undef,undef],defers:=[] }) ?assign ?body ?done ?stop
 case assign =>
  intro l x W K hK
  gi_wp2
  exact hK
 case body =>
  rintro l' pre x W ⟨⟨pv',hR⟩,hb1,hb2⟩ hlt
  obtain ⟨j0,J0,J1,J2,J3⟩:=info_pN infoN
  obtain ⟨vg,vq,hpv⟩:=own_slice hR.pile
  obtain ⟨pn,hpn⟩:∃pn,((pre.map (·.2)).reverse++pile).length=pn:=⟨_,rfl⟩
  have hpn2:pn=pre.length+pile.length:=by rw [← hpn];simp
  have hpb:pn+1≤1100000:=by omega
  rw [hpn] at hpv
  subst hpv
  clear hpn2
  have HP0:W.ownsRow C.W.heap.size 3 1 (.slice vg pn vq) pn (pileC ((pre.map (·.2)).reverse++pile)):=by have:=hR.pile;rw [hpn] at this;exact this
  have HPA:(W.drew.alloc (.cells #[.int .i64 x.2] 3)).ownsRow C.W.heap.size 3 1 (.slice vg pn vq) pn (pileC ((pre.map (·.2)).reverse++pile)):=HP0.drew.alloc _
  have HSA:C.W.heap.size≤(W.drew.alloc (.cells #[.int .i64 x.2] 3)).heap.size:=Nat.le_trans hR.lo.sz (by simp)
  have p3:W.cell? ⟨pb,3,none⟩=some (.slice vg pn vq):=hR.ccell 3 _ rfl
  have hbc:=hb1.cell
  have HPN:=lh hpn
  have hS:W.drew.cell? ⟨w.heap.size,0,none⟩=some (.pointer (some ⟨pb,0,none⟩)):=hbc
  have hSA:(W.drew.alloc (.cells #[.int .i64 x.2] 3)).cell? ⟨w.heap.size,0,none⟩=some (.pointer (some ⟨pb,0,none⟩)):=(World.cell?_alloc_lt _ _ ⟨w.heap.size,0,none⟩ (cell_ltB hbc)).trans hbc
  have p3A:(W.drew.alloc (.cells #[.int .i64 x.2] 3)).cell? ⟨pb,3,none⟩=some (.slice vg pn vq):=(World.cell?_alloc_lt _ _ ⟨pb,3,none⟩ (cell_ltB p3)).trans p3
  have p3B:(W.alloc (.cells #[.int .i64 x.2] 3)).cell? ⟨pb,3,none⟩=some (.slice vg pn vq):=p3A
  have FIN:∀g5 cap5 (w5:World),w5.ownsRow C.W.heap.size 3 1 (.slice (some ⟨g5,0,none⟩) (pn+1) cap5) (pn+1) (pileC ((pre.map (·.2)).reverse++pile)++[.int .i64 x.2])→(W.drew.alloc (.cells #[.int .i64 x.2] 3)).grownBy w5 (Value.slice vg pn vq).ownBlock →
   w5.cell? ⟨w.heap.size,0,none⟩=some (.pointer (some ⟨pb,0,none⟩))∧w5.cell? ⟨pb,3,none⟩=some (.slice vg pn vq)∧w5.frozen? ⟨pb,3,none⟩=false∧(w5.setCell ⟨pb,3,none⟩ (.slice (some ⟨g5,0,none⟩) (pn+1) cap5)).cell? ⟨w.heap.size,0,none⟩=some (.pointer (some ⟨pb,0,none⟩)) ∧
   (KeepsFrom W2.heap.size W (w5.setCell ⟨pb, 3, none⟩ (.slice (some ⟨g5, 0, none⟩) (pn + 1) cap5)) ∧ KeepsAt C.Wn.heap.size (w.heap.size + 1) W (w5.setCell ⟨pb, 3, none⟩ (.slice (some ⟨g5, 0, none⟩) (pn + 1) cap5)) ∧
    (∃pv',Rd C pb s (((pre++[x]).map (·.2)).reverse++pile) ms vv bv pv' (C.cells vv bv pv') (w5.setCell ⟨pb,3,none⟩ (.slice (some ⟨g5,0,none⟩) (pn+1) cap5)))∧Boxed (w5.setCell ⟨pb,3,none⟩ (.slice (some ⟨g5,0,none⟩) (pn+1) cap5)) w.heap.size 296 (.pointer (some ⟨pb,0,none⟩))∧Boxed (w5.setCell ⟨pb,3,none⟩ (.slice (some ⟨g5,0,none⟩) (pn+1) cap5)) (w.heap.size+1) 32 (.slice kp kl kc)):=by
   intro g5 cap5 w5 hown5 hgrow5
   have hbA:Below W.heap.size W (W.drew.alloc (.cells #[.int .i64 x.2] 3)):=((Below.refl _ W).drew).alloc (Nat.le_refl _) _
   have RA:=hR.on ok hbA
   have RV:=Rd.pushItem (x:=x.2) RA ok (by rw [HPN.out];exact hown5) hgrow5
   have RS:=RV.cell ok 3 (.slice (some ⟨g5,0,none⟩) (pn+1) cap5)
   have hkp:∀q,(Value.slice vg pn vq).ownBlock=some q→kd (W.drew.alloc (.cells #[.int .i64 x.2] 3)) q=some (3+1):=fun q e=>kd_own HPA e
   have box1:∀(B:Nat) (t:TypeId) (v:Value),t≠3→t ≠ 276→Boxed W B t v→Boxed w5 B t v∧Boxed (w5.setCell ⟨pb,3,none⟩ (.slice (some ⟨g5,0,none⟩) (pn+1) cap5)) B t v:=by
    intro B t v ht ht2 hv
    have h1:Boxed (W.drew.alloc (.cells #[.int .i64 x.2] 3)) B t v:=(hbA.block B (Array.getElem?_eq_some_iff.1 hv).1).trans hv
    have h2:Boxed w5 B t v:=h1.kept hgrow5 (fun e=>by
     have:=hkp B e.symm
     rw [kd_row h1] at this
     exact ht (by simpa using this))
    refine ⟨h2,h2.kept (grownBy_set w5 _ _) (fun e=>?_)⟩
    have e:B=pb:=Option.some.inj e
    subst e
    have h3:=RV.blk
    rw [show w5.heap[B]?=_ from h2] at h3
    first|cases h3|(cases h3;exact ht2 rfl)
   obtain ⟨c1,c2⟩:=box1 _ _ _ (by decide) (by decide) hb1
   obtain ⟨_,d2⟩:=box1 _ _ _ (by decide) (by decide) hb2
   refine ⟨c1.cell,RV.ccell 3 _ rfl,RV.cfz 3,c2.cell,?_,?_,⟨_,by rw [itm_app];exact RS⟩,c2,d2⟩
   · refine ⟨Nat.le_trans hbA.size (Nat.le_trans hgrow5.size (grownBy_set w5 ⟨pb,3,none⟩ (.slice (some ⟨g5,0,none⟩) (pn+1) cap5)).size),fun k o _ hk ho=>?_⟩
     have hkl:=(Array.getElem?_eq_some_iff.1 hk).1
     have h1:(W.drew.alloc (.cells #[.int .i64 x.2] 3)).heap[k]?=some o:=(hbA.block k hkl).trans hk
     have h2:w5.heap[k]?=some o:=(hgrow5.block k (Array.getElem?_eq_some_iff.1 h1).1 (fun e=>by
      have:=hkp k e.symm
      unfold kd at this
      rw [h1] at this
      cases o<;>simp [ko,Obj.isCells] at this ho)).trans h1
     refine ((grownBy_set w5 ⟨pb,3,none⟩ _).block k (Array.getElem?_eq_some_iff.1 h2).1 (fun e=>?_)).trans h2
     have e:k=pb:=Option.some.inj e
     subst e
     have h3:=RV.blk
     rw [h2] at h3
     cases h3
     cases ho
   · refine ⟨Nat.le_trans hbA.size (Nat.le_trans hgrow5.size (grownBy_set w5 ⟨pb,3,none⟩ (.slice (some ⟨g5,0,none⟩) (pn+1) cap5)).size),fun k hk hkl=>?_⟩
     rcases hk with hk|rfl
     · rw [RS.lo.bn.block k hk,hR.lo.bn.block k hk]
     · exact (show _=_ from d2).trans (show _=_ from hb2).symm
  refine wpIn_block ?_
  refine wpIn_region_any (by kernel_rfl) (any_in (noDefer_spec (by kernel_rfl)) (fun ⟨_,_,h⟩=>h) _ _ _ _ (wpAny_of_held (S:=fun W'=>W'.cell? ⟨w.heap.size,0,none⟩=some (.pointer (some ⟨pb,0,none⟩))) _ _ _ _ ?_))
  refine tk (i:=0) (v:=.pointer (some ⟨pb,0,none⟩)) rfl hS (fun w' hSw=>by (try dsimp only at hSw);go_simp) ?_
  try simp only [Act.put,List.setIfInBounds_toArray,List.set_cons_zero,List.set_cons_succ]
  refine tk (i:=1) (v:=.pointer (some ⟨pb,0,none⟩)) rfl hS (fun w' hSw=>by (try dsimp only at hSw);go_simp) ?_
  try simp only [Act.put,List.setIfInBounds_toArray,List.set_cons_zero,List.set_cons_succ]
  refine tn 2 hS ?_
  try simp only [Act.put,List.setIfInBounds_toArray,List.set_cons_zero,List.set_cons_succ]
  refine tn 3 hS ?_
  try simp only [Act.put,List.setIfInBounds_toArray,List.set_cons_zero,List.set_cons_succ]
  refine tn 5 hS ?_
  try simp only [Act.put,List.setIfInBounds_toArray,List.set_cons_zero,List.set_cons_succ]
  refine wpAnyH_ready (rs:=[4,6]) (by kernel_rfl) (by simp) (AllReadyH.cons rfl (fun K hK=>?_) (AllReadyH.cons rfl (fun K hK=>?_) AllReadyH.nil))
  · go_simp
    refine hK.out _ _ hS (fun _=>?_)
    clear hK K
    try simp only [Act.put,List.setIfInBounds_toArray,List.set_cons_zero,List.set_cons_succ]
    refine wpAnyH_ready (rs:=[6]) (by kernel_rfl) (by simp) (AllReadyH.cons rfl (fun K hK=>?_) AllReadyH.nil)
    go_simp
    refine hK.out _ _ hSA (fun _=>?_)
    clear hK K
    try simp only [Act.put,List.setIfInBounds_toArray,List.set_cons_zero,List.set_cons_succ]
    refine wpAnyH_ready (rs:=[7]) (by kernel_rfl) (by simp) (AllReadyH.cons rfl (fun K hK=>?_) AllReadyH.nil)
    refine step_append_lies _ (by rfl) (.tmp 14) (.tmp 16) 32 (by rfl) C.W.heap.size 3 j0 _ 1 8 Tryz.underlying32 J0 J1 J2 J3 rfl (by decide) (.slice vg pn vq) pn _ (by rfl) HPA ⟨W.heap.size,0,none⟩ 1 1 [.int .i64 x.2] (by rfl) (by rfl) (World.news_of_block (cs:=#[.int .i64 x.2]) (t:=3) (fr:=(0,0)) (heap_alloc_new _ _)) (by simp [Value.oneCell']) (by decide) (by unfold maxLen;omega) (by omega) HSA _ (by rfl) ?_
    intro g5 cap5 w5 hown5 hgrow5 hat5 hlt5
    have hS7:w5.cell? ⟨w.heap.size,0,none⟩=some (.pointer (some ⟨pb,0,none⟩)):=(FIN g5 cap5 w5 hown5 hgrow5).1
    have v3:=(FIN g5 cap5 w5 hown5 hgrow5).2.1
    have z3:=(FIN g5 cap5 w5 hown5 hgrow5).2.2.1
    have hS10:=(FIN g5 cap5 w5 hown5 hgrow5).2.2.2.1
    refine hK.out _ _ hS7 (fun _=>?_)
    clear hK K
    try simp only [Act.put,List.setIfInBounds_toArray,List.set_cons_zero,List.set_cons_succ]
    refine tn 8 hS7 ?_
    try simp only [Act.put,List.setIfInBounds_toArray,List.set_cons_zero,List.set_cons_succ]
    refine tn 9 hS7 ?_
    try simp only [Act.put,List.setIfInBounds_toArray,List.set_cons_zero,List.set_cons_succ]
    refine wpAnyH_ready (rs:=[10]) (by kernel_rfl) (by simp) (AllReadyH.cons rfl (fun K hK=>?_) AllReadyH.nil)
    go_simp
    refine hK.out _ _ hS10 (fun _=>?_)
    clear hK K
    try simp only [Act.put,List.setIfInBounds_toArray,List.set_cons_zero,List.set_cons_succ]
    refine wpAnyH_done (by kernel_rfl) ?_ _
    exact (FIN g5 cap5 w5 hown5 hgrow5).2.2.2.2
  · go_simp
    refine hK.out _ _ hSA (fun _=>?_)
    clear hK K
    try simp only [Act.put,List.setIfInBounds_toArray,List.set_cons_zero,List.set_cons_succ]
    refine wpAnyH_ready (rs:=[4]) (by kernel_rfl) (by simp) (AllReadyH.cons rfl (fun K hK=>?_) AllReadyH.nil)
    go_simp
    refine hK.out _ _ hSA (fun _=>?_)
    clear hK K
    try simp only [Act.put,List.setIfInBounds_toArray,List.set_cons_zero,List.set_cons_succ]
    refine wpAnyH_ready (rs:=[7]) (by kernel_rfl) (by simp) (AllReadyH.cons rfl (fun K hK=>?_) AllReadyH.nil)
    refine step_append_lies _ (by rfl) (.tmp 14) (.tmp 16) 32 (by rfl) C.W.heap.size 3 j0 _ 1 8 Tryz.underlying32 J0 J1 J2 J3 rfl (by decide) (.slice vg pn vq) pn _ (by rfl) HPA ⟨W.heap.size,0,none⟩ 1 1 [.int .i64 x.2] (by rfl) (by rfl) (World.news_of_block (cs:=#[.int .i64 x.2]) (t:=3) (fr:=(0,0)) (heap_alloc_new _ _)) (by simp [Value.oneCell']) (by decide) (by unfold maxLen;omega) (by omega) HSA _ (by rfl) ?_
    intro g5 cap5 w5 hown5 hgrow5 hat5 hlt5
    have hS7:w5.cell? ⟨w.heap.size,0,none⟩=some (.pointer (some ⟨pb,0,none⟩)):=(FIN g5 cap5 w5 hown5 hgrow5).1
    have v3:=(FIN g5 cap5 w5 hown5 hgrow5).2.1
    have z3:=(FIN g5 cap5 w5 hown5 hgrow5).2.2.1
    have hS10:=(FIN g5 cap5 w5 hown5 hgrow5).2.2.2.1
    refine hK.out _ _ hS7 (fun _=>?_)
    clear hK K
    try simp only [Act.put,List.setIfInBounds_toArray,List.set_cons_zero,List.set_cons_succ]
    refine tn 8 hS7 ?_
    try simp only [Act.put,List.setIfInBounds_toArray,List.set_cons_zero,List.set_cons_succ]
    refine tn 9 hS7 ?_
    try simp only [Act.put,List.setIfInBounds_toArray,List.set_cons_zero,List.set_cons_succ]
    refine wpAnyH_ready (rs:=[10]) (by kernel_rfl) (by simp) (AllReadyH.cons rfl (fun K hK=>?_) AllReadyH.nil)
    go_simp
    refine hK.out _ _ hS10 (fun _=>?_)
    clear hK K
    try simp only [Act.put,List.setIfInBounds_toArray,List.set_cons_zero,List.set_cons_succ]
    refine wpAnyH_done (by kernel_rfl) ?_ _
    exact (FIN g5 cap5 w5 hown5 hgrow5).2.2.2.2
 case done =>
  rintro D ys W hD rfl ⟨⟨pv',hR⟩,_,_⟩ hK
  gi_wp2
  refine ⟨by simp,.inl ⟨_,_,rfl,run_takeDeferred hK,?_⟩⟩
  have hback:((upto (backF l) l.length).map (·.2)).reverse=l:=back_ints l
  rw [hback] at hR
  exact ⟨_,results_none rfl _ _ _,rfl,_,hR.aside ok (grownBy_putObj' W D _) (B:=W2.heap.size) (by omega) (fun m hm=>by have:=hml m hm;omega) (fun r e=>by cases e;exact ⟨hD,_,hK,rfl⟩)⟩
 case stop =>
  rintro D c pre W _ _ h _
  exact h.elim
end
end Nm
section
def again:List Tok→(Nat→List Int)→List Int
 | [],_=>[]
 | t::r,f=>t.text++(f 0++again r fun i=>f (i+1))
end
section
theorem lexN_shape (f p:Nat)(l:List Int)(ts:List Tok)(hf:l.length<f)(h:lexN f p l=.ok ts):∃vs,ts=vs++[Tok.endAt (p+l.length)]∧∀t∈vs,t.kind≠4∧t.at'≤p+l.length:=by
 induction f generalizing p l ts with
 | zero=>omega
 | succ f ih =>
  simp only [lexN] at h
  have hb:=blk_le false l
  split at h
  · rename_i hd
    simp only [Except.ok.injEq] at h
    subst h
    have h2:=congrArg List.length hd
    rw [List.length_drop,List.length_nil] at h2
    exact ⟨[],by rw [show p+blk false l=p+l.length by omega];rfl,fun t ht=>by simp at ht⟩
  · rename_i c r hd
    have hcr:(c::r).length=l.length-blk false l:=by rw [← hd,List.length_drop]
    split at h
    · simp at h
    · rename_i k len n hs
      have hl:=step_len hs
      cases hu:lexN f (p+blk false l+len) ((c::r).drop len) with
      | error e=>rw [hu] at h;simp [pre] at h
      | ok us =>
       rw [hu] at h
       simp only [pre,Except.ok.injEq,List.singleton_append] at h
       subst h
       obtain ⟨vs,e,hv⟩:=ih _ _ us (by rw [List.length_drop];omega) hu
       have e2:p+blk false l+len+((c::r).drop len).length=p+l.length:=by rw [List.length_drop];omega
       rw [e2] at e hv
       refine ⟨_::vs,by rw [e];rfl,fun t ht=>?_⟩
       rcases List.mem_cons.1 ht with rfl|ht
       · exact ⟨by show k≠4;rcases hl.2.2 with h3|h3|h3<;>omega,by simp only;omega⟩
       · exact hv t ht
theorem lexS_shape {xs:List Int}{ts:List Tok}(h:lexS xs=.ok ts):∃vs,ts=vs++[Tok.endAt xs.length]∧∀t∈vs,t.kind≠4∧t.at'≤xs.length:=by
 have:=lexN_shape (xs.length+1) 0 xs ts (Nat.lt_succ_self _) h
 rwa [Nat.zero_add] at this
theorem ended_snoc (l:List PT)(e:PT)(he:e.kind=4∧e.txt=none0):Ended (l++[e]):=by
 induction l with
 | nil=>exact he
 | cons t r ih =>
  cases r with
  | nil=>exact he
  | cons u r=>exact ih
theorem end_pt (p:Nat):(ptOf (Tok.endAt p)).kind=4∧(ptOf (Tok.endAt p)).txt=none0:=⟨rfl,by simp [ptOf,Tok.endAt,strOfNums]⟩
def parseS (xs:List Int):Except (Nat × Int) (List Nd):=match lexS xs with
 | .error e=>.error e
 | .ok ts=>match programP (ts.map ptOf) with
  | .err p c=>.error (p,c)
  | .ok a _=>.ok (flat 0 a)
end
namespace Nm
open Go.RowKit Tr
def smallB (ns:List Nd):Bool:=decide (ns.length≤70000)&&ns.all fun x=>decide (x.kids.length≤70000)&&decide (x.text.size≤70000)
def chkE (l:List Int)(c:Int):Bool:=match parseS l with
 | .error _=>false
 | .ok ns=>rightP ns&&(smallB ns&&match whole ns with
  | .error x=>decide (x.2=c)
  | .ok _=>false)
def chkW (l:List Int):Bool:=match parseS l with
 | .error _=>false
 | .ok ns=>rightP ns&&(smallB ns&&match whole ns with
  | .error _=>false
  | .ok a=>decide (a.2.1.length=1)&&(decide ((a.2.1.map Pr.vars).getD 0 []=[⟨#[97]⟩,⟨#[120]⟩])&&(decide (0<ns.length)&&decide (a.2.2.getD (ns.length-1) 0=1))))
theorem ex1:chkE (bytesI ⟨#[112,114,111,99,32,112,40,41,32,123,32,101,109,105,116,32,120,59,32,125]⟩) 70=true:=by kernel_rfl
theorem ex2:chkE (bytesI ⟨#[112,114,111,99,32,112,40,41,32,123,32,105,102,32,49,32,60,32,50,32,123,32,108,101,116,32,120,32,61,32,49,59,32,125,32,101,109,105,116,32,120,59,32,125]⟩) 70=true:=by kernel_rfl
theorem ex3:chkE (bytesI ⟨#[116,97,98,108,101,32,116,40,99,44,32,100,41,59,32,112,114,111,99,32,112,40,41,32,123,32,112,117,116,32,116,91,49,93,40,50,41,59,32,125]⟩) 72=true:=by kernel_rfl
theorem ex4:chkE (bytesI ⟨#[112,114,111,99,32,112,40,41,32,123,32,105,102,32,49,32,60,32,50,32,123,32,99,104,111,112,59,32,125,32,125]⟩) 73=true:=by kernel_rfl
theorem ex0:chkW [116,97,98,108,101,32,116,40,99,41,59,32,112,114,111,99,32,112,40,97,41,32,123,32,114,101,97,100,32,120,32,61,32,116,91,97,93,46,99,59,32,101,109,105,116,32,120,59,32,125]=true:=by kernel_rfl
end Nm
section
open Go.RowKit
section
variable {E:Env}{v:Value}{kvs:List Value}{md:List Nd}{r:Nat}{l:List PT}{w:World}
def OkV (E:Env)(v:Value)(kvs:List Value)(md:List Nd)(r:Nat)(w:World)(x:Value)(l':List PT)(e:Ending)(w':World):Prop:=e=.returned x∧PS E v kvs md r l' w'∧Fr E w.heap.size v v w w'
theorem skip_at (h:PS E v kvs md r l w)(s:ByteArray)(hs0:s≠none0):Calls Tryz.prog 195 #[.pointer (some ⟨E.b,0,none⟩),.string s] w (PostE E (skipP s l) fun b l'=>OkV E v kvs md r w (.bool b) l'):=by
 have NX:=lh (isNext_at h s)
 clear h
 have hnot:=nt
 go_enter Tryz.func195,Tryz.ntmps195
 go_wp2_with fail
 (with_reducible refine NX.out.mono ?_)
 rintro e w1 ⟨t,l',hl,rfl,hs,hf⟩
 subst hl
 obtain ⟨i,t0,l0,sp,hl,hl0,hi,hb,_,_,_,_,_⟩:=hs.head
 obtain ⟨rfl,rfl⟩:=List.cons.inj hl
 have HS:=lh hs
 have HF:=lh hf
 have HB:=lh hb
 have HL:=lh hl0
 have hfew:=hs.few
 have c1:=cell_of_row w1 E.b 1 _ _ _ hb
 have z:=hs.fz
 simp only [List.getElem?_toArray,List.getElem?_cons_zero,List.getElem?_cons_succ] at c1
 clear hl hs hf NX hb hl0
 by_cases ht:t.txt=s
 · have ht2:t.txt≠none0:=by rw [ht];exact hs0
   have HR:Hid (skipP s (t::l')=.ok true l'):=lh (by rw [skipP,if_pos ht])
   have hd:decide (t.txt=s)=true:=decide_eq_true ht
   rw [hd]
   have H2:=lh ht2
   clear ht hd ht2
   go_wp2
   go_ret
   exact of_ok HR.out ⟨rfl,HS.out.next (Or.inr H2.out) HL.out HB.out,HF.out.setB 1 _⟩
 · have HR:Hid (skipP s (t::l')=.ok false (t::l')):=lh (by rw [skipP,if_neg ht])
   have hd:decide (t.txt=s)=false:=decide_eq_false ht
   rw [hd]
   clear ht hd
   go_wp2
   go_ret
   exact of_ok HR.out ⟨rfl,HS.out,HF.out⟩
theorem expect_at (h:PS E v kvs md r l w)(s:ByteArray)(hs0:s≠none0):Calls Tryz.prog 193 #[.pointer (some ⟨E.b,0,none⟩),.string s] w (PostE E (expectP s l) fun p l'=>OkV E v kvs md r w (.int .i64 (p:Int)) l'):=by
 have PK:=lh (peek_at h)
 have fl:=tok_f1
 clear h
 have hnot:=nt
 go_enter Tryz.func193,Tryz.ntmps193
 go_wp2_with fail
 (with_reducible refine PK.out.mono ?_)
 rintro e w1 ⟨t,l',sp,hl,rfl,hs,hf⟩
 subst hl
 have SK:=skip_at hs s hs0
 have HF:=lh hf
 have HS:=lh hs
 clear hs hf PK
 simp only [tokA]
 by_cases ht:t.txt=s
 · have SK1:=lh (post_ok SK (show skipP s (t::l')=.ok true l' by rw [skipP,if_pos ht]))
   have HR:Hid (expectP s (t::l')=.ok t.at' l'):=lh (by rw [expectP,if_pos ht])
   clear SK ht
   go_wp2_with fail
   (with_reducible refine SK1.out.mono ?_)
   rintro e w2 ⟨rfl,hs2,hf2⟩
   have HS2:=lh hs2
   have HF2:=lh (HF.out.trans (hf2.mono HF.out.size))
   clear hs2 hf2 SK1
   go_wp2
   go_ret
   exact of_ok HR.out ⟨rfl,HS2.out,HF2.out⟩
 · have SK1:=lh (post_ok SK (show skipP s (t::l')=.ok false (t::l') by rw [skipP,if_neg ht]))
   have HR:Hid (expectP s (t::l')=.err t.at' 50):=lh (by rw [expectP,if_neg ht])
   clear SK ht
   go_wp2_with fail
   (with_reducible refine SK1.out.mono ?_)
   rintro e w2 ⟨rfl,hs2,hf2⟩
   have RF:=lh (refused_at hs2 50)
   clear hs2 hf2 SK1
   go_wp2_with fail
   (with_reducible refine RF.out.mono ?_)
   rintro e w3 ⟨t3,l3,hl,rfl,hb⟩
   obtain ⟨rfl,rfl⟩:=List.cons.inj hl
   have HB:=lh hb
   clear RF hb
   go_wp2
   exact ⟨rfl,of_err HR.out HB.out⟩
def OkT (E:Env)(v:Value)(kvs:List Value)(md:List Nd)(r:Nat)(w:World)(t:PT)(l':List PT)(e:Ending)(w':World):Prop:=∃sp,e=.returned (tokA t sp)∧PS E v kvs md r l' w'∧Fr E w.heap.size v v w w'
theorem take_at (h:PS E v kvs md r l w)(k:Int)(hk:k≠4):Calls Tryz.prog 200 #[.pointer (some ⟨E.b,0,none⟩),.int .u8 k] w (PostE E (takeP k l) fun t l'=>OkT E v kvs md r w t l'):=by
 have hw1:Hid (w.heap.size+1=(w.alloc (.cells #[.int .u8 0,.int .i64 0,.int .i64 0,.string ⟨#[]⟩,.int .i64 0] 29)).heap.size):=lh (by simp)
 have L0:=lh (Lcl.new h (.cells #[.int .u8 0,.int .i64 0,.int .i64 0,.string ⟨#[]⟩,.int .i64 0] 29))
 have F0:Hid (Fr E w.heap.size v v w (w.alloc (.cells #[.int .u8 0,.int .i64 0,.int .i64 0,.string ⟨#[]⟩,.int .i64 0] 29))):=lh ((Fr.refl _ _ _ _).alloc (Nat.le_refl _) _)
 have PK:=lh (peek_at (h.alloc (.cells #[.int .u8 0,.int .i64 0,.int .i64 0,.string ⟨#[]⟩,.int .i64 0] 29)))
 have fl:=tok_f0
 clear h
 go_enter Tryz.func200,Tryz.ntmps200
 go_wp2_with fail
 (with_reducible refine PK.out.mono ?_)
 rintro e w1 ⟨t,l',sp,hl,rfl,hs,hf⟩
 subst hl
 obtain ⟨i,t0,l0,sp0,hl,hl0,hi,hb,_,_,_,_,_⟩:=hs.head
 obtain ⟨rfl,rfl⟩:=List.cons.inj hl
 have hb1:(w1.alloc (.cells #[.int .u8 t.kind,.int .i64 (t.at':Int),.int .i64 (sp:Int),.string t.txt,.int .i64 t.n] 29)).heap[E.b]?=_:=(Below.heap_alloc w1 _ E.b hs.lt).trans hb
 have HS:=lh (hs.alloc (.cells #[.int .u8 t.kind,.int .i64 (t.at':Int),.int .i64 (sp:Int),.string t.txt,.int .i64 t.n] 29))
 have HF:=lh ((F0.out.trans (hf.mono (by simp))).alloc (by have:=hf.size;simp at this;omega) (.cells #[.int .u8 t.kind,.int .i64 (t.at':Int),.int .i64 (sp:Int),.string t.txt,.int .i64 t.n] 29))
 have L1:=lh ((L0.out.on0 hf).alloc (.cells #[.int .u8 t.kind,.int .i64 (t.at':Int),.int .i64 (sp:Int),.string t.txt,.int .i64 t.n] 29))
 have k0:=L1.out.cell 0 rfl
 have k1:=L1.out.cell 1 rfl
 have k2:=L1.out.cell 2 rfl
 have k3:=L1.out.cell 3 rfl
 have k4:=L1.out.cell 4 rfl
 have zl:=L1.out.fz
 have hfew:=hs.few
 have c1:=cell_of_row _ E.b 1 _ _ _ hb1
 have z:=HS.out.fz
 have hne:¬ E.b=w.heap.size:=by have:=L1.out.loc.lt;omega
 have hne2:¬ w1.heap.size=w.heap.size:=by have:=hf.size;simp at this;omega
 have hne3:¬ E.b=w1.heap.size:=by have:=hs.lt;omega
 have HB:=lh hb1
 have HL:=lh hl0
 simp only [List.getElem?_toArray,List.getElem?_cons_zero,List.getElem?_cons_succ] at c1
 clear hl hs hf PK hb hb1 hl0 L0 F0
 simp only [tokA]
 by_cases ht:t.kind=k
 · have hd:(t.kind != k)=false:=by simpa using ht
   have HR:Hid (takeP k (t::l')=.ok t l'):=lh (by rw [takeP,if_pos ht])
   have HK:Hid (t.kind≠4):=lh (by rw [ht];exact hk)
   have hsz:Hid (w.heap.size≤w.heap.size):=lh (Nat.le_refl _)
   clear ht hk hw1
   have L9:=(L1.out.setB 1 (.int .i64 ((i:Int)+1))).set5 (.int .u8 t.kind) (.int .i64 (t.at':Int)) (.int .i64 (sp:Int)) (.string t.txt) (.int .i64 t.n)
   have r0:=L9.cell 0 rfl
   have r1:=L9.cell 1 rfl
   have r2:=L9.cell 2 rfl
   have r3:=L9.cell 3 rfl
   have r4:=L9.cell 4 rfl
   clear L9
   go_wp2
   simp [bodyPost,results,Tryz.results200,go_sem,r0,r1,r2,r3,r4]
   refine of_ok HR.out ?_
   have f1:=HF.out.setB 1 (.int .i64 ((i:Int)+1))
   exact ⟨sp,rfl,(HS.out.next (Or.inl HK.out) HL.out HB.out).set5 L1.out.loc _ _ _ _ _,f1.set5 f1.size (Nat.le_refl _) _ _ _ _ _⟩
 · have hd:(t.kind != k)=true:=by simpa using ht
   have HR:Hid (takeP k (t::l')=.err t.at' 50):=lh (by rw [takeP,if_neg ht])
   have RF:=lh (refused_at HS.out 50)
   clear ht hk hw1
   go_wp2_with fail
   (with_reducible refine RF.out.mono ?_)
   rintro e w3 ⟨t3,l3,hl,rfl,hb⟩
   obtain ⟨rfl,rfl⟩:=List.cons.inj hl
   have HB:=lh hb
   clear RF hb
   go_wp2
   exact ⟨rfl,of_err HR.out HB.out⟩
end
end
section
open Go.RowKit
theorem infoNode:(Tryz.prog.info? 54).map (fun i=>(i.zero,i.size,i.bytes))=some (some (.agg #[.int .u8 0,.int .i64 0,.string ⟨#[]⟩,.int .i64 0,.slice none 0 0]),5,64):=by kernel_rfl
theorem infoInt:(Tryz.prog.info? 3).map (fun i=>(i.zero,i.size,i.bytes))=some (some (.int .i64 0),1,8):=by kernel_rfl
theorem info_partsP {t:Nat}{z:Value}{s b:Nat}(h:(Tryz.prog.info? t).map (fun i=>(i.zero,i.size,i.bytes))=some (some z,s,b)):∃i,Tryz.prog.info? t=some i∧i.zero=some z∧i.size=s∧i.bytes=b:=by
 cases hi:Tryz.prog.info? t with
 | none=>rw [hi] at h;simp at h
 | some i =>
  rw [hi] at h
  simp only [Option.map_some,Option.some.injEq,Prod.mk.injEq] at h
  exact ⟨i,rfl,h.1,h.2.1,h.2.2⟩
theorem own1.slice {B:Nat}{w:World}{kv:Value}{ks:List Int}(h:own1 B w kv ks):∃kp kl kc,kv=.slice kp kl kc:=by
 rcases h.2 with h2|⟨g,cap,cur,e,_⟩
 · exact ⟨_,_,_,h2.1⟩
 · exact ⟨_,_,_,e⟩
section
variable {E:Env}{v:Value}{kvs:List Value}{md:List Nd}{r:Nat}{l:List PT}{w:World}
theorem of_drew {w w':World}{row:Option Nat}(h:w.drew.grownBy w' row):w.grownBy w' row:=⟨h.os,h.tape,h.output,h.size,h.block⟩
theorem PS.push {W2 w5:World}{o:Obj}{g cap n:Nat}{nd:Nd}{kv:Value}{cs:List Value}(h:PS E v kvs md r l W2)(hg:(W2.alloc o).grownBy w5 v.ownBlock)(hat:v.ownBlock=some g∨g=W2.heap.size+1)(hn:n=md.length+1)(hcs:cs=cellsM md kvs++nodeC nd kv)
 (hown:w5.ownsRow (E.b+1) 54 5 (.slice (some ⟨g,0,none⟩) n cap) n cs) (ho:own1 (E.b+1) W2 kv nd.kids) (hl:LocV E v kvs kv) (hroom:md.length+1+l.length≤70000) :
 PS E (.slice (some ⟨g,0,none⟩) n cap) (kvs++[kv]) (md++[nd]) r l (w5.setCell ⟨E.b,4,none⟩ (.slice (some ⟨g,0,none⟩) n cap))∧Fr E W2.heap.size v (.slice (some ⟨g,0,none⟩) n cap) W2 (w5.setCell ⟨E.b,4,none⟩ (.slice (some ⟨g,0,none⟩) n cap)):=by
 subst hn hcs
 have hlt:=h.lt
 have hsz:W2.heap.size+1≤w5.heap.size:=by have:=hg.size;simpa using this
 have hg2:W2.grownBy w5 v.ownBlock:=⟨hg.os,hg.tape,hg.output,by omega,fun k hk hne=>(hg.block k (by simp;omega) hne).trans (Below.heap_alloc _ _ _ hk)⟩
 have hvb:v.ownBlock≠some E.b:=fun e=>by have:=(h.vlt _ e).1;omega
 have hb5:w5.heap[E.b]?=W2.heap[E.b]?:=hg2.block E.b hlt (fun e=>hvb e.symm)
 have hgb:g≠E.b:=fun e=>by
  rcases hat with h1|h1
  · rw [e] at h1;exact hvb h1
  · omega
 generalize hv5:Value.slice (some ⟨g,0,none⟩) (md.length+1) cap=v5 at *
 have hv5o:v5.ownBlock=some g:=by rw [← hv5];rfl
 have hset:w5.grownBy (w5.setCell ⟨E.b,4,none⟩ v5) (some E.b):=grownBy_set w5 _ _
 have kidold:∀(x:Value) (ks:List Int),own1 (E.b+1) W2 x ks→(∀k,x.ownBlock=some k→v.ownBlock≠some k)→own1 (E.b+1) (w5.setCell ⟨E.b,4,none⟩ v5) x ks:=fun x ks hx hne=>by
  refine own1.grown (row:=some E.b) (own1.grown hx hg2 ?_) hset ?_
  · cases hk:x.ownBlock with
    | none=>exact Or.inl rfl
    | some k=>exact Or.inr (fun e=>hne k hk e.symm)
  · cases hk:x.ownBlock with
    | none=>exact Or.inl rfl
    | some k=>exact Or.inr (fun e=>by have:=(hx.lt k hk).1;have e:=Option.some.inj e;omega)
 have hkl:∀x∈kvs++[kv],∀k,x.ownBlock=some k→v5.ownBlock≠some k:=fun x hx k hk e=>by
  rw [hv5o] at e
  obtain rfl:=Option.some.inj e
  rcases List.mem_append.1 hx with hx|hx
  · rcases hat with h1|h1
    · exact h.apart x hx g hk h1
    · have:=(h.klt x hx g hk).2;omega
  · obtain rfl:=List.mem_singleton.1 hx
    rcases hat with h1|h1
    · exact (hl g hk).v h1
    · have:=(ho.lt g hk).2;omega
 refine ⟨⟨(h.below.grown hg2 (Nat.le_of_lt hlt) (fun k e=>Nat.le_of_lt (h.vlt k e).1)).setCell (p:=⟨E.b,4,none⟩) (Nat.le_refl _) _,by simp [World.setCell];omega,h.gl,h.cap,fun j i u hj hi=>?_,?_,h.r64,h.ended,h.few,by simp only [List.length_append,List.length_singleton];omega,by simp [h.klen],?_,fun j hj=>?_,hkl,?_⟩,?_⟩
 · have hgl:=h.gl
   rw [World.cell?_of_block (w:=w5) (a:=⟨E.g,j*5+i,none⟩) (Below.heap_setCell _ _ _ _ (show E.g≠E.b by omega)),World.cell?_of_block (w:=W2) (a:=⟨E.g,j*5+i,none⟩) (hg2.block E.g (by omega) (fun e=>by have:=(h.vlt _ e.symm).1;omega))]
   exact h.tok j i u hj hi
 · obtain ⟨i,h1,h2⟩:=h.nx
   exact ⟨i,h1,by rw [heap_set _ _ _ _ _ _ (hb5.trans h2)];rfl⟩
 · rw [cellsM_snoc md kvs nd kv h.klen,List.length_append,List.length_singleton]
   exact hown.kept hset (Or.inr (fun e=>by rw [hv5o] at e;exact hgb (Option.some.inj e)))
 · by_cases hj':j<md.length
   · have h1:=kidold _ _ (h.kids j hj') (fun k hk=>h.apart (kvs.getD j default) (by have:=h.klen;simp [List.getD,show j<kvs.length by omega]) k hk)
     have e1:(kvs++[kv]).getD j default=kvs.getD j default:=by have:=h.klen;simp [List.getD,List.getElem?_append_left (show j<kvs.length by omega)]
     have e2:(md++[nd]).getD j default=md.getD j default:=by simp [List.getD,List.getElem?_append_left hj']
     rw [e1,e2];exact h1
   · have hjn:j=md.length:=by simp only [List.length_append,List.length_singleton] at hj;omega
     have e1:(kvs++[kv]).getD j default=kv:=by rw [hjn,← h.klen];simp [List.getD]
     have e2:(md++[nd]).getD j default=nd:=by rw [hjn];simp [List.getD]
     rw [e1,e2]
     exact kidold _ _ ho (fun k hk=>(hl k hk).v)
 · refine List.pairwise_append.2 ⟨h.pair,List.pairwise_singleton _ _,fun x hx y hy k hk e=>?_⟩
   obtain rfl:=List.mem_singleton.1 hy
   exact (hl k e).ks x hx hk
 · refine ⟨hg.os,hg.tape,hg.output,by simp [World.setCell];omega,fun k hk hkb hkv=>(Below.heap_setCell w5 ⟨E.b,4,none⟩ v5 k hkb).trans (hg2.block k hk (fun e=>hkv e.symm)),fun k hk=>?_⟩
   rw [hv5o] at hk
   obtain rfl:=Option.some.inj hk
   rcases hat with h1|h1
   · exact Or.inl h1
   · exact Or.inr (by omega)
def AddP (E:Env)(v:Value)(kvs:List Value)(md:List Nd)(r:Nat)(l:List PT)(w:World)(nd:Nd)(kv:Value)(e:Ending)(w':World):Prop :=
 ∃v',e=.returned (.int .i64 (md.length:Int))∧PS E v' (kvs++[kv]) (md++[nd]) r l w'∧Fr E w.heap.size v v' w w'
theorem add_at (h:PS E v kvs md r l w)(k a n:Int)(t:ByteArray)(kz kv:Value)(ks:List Int)(ho:own1 (E.b+1) w kv ks)(hl:LocV E v kvs kv)(hroom:md.length+1+l.length≤70000) :
 Calls Tryz.prog 133 #[.pointer (some ⟨E.b,0,none⟩),.agg #[.int .u8 k,.int .i64 a,.string t,.int .i64 n,kz],kv] w (AddP E v kvs md r l w ⟨k,a,t,n,ks⟩ kv):=by
 obtain ⟨i0,hi,hz0,hz1,hz2⟩:=info_partsP infoNode
 obtain ⟨kp,kl,kc,rfl⟩:=ho.slice
 have HS:=lh h
 have L0:=lh (Lcl.new h (.cells #[.int .u8 k,.int .i64 a,.string t,.int .i64 n,kz] 54))
 have HO:=lh ho
 have HL:=lh hl
 have I0:=lh hi
 have I1:=lh hz0
 have I2:=lh hz1
 have I3:=lh hz2
 clear h ho hl hi hz0 hz1 hz2
 go_enter Tryz.func133,Tryz.ntmps133
 go_wp2_with fail
 obtain ⟨W2,hW2⟩:∃W,W=w.alloc (.cells #[.int .u8 k,.int .i64 a,.string t,.int .i64 n,.slice kp kl kc] 54):=⟨_,rfl⟩
 have HS2:Hid (PS E v kvs md r l W2):=lh (by rw [hW2];exact HS.out.alloc _)
 have L2:Hid (Lcl E v kvs w.heap.size (.cells #[.int .u8 k,.int .i64 a,.string t,.int .i64 n,.slice kp kl kc] 54 (0,0)) W2):=lh (by rw [hW2];exact Lcl.new HS.out _)
 have HF2:Hid (Fr E w.heap.size v v w W2):=lh (by rw [hW2];exact (Fr.refl _ _ _ _).alloc (Nat.le_refl _) _)
 have hsz:Hid (W2.heap.size=w.heap.size+1):=lh (by rw [hW2];simp)
 have HO2:Hid (own1 (E.b+1) W2 (.slice kp kl kc) ks):=lh (by rw [hW2];exact HO.out.grown (World.grownBy_alloc _ _ none) (by cases (Value.slice kp kl kc).ownBlock<;>simp))
 rw [← hW2]
 clear hW2 HO L0
 obtain ⟨vp,vn,vc,rfl⟩:∃vp vn vc,v=.slice vp vn vc:=by
  rcases HS2.out.own.2 with h2|⟨g,cap,cur,e,_⟩
  · exact ⟨_,_,_,h2.1⟩
  · exact ⟨_,_,_,e⟩
 obtain ⟨i,hi,_,_,_,_,c4⟩:=HS2.out.cells
 have z4:=HS2.out.fz 4
 have k0:=L2.out.cell 0 rfl
 have k1:=L2.out.cell 1 rfl
 have k2:=L2.out.cell 2 rfl
 have k3:=L2.out.cell 3 rfl
 have k4:=L2.out.cell 4 rfl
 have hlt:=HS2.out.lt
 have hqlt:=L2.out.lt
 have hne:¬ E.b=w.heap.size:=by have:=L2.out.loc.lt;omega
 have hvb:¬ (Value.slice vp vn vc).ownBlock=some E.b:=fun e=>by have:=(HS2.out.vlt _ e).1;omega
 clear hi
 go_region_law ((refine step_append_lies _ (by rfl) (.tmp 13) (.tmp 15) 37 (by rfl) (E.b+1) 54 i0 _ 5 64 Tryz.underlying37 I0.out I1.out I2.out I3.out rfl (by decide) (.slice vp vn vc) md.length (cellsM md kvs) (by rfl) (HS2.out.own.drew.alloc _) ⟨W2.heap.size,0,none⟩ 1 1 [.int .u8 k,.int .i64 a,.string t,.int .i64 n,.slice kp kl kc] (by rfl) (by rfl) (World.news_of_block (cs:=#[.int .u8 k,.int .i64 a,.string t,.int .i64 n,.slice kp kl kc]) (t := 54) (fr:=(0,0)) (heap_alloc_new _ _)) (by simp [Value.oneCell']) (by decide) (by unfold maxLen;omega) (by omega) (by simp;omega) _ (by rfl) ?_;intro g5 cap5 w5 hown5 hgrow5 hat5 hlt5;have c45:w5.cell? ⟨E.b,4,none⟩=some (.slice vp vn vc):=(hgrow5.cell_far ⟨E.b,4,none⟩ (by simp;omega) (fun e=>hvb e.symm)).trans ((World.cell?_alloc_lt _ _ _ hlt).trans c4);have z45:w5.frozen? ⟨E.b,4,none⟩=false:=(hgrow5.frozen_far ⟨E.b,4,none⟩ (by simp;omega) (fun e=>hvb e.symm)).trans ((World.frozen?_of_block (w:=W2) (Below.heap_alloc W2 _ E.b hlt)).trans z4)))
 all_goals
  have HP:=lh (HS2.out.push (nd:=⟨k,a,t,n,ks⟩) (kv:=.slice kp kl kc) (of_drew hgrow5) (by simpa using hat5) rfl rfl hown5 HO2.out HL.out hroom)
  obtain ⟨_,_,_,_,_,_,d4⟩:=HP.out.1.cells
  have hfin:Hid (AddP E (.slice vp vn vc) kvs md r l w ⟨k,a,t,n,ks⟩ (.slice kp kl kc) (.returned (.int .i64 (md.length:Int))) (w5.setCell ⟨E.b,4,none⟩ (.slice (some ⟨g5,0,none⟩) (md.length+1) cap5))):=lh ⟨_,rfl,HP.out.1,HF2.out.trans (HP.out.2.mono (by have:=hsz.out;omega))⟩
  clear hown5 hgrow5 hat5 c45 z45 k0 k1 k2 k3 k4 c4 z4 HP
  go_wp2
  go_ret
  exact hfin.out
end
end
section
open Go.RowKit
section
variable {E:Env}{v:Value}{kvs:List Value}{md:List Nd}{r:Nat}{l:List PT}{w:World}
theorem PS.deep {r' i:Nat}{z:Int}(h:PS E v kvs md r l w)(hr:r'≤64)(hz:z=64-(r':Int))(hb:w.heap[E.b]?=some (.cells #[.slice (some ⟨E.g,0,none⟩) E.toks.length E.cap,.int .i64 (i:Int),.int .i64 (64-(r:Int)),E.mp,v] 125 (0,0)))(hl:l=E.pts.drop i) :
 PS E v kvs md r' l (w.setCell ⟨E.b,2,none⟩ (.int .i64 z)) where
 below:=h.below.setCell (p:=⟨E.b,2,none⟩) (Nat.le_refl _) _
 lt:=by simpa [World.setCell] using h.lt
 gl:=h.gl
 cap:=h.cap
 tok:=fun j k u hj hk=>by
  have:=h.gl
  rw [World.cell?_of_block (w:=w) (a:=⟨E.g,j*5+k,none⟩) (Below.heap_setCell _ _ _ _ (show E.g≠E.b by omega))]
  exact h.tok j k u hj hk
 nx:=⟨i,hl,by rw [heap_set _ _ _ _ _ _ hb,hz];rfl⟩
 r64:=hr
 ended:=h.ended
 few:=h.few
 room:=h.room
 klen:=h.klen
 own:=h.own.kept (grownBy_set w _ _) (by
  cases hv:v.ownBlock with
  | none=>exact Or.inl rfl
  | some k=>exact Or.inr (fun e=>by have:=h.vlt k hv;have e:=Option.some.inj e;simp only at e;omega))
 kids:=fun j hj=>(h.kids j hj).grown (grownBy_set w _ _) (by
  cases hv:(kvs.getD j default).ownBlock with
  | none=>exact Or.inl rfl
  | some k=>exact Or.inr (fun e=>by have:=(h.kids j hj).lt k hv;have e:=Option.some.inj e;simp only at e;omega))
 apart:=h.apart
 pair:=h.pair
theorem enter_at (h:PS E v kvs md r l w)(s:ByteArray)(hs0:s≠none0):Calls Tryz.prog 241 #[.pointer (some ⟨E.b,0,none⟩),.string s] w (PostE E (enterP s r l) fun p l'=>OkV E v kvs md (r-1) w (.int .i64 (p:Int)) l'):=by
 have NX:=lh (isNext_at h s)
 have hr64:=h.r64
 clear h
 go_enter Tryz.func241,Tryz.ntmps241
 go_wp2_with fail
 (with_reducible refine NX.out.mono ?_)
 rintro e w1 ⟨t,l',hl,rfl,hs,hf⟩
 subst hl
 obtain ⟨_,hl,_,_,c2,_,_⟩:=hs.cells
 have HF:=lh hf
 have HS:=lh hs
 have EX:=expect_at hs s hs0
 clear hs hf NX hl
 by_cases ht:t.txt=s
 · have hd:decide (t.txt=s)=true:=decide_eq_true ht
   rw [hd]
   clear hd
   have EX1:=lh (post_ok EX (show expectP s (t::l')=.ok t.at' l' by rw [expectP,if_pos ht]))
   by_cases hr:r=0
   · have HR:Hid (enterP s r (t::l')=.err t.at' 51):=lh (by rw [enterP,if_pos ht,if_pos hr])
     have RF:=lh (refused_at HS.out 51)
     have hd2:((64-(r:Int))==64)=true:=by simp [hr]
     clear EX EX1 ht
     go_wp2_with fail
     (with_reducible refine RF.out.mono ?_)
     rintro e w3 ⟨t3,l3,hl,rfl,hb⟩
     obtain ⟨rfl,rfl⟩:=List.cons.inj hl
     have HB:=lh hb
     clear RF hb
     go_wp2
     exact ⟨rfl,of_err HR.out HB.out⟩
   · have HR:Hid (enterP s r (t::l')=.ok t.at' l'):=lh (by rw [enterP,if_pos ht,if_neg hr])
     have hd2:((64-(r:Int))==64)=false:=by simp;omega
     clear EX ht
     go_wp2_with fail
     (with_reducible refine EX1.out.mono ?_)
     rintro e w2 ⟨rfl,hs2,hf2⟩
     obtain ⟨i,hl,hb⟩:=hs2.nx
     have HP:=lh (hs2.deep (r':=r-1) (z:=64-(r:Int)+1) (by omega) (by omega) hb hl)
     have HF2:=lh ((HF.out.trans (hf2.mono HF.out.size)).setB 2 (.int .i64 (64-(r:Int)+1)))
     obtain ⟨_,_,_,_,d2,_,_⟩:=hs2.cells
     have z2:=hs2.fz
     clear hs2 hf2 EX1 hl hb c2
     go_wp2
     go_ret
     exact of_ok HR.out ⟨rfl,HP.out,HF2.out⟩
 · have hd:decide (t.txt=s)=false:=decide_eq_false ht
   rw [hd]
   clear hd
   have EX1:=lh (post_err EX (show expectP s (t::l')=.err t.at' 50 by rw [expectP,if_neg ht]))
   have HR:Hid (enterP s r (t::l')=.err t.at' 50):=lh (by rw [enterP,if_neg ht])
   clear EX ht
   go_wp2_with fail
   (with_reducible refine EX1.out.mono ?_)
   rintro e w2 ⟨rfl,hb⟩
   have HB:=lh hb
   clear hb EX1
   go_wp2
   exact ⟨rfl,of_err HR.out HB.out⟩
theorem leave_at (h:PS E v kvs md r l w)(s:ByteArray)(hs0:s≠none0)(hr:r<64):Calls Tryz.prog 242 #[.pointer (some ⟨E.b,0,none⟩),.string s] w (PostE E (expectP s l) fun _ l'=>OkV E v kvs md (r+1) w (.tuple #[]) l'):=by
 have EX:=expect_at h s hs0
 clear h
 cases hx:expectP s l with
 | err p c =>
  have EX1:=lh (post_err EX hx)
  clear EX hx
  go_enter Tryz.func242,Tryz.ntmps242
  go_wp2_with fail
  (with_reducible refine EX1.out.mono ?_)
  rintro e w2 ⟨rfl,hb⟩
  have HB:=lh hb
  clear hb EX1
  go_wp2
  exact ⟨rfl,of_err rfl HB.out⟩
 | ok p l' =>
  have EX1:=lh (post_ok EX hx)
  clear EX hx
  go_enter Tryz.func242,Tryz.ntmps242
  go_wp2_with fail
  (with_reducible refine EX1.out.mono ?_)
  rintro e w2 ⟨rfl,hs2,hf2⟩
  obtain ⟨i,hl,hb⟩:=hs2.nx
  have HP:=lh (hs2.deep (r':=r+1) (z:=64-(r:Int)-1) (by omega) (by omega) hb hl)
  have HF2:=lh (hf2.setB 2 (.int .i64 (64-(r:Int)-1)))
  obtain ⟨_,_,_,_,d2,_,_⟩:=hs2.cells
  have z2:=hs2.fz
  clear hs2 hf2 EX1 hl hb
  go_wp2
  first
   | go_end0
   | skip
  exact of_ok rfl ⟨rfl,HP.out,HF2.out⟩
end
end
section
open Go.RowKit
structure Tr (E:Env)(v v':Value)(n n':List Value)(w w':World):Prop where
 more:∃new,n'=n++new∧Nw w.heap.size new
 fr:Fr E w.heap.size v v' w w'
structure St (E:Env)(v0:Value)(kvs0:List Value)(md0:List Nd)(w0:World)(ts:List Ast)(r:Nat)(l:List PT)(v:Value)(n:List Value)(w:World):Prop where
 ps:PS E v (kvs0++n) (md0++postL md0.length ts) r l w
 nw:Nw w0.heap.size n
 fr:Fr E w0.heap.size v0 v w0 w
def OkA (E:Env)(v:Value)(kvs:List Value)(md:List Nd)(r:Nat)(w:World)(a:Ast)(l':List PT)(e:Ending)(w':World):Prop :=
 ∃v' new,e=.returned (.int .i64 (rootI md.length a))∧PS E v' (kvs++new) (md++post md.length a) r l' w'∧Nw w.heap.size new∧Fr E w.heap.size v v' w w'
structure Rw (E:Env)(v:Value)(kvs:List Value)(B:Nat)(kv:Value)(ks:List Int)(w:World):Prop where
 own:own1 (E.b+1) w kv ks
 loc:LocV E v kvs kv
 ge:∀q,kv.ownBlock=some q→B≤q
section
variable {E:Env}{v0 v v':Value}{kvs0 n n':List Value}{md0:List Nd}{w0 w w':World}{ts:List Ast}{r:Nat}{l:List PT}
theorem St.start {kvs:List Value}{md:List Nd}(h:PS E v kvs md r l w):St E v kvs md w [] r l v [] w :=
 ⟨by simpa [postL] using h,Nw.nil _,Fr.refl _ _ _ _⟩
theorem Tr.refl:Tr E v v n n w w:=⟨⟨[],by simp,Nw.nil _⟩,Fr.refl _ _ _ _⟩
theorem Lcl.tr {q:Nat}{o:Obj}(h:Lcl E v (kvs0++n) q o w)(t:Tr E v v' n n' w w'):Lcl E v' (kvs0++n') q o w':=by
 obtain ⟨new,rfl,hn⟩:=t.more
 have:=h.on t.fr hn
 rwa [List.append_assoc] at this
theorem Rw.tr {B:Nat}{kv:Value}{ks:List Int}(h:Rw E v (kvs0++n) B kv ks w)(t:Tr E v v' n n' w w'):Rw E v' (kvs0++n') B kv ks w':=by
 obtain ⟨new,rfl,hn⟩:=t.more
 refine ⟨h.own.on t.fr h.loc,?_,h.ge⟩
 have:=h.loc.on t.fr hn (fun q hq=>(h.own.lt q hq).2)
 rwa [List.append_assoc] at this
theorem St.alloc (h:St E v0 kvs0 md0 w0 ts r l v n w)(o:Obj):St E v0 kvs0 md0 w0 ts r l v n (w.alloc o):=⟨h.ps.alloc o,h.nw,h.fr.alloc h.fr.size o⟩
theorem St.set (h:St E v0 kvs0 md0 w0 ts r l v n w){a:Addr}(ha:Loc E v (kvs0++n) a.block)(hb:w0.heap.size≤a.block)(u:Value):St E v0 kvs0 md0 w0 ts r l v n (w.setCell a u):=⟨h.ps.set ha u,h.nw,h.fr.set h.fr.size hb u⟩
theorem St.same {r':Nat}{l':List PT}{w1 w2:World}(h:St E v0 kvs0 md0 w0 ts r l v n w1)(hp:PS E v (kvs0++n) (md0++postL md0.length ts) r' l' w2)(hf:Fr E w1.heap.size v v w1 w2):St E v0 kvs0 md0 w0 ts r' l' v n w2∧Tr E v v n n w1 w2 :=
 ⟨⟨hp,h.nw,h.fr.trans (hf.mono h.fr.size)⟩,⟨⟨[],by simp,Nw.nil _⟩,hf⟩⟩
theorem St.ast {r':Nat}{l':List PT}{w1 w2:World}{a:Ast}{ts':List Ast}{e:Ending}(h:St E v0 kvs0 md0 w0 ts r l v n w1)(ha:OkA E v (kvs0++n) (md0++postL md0.length ts) r' w1 a l' e w2)(has:ts'=ts++[a]) :
 ∃v' n',e=.returned (.int .i64 (rootI (md0.length+sizeL ts) a))∧St E v0 kvs0 md0 w0 ts' r' l' v' n' w2∧Tr E v v' n n' w1 w2:=by
 obtain ⟨v',new,he,hp,hn,hf⟩:=ha
 subst has
 have hl:(md0++postL md0.length ts).length=md0.length+sizeL ts:=by rw [List.length_append,postL_length]
 refine ⟨v',n++new,by rw [he,hl],⟨?_,h.nw.append (hn.mono h.fr.size),h.fr.trans (hf.mono h.fr.size)⟩,⟨⟨new,rfl,hn⟩,hf⟩⟩
 rw [hl,List.append_assoc,List.append_assoc] at hp
 rw [postL_append,postL_one]
 exact hp
theorem rootI_mk (b:Nat)(k:Int)(p:Nat)(t:ByteArray)(nn:Int):rootI b (.mk k p t nn ts)=((b+sizeL ts:Nat):Int):=by
 simp only [rootI,Ast.size];omega
theorem St.add {k nn:Int}{p:Nat}{t:ByteArray}{kv:Value}{e:Ending}{ks:List Int}(h:St E v0 kvs0 md0 w0 ts r l v n w)(hks:ks=roots md0.length ts)(ha:AddP E v (kvs0++n) (md0++postL md0.length ts) r l w ⟨k,(p:Int),t,nn,ks⟩ kv e w')(hge:∀q,kv.ownBlock=some q→w0.heap.size≤q) :
 OkA E v0 kvs0 md0 r w0 (.mk k p t nn ts) l e w':=by
 obtain ⟨v',he,hp,hf⟩:=ha
 subst hks
 refine ⟨v',n++[kv],?_,?_,h.nw.append (fun x hx q hq=>?_),h.fr.trans (hf.mono h.fr.size)⟩
 · rw [he,rootI_mk,List.length_append,postL_length]
 · rw [List.append_assoc,List.append_assoc] at hp
   exact hp
 · obtain rfl:=List.mem_singleton.1 hx
   exact hge q hq
theorem AddP.int {kvs:List Value}{md:List Nd}{nd:Nd}{kv:Value}{e:Ending}(h:AddP E v kvs md r l w nd kv e w'):∃z,e=.returned (.int .i64 z):=by
 obtain ⟨_,h,_⟩:=h
 exact ⟨_,h⟩
theorem Rw.nil {B:Nat}{kvs:List Value}:Rw E v kvs B (.slice none 0 0) [] w:=⟨World.ownsRow_nil _ _ _ _,fun q hq=>by simp [Value.ownBlock] at hq,fun q hq=>by simp [Value.ownBlock] at hq⟩
theorem Rw.lit {ks:List Int}{cs:Array Value}{m q:Nat}(h:St E v0 kvs0 md0 w0 ts r l v n w)(hq:q=w.heap.size)(hc:cs.toList=ks.map (Value.int .i64))(hm:m=ks.length)(hm2:m≤100):Rw E v (kvs0++n) w0.heap.size (.slice (some ⟨q,0,none⟩) m m) ks (w.alloc (.cells cs 3)):=by
 subst hm hq
 refine ⟨?_,fun q hq=>?_,fun q hq=>?_⟩
 · have:=World.ownsRow_lit (base:=E.b+1) (e:=3) (size:=1) w cs ks.length h.ps.lt (by simp only [maxLen];omega) (by rw [← Array.length_toList,hc];simp)
   unfold own1
   rw [← hc]
   exact this
 · obtain rfl:w.heap.size=q:=by simpa [Value.ownBlock] using hq
   exact h.ps.fresh
 · obtain rfl:w.heap.size=q:=by simpa [Value.ownBlock] using hq
   exact h.fr.size
theorem Rw.alloc {B:Nat}{kv:Value}{ks:List Int}{kvs:List Value}(h:Rw E v kvs B kv ks w)(o:Obj):Rw E v kvs B kv ks (w.alloc o) :=
 ⟨h.own.grown (World.grownBy_alloc w o none) (by cases kv.ownBlock<;>simp),h.loc,h.ge⟩
theorem Rw.set {B:Nat}{kv:Value}{ks:List Int}{kvs:List Value}(h:Rw E v kvs B kv ks w){a:Addr}(ha:kv.ownBlock≠some a.block)(u:Value):Rw E v kvs B kv ks (w.setCell a u) :=
 ⟨h.own.grown (grownBy_set w a u) (Or.inr ha),h.loc,h.ge⟩
theorem roots_snoc (b:Nat)(ts:List Ast)(a:Ast):roots b (ts++[a])=roots b ts++[rootI (b+sizeL ts) a]:=by rw [roots_append,roots_one];rfl
def nextOf (E:Env)(w:World):Nat:=(intOf ((w.cell? ⟨E.b,1,none⟩).getD undef)).toNat
theorem PS.left {kvs:List Value}{md:List Nd}(h:PS E v kvs md r l w):E.toks.length-nextOf E w=l.length:=by
 obtain ⟨i,t,l',sp,hl,hl0,hi,hb,_⟩:=h.head
 have c1:=cell_of_row w E.b 1 _ _ _ hb
 simp only [List.getElem?_toArray,List.getElem?_cons_zero,List.getElem?_cons_succ] at c1
 unfold nextOf
 rw [c1]
 simp only [Option.getD_some,intOf,Int.toNat_natCast]
 rw [hl,hl0,List.length_cons,List.length_drop]
 simp only [Env.pts,List.length_map]
 omega
theorem end_at {k nn:Int}{p:Nat}{t:ByteArray}{kz kv:Value}{ks:List Int}(h:St E v0 kvs0 md0 w0 ts r l v n w)(hr:Rw E v (kvs0++n) w0.heap.size kv ks w)(hks:ks=roots md0.length ts) :
 Calls Tryz.prog 196 #[.pointer (some ⟨E.b,0,none⟩),.agg #[.int .u8 k,.int .i64 (p:Int),.string t,.int .i64 nn,kz],kv] w (PostE E (endP (.mk k p t nn ts) l) fun a l'=>OkA E v0 kvs0 md0 r w0 a l'):=by
 obtain ⟨kp,kl,kc,rfl⟩:=hr.own.slice
 have hs1:=h.alloc (.cells #[.int .u8 k,.int .i64 (p:Int),.string t,.int .i64 nn,kz] 54)
 have hr1:=lh (hr.alloc (.cells #[.int .u8 k,.int .i64 (p:Int),.string t,.int .i64 nn,kz] 54))
 have L0:=lh (Lcl.new h.ps (.cells #[.int .u8 k,.int .i64 (p:Int),.string t,.int .i64 nn,kz] 54))
 have EX:=expect_at hs1.ps ⟨#[59]⟩ (by decide)
 have HS:=lh hs1
 clear h hr hs1
 cases hx:expectP ⟨#[59]⟩ l with
 | err q c =>
  have EX1:=lh (post_err EX hx)
  have HR:Hid (endP (.mk k p t nn ts) l=.err q c):=lh (by simp only [endP,Par.bind,hx])
  clear EX hx
  go_enter Tryz.func196,Tryz.ntmps196
  go_wp2_with fail
  (with_reducible refine EX1.out.mono ?_)
  rintro e w2 ⟨rfl,hb⟩
  have HB:=lh hb
  clear hb EX1
  go_wp2
  exact ⟨rfl,of_err HR.out HB.out⟩
 | ok q l' =>
  have EX1:=lh (post_ok EX hx)
  have HR:Hid (endP (.mk k p t nn ts) l=.ok (.mk k p t nn ts) l'):=lh (by simp only [endP,Par.bind,Par.pure,hx])
  have hlen:=takes_expect _ _ _ _ hx
  clear EX hx
  go_enter Tryz.func196,Tryz.ntmps196
  go_wp2_with fail
  (with_reducible refine EX1.out.mono ?_)
  rintro e w2 ⟨rfl,hs2,hf2⟩
  obtain ⟨S2,T2⟩:=HS.out.same hs2 hf2
  have L2:=L0.out.tr T2
  have R2:=hr1.out.tr T2
  have k0:=L2.cell 0 rfl
  have k1:=L2.cell 1 rfl
  have k2:=L2.cell 2 rfl
  have k3:=L2.cell 3 rfl
  have k4:=L2.cell 4 rfl
  have hroom:=HS.out.ps.room
  have AD:=lh (add_at S2.ps k p nn t kz (.slice kp kl kc) ks R2.own R2.loc (by omega))
  have HS2:=lh S2
  have HR2:=lh R2
  clear hs2 hf2 EX1 S2 T2 L2 R2 hroom hlen
  go_wp2_with fail
  (with_reducible refine AD.out.mono ?_)
  rintro e w3 hA
  have hO:=lh (HS2.out.add hks hA HR2.out.ge)
  obtain ⟨z,rfl⟩:=hA.int
  clear AD k0 k1 k2 k3 k4
  go_wp2
  go_ret
  exact of_ok HR.out hO.out
end
end
section
open Go.RowKit
theorem post_form {E:Env}{v0:Value}{kvs0:List Value}{md0:List Nd}{r:Nat}{w0:World}{res:Res Ast}{e:Ending}{w':World}(h:PostE E res (fun a l'=>OkA E v0 kvs0 md0 r w0 a l') e w'):(∃z,e=.returned (.int .i64 z))∨∃ch,e=.panicked ch:=by
 cases res with
 | err p c=>exact Or.inr ⟨_,h.1⟩
 | ok a l' =>
  obtain ⟨_,_,h,_⟩:=h
  exact Or.inl ⟨_,h⟩
theorem OkA.int {E:Env}{v0:Value}{kvs0:List Value}{md0:List Nd}{r:Nat}{w0:World}{a:Ast}{l':List PT}{e:Ending}{w':World}(h:OkA E v0 kvs0 md0 r w0 a l' e w'):∃z,e=.returned (.int .i64 z):=by
 obtain ⟨_,_,h,_⟩:=h
 exact ⟨_,h⟩
theorem OkA.lift {E:Env}{v0 v:Value}{kvs0 n:List Value}{md0:List Nd}{w0 w1 w2:World}{r r':Nat}{l l':List PT}{a:Ast}{e:Ending}(h:St E v0 kvs0 md0 w0 [] r l v n w1)(ha:OkA E v (kvs0++n) (md0++postL md0.length []) r' w1 a l' e w2):OkA E v0 kvs0 md0 r' w0 a l' e w2:=by
 obtain ⟨v',n',he,hs,_⟩:=h.ast (ts':=[a]) ha rfl
 have hp:=hs.ps
 rw [show postL md0.length [a]=post md0.length a from postL_one _ _] at hp
 exact ⟨v',n',by rw [he];simp [sizeL],hp,hs.nw,hs.fr⟩
theorem PostE.lift {E:Env}{v0 v:Value}{kvs0 n:List Value}{md0:List Nd}{w0 w1 w2:World}{r r':Nat}{l:List PT}{res:Res Ast}{e:Ending}(h:St E v0 kvs0 md0 w0 [] r l v n w1)(ha:PostE E res (fun a l'=>OkA E v (kvs0++n) (md0++postL md0.length []) r' w1 a l') e w2):PostE E res (fun a l'=>OkA E v0 kvs0 md0 r' w0 a l') e w2:=by
 cases res with
 | err p c=>exact ha
 | ok a l'=>exact OkA.lift h ha
section
variable {E:Env}{v:Value}{kvs:List Value}{md:List Nd}{r:Nat}{l:List PT}{w:World}
theorem addWord_at (h:PS E v kvs md r l w)(t:PT)(sp:Nat)(hroom:md.length+1+l.length≤70000):Calls Tryz.prog 202 #[.pointer (some ⟨E.b,0,none⟩),tokA t sp] w (OkA E v kvs md r w (wordA t) l):=by
 have hroom':(md++postL md.length []).length+1+l.length≤70000:=by simpa [postL] using hroom
 have S1:=lh (St.start h)
 have S2:=lh (S1.out.alloc (.cells #[.int .u8 t.kind,.int .i64 (t.at':Int),.int .i64 (sp:Int),.string t.txt,.int .i64 t.n] 29))
 have Q3:Hid (w.heap.size≤w.heap.size):=lh S1.out.fr.size
 have L4:=lh (Lcl.new S1.out.ps (.cells #[.int .u8 t.kind,.int .i64 (t.at':Int),.int .i64 (sp:Int),.string t.txt,.int .i64 t.n] 29))
 clear S1
 simp only [tokA]
 clear h
 go_enter Tryz.func202,Tryz.ntmps202
 have RN:Hid (Rw E v (kvs++[]) w.heap.size (.slice none 0 0) [] (w.alloc (.cells #[.int .u8 t.kind,.int .i64 (t.at':Int),.int .i64 (sp:Int),.string t.txt,.int .i64 t.n] 29))):=lh Rw.nil
 have C5:=lh (add_at S2.out.ps (5) ((t.at':Int)) (0) (t.txt) (.slice none 0 0) (.slice none 0 0) (roots md.length []) RN.out.own RN.out.loc (hroom'))
 go_wp2_with fail
 (with_reducible refine C5.out.mono ?_)
 rintro e wf hA
 have hO:=lh (S2.out.add (ts:=[]) rfl hA RN.out.ge)
 obtain ⟨z,rfl⟩:=hA.int
 clear C5
 go_wp2
 go_ret
 exact hO.out
theorem word_at (h:PS E v kvs md r l w):Calls Tryz.prog 199 #[.pointer (some ⟨E.b,0,none⟩)] w (PostE E (wordP l) fun a l'=>OkA E v kvs md r w a l'):=by
 have RM:=lh h.room
 have S1:=lh (St.start h)
 clear h
 go_enter Tryz.func199,Tryz.ntmps199
 have C2:=lh (take_at S1.out.ps 1 (by decide))
 go_wp2_with fail
 (with_reducible refine C2.out.mono ?_)
 rintro e w3 hP
 clear C2
 cases hx:takeP 1 l with
 | err p c =>
  rw [hx] at hP
  obtain ⟨rfl,hb⟩:=hP
  have HB:=lh hb
  have HR:Hid (wordP l=.err p c):=lh (by simp only [wordP,Par.bind,hx])
  clear hb hx
  go_wp2
  exact ⟨rfl,of_err HR.out HB.out⟩
 | ok t l1 =>
  rw [hx] at hP
  have X4:=lh hx
  obtain ⟨sp,rfl,hs,hf⟩:=hP
  obtain ⟨S,T⟩:=S1.out.same hs hf
  clear hs hf hx
  simp only [tokA]
  have S5:=lh (S)
  clear S T S1
  have C6:=lh (addWord_at S5.out.ps t sp (by have:=RM.out;have:=takes_take _ _ _ _ X4.out;rw [List.length_append,postL_length];simp only [sizeL];omega))
  have HR:Hid (wordP l=.ok (wordA t) l1):=lh (by simp only [wordP,Par.bind,Par.pure,X4.out])
  go_wp2_with fail
  (with_reducible refine C6.out.mono ?_)
  rintro e wf hA
  have hO:=lh (OkA.lift S5.out hA)
  obtain ⟨z,rfl⟩:=OkA.int hA
  clear C6 hA
  go_wp2
  go_ret
  exact of_ok HR.out hO.out
theorem number_at (h:PS E v kvs md r l w):Calls Tryz.prog 204 #[.pointer (some ⟨E.b,0,none⟩)] w (PostE E (numberP l) fun a l'=>OkA E v kvs md r w a l'):=by
 have RM:=lh h.room
 have S1:=lh (St.start h)
 clear h
 go_enter Tryz.func204,Tryz.ntmps204
 have C2:=lh (take_at S1.out.ps 2 (by decide))
 go_wp2_with fail
 (with_reducible refine C2.out.mono ?_)
 rintro e w3 hP
 clear C2
 cases hx:takeP 2 l with
 | err p c =>
  rw [hx] at hP
  obtain ⟨rfl,hb⟩:=hP
  have HB:=lh hb
  have HR:Hid (numberP l=.err p c):=lh (by simp only [numberP,Par.bind,hx])
  clear hb hx
  go_wp2
  exact ⟨rfl,of_err HR.out HB.out⟩
 | ok t l1 =>
  rw [hx] at hP
  have X4:=lh hx
  obtain ⟨sp,rfl,hs,hf⟩:=hP
  obtain ⟨S,T⟩:=S1.out.same hs hf
  clear hs hf hx
  simp only [tokA]
  have S5:=lh (S)
  clear S T S1
  have S6:=lh (S5.out.alloc (.cells #[.int .u8 t.kind,.int .i64 (t.at':Int),.int .i64 (sp:Int),.string t.txt,.int .i64 t.n] 29))
  have Q7:Hid (w.heap.size≤w3.heap.size):=lh S5.out.fr.size
  have L8:=lh (Lcl.new S5.out.ps (.cells #[.int .u8 t.kind,.int .i64 (t.at':Int),.int .i64 (sp:Int),.string t.txt,.int .i64 t.n] 29))
  clear S5
  have HR:Hid (numberP l=.ok (.mk 21 t.at' none0 t.n []) l1):=lh (by simp only [numberP,Par.bind,Par.pure,X4.out])
  have RN:Hid (Rw E v (kvs++[]) w.heap.size (.slice none 0 0) [] (w3.alloc (.cells #[.int .u8 t.kind,.int .i64 (t.at':Int),.int .i64 (sp:Int),.string t.txt,.int .i64 t.n] 29))):=lh Rw.nil
  have C9:=lh (add_at S6.out.ps (21) ((t.at':Int)) (t.n) (none0) (.slice none 0 0) (.slice none 0 0) (roots md.length []) RN.out.own RN.out.loc (by have:=RM.out;have:=takes_take _ _ _ _ X4.out;rw [List.length_append,postL_length];simp only [sizeL];omega))
  go_wp2_with fail
  (with_reducible refine C9.out.mono ?_)
  rintro e wf hA
  have hO:=lh (S6.out.add (ts:=[]) rfl hA RN.out.ge)
  obtain ⟨z,rfl⟩:=hA.int
  clear C9
  go_wp2
  go_ret
  exact of_ok HR.out hO.out
end
end
section
open Go.RowKit
open Par (Less many many_err many_done many_more)
theorem OkA.st {E:Env}{v0:Value}{kvs0:List Value}{md0:List Nd}{w0 w':World}{r:Nat}{l':List PT}{a:Ast}{e:Ending}(h:OkA E v0 kvs0 md0 r w0 a l' e w'):∃v' n',e=.returned (.int .i64 (rootI (md0.length+sizeL []) a))∧St E v0 kvs0 md0 w0 [a] r l' v' n' w':=by
 obtain ⟨v',n',he,hp,hn,hf⟩:=h
 refine ⟨v',n',by rw [he];simp [sizeL],?_,hn,hf⟩
 rw [postL_one];exact hp
theorem St.one {E:Env}{v0 v:Value}{kvs0 n:List Value}{md0:List Nd}{w0 w:World}{r:Nat}{l:List PT}{a:Ast}(h:St E v0 kvs0 md0 w0 [a] r l v n w):OkA E v0 kvs0 md0 r w0 a l (.returned (.int .i64 (rootI (md0.length+sizeL []) a))) w:=by
 have hp:=h.ps
 rw [postL_one] at hp
 exact ⟨v,n,by simp [sizeL],hp,h.nw,h.fr⟩
theorem root_at (md0:List Nd)(a:Ast)(more:List Nd):((md0++(post md0.length a++more)).getD (md0.length+(a.size-1)) default).at'=(a.at':Int):=by
 have hp:=size_pos a
 have hl:=post_length md0.length a
 obtain ⟨ks,hk⟩:=post_root md0.length a
 have e:(md0++(post md0.length a++more)).getD (md0.length+(a.size-1)) default=(post md0.length a).getD (a.size-1) default:=by
  simp only [List.getD]
  rw [List.getElem?_append_right (by omega),Nat.add_sub_cancel_left,List.getElem?_append_left (by omega)]
 rw [e,hk]
section
variable {E:Env}{v0 v:Value}{kvs0 n kvs:List Value}{md0 md:List Nd}{r:Nat}{l:List PT}{w0 w:World}
theorem St.rootCell {a b:Ast}(h:St E v0 kvs0 md0 w0 [a,b] r l v n w):∃(g cap m j:Nat),v=.slice (some ⟨g,0,none⟩) m cap∧rootI (md0.length+sizeL []) a=(j:Int)∧j<m∧m≤cap∧w.cell? ⟨g,j*5+1,none⟩=some (.int .i64 (a.at':Int)):=by
 have hp:=size_pos a
 have hl:(md0++postL md0.length [a,b]).length=md0.length+(a.size+(b.size+0)):=by rw [List.length_append,postL_length];rfl
 have ho:=h.ps.own
 obtain ⟨g,cap,hv,_,_⟩:=ho.form (by omega)
 have hcap:(md0++postL md0.length [a,b]).length≤cap:=by
  rcases ho.2 with ⟨h2,_⟩|⟨g',cap',cur,hv',_,_,hc,_⟩
  · rw [h2] at hv;simp at hv
  · rw [hv'] at hv;simp at hv;omega
 refine ⟨g,cap,_,md0.length+(a.size-1),hv,by simp only [rootI,sizeL];omega,by omega,hcap,?_⟩
 rw [hv] at ho
 rw [ho.cellAt _ (by omega),cellsM_get _ _ h.ps.klen _ (by omega) 1 (by omega)]
 simp only [nodeC,List.getElem?_cons_succ,List.getElem?_cons_zero,postL,root_at]
theorem both_at {a b:Ast}(h:St E v0 kvs0 md0 w0 [a,b] r l v n w)(k:Int)(hroom:md0.length+(a.size+b.size)+1+l.length≤70000):Calls Tryz.prog 240 #[.pointer (some ⟨E.b,0,none⟩),.int .u8 k,.int .i64 (rootI (md0.length+sizeL []) a),.int .i64 (rootI (md0.length+sizeL [a]) b)] w (fun e w'=>OkA E v0 kvs0 md0 r w0 (bothA k a b) l e w'):=by
 obtain ⟨_,_,_,_,_,_,c4⟩:=h.ps.cells
 obtain ⟨g,cap,m,j,rfl,hj,hjm,hmc,k1⟩:=h.rootCell
 have hr:(md0++postL md0.length [a,b]).length+1+l.length≤70000:=by rw [List.length_append,postL_length];simp only [sizeL];omega
 have R1:=lh (Rw.lit h (q:=w.heap.size) rfl (ks:=roots md0.length [a,b]) (cs:=#[.int .i64 (rootI (md0.length+sizeL []) a),.int .i64 (rootI (md0.length+sizeL [a]) b)]) (m:=2) (by simp [roots,rootI,sizeL]) (by simp [roots]) (by omega))
 have S1:=lh (h.alloc (.cells #[.int .i64 (rootI (md0.length+sizeL []) a),.int .i64 (rootI (md0.length+sizeL [a]) b)] 3))
 clear h
 rw [hj] at R1 S1 ⊢
 generalize rootI (md0.length+sizeL [a]) b=zb at *
 have AD:=lh (add_at S1.out.ps k a.at' 0 none0 (.slice none 0 0) (.slice (some ⟨w.heap.size,0,none⟩) 2 2) (roots md0.length [a,b]) R1.out.own R1.out.loc hr)
 have hj0:(0:Int)≤(j:Int):=by omega
 have hj1:(j:Int)<(m:Int):=by omega
 clear hroom hr
 go_enter Tryz.func240,Tryz.ntmps240
 go_wp2_with fail
 (with_reducible refine AD.out.mono ?_)
 rintro e wf hA
 have hO:=lh (S1.out.add (ts:=[a,b]) rfl hA R1.out.ge)
 obtain ⟨z,rfl⟩:=hA.int
 clear AD k1 c4
 go_wp2
 go_ret
 exact hO.out
theorem term_at {fp:Par Ast}(h:PS E v kvs md r l w)(hf:∀v kvs md l w,PS E v kvs md r l w→Calls Tryz.prog 269 #[.pointer (some ⟨E.b,0,none⟩)] w (PostE E (fp l) fun a l'=>OkA E v kvs md r w a l'))(hless:Less fp)(hsz:∀c,Sz c fp (fun a=>a.size+c)):Calls Tryz.prog 239 #[.pointer (some ⟨E.b,0,none⟩)] w (PostE E (termP fp l) fun a l'=>OkA E v kvs md r w a l'):=by
 have RM:=lh h.room
 have S1:=lh (St.start h)
 have FH:=lh @hf
 have hnot:=nt
 clear h hf
 go_enter Tryz.func239,Tryz.ntmps239
 have C2:=lh (FH.out _ _ _ _ _ S1.out.ps)
 go_wp2_with fail
 (with_reducible refine C2.out.mono ?_)
 rintro e w3 hP
 clear C2
 cases hx:fp l with
 | err p c =>
  rw [hx] at hP
  obtain ⟨rfl,hb⟩:=hP
  have HB:=lh hb
  have HR:Hid (termP fp l=.err p c):=lh (by simp only [termP,Par.bind,hx])
  clear hb hx
  go_wp2
  exact ⟨rfl,of_err HR.out HB.out⟩
 | ok a0 l0 =>
  rw [hx] at hP
  have X4:=lh hx
  obtain ⟨v3,n3,rfl,S,T⟩:=S1.out.ast (ts':=[a0]) hP rfl
  clear hP hx
  have S5:=lh (S)
  clear S T S1
  have HM0:Hid (termP fp l=many (timesStep fp) a0 l0):=lh (by simp only [termP,Par.bind,X4.out])
  have hl0:l0.length≤l.length:=hless _ _ _ X4.out
  go_wp2_with fail
  go_loopw [3] (fun av wr=>∃(a:Ast) (l1:List PT) (v1:Value) (n1:List Value),av=.int .i64 (rootI (md.length+sizeL []) a)∧Hid (St E v kvs md w [a] r l1 v1 n1 wr)∧Hid (termP fp l=many (timesStep fp) a l1)∧Hid (md.length+a.size+l1.length≤70000)) (fun _ wr=>E.toks.length-nextOf E wr)
  case atStart=>exact ⟨a0,l0,_,_,rfl,S5,HM0,lh (by have:=S5.out.ps.room;rw [List.length_append,postL_length,sizeL_one] at this;exact this)⟩
  case round =>
   obtain ⟨a,l1,v1,n1,rfl,S0,HM,HQ⟩:=hrel
   have hleft:=lh S0.out.ps.left
   clear S5 HM0 X4
   have C6:=lh (skip_at S0.out.ps ⟨#[42]⟩ (by decide))
   go_wp2_with fail
   (with_reducible refine C6.out.mono ?_)
   rintro e w7 hP
   clear C6
   cases hx:skipP ⟨#[42]⟩ l1 with
   | err p c =>
    rw [hx] at hP
    obtain ⟨rfl,hb⟩:=hP
    have HB:=lh hb
    have HR:Hid (termP fp l=.err p c):=lh (by rw [HM.out];exact many_err (by simp only [timesStep,Par.bind,hx]))
    clear hb hx
    go_wp2
    exact ⟨rfl,of_err HR.out HB.out⟩
   | ok u l7 =>
    rw [hx] at hP
    cases u with
    | true =>
     have X8:=lh hx
     obtain ⟨rfl,hs,hf2⟩:=hP
     obtain ⟨S,T⟩:=S0.out.same hs hf2
     have hlt7:l7.length<l1.length:=by
      cases l1 with
      | nil=>simp [skipP] at hx
      | cons t0 q0 =>
       simp only [skipP] at hx
       split at hx
       · simp only [Res.ok.injEq,true_and] at hx;rw [← hx];simp
       · simp at hx
     clear hs hf2 hx
     have S9:=lh (S)
     clear S T S0
     have C10:=lh (FH.out _ _ _ _ _ S9.out.ps)
     go_wp2_with fail
     (with_reducible refine C10.out.mono ?_)
     rintro e w11 hP
     clear C10
     cases hx:fp l7 with
     | err p c =>
      rw [hx] at hP
      obtain ⟨rfl,hb⟩:=hP
      have HB:=lh hb
      have HR:Hid (termP fp l=.err p c):=lh (by rw [HM.out];exact many_err (by simp only [timesStep,Par.bind,X8.out,hx]))
      clear hb hx
      go_wp2
      exact ⟨rfl,of_err HR.out HB.out⟩
     | ok b l11 =>
      rw [hx] at hP
      obtain ⟨v11,n11,rfl,S,T⟩:=S9.out.ast (ts':=[a,b]) hP rfl
      have HM2:Hid (termP fp l=many (timesStep fp) (bothA 25 a b) l11):=lh (by rw [HM.out];exact many_more (step_times hless) (by simp only [timesStep,Par.bind,Par.pure,X8.out,hx]))
      have hq:l11.length≤l7.length:=hless _ _ _ hx
      have hqs:b.size+l11.length≤0+l7.length:=hsz 0 _ _ _ hx
      have hrm:=HQ.out
      have C12:=lh (both_at S 25 (by omega))
      have HQ2:Hid (md.length+(bothA 25 a b).size+l11.length≤70000):=lh (by rw [sz_both];omega)
      clear hP hx S T hqs hrm S9
      go_wp2_with fail
      (with_reducible refine C12.out.mono ?_)
      rintro e w13 hA
      obtain ⟨v13,n13,rfl,S⟩:=OkA.st hA
      have S13:=lh S
      have hl3:=lh S.ps.left
      clear hA S C12
      go_wp2
      go_roundw
      case rel=>exact ⟨_,_,_,_,rfl,S13,HM2,HQ2⟩
      case measure=>have h1:=hleft.out;have h2:=hl3.out;show E.toks.length-nextOf E _<E.toks.length-nextOf E wr;omega
    | false =>
     have X8:=lh hx
     obtain ⟨rfl,hs,hf2⟩:=hP
     obtain ⟨S,T⟩:=S0.out.same hs hf2
     have hl7:l7=l1:=by
      cases l1 with
      | nil=>simp [skipP] at hx
      | cons t0 q0 =>
       simp only [skipP] at hx
       split at hx
       · simp at hx
       · simp only [Res.ok.injEq,true_and] at hx;exact hx.symm
     clear hs hf2 hx
     subst hl7
     have S9:=lh (S)
     clear S T S0
     have HR:Hid (termP fp l=.ok a l7):=lh (by rw [HM.out];exact many_done (by simp only [timesStep,Par.bind,Par.pure,X8.out]))
     go_wp2
     go_ret
     exact of_ok HR.out S9.out.one
theorem expr_at {fp:Par Ast}(h:PS E v kvs md r l w)(hf:∀v kvs md l w,PS E v kvs md r l w→Calls Tryz.prog 269 #[.pointer (some ⟨E.b,0,none⟩)] w (PostE E (fp l) fun a l'=>OkA E v kvs md r w a l'))(hless:Less fp)(hsz:∀c,Sz c fp (fun a=>a.size+c)):Calls Tryz.prog 197 #[.pointer (some ⟨E.b,0,none⟩)] w (PostE E (exprP fp l) fun a l'=>OkA E v kvs md r w a l'):=by
 have RM:=lh h.room
 have S1:=lh (St.start h)
 have FH:=lh @hf
 have hnot:=nt
 clear h hf
 go_enter Tryz.func197,Tryz.ntmps197
 have C2:=lh (term_at S1.out.ps FH.out hless hsz)
 go_wp2_with fail
 (with_reducible refine C2.out.mono ?_)
 rintro e w3 hP
 clear C2
 cases hx:termP fp l with
 | err p c =>
  rw [hx] at hP
  obtain ⟨rfl,hb⟩:=hP
  have HB:=lh hb
  have HR:Hid (exprP fp l=.err p c):=lh (by simp only [exprP,Par.bind,hx])
  clear hb hx
  go_wp2
  exact ⟨rfl,of_err HR.out HB.out⟩
 | ok a0 l0 =>
  rw [hx] at hP
  have X4:=lh hx
  obtain ⟨v3,n3,rfl,S,T⟩:=S1.out.ast (ts':=[a0]) hP rfl
  clear hP hx
  have S5:=lh (S)
  clear S T S1
  have HM0:Hid (exprP fp l=many (sumStep fp) a0 l0):=lh (by simp only [exprP,Par.bind,X4.out])
  have hl0:l0.length≤l.length:=(less_term hless) _ _ _ X4.out
  go_wp2_with fail
  go_loopw [3] (fun av wr=>∃(a:Ast) (l1:List PT) (v1:Value) (n1:List Value),av=.int .i64 (rootI (md.length+sizeL []) a)∧Hid (St E v kvs md w [a] r l1 v1 n1 wr)∧Hid (exprP fp l=many (sumStep fp) a l1)∧Hid (md.length+a.size+l1.length≤70000)) (fun _ wr=>E.toks.length-nextOf E wr)
  case atStart=>exact ⟨a0,l0,_,_,rfl,S5,HM0,lh (by have:=S5.out.ps.room;rw [List.length_append,postL_length,sizeL_one] at this;exact this)⟩
  case round =>
   obtain ⟨a,l1,v1,n1,rfl,S0,HM,HQ⟩:=hrel
   have hleft:=lh S0.out.ps.left
   clear S5 HM0 X4
   have C6:=lh (skip_at S0.out.ps ⟨#[43]⟩ (by decide))
   go_wp2_with fail
   (with_reducible refine C6.out.mono ?_)
   rintro e w7 hP
   clear C6
   cases hx:skipP ⟨#[43]⟩ l1 with
   | err p c =>
    rw [hx] at hP
    obtain ⟨rfl,hb⟩:=hP
    have HB:=lh hb
    have HR:Hid (exprP fp l=.err p c):=lh (by rw [HM.out];exact many_err (by simp only [sumStep,Par.bind,hx]))
    clear hb hx
    go_wp2
    exact ⟨rfl,of_err HR.out HB.out⟩
   | ok u l7 =>
    rw [hx] at hP
    cases u with
    | true =>
     have X8:=lh hx
     obtain ⟨rfl,hs,hf2⟩:=hP
     obtain ⟨S,T⟩:=S0.out.same hs hf2
     have hlt7:l7.length<l1.length:=by
      cases l1 with
      | nil=>simp [skipP] at hx
      | cons t0 q0 =>
       simp only [skipP] at hx
       split at hx
       · simp only [Res.ok.injEq,true_and] at hx;rw [← hx];simp
       · simp at hx
     clear hs hf2 hx
     have S9:=lh (S)
     clear S T S0
     have C10:=lh (term_at S9.out.ps FH.out hless hsz)
     go_wp2_with fail
     (with_reducible refine C10.out.mono ?_)
     rintro e w11 hP
     clear C10
     cases hx:termP fp l7 with
     | err p c =>
      rw [hx] at hP
      obtain ⟨rfl,hb⟩:=hP
      have HB:=lh hb
      have HR:Hid (exprP fp l=.err p c):=lh (by rw [HM.out];exact many_err (by simp only [sumStep,Par.bind,X8.out,hx]))
      clear hb hx
      go_wp2
      exact ⟨rfl,of_err HR.out HB.out⟩
     | ok b l11 =>
      rw [hx] at hP
      obtain ⟨v11,n11,rfl,S,T⟩:=S9.out.ast (ts':=[a,b]) hP rfl
      have HM2:Hid (exprP fp l=many (sumStep fp) (bothA 23 a b) l11):=lh (by rw [HM.out];exact many_more (step_sum hless) (by simp only [sumStep,Par.bind,Par.pure,X8.out,hx]))
      have hq:l11.length≤l7.length:=(less_term hless) _ _ _ hx
      have hqs:b.size+l11.length≤0+l7.length:=sz_term hsz 0 _ _ _ hx
      have hrm:=HQ.out
      have C12:=lh (both_at S 23 (by omega))
      have HQ2:Hid (md.length+(bothA 23 a b).size+l11.length≤70000):=lh (by rw [sz_both];omega)
      clear hP hx S T hqs hrm S9
      go_wp2_with fail
      (with_reducible refine C12.out.mono ?_)
      rintro e w13 hA
      obtain ⟨v13,n13,rfl,S⟩:=OkA.st hA
      have S13:=lh S
      have hl3:=lh S.ps.left
      clear hA S C12
      go_wp2
      go_roundw
      case rel=>exact ⟨_,_,_,_,rfl,S13,HM2,HQ2⟩
      case measure=>have h1:=hleft.out;have h2:=hl3.out;show E.toks.length-nextOf E _<E.toks.length-nextOf E wr;omega
    | false =>
     have X8:=lh hx
     obtain ⟨rfl,hs,hf2⟩:=hP
     obtain ⟨S,T⟩:=S0.out.same hs hf2
     have hl7:l7=l1:=by
      cases l1 with
      | nil=>simp [skipP] at hx
      | cons t0 q0 =>
       simp only [skipP] at hx
       split at hx
       · simp at hx
       · simp only [Res.ok.injEq,true_and] at hx;exact hx.symm
     clear hs hf2 hx
     subst hl7
     have S9:=lh (S)
     clear S T S0
     have C10:=lh (skip_at S9.out.ps ⟨#[45]⟩ (by decide))
     go_wp2_with fail
     (with_reducible refine C10.out.mono ?_)
     rintro e w11 hP
     clear C10
     cases hx:skipP ⟨#[45]⟩ l7 with
     | err p c =>
      rw [hx] at hP
      obtain ⟨rfl,hb⟩:=hP
      have HB:=lh hb
      have HR:Hid (exprP fp l=.err p c):=lh (by rw [HM.out];exact many_err (by simp only [sumStep,Par.bind,X8.out,hx]))
      clear hb hx
      go_wp2
      exact ⟨rfl,of_err HR.out HB.out⟩
     | ok u l11 =>
      rw [hx] at hP
      cases u with
      | true =>
       have X12:=lh hx
       obtain ⟨rfl,hs,hf2⟩:=hP
       obtain ⟨S,T⟩:=S9.out.same hs hf2
       have hlt11:l11.length<l7.length:=by
        cases l7 with
        | nil=>simp [skipP] at hx
        | cons t0 q0 =>
         simp only [skipP] at hx
         split at hx
         · simp only [Res.ok.injEq,true_and] at hx;rw [← hx];simp
         · simp at hx
       clear hs hf2 hx
       have S13:=lh (S)
       clear S T S9
       have C14:=lh (term_at S13.out.ps FH.out hless hsz)
       go_wp2_with fail
       (with_reducible refine C14.out.mono ?_)
       rintro e w15 hP
       clear C14
       cases hx:termP fp l11 with
       | err p c =>
        rw [hx] at hP
        obtain ⟨rfl,hb⟩:=hP
        have HB:=lh hb
        have HR:Hid (exprP fp l=.err p c):=lh (by rw [HM.out];exact many_err (by simp only [sumStep,Par.bind,X8.out,X12.out,hx]))
        clear hb hx
        go_wp2
        exact ⟨rfl,of_err HR.out HB.out⟩
       | ok b l15 =>
        rw [hx] at hP
        obtain ⟨v15,n15,rfl,S,T⟩:=S13.out.ast (ts':=[a,b]) hP rfl
        have HM2:Hid (exprP fp l=many (sumStep fp) (bothA 24 a b) l15):=lh (by rw [HM.out];exact many_more (step_sum hless) (by simp only [sumStep,Par.bind,Par.pure,X8.out,X12.out,hx]))
        have hq:l15.length≤l11.length:=(less_term hless) _ _ _ hx
        have hqs:b.size+l15.length≤0+l11.length:=sz_term hsz 0 _ _ _ hx
        have hrm:=HQ.out
        have C16:=lh (both_at S 24 (by omega))
        have HQ2:Hid (md.length+(bothA 24 a b).size+l15.length≤70000):=lh (by rw [sz_both];omega)
        clear hP hx S T hqs hrm S13
        go_wp2_with fail
        (with_reducible refine C16.out.mono ?_)
        rintro e w17 hA
        obtain ⟨v17,n17,rfl,S⟩:=OkA.st hA
        have S17:=lh S
        have hl3:=lh S.ps.left
        clear hA S C16
        go_wp2
        go_roundw
        case rel=>exact ⟨_,_,_,_,rfl,S17,HM2,HQ2⟩
        case measure=>have h1:=hleft.out;have h2:=hl3.out;show E.toks.length-nextOf E _<E.toks.length-nextOf E wr;omega
      | false =>
       have X12:=lh hx
       obtain ⟨rfl,hs,hf2⟩:=hP
       obtain ⟨S,T⟩:=S9.out.same hs hf2
       have hl11:l11=l7:=by
        cases l7 with
        | nil=>simp [skipP] at hx
        | cons t0 q0 =>
         simp only [skipP] at hx
         split at hx
         · simp at hx
         · simp only [Res.ok.injEq,true_and] at hx;exact hx.symm
       clear hs hf2 hx
       subst hl11
       have S13:=lh (S)
       clear S T S9
       have HR:Hid (exprP fp l=.ok a l11):=lh (by rw [HM.out];exact many_done (by simp only [sumStep,Par.bind,Par.pure,X8.out,X12.out]))
       go_wp2
       go_ret
       exact of_ok HR.out S13.out.one
end
end
section
open Go.RowKit
def openN (p:List Nd)(k:Int)(a:Nat)(t:ByteArray)(n:Int)(ks:List Ast):List Nd:=p++⟨k,a,t,n,heads (p.length+1) ks⟩::flatL (p.length+1) ks
theorem run_pos {p:Int→Bool}{c:Int}{r:List Int}(h:p c=true):run p (c::r)=run p r+1:=by simp [run,h]
end
end Go.Proofs.YthdioipfdbbmmaaGreatDoor
