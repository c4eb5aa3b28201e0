/- Contracts. -/
import Derived.Test.YthdioipfdbbmmaaGreatDoorKab
import Derived.Test.YthdioipfdbbmmaaGreatDoorKao
import Derived.Test.YthdioipfdbbmmaaGreatDoorKap
import Derived.Test.YthdioipfdbbmmaaGreatDoorKas
import Derived.OwnWalkIn
import Derived.Lib.SlBytesRow
import Derived.Lib.BufferRead
import Derived.WalkSmall
import Derived.Deep.RegionHeld3
import Derived.Deep.RegionLaw
set_option linter.all false
set_option maxRecDepth 1000000
set_option maxHeartbeats 16000000
namespace Go.Proofs.YthdioipfdbbmmaaGreatDoor
section
open Go.RowKit Tr Go.Shelf
attribute [local go_sem] Oper.semAt_some
theorem back1_zero_in (F:Fence)(n:Nat)(h7:F.fn 207)(hro:F.round=none)(l Bs:Nat)(a:Option Addr)(c:Nat)(J:List (Int × Int)→World→Prop)(W:World)(hBs:W.cell? ⟨Bs,0,none⟩=some (.slice a 0 c))(h0:J [] W) :
 CallsIn F n Tryz.prog 207 #[.func (.yield l) #[] #[],.pointer (some ⟨Bs,0,none⟩)] W fun e W'=>(∃v,e=.returned v)∧J [] W':=by
 refine callsIn_of_wp Tryz.func207 rfl h7 ?_ hro
 simp only [Tryz.ntmps207,List.size_toArray,List.length_cons,List.length_nil,Nat.reduceAdd,Nat.reduceSub,Array.replicate_succ,Array.replicate_zero,List.push_toArray,List.append_toArray,List.nil_append,List.cons_append]
 gi_wp2
 gi_loopw [3] (fun i wr=>i=.int .i64 (-1)∧J [] wr) (fun _ _=>0)
 case atStart=>exact ⟨rfl,h0⟩
 case round =>
  obtain ⟨rfl,hJs⟩:=hrel
  gi_wp2
  go_end0
  exact ⟨⟨_,rfl⟩,hJs⟩
def IntsW (n₀:Nat)(W:World)(sv:Value)(zs:List Int):Prop :=
 (∃a c,sv=.slice a 0 c∧zs=[])∨∃b off cap,sv=.slice (some ⟨b,off,none⟩) zs.length cap∧b<n₀∧∀j,j<zs.length→W.cell? ⟨b,off+j,none⟩=some (.int .i64 (zs[j]?.getD 0))
theorem IntsW.below {n₀:Nat}{A B:World}(h:Below n₀ A B){sv:Value}{zs:List Int}:IntsW n₀ A sv zs→IntsW n₀ B sv zs
 | .inl e=>.inl e
 | .inr ⟨b,off,cap,e,hb,hc⟩=>.inr ⟨b,off,cap,e,hb,fun j hj=>(h.cell (p:=⟨b,off+j,none⟩) hb).trans (hc j hj)⟩
theorem IntsW.of_iv {W:World}{p:Option Addr}{len c:Nat}{xs:List Int}(h:IV W p len c xs):IntsW W.heap.size W (.slice p len c) xs:=by
 by_cases h0:0<len
 · obtain ⟨b,off,rfl,hlt,hc⟩:=h.cell h0
   exact .inr ⟨b,off,c,by rw [h.len_eq],hlt,fun j hj=>by
    rw [hc j (by rw [← h.len_eq];exact hj)]
    rfl⟩
 · obtain rfl:len=0:=by omega
   exact .inl ⟨p,c,rfl,List.eq_nil_of_length_eq_zero h.len_eq⟩
theorem back_stopsW (F:Fence)(n:Nat)(h7:F.fn 207)(hro:F.round=none)(hn:1≤n)(Bs n₀:Nat)(sv:Value)(zs:List Int)(hreach:zs.length*8≤140737488351232)(w:World)(hBs:Bs<w.heap.size)(hn₀:n₀≤w.heap.size)
 (hc:w.cell? ⟨Bs,0,none⟩=some sv) (hI:IntsW n₀ w sv zs) :
 SeqStopsK F n Tryz.prog 207 #[.pointer (some ⟨Bs,0,none⟩)] (fun x:Int × Int=>#[Value.int .i64 x.1,Value.int .i64 x.2]) (KeepsAt n₀ Bs) (fun ys=>ys=upto (backF zs) zs.length)
  (fun pre=>∃k,k≤zs.length∧pre=upto (backF zs) k) zs.length w:=fun l J Jx W hW _ _ hY h0=>by
 have hc':=(hW.cell (p:=⟨Bs,0,none⟩) hBs).trans hc
 rcases hI.below (hW.mono hn₀) with ⟨a,c,rfl,rfl⟩|⟨b,off,cap,rfl,hb,hcs⟩
 · exact (back1_zero_in F n h7 hro l Bs a c J W hc' h0).mono fun e W' ⟨he,hj⟩=>⟨he,.inl ⟨_,rfl,hj⟩⟩
 · exact back1_in F n h7 hro hn l Bs n₀ b off zs.length cap zs rfl hreach hb J Jx hY W hc' hcs h0
theorem infoPc:(Tryz.prog.info? 184).map (fun i=>(i.zero,i.size,i.bytes))=some (some (.agg #[.string ⟨#[]⟩,.int .i64 0,.bool false]),3,32):=by kernel_rfl
def lstP (zs:List (Int × Int)):List Pc:=zs.flatMap fun x=>(⟨⟨#[]⟩,x.2,false⟩:Pc)::(if 0<x.1 then [pcT ⟨#[44,32]⟩] else [])
def rowPc (l:List Pc):List Value:=l.flatMap Pc.cells
theorem rowPc_append (l m:List Pc):rowPc (l++m)=rowPc l++rowPc m:=by simp [rowPc]
theorem lstP_snoc (zs:List (Int × Int))(x:Int × Int):lstP (zs++[x])=lstP zs++((⟨⟨#[]⟩,x.2,false⟩:Pc)::(if 0<x.1 then [pcT ⟨#[44,32]⟩] else [])):=by simp [lstP]
theorem lstP_len (zs:List (Int × Int)):(lstP zs).length≤2*zs.length:=by
 induction zs with
 | nil=>simp [lstP]
 | cons x r ih =>
  have:lstP (x::r)=((⟨⟨#[]⟩,x.2,false⟩:Pc)::(if 0<x.1 then [pcT ⟨#[44,32]⟩] else []))++lstP r:=rfl
  rw [this,List.length_append,List.length_cons,List.length_cons]
  split<;>simp<;>omega
theorem KeepsAt.of {n₀ Bs:Nat}{A B:World}(h:Below n₀ A B)(hb:Bs<A.heap.size→B.heap[Bs]?=A.heap[Bs]?):KeepsAt n₀ Bs A B:=⟨h.size,fun g hg hl=>by
 rcases hg with hg|rfl
 · exact h.block g hg
 · exact hb hl⟩
theorem boxed_own {β:Type}(B:Nat)(t:TypeId)(v:Value):Own (fun (_:β) W=>Boxed W B t v):=by
 rintro s X Y row hv hg hrow
 refine hv.kept hg (fun e'=>?_)
 obtain ⟨o,ho,hc⟩:=hrow B e'.symm
 rw [show X.heap[B]?=_ from hv] at ho;cases ho;cases hc
theorem Boxed.aside {W w1:World}{n₀ B C:Nat}{t2 e:TypeId}{size k:Nat}{u v v':Value}{xs:List Value}{tmp:Obj}(h:Boxed W C t2 u)(ht:t2≠e)(hrow:W.ownsRow n₀ e size v k xs)(hgrow:(W.alloc tmp).grownBy w1 v.ownBlock)(hBC:C≠B):Boxed (w1.setCell ⟨B,0,none⟩ v') C t2 u :=
 ((h.alloc tmp).kept hgrow ((h.alloc tmp).not_row ht (hrow.alloc tmp))).kept (grownBy_setCell' w1 B v') (fun e=>hBC (Option.some.inj e))
theorem listed_at (kp:Option Addr)(kl kc:Nat)(l:List Int)(hl:l.length≤70000)(w:World)(hI:IntsW w.heap.size w (.slice kp kl kc) l) :
 Calls Tryz.prog 110 #[.slice kp kl kc] w fun e W'=>∃v,e=.returned v∧W'.ownsRow w.heap.size 184 3 v (lstP (upto (backF l) l.length)).length (rowPc (lstP (upto (backF l) l.length)))∧Below w.heap.size w W':=by
 obtain ⟨i0,hi,hz0,hz1,hz2⟩:=info_parts infoPc
 refine callsIn_wide.1 (callsIn_of_wp_marks (n:=4) Tryz.func110 rfl trivial ?_ rfl)
 simp only [Tryz.ntmps110,List.size_toArray,List.length_cons,List.length_nil,Nat.reduceAdd,Nat.reduceSub,Array.replicate_succ,Array.replicate_zero,List.push_toArray,List.append_toArray,List.nil_append,List.cons_append]
 gi_wp2
 refine ⟨trivial,(callsIn_wide.2 (back_at _ _ _ _)).mono ?_⟩
 rintro e w' ⟨rfl,rfl⟩
 gi_wp2
 have bO:=Boxed.new w 181 (.slice none 0 0)
 have bN:=Boxed.new (w.alloc (.cells #[.slice none 0 0] 181)) 32 (.slice kp kl kc)
 rw [World.size_alloc] at bN
 have hB0:Below w.heap.size w ((w.alloc (.cells #[.slice none 0 0] 181)).alloc (.cells #[.slice kp kl kc] 32)):=((Below.refl _ w).alloc (Nat.le_refl _) _).alloc (by simp) _
 have hs2:((w.alloc (.cells #[.slice none 0 0] 181)).alloc (.cells #[.slice kp kl kc] 32)).heap.size=w.heap.size+2:=by simp
 have bO2:=bO.alloc (.cells #[.slice kp kl kc] 32)
 obtain ⟨W2,hW2⟩:∃W2,(w.alloc (.cells #[.slice none 0 0] 181)).alloc (.cells #[.slice kp kl kc] 32)=W2:=⟨_,rfl⟩
 rw [hW2] at hs2 bO2 bN hB0 ⊢
 have hI2:=IntsW.below hB0 hI
 have hle:w.heap.size≤W2.heap.size:=by omega
 have hlt1:w.heap.size+1<W2.heap.size:=by omega
 refine wpIn_rangeFunc_ownG (F:=Fence.wide) (n:=4) rfl (by omega) (gf := 207) (lb:=#[.pointer (some ⟨w.heap.size+1,0,none⟩)]) rfl trivial (enters_of Tryz.func207 (by kernel_rfl) rfl)
  (back_stopsW Fence.wide 3 trivial rfl (by omega) (w.heap.size+1) w.heap.size (.slice kp kl kc) l (by omega) W2 hlt1 hle bN.cell hI2) (fun h1 h2=>h1.trans h2) (KeepsAt.putObj hle hlt1) (Below.refl _ _) (fun _=>rfl)
  (fun (pre:List (Int × Int)) W=>(∃v,Boxed W w.heap.size 181 v∧W.ownsRow w.heap.size 184 3 v (lstP pre).length (rowPc (lstP pre))∧True)∧Boxed W (w.heap.size+1) 32 (.slice kp kl kc)∧Below w.heap.size w W)
  (fun _ _ _=>False)
  (OwnFrom.and (Own.from (holdsRow_own w.heap.size w.heap.size 181 184 3 (fun pre=>(lstP pre).length) (fun pre=>rowPc (lstP pre)) (fun _ _=>True)) _) (OwnFrom.and (Own.from (boxed_own (w.heap.size+1) 32 (.slice kp kl kc)) _) (ownFrom_below (Nat.le_refl _) hle)))
  (fun _ _ _ _ _ hs _ _=>hs)
  ⟨⟨_,bO2,World.ownsRow_nil _ _ _ _,trivial⟩,bN,hB0⟩
  (fun x=>{ tmps:=#[.slice kp kl kc,undef,.slice none 0 0,.pointer (some ⟨w.heap.size,0,none⟩),.int .i64 x.1,.int .i64 x.2,.slice kp kl kc,.func (.func 207) #[] #[.pointer (some ⟨w.heap.size+1,0,none⟩)],.int .i64 x.1,.int .i64 x.2,undef,undef,undef,undef,undef,undef,undef,undef,undef,undef,undef,undef],defers:=[] }) ?assign ?body ?done ?stop
 case assign =>
  intro l x W K hK
  gi_wp2
  exact hK
 case body =>
  rintro l pre x W ⟨⟨v,hv,hrow,_⟩,hbs,hB⟩ hlt
  have hc:=hv.cell
  have hlp:=lstP_len pre
  have hWs:=hB.size
  obtain ⟨ll,hll⟩:∃ll,(lstP pre).length=ll:=⟨_,rfl⟩
  have hsn:=lstP_snoc pre x
  rw [hll] at hrow hlp
  have hvn:∃vg vc,v=.slice vg ll vc:=by
   rcases hrow.2 with ⟨h1,h2⟩|⟨g,c,cur,h1,_⟩
   · exact ⟨_,_,by rw [h1,h2]⟩
   · exact ⟨_,_,h1⟩
  obtain ⟨vg,vc,rfl⟩:=hvn
  by_cases hx:0<x.1
  · rw [if_pos hx] at hsn
    gi_wp2_with (first|(gi_at_builtin;refine wpListIn_append_lies _ rfl (.tmp 10) (.tmp 13) 181 rfl w.heap.size 184 i0 _ 3 32 Tryz.underlying181 hi hz0 hz1 hz2 rfl (by decide) (.slice vg ll vc) ll (rowPc (lstP pre)) rfl (hrow.alloc _) ⟨W.heap.size,0,none⟩ 1 1 [.string ⟨#[]⟩,.int .i64 x.2,.bool false] rfl rfl (World.news_of_block (cs:=#[.string ⟨#[]⟩,.int .i64 x.2,.bool false]) (t := 184) (fr:=(0,0)) (heap_alloc_new W _)) (by simp [Value.oneCell']) (by decide) (by unfold maxLen;omega) (by omega) (by simp;omega) _ rfl ?_;intro g5 cap5 w5 hown5 hgrow5 hat5 hlt5;obtain ⟨a5,hv5,hr5,hk5,hb5⟩:=hv.appended (by decide) hrow hWs (Nat.le_refl _) hown5 hgrow5;have hc5:=a5.cell;have hf5:=a5.frozen)|(gi_at_builtin;refine wpListIn_append_lies _ rfl (.tmp 17) (.tmp 19) 181 rfl w.heap.size 184 i0 _ 3 32 Tryz.underlying181 hi hz0 hz1 hz2 rfl (by decide) (.slice (some ⟨g5,0,none⟩) (ll+1) cap5) (ll+1) _ rfl (hr5.alloc _) ⟨w5.heap.size,0,none⟩ 1 1 [.string ⟨#[44,32]⟩,.int .i64 0,.bool false] rfl rfl (World.news_of_block (cs:=#[.string ⟨#[44,32]⟩,.int .i64 0,.bool false]) (t := 184) (fr:=(0,0)) (by have h:=heap_alloc_new (w5.setCell ⟨w.heap.size,0,none⟩ (.slice (some ⟨g5,0,none⟩) (ll+1) cap5)) (.cells #[.string ⟨#[44,32]⟩,.int .i64 0,.bool false] 184);simpa [World.setCell] using h)) (by simp [Value.oneCell']) (by decide) (by unfold maxLen;omega) (by omega) (by have:=hb5.size;simp at this ⊢;omega) _ rfl ?_;intro g6 cap6 w6 hown6 hgrow6 hat6 hlt6;obtain ⟨a6,hv6,hr6,hk6,hb6⟩:=hv5.appended (by decide) hr5 (Nat.le_trans hWs hb5.size) (Nat.le_refl _) hown6 hgrow6;have hc6:=a6.cell;have hf6:=a6.frozen))
    have hA:=Boxed.aside hbs (B:=w.heap.size) (v':=.slice (some ⟨g5,0,none⟩) (ll+1) cap5) (by decide) hrow hgrow5 (by omega)
    have hA6:=Boxed.aside hA (B:=w.heap.size) (v':=.slice (some ⟨g6,0,none⟩) (ll+1+1) cap6) (by decide) hr5 hgrow6 (by omega)
    have hfin:(w6.setCell ⟨w.heap.size,0,none⟩ (.slice (some ⟨g6,0,none⟩) (ll+1+1) cap6)).ownsRow w.heap.size 184 3 (.slice (some ⟨g6,0,none⟩) (ll+1+1) cap6) (lstP (pre++[x])).length (rowPc (lstP (pre++[x]))):=by
     rw [hsn,rowPc_append,List.length_append,hll]
     simpa [rowPc,Pc.cells,pcT] using hr6
    exact ⟨(hk5.trans hk6).from _,KeepsAt.of (hb5.trans hb6) (fun _=>hA6.trans hbs.symm),Exists.intro _ (by first|exact And.intro hv6 (And.intro hfin trivial)|exact And.intro hv6 hfin),hA6,hB.trans (hb5.trans hb6)⟩
  · rw [if_neg hx] at hsn
    gi_wp2_with (gi_at_builtin;refine wpListIn_append_lies _ rfl (.tmp 10) (.tmp 13) 181 rfl w.heap.size 184 i0 _ 3 32 Tryz.underlying181 hi hz0 hz1 hz2 rfl (by decide) (.slice vg ll vc) ll (rowPc (lstP pre)) rfl (hrow.alloc _) ⟨W.heap.size,0,none⟩ 1 1 [.string ⟨#[]⟩,.int .i64 x.2,.bool false] rfl rfl (World.news_of_block (cs:=#[.string ⟨#[]⟩,.int .i64 x.2,.bool false]) (t := 184) (fr:=(0,0)) (heap_alloc_new W _)) (by simp [Value.oneCell']) (by decide) (by unfold maxLen;omega) (by omega) (by simp;omega) _ rfl ?_;intro g5 cap5 w5 hown5 hgrow5 hat5 hlt5;obtain ⟨a5,hv5,hr5,hk5,hb5⟩:=hv.appended (by decide) hrow hWs (Nat.le_refl _) hown5 hgrow5;have hc5:=a5.cell;have hf5:=a5.frozen)
    have hA:=Boxed.aside hbs (B:=w.heap.size) (v':=.slice (some ⟨g5,0,none⟩) (ll+1) cap5) (by decide) hrow hgrow5 (by omega)
    have hfin:(w5.setCell ⟨w.heap.size,0,none⟩ (.slice (some ⟨g5,0,none⟩) (ll+1) cap5)).ownsRow w.heap.size 184 3 (.slice (some ⟨g5,0,none⟩) (ll+1) cap5) (lstP (pre++[x])).length (rowPc (lstP (pre++[x]))):=by
     rw [hsn,rowPc_append,List.length_append,hll]
     exact hr5
    exact ⟨hk5.from _,KeepsAt.of hb5 (fun _=>hA.trans hbs.symm),Exists.intro _ (by first|exact And.intro hv5 (And.intro hfin trivial)|exact And.intro hv5 hfin),hA,hB.trans hb5⟩
 case done =>
  rintro D ys W hD rfl ⟨⟨v,hv,hrow,_⟩,_,hB⟩ hK
  have hc:=hv.cell
  gi_wp2
  refine ⟨by simp,.inl ⟨_,_,rfl,run_takeDeferred hK,?_⟩⟩
  exact ⟨_,results_tmp rfl _ _ _,v,rfl,ownsRow_putObj hrow _ hK rfl,hB.trans (belowK_b (w:=w) (Nat.le_refl _) W D _ _ (by omega) hK rfl rfl)⟩
 case stop =>
  rintro D c pre W _ _ h _
  exact h.elim
end
section
open Go.RowKit Tr Go.Shelf
attribute [local go_sem] Oper.semAt_some
structure KeepsTwo (p q:Nat)(A B:World):Prop where
 size:A.heap.size≤B.heap.size
 block:∀g,g=p∨g=q→g<A.heap.size→B.heap[g]?=A.heap[g]?
theorem KeepsTwo.refl (p q:Nat)(A:World):KeepsTwo p q A A:=⟨Nat.le_refl _,fun _ _ _=>rfl⟩
theorem KeepsTwo.trans {p q:Nat}{A B C:World}(h:KeepsTwo p q A B)(h':KeepsTwo p q B C):KeepsTwo p q A C:=⟨Nat.le_trans h.size h'.size,fun g hg hl=>(h'.block g hg (Nat.lt_of_lt_of_le hl h.size)).trans (h.block g hg hl)⟩
theorem KeepsTwo.cell {p q:Nat}{A B:World}(h:KeepsTwo p q A B){a:Addr}{u:Value}(hg:a.block=p∨a.block=q)(hc:A.cell? a=some u):B.cell? a=some u:=by
 rw [World.cell?_of_block (w:=A) (h.block a.block hg (cellLt hc))];exact hc
theorem KeepsTwo.putObj {p q:Nat}{w:World}(hp:p<w.heap.size)(hq:q<w.heap.size)(W:World)(l:Nat)(o o':Obj)(hl:w.heap.size≤l)(h:W.heap[l]?=some o)(_:o.isCells=false)(_:o.isWalk=false):KeepsTwo p q W (W.putObj l o') :=
 ⟨by simp,fun g hg _=>World.putObj_heap_other (by rcases hg with rfl|rfl<;>omega)⟩
def noPc:Pc:=⟨⟨#[]⟩,0,false⟩
def backP (zs:List Pc)(k:Nat):Int × Pc:=(((zs.length:Nat):Int)-1-k,zs[zs.length-1-k]?.getD noPc)
def PcsIn (W:World)(b:Nat)(zs:List Pc):Prop:=∀j,j<zs.length→W.cell? ⟨b,j*3,none⟩=some (.string (zs.getD j noPc).text)∧W.cell? ⟨b,j*3+1,none⟩=some (.int .i64 (zs.getD j noPc).node)∧W.cell? ⟨b,j*3+2,none⟩=some (.bool (zs.getD j noPc).brk)
theorem PcsIn.keep {W W':World}{b q:Nat}{zs:List Pc}(h:PcsIn W b zs)(hk:KeepsTwo b q W W'):PcsIn W' b zs:=fun j hj =>
 ⟨hk.cell (Or.inl rfl) (h j hj).1,hk.cell (Or.inl rfl) (h j hj).2.1,hk.cell (Or.inl rfl) (h j hj).2.2⟩
theorem backP1_in (F:Fence)(n:Nat)(h7:F.fn 227)(hro:F.round=none)(hn:1≤n)(l Bs b len cap:Nat)(zs:List Pc)(hz:zs.length=len)(hreach:len*32≤140737488351232)(J Jx:List (Int × Pc)→World→Prop)
 (hY : ∀ pre x W, J pre W → pre.length < len → YieldAt F (n - 1) Tryz.prog l #[.int .i64 x.1, .agg #[.string x.2.text, .int .i64 x.2.node, .bool x.2.brk]] W fun e W' =>
  (e=.returned (.bool true)∧J (pre++[x]) W'∧KeepsTwo b Bs W W')∨(e=.returned (.bool false)∧Jx (pre++[x]) W'))
 (W:World) (hBs:W.cell? ⟨Bs,0,none⟩=some (.slice (some ⟨b,0,none⟩) len cap)) (hc:PcsIn W b zs) (h0:J [] W) :
 CallsIn F n Tryz.prog 227 #[.func (.yield l) #[] #[],.pointer (some ⟨Bs,0,none⟩)] W fun e W'=>(∃v,e=.returned v) ∧
  ((∃ys,ys=upto (backP zs) len∧J ys W')∨(∃pre,(∃k,k≤len∧pre=upto (backP zs) k)∧Jx pre W')):=by
 subst hz
 refine callsIn_of_wp Tryz.func227 rfl h7 ?_ hro
 simp only [Tryz.ntmps227,List.size_toArray,List.length_cons,List.length_nil,Nat.reduceAdd,Nat.reduceSub,Array.replicate_succ,Array.replicate_zero,List.push_toArray,List.append_toArray,List.nil_append,List.cons_append]
 gi_wp2
 gi_loopw [3] (fun i wr=>∃k:Nat,k≤zs.length∧i=.int .i64 ((zs.length:Int)-1-k)∧J (upto (backP zs) k) wr∧KeepsTwo b Bs W wr)
  (fun i _=>(intOf i+1).toNat)
 case atStart=>exact ⟨0,Nat.zero_le _,by simp,h0,KeepsTwo.refl _ _ _⟩
 case round =>
  obtain ⟨k,hk,rfl,hJs,hnx⟩:=hrel
  have hs:=hnx.cell (a:=⟨Bs,0,none⟩) (Or.inr rfl) hBs
  by_cases hlt:k<zs.length
  · obtain ⟨m0,m1,m2⟩:=(hc.keep hnx) (zs.length-1-k) (by omega)
    obtain ⟨fn,tmps,assign,body,hy,hR⟩:=hY _ (backP zs k) wr hJs (by rw [upto_length];exact hlt)
    simp only [backP] at hy
    have hi1:(0:Int)≤(zs.length:Int)-1-k:=by omega
    have hi2:(zs.length:Int)-1-k<zs.length:=by omega
    have hi3:((zs.length:Int)-1-k).toNat=zs.length-1-k:=by omega
    gi_wp2
    refine hR.mono ?_
    rintro e W3 (⟨rfl,hJ3,hk3⟩|⟨rfl,hJx3⟩)
    · gi_wp2
      go_roundw
      case rel=>exact ⟨k+1,by omega,by simp;omega,by rw [upto_succ];exact hJ3,hnx.trans hk3⟩
      case measure=>simp [intOf];omega
    · gi_wp2
      refine bodyPost_ret (results_none rfl _ _ _) rfl ?_
      exact ⟨⟨_,rfl⟩,.inr ⟨_,⟨k+1,by omega,(upto_succ _ _).symm⟩,hJx3⟩⟩
  · obtain rfl:k=zs.length:=by omega
    have hi1:¬ (0:Int)≤(zs.length:Int)-1-zs.length:=by omega
    gi_wp2
    go_end0
    exact ⟨⟨_,rfl⟩,.inl (by first|exact hJs|exact ⟨_,rfl,hJs⟩)⟩
theorem backP_at (a:Option Addr)(len cap:Nat)(w:World) :
 Calls Tryz.prog 177 #[.slice a len cap] w fun e w'=>e=.returned (.func (.func 227) #[] #[.pointer (some ⟨w.heap.size,0,none⟩)])∧w'=w.alloc (.cells #[.slice a len cap] 181):=by
 go_enter Tryz.func177,Tryz.ntmps177
 go_wp2_with fail
 go_ret
 exact ⟨rfl,rfl⟩
theorem backP_stops (F:Fence)(n:Nat)(h7:F.fn 227)(hro:F.round=none)(hn:1≤n)(Bs b cap:Nat)(zs:List Pc)(hreach:zs.length*32≤140737488351232)(w:World)(hBs:Bs<w.heap.size)(hb:b<w.heap.size)
 (hc:w.cell? ⟨Bs,0,none⟩=some (.slice (some ⟨b,0,none⟩) zs.length cap)) (hI:PcsIn w b zs) :
 SeqStopsK F n Tryz.prog 227 #[.pointer (some ⟨Bs,0,none⟩)] (fun x:Int × Pc=>#[Value.int .i64 x.1,.agg #[.string x.2.text,.int .i64 x.2.node,.bool x.2.brk]]) (KeepsTwo b Bs) (fun ys=>ys=upto (backP zs) zs.length)
  (fun pre=>∃k,k≤zs.length∧pre=upto (backP zs) k) zs.length w:=fun l J Jx W hW _ _ hY h0 =>
 backP1_in F n h7 hro hn l Bs b zs.length cap zs rfl hreach J Jx hY W ((hW.cell (p:=⟨Bs,0,none⟩) hBs).trans hc) (hI.keep (q:=Bs) ⟨hW.size,fun g _ hl=>by
  by_cases hg:g<w.heap.size
  · exact hW.block g hg
  · rename_i h1;rcases h1 with rfl|rfl<;>omega⟩) h0
end
section
open Go.RowKit Tr Go.Shelf
attribute [local go_sem] Oper.semAt_some
theorem grow_trans {A B C:World}{r row:Option Nat}(h:A.grownBy B r)(h':B.grownBy C row)(hr:∀g,row=some g→r=some g∨A.heap.size≤g):A.grownBy C r where
 os:=h'.os.trans h.os
 tape:=h'.tape.trans h.tape
 output:=h'.output.trans h.output
 size:=Nat.le_trans h.size h'.size
 block:=fun k hk hne=>by
  rw [h'.block k (Nat.lt_of_lt_of_le hk h.size) (fun e=>by
   rcases hr k e.symm with h1|h1
   · exact hne h1.symm
   · omega),h.block k hk hne]
theorem grow_of_below {A B:World}(h:Below A.heap.size A B)(r:Option Nat):A.grownBy B r:=⟨h.os,h.tape,h.output,h.size,fun k hk _=>h.block k hk⟩
structure OI (w:World)(B:Nat)(v0:Value)(n:Nat)(xs:List Pc)(sv:Value)(k:Nat)(zs:List Pc)(v:Value)(W:World):Prop where
 box:Boxed W w.heap.size 181 v
 own:W.ownsRow B 184 3 v (n+k) (rowPc (xs++zs))
 gr:w.grownBy W v0.ownBlock
 at':∀g,v.ownBlock=some g→v0.ownBlock=some g∨w.heap.size≤g
 bs:Boxed W (w.heap.size+1) 181 sv
theorem OI.keep {w:World}{B:Nat}{v0:Value}{n:Nat}{xs:List Pc}{sv:Value}{k:Nat}{zs:List Pc}{v:Value}{X Y:World}{row:Option Nat}(h:OI w B v0 n xs sv k zs v X)(hg:X.grownBy Y row)(hB:∀r,row=some r→w.heap.size≤r)(hr:∀r,row=some r→∀cs t fr,X.heap[r]?≠some (.cells cs t fr)):OI w B v0 n xs sv k zs v Y where
 box:=h.box.kept hg (fun e=>hr _ e.symm _ _ _ h.box)
 own:=h.own.kept hg (by
  cases hv:v.ownBlock with
  | none=>exact Or.inl rfl
  | some g =>
   obtain ⟨c,fz,h1⟩:=Lib.ownsRow_kind h.own g hv
   exact Or.inr (fun e=>hr g e.symm _ _ _ h1))
 gr:=grow_trans h.gr hg (fun g e=>Or.inr (hB g e))
 at':=h.at'
 bs:=h.bs.kept hg (fun e=>hr _ e.symm _ _ _ h.bs)
theorem ownsRow_shape {W:World}{B e size n:Nat}{v:Value}{xs:List Value}(h:W.ownsRow B e size v n xs):∃vg vc,v=.slice vg n vc:=by
 rcases h.2 with ⟨h1,h2⟩|⟨g,c,cur,h1,_⟩
 · exact ⟨_,_,by rw [h1,h2]⟩
 · exact ⟨_,_,h1⟩
theorem onto_at (w:World)(B:Nat)(vp:Option Addr)(n vc:Nat)(xs:List Pc)(hxn:xs.length=n)(hrow:w.ownsRow B 184 3 (.slice vp n vc) n (rowPc xs))(hB:B≤w.heap.size)(gp cap:Nat)(l:List Pc)(m:Nat)(hm:l.length=m)(hI:PcsIn w gp l)(hgp:gp<w.heap.size)(hne:(Value.slice vp n vc).ownBlock≠some gp)(hsz:n+m≤10000000) :
 Calls Tryz.prog 111 #[.slice vp n vc,.slice (some ⟨gp,0,none⟩) m cap] w fun e W'=>∃v,e=.returned v∧W'.ownsRow B 184 3 v (n+m) (rowPc (xs++(upto (backP l) m).map (·.2)))∧w.grownBy W' (Value.slice vp n vc).ownBlock∧∀g,v.ownBlock=some g→(Value.slice vp n vc).ownBlock=some g∨w.heap.size≤g:=by
 subst hm
 obtain ⟨i0,hi,hz0,hz1,hz2⟩:=info_parts infoPc
 refine callsIn_wide.1 (callsIn_of_wp_marks (n:=4) Tryz.func111 rfl trivial ?_ rfl)
 simp only [Tryz.ntmps111,List.size_toArray,List.length_cons,List.length_nil,Nat.reduceAdd,Nat.reduceSub,Array.replicate_succ,Array.replicate_zero,List.push_toArray,List.append_toArray,List.nil_append,List.cons_append]
 gi_wp2
 refine ⟨trivial,(callsIn_wide.2 (backP_at _ _ _ _)).mono ?_⟩
 rintro e w' ⟨rfl,rfl⟩
 gi_wp2
 have bO:=(Boxed.new w 181 (.slice vp n vc)).alloc (.cells #[.slice (some ⟨gp,0,none⟩) l.length cap] 181)
 have bN:=Boxed.new (w.alloc (.cells #[.slice vp n vc] 181)) 181 (.slice (some ⟨gp,0,none⟩) l.length cap)
 rw [World.size_alloc] at bN
 have hB0:Below w.heap.size w ((w.alloc (.cells #[.slice vp n vc] 181)).alloc (.cells #[.slice (some ⟨gp,0,none⟩) l.length cap] 181)):=((Below.refl _ w).alloc (Nat.le_refl _) _).alloc (by simp) _
 have hs2:((w.alloc (.cells #[.slice vp n vc] 181)).alloc (.cells #[.slice (some ⟨gp,0,none⟩) l.length cap] 181)).heap.size=w.heap.size+2:=by simp
 obtain ⟨W2,hW2⟩:∃W2,(w.alloc (.cells #[.slice vp n vc] 181)).alloc (.cells #[.slice (some ⟨gp,0,none⟩) l.length cap] 181)=W2:=⟨_,rfl⟩
 rw [hW2] at hs2 bO bN hB0 ⊢
 clear hW2
 have hI2:PcsIn W2 gp l:=hI.keep (q:=gp) ⟨hB0.size,fun g hg hl=>hB0.block g hl⟩
 have h0:OI w B (.slice vp n vc) n xs (.slice (some ⟨gp,0,none⟩) l.length cap) 0 [] (.slice vp n vc) W2:=⟨bO,by rw [List.append_nil];exact own_on hrow hB0,grow_of_below hB0 _,fun g hg=>Or.inl hg,bN⟩
 have hlt1:w.heap.size+1<W2.heap.size:=by omega
 have hgp2:gp<W2.heap.size:=by omega
 refine wpIn_rangeFunc_ownH (F:=Fence.wide) (n:=4) rfl (by omega) (gf := 227) (lb:=#[.pointer (some ⟨w.heap.size+1,0,none⟩)]) rfl trivial (enters_of Tryz.func227 (by kernel_rfl) rfl)
  (backP_stops Fence.wide 3 trivial rfl (by omega) (w.heap.size+1) gp cap l (by omega) W2 hlt1 hgp2 bN.cell hI2) (fun h1 h2=>h1.trans h2) (KeepsTwo.putObj hgp2 hlt1) (Below.refl _ _) (fun _=>rfl)
  (fun (pre:List (Int × Pc)) W=>∃v,OI w B (.slice vp n vc) n xs (.slice (some ⟨gp,0,none⟩) l.length cap) pre.length (pre.map (·.2)) v W)
  (fun _ _ _=>False)
  (fun pre X Y row hs hg hr => by
   obtain ⟨v,hv⟩:=hs
   exact ⟨v,hv.keep hg (fun r e=>by have:=(hr r e).1;omega) (fun r e cs t fr h=>by
    obtain ⟨_,o,ho,hc⟩:=hr r e
    rw [h] at ho;cases ho;simp [Obj.isCells] at hc)⟩)
  (fun _ _ _ _ _ hs _ _=>hs)
  ⟨_,h0⟩
  (fun x a' W=>∃Bx,W.heap[Bx]?=some (.cells #[.string x.2.text,.int .i64 x.2.node,.bool x.2.brk] 184 (0,0))∧a'={ tmps:=#[.slice vp n vc,.slice (some ⟨gp,0,none⟩) l.length cap,.pointer (some ⟨w.heap.size,0,none⟩),undef,.slice none 0 0,undef,.pointer (some ⟨Bx,0,none⟩),.slice (some ⟨gp,0,none⟩) l.length cap,.func (.func 227) #[] #[.pointer (some ⟨w.heap.size+1,0,none⟩)],.int .i64 x.1,.agg #[.string x.2.text,.int .i64 x.2.node,.bool x.2.brk],undef,undef,undef,undef,undef],defers:=[] })
  (fun x a' _ X Y row hs hg hr => by
   obtain ⟨Bx,e1,e2⟩:=hs
   refine ⟨Bx,?_,e2⟩
   rw [hg.block Bx (Array.getElem?_eq_some_iff.1 e1).1 (fun e=>by
    obtain ⟨_,o,ho,hc⟩:=hr Bx e.symm
    rw [e1] at ho;cases ho;simp [Obj.isCells] at hc)]
   exact e1)
  ?assign ?body ?done ?stop
 case assign =>
  rintro l' pre x W K ⟨v,hv⟩ hK
  gi_wp2
  exact hK _ _ ((KeepsOthers.alloc _ _).from _) ⟨by simp,fun g _ hl=>Below.heap_alloc _ _ _ hl⟩ ⟨v,hv.keep (World.grownBy_alloc W _ none) (fun r e=>by cases e) (fun r e=>by cases e)⟩ ⟨W.heap.size,heap_alloc_new W _,rfl⟩
 case body =>
  rintro l' pre x a' W hl ⟨r,hr⟩ ⟨v,hv⟩ ⟨Bx,bX,rfl⟩ hlt
  obtain ⟨vg,vq,rfl⟩:=ownsRow_shape hv.own
  have hc:=hv.box.cell
  have m0:W.cell? ⟨Bx,0,none⟩=some (.string x.2.text):=by rw [cell_of_row _ _ _ _ _ _ bX];rfl
  have m1:W.cell? ⟨Bx,1,none⟩=some (.int .i64 x.2.node):=by rw [cell_of_row _ _ _ _ _ _ bX];rfl
  have m2:W.cell? ⟨Bx,2,none⟩=some (.bool x.2.brk):=by rw [cell_of_row _ _ _ _ _ _ bX];rfl
  have hWs:=hv.gr.size
  have hBW:B≤W.heap.size:=Nat.le_trans hB hWs
  gi_wp2_with (gi_at_builtin;refine wpListIn_append_lies _ rfl (.tmp 11) (.tmp 13) 181 rfl B 184 i0 _ 3 32 Tryz.underlying181 hi hz0 hz1 hz2 rfl (by decide) (.slice vg (n+pre.length) vq) (n+pre.length) _ rfl (hv.own.alloc _) ⟨W.heap.size,0,none⟩ 1 1 [.string x.2.text,.int .i64 x.2.node,.bool x.2.brk] rfl rfl (World.news_of_block (cs:=#[.string x.2.text,.int .i64 x.2.node,.bool x.2.brk]) (t := 184) (fr:=(0,0)) (heap_alloc_new W _)) (by simp [Value.oneCell']) (by decide) (by unfold maxLen;omega) (by omega) (by simp;omega) _ rfl ?_;intro g5 cap5 w5 hown5 hgrow5 hat5 hlt5;obtain ⟨a5,hv5,hr5,hk5,hb5⟩:=hv.box.appended (by decide) hv.own hBW hB hown5 hgrow5;have hc5:=a5.cell;have hf5:=a5.frozen)
  have hgpv:(Value.slice vg (n+pre.length) vq).ownBlock≠some gp:=fun e=>by
   rcases hv.at' gp e with h1|h1
   · exact hne h1
   · omega
  have hgW:gp<W.heap.size:=by omega
  have hfin:OI w B (.slice vp n vc) n xs (.slice (some ⟨gp,0,none⟩) l.length cap) (pre++[x]).length ((pre++[x]).map (·.2)) (.slice (some ⟨g5,0,none⟩) (n+pre.length+1) cap5) (w5.setCell ⟨w.heap.size,0,none⟩ (.slice (some ⟨g5,0,none⟩) (n+pre.length+1) cap5)):={
   box:=hv5
   own:=by
    rw [List.length_append,List.map_append,← List.append_assoc,rowPc_append]
    exact hr5
   gr:=grow_trans (grow_trans (grow_trans hv.gr (World.grownBy_alloc W _ none) (fun g e=>by cases e)) hgrow5 (fun g e=>hv.at' g e)) (grownBy_setCell' w5 w.heap.size _) (fun g e=>by cases e;exact Or.inr (Nat.le_refl _))
   at':=fun g e=>by
    obtain rfl:g5=g:=by simpa [Value.ownBlock] using e
    rcases hat5 with h1|h1
    · exact hv.at' _ h1
    · right;rw [h1];simp;omega
   bs:=Boxed.aside hv.bs (by decide) hv.own hgrow5 (by omega) }
  exact ⟨hk5.from _,⟨hb5.size,fun g hg hl=>by
   rcases hg with rfl|rfl
   · rw [(grownBy_setCell' w5 w.heap.size _).block _ (by have:=hgrow5.size;simp at this;omega) (fun e=>by have:=Option.some.inj e;omega),hgrow5.block _ (by simp;omega) (fun e=>hgpv e.symm)]
     exact Below.heap_alloc _ _ _ hl
   · exact (show _=_ from hfin.bs).trans (show W.heap[_]?=_ from hv.bs).symm⟩,⟨_,hfin⟩⟩
 case done =>
  rintro D ys W hD rfl ⟨v,hv⟩ hK
  have hc:=hv.box.cell
  have hown:=hv.own
  have hz:=hv.gr.size
  rw [upto_length] at hown
  gi_wp2
  refine ⟨by simp,.inl ⟨_,_,rfl,run_takeDeferred hK,?_⟩⟩
  exact ⟨_,results_tmp rfl _ _ _,v,rfl,ownsRow_putObj hown _ hK rfl,grow_trans hv.gr (grownBy_putObj' W D _) (fun g e=>by cases e;right;omega),hv.at'⟩
 case stop =>
  rintro D c pre W _ _ h _
  exact h.elim
end
section
open Go.RowKit Tr Go.Shelf
theorem back_map (l:List Pc):(upto (backP l) l.length).map (·.2)=l.reverse:=by
 unfold upto
 rw [List.map_map]
 refine List.ext_getElem (by simp) fun i h1 h2=>?_
 simp only [List.length_map,List.length_range] at h1
 simp only [List.getElem_map,List.getElem_range,Function.comp,backP,List.getElem_reverse]
 rw [List.getElem?_eq_getElem (by omega)]
 rfl
theorem Told.len {ns:List Nd}{l:List Pc}{S:ByteArray}{k:Nat}(h:Told ns l S k):l.length≤k:=by
 induction h with
 | nil=>exact Nat.le_refl _
 | cons hp _ ih =>
  rcases hp with ⟨_,_,rfl⟩|⟨q,y,_,_,_,_,_,_,rfl⟩
  · simp only [List.length_cons];omega
  · have:=ast_pos y
    simp only [List.length_cons];omega
theorem Told.head {ns:List Nd}{pc:Pc}{l:List Pc}{X:ByteArray}{k:Nat}(h:Told ns (pc::l) X k):∃T S m k',X=T++S∧k=m+k'∧PcOk ns pc T m∧Told ns l S k':=by
 cases h with
 | cons h1 h2=>exact ⟨_,_,_,_,rfl,rfl,h1,h2⟩
structure TxL (ns:List Nd)(l:List Int)(ks:List Ast):Prop where
 on:OnL ns l ks
 pos:∀j,j<l.length→0<l.getD j 0
 tx:∀x∈ks,isTx x∧wfR x
def tellT:List ByteArray→ByteArray
 | []=>none0
 | s::r=>⟨#[44,32]⟩++s++tellT r
theorem joinT_tell (s:ByteArray)(r:List ByteArray):joinT (s::r)=s++tellT r:=by
 induction r generalizing s with
 | nil=>simp only [joinT,tellT,app_none]
 | cons t r ih =>
  have h1:joinT (s::t::r)=s++⟨#[44,32]⟩++joinT (t::r):=rfl
  rw [h1,ih]
  simp only [tellT,app_assoc]
theorem sizeL_drop (ks:List Ast)(i:Nat)(h:i<ks.length):sizeL (ks.drop i)=ks[i].size+sizeL (ks.drop (i+1)):=by
 rw [List.drop_eq_getElem_cons h];rfl
theorem told_some {ns:List Nd}{l:List Int}{ks:List Ast}(h:TxL ns l ks):∀k,k<l.length→Told ns (lstP (upto (backF l) k)).reverse (tellT ((ks.map exT).drop (l.length-k))) (16*sizeL (ks.drop (l.length-k))+k)
 | 0,_=>by
  have e:(ks.map exT).drop (l.length-0)=[]:=List.drop_eq_nil_of_le (by rw [List.length_map,h.on.1];omega)
  have e2:ks.drop (l.length-0)=[]:=List.drop_eq_nil_of_le (by rw [h.on.1];omega)
  rw [e,e2]
  exact Told.nil
 | k+1,hk=>by
  have ih:=told_some h k (by omega)
  have hlen:=h.on.1
  obtain ⟨q,hq,_,hO⟩:=h.on.2 (l.length-1-k) (by omega)
  have hp:=h.pos (l.length-1-k) (by omega)
  have htx:=h.tx _ (List.getElem_mem (show l.length-1-k<ks.length by omega))
  have hb:backF l k=(((l.length:Nat):Int)-1-k,(q:Int)):=by
   unfold backF
   rw [← hq];rfl
  rw [upto_succ,lstP_snoc,hb,if_pos (show (0:Int)<((l.length:Nat):Int)-1-k by omega)]
  rw [List.reverse_append]
  have e1:l.length-(k+1)=l.length-1-k:=by omega
  have e2:l.length-k=l.length-1-k+1:=by omega
  rw [e1,sizeL_drop ks _ (by omega),List.drop_eq_getElem_cons (show l.length-1-k<(ks.map exT).length by rw [List.length_map];omega)]
  rw [e2] at ih
  have hw:=Told.cons (pc_text ns ⟨#[44,32]⟩) (Told.cons (pc_node (b:=false) (show 0<q by omega) hO htx.1 htx.2) ih)
  have e3:tellT ((ks.map exT)[l.length-1-k]'(by rw [List.length_map];omega)::(ks.map exT).drop (l.length-1-k+1))=⟨#[44,32]⟩++(inB false (exT ks[l.length-1-k])++tellT ((ks.map exT).drop (l.length-1-k+1))):=by
   simp only [tellT,List.getElem_map,app_assoc]
   rfl
  rw [e3]
  have e4:16*(ks[l.length-1-k].size+sizeL (ks.drop (l.length-1-k+1)))+(k+1)=1+(16*ks[l.length-1-k].size+(if false then 3 else 0)+(16*sizeL (ks.drop (l.length-1-k+1))+k)):=by simp;omega
  rw [e4]
  exact hw
theorem told_listed {ns:List Nd}{l:List Int}{ks:List Ast}(h:TxL ns l ks):∃m,Told ns (lstP (upto (backF l) l.length)).reverse (joinT (ks.map exT)) m∧m≤17*sizeL ks:=by
 have hlen:=h.on.1
 rcases ks with _|⟨x,r⟩
 · have:l=[]:=List.eq_nil_of_length_eq_zero hlen
   subst this
   exact ⟨0,Told.nil,Nat.zero_le _⟩
 · rw [List.length_cons] at hlen
   have ih:=told_some h r.length (by omega)
   obtain ⟨q,hq,_,hO⟩:=h.on.2 0 (by simp)
   have hp:=h.pos 0 (by omega)
   have htx:=h.tx x (by simp)
   have hb:backF l r.length=((0:Int),(q:Int)):=by
    unfold backF
    rw [← hq,show l.length-1-r.length=0 by omega,show ((l.length:Nat):Int)-1-r.length=0 by omega]
    rfl
   rw [show l.length-r.length=1 by omega] at ih
   have hr:=len_sizeL r
   refine ⟨16*x.size+(if false then 3 else 0)+(16*sizeL r+r.length),?_,by simp only [sizeL];simp;have:=ast_pos x;omega⟩
   rw [hlen,upto_succ,lstP_snoc,hb,List.reverse_append]
   rw [List.map_cons,joinT_tell]
   exact Told.cons (pc_node (b:=false) (show 0<q by omega) hO htx.1 htx.2) ih
theorem strCells_app (a b:ByteArray):Lib.strCells (a++b)=Lib.strCells a++Lib.strCells b:=by
 simp [Lib.strCells,ByteArray.data_append]
theorem told_conv {W:World}{base:Nat}{v:Value}{S:ByteArray}(h:W.ownsRow base 5 1 v S.size (Lib.strCells S)):(convert 22 9 v).run Tryz.prog W=.ok (.string S) W:=by
 rcases h.2 with ⟨rfl,h2⟩|⟨g,cap,cur,rfl,_⟩
 · have:S=⟨#[]⟩:=by
    apply ByteArray.ext
    exact Array.eq_empty_of_size_eq_zero h2
   rw [this]
   exact Lib.run_convert_nil_bytes W _ _ 5 0 Tryz.underlying22 Tryz.underlying5 Tryz.underlying9
 · refine Lib.run_convert_whole W 22 5 9 Tryz.underlying22 Tryz.underlying5 Tryz.underlying9 g 0 S (fun i hi=>?_) cap
   rw [Nat.zero_add,h.cellAt i (by omega)]
   simp [Lib.strCells]
   rw [Array.getElem?_eq_getElem hi]
   exact ⟨_,rfl,rfl⟩
end
section
open Go.RowKit Tr Go.Shelf
theorem infoB5:(Tryz.prog.info? 5).map (fun i=>(i.zero,i.size,i.bytes))=some (some (.int .u8 0),1,1):=by kernel_rfl
structure TS (w0:World)(vt vp:Value)(S:ByteArray)(P:List Pc)(W:World):Prop where
 below:Below w0.heap.size w0 W
 told:W.ownsRow w0.heap.size 5 1 vt S.size (Lib.strCells S)
 pile:W.ownsRow w0.heap.size 184 3 vp P.length (rowPc P)
theorem TS.apart {w0 W:World}{vt vp:Value}{S:ByteArray}{P:List Pc}(h:TS w0 vt vp S P W):∀g,vt.ownBlock=some g→vp.ownBlock≠some g:=fun g h1 h2=>by
 obtain ⟨c,fz,e1⟩:=Lib.ownsRow_kind h.told g h1
 obtain ⟨c2,fz2,e2⟩:=Lib.ownsRow_kind h.pile g h2
 rw [e1] at e2
 simp at e2
theorem TS.on {w0 W W':World}{vt vp:Value}{S:ByteArray}{P:List Pc}(h:TS w0 vt vp S P W)(hb:Below W.heap.size W W'):TS w0 vt vp S P W':=⟨h.below.trans (hb.mono h.below.size),own_on h.told hb,own_on h.pile hb⟩
theorem TS.drewN {w0 W:World}{vt vp:Value}{S:ByteArray}{P:List Pc}(h:TS w0 vt vp S P W)(n:Nat):TS w0 vt vp S P (W.drewN n):=h.on (drewN_below _ _ _)
theorem TS.piled {w0 W W':World}{vt vp vp':Value}{S:ByteArray}{P P':List Pc}(h:TS w0 vt vp S P W)(hg:W.grownBy W' vp.ownBlock)(ho:W'.ownsRow w0.heap.size 184 3 vp' P'.length (rowPc P')):TS w0 vt vp' S P' W' :=
 ⟨h.below.grown hg h.below.size (fun g e=>(h.pile.lt g e).1),h.told.kept hg (by
  cases hv:vt.ownBlock with
  | none=>exact Or.inl rfl
  | some g=>exact Or.inr (fun e=>h.apart g hv e.symm)),ho⟩
theorem TS.more {w0 W W':World}{vt vt' vp:Value}{S T:ByteArray}{P:List Pc}(h:TS w0 vt vp S P W)(hg:W.grownBy W' vt.ownBlock)(ho:W'.ownsRow w0.heap.size 5 1 vt' (S.size+T.size) (Lib.strCells S++Lib.strCells T)):TS w0 vt' vp (S++T) P W' :=
 ⟨h.below.grown hg h.below.size (fun g e=>(h.told.lt g e).1),by rw [ByteArray.size_append,strCells_app];exact ho,h.pile.kept hg (by
  cases hv:vp.ownBlock with
  | none=>exact Or.inl rfl
  | some g=>exact Or.inr (fun e=>h.apart g e.symm hv))⟩
theorem TS.top {w0 W:World}{vt vp:Value}{S:ByteArray}{Q:List Pc}{t:Pc}(h:TS w0 vt vp S (Q++[t]) W):∃g cap,vp=.slice (some ⟨g,0,none⟩) (Q.length+1) cap∧W.cell? ⟨g,Q.length*3,none⟩=some (.string t.text)∧W.cell? ⟨g,Q.length*3+1,none⟩=some (.int .i64 t.node)∧W.cell? ⟨g,Q.length*3+2,none⟩=some (.bool t.brk)∧Q.length+1≤cap∧TS w0 vt (.slice (some ⟨g,0,none⟩) Q.length cap) S Q W:=by
 have hp:=h.pile
 rw [List.length_append,List.length_singleton] at hp
 obtain ⟨g,cap,rfl⟩:=ownsRow_succ hp
 have hr:rowPc (Q++[t])=rowPc Q++t.cells:=by rw [rowPc_append];simp [rowPc]
 have hl:(rowPc Q).length=Q.length*3:=by
  have:∀l:List Pc,(rowPc l).length=l.length*3:=by
   intro l
   induction l with
   | nil=>rfl
   | cons x r ih=>simp only [rowPc,List.flatMap_cons,List.length_append] at *;rw [ih];simp [Pc.cells];omega
  exact this Q
 have hc:∀i u,i<3→t.cells[i]?=some u→W.cell? ⟨g,Q.length*3+i,none⟩=some u:=fun i u hi hu=>by
  rw [hp.cellAt (Q.length*3+i) (by omega),hr,List.getElem?_append_right (by omega),hl,Nat.add_sub_cancel_left]
  exact hu
 refine ⟨g,cap,rfl,hc 0 _ (by omega) rfl,hc 1 _ (by omega) rfl,hc 2 _ (by omega) rfl,?_,h.below,h.told,?_⟩
 · rcases hp.2 with ⟨h1,_⟩|⟨g',cap',cur,h1,_,_,h2,_⟩
   · cases h1
   · cases h1;exact h2
 · rw [hr] at hp
   exact ownsRow_pop (last:=t.cells) hl hp
theorem rowPc_get:∀(l:List Pc) (j i:Nat),j<l.length→i<3→(rowPc l)[j*3+i]?=(l.getD j noPc).cells[i]?
 | [],j,i,h,_=>absurd h (by simp)
 | x::r,0,i,_,hi=>by
  have h:rowPc (x::r)=x.cells++rowPc r:=rfl
  rw [h,Nat.zero_mul,Nat.zero_add,List.getElem?_append_left (by simp [Pc.cells];omega)]
  rfl
 | x::r,j+1,i,h,hi=>by
  have h1:rowPc (x::r)=x.cells++rowPc r:=rfl
  have h2:x.cells.length=3:=rfl
  rw [h1,List.getElem?_append_right (by rw [h2];omega),h2,show (j+1)*3+i-3=j*3+i by omega,rowPc_get r j i (by simpa using h) hi]
  rfl
theorem pcsIn_of {W:World}{g T:Nat}{l:List Pc}(h:W.heap[g]?=some (.cells (l.flatMap Pc.cells).toArray T (0,0))):PcsIn W g l:=fun j hj=>by
 have hc:∀i u,i<3→(l.getD j noPc).cells[i]?=some u→W.cell? ⟨g,j*3+i,none⟩=some u:=fun i u hi hu=>by
  rw [cell_of_row _ _ _ _ _ _ h,List.getElem?_toArray]
  exact (rowPc_get l j i hj hi).trans hu
 exact ⟨hc 0 _ (by omega) rfl,hc 1 _ (by omega) rfl,hc 2 _ (by omega) rfl⟩
theorem text_at (w:World)(b:Nat)(p:Option Addr)(len c:Nat)(ns:List Nd)(most:Int)(kp:Option Addr)(kl kc:Nat)(l:List Int)(ks:List Ast)(h0:w.cell? ⟨b,0,none⟩=some (.slice p len c))(h1:w.cell? ⟨b,1,none⟩=some (.int .i64 most))(hT:TV w p len c ns)(hI:IntsW w.heap.size w (.slice kp kl kc) l)(hX:TxL ns l ks)(hS:sizeL ks≤70000)(hlen:len≤70000)(ht:PT10 w)(hm:((joinT (ks.map exT)).size:Int)≤most) :
 Calls Tryz.prog 64 #[.pointer (some ⟨b,0,none⟩),.slice kp kl kc] w fun e w'=>e=.returned (.string (joinT (ks.map exT)))∧Below w.heap.size w w':=by
 have hkl:l.length≤70000:=by have:=hX.on.1;have:=len_sizeL ks;omega
 obtain ⟨m0,hT0,hm0⟩:=told_listed hX
 have hXs:(joinT (ks.map exT)).size≤70102*70000:=by
  have h5:wfRL ks:=wfRL_of fun x hx=>(hX.tx x hx).2
  have h2:=joinT_size (ks.map exT)
  have h3:=exs_size ks h5
  have h4:=len_sizeL ks
  rw [List.length_map] at h2
  omega
 have LS:=lh (listed_at kp kl kc l hkl w hI)
 have lb:b<w.heap.size:=cellLt h0
 have HT:=lh hT
 have HP:=lh ht
 have HT0:=lh hT0
 have HM:=lh hm
 obtain ⟨i5,hi,hz0,hz1,hz2⟩:=info_parts infoB5
 have I0:=lh hi
 have I1:=lh hz0
 have I2:=lh hz1
 have I3:=lh hz2
 generalize joinT (ks.map exT)=X at *
 clear hT ht hX hI hT0 hm hi hz0 hz1 hz2 hkl
 go_enter Tryz.func64,Tryz.ntmps64
 go_wp2_with fail
 (with_reducible refine LS.out.mono ?_)
 rintro e w1 ⟨v1,rfl,hown1,hb1⟩
 have S1:Hid (TS w (.slice none 0 0) v1 none0 (lstP (upto (backF l) l.length)) w1):=lh ⟨hb1,World.ownsRow_nil _ _ _ _,hown1⟩
 clear hown1 hb1 LS
 go_wp2_with fail
 go_loopg [5,6] m0 (fun g vt vp wr=>∃(S:ByteArray) (P:List Pc) (R:ByteArray),Hid (TS w vt vp S P wr)∧Hid (Told ns P.reverse R g)∧g≤m0∧Hid (S++R=X))
 case atStart=>exact ⟨_,_,_,S1,HT0,Nat.le_refl _,lh (none_app _)⟩
 case round =>
  clear S1
  obtain ⟨S,P,R,HS,HTo,hgm,HX⟩:=hrel
  obtain ⟨tg,tc,rfl⟩:=ownsRow_shape HS.out.told
  have hSX:S.size≤X.size:=by have:=congrArg ByteArray.size HX.out;rw [ByteArray.size_append] at this;omega
  have HOV:Hid (∀w',w'.cell? ⟨b,1,none⟩=some (.int .i64 most)→Calls Tryz.prog 55 #[.pointer (some ⟨b,0,none⟩),.slice tg S.size tc] w' fun e w''=>e=.returned (.bool false)∧w''=w'):=lh (fun w' h=>by
   have:=isOver_at w' b most tg S.size tc h
   have e:decide (most<(S.size:Int))=false:=by have:=HM.out;simp;omega
   rw [e] at this
   exact this)
  have n0:wr.cell? ⟨b,0,none⟩=some (.slice p len c):=by rw [HS.out.below.cell (p:=⟨b,0,none⟩) lb];exact h0
  have n1:wr.cell? ⟨b,1,none⟩=some (.int .i64 most):=by rw [HS.out.below.cell (p:=⟨b,1,none⟩) lb];exact h1
  have hplen:=HTo.out.len
  rw [List.length_reverse] at hplen
  rcases List.eq_nil_or_concat P with hP|⟨Q,t,hP⟩
  · subst hP
    obtain ⟨pg,pc,rfl⟩:=ownsRow_shape HS.out.pile
    have hR:S=X:=by
     have h2:=HTo.out
     rw [List.reverse_nil] at h2
     have h3:=HX.out
     cases h2
     rwa [app_none] at h3
    subst hR
    have hcv:=told_conv HS.out.told
    have HB:=lh HS.out.below
    clear HOV
    go_wp2
    go_ret
    exact ⟨rfl,HB.out⟩
  · rw [List.concat_eq_append] at hP
    subst hP
    obtain ⟨g,cap,hv,d0,d1,d2,hcap,hTop⟩:=HS.out.top
    subst hv
    have HS2:=lh hTop
    rw [List.reverse_append,List.reverse_singleton,List.singleton_append] at HTo
    obtain ⟨T,R2,m1,k2,hR2,hk2,hpc,hTo2⟩:=HTo.out.head
    have HTo2:=lh hTo2
    rw [List.length_append,List.length_singleton] at hplen
    have hgt:¬ g=b:=fun e=>by have:=(HS.out.pile.lt g rfl).1;omega
    clear HS HTo hTop hTo2
    obtain ⟨q,hq⟩:∃q,Q.length=q:=⟨_,rfl⟩
    have HQ:=lh hq
    rw [hq] at d0 d1 d2 hcap hplen HS2 ⊢
    clear hq
    have hi0:(0:Int)≤(q:Int):=by omega
    have hi2:(q:Int)<(q:Int)+1:=by omega
    have hi3:(0:Int)<(q:Int)+1:=by omega
    have hi4:(q:Int)≤(cap:Int):=by omega
    have HTB:=lh (HS2.out.on (one_below wr (.cells #[.string t.text,.int .i64 t.node,.bool t.brk] 184)))
    obtain ⟨tx,nd,bk⟩:=t
    simp only at d0 d1 d2 HTB
    have hs63:S.size+tx.size≤X.size∨True:=Or.inr trivial
    rcases hpc with ⟨hn0,hT1,hm1⟩|⟨z,y,hn0,hz0,hOz,hxy,hwy,hT1,hm1⟩
    · simp only at hn0 hT1
      subst hn0
      subst hT1
      have hXl:S.size+T.size≤X.size:=by
       have h:=congrArg ByteArray.size HX.out
       rw [hR2,ByteArray.size_append,ByteArray.size_append] at h
       omega
      have HX2:Hid (S++T++R2=X):=lh (by rw [app_assoc,← hR2];exact HX.out)
      have hbs:=HTB.out.below.size
      go_wp2_with (first|(go_at_call 55;(with_reducible refine (HOV.out _ n1).mono ?_);rintro e w' ⟨rfl,hww⟩;have hw3:=hww.symm;subst hw3)|(at_builtin;refine Lib.wpList_append_own_string _ rfl (.tmp 46) (.tmp 48) 22 9 rfl w.heap.size 5 i5 Tryz.underlying22 Tryz.underlying9 I0.out I1.out I2.out I3.out (.slice tg S.size tc) S.size (Lib.strCells S) rfl HTB.out.told T rfl ?c3 ?c4 ?c5 ?_))
      case c3=>unfold maxLen;omega
      case c4=>omega
      case c5=>omega
      intro v9 w9 hown9 hgrow9 _
      have S9:=lh (HTB.out.more hgrow9 hown9)
      clear hown9 hgrow9
      go_wp2_with fail
      go_roundg k2
      case rel=>exact ⟨_,_,_,S9,HTo2,by omega,HX2⟩
      case measure=>omega
    · simp only at hn0 hT1 hm1
      subst hn0
      have hnz:((z:Int)==0)=false:=by simp;omega
      cases bk with
      | true =>
       simp only [if_true] at hm1
       have HTB2:=lh (HTB.out.on (one_below (wr.alloc (.cells #[.string tx,.int .i64 (z:Int),.bool true] 184)) (.cells #[.string ⟨#[40]⟩,.int .i64 0,.bool false,.string ⟨#[]⟩,.int .i64 (z:Int),.bool false,.string ⟨#[41]⟩,.int .i64 0,.bool false] 184)))
       have hgl:=(HS2.out.pile.lt g rfl).2
       have CO:=lh (onto_at _ w.heap.size (some ⟨g,0,none⟩) q cap Q HQ.out (by have h:=HTB2.out.pile;rwa [HQ.out] at h) HTB2.out.below.size (wr.heap.size+1) 3 [pcT ⟨#[40]⟩,pcN z false,pcT ⟨#[41]⟩] 3 rfl (pcsIn_of (T := 184) (by have h:=heap_alloc_new (wr.alloc (.cells #[.string tx,.int .i64 (z:Int),.bool true] 184)) (.cells #[.string ⟨#[40]⟩,.int .i64 0,.bool false,.string ⟨#[]⟩,.int .i64 (z:Int),.bool false,.string ⟨#[41]⟩,.int .i64 0,.bool false] 184);rw [World.size_alloc] at h;exact h)) (by simp) (fun e=>by
        have e2:g=wr.heap.size+1:=by simpa [Value.ownBlock] using e
        omega) (by omega))
       go_wp2_with (first|(go_at_call 55;(with_reducible refine (HOV.out _ n1).mono ?_);rintro e w' ⟨rfl,hww⟩;have hw3:=hww.symm;subst hw3)|(go_at_call 111;(with_reducible refine CO.out.mono ?_);rintro e w9 ⟨v9,rfl,hown9,hgr9,hat9⟩))
       have hl3:(upto (backP [pcT ⟨#[40]⟩,pcN z false,pcT ⟨#[41]⟩]) 3).map (·.2)=[pcT ⟨#[40]⟩,pcN z false,pcT ⟨#[41]⟩].reverse:=back_map _
       have hP9:(Q++[pcT ⟨#[40]⟩,pcN z false,pcT ⟨#[41]⟩].reverse).length=q+3:=by rw [List.length_append,HQ.out];rfl
       have S9:Hid (TS w (.slice tg S.size tc) v9 S (Q++[pcT ⟨#[40]⟩,pcN z false,pcT ⟨#[41]⟩].reverse) w9):=lh (HTB2.out.piled hgr9 (by rw [hP9,← hl3];exact hown9))
       have T9:Hid (Told ns (Q++[pcT ⟨#[40]⟩,pcN z false,pcT ⟨#[41]⟩].reverse).reverse ((⟨#[40]⟩++(inB false (exT y)++⟨#[41]⟩))++R2) ((1+(16*y.size+(if false then 3 else 0)+1))+k2)):=lh (by
        rw [List.reverse_append,List.reverse_reverse]
        exact (Told.cons (pc_text ns ⟨#[40]⟩) (Told.cons (pc_node (b:=false) hz0 hOz hxy hwy) (told_one (pc_text ns ⟨#[41]⟩)))).append HTo2.out)
       have HX2:Hid (S++((⟨#[40]⟩++(inB false (exT y)++⟨#[41]⟩))++R2)=X):=lh (by
        rw [← HX.out,hR2,hT1]
        show S++((⟨#[40]⟩++(exT y++⟨#[41]⟩))++R2)=S++(⟨#[40]⟩++exT y++⟨#[41]⟩++R2)
        simp only [app_assoc])
       clear hown9 hgr9 hat9 hl3 hP9 HTB2 HTB CO
       go_roundg ((1+(16*y.size+(if false then 3 else 0)+1))+k2)
       case rel=>exact ⟨_,_,_,S9,T9,by simp;omega,HX2⟩
       case measure=>simp;omega
      | false =>
       simp only [Bool.false_eq_true,if_false] at hm1
       cases y with
       | mk k a0 s n kids =>
       have hwr:=(HS2.out.pile.lt g rfl).2
       have hgw:=(HS2.out.pile.lt g rfl).1
       obtain ⟨nb,off,rfl,hnb,hnc⟩:=HT.out.node (by have:=hOz.lt;have:=HT.out.len_eq;omega)
       have hzl:z<len:=by have:=hOz.lt;have:=HT.out.len_eq;omega
       obtain ⟨a',hnd⟩:=hOz.node
       obtain ⟨kp2,kl2,kc2,hn⟩:=hnc z hzl
       rw [hnd] at hn
       have hbw:=HTB.out.below
       have hb4:=one_below wr (.cells #[.string tx,.int .i64 (z:Int),.bool false] 184)
       have hsW:wr.heap.size<(wr.alloc (.cells #[.string tx,.int .i64 (z:Int),.bool false] 184)).heap.size:=by simp
       have lb2:b<wr.heap.size:=by have:=HS2.out.below.size;omega
       have lnb:nb<wr.heap.size:=by have:=HS2.out.below.size;omega
       have hn4:=hn.on hnb hbw
       have f0:(wr.alloc (.cells #[.string tx,.int .i64 (z:Int),.bool false] 184)).cell? ⟨b,0,none⟩=some (.slice (some ⟨nb,off,none⟩) len c):=by rw [hb4.cell (p:=⟨b,0,none⟩) lb2];exact n0
       have f1:(wr.alloc (.cells #[.string tx,.int .i64 (z:Int),.bool false] 184)).cell? ⟨wr.heap.size,1,none⟩=some (.int .i64 (z:Int)):=by rw [cell_of_row _ _ _ _ _ _ (heap_alloc_new wr _)];rfl
       have f2:(wr.alloc (.cells #[.string tx,.int .i64 (z:Int),.bool false] 184)).cell? ⟨nb,off+z*5,none⟩=some (.int .u8 k):=hn4.kind
       have f3:(wr.alloc (.cells #[.string tx,.int .i64 (z:Int),.bool false] 184)).cell? ⟨nb,off+z*5+1,none⟩=some (.int .i64 a'):=hn4.at'
       have f4:(wr.alloc (.cells #[.string tx,.int .i64 (z:Int),.bool false] 184)).cell? ⟨nb,off+z*5+2,none⟩=some (.string s):=hn4.text
       have f5:(wr.alloc (.cells #[.string tx,.int .i64 (z:Int),.bool false] 184)).cell? ⟨nb,off+z*5+3,none⟩=some (.int .i64 n):=hn4.n
       have f6:(wr.alloc (.cells #[.string tx,.int .i64 (z:Int),.bool false] 184)).cell? ⟨nb,off+z*5+4,none⟩=some (.slice kp2 kl2 kc2):=hn4.kids
       have hIV:IV (wr.alloc (.cells #[.string tx,.int .i64 (z:Int),.bool false] 184)) kp2 kl2 kc2 (heads (z+1) kids):=hn4.iv
       have hTV:=HT.out.on hbw
       have hPT:=HP.out.below hbw
       obtain ⟨W4,hW4⟩:∃W4,(wr.alloc (.cells #[.string tx,.int .i64 (z:Int),.bool false] 184))=W4:=⟨_,rfl⟩
       rw [hW4] at hb4 hsW f0 f1 f2 f3 f4 f5 f6 hIV hTV hPT HTB
       have HW4:=lh hW4
       clear hW4
       have HKC:Hid (∀w':World,Below W4.heap.size W4 w'→∀(ad:Addr) (u:Value),W4.cell? ad=some u→w'.cell? ad=some u):=lh (fun w' hb ad u h=>by rw [hb.cell (cellLt h)];exact h)
       have HPC:Hid (∀w':World,Below W4.heap.size W4 w'→Calls Tryz.prog 112 #[.pointer (some ⟨b,0,none⟩),.agg #[.int .u8 k,.int .i64 a',.string s,.int .i64 n,.slice kp2 kl2 kc2]] w' fun e w''=>∃g5 l5 m5,e=.returned (.slice (some ⟨g5,0,none⟩) l5.length l5.length)∧w''.cell? ⟨b,0,none⟩=some (.slice (some ⟨nb,off,none⟩) len c)∧w''.cell? ⟨wr.heap.size,1,none⟩=some (.int .i64 (z:Int))∧w''.cell? ⟨nb,off+z*5,none⟩=some (.int .u8 k)∧w''.cell? ⟨nb,off+z*5+1,none⟩=some (.int .i64 a')∧w''.cell? ⟨nb,off+z*5+2,none⟩=some (.string s)∧w''.cell? ⟨nb,off+z*5+3,none⟩=some (.int .i64 n)∧w''.cell? ⟨nb,off+z*5+4,none⟩=some (.slice kp2 kl2 kc2)∧Below W4.heap.size W4 w''∧PcsIn w'' g5 l5∧W4.heap.size≤g5∧g5<w''.heap.size∧Told ns l5 (exT (.mk k a0 s n kids)) m5∧m5<16*(Ast.mk k a0 s n kids).size∧l5.length≤4):=lh (fun w' hb=>(pieces_at w' b (some ⟨nb,off,none⟩) len c ns z k a0 s n kids a' kp2 kl2 kc2 hOz hwy hxy (hPT.below hb) ⟨HKC.out w' hb _ _ f0,hTV.on hb,hIV.on hb⟩).mono fun e w'' ⟨⟨v,l5,he,⟨g5,hv,hg5,hge,hgl⟩,m5,ht5,hm5,hl5⟩,hb2⟩=>by
        have hb3:=hb.trans (hb2.mono hb.size)
        exact ⟨g5,l5,m5,by rw [he,hv],HKC.out _ hb3 _ _ f0,HKC.out _ hb3 _ _ f1,HKC.out _ hb3 _ _ f2,HKC.out _ hb3 _ _ f3,HKC.out _ hb3 _ _ f4,HKC.out _ hb3 _ _ f5,HKC.out _ hb3 _ _ f6,hb3,pcsIn_of hg5,Nat.le_trans hb.size hge,hgl,ht5,hm5,hl5⟩)
       have HON:Hid (∀(w':World) (g5:Nat) (l5:List Pc),Below W4.heap.size W4 w'→PcsIn w' g5 l5→W4.heap.size≤g5→g5<w'.heap.size→l5.length≤4→Calls Tryz.prog 111 #[.slice (some ⟨g,0,none⟩) q cap,.slice (some ⟨g5,0,none⟩) l5.length l5.length] w' fun e w''=>∃v9,e=.returned v9∧w''.cell? ⟨b,0,none⟩=some (.slice (some ⟨nb,off,none⟩) len c)∧w''.cell? ⟨wr.heap.size,1,none⟩=some (.int .i64 (z:Int))∧w''.cell? ⟨nb,off+z*5,none⟩=some (.int .u8 k)∧w''.cell? ⟨nb,off+z*5+1,none⟩=some (.int .i64 a')∧w''.cell? ⟨nb,off+z*5+2,none⟩=some (.string s)∧w''.cell? ⟨nb,off+z*5+3,none⟩=some (.int .i64 n)∧w''.cell? ⟨nb,off+z*5+4,none⟩=some (.slice kp2 kl2 kc2)∧TS w (.slice tg S.size tc) v9 S (Q++l5.reverse) w''):=lh (fun w' g5 l5 hb hI5 hge hgl hl5=>by
        have hts:=HTB.out.on hb
        have hp5:=hts.pile
        rw [HQ.out] at hp5
        refine (onto_at w' w.heap.size (some ⟨g,0,none⟩) q cap Q HQ.out hp5 hts.below.size g5 l5.length l5 l5.length rfl hI5 hgl (fun e=>?_) (by omega)).mono fun e w'' ⟨v9,he,hown9,hgr9,_⟩=>?_
        · have e2:g=g5:=by simpa [Value.ownBlock] using e
          omega
        · have hkc:∀(ad:Addr) (u:Value),ad.block≠g→W4.cell? ad=some u→w''.cell? ad=some u:=fun ad u hne h=>by
           have h2:=HKC.out w' hb ad u h
           rw [World.cell?_of_block (w:=w') (hgr9.block ad.block (cellLt h2) (fun e=>hne (by simpa [Value.ownBlock] using e)))]
           exact h2
          refine ⟨v9,he,hkc _ _ (by simp only;omega) f0,hkc _ _ (by simp only;omega) f1,hkc _ _ (by simp only;omega) f2,hkc _ _ (by simp only;omega) f3,hkc _ _ (by simp only;omega) f4,hkc _ _ (by simp only;omega) f5,hkc _ _ (by simp only;omega) f6,hts.piled hgr9 ?_⟩
          rw [List.length_append,List.length_reverse,HQ.out,← back_map]
          exact hown9)
       have hbd:Below W4.heap.size W4 W4.drew:=(Below.refl _ _).drew
       have hzi0:(0:Int)≤(z:Int):=by omega
       have hzi1:(z:Int)<(len:Int):=by omega
       have HZ:Hid (16*(Ast.mk k a0 s n kids).size+k2=gk∧R=exT (.mk k a0 s n kids)++R2):=lh ⟨by omega,by rw [hR2,hT1];rfl⟩
       clear hn hn4 hIV hTV hPT hbw hb4 hnc hnd hwr hm1 hR2 hT1 hk2
       go_wp2_with (go_at_call 55;(with_reducible refine (HOV.out _ n1).mono ?_);rintro e w' ⟨rfl,hww⟩;have hw3:=hww.symm;subst hw3)
       rw [HW4.out]
       clear HW4
       go_region_held3 (fun w'=>w'.cell? ⟨b,0,none⟩=some (.slice (some ⟨nb,off,none⟩) len c)∧w'.cell? ⟨wr.heap.size,1,none⟩=some (.int .i64 (z:Int))∧w'.cell? ⟨nb,off+z*5,none⟩=some (.int .u8 k)∧w'.cell? ⟨nb,off+z*5+1,none⟩=some (.int .i64 a')∧w'.cell? ⟨nb,off+z*5+2,none⟩=some (.string s)∧w'.cell? ⟨nb,off+z*5+3,none⟩=some (.int .i64 n)∧w'.cell? ⟨nb,off+z*5+4,none⟩=some (.slice kp2 kl2 kc2)) (go_keep) (first|(go_at_call 112;(with_reducible refine (HPC.out _ hbd).mono ?_);rintro e w5 ⟨g5,l5,m5,rfl,r0,r1,r2,r3,r4,r5,r6,rb,ri,rge,rgl,rt,rm,rl⟩)|(go_at_call 111;(with_reducible refine (HON.out _ _ _ rb ri rge rgl rl).mono ?_);rintro e w9 ⟨v9,rfl,r0,r1,r2,r3,r4,r5,r6,rts⟩))
       have S9:=lh rts
       have T9:Hid (Told ns (Q++l5.reverse).reverse (exT (.mk k a0 s n kids)++R2) (m5+k2)):=lh (by
        rw [List.reverse_append,List.reverse_reverse]
        exact rt.append HTo2.out)
       have HX2:Hid (S++(exT (.mk k a0 s n kids)++R2)=X):=lh (by rw [← HZ.out.2];exact HX.out)
       have hz1:=HZ.out.1
       clear rts rt ri rb rge rgl
       go_wp2_with fail
       go_roundg (m5+k2)
       case rel=>exact ⟨_,_,_,S9,T9,by omega,HX2⟩
       case measure=>omega
end
section
open Go.RowKit Tr Go.Shelf
structure PrW (w0:World)(b:Nat)(nv:Value)(most:Int)(v:Value)(L:ByteArray)(W:World):Prop where
 below:Below b w0 W
 blk:W.heap[b]?=some (.cells #[nv,.int .i64 most,v] 101 (0,0))
 own:W.ownsRow (b+1) 5 1 v L.size (Lib.strCells L)
theorem PrW.lt {w0 W:World}{b:Nat}{nv v:Value}{most:Int}{L:ByteArray}(h:PrW w0 b nv most v L W):b<W.heap.size:=by
 by_cases hb:b<W.heap.size
 · exact hb
 · have:=h.blk
   rw [Array.getElem?_eq_none (by omega)] at this
   cases this
theorem PrW.cell {w0 W:World}{b:Nat}{nv v:Value}{most:Int}{L:ByteArray}(h:PrW w0 b nv most v L W):W.cell? ⟨b,0,none⟩=some nv∧W.cell? ⟨b,1,none⟩=some (.int .i64 most)∧W.cell? ⟨b,2,none⟩=some v∧W.frozen? ⟨b,2,none⟩=false :=
 ⟨by rw [cell_of_row _ _ _ _ _ _ h.blk];rfl,by rw [cell_of_row _ _ _ _ _ _ h.blk];rfl,by rw [cell_of_row _ _ _ _ _ _ h.blk];rfl,frozen_of_row _ _ _ _ _ h.blk⟩
theorem PrW.apart {w0 W:World}{b:Nat}{nv v:Value}{most:Int}{L:ByteArray}(h:PrW w0 b nv most v L W):v.ownBlock≠some b:=fun e=>by have:=(h.own.lt b e).1;omega
theorem PrW.on {w0 W W':World}{b:Nat}{nv v:Value}{most:Int}{L:ByteArray}(h:PrW w0 b nv most v L W)(hb:Below W.heap.size W W'):PrW w0 b nv most v L W' :=
 ⟨h.below.trans (hb.mono (Nat.le_of_lt h.lt)),(hb.block b h.lt).trans h.blk,own_on h.own hb⟩
theorem PrW.more {w0 W w5:World}{b:Nat}{nv v v':Value}{most:Int}{L s:ByteArray}(h:PrW w0 b nv most v L W)(hg:W.grownBy w5 v.ownBlock)(ho:w5.ownsRow (b+1) 5 1 v' (L.size+s.size) (Lib.strCells L++Lib.strCells s)):PrW w0 b nv most v' (L++s) (w5.setCell ⟨b,2,none⟩ v'):=by
 have hb5:w5.heap[b]?=W.heap[b]?:=hg.block b h.lt (fun e=>h.apart e.symm)
 refine ⟨(h.below.grown hg (Nat.le_of_lt h.lt) (fun g e=>by have:=(h.own.lt g e).1;omega)).setCell (p:=⟨b,2,none⟩) (Nat.le_refl _) _,heap_set w5 b 2 v' _ _ (hb5.trans h.blk),?_⟩
 rw [ByteArray.size_append,strCells_app]
 refine World.ownsRow.kept ho (grownBy_set w5 ⟨b,2,none⟩ v') ?_
 by_cases hv:v'.ownBlock=none
 · exact Or.inl hv
 · refine Or.inr (fun e=>?_)
   have:=(ho.lt b e).1
   omega
theorem on_row {W W':World}{q:Nat}{o:Obj}(hb:Below W.heap.size W W')(hq:W.heap[q]?=some o):W'.heap[q]?=some o:=by
 by_cases h:q<W.heap.size
 · exact (hb.block q h).trans hq
 · rw [Array.getElem?_eq_none (by omega)] at hq
   cases hq
def KeepT (b:Nat)(A B:World):Prop:=∀q cs T fz,A.heap[q]?=some (.cells cs T fz)→T≠5→q≠b→B.heap[q]?=some (.cells cs T fz)
theorem KeepT.trans {b:Nat}{A B C:World}(h:KeepT b A B)(h2:KeepT b B C):KeepT b A C:=fun q cs T fz e1 e2 e3=>h2 q cs T fz (h q cs T fz e1 e2 e3) e2 e3
theorem KeepT.of {b:Nat}{A B:World}(h:Below A.heap.size A B):KeepT b A B:=fun _ _ _ _ e _ _=>on_row h e
theorem wp_app_str {P:Program}{o:Oper}{a:Act}{w:World}{K:Act→World→Prop}{Q:Exit→Act→World→Prop}(sl x:Operand)(t u:TypeId)
 (ho:o.op=.call { callee:=.builtin .append,args:=#[sl,x],argTypes:=#[t,u] })
 (base:Nat) (e:TypeId) (i:TypeInfo) (ht:P.underlying t=some (.slice e)) (hu:P.underlying u=some .string) (hi:P.info? e=some i) (hz:i.zero=some (.int .u8 0))
 (hsize:i.size=1) (hby:i.bytes=1)
 (v:Value) (n:Nat) (xs:List Value) (hs:a.eval sl=v) (hown:w.ownsRow base e 1 v n xs) (s:ByteArray) (hx:a.eval x=.string s)
 (h63:n+s.size≤maxLen) (hbytes:n+s.size≤140737488355328) (hbase:base≤w.heap.size)
 (h:∀v' w',w'.ownsRow base e 1 v' (n+s.size) (xs++Lib.strCells s)→w.grownBy w' v.ownBlock→K (a.put o.dst v') w'):o.wp P a w K Q:=by
 obtain ⟨v',w',hr,h2,h3,h4⟩:=Lib.run_append_own_string (P:=P) w base t u o.type e i ht hu hi hz hsize hby v n xs hown s h63 hbytes hbase
 unfold Oper.wp execOp
 simp only [ho,resolve,invoke,builtin,Sem.run_bind,Sem.run_pure,Result.andThen_ok,List.map_toArray,List.map_cons,List.map_nil,hs,hx,hr]
 exact h v' w' h2 h3
theorem PrW.keep {w0 W w5:World}{b:Nat}{nv v v':Value}{most:Int}{L:ByteArray}(h:PrW w0 b nv most v L W)(hg:W.grownBy w5 v.ownBlock):KeepT b W (w5.setCell ⟨b,2,none⟩ v'):=fun q cs T fz hq hT hqb=>by
 have hql:q<W.heap.size:=by
  by_cases hb:q<W.heap.size
  · exact hb
  · rw [Array.getElem?_eq_none (by omega)] at hq
    cases hq
 have hqv:some q≠v.ownBlock:=fun e=>by
  obtain ⟨c,fz,e1⟩:=Lib.ownsRow_kind h.own q e.symm
  rw [hq] at e1
  simp only [Option.some.injEq,Obj.cells.injEq] at e1
  exact hT e1.2.1
 exact ((Below.heap_setCell w5 ⟨b,2,none⟩ v' q hqb).trans (hg.block q hql hqv)).trans hq
theorem repeat_tabs (d:Nat):(⟨(Lib.repeatL [9] d).toArray⟩:ByteArray)=tabsT d:=by
 have:∀d,Lib.repeatL ([9]:List UInt8) d=List.replicate d 9:=by
  intro d
  induction d with
  | zero=>rfl
  | succ n ih=>rw [Lib.repeatL,ih,List.replicate_succ];rfl
 rw [this]
 rfl
def catT:List ByteArray→ByteArray
 | []=>none0
 | s::r=>s++catT r
theorem catT_snoc (l:List ByteArray)(s:ByteArray):catT (l++[s])=catT l++s:=by
 induction l with
 | nil=>show s++none0=none0++s;rw [app_none,none_app]
 | cons x r ih=>show x++catT (r++[s])=x++catT r++s;rw [ih,app_assoc]
theorem catT_take (l:List ByteArray)(i:Nat)(h:i<l.length):catT (l.take (i+1))=catT (l.take i)++l.getD i none0:=by
 rw [List.take_succ_eq_append_getElem h,catT_snoc]
 simp [List.getD,h]
theorem catT_le (l:List ByteArray)(i:Nat):(catT (l.take i)).size≤(catT l).size:=by
 induction l generalizing i with
 | nil=>simp
 | cons x r ih =>
  cases i with
  | zero=>show none0.size≤_;exact Nat.zero_le _
  | succ i =>
   have:=ih i
   simp only [List.take_succ_cons,catT,ByteArray.size_append]
   omega
theorem drew_on (w:World):Below w.heap.size w w.drew:=⟨rfl,rfl,rfl,Nat.le_refl _,fun _ _=>rfl⟩
theorem line_at (w0 w:World)(b:Nat)(nv:Value)(most:Int)(v:Value)(L:ByteArray)(h:PrW w0 b nv most v L w)(d:Nat)(q cq:Nat)(ss:List ByteArray)(hq:w.heap[q]?=some (.cells (ss.map Value.string).toArray 9 (0,0)))(hss:ss.length≤100)(hd:d≤70000)(hL:L.size≤1000000000)(hS:(catT ss).size≤1000000000) :
 Calls Tryz.prog 167 #[.pointer (some ⟨b,0,none⟩),.int .i64 (d:Int),.slice (some ⟨q,0,none⟩) ss.length cq] w fun e w'=>e=.returned (.tuple #[])∧∃v',PrW w0 b nv most v' (L++lineT d (catT ss)) w'∧KeepT b w w':=by
 have hqb:q≠b:=fun e=>by
  have h1:=h.blk
  rw [e,h1] at hq
  simp at hq
 have HQB:=lh hqb
 have RP:Hid (∀w',Calls Tryz.prog 224 #[.string ⟨#[9]⟩,.int .i64 (d:Int)] w' fun e w2=>e=.returned (.string (tabsT d))∧Below w'.heap.size w' w2):=lh (fun w'=>by
  have:=Tryz.strings_Repeat ⟨#[9]⟩ d w' (by omega) (by show 1*d≤_;omega)
  rw [show (⟨#[9]⟩:ByteArray).data.toList=[9] from rfl,repeat_tabs] at this
  exact this)
 have HS:=lh h
 have HQ:=lh hq
 have HL:=lh hL
 have HSS:=lh hS
 have HD:=lh hd
 have HN:=lh hss
 obtain ⟨i5,hi,hz0,hz1,hz2⟩:=info_parts infoB5
 have I0:=lh hi
 have I1:=lh hz0
 have I2:=lh hz1
 have I3:=lh hz2
 obtain ⟨vp,vc,rfl⟩:=ownsRow_shape h.own
 obtain ⟨_,_,c2,z2⟩:=h.cell
 have hlt:=h.lt
 have hts:=lh (tabsT_size d)
 clear hqb h hq hL hS hd hss hi hz0 hz1 hz2
 go_enter Tryz.func167,Tryz.ntmps167
 go_wp2_with fail
 refine wp_region_held_drew (S:=fun _=>True) (by kernel_rfl) trivial (fun hHeld=>?_)
 refine tk (i:=0) (v:=?_) rfl hHeld ?_ ?_
 rotate_left
 · (intro w hSw;(try dsimp only at hSw);go_simp;try with_reducible rfl)
 (try simp only [pn])
 refine tk (i:=1) (v:=?_) rfl hHeld ?_ ?_
 rotate_left
 · (intro w hSw;(try dsimp only at hSw);go_simp;try with_reducible rfl)
 (try simp only [pn])
 refine tk (i:=5) (v:=?_) rfl hHeld ?_ ?_
 rotate_left
 · (intro w hSw;(try dsimp only at hSw);go_simp;try with_reducible rfl)
 (try simp only [pn])
 refine tk (i:=2) (v:=?_) rfl hHeld ?_ ?_
 rotate_left
 · (intro w hSw;(try dsimp only at hSw);go_simp;try with_reducible rfl)
 (try simp only [pn])
 refine tk (i:=3) (v:=?_) rfl hHeld ?_ ?_
 rotate_left
 · (intro w hSw;(try dsimp only at hSw);go_simp;try with_reducible rfl)
 (try simp only [pn])
 refine wpAnyH_ready (rs:=[4,6]) (by kernel_rfl) (by simp) ?_
 refine AllReadyH.cons rfl (fun K hK=>?_) (AllReadyH.cons rfl (fun K hK=>?_) (AllReadyH.nil))
 · go_simp
   refine hK.out _ _ trivial (fun hHeld=>?_)
   clear hK K
   (try simp only [pn])
   refine wpAnyH_ready (rs:=[6]) (by kernel_rfl) (by simp) ?_
   refine AllReadyH.cons rfl (fun K hK=>?_) (AllReadyH.nil)
   go_simp
   go_at_call 224
   (with_reducible refine (RP.out _).mono ?_)
   rintro e w1 ⟨rfl,hb1⟩
   have S1:=lh ((HS.out.on (drew_on _)).on hb1)
   have Q1:=lh (KeepT.trans (KeepT.of (b:=b) (drew_on w)) (KeepT.of hb1))
   obtain ⟨_,_,c21,z21⟩:=S1.out.cell
   clear hb1
   go_simp
   refine hK.out _ _ trivial (fun hHeld=>?_)
   clear hK K
   (try simp only [pn])
   refine wpAnyH_ready (rs:=[7]) (by kernel_rfl) (by simp) ?_
   refine AllReadyH.cons rfl (fun K hK=>?_) (AllReadyH.nil)
   rw [if_pos (by rfl)]
   refine wp_app_str (.tmp 12) (.tmp 14) 22 9 rfl (b+1) 5 i5 Tryz.underlying22 Tryz.underlying9 I0.out I1.out I2.out I3.out (.slice vp L.size vc) L.size (Lib.strCells L) rfl S1.out.own (tabsT d) rfl (by have:=HL.out;have:=HD.out;have:=hts.out;unfold maxLen;omega) (by have:=HL.out;have:=HD.out;have:=hts.out;omega) S1.out.lt ?_
   intro v5 w5 hown5 hgrow5
   obtain ⟨g5,n5,rfl⟩:=ownsRow_shape hown5
   have S5:=lh (S1.out.more hgrow5 hown5)
   have Q5:=lh (Q1.out.trans (S1.out.keep (v':=.slice g5 (L.size+(tabsT d).size) n5) hgrow5))
   have c25:w5.cell? ⟨b,2,none⟩=some (.slice vp L.size vc):=(hgrow5.cell_far ⟨b,2,none⟩ S1.out.lt (fun e=>S1.out.apart e.symm)).trans c21
   have z25:w5.frozen? ⟨b,2,none⟩=false:=(hgrow5.frozen_far ⟨b,2,none⟩ S1.out.lt (fun e=>S1.out.apart e.symm)).trans z21
   clear hown5 hgrow5 c21 z21
   refine hK.out _ _ trivial (fun hHeld=>?_)
   clear hK K
   (try simp only [pn])
   refine tk (i:=8) (v:=?_) rfl hHeld ?_ ?_
   rotate_left
   · (intro w hSw;(try dsimp only at hSw);go_simp;try with_reducible rfl)
   (try simp only [pn])
   refine tk (i:=9) (v:=?_) rfl hHeld ?_ ?_
   rotate_left
   · (intro w hSw;(try dsimp only at hSw);go_simp;try with_reducible rfl)
   (try simp only [pn])
   refine wpAnyH_ready (rs:=[10]) (by kernel_rfl) (by simp) ?_
   refine AllReadyH.cons rfl (fun K hK=>?_) (AllReadyH.nil)
   go_simp
   refine hK.out _ _ trivial (fun hHeld=>?_)
   clear hK K
   (try simp only [pn])
   refine wpAnyH_done (by kernel_rfl) ?_ _
   clear c25 z25 HS S1 Q1 c2 z2 hlt RP
   obtain ⟨A,hA⟩:∃A,L++tabsT d=A:=⟨_,rfl⟩
   have HA:Hid (A.size≤1000070000):=lh (by rw [← hA,ByteArray.size_append];have:=HL.out;have:=HD.out;have:=hts.out;omega)
   have HLA:Hid (L++tabsT d=A):=lh hA
   rw [← ByteArray.size_append] at S5
   rw [hA] at S5
   rw [← ByteArray.size_append,hA] at Q5 ⊢
   generalize w5.setCell ⟨b,2,none⟩ (.slice g5 A.size n5)=W5 at *
   clear hA
   have S6:Hid (PrW w0 b nv most (.slice g5 A.size n5) (A++catT (ss.take 0)) W5):=lh (by rw [show catT (ss.take 0)=none0 from rfl,app_none];exact S5.out)
   clear S5
   go_wp2_with fail
   go_loopg [7,20] ss.length (fun g v7 v20 wr=>∃(i:Nat) (v:Value),v20=.int .i64 (i:Int)∧Hid (g+i=ss.length)∧Hid (PrW w0 b nv most v (A++catT (ss.take i)) wr)∧Hid (KeepT b w wr))
   case atStart=>exact ⟨0,_,rfl,lh rfl,S6,Q5⟩
   case round =>
    clear S6 Q5
    obtain ⟨i,v,rfl,HG,HS,HK⟩:=hrel
    obtain ⟨vp1,vc1,rfl⟩:=ownsRow_shape HS.out.own
    obtain ⟨_,_,c2,z2⟩:=HS.out.cell
    have hlt:=HS.out.lt
    have hne:=HS.out.apart
    have hi3:i≤100:=by have:=HG.out;have:=HN.out;omega
    by_cases hi:i<ss.length
    · have ci:wr.cell? ⟨q,i,none⟩=some (.string (ss.getD i none0)):=by
       rw [cell_of_row _ _ _ _ _ _ (HK.out q _ 9 _ HQ.out (by decide) HQB.out)]
       simp [List.getD,hi]
      have hb9:=catT_take ss i hi
      obtain ⟨s,hs⟩:∃s,ss.getD i none0=s:=⟨_,rfl⟩
      rw [hs] at ci hb9
      clear hs
      have hle:=catT_le ss (i+1)
      have hcs:(A++catT (ss.take i)).size+s.size≤2000070000:=by
       rw [hb9,ByteArray.size_append] at hle
       rw [ByteArray.size_append]
       have:=HA.out;have:=HSS.out;omega
      have HCS:=lh hcs
      have HB9:=lh hb9
      clear hle hb9 hcs
      obtain ⟨B,hB⟩:∃B,A++catT (ss.take i)=B:=⟨_,rfl⟩
      have HB:=lh hB
      rw [hB] at HS HCS c2 hne
      clear hB
      go_wp2_with (at_builtin;refine Lib.wpList_append_own_string _ rfl (.tmp 28) (.tmp 29) 22 9 rfl (b+1) 5 i5 Tryz.underlying22 Tryz.underlying9 I0.out I1.out I2.out I3.out (.slice vp1 B.size vc1) B.size (Lib.strCells B) rfl HS.out.own s rfl (by have:=HCS.out;unfold maxLen;omega) (by have:=HCS.out;omega) HS.out.lt ?_;intro v9 w9 hown9 hgrow9 _;obtain ⟨g9,n9,hv9⟩:=ownsRow_shape hown9;subst hv9;have S9:=lh (HS.out.more hgrow9 hown9);have Q9:=lh (HK.out.trans (HS.out.keep (v':=.slice g9 (B.size+s.size) n9) hgrow9));have c29:w9.cell? ⟨b,2,none⟩=some (.slice vp1 B.size vc1):=(hgrow9.cell_far ⟨b,2,none⟩ HS.out.lt (fun e=>HS.out.apart e.symm)).trans c2;have z29:w9.frozen? ⟨b,2,none⟩=false:=(hgrow9.frozen_far ⟨b,2,none⟩ HS.out.lt (fun e=>HS.out.apart e.symm)).trans z2;clear hown9 hgrow9)
      have HS9:Hid (PrW w0 b nv most (.slice g9 (B.size+s.size) n9) (A++catT (ss.take (i+1))) (w9.setCell ⟨b,2,none⟩ (.slice g9 (B.size+s.size) n9))):=lh (by rw [HB9.out,← app_assoc,HB.out];exact S9.out)
      go_roundg (ss.length-(i+1))
      case rel=>exact ⟨i+1,_,by simp,lh (by omega),HS9,Q9⟩
      case measure=>have:=HG.out;omega
    · have hfull:ss.take i=ss:=List.take_of_length_le (by omega)
      rw [hfull] at HS c2 hne
      have hsz:(A++catT ss).size≤2000070000:=by rw [ByteArray.size_append];have:=HA.out;have:=HSS.out;omega
      have HSZ:=lh hsz
      clear hsz hfull
      obtain ⟨B,hB⟩:∃B,A++catT ss=B:=⟨_,rfl⟩
      have HB:=lh hB
      rw [hB] at HS HSZ c2 hne
      clear hB
      have HS2:=lh (HS.out.on (one_below wr (.cells #[.int .u8 10] 5)))
      go_wp2_with (at_builtin;refine wpList_append_lies _ rfl (.tmp 38) (.tmp 39) 22 rfl (b+1) 5 i5 (.int .u8 0) 1 1 Tryz.underlying22 I0.out I1.out I2.out I3.out rfl (by decide) (.slice vp1 B.size vc1) B.size (Lib.strCells B) rfl HS2.out.own ⟨wr.heap.size,0,none⟩ 1 1 [.int .u8 10] rfl rfl (World.news_of_block (cs:=#[.int .u8 10]) (t:=5) (fr:=(0,0)) (heap_alloc_new wr _)) (by simp [Value.oneCell']) (by decide) (by have:=HSZ.out;unfold maxLen;omega) (by have:=HSZ.out;omega) HS2.out.lt _ rfl ?_;intro g9 n9 w9 hown9 hgrow9 _ _;have S9:=lh (HS2.out.more (s:=⟨#[10]⟩) hgrow9 hown9);have Q9:=lh ((HK.out.trans (KeepT.of (one_below wr (.cells #[.int .u8 10] 5)))).trans (HS2.out.keep (v':=.slice (some ⟨g9,0,none⟩) (B.size+1) n9) hgrow9));have c29:w9.cell? ⟨b,2,none⟩=some (.slice vp1 B.size vc1):=(hgrow9.cell_far ⟨b,2,none⟩ HS2.out.lt (fun e=>HS2.out.apart e.symm)).trans HS2.out.cell.2.2.1;have z29:w9.frozen? ⟨b,2,none⟩=false:=(hgrow9.frozen_far ⟨b,2,none⟩ HS2.out.lt (fun e=>HS2.out.apart e.symm)).trans HS2.out.cell.2.2.2;clear hown9 hgrow9)
      go_end0
      have HF:L++lineT d (catT ss)=B++⟨#[10]⟩:=by rw [← HB.out,← HLA.out];simp only [lineT,app_assoc]
      rw [HF]
      exact ⟨rfl,_,S9.out,Q9.out⟩
 · skip
   go_simp
   go_at_call 224
   (with_reducible refine (RP.out _).mono ?_)
   rintro e w1 ⟨rfl,hb1⟩
   have S1:=lh ((HS.out.on (drew_on _)).on hb1)
   have Q1:=lh (KeepT.trans (KeepT.of (b:=b) (drew_on w)) (KeepT.of hb1))
   obtain ⟨_,_,c21,z21⟩:=S1.out.cell
   clear hb1
   go_simp
   refine hK.out _ _ trivial (fun hHeld=>?_)
   clear hK K
   (try simp only [pn])
   refine wpAnyH_ready (rs:=[4]) (by kernel_rfl) (by simp) ?_
   refine AllReadyH.cons rfl (fun K hK=>?_) (AllReadyH.nil)
   go_simp
   refine hK.out _ _ trivial (fun hHeld=>?_)
   clear hK K
   (try simp only [pn])
   refine wpAnyH_ready (rs:=[7]) (by kernel_rfl) (by simp) ?_
   refine AllReadyH.cons rfl (fun K hK=>?_) (AllReadyH.nil)
   rw [if_pos (by rfl)]
   refine wp_app_str (.tmp 12) (.tmp 14) 22 9 rfl (b+1) 5 i5 Tryz.underlying22 Tryz.underlying9 I0.out I1.out I2.out I3.out (.slice vp L.size vc) L.size (Lib.strCells L) rfl S1.out.own (tabsT d) rfl (by have:=HL.out;have:=HD.out;have:=hts.out;unfold maxLen;omega) (by have:=HL.out;have:=HD.out;have:=hts.out;omega) S1.out.lt ?_
   intro v5 w5 hown5 hgrow5
   obtain ⟨g5,n5,rfl⟩:=ownsRow_shape hown5
   have S5:=lh (S1.out.more hgrow5 hown5)
   have Q5:=lh (Q1.out.trans (S1.out.keep (v':=.slice g5 (L.size+(tabsT d).size) n5) hgrow5))
   have c25:w5.cell? ⟨b,2,none⟩=some (.slice vp L.size vc):=(hgrow5.cell_far ⟨b,2,none⟩ S1.out.lt (fun e=>S1.out.apart e.symm)).trans c21
   have z25:w5.frozen? ⟨b,2,none⟩=false:=(hgrow5.frozen_far ⟨b,2,none⟩ S1.out.lt (fun e=>S1.out.apart e.symm)).trans z21
   clear hown5 hgrow5 c21 z21
   refine hK.out _ _ trivial (fun hHeld=>?_)
   clear hK K
   (try simp only [pn])
   refine tk (i:=8) (v:=?_) rfl hHeld ?_ ?_
   rotate_left
   · (intro w hSw;(try dsimp only at hSw);go_simp;try with_reducible rfl)
   (try simp only [pn])
   refine tk (i:=9) (v:=?_) rfl hHeld ?_ ?_
   rotate_left
   · (intro w hSw;(try dsimp only at hSw);go_simp;try with_reducible rfl)
   (try simp only [pn])
   refine wpAnyH_ready (rs:=[10]) (by kernel_rfl) (by simp) ?_
   refine AllReadyH.cons rfl (fun K hK=>?_) (AllReadyH.nil)
   go_simp
   refine hK.out _ _ trivial (fun hHeld=>?_)
   clear hK K
   (try simp only [pn])
   refine wpAnyH_done (by kernel_rfl) ?_ _
   clear c25 z25 HS S1 Q1 c2 z2 hlt RP
   obtain ⟨A,hA⟩:∃A,L++tabsT d=A:=⟨_,rfl⟩
   have HA:Hid (A.size≤1000070000):=lh (by rw [← hA,ByteArray.size_append];have:=HL.out;have:=HD.out;have:=hts.out;omega)
   have HLA:Hid (L++tabsT d=A):=lh hA
   rw [← ByteArray.size_append] at S5
   rw [hA] at S5
   rw [← ByteArray.size_append,hA] at Q5 ⊢
   generalize w5.setCell ⟨b,2,none⟩ (.slice g5 A.size n5)=W5 at *
   clear hA
   have S6:Hid (PrW w0 b nv most (.slice g5 A.size n5) (A++catT (ss.take 0)) W5):=lh (by rw [show catT (ss.take 0)=none0 from rfl,app_none];exact S5.out)
   clear S5
   go_wp2_with fail
   go_loopg [7,20] ss.length (fun g v7 v20 wr=>∃(i:Nat) (v:Value),v20=.int .i64 (i:Int)∧Hid (g+i=ss.length)∧Hid (PrW w0 b nv most v (A++catT (ss.take i)) wr)∧Hid (KeepT b w wr))
   case atStart=>exact ⟨0,_,rfl,lh rfl,S6,Q5⟩
   case round =>
    clear S6 Q5
    obtain ⟨i,v,rfl,HG,HS,HK⟩:=hrel
    obtain ⟨vp1,vc1,rfl⟩:=ownsRow_shape HS.out.own
    obtain ⟨_,_,c2,z2⟩:=HS.out.cell
    have hlt:=HS.out.lt
    have hne:=HS.out.apart
    have hi3:i≤100:=by have:=HG.out;have:=HN.out;omega
    by_cases hi:i<ss.length
    · have ci:wr.cell? ⟨q,i,none⟩=some (.string (ss.getD i none0)):=by
       rw [cell_of_row _ _ _ _ _ _ (HK.out q _ 9 _ HQ.out (by decide) HQB.out)]
       simp [List.getD,hi]
      have hb9:=catT_take ss i hi
      obtain ⟨s,hs⟩:∃s,ss.getD i none0=s:=⟨_,rfl⟩
      rw [hs] at ci hb9
      clear hs
      have hle:=catT_le ss (i+1)
      have hcs:(A++catT (ss.take i)).size+s.size≤2000070000:=by
       rw [hb9,ByteArray.size_append] at hle
       rw [ByteArray.size_append]
       have:=HA.out;have:=HSS.out;omega
      have HCS:=lh hcs
      have HB9:=lh hb9
      clear hle hb9 hcs
      obtain ⟨B,hB⟩:∃B,A++catT (ss.take i)=B:=⟨_,rfl⟩
      have HB:=lh hB
      rw [hB] at HS HCS c2 hne
      clear hB
      go_wp2_with (at_builtin;refine Lib.wpList_append_own_string _ rfl (.tmp 28) (.tmp 29) 22 9 rfl (b+1) 5 i5 Tryz.underlying22 Tryz.underlying9 I0.out I1.out I2.out I3.out (.slice vp1 B.size vc1) B.size (Lib.strCells B) rfl HS.out.own s rfl (by have:=HCS.out;unfold maxLen;omega) (by have:=HCS.out;omega) HS.out.lt ?_;intro v9 w9 hown9 hgrow9 _;obtain ⟨g9,n9,hv9⟩:=ownsRow_shape hown9;subst hv9;have S9:=lh (HS.out.more hgrow9 hown9);have Q9:=lh (HK.out.trans (HS.out.keep (v':=.slice g9 (B.size+s.size) n9) hgrow9));have c29:w9.cell? ⟨b,2,none⟩=some (.slice vp1 B.size vc1):=(hgrow9.cell_far ⟨b,2,none⟩ HS.out.lt (fun e=>HS.out.apart e.symm)).trans c2;have z29:w9.frozen? ⟨b,2,none⟩=false:=(hgrow9.frozen_far ⟨b,2,none⟩ HS.out.lt (fun e=>HS.out.apart e.symm)).trans z2;clear hown9 hgrow9)
      have HS9:Hid (PrW w0 b nv most (.slice g9 (B.size+s.size) n9) (A++catT (ss.take (i+1))) (w9.setCell ⟨b,2,none⟩ (.slice g9 (B.size+s.size) n9))):=lh (by rw [HB9.out,← app_assoc,HB.out];exact S9.out)
      go_roundg (ss.length-(i+1))
      case rel=>exact ⟨i+1,_,by simp,lh (by omega),HS9,Q9⟩
      case measure=>have:=HG.out;omega
    · have hfull:ss.take i=ss:=List.take_of_length_le (by omega)
      rw [hfull] at HS c2 hne
      have hsz:(A++catT ss).size≤2000070000:=by rw [ByteArray.size_append];have:=HA.out;have:=HSS.out;omega
      have HSZ:=lh hsz
      clear hsz hfull
      obtain ⟨B,hB⟩:∃B,A++catT ss=B:=⟨_,rfl⟩
      have HB:=lh hB
      rw [hB] at HS HSZ c2 hne
      clear hB
      have HS2:=lh (HS.out.on (one_below wr (.cells #[.int .u8 10] 5)))
      go_wp2_with (at_builtin;refine wpList_append_lies _ rfl (.tmp 38) (.tmp 39) 22 rfl (b+1) 5 i5 (.int .u8 0) 1 1 Tryz.underlying22 I0.out I1.out I2.out I3.out rfl (by decide) (.slice vp1 B.size vc1) B.size (Lib.strCells B) rfl HS2.out.own ⟨wr.heap.size,0,none⟩ 1 1 [.int .u8 10] rfl rfl (World.news_of_block (cs:=#[.int .u8 10]) (t:=5) (fr:=(0,0)) (heap_alloc_new wr _)) (by simp [Value.oneCell']) (by decide) (by have:=HSZ.out;unfold maxLen;omega) (by have:=HSZ.out;omega) HS2.out.lt _ rfl ?_;intro g9 n9 w9 hown9 hgrow9 _ _;have S9:=lh (HS2.out.more (s:=⟨#[10]⟩) hgrow9 hown9);have Q9:=lh ((HK.out.trans (KeepT.of (one_below wr (.cells #[.int .u8 10] 5)))).trans (HS2.out.keep (v':=.slice (some ⟨g9,0,none⟩) (B.size+1) n9) hgrow9));have c29:w9.cell? ⟨b,2,none⟩=some (.slice vp1 B.size vc1):=(hgrow9.cell_far ⟨b,2,none⟩ HS2.out.lt (fun e=>HS2.out.apart e.symm)).trans HS2.out.cell.2.2.1;have z29:w9.frozen? ⟨b,2,none⟩=false:=(hgrow9.frozen_far ⟨b,2,none⟩ HS2.out.lt (fun e=>HS2.out.apart e.symm)).trans HS2.out.cell.2.2.2;clear hown9 hgrow9)
      go_end0
      have HF:L++lineT d (catT ss)=B++⟨#[10]⟩:=by rw [← HB.out,← HLA.out];simp only [lineT,app_assoc]
      rw [HF]
      exact ⟨rfl,_,S9.out,Q9.out⟩
end
section
open Go.RowKit Tr Go.Shelf
theorem text_one {w0 w:World}{b:Nat}{p:Option Addr}{len c:Nat}{most:Int}{v:Value}{L:ByteArray}{ns:List Nd}(hP:PrW w0 b (.slice p len c) most v L w)(hb:b=w0.heap.size)(hT:TV w0 p len c ns)(ht:PT10 w0)(hlen:len≤70000)
 {q:Nat} {x:Ast} (hO:On ns q x) (hq:0<q) (hx:isTx x) (hw:wfR x) (hm:((exT x).size:Int)≤most) (g:Nat) (hg:w.heap[g]?=some (.cells #[.int .i64 (q:Int)] 3 (0,0))) :
 Calls Tryz.prog 64 #[.pointer (some ⟨b,0,none⟩),.slice (some ⟨g,0,none⟩) 1 1] w fun e w'=>e=.returned (.string (exT x))∧Below w.heap.size w w':=by
 subst hb
 have hgl:g<w.heap.size:=by
  by_cases hb:g<w.heap.size
  · exact hb
  · rw [Array.getElem?_eq_none (by omega)] at hg
    cases hg
 have hsz:x.size≤70000:=by have:=hO.size;have:=hT.len_eq;omega
 have hX:TxL ns [(q:Int)] [x]:=⟨⟨rfl,fun j hj=>by
  obtain rfl:j=0:=by simpa using hj
  exact ⟨q,rfl,hO.lt,hO⟩⟩,fun j hj=>by
  obtain rfl:j=0:=by simpa using hj
  show (0:Int)<(q:Int)
  omega,fun y hy=>by
  obtain rfl:y=x:=by simpa using hy
  exact ⟨hx,hw⟩⟩
 exact (text_at w w0.heap.size p len c ns most (some ⟨g,0,none⟩) 1 1 [(q:Int)] [x] hP.cell.1 hP.cell.2.1 (hT.on hP.below) (.inr ⟨g,0,1,rfl,hgl,fun j hj=>by
  obtain rfl:j=0:=by simpa using hj
  rw [cell_of_row _ _ _ _ _ _ hg]
  rfl⟩) hX (by simp only [sizeL];omega) hlen (ht.below hP.below) hm).mono fun e w' h=>h
theorem text_all {w0 w:World}{b:Nat}{p:Option Addr}{len c:Nat}{most:Int}{v:Value}{L:ByteArray}{ns:List Nd}(hP:PrW w0 b (.slice p len c) most v L w)(hb:b=w0.heap.size)(hT:TV w0 p len c ns)(ht:PT10 w0)(hlen:len≤70000)
 {kp:Option Addr} {kl kc:Nat} {l:List Int} {ks:List Ast} (hI:IV w0 kp kl kc l) (hX:TxL ns l ks) (hS:sizeL ks≤70000) (hm:((joinT (ks.map exT)).size:Int)≤most) :
 Calls Tryz.prog 64 #[.pointer (some ⟨b,0,none⟩),.slice kp kl kc] w fun e w'=>e=.returned (.string (joinT (ks.map exT)))∧Below w.heap.size w w':=by
 subst hb
 exact text_at w w0.heap.size p len c ns most kp kl kc l ks hP.cell.1 hP.cell.2.1 (hT.on hP.below) (IntsW.of_iv (hI.on hP.below)) hX hS hlen (ht.below hP.below) hm
theorem pick_row (W:World)(n:Int)(g:Nat)(s0 s1:ByteArray)(hg:W.heap[g]?=some (.cells #[.string s0,.string s1] 9 (0,0)))(hn:n=0∨n=1):Calls Tryz.prog 168 #[.int .i64 n,.slice (some ⟨g,0,none⟩) 2 2] W fun e W'=>e=.returned (.string (if n=1 then s1 else s0))∧Below W.heap.size W W' :=
 (pick_at W n g 2 s0 s1 (by rw [cell_of_row _ _ _ _ _ _ hg];rfl) (by rw [cell_of_row _ _ _ _ _ _ hg];rfl) hn).mono fun e W' ⟨h1,h2⟩=>⟨h1,by rw [h2];exact Below.refl _ _⟩
def HasW (ns:List Nd)(k:Int)(a:Nat)(s:ByteArray)(n:Int)(ks:List Ast)(T:Nat→ByteArray):Prop:=∀(d o:Nat) (w0 w:World) (b:Nat) (p:Option Addr) (len c:Nat) (most:Int) (v:Value) (L:ByteArray) (a':Int) (kp:Option Addr) (kl kc:Nat),TV w0 p len c ns→On ns o (.mk k a s n ks)→wfR (.mk k a s n ks)→PT10 w0→len≤70000→d+(Ast.mk k a s n ks).size≤70000→b=w0.heap.size→IV w0 kp kl kc (heads (o+1) ks) →
 PrW w0 b (.slice p len c) most v L w→most≤1000000→((L.size+(T d).size:Nat):Int)≤most →
 Calls Tryz.prog 99 #[.pointer (some ⟨b,0,none⟩),.agg #[.int .u8 k,.int .i64 a',.string s,.int .i64 n,.slice kp kl kc],.int .i64 (d:Int)] w fun e w'=>e=.returned (.tuple #[])∧∃v',PrW w0 b (.slice p len c) most v' (L++T d) w'
def HasAl (ns:List Nd)(x:Ast):Prop:=∀(d o:Nat) (w0 w:World) (b:Nat) (p:Option Addr) (len c:Nat) (most:Int) (v:Value) (L:ByteArray),TV w0 p len c ns→On ns o x→wfR x→PT10 w0→len≤70000→d+x.size≤70001→b=w0.heap.size →
 PrW w0 b (.slice p len c) most v L w→most≤1000000→((L.size+(blT d x).size:Nat):Int)≤most →
 Calls Tryz.prog 54 #[.pointer (some ⟨b,0,none⟩),.int .i64 (o:Int),.int .i64 (d:Int)] w fun e w'=>e=.returned (.tuple #[])∧∃v',PrW w0 b (.slice p len c) most v' (L++blT d x) w'
end
section
open Go.RowKit Tr Go.Shelf
theorem isTx_expr {x:Ast}(h:isExprK x.kind=true):isTx x:=Or.inr (by
 simp only [isExprK,Bool.and_eq_true,decide_eq_true_eq] at h
 omega)
theorem write10 (ns:List Nd)(a:Nat)(s:ByteArray)(n:Int)(ks:List Ast)(hsh:isR (ks.map Ast.kind) [20]=true):HasW ns 10 a s n ks (fun d=>stT d (.mk 10 a s n ks)):=by
 intro d o w0 w b p len c most v L a' kp kl kc hT hO hw ht hlen hd hb hI hP hmost hfit
 have hkl:ks.length=kl:=by rw [← hI.len_eq,heads_length]
 obtain ⟨x0,rfl,hx0⟩:=sh20 hsh
 obtain rfl:kl=1:=hkl.symm
 obtain ⟨kb,koff,rfl,hkb,hkc⟩:=hI.cell (by omega)
 obtain ⟨q0,hq0,hql0,hO0⟩:=hO.kid 0 (by simp)
 have hg0:=heads_ge [x0] (o+1) 0 (by simp)
 rw [hq0] at hg0
 have c0:w0.cell? ⟨kb,koff,none⟩=some (.int .i64 (q0:Int)):=by have h:=hkc 0 (by omega);rw [hq0] at h;exact h
 have hw0:wfR x0:=hw.kids (j:=0) (by simp)
 have hO0:On ns q0 x0:=hO0
 have HEQ:stT d (.mk 10 a s n [x0])=lineT d (catT [⟨#[100,101,108,101,116,101,32]⟩,exT x0,⟨#[59]⟩]):=by
  show stF d 10 s n [exT x0] _=_
  unfold stF
  rw [nn,nn,nn,if_pos rfl]
  simp only [lineT,catT,app_none,app_assoc,List.getD_cons_zero,List.getD_cons_succ]
 have hst:=congrArg ByteArray.size HEQ
 simp only [lineT,catT,ByteArray.size_append] at hst
 dsimp only at hfit
 rw [hst] at hfit
 have hbw:=hP.lt
 have TX0:Hid (∀w' g,PrW w0 b (.slice p len c) most v L w'→w'.heap[g]?=some (.cells #[.int .i64 (q0:Int)] 3 (0,0))→Calls Tryz.prog 64 #[.pointer (some ⟨b,0,none⟩),.slice (some ⟨g,0,none⟩) 1 1] w' fun e w''=>e=.returned (.string (exT x0))∧Below w'.heap.size w' w''):=lh (fun w' g h1 h2=>text_one h1 hb hT ht hlen hO0 (by omega) (Or.inr (by rw [hx0];decide)) hw0 (by omega) g h2)
 have LN:Hid (∀w' g,PrW w0 b (.slice p len c) most v L w'→w'.heap[g]?=some (.cells #[.string (⟨#[100,101,108,101,116,101,32]⟩),.string (exT x0),.string ⟨#[59]⟩] 9 (0,0))→Calls Tryz.prog 167 #[.pointer (some ⟨b,0,none⟩),.int .i64 (d:Int),.slice (some ⟨g,0,none⟩) 3 3] w' fun e w''=>e=.returned (.tuple #[])∧∃v',PrW w0 b (.slice p len c) most v' (L++stT d (.mk 10 a s n [x0])) w''∧KeepT b w' w''):=lh (fun w' g h1 h2=>by rw [HEQ];exact line_at w0 w' b _ most v L h1 d g 3 [⟨#[100,101,108,101,116,101,32]⟩,exT x0,⟨#[59]⟩] h2 (by simp) (by simp only [Ast.size,sizeL] at hd;omega) (by omega) (by simp only [catT,ByteArray.size_append];omega))
 have HB:Hid (Below b w0 (w.alloc (.cells #[.int .u8 10,.int .i64 a',.string s,.int .i64 n,.slice (some ⟨kb,koff,none⟩) 1 kc] 54))∧(w.alloc (.cells #[.int .u8 10,.int .i64 a',.string s,.int .i64 n,.slice (some ⟨kb,koff,none⟩) 1 kc] 54)).heap[w.heap.size]?=some (.cells #[.int .u8 10,.int .i64 a',.string s,.int .i64 n,.slice (some ⟨kb,koff,none⟩) 1 kc] 54 (0,0))):=lh ⟨(hP.on (one_below w _)).below,heap_alloc_new w _⟩
 have HS:=lh (hP.on (one_below w (.cells #[.int .u8 10,.int .i64 a',.string s,.int .i64 n,.slice (some ⟨kb,koff,none⟩) 1 kc] 54)))
 have hgb:¬ w.heap.size=b:=by omega
 have hkb2:kb<b:=by omega
 have HC0:=ckH hkb2 c0
 show Calls _ _ _ _ (fun e w'=>e=.returned (.tuple #[])∧∃v',PrW w0 b _ most v' (L++stT d (.mk 10 a s n [x0])) w')
 generalize stT d (.mk 10 a s n [x0])=ST at *
 clear hT hO hw ht hI hP hfit hmost hst HEQ hkc hkl hsh hd hlen hb hbw hkb hkb2 hq0 hql0 hO0 hg0 c0 hw0 hx0
 go_enter Tryz.func99,Tryz.ntmps99
 have d0:=HC0.out _ HB.out.1
 have hb9:=one_below (w.alloc (.cells #[.int .u8 10,.int .i64 a',.string s,.int .i64 n,.slice (some ⟨kb,koff,none⟩) 1 kc] 54)) (.cells #[.int .i64 (q0:Int)] 3)
 have HS3:=lh (HS.out.on hb9)
 have F3:=lh (heap_alloc_new (w.alloc (.cells #[.int .u8 10,.int .i64 a',.string s,.int .i64 n,.slice (some ⟨kb,koff,none⟩) 1 kc] 54)) (.cells #[.int .i64 (q0:Int)] 3))
 clear hb9
 go_wp2_with (first|(go_at_call 64;(with_reducible refine (TX0.out _ _ HS3.out (by first|exact F3.out|simpa using F3.out)).mono ?_);rintro e w3 ⟨rfl,hb3⟩;have HS4:=lh ((HS3.out.on hb3).on (one_below w3 (.cells #[.string (⟨#[100,101,108,101,116,101,32]⟩),.string (exT x0),.string ⟨#[59]⟩] 9)));have F4:=lh (heap_alloc_new w3 (.cells #[.string (⟨#[100,101,108,101,116,101,32]⟩),.string (exT x0),.string ⟨#[59]⟩] 9));clear hb3)|(go_at_call 167;(with_reducible refine (LN.out _ _ HS4.out (by first|exact F4.out|simpa using F4.out)).mono ?_);rintro e w5 ⟨rfl,v',HP,HK⟩))
 go_end0
 exact ⟨rfl,v',HP⟩
theorem write13 (ns:List Nd)(a:Nat)(s:ByteArray)(n:Int)(ks:List Ast)(hsh:isR (ks.map Ast.kind) [5]=true):HasW ns 13 a s n ks (fun d=>stT d (.mk 13 a s n ks)):=by
 intro d o w0 w b p len c most v L a' kp kl kc hT hO hw ht hlen hd hb hI hP hmost hfit
 have hkl:ks.length=kl:=by rw [← hI.len_eq,heads_length]
 obtain ⟨x0,rfl,hx0⟩:=sh5 hsh
 obtain rfl:kl=1:=hkl.symm
 obtain ⟨kb,koff,rfl,hkb,hkc⟩:=hI.cell (by omega)
 obtain ⟨q0,hq0,hql0,hO0⟩:=hO.kid 0 (by simp)
 have hg0:=heads_ge [x0] (o+1) 0 (by simp)
 rw [hq0] at hg0
 have c0:w0.cell? ⟨kb,koff,none⟩=some (.int .i64 (q0:Int)):=by have h:=hkc 0 (by omega);rw [hq0] at h;exact h
 have hw0:wfR x0:=hw.kids (j:=0) (by simp)
 have hO0:On ns q0 x0:=hO0
 have HEQ:stT d (.mk 13 a s n [x0])=lineT d (catT [⟨#[114,101,108,101,97,115,101,32]⟩,exT x0,⟨#[59]⟩]):=by
  show stF d 13 s n [exT x0] _=_
  unfold stF
  rw [nn,nn,nn,nn,nn,nn,if_pos rfl]
  simp only [lineT,catT,app_none,app_assoc,List.getD_cons_zero,List.getD_cons_succ]
 have hst:=congrArg ByteArray.size HEQ
 simp only [lineT,catT,ByteArray.size_append] at hst
 dsimp only at hfit
 rw [hst] at hfit
 have hbw:=hP.lt
 have TX0:Hid (∀w' g,PrW w0 b (.slice p len c) most v L w'→w'.heap[g]?=some (.cells #[.int .i64 (q0:Int)] 3 (0,0))→Calls Tryz.prog 64 #[.pointer (some ⟨b,0,none⟩),.slice (some ⟨g,0,none⟩) 1 1] w' fun e w''=>e=.returned (.string (exT x0))∧Below w'.heap.size w' w''):=lh (fun w' g h1 h2=>text_one h1 hb hT ht hlen hO0 (by omega) (Or.inl hx0) hw0 (by omega) g h2)
 have LN:Hid (∀w' g,PrW w0 b (.slice p len c) most v L w'→w'.heap[g]?=some (.cells #[.string (⟨#[114,101,108,101,97,115,101,32]⟩),.string (exT x0),.string ⟨#[59]⟩] 9 (0,0))→Calls Tryz.prog 167 #[.pointer (some ⟨b,0,none⟩),.int .i64 (d:Int),.slice (some ⟨g,0,none⟩) 3 3] w' fun e w''=>e=.returned (.tuple #[])∧∃v',PrW w0 b (.slice p len c) most v' (L++stT d (.mk 13 a s n [x0])) w''∧KeepT b w' w''):=lh (fun w' g h1 h2=>by rw [HEQ];exact line_at w0 w' b _ most v L h1 d g 3 [⟨#[114,101,108,101,97,115,101,32]⟩,exT x0,⟨#[59]⟩] h2 (by simp) (by simp only [Ast.size,sizeL] at hd;omega) (by omega) (by simp only [catT,ByteArray.size_append];omega))
 have HB:Hid (Below b w0 (w.alloc (.cells #[.int .u8 13,.int .i64 a',.string s,.int .i64 n,.slice (some ⟨kb,koff,none⟩) 1 kc] 54))∧(w.alloc (.cells #[.int .u8 13,.int .i64 a',.string s,.int .i64 n,.slice (some ⟨kb,koff,none⟩) 1 kc] 54)).heap[w.heap.size]?=some (.cells #[.int .u8 13,.int .i64 a',.string s,.int .i64 n,.slice (some ⟨kb,koff,none⟩) 1 kc] 54 (0,0))):=lh ⟨(hP.on (one_below w _)).below,heap_alloc_new w _⟩
 have HS:=lh (hP.on (one_below w (.cells #[.int .u8 13,.int .i64 a',.string s,.int .i64 n,.slice (some ⟨kb,koff,none⟩) 1 kc] 54)))
 have hgb:¬ w.heap.size=b:=by omega
 have hkb2:kb<b:=by omega
 have HC0:=ckH hkb2 c0
 show Calls _ _ _ _ (fun e w'=>e=.returned (.tuple #[])∧∃v',PrW w0 b _ most v' (L++stT d (.mk 13 a s n [x0])) w')
 generalize stT d (.mk 13 a s n [x0])=ST at *
 clear hT hO hw ht hI hP hfit hmost hst HEQ hkc hkl hsh hd hlen hb hbw hkb hkb2 hq0 hql0 hO0 hg0 c0 hw0 hx0
 go_enter Tryz.func99,Tryz.ntmps99
 have d0:=HC0.out _ HB.out.1
 have hb9:=one_below (w.alloc (.cells #[.int .u8 13,.int .i64 a',.string s,.int .i64 n,.slice (some ⟨kb,koff,none⟩) 1 kc] 54)) (.cells #[.int .i64 (q0:Int)] 3)
 have HS3:=lh (HS.out.on hb9)
 have F3:=lh (heap_alloc_new (w.alloc (.cells #[.int .u8 13,.int .i64 a',.string s,.int .i64 n,.slice (some ⟨kb,koff,none⟩) 1 kc] 54)) (.cells #[.int .i64 (q0:Int)] 3))
 clear hb9
 go_wp2_with (first|(go_at_call 64;(with_reducible refine (TX0.out _ _ HS3.out (by first|exact F3.out|simpa using F3.out)).mono ?_);rintro e w3 ⟨rfl,hb3⟩;have HS4:=lh ((HS3.out.on hb3).on (one_below w3 (.cells #[.string (⟨#[114,101,108,101,97,115,101,32]⟩),.string (exT x0),.string ⟨#[59]⟩] 9)));have F4:=lh (heap_alloc_new w3 (.cells #[.string (⟨#[114,101,108,101,97,115,101,32]⟩),.string (exT x0),.string ⟨#[59]⟩] 9));clear hb3)|(go_at_call 167;(with_reducible refine (LN.out _ _ HS4.out (by first|exact F4.out|simpa using F4.out)).mono ?_);rintro e w5 ⟨rfl,v',HP,HK⟩))
 go_end0
 exact ⟨rfl,v',HP⟩
theorem write17 (ns:List Nd)(a:Nat)(s:ByteArray)(n:Int)(ks:List Ast)(hsh:isR (ks.map Ast.kind) [0]=true):HasW ns 17 a s n ks (fun d=>stT d (.mk 17 a s n ks)):=by
 intro d o w0 w b p len c most v L a' kp kl kc hT hO hw ht hlen hd hb hI hP hmost hfit
 have hkl:ks.length=kl:=by rw [← hI.len_eq,heads_length]
 obtain ⟨x0,rfl,hx0⟩:=sh0 hsh
 obtain rfl:kl=1:=hkl.symm
 obtain ⟨kb,koff,rfl,hkb,hkc⟩:=hI.cell (by omega)
 obtain ⟨q0,hq0,hql0,hO0⟩:=hO.kid 0 (by simp)
 have hg0:=heads_ge [x0] (o+1) 0 (by simp)
 rw [hq0] at hg0
 have c0:w0.cell? ⟨kb,koff,none⟩=some (.int .i64 (q0:Int)):=by have h:=hkc 0 (by omega);rw [hq0] at h;exact h
 have hw0:wfR x0:=hw.kids (j:=0) (by simp)
 have hO0:On ns q0 x0:=hO0
 have HEQ:stT d (.mk 17 a s n [x0])=lineT d (catT [⟨#[101,109,105,116,32]⟩,exT x0,⟨#[59]⟩]):=by
  show stF d 17 s n [exT x0] _=_
  unfold stF
  rw [nn,nn,nn,nn,nn,nn,nn,nn,nn,nn,if_pos rfl]
  simp only [lineT,catT,app_none,app_assoc,List.getD_cons_zero,List.getD_cons_succ]
 have hst:=congrArg ByteArray.size HEQ
 simp only [lineT,catT,ByteArray.size_append] at hst
 dsimp only at hfit
 rw [hst] at hfit
 have hbw:=hP.lt
 have TX0:Hid (∀w' g,PrW w0 b (.slice p len c) most v L w'→w'.heap[g]?=some (.cells #[.int .i64 (q0:Int)] 3 (0,0))→Calls Tryz.prog 64 #[.pointer (some ⟨b,0,none⟩),.slice (some ⟨g,0,none⟩) 1 1] w' fun e w''=>e=.returned (.string (exT x0))∧Below w'.heap.size w' w''):=lh (fun w' g h1 h2=>text_one h1 hb hT ht hlen hO0 (by omega) (isTx_expr hx0) hw0 (by omega) g h2)
 have LN:Hid (∀w' g,PrW w0 b (.slice p len c) most v L w'→w'.heap[g]?=some (.cells #[.string (⟨#[101,109,105,116,32]⟩),.string (exT x0),.string ⟨#[59]⟩] 9 (0,0))→Calls Tryz.prog 167 #[.pointer (some ⟨b,0,none⟩),.int .i64 (d:Int),.slice (some ⟨g,0,none⟩) 3 3] w' fun e w''=>e=.returned (.tuple #[])∧∃v',PrW w0 b (.slice p len c) most v' (L++stT d (.mk 17 a s n [x0])) w''∧KeepT b w' w''):=lh (fun w' g h1 h2=>by rw [HEQ];exact line_at w0 w' b _ most v L h1 d g 3 [⟨#[101,109,105,116,32]⟩,exT x0,⟨#[59]⟩] h2 (by simp) (by simp only [Ast.size,sizeL] at hd;omega) (by omega) (by simp only [catT,ByteArray.size_append];omega))
 have HB:Hid (Below b w0 (w.alloc (.cells #[.int .u8 17,.int .i64 a',.string s,.int .i64 n,.slice (some ⟨kb,koff,none⟩) 1 kc] 54))∧(w.alloc (.cells #[.int .u8 17,.int .i64 a',.string s,.int .i64 n,.slice (some ⟨kb,koff,none⟩) 1 kc] 54)).heap[w.heap.size]?=some (.cells #[.int .u8 17,.int .i64 a',.string s,.int .i64 n,.slice (some ⟨kb,koff,none⟩) 1 kc] 54 (0,0))):=lh ⟨(hP.on (one_below w _)).below,heap_alloc_new w _⟩
 have HS:=lh (hP.on (one_below w (.cells #[.int .u8 17,.int .i64 a',.string s,.int .i64 n,.slice (some ⟨kb,koff,none⟩) 1 kc] 54)))
 have hgb:¬ w.heap.size=b:=by omega
 have hkb2:kb<b:=by omega
 have HC0:=ckH hkb2 c0
 show Calls _ _ _ _ (fun e w'=>e=.returned (.tuple #[])∧∃v',PrW w0 b _ most v' (L++stT d (.mk 17 a s n [x0])) w')
 generalize stT d (.mk 17 a s n [x0])=ST at *
 clear hT hO hw ht hI hP hfit hmost hst HEQ hkc hkl hsh hd hlen hb hbw hkb hkb2 hq0 hql0 hO0 hg0 c0 hw0 hx0
 go_enter Tryz.func99,Tryz.ntmps99
 have d0:=HC0.out _ HB.out.1
 have hb9:=one_below (w.alloc (.cells #[.int .u8 17,.int .i64 a',.string s,.int .i64 n,.slice (some ⟨kb,koff,none⟩) 1 kc] 54)) (.cells #[.int .i64 (q0:Int)] 3)
 have HS3:=lh (HS.out.on hb9)
 have F3:=lh (heap_alloc_new (w.alloc (.cells #[.int .u8 17,.int .i64 a',.string s,.int .i64 n,.slice (some ⟨kb,koff,none⟩) 1 kc] 54)) (.cells #[.int .i64 (q0:Int)] 3))
 clear hb9
 go_wp2_with (first|(go_at_call 64;(with_reducible refine (TX0.out _ _ HS3.out (by first|exact F3.out|simpa using F3.out)).mono ?_);rintro e w3 ⟨rfl,hb3⟩;have HS4:=lh ((HS3.out.on hb3).on (one_below w3 (.cells #[.string (⟨#[101,109,105,116,32]⟩),.string (exT x0),.string ⟨#[59]⟩] 9)));have F4:=lh (heap_alloc_new w3 (.cells #[.string (⟨#[101,109,105,116,32]⟩),.string (exT x0),.string ⟨#[59]⟩] 9));clear hb3)|(go_at_call 167;(with_reducible refine (LN.out _ _ HS4.out (by first|exact F4.out|simpa using F4.out)).mono ?_);rintro e w5 ⟨rfl,v',HP,HK⟩))
 go_end0
 exact ⟨rfl,v',HP⟩
theorem write16 (ns:List Nd)(a:Nat)(s:ByteArray)(n:Int)(ks:List Ast)(hsh:isR (ks.map Ast.kind) [0]=true):HasW ns 16 a s n ks (fun d=>stT d (.mk 16 a s n ks)):=by
 intro d o w0 w b p len c most v L a' kp kl kc hT hO hw ht hlen hd hb hI hP hmost hfit
 have hkl:ks.length=kl:=by rw [← hI.len_eq,heads_length]
 obtain ⟨x0,rfl,hx0⟩:=sh0 hsh
 obtain rfl:kl=1:=hkl.symm
 obtain ⟨kb,koff,rfl,hkb,hkc⟩:=hI.cell (by omega)
 obtain ⟨q0,hq0,hql0,hO0⟩:=hO.kid 0 (by simp)
 have hg0:=heads_ge [x0] (o+1) 0 (by simp)
 rw [hq0] at hg0
 have c0:w0.cell? ⟨kb,koff,none⟩=some (.int .i64 (q0:Int)):=by have h:=hkc 0 (by omega);rw [hq0] at h;exact h
 have hw0:wfR x0:=hw.kids (j:=0) (by simp)
 have hO0:On ns q0 x0:=hO0
 have HEQ:stT d (.mk 16 a s n [x0])=lineT d (catT [⟨#[108,101,116,32]⟩,s,⟨#[32,61,32]⟩,exT x0,⟨#[59]⟩]):=by
  show stF d 16 s n [exT x0] _=_
  unfold stF
  rw [nn,nn,nn,nn,nn,nn,nn,nn,nn,if_pos rfl]
  simp only [lineT,catT,app_none,app_assoc,List.getD_cons_zero,List.getD_cons_succ]
 have hst:=congrArg ByteArray.size HEQ
 simp only [lineT,catT,ByteArray.size_append] at hst
 dsimp only at hfit
 rw [hst] at hfit
 have hbw:=hP.lt
 have TX0:Hid (∀w' g,PrW w0 b (.slice p len c) most v L w'→w'.heap[g]?=some (.cells #[.int .i64 (q0:Int)] 3 (0,0))→Calls Tryz.prog 64 #[.pointer (some ⟨b,0,none⟩),.slice (some ⟨g,0,none⟩) 1 1] w' fun e w''=>e=.returned (.string (exT x0))∧Below w'.heap.size w' w''):=lh (fun w' g h1 h2=>text_one h1 hb hT ht hlen hO0 (by omega) (isTx_expr hx0) hw0 (by omega) g h2)
 have LN:Hid (∀w' g,PrW w0 b (.slice p len c) most v L w'→w'.heap[g]?=some (.cells #[.string (⟨#[108,101,116,32]⟩),.string s,.string (⟨#[32,61,32]⟩),.string (exT x0),.string ⟨#[59]⟩] 9 (0,0))→Calls Tryz.prog 167 #[.pointer (some ⟨b,0,none⟩),.int .i64 (d:Int),.slice (some ⟨g,0,none⟩) 5 5] w' fun e w''=>e=.returned (.tuple #[])∧∃v',PrW w0 b (.slice p len c) most v' (L++stT d (.mk 16 a s n [x0])) w''∧KeepT b w' w''):=lh (fun w' g h1 h2=>by rw [HEQ];exact line_at w0 w' b _ most v L h1 d g 5 [⟨#[108,101,116,32]⟩,s,⟨#[32,61,32]⟩,exT x0,⟨#[59]⟩] h2 (by simp) (by simp only [Ast.size,sizeL] at hd;omega) (by omega) (by simp only [catT,ByteArray.size_append];omega))
 have HB:Hid (Below b w0 (w.alloc (.cells #[.int .u8 16,.int .i64 a',.string s,.int .i64 n,.slice (some ⟨kb,koff,none⟩) 1 kc] 54))∧(w.alloc (.cells #[.int .u8 16,.int .i64 a',.string s,.int .i64 n,.slice (some ⟨kb,koff,none⟩) 1 kc] 54)).heap[w.heap.size]?=some (.cells #[.int .u8 16,.int .i64 a',.string s,.int .i64 n,.slice (some ⟨kb,koff,none⟩) 1 kc] 54 (0,0))):=lh ⟨(hP.on (one_below w _)).below,heap_alloc_new w _⟩
 have HS:=lh (hP.on (one_below w (.cells #[.int .u8 16,.int .i64 a',.string s,.int .i64 n,.slice (some ⟨kb,koff,none⟩) 1 kc] 54)))
 have hgb:¬ w.heap.size=b:=by omega
 have hkb2:kb<b:=by omega
 have HC0:=ckH hkb2 c0
 show Calls _ _ _ _ (fun e w'=>e=.returned (.tuple #[])∧∃v',PrW w0 b _ most v' (L++stT d (.mk 16 a s n [x0])) w')
 generalize stT d (.mk 16 a s n [x0])=ST at *
 clear hT hO hw ht hI hP hfit hmost hst HEQ hkc hkl hsh hd hlen hb hbw hkb hkb2 hq0 hql0 hO0 hg0 c0 hw0 hx0
 go_enter Tryz.func99,Tryz.ntmps99
 have d0:=HC0.out _ HB.out.1
 go_wp2_with fail
 clear d0
 generalize w.alloc (.cells #[.int .u8 16,.int .i64 a',.string s,.int .i64 n,.slice (some ⟨kb,koff,none⟩) 1 kc] 54)=W1 at *
 generalize w.heap.size=g0 at *
 have HF:Hid (∀w':World,w'.heap[g0]?=some (.cells #[.int .u8 16,.int .i64 a',.string s,.int .i64 n,.slice (some ⟨kb,koff,none⟩) 1 kc] 54 (0,0))→w'.cell? ⟨g0,2,none⟩=some (.string s)∧w'.cell? ⟨g0,3,none⟩=some (.int .i64 n)):=lh (fun w' h=>⟨by rw [cell_of_row _ _ _ _ _ _ h];rfl,by rw [cell_of_row _ _ _ _ _ _ h];rfl⟩)
 refine wp_region_held_drew (S:=fun w'=>Below b w0 w'∧w'.heap[g0]?=some (.cells #[.int .u8 16,.int .i64 a',.string s,.int .i64 n,.slice (some ⟨kb,koff,none⟩) 1 kc] 54 (0,0))) (by kernel_rfl) ⟨HB.out.1.drew,HB.out.2⟩ (fun hHeld=>?_)
 have HS:=lh (HS.out.on (drew_on W1))
 have HB:=lh hHeld
 generalize W1.drew=W2 at *
 clear hHeld
 refine tn 0 HB.out ?_
 (try simp only [pn])
 refine tn 1 HB.out ?_
 (try simp only [pn])
 refine tn 2 HB.out ?_
 (try simp only [pn])
 refine tk (i:=3) (v:=?_) rfl HB.out ?_ ?_
 rotate_left
 · (intro w' hSw;have hb9:=hSw.1;have h9:=HF.out _ hSw.2;obtain ⟨f9,e9⟩:=h9;have d0:=HC0.out _ hb9;clear hSw hb9;go_simp;try with_reducible rfl)
 (try simp only [pn])
 refine tn 4 HB.out ?_
 (try simp only [pn])
 refine tn 5 HB.out ?_
 (try simp only [pn])
 refine tn 6 HB.out ?_
 (try simp only [pn])
 refine tk (i:=7) (v:=?_) rfl HB.out ?_ ?_
 rotate_left
 · (intro w' hSw;have hb9:=hSw.1;have h9:=HF.out _ hSw.2;obtain ⟨f9,e9⟩:=h9;have d0:=HC0.out _ hb9;clear hSw hb9;go_simp;try with_reducible rfl)
 (try simp only [pn])
 refine wpAnyH_ready (rs:=[8]) (by kernel_rfl) (by simp) ?_
 refine AllReadyH.cons rfl (fun K hK=>?_) (AllReadyH.nil)
 · skip
   go_simp
   have hb9:=one_below W2 (.cells #[.int .i64 (q0:Int)] 3)
   have HS:=lh (HS.out.on hb9)
   have HB:=lh (And.intro HS.out.below (on_row hb9 HB.out.2))
   have F8:=lh (heap_alloc_new W2 (.cells #[.int .i64 (q0:Int)] 3))
   clear hb9
   refine hK.out _ _ HB.out (fun hHeld=>?_)
   clear hK K hHeld
   (try simp only [pn])
   generalize W2.heap.size=g18 at *
   generalize W2.alloc (.cells #[.int .i64 (q0:Int)] 3)=W3 at *
   refine wpAnyH_ready (rs:=[9]) (by kernel_rfl) (by simp) ?_
   refine AllReadyH.cons rfl (fun K hK=>?_) (AllReadyH.nil)
   · skip
     go_simp
     go_at_call 64
     (with_reducible refine (TX0.out W3 g18 HS.out F8.out).mono ?_)
     rintro e W4 ⟨rfl,hb9⟩
     clear F8
     have HS:=lh (HS.out.on hb9)
     have HB:=lh (And.intro HS.out.below (on_row hb9 HB.out.2))
     clear hb9
     go_simp
     refine hK.out _ _ HB.out (fun hHeld=>?_)
     clear hK K hHeld
     (try simp only [pn])
     refine wpAnyH_ready (rs:=[10]) (by kernel_rfl) (by simp) ?_
     refine AllReadyH.cons rfl (fun K hK=>?_) (AllReadyH.nil)
     · skip
       go_simp
       have hb9:=one_below W4 (.cells #[.string (⟨#[108,101,116,32]⟩),.string s,.string (⟨#[32,61,32]⟩),.string (exT x0),.string ⟨#[59]⟩] 9)
       have HS:=lh (HS.out.on hb9)
       have HB:=lh (And.intro HS.out.below (on_row hb9 HB.out.2))
       have F10:=lh (heap_alloc_new W4 (.cells #[.string (⟨#[108,101,116,32]⟩),.string s,.string (⟨#[32,61,32]⟩),.string (exT x0),.string ⟨#[59]⟩] 9))
       clear hb9
       refine hK.out _ _ HB.out (fun hHeld=>?_)
       clear hK K hHeld
       (try simp only [pn])
       generalize W4.heap.size=g20 at *
       generalize W4.alloc (.cells #[.string (⟨#[108,101,116,32]⟩),.string s,.string (⟨#[32,61,32]⟩),.string (exT x0),.string ⟨#[59]⟩] 9)=W5 at *
       refine wpAnyH_ready (rs:=[11]) (by kernel_rfl) (by simp) ?_
       refine AllReadyH.cons rfl (fun K hK=>?_) (AllReadyH.nil)
       · skip
         go_simp
         go_at_call 167
         (with_reducible refine (LN.out W5 g20 HS.out F10.out).mono ?_)
         rintro e W6 ⟨rfl,v',HP,HK⟩
         have HP:=lh HP
         have HB:=lh (And.intro HP.out.below (HK _ _ _ _ HB.out.2 (by decide) hgb))
         clear HK
         go_simp
         refine hK.out _ _ HB.out (fun hHeld=>?_)
         clear hK K hHeld
         (try simp only [pn])
         refine wpAnyH_done (by kernel_rfl) ?_ _
         go_wp2_with fail
         go_end0
         exact ⟨rfl,v',HP.out⟩
end
end Go.Proofs.YthdioipfdbbmmaaGreatDoor
