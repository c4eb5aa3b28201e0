/- Contracts. -/
import Derived.Test.YthdioipfdbbmmaaGreatDoorHab
import Derived.Test.YthdioipfdbbmmaaGreatDoorHao
import Derived.Test.YthdioipfdbbmmaaGreatDoorHap
import Derived.Deep.RegionHeld3
import Derived.Deep.LoopGhost
import Derived.Deep.Cut
set_option linter.all false
set_option maxRecDepth 1000000
set_option maxHeartbeats 16000000
namespace Go.Proofs.YthdioipfdbbmmaaGreatDoor
namespace Rf
open Go.RowKit Par
section
variable {α β:Type}{E:Env}{v:Value}{kvs:List Value}{md:List Nd}{i:Nat}{d e:Int}{w w':World}
def left {α:Type}(R:Res α):Nat:=match R with
 | .err _ _=>0
 | .ok _ l=>l.length
def Nq (E:Env)(v:Value)(kvs:List Value)(B q0 q1:Nat)(b:Nat):Prop:=Nx E v kvs B b∧b≠q0∧b≠q1
structure LpX (E:Env)(v:Value)(kvs:List Value)(md:List Nd)(d:Int)(w:World)(q0 q1:Nat)(R:Res Ast)(k1 a1:Int)(t1:ByteArray)(n1:Int)(p1:Option Addr)(l1 c1:Nat)(wr:World):Prop where
 at':At E v kvs md d R wr
 fr:Fr E w.heap.size v v w wr
 L0:Lcl E v kvs q0 (.cells #[.int .u8 0,.int .i64 0,.string ⟨#[]⟩,.int .i64 0,.slice none 0 0] 317 (0,0)) wr
 L1:Lcl E v kvs q1 (.cells #[.int .u8 k1,.int .i64 a1,.string t1,.int .i64 n1,.slice p1 l1 c1] 317 (0,0)) wr
 ge:w.heap.size≤q0∧w.heap.size≤q1∧q0≠q1
 ex:∀y l',R=.ok y l'→ExprV wr (Nq E v kvs w.heap.size q0 q1) y (.agg #[.int .u8 k1,.int .i64 a1,.string t1,.int .i64 n1,.slice p1 l1 c1])
theorem left_le {β:Type}{fac:Par β}(hl:Less fac)(l:List PT)(f:β→Ast):left (then' (fac l) fun b=>Par.pure (f b))≤l.length:=by
 cases h:fac l with
 | err p c=>simp [then',left]
 | ok b l'=>exact hl l b l' h
theorem times_more {fac:Par Ast}(hl:Less fac){y:Ast}{t:PT}{l:List PT}(ht:t.txt=⟨#[42]⟩):then' (.ok y (t::l)) (many (timesStep fac))=then' (then' (fac l) fun b=>Par.pure (bothA 25 y b)) (many (timesStep fac)):=by
 simp only [then']
 have hs:timesStep fac y (t::l)=match fac l with|.err p c=>.err p c|.ok b l'=>.ok (some (bothA 25 y b)) l':=by
  simp only [timesStep,Par.bind,skipP,if_pos ht,Par.pure]
  cases fac l<;>rfl
 cases hf:fac l with
 | err p c =>
  rw [hf] at hs
  exact many_err hs
 | ok b l' =>
  rw [hf] at hs
  exact many_more (step_times hl) hs
theorem times_done {fac:Par Ast}{y:Ast}{t:PT}{l:List PT}(ht:¬ t.txt=⟨#[42]⟩):then' (.ok y (t::l)) (many (timesStep fac))=.ok y (t::l):=by
 simp only [then']
 refine many_done ?_
 simp only [timesStep,Par.bind,skipP,if_neg ht,Par.pure]
theorem ExprV.frq {B B' q0 q1:Nat}{a:Ast}{x:Value}(h:ExprV w (Nq E v kvs B q0 q1) a x)(hf:Fr E B' v v w w')(hB:w.heap.size≤B'):ExprV w' (Nq E v kvs B q0 q1) a x :=
 ExprV.on hf.size (fun k hk hl=>hf.block k (by omega) (by have:=hk.1.1.lt;omega) hk.1.1.v) (fun k hk _=>hk) a x h
theorem ExprV.setq {B q0 q1:Nat}{a:Ast}{x:Value}(h:ExprV w (Nq E v kvs B q0 q1) a x){q:Addr}(hq:q.block=E.b∨q.block=q0∨q.block=q1)(u:Value):ExprV (w.setCell q u) (Nq E v kvs B q0 q1) a x :=
 ExprV.on (by simp [World.setCell]) (fun k hk _=>Below.heap_setCell w q u k (by
  rcases hq with e|e|e
  · rw [e];have:=hk.1.1.lt;omega
  · rw [e];exact hk.2.1
  · rw [e];exact hk.2.2)) (fun k hk _=>hk) a x h
theorem ExprV.setq5 {B q0 q1 q:Nat}{a:Ast}{x:Value}(h:ExprV w (Nq E v kvs B q0 q1) a x)(hq:q=q0∨q=q1)(a1 b c e f:Value):ExprV (((((w.setCell ⟨q,0,none⟩ a1).setCell ⟨q,1,none⟩ b).setCell ⟨q,2,none⟩ c).setCell ⟨q,3,none⟩ e).setCell ⟨q,4,none⟩ f) (Nq E v kvs B q0 q1) a x :=
 ((((h.setq (q:=⟨q,0,none⟩) (Or.inr hq) a1).setq (q:=⟨q,1,none⟩) (Or.inr hq) b).setq (q:=⟨q,2,none⟩) (Or.inr hq) c).setq (q:=⟨q,3,none⟩) (Or.inr hq) e).setq (q:=⟨q,4,none⟩) (Or.inr hq) f
theorem ExprV.allocq {B q0 q1:Nat}{a:Ast}{x:Value}(h:ExprV w (Nq E v kvs B q0 q1) a x)(o:Obj):ExprV (w.alloc o) (Nq E v kvs B q0 q1) a x :=
 ExprV.on (by simp) (fun k _ hl=>Below.heap_alloc _ _ _ hl) (fun k hk _=>hk) a x h
theorem ExprV.drewq {B q0 q1:Nat}{a:Ast}{x:Value}(h:ExprV w (Nq E v kvs B q0 q1) a x)(m:Nat):ExprV (w.drewN m) (Nq E v kvs B q0 q1) a x :=
 ExprV.on (W:=w) (W':=w.drewN m) (Nat.le_refl _) (fun _ _ _=>rfl) (fun k hk _=>hk) a x h
theorem ExprV.nq {B B' q0 q1:Nat}{a:Ast}{x:Value}(h:ExprV w (Nx E v kvs B') a x)(hB:B≤B')(h0:q0<B')(h1:q1<B'):ExprV w (Nq E v kvs B q0 q1) a x :=
 ExprV.on (Nat.le_refl _) (fun _ _ _=>rfl) (fun k hk _=>⟨⟨hk.1,by have:=hk.2;omega⟩,by have:=hk.2;omega,by have:=hk.2;omega⟩) a x h
theorem ExprV.unq {B q0 q1:Nat}{a:Ast}{x:Value}(h:ExprV w (Nq E v kvs B q0 q1) a x):ExprV w (Nx E v kvs B) a x :=
 ExprV.on (Nat.le_refl _) (fun _ _ _=>rfl) (fun k hk _=>hk.1) a x h
theorem ExprV.node2q {P:Nat→Prop}{b:Nat}{y z:Ast}{c0 c1 c2 c3 c4 e0 e1 e2 e3 e4:Value}{T:TypeId}(hP:P b)(hs:b<w.heap.size)(ho:w.heap[b]?=some (.cells #[c0,c1,c2,c3,c4,e0,e1,e2,e3,e4] T (0,0)))(k:Int)(a:Nat)(t:ByteArray)(n:Int)
 (h:ExprV w P y (.agg #[c0,c1,c2,c3,c4])) (h':ExprV w P z (.agg #[e0,e1,e2,e3,e4])) :
 ExprV w P (.mk k a t n [y,z]) (.agg #[.int .u8 k,.int .i64 (a:Int),.string t,.int .i64 n,.slice (some ⟨b,0,none⟩) 2 2]):=by
 unfold ExprV
 refine ⟨_,rfl,Or.inr ⟨b,hP,hs,rfl,?_⟩⟩
 simp only [ExprL,and_true]
 exact ⟨⟨c0,c1,c2,c3,c4,h,by rw [cell_of_row _ _ _ _ _ _ ho];rfl,by rw [cell_of_row _ _ _ _ _ _ ho];rfl,by rw [cell_of_row _ _ _ _ _ _ ho];rfl,by rw [cell_of_row _ _ _ _ _ _ ho];rfl,by rw [cell_of_row _ _ _ _ _ _ ho];rfl⟩,
  ⟨e0,e1,e2,e3,e4,h',by rw [cell_of_row _ _ _ _ _ _ ho];rfl,by rw [cell_of_row _ _ _ _ _ _ ho];rfl,by rw [cell_of_row _ _ _ _ _ _ ho];rfl,by rw [cell_of_row _ _ _ _ _ _ ho];rfl,by rw [cell_of_row _ _ _ _ _ _ ho];rfl⟩⟩
theorem ExprV.at1 {P:Nat→Prop}{y:Ast}{k1 a1:Int}{t1:ByteArray}{n1:Int}{p1:Option Addr}{l1 c1:Nat}(h:ExprV w P y (.agg #[.int .u8 k1,.int .i64 a1,.string t1,.int .i64 n1,.slice p1 l1 c1])):a1=(y.at':Int):=by
 cases y with
 | mk k a t n ks =>
  obtain ⟨kp,hv,_⟩:=h.open
  simp only [Value.agg.injEq,Array.mk.injEq,List.cons.injEq,Value.int.injEq] at hv
  exact hv.2.1.2
end
section
variable {α β:Type}{E:Env}{v:Value}{kvs:List Value}{md:List Nd}{i:Nat}{d e:Int}{w w':World}
abbrev set5 (w:World)(q:Nat)(a b c e f:Value):World:=((((w.setCell ⟨q,0,none⟩ a).setCell ⟨q,1,none⟩ b).setCell ⟨q,2,none⟩ c).setCell ⟨q,3,none⟩ e).setCell ⟨q,4,none⟩ f
def RelT (E:Env)(v:Value)(kvs:List Value)(md:List Nd)(d:Int)(w:World)(q1:Nat)(fac:Par Ast)(S:Res Ast)(g:Nat)(wr:World):Prop :=
 ∃(R1:Res Ast) (k1 a1:Int) (t1:ByteArray) (m1:Int) (p1:Option Addr) (l1 c1:Nat),Hid (left R1≤g)∧Hid (then' R1 (many (timesStep fac))=S)∧Hid (LpX E v kvs md d w w.heap.size q1 R1 k1 a1 t1 m1 p1 l1 c1 wr)
theorem term_x {fac:Par Ast}{d:Int}(hf:HasX 293 d fac)(hl:Less fac):HasX 290 d (termP fac):=by
 intro E v kvs md w α R h
 have HFX:=lh hf
 have HLS:=lh hl
 have L0:=lh (h.lcl (.cells #[.int .u8 0,.int .i64 0,.string ⟨#[]⟩,.int .i64 0,.slice none 0 0] 317))
 have A0:=lh (h.alloc (.cells #[.int .u8 0,.int .i64 0,.string ⟨#[]⟩,.int .i64 0,.slice none 0 0] 317))
 have F0:=lh (show Fr E w.heap.size v v w _ from (Fr.refl E w.heap.size v w).alloc (Nat.le_refl _) (.cells #[.int .u8 0,.int .i64 0,.string ⟨#[]⟩,.int .i64 0,.slice none 0 0] 317))
 have C0:=lh (HFX.out E v kvs md _ α R A0.out)
 have HEQ:=lh (then_then R (fun _=>fac) (many (timesStep fac)))
 clear h hf hl
 go_enter Tryz.func290,Tryz.ntmps290
 go_wp2_with fail
 (with_reducible refine C0.out.mono ?_)
 rintro x w3 ⟨ev,rfl,⟨k1,a1,t1,m1,p1,l1,c1,rfl⟩,ha3,hf3,hx3⟩
 have hsz:(w.alloc (.cells #[.int .u8 0,.int .i64 0,.string ⟨#[]⟩,.int .i64 0,.slice none 0 0] 317)).heap.size=w.heap.size+1:=by simp
 have hs3:w.heap.size+1≤w3.heap.size:=by have:=hf3.size;rwa [hsz] at this
 have HLP:Hid (LpX E v kvs md d w w.heap.size w3.heap.size (then' R fun _=>fac) k1 a1 t1 m1 p1 l1 c1 (w3.alloc (.cells #[.int .u8 k1,.int .i64 a1,.string t1,.int .i64 m1,.slice p1 l1 c1] 317))):=lh
  { at' := ha3.alloc _
    fr:=(F0.out.trans (hf3.mono (show w.heap.size≤_ by rw [hsz];omega))).alloc (by omega) _
    L0:=(L0.out.on0 hf3).alloc _
    L1:=ha3.lcl _
    ge:=⟨by omega,by omega,by omega⟩
    ex:=fun y l' e=>ExprV.on (by simp) (fun k _ hl=>Below.heap_alloc _ _ _ hl) (fun k hk hl=>⟨⟨hk.1,by have:=hk.2;rw [hsz] at this;omega⟩,by have:=hk.2;rw [hsz] at this;omega,by omega⟩) _ _ (hx3 y l' e) }
 clear ha3 hf3 hx3 C0 L0 A0 F0 hsz
 go_upto_region 2 with fail
 obtain ⟨q1,hq1⟩:∃q1,w3.heap.size=q1:=⟨_,rfl⟩
 rw [hq1] at HLP hs3 ⊢
 clear hq1
 generalize w3.alloc (.cells #[.int .u8 k1,.int .i64 a1,.string t1,.int .i64 m1,.slice p1 l1 c1] 317)=w4 at *
 go_loopg [] (left (then' R fun _=>fac)) (fun g wr=>RelT E v kvs md d w q1 fac (then' (then' R fun _=>fac) (many (timesStep fac))) g wr)
 case atStart=>exact ⟨_,_,_,_,_,_,_,_,lh (Nat.le_refl _),lh rfl,HLP⟩
 case round =>
  clear HLP
  obtain ⟨R1,k1,a1,t1,m1,p1,l1,c1,HG,HQ,HL⟩:=hrel
  have IS:=lh (is_R HL.out.at' ⟨#[42]⟩ (by decide) (by decide))
  go_wp2_with fail
  (with_reducible refine IS.out.mono ?_)
  rintro x wd ⟨rfl,m,rfl⟩
  clear IS
  cases hy:nxt R1 ⟨#[42]⟩ with
  | true =>
   obtain ⟨y,i,rfl,hrs,htx,hil⟩:=HL.out.at'.yes (by decide) hy
   have h63:(i:Int)+1≤9223372036854775807:=by have:=hrs.few;omega
   have HRS:=lh (hrs.drewN m)
   obtain ⟨_,c1',_,_,_⟩:=HRS.out.rowCells
   have cz:=HRS.out.fz
   have HK:=lh (HRS.out.inc hil)
   have A5:=lh (At.of_ok (d:=d) y HK.out.rs)
   have M0:=lh ((show Lcl E v kvs w.heap.size _ (wr.drewN m) from ⟨HL.out.L0.loc,HL.out.L0.lt,HL.out.L0.obj⟩).setB 1 (.int .i64 ((i:Int)+1)))
   have M1:=lh ((show Lcl E v kvs q1 _ (wr.drewN m) from ⟨HL.out.L1.loc,HL.out.L1.lt,HL.out.L1.obj⟩).setB 1 (.int .i64 ((i:Int)+1)))
   have hsw:w.heap.size≤(wr.drewN m).heap.size:=HL.out.fr.size
   have F5:=lh ((HL.out.fr.drewN m).trans (HK.out.fr.mono hsw))
   have X5:=lh (((HL.out.ex y _ rfl).drewq m).setq (q:=⟨E.b,1,none⟩) (Or.inl rfl) (.int .i64 ((i:Int)+1)))
   have hge:=HL.out.ge
   have HTX:=lh htx
   go_upto_region 4 with fail
   generalize ((wr.drewN m).setCell ⟨E.b,1,none⟩ (.int .i64 ((i:Int)+1)))=w5 at *
   clear c1' cz HK HRS hrs hil hsw
   obtain ⟨g0,hg0⟩:∃g0,g0=gk-1:=⟨_,rfl⟩
   have C5:=lh (HFX.out E v kvs md _ Ast _ A5.out.drew)
   have m0:=M1.out.cell 0 rfl
   have m1':=M1.out.cell 1 rfl
   have m2:=M1.out.cell 2 rfl
   have m3:=M1.out.cell 3 rfl
   have m4:=M1.out.cell 4 rfl
   have LN:Hid (∀k6 a6 t6 m6 p6 l6 c6 w6,At E v kvs md d (then' (Res.ok y (List.drop (i+1) E.pts)) fun _=>fac) w6→Fr E w5.drew.heap.size v v w5.drew w6→(∀y' l',then' (Res.ok y (List.drop (i+1) E.pts)) (fun _=>fac)=.ok y' l'→ExprV w6 (Nx E v kvs w5.drew.heap.size) y' (.agg #[.int .u8 k6,.int .i64 a6,.string t6,.int .i64 m6,.slice p6 l6 c6]))→RelT E v kvs md d w q1 fac (then' (then' R fun _=>fac) (many (timesStep fac))) g0 (set5 (w6.alloc (.cells #[.int .u8 k1,.int .i64 a1,.string t1,.int .i64 m1,.slice p1 l1 c1,.int .u8 k6,.int .i64 a6,.string t6,.int .i64 m6,.slice p6 l6 c6] 317)) q1 (.int .u8 25) (.int .i64 a1) (.string ⟨#[]⟩) (.int .i64 0) (.slice (some ⟨w6.heap.size,0,none⟩) 2 2))):=lh (by
    intro k6 a6 t6 m6 p6 l6 c6 w6 ha6 hf6 hx6
    have hdr:w5.drew.heap.size=w5.heap.size:=rfl
    have hs6:w5.heap.size≤w6.heap.size:=hf6.size
    have hq0:w.heap.size<w5.heap.size:=M0.out.lt
    have hq1:q1<w5.heap.size:=M1.out.lt
    have e1:a1=(y.at':Int):=X5.out.at1
    refine ⟨then' (fac (List.drop (i+1) E.pts)) fun b=>Par.pure (bothA 25 y b),25,a1,⟨#[]⟩,0,some ⟨w6.heap.size,0,none⟩,2,2,lh ?_,lh ?_,lh ?_⟩
    · have h1:=HG.out
      simp only [left,List.length_cons] at h1
      have h2:=left_le HLS.out (List.drop (i+1) E.pts) (bothA 25 y)
      omega
    · rw [← HQ.out,times_more HLS.out HTX.out]
    · exact
       { at' := ((ha6.mapv (bothA 25 y)).alloc _).set5 M1.out.loc _ _ _ _ _
         fr:=(((F5.out.drewN 1).trans (hf6.mono (show w.heap.size≤w5.drew.heap.size by rw [hdr];omega))).alloc (by omega) _).set5 (by simp;omega) (q:=q1) hge.2.1 _ _ _ _ _
         L0:=(((Lcl.drew' M0.out).on0 hf6).alloc _).set5o hge.2.2.symm _ _ _ _ _
         L1:=(((Lcl.drew' M1.out).on0 hf6).alloc _).set5 _ _ _ _ _
         ge:=hge
         ex:=fun z l' ez=>by
          obtain ⟨b,eb,rfl⟩:=thenv_inv ez
          subst e1
          refine ExprV.node2q (P:=Nq E v kvs w.heap.size w.heap.size q1) (b:=w6.heap.size) (T := 317) ⟨⟨ha6.fresh,by omega⟩,by omega,by omega⟩ (by simp [size_set]) ?_ 25 y.at' none0 0 ((((X5.out.drewq 1).frq hf6 (Nat.le_refl _)).allocq _).setq5 (Or.inr rfl) _ _ _ _ _) ((((hx6 b l' eb).nq (by rw [hdr];omega) (by rw [hdr];omega) (by rw [hdr];omega)).allocq _).setq5 (Or.inr rfl) _ _ _ _ _)
          rw [heap_set5 (show q1≠w6.heap.size by omega)]
          exact heap_alloc_new _ _ })
   have HLT:Hid (g0<gk):=lh (by have:=HG.out;simp only [left,List.length_cons] at this;omega)
   refine wp_region_held_drew (S:=fun _=>True) (by kernel_rfl) trivial (fun hHeld=>?_)
   refine tk (i:=0) (v:=?_) rfl hHeld ?_ ?_
   rotate_left
   · (intro w hSw;(try dsimp only at hSw);go_simp;try with_reducible rfl)
   (try simp only [pn])
   refine tk (i:=3) (v:=?_) rfl hHeld ?_ ?_
   rotate_left
   · (intro w hSw;(try dsimp only at hSw);go_simp;try with_reducible rfl)
   (try simp only [pn])
   repeat' (first
    |(with_reducible exact AllReadyH.nil)
    |(with_reducible show AllReadyH _ _ _ _ _ _ _ _ _ _;refine AllReadyH.cons rfl (fun K hK=>?_) ?_)
    |(with_reducible show wpAnyH _ _ _ _ _ _ _ _ _
      first
      |(refine tk (i:=6) (v:=?_) rfl hHeld ?_ ?_ (by kernel_rfl) (by decide +kernel) (by decide +kernel)
        rotate_left
        · (intro w hSw;(try dsimp only at hSw);go_simp;try with_reducible rfl)
        (try simp only [pn]))
      |refine wpAnyH_ready (rs:=[1,2,4]) (by decide +kernel) (by simp) ?_
      |refine wpAnyH_ready (rs:=[2,4]) (by decide +kernel) (by simp) ?_
      |refine wpAnyH_ready (rs:=[4]) (by decide +kernel) (by simp) ?_
      |refine wpAnyH_ready (rs:=[5]) (by decide +kernel) (by simp) ?_
      |refine wpAnyH_ready (rs:=[7]) (by decide +kernel) (by simp) ?_
      |refine wpAnyH_ready (rs:=[2]) (by decide +kernel) (by simp) ?_
      |refine wpAnyH_ready (rs:=[1,4]) (by decide +kernel) (by simp) ?_
      |refine wpAnyH_ready (rs:=[1,5]) (by decide +kernel) (by simp) ?_
      |refine wpAnyH_ready (rs:=[1]) (by decide +kernel) (by simp) ?_
      |refine wpAnyH_ready (rs:=[1,2]) (by decide +kernel) (by simp) ?_
      |(refine wpAnyH_done (by decide +kernel) ?_ _
        go_wp2_with fail
        go_roundg g0
        case rel=>exact HN.out
        case measure=>exact HLT.out))
    |(go_simp
      go_at_call 293
      (with_reducible refine C5.out.mono ?_)
      rintro x w6 ⟨ev,rfl,⟨k6,a6,t6,m6,p6,l6,c6,rfl⟩,ha6,hf6,hx6⟩
      have HN:=lh (LN.out k6 a6 t6 m6 p6 l6 c6 w6 ha6 hf6 hx6)
      have O1:=lh ((Lcl.drew' M1.out).on0 hf6)
      have x0:=O1.out.cell 0 rfl
      have x1:=O1.out.cell 1 rfl
      have x2:=O1.out.cell 2 rfl
      have x3:=O1.out.cell 3 rfl
      have x4:=O1.out.cell 4 rfl
      clear ha6 hf6 hx6
      go_simp
      refine hK.out _ _ trivial (fun hHeld=>?_)
      clear hK K
      (try simp only [pn]))
    |(rw [if_pos (by rfl)]
      refine wp_bs 315 2 #[(0,.tmp 17),(1,.tmp 19)] rfl #[(0,.agg #[.int .u8 k1,.int .i64 a1,.string t1,.int .i64 m1,.slice p1 l1 c1]),(1,.agg #[.int .u8 k6,.int .i64 a6,.string t6,.int .i64 m6,.slice p6 l6 c6])] (by simp [Act.eval,Act.put]) _ _ (bs_two _ _ _ _ _ _ _ _ _ _ _) ?_
      have O2:=lh (O1.out.alloc (.cells #[.int .u8 k1,.int .i64 a1,.string t1,.int .i64 m1,.slice p1 l1 c1,.int .u8 k6,.int .i64 a6,.string t6,.int .i64 m6,.slice p6 l6 c6] 317))
      generalize (w6.alloc (.cells #[.int .u8 k1,.int .i64 a1,.string t1,.int .i64 m1,.slice p1 l1 c1,.int .u8 k6,.int .i64 a6,.string t6,.int .i64 m6,.slice p6 l6 c6] 317))=w7 at *
      generalize w6.heap.size=q9 at *
      have y0:=O2.out.cell 0 rfl
      have y1:=O2.out.cell 1 rfl
      have y2:=O2.out.cell 2 rfl
      have y3:=O2.out.cell 3 rfl
      have y4:=O2.out.cell 4 rfl
      have yz:=O2.out.fz
      clear x0 x1 x2 x3 x4 O1 O2
      refine hK.out _ _ trivial (fun hHeld=>?_)
      clear hK K
      (try simp only [pn]))
    |(go_simp;refine hK.out _ _ trivial (fun hHeld=>?_);clear hK K;(try simp only [pn])))
  | false =>
   have hS:then' R1 (many (timesStep fac))=R1:=by
    cases R1 with
    | err p c=>rfl
    | ok y l =>
     obtain ⟨i,rfl,_⟩:=HL.out.at'.ok_of
     simp only [nxt,decide_eq_false_iff_not] at hy
     exact times_done hy
   have HS:Hid (then' R (fun _=>termP fac)=R1):=lh (by
    have h1:=HQ.out
    rw [hS] at h1
    rw [h1,HEQ.out]
    rfl)
   have N0:=lh (show Lcl E v kvs w.heap.size _ (wr.drewN m) from ⟨HL.out.L0.loc,HL.out.L0.lt,HL.out.L0.obj⟩)
   have N1:=lh (show Lcl E v kvs q1 _ (wr.drewN m) from ⟨HL.out.L1.loc,HL.out.L1.lt,HL.out.L1.obj⟩)
   have hge:=HL.out.ge
   have n10:q1≠w.heap.size:=hge.2.2.symm
   have n01:w.heap.size≠q1:=hge.2.2
   have hsw:w.heap.size≤(wr.drewN m).heap.size:=HL.out.fr.size
   have ZA:=lh ((HL.out.at'.drewN m).set5 N0.out.loc (.int .u8 k1) (.int .i64 a1) (.string t1) (.int .i64 m1) (.slice p1 l1 c1))
   have ZF:=lh ((HL.out.fr.drewN m).set5 hsw (q:=w.heap.size) (Nat.le_refl _) (.int .u8 k1) (.int .i64 a1) (.string t1) (.int .i64 m1) (.slice p1 l1 c1))
   have ZL:=lh (N0.out.set5 (.int .u8 k1) (.int .i64 a1) (.string t1) (.int .i64 m1) (.slice p1 l1 c1))
   have ZX:=lh (fun y l' e=>(((HL.out.ex y l' e).drewq m).setq5 (Or.inl rfl) (.int .u8 k1) (.int .i64 a1) (.string t1) (.int .i64 m1) (.slice p1 l1 c1)).unq)
   have m0:=N1.out.cell 0 rfl
   have m1':=N1.out.cell 1 rfl
   have m2:=N1.out.cell 2 rfl
   have m3:=N1.out.cell 3 rfl
   have m4:=N1.out.cell 4 rfl
   have r0:=N0.out.cell 0 rfl
   have r1:=N0.out.cell 1 rfl
   have r2:=N0.out.cell 2 rfl
   have r3:=N0.out.cell 3 rfl
   have r4:=N0.out.cell 4 rfl
   have rz:=N0.out.fz
   generalize wr.drewN m=wd at *
   clear hy hS
   go_wp2_with fail
   generalize ((((wd.setCell ⟨w.heap.size,0,none⟩ (.int .u8 k1)).setCell ⟨w.heap.size,1,none⟩ (.int .i64 a1)).setCell ⟨w.heap.size,2,none⟩ (.string t1)).setCell ⟨w.heap.size,3,none⟩ (.int .i64 m1)).setCell ⟨w.heap.size,4,none⟩ (.slice p1 l1 c1)=Wz at *
   clear m0 m1' m2 m3 m4 r0 r1 r2 r3 r4 rz
   have y0:=ZL.out.cell 0 rfl
   have y1:=ZL.out.cell 1 rfl
   have y2:=ZL.out.cell 2 rfl
   have y3:=ZL.out.cell 3 rfl
   have y4:=ZL.out.cell 4 rfl
   simp [bodyPost,results,Tryz.results290,go_sem,y0,y1,y2,y3,y4]
   rw [HS.out]
   exact ⟨_,rfl,⟨_,_,_,_,_,_,_,rfl⟩,ZA.out,ZF.out,ZX.out⟩
end
end Rf
namespace Rf
open Go.RowKit Par
theorem plus_more {fac:Par Ast}(hl:Less fac){y:Ast}{t:PT}{l:List PT}(ht:t.txt=⟨#[43]⟩):then' (.ok y (t::l)) (many (sumStep fac))=then' (then' (termP fac l) fun b=>Par.pure (bothA 23 y b)) (many (sumStep fac)):=by
 simp only [then']
 have hs:sumStep fac y (t::l)=match termP fac l with|.err p c=>.err p c|.ok b l'=>.ok (some (bothA 23 y b)) l':=by
  simp only [sumStep,Par.bind,skipP,if_pos ht,Par.pure]
  cases termP fac l<;>rfl
 cases hf:termP fac l with
 | err p c=>rw [hf] at hs;exact many_err hs
 | ok b l'=>rw [hf] at hs;exact many_more (step_sum hl) hs
theorem minus_more {fac:Par Ast}(hl:Less fac){y:Ast}{t:PT}{l:List PT}(ht:t.txt=⟨#[45]⟩):then' (.ok y (t::l)) (many (sumStep fac))=then' (then' (termP fac l) fun b=>Par.pure (bothA 24 y b)) (many (sumStep fac)):=by
 simp only [then']
 have hs:sumStep fac y (t::l)=match termP fac l with|.err p c=>.err p c|.ok b l'=>.ok (some (bothA 24 y b)) l':=by
  simp only [sumStep,Par.bind,skipP]
  rw [if_neg (show ¬ t.txt=⟨#[43]⟩ by rw [ht];decide)]
  simp only [Par.bind,skipP,if_pos ht,Par.pure]
  cases termP fac l<;>rfl
 cases hf:termP fac l with
 | err p c=>rw [hf] at hs;exact many_err hs
 | ok b l'=>rw [hf] at hs;exact many_more (step_sum hl) hs
theorem sum_done {fac:Par Ast}{y:Ast}{t:PT}{l:List PT}(ht:¬ t.txt=⟨#[43]⟩)(ht2:¬ t.txt=⟨#[45]⟩):then' (.ok y (t::l)) (many (sumStep fac))=.ok y (t::l):=by
 simp only [then']
 refine many_done ?_
 simp only [sumStep,Par.bind,skipP,if_neg ht,if_neg ht2,Par.pure]
def RelS (E:Env)(v:Value)(kvs:List Value)(md:List Nd)(d:Int)(w:World)(q1:Nat)(fac:Par Ast)(S:Res Ast)(g:Nat)(wr:World):Prop :=
 ∃(R1:Res Ast) (k1 a1:Int) (t1:ByteArray) (m1:Int) (p1:Option Addr) (l1 c1:Nat),Hid (left R1≤g)∧Hid (then' R1 (many (sumStep fac))=S)∧Hid (LpX E v kvs md d w w.heap.size q1 R1 k1 a1 t1 m1 p1 l1 c1 wr)
section
variable {α β:Type}{E:Env}{v:Value}{kvs:List Value}{md:List Nd}{i:Nat}{d e:Int}{w w':World}
theorem sum_x {fac:Par Ast}{d:Int}(hf:HasX 290 d (termP fac))(hl:Less fac):HasX 282 d (exprP fac):=by
 intro E v kvs md w α R h
 have HFX:=lh hf
 have HLS:=lh hl
 have HLT0:=lh (less_term hl)
 have L0:=lh (h.lcl (.cells #[.int .u8 0,.int .i64 0,.string ⟨#[]⟩,.int .i64 0,.slice none 0 0] 317))
 have A0:=lh (h.alloc (.cells #[.int .u8 0,.int .i64 0,.string ⟨#[]⟩,.int .i64 0,.slice none 0 0] 317))
 have F0:=lh (show Fr E w.heap.size v v w _ from (Fr.refl E w.heap.size v w).alloc (Nat.le_refl _) (.cells #[.int .u8 0,.int .i64 0,.string ⟨#[]⟩,.int .i64 0,.slice none 0 0] 317))
 have C0:=lh (HFX.out E v kvs md _ α R A0.out)
 have HEQ:=lh (then_then R (fun _=>termP fac) (many (sumStep fac)))
 clear h hf hl
 go_enter Tryz.func282,Tryz.ntmps282
 go_wp2_with fail
 (with_reducible refine C0.out.mono ?_)
 rintro x w3 ⟨ev,rfl,⟨k1,a1,t1,m1,p1,l1,c1,rfl⟩,ha3,hf3,hx3⟩
 have hsz:(w.alloc (.cells #[.int .u8 0,.int .i64 0,.string ⟨#[]⟩,.int .i64 0,.slice none 0 0] 317)).heap.size=w.heap.size+1:=by simp
 have hs3:w.heap.size+1≤w3.heap.size:=by have:=hf3.size;rwa [hsz] at this
 have HLP:Hid (LpX E v kvs md d w w.heap.size w3.heap.size (then' R fun _=>termP fac) k1 a1 t1 m1 p1 l1 c1 (w3.alloc (.cells #[.int .u8 k1,.int .i64 a1,.string t1,.int .i64 m1,.slice p1 l1 c1] 317))):=lh
  { at' := ha3.alloc _
    fr:=(F0.out.trans (hf3.mono (show w.heap.size≤_ by rw [hsz];omega))).alloc (by omega) _
    L0:=(L0.out.on0 hf3).alloc _
    L1:=ha3.lcl _
    ge:=⟨by omega,by omega,by omega⟩
    ex:=fun y l' e=>ExprV.on (by simp) (fun k _ hl=>Below.heap_alloc _ _ _ hl) (fun k hk hl=>⟨⟨hk.1,by have:=hk.2;rw [hsz] at this;omega⟩,by have:=hk.2;rw [hsz] at this;omega,by omega⟩) _ _ (hx3 y l' e) }
 clear ha3 hf3 hx3 C0 L0 A0 F0 hsz
 go_upto_region 2 with fail
 obtain ⟨q1,hq1⟩:∃q1,w3.heap.size=q1:=⟨_,rfl⟩
 rw [hq1] at HLP hs3 ⊢
 clear hq1
 generalize w3.alloc (.cells #[.int .u8 k1,.int .i64 a1,.string t1,.int .i64 m1,.slice p1 l1 c1] 317)=w4 at *
 go_loopg [4] (left (then' R fun _=>termP fac)) (fun g _ wr=>RelS E v kvs md d w q1 fac (then' (then' R fun _=>termP fac) (many (sumStep fac))) g wr)
 case atStart=>exact ⟨_,_,_,_,_,_,_,_,lh (Nat.le_refl _),lh rfl,HLP⟩
 case round =>
  clear HLP
  obtain ⟨R1,k1,a1,t1,m1,p1,l1,c1,HG,HQ,HL⟩:=hrel
  have IS:=lh (is_R HL.out.at' ⟨#[43]⟩ (by decide) (by decide))
  go_wp2_with fail
  (with_reducible refine IS.out.mono ?_)
  rintro x wd ⟨rfl,m,rfl⟩
  clear IS
  cases hy:nxt R1 ⟨#[43]⟩ with
  | true =>
   obtain ⟨y,i,rfl,hrs,htx,hil⟩:=HL.out.at'.yes (by decide) hy
   have hno:nxt (Res.ok y (RT E i::List.drop (i+1) E.pts)) ⟨#[45]⟩=false:=by
    simp only [nxt,htx];decide
   have IS2:=lh (is_R (HL.out.at'.drewN m) ⟨#[45]⟩ (by decide) (by decide))
   go_wp2_with fail
   (with_reducible refine IS2.out.mono ?_)
   rintro x wd ⟨rfl,m2,rfl⟩
   clear IS2
   rw [hno]
   have h63:(i:Int)+1≤9223372036854775807:=by have:=hrs.few;omega
   have HRS:=lh (hrs.drewN (m+m2))
   obtain ⟨_,c1',_,_,_⟩:=HRS.out.rowCells
   have cz:=HRS.out.fz
   have HK:=lh (HRS.out.inc hil)
   have A5:=lh (At.of_ok (d:=d) y HK.out.rs)
   have M0:=lh ((show Lcl E v kvs w.heap.size _ (wr.drewN (m+m2)) from ⟨HL.out.L0.loc,HL.out.L0.lt,HL.out.L0.obj⟩).setB 1 (.int .i64 ((i:Int)+1)))
   have M1:=lh ((show Lcl E v kvs q1 _ (wr.drewN (m+m2)) from ⟨HL.out.L1.loc,HL.out.L1.lt,HL.out.L1.obj⟩).setB 1 (.int .i64 ((i:Int)+1)))
   have hsw:w.heap.size≤(wr.drewN (m+m2)).heap.size:=HL.out.fr.size
   have F5:=lh ((HL.out.fr.drewN (m+m2)).trans (HK.out.fr.mono hsw))
   have X5:=lh (((HL.out.ex y _ rfl).drewq (m+m2)).setq (q:=⟨E.b,1,none⟩) (Or.inl rfl) (.int .i64 ((i:Int)+1)))
   have hge:=HL.out.ge
   have HTX:=lh htx
   go_upto_region 7 with fail
   generalize ((wr.drewN (m+m2)).setCell ⟨E.b,1,none⟩ (.int .i64 ((i:Int)+1)))=w5 at *
   clear c1' cz HK HRS hrs hil hsw
   obtain ⟨g0,hg0⟩:∃g0,g0=gk-1:=⟨_,rfl⟩
   have C5:=lh (HFX.out E v kvs md _ Ast _ A5.out.drew)
   have m0:=M1.out.cell 0 rfl
   have m1':=M1.out.cell 1 rfl
   have m2:=M1.out.cell 2 rfl
   have m3:=M1.out.cell 3 rfl
   have m4:=M1.out.cell 4 rfl
   have LN:Hid (∀k6 a6 t6 m6 p6 l6 c6 w6,At E v kvs md d (then' (Res.ok y (List.drop (i+1) E.pts)) fun _=>termP fac) w6→Fr E w5.drew.heap.size v v w5.drew w6→(∀y' l',then' (Res.ok y (List.drop (i+1) E.pts)) (fun _=>termP fac)=.ok y' l'→ExprV w6 (Nx E v kvs w5.drew.heap.size) y' (.agg #[.int .u8 k6,.int .i64 a6,.string t6,.int .i64 m6,.slice p6 l6 c6]))→RelS E v kvs md d w q1 fac (then' (then' R fun _=>termP fac) (many (sumStep fac))) g0 (set5 (w6.alloc (.cells #[.int .u8 k1,.int .i64 a1,.string t1,.int .i64 m1,.slice p1 l1 c1,.int .u8 k6,.int .i64 a6,.string t6,.int .i64 m6,.slice p6 l6 c6] 317)) q1 (.int .u8 23) (.int .i64 a1) (.string ⟨#[]⟩) (.int .i64 0) (.slice (some ⟨w6.heap.size,0,none⟩) 2 2))):=lh (by
    intro k6 a6 t6 m6 p6 l6 c6 w6 ha6 hf6 hx6
    have hdr:w5.drew.heap.size=w5.heap.size:=rfl
    have hs6:w5.heap.size≤w6.heap.size:=hf6.size
    have hq0:w.heap.size<w5.heap.size:=M0.out.lt
    have hq1:q1<w5.heap.size:=M1.out.lt
    have e1:a1=(y.at':Int):=X5.out.at1
    refine ⟨then' (termP fac (List.drop (i+1) E.pts)) fun b=>Par.pure (bothA 23 y b),23,a1,⟨#[]⟩,0,some ⟨w6.heap.size,0,none⟩,2,2,lh ?_,lh ?_,lh ?_⟩
    · have h1:=HG.out
      simp only [left,List.length_cons] at h1
      have h2:=left_le HLT0.out (List.drop (i+1) E.pts) (bothA 23 y)
      omega
    · rw [← HQ.out,plus_more HLS.out HTX.out]
    · exact
       { at' := ((ha6.mapv (bothA 23 y)).alloc _).set5 M1.out.loc _ _ _ _ _
         fr:=(((F5.out.drewN 1).trans (hf6.mono (show w.heap.size≤w5.drew.heap.size by rw [hdr];omega))).alloc (by omega) _).set5 (by simp;omega) (q:=q1) hge.2.1 _ _ _ _ _
         L0:=(((Lcl.drew' M0.out).on0 hf6).alloc _).set5o hge.2.2.symm _ _ _ _ _
         L1:=(((Lcl.drew' M1.out).on0 hf6).alloc _).set5 _ _ _ _ _
         ge:=hge
         ex:=fun z l' ez=>by
          obtain ⟨b,eb,rfl⟩:=thenv_inv ez
          subst e1
          refine ExprV.node2q (P:=Nq E v kvs w.heap.size w.heap.size q1) (b:=w6.heap.size) (T := 317) ⟨⟨ha6.fresh,by omega⟩,by omega,by omega⟩ (by simp [size_set]) ?_ 23 y.at' none0 0 ((((X5.out.drewq 1).frq hf6 (Nat.le_refl _)).allocq _).setq5 (Or.inr rfl) _ _ _ _ _) ((((hx6 b l' eb).nq (by rw [hdr];omega) (by rw [hdr];omega) (by rw [hdr];omega)).allocq _).setq5 (Or.inr rfl) _ _ _ _ _)
          rw [heap_set5 (show q1≠w6.heap.size by omega)]
          exact heap_alloc_new _ _ })
   have HLT:Hid (g0<gk):=lh (by have:=HG.out;simp only [left,List.length_cons] at this;omega)
   refine wp_region_held_drew (S:=fun _=>True) (by kernel_rfl) trivial (fun hHeld=>?_)
   refine tk (i:=0) (v:=?_) rfl hHeld ?_ ?_
   rotate_left
   · (intro w hSw;(try dsimp only at hSw);go_simp;try with_reducible rfl)
   (try simp only [pn])
   refine tk (i:=1) (v:=?_) rfl hHeld ?_ ?_
   rotate_left
   · (intro w hSw;(try dsimp only at hSw);go_simp;try with_reducible rfl)
   (try simp only [pn])
   refine tk (i:=4) (v:=?_) rfl hHeld ?_ ?_
   rotate_left
   · (intro w hSw;(try dsimp only at hSw);go_simp;try with_reducible rfl)
   (try simp only [pn])
   repeat' (first
    |(with_reducible exact AllReadyH.nil)
    |(with_reducible show AllReadyH _ _ _ _ _ _ _ _ _ _;refine AllReadyH.cons rfl (fun K hK=>?_) ?_)
    |(with_reducible show wpAnyH _ _ _ _ _ _ _ _ _
      first
      |(refine tk (i:=7) (v:=?_) rfl hHeld ?_ ?_ (by kernel_rfl) (by decide +kernel) (by decide +kernel)
        rotate_left
        · (intro w hSw;(try dsimp only at hSw);go_simp;try with_reducible rfl)
        (try simp only [pn]))
      |refine wpAnyH_ready (rs:=[2,3,5]) (by decide +kernel) (by simp) ?_
      |refine wpAnyH_ready (rs:=[3,5]) (by decide +kernel) (by simp) ?_
      |refine wpAnyH_ready (rs:=[5]) (by decide +kernel) (by simp) ?_
      |refine wpAnyH_ready (rs:=[6]) (by decide +kernel) (by simp) ?_
      |refine wpAnyH_ready (rs:=[8]) (by decide +kernel) (by simp) ?_
      |refine wpAnyH_ready (rs:=[3]) (by decide +kernel) (by simp) ?_
      |refine wpAnyH_ready (rs:=[2,5]) (by decide +kernel) (by simp) ?_
      |refine wpAnyH_ready (rs:=[2,6]) (by decide +kernel) (by simp) ?_
      |refine wpAnyH_ready (rs:=[2]) (by decide +kernel) (by simp) ?_
      |refine wpAnyH_ready (rs:=[2,3]) (by decide +kernel) (by simp) ?_
      |(refine wpAnyH_done (by decide +kernel) ?_ _
        go_wp2_with fail
        go_roundg g0
        case rel=>exact HN.out
        case measure=>exact HLT.out))
    |(go_simp
      go_at_call 290
      (with_reducible refine C5.out.mono ?_)
      rintro x w6 ⟨ev,rfl,⟨k6,a6,t6,m6,p6,l6,c6,rfl⟩,ha6,hf6,hx6⟩
      have HN:=lh (LN.out k6 a6 t6 m6 p6 l6 c6 w6 ha6 hf6 hx6)
      have O1:=lh ((Lcl.drew' M1.out).on0 hf6)
      have x0:=O1.out.cell 0 rfl
      have x1:=O1.out.cell 1 rfl
      have x2:=O1.out.cell 2 rfl
      have x3:=O1.out.cell 3 rfl
      have x4:=O1.out.cell 4 rfl
      clear ha6 hf6 hx6
      go_simp
      refine hK.out _ _ trivial (fun hHeld=>?_)
      clear hK K
      (try simp only [pn]))
    |(rw [if_pos (by rfl)]
      refine wp_bs 315 2 #[(0,.tmp 25),(1,.tmp 27)] rfl #[(0,.agg #[.int .u8 k1,.int .i64 a1,.string t1,.int .i64 m1,.slice p1 l1 c1]),(1,.agg #[.int .u8 k6,.int .i64 a6,.string t6,.int .i64 m6,.slice p6 l6 c6])] (by simp [Act.eval,Act.put]) _ _ (bs_two _ _ _ _ _ _ _ _ _ _ _) ?_
      have O2:=lh (O1.out.alloc (.cells #[.int .u8 k1,.int .i64 a1,.string t1,.int .i64 m1,.slice p1 l1 c1,.int .u8 k6,.int .i64 a6,.string t6,.int .i64 m6,.slice p6 l6 c6] 317))
      generalize (w6.alloc (.cells #[.int .u8 k1,.int .i64 a1,.string t1,.int .i64 m1,.slice p1 l1 c1,.int .u8 k6,.int .i64 a6,.string t6,.int .i64 m6,.slice p6 l6 c6] 317))=w7 at *
      generalize w6.heap.size=q9 at *
      have y0:=O2.out.cell 0 rfl
      have y1:=O2.out.cell 1 rfl
      have y2:=O2.out.cell 2 rfl
      have y3:=O2.out.cell 3 rfl
      have y4:=O2.out.cell 4 rfl
      have yz:=O2.out.fz
      clear x0 x1 x2 x3 x4 O1 O2
      refine hK.out _ _ trivial (fun hHeld=>?_)
      clear hK K
      (try simp only [pn]))
    |(go_simp;refine hK.out _ _ trivial (fun hHeld=>?_);clear hK K;(try simp only [pn])))
  | false =>
   have IS2:=lh (is_R (HL.out.at'.drewN m) ⟨#[45]⟩ (by decide) (by decide))
   go_wp2_with fail
   (with_reducible refine IS2.out.mono ?_)
   rintro x wd ⟨rfl,m2,rfl⟩
   clear IS2
   cases hy2:nxt R1 ⟨#[45]⟩ with
   | true =>
    obtain ⟨y,i,rfl,hrs,htx,hil⟩:=HL.out.at'.yes (by decide) hy2
    have IS3:=lh (is_R (HL.out.at'.drewN (m+m2)) ⟨#[45]⟩ (by decide) (by decide))
    go_wp2_with fail
    (with_reducible refine IS3.out.mono ?_)
    rintro x wd ⟨rfl,m3,rfl⟩
    clear IS3
    rw [hy2]
    have h63:(i:Int)+1≤9223372036854775807:=by have:=hrs.few;omega
    have HRS:=lh (hrs.drewN (m+m2+m3))
    obtain ⟨_,c1',_,_,_⟩:=HRS.out.rowCells
    have cz:=HRS.out.fz
    have HK:=lh (HRS.out.inc hil)
    have A5:=lh (At.of_ok (d:=d) y HK.out.rs)
    have M0:=lh ((show Lcl E v kvs w.heap.size _ (wr.drewN (m+m2+m3)) from ⟨HL.out.L0.loc,HL.out.L0.lt,HL.out.L0.obj⟩).setB 1 (.int .i64 ((i:Int)+1)))
    have M1:=lh ((show Lcl E v kvs q1 _ (wr.drewN (m+m2+m3)) from ⟨HL.out.L1.loc,HL.out.L1.lt,HL.out.L1.obj⟩).setB 1 (.int .i64 ((i:Int)+1)))
    have hsw:w.heap.size≤(wr.drewN (m+m2+m3)).heap.size:=HL.out.fr.size
    have F5:=lh ((HL.out.fr.drewN (m+m2+m3)).trans (HK.out.fr.mono hsw))
    have X5:=lh (((HL.out.ex y _ rfl).drewq (m+m2+m3)).setq (q:=⟨E.b,1,none⟩) (Or.inl rfl) (.int .i64 ((i:Int)+1)))
    have hge:=HL.out.ge
    have HTX:=lh htx
    go_upto_region 7 with fail
    generalize ((wr.drewN (m+m2+m3)).setCell ⟨E.b,1,none⟩ (.int .i64 ((i:Int)+1)))=w5 at *
    clear c1' cz HK HRS hrs hil hsw
    obtain ⟨g0,hg0⟩:∃g0,g0=gk-1:=⟨_,rfl⟩
    have C5:=lh (HFX.out E v kvs md _ Ast _ A5.out.drew)
    have m0:=M1.out.cell 0 rfl
    have m1':=M1.out.cell 1 rfl
    have m2:=M1.out.cell 2 rfl
    have m3:=M1.out.cell 3 rfl
    have m4:=M1.out.cell 4 rfl
    have LN:Hid (∀k6 a6 t6 m6 p6 l6 c6 w6,At E v kvs md d (then' (Res.ok y (List.drop (i+1) E.pts)) fun _=>termP fac) w6→Fr E w5.drew.heap.size v v w5.drew w6→(∀y' l',then' (Res.ok y (List.drop (i+1) E.pts)) (fun _=>termP fac)=.ok y' l'→ExprV w6 (Nx E v kvs w5.drew.heap.size) y' (.agg #[.int .u8 k6,.int .i64 a6,.string t6,.int .i64 m6,.slice p6 l6 c6]))→RelS E v kvs md d w q1 fac (then' (then' R fun _=>termP fac) (many (sumStep fac))) g0 (set5 (w6.alloc (.cells #[.int .u8 k1,.int .i64 a1,.string t1,.int .i64 m1,.slice p1 l1 c1,.int .u8 k6,.int .i64 a6,.string t6,.int .i64 m6,.slice p6 l6 c6] 317)) q1 (.int .u8 24) (.int .i64 a1) (.string ⟨#[]⟩) (.int .i64 0) (.slice (some ⟨w6.heap.size,0,none⟩) 2 2))):=lh (by
     intro k6 a6 t6 m6 p6 l6 c6 w6 ha6 hf6 hx6
     have hdr:w5.drew.heap.size=w5.heap.size:=rfl
     have hs6:w5.heap.size≤w6.heap.size:=hf6.size
     have hq0:w.heap.size<w5.heap.size:=M0.out.lt
     have hq1:q1<w5.heap.size:=M1.out.lt
     have e1:a1=(y.at':Int):=X5.out.at1
     refine ⟨then' (termP fac (List.drop (i+1) E.pts)) fun b=>Par.pure (bothA 24 y b),24,a1,⟨#[]⟩,0,some ⟨w6.heap.size,0,none⟩,2,2,lh ?_,lh ?_,lh ?_⟩
     · have h1:=HG.out
       simp only [left,List.length_cons] at h1
       have h2:=left_le HLT0.out (List.drop (i+1) E.pts) (bothA 24 y)
       omega
     · rw [← HQ.out,minus_more HLS.out HTX.out]
     · exact
        { at' := ((ha6.mapv (bothA 24 y)).alloc _).set5 M1.out.loc _ _ _ _ _
          fr:=(((F5.out.drewN 1).trans (hf6.mono (show w.heap.size≤w5.drew.heap.size by rw [hdr];omega))).alloc (by omega) _).set5 (by simp;omega) (q:=q1) hge.2.1 _ _ _ _ _
          L0:=(((Lcl.drew' M0.out).on0 hf6).alloc _).set5o hge.2.2.symm _ _ _ _ _
          L1:=(((Lcl.drew' M1.out).on0 hf6).alloc _).set5 _ _ _ _ _
          ge:=hge
          ex:=fun z l' ez=>by
           obtain ⟨b,eb,rfl⟩:=thenv_inv ez
           subst e1
           refine ExprV.node2q (P:=Nq E v kvs w.heap.size w.heap.size q1) (b:=w6.heap.size) (T := 317) ⟨⟨ha6.fresh,by omega⟩,by omega,by omega⟩ (by simp [size_set]) ?_ 24 y.at' none0 0 ((((X5.out.drewq 1).frq hf6 (Nat.le_refl _)).allocq _).setq5 (Or.inr rfl) _ _ _ _ _) ((((hx6 b l' eb).nq (by rw [hdr];omega) (by rw [hdr];omega) (by rw [hdr];omega)).allocq _).setq5 (Or.inr rfl) _ _ _ _ _)
           rw [heap_set5 (show q1≠w6.heap.size by omega)]
           exact heap_alloc_new _ _ })
    have HLT:Hid (g0<gk):=lh (by have:=HG.out;simp only [left,List.length_cons] at this;omega)
    refine wp_region_held_drew (S:=fun _=>True) (by kernel_rfl) trivial (fun hHeld=>?_)
    refine tk (i:=0) (v:=?_) rfl hHeld ?_ ?_
    rotate_left
    · (intro w hSw;(try dsimp only at hSw);go_simp;try with_reducible rfl)
    (try simp only [pn])
    refine tk (i:=1) (v:=?_) rfl hHeld ?_ ?_
    rotate_left
    · (intro w hSw;(try dsimp only at hSw);go_simp;try with_reducible rfl)
    (try simp only [pn])
    refine tk (i:=4) (v:=?_) rfl hHeld ?_ ?_
    rotate_left
    · (intro w hSw;(try dsimp only at hSw);go_simp;try with_reducible rfl)
    (try simp only [pn])
    repeat' (first
     |(with_reducible exact AllReadyH.nil)
     |(with_reducible show AllReadyH _ _ _ _ _ _ _ _ _ _;refine AllReadyH.cons rfl (fun K hK=>?_) ?_)
     |(with_reducible show wpAnyH _ _ _ _ _ _ _ _ _
       first
       |(refine tk (i:=7) (v:=?_) rfl hHeld ?_ ?_ (by kernel_rfl) (by decide +kernel) (by decide +kernel)
         rotate_left
         · (intro w hSw;(try dsimp only at hSw);go_simp;try with_reducible rfl)
         (try simp only [pn]))
       |refine wpAnyH_ready (rs:=[2,3,5]) (by decide +kernel) (by simp) ?_
       |refine wpAnyH_ready (rs:=[3,5]) (by decide +kernel) (by simp) ?_
       |refine wpAnyH_ready (rs:=[5]) (by decide +kernel) (by simp) ?_
       |refine wpAnyH_ready (rs:=[6]) (by decide +kernel) (by simp) ?_
       |refine wpAnyH_ready (rs:=[8]) (by decide +kernel) (by simp) ?_
       |refine wpAnyH_ready (rs:=[3]) (by decide +kernel) (by simp) ?_
       |refine wpAnyH_ready (rs:=[2,5]) (by decide +kernel) (by simp) ?_
       |refine wpAnyH_ready (rs:=[2,6]) (by decide +kernel) (by simp) ?_
       |refine wpAnyH_ready (rs:=[2]) (by decide +kernel) (by simp) ?_
       |refine wpAnyH_ready (rs:=[2,3]) (by decide +kernel) (by simp) ?_
       |(refine wpAnyH_done (by decide +kernel) ?_ _
         go_wp2_with fail
         go_roundg g0
         case rel=>exact HN.out
         case measure=>exact HLT.out))
     |(go_simp
       go_at_call 290
       (with_reducible refine C5.out.mono ?_)
       rintro x w6 ⟨ev,rfl,⟨k6,a6,t6,m6,p6,l6,c6,rfl⟩,ha6,hf6,hx6⟩
       have HN:=lh (LN.out k6 a6 t6 m6 p6 l6 c6 w6 ha6 hf6 hx6)
       have O1:=lh ((Lcl.drew' M1.out).on0 hf6)
       have x0:=O1.out.cell 0 rfl
       have x1:=O1.out.cell 1 rfl
       have x2:=O1.out.cell 2 rfl
       have x3:=O1.out.cell 3 rfl
       have x4:=O1.out.cell 4 rfl
       clear ha6 hf6 hx6
       go_simp
       refine hK.out _ _ trivial (fun hHeld=>?_)
       clear hK K
       (try simp only [pn]))
     |(rw [if_pos (by rfl)]
       refine wp_bs 315 2 #[(0,.tmp 25),(1,.tmp 27)] rfl #[(0,.agg #[.int .u8 k1,.int .i64 a1,.string t1,.int .i64 m1,.slice p1 l1 c1]),(1,.agg #[.int .u8 k6,.int .i64 a6,.string t6,.int .i64 m6,.slice p6 l6 c6])] (by simp [Act.eval,Act.put]) _ _ (bs_two _ _ _ _ _ _ _ _ _ _ _) ?_
       have O2:=lh (O1.out.alloc (.cells #[.int .u8 k1,.int .i64 a1,.string t1,.int .i64 m1,.slice p1 l1 c1,.int .u8 k6,.int .i64 a6,.string t6,.int .i64 m6,.slice p6 l6 c6] 317))
       generalize (w6.alloc (.cells #[.int .u8 k1,.int .i64 a1,.string t1,.int .i64 m1,.slice p1 l1 c1,.int .u8 k6,.int .i64 a6,.string t6,.int .i64 m6,.slice p6 l6 c6] 317))=w7 at *
       generalize w6.heap.size=q9 at *
       have y0:=O2.out.cell 0 rfl
       have y1:=O2.out.cell 1 rfl
       have y2:=O2.out.cell 2 rfl
       have y3:=O2.out.cell 3 rfl
       have y4:=O2.out.cell 4 rfl
       have yz:=O2.out.fz
       clear x0 x1 x2 x3 x4 O1 O2
       refine hK.out _ _ trivial (fun hHeld=>?_)
       clear hK K
       (try simp only [pn]))
     |(go_simp;refine hK.out _ _ trivial (fun hHeld=>?_);clear hK K;(try simp only [pn])))
   | false =>
    have hS:then' R1 (many (sumStep fac))=R1:=by
     cases R1 with
     | err p c=>rfl
     | ok y l =>
      obtain ⟨i,rfl,_⟩:=HL.out.at'.ok_of
      simp only [nxt,decide_eq_false_iff_not] at hy
      simp only [nxt,decide_eq_false_iff_not] at hy2
      exact sum_done hy hy2
    have HS:Hid (then' R (fun _=>exprP fac)=R1):=lh (by
     have h1:=HQ.out
     rw [hS] at h1
     rw [h1,HEQ.out]
     rfl)
    have N0:=lh (show Lcl E v kvs w.heap.size _ (wr.drewN (m+m2)) from ⟨HL.out.L0.loc,HL.out.L0.lt,HL.out.L0.obj⟩)
    have N1:=lh (show Lcl E v kvs q1 _ (wr.drewN (m+m2)) from ⟨HL.out.L1.loc,HL.out.L1.lt,HL.out.L1.obj⟩)
    have hge:=HL.out.ge
    have n10:q1≠w.heap.size:=hge.2.2.symm
    have n01:w.heap.size≠q1:=hge.2.2
    have hsw:w.heap.size≤(wr.drewN (m+m2)).heap.size:=HL.out.fr.size
    have ZA:=lh ((HL.out.at'.drewN (m+m2)).set5 N0.out.loc (.int .u8 k1) (.int .i64 a1) (.string t1) (.int .i64 m1) (.slice p1 l1 c1))
    have ZF:=lh ((HL.out.fr.drewN (m+m2)).set5 hsw (q:=w.heap.size) (Nat.le_refl _) (.int .u8 k1) (.int .i64 a1) (.string t1) (.int .i64 m1) (.slice p1 l1 c1))
    have ZL:=lh (N0.out.set5 (.int .u8 k1) (.int .i64 a1) (.string t1) (.int .i64 m1) (.slice p1 l1 c1))
    have ZX:=lh (fun y l' e=>(((HL.out.ex y l' e).drewq (m+m2)).setq5 (Or.inl rfl) (.int .u8 k1) (.int .i64 a1) (.string t1) (.int .i64 m1) (.slice p1 l1 c1)).unq)
    have m0:=N1.out.cell 0 rfl
    have m1':=N1.out.cell 1 rfl
    have mm2:=N1.out.cell 2 rfl
    have m3:=N1.out.cell 3 rfl
    have m4:=N1.out.cell 4 rfl
    have r0:=N0.out.cell 0 rfl
    have r1:=N0.out.cell 1 rfl
    have r2:=N0.out.cell 2 rfl
    have r3:=N0.out.cell 3 rfl
    have r4:=N0.out.cell 4 rfl
    have rz:=N0.out.fz
    rw [show (wr.drewN m).drewN m2=wr.drewN (m+m2) from by simp [World.drewN,Nat.add_assoc]]
    generalize wr.drewN (m+m2)=wd at *
    clear hy hy2 hS
    go_wp2_with fail
    generalize ((((wd.setCell ⟨w.heap.size,0,none⟩ (.int .u8 k1)).setCell ⟨w.heap.size,1,none⟩ (.int .i64 a1)).setCell ⟨w.heap.size,2,none⟩ (.string t1)).setCell ⟨w.heap.size,3,none⟩ (.int .i64 m1)).setCell ⟨w.heap.size,4,none⟩ (.slice p1 l1 c1)=Wz at *
    clear m0 m1' mm2 m3 m4 r0 r1 r2 r3 r4 rz
    have y0:=ZL.out.cell 0 rfl
    have y1:=ZL.out.cell 1 rfl
    have y2:=ZL.out.cell 2 rfl
    have y3:=ZL.out.cell 3 rfl
    have y4:=ZL.out.cell 4 rfl
    simp [bodyPost,results,Tryz.results282,go_sem,y0,y1,y2,y3,y4]
    rw [HS.out]
    exact ⟨_,rfl,⟨_,_,_,_,_,_,_,rfl⟩,ZA.out,ZF.out,ZX.out⟩
end
end Rf
end Go.Proofs.YthdioipfdbbmmaaGreatDoor
