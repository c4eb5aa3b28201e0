/- Contracts. -/
import Derived.Test.YthdioipfdbbmmaaGreatDoorHab
import Derived.Test.YthdioipfdbbmmaaGreatDoorHac
import Derived.Test.YthdioipfdbbmmaaGreatDoorHae
import Derived.Test.YthdioipfdbbmmaaGreatDoorProg
import Derived.WalkKit
import Derived.Handy
import Derived.Below
import Derived.Carry
import Derived.Deep.QuietTactic
import Derived.BigQuiet
import Derived.Deep.RegionHeld3
import Derived.MapKept
import Derived.Lib.Hide
import Derived.Lib.Bytes
import Derived.Laws.EntriesVeiled
import Derived.Deep.AppendLies
set_option linter.all false
set_option maxRecDepth 1000000
set_option maxHeartbeats 16000000
namespace Go.Proofs.YthdioipfdbbmmaaGreatDoor
namespace Tr
theorem rowsOf_getD (t:List Nd)(i:Nat):(rowsOf t).getD i []=kidsAt t i:=by
 unfold rowsOf kidsAt
 by_cases h:i<t.length
 · simp [List.getD,h]
 · simp [List.getD,List.getElem?_eq_none (Nat.le_of_not_lt h)]
   rfl
theorem rowsOf_fun (t:List Nd):(fun i=>(rowsOf t).getD i [])=kidsAt t:=funext (rowsOf_getD t)
theorem rowsOf_length (t:List Nd):(rowsOf t).length=t.length:=by simp [rowsOf]
structure SizesOk (t:List Nd)(s:List Nat):Prop where
 right:RightSz (kidsAt t) (fun i=>s.getD i 0) t.length
 len:s.length=t.length
 pos:0<t.length
 whole:s.getD 0 0=t.length
theorem sizesP_some {t:List Nd}{s:List Nat}(h:sizesP t=some s):SizesOk t s:=by
 unfold sizesP at h
 split at h
 · simp at h
 · rename_i s1 h1
   split at h
   · rename_i h2
     simp only [Option.some.injEq] at h
     subst h
     have hl:=sizesL_len _ _ _ h1
     rw [rowsOf_length] at hl
     have hr:=sizesL_right h1
     rw [rowsOf_fun,rowsOf_length] at hr
     exact ⟨hr,hl,by omega,by omega⟩
   · simp at h
theorem right_sizes {t:List Nd}(h:rightP t=true):∃s,sizesP t=some s∧kindAt t 0=1∧ruledP t=true:=by
 unfold rightP at h
 split at h
 · simp at h
 · rename_i s hs
   simp only [Bool.and_eq_true,beq_iff_eq] at h
   exact ⟨s,hs,h.1,h.2⟩
theorem chain_sum {S:Nat→Nat}{n:Nat}(ks:List Int)(a e:Nat)(h:Chain S n ks a e):a+(ks.map fun k=>S k.toNat).sum=e:=by
 induction ks generalizing a with
 | nil=>obtain rfl:a=e:=h;simp
 | cons k ks ih =>
  obtain ⟨p1,p2,p3⟩:=h
  have:=ih _ p3
  simp only [List.map_cons,List.sum_cons,p1,Int.toNat_natCast]
  omega
theorem RightSz.sum {K:Nat→List Int}{S:Nat→Nat}{n:Nat}(h:RightSz K S n){i:Nat}(hi:i<n):1+((K i).map fun k=>S k.toNat).sum=S i:=by
 have:=chain_sum _ _ _ (h.chain i hi)
 omega
end Tr
namespace Tr
open Go.RowKit
structure IV (W:World)(p:Option Addr)(len c:Nat)(xs:List Int):Prop where
 len_eq:xs.length=len
 cap:len≤c
 cell:0<len→∃b off,p=some ⟨b,off,none⟩∧b<W.heap.size∧∀i,i<len→W.cell? ⟨b,off+i,none⟩=some (.int .i64 (xs.getD i 0))
structure NC (W:World)(b o:Nat)(nd:Nd)(kp:Option Addr)(kl kc:Nat):Prop where
 kind:W.cell? ⟨b,o,none⟩=some (.int .u8 nd.kind)
 at':W.cell? ⟨b,o+1,none⟩=some (.int .i64 nd.at')
 text:W.cell? ⟨b,o+2,none⟩=some (.string nd.text)
 n:W.cell? ⟨b,o+3,none⟩=some (.int .i64 nd.n)
 kids:W.cell? ⟨b,o+4,none⟩=some (.slice kp kl kc)
 iv:IV W kp kl kc nd.kids
structure TV (W:World)(p:Option Addr)(len c:Nat)(ns:List Nd):Prop where
 len_eq:ns.length=len
 cap:len≤c
 node:0<len→∃b off,p=some ⟨b,off,none⟩∧b<W.heap.size∧∀i,i<len→∃kp kl kc,NC W b (off+i*5) (ns.getD i default) kp kl kc
theorem IV.on {W W':World}{p:Option Addr}{len c:Nat}{xs:List Int}(h:IV W p len c xs)(hb:Below W.heap.size W W'):IV W' p len c xs where
 len_eq:=h.len_eq
 cap:=h.cap
 cell:=fun hl=>by
  obtain ⟨b,off,e,hlt,hc⟩:=h.cell hl
  exact ⟨b,off,e,Nat.lt_of_lt_of_le hlt hb.size,fun i hi=>by rw [hb.cell (p:=⟨b,off+i,none⟩) hlt];exact hc i hi⟩
theorem NC.on {W W':World}{b o:Nat}{nd:Nd}{kp:Option Addr}{kl kc:Nat}(h:NC W b o nd kp kl kc)(hlt:b<W.heap.size)(hb:Below W.heap.size W W'):NC W' b o nd kp kl kc where
 kind:=by rw [hb.cell (p:=⟨b,o,none⟩) hlt];exact h.kind
 at':=by rw [hb.cell (p:=⟨b,o+1,none⟩) hlt];exact h.at'
 text:=by rw [hb.cell (p:=⟨b,o+2,none⟩) hlt];exact h.text
 n:=by rw [hb.cell (p:=⟨b,o+3,none⟩) hlt];exact h.n
 kids:=by rw [hb.cell (p:=⟨b,o+4,none⟩) hlt];exact h.kids
 iv:=h.iv.on hb
theorem TV.on {W W':World}{p:Option Addr}{len c:Nat}{ns:List Nd}(h:TV W p len c ns)(hb:Below W.heap.size W W'):TV W' p len c ns where
 len_eq:=h.len_eq
 cap:=h.cap
 node:=fun hl=>by
  obtain ⟨b,off,e,hlt,hc⟩:=h.node hl
  refine ⟨b,off,e,Nat.lt_of_lt_of_le hlt hb.size,fun i hi=>?_⟩
  obtain ⟨kp,kl,kc,hn⟩:=hc i hi
  exact ⟨kp,kl,kc,hn.on hlt hb⟩
theorem one_below (w:World)(o:Obj):Below w.heap.size w (w.alloc o):=(Below.refl _ _).alloc (Nat.le_refl _) _
theorem all_take {α:Type}[Inhabited α](p:α→Bool)(l:List α)(k:Nat)(h:k<l.length):(l.take (k+1)).all p=((l.take k).all p&&p (l.getD k default)):=by
 rw [List.take_succ_eq_append_getElem h,List.all_append]
 simp [List.getD,h]
theorem all_no {α:Type}[Inhabited α](p:α→Bool)(l:List α)(k:Nat)(h:k<l.length)(hk:p (l.getD k default)=false):l.all p=false:=by
 rw [List.all_eq_false]
 exact ⟨l.getD k default,by simp [List.getD,h],by rw [hk];simp⟩
end Tr
namespace Rf
open Go.RowKit Par
theorem sameInts_at (w:World)(p p2:Option Addr)(len c c2:Nat)(xs:List Int)(h:Tr.IV w p len c xs)(h2:Tr.IV w p2 len c2 xs)(hl:len≤70000) :
 Calls Tryz.prog 43 #[.slice p len c,.slice p2 len c2] w fun e w'=>e=.returned (.bool true)∧Below w.heap.size w w':=by
 have H:=lh h
 have H2:=lh h2
 clear h h2
 go_enter Tryz.func43,Tryz.ntmps43
 go_wp2_with fail
 go_loopw [5] (fun iv wr=>∃k:Nat,k≤len∧iv=.int .i64 k∧Hid (Below w.heap.size w wr)) (fun iv _=>len-(intOf iv).toNat)
 case atStart=>exact ⟨0,by omega,rfl,lh (Below.refl _ _)⟩
 case round =>
  obtain ⟨k,hk,rfl,HB⟩:=hrel
  by_cases hlt:k<len
  · obtain ⟨b,off,rfl,_,hc⟩:=(H.out.on HB.out).cell (by omega)
    obtain ⟨b2,off2,rfl,_,hc2⟩:=(H2.out.on HB.out).cell (by omega)
    have k0:=hc k hlt
    have u0:=hc2 k hlt
    generalize xs.getD k 0=x at *
    clear hc hc2
    have hk0:(0:Int)≤(k:Int):=by omega
    have hk1:(k:Int)<(len:Int):=by omega
    go_wp2_with fail
    go_quiet (fail)
    have HB2:=lh (HB.out.trans (Tr.drewN_below _ wr nq))
    clear k0 u0
    go_wp2
    go_roundw
    case rel=>exact ⟨k+1,by omega,by go_num,HB2⟩
    case measure=>simp [intOf];omega
  · go_wp2
    go_ret
    exact ⟨rfl,HB.out⟩
theorem sameTree_at (W:World)(p1 p2:Option Addr)(n c1 c2:Nat)(ns:List Nd)(h1:Tr.TV W p1 n c1 ns)(h2:Tr.TV W p2 n c2 ns)(hn:n≤70000)(hk:∀nd∈ns,nd.kids.length≤70000) :
 Calls Tryz.prog 51 #[.agg #[.slice p1 n c1],.slice p2 n c2] W fun e w'=>e=.returned (.bool true)∧Below W.heap.size W w':=by
 have H1:=lh h1
 have H2:=lh h2
 have HK:=lh hk
 have HA:=lh h1.len_eq
 clear h1 h2 hk
 go_enter Tryz.func51,Tryz.ntmps51
 go_wp2_with fail
 obtain ⟨W0,hW0⟩:∃W0,W.alloc (.cells #[.slice p1 n c1] 39)=W0:=⟨_,rfl⟩
 have hb0:Below W.heap.size W W0:=by rw [← hW0];exact (Below.refl _ _).alloc (Nat.le_refl _) _
 have BX:Hid (W.heap.size<W0.heap.size∧W0.cell? ⟨W.heap.size,0,none⟩=some (.slice p1 n c1)):=lh (by rw [← hW0];exact ⟨by simp,by rw [cell_of_row _ _ _ _ _ _ (heap_alloc_new W _)];rfl⟩)
 have B0:=lh hb0
 rw [hW0]
 clear hW0 hb0
 go_loopw [5] (fun iv wr=>∃k:Nat,k≤n∧iv=.int .i64 k∧Hid (Below W0.heap.size W0 wr)) (fun iv _=>n-(intOf iv).toNat)
 case atStart=>exact ⟨0,by omega,rfl,lh (Below.refl _ _)⟩
 case round =>
  obtain ⟨k,hk,rfl,HB⟩:=hrel
  have hbw:Below W.heap.size W wr:=B0.out.trans (HB.out.mono B0.out.size)
  by_cases hlt:k<n
  · obtain ⟨b,off,rfl,hbl,hc⟩:=(H1.out.on hbw).node (by omega)
    obtain ⟨b2,off2,rfl,hbl2,hc2⟩:=(H2.out.on hbw).node (by omega)
    obtain ⟨kp,kl,kc,hn1⟩:=hc k hlt
    obtain ⟨kp2,kl2,kc2,hn2⟩:=hc2 k hlt
    obtain rfl:kl2=kl:=by rw [← hn1.iv.len_eq,← hn2.iv.len_eq]
    have hkl:kl2≤70000:=by
     rw [← hn1.iv.len_eq]
     exact HK.out _ (by have:=HA.out;simp [List.getD,show k<ns.length by omega])
    generalize ns.getD k default=nd at *
    have kx:=(HB.out.cell (p:=⟨W.heap.size,0,none⟩) BX.out.1).trans BX.out.2
    have k0:=hn1.kind
    have k1:=hn1.at'
    have k2:=hn1.text
    have k3:=hn1.n
    have k4:=hn1.kids
    have m0:=hn2.kind
    have m1:=hn2.at'
    have m2:=hn2.text
    have m3:=hn2.n
    have m4:=hn2.kids
    have V1:=lh hn1.iv
    have V2:=lh hn2.iv
    have hk0:(0:Int)≤(k:Int):=by omega
    have hk1:(k:Int)<(n:Int):=by omega
    clear hc hc2 hn1 hn2 hbw
    go_wp2_with fail
    obtain ⟨W1,hW1⟩:∃W1,wr.alloc (.cells #[.int .u8 nd.kind,.int .i64 nd.at',.string nd.text,.int .i64 nd.n,.slice kp kl2 kc] 54)=W1:=⟨_,rfl⟩
    obtain ⟨q,hq⟩:∃q,wr.heap.size=q:=⟨_,rfl⟩
    have hrow:W1.heap[q]?=some (.cells #[.int .u8 nd.kind,.int .i64 nd.at',.string nd.text,.int .i64 nd.n,.slice kp kl2 kc] 54 (0,0)):=by rw [← hW1,← hq];exact heap_alloc_new wr _
    have hB1:Below wr.heap.size wr W1:=by rw [← hW1];exact (Below.refl _ _).alloc (Nat.le_refl _) _
    have hq1:q<W1.heap.size:=(Array.getElem?_eq_some_iff.1 hrow).1
    have f0:W1.cell? ⟨q,0,none⟩=some (.int .u8 nd.kind):=by rw [cell_of_row _ _ _ _ _ _ hrow];rfl
    have f1:W1.cell? ⟨q,1,none⟩=some (.int .i64 nd.at'):=by rw [cell_of_row _ _ _ _ _ _ hrow];rfl
    have f2:W1.cell? ⟨q,2,none⟩=some (.string nd.text):=by rw [cell_of_row _ _ _ _ _ _ hrow];rfl
    have f3:W1.cell? ⟨q,3,none⟩=some (.int .i64 nd.n):=by rw [cell_of_row _ _ _ _ _ _ hrow];rfl
    have f4:W1.cell? ⟨q,4,none⟩=some (.slice kp kl2 kc):=by rw [cell_of_row _ _ _ _ _ _ hrow];rfl
    have g0:=(hB1.cell (p:=⟨b2,off2+k*5,none⟩) hbl2).trans m0
    have g1:=(hB1.cell (p:=⟨b2,off2+k*5+1,none⟩) hbl2).trans m1
    have g2:=(hB1.cell (p:=⟨b2,off2+k*5+2,none⟩) hbl2).trans m2
    have g3:=(hB1.cell (p:=⟨b2,off2+k*5+3,none⟩) hbl2).trans m3
    have g4:=(hB1.cell (p:=⟨b2,off2+k*5+4,none⟩) hbl2).trans m4
    have hb2:b2<W1.heap.size:=Nat.lt_of_lt_of_le hbl2 hB1.size
    have SI:Hid (∀W',Below W1.heap.size W1 W'→Calls Tryz.prog 43 #[.slice kp kl2 kc,.slice kp2 kl2 kc2] W' fun e W''=>e=.returned (.bool true) ∧
     W''.cell? ⟨q,0,none⟩=some (.int .u8 nd.kind)∧W''.cell? ⟨q,1,none⟩=some (.int .i64 nd.at')∧W''.cell? ⟨q,2,none⟩=some (.string nd.text)∧W''.cell? ⟨q,3,none⟩=some (.int .i64 nd.n)∧W''.cell? ⟨q,4,none⟩=some (.slice kp kl2 kc) ∧
     W''.cell? ⟨b2,off2+k*5,none⟩=some (.int .u8 nd.kind)∧W''.cell? ⟨b2,off2+k*5+1,none⟩=some (.int .i64 nd.at')∧W''.cell? ⟨b2,off2+k*5+2,none⟩=some (.string nd.text)∧W''.cell? ⟨b2,off2+k*5+3,none⟩=some (.int .i64 nd.n)∧W''.cell? ⟨b2,off2+k*5+4,none⟩=some (.slice kp2 kl2 kc2)∧Below W1.heap.size W1 W''):=lh fun W' hb =>
     (sameInts_at W' kp kp2 kl2 kc kc2 nd.kids (V1.out.on (hB1.trans (hb.mono hB1.size))) (V2.out.on (hB1.trans (hb.mono hB1.size))) hkl).mono fun e W'' ⟨h, hbb⟩ => by
      have hb':Below W1.heap.size W1 W'':=hb.trans (hbb.mono hb.size)
      exact ⟨h,(hb'.cell (p:=⟨q,0,none⟩) hq1).trans f0,(hb'.cell (p:=⟨q,1,none⟩) hq1).trans f1,(hb'.cell (p:=⟨q,2,none⟩) hq1).trans f2,(hb'.cell (p:=⟨q,3,none⟩) hq1).trans f3,(hb'.cell (p:=⟨q,4,none⟩) hq1).trans f4,
       (hb'.cell (p:=⟨b2,off2+k*5,none⟩) hb2).trans g0,(hb'.cell (p:=⟨b2,off2+k*5+1,none⟩) hb2).trans g1,(hb'.cell (p:=⟨b2,off2+k*5+2,none⟩) hb2).trans g2,(hb'.cell (p:=⟨b2,off2+k*5+3,none⟩) hb2).trans g3,(hb'.cell (p:=⟨b2,off2+k*5+4,none⟩) hb2).trans g4,hb'⟩
    have hbd:Below W1.heap.size W1 W1.drew:=(Below.refl _ _).drew
    have HB3:Hid (Below W0.heap.size W0 W1):=lh (HB.out.trans (hB1.mono HB.out.size))
    rw [hW1,hq]
    clear kx k0 k1 k2 k3 k4 m0 m1 m2 m3 m4 hW1 hq hrow hB1 hbl hbl2 HB V1 V2
    go_region_held3 (fun w'=>w'.cell? ⟨q,0,none⟩=some (.int .u8 nd.kind)∧w'.cell? ⟨q,1,none⟩=some (.int .i64 nd.at')∧w'.cell? ⟨q,2,none⟩=some (.string nd.text)∧w'.cell? ⟨q,3,none⟩=some (.int .i64 nd.n)∧w'.cell? ⟨q,4,none⟩=some (.slice kp kl2 kc) ∧
     w'.cell? ⟨b2,off2+k*5,none⟩=some (.int .u8 nd.kind)∧w'.cell? ⟨b2,off2+k*5+1,none⟩=some (.int .i64 nd.at')∧w'.cell? ⟨b2,off2+k*5+2,none⟩=some (.string nd.text)∧w'.cell? ⟨b2,off2+k*5+3,none⟩=some (.int .i64 nd.n)∧w'.cell? ⟨b2,off2+k*5+4,none⟩=some (.slice kp2 kl2 kc2)∧Below W1.heap.size W1 w') (go_keep)
     (first
      | (go_at_call 43;(with_reducible refine (SI.out _ ?_).mono ?_);(first|assumption|exact hbd);rintro e w' ⟨rfl,q0,q1,q2,q3,q4,q5,q6,q7,q8,q9,q10⟩))
    go_wp2_with fail
    go_roundw
    case rel=>exact ⟨k+1,by omega,by first|rfl|go_num,lh (HB3.out.trans (q10.mono HB3.out.size))⟩
    case measure=>simp [intOf];omega
  · go_wp2
    go_ret
    exact ⟨rfl,B0.out.trans (HB.out.mono B0.out.size)⟩
end Rf
namespace Tr
open Go.RowKit Go.MapKept
theorem insert_new (w:World)(es:Array MapEntry)(n:Nat)(k:Int)(v:Value)(h:Instr.findNow (.int .u8) (.int .u8 k) es.toList 0=some none) :
 (Instr.mapUpdate 150 (.map (some w.heap.size)) (.int .u8 k) v).run Tryz.prog (w.alloc (.map es n))=.ok () (w.alloc (.map (es.push { key:=.int .u8 k,val:=v,born:=n }) (n+1))):=by
 have hb:(w.alloc (.map es n)).heap[w.heap.size]?=some (.map es n):=by
  show (w.heap.push (.map es n))[w.heap.size]?=_
  simp
 have hk:(Instr.checkKey false 10000 147 (.int .u8 k)).run Tryz.prog (w.alloc (.map es n))=.ok () (w.alloc (.map es n)):=run_checkKey Tryz.underlying147 (by simp [IsKey]) false 9999
 have hp:∀(a:Array Obj) (x y:Obj),(a.push x).setIfInBounds a.size y=a.push y:=fun a x y=>by
  apply Array.ext_getElem?
  intro i
  by_cases h:i=a.size
  · subst h;simp
  · have h':¬ a.size=i:=fun e=>h e.symm
    simp [Array.getElem?_push,h,h']
 have hw:∀o:Obj,({ w.alloc (.map es n) with heap:=(w.alloc (.map es n)).heap.setIfInBounds w.heap.size o }:World)=w.alloc o:=fun o=>by
  show ({ w with heap:=(w.heap.push (.map es n)).setIfInBounds w.heap.size o }:World)=_
  rw [hp]
  rfl
 simp only [Instr.mapUpdate,Sem.run_bind,run_underlying Tryz.underlying150,Result.andThen,Go.MapKept.run_getObj_map hb,hk,run_findKey (P:=Tryz.prog) Tryz.underlying147 h,run_setObj_map _ hb,hw]
theorem lookup_at (W:World)(r:Nat)(es:Array MapEntry)(n i:Nat)(k:Int)(v:Value)(hb:W.heap[r]?=some (.map es n))(h:Instr.findNow (.int .u8) (.int .u8 k) es.toList 0=some (some (i,v))) :
 (Instr.lookup 150 (.map (some r)) (.int .u8 k) false).run Tryz.prog W=.ok v W:=by
 have hk:∀b,(Instr.checkKey b 10000 147 (.int .u8 k)).run Tryz.prog W=.ok () W:=fun b=>run_checkKey Tryz.underlying147 (by simp [IsKey]) b 9999
 simp only [Instr.lookup,Sem.run_bind,run_underlying Tryz.underlying150,Result.andThen,Go.MapKept.run_getObj_map hb,hk,run_findKey (P:=Tryz.prog) Tryz.underlying147 h,Sem.run_pure]
 simp
def mem (k:Int):ByteArray :=
 if k=1 then ⟨#[32,9,10,13]⟩ else if k=2 then ⟨#[35]⟩
 else if k=3 then ⟨#[97,98,99,100,101,102,103,104,105,106,107,108,109,110,111,112,113,114,115,116,117,118,119,120,121,122]⟩
 else if k=4 then ⟨#[48,49,50,51,52,53,54,55,56,57]⟩ else if k=5 then ⟨#[95]⟩
 else ⟨#[123,125,40,41,91,93,59,44,46,43,45,42,60,61]⟩
def ent (k:Int)(b:Nat):MapEntry:={ key:=.int .u8 k,val:=.agg #[.string (mem k)],born:=b }
def ES:Array MapEntry:=#[ent 1 0,ent 2 1,ent 3 2,ent 4 3,ent 5 4,ent 6 5]
theorem find_es (k:Int)(h1:1≤k)(h6:k≤6):∃i,Instr.findNow (.int .u8) (.int .u8 k) ES.toList 0=some (some (i,.agg #[.string (mem k)])):=by
 obtain rfl|rfl|rfl|rfl|rfl|rfl:k=1∨k=2∨k=3∨k=4∨k=5∨k=6:=by omega
 all_goals exact ⟨_,rfl⟩
def paint (s:ByteArray)(k:Int)(j:Nat)(F:Nat→Int):Nat→Int:=fun x=>if ((s.data.toList.take j).map UInt8.toNat).contains x then k else F x
theorem paint_zero (s:ByteArray)(k:Int)(F:Nat→Int):paint s k 0 F=F:=by funext x;simp [paint]
theorem paint_succ (s:ByteArray)(k:Int)(j:Nat)(F:Nat→Int)(h:j<s.size):paint s k (j+1) F=fun x=>if x=s[j].toNat then k else paint s k j F x:=by
 have hj:j<s.data.toList.length:=by simpa using h
 funext x
 have e:s.data.toList.take (j+1)=s.data.toList.take j++[s[j]]:=by
  rw [List.take_succ_eq_append_getElem hj]
  rfl
 simp only [paint,e,List.map_append,List.map_cons,List.map_nil,List.contains_append,List.contains_cons,List.contains_nil,Bool.or_false]
 by_cases h1:x=s[j].toNat
 · simp [h1]
 · simp [h1]
def FK:Nat→Nat→Int
 | 0=>fun _=>0
 | k+1=>paint (mem (k+1:Nat)) (k+1:Nat) (mem (k+1:Nat)).size (FK k)
theorem FK_kind:∀c:Nat,c<256→FK 6 c=kindF c:=by decide +kernel
theorem zero82 (w:World):(zeroValue 151).run Tryz.prog w=.ok (.agg (Array.replicate 256 (.int .u8 0))) w:=by kernel_rfl
structure KW (w W:World)(F:Nat→Int):Prop where
 below:Below w.heap.size w W
 map:W.heap[w.heap.size]?=some (.map ES 6)
 arr:∀c:Nat,c<256→W.cell? ⟨w.heap.size+1,c,none⟩=some (.int .u8 (F c))
 free:∀c:Nat,W.frozen? ⟨w.heap.size+1,c,none⟩=false
 size:w.heap.size+1<W.heap.size
theorem KW.store {w W:World}{F:Nat→Int}(h:KW w W F)(c:Nat)(hc:c<256)(k:Int):KW w (W.setCell ⟨w.heap.size+1,c,none⟩ (.int .u8 k)) (fun x=>if x=c then k else F x) where
 below:=h.below.setCell (by simp) _
 map:=by rw [Below.heap_setCell _ _ _ _ (by simp)];exact h.map
 arr:=fun x hx=>by
  by_cases e:x=c
  · subst e
    have:=h.arr x hx
    rw [World.cell?_setCell_same _ _ _ this];simp
  · rw [World.cell?_setCell_other _ _ _ _ (by simp)]
    simp [e,h.arr x hx]
 free:=fun x=>by simp [h.free x]
 size:=by simpa [World.setCell] using h.size
theorem byteKinds_run (w:World):Calls Tryz.prog 47 #[] w fun e w'=>e=.returned (.func (.func 87) #[] #[.pointer (some ⟨w.heap.size+1,0,none⟩)])∧KW w w' (FK 6):=by
 have hmm:=@run_makeMap Tryz.prog
 obtain ⟨Z,hZ⟩:∃Z,Z=Array.replicate 256 (Value.int .u8 0):=⟨_,rfl⟩
 have z0:∀w,(zeroValue 151).run Tryz.prog w=.ok (.agg Z) w:=fun w=>by rw [hZ];exact zero82 w
 have z1:¬ Z=#[]:=by rw [hZ];simp
 have HZ:=lh hZ
 clear hZ
 have i1:(Instr.mapUpdate 150 (.map (some w.heap.size)) (.int .u8 1) (.agg #[.string ⟨#[32,9,10,13]⟩])).run Tryz.prog (w.alloc (.map #[] 0))=.ok () (w.alloc (.map #[{ key:=.int .u8 1,val:=.agg #[.string ⟨#[32,9,10,13]⟩],born:=0 }] 1)):=insert_new w #[] 0 1 _ rfl
 have i2:(Instr.mapUpdate 150 (.map (some w.heap.size)) (.int .u8 2) (.agg #[.string ⟨#[35]⟩])).run Tryz.prog (w.alloc (.map #[{ key:=.int .u8 1,val:=.agg #[.string ⟨#[32,9,10,13]⟩],born:=0 }] 1))=.ok () (w.alloc (.map #[{ key:=.int .u8 1,val:=.agg #[.string ⟨#[32,9,10,13]⟩],born:=0 },{ key:=.int .u8 2,val:=.agg #[.string ⟨#[35]⟩],born:=1 }] 2)):=insert_new w #[ent 1 0] 1 2 _ rfl
 have i3:(Instr.mapUpdate 150 (.map (some w.heap.size)) (.int .u8 3) (.agg #[.string ⟨#[97,98,99,100,101,102,103,104,105,106,107,108,109,110,111,112,113,114,115,116,117,118,119,120,121,122]⟩])).run Tryz.prog (w.alloc (.map #[{ key:=.int .u8 1,val:=.agg #[.string ⟨#[32,9,10,13]⟩],born:=0 },{ key:=.int .u8 2,val:=.agg #[.string ⟨#[35]⟩],born:=1 }] 2))=.ok () (w.alloc (.map #[{ key:=.int .u8 1,val:=.agg #[.string ⟨#[32,9,10,13]⟩],born:=0 },{ key:=.int .u8 2,val:=.agg #[.string ⟨#[35]⟩],born:=1 },{ key:=.int .u8 3,val:=.agg #[.string ⟨#[97,98,99,100,101,102,103,104,105,106,107,108,109,110,111,112,113,114,115,116,117,118,119,120,121,122]⟩],born:=2 }] 3)):=insert_new w #[ent 1 0,ent 2 1] 2 3 _ rfl
 have i4:(Instr.mapUpdate 150 (.map (some w.heap.size)) (.int .u8 4) (.agg #[.string ⟨#[48,49,50,51,52,53,54,55,56,57]⟩])).run Tryz.prog (w.alloc (.map #[{ key:=.int .u8 1,val:=.agg #[.string ⟨#[32,9,10,13]⟩],born:=0 },{ key:=.int .u8 2,val:=.agg #[.string ⟨#[35]⟩],born:=1 },{ key:=.int .u8 3,val:=.agg #[.string ⟨#[97,98,99,100,101,102,103,104,105,106,107,108,109,110,111,112,113,114,115,116,117,118,119,120,121,122]⟩],born:=2 }] 3))=.ok () (w.alloc (.map #[{ key:=.int .u8 1,val:=.agg #[.string ⟨#[32,9,10,13]⟩],born:=0 },{ key:=.int .u8 2,val:=.agg #[.string ⟨#[35]⟩],born:=1 },{ key:=.int .u8 3,val:=.agg #[.string ⟨#[97,98,99,100,101,102,103,104,105,106,107,108,109,110,111,112,113,114,115,116,117,118,119,120,121,122]⟩],born:=2 },{ key:=.int .u8 4,val:=.agg #[.string ⟨#[48,49,50,51,52,53,54,55,56,57]⟩],born:=3 }] 4)):=insert_new w #[ent 1 0,ent 2 1,ent 3 2] 3 4 _ rfl
 have i5:(Instr.mapUpdate 150 (.map (some w.heap.size)) (.int .u8 5) (.agg #[.string ⟨#[95]⟩])).run Tryz.prog (w.alloc (.map #[{ key:=.int .u8 1,val:=.agg #[.string ⟨#[32,9,10,13]⟩],born:=0 },{ key:=.int .u8 2,val:=.agg #[.string ⟨#[35]⟩],born:=1 },{ key:=.int .u8 3,val:=.agg #[.string ⟨#[97,98,99,100,101,102,103,104,105,106,107,108,109,110,111,112,113,114,115,116,117,118,119,120,121,122]⟩],born:=2 },{ key:=.int .u8 4,val:=.agg #[.string ⟨#[48,49,50,51,52,53,54,55,56,57]⟩],born:=3 }] 4))=.ok () (w.alloc (.map #[{ key:=.int .u8 1,val:=.agg #[.string ⟨#[32,9,10,13]⟩],born:=0 },{ key:=.int .u8 2,val:=.agg #[.string ⟨#[35]⟩],born:=1 },{ key:=.int .u8 3,val:=.agg #[.string ⟨#[97,98,99,100,101,102,103,104,105,106,107,108,109,110,111,112,113,114,115,116,117,118,119,120,121,122]⟩],born:=2 },{ key:=.int .u8 4,val:=.agg #[.string ⟨#[48,49,50,51,52,53,54,55,56,57]⟩],born:=3 },{ key:=.int .u8 5,val:=.agg #[.string ⟨#[95]⟩],born:=4 }] 5)):=insert_new w #[ent 1 0,ent 2 1,ent 3 2,ent 4 3] 4 5 _ rfl
 have i6:(Instr.mapUpdate 150 (.map (some w.heap.size)) (.int .u8 6) (.agg #[.string ⟨#[123,125,40,41,91,93,59,44,46,43,45,42,60,61]⟩])).run Tryz.prog (w.alloc (.map #[{ key:=.int .u8 1,val:=.agg #[.string ⟨#[32,9,10,13]⟩],born:=0 },{ key:=.int .u8 2,val:=.agg #[.string ⟨#[35]⟩],born:=1 },{ key:=.int .u8 3,val:=.agg #[.string ⟨#[97,98,99,100,101,102,103,104,105,106,107,108,109,110,111,112,113,114,115,116,117,118,119,120,121,122]⟩],born:=2 },{ key:=.int .u8 4,val:=.agg #[.string ⟨#[48,49,50,51,52,53,54,55,56,57]⟩],born:=3 },{ key:=.int .u8 5,val:=.agg #[.string ⟨#[95]⟩],born:=4 }] 5))=.ok () (w.alloc (.map #[{ key:=.int .u8 1,val:=.agg #[.string ⟨#[32,9,10,13]⟩],born:=0 },{ key:=.int .u8 2,val:=.agg #[.string ⟨#[35]⟩],born:=1 },{ key:=.int .u8 3,val:=.agg #[.string ⟨#[97,98,99,100,101,102,103,104,105,106,107,108,109,110,111,112,113,114,115,116,117,118,119,120,121,122]⟩],born:=2 },{ key:=.int .u8 4,val:=.agg #[.string ⟨#[48,49,50,51,52,53,54,55,56,57]⟩],born:=3 },{ key:=.int .u8 5,val:=.agg #[.string ⟨#[95]⟩],born:=4 },{ key:=.int .u8 6,val:=.agg #[.string ⟨#[123,125,40,41,91,93,59,44,46,43,45,42,60,61]⟩],born:=5 }] 6)):=insert_new w #[ent 1 0,ent 2 1,ent 3 2,ent 4 3,ent 5 4] 5 6 _ rfl
 go_enter Tryz.func47,Tryz.ntmps47
 go_wp2_with fail
 have K0:KW w ((w.alloc (.map ES 6)).alloc (.cells Z 151)) (FK 0) :=
  { below := ((Below.refl _ _).alloc (Nat.le_refl _) _).alloc (by simp) _
    map:=by
     show ((w.heap.push (.map ES 6)).push _)[w.heap.size]?=_
     rw [Array.getElem?_push_lt (by simp)]
     simp
    arr:=fun c hc=>by
     have:Z[c]?=some (.int .u8 0):=by rw [HZ.out];simp [hc]
     simp [FK,this]
    free:=fun c=>by simp
    size:=by simp }
 clear i1 i2 i3 i4 i5 i6 hmm z0 z1
 go_loopw [3] (fun kv wr=>∃k:Nat,1≤k∧k≤7∧kv=.int .u8 k∧KW w wr (FK (k-1))) (fun kv _=>8-(intOf kv).toNat)
 case atStart=>exact ⟨1,by omega,by omega,rfl,K0⟩
 case round =>
  obtain ⟨k,h1,h7,rfl,hK⟩:=hrel
  clear K0
  by_cases hk:k=7
  · subst hk
    have HK:=lh hK
    clear hK
    go_wp2
    go_ret
    exact ⟨rfl,HK.out⟩
  · have hk6:k≤6:=by omega
    obtain ⟨ix,hfd⟩:=find_es (k:Int) (by omega) (by omega)
    have hlk:=lookup_at wr w.heap.size ES 6 ix k _ hK.map hfd
    clear hfd
    have hsz:(mem (k:Int)).size≤26:=by
     obtain rfl|rfl|rfl|rfl|rfl|rfl:k=1∨k=2∨k=3∨k=4∨k=5∨k=6:=by omega
     all_goals decide
    obtain ⟨s,hs⟩:∃s,s=mem (k:Int):=⟨_,rfl⟩
    rw [← hs] at hlk hsz
    have HS:=lh hs
    have HK:=lh hK
    clear hs hK
    have hfl:∀W:World,(Instr.field 149 (.agg #[.string s]) 0).run Tryz.prog W=.ok (.string s) W:=fun _=>by kernel_rfl
    go_wp2_with fail
    clear hlk
    go_loopw [24] (fun iv wr'=>∃j:Nat,j≤s.size∧iv=.int .i64 j∧KW w wr' (paint s k j (FK (k-1)))) (fun iv _=>s.size-(intOf iv).toNat)
    case atStart=>exact ⟨0,by omega,rfl,by rw [paint_zero];exact HK.out⟩
    case round =>
     obtain ⟨j,hj,rfl,hJ⟩:=hrel
     by_cases hjs:j<s.size
     · have hb:s[j].toNat<256:=UInt8.toNat_lt _
       have hc:=hJ.arr s[j].toNat hb
       have hf:=hJ.free s[j].toNat
       have HJ:=lh hJ
       clear hJ
       go_wp2
       go_roundw
       case rel=>exact ⟨j+1,by omega,by go_num,by rw [paint_succ _ _ _ _ hjs];exact HJ.out.store _ hb _⟩
       case measure=>simp [intOf];omega
     · have HJ:=lh hJ
       clear hJ
       go_wp2
       go_roundw
       case rel=>exact ⟨k+1,by omega,by omega,by go_num,by
        have e:j=s.size:=by omega
        have:=HJ.out
        rw [e,HS.out] at this
        obtain ⟨m,rfl⟩:∃m,k=m+1:=⟨k-1,by omega⟩
        exact this⟩
       case measure=>simp [intOf];omega
end Tr
namespace Tr
open Go.RowKit
theorem kind_at (W:World)(kb m:Nat)(hm:m<256)(hk:W.cell? ⟨kb,m,none⟩=some (.int .u8 (kindF m))) :
 Calls Tryz.prog 87 #[.int .u8 m,.pointer (some ⟨kb,0,none⟩)] W fun e w'=>e=.returned (.int .u8 (kindF m))∧w'=W:=by
 generalize kindF m=k at *
 go_enter Tryz.func87,Tryz.ntmps87
 go_wp2
 go_ret
 exact ⟨rfl,rfl⟩
theorem inName_at (W:World)(k:Int) :
 Calls Tryz.prog 154 #[.int .u8 k] W fun e w'=>e=.returned (.bool (k==3||k==4||k==5))∧w'=W:=by
 go_enter Tryz.func154,Tryz.ntmps154
 go_wp2
 all_goals (go_ret;simp_all)
theorem kind_name (c:Int):(kindF c==3||kindF c==4||kindF c==5)=isNameB c:=by
 unfold kindF
 by_cases h1:isBlank c=true
 · have:c=32∨c=9∨c=10∨c=13:=by simpa [isBlank,or_assoc] using h1
   rcases this with rfl|rfl|rfl|rfl<;>decide
 · by_cases h2:c=35
   · subst h2;decide
   · by_cases h3:isLetter c=true
     · simp [h1,h2,h3,isNameB]
     · by_cases h4:isDigit c=true
       · simp [h1,h2,h3,h4,isNameB]
       · by_cases h5:c=95
         · subst h5;decide
         · by_cases h6:isMark c=true
           · simp [h1,h2,h3,h4,h5,h6,isNameB]
           · simp [h1,h2,h3,h4,h5,h6,isNameB]
theorem kind_letter (c:Int):(kindF c==3)=isLetter c:=by
 unfold kindF
 by_cases h1:isBlank c=true
 · have:c=32∨c=9∨c=10∨c=13:=by simpa [isBlank,or_assoc] using h1
   rcases this with rfl|rfl|rfl|rfl<;>decide
 · by_cases h2:c=35
   · subst h2;decide
   · by_cases h3:isLetter c=true
     · simp [h1,h2,h3]
     · simp only [h1,h2,h3]
       repeat' split
       all_goals simp_all
theorem isName_at (w:World)(s:ByteArray)(hb:s.size≤70000) :
 Calls Tryz.prog 189 #[.string s] w fun e w'=>e=.returned (.bool (namesF (bytesI s)))∧Below w.heap.size w w':=by
 have HK:=lh (byteKinds_run w)
 by_cases h0:s.size=0
 · obtain rfl:s=ByteArray.empty:=ByteArray.size_eq_zero_iff.1 h0
   show Calls Tryz.prog 189 #[.string ⟨#[]⟩] w fun e w'=>e=.returned (.bool false)∧Below w.heap.size w w'
   go_enter Tryz.func189,Tryz.ntmps189
   go_wp2_with fail
   (with_reducible refine HK.out.mono ?_)
   rintro e W1 ⟨rfl,hk⟩
   have HB:=lh hk.below
   clear hk HK
   go_wp2
   go_ret
   exact ⟨rfl,HB.out⟩
 · have hne:s.toList.isEmpty=false:=by
    rw [← bytesI_str s,Lib.strOfNums_toList,List.isEmpty_eq_false_iff]
    intro e
    have:=congrArg List.length e
    rw [Lib.bytesOf,List.length_map,bytesI_length,List.length_nil] at this
    exact h0 this
   have hpos:0<s.size:=by omega
   have hlen:=lh (bytesI_length s)
   have h00:=lh (bytesI_get s 0 hpos)
   have hm0:=UInt8.toNat_lt s[0]
   have KL:=lh (kind_letter (s[0].toNat:Int))
   obtain ⟨m0,hm⟩:∃m0,s[0].toNat=m0:=⟨_,rfl⟩
   go_enter Tryz.func189,Tryz.ntmps189
   go_wp2_with fail
   (with_reducible refine HK.out.mono ?_)
   rintro e W1 ⟨rfl,hk⟩
   have HKW:=lh hk
   have HB:=lh hk.below
   clear hk HK
   go_wp2_with fail
   have hm256:m0<256:=by omega
   have KA:=kind_at W1 (w.heap.size+1) m0 hm256 (by rw [HKW.out.arr m0 hm256,FK_kind m0 hm256])
   have KL2:=KL.out
   rw [hm] at KL2
   have KL3:=lh KL2
   have H00:Hid ((bytesI s).getD 0 0=(m0:Int)):=by rw [← hm];exact h00
   clear KL2 KL h00
   generalize kindF m0=k at *
   (with_reducible refine KA.mono ?_)
   rintro e w' ⟨rfl,rfl⟩
   clear KA
   by_cases hk3:k=3
   · subst hk3
     have HL:Hid (isLetter ((bytesI s).getD 0 0)=true):=lh (by rw [H00.out];simpa using KL3.out.symm)
     clear hm hm0 hm256 KL3 H00
     go_wp2_with fail
     go_loop [17] (fun iv=>∃k:Nat,k≤s.size∧iv=.int .i64 k∧Hid (((bytesI s).take k).all isNameB=true)) (fun iv=>s.size-(intOf iv).toNat)
     case atStart=>exact ⟨0,Nat.zero_le _,rfl,lh rfl⟩
     case round =>
      obtain ⟨k,hk,rfl,HA⟩:=hrel
      by_cases hlt:k<s.size
      · have hgk:=bytesI_get s k hlt
        have hmk:=UInt8.toNat_lt s[k]
        obtain ⟨m,hm⟩:∃m,s[k].toNat=m:=⟨_,rfl⟩
        rw [hm] at hgk hmk
        have hm256:m<256:=by omega
        have KA:=kind_at w' (w.heap.size+1) m hm256 (by rw [HKW.out.arr m hm256,FK_kind m hm256])
        have KN:=kind_name m
        have HG:=lh hgk
        clear hgk
        generalize kindF m=kk at *
        have IN:=inName_at w' kk
        rw [KN] at IN
        have HKA:=lh KA
        have HIN:=lh IN
        clear KN KA IN
        cases hq:isNameB m with
        | true =>
         have HIN2:Hid (Calls Tryz.prog 154 #[.int .u8 kk] w' fun e w1=>e=.returned (.bool true)∧w1=w'):=by rw [← hq];exact HIN.out
         have HQ:=lh hq
         clear hq HIN
         go_wp2_with fail
         (with_reducible refine HKA.out.mono ?_)
         rintro e w2 ⟨rfl,rfl⟩
         go_wp2_with fail
         (with_reducible refine HIN2.out.mono ?_)
         rintro e w3 ⟨rfl,rfl⟩
         clear HKA HIN2
         go_wp2
         go_round
         case rel=>exact ⟨k+1,by omega,by go_num,lh (by rw [all_take_succ _ _ (by have:=hlen.out;omega),HA.out,HG.out,HQ.out];rfl)⟩
         case measure=>simp [intOf];omega
        | false =>
         have HIN2:Hid (Calls Tryz.prog 154 #[.int .u8 kk] w' fun e w1=>e=.returned (.bool false)∧w1=w'):=by rw [← hq];exact HIN.out
         have HQ:=lh hq
         clear hq HIN
         go_wp2_with fail
         (with_reducible refine HKA.out.mono ?_)
         rintro e w2 ⟨rfl,rfl⟩
         go_wp2_with fail
         (with_reducible refine HIN2.out.mono ?_)
         rintro e w3 ⟨rfl,rfl⟩
         clear HKA HIN2
         go_wp2
         go_ret
         exact ⟨retB (namesF_no _ k (by have:=hlen.out;omega) (by rw [HG.out];exact HQ.out)).symm,HB.out⟩
      · have hks:k=s.size:=by omega
        have HKS:=lh hks
        clear hks
        go_wp2
        go_ret
        exact ⟨retB (namesF_yes _ (by have:=hlen.out;omega) HL.out (by rw [hlen.out,← HKS.out];exact HA.out)).symm,HB.out⟩
   · have hk3':(k != 3)=true:=by simpa using hk3
     have HL:Hid (isLetter ((bytesI s).getD 0 0)=false):=lh (by rw [H00.out,← KL3.out];simpa using hk3)
     clear KL3 H00
     go_wp2
     go_ret
     exact ⟨retB (namesF_head _ (by have:=hlen.out;omega) HL.out).symm,HB.out⟩
theorem letter_at (c:Int)(w:World):Calls Tryz.prog 157 #[.int .u8 c] w fun e w'=>e=.returned (.bool (isLetter c))∧w'=w:=by
 unfold isLetter
 by_cases h:97≤c
 · by_cases h2:c≤122
   · have e:(decide (97≤c)&&decide (c≤122))=true:=by simp [h,h2]
     rw [e]
     clear e
     go_enter Tryz.func157,Tryz.ntmps157
     go_wp2
     go_ret
     exact ⟨rfl,rfl⟩
   · have e:(decide (97≤c)&&decide (c≤122))=false:=by simp [h2]
     rw [e]
     clear e
     go_enter Tryz.func157,Tryz.ntmps157
     go_wp2
     go_ret
     exact ⟨rfl,rfl⟩
 · have e:(decide (97≤c)&&decide (c≤122))=false:=by simp [h]
   rw [e]
   clear e
   have hd:decide (97≤c)=false:=by simpa using h
   go_enter Tryz.func157,Tryz.ntmps157
   go_wp2
   go_ret
   exact ⟨rfl,rfl⟩
theorem digit_at (c:Int)(w:World):Calls Tryz.prog 158 #[.int .u8 c] w fun e w'=>e=.returned (.bool (isDigit c))∧w'=w:=by
 unfold isDigit
 by_cases h:48≤c
 · by_cases h2:c≤57
   · have e:(decide (48≤c)&&decide (c≤57))=true:=by simp [h,h2]
     rw [e]
     clear e
     go_enter Tryz.func158,Tryz.ntmps158
     go_wp2
     go_ret
     exact ⟨rfl,rfl⟩
   · have e:(decide (48≤c)&&decide (c≤57))=false:=by simp [h2]
     rw [e]
     clear e
     go_enter Tryz.func158,Tryz.ntmps158
     go_wp2
     go_ret
     exact ⟨rfl,rfl⟩
 · have e:(decide (48≤c)&&decide (c≤57))=false:=by simp [h]
   rw [e]
   clear e
   have hd:decide (48≤c)=false:=by simpa using h
   go_enter Tryz.func158,Tryz.ntmps158
   go_wp2
   go_ret
   exact ⟨rfl,rfl⟩
end Tr
namespace Tr
open Go.RowKit
def Aside (W V:World):Prop:=∀p v,W.cell? p=some v→V.cell? p=some v
theorem Aside.of {W V:World}(h:Below W.heap.size W V):Aside W V:=fun p v hp=>by rw [h.cell (World.block_lt_of_cell? W p hp)];exact hp
theorem Aside.refl (W:World):Aside W W:=fun _ _ h=>h
theorem Aside.trans {a b c:World}(h:Aside a b)(k:Aside b c):Aside a c:=fun p v hp=>k p v (h p v hp)
structure BV (W:World)(p:Option Addr)(len c:Nat)(xs:List Int):Prop where
 len_eq:xs.length=len
 cap:len≤c
 cell:0<len→∃b off,p=some ⟨b,off,none⟩∧∀i,i<len→W.cell? ⟨b,off+i,none⟩=some (.int .u8 (xs.getD i 0))
theorem BV.on {W V:World}{p:Option Addr}{len c:Nat}{xs:List Int}(h:BV W p len c xs)(hb:Aside W V):BV V p len c xs where
 len_eq:=h.len_eq
 cap:=h.cap
 cell:=fun hl=>by
  obtain ⟨b,off,e,hc⟩:=h.cell hl
  exact ⟨b,off,e,fun i hi=>hb _ _ (hc i hi)⟩
def FitV (W:World)(g:Fn)(cs:Array Value):Fit→Prop
 | .of ks=>∃B q l c,g=.func 234∧cs=#[.pointer (some ⟨B,0,none⟩)]∧W.cell? ⟨B,0,none⟩=some (.slice q l c)∧BV W q l c ks∧l≤70000
 | .stmt=>g=.func 190∧cs=#[]
 | .expr=>g=.func 115∧cs=#[]
theorem FitV.on {W V:World}{g:Fn}{cs:Array Value}{f:Fit}(h:FitV W g cs f)(hb:Aside W V):FitV V g cs f:=by
 cases f with
 | «of» ks =>
  obtain ⟨B,q,l,c,e,e2,h3,h4,h5⟩:=h
  exact ⟨B,q,l,c,e,e2,hb _ _ h3,h4.on hb,h5⟩
 | stmt=>exact h
 | expr=>exact h
theorem index_at (w:World)(p:Option Addr)(len c:Nat)(xs:List Int)(k:Int)(h:BV w p len c xs)(hb:len≤70000) :
 Calls Tryz.prog 268 #[.slice p len c,.int .u8 k] w fun e w'=>(∃z:Int,e=.returned (.int .i64 z)∧decide (0≤z)=xs.any fun x=>k==x)∧w'=w:=by
 have hlen:=lh h.len_eq
 have H:=lh h
 clear h
 go_enter Tryz.func268,Tryz.ntmps268
 go_wp2_with fail
 go_loop [8] (fun iv=>∃i:Nat,i≤len∧iv=.int .i64 i∧Hid ((xs.take i).any (fun x=>k==x)=false)) (fun iv=>len-(intOf iv).toNat)
 case atStart=>exact ⟨0,Nat.zero_le _,rfl,lh rfl⟩
 case round =>
  obtain ⟨i,hi,rfl,HA⟩:=hrel
  by_cases hil:i<len
  · obtain ⟨b,off,rfl,hc⟩:=H.out.cell (by omega)
    have hci:=hc i hil
    have HT:=lh (show (xs.take (i+1)).any (fun x=>k==x)=((xs.take i).any (fun x=>k==x)||(k==xs.getD i 0)) by
     rw [List.take_succ_eq_append_getElem (by have:=hlen.out;omega),List.any_append]
     simp [List.getD,show i<xs.length by have:=hlen.out;omega])
    have HM:=lh (show (k==xs.getD i 0)=true→xs.any (fun x=>k==x)=true from fun h=>by
     rw [List.any_eq_true]
     exact ⟨xs.getD i 0,by simp [List.getD,show i<xs.length by have:=hlen.out;omega],h⟩)
    generalize xs.getD i 0=x at *
    clear hc
    by_cases hx:k=x
    · subst hx
      go_wp2
      go_ret
      exact ⟨⟨(i:Int),rfl,by rw [HM.out (by simp)];simp⟩,rfl⟩
    · have hx':(k==x)=false:=by simpa using hx
      go_wp2
      go_round
      case rel=>exact ⟨i+1,by omega,by go_num,lh (by rw [HT.out,HA.out,hx'];rfl)⟩
      case measure=>simp [intOf];omega
  · have e:i=xs.length:=by have:=hlen.out;omega
    have HE:=lh e
    clear e
    go_wp2
    go_ret
    refine ⟨⟨-1,rfl,?_⟩,rfl⟩
    have:=HA.out
    rw [HE.out,List.take_length] at this
    rw [this]
    rfl
theorem contains_at (w:World)(p:Option Addr)(len c:Nat)(xs:List Int)(k:Int)(h:BV w p len c xs)(hb:len≤70000) :
 Calls Tryz.prog 235 #[.slice p len c,.int .u8 k] w fun e w'=>e=.returned (.bool (xs.any fun x=>k==x))∧w'=w:=by
 have HI:=lh (index_at w p len c xs k h hb)
 clear h
 go_enter Tryz.func235,Tryz.ntmps235
 go_wp2_with fail
 (with_reducible refine HI.out.mono ?_)
 rintro e w' ⟨⟨z,rfl,hz⟩,rfl⟩
 clear HI
 go_wp2
 go_ret
 exact ⟨retB (by simp),rfl⟩
theorem isf_at (w:World)(B l c:Nat)(q:Option Addr)(xs:List Int)(k:Int)(hc:w.cell? ⟨B,0,none⟩=some (.slice q l c))(h:BV w q l c xs)(hb:l≤70000) :
 Calls Tryz.prog 234 #[.int .u8 k,.pointer (some ⟨B,0,none⟩)] w fun e w'=>e=.returned (.bool (xs.any fun x=>k==x))∧w'=w:=by
 have HI:=lh (contains_at w q l c xs k h hb)
 clear h
 go_enter Tryz.func234,Tryz.ntmps234
 go_wp2_with fail
 (with_reducible refine HI.out.mono ?_)
 rintro e w' ⟨rfl,rfl⟩
 clear HI
 go_wp2
 go_ret
 exact ⟨rfl,rfl⟩
theorem isExpr_at (c:Int)(w:World):Calls Tryz.prog 115 #[.int .u8 c] w fun e w'=>e=.returned (.bool (isExprK c))∧w'=w:=by
 unfold isExprK
 by_cases h:21≤c
 · by_cases h2:c≤26
   · have e:(decide (21≤c)&&decide (c≤26))=true:=by simp [h,h2]
     rw [e]
     clear e
     go_enter Tryz.func115,Tryz.ntmps115
     go_wp2
     go_ret
     exact ⟨rfl,rfl⟩
   · have e:(decide (21≤c)&&decide (c≤26))=false:=by simp [h2]
     rw [e]
     clear e
     go_enter Tryz.func115,Tryz.ntmps115
     go_wp2
     go_ret
     exact ⟨rfl,rfl⟩
 · have e:(decide (21≤c)&&decide (c≤26))=false:=by simp [h]
   rw [e]
   clear e
   have hd:decide (21≤c)=false:=by simpa using h
   go_enter Tryz.func115,Tryz.ntmps115
   go_wp2
   go_ret
   exact ⟨rfl,rfl⟩
theorem isStmt_at (c:Int)(w:World):Calls Tryz.prog 190 #[.int .u8 c] w fun e w'=>e=.returned (.bool (isStmtK c))∧w'=w:=by
 unfold isStmtK
 by_cases h:7≤c
 · by_cases h2:c≤19
   · have e:(decide (7≤c)&&decide (c≤19))=true:=by simp [h,h2]
     rw [e]
     clear e
     go_enter Tryz.func190,Tryz.ntmps190
     go_wp2
     go_ret
     exact ⟨rfl,rfl⟩
   · have e:(decide (7≤c)&&decide (c≤19))=false:=by simp [h2]
     rw [e]
     clear e
     go_enter Tryz.func190,Tryz.ntmps190
     go_wp2
     go_ret
     exact ⟨rfl,rfl⟩
 · have e:(decide (7≤c)&&decide (c≤19))=false:=by simp [h]
   rw [e]
   clear e
   have hd:decide (7≤c)=false:=by simpa using h
   go_enter Tryz.func190,Tryz.ntmps190
   go_wp2
   go_ret
   exact ⟨rfl,rfl⟩
theorem isEmpty_size (s:ByteArray):s.toList.isEmpty=decide (s.size=0):=by
 have this:(Lib.bytesOf (bytesI s)).length=s.size:=by rw [Lib.bytesOf,List.length_map,bytesI_length]
 have e:s.toList=Lib.bytesOf (bytesI s):=by rw [← Lib.strOfNums_toList,bytesI_str]
 rw [e]
 by_cases h:s.size=0
 · rw [decide_eq_true h,List.isEmpty_iff_length_eq_zero];omega
 · rw [decide_eq_false h,List.isEmpty_eq_false_iff]
   intro e
   rw [e] at this
   exact h this.symm
theorem isEmpty_at (s:ByteArray)(w:World):Calls Tryz.prog 187 #[.string s] w fun e w'=>e=.returned (.bool (decide (s.size=0)))∧w'=w:=by
 go_enter Tryz.func187,Tryz.ntmps187
 go_wp2
 go_ret
 exact ⟨retB (isEmpty_size s),rfl⟩
theorem one_at (w:World)(g:Fn)(cs:Array Value):Calls Tryz.prog 184 #[.func g #[] cs] w fun e w'=>e=.returned (.agg #[.func g #[] cs,.int .i64 1,.int .i64 1])∧Below w.heap.size w w':=by
 go_enter Tryz.func184,Tryz.ntmps184
 go_wp2
 simp [bodyPost,results,Tryz.results184,go_sem]
 exact one_below w _
theorem maybe_at (w:World)(g:Fn)(cs:Array Value):Calls Tryz.prog 191 #[.func g #[] cs] w fun e w'=>e=.returned (.agg #[.func g #[] cs,.int .i64 0,.int .i64 1])∧Below w.heap.size w w':=by
 go_enter Tryz.func191,Tryz.ntmps191
 go_wp2
 simp [bodyPost,results,Tryz.results191,go_sem]
 exact one_below w _
theorem many_at (w:World)(g:Fn)(cs:Array Value):Calls Tryz.prog 188 #[.func g #[] cs] w fun e w'=>e=.returned (.agg #[.func g #[] cs,.int .i64 0,.int .i64 9223372036854775807])∧Below w.heap.size w w':=by
 go_enter Tryz.func188,Tryz.ntmps188
 go_wp2
 simp [bodyPost,results,Tryz.results188,go_sem]
 exact one_below w _
theorem is_at (w:World)(q:Option Addr)(l c:Nat)(ks:List Int)(h:BV w q l c ks)(hb:l≤70000):Calls Tryz.prog 185 #[.slice q l c] w fun e w'=>(∃g cs,e=.returned (.func g #[] cs)∧FitV w' g cs (.of ks))∧Below w.heap.size w w':=by
 have H:=lh h
 clear h
 go_enter Tryz.func185,Tryz.ntmps185
 go_wp2
 go_ret
 exact ⟨⟨_,_,rfl,⟨w.heap.size,q,l,c,rfl,rfl,by simp,H.out.on (Aside.of (one_below w _)),hb⟩⟩,one_below w _⟩
end Tr
namespace Tr
open Go.RowKit
instance:Inhabited Part:=⟨⟨.stmt,0,0⟩⟩
structure PC (W:World)(b o:Nat)(p:Part)(g:Fn)(cs:Array Value):Prop where
 fv:W.cell? ⟨b,o,none⟩=some (.func g #[] cs)
 least:W.cell? ⟨b,o+1,none⟩=some (.int .i64 (p.least:Int))
 most:W.cell? ⟨b,o+2,none⟩=some (.int .i64 (p.most:Int))
 fit:FitV W g cs p.fit
structure PV (W:World)(q:Option Addr)(l c:Nat)(ps:List Part):Prop where
 len_eq:ps.length=l
 cap:l≤c
 cell:0<l→∃b off,q=some ⟨b,off,none⟩∧∀i,i<l→∃g cs,PC W b (off+i*3) (ps.getD i default) g cs
theorem PC.on {W V:World}{b o:Nat}{p:Part}{g:Fn}{cs:Array Value}(h:PC W b o p g cs)(hb:Aside W V):PC V b o p g cs where
 fv:=hb _ _ h.fv
 least:=hb _ _ h.least
 most:=hb _ _ h.most
 fit:=h.fit.on hb
theorem PV.on {W V:World}{q:Option Addr}{l c:Nat}{ps:List Part}(h:PV W q l c ps)(hb:Aside W V):PV V q l c ps where
 len_eq:=h.len_eq
 cap:=h.cap
 cell:=fun hl=>by
  obtain ⟨b,off,e,hc⟩:=h.cell hl
  refine ⟨b,off,e,fun i hi=>?_⟩
  obtain ⟨g,cs,hp⟩:=hc i hi
  exact ⟨g,cs,hp.on hb⟩
theorem inTurn_step (ps:List Part)(i:Nat)(h:i<ps.length)(l:List Int):inTurnP (ps.drop i) l=(decide ((ps.getD i default).least≤(ps.getD i default).takes l)&&inTurnP (ps.drop (i+1)) (l.drop ((ps.getD i default).takes l))):=by
 have e:ps.drop i=ps.getD i default::ps.drop (i+1):=by
  rw [List.drop_eq_getElem_cons h]
  simp [List.getD,h]
 rw [e,inTurnP]
def still (p:Part)(ks:List Int)(a m:Nat):Nat:=m+run p.fit.f ((ks.drop m).take (p.most-(m-a)))
theorem still_start (p:Part)(ks:List Int)(a:Nat):still p ks a a=a+p.takes (ks.drop a):=by simp [still,Part.takes]
theorem still_end (p:Part)(ks:List Int)(a m:Nat)(h:ks.length≤m):still p ks a m=m:=by simp [still,List.drop_eq_nil_of_le h,run]
theorem still_full (p:Part)(ks:List Int)(a m:Nat)(h:p.most≤m-a):still p ks a m=m:=by simp [still,Nat.sub_eq_zero_of_le h,run]
theorem still_no (p:Part)(ks:List Int)(a m:Nat)(h:m<ks.length)(hf:p.fit.f (ks.getD m 0)=false):still p ks a m=m:=by
 unfold still
 rw [run_none];· rfl
 intro x hx
 rw [List.drop_eq_getElem_cons h] at hx
 cases hq:p.most-(m-a) with
 | zero=>rw [hq] at hx;simp at hx
 | succ q =>
  rw [hq] at hx
  simp only [List.take_succ_cons,List.head?_cons,Option.some.injEq] at hx
  rw [← hx]
  simpa [List.getD,h] using hf
theorem still_yes (p:Part)(ks:List Int)(a m:Nat)(h:m<ks.length)(ha:a≤m)(hm:m-a<p.most)(hf:p.fit.f (ks.getD m 0)=true):still p ks a (m+1)=still p ks a m:=by
 unfold still
 rw [List.drop_eq_getElem_cons h]
 obtain ⟨q,hq⟩:∃q,p.most-(m-a)=q+1:=⟨p.most-(m-a)-1,by omega⟩
 have e:p.most-(m+1-a)=q:=by omega
 rw [hq,e,List.take_succ_cons,run,if_pos (by simpa [List.getD,h] using hf)]
 omega
theorem inTurn_at (w:World)(q:Option Addr)(l c:Nat)(ps:List Part)(p:Option Addr)(n c2:Nat)(ks:List Int)(h:PV w q l c ps)(hk:BV w p n c2 ks)(hl:l≤8)(hn:n≤70000)(hm:∀x∈ps,x.least≤1∧x.most≤9223372036854775807) :
 Calls Tryz.prog 237 #[.slice q l c,.slice p n c2] w fun e w'=>e=.returned (.bool (inTurnP ps ks))∧Below w.heap.size w w':=by
 have hlen:=lh h.len_eq
 have hlen2:=lh hk.len_eq
 have H:=lh h
 have HK:=lh hk
 have HM:=lh hm
 clear h hk hm
 go_enter Tryz.func237,Tryz.ntmps237
 go_wp2_with fail
 go_loopw [5,11] (fun av iv wr=>∃i a:Nat,i≤l∧a≤n∧av=.int .i64 a∧iv=.int .i64 i∧Hid (inTurnP ps ks=inTurnP (ps.drop i) (ks.drop a))∧Hid (Below w.heap.size w wr)) (fun _ iv _=>l-(intOf iv).toNat)
 case atStart=>exact ⟨0,0,by omega,by omega,rfl,rfl,lh rfl,lh (Below.refl _ _)⟩
 case round =>
  obtain ⟨i,a,hi,ha,rfl,rfl,HI,HB⟩:=hrel
  by_cases hil:i<l
  · obtain ⟨b,off,rfl,hc⟩:=(H.out.on (Aside.of HB.out)).cell (by omega)
    obtain ⟨g,cs,hp⟩:=hc i hil
    have k0:=hp.fv
    have k1:=hp.least
    have k2:=hp.most
    have HF:=lh hp.fit
    have HS:=lh (inTurn_step ps i (by have:=hlen.out;omega) (ks.drop a))
    have hmo:=HM.out (ps.getD i default) (by simp [List.getD,show i<ps.length by have:=hlen.out;omega])
    generalize ps.getD i default=pt at *
    clear hc hp
    go_wp2_with fail
    obtain ⟨wo,rfl⟩:∃wo:World,wo=wr:=⟨_,rfl⟩
    go_loopw [5] (fun mv wq=>∃m:Nat,a≤m∧m≤n∧mv=.int .i64 m∧Hid (still pt ks a m=a+pt.takes (ks.drop a))∧Hid (Below (wo.heap.size+1) (wo.alloc (.cells #[.func g #[] cs,.int .i64 (pt.least:Int),.int .i64 (pt.most:Int)] 255)) wq)) (fun mv _=>n-(intOf mv).toNat)
    case atStart=>exact ⟨a,by omega,by omega,rfl,lh (still_start _ _ _),lh (Below.refl _ _)⟩
    case round =>
     obtain ⟨wq,rfl⟩:∃wq:World,wq=wr:=⟨_,rfl⟩
     obtain ⟨m,ham,hmn,rfl,HT,HQ⟩:=hrel
     have c0:wq.cell? ⟨wo.heap.size,0,none⟩=some (.func g #[] cs):=by rw [HQ.out.cell (by simp)];simp
     have c1:wq.cell? ⟨wo.heap.size,1,none⟩=some (.int .i64 (pt.least:Int)):=by rw [HQ.out.cell (by simp)];simp
     have c2':wq.cell? ⟨wo.heap.size,2,none⟩=some (.int .i64 (pt.most:Int)):=by rw [HQ.out.cell (by simp)];simp
     have HW:=lh (HB.out.trans (((one_below wo (.cells #[.func g #[] cs,.int .i64 (pt.least:Int),.int .i64 (pt.most:Int)] 255)).trans (HQ.out.mono (by omega))).mono HB.out.size))
     have HF2:=lh (HF.out.on (Aside.of ((one_below wo (.cells #[.func g #[] cs,.int .i64 (pt.least:Int),.int .i64 (pt.most:Int)] 255)).trans (HQ.out.mono (by omega)))))
     have HSW:Hid (∀nq,Below w.heap.size w (wq.drewN nq)):=lh (fun nq=>HW.out.trans (drewN_below _ _ _))
     have HSQ:Hid (∀nq,Below (wo.heap.size+1) (wo.alloc (.cells #[.func g #[] cs,.int .i64 (pt.least:Int),.int .i64 (pt.most:Int)] 255)) (wq.drewN nq)):=lh (fun nq=>HQ.out.trans (drewN_below _ _ _))
     by_cases h1:m<n
     · have d1:decide ((m:Int)<(n:Int))=true:=by simp;omega
       have w1:IntKind.i64.wrap ((m:Int)-(a:Int))=(m:Int)-(a:Int):=IntWalk.i64_in _ (by omega)
       by_cases h2:m-a<pt.most
       · have d2:decide ((m:Int)-(a:Int)<(pt.most:Int))=true:=by simp;omega
         obtain ⟨kb,koff,rfl,hkc⟩:=(HK.out.on (Aside.of HW.out)).cell (by omega)
         have hkm:=hkc m h1
         have HY:=lh (still_yes pt ks a m (by have:=hlen2.out;omega) ham h2)
         have HN:=lh (still_no pt ks a m (by have:=hlen2.out;omega))
         generalize ks.getD m 0=x at *
         clear hkc
         have key:∀b:Bool,pt.fit.f x=b→b=b:=fun _ _=>rfl
         clear key
         cases hfx:pt.fit.f x with
         | true =>
          have HE2:=lh (HY.out hfx)
          have HFX:=lh hfx
          clear HN HY hfx
          cases hpf:pt.fit with
          | «of» xs =>
           rw [hpf] at HF2 HFX
           obtain ⟨B,fq,fl,fc,rfl,rfl,hB2,hB3,hB4⟩:=HF2.out
           have HI2:Hid (∀nq,Calls Tryz.prog 234 #[.int .u8 x,.pointer (some ⟨B,0,none⟩)] (wq.drewN nq) fun e w'=>e=.returned (.bool true)∧w'=wq.drewN nq):=lh (fun nq=>by
            rw [← show (xs.any fun y=>x==y)=true from HFX.out]
            exact isf_at (wq.drewN nq) B fl fc fq xs x hB2 (hB3.on (Aside.of (drewN_below _ _ _))) hB4)
           clear HF2 hB2 hB3 hB4 hpf
           go_wp2_with fail
           go_quiet (first|(go_at_call 234;refine Calls.quiet_of_same (HI2.out _)))
           go_wp2_with fail
           go_roundw
           case rel=>exact ⟨m+1,by omega,by omega,by go_num,lh (by rw [HE2.out,HT.out]),lh (HSQ.out nq)⟩
           case measure=>simp [intOf];omega
          | stmt =>
           rw [hpf] at HF2 HFX
           obtain ⟨rfl,rfl⟩:=HF2.out
           have HI2:Hid (∀nq,Calls Tryz.prog 190 #[.int .u8 x] (wq.drewN nq) fun e w'=>e=.returned (.bool true)∧w'=wq.drewN nq):=lh (fun nq=>by
            rw [← show isStmtK x=true from HFX.out]
            exact isStmt_at x _)
           clear HF2 hpf
           go_wp2_with fail
           go_quiet (first|(go_at_call 190;refine Calls.quiet_of_same (HI2.out _)))
           go_wp2_with fail
           go_roundw
           case rel=>exact ⟨m+1,by omega,by omega,by go_num,lh (by rw [HE2.out,HT.out]),lh (HSQ.out nq)⟩
           case measure=>simp [intOf];omega
          | expr =>
           rw [hpf] at HF2 HFX
           obtain ⟨rfl,rfl⟩:=HF2.out
           have HI2:Hid (∀nq,Calls Tryz.prog 115 #[.int .u8 x] (wq.drewN nq) fun e w'=>e=.returned (.bool true)∧w'=wq.drewN nq):=lh (fun nq=>by
            rw [← show isExprK x=true from HFX.out]
            exact isExpr_at x _)
           clear HF2 hpf
           go_wp2_with fail
           go_quiet (first|(go_at_call 115;refine Calls.quiet_of_same (HI2.out _)))
           go_wp2_with fail
           go_roundw
           case rel=>exact ⟨m+1,by omega,by omega,by go_num,lh (by rw [HE2.out,HT.out]),lh (HSQ.out nq)⟩
           case measure=>simp [intOf];omega
         | false =>
          have HE:=lh (HN.out hfx)
          have HFX:=lh hfx
          clear HN HY hfx
          cases hpf:pt.fit with
          | «of» xs =>
           rw [hpf] at HF2 HFX
           obtain ⟨B,fq,fl,fc,rfl,rfl,hB2,hB3,hB4⟩:=HF2.out
           have HI2:Hid (∀nq,Calls Tryz.prog 234 #[.int .u8 x,.pointer (some ⟨B,0,none⟩)] (wq.drewN nq) fun e w'=>e=.returned (.bool false)∧w'=wq.drewN nq):=lh (fun nq=>by
            rw [← show (xs.any fun y=>x==y)=false from HFX.out]
            exact isf_at (wq.drewN nq) B fl fc fq xs x hB2 (hB3.on (Aside.of (drewN_below _ _ _))) hB4)
           clear HF2 hB2 hB3 hB4 hpf
           have hta:m=a+pt.takes (ks.drop a):=by have:=HT.out;have:=HE.out;omega
           have HTA:=lh hta
           clear hta
           by_cases h3:pt.least≤m-a
           · have d3:decide ((m:Int)-(a:Int)<(pt.least:Int))=false:=by simp;omega
             go_wp2_with fail
             go_quiet (first|(go_at_call 234;refine Calls.quiet_of_same (HI2.out _)))
             go_wp2_with fail
             go_roundw
             case rel=>exact ⟨i+1,m,by omega,by omega,rfl,by go_num,lh (by
              rw [HI.out,HS.out,decide_eq_true (by have:=HTA.out;omega),Bool.true_and,List.drop_drop,← HTA.out]),lh (HSW.out nq)⟩
             case measure=>simp [intOf];omega
           · have d3:decide ((m:Int)-(a:Int)<(pt.least:Int))=true:=by simp;omega
             go_wp2_with fail
             go_quiet (first|(go_at_call 234;refine Calls.quiet_of_same (HI2.out _)))
             go_wp2
             go_ret
             refine ⟨retB ?_,HSW.out nq⟩
             rw [HI.out,HS.out,decide_eq_false (by have:=HTA.out;omega),Bool.false_and]
          | stmt =>
           rw [hpf] at HF2 HFX
           obtain ⟨rfl,rfl⟩:=HF2.out
           have HI2:Hid (∀nq,Calls Tryz.prog 190 #[.int .u8 x] (wq.drewN nq) fun e w'=>e=.returned (.bool false)∧w'=wq.drewN nq):=lh (fun nq=>by
            rw [← show isStmtK x=false from HFX.out]
            exact isStmt_at x _)
           clear HF2 hpf
           have hta:m=a+pt.takes (ks.drop a):=by have:=HT.out;have:=HE.out;omega
           have HTA:=lh hta
           clear hta
           by_cases h3:pt.least≤m-a
           · have d3:decide ((m:Int)-(a:Int)<(pt.least:Int))=false:=by simp;omega
             go_wp2_with fail
             go_quiet (first|(go_at_call 190;refine Calls.quiet_of_same (HI2.out _)))
             go_wp2_with fail
             go_roundw
             case rel=>exact ⟨i+1,m,by omega,by omega,rfl,by go_num,lh (by
              rw [HI.out,HS.out,decide_eq_true (by have:=HTA.out;omega),Bool.true_and,List.drop_drop,← HTA.out]),lh (HSW.out nq)⟩
             case measure=>simp [intOf];omega
           · have d3:decide ((m:Int)-(a:Int)<(pt.least:Int))=true:=by simp;omega
             go_wp2_with fail
             go_quiet (first|(go_at_call 190;refine Calls.quiet_of_same (HI2.out _)))
             go_wp2
             go_ret
             refine ⟨retB ?_,HSW.out nq⟩
             rw [HI.out,HS.out,decide_eq_false (by have:=HTA.out;omega),Bool.false_and]
          | expr =>
           rw [hpf] at HF2 HFX
           obtain ⟨rfl,rfl⟩:=HF2.out
           have HI2:Hid (∀nq,Calls Tryz.prog 115 #[.int .u8 x] (wq.drewN nq) fun e w'=>e=.returned (.bool false)∧w'=wq.drewN nq):=lh (fun nq=>by
            rw [← show isExprK x=false from HFX.out]
            exact isExpr_at x _)
           clear HF2 hpf
           have hta:m=a+pt.takes (ks.drop a):=by have:=HT.out;have:=HE.out;omega
           have HTA:=lh hta
           clear hta
           by_cases h3:pt.least≤m-a
           · have d3:decide ((m:Int)-(a:Int)<(pt.least:Int))=false:=by simp;omega
             go_wp2_with fail
             go_quiet (first|(go_at_call 115;refine Calls.quiet_of_same (HI2.out _)))
             go_wp2_with fail
             go_roundw
             case rel=>exact ⟨i+1,m,by omega,by omega,rfl,by go_num,lh (by
              rw [HI.out,HS.out,decide_eq_true (by have:=HTA.out;omega),Bool.true_and,List.drop_drop,← HTA.out]),lh (HSW.out nq)⟩
             case measure=>simp [intOf];omega
           · have d3:decide ((m:Int)-(a:Int)<(pt.least:Int))=true:=by simp;omega
             go_wp2_with fail
             go_quiet (first|(go_at_call 115;refine Calls.quiet_of_same (HI2.out _)))
             go_wp2
             go_ret
             refine ⟨retB ?_,HSW.out nq⟩
             rw [HI.out,HS.out,decide_eq_false (by have:=HTA.out;omega),Bool.false_and]
       · have d2:decide ((m:Int)-(a:Int)<(pt.most:Int))=false:=by simp;omega
         have HE:=lh (still_full pt ks a m (by omega))
         have hta:m=a+pt.takes (ks.drop a):=by have:=HT.out;have:=HE.out;omega
         have HTA:=lh hta
         clear hta
         by_cases h3:pt.least≤m-a
         · have d3:decide ((m:Int)-(a:Int)<(pt.least:Int))=false:=by simp;omega
           go_wp2_with fail
           go_quiet (fail)
           go_wp2_with fail
           go_roundw
           case rel=>exact ⟨i+1,m,by omega,by omega,rfl,by go_num,lh (by
            rw [HI.out,HS.out,decide_eq_true (by have:=HTA.out;omega),Bool.true_and,List.drop_drop,← HTA.out]),lh (HSW.out nq)⟩
           case measure=>simp [intOf];omega
         · have d3:decide ((m:Int)-(a:Int)<(pt.least:Int))=true:=by simp;omega
           go_wp2_with fail
           go_quiet (fail)
           go_wp2
           go_ret
           refine ⟨retB ?_,HSW.out nq⟩
           rw [HI.out,HS.out,decide_eq_false (by have:=HTA.out;omega),Bool.false_and]
     · have d1:decide ((m:Int)<(n:Int))=false:=by simp;omega
       have HE:=lh (still_end pt ks a m (by have:=hlen2.out;omega))
       have hta:m=a+pt.takes (ks.drop a):=by have:=HT.out;have:=HE.out;omega
       have HTA:=lh hta
       clear hta
       by_cases h3:pt.least≤m-a
       · have d3:decide ((m:Int)-(a:Int)<(pt.least:Int))=false:=by simp;omega
         go_wp2_with fail
         go_quiet (fail)
         go_wp2_with fail
         go_roundw
         case rel=>exact ⟨i+1,m,by omega,by omega,rfl,by go_num,lh (by
          rw [HI.out,HS.out,decide_eq_true (by have:=HTA.out;omega),Bool.true_and,List.drop_drop,← HTA.out]),lh (HSW.out nq)⟩
         case measure=>simp [intOf];omega
       · have d3:decide ((m:Int)-(a:Int)<(pt.least:Int))=true:=by simp;omega
         go_wp2_with fail
         go_quiet (fail)
         go_wp2
         go_ret
         refine ⟨retB ?_,HSW.out nq⟩
         rw [HI.out,HS.out,decide_eq_false (by have:=HTA.out;omega),Bool.false_and]
  · go_wp2
    go_ret
    refine ⟨retB ?_,HB.out⟩
    rw [HI.out,List.drop_eq_nil_of_le (by have:=hlen.out;omega),inTurn_nil,List.length_drop]
    have:=hlen2.out
    rw [Bool.eq_iff_iff]
    simp
    omega
end Tr
namespace Tr
open Go.RowKit
theorem take_eq_succ {xs ys:List Int}{j:Nat}(h:xs.take j=ys.take j)(hx:j<xs.length)(hy:j<ys.length)(he:xs.getD j 0=ys.getD j 0):xs.take (j+1)=ys.take (j+1):=by
 rw [List.take_succ_eq_append_getElem hx,List.take_succ_eq_append_getElem hy,h]
 simp only [List.getD,List.getElem?_eq_getElem hx,List.getElem?_eq_getElem hy,Option.getD_some] at he
 rw [he]
theorem equal_at (w:World)(p p2:Option Addr)(l c l2 c2:Nat)(xs ys:List Int)(h:IV w p l c xs)(h2:IV w p2 l2 c2 ys)(hl:l≤70000) :
 Calls Tryz.prog 135 #[.slice p l c,.slice p2 l2 c2] w fun e w'=>e=.returned (.bool (decide (xs=ys)))∧Below w.heap.size w w':=by
 have hxl:=lh h.len_eq
 have hyl:=lh h2.len_eq
 have H:=lh h
 have H2:=lh h2
 clear h h2
 by_cases hll:l=l2
 · have d0:((l:Int) != (l2:Int))=false:=by simp [hll]
   have HLL:=lh hll
   clear hll
   go_enter Tryz.func135,Tryz.ntmps135
   go_wp2_with fail
   clear d0
   go_loopw [13] (fun iv wr=>∃j:Nat,j≤l∧iv=.int .i64 j∧Hid (xs.take j=ys.take j)∧Hid (Below w.heap.size w wr)) (fun iv _=>l-(intOf iv).toNat)
   case atStart=>exact ⟨0,by omega,rfl,lh rfl,lh (Below.refl _ _)⟩
   case round =>
    obtain ⟨j,hj,rfl,HT,HB⟩:=hrel
    by_cases hjl:j<l
    · obtain ⟨b,off,rfl,hbl,hc⟩:=(H.out.on HB.out).cell (by omega)
      obtain ⟨b2,off2,rfl,hbl2,hc2⟩:=(H2.out.on HB.out).cell (by have:=HLL.out;omega)
      have k1:=hc j hjl
      have k2:=hc2 j (by have:=HLL.out;omega)
      have HTS:=lh (fun he=>take_eq_succ HT.out (by have:=hxl.out;omega) (by have:=hyl.out;have:=HLL.out;omega) he)
      have HNE:Hid (xs.getD j 0≠ys.getD j 0→decide (xs=ys)=false):=lh (fun hne=>decide_eq_false (fun e=>hne (by rw [e])))
      generalize xs.getD j 0=x at *
      generalize ys.getD j 0=y at *
      have b0:(0:Int)≤(j:Int):=by omega
      have b1:(j:Int)<(l:Int):=by omega
      have b2':(j:Int)<(l2:Int):=by have:=HLL.out;omega
      have HBD:Hid (∀n,Below w.heap.size w (wr.drewN n)):=lh (fun n=>HB.out.trans (drewN_below _ _ _))
      clear hc hc2 hbl hbl2
      by_cases hxy:x=y
      · have d1:(x != y)=false:=by simp [hxy]
        have HTJ:=lh (HTS.out hxy)
        clear hxy
        go_wp2_with fail
        go_quiet (fail)
        go_wp2_with fail
        go_roundw
        case rel=>exact ⟨j+1,by omega,by go_num,HTJ,lh (HBD.out nq)⟩
        case measure=>simp [intOf];omega
      · have d1:(x != y)=true:=by simpa using hxy
        have HNO:=lh (HNE.out hxy)
        clear hxy
        go_wp2_with fail
        go_quiet (fail)
        go_wp2
        go_ret
        exact ⟨retB HNO.out.symm,HBD.out nq⟩
    · have hje:j=l:=by omega
      have HE:Hid (decide (xs=ys)=true):=lh (by
       have h1:=HT.out
       rw [hje,List.take_of_length_le (by have:=hxl.out;omega),List.take_of_length_le (by have:=hyl.out;have:=HLL.out;omega)] at h1
       rw [h1];simp)
      clear hje
      go_wp2
      go_ret
      exact ⟨retB HE.out.symm,HB.out⟩
 · have d0:((l:Int) != (l2:Int))=true:=by simp;omega
   have HNO:Hid (decide (xs=ys)=false):=lh (decide_eq_false (fun e=>hll (by rw [← hxl.out,← hyl.out,e])))
   clear hll
   go_enter Tryz.func135,Tryz.ntmps135
   go_wp2
   go_ret
   exact ⟨retB HNO.out.symm,Below.refl _ _⟩
def sameNd (a b:Nd):Bool:=a.kind==b.kind&&(decide (a.text=b.text)&&(a.n==b.n&&decide (a.kids=b.kids)))
def ndV (nd:Nd)(kp:Option Addr)(kl kc:Nat):Value:=.agg #[.int .u8 nd.kind,.int .i64 nd.at',.string nd.text,.int .i64 nd.n,.slice kp kl kc]
theorem text_eq (s t:ByteArray):(s.toList==t.toList)=decide (s=t):=by
 by_cases h:s=t
 · subst h;simp
 · rw [decide_eq_false h]
   rw [beq_eq_false_iff_ne]
   intro e
   apply h
   rw [← bytesI_str s,← bytesI_str t,Lib.strOfNums_toList,Lib.strOfNums_toList] at e
   have hl:∀u:ByteArray,∀x∈bytesI u,0≤x∧x<256:=fun u x hx=>by
    obtain ⟨i,hi,rfl⟩:=List.mem_iff_getElem.1 hx
    have:=bytesI_byte u i
    simpa [List.getD,hi] using this
   have inj:∀(a b:List Int),(∀x∈a,0≤x∧x<256)→(∀x∈b,0≤x∧x<256)→Lib.bytesOf a=Lib.bytesOf b→a=b:=by
    intro a
    induction a with
    | nil=>intro b _ _ h;cases b with
     | nil=>rfl
     | cons y b=>simp [Lib.bytesOf] at h
    | cons x a ih=>intro b ha hb h;cases b with
     | nil=>simp [Lib.bytesOf] at h
     | cons y b =>
      simp only [Lib.bytesOf,List.map_cons,List.cons.injEq] at h
      have hx:=ha x (by simp)
      have hy:=hb y (by simp)
      have e:=congrArg UInt8.toNat h.1
      simp at e
      rw [ih b (fun z hz=>ha z (by simp [hz])) (fun z hz=>hb z (by simp [hz])) h.2,show x=y by omega]
   have:=inj _ _ (hl s) (hl t) e
   rw [← bytesI_str s,← bytesI_str t,this]
theorem sameNode_at (w:World)(a b:Nd)(p p2:Option Addr)(l c l2 c2:Nat)(h:IV w p l c a.kids)(h2:IV w p2 l2 c2 b.kids)(hl:l≤70000) :
 Calls Tryz.prog 76 #[ndV a p l c,ndV b p2 l2 c2] w fun e w'=>e=.returned (.bool (sameNd a b))∧Below w.heap.size w w':=by
 have HE:Hid (∀W,Below w.heap.size w W→Calls Tryz.prog 135 #[.slice p l c,.slice p2 l2 c2] W fun e w'=>e=.returned (.bool (decide (a.kids=b.kids)))∧Below W.heap.size W w'):=lh (fun W hb=>equal_at W p p2 l c l2 c2 _ _ (h.on hb) (h2.on hb) hl)
 have B0:Hid (Below w.heap.size w ((w.alloc (.cells #[.int .u8 a.kind,.int .i64 a.at',.string a.text,.int .i64 a.n,.slice p l c] 54)).alloc (.cells #[.int .u8 b.kind,.int .i64 b.at',.string b.text,.int .i64 b.n,.slice p2 l2 c2] 54))):=lh ((one_below w _).alloc (by simp) _)
 clear h h2
 unfold ndV sameNd
 by_cases h1:a.kind=b.kind
 · have e1:(a.kind==b.kind)=true:=by simpa using h1
   by_cases h2:a.text=b.text
   · have e2:(a.text.toList==b.text.toList)=true:=by rw [text_eq];simpa using h2
     by_cases h3:a.n=b.n
     · have e3:(a.n==b.n)=true:=by simpa using h3
       have fin:(a.kind==b.kind&&(decide (a.text=b.text)&&(a.n==b.n&&decide (a.kids=b.kids))))=decide (a.kids=b.kids):=by rw [e1,decide_eq_true h2,e3];rfl
       rw [fin]
       clear fin h1 h2 h3
       have HQ:=lh (HE.out _ B0.out)
       go_enter Tryz.func76,Tryz.ntmps76
       go_wp2_with fail
       (with_reducible refine HQ.out.mono ?_)
       rintro e w' ⟨rfl,hb⟩
       have B1:=lh (B0.out.trans (hb.mono (by simp;omega)))
       clear hb HQ HE
       go_wp2
       go_ret
       exact ⟨rfl,B1.out⟩
     · have e3:(a.n==b.n)=false:=by simpa using h3
       have fin:(a.kind==b.kind&&(decide (a.text=b.text)&&(a.n==b.n&&decide (a.kids=b.kids))))=false:=by rw [e3];simp
       rw [fin]
       clear fin h1 h2 h3
       go_enter Tryz.func76,Tryz.ntmps76
       go_wp2
       go_ret
       exact ⟨rfl,B0.out⟩
   · have e2:(a.text.toList==b.text.toList)=false:=by rw [text_eq];simpa using h2
     have fin:(a.kind==b.kind&&(decide (a.text=b.text)&&(a.n==b.n&&decide (a.kids=b.kids))))=false:=by rw [decide_eq_false h2];simp
     rw [fin]
     clear fin h1 h2
     go_enter Tryz.func76,Tryz.ntmps76
     go_wp2
     go_ret
     exact ⟨rfl,B0.out⟩
 · have e1:(a.kind==b.kind)=false:=by simpa using h1
   have fin:(a.kind==b.kind&&(decide (a.text=b.text)&&(a.n==b.n&&decide (a.kids=b.kids))))=false:=by rw [e1];rfl
   rw [fin]
   clear fin h1
   go_enter Tryz.func76,Tryz.ntmps76
   go_wp2
   go_ret
   exact ⟨rfl,B0.out⟩
end Tr
namespace Tr
open Go.RowKit
structure Small (ns:List Nd):Prop where
 len:ns.length≤70000
 each:∀nd∈ns,nd.kids.length≤70000
def sameP (ns ms:List Nd):Bool:=decide (ns.length=ms.length)&&(List.range ns.length).all fun i=>sameNd (ns.getD i default) (ms.getD i default)
theorem range_all_succ (f:Nat→Bool)(j:Nat):(List.range (j+1)).all f=((List.range j).all f&&f j):=by
 rw [List.range_succ,List.all_append];simp
theorem range_all_no (f:Nat→Bool)(n j:Nat)(hj:j<n)(h:f j=false):(List.range n).all f=false:=by
 rw [List.all_eq_false]
 exact ⟨j,List.mem_range.2 hj,by rw [h];simp⟩
theorem equalFunc_at (w:World)(p p2:Option Addr)(len c len2 c2:Nat)(ns ms:List Nd)(h:TV w p len c ns)(h2:TV w p2 len2 c2 ms)(hS:Small ns) :
 Calls Tryz.prog 75 #[.slice p len c,.slice p2 len2 c2,.func (.func 76) #[] #[]] w fun e w'=>e=.returned (.bool (sameP ns ms))∧Below w.heap.size w w':=by
 have hlen:=lh h.len_eq
 have hlen2:=lh h2.len_eq
 have H:=lh h
 have H2:=lh h2
 have HS:=lh hS
 have hl1:len≤70000:=by rw [← h.len_eq];exact hS.len
 clear h h2 hS
 by_cases hll:len=len2
 · have d0:((len:Int) != (len2:Int))=false:=by simp [hll]
   have HLL:=lh hll
   clear hll
   go_enter Tryz.func75,Tryz.ntmps75
   go_wp2_with fail
   clear d0
   go_loopw [17] (fun iv wr=>∃j:Nat,j≤len∧iv=.int .i64 j∧Hid ((List.range j).all (fun i=>sameNd (ns.getD i default) (ms.getD i default))=true)∧Hid (Below w.heap.size w wr)) (fun iv _=>len-(intOf iv).toNat)
   case atStart=>exact ⟨0,by omega,rfl,lh rfl,lh (Below.refl _ _)⟩
   case round =>
    obtain ⟨j,hj,rfl,HT,HB⟩:=hrel
    by_cases hjl:j<len
    · obtain ⟨b,off,rfl,hbl,hc⟩:=(H.out.on HB.out).node (by omega)
      obtain ⟨b2,off2,rfl,hbl2,hc2⟩:=(H2.out.on HB.out).node (by have:=HLL.out;omega)
      obtain ⟨kp,kl,kc,hn⟩:=hc j hjl
      obtain ⟨kp2,kl2,kc2,hn2⟩:=hc2 j (by have:=HLL.out;omega)
      have hkb := (HS.out.each (ns.getD j default) (by have : j < ns.length := by (have := hlen.out; omega)
                                                       simp [List.getD,this]))
      have HSU:Hid ((List.range (j+1)).all (fun i=>sameNd (ns.getD i default) (ms.getD i default))=((List.range j).all (fun i=>sameNd (ns.getD i default) (ms.getD i default))&&sameNd (ns.getD j default) (ms.getD j default))):=lh (range_all_succ _ j)
      have HNO:Hid (sameNd (ns.getD j default) (ms.getD j default)=false→(List.range ns.length).all (fun i=>sameNd (ns.getD i default) (ms.getD i default))=false):=lh (fun h=>range_all_no _ ns.length j (by have:=hlen.out;omega) h)
      generalize ns.getD j default=a at *
      generalize ms.getD j default=e0 at *
      have k0:=hn.kind
      have k1:=hn.at'
      have k2:=hn.text
      have k3:=hn.n
      have k4:=hn.kids
      have m0:=hn2.kind
      have m1:=hn2.at'
      have m2:=hn2.text
      have m3:=hn2.n
      have m4:=hn2.kids
      have hj2:(j:Int)<(len2:Int):=by have:=HLL.out;omega
      have B0:Below wr.heap.size wr ((wr.alloc (.cells #[.int .u8 a.kind,.int .i64 a.at',.string a.text,.int .i64 a.n,.slice kp kl kc] 54)).alloc (.cells #[.int .u8 e0.kind,.int .i64 e0.at',.string e0.text,.int .i64 e0.n,.slice kp2 kl2 kc2] 54)):=(one_below wr _).alloc (by simp) _
      have HSN:=lh (sameNode_at _ a e0 kp kp2 kl kc kl2 kc2 (hn.iv.on B0) (hn2.iv.on B0) (by have:=hn.iv.len_eq;omega))
      have HB0:=lh (HB.out.trans (B0.mono HB.out.size))
      unfold ndV at HSN
      have n0:((wr.alloc (.cells #[.int .u8 a.kind,.int .i64 a.at',.string a.text,.int .i64 a.n,.slice kp kl kc] 54))).cell? ⟨b2,off2+j*5,none⟩=some (.int .u8 e0.kind):=by rw [World.cell?_alloc_past _ _ _ hbl2];exact m0
      have n1:((wr.alloc (.cells #[.int .u8 a.kind,.int .i64 a.at',.string a.text,.int .i64 a.n,.slice kp kl kc] 54))).cell? ⟨b2,off2+j*5+1,none⟩=some (.int .i64 e0.at'):=by rw [World.cell?_alloc_past _ _ _ hbl2];exact m1
      have n2:((wr.alloc (.cells #[.int .u8 a.kind,.int .i64 a.at',.string a.text,.int .i64 a.n,.slice kp kl kc] 54))).cell? ⟨b2,off2+j*5+2,none⟩=some (.string e0.text):=by rw [World.cell?_alloc_past _ _ _ hbl2];exact m2
      have n3:((wr.alloc (.cells #[.int .u8 a.kind,.int .i64 a.at',.string a.text,.int .i64 a.n,.slice kp kl kc] 54))).cell? ⟨b2,off2+j*5+3,none⟩=some (.int .i64 e0.n):=by rw [World.cell?_alloc_past _ _ _ hbl2];exact m3
      have n4:((wr.alloc (.cells #[.int .u8 a.kind,.int .i64 a.at',.string a.text,.int .i64 a.n,.slice kp kl kc] 54))).cell? ⟨b2,off2+j*5+4,none⟩=some (.slice kp2 kl2 kc2):=by rw [World.cell?_alloc_past _ _ _ hbl2];exact m4
      clear hn hn2 hc hc2 B0
      go_wp2_with fail
      (with_reducible refine HSN.out.mono ?_)
      rintro e w5 ⟨rfl,hb⟩
      have HB5:=lh (HB0.out.trans (hb.mono HB0.out.size))
      clear hb HSN
      cases hsn:sameNd a e0 with
      | true =>
       have HT2:Hid ((List.range (j+1)).all (fun i=>sameNd (ns.getD i default) (ms.getD i default))=true):=lh (by rw [HSU.out,HT.out,hsn];rfl)
       clear hsn
       go_wp2_with fail
       go_roundw
       case rel=>exact ⟨j+1,by omega,by go_num,HT2,HB5⟩
       case measure=>simp [intOf];omega
      | false =>
       have HF:Hid (sameP ns ms=false):=lh (by unfold sameP;rw [HNO.out hsn,Bool.and_false])
       clear hsn
       go_wp2
       go_ret
       exact ⟨retB HF.out.symm,HB5.out⟩
    · have HE:Hid (sameP ns ms=true):=lh (by
       have e:j=ns.length:=by have:=hlen.out;omega
       unfold sameP
       rw [← e,HT.out,decide_eq_true (by rw [e,hlen.out,hlen2.out,HLL.out])]
       rfl)
      go_wp2
      go_ret
      exact ⟨retB HE.out.symm,HB.out⟩
 · have d0:((len:Int) != (len2:Int))=true:=by simp;omega
   have HNO:Hid (sameP ns ms=false):=lh (by unfold sameP;rw [decide_eq_false (by rw [hlen.out,hlen2.out];exact hll)];rfl)
   clear hll
   go_enter Tryz.func75,Tryz.ntmps75
   go_wp2
   go_ret
   exact ⟨retB HNO.out.symm,Below.refl _ _⟩
theorem same_at (w:World)(p p2:Option Addr)(len c len2 c2:Nat)(ns ms:List Nd)(h:TV w p len c ns)(h2:TV w p2 len2 c2 ms)(hS:Small ns) :
 Calls Tryz.prog 32 #[.agg #[.slice p len c],.agg #[.slice p2 len2 c2]] w fun e w'=>e=.returned (.bool (sameP ns ms))∧Below w.heap.size w w':=by
 have hb:Below w.heap.size w ((w.alloc (.cells #[.slice p len c] 39)).alloc (.cells #[.slice p2 len2 c2] 39)):=(one_below w _).alloc (by simp) _
 have HQ:=lh (equalFunc_at _ p p2 len c len2 c2 ns ms (h.on hb) (h2.on hb) hS)
 have HB:=lh hb
 clear h h2 hb
 go_enter Tryz.func32,Tryz.ntmps32
 go_wp2_with fail
 (with_reducible refine HQ.out.mono ?_)
 rintro e w' ⟨rfl,hb⟩
 have B1:=lh (HB.out.trans (hb.mono (by simp;omega)))
 clear hb HQ
 go_wp2
 go_ret
 exact ⟨rfl,B1.out⟩
end Tr
end Go.Proofs.YthdioipfdbbmmaaGreatDoor
