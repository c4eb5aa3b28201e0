/- Contracts. -/
import Derived.Test.YthdioipfdbbmmaaGreatDoorKab
import Derived.Test.YthdioipfdbbmmaaGreatDoorKae
import Derived.Test.YthdioipfdbbmmaaGreatDoorKah
import Derived.Test.YthdioipfdbbmmaaGreatDoorKak
import Derived.Test.YthdioipfdbbmmaaGreatDoorKal
import Derived.Test.YthdioipfdbbmmaaGreatDoorKbd
import Derived.Test.YthdioipfdbbmmaaGreatDoorProg
import Derived.WalkKit
import Derived.Handy
import Derived.Below
import Derived.Carry
import Derived.MapKept
import Derived.Lib.Hide
import Derived.Deep.RegionHeld3
import Derived.BigQuiet
set_option linter.all false
set_option maxRecDepth 1000000
set_option maxHeartbeats 16000000
namespace Go.Proofs.YthdioipfdbbmmaaGreatDoor
namespace Nm
open Go.RowKit Go.Maps Tr
structure Bs where
 Wn:World
 nb:Nat
 nl:Nat
 nc:Nat
 kp:Nat→Option Addr
 kc:Nat→Nat
 S:Nat→Nat
 ns:List Nd
 ob:Nat
 oc:Nat
 rb:Nat
 tm:Nat
 pm:Nat
structure BsOk (B:Bs):Prop where
 lown:B.Wn.heap.size≤B.ob
 nbl:B.nb<B.Wn.heap.size
 nslen:B.ns.length=B.nl
 nlc:B.nl≤B.nc
 node:∀i,i<B.nl→NC B.Wn B.nb (i*5) (nd B.ns i) (B.kp i) (nd B.ns i).kids.length (B.kc i)
 rt:Rt B.ns B.S
 oc:B.nl≤B.oc
 otm:B.ob<B.tm
 opm:B.ob<B.pm
 orb:B.ob<B.rb
 tpm:B.tm≠B.pm
 txt:∀i,(nd B.ns i).text.size≤70000
 few:B.nl≤70000
structure Lw (B:Bs)(of:List Int)(cs:Array Value)(w:World):Prop where
 bn:Below B.Wn.heap.size B.Wn w
 row:∃rest,w.heap[B.ob]?=some (.cells (ints of++rest).toArray 3 (0,0))
 len:of.length=B.nl
 blk:w.heap[B.rb]?=some (.cells cs 137 (0,0))
 c0:cs[0]?=some (.slice (some ⟨B.nb,0,none⟩) B.nl B.nc)
 c3:cs[3]?=some (.slice (some ⟨B.ob,0,none⟩) B.nl B.oc)
section
variable {B:Bs}{of:List Int}{cs:Array Value}{w w':World}
theorem Lw.grown {row:Option Nat}(h:Lw B of cs w)(ok:BsOk B)(hg:w.grownBy w' row)(hr:∀q,row=some q→B.ob<q∧q≠B.rb):Lw B of cs w' where
 bn:=h.bn.grown hg h.bn.size (fun q e=>by have:=(hr q e).1;have:=ok.lown;omega)
 row:=by
  obtain ⟨rest,hr2⟩:=h.row
  exact ⟨rest,(hg.block B.ob (Array.getElem?_eq_some_iff.1 hr2).1 (fun e=>by have:=(hr B.ob e.symm).1;omega)).trans hr2⟩
 len:=h.len
 blk:=(hg.block B.rb (Array.getElem?_eq_some_iff.1 h.blk).1 (fun e=>(hr B.rb e.symm).2 rfl)).trans h.blk
 c0:=h.c0
 c3:=h.c3
theorem Lw.on (h:Lw B of cs w)(ok:BsOk B)(hb:Below w.heap.size w w'):Lw B of cs w':=h.grown ok (below_grown hb) (fun _ e=>by cases e)
theorem Lw.set (h:Lw B of cs w)(ok:BsOk B)(i:Nat)(v:Int)(hi:i<B.nl):Lw B (of.set i v) cs (w.setCell ⟨B.ob,i,none⟩ (.int .i64 v)) where
 bn:=h.bn.setCell (p:=⟨B.ob,i,none⟩) ok.lown _
 row:=by
  obtain ⟨rest,hr⟩:=h.row
  refine ⟨rest,?_⟩
  rw [heap_set _ _ _ _ _ _ hr]
  congr 2
  apply Array.toList_inj.1
  simp only [Array.toList_setIfInBounds,List.toList_toArray]
  rw [List.set_append_left _ _ (by simp [ints,h.len];exact hi)]
  simp [ints,List.map_set]
 len:=by rw [List.length_set];exact h.len
 blk:=by
  rw [Below.heap_setCell _ _ _ _ (show B.rb≠B.ob by have:=ok.orb;omega)]
  exact h.blk
 c0:=h.c0
 c3:=h.c3
theorem Lw.cell (h:Lw B of cs w)(j:Nat)(v:Value)(hv:cs[j]?=some v):w.cell? ⟨B.rb,j,none⟩=some v:=by rw [cell_of_row _ _ _ _ _ _ h.blk];exact hv
theorem Lw.fz (h:Lw B of cs w)(j:Nat):w.frozen? ⟨B.rb,j,none⟩=false:=frozen_of_row _ _ _ _ _ h.blk
theorem Lw.ofCell (h:Lw B of cs w)(i:Nat)(hi:i<B.nl):w.cell? ⟨B.ob,i,none⟩=some (.int .i64 (of.getD i 0))∧w.frozen? ⟨B.ob,i,none⟩=false:=by
 obtain ⟨rest,hr⟩:=h.row
 have hl:=h.len
 refine ⟨?_,frozen_of_row _ _ _ _ _ hr⟩
 rw [cell_of_row _ _ _ _ _ _ hr]
 have:i<of.length:=by omega
 simp only [ints,List.getElem?_toArray]
 rw [List.getElem?_append_left (by simpa using this)]
 simp [List.getD,this]
def nodeB (B:Bs)(i:Nat):Value:=.agg #[.int .u8 (nd B.ns i).kind,.int .i64 (nd B.ns i).at',.string (nd B.ns i).text,.int .i64 (nd B.ns i).n,.slice (B.kp i) (nd B.ns i).kids.length (B.kc i)]
def wrongB (B:Bs)(x:Nat × Int):Ending:=.panicked [{ v:=.iface 132 (.agg #[.int .i64 (nd B.ns x.1).at',.int .i64 x.2]),recovered:=false }]
theorem nodeB_at (h:Lw B of cs w)(ok:BsOk B){i:Nat}(hi:i<B.nl):Calls Tryz.prog 139 #[.pointer (some ⟨B.rb,0,none⟩),.int .i64 i] w fun x W'=>x=.returned (nodeB B i)∧Below w.heap.size w W':=by
 have c0:=h.cell 0 _ h.c0
 have hn:=(ok.node i hi).on ok.nbl h.bn
 have n0:=hn.kind
 have n1:=hn.at'
 have n2:=hn.text
 have n3:=hn.n
 have n4:=hn.kids
 have i0:(0:Int)≤(i:Int):=by omega
 have i1:(i:Int)<(B.nl:Int):=by omega
 have hbl:B.nb<w.heap.size:=Nat.lt_of_lt_of_le ok.nbl h.bn.size
 have hrl:B.rb<w.heap.size:=(Array.getElem?_eq_some_iff.1 h.blk).1
 unfold nodeB
 generalize (nd B.ns i).kind=kd at *
 generalize (nd B.ns i).at'=na at *
 generalize (nd B.ns i).text=nt at *
 generalize (nd B.ns i).n=nn at *
 generalize (nd B.ns i).kids.length=kl at *
 clear hn h
 go_enter Tryz.func139,Tryz.ntmps139
 go_wp2_with fail
 simp [bodyPost,results,Tryz.results139,go_sem]
 exact (Below.refl _ _).alloc (Nat.le_refl _) _
theorem nameB_at (h:Lw B of cs w)(ok:BsOk B){i:Nat}(hi:i<B.nl):Calls Tryz.prog 211 #[.pointer (some ⟨B.rb,0,none⟩),.int .i64 i] w fun x W'=>x=.returned (.string (nd B.ns i).text)∧Below w.heap.size w W':=by
 have ND:=lh (nodeB_at h ok hi)
 have CS:=lh (fun w=>clone_str (nd B.ns i).text w (ok.txt i))
 unfold nodeB at ND
 generalize (nd B.ns i).text=tx at *
 have fl:=nd_f2
 clear h
 go_enter Tryz.func211,Tryz.ntmps211
 go_wp2_with fail
 (with_reducible refine ND.out.mono ?_)
 rintro e w1 ⟨rfl,hb⟩
 have HB:=lh hb
 clear hb ND
 go_wp2_with fail
 (with_reducible refine (CS.out _).mono ?_)
 rintro e w2 ⟨rfl,hb⟩
 have HB2:=lh (HB.out.trans (hb.mono HB.out.size))
 clear hb HB CS
 go_wp2
 go_ret
 exact ⟨rfl,HB2.out⟩
theorem failB_at (h:Lw B of cs w)(ok:BsOk B){i:Nat}(hi:i<B.nl)(c:Int):Calls Tryz.prog 210 #[.pointer (some ⟨B.rb,0,none⟩),.int .i64 i,.int .i64 c] w fun x W'=>x=wrongB B (i,c)∧Below w.heap.size w W':=by
 have ND:=lh (nodeB_at h ok hi)
 unfold nodeB at ND
 unfold wrongB
 simp only
 generalize (nd B.ns i).at'=ta at *
 have fl:=nd_f1
 clear h
 go_enter Tryz.func210,Tryz.ntmps210
 go_wp2_with fail
 (with_reducible refine ND.out.mono ?_)
 rintro e w1 ⟨rfl,hb⟩
 have HB:=lh hb
 clear hb ND
 go_wp2
 exact ⟨rfl,rfl,HB.out⟩
def PsB {α:Type}(B:Bs)(r:NE α)(ok:α→Ending→World→Prop)(e:Ending)(w':World):Prop:=match r with
 | .error x=>e=wrongB B x∧Below B.Wn.heap.size B.Wn w'
 | .ok a=>ok a e w'
theorem psb_no {α:Type}{r:NE α}{ok:α→Ending→World→Prop}{x:Nat × Int}{w':World}(hr:r=.error x)(hb:Below B.Wn.heap.size B.Wn w'):PsB B r ok (wrongB B x) w':=by rw [hr];exact ⟨rfl,hb⟩
theorem psb_ok {α:Type}{r:NE α}{ok:α→Ending→World→Prop}{a:α}{e:Ending}{w':World}(hr:r=.ok a)(h:ok a e w'):PsB B r ok e w':=by rw [hr];exact h
theorem getb_no {α:Type}{r:NE α}{ok:α→Ending→World→Prop}{f:Nat}{args:Array Value}{w:World}{x:Nat × Int}(T:Calls Tryz.prog f args w (PsB B r ok))(hr:r=.error x):Calls Tryz.prog f args w fun e w'=>e=wrongB B x∧Below B.Wn.heap.size B.Wn w':=T.mono fun e w' h=>by rw [hr] at h;exact h
theorem getb_ok {α:Type}{r:NE α}{ok:α→Ending→World→Prop}{f:Nat}{args:Array Value}{w:World}{a:α}(T:Calls Tryz.prog f args w (PsB B r ok))(hr:r=.ok a):Calls Tryz.prog f args w (ok a):=T.mono fun e w' h=>by rw [hr] at h;exact h
theorem idx_none {l:List ByteArray}{s:ByteArray}(h:idx l s=none):∀x∈l,x≠s:=fun x hx e=>by
 have:=List.findIdx?_eq_none_iff.1 h x hx
 simp [e] at this
def Numb (B:Bs)(mb:Nat)(i:Nat)(l:List ByteArray)(w:World)(a:List Int × List ByteArray)(e:Ending)(w':World):Prop :=
 e=.returned (.tuple #[])∧∃W0 W1,Below w.heap.size w W0∧W0.grownBy W1 (some mb)∧numM W1 mb (l++[(nd B.ns i).text])∧(w'=W1.setCell ⟨B.ob,i,none⟩ (.int .i64 l.length))∧a.2=l++[(nd B.ns i).text]∧(∀x∈l,x≠(nd B.ns i).text)
theorem number_at {mb:Nat}{l:List ByteArray}{most:Nat}(h:Lw B of cs w)(ok:BsOk B)(hm:numM w mb l)(hmb:B.ob<mb)(hmr:mb≠B.rb)(hl:l.Pairwise (·≠·))(hl2:l.length≤70000)(hmost:most≤70000){i:Nat}(hi:i<B.nl) :
 Calls Tryz.prog 141 #[.pointer (some ⟨B.rb,0,none⟩),.map (some mb),.int .i64 i,.int .i64 most] w (PsB B (number B.ns l i most of) (Numb B mb i l w)):=by
 have ND:=lh (nodeB_at h ok hi)
 have HS:=lh h
 have HM:=lh hm
 have fl:=nd_f2
 have i0:(0:Int)≤(i:Int):=by omega
 have i1:(i:Int)<(B.nl:Int):=by omega
 have PX:number B.ns l i most of=if (idx l (nd B.ns i).text).isSome then .error (i,71) else if l.length=most then .error (i,3) else .ok (of.set i l.length,l++[(nd B.ns i).text]):=rfl
 have PXh:=lh PX
 have htx:=ok.txt i
 have hsz:Maps.size (numD l:MD)=l.length:=numD_size _ hl
 unfold nodeB at ND
 generalize htg:(nd B.ns i).text=tx at *
 have HTX:=lh htg
 clear htg
 clear PX h hm
 go_enter Tryz.func141,Tryz.ntmps141
 go_wp2_with fail
 (with_reducible refine ND.out.mono ?_)
 rintro e w1 ⟨rfl,hb⟩
 have B1:=lh hb
 have R1:=lh (HS.out.on ok hb)
 have M1:numM w1 mb l:=map_block HM.out (hb.block mb HM.out.lt)
 have M1h:=lh M1
 have lk:=num_look M1 hl tx htx
 clear hb ND HS M1
 generalize hix:idx l tx=ix at *
 cases ix with
 | some j =>
  simp only [Option.isSome_some,Option.getD_some] at *
  have FL:=lh (failB_at R1.out ok hi 71)
  go_wp2_with (at_len;refine wpList_len_own _ rfl _ 134 rfl 9 3 Tryz.underlying134 (plainElem Tryz.prog 3) mb _ _ rfl M1h.out ?_;rw [hsz])
  (with_reducible refine FL.out.mono ?_)
  rintro e w2 ⟨rfl,hb⟩
  simp only [wrongB]
  have HB:=lh (R1.out.on ok hb).bn
  clear hb
  go_wp2
  exact ⟨rfl,psb_no PXh.out HB.out⟩
 | none =>
  simp only [Option.isSome_none,Option.getD_none] at *
  by_cases hfull:l.length=most
  · have PX2:Hid (number B.ns l i most of=.error (i,3)):=lh (by rw [PXh.out];simp [hfull])
    have hb1:((l.length:Int)==(most:Int))=true:=by simp [hfull]
    have FL:=lh (failB_at R1.out ok hi 3)
    clear hfull
    go_wp2_with (at_len;refine wpList_len_own _ rfl _ 134 rfl 9 3 Tryz.underlying134 (plainElem Tryz.prog 3) mb _ _ rfl M1h.out ?_;rw [hsz])
    (with_reducible refine FL.out.mono ?_)
    rintro e w2 ⟨rfl,hb⟩
    simp only [wrongB]
    have HB:=lh (R1.out.on ok hb).bn
    clear hb
    go_wp2
    exact ⟨rfl,psb_no PX2.out HB.out⟩
  · have PX2:Hid (number B.ns l i most of=.ok (of.set i l.length,l++[tx])):=lh (by rw [PXh.out];simp [hfull])
    have hb1:((l.length:Int)==(most:Int))=false:=by simp;omega
    obtain ⟨W1,hrun,hown,hgrow⟩:=World.ownsMap.update (t := 134) (e:=3) M1h.out (string_keyed Tryz.underlying9) Tryz.underlying134 (by simp only [maxLen];omega) (key:=.string tx) (val:=.int .i64 l.length) (key_str tx htx) (plainElem_int Tryz.underlying3 (by simp only [Lit.wf,Bool.and_eq_true,decide_eq_true_eq];constructor<;>first|(show (-9223372036854775808:Int)≤_;omega)|(show _≤(9223372036854775807:Int);omega)))
    have HO:Hid (numM W1 mb (l++[tx])):=lh (by
     unfold numM
     rw [numD_snoc,List.length_append]
     exact hown)
    have HO2:Hid (numM W1 mb (l++[(nd B.ns i).text])):=lh (by rw [HTX.out];exact HO.out)
    have R2:=lh (R1.out.grown ok hgrow (fun q e=>by cases e;exact ⟨hmb,hmr⟩))
    have HG:=lh hgrow
    have c3:=R2.out.cell 3 _ R2.out.c3
    have k3:=(R2.out.ofCell i hi).1
    have z3:=(R2.out.ofCell i hi).2
    have HIX:=lh (idx_none hix)
    clear hown hgrow hfull
    go_wp2_with (at_len;refine wpList_len_own _ rfl _ 134 rfl 9 3 Tryz.underlying134 (plainElem Tryz.prog 3) mb _ _ rfl M1h.out ?_;rw [hsz])
    have HF:=lh (psb_ok (B:=B) (ok:=Numb B mb i l w) PX2.out (w':=W1.setCell ⟨B.ob,i,none⟩ (.int .i64 l.length)) (e:=.returned (.tuple #[])) ⟨rfl,w1,W1,B1.out,HG.out,HO2.out,rfl,by rw [HTX.out],by rw [HTX.out];exact HIX.out⟩)
    simp [bodyPost,results,Tryz.results141,go_sem]
    exact HF.out
end
end Nm
namespace Nm
open Go.RowKit Go.Maps Tr
structure Old (B:Bs)(w w':World):Prop where
 os:w'.os=w.os
 tape:w'.tape=w.tape
 output:w'.output=w.output
 size:w.heap.size≤w'.heap.size
 block:∀k,k<w.heap.size→B.ob<k→w'.heap[k]?=w.heap[k]?
section
variable {B:Bs}{w w' w'':World}
theorem Old.refl (B:Bs)(w:World):Old B w w:=⟨rfl,rfl,rfl,Nat.le_refl _,fun _ _ _=>rfl⟩
theorem Old.trans (h:Old B w w')(k:Old B w' w''):Old B w w'':=⟨k.os.trans h.os,k.tape.trans h.tape,k.output.trans h.output,Nat.le_trans h.size k.size,fun i hi hne=>(k.block i (Nat.lt_of_lt_of_le hi h.size) hne).trans (h.block i hi hne)⟩
theorem Old.of_below (h:Below w.heap.size w w'):Old B w w':=⟨h.os,h.tape,h.output,h.size,fun k hk _=>h.block k hk⟩
theorem Old.grown {row:Option Nat}(h:Old B w w')(hg:w'.grownBy w'' row)(hr:∀q,row=some q→w.heap.size≤q):Old B w w'':=⟨hg.os.trans h.os,hg.tape.trans h.tape,hg.output.trans h.output,Nat.le_trans h.size hg.size,fun k hk hne=>(hg.block k (Nat.lt_of_lt_of_le hk h.size) (fun e=>by have:=hr k e.symm;omega)).trans (h.block k hk hne)⟩
theorem Old.setOf (h:Old B w w')(i:Nat)(v:Value):Old B w (w'.setCell ⟨B.ob,i,none⟩ v):=⟨h.os,h.tape,h.output,by simpa [World.setCell] using h.size,fun k hk hne=>by
 rw [Below.heap_setCell _ _ _ _ (Nat.ne_of_gt hne)]
 exact h.block k hk hne⟩
theorem own_old {base:Nat}{e:TypeId}{size n:Nat}{v:Value}{xs:List Value}(h:w.ownsRow base e size v n xs)(ho:Old B w w')(hb:B.ob<base):w'.ownsRow base e size v n xs:=by
 refine ⟨h.1,?_⟩
 rcases h.2 with hn|⟨g,cap,cur,rfl,hbg,hg,rest⟩
 · exact .inl hn
 · exact .inr ⟨g,cap,cur,rfl,hbg,(ho.block g (Array.getElem?_eq_some_iff.1 hg).1 (by omega)).trans hg,rest⟩
theorem num_old {b:Nat}{l:List ByteArray}(h:numM w b l)(ho:Old B w w')(hb:B.ob<b):numM w' b l:=map_block h (ho.block b h.lt hb)
end
def rcells (B:Bs)(tv pv cv:Value):Array Value:=#[.slice (some ⟨B.nb,0,none⟩) B.nl B.nc,tv,pv,.slice (some ⟨B.ob,0,none⟩) B.nl B.oc,.map (some B.tm),.map (some B.pm),cv]
def tblC:List Tb→List Value→List Value
 | t::ts,v::vs=>[.string t.name,v]++tblC ts vs
 | _,_=>[]
def prcC:List Pr→List Value→List Value
 | p::ps,v::vs=>[.string p.name,.int .i64 p.params,v,.bool p.single,.int .i64 p.root]++prcC ps vs
 | _,_=>[]
theorem tblC_snoc (ts:List Tb)(vs:List Value)(t:Tb)(v:Value)(h:vs.length=ts.length):tblC (ts++[t]) (vs++[v])=tblC ts vs++[.string t.name,v]:=by
 induction ts generalizing vs with
 | nil =>
  cases vs with
  | nil=>rfl
  | cons _ _=>simp at h
 | cons a ts ih =>
  cases vs with
  | nil=>simp at h
  | cons b vs=>simp only [List.cons_append,tblC,ih vs (by simpa using h),List.append_assoc,List.nil_append]
theorem prcC_snoc (ts:List Pr)(vs:List Value)(t:Pr)(v:Value)(h:vs.length=ts.length):prcC (ts++[t]) (vs++[v])=prcC ts vs++[.string t.name,.int .i64 t.params,v,.bool t.single,.int .i64 t.root]:=by
 induction ts generalizing vs with
 | nil =>
  cases vs with
  | nil=>rfl
  | cons _ _=>simp at h
 | cons a ts ih =>
  cases vs with
  | nil=>simp at h
  | cons b vs=>simp only [List.cons_append,prcC,ih vs (by simpa using h),List.append_assoc,List.nil_append]
def strs (l:List ByteArray):List Value:=l.map Value.string
structure Rh (B:Bs)(h:Hd)(prs:List Pr)(tcv:List Value)(mt:List Nat)(pvv:List Value)(tv pv cv:Value)(cs:Array Value)(w:World):Prop where
 lw:Lw B h.of cs w
 tmap:numM w B.tm h.tnames
 pmap:numM w B.pm h.pnames
 tap:h.tnames.Pairwise (·≠·)
 pap:h.pnames.Pairwise (·≠·)
 t64:h.tnames.length≤64
 p64:h.pnames.length≤64
 trow:w.ownsRow (B.ob+1) 84 2 tv h.tabs.length (tblC h.tabs tcv)
 crow:w.ownsRow (B.ob+1) 134 1 cv h.tabs.length (mt.map fun m=>.map (some m))
 prow:w.ownsRow (B.ob+1) 82 5 pv prs.length (prcC prs pvv)
 tlen:tcv.length=h.tabs.length
 mlen:mt.length=h.tabs.length
 plen:pvv.length=prs.length
 tcols:∀j,j<h.tabs.length→w.ownsRow (B.ob+1) 9 1 (tcv.getD j default) ((h.tabs.map Tb.cols).getD j []).length (strs ((h.tabs.map Tb.cols).getD j []))
 cmaps:∀j,j<h.tabs.length→B.ob<mt.getD j 0∧mt.getD j 0≠B.tm∧mt.getD j 0≠B.pm∧numM w (mt.getD j 0) ((h.tabs.map Tb.cols).getD j [])
 pvars:∀j,j<prs.length→w.ownsRow (B.ob+1) 9 1 (pvv.getD j default) ((prs.map Pr.vars).getD j []).length (strs ((prs.map Pr.vars).getD j []))
 caps:∀t∈h.tabs,t.cols.Pairwise (·≠·)∧t.cols.length≤16
 tfew:h.tabs.length≤64
section
variable {B:Bs}{h:Hd}{prs:List Pr}{tcv:List Value}{mt:List Nat}{pvv:List Value}{tv pv cv:Value}{cs:Array Value}{w w':World}
theorem Rh.old (r:Rh B h prs tcv mt pvv tv pv cv cs w)(ok:BsOk B)(ho:Old B w w'){of:List Int}(hl:Lw B of cs w'):Rh B { h with of:=of } prs tcv mt pvv tv pv cv cs w' where
 lw:=hl
 tmap:=num_old r.tmap ho (by have:=ok.otm;omega)
 pmap:=num_old r.pmap ho (by have:=ok.opm;omega)
 tap:=r.tap
 pap:=r.pap
 t64:=r.t64
 p64:=r.p64
 trow:=own_old r.trow ho (Nat.lt_succ_self _)
 crow:=own_old r.crow ho (Nat.lt_succ_self _)
 prow:=own_old r.prow ho (Nat.lt_succ_self _)
 tlen:=r.tlen
 mlen:=r.mlen
 plen:=r.plen
 tcols:=fun j hj=>own_old (r.tcols j hj) ho (Nat.lt_succ_self _)
 cmaps:=fun j hj=>by
  obtain ⟨h1,h2,h3,h4⟩:=r.cmaps j hj
  exact ⟨h1,h2,h3,num_old h4 ho (by omega)⟩
 pvars:=fun j hj=>own_old (r.pvars j hj) ho (Nat.lt_succ_self _)
 caps:=r.caps
 tfew:=r.tfew
theorem Rh.on (r:Rh B h prs tcv mt pvv tv pv cv cs w)(ok:BsOk B)(hb:Below w.heap.size w w'):Rh B h prs tcv mt pvv tv pv cv cs w':=r.old ok (Old.of_below hb) (r.lw.on ok hb)
theorem row_map {base:Nat}{e:TypeId}{size n b:Nat}{v:Value}{xs:List Value}{P:Program}{k:TypeId}{R:Value→Option (MD × List MemPlace)}{m:Nat}{D:MD}{W:World}(h:W.ownsRow base e size v n xs)(hm:W.ownsMap P k R b m D)(hg:W.grownBy w' (some b)):w'.ownsRow base e size v n xs:=own_kind h hg (fun q e=>by cases e;rw [kd_map hm];simp)
theorem Rh.numT (r:Rh B h prs tcv mt pvv tv pv cv cs w)(ok:BsOk B)(hrb:B.tm≠B.rb){i:Nat}(hi:i<B.nl){a:List Int × List ByteArray}{e:Ending}(hn:Numb B B.tm i h.tnames w a e w')(ha:number B.ns h.tnames i 64 h.of=.ok a):Rh B { h with of:=a.1,tnames:=a.2 } prs tcv mt pvv tv pv cv cs w':=by
 obtain ⟨_,W0,W1,hb,hg,hm,rfl,ha2,hne⟩:=hn
 have r0:=r.on ok hb
 have ha1:a.1=h.of.set i h.tnames.length∧h.tnames.length≠64:=by
  unfold number at ha
  split at ha
  · cases ha
  · split at ha
    · cases ha
    · rename_i h2;cases ha;exact ⟨rfl,h2⟩
 have hl1:Lw B h.of cs W1:=r0.lw.grown ok hg (fun q e=>by cases e;exact ⟨ok.otm,hrb⟩)
 have hl2:=hl1.set ok i h.tnames.length hi
 have hk:∀q,some B.tm=some q→kd W0 q=some 0:=fun q e=>by cases e;exact kd_map r0.tmap
 have so:Old B W1 (W1.setCell ⟨B.ob,i,none⟩ (.int .i64 h.tnames.length)):=(Old.refl B W1).setOf i _
 have t64:=r.t64
 refine ⟨by rw [ha1.1];exact hl2,?_,num_old (map_kind r0.pmap hg (fun e=>ok.tpm (Option.some.inj e))) so (by have:=ok.opm;omega),?_,r.pap,?_,r.p64,own_old (row_map r0.trow r0.tmap hg) so (Nat.lt_succ_self _),own_old (row_map r0.crow r0.tmap hg) so (Nat.lt_succ_self _),own_old (row_map r0.prow r0.tmap hg) so (Nat.lt_succ_self _),r.tlen,r.mlen,r.plen,fun j hj=>own_old (row_map (r0.tcols j hj) r0.tmap hg) so (Nat.lt_succ_self _),fun j hj=>?_,fun j hj=>own_old (row_map (r0.pvars j hj) r0.tmap hg) so (Nat.lt_succ_self _),r.caps,r.tfew⟩
 · show numM _ B.tm a.2
   rw [ha2]
   exact num_old hm so (by have:=ok.otm;omega)
 · show a.2.Pairwise (·≠·)
   rw [ha2]
   exact List.pairwise_append.2 ⟨r.tap,List.pairwise_singleton _ _,fun y hy z hz=>by rw [List.mem_singleton.1 hz];exact hne y hy⟩
 · show a.2.length≤64
   rw [ha2]
   simp
   omega
 · obtain ⟨h1,h2,h3,h4⟩:=r0.cmaps j hj
   exact ⟨h1,h2,h3,num_old (map_kind h4 hg (fun e=>h2 (Option.some.inj e).symm)) so (by omega)⟩
theorem Rh.numP (r:Rh B h prs tcv mt pvv tv pv cv cs w)(ok:BsOk B)(hrb:B.pm≠B.rb){i:Nat}(hi:i<B.nl){a:List Int × List ByteArray}{e:Ending}(hn:Numb B B.pm i h.pnames w a e w')(ha:number B.ns h.pnames i 64 h.of=.ok a):Rh B { h with of:=a.1,pnames:=a.2 } prs tcv mt pvv tv pv cv cs w':=by
 obtain ⟨_,W0,W1,hb,hg,hm,rfl,ha2,hne⟩:=hn
 have r0:=r.on ok hb
 have ha1:a.1=h.of.set i h.pnames.length∧h.pnames.length≠64:=by
  unfold number at ha
  split at ha
  · cases ha
  · split at ha
    · cases ha
    · rename_i h2;cases ha;exact ⟨rfl,h2⟩
 have hl1:Lw B h.of cs W1:=r0.lw.grown ok hg (fun q e=>by cases e;exact ⟨ok.opm,hrb⟩)
 have hl2:=hl1.set ok i h.pnames.length hi
 have so:Old B W1 (W1.setCell ⟨B.ob,i,none⟩ (.int .i64 h.pnames.length)):=(Old.refl B W1).setOf i _
 have p64:=r.p64
 refine ⟨by rw [ha1.1];exact hl2,num_old (map_kind r0.tmap hg (fun e=>ok.tpm (Option.some.inj e).symm)) so (by have:=ok.otm;omega),?_,r.tap,?_,r.t64,?_,own_old (row_map r0.trow r0.pmap hg) so (Nat.lt_succ_self _),own_old (row_map r0.crow r0.pmap hg) so (Nat.lt_succ_self _),own_old (row_map r0.prow r0.pmap hg) so (Nat.lt_succ_self _),r.tlen,r.mlen,r.plen,fun j hj=>own_old (row_map (r0.tcols j hj) r0.pmap hg) so (Nat.lt_succ_self _),fun j hj=>?_,fun j hj=>own_old (row_map (r0.pvars j hj) r0.pmap hg) so (Nat.lt_succ_self _),r.caps,r.tfew⟩
 · show numM _ B.pm a.2
   rw [ha2]
   exact num_old hm so (by have:=ok.opm;omega)
 · show a.2.Pairwise (·≠·)
   rw [ha2]
   exact List.pairwise_append.2 ⟨r.pap,List.pairwise_singleton _ _,fun y hy z hz=>by rw [List.mem_singleton.1 hz];exact hne y hy⟩
 · show a.2.length≤64
   rw [ha2]
   simp
   omega
 · obtain ⟨h1,h2,h3,h4⟩:=r0.cmaps j hj
   exact ⟨h1,h2,h3,num_old (map_kind h4 hg (fun e=>h3 (Option.some.inj e).symm)) so (by omega)⟩
end
end Nm
namespace Nm
open Go.RowKit Go.Maps Tr
structure Tl (B:Bs)(w2:World)(cs:Array Value)(nm:ByteArray)(of:List Int)(cm cl:List ByteArray)(bv cvv:Value)(w:World):Prop where
 old:Old B w2 w
 lw:Lw B of cs w
 mp:numM w w2.heap.size cm
 box:w.heap[w2.heap.size+1]?=some (.cells #[.string nm,bv] 84 (0,0))
 row:w.ownsRow w2.heap.size 9 1 cvv cl.length (strs cl)
 ap:cm.Pairwise (·≠·)
section
variable {B:Bs}{w2:World}{cs:Array Value}{nm:ByteArray}{of:List Int}{cm cl:List ByteArray}{bv cvv:Value}{w w':World}
theorem Tl.on (t:Tl B w2 cs nm of cm cl bv cvv w)(ok:BsOk B)(hb:Below w.heap.size w w'):Tl B w2 cs nm of cm cl bv cvv w' where
 old:=t.old.trans (Old.of_below hb)
 lw:=t.lw.on ok hb
 mp:=map_block t.mp (hb.block _ t.mp.lt)
 box:=(hb.block _ (Array.getElem?_eq_some_iff.1 t.box).1).trans t.box
 row:=own_kind t.row (below_grown hb) (fun _ e=>by cases e)
 ap:=t.ap
theorem Tl.cell (t:Tl B w2 cs nm of cm cl bv cvv w):w.cell? ⟨w2.heap.size+1,0,none⟩=some (.string nm)∧w.cell? ⟨w2.heap.size+1,1,none⟩=some bv∧w.frozen? ⟨w2.heap.size+1,1,none⟩=false :=
 ⟨by rw [cell_of_row _ _ _ _ _ _ t.box];rfl,by rw [cell_of_row _ _ _ _ _ _ t.box];rfl,frozen_of_row _ _ _ _ _ t.box⟩
theorem Tl.numb (t:Tl B w2 cs nm of cm cl bv cvv w)(ok:BsOk B)(hob:B.ob<w2.heap.size)(hrb:w2.heap.size≠B.rb){i most:Nat}(hi:i<B.nl){a:List Int × List ByteArray}{e:Ending}(hn:Numb B w2.heap.size i cm w a e w')(ha:number B.ns cm i most of=.ok a):Tl B w2 cs nm a.1 a.2 cl bv cvv w':=by
 obtain ⟨_,W0,W1,hb,hg,hm,rfl,ha2,hne⟩:=hn
 have t0:=t.on ok hb
 have ha1:a.1=of.set i cm.length:=by
  unfold number at ha
  split at ha
  · cases ha
  · split at ha
    · cases ha
    · cases ha;rfl
 have hl1:Lw B of cs W1:=t0.lw.grown ok hg (fun q e=>by cases e;exact ⟨hob,hrb⟩)
 have hk:∀q,some w2.heap.size=some q→kd W0 q=some 0:=fun q e=>by cases e;exact kd_map t0.mp
 have so:Old B W1 (W1.setCell ⟨B.ob,i,none⟩ (.int .i64 cm.length)):=(Old.refl B W1).setOf i _
 refine ⟨(t0.old.grown hg (fun q e=>by cases e;exact Nat.le_refl _)).setOf i _,by rw [ha1];exact hl1.set ok i _ hi,?_,?_,?_,?_⟩
 · rw [ha2]
   exact num_old hm so (by omega)
 · rw [Below.heap_setCell _ _ _ _ (show w2.heap.size+1≠B.ob by omega)]
   refine (hg.block _ (Array.getElem?_eq_some_iff.1 t0.box).1 (fun e=>?_)).trans t0.box
   have:=Option.some.inj e
   omega
 · exact own_old (own_kind t0.row hg (fun q e=>by rw [hk q e];decide)) so hob
 · rw [ha2]
   exact List.pairwise_append.2 ⟨t.ap,List.pairwise_singleton _ _,fun y hy z hz=>by rw [List.mem_singleton.1 hz];exact hne y hy⟩
theorem Tl.push (t:Tl B w2 cs nm of cm cl bv cvv w)(ok:BsOk B)(hob:B.ob<w2.heap.size)(hrb:B.rb<w2.heap.size){x:ByteArray}{v':Value}(hr:w'.ownsRow w2.heap.size 9 1 v' (cl.length+1) (strs cl++[.string x]))(hg:w.grownBy w' cvv.ownBlock):Tl B w2 cs nm of cm (cl++[x]) bv v' w' where
 old:=t.old.grown hg (fun q e=>(t.row.lt q e).1)
 lw:=t.lw.grown ok hg (fun q e=>⟨by have:=(t.row.lt q e).1;omega,by have:=(t.row.lt q e).1;omega⟩)
 mp:=map_kind t.mp hg (fun e=>by have:=kd_own t.row e;rw [kd_map t.mp] at this;exact absurd this (by decide))
 box:=(hg.block _ (Array.getElem?_eq_some_iff.1 t.box).1 (fun e=>by have:=kd_own t.row e.symm;rw [kd_row t.box] at this;exact absurd this (by decide))).trans t.box
 row:=by simpa [strs] using hr
 ap:=t.ap
theorem Tl.setBox (t:Tl B w2 cs nm of cm cl bv cvv w)(ok:BsOk B)(hob:B.ob<w2.heap.size)(hrb:B.rb<w2.heap.size)(v:Value):Tl B w2 cs nm of cm cl v cvv (w.setCell ⟨w2.heap.size+1,1,none⟩ v) where
 old:=t.old.grown (grownBy_set w _ _) (fun q e=>by cases e;show w2.heap.size≤w2.heap.size+1;omega)
 lw:=t.lw.grown ok (grownBy_set w _ _) (fun q e=>by cases e;show B.ob<w2.heap.size+1∧w2.heap.size+1≠B.rb;omega)
 mp:=map_kind t.mp (grownBy_set w _ _) (fun e=>by have:=Option.some.inj e;simp only at this;omega)
 box:=by rw [heap_set _ _ _ _ _ _ t.box];rfl
 row:=own_kind t.row (grownBy_set w _ _) (fun q e=>by cases e;rw [kd_row t.box];decide)
 ap:=t.ap
end
theorem cols_cons (ns:List Nd)(i:Nat)(r:List Nat)(cs:List ByteArray)(of:List Int):cols ns (i::r) cs of=(number ns cs i 16 of >>= fun a=>cols ns r a.2 a.1):=rfl
theorem table_eq (ns:List Nd)(i:Nat)(h:Hd):table ns i h=(number ns h.tnames i 64 h.of >>= fun a=>if 16<(nd ns i).kids.length then .error (i,3) else (cols ns ((nd ns i).kids.map Int.toNat) [] a.1 >>= fun b=>.ok { of:=b.1,tnames:=a.2,pnames:=h.pnames,tabs:=h.tabs++[⟨(nd ns i).text,b.2⟩] })):=rfl
end Nm
namespace Nm
open Go.RowKit Go.Maps Tr
theorem number_names {ns:List Nd}{l:List ByteArray}{i most:Nat}{of:List Int}{a:List Int × List ByteArray}(h:number ns l i most of=.ok a):a.2=l++[(nd ns i).text]:=by
 unfold number at h
 split at h
 · cases h
 · split at h
   · cases h
   · cases h
     rfl
theorem table_names {ns:List Nd}{i:Nat}{h a:Hd}(ht:table ns i h=.ok a)(hn:h.tnames=h.tabs.map Tb.name):a.tnames=a.tabs.map Tb.name:=by
 rw [table_eq] at ht
 cases hx:number ns h.tnames i 64 h.of with
 | error x=>rw [hx] at ht;cases ht
 | ok b =>
  rw [hx] at ht
  replace ht:(if 16<(nd ns i).kids.length then (.error (i,3):NE Hd) else (cols ns ((nd ns i).kids.map Int.toNat) [] b.1 >>= fun c=>.ok { of:=c.1,tnames:=b.2,pnames:=h.pnames,tabs:=h.tabs++[⟨(nd ns i).text,c.2⟩] }))=.ok a:=ht
  split at ht
  · cases ht
  · cases hy:cols ns ((nd ns i).kids.map Int.toNat) [] b.1 with
    | error x=>rw [hy] at ht;cases ht
    | ok c =>
     rw [hy] at ht
     replace ht:(.ok { of:=c.1,tnames:=b.2,pnames:=h.pnames,tabs:=h.tabs++[⟨(nd ns i).text,c.2⟩] }:NE Hd)=.ok a:=ht
     cases ht
     simp [number_names hx,hn]
end Nm
namespace Nm
open Go.RowKit Go.Maps Tr
def cut (w:World)(ob:Nat):World:={ w with heap:=w.heap.extract 0 ob }
theorem cut_size {w:World}{ob:Nat}(h:ob≤w.heap.size):(cut w ob).heap.size=ob:=by
 unfold cut
 simp
 omega
theorem cut_get {w:World}{ob:Nat}(h:ob≤w.heap.size){k:Nat}(hk:k<ob):(cut w ob).heap[k]?=w.heap[k]?:=by
 unfold cut
 simp [Array.getElem?_extract]
 omega
theorem cut_below {w:World}{ob:Nat}(h:ob≤w.heap.size):Below ob (cut w ob) w:=⟨rfl,rfl,rfl,by rw [cut_size h];exact h,fun k hk=>(cut_get h hk).symm⟩
theorem NC.into {W W':World}{nb o:Nat}{n:Nd}{kp:Option Addr}{kl kc:Nat}(h:NC W nb o n kp kl kc)(hn:W'.heap[nb]?=W.heap[nb]?)(hk:0<kl→∀b off,kp=some ⟨b,off,none⟩→b<W'.heap.size∧W'.heap[b]?=W.heap[b]?):NC W' nb o n kp kl kc where
 kind:=(World.cell?_of_block (w:=W) hn).trans h.kind
 at':=(World.cell?_of_block (w:=W) hn).trans h.at'
 text:=(World.cell?_of_block (w:=W) hn).trans h.text
 n:=(World.cell?_of_block (w:=W) hn).trans h.n
 kids:=(World.cell?_of_block (w:=W) hn).trans h.kids
 iv:=⟨h.iv.len_eq,h.iv.cap,fun hl=>by
  obtain ⟨b,off,e,hlt,hc⟩:=h.iv.cell hl
  exact ⟨b,off,e,(hk hl b off e).1,fun i hi=>(World.cell?_of_block (w:=W) (a:=⟨b,off+i,none⟩) (hk hl b off e).2).trans (hc i hi)⟩⟩
structure BsFor (B:Bs)(w5:World)(nb nc ob len:Nat)(ns:List Nd)(rb tm pm:Nat):Prop where
 ok:BsOk B
 wn:B.Wn=cut w5 ob
 nb:B.nb=nb
 nl:B.nl=len
 nc:B.nc=nc
 ns:B.ns=ns
 ob:B.ob=ob
 oc:B.oc=len
 rb:B.rb=rb
 tm:B.tm=tm
 pm:B.pm=pm
theorem bs_of {w w5:World}{nb nc ob len:Nat}{ns:List Nd}{S:Nat→Nat}(h:UnR w w5 nb nc ob len ns)(rt:Rt ns S)(hl:ns.length=len)(few:len≤70000)(txt:∀i,(nd ns i).text.size≤70000){rb tm pm:Nat}(h1:ob<tm)(h2:ob<pm)(h3:ob<rb)(h4:tm≠pm):∃B,BsFor B w5 nb nc ob len ns rb tm pm:=by
 have hob:ob<w5.heap.size:=(Array.getElem?_eq_some_iff.1 h.of).1
 have hob2:ob≤w5.heap.size:=Nat.le_of_lt hob
 have ex:∀j,∃q:Option Addr × Nat,j<len→NC w5 nb (j*5) (nd ns j) q.1 (nd ns j).kids.length q.2∧(0<(nd ns j).kids.length→∀b off,q.1=some ⟨b,off,none⟩→b≠nb∧b<ob):=fun j=>by
  by_cases hj:j<len
  · obtain ⟨kp,kl,kc,h5,h6⟩:=h.node j hj
    obtain rfl:=h5.iv.len_eq
    exact ⟨(kp,kc),fun _=>⟨h5,h6⟩⟩
  · exact ⟨(none,0),fun h=>absurd h hj⟩
 obtain ⟨f,hf⟩:=Classical.axiomOfChoice ex
 have hs:=cut_size hob2
 refine ⟨{ Wn:=cut w5 ob,nb:=nb,nl:=len,nc:=nc,kp:=fun j=>(f j).1,kc:=fun j=>(f j).2,S:=S,ns:=ns,ob:=ob,oc:=len,rb:=rb,tm:=tm,pm:=pm },⟨?_,rfl,rfl,rfl,rfl,rfl,rfl,rfl,rfl,rfl,rfl⟩⟩
 refine ⟨by simp only;omega,by simp only;rw [hs];exact h.nbo,hl,h.cap,fun i hi=>?_,rt,Nat.le_refl _,h1,h2,h3,h4,txt,few⟩
 obtain ⟨g1,g2⟩:=hf i hi
 exact NC.into g1 (cut_get hob2 h.nbo) (fun h0 b off e=>⟨by rw [hs];exact (g2 h0 b off e).2,cut_get hob2 (g2 h0 b off e).2⟩)
theorem rh_begin {B:Bs}{w w5 W:World}{nb nc ob len:Nat}{ns:List Nd}{rb tm pm:Nat}(hB:BsFor B w5 nb nc ob len ns rb tm pm)(h:UnR w w5 nb nc ob len ns)(hl:ns.length=len)(hb:Below w5.heap.size w5 W)(ht:numM W tm [])(hp:numM W pm [])
 (hr:W.heap[rb]?=some (.cells #[.slice (some ⟨nb,0,none⟩) len nc,.slice none 0 0,.slice none 0 0,.slice (some ⟨ob,0,none⟩) len len,.map (some tm),.map (some pm),.slice none 0 0] 137 (0,0))) :
 Rh B { of:=List.replicate B.ns.length (-1),tnames:=[],pnames:=[],tabs:=[] } [] [] [] [] (.slice none 0 0) (.slice none 0 0) (.slice none 0 0) (rcells B (.slice none 0 0) (.slice none 0 0) (.slice none 0 0)) W:=by
 obtain ⟨ok,e1,e2,e3,e4,e5,e6,e7,e8,e9,e10⟩:=hB
 have hob:ob<w5.heap.size:=(Array.getElem?_eq_some_iff.1 h.of).1
 have hob2:ob≤w5.heap.size:=Nat.le_of_lt hob
 have hw:Below B.Wn.heap.size B.Wn W:=by
  rw [e1,cut_size hob2]
  exact (cut_below hob2).trans (hb.mono hob2)
 refine { lw:=⟨hw,⟨[],?_⟩,?_,?_,rfl,rfl⟩,tmap:=by rw [e9];exact ht,pmap:=by rw [e10];exact hp,tap:=List.Pairwise.nil,pap:=List.Pairwise.nil,t64:=by simp,p64:=by simp,trow:=World.ownsRow_nil _ _ _ _,crow:=World.ownsRow_nil _ _ _ _,prow:=World.ownsRow_nil _ _ _ _,tlen:=rfl,mlen:=rfl,plen:=rfl,tcols:=fun j hj=>by simp at hj,cmaps:=fun j hj=>by simp at hj,pvars:=fun j hj=>by simp at hj,caps:=fun t ht=>by simp at ht,tfew:=by simp }
 · rw [e6,hb.block ob hob,h.of,e5,hl]
   simp [ints]
 · simp only [List.length_replicate]
   rw [e5,e3,hl]
 · unfold rcells
   rw [e2,e3,e4,e6,e7,e8,e9,e10]
   exact hr
theorem own_far {w w':World}{base:Nat}{e:TypeId}{size n:Nat}{v:Value}{xs:List Value}(h:w.ownsRow base e size v n xs)(hf:∀k,base≤k→w'.heap[k]?=w.heap[k]?):w'.ownsRow base e size v n xs:=by
 refine ⟨h.1,?_⟩
 rcases h.2 with hn|⟨g,cap,cur,rfl,hbg,hg,rest⟩
 · exact .inl hn
 · exact .inr ⟨g,cap,cur,rfl,hbg,(hf g hbg).trans hg,rest⟩
structure PgW (W:World)(base nb nc ob:Nat)(tv pv:Value)(ns:List Nd)(a:List Tb × List Pr × List Int)(tcv pvv:List Value):Prop where
 tree:TV W (some ⟨nb,0,none⟩) ns.length nc ns
 of:IV W (some ⟨ob,0,none⟩) ns.length ns.length a.2.2
 trow:W.ownsRow base 84 2 tv a.1.length (tblC a.1 tcv)
 tlen:tcv.length=a.1.length
 tcols:∀j,j<a.1.length→W.ownsRow base 9 1 (tcv.getD j default) ((a.1.map Tb.cols).getD j []).length (strs ((a.1.map Tb.cols).getD j []))
 prow:W.ownsRow base 82 5 pv a.2.1.length (prcC a.2.1 pvv)
 plen:pvv.length=a.2.1.length
 pvars:∀j,j<a.2.1.length→W.ownsRow base 9 1 (pvv.getD j default) ((a.2.1.map Pr.vars).getD j []).length (strs ((a.2.1.map Pr.vars).getD j []))
theorem own_below {w w':World}{base:Nat}{e:TypeId}{size n:Nat}{v:Value}{xs:List Value}(h:w.ownsRow base e size v n xs)(hb:Below w.heap.size w w'):w'.ownsRow base e size v n xs:=by
 refine ⟨h.1,?_⟩
 rcases h.2 with hn|⟨g,cap,cur,rfl,hbg,hg,rest⟩
 · exact .inl hn
 · exact .inr ⟨g,cap,cur,rfl,hbg,(hb.block g (Array.getElem?_eq_some_iff.1 hg).1).trans hg,rest⟩
theorem PgW.on {W W':World}{base nb nc ob:Nat}{tv pv:Value}{ns:List Nd}{a:List Tb × List Pr × List Int}{tcv pvv:List Value}(h:PgW W base nb nc ob tv pv ns a tcv pvv)(hb:Below W.heap.size W W'):PgW W' base nb nc ob tv pv ns a tcv pvv where
 tree:=h.tree.on hb
 of:=h.of.on hb
 trow:=own_below h.trow hb
 tlen:=h.tlen
 tcols:=fun j hj=>own_below (h.tcols j hj) hb
 prow:=own_below h.prow hb
 plen:=h.plen
 pvars:=fun j hj=>own_below (h.pvars j hj) hb
theorem pg_of {B:Bs}{w w5 W W':World}{nb nc ob len:Nat}{ns:List Nd}{rb tm pm pb eb:Nat}{h:Hd}{prs:List Pr}{tcv:List Value}{mt:List Nat}{pvv:List Value}{tv pv cv:Value}{cs:Array Value}
 (hB:BsFor B w5 nb nc ob len ns rb tm pm) (hu:UnR w w5 nb nc ob len ns) (hl:ns.length=len) (r:Rh B h prs tcv mt pvv tv pv cv cs W) (hpb:pb<w.heap.size) (heb:eb<w.heap.size) (hpk:PBk w5 pb (.slice none 0 0) (.slice none 0 0) (.slice none 0 0) (.slice none 0 0)) (hek:Boxed w5 eb 25 .nilIface)
 (hs:W.heap.size≤W'.heap.size) (hf:∀k,k≠pb→k≠eb→W'.heap[k]?=W.heap[k]?):PgW W' (ob+1) nb nc ob tv pv ns (h.tabs,prs,h.of) tcv pvv:=by
 obtain ⟨ok,e1,e2,e3,e4,e5,e6,e7,e8,e9,e10⟩:=hB
 have hob:ob<w5.heap.size:=(Array.getElem?_eq_some_iff.1 hu.of).1
 have hob2:ob≤w5.heap.size:=Nat.le_of_lt hob
 have hnw:=hu.nbw
 have hno:=hu.nbo
 have far:∀k,ob≤k→W'.heap[k]?=W.heap[k]?:=fun k hk=>hf k (by omega) (by omega)
 have hwn:∀k,k<ob→W.heap[k]?=B.Wn.heap[k]?:=fun k hk=>r.lw.bn.block k (by rw [e1,cut_size hob2];exact hk)
 have hsn:B.Wn.heap.size=ob:=by rw [e1,cut_size hob2]
 have hcn:∀k,k<ob→B.Wn.heap[k]?=w5.heap[k]?:=fun k hk=>by rw [e1];exact cut_get hob2 hk
 obtain ⟨rest,hrow⟩:=r.lw.row
 have hlt:ob<W.heap.size:=by rw [← e6];exact (Array.getElem?_eq_some_iff.1 hrow).1
 have hol:=r.lw.len
 have hpn:PBk B.Wn pb (.slice none 0 0) (.slice none 0 0) (.slice none 0 0) (.slice none 0 0):=hpk.on (hcn pb (by omega))
 have hen:Boxed B.Wn eb 25 .nilIface:=(hcn eb (by omega)).trans hek
 refine ⟨⟨rfl,by rw [hl,← e4,← e3];exact ok.nlc,fun _=>⟨nb,0,rfl,by omega,fun i hi=>?_⟩⟩,⟨by rw [hol,e3,hl],Nat.le_refl _,fun _=>⟨ob,0,rfl,by omega,fun i hi=>?_⟩⟩,own_far (by rw [← e6];exact r.trow) (fun k hk=>far k (by omega)),r.tlen,fun j hj=>own_far (by rw [← e6];exact r.tcols j hj) (fun k hk=>far k (by omega)),own_far (by rw [← e6];exact r.prow) (fun k hk=>far k (by omega)),r.plen,fun j hj=>own_far (by rw [← e6];exact r.pvars j hj) (fun k hk=>far k (by omega))⟩
 · have hn:=ok.node i (by omega)
   rw [e5,e2] at hn
   rw [Nat.zero_add]
   refine ⟨_,_,_,NC.into hn ((hf nb (by omega) (by omega)).trans (hwn nb hno)) (fun h0 b off e=>?_)⟩
   obtain ⟨b2,off2,e2',hlt2,hc2⟩:=hn.iv.cell h0
   rw [e] at e2'
   cases e2'
   have hc0:=hc2 0 h0
   rw [hsn] at hlt2
   have hbp:b≠pb:=fun hq=>by
    rw [hq,cell_of_row _ _ _ _ _ _ hpn] at hc0
    rcases off with _|_|_|_|_<;>simp at hc0
   have hbe:b≠eb:=fun hq=>by
    have hen2:B.Wn.heap[eb]?=some (.cells #[.nilIface] 25 (0,0)):=hen
    rw [hq,cell_of_row _ _ _ _ _ _ hen2] at hc0
    rcases off with _|_<;>simp at hc0
   exact ⟨by omega,(hf b hbp hbe).trans (hwn b hlt2)⟩
 · have h1:W'.heap[ob]?=some (.cells (ints h.of++rest).toArray 3 (0,0)):=(far ob (Nat.le_refl _)).trans (by rw [← e6];exact hrow)
   rw [cell_of_row _ _ _ _ _ _ h1]
   have h2:i<h.of.length:=by omega
   simp only [ints,List.getElem?_toArray,Nat.zero_add]
   rw [List.getElem?_append_left (by simpa using h2)]
   simp [List.getD,h2]
end Nm
namespace Tr
open Go.RowKit Go.MapKept
theorem insert_new (w:World)(es:Array MapEntry)(n:Nat)(k:Int)(v:Value)(h:Instr.findNow (.int .u8) (.int .u8 k) es.toList 0=some none) :
 (Instr.mapUpdate 150 (.map (some w.heap.size)) (.int .u8 k) v).run Tryz.prog (w.alloc (.map es n))=.ok () (w.alloc (.map (es.push { key:=.int .u8 k,val:=v,born:=n }) (n+1))):=by
 have hb:(w.alloc (.map es n)).heap[w.heap.size]?=some (.map es n):=by
  show (w.heap.push (.map es n))[w.heap.size]?=_
  simp
 have hk:(Instr.checkKey false 10000 147 (.int .u8 k)).run Tryz.prog (w.alloc (.map es n))=.ok () (w.alloc (.map es n)):=run_checkKey Tryz.underlying147 (by simp [IsKey]) false 9999
 have hp:∀(a:Array Obj) (x y:Obj),(a.push x).setIfInBounds a.size y=a.push y:=fun a x y=>by
  apply Array.ext_getElem?
  intro i
  by_cases h:i=a.size
  · subst h;simp
  · have h':¬ a.size=i:=fun e=>h e.symm
    simp [Array.getElem?_push,h,h']
 have hw:∀o:Obj,({ w.alloc (.map es n) with heap:=(w.alloc (.map es n)).heap.setIfInBounds w.heap.size o }:World)=w.alloc o:=fun o=>by
  show ({ w with heap:=(w.heap.push (.map es n)).setIfInBounds w.heap.size o }:World)=_
  rw [hp]
  rfl
 simp only [Instr.mapUpdate,Sem.run_bind,run_underlying Tryz.underlying150,Result.andThen,Go.MapKept.run_getObj_map hb,hk,run_findKey (P:=Tryz.prog) Tryz.underlying147 h,run_setObj_map _ hb,hw]
theorem lookup_at (W:World)(r:Nat)(es:Array MapEntry)(n i:Nat)(k:Int)(v:Value)(hb:W.heap[r]?=some (.map es n))(h:Instr.findNow (.int .u8) (.int .u8 k) es.toList 0=some (some (i,v))) :
 (Instr.lookup 150 (.map (some r)) (.int .u8 k) false).run Tryz.prog W=.ok v W:=by
 have hk:∀b,(Instr.checkKey b 10000 147 (.int .u8 k)).run Tryz.prog W=.ok () W:=fun b=>run_checkKey Tryz.underlying147 (by simp [IsKey]) b 9999
 simp only [Instr.lookup,Sem.run_bind,run_underlying Tryz.underlying150,Result.andThen,Go.MapKept.run_getObj_map hb,hk,run_findKey (P:=Tryz.prog) Tryz.underlying147 h,Sem.run_pure]
 simp
def mem (k:Int):ByteArray :=
 if k=1 then ⟨#[32,9,10,13]⟩ else if k=2 then ⟨#[35]⟩
 else if k=3 then ⟨#[97,98,99,100,101,102,103,104,105,106,107,108,109,110,111,112,113,114,115,116,117,118,119,120,121,122]⟩
 else if k=4 then ⟨#[48,49,50,51,52,53,54,55,56,57]⟩ else if k=5 then ⟨#[95]⟩
 else ⟨#[123,125,40,41,91,93,59,44,46,43,45,42,60,61]⟩
def ent (k:Int)(b:Nat):MapEntry:={ key:=.int .u8 k,val:=.agg #[.string (mem k)],born:=b }
def ES:Array MapEntry:=#[ent 1 0,ent 2 1,ent 3 2,ent 4 3,ent 5 4,ent 6 5]
theorem find_es (k:Int)(h1:1≤k)(h6:k≤6):∃i,Instr.findNow (.int .u8) (.int .u8 k) ES.toList 0=some (some (i,.agg #[.string (mem k)])):=by
 obtain rfl|rfl|rfl|rfl|rfl|rfl:k=1∨k=2∨k=3∨k=4∨k=5∨k=6:=by omega
 all_goals exact ⟨_,rfl⟩
def paint (s:ByteArray)(k:Int)(j:Nat)(F:Nat→Int):Nat→Int:=fun x=>if ((s.data.toList.take j).map UInt8.toNat).contains x then k else F x
theorem paint_zero (s:ByteArray)(k:Int)(F:Nat→Int):paint s k 0 F=F:=by funext x;simp [paint]
theorem paint_succ (s:ByteArray)(k:Int)(j:Nat)(F:Nat→Int)(h:j<s.size):paint s k (j+1) F=fun x=>if x=s[j].toNat then k else paint s k j F x:=by
 have hj:j<s.data.toList.length:=by simpa using h
 funext x
 have e:s.data.toList.take (j+1)=s.data.toList.take j++[s[j]]:=by
  rw [List.take_succ_eq_append_getElem hj]
  rfl
 simp only [paint,e,List.map_append,List.map_cons,List.map_nil,List.contains_append,List.contains_cons,List.contains_nil,Bool.or_false]
 by_cases h1:x=s[j].toNat
 · simp [h1]
 · simp [h1]
def FK:Nat→Nat→Int
 | 0=>fun _=>0
 | k+1=>paint (mem (k+1:Nat)) (k+1:Nat) (mem (k+1:Nat)).size (FK k)
theorem FK_kind:∀c:Nat,c<256→FK 6 c=kindF c:=by decide +kernel
theorem zero82 (w:World):(zeroValue 151).run Tryz.prog w=.ok (.agg (Array.replicate 256 (.int .u8 0))) w:=by kernel_rfl
structure KW (w W:World)(F:Nat→Int):Prop where
 below:Below w.heap.size w W
 map:W.heap[w.heap.size]?=some (.map ES 6)
 arr:∀c:Nat,c<256→W.cell? ⟨w.heap.size+1,c,none⟩=some (.int .u8 (F c))
 free:∀c:Nat,W.frozen? ⟨w.heap.size+1,c,none⟩=false
 size:w.heap.size+1<W.heap.size
theorem KW.store {w W:World}{F:Nat→Int}(h:KW w W F)(c:Nat)(hc:c<256)(k:Int):KW w (W.setCell ⟨w.heap.size+1,c,none⟩ (.int .u8 k)) (fun x=>if x=c then k else F x) where
 below:=h.below.setCell (by simp) _
 map:=by rw [Below.heap_setCell _ _ _ _ (by simp)];exact h.map
 arr:=fun x hx=>by
  by_cases e:x=c
  · subst e
    have:=h.arr x hx
    rw [World.cell?_setCell_same _ _ _ this];simp
  · rw [World.cell?_setCell_other _ _ _ _ (by simp)]
    simp [e,h.arr x hx]
 free:=fun x=>by simp [h.free x]
 size:=by simpa [World.setCell] using h.size
theorem byteKinds_run (w:World):Calls Tryz.prog 47 #[] w fun e w'=>e=.returned (.func (.func 87) #[] #[.pointer (some ⟨w.heap.size+1,0,none⟩)])∧KW w w' (FK 6):=by
 have hmm:=@run_makeMap Tryz.prog
 obtain ⟨Z,hZ⟩:∃Z,Z=Array.replicate 256 (Value.int .u8 0):=⟨_,rfl⟩
 have z0:∀w,(zeroValue 151).run Tryz.prog w=.ok (.agg Z) w:=fun w=>by rw [hZ];exact zero82 w
 have z1:¬ Z=#[]:=by rw [hZ];simp
 have HZ:=lh hZ
 clear hZ
 have i1:(Instr.mapUpdate 150 (.map (some w.heap.size)) (.int .u8 1) (.agg #[.string ⟨#[32,9,10,13]⟩])).run Tryz.prog (w.alloc (.map #[] 0))=.ok () (w.alloc (.map #[{ key:=.int .u8 1,val:=.agg #[.string ⟨#[32,9,10,13]⟩],born:=0 }] 1)):=insert_new w #[] 0 1 _ rfl
 have i2:(Instr.mapUpdate 150 (.map (some w.heap.size)) (.int .u8 2) (.agg #[.string ⟨#[35]⟩])).run Tryz.prog (w.alloc (.map #[{ key:=.int .u8 1,val:=.agg #[.string ⟨#[32,9,10,13]⟩],born:=0 }] 1))=.ok () (w.alloc (.map #[{ key:=.int .u8 1,val:=.agg #[.string ⟨#[32,9,10,13]⟩],born:=0 },{ key:=.int .u8 2,val:=.agg #[.string ⟨#[35]⟩],born:=1 }] 2)):=insert_new w #[ent 1 0] 1 2 _ rfl
 have i3:(Instr.mapUpdate 150 (.map (some w.heap.size)) (.int .u8 3) (.agg #[.string ⟨#[97,98,99,100,101,102,103,104,105,106,107,108,109,110,111,112,113,114,115,116,117,118,119,120,121,122]⟩])).run Tryz.prog (w.alloc (.map #[{ key:=.int .u8 1,val:=.agg #[.string ⟨#[32,9,10,13]⟩],born:=0 },{ key:=.int .u8 2,val:=.agg #[.string ⟨#[35]⟩],born:=1 }] 2))=.ok () (w.alloc (.map #[{ key:=.int .u8 1,val:=.agg #[.string ⟨#[32,9,10,13]⟩],born:=0 },{ key:=.int .u8 2,val:=.agg #[.string ⟨#[35]⟩],born:=1 },{ key:=.int .u8 3,val:=.agg #[.string ⟨#[97,98,99,100,101,102,103,104,105,106,107,108,109,110,111,112,113,114,115,116,117,118,119,120,121,122]⟩],born:=2 }] 3)):=insert_new w #[ent 1 0,ent 2 1] 2 3 _ rfl
 have i4:(Instr.mapUpdate 150 (.map (some w.heap.size)) (.int .u8 4) (.agg #[.string ⟨#[48,49,50,51,52,53,54,55,56,57]⟩])).run Tryz.prog (w.alloc (.map #[{ key:=.int .u8 1,val:=.agg #[.string ⟨#[32,9,10,13]⟩],born:=0 },{ key:=.int .u8 2,val:=.agg #[.string ⟨#[35]⟩],born:=1 },{ key:=.int .u8 3,val:=.agg #[.string ⟨#[97,98,99,100,101,102,103,104,105,106,107,108,109,110,111,112,113,114,115,116,117,118,119,120,121,122]⟩],born:=2 }] 3))=.ok () (w.alloc (.map #[{ key:=.int .u8 1,val:=.agg #[.string ⟨#[32,9,10,13]⟩],born:=0 },{ key:=.int .u8 2,val:=.agg #[.string ⟨#[35]⟩],born:=1 },{ key:=.int .u8 3,val:=.agg #[.string ⟨#[97,98,99,100,101,102,103,104,105,106,107,108,109,110,111,112,113,114,115,116,117,118,119,120,121,122]⟩],born:=2 },{ key:=.int .u8 4,val:=.agg #[.string ⟨#[48,49,50,51,52,53,54,55,56,57]⟩],born:=3 }] 4)):=insert_new w #[ent 1 0,ent 2 1,ent 3 2] 3 4 _ rfl
 have i5:(Instr.mapUpdate 150 (.map (some w.heap.size)) (.int .u8 5) (.agg #[.string ⟨#[95]⟩])).run Tryz.prog (w.alloc (.map #[{ key:=.int .u8 1,val:=.agg #[.string ⟨#[32,9,10,13]⟩],born:=0 },{ key:=.int .u8 2,val:=.agg #[.string ⟨#[35]⟩],born:=1 },{ key:=.int .u8 3,val:=.agg #[.string ⟨#[97,98,99,100,101,102,103,104,105,106,107,108,109,110,111,112,113,114,115,116,117,118,119,120,121,122]⟩],born:=2 },{ key:=.int .u8 4,val:=.agg #[.string ⟨#[48,49,50,51,52,53,54,55,56,57]⟩],born:=3 }] 4))=.ok () (w.alloc (.map #[{ key:=.int .u8 1,val:=.agg #[.string ⟨#[32,9,10,13]⟩],born:=0 },{ key:=.int .u8 2,val:=.agg #[.string ⟨#[35]⟩],born:=1 },{ key:=.int .u8 3,val:=.agg #[.string ⟨#[97,98,99,100,101,102,103,104,105,106,107,108,109,110,111,112,113,114,115,116,117,118,119,120,121,122]⟩],born:=2 },{ key:=.int .u8 4,val:=.agg #[.string ⟨#[48,49,50,51,52,53,54,55,56,57]⟩],born:=3 },{ key:=.int .u8 5,val:=.agg #[.string ⟨#[95]⟩],born:=4 }] 5)):=insert_new w #[ent 1 0,ent 2 1,ent 3 2,ent 4 3] 4 5 _ rfl
 have i6:(Instr.mapUpdate 150 (.map (some w.heap.size)) (.int .u8 6) (.agg #[.string ⟨#[123,125,40,41,91,93,59,44,46,43,45,42,60,61]⟩])).run Tryz.prog (w.alloc (.map #[{ key:=.int .u8 1,val:=.agg #[.string ⟨#[32,9,10,13]⟩],born:=0 },{ key:=.int .u8 2,val:=.agg #[.string ⟨#[35]⟩],born:=1 },{ key:=.int .u8 3,val:=.agg #[.string ⟨#[97,98,99,100,101,102,103,104,105,106,107,108,109,110,111,112,113,114,115,116,117,118,119,120,121,122]⟩],born:=2 },{ key:=.int .u8 4,val:=.agg #[.string ⟨#[48,49,50,51,52,53,54,55,56,57]⟩],born:=3 },{ key:=.int .u8 5,val:=.agg #[.string ⟨#[95]⟩],born:=4 }] 5))=.ok () (w.alloc (.map #[{ key:=.int .u8 1,val:=.agg #[.string ⟨#[32,9,10,13]⟩],born:=0 },{ key:=.int .u8 2,val:=.agg #[.string ⟨#[35]⟩],born:=1 },{ key:=.int .u8 3,val:=.agg #[.string ⟨#[97,98,99,100,101,102,103,104,105,106,107,108,109,110,111,112,113,114,115,116,117,118,119,120,121,122]⟩],born:=2 },{ key:=.int .u8 4,val:=.agg #[.string ⟨#[48,49,50,51,52,53,54,55,56,57]⟩],born:=3 },{ key:=.int .u8 5,val:=.agg #[.string ⟨#[95]⟩],born:=4 },{ key:=.int .u8 6,val:=.agg #[.string ⟨#[123,125,40,41,91,93,59,44,46,43,45,42,60,61]⟩],born:=5 }] 6)):=insert_new w #[ent 1 0,ent 2 1,ent 3 2,ent 4 3,ent 5 4] 5 6 _ rfl
 go_enter Tryz.func47,Tryz.ntmps47
 go_wp2_with fail
 have K0:KW w ((w.alloc (.map ES 6)).alloc (.cells Z 151)) (FK 0) :=
  { below := ((Below.refl _ _).alloc (Nat.le_refl _) _).alloc (by simp) _
    map:=by
     show ((w.heap.push (.map ES 6)).push _)[w.heap.size]?=_
     rw [Array.getElem?_push_lt (by simp)]
     simp
    arr:=fun c hc=>by
     have:Z[c]?=some (.int .u8 0):=by rw [HZ.out];simp [hc]
     simp [FK,this]
    free:=fun c=>by simp
    size:=by simp }
 clear i1 i2 i3 i4 i5 i6 hmm z0 z1
 go_loopw [3] (fun kv wr=>∃k:Nat,1≤k∧k≤7∧kv=.int .u8 k∧KW w wr (FK (k-1))) (fun kv _=>8-(intOf kv).toNat)
 case atStart=>exact ⟨1,by omega,by omega,rfl,K0⟩
 case round =>
  obtain ⟨k,h1,h7,rfl,hK⟩:=hrel
  clear K0
  by_cases hk:k=7
  · subst hk
    have HK:=lh hK
    clear hK
    go_wp2
    go_ret
    exact ⟨rfl,HK.out⟩
  · have hk6:k≤6:=by omega
    obtain ⟨ix,hfd⟩:=find_es (k:Int) (by omega) (by omega)
    have hlk:=lookup_at wr w.heap.size ES 6 ix k _ hK.map hfd
    clear hfd
    have hsz:(mem (k:Int)).size≤26:=by
     obtain rfl|rfl|rfl|rfl|rfl|rfl:k=1∨k=2∨k=3∨k=4∨k=5∨k=6:=by omega
     all_goals decide
    obtain ⟨s,hs⟩:∃s,s=mem (k:Int):=⟨_,rfl⟩
    rw [← hs] at hlk hsz
    have HS:=lh hs
    have HK:=lh hK
    clear hs hK
    have hfl:∀W:World,(Instr.field 149 (.agg #[.string s]) 0).run Tryz.prog W=.ok (.string s) W:=fun _=>by kernel_rfl
    go_wp2_with fail
    clear hlk
    go_loopw [24] (fun iv wr'=>∃j:Nat,j≤s.size∧iv=.int .i64 j∧KW w wr' (paint s k j (FK (k-1)))) (fun iv _=>s.size-(intOf iv).toNat)
    case atStart=>exact ⟨0,by omega,rfl,by rw [paint_zero];exact HK.out⟩
    case round =>
     obtain ⟨j,hj,rfl,hJ⟩:=hrel
     by_cases hjs:j<s.size
     · have hb:s[j].toNat<256:=UInt8.toNat_lt _
       have hc:=hJ.arr s[j].toNat hb
       have hf:=hJ.free s[j].toNat
       have HJ:=lh hJ
       clear hJ
       go_wp2
       go_roundw
       case rel=>exact ⟨j+1,by omega,by go_num,by rw [paint_succ _ _ _ _ hjs];exact HJ.out.store _ hb _⟩
       case measure=>simp [intOf];omega
     · have HJ:=lh hJ
       clear hJ
       go_wp2
       go_roundw
       case rel=>exact ⟨k+1,by omega,by omega,by go_num,by
        have e:j=s.size:=by omega
        have:=HJ.out
        rw [e,HS.out] at this
        obtain ⟨m,rfl⟩:∃m,k=m+1:=⟨k-1,by omega⟩
        exact this⟩
       case measure=>simp [intOf];omega
end Tr
namespace Nm
open Go.RowKit Go.Maps Tr Par
structure TX (W:World)(p:Option Addr)(len c:Nat)(xs:List ByteArray):Prop where
 len_eq:xs.length=len
 cap:len≤c
 cell:0<len→∃b off,p=some ⟨b,off,none⟩∧b<W.heap.size∧∀i,i<len→W.cell? ⟨b,off+i,none⟩=some (.string (xs.getD i default))
theorem TX.on {W W':World}{p:Option Addr}{len c:Nat}{xs:List ByteArray}(h:TX W p len c xs)(hb:Below W.heap.size W W'):TX W' p len c xs where
 len_eq:=h.len_eq
 cap:=h.cap
 cell:=fun hl=>by
  obtain ⟨b,off,e,hlt,hc⟩:=h.cell hl
  exact ⟨b,off,e,Nat.lt_of_lt_of_le hlt hb.size,fun i hi=>by rw [hb.cell (p:=⟨b,off+i,none⟩) hlt];exact hc i hi⟩
theorem tx_own {W:World}{B:Nat}{v:Value}{xs:List ByteArray}(h:W.ownsRow B 9 1 v xs.length (strs xs)):∃p c,v=.slice p xs.length c∧TX W p xs.length c xs:=by
 rcases h.2 with ⟨rfl,h0⟩|⟨g,c,cur,rfl,hB,hg,hc,_,_,ht⟩
 · exact ⟨none,0,by rw [h0],rfl,by omega,fun h=>by omega⟩
 · refine ⟨_,_,rfl,rfl,hc,fun _=>⟨g,0,rfl,(Array.getElem?_eq_some_iff.1 hg).1,fun i hi=>?_⟩⟩
   rw [cell_of_row _ _ _ _ _ _ hg,← Array.getElem?_toList]
   have h2:(cur.toList.take (xs.length*1))[0+i]?=(strs xs)[0+i]?:=by rw [ht]
   rw [List.getElem?_take,if_pos (by omega)] at h2
   rw [h2]
   simp [strs,List.getD,hi]
theorem sameTexts_at (w:World)(p p2:Option Addr)(len len2 c c2:Nat)(xs ys:List ByteArray)(h:TX w p len c xs)(h2:TX w p2 len2 c2 ys)(hl:len≤70000)(hl2:len2≤70000) :
 Calls Tryz.prog 44 #[.slice p len c,.slice p2 len2 c2] w fun e w'=>e=.returned (.bool (decide (xs=ys)))∧Below w.heap.size w w':=by
 have H:=lh h
 have H2:=lh h2
 have e1:=h.len_eq
 have e2:=h2.len_eq
 clear h h2
 go_enter Tryz.func44,Tryz.ntmps44
 by_cases hne:len=len2
 · subst hne
   have q0:((len:Int) != (len:Int))=false:=by simp
   go_wp2_with fail
   go_loopw [5] (fun iv wr=>∃k:Nat,k≤len∧iv=.int .i64 k∧Hid (∀i,i<k→xs.getD i default=ys.getD i default)∧Hid (Below w.heap.size w wr)) (fun iv _=>len-(intOf iv).toNat)
   case atStart=>exact ⟨0,by omega,rfl,lh (fun i hi=>by omega),lh (Below.refl _ _)⟩
   case round =>
    obtain ⟨k,hk,rfl,HE,HB⟩:=hrel
    by_cases hlt:k<len
    · obtain ⟨b,off,rfl,_,hc⟩:=(H.out.on HB.out).cell (by omega)
      obtain ⟨b2,off2,rfl,_,hc2⟩:=(H2.out.on HB.out).cell (by omega)
      have k0:=hc k hlt
      have u0:=hc2 k hlt
      obtain ⟨x,hx⟩:∃x,xs.getD k default=x:=⟨_,rfl⟩
      obtain ⟨y,hy⟩:∃y,ys.getD k default=y:=⟨_,rfl⟩
      rw [hx] at k0
      rw [hy] at u0
      clear hc hc2
      have hk0:(0:Int)≤(k:Int):=by omega
      have hk1:(k:Int)<(len:Int):=by omega
      by_cases hxy:x=y
      · have HXY:Hid (xs.getD k default=ys.getD k default):=lh (by rw [hx,hy,hxy])
        have hs:(x.toList==y.toList)=true:=by rw [beq_str];exact decide_eq_true hxy
        clear hx hy
        go_wp2_with fail
        go_quiet (fail)
        have HB2:=lh (HB.out.trans (Tr.drewN_below _ wr nq))
        clear k0 u0
        go_wp2
        go_roundw
        case rel=>exact ⟨k+1,by omega,by go_num,lh (fun i hi=>by
         by_cases hik:i<k
         · exact HE.out i hik
         · obtain rfl:i=k:=by omega
           exact HXY.out),HB2⟩
        case measure=>simp [intOf];omega
      · have HXY:Hid (xs≠ys):=lh (fun e=>hxy (by rw [← hx,← hy,e]))
        have hs:(x.toList==y.toList)=false:=by rw [beq_str];exact decide_eq_false hxy
        clear hx hy
        go_wp2_with fail
        go_quiet (fail)
        have HB2:=lh (HB.out.trans (Tr.drewN_below _ wr nq))
        clear k0 u0
        go_wp2
        go_ret
        have hd:decide (xs=ys)=false:=decide_eq_false HXY.out
        rw [hd]
        exact ⟨rfl,HB2.out⟩
    · obtain rfl:k=len:=by omega
      have heq:xs=ys:=by
       apply List.ext_getElem (by omega)
       intro i h1 h2
       have:=HE.out i (by omega)
       simpa [List.getD,h1,h2] using this
      have hd:decide (xs=ys)=true:=decide_eq_true heq
      go_wp2
      go_ret
      rw [hd]
      exact ⟨rfl,HB.out⟩
 · have q0:((len:Int) != (len2:Int))=true:=by simp;omega
   have hd:decide (xs=ys)=false:=decide_eq_false (fun e=>hne (by rw [← e1,← e2,e]))
   go_wp2_with fail
   go_ret
   rw [hd]
   exact ⟨rfl,Below.refl _ _⟩
end Nm
namespace Nm
open Go.RowKit Go.Maps Tr Par
theorem prc_get:∀(ps:List Pr) (vs:List Value) (j k:Nat) (pr:Pr),vs.length=ps.length→ps[j]?=some pr→k<5→(prcC ps vs)[j*5+k]?=[Value.string pr.name,.int .i64 pr.params,vs.getD j default,.bool pr.single,.int .i64 pr.root][k]?
 | [],_,j,k,pr,_,h,_=>by simp at h
 | p::ps,[],j,k,pr,hl,_,_=>by simp at hl
 | p::ps,v::vs,0,k,pr,hl,h,hk=>by
  simp only [List.getElem?_cons_zero,Option.some.injEq] at h
  subst h
  simp only [prcC,Nat.zero_mul,Nat.zero_add]
  rw [List.getElem?_append_left (by simpa using hk)]
  rfl
 | p::ps,v::vs,j+1,k,pr,hl,h,hk=>by
  simp only [List.getElem?_cons_succ] at h
  simp only [prcC]
  rw [List.getElem?_append_right (by simp;omega),show (j+1)*5+k - [Value.string p.name,.int .i64 p.params,v,.bool p.single,.int .i64 p.root].length=j*5+k by simp;omega]
  rw [prc_get ps vs j k pr (by simpa using hl) h hk]
  rfl
theorem tbl_get:∀(ts:List Tb) (vs:List Value) (j k:Nat) (t:Tb),vs.length=ts.length→ts[j]?=some t→k<2→(tblC ts vs)[j*2+k]?=[Value.string t.name,vs.getD j default][k]?
 | [],_,j,k,t,_,h,_=>by simp at h
 | p::ps,[],j,k,t,hl,_,_=>by simp at hl
 | p::ps,v::vs,0,k,t,hl,h,hk=>by
  simp only [List.getElem?_cons_zero,Option.some.injEq] at h
  subst h
  simp only [tblC,Nat.zero_mul,Nat.zero_add]
  rw [List.getElem?_append_left (by simpa using hk)]
  rfl
 | p::ps,v::vs,j+1,k,t,hl,h,hk=>by
  simp only [List.getElem?_cons_succ] at h
  simp only [tblC]
  rw [List.getElem?_append_right (by simp;omega),show (j+1)*2+k - [Value.string p.name,v].length=j*2+k by simp;omega]
  rw [tbl_get ps vs j k t (by simpa using hl) h hk]
  rfl
structure PrAt (W:World)(g j:Nat)(pr:Pr)(vp:Option Addr)(vc:Nat):Prop where
 c0:W.cell? ⟨g,j*5,none⟩=some (.string pr.name)
 c1:W.cell? ⟨g,j*5+1,none⟩=some (.int .i64 pr.params)
 c2:W.cell? ⟨g,j*5+2,none⟩=some (.slice vp pr.vars.length vc)
 c3:W.cell? ⟨g,j*5+3,none⟩=some (.bool pr.single)
 c4:W.cell? ⟨g,j*5+4,none⟩=some (.int .i64 pr.root)
 tx:TX W vp pr.vars.length vc pr.vars
structure TbAt (W:World)(g j:Nat)(t:Tb)(vp:Option Addr)(vc:Nat):Prop where
 c0:W.cell? ⟨g,j*2,none⟩=some (.string t.name)
 c1:W.cell? ⟨g,j*2+1,none⟩=some (.slice vp t.cols.length vc)
 tx:TX W vp t.cols.length vc t.cols
section
variable {W:World}{base nb nc ob:Nat}{tv pv:Value}{ns:List Nd}{a:List Tb × List Pr × List Int}{tcv pvv:List Value}
theorem PgW.procs (h:PgW W base nb nc ob tv pv ns a tcv pvv):∃p c,pv=.slice p a.2.1.length c∧a.2.1.length≤c∧(0<a.2.1.length→∃g,p=some ⟨g,0,none⟩∧g<W.heap.size∧∀j pr,a.2.1[j]?=some pr→∃vp vc,PrAt W g j pr vp vc):=by
 rcases h.prow.2 with ⟨e,h0⟩|⟨g,c,cur,e,hB,hg,hc,hm,hs,ht⟩
 · exact ⟨none,0,by rw [e,h0],by omega,fun h=>by omega⟩
 · refine ⟨_,_,e,hc,fun h0=>⟨g,rfl,(Array.getElem?_eq_some_iff.1 hg).1,fun j pr hj=>?_⟩⟩
   have hjl:j<a.2.1.length:=(List.getElem?_eq_some_iff.1 hj).1
   have hv:=h.pvars j hjl
   have hvn:(a.2.1.map Pr.vars).getD j []=pr.vars:=by simp [List.getD,hj]
   rw [hvn] at hv
   obtain ⟨vp,vc,hve,htx⟩:=tx_own hv
   have key:∀k u,k<5→[Value.string pr.name,.int .i64 pr.params,pvv.getD j default,.bool pr.single,.int .i64 pr.root][k]?=some u→W.cell? ⟨g,j*5+k,none⟩=some u:=fun k u hk hu=>by
    rw [cell_of_row _ _ _ _ _ _ hg,← Array.getElem?_toList]
    have h2:(cur.toList.take (a.2.1.length*5))[j*5+k]?=(prcC a.2.1 pvv)[j*5+k]?:=by rw [ht]
    rw [List.getElem?_take,if_pos (by omega)] at h2
    rw [h2,prc_get _ _ _ _ _ h.plen hj hk,hu]
   exact ⟨vp,vc,key 0 _ (by omega) rfl,key 1 _ (by omega) rfl,by rw [← hve];exact key 2 _ (by omega) rfl,key 3 _ (by omega) rfl,key 4 _ (by omega) rfl,htx⟩
theorem PgW.tabs (h:PgW W base nb nc ob tv pv ns a tcv pvv):∃p c,tv=.slice p a.1.length c∧a.1.length≤c∧(0<a.1.length→∃g,p=some ⟨g,0,none⟩∧g<W.heap.size∧∀j t,a.1[j]?=some t→∃vp vc,TbAt W g j t vp vc):=by
 rcases h.trow.2 with ⟨e,h0⟩|⟨g,c,cur,e,hB,hg,hc,hm,hs,ht⟩
 · exact ⟨none,0,by rw [e,h0],by omega,fun h=>by omega⟩
 · refine ⟨_,_,e,hc,fun h0=>⟨g,rfl,(Array.getElem?_eq_some_iff.1 hg).1,fun j t hj=>?_⟩⟩
   have hjl:j<a.1.length:=(List.getElem?_eq_some_iff.1 hj).1
   have hv:=h.tcols j hjl
   have hvn:(a.1.map Tb.cols).getD j []=t.cols:=by simp [List.getD,hj]
   rw [hvn] at hv
   obtain ⟨vp,vc,hve,htx⟩:=tx_own hv
   have key:∀k u,k<2→[Value.string t.name,tcv.getD j default][k]?=some u→W.cell? ⟨g,j*2+k,none⟩=some u:=fun k u hk hu=>by
    rw [cell_of_row _ _ _ _ _ _ hg,← Array.getElem?_toList]
    have h2:(cur.toList.take (a.1.length*2))[j*2+k]?=(tblC a.1 tcv)[j*2+k]?:=by rw [ht]
    rw [List.getElem?_take,if_pos (by omega)] at h2
    rw [h2,tbl_get _ _ _ _ _ h.tlen hj hk,hu]
   exact ⟨vp,vc,key 0 _ (by omega) rfl,by rw [← hve];exact key 1 _ (by omega) rfl,htx⟩
theorem PrAt.on {W W':World}{g j:Nat}{pr:Pr}{vp:Option Addr}{vc:Nat}(h:PrAt W g j pr vp vc)(hg:g<W.heap.size)(hb:Below W.heap.size W W'):PrAt W' g j pr vp vc:=by
 refine ⟨?_,?_,?_,?_,?_,h.tx.on hb⟩
 · rw [hb.cell (p:=⟨g,j*5,none⟩) hg];exact h.c0
 · rw [hb.cell (p:=⟨g,j*5+1,none⟩) hg];exact h.c1
 · rw [hb.cell (p:=⟨g,j*5+2,none⟩) hg];exact h.c2
 · rw [hb.cell (p:=⟨g,j*5+3,none⟩) hg];exact h.c3
 · rw [hb.cell (p:=⟨g,j*5+4,none⟩) hg];exact h.c4
end
end Nm
end Go.Proofs.YthdioipfdbbmmaaGreatDoor
