/- Contracts. -/
import Derived.Test.YthdioipfdbbmmaaGreatDoorKae
import Derived.Test.YthdioipfdbbmmaaGreatDoorKag
import Derived.Test.YthdioipfdbbmmaaGreatDoorKah
import Derived.Test.YthdioipfdbbmmaaGreatDoorKai
import Derived.Test.YthdioipfdbbmmaaGreatDoorKaj
import Derived.Test.YthdioipfdbbmmaaGreatDoorKak
import Derived.Laws.OwnMore
import Derived.Deep.AppendLies
import Derived.Lib.Hide
import Derived.Test.YthdioipfdbbmmaaGreatDoorProg
import Derived.Deep.RegionHeld3
import Derived.WalkSmall
import Derived.IntWalk
import Derived.Deep.RegionLaw
import Derived.Shelf.SlMaps.Clone
set_option linter.all false
set_option maxRecDepth 1000000
set_option maxHeartbeats 16000000
namespace Go.Proofs.YthdioipfdbbmmaaGreatDoor
namespace Nm
open Go.RowKit Go.Maps Tr
abbrev MD:=DataW Unit
def vrD (x:Vr):MD:=.agg [.lit (.int .i64 x.num),.lit (.bool x.loop)]
def vrR (v:Value):Option (MD × List MemPlace):=match v with
 | .agg cs=>match cs.toList with
  | [.int .i64 n,.bool l]=>some (.agg [.lit (.int .i64 n),.lit (.bool l)],[])
  | _=>none
 | _=>none
theorem vrR_mk (n:Int)(l:Bool):vrR (.agg #[.int .i64 n,.bool l])=some (.agg [.lit (.int .i64 n),.lit (.bool l)],[]):=rfl
theorem vrR_inv {v:Value}{n:Int}{l:Bool}{ps:List MemPlace}(h:vrR v=some (.agg [.lit (.int .i64 n),.lit (.bool l)],ps)):v=.agg #[.int .i64 n,.bool l]:=by
 unfold vrR at h
 split at h
 · rename_i cs
   split at h
   · rename_i n' l' e
     injection h with h
     injection h with h1 h2
     injection h1 with h1
     injection h1 with h1 h3
     injection h1 with h1
     injection h1 with _ h1
     injection h3 with h3 _
     injection h3 with h3
     injection h3 with h3
     subst h1 h3
     congr 1
     apply Array.toList_inj.1
     rw [e]
   · cases h
 · cases h
def envD (e:List Vr):MD:=mapD Vr.name vrD e
def zeroV:MD:=.agg [.lit (.int .i64 0),.lit (.bool false)]
def lookV (e:List Vr)(s:ByteArray):Value:=match look e s with
 | some x=>.agg #[.int .i64 x.num,.bool x.loop]
 | none=>.agg #[.int .i64 0,.bool false]
theorem lookV_of {e:List Vr}(h:Apart Vr.name e)(s:ByteArray){v:Value}{ps:List MemPlace}(hv:vrR v=some ((envD e).atKey (ky s) zeroV,ps)):v=lookV e s:=by
 unfold envD at hv
 rw [mapD_at e h] at hv
 unfold lookV look
 cases hf:e.find? (fun v=>decide (v.name=s)) with
 | none=>rw [hf] at hv;exact vrR_inv hv
 | some x=>rw [hf] at hv;exact vrR_inv hv
theorem look_has (e:List Vr)(s:ByteArray):has (envD e) (ky s)=(look e s).isSome:=by
 unfold envD
 rw [mapD_has]
 unfold look
 rw [Bool.eq_iff_iff,List.any_eq_true,List.find?_isSome]
def ko:Obj→Nat
 | .cells _ t _=>t+1
 | _=>0
def kd (w:World)(q:Nat):Option Nat:=(w.heap[q]?).map ko
theorem kd_row {w:World}{q:Nat}{cs:Array Value}{t:TypeId}{f:Nat × Nat}(h:w.heap[q]?=some (.cells cs t f)):kd w q=some (t+1):=by simp [kd,h,ko]
theorem kd_own {w:World}{base:Nat}{e:TypeId}{size n:Nat}{v:Value}{xs:List Value}(h:w.ownsRow base e size v n xs){k:Nat}(hk:v.ownBlock=some k):kd w k=some (e+1):=by
 rcases h.2 with ⟨rfl,_⟩|⟨g,cap,cur,rfl,_,hg,_⟩
 · simp [Value.ownBlock] at hk
 · simp [Value.ownBlock] at hk
   subst hk
   exact kd_row hg
theorem kd_map {w:World}{P:Program}{k:TypeId}{R:Value→Option (MD × List MemPlace)}{b n:Nat}{D:MD}(h:w.ownsMap P k R b n D):kd w b=some 0:=by
 obtain ⟨es,c,hb,_⟩:=h
 simp [kd,hb,ko]
theorem own_kind {w w':World}{base:Nat}{e:TypeId}{size n:Nat}{v:Value}{xs:List Value}{row:Option Nat}(h:w.ownsRow base e size v n xs)(hg:w.grownBy w' row)(hr:∀q,row=some q→kd w q≠some (e+1)):w'.ownsRow base e size v n xs :=
 h.kept hg (by
  cases hv:v.ownBlock with
  | none=>exact Or.inl rfl
  | some k=>exact Or.inr (fun e2=>hr k e2.symm (kd_own h hv)))
theorem map_kind {w w':World}{P:Program}{k:TypeId}{R:Value→Option (MD × List MemPlace)}{b n:Nat}{D:MD}{row:Option Nat}(h:w.ownsMap P k R b n D)(hg:w.grownBy w' row)(hr:row≠some b):w'.ownsMap P k R b n D :=
 h.kept hg (fun e=>hr e.symm)
theorem map_block {w w':World}{P:Program}{k:TypeId}{R:Value→Option (MD × List MemPlace)}{b n:Nat}{D:MD}(h:w.ownsMap P k R b n D)(hb:w'.heap[b]?=w.heap[b]?):w'.ownsMap P k R b n D:=by
 obtain ⟨es,c,hm,r⟩:=h
 exact ⟨es,c,hb.trans hm,r⟩
theorem own_pop {w:World}{base:Nat}{e:TypeId}{size n m:Nat}{g cap:Nat}{xs:List Value}(h:w.ownsRow base e size (.slice (some ⟨g,0,none⟩) n cap) n xs)(hm:m≤n):w.ownsRow base e size (.slice (some ⟨g,0,none⟩) m cap) m (xs.take (m*size)):=by
 refine ⟨?_,?_⟩
 · rw [List.length_take,h.1]
   exact Nat.min_eq_left (Nat.mul_le_mul_right _ hm)
 · rcases h.2 with ⟨h1,_⟩|⟨g',cap',cur,h1,hb,hg,hn,hc,hs,ht⟩
   · cases h1
   · cases h1
     refine .inr ⟨g,cap,cur,rfl,hb,hg,Nat.le_trans hm hn,hc,hs,?_⟩
     rw [← ht,List.take_take,Nat.min_eq_left (Nat.mul_le_mul_right _ hm)]
structure Cx where
 Wn:World
 W:World
 nb:Nat
 nl:Nat
 nc:Nat
 kp:Nat→Option Addr
 kc:Nat→Nat
 S:Nat→Nat
 ns:List Nd
 tabs:List Tb
 ob:Nat
 oc:Nat
 rb:Nat
 tv:Value
 pv:Value
 tm:Nat
 pm:Nat
 cv:Value
def Cx.rowR (C:Cx):Array Value:=#[.slice (some ⟨C.nb,0,none⟩) C.nl C.nc,C.tv,C.pv,.slice (some ⟨C.ob,0,none⟩) C.nl C.oc,.map (some C.tm),.map (some C.pm),C.cv]
abbrev numM (w:World)(b:Nat)(l:List ByteArray):Prop:=w.ownsMap Tryz.prog 9 (plainElem Tryz.prog 3) b l.length (numD l:MD)
structure CxOk (C:Cx):Prop where
 lown:C.Wn.heap.size≤C.ob
 nbl:C.nb<C.Wn.heap.size
 nslen:C.ns.length=C.nl
 nlc:C.nl≤C.nc
 node:∀i,i<C.nl→NC C.Wn C.nb (i*5) (nd C.ns i) (C.kp i) (nd C.ns i).kids.length (C.kc i)
 rt:Rt C.ns C.S
 orb:C.ob<C.rb
 rbl:C.rb<C.W.heap.size
 row:C.W.heap[C.rb]?=some (.cells C.rowR 137 (0,0))
 oc:C.nl≤C.oc
 otm:C.ob<C.tm
 tml:C.tm<C.W.heap.size
 tmap:numM C.W C.tm (C.tabs.map Tb.name)
 tap:(C.tabs.map Tb.name).Pairwise (·≠·)
 cols:∀t,t<C.tabs.length→∃cb cc m,C.cv=.slice (some ⟨cb,0,none⟩) C.tabs.length cc∧C.tabs.length≤cc∧C.ob<cb∧cb<C.W.heap.size∧C.W.cell? ⟨cb,t,none⟩=some (.map (some m))∧C.ob<m∧m<C.W.heap.size∧numM C.W m ((C.tabs.map Tb.cols).getD t [])
 cap:∀t,((C.tabs.map Tb.cols).getD t []).Pairwise (·≠·)
 txt:∀i,(nd C.ns i).text.size≤70000
 few:C.nl≤70000
 tfew:C.tabs.length≤64
 cfew:∀t,((C.tabs.map Tb.cols).getD t []).length≤16
def ints (l:List Int):List Value:=l.map (Value.int .i64)
def blkC:List (Nat × Bool)→List Value
 | []=>[]
 | m::ms=>blkC ms++[.map (some m.1),.bool m.2]
def itI:Item→Int
 | none=>0
 | some i=>i
def pileC (l:List Int):List Value:=ints l.reverse
theorem blkC_len (ms:List (Nat × Bool)):(blkC ms).length=ms.length*2:=by
 induction ms with
 | nil=>rfl
 | cons m ms ih=>simp [blkC,ih];omega
structure Lo (C:Cx)(of:List Int)(w:World):Prop where
 bn:Below C.Wn.heap.size C.Wn w
 mid:∀k,C.ob<k→k<C.W.heap.size→w.heap[k]?=C.W.heap[k]?
 sz:C.W.heap.size≤w.heap.size
 ol:C.ob<C.W.heap.size
 row:∃rest,w.heap[C.ob]?=some (.cells (ints of++rest).toArray 3 (0,0))
 len:of.length=C.nl
section
variable {C:Cx}{of:List Int}{w w':World}
theorem Lo.grown {row:Option Nat}(h:Lo C of w)(ok:CxOk C)(hg:w.grownBy w' row)(hr:∀q,row=some q→C.W.heap.size≤q):Lo C of w' where
 bn:=h.bn.grown hg (Nat.le_trans (Nat.le_trans ok.lown (Nat.le_of_lt h.ol)) h.sz) (fun q e=>Nat.le_trans (Nat.le_trans ok.lown (Nat.le_of_lt h.ol)) (hr q e))
 mid:=fun k h1 h2=>(hg.block k (Nat.lt_of_lt_of_le h2 h.sz) (fun e=>by have:=hr k e.symm;omega)).trans (h.mid k h1 h2)
 sz:=Nat.le_trans h.sz hg.size
 ol:=h.ol
 row:=by
  obtain ⟨rest,hr2⟩:=h.row
  exact ⟨rest,(hg.block C.ob (Nat.lt_of_lt_of_le h.ol h.sz) (fun e=>by have:=hr C.ob e.symm;have:=h.ol;omega)).trans hr2⟩
 len:=h.len
theorem Lo.set (h:Lo C of w)(ok:CxOk C)(i:Nat)(v:Int)(hi:i<C.nl):Lo C (of.set i v) (w.setCell ⟨C.ob,i,none⟩ (.int .i64 v)) where
 bn:=h.bn.setCell (p:=⟨C.ob,i,none⟩) ok.lown _
 mid:=fun k h1 h2=>by
  rw [Below.heap_setCell _ _ _ _ (show k≠C.ob by omega)]
  exact h.mid k h1 h2
 sz:=by simpa [World.setCell] using h.sz
 ol:=h.ol
 row:=by
  obtain ⟨rest,hr⟩:=h.row
  refine ⟨rest,?_⟩
  rw [heap_set _ _ _ _ _ _ hr]
  congr 2
  apply Array.toList_inj.1
  simp only [Array.toList_setIfInBounds,List.toList_toArray]
  rw [List.set_append_left _ _ (by simp [ints,h.len];exact hi)]
  simp [ints,List.map_set]
 len:=by rw [List.length_set];exact h.len
theorem Lo.ofCell (h:Lo C of w)(i:Nat)(hi:i<C.nl):w.cell? ⟨C.ob,i,none⟩=some (.int .i64 (of.getD i 0))∧w.frozen? ⟨C.ob,i,none⟩=false:=by
 obtain ⟨rest,hr⟩:=h.row
 have hl:=h.len
 refine ⟨?_,frozen_of_row _ _ _ _ _ hr⟩
 rw [cell_of_row _ _ _ _ _ _ hr]
 have:i<of.length:=by omega
 simp only [ints,List.getElem?_toArray]
 rw [List.getElem?_append_left (by simpa using this)]
 simp [List.getD,this]
def nodeV (C:Cx)(i:Nat):Value:=.agg #[.int .u8 (nd C.ns i).kind,.int .i64 (nd C.ns i).at',.string (nd C.ns i).text,.int .i64 (nd C.ns i).n,.slice (C.kp i) (nd C.ns i).kids.length (C.kc i)]
theorem Lo.rowR (h:Lo C of w)(ok:CxOk C):w.heap[C.rb]?=some (.cells C.rowR 137 (0,0)):=(h.mid _ ok.orb ok.rbl).trans ok.row
theorem Lo.tmap (h:Lo C of w)(ok:CxOk C):numM w C.tm (C.tabs.map Tb.name):=map_block ok.tmap (h.mid _ ok.otm ok.tml)
theorem Lo.cols (h:Lo C of w)(ok:CxOk C)(t:Nat)(ht:t<C.tabs.length):∃cb cc m,C.cv=.slice (some ⟨cb,0,none⟩) C.tabs.length cc∧C.tabs.length≤cc∧w.cell? ⟨cb,t,none⟩=some (.map (some m))∧numM w m ((C.tabs.map Tb.cols).getD t []):=by
 obtain ⟨cb,cc,m,h0,h00,hob,hcl,h1,h2,h3,h4⟩:=ok.cols t ht
 exact ⟨cb,cc,m,h0,h00,by rw [World.cell?_of_block (w:=C.W) (a:=⟨cb,t,none⟩) (h.mid _ hob hcl)];exact h1,map_block h4 (h.mid _ h2 h3)⟩
theorem Lo.node (h:Lo C of w)(ok:CxOk C)(i:Nat)(hi:i<C.nl):NC w C.nb (i*5) (nd C.ns i) (C.kp i) (nd C.ns i).kids.length (C.kc i):=(ok.node i hi).on ok.nbl h.bn
theorem below_grown {w w':World}(h:Below w.heap.size w w'):w.grownBy w' none:=⟨h.os,h.tape,h.output,h.size,fun k hk _=>h.block k hk⟩
theorem Lo.on (h:Lo C of w)(ok:CxOk C)(hb:Below w.heap.size w w'):Lo C of w':=h.grown ok (below_grown hb) (fun _ e=>by cases e)
end
structure Ms (C:Cx)(envs:List (List Vr))(ms:List (Nat × Bool))(w:World):Prop where
 len:envs.length=ms.length
 map:∀j,j<ms.length→C.W.heap.size≤(ms.getD j (0,false)).1∧w.ownsMap Tryz.prog 9 vrR (ms.getD j (0,false)).1 (envs.getD j []).length (envD (envs.getD j []))
 apart:∀e∈envs,Apart Vr.name e
 own:ms.Pairwise fun a b=>a.2=true→a.1≠b.1
theorem Ms.grown {C:Cx}{envs:List (List Vr)}{ms:List (Nat × Bool)}{w w':World}{row:Option Nat}(h:Ms C envs ms w)(hg:w.grownBy w' row)(hr:∀q,row=some q→kd w q≠some 0):Ms C envs ms w' :=
 ⟨h.len,fun j hj=>⟨(h.map j hj).1,map_kind (h.map j hj).2 hg (fun e=>hr _ e (kd_map (h.map j hj).2))⟩,h.apart,h.own⟩
structure Rd (C:Cx)(pb:Nat)(s:St)(pile:List Int)(ms:List (Nat × Bool))(vv bv pv:Value)(cs:Array Value)(w:World):Prop where
 lo:Lo C s.of w
 pbl:C.W.heap.size≤pb
 blk:w.heap[pb]?=some (.cells cs 276 (0,0))
 vars:w.ownsRow C.W.heap.size 9 1 vv s.vars.length (s.vars.map Value.string)
 blocks:w.ownsRow C.W.heap.size 273 2 bv ms.length (blkC ms)
 pile:w.ownsRow C.W.heap.size 3 1 pv pile.length (pileC pile)
 maps:Ms C s.envs ms w
def Cx.cells (C:Cx)(vv bv pv:Value):Array Value:=#[.pointer (some ⟨C.rb,0,none⟩),vv,bv,pv]
structure StOk (s:St):Prop where
 vfew:s.vars.length≤64
 efew:∀e∈s.envs,e.length≤s.vars.length
def wrongV (C:Cx)(x:Nat × Int):Ending:=.panicked [{ v:=.iface 132 (.agg #[.int .i64 (nd C.ns x.1).at',.int .i64 x.2]),recovered:=false }]
def RdE (C:Cx)(pb:Nat)(s:St)(pile:List Int)(w:World):Prop:=StOk s∧∃ms vv bv pv,Rd C pb s pile ms vv bv pv (C.cells vv bv pv) w
section
variable {C:Cx}{pb:Nat}{s:St}{pile:List Int}{ms:List (Nat × Bool)}{vv bv pv:Value}{cs:Array Value}{w w':World}
theorem Rd.grown (h:Rd C pb s pile ms vv bv pv cs w)(ok:CxOk C)(hg:w.grownBy w' none):Rd C pb s pile ms vv bv pv cs w' where
 lo:=h.lo.grown ok hg (fun _ e=>by cases e)
 pbl:=h.pbl
 blk:=(hg.block pb (Array.getElem?_eq_some_iff.1 h.blk).1 (fun e=>by cases e)).trans h.blk
 vars:=own_kind h.vars hg (fun _ e=>by cases e)
 blocks:=own_kind h.blocks hg (fun _ e=>by cases e)
 pile:=own_kind h.pile hg (fun _ e=>by cases e)
 maps:=h.maps.grown hg (fun _ e=>by cases e)
theorem Rd.on (h:Rd C pb s pile ms vv bv pv cs w)(ok:CxOk C)(hb:Below w.heap.size w w'):Rd C pb s pile ms vv bv pv cs w':=h.grown ok (below_grown hb)
theorem Rd.alloc (h:Rd C pb s pile ms vv bv pv cs w)(ok:CxOk C)(o:Obj):Rd C pb s pile ms vv bv pv cs (w.alloc o):=h.grown ok (World.grownBy_alloc w o none)
theorem Rd.cell (h:Rd C pb s pile ms vv bv pv cs w)(ok:CxOk C)(j:Nat)(v:Value):Rd C pb s pile ms vv bv pv (cs.setIfInBounds j v) (w.setCell ⟨pb,j,none⟩ v) where
 lo:=h.lo.grown ok (grownBy_set w _ _) (fun q e=>by cases e;exact h.pbl)
 pbl:=h.pbl
 blk:=heap_set _ _ _ _ _ _ h.blk
 vars:=own_kind h.vars (grownBy_set w _ _) (fun q e=>by cases e;rw [kd_row h.blk];decide)
 blocks:=own_kind h.blocks (grownBy_set w _ _) (fun q e=>by cases e;rw [kd_row h.blk];decide)
 pile:=own_kind h.pile (grownBy_set w _ _) (fun q e=>by cases e;rw [kd_row h.blk];decide)
 maps:=h.maps.grown (grownBy_set w _ _) (fun q e=>by cases e;rw [kd_row h.blk];decide)
theorem own_low {w:World}{base q i:Nat}{t:TypeId}{size n:Nat}{x u:Value}{xs:List Value}(h:w.ownsRow base t size x n xs)(hq:q<base):(w.setCell ⟨q,i,none⟩ u).ownsRow base t size x n xs:=h.kept (grownBy_set w _ _) (by
 cases hv:x.ownBlock with
 | none=>exact Or.inl rfl
 | some k =>
  refine Or.inr (fun e=>?_)
  have:=(h.lt k hv).1
  have e:=Option.some.inj e
  simp only at e
  omega)
theorem Rd.setOf (h:Rd C pb s pile ms vv bv pv cs w)(ok:CxOk C)(i:Nat)(v:Int)(hi:i<C.nl):Rd C pb (s.set i v) pile ms vv bv pv cs (w.setCell ⟨C.ob,i,none⟩ (.int .i64 v)):=by
 refine ⟨h.lo.set ok i v hi,h.pbl,?_,own_low h.vars h.lo.ol,own_low h.blocks h.lo.ol,own_low h.pile h.lo.ol,?_⟩
 · rw [Below.heap_setCell _ _ _ _ (show pb≠C.ob by have:=h.pbl;have:=h.lo.ol;omega)]
   exact h.blk
 · refine ⟨h.maps.len,fun j hj=>⟨(h.maps.map j hj).1,map_kind (h.maps.map j hj).2 (grownBy_set w _ _) (fun e=>?_)⟩,h.maps.apart,h.maps.own⟩
   have:=(h.maps.map j hj).1
   have ho:=h.lo.ol
   injection e with e
   simp only at e
   omega
theorem Rd.pushVar (h:Rd C pb s pile ms vv bv pv cs w)(ok:CxOk C){x:ByteArray}{vv':Value}(hr:w'.ownsRow C.W.heap.size 9 1 vv' (s.vars.length+1) (s.vars.map Value.string++[.string x]))(hg:w.grownBy w' vv.ownBlock) :
 Rd C pb { s with vars:=s.vars++[x] } pile ms vv' bv pv cs w' where
 lo:=h.lo.grown ok hg (fun q e=>(h.vars.lt q e).1)
 pbl:=h.pbl
 blk:=(hg.block pb (Array.getElem?_eq_some_iff.1 h.blk).1 (fun e=>by have:=kd_own h.vars e.symm;rw [kd_row h.blk] at this;exact absurd this (by decide))).trans h.blk
 vars:=by simpa using hr
 blocks:=own_kind h.blocks hg (fun q e=>by rw [kd_own h.vars e];decide)
 pile:=own_kind h.pile hg (fun q e=>by rw [kd_own h.vars e];decide)
 maps:=h.maps.grown hg (fun q e=>by rw [kd_own h.vars e];decide)
theorem Rd.pushItem (h:Rd C pb s pile ms vv bv pv cs w)(ok:CxOk C){x:Int}{pv':Value}(hr:w'.ownsRow C.W.heap.size 3 1 pv' (pile.length+1) (pileC pile++[.int .i64 x]))(hg:w.grownBy w' pv.ownBlock) :
 Rd C pb s (x::pile) ms vv bv pv' cs w' where
 lo:=h.lo.grown ok hg (fun q e=>(h.pile.lt q e).1)
 pbl:=h.pbl
 blk:=(hg.block pb (Array.getElem?_eq_some_iff.1 h.blk).1 (fun e=>by have:=kd_own h.pile e.symm;rw [kd_row h.blk] at this;exact absurd this (by decide))).trans h.blk
 vars:=own_kind h.vars hg (fun q e=>by rw [kd_own h.pile e];decide)
 blocks:=own_kind h.blocks hg (fun q e=>by rw [kd_own h.pile e];decide)
 pile:=by simpa [pileC,ints] using hr
 maps:=h.maps.grown hg (fun q e=>by rw [kd_own h.pile e];decide)
theorem Rd.popItem {x:Int}{g n cap:Nat}(h:Rd C pb s (x::pile) ms vv bv (.slice (some ⟨g,0,none⟩) n cap) cs w)(hn:n=pile.length+1):Rd C pb s pile ms vv bv (.slice (some ⟨g,0,none⟩) pile.length cap) cs w where
 lo:=h.lo
 pbl:=h.pbl
 blk:=h.blk
 vars:=h.vars
 blocks:=h.blocks
 pile:=by
  subst hn
  have:=own_pop (m:=pile.length) h.pile (by simp)
  simpa [pileC,ints,List.take_append] using this
 maps:=h.maps
theorem Rd.pushBlock (h:Rd C pb s pile ms vv bv pv cs w)(ok:CxOk C){m:Nat}{o:Bool}{r:List (Nat × Bool)}(hm:ms=(m,o)::r){bv':Value}(hr:w'.ownsRow C.W.heap.size 273 2 bv' (ms.length+1) (blkC ms++[.map (some m),.bool false]))(hg:w.grownBy w' bv.ownBlock) :
 Rd C pb { s with envs:=s.there::s.envs } pile ((m,false)::ms) vv bv' pv cs w' where
 lo:=h.lo.grown ok hg (fun q e=>(h.blocks.lt q e).1)
 pbl:=h.pbl
 blk:=(hg.block pb (Array.getElem?_eq_some_iff.1 h.blk).1 (fun e=>by have:=kd_own h.blocks e.symm;rw [kd_row h.blk] at this;exact absurd this (by decide))).trans h.blk
 vars:=own_kind h.vars hg (fun q e=>by rw [kd_own h.blocks e];decide)
 blocks:=hr
 pile:=own_kind h.pile hg (fun q e=>by rw [kd_own h.blocks e];decide)
 maps:=by
  have hM:=h.maps.grown hg (fun q e=>by rw [kd_own h.blocks e];decide)
  have hl:=hM.len
  refine ⟨by simp [hl],?_,?_,?_⟩
  · intro j hj
    cases j with
    | zero =>
     have:=hM.map 0 (by rw [hm];simp)
     rw [hm] at this
     simp only [List.getD_cons_zero] at this ⊢
     cases he:s.envs with
     | nil=>rw [he,hm] at hl;simp at hl
     | cons e es=>rw [he] at this;simpa [St.there,he] using this
    | succ j =>
     simp only [List.getD_cons_succ]
     exact hM.map j (by simpa using hj)
  · intro e he
    rcases List.mem_cons.1 he with rfl|he
    · cases h2:s.envs with
      | nil=>rw [h2,hm] at hl;simp at hl
      | cons e es=>exact hM.apart _ (by simp [St.there,h2])
    · exact hM.apart e he
  · exact List.pairwise_cons.2 ⟨(fun _ _ e=>by cases e),hM.own⟩
theorem Rd.popBlock {m:Nat × Bool}{r:List (Nat × Bool)}{g n cap:Nat}(h:Rd C pb s pile (m::r) vv (.slice (some ⟨g,0,none⟩) n cap) pv cs w)(hn:n=r.length+1):Rd C pb { s with envs:=s.envs.drop 1 } pile r vv (.slice (some ⟨g,0,none⟩) r.length cap) pv cs w where
 lo:=h.lo
 pbl:=h.pbl
 blk:=h.blk
 vars:=h.vars
 blocks:=by
  subst hn
  have:=own_pop (m:=r.length) h.blocks (by simp)
  simpa [blkC,List.take_append,blkC_len] using this
 pile:=h.pile
 maps:=by
  have hl:=h.maps.len
  refine ⟨by simp at hl ⊢;omega,?_,fun e he=>h.maps.apart e (List.mem_of_mem_drop he),(List.pairwise_cons.1 h.maps.own).2⟩
  intro j hj
  have:=h.maps.map (j+1) (by simpa using hj)
  simpa [List.getD,List.getElem?_drop,Nat.add_comm] using this
theorem St.there_mem {e:List Vr}{es:List (List Vr)}(h:s.envs=e::es):s.there=e:=by simp [St.there,h]
theorem Ms.head {envs:List (List Vr)}{m:Nat × Bool}{r:List (Nat × Bool)}(h:Ms C envs (m::r) w):∃e es,envs=e::es:=by
 cases envs with
 | nil=>have:=h.len;simp at this
 | cons e es=>exact ⟨e,es,rfl⟩
theorem Rd.store {m:Nat}{r:List (Nat × Bool)}{x:Vr}(h:Rd C pb s pile ((m,true)::r) vv bv pv cs w)(ok:CxOk C)(hg:w.grownBy w' (some m))(ho:w'.ownsMap Tryz.prog 9 vrR m (s.there.length+1) ((envD s.there).put (ky x.name) (vrD x)))(hn:look s.there x.name=none) :
 Rd C pb { s with envs:=(s.there++[x])::s.envs.drop 1 } pile ((m,true)::r) vv bv pv cs w':=by
 obtain ⟨e,es,he⟩:=h.maps.head
 have hth:=St.there_mem he
 have h0:=h.maps.map 0 (by simp)
 simp only [List.getD_cons_zero] at h0
 have hk:kd w m=some 0:=kd_map h0.2
 have hq:∀q,some m=some q→kd w q=some 0:=fun q e=>by cases e;exact hk
 refine ⟨h.lo.grown ok hg (fun q e=>by cases e;exact h0.1),h.pbl,?_,own_kind h.vars hg (fun q e=>by rw [hq q e];decide),own_kind h.blocks hg (fun q e=>by rw [hq q e];decide),own_kind h.pile hg (fun q e=>by rw [hq q e];decide),?_⟩
 · refine (hg.block pb (Array.getElem?_eq_some_iff.1 h.blk).1 (fun e=>?_)).trans h.blk
   have:=hq pb e.symm
   rw [kd_row h.blk] at this
   exact absurd this (by decide)
 · have hl:=h.maps.len
   refine ⟨by simp [he] at hl ⊢;omega,?_,?_,h.maps.own⟩
   · intro j hj
     cases j with
     | zero =>
      simp only [List.getD_cons_zero]
      refine ⟨h0.1,?_⟩
      rw [List.length_append]
      show w'.ownsMap Tryz.prog 9 vrR m (s.there.length+1) (mapD Vr.name vrD (s.there++[x]))
      rw [mapD_snoc]
      exact ho
     | succ j =>
      have hj':j<r.length:=by simpa using hj
      have hm:=h.maps.map (j+1) hj
      simp only [List.getD_cons_succ,he,List.drop_succ_cons,List.drop_zero] at hm ⊢
      refine ⟨hm.1,map_kind hm.2 hg (fun e2=>?_)⟩
      have:=(List.pairwise_cons.1 h.maps.own).1 (r.getD j (0,false)) (by simp [List.getD,hj']) rfl
      exact this (Option.some.inj e2)
   · intro a ha
     rcases List.mem_cons.1 ha with rfl|ha
     · refine Apart.snoc (by rw [hth];exact h.maps.apart e (by simp [he])) (fun y hy e2=>?_)
       have:=List.find?_eq_none.1 hn y hy
       simp [e2] at this
     · exact h.maps.apart a (List.mem_of_mem_drop ha)
theorem Rd.ownMap {m:Nat × Bool}{r:List (Nat × Bool)}{g n cap mn:Nat}(h:Rd C pb s pile (m::r) vv (.slice (some ⟨g,0,none⟩) n cap) pv cs w)(ok:CxOk C)(hn:n=r.length+1)(hb:C.W.heap.size≤mn)(hmap:w.ownsMap Tryz.prog 9 vrR mn s.there.length (envD s.there))(hne:∀x∈r,x.1≠mn) :
 Rd C pb s pile ((mn,true)::r) vv (.slice (some ⟨g,0,none⟩) n cap) pv cs ((w.setCell ⟨g,r.length*2,none⟩ (.map (some mn))).setCell ⟨g,r.length*2+1,none⟩ (.bool true)):=by
 subst hn
 have hb0:=h.blocks
 obtain ⟨b1,g1⟩:=hb0.stored (r.length*2) (.map (some mn))
 obtain ⟨b2,g2⟩:=b1.stored (r.length*2+1) (.bool true)
 have hkg:kd w g=some (273+1):=kd_own hb0 rfl
 have hg:w.grownBy ((w.setCell ⟨g,r.length*2,none⟩ (.map (some mn))).setCell ⟨g,r.length*2+1,none⟩ (.bool true)) (some g) :=
  ⟨g2.os.trans g1.os,g2.tape.trans g1.tape,g2.output.trans g1.output,Nat.le_trans g1.size g2.size,fun k hk hne=>(g2.block k (Nat.lt_of_lt_of_le hk g1.size) hne).trans (g1.block k hk hne)⟩
 have hq:∀q,some g=some q→kd w q=some (273+1):=fun q e=>by cases e;exact hkg
 refine ⟨h.lo.grown ok hg (fun q e=>by cases e;exact (hb0.lt g rfl).1),h.pbl,?_,own_kind h.vars hg (fun q e=>by rw [hq q e];decide),?_,own_kind h.pile hg (fun q e=>by rw [hq q e];decide),?_⟩
 · refine (hg.block pb (Array.getElem?_eq_some_iff.1 h.blk).1 (fun e=>?_)).trans h.blk
   have:=hq pb e.symm
   rw [kd_row h.blk] at this
   exact absurd this (by decide)
 · have e1:((blkC (m::r)).set (r.length*2) (.map (some mn))).set (r.length*2+1) (.bool true)=blkC ((mn,true)::r):=by
    simp only [blkC]
    rw [List.set_append_right _ _ (by rw [blkC_len];omega),List.set_append_right _ _ (by rw [blkC_len];omega),blkC_len]
    simp
   rw [← e1]
   exact b2
 · have hM:=h.maps.grown hg (fun q e=>by rw [hq q e];decide)
   have hmap':=map_kind hmap hg (fun e=>by
    have:=hq mn e
    rw [kd_map hmap] at this
    exact absurd this (by decide))
   obtain ⟨e,es,he⟩:=hM.head
   refine ⟨by have:=hM.len;simpa using this,?_,hM.apart,List.pairwise_cons.2 ⟨fun x hx _=>fun e2=>hne x hx e2.symm,(List.pairwise_cons.1 hM.own).2⟩⟩
   intro j hj
   cases j with
   | zero =>
    refine ⟨hb,?_⟩
    simp only [he,List.getD_cons_zero]
    rw [St.there_mem he] at hmap'
    exact hmap'
   | succ j =>
    have:=hM.map (j+1) (by simpa using hj)
    simpa using this
end
end Nm
namespace Nm
open Go.RowKit Go.Maps Tr
theorem nd_f0 (k a n:Int)(s:ByteArray)(v:Value)(W:World):(Instr.field 54 (.agg #[.int .u8 k,.int .i64 a,.string s,.int .i64 n,v]) 0).run Tryz.prog W=.ok (.int .u8 k) W:=by kernel_rfl
theorem nd_f1 (k a n:Int)(s:ByteArray)(v:Value)(W:World):(Instr.field 54 (.agg #[.int .u8 k,.int .i64 a,.string s,.int .i64 n,v]) 1).run Tryz.prog W=.ok (.int .i64 a) W:=by kernel_rfl
theorem nd_f2 (k a n:Int)(s:ByteArray)(v:Value)(W:World):(Instr.field 54 (.agg #[.int .u8 k,.int .i64 a,.string s,.int .i64 n,v]) 2).run Tryz.prog W=.ok (.string s) W:=by kernel_rfl
theorem nd_f4 (k a n:Int)(s:ByteArray)(v:Value)(W:World):(Instr.field 54 (.agg #[.int .u8 k,.int .i64 a,.string s,.int .i64 n,v]) 4).run Tryz.prog W=.ok (v) W:=by kernel_rfl
theorem bdrewN (w:World)(n:Nat):Below w.heap.size w (w.drewN n):=⟨rfl,rfl,rfl,Nat.le_refl _,fun _ _=>rfl⟩
section
variable {C:Cx}{of:List Int}{w:World}
theorem Lo.cells (h:Lo C of w)(ok:CxOk C):w.cell? ⟨C.rb,0,none⟩=some (.slice (some ⟨C.nb,0,none⟩) C.nl C.nc)∧w.cell? ⟨C.rb,3,none⟩=some (.slice (some ⟨C.ob,0,none⟩) C.nl C.oc)∧w.cell? ⟨C.rb,4,none⟩=some (.map (some C.tm))∧w.cell? ⟨C.rb,5,none⟩=some (.map (some C.pm))∧w.cell? ⟨C.rb,6,none⟩=some C.cv:=by
 have:=h.rowR ok
 refine ⟨?_,?_,?_,?_,?_⟩<;>(rw [cell_of_row _ _ _ _ _ _ this];rfl)
theorem node_at (h:Lo C of w)(ok:CxOk C){i:Nat}(hi:i<C.nl):Calls Tryz.prog 139 #[.pointer (some ⟨C.rb,0,none⟩),.int .i64 i] w fun x W'=>x=.returned (nodeV C i)∧Below w.heap.size w W':=by
 obtain ⟨c0,_⟩:=h.cells ok
 have hn:=h.node ok i hi
 have n0:=hn.kind
 have n1:=hn.at'
 have n2:=hn.text
 have n3:=hn.n
 have n4:=hn.kids
 have i0:(0:Int)≤(i:Int):=by omega
 have i1:(i:Int)<(C.nl:Int):=by omega
 have hbl:C.nb<w.heap.size:=Nat.lt_of_lt_of_le ok.nbl h.bn.size
 have hrl:C.rb<w.heap.size:=Nat.lt_of_lt_of_le ok.rbl h.sz
 unfold nodeV
 generalize (nd C.ns i).kind=kd at *
 generalize (nd C.ns i).at'=na at *
 generalize (nd C.ns i).text=nt at *
 generalize (nd C.ns i).n=nn at *
 generalize (nd C.ns i).kids.length=kl at *
 clear hn h
 go_enter Tryz.func139,Tryz.ntmps139
 go_wp2_with fail
 simp [bodyPost,results,Tryz.results139,go_sem]
 exact (Below.refl _ _).alloc (Nat.le_refl _) _
end
section
variable {C:Cx}{pb:Nat}{s:St}{pile:List Int}{ms:List (Nat × Bool)}{vv bv pv:Value}{cs:Array Value}{w:World}
theorem Rd.pcells (h:Rd C pb s pile ms vv bv pv (C.cells vv bv pv) w):w.cell? ⟨pb,0,none⟩=some (.pointer (some ⟨C.rb,0,none⟩))∧w.cell? ⟨pb,1,none⟩=some vv∧w.cell? ⟨pb,2,none⟩=some bv∧w.cell? ⟨pb,3,none⟩=some pv:=by
 have:=h.blk
 refine ⟨?_,?_,?_,?_⟩<;>(rw [cell_of_row _ _ _ _ _ _ this];rfl)
theorem Rd.inner {m:Nat × Bool}{r:List (Nat × Bool)}(h:Rd C pb s pile (m::r) vv bv pv cs w):∃g cap,bv=.slice (some ⟨g,0,none⟩) (r.length+1) cap∧r.length+1≤cap∧cap≤9223372036854775807∧g<w.heap.size∧C.W.heap.size≤g∧w.cell? ⟨g,r.length*2,none⟩=some (.map (some m.1))∧w.cell? ⟨g,r.length*2+1,none⟩=some (.bool m.2)∧(∀j,w.frozen? ⟨g,j,none⟩=false):=by
 obtain ⟨g,cap,rfl,hb,hg⟩:=h.blocks.form (by simp)
 have hc:=fun j hj=>World.ownsRow.cellAt h.blocks j hj
 have hl:=blkC_len r
 refine ⟨g,cap,by simp,?_,?_,hg,hb,?_,?_,fun j=>World.ownsRow.frozenAt h.blocks j⟩
 · rcases h.blocks.2 with ⟨h1,_⟩|⟨g',cap',cur,h1,_,_,h2,_⟩
   · cases h1
   · cases h1;simpa using h2
 · rcases h.blocks.2 with ⟨h1,_⟩|⟨g',cap',cur,h1,_,_,h2,h3,_⟩
   · cases h1
   · cases h1;simpa [maxLen] using h3
 · rw [hc _ (by simp only [List.length_cons];omega)]
   simp only [blkC]
   rw [List.getElem?_append_right (by omega),hl]
   simp
 · rw [hc _ (by simp only [List.length_cons];omega)]
   simp only [blkC]
   rw [List.getElem?_append_right (by omega),hl]
   simp
theorem there_at {m:Nat × Bool}{r:List (Nat × Bool)}(h:Rd C pb s pile (m::r) vv bv pv (C.cells vv bv pv) w):Calls Tryz.prog 246 #[.pointer (some ⟨pb,0,none⟩)] w fun x W'=>x=.returned (.map (some m.1))∧Below w.heap.size w W':=by
 obtain ⟨g,cap,rfl,hcap,hcm,hg,_,k0,k1,_⟩:=h.inner
 obtain ⟨_,_,c2,_⟩:=h.pcells
 generalize r.length=k at *
 obtain ⟨n,hn⟩:∃n,k+1=n:=⟨_,rfl⟩
 rw [hn] at c2 hcap
 have i0:(0:Int)≤(k:Int):=by omega
 have i1:(k:Int)<(n:Int):=by omega
 have hw:IntKind.i64.wrap ((n:Int)-1)=(k:Int):=by rw [IntWalk.i64_in _ (by omega)];omega
 clear h hn
 go_enter Tryz.func246,Tryz.ntmps246
 go_wp2_with fail
 go_quiet (fail)
 go_wp2
 go_ret
 exact ⟨rfl,bdrewN _ _⟩
end
theorem clone_str (s:ByteArray)(w:World)(hs:s.size≤70000):Calls Tryz.prog 137 #[.string s] w fun x W'=>x=.returned (.string s)∧Below w.heap.size w W':=by
 have K:=lh (Tryz.stringslite_Clone s w (by omega))
 clear hs
 go_enter Tryz.func137,Tryz.ntmps137
 go_wp2_with fail
 (with_reducible refine K.out.mono ?_)
 rintro e w1 ⟨rfl,hb⟩
 go_wp2
 go_ret
 exact ⟨rfl,hb⟩
section
variable {C:Cx}{of:List Int}{w:World}
theorem name_at (h:Lo C of w)(ok:CxOk C){i:Nat}(hi:i<C.nl):Calls Tryz.prog 211 #[.pointer (some ⟨C.rb,0,none⟩),.int .i64 i] w fun x W'=>x=.returned (.string (nd C.ns i).text)∧Below w.heap.size w W':=by
 have ND:=lh (node_at h ok hi)
 have CS:=lh (fun w=>clone_str (nd C.ns i).text w (ok.txt i))
 unfold nodeV at ND
 generalize (nd C.ns i).text=tx at *
 have fl:=nd_f2
 clear h
 go_enter Tryz.func211,Tryz.ntmps211
 go_wp2_with fail
 (with_reducible refine ND.out.mono ?_)
 rintro e w1 ⟨rfl,hb⟩
 have HB:=lh hb
 clear hb ND
 go_wp2_with fail
 (with_reducible refine (CS.out _).mono ?_)
 rintro e w2 ⟨rfl,hb⟩
 have HB2:=lh (HB.out.trans (hb.mono HB.out.size))
 clear hb HB CS
 go_wp2
 go_ret
 exact ⟨rfl,HB2.out⟩
theorem fail_at (h:Lo C of w)(ok:CxOk C){i:Nat}(hi:i<C.nl)(c:Int):Calls Tryz.prog 210 #[.pointer (some ⟨C.rb,0,none⟩),.int .i64 i,.int .i64 c] w fun x W'=>x=wrongV C (i,c)∧Below w.heap.size w W':=by
 have ND:=lh (node_at h ok hi)
 unfold nodeV at ND
 unfold wrongV
 simp only
 generalize (nd C.ns i).at'=ta at *
 have fl:=nd_f1
 clear h
 go_enter Tryz.func210,Tryz.ntmps210
 go_wp2_with fail
 (with_reducible refine ND.out.mono ?_)
 rintro e w1 ⟨rfl,hb⟩
 have HB:=lh hb
 clear hb ND
 go_wp2
 exact ⟨rfl,rfl,HB.out⟩
end
theorem key_str (s:ByteArray)(hs:s.size≤70000):keyOf Tryz.prog 9 (.string s)=some (ky s):=Go.WideMaps.keyOf_string_mk Tryz.underlying9 (by simp [maxLen];omega)
theorem num_look {w:World}{b:Nat}{l:List ByteArray}(h:numM w b l)(hl:l.Pairwise (·≠·))(s:ByteArray)(hs:s.size≤70000) :
 (Instr.lookup 134 (.map (some b)) (.string s) true).run Tryz.prog w=.ok (.tuple #[.int .i64 (((idx l s).getD 0:Nat):Int),.bool (idx l s).isSome]) w:=by
 obtain ⟨v,ps,hr,hv⟩:=h.look_ok (string_keyed Tryz.underlying9) Tryz.underlying134 (z:=.int .i64 0) (Tryz.zeroValue3 w) (zd:=.lit (.int .i64 0)) (zp:=[]) (plainElem_int Tryz.underlying3 (by decide)) (key_str s hs)
 rw [numD_has] at hr
 rw [numD_at l hl] at hv
 rw [hr]
 cases hi:idx l s with
 | none =>
  rw [hi] at hv
  obtain ⟨c,rfl,hc,_⟩:=plainElem_int_inv Tryz.underlying3 hv
  simp only [Prod.mk.injEq] at hc
  have hc:=(Lit.int.inj (DataW.lit.inj hc.1)).2
  subst hc
  rfl
 | some j =>
  rw [hi] at hv
  obtain ⟨c,rfl,hc,_⟩:=plainElem_int_inv Tryz.underlying3 hv
  simp only [Prod.mk.injEq,dN] at hc
  have hc:=(Lit.int.inj (DataW.lit.inj hc.1)).2
  subst hc
  rfl
theorem var_look {w:World}{b n:Nat}{e:List Vr}(h:w.ownsMap Tryz.prog 9 vrR b n (envD e))(ha:Apart Vr.name e)(s:ByteArray)(hs:s.size≤70000) :
 (Instr.lookup 271 (.map (some b)) (.string s) true).run Tryz.prog w=.ok (.tuple #[lookV e s,.bool (look e s).isSome]) w:=by
 obtain ⟨v,ps,hr,hv⟩:=h.look_ok (string_keyed Tryz.underlying9) Tryz.underlying271 (z:=.agg #[.int .i64 0,.bool false]) (Tryz.zeroValue298 w) (zd:=zeroV) (zp:=[]) rfl (key_str s hs)
 rw [look_has] at hr
 rw [lookV_of ha s hv] at hr
 exact hr
def Pst {α:Type}(C:Cx)(r:NE α)(ok:α→Ending→World→Prop)(e:Ending)(w':World):Prop:=match r with
 | .error x=>e=wrongV C x∧Below C.Wn.heap.size C.Wn w'
 | .ok a=>ok a e w'
theorem pst_no {α:Type}{C:Cx}{r:NE α}{ok:α→Ending→World→Prop}{x:Nat × Int}{w':World}(hr:r=.error x)(hb:Below C.Wn.heap.size C.Wn w'):Pst C r ok (wrongV C x) w':=by rw [hr];exact ⟨rfl,hb⟩
theorem pst_ok {α:Type}{C:Cx}{r:NE α}{ok:α→Ending→World→Prop}{a:α}{e:Ending}{w':World}(hr:r=.ok a)(h:ok a e w'):Pst C r ok e w':=by rw [hr];exact h
theorem get_no {α:Type}{C:Cx}{r:NE α}{ok:α→Ending→World→Prop}{f:Nat}{args:Array Value}{w:World}{x:Nat × Int}(T:Calls Tryz.prog f args w (Pst C r ok))(hr:r=.error x):Calls Tryz.prog f args w fun e w'=>e=wrongV C x∧Below C.Wn.heap.size C.Wn w':=T.mono fun e w' h=>by rw [hr] at h;exact h
theorem get_ok {α:Type}{C:Cx}{r:NE α}{ok:α→Ending→World→Prop}{f:Nat}{args:Array Value}{w:World}{a:α}(T:Calls Tryz.prog f args w (Pst C r ok))(hr:r=.ok a):Calls Tryz.prog f args w (ok a):=T.mono fun e w' h=>by rw [hr] at h;exact h
section
variable {C:Cx}{pb:Nat}{s:St}{pile:List Int}{ms:List (Nat × Bool)}{vv bv pv:Value}{cs:Array Value}{w:World}
theorem Rd.bnOn (h:Rd C pb s pile ms vv bv pv cs w)(ok:CxOk C){w':World}(hb:Below w.heap.size w w'):Below C.Wn.heap.size C.Wn w':=(h.lo.on ok hb).bn
theorem tableOf_at (h:Rd C pb s pile ms vv bv pv cs w)(ok:CxOk C){i:Nat}(hi:i<C.nl):Calls Tryz.prog 278 #[.pointer (some ⟨C.rb,0,none⟩),.int .i64 i] w
 (Pst C (tableOf C.ns C.tabs i s) fun a e w'=>e=.returned (.int .i64 (a.1:Nat))∧Rd C pb a.2 pile ms vv bv pv cs w'):=by
 have ND:=lh (fun W (hW:Below w.heap.size w W)=>node_at (h.lo.on ok hW) ok hi)
 have FL:=lh (fun W (hW:Below w.heap.size w W) c=>fail_at (h.lo.on ok hW) ok hi c)
 have RH:=lh (fun W (hW:Below w.heap.size w W)=>h.on ok hW)
 have LK:∀W,Below w.heap.size w W→W.cell? ⟨C.rb,4,none⟩=some (.map (some C.tm))∧(Instr.lookup 134 (.map (some C.tm)) (.string (nd C.ns i).text) true).run Tryz.prog W=.ok (.tuple #[.int .i64 (((idx (C.tabs.map Tb.name) (nd C.ns i).text).getD 0:Nat):Int),.bool (idx (C.tabs.map Tb.name) (nd C.ns i).text).isSome]) W:=fun W hW =>
  ⟨((h.lo.on ok hW).cells ok).2.2.1,num_look ((h.lo.on ok hW).tmap ok) ok.tap _ (ok.txt i)⟩
 have LKh:=lh LK
 have fl:=nd_f2
 have PX:tableOf C.ns C.tabs i s=match idx (C.tabs.map Tb.name) (nd C.ns i).text with|none=>.error (i,70)|some t=>.ok (t,s.set i t):=rfl
 have PXh:=lh PX
 unfold nodeV at ND
 generalize (nd C.ns i).text=tx at *
 generalize hix:idx (C.tabs.map Tb.name) tx=ix at *
 obtain ⟨k4,l4⟩:=LK w (Below.refl _ _)
 clear h LK PX hix
 go_enter Tryz.func278,Tryz.ntmps278
 go_wp2_with fail
 go_region_held3 (fun w'=>w'.cell? ⟨C.rb,4,none⟩=some (.map (some C.tm))∧(Instr.lookup 134 (.map (some C.tm)) (.string tx) true).run Tryz.prog w'=.ok (.tuple #[.int .i64 ((ix.getD 0:Nat):Int),.bool ix.isSome]) w'∧Hid (Below w.heap.size w w')) (first|exact ⟨(LKh.out _ (Below.refl _ _)).1,(LKh.out _ (Below.refl _ _)).2,lh (Below.refl _ _)⟩|exact ⟨(LKh.out _ ((Below.refl _ _).drew)).1,(LKh.out _ ((Below.refl _ _).drew)).2,lh ((Below.refl _ _).drew)⟩|exact ⟨(LKh.out _ BB.out).1,(LKh.out _ BB.out).2,BB⟩|go_keep)
  ((go_at_call 139;obtain ⟨_,_,B0⟩:=(‹_∧_∧Hid (Below w.heap.size w _)›);refine (ND.out _ B0.out).mono ?_;rintro e w1 ⟨rfl,hb⟩;have BB:=lh (B0.out.trans (hb.mono B0.out.size))))
 have FL1:=lh (fun c=>FL.out _ BB.out c)
 have R1:=lh (RH.out _ BB.out)
 have c3:=(R1.out.lo.cells ok).2.1
 have k3:=(R1.out.lo.ofCell i hi).1
 have z3:=(R1.out.lo.ofCell i hi).2
 have i0:(0:Int)≤(i:Int):=by omega
 have i1:(i:Int)<(C.nl:Int):=by omega
 clear FL RH ND LKh k4 l4
 cases ix with
 | none =>
  simp only [Option.isSome_none,Option.getD_none] at *
  go_wp2_with fail
  (with_reducible refine (FL1.out _).mono ?_)
  rintro e w2 ⟨rfl,hb⟩
  simp only [wrongV]
  have HB:=lh (R1.out.bnOn ok hb)
  clear hb
  go_wp2
  exact ⟨rfl,pst_no PXh.out HB.out⟩
 | some t =>
  simp only [Option.isSome_some,Option.getD_some] at *
  go_wp2
  go_ret
  exact pst_ok PXh.out ⟨rfl,R1.out.setOf ok i t hi⟩
end
end Nm
namespace Nm
open Go.RowKit Go.Maps Tr
section
variable {C:Cx}{pb:Nat}{s:St}{pile:List Int}{ms:List (Nat × Bool)}{vv bv pv:Value}{cs:Array Value}{w:World}
theorem column_at (h:Rd C pb s pile ms vv bv pv cs w)(ok:CxOk C){i t:Nat}(hi:i<C.nl)(ht:t<C.tabs.length):Calls Tryz.prog 273 #[.pointer (some ⟨C.rb,0,none⟩),.int .i64 i,.int .i64 t] w
 (Pst C (column C.ns C.tabs i t s) fun s' e w'=>e=.returned (.tuple #[])∧Rd C pb s' pile ms vv bv pv cs w'):=by
 have ND:=lh (fun W (hW:Below w.heap.size w W)=>node_at (h.lo.on ok hW) ok hi)
 have FL:=lh (fun W (hW:Below w.heap.size w W) c=>fail_at (h.lo.on ok hW) ok hi c)
 have RH:=lh (fun W (hW:Below w.heap.size w W)=>h.on ok hW)
 obtain ⟨cb,cc,m,hcv,hcc,mo,ml,m1,m2,m3,m4⟩:=ok.cols t ht
 have LK:∀W,Below w.heap.size w W→W.cell? ⟨C.rb,6,none⟩=some (.slice (some ⟨cb,0,none⟩) C.tabs.length cc)∧W.cell? ⟨cb,t,none⟩=some (.map (some m))∧(Instr.lookup 134 (.map (some m)) (.string (nd C.ns i).text) true).run Tryz.prog W=.ok (.tuple #[.int .i64 (((idx ((C.tabs.map Tb.cols).getD t []) (nd C.ns i).text).getD 0:Nat):Int),.bool (idx ((C.tabs.map Tb.cols).getD t []) (nd C.ns i).text).isSome]) W:=fun W hW =>
  ⟨by rw [← hcv];exact ((h.lo.on ok hW).cells ok).2.2.2.2,by rw [World.cell?_of_block (w:=C.W) (a:=⟨cb,t,none⟩) ((h.lo.on ok hW).mid _ mo ml)];exact m1,num_look (map_block m4 ((h.lo.on ok hW).mid _ m2 m3)) (ok.cap t) _ (ok.txt i)⟩
 have LKh:=lh LK
 have fl:=nd_f2
 have PX:column C.ns C.tabs i t s=match idx ((C.tabs.map Tb.cols).getD t []) (nd C.ns i).text with|none=>.error (i,70)|some c=>.ok (s.set i c):=rfl
 have PXh:=lh PX
 unfold nodeV at ND
 generalize (nd C.ns i).text=tx at *
 generalize hix:idx ((C.tabs.map Tb.cols).getD t []) tx=ix at *
 have t0:(0:Int)≤(t:Int):=by omega
 have t1:(t:Int)<(C.tabs.length:Int):=by omega
 clear h LK PX hix m1 m2 m3 m4 mo ml hcv
 go_enter Tryz.func273,Tryz.ntmps273
 go_wp2_with fail
 go_region_held3 (fun w'=>w'.cell? ⟨C.rb,6,none⟩=some (.slice (some ⟨cb,0,none⟩) C.tabs.length cc)∧w'.cell? ⟨cb,t,none⟩=some (.map (some m))∧(Instr.lookup 134 (.map (some m)) (.string tx) true).run Tryz.prog w'=.ok (.tuple #[.int .i64 ((ix.getD 0:Nat):Int),.bool ix.isSome]) w'∧Hid (Below w.heap.size w w')) (first|exact ⟨(LKh.out _ (Below.refl _ _)).1,(LKh.out _ (Below.refl _ _)).2.1,(LKh.out _ (Below.refl _ _)).2.2,lh (Below.refl _ _)⟩|exact ⟨(LKh.out _ ((Below.refl _ _).drew)).1,(LKh.out _ ((Below.refl _ _).drew)).2.1,(LKh.out _ ((Below.refl _ _).drew)).2.2,lh ((Below.refl _ _).drew)⟩|exact ⟨(LKh.out _ BB.out).1,(LKh.out _ BB.out).2.1,(LKh.out _ BB.out).2.2,BB⟩|go_keep)
  ((go_at_call 139;obtain ⟨_,_,_,B0⟩:=(‹_∧_∧_∧Hid (Below w.heap.size w _)›);refine (ND.out _ B0.out).mono ?_;rintro e w1 ⟨rfl,hb⟩;have BB:=lh (B0.out.trans (hb.mono B0.out.size))))
 have FL1:=lh (fun c=>FL.out _ BB.out c)
 have R1:=lh (RH.out _ BB.out)
 have c3:=(R1.out.lo.cells ok).2.1
 have k3:=(R1.out.lo.ofCell i hi).1
 have z3:=(R1.out.lo.ofCell i hi).2
 have i0:(0:Int)≤(i:Int):=by omega
 have i1:(i:Int)<(C.nl:Int):=by omega
 clear FL RH ND LKh
 cases ix with
 | none =>
  simp only [Option.isSome_none,Option.getD_none] at *
  go_wp2_with fail
  (with_reducible refine (FL1.out _).mono ?_)
  rintro e w2 ⟨rfl,hb⟩
  simp only [wrongV]
  have HB:=lh (R1.out.bnOn ok hb)
  clear hb
  go_wp2
  exact ⟨rfl,pst_no PXh.out HB.out⟩
 | some c =>
  simp only [Option.isSome_some,Option.getD_some] at *
  go_wp2
  simp [bodyPost,results,Tryz.results273,go_sem]
  exact pst_ok PXh.out ⟨rfl,R1.out.setOf ok i c hi⟩
theorem Rd.look {m:Nat × Bool}{r:List (Nat × Bool)}(h:Rd C pb s pile (m::r) vv bv pv cs w)(tx:ByteArray)(htx:tx.size≤70000) :
 (Instr.lookup 271 (.map (some m.1)) (.string tx) true).run Tryz.prog w=.ok (.tuple #[lookV s.there tx,.bool (look s.there tx).isSome]) w:=by
 obtain ⟨e,es,he⟩:=h.maps.head
 have h0:=h.maps.map 0 (by simp)
 simp only [List.getD_cons_zero,he] at h0
 rw [St.there_mem he]
 exact var_look h0.2 (h.maps.apart e (by simp [he])) tx htx
theorem keep2 {w W:World}{A B:World→Prop}(h:Hid (∀W,Below w.heap.size w W→A W∧B W))(hW:Below w.heap.size w W):A W∧B W∧Hid (Below w.heap.size w W):=⟨(h.out W hW).1,(h.out W hW).2,hW⟩
theorem bxl {w W:World}{k n:Nat}(_h:Below w.heap.size w W)(hk:n≤k):n≤k:=hk
theorem box_new {X W:World}{a b:Value}{t:TypeId}(hb:Below (X.alloc (.cells #[a,b] t)).heap.size (X.alloc (.cells #[a,b] t)) W) :
 W.cell? ⟨X.heap.size,0,none⟩=some a∧W.cell? ⟨X.heap.size,1,none⟩=some b∧W.frozen? ⟨X.heap.size,0,none⟩=false∧W.frozen? ⟨X.heap.size,1,none⟩=false:=by
 have h:W.heap[X.heap.size]?=some (.cells #[a,b] t (0,0)):=(hb.block _ (by simp)).trans (heap_alloc_new X _)
 exact ⟨by rw [cell_of_row _ _ _ _ _ _ h];rfl,by rw [cell_of_row _ _ _ _ _ _ h];rfl,frozen_of_row _ _ _ _ _ h,frozen_of_row _ _ _ _ _ h⟩
theorem box_newd {X W:World}{a b:Value}{t:TypeId}(hb:Below (X.alloc (.cells #[a,b] t)).drew.heap.size (X.alloc (.cells #[a,b] t)).drew W) :
 W.cell? ⟨X.heap.size,0,none⟩=some a∧W.cell? ⟨X.heap.size,1,none⟩=some b∧W.frozen? ⟨X.heap.size,0,none⟩=false∧W.frozen? ⟨X.heap.size,1,none⟩=false:=box_new (X:=X) (t:=t) (((Below.refl _ (X.alloc (.cells #[a,b] t))).drew).trans hb)
theorem box_on {Y W:World}{k:Nat}{a b:Value}(hb:Below Y.heap.size Y W)(hk:Y.cell? ⟨k,0,none⟩=some a∧Y.cell? ⟨k,1,none⟩=some b∧Y.frozen? ⟨k,0,none⟩=false∧Y.frozen? ⟨k,1,none⟩=false) :
 W.cell? ⟨k,0,none⟩=some a∧W.cell? ⟨k,1,none⟩=some b∧W.frozen? ⟨k,0,none⟩=false∧W.frozen? ⟨k,1,none⟩=false:=by
 obtain ⟨k0,k1,z0,z1⟩:=hk
 have hl:k<Y.heap.size:=World.block_lt_of_cell? Y ⟨k,0,none⟩ k0
 exact ⟨(hb.cell (p:=⟨k,0,none⟩) hl).trans k0,(hb.cell (p:=⟨k,1,none⟩) hl).trans k1,(hb.frozen (p:=⟨k,0,none⟩) hl).trans z0,(hb.frozen (p:=⟨k,1,none⟩) hl).trans z1⟩
theorem lookV_agg (e:List Vr)(s:ByteArray):∃(n:Int) (l:Bool),lookV e s=.agg #[.int .i64 n,.bool l]:=by
 unfold lookV
 cases look e s with
 | none=>exact ⟨0,false,rfl⟩
 | some x=>exact ⟨_,_,rfl⟩
theorem mustBeNew_at {m:Nat × Bool}{r:List (Nat × Bool)}(h:Rd C pb s pile (m::r) vv bv pv (C.cells vv bv pv) w)(ok:CxOk C){i:Nat}(hi:i<C.nl):Calls Tryz.prog 212 #[.pointer (some ⟨pb,0,none⟩),.int .i64 i] w
 (Pst C (mustBeNew C.ns i s) fun s' e w'=>e=.returned (.tuple #[])∧s'=s∧Below w.heap.size w w'):=by
 have ND:=lh (fun W (hW:Below w.heap.size w W)=>node_at (h.lo.on ok hW) ok hi)
 have TH:=lh (fun W (hW:Below w.heap.size w W)=>there_at (h.on ok hW))
 have FL:=lh (fun W (hW:Below w.heap.size w W) c=>fail_at (h.lo.on ok hW) ok hi c)
 have BN:=lh (fun W (hW:Below w.heap.size w W)=>h.bnOn ok hW)
 have LK:∀W,Below w.heap.size w W→W.cell? ⟨pb,0,none⟩=some (.pointer (some ⟨C.rb,0,none⟩))∧(Instr.lookup 271 (.map (some m.1)) (.string (nd C.ns i).text) true).run Tryz.prog W=.ok (.tuple #[lookV s.there (nd C.ns i).text,.bool (look s.there (nd C.ns i).text).isSome]) W:=fun W hW =>
  ⟨(h.on ok hW).pcells.1,(h.on ok hW).look _ (ok.txt i)⟩
 have LKh:=lh LK
 have fl:=nd_f2
 have PX:mustBeNew C.ns i s=if (look s.there (nd C.ns i).text).isSome then .error (i,71) else .ok s:=rfl
 have PXh:=lh PX
 obtain ⟨vn,vl,hv⟩:=lookV_agg s.there (nd C.ns i).text
 rw [hv] at LKh
 unfold nodeV at ND
 generalize (nd C.ns i).text=tx at *
 generalize hix:(look s.there tx).isSome=ix at *
 clear h LK PX hix hv
 cases ix with
 | true =>
  go_enter Tryz.func212,Tryz.ntmps212
  go_wp2_with fail
  go_region_held3 (fun w'=>w'.cell? ⟨pb,0,none⟩=some (.pointer (some ⟨C.rb,0,none⟩))∧(Instr.lookup 271 (.map (some m.1)) (.string tx) true).run Tryz.prog w'=.ok (.tuple #[.agg #[.int .i64 vn,.bool vl],.bool true]) w'∧Hid (Below w.heap.size w w')) ((first|(refine keep2 LKh ?_;first|exact Below.refl _ _|exact (Below.refl _ _).drew|exact BB.out|exact (BB.out).alloc BB.out.size _|exact ((‹_∧_∧Hid (Below w.heap.size w _)›).2.2.out).alloc (‹_∧_∧Hid (Below w.heap.size w _)›).2.2.out.size _|exact (BB.out.setCell (bxl BB.out (by first|exact Nat.le_refl _|exact (‹Hid (Below w.heap.size w _)›).out.size)) _).setCell (bxl BB.out (by first|exact Nat.le_refl _|exact (‹Hid (Below w.heap.size w _)›).out.size)) _|exact (((‹_∧_∧Hid (Below w.heap.size w _)›).2.2.out).setCell (bxl BB.out (by first|exact Nat.le_refl _|exact (‹Hid (Below w.heap.size w _)›).out.size)) _).setCell (bxl BB.out (by first|exact Nat.le_refl _|exact (‹Hid (Below w.heap.size w _)›).out.size)) _)|go_keep))
   (first
    | (go_at_call 139;obtain ⟨_,_,B0⟩:=(‹_∧_∧Hid (Below w.heap.size w _)›);refine (ND.out _ B0.out).mono ?_;rintro e w1 ⟨rfl,hb⟩;have BB:=lh (B0.out.trans (hb.mono B0.out.size));(try (have kbx:=box_on hb kbx));(try (have kbx:=box_new hb));(try (have kbx:=box_newd hb)))
    | (go_at_call 246;obtain ⟨_,_,B0⟩:=(‹_∧_∧Hid (Below w.heap.size w _)›);refine (TH.out _ B0.out).mono ?_;rintro e w1 ⟨rfl,hb⟩;have BB:=lh (B0.out.trans (hb.mono B0.out.size));(try (have kbx:=box_on hb kbx));(try (have kbx:=box_new hb));(try (have kbx:=box_newd hb))))
  all_goals
   have BW:=lh (‹_∧_∧Hid (Below w.heap.size w _)›).2.2.out
   have cp:=(LKh.out _ BW.out).1
   have FL1:=lh (FL.out _ BW.out 71)
   have BN1:=lh (fun W h2=>BN.out W (BW.out.trans (Below.mono h2 BW.out.size)))
   clear FL BN
   go_wp2_with fail
   (with_reducible refine FL1.out.mono ?_)
   rintro e w2 ⟨rfl,hb⟩
   simp only [wrongV]
   have HB:=lh (BN1.out _ hb)
   clear hb BN1
   go_wp2
   exact ⟨rfl,pst_no PXh.out HB.out⟩
 | false =>
  go_enter Tryz.func212,Tryz.ntmps212
  go_wp2_with fail
  go_region_held3 (fun w'=>w'.cell? ⟨pb,0,none⟩=some (.pointer (some ⟨C.rb,0,none⟩))∧(Instr.lookup 271 (.map (some m.1)) (.string tx) true).run Tryz.prog w'=.ok (.tuple #[.agg #[.int .i64 vn,.bool vl],.bool false]) w'∧Hid (Below w.heap.size w w')) ((first|(refine keep2 LKh ?_;first|exact Below.refl _ _|exact (Below.refl _ _).drew|exact BB.out|exact (BB.out).alloc BB.out.size _|exact ((‹_∧_∧Hid (Below w.heap.size w _)›).2.2.out).alloc (‹_∧_∧Hid (Below w.heap.size w _)›).2.2.out.size _|exact (BB.out.setCell (bxl BB.out (by first|exact Nat.le_refl _|exact (‹Hid (Below w.heap.size w _)›).out.size)) _).setCell (bxl BB.out (by first|exact Nat.le_refl _|exact (‹Hid (Below w.heap.size w _)›).out.size)) _|exact (((‹_∧_∧Hid (Below w.heap.size w _)›).2.2.out).setCell (bxl BB.out (by first|exact Nat.le_refl _|exact (‹Hid (Below w.heap.size w _)›).out.size)) _).setCell (bxl BB.out (by first|exact Nat.le_refl _|exact (‹Hid (Below w.heap.size w _)›).out.size)) _)|go_keep))
   (first
    | (go_at_call 139;obtain ⟨_,_,B0⟩:=(‹_∧_∧Hid (Below w.heap.size w _)›);refine (ND.out _ B0.out).mono ?_;rintro e w1 ⟨rfl,hb⟩;have BB:=lh (B0.out.trans (hb.mono B0.out.size));(try (have kbx:=box_on hb kbx));(try (have kbx:=box_new hb));(try (have kbx:=box_newd hb)))
    | (go_at_call 246;obtain ⟨_,_,B0⟩:=(‹_∧_∧Hid (Below w.heap.size w _)›);refine (TH.out _ B0.out).mono ?_;rintro e w1 ⟨rfl,hb⟩;have BB:=lh (B0.out.trans (hb.mono B0.out.size));(try (have kbx:=box_on hb kbx));(try (have kbx:=box_new hb));(try (have kbx:=box_newd hb))))
  all_goals
   have BW:=lh (‹_∧_∧Hid (Below w.heap.size w _)›).2.2.out
   go_wp2
   simp [bodyPost,results,Tryz.results212,go_sem]
   exact pst_ok PXh.out ⟨rfl,rfl,BW.out⟩
end
end Nm
namespace Nm
open Go.RowKit Go.Maps Tr
section
variable {C:Cx}{pb:Nat}{s:St}{pile:List Int}{ms:List (Nat × Bool)}{vv bv pv:Value}{cs:Array Value}{w:World}
theorem box5 {X W:World}{a b c d e:Value}{t:TypeId}(hb:Below (X.alloc (.cells #[a,b,c,d,e] t)).heap.size (X.alloc (.cells #[a,b,c,d,e] t)) W) :
 W.cell? ⟨X.heap.size,0,none⟩=some a∧W.cell? ⟨X.heap.size,2,none⟩=some c∧W.cell? ⟨X.heap.size,4,none⟩=some e:=by
 have h:W.heap[X.heap.size]?=some (.cells #[a,b,c,d,e] t (0,0)):=(hb.block _ (by simp)).trans (heap_alloc_new X _)
 exact ⟨by rw [cell_of_row _ _ _ _ _ _ h];rfl,by rw [cell_of_row _ _ _ _ _ _ h];rfl,by rw [cell_of_row _ _ _ _ _ _ h];rfl⟩
theorem expr_at {m:Nat × Bool}{r:List (Nat × Bool)}(h:Rd C pb s pile (m::r) vv bv pv (C.cells vv bv pv) w)(ok:CxOk C){i0:Nat}(hi0:i0<C.nl):Calls Tryz.prog 276 #[.pointer (some ⟨pb,0,none⟩),.int .i64 i0] w
 (Pst C (exprAt C.ns i0 s) fun s' e w'=>e=.returned (.tuple #[])∧Rd C pb s' pile (m::r) vv bv pv (C.cells vv bv pv) w'):=by
 obtain ⟨R,hR⟩:∃R,exprAt C.ns i0 s=R:=⟨_,rfl⟩
 have hn:=ok.nslen
 have hfew:=ok.few
 have HF0:For C.S C.ns.length 1 i0 (i0+C.S i0):=ok.rt.one (by omega)
 obtain ⟨e,he⟩:∃e,i0+C.S i0=e:=⟨_,rfl⟩
 have hel:=(ok.rt.for_le 1 i0 _ HF0 (by omega)).2
 rw [he] at HF0 hel
 rw [hR]
 have HS:=lh h
 have HF:=lh HF0
 have HR:Hid (expr C.ns (C.ns.length+1) i0 1 s=R):=lh hR
 clear h HF0 hR he
 go_enter Tryz.func276,Tryz.ntmps276
 go_wp2_with fail
 go_loopw [1,4] (fun iv lv wr=>∃(i l f:Nat) (s':St),i≤C.nl∧l≤C.nl∧iv=.int .i64 i∧lv=.int .i64 l∧e<f+i∧Hid (For C.S C.ns.length l i e)∧Hid (expr C.ns f i l s'=R)∧Hid (Rd C pb s' pile (m::r) vv bv pv (C.cells vv bv pv) wr)) (fun iv _ _=>C.nl-(intOf iv).toNat)
 case atStart=>exact ⟨i0,1,C.ns.length+1,s,by omega,by omega,rfl,rfl,by omega,HF,HR,HS⟩
 case round =>
  obtain ⟨i,l,f,s',hi,hl,rfl,rfl,hf,HFi,HRi,HSi⟩:=hrel
  have i0:(0:Int)≤(i:Int):=by omega
  by_cases hp:(0:Int)<(l:Int)
  · obtain ⟨l,rfl⟩:∃k,l=k+1:=⟨l-1,by omega⟩
    obtain ⟨hin0,hstep⟩:=ok.rt.step HFi.out
    have hin:i<C.nl:=by omega
    have hle:=(ok.rt.for_le _ _ _ hstep (by omega))
    obtain ⟨f,rfl⟩:∃k,f=k+1:=⟨f-1,by omega⟩
    have HRx:(if (nd C.ns i).kind=22 then match look s'.there (nd C.ns i).text with
     | none=>.error (i,70)
     | some v=>expr C.ns f (i+1) (l+(nd C.ns i).kids.length) (s'.set i v.num)
     else expr C.ns f (i+1) (l+(nd C.ns i).kids.length) s')=R:=HRi.out
    have HRh:=lh HRx
    have HFn:=lh hstep
    have ND:=lh (node_at HSi.out.lo ok hin)
    have cp:=HSi.out.pcells.1
    have RH:=lh (fun W (hW:Below wr.heap.size wr W)=>HSi.out.on ok hW)
    have LKt:=lh (fun W (hW:Below wr.heap.size wr W)=>(HSi.out.on ok hW).look (nd C.ns i).text (ok.txt i))
    obtain ⟨vn,vl,hv⟩:=lookV_agg s'.there (nd C.ns i).text
    rw [hv] at LKt
    have hv2:∀x,look s'.there (nd C.ns i).text=some x→(x.num:Int)=vn:=fun x hx=>by
     have h2:=hv
     unfold lookV at h2
     rw [hx] at h2
     have h3:=congrArg (fun a:Array Value=>a[0]?) (Value.agg.inj h2)
     simpa using h3
    have HV:=lh hv2
    have kl:(nd C.ns i).kids.length≤70000:=by omega
    have w1e:IntKind.i64.wrap (((nd C.ns i).kids.length:Int)-1)=((nd C.ns i).kids.length:Int)-1:=IntWalk.i64_in _ (by omega)
    have w2e:IntKind.i64.wrap (((l+1:Nat):Int)+(((nd C.ns i).kids.length:Int)-1))=((l+(nd C.ns i).kids.length:Nat):Int):=by rw [IntWalk.i64_in _ (by omega)];omega
    have w3e:IntKind.i64.wrap ((i:Int)+1)=((i+1:Nat):Int):=by rw [IntWalk.i64_in _ (by omega)];omega
    unfold nodeV at ND
    generalize (nd C.ns i).kids.length=kn at *
    generalize (nd C.ns i).text=tx at *
    generalize hlk:look s'.there tx=lk at *
    generalize hlv:((l+1:Nat):Int)=lv at *
    clear HRx hstep HRi HFi hv hv2 hlk
    by_cases hk:(nd C.ns i).kind=22
    · have hkb:((nd C.ns i).kind==22)=true:=by simp [hk]
      rw [if_pos hk] at HRh
      generalize (nd C.ns i).kind=kd at *
      subst hk
      go_wp2_with fail
      (with_reducible refine ND.out.mono ?_)
      rintro x W0 ⟨rfl,hb⟩
      have HB0:=lh hb
      clear hb ND
      have HSW:=lh ((RH.out _ HB0.out).alloc ok (.cells #[.int .u8 22,.int .i64 (nd C.ns i).at',.string tx,.int .i64 (nd C.ns i).n,.slice (C.kp i) kn (C.kc i)] 54))
      have HBW:=lh (HB0.out.alloc HB0.out.size (.cells #[.int .u8 22,.int .i64 (nd C.ns i).at',.string tx,.int .i64 (nd C.ns i).n,.slice (C.kp i) kn (C.kc i)] 54))
      obtain ⟨bx0,bx2,bx4⟩:=box5 (Below.refl _ (W0.alloc (.cells #[.int .u8 22,.int .i64 (nd C.ns i).at',.string tx,.int .i64 (nd C.ns i).n,.slice (C.kp i) kn (C.kc i)] 54)))
      have bxl0:W0.heap.size<(W0.alloc (.cells #[.int .u8 22,.int .i64 (nd C.ns i).at',.string tx,.int .i64 (nd C.ns i).n,.slice (C.kp i) kn (C.kc i)] 54)).heap.size:=by simp
      go_wp2_with fail
      generalize W0.alloc (.cells #[.int .u8 22,.int .i64 (nd C.ns i).at',.string tx,.int .i64 (nd C.ns i).n,.slice (C.kp i) kn (C.kc i)] 54)=W at *
      obtain ⟨bq,hbq⟩:∃q,W0.heap.size=q:=⟨_,rfl⟩
      rw [hbq] at bx0 bx2 bx4 bxl0
      rw [hbq]
      have TH:=lh (fun W' (hW:Below W.heap.size W W')=>there_at (HSW.out.on ok hW))
      have RW:=lh (fun W' (hW:Below W.heap.size W W')=>HSW.out.on ok hW)
      have LKh:Hid (∀W',Below W.heap.size W W'→W'.cell? ⟨bq,2,none⟩=some (.string tx)∧(Instr.lookup 271 (.map (some m.1)) (.string tx) true).run Tryz.prog W'=.ok (.tuple #[.agg #[.int .i64 vn,.bool vl],.bool lk.isSome]) W'):=lh (fun W' hW=>⟨by rw [hW.cell (p:=⟨bq,2,none⟩) bxl0];exact bx2,LKt.out W' (HBW.out.trans (hW.mono HBW.out.size))⟩)
      have B4:Hid (∀W',Below W.heap.size W W'→W'.cell? ⟨bq,4,none⟩=some (.slice (C.kp i) kn (C.kc i))):=lh (fun W' hW=>by rw [hW.cell (p:=⟨bq,4,none⟩) bxl0];exact bx4)
      have hbo:bq≠C.ob:=by have h1:=HSi.out.lo.ol;have h2:=HSi.out.lo.sz;have h3:=HB0.out.size;omega
      clear hbq bx0 bx2 bx4 RH LKt HB0 HSi
      cases lk with
      | none =>
       simp only [Option.isSome_none] at LKh
       go_region_held3 (fun w'=>w'.cell? ⟨bq,2,none⟩=some (.string tx)∧(Instr.lookup 271 (.map (some m.1)) (.string tx) true).run Tryz.prog w'=.ok (.tuple #[.agg #[.int .i64 vn,.bool vl],.bool false]) w'∧Hid (Below W.heap.size W w')) ((first|(refine keep2 LKh ?_;first|exact Below.refl _ _|exact (Below.refl _ _).drew|exact BB.out|exact (BB.out).alloc BB.out.size _|exact ((‹_∧_∧Hid (Below W.heap.size W _)›).2.2.out).alloc (‹_∧_∧Hid (Below W.heap.size W _)›).2.2.out.size _|exact (BB.out.setCell (bxl BB.out (by first|exact Nat.le_refl _|exact (‹Hid (Below W.heap.size W _)›).out.size)) _).setCell (bxl BB.out (by first|exact Nat.le_refl _|exact (‹Hid (Below W.heap.size W _)›).out.size)) _|exact (((‹_∧_∧Hid (Below W.heap.size W _)›).2.2.out).setCell (bxl BB.out (by first|exact Nat.le_refl _|exact (‹Hid (Below W.heap.size W _)›).out.size)) _).setCell (bxl BB.out (by first|exact Nat.le_refl _|exact (‹Hid (Below W.heap.size W _)›).out.size)) _)|go_keep))
        ((go_at_call 246;obtain ⟨_,_,B0⟩:=(‹_∧_∧Hid (Below W.heap.size W _)›);refine (TH.out _ B0.out).mono ?_;rintro e w1 ⟨rfl,hb⟩;have BB:=lh (B0.out.trans (hb.mono B0.out.size));(try (have kbx:=box_on hb kbx));(try (have kbx:=box_new hb));(try (have kbx:=box_newd hb))))
       all_goals
        have BW:=lh (‹_∧_∧Hid (Below W.heap.size W _)›).2.2.out
        have R1:=lh (RW.out _ BW.out)
        have cp:=R1.out.pcells.1
        have FL1:=lh (fail_at R1.out.lo ok hin 70)
        go_wp2_with fail
        (with_reducible refine FL1.out.mono ?_)
        rintro e w2 ⟨rfl,hb⟩
        simp only [wrongV]
        have HB:=lh (R1.out.bnOn ok hb)
        clear hb
        go_wp2
        exact ⟨rfl,pst_no HRh.out.symm HB.out⟩
      | some x =>
       simp only [Option.isSome_some] at LKh
       go_region_held3 (fun w'=>w'.cell? ⟨bq,2,none⟩=some (.string tx)∧(Instr.lookup 271 (.map (some m.1)) (.string tx) true).run Tryz.prog w'=.ok (.tuple #[.agg #[.int .i64 vn,.bool vl],.bool true]) w'∧Hid (Below W.heap.size W w')) ((first|(refine keep2 LKh ?_;first|exact Below.refl _ _|exact (Below.refl _ _).drew|exact BB.out|exact (BB.out).alloc BB.out.size _|exact ((‹_∧_∧Hid (Below W.heap.size W _)›).2.2.out).alloc (‹_∧_∧Hid (Below W.heap.size W _)›).2.2.out.size _|exact (BB.out.setCell (bxl BB.out (by first|exact Nat.le_refl _|exact (‹Hid (Below W.heap.size W _)›).out.size)) _).setCell (bxl BB.out (by first|exact Nat.le_refl _|exact (‹Hid (Below W.heap.size W _)›).out.size)) _|exact (((‹_∧_∧Hid (Below W.heap.size W _)›).2.2.out).setCell (bxl BB.out (by first|exact Nat.le_refl _|exact (‹Hid (Below W.heap.size W _)›).out.size)) _).setCell (bxl BB.out (by first|exact Nat.le_refl _|exact (‹Hid (Below W.heap.size W _)›).out.size)) _)|go_keep))
        ((go_at_call 246;obtain ⟨_,_,B0⟩:=(‹_∧_∧Hid (Below W.heap.size W _)›);refine (TH.out _ B0.out).mono ?_;rintro e w1 ⟨rfl,hb⟩;have BB:=lh (B0.out.trans (hb.mono B0.out.size));(try (have kbx:=box_on hb kbx));(try (have kbx:=box_new hb));(try (have kbx:=box_newd hb))))
       all_goals
        have BW:=lh (‹_∧_∧Hid (Below W.heap.size W _)›).2.2.out
        have R1:=lh (RW.out _ BW.out)
        have cp:=R1.out.pcells.1
        have b4:=B4.out _ BW.out
        have c3:=(R1.out.lo.cells ok).2.1
        have k3:=(R1.out.lo.ofCell i hin).1
        have z3:=(R1.out.lo.ofCell i hin).2
        have i1:(i:Int)<(C.nl:Int):=by omega
        have hvn:=HV.out x rfl
        have HRs:Hid (Rd C pb (s'.set i x.num) pile (m::r) vv bv pv (C.cells vv bv pv) _):=lh (R1.out.setOf ok i x.num hin)
        rw [hvn] at HRs HRh
        go_wp2_with fail
        have b4s:World.cell? (World.setCell _ ⟨C.ob,i,none⟩ (.int .i64 vn)) ⟨bq,4,none⟩=some (.slice (C.kp i) kn (C.kc i)):=(World.cell?_setCell_other _ _ _ _ (by simp [hbo])).trans b4
        go_region_law (fail)
        all_goals
         go_wp2
         go_roundw
         case rel=>exact ⟨i+1,l+kn,f,s'.set i vn,by omega,by omega,rfl,rfl,by omega,HFn,HRh,by first|exact HRs|exact lh (HRs.out.on ok (Below.refl _ _).drew)⟩
         case measure=>simp [intOf];omega
    · have hkb:((nd C.ns i).kind==22)=false:=by simp [hk]
      rw [if_neg hk] at HRh
      generalize (nd C.ns i).kind=kd at *
      go_wp2_with fail
      (with_reducible refine ND.out.mono ?_)
      rintro x W0 ⟨rfl,hb⟩
      have HS1:=lh ((RH.out _ hb).alloc ok (.cells #[.int .u8 kd,.int .i64 (nd C.ns i).at',.string tx,.int .i64 (nd C.ns i).n,.slice (C.kp i) kn (C.kc i)] 54))
      clear hb ND RH LKt
      go_wp2
      go_roundw
      case rel=>exact ⟨i+1,l+kn,f,s',by omega,by omega,rfl,rfl,by omega,HFn,HRh,HS1⟩
      case measure=>simp [intOf];omega
  · have hRR:Pst C R (fun s' e w'=>e=.returned (.tuple #[])∧Rd C pb s' pile (m::r) vv bv pv (C.cells vv bv pv) w') (.returned (.tuple #[])) wr:=by
     have:=HRi.out
     obtain rfl:l=0:=by omega
     cases f with
     | zero =>
      have:i=e:=HFi.out
      omega
     | succ f=>exact pst_ok this.symm ⟨rfl,HSi.out⟩
    have HRR:=lh hRR
    clear hRR HRi HFi HSi
    go_wp2
    simp [bodyPost,results,Tryz.results276,go_sem]
    exact HRR.out
end
end Nm
namespace Nm
open Go.RowKit Go.Maps Tr
theorem mclone_at {b n:Nat}{D:MD}{w:World}(hown:w.ownsMap Tryz.prog 9 vrR b n D):Calls Tryz.prog 247 #[.map (some b)] w fun e w'=>e=.returned (.map (some w.heap.size))∧w'.ownsMap Tryz.prog 9 vrR w.heap.size n D∧Below w.heap.size w w':=by
 obtain ⟨es,clock,hb,F,hs,hD⟩:=hown
 have hq:=fun w=>run_eql_map_nil_sl (P:=Tryz.prog) w 271 _ _ (some b) Tryz.underlying271
 have HO:Hid ((w.alloc (.map es clock)).ownsMap Tryz.prog 9 vrR w.heap.size n D):=lh ⟨es,clock,(MapKept.heap_alloc w _).1,F,hs,hD⟩
 clear F hs hD
 go_enter Tryz.func247,Tryz.ntmps247
 go_wp2
 rw [run_callFunc_extern Tryz.func270 (by kernel_rfl) (by kernel_rfl) (by kernel_rfl) (e:=Extern.MapsClone.clone) (by kernel_rfl),run_maps_clone_sl w 271 hb]
 simp only [Result.andThen]
 rw [Oper.upon_value]
 go_wp2
 rw [run_typeAssert_map_sl _ 271 20 _ _ _ Tryz.underlying271]
 simp only [Result.andThen]
 rw [Oper.upon_value]
 go_wp2
 go_ret
 exact ⟨rfl,HO.out,(Below.refl _ _).alloc (Nat.le_refl _) _⟩
end Nm
namespace Nm
open Go.RowKit Go.Maps Tr
theorem own_slice {w:World}{base:Nat}{e:TypeId}{size n:Nat}{v:Value}{xs:List Value}(h:w.ownsRow base e size v n xs):∃p c,v=.slice p n c:=by
 rcases h.2 with ⟨rfl,rfl⟩|⟨g,cap,_,rfl,_⟩
 · exact ⟨none,0,rfl⟩
 · exact ⟨_,_,rfl⟩
theorem info_pN {t:Nat}{z:Value}{s b:Nat}(h:(Tryz.prog.info? t).map (fun i=>(i.zero,i.size,i.bytes))=some (some z,s,b)):∃i,Tryz.prog.info? t=some i∧i.zero=some z∧i.size=s∧i.bytes=b:=by
 cases hi:Tryz.prog.info? t with
 | none=>rw [hi] at h;simp at h
 | some i =>
  rw [hi] at h
  simp only [Option.map_some,Option.some.injEq,Prod.mk.injEq] at h
  exact ⟨i,rfl,h.1,h.2.1,h.2.2⟩
theorem infoS:(Tryz.prog.info? 9).map (fun i=>(i.zero,i.size,i.bytes))=some (some (.string ⟨#[]⟩),1,16):=by kernel_rfl
theorem infoN:(Tryz.prog.info? 3).map (fun i=>(i.zero,i.size,i.bytes))=some (some (.int .i64 0),1,8):=by kernel_rfl
theorem infoB:(Tryz.prog.info? 273).map (fun i=>(i.zero,i.size,i.bytes))=some (some (.agg #[.map none,.bool false]),2,16):=by kernel_rfl
theorem choose_world {A:World→Prop}{B:World→World→Prop}(h:∀W,A W→∃W',B W W'):∃F:World→World,∀W,A W→B W (F W):=by
 classical
 exact ⟨fun W=>if hA:A W then (h W hA).choose else W,fun W hA=>by simp only [hA,dif_pos];exact (h W hA).choose_spec⟩
section
variable {C:Cx}{pb:Nat}{s:St}{pile:List Int}{ms:List (Nat × Bool)}{vv bv pv:Value}{cs:Array Value}{w:World}
theorem Rd.ccell (h:Rd C pb s pile ms vv bv pv cs w)(j:Nat)(v:Value)(hv:cs[j]?=some v):w.cell? ⟨pb,j,none⟩=some v:=by rw [cell_of_row _ _ _ _ _ _ h.blk];exact hv
theorem Rd.cfz (h:Rd C pb s pile ms vv bv pv cs w)(j:Nat):w.frozen? ⟨pb,j,none⟩=false:=frozen_of_row _ _ _ _ _ h.blk
def Decl (C:Cx)(pb:Nat)(pile:List Int)(r:List (Nat × Bool))(bv pv:Value)(s':St)(e:Ending)(w':World):Prop:=e=.returned (.tuple #[])∧StOk s'∧∃mo vv',Rd C pb s' pile ((mo,true)::r) vv' bv pv (C.cells vv' bv pv) w'
theorem Rd.map0 {m:Nat × Bool}{r:List (Nat × Bool)}(h:Rd C pb s pile (m::r) vv bv pv cs w):C.W.heap.size≤m.1∧w.ownsMap Tryz.prog 9 vrR m.1 s.there.length (envD s.there):=by
 obtain ⟨e,es,he⟩:=h.maps.head
 have h0:=h.maps.map 0 (by simp)
 simp only [List.getD_cons_zero,he] at h0
 rw [St.there_mem he]
 exact h0
theorem Rd.mapLt {m:Nat × Bool}{r:List (Nat × Bool)}(h:Rd C pb s pile (m::r) vv bv pv cs w):∀x∈r,x.1<w.heap.size:=by
 intro x hx
 obtain ⟨j,hj,rfl⟩:=List.getElem_of_mem hx
 have:=(h.maps.map (j+1) (by simpa using hj)).2.lt
 simpa [List.getD,hj] using this
theorem stok_decl {of:List Int}{tx:ByteArray}{x:Vr}(hs:StOk s)(h64:s.vars.length<64):StOk { of:=of,vars:=s.vars++[tx],envs:=(s.there++[x])::s.envs.drop 1 } where
 vfew:=by simp;omega
 efew:=fun e he=>by
  rcases List.mem_cons.1 he with rfl|he
  · have:s.there.length≤s.vars.length:=by
     cases h:s.envs with
     | nil=>simp [St.there,h]
     | cons a b=>rw [St.there_mem h];exact hs.efew a (by simp [h])
    simp;omega
  · have:=hs.efew e (List.mem_of_mem_drop he)
    simp;omega
theorem declare_at {m:Nat × Bool}{r:List (Nat × Bool)}(h:Rd C pb s pile (m::r) vv bv pv (C.cells vv bv pv) w)(hs:StOk s)(ok:CxOk C){i:Nat}(hi:i<C.nl)(l:Bool)(hnew:look s.there (nd C.ns i).text=none) :
 Calls Tryz.prog 213 #[.pointer (some ⟨pb,0,none⟩),.int .i64 i,.bool l] w (Pst C (declare C.ns i l s) (Decl C pb pile r bv pv)):=by
 obtain ⟨vp,vc,rfl⟩:=own_slice h.vars
 obtain ⟨g,cap,rfl,hcap,hcm,hg,hgb,k0,k1,kz⟩:=h.inner
 obtain ⟨p0,p1,p2,p3⟩:=h.pcells
 have i0:(0:Int)≤(i:Int):=by omega
 have i1:(i:Int)<(C.nl:Int):=by omega
 have PX:declare C.ns i l s=if s.vars.length=64 then .error (i,3) else .ok { of:=s.of.set i s.vars.length,vars:=s.vars++[(nd C.ns i).text],envs:=(s.there++[⟨(nd C.ns i).text,s.vars.length,l⟩])::s.envs.drop 1 }:=rfl
 have hn64:=hs.vfew
 have HST:=lh hs
 have HNW:=lh hnew
 have HS:=lh h
 obtain ⟨n,hn⟩:∃n,s.vars.length=n:=⟨_,rfl⟩
 have HN:=lh hn
 rw [hn] at p1 HS PX hn64
 by_cases h64:n=64
 · rw [if_pos h64] at PX
   have PXh:=lh PX
   have hb:((n:Int)==64)=true:=by simp [h64]
   have FL:=lh (fail_at HS.out.lo ok hi 3)
   clear h PX hs hnew hn HN k0 k1 kz
   go_enter Tryz.func213,Tryz.ntmps213
   go_wp2_with fail
   (with_reducible refine FL.out.mono ?_)
   rintro e w2 ⟨rfl,hb⟩
   simp only [wrongV]
   have HB:=lh (HS.out.bnOn ok hb)
   clear hb
   go_wp2
   exact ⟨rfl,pst_no PXh.out HB.out⟩
 · rw [if_neg h64] at PX
   have PXh:=lh PX
   have hb:((n:Int)==64)=false:=by simp;omega
   obtain ⟨bn,hbn⟩:∃bn,r.length+1=bn:=⟨_,rfl⟩
   rw [hbn] at p2 hcap HS
   have j0:(0:Int)≤(r.length:Int):=by omega
   have j1:(r.length:Int)<(bn:Int):=by omega
   have hw:IntKind.i64.wrap ((bn:Int)-1)=(r.length:Int):=by rw [IntWalk.i64_in _ (by omega)];omega
   have HBN:=lh hbn
   clear h PX hs hnew hn k0 k1 kz hbn p0 p3 hg hgb
   go_enter Tryz.func213,Tryz.ntmps213
   go_wp2_with fail
   go_quiet (fail)
   have R1:=lh (HS.out.on ok (bdrewN w nq))
   generalize w.drewN nq=W1 at *
   have hin:=R1.out.inner
   obtain ⟨g',cap',he,_,_,hg,hgb,k0,k1,kz⟩:=hin
   cases he
   have kz0:=kz (r.length*2)
   have kz1:=kz (r.length*2+1)
   clear HS kz
   obtain ⟨mo,own⟩:=m
   cases own with
   | false =>
    have MC:=lh (mclone_at R1.out.map0.2)
    go_wp2_with fail
    (with_reducible refine MC.out.mono ?_)
    rintro e W2 ⟨rfl,hM,hb2⟩
    have R2:=lh (R1.out.on ok hb2)
    have hin:=R2.out.inner
    obtain ⟨g',cap',he,_,_,hg2,hgb2,k0,k1,kz⟩:=hin
    cases he
    have kz0:=kz (r.length*2)
    have kz1:=kz (r.length*2+1)
    have R3:=lh (Rd.ownMap (mn:=W1.heap.size) R2.out ok rfl (R1.out.lo.sz) hM (fun x hx=>Nat.ne_of_lt (R1.out.mapLt x hx)))
    clear R2 MC hM hb2 kz
    go_wp2_with fail
    generalize W1.heap.size=mo2 at *
    generalize hW3:World.setCell (World.setCell W2 ⟨g,r.length*2,none⟩ (.map (some mo2))) ⟨g,r.length*2+1,none⟩ (.bool true)=W3 at *
    obtain ⟨p0,p1,p2,p3⟩:=R3.out.pcells
    have c3:=(R3.out.lo.cells ok).2.1
    have k3:=(R3.out.lo.ofCell i hi).1
    have z3:=(R3.out.lo.ofCell i hi).2
    have R5:=lh ((R3.out.setOf ok i n hi).on ok ((Below.refl _ _).drew))
    have q0:=R5.out.ccell 0 _ rfl
    have q1:=R5.out.ccell 1 _ rfl
    have qc3:=(R5.out.lo.cells ok).2.1
    go_region_held3 (fun w'=>w'.cell? ⟨pb,0,none⟩=some (.pointer (some ⟨C.rb,0,none⟩))∧w'.cell? ⟨pb,1,none⟩=some (.slice vp n vc)∧w'.cell? ⟨C.rb,3,none⟩=some (.slice (some ⟨C.ob,0,none⟩) C.nl C.oc)) (first|exact ⟨p0,p1,c3⟩|exact ⟨q0,q1,qc3⟩|go_keep) (fail)
    generalize World.drew (World.setCell W3 ⟨C.ob,i,none⟩ (.int .i64 n))=W5 at *
    have gk0:=R5.out.inner
    obtain ⟨g',cap',he,_,_,_,_,gk0,_,_⟩:=gk0
    cases he
    clear p0 p1 p2 p3 c3 k3 z3 R3 qc3
    have ND:=lh (fun W (hW:Below W5.heap.size W5 W)=>node_at (R5.out.lo.on ok hW) ok hi)
    have fl:=nd_f2
    have htx:=ok.txt i
    unfold nodeV at ND
    generalize hgt:(nd C.ns i).text=tx at *
    have HX:∀W,Below W5.heap.size W5 W→∃W',(Instr.mapUpdate 271 (.map (some mo2)) (.string tx) (.agg #[.int .i64 n,.bool l])).run Tryz.prog W=.ok () W'∧Rd C pb { of:=s.of.set i n,vars:=s.vars,envs:=(s.there++[⟨tx,n,l⟩])::s.envs.drop 1 } pile ((mo2,true)::r) (.slice vp n vc) (.slice (some ⟨g,0,none⟩) (r.length+1) cap) pv (C.cells (.slice vp n vc) (.slice (some ⟨g,0,none⟩) (r.length+1) cap) pv) W':=by
     intro W hW
     have RW:=R5.out.on ok hW
     have hm0:=RW.map0.2
     have hth:s.there.length≤64:=by
      obtain ⟨e,es,he⟩:=RW.maps.head
      have he:s.envs=e::es:=he
      have:=HST.out.efew e (by rw [he];simp)
      have h2:=HST.out.vfew
      rw [St.there_mem he]
      omega
     obtain ⟨W',hrun,hown,hgrow⟩:=World.ownsMap.update (t := 271) (e := 298) hm0 (string_keyed Tryz.underlying9) Tryz.underlying271 (by show s.there.length<maxLen;simp only [maxLen];omega) (key:=.string tx) (val:=.agg #[.int .i64 n,.bool l]) (key_str tx htx) (vrR_mk n l)
     exact ⟨W',hrun,Rd.store (x:=⟨tx,n,l⟩) RW ok hgrow hown HNW.out⟩
    obtain ⟨F,hF⟩:=choose_world HX
    have hFh:=lh hF
    have SB:Hid (∀W,Below W5.heap.size W5 W→W.cell? ⟨pb,0,none⟩=some (.pointer (some ⟨C.rb,0,none⟩))∧W.cell? ⟨pb,1,none⟩=some (.slice vp n vc)∧W.cell? ⟨g,r.length*2,none⟩=some (.map (some mo2))):=lh (fun W hW=>by
     have RW:=R5.out.on ok hW
     obtain ⟨g',cap',he,_,_,_,_,h1,_,_⟩:=RW.inner
     cases he
     exact ⟨RW.ccell 0 _ rfl,RW.ccell 1 _ rfl,h1⟩)
    have SF:Hid (∀W,Below W5.heap.size W5 W→(F W).cell? ⟨pb,0,none⟩=some (.pointer (some ⟨C.rb,0,none⟩))∧(F W).cell? ⟨pb,1,none⟩=some (.slice vp n vc)∧(F W).cell? ⟨g,r.length*2,none⟩=some (.map (some mo2))):=lh (fun W hW=>by
     have RW:=(hFh.out W hW).2
     obtain ⟨g',cap',he,_,_,_,_,h1,_,_⟩:=RW.inner
     cases he
     exact ⟨RW.ccell 0 _ rfl,RW.ccell 1 _ rfl,h1⟩)
    clear HX hF
    go_wp2_with fail
    go_region_held3 (fun w'=>w'.cell? ⟨pb,0,none⟩=some (.pointer (some ⟨C.rb,0,none⟩))∧w'.cell? ⟨pb,1,none⟩=some (.slice vp n vc)∧w'.cell? ⟨g,r.length*2,none⟩=some (.map (some mo2))) (first|exact ⟨q0,q1,gk0⟩|exact SB.out _ BB.out|exact SF.out _ BB.out|go_keep)
     ((go_at_call 139;refine (ND.out _ ((Below.refl _ _).drew)).mono ?_;rintro e w1 ⟨rfl,hb⟩;have BB:=lh (((Below.refl _ W5).drew).trans hb);have MU:=(hFh.out w1 BB.out).1))
    have R6:=lh (hFh.out w1 BB.out).2
    generalize F w1=W6 at *
    obtain ⟨j0',J0,J1,J2,J3⟩:=info_pN infoS
    have I0:=lh J0
    have I1:=lh J1
    have I2:=lh J2
    have I3:=lh J3
    have NM:Hid (∀W,Below W6.heap.size W6 W→Calls Tryz.prog 211 #[.pointer (some ⟨C.rb,0,none⟩),.int .i64 i] W fun x W'=>x=.returned (.string tx)∧Below W.heap.size W W'):=lh (fun W hW=>by
     have:=name_at (R6.out.lo.on ok hW) ok hi
     rw [hgt] at this
     exact this)
    have a0:=R6.out.ccell 0 _ rfl
    have a1:=R6.out.ccell 1 _ rfl
    have SQ:Hid (∀W,Below W6.heap.size W6 W→W.cell? ⟨pb,0,none⟩=some (.pointer (some ⟨C.rb,0,none⟩))∧W.cell? ⟨pb,1,none⟩=some (.slice vp n vc)∧W.ownsRow C.W.heap.size 9 1 (.slice vp n vc) n (s.vars.map Value.string)∧C.W.heap.size≤W.heap.size∧W.frozen? ⟨pb,1,none⟩=false):=lh (fun W hW=>by
     have RW:=R6.out.on ok hW
     have hv:W.ownsRow C.W.heap.size 9 1 (.slice vp n vc) s.vars.length (s.vars.map Value.string):=RW.vars
     rw [HN.out] at hv
     exact ⟨RW.ccell 0 _ rfl,RW.ccell 1 _ rfl,hv,RW.lo.sz,RW.cfz 1⟩)
    have PV:Hid (∀W g5 cap5 w5,Below W6.heap.size W6 W→w5.ownsRow C.W.heap.size 9 1 (.slice (some ⟨g5,0,none⟩) (n+1) cap5) (n+1) (s.vars.map Value.string++[.string tx])→W.grownBy w5 (Value.slice vp n vc).ownBlock→Rd C pb { of:=s.of.set i n,vars:=s.vars++[tx],envs:=(s.there++[⟨tx,n,l⟩])::s.envs.drop 1 } pile ((mo2,true)::r) (.slice (some ⟨g5,0,none⟩) (n+1) cap5) (.slice (some ⟨g,0,none⟩) (r.length+1) cap) pv (C.cells (.slice vp n vc) (.slice (some ⟨g,0,none⟩) (r.length+1) cap) pv) w5):=lh (fun W g5 cap5 w5 hW h1 h2=>by
     have RW:=R6.out.on ok hW
     exact Rd.pushVar RW ok (by show w5.ownsRow C.W.heap.size 9 1 _ (s.vars.length+1) _;rw [HN.out];exact h1) h2)
    clear J0 J1 J2 J3 R6 hgt
    go_wp2_with fail
    go_region_law
     (first
      | (refine step_append_lies _ (by rfl) (.tmp 80) (.tmp 87) 33 (by rfl) C.W.heap.size 9 j0' _ 1 16 Tryz.underlying33 I0.out I1.out I2.out I3.out rfl (by decide) (.slice vp n vc) n (s.vars.map Value.string) (by rfl) (SQ.out _ (BB7.out.alloc BB7.out.size _)).2.2.1 ⟨w7.heap.size,0,none⟩ 1 1 [.string tx] (by rfl) (by rfl) (World.news_of_block (cs:=#[.string tx]) (t:=9) (fr:=(0,0)) (heap_alloc_new _ _)) (by simp [Value.oneCell']) (by decide) (by unfold maxLen;omega) (by omega) (SQ.out _ (BB7.out.alloc BB7.out.size _)).2.2.2.1 _ (by rfl) ?_;intro g5 cap5 w5 hown5 hgrow5 hat5 hlt5;have RV:=lh (PV.out _ g5 cap5 w5 (BB7.out.alloc BB7.out.size _) hown5 hgrow5);have RS:=lh (RV.out.cell ok 1 (.slice (some ⟨g5,0,none⟩) (n+1) cap5));have v1:=RV.out.ccell 1 _ rfl;have z1:=RV.out.cfz 1)
      | (rw [if_pos (by rfl)];go_simp;go_at_call 211;refine (NM.out _ ((Below.refl _ _).drew)).mono ?_;rintro e w7 ⟨rfl,hb7⟩;have BB7:=lh (((Below.refl _ W6).drew).trans hb7);have kp1:=(SQ.out _ BB7.out).2.1;have kp2:=(SQ.out _ (BB7.out.alloc BB7.out.size (.cells #[.string tx] 9))).2.1;(try go_wp2_with fail)))
    all_goals
     go_wp2
     simp [bodyPost,results,Tryz.results213,go_sem]
     exact pst_ok PXh.out ⟨rfl,stok_decl HST.out (by have:=HN.out;omega),mo2,_,RS.out⟩
   | true =>
    go_wp2_with fail
    obtain ⟨p0,p1,p2,p3⟩:=R1.out.pcells
    have c3:=(R1.out.lo.cells ok).2.1
    have k3:=(R1.out.lo.ofCell i hi).1
    have z3:=(R1.out.lo.ofCell i hi).2
    have R5:=lh ((R1.out.setOf ok i n hi).on ok ((Below.refl _ _).drew))
    have q0:=R5.out.ccell 0 _ rfl
    have q1:=R5.out.ccell 1 _ rfl
    have qc3:=(R5.out.lo.cells ok).2.1
    go_region_held3 (fun w'=>w'.cell? ⟨pb,0,none⟩=some (.pointer (some ⟨C.rb,0,none⟩))∧w'.cell? ⟨pb,1,none⟩=some (.slice vp n vc)∧w'.cell? ⟨C.rb,3,none⟩=some (.slice (some ⟨C.ob,0,none⟩) C.nl C.oc)) (first|exact ⟨p0,p1,c3⟩|exact ⟨q0,q1,qc3⟩|go_keep) (fail)
    generalize World.drew (World.setCell W1 ⟨C.ob,i,none⟩ (.int .i64 n))=W5 at *
    have gk0:=R5.out.inner
    obtain ⟨g',cap',he,_,_,_,_,gk0,_,_⟩:=gk0
    cases he
    clear p0 p1 p2 p3 c3 k3 z3 R1 qc3
    have ND:=lh (fun W (hW:Below W5.heap.size W5 W)=>node_at (R5.out.lo.on ok hW) ok hi)
    have fl:=nd_f2
    have htx:=ok.txt i
    unfold nodeV at ND
    generalize hgt:(nd C.ns i).text=tx at *
    have HX:∀W,Below W5.heap.size W5 W→∃W',(Instr.mapUpdate 271 (.map (some mo)) (.string tx) (.agg #[.int .i64 n,.bool l])).run Tryz.prog W=.ok () W'∧Rd C pb { of:=s.of.set i n,vars:=s.vars,envs:=(s.there++[⟨tx,n,l⟩])::s.envs.drop 1 } pile ((mo,true)::r) (.slice vp n vc) (.slice (some ⟨g,0,none⟩) (r.length+1) cap) pv (C.cells (.slice vp n vc) (.slice (some ⟨g,0,none⟩) (r.length+1) cap) pv) W':=by
     intro W hW
     have RW:=R5.out.on ok hW
     have hm0:=RW.map0.2
     have hth:s.there.length≤64:=by
      obtain ⟨e,es,he⟩:=RW.maps.head
      have he:s.envs=e::es:=he
      have:=HST.out.efew e (by rw [he];simp)
      have h2:=HST.out.vfew
      rw [St.there_mem he]
      omega
     obtain ⟨W',hrun,hown,hgrow⟩:=World.ownsMap.update (t := 271) (e := 298) hm0 (string_keyed Tryz.underlying9) Tryz.underlying271 (by show s.there.length<maxLen;simp only [maxLen];omega) (key:=.string tx) (val:=.agg #[.int .i64 n,.bool l]) (key_str tx htx) (vrR_mk n l)
     exact ⟨W',hrun,Rd.store (x:=⟨tx,n,l⟩) RW ok hgrow hown HNW.out⟩
    obtain ⟨F,hF⟩:=choose_world HX
    have hFh:=lh hF
    have SB:Hid (∀W,Below W5.heap.size W5 W→W.cell? ⟨pb,0,none⟩=some (.pointer (some ⟨C.rb,0,none⟩))∧W.cell? ⟨pb,1,none⟩=some (.slice vp n vc)∧W.cell? ⟨g,r.length*2,none⟩=some (.map (some mo))):=lh (fun W hW=>by
     have RW:=R5.out.on ok hW
     obtain ⟨g',cap',he,_,_,_,_,h1,_,_⟩:=RW.inner
     cases he
     exact ⟨RW.ccell 0 _ rfl,RW.ccell 1 _ rfl,h1⟩)
    have SF:Hid (∀W,Below W5.heap.size W5 W→(F W).cell? ⟨pb,0,none⟩=some (.pointer (some ⟨C.rb,0,none⟩))∧(F W).cell? ⟨pb,1,none⟩=some (.slice vp n vc)∧(F W).cell? ⟨g,r.length*2,none⟩=some (.map (some mo))):=lh (fun W hW=>by
     have RW:=(hFh.out W hW).2
     obtain ⟨g',cap',he,_,_,_,_,h1,_,_⟩:=RW.inner
     cases he
     exact ⟨RW.ccell 0 _ rfl,RW.ccell 1 _ rfl,h1⟩)
    clear HX hF
    go_wp2_with fail
    go_region_held3 (fun w'=>w'.cell? ⟨pb,0,none⟩=some (.pointer (some ⟨C.rb,0,none⟩))∧w'.cell? ⟨pb,1,none⟩=some (.slice vp n vc)∧w'.cell? ⟨g,r.length*2,none⟩=some (.map (some mo))) (first|exact ⟨q0,q1,gk0⟩|exact SB.out _ BB.out|exact SF.out _ BB.out|go_keep)
     ((go_at_call 139;refine (ND.out _ ((Below.refl _ _).drew)).mono ?_;rintro e w1 ⟨rfl,hb⟩;have BB:=lh (((Below.refl _ W5).drew).trans hb);have MU:=(hFh.out w1 BB.out).1))
    have R6:=lh (hFh.out w1 BB.out).2
    generalize F w1=W6 at *
    obtain ⟨j0',J0,J1,J2,J3⟩:=info_pN infoS
    have I0:=lh J0
    have I1:=lh J1
    have I2:=lh J2
    have I3:=lh J3
    have NM:Hid (∀W,Below W6.heap.size W6 W→Calls Tryz.prog 211 #[.pointer (some ⟨C.rb,0,none⟩),.int .i64 i] W fun x W'=>x=.returned (.string tx)∧Below W.heap.size W W'):=lh (fun W hW=>by
     have:=name_at (R6.out.lo.on ok hW) ok hi
     rw [hgt] at this
     exact this)
    have a0:=R6.out.ccell 0 _ rfl
    have a1:=R6.out.ccell 1 _ rfl
    have SQ:Hid (∀W,Below W6.heap.size W6 W→W.cell? ⟨pb,0,none⟩=some (.pointer (some ⟨C.rb,0,none⟩))∧W.cell? ⟨pb,1,none⟩=some (.slice vp n vc)∧W.ownsRow C.W.heap.size 9 1 (.slice vp n vc) n (s.vars.map Value.string)∧C.W.heap.size≤W.heap.size∧W.frozen? ⟨pb,1,none⟩=false):=lh (fun W hW=>by
     have RW:=R6.out.on ok hW
     have hv:W.ownsRow C.W.heap.size 9 1 (.slice vp n vc) s.vars.length (s.vars.map Value.string):=RW.vars
     rw [HN.out] at hv
     exact ⟨RW.ccell 0 _ rfl,RW.ccell 1 _ rfl,hv,RW.lo.sz,RW.cfz 1⟩)
    have PV:Hid (∀W g5 cap5 w5,Below W6.heap.size W6 W→w5.ownsRow C.W.heap.size 9 1 (.slice (some ⟨g5,0,none⟩) (n+1) cap5) (n+1) (s.vars.map Value.string++[.string tx])→W.grownBy w5 (Value.slice vp n vc).ownBlock→Rd C pb { of:=s.of.set i n,vars:=s.vars++[tx],envs:=(s.there++[⟨tx,n,l⟩])::s.envs.drop 1 } pile ((mo,true)::r) (.slice (some ⟨g5,0,none⟩) (n+1) cap5) (.slice (some ⟨g,0,none⟩) (r.length+1) cap) pv (C.cells (.slice vp n vc) (.slice (some ⟨g,0,none⟩) (r.length+1) cap) pv) w5):=lh (fun W g5 cap5 w5 hW h1 h2=>by
     have RW:=R6.out.on ok hW
     exact Rd.pushVar RW ok (by show w5.ownsRow C.W.heap.size 9 1 _ (s.vars.length+1) _;rw [HN.out];exact h1) h2)
    clear J0 J1 J2 J3 R6 hgt
    go_wp2_with fail
    go_region_law
     (first
      | (refine step_append_lies _ (by rfl) (.tmp 80) (.tmp 87) 33 (by rfl) C.W.heap.size 9 j0' _ 1 16 Tryz.underlying33 I0.out I1.out I2.out I3.out rfl (by decide) (.slice vp n vc) n (s.vars.map Value.string) (by rfl) (SQ.out _ (BB7.out.alloc BB7.out.size _)).2.2.1 ⟨w7.heap.size,0,none⟩ 1 1 [.string tx] (by rfl) (by rfl) (World.news_of_block (cs:=#[.string tx]) (t:=9) (fr:=(0,0)) (heap_alloc_new _ _)) (by simp [Value.oneCell']) (by decide) (by unfold maxLen;omega) (by omega) (SQ.out _ (BB7.out.alloc BB7.out.size _)).2.2.2.1 _ (by rfl) ?_;intro g5 cap5 w5 hown5 hgrow5 hat5 hlt5;have RV:=lh (PV.out _ g5 cap5 w5 (BB7.out.alloc BB7.out.size _) hown5 hgrow5);have RS:=lh (RV.out.cell ok 1 (.slice (some ⟨g5,0,none⟩) (n+1) cap5));have v1:=RV.out.ccell 1 _ rfl;have z1:=RV.out.cfz 1)
      | (rw [if_pos (by rfl)];go_simp;go_at_call 211;refine (NM.out _ ((Below.refl _ _).drew)).mono ?_;rintro e w7 ⟨rfl,hb7⟩;have BB7:=lh (((Below.refl _ W6).drew).trans hb7);have kp1:=(SQ.out _ BB7.out).2.1;have kp2:=(SQ.out _ (BB7.out.alloc BB7.out.size (.cells #[.string tx] 9))).2.1;(try go_wp2_with fail)))
    all_goals
     go_wp2
     simp [bodyPost,results,Tryz.results213,go_sem]
     exact pst_ok PXh.out ⟨rfl,stok_decl HST.out (by have:=HN.out;omega),mo,_,RS.out⟩
end
end Nm
end Go.Proofs.YthdioipfdbbmmaaGreatDoor
