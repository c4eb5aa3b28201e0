/- Contracts. -/
import Derived.Test.YthdioipfdbbmmaaGreatDoorKad
import Derived.Test.YthdioipfdbbmmaaGreatDoorProg
import Derived.WalkKit
import Derived.Handy
import Derived.Below
import Derived.Carry
import Derived.Deep.QuietTactic
import Derived.BigQuiet
set_option linter.all false
set_option maxRecDepth 1000000
set_option maxHeartbeats 16000000
namespace Go.Proofs.YthdioipfdbbmmaaGreatDoor
namespace Tr
open Go.RowKit
structure IV (W:World)(p:Option Addr)(len c:Nat)(xs:List Int):Prop where
 len_eq:xs.length=len
 cap:len≤c
 cell:0<len→∃b off,p=some ⟨b,off,none⟩∧b<W.heap.size∧∀i,i<len→W.cell? ⟨b,off+i,none⟩=some (.int .i64 (xs.getD i 0))
structure NC (W:World)(b o:Nat)(nd:Nd)(kp:Option Addr)(kl kc:Nat):Prop where
 kind:W.cell? ⟨b,o,none⟩=some (.int .u8 nd.kind)
 at':W.cell? ⟨b,o+1,none⟩=some (.int .i64 nd.at')
 text:W.cell? ⟨b,o+2,none⟩=some (.string nd.text)
 n:W.cell? ⟨b,o+3,none⟩=some (.int .i64 nd.n)
 kids:W.cell? ⟨b,o+4,none⟩=some (.slice kp kl kc)
 iv:IV W kp kl kc nd.kids
structure TV (W:World)(p:Option Addr)(len c:Nat)(ns:List Nd):Prop where
 len_eq:ns.length=len
 cap:len≤c
 node:0<len→∃b off,p=some ⟨b,off,none⟩∧b<W.heap.size∧∀i,i<len→∃kp kl kc,NC W b (off+i*5) (ns.getD i default) kp kl kc
theorem IV.on {W W':World}{p:Option Addr}{len c:Nat}{xs:List Int}(h:IV W p len c xs)(hb:Below W.heap.size W W'):IV W' p len c xs where
 len_eq:=h.len_eq
 cap:=h.cap
 cell:=fun hl=>by
  obtain ⟨b,off,e,hlt,hc⟩:=h.cell hl
  exact ⟨b,off,e,Nat.lt_of_lt_of_le hlt hb.size,fun i hi=>by rw [hb.cell (p:=⟨b,off+i,none⟩) hlt];exact hc i hi⟩
theorem NC.on {W W':World}{b o:Nat}{nd:Nd}{kp:Option Addr}{kl kc:Nat}(h:NC W b o nd kp kl kc)(hlt:b<W.heap.size)(hb:Below W.heap.size W W'):NC W' b o nd kp kl kc where
 kind:=by rw [hb.cell (p:=⟨b,o,none⟩) hlt];exact h.kind
 at':=by rw [hb.cell (p:=⟨b,o+1,none⟩) hlt];exact h.at'
 text:=by rw [hb.cell (p:=⟨b,o+2,none⟩) hlt];exact h.text
 n:=by rw [hb.cell (p:=⟨b,o+3,none⟩) hlt];exact h.n
 kids:=by rw [hb.cell (p:=⟨b,o+4,none⟩) hlt];exact h.kids
 iv:=h.iv.on hb
theorem TV.on {W W':World}{p:Option Addr}{len c:Nat}{ns:List Nd}(h:TV W p len c ns)(hb:Below W.heap.size W W'):TV W' p len c ns where
 len_eq:=h.len_eq
 cap:=h.cap
 node:=fun hl=>by
  obtain ⟨b,off,e,hlt,hc⟩:=h.node hl
  refine ⟨b,off,e,Nat.lt_of_lt_of_le hlt hb.size,fun i hi=>?_⟩
  obtain ⟨kp,kl,kc,hn⟩:=hc i hi
  exact ⟨kp,kl,kc,hn.on hlt hb⟩
theorem one_below (w:World)(o:Obj):Below w.heap.size w (w.alloc o):=(Below.refl _ _).alloc (Nat.le_refl _) _
theorem all_take {α:Type}[Inhabited α](p:α→Bool)(l:List α)(k:Nat)(h:k<l.length):(l.take (k+1)).all p=((l.take k).all p&&p (l.getD k default)):=by
 rw [List.take_succ_eq_append_getElem h,List.all_append]
 simp [List.getD,h]
theorem all_no {α:Type}[Inhabited α](p:α→Bool)(l:List α)(k:Nat)(h:k<l.length)(hk:p (l.getD k default)=false):l.all p=false:=by
 rw [List.all_eq_false]
 exact ⟨l.getD k default,by simp [List.getD,h],by rw [hk];simp⟩
end Tr
end Go.Proofs.YthdioipfdbbmmaaGreatDoor
