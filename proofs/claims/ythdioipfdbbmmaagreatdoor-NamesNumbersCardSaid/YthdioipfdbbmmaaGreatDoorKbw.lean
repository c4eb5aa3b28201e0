/- Contracts. -/
import Derived.Test.YthdioipfdbbmmaaGreatDoorKaw
import Derived.Test.YthdioipfdbbmmaaGreatDoorTie
import Derived.ProofKit
import Derived.OpenShut
import Derived.ShutString
import Derived.ChangeOld
import Derived.LaidMore
import Derived.LaidHandle
import Derived.MakeChecks
set_option linter.all false
set_option maxRecDepth 1000000
set_option maxHeartbeats 16000000
namespace Go.Proofs.YthdioipfdbbmmaaGreatDoor
section
open Go.ChangeShapes Go.WideShapes Go.ChangeAt Go.RowKit
theorem own:ownKnob Tryz.prog.godebug=none:=by kernel_rfl
theorem laidOut:laidOutB Tryz.prog=true:=by kernel_rfl
theorem gErr:Tryz.prog.globalNamed "errors.errorType"=some 0:=by kernel_rfl
theorem rtErr:(Tryz.prog.cutTypes.find? (·.1 == "internal/reflectlite.rtype")).map (·.2)=some 229:=by kernel_rfl
theorem oneErr:((List.range 350).filter fun t=>Tryz.prog.rowNamed t [101,114,114,111,114])=[25]:=by kernel_rfl
theorem sizeTypes:Tryz.prog.types.size=350:=by kernel_rfl
theorem et_of_handle {W:World}{l:List (String × DataW Unit)}(h:handlesMet Tryz.prog l W)(hm:("errors.errorType",Rows.laid_errors_errorType)∈l):ET W:=by
 obtain ⟨name,u,ty,e1,e2,e3,e4,e5⟩:=h _ hm
 have en:name=[101,114,114,111,114]:=(Option.some.inj e1).symm
 subst en
 obtain rfl:=Option.some.inj (rtErr.symm.trans e2)
 have hm:ty∈(List.range 350).filter fun t=>Tryz.prog.rowNamed t [101,114,114,111,114]:=List.mem_filter.2 ⟨List.mem_range.2 (by rw [← sizeTypes];exact e3),e4⟩
 rw [oneErr] at hm
 obtain rfl:=List.mem_singleton.1 hm
 have hh:typeHandle Tryz.prog 25=.pointer (some ⟨5, 25,none⟩):=by kernel_rfl
 rw [hh] at e5
 simpa using World.var?_cell gErr e5 0
theorem src_of {H:Type}{enc:TypeId × Value→H}{W:World}{a:Option Addr}{len c:Nat}{d:DataW H}{ps:List MemPlace}(h:DataW.Trod enc Tryz.prog W 0 (fun _=>true) true 22 (.slice a len c) d ps):∃xs,Src W a len c xs:=by
 obtain ⟨fuel,hf⟩:=h
 rcases open_ints Tryz.underlying22 Tryz.underlying5 (by kernel_rfl) hf with ⟨hcs,_⟩|⟨x,l,c',zs,hcs,_,hl,hm,hz,_,hcell,hwz⟩
 · simp [Value.cells] at hcs
   obtain ⟨rfl,rfl,rfl⟩:=hcs
   exact ⟨[],rfl,fun i=>by simp [List.getD],Or.inl ⟨rfl,rfl⟩⟩
 · simp [Value.cells] at hcs
   obtain ⟨rfl,rfl,rfl⟩:=hcs
   have hz':zs.length=c:=by simpa using hz
   by_cases h0:c=0
   · subst h0
     obtain rfl:len=0:=by omega
     exact ⟨[],rfl,fun i=>by simp [List.getD],Or.inl ⟨rfl,rfl⟩⟩
   · obtain ⟨b,off,spot⟩:=x
     have hc:=hcell 0 (by omega)
     have hspot:spot=none:=by simpa [Addr.add] using World.cell?_spot hc
     subst hspot
     have hlt:b<W.heap.size:=by have:=cell_lt hc;simpa [Addr.add] using this
     refine ⟨zs.take len,by simp;omega,fun i=>?_,Or.inr ⟨b,off,rfl,hl,hlt,fun i hi=>?_⟩⟩
     · by_cases hi:i<(zs.take len).length
       · have hm:(zs.take len).getD i 0∈zs:=by
          simp only [List.getD,List.getElem?_eq_getElem hi,Option.getD_some]
          exact List.mem_of_mem_take (List.getElem_mem hi)
         have:=hwz _ hm
         exact bounds_u8 this |>.imp_right fun h=>by omega
       · simp [List.getD,List.getElem?_eq_none (Nat.le_of_not_lt hi)]
     · have:=hcell i (by omega)
       rw [show ((zs.take len).getD i 0)=zs.getD i 0 by simp [List.getD,hi],show (⟨b,off+i,none⟩:Addr)=(⟨b,off,none⟩:Addr).add i by unfold Addr.add;split<;>simp_all]
       exact this
noncomputable def errWorld (os:Os):World :=
 { World.holding Tryz.prog os ⟨#[], #[], []⟩ with heap := (World.holding Tryz.prog os ⟨#[], #[], []⟩).heap.modify 0 fun
     | .cells _ t frozen=>.cells #[.iface 229 (.agg #[.pointer (some ⟨5, 25,none⟩)])] t frozen
     | o=>o }
end
end Go.Proofs.YthdioipfdbbmmaaGreatDoor
