/- Contracts. -/
import Derived.Test.YthdioipfdbbmmaaGreatDoorRows
import Derived.JoinedOf
import Derived.JoinedCond
import Derived.KernelRfl
set_option linter.all false
set_option maxRecDepth 1000000
set_option maxHeartbeats 16000000
namespace Go.Proofs.YthdioipfdbbmmaaGreatDoor
namespace Fx
open Go
theorem andT {a b:Bool}(ha:a=true)(hb:b=true):(a&&b)=true:=by rw [ha,hb];rfl
theorem k0_NamesNumbers:(fun (P:Program) (f:FuncId) (fn:Func) (s:ChangeSpec) (c:OpenClaim)=>(c.wf (OpenSpec.ofChange s):Bool)) Tryz.prog 12 Tryz.f12 Rows.namesNumbersSpec Rows.namesNumbersRow=true:=by kernel_rfl
theorem k1:(fun (P:Program) (f:FuncId) (fn:Func) (s:ChangeSpec) (c:OpenClaim)=>(laidOutB P:Bool)) Tryz.prog 12 Tryz.f12 Rows.namesNumbersSpec Rows.namesNumbersRow=true:=by kernel_rfl
theorem k2:(fun (P:Program) (f:FuncId) (fn:Func) (s:ChangeSpec) (c:OpenClaim)=>(mapsRowed P:Bool)) Tryz.prog 12 Tryz.f12 Rows.namesNumbersSpec Rows.namesNumbersRow=true:=by kernel_rfl
theorem k3_NamesNumbers:(fun (P:Program) (f:FuncId) (fn:Func) (s:ChangeSpec) (c:OpenClaim)=>(fn.params.all (P.readableRec ·):Bool)) Tryz.prog 12 Tryz.f12 Rows.namesNumbersSpec Rows.namesNumbersRow=true:=by kernel_rfl
theorem k4_NamesNumbers:(fun (P:Program) (f:FuncId) (fn:Func) (s:ChangeSpec) (c:OpenClaim)=>(namedTie P c.named s.vars:Bool)) Tryz.prog 12 Tryz.f12 Rows.namesNumbersSpec Rows.namesNumbersRow=true:=by kernel_rfl
theorem k5_NamesNumbers:(fun (P:Program) (f:FuncId) (fn:Func) (s:ChangeSpec) (c:OpenClaim)=>((c.stops==[]):Bool)) Tryz.prog 12 Tryz.f12 Rows.namesNumbersSpec Rows.namesNumbersRow=true:=by kernel_rfl
theorem k6:(fun (P:Program) (f:FuncId) (fn:Func) (s:ChangeSpec) (c:OpenClaim)=>((P.stops==[]):Bool)) Tryz.prog 12 Tryz.f12 Rows.namesNumbersSpec Rows.namesNumbersRow=true:=by kernel_rfl
theorem k7_NamesNumbers:(fun (P:Program) (f:FuncId) (fn:Func) (s:ChangeSpec) (c:OpenClaim)=>((c.knobs==[]):Bool)) Tryz.prog 12 Tryz.f12 Rows.namesNumbersSpec Rows.namesNumbersRow=true:=by kernel_rfl
theorem k8:(fun (P:Program) (f:FuncId) (fn:Func) (s:ChangeSpec) (c:OpenClaim)=>((P.stopKnobs==[]):Bool)) Tryz.prog 12 Tryz.f12 Rows.namesNumbersSpec Rows.namesNumbersRow=true:=by kernel_rfl
theorem k9_NamesNumbers:(fun (P:Program) (f:FuncId) (fn:Func) (s:ChangeSpec) (c:OpenClaim)=>((c.inPlace==P.inPlace f):Bool)) Tryz.prog 12 Tryz.f12 Rows.namesNumbersSpec Rows.namesNumbersRow=true:=by kernel_rfl
theorem k10_NamesNumbers:(fun (P:Program) (f:FuncId) (fn:Func) (s:ChangeSpec) (c:OpenClaim)=>((c.unfollowed==P.unfollowed f):Bool)) Tryz.prog 12 Tryz.f12 Rows.namesNumbersSpec Rows.namesNumbersRow=true:=by kernel_rfl
theorem k11_NamesNumbers:(fun (P:Program) (f:FuncId) (fn:Func) (s:ChangeSpec) (c:OpenClaim)=>((c.recurses==P.recurses f):Bool)) Tryz.prog 12 Tryz.f12 Rows.namesNumbersSpec Rows.namesNumbersRow=true:=by kernel_rfl
theorem k12_NamesNumbers:(fun (P:Program) (f:FuncId) (fn:Func) (s:ChangeSpec) (c:OpenClaim)=>((c.named==P.varsNamed f):Bool)) Tryz.prog 12 Tryz.f12 Rows.namesNumbersSpec Rows.namesNumbersRow=true:=by kernel_rfl
theorem k13_NamesNumbers:(fun (P:Program) (f:FuncId) (fn:Func) (s:ChangeSpec) (c:OpenClaim)=>((c.maps==(fn.params.toList++s.plain.varTypes P).any (P.mapsRec ·)):Bool)) Tryz.prog 12 Tryz.f12 Rows.namesNumbersSpec Rows.namesNumbersRow=true:=by kernel_rfl
theorem k14_NamesNumbers:(fun (P:Program) (f:FuncId) (fn:Func) (s:ChangeSpec) (c:OpenClaim)=>((c.ifaces==(fn.params.toList++s.plain.varTypes P).any (P.ifacesRec ·)):Bool)) Tryz.prog 12 Tryz.f12 Rows.namesNumbersSpec Rows.namesNumbersRow=true:=by kernel_rfl
theorem k15_NamesNumbers:(fun (P:Program) (f:FuncId) (fn:Func) (s:ChangeSpec) (c:OpenClaim)=>((c.mapsOut==P.mapsAmong fn.resultTypes.toList):Bool)) Tryz.prog 12 Tryz.f12 Rows.namesNumbersSpec Rows.namesNumbersRow=true:=by kernel_rfl
theorem k16_NamesNumbers:(fun (P:Program) (f:FuncId) (fn:Func) (s:ChangeSpec) (c:OpenClaim)=>((c.loops==(fn.params.toList++s.plain.varTypes P).any (P.loopsFrom ·)):Bool)) Tryz.prog 12 Tryz.f12 Rows.namesNumbersSpec Rows.namesNumbersRow=true:=by kernel_rfl
theorem k17_NamesNumbers:(fun (P:Program) (f:FuncId) (fn:Func) (s:ChangeSpec) (c:OpenClaim)=>((c.wideKeys==(fn.params.toList++s.plain.varTypes P++fn.resultTypes.toList).any (P.wideKeysFrom ·)):Bool)) Tryz.prog 12 Tryz.f12 Rows.namesNumbersSpec Rows.namesNumbersRow=true:=by kernel_rfl
theorem k18_NamesNumbers:(fun (P:Program) (f:FuncId) (fn:Func) (s:ChangeSpec) (c:OpenClaim)=>(s.vars.all (P.varReadable ·):Bool)) Tryz.prog 12 Tryz.f12 Rows.namesNumbersSpec Rows.namesNumbersRow=true:=by kernel_rfl
theorem k19_NamesNumbers:(fun (P:Program) (f:FuncId) (fn:Func) (s:ChangeSpec) (c:OpenClaim)=>(fn.resultTypes.all (fun t=>P.readableRec t&&decide (t<P.types.size)):Bool)) Tryz.prog 12 Tryz.f12 Rows.namesNumbersSpec Rows.namesNumbersRow=true:=by kernel_rfl
theorem k20_NamesNumbers:(fun (P:Program) (f:FuncId) (fn:Func) (s:ChangeSpec) (c:OpenClaim)=>((c.ifacesOut==fn.resultTypes.toList.any (P.ifacesRec ·)):Bool)) Tryz.prog 12 Tryz.f12 Rows.namesNumbersSpec Rows.namesNumbersRow=true:=by kernel_rfl
theorem k21_NamesNumbers:(fun (P:Program) (f:FuncId) (fn:Func) (s:ChangeSpec) (c:OpenClaim)=>((c.loopsOut==fn.resultTypes.toList.any (P.loopsFrom ·)):Bool)) Tryz.prog 12 Tryz.f12 Rows.namesNumbersSpec Rows.namesNumbersRow=true:=by kernel_rfl
theorem k22_NamesNumbers:(fun (P:Program) (f:FuncId) (fn:Func) (s:ChangeSpec) (c:OpenClaim)=>((c.plainKeys==P.plainKeys):Bool)) Tryz.prog 12 Tryz.f12 Rows.namesNumbersSpec Rows.namesNumbersRow=true:=by kernel_rfl
theorem k23_NamesNumbers:(fun (P:Program) (f:FuncId) (fn:Func) (s:ChangeSpec) (c:OpenClaim)=>(c.shortTexts.isNone:Bool)) Tryz.prog 12 Tryz.f12 Rows.namesNumbersSpec Rows.namesNumbersRow=true:=by kernel_rfl
theorem k24:(fun (P:Program) (f:FuncId) (fn:Func) (s:ChangeSpec) (c:OpenClaim)=>(P.stopsHeard:Bool)) Tryz.prog 12 Tryz.f12 Rows.namesNumbersSpec Rows.namesNumbersRow=true:=by kernel_rfl
theorem k25:(fun (P:Program) (f:FuncId) (fn:Func) (s:ChangeSpec) (c:OpenClaim)=>(P.mayEnter:Bool)) Tryz.prog 12 Tryz.f12 Rows.namesNumbersSpec Rows.namesNumbersRow=true:=by kernel_rfl
theorem k26_NamesNumbers:(fun (P:Program) (f:FuncId) (fn:Func) (s:ChangeSpec) (c:OpenClaim)=>((c.lifted==P.liftsFinal):Bool)) Tryz.prog 12 Tryz.f12 Rows.namesNumbersSpec Rows.namesNumbersRow=true:=by kernel_rfl
theorem k27_NamesNumbers:(fun (P:Program) (f:FuncId) (fn:Func) (s:ChangeSpec) (c:OpenClaim)=>((P.make==some c.make):Bool)) Tryz.prog 12 Tryz.f12 Rows.namesNumbersSpec Rows.namesNumbersRow=true:=by kernel_rfl
theorem k28_NamesNumbers:(fun (P:Program) (f:FuncId) (fn:Func) (s:ChangeSpec) (c:OpenClaim)=>((c.kinds==(if c.domain.isEmpty then [] else fn.params.toList.map fun t=>match P.underlying t with|some (.int k)=>some k|_=>none)):Bool)) Tryz.prog 12 Tryz.f12 Rows.namesNumbersSpec Rows.namesNumbersRow=true:=by kernel_rfl
theorem k29_NamesNumbers:(fun (P:Program) (f:FuncId) (fn:Func) (s:ChangeSpec) (c:OpenClaim)=>((c.pinned==c.pinnedBy):Bool)) Tryz.prog 12 Tryz.f12 Rows.namesNumbersSpec Rows.namesNumbersRow=true:=by kernel_rfl
theorem k30_NamesNumbers:(fun (P:Program) (f:FuncId) (fn:Func) (s:ChangeSpec) (c:OpenClaim)=>((c.veiled==(fn.params.toList++s.plain.varTypes P++fn.resultTypes.toList).any (P.veiledRec ·)):Bool)) Tryz.prog 12 Tryz.f12 Rows.namesNumbersSpec Rows.namesNumbersRow=true:=by kernel_rfl
theorem k31_NamesNumbers:(fun (P:Program) (f:FuncId) (fn:Func) (s:ChangeSpec) (c:OpenClaim)=>(c.veiledFits P fn.params.toList (fn.params.toList++s.plain.varTypes P++fn.resultTypes.toList):Bool)) Tryz.prog 12 Tryz.f12 Rows.namesNumbersSpec Rows.namesNumbersRow=true:=by kernel_rfl
set_option maxRecDepth 1000000 in
theorem closed_NamesNumbers:joinedFacts Tryz.pinned.checked.prog 12 Tryz.f12 (OpenSpec.ofChange Rows.namesNumbersSpec).bare Rows.namesNumbersRow=true :=
 (show joinedFacts Tryz.prog 12 Tryz.f12 Rows.namesNumbersSpec Rows.namesNumbersRow=true from (andT (andT (andT (andT (andT (andT (andT (andT (andT (andT (andT (andT (andT (andT (andT (andT (andT (andT (andT (andT (andT (andT (andT (andT (andT (andT (andT (andT (andT (andT (andT k0_NamesNumbers k1) k2) k3_NamesNumbers) k4_NamesNumbers) k5_NamesNumbers) k6) k7_NamesNumbers) k8) k9_NamesNumbers) k10_NamesNumbers) k11_NamesNumbers) k12_NamesNumbers) k13_NamesNumbers) k14_NamesNumbers) k15_NamesNumbers) k16_NamesNumbers) k17_NamesNumbers) k18_NamesNumbers) k19_NamesNumbers) k20_NamesNumbers) k21_NamesNumbers) k22_NamesNumbers) k23_NamesNumbers) k24) k25) k26_NamesNumbers) k27_NamesNumbers) k28_NamesNumbers) k29_NamesNumbers) k30_NamesNumbers) k31_NamesNumbers))
end Fx
end Go.Proofs.YthdioipfdbbmmaaGreatDoor
