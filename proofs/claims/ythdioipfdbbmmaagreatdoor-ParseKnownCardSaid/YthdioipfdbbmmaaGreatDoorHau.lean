/- Contracts. -/
import Derived.Test.YthdioipfdbbmmaaGreatDoorRows
import Derived.JoinedOf
import Derived.JoinedCond
import Derived.KernelRfl
set_option linter.all false
set_option maxRecDepth 1000000
set_option maxHeartbeats 16000000
namespace Go.Proofs.YthdioipfdbbmmaaGreatDoor
namespace Fx
open Go
theorem andT {a b:Bool}(ha:a=true)(hb:b=true):(a&&b)=true:=by rw [ha,hb];rfl
theorem k1:(fun (P:Program) (f:FuncId) (fn:Func) (s:ChangeSpec) (c:OpenClaim)=>(laidOutB P:Bool)) Tryz.prog 4 Tryz.f4 Rows.printAnySpec Rows.printAnyRow=true:=by kernel_rfl
theorem k2:(fun (P:Program) (f:FuncId) (fn:Func) (s:ChangeSpec) (c:OpenClaim)=>(mapsRowed P:Bool)) Tryz.prog 4 Tryz.f4 Rows.printAnySpec Rows.printAnyRow=true:=by kernel_rfl
theorem k6:(fun (P:Program) (f:FuncId) (fn:Func) (s:ChangeSpec) (c:OpenClaim)=>((P.stops==[]):Bool)) Tryz.prog 4 Tryz.f4 Rows.printAnySpec Rows.printAnyRow=true:=by kernel_rfl
theorem k8:(fun (P:Program) (f:FuncId) (fn:Func) (s:ChangeSpec) (c:OpenClaim)=>((P.stopKnobs==[]):Bool)) Tryz.prog 4 Tryz.f4 Rows.printAnySpec Rows.printAnyRow=true:=by kernel_rfl
theorem k24:(fun (P:Program) (f:FuncId) (fn:Func) (s:ChangeSpec) (c:OpenClaim)=>(P.stopsHeard:Bool)) Tryz.prog 4 Tryz.f4 Rows.printAnySpec Rows.printAnyRow=true:=by kernel_rfl
theorem k25:(fun (P:Program) (f:FuncId) (fn:Func) (s:ChangeSpec) (c:OpenClaim)=>(P.mayEnter:Bool)) Tryz.prog 4 Tryz.f4 Rows.printAnySpec Rows.printAnyRow=true:=by kernel_rfl
theorem k0_ParseKnown:(fun (P:Program) (f:FuncId) (fn:Func) (s:ChangeSpec) (c:OpenClaim)=>(c.wf (OpenSpec.ofChange s):Bool)) Tryz.prog 3 Tryz.f3 Rows.parseKnownSpec Rows.parseKnownRow=true:=by kernel_rfl
theorem k3_ParseKnown:(fun (P:Program) (f:FuncId) (fn:Func) (s:ChangeSpec) (c:OpenClaim)=>(fn.params.all (P.readableRec ·):Bool)) Tryz.prog 3 Tryz.f3 Rows.parseKnownSpec Rows.parseKnownRow=true:=by kernel_rfl
theorem k4_ParseKnown:(fun (P:Program) (f:FuncId) (fn:Func) (s:ChangeSpec) (c:OpenClaim)=>(namedTie P c.named s.vars:Bool)) Tryz.prog 3 Tryz.f3 Rows.parseKnownSpec Rows.parseKnownRow=true:=by kernel_rfl
theorem k5_ParseKnown:(fun (P:Program) (f:FuncId) (fn:Func) (s:ChangeSpec) (c:OpenClaim)=>((c.stops==[]):Bool)) Tryz.prog 3 Tryz.f3 Rows.parseKnownSpec Rows.parseKnownRow=true:=by kernel_rfl
theorem k7_ParseKnown:(fun (P:Program) (f:FuncId) (fn:Func) (s:ChangeSpec) (c:OpenClaim)=>((c.knobs==[]):Bool)) Tryz.prog 3 Tryz.f3 Rows.parseKnownSpec Rows.parseKnownRow=true:=by kernel_rfl
theorem k9_ParseKnown:(fun (P:Program) (f:FuncId) (fn:Func) (s:ChangeSpec) (c:OpenClaim)=>((c.inPlace==P.inPlace f):Bool)) Tryz.prog 3 Tryz.f3 Rows.parseKnownSpec Rows.parseKnownRow=true:=by kernel_rfl
theorem k10_ParseKnown:(fun (P:Program) (f:FuncId) (fn:Func) (s:ChangeSpec) (c:OpenClaim)=>((c.unfollowed==P.unfollowed f):Bool)) Tryz.prog 3 Tryz.f3 Rows.parseKnownSpec Rows.parseKnownRow=true:=by kernel_rfl
theorem k11_ParseKnown:(fun (P:Program) (f:FuncId) (fn:Func) (s:ChangeSpec) (c:OpenClaim)=>((c.recurses==P.recurses f):Bool)) Tryz.prog 3 Tryz.f3 Rows.parseKnownSpec Rows.parseKnownRow=true:=by kernel_rfl
theorem k12_ParseKnown:(fun (P:Program) (f:FuncId) (fn:Func) (s:ChangeSpec) (c:OpenClaim)=>((c.named==P.varsNamed f):Bool)) Tryz.prog 3 Tryz.f3 Rows.parseKnownSpec Rows.parseKnownRow=true:=by kernel_rfl
theorem k13_ParseKnown:(fun (P:Program) (f:FuncId) (fn:Func) (s:ChangeSpec) (c:OpenClaim)=>((c.maps==(fn.params.toList++s.plain.varTypes P).any (P.mapsRec ·)):Bool)) Tryz.prog 3 Tryz.f3 Rows.parseKnownSpec Rows.parseKnownRow=true:=by kernel_rfl
theorem k14_ParseKnown:(fun (P:Program) (f:FuncId) (fn:Func) (s:ChangeSpec) (c:OpenClaim)=>((c.ifaces==(fn.params.toList++s.plain.varTypes P).any (P.ifacesRec ·)):Bool)) Tryz.prog 3 Tryz.f3 Rows.parseKnownSpec Rows.parseKnownRow=true:=by kernel_rfl
theorem k15_ParseKnown:(fun (P:Program) (f:FuncId) (fn:Func) (s:ChangeSpec) (c:OpenClaim)=>((c.mapsOut==P.mapsAmong fn.resultTypes.toList):Bool)) Tryz.prog 3 Tryz.f3 Rows.parseKnownSpec Rows.parseKnownRow=true:=by kernel_rfl
theorem k16_ParseKnown:(fun (P:Program) (f:FuncId) (fn:Func) (s:ChangeSpec) (c:OpenClaim)=>((c.loops==(fn.params.toList++s.plain.varTypes P).any (P.loopsFrom ·)):Bool)) Tryz.prog 3 Tryz.f3 Rows.parseKnownSpec Rows.parseKnownRow=true:=by kernel_rfl
theorem k17_ParseKnown:(fun (P:Program) (f:FuncId) (fn:Func) (s:ChangeSpec) (c:OpenClaim)=>((c.wideKeys==(fn.params.toList++s.plain.varTypes P++fn.resultTypes.toList).any (P.wideKeysFrom ·)):Bool)) Tryz.prog 3 Tryz.f3 Rows.parseKnownSpec Rows.parseKnownRow=true:=by kernel_rfl
theorem k18_ParseKnown:(fun (P:Program) (f:FuncId) (fn:Func) (s:ChangeSpec) (c:OpenClaim)=>(s.vars.all (P.varReadable ·):Bool)) Tryz.prog 3 Tryz.f3 Rows.parseKnownSpec Rows.parseKnownRow=true:=by kernel_rfl
theorem k19_ParseKnown:(fun (P:Program) (f:FuncId) (fn:Func) (s:ChangeSpec) (c:OpenClaim)=>(fn.resultTypes.all (fun t=>P.readableRec t&&decide (t<P.types.size)):Bool)) Tryz.prog 3 Tryz.f3 Rows.parseKnownSpec Rows.parseKnownRow=true:=by kernel_rfl
theorem k20_ParseKnown:(fun (P:Program) (f:FuncId) (fn:Func) (s:ChangeSpec) (c:OpenClaim)=>((c.ifacesOut==fn.resultTypes.toList.any (P.ifacesRec ·)):Bool)) Tryz.prog 3 Tryz.f3 Rows.parseKnownSpec Rows.parseKnownRow=true:=by kernel_rfl
theorem k21_ParseKnown:(fun (P:Program) (f:FuncId) (fn:Func) (s:ChangeSpec) (c:OpenClaim)=>((c.loopsOut==fn.resultTypes.toList.any (P.loopsFrom ·)):Bool)) Tryz.prog 3 Tryz.f3 Rows.parseKnownSpec Rows.parseKnownRow=true:=by kernel_rfl
theorem k22_ParseKnown:(fun (P:Program) (f:FuncId) (fn:Func) (s:ChangeSpec) (c:OpenClaim)=>((c.plainKeys==P.plainKeys):Bool)) Tryz.prog 3 Tryz.f3 Rows.parseKnownSpec Rows.parseKnownRow=true:=by kernel_rfl
theorem k23_ParseKnown:(fun (P:Program) (f:FuncId) (fn:Func) (s:ChangeSpec) (c:OpenClaim)=>(c.shortTexts.isNone:Bool)) Tryz.prog 3 Tryz.f3 Rows.parseKnownSpec Rows.parseKnownRow=true:=by kernel_rfl
theorem k26_ParseKnown:(fun (P:Program) (f:FuncId) (fn:Func) (s:ChangeSpec) (c:OpenClaim)=>((c.lifted==P.liftsFinal):Bool)) Tryz.prog 3 Tryz.f3 Rows.parseKnownSpec Rows.parseKnownRow=true:=by kernel_rfl
theorem k27_ParseKnown:(fun (P:Program) (f:FuncId) (fn:Func) (s:ChangeSpec) (c:OpenClaim)=>((P.make==some c.make):Bool)) Tryz.prog 3 Tryz.f3 Rows.parseKnownSpec Rows.parseKnownRow=true:=by kernel_rfl
theorem k28_ParseKnown:(fun (P:Program) (f:FuncId) (fn:Func) (s:ChangeSpec) (c:OpenClaim)=>((c.kinds==(if c.domain.isEmpty then [] else fn.params.toList.map fun t=>match P.underlying t with|some (.int k)=>some k|_=>none)):Bool)) Tryz.prog 3 Tryz.f3 Rows.parseKnownSpec Rows.parseKnownRow=true:=by kernel_rfl
theorem k29_ParseKnown:(fun (P:Program) (f:FuncId) (fn:Func) (s:ChangeSpec) (c:OpenClaim)=>((c.pinned==c.pinnedBy):Bool)) Tryz.prog 3 Tryz.f3 Rows.parseKnownSpec Rows.parseKnownRow=true:=by kernel_rfl
theorem k30_ParseKnown:(fun (P:Program) (f:FuncId) (fn:Func) (s:ChangeSpec) (c:OpenClaim)=>((c.veiled==(fn.params.toList++s.plain.varTypes P++fn.resultTypes.toList).any (P.veiledRec ·)):Bool)) Tryz.prog 3 Tryz.f3 Rows.parseKnownSpec Rows.parseKnownRow=true:=by kernel_rfl
theorem k31_ParseKnown:(fun (P:Program) (f:FuncId) (fn:Func) (s:ChangeSpec) (c:OpenClaim)=>(c.veiledFits P fn.params.toList (fn.params.toList++s.plain.varTypes P++fn.resultTypes.toList):Bool)) Tryz.prog 3 Tryz.f3 Rows.parseKnownSpec Rows.parseKnownRow=true:=by kernel_rfl
theorem closed_ParseKnown:joinedFacts Tryz.pinned.checked.prog 3 Tryz.f3 (OpenSpec.ofChange Rows.parseKnownSpec).bare Rows.parseKnownRow=true :=
 (show joinedFacts Tryz.prog 3 Tryz.f3 Rows.parseKnownSpec Rows.parseKnownRow=true from (andT (andT (andT (andT (andT (andT (andT (andT (andT (andT (andT (andT (andT (andT (andT (andT (andT (andT (andT (andT (andT (andT (andT (andT (andT (andT (andT (andT (andT (andT (andT k0_ParseKnown k1) k2) k3_ParseKnown) k4_ParseKnown) k5_ParseKnown) k6) k7_ParseKnown) k8) k9_ParseKnown) k10_ParseKnown) k11_ParseKnown) k12_ParseKnown) k13_ParseKnown) k14_ParseKnown) k15_ParseKnown) k16_ParseKnown) k17_ParseKnown) k18_ParseKnown) k19_ParseKnown) k20_ParseKnown) k21_ParseKnown) k22_ParseKnown) k23_ParseKnown) k24) k25) k26_ParseKnown) k27_ParseKnown) k28_ParseKnown) k29_ParseKnown) k30_ParseKnown) k31_ParseKnown))
end Fx
end Go.Proofs.YthdioipfdbbmmaaGreatDoor
