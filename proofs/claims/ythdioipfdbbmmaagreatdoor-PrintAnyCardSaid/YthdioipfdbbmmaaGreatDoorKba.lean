/- Contracts. -/
import Derived.Test.YthdioipfdbbmmaaGreatDoorRows
import Derived.JoinedOf
import Derived.JoinedCond
import Derived.KernelRfl
set_option linter.all false
set_option maxRecDepth 1000000
set_option maxHeartbeats 16000000
namespace Go.Proofs.YthdioipfdbbmmaaGreatDoor
set_option linter.all false
set_option maxRecDepth 1000000
namespace Fx
open Go
theorem aT{a b:Bool} (x:a=true) (y:b=true):(a&&b)=true:=by rw [x,y];rfl
noncomputable def L (g:Program→FuncId→Func→ChangeSpec→OpenClaim→Bool):Bool:=g Tryz.prog 4 Tryz.f4 Rows.printAnySpec Rows.printAnyRow
theorem k0:L (fun P f fn s c=>c.wf (OpenSpec.ofChange s))=true:=by kernel_rfl
theorem k1:L (fun P f fn s c=>laidOutB P)=true:=by kernel_rfl
theorem k2:L (fun P f fn s c=>mapsRowed P)=true:=by kernel_rfl
theorem k3:L (fun P f fn s c=>fn.params.all (P.readableRec ·))=true:=by kernel_rfl
theorem k4:L (fun P f fn s c=>namedTie P c.named s.vars)=true:=by kernel_rfl
theorem k5:L (fun P f fn s c=>c.stops==[])=true:=by kernel_rfl
theorem k6:L (fun P f fn s c=>P.stops==[])=true:=by kernel_rfl
theorem k7:L (fun P f fn s c=>c.knobs==[])=true:=by kernel_rfl
theorem k8:L (fun P f fn s c=>P.stopKnobs==[])=true:=by kernel_rfl
theorem k9:L (fun P f fn s c=>c.inPlace==P.inPlace f)=true:=by kernel_rfl
theorem k10:L (fun P f fn s c=>c.unfollowed==P.unfollowed f)=true:=by kernel_rfl
theorem k11:L (fun P f fn s c=>c.recurses==P.recurses f)=true:=by kernel_rfl
theorem k12:L (fun P f fn s c=>c.named==P.varsNamed f)=true:=by kernel_rfl
theorem k13:L (fun P f fn s c=>c.maps==(fn.params.toList++s.plain.varTypes P).any (P.mapsRec ·))=true:=by kernel_rfl
theorem k14:L (fun P f fn s c=>c.ifaces==(fn.params.toList++s.plain.varTypes P).any (P.ifacesRec ·))=true:=by kernel_rfl
theorem k15:L (fun P f fn s c=>c.mapsOut==P.mapsAmong fn.resultTypes.toList)=true:=by kernel_rfl
theorem k16:L (fun P f fn s c=>c.loops==(fn.params.toList++s.plain.varTypes P).any (P.loopsFrom ·))=true:=by kernel_rfl
theorem k17:L (fun P f fn s c=>c.wideKeys==(fn.params.toList++s.plain.varTypes P++fn.resultTypes.toList).any (P.wideKeysFrom ·))=true:=by kernel_rfl
theorem k18:L (fun P f fn s c=>s.vars.all (P.varReadable ·))=true:=by kernel_rfl
theorem k19:L (fun P f fn s c=>fn.resultTypes.all (fun t=>P.readableRec t&&decide (t<P.types.size)))=true:=by kernel_rfl
theorem k20:L (fun P f fn s c=>c.ifacesOut==fn.resultTypes.toList.any (P.ifacesRec ·))=true:=by kernel_rfl
theorem k21:L (fun P f fn s c=>c.loopsOut==fn.resultTypes.toList.any (P.loopsFrom ·))=true:=by kernel_rfl
theorem k22:L (fun P f fn s c=>c.plainKeys==P.plainKeys)=true:=by kernel_rfl
theorem k23:L (fun P f fn s c=>c.shortTexts.isNone)=true:=by kernel_rfl
theorem k24:L (fun P f fn s c=>P.stopsHeard)=true:=by kernel_rfl
theorem k25:L (fun P f fn s c=>P.mayEnter)=true:=by kernel_rfl
theorem k26:L (fun P f fn s c=>c.lifted==P.liftsFinal)=true:=by kernel_rfl
theorem k27:L (fun P f fn s c=>P.make==some c.make)=true:=by kernel_rfl
theorem k28:L (fun P f fn s c=>c.kinds==(if c.domain.isEmpty then [] else fn.params.toList.map fun t=>match P.underlying t with | some (.int k)=>some k | _=>none))=true:=by kernel_rfl
theorem k29:L (fun P f fn s c=>c.pinned==c.pinnedBy)=true:=by kernel_rfl
theorem k30:L (fun P f fn s c=>c.veiled==(fn.params.toList++s.plain.varTypes P++fn.resultTypes.toList).any (P.veiledRec ·))=true:=by kernel_rfl
theorem k31:L (fun P f fn s c=>c.veiledFits P fn.params.toList (fn.params.toList++s.plain.varTypes P++fn.resultTypes.toList))=true:=by kernel_rfl
theorem cl:joinedFacts Tryz.pinned.checked.prog 4 Tryz.f4 (OpenSpec.ofChange Rows.printAnySpec).bare Rows.printAnyRow=true:=(show joinedFacts Tryz.prog 4 Tryz.f4 Rows.printAnySpec Rows.printAnyRow=true from (aT (aT (aT (aT (aT (aT (aT (aT (aT (aT (aT (aT (aT (aT (aT (aT (aT (aT (aT (aT (aT (aT (aT (aT (aT (aT (aT (aT (aT (aT (aT k0 k1) k2) k3) k4) k5) k6) k7) k8) k9) k10) k11) k12) k13) k14) k15) k16) k17) k18) k19) k20) k21) k22) k23) k24) k25) k26) k27) k28) k29) k30) k31))
end Fx
end Go.Proofs.YthdioipfdbbmmaaGreatDoor
