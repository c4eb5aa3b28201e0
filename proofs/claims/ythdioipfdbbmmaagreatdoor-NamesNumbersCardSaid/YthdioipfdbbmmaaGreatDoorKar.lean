/- Contracts. -/
import Derived.Test.YthdioipfdbbmmaaGreatDoorProg
import Derived.WalkKit
import Derived.Handy
import Derived.LaidEql
import Derived.Stop.Asserts
import Derived.RowKitTokens
set_option linter.all false
set_option maxRecDepth 1000000
set_option maxHeartbeats 16000000
namespace Go.Proofs.YthdioipfdbbmmaaGreatDoor
section
open Go.RowKit Go.Extern.Stop Go.Stop Go.Extern
theorem valueOf49 (t:Addr)(w:World):(ReflectliteValue.unpack (.iface 108 (.pointer (some t)))).run Tryz.prog w
 = .ok (.agg #[.pointer (some ⟨5, 108,none⟩),.pointer (some ⟨w.heap.size,0,none⟩),.int .u64 150]) (w.alloc (.cells #[.pointer (some t)] 108)):=by kernel_rfl
theorem valueOf23 (n:Int)(w:World):(ReflectliteValue.unpack (.iface 45 (.int .i64 n))).run Tryz.prog w
 = .ok (.agg #[.pointer (some ⟨5, 45,none⟩),.pointer (some ⟨w.heap.size,0,none⟩),.int .u64 130]) (w.alloc (.cells #[.int .i64 n] 45)):=by kernel_rfl
theorem type49 (a:Addr)(w:World):(ReflectliteValue.methodAny (ReflectliteValue.valueError "reflectlite.Value.Type" 0) (fun t _ _ _=>ReflectliteType.toType t) #[.agg #[.pointer (some ⟨5, 108,none⟩),.pointer (some a),.int .u64 150]]).run Tryz.prog w
 = .ok (.iface 229 (.agg #[.pointer (some ⟨5, 108,none⟩)])) w:=by kernel_rfl
theorem kind49 (w:World):((ReflectliteType.abiMethod fun t=>(fun a:Nat=>Value.int IntKind.u8 (a:Int)) <$> Rtype.kind t) #[.pointer (some ⟨5, 108,none⟩)]).run Tryz.prog w=.ok (.int .u8 22) w:=by kernel_rfl
theorem kind23 (w:World):((ReflectliteType.abiMethod fun t=>(fun a:Nat=>Value.int IntKind.u8 (a:Int)) <$> Rtype.kind t) #[.pointer (some ⟨5, 45,none⟩)]).run Tryz.prog w=.ok (.int .u8 2) w:=by kernel_rfl
theorem rlm {P:Program}{W:World}{v:Value}{t:TypeId}{a:Addr}{fl:Nat}{z:Sem Value}{f:TypeId→Addr→Nat→Nat→Sem Value}
 (hp:(ReflectliteValue.parts v).run P W=.ok (some (t,a,fl)) W):(ReflectliteValue.method z f #[v]).run P W=(f t a fl (fl % 32)).run P W:=by
 show Sem.run P (ReflectliteValue.parts v >>= _) W=_
 rw [Sem.run_bind,hp]
 rfl
theorem rls {P:Program}{W W':World}{v x val:Value}{dst src:TypeId}{a b:Addr}{fl g:Nat}(hv:(ReflectliteValue.parts v).run P W=.ok (some (dst,a,fl)) W)(hx:(ReflectliteValue.parts x).run P W=.ok (some (src,b,g)) W)
 (hfl:(fl / ReflectliteValue.flagAddr % 2==0)=false) (hl:(loadVar src b).run P W=.ok val W) (hd:(Rtype.directlyAssignable dst src).run P W=.ok true W) (hs:(storeVar dst a val).run P W=.ok () W') :
 (ReflectliteValue.set #[v,x]).run P W=.ok (.tuple #[]) W':=by
 show Sem.run P (ReflectliteValue.parts v >>= _) W=_
 rw [Sem.run_bind,hv]
 show Sem.run P (ReflectliteValue.parts x >>= _) W=_
 rw [Sem.run_bind,hx]
 simp only [Result.andThen,hfl,Bool.false_eq_true,if_false,Sem.run_bind,Sem.run_pure,hl,hd,if_true,hs]
theorem parts49 (a:Addr)(w:World):(ReflectliteValue.parts (.agg #[.pointer (some ⟨5, 108,none⟩),.pointer (some a),.int .u64 150])).run Tryz.prog w=.ok (some (108,a,150)) w:=by kernel_rfl
theorem isNil49 (a p:Addr)(W:World)(ha:W.cell? a=some (.pointer (some p))) :
 (ReflectliteValue.method (ReflectliteValue.valueError "reflectlite.Value.IsNil" 0) ReflectliteValue.isNil #[.agg #[.pointer (some ⟨5, 108,none⟩),.pointer (some a),.int .u64 150]]).run Tryz.prog W=.ok (.bool false) W:=by
 rw [rlm (parts49 a W)]
 simp [ReflectliteValue.isNil,loadVar,isAgg,underlying,Tryz.underlying108,ha,Result.andThen]
theorem elem49 (w:World):(ReflectliteType.method ReflectliteType.elem #[.agg #[.pointer (some ⟨5, 108,none⟩)]]).run Tryz.prog w=.ok (.iface 229 (.agg #[.pointer (some ⟨5, 45,none⟩)])) w:=by kernel_rfl
theorem implements23 (w:World):(ReflectliteType.relation "Implements" ReflectliteType.implements_ #[.agg #[.pointer (some ⟨5, 45,none⟩)],.iface 229 (.agg #[.pointer (some ⟨5, 25,none⟩)])]).run Tryz.prog w=.ok (.bool true) w:=by kernel_rfl
theorem typeOf45 (v:Value)(w:World):(ReflectliteType.typeOf #[.iface 109 v]).run Tryz.prog w=.ok (.iface 229 (.agg #[.pointer (some ⟨5, 109,none⟩)])) w:=by kernel_rfl
theorem typeOf23 (v:Value)(w:World):(ReflectliteType.typeOf #[.iface 45 v]).run Tryz.prog w=.ok (.iface 229 (.agg #[.pointer (some ⟨5, 45,none⟩)])) w:=by kernel_rfl
theorem assign45_23 (w:World):(ReflectliteType.relation "AssignableTo" ReflectliteType.assignableTo #[.agg #[.pointer (some ⟨5, 109,none⟩)],.iface 229 (.agg #[.pointer (some ⟨5, 45,none⟩)])]).run Tryz.prog w=.ok (.bool false) w:=by kernel_rfl
theorem assign23_23 (w:World):(ReflectliteType.relation "AssignableTo" ReflectliteType.assignableTo #[.agg #[.pointer (some ⟨5, 45,none⟩)],.iface 229 (.agg #[.pointer (some ⟨5, 45,none⟩)])]).run Tryz.prog w=.ok (.bool true) w:=by kernel_rfl
theorem elemOf49 (w:World):(Rtype.elem? 108).run Tryz.prog w=.ok (some 45) w:=by kernel_rfl
theorem mk23 (p:Addr)(w:World):(ReflectliteValue.mk 45 p ReflectliteValue.flagAddr).run Tryz.prog w=.ok (.agg #[.pointer (some ⟨5, 45,none⟩),.pointer (some p),.int .u64 386]) w:=by kernel_rfl
theorem elemV49 (a p:Addr)(W:World)(ha:W.cell? a=some (.pointer (some p))) :
 (ReflectliteValue.method (ReflectliteValue.valueError "reflectlite.Value.Elem" 0) ReflectliteValue.elem #[.agg #[.pointer (some ⟨5, 108, none⟩), .pointer (some a), .int .u64 150]]).run Tryz.prog W
  = .ok (.agg #[.pointer (some ⟨5, 45,none⟩),.pointer (some p),.int .u64 386]) W:=by
 rw [rlm (parts49 a W)]
 simp [ReflectliteValue.elem,loadVar,isAgg,underlying,Tryz.underlying108,ha,Result.andThen,elemOf49,mk23]
theorem parts23a (a:Addr)(w:World):(ReflectliteValue.parts (.agg #[.pointer (some ⟨5, 45,none⟩),.pointer (some a),.int .u64 386])).run Tryz.prog w=.ok (some (45,a,386)) w:=by kernel_rfl
theorem parts23 (a:Addr)(w:World):(ReflectliteValue.parts (.agg #[.pointer (some ⟨5, 45,none⟩),.pointer (some a),.int .u64 130])).run Tryz.prog w=.ok (some (45,a,130)) w:=by kernel_rfl
theorem direct23 (w:World):(Rtype.directlyAssignable 45 45).run Tryz.prog w=.ok true w:=by kernel_rfl
theorem set23 (ta b:Addr)(n:Int)(old:Value)(W:World)(hb:W.cell? b=some (.int .i64 n))(ht:W.cell? ta=some old)(hf:W.frozen? ta=false) :
 (ReflectliteValue.set #[.agg #[.pointer (some ⟨5, 45, none⟩), .pointer (some ta), .int .u64 386], .agg #[.pointer (some ⟨5, 45, none⟩), .pointer (some b), .int .u64 130]]).run Tryz.prog W
  = .ok (.tuple #[]) (W.setCell ta (.int .i64 n)):=by
 refine rls (parts23a ta W) (parts23 b W) (by decide) (val:=.int .i64 n) ?_ (direct23 W) ?_
 · simp [loadVar,isAgg,underlying,Tryz.underlying45,hb]
 · simp [storeVar,Value.cells,storeCells,Addr.add]
   rw [run_store Tryz.prog W ta _ _ (by rfl)]
   simp [ht,hf]
end
end Go.Proofs.YthdioipfdbbmmaaGreatDoor
