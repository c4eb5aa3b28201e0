/- Contracts. -/
import Derived.Test.YthdioipfdbbmmaaGreatDoorProg
import Derived.WalkKit
import Derived.Handy
import Derived.LaidEql
import Derived.Stop.Asserts
import Derived.RowKitTokens
import Derived.Lib.Hide
set_option linter.all false
set_option maxRecDepth 1000000
set_option maxHeartbeats 16000000
namespace Go.Proofs.YthdioipfdbbmmaaGreatDoor
section
open Go.RowKit Go.Extern.Stop Go.Stop Go.Extern
theorem valueOf50 (t:Addr)(w:World):(ReflectliteValue.unpack (.iface 110 (.pointer (some t)))).run Tryz.prog w
 = .ok (.agg #[.pointer (some ⟨5, 110,none⟩),.pointer (some ⟨w.heap.size,0,none⟩),.int .u64 150]) (w.alloc (.cells #[.pointer (some t)] 110)):=by kernel_rfl
theorem valueOf49 (t:Addr)(w:World):(ReflectliteValue.unpack (.iface 108 (.pointer (some t)))).run Tryz.prog w
 = .ok (.agg #[.pointer (some ⟨5, 108,none⟩),.pointer (some ⟨w.heap.size,0,none⟩),.int .u64 150]) (w.alloc (.cells #[.pointer (some t)] 108)):=by kernel_rfl
theorem valueOf45 (t:Addr)(w:World):(ReflectliteValue.unpack (.iface 109 (.pointer (some t)))).run Tryz.prog w
 = .ok (.agg #[.pointer (some ⟨5, 109,none⟩),.pointer (some ⟨w.heap.size,0,none⟩),.int .u64 150]) (w.alloc (.cells #[.pointer (some t)] 109)):=by kernel_rfl
theorem valueOf23 (n:Int)(w:World):(ReflectliteValue.unpack (.iface 45 (.int .i64 n))).run Tryz.prog w
 = .ok (.agg #[.pointer (some ⟨5, 45,none⟩),.pointer (some ⟨w.heap.size,0,none⟩),.int .u64 130]) (w.alloc (.cells #[.int .i64 n] 45)):=by kernel_rfl
theorem type50 (a:Addr)(w:World):(ReflectliteValue.methodAny (ReflectliteValue.valueError "reflectlite.Value.Type" 0) (fun t _ _ _=>ReflectliteType.toType t) #[.agg #[.pointer (some ⟨5, 110,none⟩),.pointer (some a),.int .u64 150]]).run Tryz.prog w
 = .ok (.iface 229 (.agg #[.pointer (some ⟨5, 110,none⟩)])) w:=by kernel_rfl
theorem type49 (a:Addr)(w:World):(ReflectliteValue.methodAny (ReflectliteValue.valueError "reflectlite.Value.Type" 0) (fun t _ _ _=>ReflectliteType.toType t) #[.agg #[.pointer (some ⟨5, 108,none⟩),.pointer (some a),.int .u64 150]]).run Tryz.prog w
 = .ok (.iface 229 (.agg #[.pointer (some ⟨5, 108,none⟩)])) w:=by kernel_rfl
theorem kind50 (w:World):((ReflectliteType.abiMethod fun t=>(fun a:Nat=>Value.int IntKind.u8 (a:Int)) <$> Rtype.kind t) #[.pointer (some ⟨5, 110,none⟩)]).run Tryz.prog w=.ok (.int .u8 22) w:=by kernel_rfl
theorem kind49 (w:World):((ReflectliteType.abiMethod fun t=>(fun a:Nat=>Value.int IntKind.u8 (a:Int)) <$> Rtype.kind t) #[.pointer (some ⟨5, 108,none⟩)]).run Tryz.prog w=.ok (.int .u8 22) w:=by kernel_rfl
theorem kind45 (w:World):((ReflectliteType.abiMethod fun t=>(fun a:Nat=>Value.int IntKind.u8 (a:Int)) <$> Rtype.kind t) #[.pointer (some ⟨5, 109,none⟩)]).run Tryz.prog w=.ok (.int .u8 22) w:=by kernel_rfl
theorem kind23 (w:World):((ReflectliteType.abiMethod fun t=>(fun a:Nat=>Value.int IntKind.u8 (a:Int)) <$> Rtype.kind t) #[.pointer (some ⟨5, 45,none⟩)]).run Tryz.prog w=.ok (.int .u8 2) w:=by kernel_rfl
theorem rlm {P:Program}{W:World}{v:Value}{t:TypeId}{a:Addr}{fl:Nat}{z:Sem Value}{f:TypeId→Addr→Nat→Nat→Sem Value}
 (hp:(ReflectliteValue.parts v).run P W=.ok (some (t,a,fl)) W):(ReflectliteValue.method z f #[v]).run P W=(f t a fl (fl % 32)).run P W:=by
 show Sem.run P (ReflectliteValue.parts v >>= _) W=_
 rw [Sem.run_bind,hp]
 rfl
theorem rls {P:Program}{W W':World}{v x val:Value}{dst src:TypeId}{a b:Addr}{fl g:Nat}(hv:(ReflectliteValue.parts v).run P W=.ok (some (dst,a,fl)) W)(hx:(ReflectliteValue.parts x).run P W=.ok (some (src,b,g)) W)
 (hfl:(fl / ReflectliteValue.flagAddr % 2==0)=false) (hl:(loadVar src b).run P W=.ok val W) (hd:(Rtype.directlyAssignable dst src).run P W=.ok true W) (hs:(storeVar dst a val).run P W=.ok () W') :
 (ReflectliteValue.set #[v,x]).run P W=.ok (.tuple #[]) W':=by
 show Sem.run P (ReflectliteValue.parts v >>= _) W=_
 rw [Sem.run_bind,hv]
 show Sem.run P (ReflectliteValue.parts x >>= _) W=_
 rw [Sem.run_bind,hx]
 simp only [Result.andThen,hfl,Bool.false_eq_true,if_false,Sem.run_bind,Sem.run_pure,hl,hd,if_true,hs]
theorem parts50 (a:Addr)(w:World):(ReflectliteValue.parts (.agg #[.pointer (some ⟨5, 110,none⟩),.pointer (some a),.int .u64 150])).run Tryz.prog w=.ok (some (110,a,150)) w:=by kernel_rfl
theorem parts49 (a:Addr)(w:World):(ReflectliteValue.parts (.agg #[.pointer (some ⟨5, 108,none⟩),.pointer (some a),.int .u64 150])).run Tryz.prog w=.ok (some (108,a,150)) w:=by kernel_rfl
theorem isNil50 (a p:Addr)(W:World)(ha:W.cell? a=some (.pointer (some p))) :
 (ReflectliteValue.method (ReflectliteValue.valueError "reflectlite.Value.IsNil" 0) ReflectliteValue.isNil #[.agg #[.pointer (some ⟨5, 110,none⟩),.pointer (some a),.int .u64 150]]).run Tryz.prog W=.ok (.bool false) W:=by
 rw [rlm (parts50 a W)]
 simp [ReflectliteValue.isNil,loadVar,isAgg,underlying,Tryz.underlying110,ha,Result.andThen]
theorem isNil49 (a p:Addr)(W:World)(ha:W.cell? a=some (.pointer (some p))) :
 (ReflectliteValue.method (ReflectliteValue.valueError "reflectlite.Value.IsNil" 0) ReflectliteValue.isNil #[.agg #[.pointer (some ⟨5, 108,none⟩),.pointer (some a),.int .u64 150]]).run Tryz.prog W=.ok (.bool false) W:=by
 rw [rlm (parts49 a W)]
 simp [ReflectliteValue.isNil,loadVar,isAgg,underlying,Tryz.underlying108,ha,Result.andThen]
theorem elem50 (w:World):(ReflectliteType.method ReflectliteType.elem #[.agg #[.pointer (some ⟨5, 110,none⟩)]]).run Tryz.prog w=.ok (.iface 229 (.agg #[.pointer (some ⟨5, 109,none⟩)])) w:=by kernel_rfl
theorem elem49 (w:World):(ReflectliteType.method ReflectliteType.elem #[.agg #[.pointer (some ⟨5, 108,none⟩)]]).run Tryz.prog w=.ok (.iface 229 (.agg #[.pointer (some ⟨5, 45,none⟩)])) w:=by kernel_rfl
theorem implements45 (w:World):(ReflectliteType.relation "Implements" ReflectliteType.implements_ #[.agg #[.pointer (some ⟨5, 109,none⟩)],.iface 229 (.agg #[.pointer (some ⟨5, 25,none⟩)])]).run Tryz.prog w=.ok (.bool true) w:=by kernel_rfl
theorem implements23 (w:World):(ReflectliteType.relation "Implements" ReflectliteType.implements_ #[.agg #[.pointer (some ⟨5, 45,none⟩)],.iface 229 (.agg #[.pointer (some ⟨5, 25,none⟩)])]).run Tryz.prog w=.ok (.bool true) w:=by kernel_rfl
theorem typeOf45 (v:Value)(w:World):(ReflectliteType.typeOf #[.iface 109 v]).run Tryz.prog w=.ok (.iface 229 (.agg #[.pointer (some ⟨5, 109,none⟩)])) w:=by kernel_rfl
theorem typeOf23 (v:Value)(w:World):(ReflectliteType.typeOf #[.iface 45 v]).run Tryz.prog w=.ok (.iface 229 (.agg #[.pointer (some ⟨5, 45,none⟩)])) w:=by kernel_rfl
theorem assign45_45 (w:World):(ReflectliteType.relation "AssignableTo" ReflectliteType.assignableTo #[.agg #[.pointer (some ⟨5, 109,none⟩)],.iface 229 (.agg #[.pointer (some ⟨5, 109,none⟩)])]).run Tryz.prog w=.ok (.bool true) w:=by kernel_rfl
theorem assign45_23 (w:World):(ReflectliteType.relation "AssignableTo" ReflectliteType.assignableTo #[.agg #[.pointer (some ⟨5, 109,none⟩)],.iface 229 (.agg #[.pointer (some ⟨5, 45,none⟩)])]).run Tryz.prog w=.ok (.bool false) w:=by kernel_rfl
theorem assign23_23 (w:World):(ReflectliteType.relation "AssignableTo" ReflectliteType.assignableTo #[.agg #[.pointer (some ⟨5, 45,none⟩)],.iface 229 (.agg #[.pointer (some ⟨5, 45,none⟩)])]).run Tryz.prog w=.ok (.bool true) w:=by kernel_rfl
theorem elemOf50 (w:World):(Rtype.elem? 110).run Tryz.prog w=.ok (some 109) w:=by kernel_rfl
theorem elemOf49 (w:World):(Rtype.elem? 108).run Tryz.prog w=.ok (some 45) w:=by kernel_rfl
theorem mk45 (p:Addr)(w:World):(ReflectliteValue.mk 109 p ReflectliteValue.flagAddr).run Tryz.prog w=.ok (.agg #[.pointer (some ⟨5, 109,none⟩),.pointer (some p),.int .u64 406]) w:=by kernel_rfl
theorem mk23 (p:Addr)(w:World):(ReflectliteValue.mk 45 p ReflectliteValue.flagAddr).run Tryz.prog w=.ok (.agg #[.pointer (some ⟨5, 45,none⟩),.pointer (some p),.int .u64 386]) w:=by kernel_rfl
theorem elemV50 (a p:Addr)(W:World)(ha:W.cell? a=some (.pointer (some p))) :
 (ReflectliteValue.method (ReflectliteValue.valueError "reflectlite.Value.Elem" 0) ReflectliteValue.elem #[.agg #[.pointer (some ⟨5, 110, none⟩), .pointer (some a), .int .u64 150]]).run Tryz.prog W
  = .ok (.agg #[.pointer (some ⟨5, 109,none⟩),.pointer (some p),.int .u64 406]) W:=by
 rw [rlm (parts50 a W)]
 simp [ReflectliteValue.elem,loadVar,isAgg,underlying,Tryz.underlying110,ha,Result.andThen,elemOf50,mk45]
theorem elemV49 (a p:Addr)(W:World)(ha:W.cell? a=some (.pointer (some p))) :
 (ReflectliteValue.method (ReflectliteValue.valueError "reflectlite.Value.Elem" 0) ReflectliteValue.elem #[.agg #[.pointer (some ⟨5, 108, none⟩), .pointer (some a), .int .u64 150]]).run Tryz.prog W
  = .ok (.agg #[.pointer (some ⟨5, 45,none⟩),.pointer (some p),.int .u64 386]) W:=by
 rw [rlm (parts49 a W)]
 simp [ReflectliteValue.elem,loadVar,isAgg,underlying,Tryz.underlying108,ha,Result.andThen,elemOf49,mk23]
theorem parts45a (a:Addr)(w:World):(ReflectliteValue.parts (.agg #[.pointer (some ⟨5, 109,none⟩),.pointer (some a),.int .u64 406])).run Tryz.prog w=.ok (some (109,a,406)) w:=by kernel_rfl
theorem parts45 (a:Addr)(w:World):(ReflectliteValue.parts (.agg #[.pointer (some ⟨5, 109,none⟩),.pointer (some a),.int .u64 150])).run Tryz.prog w=.ok (some (109,a,150)) w:=by kernel_rfl
theorem parts23a (a:Addr)(w:World):(ReflectliteValue.parts (.agg #[.pointer (some ⟨5, 45,none⟩),.pointer (some a),.int .u64 386])).run Tryz.prog w=.ok (some (45,a,386)) w:=by kernel_rfl
theorem parts23 (a:Addr)(w:World):(ReflectliteValue.parts (.agg #[.pointer (some ⟨5, 45,none⟩),.pointer (some a),.int .u64 130])).run Tryz.prog w=.ok (some (45,a,130)) w:=by kernel_rfl
theorem direct45 (w:World):(Rtype.directlyAssignable 109 109).run Tryz.prog w=.ok true w:=by kernel_rfl
theorem direct23 (w:World):(Rtype.directlyAssignable 45 45).run Tryz.prog w=.ok true w:=by kernel_rfl
theorem set45 (ta b e:Addr)(old:Value)(W:World)(hb:W.cell? b=some (.pointer (some e)))(ht:W.cell? ta=some old)(hf:W.frozen? ta=false) :
 (ReflectliteValue.set #[.agg #[.pointer (some ⟨5, 109, none⟩), .pointer (some ta), .int .u64 406], .agg #[.pointer (some ⟨5, 109, none⟩), .pointer (some b), .int .u64 150]]).run Tryz.prog W
  = .ok (.tuple #[]) (W.setCell ta (.pointer (some e))):=by
 refine rls (parts45a ta W) (parts45 b W) (by decide) (val:=.pointer (some e)) ?_ (direct45 W) ?_
 · simp [loadVar,isAgg,underlying,Tryz.underlying109,hb]
 · simp [storeVar,Value.cells,storeCells,Addr.add]
   rw [run_store Tryz.prog W ta _ _ (by rfl)]
   simp [ht,hf]
theorem set23 (ta b:Addr)(n:Int)(old:Value)(W:World)(hb:W.cell? b=some (.int .i64 n))(ht:W.cell? ta=some old)(hf:W.frozen? ta=false) :
 (ReflectliteValue.set #[.agg #[.pointer (some ⟨5, 45, none⟩), .pointer (some ta), .int .u64 386], .agg #[.pointer (some ⟨5, 45, none⟩), .pointer (some b), .int .u64 130]]).run Tryz.prog W
  = .ok (.tuple #[]) (W.setCell ta (.int .i64 n)):=by
 refine rls (parts23a ta W) (parts23 b W) (by decide) (val:=.int .i64 n) ?_ (direct23 W) ?_
 · simp [loadVar,isAgg,underlying,Tryz.underlying45,hb]
 · simp [storeVar,Value.cells,storeCells,Addr.add]
   rw [run_store Tryz.prog W ta _ _ (by rfl)]
   simp [ht,hf]
end
section
open Go.RowKit Go.Extern.Stop Go.Stop Go.Extern
inductive Path (W:World)(b:Bool)(u:Value):Value→Nat→Prop
 | here:Path W b u u 0
 | err (B:Nat) (k:Int) (n:Nat):b=true→W.cell? ⟨B,3,none⟩=some (.int .i64 k)→Path W b u (.iface 45 (.int .i64 k)) n→Path W b u (.iface 109 (.pointer (some ⟨B,0,none⟩))) (n+1)
open Classical in
noncomputable def far (W:World)(b:Bool)(u v:Value):Nat:=if h:∃n,Path W b u v n then h.choose else 0
theorem path_same {W:World}{b:Bool}{u v:Value}(hb:b=true→∀x,u≠.iface 109 x){n m:Nat}(h:Path W b u v n)(h':Path W b u v m):n=m:=by
 induction h generalizing m with
 | here=>cases h' with
  | here=>rfl
  | err _ _ _ e=>exact absurd rfl (hb e _)
 | err B k n e hc _ ih=>cases h' with
  | here=>exact absurd rfl (hb e _)
  | err _ k' n' e' hc' hp' =>
   rw [hc] at hc'
   obtain rfl:k=k':=by simpa using hc'
   rw [ih hp']
theorem far_eq {W:World}{b:Bool}{u v:Value}(hb:b=true→∀x,u≠.iface 109 x){n:Nat}(h:Path W b u v n):far W b u v=n:=by
 have e:∃n,Path W b u v n:=⟨n,h⟩
 unfold far
 rw [dif_pos e]
 exact path_same hb e.choose_spec h
theorem path_world {W W':World}{b:Bool}{u v:Value}{n:Nat}(hc:∀B o,(W.cell? ⟨B,o,none⟩).isSome→W'.cell? ⟨B,o,none⟩=W.cell? ⟨B,o,none⟩)(h:Path W b u v n):Path W' b u v n:=by
 induction h with
 | here=>exact .here
 | err B k n e h1 _ ih=>exact .err B k n e (by rw [hc _ _ (by rw [h1];rfl),h1]) ih
theorem cell_lt {W:World}{a:Addr}{v:Value}(h:W.cell? a=some v):a.block<W.heap.size:=by
 rcases Nat.lt_or_ge a.block W.heap.size with h1|h1
 · exact h1
 · simp [World.cell?,Array.getElem?_eq_none h1] at h
theorem no_as45 (v:Value)(w:World):(Instr.typeAssert (.iface 109 v) 25 234 true).run Tryz.prog w=.ok (.tuple #[.nilIface,.bool false]) w:=run_typeAssert_lacksB (P:=Tryz.prog) (t := 109) (z:=.nilIface) Tryz.underlying234 (by kernel_rfl) (by kernel_rfl) v 25 w
theorem un45 (v:Value)(w:World):(Instr.typeAssert (.iface 109 v) 25 237 true).run Tryz.prog w=.ok (.tuple #[.iface 109 v,.bool true]) w:=run_typeAssert_hasB (P:=Tryz.prog) (t := 109) Tryz.underlying237 (by kernel_rfl) v 25 w
theorem unwrap45 (B:Nat)(k:Int)(w:World)(hc:w.cell? ⟨B,3,none⟩=some (.int .i64 k)) :
 Calls Tryz.prog 313 #[.pointer (some ⟨B,0,none⟩)] w fun e w'=>e=.returned (.iface 45 (.int .i64 k))∧w=w':=by
 go_enter Tryz.func313,Tryz.ntmps313
 go_wp2
 go_ret
 exact ⟨rfl,rfl⟩
theorem as45 (e t:Addr)(v old:Value)(n:Nat)(a:Addr)(W:World)(hp:Path W false (.iface 109 (.pointer (some e))) v n)
 (ha:W.cell? a=some (.pointer (some t))) (ht0:W.cell? t=some old) (hf0:W.frozen? t=false) :
 Calls Tryz.prog 109 #[v,.iface 110 (.pointer (some t)),.agg #[.pointer (some ⟨5, 110,none⟩),.pointer (some a),.int .u64 150],.iface 229 (.agg #[.pointer (some ⟨5, 109,none⟩)])] W
  fun ev w'=>ev=.returned (.bool true)∧w'=((W.alloc (.cells #[.pointer (some ⟨5, 110,none⟩),.pointer (some a),.int .u64 150] 172)).alloc (.cells #[.pointer (some e)] 109)).setCell t (.pointer (some e)):=by
 have h23:=@run_callFunc_extern Tryz.prog 174 _ ReflectliteType.typeOf Tryz.func174 (by kernel_rfl) (by kernel_rfl) (by kernel_rfl) (by kernel_rfl)
 have h86:=@run_callFunc_extern Tryz.prog 318 _ (ReflectliteType.relation "AssignableTo" ReflectliteType.assignableTo) Tryz.func318 (by kernel_rfl) (by kernel_rfl) (by kernel_rfl) (by kernel_rfl)
 have h40:=@run_callFunc_extern Tryz.prog 175 _ (ReflectliteValue.method (ReflectliteValue.valueError "reflectlite.Value.Elem" 0) ReflectliteValue.elem) Tryz.func175 (by kernel_rfl) (by kernel_rfl) (by kernel_rfl) (by kernel_rfl)
 have h41:=@run_callFunc_extern Tryz.prog 176 _ ReflectliteValue.set Tryz.func176 (by kernel_rfl) (by kernel_rfl) (by kernel_rfl) (by kernel_rfl)
 have h29:=@run_callFunc_extern Tryz.prog 106 _ (fun args=>ReflectliteValue.unpack (args.getD 0 (.tuple #[]))) Tryz.func106 (by kernel_rfl) (by kernel_rfl) (by kernel_rfl) (by kernel_rfl)
 have t45:=typeOf45
 have a45:=assign45_45
 have v45:=valueOf45
 have hal:=cell_lt ha
 have htl:=cell_lt ht0
 have el:=elemV50 a t (W.alloc (.cells #[.pointer (some ⟨5, 110,none⟩),.pointer (some a),.int .u64 150] 172)) (by rw [World.cell?_alloc_lt _ _ a hal];exact ha)
 have st:=set45 t ⟨W.heap.size+1,0,none⟩ e old ((W.alloc (.cells #[.pointer (some ⟨5, 110,none⟩),.pointer (some a),.int .u64 150] 172)).alloc (.cells #[.pointer (some e)] 109))
  (by rw [World.cell?_alloc_at _ _ _ _ (by simp)];rfl)
  (by rw [World.cell?_alloc_lt _ _ t (by simp;omega),World.cell?_alloc_lt _ _ t htl];exact ht0)
  (by rw [World.frozen?_alloc_old _ _ t (by simp;omega),World.frozen?_alloc_old _ _ t (Nat.ne_of_lt htl)];exact hf0)
 go_enter Tryz.func109,Tryz.ntmps109
 go_wp2
 go_loop [0] (fun v=>∃n,Path W false (.iface 109 (.pointer (some e))) v n) (fun v=>far W false (.iface 109 (.pointer (some e))) v)
 case atStart=>exact ⟨n,hp⟩
 case round =>
  obtain ⟨m,hm⟩:=hrel
  cases hm with
  | here =>
   go_wp2
   go_ret
   exact ⟨rfl,rfl⟩
  | err B k n e=>cases e
end
end Go.Proofs.YthdioipfdbbmmaaGreatDoor
