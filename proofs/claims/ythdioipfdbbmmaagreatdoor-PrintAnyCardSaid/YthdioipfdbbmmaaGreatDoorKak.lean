/- Contracts. -/
import Derived.Test.YthdioipfdbbmmaaGreatDoorKab
import Derived.Test.YthdioipfdbbmmaaGreatDoorProg
import Derived.WalkKit
import Derived.Handy
import Derived.LaidEql
import Derived.Stop.Asserts
import Derived.RowKitTokens
import Derived.Lib.Hide
import Derived.Shelf.Bytes.SlCountOne
import Derived.Below
set_option linter.all false
set_option maxRecDepth 1000000
set_option maxHeartbeats 16000000
namespace Go.Proofs.YthdioipfdbbmmaaGreatDoor
section
open Go.RowKit Go.Extern.Stop Go.Stop Go.Extern
theorem valueOf50 (t:Addr)(w:World):(ReflectliteValue.unpack (.iface 110 (.pointer (some t)))).run Tryz.prog w
 = .ok (.agg #[.pointer (some ⟨5, 110,none⟩),.pointer (some ⟨w.heap.size,0,none⟩),.int .u64 150]) (w.alloc (.cells #[.pointer (some t)] 110)):=by kernel_rfl
theorem valueOf49 (t:Addr)(w:World):(ReflectliteValue.unpack (.iface 108 (.pointer (some t)))).run Tryz.prog w
 = .ok (.agg #[.pointer (some ⟨5, 108,none⟩),.pointer (some ⟨w.heap.size,0,none⟩),.int .u64 150]) (w.alloc (.cells #[.pointer (some t)] 108)):=by kernel_rfl
theorem valueOf23 (n:Int)(w:World):(ReflectliteValue.unpack (.iface 45 (.int .i64 n))).run Tryz.prog w
 = .ok (.agg #[.pointer (some ⟨5, 45,none⟩),.pointer (some ⟨w.heap.size,0,none⟩),.int .u64 130]) (w.alloc (.cells #[.int .i64 n] 45)):=by kernel_rfl
theorem type50 (a:Addr)(w:World):(ReflectliteValue.methodAny (ReflectliteValue.valueError "reflectlite.Value.Type" 0) (fun t _ _ _=>ReflectliteType.toType t) #[.agg #[.pointer (some ⟨5, 110,none⟩),.pointer (some a),.int .u64 150]]).run Tryz.prog w
 = .ok (.iface 229 (.agg #[.pointer (some ⟨5, 110,none⟩)])) w:=by kernel_rfl
theorem type49 (a:Addr)(w:World):(ReflectliteValue.methodAny (ReflectliteValue.valueError "reflectlite.Value.Type" 0) (fun t _ _ _=>ReflectliteType.toType t) #[.agg #[.pointer (some ⟨5, 108,none⟩),.pointer (some a),.int .u64 150]]).run Tryz.prog w
 = .ok (.iface 229 (.agg #[.pointer (some ⟨5, 108,none⟩)])) w:=by kernel_rfl
theorem kind50 (w:World):((ReflectliteType.abiMethod fun t=>(fun a:Nat=>Value.int IntKind.u8 (a:Int)) <$> Rtype.kind t) #[.pointer (some ⟨5, 110,none⟩)]).run Tryz.prog w=.ok (.int .u8 22) w:=by kernel_rfl
theorem kind49 (w:World):((ReflectliteType.abiMethod fun t=>(fun a:Nat=>Value.int IntKind.u8 (a:Int)) <$> Rtype.kind t) #[.pointer (some ⟨5, 108,none⟩)]).run Tryz.prog w=.ok (.int .u8 22) w:=by kernel_rfl
theorem kind45 (w:World):((ReflectliteType.abiMethod fun t=>(fun a:Nat=>Value.int IntKind.u8 (a:Int)) <$> Rtype.kind t) #[.pointer (some ⟨5, 109,none⟩)]).run Tryz.prog w=.ok (.int .u8 22) w:=by kernel_rfl
theorem kind23 (w:World):((ReflectliteType.abiMethod fun t=>(fun a:Nat=>Value.int IntKind.u8 (a:Int)) <$> Rtype.kind t) #[.pointer (some ⟨5, 45,none⟩)]).run Tryz.prog w=.ok (.int .u8 2) w:=by kernel_rfl
theorem rlm {P:Program}{W:World}{v:Value}{t:TypeId}{a:Addr}{fl:Nat}{z:Sem Value}{f:TypeId→Addr→Nat→Nat→Sem Value}
 (hp:(ReflectliteValue.parts v).run P W=.ok (some (t,a,fl)) W):(ReflectliteValue.method z f #[v]).run P W=(f t a fl (fl % 32)).run P W:=by
 show Sem.run P (ReflectliteValue.parts v >>= _) W=_
 rw [Sem.run_bind,hp]
 rfl
theorem rls {P:Program}{W W':World}{v x val:Value}{dst src:TypeId}{a b:Addr}{fl g:Nat}(hv:(ReflectliteValue.parts v).run P W=.ok (some (dst,a,fl)) W)(hx:(ReflectliteValue.parts x).run P W=.ok (some (src,b,g)) W)
 (hfl:(fl / ReflectliteValue.flagAddr % 2==0)=false) (hl:(loadVar src b).run P W=.ok val W) (hd:(Rtype.directlyAssignable dst src).run P W=.ok true W) (hs:(storeVar dst a val).run P W=.ok () W') :
 (ReflectliteValue.set #[v,x]).run P W=.ok (.tuple #[]) W':=by
 show Sem.run P (ReflectliteValue.parts v >>= _) W=_
 rw [Sem.run_bind,hv]
 show Sem.run P (ReflectliteValue.parts x >>= _) W=_
 rw [Sem.run_bind,hx]
 simp only [Result.andThen,hfl,Bool.false_eq_true,if_false,Sem.run_bind,Sem.run_pure,hl,hd,if_true,hs]
theorem parts50 (a:Addr)(w:World):(ReflectliteValue.parts (.agg #[.pointer (some ⟨5, 110,none⟩),.pointer (some a),.int .u64 150])).run Tryz.prog w=.ok (some (110,a,150)) w:=by kernel_rfl
theorem parts49 (a:Addr)(w:World):(ReflectliteValue.parts (.agg #[.pointer (some ⟨5, 108,none⟩),.pointer (some a),.int .u64 150])).run Tryz.prog w=.ok (some (108,a,150)) w:=by kernel_rfl
theorem isNil50 (a p:Addr)(W:World)(ha:W.cell? a=some (.pointer (some p))) :
 (ReflectliteValue.method (ReflectliteValue.valueError "reflectlite.Value.IsNil" 0) ReflectliteValue.isNil #[.agg #[.pointer (some ⟨5, 110,none⟩),.pointer (some a),.int .u64 150]]).run Tryz.prog W=.ok (.bool false) W:=by
 rw [rlm (parts50 a W)]
 simp [ReflectliteValue.isNil,loadVar,isAgg,underlying,Tryz.underlying110,ha,Result.andThen]
theorem isNil49 (a p:Addr)(W:World)(ha:W.cell? a=some (.pointer (some p))) :
 (ReflectliteValue.method (ReflectliteValue.valueError "reflectlite.Value.IsNil" 0) ReflectliteValue.isNil #[.agg #[.pointer (some ⟨5, 108,none⟩),.pointer (some a),.int .u64 150]]).run Tryz.prog W=.ok (.bool false) W:=by
 rw [rlm (parts49 a W)]
 simp [ReflectliteValue.isNil,loadVar,isAgg,underlying,Tryz.underlying108,ha,Result.andThen]
theorem elem50 (w:World):(ReflectliteType.method ReflectliteType.elem #[.agg #[.pointer (some ⟨5, 110,none⟩)]]).run Tryz.prog w=.ok (.iface 229 (.agg #[.pointer (some ⟨5, 109,none⟩)])) w:=by kernel_rfl
theorem elem49 (w:World):(ReflectliteType.method ReflectliteType.elem #[.agg #[.pointer (some ⟨5, 108,none⟩)]]).run Tryz.prog w=.ok (.iface 229 (.agg #[.pointer (some ⟨5, 45,none⟩)])) w:=by kernel_rfl
theorem implements45 (w:World):(ReflectliteType.relation "Implements" ReflectliteType.implements_ #[.agg #[.pointer (some ⟨5, 109,none⟩)],.iface 229 (.agg #[.pointer (some ⟨5, 25,none⟩)])]).run Tryz.prog w=.ok (.bool true) w:=by kernel_rfl
theorem implements23 (w:World):(ReflectliteType.relation "Implements" ReflectliteType.implements_ #[.agg #[.pointer (some ⟨5, 45,none⟩)],.iface 229 (.agg #[.pointer (some ⟨5, 25,none⟩)])]).run Tryz.prog w=.ok (.bool true) w:=by kernel_rfl
theorem typeOf45 (v:Value)(w:World):(ReflectliteType.typeOf #[.iface 109 v]).run Tryz.prog w=.ok (.iface 229 (.agg #[.pointer (some ⟨5, 109,none⟩)])) w:=by kernel_rfl
theorem typeOf23 (v:Value)(w:World):(ReflectliteType.typeOf #[.iface 45 v]).run Tryz.prog w=.ok (.iface 229 (.agg #[.pointer (some ⟨5, 45,none⟩)])) w:=by kernel_rfl
theorem assign23_45 (w:World):(ReflectliteType.relation "AssignableTo" ReflectliteType.assignableTo #[.agg #[.pointer (some ⟨5, 45,none⟩)],.iface 229 (.agg #[.pointer (some ⟨5, 109,none⟩)])]).run Tryz.prog w=.ok (.bool false) w:=by kernel_rfl
theorem assign45_23 (w:World):(ReflectliteType.relation "AssignableTo" ReflectliteType.assignableTo #[.agg #[.pointer (some ⟨5, 109,none⟩)],.iface 229 (.agg #[.pointer (some ⟨5, 45,none⟩)])]).run Tryz.prog w=.ok (.bool false) w:=by kernel_rfl
theorem assign23_23 (w:World):(ReflectliteType.relation "AssignableTo" ReflectliteType.assignableTo #[.agg #[.pointer (some ⟨5, 45,none⟩)],.iface 229 (.agg #[.pointer (some ⟨5, 45,none⟩)])]).run Tryz.prog w=.ok (.bool true) w:=by kernel_rfl
theorem elemOf49 (w:World):(Rtype.elem? 108).run Tryz.prog w=.ok (some 45) w:=by kernel_rfl
theorem mk23 (p:Addr)(w:World):(ReflectliteValue.mk 45 p ReflectliteValue.flagAddr).run Tryz.prog w=.ok (.agg #[.pointer (some ⟨5, 45,none⟩),.pointer (some p),.int .u64 386]) w:=by kernel_rfl
theorem elemV49 (a p:Addr)(W:World)(ha:W.cell? a=some (.pointer (some p))) :
 (ReflectliteValue.method (ReflectliteValue.valueError "reflectlite.Value.Elem" 0) ReflectliteValue.elem #[.agg #[.pointer (some ⟨5, 108, none⟩), .pointer (some a), .int .u64 150]]).run Tryz.prog W
  = .ok (.agg #[.pointer (some ⟨5, 45,none⟩),.pointer (some p),.int .u64 386]) W:=by
 rw [rlm (parts49 a W)]
 simp [ReflectliteValue.elem,loadVar,isAgg,underlying,Tryz.underlying108,ha,Result.andThen,elemOf49,mk23]
theorem parts23a (a:Addr)(w:World):(ReflectliteValue.parts (.agg #[.pointer (some ⟨5, 45,none⟩),.pointer (some a),.int .u64 386])).run Tryz.prog w=.ok (some (45,a,386)) w:=by kernel_rfl
theorem parts23 (a:Addr)(w:World):(ReflectliteValue.parts (.agg #[.pointer (some ⟨5, 45,none⟩),.pointer (some a),.int .u64 130])).run Tryz.prog w=.ok (some (45,a,130)) w:=by kernel_rfl
theorem direct23 (w:World):(Rtype.directlyAssignable 45 45).run Tryz.prog w=.ok true w:=by kernel_rfl
theorem set23 (ta b:Addr)(n:Int)(old:Value)(W:World)(hb:W.cell? b=some (.int .i64 n))(ht:W.cell? ta=some old)(hf:W.frozen? ta=false) :
 (ReflectliteValue.set #[.agg #[.pointer (some ⟨5, 45, none⟩), .pointer (some ta), .int .u64 386], .agg #[.pointer (some ⟨5, 45, none⟩), .pointer (some b), .int .u64 130]]).run Tryz.prog W
  = .ok (.tuple #[]) (W.setCell ta (.int .i64 n)):=by
 refine rls (parts23a ta W) (parts23 b W) (by decide) (val:=.int .i64 n) ?_ (direct23 W) ?_
 · simp [loadVar,isAgg,underlying,Tryz.underlying45,hb]
 · simp [storeVar,Value.cells,storeCells,Addr.add]
   rw [run_store Tryz.prog W ta _ _ (by rfl)]
   simp [ht,hf]
end
section
open Go.RowKit Go.Extern.Stop Go.Stop Go.Extern
inductive Path (W:World)(b:Bool)(u:Value):Value→Nat→Prop
 | here:Path W b u u 0
 | err (B:Nat) (k:Int) (n:Nat):b=true→W.cell? ⟨B,3,none⟩=some (.int .i64 k)→Path W b u (.iface 45 (.int .i64 k)) n→Path W b u (.iface 109 (.pointer (some ⟨B,0,none⟩))) (n+1)
open Classical in
noncomputable def far (W:World)(b:Bool)(u v:Value):Nat:=if h:∃n,Path W b u v n then h.choose else 0
theorem path_same {W:World}{b:Bool}{u v:Value}(hb:b=true→∀x,u≠.iface 109 x){n m:Nat}(h:Path W b u v n)(h':Path W b u v m):n=m:=by
 induction h generalizing m with
 | here=>cases h' with
  | here=>rfl
  | err _ _ _ e=>exact absurd rfl (hb e _)
 | err B k n e hc _ ih=>cases h' with
  | here=>exact absurd rfl (hb e _)
  | err _ k' n' e' hc' hp' =>
   rw [hc] at hc'
   obtain rfl:k=k':=by simpa using hc'
   rw [ih hp']
theorem far_eq {W:World}{b:Bool}{u v:Value}(hb:b=true→∀x,u≠.iface 109 x){n:Nat}(h:Path W b u v n):far W b u v=n:=by
 have e:∃n,Path W b u v n:=⟨n,h⟩
 unfold far
 rw [dif_pos e]
 exact path_same hb e.choose_spec h
theorem path_world {W W':World}{b:Bool}{u v:Value}{n:Nat}(hc:∀B o,(W.cell? ⟨B,o,none⟩).isSome→W'.cell? ⟨B,o,none⟩=W.cell? ⟨B,o,none⟩)(h:Path W b u v n):Path W' b u v n:=by
 induction h with
 | here=>exact .here
 | err B k n e h1 _ ih=>exact .err B k n e (by rw [hc _ _ (by rw [h1];rfl),h1]) ih
theorem cell_lt {W:World}{a:Addr}{v:Value}(h:W.cell? a=some v):a.block<W.heap.size:=by
 rcases Nat.lt_or_ge a.block W.heap.size with h1|h1
 · exact h1
 · simp [World.cell?,Array.getElem?_eq_none h1] at h
theorem no_as45 (v:Value)(w:World):(Instr.typeAssert (.iface 109 v) 25 234 true).run Tryz.prog w=.ok (.tuple #[.nilIface,.bool false]) w:=run_typeAssert_lacksB (P:=Tryz.prog) (t := 109) (z:=.nilIface) Tryz.underlying234 (by kernel_rfl) (by kernel_rfl) v 25 w
theorem no_as23 (v:Value)(w:World):(Instr.typeAssert (.iface 45 v) 25 234 true).run Tryz.prog w=.ok (.tuple #[.nilIface,.bool false]) w:=run_typeAssert_lacksB (P:=Tryz.prog) (t := 45) (z:=.nilIface) Tryz.underlying234 (by kernel_rfl) (by kernel_rfl) v 25 w
theorem un45 (v:Value)(w:World):(Instr.typeAssert (.iface 109 v) 25 237 true).run Tryz.prog w=.ok (.tuple #[.iface 109 v,.bool true]) w:=run_typeAssert_hasB (P:=Tryz.prog) (t := 109) Tryz.underlying237 (by kernel_rfl) v 25 w
theorem no_un23 (v:Value)(w:World):(Instr.typeAssert (.iface 45 v) 25 237 true).run Tryz.prog w=.ok (.tuple #[.nilIface,.bool false]) w:=run_typeAssert_lacksB (P:=Tryz.prog) (t := 45) (z:=.nilIface) Tryz.underlying237 (by kernel_rfl) (by kernel_rfl) v 25 w
theorem no_uns23 (v:Value)(w:World):(Instr.typeAssert (.iface 45 v) 25 239 true).run Tryz.prog w=.ok (.tuple #[.nilIface,.bool false]) w:=run_typeAssert_lacksB (P:=Tryz.prog) (t := 45) (z:=.nilIface) Tryz.underlying239 (by kernel_rfl) (by kernel_rfl) v 25 w
theorem unwrap45 (B:Nat)(k:Int)(w:World)(hc:w.cell? ⟨B,3,none⟩=some (.int .i64 k)) :
 Calls Tryz.prog 313 #[.pointer (some ⟨B,0,none⟩)] w fun e w'=>e=.returned (.iface 45 (.int .i64 k))∧w=w':=by
 go_enter Tryz.func313,Tryz.ntmps313
 go_wp2
 go_ret
 exact ⟨rfl,rfl⟩
end
section
open Go.RowKit Go.Extern.Stop Go.Stop Go.Extern
theorem as45_miss (t:Addr)(v:Value)(j:Int)(n:Nat)(a:Addr)(W:World)(hp:Path W false (.iface 45 (.int .i64 j)) v n) :
 Calls Tryz.prog 109 #[v,.iface 110 (.pointer (some t)),.agg #[.pointer (some ⟨5, 110,none⟩),.pointer (some a),.int .u64 150],.iface 229 (.agg #[.pointer (some ⟨5, 109,none⟩)])] W
  fun ev w'=>ev=.returned (.bool false)∧w'=W.alloc (.cells #[.pointer (some ⟨5, 110,none⟩),.pointer (some a),.int .u64 150] 172):=by
 have h23:=@run_callFunc_extern Tryz.prog 174 _ ReflectliteType.typeOf Tryz.func174 (by kernel_rfl) (by kernel_rfl) (by kernel_rfl) (by kernel_rfl)
 have h86:=@run_callFunc_extern Tryz.prog 318 _ (ReflectliteType.relation "AssignableTo" ReflectliteType.assignableTo) Tryz.func318 (by kernel_rfl) (by kernel_rfl) (by kernel_rfl) (by kernel_rfl)
 have t23:=typeOf23
 have a23:=assign23_45
 have n23:=no_as23
 have u23:=no_un23
 have uu23:=no_uns23
 go_enter Tryz.func109,Tryz.ntmps109
 go_wp2
 go_loop [0] (fun v=>∃n,Path W false (.iface 45 (.int .i64 j)) v n) (fun v=>far W false (.iface 45 (.int .i64 j)) v)
 case atStart=>exact ⟨n,hp⟩
 case round =>
  obtain ⟨m,hm⟩:=hrel
  cases hm with
  | here =>
   go_wp2
   go_ret
   exact ⟨rfl,rfl⟩
  | err B k n e=>cases e
theorem as23 (t:Addr)(v old:Value)(j:Int)(n:Nat)(a:Addr)(W:World)(hp:Path W true (.iface 45 (.int .i64 j)) v n)
 (ha:W.cell? a=some (.pointer (some t))) (ht0:W.cell? t=some old) (hf0:W.frozen? t=false) :
 Calls Tryz.prog 109 #[v,.iface 108 (.pointer (some t)),.agg #[.pointer (some ⟨5, 108,none⟩),.pointer (some a),.int .u64 150],.iface 229 (.agg #[.pointer (some ⟨5, 45,none⟩)])] W
  fun ev w'=>ev=.returned (.bool true)∧w'=((W.alloc (.cells #[.pointer (some ⟨5, 108,none⟩),.pointer (some a),.int .u64 150] 172)).alloc (.cells #[.int .i64 j] 45)).setCell t (.int .i64 j):=by
 have h23:=@run_callFunc_extern Tryz.prog 174 _ ReflectliteType.typeOf Tryz.func174 (by kernel_rfl) (by kernel_rfl) (by kernel_rfl) (by kernel_rfl)
 have h86:=@run_callFunc_extern Tryz.prog 318 _ (ReflectliteType.relation "AssignableTo" ReflectliteType.assignableTo) Tryz.func318 (by kernel_rfl) (by kernel_rfl) (by kernel_rfl) (by kernel_rfl)
 have h40:=@run_callFunc_extern Tryz.prog 175 _ (ReflectliteValue.method (ReflectliteValue.valueError "reflectlite.Value.Elem" 0) ReflectliteValue.elem) Tryz.func175 (by kernel_rfl) (by kernel_rfl) (by kernel_rfl) (by kernel_rfl)
 have h41:=@run_callFunc_extern Tryz.prog 176 _ ReflectliteValue.set Tryz.func176 (by kernel_rfl) (by kernel_rfl) (by kernel_rfl) (by kernel_rfl)
 have h29:=@run_callFunc_extern Tryz.prog 106 _ (fun args=>ReflectliteValue.unpack (args.getD 0 (.tuple #[]))) Tryz.func106 (by kernel_rfl) (by kernel_rfl) (by kernel_rfl) (by kernel_rfl)
 have t23:=typeOf23
 have t45:=typeOf45
 have a23:=assign23_23
 have a45:=assign45_23
 have v23:=valueOf23
 have n45:=no_as45
 have u45:=un45
 have hal:=cell_lt ha
 have htl:=cell_lt ht0
 have el:=elemV49 a t (W.alloc (.cells #[.pointer (some ⟨5, 108,none⟩),.pointer (some a),.int .u64 150] 172)) (by rw [World.cell?_alloc_lt _ _ a hal];exact ha)
 have st:=set23 t ⟨W.heap.size+1,0,none⟩ j old ((W.alloc (.cells #[.pointer (some ⟨5, 108,none⟩),.pointer (some a),.int .u64 150] 172)).alloc (.cells #[.int .i64 j] 45))
  (by rw [World.cell?_alloc_at _ _ _ _ (by simp)];rfl)
  (by rw [World.cell?_alloc_lt _ _ t (by simp;omega),World.cell?_alloc_lt _ _ t htl];exact ht0)
  (by rw [World.frozen?_alloc_old _ _ t (by simp;omega),World.frozen?_alloc_old _ _ t (Nat.ne_of_lt htl)];exact hf0)
 go_enter Tryz.func109,Tryz.ntmps109
 go_wp2
 go_loop [0] (fun v=>∃n,Path W true (.iface 45 (.int .i64 j)) v n) (fun v=>far W true (.iface 45 (.int .i64 j)) v)
 case atStart=>exact ⟨n,hp⟩
 case round =>
  obtain ⟨m,hm⟩:=hrel
  cases hm with
  | here =>
   go_wp2
   go_ret
   exact ⟨rfl,rfl⟩
  | err B i k hb hc hq =>
   have hbl:=cell_lt hc
   have hc1:(W.alloc (.cells #[.pointer (some ⟨5, 108,none⟩),.pointer (some a),.int .u64 150] 172)).cell? ⟨B,3,none⟩=some (.int .i64 i):=by rw [World.cell?_alloc_lt _ _ _ hbl];exact hc
   have HF:Hid (far W true (.iface 45 (.int .i64 j)) (.iface 109 (.pointer (some ⟨B,0,none⟩)))=k+1):=lh (far_eq (by simp) (.err B i k hb hc hq))
   have HG:Hid (far W true (.iface 45 (.int .i64 j)) (.iface 45 (.int .i64 i))=k):=lh (far_eq (by simp) hq)
   go_wp2_with (go_at_call 313;(with_reducible refine (unwrap45 _ _ _ hc1).mono ?_);rintro e' w' ⟨rfl,rfl⟩)
   go_round
   case rel=>exact ⟨k,hq⟩
   case measure=>rw [HF.out,HG.out];omega
end
section
open Go.RowKit Go.Extern.Stop Go.Stop Go.Extern
theorem As45_miss (t:Addr)(T:TypeId)(x:Value)(j:Int)(n:Nat)(w:World)(hg:w.cell? ⟨0,0,none⟩=some (.iface 229 (.agg #[.pointer (some ⟨5, 25,none⟩)])))(hp:Path w false (.iface 45 (.int .i64 j)) (.iface T x) n) :
 Calls Tryz.prog 61 #[.iface T x,.iface 110 (.pointer (some t))] w fun ev w'=>ev=.returned (.bool false)∧w'=((w.alloc (.cells #[.pointer (some t)] 110)).alloc (.cells #[.pointer (some ⟨5, 110,none⟩),.pointer (some ⟨w.heap.size,0,none⟩),.int .u64 150] 172)).alloc (.cells #[.pointer (some ⟨5, 110,none⟩),.pointer (some ⟨w.heap.size,0,none⟩),.int .u64 150] 172):=by
 have h29:=@run_callFunc_extern Tryz.prog 106 _ (fun args=>ReflectliteValue.unpack (args.getD 0 (.tuple #[]))) Tryz.func106 (by kernel_rfl) (by kernel_rfl) (by kernel_rfl) (by kernel_rfl)
 have h30:=@run_callFunc_extern Tryz.prog 107 _ (ReflectliteValue.methodAny (ReflectliteValue.valueError "reflectlite.Value.Type" 0) (fun t _ _ _=>ReflectliteType.toType t)) Tryz.func107 (by kernel_rfl) (by kernel_rfl) (by kernel_rfl) (by kernel_rfl)
 have h31:=@run_callFunc_extern Tryz.prog 108 _ (ReflectliteValue.method (ReflectliteValue.valueError "reflectlite.Value.IsNil" 0) ReflectliteValue.isNil) Tryz.func108 (by kernel_rfl) (by kernel_rfl) (by kernel_rfl) (by kernel_rfl)
 have h69:=@run_callFunc_extern Tryz.prog 308 _ (ReflectliteType.abiMethod fun t=>do pure (.int .u8 (← Rtype.kind t))) Tryz.func308 (by kernel_rfl) (by kernel_rfl) (by kernel_rfl) (by kernel_rfl)
 have h88:=@run_callFunc_extern Tryz.prog 320 _ (ReflectliteType.method ReflectliteType.elem) Tryz.func320 (by kernel_rfl) (by kernel_rfl) (by kernel_rfl) (by kernel_rfl)
 have h89:=@run_callFunc_extern Tryz.prog 321 _ (ReflectliteType.relation "Implements" ReflectliteType.implements_) Tryz.func321 (by kernel_rfl) (by kernel_rfl) (by kernel_rfl) (by kernel_rfl)
 have f6:=valueOf50
 have f7:=type50
 have k27:=kind50
 have k25:=kind45
 have e27:=elem50
 have i25:=implements45
 have hlt:=cell_lt hg
 have n8:=isNil50 ⟨w.heap.size,0,none⟩ t ((w.alloc (.cells #[.pointer (some t)] 110)).alloc (.cells #[.pointer (some ⟨5, 110,none⟩),.pointer (some ⟨w.heap.size,0,none⟩),.int .u64 150] 172)) (by simp)
 have hg2:((w.alloc (.cells #[.pointer (some t)] 110)).alloc (.cells #[.pointer (some ⟨5, 110,none⟩),.pointer (some ⟨w.heap.size,0,none⟩),.int .u64 150] 172)).cell? ⟨0,0,none⟩=some (.iface 229 (.agg #[.pointer (some ⟨5, 25,none⟩)])):=by
  rw [World.cell?_alloc_lt _ _ ⟨0,0,none⟩ (by simp),World.cell?_alloc_lt _ _ ⟨0,0,none⟩ hlt];exact hg
 have ha2:((w.alloc (.cells #[.pointer (some t)] 110)).alloc (.cells #[.pointer (some ⟨5, 110,none⟩),.pointer (some ⟨w.heap.size,0,none⟩),.int .u64 150] 172)).cell? ⟨w.heap.size,0,none⟩=some (.pointer (some t)):=by simp
 have hp2:Path ((w.alloc (.cells #[.pointer (some t)] 110)).alloc (.cells #[.pointer (some ⟨5, 110,none⟩),.pointer (some ⟨w.heap.size,0,none⟩),.int .u64 150] 172)) false (.iface 45 (.int .i64 j)) (.iface T x) n:=path_world (fun B o h=>by
  obtain ⟨v,hv⟩:=Option.isSome_iff_exists.1 h
  rw [World.cell?_alloc_lt _ _ ⟨B,o,none⟩ (by have:=cell_lt hv;simp at this ⊢;omega),World.cell?_alloc_lt _ _ ⟨B,o,none⟩ (cell_lt hv)]) hp
 have HP:=lh hp2
 clear hp2 hp
 go_enter Tryz.func61,Tryz.ntmps61
 go_wp2_with (go_at_call 109;(with_reducible refine (as45_miss t _ j n _ _ HP.out).mono ?_);rintro e' w' ⟨rfl,rfl⟩)
 go_ret
 exact ⟨rfl,rfl⟩
theorem As23 (t:Addr)(T:TypeId)(x old:Value)(j:Int)(n:Nat)(w:World)(hg:w.cell? ⟨0,0,none⟩=some (.iface 229 (.agg #[.pointer (some ⟨5, 25,none⟩)])))(hp:Path w true (.iface 45 (.int .i64 j)) (.iface T x) n)(ht0:w.cell? t=some old)(hf0:w.frozen? t=false) :
 Calls Tryz.prog 61 #[.iface T x,.iface 108 (.pointer (some t))] w fun ev w'=>ev=.returned (.bool true)∧w'=((((w.alloc (.cells #[.pointer (some t)] 108)).alloc (.cells #[.pointer (some ⟨5, 108,none⟩),.pointer (some ⟨w.heap.size,0,none⟩),.int .u64 150] 172)).alloc (.cells #[.pointer (some ⟨5, 108,none⟩),.pointer (some ⟨w.heap.size,0,none⟩),.int .u64 150] 172)).alloc (.cells #[.int .i64 j] 45)).setCell t (.int .i64 j):=by
 have h29:=@run_callFunc_extern Tryz.prog 106 _ (fun args=>ReflectliteValue.unpack (args.getD 0 (.tuple #[]))) Tryz.func106 (by kernel_rfl) (by kernel_rfl) (by kernel_rfl) (by kernel_rfl)
 have h30:=@run_callFunc_extern Tryz.prog 107 _ (ReflectliteValue.methodAny (ReflectliteValue.valueError "reflectlite.Value.Type" 0) (fun t _ _ _=>ReflectliteType.toType t)) Tryz.func107 (by kernel_rfl) (by kernel_rfl) (by kernel_rfl) (by kernel_rfl)
 have h31:=@run_callFunc_extern Tryz.prog 108 _ (ReflectliteValue.method (ReflectliteValue.valueError "reflectlite.Value.IsNil" 0) ReflectliteValue.isNil) Tryz.func108 (by kernel_rfl) (by kernel_rfl) (by kernel_rfl) (by kernel_rfl)
 have h69:=@run_callFunc_extern Tryz.prog 308 _ (ReflectliteType.abiMethod fun t=>do pure (.int .u8 (← Rtype.kind t))) Tryz.func308 (by kernel_rfl) (by kernel_rfl) (by kernel_rfl) (by kernel_rfl)
 have h88:=@run_callFunc_extern Tryz.prog 320 _ (ReflectliteType.method ReflectliteType.elem) Tryz.func320 (by kernel_rfl) (by kernel_rfl) (by kernel_rfl) (by kernel_rfl)
 have h89:=@run_callFunc_extern Tryz.prog 321 _ (ReflectliteType.relation "Implements" ReflectliteType.implements_) Tryz.func321 (by kernel_rfl) (by kernel_rfl) (by kernel_rfl) (by kernel_rfl)
 have f6:=valueOf49
 have f7:=type49
 have k27:=kind49
 have k25:=kind23
 have e27:=elem49
 have i25:=implements23
 have hlt:=cell_lt hg
 have n8:=isNil49 ⟨w.heap.size,0,none⟩ t ((w.alloc (.cells #[.pointer (some t)] 108)).alloc (.cells #[.pointer (some ⟨5, 108,none⟩),.pointer (some ⟨w.heap.size,0,none⟩),.int .u64 150] 172)) (by simp)
 have hg2:((w.alloc (.cells #[.pointer (some t)] 108)).alloc (.cells #[.pointer (some ⟨5, 108,none⟩),.pointer (some ⟨w.heap.size,0,none⟩),.int .u64 150] 172)).cell? ⟨0,0,none⟩=some (.iface 229 (.agg #[.pointer (some ⟨5, 25,none⟩)])):=by
  rw [World.cell?_alloc_lt _ _ ⟨0,0,none⟩ (by simp),World.cell?_alloc_lt _ _ ⟨0,0,none⟩ hlt];exact hg
 have ha2:((w.alloc (.cells #[.pointer (some t)] 108)).alloc (.cells #[.pointer (some ⟨5, 108,none⟩),.pointer (some ⟨w.heap.size,0,none⟩),.int .u64 150] 172)).cell? ⟨w.heap.size,0,none⟩=some (.pointer (some t)):=by simp
 have hp2:Path ((w.alloc (.cells #[.pointer (some t)] 108)).alloc (.cells #[.pointer (some ⟨5, 108,none⟩),.pointer (some ⟨w.heap.size,0,none⟩),.int .u64 150] 172)) true (.iface 45 (.int .i64 j)) (.iface T x) n:=path_world (fun B o h=>by
  obtain ⟨v,hv⟩:=Option.isSome_iff_exists.1 h
  rw [World.cell?_alloc_lt _ _ ⟨B,o,none⟩ (by have:=cell_lt hv;simp at this ⊢;omega),World.cell?_alloc_lt _ _ ⟨B,o,none⟩ (cell_lt hv)]) hp
 have HP:=lh hp2
 clear hp2 hp
 have htl:=cell_lt ht0
 have ht2:((w.alloc (.cells #[.pointer (some t)] 108)).alloc (.cells #[.pointer (some ⟨5, 108,none⟩),.pointer (some ⟨w.heap.size,0,none⟩),.int .u64 150] 172)).cell? t=some old:=by rw [World.cell?_alloc_lt _ _ t (by simp;omega),World.cell?_alloc_lt _ _ t htl];exact ht0
 have hf2:((w.alloc (.cells #[.pointer (some t)] 108)).alloc (.cells #[.pointer (some ⟨5, 108,none⟩),.pointer (some ⟨w.heap.size,0,none⟩),.int .u64 150] 172)).frozen? t=false:=by rw [World.frozen?_alloc_old _ _ t (by simp;omega),World.frozen?_alloc_old _ _ t (Nat.ne_of_lt htl)];exact hf0
 go_enter Tryz.func61,Tryz.ntmps61
 go_wp2_with (go_at_call 109;(with_reducible refine (as23 t _ old j n _ _ HP.out ha2 ht2 hf2).mono ?_);rintro e' w' ⟨rfl,rfl⟩)
 go_ret
 exact ⟨rfl,rfl⟩
end
section
open Go.Lib
def lineF (xs:List Int):Nat→Nat
 | 0=>1
 | k+1=>if xs.getD k 0=10 then lineF xs k+1 else lineF xs k
def lastF (xs:List Int):Nat→Int
 | 0=>-1
 | k+1=>if xs.getD k 0=10 then (k:Int) else lastF xs k
theorem last_bd (xs:List Int)(k:Nat):-1≤lastF xs k∧lastF xs k<k:=by
 induction k with
 | zero=>simp [lastF]
 | succ k ih=>unfold lastF;split<;>omega
theorem line_bd (xs:List Int)(k:Nat):1≤lineF xs k∧lineF xs k≤k+1:=by
 induction k with
 | zero=>simp [lineF]
 | succ k ih=>unfold lineF;split<;>omega
theorem line_mono (xs:List Int)(j d:Nat):lineF xs j≤lineF xs (j+d)∧(lineF xs j=lineF xs (j+d)→lastF xs j=lastF xs (j+d)):=by
 induction d with
 | zero=>simp
 | succ d ih =>
  rw [show j+(d+1)=(j+d)+1 from rfl,lineF,lastF]
  split
  · exact ⟨by omega,fun h=>by omega⟩
  · exact ih
theorem places (xs:List Int)(j k:Nat)(h:j<k):lineF xs j<lineF xs k∨(lineF xs j=lineF xs k∧(j:Int)-lastF xs j<k-lastF xs k):=by
 obtain ⟨d,rfl⟩:∃d,k=j+d:=⟨k-j,by omega⟩
 have:=line_mono xs j d
 rcases Nat.lt_or_ge (lineF xs j) (lineF xs (j+d)) with h1|h1
 · exact Or.inl h1
 · have e:lineF xs j=lineF xs (j+d):=by omega
   exact Or.inr ⟨e,by have:=this.2 e;omega⟩
theorem count_line (xs:List Int)(hr:∀i,0≤xs.getD i 0∧xs.getD i 0<256)(k:Nat)(hk:k≤xs.length) :
 1+((countByte (bytesOf (xs.take k)) (10:Int).toNat.toUInt8:Nat):Int)=lineF xs k:=by
 induction k with
 | zero=>rfl
 | succ k ih =>
  have ih:=ih (by omega)
  have ht:xs.take (k+1)=xs.take k++[xs.getD k 0]:=by
   rw [List.take_succ_eq_append_getElem (by omega)]
   simp [List.getD,List.getElem?_eq_getElem (show k<xs.length by omega)]
  rw [ht,lineF]
  obtain ⟨h0,h1⟩:=hr k
  generalize xs.getD k 0=c at h0 h1
  have hb:∀l:List Int,bytesOf (l++[c])=bytesOf l++[c.toNat.toUInt8]:=by intro l;simp [bytesOf]
  have hcb:∀l:List UInt8,∀x y:UInt8,countByte (l++[x]) y=countByte l y+if x=y then 1 else 0:=by
   intro l x y
   simp only [countByte,List.count_append,List.count_singleton]
   by_cases h:x=y<;>simp [h]
  rw [hb,hcb]
  have:c.toNat.toUInt8=(10:Int).toNat.toUInt8↔c=10:=by
   constructor
   · intro h
     have:=congrArg UInt8.toNat h
     simp at this
     omega
   · rintro rfl;rfl
  by_cases h:c=10
  · rw [if_pos (this.2 h),if_pos h];omega
  · rw [if_neg (fun h'=>h (this.1 h')),if_neg h];omega
end
section
open Go.RowKit Go.Lib
theorem ret_i64 {a b:Int}(h:a=b):Ending.returned (.int .i64 a)=.returned (.int .i64 b):=by rw [h]
theorem count_at (b off n c d:Nat)(xs:List Int)(w:World)(hn:xs.length=n)(hc:∀i,i<n→w.cell? ⟨b,off+i,none⟩=some (.int .u8 (xs.getD i 0)))(hs:w.cell? ⟨d,0,none⟩=some (.int .u8 10)) :
 Calls Tryz.prog 85 #[.slice (some ⟨b,off,none⟩) n c,.slice (some ⟨d,0,none⟩) 1 1] w fun e w'=>e=.returned (.int .i64 (countByte (bytesOf xs) (10:Int).toNat.toUInt8))∧w=w':=by
 have h26:=@run_callFunc_extern Tryz.prog 150 _ Extern.BytealgCount.count Tryz.func150 (by kernel_rfl) (by kernel_rfl) (by kernel_rfl) (by kernel_rfl)
 have hr:=run_countSlice (P:=Tryz.prog) w b off n c xs hn hc 10
 generalize countByte (bytesOf xs) (10:Int).toNat.toUInt8=m at *
 clear hc hn
 go_enter Tryz.func85,Tryz.ntmps85
 go_wp2
 go_ret
 exact ⟨rfl,rfl⟩
theorem count_nil (d:Nat)(w:World)(hs:w.cell? ⟨d,0,none⟩=some (.int .u8 10)) :
 Calls Tryz.prog 85 #[.slice none 0 0,.slice (some ⟨d,0,none⟩) 1 1] w fun e w'=>e=.returned (.int .i64 0)∧w=w':=by
 have h26:=@run_callFunc_extern Tryz.prog 150 _ Extern.BytealgCount.count Tryz.func150 (by kernel_rfl) (by kernel_rfl) (by kernel_rfl) (by kernel_rfl)
 have hr:=run_countNil (P:=Tryz.prog) w 0 0 10
 go_enter Tryz.func85,Tryz.ntmps85
 go_wp2
 go_ret
 exact ⟨rfl,rfl⟩
theorem last_nil (w:World) :
 Calls Tryz.prog 86 #[.slice none 0 0,.int .u8 10] w fun e w'=>e=.returned (.int .i64 (-1))∧w=w':=by
 go_enter Tryz.func86,Tryz.ntmps86
 go_wp2
 refine wp_loop_rounds 1 ?_
 rw [rounds_succ]
 go_wp2
 go_ret
 exact ⟨rfl,rfl⟩
theorem last_in (b off n c:Nat)(xs:List Int)(w:World)(_hn:n≤xs.length)(hb:n≤70000)(hc:∀i,i<n→w.cell? ⟨b,off+i,none⟩=some (.int .u8 (xs.getD i 0))) :
 Calls Tryz.prog 152 #[.slice (some ⟨b,off,none⟩) n c,.int .u8 10] w fun e w'=>e=.returned (.int .i64 (lastF xs n))∧w=w':=by
 have HC:=lh hc
 clear hc
 go_enter Tryz.func152,Tryz.ntmps152
 go_wp2
 go_loop [5] (fun i=>∃m:Nat,m≤n∧i=.int .i64 ((m:Int)-1)∧lastF xs n=lastF xs m) (fun i=>(RowKit.intOf i+1).toNat)
 case atStart=>exact ⟨n,Nat.le_refl _,rfl,rfl⟩
 case round =>
  obtain ⟨m,hm,rfl,he⟩:=hrel
  have HE:=lh he
  clear he
  cases m with
  | zero =>
   go_wp2
   go_ret
   exact ⟨by rw [HE.out];rfl,rfl⟩
  | succ m =>
   have hcell:=HC.out m (by omega)
   obtain ⟨y,hy⟩:∃y,xs.getD m 0=y:=⟨_,rfl⟩
   rw [hy] at hcell
   have HY:=lh hy
   clear hy
   rw [show ((m+1:Nat):Int)-1=(m:Int) by omega]
   by_cases h10:y=10
   · subst h10
     go_wp2
     go_ret
     exact ⟨ret_i64 (by rw [HE.out,lastF,if_pos HY.out]),rfl⟩
   · have hd:(y==10)=false:=by simpa using h10
     go_wp2
     go_round
     case rel=>exact ⟨m,by omega,by go_num,by rw [HE.out,lastF,if_neg (by rw [HY.out];exact h10)]⟩
     case measure=>simp only [RowKit.intOf];omega
theorem last_at (b off n c:Nat)(xs:List Int)(w:World)(hn:n≤xs.length)(hb:n≤70000)(hc:∀i,i<n→w.cell? ⟨b,off+i,none⟩=some (.int .u8 (xs.getD i 0))) :
 Calls Tryz.prog 86 #[.slice (some ⟨b,off,none⟩) n c,.int .u8 10] w fun e w'=>e=.returned (.int .i64 (lastF xs n))∧w=w':=by
 have H:=last_in b off n c xs w hn hb hc
 clear hc hn
 generalize lastF xs n=r at *
 go_enter Tryz.func86,Tryz.ntmps86
 go_wp2_with (go_at_call 152;refine H.mono ?_;rintro e' w' ⟨rfl,rfl⟩)
 go_ret
 exact ⟨rfl,rfl⟩
theorem new_nil (at' n:Int)(w:World)(h0:n≠0) :
 Calls Tryz.prog 46 #[.slice none 0 0,.int .i64 at',.int .i64 n] w fun e w'=>e=.returned (.iface 109 (.pointer (some ⟨w.heap.size+1,0,none⟩)))∧w'=(w.alloc (.cells #[.int .u8 10] 5)).alloc (.cells #[.int .i64 0,.int .i64 1,.int .i64 1,.int .i64 n] 112):=by
 have hz:(n==0)=false:=by simpa using h0
 have hm:min (max at' 0) 0=0:=by omega
 go_enter Tryz.func46,Tryz.ntmps46
 go_wp2_with (first|(go_at_call 85;(with_reducible refine (count_nil _ _ (by simp)).mono ?_);rintro e' w' ⟨rfl,rfl⟩)|(go_at_call 86;(with_reducible refine (last_nil _).mono ?_);rintro e' w' ⟨rfl,rfl⟩))
 go_ret
 exact ⟨rfl,rfl⟩
theorem new_at (b off len c k:Nat)(xs:List Int)(at' n:Int)(w:World)(h0:n≠0)(hl:xs.length=len)(hcap:len≤c)(hb:len≤70000)(hk:min (max at' 0) (len:Int)=(k:Int))
 (hr:∀i,0≤xs.getD i 0∧xs.getD i 0<256) (hc:∀i,i<len→w.cell? ⟨b,off+i,none⟩=some (.int .u8 (xs.getD i 0))) (hbl:b<w.heap.size) :
 Calls Tryz.prog 46 #[.slice (some ⟨b,off,none⟩) len c,.int .i64 at',.int .i64 n] w fun e w'=>e=.returned (.iface 109 (.pointer (some ⟨w.heap.size+1,0,none⟩)))∧w'=(w.alloc (.cells #[.int .u8 10] 5)).alloc (.cells #[.int .i64 k,.int .i64 (lineF xs k),.int .i64 ((k:Int)-lastF xs k),.int .i64 n] 112):=by
 have hz:(n==0)=false:=by simpa using h0
 have hkl:k≤len:=by omega
 have hlb:=last_bd xs k
 have hlbd:=line_bd xs k
 have hcl:=count_line xs hr k (by omega)
 have HA:∀i,i<k→(w.alloc (.cells #[.int .u8 10] 5)).cell? ⟨b,off+i,none⟩=some (.int .u8 (xs.getD i 0)):=fun i hi=>by rw [World.cell?_alloc_lt _ _ _ hbl];exact hc i (by omega)
 have H1:=count_at b off k c w.heap.size (xs.take k) (w.alloc (.cells #[.int .u8 10] 5)) (by simp;omega) (fun i hi=>by rw [HA i hi];simp [List.getD,hi]) (by simp)
 have H2:=last_at b off k c xs (w.alloc (.cells #[.int .u8 10] 5)) (by omega) (by omega) HA
 clear HA hc hr
 generalize countByte (bytesOf (xs.take k)) (10:Int).toNat.toUInt8=cnt at *
 have hcn:(lineF xs k:Int)=1+cnt:=hcl.symm
 have hcnt:cnt≤70000:=by omega
 rw [hcn]
 generalize lineF xs k=L at *
 generalize lastF xs k=R at *
 clear hl hcl hcn
 clear hlbd
 go_enter Tryz.func46,Tryz.ntmps46
 go_wp2_with (first|(go_at_call 85;(with_reducible refine H1.mono ?_);rintro e' w' ⟨rfl,rfl⟩)|(go_at_call 86;(with_reducible refine H2.mono ?_);rintro e' w' ⟨rfl,rfl⟩))
 go_ret
 exact ⟨rfl,rfl⟩
theorem count_none (a:Addr)(d:Nat)(w:World)(hs:w.cell? ⟨d,0,none⟩=some (.int .u8 10)) :
 Calls Tryz.prog 85 #[.slice (some a) 0 0,.slice (some ⟨d,0,none⟩) 1 1] w fun e w'=>e=.returned (.int .i64 0)∧w=w':=by
 have h26:=@run_callFunc_extern Tryz.prog 150 _ Extern.BytealgCount.count Tryz.func150 (by kernel_rfl) (by kernel_rfl) (by kernel_rfl) (by kernel_rfl)
 have hr:(Extern.BytealgCount.count #[.slice (some a) 0 0,.int .u8 10]).run Tryz.prog w=.ok (.int .i64 0) w:=run_countAt (P:=Tryz.prog) w a 0 0 [] rfl (fun i hi=>by omega) 10
 go_enter Tryz.func85,Tryz.ntmps85
 go_wp2
 go_ret
 exact ⟨rfl,rfl⟩
theorem last_none (a:Addr)(w:World) :
 Calls Tryz.prog 86 #[.slice (some a) 0 0,.int .u8 10] w fun e w'=>e=.returned (.int .i64 (-1))∧w=w':=by
 go_enter Tryz.func86,Tryz.ntmps86
 go_wp2
 refine wp_loop_rounds 1 ?_
 rw [rounds_succ]
 go_wp2
 go_ret
 exact ⟨rfl,rfl⟩
theorem new_none (a:Addr)(at' n:Int)(w:World)(h0:n≠0) :
 Calls Tryz.prog 46 #[.slice (some a) 0 0,.int .i64 at',.int .i64 n] w fun e w'=>e=.returned (.iface 109 (.pointer (some ⟨w.heap.size+1,0,none⟩)))∧w'=(w.alloc (.cells #[.int .u8 10] 5)).alloc (.cells #[.int .i64 0,.int .i64 1,.int .i64 1,.int .i64 n] 112):=by
 have hz:(n==0)=false:=by simpa using h0
 have hm:min (max at' 0) 0=0:=by omega
 go_enter Tryz.func46,Tryz.ntmps46
 go_wp2_with (first|(go_at_call 85;(with_reducible refine (count_none _ _ _ (by simp)).mono ?_);rintro e' w' ⟨rfl,rfl⟩)|(go_at_call 86;(with_reducible refine (last_none _ _).mono ?_);rintro e' w' ⟨rfl,rfl⟩))
 go_ret
 exact ⟨rfl,rfl⟩
end
section
open Go.RowKit
structure NewW (w W:World)(x l c n:Int):Prop where
 below:Below w.heap.size w W
 size:w.heap.size+1<W.heap.size
 c0:W.cell? ⟨w.heap.size+1,0,none⟩=some (.int .i64 x)
 c1:W.cell? ⟨w.heap.size+1,1,none⟩=some (.int .i64 l)
 c2:W.cell? ⟨w.heap.size+1,2,none⟩=some (.int .i64 c)
 c3:W.cell? ⟨w.heap.size+1,3,none⟩=some (.int .i64 n)
theorem newW_mk (w:World)(x l c n:Int):NewW w ((w.alloc (.cells #[.int .u8 10] 5)).alloc (.cells #[.int .i64 x,.int .i64 l,.int .i64 c,.int .i64 n] 112)) x l c n :=
 { below:=((Below.refl _ _).alloc (Nat.le_refl _) _).alloc (by simp) _,size:=by simp,c0:=by simp,c1:=by simp,c2:=by simp,c3:=by simp }
def Src (w:World)(p:Option Addr)(len c:Nat)(xs:List Int):Prop :=
 xs.length=len∧(∀i,0≤xs.getD i 0∧xs.getD i 0<256)∧((len=0∧c=0)∨∃b off,p=some ⟨b,off,none⟩∧len≤c∧b<w.heap.size∧∀i,i<len→w.cell? ⟨b,off+i,none⟩=some (.int .u8 (xs.getD i 0)))
theorem Src.below {w W:World}{p:Option Addr}{len c:Nat}{xs:List Int}(h:Src w p len c xs)(hb:Below w.heap.size w W):Src W p len c xs:=by
 obtain ⟨h1,h2,h3⟩:=h
 refine ⟨h1,h2,?_⟩
 rcases h3 with h3|⟨b,off,e,hc,hl,hx⟩
 · exact Or.inl h3
 · exact Or.inr ⟨b,off,e,hc,Nat.lt_of_lt_of_le hl hb.size,fun i hi=>by rw [hb.cell (p:=⟨b,off+i,none⟩) hl];exact hx i hi⟩
theorem new_src (p:Option Addr)(len c k:Nat)(xs:List Int)(at' n:Int)(w:World)(h0:n≠0)(hb:len≤70000)(hk:min (max at' 0) (len:Int)=(k:Int))(hs:Src w p len c xs) :
 Calls Tryz.prog 46 #[.slice p len c,.int .i64 at',.int .i64 n] w fun e w'=>e=.returned (.iface 109 (.pointer (some ⟨w.heap.size+1,0,none⟩)))∧NewW w w' k (lineF xs k) ((k:Int)-lastF xs k) n:=by
 obtain ⟨h1,h2,h3⟩:=hs
 rcases h3 with ⟨rfl,rfl⟩|⟨b,off,rfl,hc,hl,hx⟩
 · obtain rfl:k=0:=by omega
   cases p with
   | none =>
    refine (new_nil at' n w h0).mono ?_
    rintro e w' ⟨rfl,rfl⟩
    exact ⟨rfl,newW_mk w _ _ _ n⟩
   | some a =>
    refine (new_none a at' n w h0).mono ?_
    rintro e w' ⟨rfl,rfl⟩
    exact ⟨rfl,newW_mk w _ _ _ n⟩
 · refine (new_at b off len c k xs at' n w h0 h1 hc hb hk h2 hx hl).mono ?_
   rintro e w' ⟨rfl,rfl⟩
   exact ⟨rfl,newW_mk w _ _ _ n⟩
end
end Go.Proofs.YthdioipfdbbmmaaGreatDoor
