/- Contracts. -/
import Derived.Test.YthdioipfdbbmmaaGreatDoorHab
import Derived.Test.YthdioipfdbbmmaaGreatDoorHag
import Derived.Defers
import Derived.Recover
import Derived.BigRegion
import Derived.Below
set_option linter.all false
set_option maxRecDepth 1000000
set_option maxHeartbeats 16000000
namespace Go.Proofs.YthdioipfdbbmmaaGreatDoor
section
open Go.RowKit Go.Extern.Stop Go.Stop Go.Extern
theorem as23 (t:Addr)(v old:Value)(j:Int)(n:Nat)(a:Addr)(W:World)(hp:Path W true (.iface 45 (.int .i64 j)) v n)
 (ha:W.cell? a=some (.pointer (some t))) (ht0:W.cell? t=some old) (hf0:W.frozen? t=false) :
 Calls Tryz.prog 109 #[v,.iface 108 (.pointer (some t)),.agg #[.pointer (some ⟨5, 108,none⟩),.pointer (some a),.int .u64 150],.iface 229 (.agg #[.pointer (some ⟨5, 45,none⟩)])] W
  fun ev w'=>ev=.returned (.bool true)∧w'=((W.alloc (.cells #[.pointer (some ⟨5, 108,none⟩),.pointer (some a),.int .u64 150] 172)).alloc (.cells #[.int .i64 j] 45)).setCell t (.int .i64 j):=by
 have h23:=@run_callFunc_extern Tryz.prog 174 _ ReflectliteType.typeOf Tryz.func174 (by kernel_rfl) (by kernel_rfl) (by kernel_rfl) (by kernel_rfl)
 have h86:=@run_callFunc_extern Tryz.prog 318 _ (ReflectliteType.relation "AssignableTo" ReflectliteType.assignableTo) Tryz.func318 (by kernel_rfl) (by kernel_rfl) (by kernel_rfl) (by kernel_rfl)
 have h40:=@run_callFunc_extern Tryz.prog 175 _ (ReflectliteValue.method (ReflectliteValue.valueError "reflectlite.Value.Elem" 0) ReflectliteValue.elem) Tryz.func175 (by kernel_rfl) (by kernel_rfl) (by kernel_rfl) (by kernel_rfl)
 have h41:=@run_callFunc_extern Tryz.prog 176 _ ReflectliteValue.set Tryz.func176 (by kernel_rfl) (by kernel_rfl) (by kernel_rfl) (by kernel_rfl)
 have h29:=@run_callFunc_extern Tryz.prog 106 _ (fun args=>ReflectliteValue.unpack (args.getD 0 (.tuple #[]))) Tryz.func106 (by kernel_rfl) (by kernel_rfl) (by kernel_rfl) (by kernel_rfl)
 have t23:=typeOf23
 have t45:=typeOf45
 have a23:=assign23_23
 have a45:=assign45_23
 have v23:=valueOf23
 have n45:=no_as45
 have u45:=un45
 have hal:=cell_lt ha
 have htl:=cell_lt ht0
 have el:=elemV49 a t (W.alloc (.cells #[.pointer (some ⟨5, 108,none⟩),.pointer (some a),.int .u64 150] 172)) (by rw [World.cell?_alloc_lt _ _ a hal];exact ha)
 have st:=set23 t ⟨W.heap.size+1,0,none⟩ j old ((W.alloc (.cells #[.pointer (some ⟨5, 108,none⟩),.pointer (some a),.int .u64 150] 172)).alloc (.cells #[.int .i64 j] 45))
  (by rw [World.cell?_alloc_at _ _ _ _ (by simp)];rfl)
  (by rw [World.cell?_alloc_lt _ _ t (by simp;omega),World.cell?_alloc_lt _ _ t htl];exact ht0)
  (by rw [World.frozen?_alloc_old _ _ t (by simp;omega),World.frozen?_alloc_old _ _ t (Nat.ne_of_lt htl)];exact hf0)
 go_enter Tryz.func109,Tryz.ntmps109
 go_wp2
 go_loop [0] (fun v=>∃n,Path W true (.iface 45 (.int .i64 j)) v n) (fun v=>far W true (.iface 45 (.int .i64 j)) v)
 case atStart=>exact ⟨n,hp⟩
 case round =>
  obtain ⟨m,hm⟩:=hrel
  cases hm with
  | here =>
   go_wp2
   go_ret
   exact ⟨rfl,rfl⟩
  | err B i k hb hc hq =>
   have hbl:=cell_lt hc
   have hc1:(W.alloc (.cells #[.pointer (some ⟨5, 108,none⟩),.pointer (some a),.int .u64 150] 172)).cell? ⟨B,3,none⟩=some (.int .i64 i):=by rw [World.cell?_alloc_lt _ _ _ hbl];exact hc
   have HF:Hid (far W true (.iface 45 (.int .i64 j)) (.iface 109 (.pointer (some ⟨B,0,none⟩)))=k+1):=lh (far_eq (by simp) (.err B i k hb hc hq))
   have HG:Hid (far W true (.iface 45 (.int .i64 j)) (.iface 45 (.int .i64 i))=k):=lh (far_eq (by simp) hq)
   go_wp2_with (go_at_call 313;(with_reducible refine (unwrap45 _ _ _ hc1).mono ?_);rintro e' w' ⟨rfl,rfl⟩)
   go_round
   case rel=>exact ⟨k,hq⟩
   case measure=>rw [HF.out,HG.out];omega
end
section
open Go.RowKit Go.Extern.Stop Go.Stop Go.Extern
theorem As45 (e t:Addr)(T:TypeId)(x old:Value)(n:Nat)(w:World)(hg:w.cell? ⟨0,0,none⟩=some (.iface 229 (.agg #[.pointer (some ⟨5, 25,none⟩)])))(hp:Path w false (.iface 109 (.pointer (some e))) (.iface T x) n)(ht0:w.cell? t=some old)(hf0:w.frozen? t=false) :
 Calls Tryz.prog 61 #[.iface T x,.iface 110 (.pointer (some t))] w fun ev w'=>ev=.returned (.bool true)∧w'=((((w.alloc (.cells #[.pointer (some t)] 110)).alloc (.cells #[.pointer (some ⟨5, 110,none⟩),.pointer (some ⟨w.heap.size,0,none⟩),.int .u64 150] 172)).alloc (.cells #[.pointer (some ⟨5, 110,none⟩),.pointer (some ⟨w.heap.size,0,none⟩),.int .u64 150] 172)).alloc (.cells #[.pointer (some e)] 109)).setCell t (.pointer (some e)):=by
 have h29:=@run_callFunc_extern Tryz.prog 106 _ (fun args=>ReflectliteValue.unpack (args.getD 0 (.tuple #[]))) Tryz.func106 (by kernel_rfl) (by kernel_rfl) (by kernel_rfl) (by kernel_rfl)
 have h30:=@run_callFunc_extern Tryz.prog 107 _ (ReflectliteValue.methodAny (ReflectliteValue.valueError "reflectlite.Value.Type" 0) (fun t _ _ _=>ReflectliteType.toType t)) Tryz.func107 (by kernel_rfl) (by kernel_rfl) (by kernel_rfl) (by kernel_rfl)
 have h31:=@run_callFunc_extern Tryz.prog 108 _ (ReflectliteValue.method (ReflectliteValue.valueError "reflectlite.Value.IsNil" 0) ReflectliteValue.isNil) Tryz.func108 (by kernel_rfl) (by kernel_rfl) (by kernel_rfl) (by kernel_rfl)
 have h69:=@run_callFunc_extern Tryz.prog 308 _ (ReflectliteType.abiMethod fun t=>do pure (.int .u8 (← Rtype.kind t))) Tryz.func308 (by kernel_rfl) (by kernel_rfl) (by kernel_rfl) (by kernel_rfl)
 have h88:=@run_callFunc_extern Tryz.prog 320 _ (ReflectliteType.method ReflectliteType.elem) Tryz.func320 (by kernel_rfl) (by kernel_rfl) (by kernel_rfl) (by kernel_rfl)
 have h89:=@run_callFunc_extern Tryz.prog 321 _ (ReflectliteType.relation "Implements" ReflectliteType.implements_) Tryz.func321 (by kernel_rfl) (by kernel_rfl) (by kernel_rfl) (by kernel_rfl)
 have f6:=valueOf50
 have f7:=type50
 have k27:=kind50
 have k25:=kind45
 have e27:=elem50
 have i25:=implements45
 have hlt:=cell_lt hg
 have n8:=isNil50 ⟨w.heap.size,0,none⟩ t ((w.alloc (.cells #[.pointer (some t)] 110)).alloc (.cells #[.pointer (some ⟨5, 110,none⟩),.pointer (some ⟨w.heap.size,0,none⟩),.int .u64 150] 172)) (by simp)
 have hg2:((w.alloc (.cells #[.pointer (some t)] 110)).alloc (.cells #[.pointer (some ⟨5, 110,none⟩),.pointer (some ⟨w.heap.size,0,none⟩),.int .u64 150] 172)).cell? ⟨0,0,none⟩=some (.iface 229 (.agg #[.pointer (some ⟨5, 25,none⟩)])):=by
  rw [World.cell?_alloc_lt _ _ ⟨0,0,none⟩ (by simp),World.cell?_alloc_lt _ _ ⟨0,0,none⟩ hlt];exact hg
 have ha2:((w.alloc (.cells #[.pointer (some t)] 110)).alloc (.cells #[.pointer (some ⟨5, 110,none⟩),.pointer (some ⟨w.heap.size,0,none⟩),.int .u64 150] 172)).cell? ⟨w.heap.size,0,none⟩=some (.pointer (some t)):=by simp
 have hp2:Path ((w.alloc (.cells #[.pointer (some t)] 110)).alloc (.cells #[.pointer (some ⟨5, 110,none⟩),.pointer (some ⟨w.heap.size,0,none⟩),.int .u64 150] 172)) false (.iface 109 (.pointer (some e))) (.iface T x) n:=path_world (fun B o h=>by
  obtain ⟨v,hv⟩:=Option.isSome_iff_exists.1 h
  rw [World.cell?_alloc_lt _ _ ⟨B,o,none⟩ (by have:=cell_lt hv;simp at this ⊢;omega),World.cell?_alloc_lt _ _ ⟨B,o,none⟩ (cell_lt hv)]) hp
 have HP:=lh hp2
 clear hp2 hp
 have htl:=cell_lt ht0
 have ht2:((w.alloc (.cells #[.pointer (some t)] 110)).alloc (.cells #[.pointer (some ⟨5, 110,none⟩),.pointer (some ⟨w.heap.size,0,none⟩),.int .u64 150] 172)).cell? t=some old:=by rw [World.cell?_alloc_lt _ _ t (by simp;omega),World.cell?_alloc_lt _ _ t htl];exact ht0
 have hf2:((w.alloc (.cells #[.pointer (some t)] 110)).alloc (.cells #[.pointer (some ⟨5, 110,none⟩),.pointer (some ⟨w.heap.size,0,none⟩),.int .u64 150] 172)).frozen? t=false:=by rw [World.frozen?_alloc_old _ _ t (by simp;omega),World.frozen?_alloc_old _ _ t (Nat.ne_of_lt htl)];exact hf0
 go_enter Tryz.func61,Tryz.ntmps61
 go_wp2_with (go_at_call 109;(with_reducible refine (as45 e t _ old n _ _ HP.out ha2 ht2 hf2).mono ?_);rintro e' w' ⟨rfl,rfl⟩)
 go_ret
 exact ⟨rfl,rfl⟩
theorem As23 (t:Addr)(T:TypeId)(x old:Value)(j:Int)(n:Nat)(w:World)(hg:w.cell? ⟨0,0,none⟩=some (.iface 229 (.agg #[.pointer (some ⟨5, 25,none⟩)])))(hp:Path w true (.iface 45 (.int .i64 j)) (.iface T x) n)(ht0:w.cell? t=some old)(hf0:w.frozen? t=false) :
 Calls Tryz.prog 61 #[.iface T x,.iface 108 (.pointer (some t))] w fun ev w'=>ev=.returned (.bool true)∧w'=((((w.alloc (.cells #[.pointer (some t)] 108)).alloc (.cells #[.pointer (some ⟨5, 108,none⟩),.pointer (some ⟨w.heap.size,0,none⟩),.int .u64 150] 172)).alloc (.cells #[.pointer (some ⟨5, 108,none⟩),.pointer (some ⟨w.heap.size,0,none⟩),.int .u64 150] 172)).alloc (.cells #[.int .i64 j] 45)).setCell t (.int .i64 j):=by
 have h29:=@run_callFunc_extern Tryz.prog 106 _ (fun args=>ReflectliteValue.unpack (args.getD 0 (.tuple #[]))) Tryz.func106 (by kernel_rfl) (by kernel_rfl) (by kernel_rfl) (by kernel_rfl)
 have h30:=@run_callFunc_extern Tryz.prog 107 _ (ReflectliteValue.methodAny (ReflectliteValue.valueError "reflectlite.Value.Type" 0) (fun t _ _ _=>ReflectliteType.toType t)) Tryz.func107 (by kernel_rfl) (by kernel_rfl) (by kernel_rfl) (by kernel_rfl)
 have h31:=@run_callFunc_extern Tryz.prog 108 _ (ReflectliteValue.method (ReflectliteValue.valueError "reflectlite.Value.IsNil" 0) ReflectliteValue.isNil) Tryz.func108 (by kernel_rfl) (by kernel_rfl) (by kernel_rfl) (by kernel_rfl)
 have h69:=@run_callFunc_extern Tryz.prog 308 _ (ReflectliteType.abiMethod fun t=>do pure (.int .u8 (← Rtype.kind t))) Tryz.func308 (by kernel_rfl) (by kernel_rfl) (by kernel_rfl) (by kernel_rfl)
 have h88:=@run_callFunc_extern Tryz.prog 320 _ (ReflectliteType.method ReflectliteType.elem) Tryz.func320 (by kernel_rfl) (by kernel_rfl) (by kernel_rfl) (by kernel_rfl)
 have h89:=@run_callFunc_extern Tryz.prog 321 _ (ReflectliteType.relation "Implements" ReflectliteType.implements_) Tryz.func321 (by kernel_rfl) (by kernel_rfl) (by kernel_rfl) (by kernel_rfl)
 have f6:=valueOf49
 have f7:=type49
 have k27:=kind49
 have k25:=kind23
 have e27:=elem49
 have i25:=implements23
 have hlt:=cell_lt hg
 have n8:=isNil49 ⟨w.heap.size,0,none⟩ t ((w.alloc (.cells #[.pointer (some t)] 108)).alloc (.cells #[.pointer (some ⟨5, 108,none⟩),.pointer (some ⟨w.heap.size,0,none⟩),.int .u64 150] 172)) (by simp)
 have hg2:((w.alloc (.cells #[.pointer (some t)] 108)).alloc (.cells #[.pointer (some ⟨5, 108,none⟩),.pointer (some ⟨w.heap.size,0,none⟩),.int .u64 150] 172)).cell? ⟨0,0,none⟩=some (.iface 229 (.agg #[.pointer (some ⟨5, 25,none⟩)])):=by
  rw [World.cell?_alloc_lt _ _ ⟨0,0,none⟩ (by simp),World.cell?_alloc_lt _ _ ⟨0,0,none⟩ hlt];exact hg
 have ha2:((w.alloc (.cells #[.pointer (some t)] 108)).alloc (.cells #[.pointer (some ⟨5, 108,none⟩),.pointer (some ⟨w.heap.size,0,none⟩),.int .u64 150] 172)).cell? ⟨w.heap.size,0,none⟩=some (.pointer (some t)):=by simp
 have hp2:Path ((w.alloc (.cells #[.pointer (some t)] 108)).alloc (.cells #[.pointer (some ⟨5, 108,none⟩),.pointer (some ⟨w.heap.size,0,none⟩),.int .u64 150] 172)) true (.iface 45 (.int .i64 j)) (.iface T x) n:=path_world (fun B o h=>by
  obtain ⟨v,hv⟩:=Option.isSome_iff_exists.1 h
  rw [World.cell?_alloc_lt _ _ ⟨B,o,none⟩ (by have:=cell_lt hv;simp at this ⊢;omega),World.cell?_alloc_lt _ _ ⟨B,o,none⟩ (cell_lt hv)]) hp
 have HP:=lh hp2
 clear hp2 hp
 have htl:=cell_lt ht0
 have ht2:((w.alloc (.cells #[.pointer (some t)] 108)).alloc (.cells #[.pointer (some ⟨5, 108,none⟩),.pointer (some ⟨w.heap.size,0,none⟩),.int .u64 150] 172)).cell? t=some old:=by rw [World.cell?_alloc_lt _ _ t (by simp;omega),World.cell?_alloc_lt _ _ t htl];exact ht0
 have hf2:((w.alloc (.cells #[.pointer (some t)] 108)).alloc (.cells #[.pointer (some ⟨5, 108,none⟩),.pointer (some ⟨w.heap.size,0,none⟩),.int .u64 150] 172)).frozen? t=false:=by rw [World.frozen?_alloc_old _ _ t (by simp;omega),World.frozen?_alloc_old _ _ t (Nat.ne_of_lt htl)];exact hf0
 go_enter Tryz.func61,Tryz.ntmps61
 go_wp2_with (go_at_call 109;(with_reducible refine (as23 t _ old j n _ _ HP.out ha2 ht2 hf2).mono ?_);rintro e' w' ⟨rfl,rfl⟩)
 go_ret
 exact ⟨rfl,rfl⟩
end
section
open Go.RowKit
theorem placeDone (p q r s:Addr)(w:World) :
 CallsD Tryz.prog 62 #[.pointer (some p),.pointer (some q),.pointer (some r),.pointer (some s)] .returning w fun e u' w'=>e=.returned (.tuple #[])∧u'=.returning∧w'=w:=by
 refine callsD_of_wpS Tryz.func62 rfl fun c₀ cs hu=>?_
 apply wpS_seq
 apply wpS_region
 simp [wpOpsS,go_sem,recoverD,hu,Tryz.ntmps62,Exit.thenS]
 refine wpS_cond (t:=false) (by simp [Act.eval,Array.replicate]) ?_
 simp only [Bool.false_eq_true,if_false]
 refine wpS_of_wp (wp_skip ?_)
 cases c₀
 simp_all [bodyPostS,results,Tryz.results62]
theorem codeDone (p:Addr)(w:World) :
 CallsD Tryz.prog 60 #[.pointer (some p)] .returning w fun e u' w'=>e=.returned (.tuple #[])∧u'=.returning∧w'=w:=by
 refine callsD_of_wpS Tryz.func60 rfl fun c₀ cs hu=>?_
 apply wpS_seq
 apply wpS_region
 simp [wpOpsS,go_sem,recoverD,hu,Tryz.ntmps60,Exit.thenS]
 refine wpS_cond (t:=false) (by simp [Act.eval,Array.replicate]) ?_
 simp only [Bool.false_eq_true,if_false]
 refine wpS_of_wp (wp_skip ?_)
 cases c₀
 simp_all [bodyPostS,results,Tryz.results60]
theorem code_nil (w:World) :
 Calls Tryz.prog 25 #[.nilIface] w fun e w'=>e=.returned (.int .i64 0)∧w'=w.alloc (.cells #[.int .i64 0] 45):=by
 go_enter_defers Tryz.func25,Tryz.ntmps25
 go_wp2
 simp [bodyPostD,Leaves,results,Tryz.results25,go_sem]
theorem code_in (T:TypeId)(x:Value)(j:Int)(n:Nat)(w:World)(hg:w.cell? ⟨0,0,none⟩=some (.iface 229 (.agg #[.pointer (some ⟨5, 25,none⟩)])))(hp:Path w true (.iface 45 (.int .i64 j)) (.iface T x) n) :
 Calls Tryz.prog 25 #[.iface T x] w fun e w'=>e=.returned (.int .i64 j)∧Below w.heap.size w w':=by
 have hmf:∀(fn:Fn) (first cap:Array Value) (w:World),(Instr.makeFunc fn first cap).run Tryz.prog w=.ok (.func fn first cap) w:=fun _ _ _ _=>rfl
 have hlt:=cell_lt hg
 have hg2:((w.alloc (.cells #[.int .i64 0] 45)).alloc (.cells #[.int .i64 0] 45)).cell? ⟨0,0,none⟩=some (.iface 229 (.agg #[.pointer (some ⟨5, 25,none⟩)])):=by
  rw [World.cell?_alloc_lt _ _ ⟨0,0,none⟩ (by simp),World.cell?_alloc_lt _ _ ⟨0,0,none⟩ hlt];exact hg
 have hp2:Path ((w.alloc (.cells #[.int .i64 0] 45)).alloc (.cells #[.int .i64 0] 45)) true (.iface 45 (.int .i64 j)) (.iface T x) n:=path_world (fun B o h=>by
  obtain ⟨v,hv⟩:=Option.isSome_iff_exists.1 h
  rw [World.cell?_alloc_lt _ _ ⟨B,o,none⟩ (by have:=cell_lt hv;simp at this ⊢;omega),World.cell?_alloc_lt _ _ ⟨B,o,none⟩ (cell_lt hv)]) hp
 have HP:=lh hp2
 clear hp2 hp
 have H:=As23 ⟨w.heap.size+1,0,none⟩ T x (.int .i64 0) j n _ hg2 HP.out (by simp) (by simp)
 clear hg2 hg
 go_enter_defers Tryz.func25,Tryz.ntmps25
 go_wp2_with (go_at_call 61;(with_reducible refine H.mono ?_);rintro e' w' ⟨rfl,rfl⟩)
 refine leaves_cons (f := 60) (args:=#[.pointer (some ⟨w.heap.size,0,none⟩)]) (by simp) (by simp [go_sem]) ?_
 refine (codeDone ⟨w.heap.size,0,none⟩ _).mono ?_
 rintro e u' w'' ⟨rfl,rfl,rfl⟩
 simp [Leaves,settle,results,Tryz.results25,go_sem]
 exact ((((((Below.refl _ _).alloc (Nat.le_refl _) _).alloc (by simp) _).alloc (by simp;omega) _).alloc (by simp;omega) _).alloc (by simp;omega) _).alloc (by simp;omega) _
end
section
open Go.RowKit
structure Aft (w W:World)(B:Nat)(a l c:Int):Prop where
 t:W.cell? ⟨w.heap.size+1+1+1+1,0,none⟩=some (.pointer (some ⟨B,0,none⟩))
 e0:W.cell? ⟨B,0,none⟩=some (.int .i64 a)
 e1:W.cell? ⟨B,1,none⟩=some (.int .i64 l)
 e2:W.cell? ⟨B,2,none⟩=some (.int .i64 c)
 r0:W.cell? ⟨w.heap.size,0,none⟩=some (.int .i64 0)
 r1:W.cell? ⟨w.heap.size+1,0,none⟩=some (.int .i64 0)
 r2:W.cell? ⟨w.heap.size+1+1,0,none⟩=some (.int .i64 0)
 r3:W.cell? ⟨w.heap.size+1+1+1,0,none⟩=some (.bool false)
 f0:W.frozen? ⟨w.heap.size,0,none⟩=false
 f1:W.frozen? ⟨w.heap.size+1,0,none⟩=false
 f2:W.frozen? ⟨w.heap.size+1+1,0,none⟩=false
 f3:W.frozen? ⟨w.heap.size+1+1+1,0,none⟩=false
 below:Below w.heap.size w W
theorem place_in (B:Nat)(T:TypeId)(x:Value)(a l c:Int)(n:Nat)(w:World)(hg:w.cell? ⟨0,0,none⟩=some (.iface 229 (.agg #[.pointer (some ⟨5, 25,none⟩)])))(hp:Path w false (.iface 109 (.pointer (some ⟨B,0,none⟩))) (.iface T x) n)
 (h0:w.cell? ⟨B,0,none⟩=some (.int .i64 a)) (h1:w.cell? ⟨B,1,none⟩=some (.int .i64 l)) (h2:w.cell? ⟨B,2,none⟩=some (.int .i64 c)) :
 Calls Tryz.prog 26 #[.iface T x] w fun e w'=>e=.returned (.tuple #[.int .i64 a,.int .i64 l,.int .i64 c,.bool true])∧Below w.heap.size w w':=by
 have hmf:∀(fn:Fn) (first cap:Array Value) (w:World),(Instr.makeFunc fn first cap).run Tryz.prog w=.ok (.func fn first cap) w:=fun _ _ _ _=>rfl
 have hlt:=cell_lt hg
 have hg2:(((((w.alloc (.cells #[.int .i64 0] 3)).alloc (.cells #[.int .i64 0] 3)).alloc (.cells #[.int .i64 0] 3)).alloc (.cells #[.bool false] 4)).alloc (.cells #[.pointer none] 109)).cell? ⟨0,0,none⟩=some (.iface 229 (.agg #[.pointer (some ⟨5, 25,none⟩)])):=by
  rw [World.cell?_alloc_lt _ _ ⟨0,0,none⟩ (by simp),World.cell?_alloc_lt _ _ ⟨0,0,none⟩ (by simp),World.cell?_alloc_lt _ _ ⟨0,0,none⟩ (by simp),World.cell?_alloc_lt _ _ ⟨0,0,none⟩ (by simp),World.cell?_alloc_lt _ _ ⟨0,0,none⟩ hlt];exact hg
 have hp2:Path (((((w.alloc (.cells #[.int .i64 0] 3)).alloc (.cells #[.int .i64 0] 3)).alloc (.cells #[.int .i64 0] 3)).alloc (.cells #[.bool false] 4)).alloc (.cells #[.pointer none] 109)) false (.iface 109 (.pointer (some ⟨B,0,none⟩))) (.iface T x) n:=path_world (fun B o h=>by
  obtain ⟨v,hv⟩:=Option.isSome_iff_exists.1 h
  have hb:=cell_lt hv
  simp only at hb
  rw [World.cell?_alloc_lt _ _ ⟨B,o,none⟩ (by simp;omega),World.cell?_alloc_lt _ _ ⟨B,o,none⟩ (by simp;omega),World.cell?_alloc_lt _ _ ⟨B,o,none⟩ (by simp;omega),World.cell?_alloc_lt _ _ ⟨B,o,none⟩ (by simp;omega),World.cell?_alloc_lt _ _ ⟨B,o,none⟩ hb]) hp
 have HP:=lh hp2
 clear hp2 hp
 have ht2:(((((w.alloc (.cells #[.int .i64 0] 3)).alloc (.cells #[.int .i64 0] 3)).alloc (.cells #[.int .i64 0] 3)).alloc (.cells #[.bool false] 4)).alloc (.cells #[.pointer none] 109)).cell? ⟨w.heap.size+1+1+1+1,0,none⟩=some (.pointer none):=by go_simp
 have hf2:(((((w.alloc (.cells #[.int .i64 0] 3)).alloc (.cells #[.int .i64 0] 3)).alloc (.cells #[.int .i64 0] 3)).alloc (.cells #[.bool false] 4)).alloc (.cells #[.pointer none] 109)).frozen? ⟨w.heap.size+1+1+1+1,0,none⟩=false:=by go_simp
 have H:=As45 ⟨B,0,none⟩ ⟨w.heap.size+1+1+1+1,0,none⟩ T x (.pointer none) n _ hg2 HP.out ht2 hf2
 clear hg2 hg ht2 hf2
 have hB:B<w.heap.size:=cell_lt h0
 have H':=H.mono (R':=fun ev w'=>ev=.returned (.bool true)∧Aft w w' B a l c) (by
  rintro ev w' ⟨rfl,rfl⟩
  have hb:Below w.heap.size w ((((((((((w.alloc (.cells #[.int .i64 0] 3)).alloc (.cells #[.int .i64 0] 3)).alloc (.cells #[.int .i64 0] 3)).alloc (.cells #[.bool false] 4)).alloc (.cells #[.pointer none] 109)).alloc (.cells #[.pointer (some ⟨w.heap.size+1+1+1+1,0,none⟩)] 110)).alloc (.cells #[.pointer (some ⟨5, 110,none⟩),.pointer (some ⟨w.heap.size+1+1+1+1+1,0,none⟩),.int .u64 150] 172)).alloc (.cells #[.pointer (some ⟨5, 110,none⟩),.pointer (some ⟨w.heap.size+1+1+1+1+1,0,none⟩),.int .u64 150] 172)).alloc (.cells #[.pointer (some ⟨B,0,none⟩)] 109)).setCell ⟨w.heap.size+1+1+1+1,0,none⟩ (.pointer (some ⟨B,0,none⟩))) :=
   ((((((((((Below.refl _ _).alloc (Nat.le_refl _) _).alloc (by simp) _).alloc (by simp;omega) _).alloc (by simp;omega) _).alloc (by simp;omega) _).alloc (by simp;omega) _).alloc (by simp;omega) _).alloc (by simp;omega) _).alloc (by simp;omega) _).setCell (by simp;omega) _
  refine ⟨rfl,?_⟩
  simp only [World.size_alloc]
  exact { t:=by go_simp,e0:=by rw [hb.cell (p:=⟨B,0,none⟩) hB];exact h0,e1:=by rw [hb.cell (p:=⟨B,1,none⟩) hB];exact h1,e2:=by rw [hb.cell (p:=⟨B,2,none⟩) hB];exact h2,r0:=by go_simp,r1:=by go_simp,r2:=by go_simp,r3:=by go_simp,f0:=by go_simp,f1:=by go_simp,f2:=by go_simp,f3:=by go_simp,below:=hb })
 clear H HP h0 h1 h2
 go_enter_defers Tryz.func26,Tryz.ntmps26
 go_wp2_with (go_at_call 61;(with_reducible refine H'.mono ?_);rintro e' w' ⟨rfl,hA⟩;obtain ⟨qt,q0,q1,q2,z0,z1,z2,z3,y0,y1,y2,y3,hbl⟩:=hA)
 clear H'
 go_region
 clear qt q0 q1 q2
 go_wp2
 refine leaves_cons (f := 62) (args:=#[.pointer (some ⟨w.heap.size,0,none⟩),.pointer (some ⟨w.heap.size+1,0,none⟩),.pointer (some ⟨w.heap.size+1+1,0,none⟩),.pointer (some ⟨w.heap.size+1+1+1,0,none⟩)]) (by simp) (by simp [go_sem]) ?_
 refine (placeDone _ _ _ _ _).mono ?_
 rintro e u' w'' ⟨rfl,rfl,rfl⟩
 simp [Leaves,settle,results,Tryz.results26,go_sem,z0,z1,z2,z3]
 exact ((((hbl.setCell (Nat.le_refl w.heap.size) _).setCell (show w.heap.size≤w.heap.size+1 by omega) _).setCell (show w.heap.size≤w.heap.size+1+1 by omega) _).setCell (show w.heap.size≤w.heap.size+1+1+1 by omega) _).drew
end
end Go.Proofs.YthdioipfdbbmmaaGreatDoor
