/- Contracts. -/
import Derived.Test.YthdioipfdbbmmaaGreatDoorKah
import Derived.Test.YthdioipfdbbmmaaGreatDoorKar
import Derived.Lib.Hide
set_option linter.all false
set_option maxRecDepth 1000000
set_option maxHeartbeats 16000000
namespace Go.Proofs.YthdioipfdbbmmaaGreatDoor
section
open Go.RowKit Go.Extern.Stop Go.Stop Go.Extern
inductive Path (W:World)(b:Bool)(u:Value):Value→Nat→Prop
 | here:Path W b u u 0
 | err (B:Nat) (k:Int) (n:Nat):b=true→W.cell? ⟨B,3,none⟩=some (.int .i64 k)→Path W b u (.iface 45 (.int .i64 k)) n→Path W b u (.iface 109 (.pointer (some ⟨B,0,none⟩))) (n+1)
open Classical in
noncomputable def far (W:World)(b:Bool)(u v:Value):Nat:=if h:∃n,Path W b u v n then h.choose else 0
theorem path_same {W:World}{b:Bool}{u v:Value}(hb:b=true→∀x,u≠.iface 109 x){n m:Nat}(h:Path W b u v n)(h':Path W b u v m):n=m:=by
 induction h generalizing m with
 | here=>cases h' with
  | here=>rfl
  | err _ _ _ e=>exact absurd rfl (hb e _)
 | err B k n e hc _ ih=>cases h' with
  | here=>exact absurd rfl (hb e _)
  | err _ k' n' e' hc' hp' =>
   rw [hc] at hc'
   obtain rfl:k=k':=by simpa using hc'
   rw [ih hp']
theorem far_eq {W:World}{b:Bool}{u v:Value}(hb:b=true→∀x,u≠.iface 109 x){n:Nat}(h:Path W b u v n):far W b u v=n:=by
 have e:∃n,Path W b u v n:=⟨n,h⟩
 unfold far
 rw [dif_pos e]
 exact path_same hb e.choose_spec h
theorem path_world {W W':World}{b:Bool}{u v:Value}{n:Nat}(hc:∀B o,(W.cell? ⟨B,o,none⟩).isSome→W'.cell? ⟨B,o,none⟩=W.cell? ⟨B,o,none⟩)(h:Path W b u v n):Path W' b u v n:=by
 induction h with
 | here=>exact .here
 | err B k n e h1 _ ih=>exact .err B k n e (by rw [hc _ _ (by rw [h1];rfl),h1]) ih
theorem cell_lt {W:World}{a:Addr}{v:Value}(h:W.cell? a=some v):a.block<W.heap.size:=by
 rcases Nat.lt_or_ge a.block W.heap.size with h1|h1
 · exact h1
 · simp [World.cell?,Array.getElem?_eq_none h1] at h
theorem no_as45 (v:Value)(w:World):(Instr.typeAssert (.iface 109 v) 25 234 true).run Tryz.prog w=.ok (.tuple #[.nilIface,.bool false]) w:=run_typeAssert_lacksB (P:=Tryz.prog) (t := 109) (z:=.nilIface) Tryz.underlying234 (by kernel_rfl) (by kernel_rfl) v 25 w
theorem un45 (v:Value)(w:World):(Instr.typeAssert (.iface 109 v) 25 237 true).run Tryz.prog w=.ok (.tuple #[.iface 109 v,.bool true]) w:=run_typeAssert_hasB (P:=Tryz.prog) (t := 109) Tryz.underlying237 (by kernel_rfl) v 25 w
theorem unwrap45 (B:Nat)(k:Int)(w:World)(hc:w.cell? ⟨B,3,none⟩=some (.int .i64 k)) :
 Calls Tryz.prog 313 #[.pointer (some ⟨B,0,none⟩)] w fun e w'=>e=.returned (.iface 45 (.int .i64 k))∧w=w':=by
 go_enter Tryz.func313,Tryz.ntmps313
 go_wp2
 go_ret
 exact ⟨rfl,rfl⟩
end
section
open Go.RowKit Go.Extern.Stop Go.Stop Go.Extern
theorem as23 (t:Addr)(v old:Value)(j:Int)(n:Nat)(a:Addr)(W:World)(hp:Path W true (.iface 45 (.int .i64 j)) v n)
 (ha:W.cell? a=some (.pointer (some t))) (ht0:W.cell? t=some old) (hf0:W.frozen? t=false) :
 Calls Tryz.prog 109 #[v,.iface 108 (.pointer (some t)),.agg #[.pointer (some ⟨5, 108,none⟩),.pointer (some a),.int .u64 150],.iface 229 (.agg #[.pointer (some ⟨5, 45,none⟩)])] W
  fun ev w'=>ev=.returned (.bool true)∧w'=((W.alloc (.cells #[.pointer (some ⟨5, 108,none⟩),.pointer (some a),.int .u64 150] 172)).alloc (.cells #[.int .i64 j] 45)).setCell t (.int .i64 j):=by
 have h23:=@run_callFunc_extern Tryz.prog 174 _ ReflectliteType.typeOf Tryz.func174 (by kernel_rfl) (by kernel_rfl) (by kernel_rfl) (by kernel_rfl)
 have h86:=@run_callFunc_extern Tryz.prog 318 _ (ReflectliteType.relation "AssignableTo" ReflectliteType.assignableTo) Tryz.func318 (by kernel_rfl) (by kernel_rfl) (by kernel_rfl) (by kernel_rfl)
 have h40:=@run_callFunc_extern Tryz.prog 175 _ (ReflectliteValue.method (ReflectliteValue.valueError "reflectlite.Value.Elem" 0) ReflectliteValue.elem) Tryz.func175 (by kernel_rfl) (by kernel_rfl) (by kernel_rfl) (by kernel_rfl)
 have h41:=@run_callFunc_extern Tryz.prog 176 _ ReflectliteValue.set Tryz.func176 (by kernel_rfl) (by kernel_rfl) (by kernel_rfl) (by kernel_rfl)
 have h29:=@run_callFunc_extern Tryz.prog 106 _ (fun args=>ReflectliteValue.unpack (args.getD 0 (.tuple #[]))) Tryz.func106 (by kernel_rfl) (by kernel_rfl) (by kernel_rfl) (by kernel_rfl)
 have t23:=typeOf23
 have t45:=typeOf45
 have a23:=assign23_23
 have a45:=assign45_23
 have v23:=valueOf23
 have n45:=no_as45
 have u45:=un45
 have hal:=cell_lt ha
 have htl:=cell_lt ht0
 have el:=elemV49 a t (W.alloc (.cells #[.pointer (some ⟨5, 108,none⟩),.pointer (some a),.int .u64 150] 172)) (by rw [World.cell?_alloc_lt _ _ a hal];exact ha)
 have st:=set23 t ⟨W.heap.size+1,0,none⟩ j old ((W.alloc (.cells #[.pointer (some ⟨5, 108,none⟩),.pointer (some a),.int .u64 150] 172)).alloc (.cells #[.int .i64 j] 45))
  (by rw [World.cell?_alloc_at _ _ _ _ (by simp)];rfl)
  (by rw [World.cell?_alloc_lt _ _ t (by simp;omega),World.cell?_alloc_lt _ _ t htl];exact ht0)
  (by rw [World.frozen?_alloc_old _ _ t (by simp;omega),World.frozen?_alloc_old _ _ t (Nat.ne_of_lt htl)];exact hf0)
 go_enter Tryz.func109,Tryz.ntmps109
 go_wp2
 go_loop [0] (fun v=>∃n,Path W true (.iface 45 (.int .i64 j)) v n) (fun v=>far W true (.iface 45 (.int .i64 j)) v)
 case atStart=>exact ⟨n,hp⟩
 case round =>
  obtain ⟨m,hm⟩:=hrel
  cases hm with
  | here =>
   go_wp2
   go_ret
   exact ⟨rfl,rfl⟩
  | err B i k hb hc hq =>
   have hbl:=cell_lt hc
   have hc1:(W.alloc (.cells #[.pointer (some ⟨5, 108,none⟩),.pointer (some a),.int .u64 150] 172)).cell? ⟨B,3,none⟩=some (.int .i64 i):=by rw [World.cell?_alloc_lt _ _ _ hbl];exact hc
   have HF:Hid (far W true (.iface 45 (.int .i64 j)) (.iface 109 (.pointer (some ⟨B,0,none⟩)))=k+1):=lh (far_eq (by simp) (.err B i k hb hc hq))
   have HG:Hid (far W true (.iface 45 (.int .i64 j)) (.iface 45 (.int .i64 i))=k):=lh (far_eq (by simp) hq)
   go_wp2_with (go_at_call 313;(with_reducible refine (unwrap45 _ _ _ hc1).mono ?_);rintro e' w' ⟨rfl,rfl⟩)
   go_round
   case rel=>exact ⟨k,hq⟩
   case measure=>rw [HF.out,HG.out];omega
end
end Go.Proofs.YthdioipfdbbmmaaGreatDoor
