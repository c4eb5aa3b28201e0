/- For every tree and every number the law PrintAny answers true. Conditions: the four variables that the row lists hold what the program's text lays (the card ties them). -/
import Derived.Test.YthdioipfdbbmmaaGreatDoorKba
import Derived.Test.YthdioipfdbbmmaaGreatDoorKbb
import Derived.Test.YthdioipfdbbmmaaGreatDoorKbd
import Derived.Lib.LaidTab
import Derived.Test.YthdioipfdbbmmaaGreatDoorCards
import Derived.Deep.DeepHandedRow
set_option linter.all false
set_option linter.all false
set_option maxRecDepth 100000
namespace Go.Proofs.YthdioipfdbbmmaaGreatDoor.printAnyP
open ChangeShapes WideShapes ChangeAt RowKit ChangeMaps
open Rows (printAnyRow printAnySpec)
theorem et {W:World}(h:laidMetH Tryz.prog printAnyRow.laid W):ET W∧PT10 W:=by
 have h':laidMet Tryz.prog [("math/bits.deBruijn32tab",Rows.laid_math_bits_deBruijn32tab),("math/bits.deBruijn64tab",Rows.laid_math_bits_deBruijn64tab),("internal/strconv.uint64pow10",Rows.laid_internal_strconv_uint64pow10)] W∧handlesMet Tryz.prog [("errors.errorType",Rows.laid_errors_errorType)] W:=h
 refine ⟨et_of_handle h'.2 (List.mem_singleton.2 rfl),?_⟩
 obtain ⟨ps,⟨_,_,_,_,_,_,_,_,_,_,⟨_,_,_,_,_,_,_,_,_,_,⟨g,t,cs,fuel,p,q,hg',ht',hvar,hd,_⟩,_⟩,_⟩,_⟩:=h'.1
 obtain rfl:=Option.some.inj ((show Tryz.prog.globalNamed "internal/strconv.uint64pow10"=some 2 by kernel_rfl).symm.trans hg')
 obtain rfl:=Option.some.inj ((show (Tryz.prog.globals[2]?).map (·.type)=some 281 by kernel_rfl).symm.trans ht')
 have hd':DataW.trod (fun _=>()) Tryz.prog W 0 (fun _=>true) false fuel 281 cs.toList=some (Lib.tabData .u64 Lib.pow10Tab,p):=hd
 show W.var? Tryz.prog "internal/strconv.uint64pow10"=_
 rw [hvar,← Lib.cells_of_tab Tryz.underlying281 Tryz.underlying249 (by kernel_rfl) (by kernel_rfl) hd']
theorem ct (H:Type)(enc:TypeId × Value→H)(W:World)(base:Nat)(args:Array Value)(ds gs:List (DataW H))(bf:List MemPlace)
 (hval:∀(j:Nat) t v,Tryz.f4.params[j]?=some t→args[j]?=some v→Value.okWide Tryz.prog W .any base t v)
 (hW:DataW.Whole enc Tryz.prog Tryz.f4.params.toList printAnySpec.vars false W args.toList ds gs bf) (hL:laidMetH Tryz.prog printAnyRow.laid W) :
 Calls Tryz.prog 4 args W fun e W'=>∃v,e=.returned v∧printAnySpec.post enc Tryz.prog Tryz.f4 false true false false W args v W':=by
 have hW':=hW
 obtain ⟨p,q,hA0,hV,rfl,hfz,hnd⟩:=hW
 have hA:DataW.TrodAll enc Tryz.prog W 0 (fun _=>true) true Tryz.f4.params.toList args.toList ds p:=hA0
 rw [Tryz.params4] at hA hval
 obtain ⟨v0,v1,d0,d1,p0,p1,rfl,rfl,rfl,h0,h1⟩:=trodAll_two hA
 obtain ⟨rfl,rfl⟩:=trodVars_none hV
 obtain ⟨cs0,rfl,_⟩:=okWide_struct Tryz.underlying39 (hval 0 39 v0 rfl rfl)
 have k0:=h0
 have lt0:∀x∈p0,x.block<W.heap.size:=by obtain ⟨m,hm⟩:=k0;exact DataW.trod_lt m _ _ _ hm
 obtain ⟨fuel0,hf0⟩:=h0
 obtain ⟨a0,len0,cap0,ns0,e0,hT0⟩:=Tr.open_tv hf0
 have q0:cs0=#[.slice a0 len0 cap0]:=by
  rw [← Array.toList_inj];exact e0
 subst q0
 obtain ⟨i1,rfl,rfl,rfl,wi1⟩:=open_int Tryz.underlying3 (hval 1 3 v1 rfl rfl) h1
 clear hA0
 refine (printAny W a0 len0 cap0 ns0 hT0 (et hL).1 (et hL).2 i1).mono fun e W' ⟨he,bel⟩=>?_
 subst he
 exact ⟨_,rfl,_,_,_,[],_,[],hW',trodAll_mk1 (shut_bool Tryz.underlying4 _),trodAll_mk2 (Below.trod laidOut (by kernel_rfl) (of_decide_eq_true (by kernel_rfl)) k0 bel lt0) (shut_int Tryz.underlying3 wi1),rfl,bel.frame _,fun h=>by cases h⟩
noncomputable def tW (os:Os):World :=
 { errWorld os with heap := (((errWorld os).heap.modify 2 fun
         | .cells _ t r=>.cells ((Lib.pow10Tab.map fun z=>Value.int .u64 z).toArray) t r
         | o=>o).modify 3 fun
         | .cells _ t r=>.cells (([0,1,28,2,29,14,24,3,30,22,20,15,25,17,4,8,31,27,13,23,21,19,16,7,26,12,18,6,11,5,10,9]:List Int).map fun z=>Value.int .u8 z).toArray t r
         | o=>o).modify 4 fun
         | .cells _ t r=>.cells (([0,1,56,2,57,49,28,3,61,58,42,50,38,29,17,4,62,47,59,36,45,43,51,22,53,39,33,30,24,18,12,5,63,55,48,27,60,41,37,16,46,35,44,21,52,32,23,11,54,26,40,15,34,20,31,10,25,14,19,9,13,8,7,6]:List Int).map fun z=>Value.int .u8 z).toArray t r
         | o=>o }
theorem lm (os:Os)(args:Array Value):laidMetH Tryz.prog printAnyRow.laid ((tW os).forCall (fun _ _=>0) ⟨#[],args,[]⟩).memory :=
 laidMetH_of_parts (laidMet_of_run' 8 (by kernel_rfl) (by kernel_rfl)) (by kernel_rfl)
theorem rd (os:Os){H:Type}(enc:TypeId × Value→H):∃pl,DataW.whole enc Tryz.prog ((tW os).forCall (fun _ _=>0) ⟨#[],#[.agg #[.slice none 0 0],.int .i64 0],[]⟩).memory Tryz.f4.params.toList printAnySpec.vars false (#[.agg #[.slice none 0 0],.int .i64 0]:Array Value).toList 8=some ([.agg [.nil],.lit (.int .i64 0)],[],pl) :=
 ⟨[],by kernel_rfl⟩
theorem lf (os:Os)(sd:os.Started)(H:Type)(enc:TypeId × Value→H)(F:Stop.Interp) :
 ReturnsInHanded {} Tryz.checked os 4 .any ((OpenSpec.ofChange printAnySpec).preRow enc Tryz.prog Tryz.f4 printAnyRow.domain false printAnyRow.laid) (((OpenSpec.ofChange printAnySpec).at F).post enc Tryz.prog Tryz.f4 false true false false):=by
 obtain ⟨pl,hx⟩:=rd os enc
 refine returnsInHanded_of_row (C:=Tryz.checked) (s:=OpenSpec.ofChange printAnySpec) own sd (by kernel_rfl) Tryz.func4
  (witness_row_at (enc:=enc) (C:=Tryz.checked) false (tW os) #[.agg #[.slice none 0 0],.int .i64 0] rfl (by kernel_rfl) (by kernel_rfl) (by kernel_rfl)
   (OpenSpec.preRow_of_cond 8 hx (by kernel_rfl) (fun k hk=>by cases hk) (by kernel_rfl) (lm os _))) ?_
 intro W base args ds gs bf hval hW _ _ _ hL _ _
 exact ct H enc W base args ds gs bf hval hW hL
theorem said:Rows.PrintAnySaid :=
 OpenClaim.holds_of_cond 4 Tryz.f4 rfl rfl rfl rfl rfl rfl rfl ⟨rfl,rfl,rfl,rfl,rfl⟩ rfl rfl rfl rfl rfl (by kernel_rfl) Tryz.func4 Fx.cl
  (of_decide_eq_true (by kernel_rfl)) (by unfold Func.isWrapper;first|(rw [if_pos (by decide +kernel)];kernel_rfl)|(rw [if_neg (by decide +kernel)];exact ⟨rfl,rfl⟩))
  (fun os sd H enc _ F=>by rw [OpenClaim.pre_eq_preRow];exact lf os sd H enc F)
theorem plain (f:FuncId)(fn:Func)(hf:Tryz.pinned.checked.prog.funcNamed "interlock/interlocklaw06.PrintAny"=some f)(hfn:Tryz.pinned.checked.prog.funcs[f]?=some fn) :
 true=Tryz.pinned.checked.prog.looks []∧∀(j:Nat) t,fn.params[j]?=some t→Tryz.pinned.checked.prog.wantsStandIn t=false:=by
 obtain rfl:f=4:=Option.some.inj ((show Tryz.prog.funcNamed "interlock/interlocklaw06.PrintAny"=some 4 by kernel_rfl).symm.trans hf) |>.symm
 obtain rfl:fn=Tryz.f4:=(Option.some.inj (Tryz.func4.symm.trans hfn)).symm
 refine ⟨by kernel_rfl,fun j t ht=>?_⟩
 rw [Tryz.params4] at ht
 have hm:=Array.mem_of_getElem? ht
 simp at hm
 rcases hm with rfl|rfl
 · exact (show Tryz.prog.wantsStandIn 39=false by kernel_rfl)
 · exact (show Tryz.prog.wantsStandIn 3=false by kernel_rfl)
theorem card:Rows.PrintAnyCardSaid :=
 Claim7.holds_tied_plain_at .later [] _ _ _ _ said (fun _ h=>by cases h) (by kernel_rfl) (fun _ h=>by cases h) printAny_row_tie rfl ⟨rfl,rfl⟩ (by kernel_rfl) rfl plain (by kernel_rfl)
end Go.Proofs.YthdioipfdbbmmaaGreatDoor.printAnyP
