/- Contracts. -/
import Derived.Test.YthdioipfdbbmmaaGreatDoorKah
import Derived.Test.YthdioipfdbbmmaaGreatDoorKal
import Derived.Test.YthdioipfdbbmmaaGreatDoorRows
import Derived.ProofKit
import Derived.OpenShut
import Derived.RowKit
import Derived.ReadAgain
import Derived.ChangeAt
import Derived.ChangeShapes
import Derived.WideShapes
import Derived.ChangeSlices
import Derived.ChangeArms
import Derived.Test.YthdioipfdbbmmaaGreatDoorTie
import Derived.ShutString
import Derived.ChangeOld
import Derived.LaidMore
import Derived.LaidHandle
import Derived.MakeChecks
set_option linter.all false
set_option maxRecDepth 1000000
set_option maxHeartbeats 16000000
namespace Go.Proofs.YthdioipfdbbmmaaGreatDoor
namespace Tr
open Go.ChangeShapes Go.WideShapes Go.ChangeAt Go.RowKit
theorem addr_plain {W:World}{a:Addr}{v:Value}(h:W.cell? a=some v):a=⟨a.block,a.off,none⟩:=by
 obtain ⟨b,o,s⟩:=a
 cases s with
 | none=>rfl
 | some x =>
  unfold World.cell? at h
  split at h<;>simp_all
theorem add_plain (b o i:Nat):(⟨b,o,none⟩:Addr).add i=⟨b,o+i,none⟩:=by
 unfold Addr.add
 split
 · rename_i h;subst h;rfl
 · rfl
section
variable {H:Type}{enc:TypeId × Value→H}{W:World}{fuel:Nat}{cs:List Value}{x:DataW H × List MemPlace}
theorem open_iv (h:DataW.trod enc Tryz.prog W 0 (fun _=>true) true fuel 32 cs=some x):∃p l c xs,cs=[.slice p l c]∧IV W p l c xs:=by
 rcases open_ints Tryz.underlying32 Tryz.underlying3 (by kernel_rfl) h with ⟨rfl,_⟩|⟨a,len,cap,zs,rfl,_,h2,_,h4,_,h6,_⟩
 · exact ⟨none,0,0,[],rfl,rfl,Nat.le_refl _,fun h=>absurd h (by omega)⟩
 · simp only [if_true] at h4
   refine ⟨some a,len,cap,zs.take len,rfl,by rw [List.length_take];omega,h2,fun hl=>?_⟩
   have h0:=h6 0 (by omega)
   have ha:a=⟨a.block,a.off,none⟩:=by
    have:a.add 0=a:=rfl
    rw [this] at h0
    exact addr_plain h0
   refine ⟨a.block,a.off,by rw [← ha],?_,fun i hi=>?_⟩
   · have:a.add 0=a:=rfl
     rw [this] at h0
     exact World.block_lt_of_cell? W a h0
   · have h1:=h6 i (by omega)
     rw [ha,add_plain] at h1
     rw [h1]
     congr 2
     simp [List.getD,hi]
theorem open_nd (h:DataW.trod enc Tryz.prog W 0 (fun _=>true) true fuel 54 cs=some x):∃(nd:Nd) (kp:Option Addr) (kl kc:Nat),cs=[.int .u8 nd.kind,.int .i64 nd.at',.string nd.text,.int .i64 nd.n,.slice kp kl kc]∧IV W kp kl kc nd.kids:=by
 obtain ⟨xs,n,_,rfl,hl,hlen,hf⟩:=DataW.trod_struct Tryz.underlying54 h
 have hc:Tryz.prog.cellsOf 54=5:=by kernel_rfl
 rw [hc] at hl
 have c5:Tryz.prog.cellsOf 5=1:=by kernel_rfl
 have c3:Tryz.prog.cellsOf 3=1:=by kernel_rfl
 have c9:Tryz.prog.cellsOf 9=1:=by kernel_rfl
 have c2:Tryz.prog.cellsOf 2=1:=by kernel_rfl
 have c35:Tryz.prog.cellsOf 32=1:=by kernel_rfl
 match cs,hl with
 | [a0,a1,a2,a3,a4],_ =>
  match xs,hlen with
  | [y0,y1,y2,y3,y4],_ =>
   have f0:DataW.trod enc Tryz.prog W 0 (fun _=>true) true n 5 [a0]=some y0:=by simpa [c5] using hf 0 { name := "Kind",type:=5,offset:=0,embedded:=false,tag := "",pkgPath := "",byteOffset:=0 } rfl
   have f1:DataW.trod enc Tryz.prog W 0 (fun _=>true) true n 3 [a1]=some y1:=by simpa [c3] using hf 1 { name := "At",type:=3,offset:=1,embedded:=false,tag := "",pkgPath := "",byteOffset:=8 } rfl
   have f2:DataW.trod enc Tryz.prog W 0 (fun _=>true) true n 9 [a2]=some y2:=by simpa [c9] using hf 2 { name := "Text",type:=9,offset:=2,embedded:=false,tag := "",pkgPath := "",byteOffset:=16 } rfl
   have f3:DataW.trod enc Tryz.prog W 0 (fun _=>true) true n 2 [a3]=some y3:=by simpa [c2] using hf 3 { name := "N",type:=2,offset:=3,embedded:=false,tag := "",pkgPath := "",byteOffset:=32 } rfl
   have f4:DataW.trod enc Tryz.prog W 0 (fun _=>true) true n 32 [a4]=some y4:=by simpa [c35] using hf 4 { name := "Kids",type := 32,offset:=4,embedded:=false,tag := "",pkgPath := "",byteOffset:=40 } rfl
   obtain ⟨v0,e0,_,_⟩:=DataW.trod_int Tryz.underlying5 f0
   obtain ⟨v1,e1,_,_⟩:=DataW.trod_int Tryz.underlying3 f1
   obtain ⟨v2,e2,_,_⟩:=DataW.trod_string Tryz.underlying9 f2
   obtain ⟨v3,e3,_,_⟩:=DataW.trod_int Tryz.underlying2 f3
   obtain ⟨p,l,c,ks,e4,h4⟩:=open_iv f4
   simp only [List.cons.injEq,and_true] at e0 e1 e2 e3 e4
   subst e0 e1 e2 e3 e4
   exact ⟨⟨v0,v1,v2,v3,ks⟩,p,l,c,rfl,h4⟩
theorem open_tv (h:DataW.trod enc Tryz.prog W 0 (fun _=>true) true fuel 39 cs=some x):∃p len c ns,cs=[.slice p len c]∧TV W p len c ns:=by
 obtain ⟨y0,n,rfl,hl,h0⟩:=trod_struct1 Tryz.underlying39 h
 have hc:Tryz.prog.cellsOf 39=1:=by kernel_rfl
 have hc22:Tryz.prog.cellsOf 37=1:=by kernel_rfl
 have hc37:Tryz.prog.cellsOf 54=5:=by kernel_rfl
 rw [hc] at hl
 match cs,hl with
 | [a0],_ =>
  simp only [hc22,List.drop_zero,List.take_succ_cons,List.take_zero] at h0
  rcases DataW.trod_slice Tryz.underlying37 h0 with ⟨e,_⟩|⟨a,len,cap,elems,rest,m,_,e,_,_,h2,_,h4,h5,_,_⟩
  · simp only [List.cons.injEq,and_true] at e
    subst e
    exact ⟨none,0,0,[],rfl,rfl,Nat.le_refl _,fun h=>absurd h (by omega)⟩
  · simp only [List.cons.injEq,and_true] at e
    subst e
    have each:∀i,i<len→∃(nd:Nd) (kp:Option Addr) (kl kc:Nat),IV W kp kl kc nd.kids∧∀j v,j<5→[Value.int .u8 nd.kind,.int .i64 nd.at',.string nd.text,.int .i64 nd.n,.slice kp kl kc][j]?=some v→W.cell? ((a.add (i*5)).add j)=some v:=by
     intro i hi
     have h6:=h5 i hi
     rw [hc37] at h6
     have hi2:i<elems.length:=by omega
     rw [List.getElem?_eq_getElem hi2,Option.bind_eq_some_iff] at h6
     obtain ⟨cs',h7,h8⟩:=h6
     obtain ⟨nd,kp,kl,kc,rfl,h9⟩:=open_nd h8
     obtain ⟨_,_,h10⟩:=World.cells?_some h7
     exact ⟨nd,kp,kl,kc,h9,fun j v hj hv=>by rw [h10 j hj,hv]⟩
    have pick:∀i,∃nd:Nd,i<len→∃kp kl kc,IV W kp kl kc nd.kids∧∀j v,j<5→[Value.int .u8 nd.kind,.int .i64 nd.at',.string nd.text,.int .i64 nd.n,.slice kp kl kc][j]?=some v→W.cell? ((a.add (i*5)).add j)=some v:=by
     intro i
     by_cases hi:i<len
     · obtain ⟨nd,h⟩:=each i hi
       exact ⟨nd,fun _=>h⟩
     · exact ⟨default,fun h=>absurd h hi⟩
    obtain ⟨f,hf⟩:∃f:Nat→Nd,∀i,i<len→∃kp kl kc,IV W kp kl kc (f i).kids∧∀j v,j<5→[Value.int .u8 (f i).kind,.int .i64 (f i).at',.string (f i).text,.int .i64 (f i).n,.slice kp kl kc][j]?=some v→W.cell? ((a.add (i*5)).add j)=some v:=⟨fun i=>Classical.choose (pick i),fun i=>Classical.choose_spec (pick i)⟩
    refine ⟨some a,len,cap,(List.range len).map f,rfl,by simp,h2,fun hl=>?_⟩
    have ha:a=⟨a.block,a.off,none⟩∧a.block<W.heap.size:=by
     obtain ⟨kp,kl,kc,_,h7⟩:=hf 0 hl
     have h8:=h7 0 _ (by omega) rfl
     have e:(a.add (0*5)).add 0=a:=by simp [Addr.add]
     rw [e] at h8
     exact ⟨addr_plain h8,World.block_lt_of_cell? W a h8⟩
    refine ⟨a.block,a.off,by rw [← ha.1],ha.2,fun i hi=>?_⟩
    have e:((List.range len).map f).getD i default=f i:=by simp [List.getD,hi]
    rw [e]
    obtain ⟨kp,kl,kc,h7,h8⟩:=hf i hi
    have hc:∀j v,j<5→[Value.int .u8 (f i).kind,.int .i64 (f i).at',.string (f i).text,.int .i64 (f i).n,.slice kp kl kc][j]?=some v→W.cell? ⟨a.block,a.off+i*5+j,none⟩=some v:=by
     intro j v hj hv
     have h9:=h8 j v hj hv
     rw [ha.1,add_plain,add_plain] at h9
     exact h9
    exact ⟨kp,kl,kc,hc 0 _ (by omega) rfl,hc 1 _ (by omega) rfl,hc 2 _ (by omega) rfl,hc 3 _ (by omega) rfl,hc 4 _ (by omega) rfl,h7⟩
end
theorem own:ownKnob Tryz.prog.godebug=none:=by kernel_rfl
theorem kidsK:Kids Tryz.prog (·<Tryz.prog.types.size):=kids_rows (by kernel_rfl) (by kernel_rfl)
end Tr
section
open Go.ChangeShapes Go.WideShapes Go.ChangeAt Go.RowKit
theorem own:ownKnob Tryz.prog.godebug=none:=by kernel_rfl
theorem laidOut:laidOutB Tryz.prog=true:=by kernel_rfl
theorem gErr:Tryz.prog.globalNamed "errors.errorType"=some 0:=by kernel_rfl
theorem rtErr:(Tryz.prog.cutTypes.find? (·.1 == "internal/reflectlite.rtype")).map (·.2)=some 229:=by kernel_rfl
theorem oneErr:((List.range 350).filter fun t=>Tryz.prog.rowNamed t [101,114,114,111,114])=[25]:=by kernel_rfl
theorem sizeTypes:Tryz.prog.types.size=350:=by kernel_rfl
theorem et_of_handle {W:World}{l:List (String × DataW Unit)}(h:handlesMet Tryz.prog l W)(hm:("errors.errorType",Rows.laid_errors_errorType)∈l):ET W:=by
 obtain ⟨name,u,ty,e1,e2,e3,e4,e5⟩:=h _ hm
 have en:name=[101,114,114,111,114]:=(Option.some.inj e1).symm
 subst en
 obtain rfl:=Option.some.inj (rtErr.symm.trans e2)
 have hm:ty∈(List.range 350).filter fun t=>Tryz.prog.rowNamed t [101,114,114,111,114]:=List.mem_filter.2 ⟨List.mem_range.2 (by rw [← sizeTypes];exact e3),e4⟩
 rw [oneErr] at hm
 obtain rfl:=List.mem_singleton.1 hm
 have hh:typeHandle Tryz.prog 25=.pointer (some ⟨5, 25,none⟩):=by kernel_rfl
 rw [hh] at e5
 simpa using World.var?_cell gErr e5 0
noncomputable def errWorld (os:Os):World :=
 { World.holding Tryz.prog os ⟨#[], #[], []⟩ with heap := (World.holding Tryz.prog os ⟨#[], #[], []⟩).heap.modify 0 fun
     | .cells _ t frozen=>.cells #[.iface 229 (.agg #[.pointer (some ⟨5, 25,none⟩)])] t frozen
     | o=>o }
end
end Go.Proofs.YthdioipfdbbmmaaGreatDoor
