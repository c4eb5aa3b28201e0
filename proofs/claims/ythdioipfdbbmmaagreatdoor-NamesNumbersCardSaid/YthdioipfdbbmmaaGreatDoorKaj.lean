/- Contracts. -/
import Derived.Test.YthdioipfdbbmmaaGreatDoorKad
import Derived.Test.YthdioipfdbbmmaaGreatDoorKai
set_option linter.all false
set_option maxRecDepth 1000000
set_option maxHeartbeats 16000000
namespace Go.Proofs.YthdioipfdbbmmaaGreatDoor
namespace Nm
open Tr
structure Rt (ns:List Nd)(S:Nat→Nat):Prop where
 sz:RightSz (kidsAt ns) S ns.length
 s0:S 0=ns.length
 pos:0<ns.length
 shape:∀i,i<ns.length→kidsR (nd ns i).kind (kindsOf ns (nd ns i))=true
 word:∀i,i<ns.length→wordsR (nd ns i)=true
 root:(nd ns 0).kind=1
theorem rt_of {ns:List Nd}(h:rightP ns=true)(hl:∀nd∈ns,nd.kids.length≤9223372036854775807):∃S,Rt ns S:=by
 have h2:=h
 rw [right_eq ns hl] at h2
 unfold rightP at h
 unfold sizesP at h
 cases hs:sizesL (rowsOf ns) 0 with
 | none=>simp [hs] at h
 | some s =>
  simp only [hs] at h
  by_cases hc:s.length≠0∧s.getD 0 0=s.length
  · have hr:=sizesL_right hs
    have e1:(rowsOf ns).length=ns.length:=by simp [rowsOf]
    have e2:(fun i=>(rowsOf ns).getD i [])=kidsAt ns:=by
     funext i
     unfold rowsOf kidsAt
     by_cases hi:i<ns.length
     · simp [List.getD,hi]
     · simp [List.getD,hi];rfl
    rw [e1,e2] at hr
    unfold rightR at h2
    simp only [Bool.and_eq_true,decide_eq_true_eq,List.all_eq_true,beq_iff_eq] at h2
    obtain ⟨p1,p2,p3,p4,p5⟩:=h2
    refine ⟨fun i=>s.getD i 0,hr,?_,p1,?_,?_,p2⟩
    · have:=RightSz.endK hr ns.length 0 p1 (by omega)
      rw [p4] at this
      omega
    · intro i hi
      have:=p5 (nd ns i) (by unfold nd;simp [List.getD,hi])
      unfold nodeR at this
      simp only [Bool.and_eq_true] at this
      exact this.2.2.2
    · intro i hi
      have:=p5 (nd ns i) (by unfold nd;simp [List.getD,hi])
      unfold nodeR at this
      simp only [Bool.and_eq_true] at this
      exact this.2.2.1
  · rw [if_neg hc] at h
    cases h
section
variable {ns:List Nd}{S:Nat→Nat}
theorem Rt.kids (h:Rt ns S){i:Nat}(hi:i<ns.length){k:Int}(hk:k∈(nd ns i).kids):∃j:Nat,k=(j:Int)∧i<j∧j<ns.length:=by
 obtain ⟨j,h1,h2,_,h4⟩:=h.sz.kid hi (k:=k) hk
 exact ⟨j,h1,h2,h4⟩
theorem Rt.kidOf (h:Rt ns S){i:Nat}(hi:i<ns.length){j:Nat}(hj:j<(nd ns i).kids.length):(nd ns i).kids.getD j 0=(kid ns i j:Int)∧i<kid ns i j∧kid ns i j<ns.length:=by
 obtain ⟨x,h1,h2,h3⟩:=h.kids hi (k:=(nd ns i).kids.getD j 0) (by simp [List.getD,hj])
 unfold Nm.kid
 rw [h1]
 simp only [Int.toNat_natCast]
 exact ⟨trivial,h2,h3⟩
theorem Rt.isr (h:Rt ns S){l want:List Int}(hr:isR l want=true):l.length=want.length∧∀j,j<want.length→if want.getD j 0=0 then isExprK (l.getD j 0)=true else l.getD j 0=want.getD j 0:=by
 unfold Tr.isR at hr
 simp only [Bool.and_eq_true,decide_eq_true_eq,List.all_eq_true] at hr
 refine ⟨hr.1,fun j hj=>?_⟩
 have hl:j<l.length:=by omega
 have:=hr.2 (l.getD j 0,want.getD j 0) (by
  rw [List.mem_iff_getElem]
  exact ⟨j,by simp;omega,by simp [List.getD,hl,hj]⟩)
 simp only at this
 split at this
 · rename_i h0
   rw [if_pos h0];exact this
 · rename_i h0
   rw [if_neg h0];simpa using this
theorem kindsOf_len (ns:List Nd)(x:Nd):(kindsOf ns x).length=x.kids.length:=by simp [kindsOf]
theorem kindsOf_get (ns:List Nd)(i j:Nat)(hj:j<(nd ns i).kids.length):(kindsOf ns (nd ns i)).getD j 0=(nd ns (kid ns i j)).kind:=by
 unfold kindsOf kindAt Nm.kid
 show ((nd ns i).kids.map fun k=>(nd ns k.toNat).kind).getD j 0=_
 simp [List.getD,hj]
def For (S:Nat→Nat)(n:Nat):Nat→Nat→Nat→Prop
 | 0,i,e=>i=e
 | l+1,i,e=>i<n∧For S n l (i+S i) e
theorem For.app {n:Nat}{e f:Nat}:∀(a:Nat) (b i:Nat),For S n a i e→For S n b e f→For S n (a+b) i f
 | 0,b,i,h,h2=>by
  have:i=e:=h
  subst this
  simpa using h2
 | a+1,b,i,h,h2=>by
  rw [show a+1+b=(a+b)+1 by omega]
  exact ⟨h.1,For.app a b _ h.2 h2⟩
theorem chain_for {n:Nat}:∀(ks:List Int) (a e:Nat),Chain S n ks a e→For S n ks.length a e
 | [],_,_,h=>h
 | k::ks,a,e,h=>⟨h.2.1,chain_for ks _ e h.2.2⟩
theorem Rt.step (h:Rt ns S){i l e:Nat}(hf:For S ns.length (l+1) i e):i<ns.length∧For S ns.length (l+(nd ns i).kids.length) (i+1) e:=by
 refine ⟨hf.1,?_⟩
 rw [Nat.add_comm]
 exact For.app _ _ _ (chain_for _ _ _ (h.sz.chain i hf.1)) hf.2
theorem Rt.for_le (h:Rt ns S):∀(l i e:Nat),For S ns.length l i e→i≤ns.length→i+l≤e∧e≤ns.length
 | 0,i,e,hf,hi=>by
  have:i=e:=hf
  omega
 | l+1,i,e,hf,hi=>by
  have h1:=h.sz.size i hf.1
  have:=Rt.for_le h l _ _ hf.2 h1.2
  omega
theorem Rt.one (h:Rt ns S){i:Nat}(hi:i<ns.length):For S ns.length 1 i (i+S i):=⟨hi,rfl⟩
end
end Nm
namespace Nm
open Tr
def ItOk (ns:List Nd):Item→Prop
 | none=>True
 | some i=>0<i∧i<ns.length∧((nd ns i).kind=6∨7≤(nd ns i).kind∧(nd ns i).kind≤19)
def wt (S:Nat→Nat):Item→Nat
 | none=>1
 | some i=>2*S i
def meas (S:Nat→Nat)(l:List Item):Nat:=(l.map (wt S)).sum
def ends (l:List Item):Nat:=l.countP (fun x=>x.isNone)
theorem meas_app (S:Nat→Nat)(a b:List Item):meas S (a++b)=meas S a+meas S b:=by simp [meas]
theorem ends_app (a b:List Item):ends (a++b)=ends a+ends b:=by simp [ends]
section
variable {ns:List Nd}{S:Nat→Nat}{tabs:List Tb}
theorem Rt.meas_kids (h:Rt ns S){i:Nat}(hi:i<ns.length):meas S (kidsOf ns i)+2=2*S i:=by
 have:=h.sz.sum hi
 have e:meas S (kidsOf ns i)=2*((kidsAt ns i).map fun k=>S k.toNat).sum:=by
  unfold meas kidsOf
  show (((kidsAt ns i).map _).map _).sum=_
  generalize kidsAt ns i=l
  induction l with
  | nil=>rfl
  | cons k l ih=>simp only [List.map_cons,List.sum_cons,wt];rw [ih];omega
 omega
theorem kinds_ends (ns:List Nd)(i:Nat):ends (kidsOf ns i)=0:=by
 unfold ends kidsOf
 rw [List.countP_eq_zero]
 intro x hx
 obtain ⟨k,_,rfl⟩:=List.mem_map.1 hx
 simp
theorem Rt.kidKind (h:Rt ns S){i:Nat}(hi:i<ns.length){x:Item}(hx:x∈kidsOf ns i):∃j,x=some j∧i<j∧j<ns.length∧(nd ns j).kind∈kindsOf ns (nd ns i):=by
 obtain ⟨k,hk,rfl⟩:=List.mem_map.1 hx
 obtain ⟨j,h1,h2,h3⟩:=h.kids hi hk
 subst h1
 exact ⟨j,by simp,h2,h3,List.mem_map.2 ⟨(j:Int),hk,by simp [kindAt,nd]⟩⟩
theorem Rt.block_kids (h:Rt ns S){i:Nat}(hi:i<ns.length)(hk:(nd ns i).kind=6):∀x∈kidsOf ns i,ItOk ns x:=by
 intro x hx
 obtain ⟨j,rfl,h1,h2,h3⟩:=h.kidKind hi hx
 have hs:=h.shape i hi
 rw [hk] at hs
 have:(kindsOf ns (nd ns i)).all isStmtK=true:=by simpa [kidsR] using hs
 have:=List.all_eq_true.1 this _ h3
 unfold isStmtK at this
 simp only [Bool.and_eq_true,decide_eq_true_eq] at this
 exact ⟨by omega,h2,Or.inr this⟩
theorem Rt.if_kids (h:Rt ns S){i:Nat}(hi:i<ns.length)(hk:(nd ns i).kind=14):2<(nd ns i).kids.length∧(∀x∈(kidsOf ns i).drop 2,ItOk ns x)∧(∀j,j<2→isExprK (nd ns (kid ns i j)).kind=true):=by
 have hs:=h.shape i hi
 rw [hk] at hs
 have hs:(Tr.isR (kindsOf ns (nd ns i)) [0,0,6]||Tr.isR (kindsOf ns (nd ns i)) [0,0,6,6])=true:=by simpa [kidsR] using hs
 have key:∃want:List Int,(want=[0,0,6]∨want=[0,0,6,6])∧Tr.isR (kindsOf ns (nd ns i)) want=true:=by
  rcases Bool.or_eq_true_iff.1 hs with h1|h1
  · exact ⟨_,Or.inl rfl,h1⟩
  · exact ⟨_,Or.inr rfl,h1⟩
 obtain ⟨want,hw,h1⟩:=key
 obtain ⟨hl,hg⟩:=h.isr h1
 rw [kindsOf_len] at hl
 have hw2:2<want.length∧∀j,j<want.length→2≤j→want.getD j 0=6:=by
  rcases hw with rfl|rfl
  · refine ⟨by simp,fun j h1 h2=>?_⟩
    have h1:j<3:=h1
    obtain rfl:j=2:=by omega
    rfl
  · refine ⟨by simp,fun j h1 h2=>?_⟩
    have h1:j<4:=h1
    have:j=2∨j=3:=by omega
    rcases this with rfl|rfl<;>rfl
 refine ⟨by omega,?_,?_⟩
 · intro x hx
   obtain ⟨j,hj,rfl⟩:=List.getElem_of_mem hx
   rw [List.length_drop] at hj
   have hkl:(kidsOf ns i).length=(nd ns i).kids.length:=by simp [kidsOf]
   have hj2:2+j<(nd ns i).kids.length:=by omega
   have e:((kidsOf ns i).drop 2)[j]'(by rw [List.length_drop];omega)=some (kid ns i (2+j)):=by
    simp [kidsOf,Nm.kid,List.getD,hj2]
   rw [e]
   obtain ⟨_,b1,b2⟩:=h.kidOf hi hj2
   have hk6:=hg (2+j) (by omega)
   rw [hw2.2 (2+j) (by omega) (by omega)] at hk6
   rw [kindsOf_get ns i _ hj2] at hk6
   exact ⟨by omega,b2,Or.inl (by simpa using hk6)⟩
 · intro j hj
   have h0:=hg j (by omega)
   rw [kindsOf_get ns i _ (by omega)] at h0
   have:want.getD j 0=0:=by
    rcases hw with rfl|rfl
    · have:j=0∨j=1:=by omega
      rcases this with rfl|rfl<;>rfl
    · have:j=0∨j=1:=by omega
      rcases this with rfl|rfl<;>rfl
   rw [if_pos this] at h0
   exact h0
theorem Rt.want (h:Rt ns S){i:Nat}(hi:i<ns.length){want:List Int}(hr:Tr.isR (kindsOf ns (nd ns i)) want=true):(nd ns i).kids.length=want.length∧∀j,j<want.length→i<kid ns i j∧kid ns i j<ns.length∧(nd ns i).kids.getD j 0=(kid ns i j:Int)∧if want.getD j 0=0 then isExprK (nd ns (kid ns i j)).kind=true else (nd ns (kid ns i j)).kind=want.getD j 0:=by
 obtain ⟨hl,hg⟩:=h.isr hr
 rw [kindsOf_len] at hl
 refine ⟨hl,fun j hj=>?_⟩
 obtain ⟨e,b1,b2⟩:=h.kidOf hi (j:=j) (by omega)
 have:=hg j hj
 rw [kindsOf_get ns i _ (by omega)] at this
 exact ⟨b1,b2,e,this⟩
def SameE (s t:St):Prop:=t.envs.length=s.envs.length
theorem declare_len {i:Nat}{l:Bool}{s t:St}(h:declare ns i l s=.ok t)(hs:0<s.envs.length):SameE s t:=by
 unfold declare at h
 split at h
 · cases h
 · cases h
   unfold SameE
   simp;omega
theorem assign_len {i:Nat}{s t:St}(h:assign ns i s=.ok t)(hs:0<s.envs.length):SameE s t:=by
 unfold assign at h
 split at h
 · exact declare_len h hs
 · split at h
   · cases h
   · cases h;rfl
theorem tableOf_len {i x:Nat}{s t:St}(h:tableOf ns tabs i s=.ok (x,t)):SameE s t:=by
 unfold tableOf at h
 split at h
 · cases h
 · cases h;rfl
theorem column_len {i x:Nat}{s t:St}(h:column ns tabs i x s=.ok t):SameE s t:=by
 unfold column at h
 split at h
 · cases h
 · cases h;rfl
theorem expr_len:∀(f i l:Nat) {s t:St},expr ns f i l s=.ok t→SameE s t
 | 0,_,_,_,_,h=>by cases h
 | f+1,i,0,s,t,h=>by cases h;rfl
 | f+1,i,l+1,s,t,h=>by
  simp only [expr] at h
  split at h
  · split at h
    · cases h
    · exact (expr_len f _ _ h).trans rfl
  · exact expr_len f _ _ h
end
end Nm
end Go.Proofs.YthdioipfdbbmmaaGreatDoor
