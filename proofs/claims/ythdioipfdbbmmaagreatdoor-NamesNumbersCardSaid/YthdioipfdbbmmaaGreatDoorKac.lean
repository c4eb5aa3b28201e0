/- Contracts. -/
import Derived.Test.YthdioipfdbbmmaaGreatDoorKaa
import Derived.Test.YthdioipfdbbmmaaGreatDoorKab
set_option linter.all false
set_option maxRecDepth 1000000
set_option maxHeartbeats 16000000
namespace Go.Proofs.YthdioipfdbbmmaaGreatDoor
namespace Tr
structure Nd where
 kind:Int
 at':Int
 text:ByteArray
 n:Int
 kids:List Int
instance:Inhabited Nd:=⟨⟨0,0,⟨#[]⟩,0,[]⟩⟩
def isExprK (k:Int):Bool:=decide (21≤k)&&decide (k≤26)
def isStmtK (k:Int):Bool:=decide (7≤k)&&decide (k≤19)
inductive Fit where
 | of (ks:List Int)
 | stmt
 | expr
 deriving DecidableEq
def Fit.f:Fit→Int→Bool
 | .of ks,k=>ks.any fun x=>k==x
 | .stmt,k=>isStmtK k
 | .expr,k=>isExprK k
theorem Fit.f_of (ks:List Int):(Fit.of ks).f=fun k=>ks.any fun x=>k==x:=rfl
theorem Fit.f_stmt:Fit.stmt.f=isStmtK:=rfl
theorem Fit.f_expr:Fit.expr.f=isExprK:=rfl
structure Part where
 fit:Fit
 least:Nat
 most:Nat
 deriving DecidableEq
def Part.one (f:Fit):Part:=⟨f,1,1⟩
def Part.maybe (f:Fit):Part:=⟨f,0,1⟩
def Part.many (f:Fit):Part:=⟨f,0,9223372036854775807⟩
def Part.takes (p:Part)(l:List Int):Nat:=run p.fit.f (l.take p.most)
def inTurnP:List Part→List Int→Bool
 | [],l=>l.isEmpty
 | p::ps,l=>decide (p.least≤p.takes l)&&inTurnP ps (l.drop (p.takes l))
structure Rule where
 named:Bool
 most:Int
 parts:List Part
 deriving DecidableEq
abbrev pW:Part:=.one (.of [5])
abbrev pR:Part:=.one (.of [20])
abbrev pB:Part:=.one (.of [6])
abbrev pE:Part:=.one .expr
abbrev pN:Part:=.one (.of [21])
def ruleT:List (Int × Rule) :=
 [(1,⟨false,0,[.many (.of [2,3])]⟩),(2,⟨true,0,[pW,.many (.of [5])]⟩),(3,⟨true,1,[.one (.of [4]),pB]⟩),(4,⟨false,0,[.many (.of [5])]⟩),
  (5,⟨true,0,[]⟩),(6,⟨false,0,[.many .stmt]⟩),(7,⟨true,1,[pR,pW]⟩),(8,⟨false,0,[pR,pW,pE]⟩),(9,⟨false,0,[pR,pE,.many .expr]⟩),
  (10,⟨false,0,[pR]⟩),(11,⟨true,0,[pW,pW]⟩),(12,⟨false,1,[pW]⟩),(13,⟨false,0,[.one (.of [5,20])]⟩),(14,⟨false,1,[pE,pE,pB,.maybe (.of [6])]⟩),
  (15,⟨true,0,[pN,pN,pB]⟩),(16,⟨true,0,[pE]⟩),(17,⟨false,0,[pE]⟩),(18,⟨false,0,[]⟩),(19,⟨false,0,[]⟩),(20,⟨true,0,[pE]⟩),
  (21,⟨false,2147483647,[]⟩),(22,⟨true,0,[]⟩),(23,⟨false,0,[pE,pE]⟩),(24,⟨false,0,[pE,pE]⟩),(25,⟨false,0,[pE,pE]⟩),(26,⟨false,0,[pE]⟩)]
def ruleOf (k:Int):Option Rule:=(ruleT.find? fun x=>x.1==k).map (·.2)
def textOk (named:Bool)(s:ByteArray):Bool:=if named then namesF (bytesI s) else decide (s.size=0)
def fitsRule (r:Rule)(nd:Nd)(kinds:List Int):Bool:=textOk r.named nd.text&&(decide (0≤nd.n)&&(decide (nd.n≤r.most)&&inTurnP r.parts kinds))
def kindAt (t:List Nd)(i:Nat):Int:=(t.getD i default).kind
def kidsAt (t:List Nd)(i:Nat):List Int:=(t.getD i default).kids
def kindsOf (t:List Nd)(nd:Nd):List Int:=nd.kids.map fun k=>kindAt t k.toNat
def nodeOk (t:List Nd)(nd:Nd):Bool:=match ruleOf nd.kind with
 | none=>false
 | some r=>fitsRule r nd (kindsOf t nd)
def ruledP (t:List Nd):Bool:=t.all (nodeOk t)
def rowsOf (t:List Nd):List (List Int):=t.map (·.kids)
def sizesP (t:List Nd):Option (List Nat):=match sizesL (rowsOf t) 0 with
 | none=>none
 | some s=>if s.length≠0∧s.getD 0 0=s.length then some s else none
def rightP (t:List Nd):Bool:=match sizesP t with
 | none=>false
 | some _=>kindAt t 0==1&&ruledP t
def isR (l:List Int)(want:List Int):Bool:=decide (l.length=want.length)&&(l.zip want).all fun p=>if p.2=0 then isExprK p.1 else p.1==p.2
def kidsR (kind:Int)(l:List Int):Bool :=
 if kind=1 then l.all (fun k=>k==2||k==3)
 else if kind=2 then decide (0<l.length)&&l.all (·==5)
 else if kind=3 then isR l [4,6]
 else if kind=4 then l.all (·==5)
 else if kind=6 then l.all isStmtK
 else if kind=7 then isR l [20,5]
 else if kind=8 then isR l [20,5,0]
 else if kind=9 then decide (1<l.length)&&(l.getD 0 0==20&&(l.drop 1).all isExprK)
 else if kind=10 then isR l [20]
 else if kind=11 then isR l [5,5]
 else if kind=12 then isR l [5]
 else if kind=13 then isR l [5]||isR l [20]
 else if kind=14 then isR l [0,0,6]||isR l [0,0,6,6]
 else if kind=15 then isR l [21,21,6]
 else if kind=16∨kind=17∨kind=20∨kind=26 then isR l [0]
 else if kind=23∨kind=24∨kind=25 then isR l [0,0]
 else decide (l.length=0)
def namedR (k:Int):Bool:=k==2||k==3||k==5||k==7||k==11||k==15||k==16||k==20||k==22
def mostR (k:Int):Int:=if k=3∨k=7∨k=12∨k=14 then 1 else if k=21 then 2147483647 else 0
def wordsR (nd:Nd):Bool:=(namedR nd.kind==namesF (bytesI nd.text))&&((namedR nd.kind||decide (nd.text.size=0))&&(decide (0≤nd.n)&&decide (nd.n≤mostR nd.kind)))
def nodeR (t:List Nd)(nd:Nd):Bool:=decide (1≤nd.kind)&&(decide (nd.kind≤26)&&(wordsR nd&&kidsR nd.kind (kindsOf t nd)))
def aheadR (t:List Nd):Bool:=(List.range t.length).all fun i=>(kidsAt t i).all fun k=>decide ((i:Int)<k)&&decide (k<t.length)
def rightR (t:List Nd):Bool:=decide (0<t.length)&&(kindAt t 0==1&&(aheadR t&&(decide (endK (kidsAt t) t.length t.length 0=t.length)&&t.all (nodeR t))))
theorem run_none {p:Int→Bool}{l:List Int}(h:∀x,l.head?=some x→p x=false):run p l=0:=by
 cases l with
 | nil=>rfl
 | cons c r=>simp only [run];rw [if_neg (by rw [h c rfl];simp)]
theorem inTurn_nil (l:List Int):inTurnP [] l=decide (l.length=0):=by cases l<;>simp [inTurnP]
theorem inTurn_one (f:Fit)(ps:List Part)(l:List Int):inTurnP (.one f::ps) l=match l with|[]=>false|k::l'=>f.f k&&inTurnP ps l':=by
 cases l with
 | nil=>simp [inTurnP,Part.takes,Part.one,run]
 | cons k l =>
  by_cases h:f.f k=true
  · simp [inTurnP,Part.takes,Part.one,run,h]
  · simp [inTurnP,Part.takes,Part.one,run,h]
theorem inTurn_maybe (f:Fit)(l:List Int):inTurnP [.maybe f] l=match l with|[]=>true|[k]=>f.f k|_=>false:=by
 match l with
 | []=>simp [inTurnP,Part.takes,Part.maybe,run]
 | [k] =>
  by_cases h:f.f k=true
  · simp [inTurnP,Part.takes,Part.maybe,run,h]
  · simp [inTurnP,Part.takes,Part.maybe,run,h]
 | k::k2::l =>
  by_cases h:f.f k=true
  · simp [inTurnP,Part.takes,Part.maybe,run,h]
  · simp [inTurnP,Part.takes,Part.maybe,run,h]
theorem run_all_iff (p:Int→Bool)(l:List Int):decide (run p l=l.length)=l.all p:=by
 induction l with
 | nil=>simp [run]
 | cons c r ih =>
  simp only [run,List.all_cons,List.length_cons]
  by_cases h:p c=true
  · simp only [h,if_true,Bool.true_and,← ih]
    simp
  · simp [h]
theorem inTurn_many (f:Fit)(l:List Int)(hl:l.length≤9223372036854775807):inTurnP [.many f] l=l.all f.f:=by
 have h:=run_le f.f l
 simp only [inTurnP,Part.takes,Part.many,List.take_of_length_le hl,Nat.zero_le,decide_true,Bool.true_and]
 rw [← run_all_iff,Bool.eq_iff_iff,List.isEmpty_iff_length_eq_zero,List.length_drop,decide_eq_true_iff]
 omega
theorem isR_nil (l:List Int):isR l []=decide (l.length=0):=by cases l<;>simp [isR]
theorem isR_cons (w:Int)(ws l:List Int):isR l (w::ws)=match l with|[]=>false|k::l'=>(if w=0 then isExprK k else k==w)&&isR l' ws:=by
 cases l with
 | nil=>simp [isR]
 | cons k l =>
  simp only [isR,List.length_cons,List.zip_cons_cons,List.all_cons,Nat.add_right_cancel_iff]
  cases (if w=0 then isExprK k else k==w)<;>simp
theorem nodeOk_eq (t:List Nd)(nd:Nd)(hl:nd.kids.length≤9223372036854775807):nodeOk t nd=nodeR t nd:=by
 have hk:(kindsOf t nd).length≤9223372036854775807:=by simpa [kindsOf] using hl
 have hz:∀s:ByteArray,s.size=0→namesF (bytesI s)=false:=fun s hs=>by
  have:bytesI s=[]:=List.eq_nil_of_length_eq_zero (by rw [bytesI_length];exact hs)
  rw [this];rfl
 have hw0:∀b:Bool,namedR nd.kind=b→((b==namesF (bytesI nd.text))&&(b||decide (nd.text.size=0)))=textOk b nd.text:=by
  intro b _
  cases b with
  | true=>simp [textOk]
  | false =>
   by_cases h:nd.text.size=0
   · simp [textOk,h,hz _ h]
   · simp [textOk,h]
 unfold nodeOk nodeR wordsR
 generalize kindsOf t nd=l at *
 by_cases h1:1≤nd.kind∧nd.kind≤26
 · have hcase:nd.kind=1∨nd.kind=2∨nd.kind=3∨nd.kind=4∨nd.kind=5∨nd.kind=6∨nd.kind=7∨nd.kind=8∨nd.kind=9∨nd.kind=10∨nd.kind=11∨nd.kind=12∨nd.kind=13∨nd.kind=14∨nd.kind=15∨nd.kind=16∨nd.kind=17∨nd.kind=18∨nd.kind=19∨nd.kind=20∨nd.kind=21∨nd.kind=22∨nd.kind=23∨nd.kind=24∨nd.kind=25∨nd.kind=26:=by omega
   have key:∀r:Rule,ruleOf nd.kind=some r→r.named=namedR nd.kind→r.most=mostR nd.kind→inTurnP r.parts l=kidsR nd.kind l →
    (match ruleOf nd.kind with|none=>false|some r=>fitsRule r nd l)=(decide (1≤nd.kind)&&(decide (nd.kind≤26)&&((namedR nd.kind==namesF (bytesI nd.text))&&((namedR nd.kind||decide (nd.text.size=0))&&(decide (0≤nd.n)&&decide (nd.n≤mostR nd.kind)))&&kidsR nd.kind l))):=by
    intro r hr hn hm hp
    rw [hr]
    simp only [fitsRule,hn,hm,hp,decide_eq_true h1.1,decide_eq_true h1.2,Bool.true_and]
    rw [← hw0 _ rfl]
    simp only [Bool.and_assoc]
   rcases hcase with h|h|h|h|h|h|h|h|h|h|h|h|h|h|h|h|h|h|h|h|h|h|h|h|h|h
   all_goals
    rw [h] at key ⊢
    refine key _ rfl rfl rfl ?_
    clear key hw0 hz h h1
    first
    | (show inTurnP [.many _] l = _
       rw [inTurn_many _ _ hk]
       simp [kidsR,Fit.f_of,Fit.f_stmt]
       done)
    | (show inTurnP (.one _ :: .many _ :: []) l = _
       rw [inTurn_one]
       rcases l with _|⟨a,l⟩
       · simp [kidsR]
       · simp only [inTurn_many _ l (by simp at hk;omega)]
         simp [kidsR,Fit.f_of]
       done)
    | (show inTurnP (.one _ :: .one _ :: .many _ :: []) l = _
       rw [inTurn_one]
       rcases l with _|⟨a,_|⟨b,l⟩⟩
       · simp [kidsR]
       · simp [kidsR,inTurn_one]
       · simp only [inTurn_one,inTurn_many _ l (by simp at hk;omega)]
         simp [kidsR,Fit.f_of,Fit.f_expr]
       done)
    | (rcases l with _ | ⟨a, _ | ⟨b, _ | ⟨c, _ | ⟨d, _ | ⟨e, l⟩⟩⟩⟩⟩ <;> simp [kidsR, inTurn_nil, inTurn_one, inTurn_maybe, isR_cons, isR_nil, Fit.f_of, Fit.f_expr]
       done)
 · rw [show (decide (1≤nd.kind)&&(decide (nd.kind≤26)&&((namedR nd.kind==namesF (bytesI nd.text))&&((namedR nd.kind||decide (nd.text.size=0))&&(decide (0≤nd.n)&&decide (nd.n≤mostR nd.kind)))&&kidsR nd.kind l)))=false by
    by_cases h2:1≤nd.kind
    · have:¬ nd.kind≤26:=fun h3=>h1 ⟨h2,h3⟩
      simp [this]
    · simp [h2]]
   have:ruleOf nd.kind=none:=by
    unfold ruleOf ruleT
    simp only [Option.map_eq_none_iff,List.find?_eq_none]
    intro x hx
    simp only [List.mem_cons,List.not_mem_nil,or_false] at hx
    simp only [beq_iff_eq]
    intro e
    rcases hx with h|h|h|h|h|h|h|h|h|h|h|h|h|h|h|h|h|h|h|h|h|h|h|h|h|h
    all_goals (rw [h] at e;simp only at e;omega)
   rw [this]
end Tr
end Go.Proofs.YthdioipfdbbmmaaGreatDoor
