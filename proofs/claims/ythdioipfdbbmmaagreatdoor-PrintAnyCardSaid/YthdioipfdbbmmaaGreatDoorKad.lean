/- Contracts. -/
import Derived.Test.YthdioipfdbbmmaaGreatDoorKaa
import Derived.Test.YthdioipfdbbmmaaGreatDoorKac
set_option linter.all false
set_option maxRecDepth 1000000
set_option maxHeartbeats 16000000
namespace Go.Proofs.YthdioipfdbbmmaaGreatDoor
namespace Tr
structure Nd where
 kind:Int
 at':Int
 text:ByteArray
 n:Int
 kids:List Int
instance:Inhabited Nd:=⟨⟨0,0,⟨#[]⟩,0,[]⟩⟩
def isExprK (k:Int):Bool:=decide (21≤k)&&decide (k≤26)
def isStmtK (k:Int):Bool:=decide (7≤k)&&decide (k≤19)
inductive Fit where
 | of (ks:List Int)
 | stmt
 | expr
 deriving DecidableEq
def Fit.f:Fit→Int→Bool
 | .of ks,k=>ks.any fun x=>k==x
 | .stmt,k=>isStmtK k
 | .expr,k=>isExprK k
theorem Fit.f_of (ks:List Int):(Fit.of ks).f=fun k=>ks.any fun x=>k==x:=rfl
theorem Fit.f_stmt:Fit.stmt.f=isStmtK:=rfl
theorem Fit.f_expr:Fit.expr.f=isExprK:=rfl
structure Part where
 fit:Fit
 least:Nat
 most:Nat
 deriving DecidableEq
def Part.one (f:Fit):Part:=⟨f,1,1⟩
def Part.maybe (f:Fit):Part:=⟨f,0,1⟩
def Part.many (f:Fit):Part:=⟨f,0,9223372036854775807⟩
def Part.takes (p:Part)(l:List Int):Nat:=run p.fit.f (l.take p.most)
def inTurnP:List Part→List Int→Bool
 | [],l=>l.isEmpty
 | p::ps,l=>decide (p.least≤p.takes l)&&inTurnP ps (l.drop (p.takes l))
structure Rule where
 named:Bool
 most:Int
 parts:List Part
 deriving DecidableEq
abbrev pW:Part:=.one (.of [5])
abbrev pR:Part:=.one (.of [20])
abbrev pB:Part:=.one (.of [6])
abbrev pE:Part:=.one .expr
abbrev pN:Part:=.one (.of [21])
def ruleT:List (Int × Rule) :=
 [(1,⟨false,0,[.many (.of [2,3])]⟩),(2,⟨true,0,[pW,.many (.of [5])]⟩),(3,⟨true,1,[.one (.of [4]),pB]⟩),(4,⟨false,0,[.many (.of [5])]⟩),
  (5,⟨true,0,[]⟩),(6,⟨false,0,[.many .stmt]⟩),(7,⟨true,1,[pR,pW]⟩),(8,⟨false,0,[pR,pW,pE]⟩),(9,⟨false,0,[pR,pE,.many .expr]⟩),
  (10,⟨false,0,[pR]⟩),(11,⟨true,0,[pW,pW]⟩),(12,⟨false,1,[pW]⟩),(13,⟨false,0,[.one (.of [5,20])]⟩),(14,⟨false,1,[pE,pE,pB,.maybe (.of [6])]⟩),
  (15,⟨true,0,[pN,pN,pB]⟩),(16,⟨true,0,[pE]⟩),(17,⟨false,0,[pE]⟩),(18,⟨false,0,[]⟩),(19,⟨false,0,[]⟩),(20,⟨true,0,[pE]⟩),
  (21,⟨false,2147483647,[]⟩),(22,⟨true,0,[]⟩),(23,⟨false,0,[pE,pE]⟩),(24,⟨false,0,[pE,pE]⟩),(25,⟨false,0,[pE,pE]⟩),(26,⟨false,0,[pE]⟩)]
def ruleOf (k:Int):Option Rule:=(ruleT.find? fun x=>x.1==k).map (·.2)
def textOk (named:Bool)(s:ByteArray):Bool:=if named then namesF (bytesI s) else decide (s.size=0)
def fitsRule (r:Rule)(nd:Nd)(kinds:List Int):Bool:=textOk r.named nd.text&&(decide (0≤nd.n)&&(decide (nd.n≤r.most)&&inTurnP r.parts kinds))
def kindAt (t:List Nd)(i:Nat):Int:=(t.getD i default).kind
def kidsAt (t:List Nd)(i:Nat):List Int:=(t.getD i default).kids
def kindsOf (t:List Nd)(nd:Nd):List Int:=nd.kids.map fun k=>kindAt t k.toNat
def nodeOk (t:List Nd)(nd:Nd):Bool:=match ruleOf nd.kind with
 | none=>false
 | some r=>fitsRule r nd (kindsOf t nd)
def ruledP (t:List Nd):Bool:=t.all (nodeOk t)
def rowsOf (t:List Nd):List (List Int):=t.map (·.kids)
def sizesP (t:List Nd):Option (List Nat):=match sizesL (rowsOf t) 0 with
 | none=>none
 | some s=>if s.length≠0∧s.getD 0 0=s.length then some s else none
def rightP (t:List Nd):Bool:=match sizesP t with
 | none=>false
 | some _=>kindAt t 0==1&&ruledP t
def isR (l:List Int)(want:List Int):Bool:=decide (l.length=want.length)&&(l.zip want).all fun p=>if p.2=0 then isExprK p.1 else p.1==p.2
def kidsR (kind:Int)(l:List Int):Bool :=
 if kind=1 then l.all (fun k=>k==2||k==3)
 else if kind=2 then decide (0<l.length)&&l.all (·==5)
 else if kind=3 then isR l [4,6]
 else if kind=4 then l.all (·==5)
 else if kind=6 then l.all isStmtK
 else if kind=7 then isR l [20,5]
 else if kind=8 then isR l [20,5,0]
 else if kind=9 then decide (1<l.length)&&(l.getD 0 0==20&&(l.drop 1).all isExprK)
 else if kind=10 then isR l [20]
 else if kind=11 then isR l [5,5]
 else if kind=12 then isR l [5]
 else if kind=13 then isR l [5]||isR l [20]
 else if kind=14 then isR l [0,0,6]||isR l [0,0,6,6]
 else if kind=15 then isR l [21,21,6]
 else if kind=16∨kind=17∨kind=20∨kind=26 then isR l [0]
 else if kind=23∨kind=24∨kind=25 then isR l [0,0]
 else decide (l.length=0)
def namedR (k:Int):Bool:=k==2||k==3||k==5||k==7||k==11||k==15||k==16||k==20||k==22
def mostR (k:Int):Int:=if k=3∨k=7∨k=12∨k=14 then 1 else if k=21 then 2147483647 else 0
def wordsR (nd:Nd):Bool:=(namedR nd.kind==namesF (bytesI nd.text))&&((namedR nd.kind||decide (nd.text.size=0))&&(decide (0≤nd.n)&&decide (nd.n≤mostR nd.kind)))
def nodeR (t:List Nd)(nd:Nd):Bool:=decide (1≤nd.kind)&&(decide (nd.kind≤26)&&(wordsR nd&&kidsR nd.kind (kindsOf t nd)))
def aheadR (t:List Nd):Bool:=(List.range t.length).all fun i=>(kidsAt t i).all fun k=>decide ((i:Int)<k)&&decide (k<t.length)
def rightR (t:List Nd):Bool:=decide (0<t.length)&&(kindAt t 0==1&&(aheadR t&&(decide (endK (kidsAt t) t.length t.length 0=t.length)&&t.all (nodeR t))))
theorem run_none {p:Int→Bool}{l:List Int}(h:∀x,l.head?=some x→p x=false):run p l=0:=by
 cases l with
 | nil=>rfl
 | cons c r=>simp only [run];rw [if_neg (by rw [h c rfl];simp)]
theorem inTurn_nil (l:List Int):inTurnP [] l=decide (l.length=0):=by cases l<;>simp [inTurnP]
theorem inTurn_one (f:Fit)(ps:List Part)(l:List Int):inTurnP (.one f::ps) l=match l with|[]=>false|k::l'=>f.f k&&inTurnP ps l':=by
 cases l with
 | nil=>simp [inTurnP,Part.takes,Part.one,run]
 | cons k l =>
  by_cases h:f.f k=true
  · simp [inTurnP,Part.takes,Part.one,run,h]
  · simp [inTurnP,Part.takes,Part.one,run,h]
theorem inTurn_maybe (f:Fit)(l:List Int):inTurnP [.maybe f] l=match l with|[]=>true|[k]=>f.f k|_=>false:=by
 match l with
 | []=>simp [inTurnP,Part.takes,Part.maybe,run]
 | [k] =>
  by_cases h:f.f k=true
  · simp [inTurnP,Part.takes,Part.maybe,run,h]
  · simp [inTurnP,Part.takes,Part.maybe,run,h]
 | k::k2::l =>
  by_cases h:f.f k=true
  · simp [inTurnP,Part.takes,Part.maybe,run,h]
  · simp [inTurnP,Part.takes,Part.maybe,run,h]
theorem run_all_iff (p:Int→Bool)(l:List Int):decide (run p l=l.length)=l.all p:=by
 induction l with
 | nil=>simp [run]
 | cons c r ih =>
  simp only [run,List.all_cons,List.length_cons]
  by_cases h:p c=true
  · simp only [h,if_true,Bool.true_and,← ih]
    simp
  · simp [h]
theorem inTurn_many (f:Fit)(l:List Int)(hl:l.length≤9223372036854775807):inTurnP [.many f] l=l.all f.f:=by
 have h:=run_le f.f l
 simp only [inTurnP,Part.takes,Part.many,List.take_of_length_le hl,Nat.zero_le,decide_true,Bool.true_and]
 rw [← run_all_iff,Bool.eq_iff_iff,List.isEmpty_iff_length_eq_zero,List.length_drop,decide_eq_true_iff]
 omega
theorem isR_nil (l:List Int):isR l []=decide (l.length=0):=by cases l<;>simp [isR]
theorem isR_cons (w:Int)(ws l:List Int):isR l (w::ws)=match l with|[]=>false|k::l'=>(if w=0 then isExprK k else k==w)&&isR l' ws:=by
 cases l with
 | nil=>simp [isR]
 | cons k l =>
  simp only [isR,List.length_cons,List.zip_cons_cons,List.all_cons,Nat.add_right_cancel_iff]
  cases (if w=0 then isExprK k else k==w)<;>simp
theorem nodeOk_eq (t:List Nd)(nd:Nd)(hl:nd.kids.length≤9223372036854775807):nodeOk t nd=nodeR t nd:=by
 have hk:(kindsOf t nd).length≤9223372036854775807:=by simpa [kindsOf] using hl
 have hz:∀s:ByteArray,s.size=0→namesF (bytesI s)=false:=fun s hs=>by
  have:bytesI s=[]:=List.eq_nil_of_length_eq_zero (by rw [bytesI_length];exact hs)
  rw [this];rfl
 have hw0:∀b:Bool,namedR nd.kind=b→((b==namesF (bytesI nd.text))&&(b||decide (nd.text.size=0)))=textOk b nd.text:=by
  intro b _
  cases b with
  | true=>simp [textOk]
  | false =>
   by_cases h:nd.text.size=0
   · simp [textOk,h,hz _ h]
   · simp [textOk,h]
 unfold nodeOk nodeR wordsR
 generalize kindsOf t nd=l at *
 by_cases h1:1≤nd.kind∧nd.kind≤26
 · have hcase:nd.kind=1∨nd.kind=2∨nd.kind=3∨nd.kind=4∨nd.kind=5∨nd.kind=6∨nd.kind=7∨nd.kind=8∨nd.kind=9∨nd.kind=10∨nd.kind=11∨nd.kind=12∨nd.kind=13∨nd.kind=14∨nd.kind=15∨nd.kind=16∨nd.kind=17∨nd.kind=18∨nd.kind=19∨nd.kind=20∨nd.kind=21∨nd.kind=22∨nd.kind=23∨nd.kind=24∨nd.kind=25∨nd.kind=26:=by omega
   have key:∀r:Rule,ruleOf nd.kind=some r→r.named=namedR nd.kind→r.most=mostR nd.kind→inTurnP r.parts l=kidsR nd.kind l →
    (match ruleOf nd.kind with|none=>false|some r=>fitsRule r nd l)=(decide (1≤nd.kind)&&(decide (nd.kind≤26)&&((namedR nd.kind==namesF (bytesI nd.text))&&((namedR nd.kind||decide (nd.text.size=0))&&(decide (0≤nd.n)&&decide (nd.n≤mostR nd.kind)))&&kidsR nd.kind l))):=by
    intro r hr hn hm hp
    rw [hr]
    simp only [fitsRule,hn,hm,hp,decide_eq_true h1.1,decide_eq_true h1.2,Bool.true_and]
    rw [← hw0 _ rfl]
    simp only [Bool.and_assoc]
   rcases hcase with h|h|h|h|h|h|h|h|h|h|h|h|h|h|h|h|h|h|h|h|h|h|h|h|h|h
   all_goals
    rw [h] at key ⊢
    refine key _ rfl rfl rfl ?_
    clear key hw0 hz h h1
    first
    | (show inTurnP [.many _] l = _
       rw [inTurn_many _ _ hk]
       simp [kidsR,Fit.f_of,Fit.f_stmt]
       done)
    | (show inTurnP (.one _ :: .many _ :: []) l = _
       rw [inTurn_one]
       rcases l with _|⟨a,l⟩
       · simp [kidsR]
       · simp only [inTurn_many _ l (by simp at hk;omega)]
         simp [kidsR,Fit.f_of]
       done)
    | (show inTurnP (.one _ :: .one _ :: .many _ :: []) l = _
       rw [inTurn_one]
       rcases l with _|⟨a,_|⟨b,l⟩⟩
       · simp [kidsR]
       · simp [kidsR,inTurn_one]
       · simp only [inTurn_one,inTurn_many _ l (by simp at hk;omega)]
         simp [kidsR,Fit.f_of,Fit.f_expr]
       done)
    | (rcases l with _ | ⟨a, _ | ⟨b, _ | ⟨c, _ | ⟨d, _ | ⟨e, l⟩⟩⟩⟩⟩ <;> simp [kidsR, inTurn_nil, inTurn_one, inTurn_maybe, isR_cons, isR_nil, Fit.f_of, Fit.f_expr]
       done)
 · rw [show (decide (1≤nd.kind)&&(decide (nd.kind≤26)&&((namedR nd.kind==namesF (bytesI nd.text))&&((namedR nd.kind||decide (nd.text.size=0))&&(decide (0≤nd.n)&&decide (nd.n≤mostR nd.kind)))&&kidsR nd.kind l)))=false by
    by_cases h2:1≤nd.kind
    · have:¬ nd.kind≤26:=fun h3=>h1 ⟨h2,h3⟩
      simp [this]
    · simp [h2]]
   have:ruleOf nd.kind=none:=by
    unfold ruleOf ruleT
    simp only [Option.map_eq_none_iff,List.find?_eq_none]
    intro x hx
    simp only [List.mem_cons,List.not_mem_nil,or_false] at hx
    simp only [beq_iff_eq]
    intro e
    rcases hx with h|h|h|h|h|h|h|h|h|h|h|h|h|h|h|h|h|h|h|h|h|h|h|h|h|h
    all_goals (rw [h] at e;simp only at e;omega)
   rw [this]
end Tr
end Go.Proofs.YthdioipfdbbmmaaGreatDoor
section
namespace Go.Proofs.YthdioipfdbbmmaaGreatDoor
abbrev Nd:=Tr.Nd
structure PT where
 kind:Int
 at':Nat
 txt:ByteArray
 n:Int
inductive Ast where
 | mk (kind:Int) (at':Nat) (txt:ByteArray) (n:Int) (kids:List Ast)
def Ast.at':Ast→Nat|.mk _ a _ _ _=>a
inductive Res (α:Type) where
 | err (at':Nat) (code:Int)
 | ok (a:α) (l:List PT)
abbrev Par (α:Type):=List PT→Res α
namespace Par
def pure {α:Type}(a:α):Par α:=fun l=>.ok a l
def bind {α β:Type}(f:Par α)(g:α→Par β):Par β:=fun l=>match f l with
 | .err a c=>.err a c
 | .ok a l'=>g a l'
theorem bind_ok {α β:Type}{f:Par α}{g:α→Par β}{l l':List PT}{a:α}(h:f l=.ok a l'):bind f g l=g a l':=by simp only [bind,h]
theorem bind_err {α β:Type}{f:Par α}{g:α→Par β}{l:List PT}{a:Nat}{c:Int}(h:f l=.err a c):bind f g l=.err a c:=by simp only [bind,h]
def loop {α:Type}(step:α→Par (Option α)):Nat→α→Par α
 | 0,_=>fun _=>.err 0 99
 | m+1,a=>bind (step a) fun
  | none=>pure a
  | some b=>loop step m b
def many {α:Type}(step:α→Par (Option α))(a:α):Par α:=fun l=>loop step (l.length+1) a l
def Less {α:Type}(f:Par α):Prop:=∀l a l',f l=.ok a l'→l'.length≤l.length
def Adv {α:Type}(step:α→Par (Option α)):Prop:=∀a l b l',step a l=.ok b l'→(b.isSome→l'.length<l.length)∧l'.length≤l.length
theorem loop_more {α:Type}{step:α→Par (Option α)}(hs:Adv step)(m k:Nat)(a:α)(l:List PT)(h:l.length<m)(h':l.length<k):loop step m a l=loop step k a l:=by
 induction m generalizing k a l with
 | zero=>omega
 | succ m ih =>
  cases k with
  | zero=>omega
  | succ k =>
   simp only [loop,bind]
   cases hst:step a l with
   | err p c=>rfl
   | ok b l' =>
    cases b with
    | none=>rfl
    | some b =>
     have:=(hs a l (some b) l' hst).1 rfl
     exact ih k b l' (by omega) (by omega)
theorem many_err {α:Type}{step:α→Par (Option α)}{a:α}{l:List PT}{p:Nat}{c:Int}(h:step a l=.err p c):many step a l=.err p c:=by
 simp only [many,loop,bind,h]
theorem many_done {α:Type}{step:α→Par (Option α)}{a:α}{l l':List PT}(h:step a l=.ok none l'):many step a l=.ok a l':=by
 simp only [many,loop,bind,h,pure]
theorem many_more {α:Type}{step:α→Par (Option α)}(hs:Adv step){a b:α}{l l':List PT}(h:step a l=.ok (some b) l'):many step a l=many step b l':=by
 have h1:=(hs a l (some b) l' h).1 rfl
 show loop step (l.length+1) a l=loop step (l'.length+1) b l'
 rw [loop]
 simp only [bind,h]
 exact loop_more hs _ _ b l' (by omega) (by omega)
theorem Less.pure {α:Type}(a:α):Less (pure a):=fun l b l' h=>by
 simp only [Par.pure,Res.ok.injEq] at h
 rw [h.2];exact Nat.le_refl _
theorem Less.bind {α β:Type}{f:Par α}{g:α→Par β}(hf:Less f)(hg:∀a,Less (g a)):Less (bind f g):=fun l b l' h=>by
 simp only [Par.bind] at h
 cases hfl:f l with
 | err p c=>rw [hfl] at h;simp at h
 | ok a l1 =>
  rw [hfl] at h
  exact Nat.le_trans (hg a l1 b l' h) (hf l a l1 hfl)
theorem Less.loop {α:Type}{step:α→Par (Option α)}(hs:∀a,Less (step a))(m:Nat)(a:α):Less (loop step m a):=by
 induction m generalizing a with
 | zero=>intro l b l' h;simp [Par.loop] at h
 | succ m ih =>
  refine Less.bind (hs a) fun b=>?_
  cases b with
  | none=>exact Less.pure a
  | some b=>exact ih b
theorem Less.many {α:Type}{step:α→Par (Option α)}(hs:∀a,Less (step a))(a:α):Less (many step a):=fun l=>Less.loop hs (l.length+1) a l
end Par
open Par
def isNextP (s:ByteArray):Par Bool
 | []=>.err 0 99
 | t::l=>.ok (decide (t.txt=s)) (t::l)
def skipP (s:ByteArray):Par Bool
 | []=>.err 0 99
 | t::l=>if t.txt=s then .ok true l else .ok false (t::l)
def expectP (s:ByteArray):Par Nat
 | []=>.err 0 99
 | t::l=>if t.txt=s then .ok t.at' l else .err t.at' 50
def takeP (k:Int):Par PT
 | []=>.err 0 99
 | t::l=>if t.kind=k then .ok t l else .err t.at' 50
def peekP:Par PT
 | []=>.err 0 99
 | t::l=>.ok t (t::l)
def nextP:Par PT
 | []=>.err 0 99
 | t::l=>.ok t l
def enterP (s:ByteArray)(r:Nat):Par Nat
 | []=>.err 0 99
 | t::l=>if t.txt=s then (if r=0 then .err t.at' 51 else .ok t.at' l) else .err t.at' 50
def failP {α:Type}:Par α
 | []=>.err 0 99
 | t::_=>.err t.at' 50
abbrev none0:ByteArray:=⟨#[]⟩
def nodeA (k:Int)(a:Nat)(ks:List Ast):Ast:=.mk k a none0 0 ks
def wordA (t:PT):Ast:=.mk 5 t.at' t.txt 0 []
-- expressions
def bothA (k:Int)(a b:Ast):Ast:=.mk k a.at' none0 0 [a,b]
def timesStep (fac:Par Ast)(a:Ast):Par (Option Ast):=bind (skipP ⟨#[42]⟩) fun
 | true=>bind fac fun b=>pure (some (bothA 25 a b))
 | false=>pure none
def termP (fac:Par Ast):Par Ast:=bind fac fun a=>many (timesStep fac) a
def sumStep (fac:Par Ast)(a:Ast):Par (Option Ast):=bind (skipP ⟨#[43]⟩) fun
 | true=>bind (termP fac) fun b=>pure (some (bothA 23 a b))
 | false=>bind (skipP ⟨#[45]⟩) fun
  | true=>bind (termP fac) fun b=>pure (some (bothA 24 a b))
  | false=>pure none
def exprP (fac:Par Ast):Par Ast:=bind (termP fac) fun a=>many (sumStep fac) a
def numberP:Par Ast:=bind (takeP 2) fun t=>pure (.mk 21 t.at' none0 t.n [])
def bracketP (r:Nat)(ex:Par Ast):Par Ast:=bind (enterP ⟨#[40]⟩ r) fun _=>bind ex fun a=>bind (expectP ⟨#[41]⟩) fun _=>pure a
def negP (r:Nat)(fac:Par Ast):Par Ast:=bind (enterP ⟨#[45]⟩ r) fun p=>bind fac fun a=>pure (nodeA 26 p [a])
def factorOf (r:Nat)(fac:Par Ast):Par Ast:=bind peekP fun t =>
 if t.kind=2 then numberP
 else if t.kind=1 then bind nextP fun t=>pure (.mk 22 t.at' t.txt 0 [])
 else if t.txt=⟨#[40]⟩ then bracketP r (exprP fac)
 else if t.txt=⟨#[45]⟩ then negP r fac
 else failP
def factorP:Nat→Par Ast
 | 0=>factorOf 0 failP
 | r+1=>factorOf (r+1) (factorP r)
def exprR (r:Nat):Par Ast:=exprP (factorP r)
-- statements
def wordP:Par Ast:=bind (takeP 1) fun t=>pure (wordA t)
def wordsStep (ks:List Ast):Par (Option (List Ast)):=bind (skipP ⟨#[44]⟩) fun
 | true=>bind wordP fun w=>pure (some (ks++[w]))
 | false=>pure none
def wordsP:Par (List Ast):=bind wordP fun w=>many wordsStep [w]
def rowOfP (r:Nat)(t:PT):Par Ast:=bind (enterP ⟨#[91]⟩ r) fun _=>bind (exprR (r-1)) fun k=>bind (expectP ⟨#[93]⟩) fun _=>pure (.mk 20 t.at' t.txt 0 [k])
def rowP (r:Nat):Par Ast:=bind (takeP 1) fun t=>rowOfP r t
def cellP (r:Nat):Par (Ast × Ast):=bind (rowP r) fun a=>bind (expectP ⟨#[46]⟩) fun _=>bind wordP fun b=>pure (a,b)
def endP (a:Ast):Par Ast:=bind (expectP ⟨#[59]⟩) fun _=>pure a
def readP (r:Nat)(p:Nat):Par Ast:=bind (takeP 1) fun t=>bind (expectP ⟨#[61]⟩) fun _=>bind (cellP r) fun rc=>bind (skipP ⟨#[102,111,114]⟩) fun
 | true=>bind (expectP ⟨#[117,112,100,97,116,101]⟩) fun _=>endP (.mk 7 p t.txt 1 [rc.1,rc.2])
 | false=>endP (.mk 7 p t.txt 0 [rc.1,rc.2])
def setP (r:Nat)(p:Nat):Par Ast:=bind (cellP r) fun rc=>bind (expectP ⟨#[61]⟩) fun _=>bind (exprR r) fun v=>endP (nodeA 8 p [rc.1,rc.2,v])
def putStep (r:Nat)(ks:List Ast):Par (Option (List Ast)):=bind (skipP ⟨#[44]⟩) fun
 | true=>bind (exprR r) fun w=>pure (some (ks++[w]))
 | false=>pure none
def putP (r:Nat)(p:Nat):Par Ast:=bind (rowP r) fun a=>bind (expectP ⟨#[40]⟩) fun _=>bind (exprR r) fun e=>bind (many (putStep r) [a,e]) fun ks=>bind (expectP ⟨#[41]⟩) fun _=>endP (nodeA 9 p ks)
def deleteP (r:Nat)(p:Nat):Par Ast:=bind (rowP r) fun a=>endP (nodeA 10 p [a])
def scanP (p:Nat):Par Ast:=bind (takeP 1) fun t=>bind (expectP ⟨#[61]⟩) fun _=>bind wordP fun a=>bind (expectP ⟨#[46]⟩) fun _=>bind wordP fun b=>endP (.mk 11 p t.txt 0 [a,b])
def lockP (p:Nat):Par Ast:=bind wordP fun a=>bind (skipP ⟨#[97,108,108]⟩) fun
 | true=>endP (.mk 12 p none0 1 [a])
 | false=>bind (expectP ⟨#[115,104,97,114,101,100]⟩) fun _=>endP (.mk 12 p none0 0 [a])
def releaseP (r:Nat)(p:Nat):Par Ast:=bind (takeP 1) fun t=>bind (isNextP ⟨#[91]⟩) fun
 | true=>bind (rowOfP r t) fun a=>endP (nodeA 13 p [a])
 | false=>endP (nodeA 13 p [wordA t])
def ifTail (B:Par Ast)(p:Nat)(n:Int)(a b:Ast):Par Ast:=bind B fun c=>bind (skipP ⟨#[101,108,115,101]⟩) fun
 | true=>bind B fun d=>pure (.mk 14 p none0 n [a,b,c,d])
 | false=>pure (.mk 14 p none0 n [a,b,c])
def ifP (r:Nat)(B:Par Ast)(p:Nat):Par Ast:=bind (exprR r) fun a=>bind (skipP ⟨#[61,61]⟩) fun
 | true=>bind (exprR r) fun b=>ifTail B p 1 a b
 | false=>bind (expectP ⟨#[60]⟩) fun _=>bind (exprR r) fun b=>ifTail B p 0 a b
def forP (B:Par Ast)(p:Nat):Par Ast:=bind (takeP 1) fun t=>bind (expectP ⟨#[61]⟩) fun _=>bind numberP fun a=>bind (expectP ⟨#[116,111]⟩) fun _=>bind numberP fun b=>bind B fun c=>pure (.mk 15 p t.txt 0 [a,b,c])
def letP (r:Nat)(p:Nat):Par Ast:=bind (takeP 1) fun t=>bind (expectP ⟨#[61]⟩) fun _=>bind (exprR r) fun v=>endP (.mk 16 p t.txt 0 [v])
def emitP (r:Nat)(p:Nat):Par Ast:=bind (exprR r) fun v=>endP (nodeA 17 p [v])
def rollbackP (p:Nat):Par Ast:=endP (nodeA 18 p [])
def chopP (p:Nat):Par Ast:=endP (nodeA 19 p [])
def words13:List ByteArray:=[⟨#[114,101,97,100]⟩,⟨#[115,101,116]⟩,⟨#[112,117,116]⟩,⟨#[100,101,108,101,116,101]⟩,⟨#[115,99,97,110]⟩,⟨#[108,111,99,107]⟩,⟨#[114,101,108,101,97,115,101]⟩,⟨#[105,102]⟩,⟨#[102,111,114]⟩,⟨#[108,101,116]⟩,⟨#[101,109,105,116]⟩,⟨#[114,111,108,108,98,97,99,107]⟩,⟨#[99,104,111,112]⟩]
def restP (r:Nat)(B:Par Ast)(j p:Nat):Par Ast :=
 match j with
 | 0=>readP r p
 | 1=>setP r p
 | 2=>putP r p
 | 3=>deleteP r p
 | 4=>scanP p
 | 5=>lockP p
 | 6=>releaseP r p
 | 7=>ifP r B p
 | 8=>forP B p
 | 9=>letP r p
 | 10=>emitP r p
 | 11=>rollbackP p
 | 12=>chopP p
 | _=>failP
def stmtP (r:Nat)(B:Par Ast):Par Ast:=bind peekP fun t =>
 if words13.idxOf t.txt<13 then bind nextP fun t=>restP r B (words13.idxOf t.txt) t.at' else failP
def blockStep (st:Par Ast)(ks:List Ast):Par (Option (List Ast)):=bind (isNextP ⟨#[125]⟩) fun
 | true=>pure none
 | false=>bind st fun s=>pure (some (ks++[s]))
def blockOf (r:Nat)(st:Par Ast):Par Ast:=bind (enterP ⟨#[123]⟩ r) fun p=>bind (many (blockStep st) []) fun ks=>bind (expectP ⟨#[125]⟩) fun _=>pure (nodeA 6 p ks)
def blockP:Nat→Par Ast
 | 0=>blockOf 0 failP
 | r+1=>blockOf (r+1) (stmtP r (blockP r))
-- programs
def namesP:Par Ast:=bind peekP fun t=>bind (isNextP ⟨#[41]⟩) fun
 | true=>pure (nodeA 4 t.at' [])
 | false=>bind wordsP fun ks=>pure (nodeA 4 t.at' ks)
def tableP:Par Ast:=bind (expectP ⟨#[116,97,98,108,101]⟩) fun p=>bind (takeP 1) fun t=>bind (expectP ⟨#[40]⟩) fun _=>bind wordsP fun ks=>bind (expectP ⟨#[41]⟩) fun _=>endP (.mk 2 p t.txt 0 ks)
def procP:Par Ast:=bind (expectP ⟨#[112,114,111,99]⟩) fun p=>bind (takeP 1) fun t=>bind (expectP ⟨#[40]⟩) fun _=>bind namesP fun ns=>bind (expectP ⟨#[41]⟩) fun _=>bind (skipP ⟨#[115,105,110,103,108,101]⟩) fun
 | true=>bind (blockP 64) fun b=>pure (.mk 3 p t.txt 1 [ns,b])
 | false=>bind (blockP 64) fun b=>pure (.mk 3 p t.txt 0 [ns,b])
def progStep (ks:List Ast):Par (Option (List Ast)):=bind peekP fun t =>
 if t.kind=4 then pure none
 else bind (isNextP ⟨#[116,97,98,108,101]⟩) fun
  | true=>bind tableP fun a=>pure (some (ks++[a]))
  | false=>bind procP fun a=>pure (some (ks++[a]))
def programP:Par Ast:=bind peekP fun t=>bind (many progStep []) fun ks=>pure (nodeA 1 t.at' ks)
end Go.Proofs.YthdioipfdbbmmaaGreatDoor
end
