/- Contracts. -/
import Derived.Test.YthdioipfdbbmmaaGreatDoorHaa
import Derived.Test.YthdioipfdbbmmaaGreatDoorHab
import Derived.Lib.ConvBytes
import Derived.Below
import Derived.Deep.QuietTactic
set_option linter.all false
set_option maxRecDepth 1000000
set_option maxHeartbeats 16000000
namespace Go.Proofs.YthdioipfdbbmmaaGreatDoor
namespace Tr
open Go.RowKit
def bytesI (s:ByteArray):List Int:=s.data.toList.map fun b=>(b.toNat:Int)
theorem bytesI_length (s:ByteArray):(bytesI s).length=s.size:=by simp [bytesI]
theorem bytesI_get (s:ByteArray)(k:Nat)(h:k<s.size):(bytesI s).getD k 0=(s[k].toNat:Int):=by
 have:k<s.data.toList.length:=by simpa using h
 have e:s.data.toList[k]?=some s[k]:=List.getElem?_eq_getElem this
 simp only [bytesI,List.getD,List.getElem?_map,e,Option.map_some,Option.getD_some]
theorem bytesI_byte (s:ByteArray)(i:Nat):0≤(bytesI s).getD i 0∧(bytesI s).getD i 0<256:=by
 by_cases h:i<s.size
 · rw [bytesI_get s i h]
   have:=UInt8.toNat_lt s[i]
   omega
 · simp [List.getD,List.getElem?_eq_none (show (bytesI s).length≤i by rw [bytesI_length];omega)]
theorem bytesI_str (s:ByteArray):strOfNums (bytesI s)=s:=by
 obtain ⟨⟨l⟩⟩:=s
 simp [strOfNums,bytesI,Function.comp_def]
def namesF (l:List Int):Bool:=(match l with|[]=>false|c::_=>isLetter c)&&l.all isNameB
theorem all_take_succ (l:List Int)(k:Nat)(h:k<l.length):(l.take (k+1)).all isNameB=((l.take k).all isNameB&&isNameB (l.getD k 0)):=by
 rw [List.take_succ_eq_append_getElem h,List.all_append]
 simp [List.getD,h]
theorem namesF_no (l:List Int)(k:Nat)(h:k<l.length)(hk:isNameB (l.getD k 0)=false):namesF l=false:=by
 unfold namesF
 have:l.all isNameB=false:=by
  rw [List.all_eq_false]
  exact ⟨l.getD k 0,by simp [List.getD,h],by rw [hk];simp⟩
 rw [this,Bool.and_false]
theorem namesF_head (l:List Int)(h:0<l.length)(hk:isLetter (l.getD 0 0)=false):namesF l=false:=by
 cases l with
 | nil=>simp at h
 | cons c r=>simp only [List.getD_cons_zero] at hk;simp [namesF,hk]
theorem namesF_yes (l:List Int)(h:0<l.length)(hk:isLetter (l.getD 0 0)=true)(ha:(l.take l.length).all isNameB=true):namesF l=true:=by
 cases l with
 | nil=>simp at h
 | cons c r=>simp only [List.getD_cons_zero] at hk;rw [List.take_length] at ha;simp only [namesF,hk,ha,Bool.and_true]
theorem retB {a b:Bool}(h:a=b):Ending.returned (.bool a)=.returned (.bool b):=by rw [h]
theorem retI {a b:Int}(h:a=b):Ending.returned (.int .i64 a)=.returned (.int .i64 b):=by rw [h]
theorem drewN_below (B:Nat)(w:World)(n:Nat):Below B w (w.drewN n):=⟨rfl,rfl,rfl,Nat.le_refl _,fun _ _=>rfl⟩
end Tr
namespace Tr
structure Nd where
 kind:Int
 at':Int
 text:ByteArray
 n:Int
 kids:List Int
instance:Inhabited Nd:=⟨⟨0,0,⟨#[]⟩,0,[]⟩⟩
def isExprK (k:Int):Bool:=decide (21≤k)&&decide (k≤26)
def isStmtK (k:Int):Bool:=decide (7≤k)&&decide (k≤19)
inductive Fit where
 | of (ks:List Int)
 | stmt
 | expr
 deriving DecidableEq
def Fit.f:Fit→Int→Bool
 | .of ks,k=>ks.any fun x=>k==x
 | .stmt,k=>isStmtK k
 | .expr,k=>isExprK k
theorem Fit.f_of (ks:List Int):(Fit.of ks).f=fun k=>ks.any fun x=>k==x:=rfl
theorem Fit.f_stmt:Fit.stmt.f=isStmtK:=rfl
theorem Fit.f_expr:Fit.expr.f=isExprK:=rfl
structure Part where
 fit:Fit
 least:Nat
 most:Nat
 deriving DecidableEq
def Part.one (f:Fit):Part:=⟨f,1,1⟩
def Part.maybe (f:Fit):Part:=⟨f,0,1⟩
def Part.many (f:Fit):Part:=⟨f,0,9223372036854775807⟩
def Part.takes (p:Part)(l:List Int):Nat:=run p.fit.f (l.take p.most)
def inTurnP:List Part→List Int→Bool
 | [],l=>l.isEmpty
 | p::ps,l=>decide (p.least≤p.takes l)&&inTurnP ps (l.drop (p.takes l))
structure Rule where
 named:Bool
 most:Int
 parts:List Part
 deriving DecidableEq
abbrev pW:Part:=.one (.of [5])
abbrev pR:Part:=.one (.of [20])
abbrev pB:Part:=.one (.of [6])
abbrev pE:Part:=.one .expr
abbrev pN:Part:=.one (.of [21])
def ruleT:List (Int × Rule) :=
 [(1,⟨false,0,[.many (.of [2,3])]⟩),(2,⟨true,0,[pW,.many (.of [5])]⟩),(3,⟨true,1,[.one (.of [4]),pB]⟩),(4,⟨false,0,[.many (.of [5])]⟩),
  (5,⟨true,0,[]⟩),(6,⟨false,0,[.many .stmt]⟩),(7,⟨true,1,[pR,pW]⟩),(8,⟨false,0,[pR,pW,pE]⟩),(9,⟨false,0,[pR,pE,.many .expr]⟩),
  (10,⟨false,0,[pR]⟩),(11,⟨true,0,[pW,pW]⟩),(12,⟨false,1,[pW]⟩),(13,⟨false,0,[.one (.of [5,20])]⟩),(14,⟨false,1,[pE,pE,pB,.maybe (.of [6])]⟩),
  (15,⟨true,0,[pN,pN,pB]⟩),(16,⟨true,0,[pE]⟩),(17,⟨false,0,[pE]⟩),(18,⟨false,0,[]⟩),(19,⟨false,0,[]⟩),(20,⟨true,0,[pE]⟩),
  (21,⟨false,2147483647,[]⟩),(22,⟨true,0,[]⟩),(23,⟨false,0,[pE,pE]⟩),(24,⟨false,0,[pE,pE]⟩),(25,⟨false,0,[pE,pE]⟩),(26,⟨false,0,[pE]⟩)]
def ruleOf (k:Int):Option Rule:=(ruleT.find? fun x=>x.1==k).map (·.2)
def textOk (named:Bool)(s:ByteArray):Bool:=if named then namesF (bytesI s) else decide (s.size=0)
def fitsRule (r:Rule)(nd:Nd)(kinds:List Int):Bool:=textOk r.named nd.text&&(decide (0≤nd.n)&&(decide (nd.n≤r.most)&&inTurnP r.parts kinds))
def kindAt (t:List Nd)(i:Nat):Int:=(t.getD i default).kind
def kidsAt (t:List Nd)(i:Nat):List Int:=(t.getD i default).kids
def kindsOf (t:List Nd)(nd:Nd):List Int:=nd.kids.map fun k=>kindAt t k.toNat
def nodeOk (t:List Nd)(nd:Nd):Bool:=match ruleOf nd.kind with
 | none=>false
 | some r=>fitsRule r nd (kindsOf t nd)
def ruledP (t:List Nd):Bool:=t.all (nodeOk t)
def rowsOf (t:List Nd):List (List Int):=t.map (·.kids)
def sizesP (t:List Nd):Option (List Nat):=match sizesL (rowsOf t) 0 with
 | none=>none
 | some s=>if s.length≠0∧s.getD 0 0=s.length then some s else none
def rightP (t:List Nd):Bool:=match sizesP t with
 | none=>false
 | some _=>kindAt t 0==1&&ruledP t
def ownK (t:List Nd)(i j:Nat):Nat:=if kindAt t j=6∨kindAt t j=20∨(isExprK (kindAt t j)∧isExprK (kindAt t i)) then 1 else 0
def deepP (t:List Nd):Nat:=if rightP t then deepK (ownK t) (kidsAt t) t.length 0 else 0
def isR (l:List Int)(want:List Int):Bool:=decide (l.length=want.length)&&(l.zip want).all fun p=>if p.2=0 then isExprK p.1 else p.1==p.2
def kidsR (kind:Int)(l:List Int):Bool :=
 if kind=1 then l.all (fun k=>k==2||k==3)
 else if kind=2 then decide (0<l.length)&&l.all (·==5)
 else if kind=3 then isR l [4,6]
 else if kind=4 then l.all (·==5)
 else if kind=6 then l.all isStmtK
 else if kind=7 then isR l [20,5]
 else if kind=8 then isR l [20,5,0]
 else if kind=9 then decide (1<l.length)&&(l.getD 0 0==20&&(l.drop 1).all isExprK)
 else if kind=10 then isR l [20]
 else if kind=11 then isR l [5,5]
 else if kind=12 then isR l [5]
 else if kind=13 then isR l [5]||isR l [20]
 else if kind=14 then isR l [0,0,6]||isR l [0,0,6,6]
 else if kind=15 then isR l [21,21,6]
 else if kind=16∨kind=17∨kind=20∨kind=26 then isR l [0]
 else if kind=23∨kind=24∨kind=25 then isR l [0,0]
 else decide (l.length=0)
def namedR (k:Int):Bool:=k==2||k==3||k==5||k==7||k==11||k==15||k==16||k==20||k==22
def mostR (k:Int):Int:=if k=3∨k=7∨k=12∨k=14 then 1 else if k=21 then 2147483647 else 0
def wordsR (nd:Nd):Bool:=(namedR nd.kind==namesF (bytesI nd.text))&&((namedR nd.kind||decide (nd.text.size=0))&&(decide (0≤nd.n)&&decide (nd.n≤mostR nd.kind)))
def nodeR (t:List Nd)(nd:Nd):Bool:=decide (1≤nd.kind)&&(decide (nd.kind≤26)&&(wordsR nd&&kidsR nd.kind (kindsOf t nd)))
theorem run_none {p:Int→Bool}{l:List Int}(h:∀x,l.head?=some x→p x=false):run p l=0:=by
 cases l with
 | nil=>rfl
 | cons c r=>simp only [run];rw [if_neg (by rw [h c rfl];simp)]
theorem inTurn_nil (l:List Int):inTurnP [] l=decide (l.length=0):=by cases l<;>simp [inTurnP]
theorem inTurn_one (f:Fit)(ps:List Part)(l:List Int):inTurnP (.one f::ps) l=match l with|[]=>false|k::l'=>f.f k&&inTurnP ps l':=by
 cases l with
 | nil=>simp [inTurnP,Part.takes,Part.one,run]
 | cons k l =>
  by_cases h:f.f k=true
  · simp [inTurnP,Part.takes,Part.one,run,h]
  · simp [inTurnP,Part.takes,Part.one,run,h]
theorem inTurn_maybe (f:Fit)(l:List Int):inTurnP [.maybe f] l=match l with|[]=>true|[k]=>f.f k|_=>false:=by
 match l with
 | []=>simp [inTurnP,Part.takes,Part.maybe,run]
 | [k] =>
  by_cases h:f.f k=true
  · simp [inTurnP,Part.takes,Part.maybe,run,h]
  · simp [inTurnP,Part.takes,Part.maybe,run,h]
 | k::k2::l =>
  by_cases h:f.f k=true
  · simp [inTurnP,Part.takes,Part.maybe,run,h]
  · simp [inTurnP,Part.takes,Part.maybe,run,h]
theorem run_all_iff (p:Int→Bool)(l:List Int):decide (run p l=l.length)=l.all p:=by
 induction l with
 | nil=>simp [run]
 | cons c r ih =>
  simp only [run,List.all_cons,List.length_cons]
  by_cases h:p c=true
  · simp only [h,if_true,Bool.true_and,← ih]
    simp
  · simp [h]
theorem inTurn_many (f:Fit)(l:List Int)(hl:l.length≤9223372036854775807):inTurnP [.many f] l=l.all f.f:=by
 have h:=run_le f.f l
 simp only [inTurnP,Part.takes,Part.many,List.take_of_length_le hl,Nat.zero_le,decide_true,Bool.true_and]
 rw [← run_all_iff,Bool.eq_iff_iff,List.isEmpty_iff_length_eq_zero,List.length_drop,decide_eq_true_iff]
 omega
theorem isR_nil (l:List Int):isR l []=decide (l.length=0):=by cases l<;>simp [isR]
theorem isR_cons (w:Int)(ws l:List Int):isR l (w::ws)=match l with|[]=>false|k::l'=>(if w=0 then isExprK k else k==w)&&isR l' ws:=by
 cases l with
 | nil=>simp [isR]
 | cons k l =>
  simp only [isR,List.length_cons,List.zip_cons_cons,List.all_cons,Nat.add_right_cancel_iff]
  cases (if w=0 then isExprK k else k==w)<;>simp
theorem nodeOk_eq (t:List Nd)(nd:Nd)(hl:nd.kids.length≤9223372036854775807):nodeOk t nd=nodeR t nd:=by
 have hk:(kindsOf t nd).length≤9223372036854775807:=by simpa [kindsOf] using hl
 have hz:∀s:ByteArray,s.size=0→namesF (bytesI s)=false:=fun s hs=>by
  have:bytesI s=[]:=List.eq_nil_of_length_eq_zero (by rw [bytesI_length];exact hs)
  rw [this];rfl
 have hw0:∀b:Bool,namedR nd.kind=b→((b==namesF (bytesI nd.text))&&(b||decide (nd.text.size=0)))=textOk b nd.text:=by
  intro b _
  cases b with
  | true=>simp [textOk]
  | false =>
   by_cases h:nd.text.size=0
   · simp [textOk,h,hz _ h]
   · simp [textOk,h]
 unfold nodeOk nodeR wordsR
 generalize kindsOf t nd=l at *
 by_cases h1:1≤nd.kind∧nd.kind≤26
 · have hcase:nd.kind=1∨nd.kind=2∨nd.kind=3∨nd.kind=4∨nd.kind=5∨nd.kind=6∨nd.kind=7∨nd.kind=8∨nd.kind=9∨nd.kind=10∨nd.kind=11∨nd.kind=12∨nd.kind=13∨nd.kind=14∨nd.kind=15∨nd.kind=16∨nd.kind=17∨nd.kind=18∨nd.kind=19∨nd.kind=20∨nd.kind=21∨nd.kind=22∨nd.kind=23∨nd.kind=24∨nd.kind=25∨nd.kind=26:=by omega
   have key:∀r:Rule,ruleOf nd.kind=some r→r.named=namedR nd.kind→r.most=mostR nd.kind→inTurnP r.parts l=kidsR nd.kind l →
    (match ruleOf nd.kind with|none=>false|some r=>fitsRule r nd l)=(decide (1≤nd.kind)&&(decide (nd.kind≤26)&&((namedR nd.kind==namesF (bytesI nd.text))&&((namedR nd.kind||decide (nd.text.size=0))&&(decide (0≤nd.n)&&decide (nd.n≤mostR nd.kind)))&&kidsR nd.kind l))):=by
    intro r hr hn hm hp
    rw [hr]
    simp only [fitsRule,hn,hm,hp,decide_eq_true h1.1,decide_eq_true h1.2,Bool.true_and]
    rw [← hw0 _ rfl]
    simp only [Bool.and_assoc]
   rcases hcase with h|h|h|h|h|h|h|h|h|h|h|h|h|h|h|h|h|h|h|h|h|h|h|h|h|h
   all_goals
    rw [h] at key ⊢
    refine key _ rfl rfl rfl ?_
    clear key hw0 hz h h1
    first
    | (show inTurnP [.many _] l = _
       rw [inTurn_many _ _ hk]
       simp [kidsR,Fit.f_of,Fit.f_stmt]
       done)
    | (show inTurnP (.one _ :: .many _ :: []) l = _
       rw [inTurn_one]
       rcases l with _|⟨a,l⟩
       · simp [kidsR]
       · simp only [inTurn_many _ l (by simp at hk;omega)]
         simp [kidsR,Fit.f_of]
       done)
    | (show inTurnP (.one _ :: .one _ :: .many _ :: []) l = _
       rw [inTurn_one]
       rcases l with _|⟨a,_|⟨b,l⟩⟩
       · simp [kidsR]
       · simp [kidsR,inTurn_one]
       · simp only [inTurn_one,inTurn_many _ l (by simp at hk;omega)]
         simp [kidsR,Fit.f_of,Fit.f_expr]
       done)
    | (rcases l with _ | ⟨a, _ | ⟨b, _ | ⟨c, _ | ⟨d, _ | ⟨e, l⟩⟩⟩⟩⟩ <;> simp [kidsR, inTurn_nil, inTurn_one, inTurn_maybe, isR_cons, isR_nil, Fit.f_of, Fit.f_expr]
       done)
 · rw [show (decide (1≤nd.kind)&&(decide (nd.kind≤26)&&((namedR nd.kind==namesF (bytesI nd.text))&&((namedR nd.kind||decide (nd.text.size=0))&&(decide (0≤nd.n)&&decide (nd.n≤mostR nd.kind)))&&kidsR nd.kind l)))=false by
    by_cases h2:1≤nd.kind
    · have:¬ nd.kind≤26:=fun h3=>h1 ⟨h2,h3⟩
      simp [this]
    · simp [h2]]
   have:ruleOf nd.kind=none:=by
    unfold ruleOf ruleT
    simp only [Option.map_eq_none_iff,List.find?_eq_none]
    intro x hx
    simp only [List.mem_cons,List.not_mem_nil,or_false] at hx
    simp only [beq_iff_eq]
    intro e
    rcases hx with h|h|h|h|h|h|h|h|h|h|h|h|h|h|h|h|h|h|h|h|h|h|h|h|h|h
    all_goals (rw [h] at e;simp only at e;omega)
   rw [this]
end Tr
end Go.Proofs.YthdioipfdbbmmaaGreatDoor
section
namespace Go.Proofs.YthdioipfdbbmmaaGreatDoor
abbrev Nd:=Tr.Nd
structure PT where
 kind:Int
 at':Nat
 txt:ByteArray
 n:Int
inductive Ast where
 | mk (kind:Int) (at':Nat) (txt:ByteArray) (n:Int) (kids:List Ast)
def Ast.at':Ast→Nat|.mk _ a _ _ _=>a
inductive Res (α:Type) where
 | err (at':Nat) (code:Int)
 | ok (a:α) (l:List PT)
abbrev Par (α:Type):=List PT→Res α
namespace Par
def pure {α:Type}(a:α):Par α:=fun l=>.ok a l
def bind {α β:Type}(f:Par α)(g:α→Par β):Par β:=fun l=>match f l with
 | .err a c=>.err a c
 | .ok a l'=>g a l'
theorem bind_ok {α β:Type}{f:Par α}{g:α→Par β}{l l':List PT}{a:α}(h:f l=.ok a l'):bind f g l=g a l':=by simp only [bind,h]
theorem bind_err {α β:Type}{f:Par α}{g:α→Par β}{l:List PT}{a:Nat}{c:Int}(h:f l=.err a c):bind f g l=.err a c:=by simp only [bind,h]
def loop {α:Type}(step:α→Par (Option α)):Nat→α→Par α
 | 0,_=>fun _=>.err 0 99
 | m+1,a=>bind (step a) fun
  | none=>pure a
  | some b=>loop step m b
def many {α:Type}(step:α→Par (Option α))(a:α):Par α:=fun l=>loop step (l.length+1) a l
def Less {α:Type}(f:Par α):Prop:=∀l a l',f l=.ok a l'→l'.length≤l.length
def Adv {α:Type}(step:α→Par (Option α)):Prop:=∀a l b l',step a l=.ok b l'→(b.isSome→l'.length<l.length)∧l'.length≤l.length
theorem loop_more {α:Type}{step:α→Par (Option α)}(hs:Adv step)(m k:Nat)(a:α)(l:List PT)(h:l.length<m)(h':l.length<k):loop step m a l=loop step k a l:=by
 induction m generalizing k a l with
 | zero=>omega
 | succ m ih =>
  cases k with
  | zero=>omega
  | succ k =>
   simp only [loop,bind]
   cases hst:step a l with
   | err p c=>rfl
   | ok b l' =>
    cases b with
    | none=>rfl
    | some b =>
     have:=(hs a l (some b) l' hst).1 rfl
     exact ih k b l' (by omega) (by omega)
theorem many_err {α:Type}{step:α→Par (Option α)}{a:α}{l:List PT}{p:Nat}{c:Int}(h:step a l=.err p c):many step a l=.err p c:=by
 simp only [many,loop,bind,h]
theorem many_done {α:Type}{step:α→Par (Option α)}{a:α}{l l':List PT}(h:step a l=.ok none l'):many step a l=.ok a l':=by
 simp only [many,loop,bind,h,pure]
theorem many_more {α:Type}{step:α→Par (Option α)}(hs:Adv step){a b:α}{l l':List PT}(h:step a l=.ok (some b) l'):many step a l=many step b l':=by
 have h1:=(hs a l (some b) l' h).1 rfl
 show loop step (l.length+1) a l=loop step (l'.length+1) b l'
 rw [loop]
 simp only [bind,h]
 exact loop_more hs _ _ b l' (by omega) (by omega)
theorem Less.pure {α:Type}(a:α):Less (pure a):=fun l b l' h=>by
 simp only [Par.pure,Res.ok.injEq] at h
 rw [h.2];exact Nat.le_refl _
theorem Less.bind {α β:Type}{f:Par α}{g:α→Par β}(hf:Less f)(hg:∀a,Less (g a)):Less (bind f g):=fun l b l' h=>by
 simp only [Par.bind] at h
 cases hfl:f l with
 | err p c=>rw [hfl] at h;simp at h
 | ok a l1 =>
  rw [hfl] at h
  exact Nat.le_trans (hg a l1 b l' h) (hf l a l1 hfl)
theorem Less.loop {α:Type}{step:α→Par (Option α)}(hs:∀a,Less (step a))(m:Nat)(a:α):Less (loop step m a):=by
 induction m generalizing a with
 | zero=>intro l b l' h;simp [Par.loop] at h
 | succ m ih =>
  refine Less.bind (hs a) fun b=>?_
  cases b with
  | none=>exact Less.pure a
  | some b=>exact ih b
theorem Less.many {α:Type}{step:α→Par (Option α)}(hs:∀a,Less (step a))(a:α):Less (many step a):=fun l=>Less.loop hs (l.length+1) a l
end Par
open Par
def isNextP (s:ByteArray):Par Bool
 | []=>.err 0 99
 | t::l=>.ok (decide (t.txt=s)) (t::l)
def skipP (s:ByteArray):Par Bool
 | []=>.err 0 99
 | t::l=>if t.txt=s then .ok true l else .ok false (t::l)
def expectP (s:ByteArray):Par Nat
 | []=>.err 0 99
 | t::l=>if t.txt=s then .ok t.at' l else .err t.at' 50
def takeP (k:Int):Par PT
 | []=>.err 0 99
 | t::l=>if t.kind=k then .ok t l else .err t.at' 50
def peekP:Par PT
 | []=>.err 0 99
 | t::l=>.ok t (t::l)
def nextP:Par PT
 | []=>.err 0 99
 | t::l=>.ok t l
def enterP (s:ByteArray)(r:Nat):Par Nat
 | []=>.err 0 99
 | t::l=>if t.txt=s then (if r=0 then .err t.at' 51 else .ok t.at' l) else .err t.at' 50
def failP {α:Type}:Par α
 | []=>.err 0 99
 | t::_=>.err t.at' 50
abbrev none0:ByteArray:=⟨#[]⟩
def nodeA (k:Int)(a:Nat)(ks:List Ast):Ast:=.mk k a none0 0 ks
def wordA (t:PT):Ast:=.mk 5 t.at' t.txt 0 []
-- expressions
def bothA (k:Int)(a b:Ast):Ast:=.mk k a.at' none0 0 [a,b]
def timesStep (fac:Par Ast)(a:Ast):Par (Option Ast):=bind (skipP ⟨#[42]⟩) fun
 | true=>bind fac fun b=>pure (some (bothA 25 a b))
 | false=>pure none
def termP (fac:Par Ast):Par Ast:=bind fac fun a=>many (timesStep fac) a
def sumStep (fac:Par Ast)(a:Ast):Par (Option Ast):=bind (skipP ⟨#[43]⟩) fun
 | true=>bind (termP fac) fun b=>pure (some (bothA 23 a b))
 | false=>bind (skipP ⟨#[45]⟩) fun
  | true=>bind (termP fac) fun b=>pure (some (bothA 24 a b))
  | false=>pure none
def exprP (fac:Par Ast):Par Ast:=bind (termP fac) fun a=>many (sumStep fac) a
def numberP:Par Ast:=bind (takeP 2) fun t=>pure (.mk 21 t.at' none0 t.n [])
def bracketP (r:Nat)(ex:Par Ast):Par Ast:=bind (enterP ⟨#[40]⟩ r) fun _=>bind ex fun a=>bind (expectP ⟨#[41]⟩) fun _=>pure a
def negP (r:Nat)(fac:Par Ast):Par Ast:=bind (enterP ⟨#[45]⟩ r) fun p=>bind fac fun a=>pure (nodeA 26 p [a])
def factorOf (r:Nat)(fac:Par Ast):Par Ast:=bind peekP fun t =>
 if t.kind=2 then numberP
 else if t.kind=1 then bind nextP fun t=>pure (.mk 22 t.at' t.txt 0 [])
 else if t.txt=⟨#[40]⟩ then bracketP r (exprP fac)
 else if t.txt=⟨#[45]⟩ then negP r fac
 else failP
def factorP:Nat→Par Ast
 | 0=>factorOf 0 failP
 | r+1=>factorOf (r+1) (factorP r)
def exprR (r:Nat):Par Ast:=exprP (factorP r)
-- statements
def wordP:Par Ast:=bind (takeP 1) fun t=>pure (wordA t)
def wordsStep (ks:List Ast):Par (Option (List Ast)):=bind (skipP ⟨#[44]⟩) fun
 | true=>bind wordP fun w=>pure (some (ks++[w]))
 | false=>pure none
def wordsP:Par (List Ast):=bind wordP fun w=>many wordsStep [w]
def rowOfP (r:Nat)(t:PT):Par Ast:=bind (enterP ⟨#[91]⟩ r) fun _=>bind (exprR (r-1)) fun k=>bind (expectP ⟨#[93]⟩) fun _=>pure (.mk 20 t.at' t.txt 0 [k])
def rowP (r:Nat):Par Ast:=bind (takeP 1) fun t=>rowOfP r t
def cellP (r:Nat):Par (Ast × Ast):=bind (rowP r) fun a=>bind (expectP ⟨#[46]⟩) fun _=>bind wordP fun b=>pure (a,b)
def endP (a:Ast):Par Ast:=bind (expectP ⟨#[59]⟩) fun _=>pure a
def readP (r:Nat)(p:Nat):Par Ast:=bind (takeP 1) fun t=>bind (expectP ⟨#[61]⟩) fun _=>bind (cellP r) fun rc=>bind (skipP ⟨#[102,111,114]⟩) fun
 | true=>bind (expectP ⟨#[117,112,100,97,116,101]⟩) fun _=>endP (.mk 7 p t.txt 1 [rc.1,rc.2])
 | false=>endP (.mk 7 p t.txt 0 [rc.1,rc.2])
def setP (r:Nat)(p:Nat):Par Ast:=bind (cellP r) fun rc=>bind (expectP ⟨#[61]⟩) fun _=>bind (exprR r) fun v=>endP (nodeA 8 p [rc.1,rc.2,v])
def putStep (r:Nat)(ks:List Ast):Par (Option (List Ast)):=bind (skipP ⟨#[44]⟩) fun
 | true=>bind (exprR r) fun w=>pure (some (ks++[w]))
 | false=>pure none
def putP (r:Nat)(p:Nat):Par Ast:=bind (rowP r) fun a=>bind (expectP ⟨#[40]⟩) fun _=>bind (exprR r) fun e=>bind (many (putStep r) [a,e]) fun ks=>bind (expectP ⟨#[41]⟩) fun _=>endP (nodeA 9 p ks)
def deleteP (r:Nat)(p:Nat):Par Ast:=bind (rowP r) fun a=>endP (nodeA 10 p [a])
def scanP (p:Nat):Par Ast:=bind (takeP 1) fun t=>bind (expectP ⟨#[61]⟩) fun _=>bind wordP fun a=>bind (expectP ⟨#[46]⟩) fun _=>bind wordP fun b=>endP (.mk 11 p t.txt 0 [a,b])
def lockP (p:Nat):Par Ast:=bind wordP fun a=>bind (skipP ⟨#[97,108,108]⟩) fun
 | true=>endP (.mk 12 p none0 1 [a])
 | false=>bind (expectP ⟨#[115,104,97,114,101,100]⟩) fun _=>endP (.mk 12 p none0 0 [a])
def releaseP (r:Nat)(p:Nat):Par Ast:=bind (takeP 1) fun t=>bind (isNextP ⟨#[91]⟩) fun
 | true=>bind (rowOfP r t) fun a=>endP (nodeA 13 p [a])
 | false=>endP (nodeA 13 p [wordA t])
def ifTail (B:Par Ast)(p:Nat)(n:Int)(a b:Ast):Par Ast:=bind B fun c=>bind (skipP ⟨#[101,108,115,101]⟩) fun
 | true=>bind B fun d=>pure (.mk 14 p none0 n [a,b,c,d])
 | false=>pure (.mk 14 p none0 n [a,b,c])
def ifP (r:Nat)(B:Par Ast)(p:Nat):Par Ast:=bind (exprR r) fun a=>bind (skipP ⟨#[61,61]⟩) fun
 | true=>bind (exprR r) fun b=>ifTail B p 1 a b
 | false=>bind (expectP ⟨#[60]⟩) fun _=>bind (exprR r) fun b=>ifTail B p 0 a b
def forP (B:Par Ast)(p:Nat):Par Ast:=bind (takeP 1) fun t=>bind (expectP ⟨#[61]⟩) fun _=>bind numberP fun a=>bind (expectP ⟨#[116,111]⟩) fun _=>bind numberP fun b=>bind B fun c=>pure (.mk 15 p t.txt 0 [a,b,c])
def letP (r:Nat)(p:Nat):Par Ast:=bind (takeP 1) fun t=>bind (expectP ⟨#[61]⟩) fun _=>bind (exprR r) fun v=>endP (.mk 16 p t.txt 0 [v])
def emitP (r:Nat)(p:Nat):Par Ast:=bind (exprR r) fun v=>endP (nodeA 17 p [v])
def rollbackP (p:Nat):Par Ast:=endP (nodeA 18 p [])
def chopP (p:Nat):Par Ast:=endP (nodeA 19 p [])
def words13:List ByteArray:=[⟨#[114,101,97,100]⟩,⟨#[115,101,116]⟩,⟨#[112,117,116]⟩,⟨#[100,101,108,101,116,101]⟩,⟨#[115,99,97,110]⟩,⟨#[108,111,99,107]⟩,⟨#[114,101,108,101,97,115,101]⟩,⟨#[105,102]⟩,⟨#[102,111,114]⟩,⟨#[108,101,116]⟩,⟨#[101,109,105,116]⟩,⟨#[114,111,108,108,98,97,99,107]⟩,⟨#[99,104,111,112]⟩]
def restP (r:Nat)(B:Par Ast)(j p:Nat):Par Ast :=
 match j with
 | 0=>readP r p
 | 1=>setP r p
 | 2=>putP r p
 | 3=>deleteP r p
 | 4=>scanP p
 | 5=>lockP p
 | 6=>releaseP r p
 | 7=>ifP r B p
 | 8=>forP B p
 | 9=>letP r p
 | 10=>emitP r p
 | 11=>rollbackP p
 | 12=>chopP p
 | _=>failP
def stmtP (r:Nat)(B:Par Ast):Par Ast:=bind peekP fun t =>
 if words13.idxOf t.txt<13 then bind nextP fun t=>restP r B (words13.idxOf t.txt) t.at' else failP
def blockStep (st:Par Ast)(ks:List Ast):Par (Option (List Ast)):=bind (isNextP ⟨#[125]⟩) fun
 | true=>pure none
 | false=>bind st fun s=>pure (some (ks++[s]))
def blockOf (r:Nat)(st:Par Ast):Par Ast:=bind (enterP ⟨#[123]⟩ r) fun p=>bind (many (blockStep st) []) fun ks=>bind (expectP ⟨#[125]⟩) fun _=>pure (nodeA 6 p ks)
def blockP:Nat→Par Ast
 | 0=>blockOf 0 failP
 | r+1=>blockOf (r+1) (stmtP r (blockP r))
-- programs
def namesP:Par Ast:=bind peekP fun t=>bind (isNextP ⟨#[41]⟩) fun
 | true=>pure (nodeA 4 t.at' [])
 | false=>bind wordsP fun ks=>pure (nodeA 4 t.at' ks)
def tableP:Par Ast:=bind (expectP ⟨#[116,97,98,108,101]⟩) fun p=>bind (takeP 1) fun t=>bind (expectP ⟨#[40]⟩) fun _=>bind wordsP fun ks=>bind (expectP ⟨#[41]⟩) fun _=>endP (.mk 2 p t.txt 0 ks)
def procP:Par Ast:=bind (expectP ⟨#[112,114,111,99]⟩) fun p=>bind (takeP 1) fun t=>bind (expectP ⟨#[40]⟩) fun _=>bind namesP fun ns=>bind (expectP ⟨#[41]⟩) fun _=>bind (skipP ⟨#[115,105,110,103,108,101]⟩) fun
 | true=>bind (blockP 64) fun b=>pure (.mk 3 p t.txt 1 [ns,b])
 | false=>bind (blockP 64) fun b=>pure (.mk 3 p t.txt 0 [ns,b])
def progStep (ks:List Ast):Par (Option (List Ast)):=bind peekP fun t =>
 if t.kind=4 then pure none
 else bind (isNextP ⟨#[116,97,98,108,101]⟩) fun
  | true=>bind tableP fun a=>pure (some (ks++[a]))
  | false=>bind procP fun a=>pure (some (ks++[a]))
def programP:Par Ast:=bind peekP fun t=>bind (many progStep []) fun ks=>pure (nodeA 1 t.at' ks)
end Go.Proofs.YthdioipfdbbmmaaGreatDoor
end
namespace Go.Proofs.YthdioipfdbbmmaaGreatDoor
section
open Par
theorem less_isNext (s:ByteArray):Less (isNextP s):=fun l b l' h=>by
 cases l with
 | nil=>simp [isNextP] at h
 | cons t l=>simp only [isNextP,Res.ok.injEq] at h;rw [← h.2];exact Nat.le_refl _
theorem less_skip (s:ByteArray):Less (skipP s):=fun l b l' h=>by
 cases l with
 | nil=>simp [skipP] at h
 | cons t l =>
  simp only [skipP] at h
  split at h<;>simp only [Res.ok.injEq] at h<;>rw [← h.2]<;>simp
theorem less_expect (s:ByteArray):Less (expectP s):=fun l b l' h=>by
 cases l with
 | nil=>simp [expectP] at h
 | cons t l =>
  simp only [expectP] at h
  split at h
  · simp only [Res.ok.injEq] at h;rw [← h.2];simp
  · simp at h
theorem less_take (k:Int):Less (takeP k):=fun l b l' h=>by
 cases l with
 | nil=>simp [takeP] at h
 | cons t l =>
  simp only [takeP] at h
  split at h
  · simp only [Res.ok.injEq] at h;rw [← h.2];simp
  · simp at h
theorem less_peek:Less peekP:=fun l b l' h=>by
 cases l with
 | nil=>simp [peekP] at h
 | cons t l=>simp only [peekP,Res.ok.injEq] at h;rw [← h.2];exact Nat.le_refl _
theorem less_next:Less nextP:=fun l b l' h=>by
 cases l with
 | nil=>simp [nextP] at h
 | cons t l=>simp only [nextP,Res.ok.injEq] at h;rw [← h.2];simp
theorem less_enter (s:ByteArray)(r:Nat):Less (enterP s r):=fun l b l' h=>by
 cases l with
 | nil=>simp [enterP] at h
 | cons t l =>
  simp only [enterP] at h
  split at h
  · split at h
    · simp at h
    · simp only [Res.ok.injEq] at h;rw [← h.2];simp
  · simp at h
theorem less_fail {α:Type}:Less (failP:Par α):=fun l b l' h=>by
 cases l<;>simp [failP] at h
theorem less_ite {α:Type}{c:Prop}[Decidable c]{f g:Par α}(hf:Less f)(hg:Less g):Less (if c then f else g):=by
 split<;>assumption
theorem less_bool {α:Type}{f g:Par α}(hf:Less f)(hg:Less g)(b:Bool):Less (match b with|true=>f|false=>g):=by
 cases b<;>assumption
def Takes {α:Type}(f:Par α):Prop:=∀l a l',f l=.ok a l'→l'.length<l.length
theorem Takes.less {α:Type}{f:Par α}(h:Takes f):Less f:=fun l a l' e=>Nat.le_of_lt (h l a l' e)
theorem Takes.left {α β:Type}{f:Par α}{g:α→Par β}(hf:Takes f)(hg:∀a,Less (g a)):Takes (bind f g):=fun l b l' h=>by
 simp only [Par.bind] at h
 cases hfl:f l with
 | err p c=>rw [hfl] at h;simp at h
 | ok a l1 =>
  rw [hfl] at h
  exact Nat.lt_of_le_of_lt (hg a l1 b l' h) (hf l a l1 hfl)
theorem Takes.right {α β:Type}{f:Par α}{g:α→Par β}(hf:Less f)(hg:∀a,Takes (g a)):Takes (bind f g):=fun l b l' h=>by
 simp only [Par.bind] at h
 cases hfl:f l with
 | err p c=>rw [hfl] at h;simp at h
 | ok a l1 =>
  rw [hfl] at h
  exact Nat.lt_of_lt_of_le (hg a l1 b l' h) (hf l a l1 hfl)
theorem takes_expect (s:ByteArray):Takes (expectP s):=fun l b l' h=>by
 cases l with
 | nil=>simp [expectP] at h
 | cons t l =>
  simp only [expectP] at h
  split at h
  · simp only [Res.ok.injEq] at h;rw [← h.2];simp
  · simp at h
theorem takes_take (k:Int):Takes (takeP k):=fun l b l' h=>by
 cases l with
 | nil=>simp [takeP] at h
 | cons t l =>
  simp only [takeP] at h
  split at h
  · simp only [Res.ok.injEq] at h;rw [← h.2];simp
  · simp at h
theorem takes_next:Takes nextP:=fun l b l' h=>by
 cases l with
 | nil=>simp [nextP] at h
 | cons t l=>simp only [nextP,Res.ok.injEq] at h;rw [← h.2];simp
theorem takes_fail {α:Type}:Takes (failP:Par α):=fun l b l' h=>by
 cases l<;>simp [failP] at h
theorem adv_skip {α:Type}{s:ByteArray}{g h:α→Par (Option α)}(hg:∀a,Less (g a))(hh:∀a,Less (h a))(hn:∀a l b l',h a l=.ok (some b) l'→l'.length<l.length) :
 Adv (fun a=>bind (skipP s) fun|true=>g a|false=>h a):=fun a l b l' e=>by
 refine ⟨fun hb=>?_,Less.bind (less_skip s) (fun x=>less_bool (hg a) (hh a) x) l b l' e⟩
 cases l with
 | nil=>simp [Par.bind,skipP] at e
 | cons t l =>
  simp only [Par.bind,skipP] at e
  by_cases ht:t.txt=s
  · rw [if_pos ht] at e
    have:=hg a l b l' e
    simp only [List.length_cons];omega
  · rw [if_neg ht] at e
    obtain ⟨c,rfl⟩:=Option.isSome_iff_exists.1 hb
    exact hn a _ c l' e
theorem none_no {α:Type}:∀(a:α) (l:List PT) (b:α) (l':List PT),(pure none:Par (Option α)) l=.ok (some b) l'→l'.length<l.length:=fun _ l b l' h=>by simp [Par.pure] at h
theorem less_times {fac:Par Ast}(h:Less fac)(a:Ast):Less (timesStep fac a) :=
 Less.bind (less_skip _) fun b=>less_bool (Less.bind h fun _=>Less.pure _) (Less.pure _) b
theorem step_times {fac:Par Ast}(h:Less fac):Adv (timesStep fac) :=
 adv_skip (fun _=>Less.bind h fun _=>Less.pure _) (fun _=>Less.pure _) none_no
theorem less_term {fac:Par Ast}(h:Less fac):Less (termP fac):=Less.bind h fun a=>Less.many (less_times h) a
theorem less_sum {fac:Par Ast}(h:Less fac)(a:Ast):Less (sumStep fac a) :=
 Less.bind (less_skip _) fun b=>less_bool (Less.bind (less_term h) fun _=>Less.pure _) (Less.bind (less_skip _) fun c=>less_bool (Less.bind (less_term h) fun _=>Less.pure _) (Less.pure _) c) b
theorem step_sum {fac:Par Ast}(h:Less fac):Adv (sumStep fac) :=
 adv_skip (fun _=>Less.bind (less_term h) fun _=>Less.pure _) (fun _=>Less.bind (less_skip _) fun c=>less_bool (Less.bind (less_term h) fun _=>Less.pure _) (Less.pure _) c)
  (fun _ l b l' e=>((adv_skip (s:=⟨#[45]⟩) (g:=fun a=>bind (termP fac) fun b=>pure (some (bothA 24 a b))) (h:=fun _=>pure none) (fun _=>Less.bind (less_term h) fun _=>Less.pure _) (fun _=>Less.pure _) none_no) _ l (some b) l' e).1 rfl)
theorem less_expr {fac:Par Ast}(h:Less fac):Less (exprP fac):=Less.bind (less_term h) fun a=>Less.many (less_sum h) a
theorem less_number:Less numberP:=Less.bind (less_take _) fun _=>Less.pure _
theorem less_factorOf (r:Nat){fac:Par Ast}(h:Less fac):Less (factorOf r fac) :=
 Less.bind less_peek fun _=>less_ite less_number <| less_ite (Less.bind less_next fun _=>Less.pure _) <|
  less_ite (Less.bind (less_enter _ _) fun _=>Less.bind (less_expr h) fun _=>Less.bind (less_expect _) fun _=>Less.pure _) <|
  less_ite (Less.bind (less_enter _ _) fun _=>Less.bind h fun _=>Less.pure _) less_fail
theorem less_factor (r:Nat):Less (factorP r):=by
 induction r with
 | zero=>exact less_factorOf 0 less_fail
 | succ r ih=>exact less_factorOf (r+1) ih
theorem less_exprR (r:Nat):Less (exprR r):=less_expr (less_factor r)
theorem less_word:Less wordP:=Less.bind (less_take _) fun _=>Less.pure _
theorem less_wordsStep (ks:List Ast):Less (wordsStep ks):=Less.bind (less_skip _) fun b=>less_bool (Less.bind less_word fun _=>Less.pure _) (Less.pure _) b
theorem step_words:Adv wordsStep:=adv_skip (fun _=>Less.bind less_word fun _=>Less.pure _) (fun _=>Less.pure _) none_no
theorem less_words:Less wordsP:=Less.bind less_word fun _=>Less.many less_wordsStep _
theorem less_rowOf (r:Nat)(t:PT):Less (rowOfP r t):=Less.bind (less_enter _ _) fun _=>Less.bind (less_exprR _) fun _=>Less.bind (less_expect _) fun _=>Less.pure _
theorem less_row (r:Nat):Less (rowP r):=Less.bind (less_take _) fun t=>less_rowOf r t
theorem less_cell (r:Nat):Less (cellP r):=Less.bind (less_row r) fun _=>Less.bind (less_expect _) fun _=>Less.bind less_word fun _=>Less.pure _
theorem less_end (a:Ast):Less (endP a):=Less.bind (less_expect _) fun _=>Less.pure _
theorem less_read (r p:Nat):Less (readP r p):=Less.bind (less_take _) fun _=>Less.bind (less_expect _) fun _=>Less.bind (less_cell r) fun _=>Less.bind (less_skip _) fun b=>less_bool (Less.bind (less_expect _) fun _=>less_end _) (less_end _) b
theorem less_set (r p:Nat):Less (setP r p):=Less.bind (less_cell r) fun _=>Less.bind (less_expect _) fun _=>Less.bind (less_exprR r) fun _=>less_end _
theorem less_putStep (r:Nat)(ks:List Ast):Less (putStep r ks):=Less.bind (less_skip _) fun b=>less_bool (Less.bind (less_exprR r) fun _=>Less.pure _) (Less.pure _) b
theorem step_put (r:Nat):Adv (putStep r):=adv_skip (fun _=>Less.bind (less_exprR r) fun _=>Less.pure _) (fun _=>Less.pure _) none_no
theorem less_put (r p:Nat):Less (putP r p):=Less.bind (less_row r) fun _=>Less.bind (less_expect _) fun _=>Less.bind (less_exprR r) fun _=>Less.bind (Less.many (less_putStep r) _) fun _=>Less.bind (less_expect _) fun _=>less_end _
theorem less_delete (r p:Nat):Less (deleteP r p):=Less.bind (less_row r) fun _=>less_end _
theorem less_scan (p:Nat):Less (scanP p):=Less.bind (less_take _) fun _=>Less.bind (less_expect _) fun _=>Less.bind less_word fun _=>Less.bind (less_expect _) fun _=>Less.bind less_word fun _=>less_end _
theorem less_lock (p:Nat):Less (lockP p):=Less.bind less_word fun _=>Less.bind (less_skip _) fun b=>less_bool (less_end _) (Less.bind (less_expect _) fun _=>less_end _) b
theorem less_release (r p:Nat):Less (releaseP r p):=Less.bind (less_take _) fun t=>Less.bind (less_isNext _) fun b=>less_bool (Less.bind (less_rowOf r t) fun _=>less_end _) (less_end _) b
theorem less_ifTail {B:Par Ast}(h:Less B)(p:Nat)(n:Int)(a b:Ast):Less (ifTail B p n a b):=Less.bind h fun _=>Less.bind (less_skip _) fun b=>less_bool (Less.bind h fun _=>Less.pure _) (Less.pure _) b
theorem less_if (r:Nat){B:Par Ast}(h:Less B)(p:Nat):Less (ifP r B p):=Less.bind (less_exprR r) fun _=>Less.bind (less_skip _) fun b=>less_bool (Less.bind (less_exprR r) fun _=>less_ifTail h p _ _ _) (Less.bind (less_expect _) fun _=>Less.bind (less_exprR r) fun _=>less_ifTail h p _ _ _) b
theorem less_for {B:Par Ast}(h:Less B)(p:Nat):Less (forP B p):=Less.bind (less_take _) fun _=>Less.bind (less_expect _) fun _=>Less.bind less_number fun _=>Less.bind (less_expect _) fun _=>Less.bind less_number fun _=>Less.bind h fun _=>Less.pure _
theorem less_let (r p:Nat):Less (letP r p):=Less.bind (less_take _) fun _=>Less.bind (less_expect _) fun _=>Less.bind (less_exprR r) fun _=>less_end _
theorem less_emit (r p:Nat):Less (emitP r p):=Less.bind (less_exprR r) fun _=>less_end _
theorem less_rest (r:Nat){B:Par Ast}(h:Less B)(j p:Nat):Less (restP r B j p):=by
 unfold restP
 split
 · exact less_read r p
 · exact less_set r p
 · exact less_put r p
 · exact less_delete r p
 · exact less_scan p
 · exact less_lock p
 · exact less_release r p
 · exact less_if r h p
 · exact less_for h p
 · exact less_let r p
 · exact less_emit r p
 · exact less_end _
 · exact less_end _
 · exact less_fail
theorem takes_stmt (r:Nat){B:Par Ast}(h:Less B):Takes (stmtP r B):=Takes.right less_peek fun t=>by
 show Takes (if _ then _ else _)
 split
 · exact Takes.left takes_next fun t=>less_rest r h _ _
 · exact takes_fail
theorem less_blockStep {st:Par Ast}(h:Takes st)(ks:List Ast):Less (blockStep st ks):=Less.bind (less_isNext _) fun b=>less_bool (Less.pure _) (Less.bind h.less fun _=>Less.pure _) b
theorem step_block {st:Par Ast}(h:Takes st):Adv (blockStep st):=fun ks l b l' e=>by
 refine ⟨fun hb=>?_,less_blockStep h ks l b l' e⟩
 cases l with
 | nil=>simp [blockStep,Par.bind,isNextP] at e
 | cons t l =>
  simp only [blockStep,Par.bind,isNextP] at e
  by_cases ht:t.txt=⟨#[125]⟩
  · simp only [ht,decide_true,Par.pure,Res.ok.injEq] at e
    rw [← e.1] at hb;simp at hb
  · simp only [ht,decide_false,Par.bind] at e
    cases hs:st (t::l) with
    | err p c=>rw [hs] at e;simp at e
    | ok s l1 =>
     rw [hs] at e
     simp only [Par.pure,Res.ok.injEq] at e
     rw [← e.2]
     exact h _ _ _ hs
theorem less_blockOf (r:Nat){st:Par Ast}(h:Takes st):Less (blockOf r st):=Less.bind (less_enter _ _) fun _=>Less.bind (Less.many (less_blockStep h) _) fun _=>Less.bind (less_expect _) fun _=>Less.pure _
theorem less_block (r:Nat):Less (blockP r):=by
 induction r with
 | zero=>exact less_blockOf 0 takes_fail
 | succ r ih=>exact less_blockOf (r+1) (takes_stmt r ih)
theorem less_names:Less namesP:=Less.bind less_peek fun _=>Less.bind (less_isNext _) fun b=>less_bool (Less.pure _) (Less.bind less_words fun _=>Less.pure _) b
theorem takes_table:Takes tableP:=Takes.left (takes_expect _) fun _=>Less.bind (less_take _) fun _=>Less.bind (less_expect _) fun _=>Less.bind less_words fun _=>Less.bind (less_expect _) fun _=>less_end _
theorem takes_proc:Takes procP:=Takes.left (takes_expect _) fun _=>Less.bind (less_take _) fun _=>Less.bind (less_expect _) fun _=>Less.bind less_names fun _=>Less.bind (less_expect _) fun _=>Less.bind (less_skip _) fun b=>less_bool (Less.bind (less_block _) fun _=>Less.pure _) (Less.bind (less_block _) fun _=>Less.pure _) b
theorem less_progStep (ks:List Ast):Less (progStep ks):=Less.bind less_peek fun _=>less_ite (Less.pure _) (Less.bind (less_isNext _) fun b=>less_bool (Less.bind takes_table.less fun _=>Less.pure _) (Less.bind takes_proc.less fun _=>Less.pure _) b)
theorem step_prog:Adv progStep:=fun ks l b l' e=>by
 refine ⟨fun hb=>?_,less_progStep ks l b l' e⟩
 cases l with
 | nil=>simp [progStep,Par.bind,peekP] at e
 | cons t l =>
  simp only [progStep,Par.bind,peekP] at e
  by_cases ht:t.kind=4
  · rw [if_pos ht] at e
    simp only [Par.pure,Res.ok.injEq] at e
    rw [← e.1] at hb;simp at hb
  · rw [if_neg ht] at e
    simp only [Par.bind,isNextP] at e
    by_cases hx:t.txt=⟨#[116,97,98,108,101]⟩
    · simp only [hx,decide_true,Par.bind] at e
      cases hs:tableP (t::l) with
      | err p c=>rw [hs] at e;simp at e
      | ok s l1 =>
       rw [hs] at e
       simp only [Par.pure,Res.ok.injEq] at e
       rw [← e.2]
       exact takes_table _ _ _ hs
    · simp only [hx,decide_false,Par.bind] at e
      cases hs:procP (t::l) with
      | err p c=>rw [hs] at e;simp at e
      | ok s l1 =>
       rw [hs] at e
       simp only [Par.pure,Res.ok.injEq] at e
       rw [← e.2]
       exact takes_proc _ _ _ hs
end
section
open Par
mutual
def Ast.size:Ast→Nat
 | .mk _ _ _ _ ks=>sizeL ks+1
def sizeL:List Ast→Nat
 | []=>0
 | a::r=>a.size+sizeL r
end
mutual
def post (b:Nat):Ast→List Nd
 | .mk k a t n ks=>postL b ks++[⟨k,a,t,n,roots b ks⟩]
def postL (b:Nat):List Ast→List Nd
 | []=>[]
 | x::r=>post b x++postL (b+x.size) r
def roots (b:Nat):List Ast→List Int
 | []=>[]
 | x::r=>(((b+x.size:Nat):Int)-1)::roots (b+x.size) r
end
theorem size_pos (a:Ast):1≤a.size:=by cases a;simp [Ast.size]
theorem sizeL_append (x y:List Ast):sizeL (x++y)=sizeL x+sizeL y:=by
 induction x with
 | nil=>simp [sizeL]
 | cons a r ih=>simp only [List.cons_append,sizeL,ih];omega
theorem sizeL_one (a:Ast):sizeL [a]=a.size:=by simp [sizeL]
mutual
theorem post_length (b:Nat):∀a:Ast,(post b a).length=a.size
 | .mk k a t n ks=>by simp only [post,List.length_append,postL_length b ks,Ast.size,List.length_singleton]
theorem postL_length (b:Nat):∀l:List Ast,(postL b l).length=sizeL l
 | []=>by simp [postL,sizeL]
 | x::r=>by simp only [postL,List.length_append,post_length b x,postL_length (b+x.size) r,sizeL]
end
theorem postL_append (b:Nat)(x y:List Ast):postL b (x++y)=postL b x++postL (b+sizeL x) y:=by
 induction x generalizing b with
 | nil=>simp [postL,sizeL]
 | cons a r ih=>simp only [List.cons_append,postL,ih,List.append_assoc,sizeL,Nat.add_assoc]
theorem postL_one (b:Nat)(a:Ast):postL b [a]=post b a:=by simp [postL]
theorem roots_append (b:Nat)(x y:List Ast):roots b (x++y)=roots b x++roots (b+sizeL x) y:=by
 induction x generalizing b with
 | nil=>simp [roots,sizeL]
 | cons a r ih=>simp only [List.cons_append,roots,ih,sizeL,Nat.add_assoc]
theorem roots_one (b:Nat)(a:Ast):roots b [a]=[((b+a.size:Nat):Int)-1]:=by simp [roots]
theorem roots_length (b:Nat)(x:List Ast):(roots b x).length=x.length:=by
 induction x generalizing b with
 | nil=>rfl
 | cons a r ih=>simp only [roots,List.length_cons,ih]
theorem post_root (b:Nat)(a:Ast):∃ks,(post b a).getD (a.size-1) default=⟨(match a with|.mk k _ _ _ _=>k),a.at',(match a with|.mk _ _ t _ _=>t),(match a with|.mk _ _ _ n _=>n),ks⟩:=by
 cases a with
 | mk k a t n ks =>
  refine ⟨roots b ks,?_⟩
  simp only [post,Ast.size,Nat.add_sub_cancel,Ast.at']
  rw [← postL_length b ks]
  simp [List.getD]
def Sz {α:Type}(c:Nat)(f:Par α)(m:α→Nat):Prop:=∀l a l',f l=.ok a l'→m a+l'.length≤c+l.length
theorem Sz.bind {α β:Type}{c:Nat}{f:Par α}{g:α→Par β}{m:α→Nat}{m':β→Nat}(hf:Sz c f m)(hg:∀a,Sz (m a) (g a) m'):Sz c (Par.bind f g) m':=fun l b l' h=>by
 simp only [Par.bind] at h
 cases hfl:f l with
 | err p c=>rw [hfl] at h;simp at h
 | ok a l1 =>
  rw [hfl] at h
  have h1:=hg a l1 b l' h
  have h2:=hf l a l1 hfl
  omega
theorem Sz.pure {α:Type}{c:Nat}{a:α}{m:α→Nat}(h:m a≤c):Sz c (Par.pure a) m:=fun l b l' e=>by
 simp only [Par.pure,Res.ok.injEq] at e
 rw [← e.1,← e.2];omega
theorem Sz.less {α:Type}{c:Nat}{f:Par α}(h:Less f):Sz c f (fun _=>c):=fun l a l' e=>by
 have:=h l a l' e
 show c+_≤_
 omega
theorem Sz.takes {α:Type}{c:Nat}{f:Par α}(h:Takes f):Sz c f (fun _=>c+1):=fun l a l' e=>by
 have:=h l a l' e
 show c+1+_≤_
 omega
theorem Sz.skip {c:Nat}{s:ByteArray}:Sz c (skipP s) (fun b=>if b then c+1 else c):=fun l a l' e=>by
 cases l with
 | nil=>simp [skipP] at e
 | cons t l =>
  simp only [skipP] at e
  split at e<;>simp only [Res.ok.injEq] at e<;>rw [← e.1,← e.2]<;>simp<;>omega
theorem Sz.up {α:Type}{c k:Nat}{f:Par α}{m m':α→Nat}(h:Sz c f m)(hm:∀a,m' a≤m a+k):Sz (c+k) f m':=fun l a l' e=>by
 have h1:=h l a l' e
 have h2:=hm a
 omega
theorem Sz.ite {α:Type}{c:Nat}{p:Prop}[Decidable p]{f g:Par α}{m:α→Nat}(hf:Sz c f m)(hg:Sz c g m):Sz c (if p then f else g) m:=by
 split<;>assumption
theorem Sz.bool {α:Type}{c d:Nat}{f g:Par α}{m:α→Nat}(hf:Sz c f m)(hg:Sz d g m)(b:Bool):Sz (if b then c else d) (match b with|true=>f|false=>g) m:=by
 cases b
 · exact hg
 · exact hf
theorem Sz.bool1 {α:Type}{c:Nat}{f g:Par α}{m:α→Nat}(hf:Sz c f m)(hg:Sz c g m)(b:Bool):Sz c (match b with|true=>f|false=>g) m:=by
 cases b
 · exact hg
 · exact hf
theorem Sz.fail {α:Type}{c:Nat}{m:α→Nat}:Sz c (failP:Par α) m:=fun l a l' e=>by cases l<;>simp [failP] at e
def optC {α:Type}(cr:α→Nat)(n:Nat):Option α→Nat
 | none=>n
 | some b=>cr b
theorem Sz.loop {α:Type}{cr:α→Nat}{step:α→Par (Option α)}(h:∀a,Sz (cr a) (step a) (optC cr (cr a)))(m:Nat)(a:α):Sz (cr a) (loop step m a) cr:=by
 induction m generalizing a with
 | zero=>intro l b l' e;simp [Par.loop] at e
 | succ m ih =>
  refine Sz.bind (h a) fun b=>?_
  cases b with
  | none=>exact Sz.pure (Nat.le_refl _)
  | some b=>exact ih b
theorem Sz.many {α:Type}{cr:α→Nat}{step:α→Par (Option α)}(h:∀a,Sz (cr a) (step a) (optC cr (cr a)))(a:α):Sz (cr a) (many step a) cr :=
 fun l=>Sz.loop h (l.length+1) a l
theorem sz_both (k:Int)(a b:Ast):(bothA k a b).size=a.size+b.size+1:=by simp [bothA,Ast.size,sizeL]
theorem sz_times {fac:Par Ast}(h:∀c,Sz c fac (fun a=>a.size+c))(a:Ast):Sz a.size (timesStep fac a) (optC Ast.size a.size) :=
 Sz.bind Sz.skip fun b=>Sz.bool (Sz.bind (h _) fun b=>Sz.pure (by simp only [optC,sz_both];omega)) (Sz.pure (Nat.le_refl _)) b
theorem sz_term {fac:Par Ast}(h:∀c,Sz c fac (fun a=>a.size+c))(c:Nat):Sz c (termP fac) (fun a=>a.size+c):=by
 have:=Sz.up (k:=c) (m':=fun a=>a.size+c) (Sz.bind (h 0) fun a=>Sz.many (cr:=Ast.size) (sz_times h) a) (fun a=>Nat.le_refl _)
 rw [Nat.zero_add] at this;exact this
theorem sz_sum {fac:Par Ast}(h:∀c,Sz c fac (fun a=>a.size+c))(a:Ast):Sz a.size (sumStep fac a) (optC Ast.size a.size) :=
 Sz.bind Sz.skip fun b=>Sz.bool (Sz.bind (sz_term h _) fun b=>Sz.pure (by simp only [optC,sz_both];omega)) (Sz.bind Sz.skip fun b=>Sz.bool (Sz.bind (sz_term h _) fun b=>Sz.pure (by simp only [optC,sz_both];omega)) (Sz.pure (Nat.le_refl _)) b) b
theorem sz_expr {fac:Par Ast}(h:∀c,Sz c fac (fun a=>a.size+c))(c:Nat):Sz c (exprP fac) (fun a=>a.size+c):=by
 have:=Sz.up (k:=c) (m':=fun a=>a.size+c) (Sz.bind (sz_term h 0) fun a=>Sz.many (cr:=Ast.size) (sz_sum h) a) (fun a=>Nat.le_refl _)
 rw [Nat.zero_add] at this;exact this
theorem sz_number (c:Nat):Sz c numberP (fun a=>a.size+c):=Sz.bind (Sz.takes (takes_take _)) fun _=>Sz.pure (by simp [Ast.size,sizeL];omega)
theorem takes_enter (s:ByteArray)(r:Nat):Takes (enterP s r):=fun l b l' h=>by
 cases l with
 | nil=>simp [enterP] at h
 | cons t l =>
  simp only [enterP] at h
  split at h
  · split at h
    · simp at h
    · simp only [Res.ok.injEq] at h;rw [← h.2];simp
  · simp at h
theorem sz_factorOf (r:Nat){fac:Par Ast}(h:∀c,Sz c fac (fun a=>a.size+c))(c:Nat):Sz c (factorOf r fac) (fun a=>a.size+c) :=
 Sz.bind (Sz.less less_peek) fun _=>Sz.ite (sz_number c) <| Sz.ite (Sz.bind (Sz.takes takes_next) fun _=>Sz.pure (by simp [Ast.size,sizeL];omega)) <|
  Sz.ite (Sz.bind (Sz.less (less_enter _ _)) fun _=>Sz.bind (sz_expr h c) fun _=>Sz.bind (Sz.less (less_expect _)) fun _=>Sz.pure (Nat.le_refl _)) <|
  Sz.ite (Sz.bind (Sz.takes (takes_enter _ _)) fun _=>Sz.bind (h _) fun _=>Sz.pure (by simp [nodeA,Ast.size,sizeL];omega)) Sz.fail
theorem sz_factor (r c:Nat):Sz c (factorP r) (fun a=>a.size+c):=by
 induction r generalizing c with
 | zero=>exact sz_factorOf 0 (fun _=>Sz.fail) c
 | succ r ih=>exact sz_factorOf (r+1) ih c
theorem sz_exprR (r c:Nat):Sz c (exprR r) (fun a=>a.size+c):=sz_expr (sz_factor r) c
theorem sz_word (c:Nat):Sz c wordP (fun a=>a.size+c):=Sz.bind (Sz.takes (takes_take _)) fun _=>Sz.pure (by simp [wordA,Ast.size,sizeL];omega)
theorem sz_words (c:Nat):Sz c wordsP (fun ks=>sizeL ks+c):=by
 have h1:∀ks,Sz (sizeL ks) (wordsStep ks) (optC sizeL (sizeL ks)):=fun ks =>
  Sz.bind Sz.skip fun b=>Sz.bool (Sz.bind (sz_word _) fun w=>Sz.pure (by simp only [optC,sizeL_append,sizeL_one];omega)) (Sz.pure (Nat.le_refl _)) b
 have:=Sz.up (k:=c) (m':=fun ks=>sizeL ks+c) (Sz.bind (sz_word 0) fun w=>by
  have h2:=Sz.many (cr:=sizeL) h1 [w]
  rw [sizeL_one] at h2
  exact h2) (fun a=>Nat.le_refl _)
 rw [Nat.zero_add] at this;exact this
theorem sz_rowOf (r c:Nat)(t:PT):Sz c (rowOfP r t) (fun a=>a.size+c) :=
 Sz.bind (Sz.takes (takes_enter _ _)) fun _=>Sz.bind (sz_exprR _ _) fun _=>Sz.bind (Sz.less (less_expect _)) fun _=>Sz.pure (by simp [Ast.size,sizeL];omega)
theorem sz_row (r c:Nat):Sz c (rowP r) (fun a=>a.size+c):=Sz.bind (Sz.less (less_take _)) fun t=>sz_rowOf r c t
theorem sz_cell (r c:Nat):Sz c (cellP r) (fun a=>a.1.size+a.2.size+c) :=
 Sz.bind (sz_row r c) fun _=>Sz.bind (Sz.less (less_expect _)) fun _=>Sz.bind (sz_word _) fun _=>Sz.pure (by simp;omega)
theorem sz_end {c:Nat}(a:Ast)(h:a.size≤c+1):Sz c (endP a) (fun a=>a.size):=Sz.bind (Sz.takes (takes_expect _)) fun _=>Sz.pure (by omega)
theorem sz_nil {c:Nat}(k:Int)(p:Nat)(t:ByteArray)(n:Int)(ks:List Ast)(h:sizeL ks≤c):(Ast.mk k p t n ks).size≤c+1:=by simp only [Ast.size];omega
theorem sz_read (r p c:Nat):Sz c (readP r p) Ast.size :=
 Sz.bind (Sz.less (less_take _)) fun _=>Sz.bind (Sz.less (less_expect _)) fun _=>Sz.bind (sz_cell r c) fun rc=>Sz.bind (Sz.less (less_skip _)) fun b=>by
  cases b
  · exact sz_end _ (sz_nil _ _ _ _ _ (by simp only [sizeL];omega))
  · exact Sz.bind (Sz.less (less_expect _)) fun _=>sz_end _ (sz_nil _ _ _ _ _ (by simp only [sizeL];omega))
theorem sz_set (r p c:Nat):Sz c (setP r p) Ast.size :=
 Sz.bind (sz_cell r c) fun rc=>Sz.bind (Sz.less (less_expect _)) fun _=>Sz.bind (sz_exprR r _) fun v=>sz_end _ (sz_nil _ _ _ _ _ (by simp only [sizeL];omega))
theorem sz_put (r p c:Nat):Sz c (putP r p) Ast.size:=by
 have h1:∀ks,Sz (sizeL ks+c) (putStep r ks) (optC (fun ks=>sizeL ks+c) (sizeL ks+c)):=fun ks =>
  Sz.bind Sz.skip fun b=>Sz.bool (Sz.bind (sz_exprR r _) fun w=>Sz.pure (by simp only [optC,sizeL_append,sizeL_one];omega)) (Sz.pure (Nat.le_refl _)) b
 exact Sz.bind (sz_row r c) fun a=>Sz.bind (Sz.less (less_expect _)) fun _=>Sz.bind (sz_exprR r _) fun e=>Sz.bind (by
  have h2:=Sz.many (cr:=fun ks=>sizeL ks+c) h1 [a,e]
  have e2:sizeL [a,e]+c=e.size+(a.size+c):=by simp only [sizeL];omega
  rw [e2] at h2
  exact h2) fun ks=>Sz.bind (Sz.less (less_expect _)) fun _=>sz_end _ (sz_nil _ _ _ _ _ (by omega))
theorem sz_delete (r p c:Nat):Sz c (deleteP r p) Ast.size:=Sz.bind (sz_row r c) fun a=>sz_end _ (sz_nil _ _ _ _ _ (by simp only [sizeL];omega))
theorem sz_scan (p c:Nat):Sz c (scanP p) Ast.size :=
 Sz.bind (Sz.less (less_take _)) fun _=>Sz.bind (Sz.less (less_expect _)) fun _=>Sz.bind (sz_word _) fun a=>Sz.bind (Sz.less (less_expect _)) fun _=>Sz.bind (sz_word _) fun b=>sz_end _ (sz_nil _ _ _ _ _ (by simp only [sizeL];omega))
theorem sz_lock (p c:Nat):Sz c (lockP p) Ast.size :=
 Sz.bind (sz_word c) fun a=>Sz.bind (Sz.less (less_skip _)) fun b=>by
  cases b
  · exact Sz.bind (Sz.less (less_expect _)) fun _=>sz_end _ (sz_nil _ _ _ _ _ (by simp only [sizeL];omega))
  · exact sz_end _ (sz_nil _ _ _ _ _ (by simp only [sizeL];omega))
theorem sz_release (r p c:Nat):Sz c (releaseP r p) Ast.size :=
 Sz.bind (Sz.takes (takes_take _)) fun t=>Sz.bind (Sz.less (less_isNext _)) fun b=>by
  cases b
  · exact sz_end _ (sz_nil _ _ _ _ _ (by simp only [sizeL,wordA,Ast.size];omega))
  · exact Sz.bind (sz_rowOf r _ t) fun a=>sz_end _ (sz_nil _ _ _ _ _ (by simp only [sizeL];omega))
theorem sz_ifTail {B:Par Ast}(h:∀c,Sz c B (fun a=>a.size+c))(p:Nat)(n:Int)(a b:Ast)(c:Nat)(hc:a.size+b.size+1≤c):Sz c (ifTail B p n a b) Ast.size :=
 Sz.bind (h c) fun x=>Sz.bind (Sz.less (less_skip _)) fun u=>by
  cases u
  · exact Sz.pure (by simp only [Ast.size,sizeL];omega)
  · exact Sz.bind (h _) fun y=>Sz.pure (by simp only [Ast.size,sizeL];omega)
theorem sz_if (r:Nat){B:Par Ast}(h:∀c,Sz c B (fun a=>a.size+c))(p c:Nat)(hc:1≤c):Sz c (ifP r B p) Ast.size :=
 Sz.bind (sz_exprR r c) fun a=>Sz.bind (Sz.less (less_skip _)) fun u=>by
  cases u
  · exact Sz.bind (Sz.less (less_expect _)) fun _=>Sz.bind (sz_exprR r _) fun b=>sz_ifTail h p _ a b _ (by omega)
  · exact Sz.bind (sz_exprR r _) fun b=>sz_ifTail h p _ a b _ (by omega)
theorem sz_for {B:Par Ast}(h:∀c,Sz c B (fun a=>a.size+c))(p c:Nat)(hc:1≤c):Sz c (forP B p) Ast.size :=
 Sz.bind (Sz.less (less_take _)) fun _=>Sz.bind (Sz.less (less_expect _)) fun _=>Sz.bind (sz_number c) fun a=>Sz.bind (Sz.less (less_expect _)) fun _=>Sz.bind (sz_number _) fun b=>Sz.bind (h _) fun x=>Sz.pure (by simp only [Ast.size,sizeL];omega)
theorem sz_let (r p c:Nat):Sz c (letP r p) Ast.size :=
 Sz.bind (Sz.less (less_take _)) fun _=>Sz.bind (Sz.less (less_expect _)) fun _=>Sz.bind (sz_exprR r _) fun v=>sz_end _ (sz_nil _ _ _ _ _ (by simp only [sizeL];omega))
theorem sz_emit (r p c:Nat):Sz c (emitP r p) Ast.size:=Sz.bind (sz_exprR r _) fun v=>sz_end _ (sz_nil _ _ _ _ _ (by simp only [sizeL];omega))
theorem sz_rest (r:Nat){B:Par Ast}(h:∀c,Sz c B (fun a=>a.size+c))(j p c:Nat)(hc:1≤c):Sz c (restP r B j p) Ast.size:=by
 unfold restP
 split
 · exact sz_read r p c
 · exact sz_set r p c
 · exact sz_put r p c
 · exact sz_delete r p c
 · exact sz_scan p c
 · exact sz_lock p c
 · exact sz_release r p c
 · exact sz_if r h p c hc
 · exact sz_for h p c hc
 · exact sz_let r p c
 · exact sz_emit r p c
 · exact sz_end _ (sz_nil _ _ _ _ _ (by simp only [sizeL];omega))
 · exact sz_end _ (sz_nil _ _ _ _ _ (by simp only [sizeL];omega))
 · exact Sz.fail
theorem Sz.add {α:Type}{c:Nat}{f:Par α}{m:α→Nat}(h:Sz c f m)(k:Nat):Sz (c+k) f (fun a=>m a+k):=h.up fun _=>Nat.le_refl _
theorem sz_stmt (r:Nat){B:Par Ast}(h:∀c,Sz c B (fun a=>a.size+c))(c:Nat):Sz c (stmtP r B) (fun a=>a.size+c):=by
 have h0:Sz 0 (stmtP r B) Ast.size:=Sz.bind (Sz.less less_peek) fun t=>by
  show Sz 0 (if _ then _ else _) _
  split
  · exact Sz.bind (Sz.takes takes_next) fun t=>sz_rest r h _ _ _ (by omega)
  · exact Sz.fail
 have:=h0.add c
 rw [Nat.zero_add] at this;exact this
theorem sz_blockOf (r:Nat){st:Par Ast}(h:∀c,Sz c st (fun a=>a.size+c))(c:Nat):Sz c (blockOf r st) (fun a=>a.size+c):=by
 have h1:∀ks,Sz (sizeL ks+(c+1)) (blockStep st ks) (optC (fun ks=>sizeL ks+(c+1)) (sizeL ks+(c+1))):=fun ks =>
  Sz.bind (Sz.less (less_isNext _)) fun b=>Sz.bool1 (Sz.pure (Nat.le_refl _)) (Sz.bind (h _) fun s=>Sz.pure (by simp only [optC,sizeL_append,sizeL_one];omega)) b
 exact Sz.bind (Sz.takes (takes_enter _ _)) fun p=>Sz.bind (by
  have h2:=Sz.many (cr:=fun ks=>sizeL ks+(c+1)) h1 []
  have e2:sizeL []+(c+1)=c+1:=by simp only [sizeL];omega
  rw [e2] at h2
  exact h2) fun ks=>Sz.bind (Sz.less (less_expect _)) fun _=>Sz.pure (by simp only [nodeA,Ast.size];omega)
theorem sz_block (r c:Nat):Sz c (blockP r) (fun a=>a.size+c):=by
 induction r generalizing c with
 | zero=>exact sz_blockOf 0 (fun _=>Sz.fail) c
 | succ r ih=>exact sz_blockOf (r+1) (sz_stmt r ih) c
theorem sz_names (c:Nat)(hc:1≤c):Sz c namesP (fun a=>a.size+(c-1)) :=
 Sz.bind (Sz.less less_peek) fun t=>Sz.bind (Sz.less (less_isNext _)) fun b=>by
  cases b
  · exact Sz.bind (sz_words _) fun ks=>Sz.pure (by simp only [nodeA,Ast.size];omega)
  · exact Sz.pure (by simp only [nodeA,Ast.size,sizeL];omega)
theorem sz_table (c:Nat):Sz c tableP (fun a=>a.size+c):=by
 have h0:Sz 0 tableP Ast.size:=Sz.bind (Sz.less (less_expect _)) fun p=>Sz.bind (Sz.less (less_take _)) fun t=>Sz.bind (Sz.less (less_expect _)) fun _=>Sz.bind (sz_words 0) fun ks=>Sz.bind (Sz.less (less_expect _)) fun _=>sz_end _ (sz_nil _ _ _ _ _ (by omega))
 have:=h0.add c
 rw [Nat.zero_add] at this;exact this
theorem sz_proc (c:Nat):Sz c procP (fun a=>a.size+c):=by
 have h0:Sz 0 procP Ast.size:=Sz.bind (Sz.takes (takes_expect _)) fun p=>Sz.bind (Sz.takes (takes_take _)) fun t=>Sz.bind (Sz.less (less_expect _)) fun _=>Sz.bind (sz_names _ (by omega)) fun ns=>Sz.bind (Sz.less (less_expect _)) fun _=>Sz.bind (Sz.less (less_skip _)) fun b=>by
  cases b
  · exact Sz.bind (sz_block 64 _) fun x=>Sz.pure (by simp only [Ast.size,sizeL];omega)
  · exact Sz.bind (sz_block 64 _) fun x=>Sz.pure (by simp only [Ast.size,sizeL];omega)
 have:=h0.add c
 rw [Nat.zero_add] at this;exact this
theorem sz_prog (ks:List Ast):Sz (sizeL ks) (progStep ks) (optC sizeL (sizeL ks)) :=
 Sz.bind (Sz.less less_peek) fun t=>Sz.ite (Sz.pure (Nat.le_refl _)) (Sz.bind (Sz.less (less_isNext _)) fun b =>
  Sz.bool1 (Sz.bind (sz_table _) fun a=>Sz.pure (by simp only [optC,sizeL_append,sizeL_one];omega)) (Sz.bind (sz_proc _) fun a=>Sz.pure (by simp only [optC,sizeL_append,sizeL_one];omega)) b)
end
section
mutual
def flat (o:Nat):Ast→List Nd
 | .mk k a t n ks=>⟨k,a,t,n,heads (o+1) ks⟩::flatL (o+1) ks
def flatL (o:Nat):List Ast→List Nd
 | []=>[]
 | x::r=>flat o x++flatL (o+x.size) r
def heads (o:Nat):List Ast→List Int
 | []=>[]
 | x::r=>(o:Int)::heads (o+x.size) r
end
mutual
def raw (b:Nat):Ast→List (Nat × Nd)
 | .mk k a t n ks=>(b+sizeL ks,⟨k,a,t,n,roots b ks⟩)::rawL b ks
def rawL (b:Nat):List Ast→List (Nat × Nd)
 | []=>[]
 | x::r=>raw b x++rawL (b+x.size) r
end
mutual
theorem raw_length (b:Nat):∀a:Ast,(raw b a).length=a.size
 | .mk k a t n ks=>by simp only [raw,List.length_cons,rawL_length b ks,Ast.size]
theorem rawL_length (b:Nat):∀l:List Ast,(rawL b l).length=sizeL l
 | []=>by simp [rawL,sizeL]
 | x::r=>by simp only [rawL,List.length_append,raw_length b x,rawL_length (b+x.size) r,sizeL]
end
mutual
theorem flat_length (b:Nat):∀a:Ast,(flat b a).length=a.size
 | .mk k a t n ks=>by simp only [flat,List.length_cons,flatL_length (b+1) ks,Ast.size]
theorem flatL_length (b:Nat):∀l:List Ast,(flatL b l).length=sizeL l
 | []=>by simp [flatL,sizeL]
 | x::r=>by simp only [flatL,List.length_append,flat_length b x,flatL_length (b+x.size) r,sizeL]
end
theorem heads_length (b:Nat)(l:List Ast):(heads b l).length=l.length:=by
 induction l generalizing b with
 | nil=>simp [heads]
 | cons x r ih=>simp only [heads,List.length_cons,ih]
theorem raw_head (b:Nat)(a:Ast):∃nd rest,raw b a=(b+a.size-1,nd)::rest:=by
 cases a with
 | mk k a t n ks=>exact ⟨_,_,by simp only [raw,Ast.size];rw [show b+(sizeL ks+1)-1=b+sizeL ks by omega]⟩
mutual
theorem raw_range (b:Nat):∀(a:Ast) (x:Nat × Nd),x∈raw b a→b≤x.1∧x.1<b+a.size
 | .mk k a t n ks,x,hx=>by
  simp only [raw,List.mem_cons] at hx
  simp only [Ast.size]
  rcases hx with rfl|hx
  · simp only;omega
  · have:=rawL_range b ks x hx
    omega
theorem rawL_range (b:Nat):∀(l:List Ast) (x:Nat × Nd),x∈rawL b l→b≤x.1∧x.1<b+sizeL l
 | [],x,hx=>by simp [rawL] at hx
 | y::r,x,hx=>by
  simp only [rawL,List.mem_append] at hx
  simp only [sizeL]
  rcases hx with hx|hx
  · have:=raw_range b y x hx
    omega
  · have:=rawL_range (b+y.size) r x hx
    omega
end
mutual
theorem raw_nodup (b:Nat):∀a:Ast,((raw b a).map (·.1)).Nodup
 | .mk k a t n ks=>by
  simp only [raw,List.map_cons,List.nodup_cons]
  refine ⟨fun h=>?_,rawL_nodup b ks⟩
  obtain ⟨x,hx,e⟩:=List.mem_map.1 h
  have:=rawL_range b ks x hx
  omega
theorem rawL_nodup (b:Nat):∀l:List Ast,((rawL b l).map (·.1)).Nodup
 | []=>by simp [rawL]
 | y::r=>by
  simp only [rawL,List.map_append]
  refine List.nodup_append.2 ⟨raw_nodup b y,rawL_nodup (b+y.size) r,fun p hp q hq e=>?_⟩
  obtain ⟨x,hx,e1⟩:=List.mem_map.1 hp
  obtain ⟨z,hz,e2⟩:=List.mem_map.1 hq
  have h1:=raw_range b y x hx
  have h2:=rawL_range (b+y.size) r z hz
  omega
end
mutual
theorem raw_post (b:Nat):∀(a:Ast) (x:Nat × Nd),x∈raw b a→(post b a)[x.1-b]?=some x.2
 | .mk k a t n ks,x,hx=>by
  simp only [raw,List.mem_cons] at hx
  simp only [post]
  rcases hx with rfl|hx
  · simp only
    rw [List.getElem?_append_right (by rw [postL_length];omega),postL_length,show b+sizeL ks-b-sizeL ks=0 by omega]
    rfl
  · have h1:=rawL_range b ks x hx
    rw [List.getElem?_append_left (by rw [postL_length];omega)]
    exact rawL_post b ks x hx
theorem rawL_post (b:Nat):∀(l:List Ast) (x:Nat × Nd),x∈rawL b l→(postL b l)[x.1-b]?=some x.2
 | [],x,hx=>by simp [rawL] at hx
 | y::r,x,hx=>by
  simp only [rawL,List.mem_append] at hx
  simp only [postL]
  rcases hx with hx|hx
  · have h1:=raw_range b y x hx
    rw [List.getElem?_append_left (by rw [post_length];omega)]
    exact raw_post b y x hx
  · have h1:=rawL_range (b+y.size) r x hx
    rw [List.getElem?_append_right (by rw [post_length];omega),post_length,show x.1-b-y.size=x.1-(b+y.size) by omega]
    exact rawL_post (b+y.size) r x hx
end
def placed (g:Int→Int)(x:Nat × Nd):Nd:={ x.2 with kids:=x.2.kids.map g }
theorem roots_heads (g:Int→Int)(b o:Nat)(l:List Ast)(hg:∀i x,(rawL b l)[i]?=some x→g x.1=((o+i:Nat):Int)):(roots b l).map g=heads o l:=by
 induction l generalizing b o with
 | nil=>simp [roots,heads]
 | cons y r ih =>
  obtain ⟨nd,rest,hr⟩:=raw_head b y
  have hs:=size_pos y
  simp only [roots,heads,List.map_cons]
  refine congr (congrArg List.cons ?_) ?_
  · have:=hg 0 (b+y.size-1,nd) (by simp [rawL,hr])
    rw [show ((b+y.size:Nat):Int)-1=((b+y.size-1:Nat):Int) by omega]
    simpa using this
  · refine ih (b+y.size) (o+y.size) fun i x hx=>?_
    have:=hg (y.size+i) x (by
     simp only [rawL]
     rw [List.getElem?_append_right (by rw [raw_length];omega),raw_length,show y.size+i-y.size=i by omega]
     exact hx)
    rw [this]
    omega
mutual
theorem raw_flat (g:Int→Int)(b o:Nat):∀(a:Ast) (_:∀i x,(raw b a)[i]?=some x→g x.1=((o+i:Nat):Int)),(raw b a).map (placed g)=flat o a
 | .mk k a t n ks,hg=>by
  have h1:∀i x,(rawL b ks)[i]?=some x→g x.1=((o+1+i:Nat):Int):=fun i x hx=>by
   have:=hg (i+1) x (by simp only [raw,List.getElem?_cons_succ];exact hx)
   rw [this];omega
  simp only [raw,flat,List.map_cons,placed,roots_heads g b (o+1) ks h1]
  exact congrArg _ (rawL_flat g b (o+1) ks h1)
theorem rawL_flat (g:Int→Int)(b o:Nat):∀(l:List Ast) (_:∀i x,(rawL b l)[i]?=some x→g x.1=((o+i:Nat):Int)),(rawL b l).map (placed g)=flatL o l
 | [],_=>by simp [rawL,flatL]
 | y::r,hg=>by
  simp only [rawL,flatL,List.map_append]
  rw [raw_flat g b o y fun i x hx=>hg i x (by
   simp only [rawL]
   have hi:i<(raw b y).length:=(List.getElem?_eq_some_iff.1 hx).1
   rw [List.getElem?_append_left hi]
   exact hx),rawL_flat g (b+y.size) (o+y.size) r fun i x hx=>by
   have:=hg (y.size+i) x (by
    simp only [rawL]
    rw [List.getElem?_append_right (by rw [raw_length];omega),raw_length,show y.size+i-y.size=i by omega]
    exact hx)
   rw [this];omega]
end
def rawS:List (Nat × Ast)→List (Nat × Nd)
 | []=>[]
 | (b,a)::r=>raw b a++rawS r
def tops:List (Nat × Ast)→List Int
 | []=>[]
 | (b,a)::r=>(((b+a.size:Nat):Int)-1)::tops r
def pairsOf (b:Nat):List Ast→List (Nat × Ast)
 | []=>[]
 | x::r=>(b,x)::pairsOf (b+x.size) r
theorem rawS_append (x y:List (Nat × Ast)):rawS (x++y)=rawS x++rawS y:=by
 induction x with
 | nil=>simp [rawS]
 | cons p r ih=>obtain ⟨b,a⟩:=p;simp only [List.cons_append,rawS,ih,List.append_assoc]
theorem tops_append (x y:List (Nat × Ast)):tops (x++y)=tops x++tops y:=by
 induction x with
 | nil=>simp [tops]
 | cons p r ih=>obtain ⟨b,a⟩:=p;simp only [List.cons_append,tops,ih]
theorem tops_length (x:List (Nat × Ast)):(tops x).length=x.length:=by
 induction x with
 | nil=>simp [tops]
 | cons p r ih=>obtain ⟨b,a⟩:=p;simp only [List.length_cons,tops,ih]
theorem rawS_pairs (b:Nat)(l:List Ast):rawS (pairsOf b l)=rawL b l:=by
 induction l generalizing b with
 | nil=>simp [rawS,rawL,pairsOf]
 | cons x r ih=>simp only [rawS,rawL,pairsOf,ih]
theorem tops_pairs (b:Nat)(l:List Ast):tops (pairsOf b l)=roots b l:=by
 induction l generalizing b with
 | nil=>simp [tops,roots,pairsOf]
 | cons x r ih=>simp only [tops,roots,pairsOf,ih]
theorem rawS_cons (b:Nat)(k:Int)(a:Nat)(t:ByteArray)(n:Int)(ks:List Ast)(r:List (Nat × Ast)) :
 rawS ((b,.mk k a t n ks)::r)=(b+sizeL ks,⟨k,a,t,n,roots b ks⟩)::rawS (pairsOf b ks++r):=by
 rw [rawS_append,rawS_pairs]
 simp only [rawS,raw,List.cons_append]
end
section
open Par
def TokR (ρ:Nat→Nat→Prop)(t t':PT):Prop:=t.kind=t'.kind∧t.txt=t'.txt∧t.n=t'.n∧ρ t.at' t'.at'
inductive TokL (ρ:Nat→Nat→Prop):List PT→List PT→Prop
 | nil:TokL ρ [] []
 | cons {t t':PT} {l l':List PT} (h:TokR ρ t t') (r:TokL ρ l l'):TokL ρ (t::l) (t'::l')
inductive AstR (ρ:Nat→Nat→Prop):Ast→Ast→Prop
 | mk {k:Int} {a a':Nat} {t:ByteArray} {n:Int} {ks ks':List Ast} (h:ρ a a') (hl:ks.length=ks'.length) (hk:∀(i:Nat) (x y:Ast),ks[i]?=some x→ks'[i]?=some y→AstR ρ x y):AstR ρ (.mk k a t n ks) (.mk k a' t n ks')
def KidsR (ρ:Nat→Nat→Prop)(ks ks':List Ast):Prop:=ks.length=ks'.length∧∀(i:Nat) (x y:Ast),ks[i]?=some x→ks'[i]?=some y→AstR ρ x y
def ResR {α:Type}(ρ:Nat→Nat→Prop)(R:α→α→Prop):Res α→Res α→Prop
 | .err _ c,.err _ c'=>c=c'
 | .ok a l,.ok a' l'=>R a a'∧TokL ρ l l'
 | _,_=>False
def RelP {α:Type}(ρ:Nat→Nat→Prop)(R:α→α→Prop)(f f':Par α):Prop:=∀l l',TokL ρ l l'→ResR ρ R (f l) (f' l')
section
variable {ρ:Nat→Nat→Prop}{α β:Type}
theorem TokL.len {l l':List PT}(h:TokL ρ l l'):l.length=l'.length:=by
 induction h with
 | nil=>rfl
 | cons _ _ ih=>simp only [List.length_cons,ih]
theorem RelP.pure {R:α→α→Prop}{a a':α}(h:R a a'):RelP ρ R (Par.pure a) (Par.pure a'):=fun _ _ hl=>⟨h,hl⟩
theorem RelP.bind {R:α→α→Prop}{S:β→β→Prop}{f f':Par α}{g g':α→Par β}(hf:RelP ρ R f f')(hg:∀a a',R a a'→RelP ρ S (g a) (g' a')):RelP ρ S (Par.bind f g) (Par.bind f' g'):=fun l l' hl=>by
 have h:=hf l l' hl
 simp only [Par.bind]
 cases h1:f l with
 | err p c =>
  cases h2:f' l' with
  | err p' c'=>rw [h1,h2] at h;exact h
  | ok a' m'=>rw [h1,h2] at h;exact h.elim
 | ok a m =>
  cases h2:f' l' with
  | err p' c'=>rw [h1,h2] at h;exact h.elim
  | ok a' m'=>rw [h1,h2] at h;exact hg a a' h.1 m m' h.2
def OptR (R:α→α→Prop):Option α→Option α→Prop
 | none,none=>True
 | some a,some b=>R a b
 | _,_=>False
theorem RelP.loop {R:α→α→Prop}{step step':α→Par (Option α)}(hs:∀a a',R a a'→RelP ρ (OptR R) (step a) (step' a'))(m:Nat):∀a a',R a a'→RelP ρ R (loop step m a) (loop step' m a'):=by
 induction m with
 | zero=>intro a a' _ l l' _;exact rfl
 | succ m ih =>
  intro a a' h
  refine RelP.bind (hs a a' h) fun b b' hb=>?_
  cases b with
  | none =>
   cases b' with
   | none=>exact RelP.pure h
   | some _=>exact hb.elim
  | some b =>
   cases b' with
   | none=>exact hb.elim
   | some b'=>exact ih b b' hb
theorem RelP.many {R:α→α→Prop}{step step':α→Par (Option α)}(hs:∀a a',R a a'→RelP ρ (OptR R) (step a) (step' a')){a a':α}(h:R a a'):RelP ρ R (many step a) (many step' a'):=fun l l' hl=>by
 have:=RelP.loop hs (l.length+1) a a' h l l' hl
 simp only [Par.many,← hl.len]
 exact this
theorem rel_isNext (s:ByteArray):RelP ρ Eq (isNextP s) (isNextP s):=fun l l' hl=>by
 cases hl with
 | nil=>exact rfl
 | cons h r=>exact ⟨by rw [h.2.1],.cons h r⟩
theorem rel_skip (s:ByteArray):RelP ρ Eq (skipP s) (skipP s):=fun l l' hl=>by
 cases hl with
 | nil=>exact rfl
 | cons h r =>
  simp only [skipP,h.2.1]
  split
  · exact ⟨rfl,r⟩
  · exact ⟨rfl,.cons h r⟩
theorem rel_expect (s:ByteArray):RelP ρ ρ (expectP s) (expectP s):=fun l l' hl=>by
 cases hl with
 | nil=>exact rfl
 | cons h r =>
  simp only [expectP,h.2.1]
  split
  · exact ⟨h.2.2.2,r⟩
  · exact rfl
theorem rel_take (k:Int):RelP ρ (TokR ρ) (takeP k) (takeP k):=fun l l' hl=>by
 cases hl with
 | nil=>exact rfl
 | cons h r =>
  simp only [takeP,h.1]
  split
  · exact ⟨h,r⟩
  · exact rfl
theorem rel_peek:RelP ρ (TokR ρ) peekP peekP:=fun l l' hl=>by
 cases hl with
 | nil=>exact rfl
 | cons h r=>exact ⟨h,.cons h r⟩
theorem rel_next:RelP ρ (TokR ρ) nextP nextP:=fun l l' hl=>by
 cases hl with
 | nil=>exact rfl
 | cons h r=>exact ⟨h,r⟩
theorem rel_enter (s:ByteArray)(r:Nat):RelP ρ ρ (enterP s r) (enterP s r):=fun l l' hl=>by
 cases hl with
 | nil=>exact rfl
 | cons h hr =>
  simp only [enterP,h.2.1]
  split
  · split
    · exact rfl
    · exact ⟨h.2.2.2,hr⟩
  · exact rfl
theorem rel_fail {R:α→α→Prop}:RelP ρ R (failP:Par α) failP:=fun l l' hl=>by
 cases hl with
 | nil=>exact rfl
 | cons h r=>exact rfl
theorem KidsR.nil:KidsR ρ [] []:=⟨rfl,fun i x y h=>by simp at h⟩
theorem KidsR.cons {a a':Ast}{ks ks':List Ast}(h:AstR ρ a a')(hk:KidsR ρ ks ks'):KidsR ρ (a::ks) (a'::ks'):=⟨by simp [hk.1],fun i x y hx hy=>by
 cases i with
 | zero=>simp at hx hy;subst hx hy;exact h
 | succ i=>exact hk.2 i x y (by simpa using hx) (by simpa using hy)⟩
theorem KidsR.snoc {a a':Ast}{ks ks':List Ast}(hk:KidsR ρ ks ks')(h:AstR ρ a a'):KidsR ρ (ks++[a]) (ks'++[a']):=⟨by simp [hk.1],fun i x y hx hy=>by
 by_cases hi:i<ks.length
 · rw [List.getElem?_append_left hi] at hx
   rw [List.getElem?_append_left (by rw [← hk.1];exact hi)] at hy
   exact hk.2 i x y hx hy
 · rw [List.getElem?_append_right (by omega)] at hx
   rw [List.getElem?_append_right (by rw [← hk.1];omega),← hk.1] at hy
   cases hj:i-ks.length with
   | zero=>rw [hj] at hx hy;simp at hx hy;subst hx hy;exact h
   | succ j=>rw [hj] at hx;simp at hx⟩
theorem AstR.node {k n:Int}{a a':Nat}{t:ByteArray}{ks ks':List Ast}(h:ρ a a')(hk:KidsR ρ ks ks'):AstR ρ (.mk k a t n ks) (.mk k a' t n ks'):=.mk h hk.1 hk.2
theorem AstR.at' {a a':Ast}(h:AstR ρ a a'):ρ a.at' a'.at':=by
 cases h with
 | mk h _ _=>exact h
theorem rel_word {t t':PT}(h:TokR ρ t t'):AstR ρ (wordA t) (wordA t'):=by
 unfold wordA;rw [h.2.1];exact .node h.2.2.2 KidsR.nil
theorem rel_both (k:Int){a a' b b':Ast}(h:AstR ρ a a')(h':AstR ρ b b'):AstR ρ (bothA k a b) (bothA k a' b'):=.node h.at' (.cons h (.cons h' .nil))
theorem rel_wordP:RelP ρ (AstR ρ) wordP wordP:=.bind (rel_take _) fun _ _ h=>.pure (rel_word h)
theorem rel_numberP:RelP ρ (AstR ρ) numberP numberP:=.bind (rel_take _) fun t t' h=>.pure (by rw [h.2.2.1];exact .node h.2.2.2 .nil)
theorem rel_times {fac fac':Par Ast}(h:RelP ρ (AstR ρ) fac fac')(a a':Ast)(ha:AstR ρ a a'):RelP ρ (OptR (AstR ρ)) (timesStep fac a) (timesStep fac' a'):=.bind (rel_skip _) fun b b' e=>by
 subst e
 cases b
 · exact .pure trivial
 · exact .bind h fun _ _ hb=>.pure (rel_both _ ha hb)
theorem rel_term {fac fac':Par Ast}(h:RelP ρ (AstR ρ) fac fac'):RelP ρ (AstR ρ) (termP fac) (termP fac'):=.bind h fun _ _ ha=>.many (rel_times h) ha
theorem rel_sum {fac fac':Par Ast}(h:RelP ρ (AstR ρ) fac fac')(a a':Ast)(ha:AstR ρ a a'):RelP ρ (OptR (AstR ρ)) (sumStep fac a) (sumStep fac' a'):=.bind (rel_skip _) fun b b' e=>by
 subst e
 cases b
 · refine .bind (rel_skip _) fun b b' e=>?_
   subst e
   cases b
   · exact .pure trivial
   · exact .bind (rel_term h) fun _ _ hb=>.pure (rel_both _ ha hb)
 · exact .bind (rel_term h) fun _ _ hb=>.pure (rel_both _ ha hb)
theorem rel_exprP {fac fac':Par Ast}(h:RelP ρ (AstR ρ) fac fac'):RelP ρ (AstR ρ) (exprP fac) (exprP fac'):=.bind (rel_term h) fun _ _ ha=>.many (rel_sum h) ha
theorem RelP.ite {R:α→α→Prop}{p p':Prop}[Decidable p][Decidable p'](hp:p↔p'){f f' g g':Par α}(hf:RelP ρ R f f')(hg:RelP ρ R g g'):RelP ρ R (if p then f else g) (if p' then f' else g'):=by
 by_cases h:p
 · rw [if_pos h,if_pos (hp.1 h)];exact hf
 · rw [if_neg h,if_neg (fun e=>h (hp.2 e))];exact hg
theorem rel_factorOf (r:Nat){fac fac':Par Ast}(h:RelP ρ (AstR ρ) fac fac'):RelP ρ (AstR ρ) (factorOf r fac) (factorOf r fac'):=.bind rel_peek fun t t' ht =>
 .ite (by rw [ht.1]) rel_numberP <| .ite (by rw [ht.1]) (.bind rel_next fun u u' hu=>.pure (by rw [hu.2.1];exact .node hu.2.2.2 .nil)) <|
 .ite (by rw [ht.2.1]) (.bind (rel_enter _ _) fun _ _ _=>.bind (rel_exprP h) fun _ _ ha=>.bind (rel_expect _) fun _ _ _=>.pure ha) <|
 .ite (by rw [ht.2.1]) (.bind (rel_enter _ _) fun _ _ hp=>.bind h fun _ _ ha=>.pure (.node hp (.cons ha .nil))) rel_fail
theorem rel_factor (r:Nat):RelP ρ (AstR ρ) (factorP r) (factorP r):=by
 induction r with
 | zero=>exact rel_factorOf 0 rel_fail
 | succ r ih=>exact rel_factorOf (r+1) ih
theorem rel_expr (r:Nat):RelP ρ (AstR ρ) (exprR r) (exprR r):=rel_exprP (rel_factor r)
theorem rel_wordsStep (ks ks':List Ast)(hk:KidsR ρ ks ks'):RelP ρ (OptR (KidsR ρ)) (wordsStep ks) (wordsStep ks'):=.bind (rel_skip _) fun b b' e=>by
 subst e
 cases b
 · exact .pure trivial
 · exact .bind rel_wordP fun _ _ ha=>.pure (hk.snoc ha)
theorem rel_words:RelP ρ (KidsR ρ) wordsP wordsP:=.bind rel_wordP fun _ _ ha=>.many rel_wordsStep (.cons ha .nil)
theorem rel_rowOf (r:Nat){t t':PT}(ht:TokR ρ t t'):RelP ρ (AstR ρ) (rowOfP r t) (rowOfP r t'):=.bind (rel_enter _ _) fun _ _ _=>.bind (rel_expr _) fun _ _ ha=>.bind (rel_expect _) fun _ _ _=>.pure (by rw [ht.2.1];exact .node ht.2.2.2 (.cons ha .nil))
theorem rel_row (r:Nat):RelP ρ (AstR ρ) (rowP r) (rowP r):=.bind (rel_take _) fun _ _ ht=>rel_rowOf r ht
def PairR (ρ:Nat→Nat→Prop)(x y:Ast × Ast):Prop:=AstR ρ x.1 y.1∧AstR ρ x.2 y.2
theorem rel_cell (r:Nat):RelP ρ (PairR ρ) (cellP r) (cellP r):=.bind (rel_row r) fun _ _ ha=>.bind (rel_expect _) fun _ _ _=>.bind rel_wordP fun _ _ hb=>.pure ⟨ha,hb⟩
theorem rel_end {a a':Ast}(h:AstR ρ a a'):RelP ρ (AstR ρ) (endP a) (endP a'):=.bind (rel_expect _) fun _ _ _=>.pure h
theorem rel_read (r:Nat){p p':Nat}(hp:ρ p p'):RelP ρ (AstR ρ) (readP r p) (readP r p'):=.bind (rel_take _) fun t t' ht=>.bind (rel_expect _) fun _ _ _=>.bind (rel_cell r) fun _ _ hc=>.bind (rel_skip _) fun b b' e=>by
 subst e
 rw [ht.2.1]
 cases b
 · exact rel_end (.node hp (.cons hc.1 (.cons hc.2 .nil)))
 · exact .bind (rel_expect _) fun _ _ _=>rel_end (.node hp (.cons hc.1 (.cons hc.2 .nil)))
theorem rel_set (r:Nat){p p':Nat}(hp:ρ p p'):RelP ρ (AstR ρ) (setP r p) (setP r p'):=.bind (rel_cell r) fun _ _ hc=>.bind (rel_expect _) fun _ _ _=>.bind (rel_expr r) fun _ _ hv=>rel_end (.node hp (.cons hc.1 (.cons hc.2 (.cons hv .nil))))
theorem rel_putStep (r:Nat)(ks ks':List Ast)(hk:KidsR ρ ks ks'):RelP ρ (OptR (KidsR ρ)) (putStep r ks) (putStep r ks'):=.bind (rel_skip _) fun b b' e=>by
 subst e
 cases b
 · exact .pure trivial
 · exact .bind (rel_expr r) fun _ _ ha=>.pure (hk.snoc ha)
theorem rel_put (r:Nat){p p':Nat}(hp:ρ p p'):RelP ρ (AstR ρ) (putP r p) (putP r p'):=.bind (rel_row r) fun _ _ ha=>.bind (rel_expect _) fun _ _ _=>.bind (rel_expr r) fun _ _ he=>.bind (.many (rel_putStep r) (.cons ha (.cons he .nil))) fun _ _ hk=>.bind (rel_expect _) fun _ _ _=>rel_end (.node hp hk)
theorem rel_delete (r:Nat){p p':Nat}(hp:ρ p p'):RelP ρ (AstR ρ) (deleteP r p) (deleteP r p'):=.bind (rel_row r) fun _ _ ha=>rel_end (.node hp (.cons ha .nil))
theorem rel_scan {p p':Nat}(hp:ρ p p'):RelP ρ (AstR ρ) (scanP p) (scanP p'):=.bind (rel_take _) fun t t' ht=>.bind (rel_expect _) fun _ _ _=>.bind rel_wordP fun _ _ ha=>.bind (rel_expect _) fun _ _ _=>.bind rel_wordP fun _ _ hb=>rel_end (by rw [ht.2.1];exact .node hp (.cons ha (.cons hb .nil)))
theorem rel_lock {p p':Nat}(hp:ρ p p'):RelP ρ (AstR ρ) (lockP p) (lockP p'):=.bind rel_wordP fun _ _ ha=>.bind (rel_skip _) fun b b' e=>by
 subst e
 cases b
 · exact .bind (rel_expect _) fun _ _ _=>rel_end (.node hp (.cons ha .nil))
 · exact rel_end (.node hp (.cons ha .nil))
theorem rel_release (r:Nat){p p':Nat}(hp:ρ p p'):RelP ρ (AstR ρ) (releaseP r p) (releaseP r p'):=.bind (rel_take _) fun t t' ht=>.bind (rel_isNext _) fun b b' e=>by
 subst e
 cases b
 · exact rel_end (.node hp (.cons (rel_word ht) .nil))
 · exact .bind (rel_rowOf r ht) fun _ _ ha=>rel_end (.node hp (.cons ha .nil))
theorem rel_ifTail {B B':Par Ast}(h:RelP ρ (AstR ρ) B B'){p p':Nat}(hp:ρ p p')(n:Int){a a' b b':Ast}(ha:AstR ρ a a')(hb:AstR ρ b b'):RelP ρ (AstR ρ) (ifTail B p n a b) (ifTail B' p' n a' b'):=.bind h fun _ _ hc=>.bind (rel_skip _) fun u u' e=>by
 subst e
 cases u
 · exact .pure (.node hp (.cons ha (.cons hb (.cons hc .nil))))
 · exact .bind h fun _ _ hd=>.pure (.node hp (.cons ha (.cons hb (.cons hc (.cons hd .nil)))))
theorem rel_if (r:Nat){B B':Par Ast}(h:RelP ρ (AstR ρ) B B'){p p':Nat}(hp:ρ p p'):RelP ρ (AstR ρ) (ifP r B p) (ifP r B' p'):=.bind (rel_expr r) fun _ _ ha=>.bind (rel_skip _) fun u u' e=>by
 subst e
 cases u
 · exact .bind (rel_expect _) fun _ _ _=>.bind (rel_expr r) fun _ _ hb=>rel_ifTail h hp _ ha hb
 · exact .bind (rel_expr r) fun _ _ hb=>rel_ifTail h hp _ ha hb
theorem rel_for {B B':Par Ast}(h:RelP ρ (AstR ρ) B B'){p p':Nat}(hp:ρ p p'):RelP ρ (AstR ρ) (forP B p) (forP B' p'):=.bind (rel_take _) fun t t' ht=>.bind (rel_expect _) fun _ _ _=>.bind rel_numberP fun _ _ ha=>.bind (rel_expect _) fun _ _ _=>.bind rel_numberP fun _ _ hb=>.bind h fun _ _ hc=>.pure (by rw [ht.2.1];exact .node hp (.cons ha (.cons hb (.cons hc .nil))))
theorem rel_let (r:Nat){p p':Nat}(hp:ρ p p'):RelP ρ (AstR ρ) (letP r p) (letP r p'):=.bind (rel_take _) fun t t' ht=>.bind (rel_expect _) fun _ _ _=>.bind (rel_expr r) fun _ _ ha=>rel_end (by rw [ht.2.1];exact .node hp (.cons ha .nil))
theorem rel_emit (r:Nat){p p':Nat}(hp:ρ p p'):RelP ρ (AstR ρ) (emitP r p) (emitP r p'):=.bind (rel_expr r) fun _ _ ha=>rel_end (.node hp (.cons ha .nil))
theorem rel_rest (r:Nat){B B':Par Ast}(h:RelP ρ (AstR ρ) B B')(j:Nat){p p':Nat}(hp:ρ p p'):RelP ρ (AstR ρ) (restP r B j p) (restP r B' j p'):=by
 unfold restP
 split
 · exact rel_read r hp
 · exact rel_set r hp
 · exact rel_put r hp
 · exact rel_delete r hp
 · exact rel_scan hp
 · exact rel_lock hp
 · exact rel_release r hp
 · exact rel_if r h hp
 · exact rel_for h hp
 · exact rel_let r hp
 · exact rel_emit r hp
 · exact rel_end (.node hp .nil)
 · exact rel_end (.node hp .nil)
 · exact rel_fail
theorem rel_stmt (r:Nat){B B':Par Ast}(h:RelP ρ (AstR ρ) B B'):RelP ρ (AstR ρ) (stmtP r B) (stmtP r B'):=.bind rel_peek fun t t' ht =>
 .ite (by rw [ht.2.1]) (.bind rel_next fun u u' hu=>by rw [hu.2.1];exact rel_rest r h _ hu.2.2.2) rel_fail
theorem rel_blockStep {st st':Par Ast}(h:RelP ρ (AstR ρ) st st')(ks ks':List Ast)(hk:KidsR ρ ks ks'):RelP ρ (OptR (KidsR ρ)) (blockStep st ks) (blockStep st' ks'):=.bind (rel_isNext _) fun b b' e=>by
 subst e
 cases b
 · exact .bind h fun _ _ ha=>.pure (hk.snoc ha)
 · exact .pure trivial
theorem rel_blockOf (r:Nat){st st':Par Ast}(h:RelP ρ (AstR ρ) st st'):RelP ρ (AstR ρ) (blockOf r st) (blockOf r st'):=.bind (rel_enter _ _) fun _ _ hp=>.bind (.many (rel_blockStep h) .nil) fun _ _ hk=>.bind (rel_expect _) fun _ _ _=>.pure (.node hp hk)
theorem rel_block (r:Nat):RelP ρ (AstR ρ) (blockP r) (blockP r):=by
 induction r with
 | zero=>exact rel_blockOf 0 rel_fail
 | succ r ih=>exact rel_blockOf (r+1) (rel_stmt r ih)
theorem rel_names:RelP ρ (AstR ρ) namesP namesP:=.bind rel_peek fun t t' ht=>.bind (rel_isNext _) fun b b' e=>by
 subst e
 cases b
 · exact .bind rel_words fun _ _ hk=>.pure (.node ht.2.2.2 hk)
 · exact .pure (.node ht.2.2.2 .nil)
theorem rel_table:RelP ρ (AstR ρ) tableP tableP:=.bind (rel_expect _) fun _ _ hp=>.bind (rel_take _) fun t t' ht=>.bind (rel_expect _) fun _ _ _=>.bind rel_words fun _ _ hk=>.bind (rel_expect _) fun _ _ _=>rel_end (by rw [ht.2.1];exact .node hp hk)
theorem rel_proc:RelP ρ (AstR ρ) procP procP:=.bind (rel_expect _) fun _ _ hp=>.bind (rel_take _) fun t t' ht=>.bind (rel_expect _) fun _ _ _=>.bind rel_names fun _ _ hn=>.bind (rel_expect _) fun _ _ _=>.bind (rel_skip _) fun b b' e=>by
 subst e
 rw [ht.2.1]
 cases b
 · exact .bind (rel_block 64) fun _ _ hb=>.pure (.node hp (.cons hn (.cons hb .nil)))
 · exact .bind (rel_block 64) fun _ _ hb=>.pure (.node hp (.cons hn (.cons hb .nil)))
theorem rel_progStep (ks ks':List Ast)(hk:KidsR ρ ks ks'):RelP ρ (OptR (KidsR ρ)) (progStep ks) (progStep ks'):=.bind rel_peek fun t t' ht=>.ite (by rw [ht.1]) (.pure trivial) <| .bind (rel_isNext _) fun b b' e=>by
 subst e
 cases b
 · exact .bind rel_proc fun _ _ ha=>.pure (hk.snoc ha)
 · exact .bind rel_table fun _ _ ha=>.pure (hk.snoc ha)
theorem rel_program:RelP ρ (AstR ρ) programP programP:=.bind rel_peek fun t t' ht=>.bind (.many rel_progStep .nil) fun _ _ hk=>.pure (.node ht.2.2.2 hk)
end
end
end Go.Proofs.YthdioipfdbbmmaaGreatDoor
