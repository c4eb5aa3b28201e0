/- Contracts. -/
import Derived.Test.YthdioipfdbbmmaaGreatDoorKac
import Derived.Test.YthdioipfdbbmmaaGreatDoorKaf
import Derived.Test.YthdioipfdbbmmaaGreatDoorKah
import Derived.Test.YthdioipfdbbmmaaGreatDoorProg
import Derived.WalkKit
import Derived.Handy
import Derived.Below
import Derived.Lib.Hide
import Derived.Laws.OwnMore
import Derived.Deep.AppendLies
import Derived.Deep.Onto
import Derived.Laws.EntriesVeiled
import Derived.Deep.QuietTactic
import Derived.BigQuiet
set_option linter.all false
set_option maxRecDepth 1000000
set_option maxHeartbeats 16000000
section
namespace Go.Proofs.YthdioipfdbbmmaaGreatDoor
abbrev Nd:=Tr.Nd
structure PT where
 kind:Int
 at':Nat
 txt:ByteArray
 n:Int
inductive Ast where
 | mk (kind:Int) (at':Nat) (txt:ByteArray) (n:Int) (kids:List Ast)
def Ast.at':Ast→Nat|.mk _ a _ _ _=>a
inductive Res (α:Type) where
 | err (at':Nat) (code:Int)
 | ok (a:α) (l:List PT)
abbrev Par (α:Type):=List PT→Res α
namespace Par
def pure {α:Type}(a:α):Par α:=fun l=>.ok a l
def bind {α β:Type}(f:Par α)(g:α→Par β):Par β:=fun l=>match f l with
 | .err a c=>.err a c
 | .ok a l'=>g a l'
theorem bind_ok {α β:Type}{f:Par α}{g:α→Par β}{l l':List PT}{a:α}(h:f l=.ok a l'):bind f g l=g a l':=by simp only [bind,h]
theorem bind_err {α β:Type}{f:Par α}{g:α→Par β}{l:List PT}{a:Nat}{c:Int}(h:f l=.err a c):bind f g l=.err a c:=by simp only [bind,h]
def loop {α:Type}(step:α→Par (Option α)):Nat→α→Par α
 | 0,_=>fun _=>.err 0 99
 | m+1,a=>bind (step a) fun
  | none=>pure a
  | some b=>loop step m b
def many {α:Type}(step:α→Par (Option α))(a:α):Par α:=fun l=>loop step (l.length+1) a l
def Less {α:Type}(f:Par α):Prop:=∀l a l',f l=.ok a l'→l'.length≤l.length
def Adv {α:Type}(step:α→Par (Option α)):Prop:=∀a l b l',step a l=.ok b l'→(b.isSome→l'.length<l.length)∧l'.length≤l.length
theorem loop_more {α:Type}{step:α→Par (Option α)}(hs:Adv step)(m k:Nat)(a:α)(l:List PT)(h:l.length<m)(h':l.length<k):loop step m a l=loop step k a l:=by
 induction m generalizing k a l with
 | zero=>omega
 | succ m ih =>
  cases k with
  | zero=>omega
  | succ k =>
   simp only [loop,bind]
   cases hst:step a l with
   | err p c=>rfl
   | ok b l' =>
    cases b with
    | none=>rfl
    | some b =>
     have:=(hs a l (some b) l' hst).1 rfl
     exact ih k b l' (by omega) (by omega)
theorem many_err {α:Type}{step:α→Par (Option α)}{a:α}{l:List PT}{p:Nat}{c:Int}(h:step a l=.err p c):many step a l=.err p c:=by
 simp only [many,loop,bind,h]
theorem many_done {α:Type}{step:α→Par (Option α)}{a:α}{l l':List PT}(h:step a l=.ok none l'):many step a l=.ok a l':=by
 simp only [many,loop,bind,h,pure]
theorem many_more {α:Type}{step:α→Par (Option α)}(hs:Adv step){a b:α}{l l':List PT}(h:step a l=.ok (some b) l'):many step a l=many step b l':=by
 have h1:=(hs a l (some b) l' h).1 rfl
 show loop step (l.length+1) a l=loop step (l'.length+1) b l'
 rw [loop]
 simp only [bind,h]
 exact loop_more hs _ _ b l' (by omega) (by omega)
theorem Less.pure {α:Type}(a:α):Less (pure a):=fun l b l' h=>by
 simp only [Par.pure,Res.ok.injEq] at h
 rw [h.2];exact Nat.le_refl _
theorem Less.bind {α β:Type}{f:Par α}{g:α→Par β}(hf:Less f)(hg:∀a,Less (g a)):Less (bind f g):=fun l b l' h=>by
 simp only [Par.bind] at h
 cases hfl:f l with
 | err p c=>rw [hfl] at h;simp at h
 | ok a l1 =>
  rw [hfl] at h
  exact Nat.le_trans (hg a l1 b l' h) (hf l a l1 hfl)
theorem Less.loop {α:Type}{step:α→Par (Option α)}(hs:∀a,Less (step a))(m:Nat)(a:α):Less (loop step m a):=by
 induction m generalizing a with
 | zero=>intro l b l' h;simp [Par.loop] at h
 | succ m ih =>
  refine Less.bind (hs a) fun b=>?_
  cases b with
  | none=>exact Less.pure a
  | some b=>exact ih b
theorem Less.many {α:Type}{step:α→Par (Option α)}(hs:∀a,Less (step a))(a:α):Less (many step a):=fun l=>Less.loop hs (l.length+1) a l
end Par
open Par
def isNextP (s:ByteArray):Par Bool
 | []=>.err 0 99
 | t::l=>.ok (decide (t.txt=s)) (t::l)
def skipP (s:ByteArray):Par Bool
 | []=>.err 0 99
 | t::l=>if t.txt=s then .ok true l else .ok false (t::l)
def expectP (s:ByteArray):Par Nat
 | []=>.err 0 99
 | t::l=>if t.txt=s then .ok t.at' l else .err t.at' 50
def takeP (k:Int):Par PT
 | []=>.err 0 99
 | t::l=>if t.kind=k then .ok t l else .err t.at' 50
def peekP:Par PT
 | []=>.err 0 99
 | t::l=>.ok t (t::l)
def nextP:Par PT
 | []=>.err 0 99
 | t::l=>.ok t l
def enterP (s:ByteArray)(r:Nat):Par Nat
 | []=>.err 0 99
 | t::l=>if t.txt=s then (if r=0 then .err t.at' 51 else .ok t.at' l) else .err t.at' 50
def failP {α:Type}:Par α
 | []=>.err 0 99
 | t::_=>.err t.at' 50
abbrev none0:ByteArray:=⟨#[]⟩
def nodeA (k:Int)(a:Nat)(ks:List Ast):Ast:=.mk k a none0 0 ks
def wordA (t:PT):Ast:=.mk 5 t.at' t.txt 0 []
-- expressions
def bothA (k:Int)(a b:Ast):Ast:=.mk k a.at' none0 0 [a,b]
def timesStep (fac:Par Ast)(a:Ast):Par (Option Ast):=bind (skipP ⟨#[42]⟩) fun
 | true=>bind fac fun b=>pure (some (bothA 25 a b))
 | false=>pure none
def termP (fac:Par Ast):Par Ast:=bind fac fun a=>many (timesStep fac) a
def sumStep (fac:Par Ast)(a:Ast):Par (Option Ast):=bind (skipP ⟨#[43]⟩) fun
 | true=>bind (termP fac) fun b=>pure (some (bothA 23 a b))
 | false=>bind (skipP ⟨#[45]⟩) fun
  | true=>bind (termP fac) fun b=>pure (some (bothA 24 a b))
  | false=>pure none
def exprP (fac:Par Ast):Par Ast:=bind (termP fac) fun a=>many (sumStep fac) a
def numberP:Par Ast:=bind (takeP 2) fun t=>pure (.mk 21 t.at' none0 t.n [])
def bracketP (r:Nat)(ex:Par Ast):Par Ast:=bind (enterP ⟨#[40]⟩ r) fun _=>bind ex fun a=>bind (expectP ⟨#[41]⟩) fun _=>pure a
def negP (r:Nat)(fac:Par Ast):Par Ast:=bind (enterP ⟨#[45]⟩ r) fun p=>bind fac fun a=>pure (nodeA 26 p [a])
def factorOf (r:Nat)(fac:Par Ast):Par Ast:=bind peekP fun t =>
 if t.kind=2 then numberP
 else if t.kind=1 then bind nextP fun t=>pure (.mk 22 t.at' t.txt 0 [])
 else if t.txt=⟨#[40]⟩ then bracketP r (exprP fac)
 else if t.txt=⟨#[45]⟩ then negP r fac
 else failP
def factorP:Nat→Par Ast
 | 0=>factorOf 0 failP
 | r+1=>factorOf (r+1) (factorP r)
def exprR (r:Nat):Par Ast:=exprP (factorP r)
-- statements
def wordP:Par Ast:=bind (takeP 1) fun t=>pure (wordA t)
def wordsStep (ks:List Ast):Par (Option (List Ast)):=bind (skipP ⟨#[44]⟩) fun
 | true=>bind wordP fun w=>pure (some (ks++[w]))
 | false=>pure none
def wordsP:Par (List Ast):=bind wordP fun w=>many wordsStep [w]
def rowOfP (r:Nat)(t:PT):Par Ast:=bind (enterP ⟨#[91]⟩ r) fun _=>bind (exprR (r-1)) fun k=>bind (expectP ⟨#[93]⟩) fun _=>pure (.mk 20 t.at' t.txt 0 [k])
def rowP (r:Nat):Par Ast:=bind (takeP 1) fun t=>rowOfP r t
def cellP (r:Nat):Par (Ast × Ast):=bind (rowP r) fun a=>bind (expectP ⟨#[46]⟩) fun _=>bind wordP fun b=>pure (a,b)
def endP (a:Ast):Par Ast:=bind (expectP ⟨#[59]⟩) fun _=>pure a
def readP (r:Nat)(p:Nat):Par Ast:=bind (takeP 1) fun t=>bind (expectP ⟨#[61]⟩) fun _=>bind (cellP r) fun rc=>bind (skipP ⟨#[102,111,114]⟩) fun
 | true=>bind (expectP ⟨#[117,112,100,97,116,101]⟩) fun _=>endP (.mk 7 p t.txt 1 [rc.1,rc.2])
 | false=>endP (.mk 7 p t.txt 0 [rc.1,rc.2])
def setP (r:Nat)(p:Nat):Par Ast:=bind (cellP r) fun rc=>bind (expectP ⟨#[61]⟩) fun _=>bind (exprR r) fun v=>endP (nodeA 8 p [rc.1,rc.2,v])
def putStep (r:Nat)(ks:List Ast):Par (Option (List Ast)):=bind (skipP ⟨#[44]⟩) fun
 | true=>bind (exprR r) fun w=>pure (some (ks++[w]))
 | false=>pure none
def putP (r:Nat)(p:Nat):Par Ast:=bind (rowP r) fun a=>bind (expectP ⟨#[40]⟩) fun _=>bind (exprR r) fun e=>bind (many (putStep r) [a,e]) fun ks=>bind (expectP ⟨#[41]⟩) fun _=>endP (nodeA 9 p ks)
def deleteP (r:Nat)(p:Nat):Par Ast:=bind (rowP r) fun a=>endP (nodeA 10 p [a])
def scanP (p:Nat):Par Ast:=bind (takeP 1) fun t=>bind (expectP ⟨#[61]⟩) fun _=>bind wordP fun a=>bind (expectP ⟨#[46]⟩) fun _=>bind wordP fun b=>endP (.mk 11 p t.txt 0 [a,b])
def lockP (p:Nat):Par Ast:=bind wordP fun a=>bind (skipP ⟨#[97,108,108]⟩) fun
 | true=>endP (.mk 12 p none0 1 [a])
 | false=>bind (expectP ⟨#[115,104,97,114,101,100]⟩) fun _=>endP (.mk 12 p none0 0 [a])
def releaseP (r:Nat)(p:Nat):Par Ast:=bind (takeP 1) fun t=>bind (isNextP ⟨#[91]⟩) fun
 | true=>bind (rowOfP r t) fun a=>endP (nodeA 13 p [a])
 | false=>endP (nodeA 13 p [wordA t])
def ifTail (B:Par Ast)(p:Nat)(n:Int)(a b:Ast):Par Ast:=bind B fun c=>bind (skipP ⟨#[101,108,115,101]⟩) fun
 | true=>bind B fun d=>pure (.mk 14 p none0 n [a,b,c,d])
 | false=>pure (.mk 14 p none0 n [a,b,c])
def ifP (r:Nat)(B:Par Ast)(p:Nat):Par Ast:=bind (exprR r) fun a=>bind (skipP ⟨#[61,61]⟩) fun
 | true=>bind (exprR r) fun b=>ifTail B p 1 a b
 | false=>bind (expectP ⟨#[60]⟩) fun _=>bind (exprR r) fun b=>ifTail B p 0 a b
def forP (B:Par Ast)(p:Nat):Par Ast:=bind (takeP 1) fun t=>bind (expectP ⟨#[61]⟩) fun _=>bind numberP fun a=>bind (expectP ⟨#[116,111]⟩) fun _=>bind numberP fun b=>bind B fun c=>pure (.mk 15 p t.txt 0 [a,b,c])
def letP (r:Nat)(p:Nat):Par Ast:=bind (takeP 1) fun t=>bind (expectP ⟨#[61]⟩) fun _=>bind (exprR r) fun v=>endP (.mk 16 p t.txt 0 [v])
def emitP (r:Nat)(p:Nat):Par Ast:=bind (exprR r) fun v=>endP (nodeA 17 p [v])
def rollbackP (p:Nat):Par Ast:=endP (nodeA 18 p [])
def chopP (p:Nat):Par Ast:=endP (nodeA 19 p [])
def words13:List ByteArray:=[⟨#[114,101,97,100]⟩,⟨#[115,101,116]⟩,⟨#[112,117,116]⟩,⟨#[100,101,108,101,116,101]⟩,⟨#[115,99,97,110]⟩,⟨#[108,111,99,107]⟩,⟨#[114,101,108,101,97,115,101]⟩,⟨#[105,102]⟩,⟨#[102,111,114]⟩,⟨#[108,101,116]⟩,⟨#[101,109,105,116]⟩,⟨#[114,111,108,108,98,97,99,107]⟩,⟨#[99,104,111,112]⟩]
def restP (r:Nat)(B:Par Ast)(j p:Nat):Par Ast :=
 match j with
 | 0=>readP r p
 | 1=>setP r p
 | 2=>putP r p
 | 3=>deleteP r p
 | 4=>scanP p
 | 5=>lockP p
 | 6=>releaseP r p
 | 7=>ifP r B p
 | 8=>forP B p
 | 9=>letP r p
 | 10=>emitP r p
 | 11=>rollbackP p
 | 12=>chopP p
 | _=>failP
def stmtP (r:Nat)(B:Par Ast):Par Ast:=bind peekP fun t =>
 if words13.idxOf t.txt<13 then bind nextP fun t=>restP r B (words13.idxOf t.txt) t.at' else failP
def blockStep (st:Par Ast)(ks:List Ast):Par (Option (List Ast)):=bind (isNextP ⟨#[125]⟩) fun
 | true=>pure none
 | false=>bind st fun s=>pure (some (ks++[s]))
def blockOf (r:Nat)(st:Par Ast):Par Ast:=bind (enterP ⟨#[123]⟩ r) fun p=>bind (many (blockStep st) []) fun ks=>bind (expectP ⟨#[125]⟩) fun _=>pure (nodeA 6 p ks)
def blockP:Nat→Par Ast
 | 0=>blockOf 0 failP
 | r+1=>blockOf (r+1) (stmtP r (blockP r))
-- programs
def namesP:Par Ast:=bind peekP fun t=>bind (isNextP ⟨#[41]⟩) fun
 | true=>pure (nodeA 4 t.at' [])
 | false=>bind wordsP fun ks=>pure (nodeA 4 t.at' ks)
def tableP:Par Ast:=bind (expectP ⟨#[116,97,98,108,101]⟩) fun p=>bind (takeP 1) fun t=>bind (expectP ⟨#[40]⟩) fun _=>bind wordsP fun ks=>bind (expectP ⟨#[41]⟩) fun _=>endP (.mk 2 p t.txt 0 ks)
def procP:Par Ast:=bind (expectP ⟨#[112,114,111,99]⟩) fun p=>bind (takeP 1) fun t=>bind (expectP ⟨#[40]⟩) fun _=>bind namesP fun ns=>bind (expectP ⟨#[41]⟩) fun _=>bind (skipP ⟨#[115,105,110,103,108,101]⟩) fun
 | true=>bind (blockP 64) fun b=>pure (.mk 3 p t.txt 1 [ns,b])
 | false=>bind (blockP 64) fun b=>pure (.mk 3 p t.txt 0 [ns,b])
def progStep (ks:List Ast):Par (Option (List Ast)):=bind peekP fun t =>
 if t.kind=4 then pure none
 else bind (isNextP ⟨#[116,97,98,108,101]⟩) fun
  | true=>bind tableP fun a=>pure (some (ks++[a]))
  | false=>bind procP fun a=>pure (some (ks++[a]))
def programP:Par Ast:=bind peekP fun t=>bind (many progStep []) fun ks=>pure (nodeA 1 t.at' ks)
end Go.Proofs.YthdioipfdbbmmaaGreatDoor
end
namespace Go.Proofs.YthdioipfdbbmmaaGreatDoor
section
open Par
theorem less_isNext (s:ByteArray):Less (isNextP s):=fun l b l' h=>by
 cases l with
 | nil=>simp [isNextP] at h
 | cons t l=>simp only [isNextP,Res.ok.injEq] at h;rw [← h.2];exact Nat.le_refl _
theorem less_skip (s:ByteArray):Less (skipP s):=fun l b l' h=>by
 cases l with
 | nil=>simp [skipP] at h
 | cons t l =>
  simp only [skipP] at h
  split at h<;>simp only [Res.ok.injEq] at h<;>rw [← h.2]<;>simp
theorem less_expect (s:ByteArray):Less (expectP s):=fun l b l' h=>by
 cases l with
 | nil=>simp [expectP] at h
 | cons t l =>
  simp only [expectP] at h
  split at h
  · simp only [Res.ok.injEq] at h;rw [← h.2];simp
  · simp at h
theorem less_take (k:Int):Less (takeP k):=fun l b l' h=>by
 cases l with
 | nil=>simp [takeP] at h
 | cons t l =>
  simp only [takeP] at h
  split at h
  · simp only [Res.ok.injEq] at h;rw [← h.2];simp
  · simp at h
theorem less_peek:Less peekP:=fun l b l' h=>by
 cases l with
 | nil=>simp [peekP] at h
 | cons t l=>simp only [peekP,Res.ok.injEq] at h;rw [← h.2];exact Nat.le_refl _
theorem less_next:Less nextP:=fun l b l' h=>by
 cases l with
 | nil=>simp [nextP] at h
 | cons t l=>simp only [nextP,Res.ok.injEq] at h;rw [← h.2];simp
theorem less_enter (s:ByteArray)(r:Nat):Less (enterP s r):=fun l b l' h=>by
 cases l with
 | nil=>simp [enterP] at h
 | cons t l =>
  simp only [enterP] at h
  split at h
  · split at h
    · simp at h
    · simp only [Res.ok.injEq] at h;rw [← h.2];simp
  · simp at h
theorem less_fail {α:Type}:Less (failP:Par α):=fun l b l' h=>by
 cases l<;>simp [failP] at h
theorem less_ite {α:Type}{c:Prop}[Decidable c]{f g:Par α}(hf:Less f)(hg:Less g):Less (if c then f else g):=by
 split<;>assumption
theorem less_bool {α:Type}{f g:Par α}(hf:Less f)(hg:Less g)(b:Bool):Less (match b with|true=>f|false=>g):=by
 cases b<;>assumption
def Takes {α:Type}(f:Par α):Prop:=∀l a l',f l=.ok a l'→l'.length<l.length
theorem Takes.less {α:Type}{f:Par α}(h:Takes f):Less f:=fun l a l' e=>Nat.le_of_lt (h l a l' e)
theorem Takes.left {α β:Type}{f:Par α}{g:α→Par β}(hf:Takes f)(hg:∀a,Less (g a)):Takes (bind f g):=fun l b l' h=>by
 simp only [Par.bind] at h
 cases hfl:f l with
 | err p c=>rw [hfl] at h;simp at h
 | ok a l1 =>
  rw [hfl] at h
  exact Nat.lt_of_le_of_lt (hg a l1 b l' h) (hf l a l1 hfl)
theorem Takes.right {α β:Type}{f:Par α}{g:α→Par β}(hf:Less f)(hg:∀a,Takes (g a)):Takes (bind f g):=fun l b l' h=>by
 simp only [Par.bind] at h
 cases hfl:f l with
 | err p c=>rw [hfl] at h;simp at h
 | ok a l1 =>
  rw [hfl] at h
  exact Nat.lt_of_lt_of_le (hg a l1 b l' h) (hf l a l1 hfl)
theorem takes_expect (s:ByteArray):Takes (expectP s):=fun l b l' h=>by
 cases l with
 | nil=>simp [expectP] at h
 | cons t l =>
  simp only [expectP] at h
  split at h
  · simp only [Res.ok.injEq] at h;rw [← h.2];simp
  · simp at h
theorem takes_take (k:Int):Takes (takeP k):=fun l b l' h=>by
 cases l with
 | nil=>simp [takeP] at h
 | cons t l =>
  simp only [takeP] at h
  split at h
  · simp only [Res.ok.injEq] at h;rw [← h.2];simp
  · simp at h
theorem takes_next:Takes nextP:=fun l b l' h=>by
 cases l with
 | nil=>simp [nextP] at h
 | cons t l=>simp only [nextP,Res.ok.injEq] at h;rw [← h.2];simp
theorem takes_fail {α:Type}:Takes (failP:Par α):=fun l b l' h=>by
 cases l<;>simp [failP] at h
theorem adv_skip {α:Type}{s:ByteArray}{g h:α→Par (Option α)}(hg:∀a,Less (g a))(hh:∀a,Less (h a))(hn:∀a l b l',h a l=.ok (some b) l'→l'.length<l.length) :
 Adv (fun a=>bind (skipP s) fun|true=>g a|false=>h a):=fun a l b l' e=>by
 refine ⟨fun hb=>?_,Less.bind (less_skip s) (fun x=>less_bool (hg a) (hh a) x) l b l' e⟩
 cases l with
 | nil=>simp [Par.bind,skipP] at e
 | cons t l =>
  simp only [Par.bind,skipP] at e
  by_cases ht:t.txt=s
  · rw [if_pos ht] at e
    have:=hg a l b l' e
    simp only [List.length_cons];omega
  · rw [if_neg ht] at e
    obtain ⟨c,rfl⟩:=Option.isSome_iff_exists.1 hb
    exact hn a _ c l' e
theorem none_no {α:Type}:∀(a:α) (l:List PT) (b:α) (l':List PT),(pure none:Par (Option α)) l=.ok (some b) l'→l'.length<l.length:=fun _ l b l' h=>by simp [Par.pure] at h
theorem less_times {fac:Par Ast}(h:Less fac)(a:Ast):Less (timesStep fac a) :=
 Less.bind (less_skip _) fun b=>less_bool (Less.bind h fun _=>Less.pure _) (Less.pure _) b
theorem step_times {fac:Par Ast}(h:Less fac):Adv (timesStep fac) :=
 adv_skip (fun _=>Less.bind h fun _=>Less.pure _) (fun _=>Less.pure _) none_no
theorem less_term {fac:Par Ast}(h:Less fac):Less (termP fac):=Less.bind h fun a=>Less.many (less_times h) a
theorem less_sum {fac:Par Ast}(h:Less fac)(a:Ast):Less (sumStep fac a) :=
 Less.bind (less_skip _) fun b=>less_bool (Less.bind (less_term h) fun _=>Less.pure _) (Less.bind (less_skip _) fun c=>less_bool (Less.bind (less_term h) fun _=>Less.pure _) (Less.pure _) c) b
theorem step_sum {fac:Par Ast}(h:Less fac):Adv (sumStep fac) :=
 adv_skip (fun _=>Less.bind (less_term h) fun _=>Less.pure _) (fun _=>Less.bind (less_skip _) fun c=>less_bool (Less.bind (less_term h) fun _=>Less.pure _) (Less.pure _) c)
  (fun _ l b l' e=>((adv_skip (s:=⟨#[45]⟩) (g:=fun a=>bind (termP fac) fun b=>pure (some (bothA 24 a b))) (h:=fun _=>pure none) (fun _=>Less.bind (less_term h) fun _=>Less.pure _) (fun _=>Less.pure _) none_no) _ l (some b) l' e).1 rfl)
theorem less_expr {fac:Par Ast}(h:Less fac):Less (exprP fac):=Less.bind (less_term h) fun a=>Less.many (less_sum h) a
theorem less_number:Less numberP:=Less.bind (less_take _) fun _=>Less.pure _
theorem less_factorOf (r:Nat){fac:Par Ast}(h:Less fac):Less (factorOf r fac) :=
 Less.bind less_peek fun _=>less_ite less_number <| less_ite (Less.bind less_next fun _=>Less.pure _) <|
  less_ite (Less.bind (less_enter _ _) fun _=>Less.bind (less_expr h) fun _=>Less.bind (less_expect _) fun _=>Less.pure _) <|
  less_ite (Less.bind (less_enter _ _) fun _=>Less.bind h fun _=>Less.pure _) less_fail
theorem less_factor (r:Nat):Less (factorP r):=by
 induction r with
 | zero=>exact less_factorOf 0 less_fail
 | succ r ih=>exact less_factorOf (r+1) ih
theorem less_exprR (r:Nat):Less (exprR r):=less_expr (less_factor r)
theorem less_word:Less wordP:=Less.bind (less_take _) fun _=>Less.pure _
theorem less_wordsStep (ks:List Ast):Less (wordsStep ks):=Less.bind (less_skip _) fun b=>less_bool (Less.bind less_word fun _=>Less.pure _) (Less.pure _) b
theorem step_words:Adv wordsStep:=adv_skip (fun _=>Less.bind less_word fun _=>Less.pure _) (fun _=>Less.pure _) none_no
theorem less_words:Less wordsP:=Less.bind less_word fun _=>Less.many less_wordsStep _
theorem less_rowOf (r:Nat)(t:PT):Less (rowOfP r t):=Less.bind (less_enter _ _) fun _=>Less.bind (less_exprR _) fun _=>Less.bind (less_expect _) fun _=>Less.pure _
theorem less_row (r:Nat):Less (rowP r):=Less.bind (less_take _) fun t=>less_rowOf r t
theorem less_cell (r:Nat):Less (cellP r):=Less.bind (less_row r) fun _=>Less.bind (less_expect _) fun _=>Less.bind less_word fun _=>Less.pure _
theorem less_end (a:Ast):Less (endP a):=Less.bind (less_expect _) fun _=>Less.pure _
theorem less_read (r p:Nat):Less (readP r p):=Less.bind (less_take _) fun _=>Less.bind (less_expect _) fun _=>Less.bind (less_cell r) fun _=>Less.bind (less_skip _) fun b=>less_bool (Less.bind (less_expect _) fun _=>less_end _) (less_end _) b
theorem less_set (r p:Nat):Less (setP r p):=Less.bind (less_cell r) fun _=>Less.bind (less_expect _) fun _=>Less.bind (less_exprR r) fun _=>less_end _
theorem less_putStep (r:Nat)(ks:List Ast):Less (putStep r ks):=Less.bind (less_skip _) fun b=>less_bool (Less.bind (less_exprR r) fun _=>Less.pure _) (Less.pure _) b
theorem step_put (r:Nat):Adv (putStep r):=adv_skip (fun _=>Less.bind (less_exprR r) fun _=>Less.pure _) (fun _=>Less.pure _) none_no
theorem less_put (r p:Nat):Less (putP r p):=Less.bind (less_row r) fun _=>Less.bind (less_expect _) fun _=>Less.bind (less_exprR r) fun _=>Less.bind (Less.many (less_putStep r) _) fun _=>Less.bind (less_expect _) fun _=>less_end _
theorem less_delete (r p:Nat):Less (deleteP r p):=Less.bind (less_row r) fun _=>less_end _
theorem less_scan (p:Nat):Less (scanP p):=Less.bind (less_take _) fun _=>Less.bind (less_expect _) fun _=>Less.bind less_word fun _=>Less.bind (less_expect _) fun _=>Less.bind less_word fun _=>less_end _
theorem less_lock (p:Nat):Less (lockP p):=Less.bind less_word fun _=>Less.bind (less_skip _) fun b=>less_bool (less_end _) (Less.bind (less_expect _) fun _=>less_end _) b
theorem less_release (r p:Nat):Less (releaseP r p):=Less.bind (less_take _) fun t=>Less.bind (less_isNext _) fun b=>less_bool (Less.bind (less_rowOf r t) fun _=>less_end _) (less_end _) b
theorem less_ifTail {B:Par Ast}(h:Less B)(p:Nat)(n:Int)(a b:Ast):Less (ifTail B p n a b):=Less.bind h fun _=>Less.bind (less_skip _) fun b=>less_bool (Less.bind h fun _=>Less.pure _) (Less.pure _) b
theorem less_if (r:Nat){B:Par Ast}(h:Less B)(p:Nat):Less (ifP r B p):=Less.bind (less_exprR r) fun _=>Less.bind (less_skip _) fun b=>less_bool (Less.bind (less_exprR r) fun _=>less_ifTail h p _ _ _) (Less.bind (less_expect _) fun _=>Less.bind (less_exprR r) fun _=>less_ifTail h p _ _ _) b
theorem less_for {B:Par Ast}(h:Less B)(p:Nat):Less (forP B p):=Less.bind (less_take _) fun _=>Less.bind (less_expect _) fun _=>Less.bind less_number fun _=>Less.bind (less_expect _) fun _=>Less.bind less_number fun _=>Less.bind h fun _=>Less.pure _
theorem less_let (r p:Nat):Less (letP r p):=Less.bind (less_take _) fun _=>Less.bind (less_expect _) fun _=>Less.bind (less_exprR r) fun _=>less_end _
theorem less_emit (r p:Nat):Less (emitP r p):=Less.bind (less_exprR r) fun _=>less_end _
theorem less_rest (r:Nat){B:Par Ast}(h:Less B)(j p:Nat):Less (restP r B j p):=by
 unfold restP
 split
 · exact less_read r p
 · exact less_set r p
 · exact less_put r p
 · exact less_delete r p
 · exact less_scan p
 · exact less_lock p
 · exact less_release r p
 · exact less_if r h p
 · exact less_for h p
 · exact less_let r p
 · exact less_emit r p
 · exact less_end _
 · exact less_end _
 · exact less_fail
theorem takes_stmt (r:Nat){B:Par Ast}(h:Less B):Takes (stmtP r B):=Takes.right less_peek fun t=>by
 show Takes (if _ then _ else _)
 split
 · exact Takes.left takes_next fun t=>less_rest r h _ _
 · exact takes_fail
theorem less_blockStep {st:Par Ast}(h:Takes st)(ks:List Ast):Less (blockStep st ks):=Less.bind (less_isNext _) fun b=>less_bool (Less.pure _) (Less.bind h.less fun _=>Less.pure _) b
theorem step_block {st:Par Ast}(h:Takes st):Adv (blockStep st):=fun ks l b l' e=>by
 refine ⟨fun hb=>?_,less_blockStep h ks l b l' e⟩
 cases l with
 | nil=>simp [blockStep,Par.bind,isNextP] at e
 | cons t l =>
  simp only [blockStep,Par.bind,isNextP] at e
  by_cases ht:t.txt=⟨#[125]⟩
  · simp only [ht,decide_true,Par.pure,Res.ok.injEq] at e
    rw [← e.1] at hb;simp at hb
  · simp only [ht,decide_false,Par.bind] at e
    cases hs:st (t::l) with
    | err p c=>rw [hs] at e;simp at e
    | ok s l1 =>
     rw [hs] at e
     simp only [Par.pure,Res.ok.injEq] at e
     rw [← e.2]
     exact h _ _ _ hs
theorem less_blockOf (r:Nat){st:Par Ast}(h:Takes st):Less (blockOf r st):=Less.bind (less_enter _ _) fun _=>Less.bind (Less.many (less_blockStep h) _) fun _=>Less.bind (less_expect _) fun _=>Less.pure _
theorem less_block (r:Nat):Less (blockP r):=by
 induction r with
 | zero=>exact less_blockOf 0 takes_fail
 | succ r ih=>exact less_blockOf (r+1) (takes_stmt r ih)
theorem less_names:Less namesP:=Less.bind less_peek fun _=>Less.bind (less_isNext _) fun b=>less_bool (Less.pure _) (Less.bind less_words fun _=>Less.pure _) b
theorem takes_table:Takes tableP:=Takes.left (takes_expect _) fun _=>Less.bind (less_take _) fun _=>Less.bind (less_expect _) fun _=>Less.bind less_words fun _=>Less.bind (less_expect _) fun _=>less_end _
theorem takes_proc:Takes procP:=Takes.left (takes_expect _) fun _=>Less.bind (less_take _) fun _=>Less.bind (less_expect _) fun _=>Less.bind less_names fun _=>Less.bind (less_expect _) fun _=>Less.bind (less_skip _) fun b=>less_bool (Less.bind (less_block _) fun _=>Less.pure _) (Less.bind (less_block _) fun _=>Less.pure _) b
theorem less_progStep (ks:List Ast):Less (progStep ks):=Less.bind less_peek fun _=>less_ite (Less.pure _) (Less.bind (less_isNext _) fun b=>less_bool (Less.bind takes_table.less fun _=>Less.pure _) (Less.bind takes_proc.less fun _=>Less.pure _) b)
theorem step_prog:Adv progStep:=fun ks l b l' e=>by
 refine ⟨fun hb=>?_,less_progStep ks l b l' e⟩
 cases l with
 | nil=>simp [progStep,Par.bind,peekP] at e
 | cons t l =>
  simp only [progStep,Par.bind,peekP] at e
  by_cases ht:t.kind=4
  · rw [if_pos ht] at e
    simp only [Par.pure,Res.ok.injEq] at e
    rw [← e.1] at hb;simp at hb
  · rw [if_neg ht] at e
    simp only [Par.bind,isNextP] at e
    by_cases hx:t.txt=⟨#[116,97,98,108,101]⟩
    · simp only [hx,decide_true,Par.bind] at e
      cases hs:tableP (t::l) with
      | err p c=>rw [hs] at e;simp at e
      | ok s l1 =>
       rw [hs] at e
       simp only [Par.pure,Res.ok.injEq] at e
       rw [← e.2]
       exact takes_table _ _ _ hs
    · simp only [hx,decide_false,Par.bind] at e
      cases hs:procP (t::l) with
      | err p c=>rw [hs] at e;simp at e
      | ok s l1 =>
       rw [hs] at e
       simp only [Par.pure,Res.ok.injEq] at e
       rw [← e.2]
       exact takes_proc _ _ _ hs
end
section
open Par
mutual
def Ast.size:Ast→Nat
 | .mk _ _ _ _ ks=>sizeL ks+1
def sizeL:List Ast→Nat
 | []=>0
 | a::r=>a.size+sizeL r
end
mutual
def post (b:Nat):Ast→List Nd
 | .mk k a t n ks=>postL b ks++[⟨k,a,t,n,roots b ks⟩]
def postL (b:Nat):List Ast→List Nd
 | []=>[]
 | x::r=>post b x++postL (b+x.size) r
def roots (b:Nat):List Ast→List Int
 | []=>[]
 | x::r=>(((b+x.size:Nat):Int)-1)::roots (b+x.size) r
end
theorem size_pos (a:Ast):1≤a.size:=by cases a;simp [Ast.size]
theorem sizeL_append (x y:List Ast):sizeL (x++y)=sizeL x+sizeL y:=by
 induction x with
 | nil=>simp [sizeL]
 | cons a r ih=>simp only [List.cons_append,sizeL,ih];omega
theorem sizeL_one (a:Ast):sizeL [a]=a.size:=by simp [sizeL]
mutual
theorem post_length (b:Nat):∀a:Ast,(post b a).length=a.size
 | .mk k a t n ks=>by simp only [post,List.length_append,postL_length b ks,Ast.size,List.length_singleton]
theorem postL_length (b:Nat):∀l:List Ast,(postL b l).length=sizeL l
 | []=>by simp [postL,sizeL]
 | x::r=>by simp only [postL,List.length_append,post_length b x,postL_length (b+x.size) r,sizeL]
end
theorem postL_append (b:Nat)(x y:List Ast):postL b (x++y)=postL b x++postL (b+sizeL x) y:=by
 induction x generalizing b with
 | nil=>simp [postL,sizeL]
 | cons a r ih=>simp only [List.cons_append,postL,ih,List.append_assoc,sizeL,Nat.add_assoc]
theorem postL_one (b:Nat)(a:Ast):postL b [a]=post b a:=by simp [postL]
theorem roots_append (b:Nat)(x y:List Ast):roots b (x++y)=roots b x++roots (b+sizeL x) y:=by
 induction x generalizing b with
 | nil=>simp [roots,sizeL]
 | cons a r ih=>simp only [List.cons_append,roots,ih,sizeL,Nat.add_assoc]
theorem roots_one (b:Nat)(a:Ast):roots b [a]=[((b+a.size:Nat):Int)-1]:=by simp [roots]
theorem roots_length (b:Nat)(x:List Ast):(roots b x).length=x.length:=by
 induction x generalizing b with
 | nil=>rfl
 | cons a r ih=>simp only [roots,List.length_cons,ih]
theorem post_root (b:Nat)(a:Ast):∃ks,(post b a).getD (a.size-1) default=⟨(match a with|.mk k _ _ _ _=>k),a.at',(match a with|.mk _ _ t _ _=>t),(match a with|.mk _ _ _ n _=>n),ks⟩:=by
 cases a with
 | mk k a t n ks =>
  refine ⟨roots b ks,?_⟩
  simp only [post,Ast.size,Nat.add_sub_cancel,Ast.at']
  rw [← postL_length b ks]
  simp [List.getD]
def Sz {α:Type}(c:Nat)(f:Par α)(m:α→Nat):Prop:=∀l a l',f l=.ok a l'→m a+l'.length≤c+l.length
theorem Sz.bind {α β:Type}{c:Nat}{f:Par α}{g:α→Par β}{m:α→Nat}{m':β→Nat}(hf:Sz c f m)(hg:∀a,Sz (m a) (g a) m'):Sz c (Par.bind f g) m':=fun l b l' h=>by
 simp only [Par.bind] at h
 cases hfl:f l with
 | err p c=>rw [hfl] at h;simp at h
 | ok a l1 =>
  rw [hfl] at h
  have h1:=hg a l1 b l' h
  have h2:=hf l a l1 hfl
  omega
theorem Sz.pure {α:Type}{c:Nat}{a:α}{m:α→Nat}(h:m a≤c):Sz c (Par.pure a) m:=fun l b l' e=>by
 simp only [Par.pure,Res.ok.injEq] at e
 rw [← e.1,← e.2];omega
theorem Sz.less {α:Type}{c:Nat}{f:Par α}(h:Less f):Sz c f (fun _=>c):=fun l a l' e=>by
 have:=h l a l' e
 show c+_≤_
 omega
theorem Sz.takes {α:Type}{c:Nat}{f:Par α}(h:Takes f):Sz c f (fun _=>c+1):=fun l a l' e=>by
 have:=h l a l' e
 show c+1+_≤_
 omega
theorem Sz.skip {c:Nat}{s:ByteArray}:Sz c (skipP s) (fun b=>if b then c+1 else c):=fun l a l' e=>by
 cases l with
 | nil=>simp [skipP] at e
 | cons t l =>
  simp only [skipP] at e
  split at e<;>simp only [Res.ok.injEq] at e<;>rw [← e.1,← e.2]<;>simp<;>omega
theorem Sz.up {α:Type}{c k:Nat}{f:Par α}{m m':α→Nat}(h:Sz c f m)(hm:∀a,m' a≤m a+k):Sz (c+k) f m':=fun l a l' e=>by
 have h1:=h l a l' e
 have h2:=hm a
 omega
theorem Sz.ite {α:Type}{c:Nat}{p:Prop}[Decidable p]{f g:Par α}{m:α→Nat}(hf:Sz c f m)(hg:Sz c g m):Sz c (if p then f else g) m:=by
 split<;>assumption
theorem Sz.bool {α:Type}{c d:Nat}{f g:Par α}{m:α→Nat}(hf:Sz c f m)(hg:Sz d g m)(b:Bool):Sz (if b then c else d) (match b with|true=>f|false=>g) m:=by
 cases b
 · exact hg
 · exact hf
theorem Sz.bool1 {α:Type}{c:Nat}{f g:Par α}{m:α→Nat}(hf:Sz c f m)(hg:Sz c g m)(b:Bool):Sz c (match b with|true=>f|false=>g) m:=by
 cases b
 · exact hg
 · exact hf
theorem Sz.fail {α:Type}{c:Nat}{m:α→Nat}:Sz c (failP:Par α) m:=fun l a l' e=>by cases l<;>simp [failP] at e
def optC {α:Type}(cr:α→Nat)(n:Nat):Option α→Nat
 | none=>n
 | some b=>cr b
theorem Sz.loop {α:Type}{cr:α→Nat}{step:α→Par (Option α)}(h:∀a,Sz (cr a) (step a) (optC cr (cr a)))(m:Nat)(a:α):Sz (cr a) (loop step m a) cr:=by
 induction m generalizing a with
 | zero=>intro l b l' e;simp [Par.loop] at e
 | succ m ih =>
  refine Sz.bind (h a) fun b=>?_
  cases b with
  | none=>exact Sz.pure (Nat.le_refl _)
  | some b=>exact ih b
theorem Sz.many {α:Type}{cr:α→Nat}{step:α→Par (Option α)}(h:∀a,Sz (cr a) (step a) (optC cr (cr a)))(a:α):Sz (cr a) (many step a) cr :=
 fun l=>Sz.loop h (l.length+1) a l
theorem sz_both (k:Int)(a b:Ast):(bothA k a b).size=a.size+b.size+1:=by simp [bothA,Ast.size,sizeL]
theorem sz_times {fac:Par Ast}(h:∀c,Sz c fac (fun a=>a.size+c))(a:Ast):Sz a.size (timesStep fac a) (optC Ast.size a.size) :=
 Sz.bind Sz.skip fun b=>Sz.bool (Sz.bind (h _) fun b=>Sz.pure (by simp only [optC,sz_both];omega)) (Sz.pure (Nat.le_refl _)) b
theorem sz_term {fac:Par Ast}(h:∀c,Sz c fac (fun a=>a.size+c))(c:Nat):Sz c (termP fac) (fun a=>a.size+c):=by
 have:=Sz.up (k:=c) (m':=fun a=>a.size+c) (Sz.bind (h 0) fun a=>Sz.many (cr:=Ast.size) (sz_times h) a) (fun a=>Nat.le_refl _)
 rw [Nat.zero_add] at this;exact this
theorem sz_sum {fac:Par Ast}(h:∀c,Sz c fac (fun a=>a.size+c))(a:Ast):Sz a.size (sumStep fac a) (optC Ast.size a.size) :=
 Sz.bind Sz.skip fun b=>Sz.bool (Sz.bind (sz_term h _) fun b=>Sz.pure (by simp only [optC,sz_both];omega)) (Sz.bind Sz.skip fun b=>Sz.bool (Sz.bind (sz_term h _) fun b=>Sz.pure (by simp only [optC,sz_both];omega)) (Sz.pure (Nat.le_refl _)) b) b
theorem sz_expr {fac:Par Ast}(h:∀c,Sz c fac (fun a=>a.size+c))(c:Nat):Sz c (exprP fac) (fun a=>a.size+c):=by
 have:=Sz.up (k:=c) (m':=fun a=>a.size+c) (Sz.bind (sz_term h 0) fun a=>Sz.many (cr:=Ast.size) (sz_sum h) a) (fun a=>Nat.le_refl _)
 rw [Nat.zero_add] at this;exact this
theorem sz_number (c:Nat):Sz c numberP (fun a=>a.size+c):=Sz.bind (Sz.takes (takes_take _)) fun _=>Sz.pure (by simp [Ast.size,sizeL];omega)
theorem takes_enter (s:ByteArray)(r:Nat):Takes (enterP s r):=fun l b l' h=>by
 cases l with
 | nil=>simp [enterP] at h
 | cons t l =>
  simp only [enterP] at h
  split at h
  · split at h
    · simp at h
    · simp only [Res.ok.injEq] at h;rw [← h.2];simp
  · simp at h
theorem sz_factorOf (r:Nat){fac:Par Ast}(h:∀c,Sz c fac (fun a=>a.size+c))(c:Nat):Sz c (factorOf r fac) (fun a=>a.size+c) :=
 Sz.bind (Sz.less less_peek) fun _=>Sz.ite (sz_number c) <| Sz.ite (Sz.bind (Sz.takes takes_next) fun _=>Sz.pure (by simp [Ast.size,sizeL];omega)) <|
  Sz.ite (Sz.bind (Sz.less (less_enter _ _)) fun _=>Sz.bind (sz_expr h c) fun _=>Sz.bind (Sz.less (less_expect _)) fun _=>Sz.pure (Nat.le_refl _)) <|
  Sz.ite (Sz.bind (Sz.takes (takes_enter _ _)) fun _=>Sz.bind (h _) fun _=>Sz.pure (by simp [nodeA,Ast.size,sizeL];omega)) Sz.fail
theorem sz_factor (r c:Nat):Sz c (factorP r) (fun a=>a.size+c):=by
 induction r generalizing c with
 | zero=>exact sz_factorOf 0 (fun _=>Sz.fail) c
 | succ r ih=>exact sz_factorOf (r+1) ih c
theorem sz_exprR (r c:Nat):Sz c (exprR r) (fun a=>a.size+c):=sz_expr (sz_factor r) c
theorem sz_word (c:Nat):Sz c wordP (fun a=>a.size+c):=Sz.bind (Sz.takes (takes_take _)) fun _=>Sz.pure (by simp [wordA,Ast.size,sizeL];omega)
theorem sz_words (c:Nat):Sz c wordsP (fun ks=>sizeL ks+c):=by
 have h1:∀ks,Sz (sizeL ks) (wordsStep ks) (optC sizeL (sizeL ks)):=fun ks =>
  Sz.bind Sz.skip fun b=>Sz.bool (Sz.bind (sz_word _) fun w=>Sz.pure (by simp only [optC,sizeL_append,sizeL_one];omega)) (Sz.pure (Nat.le_refl _)) b
 have:=Sz.up (k:=c) (m':=fun ks=>sizeL ks+c) (Sz.bind (sz_word 0) fun w=>by
  have h2:=Sz.many (cr:=sizeL) h1 [w]
  rw [sizeL_one] at h2
  exact h2) (fun a=>Nat.le_refl _)
 rw [Nat.zero_add] at this;exact this
theorem sz_rowOf (r c:Nat)(t:PT):Sz c (rowOfP r t) (fun a=>a.size+c) :=
 Sz.bind (Sz.takes (takes_enter _ _)) fun _=>Sz.bind (sz_exprR _ _) fun _=>Sz.bind (Sz.less (less_expect _)) fun _=>Sz.pure (by simp [Ast.size,sizeL];omega)
theorem sz_row (r c:Nat):Sz c (rowP r) (fun a=>a.size+c):=Sz.bind (Sz.less (less_take _)) fun t=>sz_rowOf r c t
theorem sz_cell (r c:Nat):Sz c (cellP r) (fun a=>a.1.size+a.2.size+c) :=
 Sz.bind (sz_row r c) fun _=>Sz.bind (Sz.less (less_expect _)) fun _=>Sz.bind (sz_word _) fun _=>Sz.pure (by simp;omega)
theorem sz_end {c:Nat}(a:Ast)(h:a.size≤c+1):Sz c (endP a) (fun a=>a.size):=Sz.bind (Sz.takes (takes_expect _)) fun _=>Sz.pure (by omega)
theorem sz_nil {c:Nat}(k:Int)(p:Nat)(t:ByteArray)(n:Int)(ks:List Ast)(h:sizeL ks≤c):(Ast.mk k p t n ks).size≤c+1:=by simp only [Ast.size];omega
theorem sz_read (r p c:Nat):Sz c (readP r p) Ast.size :=
 Sz.bind (Sz.less (less_take _)) fun _=>Sz.bind (Sz.less (less_expect _)) fun _=>Sz.bind (sz_cell r c) fun rc=>Sz.bind (Sz.less (less_skip _)) fun b=>by
  cases b
  · exact sz_end _ (sz_nil _ _ _ _ _ (by simp only [sizeL];omega))
  · exact Sz.bind (Sz.less (less_expect _)) fun _=>sz_end _ (sz_nil _ _ _ _ _ (by simp only [sizeL];omega))
theorem sz_set (r p c:Nat):Sz c (setP r p) Ast.size :=
 Sz.bind (sz_cell r c) fun rc=>Sz.bind (Sz.less (less_expect _)) fun _=>Sz.bind (sz_exprR r _) fun v=>sz_end _ (sz_nil _ _ _ _ _ (by simp only [sizeL];omega))
theorem sz_put (r p c:Nat):Sz c (putP r p) Ast.size:=by
 have h1:∀ks,Sz (sizeL ks+c) (putStep r ks) (optC (fun ks=>sizeL ks+c) (sizeL ks+c)):=fun ks =>
  Sz.bind Sz.skip fun b=>Sz.bool (Sz.bind (sz_exprR r _) fun w=>Sz.pure (by simp only [optC,sizeL_append,sizeL_one];omega)) (Sz.pure (Nat.le_refl _)) b
 exact Sz.bind (sz_row r c) fun a=>Sz.bind (Sz.less (less_expect _)) fun _=>Sz.bind (sz_exprR r _) fun e=>Sz.bind (by
  have h2:=Sz.many (cr:=fun ks=>sizeL ks+c) h1 [a,e]
  have e2:sizeL [a,e]+c=e.size+(a.size+c):=by simp only [sizeL];omega
  rw [e2] at h2
  exact h2) fun ks=>Sz.bind (Sz.less (less_expect _)) fun _=>sz_end _ (sz_nil _ _ _ _ _ (by omega))
theorem sz_delete (r p c:Nat):Sz c (deleteP r p) Ast.size:=Sz.bind (sz_row r c) fun a=>sz_end _ (sz_nil _ _ _ _ _ (by simp only [sizeL];omega))
theorem sz_scan (p c:Nat):Sz c (scanP p) Ast.size :=
 Sz.bind (Sz.less (less_take _)) fun _=>Sz.bind (Sz.less (less_expect _)) fun _=>Sz.bind (sz_word _) fun a=>Sz.bind (Sz.less (less_expect _)) fun _=>Sz.bind (sz_word _) fun b=>sz_end _ (sz_nil _ _ _ _ _ (by simp only [sizeL];omega))
theorem sz_lock (p c:Nat):Sz c (lockP p) Ast.size :=
 Sz.bind (sz_word c) fun a=>Sz.bind (Sz.less (less_skip _)) fun b=>by
  cases b
  · exact Sz.bind (Sz.less (less_expect _)) fun _=>sz_end _ (sz_nil _ _ _ _ _ (by simp only [sizeL];omega))
  · exact sz_end _ (sz_nil _ _ _ _ _ (by simp only [sizeL];omega))
theorem sz_release (r p c:Nat):Sz c (releaseP r p) Ast.size :=
 Sz.bind (Sz.takes (takes_take _)) fun t=>Sz.bind (Sz.less (less_isNext _)) fun b=>by
  cases b
  · exact sz_end _ (sz_nil _ _ _ _ _ (by simp only [sizeL,wordA,Ast.size];omega))
  · exact Sz.bind (sz_rowOf r _ t) fun a=>sz_end _ (sz_nil _ _ _ _ _ (by simp only [sizeL];omega))
theorem sz_ifTail {B:Par Ast}(h:∀c,Sz c B (fun a=>a.size+c))(p:Nat)(n:Int)(a b:Ast)(c:Nat)(hc:a.size+b.size+1≤c):Sz c (ifTail B p n a b) Ast.size :=
 Sz.bind (h c) fun x=>Sz.bind (Sz.less (less_skip _)) fun u=>by
  cases u
  · exact Sz.pure (by simp only [Ast.size,sizeL];omega)
  · exact Sz.bind (h _) fun y=>Sz.pure (by simp only [Ast.size,sizeL];omega)
theorem sz_if (r:Nat){B:Par Ast}(h:∀c,Sz c B (fun a=>a.size+c))(p c:Nat)(hc:1≤c):Sz c (ifP r B p) Ast.size :=
 Sz.bind (sz_exprR r c) fun a=>Sz.bind (Sz.less (less_skip _)) fun u=>by
  cases u
  · exact Sz.bind (Sz.less (less_expect _)) fun _=>Sz.bind (sz_exprR r _) fun b=>sz_ifTail h p _ a b _ (by omega)
  · exact Sz.bind (sz_exprR r _) fun b=>sz_ifTail h p _ a b _ (by omega)
theorem sz_for {B:Par Ast}(h:∀c,Sz c B (fun a=>a.size+c))(p c:Nat)(hc:1≤c):Sz c (forP B p) Ast.size :=
 Sz.bind (Sz.less (less_take _)) fun _=>Sz.bind (Sz.less (less_expect _)) fun _=>Sz.bind (sz_number c) fun a=>Sz.bind (Sz.less (less_expect _)) fun _=>Sz.bind (sz_number _) fun b=>Sz.bind (h _) fun x=>Sz.pure (by simp only [Ast.size,sizeL];omega)
theorem sz_let (r p c:Nat):Sz c (letP r p) Ast.size :=
 Sz.bind (Sz.less (less_take _)) fun _=>Sz.bind (Sz.less (less_expect _)) fun _=>Sz.bind (sz_exprR r _) fun v=>sz_end _ (sz_nil _ _ _ _ _ (by simp only [sizeL];omega))
theorem sz_emit (r p c:Nat):Sz c (emitP r p) Ast.size:=Sz.bind (sz_exprR r _) fun v=>sz_end _ (sz_nil _ _ _ _ _ (by simp only [sizeL];omega))
theorem sz_rest (r:Nat){B:Par Ast}(h:∀c,Sz c B (fun a=>a.size+c))(j p c:Nat)(hc:1≤c):Sz c (restP r B j p) Ast.size:=by
 unfold restP
 split
 · exact sz_read r p c
 · exact sz_set r p c
 · exact sz_put r p c
 · exact sz_delete r p c
 · exact sz_scan p c
 · exact sz_lock p c
 · exact sz_release r p c
 · exact sz_if r h p c hc
 · exact sz_for h p c hc
 · exact sz_let r p c
 · exact sz_emit r p c
 · exact sz_end _ (sz_nil _ _ _ _ _ (by simp only [sizeL];omega))
 · exact sz_end _ (sz_nil _ _ _ _ _ (by simp only [sizeL];omega))
 · exact Sz.fail
theorem Sz.add {α:Type}{c:Nat}{f:Par α}{m:α→Nat}(h:Sz c f m)(k:Nat):Sz (c+k) f (fun a=>m a+k):=h.up fun _=>Nat.le_refl _
theorem sz_stmt (r:Nat){B:Par Ast}(h:∀c,Sz c B (fun a=>a.size+c))(c:Nat):Sz c (stmtP r B) (fun a=>a.size+c):=by
 have h0:Sz 0 (stmtP r B) Ast.size:=Sz.bind (Sz.less less_peek) fun t=>by
  show Sz 0 (if _ then _ else _) _
  split
  · exact Sz.bind (Sz.takes takes_next) fun t=>sz_rest r h _ _ _ (by omega)
  · exact Sz.fail
 have:=h0.add c
 rw [Nat.zero_add] at this;exact this
theorem sz_blockOf (r:Nat){st:Par Ast}(h:∀c,Sz c st (fun a=>a.size+c))(c:Nat):Sz c (blockOf r st) (fun a=>a.size+c):=by
 have h1:∀ks,Sz (sizeL ks+(c+1)) (blockStep st ks) (optC (fun ks=>sizeL ks+(c+1)) (sizeL ks+(c+1))):=fun ks =>
  Sz.bind (Sz.less (less_isNext _)) fun b=>Sz.bool1 (Sz.pure (Nat.le_refl _)) (Sz.bind (h _) fun s=>Sz.pure (by simp only [optC,sizeL_append,sizeL_one];omega)) b
 exact Sz.bind (Sz.takes (takes_enter _ _)) fun p=>Sz.bind (by
  have h2:=Sz.many (cr:=fun ks=>sizeL ks+(c+1)) h1 []
  have e2:sizeL []+(c+1)=c+1:=by simp only [sizeL];omega
  rw [e2] at h2
  exact h2) fun ks=>Sz.bind (Sz.less (less_expect _)) fun _=>Sz.pure (by simp only [nodeA,Ast.size];omega)
theorem sz_block (r c:Nat):Sz c (blockP r) (fun a=>a.size+c):=by
 induction r generalizing c with
 | zero=>exact sz_blockOf 0 (fun _=>Sz.fail) c
 | succ r ih=>exact sz_blockOf (r+1) (sz_stmt r ih) c
theorem sz_names (c:Nat)(hc:1≤c):Sz c namesP (fun a=>a.size+(c-1)) :=
 Sz.bind (Sz.less less_peek) fun t=>Sz.bind (Sz.less (less_isNext _)) fun b=>by
  cases b
  · exact Sz.bind (sz_words _) fun ks=>Sz.pure (by simp only [nodeA,Ast.size];omega)
  · exact Sz.pure (by simp only [nodeA,Ast.size,sizeL];omega)
theorem sz_table (c:Nat):Sz c tableP (fun a=>a.size+c):=by
 have h0:Sz 0 tableP Ast.size:=Sz.bind (Sz.less (less_expect _)) fun p=>Sz.bind (Sz.less (less_take _)) fun t=>Sz.bind (Sz.less (less_expect _)) fun _=>Sz.bind (sz_words 0) fun ks=>Sz.bind (Sz.less (less_expect _)) fun _=>sz_end _ (sz_nil _ _ _ _ _ (by omega))
 have:=h0.add c
 rw [Nat.zero_add] at this;exact this
theorem sz_proc (c:Nat):Sz c procP (fun a=>a.size+c):=by
 have h0:Sz 0 procP Ast.size:=Sz.bind (Sz.takes (takes_expect _)) fun p=>Sz.bind (Sz.takes (takes_take _)) fun t=>Sz.bind (Sz.less (less_expect _)) fun _=>Sz.bind (sz_names _ (by omega)) fun ns=>Sz.bind (Sz.less (less_expect _)) fun _=>Sz.bind (Sz.less (less_skip _)) fun b=>by
  cases b
  · exact Sz.bind (sz_block 64 _) fun x=>Sz.pure (by simp only [Ast.size,sizeL];omega)
  · exact Sz.bind (sz_block 64 _) fun x=>Sz.pure (by simp only [Ast.size,sizeL];omega)
 have:=h0.add c
 rw [Nat.zero_add] at this;exact this
theorem sz_prog (ks:List Ast):Sz (sizeL ks) (progStep ks) (optC sizeL (sizeL ks)) :=
 Sz.bind (Sz.less less_peek) fun t=>Sz.ite (Sz.pure (Nat.le_refl _)) (Sz.bind (Sz.less (less_isNext _)) fun b =>
  Sz.bool1 (Sz.bind (sz_table _) fun a=>Sz.pure (by simp only [optC,sizeL_append,sizeL_one];omega)) (Sz.bind (sz_proc _) fun a=>Sz.pure (by simp only [optC,sizeL_append,sizeL_one];omega)) b)
end
section
open Go.RowKit
def ptOf (t:Tok):PT:=⟨t.kind,t.at',strOfNums t.text,t.n⟩
def tokC5 (t:Tok):List Value:=[.int .u8 t.kind,.int .i64 t.at',.int .i64 t.stop,.string (strOfNums t.text),.int .i64 t.n]
def nodeC (nd:Nd)(kv:Value):List Value:=[.int .u8 nd.kind,.int .i64 nd.at',.string nd.text,.int .i64 nd.n,kv]
def cellsM:List Nd→List Value→List Value
 | nd::md,kv::kvs=>nodeC nd kv++cellsM md kvs
 | _,_=>[]
theorem cellsM_snoc (md:List Nd)(kvs:List Value)(nd:Nd)(kv:Value)(h:kvs.length=md.length):cellsM (md++[nd]) (kvs++[kv])=cellsM md kvs++nodeC nd kv:=by
 induction md generalizing kvs with
 | nil =>
  cases kvs with
  | nil=>simp [cellsM]
  | cons _ _=>simp at h
 | cons m md ih =>
  cases kvs with
  | nil=>simp at h
  | cons k kvs=>simp only [List.cons_append,cellsM,ih kvs (by simpa using h),List.append_assoc]
theorem cellsM_get (md:List Nd)(kvs:List Value)(h:kvs.length=md.length)(j:Nat)(hj:j<md.length)(i:Nat)(hi:i<5):(cellsM md kvs)[j*5+i]?=(nodeC (md.getD j default) (kvs.getD j default))[i]?:=by
 induction md generalizing kvs j with
 | nil=>simp at hj
 | cons m md ih =>
  cases kvs with
  | nil=>simp at h
  | cons k kvs =>
   cases j with
   | zero =>
    simp only [cellsM,List.getD_cons_zero,Nat.zero_mul,Nat.zero_add]
    rw [List.getElem?_append_left (by simp [nodeC];omega)]
   | succ j =>
    simp only [cellsM,List.getD_cons_succ]
    rw [List.getElem?_append_right (by simp [nodeC];omega)]
    rw [← ih kvs (by simpa using h) j (by simpa using hj)]
    congr 1
    simp [nodeC];omega
def Ended:List PT→Prop
 | []=>False
 | [e]=>e.kind=4∧e.txt=none0
 | _::t::l=>Ended (t::l)
theorem Ended.tail {t:PT}{l:List PT}(h:Ended (t::l))(ht:t.kind≠4∨t.txt≠none0):Ended l:=by
 cases l with
 | nil =>
  rcases ht with ht|ht
  · exact absurd h.1 ht
  · exact absurd h.2 ht
 | cons u l=>exact h
theorem Ended.pos {l:List PT}(h:Ended l):∃t r,l=t::r:=by
 cases l with
 | nil=>exact h.elim
 | cons t r=>exact ⟨t,r,rfl⟩
structure Env where
 W:World
 b:Nat
 g:Nat
 cap:Nat
 toks:List Tok
 mp:Value
def Env.pts (E:Env):List PT:=E.toks.map ptOf
def own1 (B:Nat)(w:World)(kv:Value)(ks:List Int):Prop:=w.ownsRow B 3 1 kv ks.length (ks.map (Value.int .i64))
structure PS (E:Env)(v:Value)(kvs:List Value)(md:List Nd)(r:Nat)(l:List PT)(w:World):Prop where
 below:Below E.b E.W w
 lt:E.b<w.heap.size
 gl:E.g<E.b
 cap:E.toks.length≤E.cap
 tok:∀j i u,j<E.toks.length→(tokC5 (E.toks.getD j (Tok.endAt 0)))[i]?=some u→w.cell? ⟨E.g,j*5+i,none⟩=some u
 nx:∃i:Nat,l=E.pts.drop i∧w.heap[E.b]?=some (.cells #[.slice (some ⟨E.g,0,none⟩) E.toks.length E.cap,.int .i64 (i:Int),.int .i64 (64-(r:Int)),E.mp,v] 125 (0,0))
 r64:r≤64
 ended:Ended l
 few:E.toks.length≤70000
 room:md.length+l.length≤70000
 klen:kvs.length=md.length
 own:w.ownsRow (E.b+1) 54 5 v md.length (cellsM md kvs)
 kids:∀j,j<md.length→own1 (E.b+1) w (kvs.getD j default) (md.getD j default).kids
 apart:∀x∈kvs,∀k,x.ownBlock=some k→v.ownBlock≠some k
 pair:kvs.Pairwise fun x y=>∀k,x.ownBlock=some k→y.ownBlock≠some k
structure Loc (E:Env)(v:Value)(kvs:List Value)(q:Nat):Prop where
 lt:E.b<q
 v:v.ownBlock≠some q
 ks:∀x∈kvs,x.ownBlock≠some q
def LocV (E:Env)(v:Value)(kvs:List Value)(kv:Value):Prop:=∀q,kv.ownBlock=some q→Loc E v kvs q
def Nw (B:Nat)(new:List Value):Prop:=∀x∈new,∀k,x.ownBlock=some k→B≤k
structure Fr (E:Env)(B:Nat)(v v':Value)(w w':World):Prop where
 os:w'.os=w.os
 tape:w'.tape=w.tape
 output:w'.output=w.output
 size:w.heap.size≤w'.heap.size
 block:∀k,k<B→k≠E.b→v.ownBlock≠some k→w'.heap[k]?=w.heap[k]?
 grow:∀k,v'.ownBlock=some k→v.ownBlock=some k∨B≤k
theorem Fr.refl (E:Env)(B:Nat)(v:Value)(w:World):Fr E B v v w w:=⟨rfl,rfl,rfl,Nat.le_refl _,fun _ _ _ _=>rfl,fun _ h=>Or.inl h⟩
theorem Fr.mono {E:Env}{B B':Nat}{v v':Value}{w w':World}(h:Fr E B v v' w w')(hb:B'≤B):Fr E B' v v' w w' :=
 ⟨h.os,h.tape,h.output,h.size,fun k hk=>h.block k (Nat.lt_of_lt_of_le hk hb),fun k hk=>(h.grow k hk).imp id (Nat.le_trans hb)⟩
theorem Fr.trans {E:Env}{B:Nat}{v v1 v2:Value}{w w1 w2:World}(h:Fr E B v v1 w w1)(h':Fr E B v1 v2 w1 w2):Fr E B v v2 w w2 where
 os:=h'.os.trans h.os
 tape:=h'.tape.trans h.tape
 output:=h'.output.trans h.output
 size:=Nat.le_trans h.size h'.size
 block:=fun k hk hb hv=>(h'.block k hk hb (fun e=>by
  rcases h.grow k e with e|e
  · exact hv e
  · omega)).trans (h.block k hk hb hv)
 grow:=fun k hk=>by
  rcases h'.grow k hk with e|e
  · exact h.grow k e
  · exact Or.inr e
theorem Fr.grown {E:Env}{B:Nat}{v v1:Value}{w w1 w2:World}{row:Option Nat}(h:Fr E B v v1 w w1)(hg:w1.grownBy w2 row)(hB:B≤w1.heap.size)(hr:∀q,row=some q→B≤q):Fr E B v v1 w w2 where
 os:=hg.os.trans h.os
 tape:=hg.tape.trans h.tape
 output:=hg.output.trans h.output
 size:=Nat.le_trans h.size hg.size
 block:=fun k hk hb hv=>(hg.block k (by omega) (fun e=>by have:=hr k e.symm;omega)).trans (h.block k hk hb hv)
 grow:=h.grow
theorem Fr.alloc {E:Env}{B:Nat}{v v1:Value}{w w1:World}(h:Fr E B v v1 w w1)(hB:B≤w1.heap.size)(o:Obj):Fr E B v v1 w (w1.alloc o):=h.grown (World.grownBy_alloc w1 o none) hB (fun _ e=>by cases e)
theorem grownBy_set (w:World)(a:Addr)(u:Value):w.grownBy (w.setCell a u) (some a.block) :=
 ⟨rfl,rfl,rfl,by simp [World.setCell],fun k _ hk=>Below.heap_setCell w a u k (fun e=>hk (by rw [e]))⟩
theorem Fr.set {E:Env}{B:Nat}{v v1:Value}{w w1:World}(h:Fr E B v v1 w w1)(hB:B≤w1.heap.size){a:Addr}(ha:B≤a.block)(u:Value):Fr E B v v1 w (w1.setCell a u) :=
 h.grown (grownBy_set w1 a u) hB (fun q e=>by cases e;exact ha)
theorem Fr.drewN {E:Env}{B:Nat}{v v1:Value}{w w1:World}(h:Fr E B v v1 w w1)(n:Nat):Fr E B v v1 w (w1.drewN n):=⟨h.os,h.tape,h.output,h.size,h.block,h.grow⟩
theorem Fr.cell {E:Env}{B:Nat}{v v':Value}{w w':World}(h:Fr E B v v' w w'){p:Addr}(hp:p.block<B)(hb:p.block≠E.b)(hv:v.ownBlock≠some p.block):w'.cell? p=w.cell? p :=
 World.cell?_of_block (w:=w) (h.block p.block hp hb hv)
theorem Fr.frozen {E:Env}{B:Nat}{v v':Value}{w w':World}(h:Fr E B v v' w w'){p:Addr}(hp:p.block<B)(hb:p.block≠E.b)(hv:v.ownBlock≠some p.block):w'.frozen? p=w.frozen? p :=
 World.frozen?_of_block (w:=w) (h.block p.block hp hb hv)
theorem own1.lt {B:Nat}{w:World}{kv:Value}{ks:List Int}(h:own1 B w kv ks):∀k,kv.ownBlock=some k→B≤k∧k<w.heap.size:=World.ownsRow.lt h
theorem PS.vlt {E:Env}{v:Value}{kvs:List Value}{md:List Nd}{r:Nat}{l:List PT}{w:World}(h:PS E v kvs md r l w):∀k,v.ownBlock=some k→E.b<k∧k<w.heap.size:=fun k hk=>by
 have:=h.own.lt k hk
 omega
theorem PS.klt {E:Env}{v:Value}{kvs:List Value}{md:List Nd}{r:Nat}{l:List PT}{w:World}(h:PS E v kvs md r l w):∀x∈kvs,∀k,x.ownBlock=some k→E.b<k∧k<w.heap.size:=fun x hx k hk=>by
 obtain ⟨j,hj,rfl⟩:=List.getElem_of_mem hx
 have h1:=(h.kids j (by rw [← h.klen];exact hj)).lt k (by simpa [List.getD,hj] using hk)
 omega
theorem PS.fresh {E:Env}{v:Value}{kvs:List Value}{md:List Nd}{r:Nat}{l:List PT}{w:World}(h:PS E v kvs md r l w):Loc E v kvs w.heap.size :=
 ⟨h.lt,fun e=>by have:=(h.vlt _ e).2;omega,fun x hx e=>by have:=(h.klt x hx _ e).2;omega⟩
theorem PS.cells {E:Env}{v:Value}{kvs:List Value}{md:List Nd}{r:Nat}{l:List PT}{w:World}(h:PS E v kvs md r l w):∃i:Nat,l=E.pts.drop i∧w.cell? ⟨E.b,0,none⟩=some (.slice (some ⟨E.g,0,none⟩) E.toks.length E.cap)∧w.cell? ⟨E.b,1,none⟩=some (.int .i64 (i:Int)) ∧
 w.cell? ⟨E.b,2,none⟩=some (.int .i64 (64-(r:Int)))∧w.cell? ⟨E.b,3,none⟩=some E.mp∧w.cell? ⟨E.b,4,none⟩=some v:=by
 obtain ⟨i,h1,h2⟩:=h.nx
 exact ⟨i,h1,by rw [cell_of_row _ _ _ _ _ _ h2];rfl,by rw [cell_of_row _ _ _ _ _ _ h2];rfl,by rw [cell_of_row _ _ _ _ _ _ h2];rfl,by rw [cell_of_row _ _ _ _ _ _ h2];rfl,by rw [cell_of_row _ _ _ _ _ _ h2];rfl⟩
theorem PS.fz {E:Env}{v:Value}{kvs:List Value}{md:List Nd}{r:Nat}{l:List PT}{w:World}(h:PS E v kvs md r l w)(i:Nat):w.frozen? ⟨E.b,i,none⟩=false:=by
 obtain ⟨_,_,h2⟩:=h.nx
 exact frozen_of_row _ _ _ _ _ h2
theorem heap_set (w:World)(q i:Nat)(u:Value)(cs:Array Value)(T:TypeId)(h:w.heap[q]?=some (.cells cs T (0,0))):(w.setCell ⟨q,i,none⟩ u).heap[q]?=some (.cells (cs.setIfInBounds i u) T (0,0)):=by
 simp only [World.setCell,Array.getElem?_modify]
 rw [if_pos trivial,h]
 rfl
theorem PS.grown {E:Env}{v:Value}{kvs:List Value}{md:List Nd}{r:Nat}{l:List PT}{w w':World}{row:Option Nat}(h:PS E v kvs md r l w)(hg:w.grownBy w' row)(hr:∀q,row=some q→Loc E v kvs q):PS E v kvs md r l w' where
 below:=h.below.grown hg (Nat.le_of_lt h.lt) (fun k e=>Nat.le_of_lt (hr k e).lt)
 lt:=Nat.lt_of_lt_of_le h.lt hg.size
 gl:=h.gl
 cap:=h.cap
 tok:=fun j i u hj hi=>by
  have:=h.tok j i u hj hi
  have hl:=h.lt
  have hgl:=h.gl
  rw [World.cell?_of_block (w:=w) (a:=⟨E.g,j*5+i,none⟩) (hg.block E.g (by omega) (fun e=>by have:=(hr _ e.symm).lt;omega))]
  exact this
 nx:=by
  obtain ⟨i,h1,h2⟩:=h.nx
  exact ⟨i,h1,by rw [hg.block E.b h.lt (fun e=>by have:=(hr _ e.symm).lt;omega)];exact h2⟩
 r64:=h.r64
 ended:=h.ended
 few:=h.few
 room:=h.room
 klen:=h.klen
 own:=h.own.kept hg (by
  cases hv:v.ownBlock with
  | none=>exact Or.inl rfl
  | some k=>exact Or.inr (fun e=>by have:=(hr k e.symm).v;rw [hv] at this;exact this rfl))
 kids:=fun j hj=>(h.kids j hj).kept hg (by
  cases hv:(kvs.getD j default).ownBlock with
  | none=>exact Or.inl rfl
  | some k =>
   refine Or.inr (fun e=>?_)
   have hj':j<kvs.length:=by rw [h.klen];exact hj
   have:=(hr k e.symm).ks (kvs.getD j default) (by simp [List.getD,hj'])
   rw [hv] at this;exact this rfl)
 apart:=h.apart
 pair:=h.pair
theorem PS.alloc {E:Env}{v:Value}{kvs:List Value}{md:List Nd}{r:Nat}{l:List PT}{w:World}(h:PS E v kvs md r l w)(o:Obj):PS E v kvs md r l (w.alloc o):=h.grown (World.grownBy_alloc w o none) (fun _ e=>by cases e)
theorem PS.set {E:Env}{v:Value}{kvs:List Value}{md:List Nd}{r:Nat}{l:List PT}{w:World}(h:PS E v kvs md r l w){a:Addr}(ha:Loc E v kvs a.block)(u:Value):PS E v kvs md r l (w.setCell a u) :=
 h.grown (grownBy_set w a u) (fun q e=>by cases e;exact ha)
theorem Loc.on {E:Env}{v v':Value}{kvs new:List Value}{w w':World}{q B:Nat}(h:Loc E v kvs q)(hf:Fr E B v v' w w')(hn:Nw B new)(hq:q<B):Loc E v' (kvs++new) q where
 lt:=h.lt
 v:=fun e=>by
  rcases hf.grow q e with e|e
  · exact h.v e
  · omega
 ks:=fun x hx e=>by
  rcases List.mem_append.1 hx with hx|hx
  · exact h.ks x hx e
  · have:=hn x hx q e
    omega
theorem own1.grown {B:Nat}{w w':World}{kv:Value}{ks:List Int}{row:Option Nat}(h:own1 B w kv ks)(hg:w.grownBy w' row)(hne:kv.ownBlock=none∨kv.ownBlock≠row):own1 B w' kv ks:=World.ownsRow.kept h hg hne
theorem own1.on {E:Env}{B:Nat}{v v':Value}{w w':World}{kv:Value}{ks:List Int}{kvs:List Value}(h:own1 B w kv ks)(hf:Fr E w.heap.size v v' w w')(hl:LocV E v kvs kv):own1 B w' kv ks:=by
 cases hk:kv.ownBlock with
 | none =>
  obtain ⟨h1,h2⟩:=h
  refine ⟨h1,?_⟩
  rcases h2 with h2|⟨g,cap,cur,e,_⟩
  · exact Or.inl h2
  · subst e;simp [Value.ownBlock] at hk
 | some q =>
  have hq:=hl q hk
  have hlt:=(h.lt q hk).2
  obtain ⟨h1,h2⟩:=h
  refine ⟨h1,?_⟩
  rcases h2 with h2|⟨g,cap,cur,e,hb,hh,hr⟩
  · exact Or.inl h2
  · have hgq:g=q:=by subst e;simpa [Value.ownBlock] using hk
    subst hgq
    exact Or.inr ⟨g,cap,cur,e,hb,by rw [hf.block g hlt (by have:=hq.lt;omega) hq.v];exact hh,hr⟩
theorem LocV.on {E:Env}{v v':Value}{kvs new:List Value}{w w':World}{B:Nat}{kv:Value}(h:LocV E v kvs kv)(hf:Fr E B v v' w w')(hn:Nw B new)(hq:∀q,kv.ownBlock=some q→q<B):LocV E v' (kvs++new) kv :=
 fun q e=>(h q e).on hf hn (hq q e)
theorem Nw.append {B:Nat}{x y:List Value}(h:Nw B x)(h':Nw B y):Nw B (x++y):=fun z hz=>by
 rcases List.mem_append.1 hz with hz|hz
 · exact h z hz
 · exact h' z hz
theorem Nw.mono {B B':Nat}{x:List Value}(h:Nw B x)(hb:B'≤B):Nw B' x:=fun z hz k hk=>Nat.le_trans hb (h z hz k hk)
theorem Nw.nil (B:Nat):Nw B []:=fun x hx=>by simp at hx
structure Lcl (E:Env)(v:Value)(kvs:List Value)(q:Nat)(o:Obj)(w:World):Prop where
 loc:Loc E v kvs q
 lt:q<w.heap.size
 obj:w.heap[q]?=some o
theorem Lcl.new {E:Env}{v:Value}{kvs:List Value}{md:List Nd}{r:Nat}{l:List PT}{w:World}(h:PS E v kvs md r l w)(o:Obj):Lcl E v kvs w.heap.size o (w.alloc o) :=
 ⟨h.fresh,by simp,by show (w.heap.push o)[w.heap.size]?=_;simp⟩
theorem Lcl.on {E:Env}{v v':Value}{kvs new:List Value}{w w':World}{q:Nat}{o:Obj}(h:Lcl E v kvs q o w)(hf:Fr E w.heap.size v v' w w')(hn:Nw w.heap.size new):Lcl E v' (kvs++new) q o w' :=
 ⟨h.loc.on hf hn h.lt,Nat.lt_of_lt_of_le h.lt hf.size,by rw [hf.block q h.lt (by have:=h.loc.lt;omega) h.loc.v];exact h.obj⟩
theorem Lcl.on0 {E:Env}{v v':Value}{kvs:List Value}{w w':World}{q:Nat}{o:Obj}(h:Lcl E v kvs q o w)(hf:Fr E w.heap.size v v' w w'):Lcl E v' kvs q o w':=by
 have:=h.on hf (Nw.nil _)
 rwa [List.append_nil] at this
theorem Lcl.grown {E:Env}{v:Value}{kvs:List Value}{w w':World}{q:Nat}{o:Obj}{row:Option Nat}(h:Lcl E v kvs q o w)(hg:w.grownBy w' row)(hne:row≠some q):Lcl E v kvs q o w' :=
 ⟨h.loc,Nat.lt_of_lt_of_le h.lt hg.size,by rw [hg.block q h.lt (fun e=>hne e.symm)];exact h.obj⟩
theorem Lcl.alloc {E:Env}{v:Value}{kvs:List Value}{w:World}{q:Nat}{o:Obj}(h:Lcl E v kvs q o w)(o':Obj):Lcl E v kvs q o (w.alloc o'):=h.grown (World.grownBy_alloc w o' none) (by simp)
theorem Lcl.set {E:Env}{v:Value}{kvs:List Value}{w:World}{q:Nat}{cs:Array Value}{T:TypeId}(h:Lcl E v kvs q (.cells cs T (0,0)) w)(i:Nat)(u:Value):Lcl E v kvs q (.cells (cs.setIfInBounds i u) T (0,0)) (w.setCell ⟨q,i,none⟩ u) :=
 ⟨h.loc,by simpa [World.setCell] using h.lt,heap_set w q i u cs T h.obj⟩
theorem Lcl.cell {E:Env}{v:Value}{kvs:List Value}{w:World}{q:Nat}{cs:Array Value}{T:TypeId}(h:Lcl E v kvs q (.cells cs T (0,0)) w)(i:Nat){u:Value}(hu:cs[i]?=some u):w.cell? ⟨q,i,none⟩=some u:=by
 rw [cell_of_row w q i cs T _ h.obj];exact hu
theorem Lcl.fz {E:Env}{v:Value}{kvs:List Value}{w:World}{q:Nat}{cs:Array Value}{T:TypeId}(h:Lcl E v kvs q (.cells cs T (0,0)) w)(i:Nat):w.frozen? ⟨q,i,none⟩=false:=frozen_of_row w q i cs T h.obj
theorem Lcl.set5 {E:Env}{v:Value}{kvs:List Value}{w:World}{q:Nat}{c0 c1 c2 c3 c4:Value}{T:TypeId}(h:Lcl E v kvs q (.cells #[c0,c1,c2,c3,c4] T (0,0)) w)(d0 d1 d2 d3 d4:Value) :
 Lcl E v kvs q (.cells #[d0,d1,d2,d3,d4] T (0,0)) (((((w.setCell ⟨q,0,none⟩ d0).setCell ⟨q,1,none⟩ d1).setCell ⟨q,2,none⟩ d2).setCell ⟨q,3,none⟩ d3).setCell ⟨q,4,none⟩ d4) :=
 ((((h.set 0 d0).set 1 d1).set 2 d2).set 3 d3).set 4 d4
theorem PS.set5 {E:Env}{v:Value}{kvs:List Value}{md:List Nd}{r:Nat}{l:List PT}{w:World}(h:PS E v kvs md r l w){q:Nat}(hq:Loc E v kvs q)(d0 d1 d2 d3 d4:Value) :
 PS E v kvs md r l (((((w.setCell ⟨q,0,none⟩ d0).setCell ⟨q,1,none⟩ d1).setCell ⟨q,2,none⟩ d2).setCell ⟨q,3,none⟩ d3).setCell ⟨q,4,none⟩ d4) :=
 ((((h.set (a:=⟨q,0,none⟩) hq d0).set (a:=⟨q,1,none⟩) hq d1).set (a:=⟨q,2,none⟩) hq d2).set (a:=⟨q,3,none⟩) hq d3).set (a:=⟨q,4,none⟩) hq d4
theorem size_set (w:World)(a:Addr)(u:Value):(w.setCell a u).heap.size=w.heap.size:=by simp [World.setCell]
theorem Fr.set5 {E:Env}{B:Nat}{v v1:Value}{w w1:World}(h:Fr E B v v1 w w1)(hB:B≤w1.heap.size){q:Nat}(hq:B≤q)(d0 d1 d2 d3 d4:Value) :
 Fr E B v v1 w (((((w1.setCell ⟨q,0,none⟩ d0).setCell ⟨q,1,none⟩ d1).setCell ⟨q,2,none⟩ d2).setCell ⟨q,3,none⟩ d3).setCell ⟨q,4,none⟩ d4) :=
 ((((h.set hB (a:=⟨q,0,none⟩) hq d0).set (by rw [size_set];exact hB) (a:=⟨q,1,none⟩) hq d1).set (by rw [size_set,size_set];exact hB) (a:=⟨q,2,none⟩) hq d2).set (by rw [size_set,size_set,size_set];exact hB) (a:=⟨q,3,none⟩) hq d3).set (by rw [size_set,size_set,size_set,size_set];exact hB) (a:=⟨q,4,none⟩) hq d4
theorem Lcl.setB {E:Env}{v:Value}{kvs:List Value}{w:World}{q:Nat}{o:Obj}(h:Lcl E v kvs q o w)(i:Nat)(u:Value):Lcl E v kvs q o (w.setCell ⟨E.b,i,none⟩ u) :=
 h.grown (grownBy_set w _ _) (fun e=>by have:=h.loc.lt;have e:=Option.some.inj e;simp only at e;omega)
def rootI (b:Nat)(a:Ast):Int:=((b+a.size:Nat):Int)-1
end
section
open Go.RowKit
theorem beq_str (a b:ByteArray):(a.toList==b.toList)=decide (a=b):=by
 rw [ByteArray.toList_eq,ByteArray.toList_eq]
 by_cases h:a=b
 · subst h;simp
 · rw [decide_eq_false h]
   have:a.data.toList≠b.data.toList:=fun e=>h (by
    obtain ⟨⟨a⟩⟩:=a
    obtain ⟨⟨b⟩⟩:=b
    simp only at e
    rw [e])
   simpa using this
abbrev tokA (t:PT)(sp:Nat):Value:=.agg #[.int .u8 t.kind,.int .i64 (t.at':Int),.int .i64 (sp:Int),.string t.txt,.int .i64 t.n]
theorem tok_f0 (k a b n:Int)(s:ByteArray)(W:World):(Instr.field 29 (.agg #[.int .u8 k,.int .i64 a,.int .i64 b,.string s,.int .i64 n]) 0).run Tryz.prog W=.ok (.int .u8 k) W:=by kernel_rfl
theorem tok_f1 (k a b n:Int)(s:ByteArray)(W:World):(Instr.field 29 (.agg #[.int .u8 k,.int .i64 a,.int .i64 b,.string s,.int .i64 n]) 1).run Tryz.prog W=.ok (.int .i64 a) W:=by kernel_rfl
theorem tok_f3 (k a b n:Int)(s:ByteArray)(W:World):(Instr.field 29 (.agg #[.int .u8 k,.int .i64 a,.int .i64 b,.string s,.int .i64 n]) 3).run Tryz.prog W=.ok (.string s) W:=by kernel_rfl
section
variable {E:Env}{v:Value}{kvs:List Value}{md:List Nd}{r:Nat}{l:List PT}{w:World}
theorem PS.head (h:PS E v kvs md r l w):∃(i:Nat) (t:PT) (l':List PT) (sp:Nat),l=t::l'∧l'=E.pts.drop (i+1)∧i<E.toks.length∧w.heap[E.b]?=some (.cells #[.slice (some ⟨E.g,0,none⟩) E.toks.length E.cap,.int .i64 (i:Int),.int .i64 (64-(r:Int)),E.mp,v] 125 (0,0)) ∧
 w.cell? ⟨E.g,i*5,none⟩=some (.int .u8 t.kind)∧w.cell? ⟨E.g,i*5+1,none⟩=some (.int .i64 (t.at':Int))∧w.cell? ⟨E.g,i*5+2,none⟩=some (.int .i64 (sp:Int))∧w.cell? ⟨E.g,i*5+3,none⟩=some (.string t.txt)∧w.cell? ⟨E.g,i*5+4,none⟩=some (.int .i64 t.n):=by
 obtain ⟨i,hl,hc⟩:=h.nx
 obtain ⟨t,l',he⟩:=h.ended.pos
 have hi:i<E.pts.length:=by
  rcases Nat.lt_or_ge i E.pts.length with h1|h1
  · exact h1
  · rw [List.drop_eq_nil_of_le h1] at hl;rw [hl] at he;simp at he
 have hi2:i<E.toks.length:=by simpa [Env.pts] using hi
 have hd:=List.drop_eq_getElem_cons hi
 rw [← hl,he,List.cons.injEq] at hd
 have ht:t=ptOf (E.toks.getD i (Tok.endAt 0)):=by
  rw [hd.1]
  simp [Env.pts,List.getD,hi2]
 refine ⟨i,t,l',(E.toks.getD i (Tok.endAt 0)).stop,he,hd.2,hi2,hc,?_,?_,?_,?_,?_⟩
 · rw [ht];exact h.tok i 0 _ hi2 rfl
 · rw [ht];exact h.tok i 1 _ hi2 rfl
 · exact h.tok i 2 _ hi2 rfl
 · rw [ht];exact h.tok i 3 _ hi2 rfl
 · rw [ht];exact h.tok i 4 _ hi2 rfl
theorem PS.next {t:PT}{i:Nat}{l':List PT}(h:PS E v kvs md r (t::l') w)(ht:t.kind≠4∨t.txt≠none0)(hl:l'=E.pts.drop (i+1))(hc:w.heap[E.b]?=some (.cells #[.slice (some ⟨E.g,0,none⟩) E.toks.length E.cap,.int .i64 (i:Int),.int .i64 (64-(r:Int)),E.mp,v] 125 (0,0))) :
 PS E v kvs md r l' (w.setCell ⟨E.b,1,none⟩ (.int .i64 ((i:Int)+1))) where
 below:=h.below.setCell (p:=⟨E.b,1,none⟩) (Nat.le_refl _) _
 lt:=by simpa [World.setCell] using h.lt
 gl:=h.gl
 cap:=h.cap
 tok:=fun j k u hj hk=>by
  have:=h.gl
  rw [World.cell?_of_block (w:=w) (a:=⟨E.g,j*5+k,none⟩) (Below.heap_setCell _ _ _ _ (show E.g≠E.b by omega))]
  exact h.tok j k u hj hk
 nx:=⟨i+1,hl,by rw [heap_set _ _ _ _ _ _ hc];rfl⟩
 r64:=h.r64
 ended:=h.ended.tail ht
 few:=h.few
 room:=by have:=h.room;simp only [List.length_cons] at this;omega
 klen:=h.klen
 own:=h.own.kept (grownBy_set w _ _) (by
  cases hv:v.ownBlock with
  | none=>exact Or.inl rfl
  | some k=>exact Or.inr (fun e=>by have:=h.vlt k hv;have e:=Option.some.inj e;simp only at e;omega))
 kids:=fun j hj=>(h.kids j hj).grown (grownBy_set w _ _) (by
  cases hv:(kvs.getD j default).ownBlock with
  | none=>exact Or.inl rfl
  | some k=>exact Or.inr (fun e=>by have:=(h.kids j hj).lt k hv;have e:=Option.some.inj e;simp only at e;omega))
 apart:=h.apart
 pair:=h.pair
theorem Fr.setB {v':Value}{B:Nat}{w1:World}(h:Fr E B v v' w w1)(i:Nat)(u:Value):Fr E B v v' w (w1.setCell ⟨E.b,i,none⟩ u) :=
 ⟨h.os,h.tape,h.output,by have:=h.size;simpa [World.setCell] using this,fun k hk hb hv=>(Below.heap_setCell w1 ⟨E.b,i,none⟩ u k hb).trans (h.block k hk hb hv),h.grow⟩
theorem grownBy_drewN (w:World)(n:Nat):w.grownBy (w.drewN n) none:=⟨rfl,rfl,rfl,Nat.le_refl _,fun _ _ _=>rfl⟩
theorem PS.drewN (h:PS E v kvs md r l w)(n:Nat):PS E v kvs md r l (w.drewN n):=h.grown (grownBy_drewN w n) (fun _ e=>by cases e)
theorem PS.drew (h:PS E v kvs md r l w):PS E v kvs md r l w.drew:=h.drewN 1
theorem Fr.drew {B:Nat}{v':Value}{w1:World}(h:Fr E B v v' w w1):Fr E B v v' w w1.drew:=h.drewN 1
def PeekP (E:Env)(v:Value)(kvs:List Value)(md:List Nd)(r:Nat)(l:List PT)(w:World)(e:Ending)(w':World):Prop:=∃t l' sp,l=t::l'∧e=.returned (tokA t sp)∧PS E v kvs md r l w'∧Fr E w.heap.size v v w w'
def NextP (E:Env)(v:Value)(kvs:List Value)(md:List Nd)(r:Nat)(l:List PT)(w:World)(s:ByteArray)(e:Ending)(w':World):Prop:=∃t l',l=t::l'∧e=.returned (.bool (decide (t.txt=s)))∧PS E v kvs md r l w'∧Fr E w.heap.size v v w w'
theorem peek_at (h:PS E v kvs md r l w):Calls Tryz.prog 129 #[.pointer (some ⟨E.b,0,none⟩)] w (PeekP E v kvs md r l w):=by
 obtain ⟨i,t,l',sp,hl,_,hi,hb,k0,k1,k2,k3,k4⟩:=h.head
 have c0:=cell_of_row w E.b 0 _ _ _ hb
 have c1:=cell_of_row w E.b 1 _ _ _ hb
 simp only [List.getElem?_toArray,List.getElem?_cons_zero,List.getElem?_cons_succ] at c0 c1
 clear hb
 have hcap:=h.cap
 have HS:=lh h
 have HL:=lh hl
 clear h hl
 have hlt:=HS.out.lt
 have hgl:=HS.out.gl
 have hg2:E.g<w.heap.size:=by omega
 go_enter Tryz.func129,Tryz.ntmps129
 go_wp2_with fail
 go_region
 go_wp2
 simp [bodyPost,results,Tryz.results129,go_sem]
 exact ⟨t,l',sp,HL.out,rfl,(HS.out.alloc _).drew,((Fr.refl _ _ _ _).alloc (Nat.le_refl _) _).drew⟩
theorem isNext_at (h:PS E v kvs md r l w)(s:ByteArray):Calls Tryz.prog 130 #[.pointer (some ⟨E.b,0,none⟩),.string s] w (NextP E v kvs md r l w s):=by
 have PK:=lh (peek_at h)
 have fl:=tok_f3
 clear h
 go_enter Tryz.func130,Tryz.ntmps130
 go_wp2_with fail
 (with_reducible refine PK.out.mono ?_)
 rintro e w1 ⟨t,l',sp,hl,rfl,hs,hf⟩
 have HL:=lh hl
 have HS:=lh hs
 have HF:=lh hf
 clear hl hs hf PK
 simp only [tokA]
 have HB:=lh (beq_str t.txt s)
 go_wp2
 rw [HB.out]
 go_ret
 exact ⟨t,l',HL.out,rfl,HS.out,HF.out⟩
def PostE {α:Type}(E:Env)(res:Res α)(ok:α→List PT→Ending→World→Prop)(e:Ending)(w':World):Prop :=
 match res with
 | .err p c=>e=.panicked [{ v:=.iface 121 (.agg #[.int .i64 (p:Int),.int .i64 c]),recovered:=false }]∧Below E.b E.W w'
 | .ok a l'=>ok a l' e w'
theorem post_err {α:Type}{E:Env}{res:Res α}{ok:α→List PT→Ending→World→Prop}{f:Nat}{args:Array Value}{w:World}(T:Calls Tryz.prog f args w (PostE E res ok)){p:Nat}{c:Int}(hx:res=.err p c) :
 Calls Tryz.prog f args w fun e w'=>e=.panicked [{ v:=.iface 121 (.agg #[.int .i64 (p:Int),.int .i64 c]),recovered:=false }]∧Below E.b E.W w':=T.mono fun e w' h=>by rw [hx] at h;exact h
theorem post_ok {α:Type}{E:Env}{res:Res α}{ok:α→List PT→Ending→World→Prop}{f:Nat}{args:Array Value}{w:World}(T:Calls Tryz.prog f args w (PostE E res ok)){a:α}{l':List PT}(hx:res=.ok a l') :
 Calls Tryz.prog f args w (ok a l'):=T.mono fun e w' h=>by rw [hx] at h;exact h
theorem of_err {α:Type}{E:Env}{res:Res α}{ok:α→List PT→Ending→World→Prop}{w':World}{p:Nat}{c:Int}(hx:res=.err p c)(hb:Below E.b E.W w') :
 PostE E res ok (.panicked [{ v:=.iface 121 (.agg #[.int .i64 (p:Int),.int .i64 c]),recovered:=false }]) w':=by rw [hx];exact ⟨rfl,hb⟩
theorem of_ok {α:Type}{E:Env}{res:Res α}{ok:α→List PT→Ending→World→Prop}{e:Ending}{w':World}{a:α}{l':List PT}(hx:res=.ok a l')(h:ok a l' e w'):PostE E res ok e w':=by rw [hx];exact h
def RefP (E:Env)(l:List PT)(c:Int)(e:Ending)(w':World):Prop:=∃t l',l=t::l'∧e=.returned (.agg #[.int .i64 (t.at':Int),.int .i64 c])∧Below E.b E.W w'
theorem refused_at (h:PS E v kvs md r l w)(c:Int):Calls Tryz.prog 238 #[.pointer (some ⟨E.b,0,none⟩),.int .i64 c] w (RefP E l c):=by
 have L0:=lh (Lcl.new h (.cells #[.int .i64 0,.int .i64 0] 121))
 have PK:=lh (peek_at (h.alloc (.cells #[.int .i64 0,.int .i64 0] 121)))
 have fl:=tok_f1
 clear h
 go_enter Tryz.func238,Tryz.ntmps238
 go_wp2_with fail
 (with_reducible refine PK.out.mono ?_)
 rintro e w1 ⟨t,l',sp,hl,rfl,hs,hf⟩
 have HL:=lh hl
 have HS:=lh hs
 have L1:=lh (L0.out.on0 hf)
 have k0:=L1.out.cell 0 rfl
 have k1:=L1.out.cell 1 rfl
 have z:=L1.out.fz
 clear hl hs hf PK L0
 simp only [tokA]
 go_wp2
 simp [bodyPost,results,Tryz.results238,go_sem,k0,k1,z]
 exact ⟨t,l',HL.out,rfl,((HS.out.set (a:=⟨w.heap.size,0,none⟩) L1.out.loc _).set (a:=⟨w.heap.size,1,none⟩) L1.out.loc _).below⟩
end
theorem pE {α:Type}{E:Env}{res:Res α}{ok:α→List PT→Ending→World→Prop}{e:Ending}{w':World}{p:Nat}{c:Int}(hx:res=.err p c)(hP:PostE E res ok e w'):e=.panicked [{ v:=.iface 121 (.agg #[.int .i64 (p:Int),.int .i64 c]),recovered:=false }]∧Hid (Below E.b E.W w'):=by
 rw [hx] at hP
 exact hP
theorem nt (x:Bool)(w:World):(Op.unary .not (.bool x)).run Tryz.prog w=.ok (.bool (!x)) w:=rfl
end
end Go.Proofs.YthdioipfdbbmmaaGreatDoor
