/- Contracts. -/
import Derived.Test.YthdioipfdbbmmaaGreatDoorKab
import Derived.Test.YthdioipfdbbmmaaGreatDoorKad
import Derived.Test.YthdioipfdbbmmaaGreatDoorKae
import Derived.Test.YthdioipfdbbmmaaGreatDoorProg
import Derived.WalkKit
import Derived.Handy
import Derived.Below
import Derived.Lib.Hide
import Derived.Laws.OwnMore
import Derived.Deep.AppendLies
import Derived.Deep.Onto
import Derived.Laws.EntriesVeiled
import Derived.Deep.QuietTactic
import Derived.BigQuiet
import Derived.WalkSmall
import Derived.Deep.RegionHeld3
import Derived.Deep.RegionLaw
set_option linter.all false
set_option maxRecDepth 1000000
set_option maxHeartbeats 16000000
namespace Go.Proofs.YthdioipfdbbmmaaGreatDoor
section
open Par
theorem less_isNext (s:ByteArray):Less (isNextP s):=fun l b l' h=>by
 cases l with
 | nil=>simp [isNextP] at h
 | cons t l=>simp only [isNextP,Res.ok.injEq] at h;rw [← h.2];exact Nat.le_refl _
theorem less_skip (s:ByteArray):Less (skipP s):=fun l b l' h=>by
 cases l with
 | nil=>simp [skipP] at h
 | cons t l =>
  simp only [skipP] at h
  split at h<;>simp only [Res.ok.injEq] at h<;>rw [← h.2]<;>simp
theorem less_expect (s:ByteArray):Less (expectP s):=fun l b l' h=>by
 cases l with
 | nil=>simp [expectP] at h
 | cons t l =>
  simp only [expectP] at h
  split at h
  · simp only [Res.ok.injEq] at h;rw [← h.2];simp
  · simp at h
theorem less_take (k:Int):Less (takeP k):=fun l b l' h=>by
 cases l with
 | nil=>simp [takeP] at h
 | cons t l =>
  simp only [takeP] at h
  split at h
  · simp only [Res.ok.injEq] at h;rw [← h.2];simp
  · simp at h
theorem less_peek:Less peekP:=fun l b l' h=>by
 cases l with
 | nil=>simp [peekP] at h
 | cons t l=>simp only [peekP,Res.ok.injEq] at h;rw [← h.2];exact Nat.le_refl _
theorem less_next:Less nextP:=fun l b l' h=>by
 cases l with
 | nil=>simp [nextP] at h
 | cons t l=>simp only [nextP,Res.ok.injEq] at h;rw [← h.2];simp
theorem less_enter (s:ByteArray)(r:Nat):Less (enterP s r):=fun l b l' h=>by
 cases l with
 | nil=>simp [enterP] at h
 | cons t l =>
  simp only [enterP] at h
  split at h
  · split at h
    · simp at h
    · simp only [Res.ok.injEq] at h;rw [← h.2];simp
  · simp at h
theorem less_fail {α:Type}:Less (failP:Par α):=fun l b l' h=>by
 cases l<;>simp [failP] at h
theorem less_ite {α:Type}{c:Prop}[Decidable c]{f g:Par α}(hf:Less f)(hg:Less g):Less (if c then f else g):=by
 split<;>assumption
theorem less_bool {α:Type}{f g:Par α}(hf:Less f)(hg:Less g)(b:Bool):Less (match b with|true=>f|false=>g):=by
 cases b<;>assumption
def Takes {α:Type}(f:Par α):Prop:=∀l a l',f l=.ok a l'→l'.length<l.length
theorem Takes.less {α:Type}{f:Par α}(h:Takes f):Less f:=fun l a l' e=>Nat.le_of_lt (h l a l' e)
theorem Takes.left {α β:Type}{f:Par α}{g:α→Par β}(hf:Takes f)(hg:∀a,Less (g a)):Takes (bind f g):=fun l b l' h=>by
 simp only [Par.bind] at h
 cases hfl:f l with
 | err p c=>rw [hfl] at h;simp at h
 | ok a l1 =>
  rw [hfl] at h
  exact Nat.lt_of_le_of_lt (hg a l1 b l' h) (hf l a l1 hfl)
theorem Takes.right {α β:Type}{f:Par α}{g:α→Par β}(hf:Less f)(hg:∀a,Takes (g a)):Takes (bind f g):=fun l b l' h=>by
 simp only [Par.bind] at h
 cases hfl:f l with
 | err p c=>rw [hfl] at h;simp at h
 | ok a l1 =>
  rw [hfl] at h
  exact Nat.lt_of_lt_of_le (hg a l1 b l' h) (hf l a l1 hfl)
theorem takes_expect (s:ByteArray):Takes (expectP s):=fun l b l' h=>by
 cases l with
 | nil=>simp [expectP] at h
 | cons t l =>
  simp only [expectP] at h
  split at h
  · simp only [Res.ok.injEq] at h;rw [← h.2];simp
  · simp at h
theorem takes_take (k:Int):Takes (takeP k):=fun l b l' h=>by
 cases l with
 | nil=>simp [takeP] at h
 | cons t l =>
  simp only [takeP] at h
  split at h
  · simp only [Res.ok.injEq] at h;rw [← h.2];simp
  · simp at h
theorem takes_next:Takes nextP:=fun l b l' h=>by
 cases l with
 | nil=>simp [nextP] at h
 | cons t l=>simp only [nextP,Res.ok.injEq] at h;rw [← h.2];simp
theorem takes_fail {α:Type}:Takes (failP:Par α):=fun l b l' h=>by
 cases l<;>simp [failP] at h
theorem adv_skip {α:Type}{s:ByteArray}{g h:α→Par (Option α)}(hg:∀a,Less (g a))(hh:∀a,Less (h a))(hn:∀a l b l',h a l=.ok (some b) l'→l'.length<l.length) :
 Adv (fun a=>bind (skipP s) fun|true=>g a|false=>h a):=fun a l b l' e=>by
 refine ⟨fun hb=>?_,Less.bind (less_skip s) (fun x=>less_bool (hg a) (hh a) x) l b l' e⟩
 cases l with
 | nil=>simp [Par.bind,skipP] at e
 | cons t l =>
  simp only [Par.bind,skipP] at e
  by_cases ht:t.txt=s
  · rw [if_pos ht] at e
    have:=hg a l b l' e
    simp only [List.length_cons];omega
  · rw [if_neg ht] at e
    obtain ⟨c,rfl⟩:=Option.isSome_iff_exists.1 hb
    exact hn a _ c l' e
theorem none_no {α:Type}:∀(a:α) (l:List PT) (b:α) (l':List PT),(pure none:Par (Option α)) l=.ok (some b) l'→l'.length<l.length:=fun _ l b l' h=>by simp [Par.pure] at h
theorem less_times {fac:Par Ast}(h:Less fac)(a:Ast):Less (timesStep fac a) :=
 Less.bind (less_skip _) fun b=>less_bool (Less.bind h fun _=>Less.pure _) (Less.pure _) b
theorem step_times {fac:Par Ast}(h:Less fac):Adv (timesStep fac) :=
 adv_skip (fun _=>Less.bind h fun _=>Less.pure _) (fun _=>Less.pure _) none_no
theorem less_term {fac:Par Ast}(h:Less fac):Less (termP fac):=Less.bind h fun a=>Less.many (less_times h) a
theorem less_sum {fac:Par Ast}(h:Less fac)(a:Ast):Less (sumStep fac a) :=
 Less.bind (less_skip _) fun b=>less_bool (Less.bind (less_term h) fun _=>Less.pure _) (Less.bind (less_skip _) fun c=>less_bool (Less.bind (less_term h) fun _=>Less.pure _) (Less.pure _) c) b
theorem step_sum {fac:Par Ast}(h:Less fac):Adv (sumStep fac) :=
 adv_skip (fun _=>Less.bind (less_term h) fun _=>Less.pure _) (fun _=>Less.bind (less_skip _) fun c=>less_bool (Less.bind (less_term h) fun _=>Less.pure _) (Less.pure _) c)
  (fun _ l b l' e=>((adv_skip (s:=⟨#[45]⟩) (g:=fun a=>bind (termP fac) fun b=>pure (some (bothA 24 a b))) (h:=fun _=>pure none) (fun _=>Less.bind (less_term h) fun _=>Less.pure _) (fun _=>Less.pure _) none_no) _ l (some b) l' e).1 rfl)
theorem less_expr {fac:Par Ast}(h:Less fac):Less (exprP fac):=Less.bind (less_term h) fun a=>Less.many (less_sum h) a
theorem less_number:Less numberP:=Less.bind (less_take _) fun _=>Less.pure _
theorem less_factorOf (r:Nat){fac:Par Ast}(h:Less fac):Less (factorOf r fac) :=
 Less.bind less_peek fun _=>less_ite less_number <| less_ite (Less.bind less_next fun _=>Less.pure _) <|
  less_ite (Less.bind (less_enter _ _) fun _=>Less.bind (less_expr h) fun _=>Less.bind (less_expect _) fun _=>Less.pure _) <|
  less_ite (Less.bind (less_enter _ _) fun _=>Less.bind h fun _=>Less.pure _) less_fail
theorem less_factor (r:Nat):Less (factorP r):=by
 induction r with
 | zero=>exact less_factorOf 0 less_fail
 | succ r ih=>exact less_factorOf (r+1) ih
theorem less_exprR (r:Nat):Less (exprR r):=less_expr (less_factor r)
theorem less_word:Less wordP:=Less.bind (less_take _) fun _=>Less.pure _
theorem less_wordsStep (ks:List Ast):Less (wordsStep ks):=Less.bind (less_skip _) fun b=>less_bool (Less.bind less_word fun _=>Less.pure _) (Less.pure _) b
theorem step_words:Adv wordsStep:=adv_skip (fun _=>Less.bind less_word fun _=>Less.pure _) (fun _=>Less.pure _) none_no
theorem less_words:Less wordsP:=Less.bind less_word fun _=>Less.many less_wordsStep _
theorem less_rowOf (r:Nat)(t:PT):Less (rowOfP r t):=Less.bind (less_enter _ _) fun _=>Less.bind (less_exprR _) fun _=>Less.bind (less_expect _) fun _=>Less.pure _
theorem less_row (r:Nat):Less (rowP r):=Less.bind (less_take _) fun t=>less_rowOf r t
theorem less_cell (r:Nat):Less (cellP r):=Less.bind (less_row r) fun _=>Less.bind (less_expect _) fun _=>Less.bind less_word fun _=>Less.pure _
theorem less_end (a:Ast):Less (endP a):=Less.bind (less_expect _) fun _=>Less.pure _
theorem less_read (r p:Nat):Less (readP r p):=Less.bind (less_take _) fun _=>Less.bind (less_expect _) fun _=>Less.bind (less_cell r) fun _=>Less.bind (less_skip _) fun b=>less_bool (Less.bind (less_expect _) fun _=>less_end _) (less_end _) b
theorem less_set (r p:Nat):Less (setP r p):=Less.bind (less_cell r) fun _=>Less.bind (less_expect _) fun _=>Less.bind (less_exprR r) fun _=>less_end _
theorem less_putStep (r:Nat)(ks:List Ast):Less (putStep r ks):=Less.bind (less_skip _) fun b=>less_bool (Less.bind (less_exprR r) fun _=>Less.pure _) (Less.pure _) b
theorem step_put (r:Nat):Adv (putStep r):=adv_skip (fun _=>Less.bind (less_exprR r) fun _=>Less.pure _) (fun _=>Less.pure _) none_no
theorem less_put (r p:Nat):Less (putP r p):=Less.bind (less_row r) fun _=>Less.bind (less_expect _) fun _=>Less.bind (less_exprR r) fun _=>Less.bind (Less.many (less_putStep r) _) fun _=>Less.bind (less_expect _) fun _=>less_end _
theorem less_delete (r p:Nat):Less (deleteP r p):=Less.bind (less_row r) fun _=>less_end _
theorem less_scan (p:Nat):Less (scanP p):=Less.bind (less_take _) fun _=>Less.bind (less_expect _) fun _=>Less.bind less_word fun _=>Less.bind (less_expect _) fun _=>Less.bind less_word fun _=>less_end _
theorem less_lock (p:Nat):Less (lockP p):=Less.bind less_word fun _=>Less.bind (less_skip _) fun b=>less_bool (less_end _) (Less.bind (less_expect _) fun _=>less_end _) b
theorem less_release (r p:Nat):Less (releaseP r p):=Less.bind (less_take _) fun t=>Less.bind (less_isNext _) fun b=>less_bool (Less.bind (less_rowOf r t) fun _=>less_end _) (less_end _) b
theorem less_ifTail {B:Par Ast}(h:Less B)(p:Nat)(n:Int)(a b:Ast):Less (ifTail B p n a b):=Less.bind h fun _=>Less.bind (less_skip _) fun b=>less_bool (Less.bind h fun _=>Less.pure _) (Less.pure _) b
theorem less_if (r:Nat){B:Par Ast}(h:Less B)(p:Nat):Less (ifP r B p):=Less.bind (less_exprR r) fun _=>Less.bind (less_skip _) fun b=>less_bool (Less.bind (less_exprR r) fun _=>less_ifTail h p _ _ _) (Less.bind (less_expect _) fun _=>Less.bind (less_exprR r) fun _=>less_ifTail h p _ _ _) b
theorem less_for {B:Par Ast}(h:Less B)(p:Nat):Less (forP B p):=Less.bind (less_take _) fun _=>Less.bind (less_expect _) fun _=>Less.bind less_number fun _=>Less.bind (less_expect _) fun _=>Less.bind less_number fun _=>Less.bind h fun _=>Less.pure _
theorem less_let (r p:Nat):Less (letP r p):=Less.bind (less_take _) fun _=>Less.bind (less_expect _) fun _=>Less.bind (less_exprR r) fun _=>less_end _
theorem less_emit (r p:Nat):Less (emitP r p):=Less.bind (less_exprR r) fun _=>less_end _
theorem less_rest (r:Nat){B:Par Ast}(h:Less B)(j p:Nat):Less (restP r B j p):=by
 unfold restP
 split
 · exact less_read r p
 · exact less_set r p
 · exact less_put r p
 · exact less_delete r p
 · exact less_scan p
 · exact less_lock p
 · exact less_release r p
 · exact less_if r h p
 · exact less_for h p
 · exact less_let r p
 · exact less_emit r p
 · exact less_end _
 · exact less_end _
 · exact less_fail
theorem takes_stmt (r:Nat){B:Par Ast}(h:Less B):Takes (stmtP r B):=Takes.right less_peek fun t=>by
 show Takes (if _ then _ else _)
 split
 · exact Takes.left takes_next fun t=>less_rest r h _ _
 · exact takes_fail
theorem less_blockStep {st:Par Ast}(h:Takes st)(ks:List Ast):Less (blockStep st ks):=Less.bind (less_isNext _) fun b=>less_bool (Less.pure _) (Less.bind h.less fun _=>Less.pure _) b
theorem step_block {st:Par Ast}(h:Takes st):Adv (blockStep st):=fun ks l b l' e=>by
 refine ⟨fun hb=>?_,less_blockStep h ks l b l' e⟩
 cases l with
 | nil=>simp [blockStep,Par.bind,isNextP] at e
 | cons t l =>
  simp only [blockStep,Par.bind,isNextP] at e
  by_cases ht:t.txt=⟨#[125]⟩
  · simp only [ht,decide_true,Par.pure,Res.ok.injEq] at e
    rw [← e.1] at hb;simp at hb
  · simp only [ht,decide_false,Par.bind] at e
    cases hs:st (t::l) with
    | err p c=>rw [hs] at e;simp at e
    | ok s l1 =>
     rw [hs] at e
     simp only [Par.pure,Res.ok.injEq] at e
     rw [← e.2]
     exact h _ _ _ hs
theorem less_blockOf (r:Nat){st:Par Ast}(h:Takes st):Less (blockOf r st):=Less.bind (less_enter _ _) fun _=>Less.bind (Less.many (less_blockStep h) _) fun _=>Less.bind (less_expect _) fun _=>Less.pure _
theorem less_block (r:Nat):Less (blockP r):=by
 induction r with
 | zero=>exact less_blockOf 0 takes_fail
 | succ r ih=>exact less_blockOf (r+1) (takes_stmt r ih)
theorem less_names:Less namesP:=Less.bind less_peek fun _=>Less.bind (less_isNext _) fun b=>less_bool (Less.pure _) (Less.bind less_words fun _=>Less.pure _) b
theorem takes_table:Takes tableP:=Takes.left (takes_expect _) fun _=>Less.bind (less_take _) fun _=>Less.bind (less_expect _) fun _=>Less.bind less_words fun _=>Less.bind (less_expect _) fun _=>less_end _
theorem takes_proc:Takes procP:=Takes.left (takes_expect _) fun _=>Less.bind (less_take _) fun _=>Less.bind (less_expect _) fun _=>Less.bind less_names fun _=>Less.bind (less_expect _) fun _=>Less.bind (less_skip _) fun b=>less_bool (Less.bind (less_block _) fun _=>Less.pure _) (Less.bind (less_block _) fun _=>Less.pure _) b
theorem less_progStep (ks:List Ast):Less (progStep ks):=Less.bind less_peek fun _=>less_ite (Less.pure _) (Less.bind (less_isNext _) fun b=>less_bool (Less.bind takes_table.less fun _=>Less.pure _) (Less.bind takes_proc.less fun _=>Less.pure _) b)
theorem step_prog:Adv progStep:=fun ks l b l' e=>by
 refine ⟨fun hb=>?_,less_progStep ks l b l' e⟩
 cases l with
 | nil=>simp [progStep,Par.bind,peekP] at e
 | cons t l =>
  simp only [progStep,Par.bind,peekP] at e
  by_cases ht:t.kind=4
  · rw [if_pos ht] at e
    simp only [Par.pure,Res.ok.injEq] at e
    rw [← e.1] at hb;simp at hb
  · rw [if_neg ht] at e
    simp only [Par.bind,isNextP] at e
    by_cases hx:t.txt=⟨#[116,97,98,108,101]⟩
    · simp only [hx,decide_true,Par.bind] at e
      cases hs:tableP (t::l) with
      | err p c=>rw [hs] at e;simp at e
      | ok s l1 =>
       rw [hs] at e
       simp only [Par.pure,Res.ok.injEq] at e
       rw [← e.2]
       exact takes_table _ _ _ hs
    · simp only [hx,decide_false,Par.bind] at e
      cases hs:procP (t::l) with
      | err p c=>rw [hs] at e;simp at e
      | ok s l1 =>
       rw [hs] at e
       simp only [Par.pure,Res.ok.injEq] at e
       rw [← e.2]
       exact takes_proc _ _ _ hs
end
section
open Par
mutual
def Ast.size:Ast→Nat
 | .mk _ _ _ _ ks=>sizeL ks+1
def sizeL:List Ast→Nat
 | []=>0
 | a::r=>a.size+sizeL r
end
mutual
def post (b:Nat):Ast→List Nd
 | .mk k a t n ks=>postL b ks++[⟨k,a,t,n,roots b ks⟩]
def postL (b:Nat):List Ast→List Nd
 | []=>[]
 | x::r=>post b x++postL (b+x.size) r
def roots (b:Nat):List Ast→List Int
 | []=>[]
 | x::r=>(((b+x.size:Nat):Int)-1)::roots (b+x.size) r
end
theorem size_pos (a:Ast):1≤a.size:=by cases a;simp [Ast.size]
theorem sizeL_append (x y:List Ast):sizeL (x++y)=sizeL x+sizeL y:=by
 induction x with
 | nil=>simp [sizeL]
 | cons a r ih=>simp only [List.cons_append,sizeL,ih];omega
theorem sizeL_one (a:Ast):sizeL [a]=a.size:=by simp [sizeL]
mutual
theorem post_length (b:Nat):∀a:Ast,(post b a).length=a.size
 | .mk k a t n ks=>by simp only [post,List.length_append,postL_length b ks,Ast.size,List.length_singleton]
theorem postL_length (b:Nat):∀l:List Ast,(postL b l).length=sizeL l
 | []=>by simp [postL,sizeL]
 | x::r=>by simp only [postL,List.length_append,post_length b x,postL_length (b+x.size) r,sizeL]
end
theorem postL_append (b:Nat)(x y:List Ast):postL b (x++y)=postL b x++postL (b+sizeL x) y:=by
 induction x generalizing b with
 | nil=>simp [postL,sizeL]
 | cons a r ih=>simp only [List.cons_append,postL,ih,List.append_assoc,sizeL,Nat.add_assoc]
theorem postL_one (b:Nat)(a:Ast):postL b [a]=post b a:=by simp [postL]
theorem roots_append (b:Nat)(x y:List Ast):roots b (x++y)=roots b x++roots (b+sizeL x) y:=by
 induction x generalizing b with
 | nil=>simp [roots,sizeL]
 | cons a r ih=>simp only [List.cons_append,roots,ih,sizeL,Nat.add_assoc]
theorem roots_one (b:Nat)(a:Ast):roots b [a]=[((b+a.size:Nat):Int)-1]:=by simp [roots]
theorem roots_length (b:Nat)(x:List Ast):(roots b x).length=x.length:=by
 induction x generalizing b with
 | nil=>rfl
 | cons a r ih=>simp only [roots,List.length_cons,ih]
theorem post_root (b:Nat)(a:Ast):∃ks,(post b a).getD (a.size-1) default=⟨(match a with|.mk k _ _ _ _=>k),a.at',(match a with|.mk _ _ t _ _=>t),(match a with|.mk _ _ _ n _=>n),ks⟩:=by
 cases a with
 | mk k a t n ks =>
  refine ⟨roots b ks,?_⟩
  simp only [post,Ast.size,Nat.add_sub_cancel,Ast.at']
  rw [← postL_length b ks]
  simp [List.getD]
def Sz {α:Type}(c:Nat)(f:Par α)(m:α→Nat):Prop:=∀l a l',f l=.ok a l'→m a+l'.length≤c+l.length
theorem Sz.bind {α β:Type}{c:Nat}{f:Par α}{g:α→Par β}{m:α→Nat}{m':β→Nat}(hf:Sz c f m)(hg:∀a,Sz (m a) (g a) m'):Sz c (Par.bind f g) m':=fun l b l' h=>by
 simp only [Par.bind] at h
 cases hfl:f l with
 | err p c=>rw [hfl] at h;simp at h
 | ok a l1 =>
  rw [hfl] at h
  have h1:=hg a l1 b l' h
  have h2:=hf l a l1 hfl
  omega
theorem Sz.pure {α:Type}{c:Nat}{a:α}{m:α→Nat}(h:m a≤c):Sz c (Par.pure a) m:=fun l b l' e=>by
 simp only [Par.pure,Res.ok.injEq] at e
 rw [← e.1,← e.2];omega
theorem Sz.less {α:Type}{c:Nat}{f:Par α}(h:Less f):Sz c f (fun _=>c):=fun l a l' e=>by
 have:=h l a l' e
 show c+_≤_
 omega
theorem Sz.takes {α:Type}{c:Nat}{f:Par α}(h:Takes f):Sz c f (fun _=>c+1):=fun l a l' e=>by
 have:=h l a l' e
 show c+1+_≤_
 omega
theorem Sz.skip {c:Nat}{s:ByteArray}:Sz c (skipP s) (fun b=>if b then c+1 else c):=fun l a l' e=>by
 cases l with
 | nil=>simp [skipP] at e
 | cons t l =>
  simp only [skipP] at e
  split at e<;>simp only [Res.ok.injEq] at e<;>rw [← e.1,← e.2]<;>simp<;>omega
theorem Sz.up {α:Type}{c k:Nat}{f:Par α}{m m':α→Nat}(h:Sz c f m)(hm:∀a,m' a≤m a+k):Sz (c+k) f m':=fun l a l' e=>by
 have h1:=h l a l' e
 have h2:=hm a
 omega
theorem Sz.ite {α:Type}{c:Nat}{p:Prop}[Decidable p]{f g:Par α}{m:α→Nat}(hf:Sz c f m)(hg:Sz c g m):Sz c (if p then f else g) m:=by
 split<;>assumption
theorem Sz.bool {α:Type}{c d:Nat}{f g:Par α}{m:α→Nat}(hf:Sz c f m)(hg:Sz d g m)(b:Bool):Sz (if b then c else d) (match b with|true=>f|false=>g) m:=by
 cases b
 · exact hg
 · exact hf
theorem Sz.bool1 {α:Type}{c:Nat}{f g:Par α}{m:α→Nat}(hf:Sz c f m)(hg:Sz c g m)(b:Bool):Sz c (match b with|true=>f|false=>g) m:=by
 cases b
 · exact hg
 · exact hf
theorem Sz.fail {α:Type}{c:Nat}{m:α→Nat}:Sz c (failP:Par α) m:=fun l a l' e=>by cases l<;>simp [failP] at e
def optC {α:Type}(cr:α→Nat)(n:Nat):Option α→Nat
 | none=>n
 | some b=>cr b
theorem Sz.loop {α:Type}{cr:α→Nat}{step:α→Par (Option α)}(h:∀a,Sz (cr a) (step a) (optC cr (cr a)))(m:Nat)(a:α):Sz (cr a) (loop step m a) cr:=by
 induction m generalizing a with
 | zero=>intro l b l' e;simp [Par.loop] at e
 | succ m ih =>
  refine Sz.bind (h a) fun b=>?_
  cases b with
  | none=>exact Sz.pure (Nat.le_refl _)
  | some b=>exact ih b
theorem Sz.many {α:Type}{cr:α→Nat}{step:α→Par (Option α)}(h:∀a,Sz (cr a) (step a) (optC cr (cr a)))(a:α):Sz (cr a) (many step a) cr :=
 fun l=>Sz.loop h (l.length+1) a l
theorem sz_both (k:Int)(a b:Ast):(bothA k a b).size=a.size+b.size+1:=by simp [bothA,Ast.size,sizeL]
theorem sz_times {fac:Par Ast}(h:∀c,Sz c fac (fun a=>a.size+c))(a:Ast):Sz a.size (timesStep fac a) (optC Ast.size a.size) :=
 Sz.bind Sz.skip fun b=>Sz.bool (Sz.bind (h _) fun b=>Sz.pure (by simp only [optC,sz_both];omega)) (Sz.pure (Nat.le_refl _)) b
theorem sz_term {fac:Par Ast}(h:∀c,Sz c fac (fun a=>a.size+c))(c:Nat):Sz c (termP fac) (fun a=>a.size+c):=by
 have:=Sz.up (k:=c) (m':=fun a=>a.size+c) (Sz.bind (h 0) fun a=>Sz.many (cr:=Ast.size) (sz_times h) a) (fun a=>Nat.le_refl _)
 rw [Nat.zero_add] at this;exact this
theorem sz_sum {fac:Par Ast}(h:∀c,Sz c fac (fun a=>a.size+c))(a:Ast):Sz a.size (sumStep fac a) (optC Ast.size a.size) :=
 Sz.bind Sz.skip fun b=>Sz.bool (Sz.bind (sz_term h _) fun b=>Sz.pure (by simp only [optC,sz_both];omega)) (Sz.bind Sz.skip fun b=>Sz.bool (Sz.bind (sz_term h _) fun b=>Sz.pure (by simp only [optC,sz_both];omega)) (Sz.pure (Nat.le_refl _)) b) b
theorem sz_expr {fac:Par Ast}(h:∀c,Sz c fac (fun a=>a.size+c))(c:Nat):Sz c (exprP fac) (fun a=>a.size+c):=by
 have:=Sz.up (k:=c) (m':=fun a=>a.size+c) (Sz.bind (sz_term h 0) fun a=>Sz.many (cr:=Ast.size) (sz_sum h) a) (fun a=>Nat.le_refl _)
 rw [Nat.zero_add] at this;exact this
theorem sz_number (c:Nat):Sz c numberP (fun a=>a.size+c):=Sz.bind (Sz.takes (takes_take _)) fun _=>Sz.pure (by simp [Ast.size,sizeL];omega)
theorem takes_enter (s:ByteArray)(r:Nat):Takes (enterP s r):=fun l b l' h=>by
 cases l with
 | nil=>simp [enterP] at h
 | cons t l =>
  simp only [enterP] at h
  split at h
  · split at h
    · simp at h
    · simp only [Res.ok.injEq] at h;rw [← h.2];simp
  · simp at h
theorem sz_factorOf (r:Nat){fac:Par Ast}(h:∀c,Sz c fac (fun a=>a.size+c))(c:Nat):Sz c (factorOf r fac) (fun a=>a.size+c) :=
 Sz.bind (Sz.less less_peek) fun _=>Sz.ite (sz_number c) <| Sz.ite (Sz.bind (Sz.takes takes_next) fun _=>Sz.pure (by simp [Ast.size,sizeL];omega)) <|
  Sz.ite (Sz.bind (Sz.less (less_enter _ _)) fun _=>Sz.bind (sz_expr h c) fun _=>Sz.bind (Sz.less (less_expect _)) fun _=>Sz.pure (Nat.le_refl _)) <|
  Sz.ite (Sz.bind (Sz.takes (takes_enter _ _)) fun _=>Sz.bind (h _) fun _=>Sz.pure (by simp [nodeA,Ast.size,sizeL];omega)) Sz.fail
theorem sz_factor (r c:Nat):Sz c (factorP r) (fun a=>a.size+c):=by
 induction r generalizing c with
 | zero=>exact sz_factorOf 0 (fun _=>Sz.fail) c
 | succ r ih=>exact sz_factorOf (r+1) ih c
theorem sz_exprR (r c:Nat):Sz c (exprR r) (fun a=>a.size+c):=sz_expr (sz_factor r) c
theorem sz_word (c:Nat):Sz c wordP (fun a=>a.size+c):=Sz.bind (Sz.takes (takes_take _)) fun _=>Sz.pure (by simp [wordA,Ast.size,sizeL];omega)
theorem sz_words (c:Nat):Sz c wordsP (fun ks=>sizeL ks+c):=by
 have h1:∀ks,Sz (sizeL ks) (wordsStep ks) (optC sizeL (sizeL ks)):=fun ks =>
  Sz.bind Sz.skip fun b=>Sz.bool (Sz.bind (sz_word _) fun w=>Sz.pure (by simp only [optC,sizeL_append,sizeL_one];omega)) (Sz.pure (Nat.le_refl _)) b
 have:=Sz.up (k:=c) (m':=fun ks=>sizeL ks+c) (Sz.bind (sz_word 0) fun w=>by
  have h2:=Sz.many (cr:=sizeL) h1 [w]
  rw [sizeL_one] at h2
  exact h2) (fun a=>Nat.le_refl _)
 rw [Nat.zero_add] at this;exact this
theorem sz_rowOf (r c:Nat)(t:PT):Sz c (rowOfP r t) (fun a=>a.size+c) :=
 Sz.bind (Sz.takes (takes_enter _ _)) fun _=>Sz.bind (sz_exprR _ _) fun _=>Sz.bind (Sz.less (less_expect _)) fun _=>Sz.pure (by simp [Ast.size,sizeL];omega)
theorem sz_row (r c:Nat):Sz c (rowP r) (fun a=>a.size+c):=Sz.bind (Sz.less (less_take _)) fun t=>sz_rowOf r c t
theorem sz_cell (r c:Nat):Sz c (cellP r) (fun a=>a.1.size+a.2.size+c) :=
 Sz.bind (sz_row r c) fun _=>Sz.bind (Sz.less (less_expect _)) fun _=>Sz.bind (sz_word _) fun _=>Sz.pure (by simp;omega)
theorem sz_end {c:Nat}(a:Ast)(h:a.size≤c+1):Sz c (endP a) (fun a=>a.size):=Sz.bind (Sz.takes (takes_expect _)) fun _=>Sz.pure (by omega)
theorem sz_nil {c:Nat}(k:Int)(p:Nat)(t:ByteArray)(n:Int)(ks:List Ast)(h:sizeL ks≤c):(Ast.mk k p t n ks).size≤c+1:=by simp only [Ast.size];omega
theorem sz_read (r p c:Nat):Sz c (readP r p) Ast.size :=
 Sz.bind (Sz.less (less_take _)) fun _=>Sz.bind (Sz.less (less_expect _)) fun _=>Sz.bind (sz_cell r c) fun rc=>Sz.bind (Sz.less (less_skip _)) fun b=>by
  cases b
  · exact sz_end _ (sz_nil _ _ _ _ _ (by simp only [sizeL];omega))
  · exact Sz.bind (Sz.less (less_expect _)) fun _=>sz_end _ (sz_nil _ _ _ _ _ (by simp only [sizeL];omega))
theorem sz_set (r p c:Nat):Sz c (setP r p) Ast.size :=
 Sz.bind (sz_cell r c) fun rc=>Sz.bind (Sz.less (less_expect _)) fun _=>Sz.bind (sz_exprR r _) fun v=>sz_end _ (sz_nil _ _ _ _ _ (by simp only [sizeL];omega))
theorem sz_put (r p c:Nat):Sz c (putP r p) Ast.size:=by
 have h1:∀ks,Sz (sizeL ks+c) (putStep r ks) (optC (fun ks=>sizeL ks+c) (sizeL ks+c)):=fun ks =>
  Sz.bind Sz.skip fun b=>Sz.bool (Sz.bind (sz_exprR r _) fun w=>Sz.pure (by simp only [optC,sizeL_append,sizeL_one];omega)) (Sz.pure (Nat.le_refl _)) b
 exact Sz.bind (sz_row r c) fun a=>Sz.bind (Sz.less (less_expect _)) fun _=>Sz.bind (sz_exprR r _) fun e=>Sz.bind (by
  have h2:=Sz.many (cr:=fun ks=>sizeL ks+c) h1 [a,e]
  have e2:sizeL [a,e]+c=e.size+(a.size+c):=by simp only [sizeL];omega
  rw [e2] at h2
  exact h2) fun ks=>Sz.bind (Sz.less (less_expect _)) fun _=>sz_end _ (sz_nil _ _ _ _ _ (by omega))
theorem sz_delete (r p c:Nat):Sz c (deleteP r p) Ast.size:=Sz.bind (sz_row r c) fun a=>sz_end _ (sz_nil _ _ _ _ _ (by simp only [sizeL];omega))
theorem sz_scan (p c:Nat):Sz c (scanP p) Ast.size :=
 Sz.bind (Sz.less (less_take _)) fun _=>Sz.bind (Sz.less (less_expect _)) fun _=>Sz.bind (sz_word _) fun a=>Sz.bind (Sz.less (less_expect _)) fun _=>Sz.bind (sz_word _) fun b=>sz_end _ (sz_nil _ _ _ _ _ (by simp only [sizeL];omega))
theorem sz_lock (p c:Nat):Sz c (lockP p) Ast.size :=
 Sz.bind (sz_word c) fun a=>Sz.bind (Sz.less (less_skip _)) fun b=>by
  cases b
  · exact Sz.bind (Sz.less (less_expect _)) fun _=>sz_end _ (sz_nil _ _ _ _ _ (by simp only [sizeL];omega))
  · exact sz_end _ (sz_nil _ _ _ _ _ (by simp only [sizeL];omega))
theorem sz_release (r p c:Nat):Sz c (releaseP r p) Ast.size :=
 Sz.bind (Sz.takes (takes_take _)) fun t=>Sz.bind (Sz.less (less_isNext _)) fun b=>by
  cases b
  · exact sz_end _ (sz_nil _ _ _ _ _ (by simp only [sizeL,wordA,Ast.size];omega))
  · exact Sz.bind (sz_rowOf r _ t) fun a=>sz_end _ (sz_nil _ _ _ _ _ (by simp only [sizeL];omega))
theorem sz_ifTail {B:Par Ast}(h:∀c,Sz c B (fun a=>a.size+c))(p:Nat)(n:Int)(a b:Ast)(c:Nat)(hc:a.size+b.size+1≤c):Sz c (ifTail B p n a b) Ast.size :=
 Sz.bind (h c) fun x=>Sz.bind (Sz.less (less_skip _)) fun u=>by
  cases u
  · exact Sz.pure (by simp only [Ast.size,sizeL];omega)
  · exact Sz.bind (h _) fun y=>Sz.pure (by simp only [Ast.size,sizeL];omega)
theorem sz_if (r:Nat){B:Par Ast}(h:∀c,Sz c B (fun a=>a.size+c))(p c:Nat)(hc:1≤c):Sz c (ifP r B p) Ast.size :=
 Sz.bind (sz_exprR r c) fun a=>Sz.bind (Sz.less (less_skip _)) fun u=>by
  cases u
  · exact Sz.bind (Sz.less (less_expect _)) fun _=>Sz.bind (sz_exprR r _) fun b=>sz_ifTail h p _ a b _ (by omega)
  · exact Sz.bind (sz_exprR r _) fun b=>sz_ifTail h p _ a b _ (by omega)
theorem sz_for {B:Par Ast}(h:∀c,Sz c B (fun a=>a.size+c))(p c:Nat)(hc:1≤c):Sz c (forP B p) Ast.size :=
 Sz.bind (Sz.less (less_take _)) fun _=>Sz.bind (Sz.less (less_expect _)) fun _=>Sz.bind (sz_number c) fun a=>Sz.bind (Sz.less (less_expect _)) fun _=>Sz.bind (sz_number _) fun b=>Sz.bind (h _) fun x=>Sz.pure (by simp only [Ast.size,sizeL];omega)
theorem sz_let (r p c:Nat):Sz c (letP r p) Ast.size :=
 Sz.bind (Sz.less (less_take _)) fun _=>Sz.bind (Sz.less (less_expect _)) fun _=>Sz.bind (sz_exprR r _) fun v=>sz_end _ (sz_nil _ _ _ _ _ (by simp only [sizeL];omega))
theorem sz_emit (r p c:Nat):Sz c (emitP r p) Ast.size:=Sz.bind (sz_exprR r _) fun v=>sz_end _ (sz_nil _ _ _ _ _ (by simp only [sizeL];omega))
theorem sz_rest (r:Nat){B:Par Ast}(h:∀c,Sz c B (fun a=>a.size+c))(j p c:Nat)(hc:1≤c):Sz c (restP r B j p) Ast.size:=by
 unfold restP
 split
 · exact sz_read r p c
 · exact sz_set r p c
 · exact sz_put r p c
 · exact sz_delete r p c
 · exact sz_scan p c
 · exact sz_lock p c
 · exact sz_release r p c
 · exact sz_if r h p c hc
 · exact sz_for h p c hc
 · exact sz_let r p c
 · exact sz_emit r p c
 · exact sz_end _ (sz_nil _ _ _ _ _ (by simp only [sizeL];omega))
 · exact sz_end _ (sz_nil _ _ _ _ _ (by simp only [sizeL];omega))
 · exact Sz.fail
theorem Sz.add {α:Type}{c:Nat}{f:Par α}{m:α→Nat}(h:Sz c f m)(k:Nat):Sz (c+k) f (fun a=>m a+k):=h.up fun _=>Nat.le_refl _
theorem sz_stmt (r:Nat){B:Par Ast}(h:∀c,Sz c B (fun a=>a.size+c))(c:Nat):Sz c (stmtP r B) (fun a=>a.size+c):=by
 have h0:Sz 0 (stmtP r B) Ast.size:=Sz.bind (Sz.less less_peek) fun t=>by
  show Sz 0 (if _ then _ else _) _
  split
  · exact Sz.bind (Sz.takes takes_next) fun t=>sz_rest r h _ _ _ (by omega)
  · exact Sz.fail
 have:=h0.add c
 rw [Nat.zero_add] at this;exact this
theorem sz_blockOf (r:Nat){st:Par Ast}(h:∀c,Sz c st (fun a=>a.size+c))(c:Nat):Sz c (blockOf r st) (fun a=>a.size+c):=by
 have h1:∀ks,Sz (sizeL ks+(c+1)) (blockStep st ks) (optC (fun ks=>sizeL ks+(c+1)) (sizeL ks+(c+1))):=fun ks =>
  Sz.bind (Sz.less (less_isNext _)) fun b=>Sz.bool1 (Sz.pure (Nat.le_refl _)) (Sz.bind (h _) fun s=>Sz.pure (by simp only [optC,sizeL_append,sizeL_one];omega)) b
 exact Sz.bind (Sz.takes (takes_enter _ _)) fun p=>Sz.bind (by
  have h2:=Sz.many (cr:=fun ks=>sizeL ks+(c+1)) h1 []
  have e2:sizeL []+(c+1)=c+1:=by simp only [sizeL];omega
  rw [e2] at h2
  exact h2) fun ks=>Sz.bind (Sz.less (less_expect _)) fun _=>Sz.pure (by simp only [nodeA,Ast.size];omega)
theorem sz_block (r c:Nat):Sz c (blockP r) (fun a=>a.size+c):=by
 induction r generalizing c with
 | zero=>exact sz_blockOf 0 (fun _=>Sz.fail) c
 | succ r ih=>exact sz_blockOf (r+1) (sz_stmt r ih) c
theorem sz_names (c:Nat)(hc:1≤c):Sz c namesP (fun a=>a.size+(c-1)) :=
 Sz.bind (Sz.less less_peek) fun t=>Sz.bind (Sz.less (less_isNext _)) fun b=>by
  cases b
  · exact Sz.bind (sz_words _) fun ks=>Sz.pure (by simp only [nodeA,Ast.size];omega)
  · exact Sz.pure (by simp only [nodeA,Ast.size,sizeL];omega)
theorem sz_table (c:Nat):Sz c tableP (fun a=>a.size+c):=by
 have h0:Sz 0 tableP Ast.size:=Sz.bind (Sz.less (less_expect _)) fun p=>Sz.bind (Sz.less (less_take _)) fun t=>Sz.bind (Sz.less (less_expect _)) fun _=>Sz.bind (sz_words 0) fun ks=>Sz.bind (Sz.less (less_expect _)) fun _=>sz_end _ (sz_nil _ _ _ _ _ (by omega))
 have:=h0.add c
 rw [Nat.zero_add] at this;exact this
theorem sz_proc (c:Nat):Sz c procP (fun a=>a.size+c):=by
 have h0:Sz 0 procP Ast.size:=Sz.bind (Sz.takes (takes_expect _)) fun p=>Sz.bind (Sz.takes (takes_take _)) fun t=>Sz.bind (Sz.less (less_expect _)) fun _=>Sz.bind (sz_names _ (by omega)) fun ns=>Sz.bind (Sz.less (less_expect _)) fun _=>Sz.bind (Sz.less (less_skip _)) fun b=>by
  cases b
  · exact Sz.bind (sz_block 64 _) fun x=>Sz.pure (by simp only [Ast.size,sizeL];omega)
  · exact Sz.bind (sz_block 64 _) fun x=>Sz.pure (by simp only [Ast.size,sizeL];omega)
 have:=h0.add c
 rw [Nat.zero_add] at this;exact this
theorem sz_prog (ks:List Ast):Sz (sizeL ks) (progStep ks) (optC sizeL (sizeL ks)) :=
 Sz.bind (Sz.less less_peek) fun t=>Sz.ite (Sz.pure (Nat.le_refl _)) (Sz.bind (Sz.less (less_isNext _)) fun b =>
  Sz.bool1 (Sz.bind (sz_table _) fun a=>Sz.pure (by simp only [optC,sizeL_append,sizeL_one];omega)) (Sz.bind (sz_proc _) fun a=>Sz.pure (by simp only [optC,sizeL_append,sizeL_one];omega)) b)
end
section
open Go.RowKit
def ptOf (t:Tok):PT:=⟨t.kind,t.at',strOfNums t.text,t.n⟩
def tokC5 (t:Tok):List Value:=[.int .u8 t.kind,.int .i64 t.at',.int .i64 t.stop,.string (strOfNums t.text),.int .i64 t.n]
def nodeC (nd:Nd)(kv:Value):List Value:=[.int .u8 nd.kind,.int .i64 nd.at',.string nd.text,.int .i64 nd.n,kv]
def cellsM:List Nd→List Value→List Value
 | nd::md,kv::kvs=>nodeC nd kv++cellsM md kvs
 | _,_=>[]
theorem cellsM_snoc (md:List Nd)(kvs:List Value)(nd:Nd)(kv:Value)(h:kvs.length=md.length):cellsM (md++[nd]) (kvs++[kv])=cellsM md kvs++nodeC nd kv:=by
 induction md generalizing kvs with
 | nil =>
  cases kvs with
  | nil=>simp [cellsM]
  | cons _ _=>simp at h
 | cons m md ih =>
  cases kvs with
  | nil=>simp at h
  | cons k kvs=>simp only [List.cons_append,cellsM,ih kvs (by simpa using h),List.append_assoc]
theorem cellsM_get (md:List Nd)(kvs:List Value)(h:kvs.length=md.length)(j:Nat)(hj:j<md.length)(i:Nat)(hi:i<5):(cellsM md kvs)[j*5+i]?=(nodeC (md.getD j default) (kvs.getD j default))[i]?:=by
 induction md generalizing kvs j with
 | nil=>simp at hj
 | cons m md ih =>
  cases kvs with
  | nil=>simp at h
  | cons k kvs =>
   cases j with
   | zero =>
    simp only [cellsM,List.getD_cons_zero,Nat.zero_mul,Nat.zero_add]
    rw [List.getElem?_append_left (by simp [nodeC];omega)]
   | succ j =>
    simp only [cellsM,List.getD_cons_succ]
    rw [List.getElem?_append_right (by simp [nodeC];omega)]
    rw [← ih kvs (by simpa using h) j (by simpa using hj)]
    congr 1
    simp [nodeC];omega
def Ended:List PT→Prop
 | []=>False
 | [e]=>e.kind=4∧e.txt=none0
 | _::t::l=>Ended (t::l)
theorem Ended.tail {t:PT}{l:List PT}(h:Ended (t::l))(ht:t.kind≠4∨t.txt≠none0):Ended l:=by
 cases l with
 | nil =>
  rcases ht with ht|ht
  · exact absurd h.1 ht
  · exact absurd h.2 ht
 | cons u l=>exact h
theorem Ended.pos {l:List PT}(h:Ended l):∃t r,l=t::r:=by
 cases l with
 | nil=>exact h.elim
 | cons t r=>exact ⟨t,r,rfl⟩
structure Env where
 W:World
 b:Nat
 g:Nat
 cap:Nat
 toks:List Tok
 mp:Value
def Env.pts (E:Env):List PT:=E.toks.map ptOf
def own1 (B:Nat)(w:World)(kv:Value)(ks:List Int):Prop:=w.ownsRow B 3 1 kv ks.length (ks.map (Value.int .i64))
structure PS (E:Env)(v:Value)(kvs:List Value)(md:List Nd)(r:Nat)(l:List PT)(w:World):Prop where
 below:Below E.b E.W w
 lt:E.b<w.heap.size
 gl:E.g<E.b
 cap:E.toks.length≤E.cap
 tok:∀j i u,j<E.toks.length→(tokC5 (E.toks.getD j (Tok.endAt 0)))[i]?=some u→w.cell? ⟨E.g,j*5+i,none⟩=some u
 nx:∃i:Nat,l=E.pts.drop i∧w.heap[E.b]?=some (.cells #[.slice (some ⟨E.g,0,none⟩) E.toks.length E.cap,.int .i64 (i:Int),.int .i64 (64-(r:Int)),E.mp,v] 125 (0,0))
 r64:r≤64
 ended:Ended l
 few:E.toks.length≤70000
 room:md.length+l.length≤70000
 klen:kvs.length=md.length
 own:w.ownsRow (E.b+1) 54 5 v md.length (cellsM md kvs)
 kids:∀j,j<md.length→own1 (E.b+1) w (kvs.getD j default) (md.getD j default).kids
 apart:∀x∈kvs,∀k,x.ownBlock=some k→v.ownBlock≠some k
 pair:kvs.Pairwise fun x y=>∀k,x.ownBlock=some k→y.ownBlock≠some k
structure Loc (E:Env)(v:Value)(kvs:List Value)(q:Nat):Prop where
 lt:E.b<q
 v:v.ownBlock≠some q
 ks:∀x∈kvs,x.ownBlock≠some q
def LocV (E:Env)(v:Value)(kvs:List Value)(kv:Value):Prop:=∀q,kv.ownBlock=some q→Loc E v kvs q
def Nw (B:Nat)(new:List Value):Prop:=∀x∈new,∀k,x.ownBlock=some k→B≤k
structure Fr (E:Env)(B:Nat)(v v':Value)(w w':World):Prop where
 os:w'.os=w.os
 tape:w'.tape=w.tape
 output:w'.output=w.output
 size:w.heap.size≤w'.heap.size
 block:∀k,k<B→k≠E.b→v.ownBlock≠some k→w'.heap[k]?=w.heap[k]?
 grow:∀k,v'.ownBlock=some k→v.ownBlock=some k∨B≤k
theorem Fr.refl (E:Env)(B:Nat)(v:Value)(w:World):Fr E B v v w w:=⟨rfl,rfl,rfl,Nat.le_refl _,fun _ _ _ _=>rfl,fun _ h=>Or.inl h⟩
theorem Fr.mono {E:Env}{B B':Nat}{v v':Value}{w w':World}(h:Fr E B v v' w w')(hb:B'≤B):Fr E B' v v' w w' :=
 ⟨h.os,h.tape,h.output,h.size,fun k hk=>h.block k (Nat.lt_of_lt_of_le hk hb),fun k hk=>(h.grow k hk).imp id (Nat.le_trans hb)⟩
theorem Fr.trans {E:Env}{B:Nat}{v v1 v2:Value}{w w1 w2:World}(h:Fr E B v v1 w w1)(h':Fr E B v1 v2 w1 w2):Fr E B v v2 w w2 where
 os:=h'.os.trans h.os
 tape:=h'.tape.trans h.tape
 output:=h'.output.trans h.output
 size:=Nat.le_trans h.size h'.size
 block:=fun k hk hb hv=>(h'.block k hk hb (fun e=>by
  rcases h.grow k e with e|e
  · exact hv e
  · omega)).trans (h.block k hk hb hv)
 grow:=fun k hk=>by
  rcases h'.grow k hk with e|e
  · exact h.grow k e
  · exact Or.inr e
theorem Fr.grown {E:Env}{B:Nat}{v v1:Value}{w w1 w2:World}{row:Option Nat}(h:Fr E B v v1 w w1)(hg:w1.grownBy w2 row)(hB:B≤w1.heap.size)(hr:∀q,row=some q→B≤q):Fr E B v v1 w w2 where
 os:=hg.os.trans h.os
 tape:=hg.tape.trans h.tape
 output:=hg.output.trans h.output
 size:=Nat.le_trans h.size hg.size
 block:=fun k hk hb hv=>(hg.block k (by omega) (fun e=>by have:=hr k e.symm;omega)).trans (h.block k hk hb hv)
 grow:=h.grow
theorem Fr.alloc {E:Env}{B:Nat}{v v1:Value}{w w1:World}(h:Fr E B v v1 w w1)(hB:B≤w1.heap.size)(o:Obj):Fr E B v v1 w (w1.alloc o):=h.grown (World.grownBy_alloc w1 o none) hB (fun _ e=>by cases e)
theorem grownBy_set (w:World)(a:Addr)(u:Value):w.grownBy (w.setCell a u) (some a.block) :=
 ⟨rfl,rfl,rfl,by simp [World.setCell],fun k _ hk=>Below.heap_setCell w a u k (fun e=>hk (by rw [e]))⟩
theorem Fr.set {E:Env}{B:Nat}{v v1:Value}{w w1:World}(h:Fr E B v v1 w w1)(hB:B≤w1.heap.size){a:Addr}(ha:B≤a.block)(u:Value):Fr E B v v1 w (w1.setCell a u) :=
 h.grown (grownBy_set w1 a u) hB (fun q e=>by cases e;exact ha)
theorem Fr.drewN {E:Env}{B:Nat}{v v1:Value}{w w1:World}(h:Fr E B v v1 w w1)(n:Nat):Fr E B v v1 w (w1.drewN n):=⟨h.os,h.tape,h.output,h.size,h.block,h.grow⟩
theorem Fr.cell {E:Env}{B:Nat}{v v':Value}{w w':World}(h:Fr E B v v' w w'){p:Addr}(hp:p.block<B)(hb:p.block≠E.b)(hv:v.ownBlock≠some p.block):w'.cell? p=w.cell? p :=
 World.cell?_of_block (w:=w) (h.block p.block hp hb hv)
theorem Fr.frozen {E:Env}{B:Nat}{v v':Value}{w w':World}(h:Fr E B v v' w w'){p:Addr}(hp:p.block<B)(hb:p.block≠E.b)(hv:v.ownBlock≠some p.block):w'.frozen? p=w.frozen? p :=
 World.frozen?_of_block (w:=w) (h.block p.block hp hb hv)
theorem own1.lt {B:Nat}{w:World}{kv:Value}{ks:List Int}(h:own1 B w kv ks):∀k,kv.ownBlock=some k→B≤k∧k<w.heap.size:=World.ownsRow.lt h
theorem PS.vlt {E:Env}{v:Value}{kvs:List Value}{md:List Nd}{r:Nat}{l:List PT}{w:World}(h:PS E v kvs md r l w):∀k,v.ownBlock=some k→E.b<k∧k<w.heap.size:=fun k hk=>by
 have:=h.own.lt k hk
 omega
theorem PS.klt {E:Env}{v:Value}{kvs:List Value}{md:List Nd}{r:Nat}{l:List PT}{w:World}(h:PS E v kvs md r l w):∀x∈kvs,∀k,x.ownBlock=some k→E.b<k∧k<w.heap.size:=fun x hx k hk=>by
 obtain ⟨j,hj,rfl⟩:=List.getElem_of_mem hx
 have h1:=(h.kids j (by rw [← h.klen];exact hj)).lt k (by simpa [List.getD,hj] using hk)
 omega
theorem PS.fresh {E:Env}{v:Value}{kvs:List Value}{md:List Nd}{r:Nat}{l:List PT}{w:World}(h:PS E v kvs md r l w):Loc E v kvs w.heap.size :=
 ⟨h.lt,fun e=>by have:=(h.vlt _ e).2;omega,fun x hx e=>by have:=(h.klt x hx _ e).2;omega⟩
theorem PS.cells {E:Env}{v:Value}{kvs:List Value}{md:List Nd}{r:Nat}{l:List PT}{w:World}(h:PS E v kvs md r l w):∃i:Nat,l=E.pts.drop i∧w.cell? ⟨E.b,0,none⟩=some (.slice (some ⟨E.g,0,none⟩) E.toks.length E.cap)∧w.cell? ⟨E.b,1,none⟩=some (.int .i64 (i:Int)) ∧
 w.cell? ⟨E.b,2,none⟩=some (.int .i64 (64-(r:Int)))∧w.cell? ⟨E.b,3,none⟩=some E.mp∧w.cell? ⟨E.b,4,none⟩=some v:=by
 obtain ⟨i,h1,h2⟩:=h.nx
 exact ⟨i,h1,by rw [cell_of_row _ _ _ _ _ _ h2];rfl,by rw [cell_of_row _ _ _ _ _ _ h2];rfl,by rw [cell_of_row _ _ _ _ _ _ h2];rfl,by rw [cell_of_row _ _ _ _ _ _ h2];rfl,by rw [cell_of_row _ _ _ _ _ _ h2];rfl⟩
theorem PS.fz {E:Env}{v:Value}{kvs:List Value}{md:List Nd}{r:Nat}{l:List PT}{w:World}(h:PS E v kvs md r l w)(i:Nat):w.frozen? ⟨E.b,i,none⟩=false:=by
 obtain ⟨_,_,h2⟩:=h.nx
 exact frozen_of_row _ _ _ _ _ h2
theorem heap_set (w:World)(q i:Nat)(u:Value)(cs:Array Value)(T:TypeId)(h:w.heap[q]?=some (.cells cs T (0,0))):(w.setCell ⟨q,i,none⟩ u).heap[q]?=some (.cells (cs.setIfInBounds i u) T (0,0)):=by
 simp only [World.setCell,Array.getElem?_modify]
 rw [if_pos trivial,h]
 rfl
theorem PS.grown {E:Env}{v:Value}{kvs:List Value}{md:List Nd}{r:Nat}{l:List PT}{w w':World}{row:Option Nat}(h:PS E v kvs md r l w)(hg:w.grownBy w' row)(hr:∀q,row=some q→Loc E v kvs q):PS E v kvs md r l w' where
 below:=h.below.grown hg (Nat.le_of_lt h.lt) (fun k e=>Nat.le_of_lt (hr k e).lt)
 lt:=Nat.lt_of_lt_of_le h.lt hg.size
 gl:=h.gl
 cap:=h.cap
 tok:=fun j i u hj hi=>by
  have:=h.tok j i u hj hi
  have hl:=h.lt
  have hgl:=h.gl
  rw [World.cell?_of_block (w:=w) (a:=⟨E.g,j*5+i,none⟩) (hg.block E.g (by omega) (fun e=>by have:=(hr _ e.symm).lt;omega))]
  exact this
 nx:=by
  obtain ⟨i,h1,h2⟩:=h.nx
  exact ⟨i,h1,by rw [hg.block E.b h.lt (fun e=>by have:=(hr _ e.symm).lt;omega)];exact h2⟩
 r64:=h.r64
 ended:=h.ended
 few:=h.few
 room:=h.room
 klen:=h.klen
 own:=h.own.kept hg (by
  cases hv:v.ownBlock with
  | none=>exact Or.inl rfl
  | some k=>exact Or.inr (fun e=>by have:=(hr k e.symm).v;rw [hv] at this;exact this rfl))
 kids:=fun j hj=>(h.kids j hj).kept hg (by
  cases hv:(kvs.getD j default).ownBlock with
  | none=>exact Or.inl rfl
  | some k =>
   refine Or.inr (fun e=>?_)
   have hj':j<kvs.length:=by rw [h.klen];exact hj
   have:=(hr k e.symm).ks (kvs.getD j default) (by simp [List.getD,hj'])
   rw [hv] at this;exact this rfl)
 apart:=h.apart
 pair:=h.pair
theorem PS.alloc {E:Env}{v:Value}{kvs:List Value}{md:List Nd}{r:Nat}{l:List PT}{w:World}(h:PS E v kvs md r l w)(o:Obj):PS E v kvs md r l (w.alloc o):=h.grown (World.grownBy_alloc w o none) (fun _ e=>by cases e)
theorem PS.set {E:Env}{v:Value}{kvs:List Value}{md:List Nd}{r:Nat}{l:List PT}{w:World}(h:PS E v kvs md r l w){a:Addr}(ha:Loc E v kvs a.block)(u:Value):PS E v kvs md r l (w.setCell a u) :=
 h.grown (grownBy_set w a u) (fun q e=>by cases e;exact ha)
theorem Loc.on {E:Env}{v v':Value}{kvs new:List Value}{w w':World}{q B:Nat}(h:Loc E v kvs q)(hf:Fr E B v v' w w')(hn:Nw B new)(hq:q<B):Loc E v' (kvs++new) q where
 lt:=h.lt
 v:=fun e=>by
  rcases hf.grow q e with e|e
  · exact h.v e
  · omega
 ks:=fun x hx e=>by
  rcases List.mem_append.1 hx with hx|hx
  · exact h.ks x hx e
  · have:=hn x hx q e
    omega
theorem own1.grown {B:Nat}{w w':World}{kv:Value}{ks:List Int}{row:Option Nat}(h:own1 B w kv ks)(hg:w.grownBy w' row)(hne:kv.ownBlock=none∨kv.ownBlock≠row):own1 B w' kv ks:=World.ownsRow.kept h hg hne
theorem own1.on {E:Env}{B:Nat}{v v':Value}{w w':World}{kv:Value}{ks:List Int}{kvs:List Value}(h:own1 B w kv ks)(hf:Fr E w.heap.size v v' w w')(hl:LocV E v kvs kv):own1 B w' kv ks:=by
 cases hk:kv.ownBlock with
 | none =>
  obtain ⟨h1,h2⟩:=h
  refine ⟨h1,?_⟩
  rcases h2 with h2|⟨g,cap,cur,e,_⟩
  · exact Or.inl h2
  · subst e;simp [Value.ownBlock] at hk
 | some q =>
  have hq:=hl q hk
  have hlt:=(h.lt q hk).2
  obtain ⟨h1,h2⟩:=h
  refine ⟨h1,?_⟩
  rcases h2 with h2|⟨g,cap,cur,e,hb,hh,hr⟩
  · exact Or.inl h2
  · have hgq:g=q:=by subst e;simpa [Value.ownBlock] using hk
    subst hgq
    exact Or.inr ⟨g,cap,cur,e,hb,by rw [hf.block g hlt (by have:=hq.lt;omega) hq.v];exact hh,hr⟩
theorem LocV.on {E:Env}{v v':Value}{kvs new:List Value}{w w':World}{B:Nat}{kv:Value}(h:LocV E v kvs kv)(hf:Fr E B v v' w w')(hn:Nw B new)(hq:∀q,kv.ownBlock=some q→q<B):LocV E v' (kvs++new) kv :=
 fun q e=>(h q e).on hf hn (hq q e)
theorem Nw.append {B:Nat}{x y:List Value}(h:Nw B x)(h':Nw B y):Nw B (x++y):=fun z hz=>by
 rcases List.mem_append.1 hz with hz|hz
 · exact h z hz
 · exact h' z hz
theorem Nw.mono {B B':Nat}{x:List Value}(h:Nw B x)(hb:B'≤B):Nw B' x:=fun z hz k hk=>Nat.le_trans hb (h z hz k hk)
theorem Nw.nil (B:Nat):Nw B []:=fun x hx=>by simp at hx
structure Lcl (E:Env)(v:Value)(kvs:List Value)(q:Nat)(o:Obj)(w:World):Prop where
 loc:Loc E v kvs q
 lt:q<w.heap.size
 obj:w.heap[q]?=some o
theorem Lcl.new {E:Env}{v:Value}{kvs:List Value}{md:List Nd}{r:Nat}{l:List PT}{w:World}(h:PS E v kvs md r l w)(o:Obj):Lcl E v kvs w.heap.size o (w.alloc o) :=
 ⟨h.fresh,by simp,by show (w.heap.push o)[w.heap.size]?=_;simp⟩
theorem Lcl.on {E:Env}{v v':Value}{kvs new:List Value}{w w':World}{q:Nat}{o:Obj}(h:Lcl E v kvs q o w)(hf:Fr E w.heap.size v v' w w')(hn:Nw w.heap.size new):Lcl E v' (kvs++new) q o w' :=
 ⟨h.loc.on hf hn h.lt,Nat.lt_of_lt_of_le h.lt hf.size,by rw [hf.block q h.lt (by have:=h.loc.lt;omega) h.loc.v];exact h.obj⟩
theorem Lcl.on0 {E:Env}{v v':Value}{kvs:List Value}{w w':World}{q:Nat}{o:Obj}(h:Lcl E v kvs q o w)(hf:Fr E w.heap.size v v' w w'):Lcl E v' kvs q o w':=by
 have:=h.on hf (Nw.nil _)
 rwa [List.append_nil] at this
theorem Lcl.grown {E:Env}{v:Value}{kvs:List Value}{w w':World}{q:Nat}{o:Obj}{row:Option Nat}(h:Lcl E v kvs q o w)(hg:w.grownBy w' row)(hne:row≠some q):Lcl E v kvs q o w' :=
 ⟨h.loc,Nat.lt_of_lt_of_le h.lt hg.size,by rw [hg.block q h.lt (fun e=>hne e.symm)];exact h.obj⟩
theorem Lcl.alloc {E:Env}{v:Value}{kvs:List Value}{w:World}{q:Nat}{o:Obj}(h:Lcl E v kvs q o w)(o':Obj):Lcl E v kvs q o (w.alloc o'):=h.grown (World.grownBy_alloc w o' none) (by simp)
theorem Lcl.set {E:Env}{v:Value}{kvs:List Value}{w:World}{q:Nat}{cs:Array Value}{T:TypeId}(h:Lcl E v kvs q (.cells cs T (0,0)) w)(i:Nat)(u:Value):Lcl E v kvs q (.cells (cs.setIfInBounds i u) T (0,0)) (w.setCell ⟨q,i,none⟩ u) :=
 ⟨h.loc,by simpa [World.setCell] using h.lt,heap_set w q i u cs T h.obj⟩
theorem Lcl.cell {E:Env}{v:Value}{kvs:List Value}{w:World}{q:Nat}{cs:Array Value}{T:TypeId}(h:Lcl E v kvs q (.cells cs T (0,0)) w)(i:Nat){u:Value}(hu:cs[i]?=some u):w.cell? ⟨q,i,none⟩=some u:=by
 rw [cell_of_row w q i cs T _ h.obj];exact hu
theorem Lcl.fz {E:Env}{v:Value}{kvs:List Value}{w:World}{q:Nat}{cs:Array Value}{T:TypeId}(h:Lcl E v kvs q (.cells cs T (0,0)) w)(i:Nat):w.frozen? ⟨q,i,none⟩=false:=frozen_of_row w q i cs T h.obj
theorem Lcl.set5 {E:Env}{v:Value}{kvs:List Value}{w:World}{q:Nat}{c0 c1 c2 c3 c4:Value}{T:TypeId}(h:Lcl E v kvs q (.cells #[c0,c1,c2,c3,c4] T (0,0)) w)(d0 d1 d2 d3 d4:Value) :
 Lcl E v kvs q (.cells #[d0,d1,d2,d3,d4] T (0,0)) (((((w.setCell ⟨q,0,none⟩ d0).setCell ⟨q,1,none⟩ d1).setCell ⟨q,2,none⟩ d2).setCell ⟨q,3,none⟩ d3).setCell ⟨q,4,none⟩ d4) :=
 ((((h.set 0 d0).set 1 d1).set 2 d2).set 3 d3).set 4 d4
theorem PS.set5 {E:Env}{v:Value}{kvs:List Value}{md:List Nd}{r:Nat}{l:List PT}{w:World}(h:PS E v kvs md r l w){q:Nat}(hq:Loc E v kvs q)(d0 d1 d2 d3 d4:Value) :
 PS E v kvs md r l (((((w.setCell ⟨q,0,none⟩ d0).setCell ⟨q,1,none⟩ d1).setCell ⟨q,2,none⟩ d2).setCell ⟨q,3,none⟩ d3).setCell ⟨q,4,none⟩ d4) :=
 ((((h.set (a:=⟨q,0,none⟩) hq d0).set (a:=⟨q,1,none⟩) hq d1).set (a:=⟨q,2,none⟩) hq d2).set (a:=⟨q,3,none⟩) hq d3).set (a:=⟨q,4,none⟩) hq d4
theorem size_set (w:World)(a:Addr)(u:Value):(w.setCell a u).heap.size=w.heap.size:=by simp [World.setCell]
theorem Fr.set5 {E:Env}{B:Nat}{v v1:Value}{w w1:World}(h:Fr E B v v1 w w1)(hB:B≤w1.heap.size){q:Nat}(hq:B≤q)(d0 d1 d2 d3 d4:Value) :
 Fr E B v v1 w (((((w1.setCell ⟨q,0,none⟩ d0).setCell ⟨q,1,none⟩ d1).setCell ⟨q,2,none⟩ d2).setCell ⟨q,3,none⟩ d3).setCell ⟨q,4,none⟩ d4) :=
 ((((h.set hB (a:=⟨q,0,none⟩) hq d0).set (by rw [size_set];exact hB) (a:=⟨q,1,none⟩) hq d1).set (by rw [size_set,size_set];exact hB) (a:=⟨q,2,none⟩) hq d2).set (by rw [size_set,size_set,size_set];exact hB) (a:=⟨q,3,none⟩) hq d3).set (by rw [size_set,size_set,size_set,size_set];exact hB) (a:=⟨q,4,none⟩) hq d4
theorem Lcl.setB {E:Env}{v:Value}{kvs:List Value}{w:World}{q:Nat}{o:Obj}(h:Lcl E v kvs q o w)(i:Nat)(u:Value):Lcl E v kvs q o (w.setCell ⟨E.b,i,none⟩ u) :=
 h.grown (grownBy_set w _ _) (fun e=>by have:=h.loc.lt;have e:=Option.some.inj e;simp only at e;omega)
def rootI (b:Nat)(a:Ast):Int:=((b+a.size:Nat):Int)-1
end
section
open Go.RowKit
theorem beq_str (a b:ByteArray):(a.toList==b.toList)=decide (a=b):=by
 rw [ByteArray.toList_eq,ByteArray.toList_eq]
 by_cases h:a=b
 · subst h;simp
 · rw [decide_eq_false h]
   have:a.data.toList≠b.data.toList:=fun e=>h (by
    obtain ⟨⟨a⟩⟩:=a
    obtain ⟨⟨b⟩⟩:=b
    simp only at e
    rw [e])
   simpa using this
abbrev tokA (t:PT)(sp:Nat):Value:=.agg #[.int .u8 t.kind,.int .i64 (t.at':Int),.int .i64 (sp:Int),.string t.txt,.int .i64 t.n]
theorem tok_f0 (k a b n:Int)(s:ByteArray)(W:World):(Instr.field 29 (.agg #[.int .u8 k,.int .i64 a,.int .i64 b,.string s,.int .i64 n]) 0).run Tryz.prog W=.ok (.int .u8 k) W:=by kernel_rfl
theorem tok_f1 (k a b n:Int)(s:ByteArray)(W:World):(Instr.field 29 (.agg #[.int .u8 k,.int .i64 a,.int .i64 b,.string s,.int .i64 n]) 1).run Tryz.prog W=.ok (.int .i64 a) W:=by kernel_rfl
theorem tok_f3 (k a b n:Int)(s:ByteArray)(W:World):(Instr.field 29 (.agg #[.int .u8 k,.int .i64 a,.int .i64 b,.string s,.int .i64 n]) 3).run Tryz.prog W=.ok (.string s) W:=by kernel_rfl
section
variable {E:Env}{v:Value}{kvs:List Value}{md:List Nd}{r:Nat}{l:List PT}{w:World}
theorem PS.head (h:PS E v kvs md r l w):∃(i:Nat) (t:PT) (l':List PT) (sp:Nat),l=t::l'∧l'=E.pts.drop (i+1)∧i<E.toks.length∧w.heap[E.b]?=some (.cells #[.slice (some ⟨E.g,0,none⟩) E.toks.length E.cap,.int .i64 (i:Int),.int .i64 (64-(r:Int)),E.mp,v] 125 (0,0)) ∧
 w.cell? ⟨E.g,i*5,none⟩=some (.int .u8 t.kind)∧w.cell? ⟨E.g,i*5+1,none⟩=some (.int .i64 (t.at':Int))∧w.cell? ⟨E.g,i*5+2,none⟩=some (.int .i64 (sp:Int))∧w.cell? ⟨E.g,i*5+3,none⟩=some (.string t.txt)∧w.cell? ⟨E.g,i*5+4,none⟩=some (.int .i64 t.n):=by
 obtain ⟨i,hl,hc⟩:=h.nx
 obtain ⟨t,l',he⟩:=h.ended.pos
 have hi:i<E.pts.length:=by
  rcases Nat.lt_or_ge i E.pts.length with h1|h1
  · exact h1
  · rw [List.drop_eq_nil_of_le h1] at hl;rw [hl] at he;simp at he
 have hi2:i<E.toks.length:=by simpa [Env.pts] using hi
 have hd:=List.drop_eq_getElem_cons hi
 rw [← hl,he,List.cons.injEq] at hd
 have ht:t=ptOf (E.toks.getD i (Tok.endAt 0)):=by
  rw [hd.1]
  simp [Env.pts,List.getD,hi2]
 refine ⟨i,t,l',(E.toks.getD i (Tok.endAt 0)).stop,he,hd.2,hi2,hc,?_,?_,?_,?_,?_⟩
 · rw [ht];exact h.tok i 0 _ hi2 rfl
 · rw [ht];exact h.tok i 1 _ hi2 rfl
 · exact h.tok i 2 _ hi2 rfl
 · rw [ht];exact h.tok i 3 _ hi2 rfl
 · rw [ht];exact h.tok i 4 _ hi2 rfl
theorem PS.next {t:PT}{i:Nat}{l':List PT}(h:PS E v kvs md r (t::l') w)(ht:t.kind≠4∨t.txt≠none0)(hl:l'=E.pts.drop (i+1))(hc:w.heap[E.b]?=some (.cells #[.slice (some ⟨E.g,0,none⟩) E.toks.length E.cap,.int .i64 (i:Int),.int .i64 (64-(r:Int)),E.mp,v] 125 (0,0))) :
 PS E v kvs md r l' (w.setCell ⟨E.b,1,none⟩ (.int .i64 ((i:Int)+1))) where
 below:=h.below.setCell (p:=⟨E.b,1,none⟩) (Nat.le_refl _) _
 lt:=by simpa [World.setCell] using h.lt
 gl:=h.gl
 cap:=h.cap
 tok:=fun j k u hj hk=>by
  have:=h.gl
  rw [World.cell?_of_block (w:=w) (a:=⟨E.g,j*5+k,none⟩) (Below.heap_setCell _ _ _ _ (show E.g≠E.b by omega))]
  exact h.tok j k u hj hk
 nx:=⟨i+1,hl,by rw [heap_set _ _ _ _ _ _ hc];rfl⟩
 r64:=h.r64
 ended:=h.ended.tail ht
 few:=h.few
 room:=by have:=h.room;simp only [List.length_cons] at this;omega
 klen:=h.klen
 own:=h.own.kept (grownBy_set w _ _) (by
  cases hv:v.ownBlock with
  | none=>exact Or.inl rfl
  | some k=>exact Or.inr (fun e=>by have:=h.vlt k hv;have e:=Option.some.inj e;simp only at e;omega))
 kids:=fun j hj=>(h.kids j hj).grown (grownBy_set w _ _) (by
  cases hv:(kvs.getD j default).ownBlock with
  | none=>exact Or.inl rfl
  | some k=>exact Or.inr (fun e=>by have:=(h.kids j hj).lt k hv;have e:=Option.some.inj e;simp only at e;omega))
 apart:=h.apart
 pair:=h.pair
theorem Fr.setB {v':Value}{B:Nat}{w1:World}(h:Fr E B v v' w w1)(i:Nat)(u:Value):Fr E B v v' w (w1.setCell ⟨E.b,i,none⟩ u) :=
 ⟨h.os,h.tape,h.output,by have:=h.size;simpa [World.setCell] using this,fun k hk hb hv=>(Below.heap_setCell w1 ⟨E.b,i,none⟩ u k hb).trans (h.block k hk hb hv),h.grow⟩
theorem grownBy_drewN (w:World)(n:Nat):w.grownBy (w.drewN n) none:=⟨rfl,rfl,rfl,Nat.le_refl _,fun _ _ _=>rfl⟩
theorem PS.drewN (h:PS E v kvs md r l w)(n:Nat):PS E v kvs md r l (w.drewN n):=h.grown (grownBy_drewN w n) (fun _ e=>by cases e)
theorem PS.drew (h:PS E v kvs md r l w):PS E v kvs md r l w.drew:=h.drewN 1
theorem Fr.drew {B:Nat}{v':Value}{w1:World}(h:Fr E B v v' w w1):Fr E B v v' w w1.drew:=h.drewN 1
def PeekP (E:Env)(v:Value)(kvs:List Value)(md:List Nd)(r:Nat)(l:List PT)(w:World)(e:Ending)(w':World):Prop:=∃t l' sp,l=t::l'∧e=.returned (tokA t sp)∧PS E v kvs md r l w'∧Fr E w.heap.size v v w w'
def NextP (E:Env)(v:Value)(kvs:List Value)(md:List Nd)(r:Nat)(l:List PT)(w:World)(s:ByteArray)(e:Ending)(w':World):Prop:=∃t l',l=t::l'∧e=.returned (.bool (decide (t.txt=s)))∧PS E v kvs md r l w'∧Fr E w.heap.size v v w w'
theorem peek_at (h:PS E v kvs md r l w):Calls Tryz.prog 129 #[.pointer (some ⟨E.b,0,none⟩)] w (PeekP E v kvs md r l w):=by
 obtain ⟨i,t,l',sp,hl,_,hi,hb,k0,k1,k2,k3,k4⟩:=h.head
 have c0:=cell_of_row w E.b 0 _ _ _ hb
 have c1:=cell_of_row w E.b 1 _ _ _ hb
 simp only [List.getElem?_toArray,List.getElem?_cons_zero,List.getElem?_cons_succ] at c0 c1
 clear hb
 have hcap:=h.cap
 have HS:=lh h
 have HL:=lh hl
 clear h hl
 have hlt:=HS.out.lt
 have hgl:=HS.out.gl
 have hg2:E.g<w.heap.size:=by omega
 go_enter Tryz.func129,Tryz.ntmps129
 go_wp2_with fail
 go_region
 go_wp2
 simp [bodyPost,results,Tryz.results129,go_sem]
 exact ⟨t,l',sp,HL.out,rfl,(HS.out.alloc _).drew,((Fr.refl _ _ _ _).alloc (Nat.le_refl _) _).drew⟩
theorem isNext_at (h:PS E v kvs md r l w)(s:ByteArray):Calls Tryz.prog 130 #[.pointer (some ⟨E.b,0,none⟩),.string s] w (NextP E v kvs md r l w s):=by
 have PK:=lh (peek_at h)
 have fl:=tok_f3
 clear h
 go_enter Tryz.func130,Tryz.ntmps130
 go_wp2_with fail
 (with_reducible refine PK.out.mono ?_)
 rintro e w1 ⟨t,l',sp,hl,rfl,hs,hf⟩
 have HL:=lh hl
 have HS:=lh hs
 have HF:=lh hf
 clear hl hs hf PK
 simp only [tokA]
 have HB:=lh (beq_str t.txt s)
 go_wp2
 rw [HB.out]
 go_ret
 exact ⟨t,l',HL.out,rfl,HS.out,HF.out⟩
def PostE {α:Type}(E:Env)(res:Res α)(ok:α→List PT→Ending→World→Prop)(e:Ending)(w':World):Prop :=
 match res with
 | .err p c=>e=.panicked [{ v:=.iface 121 (.agg #[.int .i64 (p:Int),.int .i64 c]),recovered:=false }]∧Below E.b E.W w'
 | .ok a l'=>ok a l' e w'
theorem post_err {α:Type}{E:Env}{res:Res α}{ok:α→List PT→Ending→World→Prop}{f:Nat}{args:Array Value}{w:World}(T:Calls Tryz.prog f args w (PostE E res ok)){p:Nat}{c:Int}(hx:res=.err p c) :
 Calls Tryz.prog f args w fun e w'=>e=.panicked [{ v:=.iface 121 (.agg #[.int .i64 (p:Int),.int .i64 c]),recovered:=false }]∧Below E.b E.W w':=T.mono fun e w' h=>by rw [hx] at h;exact h
theorem post_ok {α:Type}{E:Env}{res:Res α}{ok:α→List PT→Ending→World→Prop}{f:Nat}{args:Array Value}{w:World}(T:Calls Tryz.prog f args w (PostE E res ok)){a:α}{l':List PT}(hx:res=.ok a l') :
 Calls Tryz.prog f args w (ok a l'):=T.mono fun e w' h=>by rw [hx] at h;exact h
theorem of_err {α:Type}{E:Env}{res:Res α}{ok:α→List PT→Ending→World→Prop}{w':World}{p:Nat}{c:Int}(hx:res=.err p c)(hb:Below E.b E.W w') :
 PostE E res ok (.panicked [{ v:=.iface 121 (.agg #[.int .i64 (p:Int),.int .i64 c]),recovered:=false }]) w':=by rw [hx];exact ⟨rfl,hb⟩
theorem of_ok {α:Type}{E:Env}{res:Res α}{ok:α→List PT→Ending→World→Prop}{e:Ending}{w':World}{a:α}{l':List PT}(hx:res=.ok a l')(h:ok a l' e w'):PostE E res ok e w':=by rw [hx];exact h
def RefP (E:Env)(l:List PT)(c:Int)(e:Ending)(w':World):Prop:=∃t l',l=t::l'∧e=.returned (.agg #[.int .i64 (t.at':Int),.int .i64 c])∧Below E.b E.W w'
theorem refused_at (h:PS E v kvs md r l w)(c:Int):Calls Tryz.prog 238 #[.pointer (some ⟨E.b,0,none⟩),.int .i64 c] w (RefP E l c):=by
 have L0:=lh (Lcl.new h (.cells #[.int .i64 0,.int .i64 0] 121))
 have PK:=lh (peek_at (h.alloc (.cells #[.int .i64 0,.int .i64 0] 121)))
 have fl:=tok_f1
 clear h
 go_enter Tryz.func238,Tryz.ntmps238
 go_wp2_with fail
 (with_reducible refine PK.out.mono ?_)
 rintro e w1 ⟨t,l',sp,hl,rfl,hs,hf⟩
 have HL:=lh hl
 have HS:=lh hs
 have L1:=lh (L0.out.on0 hf)
 have k0:=L1.out.cell 0 rfl
 have k1:=L1.out.cell 1 rfl
 have z:=L1.out.fz
 clear hl hs hf PK L0
 simp only [tokA]
 go_wp2
 simp [bodyPost,results,Tryz.results238,go_sem,k0,k1,z]
 exact ⟨t,l',HL.out,rfl,((HS.out.set (a:=⟨w.heap.size,0,none⟩) L1.out.loc _).set (a:=⟨w.heap.size,1,none⟩) L1.out.loc _).below⟩
end
theorem pE {α:Type}{E:Env}{res:Res α}{ok:α→List PT→Ending→World→Prop}{e:Ending}{w':World}{p:Nat}{c:Int}(hx:res=.err p c)(hP:PostE E res ok e w'):e=.panicked [{ v:=.iface 121 (.agg #[.int .i64 (p:Int),.int .i64 c]),recovered:=false }]∧Hid (Below E.b E.W w'):=by
 rw [hx] at hP
 exact hP
theorem nt (x:Bool)(w:World):(Op.unary .not (.bool x)).run Tryz.prog w=.ok (.bool (!x)) w:=rfl
end
section
open Go.RowKit
section
variable {E:Env}{v:Value}{kvs:List Value}{md:List Nd}{r:Nat}{l:List PT}{w:World}
def OkV (E:Env)(v:Value)(kvs:List Value)(md:List Nd)(r:Nat)(w:World)(x:Value)(l':List PT)(e:Ending)(w':World):Prop:=e=.returned x∧PS E v kvs md r l' w'∧Fr E w.heap.size v v w w'
theorem skip_at (h:PS E v kvs md r l w)(s:ByteArray)(hs0:s≠none0):Calls Tryz.prog 195 #[.pointer (some ⟨E.b,0,none⟩),.string s] w (PostE E (skipP s l) fun b l'=>OkV E v kvs md r w (.bool b) l'):=by
 have NX:=lh (isNext_at h s)
 clear h
 have hnot:=nt
 go_enter Tryz.func195,Tryz.ntmps195
 go_wp2_with fail
 (with_reducible refine NX.out.mono ?_)
 rintro e w1 ⟨t,l',hl,rfl,hs,hf⟩
 subst hl
 obtain ⟨i,t0,l0,sp,hl,hl0,hi,hb,_,_,_,_,_⟩:=hs.head
 obtain ⟨rfl,rfl⟩:=List.cons.inj hl
 have HS:=lh hs
 have HF:=lh hf
 have HB:=lh hb
 have HL:=lh hl0
 have hfew:=hs.few
 have c1:=cell_of_row w1 E.b 1 _ _ _ hb
 have z:=hs.fz
 simp only [List.getElem?_toArray,List.getElem?_cons_zero,List.getElem?_cons_succ] at c1
 clear hl hs hf NX hb hl0
 by_cases ht:t.txt=s
 · have ht2:t.txt≠none0:=by rw [ht];exact hs0
   have HR:Hid (skipP s (t::l')=.ok true l'):=lh (by rw [skipP,if_pos ht])
   have hd:decide (t.txt=s)=true:=decide_eq_true ht
   rw [hd]
   have H2:=lh ht2
   clear ht hd ht2
   go_wp2
   go_ret
   exact of_ok HR.out ⟨rfl,HS.out.next (Or.inr H2.out) HL.out HB.out,HF.out.setB 1 _⟩
 · have HR:Hid (skipP s (t::l')=.ok false (t::l')):=lh (by rw [skipP,if_neg ht])
   have hd:decide (t.txt=s)=false:=decide_eq_false ht
   rw [hd]
   clear ht hd
   go_wp2
   go_ret
   exact of_ok HR.out ⟨rfl,HS.out,HF.out⟩
theorem expect_at (h:PS E v kvs md r l w)(s:ByteArray)(hs0:s≠none0):Calls Tryz.prog 193 #[.pointer (some ⟨E.b,0,none⟩),.string s] w (PostE E (expectP s l) fun p l'=>OkV E v kvs md r w (.int .i64 (p:Int)) l'):=by
 have PK:=lh (peek_at h)
 have fl:=tok_f1
 clear h
 have hnot:=nt
 go_enter Tryz.func193,Tryz.ntmps193
 go_wp2_with fail
 (with_reducible refine PK.out.mono ?_)
 rintro e w1 ⟨t,l',sp,hl,rfl,hs,hf⟩
 subst hl
 have SK:=skip_at hs s hs0
 have HF:=lh hf
 have HS:=lh hs
 clear hs hf PK
 simp only [tokA]
 by_cases ht:t.txt=s
 · have SK1:=lh (post_ok SK (show skipP s (t::l')=.ok true l' by rw [skipP,if_pos ht]))
   have HR:Hid (expectP s (t::l')=.ok t.at' l'):=lh (by rw [expectP,if_pos ht])
   clear SK ht
   go_wp2_with fail
   (with_reducible refine SK1.out.mono ?_)
   rintro e w2 ⟨rfl,hs2,hf2⟩
   have HS2:=lh hs2
   have HF2:=lh (HF.out.trans (hf2.mono HF.out.size))
   clear hs2 hf2 SK1
   go_wp2
   go_ret
   exact of_ok HR.out ⟨rfl,HS2.out,HF2.out⟩
 · have SK1:=lh (post_ok SK (show skipP s (t::l')=.ok false (t::l') by rw [skipP,if_neg ht]))
   have HR:Hid (expectP s (t::l')=.err t.at' 50):=lh (by rw [expectP,if_neg ht])
   clear SK ht
   go_wp2_with fail
   (with_reducible refine SK1.out.mono ?_)
   rintro e w2 ⟨rfl,hs2,hf2⟩
   have RF:=lh (refused_at hs2 50)
   clear hs2 hf2 SK1
   go_wp2_with fail
   (with_reducible refine RF.out.mono ?_)
   rintro e w3 ⟨t3,l3,hl,rfl,hb⟩
   obtain ⟨rfl,rfl⟩:=List.cons.inj hl
   have HB:=lh hb
   clear RF hb
   go_wp2
   exact ⟨rfl,of_err HR.out HB.out⟩
def OkT (E:Env)(v:Value)(kvs:List Value)(md:List Nd)(r:Nat)(w:World)(t:PT)(l':List PT)(e:Ending)(w':World):Prop:=∃sp,e=.returned (tokA t sp)∧PS E v kvs md r l' w'∧Fr E w.heap.size v v w w'
theorem take_at (h:PS E v kvs md r l w)(k:Int)(hk:k≠4):Calls Tryz.prog 200 #[.pointer (some ⟨E.b,0,none⟩),.int .u8 k] w (PostE E (takeP k l) fun t l'=>OkT E v kvs md r w t l'):=by
 have hw1:Hid (w.heap.size+1=(w.alloc (.cells #[.int .u8 0,.int .i64 0,.int .i64 0,.string ⟨#[]⟩,.int .i64 0] 29)).heap.size):=lh (by simp)
 have L0:=lh (Lcl.new h (.cells #[.int .u8 0,.int .i64 0,.int .i64 0,.string ⟨#[]⟩,.int .i64 0] 29))
 have F0:Hid (Fr E w.heap.size v v w (w.alloc (.cells #[.int .u8 0,.int .i64 0,.int .i64 0,.string ⟨#[]⟩,.int .i64 0] 29))):=lh ((Fr.refl _ _ _ _).alloc (Nat.le_refl _) _)
 have PK:=lh (peek_at (h.alloc (.cells #[.int .u8 0,.int .i64 0,.int .i64 0,.string ⟨#[]⟩,.int .i64 0] 29)))
 have fl:=tok_f0
 clear h
 go_enter Tryz.func200,Tryz.ntmps200
 go_wp2_with fail
 (with_reducible refine PK.out.mono ?_)
 rintro e w1 ⟨t,l',sp,hl,rfl,hs,hf⟩
 subst hl
 obtain ⟨i,t0,l0,sp0,hl,hl0,hi,hb,_,_,_,_,_⟩:=hs.head
 obtain ⟨rfl,rfl⟩:=List.cons.inj hl
 have hb1:(w1.alloc (.cells #[.int .u8 t.kind,.int .i64 (t.at':Int),.int .i64 (sp:Int),.string t.txt,.int .i64 t.n] 29)).heap[E.b]?=_:=(Below.heap_alloc w1 _ E.b hs.lt).trans hb
 have HS:=lh (hs.alloc (.cells #[.int .u8 t.kind,.int .i64 (t.at':Int),.int .i64 (sp:Int),.string t.txt,.int .i64 t.n] 29))
 have HF:=lh ((F0.out.trans (hf.mono (by simp))).alloc (by have:=hf.size;simp at this;omega) (.cells #[.int .u8 t.kind,.int .i64 (t.at':Int),.int .i64 (sp:Int),.string t.txt,.int .i64 t.n] 29))
 have L1:=lh ((L0.out.on0 hf).alloc (.cells #[.int .u8 t.kind,.int .i64 (t.at':Int),.int .i64 (sp:Int),.string t.txt,.int .i64 t.n] 29))
 have k0:=L1.out.cell 0 rfl
 have k1:=L1.out.cell 1 rfl
 have k2:=L1.out.cell 2 rfl
 have k3:=L1.out.cell 3 rfl
 have k4:=L1.out.cell 4 rfl
 have zl:=L1.out.fz
 have hfew:=hs.few
 have c1:=cell_of_row _ E.b 1 _ _ _ hb1
 have z:=HS.out.fz
 have hne:¬ E.b=w.heap.size:=by have:=L1.out.loc.lt;omega
 have hne2:¬ w1.heap.size=w.heap.size:=by have:=hf.size;simp at this;omega
 have hne3:¬ E.b=w1.heap.size:=by have:=hs.lt;omega
 have HB:=lh hb1
 have HL:=lh hl0
 simp only [List.getElem?_toArray,List.getElem?_cons_zero,List.getElem?_cons_succ] at c1
 clear hl hs hf PK hb hb1 hl0 L0 F0
 simp only [tokA]
 by_cases ht:t.kind=k
 · have hd:(t.kind != k)=false:=by simpa using ht
   have HR:Hid (takeP k (t::l')=.ok t l'):=lh (by rw [takeP,if_pos ht])
   have HK:Hid (t.kind≠4):=lh (by rw [ht];exact hk)
   have hsz:Hid (w.heap.size≤w.heap.size):=lh (Nat.le_refl _)
   clear ht hk hw1
   have L9:=(L1.out.setB 1 (.int .i64 ((i:Int)+1))).set5 (.int .u8 t.kind) (.int .i64 (t.at':Int)) (.int .i64 (sp:Int)) (.string t.txt) (.int .i64 t.n)
   have r0:=L9.cell 0 rfl
   have r1:=L9.cell 1 rfl
   have r2:=L9.cell 2 rfl
   have r3:=L9.cell 3 rfl
   have r4:=L9.cell 4 rfl
   clear L9
   go_wp2
   simp [bodyPost,results,Tryz.results200,go_sem,r0,r1,r2,r3,r4]
   refine of_ok HR.out ?_
   have f1:=HF.out.setB 1 (.int .i64 ((i:Int)+1))
   exact ⟨sp,rfl,(HS.out.next (Or.inl HK.out) HL.out HB.out).set5 L1.out.loc _ _ _ _ _,f1.set5 f1.size (Nat.le_refl _) _ _ _ _ _⟩
 · have hd:(t.kind != k)=true:=by simpa using ht
   have HR:Hid (takeP k (t::l')=.err t.at' 50):=lh (by rw [takeP,if_neg ht])
   have RF:=lh (refused_at HS.out 50)
   clear ht hk hw1
   go_wp2_with fail
   (with_reducible refine RF.out.mono ?_)
   rintro e w3 ⟨t3,l3,hl,rfl,hb⟩
   obtain ⟨rfl,rfl⟩:=List.cons.inj hl
   have HB:=lh hb
   clear RF hb
   go_wp2
   exact ⟨rfl,of_err HR.out HB.out⟩
end
end
section
open Go.RowKit
theorem infoNode:(Tryz.prog.info? 54).map (fun i=>(i.zero,i.size,i.bytes))=some (some (.agg #[.int .u8 0,.int .i64 0,.string ⟨#[]⟩,.int .i64 0,.slice none 0 0]),5,64):=by kernel_rfl
theorem infoInt:(Tryz.prog.info? 3).map (fun i=>(i.zero,i.size,i.bytes))=some (some (.int .i64 0),1,8):=by kernel_rfl
theorem info_partsP {t:Nat}{z:Value}{s b:Nat}(h:(Tryz.prog.info? t).map (fun i=>(i.zero,i.size,i.bytes))=some (some z,s,b)):∃i,Tryz.prog.info? t=some i∧i.zero=some z∧i.size=s∧i.bytes=b:=by
 cases hi:Tryz.prog.info? t with
 | none=>rw [hi] at h;simp at h
 | some i =>
  rw [hi] at h
  simp only [Option.map_some,Option.some.injEq,Prod.mk.injEq] at h
  exact ⟨i,rfl,h.1,h.2.1,h.2.2⟩
theorem own1.slice {B:Nat}{w:World}{kv:Value}{ks:List Int}(h:own1 B w kv ks):∃kp kl kc,kv=.slice kp kl kc:=by
 rcases h.2 with h2|⟨g,cap,cur,e,_⟩
 · exact ⟨_,_,_,h2.1⟩
 · exact ⟨_,_,_,e⟩
section
variable {E:Env}{v:Value}{kvs:List Value}{md:List Nd}{r:Nat}{l:List PT}{w:World}
theorem of_drew {w w':World}{row:Option Nat}(h:w.drew.grownBy w' row):w.grownBy w' row:=⟨h.os,h.tape,h.output,h.size,h.block⟩
theorem PS.push {W2 w5:World}{o:Obj}{g cap n:Nat}{nd:Nd}{kv:Value}{cs:List Value}(h:PS E v kvs md r l W2)(hg:(W2.alloc o).grownBy w5 v.ownBlock)(hat:v.ownBlock=some g∨g=W2.heap.size+1)(hn:n=md.length+1)(hcs:cs=cellsM md kvs++nodeC nd kv)
 (hown:w5.ownsRow (E.b+1) 54 5 (.slice (some ⟨g,0,none⟩) n cap) n cs) (ho:own1 (E.b+1) W2 kv nd.kids) (hl:LocV E v kvs kv) (hroom:md.length+1+l.length≤70000) :
 PS E (.slice (some ⟨g,0,none⟩) n cap) (kvs++[kv]) (md++[nd]) r l (w5.setCell ⟨E.b,4,none⟩ (.slice (some ⟨g,0,none⟩) n cap))∧Fr E W2.heap.size v (.slice (some ⟨g,0,none⟩) n cap) W2 (w5.setCell ⟨E.b,4,none⟩ (.slice (some ⟨g,0,none⟩) n cap)):=by
 subst hn hcs
 have hlt:=h.lt
 have hsz:W2.heap.size+1≤w5.heap.size:=by have:=hg.size;simpa using this
 have hg2:W2.grownBy w5 v.ownBlock:=⟨hg.os,hg.tape,hg.output,by omega,fun k hk hne=>(hg.block k (by simp;omega) hne).trans (Below.heap_alloc _ _ _ hk)⟩
 have hvb:v.ownBlock≠some E.b:=fun e=>by have:=(h.vlt _ e).1;omega
 have hb5:w5.heap[E.b]?=W2.heap[E.b]?:=hg2.block E.b hlt (fun e=>hvb e.symm)
 have hgb:g≠E.b:=fun e=>by
  rcases hat with h1|h1
  · rw [e] at h1;exact hvb h1
  · omega
 generalize hv5:Value.slice (some ⟨g,0,none⟩) (md.length+1) cap=v5 at *
 have hv5o:v5.ownBlock=some g:=by rw [← hv5];rfl
 have hset:w5.grownBy (w5.setCell ⟨E.b,4,none⟩ v5) (some E.b):=grownBy_set w5 _ _
 have kidold:∀(x:Value) (ks:List Int),own1 (E.b+1) W2 x ks→(∀k,x.ownBlock=some k→v.ownBlock≠some k)→own1 (E.b+1) (w5.setCell ⟨E.b,4,none⟩ v5) x ks:=fun x ks hx hne=>by
  refine own1.grown (row:=some E.b) (own1.grown hx hg2 ?_) hset ?_
  · cases hk:x.ownBlock with
    | none=>exact Or.inl rfl
    | some k=>exact Or.inr (fun e=>hne k hk e.symm)
  · cases hk:x.ownBlock with
    | none=>exact Or.inl rfl
    | some k=>exact Or.inr (fun e=>by have:=(hx.lt k hk).1;have e:=Option.some.inj e;omega)
 have hkl:∀x∈kvs++[kv],∀k,x.ownBlock=some k→v5.ownBlock≠some k:=fun x hx k hk e=>by
  rw [hv5o] at e
  obtain rfl:=Option.some.inj e
  rcases List.mem_append.1 hx with hx|hx
  · rcases hat with h1|h1
    · exact h.apart x hx g hk h1
    · have:=(h.klt x hx g hk).2;omega
  · obtain rfl:=List.mem_singleton.1 hx
    rcases hat with h1|h1
    · exact (hl g hk).v h1
    · have:=(ho.lt g hk).2;omega
 refine ⟨⟨(h.below.grown hg2 (Nat.le_of_lt hlt) (fun k e=>Nat.le_of_lt (h.vlt k e).1)).setCell (p:=⟨E.b,4,none⟩) (Nat.le_refl _) _,by simp [World.setCell];omega,h.gl,h.cap,fun j i u hj hi=>?_,?_,h.r64,h.ended,h.few,by simp only [List.length_append,List.length_singleton];omega,by simp [h.klen],?_,fun j hj=>?_,hkl,?_⟩,?_⟩
 · have hgl:=h.gl
   rw [World.cell?_of_block (w:=w5) (a:=⟨E.g,j*5+i,none⟩) (Below.heap_setCell _ _ _ _ (show E.g≠E.b by omega)),World.cell?_of_block (w:=W2) (a:=⟨E.g,j*5+i,none⟩) (hg2.block E.g (by omega) (fun e=>by have:=(h.vlt _ e.symm).1;omega))]
   exact h.tok j i u hj hi
 · obtain ⟨i,h1,h2⟩:=h.nx
   exact ⟨i,h1,by rw [heap_set _ _ _ _ _ _ (hb5.trans h2)];rfl⟩
 · rw [cellsM_snoc md kvs nd kv h.klen,List.length_append,List.length_singleton]
   exact hown.kept hset (Or.inr (fun e=>by rw [hv5o] at e;exact hgb (Option.some.inj e)))
 · by_cases hj':j<md.length
   · have h1:=kidold _ _ (h.kids j hj') (fun k hk=>h.apart (kvs.getD j default) (by have:=h.klen;simp [List.getD,show j<kvs.length by omega]) k hk)
     have e1:(kvs++[kv]).getD j default=kvs.getD j default:=by have:=h.klen;simp [List.getD,List.getElem?_append_left (show j<kvs.length by omega)]
     have e2:(md++[nd]).getD j default=md.getD j default:=by simp [List.getD,List.getElem?_append_left hj']
     rw [e1,e2];exact h1
   · have hjn:j=md.length:=by simp only [List.length_append,List.length_singleton] at hj;omega
     have e1:(kvs++[kv]).getD j default=kv:=by rw [hjn,← h.klen];simp [List.getD]
     have e2:(md++[nd]).getD j default=nd:=by rw [hjn];simp [List.getD]
     rw [e1,e2]
     exact kidold _ _ ho (fun k hk=>(hl k hk).v)
 · refine List.pairwise_append.2 ⟨h.pair,List.pairwise_singleton _ _,fun x hx y hy k hk e=>?_⟩
   obtain rfl:=List.mem_singleton.1 hy
   exact (hl k e).ks x hx hk
 · refine ⟨hg.os,hg.tape,hg.output,by simp [World.setCell];omega,fun k hk hkb hkv=>(Below.heap_setCell w5 ⟨E.b,4,none⟩ v5 k hkb).trans (hg2.block k hk (fun e=>hkv e.symm)),fun k hk=>?_⟩
   rw [hv5o] at hk
   obtain rfl:=Option.some.inj hk
   rcases hat with h1|h1
   · exact Or.inl h1
   · exact Or.inr (by omega)
def AddP (E:Env)(v:Value)(kvs:List Value)(md:List Nd)(r:Nat)(l:List PT)(w:World)(nd:Nd)(kv:Value)(e:Ending)(w':World):Prop :=
 ∃v',e=.returned (.int .i64 (md.length:Int))∧PS E v' (kvs++[kv]) (md++[nd]) r l w'∧Fr E w.heap.size v v' w w'
theorem add_at (h:PS E v kvs md r l w)(k a n:Int)(t:ByteArray)(kz kv:Value)(ks:List Int)(ho:own1 (E.b+1) w kv ks)(hl:LocV E v kvs kv)(hroom:md.length+1+l.length≤70000) :
 Calls Tryz.prog 133 #[.pointer (some ⟨E.b,0,none⟩),.agg #[.int .u8 k,.int .i64 a,.string t,.int .i64 n,kz],kv] w (AddP E v kvs md r l w ⟨k,a,t,n,ks⟩ kv):=by
 obtain ⟨i0,hi,hz0,hz1,hz2⟩:=info_partsP infoNode
 obtain ⟨kp,kl,kc,rfl⟩:=ho.slice
 have HS:=lh h
 have L0:=lh (Lcl.new h (.cells #[.int .u8 k,.int .i64 a,.string t,.int .i64 n,kz] 54))
 have HO:=lh ho
 have HL:=lh hl
 have I0:=lh hi
 have I1:=lh hz0
 have I2:=lh hz1
 have I3:=lh hz2
 clear h ho hl hi hz0 hz1 hz2
 go_enter Tryz.func133,Tryz.ntmps133
 go_wp2_with fail
 obtain ⟨W2,hW2⟩:∃W,W=w.alloc (.cells #[.int .u8 k,.int .i64 a,.string t,.int .i64 n,.slice kp kl kc] 54):=⟨_,rfl⟩
 have HS2:Hid (PS E v kvs md r l W2):=lh (by rw [hW2];exact HS.out.alloc _)
 have L2:Hid (Lcl E v kvs w.heap.size (.cells #[.int .u8 k,.int .i64 a,.string t,.int .i64 n,.slice kp kl kc] 54 (0,0)) W2):=lh (by rw [hW2];exact Lcl.new HS.out _)
 have HF2:Hid (Fr E w.heap.size v v w W2):=lh (by rw [hW2];exact (Fr.refl _ _ _ _).alloc (Nat.le_refl _) _)
 have hsz:Hid (W2.heap.size=w.heap.size+1):=lh (by rw [hW2];simp)
 have HO2:Hid (own1 (E.b+1) W2 (.slice kp kl kc) ks):=lh (by rw [hW2];exact HO.out.grown (World.grownBy_alloc _ _ none) (by cases (Value.slice kp kl kc).ownBlock<;>simp))
 rw [← hW2]
 clear hW2 HO L0
 obtain ⟨vp,vn,vc,rfl⟩:∃vp vn vc,v=.slice vp vn vc:=by
  rcases HS2.out.own.2 with h2|⟨g,cap,cur,e,_⟩
  · exact ⟨_,_,_,h2.1⟩
  · exact ⟨_,_,_,e⟩
 obtain ⟨i,hi,_,_,_,_,c4⟩:=HS2.out.cells
 have z4:=HS2.out.fz 4
 have k0:=L2.out.cell 0 rfl
 have k1:=L2.out.cell 1 rfl
 have k2:=L2.out.cell 2 rfl
 have k3:=L2.out.cell 3 rfl
 have k4:=L2.out.cell 4 rfl
 have hlt:=HS2.out.lt
 have hqlt:=L2.out.lt
 have hne:¬ E.b=w.heap.size:=by have:=L2.out.loc.lt;omega
 have hvb:¬ (Value.slice vp vn vc).ownBlock=some E.b:=fun e=>by have:=(HS2.out.vlt _ e).1;omega
 clear hi
 go_region_law ((refine step_append_lies _ (by rfl) (.tmp 13) (.tmp 15) 37 (by rfl) (E.b+1) 54 i0 _ 5 64 Tryz.underlying37 I0.out I1.out I2.out I3.out rfl (by decide) (.slice vp vn vc) md.length (cellsM md kvs) (by rfl) (HS2.out.own.drew.alloc _) ⟨W2.heap.size,0,none⟩ 1 1 [.int .u8 k,.int .i64 a,.string t,.int .i64 n,.slice kp kl kc] (by rfl) (by rfl) (World.news_of_block (cs:=#[.int .u8 k,.int .i64 a,.string t,.int .i64 n,.slice kp kl kc]) (t := 54) (fr:=(0,0)) (heap_alloc_new _ _)) (by simp [Value.oneCell']) (by decide) (by unfold maxLen;omega) (by omega) (by simp;omega) _ (by rfl) ?_;intro g5 cap5 w5 hown5 hgrow5 hat5 hlt5;have c45:w5.cell? ⟨E.b,4,none⟩=some (.slice vp vn vc):=(hgrow5.cell_far ⟨E.b,4,none⟩ (by simp;omega) (fun e=>hvb e.symm)).trans ((World.cell?_alloc_lt _ _ _ hlt).trans c4);have z45:w5.frozen? ⟨E.b,4,none⟩=false:=(hgrow5.frozen_far ⟨E.b,4,none⟩ (by simp;omega) (fun e=>hvb e.symm)).trans ((World.frozen?_of_block (w:=W2) (Below.heap_alloc W2 _ E.b hlt)).trans z4)))
 all_goals
  have HP:=lh (HS2.out.push (nd:=⟨k,a,t,n,ks⟩) (kv:=.slice kp kl kc) (of_drew hgrow5) (by simpa using hat5) rfl rfl hown5 HO2.out HL.out hroom)
  obtain ⟨_,_,_,_,_,_,d4⟩:=HP.out.1.cells
  have hfin:Hid (AddP E (.slice vp vn vc) kvs md r l w ⟨k,a,t,n,ks⟩ (.slice kp kl kc) (.returned (.int .i64 (md.length:Int))) (w5.setCell ⟨E.b,4,none⟩ (.slice (some ⟨g5,0,none⟩) (md.length+1) cap5))):=lh ⟨_,rfl,HP.out.1,HF2.out.trans (HP.out.2.mono (by have:=hsz.out;omega))⟩
  clear hown5 hgrow5 hat5 c45 z45 k0 k1 k2 k3 k4 c4 z4 HP
  go_wp2
  go_ret
  exact hfin.out
end
end
section
open Go.RowKit
section
variable {E:Env}{v:Value}{kvs:List Value}{md:List Nd}{r:Nat}{l:List PT}{w:World}
theorem PS.deep {r' i:Nat}{z:Int}(h:PS E v kvs md r l w)(hr:r'≤64)(hz:z=64-(r':Int))(hb:w.heap[E.b]?=some (.cells #[.slice (some ⟨E.g,0,none⟩) E.toks.length E.cap,.int .i64 (i:Int),.int .i64 (64-(r:Int)),E.mp,v] 125 (0,0)))(hl:l=E.pts.drop i) :
 PS E v kvs md r' l (w.setCell ⟨E.b,2,none⟩ (.int .i64 z)) where
 below:=h.below.setCell (p:=⟨E.b,2,none⟩) (Nat.le_refl _) _
 lt:=by simpa [World.setCell] using h.lt
 gl:=h.gl
 cap:=h.cap
 tok:=fun j k u hj hk=>by
  have:=h.gl
  rw [World.cell?_of_block (w:=w) (a:=⟨E.g,j*5+k,none⟩) (Below.heap_setCell _ _ _ _ (show E.g≠E.b by omega))]
  exact h.tok j k u hj hk
 nx:=⟨i,hl,by rw [heap_set _ _ _ _ _ _ hb,hz];rfl⟩
 r64:=hr
 ended:=h.ended
 few:=h.few
 room:=h.room
 klen:=h.klen
 own:=h.own.kept (grownBy_set w _ _) (by
  cases hv:v.ownBlock with
  | none=>exact Or.inl rfl
  | some k=>exact Or.inr (fun e=>by have:=h.vlt k hv;have e:=Option.some.inj e;simp only at e;omega))
 kids:=fun j hj=>(h.kids j hj).grown (grownBy_set w _ _) (by
  cases hv:(kvs.getD j default).ownBlock with
  | none=>exact Or.inl rfl
  | some k=>exact Or.inr (fun e=>by have:=(h.kids j hj).lt k hv;have e:=Option.some.inj e;simp only at e;omega))
 apart:=h.apart
 pair:=h.pair
theorem enter_at (h:PS E v kvs md r l w)(s:ByteArray)(hs0:s≠none0):Calls Tryz.prog 241 #[.pointer (some ⟨E.b,0,none⟩),.string s] w (PostE E (enterP s r l) fun p l'=>OkV E v kvs md (r-1) w (.int .i64 (p:Int)) l'):=by
 have NX:=lh (isNext_at h s)
 have hr64:=h.r64
 clear h
 go_enter Tryz.func241,Tryz.ntmps241
 go_wp2_with fail
 (with_reducible refine NX.out.mono ?_)
 rintro e w1 ⟨t,l',hl,rfl,hs,hf⟩
 subst hl
 obtain ⟨_,hl,_,_,c2,_,_⟩:=hs.cells
 have HF:=lh hf
 have HS:=lh hs
 have EX:=expect_at hs s hs0
 clear hs hf NX hl
 by_cases ht:t.txt=s
 · have hd:decide (t.txt=s)=true:=decide_eq_true ht
   rw [hd]
   clear hd
   have EX1:=lh (post_ok EX (show expectP s (t::l')=.ok t.at' l' by rw [expectP,if_pos ht]))
   by_cases hr:r=0
   · have HR:Hid (enterP s r (t::l')=.err t.at' 51):=lh (by rw [enterP,if_pos ht,if_pos hr])
     have RF:=lh (refused_at HS.out 51)
     have hd2:((64-(r:Int))==64)=true:=by simp [hr]
     clear EX EX1 ht
     go_wp2_with fail
     (with_reducible refine RF.out.mono ?_)
     rintro e w3 ⟨t3,l3,hl,rfl,hb⟩
     obtain ⟨rfl,rfl⟩:=List.cons.inj hl
     have HB:=lh hb
     clear RF hb
     go_wp2
     exact ⟨rfl,of_err HR.out HB.out⟩
   · have HR:Hid (enterP s r (t::l')=.ok t.at' l'):=lh (by rw [enterP,if_pos ht,if_neg hr])
     have hd2:((64-(r:Int))==64)=false:=by simp;omega
     clear EX ht
     go_wp2_with fail
     (with_reducible refine EX1.out.mono ?_)
     rintro e w2 ⟨rfl,hs2,hf2⟩
     obtain ⟨i,hl,hb⟩:=hs2.nx
     have HP:=lh (hs2.deep (r':=r-1) (z:=64-(r:Int)+1) (by omega) (by omega) hb hl)
     have HF2:=lh ((HF.out.trans (hf2.mono HF.out.size)).setB 2 (.int .i64 (64-(r:Int)+1)))
     obtain ⟨_,_,_,_,d2,_,_⟩:=hs2.cells
     have z2:=hs2.fz
     clear hs2 hf2 EX1 hl hb c2
     go_wp2
     go_ret
     exact of_ok HR.out ⟨rfl,HP.out,HF2.out⟩
 · have hd:decide (t.txt=s)=false:=decide_eq_false ht
   rw [hd]
   clear hd
   have EX1:=lh (post_err EX (show expectP s (t::l')=.err t.at' 50 by rw [expectP,if_neg ht]))
   have HR:Hid (enterP s r (t::l')=.err t.at' 50):=lh (by rw [enterP,if_neg ht])
   clear EX ht
   go_wp2_with fail
   (with_reducible refine EX1.out.mono ?_)
   rintro e w2 ⟨rfl,hb⟩
   have HB:=lh hb
   clear hb EX1
   go_wp2
   exact ⟨rfl,of_err HR.out HB.out⟩
theorem leave_at (h:PS E v kvs md r l w)(s:ByteArray)(hs0:s≠none0)(hr:r<64):Calls Tryz.prog 242 #[.pointer (some ⟨E.b,0,none⟩),.string s] w (PostE E (expectP s l) fun _ l'=>OkV E v kvs md (r+1) w (.tuple #[]) l'):=by
 have EX:=expect_at h s hs0
 clear h
 cases hx:expectP s l with
 | err p c =>
  have EX1:=lh (post_err EX hx)
  clear EX hx
  go_enter Tryz.func242,Tryz.ntmps242
  go_wp2_with fail
  (with_reducible refine EX1.out.mono ?_)
  rintro e w2 ⟨rfl,hb⟩
  have HB:=lh hb
  clear hb EX1
  go_wp2
  exact ⟨rfl,of_err rfl HB.out⟩
 | ok p l' =>
  have EX1:=lh (post_ok EX hx)
  clear EX hx
  go_enter Tryz.func242,Tryz.ntmps242
  go_wp2_with fail
  (with_reducible refine EX1.out.mono ?_)
  rintro e w2 ⟨rfl,hs2,hf2⟩
  obtain ⟨i,hl,hb⟩:=hs2.nx
  have HP:=lh (hs2.deep (r':=r+1) (z:=64-(r:Int)-1) (by omega) (by omega) hb hl)
  have HF2:=lh (hf2.setB 2 (.int .i64 (64-(r:Int)-1)))
  obtain ⟨_,_,_,_,d2,_,_⟩:=hs2.cells
  have z2:=hs2.fz
  clear hs2 hf2 EX1 hl hb
  go_wp2
  first
   | go_end0
   | skip
  exact of_ok rfl ⟨rfl,HP.out,HF2.out⟩
end
end
end Go.Proofs.YthdioipfdbbmmaaGreatDoor
