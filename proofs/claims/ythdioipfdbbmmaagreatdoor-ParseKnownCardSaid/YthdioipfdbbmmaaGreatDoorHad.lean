/- Contracts. -/
import Derived.Test.YthdioipfdbbmmaaGreatDoorHac
set_option linter.all false
set_option maxRecDepth 1000000
set_option maxHeartbeats 16000000
namespace Go.Proofs.YthdioipfdbbmmaaGreatDoor
section
open Par
def IsEnd (e:PT):Prop:=e.kind=4∧e.txt=none0
def EndP {α:Type}(f:Par α):Prop:=∀e,IsEnd e→f [e]=.err e.at' 50∨∃a,f [e]=.ok a [e]
def CutR {α:Type}(f:Par α)(e:PT)(pre rest:List PT)(a:α)(l1:List PT):Prop :=
 (∃pre',l1=pre'++rest∧f (pre++[e])=.ok a (pre'++[e]))∨f (pre++[e])=.err e.at' 50∨∃a',f (pre++[e])=.ok a' [e]
def CutP {α:Type}(f:Par α):Prop:=∀e,IsEnd e→∀pre rest a l1,f (pre++rest)=.ok a l1→CutR f e pre rest a l1
section
variable {α β:Type}
theorem EndP.bind {f:Par α}{g:α→Par β}(hf:EndP f)(hg:∀a,EndP (g a)):EndP (Par.bind f g):=fun e he=>by
 rcases hf e he with h|⟨a,h⟩
 · exact Or.inl (bind_err h)
 · rw [bind_ok h];exact hg a e he
theorem EndP.pure (a:α):EndP (Par.pure a):=fun e _=>Or.inr ⟨a,rfl⟩
theorem EndP.fail:EndP (failP:Par α):=fun e _=>Or.inl rfl
theorem CutP.bind {f:Par α}{g:α→Par β}(hf:CutP f)(hg:∀a,CutP (g a))(hge:∀a,EndP (g a)):CutP (Par.bind f g):=fun e he pre rest b l2 h=>by
 simp only [Par.bind] at h
 cases h1:f (pre++rest) with
 | err p c=>rw [h1] at h;simp at h
 | ok a l1 =>
  rw [h1] at h
  rcases hf e he pre rest a l1 h1 with ⟨pre',rfl,h2⟩|h2|⟨a',h2⟩
  · have:=hg a e he pre' rest b l2 h
    unfold CutR at this ⊢
    rw [bind_ok h2]
    exact this
  · exact Or.inr (Or.inl (bind_err h2))
  · rcases hge a' e he with h3|⟨b',h3⟩
    · exact Or.inr (Or.inl (by rw [bind_ok h2];exact h3))
    · exact Or.inr (Or.inr ⟨b',by rw [bind_ok h2];exact h3⟩)
theorem CutP.pure (a:α):CutP (Par.pure a):=fun e _ pre rest b l1 h=>by
 simp only [Par.pure,Res.ok.injEq] at h
 obtain ⟨rfl,rfl⟩:=h
 exact Or.inl ⟨pre,rfl,rfl⟩
theorem CutP.fail:CutP (failP:Par α):=fun e _ pre rest b l1 h=>by
 cases h1:pre++rest with
 | nil=>rw [h1] at h;simp [failP] at h
 | cons t l=>rw [h1] at h;simp [failP] at h
theorem cut_end {f:Par α}(h:EndP f){e:PT}(he:IsEnd e)(rest:List PT)(a:α)(l1:List PT):CutR f e [] rest a l1:=Or.inr (h e he)
theorem end_isNext (s:ByteArray):EndP (isNextP s):=fun e _=>Or.inr ⟨_,rfl⟩
theorem end_peek:EndP peekP:=fun e _=>Or.inr ⟨_,rfl⟩
theorem end_skip (s:ByteArray)(hs:s≠none0):EndP (skipP s):=fun e he=>Or.inr ⟨false,by simp only [skipP,he.2];rw [if_neg (fun h=>hs h.symm)]⟩
theorem end_expect (s:ByteArray)(hs:s≠none0):EndP (expectP s):=fun e he=>Or.inl (by simp only [expectP,he.2];rw [if_neg (fun h=>hs h.symm)])
theorem end_enter (s:ByteArray)(r:Nat)(hs:s≠none0):EndP (enterP s r):=fun e he=>Or.inl (by simp only [enterP,he.2];rw [if_neg (fun h=>hs h.symm)])
theorem end_take (k:Int)(hk:k≠4):EndP (takeP k):=fun e he=>Or.inl (by simp only [takeP,he.1];rw [if_neg (fun h=>hk h.symm)])
theorem cut_isNext (s:ByteArray):CutP (isNextP s):=fun e he pre rest a l1 h=>by
 cases pre with
 | nil=>exact cut_end (end_isNext s) he _ _ _
 | cons t pre =>
  simp only [List.cons_append,isNextP,Res.ok.injEq] at h
  obtain ⟨rfl,rfl⟩:=h
  exact Or.inl ⟨t::pre,rfl,rfl⟩
theorem cut_peek:CutP peekP:=fun e he pre rest a l1 h=>by
 cases pre with
 | nil=>exact cut_end end_peek he _ _ _
 | cons t pre =>
  simp only [List.cons_append,peekP,Res.ok.injEq] at h
  obtain ⟨rfl,rfl⟩:=h
  exact Or.inl ⟨t::pre,rfl,rfl⟩
theorem cut_skip (s:ByteArray)(hs:s≠none0):CutP (skipP s):=fun e he pre rest a l1 h=>by
 cases pre with
 | nil=>exact cut_end (end_skip s hs) he _ _ _
 | cons t pre =>
  simp only [List.cons_append,skipP] at h
  split at h<;>simp only [Res.ok.injEq] at h<;>obtain ⟨rfl,rfl⟩:=h
  · exact Or.inl ⟨pre,rfl,by simp only [List.cons_append,skipP];rw [if_pos ‹_›]⟩
  · exact Or.inl ⟨t::pre,rfl,by simp only [List.cons_append,skipP];rw [if_neg ‹_›]⟩
theorem cut_expect (s:ByteArray)(hs:s≠none0):CutP (expectP s):=fun e he pre rest a l1 h=>by
 cases pre with
 | nil=>exact cut_end (end_expect s hs) he _ _ _
 | cons t pre =>
  simp only [List.cons_append,expectP] at h
  split at h<;>simp only [Res.ok.injEq,reduceCtorEq] at h
  obtain ⟨rfl,rfl⟩:=h
  exact Or.inl ⟨pre,rfl,by simp only [List.cons_append,expectP];rw [if_pos ‹_›]⟩
theorem cut_take (k:Int)(hk:k≠4):CutP (takeP k):=fun e he pre rest a l1 h=>by
 cases pre with
 | nil=>exact cut_end (end_take k hk) he _ _ _
 | cons t pre =>
  simp only [List.cons_append,takeP] at h
  split at h<;>simp only [Res.ok.injEq,reduceCtorEq] at h
  obtain ⟨rfl,rfl⟩:=h
  exact Or.inl ⟨pre,rfl,by simp only [List.cons_append,takeP];rw [if_pos ‹_›]⟩
theorem cut_enter (s:ByteArray)(r:Nat)(hs:s≠none0):CutP (enterP s r):=fun e he pre rest a l1 h=>by
 cases pre with
 | nil=>exact cut_end (end_enter s r hs) he _ _ _
 | cons t pre =>
  simp only [List.cons_append,enterP] at h
  split at h
  · split at h<;>simp only [Res.ok.injEq,reduceCtorEq] at h
    obtain ⟨rfl,rfl⟩:=h
    exact Or.inl ⟨pre,rfl,by simp only [List.cons_append,enterP];rw [if_pos ‹_›,if_neg ‹_›]⟩
  · simp at h
theorem cut_first {g:PT→Par β}(hend:EndP (Par.bind peekP g))(h:∀e,IsEnd e→∀t pre rest a l1,g t (t::pre++rest)=.ok a l1→CutR (g t) e (t::pre) rest a l1):CutP (Par.bind peekP g):=fun e he pre rest a l1 hx=>by
 cases pre with
 | nil=>exact cut_end hend he _ _ _
 | cons t pre=>exact h e he t pre rest a l1 hx
theorem cut_next {g:PT→Par β}{e:PT}(he:IsEnd e){t:PT}{pre rest:List PT}{a:β}{l1:List PT}(hg:CutP (g t))(h:Par.bind nextP g (t::pre++rest)=.ok a l1):CutR (Par.bind nextP g) e (t::pre) rest a l1:=hg e he pre rest a l1 h
theorem EndP.ite {p:Prop}[Decidable p]{f g:Par α}(hf:EndP f)(hg:EndP g):EndP (if p then f else g):=by split<;>assumption
theorem EndP.bool {f g:Par α}(hf:EndP f)(hg:EndP g)(b:Bool):EndP (match b with|true=>f|false=>g):=by
 cases b
 · exact hg
 · exact hf
theorem CutP.bool {f g:Par α}(hf:CutP f)(hg:CutP g)(b:Bool):CutP (match b with|true=>f|false=>g):=by
 cases b
 · exact hg
 · exact hf
theorem EndP.loop {step:α→Par (Option α)}(hs:Adv step)(he:∀a,EndP (step a))(m:Nat)(a:α)(e:PT)(hE:IsEnd e):Par.loop step (m+1) a [e]=.err e.at' 50∨∃b,Par.loop step (m+1) a [e]=.ok b [e]:=by
 rw [Par.loop]
 rcases he a e hE with h|⟨b,h⟩
 · exact Or.inl (bind_err h)
 · cases b with
   | none=>exact Or.inr ⟨a,by rw [bind_ok h];rfl⟩
   | some b =>
    have:=(hs _ _ _ _ h).1 rfl
    simp at this
theorem EndP.many {step:α→Par (Option α)}(hs:Adv step)(he:∀a,EndP (step a))(a:α):EndP (many step a):=fun e hE=>EndP.loop hs he 1 a e hE
theorem CutP.loop {step:α→Par (Option α)}(hs:Adv step)(hc:∀a,CutP (step a))(hE:∀a,EndP (step a))(e:PT)(he:IsEnd e)(m:Nat):∀(k:Nat) (a:α) (pre rest:List PT) (b:α) (l1:List PT),(pre++[e]).length<k→loop step m a (pre++rest)=.ok b l1 →
 (∃pre',l1=pre'++rest∧loop step k a (pre++[e])=.ok b (pre'++[e]))∨loop step k a (pre++[e])=.err e.at' 50∨∃a',loop step k a (pre++[e])=.ok a' [e]:=by
 induction m with
 | zero=>intro k a pre rest b l1 _ h;simp [Par.loop] at h
 | succ m ih =>
  intro k a pre rest b l1 hk h
  obtain ⟨k,rfl⟩:∃k',k=k'+1:=⟨k-1,by omega⟩
  rw [Par.loop] at h
  rw [Par.loop]
  simp only [Par.bind] at h
  cases h1:step a (pre++rest) with
  | err p c=>rw [h1] at h;simp at h
  | ok o l2 =>
   rw [h1] at h
   rcases hc a e he pre rest o l2 h1 with ⟨pre',rfl,h2⟩|h2|⟨o',h2⟩
   · cases o with
     | none =>
      simp only [Par.pure,Res.ok.injEq] at h
      obtain ⟨rfl,rfl⟩:=h
      exact Or.inl ⟨pre',rfl,by rw [bind_ok h2];rfl⟩
     | some a2 =>
      have h3:=(hs _ _ _ _ h2).1 rfl
      rw [bind_ok h2]
      exact ih k a2 pre' rest b l1 (by omega) h
   · exact Or.inr (Or.inl (bind_err h2))
   · rw [bind_ok h2]
     cases o' with
     | none=>exact Or.inr (Or.inr ⟨a,rfl⟩)
     | some a2 =>
      have h3:=(hs _ _ _ _ h2).1 rfl
      simp only [List.length_append,List.length_singleton] at h3 hk
      obtain ⟨k,rfl⟩:∃k',k=k'+1:=⟨k-1,by omega⟩
      exact Or.inr (EndP.loop hs hE k a2 e he)
theorem CutP.many {step:α→Par (Option α)}(hs:Adv step)(hc:∀a,CutP (step a))(hE:∀a,EndP (step a))(a:α):CutP (many step a):=fun e he pre rest b l1 h =>
 CutP.loop hs hc hE e he _ _ a pre rest b l1 (Nat.lt_succ_self _) h
def FrW (f:Par α):Prop:=∀e,IsEnd e→∀pre a l',f (pre++[e])=.ok a l'→∃pre',l'=pre'++[e]∧(pre'≠[]→∀rest,f (pre++rest)=.ok a (pre'++rest))
theorem FrW.bind {f:Par α}{g:α→Par β}(hf:FrW f)(hg:∀a,FrW (g a))(hl:∀a,Less (g a)):FrW (Par.bind f g):=fun e he pre b l2 h=>by
 simp only [Par.bind] at h
 cases h1:f (pre++[e]) with
 | err p c=>rw [h1] at h;simp at h
 | ok a l1 =>
  rw [h1] at h
  obtain ⟨pre1,rfl,k1⟩:=hf e he pre a l1 h1
  obtain ⟨pre2,rfl,k2⟩:=hg a e he pre1 b l2 h
  refine ⟨pre2,rfl,fun hn rest=>?_⟩
  have h3:=hl a _ _ _ h
  have hn1:pre1≠[]:=fun e1=>by
   subst e1
   simp only [List.length_append,List.length_nil,List.length_singleton] at h3
   exact hn (List.length_eq_zero_iff.1 (by omega))
  rw [bind_ok (k1 hn1 rest)]
  exact k2 hn rest
theorem FrW.pure (a:α):FrW (Par.pure a):=fun e _ pre b l1 h=>by
 simp only [Par.pure,Res.ok.injEq] at h
 obtain ⟨rfl,rfl⟩:=h
 exact ⟨pre,rfl,fun _ _=>rfl⟩
theorem FrW.fail:FrW (failP:Par α):=fun e _ pre b l1 h=>by cases pre<;>simp [failP] at h
theorem fr_isNext (s:ByteArray):FrW (isNextP s):=fun e _ pre a l1 h=>by
 cases pre with
 | nil =>
  simp only [List.nil_append,isNextP,Res.ok.injEq] at h
  exact ⟨[],h.2.symm,fun hn=>absurd rfl hn⟩
 | cons t pre =>
  simp only [List.cons_append,isNextP,Res.ok.injEq] at h
  obtain ⟨rfl,rfl⟩:=h
  exact ⟨t::pre,rfl,fun _ _=>rfl⟩
theorem fr_peek:FrW peekP:=fun e _ pre a l1 h=>by
 cases pre with
 | nil =>
  simp only [List.nil_append,peekP,Res.ok.injEq] at h
  exact ⟨[],h.2.symm,fun hn=>absurd rfl hn⟩
 | cons t pre =>
  simp only [List.cons_append,peekP,Res.ok.injEq] at h
  obtain ⟨rfl,rfl⟩:=h
  exact ⟨t::pre,rfl,fun _ _=>rfl⟩
theorem fr_skip (s:ByteArray)(hs:s≠none0):FrW (skipP s):=fun e he pre a l1 h=>by
 cases pre with
 | nil =>
  simp only [List.nil_append,skipP,he.2] at h
  rw [if_neg (fun h=>hs h.symm)] at h
  simp only [Res.ok.injEq] at h
  exact ⟨[],h.2.symm,fun hn=>absurd rfl hn⟩
 | cons t pre =>
  simp only [List.cons_append,skipP] at h
  split at h<;>simp only [Res.ok.injEq] at h<;>obtain ⟨rfl,rfl⟩:=h
  · exact ⟨pre,rfl,fun _ rest=>by simp only [List.cons_append,skipP];rw [if_pos ‹_›]⟩
  · exact ⟨t::pre,rfl,fun _ rest=>by simp only [List.cons_append,skipP];rw [if_neg ‹_›]⟩
def FrS (f:Par α):Prop:=∀e,IsEnd e→∀pre a l',f (pre++[e])=.ok a l'→∃pre',l'=pre'++[e]∧∀rest,f (pre++rest)=.ok a (pre'++rest)
theorem FrS.weak {f:Par α}(h:FrS f):FrW f:=fun e he pre a l' hx=>by
 obtain ⟨pre',h1,h2⟩:=h e he pre a l' hx
 exact ⟨pre',h1,fun _=>h2⟩
theorem frs_expect (s:ByteArray)(hs:s≠none0):FrS (expectP s):=fun e he pre a l1 h=>by
 cases pre with
 | nil =>
  simp only [List.nil_append,expectP,he.2] at h
  rw [if_neg (fun h=>hs h.symm)] at h
  simp at h
 | cons t pre =>
  simp only [List.cons_append,expectP] at h
  split at h<;>simp only [Res.ok.injEq,reduceCtorEq] at h
  obtain ⟨rfl,rfl⟩:=h
  exact ⟨pre,rfl,fun rest=>by simp only [List.cons_append,expectP];rw [if_pos ‹_›]⟩
theorem frs_take (k:Int)(hk:k≠4):FrS (takeP k):=fun e he pre a l1 h=>by
 cases pre with
 | nil =>
  simp only [List.nil_append,takeP,he.1] at h
  rw [if_neg (fun h=>hk h.symm)] at h
  simp at h
 | cons t pre =>
  simp only [List.cons_append,takeP] at h
  split at h<;>simp only [Res.ok.injEq,reduceCtorEq] at h
  obtain ⟨rfl,rfl⟩:=h
  exact ⟨pre,rfl,fun rest=>by simp only [List.cons_append,takeP];rw [if_pos ‹_›]⟩
theorem frs_enter (s:ByteArray)(r:Nat)(hs:s≠none0):FrS (enterP s r):=fun e he pre a l1 h=>by
 cases pre with
 | nil =>
  simp only [List.nil_append,enterP,he.2] at h
  rw [if_neg (fun h=>hs h.symm)] at h
  simp at h
 | cons t pre =>
  simp only [List.cons_append,enterP] at h
  split at h
  · split at h<;>simp only [Res.ok.injEq,reduceCtorEq] at h
    obtain ⟨rfl,rfl⟩:=h
    exact ⟨pre,rfl,fun rest=>by simp only [List.cons_append,enterP];rw [if_pos ‹_›,if_neg ‹_›]⟩
  · simp at h
theorem FrS.pure (a:α):FrS (Par.pure a):=fun e _ pre b l1 h=>by
 simp only [Par.pure,Res.ok.injEq] at h
 obtain ⟨rfl,rfl⟩:=h
 exact ⟨pre,rfl,fun _=>rfl⟩
theorem FrS.bind {f:Par α}{g:α→Par β}(hf:FrS f)(hg:∀a,FrS (g a)):FrS (Par.bind f g):=fun e he pre b l2 h=>by
 simp only [Par.bind] at h
 cases h1:f (pre++[e]) with
 | err p c=>rw [h1] at h;simp at h
 | ok a l1 =>
  rw [h1] at h
  obtain ⟨pre1,rfl,k1⟩:=hf e he pre a l1 h1
  obtain ⟨pre2,rfl,k2⟩:=hg a e he pre1 b l2 h
  exact ⟨pre2,rfl,fun rest=>by rw [bind_ok (k1 rest)];exact k2 rest⟩
theorem FrS.close {f:Par α}{g:α→Par β}(hf:FrW f)(hg:∀a,FrS (g a))(hno:∀a e,IsEnd e→∀b l,g a [e]≠.ok b l):FrS (Par.bind f g):=fun e he pre b l2 h=>by
 simp only [Par.bind] at h
 cases h1:f (pre++[e]) with
 | err p c=>rw [h1] at h;simp at h
 | ok a l1 =>
  rw [h1] at h
  obtain ⟨pre1,rfl,k1⟩:=hf e he pre a l1 h1
  obtain ⟨pre2,rfl,k2⟩:=hg a e he pre1 b l2 h
  have hn1:pre1≠[]:=fun e1=>by
   subst e1
   exact hno a e he b _ h
  exact ⟨pre2,rfl,fun rest=>by rw [bind_ok (k1 hn1 rest)];exact k2 rest⟩
theorem FrW.loop {step:α→Par (Option α)}(hs:Adv step)(hl:∀a,Less (step a))(hc:∀a,FrW (step a))(e:PT)(he:IsEnd e)(m:Nat):∀(a:α) (pre:List PT) (b:α) (l1:List PT),loop step m a (pre++[e])=.ok b l1 →
 ∃pre',l1=pre'++[e]∧(pre'≠[]→∀rest k,(pre++rest).length<k→loop step k a (pre++rest)=.ok b (pre'++rest)):=by
 induction m with
 | zero=>intro a pre b l1 h;simp [Par.loop] at h
 | succ m ih =>
  intro a pre b l1 h
  rw [Par.loop] at h
  simp only [Par.bind] at h
  cases h1:step a (pre++[e]) with
  | err p c=>rw [h1] at h;simp at h
  | ok o l2 =>
   rw [h1] at h
   obtain ⟨pre1,rfl,k1⟩:=hc a e he pre o l2 h1
   cases o with
   | none =>
    simp only [Par.pure,Res.ok.injEq] at h
    obtain ⟨rfl,rfl⟩:=h
    refine ⟨pre1,rfl,fun hn rest k hk=>?_⟩
    obtain ⟨k,rfl⟩:∃k',k=k'+1:=⟨k-1,by omega⟩
    rw [Par.loop,bind_ok (k1 hn rest)]
    rfl
   | some a2 =>
    obtain ⟨pre2,rfl,k2⟩:=ih a2 pre1 b l1 h
    refine ⟨pre2,rfl,fun hn rest k hk=>?_⟩
    have hlen:=Less.loop hl m a2 _ _ _ h
    have hn1:pre1≠[]:=fun e1=>by
     subst e1
     simp only [List.length_append,List.length_nil,List.length_singleton] at hlen
     exact hn (List.length_eq_zero_iff.1 (by omega))
    obtain ⟨k,rfl⟩:∃k',k=k'+1:=⟨k-1,by omega⟩
    have h5:=(hs _ _ _ _ (k1 hn1 rest)).1 rfl
    rw [Par.loop,bind_ok (k1 hn1 rest)]
    exact k2 hn rest k (by omega)
theorem FrW.many {step:α→Par (Option α)}(hs:Adv step)(hl:∀a,Less (step a))(hc:∀a,FrW (step a))(a:α):FrW (many step a):=fun e he pre b l1 h=>by
 obtain ⟨pre',h1,h2⟩:=FrW.loop hs hl hc e he _ a pre b l1 h
 exact ⟨pre',h1,fun hn rest=>h2 hn rest _ (Nat.lt_succ_self _)⟩
def Suf (f:Par α):Prop:=∀l a l',f l=.ok a l'→l' <:+ l
theorem Suf.pure (a:α):Suf (Par.pure a):=fun l b l' h=>by
 simp only [Par.pure,Res.ok.injEq] at h
 rw [h.2];exact List.suffix_refl _
theorem Suf.bind {f:Par α}{g:α→Par β}(hf:Suf f)(hg:∀a,Suf (g a)):Suf (Par.bind f g):=fun l b l' h=>by
 simp only [Par.bind] at h
 cases h1:f l with
 | err p c=>rw [h1] at h;simp at h
 | ok a l1 =>
  rw [h1] at h
  exact (hg a l1 b l' h).trans (hf l a l1 h1)
theorem Suf.loop {step:α→Par (Option α)}(hs:∀a,Suf (step a))(m:Nat)(a:α):Suf (loop step m a):=by
 induction m generalizing a with
 | zero=>intro l b l' h;simp [Par.loop] at h
 | succ m ih =>
  refine Suf.bind (hs a) fun b=>?_
  cases b with
  | none=>exact Suf.pure a
  | some b=>exact ih b
theorem Suf.many {step:α→Par (Option α)}(hs:∀a,Suf (step a))(a:α):Suf (many step a):=fun l=>Suf.loop hs (l.length+1) a l
theorem suf_fail:Suf (failP:Par α):=fun l a l' h=>by cases l<;>simp [failP] at h
theorem suf_peek:Suf peekP:=fun l a l' h=>by
 cases l with
 | nil=>simp [peekP] at h
 | cons t l=>simp only [peekP,Res.ok.injEq] at h;rw [h.2];exact List.suffix_refl _
theorem suf_isNext (s:ByteArray):Suf (isNextP s):=fun l a l' h=>by
 cases l with
 | nil=>simp [isNextP] at h
 | cons t l=>simp only [isNextP,Res.ok.injEq] at h;rw [h.2];exact List.suffix_refl _
theorem suf_next:Suf nextP:=fun l a l' h=>by
 cases l with
 | nil=>simp [nextP] at h
 | cons t l=>simp only [nextP,Res.ok.injEq] at h;rw [h.2];exact List.suffix_cons _ _
theorem suf_skip (s:ByteArray):Suf (skipP s):=fun l a l' h=>by
 cases l with
 | nil=>simp [skipP] at h
 | cons t l =>
  simp only [skipP] at h
  split at h<;>simp only [Res.ok.injEq] at h<;>rw [← h.2]
  · exact List.suffix_cons _ _
  · exact List.suffix_refl _
theorem suf_expect (s:ByteArray):Suf (expectP s):=fun l a l' h=>by
 cases l with
 | nil=>simp [expectP] at h
 | cons t l =>
  simp only [expectP] at h
  split at h<;>simp only [Res.ok.injEq,reduceCtorEq] at h
  rw [← h.2]
  exact List.suffix_cons _ _
theorem suf_take (k:Int):Suf (takeP k):=fun l a l' h=>by
 cases l with
 | nil=>simp [takeP] at h
 | cons t l =>
  simp only [takeP] at h
  split at h<;>simp only [Res.ok.injEq,reduceCtorEq] at h
  rw [← h.2]
  exact List.suffix_cons _ _
theorem suf_enter (s:ByteArray)(r:Nat):Suf (enterP s r):=fun l a l' h=>by
 cases l with
 | nil=>simp [enterP] at h
 | cons t l =>
  simp only [enterP] at h
  split at h
  · split at h<;>simp only [Res.ok.injEq,reduceCtorEq] at h
    rw [← h.2]
    exact List.suffix_cons _ _
  · simp at h
theorem suf_ite {p:Prop}[Decidable p]{f g:Par α}(hf:Suf f)(hg:Suf g):Suf (if p then f else g):=by split<;>assumption
def ErrQ (f:Par α):Prop:=∀l p c,f l=.err p c→c≠0∧(p=0∨∃t∈l,p=t.at')
theorem ErrQ.pure (a:α):ErrQ (Par.pure a):=fun l p c h=>by simp [Par.pure] at h
theorem ErrQ.bind {f:Par α}{g:α→Par β}(hf:ErrQ f)(hs:Suf f)(hg:∀a,ErrQ (g a)):ErrQ (Par.bind f g):=fun l p c h=>by
 simp only [Par.bind] at h
 cases h1:f l with
 | err q d =>
  rw [h1] at h
  simp only [Res.err.injEq] at h
  obtain ⟨rfl,rfl⟩:=h
  exact hf l _ _ h1
 | ok a l1 =>
  rw [h1] at h
  obtain ⟨h2,h3⟩:=hg a l1 p c h
  refine ⟨h2,h3.imp id ?_⟩
  rintro ⟨t,ht,e⟩
  exact ⟨t,(hs l a l1 h1).subset ht,e⟩
theorem ErrQ.loop {step:α→Par (Option α)}(hs:∀a,ErrQ (step a))(hf:∀a,Suf (step a))(m:Nat)(a:α):ErrQ (loop step m a):=by
 induction m generalizing a with
 | zero=>intro l p c h;simp only [Par.loop,Res.err.injEq] at h;exact ⟨by omega,Or.inl h.1.symm⟩
 | succ m ih =>
  refine ErrQ.bind (hs a) (hf a) fun b=>?_
  cases b with
  | none=>exact ErrQ.pure a
  | some b=>exact ih b
theorem ErrQ.many {step:α→Par (Option α)}(hs:∀a,ErrQ (step a))(hf:∀a,Suf (step a))(a:α):ErrQ (many step a):=fun l=>ErrQ.loop hs hf (l.length+1) a l
theorem er_one {p:Nat}{c:Int}{q:Nat}{d:Int}{l:List PT}(h:(Res.err q d:Res α)=.err p c)(hd:d≠0)(hq:q=0∨∃t∈l,q=t.at'):c≠0∧(p=0∨∃t∈l,p=t.at'):=by
 simp only [Res.err.injEq] at h
 obtain ⟨rfl,rfl⟩:=h
 exact ⟨hd,hq⟩
theorem er_fail:ErrQ (failP:Par α):=fun l p c h=>by
 cases l with
 | nil=>exact er_one h (by decide) (Or.inl rfl)
 | cons t l=>exact er_one h (by decide) (Or.inr ⟨t,by simp,rfl⟩)
theorem er_peek:ErrQ peekP:=fun l p c h=>by
 cases l with
 | nil=>exact er_one h (by decide) (Or.inl rfl)
 | cons t l=>simp [peekP] at h
theorem er_next:ErrQ nextP:=fun l p c h=>by
 cases l with
 | nil=>exact er_one h (by decide) (Or.inl rfl)
 | cons t l=>simp [nextP] at h
theorem er_isNext (s:ByteArray):ErrQ (isNextP s):=fun l p c h=>by
 cases l with
 | nil=>exact er_one h (by decide) (Or.inl rfl)
 | cons t l=>simp [isNextP] at h
theorem er_skip (s:ByteArray):ErrQ (skipP s):=fun l p c h=>by
 cases l with
 | nil=>exact er_one h (by decide) (Or.inl rfl)
 | cons t l=>simp only [skipP] at h;split at h<;>simp at h
theorem er_expect (s:ByteArray):ErrQ (expectP s):=fun l p c h=>by
 cases l with
 | nil=>exact er_one h (by decide) (Or.inl rfl)
 | cons t l =>
  simp only [expectP] at h
  split at h
  · simp at h
  · exact er_one h (by decide) (Or.inr ⟨t,by simp,rfl⟩)
theorem er_take (k:Int):ErrQ (takeP k):=fun l p c h=>by
 cases l with
 | nil=>exact er_one h (by decide) (Or.inl rfl)
 | cons t l =>
  simp only [takeP] at h
  split at h
  · simp at h
  · exact er_one h (by decide) (Or.inr ⟨t,by simp,rfl⟩)
theorem er_enter (s:ByteArray)(r:Nat):ErrQ (enterP s r):=fun l p c h=>by
 cases l with
 | nil=>exact er_one h (by decide) (Or.inl rfl)
 | cons t l =>
  simp only [enterP] at h
  split at h
  · split at h
    · exact er_one h (by decide) (Or.inr ⟨t,by simp,rfl⟩)
    · simp at h
  · exact er_one h (by decide) (Or.inr ⟨t,by simp,rfl⟩)
theorem er_ite {p:Prop}[Decidable p]{f g:Par α}(hf:ErrQ f)(hg:ErrQ g):ErrQ (if p then f else g):=by split<;>assumption
structure CE (f:Par α):Prop where
 less:Less f
 suf:Suf f
 er:ErrQ f
 cut:CutP f
 fin:EndP f
 fr:FrW f
theorem CE.bind {f:Par α}{g:α→Par β}(hf:CE f)(hg:∀a,CE (g a)):CE (Par.bind f g):=⟨Less.bind hf.less fun a=>(hg a).less,Suf.bind hf.suf fun a=>(hg a).suf,ErrQ.bind hf.er hf.suf fun a=>(hg a).er,hf.cut.bind (fun a=>(hg a).cut) (fun a=>(hg a).fin),hf.fin.bind fun a=>(hg a).fin,hf.fr.bind (fun a=>(hg a).fr) fun a=>(hg a).less⟩
theorem CE.pure (a:α):CE (Par.pure a):=⟨Less.pure a,Suf.pure a,ErrQ.pure a,CutP.pure a,EndP.pure a,FrW.pure a⟩
theorem CE.fail:CE (failP:Par α):=⟨less_fail,suf_fail,er_fail,CutP.fail,EndP.fail,FrW.fail⟩
theorem CE.many {step:α→Par (Option α)}(hs:Adv step)(h:∀a,CE (step a))(a:α):CE (many step a):=⟨Less.many (fun a=>(h a).less) a,Suf.many (fun a=>(h a).suf) a,ErrQ.many (fun a=>(h a).er) (fun a=>(h a).suf) a,CutP.many hs (fun a=>(h a).cut) (fun a=>(h a).fin) a,EndP.many hs (fun a=>(h a).fin) a,FrW.many hs (fun a=>(h a).less) (fun a=>(h a).fr) a⟩
theorem ce_isNext (s:ByteArray):CE (isNextP s):=⟨less_isNext s,suf_isNext s,er_isNext s,cut_isNext s,end_isNext s,fr_isNext s⟩
theorem ce_peek:CE peekP:=⟨less_peek,suf_peek,er_peek,cut_peek,end_peek,fr_peek⟩
theorem ce_skip (s:ByteArray)(hs:s≠none0):CE (skipP s):=⟨less_skip s,suf_skip s,er_skip s,cut_skip s hs,end_skip s hs,fr_skip s hs⟩
theorem ce_expect (s:ByteArray)(hs:s≠none0):CE (expectP s):=⟨less_expect s,suf_expect s,er_expect s,cut_expect s hs,end_expect s hs,(frs_expect s hs).weak⟩
theorem ce_take (k:Int)(hk:k≠4):CE (takeP k):=⟨less_take k,suf_take k,er_take k,cut_take k hk,end_take k hk,(frs_take k hk).weak⟩
theorem ce_enter (s:ByteArray)(r:Nat)(hs:s≠none0):CE (enterP s r):=⟨less_enter s r,suf_enter s r,er_enter s r,cut_enter s r hs,end_enter s r hs,(frs_enter s r hs).weak⟩
theorem CE.first {g:PT→Par β}(hless:∀t,Less (g t))(hsuf:∀t,Suf (g t))(her:∀t,ErrQ (g t))(hend:∀e,IsEnd e→g e [e]=.err e.at' 50)(hc:∀e,IsEnd e→∀t pre rest a l1,g t (t::pre++rest)=.ok a l1→CutR (g t) e (t::pre) rest a l1)
 (hf:∀e,IsEnd e→∀t pre a l',g t (t::pre++[e])=.ok a l'→∃pre',l'=pre'++[e]∧(pre'≠[]→∀rest,g t (t::pre++rest)=.ok a (pre'++rest))):CE (Par.bind peekP g) where
 less:=Less.bind less_peek hless
 suf:=Suf.bind suf_peek hsuf
 er:=ErrQ.bind er_peek suf_peek her
 fin:=fun e he=>Or.inl (hend e he)
 cut:=cut_first (fun e he=>Or.inl (hend e he)) hc
 fr:=fun e he pre a l1 h=>by
  cases pre with
  | nil =>
   have:g e [e]=.ok a l1:=h
   rw [hend e he] at this
   simp at this
  | cons t pre=>exact hf e he t pre a l1 h
theorem ce_word:CE wordP:=(ce_take _ (by decide)).bind fun _=>.pure _
theorem ce_number:CE numberP:=(ce_take _ (by decide)).bind fun _=>.pure _
theorem ce_times {fac:Par Ast}(h:CE fac)(a:Ast):CE (timesStep fac a):=(ce_skip _ (by decide)).bind fun b=>by
 cases b
 · exact .pure _
 · exact h.bind fun _=>.pure _
theorem ce_term {fac:Par Ast}(h:CE fac):CE (termP fac):=h.bind fun _=>.many (step_times h.less) (ce_times h) _
theorem ce_sum {fac:Par Ast}(h:CE fac)(a:Ast):CE (sumStep fac a):=(ce_skip _ (by decide)).bind fun b=>by
 cases b
 · refine (ce_skip _ (by decide)).bind fun b=>?_
   cases b
   · exact .pure _
   · exact (ce_term h).bind fun _=>.pure _
 · exact (ce_term h).bind fun _=>.pure _
theorem ce_exprP {fac:Par Ast}(h:CE fac):CE (exprP fac):=(ce_term h).bind fun _=>.many (step_sum h.less) (ce_sum h) _
theorem ce_factorOf (r:Nat){fac:Par Ast}(h:CE fac):CE (factorOf r fac):=by
 have hb:CE (bracketP r (exprP fac)):=(ce_enter _ _ (by decide)).bind fun _=>(ce_exprP h).bind fun _=>(ce_expect _ (by decide)).bind fun _=>.pure _
 have hn:CE (negP r fac):=(ce_enter _ _ (by decide)).bind fun _=>h.bind fun _=>.pure _
 refine CE.first (fun t=>?_) (fun t=>?_) (fun t=>?_) (fun e he=>?_) (fun e he t pre rest a l1 hx=>?_) (fun e he t pre a l1 hx=>?_)
 · exact less_ite less_number (less_ite (Less.bind less_next fun _=>Less.pure _) (less_ite hb.less (less_ite hn.less less_fail)))
 · exact suf_ite ce_number.suf (suf_ite (Suf.bind suf_next fun _=>Suf.pure _) (suf_ite hb.suf (suf_ite hn.suf suf_fail)))
 · exact er_ite ce_number.er (er_ite (ErrQ.bind er_next suf_next fun _=>ErrQ.pure _) (er_ite hb.er (er_ite hn.er er_fail)))
 · rw [if_neg (by rw [he.1];decide),if_neg (by rw [he.1];decide),if_neg (by rw [he.2];decide),if_neg (by rw [he.2];decide)]
   rfl
 · unfold CutR
   by_cases h1:t.kind=2
   · simp only [if_pos h1] at hx ⊢;exact ce_number.cut e he _ rest a l1 hx
   · simp only [if_neg h1] at hx ⊢
     by_cases h2:t.kind=1
     · simp only [if_pos h2] at hx ⊢;exact cut_next he (CutP.pure _) hx
     · simp only [if_neg h2] at hx ⊢
       by_cases h3:t.txt=⟨#[40]⟩
       · simp only [if_pos h3] at hx ⊢;exact hb.cut e he _ rest a l1 hx
       · simp only [if_neg h3] at hx ⊢
         by_cases h4:t.txt=⟨#[45]⟩
         · simp only [if_pos h4] at hx ⊢;exact hn.cut e he _ rest a l1 hx
         · simp only [if_neg h4] at hx ⊢;exact CutP.fail e he _ rest a l1 hx
 · by_cases h1:t.kind=2
   · simp only [if_pos h1] at hx ⊢;exact ce_number.fr e he _ a l1 hx
   · simp only [if_neg h1] at hx ⊢
     by_cases h2:t.kind=1
     · simp only [if_pos h2] at hx ⊢;exact FrW.pure _ e he pre a l1 hx
     · simp only [if_neg h2] at hx ⊢
       by_cases h3:t.txt=⟨#[40]⟩
       · simp only [if_pos h3] at hx ⊢;exact hb.fr e he _ a l1 hx
       · simp only [if_neg h3] at hx ⊢
         by_cases h4:t.txt=⟨#[45]⟩
         · simp only [if_pos h4] at hx ⊢;exact hn.fr e he _ a l1 hx
         · simp only [if_neg h4] at hx ⊢;exact FrW.fail e he _ a l1 hx
theorem ce_factor (r:Nat):CE (factorP r):=by
 induction r with
 | zero=>exact ce_factorOf 0 .fail
 | succ r ih=>exact ce_factorOf (r+1) ih
theorem ce_expr (r:Nat):CE (exprR r):=ce_exprP (ce_factor r)
theorem ce_wordsStep (ks:List Ast):CE (wordsStep ks):=(ce_skip _ (by decide)).bind fun b=>by
 cases b
 · exact .pure _
 · exact ce_word.bind fun _=>.pure _
theorem ce_words:CE wordsP:=ce_word.bind fun _=>.many step_words ce_wordsStep _
theorem ce_rowOf (r:Nat)(t:PT):CE (rowOfP r t):=(ce_enter _ _ (by decide)).bind fun _=>(ce_expr _).bind fun _=>(ce_expect _ (by decide)).bind fun _=>.pure _
theorem ce_row (r:Nat):CE (rowP r):=(ce_take _ (by decide)).bind fun _=>ce_rowOf r _
theorem ce_cell (r:Nat):CE (cellP r):=(ce_row r).bind fun _=>(ce_expect _ (by decide)).bind fun _=>ce_word.bind fun _=>.pure _
theorem ce_endP (a:Ast):CE (endP a):=(ce_expect _ (by decide)).bind fun _=>.pure _
theorem ce_read (r p:Nat):CE (readP r p):=(ce_take _ (by decide)).bind fun _=>(ce_expect _ (by decide)).bind fun _=>(ce_cell r).bind fun _=>(ce_skip _ (by decide)).bind fun b=>by
 cases b
 · exact ce_endP _
 · exact (ce_expect _ (by decide)).bind fun _=>ce_endP _
theorem ce_set (r p:Nat):CE (setP r p):=(ce_cell r).bind fun _=>(ce_expect _ (by decide)).bind fun _=>(ce_expr r).bind fun _=>ce_endP _
theorem ce_putStep (r:Nat)(ks:List Ast):CE (putStep r ks):=(ce_skip _ (by decide)).bind fun b=>by
 cases b
 · exact .pure _
 · exact (ce_expr r).bind fun _=>.pure _
theorem ce_put (r p:Nat):CE (putP r p):=(ce_row r).bind fun _=>(ce_expect _ (by decide)).bind fun _=>(ce_expr r).bind fun _=>(CE.many (step_put r) (ce_putStep r) _).bind fun _=>(ce_expect _ (by decide)).bind fun _=>ce_endP _
theorem ce_delete (r p:Nat):CE (deleteP r p):=(ce_row r).bind fun _=>ce_endP _
theorem ce_scan (p:Nat):CE (scanP p):=(ce_take _ (by decide)).bind fun _=>(ce_expect _ (by decide)).bind fun _=>ce_word.bind fun _=>(ce_expect _ (by decide)).bind fun _=>ce_word.bind fun _=>ce_endP _
theorem ce_lock (p:Nat):CE (lockP p):=ce_word.bind fun _=>(ce_skip _ (by decide)).bind fun b=>by
 cases b
 · exact (ce_expect _ (by decide)).bind fun _=>ce_endP _
 · exact ce_endP _
theorem ce_release (r p:Nat):CE (releaseP r p):=(ce_take _ (by decide)).bind fun _=>(ce_isNext _).bind fun b=>by
 cases b
 · exact ce_endP _
 · exact (ce_rowOf r _).bind fun _=>ce_endP _
theorem ce_ifTail {B:Par Ast}(h:CE B)(p:Nat)(n:Int)(a b:Ast):CE (ifTail B p n a b):=h.bind fun _=>(ce_skip _ (by decide)).bind fun b=>by
 cases b
 · exact .pure _
 · exact h.bind fun _=>.pure _
theorem ce_if (r:Nat){B:Par Ast}(h:CE B)(p:Nat):CE (ifP r B p):=(ce_expr r).bind fun _=>(ce_skip _ (by decide)).bind fun b=>by
 cases b
 · exact (ce_expect _ (by decide)).bind fun _=>(ce_expr r).bind fun _=>ce_ifTail h p _ _ _
 · exact (ce_expr r).bind fun _=>ce_ifTail h p _ _ _
theorem ce_for {B:Par Ast}(h:CE B)(p:Nat):CE (forP B p):=(ce_take _ (by decide)).bind fun _=>(ce_expect _ (by decide)).bind fun _=>ce_number.bind fun _=>(ce_expect _ (by decide)).bind fun _=>ce_number.bind fun _=>h.bind fun _=>.pure _
theorem ce_let (r p:Nat):CE (letP r p):=(ce_take _ (by decide)).bind fun _=>(ce_expect _ (by decide)).bind fun _=>(ce_expr r).bind fun _=>ce_endP _
theorem ce_emit (r p:Nat):CE (emitP r p):=(ce_expr r).bind fun _=>ce_endP _
theorem ce_rest (r:Nat){B:Par Ast}(h:CE B)(j p:Nat):CE (restP r B j p):=by
 unfold restP
 split
 · exact ce_read r p
 · exact ce_set r p
 · exact ce_put r p
 · exact ce_delete r p
 · exact ce_scan p
 · exact ce_lock p
 · exact ce_release r p
 · exact ce_if r h p
 · exact ce_for h p
 · exact ce_let r p
 · exact ce_emit r p
 · exact ce_endP _
 · exact ce_endP _
 · exact .fail
theorem ce_stmt (r:Nat){B:Par Ast}(h:CE B):CE (stmtP r B):=by
 refine CE.first (fun t=>?_) (fun t=>?_) (fun t=>?_) (fun e he=>?_) (fun e he t pre rest a l1 hx=>?_) (fun e he t pre a l1 hx=>?_)
 · exact less_ite (Less.bind less_next fun u=>(ce_rest r h _ _).less) less_fail
 · exact suf_ite (Suf.bind suf_next fun u=>(ce_rest r h _ _).suf) suf_fail
 · exact er_ite (ErrQ.bind er_next suf_next fun u=>(ce_rest r h _ _).er) er_fail
 · rw [if_neg (by rw [he.2];decide)];rfl
 · unfold CutR
   by_cases h1:words13.idxOf t.txt<13
   · simp only [if_pos h1] at hx ⊢;exact cut_next he (ce_rest r h _ _).cut hx
   · simp only [if_neg h1] at hx ⊢;exact CutP.fail e he _ rest a l1 hx
 · by_cases h1:words13.idxOf t.txt<13
   · simp only [if_pos h1] at hx ⊢;exact (ce_rest r h _ _).fr e he pre a l1 hx
   · simp only [if_neg h1] at hx ⊢;exact FrW.fail e he _ a l1 hx
theorem ce_blockStep {st:Par Ast}(h:CE st)(ks:List Ast):CE (blockStep st ks):=(ce_isNext _).bind fun b=>by
 cases b
 · exact h.bind fun _=>.pure _
 · exact .pure _
theorem ce_blockOf (r:Nat){st:Par Ast}(h:CE st)(ht:Takes st):CE (blockOf r st):=(ce_enter _ _ (by decide)).bind fun _=>(CE.many (step_block ht) (ce_blockStep h) _).bind fun _=>(ce_expect _ (by decide)).bind fun _=>.pure _
theorem ce_block (r:Nat):CE (blockP r):=by
 induction r with
 | zero=>exact ce_blockOf 0 .fail takes_fail
 | succ r ih=>exact ce_blockOf (r+1) (ce_stmt r ih) (takes_stmt r ih.less)
theorem ce_names:CE namesP:=ce_peek.bind fun _=>(ce_isNext _).bind fun b=>by
 cases b
 · exact ce_words.bind fun _=>.pure _
 · exact .pure _
theorem ce_table:CE tableP:=(ce_expect _ (by decide)).bind fun _=>(ce_take _ (by decide)).bind fun _=>(ce_expect _ (by decide)).bind fun _=>ce_words.bind fun _=>(ce_expect _ (by decide)).bind fun _=>ce_endP _
theorem ce_proc:CE procP:=(ce_expect _ (by decide)).bind fun _=>(ce_take _ (by decide)).bind fun _=>(ce_expect _ (by decide)).bind fun _=>ce_names.bind fun _=>(ce_expect _ (by decide)).bind fun _=>(ce_skip _ (by decide)).bind fun b=>by
 cases b
 · exact (ce_block 64).bind fun _=>.pure _
 · exact (ce_block 64).bind fun _=>.pure _
theorem ce_progStep (ks:List Ast):CE (progStep ks):=ce_peek.bind fun t=>by
 by_cases h:t.kind=4
 · simp only [if_pos h];exact .pure _
 · simp only [if_neg h]
   refine (ce_isNext _).bind fun b=>?_
   cases b
   · exact ce_proc.bind fun _=>.pure _
   · exact ce_table.bind fun _=>.pure _
theorem ce_program:CE programP:=ce_peek.bind fun _=>(CE.many step_prog ce_progStep _).bind fun _=>.pure _
theorem program_cut {e:PT}(he:IsEnd e){pre rest:List PT}{a:Ast}{l1:List PT}(h:programP (pre++rest)=.ok a l1):programP (pre++[e])=.err e.at' 50∨∃b l2,programP (pre++[e])=.ok b l2:=by
 rcases ce_program.cut e he pre rest a l1 h with ⟨pre',_,h1⟩|h1|⟨b,h1⟩
 · exact Or.inr ⟨_,_,h1⟩
 · exact Or.inl h1
 · exact Or.inr ⟨_,_,h1⟩
end
end
end Go.Proofs.YthdioipfdbbmmaaGreatDoor
