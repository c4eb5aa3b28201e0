/- Contracts. -/
import Derived.Test.YthdioipfdbbmmaaGreatDoorHab
import Derived.Test.YthdioipfdbbmmaaGreatDoorHac
import Derived.Test.YthdioipfdbbmmaaGreatDoorHak
import Derived.Test.YthdioipfdbbmmaaGreatDoorHas
import Derived.Test.YthdioipfdbbmmaaGreatDoorHay
import Derived.Recover
import Derived.Defers
import Derived.Lib.ConvBytes
set_option linter.all false
set_option maxRecDepth 1000000
set_option maxHeartbeats 16000000
namespace Go.Proofs.YthdioipfdbbmmaaGreatDoor
section
open Tr
def Ast.kind:Ast→Int|.mk k _ _ _ _=>k
def Ast.txt:Ast→ByteArray|.mk _ _ t _ _=>t
def Ast.num:Ast→Int|.mk _ _ _ n _=>n
def Ast.kids:Ast→List Ast|.mk _ _ _ _ ks=>ks
mutual
def szs:Ast→List Nat
 | .mk _ _ _ _ ks=>(sizeL ks+1)::szsL ks
def szsL:List Ast→List Nat
 | []=>[]
 | x::r=>szs x++szsL r
end
mutual
theorem szs_length:∀a:Ast,(szs a).length=a.size
 | .mk k a t n ks=>by simp only [szs,List.length_cons,szsL_length ks,Ast.size]
theorem szsL_length:∀l:List Ast,(szsL l).length=sizeL l
 | []=>by simp [szsL,sizeL]
 | x::r=>by simp only [szsL,List.length_append,szs_length x,szsL_length r,sizeL]
end
theorem szs_head (a:Ast):∃r,szs a=a.size::r:=by
 cases a with
 | mk k p t n ks=>exact ⟨_,rfl⟩
theorem ast_pos (a:Ast):0<a.size:=by cases a with|mk k p t n ks=>simp [Ast.size]
theorem step_heads (b:Nat)(s:List Nat):∀(ks:List Ast) (pre:List Nat),stepS (pre++szsL ks++s) b (heads (b+pre.length) ks) (b+pre.length)=some (b+pre.length+sizeL ks)
 | [],pre=>by simp [heads,stepS,sizeL]
 | x::r,pre=>by
  obtain ⟨q,hq⟩:=szs_head x
  have hp:=ast_pos x
  have hl:=szs_length x
  simp only [heads,stepS,szsL,sizeL]
  rw [if_pos ⟨trivial,by simp only [List.length_append,hl];omega⟩]
  have hg:(pre++(szs x++szsL r)++s).getD (b+pre.length-b) 0=x.size:=by
   rw [Nat.add_sub_cancel_left,hq]
   simp [List.getD]
  rw [hg]
  have:=step_heads b s r (pre++szs x)
  rw [List.length_append,hl] at this
  rw [show pre++(szs x++szsL r)++s=pre++szs x++szsL r++s by simp only [List.append_assoc],show b+pre.length+x.size=b+(pre.length+x.size) by omega]
  rw [this]
  congr 1;omega
mutual
theorem sizes_flat (s:List Nat)(rs:List (List Int)):∀(a:Ast) (o:Nat),sizesL rs (o+a.size)=some s→sizesL ((flat o a).map (·.kids)++rs) o=some (szs a++s)
 | .mk k p t n ks,o,h=>by
  simp only [Ast.size] at h
  have h1:=sizes_flatL s rs ks (o+1) (by rw [show o+1+sizeL ks=o+(sizeL ks+1) by omega];exact h)
  simp only [flat,List.map_cons,List.cons_append,sizesL,h1]
  have h2:=step_heads (o+1) s ks []
  simp only [List.nil_append,List.length_nil,Nat.add_zero] at h2
  simp only [h2,szs,List.cons_append]
  congr 2;omega
theorem sizes_flatL (s:List Nat)(rs:List (List Int)):∀(l:List Ast) (o:Nat),sizesL rs (o+sizeL l)=some s→sizesL ((flatL o l).map (·.kids)++rs) o=some (szsL l++s)
 | [],o,h=>by simpa [flatL,szsL,sizeL] using h
 | x::r,o,h=>by
  simp only [sizeL] at h
  simp only [flatL,List.map_append,List.append_assoc,szsL]
  exact sizes_flat _ _ x o (sizes_flatL s rs r (o+x.size) (by rw [Nat.add_assoc];exact h))
end
theorem sizesP_flat (a:Ast):sizesP (flat 0 a)=some (szs a):=by
 have h:=sizes_flat [] [] a 0 (by simp [sizesL])
 simp only [List.append_nil] at h
 unfold sizesP
 rw [show rowsOf (flat 0 a)=(flat 0 a).map (·.kids) from rfl,h]
 simp only
 obtain ⟨r,hr⟩:=szs_head a
 have hl:=szs_length a
 have hp:=ast_pos a
 rw [if_pos ⟨by omega,by rw [hl,hr];rfl⟩]
def Lies (t:List Nd)(o:Nat)(x:Ast):Prop:=∃pre post,t=pre++flat o x++post∧pre.length=o
def LiesL (t:List Nd)(o:Nat)(l:List Ast):Prop:=∃pre post,t=pre++flatL o l++post∧pre.length=o
theorem Lies.whole (a:Ast):Lies (flat 0 a) 0 a:=⟨[],[],by simp,rfl⟩
theorem Lies.node {t:List Nd}{o:Nat}{k:Int}{a:Nat}{s:ByteArray}{n:Int}{ks:List Ast}(h:Lies t o (.mk k a s n ks)):t.getD o default=⟨k,a,s,n,heads (o+1) ks⟩∧o<t.length:=by
 obtain ⟨pre,post,rfl,rfl⟩:=h
 simp [flat,List.getD]
theorem Lies.kids {t:List Nd}{o:Nat}{k:Int}{a:Nat}{s:ByteArray}{n:Int}{ks:List Ast}(h:Lies t o (.mk k a s n ks)):LiesL t (o+1) ks:=by
 obtain ⟨pre,post,rfl,rfl⟩:=h
 exact ⟨pre++[⟨k,a,s,n,heads (pre.length+1) ks⟩],post,by simp [flat],by simp⟩
theorem LiesL.head {t:List Nd}{o:Nat}{x:Ast}{r:List Ast}(h:LiesL t o (x::r)):Lies t o x∧LiesL t (o+x.size) r:=by
 obtain ⟨pre,post,rfl,rfl⟩:=h
 refine ⟨⟨pre,flatL (pre.length+x.size) r++post,by simp [flatL],rfl⟩,⟨pre++flat pre.length x,post,by simp [flatL],by simp [flat_length]⟩⟩
theorem Lies.kindAt {t:List Nd}{o:Nat}{x:Ast}(h:Lies t o x):kindAt t o=x.kind:=by
 cases x with
 | mk k a s n ks=>unfold Tr.kindAt;rw [h.node.1];rfl
theorem kinds_heads {t:List Nd}:∀(ks:List Ast) (o:Nat),LiesL t o ks→(heads o ks).map (fun k=>Tr.kindAt t k.toNat)=ks.map Ast.kind
 | [],o,_=>rfl
 | x::r,o,h=>by
  obtain ⟨h1,h2⟩:=h.head
  simp only [heads,List.map_cons,Int.toNat_natCast,h1.kindAt,kinds_heads r _ h2]
def nodeW (k:Int)(s:ByteArray)(n:Int)(l:List Int):Bool:=match ruleOf k with
 | none=>false
 | some r=>textOk r.named s&&(decide (0≤n)&&(decide (n≤r.most)&&inTurnP r.parts l))
mutual
def wf:Ast→Prop
 | .mk k _ s n ks=>nodeW k s n (ks.map Ast.kind)=true∧wfL ks
def wfL:List Ast→Prop
 | []=>True
 | x::r=>wf x∧wfL r
end
theorem nodeOk_iff {t:List Nd}{o:Nat}{k:Int}{a:Nat}{s:ByteArray}{n:Int}{ks:List Ast}(h:Lies t o (.mk k a s n ks)):nodeOk t ⟨k,a,s,n,heads (o+1) ks⟩=nodeW k s n (ks.map Ast.kind):=by
 have hk:kindsOf t ⟨k,a,s,n,heads (o+1) ks⟩=ks.map Ast.kind:=kinds_heads ks (o+1) h.kids
 unfold nodeOk nodeW
 rw [hk]
 cases ruleOf k with
 | none=>rfl
 | some r=>rfl
mutual
theorem wf_nodes {t:List Nd}:∀(x:Ast) (o:Nat),Lies t o x→(wf x↔∀nd∈flat o x,nodeOk t nd=true)
 | .mk k a s n ks,o,h=>by
  have h1:=wf_nodesL ks (o+1) h.kids
  simp only [wf,flat,List.mem_cons,forall_eq_or_imp,nodeOk_iff h,h1]
theorem wf_nodesL {t:List Nd}:∀(l:List Ast) (o:Nat),LiesL t o l→(wfL l↔∀nd∈flatL o l,nodeOk t nd=true)
 | [],o,_=>by simp [wfL,flatL]
 | x::r,o,h=>by
  obtain ⟨h1,h2⟩:=h.head
  have e1:=wf_nodes x o h1
  have e2:=wf_nodesL r _ h2
  simp only [wfL,flatL,List.mem_append,e1,e2]
  constructor
  · rintro ⟨g1,g2⟩ nd (hm|hm)
    · exact g1 nd hm
    · exact g2 nd hm
  · exact fun g=>⟨fun nd hm=>g nd (Or.inl hm),fun nd hm=>g nd (Or.inr hm)⟩
end
theorem right_flat (a:Ast):rightP (flat 0 a)=true↔a.kind=1∧wf a:=by
 unfold rightP
 rw [sizesP_flat]
 have h0:=(Lies.whole a).kindAt
 have h1:=wf_nodes a 0 (Lies.whole a)
 simp only [h0,Bool.and_eq_true,beq_iff_eq,ruledP,List.all_eq_true,h1]
end
section
open Tr Par
def nodeRW (k:Int)(s:ByteArray)(n:Int)(l:List Int):Bool:=decide (1≤k)&&(decide (k≤26)&&(wordsR ⟨k,0,s,n,[]⟩&&kidsR k l))
theorem kinds_row (l:List Int):kindsOf (l.map fun k=>(⟨k,0,⟨#[]⟩,0,[]⟩:Nd)) ⟨0,0,⟨#[]⟩,0,(List.range l.length).map fun i:Nat=>(i:Int)⟩=l:=by
 unfold kindsOf
 simp only [List.map_map]
 refine List.ext_getElem (by simp) fun i h1 h2=>?_
 simp only [List.getElem_map,List.getElem_range,Function.comp,Int.toNat_natCast]
 unfold kindAt
 simp only [List.length_map,List.length_range] at h1
 simp [List.getD,h2]
theorem nodeW_eq (k:Int)(s:ByteArray)(n:Int)(l:List Int)(hl:l.length≤9223372036854775807):nodeW k s n l=nodeRW k s n l:=by
 have h:=nodeOk_eq (l.map fun k=>(⟨k,0,⟨#[]⟩,0,[]⟩:Nd)) ⟨k,0,s,n,(List.range l.length).map fun i:Nat=>(i:Int)⟩ (by simpa using hl)
 have hk:kindsOf (l.map fun k=>(⟨k,0,⟨#[]⟩,0,[]⟩:Nd)) ⟨k,0,s,n,(List.range l.length).map fun i:Nat=>(i:Int)⟩=l:=kinds_row l
 unfold nodeOk nodeR at h
 rw [hk] at h
 exact h
mutual
def wfR:Ast→Prop
 | .mk k _ s n ks=>(nodeRW k s n (ks.map Ast.kind)=true∧s.size≤70000)∧wfRL ks
def wfRL:List Ast→Prop
 | []=>True
 | x::r=>wfR x∧wfRL r
end
theorem wfRL_of {l:List Ast}(h:∀x∈l,wfR x):wfRL l:=by
 induction l with
 | nil=>trivial
 | cons y r ih=>exact ⟨h y (by simp),ih fun x hx=>h x (by simp [hx])⟩
theorem len_sizeL (l:List Ast):l.length≤sizeL l:=by
 induction l with
 | nil=>simp [sizeL]
 | cons x r ih=>have:=ast_pos x;simp only [List.length_cons,sizeL];omega
mutual
theorem wf_of:∀a:Ast,a.size≤70000→wfR a→wf a
 | .mk k p s n ks,h,hw=>by
  simp only [Ast.size] at h
  have h1:=len_sizeL ks
  exact ⟨by rw [nodeW_eq k s n (ks.map Ast.kind) (by simp;omega)];exact hw.1.1,wf_ofL ks (by omega) hw.2⟩
theorem wf_ofL:∀l:List Ast,sizeL l≤70000→wfRL l→wfL l
 | [],_,_=>trivial
 | x::r,h,hw=>by
  simp only [sizeL] at h
  exact ⟨wf_of x (by omega) hw.1,wf_ofL r (by omega) hw.2⟩
end
mutual
theorem texts_few (o:Nat):∀a:Ast,wfR a→∀nd∈flat o a,nd.text.size≤70000
 | .mk k p s n ks,h,nd,hnd=>by
  simp only [flat,List.mem_cons] at hnd
  rcases hnd with rfl|hnd
  · exact h.1.2
  · exact texts_fewL (o+1) ks h.2 nd hnd
theorem texts_fewL (o:Nat):∀l:List Ast,wfRL l→∀nd∈flatL o l,nd.text.size≤70000
 | [],_,nd,hnd=>by simp [flatL] at hnd
 | x::r,h,nd,hnd=>by
  simp only [flatL,List.mem_append] at hnd
  rcases hnd with hnd|hnd
  · exact texts_few o x h.1 nd hnd
  · exact texts_fewL _ r h.2 nd hnd
end
theorem right_flatR (a:Ast)(h:a.size≤70000)(hk:a.kind=1)(hw:wfR a):rightP (flat 0 a)=true:=(right_flat a).2 ⟨hk,wf_of a h hw⟩
structure GoodP (t:PT):Prop where
 name:t.kind=1→namesF (bytesI t.txt)=true∧t.txt.size≤70000
 num:t.kind=2→0≤t.n∧t.n≤2147483647
def GL (l:List PT):Prop:=∀t∈l,GoodP t
theorem GL.tail {t:PT}{l:List PT}(h:GL (t::l)):GL l:=fun u hu=>h u (by simp [hu])
def Gd {α:Type}(f:Par α)(P:α→Prop):Prop:=∀l,GL l→∀a l',f l=.ok a l'→P a∧GL l'
section
variable {α β:Type}
theorem Gd.pure {a:α}{P:α→Prop}(h:P a):Gd (Par.pure a) P:=fun l hl b l' e=>by
 simp only [Par.pure,Res.ok.injEq] at e
 obtain ⟨rfl,rfl⟩:=e
 exact ⟨h,hl⟩
theorem Gd.bind {f:Par α}{g:α→Par β}{P:α→Prop}{Q:β→Prop}(hf:Gd f P)(hg:∀a,P a→Gd (g a) Q):Gd (Par.bind f g) Q:=fun l hl b l' e=>by
 simp only [Par.bind] at e
 cases hfl:f l with
 | err p c=>rw [hfl] at e;simp at e
 | ok a l1 =>
  rw [hfl] at e
  obtain ⟨h1,h2⟩:=hf l hl a l1 hfl
  exact hg a h1 l1 h2 b l' e
theorem Gd.mono {f:Par α}{P Q:α→Prop}(hf:Gd f P)(h:∀a,P a→Q a):Gd f Q:=fun l hl a l' e=>⟨h a (hf l hl a l' e).1,(hf l hl a l' e).2⟩
theorem Gd.loop {step:α→Par (Option α)}{P:α→Prop}(hs:∀a,P a→Gd (step a) fun o=>∀b,o=some b→P b):∀(m:Nat) (a:α),P a→Gd (Par.loop step m a) P
 | 0,a,_=>fun l _ b l' e=>by simp [Par.loop] at e
 | m+1,a,ha=>by
  refine Gd.bind (hs a ha) fun o ho=>?_
  cases o with
  | none=>exact Gd.pure ha
  | some b=>exact Gd.loop hs m b (ho b rfl)
theorem Gd.many {step:α→Par (Option α)}{P:α→Prop}(hs:∀a,P a→Gd (step a) fun o=>∀b,o=some b→P b)(a:α)(ha:P a):Gd (Par.many step a) P:=fun l=>Gd.loop hs (l.length+1) a ha l
theorem gd_isNext (s:ByteArray):Gd (isNextP s) fun _=>True:=fun l hl b l' e=>by
 cases l with
 | nil=>simp [isNextP] at e
 | cons t l=>simp only [isNextP,Res.ok.injEq] at e;rw [← e.2];exact ⟨trivial,hl⟩
theorem gd_skip (s:ByteArray):Gd (skipP s) fun _=>True:=fun l hl b l' e=>by
 cases l with
 | nil=>simp [skipP] at e
 | cons t l =>
  simp only [skipP] at e
  split at e
  · simp only [Res.ok.injEq] at e;rw [← e.2];exact ⟨trivial,hl.tail⟩
  · simp only [Res.ok.injEq] at e;rw [← e.2];exact ⟨trivial,hl⟩
theorem gd_expect (s:ByteArray):Gd (expectP s) fun _=>True:=fun l hl b l' e=>by
 cases l with
 | nil=>simp [expectP] at e
 | cons t l =>
  simp only [expectP] at e
  split at e
  · simp only [Res.ok.injEq] at e;rw [← e.2];exact ⟨trivial,hl.tail⟩
  · simp at e
theorem gd_take (k:Int):Gd (takeP k) fun t=>t.kind=k∧GoodP t:=fun l hl b l' e=>by
 cases l with
 | nil=>simp [takeP] at e
 | cons t l =>
  simp only [takeP] at e
  split at e
  · rename_i hk
    simp only [Res.ok.injEq] at e
    obtain ⟨rfl,rfl⟩:=e
    exact ⟨⟨hk,hl _ (by simp)⟩,hl.tail⟩
  · simp at e
theorem gd_peek:Gd peekP GoodP:=fun l hl b l' e=>by
 cases l with
 | nil=>simp [peekP] at e
 | cons t l =>
  simp only [peekP,Res.ok.injEq] at e
  obtain ⟨rfl,rfl⟩:=e
  exact ⟨hl _ (by simp),hl⟩
theorem gd_enter (s:ByteArray)(r:Nat):Gd (enterP s r) fun _=>True:=fun l hl b l' e=>by
 cases l with
 | nil=>simp [enterP] at e
 | cons t l =>
  simp only [enterP] at e
  split at e
  · split at e
    · simp at e
    · simp only [Res.ok.injEq] at e;rw [← e.2];exact ⟨trivial,hl.tail⟩
  · simp at e
theorem gd_fail {P:α→Prop}:Gd (failP:Par α) P:=fun l hl b l' e=>by cases l<;>simp [failP] at e
end
def isE (a:Ast):Prop:=wfR a∧isExprK a.kind=true
def isK (k:Int)(a:Ast):Prop:=wfR a∧a.kind=k
def isSt (a:Ast):Prop:=wfR a∧isStmtK a.kind=true
theorem none_named:namesF (bytesI none0)=false:=by decide
theorem wf_plain {k n:Int}{p:Nat}{ks:List Ast}(h1:1≤k)(h2:k≤26)(hn:namedR k=false)(h0:0≤n)(hm:n≤mostR k)(hk:kidsR k (ks.map Ast.kind)=true)(hs:∀x∈ks,wfR x):wfR (.mk k p none0 n ks):=by
 refine ⟨⟨?_,by decide⟩,wfRL_of hs⟩
 simp only [nodeRW,wordsR,hn,none_named,hk,decide_eq_true h1,decide_eq_true h2,decide_eq_true h0,decide_eq_true hm,show decide (none0.size=0)=true by decide]
 rfl
theorem wf_named {k n:Int}{p:Nat}{s:ByteArray}{ks:List Ast}(h1:1≤k)(h2:k≤26)(hn:namedR k=true)(ht:namesF (bytesI s)=true∧s.size≤70000)(h0:0≤n)(hm:n≤mostR k)(hk:kidsR k (ks.map Ast.kind)=true)(hs:∀x∈ks,wfR x):wfR (.mk k p s n ks):=by
 refine ⟨⟨?_,ht.2⟩,wfRL_of hs⟩
 simp only [nodeRW,wordsR,hn,ht.1,hk,decide_eq_true h1,decide_eq_true h2,decide_eq_true h0,decide_eq_true hm]
 simp
end
section
open Tr Par
theorem gd_some {α:Type}{a:α}{P:α→Prop}(h:P a):Gd (Par.pure (some a)) fun o=>∀b,o=some b→P b:=Gd.pure fun b e=>by cases e;exact h
theorem gd_none {α:Type}{P:α→Prop}:Gd (Par.pure (none:Option α)) fun o=>∀b,o=some b→P b:=Gd.pure fun b e=>by cases e
theorem mem_snoc {P:Ast→Prop}{ks:List Ast}{x:Ast}(h:∀y∈ks,P y)(hx:P x):∀y∈ks++[x],P y:=fun y hy=>by
 rcases List.mem_append.1 hy with hy|hy
 · exact h y hy
 · rw [List.mem_singleton.1 hy];exact hx
theorem gd_word:Gd wordP (isK 5):=Gd.bind (gd_take 1) fun t ht=>Gd.pure ⟨wf_named (by decide) (by decide) rfl (ht.2.name ht.1) (by decide) (by decide) rfl (by simp),rfl⟩
theorem gd_number:Gd numberP (isK 21):=Gd.bind (gd_take 2) fun t ht=>Gd.pure ⟨wf_plain (by decide) (by decide) rfl (ht.2.num ht.1).1 (ht.2.num ht.1).2 rfl (by simp),rfl⟩
theorem isE_num {a:Ast}(h:isK 21 a):isE a:=⟨h.1,by rw [h.2];rfl⟩
theorem isE_both {k:Int}(hk:k=23∨k=24∨k=25){a b:Ast}(ha:isE a)(hb:isE b):isE (bothA k a b):=by
 have hks:kidsR k ([a,b].map Ast.kind)=true:=by
  rcases hk with rfl|rfl|rfl<;>simp [kidsR,isR,ha.2,hb.2]
 refine ⟨wf_plain (by omega) (by omega) (by rcases hk with rfl|rfl|rfl<;>rfl) (by omega) (by rcases hk with rfl|rfl|rfl<;>decide) hks (by simp [ha.1,hb.1]),?_⟩
 rcases hk with rfl|rfl|rfl<;>rfl
theorem gd_times {fac:Par Ast}(h:Gd fac isE)(a:Ast)(ha:isE a):Gd (timesStep fac a) fun o=>∀b,o=some b→isE b:=Gd.bind (gd_skip _) fun b _=>by
 cases b with
 | true=>exact Gd.bind h fun b hb=>Gd.pure fun x e=>by simp only [Option.some.injEq] at e;subst e;exact isE_both (by decide) ha hb
 | false=>exact Gd.pure fun x e=>by simp at e
theorem gd_term {fac:Par Ast}(h:Gd fac isE):Gd (termP fac) isE:=Gd.bind h fun a ha=>Gd.many (fun a ha=>gd_times h a ha) a ha
theorem gd_sum {fac:Par Ast}(h:Gd fac isE)(a:Ast)(ha:isE a):Gd (sumStep fac a) fun o=>∀b,o=some b→isE b:=Gd.bind (gd_skip _) fun b _=>by
 cases b with
 | true=>exact Gd.bind (gd_term h) fun b hb=>Gd.pure fun x e=>by simp only [Option.some.injEq] at e;subst e;exact isE_both (by decide) ha hb
 | false =>
  refine Gd.bind (gd_skip _) fun b _=>?_
  cases b with
  | true=>exact Gd.bind (gd_term h) fun b hb=>Gd.pure fun x e=>by simp only [Option.some.injEq] at e;subst e;exact isE_both (by decide) ha hb
  | false=>exact Gd.pure fun x e=>by simp at e
theorem gd_exprP {fac:Par Ast}(h:Gd fac isE):Gd (exprP fac) isE:=Gd.bind (gd_term h) fun a ha=>Gd.many (fun a ha=>gd_sum h a ha) a ha
theorem gd_peeked {β:Type}{g:PT→Par β}{P:β→Prop}(h:∀u l,GL (u::l)→∀a l',g u (u::l)=.ok a l'→P a∧GL l'):Gd (Par.bind peekP g) P:=fun l hl a l' e=>by
 cases l with
 | nil=>simp [Par.bind,peekP] at e
 | cons u l=>exact h u l hl a l' e
theorem gd_factorOf {r:Nat}{fac:Par Ast}(h:Gd fac isE):Gd (factorOf r fac) isE:=gd_peeked fun u l hl a l' e=>by
 split at e
 · exact (Gd.mono gd_number fun a ha=>isE_num ha) _ hl a l' e
 · split at e
   · rename_i hk
     simp only [Par.bind,nextP,Par.pure,Res.ok.injEq] at e
     obtain ⟨rfl,rfl⟩:=e
     exact ⟨⟨wf_named (by decide) (by decide) rfl ((hl u (by simp)).name hk) (by decide) (by decide) rfl (by simp),rfl⟩,hl.tail⟩
   · split at e
     · exact (show Gd (bracketP r (exprP fac)) isE from Gd.bind (gd_enter _ _) fun _ _=>Gd.bind (gd_exprP h) fun a ha=>Gd.bind (gd_expect _) fun _ _=>Gd.pure ha) _ hl a l' e
     · split at e
       · exact (show Gd (negP r fac) isE from Gd.bind (gd_enter _ _) fun p _=>Gd.bind h fun a ha=>Gd.pure ⟨wf_plain (by decide) (by decide) rfl (by decide) (by decide) (by simp [kidsR,isR,ha.2]) (by simp [ha.1]),rfl⟩) _ hl a l' e
       · exact gd_fail _ hl a l' e
theorem gd_factor:∀r,Gd (factorP r) isE
 | 0=>gd_factorOf gd_fail
 | r+1=>gd_factorOf (gd_factor r)
theorem gd_expr (r:Nat):Gd (exprR r) isE:=gd_exprP (gd_factor r)
def isW (ks:List Ast):Prop:=(∀x∈ks,isK 5 x)∧0<ks.length
theorem gd_words:Gd wordsP isW:=Gd.bind gd_word fun w hw=>Gd.many (fun ks hk=>Gd.bind (gd_skip _) fun b _=>match b with
 | true=>Gd.bind gd_word fun w hw=>gd_some ⟨mem_snoc hk.1 hw,by simp⟩
 | false=>gd_none) [w] ⟨fun y hy=>by rw [List.mem_singleton.1 hy];exact hw,by simp⟩
theorem gd_rowOf (r:Nat){t:PT}(ht:t.kind=1∧GoodP t):Gd (rowOfP r t) (isK 20):=Gd.bind (gd_enter _ _) fun _ _=>Gd.bind (gd_expr _) fun k hk=>Gd.bind (gd_expect _) fun _ _ =>
 Gd.pure ⟨wf_named (by decide) (by decide) rfl (ht.2.name ht.1) (by decide) (by decide) (by simp [kidsR,isR,hk.2]) (by simp [hk.1]),rfl⟩
theorem gd_row (r:Nat):Gd (rowP r) (isK 20):=Gd.bind (gd_take 1) fun t ht=>gd_rowOf r ht
theorem gd_cell (r:Nat):Gd (cellP r) fun x=>isK 20 x.1∧isK 5 x.2:=Gd.bind (gd_row r) fun a ha=>Gd.bind (gd_expect _) fun _ _=>Gd.bind gd_word fun b hb=>Gd.pure ⟨ha,hb⟩
theorem gd_end {a:Ast}{P:Ast→Prop}(h:P a):Gd (endP a) P:=Gd.bind (gd_expect _) fun _ _=>Gd.pure h
theorem gd_read (r p:Nat):Gd (readP r p) isSt:=Gd.bind (gd_take 1) fun t ht=>Gd.bind (gd_expect _) fun _ _=>Gd.bind (gd_cell r) fun rc hc=>Gd.bind (gd_skip _) fun b _=>by
 have hk:kidsR 7 ([rc.1,rc.2].map Ast.kind)=true:=by simp [kidsR,isR,hc.1.2,hc.2.2]
 cases b with
 | true=>exact Gd.bind (gd_expect _) fun _ _=>gd_end ⟨wf_named (by decide) (by decide) rfl (ht.2.name ht.1) (by decide) (by decide) hk (by simp [hc.1.1,hc.2.1]),rfl⟩
 | false=>exact gd_end ⟨wf_named (by decide) (by decide) rfl (ht.2.name ht.1) (by decide) (by decide) hk (by simp [hc.1.1,hc.2.1]),rfl⟩
theorem gd_set (r p:Nat):Gd (setP r p) isSt:=Gd.bind (gd_cell r) fun rc hc=>Gd.bind (gd_expect _) fun _ _=>Gd.bind (gd_expr r) fun v hv =>
 gd_end ⟨wf_plain (by decide) (by decide) rfl (by decide) (by decide) (by simp [kidsR,isR,hc.1.2,hc.2.2,hv.2]) (by simp [hc.1.1,hc.2.1,hv.1]),rfl⟩
def isPut (ks:List Ast):Prop:=∃a b es,ks=a::b::es∧isK 20 a∧isE b∧∀x∈es,isE x
theorem put_snoc {ks:List Ast}{w:Ast}(hk:isPut ks)(hw:isE w):isPut (ks++[w]):=by
 obtain ⟨a,b,es,rfl,h1,h2,h3⟩:=hk
 exact ⟨a,b,es++[w],rfl,h1,h2,mem_snoc h3 hw⟩
theorem gd_put (r p:Nat):Gd (putP r p) isSt:=Gd.bind (gd_row r) fun a ha=>Gd.bind (gd_expect _) fun _ _=>Gd.bind (gd_expr r) fun e he =>
 Gd.bind (P:=isPut) (Gd.many (P:=isPut) (step:=putStep r) (fun ks hk=>Gd.bind (gd_skip ⟨#[44]⟩) fun b _=>match b with
  | true=>Gd.bind (gd_expr r) fun w hw=>gd_some (put_snoc hk hw)
  | false=>gd_none) [a,e] ⟨a,e,[],rfl,ha,he,by simp⟩)
 fun ks hk=>Gd.bind (gd_expect _) fun _ _=>by
  obtain ⟨a,b,es,rfl,h1,h2,h3⟩:=hk
  refine gd_end ⟨wf_plain (by decide) (by decide) rfl (by decide) (by decide) ?_ ?_,rfl⟩
  · simp only [kidsR,List.map_cons,List.length_cons,List.length_map]
    have:(es.map Ast.kind).all isExprK=true:=by
     rw [List.all_eq_true]
     intro k hk
     obtain ⟨x,hx,rfl⟩:=List.mem_map.1 hk
     exact (h3 x hx).2
    simp [h1.2,h2.2]
    intro x hx
    exact (h3 x hx).2
  · intro x hx
    simp only [List.mem_cons] at hx
    rcases hx with rfl|rfl|hx
    · exact h1.1
    · exact h2.1
    · exact (h3 x hx).1
theorem gd_delete (r p:Nat):Gd (deleteP r p) isSt:=Gd.bind (gd_row r) fun a ha=>gd_end ⟨wf_plain (by decide) (by decide) rfl (by decide) (by decide) (by simp [kidsR,isR,ha.2]) (by simp [ha.1]),rfl⟩
theorem gd_scan (p:Nat):Gd (scanP p) isSt:=Gd.bind (gd_take 1) fun t ht=>Gd.bind (gd_expect _) fun _ _=>Gd.bind gd_word fun a ha=>Gd.bind (gd_expect _) fun _ _=>Gd.bind gd_word fun b hb =>
 gd_end ⟨wf_named (by decide) (by decide) rfl (ht.2.name ht.1) (by decide) (by decide) (by simp [kidsR,isR,ha.2,hb.2]) (by simp [ha.1,hb.1]),rfl⟩
theorem gd_lock (p:Nat):Gd (lockP p) isSt:=Gd.bind gd_word fun a ha=>Gd.bind (gd_skip _) fun b _=>by
 have hk:kidsR 12 ([a].map Ast.kind)=true:=by simp [kidsR,isR,ha.2]
 cases b with
 | true=>exact gd_end ⟨wf_plain (by decide) (by decide) rfl (by decide) (by decide) hk (by simp [ha.1]),rfl⟩
 | false=>exact Gd.bind (gd_expect _) fun _ _=>gd_end ⟨wf_plain (by decide) (by decide) rfl (by decide) (by decide) hk (by simp [ha.1]),rfl⟩
theorem gd_release (r p:Nat):Gd (releaseP r p) isSt:=Gd.bind (gd_take 1) fun t ht=>Gd.bind (gd_isNext _) fun b _=>by
 cases b with
 | true=>exact Gd.bind (gd_rowOf r ht) fun a ha=>gd_end ⟨wf_plain (by decide) (by decide) rfl (by decide) (by decide) (by simp [kidsR,isR,ha.2]) (by simp [ha.1]),rfl⟩
 | false =>
  have hw:isK 5 (wordA t):=⟨wf_named (by decide) (by decide) rfl (ht.2.name ht.1) (by decide) (by decide) rfl (by simp),rfl⟩
  exact gd_end ⟨wf_plain (by decide) (by decide) rfl (by decide) (by decide) (by simp [kidsR,isR,hw.2]) (by simp [hw.1]),rfl⟩
theorem gd_ifTail {B:Par Ast}(hB:Gd B (isK 6))(p:Nat){n:Int}(hn:n=0∨n=1){a b:Ast}(ha:isE a)(hb:isE b):Gd (ifTail B p n a b) isSt:=Gd.bind hB fun c hc=>Gd.bind (gd_skip _) fun q _=>by
 have h0:0≤n:=by omega
 have h1:n≤mostR 14:=by show n≤1;omega
 cases q with
 | true=>exact Gd.bind hB fun d hd=>Gd.pure ⟨wf_plain (by decide) (by decide) rfl h0 h1 (by simp [kidsR,isR,ha.2,hb.2,hc.2,hd.2]) (by simp [ha.1,hb.1,hc.1,hd.1]),rfl⟩
 | false=>exact Gd.pure ⟨wf_plain (by decide) (by decide) rfl h0 h1 (by simp [kidsR,isR,ha.2,hb.2,hc.2]) (by simp [ha.1,hb.1,hc.1]),rfl⟩
theorem gd_if (r:Nat){B:Par Ast}(hB:Gd B (isK 6))(p:Nat):Gd (ifP r B p) isSt:=Gd.bind (gd_expr r) fun a ha=>Gd.bind (gd_skip _) fun b _=>by
 cases b with
 | true=>exact Gd.bind (gd_expr r) fun b hb=>gd_ifTail hB p (Or.inr rfl) ha hb
 | false=>exact Gd.bind (gd_expect _) fun _ _=>Gd.bind (gd_expr r) fun b hb=>gd_ifTail hB p (Or.inl rfl) ha hb
theorem gd_for {B:Par Ast}(hB:Gd B (isK 6))(p:Nat):Gd (forP B p) isSt:=Gd.bind (gd_take 1) fun t ht=>Gd.bind (gd_expect _) fun _ _=>Gd.bind gd_number fun a ha=>Gd.bind (gd_expect _) fun _ _=>Gd.bind gd_number fun b hb=>Gd.bind hB fun c hc =>
 Gd.pure ⟨wf_named (by decide) (by decide) rfl (ht.2.name ht.1) (by decide) (by decide) (by simp [kidsR,isR,ha.2,hb.2,hc.2]) (by simp [ha.1,hb.1,hc.1]),rfl⟩
theorem gd_let (r p:Nat):Gd (letP r p) isSt:=Gd.bind (gd_take 1) fun t ht=>Gd.bind (gd_expect _) fun _ _=>Gd.bind (gd_expr r) fun v hv =>
 gd_end ⟨wf_named (by decide) (by decide) rfl (ht.2.name ht.1) (by decide) (by decide) (by simp [kidsR,isR,hv.2]) (by simp [hv.1]),rfl⟩
theorem gd_emit (r p:Nat):Gd (emitP r p) isSt:=Gd.bind (gd_expr r) fun v hv=>gd_end ⟨wf_plain (by decide) (by decide) rfl (by decide) (by decide) (by simp [kidsR,isR,hv.2]) (by simp [hv.1]),rfl⟩
theorem gd_rest (r:Nat){B:Par Ast}(hB:Gd B (isK 6))(j p:Nat):Gd (restP r B j p) isSt:=by
 unfold restP
 split
 · exact gd_read r p
 · exact gd_set r p
 · exact gd_put r p
 · exact gd_delete r p
 · exact gd_scan p
 · exact gd_lock p
 · exact gd_release r p
 · exact gd_if r hB p
 · exact gd_for hB p
 · exact gd_let r p
 · exact gd_emit r p
 · exact gd_end ⟨wf_plain (by decide) (by decide) rfl (by decide) (by decide) rfl (by simp),rfl⟩
 · exact gd_end ⟨wf_plain (by decide) (by decide) rfl (by decide) (by decide) rfl (by simp),rfl⟩
 · exact gd_fail
theorem gd_stmt (r:Nat){B:Par Ast}(hB:Gd B (isK 6)):Gd (stmtP r B) isSt:=gd_peeked fun u l hl a l' e=>by
 split at e
 · simp only [Par.bind,nextP] at e
   exact gd_rest r hB _ _ l hl.tail a l' e
 · exact gd_fail _ hl a l' e
theorem gd_blockOf {r:Nat}{st:Par Ast}(h:Gd st isSt):Gd (blockOf r st) (isK 6):=Gd.bind (gd_enter _ _) fun p _ =>
 Gd.bind (P:=fun ks=>∀x∈ks,isSt x) (Gd.many (fun ks hk=>Gd.bind (gd_isNext _) fun b _=>match b with
  | true=>gd_none
  | false=>Gd.bind h fun s hs=>gd_some (mem_snoc hk hs)) [] (by simp))
 fun ks hk=>Gd.bind (gd_expect _) fun _ _=>Gd.pure ⟨wf_plain (by decide) (by decide) rfl (by decide) (by decide) (by
  simp only [kidsR]
  simp
  exact fun x hx=>(hk x hx).2) (fun x hx=>(hk x hx).1),rfl⟩
theorem gd_block:∀r,Gd (blockP r) (isK 6)
 | 0=>gd_blockOf gd_fail
 | r+1=>gd_blockOf (gd_stmt r (gd_block r))
theorem all5 {ks:List Ast}(h:∀x∈ks,isK 5 x):(ks.map Ast.kind).all (·==5)=true:=by
 rw [List.all_eq_true]
 intro k hk
 obtain ⟨x,hx,rfl⟩:=List.mem_map.1 hk
 simp [(h x hx).2]
theorem gd_names:Gd namesP (isK 4):=Gd.bind gd_peek fun t _=>Gd.bind (gd_isNext _) fun b _=>by
 cases b with
 | true=>exact Gd.pure ⟨wf_plain (by decide) (by decide) rfl (by decide) (by decide) rfl (by simp),rfl⟩
 | false=>exact Gd.bind gd_words fun ks hk=>Gd.pure ⟨wf_plain (by decide) (by decide) rfl (by decide) (by decide) (by simp only [kidsR];exact all5 hk.1) (fun x hx=>(hk.1 x hx).1),rfl⟩
def isPart (a:Ast):Prop:=wfR a∧(a.kind=2∨a.kind=3)
theorem gd_table:Gd tableP isPart:=Gd.bind (gd_expect _) fun p _=>Gd.bind (gd_take 1) fun t ht=>Gd.bind (gd_expect _) fun _ _=>Gd.bind gd_words fun ks hk=>Gd.bind (gd_expect _) fun _ _ =>
 gd_end ⟨wf_named (by decide) (by decide) rfl (ht.2.name ht.1) (by decide) (by decide) (by
  have h1:=all5 hk.1
  have h2:0<(ks.map Ast.kind).length:=by simpa using hk.2
  show (decide (0<(ks.map Ast.kind).length)&&(ks.map Ast.kind).all (·==5))=true
  rw [h1,decide_eq_true h2];rfl) (fun x hx=>(hk.1 x hx).1),Or.inl rfl⟩
theorem gd_proc:Gd procP isPart:=Gd.bind (gd_expect _) fun p _=>Gd.bind (gd_take 1) fun t ht=>Gd.bind (gd_expect _) fun _ _=>Gd.bind gd_names fun ns hn=>Gd.bind (gd_expect _) fun _ _=>Gd.bind (gd_skip _) fun b _=>by
 cases b with
 | true=>exact Gd.bind (gd_block 64) fun b hb=>Gd.pure ⟨wf_named (by decide) (by decide) rfl (ht.2.name ht.1) (by decide) (by decide) (by simp [kidsR,isR,hn.2,hb.2]) (by simp [hn.1,hb.1]),Or.inr rfl⟩
 | false=>exact Gd.bind (gd_block 64) fun b hb=>Gd.pure ⟨wf_named (by decide) (by decide) rfl (ht.2.name ht.1) (by decide) (by decide) (by simp [kidsR,isR,hn.2,hb.2]) (by simp [hn.1,hb.1]),Or.inr rfl⟩
theorem gd_progStep {ks:List Ast}(hk:∀x∈ks,isPart x):Gd (progStep ks) fun o=>∀b,o=some b→∀x∈b,isPart x:=gd_peeked fun u l hl a l' e=>by
 split at e
 · exact (gd_none (P:=fun b:List Ast=>∀x∈b,isPart x)) _ hl a l' e
 · have h1:∀b:Bool,Gd (match b with|true=>Par.bind tableP fun a=>Par.pure (some (ks++[a]))|false=>Par.bind procP fun a=>Par.pure (some (ks++[a]))) fun o=>∀b,o=some b→∀x∈b,isPart x:=fun b=>match b with
    | true=>Gd.bind gd_table fun a ha=>gd_some (mem_snoc hk ha)
    | false=>Gd.bind gd_proc fun a ha=>gd_some (mem_snoc hk ha)
   exact (Gd.bind (gd_isNext _) fun b _=>h1 b) _ hl a l' e
theorem gd_program:Gd programP fun a=>wfR a∧a.kind=1:=Gd.bind gd_peek fun t _ =>
 Gd.bind (P:=fun ks=>∀x∈ks,isPart x) (Gd.many (fun ks hk=>gd_progStep hk) [] (by simp))
 fun ks hk=>Gd.pure ⟨wf_plain (by decide) (by decide) rfl (by decide) (by decide) (by
  simp only [kidsR]
  simp
  exact fun x hx=>(hk x hx).2) (fun x hx=>(hk x hx).1),rfl⟩
end
section
open Go.RowKit
theorem rec_idle (p q r:Addr)(w:World) :
 CallsD Tryz.prog 71 #[.pointer (some p),.pointer (some q),.pointer (some r)] .returning w fun e u' w'=>e=.returned (.tuple #[])∧u'=.returning∧w'=w:=by
 refine callsD_of_wpS Tryz.func71 rfl fun c₀ cs hu=>?_
 apply wpS_seq
 apply wpS_region
 simp [wpOpsS,go_sem,recoverD,hu,Tryz.ntmps71,Exit.thenS]
 refine wpS_of_wp ?_
 simp only [Array.replicate_succ,Array.replicate_zero,List.push_toArray,List.append_toArray,List.nil_append,List.cons_append,List.setIfInBounds_toArray,List.set_cons_zero,List.set_cons_succ]
 go_wp2_with fail
 cases c₀
 simp_all [bodyPostS,results,Tryz.results71]
theorem is_wrong (v:Value)(w:World):(Instr.typeAssert (.iface 121 v) 20 121 true).run Tryz.prog w=.ok (.tuple #[v,.bool true]) w:=by
 simp [Instr.typeAssert,Sem.run_bind,run_underlying Tryz.underlying121,Result.andThen]
theorem rec_wrong (B:Nat)(bs bt be:Nat)(sp:Option Addr)(len c:Nat)(xs:List Int)(k:Nat)(code:Int)(vt ve:Value)(w:World)(hs:w.cell? ⟨bs,0,none⟩=some (.slice sp len c))(hsrc:Src w sp len c xs)(hlen:len≤65536)(hk:k≤len)(hc:code≠0)
 (ht:Boxed w bt 39 vt) (he:Boxed w be 25 ve) (hte:bt≠be) (hB1:B≤bt) (hB2:B≤be) :
 CallsD Tryz.prog 71 #[.pointer (some ⟨bs,0,none⟩),.pointer (some ⟨bt,0,none⟩),.pointer (some ⟨be,0,none⟩)] (.panicking [{ v:=.iface 121 (.agg #[.int .i64 (k:Int),.int .i64 code]),recovered:=false }]) w fun e u' w' =>
  e=.returned (.tuple #[])∧u'=.panicking [{ v:=.iface 121 (.agg #[.int .i64 (k:Int),.int .i64 code]),recovered:=true }]∧∃C l cc,Boxed w' bt 39 (.slice none 0 0)∧Boxed w' be 25 (.iface 109 (.pointer (some ⟨C,0,none⟩)))∧ErrAt w' C (k:Int) l cc code∧Below B w w':=by
 have hta:=is_wrong
 have hs2:(w.alloc (.cells #[.int .i64 (k:Int),.int .i64 code] 121)).cell? ⟨bs,0,none⟩=some (.slice sp len c):=(World.cell?_alloc_lt _ _ ⟨bs,0,none⟩ (cell_lt hs)).trans hs
 have htc:=ht.cell
 have htz:=ht.frozen
 have hec:=he.cell
 have hez:=he.frozen
 have htl:=ht.lt
 have hel:=he.lt
 have hBw:B≤w.heap.size:=by omega
 have NW:=lh (new_src sp len c k xs (k:Int) code (w.alloc (.cells #[.int .i64 (k:Int),.int .i64 code] 121)) hc (by omega) (by omega) (hsrc.below ((Below.refl _ _).alloc (Nat.le_refl _) _)))
 have HT:=lh ht
 have HE:=lh he
 clear ht he hsrc
 refine callsD_of_wpS Tryz.func71 rfl fun c₀ cs hu=>?_
 apply wpS_seq
 apply wpS_region
 simp [wpOpsS,go_sem,recoverD,hu,Tryz.ntmps71,Exit.thenS]
 refine wpS_of_wp ?_
 simp only [Array.replicate_succ,Array.replicate_zero,List.push_toArray,List.append_toArray,List.nil_append,List.cons_append,List.setIfInBounds_toArray,List.set_cons_zero,List.set_cons_succ]
 go_wp2_with fail
 (with_reducible refine NW.out.mono ?_)
 rintro e w' ⟨rfl,hN⟩
 have hb:=hN.below
 have hal:Below w.heap.size w (w.alloc (.cells #[.int .i64 (k:Int),.int .i64 code] 121)):=(Below.refl _ _).alloc (Nat.le_refl _) _
 have hbb:Below w.heap.size w w':=hal.trans (hb.mono hal.size)
 have bt1:Boxed w' bt 39 vt:=(hbb.block bt htl).trans HT.out
 have be1:Boxed w' be 25 ve:=(hbb.block be hel).trans HE.out
 have d1:=bt1.cell
 have d2:=bt1.frozen
 have d3:=be1.cell
 have d4:=be1.frozen
 have hne1:¬ bt=be:=hte
 have hne2:¬ be=bt:=fun e=>hte e.symm
 have HN:=lh hN
 have bt2:=bt1.set (.slice none 0 0)
 have be2:=(be1.kept (grownBy_set w' ⟨bt,0,none⟩ (.slice none 0 0)) (fun e=>hne2 (Option.some.inj e))).set (.iface 109 (.pointer (some ⟨(w.alloc (.cells #[.int .i64 (k:Int),.int .i64 code] 121)).heap.size+1,0,none⟩)))
 have bt3:=bt2.kept (grownBy_set (w'.setCell ⟨bt,0,none⟩ (.slice none 0 0)) ⟨be,0,none⟩ (.iface 109 (.pointer (some ⟨(w.alloc (.cells #[.int .i64 (k:Int),.int .i64 code] 121)).heap.size+1,0,none⟩)))) (fun e=>hne1 (Option.some.inj e))
 have hEA:ErrAt ((w'.setCell ⟨bt,0,none⟩ (.slice none 0 0)).setCell ⟨be,0,none⟩ (.iface 109 (.pointer (some ⟨(w.alloc (.cells #[.int .i64 (k:Int),.int .i64 code] 121)).heap.size+1,0,none⟩)))) ((w.alloc (.cells #[.int .i64 (k:Int),.int .i64 code] 121)).heap.size+1) (k:Int) (lineF xs k) ((k:Int)-lastF xs k) code:=by
  have h1:=hN.at_
  have hq:∀i,((w'.setCell ⟨bt,0,none⟩ (.slice none 0 0)).setCell ⟨be,0,none⟩ (.iface 109 (.pointer (some ⟨(w.alloc (.cells #[.int .i64 (k:Int),.int .i64 code] 121)).heap.size+1,0,none⟩)))).cell? ⟨(w.alloc (.cells #[.int .i64 (k:Int),.int .i64 code] 121)).heap.size+1,i,none⟩=w'.cell? ⟨(w.alloc (.cells #[.int .i64 (k:Int),.int .i64 code] 121)).heap.size+1,i,none⟩:=fun i=>by
   rw [World.cell?_setCell_other _ _ _ _ (by first|(simp;done)|(simp;omega)),World.cell?_setCell_other _ _ _ _ (by first|(simp;done)|(simp;omega))]
  exact ⟨by have:=h1.lt;simpa [World.setCell] using this,by rw [hq];exact h1.c0,by rw [hq];exact h1.c1,by rw [hq];exact h1.c2,by rw [hq];exact h1.c3⟩
 have HEA:=lh hEA
 have BT3:=lh bt3
 have BE2:=lh be2
 have hfb:Below B w ((w'.setCell ⟨bt,0,none⟩ (.slice none 0 0)).setCell ⟨be,0,none⟩ (.iface 109 (.pointer (some ⟨(w.alloc (.cells #[.int .i64 (k:Int),.int .i64 code] 121)).heap.size+1,0,none⟩)))):=((hbb.mono hBw).setCell (p:=⟨bt,0,none⟩) hB1 _).setCell (p:=⟨be,0,none⟩) hB2 _
 clear hN bt1 be1 bt2 be2 bt3 hEA NW
 go_wp2_with fail
 have hsz:(w.alloc (.cells #[.int .i64 (k:Int),.int .i64 code] 121)).heap.size=w.heap.size+1:=by simp
 have h1:=BT3.out
 have h2:=BE2.out
 have h3:=HEA.out
 rw [hsz] at h1 h2 h3 hfb
 exact ⟨rfl,_,rfl,.tuple #[],by simp [results,Tryz.results71,Tryz.f71,go_sem],rfl,rfl,h1,_,h2,⟨_,_,h3⟩,hfb⟩
end
section
open Go.RowKit
def ParsePost (xs:List Int)(w:World)(e:Ending)(w':World):Prop:=Below w.heap.size w w'∧match parseS xs with
 | .error (i,er)=>∃C l cc,e=.returned (.tuple #[.agg #[.slice none 0 0],.iface 109 (.pointer (some ⟨C,0,none⟩))])∧ErrAt w' C (i:Int) l cc er
 | .ok ns=>∃p len cap,e=.returned (.tuple #[.agg #[.slice p len cap],.nilIface])∧Tr.TV w' p len cap ns
abbrev W3 (w:World)(p:Option Addr)(len c:Nat):World:=((w.alloc (.cells #[.slice p len c] 22)).alloc (.cells #[.slice none 0 0] 39)).alloc (.cells #[.nilIface] 25)
theorem W3_below (w:World)(p:Option Addr)(len c:Nat):Below w.heap.size w (W3 w p len c):=(((Below.refl _ _).alloc (Nat.le_refl _) _).alloc (by simp) _).alloc (by simp;omega) _
theorem W3_size (w:World)(p:Option Addr)(len c:Nat):(W3 w p len c).heap.size=w.heap.size+1+1+1:=by simp [W3]
theorem W3_boxes (w:World)(p:Option Addr)(len c:Nat):Boxed (W3 w p len c) w.heap.size 22 (.slice p len c)∧Boxed (W3 w p len c) (w.heap.size+1) 39 (.slice none 0 0)∧Boxed (W3 w p len c) (w.heap.size+1+1) 25 .nilIface:=by
 refine ⟨((Boxed.new w _ _).alloc _).alloc _,?_,?_⟩
 · have h:=(Boxed.new (w.alloc (.cells #[.slice p len c] 22)) 39 (.slice none 0 0)).alloc (.cells #[.nilIface] 25)
   rw [World.size_alloc] at h
   exact h
 · have h:=Boxed.new ((w.alloc (.cells #[.slice p len c] 22)).alloc (.cells #[.slice none 0 0] 39)) 25 .nilIface
   simp only [World.size_alloc] at h
   exact h
theorem ErrAt.ne {W:World}{C q T:Nat}{u:Value}{x l c n:Int}(h:ErrAt W C x l c n)(hb:Boxed W q T u):C≠q:=fun e=>by
 have h1:=h.c1
 have h2:W.heap[q]?=some (.cells #[u] T (0,0)):=hb
 rw [e,cell_of_row _ _ _ _ _ _ h2] at h1
 simp at h1
theorem ErrAt.put {W:World}{C q:Nat}{u:Value}{x l c n:Int}(h:ErrAt W C x l c n)(hne:C≠q):ErrAt (W.setCell ⟨q,0,none⟩ u) C x l c n:=by
 have hq:∀i,(W.setCell ⟨q,0,none⟩ u).cell? ⟨C,i,none⟩=W.cell? ⟨C,i,none⟩:=fun i=>World.cell?_of_block (w:=W) (Below.heap_setCell _ _ _ _ hne)
 exact ⟨by have:=h.lt;simpa [World.setCell] using this,by rw [hq];exact h.c0,by rw [hq];exact h.c1,by rw [hq];exact h.c2,by rw [hq];exact h.c3⟩
theorem parse_lex (w:World)(p:Option Addr)(len c:Nat)(xs:List Int)(h:Src w p len c xs)(hb:len≤65536)(i:Nat)(er:Int)(hx:lexS xs=.error (i,er)) :
 Calls Tryz.prog 31 #[.slice p len c] w (ParsePost xs w):=by
 have LN:=lh (lex_no (h.below (W3_below w p len c)) hb hx)
 have HX:Hid (parseS xs=.error (i,er)):=lh (by simp only [parseS,hx])
 obtain ⟨b1,b2,b3⟩:=W3_boxes w p len c
 have B1:=lh b1
 have B2:=lh b2
 have B3:=lh b3
 have hsz:=W3_size w p len c
 have HSZ:=lh hsz
 clear h hx b1 b2 b3 hsz
 go_enter_defers Tryz.func31,Tryz.ntmps31
 go_wp2_with fail
 (with_reducible refine LN.out.mono ?_)
 rintro e w4 ⟨C,l,cc,rfl,hE,hb4⟩
 have c1:Boxed w4 w.heap.size 22 (.slice p len c):=(hb4.block _ B1.out.lt).trans B1.out
 have c2:Boxed w4 (w.heap.size+1) 39 (.slice none 0 0):=(hb4.block _ B2.out.lt).trans B2.out
 have c3:Boxed w4 (w.heap.size+1+1) 25 .nilIface:=(hb4.block _ B3.out.lt).trans B3.out
 have d2:=c2.cell
 have z2:=c2.frozen
 have d3:=c3.cell
 have z3:=c3.frozen
 have hn2:=hE.ne c2
 have hn3:=hE.ne c3
 have hF:=((hE.put (u:=.iface 109 (.pointer (some ⟨C,0,none⟩))) hn3).put (u:=.slice none 0 0) hn2).put (u:=.iface 109 (.pointer (some ⟨C,0,none⟩))) hn3
 have HF:=lh hF
 have hfb:Below w.heap.size w (((w4.setCell ⟨w.heap.size+1+1,0,none⟩ (.iface 109 (.pointer (some ⟨C,0,none⟩)))).setCell ⟨w.heap.size+1,0,none⟩ (.slice none 0 0)).setCell ⟨w.heap.size+1+1,0,none⟩ (.iface 109 (.pointer (some ⟨C,0,none⟩)))) :=
  ((((W3_below w p len c).trans (hb4.mono (W3_below w p len c).size)).setCell (p:=⟨w.heap.size+1+1,0,none⟩) (by simp only;omega) _).setCell (p:=⟨w.heap.size+1,0,none⟩) (by simp only;omega) _).setCell (p:=⟨w.heap.size+1+1,0,none⟩) (by simp only;omega) _
 have HFB:=lh hfb
 clear hF hfb
 clear hE hb4 c1 c2 c3 LN
 go_wp2_with fail
 go_region
 all_goals go_wp2_with fail
 all_goals simp [bodyPostD,Leaves,results,Tryz.results31,go_sem,d2,d3]
 all_goals
  refine ⟨HFB.out.drew,?_⟩
  rw [HX.out]
  exact ⟨C,l,cc,rfl,⟨HF.out.lt,HF.out.c0,HF.out.c1,HF.out.c2,HF.out.c3⟩⟩
theorem PS.begin (w4 w5:World)(g cap:Nat)(ts:List Tok)(rb b:Nat)(xs:List Int)(hT:TR w4 g cap ts)(hg5:w5.heap[g]?=w4.heap[g]?)(hs5:w5.heap.size=w4.heap.size)(hrb:rb=w4.heap.size)(hbb:b=rb+1)(hx:lexS xs=.ok ts)(hb:xs.length≤65536) :
 PS { W:=w5.alloc (.map ES13 13),b:=b,g:=g,cap:=cap,toks:=ts,mp:=.map (some rb) } (.slice none 0 0) [] [] 64 (ts.map ptOf) ((w5.alloc (.map ES13 13)).alloc (.cells #[.slice (some ⟨g,0,none⟩) ts.length cap,.int .i64 0,.int .i64 0,.map (some rb),.slice none 0 0] 125))∧MapAt { W:=w5.alloc (.map ES13 13),b:=b,g:=g,cap:=cap,toks:=ts,mp:=.map (some rb) }:=by
 obtain ⟨vs,hts,hvs⟩:=lexS_shape hx
 have hlen:=lexN_len _ _ _ _ hx
 have hbs:b=(w5.alloc (.map ES13 13)).heap.size:=by simp;omega
 have hgl:=hT.lt
 refine ⟨{ below:=?_,lt:=?_,gl:=by simp only;omega,cap:=hT.le,tok:=?_,nx:=?_,r64:=Nat.le_refl _,ended:=?_,few:=?_,room:=?_,klen:=rfl,own:=World.ownsRow_nil _ _ _ _,kids:=fun j hj=>by simp at hj,apart:=fun x hx=>by simp at hx,pair:=List.Pairwise.nil },⟨rb,rfl,by simp only;omega,?_⟩⟩
 · simp only
   rw [hbs]
   exact (Below.refl _ _).alloc (Nat.le_refl _) _
 · simp only
   rw [hbs]
   simp
 · intro j i u hj hi
   have h5:i<5:=by have:=(List.getElem?_eq_some_iff.1 hi).1;simpa [tokC5] using this
   have h1:ts[j]?=some (ts.getD j (Tok.endAt 0)):=by simp only at hj;simp [List.getD,hj]
   have h2:=hT.cell (j*5+i) u (by rw [tok_cell ts j i _ h1 h5];exact hi)
   simp only
   rw [World.cell?_of_block (w:=w4) (a:=⟨g,j*5+i,none⟩) ?_]
   · exact h2
   · rw [Below.heap_alloc _ _ _ (by simp;omega),Below.heap_alloc _ _ _ (by simp only;omega)]
     exact hg5
 · refine ⟨0,rfl,?_⟩
   simp only
   rw [hbs,World.alloc_heap_new]
   rfl
 · rw [hts,List.map_append]
   exact ended_snoc _ _ (end_pt _)
 · simp only;omega
 · simp only [List.length_nil,List.length_map];omega
 · simp only
   rw [hrb,← hs5]
   exact World.alloc_heap_new w5 _
theorem parse_run (w:World)(p:Option Addr)(len c:Nat)(xs:List Int)(h:Src w p len c xs)(hb:len≤65536)(ts:List Tok)(hx:lexS xs=.ok ts) :
 Calls Tryz.prog 31 #[.slice p len c] w (ParsePost xs w):=by
 have hmf:∀(fn:Fn) (first cap:Array Value) (w:World),(Instr.makeFunc fn first cap).run Tryz.prog w=.ok (.func fn first cap) w:=fun _ _ _ _=>rfl
 have LK:=lh (lex_ok (h.below (W3_below w p len c)) hb hx)
 have HXS:=lh hx
 have HS:=lh h
 have hlx:Hid (xs.length=len):=lh h.1
 obtain ⟨b1,b2,b3⟩:=W3_boxes w p len c
 have B1:=lh b1
 have B2:=lh b2
 have B3:=lh b3
 have HSZ:=lh (W3_size w p len c)
 clear h hx b1 b2 b3
 go_enter_defers Tryz.func31,Tryz.ntmps31
 go_wp2_with fail
 (with_reducible refine LK.out.mono ?_)
 rintro e w4 ⟨g,cap,rfl,hT,hg,hb4⟩
 have c1:Boxed w4 w.heap.size 22 (.slice p len c):=(hb4.block _ B1.out.lt).trans B1.out
 have c2:Boxed w4 (w.heap.size+1) 39 (.slice none 0 0):=(hb4.block _ B2.out.lt).trans B2.out
 have c3:Boxed w4 (w.heap.size+1+1) 25 .nilIface:=(hb4.block _ B3.out.lt).trans B3.out
 have d3:=c3.cell
 have z3:=c3.frozen
 have HB4:=lh hb4
 have HT:=lh hT
 have HG:=lh hg
 have hn1:¬ w.heap.size=w.heap.size+1+1:=by omega
 have C1:=lh (c1.kept (grownBy_set w4 ⟨w.heap.size+1+1,0,none⟩ .nilIface) (fun e=>by have e:=Option.some.inj e;simp only at e;omega))
 have C2:=lh (c2.kept (grownBy_set w4 ⟨w.heap.size+1+1,0,none⟩ .nilIface) (fun e=>by have e:=Option.some.inj e;simp only at e;omega))
 have C3:=lh (c3.set .nilIface)
 have ST:=lh (statements_at (w4.setCell ⟨w.heap.size+1+1,0,none⟩ .nilIface))
 have hP:=PS.begin w4 (w4.setCell ⟨w.heap.size+1+1,0,none⟩ .nilIface) g cap ts w4.heap.size (w4.heap.size+1) xs hT (Below.heap_setCell _ _ _ _ (by have:=HSZ.out;simp only;omega)) (by simp [World.setCell]) rfl rfl HXS.out (by have:=hlx.out;omega)
 have HP:=lh hP.1
 have HM:=lh hP.2
 clear hT hg hb4 c1 c2 c3 LK hP
 go_wp2_with fail
 (with_reducible refine ST.out.mono ?_)
 rintro e w6 ⟨rfl,rfl⟩
 clear d3 z3 ST
 have hsz5:(w4.setCell ⟨w.heap.size+1+1,0,none⟩ .nilIface).heap.size=w4.heap.size:=by simp [World.setCell]
 go_wp2_with fail
 obtain ⟨E,hE⟩:∃E:Env,E={ W:=(w4.setCell ⟨w.heap.size+1+1,0,none⟩ .nilIface).alloc (.map ES13 13),b:=w4.heap.size+1,g:=g,cap:=cap,toks:=ts,mp:=.map (some w4.heap.size) }:=⟨_,rfl⟩
 rw [← hE] at HP HM
 have hEb:E.b=w4.heap.size+1:=by rw [hE]
 have hEW:E.W=(w4.setCell ⟨w.heap.size+1+1,0,none⟩ .nilIface).alloc (.map ES13 13):=by rw [hE]
 have hptl:(ts.map ptOf).length≤65537:=by have h1:=lexN_len _ _ _ _ HXS.out;have h2:=hlx.out;rw [List.length_map];omega
 have PG:=lh (program_at HP.out HM.out (by simp only [List.length_nil];omega))
 rw [hEb] at PG
 have HEB:=lh hEb
 have HEW:=lh hEW
 have hs4:w.heap.size+1+1+1≤w4.heap.size:=by have h1:=HB4.out.size;have h2:=HSZ.out;omega
 have HSB:Hid (Below w.heap.size w E.W):=lh (by
  rw [HEW.out]
  exact (((W3_below w p len c).trans (HB4.out.mono (W3_below w p len c).size)).setCell (p:=⟨w.heap.size+1+1,0,none⟩) (by simp only;omega) _).alloc (by rw [hsz5];omega) _)
 have HWS:Hid (E.W.heap.size=w4.heap.size+1):=lh (by rw [HEW.out];simp)
 have K1:=lh (show Boxed E.W w.heap.size 22 (.slice p len c) by rw [HEW.out];exact C1.out.alloc _)
 have K2:=lh (show Boxed E.W (w.heap.size+1) 39 (.slice none 0 0) by rw [HEW.out];exact C2.out.alloc _)
 have K3:=lh (show Boxed E.W (w.heap.size+1+1) 25 .nilIface by rw [HEW.out];exact C3.out.alloc _)
 clear hE hEb hEW HP HM hsz5 C1 C2 C3 HT HG HB4
 (with_reducible refine PG.out.mono ?_)
 rintro e w8 hP8
 cases hp:programP (ts.map ptOf) with
 | err q d =>
  rw [hp] at hP8
  obtain ⟨rfl,hb8⟩:=hP8
  have HR:Hid (parseS xs=.error (q,d)):=lh (by simp only [parseS,HXS.out,hp])
  obtain ⟨hd0,hq0⟩:=ce_program.er _ _ _ hp
  have hql:q≤len:=by
   rcases hq0 with rfl|⟨t,ht,rfl⟩
   · exact Nat.zero_le _
   · obtain ⟨vs,hts,hvs⟩:=lexS_shape HXS.out
     rw [hts,List.map_append,List.mem_append] at ht
     rcases ht with ht|ht
     · obtain ⟨u,hu,rfl⟩:=List.mem_map.1 ht
       have h1:=(hvs u hu).2
       have h2:=hlx.out
       show u.at'≤len
       omega
     · simp only [List.map_cons,List.map_nil,List.mem_singleton] at ht
       subst ht
       have h2:=hlx.out
       show xs.length≤len
       omega
  rw [HEB.out] at hb8
  have hb8w:Below w.heap.size w w8:=HSB.out.trans (hb8.mono (by omega))
  have k1:Boxed w8 w.heap.size 22 (.slice p len c):=(hb8.block _ (by omega)).trans K1.out
  have k2:Boxed w8 (w.heap.size+1) 39 (.slice none 0 0):=(hb8.block _ (by omega)).trans K2.out
  have k3:Boxed w8 (w.heap.size+1+1) 25 .nilIface:=(hb8.block _ (by omega)).trans K3.out
  have RW:=lh (rec_wrong w.heap.size w.heap.size (w.heap.size+1) (w.heap.size+1+1) p len c xs q d _ _ w8 k1.cell (HS.out.below hb8w) hb hql hd0 k2 k3 (by omega) (by omega) (by omega))
  have HB8:=lh hb8w
  clear hb8 hb8w k1 k2 k3 hp
  go_wp2_with fail
  refine leaves_cons (f := 71) (args:=#[.pointer (some ⟨w.heap.size,0,none⟩),.pointer (some ⟨w.heap.size+1,0,none⟩),.pointer (some ⟨w.heap.size+1+1,0,none⟩)]) (by simp) (by simp [go_sem]) ?_
  refine RW.out.mono ?_
  rintro e u' w9 ⟨rfl,rfl,C,l,cc,r2,r3,hEA,hb9⟩
  have d2:=r2.cell
  have d3:=r3.cell
  have hfin:Hid (ParsePost xs w (.returned (.tuple #[.agg #[.slice none 0 0],.iface 109 (.pointer (some ⟨C,0,none⟩))])) w9):=lh (by
   refine ⟨HB8.out.trans hb9,?_⟩
   rw [HR.out]
   exact ⟨C,l,cc,rfl,hEA⟩)
  clear r2 r3 hEA hb9
  simp [Leaves,settle,results,Tryz.results31,go_sem,d2,d3]
  exact hfin.out
 | ok a l1 =>
  rw [hp] at hP8
  obtain ⟨v',new,rfl,hps,hnw,hfr⟩:=hP8
  have HR:Hid (parseS xs=.ok (flat 0 a)):=lh (by simp only [parseS,HXS.out,hp])
  obtain ⟨_,_,_,_,_,_,c4⟩:=hps.cells
  have hmade:Made (E.b+1) w8 v' new (post 0 a):={
   base:=hps.lt
   own:=by simpa using hps.own
   klen:=by simpa using hps.klen
   kids:=fun j hj=>by simpa using hps.kids j (by simpa using hj)
   apart:=by simpa using hps.apart
   pair:=by simpa using hps.pair
   few:=by have:=hps.room;simp at this;omega }
  have FL:=flat_at (E.b+1) v' new a w8 hmade
  have hroot:rootI ([]:List Nd).length a=(a.size:Int)-1:=by simp [rootI]
  have hb8:=hps.below
  rw [HEB.out] at hb8 FL c4
  have hlt8:=hps.lt
  rw [HEB.out] at hlt8
  have hb8w:Below w.heap.size w w8:=HSB.out.trans (hb8.mono (by omega))
  have k2:Boxed w8 (w.heap.size+1) 39 (.slice none 0 0):=(hb8.block _ (by omega)).trans K2.out
  have k3:Boxed w8 (w.heap.size+1+1) 25 .nilIface:=(hb8.block _ (by omega)).trans K3.out
  have FLH:=lh FL
  have KK2:=lh k2
  have KK3:=lh k3
  have HB8:=lh hb8w
  have hr2:(.int .i64 (rootI ([]:List Nd).length a):Value)=.int .i64 ((a.size:Int)-1):=by rw [hroot]
  rw [hr2]
  clear hps hnw hfr hmade FL hroot hb8 hb8w k2 k3 hp hr2
  go_wp2_with fail
  (with_reducible refine FLH.out.mono ?_)
  rintro e w9 ⟨p9,l9,c9,rfl,hTV,hb9⟩
  have k2:Boxed w9 (w.heap.size+1) 39 (.slice none 0 0):=(hb9.block _ (by omega)).trans KK2.out
  have k3:Boxed w9 (w.heap.size+1+1) 25 .nilIface:=(hb9.block _ (by omega)).trans KK3.out
  have d2:=k2.cell
  have z2:=k2.frozen
  have d3:=k3.cell
  have z3:=k3.frozen
  have hfin:Hid (ParsePost xs w (.returned (.tuple #[.agg #[.slice p9 l9 c9],.nilIface])) ((w9.setCell ⟨w.heap.size+1,0,none⟩ (.slice p9 l9 c9)).setCell ⟨w.heap.size+1+1,0,none⟩ .nilIface)):=lh (by
   refine ⟨((HB8.out.trans (hb9.mono (by omega))).setCell (p:=⟨w.heap.size+1,0,none⟩) (by simp only;omega) _).setCell (p:=⟨w.heap.size+1+1,0,none⟩) (by simp only;omega) _,?_⟩
   rw [HR.out]
   exact ⟨p9,l9,c9,rfl,hTV _ (fun k hk=>by rw [Below.heap_setCell _ _ _ _ (by simp only;omega),Below.heap_setCell _ _ _ _ (by simp only;omega)])⟩)
  have RI:=lh (rec_idle ⟨w.heap.size,0,none⟩ ⟨w.heap.size+1,0,none⟩ ⟨w.heap.size+1+1,0,none⟩ ((w9.setCell ⟨w.heap.size+1,0,none⟩ (.slice p9 l9 c9)).setCell ⟨w.heap.size+1+1,0,none⟩ .nilIface))
  clear k2 k3 hTV hb9 FLH
  go_wp2_with fail
  refine leaves_cons (f := 71) (args:=#[.pointer (some ⟨w.heap.size,0,none⟩),.pointer (some ⟨w.heap.size+1,0,none⟩),.pointer (some ⟨w.heap.size+1+1,0,none⟩)]) (by simp) (by simp [go_sem]) ?_
  refine RI.out.mono ?_
  rintro e u' w'' ⟨rfl,rfl,rfl⟩
  simp [Leaves,settle,results,Tryz.results31,go_sem,d2,d3]
  exact hfin.out
theorem parse_at (w:World)(p:Option Addr)(len c:Nat)(xs:List Int)(h:Src w p len c xs)(hb:len≤65536):Calls Tryz.prog 31 #[.slice p len c] w (ParsePost xs w):=by
 cases hx:lexS xs with
 | error e=>exact parse_lex w p len c xs h hb e.1 e.2 hx
 | ok ts=>exact parse_run w p len c xs h hb ts hx
end
section
open Go.RowKit
theorem ex_c:parseS [112,114,111,99,32,112,40,41,32,123,32,108,101,116,32,61,32,49,59,32,125]=.error (15,50):=by kernel_rfl
theorem ex_d:parseS [116,97,98,108,101,32,116,40,41,32,59]=.error (8,50):=by kernel_rfl
theorem ex_a:parseS (Tr.bytesI ((⟨#[112,114,111,99,32,112,40,41,32,123,32,101,109,105,116,32]⟩++⟨#[49,32,45,32,50,32,45,32,51]⟩)++⟨#[59,32,125]⟩))=.ok [⟨1,0,⟨#[]⟩,0,[1]⟩,⟨3,0,⟨#[112]⟩,0,[2,3]⟩,⟨4,7,⟨#[]⟩,0,[]⟩,⟨6,9,⟨#[]⟩,0,[4]⟩,⟨17,11,⟨#[]⟩,0,[5]⟩,⟨24,16,⟨#[]⟩,0,[6,9]⟩,⟨24,16,⟨#[]⟩,0,[7,8]⟩,⟨21,16,⟨#[]⟩,1,[]⟩,⟨21,20,⟨#[]⟩,2,[]⟩,⟨21,24,⟨#[]⟩,3,[]⟩]:=by kernel_rfl
theorem ex_b:parseS (Tr.bytesI ((⟨#[112,114,111,99,32,112,40,41,32,123,32,101,109,105,116,32]⟩++⟨#[45,97,32,42,32,98]⟩)++⟨#[59,32,125]⟩))=.ok [⟨1,0,⟨#[]⟩,0,[1]⟩,⟨3,0,⟨#[112]⟩,0,[2,3]⟩,⟨4,7,⟨#[]⟩,0,[]⟩,⟨6,9,⟨#[]⟩,0,[4]⟩,⟨17,11,⟨#[]⟩,0,[5]⟩,⟨25,16,⟨#[]⟩,0,[6,8]⟩,⟨26,16,⟨#[]⟩,0,[7]⟩,⟨22,17,⟨#[97]⟩,0,[]⟩,⟨22,21,⟨#[98]⟩,0,[]⟩]:=by kernel_rfl
theorem bw_below (w:World)(s:ByteArray):Below w.heap.size w (Lib.bytesWorld w 5 s) where
 os:=rfl
 tape:=rfl
 output:=rfl
 size:=by rw [Lib.bytesWorld_size];omega
 block:=fun k hk=>Lib.bytesWorld_at_old w 5 s k hk
theorem bw_src (w:World)(s:ByteArray):Src (Lib.bytesWorld w 5 s) (some ⟨w.heap.size,0,none⟩) s.size (grownCap w s.size 0 5) (Tr.bytesI s):=by
 refine ⟨Tr.bytesI_length s,fun i=>?_,Or.inr ⟨w.heap.size,0,rfl,grownCap_ge w s.size 0 5,by rw [Lib.bytesWorld_size];omega,fun i hi=>?_⟩⟩
 · by_cases hi:i<s.data.toList.length
   · have h1:(Tr.bytesI s).getD i 0=((s.data.toList[i]).toNat:Int):=by simp [Tr.bytesI,List.getD];simp at hi;simp [hi]
     rw [h1]
     have:=(s.data.toList[i]).toNat_lt
     omega
   · have h1:(Tr.bytesI s).getD i 0=0:=by simp only [Tr.bytesI,List.getD];rw [List.getElem?_eq_none (by simpa using hi)];rfl
     rw [h1]
     omega
 · rw [Nat.zero_add,Lib.bytesWorld_cell w 5 s i hi]
   have hi':i<s.data.toList.length:=by simpa using hi
   congr 2
   simp [Tr.bytesI,List.getD]
   simp at hi'
   simp [hi']
theorem tv_tail {W:World}{p:Option Addr}{len c k:Nat}{ns:List Nd}(h:Tr.TV W p len c ns)(hk:k<len):∃b off,p=some ⟨b,off,none⟩∧Tr.TV W (some ⟨b,off+k*5,none⟩) (len-k) (c-k) (ns.drop k):=by
 obtain ⟨b,off,e,hlt,hn⟩:=h.node (by omega)
 refine ⟨b,off,e,⟨by rw [List.length_drop,h.len_eq],by have:=h.cap;omega,fun _=>⟨b,off+k*5,rfl,hlt,fun i hi=>?_⟩⟩⟩
 obtain ⟨kp,kl,kc,hnc⟩:=hn (k+i) (by omega)
 refine ⟨kp,kl,kc,?_⟩
 rw [show off+k*5+i*5=off+(k+i)*5 by omega,show (ns.drop k).getD i default=ns.getD (k+i) default by simp [List.getD]]
 exact hnc
theorem emitted_at (w:World)(s:ByteArray)(hs:s.size≤1000)(ns:List Nd)(hp:parseS (Tr.bytesI ((⟨#[112,114,111,99,32,112,40,41,32,123,32,101,109,105,116,32]⟩++s)++⟨#[59,32,125]⟩))=.ok ns)(hl:6≤ns.length) :
 Calls Tryz.prog 53 #[.string s] w fun e w'=>∃p c,e=.returned (.slice p (ns.length-5) c)∧Tr.TV w' p (ns.length-5) c (ns.drop 5)∧Below w.heap.size w w':=by
 have hcv:∀(W:World) (s:ByteArray),(convert 9 22 (.string s)).run Tryz.prog W=.ok (.slice (some ⟨W.heap.size,0,none⟩) s.size (grownCap W s.size 0 5)) (Lib.bytesWorld W 5 s):=fun W s=>Lib.run_convert_string_bytes W 9 22 5 s Tryz.underlying9 Tryz.underlying22 Tryz.underlying5
 have hsz:((⟨#[112,114,111,99,32,112,40,41,32,123,32,101,109,105,116,32]⟩++s)++⟨#[59,32,125]⟩).size=16+s.size+3:=by rw [ByteArray.size_append,ByteArray.size_append];rfl
 have PA:=parse_at (Lib.bytesWorld w 5 ((⟨#[112,114,111,99,32,112,40,41,32,123,32,101,109,105,116,32]⟩++s)++⟨#[59,32,125]⟩)) (some ⟨w.heap.size,0,none⟩) ((⟨#[112,114,111,99,32,112,40,41,32,123,32,101,109,105,116,32]⟩++s)++⟨#[59,32,125]⟩).size (grownCap w ((⟨#[112,114,111,99,32,112,40,41,32,123,32,101,109,105,116,32]⟩++s)++⟨#[59,32,125]⟩).size 0 5) (Tr.bytesI ((⟨#[112,114,111,99,32,112,40,41,32,123,32,101,109,105,116,32]⟩++s)++⟨#[59,32,125]⟩)) (bw_src w _) (by rw [hsz];omega)
 rw [hsz] at PA
 have PAH:=lh PA
 have HP:=lh hp
 clear hp PA
 go_enter Tryz.func53,Tryz.ntmps53
 go_wp2_with fail
 (with_reducible refine PAH.out.mono ?_)
 rintro e w4 ⟨hb4,hm⟩
 rw [HP.out] at hm
 obtain ⟨p,len,cap,rfl,hT⟩:=hm
 have hle:=hT.len_eq
 subst hle
 obtain ⟨b,off,rfl,hT5⟩:=tv_tail hT (k:=5) (by omega)
 have hcap:=hT.cap
 have hc0:¬ (ns.length:Int)<6:=by omega
 have hc1:(5:Int)≤(ns.length:Int):=by omega
 have hc2:(ns.length:Int)≤(cap:Int):=by omega
 have hc3:¬ cap=5:=by omega
 have HT5:=lh (hT5.on (one_below w4 (.cells #[.slice (some ⟨b,off,none⟩) ns.length cap] 39)))
 have hbw:=bw_below w ((⟨#[112,114,111,99,32,112,40,41,32,123,32,101,109,105,116,32]⟩++s)++⟨#[59,32,125]⟩)
 have HB:=lh ((hbw.trans (hb4.mono hbw.size)).trans ((one_below w4 (.cells #[.slice (some ⟨b,off,none⟩) ns.length cap] 39)).mono (hbw.trans (hb4.mono hbw.size)).size))
 clear hT hT5 hb4 PAH hbw
 go_wp2_with fail
 go_ret
 exact ⟨_,_,rfl,HT5.out,HB.out⟩
theorem works_at (w:World)(hg:ET w):Calls Tryz.prog 19 #[] w fun e w'=>e=.returned (.bool true)∧Below w.heap.size w w':=by
 have HG:=lh hg
 have HB:=lh (Below.refl w.heap.size w)
 have kc:=fun (w:World) (C:Array Value) (n c:Nat)=>Lib.run_convert_bytes_const (P:=Tryz.prog) w 22 5 C n c Tryz.underlying22 Tryz.underlying5
 clear hg
 have EA:=lh (emitted_at w ⟨#[49,32,45,32,50,32,45,32,51]⟩ (by decide) _ ex_a (by decide))
 go_enter Tryz.func19,Tryz.ntmps19
 go_wp2_with fail
 (with_reducible refine EA.out.mono ?_)
 rintro e w1 ⟨pa,ca,rfl,hT,hb⟩
 clear EA
 have TA:=lh hT
 have HBB:=lh (hb)
 have HG:=lh (HG.out.below HBB.out)
 have HB:=lh (HB.out.trans (HBB.out.mono HB.out.size))
 clear HBB
 clear hT hb
 have EA:=lh (emitted_at w1 ⟨#[45,97,32,42,32,98]⟩ (by decide) _ ex_b (by decide))
 go_wp2_with fail
 (with_reducible refine EA.out.mono ?_)
 rintro e w2 ⟨pb,cb,rfl,hT,hb⟩
 clear EA
 have TB:=lh hT
 have HBB:=lh (hb)
 have HG:=lh (HG.out.below HBB.out)
 have HB:=lh (HB.out.trans (HBB.out.mono HB.out.size))
 have TA:=lh (TA.out.on HBB.out)
 clear HBB
 clear hT hb
 have EA:=parse_at (w2.alloc (.cells #[.int .u8 112,.int .u8 114,.int .u8 111,.int .u8 99,.int .u8 32,.int .u8 112,.int .u8 40,.int .u8 41,.int .u8 32,.int .u8 123,.int .u8 32,.int .u8 108,.int .u8 101,.int .u8 116,.int .u8 32,.int .u8 61,.int .u8 32,.int .u8 49,.int .u8 59,.int .u8 32,.int .u8 125] 5 (21,22))) (some ⟨w2.heap.size,0,none⟩) 21 21 _ (src_const w2 #[.int .u8 112,.int .u8 114,.int .u8 111,.int .u8 99,.int .u8 32,.int .u8 112,.int .u8 40,.int .u8 41,.int .u8 32,.int .u8 123,.int .u8 32,.int .u8 108,.int .u8 101,.int .u8 116,.int .u8 32,.int .u8 61,.int .u8 32,.int .u8 49,.int .u8 59,.int .u8 32,.int .u8 125] [112,114,111,99,32,112,40,41,32,123,32,108,101,116,32,61,32,49,59,32,125] 21 rfl rfl (by decide) 21 22) (by decide)
 have EA:=lh EA
 go_wp2_with fail
 (with_reducible refine EA.out.mono ?_)
 rintro e w3 ⟨hb,hm⟩
 clear EA
 rw [ex_c] at hm
 obtain ⟨C1,l1,c1,rfl,hE⟩:=hm
 have E1:=lh (hE.on (one_below w3 (.cells #[.slice none 0 0] 39)))
 have HBB:=lh (((one_below w2 (.cells #[.int .u8 112,.int .u8 114,.int .u8 111,.int .u8 99,.int .u8 32,.int .u8 112,.int .u8 40,.int .u8 41,.int .u8 32,.int .u8 123,.int .u8 32,.int .u8 108,.int .u8 101,.int .u8 116,.int .u8 32,.int .u8 61,.int .u8 32,.int .u8 49,.int .u8 59,.int .u8 32,.int .u8 125] 5 (21,22))).trans (hb.mono (by simp))).trans ((one_below w3 (.cells #[.slice none 0 0] 39)).mono (((one_below w2 (.cells #[.int .u8 112,.int .u8 114,.int .u8 111,.int .u8 99,.int .u8 32,.int .u8 112,.int .u8 40,.int .u8 41,.int .u8 32,.int .u8 123,.int .u8 32,.int .u8 108,.int .u8 101,.int .u8 116,.int .u8 32,.int .u8 61,.int .u8 32,.int .u8 49,.int .u8 59,.int .u8 32,.int .u8 125] 5 (21,22))).trans (hb.mono (by simp)))).size))
 have HG:=lh (HG.out.below HBB.out)
 have HB:=lh (HB.out.trans (HBB.out.mono HB.out.size))
 have TA:=lh (TA.out.on HBB.out)
 have TB:=lh (TB.out.on HBB.out)
 clear HBB
 clear hb hE
 have EA:=parse_at ((w3.alloc (.cells #[.slice none 0 0] 39)).alloc (.cells #[.int .u8 116,.int .u8 97,.int .u8 98,.int .u8 108,.int .u8 101,.int .u8 32,.int .u8 116,.int .u8 40,.int .u8 41,.int .u8 32,.int .u8 59] 5 (11,12))) (some ⟨(w3.alloc (.cells #[.slice none 0 0] 39)).heap.size,0,none⟩) 11 11 _ (src_const (w3.alloc (.cells #[.slice none 0 0] 39)) #[.int .u8 116,.int .u8 97,.int .u8 98,.int .u8 108,.int .u8 101,.int .u8 32,.int .u8 116,.int .u8 40,.int .u8 41,.int .u8 32,.int .u8 59] [116,97,98,108,101,32,116,40,41,32,59] 11 rfl rfl (by decide) 11 12) (by decide)
 have hz9:(w3.alloc (.cells #[.slice none 0 0] 39)).heap.size=w3.heap.size+1:=by simp
 rw [hz9] at EA
 have kc2:=kc (w3.alloc (.cells #[.slice none 0 0] 39)) (#[.int .u8 116,.int .u8 97,.int .u8 98,.int .u8 108,.int .u8 101,.int .u8 32,.int .u8 116,.int .u8 40,.int .u8 41,.int .u8 32,.int .u8 59]) 11 11
 rw [hz9] at kc2
 clear hz9
 have EA:=lh EA
 go_wp2_with fail
 (with_reducible refine EA.out.mono ?_)
 rintro e w4 ⟨hb,hm⟩
 clear EA
 rw [ex_d] at hm
 obtain ⟨C2,l2,c2,rfl,hE⟩:=hm
 have E2:=lh (hE.on (one_below w4 (.cells #[.slice none 0 0] 39)))
 have HBB:=lh (((one_below (w3.alloc (.cells #[.slice none 0 0] 39)) (.cells #[.int .u8 116,.int .u8 97,.int .u8 98,.int .u8 108,.int .u8 101,.int .u8 32,.int .u8 116,.int .u8 40,.int .u8 41,.int .u8 32,.int .u8 59] 5 (11,12))).trans (hb.mono (by simp))).trans ((one_below w4 (.cells #[.slice none 0 0] 39)).mono (((one_below (w3.alloc (.cells #[.slice none 0 0] 39)) (.cells #[.int .u8 116,.int .u8 97,.int .u8 98,.int .u8 108,.int .u8 101,.int .u8 32,.int .u8 116,.int .u8 40,.int .u8 41,.int .u8 32,.int .u8 59] 5 (11,12))).trans (hb.mono (by simp)))).size))
 have HG:=lh (HG.out.below HBB.out)
 have HB:=lh (HB.out.trans (HBB.out.mono HB.out.size))
 have TA:=lh (TA.out.on HBB.out)
 have TB:=lh (TB.out.on HBB.out)
 have E1:=lh (E1.out.on HBB.out)
 clear HBB
 clear hb hE
 have EA:=lh (place_err HG.out E1.out)
 go_wp2_with fail
 (with_reducible refine EA.out.mono ?_)
 rintro e w5 ⟨rfl,hb⟩
 clear EA
 have HBB:=lh (hb)
 have HG:=lh (HG.out.below HBB.out)
 have HB:=lh (HB.out.trans (HBB.out.mono HB.out.size))
 have TA:=lh (TA.out.on HBB.out)
 have TB:=lh (TB.out.on HBB.out)
 have E1:=lh (E1.out.on HBB.out)
 have E2:=lh (E2.out.on HBB.out)
 clear HBB
 clear hb
 have EA:=lh (place_err HG.out E2.out)
 go_wp2_with fail
 (with_reducible refine EA.out.mono ?_)
 rintro e w6 ⟨rfl,hb⟩
 clear EA
 have HBB:=lh (hb)
 have HG:=lh (HG.out.below HBB.out)
 have HB:=lh (HB.out.trans (HBB.out.mono HB.out.size))
 have TA:=lh (TA.out.on HBB.out)
 have TB:=lh (TB.out.on HBB.out)
 have E1:=lh (E1.out.on HBB.out)
 have E2:=lh (E2.out.on HBB.out)
 clear HBB
 clear hb
 obtain ⟨ba,oa,rfl,_,hn⟩:=TA.out.node (by decide)
 obtain ⟨_,_,_,hnc⟩:=hn 0 (by decide)
 have qa0kind:w6.cell? ⟨ba,oa,none⟩=some (.int .u8 24):=hnc.kind
 clear hnc
 obtain ⟨_,_,_,hnc⟩:=hn 1 (by decide)
 have qa1kind:w6.cell? ⟨ba,oa+5,none⟩=some (.int .u8 24):=hnc.kind
 clear hnc
 obtain ⟨_,_,_,hnc⟩:=hn 2 (by decide)
 have qa2n:w6.cell? ⟨ba,oa+13,none⟩=some (.int .i64 1):=hnc.n
 clear hnc
 obtain ⟨_,_,_,hnc⟩:=hn 4 (by decide)
 have qa4n:w6.cell? ⟨ba,oa+23,none⟩=some (.int .i64 3):=hnc.n
 clear hnc
 clear hn
 obtain ⟨bb,ob,rfl,_,hn⟩:=TB.out.node (by decide)
 obtain ⟨_,_,_,hnc⟩:=hn 0 (by decide)
 have qb0kind:w6.cell? ⟨bb,ob,none⟩=some (.int .u8 25):=hnc.kind
 clear hnc
 obtain ⟨_,_,_,hnc⟩:=hn 1 (by decide)
 have qb1kind:w6.cell? ⟨bb,ob+5,none⟩=some (.int .u8 26):=hnc.kind
 clear hnc
 obtain ⟨_,_,_,hnc⟩:=hn 3 (by decide)
 have qb3text:w6.cell? ⟨bb,ob+17,none⟩=some (.string ⟨#[98]⟩):=hnc.text
 clear hnc
 clear hn
 have EA:=lh (code_err HG.out E1.out)
 go_wp2_with fail
 (with_reducible refine EA.out.mono ?_)
 rintro e w7 ⟨rfl,hb⟩
 clear EA
 have HBB:=lh (hb)
 have HG:=lh (HG.out.below HBB.out)
 have HB:=lh (HB.out.trans (HBB.out.mono HB.out.size))
 have TA:=lh (TA.out.on HBB.out)
 have TB:=lh (TB.out.on HBB.out)
 have E1:=lh (E1.out.on HBB.out)
 have E2:=lh (E2.out.on HBB.out)
 clear HBB
 clear hb
 have EA:=lh (code_err HG.out E2.out)
 go_wp2_with fail
 (with_reducible refine EA.out.mono ?_)
 rintro e w8 ⟨rfl,hb⟩
 clear EA
 have HBB:=lh (hb)
 have HG:=lh (HG.out.below HBB.out)
 have HB:=lh (HB.out.trans (HBB.out.mono HB.out.size))
 have TA:=lh (TA.out.on HBB.out)
 have TB:=lh (TB.out.on HBB.out)
 have E1:=lh (E1.out.on HBB.out)
 have E2:=lh (E2.out.on HBB.out)
 clear HBB
 clear hb
 go_wp2_with fail
 go_ret
 exact ⟨rfl,HB.out⟩
end
section
open Go.RowKit Par
mutual
theorem flatL_few (o:Nat):∀(ks:List Ast),sizeL ks≤70000→∀nd∈flatL o ks,nd.kids.length≤70000
 | [],_,nd,hnd=>by simp [flatL] at hnd
 | x::r,hs,nd,hnd=>by
  simp only [flatL,List.mem_append] at hnd
  simp only [sizeL] at hs
  rcases hnd with hnd|hnd
  · exact flat_few o x (by omega) nd hnd
  · exact flatL_few _ r (by omega) nd hnd
theorem flat_few (o:Nat):∀(a:Ast),a.size≤70000→∀nd∈flat o a,nd.kids.length≤70000
 | .mk k p t n ks,hs,nd,hnd=>by
  simp only [flat,List.mem_cons] at hnd
  simp only [Ast.size] at hs
  rcases hnd with rfl|hnd
  · simp only [heads_length]
    have:=length_le_sizeL ks
    omega
  · exact flatL_few (o+1) ks (by omega) nd hnd
end
theorem program_few {l l':List PT}{a:Ast}(h:programP l=.ok a l'):a.size≤l.length+1:=by
 obtain ⟨t,r,ks,hl,rfl,hm⟩:=program_of h
 have h2:sizeL ks+l'.length≤0+l.length:=Sz.many (cr:=sizeL) sz_prog [] _ _ _ hm
 simp only [nodeA,Ast.size]
 omega
theorem parse_few {xs:List Int}{ns:List Nd}(hp:parseS xs=.ok ns)(hl:xs.length≤60000):ns.length≤70000∧∀nd∈ns,nd.kids.length≤70000:=by
 cases hx:lexS xs with
 | error e=>simp [parseS,hx] at hp
 | ok ts =>
  simp only [parseS,hx] at hp
  cases hq:programP (ts.map ptOf) with
  | err p c=>rw [hq] at hp;simp at hp
  | ok a l =>
   rw [hq] at hp
   simp only [Except.ok.injEq] at hp
   subst hp
   have h1:=program_few hq
   have h2:=lexN_len _ _ _ _ hx
   rw [List.length_map] at h1
   exact ⟨by rw [flat_length];omega,flat_few 0 a (by omega)⟩
theorem place_nilA (w:World) :
 Calls Tryz.prog 26 #[.nilIface] w fun e w'=>e=.returned (.tuple #[.int .i64 0,.int .i64 0,.int .i64 0,.bool false])∧Below w.heap.size w w':=by
 have hmf:∀(fn:Fn) (first cap:Array Value) (w:World),(Instr.makeFunc fn first cap).run Tryz.prog w=.ok (.func fn first cap) w:=fun _ _ _ _=>rfl
 have HA:∀(v:Value) (W:World),Calls Tryz.prog 61 #[.nilIface,v] W fun e w'=>e=.returned (.bool false)∧W=w':=fun v W=>by
  go_enter Tryz.func61,Tryz.ntmps61
  go_wp2
  go_ret
  exact ⟨rfl,rfl⟩
 have H:=lh HA
 clear HA
 go_enter_defers Tryz.func26,Tryz.ntmps26
 go_wp2_with (go_at_call 61;(with_reducible refine (H.out _ _).mono ?_);rintro e' w' ⟨rfl,rfl⟩)
 refine leaves_cons (f := 62) (args:=#[.pointer (some ⟨w.heap.size,0,none⟩),.pointer (some ⟨w.heap.size+1,0,none⟩),.pointer (some ⟨w.heap.size+1+1,0,none⟩),.pointer (some ⟨w.heap.size+1+1+1,0,none⟩)]) (by simp) (by simp [go_sem]) ?_
 refine (placeDone _ _ _ _ _).mono ?_
 rintro e u' w'' ⟨rfl,rfl,rfl⟩
 simp [Leaves,settle,results,Tryz.results26,go_sem]
 exact (((((Below.refl _ _).alloc (Nat.le_refl _) _).alloc (by simp) _).alloc (by simp;omega) _).alloc (by simp;omega) _).alloc (by simp;omega) _
end
section
open Par
theorem bytesT_of (l:List Int)(h:∀x∈l,0≤x∧x<256):Tr.bytesI (strOfNums l)=l:=by
 unfold Tr.bytesI
 rw [strOfNums_data,List.map_map]
 conv=>rhs;rw [← List.map_id l]
 apply List.map_congr_left
 intro x hx
 have:=h x hx
 have e:(UInt8.ofNat x.toNat).toNat=x.toNat:=by simp;omega
 simp only [Function.comp,e,id]
 rw [Int.toNat_of_nonneg this.1]
theorem numV_bound:∀(l:List Int) (m v:Int),0≤m→m≤2147483647→numV m l=some v→0≤v∧v≤2147483647
 | [],m,v,h0,h1,h=>by simp only [numV,Option.some.injEq] at h;omega
 | c::r,m,v,h0,h1,h=>by
  simp only [numV] at h
  split at h
  · rename_i hd
    simp only [isDigit,Bool.and_eq_true,decide_eq_true_eq] at hd
    split at h
    · simp at h
    · exact numV_bound r _ v (by omega) (by omega) h
  · simp only [Option.some.injEq] at h;omega
theorem run_takes (p:Int→Bool):∀l:List Int,∀x∈l.take (run p l),p x=true
 | [],x,hx=>by simp at hx
 | c::r,x,hx=>by
  simp only [run] at hx
  split at hx
  · rename_i hc
    rw [List.take_succ_cons] at hx
    rcases List.mem_cons.1 hx with rfl|hx
    · exact hc
    · exact run_takes p r x hx
  · simp at hx
theorem nameB_byte {x:Int}(h:isNameB x=true):0≤x∧x<256:=by
 simp only [isNameB,isLetter,isDigit,Bool.or_eq_true,Bool.and_eq_true,decide_eq_true_eq,beq_iff_eq] at h
 omega
theorem step_good {c:Int}{r:List Int}{k n:Int}{len a b:Nat}(h:step (c::r)=.tok k len n)(hf:(c::r).length≤70000):GoodP (ptOf ⟨k,a,b,(c::r).take len,n⟩):=by
 simp only [step] at h
 split at h
 · rename_i hc
   simp only [Step.tok.injEq] at h
   obtain ⟨rfl,rfl,rfl⟩:=h
   refine ⟨fun _=>⟨?_,by simp only [ptOf,strOfNums_size,List.length_take];omega⟩,by simp [ptOf]⟩
   have hall:=run_takes isNameB (c::r)
   show Tr.namesF (Tr.bytesI (strOfNums ((c::r).take (run isNameB (c::r)))))=true
   rw [bytesT_of _ (fun x hx=>nameB_byte (hall x hx))]
   have hp:run isNameB (c::r)=run isNameB r+1:=run_pos (by simp [isNameB,hc])
   rw [hp] at hall ⊢
   rw [List.take_succ_cons] at hall ⊢
   unfold Tr.namesF
   simp only [hc,Bool.true_and,List.all_eq_true]
   exact hall
 · split at h
   · split at h
     · rename_i n' hn
       simp only [Step.tok.injEq] at h
       obtain ⟨rfl,rfl,rfl⟩:=h
       exact ⟨by simp [ptOf],fun _=>numV_bound _ 0 _ (by decide) (by decide) hn⟩
     · simp at h
   · split at h
     · simp only [Step.tok.injEq] at h
       obtain ⟨rfl,rfl,rfl⟩:=h
       exact ⟨by simp [ptOf],by simp [ptOf]⟩
     · simp at h
theorem end_good (p:Nat):GoodP (ptOf (Tok.endAt p)):=⟨by simp [ptOf,Tok.endAt],by simp [ptOf,Tok.endAt]⟩
theorem lexN_good (f p:Nat)(l:List Int)(ts:List Tok)(hf:l.length≤70000)(h:lexN f p l=.ok ts):∀t∈ts,GoodP (ptOf t):=by
 induction f generalizing p l ts with
 | zero =>
  simp only [lexN,Except.ok.injEq] at h
  subst h
  intro t ht
  rw [List.mem_singleton.1 ht]
  exact end_good p
 | succ f ih =>
  simp only [lexN] at h
  split at h
  · simp only [Except.ok.injEq] at h
    subst h
    intro t ht
    rw [List.mem_singleton.1 ht]
    exact end_good _
  · rename_i c r hd
    split at h
    · simp at h
    · rename_i k len n hs
      cases hu:lexN f (p+blk false l+len) ((c::r).drop len) with
      | error e=>rw [hu] at h;simp [pre] at h
      | ok us =>
       have hd2:(c::r).length≤70000:=by rw [← hd,List.length_drop];omega
       rw [hu] at h
       simp only [pre,Except.ok.injEq,List.singleton_append] at h
       subst h
       intro t ht
       rcases List.mem_cons.1 ht with rfl|ht
       · exact step_good hs hd2
       · exact ih _ _ us (by rw [List.length_drop];omega) hu t ht
theorem parse_wf {xs:List Int}{ns:List Nd}(hp:parseS xs=.ok ns)(hl:xs.length≤60000):∃a,ns=flat 0 a∧wfR a∧a.kind=1∧a.size≤xs.length+2:=by
 cases hx:lexS xs with
 | error e=>simp [parseS,hx] at hp
 | ok ts =>
  simp only [parseS,hx] at hp
  cases hq:programP (ts.map ptOf) with
  | err p c=>rw [hq] at hp;simp at hp
  | ok a l =>
   rw [hq] at hp
   simp only [Except.ok.injEq] at hp
   have h1:=program_few hq
   have h2:=lexN_len _ _ _ _ hx
   rw [List.length_map] at h1
   have hg:GL (ts.map ptOf):=fun t ht=>by
    obtain ⟨u,hu,rfl⟩:=List.mem_map.1 ht
    exact lexN_good _ _ _ _ (by omega) hx u hu
   obtain ⟨⟨h3,h4⟩,_⟩:=gd_program _ hg a l hq
   exact ⟨a,hp.symm,h3,h4,by omega⟩
theorem parse_right {xs:List Int}{ns:List Nd}(hp:parseS xs=.ok ns)(hl:xs.length≤60000):Tr.rightP ns=true∧∀nd∈ns,nd.text.size≤70000:=by
 obtain ⟨a,rfl,h1,h2,h3⟩:=parse_wf hp hl
 exact ⟨right_flatR a (by omega) h2 h1,texts_few 0 a h1⟩
end
section
open Par
theorem maxL_le {g:Int→Nat}{ks:List Int}{m:Nat}(h:∀k∈ks,g k≤m):Tr.maxL g ks≤m:=by
 induction ks with
 | nil=>simp [Tr.maxL]
 | cons k ks ih =>
  rw [Tr.maxL_cons]
  have h1:=h k (by simp)
  have h2:=ih fun k hk=>h k (by simp [hk])
  omega
theorem ownK_le (t:List Nd)(i j:Nat):Tr.ownK t i j≤1:=by unfold Tr.ownK;split<;>omega
theorem deep_le {t:List Nd}{S:Nat→Nat}(h:Tr.RightSz (Tr.kidsAt t) S t.length):∀f i,i<t.length→Tr.deepK (Tr.ownK t) (Tr.kidsAt t) f i+i+1≤t.length
 | 0,i,hi=>by simp only [Tr.deepK];omega
 | f+1,i,hi=>by
  have:Tr.deepK (Tr.ownK t) (Tr.kidsAt t) (f+1) i≤t.length-i-1:=maxL_le fun k hk=>by
   obtain ⟨j,rfl,h1,_,h3⟩:=h.kid hi hk
   have h4:=deep_le h f j h3
   have h5:=ownK_le t i j
   simp only [Int.toNat_natCast]
   omega
  omega
theorem deepP_le {t:List Nd}(hr:Tr.rightP t=true):Tr.deepP t+1≤t.length:=by
 obtain ⟨s,hs,_,_⟩:=Tr.right_sizes hr
 have ho:=Tr.sizesP_some hs
 unfold Tr.deepP
 rw [if_pos hr]
 have:=deep_le ho.right t.length 0 ho.pos
 omega
theorem tokL_self {l:List PT}{ρ:Nat→Nat→Prop}(h:∀t∈l,ρ t.at' t.at'):TokL ρ l l:=by
 induction l with
 | nil=>exact .nil
 | cons t r ih=>exact .cons ⟨rfl,rfl,rfl,h t (by simp)⟩ (ih fun u hu=>h u (by simp [hu]))
mutual
theorem flat_place {ρ:Nat→Nat→Prop}(o:Nat):∀(a:Ast),AstR ρ a a→∀nd∈flat o a,∃p:Nat,nd.at'=(p:Int)∧ρ p p
 | .mk k p t n ks,h,nd,hnd=>by
  cases h with
  | mk h hl hk =>
   simp only [flat,List.mem_cons] at hnd
   rcases hnd with rfl|hnd
   · exact ⟨p,rfl,h⟩
   · exact flatL_place (o+1) ks (fun x hx=>by
      obtain ⟨i,hi⟩:=List.mem_iff_getElem?.1 hx
      exact hk i x x hi hi) nd hnd
theorem flatL_place {ρ:Nat→Nat→Prop}(o:Nat):∀(l:List Ast),(∀x∈l,AstR ρ x x)→∀nd∈flatL o l,∃p:Nat,nd.at'=(p:Int)∧ρ p p
 | [],_,nd,hnd=>by simp [flatL] at hnd
 | x::r,h,nd,hnd=>by
  simp only [flatL,List.mem_append] at hnd
  rcases hnd with hnd|hnd
  · exact flat_place o x (h x (by simp)) nd hnd
  · exact flatL_place _ r (fun y hy=>h y (by simp [hy])) nd hnd
end
theorem parse_places {xs:List Int}{ns:List Nd}{ts:List Tok}(hp:parseS xs=.ok ns)(hx:lexS xs=.ok ts):ns.length≤ts.length+1∧∀nd∈ns,∃t∈ts,nd.at'=(t.at':Int):=by
 simp only [parseS,hx] at hp
 cases hq:programP (ts.map ptOf) with
 | err p c=>rw [hq] at hp;simp at hp
 | ok a l =>
  rw [hq] at hp
  simp only [Except.ok.injEq] at hp
  subst hp
  have h1:=program_few hq
  rw [List.length_map] at h1
  refine ⟨by rw [flat_length];exact h1,fun nd hnd=>?_⟩
  have hr:=rel_program (ρ:=fun p q=>p=q∧∃t∈ts,t.at'=p) (ts.map ptOf) (ts.map ptOf) (tokL_self fun t ht=>by
   obtain ⟨u,hu,rfl⟩:=List.mem_map.1 ht
   exact ⟨rfl,u,hu,rfl⟩)
  rw [hq] at hr
  obtain ⟨p,e,_,t,ht,h2⟩:=flat_place 0 a hr.1 nd hnd
  exact ⟨t,ht,by rw [e,h2]⟩
end
section
open Go.RowKit
theorem pick_at (i:Int)(k:Nat)(h1:1≤k)(h2:k≤70000)(w:World):Calls Tryz.prog 52 #[.int .i64 i,.int .i64 (k:Int)] w fun e w'=>∃j:Nat,j<k∧e=.returned (.int .i64 (j:Int))∧w'=w:=by
 have hk:¬ (k:Int)≤0:=by omega
 have hk0:¬ (k:Int)=0:=by omega
 have hm1:-(k:Int)<i.tmod k:=Int.lt_tmod_of_pos i (by omega)
 have hm2:i.tmod k<(k:Int):=Int.tmod_lt_of_pos i (by omega)
 generalize hr:i.tmod k=r at *
 have hm3:0≤r % (k:Int):=Int.emod_nonneg _ (by omega)
 have hm4:r % (k:Int)<(k:Int):=Int.emod_lt_of_pos _ (by omega)
 obtain ⟨j,hj⟩:∃j:Nat,r % (k:Int)=(j:Int):=⟨(r % (k:Int)).toNat,by omega⟩
 have hjk:j<k:=by omega
 have HJ:=lh hj
 have HJK:=lh hjk
 clear hm3 hm4 hj hjk
 go_enter Tryz.func52,Tryz.ntmps52
 go_wp2_with fail
 rw [HJ.out]
 go_ret
 exact ⟨j,HJK.out,rfl,rfl⟩
theorem begins_big (w:World)(p:Option Addr)(len c:Nat)(i:Int)(hg:ET w)(hb:1000<len) :
 Calls Tryz.prog 16 #[.slice p len c,.int .i64 i] w fun e w'=>e=.returned (.bool true)∧Below w.heap.size w w':=by
 have hd:(1000:Int)<(len:Int):=by omega
 have WK:=lh (works_at w hg)
 clear hg
 go_enter Tryz.func16,Tryz.ntmps16
 go_wp2_with fail
 (with_reducible refine WK.out.mono ?_)
 rintro e w1 ⟨rfl,hb1⟩
 go_wp2
 go_ret
 exact ⟨rfl,hb1⟩
theorem begins_err (w:World)(p:Option Addr)(len c:Nat)(xs:List Int)(i:Int)(h:Src w p len c xs)(hg:ET w)(hb:len≤1000)(k:Nat)(er:Int)(hp:parseS xs=.error (k,er)) :
 Calls Tryz.prog 16 #[.slice p len c,.int .i64 i] w fun e w'=>e=.returned (.bool true)∧Below w.heap.size w w':=by
 have hd:¬ (1000:Int)<(len:Int):=by omega
 have PA:=lh (parse_at w p len c xs h (by omega))
 have HP:=lh hp
 have HG:=lh hg
 have HS:=lh h
 clear hg h hp
 go_enter Tryz.func16,Tryz.ntmps16
 go_wp2_with fail
 (with_reducible refine PA.out.mono ?_)
 rintro e w1 ⟨hb1,hm⟩
 rw [HP.out] at hm
 obtain ⟨C,l,cc,rfl,hE⟩:=hm
 have B1:=lh (hb1.trans ((one_below w1 (.cells #[.slice none 0 0] 39)).mono hb1.size))
 have LA:=lh (lex_at (w1.alloc (.cells #[.slice none 0 0] 39)) p len c xs (HS.out.below B1.out) (by omega))
 clear hE hb1 PA
 go_wp2_with fail
 (with_reducible refine LA.out.mono ?_)
 rintro e w2 ⟨hm,hb2⟩
 have B2:=lh (B1.out.trans (hb2.mono B1.out.size))
 have WK:=lh (works_at w2 (HG.out.below B2.out))
 cases hx:lexS xs with
 | error e0 =>
  rw [hx] at hm
  obtain ⟨C2,l2,cc2,rfl,_⟩:=hm
  clear hb2 LA hx
  go_wp2_with fail
  (with_reducible refine WK.out.mono ?_)
  rintro e w3 ⟨rfl,hb3⟩
  go_wp2
  go_ret
  exact ⟨rfl,B2.out.trans (hb3.mono B2.out.size)⟩
 | ok ts =>
  rw [hx] at hm
  obtain ⟨g,cap,rfl,_⟩:=hm
  clear hb2 LA hx
  go_wp2_with fail
  (with_reducible refine WK.out.mono ?_)
  rintro e w3 ⟨rfl,hb3⟩
  go_wp2
  go_ret
  exact ⟨rfl,B2.out.trans (hb3.mono B2.out.size)⟩
theorem place_nil (w:World) :
 Calls Tryz.prog 26 #[.nilIface] w fun e w'=>e=.returned (.tuple #[.int .i64 0,.int .i64 0,.int .i64 0,.bool false])∧Below w.heap.size w w':=by
 have hmf:∀(fn:Fn) (first cap:Array Value) (w:World),(Instr.makeFunc fn first cap).run Tryz.prog w=.ok (.func fn first cap) w:=fun _ _ _ _=>rfl
 have HA:∀(v:Value) (W:World),Calls Tryz.prog 61 #[.nilIface,v] W fun e w'=>e=.returned (.bool false)∧W=w':=fun v W=>by
  go_enter Tryz.func61,Tryz.ntmps61
  go_wp2
  go_ret
  exact ⟨rfl,rfl⟩
 have H:=lh HA
 clear HA
 go_enter_defers Tryz.func26,Tryz.ntmps26
 go_wp2_with (go_at_call 61;(with_reducible refine (H.out _ _).mono ?_);rintro e' w' ⟨rfl,rfl⟩)
 refine leaves_cons (f := 62) (args:=#[.pointer (some ⟨w.heap.size,0,none⟩),.pointer (some ⟨w.heap.size+1,0,none⟩),.pointer (some ⟨w.heap.size+1+1,0,none⟩),.pointer (some ⟨w.heap.size+1+1+1,0,none⟩)]) (by simp) (by simp [go_sem]) ?_
 refine (placeDone _ _ _ _ _).mono ?_
 rintro e u' w'' ⟨rfl,rfl,rfl⟩
 simp [Leaves,settle,results,Tryz.results26,go_sem]
 exact (((((Below.refl _ _).alloc (Nat.le_refl _) _).alloc (by simp) _).alloc (by simp;omega) _).alloc (by simp;omega) _).alloc (by simp;omega) _
theorem sub_run0 (W:World)(p:Option Addr)(len c e:Nat)(h2:e≤c) :
 (Instr.sliceAt 22 (.slice p len c) none (some (.int .i64 e)) none).run Tryz.prog W=.ok (.slice (subP p c 0) e c) W:=by
 have hu:Tryz.prog.underlying 22=some (.slice (Tryz.prog.elem 22)):=by kernel_rfl
 have hz:∀W,(sizeOf (Tryz.prog.elem 22)).run Tryz.prog W=.ok 1 W:=fun _=>by kernel_rfl
 rw [run_sliceAt_slice W 22 _ _ _ _ hu,run_slice_h W 22 p len c hu .i64 e (by omega) (by omega),hz]
 rfl
theorem begins_ok (w:World)(p:Option Addr)(len c:Nat)(xs:List Int)(i:Int)(h:Src w p len c xs)(hg:ET w)(hb:len≤1000)(ns:List Nd)(hp:parseS xs=.ok ns)(ts:List Tok)(hx:lexS xs=.ok ts) :
 Calls Tryz.prog 16 #[.slice p len c,.int .i64 i] w fun e w'=>e=.returned (.bool true)∧Below w.heap.size w w':=by
 have hd:¬ (1000:Int)<(len:Int):=by omega
 have hxl:xs.length=len:=h.1
 have hcl:len≤c:=by
  rcases h.2.2 with ⟨h3,h4⟩|⟨b,off,e,hc,_⟩
  · omega
  · exact hc
 obtain ⟨vs,hts,hvs⟩:=lexS_shape hx
 have htl:=lexN_len _ _ _ _ hx
 have htp:1≤ts.length:=by rw [hts];simp
 have PA:=lh (parse_at w p len c xs h (by omega))
 have HP:=lh hp
 have HX:=lh hx
 have HG:=lh hg
 have HS:=lh h
 have HXL:=lh hxl
 clear hg h hp hx hts hvs hxl
 go_enter Tryz.func16,Tryz.ntmps16
 go_wp2_with fail
 (with_reducible refine PA.out.mono ?_)
 rintro e w1 ⟨hb1,hm⟩
 rw [HP.out] at hm
 obtain ⟨tp,tl,tc,rfl,_⟩:=hm
 have B1:=lh (hb1.trans ((one_below w1 (.cells #[.slice tp tl tc] 39)).mono hb1.size))
 have LA:=lh (lex_ok (HS.out.below B1.out) (by omega) HX.out)
 clear hb1 PA
 go_wp2_with fail
 (with_reducible refine LA.out.mono ?_)
 rintro e w2 ⟨g,cap,rfl,hT,_,hb2⟩
 have B2:=lh (B1.out.trans (hb2.mono B1.out.size))
 have HT:=lh hT
 have PK:=lh (pick_at i ts.length htp (by have:=HXL.out;omega) w2)
 have hz0:¬ (ts.length:Int)=0:=by omega
 have hz1:¬ ts.length=0:=by omega
 clear hb2 hT LA
 go_wp2_with fail
 (with_reducible refine PK.out.mono ?_)
 rintro e w3 ⟨k,hk,rfl,rfl⟩
 obtain ⟨t,ht⟩:∃t,ts[k]?=some t:=⟨_,List.getElem?_eq_getElem hk⟩
 obtain ⟨hat,_⟩:=lexS_cut HX.out k t ht
 have hct:w3.cell? ⟨g,k*5+1,none⟩=some (.int .i64 (t.at':Int)):=HT.out.cell (k*5+1) _ (by rw [tok_cell ts k 1 t ht (by decide)];rfl)
 have hatl:t.at'≤len:=by have:=HXL.out;omega
 have sr:=fun W=>sub_run0 W p len c t.at' (by omega)
 have hk0:(0:Int)≤(k:Int):=by omega
 have hk1:(k:Int)<(ts.length:Int):=by omega
 have HSR:Src w3 (subP p c 0) t.at' c (xs.take t.at'):=by
  have:=sub_src (HS.out.below B2.out) 0 t.at' (Nat.zero_le _) hatl
  simpa using this
 have PB:=lh (parse_at w3 (subP p c 0) t.at' c (xs.take t.at') HSR (by omega))
 have HC:=lh (parse_cut HP.out HX.out k t ht)
 generalize subP p c 0=p2 at *
 clear HSR PK hat ht
 go_wp2_with fail
 (with_reducible refine PB.out.mono ?_)
 rintro e w4 ⟨hb4,hm⟩
 have B4:=lh (B2.out.trans (hb4.mono B2.out.size))
 clear hb4 PB
 rcases HC.out with hce|⟨ms,hce⟩
 · rw [hce] at hm
   obtain ⟨C,l,cc,rfl,hE⟩:=hm
   have B5:=lh (B4.out.trans ((one_below w4 (.cells #[.slice none 0 0] 39)).mono B4.out.size))
   have HE:=lh (hE.on (one_below w4 (.cells #[.slice none 0 0] 39)))
   have PE:=lh (place_err (HG.out.below B5.out) HE.out)
   clear hce hE
   go_wp2_with fail
   (with_reducible refine PE.out.mono ?_)
   rintro e w5 ⟨rfl,hb5⟩
   have B6:=lh (B5.out.trans (hb5.mono B5.out.size))
   have CE:=lh (code_err (HG.out.below B6.out) (HE.out.on hb5))
   clear PE hb5
   go_wp2_with fail
   (with_reducible refine CE.out.mono ?_)
   rintro e w6 ⟨rfl,hb6⟩
   have B7:=lh (B6.out.trans (hb6.mono B6.out.size))
   have WK:=lh (works_at w6 (HG.out.below B7.out))
   clear CE hb6
   go_wp2_with fail
   (with_reducible refine WK.out.mono ?_)
   rintro e w7 ⟨rfl,hb7⟩
   go_wp2
   go_ret
   exact ⟨rfl,B7.out.trans (hb7.mono B7.out.size)⟩
 · rw [hce] at hm
   obtain ⟨p5,l5,c5,rfl,_⟩:=hm
   have B5:=lh (B4.out.trans ((one_below w4 (.cells #[.slice p5 l5 c5] 39)).mono B4.out.size))
   have PE:=lh (place_nil (w4.alloc (.cells #[.slice p5 l5 c5] 39)))
   clear hce
   go_wp2_with fail
   (with_reducible refine PE.out.mono ?_)
   rintro e w5 ⟨rfl,hb5⟩
   have B6:=lh (B5.out.trans (hb5.mono B5.out.size))
   have WK:=lh (works_at w5 (HG.out.below B6.out))
   clear PE hb5
   go_wp2_with fail
   (with_reducible refine WK.out.mono ?_)
   rintro e w6 ⟨rfl,hb6⟩
   go_wp2
   go_ret
   exact ⟨rfl,B6.out.trans (hb6.mono B6.out.size)⟩
theorem parseBegins (w:World)(p:Option Addr)(len c:Nat)(xs:List Int)(i:Int)(h:Src w p len c xs)(hg:ET w) :
 Calls Tryz.prog 16 #[.slice p len c,.int .i64 i] w fun e w'=>e=.returned (.bool true)∧Below w.heap.size w w':=by
 by_cases hb:len≤1000
 · cases hp:parseS xs with
   | error e=>exact begins_err w p len c xs i h hg hb e.1 e.2 hp
   | ok ns =>
    cases hx:lexS xs with
    | error e=>simp [parseS,hx] at hp
    | ok ts=>exact begins_ok w p len c xs i h hg hb ns hp ts hx
 · exact begins_big w p len c i hg (by omega)
end
end Go.Proofs.YthdioipfdbbmmaaGreatDoor
