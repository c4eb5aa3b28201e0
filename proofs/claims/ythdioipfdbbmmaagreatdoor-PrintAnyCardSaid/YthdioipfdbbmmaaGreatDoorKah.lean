/- Contracts. -/
import Derived.Test.YthdioipfdbbmmaaGreatDoorKad
import Derived.Test.YthdioipfdbbmmaaGreatDoorKaf
import Derived.Test.YthdioipfdbbmmaaGreatDoorProg
import Derived.WalkKit
import Derived.Handy
import Derived.Below
import Derived.Carry
import Derived.Deep.QuietTactic
import Derived.BigQuiet
set_option linter.all false
set_option maxRecDepth 1000000
set_option maxHeartbeats 16000000
namespace Go.Proofs.YthdioipfdbbmmaaGreatDoor
section
mutual
def flat (o:Nat):Ast→List Nd
 | .mk k a t n ks=>⟨k,a,t,n,heads (o+1) ks⟩::flatL (o+1) ks
def flatL (o:Nat):List Ast→List Nd
 | []=>[]
 | x::r=>flat o x++flatL (o+x.size) r
def heads (o:Nat):List Ast→List Int
 | []=>[]
 | x::r=>(o:Int)::heads (o+x.size) r
end
mutual
def raw (b:Nat):Ast→List (Nat × Nd)
 | .mk k a t n ks=>(b+sizeL ks,⟨k,a,t,n,roots b ks⟩)::rawL b ks
def rawL (b:Nat):List Ast→List (Nat × Nd)
 | []=>[]
 | x::r=>raw b x++rawL (b+x.size) r
end
mutual
theorem raw_length (b:Nat):∀a:Ast,(raw b a).length=a.size
 | .mk k a t n ks=>by simp only [raw,List.length_cons,rawL_length b ks,Ast.size]
theorem rawL_length (b:Nat):∀l:List Ast,(rawL b l).length=sizeL l
 | []=>by simp [rawL,sizeL]
 | x::r=>by simp only [rawL,List.length_append,raw_length b x,rawL_length (b+x.size) r,sizeL]
end
mutual
theorem flat_length (b:Nat):∀a:Ast,(flat b a).length=a.size
 | .mk k a t n ks=>by simp only [flat,List.length_cons,flatL_length (b+1) ks,Ast.size]
theorem flatL_length (b:Nat):∀l:List Ast,(flatL b l).length=sizeL l
 | []=>by simp [flatL,sizeL]
 | x::r=>by simp only [flatL,List.length_append,flat_length b x,flatL_length (b+x.size) r,sizeL]
end
theorem heads_length (b:Nat)(l:List Ast):(heads b l).length=l.length:=by
 induction l generalizing b with
 | nil=>simp [heads]
 | cons x r ih=>simp only [heads,List.length_cons,ih]
theorem raw_head (b:Nat)(a:Ast):∃nd rest,raw b a=(b+a.size-1,nd)::rest:=by
 cases a with
 | mk k a t n ks=>exact ⟨_,_,by simp only [raw,Ast.size];rw [show b+(sizeL ks+1)-1=b+sizeL ks by omega]⟩
mutual
theorem raw_range (b:Nat):∀(a:Ast) (x:Nat × Nd),x∈raw b a→b≤x.1∧x.1<b+a.size
 | .mk k a t n ks,x,hx=>by
  simp only [raw,List.mem_cons] at hx
  simp only [Ast.size]
  rcases hx with rfl|hx
  · simp only;omega
  · have:=rawL_range b ks x hx
    omega
theorem rawL_range (b:Nat):∀(l:List Ast) (x:Nat × Nd),x∈rawL b l→b≤x.1∧x.1<b+sizeL l
 | [],x,hx=>by simp [rawL] at hx
 | y::r,x,hx=>by
  simp only [rawL,List.mem_append] at hx
  simp only [sizeL]
  rcases hx with hx|hx
  · have:=raw_range b y x hx
    omega
  · have:=rawL_range (b+y.size) r x hx
    omega
end
mutual
theorem raw_nodup (b:Nat):∀a:Ast,((raw b a).map (·.1)).Nodup
 | .mk k a t n ks=>by
  simp only [raw,List.map_cons,List.nodup_cons]
  refine ⟨fun h=>?_,rawL_nodup b ks⟩
  obtain ⟨x,hx,e⟩:=List.mem_map.1 h
  have:=rawL_range b ks x hx
  omega
theorem rawL_nodup (b:Nat):∀l:List Ast,((rawL b l).map (·.1)).Nodup
 | []=>by simp [rawL]
 | y::r=>by
  simp only [rawL,List.map_append]
  refine List.nodup_append.2 ⟨raw_nodup b y,rawL_nodup (b+y.size) r,fun p hp q hq e=>?_⟩
  obtain ⟨x,hx,e1⟩:=List.mem_map.1 hp
  obtain ⟨z,hz,e2⟩:=List.mem_map.1 hq
  have h1:=raw_range b y x hx
  have h2:=rawL_range (b+y.size) r z hz
  omega
end
mutual
theorem raw_post (b:Nat):∀(a:Ast) (x:Nat × Nd),x∈raw b a→(post b a)[x.1-b]?=some x.2
 | .mk k a t n ks,x,hx=>by
  simp only [raw,List.mem_cons] at hx
  simp only [post]
  rcases hx with rfl|hx
  · simp only
    rw [List.getElem?_append_right (by rw [postL_length];omega),postL_length,show b+sizeL ks-b-sizeL ks=0 by omega]
    rfl
  · have h1:=rawL_range b ks x hx
    rw [List.getElem?_append_left (by rw [postL_length];omega)]
    exact rawL_post b ks x hx
theorem rawL_post (b:Nat):∀(l:List Ast) (x:Nat × Nd),x∈rawL b l→(postL b l)[x.1-b]?=some x.2
 | [],x,hx=>by simp [rawL] at hx
 | y::r,x,hx=>by
  simp only [rawL,List.mem_append] at hx
  simp only [postL]
  rcases hx with hx|hx
  · have h1:=raw_range b y x hx
    rw [List.getElem?_append_left (by rw [post_length];omega)]
    exact raw_post b y x hx
  · have h1:=rawL_range (b+y.size) r x hx
    rw [List.getElem?_append_right (by rw [post_length];omega),post_length,show x.1-b-y.size=x.1-(b+y.size) by omega]
    exact rawL_post (b+y.size) r x hx
end
def placed (g:Int→Int)(x:Nat × Nd):Nd:={ x.2 with kids:=x.2.kids.map g }
theorem roots_heads (g:Int→Int)(b o:Nat)(l:List Ast)(hg:∀i x,(rawL b l)[i]?=some x→g x.1=((o+i:Nat):Int)):(roots b l).map g=heads o l:=by
 induction l generalizing b o with
 | nil=>simp [roots,heads]
 | cons y r ih =>
  obtain ⟨nd,rest,hr⟩:=raw_head b y
  have hs:=size_pos y
  simp only [roots,heads,List.map_cons]
  refine congr (congrArg List.cons ?_) ?_
  · have:=hg 0 (b+y.size-1,nd) (by simp [rawL,hr])
    rw [show ((b+y.size:Nat):Int)-1=((b+y.size-1:Nat):Int) by omega]
    simpa using this
  · refine ih (b+y.size) (o+y.size) fun i x hx=>?_
    have:=hg (y.size+i) x (by
     simp only [rawL]
     rw [List.getElem?_append_right (by rw [raw_length];omega),raw_length,show y.size+i-y.size=i by omega]
     exact hx)
    rw [this]
    omega
mutual
theorem raw_flat (g:Int→Int)(b o:Nat):∀(a:Ast) (_:∀i x,(raw b a)[i]?=some x→g x.1=((o+i:Nat):Int)),(raw b a).map (placed g)=flat o a
 | .mk k a t n ks,hg=>by
  have h1:∀i x,(rawL b ks)[i]?=some x→g x.1=((o+1+i:Nat):Int):=fun i x hx=>by
   have:=hg (i+1) x (by simp only [raw,List.getElem?_cons_succ];exact hx)
   rw [this];omega
  simp only [raw,flat,List.map_cons,placed,roots_heads g b (o+1) ks h1]
  exact congrArg _ (rawL_flat g b (o+1) ks h1)
theorem rawL_flat (g:Int→Int)(b o:Nat):∀(l:List Ast) (_:∀i x,(rawL b l)[i]?=some x→g x.1=((o+i:Nat):Int)),(rawL b l).map (placed g)=flatL o l
 | [],_=>by simp [rawL,flatL]
 | y::r,hg=>by
  simp only [rawL,flatL,List.map_append]
  rw [raw_flat g b o y fun i x hx=>hg i x (by
   simp only [rawL]
   have hi:i<(raw b y).length:=(List.getElem?_eq_some_iff.1 hx).1
   rw [List.getElem?_append_left hi]
   exact hx),rawL_flat g (b+y.size) (o+y.size) r fun i x hx=>by
   have:=hg (y.size+i) x (by
    simp only [rawL]
    rw [List.getElem?_append_right (by rw [raw_length];omega),raw_length,show y.size+i-y.size=i by omega]
    exact hx)
   rw [this];omega]
end
def rawS:List (Nat × Ast)→List (Nat × Nd)
 | []=>[]
 | (b,a)::r=>raw b a++rawS r
def tops:List (Nat × Ast)→List Int
 | []=>[]
 | (b,a)::r=>(((b+a.size:Nat):Int)-1)::tops r
def pairsOf (b:Nat):List Ast→List (Nat × Ast)
 | []=>[]
 | x::r=>(b,x)::pairsOf (b+x.size) r
theorem rawS_append (x y:List (Nat × Ast)):rawS (x++y)=rawS x++rawS y:=by
 induction x with
 | nil=>simp [rawS]
 | cons p r ih=>obtain ⟨b,a⟩:=p;simp only [List.cons_append,rawS,ih,List.append_assoc]
theorem tops_append (x y:List (Nat × Ast)):tops (x++y)=tops x++tops y:=by
 induction x with
 | nil=>simp [tops]
 | cons p r ih=>obtain ⟨b,a⟩:=p;simp only [List.cons_append,tops,ih]
theorem tops_length (x:List (Nat × Ast)):(tops x).length=x.length:=by
 induction x with
 | nil=>simp [tops]
 | cons p r ih=>obtain ⟨b,a⟩:=p;simp only [List.length_cons,tops,ih]
theorem rawS_pairs (b:Nat)(l:List Ast):rawS (pairsOf b l)=rawL b l:=by
 induction l generalizing b with
 | nil=>simp [rawS,rawL,pairsOf]
 | cons x r ih=>simp only [rawS,rawL,pairsOf,ih]
theorem tops_pairs (b:Nat)(l:List Ast):tops (pairsOf b l)=roots b l:=by
 induction l generalizing b with
 | nil=>simp [tops,roots,pairsOf]
 | cons x r ih=>simp only [tops,roots,pairsOf,ih]
theorem rawS_cons (b:Nat)(k:Int)(a:Nat)(t:ByteArray)(n:Int)(ks:List Ast)(r:List (Nat × Ast)) :
 rawS ((b,.mk k a t n ks)::r)=(b+sizeL ks,⟨k,a,t,n,roots b ks⟩)::rawS (pairsOf b ks++r):=by
 rw [rawS_append,rawS_pairs]
 simp only [rawS,raw,List.cons_append]
end
namespace Tr
theorem rowsOf_getD (t:List Nd)(i:Nat):(rowsOf t).getD i []=kidsAt t i:=by
 unfold rowsOf kidsAt
 by_cases h:i<t.length
 · simp [List.getD,h]
 · simp [List.getD,List.getElem?_eq_none (Nat.le_of_not_lt h)]
   rfl
theorem rowsOf_fun (t:List Nd):(fun i=>(rowsOf t).getD i [])=kidsAt t:=funext (rowsOf_getD t)
theorem rowsOf_length (t:List Nd):(rowsOf t).length=t.length:=by simp [rowsOf]
structure SizesOk (t:List Nd)(s:List Nat):Prop where
 right:RightSz (kidsAt t) (fun i=>s.getD i 0) t.length
 len:s.length=t.length
 pos:0<t.length
 whole:s.getD 0 0=t.length
theorem sizesP_some {t:List Nd}{s:List Nat}(h:sizesP t=some s):SizesOk t s:=by
 unfold sizesP at h
 split at h
 · simp at h
 · rename_i s1 h1
   split at h
   · rename_i h2
     simp only [Option.some.injEq] at h
     subst h
     have hl:=sizesL_len _ _ _ h1
     rw [rowsOf_length] at hl
     have hr:=sizesL_right h1
     rw [rowsOf_fun,rowsOf_length] at hr
     exact ⟨hr,hl,by omega,by omega⟩
   · simp at h
theorem sizes_right (t:List Nd)(hn:0<t.length):endK (kidsAt t) t.length t.length 0=(t.length:Int)↔∃s,sizesP t=some s:=by
 have h:=sizes_iff (rowsOf t) (by rw [rowsOf_length];exact hn)
 rw [rowsOf_fun,rowsOf_length] at h
 rw [h]
 unfold sizesP
 constructor
 · rintro ⟨s,h1,h2⟩
   have hl:=sizesL_len _ _ _ h1
   rw [rowsOf_length] at hl
   refine ⟨s,?_⟩
   rw [h1]
   simp only
   rw [if_pos ⟨by omega,by omega⟩]
 · rintro ⟨s,h1⟩
   split at h1
   · simp at h1
   · rename_i s1 h2
     split at h1
     · rename_i h3
       have hl:=sizesL_len _ _ _ h2
       rw [rowsOf_length] at hl
       simp only [Option.some.injEq] at h1
       subst h1
       exact ⟨s1,h2,by omega⟩
     · simp at h1
theorem right_eq (t:List Nd)(hl:∀nd∈t,nd.kids.length≤9223372036854775807):rightP t=rightR t:=by
 have hall:ruledP t=t.all (nodeR t):=by
  unfold ruledP
  rw [Bool.eq_iff_iff,List.all_eq_true,List.all_eq_true]
  constructor
  · intro h nd hm;rw [← nodeOk_eq t nd (hl nd hm)];exact h nd hm
  · intro h nd hm;rw [nodeOk_eq t nd (hl nd hm)];exact h nd hm
 unfold rightP rightR
 by_cases hn:0<t.length
 · cases hs:sizesP t with
   | none =>
    have:¬ endK (kidsAt t) t.length t.length 0=(t.length:Int):=by
     intro h
     obtain ⟨s,hs2⟩:=(sizes_right t hn).1 h
     rw [hs] at hs2;simp at hs2
    simp [this]
   | some s =>
    have h1:=sizesP_some hs
    have h2:=(sizes_right t hn).2 ⟨s,hs⟩
    have h3:aheadR t=true:=by
     unfold aheadR
     rw [List.all_eq_true]
     intro i hi
     rw [List.all_eq_true]
     intro k hk
     obtain ⟨j,e1,e2,e3,e4⟩:=h1.right.kid (List.mem_range.1 hi) hk
     simp;omega
    simp [hn,h2,h3,hall]
 · have ht:t=[]:=List.eq_nil_of_length_eq_zero (by omega)
   subst ht
   simp [sizesP,rowsOf,sizesL]
theorem right_sizes {t:List Nd}(h:rightP t=true):∃s,sizesP t=some s∧kindAt t 0=1∧ruledP t=true:=by
 unfold rightP at h
 split at h
 · simp at h
 · rename_i s hs
   simp only [Bool.and_eq_true,beq_iff_eq] at h
   exact ⟨s,hs,h.1,h.2⟩
theorem chain_sum {S:Nat→Nat}{n:Nat}(ks:List Int)(a e:Nat)(h:Chain S n ks a e):a+(ks.map fun k=>S k.toNat).sum=e:=by
 induction ks generalizing a with
 | nil=>obtain rfl:a=e:=h;simp
 | cons k ks ih =>
  obtain ⟨p1,p2,p3⟩:=h
  have:=ih _ p3
  simp only [List.map_cons,List.sum_cons,p1,Int.toNat_natCast]
  omega
theorem RightSz.sum {K:Nat→List Int}{S:Nat→Nat}{n:Nat}(h:RightSz K S n){i:Nat}(hi:i<n):1+((K i).map fun k=>S k.toNat).sum=S i:=by
 have:=chain_sum _ _ _ (h.chain i hi)
 omega
end Tr
section
open Tr
def Ast.kind:Ast→Int|.mk k _ _ _ _=>k
def Ast.txt:Ast→ByteArray|.mk _ _ t _ _=>t
def Ast.num:Ast→Int|.mk _ _ _ n _=>n
def Ast.kids:Ast→List Ast|.mk _ _ _ _ ks=>ks
mutual
def szs:Ast→List Nat
 | .mk _ _ _ _ ks=>(sizeL ks+1)::szsL ks
def szsL:List Ast→List Nat
 | []=>[]
 | x::r=>szs x++szsL r
end
mutual
theorem szs_length:∀a:Ast,(szs a).length=a.size
 | .mk k a t n ks=>by simp only [szs,List.length_cons,szsL_length ks,Ast.size]
theorem szsL_length:∀l:List Ast,(szsL l).length=sizeL l
 | []=>by simp [szsL,sizeL]
 | x::r=>by simp only [szsL,List.length_append,szs_length x,szsL_length r,sizeL]
end
theorem szs_head (a:Ast):∃r,szs a=a.size::r:=by
 cases a with
 | mk k p t n ks=>exact ⟨_,rfl⟩
theorem ast_pos (a:Ast):0<a.size:=by cases a with|mk k p t n ks=>simp [Ast.size]
theorem step_heads (b:Nat)(s:List Nat):∀(ks:List Ast) (pre:List Nat),stepS (pre++szsL ks++s) b (heads (b+pre.length) ks) (b+pre.length)=some (b+pre.length+sizeL ks)
 | [],pre=>by simp [heads,stepS,sizeL]
 | x::r,pre=>by
  obtain ⟨q,hq⟩:=szs_head x
  have hp:=ast_pos x
  have hl:=szs_length x
  simp only [heads,stepS,szsL,sizeL]
  rw [if_pos ⟨trivial,by simp only [List.length_append,hl];omega⟩]
  have hg:(pre++(szs x++szsL r)++s).getD (b+pre.length-b) 0=x.size:=by
   rw [Nat.add_sub_cancel_left,hq]
   simp [List.getD]
  rw [hg]
  have:=step_heads b s r (pre++szs x)
  rw [List.length_append,hl] at this
  rw [show pre++(szs x++szsL r)++s=pre++szs x++szsL r++s by simp only [List.append_assoc],show b+pre.length+x.size=b+(pre.length+x.size) by omega]
  rw [this]
  congr 1;omega
mutual
theorem sizes_flat (s:List Nat)(rs:List (List Int)):∀(a:Ast) (o:Nat),sizesL rs (o+a.size)=some s→sizesL ((flat o a).map (·.kids)++rs) o=some (szs a++s)
 | .mk k p t n ks,o,h=>by
  simp only [Ast.size] at h
  have h1:=sizes_flatL s rs ks (o+1) (by rw [show o+1+sizeL ks=o+(sizeL ks+1) by omega];exact h)
  simp only [flat,List.map_cons,List.cons_append,sizesL,h1]
  have h2:=step_heads (o+1) s ks []
  simp only [List.nil_append,List.length_nil,Nat.add_zero] at h2
  simp only [h2,szs,List.cons_append]
  congr 2;omega
theorem sizes_flatL (s:List Nat)(rs:List (List Int)):∀(l:List Ast) (o:Nat),sizesL rs (o+sizeL l)=some s→sizesL ((flatL o l).map (·.kids)++rs) o=some (szsL l++s)
 | [],o,h=>by simpa [flatL,szsL,sizeL] using h
 | x::r,o,h=>by
  simp only [sizeL] at h
  simp only [flatL,List.map_append,List.append_assoc,szsL]
  exact sizes_flat _ _ x o (sizes_flatL s rs r (o+x.size) (by rw [Nat.add_assoc];exact h))
end
theorem sizesP_flat (a:Ast):sizesP (flat 0 a)=some (szs a):=by
 have h:=sizes_flat [] [] a 0 (by simp [sizesL])
 simp only [List.append_nil] at h
 unfold sizesP
 rw [show rowsOf (flat 0 a)=(flat 0 a).map (·.kids) from rfl,h]
 simp only
 obtain ⟨r,hr⟩:=szs_head a
 have hl:=szs_length a
 have hp:=ast_pos a
 rw [if_pos ⟨by omega,by rw [hl,hr];rfl⟩]
def Lies (t:List Nd)(o:Nat)(x:Ast):Prop:=∃pre post,t=pre++flat o x++post∧pre.length=o
def LiesL (t:List Nd)(o:Nat)(l:List Ast):Prop:=∃pre post,t=pre++flatL o l++post∧pre.length=o
theorem Lies.whole (a:Ast):Lies (flat 0 a) 0 a:=⟨[],[],by simp,rfl⟩
theorem Lies.node {t:List Nd}{o:Nat}{k:Int}{a:Nat}{s:ByteArray}{n:Int}{ks:List Ast}(h:Lies t o (.mk k a s n ks)):t.getD o default=⟨k,a,s,n,heads (o+1) ks⟩∧o<t.length:=by
 obtain ⟨pre,post,rfl,rfl⟩:=h
 simp [flat,List.getD]
theorem Lies.kids {t:List Nd}{o:Nat}{k:Int}{a:Nat}{s:ByteArray}{n:Int}{ks:List Ast}(h:Lies t o (.mk k a s n ks)):LiesL t (o+1) ks:=by
 obtain ⟨pre,post,rfl,rfl⟩:=h
 exact ⟨pre++[⟨k,a,s,n,heads (pre.length+1) ks⟩],post,by simp [flat],by simp⟩
theorem LiesL.head {t:List Nd}{o:Nat}{x:Ast}{r:List Ast}(h:LiesL t o (x::r)):Lies t o x∧LiesL t (o+x.size) r:=by
 obtain ⟨pre,post,rfl,rfl⟩:=h
 refine ⟨⟨pre,flatL (pre.length+x.size) r++post,by simp [flatL],rfl⟩,⟨pre++flat pre.length x,post,by simp [flatL],by simp [flat_length]⟩⟩
theorem Lies.kindAt {t:List Nd}{o:Nat}{x:Ast}(h:Lies t o x):kindAt t o=x.kind:=by
 cases x with
 | mk k a s n ks=>unfold Tr.kindAt;rw [h.node.1];rfl
theorem kinds_heads {t:List Nd}:∀(ks:List Ast) (o:Nat),LiesL t o ks→(heads o ks).map (fun k=>Tr.kindAt t k.toNat)=ks.map Ast.kind
 | [],o,_=>rfl
 | x::r,o,h=>by
  obtain ⟨h1,h2⟩:=h.head
  simp only [heads,List.map_cons,Int.toNat_natCast,h1.kindAt,kinds_heads r _ h2]
def nodeW (k:Int)(s:ByteArray)(n:Int)(l:List Int):Bool:=match ruleOf k with
 | none=>false
 | some r=>textOk r.named s&&(decide (0≤n)&&(decide (n≤r.most)&&inTurnP r.parts l))
mutual
def wf:Ast→Prop
 | .mk k _ s n ks=>nodeW k s n (ks.map Ast.kind)=true∧wfL ks
def wfL:List Ast→Prop
 | []=>True
 | x::r=>wf x∧wfL r
end
theorem nodeOk_iff {t:List Nd}{o:Nat}{k:Int}{a:Nat}{s:ByteArray}{n:Int}{ks:List Ast}(h:Lies t o (.mk k a s n ks)):nodeOk t ⟨k,a,s,n,heads (o+1) ks⟩=nodeW k s n (ks.map Ast.kind):=by
 have hk:kindsOf t ⟨k,a,s,n,heads (o+1) ks⟩=ks.map Ast.kind:=kinds_heads ks (o+1) h.kids
 unfold nodeOk nodeW
 rw [hk]
 cases ruleOf k with
 | none=>rfl
 | some r=>rfl
mutual
theorem wf_nodes {t:List Nd}:∀(x:Ast) (o:Nat),Lies t o x→(wf x↔∀nd∈flat o x,nodeOk t nd=true)
 | .mk k a s n ks,o,h=>by
  have h1:=wf_nodesL ks (o+1) h.kids
  simp only [wf,flat,List.mem_cons,forall_eq_or_imp,nodeOk_iff h,h1]
theorem wf_nodesL {t:List Nd}:∀(l:List Ast) (o:Nat),LiesL t o l→(wfL l↔∀nd∈flatL o l,nodeOk t nd=true)
 | [],o,_=>by simp [wfL,flatL]
 | x::r,o,h=>by
  obtain ⟨h1,h2⟩:=h.head
  have e1:=wf_nodes x o h1
  have e2:=wf_nodesL r _ h2
  simp only [wfL,flatL,List.mem_append,e1,e2]
  constructor
  · rintro ⟨g1,g2⟩ nd (hm|hm)
    · exact g1 nd hm
    · exact g2 nd hm
  · exact fun g=>⟨fun nd hm=>g nd (Or.inl hm),fun nd hm=>g nd (Or.inr hm)⟩
end
theorem right_flat (a:Ast):rightP (flat 0 a)=true↔a.kind=1∧wf a:=by
 unfold rightP
 rw [sizesP_flat]
 have h0:=(Lies.whole a).kindAt
 have h1:=wf_nodes a 0 (Lies.whole a)
 simp only [h0,Bool.and_eq_true,beq_iff_eq,ruledP,List.all_eq_true,h1]
end
section
open Par
def TokR (ρ:Nat→Nat→Prop)(t t':PT):Prop:=t.kind=t'.kind∧t.txt=t'.txt∧t.n=t'.n∧ρ t.at' t'.at'
inductive TokL (ρ:Nat→Nat→Prop):List PT→List PT→Prop
 | nil:TokL ρ [] []
 | cons {t t':PT} {l l':List PT} (h:TokR ρ t t') (r:TokL ρ l l'):TokL ρ (t::l) (t'::l')
inductive AstR (ρ:Nat→Nat→Prop):Ast→Ast→Prop
 | mk {k:Int} {a a':Nat} {t:ByteArray} {n:Int} {ks ks':List Ast} (h:ρ a a') (hl:ks.length=ks'.length) (hk:∀(i:Nat) (x y:Ast),ks[i]?=some x→ks'[i]?=some y→AstR ρ x y):AstR ρ (.mk k a t n ks) (.mk k a' t n ks')
def KidsR (ρ:Nat→Nat→Prop)(ks ks':List Ast):Prop:=ks.length=ks'.length∧∀(i:Nat) (x y:Ast),ks[i]?=some x→ks'[i]?=some y→AstR ρ x y
def ResR {α:Type}(ρ:Nat→Nat→Prop)(R:α→α→Prop):Res α→Res α→Prop
 | .err _ c,.err _ c'=>c=c'
 | .ok a l,.ok a' l'=>R a a'∧TokL ρ l l'
 | _,_=>False
def RelP {α:Type}(ρ:Nat→Nat→Prop)(R:α→α→Prop)(f f':Par α):Prop:=∀l l',TokL ρ l l'→ResR ρ R (f l) (f' l')
section
variable {ρ:Nat→Nat→Prop}{α β:Type}
theorem TokL.len {l l':List PT}(h:TokL ρ l l'):l.length=l'.length:=by
 induction h with
 | nil=>rfl
 | cons _ _ ih=>simp only [List.length_cons,ih]
theorem RelP.pure {R:α→α→Prop}{a a':α}(h:R a a'):RelP ρ R (Par.pure a) (Par.pure a'):=fun _ _ hl=>⟨h,hl⟩
theorem RelP.bind {R:α→α→Prop}{S:β→β→Prop}{f f':Par α}{g g':α→Par β}(hf:RelP ρ R f f')(hg:∀a a',R a a'→RelP ρ S (g a) (g' a')):RelP ρ S (Par.bind f g) (Par.bind f' g'):=fun l l' hl=>by
 have h:=hf l l' hl
 simp only [Par.bind]
 cases h1:f l with
 | err p c =>
  cases h2:f' l' with
  | err p' c'=>rw [h1,h2] at h;exact h
  | ok a' m'=>rw [h1,h2] at h;exact h.elim
 | ok a m =>
  cases h2:f' l' with
  | err p' c'=>rw [h1,h2] at h;exact h.elim
  | ok a' m'=>rw [h1,h2] at h;exact hg a a' h.1 m m' h.2
def OptR (R:α→α→Prop):Option α→Option α→Prop
 | none,none=>True
 | some a,some b=>R a b
 | _,_=>False
theorem RelP.loop {R:α→α→Prop}{step step':α→Par (Option α)}(hs:∀a a',R a a'→RelP ρ (OptR R) (step a) (step' a'))(m:Nat):∀a a',R a a'→RelP ρ R (loop step m a) (loop step' m a'):=by
 induction m with
 | zero=>intro a a' _ l l' _;exact rfl
 | succ m ih =>
  intro a a' h
  refine RelP.bind (hs a a' h) fun b b' hb=>?_
  cases b with
  | none =>
   cases b' with
   | none=>exact RelP.pure h
   | some _=>exact hb.elim
  | some b =>
   cases b' with
   | none=>exact hb.elim
   | some b'=>exact ih b b' hb
theorem RelP.many {R:α→α→Prop}{step step':α→Par (Option α)}(hs:∀a a',R a a'→RelP ρ (OptR R) (step a) (step' a')){a a':α}(h:R a a'):RelP ρ R (many step a) (many step' a'):=fun l l' hl=>by
 have:=RelP.loop hs (l.length+1) a a' h l l' hl
 simp only [Par.many,← hl.len]
 exact this
theorem KidsR.nil:KidsR ρ [] []:=⟨rfl,fun i x y h=>by simp at h⟩
theorem KidsR.cons {a a':Ast}{ks ks':List Ast}(h:AstR ρ a a')(hk:KidsR ρ ks ks'):KidsR ρ (a::ks) (a'::ks'):=⟨by simp [hk.1],fun i x y hx hy=>by
 cases i with
 | zero=>simp at hx hy;subst hx hy;exact h
 | succ i=>exact hk.2 i x y (by simpa using hx) (by simpa using hy)⟩
theorem AstR.node {k n:Int}{a a':Nat}{t:ByteArray}{ks ks':List Ast}(h:ρ a a')(hk:KidsR ρ ks ks'):AstR ρ (.mk k a t n ks) (.mk k a' t n ks'):=.mk h hk.1 hk.2
theorem AstR.at' {a a':Ast}(h:AstR ρ a a'):ρ a.at' a'.at':=by
 cases h with
 | mk h _ _=>exact h
theorem RelP.ite {R:α→α→Prop}{p p':Prop}[Decidable p][Decidable p'](hp:p↔p'){f f' g g':Par α}(hf:RelP ρ R f f')(hg:RelP ρ R g g'):RelP ρ R (if p then f else g) (if p' then f' else g'):=by
 by_cases h:p
 · rw [if_pos h,if_pos (hp.1 h)];exact hf
 · rw [if_neg h,if_neg (fun e=>h (hp.2 e))];exact hg
end
end
namespace Tr
open Go.RowKit
structure IV (W:World)(p:Option Addr)(len c:Nat)(xs:List Int):Prop where
 len_eq:xs.length=len
 cap:len≤c
 cell:0<len→∃b off,p=some ⟨b,off,none⟩∧b<W.heap.size∧∀i,i<len→W.cell? ⟨b,off+i,none⟩=some (.int .i64 (xs.getD i 0))
structure NC (W:World)(b o:Nat)(nd:Nd)(kp:Option Addr)(kl kc:Nat):Prop where
 kind:W.cell? ⟨b,o,none⟩=some (.int .u8 nd.kind)
 at':W.cell? ⟨b,o+1,none⟩=some (.int .i64 nd.at')
 text:W.cell? ⟨b,o+2,none⟩=some (.string nd.text)
 n:W.cell? ⟨b,o+3,none⟩=some (.int .i64 nd.n)
 kids:W.cell? ⟨b,o+4,none⟩=some (.slice kp kl kc)
 iv:IV W kp kl kc nd.kids
structure TV (W:World)(p:Option Addr)(len c:Nat)(ns:List Nd):Prop where
 len_eq:ns.length=len
 cap:len≤c
 node:0<len→∃b off,p=some ⟨b,off,none⟩∧b<W.heap.size∧∀i,i<len→∃kp kl kc,NC W b (off+i*5) (ns.getD i default) kp kl kc
theorem IV.on {W W':World}{p:Option Addr}{len c:Nat}{xs:List Int}(h:IV W p len c xs)(hb:Below W.heap.size W W'):IV W' p len c xs where
 len_eq:=h.len_eq
 cap:=h.cap
 cell:=fun hl=>by
  obtain ⟨b,off,e,hlt,hc⟩:=h.cell hl
  exact ⟨b,off,e,Nat.lt_of_lt_of_le hlt hb.size,fun i hi=>by rw [hb.cell (p:=⟨b,off+i,none⟩) hlt];exact hc i hi⟩
theorem NC.on {W W':World}{b o:Nat}{nd:Nd}{kp:Option Addr}{kl kc:Nat}(h:NC W b o nd kp kl kc)(hlt:b<W.heap.size)(hb:Below W.heap.size W W'):NC W' b o nd kp kl kc where
 kind:=by rw [hb.cell (p:=⟨b,o,none⟩) hlt];exact h.kind
 at':=by rw [hb.cell (p:=⟨b,o+1,none⟩) hlt];exact h.at'
 text:=by rw [hb.cell (p:=⟨b,o+2,none⟩) hlt];exact h.text
 n:=by rw [hb.cell (p:=⟨b,o+3,none⟩) hlt];exact h.n
 kids:=by rw [hb.cell (p:=⟨b,o+4,none⟩) hlt];exact h.kids
 iv:=h.iv.on hb
theorem TV.on {W W':World}{p:Option Addr}{len c:Nat}{ns:List Nd}(h:TV W p len c ns)(hb:Below W.heap.size W W'):TV W' p len c ns where
 len_eq:=h.len_eq
 cap:=h.cap
 node:=fun hl=>by
  obtain ⟨b,off,e,hlt,hc⟩:=h.node hl
  refine ⟨b,off,e,Nat.lt_of_lt_of_le hlt hb.size,fun i hi=>?_⟩
  obtain ⟨kp,kl,kc,hn⟩:=hc i hi
  exact ⟨kp,kl,kc,hn.on hlt hb⟩
theorem one_below (w:World)(o:Obj):Below w.heap.size w (w.alloc o):=(Below.refl _ _).alloc (Nat.le_refl _) _
theorem all_take {α:Type}[Inhabited α](p:α→Bool)(l:List α)(k:Nat)(h:k<l.length):(l.take (k+1)).all p=((l.take k).all p&&p (l.getD k default)):=by
 rw [List.take_succ_eq_append_getElem h,List.all_append]
 simp [List.getD,h]
theorem all_no {α:Type}[Inhabited α](p:α→Bool)(l:List α)(k:Nat)(h:k<l.length)(hk:p (l.getD k default)=false):l.all p=false:=by
 rw [List.all_eq_false]
 exact ⟨l.getD k default,by simp [List.getD,h],by rw [hk];simp⟩
end Tr
end Go.Proofs.YthdioipfdbbmmaaGreatDoor
