/- Contracts. -/
import Derived.Test.YthdioipfdbbmmaaGreatDoorKad
import Derived.Test.YthdioipfdbbmmaaGreatDoorKah
import Derived.Test.YthdioipfdbbmmaaGreatDoorKak
import Derived.Test.YthdioipfdbbmmaaGreatDoorKam
import Derived.Test.YthdioipfdbbmmaaGreatDoorKas
import Derived.Test.YthdioipfdbbmmaaGreatDoorKat
import Derived.Test.YthdioipfdbbmmaaGreatDoorKav
import Derived.Defers
import Derived.Recover
import Derived.BigRegion
import Derived.Below
import Derived.Deep.RegionHeld3
import Derived.Deep.AppendLies
import Derived.Deep.Onto
import Derived.Laws.EntriesVeiled
import Derived.Lib.SlBytesConst
import Derived.Lib.BufferRead
import Derived.Laws.IdiomStrings
set_option linter.all false
set_option maxRecDepth 1000000
set_option maxHeartbeats 16000000
namespace Go.Proofs.YthdioipfdbbmmaaGreatDoor
section
open Go.RowKit
theorem codeDone (p:Addr)(w:World) :
 CallsD Tryz.prog 60 #[.pointer (some p)] .returning w fun e u' w'=>e=.returned (.tuple #[])∧u'=.returning∧w'=w:=by
 refine callsD_of_wpS Tryz.func60 rfl fun c₀ cs hu=>?_
 apply wpS_seq
 apply wpS_region
 simp [wpOpsS,go_sem,recoverD,hu,Tryz.ntmps60,Exit.thenS]
 refine wpS_cond (t:=false) (by simp [Act.eval,Array.replicate]) ?_
 simp only [Bool.false_eq_true,if_false]
 refine wpS_of_wp (wp_skip ?_)
 cases c₀
 simp_all [bodyPostS,results,Tryz.results60]
theorem code_in (T:TypeId)(x:Value)(j:Int)(n:Nat)(w:World)(hg:w.cell? ⟨0,0,none⟩=some (.iface 229 (.agg #[.pointer (some ⟨5, 25,none⟩)])))(hp:Path w true (.iface 45 (.int .i64 j)) (.iface T x) n) :
 Calls Tryz.prog 25 #[.iface T x] w fun e w'=>e=.returned (.int .i64 j)∧Below w.heap.size w w':=by
 have hmf:∀(fn:Fn) (first cap:Array Value) (w:World),(Instr.makeFunc fn first cap).run Tryz.prog w=.ok (.func fn first cap) w:=fun _ _ _ _=>rfl
 have hlt:=cell_lt hg
 have hg2:((w.alloc (.cells #[.int .i64 0] 45)).alloc (.cells #[.int .i64 0] 45)).cell? ⟨0,0,none⟩=some (.iface 229 (.agg #[.pointer (some ⟨5, 25,none⟩)])):=by
  rw [World.cell?_alloc_lt _ _ ⟨0,0,none⟩ (by simp),World.cell?_alloc_lt _ _ ⟨0,0,none⟩ hlt];exact hg
 have hp2:Path ((w.alloc (.cells #[.int .i64 0] 45)).alloc (.cells #[.int .i64 0] 45)) true (.iface 45 (.int .i64 j)) (.iface T x) n:=path_world (fun B o h=>by
  obtain ⟨v,hv⟩:=Option.isSome_iff_exists.1 h
  rw [World.cell?_alloc_lt _ _ ⟨B,o,none⟩ (by have:=cell_lt hv;simp at this ⊢;omega),World.cell?_alloc_lt _ _ ⟨B,o,none⟩ (cell_lt hv)]) hp
 have HP:=lh hp2
 clear hp2 hp
 have H:=As23 ⟨w.heap.size+1,0,none⟩ T x (.int .i64 0) j n _ hg2 HP.out (by simp) (by simp)
 clear hg2 hg
 go_enter_defers Tryz.func25,Tryz.ntmps25
 go_wp2_with (go_at_call 61;(with_reducible refine H.mono ?_);rintro e' w' ⟨rfl,rfl⟩)
 refine leaves_cons (f := 60) (args:=#[.pointer (some ⟨w.heap.size,0,none⟩)]) (by simp) (by simp [go_sem]) ?_
 refine (codeDone ⟨w.heap.size,0,none⟩ _).mono ?_
 rintro e u' w'' ⟨rfl,rfl,rfl⟩
 simp [Leaves,settle,results,Tryz.results25,go_sem]
 exact ((((((Below.refl _ _).alloc (Nat.le_refl _) _).alloc (by simp) _).alloc (by simp;omega) _).alloc (by simp;omega) _).alloc (by simp;omega) _).alloc (by simp;omega) _
end
section
open Go.RowKit
structure NewW (w W:World)(x l c n:Int):Prop where
 below:Below w.heap.size w W
 size:w.heap.size+1<W.heap.size
 c0:W.cell? ⟨w.heap.size+1,0,none⟩=some (.int .i64 x)
 c1:W.cell? ⟨w.heap.size+1,1,none⟩=some (.int .i64 l)
 c2:W.cell? ⟨w.heap.size+1,2,none⟩=some (.int .i64 c)
 c3:W.cell? ⟨w.heap.size+1,3,none⟩=some (.int .i64 n)
theorem newW_mk (w:World)(x l c n:Int):NewW w ((w.alloc (.cells #[.int .u8 10] 5)).alloc (.cells #[.int .i64 x,.int .i64 l,.int .i64 c,.int .i64 n] 112)) x l c n :=
 { below:=((Below.refl _ _).alloc (Nat.le_refl _) _).alloc (by simp) _,size:=by simp,c0:=by simp,c1:=by simp,c2:=by simp,c3:=by simp }
def Src (w:World)(p:Option Addr)(len c:Nat)(xs:List Int):Prop :=
 xs.length=len∧(∀i,0≤xs.getD i 0∧xs.getD i 0<256)∧((len=0∧c=0)∨∃b off,p=some ⟨b,off,none⟩∧len≤c∧b<w.heap.size∧∀i,i<len→w.cell? ⟨b,off+i,none⟩=some (.int .u8 (xs.getD i 0)))
theorem Src.below {w W:World}{p:Option Addr}{len c:Nat}{xs:List Int}(h:Src w p len c xs)(hb:Below w.heap.size w W):Src W p len c xs:=by
 obtain ⟨h1,h2,h3⟩:=h
 refine ⟨h1,h2,?_⟩
 rcases h3 with h3|⟨b,off,e,hc,hl,hx⟩
 · exact Or.inl h3
 · exact Or.inr ⟨b,off,e,hc,Nat.lt_of_lt_of_le hl hb.size,fun i hi=>by rw [hb.cell (p:=⟨b,off+i,none⟩) hl];exact hx i hi⟩
theorem new_src (p:Option Addr)(len c k:Nat)(xs:List Int)(at' n:Int)(w:World)(h0:n≠0)(hb:len≤70000)(hk:min (max at' 0) (len:Int)=(k:Int))(hs:Src w p len c xs) :
 Calls Tryz.prog 46 #[.slice p len c,.int .i64 at',.int .i64 n] w fun e w'=>e=.returned (.iface 109 (.pointer (some ⟨w.heap.size+1,0,none⟩)))∧NewW w w' k (lineF xs k) ((k:Int)-lastF xs k) n:=by
 obtain ⟨h1,h2,h3⟩:=hs
 rcases h3 with ⟨rfl,rfl⟩|⟨b,off,rfl,hc,hl,hx⟩
 · obtain rfl:k=0:=by omega
   cases p with
   | none =>
    refine (new_nil at' n w h0).mono ?_
    rintro e w' ⟨rfl,rfl⟩
    exact ⟨rfl,newW_mk w _ _ _ n⟩
   | some a =>
    refine (new_none a at' n w h0).mono ?_
    rintro e w' ⟨rfl,rfl⟩
    exact ⟨rfl,newW_mk w _ _ _ n⟩
 · refine (new_at b off len c k xs at' n w h0 h1 hc hb hk h2 hx hl).mono ?_
   rintro e w' ⟨rfl,rfl⟩
   exact ⟨rfl,newW_mk w _ _ _ n⟩
end
section
open Go.RowKit
abbrev ET (w:World):Prop:=w.cell? ⟨0,0,none⟩=some (.iface 229 (.agg #[.pointer (some ⟨5, 25,none⟩)]))
theorem ET.below {w W:World}(h:ET w)(hb:Below w.heap.size w W):ET W:=by
 show W.cell? ⟨0,0,none⟩=_
 rw [hb.cell (p:=⟨0,0,none⟩) (cell_lt h)];exact h
structure ErrAt (W:World)(B:Nat)(x l c n:Int):Prop where
 lt:B<W.heap.size
 c0:W.cell? ⟨B,0,none⟩=some (.int .i64 x)
 c1:W.cell? ⟨B,1,none⟩=some (.int .i64 l)
 c2:W.cell? ⟨B,2,none⟩=some (.int .i64 c)
 c3:W.cell? ⟨B,3,none⟩=some (.int .i64 n)
theorem ErrAt.on {W W':World}{B:Nat}{x l c n:Int}(h:ErrAt W B x l c n)(hb:Below W.heap.size W W'):ErrAt W' B x l c n where
 lt:=Nat.lt_of_lt_of_le h.lt hb.size
 c0:=by rw [hb.cell (p:=⟨B,0,none⟩) h.lt];exact h.c0
 c1:=by rw [hb.cell (p:=⟨B,1,none⟩) h.lt];exact h.c1
 c2:=by rw [hb.cell (p:=⟨B,2,none⟩) h.lt];exact h.c2
 c3:=by rw [hb.cell (p:=⟨B,3,none⟩) h.lt];exact h.c3
theorem NewW.at_ {w W:World}{x l c n:Int}(h:NewW w W x l c n):ErrAt W (w.heap.size+1) x l c n:=⟨h.size,h.c0,h.c1,h.c2,h.c3⟩
theorem code_err {W:World}{B:Nat}{x l c n:Int}(hg:ET W)(h:ErrAt W B x l c n) :
 Calls Tryz.prog 25 #[.iface 109 (.pointer (some ⟨B,0,none⟩))] W fun e w2=>e=.returned (.int .i64 n)∧Below W.heap.size W w2 :=
 code_in 109 _ n 1 W hg (.err B n 0 rfl h.c3 .here)
end
section
mutual
def flat (o:Nat):Ast→List Nd
 | .mk k a t n ks=>⟨k,a,t,n,heads (o+1) ks⟩::flatL (o+1) ks
def flatL (o:Nat):List Ast→List Nd
 | []=>[]
 | x::r=>flat o x++flatL (o+x.size) r
def heads (o:Nat):List Ast→List Int
 | []=>[]
 | x::r=>(o:Int)::heads (o+x.size) r
end
mutual
def raw (b:Nat):Ast→List (Nat × Nd)
 | .mk k a t n ks=>(b+sizeL ks,⟨k,a,t,n,roots b ks⟩)::rawL b ks
def rawL (b:Nat):List Ast→List (Nat × Nd)
 | []=>[]
 | x::r=>raw b x++rawL (b+x.size) r
end
mutual
theorem raw_length (b:Nat):∀a:Ast,(raw b a).length=a.size
 | .mk k a t n ks=>by simp only [raw,List.length_cons,rawL_length b ks,Ast.size]
theorem rawL_length (b:Nat):∀l:List Ast,(rawL b l).length=sizeL l
 | []=>by simp [rawL,sizeL]
 | x::r=>by simp only [rawL,List.length_append,raw_length b x,rawL_length (b+x.size) r,sizeL]
end
mutual
theorem flat_length (b:Nat):∀a:Ast,(flat b a).length=a.size
 | .mk k a t n ks=>by simp only [flat,List.length_cons,flatL_length (b+1) ks,Ast.size]
theorem flatL_length (b:Nat):∀l:List Ast,(flatL b l).length=sizeL l
 | []=>by simp [flatL,sizeL]
 | x::r=>by simp only [flatL,List.length_append,flat_length b x,flatL_length (b+x.size) r,sizeL]
end
theorem heads_length (b:Nat)(l:List Ast):(heads b l).length=l.length:=by
 induction l generalizing b with
 | nil=>simp [heads]
 | cons x r ih=>simp only [heads,List.length_cons,ih]
theorem raw_head (b:Nat)(a:Ast):∃nd rest,raw b a=(b+a.size-1,nd)::rest:=by
 cases a with
 | mk k a t n ks=>exact ⟨_,_,by simp only [raw,Ast.size];rw [show b+(sizeL ks+1)-1=b+sizeL ks by omega]⟩
mutual
theorem raw_range (b:Nat):∀(a:Ast) (x:Nat × Nd),x∈raw b a→b≤x.1∧x.1<b+a.size
 | .mk k a t n ks,x,hx=>by
  simp only [raw,List.mem_cons] at hx
  simp only [Ast.size]
  rcases hx with rfl|hx
  · simp only;omega
  · have:=rawL_range b ks x hx
    omega
theorem rawL_range (b:Nat):∀(l:List Ast) (x:Nat × Nd),x∈rawL b l→b≤x.1∧x.1<b+sizeL l
 | [],x,hx=>by simp [rawL] at hx
 | y::r,x,hx=>by
  simp only [rawL,List.mem_append] at hx
  simp only [sizeL]
  rcases hx with hx|hx
  · have:=raw_range b y x hx
    omega
  · have:=rawL_range (b+y.size) r x hx
    omega
end
mutual
theorem raw_nodup (b:Nat):∀a:Ast,((raw b a).map (·.1)).Nodup
 | .mk k a t n ks=>by
  simp only [raw,List.map_cons,List.nodup_cons]
  refine ⟨fun h=>?_,rawL_nodup b ks⟩
  obtain ⟨x,hx,e⟩:=List.mem_map.1 h
  have:=rawL_range b ks x hx
  omega
theorem rawL_nodup (b:Nat):∀l:List Ast,((rawL b l).map (·.1)).Nodup
 | []=>by simp [rawL]
 | y::r=>by
  simp only [rawL,List.map_append]
  refine List.nodup_append.2 ⟨raw_nodup b y,rawL_nodup (b+y.size) r,fun p hp q hq e=>?_⟩
  obtain ⟨x,hx,e1⟩:=List.mem_map.1 hp
  obtain ⟨z,hz,e2⟩:=List.mem_map.1 hq
  have h1:=raw_range b y x hx
  have h2:=rawL_range (b+y.size) r z hz
  omega
end
mutual
theorem raw_post (b:Nat):∀(a:Ast) (x:Nat × Nd),x∈raw b a→(post b a)[x.1-b]?=some x.2
 | .mk k a t n ks,x,hx=>by
  simp only [raw,List.mem_cons] at hx
  simp only [post]
  rcases hx with rfl|hx
  · simp only
    rw [List.getElem?_append_right (by rw [postL_length];omega),postL_length,show b+sizeL ks-b-sizeL ks=0 by omega]
    rfl
  · have h1:=rawL_range b ks x hx
    rw [List.getElem?_append_left (by rw [postL_length];omega)]
    exact rawL_post b ks x hx
theorem rawL_post (b:Nat):∀(l:List Ast) (x:Nat × Nd),x∈rawL b l→(postL b l)[x.1-b]?=some x.2
 | [],x,hx=>by simp [rawL] at hx
 | y::r,x,hx=>by
  simp only [rawL,List.mem_append] at hx
  simp only [postL]
  rcases hx with hx|hx
  · have h1:=raw_range b y x hx
    rw [List.getElem?_append_left (by rw [post_length];omega)]
    exact raw_post b y x hx
  · have h1:=rawL_range (b+y.size) r x hx
    rw [List.getElem?_append_right (by rw [post_length];omega),post_length,show x.1-b-y.size=x.1-(b+y.size) by omega]
    exact rawL_post (b+y.size) r x hx
end
def placed (g:Int→Int)(x:Nat × Nd):Nd:={ x.2 with kids:=x.2.kids.map g }
theorem roots_heads (g:Int→Int)(b o:Nat)(l:List Ast)(hg:∀i x,(rawL b l)[i]?=some x→g x.1=((o+i:Nat):Int)):(roots b l).map g=heads o l:=by
 induction l generalizing b o with
 | nil=>simp [roots,heads]
 | cons y r ih =>
  obtain ⟨nd,rest,hr⟩:=raw_head b y
  have hs:=size_pos y
  simp only [roots,heads,List.map_cons]
  refine congr (congrArg List.cons ?_) ?_
  · have:=hg 0 (b+y.size-1,nd) (by simp [rawL,hr])
    rw [show ((b+y.size:Nat):Int)-1=((b+y.size-1:Nat):Int) by omega]
    simpa using this
  · refine ih (b+y.size) (o+y.size) fun i x hx=>?_
    have:=hg (y.size+i) x (by
     simp only [rawL]
     rw [List.getElem?_append_right (by rw [raw_length];omega),raw_length,show y.size+i-y.size=i by omega]
     exact hx)
    rw [this]
    omega
mutual
theorem raw_flat (g:Int→Int)(b o:Nat):∀(a:Ast) (_:∀i x,(raw b a)[i]?=some x→g x.1=((o+i:Nat):Int)),(raw b a).map (placed g)=flat o a
 | .mk k a t n ks,hg=>by
  have h1:∀i x,(rawL b ks)[i]?=some x→g x.1=((o+1+i:Nat):Int):=fun i x hx=>by
   have:=hg (i+1) x (by simp only [raw,List.getElem?_cons_succ];exact hx)
   rw [this];omega
  simp only [raw,flat,List.map_cons,placed,roots_heads g b (o+1) ks h1]
  exact congrArg _ (rawL_flat g b (o+1) ks h1)
theorem rawL_flat (g:Int→Int)(b o:Nat):∀(l:List Ast) (_:∀i x,(rawL b l)[i]?=some x→g x.1=((o+i:Nat):Int)),(rawL b l).map (placed g)=flatL o l
 | [],_=>by simp [rawL,flatL]
 | y::r,hg=>by
  simp only [rawL,flatL,List.map_append]
  rw [raw_flat g b o y fun i x hx=>hg i x (by
   simp only [rawL]
   have hi:i<(raw b y).length:=(List.getElem?_eq_some_iff.1 hx).1
   rw [List.getElem?_append_left hi]
   exact hx),rawL_flat g (b+y.size) (o+y.size) r fun i x hx=>by
   have:=hg (y.size+i) x (by
    simp only [rawL]
    rw [List.getElem?_append_right (by rw [raw_length];omega),raw_length,show y.size+i-y.size=i by omega]
    exact hx)
   rw [this];omega]
end
def rawS:List (Nat × Ast)→List (Nat × Nd)
 | []=>[]
 | (b,a)::r=>raw b a++rawS r
def tops:List (Nat × Ast)→List Int
 | []=>[]
 | (b,a)::r=>(((b+a.size:Nat):Int)-1)::tops r
def pairsOf (b:Nat):List Ast→List (Nat × Ast)
 | []=>[]
 | x::r=>(b,x)::pairsOf (b+x.size) r
theorem rawS_append (x y:List (Nat × Ast)):rawS (x++y)=rawS x++rawS y:=by
 induction x with
 | nil=>simp [rawS]
 | cons p r ih=>obtain ⟨b,a⟩:=p;simp only [List.cons_append,rawS,ih,List.append_assoc]
theorem tops_append (x y:List (Nat × Ast)):tops (x++y)=tops x++tops y:=by
 induction x with
 | nil=>simp [tops]
 | cons p r ih=>obtain ⟨b,a⟩:=p;simp only [List.cons_append,tops,ih]
theorem tops_length (x:List (Nat × Ast)):(tops x).length=x.length:=by
 induction x with
 | nil=>simp [tops]
 | cons p r ih=>obtain ⟨b,a⟩:=p;simp only [List.length_cons,tops,ih]
theorem rawS_pairs (b:Nat)(l:List Ast):rawS (pairsOf b l)=rawL b l:=by
 induction l generalizing b with
 | nil=>simp [rawS,rawL,pairsOf]
 | cons x r ih=>simp only [rawS,rawL,pairsOf,ih]
theorem tops_pairs (b:Nat)(l:List Ast):tops (pairsOf b l)=roots b l:=by
 induction l generalizing b with
 | nil=>simp [tops,roots,pairsOf]
 | cons x r ih=>simp only [tops,roots,pairsOf,ih]
theorem rawS_cons (b:Nat)(k:Int)(a:Nat)(t:ByteArray)(n:Int)(ks:List Ast)(r:List (Nat × Ast)) :
 rawS ((b,.mk k a t n ks)::r)=(b+sizeL ks,⟨k,a,t,n,roots b ks⟩)::rawS (pairsOf b ks++r):=by
 rw [rawS_append,rawS_pairs]
 simp only [rawS,raw,List.cons_append]
end
section
open Go.RowKit
theorem kind_letter (c:Int):(kindF c==3)=isLetter c:=by
 unfold kindF
 by_cases h1:isBlank c=true
 · have:c=32∨c=9∨c=10∨c=13:=by simpa [isBlank,or_assoc] using h1
   rcases this with rfl|rfl|rfl|rfl<;>decide
 · by_cases h2:c=35
   · subst h2;decide
   · by_cases h3:isLetter c=true
     · simp [h1,h2,h3]
     · simp only [h1,h2,h3]
       repeat' split
       all_goals simp_all
theorem mark_cases {c:Int}(h:isMark c=true):c=123∨c=125∨c=40∨c=41∨c=91∨c=93∨c=59∨c=44∨c=46∨c=43∨c=45∨c=42∨c=60∨c=61:=by
 simpa [isMark] using h
theorem kind_mark (c:Int):(kindF c==6)=isMark c:=by
 by_cases h:isMark c=true
 · rcases mark_cases h with rfl|rfl|rfl|rfl|rfl|rfl|rfl|rfl|rfl|rfl|rfl|rfl|rfl|rfl<;>decide
 · have h':isMark c=false:=by simpa using h
   unfold kindF
   rw [h']
   repeat' split
   all_goals simp_all
def TokPost (xs:List Int)(i:Nat)(w:World)(e:Ending)(w':World):Prop :=
 (e = match step (xs.drop i) with
  | .err er=>.returned (.tuple #[tokV 0 0 0 ⟨#[]⟩ 0,.int .i64 er])
  | .tok k l n=>.returned (.tuple #[tokV k i ((i+l:Nat):Int) (strOfNums ((xs.drop i).take l)) n,.int .i64 0]))∧Below w.heap.size w w'
theorem tokPost_tok {xs:List Int}{i l j:Nat}{w W:World}{k n:Int}{st:ByteArray}(hs:step (xs.drop i)=.tok k l n)(hj:j=i+l)(ht:strOfNums ((xs.drop i).take (j-i))=st)(hb:Below w.heap.size w W) :
 TokPost xs i w (.returned (.tuple #[tokV k i j st n,.int .i64 0])) W:=by
 subst ht
 refine ⟨?_,hb⟩
 rw [hs]
 subst hj
 rw [Nat.add_sub_cancel_left]
theorem tokPost_err {xs:List Int}{i:Nat}{w W:World}{er:Int}(hs:step (xs.drop i)=.err er)(hb:Below w.heap.size w W) :
 TokPost xs i w (.returned (.tuple #[tokV 0 0 0 ⟨#[]⟩ 0,.int .i64 er])) W:=by
 refine ⟨?_,hb⟩
 rw [hs]
theorem word_keep (w:World)(p:Option Addr)(len c kb i e:Nat)(kd:Int)(xs:List Int)(h:SK w p len c kb xs)(hb:len≤70000)(hi:i<e)(he:e≤len)(W:World)(hW:InT w p len c kb W) :
 Calls Tryz.prog 89 #[.agg #[.slice p len c,.func (.func 87) #[] #[.pointer (some ⟨kb,0,none⟩)]],.int .u8 kd,.int .i64 i,.int .i64 e] W fun ev w'=>ev=.returned (.agg #[.int .u8 kd,.int .i64 i,.int .i64 e,.string (strOfNums ((xs.drop i).take (e-i))),.int .i64 0])∧InT w p len c kb w' :=
 (lexWord_at W p len c kb i e kd xs (h.on (Nat.le_refl _) hW.below) hb hi he).mono fun _ _ ⟨h1,h2⟩=>⟨h1,hW.on h2⟩
theorem pastName_keep (w:World)(p:Option Addr)(len c kb i:Nat)(xs:List Int)(h:SK w p len c kb xs)(hb:len≤70000)(hi:i≤len)(W:World)(hW:InT w p len c kb W) :
 Calls Tryz.prog 90 #[.agg #[.slice p len c,.func (.func 87) #[] #[.pointer (some ⟨kb,0,none⟩)]],.int .i64 i] W fun ev w'=>ev=.returned (.int .i64 ((i+run isNameB (xs.drop i):Nat):Int))∧InT w p len c kb w' :=
 (pastName_at W p len c kb i xs (h.on (Nat.le_refl _) hW.below) hb hi).mono fun _ _ ⟨h1,h2⟩=>⟨h1,hW.on h2⟩
theorem pastMark_keep (w:World)(p:Option Addr)(len c kb i:Nat)(xs:List Int)(h:SK w p len c kb xs)(hb:len≤70000)(hi:i<len)(W:World)(hW:InT w p len c kb W) :
 Calls Tryz.prog 92 #[.agg #[.slice p len c,.func (.func 87) #[] #[.pointer (some ⟨kb,0,none⟩)]],.int .i64 i] W fun ev w'=>ev=.returned (.int .i64 ((i+(if xs.getD i 0=61∧(xs.drop (i+1)).head?=some 61 then 2 else 1):Nat):Int))∧InT w p len c kb w' :=
 (pastMark_at W p len c kb i xs (h.on (Nat.le_refl _) hW.below) hb hi).mono fun _ _ ⟨h1,h2⟩=>⟨h1,hW.on h2⟩
theorem tokenAt_at (w:World)(p:Option Addr)(len c kb i:Nat)(xs:List Int)(h:SK w p len c kb xs)(hb:len≤70000)(hi:i<len) :
 Calls Tryz.prog 49 #[.agg #[.slice p len c,.func (.func 87) #[] #[.pointer (some ⟨kb,0,none⟩)]],.int .i64 i] w (TokPost xs i w):=by
 have hlen:=lh h.len_eq
 have HI:=lh (InT.start w p len c kb)
 have hsk:=lh (h.on (Nat.le_refl _) HI.out.below)
 obtain ⟨b,off,rfl,hbl,hc⟩:=hsk.out.addr (by omega)
 have hcj:=hc i hi
 have hby:=hsk.out.byte i
 obtain ⟨m,hm⟩:∃m:Nat,xs.getD i 0=m:=⟨(xs.getD i 0).toNat,by omega⟩
 rw [hm] at hcj hby
 have HM:=lh hm
 have hm256:m<256:=by omega
 have HK:=lh (hsk.out.kinds m hm256)
 have HX:=lh (drop_at xs i (by have:=h.len_eq;omega))
 have KL:=lh (kind_letter m)
 have KD:=lh (kind_digit m)
 have KM:=lh (kind_mark m)
 have HRn:=lh (run_le isNameB (xs.drop i))
 have hpn:=pastName_keep w (some ⟨b,off,none⟩) len c kb i xs h hb (by omega)
 have hpm:=pastMark_keep w (some ⟨b,off,none⟩) len c kb i xs h hb hi
 have hpw:=fun e kd (he:i<e) (he2:e≤len)=>word_keep w (some ⟨b,off,none⟩) len c kb i e kd xs h hb he he2
 have H:=lh h
 have PN:=lh hpn
 have PM:=lh hpm
 have PW:=lh hpw
 clear hc hbl hm hby hpn hpm hpw h
 go_enter Tryz.func49,Tryz.ntmps49
 go_wp2_with fail
 go_quiet (first|(go_at_call 87;refine Calls.quiet_of_same (kind_at _ kb m hm256 HK.out)))
 have HIn:=lh (HI.out.on (drewN_below _ _ nq))
 have HId:InT w (some ⟨b,off,none⟩) len c kb ((scanW w (some ⟨b,off,none⟩) len c kb).drewN nq).drew:=HIn.out.on (drewN_below _ _ 1)
 clear HK
 generalize kindF m=k at *
 by_cases k3:k=3
 · subst k3
   have hst:step (xs.drop i)=.tok 1 (run isNameB (xs.drop i)) 0:=by rw [HX.out,step,HM.out,if_pos (by simpa using KL.out.symm)]
   have hpos:i<i+run isNameB (xs.drop i)∧i+run isNameB (xs.drop i)≤len:=by
    have h1:=(step_len hst).1
    have h2:=HRn.out
    rw [List.length_drop,hlen.out] at h2
    omega
   obtain ⟨j,hj⟩:∃j,i+run isNameB (xs.drop i)=j:=⟨_,rfl⟩
   rw [hj] at hpos
   have PN0:=PN.out
   rw [hj] at PN0
   have PN1:=lh PN0
   have HJ:=lh hj
   have HS:=lh hst
   have PW1:=lh (PW.out j 1 hpos.1 hpos.2)
   clear PN0 hj hst PN PM PW
   generalize hst:strOfNums ((xs.drop i).take (j-i))=st at *
   have HT:=lh hst
   clear hst
   go_wp2_with fail
   go_region_held3 (fun w'=>w'.cell? ⟨w.heap.size,0,none⟩=some (.slice (some ⟨b,off,none⟩) len c)∧w'.cell? ⟨w.heap.size,1,none⟩=some (.func (.func 87) #[] #[.pointer (some ⟨kb,0,none⟩)])∧InT w (some ⟨b,off,none⟩) len c kb w') (refine ⟨?_,?_,?_⟩<;>(first|(with_reducible assumption)|go_keep|(repeat (with_reducible refine InT.set ?_ _ _));with_reducible assumption))
    (first
     | (go_at_call 90;(with_reducible refine (PN1.out _ ?_).mono ?_);(assumption);rintro e w' ⟨rfl,q⟩;have q0:=q.b0;have q1:=q.b1)
     | (go_at_call 89;(with_reducible refine (PW1.out _ ?_).mono ?_);(assumption);rintro e w' ⟨rfl,q⟩;have q0:=q.b0;have q1:=q.b1;obtain ⟨v0,z0⟩:=q.t0;obtain ⟨v1,z1⟩:=q.t1;obtain ⟨v2,z2⟩:=q.t2;obtain ⟨v3,z3⟩:=q.t3;obtain ⟨v4,z4⟩:=q.t4;have y0:=q.f0;have y1:=q.f1;have y2:=q.f2;have y3:=q.f3;have y4:=q.f4))
   all_goals go_wp2
   all_goals simp [bodyPost,results,Tryz.results49,go_sem,z0,z1,z2,z3,z4]
   all_goals exact tokPost_tok HS.out HJ.out.symm HT.out (five q.below (by omega) _ _ _ _ _)
 · have k3':(k==3)=false:=by simpa using k3
   by_cases k4:k=4
   · subst k4
     have hnl:¬ (isLetter (m:Int)=true):=by rw [← KL.out];simp
     have hdg:isDigit (m:Int)=true:=by simpa using KD.out.symm
     have NA:=lexNumber_at ((scanW w (some ⟨b,off,none⟩) len c kb).drewN nq) (some ⟨b,off,none⟩) len c kb i xs (hsk.out.on (Nat.le_refl _) (drewN_below _ _ nq)) hb hi (by rw [HM.out];exact hdg)
     cases hn:numV 0 (xs.drop i) with
     | some n =>
      have hst:step (xs.drop i)=.tok 2 (run isDigit (xs.drop i)) n:=by
       rw [HX.out,HM.out] at hn
       rw [HX.out,step,HM.out,if_neg hnl,if_pos hdg,hn]
      obtain ⟨j,hj⟩:∃j,i+run isDigit (xs.drop i)=j:=⟨_,rfl⟩
      obtain ⟨st,ht⟩:∃st,strOfNums ((xs.drop i).take (j-i))=st:=⟨_,rfl⟩
      have NA1:=NA.mono (R':=fun e w'=>e=.returned (.tuple #[tokV 2 i j st n,.int .i64 0])∧InT w (some ⟨b,off,none⟩) len c kb w') (fun e w' h=>⟨by
       have h1:=h.1
       rw [hn] at h1
       rw [h1,← ht,← hj,Nat.add_sub_cancel_left],HIn.out.on h.2⟩)
      have HJ:=lh hj
      have HS:=lh hst
      have HT:=lh ht
      have NA2:=lh NA1
      clear NA NA1 hj hst ht hn hnl hdg PN PM PW HId
      go_wp2_with fail
      (with_reducible refine NA2.out.mono ?_)
      rintro e w' ⟨rfl,q⟩
      obtain ⟨_,_,⟨v0,z0⟩,⟨v1,z1⟩,⟨v2,z2⟩,⟨v3,z3⟩,⟨v4,z4⟩,y0,y1,y2,y3,y4,zs,zb⟩:=q
      have ZB:=lh zb
      clear zb HI H NA2
      go_wp2
      simp [bodyPost,results,Tryz.results49,go_sem,z0,z1,z2,z3,z4]
      exact tokPost_tok HS.out HJ.out.symm HT.out (five ZB.out (by omega) _ _ _ _ _)
     | none =>
      have hst:step (xs.drop i)=.err 31:=by
       rw [HX.out,HM.out] at hn
       rw [HX.out,step,HM.out,if_neg hnl,if_pos hdg,hn]
      have NA1:=NA.mono (R':=fun e w'=>e=.returned (.tuple #[tokV 0 0 0 ⟨#[]⟩ 0,.int .i64 31])∧InT w (some ⟨b,off,none⟩) len c kb w') (fun e w' h=>⟨by
       have h1:=h.1
       rw [hn] at h1
       exact h1,HIn.out.on h.2⟩)
      have HS:=lh hst
      have NA2:=lh NA1
      clear NA NA1 hst hn hnl hdg PN PM PW HId
      go_wp2_with fail
      (with_reducible refine NA2.out.mono ?_)
      rintro e w' ⟨rfl,q⟩
      obtain ⟨_,_,⟨v0,z0⟩,⟨v1,z1⟩,⟨v2,z2⟩,⟨v3,z3⟩,⟨v4,z4⟩,y0,y1,y2,y3,y4,zs,zb⟩:=q
      have ZB:=lh zb
      clear zb HI H NA2
      go_wp2
      simp [bodyPost,results,Tryz.results49,go_sem,z0,z1,z2,z3,z4]
      exact tokPost_err HS.out (five ZB.out (by omega) _ _ _ _ _)
   · have k4':(k==4)=false:=by simpa using k4
     by_cases k6:k=6
     · subst k6
       have hst:step (xs.drop i)=.tok 3 (if xs.getD i 0=61∧(xs.drop (i+1)).head?=some 61 then 2 else 1) 0:=by
        rw [HX.out,step,HM.out,if_neg (by rw [← KL.out];simp),if_neg (by rw [← KD.out];simp),if_pos (by simpa using KM.out.symm)]
       have hpos:i<i+(if xs.getD i 0=61∧(xs.drop (i+1)).head?=some 61 then 2 else 1)∧i+(if xs.getD i 0=61∧(xs.drop (i+1)).head?=some 61 then 2 else 1)≤len:=by
        have h1:=step_len hst
        rw [List.length_drop,hlen.out] at h1
        omega
       obtain ⟨j,hj⟩:∃j,i+(if xs.getD i 0=61∧(xs.drop (i+1)).head?=some 61 then 2 else 1)=j:=⟨_,rfl⟩
       rw [hj] at hpos
       have PN0:=PM.out
       rw [hj] at PN0
       have PN1:=lh PN0
       have HJ:=lh hj
       have HS:=lh hst
       have PW1:=lh (PW.out j 3 hpos.1 hpos.2)
       clear PN0 hj hst PN PM PW
       generalize hst:strOfNums ((xs.drop i).take (j-i))=st at *
       have HT:=lh hst
       clear hst
       go_wp2_with fail
       go_region_held3 (fun w'=>w'.cell? ⟨w.heap.size,0,none⟩=some (.slice (some ⟨b,off,none⟩) len c)∧w'.cell? ⟨w.heap.size,1,none⟩=some (.func (.func 87) #[] #[.pointer (some ⟨kb,0,none⟩)])∧InT w (some ⟨b,off,none⟩) len c kb w') (refine ⟨?_,?_,?_⟩<;>(first|(with_reducible assumption)|go_keep|(repeat (with_reducible refine InT.set ?_ _ _));with_reducible assumption))
        (first
         | (go_at_call 92;(with_reducible refine (PN1.out _ ?_).mono ?_);(assumption);rintro e w' ⟨rfl,q⟩;have q0:=q.b0;have q1:=q.b1)
         | (go_at_call 89;(with_reducible refine (PW1.out _ ?_).mono ?_);(assumption);rintro e w' ⟨rfl,q⟩;have q0:=q.b0;have q1:=q.b1;obtain ⟨v0,z0⟩:=q.t0;obtain ⟨v1,z1⟩:=q.t1;obtain ⟨v2,z2⟩:=q.t2;obtain ⟨v3,z3⟩:=q.t3;obtain ⟨v4,z4⟩:=q.t4;have y0:=q.f0;have y1:=q.f1;have y2:=q.f2;have y3:=q.f3;have y4:=q.f4))
       all_goals go_wp2
       all_goals simp [bodyPost,results,Tryz.results49,go_sem,z0,z1,z2,z3,z4]
       all_goals exact tokPost_tok HS.out HJ.out.symm HT.out (five q.below (by omega) _ _ _ _ _)
     · have k6':(k==6)=false:=by simpa using k6
       obtain ⟨_,_,⟨v0,z0⟩,⟨v1,z1⟩,⟨v2,z2⟩,⟨v3,z3⟩,⟨v4,z4⟩,y0,y1,y2,y3,y4,zs,zb⟩:=HIn.out
       have ZB:=lh zb
       clear zb HI H
       go_wp2
       simp [bodyPost,results,Tryz.results49,go_sem,z0,z1,z2,z3,z4]
       refine tokPost_err ?_ (five ZB.out (by omega) _ _ _ _ _)
       rw [HX.out,step,HM.out,if_neg (by rw [← KL.out];simp [k3']),if_neg (by rw [← KD.out];simp [k4']),if_neg (by rw [← KM.out];simp [k6'])]
end
section
open Go.RowKit
def tokC (t:Tok):List Value:=[.int .u8 t.kind,.int .i64 t.at',.int .i64 t.stop,.string (strOfNums t.text),.int .i64 t.n]
def cellsT (ts:List Tok):List Value:=ts.flatMap tokC
theorem cellsT_snoc (ts:List Tok)(t:Tok):cellsT (ts++[t])=cellsT ts++tokC t:=by simp [cellsT]
theorem bl_idem (xs:List Int)(i:Nat):bl xs (bl xs i)=bl xs i:=by
 have:=blk_done false (xs.drop i)
 rw [List.drop_drop] at this
 unfold bl
 omega
theorem step_err {l:List Int}{er:Int}(h:step l=.err er)(hl:0<l.length):er=30∨er=31:=by
 cases l with
 | nil=>simp at hl
 | cons c r =>
  simp only [step] at h
  split at h
  · simp at h
  · split at h
    · split at h<;>simp at h
      exact Or.inr h.symm
    · split at h<;>simp at h
      exact Or.inl h.symm
theorem info29 : (Tryz.prog.info? 29).map (fun i=>(i.zero,i.size,i.bytes))=some (some (.agg #[.int .u8 0,.int .i64 0,.int .i64 0,.string ⟨#[]⟩,.int .i64 0]),5,48):=by kernel_rfl
def LexPost (xs:List Int)(w:World)(e:Ending)(w':World):Prop :=
 (match lexS xs with
  | .ok ts=>∃g cap,e=.returned (.tuple #[.slice (some ⟨g,0,none⟩) ts.length cap,.nilIface])∧w'.ownsRow w.heap.size 29 5 (.slice (some ⟨g,0,none⟩) ts.length cap) ts.length (cellsT ts)
  | .error (i,er)=>∃B l c,e=.returned (.tuple #[.slice none 0 0,.iface 109 (.pointer (some ⟨B,0,none⟩))])∧w.heap.size≤B∧ErrAt w' B i l c er)∧Below w.heap.size w w'
theorem lexPost_err {xs:List Int}{i:Nat}{er l c:Int}{w W:World}{B:Nat}(h:lexS xs=.error (i,er))(hB:w.heap.size≤B)(hE:ErrAt W B i l c er)(hb:Below w.heap.size w W) :
 LexPost xs w (.returned (.tuple #[.slice none 0 0,.iface 109 (.pointer (some ⟨B,0,none⟩))])) W:=by
 refine ⟨?_,hb⟩
 rw [h]
 exact ⟨B,l,c,rfl,hB,hE⟩
theorem lexPost_ok {xs:List Int}{ts:List Tok}{w W:World}{g n cap:Nat}{cs:List Value}(h:lexS xs=.ok ts)(hn:n=ts.length)(hc:cs=cellsT ts)(ho:W.ownsRow w.heap.size 29 5 (.slice (some ⟨g,0,none⟩) n cap) n cs)(hb:Below w.heap.size w W) :
 LexPost xs w (.returned (.tuple #[.slice (some ⟨g,0,none⟩) n cap,.nilIface])) W:=by
 subst hn hc
 refine ⟨?_,hb⟩
 rw [h]
 exact ⟨g,cap,rfl,ho⟩
theorem sk_of {w W:World}{p:Option Addr}{len c:Nat}{xs:List Int}(hs:Src w p len c xs)(hk:KW w W (FK 6)):SK W p len c (w.heap.size+1) xs where
 len_eq:=hs.1
 byte:=hs.2.1
 addr:=fun hl=>by
  rcases hs.2.2 with ⟨h,_⟩|⟨b,off,e,hc,hb,hx⟩
  · omega
  · exact ⟨b,off,e,Nat.lt_of_lt_of_le hb hk.below.size,fun i hi=>by rw [hk.below.cell (p:=⟨b,off+i,none⟩) hb];exact hx i hi⟩
 cap:=by
  rcases hs.2.2 with ⟨h,h'⟩|⟨b,off,e,hc,hb,hx⟩<;>omega
 kinds:=fun k hk'=>by rw [hk.arr k hk',FK_kind k hk']
 kbl:=hk.size
theorem new_err {w W:World}{p:Option Addr}{len c k:Nat}{xs:List Int}{at' n:Int}(h0:n≠0)(hb:len≤70000)(hk:min (max at' 0) (len:Int)=(k:Int))(hs:Src w p len c xs)(hW:Below w.heap.size w W) :
 ∃B l cc,w.heap.size≤B∧Calls Tryz.prog 46 #[.slice p len c,.int .i64 at',.int .i64 n] W fun e w'=>e=.returned (.iface 109 (.pointer (some ⟨B,0,none⟩)))∧ErrAt w' B k l cc n∧Below W.heap.size W w' :=
 ⟨W.heap.size+1,_,_,by have:=hW.size;omega,(new_src p len c k xs at' n W h0 hb hk (hs.below hW)).mono fun _ _ ⟨h1,h2⟩=>⟨h1,h2.at_,h2.below⟩⟩
structure LexInv (w W1:World)(p:Option Addr)(len c:Nat)(v:Value)(ts:List Tok)(W:World):Prop where
 below:Below (W1.heap.size+1) (W1.alloc (.cells #[.slice p len c,.func (.func 87) #[] #[.pointer (some ⟨w.heap.size+1,0,none⟩)]] 90)) W
 own:W.ownsRow (W1.heap.size+1) 29 5 v ts.length (cellsT ts)
theorem LexInv.on {w W1 W W':World}{p:Option Addr}{len c:Nat}{v:Value}{ts:List Tok}(h:LexInv w W1 p len c v ts W)(hb:Below W.heap.size W W'):LexInv w W1 p len c v ts W' where
 below:=h.below.trans (hb.mono (by have:=h.below.size;simpa using this))
 own:=h.own.kept (row:=none) ⟨hb.os,hb.tape,hb.output,hb.size,fun k hk _=>hb.block k hk⟩ (by
  cases hv:v.ownBlock with
  | none=>exact Or.inl rfl
  | some k=>exact Or.inr (by simp))
theorem LexInv.push {w W1 W W' w5:World}{p:Option Addr}{len c g cap:Nat}{v:Value}{ts:List Tok}(h:LexInv w W1 p len c v ts W)(hW:Below W.heap.size W W')(hg:W'.grownBy w5 v.ownBlock)(t:Tok)(cs:List Value)(hc:cs=tokC t)
 (ho:w5.ownsRow (W1.heap.size+1) 29 5 (.slice (some ⟨g,0,none⟩) (ts.length+1) cap) (ts.length+1) (cellsT ts++cs)):LexInv w W1 p len c (.slice (some ⟨g,0,none⟩) (ts.length+1) cap) (ts++[t]) w5 where
 below:=(h.on hW).below.grown hg (by have:=h.below.size;have:=hW.size;simp at *;omega) (fun k hk=>(h.own.lt k hk).1)
 own:=by rw [cellsT_snoc,← hc,List.length_append];exact ho
theorem tok_one (k i j n:Int)(st:ByteArray):∀u∈([.int .u8 k,.int .i64 i,.int .i64 j,.string st,.int .i64 n]:List Value),u.oneCell'=true:=by
 intro u hu
 simp only [List.mem_cons,List.not_mem_nil,or_false] at hu
 rcases hu with rfl|rfl|rfl|rfl|rfl<;>rfl
theorem two_below (W:World)(o1 o2:Obj):Below W.heap.size W ((W.alloc o1).alloc o2):=((Below.refl _ _).alloc (Nat.le_refl _) _).alloc (by simp) _
theorem one_below (W:World)(o1:Obj):Below W.heap.size W (W.alloc o1):=(Below.refl _ _).alloc (Nat.le_refl _) _
theorem LexInv.all {w W1 W:World}{p:Option Addr}{len c:Nat}{v:Value}{ts:List Tok}(h:LexInv w W1 p len c v ts W)(hk:KW w W1 (FK 6)):Below w.heap.size w W :=
 (hk.below.alloc (by have:=hk.below.size;simpa using this) _).trans (h.below.mono (by have:=hk.below.size;omega))
theorem LexInv.b0 {w W1 W:World}{p:Option Addr}{len c:Nat}{v:Value}{ts:List Tok}(h:LexInv w W1 p len c v ts W):W.cell? ⟨W1.heap.size,0,none⟩=some (.slice p len c):=by
 rw [h.below.cell (p:=⟨W1.heap.size,0,none⟩) (by simp)];simp
theorem LexInv.b1 {w W1 W:World}{p:Option Addr}{len c:Nat}{v:Value}{ts:List Tok}(h:LexInv w W1 p len c v ts W):W.cell? ⟨W1.heap.size,1,none⟩=some (.func (.func 87) #[] #[.pointer (some ⟨w.heap.size+1,0,none⟩)]):=by
 rw [h.below.cell (p:=⟨W1.heap.size,1,none⟩) (by simp)];simp
theorem LexInv.sk {w W1 W:World}{p:Option Addr}{len c:Nat}{v:Value}{ts:List Tok}{xs:List Int}(h:LexInv w W1 p len c v ts W)(hs:SK W1 p len c (w.heap.size+1) xs):SK W p len c (w.heap.size+1) xs :=
 (hs.alloc _).on (by simp) h.below
theorem lex_at (w:World)(p:Option Addr)(len c:Nat)(xs:List Int)(h:Src w p len c xs)(hb:len≤65536) :
 Calls Tryz.prog 14 #[.slice p len c] w (LexPost xs w):=by
 have hlen:=lh h.1
 have HS:=lh h
 obtain ⟨i0,hi,hz0,hz1,hz2⟩:=info_parts info29
 have HK:=lh (byteKinds_run w)
 clear h
 have I0:=lh hi
 have I1:=lh hz0
 have I2:=lh hz1
 have I3:=lh hz2
 clear hi hz0 hz1 hz2
 go_enter Tryz.func14,Tryz.ntmps14
 go_wp2_with fail
 (with_reducible refine HK.out.mono ?_)
 rintro e W1 ⟨rfl,hk⟩
 have KK:=lh hk
 have hsk:=lh (sk_of HS.out hk)
 have hs1:=lh (hk.size)
 clear hk HK
 go_wp2_with fail
 have PB:Calls Tryz.prog 48 #[.agg #[.slice p len c,.func (.func 87) #[] #[.pointer (some ⟨w.heap.size+1,0,none⟩)]],.int .i64 0] (W1.alloc (.cells #[.slice p len c,.func (.func 87) #[] #[.pointer (some ⟨w.heap.size+1,0,none⟩)]] 90)) _:=pastBlanks_at (W1.alloc (.cells #[.slice p len c,.func (.func 87) #[] #[.pointer (some ⟨w.heap.size+1,0,none⟩)]] 90)) p len c (w.heap.size+1) 0 xs (hsk.out.alloc _) (by omega) (by omega)
 (with_reducible refine PB.mono ?_)
 rintro e W3 ⟨rfl,hb3⟩
 have HI:Hid (LexInv w W1 p len c (.slice none 0 0) [] W3):=lh ⟨by simpa using hb3,World.ownsRow_nil _ _ _ _⟩
 have hb0:=lh (bl_le xs 0 (by omega))
 clear hb3 PB
 go_wp2_with fail
 go_loopw [5,6] (fun v iv wr=>∃(i:Nat) (ts:List Tok),i≤len∧ts.length≤i∧iv=.int .i64 i∧Hid (bl xs i=i)∧Hid (lexS xs=pre ts (lexAt xs i))∧Hid (LexInv w W1 p len c v ts wr)) (fun _ iv _=>len-(intOf iv).toNat)
 case atStart=>exact ⟨bl xs 0,[],by have:=hb0.out;have:=hlen.out;omega,by simp,rfl,lh (bl_idem xs 0),lh (by rw [lexS_at,lexAt_bl xs 0 (by omega),pre_nil]),HI⟩
 case round =>
  obtain ⟨i,ts,hil,htl,rfl,HB,HL,HV⟩:=hrel
  have c0:=HV.out.b0
  have c1:=HV.out.b1
  have hskr:=lh (HV.out.sk hsk.out)
  have hall:=lh (HV.out.all KK.out)
  have hsz:=hall.out.size
  by_cases hlt:i<len
  · have TA:=tokenAt_at wr p len c (w.heap.size+1) i xs hskr.out (by omega) hlt
    have hix:i<xs.length:=by have:=hlen.out;omega
    cases hst:step (xs.drop i) with
    | err er =>
     have TA1:=TA.mono (R':=fun e w'=>e=.returned (.tuple #[tokV 0 0 0 ⟨#[]⟩ 0,.int .i64 er])∧Below wr.heap.size wr w') (fun e w' h=>⟨by
      have h1:=h.1
      rw [hst] at h1
      exact h1,h.2⟩)
     have her:er≠0:=by
      have:=step_err hst (by rw [List.length_drop];omega)
      omega
     have her':(er != 0)=true:=by simpa using her
     have HE:=lh (lexAt_err xs i er hix HB.out hst)
     clear TA hst hix
     go_wp2_with fail
     (with_reducible refine TA1.mono ?_)
     rintro e w4 ⟨rfl,hb4⟩
     have hV4:=lh (HV.out.on hb4)
     clear hb4 TA1
     go_wp2_with fail
     obtain ⟨B,l,cc,hB,NA⟩:=new_err (W:=w4.alloc (.cells #[.int .u8 0,.int .i64 0,.int .i64 0,.string ⟨#[]⟩,.int .i64 0] 29)) her (by omega) (show min (max (i:Int) 0) (len:Int)=(i:Int) by omega) HS.out ((hV4.out.all KK.out).alloc (by have:=(hV4.out.all KK.out).size;simpa using this) _)
     have HN:=lh NA
     clear NA
     (with_reducible refine HN.out.mono ?_)
     rintro e w5 ⟨rfl,hE,hb5⟩
     have HEr:=lh hE
     have HB5:=lh (((hV4.out.all KK.out).alloc (by have:=(hV4.out.all KK.out).size;simpa using this) (.cells #[.int .u8 0,.int .i64 0,.int .i64 0,.string ⟨#[]⟩,.int .i64 0] 29)).trans (hb5.mono (by have:=(hV4.out.all KK.out).size;simp;omega)))
     clear hE hb5 HN
     go_wp2
     go_ret2
     exact lexPost_err (by rw [HL.out,HE.out];rfl) hB HEr.out HB5.out
    | tok k l n =>
     have hsl:=step_len hst
     rw [List.length_drop] at hsl
     have HT:=lh (lexAt_tok xs i k l n hix HB.out hst)
     obtain ⟨j,hj⟩:∃j,i+l=j:=⟨_,rfl⟩
     obtain ⟨st,ht⟩:∃st,strOfNums ((xs.drop i).take l)=st:=⟨_,rfl⟩
     have TA1:=TA.mono (R':=fun e w'=>e=.returned (.tuple #[tokV k i j st n,.int .i64 0])∧Below wr.heap.size wr w') (fun e w' h=>⟨by
      have h1:=h.1
      rw [hst] at h1
      rw [h1,← ht,← hj],h.2⟩)
     have hij:i<j:=by omega
     have hjl:j≤len:=by have:=hlen.out;omega
     have HJ:=lh hj
     have HSt:=lh ht
     have hbj:=lh (bl_le xs j (by have:=hlen.out;omega))
     have hbb:=lh (lexAt_bl xs j (by have:=hlen.out;omega))
     clear TA hst hix hj ht hsl
     go_wp2_with fail
     (with_reducible refine TA1.mono ?_)
     rintro e w4 ⟨rfl,hb4⟩
     have hV4:=lh (HV.out.on hb4)
     have ho4:=hV4.out.own
     have hz4:=hV4.out.below.size
     simp only [World.size_alloc] at hz4
     have d0:=hV4.out.b0
     have d1:=hV4.out.b1
     clear hb4 TA1 HV c0 c1 hskr hall
     go_wp2_with (at_builtin;refine wpList_append_lies _ rfl (.tmp 35) (.tmp 37) 23 rfl (W1.heap.size+1) 29 i0 _ 5 48 Tryz.underlying23 I0.out I1.out I2.out I3.out rfl (by decide) u5 ts.length (cellsT ts) rfl ((ho4.alloc _).alloc _) ⟨w4.heap.size+1,0,none⟩ 1 1 [.int .u8 k,.int .i64 i,.int .i64 j,.string st,.int .i64 n] rfl rfl ?c1 ?c2 (by decide) ?c3 ?c4 ?c5 _ rfl ?_)
     case c1 =>
      refine World.news_of_block (cs:=#[.int .u8 k,.int .i64 i,.int .i64 j,.string st,.int .i64 n]) (t := 29) (fr:=(0,0)) ?_
      have:=heap_alloc_new (w4.alloc (.cells #[.int .u8 k,.int .i64 i,.int .i64 j,.string st,.int .i64 n] 29)) (.cells #[.int .u8 k,.int .i64 i,.int .i64 j,.string st,.int .i64 n] 29)
      simpa using this
     case c2=>exact tok_one _ _ _ _ _
     case c3=>unfold maxLen;omega
     case c4=>omega
     case c5=>simp;omega
     intro g cap w5 hown5 hgrow5 hat5 hlt5
     have hV5:=lh (hV4.out.push (two_below w4 _ _) hgrow5 ⟨k,i,j,(xs.drop i).take l,n⟩ _ (by rw [tokC,HSt.out]) hown5)
     have e2:w5.cell? ⟨w4.heap.size,2,none⟩=some (.int .i64 j):=by
      rw [hgrow5.cell_far ⟨w4.heap.size,2,none⟩ (by simp;omega) (fun e=>by have:=(ho4.lt _ e.symm).2;simp at this)]
      simp
     have x0:=hV5.out.b0
     have x1:=hV5.out.b1
     have PB:=pastBlanks_at w5 p len c (w.heap.size+1) j xs (hV5.out.sk hsk.out) (by omega) hjl
     clear hown5 hgrow5 hat5 hlt5 ho4 d0 d1
     go_wp2_with fail
     (with_reducible refine PB.mono ?_)
     rintro e w6 ⟨rfl,hb6⟩
     have hV6:=lh (hV5.out.on hb6)
     clear hb6 PB x0 x1 e2
     go_wp2_with fail
     go_roundw
     case rel=>exact ⟨bl xs j,ts++[⟨k,i,j,(xs.drop i).take l,n⟩],by have:=hbj.out;have:=hlen.out;omega,by simp;have:=hbj.out;omega,rfl,lh (bl_idem xs j),lh (by rw [HL.out,HT.out,HJ.out,pre_pre,← hbb.out]),hV6⟩
     case measure=>have:=hbj.out;have:=hlen.out;simp [intOf];omega
  · have hil2:i=len:=by omega
    have HE:=lh (lexAt_end xs i (by have:=hlen.out;omega))
    have ho4:=HV.out.own
    have hz4:=HV.out.below.size
    simp only [World.size_alloc] at hz4
    clear hskr hall hil2 c0 c1
    go_wp2_with (at_builtin;refine wpList_append_lies _ rfl (.tmp 43) (.tmp 47) 23 rfl (W1.heap.size+1) 29 i0 _ 5 48 Tryz.underlying23 I0.out I1.out I2.out I3.out rfl (by decide) u5 ts.length (cellsT ts) rfl (ho4.alloc _) ⟨wr.heap.size,0,none⟩ 1 1 [.int .u8 4,.int .i64 i,.int .i64 i,.string ⟨#[]⟩,.int .i64 0] rfl rfl ?d1 ?d2 (by decide) ?d3 ?d4 ?d5 _ rfl ?_)
    case d1 =>
     refine World.news_of_block (cs:=#[.int .u8 4,.int .i64 i,.int .i64 i,.string ⟨#[]⟩,.int .i64 0]) (t := 29) (fr:=(0,0)) ?_
     exact heap_alloc_new _ _
    case d2=>exact tok_one _ _ _ _ _
    case d3=>unfold maxLen;omega
    case d4=>omega
    case d5=>simp;omega
    intro g cap w5 hown5 hgrow5 hat5 hlt5
    have hV5:=lh (HV.out.push (one_below wr _) hgrow5 (Tok.endAt i) _ (by simp [tokC,Tok.endAt,strOfNums]) hown5)
    have HA:=lh (hV5.out.all KK.out)
    clear hown5 hgrow5 hat5 hlt5 ho4
    go_wp2
    go_ret2
    exact lexPost_ok (ts:=ts++[Tok.endAt i]) (by rw [HL.out,HE.out];rfl) (by simp) (by rfl) (by have:=hV5.out.own;rw [List.length_append] at this;exact this.mono (by have:=KK.out.below.size;omega)) HA.out
end
section
open Go.RowKit
structure TR (W:World)(g cap:Nat)(ts:List Tok):Prop where
 lt:g<W.heap.size
 le:ts.length≤cap
 cell:∀j u,(cellsT ts)[j]?=some u→W.cell? ⟨g,j,none⟩=some u
theorem TR.on {W W':World}{g cap:Nat}{ts:List Tok}(h:TR W g cap ts)(hb:Below W.heap.size W W'):TR W' g cap ts where
 lt:=Nat.lt_of_lt_of_le h.lt hb.size
 le:=h.le
 cell:=fun j u hj=>by rw [hb.cell (p:=⟨g,j,none⟩) h.lt];exact h.cell j u hj
theorem TR.of {W:World}{base g cap:Nat}{ts:List Tok}(ho:W.ownsRow base 29 5 (.slice (some ⟨g,0,none⟩) ts.length cap) ts.length (cellsT ts)):TR W g cap ts where
 lt:=(ho.lt g rfl).2
 le:=by
  rcases ho.2 with ⟨h,_⟩|⟨g',cap',cur,hv,_,_,hc,_⟩
  · simp at h
  · simp at hv
    omega
 cell:=fun j u hj=>by
  rw [ho.cellAt j (by rw [← ho.1];exact (List.getElem?_eq_some_iff.1 hj).1)]
  exact hj
theorem lex_ok {w:World}{p:Option Addr}{len c:Nat}{xs:List Int}{ts:List Tok}(h:Src w p len c xs)(hb:len≤65536)(he:lexS xs=.ok ts) :
 Calls Tryz.prog 14 #[.slice p len c] w fun e w'=>∃g cap,e=.returned (.tuple #[.slice (some ⟨g,0,none⟩) ts.length cap,.nilIface])∧TR w' g cap ts∧w.heap.size≤g∧Below w.heap.size w w' :=
 (lex_at w p len c xs h hb).mono fun e w' ⟨h1, h2⟩ => by
  rw [he] at h1
  obtain ⟨g,cap,e1,ho⟩:=h1
  exact ⟨g,cap,e1,TR.of ho,(ho.lt g rfl).1,h2⟩
theorem lex_no {w:World}{p:Option Addr}{len c:Nat}{xs:List Int}{i:Nat}{er:Int}(h:Src w p len c xs)(hb:len≤65536)(he:lexS xs=.error (i,er)) :
 Calls Tryz.prog 14 #[.slice p len c] w fun e w'=>∃B l cc,e=.returned (.tuple #[.slice none 0 0,.iface 109 (.pointer (some ⟨B,0,none⟩))])∧ErrAt w' B i l cc er∧Below w.heap.size w w' :=
 (lex_at w p len c xs h hb).mono fun e w' ⟨h1, h2⟩ => by
  rw [he] at h1
  obtain ⟨B,l,cc,e1,_,hE⟩:=h1
  exact ⟨B,l,cc,e1,hE,h2⟩
theorem src_const (W:World)(C:Array Value)(zs:List Int)(n:Nat)(hC:C=(zs.map (Value.int .u8)).toArray)(hn:zs.length=n)(hz:∀z∈zs,0≤z∧z<256)(a b:Nat) :
 Src (W.alloc (.cells C 5 (a,b))) (some ⟨W.heap.size,0,none⟩) n n zs:=by
 refine ⟨hn,fun i=>?_,Or.inr ⟨W.heap.size,0,rfl,Nat.le_refl _,by simp,fun i hi=>?_⟩⟩
 · by_cases hi:i<zs.length
   · have:=hz (zs[i]) (List.getElem_mem hi)
     simpa [List.getD,hi] using this
   · simp [List.getD,List.getElem?_eq_none (Nat.le_of_not_lt hi)]
 · rw [Nat.zero_add,World.cell?_alloc_mark]
   subst hC
   have hi':i<zs.length:=by omega
   simp [List.getD,hi']
end
section
open Go.RowKit
def Chain (xs:List Int):Nat→List Tok→Prop
 | p,[]=>p=xs.length
 | p,t::r=>p≤xs.length∧t.at'=bl xs p∧t.at'≤t.stop∧t.stop≤xs.length∧t.text=(xs.drop t.at').take (t.stop-t.at')∧((t.kind=4)↔r=[])∧Chain xs t.stop r
theorem tok_cell (ts:List Tok)(k j:Nat)(t:Tok)(hk:ts[k]?=some t)(hj:j<5):(cellsT ts)[k*5+j]?=(tokC t)[j]?:=by
 induction ts generalizing k with
 | nil=>simp at hk
 | cons u r ih =>
  have hu:(tokC u).length=5:=rfl
  cases k with
  | zero =>
   simp only [List.getElem?_cons_zero,Option.some.injEq] at hk
   subst hk
   simp only [cellsT,List.flatMap_cons,Nat.zero_mul,Nat.zero_add]
   rw [List.getElem?_append_left (by omega)]
  | succ k =>
   simp only [List.getElem?_cons_succ] at hk
   have:=ih k hk
   simp only [cellsT,List.flatMap_cons] at this ⊢
   rw [List.getElem?_append_right (by omega),hu,show (k+1)*5+j-5=k*5+j by omega]
   exact this
end
section
open Go.RowKit
theorem lexN_len (f p:Nat)(l:List Int)(ts:List Tok)(h:lexN f p l=.ok ts):ts.length≤l.length+1:=by
 induction f generalizing p l ts with
 | zero =>
  simp only [lexN,Except.ok.injEq] at h
  subst h
  simp
 | succ f ih =>
  simp only [lexN] at h
  split at h
  · simp only [Except.ok.injEq] at h
    subst h
    simp
  · rename_i c r hd
    split at h
    · simp at h
    · rename_i k len n hs
      have hl:=step_len hs
      have hcr:(c::r).length≤l.length:=by rw [← hd,List.length_drop];omega
      cases hu:lexN f (p+blk false l+len) ((c::r).drop len) with
      | error e=>rw [hu] at h;simp [pre] at h
      | ok us =>
       rw [hu] at h
       simp only [pre,Except.ok.injEq,List.singleton_append] at h
       subst h
       have:=ih _ _ us hu
       rw [List.length_drop] at this
       rw [List.length_cons]
       omega
end
section
open Par
def TokR (ρ:Nat→Nat→Prop)(t t':PT):Prop:=t.kind=t'.kind∧t.txt=t'.txt∧t.n=t'.n∧ρ t.at' t'.at'
inductive TokL (ρ:Nat→Nat→Prop):List PT→List PT→Prop
 | nil:TokL ρ [] []
 | cons {t t':PT} {l l':List PT} (h:TokR ρ t t') (r:TokL ρ l l'):TokL ρ (t::l) (t'::l')
inductive AstR (ρ:Nat→Nat→Prop):Ast→Ast→Prop
 | mk {k:Int} {a a':Nat} {t:ByteArray} {n:Int} {ks ks':List Ast} (h:ρ a a') (hl:ks.length=ks'.length) (hk:∀(i:Nat) (x y:Ast),ks[i]?=some x→ks'[i]?=some y→AstR ρ x y):AstR ρ (.mk k a t n ks) (.mk k a' t n ks')
def KidsR (ρ:Nat→Nat→Prop)(ks ks':List Ast):Prop:=ks.length=ks'.length∧∀(i:Nat) (x y:Ast),ks[i]?=some x→ks'[i]?=some y→AstR ρ x y
def ResR {α:Type}(ρ:Nat→Nat→Prop)(R:α→α→Prop):Res α→Res α→Prop
 | .err _ c,.err _ c'=>c=c'
 | .ok a l,.ok a' l'=>R a a'∧TokL ρ l l'
 | _,_=>False
def RelP {α:Type}(ρ:Nat→Nat→Prop)(R:α→α→Prop)(f f':Par α):Prop:=∀l l',TokL ρ l l'→ResR ρ R (f l) (f' l')
section
variable {ρ:Nat→Nat→Prop}{α β:Type}
theorem TokL.len {l l':List PT}(h:TokL ρ l l'):l.length=l'.length:=by
 induction h with
 | nil=>rfl
 | cons _ _ ih=>simp only [List.length_cons,ih]
theorem RelP.pure {R:α→α→Prop}{a a':α}(h:R a a'):RelP ρ R (Par.pure a) (Par.pure a'):=fun _ _ hl=>⟨h,hl⟩
theorem RelP.bind {R:α→α→Prop}{S:β→β→Prop}{f f':Par α}{g g':α→Par β}(hf:RelP ρ R f f')(hg:∀a a',R a a'→RelP ρ S (g a) (g' a')):RelP ρ S (Par.bind f g) (Par.bind f' g'):=fun l l' hl=>by
 have h:=hf l l' hl
 simp only [Par.bind]
 cases h1:f l with
 | err p c =>
  cases h2:f' l' with
  | err p' c'=>rw [h1,h2] at h;exact h
  | ok a' m'=>rw [h1,h2] at h;exact h.elim
 | ok a m =>
  cases h2:f' l' with
  | err p' c'=>rw [h1,h2] at h;exact h.elim
  | ok a' m'=>rw [h1,h2] at h;exact hg a a' h.1 m m' h.2
def OptR (R:α→α→Prop):Option α→Option α→Prop
 | none,none=>True
 | some a,some b=>R a b
 | _,_=>False
theorem RelP.loop {R:α→α→Prop}{step step':α→Par (Option α)}(hs:∀a a',R a a'→RelP ρ (OptR R) (step a) (step' a'))(m:Nat):∀a a',R a a'→RelP ρ R (loop step m a) (loop step' m a'):=by
 induction m with
 | zero=>intro a a' _ l l' _;exact rfl
 | succ m ih =>
  intro a a' h
  refine RelP.bind (hs a a' h) fun b b' hb=>?_
  cases b with
  | none =>
   cases b' with
   | none=>exact RelP.pure h
   | some _=>exact hb.elim
  | some b =>
   cases b' with
   | none=>exact hb.elim
   | some b'=>exact ih b b' hb
theorem RelP.many {R:α→α→Prop}{step step':α→Par (Option α)}(hs:∀a a',R a a'→RelP ρ (OptR R) (step a) (step' a')){a a':α}(h:R a a'):RelP ρ R (many step a) (many step' a'):=fun l l' hl=>by
 have:=RelP.loop hs (l.length+1) a a' h l l' hl
 simp only [Par.many,← hl.len]
 exact this
theorem KidsR.nil:KidsR ρ [] []:=⟨rfl,fun i x y h=>by simp at h⟩
theorem KidsR.cons {a a':Ast}{ks ks':List Ast}(h:AstR ρ a a')(hk:KidsR ρ ks ks'):KidsR ρ (a::ks) (a'::ks'):=⟨by simp [hk.1],fun i x y hx hy=>by
 cases i with
 | zero=>simp at hx hy;subst hx hy;exact h
 | succ i=>exact hk.2 i x y (by simpa using hx) (by simpa using hy)⟩
theorem KidsR.snoc {a a':Ast}{ks ks':List Ast}(hk:KidsR ρ ks ks')(h:AstR ρ a a'):KidsR ρ (ks++[a]) (ks'++[a']):=⟨by simp [hk.1],fun i x y hx hy=>by
 by_cases hi:i<ks.length
 · rw [List.getElem?_append_left hi] at hx
   rw [List.getElem?_append_left (by rw [← hk.1];exact hi)] at hy
   exact hk.2 i x y hx hy
 · rw [List.getElem?_append_right (by omega)] at hx
   rw [List.getElem?_append_right (by rw [← hk.1];omega),← hk.1] at hy
   cases hj:i-ks.length with
   | zero=>rw [hj] at hx hy;simp at hx hy;subst hx hy;exact h
   | succ j=>rw [hj] at hx;simp at hx⟩
theorem AstR.node {k n:Int}{a a':Nat}{t:ByteArray}{ks ks':List Ast}(h:ρ a a')(hk:KidsR ρ ks ks'):AstR ρ (.mk k a t n ks) (.mk k a' t n ks'):=.mk h hk.1 hk.2
theorem AstR.at' {a a':Ast}(h:AstR ρ a a'):ρ a.at' a'.at':=by
 cases h with
 | mk h _ _=>exact h
theorem RelP.ite {R:α→α→Prop}{p p':Prop}[Decidable p][Decidable p'](hp:p↔p'){f f' g g':Par α}(hf:RelP ρ R f f')(hg:RelP ρ R g g'):RelP ρ R (if p then f else g) (if p' then f' else g'):=by
 by_cases h:p
 · rw [if_pos h,if_pos (hp.1 h)];exact hf
 · rw [if_neg h,if_neg (fun e=>h (hp.2 e))];exact hg
end
end
section
open Par
def IsEnd (e:PT):Prop:=e.kind=4∧e.txt=none0
def EndP {α:Type}(f:Par α):Prop:=∀e,IsEnd e→f [e]=.err e.at' 50∨∃a,f [e]=.ok a [e]
def CutR {α:Type}(f:Par α)(e:PT)(pre rest:List PT)(a:α)(l1:List PT):Prop :=
 (∃pre',l1=pre'++rest∧f (pre++[e])=.ok a (pre'++[e]))∨f (pre++[e])=.err e.at' 50∨∃a',f (pre++[e])=.ok a' [e]
def CutP {α:Type}(f:Par α):Prop:=∀e,IsEnd e→∀pre rest a l1,f (pre++rest)=.ok a l1→CutR f e pre rest a l1
section
variable {α β:Type}
theorem EndP.bind {f:Par α}{g:α→Par β}(hf:EndP f)(hg:∀a,EndP (g a)):EndP (Par.bind f g):=fun e he=>by
 rcases hf e he with h|⟨a,h⟩
 · exact Or.inl (bind_err h)
 · rw [bind_ok h];exact hg a e he
theorem EndP.pure (a:α):EndP (Par.pure a):=fun e _=>Or.inr ⟨a,rfl⟩
theorem EndP.fail:EndP (failP:Par α):=fun e _=>Or.inl rfl
theorem CutP.bind {f:Par α}{g:α→Par β}(hf:CutP f)(hg:∀a,CutP (g a))(hge:∀a,EndP (g a)):CutP (Par.bind f g):=fun e he pre rest b l2 h=>by
 simp only [Par.bind] at h
 cases h1:f (pre++rest) with
 | err p c=>rw [h1] at h;simp at h
 | ok a l1 =>
  rw [h1] at h
  rcases hf e he pre rest a l1 h1 with ⟨pre',rfl,h2⟩|h2|⟨a',h2⟩
  · have:=hg a e he pre' rest b l2 h
    unfold CutR at this ⊢
    rw [bind_ok h2]
    exact this
  · exact Or.inr (Or.inl (bind_err h2))
  · rcases hge a' e he with h3|⟨b',h3⟩
    · exact Or.inr (Or.inl (by rw [bind_ok h2];exact h3))
    · exact Or.inr (Or.inr ⟨b',by rw [bind_ok h2];exact h3⟩)
theorem CutP.pure (a:α):CutP (Par.pure a):=fun e _ pre rest b l1 h=>by
 simp only [Par.pure,Res.ok.injEq] at h
 obtain ⟨rfl,rfl⟩:=h
 exact Or.inl ⟨pre,rfl,rfl⟩
theorem CutP.fail:CutP (failP:Par α):=fun e _ pre rest b l1 h=>by
 cases h1:pre++rest with
 | nil=>rw [h1] at h;simp [failP] at h
 | cons t l=>rw [h1] at h;simp [failP] at h
theorem cut_end {f:Par α}(h:EndP f){e:PT}(he:IsEnd e)(rest:List PT)(a:α)(l1:List PT):CutR f e [] rest a l1:=Or.inr (h e he)
theorem end_isNext (s:ByteArray):EndP (isNextP s):=fun e _=>Or.inr ⟨_,rfl⟩
theorem end_peek:EndP peekP:=fun e _=>Or.inr ⟨_,rfl⟩
theorem end_skip (s:ByteArray)(hs:s≠none0):EndP (skipP s):=fun e he=>Or.inr ⟨false,by simp only [skipP,he.2];rw [if_neg (fun h=>hs h.symm)]⟩
theorem end_expect (s:ByteArray)(hs:s≠none0):EndP (expectP s):=fun e he=>Or.inl (by simp only [expectP,he.2];rw [if_neg (fun h=>hs h.symm)])
theorem end_enter (s:ByteArray)(r:Nat)(hs:s≠none0):EndP (enterP s r):=fun e he=>Or.inl (by simp only [enterP,he.2];rw [if_neg (fun h=>hs h.symm)])
theorem end_take (k:Int)(hk:k≠4):EndP (takeP k):=fun e he=>Or.inl (by simp only [takeP,he.1];rw [if_neg (fun h=>hk h.symm)])
theorem cut_isNext (s:ByteArray):CutP (isNextP s):=fun e he pre rest a l1 h=>by
 cases pre with
 | nil=>exact cut_end (end_isNext s) he _ _ _
 | cons t pre =>
  simp only [List.cons_append,isNextP,Res.ok.injEq] at h
  obtain ⟨rfl,rfl⟩:=h
  exact Or.inl ⟨t::pre,rfl,rfl⟩
theorem cut_peek:CutP peekP:=fun e he pre rest a l1 h=>by
 cases pre with
 | nil=>exact cut_end end_peek he _ _ _
 | cons t pre =>
  simp only [List.cons_append,peekP,Res.ok.injEq] at h
  obtain ⟨rfl,rfl⟩:=h
  exact Or.inl ⟨t::pre,rfl,rfl⟩
theorem cut_skip (s:ByteArray)(hs:s≠none0):CutP (skipP s):=fun e he pre rest a l1 h=>by
 cases pre with
 | nil=>exact cut_end (end_skip s hs) he _ _ _
 | cons t pre =>
  simp only [List.cons_append,skipP] at h
  split at h<;>simp only [Res.ok.injEq] at h<;>obtain ⟨rfl,rfl⟩:=h
  · exact Or.inl ⟨pre,rfl,by simp only [List.cons_append,skipP];rw [if_pos ‹_›]⟩
  · exact Or.inl ⟨t::pre,rfl,by simp only [List.cons_append,skipP];rw [if_neg ‹_›]⟩
theorem cut_expect (s:ByteArray)(hs:s≠none0):CutP (expectP s):=fun e he pre rest a l1 h=>by
 cases pre with
 | nil=>exact cut_end (end_expect s hs) he _ _ _
 | cons t pre =>
  simp only [List.cons_append,expectP] at h
  split at h<;>simp only [Res.ok.injEq,reduceCtorEq] at h
  obtain ⟨rfl,rfl⟩:=h
  exact Or.inl ⟨pre,rfl,by simp only [List.cons_append,expectP];rw [if_pos ‹_›]⟩
theorem cut_take (k:Int)(hk:k≠4):CutP (takeP k):=fun e he pre rest a l1 h=>by
 cases pre with
 | nil=>exact cut_end (end_take k hk) he _ _ _
 | cons t pre =>
  simp only [List.cons_append,takeP] at h
  split at h<;>simp only [Res.ok.injEq,reduceCtorEq] at h
  obtain ⟨rfl,rfl⟩:=h
  exact Or.inl ⟨pre,rfl,by simp only [List.cons_append,takeP];rw [if_pos ‹_›]⟩
theorem cut_enter (s:ByteArray)(r:Nat)(hs:s≠none0):CutP (enterP s r):=fun e he pre rest a l1 h=>by
 cases pre with
 | nil=>exact cut_end (end_enter s r hs) he _ _ _
 | cons t pre =>
  simp only [List.cons_append,enterP] at h
  split at h
  · split at h<;>simp only [Res.ok.injEq,reduceCtorEq] at h
    obtain ⟨rfl,rfl⟩:=h
    exact Or.inl ⟨pre,rfl,by simp only [List.cons_append,enterP];rw [if_pos ‹_›,if_neg ‹_›]⟩
  · simp at h
theorem cut_first {g:PT→Par β}(hend:EndP (Par.bind peekP g))(h:∀e,IsEnd e→∀t pre rest a l1,g t (t::pre++rest)=.ok a l1→CutR (g t) e (t::pre) rest a l1):CutP (Par.bind peekP g):=fun e he pre rest a l1 hx=>by
 cases pre with
 | nil=>exact cut_end hend he _ _ _
 | cons t pre=>exact h e he t pre rest a l1 hx
theorem cut_next {g:PT→Par β}{e:PT}(he:IsEnd e){t:PT}{pre rest:List PT}{a:β}{l1:List PT}(hg:CutP (g t))(h:Par.bind nextP g (t::pre++rest)=.ok a l1):CutR (Par.bind nextP g) e (t::pre) rest a l1:=hg e he pre rest a l1 h
theorem EndP.ite {p:Prop}[Decidable p]{f g:Par α}(hf:EndP f)(hg:EndP g):EndP (if p then f else g):=by split<;>assumption
theorem EndP.bool {f g:Par α}(hf:EndP f)(hg:EndP g)(b:Bool):EndP (match b with|true=>f|false=>g):=by
 cases b
 · exact hg
 · exact hf
theorem CutP.bool {f g:Par α}(hf:CutP f)(hg:CutP g)(b:Bool):CutP (match b with|true=>f|false=>g):=by
 cases b
 · exact hg
 · exact hf
theorem EndP.loop {step:α→Par (Option α)}(hs:Adv step)(he:∀a,EndP (step a))(m:Nat)(a:α)(e:PT)(hE:IsEnd e):Par.loop step (m+1) a [e]=.err e.at' 50∨∃b,Par.loop step (m+1) a [e]=.ok b [e]:=by
 rw [Par.loop]
 rcases he a e hE with h|⟨b,h⟩
 · exact Or.inl (bind_err h)
 · cases b with
   | none=>exact Or.inr ⟨a,by rw [bind_ok h];rfl⟩
   | some b =>
    have:=(hs _ _ _ _ h).1 rfl
    simp at this
theorem EndP.many {step:α→Par (Option α)}(hs:Adv step)(he:∀a,EndP (step a))(a:α):EndP (many step a):=fun e hE=>EndP.loop hs he 1 a e hE
theorem CutP.loop {step:α→Par (Option α)}(hs:Adv step)(hc:∀a,CutP (step a))(hE:∀a,EndP (step a))(e:PT)(he:IsEnd e)(m:Nat):∀(k:Nat) (a:α) (pre rest:List PT) (b:α) (l1:List PT),(pre++[e]).length<k→loop step m a (pre++rest)=.ok b l1 →
 (∃pre',l1=pre'++rest∧loop step k a (pre++[e])=.ok b (pre'++[e]))∨loop step k a (pre++[e])=.err e.at' 50∨∃a',loop step k a (pre++[e])=.ok a' [e]:=by
 induction m with
 | zero=>intro k a pre rest b l1 _ h;simp [Par.loop] at h
 | succ m ih =>
  intro k a pre rest b l1 hk h
  obtain ⟨k,rfl⟩:∃k',k=k'+1:=⟨k-1,by omega⟩
  rw [Par.loop] at h
  rw [Par.loop]
  simp only [Par.bind] at h
  cases h1:step a (pre++rest) with
  | err p c=>rw [h1] at h;simp at h
  | ok o l2 =>
   rw [h1] at h
   rcases hc a e he pre rest o l2 h1 with ⟨pre',rfl,h2⟩|h2|⟨o',h2⟩
   · cases o with
     | none =>
      simp only [Par.pure,Res.ok.injEq] at h
      obtain ⟨rfl,rfl⟩:=h
      exact Or.inl ⟨pre',rfl,by rw [bind_ok h2];rfl⟩
     | some a2 =>
      have h3:=(hs _ _ _ _ h2).1 rfl
      rw [bind_ok h2]
      exact ih k a2 pre' rest b l1 (by omega) h
   · exact Or.inr (Or.inl (bind_err h2))
   · rw [bind_ok h2]
     cases o' with
     | none=>exact Or.inr (Or.inr ⟨a,rfl⟩)
     | some a2 =>
      have h3:=(hs _ _ _ _ h2).1 rfl
      simp only [List.length_append,List.length_singleton] at h3 hk
      obtain ⟨k,rfl⟩:∃k',k=k'+1:=⟨k-1,by omega⟩
      exact Or.inr (EndP.loop hs hE k a2 e he)
theorem CutP.many {step:α→Par (Option α)}(hs:Adv step)(hc:∀a,CutP (step a))(hE:∀a,EndP (step a))(a:α):CutP (many step a):=fun e he pre rest b l1 h =>
 CutP.loop hs hc hE e he _ _ a pre rest b l1 (Nat.lt_succ_self _) h
def FrW (f:Par α):Prop:=∀e,IsEnd e→∀pre a l',f (pre++[e])=.ok a l'→∃pre',l'=pre'++[e]∧(pre'≠[]→∀rest,f (pre++rest)=.ok a (pre'++rest))
theorem FrW.bind {f:Par α}{g:α→Par β}(hf:FrW f)(hg:∀a,FrW (g a))(hl:∀a,Less (g a)):FrW (Par.bind f g):=fun e he pre b l2 h=>by
 simp only [Par.bind] at h
 cases h1:f (pre++[e]) with
 | err p c=>rw [h1] at h;simp at h
 | ok a l1 =>
  rw [h1] at h
  obtain ⟨pre1,rfl,k1⟩:=hf e he pre a l1 h1
  obtain ⟨pre2,rfl,k2⟩:=hg a e he pre1 b l2 h
  refine ⟨pre2,rfl,fun hn rest=>?_⟩
  have h3:=hl a _ _ _ h
  have hn1:pre1≠[]:=fun e1=>by
   subst e1
   simp only [List.length_append,List.length_nil,List.length_singleton] at h3
   exact hn (List.length_eq_zero_iff.1 (by omega))
  rw [bind_ok (k1 hn1 rest)]
  exact k2 hn rest
theorem FrW.pure (a:α):FrW (Par.pure a):=fun e _ pre b l1 h=>by
 simp only [Par.pure,Res.ok.injEq] at h
 obtain ⟨rfl,rfl⟩:=h
 exact ⟨pre,rfl,fun _ _=>rfl⟩
theorem FrW.fail:FrW (failP:Par α):=fun e _ pre b l1 h=>by cases pre<;>simp [failP] at h
theorem fr_isNext (s:ByteArray):FrW (isNextP s):=fun e _ pre a l1 h=>by
 cases pre with
 | nil =>
  simp only [List.nil_append,isNextP,Res.ok.injEq] at h
  exact ⟨[],h.2.symm,fun hn=>absurd rfl hn⟩
 | cons t pre =>
  simp only [List.cons_append,isNextP,Res.ok.injEq] at h
  obtain ⟨rfl,rfl⟩:=h
  exact ⟨t::pre,rfl,fun _ _=>rfl⟩
theorem fr_peek:FrW peekP:=fun e _ pre a l1 h=>by
 cases pre with
 | nil =>
  simp only [List.nil_append,peekP,Res.ok.injEq] at h
  exact ⟨[],h.2.symm,fun hn=>absurd rfl hn⟩
 | cons t pre =>
  simp only [List.cons_append,peekP,Res.ok.injEq] at h
  obtain ⟨rfl,rfl⟩:=h
  exact ⟨t::pre,rfl,fun _ _=>rfl⟩
theorem fr_skip (s:ByteArray)(hs:s≠none0):FrW (skipP s):=fun e he pre a l1 h=>by
 cases pre with
 | nil =>
  simp only [List.nil_append,skipP,he.2] at h
  rw [if_neg (fun h=>hs h.symm)] at h
  simp only [Res.ok.injEq] at h
  exact ⟨[],h.2.symm,fun hn=>absurd rfl hn⟩
 | cons t pre =>
  simp only [List.cons_append,skipP] at h
  split at h<;>simp only [Res.ok.injEq] at h<;>obtain ⟨rfl,rfl⟩:=h
  · exact ⟨pre,rfl,fun _ rest=>by simp only [List.cons_append,skipP];rw [if_pos ‹_›]⟩
  · exact ⟨t::pre,rfl,fun _ rest=>by simp only [List.cons_append,skipP];rw [if_neg ‹_›]⟩
def FrS (f:Par α):Prop:=∀e,IsEnd e→∀pre a l',f (pre++[e])=.ok a l'→∃pre',l'=pre'++[e]∧∀rest,f (pre++rest)=.ok a (pre'++rest)
theorem FrS.weak {f:Par α}(h:FrS f):FrW f:=fun e he pre a l' hx=>by
 obtain ⟨pre',h1,h2⟩:=h e he pre a l' hx
 exact ⟨pre',h1,fun _=>h2⟩
theorem frs_expect (s:ByteArray)(hs:s≠none0):FrS (expectP s):=fun e he pre a l1 h=>by
 cases pre with
 | nil =>
  simp only [List.nil_append,expectP,he.2] at h
  rw [if_neg (fun h=>hs h.symm)] at h
  simp at h
 | cons t pre =>
  simp only [List.cons_append,expectP] at h
  split at h<;>simp only [Res.ok.injEq,reduceCtorEq] at h
  obtain ⟨rfl,rfl⟩:=h
  exact ⟨pre,rfl,fun rest=>by simp only [List.cons_append,expectP];rw [if_pos ‹_›]⟩
theorem frs_take (k:Int)(hk:k≠4):FrS (takeP k):=fun e he pre a l1 h=>by
 cases pre with
 | nil =>
  simp only [List.nil_append,takeP,he.1] at h
  rw [if_neg (fun h=>hk h.symm)] at h
  simp at h
 | cons t pre =>
  simp only [List.cons_append,takeP] at h
  split at h<;>simp only [Res.ok.injEq,reduceCtorEq] at h
  obtain ⟨rfl,rfl⟩:=h
  exact ⟨pre,rfl,fun rest=>by simp only [List.cons_append,takeP];rw [if_pos ‹_›]⟩
theorem frs_enter (s:ByteArray)(r:Nat)(hs:s≠none0):FrS (enterP s r):=fun e he pre a l1 h=>by
 cases pre with
 | nil =>
  simp only [List.nil_append,enterP,he.2] at h
  rw [if_neg (fun h=>hs h.symm)] at h
  simp at h
 | cons t pre =>
  simp only [List.cons_append,enterP] at h
  split at h
  · split at h<;>simp only [Res.ok.injEq,reduceCtorEq] at h
    obtain ⟨rfl,rfl⟩:=h
    exact ⟨pre,rfl,fun rest=>by simp only [List.cons_append,enterP];rw [if_pos ‹_›,if_neg ‹_›]⟩
  · simp at h
theorem FrS.pure (a:α):FrS (Par.pure a):=fun e _ pre b l1 h=>by
 simp only [Par.pure,Res.ok.injEq] at h
 obtain ⟨rfl,rfl⟩:=h
 exact ⟨pre,rfl,fun _=>rfl⟩
theorem FrS.bind {f:Par α}{g:α→Par β}(hf:FrS f)(hg:∀a,FrS (g a)):FrS (Par.bind f g):=fun e he pre b l2 h=>by
 simp only [Par.bind] at h
 cases h1:f (pre++[e]) with
 | err p c=>rw [h1] at h;simp at h
 | ok a l1 =>
  rw [h1] at h
  obtain ⟨pre1,rfl,k1⟩:=hf e he pre a l1 h1
  obtain ⟨pre2,rfl,k2⟩:=hg a e he pre1 b l2 h
  exact ⟨pre2,rfl,fun rest=>by rw [bind_ok (k1 rest)];exact k2 rest⟩
theorem FrW.loop {step:α→Par (Option α)}(hs:Adv step)(hl:∀a,Less (step a))(hc:∀a,FrW (step a))(e:PT)(he:IsEnd e)(m:Nat):∀(a:α) (pre:List PT) (b:α) (l1:List PT),loop step m a (pre++[e])=.ok b l1 →
 ∃pre',l1=pre'++[e]∧(pre'≠[]→∀rest k,(pre++rest).length<k→loop step k a (pre++rest)=.ok b (pre'++rest)):=by
 induction m with
 | zero=>intro a pre b l1 h;simp [Par.loop] at h
 | succ m ih =>
  intro a pre b l1 h
  rw [Par.loop] at h
  simp only [Par.bind] at h
  cases h1:step a (pre++[e]) with
  | err p c=>rw [h1] at h;simp at h
  | ok o l2 =>
   rw [h1] at h
   obtain ⟨pre1,rfl,k1⟩:=hc a e he pre o l2 h1
   cases o with
   | none =>
    simp only [Par.pure,Res.ok.injEq] at h
    obtain ⟨rfl,rfl⟩:=h
    refine ⟨pre1,rfl,fun hn rest k hk=>?_⟩
    obtain ⟨k,rfl⟩:∃k',k=k'+1:=⟨k-1,by omega⟩
    rw [Par.loop,bind_ok (k1 hn rest)]
    rfl
   | some a2 =>
    obtain ⟨pre2,rfl,k2⟩:=ih a2 pre1 b l1 h
    refine ⟨pre2,rfl,fun hn rest k hk=>?_⟩
    have hlen:=Less.loop hl m a2 _ _ _ h
    have hn1:pre1≠[]:=fun e1=>by
     subst e1
     simp only [List.length_append,List.length_nil,List.length_singleton] at hlen
     exact hn (List.length_eq_zero_iff.1 (by omega))
    obtain ⟨k,rfl⟩:∃k',k=k'+1:=⟨k-1,by omega⟩
    have h5:=(hs _ _ _ _ (k1 hn1 rest)).1 rfl
    rw [Par.loop,bind_ok (k1 hn1 rest)]
    exact k2 hn rest k (by omega)
theorem FrW.many {step:α→Par (Option α)}(hs:Adv step)(hl:∀a,Less (step a))(hc:∀a,FrW (step a))(a:α):FrW (many step a):=fun e he pre b l1 h=>by
 obtain ⟨pre',h1,h2⟩:=FrW.loop hs hl hc e he _ a pre b l1 h
 exact ⟨pre',h1,fun hn rest=>h2 hn rest _ (Nat.lt_succ_self _)⟩
def Suf (f:Par α):Prop:=∀l a l',f l=.ok a l'→l' <:+ l
theorem Suf.pure (a:α):Suf (Par.pure a):=fun l b l' h=>by
 simp only [Par.pure,Res.ok.injEq] at h
 rw [h.2];exact List.suffix_refl _
theorem Suf.bind {f:Par α}{g:α→Par β}(hf:Suf f)(hg:∀a,Suf (g a)):Suf (Par.bind f g):=fun l b l' h=>by
 simp only [Par.bind] at h
 cases h1:f l with
 | err p c=>rw [h1] at h;simp at h
 | ok a l1 =>
  rw [h1] at h
  exact (hg a l1 b l' h).trans (hf l a l1 h1)
theorem Suf.loop {step:α→Par (Option α)}(hs:∀a,Suf (step a))(m:Nat)(a:α):Suf (loop step m a):=by
 induction m generalizing a with
 | zero=>intro l b l' h;simp [Par.loop] at h
 | succ m ih =>
  refine Suf.bind (hs a) fun b=>?_
  cases b with
  | none=>exact Suf.pure a
  | some b=>exact ih b
theorem Suf.many {step:α→Par (Option α)}(hs:∀a,Suf (step a))(a:α):Suf (many step a):=fun l=>Suf.loop hs (l.length+1) a l
theorem suf_fail:Suf (failP:Par α):=fun l a l' h=>by cases l<;>simp [failP] at h
theorem suf_peek:Suf peekP:=fun l a l' h=>by
 cases l with
 | nil=>simp [peekP] at h
 | cons t l=>simp only [peekP,Res.ok.injEq] at h;rw [h.2];exact List.suffix_refl _
theorem suf_isNext (s:ByteArray):Suf (isNextP s):=fun l a l' h=>by
 cases l with
 | nil=>simp [isNextP] at h
 | cons t l=>simp only [isNextP,Res.ok.injEq] at h;rw [h.2];exact List.suffix_refl _
theorem suf_next:Suf nextP:=fun l a l' h=>by
 cases l with
 | nil=>simp [nextP] at h
 | cons t l=>simp only [nextP,Res.ok.injEq] at h;rw [h.2];exact List.suffix_cons _ _
theorem suf_skip (s:ByteArray):Suf (skipP s):=fun l a l' h=>by
 cases l with
 | nil=>simp [skipP] at h
 | cons t l =>
  simp only [skipP] at h
  split at h<;>simp only [Res.ok.injEq] at h<;>rw [← h.2]
  · exact List.suffix_cons _ _
  · exact List.suffix_refl _
theorem suf_expect (s:ByteArray):Suf (expectP s):=fun l a l' h=>by
 cases l with
 | nil=>simp [expectP] at h
 | cons t l =>
  simp only [expectP] at h
  split at h<;>simp only [Res.ok.injEq,reduceCtorEq] at h
  rw [← h.2]
  exact List.suffix_cons _ _
theorem suf_take (k:Int):Suf (takeP k):=fun l a l' h=>by
 cases l with
 | nil=>simp [takeP] at h
 | cons t l =>
  simp only [takeP] at h
  split at h<;>simp only [Res.ok.injEq,reduceCtorEq] at h
  rw [← h.2]
  exact List.suffix_cons _ _
theorem suf_enter (s:ByteArray)(r:Nat):Suf (enterP s r):=fun l a l' h=>by
 cases l with
 | nil=>simp [enterP] at h
 | cons t l =>
  simp only [enterP] at h
  split at h
  · split at h<;>simp only [Res.ok.injEq,reduceCtorEq] at h
    rw [← h.2]
    exact List.suffix_cons _ _
  · simp at h
theorem suf_ite {p:Prop}[Decidable p]{f g:Par α}(hf:Suf f)(hg:Suf g):Suf (if p then f else g):=by split<;>assumption
def ErrQ (f:Par α):Prop:=∀l p c,f l=.err p c→c≠0∧(p=0∨∃t∈l,p=t.at')
theorem ErrQ.pure (a:α):ErrQ (Par.pure a):=fun l p c h=>by simp [Par.pure] at h
theorem ErrQ.bind {f:Par α}{g:α→Par β}(hf:ErrQ f)(hs:Suf f)(hg:∀a,ErrQ (g a)):ErrQ (Par.bind f g):=fun l p c h=>by
 simp only [Par.bind] at h
 cases h1:f l with
 | err q d =>
  rw [h1] at h
  simp only [Res.err.injEq] at h
  obtain ⟨rfl,rfl⟩:=h
  exact hf l _ _ h1
 | ok a l1 =>
  rw [h1] at h
  obtain ⟨h2,h3⟩:=hg a l1 p c h
  refine ⟨h2,h3.imp id ?_⟩
  rintro ⟨t,ht,e⟩
  exact ⟨t,(hs l a l1 h1).subset ht,e⟩
theorem ErrQ.loop {step:α→Par (Option α)}(hs:∀a,ErrQ (step a))(hf:∀a,Suf (step a))(m:Nat)(a:α):ErrQ (loop step m a):=by
 induction m generalizing a with
 | zero=>intro l p c h;simp only [Par.loop,Res.err.injEq] at h;exact ⟨by omega,Or.inl h.1.symm⟩
 | succ m ih =>
  refine ErrQ.bind (hs a) (hf a) fun b=>?_
  cases b with
  | none=>exact ErrQ.pure a
  | some b=>exact ih b
theorem ErrQ.many {step:α→Par (Option α)}(hs:∀a,ErrQ (step a))(hf:∀a,Suf (step a))(a:α):ErrQ (many step a):=fun l=>ErrQ.loop hs hf (l.length+1) a l
theorem er_one {p:Nat}{c:Int}{q:Nat}{d:Int}{l:List PT}(h:(Res.err q d:Res α)=.err p c)(hd:d≠0)(hq:q=0∨∃t∈l,q=t.at'):c≠0∧(p=0∨∃t∈l,p=t.at'):=by
 simp only [Res.err.injEq] at h
 obtain ⟨rfl,rfl⟩:=h
 exact ⟨hd,hq⟩
theorem er_fail:ErrQ (failP:Par α):=fun l p c h=>by
 cases l with
 | nil=>exact er_one h (by decide) (Or.inl rfl)
 | cons t l=>exact er_one h (by decide) (Or.inr ⟨t,by simp,rfl⟩)
theorem er_peek:ErrQ peekP:=fun l p c h=>by
 cases l with
 | nil=>exact er_one h (by decide) (Or.inl rfl)
 | cons t l=>simp [peekP] at h
theorem er_next:ErrQ nextP:=fun l p c h=>by
 cases l with
 | nil=>exact er_one h (by decide) (Or.inl rfl)
 | cons t l=>simp [nextP] at h
theorem er_isNext (s:ByteArray):ErrQ (isNextP s):=fun l p c h=>by
 cases l with
 | nil=>exact er_one h (by decide) (Or.inl rfl)
 | cons t l=>simp [isNextP] at h
theorem er_skip (s:ByteArray):ErrQ (skipP s):=fun l p c h=>by
 cases l with
 | nil=>exact er_one h (by decide) (Or.inl rfl)
 | cons t l=>simp only [skipP] at h;split at h<;>simp at h
theorem er_expect (s:ByteArray):ErrQ (expectP s):=fun l p c h=>by
 cases l with
 | nil=>exact er_one h (by decide) (Or.inl rfl)
 | cons t l =>
  simp only [expectP] at h
  split at h
  · simp at h
  · exact er_one h (by decide) (Or.inr ⟨t,by simp,rfl⟩)
theorem er_take (k:Int):ErrQ (takeP k):=fun l p c h=>by
 cases l with
 | nil=>exact er_one h (by decide) (Or.inl rfl)
 | cons t l =>
  simp only [takeP] at h
  split at h
  · simp at h
  · exact er_one h (by decide) (Or.inr ⟨t,by simp,rfl⟩)
theorem er_enter (s:ByteArray)(r:Nat):ErrQ (enterP s r):=fun l p c h=>by
 cases l with
 | nil=>exact er_one h (by decide) (Or.inl rfl)
 | cons t l =>
  simp only [enterP] at h
  split at h
  · split at h
    · exact er_one h (by decide) (Or.inr ⟨t,by simp,rfl⟩)
    · simp at h
  · exact er_one h (by decide) (Or.inr ⟨t,by simp,rfl⟩)
theorem er_ite {p:Prop}[Decidable p]{f g:Par α}(hf:ErrQ f)(hg:ErrQ g):ErrQ (if p then f else g):=by split<;>assumption
structure CE (f:Par α):Prop where
 less:Less f
 suf:Suf f
 er:ErrQ f
 cut:CutP f
 fin:EndP f
 fr:FrW f
theorem CE.bind {f:Par α}{g:α→Par β}(hf:CE f)(hg:∀a,CE (g a)):CE (Par.bind f g):=⟨Less.bind hf.less fun a=>(hg a).less,Suf.bind hf.suf fun a=>(hg a).suf,ErrQ.bind hf.er hf.suf fun a=>(hg a).er,hf.cut.bind (fun a=>(hg a).cut) (fun a=>(hg a).fin),hf.fin.bind fun a=>(hg a).fin,hf.fr.bind (fun a=>(hg a).fr) fun a=>(hg a).less⟩
theorem CE.pure (a:α):CE (Par.pure a):=⟨Less.pure a,Suf.pure a,ErrQ.pure a,CutP.pure a,EndP.pure a,FrW.pure a⟩
theorem CE.fail:CE (failP:Par α):=⟨less_fail,suf_fail,er_fail,CutP.fail,EndP.fail,FrW.fail⟩
theorem CE.many {step:α→Par (Option α)}(hs:Adv step)(h:∀a,CE (step a))(a:α):CE (many step a):=⟨Less.many (fun a=>(h a).less) a,Suf.many (fun a=>(h a).suf) a,ErrQ.many (fun a=>(h a).er) (fun a=>(h a).suf) a,CutP.many hs (fun a=>(h a).cut) (fun a=>(h a).fin) a,EndP.many hs (fun a=>(h a).fin) a,FrW.many hs (fun a=>(h a).less) (fun a=>(h a).fr) a⟩
theorem ce_isNext (s:ByteArray):CE (isNextP s):=⟨less_isNext s,suf_isNext s,er_isNext s,cut_isNext s,end_isNext s,fr_isNext s⟩
theorem ce_peek:CE peekP:=⟨less_peek,suf_peek,er_peek,cut_peek,end_peek,fr_peek⟩
theorem ce_skip (s:ByteArray)(hs:s≠none0):CE (skipP s):=⟨less_skip s,suf_skip s,er_skip s,cut_skip s hs,end_skip s hs,fr_skip s hs⟩
theorem ce_expect (s:ByteArray)(hs:s≠none0):CE (expectP s):=⟨less_expect s,suf_expect s,er_expect s,cut_expect s hs,end_expect s hs,(frs_expect s hs).weak⟩
theorem ce_take (k:Int)(hk:k≠4):CE (takeP k):=⟨less_take k,suf_take k,er_take k,cut_take k hk,end_take k hk,(frs_take k hk).weak⟩
theorem ce_enter (s:ByteArray)(r:Nat)(hs:s≠none0):CE (enterP s r):=⟨less_enter s r,suf_enter s r,er_enter s r,cut_enter s r hs,end_enter s r hs,(frs_enter s r hs).weak⟩
theorem CE.first {g:PT→Par β}(hless:∀t,Less (g t))(hsuf:∀t,Suf (g t))(her:∀t,ErrQ (g t))(hend:∀e,IsEnd e→g e [e]=.err e.at' 50)(hc:∀e,IsEnd e→∀t pre rest a l1,g t (t::pre++rest)=.ok a l1→CutR (g t) e (t::pre) rest a l1)
 (hf:∀e,IsEnd e→∀t pre a l',g t (t::pre++[e])=.ok a l'→∃pre',l'=pre'++[e]∧(pre'≠[]→∀rest,g t (t::pre++rest)=.ok a (pre'++rest))):CE (Par.bind peekP g) where
 less:=Less.bind less_peek hless
 suf:=Suf.bind suf_peek hsuf
 er:=ErrQ.bind er_peek suf_peek her
 fin:=fun e he=>Or.inl (hend e he)
 cut:=cut_first (fun e he=>Or.inl (hend e he)) hc
 fr:=fun e he pre a l1 h=>by
  cases pre with
  | nil =>
   have:g e [e]=.ok a l1:=h
   rw [hend e he] at this
   simp at this
  | cons t pre=>exact hf e he t pre a l1 h
theorem ce_word:CE wordP:=(ce_take _ (by decide)).bind fun _=>.pure _
theorem ce_number:CE numberP:=(ce_take _ (by decide)).bind fun _=>.pure _
theorem ce_times {fac:Par Ast}(h:CE fac)(a:Ast):CE (timesStep fac a):=(ce_skip _ (by decide)).bind fun b=>by
 cases b
 · exact .pure _
 · exact h.bind fun _=>.pure _
theorem ce_term {fac:Par Ast}(h:CE fac):CE (termP fac):=h.bind fun _=>.many (step_times h.less) (ce_times h) _
theorem ce_sum {fac:Par Ast}(h:CE fac)(a:Ast):CE (sumStep fac a):=(ce_skip _ (by decide)).bind fun b=>by
 cases b
 · refine (ce_skip _ (by decide)).bind fun b=>?_
   cases b
   · exact .pure _
   · exact (ce_term h).bind fun _=>.pure _
 · exact (ce_term h).bind fun _=>.pure _
theorem ce_exprP {fac:Par Ast}(h:CE fac):CE (exprP fac):=(ce_term h).bind fun _=>.many (step_sum h.less) (ce_sum h) _
theorem ce_factorOf (r:Nat){fac:Par Ast}(h:CE fac):CE (factorOf r fac):=by
 have hb:CE (bracketP r (exprP fac)):=(ce_enter _ _ (by decide)).bind fun _=>(ce_exprP h).bind fun _=>(ce_expect _ (by decide)).bind fun _=>.pure _
 have hn:CE (negP r fac):=(ce_enter _ _ (by decide)).bind fun _=>h.bind fun _=>.pure _
 refine CE.first (fun t=>?_) (fun t=>?_) (fun t=>?_) (fun e he=>?_) (fun e he t pre rest a l1 hx=>?_) (fun e he t pre a l1 hx=>?_)
 · exact less_ite less_number (less_ite (Less.bind less_next fun _=>Less.pure _) (less_ite hb.less (less_ite hn.less less_fail)))
 · exact suf_ite ce_number.suf (suf_ite (Suf.bind suf_next fun _=>Suf.pure _) (suf_ite hb.suf (suf_ite hn.suf suf_fail)))
 · exact er_ite ce_number.er (er_ite (ErrQ.bind er_next suf_next fun _=>ErrQ.pure _) (er_ite hb.er (er_ite hn.er er_fail)))
 · rw [if_neg (by rw [he.1];decide),if_neg (by rw [he.1];decide),if_neg (by rw [he.2];decide),if_neg (by rw [he.2];decide)]
   rfl
 · unfold CutR
   by_cases h1:t.kind=2
   · simp only [if_pos h1] at hx ⊢;exact ce_number.cut e he _ rest a l1 hx
   · simp only [if_neg h1] at hx ⊢
     by_cases h2:t.kind=1
     · simp only [if_pos h2] at hx ⊢;exact cut_next he (CutP.pure _) hx
     · simp only [if_neg h2] at hx ⊢
       by_cases h3:t.txt=⟨#[40]⟩
       · simp only [if_pos h3] at hx ⊢;exact hb.cut e he _ rest a l1 hx
       · simp only [if_neg h3] at hx ⊢
         by_cases h4:t.txt=⟨#[45]⟩
         · simp only [if_pos h4] at hx ⊢;exact hn.cut e he _ rest a l1 hx
         · simp only [if_neg h4] at hx ⊢;exact CutP.fail e he _ rest a l1 hx
 · by_cases h1:t.kind=2
   · simp only [if_pos h1] at hx ⊢;exact ce_number.fr e he _ a l1 hx
   · simp only [if_neg h1] at hx ⊢
     by_cases h2:t.kind=1
     · simp only [if_pos h2] at hx ⊢;exact FrW.pure _ e he pre a l1 hx
     · simp only [if_neg h2] at hx ⊢
       by_cases h3:t.txt=⟨#[40]⟩
       · simp only [if_pos h3] at hx ⊢;exact hb.fr e he _ a l1 hx
       · simp only [if_neg h3] at hx ⊢
         by_cases h4:t.txt=⟨#[45]⟩
         · simp only [if_pos h4] at hx ⊢;exact hn.fr e he _ a l1 hx
         · simp only [if_neg h4] at hx ⊢;exact FrW.fail e he _ a l1 hx
theorem ce_factor (r:Nat):CE (factorP r):=by
 induction r with
 | zero=>exact ce_factorOf 0 .fail
 | succ r ih=>exact ce_factorOf (r+1) ih
theorem ce_expr (r:Nat):CE (exprR r):=ce_exprP (ce_factor r)
theorem ce_wordsStep (ks:List Ast):CE (wordsStep ks):=(ce_skip _ (by decide)).bind fun b=>by
 cases b
 · exact .pure _
 · exact ce_word.bind fun _=>.pure _
theorem ce_words:CE wordsP:=ce_word.bind fun _=>.many step_words ce_wordsStep _
theorem ce_rowOf (r:Nat)(t:PT):CE (rowOfP r t):=(ce_enter _ _ (by decide)).bind fun _=>(ce_expr _).bind fun _=>(ce_expect _ (by decide)).bind fun _=>.pure _
theorem ce_row (r:Nat):CE (rowP r):=(ce_take _ (by decide)).bind fun _=>ce_rowOf r _
theorem ce_cell (r:Nat):CE (cellP r):=(ce_row r).bind fun _=>(ce_expect _ (by decide)).bind fun _=>ce_word.bind fun _=>.pure _
theorem ce_endP (a:Ast):CE (endP a):=(ce_expect _ (by decide)).bind fun _=>.pure _
theorem ce_read (r p:Nat):CE (readP r p):=(ce_take _ (by decide)).bind fun _=>(ce_expect _ (by decide)).bind fun _=>(ce_cell r).bind fun _=>(ce_skip _ (by decide)).bind fun b=>by
 cases b
 · exact ce_endP _
 · exact (ce_expect _ (by decide)).bind fun _=>ce_endP _
theorem ce_set (r p:Nat):CE (setP r p):=(ce_cell r).bind fun _=>(ce_expect _ (by decide)).bind fun _=>(ce_expr r).bind fun _=>ce_endP _
theorem ce_putStep (r:Nat)(ks:List Ast):CE (putStep r ks):=(ce_skip _ (by decide)).bind fun b=>by
 cases b
 · exact .pure _
 · exact (ce_expr r).bind fun _=>.pure _
theorem ce_put (r p:Nat):CE (putP r p):=(ce_row r).bind fun _=>(ce_expect _ (by decide)).bind fun _=>(ce_expr r).bind fun _=>(CE.many (step_put r) (ce_putStep r) _).bind fun _=>(ce_expect _ (by decide)).bind fun _=>ce_endP _
theorem ce_delete (r p:Nat):CE (deleteP r p):=(ce_row r).bind fun _=>ce_endP _
theorem ce_scan (p:Nat):CE (scanP p):=(ce_take _ (by decide)).bind fun _=>(ce_expect _ (by decide)).bind fun _=>ce_word.bind fun _=>(ce_expect _ (by decide)).bind fun _=>ce_word.bind fun _=>ce_endP _
theorem ce_lock (p:Nat):CE (lockP p):=ce_word.bind fun _=>(ce_skip _ (by decide)).bind fun b=>by
 cases b
 · exact (ce_expect _ (by decide)).bind fun _=>ce_endP _
 · exact ce_endP _
theorem ce_release (r p:Nat):CE (releaseP r p):=(ce_take _ (by decide)).bind fun _=>(ce_isNext _).bind fun b=>by
 cases b
 · exact ce_endP _
 · exact (ce_rowOf r _).bind fun _=>ce_endP _
theorem ce_ifTail {B:Par Ast}(h:CE B)(p:Nat)(n:Int)(a b:Ast):CE (ifTail B p n a b):=h.bind fun _=>(ce_skip _ (by decide)).bind fun b=>by
 cases b
 · exact .pure _
 · exact h.bind fun _=>.pure _
theorem ce_if (r:Nat){B:Par Ast}(h:CE B)(p:Nat):CE (ifP r B p):=(ce_expr r).bind fun _=>(ce_skip _ (by decide)).bind fun b=>by
 cases b
 · exact (ce_expect _ (by decide)).bind fun _=>(ce_expr r).bind fun _=>ce_ifTail h p _ _ _
 · exact (ce_expr r).bind fun _=>ce_ifTail h p _ _ _
theorem ce_for {B:Par Ast}(h:CE B)(p:Nat):CE (forP B p):=(ce_take _ (by decide)).bind fun _=>(ce_expect _ (by decide)).bind fun _=>ce_number.bind fun _=>(ce_expect _ (by decide)).bind fun _=>ce_number.bind fun _=>h.bind fun _=>.pure _
theorem ce_let (r p:Nat):CE (letP r p):=(ce_take _ (by decide)).bind fun _=>(ce_expect _ (by decide)).bind fun _=>(ce_expr r).bind fun _=>ce_endP _
theorem ce_emit (r p:Nat):CE (emitP r p):=(ce_expr r).bind fun _=>ce_endP _
theorem ce_rest (r:Nat){B:Par Ast}(h:CE B)(j p:Nat):CE (restP r B j p):=by
 unfold restP
 split
 · exact ce_read r p
 · exact ce_set r p
 · exact ce_put r p
 · exact ce_delete r p
 · exact ce_scan p
 · exact ce_lock p
 · exact ce_release r p
 · exact ce_if r h p
 · exact ce_for h p
 · exact ce_let r p
 · exact ce_emit r p
 · exact ce_endP _
 · exact ce_endP _
 · exact .fail
theorem ce_stmt (r:Nat){B:Par Ast}(h:CE B):CE (stmtP r B):=by
 refine CE.first (fun t=>?_) (fun t=>?_) (fun t=>?_) (fun e he=>?_) (fun e he t pre rest a l1 hx=>?_) (fun e he t pre a l1 hx=>?_)
 · exact less_ite (Less.bind less_next fun u=>(ce_rest r h _ _).less) less_fail
 · exact suf_ite (Suf.bind suf_next fun u=>(ce_rest r h _ _).suf) suf_fail
 · exact er_ite (ErrQ.bind er_next suf_next fun u=>(ce_rest r h _ _).er) er_fail
 · rw [if_neg (by rw [he.2];decide)];rfl
 · unfold CutR
   by_cases h1:words13.idxOf t.txt<13
   · simp only [if_pos h1] at hx ⊢;exact cut_next he (ce_rest r h _ _).cut hx
   · simp only [if_neg h1] at hx ⊢;exact CutP.fail e he _ rest a l1 hx
 · by_cases h1:words13.idxOf t.txt<13
   · simp only [if_pos h1] at hx ⊢;exact (ce_rest r h _ _).fr e he pre a l1 hx
   · simp only [if_neg h1] at hx ⊢;exact FrW.fail e he _ a l1 hx
theorem ce_blockStep {st:Par Ast}(h:CE st)(ks:List Ast):CE (blockStep st ks):=(ce_isNext _).bind fun b=>by
 cases b
 · exact h.bind fun _=>.pure _
 · exact .pure _
theorem ce_blockOf (r:Nat){st:Par Ast}(h:CE st)(ht:Takes st):CE (blockOf r st):=(ce_enter _ _ (by decide)).bind fun _=>(CE.many (step_block ht) (ce_blockStep h) _).bind fun _=>(ce_expect _ (by decide)).bind fun _=>.pure _
theorem ce_block (r:Nat):CE (blockP r):=by
 induction r with
 | zero=>exact ce_blockOf 0 .fail takes_fail
 | succ r ih=>exact ce_blockOf (r+1) (ce_stmt r ih) (takes_stmt r ih.less)
theorem ce_names:CE namesP:=ce_peek.bind fun _=>(ce_isNext _).bind fun b=>by
 cases b
 · exact ce_words.bind fun _=>.pure _
 · exact .pure _
theorem ce_table:CE tableP:=(ce_expect _ (by decide)).bind fun _=>(ce_take _ (by decide)).bind fun _=>(ce_expect _ (by decide)).bind fun _=>ce_words.bind fun _=>(ce_expect _ (by decide)).bind fun _=>ce_endP _
theorem ce_proc:CE procP:=(ce_expect _ (by decide)).bind fun _=>(ce_take _ (by decide)).bind fun _=>(ce_expect _ (by decide)).bind fun _=>ce_names.bind fun _=>(ce_expect _ (by decide)).bind fun _=>(ce_skip _ (by decide)).bind fun b=>by
 cases b
 · exact (ce_block 64).bind fun _=>.pure _
 · exact (ce_block 64).bind fun _=>.pure _
theorem ce_progStep (ks:List Ast):CE (progStep ks):=ce_peek.bind fun t=>by
 by_cases h:t.kind=4
 · simp only [if_pos h];exact .pure _
 · simp only [if_neg h]
   refine (ce_isNext _).bind fun b=>?_
   cases b
   · exact ce_proc.bind fun _=>.pure _
   · exact ce_table.bind fun _=>.pure _
theorem ce_program:CE programP:=ce_peek.bind fun _=>(CE.many step_prog ce_progStep _).bind fun _=>.pure _
end
end
section
open Par
def more (k0:List Ast):Res (List Ast)→Res (List Ast)
 | .err p c=>.err p c
 | .ok ks l=>.ok (k0++ks) l
theorem program_of {l l':List PT}{a:Ast}(h:programP l=.ok a l'):∃t r ks,l=t::r∧a=nodeA 1 t.at' ks∧many progStep [] l=.ok ks l':=by
 cases l with
 | nil=>simp [programP,Par.bind,peekP] at h
 | cons t r =>
  simp only [programP,Par.bind,peekP] at h
  cases h1:many progStep [] (t::r) with
  | err p c=>rw [h1] at h;simp at h
  | ok ks l1 =>
   rw [h1] at h
   simp only [Par.pure,Res.ok.injEq] at h
   exact ⟨t,r,ks,rfl,h.1.symm,by rw [h.2]⟩
theorem AstR.size {ρ:Nat→Nat→Prop}{a a':Ast}(h:AstR ρ a a'):a.size=a'.size:=by
 induction h with
 | @mk k p p' t n ks ks' _ hl hk ih =>
  simp only [Ast.size]
  congr 1
  clear hk
  induction ks generalizing ks' with
  | nil =>
   cases ks' with
   | nil=>rfl
   | cons _ _=>simp at hl
  | cons x r ih2 =>
   cases ks' with
   | nil=>simp at hl
   | cons y r' =>
    simp only [sizeL]
    rw [ih 0 x y (by simp) (by simp),ih2 (by simpa using hl) fun i u v hu hv=>ih (i+1) u v (by simpa using hu) (by simpa using hv)]
theorem KidsR.tail {ρ:Nat→Nat→Prop}{x y:Ast}{r r':List Ast}(h:KidsR ρ (x::r) (y::r')):AstR ρ x y∧KidsR ρ r r' :=
 ⟨h.2 0 x y (by simp) (by simp),by simpa using h.1,fun i u v hu hv=>h.2 (i+1) u v (by simpa using hu) (by simpa using hv)⟩
theorem KidsR.size {ρ:Nat→Nat→Prop}{ks ks':List Ast}(h:KidsR ρ ks ks'):sizeL ks=sizeL ks':=by
 induction ks generalizing ks' with
 | nil =>
  cases ks' with
  | nil=>rfl
  | cons _ _=>have:=h.1;simp at this
 | cons x r ih =>
  cases ks' with
  | nil=>have:=h.1;simp at this
  | cons y r' =>
   obtain ⟨h1,h2⟩:=h.tail
   simp only [sizeL,h1.size,ih h2]
def AllR (R:Nd→Nd→Prop)(x y:List Nd):Prop:=x.length=y.length∧∀(i:Nat) (u v:Nd),x[i]?=some u→y[i]?=some v→R u v
theorem AllR.append {R:Nd→Nd→Prop}{x y x' y':List Nd}(h:AllR R x x')(h':AllR R y y'):AllR R (x++y) (x'++y'):=⟨by simp [h.1,h'.1],fun i u v hu hv=>by
 by_cases hi:i<x.length
 · rw [List.getElem?_append_left hi] at hu
   rw [List.getElem?_append_left (by rw [← h.1];exact hi)] at hv
   exact h.2 i u v hu hv
 · rw [List.getElem?_append_right (by omega)] at hu
   rw [List.getElem?_append_right (by rw [← h.1];omega),← h.1] at hv
   exact h'.2 _ u v hu hv⟩
theorem AllR.cons {R:Nd→Nd→Prop}{x x':Nd}{y y':List Nd}(h:R x x')(h':AllR R y y'):AllR R (x::y) (x'::y'):=⟨by simp [h'.1],fun i u v hu hv=>by
 cases i with
 | zero=>simp at hu hv;subst hu hv;exact h
 | succ i=>exact h'.2 i u v (by simpa using hu) (by simpa using hv)⟩
theorem AllR.nil {R:Nd→Nd→Prop}:AllR R [] []:=⟨rfl,fun i u v h=>by simp at h⟩
end
section
open Tr
def Ast.kind:Ast→Int|.mk k _ _ _ _=>k
def Ast.txt:Ast→ByteArray|.mk _ _ t _ _=>t
def Ast.num:Ast→Int|.mk _ _ _ n _=>n
def Ast.kids:Ast→List Ast|.mk _ _ _ _ ks=>ks
mutual
def szs:Ast→List Nat
 | .mk _ _ _ _ ks=>(sizeL ks+1)::szsL ks
def szsL:List Ast→List Nat
 | []=>[]
 | x::r=>szs x++szsL r
end
mutual
theorem szs_length:∀a:Ast,(szs a).length=a.size
 | .mk k a t n ks=>by simp only [szs,List.length_cons,szsL_length ks,Ast.size]
theorem szsL_length:∀l:List Ast,(szsL l).length=sizeL l
 | []=>by simp [szsL,sizeL]
 | x::r=>by simp only [szsL,List.length_append,szs_length x,szsL_length r,sizeL]
end
theorem szs_head (a:Ast):∃r,szs a=a.size::r:=by
 cases a with
 | mk k p t n ks=>exact ⟨_,rfl⟩
theorem ast_pos (a:Ast):0<a.size:=by cases a with|mk k p t n ks=>simp [Ast.size]
theorem step_heads (b:Nat)(s:List Nat):∀(ks:List Ast) (pre:List Nat),stepS (pre++szsL ks++s) b (heads (b+pre.length) ks) (b+pre.length)=some (b+pre.length+sizeL ks)
 | [],pre=>by simp [heads,stepS,sizeL]
 | x::r,pre=>by
  obtain ⟨q,hq⟩:=szs_head x
  have hp:=ast_pos x
  have hl:=szs_length x
  simp only [heads,stepS,szsL,sizeL]
  rw [if_pos ⟨trivial,by simp only [List.length_append,hl];omega⟩]
  have hg:(pre++(szs x++szsL r)++s).getD (b+pre.length-b) 0=x.size:=by
   rw [Nat.add_sub_cancel_left,hq]
   simp [List.getD]
  rw [hg]
  have:=step_heads b s r (pre++szs x)
  rw [List.length_append,hl] at this
  rw [show pre++(szs x++szsL r)++s=pre++szs x++szsL r++s by simp only [List.append_assoc],show b+pre.length+x.size=b+(pre.length+x.size) by omega]
  rw [this]
  congr 1;omega
mutual
theorem sizes_flat (s:List Nat)(rs:List (List Int)):∀(a:Ast) (o:Nat),sizesL rs (o+a.size)=some s→sizesL ((flat o a).map (·.kids)++rs) o=some (szs a++s)
 | .mk k p t n ks,o,h=>by
  simp only [Ast.size] at h
  have h1:=sizes_flatL s rs ks (o+1) (by rw [show o+1+sizeL ks=o+(sizeL ks+1) by omega];exact h)
  simp only [flat,List.map_cons,List.cons_append,sizesL,h1]
  have h2:=step_heads (o+1) s ks []
  simp only [List.nil_append,List.length_nil,Nat.add_zero] at h2
  simp only [h2,szs,List.cons_append]
  congr 2;omega
theorem sizes_flatL (s:List Nat)(rs:List (List Int)):∀(l:List Ast) (o:Nat),sizesL rs (o+sizeL l)=some s→sizesL ((flatL o l).map (·.kids)++rs) o=some (szsL l++s)
 | [],o,h=>by simpa [flatL,szsL,sizeL] using h
 | x::r,o,h=>by
  simp only [sizeL] at h
  simp only [flatL,List.map_append,List.append_assoc,szsL]
  exact sizes_flat _ _ x o (sizes_flatL s rs r (o+x.size) (by rw [Nat.add_assoc];exact h))
end
theorem sizesP_flat (a:Ast):sizesP (flat 0 a)=some (szs a):=by
 have h:=sizes_flat [] [] a 0 (by simp [sizesL])
 simp only [List.append_nil] at h
 unfold sizesP
 rw [show rowsOf (flat 0 a)=(flat 0 a).map (·.kids) from rfl,h]
 simp only
 obtain ⟨r,hr⟩:=szs_head a
 have hl:=szs_length a
 have hp:=ast_pos a
 rw [if_pos ⟨by omega,by rw [hl,hr];rfl⟩]
def Lies (t:List Nd)(o:Nat)(x:Ast):Prop:=∃pre post,t=pre++flat o x++post∧pre.length=o
def LiesL (t:List Nd)(o:Nat)(l:List Ast):Prop:=∃pre post,t=pre++flatL o l++post∧pre.length=o
theorem Lies.whole (a:Ast):Lies (flat 0 a) 0 a:=⟨[],[],by simp,rfl⟩
theorem Lies.node {t:List Nd}{o:Nat}{k:Int}{a:Nat}{s:ByteArray}{n:Int}{ks:List Ast}(h:Lies t o (.mk k a s n ks)):t.getD o default=⟨k,a,s,n,heads (o+1) ks⟩∧o<t.length:=by
 obtain ⟨pre,post,rfl,rfl⟩:=h
 simp [flat,List.getD]
theorem Lies.kids {t:List Nd}{o:Nat}{k:Int}{a:Nat}{s:ByteArray}{n:Int}{ks:List Ast}(h:Lies t o (.mk k a s n ks)):LiesL t (o+1) ks:=by
 obtain ⟨pre,post,rfl,rfl⟩:=h
 exact ⟨pre++[⟨k,a,s,n,heads (pre.length+1) ks⟩],post,by simp [flat],by simp⟩
theorem LiesL.head {t:List Nd}{o:Nat}{x:Ast}{r:List Ast}(h:LiesL t o (x::r)):Lies t o x∧LiesL t (o+x.size) r:=by
 obtain ⟨pre,post,rfl,rfl⟩:=h
 refine ⟨⟨pre,flatL (pre.length+x.size) r++post,by simp [flatL],rfl⟩,⟨pre++flat pre.length x,post,by simp [flatL],by simp [flat_length]⟩⟩
theorem Lies.kindAt {t:List Nd}{o:Nat}{x:Ast}(h:Lies t o x):kindAt t o=x.kind:=by
 cases x with
 | mk k a s n ks=>unfold Tr.kindAt;rw [h.node.1];rfl
theorem kinds_heads {t:List Nd}:∀(ks:List Ast) (o:Nat),LiesL t o ks→(heads o ks).map (fun k=>Tr.kindAt t k.toNat)=ks.map Ast.kind
 | [],o,_=>rfl
 | x::r,o,h=>by
  obtain ⟨h1,h2⟩:=h.head
  simp only [heads,List.map_cons,Int.toNat_natCast,h1.kindAt,kinds_heads r _ h2]
def nodeW (k:Int)(s:ByteArray)(n:Int)(l:List Int):Bool:=match ruleOf k with
 | none=>false
 | some r=>textOk r.named s&&(decide (0≤n)&&(decide (n≤r.most)&&inTurnP r.parts l))
mutual
def wf:Ast→Prop
 | .mk k _ s n ks=>nodeW k s n (ks.map Ast.kind)=true∧wfL ks
def wfL:List Ast→Prop
 | []=>True
 | x::r=>wf x∧wfL r
end
theorem nodeOk_iff {t:List Nd}{o:Nat}{k:Int}{a:Nat}{s:ByteArray}{n:Int}{ks:List Ast}(h:Lies t o (.mk k a s n ks)):nodeOk t ⟨k,a,s,n,heads (o+1) ks⟩=nodeW k s n (ks.map Ast.kind):=by
 have hk:kindsOf t ⟨k,a,s,n,heads (o+1) ks⟩=ks.map Ast.kind:=kinds_heads ks (o+1) h.kids
 unfold nodeOk nodeW
 rw [hk]
 cases ruleOf k with
 | none=>rfl
 | some r=>rfl
mutual
theorem wf_nodes {t:List Nd}:∀(x:Ast) (o:Nat),Lies t o x→(wf x↔∀nd∈flat o x,nodeOk t nd=true)
 | .mk k a s n ks,o,h=>by
  have h1:=wf_nodesL ks (o+1) h.kids
  simp only [wf,flat,List.mem_cons,forall_eq_or_imp,nodeOk_iff h,h1]
theorem wf_nodesL {t:List Nd}:∀(l:List Ast) (o:Nat),LiesL t o l→(wfL l↔∀nd∈flatL o l,nodeOk t nd=true)
 | [],o,_=>by simp [wfL,flatL]
 | x::r,o,h=>by
  obtain ⟨h1,h2⟩:=h.head
  have e1:=wf_nodes x o h1
  have e2:=wf_nodesL r _ h2
  simp only [wfL,flatL,List.mem_append,e1,e2]
  constructor
  · rintro ⟨g1,g2⟩ nd (hm|hm)
    · exact g1 nd hm
    · exact g2 nd hm
  · exact fun g=>⟨fun nd hm=>g nd (Or.inl hm),fun nd hm=>g nd (Or.inr hm)⟩
end
theorem right_flat (a:Ast):rightP (flat 0 a)=true↔a.kind=1∧wf a:=by
 unfold rightP
 rw [sizesP_flat]
 have h0:=(Lies.whole a).kindAt
 have h1:=wf_nodes a 0 (Lies.whole a)
 simp only [h0,Bool.and_eq_true,beq_iff_eq,ruledP,List.all_eq_true,h1]
end
end Go.Proofs.YthdioipfdbbmmaaGreatDoor
