/- Contracts. -/
import Derived.WalkKit
import Derived.Handy
import Derived.Below
import Derived.Lib.Hide
import Derived.OrdersHeld
set_option linter.all false
set_option maxRecDepth 1000000
set_option maxHeartbeats 16000000
namespace Go.Proofs.YthdioipfdbbmmaaGreatDoor
section
theorem nn {α:Sort _} {c:Prop} [Decidable c] {a b:α} (h:¬c:=by decide):(if c then a else b)=b:=if_neg h
theorem ckH {w0:World} {b kb k:Nat} {v:Value} (h:kb<b) (c:w0.cell? ⟨kb,k,none⟩=some v):RowKit.Hid (∀ w',RowKit.Below b w0 w'→w'.cell? ⟨kb,k,none⟩=some v):=fun _ hw=>(hw.cell (p:=⟨kb,k,none⟩) h).trans c
theorem ob {w:World} {o:Obj} {p:Prop} (h:p:=by first|rfl|simp):p∧RowKit.Below w.heap.size w (w.alloc o):=⟨h,(RowKit.Below.refl _ _).alloc (Nat.le_refl _) _⟩
theorem lh {p:Prop}(h:p):RowKit.Hid p:=h
theorem pn:(∀(a:Act) (d:Tmp) (v:Value),a.put (some d) v={ a with tmps:=a.tmps.setIfInBounds d v })∧(∀(a:Act) (v:Value),a.put none v=a)∧(∀(α:Type) (l:List α) (i:Nat) (h:i<l.toArray.size),l.toArray[i]=l[i]'(by simpa using h))∧(∀(α:Type) (x:α) (l:List α) (h:0<(x::l).length),(x::l)[0]=x)∧(∀(α:Type) (x:α) (l:List α) (i:Nat) (h:i+1<(x::l).length),(x::l)[i+1]=l[i]'(by simpa using h))∧(∀(α:Type) (l:List α) (i:Nat) (v:α),l.toArray.setIfInBounds i v=(l.set i v).toArray)∧(∀(α:Type) (x:α) (l:List α) (v:α),(x::l).set 0 v=v::l)∧(∀(α:Type) (x:α) (l:List α) (i:Nat) (v:α),(x::l).set (i+1) v=x::l.set i v) :=
 ⟨fun _ _ _=>rfl,fun _ _=>rfl,fun _ _ _ _=>by simp,fun _ _ _ _=>rfl,fun _ _ _ _ _=>rfl,fun _ _ _ _=>by simp,fun _ _ _ _=>rfl,fun _ _ _ _ _=>rfl⟩
end
namespace Tr
def Chain (S:Nat→Nat)(n:Nat):List Int→Nat→Nat→Prop
 | [],a,e=>a=e
 | k::ks,a,e=>k=(a:Int)∧a<n∧Chain S n ks (a+S a) e
def stepS (s:List Nat)(b:Nat):List Int→Nat→Option Nat
 | [],a=>some a
 | k::ks,a=>if k=(a:Int)∧a<b+s.length then stepS s b ks (a+s.getD (a-b) 0) else none
def sizesL:List (List Int)→Nat→Option (List Nat)
 | [],_=>some []
 | r::rs,i=>match sizesL rs (i+1) with
  | none=>none
  | some s=>match stepS s (i+1) r (i+1) with
   | none=>none
   | some e=>some ((e-i)::s)
structure RightSz (K:Nat→List Int)(S:Nat→Nat)(n:Nat):Prop where
 chain:∀i,i<n→Chain S n (K i) (i+1) (i+S i)
theorem chain_mono {S:Nat→Nat}{n:Nat}(ks:List Int)(a e:Nat)(hS:∀i,a≤i→i<n→1≤S i∧i+S i≤n)(ha:a≤n)(h:Chain S n ks a e):a≤e∧e≤n:=by
 induction ks generalizing a with
 | nil=>obtain rfl:a=e:=h;omega
 | cons k ks ih =>
  obtain ⟨_,h2,h3⟩:=h
  have h4:=hS a (Nat.le_refl _) h2
  have:=ih (a+S a) (fun i hi hn=>hS i (by omega) hn) h4.2 h3
  omega
theorem RightSz.size {K:Nat→List Int}{S:Nat→Nat}{n:Nat}(h:RightSz K S n):∀i,i<n→1≤S i∧i+S i≤n:=by
 have:∀d i,n-i=d→i<n→1≤S i∧i+S i≤n:=by
  intro d
  induction d using Nat.strongRecOn with
  | ind d ih =>
   intro i hd hi
   have:=chain_mono (K i) (i+1) (i+S i) (fun j hj hn=>ih (n-j) (by omega) j rfl hn) (by omega) (h.chain i hi)
   omega
 exact fun i hi=>this _ i rfl hi
theorem chain_kid {S:Nat→Nat}{n:Nat}(ks:List Int)(a e:Nat)(hS:∀i,i<n→1≤S i∧i+S i≤n)(ha:a≤n)(h:Chain S n ks a e):∀k,k∈ks→∃j:Nat,k=(j:Int)∧a≤j∧j+S j≤e∧j<n:=by
 induction ks generalizing a with
 | nil=>intro k hk;simp at hk
 | cons x ks ih =>
  obtain ⟨h1,h2,h3⟩:=h
  have h4:=hS a h2
  have h5:=chain_mono ks _ e (fun i _ hn=>hS i hn) h4.2 h3
  intro k hk
  rcases List.mem_cons.1 hk with rfl|hk
  · exact ⟨a,h1,Nat.le_refl _,by omega,h2⟩
  · obtain ⟨j,e1,e2,e3,e4⟩:=ih (a+S a) h4.2 h3 k hk
    exact ⟨j,e1,by omega,e3,e4⟩
theorem RightSz.kid {K:Nat→List Int}{S:Nat→Nat}{n:Nat}(h:RightSz K S n){i:Nat}(hi:i<n){k:Int}(hk:k∈K i):∃j:Nat,k=(j:Int)∧i<j∧j+S j≤i+S i∧j<n:=by
 obtain ⟨j,h1,h2,h3,h4⟩:=chain_kid (K i) (i+1) (i+S i) h.size (by omega) (h.chain i hi) k hk
 exact ⟨j,h1,by omega,h3,h4⟩
def cnt (K:Nat→List Int)(j:Nat)(a:Nat):Nat→Nat
 | 0=>0
 | d+1=>cnt K j a d+(K (a+d)).count (j:Int)
theorem cnt_add (K:Nat→List Int)(j a x y:Nat):cnt K j a (x+y)=cnt K j a x+cnt K j (a+x) y:=by
 induction y with
 | zero=>simp [cnt]
 | succ y ih =>
  rw [← Nat.add_assoc,cnt,ih,cnt,Nat.add_assoc a x y]
  omega
theorem RightSz.count {K:Nat→List Int}{S:Nat→Nat}{n:Nat}(h:RightSz K S n)(j:Nat):∀i,i<n→cnt K j i (S i)=if i<j∧j<i+S i then 1 else 0:=by
 have hS:=h.size
 have main:∀d i,n-i=d→i<n→cnt K j i (S i)=if i<j∧j<i+S i then 1 else 0:=by
  intro d
  induction d using Nat.strongRecOn with
  | ind d ih =>
   intro i hd hi
   have key:∀(ks:List Int) (a e:Nat),i<a→a≤n→Chain S n ks a e→ks.count (j:Int)+cnt K j a (e-a)=if a≤j∧j<e then 1 else 0:=by
    intro ks
    induction ks with
    | nil =>
     intro a e _ _ h
     obtain rfl:a=e:=h
     simp [cnt]
    | cons k ks ihk =>
     intro a e ha hn hc
     obtain ⟨h1,h2,h3⟩:=hc
     have h4:=hS a h2
     have h5:=chain_mono ks _ e (fun i _ hn=>hS i hn) h4.2 h3
     have h6:=ihk (a+S a) e (by omega) h4.2 h3
     have h7:=ih (n-a) (by omega) a rfl h2
     have e1:e-a=S a+(e-(a+S a)):=by omega
     have h8:(a=j∧(k::ks).count (j:Int)=ks.count (j:Int)+1)∨(a≠j∧(k::ks).count (j:Int)=ks.count (j:Int)):=by
      rw [List.count_cons,h1]
      by_cases hj:a=j
      · exact Or.inl ⟨hj,by simp [hj]⟩
      · have:((a:Int)==(j:Int))=false:=by simp only [beq_eq_false_iff_ne];omega
        exact Or.inr ⟨hj,by simp [this]⟩
     have h9:(a<j∧j<a+S a)∧cnt K j a (S a)=1∨¬ (a<j∧j<a+S a)∧cnt K j a (S a)=0:=by
      rw [h7]
      by_cases hp:a<j∧j<a+S a
      · exact Or.inl ⟨hp,if_pos hp⟩
      · exact Or.inr ⟨hp,if_neg hp⟩
     have h10:(a+S a≤j∧j<e)∧ks.count (j:Int)+cnt K j (a+S a) (e-(a+S a))=1∨¬ (a+S a≤j∧j<e)∧ks.count (j:Int)+cnt K j (a+S a) (e-(a+S a))=0:=by
      rw [h6]
      by_cases hp:a+S a≤j∧j<e
      · exact Or.inl ⟨hp,if_pos hp⟩
      · exact Or.inr ⟨hp,if_neg hp⟩
     have h11:cnt K j a (e-a)=cnt K j a (S a)+cnt K j (a+S a) (e-(a+S a)):=by rw [e1,cnt_add]
     rw [h11]
     by_cases hp:a≤j∧j<e
     · rw [if_pos hp];omega
     · rw [if_neg hp];omega
   have h1:=key (K i) (i+1) (i+S i) (by omega) (by omega) (h.chain i hi)
   have h2:=hS i hi
   have e1:S i=1+(i+S i-(i+1)):=by omega
   rw [e1,cnt_add]
   have e2:cnt K j i 1=(K i).count (j:Int):=by simp [cnt]
   rw [e2,h1]
   by_cases h3:i+1≤j∧j<i+S i
   · rw [if_pos h3,if_pos (by omega)]
   · rw [if_neg h3,if_neg (by omega)]
 exact fun i hi=>main _ i rfl hi
theorem cnt_pos {K:Nat→List Int}{j a x:Nat}{d:Nat}(hx:x<d)(h:(j:Int)∈K (a+x)):1≤cnt K j a d:=by
 induction d with
 | zero=>omega
 | succ d ih =>
  simp only [cnt]
  by_cases e:x=d
  · subst e
    have:=List.count_pos_iff.2 h
    omega
  · have:=ih (by omega);omega
theorem cnt_two {K:Nat→List Int}{j a x y d:Nat}(hxy:x<y)(hy:y<d)(h1:(j:Int)∈K (a+x))(h2:(j:Int)∈K (a+y)):2≤cnt K j a d:=by
 have e:d=y+(d-y):=by omega
 rw [e,cnt_add]
 have:=cnt_pos (a:=a) hxy h1
 have:=cnt_pos (K:=K) (j:=j) (a:=a+y) (x:=0) (d:=d-y) (by omega) (by simpa using h2)
 omega
theorem RightSz.one {K:Nat→List Int}{S:Nat→Nat}{n:Nat}(h:RightSz K S n)(h0:S 0=n){x y j:Nat}(hx:x<n)(hy:y<n)(h1:(j:Int)∈K x)(h2:(j:Int)∈K y):x=y:=by
 have hc:=h.count j 0 (by omega)
 rw [h0] at hc
 rcases Nat.lt_trichotomy x y with hlt|he|hlt
 · have:=cnt_two (K:=K) (a:=0) hlt hy (by simpa using h1) (by simpa using h2)
   split at hc<;>omega
 · exact he
 · have:=cnt_two (K:=K) (a:=0) hlt hx (by simpa using h2) (by simpa using h1)
   split at hc<;>omega
theorem RightSz.ahead {K:Nat→List Int}{S:Nat→Nat}{n:Nat}(h:RightSz K S n)(h0:S 0=n)(j:Nat)(hj:0<j)(hn:j<n):cnt K j 0 (j+1)=1:=by
 have hc:=h.count j 0 (by omega)
 rw [h0,if_pos (by omega)] at hc
 have e:n=(j+1)+(n-(j+1)):=by omega
 rw [e,cnt_add] at hc
 have hz:∀d,j+1+d≤n→cnt K j (0+(j+1)) d=0:=by
  intro d
  induction d with
  | zero=>intro _;rfl
  | succ d ih =>
   intro hd
   simp only [cnt]
   rw [ih (by omega)]
   have:(K (0+(j+1)+d)).count (j:Int)=0:=by
    rw [List.count_eq_zero]
    intro hm
    obtain ⟨q,e1,e2,_,_⟩:=h.kid (by omega) hm
    omega
   omega
 rw [hz _ (by omega)] at hc
 omega
theorem stepS_chain (s:List Nat)(b n:Nat)(S:Nat→Nat)(hn:n=b+s.length)(hS:∀i,b≤i→i<n→S i=s.getD (i-b) 0)(ks:List Int)(a:Nat)(ha:b≤a)(e:Nat):stepS s b ks a=some e↔Chain S n ks a e:=by
 induction ks generalizing a with
 | nil=>simp [stepS,Chain]
 | cons k ks ih =>
  simp only [stepS,Chain]
  by_cases h:k=(a:Int)∧a<b+s.length
  · rw [if_pos h,← hS a ha (by omega),ih (a+S a) (by omega)]
    constructor
    · exact fun hc=>⟨h.1,by omega,hc⟩
    · exact fun hc=>hc.2.2
  · rw [if_neg h]
    constructor
    · intro hc;simp at hc
    · intro hc;exact absurd ⟨hc.1,by omega⟩ h
theorem sizesL_len:∀(rows:List (List Int)) (i:Nat) (s:List Nat),sizesL rows i=some s→s.length=rows.length:=by
 intro rows
 induction rows with
 | nil=>intro i s h;simp [sizesL] at h;subst h;rfl
 | cons r rs ih =>
  intro i s h
  simp only [sizesL] at h
  split at h
  · simp at h
  · rename_i s1 h1
    split at h
    · simp at h
    · simp at h;subst h;simp [ih _ _ h1]
theorem sizesL_some:∀(rows:List (List Int)) (b:Nat) (s:List Nat),sizesL rows b=some s→∀x,x<rows.length→Chain (fun i=>s.getD (i-b) 0) (b+rows.length) (rows.getD x []) (b+x+1) (b+x+s.getD x 0):=by
 intro rows
 induction rows with
 | nil=>intro b s _ x hx;simp at hx
 | cons r rs ih =>
  intro b s h x hx
  simp only [sizesL] at h
  split at h
  · simp at h
  · rename_i s1 h1
    have hl:=sizesL_len _ _ _ h1
    split at h
    · simp at h
    · rename_i e h2
      simp at h;subst h
      cases x with
      | zero =>
       have:=(stepS_chain s1 (b+1) (b+(r::rs).length) (fun i=>((e-b)::s1).getD (i-b) 0) (by simp;omega) (fun i h3 h4=>by
        have e1:i-b=(i-(b+1))+1:=by omega
        simp only [e1,List.getD_cons_succ]) r (b+1) (Nat.le_refl _) e).1 h2
       have he:b+1≤e:=by
        clear this
        have:∀(ks:List Int) (a:Nat),stepS s1 (b+1) ks a=some e→a≤e:=by
         intro ks
         induction ks with
         | nil=>intro a h;simp [stepS] at h;omega
         | cons k ks ihk =>
          intro a h
          simp only [stepS] at h
          split at h
          · have:=ihk _ h;omega
          · simp at h
        exact this r _ h2
       have e2:b+0+((e-b)::s1).getD 0 0=e:=by simp;omega
       rw [e2]
       simpa using this
      | succ x =>
       have:=ih (b+1) s1 h1 x (by simpa using hx)
       have e1:b+(x+1)+((e-b)::s1).getD (x+1) 0=b+1+x+s1.getD x 0:=by simp;omega
       rw [e1,List.getD_cons_succ]
       have e2:b+(x+1)+1=b+1+x+1:=by omega
       rw [e2]
       have e3:b+(r::rs).length=b+1+rs.length:=by simp;omega
       rw [e3]
       have congr:∀(ks:List Int) (a e':Nat),b+1≤a→Chain (fun i=>s1.getD (i-(b+1)) 0) (b+1+rs.length) ks a e'→Chain (fun i=>((e-b)::s1).getD (i-b) 0) (b+1+rs.length) ks a e':=by
        intro ks
        induction ks with
        | nil=>intro a e' _ h;exact h
        | cons k ks ihk =>
         intro a e' ha h
         obtain ⟨p1,p2,p3⟩:=h
         have e4:((e-b)::s1).getD (a-b) 0=s1.getD (a-(b+1)) 0:=by
          have:a-b=(a-(b+1))+1:=by omega
          rw [this,List.getD_cons_succ]
         refine ⟨p1,p2,?_⟩
         simp only [e4]
         exact ihk _ _ (by omega) p3
       exact congr _ _ _ (by omega) this
theorem sizesL_right {rows:List (List Int)}{s:List Nat}(h:sizesL rows 0=some s):RightSz (fun i=>rows.getD i []) (fun i=>s.getD i 0) rows.length where
 chain:=fun i hi=>by
  have:=sizesL_some rows 0 s h i hi
  simpa using this
def maxL (g:Int→Nat)(ks:List Int):Nat:=ks.foldl (fun m k=>max m (g k)) 0
theorem foldl_max (g:Int→Nat)(ks:List Int)(m:Nat):ks.foldl (fun m k=>max m (g k)) m=max m (maxL g ks):=by
 unfold maxL
 induction ks generalizing m with
 | nil=>simp
 | cons k ks ih=>simp only [List.foldl_cons];rw [ih,ih (max 0 (g k))];omega
theorem maxL_cons (g:Int→Nat)(k:Int)(ks:List Int):maxL g (k::ks)=max (g k) (maxL g ks):=by
 show (k::ks).foldl _ 0=_
 rw [List.foldl_cons,foldl_max];omega
def deepK (own:Nat→Nat→Nat)(K:Nat→List Int):Nat→Nat→Nat
 | 0,_=>0
 | f+1,i=>maxL (fun k=>own i k.toNat+deepK own K f k.toNat) (K i)
def deepest (D:Nat→Nat)(K:Nat→List Int)(a:Nat):Nat→Nat
 | 0=>0
 | d+1=>max (deepest D K a d) (maxL (fun k=>D k.toNat) (K (a+d)))
theorem deepest_add (D:Nat→Nat)(K:Nat→List Int)(a x y:Nat):deepest D K a (x+y)=max (deepest D K a x) (deepest D K (a+x) y):=by
 induction y with
 | zero=>simp [deepest]
 | succ y ih=>rw [← Nat.add_assoc,deepest,ih,deepest,Nat.add_assoc a x y];omega
theorem RightSz.deep {K:Nat→List Int}{S:Nat→Nat}{n:Nat}(h:RightSz K S n)(own:Nat→Nat→Nat)(D:Nat→Nat)(hD:∀i,i<n→∀j:Nat,(j:Int)∈K i→D j=D i+own i j) :
 ∀f i,i<n→n≤i+f→max (D i) (deepest D K i (S i))=D i+deepK own K f i:=by
 have hS:=h.size
 intro f
 induction f with
 | zero=>intro i h1 h2;omega
 | succ f ih =>
  intro i h1 h2
  have key:∀(ks:List Int) (a e:Nat),i<a→a≤n→(∀k∈ks,k∈K i)→Chain S n ks a e→max (D i) (max (maxL (fun k=>D k.toNat) ks) (deepest D K a (e-a)))=D i+maxL (fun k=>own i k.toNat+deepK own K f k.toNat) ks:=by
   intro ks
   induction ks with
   | nil =>
    intro a e _ _ _ h
    obtain rfl:a=e:=h
    simp [maxL,deepest]
   | cons k ks ihk =>
    intro a e ha hn hm hc
    obtain ⟨p1,p2,p3⟩:=hc
    have p4:=hS a p2
    have p5:=chain_mono ks _ e (fun i _ hn=>hS i hn) p4.2 p3
    have p6:=ihk (a+S a) e (by omega) p4.2 (fun k hk=>hm k (by simp [hk])) p3
    have p7:=ih a p2 (by omega)
    have p8:=hD i h1 a (by rw [← p1];exact hm k (by simp))
    have e1:e-a=S a+(e-(a+S a)):=by omega
    rw [e1,deepest_add,maxL_cons,maxL_cons,p1,Int.toNat_natCast]
    omega
  have p1:=key (K i) (i+1) (i+S i) (by omega) (by omega) (fun _ h=>h) (h.chain i h1)
  have p2:=hS i h1
  have e1:S i=1+(i+S i-(i+1)):=by omega
  rw [e1,deepest_add]
  have e2:deepest D K i 1=maxL (fun k=>D k.toNat) (K i):=by simp [deepest]
  rw [e2]
  simp only [deepK]
  exact p1
end Tr
section
theorem tk {P:Program}{ops:Array Oper}{Q:Exit→Act→World→Prop}{md:Region.Mode}{S:World→Prop}{i:Nat}{oi:Oper}{v:Value}{fuel:Nat}{listed:Array Bool}{a:Act}{w:World}(hi:ops[i]?=some oi)(hS:S w)(hy:∀w,S w→(execOp a.eval oi).run P w=.ok (.value v) w)(h:wpAnyH P md ops Q S fuel (listed.setIfInBounds i true) (a.put oi.dst v) w)(hs:Region.noSelect ops=true:=by kernel_rfl)(hf:Region.free md ops listed i=true:=by kernel_rfl)(hr:(Region.ready md ops listed).contains i=true:=by kernel_rfl)(hw:Region.wanted oi (yielded ops a.tmps)=true:=by rfl)(hQ:∀c a w,Q (.panic c) (a.put oi.dst v) w→Q (.panic c) a w:=by exact fun _ _ _ h=>h):wpAnyH P md ops Q S (fuel+1) listed a w:=wpAnyH_take hi hs hf hr hQ (Or.inl ⟨hw,hy⟩) hS h
theorem tn {P:Program}{ops:Array Oper}{Q:Exit→Act→World→Prop}{md:Region.Mode}{S:World→Prop}{oi:Oper}{v:Value}{fuel:Nat}{listed:Array Bool}{a:Act}{w:World}(i:Nat)(hS:S w)(h:wpAnyH P md ops Q S fuel (listed.setIfInBounds i true) (a.put oi.dst v) w)(hi:ops[i]?=some oi:=by exact rfl)(hs:Region.noSelect ops=true:=by kernel_rfl)(hf:Region.free md ops listed i=true:=by kernel_rfl)(hr:(Region.ready md ops listed).contains i=true:=by kernel_rfl)(hw:Region.wanted oi (yielded ops a.tmps)=true:=by rfl)(hy:∀w,S w→(execOp a.eval oi).run P w=.ok (.value v) w:=by (intro w' hSw;clear hSw;go_simp;try with_reducible rfl))(hQ:∀c a w,Q (.panic c) (a.put oi.dst v) w→Q (.panic c) a w:=by exact fun _ _ _ h=>h):wpAnyH P md ops Q S (fuel+1) listed a w:=wpAnyH_take hi hs hf hr hQ (Or.inl ⟨hw,hy⟩) hS h
end
end Go.Proofs.YthdioipfdbbmmaaGreatDoor
