/- Contracts. -/
import Derived.WalkKit
import Derived.Handy
import Derived.Lib.Hide
set_option linter.all false
set_option maxRecDepth 1000000
set_option maxHeartbeats 16000000
namespace Go.Proofs.YthdioipfdbbmmaaGreatDoor
namespace Tr
def Chain (S:Nat→Nat)(n:Nat):List Int→Nat→Nat→Prop
 | [],a,e=>a=e
 | k::ks,a,e=>k=(a:Int)∧a<n∧Chain S n ks (a+S a) e
def stepS (s:List Nat)(b:Nat):List Int→Nat→Option Nat
 | [],a=>some a
 | k::ks,a=>if k=(a:Int)∧a<b+s.length then stepS s b ks (a+s.getD (a-b) 0) else none
def sizesL:List (List Int)→Nat→Option (List Nat)
 | [],_=>some []
 | r::rs,i=>match sizesL rs (i+1) with
  | none=>none
  | some s=>match stepS s (i+1) r (i+1) with
   | none=>none
   | some e=>some ((e-i)::s)
def endK (K:Nat→List Int)(n:Nat):Nat→Nat→Int
 | 0,_=>-1
 | f+1,i=>if n≤i then -1 else (K i).foldl (fun a k=>if a<0∨(n:Int)≤a∨k≠a then -1 else endK K n f a.toNat) ((i:Int)+1)
structure RightSz (K:Nat→List Int)(S:Nat→Nat)(n:Nat):Prop where
 chain:∀i,i<n→Chain S n (K i) (i+1) (i+S i)
theorem chain_mono {S:Nat→Nat}{n:Nat}(ks:List Int)(a e:Nat)(hS:∀i,a≤i→i<n→1≤S i∧i+S i≤n)(ha:a≤n)(h:Chain S n ks a e):a≤e∧e≤n:=by
 induction ks generalizing a with
 | nil=>obtain rfl:a=e:=h;omega
 | cons k ks ih =>
  obtain ⟨_,h2,h3⟩:=h
  have h4:=hS a (Nat.le_refl _) h2
  have:=ih (a+S a) (fun i hi hn=>hS i (by omega) hn) h4.2 h3
  omega
theorem RightSz.size {K:Nat→List Int}{S:Nat→Nat}{n:Nat}(h:RightSz K S n):∀i,i<n→1≤S i∧i+S i≤n:=by
 have:∀d i,n-i=d→i<n→1≤S i∧i+S i≤n:=by
  intro d
  induction d using Nat.strongRecOn with
  | ind d ih =>
   intro i hd hi
   have:=chain_mono (K i) (i+1) (i+S i) (fun j hj hn=>ih (n-j) (by omega) j rfl hn) (by omega) (h.chain i hi)
   omega
 exact fun i hi=>this _ i rfl hi
theorem chain_kid {S:Nat→Nat}{n:Nat}(ks:List Int)(a e:Nat)(hS:∀i,i<n→1≤S i∧i+S i≤n)(ha:a≤n)(h:Chain S n ks a e):∀k,k∈ks→∃j:Nat,k=(j:Int)∧a≤j∧j+S j≤e∧j<n:=by
 induction ks generalizing a with
 | nil=>intro k hk;simp at hk
 | cons x ks ih =>
  obtain ⟨h1,h2,h3⟩:=h
  have h4:=hS a h2
  have h5:=chain_mono ks _ e (fun i _ hn=>hS i hn) h4.2 h3
  intro k hk
  rcases List.mem_cons.1 hk with rfl|hk
  · exact ⟨a,h1,Nat.le_refl _,by omega,h2⟩
  · obtain ⟨j,e1,e2,e3,e4⟩:=ih (a+S a) h4.2 h3 k hk
    exact ⟨j,e1,by omega,e3,e4⟩
theorem RightSz.kid {K:Nat→List Int}{S:Nat→Nat}{n:Nat}(h:RightSz K S n){i:Nat}(hi:i<n){k:Int}(hk:k∈K i):∃j:Nat,k=(j:Int)∧i<j∧j+S j≤i+S i∧j<n:=by
 obtain ⟨j,h1,h2,h3,h4⟩:=chain_kid (K i) (i+1) (i+S i) h.size (by omega) (h.chain i hi) k hk
 exact ⟨j,h1,by omega,h3,h4⟩
def cnt (K:Nat→List Int)(j:Nat)(a:Nat):Nat→Nat
 | 0=>0
 | d+1=>cnt K j a d+(K (a+d)).count (j:Int)
theorem cnt_add (K:Nat→List Int)(j a x y:Nat):cnt K j a (x+y)=cnt K j a x+cnt K j (a+x) y:=by
 induction y with
 | zero=>simp [cnt]
 | succ y ih =>
  rw [← Nat.add_assoc,cnt,ih,cnt,Nat.add_assoc a x y]
  omega
theorem RightSz.count {K:Nat→List Int}{S:Nat→Nat}{n:Nat}(h:RightSz K S n)(j:Nat):∀i,i<n→cnt K j i (S i)=if i<j∧j<i+S i then 1 else 0:=by
 have hS:=h.size
 have main:∀d i,n-i=d→i<n→cnt K j i (S i)=if i<j∧j<i+S i then 1 else 0:=by
  intro d
  induction d using Nat.strongRecOn with
  | ind d ih =>
   intro i hd hi
   have key:∀(ks:List Int) (a e:Nat),i<a→a≤n→Chain S n ks a e→ks.count (j:Int)+cnt K j a (e-a)=if a≤j∧j<e then 1 else 0:=by
    intro ks
    induction ks with
    | nil =>
     intro a e _ _ h
     obtain rfl:a=e:=h
     simp [cnt]
    | cons k ks ihk =>
     intro a e ha hn hc
     obtain ⟨h1,h2,h3⟩:=hc
     have h4:=hS a h2
     have h5:=chain_mono ks _ e (fun i _ hn=>hS i hn) h4.2 h3
     have h6:=ihk (a+S a) e (by omega) h4.2 h3
     have h7:=ih (n-a) (by omega) a rfl h2
     have e1:e-a=S a+(e-(a+S a)):=by omega
     have h8:(a=j∧(k::ks).count (j:Int)=ks.count (j:Int)+1)∨(a≠j∧(k::ks).count (j:Int)=ks.count (j:Int)):=by
      rw [List.count_cons,h1]
      by_cases hj:a=j
      · exact Or.inl ⟨hj,by simp [hj]⟩
      · have:((a:Int)==(j:Int))=false:=by simp only [beq_eq_false_iff_ne];omega
        exact Or.inr ⟨hj,by simp [this]⟩
     have h9:(a<j∧j<a+S a)∧cnt K j a (S a)=1∨¬ (a<j∧j<a+S a)∧cnt K j a (S a)=0:=by
      rw [h7]
      by_cases hp:a<j∧j<a+S a
      · exact Or.inl ⟨hp,if_pos hp⟩
      · exact Or.inr ⟨hp,if_neg hp⟩
     have h10:(a+S a≤j∧j<e)∧ks.count (j:Int)+cnt K j (a+S a) (e-(a+S a))=1∨¬ (a+S a≤j∧j<e)∧ks.count (j:Int)+cnt K j (a+S a) (e-(a+S a))=0:=by
      rw [h6]
      by_cases hp:a+S a≤j∧j<e
      · exact Or.inl ⟨hp,if_pos hp⟩
      · exact Or.inr ⟨hp,if_neg hp⟩
     have h11:cnt K j a (e-a)=cnt K j a (S a)+cnt K j (a+S a) (e-(a+S a)):=by rw [e1,cnt_add]
     rw [h11]
     by_cases hp:a≤j∧j<e
     · rw [if_pos hp];omega
     · rw [if_neg hp];omega
   have h1:=key (K i) (i+1) (i+S i) (by omega) (by omega) (h.chain i hi)
   have h2:=hS i hi
   have e1:S i=1+(i+S i-(i+1)):=by omega
   rw [e1,cnt_add]
   have e2:cnt K j i 1=(K i).count (j:Int):=by simp [cnt]
   rw [e2,h1]
   by_cases h3:i+1≤j∧j<i+S i
   · rw [if_pos h3,if_pos (by omega)]
   · rw [if_neg h3,if_neg (by omega)]
 exact fun i hi=>main _ i rfl hi
theorem cnt_pos {K:Nat→List Int}{j a x:Nat}{d:Nat}(hx:x<d)(h:(j:Int)∈K (a+x)):1≤cnt K j a d:=by
 induction d with
 | zero=>omega
 | succ d ih =>
  simp only [cnt]
  by_cases e:x=d
  · subst e
    have:=List.count_pos_iff.2 h
    omega
  · have:=ih (by omega);omega
theorem cnt_two {K:Nat→List Int}{j a x y d:Nat}(hxy:x<y)(hy:y<d)(h1:(j:Int)∈K (a+x))(h2:(j:Int)∈K (a+y)):2≤cnt K j a d:=by
 have e:d=y+(d-y):=by omega
 rw [e,cnt_add]
 have:=cnt_pos (a:=a) hxy h1
 have:=cnt_pos (K:=K) (j:=j) (a:=a+y) (x:=0) (d:=d-y) (by omega) (by simpa using h2)
 omega
theorem RightSz.one {K:Nat→List Int}{S:Nat→Nat}{n:Nat}(h:RightSz K S n)(h0:S 0=n){x y j:Nat}(hx:x<n)(hy:y<n)(h1:(j:Int)∈K x)(h2:(j:Int)∈K y):x=y:=by
 have hc:=h.count j 0 (by omega)
 rw [h0] at hc
 rcases Nat.lt_trichotomy x y with hlt|he|hlt
 · have:=cnt_two (K:=K) (a:=0) hlt hy (by simpa using h1) (by simpa using h2)
   split at hc<;>omega
 · exact he
 · have:=cnt_two (K:=K) (a:=0) hlt hx (by simpa using h2) (by simpa using h1)
   split at hc<;>omega
theorem RightSz.ahead {K:Nat→List Int}{S:Nat→Nat}{n:Nat}(h:RightSz K S n)(h0:S 0=n)(j:Nat)(hj:0<j)(hn:j<n):cnt K j 0 (j+1)=1:=by
 have hc:=h.count j 0 (by omega)
 rw [h0,if_pos (by omega)] at hc
 have e:n=(j+1)+(n-(j+1)):=by omega
 rw [e,cnt_add] at hc
 have hz:∀d,j+1+d≤n→cnt K j (0+(j+1)) d=0:=by
  intro d
  induction d with
  | zero=>intro _;rfl
  | succ d ih =>
   intro hd
   simp only [cnt]
   rw [ih (by omega)]
   have:(K (0+(j+1)+d)).count (j:Int)=0:=by
    rw [List.count_eq_zero]
    intro hm
    obtain ⟨q,e1,e2,_,_⟩:=h.kid (by omega) hm
    omega
   omega
 rw [hz _ (by omega)] at hc
 omega
theorem stepS_chain (s:List Nat)(b n:Nat)(S:Nat→Nat)(hn:n=b+s.length)(hS:∀i,b≤i→i<n→S i=s.getD (i-b) 0)(ks:List Int)(a:Nat)(ha:b≤a)(e:Nat):stepS s b ks a=some e↔Chain S n ks a e:=by
 induction ks generalizing a with
 | nil=>simp [stepS,Chain]
 | cons k ks ih =>
  simp only [stepS,Chain]
  by_cases h:k=(a:Int)∧a<b+s.length
  · rw [if_pos h,← hS a ha (by omega),ih (a+S a) (by omega)]
    constructor
    · exact fun hc=>⟨h.1,by omega,hc⟩
    · exact fun hc=>hc.2.2
  · rw [if_neg h]
    constructor
    · intro hc;simp at hc
    · intro hc;exact absurd ⟨hc.1,by omega⟩ h
theorem sizesL_len:∀(rows:List (List Int)) (i:Nat) (s:List Nat),sizesL rows i=some s→s.length=rows.length:=by
 intro rows
 induction rows with
 | nil=>intro i s h;simp [sizesL] at h;subst h;rfl
 | cons r rs ih =>
  intro i s h
  simp only [sizesL] at h
  split at h
  · simp at h
  · rename_i s1 h1
    split at h
    · simp at h
    · simp at h;subst h;simp [ih _ _ h1]
theorem sizesL_some:∀(rows:List (List Int)) (b:Nat) (s:List Nat),sizesL rows b=some s→∀x,x<rows.length→Chain (fun i=>s.getD (i-b) 0) (b+rows.length) (rows.getD x []) (b+x+1) (b+x+s.getD x 0):=by
 intro rows
 induction rows with
 | nil=>intro b s _ x hx;simp at hx
 | cons r rs ih =>
  intro b s h x hx
  simp only [sizesL] at h
  split at h
  · simp at h
  · rename_i s1 h1
    have hl:=sizesL_len _ _ _ h1
    split at h
    · simp at h
    · rename_i e h2
      simp at h;subst h
      cases x with
      | zero =>
       have:=(stepS_chain s1 (b+1) (b+(r::rs).length) (fun i=>((e-b)::s1).getD (i-b) 0) (by simp;omega) (fun i h3 h4=>by
        have e1:i-b=(i-(b+1))+1:=by omega
        simp only [e1,List.getD_cons_succ]) r (b+1) (Nat.le_refl _) e).1 h2
       have he:b+1≤e:=by
        clear this
        have:∀(ks:List Int) (a:Nat),stepS s1 (b+1) ks a=some e→a≤e:=by
         intro ks
         induction ks with
         | nil=>intro a h;simp [stepS] at h;omega
         | cons k ks ihk =>
          intro a h
          simp only [stepS] at h
          split at h
          · have:=ihk _ h;omega
          · simp at h
        exact this r _ h2
       have e2:b+0+((e-b)::s1).getD 0 0=e:=by simp;omega
       rw [e2]
       simpa using this
      | succ x =>
       have:=ih (b+1) s1 h1 x (by simpa using hx)
       have e1:b+(x+1)+((e-b)::s1).getD (x+1) 0=b+1+x+s1.getD x 0:=by simp;omega
       rw [e1,List.getD_cons_succ]
       have e2:b+(x+1)+1=b+1+x+1:=by omega
       rw [e2]
       have e3:b+(r::rs).length=b+1+rs.length:=by simp;omega
       rw [e3]
       have congr:∀(ks:List Int) (a e':Nat),b+1≤a→Chain (fun i=>s1.getD (i-(b+1)) 0) (b+1+rs.length) ks a e'→Chain (fun i=>((e-b)::s1).getD (i-b) 0) (b+1+rs.length) ks a e':=by
        intro ks
        induction ks with
        | nil=>intro a e' _ h;exact h
        | cons k ks ihk =>
         intro a e' ha h
         obtain ⟨p1,p2,p3⟩:=h
         have e4:((e-b)::s1).getD (a-b) 0=s1.getD (a-(b+1)) 0:=by
          have:a-b=(a-(b+1))+1:=by omega
          rw [this,List.getD_cons_succ]
         refine ⟨p1,p2,?_⟩
         simp only [e4]
         exact ihk _ _ (by omega) p3
       exact congr _ _ _ (by omega) this
theorem sizesL_right {rows:List (List Int)}{s:List Nat}(h:sizesL rows 0=some s):RightSz (fun i=>rows.getD i []) (fun i=>s.getD i 0) rows.length where
 chain:=fun i hi=>by
  have:=sizesL_some rows 0 s h i hi
  simpa using this
theorem right_sizesL:∀(rows:List (List Int)) (b:Nat) (S:Nat→Nat),(∀x,x<rows.length→Chain S (b+rows.length) (rows.getD x []) (b+x+1) (b+x+S (b+x)))→∃s,sizesL rows b=some s∧∀x,x<rows.length→s.getD x 0=S (b+x):=by
 intro rows
 induction rows with
 | nil=>intro b S _;exact ⟨[],rfl,fun x hx=>by simp at hx⟩
 | cons r rs ih =>
  intro b S h
  have e3:b+(r::rs).length=b+1+rs.length:=by simp;omega
  obtain ⟨s,hs,hv⟩:=ih (b+1) S (fun x hx=>by
   have:=h (x+1) (by simpa using hx)
   rw [e3,List.getD_cons_succ] at this
   have e2:b+(x+1)+1=b+1+x+1:=by omega
   have e1:b+(x+1)=b+1+x:=by omega
   rw [e1] at this
   exact this)
  have hl:=sizesL_len _ _ _ hs
  have h0:=h 0 (by simp)
  rw [e3] at h0
  simp only [List.getD_cons_zero,Nat.add_zero] at h0
  have h1:=(stepS_chain s (b+1) (b+1+rs.length) S (by omega) (fun i h3 h4=>by
   rw [hv (i-(b+1)) (by omega)]
   congr 1;omega) r (b+1) (Nat.le_refl _) (b+S b)).2 h0
  refine ⟨(b+S b-b)::s,by simp only [sizesL,hs,h1],fun x hx=>?_⟩
  cases x with
  | zero=>simp
  | succ x =>
   rw [List.getD_cons_succ,hv x (by simpa using hx)]
   congr 1;omega
theorem endK_range (K:Nat→List Int)(n:Nat):∀f i,endK K n f i=-1∨((i:Int)<endK K n f i∧i<n):=by
 intro f
 induction f with
 | zero=>intro i;exact Or.inl rfl
 | succ f ih =>
  intro i
  simp only [endK]
  by_cases h:n≤i
  · rw [if_pos h];exact Or.inl rfl
  · rw [if_neg h]
    have key:∀(ks:List Int) (a:Int),(a=-1∨(i:Int)<a)→let r:=ks.foldl (fun a k=>if a<0∨(n:Int)≤a∨k≠a then -1 else endK K n f a.toNat) a;r=-1∨(i:Int)<r:=by
     intro ks
     induction ks with
     | nil=>intro a ha;exact ha
     | cons k ks ihk =>
      intro a ha
      simp only [List.foldl_cons]
      apply ihk
      split
      · exact Or.inl rfl
      · rename_i hc
        rcases ih a.toNat with h1|h1
        · exact Or.inl h1
        · right
          have:(a.toNat:Int)=a:=Int.toNat_of_nonneg (by omega)
          omega
    rcases key (K i) ((i:Int)+1) (Or.inr (by omega)) with h1|h1
    · exact Or.inl h1
    · exact Or.inr ⟨h1,by omega⟩
theorem endK_fold_neg (K:Nat→List Int)(n f:Nat)(ks:List Int):ks.foldl (fun a k=>if a<0∨(n:Int)≤a∨k≠a then -1 else endK K n f a.toNat) (-1)=-1:=by
 induction ks with
 | nil=>rfl
 | cons k ks ih=>simp only [List.foldl_cons];rw [if_pos (Or.inl (by omega))];exact ih
theorem RightSz.endK {K:Nat→List Int}{S:Nat→Nat}{n:Nat}(h:RightSz K S n):∀f i,i<n→n≤i+f→endK K n f i=((i+S i:Nat):Int):=by
 have hS:=h.size
 intro f
 induction f with
 | zero=>intro i h1 h2;omega
 | succ f ih =>
  intro i h1 h2
  simp only [Go.Proofs.YthdioipfdbbmmaaGreatDoor.Tr.endK]
  rw [if_neg (by omega)]
  have key:∀(ks:List Int) (a e:Nat),i<a→a≤n→Chain S n ks a e→ks.foldl (fun a k=>if a<0∨(n:Int)≤a∨k≠a then -1 else Go.Proofs.YthdioipfdbbmmaaGreatDoor.Tr.endK K n f a.toNat) (a:Int)=(e:Int):=by
   intro ks
   induction ks with
   | nil=>intro a e _ _ h;obtain rfl:a=e:=h;rfl
   | cons k ks ihk =>
    intro a e ha hn hc
    obtain ⟨p1,p2,p3⟩:=hc
    have:=hS a p2
    simp only [List.foldl_cons]
    rw [if_neg (by omega),Int.toNat_natCast,ih a p2 (by omega)]
    exact ihk _ _ (by omega) (by omega) p3
  have:=key (K i) (i+1) (i+S i) (by omega) (by omega) (h.chain i h1)
  simpa using this
theorem fold_good (K:Nat→List Int)(n f i:Nat)(hf:∀a:Nat,i<a→endK K n f a=endK K n n a)(hr:∀a:Nat,i<a→endK K n n a=-1∨((a:Int)<endK K n n a∧a<n)) :
 ∀(ks:List Int) (a e:Nat),i<a→ks.foldl (fun a k=>if a<0∨(n:Int)≤a∨k≠a then -1 else endK K n f a.toNat) (a:Int)=(e:Int) →
  Chain (fun x=>(endK K n n x).toNat-x) n ks a e∧∀j,a≤j→j<e→∃x e',a≤x∧x≤j∧j<e'∧x<n∧endK K n n x=((e':Nat):Int):=by
 intro ks
 induction ks with
 | nil =>
  intro a e _ h
  simp only [List.foldl_nil] at h
  obtain rfl:a=e:=by omega
  exact ⟨rfl,fun j h1 h2=>by omega⟩
 | cons k ks ih =>
  intro a e ha h
  simp only [List.foldl_cons] at h
  by_cases hc:(a:Int)<0∨(n:Int)≤a∨k≠a
  · rw [if_pos hc,endK_fold_neg] at h
    omega
  · rw [if_neg hc,Int.toNat_natCast,hf a ha] at h
    rcases hr a ha with h1|⟨h1,h2⟩
    · rw [h1,endK_fold_neg] at h
      omega
    · obtain ⟨b,hb⟩:∃b:Nat,endK K n n a=(b:Int):=⟨(endK K n n a).toNat,(Int.toNat_of_nonneg (by omega)).symm⟩
      rw [hb] at h
      obtain ⟨p1,p2⟩:=ih b e (by omega) h
      refine ⟨⟨by omega,h2,?_⟩,fun j h3 h4=>?_⟩
      · have e1:a+((endK K n n a).toNat-a)=b:=by rw [hb,Int.toNat_natCast];omega
        simp only [e1]
        exact p1
      · by_cases h5:j<b
        · exact ⟨a,b,Nat.le_refl _,h3,h5,h2,hb⟩
        · obtain ⟨x,e',q1,q2,q3,q4,q5⟩:=p2 j (by omega) h4
          exact ⟨x,e',by omega,q2,q3,q4,q5⟩
theorem endK_fuel (K:Nat→List Int)(n:Nat):∀f g i,n≤i+f→n≤i+g→endK K n f i=endK K n g i:=by
 intro f
 induction f with
 | zero =>
  intro g i h1 h2
  cases g with
  | zero=>rfl
  | succ g=>simp only [endK];rw [if_pos (by omega)]
 | succ f ih =>
  intro g i h1 h2
  cases g with
  | zero=>simp only [endK];rw [if_pos (by omega)]
  | succ g =>
   simp only [endK]
   by_cases h:n≤i
   · rw [if_pos h,if_pos h]
   · rw [if_neg h,if_neg h]
     have key:∀(ks:List Int) (a:Int),(a=-1∨(i:Int)<a)→ks.foldl (fun a k=>if a<0∨(n:Int)≤a∨k≠a then -1 else endK K n f a.toNat) a=ks.foldl (fun a k=>if a<0∨(n:Int)≤a∨k≠a then -1 else endK K n g a.toNat) a:=by
      intro ks
      induction ks with
      | nil=>intro a _;rfl
      | cons k ks ihk =>
       intro a ha
       simp only [List.foldl_cons]
       by_cases hc:a<0∨(n:Int)≤a∨k≠a
       · rw [if_pos hc,if_pos hc]
         exact ihk _ (Or.inl rfl)
       · rw [if_neg hc,if_neg hc,ih g a.toNat (by omega) (by omega)]
         apply ihk
         rcases endK_range K n g a.toNat with h1|h1
         · exact Or.inl h1
         · right
           omega
     exact key _ _ (Or.inr (by omega))
theorem endK_good (K:Nat→List Int)(n:Nat):∀d i e,n-i=d→i<n→endK K n n i=((e:Nat):Int)→∀j,i≤j→j<e→∃e':Nat,endK K n n j=(e':Int)∧j<e'∧Chain (fun x=>(endK K n n x).toNat-x) n (K j) (j+1) e':=by
 intro d
 induction d using Nat.strongRecOn with
 | ind d ih =>
  intro i e hd hi he j hij hje
  obtain ⟨f,rfl⟩:∃f,n=f+1:=⟨n-1,by omega⟩
  have h1:=he
  simp only [endK] at h1
  rw [if_neg (by omega)] at h1
  have h2:=fold_good K (f+1) f i (fun a ha=>endK_fuel K (f+1) f (f+1) a (by omega) (by omega)) (fun a _=>endK_range K (f+1) (f+1) a) (K i) (i+1) e (by omega) (by simpa using h1)
  by_cases hj:j=i
  · subst hj
    exact ⟨e,he,hje,h2.1⟩
  · obtain ⟨x,e',q1,q2,q3,q4,q5⟩:=h2.2 j (by omega) hje
    exact ih (f+1-x) (by omega) x e' rfl q4 q5 j q2 q3
theorem right_of_endK (K:Nat→List Int)(n:Nat)(hn:0<n)(h:endK K n n 0=(n:Int)):RightSz K (fun x=>(endK K n n x).toNat-x) n where
 chain:=fun i hi=>by
  obtain ⟨e,h1,h2,h3⟩:=endK_good K n n 0 n rfl hn h i (Nat.zero_le _) hi
  have e1:i+((endK K n n i).toNat-i)=e:=by rw [h1,Int.toNat_natCast];omega
  simp only [e1]
  exact h3
theorem sizes_iff (rows:List (List Int))(hn:0<rows.length):endK (fun i=>rows.getD i []) rows.length rows.length 0=(rows.length:Int)↔∃s,sizesL rows 0=some s∧s.getD 0 0=rows.length:=by
 constructor
 · intro h
   have hr:=right_of_endK _ _ hn h
   obtain ⟨s,h1,h2⟩:=right_sizesL rows 0 (fun x=>(endK (fun i=>rows.getD i []) rows.length rows.length x).toNat-x) (fun x hx=>by
    rw [Nat.zero_add,Nat.zero_add]
    exact hr.chain x hx)
   refine ⟨s,h1,?_⟩
   rw [h2 0 hn,Nat.zero_add,h,Int.toNat_natCast,Nat.sub_zero]
 · rintro ⟨s,h1,h2⟩
   have hr:=sizesL_right h1
   rw [hr.endK rows.length 0 hn (by omega)]
   simp only [Nat.zero_add,h2]
def maxL (g:Int→Nat)(ks:List Int):Nat:=ks.foldl (fun m k=>max m (g k)) 0
theorem foldl_max (g:Int→Nat)(ks:List Int)(m:Nat):ks.foldl (fun m k=>max m (g k)) m=max m (maxL g ks):=by
 unfold maxL
 induction ks generalizing m with
 | nil=>simp
 | cons k ks ih=>simp only [List.foldl_cons];rw [ih,ih (max 0 (g k))];omega
theorem maxL_cons (g:Int→Nat)(k:Int)(ks:List Int):maxL g (k::ks)=max (g k) (maxL g ks):=by
 show (k::ks).foldl _ 0=_
 rw [List.foldl_cons,foldl_max];omega
def deepK (own:Nat→Nat→Nat)(K:Nat→List Int):Nat→Nat→Nat
 | 0,_=>0
 | f+1,i=>maxL (fun k=>own i k.toNat+deepK own K f k.toNat) (K i)
def deepest (D:Nat→Nat)(K:Nat→List Int)(a:Nat):Nat→Nat
 | 0=>0
 | d+1=>max (deepest D K a d) (maxL (fun k=>D k.toNat) (K (a+d)))
theorem deepest_add (D:Nat→Nat)(K:Nat→List Int)(a x y:Nat):deepest D K a (x+y)=max (deepest D K a x) (deepest D K (a+x) y):=by
 induction y with
 | zero=>simp [deepest]
 | succ y ih=>rw [← Nat.add_assoc,deepest,ih,deepest,Nat.add_assoc a x y];omega
theorem RightSz.deep {K:Nat→List Int}{S:Nat→Nat}{n:Nat}(h:RightSz K S n)(own:Nat→Nat→Nat)(D:Nat→Nat)(hD:∀i,i<n→∀j:Nat,(j:Int)∈K i→D j=D i+own i j) :
 ∀f i,i<n→n≤i+f→max (D i) (deepest D K i (S i))=D i+deepK own K f i:=by
 have hS:=h.size
 intro f
 induction f with
 | zero=>intro i h1 h2;omega
 | succ f ih =>
  intro i h1 h2
  have key:∀(ks:List Int) (a e:Nat),i<a→a≤n→(∀k∈ks,k∈K i)→Chain S n ks a e→max (D i) (max (maxL (fun k=>D k.toNat) ks) (deepest D K a (e-a)))=D i+maxL (fun k=>own i k.toNat+deepK own K f k.toNat) ks:=by
   intro ks
   induction ks with
   | nil =>
    intro a e _ _ _ h
    obtain rfl:a=e:=h
    simp [maxL,deepest]
   | cons k ks ihk =>
    intro a e ha hn hm hc
    obtain ⟨p1,p2,p3⟩:=hc
    have p4:=hS a p2
    have p5:=chain_mono ks _ e (fun i _ hn=>hS i hn) p4.2 p3
    have p6:=ihk (a+S a) e (by omega) p4.2 (fun k hk=>hm k (by simp [hk])) p3
    have p7:=ih a p2 (by omega)
    have p8:=hD i h1 a (by rw [← p1];exact hm k (by simp))
    have e1:e-a=S a+(e-(a+S a)):=by omega
    rw [e1,deepest_add,maxL_cons,maxL_cons,p1,Int.toNat_natCast]
    omega
  have p1:=key (K i) (i+1) (i+S i) (by omega) (by omega) (fun _ h=>h) (h.chain i h1)
  have p2:=hS i h1
  have e1:S i=1+(i+S i-(i+1)):=by omega
  rw [e1,deepest_add]
  have e2:deepest D K i 1=maxL (fun k=>D k.toNat) (K i):=by simp [deepest]
  rw [e2]
  simp only [deepK]
  exact p1
end Tr
end Go.Proofs.YthdioipfdbbmmaaGreatDoor
