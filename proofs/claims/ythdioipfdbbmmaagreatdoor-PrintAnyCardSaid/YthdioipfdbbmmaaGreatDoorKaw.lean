/- Contracts. -/
import Derived.Test.YthdioipfdbbmmaaGreatDoorKab
import Derived.Test.YthdioipfdbbmmaaGreatDoorKah
import Derived.Test.YthdioipfdbbmmaaGreatDoorKal
import Derived.Test.YthdioipfdbbmmaaGreatDoorKao
import Derived.Test.YthdioipfdbbmmaaGreatDoorKap
import Derived.Recover
import Derived.Defers
set_option linter.all false
set_option maxRecDepth 1000000
set_option maxHeartbeats 16000000
namespace Go.Proofs.YthdioipfdbbmmaaGreatDoor
section
open Go.RowKit
mutual
theorem raw_kids (b:Nat):∀(a:Ast) (x:Nat × Nd),x∈raw b a→∀z∈x.2.kids,∃y∈raw b a,z=(y.1:Int)
 | .mk k a t n ks,x,hx,z,hz=>by
  simp only [raw,List.mem_cons] at hx ⊢
  rcases hx with rfl|hx
  · obtain ⟨y,hy,e⟩:=roots_raw b ks z hz
    exact ⟨y,Or.inr hy,e⟩
  · obtain ⟨y,hy,e⟩:=rawL_kids b ks x hx z hz
    exact ⟨y,Or.inr hy,e⟩
theorem rawL_kids (b:Nat):∀(l:List Ast) (x:Nat × Nd),x∈rawL b l→∀z∈x.2.kids,∃y∈rawL b l,z=(y.1:Int)
 | [],x,hx,_,_=>by simp [rawL] at hx
 | y::r,x,hx,z,hz=>by
  simp only [rawL,List.mem_append] at hx ⊢
  rcases hx with hx|hx
  · obtain ⟨u,hu,e⟩:=raw_kids b y x hx z hz
    exact ⟨u,Or.inl hu,e⟩
  · obtain ⟨u,hu,e⟩:=rawL_kids (b+y.size) r x hx z hz
    exact ⟨u,Or.inr hu,e⟩
theorem roots_raw (b:Nat):∀(l:List Ast) (z:Int),z∈roots b l→∃y∈rawL b l,z=(y.1:Int)
 | [],z,hz=>by simp [roots] at hz
 | y::r,z,hz=>by
  simp only [roots,List.mem_cons] at hz
  simp only [rawL,List.mem_append]
  rcases hz with rfl|hz
  · obtain ⟨nd,rest,e⟩:=raw_head b y
    have:=size_pos y
    exact ⟨(b+y.size-1,nd),Or.inl (by rw [e];simp),by simp only;omega⟩
  · obtain ⟨u,hu,e⟩:=roots_raw (b+y.size) r z hz
    exact ⟨u,Or.inr hu,e⟩
end
mutual
theorem raw_few (b:Nat):∀(a:Ast) (x:Nat × Nd),x∈raw b a→x.2.kids.length≤a.size
 | .mk k a t n ks,x,hx=>by
  simp only [raw,List.mem_cons] at hx
  simp only [Ast.size]
  rcases hx with rfl|hx
  · simp only [roots_length]
    have:=length_le_sizeL ks
    omega
  · have:=rawL_few b ks x hx
    omega
theorem rawL_few (b:Nat):∀(l:List Ast) (x:Nat × Nd),x∈rawL b l→x.2.kids.length≤sizeL l
 | [],x,hx=>by simp [rawL] at hx
 | y::r,x,hx=>by
  simp only [rawL,List.mem_append] at hx
  simp only [sizeL]
  rcases hx with hx|hx
  · have:=raw_few b y x hx
    omega
  · have:=rawL_few (b+y.size) r x hx
    omega
end
def startK (D:List (Nat × Nd))(i:Nat):List Int:=(D.getD i default).2.kids
def gF (F:Nat→Int)(z:Int):Int:=F z.toNat
def kidsK (F:Nat→Int)(D:List (Nat × Nd))(i j x:Nat):List Int :=
 if x<i then (startK D x).map (gF F) else if x=i then ((startK D x).take j).map (gF F)++(startK D x).drop j else startK D x
theorem kidsK_zero (F:Nat→Int)(D:List (Nat × Nd))(x:Nat):kidsK F D 0 0 x=startK D x:=by
 simp only [kidsK,Nat.not_lt_zero,if_false]
 split<;>simp
theorem kidsK_done (F:Nat→Int)(D:List (Nat × Nd))(i x:Nat):kidsK F D i (startK D i).length x=kidsK F D (i+1) 0 x:=by
 simp only [kidsK]
 by_cases h1:x<i
 · rw [if_pos h1,if_pos (by omega)]
 · rw [if_neg h1]
   by_cases h2:x=i
   · subst h2
     rw [if_pos rfl,if_pos (by omega)]
     simp
   · rw [if_neg h2,if_neg (by omega)]
     split<;>simp
theorem kidsK_here (F:Nat→Int)(D:List (Nat × Nd))(i j:Nat):kidsK F D i j i=((startK D i).take j).map (gF F)++(startK D i).drop j:=by simp [kidsK]
theorem kidsK_length (F:Nat→Int)(D:List (Nat × Nd))(i j x:Nat):(kidsK F D i j x).length=(startK D x).length:=by
 simp only [kidsK]
 split
 · simp
 · split<;>simp<;>omega
theorem kidsK_at (F:Nat→Int)(D:List (Nat × Nd))(i j:Nat)(hj:j<(startK D i).length):(kidsK F D i j i)[j]?=(startK D i)[j]?:=by
 rw [kidsK_here,List.getElem?_append_right (by simp;omega)]
 simp [show min j (startK D i).length=j by omega]
theorem kidsK_set (F:Nat→Int)(D:List (Nat × Nd))(i j:Nat)(z:Int)(hz:(startK D i)[j]?=some z):kidsK F D i (j+1) i=(kidsK F D i j i).set j (gF F z):=by
 have hj:j<(startK D i).length:=(List.getElem?_eq_some_iff.1 hz).1
 rw [kidsK_here,kidsK_here]
 apply List.ext_getElem?
 intro x
 by_cases h1:x<j
 · rw [List.getElem?_append_left (by simp;omega),List.getElem?_set_ne (by omega),List.getElem?_append_left (by simp;omega)]
   simp [h1,show x<j+1 by omega]
 · by_cases h2:x=j
   · subst h2
     rw [List.getElem?_append_left (by simp;omega),List.getElem?_set_self (by simp;omega)]
     simp [hz]
   · rw [List.getElem?_append_right (by simp;omega),List.getElem?_set_ne (by omega),List.getElem?_append_right (by simp;omega)]
     simp only [List.length_map,List.length_take,List.getElem?_drop]
     congr 1
     omega
theorem kidsK_other (F:Nat→Int)(D:List (Nat × Nd))(i j x:Nat)(hx:x≠i):kidsK F D i (j+1) x=kidsK F D i j x:=by
 simp only [kidsK,if_neg hx]
structure F2 (B n0:Nat)(w0:World)(kvs:List Value)(N bp:Nat)(F:Nat→Int)(D:List (Nat × Nd))(vn:Value)(K:Nat→List Int)(rs:List Nat)(w:World):Prop where
 below:Below B w0 w
 size:n0≤w.heap.size
 bp0:n0≤bp
 places:∃cs:Array Value,w.heap[bp]?=some (.cells cs 3 (0,0))∧cs.size=N∧∀j,j<N→cs[j]?=some (.int .i64 (F j))
 nodes:w.ownsRow n0 54 5 vn D.length (rowD kvs D)
 kids:∀i,i<D.length→own1 B w (kvs.getD (D.getD i default).1 default) (K i)
 near:∀i,i<D.length→∀g,(kvs.getD (D.getD i default).1 default).ownBlock=some g→g<n0
 apart:∀i j,i<D.length→j<D.length→i≠j→∀g,(kvs.getD (D.getD i default).1 default).ownBlock=some g→(kvs.getD (D.getD j default).1 default).ownBlock≠some g
 marks:∀r∈rs,n0≤r∧w.heap[r]?=some (.deferred (some []))
 dist:rs.Nodup
section
variable {B n0:Nat}{w0:World}{kvs:List Value}{N bp:Nat}{F:Nat→Int}{D:List (Nat × Nd)}{vn:Value}{K K':Nat→List Int}{rs:List Nat}{w w':World}
theorem F2.congr (h:F2 B n0 w0 kvs N bp F D vn K rs w)(hk:∀i,i<D.length→K i=K' i):F2 B n0 w0 kvs N bp F D vn K' rs w :=
 { h with kids:=fun i hi=>by rw [← hk i hi];exact h.kids i hi }
theorem F2.grown (h:F2 B n0 w0 kvs N bp F D vn K rs w)(hB:B≤n0)(hg:w.grownBy w' none):F2 B n0 w0 kvs N bp F D vn K rs w' where
 below:=h.below.grown hg (Nat.le_trans hB h.size) (fun _ e=>by cases e)
 size:=Nat.le_trans h.size hg.size
 bp0:=h.bp0
 places:=by
  obtain ⟨cs,k1,k2⟩:=h.places
  exact ⟨cs,by rw [hg.block bp (Array.getElem?_eq_some_iff.1 k1).1 (by simp)];exact k1,k2⟩
 nodes:=h.nodes.kept hg (by cases vn.ownBlock<;>simp)
 kids:=fun i hi=>(h.kids i hi).grown hg (by cases (kvs.getD (D.getD i default).1 default).ownBlock<;>simp)
 near:=h.near
 apart:=h.apart
 marks:=fun r hr=>⟨(h.marks r hr).1,by rw [hg.block r (Array.getElem?_eq_some_iff.1 (h.marks r hr).2).1 (by simp)];exact (h.marks r hr).2⟩
 dist:=h.dist
theorem F2.put (h:F2 B n0 w0 kvs N bp F D vn K rs w)(i:Nat)(hi:i<D.length){g c:Nat}(hkv:kvs.getD (D.getD i default).1 default=.slice (some ⟨g,0,none⟩) (K i).length c)(j:Nat)(z:Int)(hj:j<(K i).length)(hB:B≤n0)
 (h1:K' i=(K i).set j z) (h2:∀x,x<D.length→x≠i→K' x=K x):F2 B n0 w0 kvs N bp F D vn K' rs (w.setCell ⟨g,j,none⟩ (.int .i64 z)):=by
 have hg:=grownBy_set w ⟨g,j,none⟩ (.int .i64 z)
 have hgb:(kvs.getD (D.getD i default).1 default).ownBlock=some g:=by rw [hkv];rfl
 have hgn:=h.near i hi g hgb
 have hk:=h.kids i hi
 have hlo:=(hk.lt g hgb).1
 exact {
  below:=h.below.grown hg (Nat.le_trans hB h.size) (fun q e=>by cases e;exact hlo)
  size:=Nat.le_trans h.size hg.size
  bp0:=h.bp0
  places:=by
   obtain ⟨cs,k1,k2⟩:=h.places
   have:=h.bp0
   exact ⟨cs,by rw [hg.block bp (Array.getElem?_eq_some_iff.1 k1).1 (fun e=>by have e:=Option.some.inj e;simp only at e;omega)];exact k1,k2⟩
  nodes:=h.nodes.kept hg (Or.inr (fun e=>by have:=(h.nodes.lt _ e).1;simp only at this;omega))
  kids:=fun x hx=>by
   by_cases e:x=i
   · subst e
     rw [h1]
     rw [hkv] at hk ⊢
     have h3:=World.ownsRow.stored hk j (.int .i64 z)
     unfold own1
     rw [List.length_set,List.map_set]
     exact h3.1
   · rw [h2 x hx e]
     exact (h.kids x hx).grown hg (Or.inr (h.apart i x hi hx (fun e1=>e e1.symm) g hgb))
  near:=h.near
  apart:=h.apart
  marks:=fun r hr=>⟨(h.marks r hr).1,by
   have h3:=(h.marks r hr).1
   rw [hg.block r (Array.getElem?_eq_some_iff.1 (h.marks r hr).2).1 (fun e=>by have e:=Option.some.inj e;simp only at e;omega)];exact (h.marks r hr).2⟩
  dist:=h.dist }
theorem F2.placeAt (h:F2 B n0 w0 kvs N bp F D vn K rs w)(j:Nat)(hj:j<N):w.cell? ⟨bp,j,none⟩=some (.int .i64 (F j)):=by
 obtain ⟨cs,k1,k2,k3⟩:=h.places
 rw [cell_of_row _ _ _ _ _ _ k1];exact k3 j hj
theorem F1.go {md:List Nd}{bq:Nat}{pv:Value}{ts:List Int}{vm:Value}(h:F1 n0 w0 kvs N bp bq F D vn pv ts rs w)(hM:Made B w0 vm kvs md)(hn:n0=w0.heap.size)(hD:∀(i:Nat) (x:Nat × Nd),D[i]?=some x→md[x.1]?=some x.2)(hnd:(D.map (·.1)).Nodup):F2 B n0 w0 kvs N bp F D vn (startK D) rs w:=by
 have hget:∀i,i<D.length→D[i]?=some (D.getD i default):=fun i hi=>by simp [List.getD,hi]
 have hk0:∀i,i<D.length→own1 B w0 (kvs.getD (D.getD i default).1 default) (startK D i):=fun i hi=>by
  have h1:=hD i _ (hget i hi)
  have h2:=hM.kids (D.getD i default).1 (List.getElem?_eq_some_iff.1 h1).1
  rwa [show md.getD (D.getD i default).1 default=(D.getD i default).2 by simp only [List.getD] at h1 ⊢;rw [h1];rfl] at h2
 subst hn
 exact {
  below:=h.below.mono hM.base
  size:=h.size
  bp0:=h.bp0
  places:=h.places
  nodes:=h.nodes
  kids:=fun i hi=>by
   obtain ⟨h1,h2⟩:=hk0 i hi
   refine ⟨h1,?_⟩
   rcases h2 with h2|⟨g,cap,cur,e,hb,hh,hr⟩
   · exact Or.inl h2
   · exact Or.inr ⟨g,cap,cur,e,hb,by rw [h.below.block g (Array.getElem?_eq_some_iff.1 hh).1];exact hh,hr⟩
  near:=fun i hi g hg=>((hk0 i hi).lt g hg).2
  apart:=fun i j hi hj hne g hg=>by
   have e1:=hget i hi
   have e2:=hget j hj
   have l1:(D.getD i default).1<kvs.length:=by rw [hM.klen];exact (List.getElem?_eq_some_iff.1 (hD i _ e1)).1
   have l2:(D.getD j default).1<kvs.length:=by rw [hM.klen];exact (List.getElem?_eq_some_iff.1 (hD j _ e2)).1
   have hpp:(D.getD i default).1≠(D.getD j default).1:=fun e=>by
    have m1:(D.map (·.1))[i]?=some (D.getD i default).1:=by rw [List.getElem?_map,e1];rfl
    have m2:(D.map (·.1))[j]?=some (D.getD j default).1:=by rw [List.getElem?_map,e2];rfl
    rw [e] at m1
    exact hne ((List.getElem?_inj (by simpa using hi) hnd).1 (by rw [m1,m2]))
   have hp:=List.pairwise_iff_getElem.1 hM.pair
   have g1:kvs.getD (D.getD i default).1 default=kvs[(D.getD i default).1]:=by rw [List.getD_eq_getElem?_getD,List.getElem?_eq_getElem l1];rfl
   have g2:kvs.getD (D.getD j default).1 default=kvs[(D.getD j default).1]:=by rw [List.getD_eq_getElem?_getD,List.getElem?_eq_getElem l2];rfl
   rw [g1] at hg
   rw [g2]
   rcases Nat.lt_or_gt_of_ne hpp with h3|h3
   · exact hp _ _ l1 l2 h3 g hg
   · exact fun e=>hp _ _ l2 l1 h3 g e hg
  marks:=h.marks
  dist:=h.dist }
theorem ownsRow_agree {base e size n:Nat}{v:Value}{xs:List Value}{wX:World}(h:w.ownsRow base e size v n xs)(hX:∀k,base≤k→wX.heap[k]?=w.heap[k]?):wX.ownsRow base e size v n xs:=by
 obtain ⟨h1,h2⟩:=h
 refine ⟨h1,?_⟩
 rcases h2 with h2|⟨g,cap,cur,h2,h3,h4,h5⟩
 · exact .inl h2
 · exact .inr ⟨g,cap,cur,h2,h3,by rw [hX g h3];exact h4,h5⟩
theorem tree_of {gv vc:Nat}(hnodes:w.ownsRow n0 54 5 (.slice (some ⟨gv,0,none⟩) D.length vc) D.length (rowD kvs D))(hkids:∀i,i<D.length→own1 B w (kvs.getD (D.getD i default).1 default) ((startK D i).map (gF F))):Tr.TV w (some ⟨gv,0,none⟩) D.length vc (D.map (placed (gF F))) where
 len_eq:=by simp
 cap:=by
  rcases hnodes.2 with ⟨h1,_⟩|⟨g,cap,cur,h1,_,_,h2,_⟩
  · simp at h1
  · simp only [Value.slice.injEq] at h1;omega
 node:=fun hl=>⟨gv,0,rfl,(hnodes.lt gv rfl).2,fun i hi=>by
  have hx:D[i]?=some (D.getD i default):=by simp [List.getD,hi]
  have hc:∀q u,(nodeC (D.getD i default).2 (kvs.getD (D.getD i default).1 default))[q]?=some u→w.cell? ⟨gv,0+i*5+q,none⟩=some u:=fun q u hq=>by
   have h5:q<5:=by have:=(List.getElem?_eq_some_iff.1 hq).1;simpa [nodeC] using this
   rw [Nat.zero_add,hnodes.cellAt (i*5+q) (by omega),rowD_get kvs D i _ hx q h5]
   exact hq
  have hnd:(D.map (placed (gF F))).getD i default=placed (gF F) (D.getD i default):=by simp [List.getD,hi]
  have hk:=hkids i hi
  rw [hnd]
  obtain ⟨k1,k2⟩:=hk
  rcases k2 with ⟨k2,k3⟩|⟨g,cap,cur,k2,k3⟩
  · have k3':(placed (gF F) (D.getD i default)).kids=[]:=List.length_eq_zero_iff.1 k3
    exact ⟨none,0,0,⟨hc 0 _ rfl,hc 1 _ rfl,hc 2 _ rfl,hc 3 _ rfl,by rw [← k2];exact hc 4 _ rfl,⟨by rw [k3'];rfl,Nat.le_refl _,fun h0=>absurd h0 (by omega)⟩⟩⟩
  · refine ⟨some ⟨g,0,none⟩,((startK D i).map (gF F)).length,cap,⟨hc 0 _ rfl,hc 1 _ rfl,hc 2 _ rfl,hc 3 _ rfl,by rw [← k2];exact hc 4 _ rfl,⟨rfl,k3.2.2.1,fun h0=>?_⟩⟩⟩
    have hown:w.ownsRow B 3 1 (.slice (some ⟨g,0,none⟩) ((startK D i).map (gF F)).length cap) ((startK D i).map (gF F)).length (((startK D i).map (gF F)).map (Value.int .i64)):=⟨k1,.inr ⟨g,cap,cur,rfl,k3⟩⟩
    refine ⟨g,0,rfl,(hown.lt g rfl).2,fun j hj=>?_⟩
    rw [Nat.zero_add,hown.cellAt j (by omega)]
    show _=some (Value.int .i64 (((startK D i).map (gF F)).getD j 0))
    simp only [List.getElem?_map,List.getD]
    simp only [List.length_map] at hj
    simp [hj]⟩
theorem F2.tree {gv vc:Nat}{wX:World}(h:F2 B n0 w0 kvs N bp F D (.slice (some ⟨gv,0,none⟩) D.length vc) (kidsK F D D.length 0) rs w)(hB:B≤n0)(hX:∀k,B≤k→wX.heap[k]?=w.heap[k]?):Tr.TV wX (some ⟨gv,0,none⟩) D.length vc (D.map (placed (gF F))) :=
 tree_of (ownsRow_agree h.nodes (fun k hk=>hX k (Nat.le_trans hB hk))) (fun i hi=>by
  have hk:=h.kids i hi
  have hki:kidsK F D D.length 0 i=(startK D i).map (gF F):=by simp [kidsK,hi]
  rw [hki] at hk
  exact ownsRow_agree hk hX)
theorem F2.unmark {r:Nat}(h:F2 B n0 w0 kvs N bp F D vn K (r::rs) w)(hB:B≤n0):w.heap[r]?=some (.deferred (some []))∧F2 B n0 w0 kvs N bp F D vn K rs (w.putObj r (.deferred none)):=by
 obtain ⟨h1,h2⟩:=h.marks r (by simp)
 have hg:=grownBy_putObj' w r (.deferred none)
 refine ⟨h2,?_⟩
 exact {
  below:=h.below.grown hg (Nat.le_trans hB h.size) (fun q e=>by cases e;omega)
  size:=Nat.le_trans h.size hg.size
  bp0:=h.bp0
  places:=by
   obtain ⟨cs,k1,k2⟩:=h.places
   exact ⟨cs,by rw [hg.block bp (Array.getElem?_eq_some_iff.1 k1).1 (fun e=>by
    have e:=Option.some.inj e
    rw [e,h2] at k1
    simp at k1)];exact k1,k2⟩
  nodes:=ownsRow_putObj h.nodes _ h2 rfl
  kids:=fun i hi=>ownsRow_putObj (h.kids i hi) _ h2 rfl
  near:=h.near
  apart:=h.apart
  marks:=fun x hx=>⟨(h.marks x (by simp [hx])).1,by
   have h3:=(h.marks x (by simp [hx])).2
   have hne:x≠r:=fun e=>(List.nodup_cons.1 h.dist).1 (by rw [← e];exact hx)
   rw [hg.block x (Array.getElem?_eq_some_iff.1 h3).1 (fun e=>hne (Option.some.inj e))];exact h3⟩
  dist:=(List.nodup_cons.1 h.dist).2 }
theorem F2.res {q0 T:Nat}{u u':Value}(h:F2 B n0 w0 kvs N bp F D vn K rs w)(hb:Boxed w q0 T u)(h1:q0<n0)(h2:B≤q0)(hT:T≠3):F2 B n0 w0 kvs N bp F D vn K rs (w.setCell ⟨q0,0,none⟩ u'):=by
 have hg:=grownBy_set w ⟨q0,0,none⟩ u'
 have hb':w.heap[q0]?=some (.cells #[u] T (0,0)):=hb
 have hbp:=h.bp0
 exact {
  below:=h.below.grown hg (by have:=hb.lt;omega) (fun q e=>by cases e;exact h2)
  size:=Nat.le_trans h.size hg.size
  bp0:=h.bp0
  places:=by
   obtain ⟨cs,k1,k2⟩:=h.places
   exact ⟨cs,by rw [hg.block bp (Array.getElem?_eq_some_iff.1 k1).1 (fun e=>by have e:=Option.some.inj e;simp only at e;omega)];exact k1,k2⟩
  nodes:=h.nodes.kept hg (Or.inr (fun e=>by have:=(h.nodes.lt _ e).1;simp only at this;omega))
  kids:=fun i hi=>(h.kids i hi).grown hg (Or.inr (row_ne (h.kids i hi) hb' (fun cs fr e=>by simp only [Obj.cells.injEq] at e;exact hT e.2.1)))
  near:=h.near
  apart:=h.apart
  marks:=fun r hr=>⟨(h.marks r hr).1,by
   have h3:=(h.marks r hr).1
   rw [hg.block r (Array.getElem?_eq_some_iff.1 (h.marks r hr).2).1 (fun e=>by have e:=Option.some.inj e;simp only at e;omega)];exact (h.marks r hr).2⟩
  dist:=h.dist }
theorem F2.kidV (h:F2 B n0 w0 kvs N bp F D vn K rs w)(i:Nat)(hi:i<D.length):∃kp kc,kvs.getD (D.getD i default).1 default=.slice kp (K i).length kc∧(0<(K i).length→∃g,kp=some ⟨g,0,none⟩∧(∀j u,(K i)[j]?=some u→w.cell? ⟨g,j,none⟩=some (.int .i64 u))∧(∀j,w.frozen? ⟨g,j,none⟩=false)∧g<n0):=by
 have hk:=h.kids i hi
 obtain ⟨h1,h2⟩:=id hk
 rcases h2 with ⟨h2,h3⟩|⟨g,cap,cur,h2,h3⟩
 · exact ⟨none,0,by rw [h3];exact h2,fun h0=>by omega⟩
 · refine ⟨_,_,h2,fun _=>⟨g,rfl,fun j u hu=>?_,fun j=>?_,h.near i hi g (by rw [h2];rfl)⟩⟩
   · rw [h2] at hk
     have hj:=(List.getElem?_eq_some_iff.1 hu).1
     rw [World.ownsRow.cellAt hk j (by omega),List.getElem?_map,hu]
     rfl
   · rw [h2] at hk
     exact World.ownsRow.frozenAt hk j
end
def markOf (r:Nat):Deferred:={ target:=.collected r,args:=#[] }
theorem leaves_marks {F:Fence}{n:Nat}{P:Program}{fn:Func}{tmps:Array Value}{R:Ending→World→Prop}(I:List Nat→World→Prop)(hI:∀r rs w,I (r::rs) w→w.heap[r]?=some (.deferred (some []))∧I rs (w.putObj r (.deferred none))) :
 ∀(rs:List Nat) (w:World),I rs w→(∀w',I [] w'→LeavesIn F n P fn tmps R [] .returning w')→LeavesInM F n P fn tmps R (rs.map markOf) .returning w
 | [],w,h,hR=>hR w h
 | r::rs,w,h,hR=>⟨by simp,.inl ⟨r,_,rfl,run_takeDeferred (hI r rs w h).1,leaves_marks I hI rs _ (hI r rs w h).2 hR⟩⟩
end
section
open Go.RowKit
attribute [local go_sem] Oper.semAt_some
def lenV:Value→Nat
 | .slice _ n _=>n
 | _=>0
theorem madeInts (N:Nat):(madeCells #[.int .i64 0] N).size=N∧∀j,j<N→(madeCells #[.int .i64 0] N)[j]?=some (.int .i64 0):=by
 refine ⟨size_madeCells _ _,fun j hj=>?_⟩
 simp [madeCells,hj,Nat.mod_one]
theorem F1.begin (W0:World)(kvs:List Value)(N:Nat)(z:Int)(hN:N≤70000):F1 W0.heap.size W0 kvs N W0.heap.size (W0.heap.size+1+1+1) (fun _=>0) [] (.slice (some ⟨W0.heap.size+1,0,none⟩) 0 N) (.slice (some ⟨W0.heap.size+1+1,0,none⟩) 1 1) [z] []
 ((((W0.alloc (.cells (madeCells #[.int .i64 0] N) 3)).alloc (.cells (madeCells #[.int .u8 0,.int .i64 0,.string ⟨#[]⟩,.int .i64 0,.slice none 0 0] (N*5)) 54)).alloc (.cells #[.int .i64 z] 3)).alloc (.cells #[.slice (some ⟨W0.heap.size+1+1,0,none⟩) 1 1] 32)) where
 below:=((((Below.refl _ _).alloc (Nat.le_refl _) _).alloc (by simp) _).alloc (by simp;omega) _).alloc (by simp;omega) _
 size:=by simp;omega
 bp0:=Nat.le_refl _
 bq0:=by omega
 places:=by
  obtain ⟨h1,h2⟩:=madeInts N
  refine ⟨_,?_,h1,h2⟩
  rw [Below.heap_alloc _ _ _ (by simp;omega),Below.heap_alloc _ _ _ (by simp;omega),Below.heap_alloc _ _ _ (by simp)]
  exact World.alloc_heap_new W0 _
 nodes:=by
  have h1:=World.ownsRow_made (base:=W0.heap.size) (e := 54) (size:=5) (W0.alloc (.cells (madeCells #[.int .i64 0] N) 3)) (madeCells #[.int .u8 0,.int .i64 0,.string ⟨#[]⟩,.int .i64 0,.slice none 0 0] (N*5)) N (by simp) (by simp [maxLen];omega) (size_madeCells _ _)
  rw [World.size_alloc] at h1
  exact (h1.alloc _).alloc _
 box:=by
  have h1:=Boxed.new (((W0.alloc (.cells (madeCells #[.int .i64 0] N) 3)).alloc (.cells (madeCells #[.int .u8 0,.int .i64 0,.string ⟨#[]⟩,.int .i64 0,.slice none 0 0] (N*5)) 54)).alloc (.cells #[.int .i64 z] 3)) 32 (.slice (some ⟨W0.heap.size+1+1,0,none⟩) 1 1)
  simp only [World.size_alloc] at h1
  exact h1
 pile:=by
  have h1:=World.ownsRow_lit (base:=W0.heap.size) (e:=3) (size:=1) ((W0.alloc (.cells (madeCells #[.int .i64 0] N) 3)).alloc (.cells (madeCells #[.int .u8 0,.int .i64 0,.string ⟨#[]⟩,.int .i64 0,.slice none 0 0] (N*5)) 54)) #[.int .i64 z] 1 (by simp;omega) (by simp [maxLen]) (by simp)
  simp only [World.size_alloc] at h1
  exact h1.alloc _
 sep:=by simp [Value.ownBlock];omega
 marks:=fun r hr=>by simp at hr
 dist:=List.nodup_nil
theorem Made.alloc {B:Nat}{w:World}{v:Value}{kvs:List Value}{md:List Nd}(h:Made B w v kvs md)(o:Obj):Made B (w.alloc o) v kvs md where
 base:=by have:=h.base;simp;omega
 own:=h.own.alloc o
 klen:=h.klen
 kids:=fun j hj=>(h.kids j hj).grown (World.grownBy_alloc w o none) (by cases (kvs.getD j default).ownBlock<;>simp)
 apart:=h.apart
 pair:=h.pair
 few:=h.few
section
theorem made_cell {B gm N cm:Nat}{w0 wr:World}{kvs:List Value}{md:List Nd}(hM:Made B w0 (.slice (some ⟨gm,0,none⟩) N cm) kvs md)(hN:N=md.length)(hb:Below w0.heap.size w0 wr){q:Nat}{nd:Nd}(hq:md[q]?=some nd){i:Nat}{u:Value}(hi:(nodeC nd (kvs.getD q default))[i]?=some u):wr.cell? ⟨gm,q*5+i,none⟩=some u:=by
 have hlt:=(List.getElem?_eq_some_iff.1 hq).1
 have h5:i<5:=by have:=(List.getElem?_eq_some_iff.1 hi).1;simpa [nodeC] using this
 have hg:=(hM.own.lt gm rfl).2
 rw [hb.cell (p:=⟨gm,q*5+i,none⟩) hg]
 have hown:=hM.own
 rw [← hN] at hown
 rw [hown.cellAt (q*5+i) (by omega),cellsM_get md kvs hM.klen q hlt i h5]
 rw [show md.getD q default=nd by simp [List.getD,hq]]
 exact hi
theorem rawS_long (st:List (Nat × Ast)):st.length≤(rawS st).length:=by
 induction st with
 | nil=>simp
 | cons y r ih =>
  obtain ⟨b,x⟩:=y
  have:=size_pos x
  simp only [rawS,List.length_append,List.length_cons,raw_length]
  omega
theorem raw_first {a:Ast}{b:Nat}{k:Int}{p:Nat}{t:ByteArray}{n:Int}{ks:List Ast}{D:List (Nat × Nd)}{st:List (Nat × Ast)}(h:raw 0 a=D++rawS ((b,.mk k p t n ks)::st)) :
 b+sizeL ks<a.size∧(post 0 a)[b+sizeL ks]?=some ⟨k,p,t,n,roots b ks⟩∧D.length<a.size∧raw 0 a=(D++[(b+sizeL ks,⟨k,p,t,n,roots b ks⟩)])++rawS (pairsOf b ks++st)∧∀(i:Nat) (x:Nat × Nd),D[i]?=some x→x.1≠b+sizeL ks:=by
 rw [rawS_cons] at h
 have hmem:(b+sizeL ks,(⟨k,p,t,n,roots b ks⟩:Nd))∈raw 0 a:=by rw [h];simp
 have h1:=raw_range 0 a _ hmem
 have h2:=raw_post 0 a _ hmem
 have hl:=congrArg List.length h
 rw [raw_length,List.length_append,List.length_cons] at hl
 simp only [Nat.zero_add,Nat.sub_zero] at h1 h2
 refine ⟨h1.2,h2,by omega,by rw [h];simp,fun i x hx e=>?_⟩
 have hnd:=raw_nodup 0 a
 rw [h,List.map_append,List.map_cons] at hnd
 have:=(List.nodup_append.1 hnd).2.2 x.1 (List.mem_map.2 ⟨x,List.mem_of_getElem? hx,rfl⟩) (b+sizeL ks) (by simp)
 exact this e
theorem flat_at (B:Nat)(v:Value)(kvs:List Value)(a:Ast)(w:World)(hM:Made B w v kvs (post 0 a)) :
 Calls Tryz.prog 74 #[v,.int .i64 ((a.size:Int)-1)] w fun e w'=>∃p len cap,e=.returned (.agg #[.slice p len cap])∧(∀wX:World,(∀k,B≤k→wX.heap[k]?=w'.heap[k]?)→Tr.TV wX p len cap (flat 0 a))∧Below B w w':=by
 obtain ⟨gm,cm,rfl⟩:∃gm cm,v=.slice (some ⟨gm,0,none⟩) a.size cm:=by
  have h1:=hM.own
  rw [post_length] at h1
  have h2:=size_pos a
  obtain ⟨g,cap,h3⟩:=World.ownsRow.form h1 (by omega)
  exact ⟨g,cap,h3.1⟩
 have HM:=lh hM
 have hsz:1≤a.size:=size_pos a
 have hfew:a.size≤70000:=by have:=hM.few;rwa [post_length] at this
 obtain ⟨i1,hi1,hz1,hs1,hb1⟩:=info_partsP infoInt
 obtain ⟨i5,hi5,hz5,hs5,hb5⟩:=info_partsP infoNode
 have hm1:∀W:World,(Instr.makeSlice 32 (.int .i64 (a.size:Int)) (.int .i64 (a.size:Int))).run Tryz.prog W=.ok (.slice (some ⟨W.heap.size,0,none⟩) a.size a.size) (W.alloc (.cells (madeCells (Value.int .i64 0).cells (a.size*1)) 3)):=fun W=>by
  have:=run_makeSlice (P:=Tryz.prog) (w:=W) 32 3 i1 _ Tryz.underlying32 hi1 hz1 .i64 .i64 a.size a.size (by omega) (Int.le_refl _) (by rw [hs1];omega) (by rw [hb1];omega) (by omega)
  rw [hs1] at this
  simpa using this
 have hm5:∀W:World,(Instr.makeSlice 37 (.int .i64 0) (.int .i64 (a.size:Int))).run Tryz.prog W=.ok (.slice (some ⟨W.heap.size,0,none⟩) 0 a.size) (W.alloc (.cells (madeCells (Value.agg #[.int .u8 0,.int .i64 0,.string ⟨#[]⟩,.int .i64 0,.slice none 0 0]).cells (a.size*5)) 54)):=fun W=>by
  have:=run_makeSlice (P:=Tryz.prog) (w:=W) 37 54 i5 _ Tryz.underlying37 hi5 hz5 .i64 .i64 0 a.size (by omega) (by omega) (by rw [hs5];omega) (by rw [hb5];omega) (by omega)
  rw [hs5] at this
  simpa using this
 have I1:=lh (And.intro hi1 (And.intro hz1 (And.intro hs1 hb1)))
 have I5:=lh (And.intro hi5 (And.intro hz5 (And.intro hs5 hb5)))
 clear hM hi1 hz1 hs1 hb1 hi5 hz5 hs5 hb5
 refine callsIn_wide.1 (callsIn_of_wp_marks (n:=5) Tryz.func74 rfl trivial (wpIn_wide.2 ?_) rfl)
 simp only [Tryz.ntmps74,List.size_toArray,List.length_cons,List.length_nil,Nat.reduceAdd,Nat.reduceSub,Array.replicate_succ,Array.replicate_zero,List.push_toArray,List.append_toArray,List.nil_append,List.cons_append]
 go_wp2_with fail
 clear hm1 hm5
 obtain ⟨W0,hW0⟩:∃W0,w.alloc (.cells #[.slice none 0 0] 39)=W0:=⟨_,rfl⟩
 have hN:W0.heap.size=w.heap.size+1:=by rw [← hW0];simp
 have HM0:Hid (Made B W0 (.slice (some ⟨gm,0,none⟩) a.size cm) kvs (post 0 a)):=lh (by rw [← hW0];exact HM.out.alloc _)
 have S0:F1 W0.heap.size W0 kvs a.size (w.heap.size+1) (w.heap.size+1+1+1+1) (fun _=>0) [] (.slice (some ⟨w.heap.size+1+1,0,none⟩) 0 a.size) (.slice (some ⟨w.heap.size+1+1+1,0,none⟩) 1 1) (tops [(0,a)]).reverse []
  (((((w.alloc (.cells #[.slice none 0 0] 39)).alloc (.cells (madeCells #[.int .i64 0] a.size) 3)).alloc (.cells (madeCells #[.int .u8 0,.int .i64 0,.string ⟨#[]⟩,.int .i64 0,.slice none 0 0] (a.size*5)) 54)).alloc (.cells #[.int .i64 ((a.size:Int)-1)] 3)).alloc (.cells #[.slice (some ⟨w.heap.size+1+1+1,0,none⟩) 1 1] 32)):=by
  have h1:=F1.begin W0 kvs a.size ((a.size:Int)-1) hfew
  rw [hW0,← hN]
  have h2:(tops [(0,a)]).reverse=[(a.size:Int)-1]:=by simp [tops]
  rw [h2]
  exact h1
 rw [hW0]
 rw [hW0] at S0
 generalize hW5:(((W0.alloc (.cells (madeCells #[.int .i64 0] a.size) 3)).alloc (.cells (madeCells #[.int .u8 0,.int .i64 0,.string ⟨#[]⟩,.int .i64 0,.slice none 0 0] (a.size*5)) 54)).alloc (.cells #[.int .i64 ((a.size:Int)-1)] 3)).alloc (.cells #[.slice (some ⟨w.heap.size+1+1+1,0,none⟩) 1 1] 32)=W5 at *
 clear hW5
 refine wp_loop (fun act wr=>∃(F:Nat→Int) (D:List (Nat × Nd)) (st:List (Nat × Ast)) (pv:Value) (rs:List Nat) (u6 u8 u10 u23 u24 u25 u26 u27 u28 u29 u30 u31 u32 u33 u34 u35 u36 u37 u38 u39 u40 u41 u42 u43 u44 u45 u46 u47 u48 u49 u50 u51 u52 u53 u54 u55 u56 u57 u58 u59 u60:Value),
  (F1 W0.heap.size W0 kvs a.size (w.heap.size+1) (w.heap.size+1+1+1+1) F D u6 pv (tops st).reverse rs wr∧raw 0 a=D++rawS st∧(∀(i:Nat) (x:Nat × Nd),D[i]?=some x→F x.1=(i:Int)))∧act={ tmps:=(.slice (some ⟨gm,0,none⟩) a.size cm::.int .i64 ((a.size:Int)-1)::undef::undef::.pointer (some ⟨w.heap.size,0,none⟩)::.slice (some ⟨w.heap.size+1,0,none⟩) a.size a.size::u6::.pointer (some ⟨w.heap.size+1+1+1+1,0,none⟩)::u8::undef::u10::undef::undef::undef::undef::.slice (some ⟨gm,0,none⟩) a.size cm::.int .i64 (a.size:Int)::.slice (some ⟨w.heap.size+1,0,none⟩) a.size a.size::.slice (some ⟨gm,0,none⟩) a.size cm::.int .i64 (a.size:Int)::.slice (some ⟨w.heap.size+1+1,0,none⟩) 0 a.size::.int .i64 ((a.size:Int)-1)::.slice (some ⟨w.heap.size+1+1+1,0,none⟩) 1 1::u23::u24::u25::u26::u27::u28::u29::u30::u31::u32::u33::u34::u35::u36::u37::u38::u39::u40::u41::u42::u43::u44::u45::u46::u47::u48::u49::u50::u51::u52::u53::u54::u55::u56::u57::u58::u59::u60::undef::undef::undef::undef::undef::undef::undef::undef::undef::undef::undef::undef::undef::undef::undef::undef::undef::undef::undef::undef::undef::undef::undef::undef::undef::undef::[]).toArray,defers:=rs.map markOf }) (fun act _=>a.size-lenV (act.tmps.getD 6 undef)) ?_ ?_
 · exact ⟨_,_,[(0,a)],_,[],_,_,_,_,_,_,_,_,_,_,_,_,_,_,_,_,_,_,_,_,_,_,_,_,_,_,_,_,_,_,_,_,_,_,_,_,_,_,_,_,_,⟨S0,by simp [rawS],fun i x h=>by simp at h⟩,rfl⟩
 · rintro act wr ⟨F,D,st,pv,rs,u6,u8,u10,u23,u24,u25,u26,u27,u28,u29,u30,u31,u32,u33,u34,u35,u36,u37,u38,u39,u40,u41,u42,u43,u44,u45,u46,u47,u48,u49,u50,u51,u52,u53,u54,u55,u56,u57,u58,u59,u60,⟨S,hraw,hF⟩,rfl⟩
   cases st with
   | nil =>
    have hDr:D=raw 0 a:=by rw [hraw];simp [rawS]
    have hDl:D.length=a.size:=by rw [hDr,raw_length]
    obtain ⟨pp,pc,rfl⟩:∃pp pc,pv=.slice pp 0 pc:=by
     rcases S.pile.2 with ⟨h1,h2⟩|⟨g,c,cur,h1,_⟩
     · exact ⟨_,_,h1⟩
     · exact ⟨some ⟨g,0,none⟩,c,by rw [h1];simp [tops]⟩
    obtain ⟨gv,vc,rfl,_,_⟩:=World.ownsRow.form S.nodes (by omega)
    have bx0:=S.box.cell
    have hres:Boxed wr w.heap.size 39 (.slice none 0 0):=by
     have h1:W0.heap[w.heap.size]?=some (.cells #[.slice none 0 0] 39 (0,0)):=by rw [← hW0];exact World.alloc_heap_new w _
     exact (S.below.block w.heap.size (by omega)).trans h1
    have T0:F2 B W0.heap.size W0 kvs a.size (w.heap.size+1) F D (.slice (some ⟨gv,0,none⟩) D.length vc) (kidsK F D 0 0) rs wr :=
     (S.go HM0.out rfl (fun i x hx => by
      have h1:=raw_post 0 a x (by rw [← hDr];exact List.mem_of_getElem? hx)
      rwa [Nat.sub_zero] at h1) (by rw [hDr];exact raw_nodup 0 a)).congr (fun i _=>(kidsK_zero F D i).symm)
    have HF:=lh hF
    have HBN:=HM0.out.base
    have hsk:∀i,(startK D i).length≤70000:=fun i=>by
     by_cases hi:i<D.length
     · have h1:D.getD i default∈raw 0 a:=by rw [← hDr];simp [List.getD,hi]
       have h2:=raw_few 0 a _ h1
       unfold startK
       omega
     · have h1:D.getD i default=default:=by simp only [List.getD];rw [List.getElem?_eq_none (by omega)];rfl
       unfold startK
       rw [h1]
       exact Nat.zero_le _
    have HSK:=lh hsk
    have HDr:=lh hDr
    have HDl:=lh hDl
    clear S hraw hF S0 hDr hDl hsk
    dsimp only
    go_wp2_with fail
    go_loopw [63] (fun iv w2=>∃i:Nat,i≤D.length∧iv=.int .i64 (i:Int)∧Hid (F2 B W0.heap.size W0 kvs a.size (w.heap.size+1) F D (.slice (some ⟨gv,0,none⟩) D.length vc) (kidsK F D i 0) rs w2)∧Hid (Boxed w2 w.heap.size 39 (.slice none 0 0))) (fun iv _=>D.length-(intOf iv).toNat)
    case atStart=>exact ⟨0,Nat.zero_le _,rfl,lh T0,lh hres⟩
    case round =>
     obtain ⟨i,hi,rfl,T,HR⟩:=hrel
     clear T0 hres bx0
     by_cases hlt:i<D.length
     · have hx:D[i]?=some (D.getD i default):=by simp [List.getD,hlt]
       obtain ⟨kp,kc,hkv,hkp⟩:=T.out.kidV i hlt
       rw [kidsK_length] at hkv hkp
       have hc:∀q u,(nodeC (D.getD i default).2 (kvs.getD (D.getD i default).1 default))[q]?=some u→wr.cell? ⟨gv,i*5+q,none⟩=some u:=fun q u hq=>by
        have h5:q<5:=by have:=(List.getElem?_eq_some_iff.1 hq).1;simpa [nodeC] using this
        rw [T.out.nodes.cellAt (i*5+q) (by omega),rowD_get kvs D i _ hx q h5]
        exact hq
       have c0:=hc 0 _ rfl
       have c1:=hc 1 _ rfl
       have c2:=hc 2 _ rfl
       have c3:=hc 3 _ rfl
       have c4:=hc 4 _ rfl
       rw [hkv] at c4
       rw [Nat.add_zero] at c0
       have hi0:(0:Int)≤(i:Int):=by omega
       have hi1:(i:Int)<(D.length:Int):=by omega
       generalize hnd:(D.getD i default).2=nd at *
       have HKV:=lh hkv
       have T1:=lh (T.out.grown HBN (World.grownBy_alloc wr (.cells #[.int .u8 nd.kind,.int .i64 nd.at',.string nd.text,.int .i64 nd.n,.slice kp (startK D i).length kc] 54) none))
       have R1:=lh (HR.out.alloc (.cells #[.int .u8 nd.kind,.int .i64 nd.at',.string nd.text,.int .i64 nd.n,.slice kp (startK D i).length kc] 54))
       have hN9:=T.out.size
       have hi7:i+1≤70000:=by have:=HDl.out;omega
       have hk7:=HSK.out i
       have hl4:(wr.alloc (.cells #[.int .u8 nd.kind,.int .i64 nd.at',.string nd.text,.int .i64 nd.n,.slice kp (startK D i).length kc] 54)).cell? ⟨wr.heap.size,4,none⟩=some (.slice kp (startK D i).length kc):=by simp
       clear hc hkv hkp HR T
       go_wp2_with fail
       generalize hqn:wr.heap.size=qn at *
       generalize hW:wr.alloc (.cells #[.int .u8 nd.kind,.int .i64 nd.at',.string nd.text,.int .i64 nd.n,.slice kp (startK D i).length kc] 54)=W7 at *
       clear c0 c1 c2 c3 c4 hW
       go_loopw [70] (fun jv w3=>∃j:Nat,j≤(startK D i).length∧jv=.int .i64 (j:Int)∧Hid (F2 B W0.heap.size W0 kvs a.size (w.heap.size+1) F D (.slice (some ⟨gv,0,none⟩) D.length vc) (kidsK F D i j) rs w3)∧Hid (Boxed w3 w.heap.size 39 (.slice none 0 0))∧w3.cell? ⟨qn,4,none⟩=some (.slice kp (startK D i).length kc)) (fun jv _=>(startK D i).length-(intOf jv).toNat)
       case atStart=>exact ⟨0,Nat.zero_le _,rfl,T1,R1,hl4⟩
       case round =>
        obtain ⟨j,hj,rfl,T2,R2,hl5⟩:=hrel
        clear T1 R1 hl4
        by_cases hjl:j<(startK D i).length
        · obtain ⟨kp2,kc2,hkv2,hkp2⟩:=T2.out.kidV i hlt
          have hlen:=kidsK_length F D i j i
          rw [HKV.out,hlen] at hkv2
          simp only [Value.slice.injEq,true_and] at hkv2
          obtain ⟨rfl,rfl⟩:=hkv2
          obtain ⟨g,rfl,hcell,hfz,hg0⟩:=hkp2 (by omega)
          obtain ⟨z,hz⟩:∃z,(startK D i)[j]?=some z:=⟨_,List.getElem?_eq_getElem hjl⟩
          obtain ⟨y,hy,rfl⟩:∃y∈raw 0 a,z=(y.1:Int):=raw_kids 0 a (D.getD i default) (by rw [← HDr.out];exact List.mem_of_getElem? hx) z (by unfold startK at hz;exact List.mem_of_getElem? hz)
          have hyr:=(raw_range 0 a y hy).2
          rw [Nat.zero_add] at hyr
          have d1:=hcell j _ (by rw [kidsK_at F D i j hjl];exact hz)
          have d2:=T2.out.placeAt y.1 hyr
          have d3:=hfz j
          have hj0:(0:Int)≤(j:Int):=by omega
          have hj1:(j:Int)<((startK D i).length:Int):=by omega
          have hy0:(0:Int)≤(y.1:Int):=by omega
          have hy1:(y.1:Int)<(a.size:Int):=by omega
          have T3:=T2.out.grown HBN (grownBy_drew wr)
          have T4:=lh (T3.put (K':=kidsK F D i (j+1)) i hlt (by rw [hlen];exact HKV.out) j (F y.1) (by omega) HBN (by rw [kidsK_set F D i j _ hz];simp [gF]) (fun x _ hne=>kidsK_other F D i j x hne))
          have hgr:g≠w.heap.size:=fun e=>by
           obtain ⟨c,fz,h1⟩:=Lib.ownsRow_kind (T2.out.kids i hlt) g (by rw [HKV.out];rfl)
           have h2:wr.heap[w.heap.size]?=_:=R2.out
           rw [e,h2] at h1
           simp at h1
          have R3:=lh ((R2.out.kept (grownBy_drew wr) (by simp)).kept (grownBy_set wr.drew ⟨g,j,none⟩ (.int .i64 (F y.1))) (fun e=>hgr (Option.some.inj e).symm))
          have hj7:j+1≤70001:=by omega
          have hgq:¬ g=qn:=by omega
          have hgq2:¬ qn=g:=by omega
          clear T2 R2 T3 hcell hfz hkp2
          go_wp2_with fail
          go_region
          all_goals go_wp2_with fail
          all_goals
           go_roundw
           case rel=>exact ⟨j+1,by omega,by simp,T4,R3,by show (wr.drew.setCell ⟨g,j,none⟩ (.int .i64 (F y.1))).cell? _=_;rw [World.cell?_setCell_other _ _ _ _ (by first|(simp;done)|(simp;omega))];exact hl5⟩
           case measure=>simp [intOf];omega
        · obtain rfl:j=(startK D i).length:=by omega
          have T3:=lh (T2.out.congr (K':=kidsK F D (i+1) 0) (fun x _=>kidsK_done F D i x))
          have hj1:¬ (((startK D i).length:Int)<((startK D i).length:Int)):=by omega
          clear T2
          go_wp2_with fail
          go_roundw
          case rel=>exact ⟨i+1,by omega,by simp,T3,R2⟩
          case measure=>simp [intOf];omega
     · obtain rfl:i=D.length:=by omega
       have hcell:=HR.out.cell
       have hfz:=HR.out.frozen
       have hi1:¬ ((D.length:Int)<(D.length:Int)):=by omega
       have T9:=lh (T.out.res (u':=.slice (some ⟨gv,0,none⟩) D.length vc) HR.out (by omega) HM.out.base (by decide))
       have R9:=lh (HR.out.set (.slice (some ⟨gv,0,none⟩) D.length vc))
       clear T HR
       go_wp2_with fail
       refine leaves_marks (fun rs' w'=>F2 B W0.heap.size W0 kvs a.size (w.heap.size+1) F D (.slice (some ⟨gv,0,none⟩) D.length vc) (kidsK F D D.length 0) rs' w'∧Boxed w' w.heap.size 39 (.slice (some ⟨gv,0,none⟩) D.length vc)) ?_ rs _ ⟨T9.out,R9.out⟩ ?_
       · rintro r rs' w' ⟨h1,h2⟩
         have h0:=(h1.marks r (by simp)).1
         obtain ⟨h3,h4⟩:=h1.unmark HBN
         exact ⟨h3,h4,h2.kept (grownBy_putObj' w' r (.deferred none)) (fun e=>by have e:=Option.some.inj e;omega)⟩
       · rintro w' ⟨h1,h2⟩
         have hc:=h2.cell
         refine ⟨.agg #[.slice (some ⟨gv,0,none⟩) D.length vc],by simp [results,Tryz.f74,go_sem,hc],_,_,_,rfl,?_,?_⟩
         · intro wX hX
           have h3:=h1.tree HBN hX
           rw [show D.map (placed (gF F))=flat 0 a by
            rw [HDr.out]
            exact raw_flat (gF F) 0 0 a fun i x hx=>by
             rw [← HDr.out] at hx
             have:=HF.out i x hx
             simp only [gF,Int.toNat_natCast,this]
             omega] at h3
           exact h3
         · have h3:Below B w W0:=by rw [← hW0];exact (Below.refl _ _).alloc HM.out.base _
           exact h3.trans h1.below
   | cons bx st =>
    obtain ⟨b,x⟩:=bx
    obtain ⟨k,p,t,n,ks⟩:=x
    obtain ⟨hq,hpq,hD,hraw2,hfresh⟩:=raw_first hraw
    have hts:(tops ((b,Ast.mk k p t n ks)::st)).reverse=(tops st).reverse++[((b+sizeL ks:Nat):Int)]:=by
     simp only [tops,Ast.size,List.reverse_cons]
     congr 2
     omega
    rw [hts] at S
    obtain ⟨gq,cap,rfl,hcell,S2⟩:=S.top
    have hlen:(tops st).reverse.length≤a.size:=by
     have h1:=congrArg List.length hraw2
     simp only [raw_length,List.length_append,rawS_append] at h1
     have h2:=rawS_long st
     rw [List.length_reverse,tops_length]
     omega
    generalize hm:(tops st).reverse.length=m at *
    generalize hqq:b+sizeL ks=q at *
    have hcap:(m:Int)≤(cap:Int):=by
     have h1:=S.pile
     rcases h1.2 with ⟨h2,_⟩|⟨g,c,cur,h2,_,_,h3,_⟩
     · simp at h2
     · simp only [Value.slice.injEq] at h2
       simp only [List.length_append,hm] at h3
       omega
    have bx0:=S.box.cell
    have bxz:=S.box.frozen
    have bp1:=S2.placeAt q hq
    have S3:=S2.place q hq (D.length:Int)
    have mc:∀(W:World),Below W0.heap.size W0 W→∀i u,(nodeC ⟨k,(p:Int),t,n,roots b ks⟩ (kvs.getD q default))[i]?=some u→W.cell? ⟨gm,q*5+i,none⟩=some u:=fun W hb i u hi=>made_cell HM0.out (by rw [post_length]) hb hpq hi
    obtain ⟨vg,vc,hvn⟩:∃vg vc,u6=.slice vg D.length vc:=by
     rcases S.nodes.2 with ⟨h1,h2⟩|⟨g,c,cur,h1,_⟩
     · exact ⟨_,_,by rw [h1,h2]⟩
     · exact ⟨_,_,h1⟩
    subst hvn
    have m0:wr.cell? ⟨gm,q*5,none⟩=some (.int .u8 k):=by simpa using mc _ S.below 0 _ rfl
    have m1:wr.cell? ⟨gm,q*5+1,none⟩=some (.int .i64 (p:Int)):=mc _ S.below 1 _ rfl
    have m2:wr.cell? ⟨gm,q*5+2,none⟩=some (.string t):=mc _ S.below 2 _ rfl
    have m3:wr.cell? ⟨gm,q*5+3,none⟩=some (.int .i64 n):=mc _ S.below 3 _ rfl
    have m4:wr.cell? ⟨gm,q*5+4,none⟩=some (kvs.getD q default):=mc _ S.below 4 _ rfl
    have hgm:=(HM.out.own.lt gm rfl).2
    have hg1:¬ gm=w.heap.size+1:=by omega
    have hg2:¬ gm=w.heap.size+1+1+1+1:=by omega
    have hg3:¬ w.heap.size+1=gm:=by omega
    have hg4:¬ w.heap.size+1+1+1+1=gm:=by omega
    have hk1:own1 B W0 (kvs.getD q default) (roots b ks):=by
     have h1:=HM0.out.kids q (by rw [post_length];exact hq)
     rwa [show (post 0 a).getD q default=⟨k,(p:Int),t,n,roots b ks⟩ by simp [List.getD,hpq]] at h1
    obtain ⟨kp,kl,kc,hkv⟩:=hk1.slice
    rw [hkv] at hk1 m4 mc
    have HK1:=lh hk1
    have HKV:=lh hkv
    have MC:=lh mc
    clear hk1 hkv
    have SA:=lh (S3.alloc (.cells #[.int .u8 k,.int .i64 (p:Int),.string t,.int .i64 n,.slice kp kl kc] 54))
    have hnew:Hid (((((wr.setCell ⟨w.heap.size+1+1+1+1,0,none⟩ (.slice (some ⟨gq,0,none⟩) m cap)).setCell ⟨w.heap.size+1,q,none⟩ (.int .i64 (D.length:Int))).alloc (.cells #[.int .u8 k,.int .i64 (p:Int),.string t,.int .i64 n,.slice kp kl kc] 54)).heap[wr.heap.size]?)=some (.cells #[.int .u8 k,.int .i64 (p:Int),.string t,.int .i64 n,.slice kp kl kc] 54 (0,0))):=lh (by
     have h1:=heap_alloc_new ((wr.setCell ⟨w.heap.size+1+1+1+1,0,none⟩ (.slice (some ⟨gq,0,none⟩) m cap)).setCell ⟨w.heap.size+1,q,none⟩ (.int .i64 (D.length:Int))) (.cells #[.int .u8 k,.int .i64 (p:Int),.string t,.int .i64 n,.slice kp kl kc] 54)
     simpa [World.setCell] using h1)
    have hi0:(0:Int)≤(q:Int):=by omega
    have hi1:(q:Int)<(a.size:Int):=by omega
    have hi2:(m:Int)<(m:Int)+1:=by omega
    have HRW:=lh hraw2
    have HF:=lh hF
    have HFR:=lh hfresh
    have HPQ:=lh hpq
    clear S S2 S3 hraw hraw2 hF hfresh mc hpq
    go_wp2_with (at_builtin;refine wpList_append_lies _ rfl (.tmp 42) (.tmp 47) 37 rfl W0.heap.size 54 i5 _ 5 64 Tryz.underlying37 I5.out.1 I5.out.2.1 I5.out.2.2.1 I5.out.2.2.2 rfl (by decide) (.slice vg D.length vc) D.length (rowD kvs D) rfl SA.out.nodes ⟨wr.heap.size,0,none⟩ 1 1 [.int .u8 k,.int .i64 (p:Int),.string t,.int .i64 n,.slice kp kl kc] rfl rfl (World.news_of_block (cs:=#[.int .u8 k,.int .i64 (p:Int),.string t,.int .i64 n,.slice kp kl kc]) (t := 54) (fr:=(0,0)) hnew.out) (by simp [Value.oneCell']) (by decide) (by unfold maxLen;omega) (by omega) SA.out.size _ rfl ?_;intro g5 cap5 w5 hown5 hgrow5 hat5 hlt5;have S5:=lh (SA.out.node (x:=(q,⟨k,(p:Int),t,n,roots b ks⟩)) hgrow5 (by rw [show kvs.getD (q,(⟨k,(p:Int),t,n,roots b ks⟩:Nd)).1 default=.slice kp kl kc from HKV.out];exact hown5));have m45:=MC.out _ S5.out.below 4 _ rfl)
    (with_reducible refine (back_at kp kl kc _).mono ?_)
    rintro e w6 ⟨rfl,rfl⟩
    have S6:=lh (S5.out.alloc (.cells #[.slice kp kl kc] 32))
    have hrs:∀r∈rs,r<(w5.alloc (.cells #[.slice kp kl kc] 32)).heap.size:=fun r hr=>(Array.getElem?_eq_some_iff.1 (S6.out.marks r hr).2).1
    have hkl:(roots b ks).length≤a.size:=by
     have h1:=congrArg List.length HRW.out
     simp only [raw_length,List.length_append,rawS_append,rawS_pairs,rawL_length] at h1
     have h2:=length_le_sizeL ks
     rw [roots_length]
     omega
    have hin:IntsAt W0.heap.size (w5.alloc (.cells #[.slice kp kl kc] 32)) (.slice kp kl kc) (roots b ks):=IntsAt.below S6.out.below (ints_of_own1 HK1.out (fun g hg=>(HK1.out.lt g hg).2))
    go_wp2_with fail
    refine wpIn_wide.1 (wpIn_rangeFunc_ownG (F:=Fence.wide) (n:=3) rfl (by omega) (gf := 207) (lb:=#[.pointer (some ⟨w5.heap.size,0,none⟩)]) rfl trivial (enters_of Tryz.func207 (by kernel_rfl) rfl)
     (back_stops Fence.wide 2 trivial rfl (by omega) w5.heap.size W0.heap.size (.slice kp kl kc) (roots b ks) (by omega) _ (by simp) S6.out.size (Boxed.new w5 32 (.slice kp kl kc)).cell hin) (fun h1 h2=>h1.trans h2) (KeepsAt.putObj S6.out.size (by simp)) (Below.refl _ _) (fun _=>rfl)
     (fun (pre:List (Int × Int)) W=>∃pv,F1 W0.heap.size W0 kvs a.size (w.heap.size+1) (w.heap.size+1+1+1+1) (fun j=>if j=q then (D.length:Int) else F j) (D++[(q,⟨k,(p:Int),t,n,roots b ks⟩)]) (.slice (some ⟨g5,0,none⟩) (D.length+1) cap5) pv ((tops st).reverse++pre.map (·.2)) rs W∧pv.ownBlock≠some w5.heap.size∧w5.heap.size<W.heap.size) (fun _ _ _=>False) (F1.own_from hrs S6.out.size _) (fun _ _ _ _ _ hs _ _=>hs) ⟨_,by simpa using S6.out,fun e=>by have:=(S5.out.pile.lt _ e).2;omega,by simp⟩
     (fun x=>{ tmps:=(.slice (some ⟨gm,0,none⟩) a.size cm::.int .i64 ((a.size:Int)-1)::undef::undef::.pointer (some ⟨w.heap.size,0,none⟩)::.slice (some ⟨w.heap.size+1,0,none⟩) a.size a.size::.slice (some ⟨g5,0,none⟩) (D.length+1) cap5::.pointer (some ⟨w.heap.size+1+1+1+1,0,none⟩)::.int .i64 (q:Int)::undef::.int .i64 x.2::undef::undef::undef::undef::.slice (some ⟨gm,0,none⟩) a.size cm::.int .i64 (a.size:Int)::.slice (some ⟨w.heap.size+1,0,none⟩) a.size a.size::.slice (some ⟨gm,0,none⟩) a.size cm::.int .i64 (a.size:Int)::.slice (some ⟨w.heap.size+1+1,0,none⟩) 0 a.size::.int .i64 ((a.size:Int)-1)::.slice (some ⟨w.heap.size+1+1+1,0,none⟩) 1 1::.slice (some ⟨gq,0,none⟩) (m+1) cap::.int .i64 ((m:Int)+1)::.bool true::.slice (some ⟨gq,0,none⟩) (m+1) cap::.slice (some ⟨gq,0,none⟩) (m+1) cap::.int .i64 ((m:Int)+1)::.int .i64 (m:Int)::.pointer (some ⟨gq,m,none⟩)::.int .i64 (q:Int)::.slice (some ⟨gq,0,none⟩) (m+1) cap::.slice (some ⟨gq,0,none⟩) (m+1) cap::.int .i64 ((m:Int)+1)::.int .i64 (m:Int)::.slice (some ⟨gq,0,none⟩) m cap::.slice (some ⟨w.heap.size+1,0,none⟩) a.size a.size::.int .i64 (q:Int)::.slice vg D.length vc::.int .i64 (D.length:Int)::.pointer (some ⟨w.heap.size+1,q,none⟩)::.slice vg D.length vc::.slice (some ⟨gm,0,none⟩) a.size cm::.int .i64 (q:Int)::.pointer (some ⟨gm,q*5,none⟩)::.agg #[.int .u8 k,.int .i64 (p:Int),.string t,.int .i64 n,.slice kp kl kc]::.slice (some ⟨wr.heap.size,0,none⟩) 1 1::.slice (some ⟨g5,0,none⟩) (D.length+1) cap5::.slice (some ⟨gm,0,none⟩) a.size cm::.int .i64 (q:Int)::.pointer (some ⟨gm,q*5,none⟩)::.pointer (some ⟨gm,q*5+4,none⟩)::.slice kp kl kc::.func (.func 207) #[] #[.pointer (some ⟨w5.heap.size,0,none⟩)]::.int .i64 x.1::.int .i64 x.2::u57::u58::u59::u60::undef::undef::undef::undef::undef::undef::undef::undef::undef::undef::undef::undef::undef::undef::undef::undef::undef::undef::undef::undef::undef::undef::undef::undef::undef::undef::[]).toArray,defers:=[] }) ?assign ?body ?done ?stop)
    case assign =>
     intro l x W K hK
     gi_wp2
     exact hK
    case body =>
     rintro l pre x W ⟨pv,hS,hx1,hx2⟩ hlt
     have hts2:((tops st).reverse++pre.map (·.2)).length≤200000:=by
      rw [List.length_append,List.length_map,hm]
      omega
     obtain ⟨pp,pl,pc,rfl⟩:∃pp pl pc,pv=.slice pp pl pc:=by
      rcases hS.pile.2 with ⟨h1,h2⟩|⟨g,c,cur,h1,_⟩
      · exact ⟨_,_,_,h1⟩
      · exact ⟨_,_,_,h1⟩
     have hc:=hS.box.cell
     have hz:=hS.box.frozen
     have hn1:(.slice pp pl pc:Value).ownBlock≠some (w.heap.size+1+1+1+1):=hS.pv_bq
     gi_wp2_with (gi_at_builtin;refine wpListIn_append_lies _ rfl _ _ 32 rfl W0.heap.size 3 i1 (.int .i64 0) 1 8 Tryz.underlying32 I1.out.1 I1.out.2.1 I1.out.2.2.1 I1.out.2.2.2 rfl (by decide) (.slice pp pl pc) _ _ rfl (hS.pile.alloc _) ⟨W.heap.size,0,none⟩ 1 1 [.int .i64 x.2] rfl rfl (cell_one_new _ _ _) (by simp [Value.oneCell']) (by decide) (by unfold maxLen;omega) (by omega) (by have:=hS.size;simp;omega) _ rfl ?_;intro g' cap' w1 hown' hgrow hat hlt';have hb1:Boxed w1 (w.heap.size+1+1+1+1) 32 (.slice pp pl pc):=(hS.box.alloc _).kept hgrow (fun e=>hn1 e.symm);have hc1:=hb1.cell;have hf1:=hb1.frozen)
     have hk1:=(hS.box.appended (by decide) hS.pile hS.size hS.bq0 hown' hgrow).2.2.2.1
     have hk2:=hS.pushes (pv':=.slice (some ⟨g',0,none⟩) (((tops st).reverse++pre.map (·.2)).length+1) cap') hgrow hx1 (by have:=S5.out.box.lt;omega)
     have hat2:∀g,(Value.slice (some ⟨g',0,none⟩) (((tops st).reverse++pre.map (·.2)).length+1) cap').ownBlock=some g→(Value.slice pp pl pc).ownBlock=some g∨W.heap.size≤g:=fun g hg=>by
      obtain rfl:g'=g:=by simpa [Value.ownBlock] using hg
      rcases hat with h1|h1
      · exact Or.inl h1
      · exact Or.inr (by rw [h1];simp)
     have hS9:=hS.push (t:=x.2) hgrow hown' hat2
     have hx9:(Value.slice (some ⟨g',0,none⟩) (((tops st).reverse++pre.map (·.2)).length+1) cap').ownBlock≠some w5.heap.size:=fun e=>by
      rcases hat2 _ e with h1|h1
      · exact hx1 h1
      · omega
     have elen:((tops st).reverse++pre.map (·.2)).length=m+pre.length:=by rw [List.length_append,List.length_map,hm]
     have hz9:=hk2.size
     rw [elen] at hk1 hk2 hS9 hx9 hz9
     refine ⟨hk1.from _,hk2,_,?_,hx9,by omega⟩
     rw [List.map_append,← List.append_assoc]
     exact hS9
    case done =>
     rintro Dm ys W hDm rfl ⟨pv,hS,_,_⟩ hK
     rw [back_all] at hS
     have hS2:=hS.mark (r:=Dm) (Nat.le_trans S6.out.size hDm) hK (fun hr=>by have:=hrs _ hr;omega)
     have hts3:(tops st).reverse++(roots b ks).reverse=(tops (pairsOf b ks++st)).reverse:=by rw [tops_append,tops_pairs,List.reverse_append]
     rw [hts3] at hS2
     have HS2:=lh hS2
     clear hS hS2 hK
     go_wp2_with fail
     refine ⟨⟨_,_,pairsOf b ks++st,pv,Dm::rs,_,_,_,_,_,_,_,_,_,_,_,_,_,_,_,_,_,_,_,_,_,_,_,_,_,_,_,_,_,_,_,_,_,_,_,_,_,_,_,_,_,⟨HS2.out,HRW.out,?_⟩,rfl⟩,?_⟩
     · intro i y hy
       by_cases hi:i<D.length
       · rw [List.getElem?_append_left hi] at hy
         simp only [if_neg (HFR.out i y hy)]
         exact HF.out i y hy
       · rw [List.getElem?_append_right (by omega)] at hy
         have hi0:i-D.length=0:=by
          have:=(List.getElem?_eq_some_iff.1 hy).1
          simp at this
          omega
         rw [hi0] at hy
         simp only [List.getElem?_cons_zero,Option.some.injEq] at hy
         subst hy
         simp only [if_pos]
         omega
     · simp [lenV]
       omega
    case stop =>
     rintro Dm c pre W _ _ h _
     exact h.elim
end
end
section
open Go.RowKit
theorem rec_idle (p q r:Addr)(w:World) :
 CallsD Tryz.prog 71 #[.pointer (some p),.pointer (some q),.pointer (some r)] .returning w fun e u' w'=>e=.returned (.tuple #[])∧u'=.returning∧w'=w:=by
 refine callsD_of_wpS Tryz.func71 rfl fun c₀ cs hu=>?_
 apply wpS_seq
 apply wpS_region
 simp [wpOpsS,go_sem,recoverD,hu,Tryz.ntmps71,Exit.thenS]
 refine wpS_of_wp ?_
 simp only [Array.replicate_succ,Array.replicate_zero,List.push_toArray,List.append_toArray,List.nil_append,List.cons_append,List.setIfInBounds_toArray,List.set_cons_zero,List.set_cons_succ]
 go_wp2_with fail
 cases c₀
 simp_all [bodyPostS,results,Tryz.results71]
theorem is_wrong (v:Value)(w:World):(Instr.typeAssert (.iface 121 v) 20 121 true).run Tryz.prog w=.ok (.tuple #[v,.bool true]) w:=by
 simp [Instr.typeAssert,Sem.run_bind,run_underlying Tryz.underlying121,Result.andThen]
theorem rec_wrong (B:Nat)(bs bt be:Nat)(sp:Option Addr)(len c:Nat)(xs:List Int)(k:Nat)(code:Int)(vt ve:Value)(w:World)(hs:w.cell? ⟨bs,0,none⟩=some (.slice sp len c))(hsrc:Src w sp len c xs)(hlen:len≤65536)(hk:k≤len)(hc:code≠0)
 (ht:Boxed w bt 39 vt) (he:Boxed w be 25 ve) (hte:bt≠be) (hB1:B≤bt) (hB2:B≤be) :
 CallsD Tryz.prog 71 #[.pointer (some ⟨bs,0,none⟩),.pointer (some ⟨bt,0,none⟩),.pointer (some ⟨be,0,none⟩)] (.panicking [{ v:=.iface 121 (.agg #[.int .i64 (k:Int),.int .i64 code]),recovered:=false }]) w fun e u' w' =>
  e=.returned (.tuple #[])∧u'=.panicking [{ v:=.iface 121 (.agg #[.int .i64 (k:Int),.int .i64 code]),recovered:=true }]∧∃C l cc,Boxed w' bt 39 (.slice none 0 0)∧Boxed w' be 25 (.iface 109 (.pointer (some ⟨C,0,none⟩)))∧ErrAt w' C (k:Int) l cc code∧Below B w w':=by
 have hta:=is_wrong
 have hs2:(w.alloc (.cells #[.int .i64 (k:Int),.int .i64 code] 121)).cell? ⟨bs,0,none⟩=some (.slice sp len c):=(World.cell?_alloc_lt _ _ ⟨bs,0,none⟩ (cell_lt hs)).trans hs
 have htc:=ht.cell
 have htz:=ht.frozen
 have hec:=he.cell
 have hez:=he.frozen
 have htl:=ht.lt
 have hel:=he.lt
 have hBw:B≤w.heap.size:=by omega
 have NW:=lh (new_src sp len c k xs (k:Int) code (w.alloc (.cells #[.int .i64 (k:Int),.int .i64 code] 121)) hc (by omega) (by omega) (hsrc.below ((Below.refl _ _).alloc (Nat.le_refl _) _)))
 have HT:=lh ht
 have HE:=lh he
 clear ht he hsrc
 refine callsD_of_wpS Tryz.func71 rfl fun c₀ cs hu=>?_
 apply wpS_seq
 apply wpS_region
 simp [wpOpsS,go_sem,recoverD,hu,Tryz.ntmps71,Exit.thenS]
 refine wpS_of_wp ?_
 simp only [Array.replicate_succ,Array.replicate_zero,List.push_toArray,List.append_toArray,List.nil_append,List.cons_append,List.setIfInBounds_toArray,List.set_cons_zero,List.set_cons_succ]
 go_wp2_with fail
 (with_reducible refine NW.out.mono ?_)
 rintro e w' ⟨rfl,hN⟩
 have hb:=hN.below
 have hal:Below w.heap.size w (w.alloc (.cells #[.int .i64 (k:Int),.int .i64 code] 121)):=(Below.refl _ _).alloc (Nat.le_refl _) _
 have hbb:Below w.heap.size w w':=hal.trans (hb.mono hal.size)
 have bt1:Boxed w' bt 39 vt:=(hbb.block bt htl).trans HT.out
 have be1:Boxed w' be 25 ve:=(hbb.block be hel).trans HE.out
 have d1:=bt1.cell
 have d2:=bt1.frozen
 have d3:=be1.cell
 have d4:=be1.frozen
 have hne1:¬ bt=be:=hte
 have hne2:¬ be=bt:=fun e=>hte e.symm
 have HN:=lh hN
 have bt2:=bt1.set (.slice none 0 0)
 have be2:=(be1.kept (grownBy_set w' ⟨bt,0,none⟩ (.slice none 0 0)) (fun e=>hne2 (Option.some.inj e))).set (.iface 109 (.pointer (some ⟨(w.alloc (.cells #[.int .i64 (k:Int),.int .i64 code] 121)).heap.size+1,0,none⟩)))
 have bt3:=bt2.kept (grownBy_set (w'.setCell ⟨bt,0,none⟩ (.slice none 0 0)) ⟨be,0,none⟩ (.iface 109 (.pointer (some ⟨(w.alloc (.cells #[.int .i64 (k:Int),.int .i64 code] 121)).heap.size+1,0,none⟩)))) (fun e=>hne1 (Option.some.inj e))
 have hEA:ErrAt ((w'.setCell ⟨bt,0,none⟩ (.slice none 0 0)).setCell ⟨be,0,none⟩ (.iface 109 (.pointer (some ⟨(w.alloc (.cells #[.int .i64 (k:Int),.int .i64 code] 121)).heap.size+1,0,none⟩)))) ((w.alloc (.cells #[.int .i64 (k:Int),.int .i64 code] 121)).heap.size+1) (k:Int) (lineF xs k) ((k:Int)-lastF xs k) code:=by
  have h1:=hN.at_
  have hq:∀i,((w'.setCell ⟨bt,0,none⟩ (.slice none 0 0)).setCell ⟨be,0,none⟩ (.iface 109 (.pointer (some ⟨(w.alloc (.cells #[.int .i64 (k:Int),.int .i64 code] 121)).heap.size+1,0,none⟩)))).cell? ⟨(w.alloc (.cells #[.int .i64 (k:Int),.int .i64 code] 121)).heap.size+1,i,none⟩=w'.cell? ⟨(w.alloc (.cells #[.int .i64 (k:Int),.int .i64 code] 121)).heap.size+1,i,none⟩:=fun i=>by
   rw [World.cell?_setCell_other _ _ _ _ (by first|(simp;done)|(simp;omega)),World.cell?_setCell_other _ _ _ _ (by first|(simp;done)|(simp;omega))]
  exact ⟨by have:=h1.lt;simpa [World.setCell] using this,by rw [hq];exact h1.c0,by rw [hq];exact h1.c1,by rw [hq];exact h1.c2,by rw [hq];exact h1.c3⟩
 have HEA:=lh hEA
 have BT3:=lh bt3
 have BE2:=lh be2
 have hfb:Below B w ((w'.setCell ⟨bt,0,none⟩ (.slice none 0 0)).setCell ⟨be,0,none⟩ (.iface 109 (.pointer (some ⟨(w.alloc (.cells #[.int .i64 (k:Int),.int .i64 code] 121)).heap.size+1,0,none⟩)))):=((hbb.mono hBw).setCell (p:=⟨bt,0,none⟩) hB1 _).setCell (p:=⟨be,0,none⟩) hB2 _
 clear hN bt1 be1 bt2 be2 bt3 hEA NW
 go_wp2_with fail
 have hsz:(w.alloc (.cells #[.int .i64 (k:Int),.int .i64 code] 121)).heap.size=w.heap.size+1:=by simp
 have h1:=BT3.out
 have h2:=BE2.out
 have h3:=HEA.out
 rw [hsz] at h1 h2 h3 hfb
 exact ⟨rfl,_,rfl,.tuple #[],by simp [results,Tryz.results71,Tryz.f71,go_sem],rfl,rfl,h1,_,h2,⟨_,_,h3⟩,hfb⟩
end
section
open Go.RowKit
def ParsePost (xs:List Int)(w:World)(e:Ending)(w':World):Prop:=Below w.heap.size w w'∧match parseS xs with
 | .error (i,er)=>∃C l cc,e=.returned (.tuple #[.agg #[.slice none 0 0],.iface 109 (.pointer (some ⟨C,0,none⟩))])∧ErrAt w' C (i:Int) l cc er
 | .ok ns=>∃p len cap,e=.returned (.tuple #[.agg #[.slice p len cap],.nilIface])∧Tr.TV w' p len cap ns
abbrev W3 (w:World)(p:Option Addr)(len c:Nat):World:=((w.alloc (.cells #[.slice p len c] 22)).alloc (.cells #[.slice none 0 0] 39)).alloc (.cells #[.nilIface] 25)
theorem W3_below (w:World)(p:Option Addr)(len c:Nat):Below w.heap.size w (W3 w p len c):=(((Below.refl _ _).alloc (Nat.le_refl _) _).alloc (by simp) _).alloc (by simp;omega) _
theorem W3_size (w:World)(p:Option Addr)(len c:Nat):(W3 w p len c).heap.size=w.heap.size+1+1+1:=by simp [W3]
theorem W3_boxes (w:World)(p:Option Addr)(len c:Nat):Boxed (W3 w p len c) w.heap.size 22 (.slice p len c)∧Boxed (W3 w p len c) (w.heap.size+1) 39 (.slice none 0 0)∧Boxed (W3 w p len c) (w.heap.size+1+1) 25 .nilIface:=by
 refine ⟨((Boxed.new w _ _).alloc _).alloc _,?_,?_⟩
 · have h:=(Boxed.new (w.alloc (.cells #[.slice p len c] 22)) 39 (.slice none 0 0)).alloc (.cells #[.nilIface] 25)
   rw [World.size_alloc] at h
   exact h
 · have h:=Boxed.new ((w.alloc (.cells #[.slice p len c] 22)).alloc (.cells #[.slice none 0 0] 39)) 25 .nilIface
   simp only [World.size_alloc] at h
   exact h
theorem ErrAt.ne {W:World}{C q T:Nat}{u:Value}{x l c n:Int}(h:ErrAt W C x l c n)(hb:Boxed W q T u):C≠q:=fun e=>by
 have h1:=h.c1
 have h2:W.heap[q]?=some (.cells #[u] T (0,0)):=hb
 rw [e,cell_of_row _ _ _ _ _ _ h2] at h1
 simp at h1
theorem ErrAt.put {W:World}{C q:Nat}{u:Value}{x l c n:Int}(h:ErrAt W C x l c n)(hne:C≠q):ErrAt (W.setCell ⟨q,0,none⟩ u) C x l c n:=by
 have hq:∀i,(W.setCell ⟨q,0,none⟩ u).cell? ⟨C,i,none⟩=W.cell? ⟨C,i,none⟩:=fun i=>World.cell?_of_block (w:=W) (Below.heap_setCell _ _ _ _ hne)
 exact ⟨by have:=h.lt;simpa [World.setCell] using this,by rw [hq];exact h.c0,by rw [hq];exact h.c1,by rw [hq];exact h.c2,by rw [hq];exact h.c3⟩
theorem parse_lex (w:World)(p:Option Addr)(len c:Nat)(xs:List Int)(h:Src w p len c xs)(hb:len≤65536)(i:Nat)(er:Int)(hx:lexS xs=.error (i,er)) :
 Calls Tryz.prog 31 #[.slice p len c] w (ParsePost xs w):=by
 have LN:=lh (lex_no (h.below (W3_below w p len c)) hb hx)
 have HX:Hid (parseS xs=.error (i,er)):=lh (by simp only [parseS,hx])
 obtain ⟨b1,b2,b3⟩:=W3_boxes w p len c
 have B1:=lh b1
 have B2:=lh b2
 have B3:=lh b3
 have hsz:=W3_size w p len c
 have HSZ:=lh hsz
 clear h hx b1 b2 b3 hsz
 go_enter_defers Tryz.func31,Tryz.ntmps31
 go_wp2_with fail
 (with_reducible refine LN.out.mono ?_)
 rintro e w4 ⟨C,l,cc,rfl,hE,hb4⟩
 have c1:Boxed w4 w.heap.size 22 (.slice p len c):=(hb4.block _ B1.out.lt).trans B1.out
 have c2:Boxed w4 (w.heap.size+1) 39 (.slice none 0 0):=(hb4.block _ B2.out.lt).trans B2.out
 have c3:Boxed w4 (w.heap.size+1+1) 25 .nilIface:=(hb4.block _ B3.out.lt).trans B3.out
 have d2:=c2.cell
 have z2:=c2.frozen
 have d3:=c3.cell
 have z3:=c3.frozen
 have hn2:=hE.ne c2
 have hn3:=hE.ne c3
 have hF:=((hE.put (u:=.iface 109 (.pointer (some ⟨C,0,none⟩))) hn3).put (u:=.slice none 0 0) hn2).put (u:=.iface 109 (.pointer (some ⟨C,0,none⟩))) hn3
 have HF:=lh hF
 have hfb:Below w.heap.size w (((w4.setCell ⟨w.heap.size+1+1,0,none⟩ (.iface 109 (.pointer (some ⟨C,0,none⟩)))).setCell ⟨w.heap.size+1,0,none⟩ (.slice none 0 0)).setCell ⟨w.heap.size+1+1,0,none⟩ (.iface 109 (.pointer (some ⟨C,0,none⟩)))) :=
  ((((W3_below w p len c).trans (hb4.mono (W3_below w p len c).size)).setCell (p:=⟨w.heap.size+1+1,0,none⟩) (by simp only;omega) _).setCell (p:=⟨w.heap.size+1,0,none⟩) (by simp only;omega) _).setCell (p:=⟨w.heap.size+1+1,0,none⟩) (by simp only;omega) _
 have HFB:=lh hfb
 clear hF hfb
 clear hE hb4 c1 c2 c3 LN
 go_wp2_with fail
 go_region
 all_goals go_wp2_with fail
 all_goals simp [bodyPostD,Leaves,results,Tryz.results31,go_sem,d2,d3]
 all_goals
  refine ⟨HFB.out.drew,?_⟩
  rw [HX.out]
  exact ⟨C,l,cc,rfl,⟨HF.out.lt,HF.out.c0,HF.out.c1,HF.out.c2,HF.out.c3⟩⟩
theorem PS.begin (w4 w5:World)(g cap:Nat)(ts:List Tok)(rb b:Nat)(xs:List Int)(hT:TR w4 g cap ts)(hg5:w5.heap[g]?=w4.heap[g]?)(hs5:w5.heap.size=w4.heap.size)(hrb:rb=w4.heap.size)(hbb:b=rb+1)(hx:lexS xs=.ok ts)(hb:xs.length≤65536) :
 PS { W:=w5.alloc (.map ES13 13),b:=b,g:=g,cap:=cap,toks:=ts,mp:=.map (some rb) } (.slice none 0 0) [] [] 64 (ts.map ptOf) ((w5.alloc (.map ES13 13)).alloc (.cells #[.slice (some ⟨g,0,none⟩) ts.length cap,.int .i64 0,.int .i64 0,.map (some rb),.slice none 0 0] 125))∧MapAt { W:=w5.alloc (.map ES13 13),b:=b,g:=g,cap:=cap,toks:=ts,mp:=.map (some rb) }:=by
 obtain ⟨vs,hts,hvs⟩:=lexS_shape hx
 have hlen:=lexN_len _ _ _ _ hx
 have hbs:b=(w5.alloc (.map ES13 13)).heap.size:=by simp;omega
 have hgl:=hT.lt
 refine ⟨{ below:=?_,lt:=?_,gl:=by simp only;omega,cap:=hT.le,tok:=?_,nx:=?_,r64:=Nat.le_refl _,ended:=?_,few:=?_,room:=?_,klen:=rfl,own:=World.ownsRow_nil _ _ _ _,kids:=fun j hj=>by simp at hj,apart:=fun x hx=>by simp at hx,pair:=List.Pairwise.nil },⟨rb,rfl,by simp only;omega,?_⟩⟩
 · simp only
   rw [hbs]
   exact (Below.refl _ _).alloc (Nat.le_refl _) _
 · simp only
   rw [hbs]
   simp
 · intro j i u hj hi
   have h5:i<5:=by have:=(List.getElem?_eq_some_iff.1 hi).1;simpa [tokC5] using this
   have h1:ts[j]?=some (ts.getD j (Tok.endAt 0)):=by simp only at hj;simp [List.getD,hj]
   have h2:=hT.cell (j*5+i) u (by rw [tok_cell ts j i _ h1 h5];exact hi)
   simp only
   rw [World.cell?_of_block (w:=w4) (a:=⟨g,j*5+i,none⟩) ?_]
   · exact h2
   · rw [Below.heap_alloc _ _ _ (by simp;omega),Below.heap_alloc _ _ _ (by simp only;omega)]
     exact hg5
 · refine ⟨0,rfl,?_⟩
   simp only
   rw [hbs,World.alloc_heap_new]
   rfl
 · rw [hts,List.map_append]
   exact ended_snoc _ _ (end_pt _)
 · simp only;omega
 · simp only [List.length_nil,List.length_map];omega
 · simp only
   rw [hrb,← hs5]
   exact World.alloc_heap_new w5 _
theorem parse_run (w:World)(p:Option Addr)(len c:Nat)(xs:List Int)(h:Src w p len c xs)(hb:len≤65536)(ts:List Tok)(hx:lexS xs=.ok ts) :
 Calls Tryz.prog 31 #[.slice p len c] w (ParsePost xs w):=by
 have hmf:∀(fn:Fn) (first cap:Array Value) (w:World),(Instr.makeFunc fn first cap).run Tryz.prog w=.ok (.func fn first cap) w:=fun _ _ _ _=>rfl
 have LK:=lh (lex_ok (h.below (W3_below w p len c)) hb hx)
 have HXS:=lh hx
 have HS:=lh h
 have hlx:Hid (xs.length=len):=lh h.1
 obtain ⟨b1,b2,b3⟩:=W3_boxes w p len c
 have B1:=lh b1
 have B2:=lh b2
 have B3:=lh b3
 have HSZ:=lh (W3_size w p len c)
 clear h hx b1 b2 b3
 go_enter_defers Tryz.func31,Tryz.ntmps31
 go_wp2_with fail
 (with_reducible refine LK.out.mono ?_)
 rintro e w4 ⟨g,cap,rfl,hT,hg,hb4⟩
 have c1:Boxed w4 w.heap.size 22 (.slice p len c):=(hb4.block _ B1.out.lt).trans B1.out
 have c2:Boxed w4 (w.heap.size+1) 39 (.slice none 0 0):=(hb4.block _ B2.out.lt).trans B2.out
 have c3:Boxed w4 (w.heap.size+1+1) 25 .nilIface:=(hb4.block _ B3.out.lt).trans B3.out
 have d3:=c3.cell
 have z3:=c3.frozen
 have HB4:=lh hb4
 have HT:=lh hT
 have HG:=lh hg
 have hn1:¬ w.heap.size=w.heap.size+1+1:=by omega
 have C1:=lh (c1.kept (grownBy_set w4 ⟨w.heap.size+1+1,0,none⟩ .nilIface) (fun e=>by have e:=Option.some.inj e;simp only at e;omega))
 have C2:=lh (c2.kept (grownBy_set w4 ⟨w.heap.size+1+1,0,none⟩ .nilIface) (fun e=>by have e:=Option.some.inj e;simp only at e;omega))
 have C3:=lh (c3.set .nilIface)
 have ST:=lh (statements_at (w4.setCell ⟨w.heap.size+1+1,0,none⟩ .nilIface))
 have hP:=PS.begin w4 (w4.setCell ⟨w.heap.size+1+1,0,none⟩ .nilIface) g cap ts w4.heap.size (w4.heap.size+1) xs hT (Below.heap_setCell _ _ _ _ (by have:=HSZ.out;simp only;omega)) (by simp [World.setCell]) rfl rfl HXS.out (by have:=hlx.out;omega)
 have HP:=lh hP.1
 have HM:=lh hP.2
 clear hT hg hb4 c1 c2 c3 LK hP
 go_wp2_with fail
 (with_reducible refine ST.out.mono ?_)
 rintro e w6 ⟨rfl,rfl⟩
 clear d3 z3 ST
 have hsz5:(w4.setCell ⟨w.heap.size+1+1,0,none⟩ .nilIface).heap.size=w4.heap.size:=by simp [World.setCell]
 go_wp2_with fail
 obtain ⟨E,hE⟩:∃E:Env,E={ W:=(w4.setCell ⟨w.heap.size+1+1,0,none⟩ .nilIface).alloc (.map ES13 13),b:=w4.heap.size+1,g:=g,cap:=cap,toks:=ts,mp:=.map (some w4.heap.size) }:=⟨_,rfl⟩
 rw [← hE] at HP HM
 have hEb:E.b=w4.heap.size+1:=by rw [hE]
 have hEW:E.W=(w4.setCell ⟨w.heap.size+1+1,0,none⟩ .nilIface).alloc (.map ES13 13):=by rw [hE]
 have hptl:(ts.map ptOf).length≤65537:=by have h1:=lexN_len _ _ _ _ HXS.out;have h2:=hlx.out;rw [List.length_map];omega
 have PG:=lh (program_at HP.out HM.out (by simp only [List.length_nil];omega))
 rw [hEb] at PG
 have HEB:=lh hEb
 have HEW:=lh hEW
 have hs4:w.heap.size+1+1+1≤w4.heap.size:=by have h1:=HB4.out.size;have h2:=HSZ.out;omega
 have HSB:Hid (Below w.heap.size w E.W):=lh (by
  rw [HEW.out]
  exact (((W3_below w p len c).trans (HB4.out.mono (W3_below w p len c).size)).setCell (p:=⟨w.heap.size+1+1,0,none⟩) (by simp only;omega) _).alloc (by rw [hsz5];omega) _)
 have HWS:Hid (E.W.heap.size=w4.heap.size+1):=lh (by rw [HEW.out];simp)
 have K1:=lh (show Boxed E.W w.heap.size 22 (.slice p len c) by rw [HEW.out];exact C1.out.alloc _)
 have K2:=lh (show Boxed E.W (w.heap.size+1) 39 (.slice none 0 0) by rw [HEW.out];exact C2.out.alloc _)
 have K3:=lh (show Boxed E.W (w.heap.size+1+1) 25 .nilIface by rw [HEW.out];exact C3.out.alloc _)
 clear hE hEb hEW HP HM hsz5 C1 C2 C3 HT HG HB4
 (with_reducible refine PG.out.mono ?_)
 rintro e w8 hP8
 cases hp:programP (ts.map ptOf) with
 | err q d =>
  rw [hp] at hP8
  obtain ⟨rfl,hb8⟩:=hP8
  have HR:Hid (parseS xs=.error (q,d)):=lh (by simp only [parseS,HXS.out,hp])
  obtain ⟨hd0,hq0⟩:=ce_program.er _ _ _ hp
  have hql:q≤len:=by
   rcases hq0 with rfl|⟨t,ht,rfl⟩
   · exact Nat.zero_le _
   · obtain ⟨vs,hts,hvs⟩:=lexS_shape HXS.out
     rw [hts,List.map_append,List.mem_append] at ht
     rcases ht with ht|ht
     · obtain ⟨u,hu,rfl⟩:=List.mem_map.1 ht
       have h1:=(hvs u hu).2
       have h2:=hlx.out
       show u.at'≤len
       omega
     · simp only [List.map_cons,List.map_nil,List.mem_singleton] at ht
       subst ht
       have h2:=hlx.out
       show xs.length≤len
       omega
  rw [HEB.out] at hb8
  have hb8w:Below w.heap.size w w8:=HSB.out.trans (hb8.mono (by omega))
  have k1:Boxed w8 w.heap.size 22 (.slice p len c):=(hb8.block _ (by omega)).trans K1.out
  have k2:Boxed w8 (w.heap.size+1) 39 (.slice none 0 0):=(hb8.block _ (by omega)).trans K2.out
  have k3:Boxed w8 (w.heap.size+1+1) 25 .nilIface:=(hb8.block _ (by omega)).trans K3.out
  have RW:=lh (rec_wrong w.heap.size w.heap.size (w.heap.size+1) (w.heap.size+1+1) p len c xs q d _ _ w8 k1.cell (HS.out.below hb8w) hb hql hd0 k2 k3 (by omega) (by omega) (by omega))
  have HB8:=lh hb8w
  clear hb8 hb8w k1 k2 k3 hp
  go_wp2_with fail
  refine leaves_cons (f := 71) (args:=#[.pointer (some ⟨w.heap.size,0,none⟩),.pointer (some ⟨w.heap.size+1,0,none⟩),.pointer (some ⟨w.heap.size+1+1,0,none⟩)]) (by simp) (by simp [go_sem]) ?_
  refine RW.out.mono ?_
  rintro e u' w9 ⟨rfl,rfl,C,l,cc,r2,r3,hEA,hb9⟩
  have d2:=r2.cell
  have d3:=r3.cell
  have hfin:Hid (ParsePost xs w (.returned (.tuple #[.agg #[.slice none 0 0],.iface 109 (.pointer (some ⟨C,0,none⟩))])) w9):=lh (by
   refine ⟨HB8.out.trans hb9,?_⟩
   rw [HR.out]
   exact ⟨C,l,cc,rfl,hEA⟩)
  clear r2 r3 hEA hb9
  simp [Leaves,settle,results,Tryz.results31,go_sem,d2,d3]
  exact hfin.out
 | ok a l1 =>
  rw [hp] at hP8
  obtain ⟨v',new,rfl,hps,hnw,hfr⟩:=hP8
  have HR:Hid (parseS xs=.ok (flat 0 a)):=lh (by simp only [parseS,HXS.out,hp])
  obtain ⟨_,_,_,_,_,_,c4⟩:=hps.cells
  have hmade:Made (E.b+1) w8 v' new (post 0 a):={
   base:=hps.lt
   own:=by simpa using hps.own
   klen:=by simpa using hps.klen
   kids:=fun j hj=>by simpa using hps.kids j (by simpa using hj)
   apart:=by simpa using hps.apart
   pair:=by simpa using hps.pair
   few:=by have:=hps.room;simp at this;omega }
  have FL:=flat_at (E.b+1) v' new a w8 hmade
  have hroot:rootI ([]:List Nd).length a=(a.size:Int)-1:=by simp [rootI]
  have hb8:=hps.below
  rw [HEB.out] at hb8 FL c4
  have hlt8:=hps.lt
  rw [HEB.out] at hlt8
  have hb8w:Below w.heap.size w w8:=HSB.out.trans (hb8.mono (by omega))
  have k2:Boxed w8 (w.heap.size+1) 39 (.slice none 0 0):=(hb8.block _ (by omega)).trans K2.out
  have k3:Boxed w8 (w.heap.size+1+1) 25 .nilIface:=(hb8.block _ (by omega)).trans K3.out
  have FLH:=lh FL
  have KK2:=lh k2
  have KK3:=lh k3
  have HB8:=lh hb8w
  have hr2:(.int .i64 (rootI ([]:List Nd).length a):Value)=.int .i64 ((a.size:Int)-1):=by rw [hroot]
  rw [hr2]
  clear hps hnw hfr hmade FL hroot hb8 hb8w k2 k3 hp hr2
  go_wp2_with fail
  (with_reducible refine FLH.out.mono ?_)
  rintro e w9 ⟨p9,l9,c9,rfl,hTV,hb9⟩
  have k2:Boxed w9 (w.heap.size+1) 39 (.slice none 0 0):=(hb9.block _ (by omega)).trans KK2.out
  have k3:Boxed w9 (w.heap.size+1+1) 25 .nilIface:=(hb9.block _ (by omega)).trans KK3.out
  have d2:=k2.cell
  have z2:=k2.frozen
  have d3:=k3.cell
  have z3:=k3.frozen
  have hfin:Hid (ParsePost xs w (.returned (.tuple #[.agg #[.slice p9 l9 c9],.nilIface])) ((w9.setCell ⟨w.heap.size+1,0,none⟩ (.slice p9 l9 c9)).setCell ⟨w.heap.size+1+1,0,none⟩ .nilIface)):=lh (by
   refine ⟨((HB8.out.trans (hb9.mono (by omega))).setCell (p:=⟨w.heap.size+1,0,none⟩) (by simp only;omega) _).setCell (p:=⟨w.heap.size+1+1,0,none⟩) (by simp only;omega) _,?_⟩
   rw [HR.out]
   exact ⟨p9,l9,c9,rfl,hTV _ (fun k hk=>by rw [Below.heap_setCell _ _ _ _ (by simp only;omega),Below.heap_setCell _ _ _ _ (by simp only;omega)])⟩)
  have RI:=lh (rec_idle ⟨w.heap.size,0,none⟩ ⟨w.heap.size+1,0,none⟩ ⟨w.heap.size+1+1,0,none⟩ ((w9.setCell ⟨w.heap.size+1,0,none⟩ (.slice p9 l9 c9)).setCell ⟨w.heap.size+1+1,0,none⟩ .nilIface))
  clear k2 k3 hTV hb9 FLH
  go_wp2_with fail
  refine leaves_cons (f := 71) (args:=#[.pointer (some ⟨w.heap.size,0,none⟩),.pointer (some ⟨w.heap.size+1,0,none⟩),.pointer (some ⟨w.heap.size+1+1,0,none⟩)]) (by simp) (by simp [go_sem]) ?_
  refine RI.out.mono ?_
  rintro e u' w'' ⟨rfl,rfl,rfl⟩
  simp [Leaves,settle,results,Tryz.results31,go_sem,d2,d3]
  exact hfin.out
theorem parse_at (w:World)(p:Option Addr)(len c:Nat)(xs:List Int)(h:Src w p len c xs)(hb:len≤65536):Calls Tryz.prog 31 #[.slice p len c] w (ParsePost xs w):=by
 cases hx:lexS xs with
 | error e=>exact parse_lex w p len c xs h hb e.1 e.2 hx
 | ok ts=>exact parse_run w p len c xs h hb ts hx
end
end Go.Proofs.YthdioipfdbbmmaaGreatDoor
