/- Contracts. -/
import Derived.Test.YthdioipfdbbmmaaGreatDoorHab
import Derived.Test.YthdioipfdbbmmaaGreatDoorHal
set_option linter.all false
set_option maxRecDepth 1000000
set_option maxHeartbeats 16000000
namespace Go.Proofs.YthdioipfdbbmmaaGreatDoor
namespace Rf
open Go.RowKit
theorem cellsM_set (md:List Nd)(kvs:List Value)(h:kvs.length=md.length)(j:Nat)(hj:j<md.length)(c:Nat)(hc:c<5)(u:Value)(nd':Nd)(kv':Value)(hn:nodeC nd' kv'=(nodeC (md.getD j default) (kvs.getD j default)).set c u) :
 (cellsM md kvs).set (j*5+c) u=cellsM (md.set j nd') (kvs.set j kv'):=by
 induction md generalizing kvs j with
 | nil=>simp at hj
 | cons m md ih =>
  cases kvs with
  | nil=>simp at h
  | cons k kvs =>
   cases j with
   | zero =>
    simp only [List.getD_cons_zero] at hn
    simp only [cellsM,List.set_cons_zero,Nat.zero_mul,Nat.zero_add]
    rw [List.set_append_left _ _ (by simp [nodeC];omega),hn]
   | succ j =>
    simp only [List.getD_cons_succ] at hn
    simp only [cellsM,List.set_cons_succ]
    rw [List.set_append_right _ _ (by simp [nodeC];omega),← ih kvs (by simpa using h) j (by simpa using hj) hn]
    congr 2
    simp [nodeC];omega
section
variable {E:Env}{v:Value}{kvs:List Value}{md:List Nd}{i:Nat}{d e:Int}{w:World}
structure Fq (E:Env)(B:Nat)(v:Value)(kvs:List Value)(v':Value)(kvs':List Value)(w w':World):Prop where
 size:w.heap.size≤w'.heap.size
 block:∀k,k<B→Loc E v kvs k→w'.heap[k]?=w.heap[k]?
 loc:∀k,k<B→Loc E v kvs k→Loc E v' kvs' k
theorem Fq.refl (E:Env)(B:Nat)(v:Value)(kvs:List Value)(w:World):Fq E B v kvs v kvs w w:=⟨Nat.le_refl _,fun _ _ _=>rfl,fun _ _ h=>h⟩
theorem Fq.mono {B B':Nat}{v':Value}{kvs':List Value}{w w':World}(h:Fq E B v kvs v' kvs' w w')(hb:B'≤B):Fq E B' v kvs v' kvs' w w' :=
 ⟨h.size,fun k hk=>h.block k (Nat.lt_of_lt_of_le hk hb),fun k hk=>h.loc k (Nat.lt_of_lt_of_le hk hb)⟩
theorem Fq.trans {B:Nat}{v1 v2:Value}{kvs1 kvs2:List Value}{w w1 w2:World}(h:Fq E B v kvs v1 kvs1 w w1)(h':Fq E B v1 kvs1 v2 kvs2 w1 w2):Fq E B v kvs v2 kvs2 w w2 :=
 ⟨Nat.le_trans h.size h'.size,fun k hk hl=>(h'.block k hk (h.loc k hk hl)).trans (h.block k hk hl),fun k hk hl=>h'.loc k hk (h.loc k hk hl)⟩
theorem Fq.of_fr {B:Nat}{v':Value}{new:List Value}{w w':World}(h:Fr E B v v' w w')(hn:Nw B new):Fq E B v kvs v' (kvs++new) w w' :=
 ⟨h.size,fun k hk hl=>h.block k hk (by have:=hl.lt;omega) hl.v,fun k hk hl=>hl.on h hn hk⟩
theorem Fq.of_fr0 {B:Nat}{v':Value}{w w':World}(h:Fr E B v v' w w'):Fq E B v kvs v' kvs w w':=by
 have:=Fq.of_fr (kvs:=kvs) h (Nw.nil B)
 rwa [List.append_nil] at this
theorem Kp.fq {i':Nat}{d' e':Int}{w':World}(h:Kp E v kvs md i' d' e' w w'):Fq E w.heap.size v kvs v kvs w w':=Fq.of_fr0 h.fr
theorem nw_nil (B:Nat):Nw B [.slice none 0 0]:=fun x hx k hk=>by
 obtain rfl:=List.mem_singleton.1 hx
 simp [Value.ownBlock] at hk
theorem getD_set_ne {α:Type}{l:List α}{j k:Nat}{a b:α}(h:j≠k):(l.set j a).getD k b=l.getD k b:=by
 simp only [List.getD,List.getElem?_set_ne h]
theorem getD_set_eq {α:Type}{l:List α}{j:Nat}{a b:α}(h:j<l.length):(l.set j a).getD j b=a:=by
 simp [List.getD,h]
theorem RS.putf {g n cap:Nat}(h:RS E (.slice (some ⟨g,0,none⟩) n cap) kvs md i d e w)(hn:n=md.length)(j:Nat)(hj:j<md.length)(c:Nat)(hc:c<5)(u:Value)(nd':Nd)
 (hnd:nodeC nd' (kvs.getD j default)=(nodeC (md.getD j default) (kvs.getD j default)).set c u) (hk:nd'.kids=(md.getD j default).kids) :
 RS E (.slice (some ⟨g,0,none⟩) n cap) kvs (md.set j nd') i d e (w.setCell ⟨g,j*5+c,none⟩ u)∧Fr E w.heap.size (.slice (some ⟨g,0,none⟩) n cap) (.slice (some ⟨g,0,none⟩) n cap) w (w.setCell ⟨g,j*5+c,none⟩ u):=by
 subst hn
 have hst:=h.own.stored (j*5+c) u
 have hkv:kvs.set j (kvs.getD j default)=kvs:=by
  have:j<kvs.length:=by rw [h.klen];exact hj
  simp [List.getD,this]
 rw [cellsM_set md kvs h.klen j hj c hc u nd' (kvs.getD j default) hnd,hkv] at hst
 have hvl:=h.vlt g rfl
 have hbl:∀k,k≠g→(w.setCell ⟨g,j*5+c,none⟩ u).heap[k]?=w.heap[k]?:=fun k hk=>Below.heap_setCell w ⟨g,j*5+c,none⟩ u k hk
 refine ⟨⟨h.below.grown hst.2 (Nat.le_of_lt h.lt) (fun k e=>by have e:=Option.some.inj e;omega),by simpa [World.setCell] using h.lt,h.gl,h.cap,fun j' k u' hj' hk'=>?_,h.oks,h.last,?_,h.it,h.few,h.dd,by simpa using h.klen,by simpa using hst.1,fun j' hj'=>?_,h.apart,h.pair⟩,?_⟩
 · have:=h.gl
   rw [World.cell?_of_block (w:=w) (a:=⟨E.g,j'*5+k,none⟩) (hbl E.g (by omega))]
   exact h.tok j' k u' hj' hk'
 · rw [hbl E.b (by omega)];exact h.row
 · have hj2:j'<md.length:=by simpa using hj'
   have h1:=(h.kids j' hj2).grown hst.2 (by
    cases hv:(kvs.getD j' default).ownBlock with
    | none=>exact Or.inl rfl
    | some k =>
     refine Or.inr (fun e=>?_)
     have e:=Option.some.inj e
     exact h.apart (kvs.getD j' default) (by have:=h.klen;simp [List.getD,show j'<kvs.length by omega]) k hv (by rw [e];rfl))
   by_cases hjj:j=j'
   · subst hjj
     rw [getD_set_eq hj,hk]
     exact h1
   · rw [getD_set_ne hjj]
     exact h1
 · exact ⟨rfl,rfl,rfl,by simp [World.setCell],fun k _ _ hv=>hbl k (fun e=>hv (by rw [e];rfl)),fun k hk=>Or.inl hk⟩
theorem RS.kidset {W2 w5:World}{o:Obj}{g n cap g5 cap5 j kl:Nat}{x:Int}{ks:List Int}{kv v5:Value}(h:RS E (.slice (some ⟨g,0,none⟩) n cap) kvs md i d e W2)(hn:n=md.length)(hj:j<md.length)(hkv:kv=kvs.getD j default)(hks:ks=(md.getD j default).kids)
 (hg:(W2.alloc o).grownBy w5 kv.ownBlock) (hv5:v5=.slice (some ⟨g5,0,none⟩) kl cap5) (hat:kv.ownBlock=some g5∨g5=W2.heap.size+1) (hown:own1 (E.b+1) w5 v5 (ks++[x])) :
 RS E (.slice (some ⟨g,0,none⟩) n cap) (kvs.set j v5) (md.set j { md.getD j default with kids:=ks++[x] }) i d e (w5.setCell ⟨g,j*5+4,none⟩ v5)∧Fq E W2.heap.size (.slice (some ⟨g,0,none⟩) n cap) kvs (.slice (some ⟨g,0,none⟩) n cap) (kvs.set j v5) W2 (w5.setCell ⟨g,j*5+4,none⟩ v5):=by
 subst hn hks
 have hjk:j<kvs.length:=by rw [h.klen];exact hj
 have hmem:kv∈kvs:=by rw [hkv];simp [List.getD,hjk]
 have hsz:W2.heap.size+1≤w5.heap.size:=by have:=hg.size;simpa using this
 have hg2:W2.grownBy w5 kv.ownBlock:=⟨hg.os,hg.tape,hg.output,by omega,fun k hk hne=>(hg.block k (by simp;omega) hne).trans (Below.heap_alloc _ _ _ hk)⟩
 have hv5o:v5.ownBlock=some g5:=by rw [hv5];rfl
 have hvl:=h.vlt g rfl
 have hgk:kv.ownBlock≠some g:=fun e=>h.apart kv hmem g e rfl
 have own5:=h.own.kept hg2 (Or.inr (fun e=>hgk e.symm))
 have hst:=own5.stored (j*5+4) v5
 rw [cellsM_set md kvs h.klen j hj 4 (by decide) v5 { md.getD j default with kids:=(md.getD j default).kids++[x] } v5 rfl] at hst
 have hbl:∀k,k≠g→(w5.setCell ⟨g,j*5+4,none⟩ v5).heap[k]?=w5.heap[k]?:=fun k hk=>Below.heap_setCell w5 ⟨g,j*5+4,none⟩ v5 k hk
 have hg5:g5≠g:=fun e=>by
  rcases hat with h1|h1
  · rw [e] at h1;exact hgk h1
  · omega
 have hkb:kv.ownBlock≠some E.b:=fun e=>by have:=(h.klt kv hmem _ e).1;omega
 have hkg:kv.ownBlock≠some E.g:=fun e=>by have:=(h.klt kv hmem _ e).1;have:=h.gl;omega
 -- another node's row of kids
 have other:∀j',j'<md.length→j'≠j→own1 (E.b+1) (w5.setCell ⟨g,j*5+4,none⟩ v5) (kvs.getD j' default) (md.getD j' default).kids:=fun j' hj' hne=>by
  refine own1.grown (row:=some g) (own1.grown (h.kids j' hj') hg2 ?_) hst.2 ?_
  · cases hv:(kvs.getD j' default).ownBlock with
    | none=>exact Or.inl rfl
    | some k =>
     refine Or.inr (fun e=>?_)
     have hj2:j'<kvs.length:=by rw [h.klen];exact hj'
     have hp:=List.pairwise_iff_getElem.1 h.pair
     rw [hkv] at e
     have e1:kvs.getD j default=kvs[j]:=by simp [List.getD,hjk]
     have e2:kvs.getD j' default=kvs[j']:=by simp [List.getD,hj2]
     rw [e2] at hv
     rw [e1] at e
     rcases Nat.lt_or_gt_of_ne hne with hlt|hlt
     · exact hp j' j hj2 hjk hlt k hv e.symm
     · exact hp j j' hjk hj2 hlt k e.symm hv
  · cases hv:(kvs.getD j' default).ownBlock with
    | none=>exact Or.inl rfl
    | some k =>
     refine Or.inr (fun e=>?_)
     have e:=Option.some.inj e
     exact h.apart (kvs.getD j' default) (by have:=h.klen;simp [List.getD,show j'<kvs.length by omega]) k hv (by rw [e];rfl)
 have fresh:∀y∈kvs.set j v5,∀k,y.ownBlock=some k→(y∈kvs∨(y=v5∧k=g5)):=fun y hy k hk=>by
  rcases List.mem_or_eq_of_mem_set hy with h1|h1
  · exact Or.inl h1
  · subst h1
    rw [hv5o] at hk
    exact Or.inr ⟨rfl,(Option.some.inj hk).symm⟩
 refine ⟨⟨(h.below.grown hg2 (Nat.le_of_lt h.lt) (fun k e=>Nat.le_of_lt (h.klt kv hmem k e).1)).grown hst.2 (by have:=h.below.size;have:=h.lt;omega) (fun k e=>by have e:=Option.some.inj e;omega),by simp [World.setCell];have:=h.lt;omega,h.gl,h.cap,fun j' k u hj' hk=>?_,h.oks,h.last,?_,h.it,h.few,h.dd,by simp [h.klen],by simpa using hst.1,fun j' hj'=>?_,fun y hy k hk=>?_,?_⟩,?_⟩
 · have:=h.gl
   have:=h.lt
   rw [World.cell?_of_block (w:=w5) (a:=⟨E.g,j'*5+k,none⟩) (hbl E.g (by omega)),World.cell?_of_block (w:=W2) (a:=⟨E.g,j'*5+k,none⟩) (hg2.block E.g (by omega) (fun e=>hkg e.symm))]
   exact h.tok j' k u hj' hk
 · rw [hbl E.b (by omega),hg2.block E.b h.lt (fun e=>hkb e.symm)];exact h.row
 · have hj2:j'<md.length:=by simpa using hj'
   by_cases hjj:j=j'
   · subst hjj
     rw [getD_set_eq hj,getD_set_eq hjk]
     exact own1.grown hown hst.2 (Or.inr (fun e=>by rw [hv5o] at e;exact hg5 (Option.some.inj e)))
   · rw [getD_set_ne hjj,getD_set_ne hjj]
     exact other j' hj2 (fun e=>hjj e.symm)
 · rcases fresh y hy k hk with h1|⟨_,rfl⟩
   · exact h.apart y h1 k hk
   · intro e
     have e:=Option.some.inj e
     exact hg5 e.symm
 · rw [List.pairwise_iff_getElem]
   intro a b ha hb hab k hka hkb2
   have hp:=List.pairwise_iff_getElem.1 h.pair
   have ha':a<kvs.length:=by simpa using ha
   have hb':b<kvs.length:=by simpa using hb
   have e1:kvs.getD j default=kvs[j]:=by simp [List.getD,hjk]
   rw [List.getElem_set] at hka hkb2
   have key:∀c (hc:c<kvs.length),c≠j→kvs[c].ownBlock=some k→k≠g5:=fun c hc hcj hk e=>by
    subst e
    rcases hat with h1|h1
    · rw [hkv,e1] at h1
      rcases Nat.lt_or_gt_of_ne hcj with hlt|hlt
      · exact hp c j hc hjk hlt k hk h1
      · exact hp j c hjk hc hlt k h1 hk
    · have:=(h.klt kvs[c] (List.getElem_mem hc) k hk).2
      omega
   split at hka
   · split at hkb2
     · omega
     · rw [hv5o] at hka
       exact key b hb' (by omega) hkb2 (Option.some.inj hka).symm
   · split at hkb2
     · rw [hv5o] at hkb2
       exact key a ha' (by omega) hka (Option.some.inj hkb2).symm
     · exact hp a b ha' hb' hab k hka hkb2
 · refine ⟨by simp [World.setCell];omega,fun k hk hl=>?_,fun k hk hl=>⟨hl.lt,hl.v,fun y hy e=>?_⟩⟩
   · rw [hbl k (fun e=>hl.v (by rw [e];rfl))]
     exact hg2.block k hk (fun e=>hl.ks kv hmem e.symm)
   · rcases fresh y hy k e with h1|⟨_,rfl⟩
     · exact hl.ks y h1 e
     · rcases hat with h1|h1
       · exact hl.ks kv hmem h1
       · omega
end
end Rf
namespace Rf
open Go.RowKit
section
variable {E:Env}{v:Value}{kvs:List Value}{md:List Nd}{i:Nat}{d e:Int}{w:World}
theorem of_drewA {w w':World}{o:Obj}{row:Option Nat}(h:((w.alloc o).drew).grownBy w' row):(w.alloc o).grownBy w' row:=⟨h.os,h.tape,h.output,h.size,h.block⟩
def kidOf (md:List Nd)(j:Nat):List Nd:=md.set j { md.getD j default with kids:=(md.getD j default).kids++[(md.length:Int)] }
def KidP (E:Env)(v:Value)(kvs:List Value)(md:List Nd)(i:Nat)(d e:Int)(w:World)(j:Nat)(x:Ending)(w':World):Prop :=
 x=.returned (.tuple #[])∧∃kvs',RS E v kvs' (kidOf md j) i d e w'∧Fq E w.heap.size v kvs v kvs' w w'
theorem kid_at (h:RS E v kvs md i d e w)(j:Nat)(hj:j<md.length)(hroom:md.length≤1000000)(hkids:(md.getD j default).kids.length≤1000000) :
 Calls Tryz.prog 162 #[.pointer (some ⟨E.b,0,none⟩),.int .i64 (j:Int)] w (KidP E v kvs md i d e w j):=by
 obtain ⟨i0,hi,hz0,hz1,hz2⟩:=info_partsP infoInt
 have HS:=lh h
 have I0:=lh hi
 have I1:=lh hz0
 have I2:=lh hz1
 have I3:=lh hz2
 obtain ⟨g,cap,rfl,hgb,_⟩:=h.own.form (by omega)
 obtain ⟨_,_,_,c3,_⟩:=h.rowCells
 have hjk:j<kvs.length:=by rw [h.klen];exact hj
 have kc0:=h.own.cellAt (j*5+4) (by omega)
 rw [cellsM_get md kvs h.klen j hj 4 (by decide)] at kc0
 simp only [nodeC,List.getElem?_cons_succ,List.getElem?_cons_zero] at kc0
 have zk:=h.own.frozenAt (j*5+4)
 have hown:=h.kids j hj
 have hmem:kvs.getD j default∈kvs:=by simp [List.getD,hjk]
 have hap:(kvs.getD j default).ownBlock≠some g:=fun e=>h.apart _ hmem g e rfl
 have hbk:(kvs.getD j default).ownBlock≠some E.b:=fun e=>by have:=(h.klt _ hmem _ e).1;omega
 obtain ⟨kp,kl,kc,hkv⟩:=hown.slice
 have HKV:=lh hkv.symm
 rw [hkv] at kc0 hown hap hbk
 have HOWN:=lh hown
 have hlt:=h.lt
 have hgl:=(h.vlt g rfl).2
 have hge:=(h.vlt g rfl).1
 have b0:(0:Int)≤(j:Int):=by omega
 have b1:(j:Int)<(md.length:Int):=by omega
 have hgb1:g≠E.b:=by omega
 obtain ⟨ks,hks⟩:∃ks,(md.getD j default).kids=ks:=⟨_,rfl⟩
 rw [hks] at HOWN hkids
 have HKS:=lh hks.symm
 obtain ⟨n,hn⟩:∃n,md.length=n:=⟨_,rfl⟩
 have HN:=lh hn
 rw [hn] at c3 b1 HS hroom ⊢
 clear h hi hz0 hz1 hz2 hown hkv hks hmem
 go_enter Tryz.func162,Tryz.ntmps162
 go_wp2_with fail
 go_region_law ((refine step_append_lies _ (by rfl) (.tmp 16) (.tmp 22) 32 (by rfl) (E.b+1) 3 i0 _ 1 8 Tryz.underlying32 I0.out I1.out I2.out I3.out rfl (by decide) (.slice kp kl kc) ks.length (ks.map (Value.int .i64)) (by rfl) (World.ownsRow.alloc (World.ownsRow.drew HOWN.out) _) ⟨w.heap.size,0,none⟩ 1 1 [.int .i64 (n:Int)] (by rfl) (by rfl) (World.news_of_block (cs:=#[.int .i64 (n:Int)]) (t:=3) (fr:=(0,0)) (heap_alloc_new _ _)) (by simp [Value.oneCell']) (by decide) (by unfold maxLen;omega) (by omega) (by simp;omega) _ (by rfl) ?_;intro g5 cap5 w5 hown5 hgrow5 hat5 hlt5;have c35:w5.cell? ⟨E.b,3,none⟩=some (.slice (some ⟨g,0,none⟩) n cap):=(hgrow5.cell_far ⟨E.b,3,none⟩ (by simp;omega) (fun e=>hbk e.symm)).trans ((World.cell?_alloc_lt _ _ _ hlt).trans c3);have k45:w5.cell? ⟨g,j*5+4,none⟩=some (.slice kp kl kc):=(hgrow5.cell_far ⟨g,j*5+4,none⟩ (by simp;omega) (fun e=>hap e.symm)).trans ((World.cell?_alloc_lt _ _ _ hgl).trans kc0);have z45:w5.frozen? ⟨g,j*5+4,none⟩=false:=(hgrow5.frozen_far ⟨g,j*5+4,none⟩ (by simp;omega) (fun e=>hap e.symm)).trans ((World.frozen?_of_block (w:=w) (Below.heap_alloc w _ g hgl)).trans zk)))
 all_goals
  have HP:=lh (RS.kidset (w5:=w5) (o:=.cells #[.int .i64 (n:Int)] 3) (x:=(n:Int)) (ks:=ks) (kv:=.slice kp kl kc) HS.out HN.out.symm hj HKV.out HKS.out (of_drewA hgrow5) rfl (by simpa using hat5) (by
   have e:ks.length+1=(ks++[(n:Int)]).length:=by simp
   have e2:(ks++[(n:Int)]).map (Value.int .i64)=ks.map (Value.int .i64)++[Value.int .i64 (n:Int)]:=by simp
   unfold own1
   rw [← e,e2]
   exact hown5))
  clear hown5 hgrow5 hat5 c35 k45 z45 c3 kc0 zk
  simp [bodyPost,results,Tryz.results162,go_sem]
  exact ⟨rfl,_,by have:=HP.out.1;unfold kidOf;rw [HN.out,← HKS.out];exact this,HP.out.2⟩
end
end Rf
end Go.Proofs.YthdioipfdbbmmaaGreatDoor
