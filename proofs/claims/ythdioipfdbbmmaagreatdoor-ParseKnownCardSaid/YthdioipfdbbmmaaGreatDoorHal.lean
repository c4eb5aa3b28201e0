/- Contracts. -/
import Derived.Test.YthdioipfdbbmmaaGreatDoorHab
import Derived.Test.YthdioipfdbbmmaaGreatDoorHaf
import Derived.Test.YthdioipfdbbmmaaGreatDoorHak
set_option linter.all false
set_option maxRecDepth 1000000
set_option maxHeartbeats 16000000
namespace Go.Proofs.YthdioipfdbbmmaaGreatDoor
namespace Rf
open Go.RowKit
theorem infoRef:(Tryz.prog.info? 99).map (fun i=>(i.zero,i.size,i.bytes))=some (some (.agg #[.int .u8 0,.int .i64 0,.string ⟨#[]⟩,.int .i64 0,.slice none 0 0]),5,64):=by kernel_rfl
theorem own1_nil (B:Nat)(w:World):own1 B w (.slice none 0 0) []:=World.ownsRow_nil _ _ _ _
section
variable {E:Env}{v:Value}{kvs:List Value}{md:List Nd}{i:Nat}{d e:Int}{w:World}
theorem RS.push {W2 w5:World}{o:Obj}{g cap n:Nat}{nd:Nd}{cs:List Value}(h:RS E v kvs md i d e W2)(hg:(W2.alloc o).grownBy w5 v.ownBlock)(hat:v.ownBlock=some g∨g=W2.heap.size+1)(hn:n=md.length+1)(hcs:cs=cellsM md kvs++nodeC nd (.slice none 0 0))(hk0:nd.kids=[])
 (hown:w5.ownsRow (E.b+1) 99 5 (.slice (some ⟨g,0,none⟩) n cap) n cs) :
 RS E (.slice (some ⟨g,0,none⟩) n cap) (kvs++[.slice none 0 0]) (md++[nd]) i d e (w5.setCell ⟨E.b,3,none⟩ (.slice (some ⟨g,0,none⟩) n cap))∧Fr E W2.heap.size v (.slice (some ⟨g,0,none⟩) n cap) W2 (w5.setCell ⟨E.b,3,none⟩ (.slice (some ⟨g,0,none⟩) n cap)):=by
 subst hn hcs
 have hlt:=h.lt
 have hsz:W2.heap.size+1≤w5.heap.size:=by have:=hg.size;simpa using this
 have hg2:W2.grownBy w5 v.ownBlock:=⟨hg.os,hg.tape,hg.output,by omega,fun k hk hne=>(hg.block k (by simp;omega) hne).trans (Below.heap_alloc _ _ _ hk)⟩
 have hvb:v.ownBlock≠some E.b:=fun e=>by have:=(h.vlt _ e).1;omega
 have hb5:w5.heap[E.b]?=W2.heap[E.b]?:=hg2.block E.b hlt (fun e=>hvb e.symm)
 have hgb:g≠E.b:=fun e=>by
  rcases hat with h1|h1
  · rw [e] at h1;exact hvb h1
  · omega
 generalize hv5:Value.slice (some ⟨g,0,none⟩) (md.length+1) cap=v5 at *
 have hv5o:v5.ownBlock=some g:=by rw [← hv5];rfl
 have hset:w5.grownBy (w5.setCell ⟨E.b,3,none⟩ v5) (some E.b):=grownBy_set w5 _ _
 have kidold:∀(x:Value) (ks:List Int),own1 (E.b+1) W2 x ks→(∀k,x.ownBlock=some k→v.ownBlock≠some k)→own1 (E.b+1) (w5.setCell ⟨E.b,3,none⟩ v5) x ks:=fun x ks hx hne=>by
  refine own1.grown (row:=some E.b) (own1.grown hx hg2 ?_) hset ?_
  · cases hk:x.ownBlock with
    | none=>exact Or.inl rfl
    | some k=>exact Or.inr (fun e=>hne k hk e.symm)
  · cases hk:x.ownBlock with
    | none=>exact Or.inl rfl
    | some k=>exact Or.inr (fun e=>by have:=(hx.lt k hk).1;have e:=Option.some.inj e;omega)
 have hkl:∀x∈kvs++[.slice none 0 0],∀k,x.ownBlock=some k→v5.ownBlock≠some k:=fun x hx k hk e=>by
  rw [hv5o] at e
  obtain rfl:=Option.some.inj e
  rcases List.mem_append.1 hx with hx|hx
  · rcases hat with h1|h1
    · exact h.apart x hx g hk h1
    · have:=(h.klt x hx g hk).2;omega
  · obtain rfl:=List.mem_singleton.1 hx
    simp [Value.ownBlock] at hk
 refine ⟨⟨(h.below.grown hg2 (Nat.le_of_lt hlt) (fun k e=>Nat.le_of_lt (h.vlt k e).1)).setCell (p:=⟨E.b,3,none⟩) (Nat.le_refl _) _,by simp [World.setCell];omega,h.gl,h.cap,fun j k u hj hi=>?_,h.oks,h.last,?_,h.it,h.few,h.dd,by simp [h.klen],?_,fun j hj=>?_,hkl,?_⟩,?_⟩
 · have hgl:=h.gl
   rw [World.cell?_of_block (w:=w5) (a:=⟨E.g,j*5+k,none⟩) (Below.heap_setCell _ _ _ _ (show E.g≠E.b by omega)),World.cell?_of_block (w:=W2) (a:=⟨E.g,j*5+k,none⟩) (hg2.block E.g (by omega) (fun e=>by have:=(h.vlt _ e.symm).1;omega))]
   exact h.tok j k u hj hi
 · rw [heap_set _ _ _ _ _ _ (hb5.trans h.row)];rfl
 · rw [cellsM_snoc md kvs nd (.slice none 0 0) h.klen,List.length_append,List.length_singleton]
   exact hown.kept hset (Or.inr (fun e=>by rw [hv5o] at e;exact hgb (Option.some.inj e)))
 · by_cases hj':j<md.length
   · have h1:=kidold _ _ (h.kids j hj') (fun k hk=>h.apart (kvs.getD j default) (by have:=h.klen;simp [List.getD,show j<kvs.length by omega]) k hk)
     have e1:(kvs++[Value.slice none 0 0]).getD j default=kvs.getD j default:=by have:=h.klen;simp [List.getD,List.getElem?_append_left (show j<kvs.length by omega)]
     have e2:(md++[nd]).getD j default=md.getD j default:=by simp [List.getD,List.getElem?_append_left hj']
     rw [e1,e2];exact h1
   · have hjn:j=md.length:=by simp only [List.length_append,List.length_singleton] at hj;omega
     have e1:(kvs++[Value.slice none 0 0]).getD j default=.slice none 0 0:=by rw [hjn,← h.klen];simp [List.getD]
     have e2:(md++[nd]).getD j default=nd:=by rw [hjn];simp [List.getD]
     rw [e1,e2,hk0]
     exact own1_nil _ _
 · refine List.pairwise_append.2 ⟨h.pair,List.pairwise_singleton _ _,fun x hx y hy k hk e=>?_⟩
   obtain rfl:=List.mem_singleton.1 hy
   simp [Value.ownBlock] at e
 · refine ⟨hg.os,hg.tape,hg.output,by simp [World.setCell];omega,fun k hk hkb hkv=>(Below.heap_setCell w5 ⟨E.b,3,none⟩ v5 k hkb).trans (hg2.block k hk (fun e=>hkv e.symm)),fun k hk=>?_⟩
   rw [hv5o] at hk
   obtain rfl:=Option.some.inj hk
   rcases hat with h1|h1
   · exact Or.inl h1
   · exact Or.inr (by omega)
def nodeR0 (k:Int)(a:Nat):Nd:=⟨k,a,⟨#[]⟩,0,[]⟩
def NodeP (E:Env)(v:Value)(kvs:List Value)(md:List Nd)(i:Nat)(d e:Int)(w:World)(k:Int)(x:Ending)(w':World):Prop :=
 ∃v',x=.returned (.int .i64 (md.length:Int))∧RS E v' (kvs++[.slice none 0 0]) (md++[nodeR0 k (RT E i).at']) i d e w'∧Fr E w.heap.size v v' w w'
theorem node_at (h:RS E v kvs md i d e w)(k:Int)(hroom:md.length+1≤1000000) :
 Calls Tryz.prog 94 #[.pointer (some ⟨E.b,0,none⟩),.int .u8 k] w (NodeP E v kvs md i d e w k):=by
 obtain ⟨i0,hi,hz0,hz1,hz2⟩:=info_partsP infoRef
 have HS:=lh h
 have I0:=lh hi
 have I1:=lh hz0
 have I2:=lh hz1
 have I3:=lh hz2
 obtain ⟨vp,vn,vc,rfl⟩:∃vp vn vc,v=.slice vp vn vc:=by
  rcases h.own.2 with h2|⟨g,cap,cur,e,_⟩
  · exact ⟨_,_,_,h2.1⟩
  · exact ⟨_,_,_,e⟩
 obtain ⟨c0,c1,_,c3,_⟩:=h.rowCells
 obtain ⟨_,k1,_,_⟩:=h.tokCells
 have b0:(0:Int)≤(i:Int):=by omega
 have b1:(i:Int)<(E.toks.length:Int):=by have:=h.it;omega
 have hcap:=h.cap
 have z3:=h.fz 3
 have hlt:=h.lt
 have hgl:=h.gl
 have hvb:¬ (Value.slice vp vn vc).ownBlock=some E.b:=fun e=>by have:=(h.vlt _ e).1;omega
 have HN:Hid (NodeP E (.slice vp vn vc) kvs md i d e w k=NodeP E (.slice vp vn vc) kvs md i d e w k):=lh rfl
 unfold NodeP
 generalize (RT E i).at'=at' at *
 clear h hi hz0 hz1 hz2
 go_enter Tryz.func94,Tryz.ntmps94
 go_wp2_with fail
 go_region_law ((refine step_append_lies _ (by rfl) (.tmp 9) (.tmp 23) 41 (by rfl) (E.b+1) 99 i0 _ 5 64 Tryz.underlying41 I0.out I1.out I2.out I3.out rfl (by decide) (.slice vp vn vc) md.length (cellsM md kvs) (by rfl) (HS.out.own.drew.alloc _) ⟨w.heap.size,0,none⟩ 1 1 [.int .u8 k,.int .i64 at',.string ⟨#[]⟩,.int .i64 0,.slice none 0 0] (by rfl) (by rfl) (World.news_of_block (cs:=#[.int .u8 k,.int .i64 at',.string ⟨#[]⟩,.int .i64 0,.slice none 0 0]) (t := 99) (fr:=(0,0)) (heap_alloc_new _ _)) (by simp [Value.oneCell']) (by decide) (by unfold maxLen;omega) (by omega) (by simp;omega) _ (by rfl) ?_;intro g5 cap5 w5 hown5 hgrow5 hat5 hlt5;have c45:w5.cell? ⟨E.b,3,none⟩=some (.slice vp vn vc):=(hgrow5.cell_far ⟨E.b,3,none⟩ (by simp;omega) (fun e=>hvb e.symm)).trans ((World.cell?_alloc_lt _ _ _ hlt).trans c3);have z45:w5.frozen? ⟨E.b,3,none⟩=false:=(hgrow5.frozen_far ⟨E.b,3,none⟩ (by simp;omega) (fun e=>hvb e.symm)).trans ((World.frozen?_of_block (w:=w) (Below.heap_alloc w _ E.b hlt)).trans z3)))
 all_goals
  have HP:=lh (HS.out.push (nd:=nodeR0 k at') (of_drew hgrow5) (by simpa using hat5) rfl rfl rfl hown5)
  obtain ⟨_,_,_,d3,_⟩:=HP.out.1.rowCells
  clear hown5 hgrow5 hat5 c45 z45 c0 c1 c3 z3 k1
  go_wp2
  go_ret
  exact ⟨_,rfl,HP.out.1,HP.out.2⟩
end
end Rf
end Go.Proofs.YthdioipfdbbmmaaGreatDoor
