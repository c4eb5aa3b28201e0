/- Contracts. -/
import Derived.Test.YthdioipfdbbmmaaGreatDoorHab
import Derived.Test.YthdioipfdbbmmaaGreatDoorHan
import Derived.Deep.RegionHeld3
set_option linter.all false
set_option maxRecDepth 1000000
set_option maxHeartbeats 16000000
namespace Go.Proofs.YthdioipfdbbmmaaGreatDoor
namespace Rf
open Go.RowKit Par
theorem ExprL.get {W:World}{P:Nat→Prop}{b:Nat}:∀(ks:List Ast) (j0:Nat),ExprL W P b j0 ks→∀j (hj:j<ks.length),∃c0 c1 c2 c3 c4,ExprV W P ks[j] (.agg #[c0,c1,c2,c3,c4])∧W.cell? ⟨b,(j0+j)*5,none⟩=some c0∧W.cell? ⟨b,(j0+j)*5+1,none⟩=some c1∧W.cell? ⟨b,(j0+j)*5+2,none⟩=some c2∧W.cell? ⟨b,(j0+j)*5+3,none⟩=some c3∧W.cell? ⟨b,(j0+j)*5+4,none⟩=some c4
 | [],_,_,j,hj=>by simp at hj
 | x::r,j0,h,j,hj=>by
  simp only [ExprL] at h
  cases j with
  | zero=>exact h.1
  | succ j =>
   have:=ExprL.get r (j0+1) h.2 j (by simpa using hj)
   rw [show j0+1+j=j0+(j+1) by omega] at this
   exact this
theorem ExprV.open {W:World}{P:Nat→Prop}{k:Int}{a:Nat}{t:ByteArray}{n:Int}{ks:List Ast}{v:Value}(h:ExprV W P (.mk k a t n ks) v):∃kp,v=.agg #[.int .u8 k,.int .i64 (a:Int),.string t,.int .i64 n,.slice kp ks.length ks.length] ∧
 ∀j (hj:j<ks.length),∃b c0 c1 c2 c3 c4,kp=some ⟨b,0,none⟩∧P b∧ExprV W P ks[j] (.agg #[c0,c1,c2,c3,c4])∧W.cell? ⟨b,j*5,none⟩=some c0∧W.cell? ⟨b,j*5+1,none⟩=some c1∧W.cell? ⟨b,j*5+2,none⟩=some c2∧W.cell? ⟨b,j*5+3,none⟩=some c3∧W.cell? ⟨b,j*5+4,none⟩=some c4:=by
 unfold ExprV at h
 obtain ⟨kv,rfl,h⟩:=h
 rcases h with ⟨rfl,rfl⟩|⟨b,h1,_,rfl,h2⟩
 · exact ⟨none,rfl,fun j hj=>by simp at hj⟩
 · refine ⟨_,rfl,fun j hj=>?_⟩
   obtain ⟨c0,c1,c2,c3,c4,g⟩:=ExprL.get ks 0 h2 j hj
   rw [show 0+j=j by omega] at g
   exact ⟨b,c0,c1,c2,c3,c4,rfl,h1,g⟩
section
variable {E:Env}{v:Value}{kvs:List Value}{md:List Nd}{i:Nat}{d e:Int}{w:World}
theorem Lcl_fq {v':Value}{kvs':List Value}{w':World}{q:Nat}{o:Obj}(h:Lcl E v kvs q o w)(hf:Fq E w.heap.size v kvs v' kvs' w w'):Lcl E v' kvs' q o w' :=
 ⟨hf.loc q h.lt h.loc,Nat.lt_of_lt_of_le h.lt hf.size,by rw [hf.block q h.lt h.loc];exact h.obj⟩
theorem ExprV.box {y:Ast}{x:Value}(h:ExprV w (Loc E v kvs) y x)(o:Obj):ExprV (w.alloc o) (Loc E v kvs) y x :=
 ExprV.on (by simp) (fun k _ hl=>Below.heap_alloc _ _ _ hl) (fun k hk _=>hk) y x h
def PutP (E:Env)(v:Value)(kvs:List Value)(p:List Nd)(k:Int)(a:Nat)(t:ByteArray)(n:Int)(ks:List Ast)(i:Nat)(d:Int)(w:World)(x:Ending)(w':World):Prop :=
 x=.returned (.tuple #[])∧∃v' kvs',RS E v' kvs' (openN p k a t n ks) i d 0 w'∧Fq E w.heap.size v kvs v' kvs' w w'
def PutAt (y:Ast):Prop:=∀(E:Env) (v:Value) (kvs:List Value) (p:List Nd) (k:Int) (a:Nat) (t:ByteArray) (n:Int) (ks:List Ast) (i:Nat) (d:Int) (w:World) (ev:Value),RS E v kvs (openN p k a t n ks) i d 0 w→ExprV w (Loc E v kvs) y ev→p.length+1+sizeL ks+y.size≤900000 →
 Calls Tryz.prog 283 #[.pointer (some ⟨E.b,0,none⟩),.int .i64 (p.length:Int),ev] w (PutP E v kvs p k a t n (ks++[y]) i d w)
theorem take_one {ks:List Ast}{j:Nat}(hj:j<ks.length):ks.take j++[ks[j]]=ks.take (j+1):=by
 rw [List.take_succ,List.getElem?_eq_getElem hj];rfl
theorem sizeL_take (ks:List Ast)(j:Nat):sizeL (ks.take j)≤sizeL ks:=by
 have:=sizeL_append (ks.take j) (ks.drop j)
 rw [List.take_append_drop] at this
 omega
theorem size_take {ks:List Ast}{j:Nat}(hj:j<ks.length):sizeL (ks.take j)+(ks[j]).size≤sizeL ks:=by
 have h1:=sizeL_take ks (j+1)
 rw [← take_one hj,sizeL_append,sizeL_one] at h1
 exact h1
theorem put_of (k2:Int)(a2:Nat)(t2:ByteArray)(n2:Int)(ks2:List Ast)(ih:∀j (hj:j<ks2.length),PutAt ks2[j]):PutAt (.mk k2 a2 t2 n2 ks2):=by
 intro E v kvs p k a t n ks i d w ev h hev hroom
 obtain ⟨i0,hi,hz0,hz1,hz2⟩:=info_partsP infoRef
 have I0:=lh hi
 have I1:=lh hz0
 have I2:=lh hz1
 have I3:=lh hz2
 obtain ⟨kp,rfl,_⟩:=hev.open
 simp only [Ast.size] at hroom
 have HB:=lh (h.lcl (.cells #[.int .u8 k2,.int .i64 (a2:Int),.string t2,.int .i64 n2,.slice kp ks2.length ks2.length] 317))
 have HE:=lh (hev.box (.cells #[.int .u8 k2,.int .i64 (a2:Int),.string t2,.int .i64 n2,.slice kp ks2.length ks2.length] 317))
 have HS0:=lh (h.alloc (.cells #[.int .u8 k2,.int .i64 (a2:Int),.string t2,.int .i64 n2,.slice kp ks2.length ks2.length] 317))
 have HF0:=lh (show Fq E w.heap.size v kvs v kvs w (w.alloc _) from Fq.of_fr0 ((Fr.refl E w.heap.size v w).alloc (Nat.le_refl _) (.cells #[.int .u8 k2,.int .i64 (a2:Int),.string t2,.int .i64 n2,.slice kp ks2.length ks2.length] 317)))
 have HR:=lh hroom
 have HIH:=lh ih
 have KD:=lh (kid_at HS0.out p.length (by rw [open_len];omega) (by rw [open_len];omega) (by rw [open_get,heads_length];have:=len_size ks;omega))
 clear h hev hi hz0 hz1 hz2 hroom ih
 go_enter Tryz.func283,Tryz.ntmps283
 go_wp2_with fail
 obtain ⟨W0,hW0⟩:∃W0,w.alloc (.cells #[.int .u8 k2,.int .i64 (a2:Int),.string t2,.int .i64 n2,.slice kp ks2.length ks2.length] 317)=W0:=⟨_,rfl⟩
 rw [hW0] at HB HE HS0 HF0 KD ⊢
 clear hW0
 (with_reducible refine KD.out.mono ?_)
 rintro x w2 ⟨rfl,kvs2,hs2,hf2⟩
 rw [kidOf_open] at hs2
 have HS:=lh hs2
 have HF:=lh hf2
 have HB2:=lh (Lcl_fq HB.out hf2)
 clear KD HS0
 obtain ⟨g,cap,rfl,_,_⟩:=hs2.own.form (by rw [kid_len];omega)
 have hlen:=kid_len p k a t n ks
 have HP2:=lh (open_kid p k a t n ks (.mk k2 a2 t2 n2 ks2))
 generalize kidN p k a t n ks=P2 at *
 have HLN:=lh hlen
 obtain ⟨_,_,_,c3,_⟩:=hs2.rowCells
 have z3:=hs2.fz 3
 have hlt:=hs2.lt
 have hgb:¬ (Value.slice (some ⟨g,0,none⟩) P2.length cap).ownBlock=some E.b:=fun e=>by have:=(hs2.vlt _ e).1;omega
 have m0:=HB2.out.cell 0 rfl
 have m1:=HB2.out.cell 1 rfl
 have m2:=HB2.out.cell 2 rfl
 have m3:=HB2.out.cell 3 rfl
 have hroom2:=HR.out
 have hqlt:=HB2.out.lt
 have hqv:=HB2.out.loc.v
 have hqb:w.heap.size≠E.b:=by have:=HB2.out.loc.lt;omega
 have hl2:P2.length≤900000:=by omega
 clear hs2 hf2 hlen
 go_wp2_with fail
 refine wp_region_held_drew (S:=fun w'=>w'.cell? ⟨w.heap.size,0,none⟩=some (.int .u8 k2)∧w'.cell? ⟨w.heap.size,1,none⟩=some (.int .i64 (a2:Int))∧w'.cell? ⟨w.heap.size,2,none⟩=some (.string t2)∧w'.cell? ⟨w.heap.size,3,none⟩=some (.int .i64 n2)) (by kernel_rfl) ⟨m0,m1,m2,m3⟩ (fun hHeld=>?_)
 refine tk (i:=0) (v:=?_) rfl hHeld ?_ ?_
 rotate_left
 · (intro w hSw;(try dsimp only at hSw);go_simp;try with_reducible rfl)
 (try simp only [pn])
 refine tk (i:=1) (v:=?_) rfl hHeld ?_ ?_
 rotate_left
 · (intro w hSw;(try dsimp only at hSw);go_simp;try with_reducible rfl)
 (try simp only [pn])
 refine tk (i:=2) (v:=?_) rfl hHeld ?_ ?_
 rotate_left
 · (intro w hSw;(try dsimp only at hSw);go_simp;try with_reducible rfl)
 (try simp only [pn])
 refine tk (i:=3) (v:=?_) rfl hHeld ?_ ?_
 rotate_left
 · (intro w hSw;(try dsimp only at hSw);go_simp;try with_reducible rfl)
 (try simp only [pn])
 refine tk (i:=5) (v:=?_) rfl hHeld ?_ ?_
 rotate_left
 · (intro w hSw;(try dsimp only at hSw);go_simp;try with_reducible rfl)
 (try simp only [pn])
 refine tk (i:=6) (v:=?_) rfl hHeld ?_ ?_
 rotate_left
 · (intro w hSw;(try dsimp only at hSw);go_simp;try with_reducible rfl)
 (try simp only [pn])
 refine tk (i:=7) (v:=?_) rfl hHeld ?_ ?_
 rotate_left
 · (intro w hSw;(try dsimp only at hSw);go_simp;try with_reducible rfl)
 (try simp only [pn])
 refine tk (i:=8) (v:=?_) rfl hHeld ?_ ?_
 rotate_left
 · (intro w hSw;(try dsimp only at hSw);go_simp;try with_reducible rfl)
 (try simp only [pn])
 refine tk (i:=9) (v:=?_) rfl hHeld ?_ ?_
 rotate_left
 · (intro w hSw;(try dsimp only at hSw);go_simp;try with_reducible rfl)
 (try simp only [pn])
 refine tk (i:=10) (v:=?_) rfl hHeld ?_ ?_
 rotate_left
 · (intro w hSw;(try dsimp only at hSw);go_simp;try with_reducible rfl)
 (try simp only [pn])
 refine tk (i:=11) (v:=?_) rfl hHeld ?_ ?_
 rotate_left
 · (intro w hSw;(try dsimp only at hSw);go_simp;try with_reducible rfl)
 (try simp only [pn])
 refine tk (i:=12) (v:=?_) rfl hHeld ?_ ?_
 rotate_left
 · (intro w hSw;(try dsimp only at hSw);go_simp;try with_reducible rfl)
 (try simp only [pn])
 refine tk (i:=13) (v:=?_) rfl hHeld ?_ ?_
 rotate_left
 · (intro w hSw;(try dsimp only at hSw);go_simp;try with_reducible rfl)
 (try simp only [pn])
 refine wpAnyH_ready (rs:=[4,14]) (by kernel_rfl) (by simp) ?_
 refine AllReadyH.cons rfl (fun K hK=>?_) (AllReadyH.cons rfl (fun K hK=>?_) (AllReadyH.nil))
 · go_simp
   refine hK.out _ _ hHeld (fun hHeld=>?_)
   clear hK K
   (try simp only [pn])
   refine wpAnyH_ready (rs:=[14]) (by kernel_rfl) (by simp) ?_
   refine AllReadyH.cons rfl (fun K hK=>?_) (AllReadyH.nil)
   go_simp
   refine hK.out _ _ (by go_keep) (fun hHeld=>?_)
   clear hK K
   (try simp only [pn])
   refine wpAnyH_ready (rs:=[15]) (by kernel_rfl) (by simp) ?_
   refine AllReadyH.cons rfl (fun K hK=>?_) (AllReadyH.nil)
   (refine step_append_lies _ (by rfl) (.tmp 20) (.tmp 30) 41 (by rfl) (E.b+1) 99 i0 _ 5 64 Tryz.underlying41 I0.out I1.out I2.out I3.out rfl (by decide) (.slice (some ⟨g,0,none⟩) P2.length cap) P2.length (cellsM P2 kvs2) (by rfl) (HS.out.own.drew.alloc _) ⟨w2.heap.size,0,none⟩ 1 1 [.int .u8 k2,.int .i64 a2,.string t2,.int .i64 n2,.slice none 0 0] (by rfl) (by rfl) (World.news_of_block (cs:=#[.int .u8 k2,.int .i64 a2,.string t2,.int .i64 n2,.slice none 0 0]) (t := 99) (fr:=(0,0)) (heap_alloc_new _ _)) (by simp [Value.oneCell']) (by decide) (by unfold maxLen;omega) (by omega) (by simp;omega) _ (by rfl) ?_;intro g5 cap5 w5 hown5 hgrow5 hat5 hlt5;have c45:w5.cell? ⟨E.b,3,none⟩=some (.slice (some ⟨g,0,none⟩) P2.length cap):=(hgrow5.cell_far ⟨E.b,3,none⟩ (by simp;omega) (fun e=>hgb e.symm)).trans ((World.cell?_alloc_lt _ _ _ hlt).trans c3);have z45:w5.frozen? ⟨E.b,3,none⟩=false:=(hgrow5.frozen_far ⟨E.b,3,none⟩ (by simp;omega) (fun e=>hgb e.symm)).trans ((World.frozen?_of_block (w:=w2) (Below.heap_alloc w2 _ E.b hlt)).trans z3);have k0:w5.cell? ⟨w.heap.size,0,none⟩=some (.int .u8 k2):=(hgrow5.cell_far ⟨w.heap.size,0,none⟩ (by simp;omega) (fun e=>hqv e.symm)).trans ((World.cell?_alloc_lt _ _ _ hqlt).trans m0);have k1:w5.cell? ⟨w.heap.size,1,none⟩=some (.int .i64 (a2:Int)):=(hgrow5.cell_far ⟨w.heap.size,1,none⟩ (by simp;omega) (fun e=>hqv e.symm)).trans ((World.cell?_alloc_lt _ _ _ hqlt).trans m1);have kk2:w5.cell? ⟨w.heap.size,2,none⟩=some (.string t2):=(hgrow5.cell_far ⟨w.heap.size,2,none⟩ (by simp;omega) (fun e=>hqv e.symm)).trans ((World.cell?_alloc_lt _ _ _ hqlt).trans m2);have k3:w5.cell? ⟨w.heap.size,3,none⟩=some (.int .i64 n2):=(hgrow5.cell_far ⟨w.heap.size,3,none⟩ (by simp;omega) (fun e=>hqv e.symm)).trans ((World.cell?_alloc_lt _ _ _ hqlt).trans m3))
   refine hK.out _ _ ⟨k0,k1,kk2,k3⟩ (fun hHeld=>?_)
   clear hK K
   (try simp only [pn])
   refine tk (i:=16) (v:=?_) rfl hHeld ?_ ?_
   rotate_left
   · (intro w hSw;(try dsimp only at hSw);go_simp;try with_reducible rfl)
   (try simp only [pn])
   refine tk (i:=17) (v:=?_) rfl hHeld ?_ ?_
   rotate_left
   · (intro w hSw;(try dsimp only at hSw);go_simp;try with_reducible rfl)
   (try simp only [pn])
   refine wpAnyH_ready (rs:=[18]) (by kernel_rfl) (by simp) ?_
   refine AllReadyH.cons rfl (fun K hK=>?_) (AllReadyH.nil)
   go_simp
   refine hK.out _ _ (by refine ⟨?_,?_,?_,?_⟩<;>(rw [World.cell?_of_block (w:=w5) (Below.heap_setCell _ _ _ _ hqb)];assumption)) (fun hHeld=>?_)
   clear hK K
   (try simp only [pn])
   refine wpAnyH_done (by kernel_rfl) ?_ _
   have HP:=lh (HS.out.push (nd:=⟨k2,a2,t2,n2,[]⟩) (of_drew hgrow5) (by simpa using hat5) rfl rfl rfl hown5)
   clear hown5 hgrow5 hat5 c45 z45 c3 z3 m0 m1 m2 m3 k0 k1 kk2 k3
   have HQ:=lh (HF.out.trans ((Fq.of_fr HP.out.2 (nw_nil _)).mono HF.out.size))
   have HRS:=lh HP.out.1
   generalize w5.setCell ⟨E.b,3,none⟩ (Value.slice (some ⟨g5,0,none⟩) (P2.length+1) cap5)=wL at *
   clear HP HS HF HB2 hqlt hqv hqb hlt hgb I0 I1 I2 I3
   go_wp2_with fail
   go_loopw [7] (fun iv wr=>∃j:Nat,j≤ks2.length∧iv=.int .i64 j∧Hid (∃vj kvsj,RS E vj kvsj (openN P2 k2 a2 t2 n2 (ks2.take j)) i d 0 wr∧Fq E W0.heap.size (Value.slice (some ⟨g,0,none⟩) P2.length cap) kvs vj kvsj W0 wr)) (fun iv _=>ks2.length-(intOf iv).toNat)
   case atStart=>exact ⟨0,by omega,rfl,lh ⟨_,_,by rw [List.take_zero,open_nil];exact HRS.out,HQ.out⟩⟩
   case round =>
    obtain ⟨j,hj,rfl,HJ⟩:=hrel
    obtain ⟨vj,kvsj,hsj,hfj⟩:=HJ.out
    have HBJ:=lh (Lcl_fq HB.out hfj)
    have m4:=HBJ.out.cell 4 rfl
    have HSJ:=lh hsj
    have HFJ:=lh hfj
    by_cases hlt:j<ks2.length
    · obtain ⟨kp',hk',hg'⟩:=(HE.out.fq hfj).open
      obtain ⟨b,c0,c1,c2,c3,c4,hkp,_,hx,e0,e1,e2,e3,e4⟩:=hg' j hlt
      simp only [Value.agg.injEq,Array.mk.injEq,List.cons.injEq,Value.slice.injEq,and_true,true_and] at hk'
      subst hk' hkp
      have b0:(0:Int)≤(j:Int):=by omega
      have b1:(j:Int)<(ks2.length:Int):=by omega
      have h63:(j:Int)+1≤9223372036854775807:=by have:=len_size ks2;have:=HR.out;omega
      have CT:=lh (HIH.out j hlt E vj kvsj P2 k2 a2 t2 n2 (ks2.take j) i d _ _ hsj hx (by have:=size_take hlt;have:=HLN.out;have:=HR.out;omega))
      clear hsj hfj hx hg' HE
      go_wp2_with fail
      (with_reducible refine CT.out.mono ?_)
      rintro x w7 ⟨rfl,v7,kvs7,h7,f7⟩
      have H7:=lh (show ∃vj kvsj,RS E vj kvsj (openN P2 k2 a2 t2 n2 (ks2.take (j+1))) i d 0 w7∧Fq E W0.heap.size (Value.slice (some ⟨g,0,none⟩) P2.length cap) kvs vj kvsj W0 w7 from ⟨v7,kvs7,by rw [← take_one hlt];exact h7,HFJ.out.trans (f7.mono HFJ.out.size)⟩)
      clear CT h7 f7
      go_wp2_with fail
      go_roundw
      case rel=>exact ⟨j+1,by omega,by go_num,H7⟩
      case measure=>simp [intOf];omega
    · have hjn:j=ks2.length:=by omega
      subst hjn
      clear hsj hfj
      go_wp2
      simp [bodyPost,results,Tryz.results283,go_sem]
      refine ⟨rfl,vj,kvsj,?_,HF0.out.trans (HFJ.out.mono HF0.out.size)⟩
      have:=HSJ.out
      rw [List.take_length,open_done,HP2.out] at this
      exact this
 · go_simp
   refine hK.out _ _ (by go_keep) (fun hHeld=>?_)
   clear hK K
   (try simp only [pn])
   refine wpAnyH_ready (rs:=[4]) (by kernel_rfl) (by simp) ?_
   refine AllReadyH.cons rfl (fun K hK=>?_) (AllReadyH.nil)
   go_simp
   refine hK.out _ _ hHeld (fun hHeld=>?_)
   clear hK K
   (try simp only [pn])
   refine wpAnyH_ready (rs:=[15]) (by kernel_rfl) (by simp) ?_
   refine AllReadyH.cons rfl (fun K hK=>?_) (AllReadyH.nil)
   (refine step_append_lies _ (by rfl) (.tmp 20) (.tmp 30) 41 (by rfl) (E.b+1) 99 i0 _ 5 64 Tryz.underlying41 I0.out I1.out I2.out I3.out rfl (by decide) (.slice (some ⟨g,0,none⟩) P2.length cap) P2.length (cellsM P2 kvs2) (by rfl) (HS.out.own.drew.alloc _) ⟨w2.heap.size,0,none⟩ 1 1 [.int .u8 k2,.int .i64 a2,.string t2,.int .i64 n2,.slice none 0 0] (by rfl) (by rfl) (World.news_of_block (cs:=#[.int .u8 k2,.int .i64 a2,.string t2,.int .i64 n2,.slice none 0 0]) (t := 99) (fr:=(0,0)) (heap_alloc_new _ _)) (by simp [Value.oneCell']) (by decide) (by unfold maxLen;omega) (by omega) (by simp;omega) _ (by rfl) ?_;intro g5 cap5 w5 hown5 hgrow5 hat5 hlt5;have c45:w5.cell? ⟨E.b,3,none⟩=some (.slice (some ⟨g,0,none⟩) P2.length cap):=(hgrow5.cell_far ⟨E.b,3,none⟩ (by simp;omega) (fun e=>hgb e.symm)).trans ((World.cell?_alloc_lt _ _ _ hlt).trans c3);have z45:w5.frozen? ⟨E.b,3,none⟩=false:=(hgrow5.frozen_far ⟨E.b,3,none⟩ (by simp;omega) (fun e=>hgb e.symm)).trans ((World.frozen?_of_block (w:=w2) (Below.heap_alloc w2 _ E.b hlt)).trans z3);have k0:w5.cell? ⟨w.heap.size,0,none⟩=some (.int .u8 k2):=(hgrow5.cell_far ⟨w.heap.size,0,none⟩ (by simp;omega) (fun e=>hqv e.symm)).trans ((World.cell?_alloc_lt _ _ _ hqlt).trans m0);have k1:w5.cell? ⟨w.heap.size,1,none⟩=some (.int .i64 (a2:Int)):=(hgrow5.cell_far ⟨w.heap.size,1,none⟩ (by simp;omega) (fun e=>hqv e.symm)).trans ((World.cell?_alloc_lt _ _ _ hqlt).trans m1);have kk2:w5.cell? ⟨w.heap.size,2,none⟩=some (.string t2):=(hgrow5.cell_far ⟨w.heap.size,2,none⟩ (by simp;omega) (fun e=>hqv e.symm)).trans ((World.cell?_alloc_lt _ _ _ hqlt).trans m2);have k3:w5.cell? ⟨w.heap.size,3,none⟩=some (.int .i64 n2):=(hgrow5.cell_far ⟨w.heap.size,3,none⟩ (by simp;omega) (fun e=>hqv e.symm)).trans ((World.cell?_alloc_lt _ _ _ hqlt).trans m3))
   refine hK.out _ _ ⟨k0,k1,kk2,k3⟩ (fun hHeld=>?_)
   clear hK K
   (try simp only [pn])
   refine tk (i:=16) (v:=?_) rfl hHeld ?_ ?_
   rotate_left
   · (intro w hSw;(try dsimp only at hSw);go_simp;try with_reducible rfl)
   (try simp only [pn])
   refine tk (i:=17) (v:=?_) rfl hHeld ?_ ?_
   rotate_left
   · (intro w hSw;(try dsimp only at hSw);go_simp;try with_reducible rfl)
   (try simp only [pn])
   refine wpAnyH_ready (rs:=[18]) (by kernel_rfl) (by simp) ?_
   refine AllReadyH.cons rfl (fun K hK=>?_) (AllReadyH.nil)
   go_simp
   refine hK.out _ _ (by refine ⟨?_,?_,?_,?_⟩<;>(rw [World.cell?_of_block (w:=w5) (Below.heap_setCell _ _ _ _ hqb)];assumption)) (fun hHeld=>?_)
   clear hK K
   (try simp only [pn])
   refine wpAnyH_done (by kernel_rfl) ?_ _
   have HP:=lh (HS.out.push (nd:=⟨k2,a2,t2,n2,[]⟩) (of_drew hgrow5) (by simpa using hat5) rfl rfl rfl hown5)
   clear hown5 hgrow5 hat5 c45 z45 c3 z3 m0 m1 m2 m3 k0 k1 kk2 k3
   have HQ:=lh (HF.out.trans ((Fq.of_fr HP.out.2 (nw_nil _)).mono HF.out.size))
   have HRS:=lh HP.out.1
   generalize w5.setCell ⟨E.b,3,none⟩ (Value.slice (some ⟨g5,0,none⟩) (P2.length+1) cap5)=wL at *
   clear HP HS HF HB2 hqlt hqv hqb hlt hgb I0 I1 I2 I3
   go_wp2_with fail
   go_loopw [7] (fun iv wr=>∃j:Nat,j≤ks2.length∧iv=.int .i64 j∧Hid (∃vj kvsj,RS E vj kvsj (openN P2 k2 a2 t2 n2 (ks2.take j)) i d 0 wr∧Fq E W0.heap.size (Value.slice (some ⟨g,0,none⟩) P2.length cap) kvs vj kvsj W0 wr)) (fun iv _=>ks2.length-(intOf iv).toNat)
   case atStart=>exact ⟨0,by omega,rfl,lh ⟨_,_,by rw [List.take_zero,open_nil];exact HRS.out,HQ.out⟩⟩
   case round =>
    obtain ⟨j,hj,rfl,HJ⟩:=hrel
    obtain ⟨vj,kvsj,hsj,hfj⟩:=HJ.out
    have HBJ:=lh (Lcl_fq HB.out hfj)
    have m4:=HBJ.out.cell 4 rfl
    have HSJ:=lh hsj
    have HFJ:=lh hfj
    by_cases hlt:j<ks2.length
    · obtain ⟨kp',hk',hg'⟩:=(HE.out.fq hfj).open
      obtain ⟨b,c0,c1,c2,c3,c4,hkp,_,hx,e0,e1,e2,e3,e4⟩:=hg' j hlt
      simp only [Value.agg.injEq,Array.mk.injEq,List.cons.injEq,Value.slice.injEq,and_true,true_and] at hk'
      subst hk' hkp
      have b0:(0:Int)≤(j:Int):=by omega
      have b1:(j:Int)<(ks2.length:Int):=by omega
      have h63:(j:Int)+1≤9223372036854775807:=by have:=len_size ks2;have:=HR.out;omega
      have CT:=lh (HIH.out j hlt E vj kvsj P2 k2 a2 t2 n2 (ks2.take j) i d _ _ hsj hx (by have:=size_take hlt;have:=HLN.out;have:=HR.out;omega))
      clear hsj hfj hx hg' HE
      go_wp2_with fail
      (with_reducible refine CT.out.mono ?_)
      rintro x w7 ⟨rfl,v7,kvs7,h7,f7⟩
      have H7:=lh (show ∃vj kvsj,RS E vj kvsj (openN P2 k2 a2 t2 n2 (ks2.take (j+1))) i d 0 w7∧Fq E W0.heap.size (Value.slice (some ⟨g,0,none⟩) P2.length cap) kvs vj kvsj W0 w7 from ⟨v7,kvs7,by rw [← take_one hlt];exact h7,HFJ.out.trans (f7.mono HFJ.out.size)⟩)
      clear CT h7 f7
      go_wp2_with fail
      go_roundw
      case rel=>exact ⟨j+1,by omega,by go_num,H7⟩
      case measure=>simp [intOf];omega
    · have hjn:j=ks2.length:=by omega
      subst hjn
      clear hsj hfj
      go_wp2
      simp [bodyPost,results,Tryz.results283,go_sem]
      refine ⟨rfl,vj,kvsj,?_,HF0.out.trans (HFJ.out.mono HF0.out.size)⟩
      have:=HSJ.out
      rw [List.take_length,open_done,HP2.out] at this
      exact this
theorem put_at:∀(m:Nat) (y:Ast),y.size≤m→PutAt y
 | 0,y,h=>by have:=size_pos y;omega
 | m+1,.mk k a t n ks,h=>put_of k a t n ks fun j hj=>put_at m ks[j] (by
  have:=size_take hj
  simp only [Ast.size] at h
  omega)
end
end Rf
end Go.Proofs.YthdioipfdbbmmaaGreatDoor
