/- Contracts. -/
import Derived.Test.YthdioipfdbbmmaaGreatDoorKah
import Derived.Test.YthdioipfdbbmmaaGreatDoorKao
import Derived.Test.YthdioipfdbbmmaaGreatDoorKay
import Derived.Laws.CopyOwn
set_option linter.all false
set_option maxRecDepth 1000000
set_option maxHeartbeats 16000000
namespace Go.Proofs.YthdioipfdbbmmaaGreatDoor
namespace Nm
open Go.RowKit Go.Maps Tr
theorem mulU_at (n:Nat)(hn:n≤70000)(w:World):Calls Tryz.prog 209 #[.int .u64 1,.int .u64 (n:Int)] w fun e w'=>e=.returned (.tuple #[.int .u64 0,.int .u64 (n:Int)])∧w'=w:=by
 have h:=Go.Proofs.Any.bits_Mul { Tryz.lays105 with } 1 n (by omega) (by omega) w
 rw [Nat.one_mul,Nat.div_eq_of_lt (by omega),Nat.mod_eq_of_lt (by omega)] at h
 exact h
theorem stringsClone_at (s:ByteArray)(w:World)(hs:s.size≤70000):Calls Tryz.prog 137 #[.string s] w fun e w'=>e=.returned (.string s)∧Below w.heap.size w w':=by
 have C:=lh (Go.Proofs.Tryz.stringslite_Clone s w (by omega))
 go_enter Tryz.func137,Tryz.ntmps137
 go_wp2_with fail
 (with_reducible refine C.out.mono ?_)
 rintro e w1 ⟨rfl,hb⟩
 go_wp2_with fail
 go_ret
 exact ⟨rfl,hb⟩
theorem splice_rep (n k m:Nat)(hk:k+m≤n):splice (List.replicate k (.int .i64 (-1))++List.replicate (n-k) (.int .i64 0)) k (List.replicate m (.int .i64 (-1)))=List.replicate (k+m) (Value.int .i64 (-1))++List.replicate (n-(k+m)) (.int .i64 0):=by
 unfold splice
 rw [List.take_left' (by simp),List.length_replicate,← List.drop_drop,List.drop_left' (by simp),List.drop_replicate,← List.append_assoc,List.replicate_append_replicate]
 congr 2
 omega
theorem repeat_at (w:World)(xb xo c n:Nat)(hx:w.cell? ⟨xb,xo,none⟩=some (.int .i64 (-1)))(hxb:xb<w.heap.size)(h0:0<n)(hn:n≤70000) :
 Calls Tryz.prog 138 #[.slice (some ⟨xb,xo,none⟩) 1 c,.int .i64 (n:Int)] w fun e w'=>e=.returned (.slice (some ⟨w.heap.size,0,none⟩) n n)∧w'.heap[w.heap.size]?=some (.cells (List.replicate n (.int .i64 (-1))).toArray 3 (0,0))∧Below w.heap.size w w':=by
 obtain ⟨i0,hi,hz0,hz1,hz2⟩:=infoU_of infoUI
 have M:=lh (mulU_at n hn w)
 have hw1:IntKind.u64.wrap (n:Int)=n:=by rw [IntKind.wrap_u64];omega
 have hw2:IntKind.i64.wrap (n:Int)=n:=IntWalk.i64_in _ (by omega)
 have q1:¬ ((n:Int)<0):=by omega
 have q2:¬ ((9223372036854775807:Int)<(n:Int)):=by omega
 obtain ⟨wm,hmk,hown,hgr⟩:=run_make_full (P:=Tryz.prog) (w:=w) w.heap.size 32 3 i0 _ 1 Tryz.underlying32 hi hz0 hz1 .i64 .i64 n (by rw [hz2];omega) (by unfold maxLen;omega) (Nat.le_refl _)
 have hb0:Below w.heap.size w wm:=(Below.refl _ _).grown hgr (Nat.le_refl _) (fun k hk=>by cases hk)
 have hg0:wm.heap[w.heap.size]?=some (.cells (List.replicate n (.int .i64 0)).toArray 3 (0,0)):=by
  rcases hown.2 with ⟨h1,_⟩|⟨g,c,cur,h1,_,h3,h4,h5,h6,h7⟩
  · cases h1
  · cases h1
    rw [Nat.mul_one] at h6 h7
    rw [show (Value.int IntKind.i64 0).cells=#[.int .i64 0] from rfl,toList_madeCells_one,List.take_of_length_le (by simp [h6])] at h7
    rw [h3,← h7]
 have HX:=lh hx
 have HG:=lh hg0
 have HB:=lh hb0
 clear hx hown hgr hg0 hb0
 go_enter Tryz.func138,Tryz.ntmps138
 go_wp2_with fail
 (with_reducible refine M.out.mono ?_)
 rintro e w1 ⟨rfl,rfl⟩
 clear M
 have hmin:[Value.int .i64 (-1)].length=Nat.min 1 n:=by
  have:Nat.min 1 n=1:=Nat.min_eq_left h0
  rw [this];rfl
 have HSR:∀j v,[Value.int .i64 (-1)][j]?=some v→wm.cell? ((⟨xb,xo,none⟩:Addr).add j)=some v:=fun j v hj=>by
  cases j with
  | zero =>
   cases hj
   rw [addU_plain,Nat.add_zero,HB.out.cell (p:=⟨xb,xo,none⟩) hxb]
   exact HX.out
  | succ j=>simp at hj
 go_wp2_with ((with_reducible show wpList _ _ _ _ _ _);refine wpList_copy_splice (o:=⟨some 33,_,_,_,_,_⟩) rfl (.tmp 31) (.tmp 32) 32 32 rfl 3 Tryz.underlying32 (by kernel_rfl) (some ⟨w1.heap.size,0,none⟩) (some ⟨xb,xo,none⟩) n n 1 c rfl rfl w1.heap.size 0 (List.replicate n (.int .i64 0)) 3 HG.out [.int .i64 (-1)] hmin (fun _=>⟨rfl,_,rfl,HSR⟩) (by simp;omega) (by simp [Value.oneCell']) w1.heap.size w1 HB.out (Nat.le_refl _) ?_;intro w2 hg2 hb2)
 clear HG HB hmk
 have HG2:Hid (w2.heap[w1.heap.size]?=some (.cells (List.replicate 1 (Value.int .i64 (-1))++List.replicate (n-1) (Value.int .i64 0)).toArray 3 (0,0))):=lh (by
  have h:=hg2.out
  have h3:=splice_rep n 0 1 (by omega)
  simp only [List.replicate_zero,List.nil_append,Nat.sub_zero,Nat.zero_add] at h3
  rw [show ([.int .i64 (-1)]:List Value)=List.replicate 1 (.int .i64 (-1)) from rfl,h3] at h
  exact h)
 have HB2:=lh hb2
 clear hg2 hb2
 go_wp2_with fail
 go_loopw [8] (fun iv wr=>∃k:Nat,iv=.int .i64 (k:Int)∧0<k∧k≤n∧Hid (wr.heap[w1.heap.size]?=some (.cells (List.replicate k (Value.int .i64 (-1))++List.replicate (n-k) (Value.int .i64 0)).toArray 3 (0,0)))∧Hid (Below w1.heap.size w1 wr)) (fun iv _=>n-(intOf iv).toNat)
 case atStart=>exact ⟨1,by rw [show Nat.min 1 n=1 from Nat.min_eq_left h0],by omega,by omega,HG2,HB2⟩
 case round =>
  clear HG2 HB2
  obtain ⟨k,rfl,hk0,hk,HG,HB⟩:=hrel
  have q0:(0:Int)≤(k:Int):=by omega
  by_cases hkn:k<n
  · have q3:(k:Int)<(n:Int):=by omega
    have q4:¬ ((k:Int)<0):=by omega
    have q5:(k:Int)≤(n:Int):=by omega
    have q6:IntKind.i64.wrap ((k:Int)+(Nat.min k (n-k):Nat))=((k+Nat.min k (n-k):Nat):Int):=by
     have:Nat.min k (n-k)≤n-k:=Nat.min_le_right _ _
     rw [IntWalk.i64_in _ (by omega)];omega
    obtain ⟨m,hm⟩:∃m,Nat.min k (n-k)=m:=⟨_,rfl⟩
    have hm1:m≤n-k:=by rw [← hm];exact Nat.min_le_right _ _
    have hm2:m≤k:=by rw [← hm];exact Nat.min_le_left _ _
    have hm3:0<m:=by rw [← hm];exact Nat.lt_min.2 ⟨hk0,by omega⟩
    have hml:(List.replicate m (Value.int .i64 (-1))).length=Nat.min k (n-k):=by rw [hm,List.length_replicate]
    have hsr:∀j v,(List.replicate m (Value.int .i64 (-1)))[j]?=some v→wr.cell? ((⟨w1.heap.size,0,none⟩:Addr).add j)=some v:=fun j v hj=>by
     have hjm:j<m:=by simpa using (List.getElem?_eq_some_iff.1 hj).1
     rw [addU_plain,Nat.zero_add,cell_of_row _ _ _ _ _ _ HG.out,← hj]
     simp [List.getElem?_append,List.getElem?_replicate,hjm,show j<k by omega]
    have hone:∀v∈List.replicate m (Value.int .i64 (-1)),v.oneCell'=true:=fun v hv=>by rw [List.eq_of_mem_replicate hv];rfl
    have hfit:k+(List.replicate m (Value.int .i64 (-1))).length≤(List.replicate k (Value.int .i64 (-1))++List.replicate (n-k) (Value.int .i64 0)).length:=by simp;omega
    have q6:IntKind.i64.wrap ((k:Int)+(m:Int))=((k+m:Nat):Int):=by
     rw [IntWalk.i64_in _ (by omega)];omega
    have HM:=lh hm
    have HML:=lh hml
    clear hm hml
    have nk:¬ n=k:=by omega
    have HBd:=lh HB.out.drew
    go_upto_region 9 with fail
    go_region_law (refine step_copy_splice rfl (.tmp 41) (.tmp 44) 32 32 rfl 3 Tryz.underlying32 (by decide +kernel) (some ⟨w1.heap.size,k,none⟩) (some ⟨w1.heap.size,0,none⟩) (n-k) (n-k) k n rfl rfl w1.heap.size k _ 3 HG.out (List.replicate m (.int .i64 (-1))) HML.out (fun _=>⟨rfl,_,rfl,hsr⟩) hfit hone w1.heap.size w1 HBd.out (Nat.le_refl _) ?_;intro w3 hg3 hb3)
    go_wp2
    go_roundw
    case rel=>exact ⟨k+m,by first|rfl|simp|rw [Int.natCast_add],by omega,by omega,lh (by have h:=hg3.out;rw [splice_rep n k m (by omega)] at h;exact h),(by first|exact lh hb3|exact lh trivial)⟩
    case measure=>simp [intOf];omega
  · obtain rfl:k=n:=by omega
    go_wp2_with fail
    go_ret
    exact ⟨rfl,by simpa using HG.out,HB.out⟩
end Nm
end Go.Proofs.YthdioipfdbbmmaaGreatDoor
