/- Contracts. -/
import Derived.Test.YthdioipfdbbmmaaGreatDoorKah
import Derived.Test.YthdioipfdbbmmaaGreatDoorKaj
import Derived.Shelf.Bytes.SlCountOne
import Derived.Test.YthdioipfdbbmmaaGreatDoorProg
import Derived.WalkKit
import Derived.Handy
import Derived.Lib.Hide
set_option linter.all false
set_option maxRecDepth 1000000
set_option maxHeartbeats 16000000
namespace Go.Proofs.YthdioipfdbbmmaaGreatDoor
namespace Nm
open Tr
theorem bind_ok {α β:Type}{x:NE α}{f:α→NE β}{b:β}(h:(x >>= f)=.ok b):∃a,x=.ok a∧f a=.ok b:=by
 cases x with
 | error e=>cases h
 | ok a=>exact ⟨a,rfl,h⟩
section
variable {ns:List Nd}{S:Nat→Nat}{tabs:List Tb}
theorem row_len {i x:Nat}{s t:St}(h:row ns tabs i s=.ok (x,t)):SameE s t:=by
 unfold row at h
 obtain ⟨⟨t1,s1⟩,h1,h⟩:=bind_ok h
 obtain ⟨s2,h2,h⟩:=bind_ok h
 cases h
 exact (expr_len _ _ _ h2).trans (tableOf_len h1)
theorem exprs_len:∀(l:List Nat) {s t:St},exprs ns l s=.ok t→SameE s t
 | [],_,_,h=>by cases h;rfl
 | i::r,s,t,h=>by
  unfold exprs at h
  obtain ⟨s1,h1,h⟩:=bind_ok h
  exact (exprs_len r h).trans (expr_len _ _ _ h1)
theorem put_len {i:Nat}{s t:St}(h:put ns tabs i s=.ok t):SameE s t:=by
 unfold put at h
 obtain ⟨⟨t1,s1⟩,h1,h⟩:=bind_ok h
 simp only at h
 split at h
 · cases h
 · obtain ⟨⟨t2,s2⟩,h2,h⟩:=bind_ok h
   exact (exprs_len _ h).trans ((show SameE s2 (s2.set i t2) from rfl).trans ((row_len h2).trans (tableOf_len h1)))
structure More (ns:List Nd)(S:Nat→Nat)(i:Nat)(s:St)(more:List Item)(t:St):Prop where
 ok:∀x∈more,ItOk ns x
 less:meas S more+1≤2*S i
 len:t.envs.length=s.envs.length+ends more
theorem more_nil (h:Rt ns S){i:Nat}(hi:i<ns.length){s t:St}(hs:SameE s t):More ns S i s [] t :=
 ⟨fun _ hx=>(by cases hx),(by have:=(h.sz.size i hi).1;simp [meas];omega),(by unfold SameE at hs;simpa [ends] using hs)⟩
theorem stmt_more (h:Rt ns S){i:Nat}(hi:i<ns.length){s t:St}{more:List Item}(hs:0<s.envs.length)(he:statement ns tabs i s=.ok (more,t)):More ns S i s more t:=by
 unfold statement at he
 rcases Classical.em ((nd ns i).kind=6) with hk|hk
 · rw [if_pos hk] at he
   cases he
   have hm:=h.meas_kids hi
   refine ⟨?_,?_,?_⟩
   · intro x hx
     rcases List.mem_append.1 hx with hx|hx
     · exact h.block_kids hi hk x hx
     · rw [List.mem_singleton.1 hx];trivial
   · rw [meas_app]
     simp [meas,wt] at hm ⊢
     omega
   · rw [ends_app,kinds_ends]
     simp [ends]
 rw [if_neg hk] at he
 rcases Classical.em ((nd ns i).kind=7) with hk|hk
 · rw [if_pos hk] at he
   obtain ⟨⟨t1,s1⟩,h1,he⟩:=bind_ok he
   obtain ⟨s2,h2,he⟩:=bind_ok he
   obtain ⟨s3,h3,he⟩:=bind_ok he
   cases he
   have e1:=row_len h1
   have e2:=column_len h2
   have e3:=assign_len h3 (by unfold SameE at e1 e2;omega)
   exact more_nil h hi (e3.trans (e2.trans e1))
 rw [if_neg hk] at he
 rcases Classical.em ((nd ns i).kind=8) with hk|hk
 · rw [if_pos hk] at he
   obtain ⟨⟨t1,s1⟩,h1,he⟩:=bind_ok he
   obtain ⟨s2,h2,he⟩:=bind_ok he
   obtain ⟨s3,h3,he⟩:=bind_ok he
   cases he
   exact more_nil h hi ((expr_len _ _ _ h3).trans ((column_len h2).trans (row_len h1)))
 rw [if_neg hk] at he
 rcases Classical.em ((nd ns i).kind=9) with hk|hk
 · rw [if_pos hk] at he
   obtain ⟨s1,h1,he⟩:=bind_ok he
   cases he
   exact more_nil h hi (put_len h1)
 rw [if_neg hk] at he
 rcases Classical.em ((nd ns i).kind=10) with hk|hk
 · rw [if_pos hk] at he
   obtain ⟨⟨t1,s1⟩,h1,he⟩:=bind_ok he
   cases he
   exact more_nil h hi (row_len h1)
 rw [if_neg hk] at he
 rcases Classical.em ((nd ns i).kind=11) with hk|hk
 · rw [if_pos hk] at he
   obtain ⟨⟨t1,s1⟩,h1,he⟩:=bind_ok he
   obtain ⟨s2,h2,he⟩:=bind_ok he
   obtain ⟨s3,h3,he⟩:=bind_ok he
   cases he
   have e1:=tableOf_len h1
   have e2:=column_len h2
   have e3:=assign_len h3 (by unfold SameE at e1 e2;omega)
   exact more_nil h hi (e3.trans (e2.trans e1))
 rw [if_neg hk] at he
 rcases Classical.em ((nd ns i).kind=12) with hk|hk
 · rw [if_pos hk] at he
   obtain ⟨⟨t1,s1⟩,h1,he⟩:=bind_ok he
   cases he
   exact more_nil h hi (tableOf_len h1)
 rw [if_neg hk] at he
 rcases Classical.em ((nd ns i).kind=13) with hk|hk
 · rw [if_pos hk] at he
   rcases Classical.em ((nd ns (kid ns i 0)).kind=20) with h20|h20
   · simp only [h20,if_true] at he
     obtain ⟨⟨t1,s1⟩,h1,he⟩:=bind_ok he
     cases he
     exact more_nil h hi (row_len h1)
   · simp only [h20,if_false] at he
     obtain ⟨⟨t1,s1⟩,h1,he⟩:=bind_ok he
     cases he
     exact more_nil h hi (tableOf_len h1)
 rw [if_neg hk] at he
 rcases Classical.em ((nd ns i).kind=14) with hk|hk
 · rw [if_pos hk] at he
   obtain ⟨s1,h1,he⟩:=bind_ok he
   obtain ⟨s2,h2,he⟩:=bind_ok he
   cases he
   obtain ⟨k1,k2,_⟩:=h.if_kids hi hk
   have hm:=h.meas_kids hi
   have hd:meas S (kidsOf ns i)=meas S ((kidsOf ns i).take 2)+meas S ((kidsOf ns i).drop 2):=by rw [← meas_app,List.take_append_drop]
   have hed:ends ((kidsOf ns i).drop 2)=0:=by
    have:=kinds_ends ns i
    rw [← List.take_append_drop 2 (kidsOf ns i),ends_app] at this
    omega
   refine ⟨k2,by omega,?_⟩
   rw [hed]
   exact (expr_len _ _ _ h2).trans (expr_len _ _ _ h1)
 rw [if_neg hk] at he
 rcases Classical.em ((nd ns i).kind=15) with hk|hk
 · rw [if_pos hk] at he
   obtain ⟨s1,h1,he⟩:=bind_ok he
   obtain ⟨s2,h2,he⟩:=bind_ok he
   cases he
   have hsh:=h.shape i hi
   rw [hk] at hsh
   have hr:Tr.isR (kindsOf ns (nd ns i)) [21,21,6]=true:=by simpa [kidsR] using hsh
   obtain ⟨_,hw⟩:=h.want hi hr
   obtain ⟨b1,b2,_,b3⟩:=hw 2 (by simp)
   have b3:(nd ns (kid ns i 2)).kind=6:=by simpa using b3
   have hm:=h.meas_kids b2
   have e1:s1=s:=by
    unfold mustBeNew at h1
    split at h1
    · cases h1
    · cases h1;rfl
   subst e1
   have e2:=declare_len h2 (by simp)
   obtain ⟨j,hj,hj1,hj2,_⟩:∃j:Nat,((kid ns i 2:Nat):Int)=(j:Int)∧i<j∧j+S j≤i+S i∧j<ns.length:=by
    refine h.sz.kid hi ?_
    have hl:=(h.isr hr).1
    rw [kindsOf_len] at hl
    have hlt:2<(nd ns i).kids.length:=by rw [hl];simp
    rw [← (h.kidOf hi hlt).1]
    show (nd ns i).kids.getD 2 0∈(nd ns i).kids
    simp [List.getD,hlt]
   obtain rfl:j=kid ns i 2:=by omega
   refine ⟨?_,?_,?_⟩
   · intro x hx
     rcases List.mem_append.1 hx with hx|hx
     · exact h.block_kids b2 b3 x hx
     · rw [List.mem_singleton.1 hx];trivial
   · rw [meas_app]
     have:meas S [none]=1:=rfl
     omega
   · rw [ends_app,kinds_ends]
     unfold SameE at e2
     rw [e2]
     simp [ends]
 rw [if_neg hk] at he
 rcases Classical.em ((nd ns i).kind=16) with hk|hk
 · rw [if_pos hk] at he
   obtain ⟨s1,h1,he⟩:=bind_ok he
   obtain ⟨s2,h2,he⟩:=bind_ok he
   cases he
   have e1:=expr_len _ _ _ h1
   exact more_nil h hi ((assign_len h2 (by unfold SameE at e1;omega)).trans e1)
 rw [if_neg hk] at he
 rcases Classical.em ((nd ns i).kind=17) with hk|hk
 · rw [if_pos hk] at he
   obtain ⟨s1,h1,he⟩:=bind_ok he
   cases he
   exact more_nil h hi (expr_len _ _ _ h1)
 rw [if_neg hk] at he
 rcases Classical.em ((nd ns i).kind=19) with hk|hk
 · rw [if_pos hk] at he
   split at he
   · cases he
   · cases he;exact more_nil h hi rfl
 rw [if_neg hk] at he
 cases he
 exact more_nil h hi rfl
end
end Nm
section
open Go.Lib
def lineF (xs:List Int):Nat→Nat
 | 0=>1
 | k+1=>if xs.getD k 0=10 then lineF xs k+1 else lineF xs k
def lastF (xs:List Int):Nat→Int
 | 0=>-1
 | k+1=>if xs.getD k 0=10 then (k:Int) else lastF xs k
theorem last_bd (xs:List Int)(k:Nat):-1≤lastF xs k∧lastF xs k<k:=by
 induction k with
 | zero=>simp [lastF]
 | succ k ih=>unfold lastF;split<;>omega
theorem line_bd (xs:List Int)(k:Nat):1≤lineF xs k∧lineF xs k≤k+1:=by
 induction k with
 | zero=>simp [lineF]
 | succ k ih=>unfold lineF;split<;>omega
theorem line_mono (xs:List Int)(j d:Nat):lineF xs j≤lineF xs (j+d)∧(lineF xs j=lineF xs (j+d)→lastF xs j=lastF xs (j+d)):=by
 induction d with
 | zero=>simp
 | succ d ih =>
  rw [show j+(d+1)=(j+d)+1 from rfl,lineF,lastF]
  split
  · exact ⟨by omega,fun h=>by omega⟩
  · exact ih
theorem places (xs:List Int)(j k:Nat)(h:j<k):lineF xs j<lineF xs k∨(lineF xs j=lineF xs k∧(j:Int)-lastF xs j<k-lastF xs k):=by
 obtain ⟨d,rfl⟩:∃d,k=j+d:=⟨k-j,by omega⟩
 have:=line_mono xs j d
 rcases Nat.lt_or_ge (lineF xs j) (lineF xs (j+d)) with h1|h1
 · exact Or.inl h1
 · have e:lineF xs j=lineF xs (j+d):=by omega
   exact Or.inr ⟨e,by have:=this.2 e;omega⟩
theorem count_line (xs:List Int)(hr:∀i,0≤xs.getD i 0∧xs.getD i 0<256)(k:Nat)(hk:k≤xs.length) :
 1+((countByte (bytesOf (xs.take k)) (10:Int).toNat.toUInt8:Nat):Int)=lineF xs k:=by
 induction k with
 | zero=>rfl
 | succ k ih =>
  have ih:=ih (by omega)
  have ht:xs.take (k+1)=xs.take k++[xs.getD k 0]:=by
   rw [List.take_succ_eq_append_getElem (by omega)]
   simp [List.getD,List.getElem?_eq_getElem (show k<xs.length by omega)]
  rw [ht,lineF]
  obtain ⟨h0,h1⟩:=hr k
  generalize xs.getD k 0=c at h0 h1
  have hb:∀l:List Int,bytesOf (l++[c])=bytesOf l++[c.toNat.toUInt8]:=by intro l;simp [bytesOf]
  have hcb:∀l:List UInt8,∀x y:UInt8,countByte (l++[x]) y=countByte l y+if x=y then 1 else 0:=by
   intro l x y
   simp only [countByte,List.count_append,List.count_singleton]
   by_cases h:x=y<;>simp [h]
  rw [hb,hcb]
  have:c.toNat.toUInt8=(10:Int).toNat.toUInt8↔c=10:=by
   constructor
   · intro h
     have:=congrArg UInt8.toNat h
     simp at this
     omega
   · rintro rfl;rfl
  by_cases h:c=10
  · rw [if_pos (this.2 h),if_pos h];omega
  · rw [if_neg (fun h'=>h (this.1 h')),if_neg h];omega
end
section
open Go.RowKit Go.Lib
theorem ret_i64 {a b:Int}(h:a=b):Ending.returned (.int .i64 a)=.returned (.int .i64 b):=by rw [h]
theorem count_at (b off n c d:Nat)(xs:List Int)(w:World)(hn:xs.length=n)(hc:∀i,i<n→w.cell? ⟨b,off+i,none⟩=some (.int .u8 (xs.getD i 0)))(hs:w.cell? ⟨d,0,none⟩=some (.int .u8 10)) :
 Calls Tryz.prog 85 #[.slice (some ⟨b,off,none⟩) n c,.slice (some ⟨d,0,none⟩) 1 1] w fun e w'=>e=.returned (.int .i64 (countByte (bytesOf xs) (10:Int).toNat.toUInt8))∧w=w':=by
 have h26:=@run_callFunc_extern Tryz.prog 150 _ Extern.BytealgCount.count Tryz.func150 (by kernel_rfl) (by kernel_rfl) (by kernel_rfl) (by kernel_rfl)
 have hr:=run_countSlice (P:=Tryz.prog) w b off n c xs hn hc 10
 generalize countByte (bytesOf xs) (10:Int).toNat.toUInt8=m at *
 clear hc hn
 go_enter Tryz.func85,Tryz.ntmps85
 go_wp2
 go_ret
 exact ⟨rfl,rfl⟩
theorem count_nil (d:Nat)(w:World)(hs:w.cell? ⟨d,0,none⟩=some (.int .u8 10)) :
 Calls Tryz.prog 85 #[.slice none 0 0,.slice (some ⟨d,0,none⟩) 1 1] w fun e w'=>e=.returned (.int .i64 0)∧w=w':=by
 have h26:=@run_callFunc_extern Tryz.prog 150 _ Extern.BytealgCount.count Tryz.func150 (by kernel_rfl) (by kernel_rfl) (by kernel_rfl) (by kernel_rfl)
 have hr:=run_countNil (P:=Tryz.prog) w 0 0 10
 go_enter Tryz.func85,Tryz.ntmps85
 go_wp2
 go_ret
 exact ⟨rfl,rfl⟩
theorem last_nil (w:World) :
 Calls Tryz.prog 86 #[.slice none 0 0,.int .u8 10] w fun e w'=>e=.returned (.int .i64 (-1))∧w=w':=by
 go_enter Tryz.func86,Tryz.ntmps86
 go_wp2
 refine wp_loop_rounds 1 ?_
 rw [rounds_succ]
 go_wp2
 go_ret
 exact ⟨rfl,rfl⟩
theorem last_in (b off n c:Nat)(xs:List Int)(w:World)(_hn:n≤xs.length)(hb:n≤70000)(hc:∀i,i<n→w.cell? ⟨b,off+i,none⟩=some (.int .u8 (xs.getD i 0))) :
 Calls Tryz.prog 152 #[.slice (some ⟨b,off,none⟩) n c,.int .u8 10] w fun e w'=>e=.returned (.int .i64 (lastF xs n))∧w=w':=by
 have HC:=lh hc
 clear hc
 go_enter Tryz.func152,Tryz.ntmps152
 go_wp2
 go_loop [5] (fun i=>∃m:Nat,m≤n∧i=.int .i64 ((m:Int)-1)∧lastF xs n=lastF xs m) (fun i=>(RowKit.intOf i+1).toNat)
 case atStart=>exact ⟨n,Nat.le_refl _,rfl,rfl⟩
 case round =>
  obtain ⟨m,hm,rfl,he⟩:=hrel
  have HE:=lh he
  clear he
  cases m with
  | zero =>
   go_wp2
   go_ret
   exact ⟨by rw [HE.out];rfl,rfl⟩
  | succ m =>
   have hcell:=HC.out m (by omega)
   obtain ⟨y,hy⟩:∃y,xs.getD m 0=y:=⟨_,rfl⟩
   rw [hy] at hcell
   have HY:=lh hy
   clear hy
   rw [show ((m+1:Nat):Int)-1=(m:Int) by omega]
   by_cases h10:y=10
   · subst h10
     go_wp2
     go_ret
     exact ⟨ret_i64 (by rw [HE.out,lastF,if_pos HY.out]),rfl⟩
   · have hd:(y==10)=false:=by simpa using h10
     go_wp2
     go_round
     case rel=>exact ⟨m,by omega,by go_num,by rw [HE.out,lastF,if_neg (by rw [HY.out];exact h10)]⟩
     case measure=>simp only [RowKit.intOf];omega
theorem last_at (b off n c:Nat)(xs:List Int)(w:World)(hn:n≤xs.length)(hb:n≤70000)(hc:∀i,i<n→w.cell? ⟨b,off+i,none⟩=some (.int .u8 (xs.getD i 0))) :
 Calls Tryz.prog 86 #[.slice (some ⟨b,off,none⟩) n c,.int .u8 10] w fun e w'=>e=.returned (.int .i64 (lastF xs n))∧w=w':=by
 have H:=last_in b off n c xs w hn hb hc
 clear hc hn
 generalize lastF xs n=r at *
 go_enter Tryz.func86,Tryz.ntmps86
 go_wp2_with (go_at_call 152;refine H.mono ?_;rintro e' w' ⟨rfl,rfl⟩)
 go_ret
 exact ⟨rfl,rfl⟩
theorem new_nil (at' n:Int)(w:World)(h0:n≠0) :
 Calls Tryz.prog 46 #[.slice none 0 0,.int .i64 at',.int .i64 n] w fun e w'=>e=.returned (.iface 109 (.pointer (some ⟨w.heap.size+1,0,none⟩)))∧w'=(w.alloc (.cells #[.int .u8 10] 5)).alloc (.cells #[.int .i64 0,.int .i64 1,.int .i64 1,.int .i64 n] 112):=by
 have hz:(n==0)=false:=by simpa using h0
 have hm:min (max at' 0) 0=0:=by omega
 go_enter Tryz.func46,Tryz.ntmps46
 go_wp2_with (first|(go_at_call 85;(with_reducible refine (count_nil _ _ (by simp)).mono ?_);rintro e' w' ⟨rfl,rfl⟩)|(go_at_call 86;(with_reducible refine (last_nil _).mono ?_);rintro e' w' ⟨rfl,rfl⟩))
 go_ret
 exact ⟨rfl,rfl⟩
theorem new_at (b off len c k:Nat)(xs:List Int)(at' n:Int)(w:World)(h0:n≠0)(hl:xs.length=len)(hcap:len≤c)(hb:len≤70000)(hk:min (max at' 0) (len:Int)=(k:Int))
 (hr:∀i,0≤xs.getD i 0∧xs.getD i 0<256) (hc:∀i,i<len→w.cell? ⟨b,off+i,none⟩=some (.int .u8 (xs.getD i 0))) (hbl:b<w.heap.size) :
 Calls Tryz.prog 46 #[.slice (some ⟨b,off,none⟩) len c,.int .i64 at',.int .i64 n] w fun e w'=>e=.returned (.iface 109 (.pointer (some ⟨w.heap.size+1,0,none⟩)))∧w'=(w.alloc (.cells #[.int .u8 10] 5)).alloc (.cells #[.int .i64 k,.int .i64 (lineF xs k),.int .i64 ((k:Int)-lastF xs k),.int .i64 n] 112):=by
 have hz:(n==0)=false:=by simpa using h0
 have hkl:k≤len:=by omega
 have hlb:=last_bd xs k
 have hlbd:=line_bd xs k
 have hcl:=count_line xs hr k (by omega)
 have HA:∀i,i<k→(w.alloc (.cells #[.int .u8 10] 5)).cell? ⟨b,off+i,none⟩=some (.int .u8 (xs.getD i 0)):=fun i hi=>by rw [World.cell?_alloc_lt _ _ _ hbl];exact hc i (by omega)
 have H1:=count_at b off k c w.heap.size (xs.take k) (w.alloc (.cells #[.int .u8 10] 5)) (by simp;omega) (fun i hi=>by rw [HA i hi];simp [List.getD,hi]) (by simp)
 have H2:=last_at b off k c xs (w.alloc (.cells #[.int .u8 10] 5)) (by omega) (by omega) HA
 clear HA hc hr
 generalize countByte (bytesOf (xs.take k)) (10:Int).toNat.toUInt8=cnt at *
 have hcn:(lineF xs k:Int)=1+cnt:=hcl.symm
 have hcnt:cnt≤70000:=by omega
 rw [hcn]
 generalize lineF xs k=L at *
 generalize lastF xs k=R at *
 clear hl hcl hcn
 clear hlbd
 go_enter Tryz.func46,Tryz.ntmps46
 go_wp2_with (first|(go_at_call 85;(with_reducible refine H1.mono ?_);rintro e' w' ⟨rfl,rfl⟩)|(go_at_call 86;(with_reducible refine H2.mono ?_);rintro e' w' ⟨rfl,rfl⟩))
 go_ret
 exact ⟨rfl,rfl⟩
theorem count_none (a:Addr)(d:Nat)(w:World)(hs:w.cell? ⟨d,0,none⟩=some (.int .u8 10)) :
 Calls Tryz.prog 85 #[.slice (some a) 0 0,.slice (some ⟨d,0,none⟩) 1 1] w fun e w'=>e=.returned (.int .i64 0)∧w=w':=by
 have h26:=@run_callFunc_extern Tryz.prog 150 _ Extern.BytealgCount.count Tryz.func150 (by kernel_rfl) (by kernel_rfl) (by kernel_rfl) (by kernel_rfl)
 have hr:(Extern.BytealgCount.count #[.slice (some a) 0 0,.int .u8 10]).run Tryz.prog w=.ok (.int .i64 0) w:=run_countAt (P:=Tryz.prog) w a 0 0 [] rfl (fun i hi=>by omega) 10
 go_enter Tryz.func85,Tryz.ntmps85
 go_wp2
 go_ret
 exact ⟨rfl,rfl⟩
theorem last_none (a:Addr)(w:World) :
 Calls Tryz.prog 86 #[.slice (some a) 0 0,.int .u8 10] w fun e w'=>e=.returned (.int .i64 (-1))∧w=w':=by
 go_enter Tryz.func86,Tryz.ntmps86
 go_wp2
 refine wp_loop_rounds 1 ?_
 rw [rounds_succ]
 go_wp2
 go_ret
 exact ⟨rfl,rfl⟩
theorem new_none (a:Addr)(at' n:Int)(w:World)(h0:n≠0) :
 Calls Tryz.prog 46 #[.slice (some a) 0 0,.int .i64 at',.int .i64 n] w fun e w'=>e=.returned (.iface 109 (.pointer (some ⟨w.heap.size+1,0,none⟩)))∧w'=(w.alloc (.cells #[.int .u8 10] 5)).alloc (.cells #[.int .i64 0,.int .i64 1,.int .i64 1,.int .i64 n] 112):=by
 have hz:(n==0)=false:=by simpa using h0
 have hm:min (max at' 0) 0=0:=by omega
 go_enter Tryz.func46,Tryz.ntmps46
 go_wp2_with (first|(go_at_call 85;(with_reducible refine (count_none _ _ _ (by simp)).mono ?_);rintro e' w' ⟨rfl,rfl⟩)|(go_at_call 86;(with_reducible refine (last_none _ _).mono ?_);rintro e' w' ⟨rfl,rfl⟩))
 go_ret
 exact ⟨rfl,rfl⟩
end
namespace Nm
open Tr
def NZ {α:Type}(r:NE α):Prop:=∀x,r=.error x→x.2≠0
section
variable {ns:List Nd}{tabs:List Tb}
theorem nz_ok {α:Type}(a:α):NZ (.ok a:NE α):=fun _ h=>by cases h
theorem nz_er {α:Type}(i:Nat)(c:Int)(h:c≠0):NZ (.error (i,c):NE α):=fun _ e=>by cases e;exact h
theorem nz_bind {α β:Type}{r:NE α}{f:α→NE β}(h:NZ r)(g:∀a,NZ (f a)):NZ (r >>= f):=by
 cases r with
 | error x=>exact fun y e=>h y (by cases e;rfl)
 | ok a=>exact g a
theorem nz_declare (i:Nat)(l:Bool)(s:St):NZ (declare ns i l s):=by
 unfold declare
 split
 · exact nz_er _ _ (by decide)
 · exact nz_ok _
theorem nz_new (i:Nat)(s:St):NZ (mustBeNew ns i s):=by
 unfold mustBeNew
 split
 · exact nz_er _ _ (by decide)
 · exact nz_ok _
theorem nz_assign (i:Nat)(s:St):NZ (assign ns i s):=by
 unfold assign
 split
 · exact nz_declare _ _ _
 · split
   · exact nz_er _ _ (by decide)
   · exact nz_ok _
theorem nz_tableOf (i:Nat)(s:St):NZ (tableOf ns tabs i s):=by
 unfold tableOf
 split
 · exact nz_er _ _ (by decide)
 · exact nz_ok _
theorem nz_column (i t:Nat)(s:St):NZ (column ns tabs i t s):=by
 unfold column
 split
 · exact nz_er _ _ (by decide)
 · exact nz_ok _
theorem nz_expr:∀(f i l:Nat) (s:St),NZ (expr ns f i l s)
 | 0,_,_,_=>nz_er _ _ (by decide)
 | _+1,_,0,_=>nz_ok _
 | f+1,i,l+1,s=>by
  simp only [expr]
  split
  · split
    · exact nz_er _ _ (by decide)
    · exact nz_expr f _ _ _
  · exact nz_expr f _ _ _
theorem nz_row (i:Nat)(s:St):NZ (row ns tabs i s):=nz_bind (nz_tableOf _ _) fun _=>nz_bind (nz_expr _ _ _ _) fun _=>nz_ok _
theorem nz_exprs:∀(l:List Nat) (s:St),NZ (exprs ns l s)
 | [],_=>nz_ok _
 | _::r,_=>nz_bind (nz_expr _ _ _ _) fun _=>nz_exprs r _
theorem nz_put (i:Nat)(s:St):NZ (put ns tabs i s):=by
 unfold put
 refine nz_bind (nz_tableOf _ _) fun a=>?_
 simp only
 split
 · exact nz_er _ _ (by decide)
 · exact nz_bind (nz_row _ _) fun _=>nz_exprs _ _
theorem nz_stmt (i:Nat)(s:St):NZ (statement ns tabs i s):=by
 unfold statement
 by_cases hk:(nd ns i).kind=6
 · rw [if_pos hk]
   exact nz_ok _
 rw [if_neg hk]
 clear hk
 by_cases hk:(nd ns i).kind=7
 · rw [if_pos hk]
   exact nz_bind (nz_row _ _) fun _=>nz_bind (nz_column _ _ _) fun _=>nz_bind (nz_assign _ _) fun _=>nz_ok _
 rw [if_neg hk]
 clear hk
 by_cases hk:(nd ns i).kind=8
 · rw [if_pos hk]
   exact nz_bind (nz_row _ _) fun _=>nz_bind (nz_column _ _ _) fun _=>nz_bind (nz_expr _ _ _ _) fun _=>nz_ok _
 rw [if_neg hk]
 clear hk
 by_cases hk:(nd ns i).kind=9
 · rw [if_pos hk]
   exact nz_bind (nz_put _ _) fun _=>nz_ok _
 rw [if_neg hk]
 clear hk
 by_cases hk:(nd ns i).kind=10
 · rw [if_pos hk]
   exact nz_bind (nz_row _ _) fun _=>nz_ok _
 rw [if_neg hk]
 clear hk
 by_cases hk:(nd ns i).kind=11
 · rw [if_pos hk]
   exact nz_bind (nz_tableOf _ _) fun _=>nz_bind (nz_column _ _ _) fun _=>nz_bind (nz_assign _ _) fun _=>nz_ok _
 rw [if_neg hk]
 clear hk
 by_cases hk:(nd ns i).kind=12
 · rw [if_pos hk]
   exact nz_bind (nz_tableOf _ _) fun _=>nz_ok _
 rw [if_neg hk]
 clear hk
 by_cases hk:(nd ns i).kind=13
 · rw [if_pos hk]
   by_cases h20:(nd ns (kid ns i 0)).kind=20
   · simp only [h20,if_true]
     exact nz_bind (nz_row _ _) fun _=>nz_ok _
   · simp only [h20,if_false]
     exact nz_bind (nz_tableOf _ _) fun _=>nz_ok _
 rw [if_neg hk]
 clear hk
 by_cases hk:(nd ns i).kind=14
 · rw [if_pos hk]
   exact nz_bind (nz_expr _ _ _ _) fun _=>nz_bind (nz_expr _ _ _ _) fun _=>nz_ok _
 rw [if_neg hk]
 clear hk
 by_cases hk:(nd ns i).kind=15
 · rw [if_pos hk]
   exact nz_bind (nz_new _ _) fun _=>nz_bind (nz_declare _ _ _) fun _=>nz_ok _
 rw [if_neg hk]
 clear hk
 by_cases hk:(nd ns i).kind=16
 · rw [if_pos hk]
   exact nz_bind (nz_expr _ _ _ _) fun _=>nz_bind (nz_assign _ _) fun _=>nz_ok _
 rw [if_neg hk]
 clear hk
 by_cases hk:(nd ns i).kind=17
 · rw [if_pos hk]
   exact nz_bind (nz_expr _ _ _ _) fun _=>nz_ok _
 rw [if_neg hk]
 clear hk
 by_cases hk:(nd ns i).kind=19
 · rw [if_pos hk]
   split
   · exact nz_er _ _ (by decide)
   · exact nz_ok _
 rw [if_neg hk]
 clear hk
 exact nz_ok _
theorem nz_read:∀(f:Nat) (l:List Item) (s:St),NZ (read ns tabs f l s)
 | 0,[],_=>nz_ok _
 | _+1,[],_=>nz_ok _
 | 0,_::_,_=>nz_er _ _ (by decide)
 | f+1,none::r,s=>nz_read f r _
 | f+1,some i::r,s=>nz_bind (nz_stmt _ _) fun _=>nz_read f _ _
theorem nz_params:∀(l:List Nat) (s:St),NZ (params ns l s)
 | [],_=>nz_ok _
 | _::r,_=>nz_bind (nz_new _ _) fun _=>nz_bind (nz_declare _ _ _) fun _=>nz_params r _
theorem nz_proc (i:Nat)(of:List Int):NZ (proc ns tabs i of):=nz_bind (nz_params _ _) fun _=>nz_bind (nz_read _ _ _) fun _=>nz_ok _
theorem nz_number (l:List ByteArray)(i m:Nat)(of:List Int):NZ (number ns l i m of):=by
 unfold number
 split
 · exact nz_er _ _ (by decide)
 · split
   · exact nz_er _ _ (by decide)
   · exact nz_ok _
theorem nz_cols:∀(l:List Nat) (cs:List ByteArray) (of:List Int),NZ (cols ns l cs of)
 | [],_,_=>nz_ok _
 | _::r,_,_=>nz_bind (nz_number _ _ _ _) fun _=>nz_cols r _ _
theorem nz_table (i:Nat)(h:Hd):NZ (table ns i h):=by
 unfold table
 refine nz_bind (nz_number _ _ _ _) fun _=>?_
 simp only
 split
 · exact nz_er _ _ (by decide)
 · exact nz_bind (nz_cols _ _ _) fun _=>nz_ok _
theorem nz_heads:∀(l:List Nat) (h:Hd),NZ (heads ns l h)
 | [],_=>nz_ok _
 | i::r,h=>by
  unfold heads
  split
  · exact nz_bind (nz_table _ _) fun _=>nz_heads r _
  · exact nz_bind (nz_number _ _ _ _) fun _=>nz_heads r _
theorem nz_procs:∀(l:List Nat) (of:List Int) (ps:List Pr),NZ (procs ns tabs l of ps)
 | [],_,_=>nz_ok _
 | i::r,of,ps=>by
  unfold procs
  split
  · exact nz_bind (nz_proc _ _) fun _=>nz_procs r _ _
  · exact nz_procs r _ _
theorem whole_code (ns:List Nd):NZ (whole ns):=nz_bind (nz_heads _ _) fun _=>nz_bind (nz_procs _ _ _) fun _=>nz_ok _
end
end Nm
namespace Nm
open Tr
def IC (S:Nat→Nat)(n:Nat):List Item→Nat→Nat→Prop
 | [],a,e=>a=e
 | none::r,a,e=>IC S n r a e
 | some j::r,a,e=>j=a∧a<n∧IC S n r (a+S a) e
def LC (S:Nat→Nat)(n:Nat):List Nat→Nat→Nat→Prop
 | [],a,e=>a=e
 | j::r,a,e=>j=a∧a<n∧LC S n r (a+S a) e
def EC (ns:List Nd)(S:Nat→Nat):Nat→Nat→Nat→Prop
 | 0,i,e=>i=e
 | l+1,i,e=>i<ns.length∧isExprK (nd ns i).kind=true∧EC ns S l (i+S i) e
def VarK (k:Int):Prop:=k=22∨k=7∨k=11∨k=16∨k=15
def Triv (ns:List Nd)(k:Nat):Prop:=4≤(nd ns k).kind∧(nd ns k).kind≠20∧¬ VarK (nd ns k).kind
def GV (ns:List Nd)(tabs:List Tb)(vars:List ByteArray)(of:List Int)(k:Nat):Prop :=
 4≤(nd ns k).kind∧((nd ns k).kind=20→∃t:Nat,of.getD k 0=t∧t<tabs.length∧(tabs.map Tb.name).getD t default=(nd ns k).text) ∧
 (VarK (nd ns k).kind→∃m:Nat,of.getD k 0=m∧m<vars.length∧vars.getD m default=(nd ns k).text)
theorem Triv.gv {ns:List Nd}{k:Nat}(h:Triv ns k)(tabs:List Tb)(vars:List ByteArray)(of:List Int):GV ns tabs vars of k:=⟨h.1,fun e=>absurd e h.2.1,fun e=>absurd e h.2.2⟩
structure So (s:St):Prop where
 env:∀env∈s.envs,∀v∈env,v.num<s.vars.length∧s.vars.getD v.num default=v.name
 few:s.vars.length≤64
theorem So.there {s:St}(h:So s):∀v∈s.there,v.num<s.vars.length∧s.vars.getD v.num default=v.name:=by
 unfold St.there
 cases he:s.envs with
 | nil=>intro v hv;simp at hv
 | cons a r=>exact h.env a (by simp [he])
structure Does (ns:List Nd)(tabs:List Tb)(R:Nat→Prop)(s t:St):Prop where
 len:t.of.length=s.of.length
 off:∀k,¬ R k→t.of.getD k 0=s.of.getD k 0
 vars:∃more,t.vars=s.vars++more
 so:So t
 good:∀k,R k→GV ns tabs t.vars t.of k
section
variable {ns:List Nd}{S:Nat→Nat}{tabs:List Tb}
theorem getD_app {l m:List ByteArray}{k:Nat}(h:k<l.length):(l++m).getD k default=l.getD k default:=by
 simp [List.getD,List.getElem?_append_left h]
theorem Does.comp {R Q:Nat→Prop}{s t u:St}(h:Does ns tabs R s t)(g:Does ns tabs Q t u):Does ns tabs (fun k=>R k∨Q k) s u where
 len:=g.len.trans h.len
 off:=fun k hk=>(g.off k (fun e=>hk (.inr e))).trans (h.off k (fun e=>hk (.inl e)))
 vars:=by
  obtain ⟨a,ha⟩:=h.vars
  obtain ⟨b,hb⟩:=g.vars
  exact ⟨a++b,by rw [hb,ha,List.append_assoc]⟩
 so:=g.so
 good:=fun k hk=>by
  by_cases hq:Q k
  · exact g.good k hq
  · have hr:R k:=hk.resolve_right hq
    obtain ⟨g1,g2,g3⟩:=h.good k hr
    obtain ⟨b,hb⟩:=g.vars
    refine ⟨g1,fun e=>by rw [g.off k hq];exact g2 e,fun e=>?_⟩
    obtain ⟨m,h1,h2,h3⟩:=g3 e
    refine ⟨m,by rw [g.off k hq];exact h1,by rw [hb,List.length_append];omega,by rw [hb,getD_app h2];exact h3⟩
theorem Does.more {R Q:Nat→Prop}{s t:St}(h:Does ns tabs R s t)(h1:∀k,R k→Q k)(h2:∀k,Q k→¬ R k→Triv ns k):Does ns tabs Q s t where
 len:=h.len
 off:=fun k hk=>h.off k (fun e=>hk (h1 k e))
 vars:=h.vars
 so:=h.so
 good:=fun k hk=>by
  by_cases hr:R k
  · exact h.good k hr
  · exact (h2 k hk hr).gv _ _ _
theorem Does.triv {Q:Nat→Prop}{s:St}(h:So s)(h2:∀k,Q k→Triv ns k):Does ns tabs Q s s where
 len:=rfl
 off:=fun _ _=>rfl
 vars:=⟨[],by simp⟩
 so:=h
 good:=fun k hk=>(h2 k hk).gv _ _ _
theorem set_get {l:List Int}{i:Nat}{v:Int}(h:i<l.length):(l.set i v).getD i 0=v:=by simp [List.getD,h]
theorem set_off {l:List Int}{i k:Nat}{v:Int}(h:i≠k):(l.set i v).getD k 0=l.getD k 0:=by simp [List.getD,h]
theorem does_set {i:Nat}{v:Int}{s:St}(h:So s)(hg:GV ns tabs s.vars (s.of.set i v) i):Does ns tabs (fun k=>k=i) s (s.set i v) where
 len:=by simp [St.set]
 off:=fun k hk=>set_off (fun e=>hk e.symm)
 vars:=⟨[],by simp [St.set]⟩
 so:=⟨h.env,h.few⟩
 good:=fun k hk=>by subst hk;exact hg
theorem does_declare {i:Nat}{l:Bool}{s t:St}(h:So s)(hi:i<s.of.length)(h4:4≤(nd ns i).kind)(h20:(nd ns i).kind≠20)(he:declare ns i l s=.ok t):Does ns tabs (fun k=>k=i) s t:=by
 unfold declare at he
 split at he
 · cases he
 · rename_i h64
   cases he
   have hf:=h.few
   refine ⟨by simp,fun k hk=>set_off (fun e=>hk e.symm),⟨_,rfl⟩,⟨?_,by simp;omega⟩,fun k hk=>?_⟩
   · intro env henv v hv
     simp only [List.mem_cons] at henv
     have key:∀v:Vr,(v.num<s.vars.length∧s.vars.getD v.num default=v.name)→v.num<(s.vars++[(nd ns i).text]).length∧(s.vars++[(nd ns i).text]).getD v.num default=v.name:=fun v hv=>⟨by rw [List.length_append];omega,by rw [getD_app hv.1];exact hv.2⟩
     rcases henv with rfl|henv
     · rcases List.mem_append.1 hv with hv|hv
       · exact key v (h.there v hv)
       · rw [List.mem_singleton.1 hv]
         simp [List.getD]
     · exact key v (h.env env (List.mem_of_mem_drop henv) v hv)
   · subst hk
     refine ⟨h4,fun e=>absurd e h20,fun _=>⟨s.vars.length,set_get hi,by simp,by simp [List.getD]⟩⟩
theorem look_some {e:List Vr}{x:ByteArray}{v:Vr}(h:look e x=some v):v∈e∧v.name=x:=by
 unfold look at h
 exact ⟨List.mem_of_find?_eq_some h,by have:=List.find?_some h;simpa using this⟩
theorem does_var {i:Nat}{s:St}{v:Vr}(h:So s)(hi:i<s.of.length)(h4:4≤(nd ns i).kind)(h20:(nd ns i).kind≠20)(hv:look s.there (nd ns i).text=some v):Does ns tabs (fun k=>k=i) s (s.set i v.num):=by
 obtain ⟨h1,h2⟩:=look_some hv
 obtain ⟨h3,h5⟩:=h.there v h1
 exact does_set h ⟨h4,fun e=>absurd e h20,fun _=>⟨v.num,set_get hi,h3,h5.trans h2⟩⟩
theorem does_assign {i:Nat}{s t:St}(h:So s)(hi:i<s.of.length)(h4:4≤(nd ns i).kind)(h20:(nd ns i).kind≠20)(he:assign ns i s=.ok t):Does ns tabs (fun k=>k=i) s t:=by
 unfold assign at he
 split at he
 · exact does_declare h hi h4 h20 he
 · rename_i v hv
   split at he
   · cases he
   · cases he
     exact does_var h hi h4 h20 hv
theorem idx_some {l:List ByteArray}{x:ByteArray}{t:Nat}(h:idx l x=some t):t<l.length∧l.getD t default=x:=by
 unfold idx at h
 obtain ⟨h1,h2,_⟩:=List.findIdx?_eq_some_iff_getElem.1 h
 exact ⟨h1,by simpa [List.getD,h1] using h2⟩
theorem does_tableOf {i x:Nat}{s t:St}(h:So s)(hi:i<s.of.length)(h4:4≤(nd ns i).kind)(hv:¬ VarK (nd ns i).kind)(he:tableOf ns tabs i s=.ok (x,t)):Does ns tabs (fun k=>k=i) s t:=by
 unfold tableOf at he
 split at he
 · cases he
 · rename_i y hy
   cases he
   obtain ⟨h1,h2⟩:=idx_some hy
   exact does_set h ⟨h4,fun _=>⟨x,set_get hi,by simpa using h1,h2⟩,fun e=>absurd e hv⟩
theorem does_column {i x:Nat}{s t:St}(h:So s)(hk:(nd ns i).kind=5)(he:column ns tabs i x s=.ok t):Does ns tabs (fun k=>k=i) s t:=by
 unfold column at he
 split at he
 · cases he
 · cases he
   exact does_set h (Triv.gv ⟨by omega,by omega,by unfold VarK;omega⟩ _ _ _)
theorem EC.app {e f:Nat}:∀(a b i:Nat),EC ns S a i e→EC ns S b e f→EC ns S (a+b) i f
 | 0,b,i,h,h2=>by
  have:i=e:=h
  subst this
  simpa using h2
 | a+1,b,i,h,h2=>by
  rw [show a+1+b=(a+b)+1 by omega]
  exact ⟨h.1,h.2.1,EC.app a b _ h.2.2 h2⟩
theorem ec_chain:∀(ks:List Int) (a e:Nat),Chain S ns.length ks a e→(∀k∈ks,isExprK (nd ns k.toNat).kind=true)→EC ns S ks.length a e
 | [],_,_,h,_=>h
 | k::ks,a,e,h,hk=>⟨h.2.1,by have h1:=h.1;have:=hk k (by simp);rw [h1] at this;simpa using this,ec_chain ks _ e h.2.2 (fun x hx=>hk x (by simp [hx]))⟩
theorem Rt.kidKinds (_h:Rt ns S){i:Nat}(_hi:i<ns.length)(P:Int→Prop)(hp:∀j,j<(kindsOf ns (nd ns i)).length→P ((kindsOf ns (nd ns i)).getD j 0)):∀k∈(nd ns i).kids,P (nd ns k.toNat).kind:=by
 intro k hk
 obtain ⟨j,hj,rfl⟩:=List.getElem_of_mem hk
 have h1:=hp j (by rw [kindsOf_len];exact hj)
 rw [kindsOf_get ns i j hj] at h1
 simpa [Nm.kid,List.getD,hj] using h1
theorem Rt.exprKids (h:Rt ns S){i:Nat}(hi:i<ns.length)(hk:isExprK (nd ns i).kind=true):∀k∈(nd ns i).kids,isExprK (nd ns k.toNat).kind=true:=by
 refine h.kidKinds hi (fun k=>isExprK k=true) fun j hj=>?_
 have hs:=h.shape i hi
 simp only [isExprK,Bool.and_eq_true,decide_eq_true_eq] at hk
 have e:∀want:List Int,(∀j,want.getD j 0=0)→Tr.isR (kindsOf ns (nd ns i)) want=true→isExprK ((kindsOf ns (nd ns i)).getD j 0)=true:=fun want hw hr=>by
  obtain ⟨h1,h2⟩:=h.isr hr
  have:=h2 j (by omega)
  rw [if_pos (hw j)] at this
  exact this
 have e0:∀j,([0]:List Int).getD j 0=0:=fun j=>by
  rcases j with _|j<;>rfl
 have e00:∀j,([0,0]:List Int).getD j 0=0:=fun j=>by
  rcases j with _|_|j<;>rfl
 have hc:(nd ns i).kind=21∨(nd ns i).kind=22∨(nd ns i).kind=23∨(nd ns i).kind=24∨(nd ns i).kind=25∨(nd ns i).kind=26:=by omega
 rcases hc with hc|hc|hc|hc|hc|hc<;>rw [hc] at hs<;>simp [kidsR] at hs
 · rw [hs] at hj;simp at hj
 · rw [hs] at hj;simp at hj
 · exact e _ e00 hs
 · exact e _ e00 hs
 · exact e _ e00 hs
 · exact e _ e0 hs
theorem Rt.ec (h:Rt ns S){i:Nat}(hi:i<ns.length)(hk:isExprK (nd ns i).kind=true):EC ns S (nd ns i).kids.length (i+1) (i+S i):=ec_chain _ _ _ (h.sz.chain i hi) (h.exprKids hi hk)
theorem EC.le (h:Rt ns S):∀(l i e:Nat),EC ns S l i e→i≤e
 | 0,i,e,hf=>by
  have:i=e:=hf
  omega
 | l+1,i,e,hf=>by
  have h1:=h.sz.size i hf.1
  have:=EC.le h l _ _ hf.2.2
  omega
theorem does_expr (h:Rt ns S):∀(f i l e:Nat) (s t:St),So s→s.of.length=ns.length→EC ns S l i e→expr ns f i l s=.ok t→Does ns tabs (fun k=>i≤k∧k<e) s t
 | 0,_,_,_,_,_,_,_,_,he=>by cases he
 | f+1,i,0,e,s,t,hs,_,hc,he=>by
  have hie:i=e:=hc
  cases he
  exact Does.triv hs (fun k hk=>by omega)
 | f+1,i,l+1,e,s,t,hs,hl,hc,he=>by
  obtain ⟨hi,hk,hr⟩:=hc
  have hn:EC ns S (l+(nd ns i).kids.length) (i+1) e:=by
   rw [Nat.add_comm]
   exact EC.app _ _ _ (h.ec hi hk) hr
  have hle:=EC.le h _ _ _ hn
  simp only [isExprK,Bool.and_eq_true,decide_eq_true_eq] at hk
  simp only [expr] at he
  split at he
  · rename_i h22
    split at he
    · cases he
    · rename_i v hv
      have d1:=does_var (tabs:=tabs) hs (by omega) (by omega) (by omega) hv
      have d2:=does_expr h f (i+1) (l+(nd ns i).kids.length) e _ t d1.so (d1.len.trans hl) hn he
      exact (d1.comp d2).more (fun k hk=>by omega) (fun k hk hn=>by omega)
  · rename_i h22
    have d2:=does_expr h f (i+1) (l+(nd ns i).kids.length) e _ t hs hl hn he
    exact d2.more (fun k hk=>by omega) (fun k hk hn=>by
     obtain rfl:k=i:=by omega
     exact ⟨by omega,by omega,by unfold VarK;omega⟩)
theorem does_exprAt (h:Rt ns S){i:Nat}{s t:St}(hs:So s)(hl:s.of.length=ns.length)(hi:i<ns.length)(hk:isExprK (nd ns i).kind=true)(he:exprAt ns i s=.ok t):Does ns tabs (fun k=>i≤k∧k<i+S i) s t :=
 does_expr h _ i 1 (i+S i) s t hs hl ⟨hi,hk,rfl⟩ he
theorem Rt.kids0 (h:Rt ns S){i:Nat}(hi:i<ns.length)(hl:(nd ns i).kids.length=0):S i=1:=by
 have hc:=h.sz.chain i hi
 have e:kidsAt ns i=[]:=List.length_eq_zero_iff.1 hl
 rw [e] at hc
 have:i+1=i+S i:=hc
 omega
theorem Rt.kids1 (h:Rt ns S){i:Nat}(hi:i<ns.length)(hl:(nd ns i).kids.length=1):kid ns i 0=i+1∧S i=1+S (i+1):=by
 have hc:=h.sz.chain i hi
 obtain ⟨a,e⟩:∃a,(nd ns i).kids=[a]:=List.length_eq_one_iff.1 hl
 have e2:kidsAt ns i=[a]:=e
 rw [e2] at hc
 obtain ⟨h1,_,h3⟩:=hc
 have h3:i+1+S (i+1)=i+S i:=h3
 refine ⟨?_,by omega⟩
 unfold Nm.kid
 rw [e,h1]
 simp
theorem Rt.kids2 (h:Rt ns S){i:Nat}(hi:i<ns.length)(hl:(nd ns i).kids.length=2):kid ns i 0=i+1∧kid ns i 1=i+1+S (i+1)∧S i=1+S (i+1)+S (kid ns i 1):=by
 have hc:=h.sz.chain i hi
 obtain ⟨a,b,e⟩:∃a b,(nd ns i).kids=[a,b]:=by
  match hk:(nd ns i).kids,hl with
  | [a,b],_=>exact ⟨a,b,rfl⟩
 have e2:kidsAt ns i=[a,b]:=e
 rw [e2] at hc
 obtain ⟨h1,_,h2,_,h3⟩:=hc
 have h3:i+1+S (i+1)+S (i+1+S (i+1))=i+S i:=h3
 have q0:kid ns i 0=i+1:=by
  unfold Nm.kid
  rw [e,h1]
  simp
 have q1:kid ns i 1=i+1+S (i+1):=by
  unfold Nm.kid
  rw [e,h2]
  simp
  omega
 exact ⟨q0,q1,by rw [q1];omega⟩
theorem Rt.kids3 (h:Rt ns S){i:Nat}(hi:i<ns.length)(hl:(nd ns i).kids.length=3):kid ns i 0=i+1∧kid ns i 1=i+1+S (i+1)∧kid ns i 2=kid ns i 1+S (kid ns i 1)∧S i=1+S (i+1)+S (kid ns i 1)+S (kid ns i 2):=by
 have hc:=h.sz.chain i hi
 obtain ⟨a,b,c,e⟩:∃a b c,(nd ns i).kids=[a,b,c]:=by
  match hk:(nd ns i).kids,hl with
  | [a,b,c],_=>exact ⟨a,b,c,rfl⟩
 have e2:kidsAt ns i=[a,b,c]:=e
 rw [e2] at hc
 obtain ⟨h1,_,h2,_,h4,_,h3⟩:=hc
 have h3:i+1+S (i+1)+S (i+1+S (i+1))+S (i+1+S (i+1)+S (i+1+S (i+1)))=i+S i:=h3
 have q0:kid ns i 0=i+1:=by
  unfold Nm.kid
  rw [e,h1]
  simp
 have q1:kid ns i 1=i+1+S (i+1):=by
  unfold Nm.kid
  rw [e,h2]
  simp
  omega
 have q2:kid ns i 2=i+1+S (i+1)+S (i+1+S (i+1)):=by
  unfold Nm.kid
  rw [e,h4]
  simp
  omega
 exact ⟨q0,q1,by rw [q2,q1],by rw [q2,q1];omega⟩
end
end Nm
end Go.Proofs.YthdioipfdbbmmaaGreatDoor
