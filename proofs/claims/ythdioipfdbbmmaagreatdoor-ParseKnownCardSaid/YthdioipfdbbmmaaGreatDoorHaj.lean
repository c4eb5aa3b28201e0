/- Contracts. -/
import Derived.Test.YthdioipfdbbmmaaGreatDoorHab
import Derived.Test.YthdioipfdbbmmaaGreatDoorHag
import Derived.Shelf.Bytes.SlCountOne
import Derived.Test.YthdioipfdbbmmaaGreatDoorProg
import Derived.WalkKit
import Derived.Handy
import Derived.Lib.Hide
import Derived.Below
set_option linter.all false
set_option maxRecDepth 1000000
set_option maxHeartbeats 16000000
namespace Go.Proofs.YthdioipfdbbmmaaGreatDoor
section
open Go.Lib
def lineF (xs:List Int):Nat→Nat
 | 0=>1
 | k+1=>if xs.getD k 0=10 then lineF xs k+1 else lineF xs k
def lastF (xs:List Int):Nat→Int
 | 0=>-1
 | k+1=>if xs.getD k 0=10 then (k:Int) else lastF xs k
theorem last_bd (xs:List Int)(k:Nat):-1≤lastF xs k∧lastF xs k<k:=by
 induction k with
 | zero=>simp [lastF]
 | succ k ih=>unfold lastF;split<;>omega
theorem line_bd (xs:List Int)(k:Nat):1≤lineF xs k∧lineF xs k≤k+1:=by
 induction k with
 | zero=>simp [lineF]
 | succ k ih=>unfold lineF;split<;>omega
theorem line_mono (xs:List Int)(j d:Nat):lineF xs j≤lineF xs (j+d)∧(lineF xs j=lineF xs (j+d)→lastF xs j=lastF xs (j+d)):=by
 induction d with
 | zero=>simp
 | succ d ih =>
  rw [show j+(d+1)=(j+d)+1 from rfl,lineF,lastF]
  split
  · exact ⟨by omega,fun h=>by omega⟩
  · exact ih
theorem places (xs:List Int)(j k:Nat)(h:j<k):lineF xs j<lineF xs k∨(lineF xs j=lineF xs k∧(j:Int)-lastF xs j<k-lastF xs k):=by
 obtain ⟨d,rfl⟩:∃d,k=j+d:=⟨k-j,by omega⟩
 have:=line_mono xs j d
 rcases Nat.lt_or_ge (lineF xs j) (lineF xs (j+d)) with h1|h1
 · exact Or.inl h1
 · have e:lineF xs j=lineF xs (j+d):=by omega
   exact Or.inr ⟨e,by have:=this.2 e;omega⟩
theorem count_line (xs:List Int)(hr:∀i,0≤xs.getD i 0∧xs.getD i 0<256)(k:Nat)(hk:k≤xs.length) :
 1+((countByte (bytesOf (xs.take k)) (10:Int).toNat.toUInt8:Nat):Int)=lineF xs k:=by
 induction k with
 | zero=>rfl
 | succ k ih =>
  have ih:=ih (by omega)
  have ht:xs.take (k+1)=xs.take k++[xs.getD k 0]:=by
   rw [List.take_succ_eq_append_getElem (by omega)]
   simp [List.getD,List.getElem?_eq_getElem (show k<xs.length by omega)]
  rw [ht,lineF]
  obtain ⟨h0,h1⟩:=hr k
  generalize xs.getD k 0=c at h0 h1
  have hb:∀l:List Int,bytesOf (l++[c])=bytesOf l++[c.toNat.toUInt8]:=by intro l;simp [bytesOf]
  have hcb:∀l:List UInt8,∀x y:UInt8,countByte (l++[x]) y=countByte l y+if x=y then 1 else 0:=by
   intro l x y
   simp only [countByte,List.count_append,List.count_singleton]
   by_cases h:x=y<;>simp [h]
  rw [hb,hcb]
  have:c.toNat.toUInt8=(10:Int).toNat.toUInt8↔c=10:=by
   constructor
   · intro h
     have:=congrArg UInt8.toNat h
     simp at this
     omega
   · rintro rfl;rfl
  by_cases h:c=10
  · rw [if_pos (this.2 h),if_pos h];omega
  · rw [if_neg (fun h'=>h (this.1 h')),if_neg h];omega
end
section
open Go.RowKit Go.Lib
theorem ret_i64 {a b:Int}(h:a=b):Ending.returned (.int .i64 a)=.returned (.int .i64 b):=by rw [h]
theorem count_at (b off n c d:Nat)(xs:List Int)(w:World)(hn:xs.length=n)(hc:∀i,i<n→w.cell? ⟨b,off+i,none⟩=some (.int .u8 (xs.getD i 0)))(hs:w.cell? ⟨d,0,none⟩=some (.int .u8 10)) :
 Calls Tryz.prog 85 #[.slice (some ⟨b,off,none⟩) n c,.slice (some ⟨d,0,none⟩) 1 1] w fun e w'=>e=.returned (.int .i64 (countByte (bytesOf xs) (10:Int).toNat.toUInt8))∧w=w':=by
 have h26:=@run_callFunc_extern Tryz.prog 150 _ Extern.BytealgCount.count Tryz.func150 (by kernel_rfl) (by kernel_rfl) (by kernel_rfl) (by kernel_rfl)
 have hr:=run_countSlice (P:=Tryz.prog) w b off n c xs hn hc 10
 generalize countByte (bytesOf xs) (10:Int).toNat.toUInt8=m at *
 clear hc hn
 go_enter Tryz.func85,Tryz.ntmps85
 go_wp2
 go_ret
 exact ⟨rfl,rfl⟩
theorem count_nil (d:Nat)(w:World)(hs:w.cell? ⟨d,0,none⟩=some (.int .u8 10)) :
 Calls Tryz.prog 85 #[.slice none 0 0,.slice (some ⟨d,0,none⟩) 1 1] w fun e w'=>e=.returned (.int .i64 0)∧w=w':=by
 have h26:=@run_callFunc_extern Tryz.prog 150 _ Extern.BytealgCount.count Tryz.func150 (by kernel_rfl) (by kernel_rfl) (by kernel_rfl) (by kernel_rfl)
 have hr:=run_countNil (P:=Tryz.prog) w 0 0 10
 go_enter Tryz.func85,Tryz.ntmps85
 go_wp2
 go_ret
 exact ⟨rfl,rfl⟩
theorem last_nil (w:World) :
 Calls Tryz.prog 86 #[.slice none 0 0,.int .u8 10] w fun e w'=>e=.returned (.int .i64 (-1))∧w=w':=by
 go_enter Tryz.func86,Tryz.ntmps86
 go_wp2
 refine wp_loop_rounds 1 ?_
 rw [rounds_succ]
 go_wp2
 go_ret
 exact ⟨rfl,rfl⟩
theorem last_in (b off n c:Nat)(xs:List Int)(w:World)(_hn:n≤xs.length)(hb:n≤70000)(hc:∀i,i<n→w.cell? ⟨b,off+i,none⟩=some (.int .u8 (xs.getD i 0))) :
 Calls Tryz.prog 152 #[.slice (some ⟨b,off,none⟩) n c,.int .u8 10] w fun e w'=>e=.returned (.int .i64 (lastF xs n))∧w=w':=by
 have HC:=lh hc
 clear hc
 go_enter Tryz.func152,Tryz.ntmps152
 go_wp2
 go_loop [5] (fun i=>∃m:Nat,m≤n∧i=.int .i64 ((m:Int)-1)∧lastF xs n=lastF xs m) (fun i=>(RowKit.intOf i+1).toNat)
 case atStart=>exact ⟨n,Nat.le_refl _,rfl,rfl⟩
 case round =>
  obtain ⟨m,hm,rfl,he⟩:=hrel
  have HE:=lh he
  clear he
  cases m with
  | zero =>
   go_wp2
   go_ret
   exact ⟨by rw [HE.out];rfl,rfl⟩
  | succ m =>
   have hcell:=HC.out m (by omega)
   obtain ⟨y,hy⟩:∃y,xs.getD m 0=y:=⟨_,rfl⟩
   rw [hy] at hcell
   have HY:=lh hy
   clear hy
   rw [show ((m+1:Nat):Int)-1=(m:Int) by omega]
   by_cases h10:y=10
   · subst h10
     go_wp2
     go_ret
     exact ⟨ret_i64 (by rw [HE.out,lastF,if_pos HY.out]),rfl⟩
   · have hd:(y==10)=false:=by simpa using h10
     go_wp2
     go_round
     case rel=>exact ⟨m,by omega,by go_num,by rw [HE.out,lastF,if_neg (by rw [HY.out];exact h10)]⟩
     case measure=>simp only [RowKit.intOf];omega
theorem last_at (b off n c:Nat)(xs:List Int)(w:World)(hn:n≤xs.length)(hb:n≤70000)(hc:∀i,i<n→w.cell? ⟨b,off+i,none⟩=some (.int .u8 (xs.getD i 0))) :
 Calls Tryz.prog 86 #[.slice (some ⟨b,off,none⟩) n c,.int .u8 10] w fun e w'=>e=.returned (.int .i64 (lastF xs n))∧w=w':=by
 have H:=last_in b off n c xs w hn hb hc
 clear hc hn
 generalize lastF xs n=r at *
 go_enter Tryz.func86,Tryz.ntmps86
 go_wp2_with (go_at_call 152;refine H.mono ?_;rintro e' w' ⟨rfl,rfl⟩)
 go_ret
 exact ⟨rfl,rfl⟩
theorem new_nil (at' n:Int)(w:World)(h0:n≠0) :
 Calls Tryz.prog 46 #[.slice none 0 0,.int .i64 at',.int .i64 n] w fun e w'=>e=.returned (.iface 109 (.pointer (some ⟨w.heap.size+1,0,none⟩)))∧w'=(w.alloc (.cells #[.int .u8 10] 5)).alloc (.cells #[.int .i64 0,.int .i64 1,.int .i64 1,.int .i64 n] 112):=by
 have hz:(n==0)=false:=by simpa using h0
 have hm:min (max at' 0) 0=0:=by omega
 go_enter Tryz.func46,Tryz.ntmps46
 go_wp2_with (first|(go_at_call 85;(with_reducible refine (count_nil _ _ (by simp)).mono ?_);rintro e' w' ⟨rfl,rfl⟩)|(go_at_call 86;(with_reducible refine (last_nil _).mono ?_);rintro e' w' ⟨rfl,rfl⟩))
 go_ret
 exact ⟨rfl,rfl⟩
theorem new_at (b off len c k:Nat)(xs:List Int)(at' n:Int)(w:World)(h0:n≠0)(hl:xs.length=len)(hcap:len≤c)(hb:len≤70000)(hk:min (max at' 0) (len:Int)=(k:Int))
 (hr:∀i,0≤xs.getD i 0∧xs.getD i 0<256) (hc:∀i,i<len→w.cell? ⟨b,off+i,none⟩=some (.int .u8 (xs.getD i 0))) (hbl:b<w.heap.size) :
 Calls Tryz.prog 46 #[.slice (some ⟨b,off,none⟩) len c,.int .i64 at',.int .i64 n] w fun e w'=>e=.returned (.iface 109 (.pointer (some ⟨w.heap.size+1,0,none⟩)))∧w'=(w.alloc (.cells #[.int .u8 10] 5)).alloc (.cells #[.int .i64 k,.int .i64 (lineF xs k),.int .i64 ((k:Int)-lastF xs k),.int .i64 n] 112):=by
 have hz:(n==0)=false:=by simpa using h0
 have hkl:k≤len:=by omega
 have hlb:=last_bd xs k
 have hlbd:=line_bd xs k
 have hcl:=count_line xs hr k (by omega)
 have HA:∀i,i<k→(w.alloc (.cells #[.int .u8 10] 5)).cell? ⟨b,off+i,none⟩=some (.int .u8 (xs.getD i 0)):=fun i hi=>by rw [World.cell?_alloc_lt _ _ _ hbl];exact hc i (by omega)
 have H1:=count_at b off k c w.heap.size (xs.take k) (w.alloc (.cells #[.int .u8 10] 5)) (by simp;omega) (fun i hi=>by rw [HA i hi];simp [List.getD,hi]) (by simp)
 have H2:=last_at b off k c xs (w.alloc (.cells #[.int .u8 10] 5)) (by omega) (by omega) HA
 clear HA hc hr
 generalize countByte (bytesOf (xs.take k)) (10:Int).toNat.toUInt8=cnt at *
 have hcn:(lineF xs k:Int)=1+cnt:=hcl.symm
 have hcnt:cnt≤70000:=by omega
 rw [hcn]
 generalize lineF xs k=L at *
 generalize lastF xs k=R at *
 clear hl hcl hcn
 clear hlbd
 go_enter Tryz.func46,Tryz.ntmps46
 go_wp2_with (first|(go_at_call 85;(with_reducible refine H1.mono ?_);rintro e' w' ⟨rfl,rfl⟩)|(go_at_call 86;(with_reducible refine H2.mono ?_);rintro e' w' ⟨rfl,rfl⟩))
 go_ret
 exact ⟨rfl,rfl⟩
theorem count_none (a:Addr)(d:Nat)(w:World)(hs:w.cell? ⟨d,0,none⟩=some (.int .u8 10)) :
 Calls Tryz.prog 85 #[.slice (some a) 0 0,.slice (some ⟨d,0,none⟩) 1 1] w fun e w'=>e=.returned (.int .i64 0)∧w=w':=by
 have h26:=@run_callFunc_extern Tryz.prog 150 _ Extern.BytealgCount.count Tryz.func150 (by kernel_rfl) (by kernel_rfl) (by kernel_rfl) (by kernel_rfl)
 have hr:(Extern.BytealgCount.count #[.slice (some a) 0 0,.int .u8 10]).run Tryz.prog w=.ok (.int .i64 0) w:=run_countAt (P:=Tryz.prog) w a 0 0 [] rfl (fun i hi=>by omega) 10
 go_enter Tryz.func85,Tryz.ntmps85
 go_wp2
 go_ret
 exact ⟨rfl,rfl⟩
theorem last_none (a:Addr)(w:World) :
 Calls Tryz.prog 86 #[.slice (some a) 0 0,.int .u8 10] w fun e w'=>e=.returned (.int .i64 (-1))∧w=w':=by
 go_enter Tryz.func86,Tryz.ntmps86
 go_wp2
 refine wp_loop_rounds 1 ?_
 rw [rounds_succ]
 go_wp2
 go_ret
 exact ⟨rfl,rfl⟩
theorem new_none (a:Addr)(at' n:Int)(w:World)(h0:n≠0) :
 Calls Tryz.prog 46 #[.slice (some a) 0 0,.int .i64 at',.int .i64 n] w fun e w'=>e=.returned (.iface 109 (.pointer (some ⟨w.heap.size+1,0,none⟩)))∧w'=(w.alloc (.cells #[.int .u8 10] 5)).alloc (.cells #[.int .i64 0,.int .i64 1,.int .i64 1,.int .i64 n] 112):=by
 have hz:(n==0)=false:=by simpa using h0
 have hm:min (max at' 0) 0=0:=by omega
 go_enter Tryz.func46,Tryz.ntmps46
 go_wp2_with (first|(go_at_call 85;(with_reducible refine (count_none _ _ _ (by simp)).mono ?_);rintro e' w' ⟨rfl,rfl⟩)|(go_at_call 86;(with_reducible refine (last_none _ _).mono ?_);rintro e' w' ⟨rfl,rfl⟩))
 go_ret
 exact ⟨rfl,rfl⟩
end
section
open Go.RowKit
structure NewW (w W:World)(x l c n:Int):Prop where
 below:Below w.heap.size w W
 size:w.heap.size+1<W.heap.size
 c0:W.cell? ⟨w.heap.size+1,0,none⟩=some (.int .i64 x)
 c1:W.cell? ⟨w.heap.size+1,1,none⟩=some (.int .i64 l)
 c2:W.cell? ⟨w.heap.size+1,2,none⟩=some (.int .i64 c)
 c3:W.cell? ⟨w.heap.size+1,3,none⟩=some (.int .i64 n)
theorem newW_mk (w:World)(x l c n:Int):NewW w ((w.alloc (.cells #[.int .u8 10] 5)).alloc (.cells #[.int .i64 x,.int .i64 l,.int .i64 c,.int .i64 n] 112)) x l c n :=
 { below:=((Below.refl _ _).alloc (Nat.le_refl _) _).alloc (by simp) _,size:=by simp,c0:=by simp,c1:=by simp,c2:=by simp,c3:=by simp }
def Src (w:World)(p:Option Addr)(len c:Nat)(xs:List Int):Prop :=
 xs.length=len∧(∀i,0≤xs.getD i 0∧xs.getD i 0<256)∧((len=0∧c=0)∨∃b off,p=some ⟨b,off,none⟩∧len≤c∧b<w.heap.size∧∀i,i<len→w.cell? ⟨b,off+i,none⟩=some (.int .u8 (xs.getD i 0)))
theorem Src.below {w W:World}{p:Option Addr}{len c:Nat}{xs:List Int}(h:Src w p len c xs)(hb:Below w.heap.size w W):Src W p len c xs:=by
 obtain ⟨h1,h2,h3⟩:=h
 refine ⟨h1,h2,?_⟩
 rcases h3 with h3|⟨b,off,e,hc,hl,hx⟩
 · exact Or.inl h3
 · exact Or.inr ⟨b,off,e,hc,Nat.lt_of_lt_of_le hl hb.size,fun i hi=>by rw [hb.cell (p:=⟨b,off+i,none⟩) hl];exact hx i hi⟩
theorem new_src (p:Option Addr)(len c k:Nat)(xs:List Int)(at' n:Int)(w:World)(h0:n≠0)(hb:len≤70000)(hk:min (max at' 0) (len:Int)=(k:Int))(hs:Src w p len c xs) :
 Calls Tryz.prog 46 #[.slice p len c,.int .i64 at',.int .i64 n] w fun e w'=>e=.returned (.iface 109 (.pointer (some ⟨w.heap.size+1,0,none⟩)))∧NewW w w' k (lineF xs k) ((k:Int)-lastF xs k) n:=by
 obtain ⟨h1,h2,h3⟩:=hs
 rcases h3 with ⟨rfl,rfl⟩|⟨b,off,rfl,hc,hl,hx⟩
 · obtain rfl:k=0:=by omega
   cases p with
   | none =>
    refine (new_nil at' n w h0).mono ?_
    rintro e w' ⟨rfl,rfl⟩
    exact ⟨rfl,newW_mk w _ _ _ n⟩
   | some a =>
    refine (new_none a at' n w h0).mono ?_
    rintro e w' ⟨rfl,rfl⟩
    exact ⟨rfl,newW_mk w _ _ _ n⟩
 · refine (new_at b off len c k xs at' n w h0 h1 hc hb hk h2 hx hl).mono ?_
   rintro e w' ⟨rfl,rfl⟩
   exact ⟨rfl,newW_mk w _ _ _ n⟩
end
end Go.Proofs.YthdioipfdbbmmaaGreatDoor
