/- Contracts. -/
import Derived.Test.YthdioipfdbbmmaaGreatDoorKab
import Derived.Test.YthdioipfdbbmmaaGreatDoorKaw
import Derived.Test.YthdioipfdbbmmaaGreatDoorKay
set_option linter.all false
set_option maxRecDepth 1000000
set_option maxHeartbeats 16000000
namespace Go.Proofs.YthdioipfdbbmmaaGreatDoor
section
open Go.RowKit Tr Go.Shelf
theorem expr_yes (w:World)(p:Option Addr)(len c:Nat)(ns:List Nd)(hT:TV w p len c ns)(hS:SmallT ns)(ht:PT10 w)(hr:rightP ns=true)(i k:Int)(q a:Nat)(s:ByteArray)(n:Int)(ks:List Ast)(hi:i=(q:Int))(hO:On ns q (.mk k a s n ks))(hw:wfR (.mk k a s n ks))(hk:20≤k)(hq:0<q)(hlen:len≤70000) :
 Calls Tryz.prog 27 #[.agg #[.slice p len c],.int .i64 i] w fun e w'=>e=.returned (.tuple #[.string (exT (.mk k a s n ks)),.nilIface])∧Below w.heap.size w w':=by
 subst hi
 have hb1:=one_below w (.cells #[.slice p len c] 39)
 have R:=lh (right_at (w.alloc (.cells #[.slice p len c] 39)) p len c ns (hT.on hb1) hS)
 rw [hr] at R
 have hk2:k≤26:=hw.parts.1.2
 have hol:=hO.lt
 have hle:=hT.len_eq
 have hXs:=exT_size _ hw
 have hsz:=hO.size
 obtain ⟨a',hnd⟩:=hO.node
 have hT1:=hT.on hb1
 obtain ⟨nb,off,hp,hbl,hc⟩:=hT1.node (by omega)
 obtain ⟨kp,kl,kc,hn⟩:=hc q (by omega)
 rw [hnd] at hn
 have k0:(w.alloc (.cells #[.slice p len c] 39)).cell? ⟨nb,off+q*5,none⟩=some (.int .u8 k):=hn.kind
 have IR:=lh (isRowOrExpr_at (w.alloc (.cells #[.slice p len c] 39)) k)
 have hdk:(decide (20≤k)&&decide (k≤26))=true:=by simp [hk,hk2]
 rw [hdk] at IR
 have HTX:Hid (∀w5,Below (w.alloc (.cells #[.slice p len c] 39)).heap.size (w.alloc (.cells #[.slice p len c] 39)) w5→Calls Tryz.prog 64 #[.pointer (some ⟨w5.heap.size,0,none⟩),.slice (some ⟨w5.heap.size+1,0,none⟩) 1 1] ((w5.alloc (.cells #[.slice p len c,.int .i64 9223372036854775807,.slice none 0 0] 101)).alloc (.cells #[.int .i64 (q:Int)] 3)) fun e w'=>e=.returned (.string (exT (.mk k a s n ks)))∧Below w5.heap.size w5 w'):=lh (fun w5 h5=>by
  have hP:PrW w5 w5.heap.size (.slice p len c) 9223372036854775807 (.slice none 0 0) none0 ((w5.alloc (.cells #[.slice p len c,.int .i64 9223372036854775807,.slice none 0 0] 101)).alloc (.cells #[.int .i64 (q:Int)] 3)) :=
   PrW.on ⟨one_below w5 _,heap_alloc_new w5 _,World.ownsRow_nil _ _ _ _⟩ (one_below _ _)
  have hg:=heap_alloc_new (w5.alloc (.cells #[.slice p len c,.int .i64 9223372036854775807,.slice none 0 0] 101)) (.cells #[.int .i64 (q:Int)] 3)
  rw [World.size_alloc] at hg
  exact (text_one hP rfl (hT1.on h5) ((ht.below hb1).below h5) hlen hO hq (Or.inr hk) hw (by omega) (w5.heap.size+1) hg).mono fun e w' ⟨h1,h2⟩=>⟨h1,hP.below.trans (h2.mono (Nat.le_of_lt hP.lt))⟩)
 have HB1:=lh hb1
 generalize exT (.mk k a s n ks)=X at *
 subst hp
 have hq0:(0:Int)≤(q:Int):=by omega
 have hq1:(q:Int)<(len:Int):=by omega
 have hq2:¬ ((q:Int)<0):=by omega
 have hq3:¬ ((len:Int)≤(q:Int)):=by omega
 clear hT hS ht hr hO hw hlen hb1 hT1 hc hn hnd hXs hsz hle hol hdk hk hk2 hq
 go_enter Tryz.func27,Tryz.ntmps27
 go_wp2_with (first|(go_at_call 63;(with_reducible refine IR.out.mono ?_);rintro e w4 ⟨rfl,hw4⟩;have hw9:=hw4;subst hw9)|(go_at_call 29;(with_reducible refine R.out.mono ?_);rintro e w5 ⟨rfl,h5⟩;have kt:w5.cell? ⟨w.heap.size,0,none⟩=some (.slice (some ⟨nb,off,none⟩) len c):=(h5.cell (p:=⟨w.heap.size,0,none⟩) (by simp)).trans (by simp))|(go_at_call 64;(with_reducible refine (HTX.out w5 h5).mono ?_);rintro e w6 ⟨rfl,h6⟩))
 go_ret2
 have hs5:w.heap.size+1≤w5.heap.size:=by have:=h5.size;simpa using this
 exact ⟨rfl,HB1.out.trans ((h5.mono (by simp)).trans (h6.mono (by omega)))⟩
end
section
open Go.RowKit Tr Go.Shelf
def NoExpr (w:World)(e:Ending)(w':World):Prop:=e=.returned (.tuple #[.string ⟨#[]⟩,.iface 45 (.int .i64 2)])∧Below w.heap.size w w'
theorem expr_low (w:World)(p:Option Addr)(len c:Nat)(i:Int)(hi:i<0) :
 Calls Tryz.prog 27 #[.agg #[.slice p len c],.int .i64 i] w (NoExpr w):=by
 have hb1:=one_below w (.cells #[.slice p len c] 39)
 go_enter Tryz.func27,Tryz.ntmps27
 go_wp2
 go_ret2
 exact ⟨rfl,hb1⟩
theorem expr_high (w:World)(p:Option Addr)(len c:Nat)(i:Int)(hi:(len:Int)≤i) :
 Calls Tryz.prog 27 #[.agg #[.slice p len c],.int .i64 i] w (NoExpr w):=by
 have hb1:=one_below w (.cells #[.slice p len c] 39)
 have h0:¬ i<0:=by omega
 go_enter Tryz.func27,Tryz.ntmps27
 go_wp2
 go_ret2
 exact ⟨rfl,hb1⟩
theorem expr_kind (w:World)(p:Option Addr)(len c:Nat)(ns:List Nd)(hT:TV w p len c ns)(i:Int)(q:Nat)(hi:i=(q:Int))(hq:q<len)(hk:¬ (20≤(ns.getD q default).kind∧(ns.getD q default).kind≤26)) :
 Calls Tryz.prog 27 #[.agg #[.slice p len c],.int .i64 i] w (NoExpr w):=by
 subst hi
 have hb1:=one_below w (.cells #[.slice p len c] 39)
 obtain ⟨nb,off,hp,hbl,hc⟩:=(hT.on hb1).node (by omega)
 obtain ⟨kp,kl,kc,hn⟩:=hc q (by omega)
 generalize (ns.getD q default)=nd at *
 have k0:=hn.kind
 have IR:=lh (isRowOrExpr_at (w.alloc (.cells #[.slice p len c] 39)) nd.kind)
 have hdk:(decide (20≤nd.kind)&&decide (nd.kind≤26))=false:=by
  rw [Bool.and_eq_false_iff,decide_eq_false_iff_not,decide_eq_false_iff_not]
  omega
 rw [hdk] at IR
 subst hp
 have HB1:=lh hb1
 have hq0:(0:Int)≤(q:Int):=by omega
 have hq1:(q:Int)<(len:Int):=by omega
 have hq2:¬ ((q:Int)<0):=by omega
 have hq3:¬ ((len:Int)≤(q:Int)):=by omega
 clear hT hc hn hdk hk hb1
 go_enter Tryz.func27,Tryz.ntmps27
 go_wp2_with (go_at_call 63;(with_reducible refine IR.out.mono ?_);rintro e w4 ⟨rfl,hw4⟩;have hw9:=hw4;subst hw9)
 go_ret2
 exact ⟨rfl,HB1.out⟩
theorem expr_wrong (w:World)(p:Option Addr)(len c:Nat)(ns:List Nd)(hT:TV w p len c ns)(hS:SmallT ns)(hr:rightP ns=false)(i:Int)(q:Nat)(hi:i=(q:Int))(hq:q<len)(hk:20≤(ns.getD q default).kind∧(ns.getD q default).kind≤26) :
 Calls Tryz.prog 27 #[.agg #[.slice p len c],.int .i64 i] w (NoExpr w):=by
 subst hi
 have hb1:=one_below w (.cells #[.slice p len c] 39)
 have R:=lh (right_at (w.alloc (.cells #[.slice p len c] 39)) p len c ns (hT.on hb1) hS)
 rw [hr] at R
 obtain ⟨nb,off,hp,hbl,hc⟩:=(hT.on hb1).node (by omega)
 obtain ⟨kp,kl,kc,hn⟩:=hc q (by omega)
 generalize (ns.getD q default)=nd at *
 have k0:=hn.kind
 have IR:=lh (isRowOrExpr_at (w.alloc (.cells #[.slice p len c] 39)) nd.kind)
 have hdk:(decide (20≤nd.kind)&&decide (nd.kind≤26))=true:=by
  rw [Bool.and_eq_true_iff,decide_eq_true_eq,decide_eq_true_eq]
  exact hk
 rw [hdk] at IR
 subst hp
 have HB1:=lh hb1
 have hq0:(0:Int)≤(q:Int):=by omega
 have hq1:(q:Int)<(len:Int):=by omega
 have hq2:¬ ((q:Int)<0):=by omega
 have hq3:¬ ((len:Int)≤(q:Int)):=by omega
 clear hT hS hr hc hn hdk hk hb1
 go_enter Tryz.func27,Tryz.ntmps27
 go_wp2_with (first|(go_at_call 63;(with_reducible refine IR.out.mono ?_);rintro e w4 ⟨rfl,hw4⟩;have hw9:=hw4;subst hw9)|(go_at_call 29;(with_reducible refine R.out.mono ?_);rintro e w5 ⟨rfl,h5⟩))
 go_ret2
 exact ⟨rfl,HB1.out.trans (h5.mono (by simp))⟩
end
namespace Tr
open Go.RowKit
def fewQ (ns:List Nd):Bool:=decide ((ns.length:Int)≤200)&&ns.all fun nd=>decide ((nd.kids.length:Int)≤200)&&decide (nd.text.size≤50)
theorem few_at (w:World)(p:Option Addr)(len c:Nat)(ns:List Nd)(h:TV w p len c ns) :
 Calls Tryz.prog 20 #[.agg #[.slice p len c]] w fun e w'=>e=.returned (.bool (fewQ ns))∧Below w.heap.size w w':=by
 have H:=lh h
 have hlen:=lh h.len_eq
 clear h
 by_cases hlt:(len:Int)≤200
 · have hl0:decide (200<(len:Int))=false:=by simp;omega
   go_enter Tryz.func20,Tryz.ntmps20
   go_wp2_with fail
   go_loopw [3] (fun av wr=>∃j:Nat,j≤len∧av=.int .i64 j∧Hid ((ns.take j).all (fun nd=>decide ((nd.kids.length:Int)≤200)&&decide (nd.text.size≤50))=true)∧Hid (Below (w.heap.size+1) (w.alloc (.cells #[.slice p len c] 39)) wr)) (fun av _=>len-(intOf av).toNat)
   case atStart=>exact ⟨0,by omega,rfl,lh rfl,lh (Below.refl _ _)⟩
   case round =>
    obtain ⟨j,hj,rfl,HA,HB⟩:=hrel
    have c0:wr.cell? ⟨w.heap.size,0,none⟩=some (.slice p len c):=by rw [HB.out.cell (by simp)];simp
    have HW:=lh ((one_below w (.cells #[.slice p len c] 39)).trans (HB.out.mono (by omega)))
    by_cases hjl:j<len
    · have hT:=(H.out.on HW.out).node (by omega)
      obtain ⟨b,off,rfl,hbl,hc⟩:=hT
      obtain ⟨kp,kl,kc,hn⟩:=hc j hjl
      have k2:=hn.text
      have k4:=hn.kids
      have hkl:=hn.iv.len_eq
      have HT:=lh (all_take (fun nd=>decide ((nd.kids.length:Int)≤200)&&decide (nd.text.size≤50)) ns j (by have:=hlen.out;omega))
      have HN:=lh (all_no (fun nd=>decide ((nd.kids.length:Int)≤200)&&decide (nd.text.size≤50)) ns j (by have:=hlen.out;omega))
      generalize ns.getD j default=nd at *
      have HKL:=lh hkl
      clear hc hn hkl
      by_cases hk:(kl:Int)≤200
      · have hk0:decide (200<(kl:Int))=false:=by simp;omega
        by_cases ht:nd.text.size≤50
        · have ht0:decide ((50:Int)<(nd.text.size:Int))=false:=by simp;omega
          go_wp2_with fail
          go_roundw
          case rel=>exact ⟨j+1,by omega,by go_num,lh (by rw [HT.out,HA.out,HKL.out];simp [hk,ht]),HB⟩
          case measure=>simp [intOf];omega
        · have ht0:decide ((50:Int)<(nd.text.size:Int))=true:=by simp;omega
          go_wp2
          go_ret
          refine ⟨?_,HW.out⟩
          rw [fewQ,HN.out (by simp [ht])]
          simp
      · have hk0:decide (200<(kl:Int))=true:=by simp;omega
        go_wp2
        go_ret
        refine ⟨?_,HW.out⟩
        rw [fewQ,HN.out (by simp only [HKL.out];simp;omega)]
        simp
    · go_wp2
      go_ret
      have e:j=ns.length:=by have:=hlen.out;omega
      have:=HA.out
      rw [e,List.take_length] at this
      refine ⟨?_,HW.out⟩
      rw [fewQ,this,hlen.out]
      simp [hlt]
 · have hl0:decide (200<(len:Int))=true:=by simp;omega
   go_enter Tryz.func20,Tryz.ntmps20
   go_wp2
   go_ret
   refine ⟨?_,(one_below w _)⟩
   rw [fewQ,hlen.out]
   simp
   omega
end Tr
section
open Go.RowKit Par
theorem place_nilA (w:World) :
 Calls Tryz.prog 26 #[.nilIface] w fun e w'=>e=.returned (.tuple #[.int .i64 0,.int .i64 0,.int .i64 0,.bool false])∧Below w.heap.size w w':=by
 have hmf:∀(fn:Fn) (first cap:Array Value) (w:World),(Instr.makeFunc fn first cap).run Tryz.prog w=.ok (.func fn first cap) w:=fun _ _ _ _=>rfl
 have HA:∀(v:Value) (W:World),Calls Tryz.prog 61 #[.nilIface,v] W fun e w'=>e=.returned (.bool false)∧W=w':=fun v W=>by
  go_enter Tryz.func61,Tryz.ntmps61
  go_wp2
  go_ret
  exact ⟨rfl,rfl⟩
 have H:=lh HA
 clear HA
 go_enter_defers Tryz.func26,Tryz.ntmps26
 go_wp2_with (go_at_call 61;(with_reducible refine (H.out _ _).mono ?_);rintro e' w' ⟨rfl,rfl⟩)
 refine leaves_cons (f := 62) (args:=#[.pointer (some ⟨w.heap.size,0,none⟩),.pointer (some ⟨w.heap.size+1,0,none⟩),.pointer (some ⟨w.heap.size+1+1,0,none⟩),.pointer (some ⟨w.heap.size+1+1+1,0,none⟩)]) (by simp) (by simp [go_sem]) ?_
 refine (placeDone _ _ _ _ _).mono ?_
 rintro e u' w'' ⟨rfl,rfl,rfl⟩
 simp [Leaves,settle,results,Tryz.results26,go_sem]
 exact (((((Below.refl _ _).alloc (Nat.le_refl _) _).alloc (by simp) _).alloc (by simp;omega) _).alloc (by simp;omega) _).alloc (by simp;omega) _
end
end Go.Proofs.YthdioipfdbbmmaaGreatDoor
