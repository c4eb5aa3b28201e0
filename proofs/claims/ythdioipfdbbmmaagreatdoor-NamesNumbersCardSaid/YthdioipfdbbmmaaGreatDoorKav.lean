/- Contracts. -/
import Derived.Test.YthdioipfdbbmmaaGreatDoorKah
import Derived.Test.YthdioipfdbbmmaaGreatDoorKau
set_option linter.all false
set_option maxRecDepth 1000000
set_option maxHeartbeats 16000000
namespace Go.Proofs.YthdioipfdbbmmaaGreatDoor
section
open Go.RowKit
theorem kind_digit (c:Int):(kindF c==4)=isDigit c:=by
 unfold kindF
 by_cases h1:isBlank c=true
 · have:c=32∨c=9∨c=10∨c=13:=by simpa [isBlank,or_assoc] using h1
   rcases this with rfl|rfl|rfl|rfl<;>decide
 · by_cases h2:c=35
   · subst h2;decide
   · by_cases h3:isLetter c=true
     · have:isDigit c=false:=by simp only [isLetter,isDigit,Bool.and_eq_true,decide_eq_true_eq,Bool.and_eq_false_iff,decide_eq_false_iff_not] at *;omega
       simp [h1,h2,h3,this]
     · by_cases h4:isDigit c=true
       · simp [h1,h2,h3,h4]
       · by_cases h5:c=95
         · subst h5;decide
         · by_cases h6:isMark c=true
           · simp [h1,h2,h3,h4,h5,h6]
           · simp [h1,h2,h3,h4,h5,h6]
abbrev tokV (k:Int)(a e:Int)(s:ByteArray)(n:Int):Value:=.agg #[.int .u8 k,.int .i64 a,.int .i64 e,.string s,.int .i64 n]
abbrev scanW (w:World)(p:Option Addr)(len c kb:Nat):World:=(w.alloc (.cells #[.slice p len c,.func (.func 87) #[] #[.pointer (some ⟨kb,0,none⟩)]] 90)).alloc (.cells #[.int .u8 0,.int .i64 0,.int .i64 0,.string ⟨#[]⟩,.int .i64 0] 29)
structure InT (w:World)(p:Option Addr)(len c kb:Nat)(W:World):Prop where
 b0:W.cell? ⟨w.heap.size,0,none⟩=some (.slice p len c)
 b1:W.cell? ⟨w.heap.size,1,none⟩=some (.func (.func 87) #[] #[.pointer (some ⟨kb,0,none⟩)])
 t0:∃v,W.cell? ⟨w.heap.size+1,0,none⟩=some v
 t1:∃v,W.cell? ⟨w.heap.size+1,1,none⟩=some v
 t2:∃v,W.cell? ⟨w.heap.size+1,2,none⟩=some v
 t3:∃v,W.cell? ⟨w.heap.size+1,3,none⟩=some v
 t4:∃v,W.cell? ⟨w.heap.size+1,4,none⟩=some v
 f0:W.frozen? ⟨w.heap.size+1,0,none⟩=false
 f1:W.frozen? ⟨w.heap.size+1,1,none⟩=false
 f2:W.frozen? ⟨w.heap.size+1,2,none⟩=false
 f3:W.frozen? ⟨w.heap.size+1,3,none⟩=false
 f4:W.frozen? ⟨w.heap.size+1,4,none⟩=false
 size:w.heap.size+1<W.heap.size
 below:Below w.heap.size w W
theorem InT.start (w:World)(p:Option Addr)(len c kb:Nat):InT w p len c kb (scanW w p len c kb) where
 b0:=by simp [scanW]
 b1:=by simp [scanW]
 t0:=⟨_,by simp [scanW];rfl⟩
 t1:=⟨_,by simp [scanW];rfl⟩
 t2:=⟨_,by simp [scanW];rfl⟩
 t3:=⟨_,by simp [scanW];rfl⟩
 t4:=⟨_,by simp [scanW];rfl⟩
 f0:=by simp [scanW]
 f1:=by simp [scanW]
 f2:=by simp [scanW]
 f3:=by simp [scanW]
 f4:=by simp [scanW]
 size:=by simp [scanW]
 below:=((Below.refl _ _).alloc (Nat.le_refl _) _).alloc (by simp) _
theorem InT.on {w W W':World}{p:Option Addr}{len c kb:Nat}(h:InT w p len c kb W)(hb:Below W.heap.size W W'):InT w p len c kb W' where
 b0:=by rw [hb.cell (p:=⟨w.heap.size,0,none⟩) (by have:=h.size;simp;omega)];exact h.b0
 b1:=by rw [hb.cell (p:=⟨w.heap.size,1,none⟩) (by have:=h.size;simp;omega)];exact h.b1
 t0:=by rw [hb.cell (p:=⟨w.heap.size+1,0,none⟩) h.size];exact h.t0
 t1:=by rw [hb.cell (p:=⟨w.heap.size+1,1,none⟩) h.size];exact h.t1
 t2:=by rw [hb.cell (p:=⟨w.heap.size+1,2,none⟩) h.size];exact h.t2
 t3:=by rw [hb.cell (p:=⟨w.heap.size+1,3,none⟩) h.size];exact h.t3
 t4:=by rw [hb.cell (p:=⟨w.heap.size+1,4,none⟩) h.size];exact h.t4
 f0:=by rw [hb.frozen (p:=⟨w.heap.size+1,0,none⟩) h.size];exact h.f0
 f1:=by rw [hb.frozen (p:=⟨w.heap.size+1,1,none⟩) h.size];exact h.f1
 f2:=by rw [hb.frozen (p:=⟨w.heap.size+1,2,none⟩) h.size];exact h.f2
 f3:=by rw [hb.frozen (p:=⟨w.heap.size+1,3,none⟩) h.size];exact h.f3
 f4:=by rw [hb.frozen (p:=⟨w.heap.size+1,4,none⟩) h.size];exact h.f4
 size:=Nat.lt_of_lt_of_le h.size hb.size
 below:=h.below.trans (hb.mono h.below.size)
theorem InT.set {w W:World}{p:Option Addr}{len c kb:Nat}(h:InT w p len c kb W)(k:Nat)(u:Value):InT w p len c kb (W.setCell ⟨w.heap.size+1,k,none⟩ u) where
 b0:=by rw [World.cell?_setCell_other _ _ _ _ (by simp)];exact h.b0
 b1:=by rw [World.cell?_setCell_other _ _ _ _ (by simp)];exact h.b1
 t0:=cell?_setCell_some h.t0.choose_spec
 t1:=cell?_setCell_some h.t1.choose_spec
 t2:=cell?_setCell_some h.t2.choose_spec
 t3:=cell?_setCell_some h.t3.choose_spec
 t4:=cell?_setCell_some h.t4.choose_spec
 f0:=by simp [h.f0]
 f1:=by simp [h.f1]
 f2:=by simp [h.f2]
 f3:=by simp [h.f3]
 f4:=by simp [h.f4]
 size:=by simpa [World.setCell] using h.size
 below:=h.below.setCell (by simp) _
def NumPost (xs:List Int)(i:Nat)(w:World)(e:Ending)(w':World):Prop :=
 (e = match numV 0 (xs.drop i) with
  | some n=>.returned (.tuple #[tokV 2 i ((i+run isDigit (xs.drop i):Nat):Int) (strOfNums ((xs.drop i).take (run isDigit (xs.drop i)))) n,.int .i64 0])
  | none=>.returned (.tuple #[tokV 0 0 0 ⟨#[]⟩ 0,.int .i64 31]))∧Below w.heap.size w w'
theorem five {B b:Nat}{w W:World}(hb:Below B w W)(h:B≤b)(v0 v1 v2 v3 v4:Value):Below B w (((((W.setCell ⟨b,0,none⟩ v0).setCell ⟨b,1,none⟩ v1).setCell ⟨b,2,none⟩ v2).setCell ⟨b,3,none⟩ v3).setCell ⟨b,4,none⟩ v4) :=
 ((((hb.setCell (by simpa using h) _).setCell (by simpa using h) _).setCell (by simpa using h) _).setCell (by simpa using h) _).setCell (by simpa using h) _
theorem numPost_tok {xs:List Int}{i j:Nat}{w W:World}{n:Int}{st:ByteArray}(hj:j=i+run isDigit (xs.drop i))(hs:strOfNums ((xs.drop i).take (j-i))=st)(hn:numV 0 (xs.drop i)=some n)(hb:Below w.heap.size w W) :
 NumPost xs i w (.returned (.tuple #[tokV 2 i j st n,.int .i64 0])) W:=by
 subst hs
 refine ⟨?_,hb⟩
 rw [hn]
 subst hj
 rw [Nat.add_sub_cancel_left]
theorem numV_no (n:Int)(l:List Int)(h:run isDigit l=0):numV n l=some n:=by
 cases l with
 | nil=>rfl
 | cons c r =>
  simp only [run] at h
  by_cases hd:isDigit c=true
  · simp [hd] at h
  · simp [numV,hd]
theorem numV_yes (n:Int)(xs:List Int)(j:Nat)(h:j<xs.length)(hd:isDigit (xs.getD j 0)=true):numV n (xs.drop j)=if 2147483647<10*n+(xs.getD j 0-48) then none else numV (10*n+(xs.getD j 0-48)) (xs.drop (j+1)):=by
 rw [drop_at xs j h,numV,if_pos hd]
theorem lexNumber_at (w:World)(p:Option Addr)(len c kb i:Nat)(xs:List Int)(h:SK w p len c kb xs)(hb:len≤70000)(hi:i<len)(hd0:isDigit (xs.getD i 0)=true) :
 Calls Tryz.prog 91 #[.agg #[.slice p len c,.func (.func 87) #[] #[.pointer (some ⟨kb,0,none⟩)]],.int .i64 i] w (NumPost xs i w):=by
 have H:=lh h
 have hlen:=lh h.len_eq
 have HI:=lh (InT.start w p len c kb)
 have hpos:i<i+run isDigit (xs.drop i):=by have:=run_yes isDigit xs i (by have:=h.len_eq;omega) hd0;omega
 have HP:=lh hpos
 clear h hd0 hpos
 go_enter Tryz.func91,Tryz.ntmps91
 go_wp2_with fail
 go_loopw [6,7] (fun nv ev wr=>∃(j:Nat) (n:Int),i≤j∧j≤len∧0≤n∧n≤2147483647∧nv=.int .i64 n∧ev=.int .i64 j∧Hid (j+run isDigit (xs.drop j)=i+run isDigit (xs.drop i))∧Hid (numV n (xs.drop j)=numV 0 (xs.drop i))∧Hid (InT w p len c kb wr)) (fun _ ev _=>len-(intOf ev).toNat)
 case atStart=>exact ⟨i,0,by omega,by omega,by omega,by omega,rfl,rfl,lh rfl,lh rfl,HI⟩
 case round =>
  obtain ⟨j,n,hij,hj,hn0,hn1,rfl,rfl,HB,HN,HT⟩:=hrel
  have c0:=HT.out.b0
  have c1:=HT.out.b1
  have hsk:=lh (H.out.on (Nat.le_refl _) HT.out.below)
  by_cases hjl:j<len
  · obtain ⟨b,off,rfl,hbl,hc⟩:=hsk.out.addr (by omega)
    have hcj:=hc j hjl
    have hby:=hsk.out.byte j
    obtain ⟨m,hm⟩:∃m:Nat,xs.getD j 0=m:=⟨(xs.getD j 0).toNat,by omega⟩
    rw [hm] at hcj hby
    have HM:=lh hm
    have hm256:m<256:=by omega
    have HK:=lh (hsk.out.kinds m hm256)
    have HD:=lh (kind_digit m)
    clear hc hbl hm hby
    have hj2:(j:Int)<(len:Int):=by omega
    go_wp2_with fail
    go_quiet (first|(go_at_call 87;refine Calls.quiet_of_same (kind_at _ kb m hm256 HK.out)))
    have HT2:=lh (HT.out.on (drewN_below _ wr nq))
    clear HK
    generalize kindF m=k at *
    obtain ⟨t,ht⟩:∃t,(k==4)=t:=⟨_,rfl⟩
    have HTt:=lh (HD.out.symm.trans ht)
    rw [ht]
    clear ht HD
    cases t with
    | true =>
     have hdd:48≤m∧m≤57:=by have:=HTt.out;simp [isDigit] at this;omega
     obtain ⟨hd1,hd2⟩:=hdd
     have hjx:j<xs.length:=by have:=hlen.out;omega
     have hdj:isDigit (xs.getD j 0)=true:=by rw [HM.out];exact HTt.out
     have HY:=lh (numV_yes n xs j hjx hdj)
     have HR:=lh (run_yes isDigit xs j hjx hdj)
     clear hjx hdj
     rw [HM.out] at HY
     by_cases hbig:2147483647<10*n+((m:Int)-48)
     · have HF:Hid (numV 0 (xs.drop i)=none):=lh (by rw [← HN.out,HY.out,if_pos hbig])
       obtain ⟨_,_,⟨v0,z0⟩,⟨v1,z1⟩,⟨v2,z2⟩,⟨v3,z3⟩,⟨v4,z4⟩,y0,y1,y2,y3,y4,zs,zb⟩:=HT2.out
       have ZB:=lh zb
       clear zb HT HI H
       go_wp2
       simp [bodyPost,results,Tryz.results91,go_sem,z0,z1,z2,z3,z4]
       exact ⟨by rw [HF.out],five ZB.out (by omega) _ _ _ _ _⟩
     · have HF:Hid (numV n (xs.drop j)=numV (10*n+((m:Int)-48)) (xs.drop (j+1))):=lh (by rw [HY.out,if_neg hbig])
       go_wp2
       go_roundw
       case rel=>exact ⟨j+1,10*n+((m:Int)-48),by omega,by omega,by omega,by omega,rfl,by go_num,lh (by have:=HR.out;have:=HB.out;omega),lh (by rw [← HF.out,HN.out]),HT2⟩
       case measure=>simp [intOf];omega
    | false =>
     have hjx:j<xs.length:=by have:=hlen.out;omega
     have hdj:isDigit (xs.getD j 0)=false:=by rw [HM.out];exact HTt.out
     have HR:=lh (run_no isDigit xs j hjx hdj)
     have HF:Hid (numV 0 (xs.drop i)=some n):=lh (by rw [← HN.out,numV_no _ _ HR.out])
     have hji:j=i+run isDigit (xs.drop i):=by have:=HR.out;have:=HB.out;omega
     clear hjx hdj
     have hij2:i<j:=by have:=HP.out;omega
     have HJ:=lh hji
     clear hji
     have W1:=lexWord_at (wr.drewN nq) (some ⟨b,off,none⟩) len c kb i j 2 xs (hsk.out.on (Nat.le_refl _) (drewN_below _ wr nq)) hb hij2 (by omega)
     go_wp2_with fail
     (with_reducible refine W1.mono ?_)
     rintro e w1 ⟨rfl,hb1⟩
     have HT3:=lh (HT2.out.on hb1)
     obtain ⟨_,_,⟨v0,z0⟩,⟨v1,z1⟩,⟨v2,z2⟩,⟨v3,z3⟩,⟨v4,z4⟩,y0,y1,y2,y3,y4,zs,zb⟩:=HT3.out
     have ZB:=lh zb
     clear zb HT HI H hb1 W1
     generalize hst:strOfNums ((xs.drop i).take (j-i))=st at *
     have HS:=lh hst
     clear hst
     go_wp2
     simp [bodyPost,results,Tryz.results91,go_sem,z0,z1,z2,z3,z4,zs]
     exact numPost_tok HJ.out HS.out HF.out ((five ZB.out (by omega) _ _ _ _ _).alloc (by have:=ZB.out.size;simpa using this) _)
  · have hjd:decide ((j:Int)<(len:Int))=false:=by simp;omega
    go_wp2_with fail
    go_quiet (fail)
    have hjx:xs.length≤j:=by have:=hlen.out;omega
    have HR:=lh (run_out isDigit xs j hjx)
    have HF:Hid (numV 0 (xs.drop i)=some n):=lh (by rw [← HN.out,numV_no _ _ HR.out])
    have hji:j=i+run isDigit (xs.drop i):=by have:=HR.out;have:=HB.out;omega
    clear hjx
    have hij2:i<j:=by have:=HP.out;omega
    have HJ:=lh hji
    clear hji
    have HT2:=lh (HT.out.on (drewN_below _ wr nq))
    have W1:=lexWord_at (wr.drewN nq) p len c kb i j 2 xs (hsk.out.on (Nat.le_refl _) (drewN_below _ wr nq)) hb hij2 (by omega)
    go_wp2_with fail
    (with_reducible refine W1.mono ?_)
    rintro e w1 ⟨rfl,hb1⟩
    have HT3:=lh (HT2.out.on hb1)
    obtain ⟨_,_,⟨v0,z0⟩,⟨v1,z1⟩,⟨v2,z2⟩,⟨v3,z3⟩,⟨v4,z4⟩,y0,y1,y2,y3,y4,zs,zb⟩:=HT3.out
    have ZB:=lh zb
    clear zb HT HI H hb1 W1
    generalize hst:strOfNums ((xs.drop i).take (j-i))=st at *
    have HS:=lh hst
    clear hst
    go_wp2
    simp [bodyPost,results,Tryz.results91,go_sem,z0,z1,z2,z3,z4,zs]
    exact numPost_tok HJ.out HS.out HF.out ((five ZB.out (by omega) _ _ _ _ _).alloc (by have:=ZB.out.size;simpa using this) _)
end
end Go.Proofs.YthdioipfdbbmmaaGreatDoor
