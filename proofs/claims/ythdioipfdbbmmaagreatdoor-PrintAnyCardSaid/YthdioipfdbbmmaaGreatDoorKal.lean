/- Contracts. -/
import Derived.Test.YthdioipfdbbmmaaGreatDoorKab
import Derived.Test.YthdioipfdbbmmaaGreatDoorKaj
import Derived.Test.YthdioipfdbbmmaaGreatDoorKak
import Derived.Deep.RegionHeld3
import Derived.Defers
import Derived.Recover
import Derived.BigRegion
import Derived.Below
import Derived.Deep.AppendLies
import Derived.Deep.Onto
import Derived.Laws.EntriesVeiled
set_option linter.all false
set_option maxRecDepth 1000000
set_option maxHeartbeats 16000000
namespace Go.Proofs.YthdioipfdbbmmaaGreatDoor
section
open Go.RowKit
theorem kind_letter (c:Int):(kindF c==3)=isLetter c:=by
 unfold kindF
 by_cases h1:isBlank c=true
 · have:c=32∨c=9∨c=10∨c=13:=by simpa [isBlank,or_assoc] using h1
   rcases this with rfl|rfl|rfl|rfl<;>decide
 · by_cases h2:c=35
   · subst h2;decide
   · by_cases h3:isLetter c=true
     · simp [h1,h2,h3]
     · simp only [h1,h2,h3]
       repeat' split
       all_goals simp_all
theorem mark_cases {c:Int}(h:isMark c=true):c=123∨c=125∨c=40∨c=41∨c=91∨c=93∨c=59∨c=44∨c=46∨c=43∨c=45∨c=42∨c=60∨c=61:=by
 simpa [isMark] using h
theorem kind_mark (c:Int):(kindF c==6)=isMark c:=by
 by_cases h:isMark c=true
 · rcases mark_cases h with rfl|rfl|rfl|rfl|rfl|rfl|rfl|rfl|rfl|rfl|rfl|rfl|rfl|rfl<;>decide
 · have h':isMark c=false:=by simpa using h
   unfold kindF
   rw [h']
   repeat' split
   all_goals simp_all
def TokPost (xs:List Int)(i:Nat)(w:World)(e:Ending)(w':World):Prop :=
 (e = match step (xs.drop i) with
  | .err er=>.returned (.tuple #[tokV 0 0 0 ⟨#[]⟩ 0,.int .i64 er])
  | .tok k l n=>.returned (.tuple #[tokV k i ((i+l:Nat):Int) (strOfNums ((xs.drop i).take l)) n,.int .i64 0]))∧Below w.heap.size w w'
theorem tokPost_tok {xs:List Int}{i l j:Nat}{w W:World}{k n:Int}{st:ByteArray}(hs:step (xs.drop i)=.tok k l n)(hj:j=i+l)(ht:strOfNums ((xs.drop i).take (j-i))=st)(hb:Below w.heap.size w W) :
 TokPost xs i w (.returned (.tuple #[tokV k i j st n,.int .i64 0])) W:=by
 subst ht
 refine ⟨?_,hb⟩
 rw [hs]
 subst hj
 rw [Nat.add_sub_cancel_left]
theorem tokPost_err {xs:List Int}{i:Nat}{w W:World}{er:Int}(hs:step (xs.drop i)=.err er)(hb:Below w.heap.size w W) :
 TokPost xs i w (.returned (.tuple #[tokV 0 0 0 ⟨#[]⟩ 0,.int .i64 er])) W:=by
 refine ⟨?_,hb⟩
 rw [hs]
theorem word_keep (w:World)(p:Option Addr)(len c kb i e:Nat)(kd:Int)(xs:List Int)(h:SK w p len c kb xs)(hb:len≤70000)(hi:i<e)(he:e≤len)(W:World)(hW:InT w p len c kb W) :
 Calls Tryz.prog 89 #[.agg #[.slice p len c,.func (.func 87) #[] #[.pointer (some ⟨kb,0,none⟩)]],.int .u8 kd,.int .i64 i,.int .i64 e] W fun ev w'=>ev=.returned (.agg #[.int .u8 kd,.int .i64 i,.int .i64 e,.string (strOfNums ((xs.drop i).take (e-i))),.int .i64 0])∧InT w p len c kb w' :=
 (lexWord_at W p len c kb i e kd xs (h.on (Nat.le_refl _) hW.below) hb hi he).mono fun _ _ ⟨h1,h2⟩=>⟨h1,hW.on h2⟩
theorem pastName_keep (w:World)(p:Option Addr)(len c kb i:Nat)(xs:List Int)(h:SK w p len c kb xs)(hb:len≤70000)(hi:i≤len)(W:World)(hW:InT w p len c kb W) :
 Calls Tryz.prog 90 #[.agg #[.slice p len c,.func (.func 87) #[] #[.pointer (some ⟨kb,0,none⟩)]],.int .i64 i] W fun ev w'=>ev=.returned (.int .i64 ((i+run isNameB (xs.drop i):Nat):Int))∧InT w p len c kb w' :=
 (pastName_at W p len c kb i xs (h.on (Nat.le_refl _) hW.below) hb hi).mono fun _ _ ⟨h1,h2⟩=>⟨h1,hW.on h2⟩
theorem pastMark_keep (w:World)(p:Option Addr)(len c kb i:Nat)(xs:List Int)(h:SK w p len c kb xs)(hb:len≤70000)(hi:i<len)(W:World)(hW:InT w p len c kb W) :
 Calls Tryz.prog 92 #[.agg #[.slice p len c,.func (.func 87) #[] #[.pointer (some ⟨kb,0,none⟩)]],.int .i64 i] W fun ev w'=>ev=.returned (.int .i64 ((i+(if xs.getD i 0=61∧(xs.drop (i+1)).head?=some 61 then 2 else 1):Nat):Int))∧InT w p len c kb w' :=
 (pastMark_at W p len c kb i xs (h.on (Nat.le_refl _) hW.below) hb hi).mono fun _ _ ⟨h1,h2⟩=>⟨h1,hW.on h2⟩
theorem tokenAt_at (w:World)(p:Option Addr)(len c kb i:Nat)(xs:List Int)(h:SK w p len c kb xs)(hb:len≤70000)(hi:i<len) :
 Calls Tryz.prog 49 #[.agg #[.slice p len c,.func (.func 87) #[] #[.pointer (some ⟨kb,0,none⟩)]],.int .i64 i] w (TokPost xs i w):=by
 have hlen:=lh h.len_eq
 have HI:=lh (InT.start w p len c kb)
 have hsk:=lh (h.on (Nat.le_refl _) HI.out.below)
 obtain ⟨b,off,rfl,hbl,hc⟩:=hsk.out.addr (by omega)
 have hcj:=hc i hi
 have hby:=hsk.out.byte i
 obtain ⟨m,hm⟩:∃m:Nat,xs.getD i 0=m:=⟨(xs.getD i 0).toNat,by omega⟩
 rw [hm] at hcj hby
 have HM:=lh hm
 have hm256:m<256:=by omega
 have HK:=lh (hsk.out.kinds m hm256)
 have HX:=lh (drop_at xs i (by have:=h.len_eq;omega))
 have KL:=lh (kind_letter m)
 have KD:=lh (kind_digit m)
 have KM:=lh (kind_mark m)
 have HRn:=lh (run_le isNameB (xs.drop i))
 have hpn:=pastName_keep w (some ⟨b,off,none⟩) len c kb i xs h hb (by omega)
 have hpm:=pastMark_keep w (some ⟨b,off,none⟩) len c kb i xs h hb hi
 have hpw:=fun e kd (he:i<e) (he2:e≤len)=>word_keep w (some ⟨b,off,none⟩) len c kb i e kd xs h hb he he2
 have H:=lh h
 have PN:=lh hpn
 have PM:=lh hpm
 have PW:=lh hpw
 clear hc hbl hm hby hpn hpm hpw h
 go_enter Tryz.func49,Tryz.ntmps49
 go_wp2_with fail
 go_quiet (first|(go_at_call 87;refine Calls.quiet_of_same (kind_at _ kb m hm256 HK.out)))
 have HIn:=lh (HI.out.on (drewN_below _ _ nq))
 have HId:InT w (some ⟨b,off,none⟩) len c kb ((scanW w (some ⟨b,off,none⟩) len c kb).drewN nq).drew:=HIn.out.on (drewN_below _ _ 1)
 clear HK
 generalize kindF m=k at *
 by_cases k3:k=3
 · subst k3
   have hst:step (xs.drop i)=.tok 1 (run isNameB (xs.drop i)) 0:=by rw [HX.out,step,HM.out,if_pos (by simpa using KL.out.symm)]
   have hpos:i<i+run isNameB (xs.drop i)∧i+run isNameB (xs.drop i)≤len:=by
    have h1:=(step_len hst).1
    have h2:=HRn.out
    rw [List.length_drop,hlen.out] at h2
    omega
   obtain ⟨j,hj⟩:∃j,i+run isNameB (xs.drop i)=j:=⟨_,rfl⟩
   rw [hj] at hpos
   have PN0:=PN.out
   rw [hj] at PN0
   have PN1:=lh PN0
   have HJ:=lh hj
   have HS:=lh hst
   have PW1:=lh (PW.out j 1 hpos.1 hpos.2)
   clear PN0 hj hst PN PM PW
   generalize hst:strOfNums ((xs.drop i).take (j-i))=st at *
   have HT:=lh hst
   clear hst
   go_wp2_with fail
   go_region_held3 (fun w'=>w'.cell? ⟨w.heap.size,0,none⟩=some (.slice (some ⟨b,off,none⟩) len c)∧w'.cell? ⟨w.heap.size,1,none⟩=some (.func (.func 87) #[] #[.pointer (some ⟨kb,0,none⟩)])∧InT w (some ⟨b,off,none⟩) len c kb w') (refine ⟨?_,?_,?_⟩<;>(first|(with_reducible assumption)|go_keep|(repeat (with_reducible refine InT.set ?_ _ _));with_reducible assumption))
    (first
     | (go_at_call 90;(with_reducible refine (PN1.out _ ?_).mono ?_);(assumption);rintro e w' ⟨rfl,q⟩;have q0:=q.b0;have q1:=q.b1)
     | (go_at_call 89;(with_reducible refine (PW1.out _ ?_).mono ?_);(assumption);rintro e w' ⟨rfl,q⟩;have q0:=q.b0;have q1:=q.b1;obtain ⟨v0,z0⟩:=q.t0;obtain ⟨v1,z1⟩:=q.t1;obtain ⟨v2,z2⟩:=q.t2;obtain ⟨v3,z3⟩:=q.t3;obtain ⟨v4,z4⟩:=q.t4;have y0:=q.f0;have y1:=q.f1;have y2:=q.f2;have y3:=q.f3;have y4:=q.f4))
   all_goals go_wp2
   all_goals simp [bodyPost,results,Tryz.results49,go_sem,z0,z1,z2,z3,z4]
   all_goals exact tokPost_tok HS.out HJ.out.symm HT.out (five q.below (by omega) _ _ _ _ _)
 · have k3':(k==3)=false:=by simpa using k3
   by_cases k4:k=4
   · subst k4
     have hnl:¬ (isLetter (m:Int)=true):=by rw [← KL.out];simp
     have hdg:isDigit (m:Int)=true:=by simpa using KD.out.symm
     have NA:=lexNumber_at ((scanW w (some ⟨b,off,none⟩) len c kb).drewN nq) (some ⟨b,off,none⟩) len c kb i xs (hsk.out.on (Nat.le_refl _) (drewN_below _ _ nq)) hb hi (by rw [HM.out];exact hdg)
     cases hn:numV 0 (xs.drop i) with
     | some n =>
      have hst:step (xs.drop i)=.tok 2 (run isDigit (xs.drop i)) n:=by
       rw [HX.out,HM.out] at hn
       rw [HX.out,step,HM.out,if_neg hnl,if_pos hdg,hn]
      obtain ⟨j,hj⟩:∃j,i+run isDigit (xs.drop i)=j:=⟨_,rfl⟩
      obtain ⟨st,ht⟩:∃st,strOfNums ((xs.drop i).take (j-i))=st:=⟨_,rfl⟩
      have NA1:=NA.mono (R':=fun e w'=>e=.returned (.tuple #[tokV 2 i j st n,.int .i64 0])∧InT w (some ⟨b,off,none⟩) len c kb w') (fun e w' h=>⟨by
       have h1:=h.1
       rw [hn] at h1
       rw [h1,← ht,← hj,Nat.add_sub_cancel_left],HIn.out.on h.2⟩)
      have HJ:=lh hj
      have HS:=lh hst
      have HT:=lh ht
      have NA2:=lh NA1
      clear NA NA1 hj hst ht hn hnl hdg PN PM PW HId
      go_wp2_with fail
      (with_reducible refine NA2.out.mono ?_)
      rintro e w' ⟨rfl,q⟩
      obtain ⟨_,_,⟨v0,z0⟩,⟨v1,z1⟩,⟨v2,z2⟩,⟨v3,z3⟩,⟨v4,z4⟩,y0,y1,y2,y3,y4,zs,zb⟩:=q
      have ZB:=lh zb
      clear zb HI H NA2
      go_wp2
      simp [bodyPost,results,Tryz.results49,go_sem,z0,z1,z2,z3,z4]
      exact tokPost_tok HS.out HJ.out.symm HT.out (five ZB.out (by omega) _ _ _ _ _)
     | none =>
      have hst:step (xs.drop i)=.err 31:=by
       rw [HX.out,HM.out] at hn
       rw [HX.out,step,HM.out,if_neg hnl,if_pos hdg,hn]
      have NA1:=NA.mono (R':=fun e w'=>e=.returned (.tuple #[tokV 0 0 0 ⟨#[]⟩ 0,.int .i64 31])∧InT w (some ⟨b,off,none⟩) len c kb w') (fun e w' h=>⟨by
       have h1:=h.1
       rw [hn] at h1
       exact h1,HIn.out.on h.2⟩)
      have HS:=lh hst
      have NA2:=lh NA1
      clear NA NA1 hst hn hnl hdg PN PM PW HId
      go_wp2_with fail
      (with_reducible refine NA2.out.mono ?_)
      rintro e w' ⟨rfl,q⟩
      obtain ⟨_,_,⟨v0,z0⟩,⟨v1,z1⟩,⟨v2,z2⟩,⟨v3,z3⟩,⟨v4,z4⟩,y0,y1,y2,y3,y4,zs,zb⟩:=q
      have ZB:=lh zb
      clear zb HI H NA2
      go_wp2
      simp [bodyPost,results,Tryz.results49,go_sem,z0,z1,z2,z3,z4]
      exact tokPost_err HS.out (five ZB.out (by omega) _ _ _ _ _)
   · have k4':(k==4)=false:=by simpa using k4
     by_cases k6:k=6
     · subst k6
       have hst:step (xs.drop i)=.tok 3 (if xs.getD i 0=61∧(xs.drop (i+1)).head?=some 61 then 2 else 1) 0:=by
        rw [HX.out,step,HM.out,if_neg (by rw [← KL.out];simp),if_neg (by rw [← KD.out];simp),if_pos (by simpa using KM.out.symm)]
       have hpos:i<i+(if xs.getD i 0=61∧(xs.drop (i+1)).head?=some 61 then 2 else 1)∧i+(if xs.getD i 0=61∧(xs.drop (i+1)).head?=some 61 then 2 else 1)≤len:=by
        have h1:=step_len hst
        rw [List.length_drop,hlen.out] at h1
        omega
       obtain ⟨j,hj⟩:∃j,i+(if xs.getD i 0=61∧(xs.drop (i+1)).head?=some 61 then 2 else 1)=j:=⟨_,rfl⟩
       rw [hj] at hpos
       have PN0:=PM.out
       rw [hj] at PN0
       have PN1:=lh PN0
       have HJ:=lh hj
       have HS:=lh hst
       have PW1:=lh (PW.out j 3 hpos.1 hpos.2)
       clear PN0 hj hst PN PM PW
       generalize hst:strOfNums ((xs.drop i).take (j-i))=st at *
       have HT:=lh hst
       clear hst
       go_wp2_with fail
       go_region_held3 (fun w'=>w'.cell? ⟨w.heap.size,0,none⟩=some (.slice (some ⟨b,off,none⟩) len c)∧w'.cell? ⟨w.heap.size,1,none⟩=some (.func (.func 87) #[] #[.pointer (some ⟨kb,0,none⟩)])∧InT w (some ⟨b,off,none⟩) len c kb w') (refine ⟨?_,?_,?_⟩<;>(first|(with_reducible assumption)|go_keep|(repeat (with_reducible refine InT.set ?_ _ _));with_reducible assumption))
        (first
         | (go_at_call 92;(with_reducible refine (PN1.out _ ?_).mono ?_);(assumption);rintro e w' ⟨rfl,q⟩;have q0:=q.b0;have q1:=q.b1)
         | (go_at_call 89;(with_reducible refine (PW1.out _ ?_).mono ?_);(assumption);rintro e w' ⟨rfl,q⟩;have q0:=q.b0;have q1:=q.b1;obtain ⟨v0,z0⟩:=q.t0;obtain ⟨v1,z1⟩:=q.t1;obtain ⟨v2,z2⟩:=q.t2;obtain ⟨v3,z3⟩:=q.t3;obtain ⟨v4,z4⟩:=q.t4;have y0:=q.f0;have y1:=q.f1;have y2:=q.f2;have y3:=q.f3;have y4:=q.f4))
       all_goals go_wp2
       all_goals simp [bodyPost,results,Tryz.results49,go_sem,z0,z1,z2,z3,z4]
       all_goals exact tokPost_tok HS.out HJ.out.symm HT.out (five q.below (by omega) _ _ _ _ _)
     · have k6':(k==6)=false:=by simpa using k6
       obtain ⟨_,_,⟨v0,z0⟩,⟨v1,z1⟩,⟨v2,z2⟩,⟨v3,z3⟩,⟨v4,z4⟩,y0,y1,y2,y3,y4,zs,zb⟩:=HIn.out
       have ZB:=lh zb
       clear zb HI H
       go_wp2
       simp [bodyPost,results,Tryz.results49,go_sem,z0,z1,z2,z3,z4]
       refine tokPost_err ?_ (five ZB.out (by omega) _ _ _ _ _)
       rw [HX.out,step,HM.out,if_neg (by rw [← KL.out];simp [k3']),if_neg (by rw [← KD.out];simp [k4']),if_neg (by rw [← KM.out];simp [k6'])]
end
section
open Go.RowKit
theorem placeDone (p q r s:Addr)(w:World) :
 CallsD Tryz.prog 62 #[.pointer (some p),.pointer (some q),.pointer (some r),.pointer (some s)] .returning w fun e u' w'=>e=.returned (.tuple #[])∧u'=.returning∧w'=w:=by
 refine callsD_of_wpS Tryz.func62 rfl fun c₀ cs hu=>?_
 apply wpS_seq
 apply wpS_region
 simp [wpOpsS,go_sem,recoverD,hu,Tryz.ntmps62,Exit.thenS]
 refine wpS_cond (t:=false) (by simp [Act.eval,Array.replicate]) ?_
 simp only [Bool.false_eq_true,if_false]
 refine wpS_of_wp (wp_skip ?_)
 cases c₀
 simp_all [bodyPostS,results,Tryz.results62]
theorem codeDone (p:Addr)(w:World) :
 CallsD Tryz.prog 60 #[.pointer (some p)] .returning w fun e u' w'=>e=.returned (.tuple #[])∧u'=.returning∧w'=w:=by
 refine callsD_of_wpS Tryz.func60 rfl fun c₀ cs hu=>?_
 apply wpS_seq
 apply wpS_region
 simp [wpOpsS,go_sem,recoverD,hu,Tryz.ntmps60,Exit.thenS]
 refine wpS_cond (t:=false) (by simp [Act.eval,Array.replicate]) ?_
 simp only [Bool.false_eq_true,if_false]
 refine wpS_of_wp (wp_skip ?_)
 cases c₀
 simp_all [bodyPostS,results,Tryz.results60]
theorem code_nil (w:World) :
 Calls Tryz.prog 25 #[.nilIface] w fun e w'=>e=.returned (.int .i64 0)∧w'=w.alloc (.cells #[.int .i64 0] 45):=by
 go_enter_defers Tryz.func25,Tryz.ntmps25
 go_wp2
 simp [bodyPostD,Leaves,results,Tryz.results25,go_sem]
theorem code_in (T:TypeId)(x:Value)(j:Int)(n:Nat)(w:World)(hg:w.cell? ⟨0,0,none⟩=some (.iface 229 (.agg #[.pointer (some ⟨5, 25,none⟩)])))(hp:Path w true (.iface 45 (.int .i64 j)) (.iface T x) n) :
 Calls Tryz.prog 25 #[.iface T x] w fun e w'=>e=.returned (.int .i64 j)∧Below w.heap.size w w':=by
 have hmf:∀(fn:Fn) (first cap:Array Value) (w:World),(Instr.makeFunc fn first cap).run Tryz.prog w=.ok (.func fn first cap) w:=fun _ _ _ _=>rfl
 have hlt:=cell_lt hg
 have hg2:((w.alloc (.cells #[.int .i64 0] 45)).alloc (.cells #[.int .i64 0] 45)).cell? ⟨0,0,none⟩=some (.iface 229 (.agg #[.pointer (some ⟨5, 25,none⟩)])):=by
  rw [World.cell?_alloc_lt _ _ ⟨0,0,none⟩ (by simp),World.cell?_alloc_lt _ _ ⟨0,0,none⟩ hlt];exact hg
 have hp2:Path ((w.alloc (.cells #[.int .i64 0] 45)).alloc (.cells #[.int .i64 0] 45)) true (.iface 45 (.int .i64 j)) (.iface T x) n:=path_world (fun B o h=>by
  obtain ⟨v,hv⟩:=Option.isSome_iff_exists.1 h
  rw [World.cell?_alloc_lt _ _ ⟨B,o,none⟩ (by have:=cell_lt hv;simp at this ⊢;omega),World.cell?_alloc_lt _ _ ⟨B,o,none⟩ (cell_lt hv)]) hp
 have HP:=lh hp2
 clear hp2 hp
 have H:=As23 ⟨w.heap.size+1,0,none⟩ T x (.int .i64 0) j n _ hg2 HP.out (by simp) (by simp)
 clear hg2 hg
 go_enter_defers Tryz.func25,Tryz.ntmps25
 go_wp2_with (go_at_call 61;(with_reducible refine H.mono ?_);rintro e' w' ⟨rfl,rfl⟩)
 refine leaves_cons (f := 60) (args:=#[.pointer (some ⟨w.heap.size,0,none⟩)]) (by simp) (by simp [go_sem]) ?_
 refine (codeDone ⟨w.heap.size,0,none⟩ _).mono ?_
 rintro e u' w'' ⟨rfl,rfl,rfl⟩
 simp [Leaves,settle,results,Tryz.results25,go_sem]
 exact ((((((Below.refl _ _).alloc (Nat.le_refl _) _).alloc (by simp) _).alloc (by simp;omega) _).alloc (by simp;omega) _).alloc (by simp;omega) _).alloc (by simp;omega) _
theorem place_no (T:TypeId)(x:Value)(j:Int)(n:Nat)(w:World)(hg:w.cell? ⟨0,0,none⟩=some (.iface 229 (.agg #[.pointer (some ⟨5, 25,none⟩)])))(hp:Path w false (.iface 45 (.int .i64 j)) (.iface T x) n) :
 Calls Tryz.prog 26 #[.iface T x] w fun e w'=>e=.returned (.tuple #[.int .i64 0,.int .i64 0,.int .i64 0,.bool false])∧Below w.heap.size w w':=by
 have hmf:∀(fn:Fn) (first cap:Array Value) (w:World),(Instr.makeFunc fn first cap).run Tryz.prog w=.ok (.func fn first cap) w:=fun _ _ _ _=>rfl
 have hlt:=cell_lt hg
 have hg2:(((((w.alloc (.cells #[.int .i64 0] 3)).alloc (.cells #[.int .i64 0] 3)).alloc (.cells #[.int .i64 0] 3)).alloc (.cells #[.bool false] 4)).alloc (.cells #[.pointer none] 109)).cell? ⟨0,0,none⟩=some (.iface 229 (.agg #[.pointer (some ⟨5, 25,none⟩)])):=by
  rw [World.cell?_alloc_lt _ _ ⟨0,0,none⟩ (by simp),World.cell?_alloc_lt _ _ ⟨0,0,none⟩ (by simp),World.cell?_alloc_lt _ _ ⟨0,0,none⟩ (by simp),World.cell?_alloc_lt _ _ ⟨0,0,none⟩ (by simp),World.cell?_alloc_lt _ _ ⟨0,0,none⟩ hlt];exact hg
 have hp2:Path (((((w.alloc (.cells #[.int .i64 0] 3)).alloc (.cells #[.int .i64 0] 3)).alloc (.cells #[.int .i64 0] 3)).alloc (.cells #[.bool false] 4)).alloc (.cells #[.pointer none] 109)) false (.iface 45 (.int .i64 j)) (.iface T x) n:=path_world (fun B o h=>by
  obtain ⟨v,hv⟩:=Option.isSome_iff_exists.1 h
  have hb:=cell_lt hv
  simp only at hb
  rw [World.cell?_alloc_lt _ _ ⟨B,o,none⟩ (by simp;omega),World.cell?_alloc_lt _ _ ⟨B,o,none⟩ (by simp;omega),World.cell?_alloc_lt _ _ ⟨B,o,none⟩ (by simp;omega),World.cell?_alloc_lt _ _ ⟨B,o,none⟩ (by simp;omega),World.cell?_alloc_lt _ _ ⟨B,o,none⟩ hb]) hp
 have HP:=lh hp2
 clear hp2 hp
 have H:=As45_miss ⟨w.heap.size+1+1+1+1,0,none⟩ T x j n _ hg2 HP.out
 clear hg2 hg
 go_enter_defers Tryz.func26,Tryz.ntmps26
 go_wp2_with (go_at_call 61;(with_reducible refine H.mono ?_);rintro e' w' ⟨rfl,rfl⟩)
 refine leaves_cons (f := 62) (args:=#[.pointer (some ⟨w.heap.size,0,none⟩),.pointer (some ⟨w.heap.size+1,0,none⟩),.pointer (some ⟨w.heap.size+1+1,0,none⟩),.pointer (some ⟨w.heap.size+1+1+1,0,none⟩)]) (by simp) (by simp [go_sem]) ?_
 refine (placeDone _ _ _ _ _).mono ?_
 rintro e u' w'' ⟨rfl,rfl,rfl⟩
 simp [Leaves,settle,results,Tryz.results26,go_sem]
 exact ((((((((Below.refl _ _).alloc (Nat.le_refl _) _).alloc (by simp) _).alloc (by simp;omega) _).alloc (by simp;omega) _).alloc (by simp;omega) _).alloc (by simp;omega) _).alloc (by simp;omega) _).alloc (by simp;omega) _
end
section
open Go.RowKit
abbrev ET (w:World):Prop:=w.cell? ⟨0,0,none⟩=some (.iface 229 (.agg #[.pointer (some ⟨5, 25,none⟩)]))
theorem ET.below {w W:World}(h:ET w)(hb:Below w.heap.size w W):ET W:=by
 show W.cell? ⟨0,0,none⟩=_
 rw [hb.cell (p:=⟨0,0,none⟩) (cell_lt h)];exact h
structure ErrAt (W:World)(B:Nat)(x l c n:Int):Prop where
 lt:B<W.heap.size
 c0:W.cell? ⟨B,0,none⟩=some (.int .i64 x)
 c1:W.cell? ⟨B,1,none⟩=some (.int .i64 l)
 c2:W.cell? ⟨B,2,none⟩=some (.int .i64 c)
 c3:W.cell? ⟨B,3,none⟩=some (.int .i64 n)
theorem ErrAt.on {W W':World}{B:Nat}{x l c n:Int}(h:ErrAt W B x l c n)(hb:Below W.heap.size W W'):ErrAt W' B x l c n where
 lt:=Nat.lt_of_lt_of_le h.lt hb.size
 c0:=by rw [hb.cell (p:=⟨B,0,none⟩) h.lt];exact h.c0
 c1:=by rw [hb.cell (p:=⟨B,1,none⟩) h.lt];exact h.c1
 c2:=by rw [hb.cell (p:=⟨B,2,none⟩) h.lt];exact h.c2
 c3:=by rw [hb.cell (p:=⟨B,3,none⟩) h.lt];exact h.c3
theorem NewW.at_ {w W:World}{x l c n:Int}(h:NewW w W x l c n):ErrAt W (w.heap.size+1) x l c n:=⟨h.size,h.c0,h.c1,h.c2,h.c3⟩
theorem code_none (W:World):Calls Tryz.prog 25 #[.nilIface] W fun e w2=>e=.returned (.int .i64 0)∧Below W.heap.size W w2 :=
 (code_nil W).mono fun _ _ ⟨h1,h2⟩=>⟨h1,by rw [h2];exact (Below.refl _ _).alloc (Nat.le_refl _) _⟩
end
section
open Go.RowKit
def tokC (t:Tok):List Value:=[.int .u8 t.kind,.int .i64 t.at',.int .i64 t.stop,.string (strOfNums t.text),.int .i64 t.n]
def cellsT (ts:List Tok):List Value:=ts.flatMap tokC
theorem cellsT_snoc (ts:List Tok)(t:Tok):cellsT (ts++[t])=cellsT ts++tokC t:=by simp [cellsT]
theorem bl_idem (xs:List Int)(i:Nat):bl xs (bl xs i)=bl xs i:=by
 have:=blk_done false (xs.drop i)
 rw [List.drop_drop] at this
 unfold bl
 omega
theorem step_err {l:List Int}{er:Int}(h:step l=.err er)(hl:0<l.length):er=30∨er=31:=by
 cases l with
 | nil=>simp at hl
 | cons c r =>
  simp only [step] at h
  split at h
  · simp at h
  · split at h
    · split at h<;>simp at h
      exact Or.inr h.symm
    · split at h<;>simp at h
      exact Or.inl h.symm
theorem info29 : (Tryz.prog.info? 29).map (fun i=>(i.zero,i.size,i.bytes))=some (some (.agg #[.int .u8 0,.int .i64 0,.int .i64 0,.string ⟨#[]⟩,.int .i64 0]),5,48):=by kernel_rfl
def LexPost (xs:List Int)(w:World)(e:Ending)(w':World):Prop :=
 (match lexS xs with
  | .ok ts=>∃g cap,e=.returned (.tuple #[.slice (some ⟨g,0,none⟩) ts.length cap,.nilIface])∧w'.ownsRow w.heap.size 29 5 (.slice (some ⟨g,0,none⟩) ts.length cap) ts.length (cellsT ts)
  | .error (i,er)=>∃B l c,e=.returned (.tuple #[.slice none 0 0,.iface 109 (.pointer (some ⟨B,0,none⟩))])∧w.heap.size≤B∧ErrAt w' B i l c er)∧Below w.heap.size w w'
theorem lexPost_err {xs:List Int}{i:Nat}{er l c:Int}{w W:World}{B:Nat}(h:lexS xs=.error (i,er))(hB:w.heap.size≤B)(hE:ErrAt W B i l c er)(hb:Below w.heap.size w W) :
 LexPost xs w (.returned (.tuple #[.slice none 0 0,.iface 109 (.pointer (some ⟨B,0,none⟩))])) W:=by
 refine ⟨?_,hb⟩
 rw [h]
 exact ⟨B,l,c,rfl,hB,hE⟩
theorem lexPost_ok {xs:List Int}{ts:List Tok}{w W:World}{g n cap:Nat}{cs:List Value}(h:lexS xs=.ok ts)(hn:n=ts.length)(hc:cs=cellsT ts)(ho:W.ownsRow w.heap.size 29 5 (.slice (some ⟨g,0,none⟩) n cap) n cs)(hb:Below w.heap.size w W) :
 LexPost xs w (.returned (.tuple #[.slice (some ⟨g,0,none⟩) n cap,.nilIface])) W:=by
 subst hn hc
 refine ⟨?_,hb⟩
 rw [h]
 exact ⟨g,cap,rfl,ho⟩
theorem sk_of {w W:World}{p:Option Addr}{len c:Nat}{xs:List Int}(hs:Src w p len c xs)(hk:KW w W (FK 6)):SK W p len c (w.heap.size+1) xs where
 len_eq:=hs.1
 byte:=hs.2.1
 addr:=fun hl=>by
  rcases hs.2.2 with ⟨h,_⟩|⟨b,off,e,hc,hb,hx⟩
  · omega
  · exact ⟨b,off,e,Nat.lt_of_lt_of_le hb hk.below.size,fun i hi=>by rw [hk.below.cell (p:=⟨b,off+i,none⟩) hb];exact hx i hi⟩
 cap:=by
  rcases hs.2.2 with ⟨h,h'⟩|⟨b,off,e,hc,hb,hx⟩<;>omega
 kinds:=fun k hk'=>by rw [hk.arr k hk',FK_kind k hk']
 kbl:=hk.size
theorem new_err {w W:World}{p:Option Addr}{len c k:Nat}{xs:List Int}{at' n:Int}(h0:n≠0)(hb:len≤70000)(hk:min (max at' 0) (len:Int)=(k:Int))(hs:Src w p len c xs)(hW:Below w.heap.size w W) :
 ∃B l cc,w.heap.size≤B∧Calls Tryz.prog 46 #[.slice p len c,.int .i64 at',.int .i64 n] W fun e w'=>e=.returned (.iface 109 (.pointer (some ⟨B,0,none⟩)))∧ErrAt w' B k l cc n∧Below W.heap.size W w' :=
 ⟨W.heap.size+1,_,_,by have:=hW.size;omega,(new_src p len c k xs at' n W h0 hb hk (hs.below hW)).mono fun _ _ ⟨h1,h2⟩=>⟨h1,h2.at_,h2.below⟩⟩
structure LexInv (w W1:World)(p:Option Addr)(len c:Nat)(v:Value)(ts:List Tok)(W:World):Prop where
 below:Below (W1.heap.size+1) (W1.alloc (.cells #[.slice p len c,.func (.func 87) #[] #[.pointer (some ⟨w.heap.size+1,0,none⟩)]] 90)) W
 own:W.ownsRow (W1.heap.size+1) 29 5 v ts.length (cellsT ts)
theorem LexInv.on {w W1 W W':World}{p:Option Addr}{len c:Nat}{v:Value}{ts:List Tok}(h:LexInv w W1 p len c v ts W)(hb:Below W.heap.size W W'):LexInv w W1 p len c v ts W' where
 below:=h.below.trans (hb.mono (by have:=h.below.size;simpa using this))
 own:=h.own.kept (row:=none) ⟨hb.os,hb.tape,hb.output,hb.size,fun k hk _=>hb.block k hk⟩ (by
  cases hv:v.ownBlock with
  | none=>exact Or.inl rfl
  | some k=>exact Or.inr (by simp))
theorem LexInv.push {w W1 W W' w5:World}{p:Option Addr}{len c g cap:Nat}{v:Value}{ts:List Tok}(h:LexInv w W1 p len c v ts W)(hW:Below W.heap.size W W')(hg:W'.grownBy w5 v.ownBlock)(t:Tok)(cs:List Value)(hc:cs=tokC t)
 (ho:w5.ownsRow (W1.heap.size+1) 29 5 (.slice (some ⟨g,0,none⟩) (ts.length+1) cap) (ts.length+1) (cellsT ts++cs)):LexInv w W1 p len c (.slice (some ⟨g,0,none⟩) (ts.length+1) cap) (ts++[t]) w5 where
 below:=(h.on hW).below.grown hg (by have:=h.below.size;have:=hW.size;simp at *;omega) (fun k hk=>(h.own.lt k hk).1)
 own:=by rw [cellsT_snoc,← hc,List.length_append];exact ho
theorem tok_one (k i j n:Int)(st:ByteArray):∀u∈([.int .u8 k,.int .i64 i,.int .i64 j,.string st,.int .i64 n]:List Value),u.oneCell'=true:=by
 intro u hu
 simp only [List.mem_cons,List.not_mem_nil,or_false] at hu
 rcases hu with rfl|rfl|rfl|rfl|rfl<;>rfl
theorem two_below (W:World)(o1 o2:Obj):Below W.heap.size W ((W.alloc o1).alloc o2):=((Below.refl _ _).alloc (Nat.le_refl _) _).alloc (by simp) _
theorem one_below (W:World)(o1:Obj):Below W.heap.size W (W.alloc o1):=(Below.refl _ _).alloc (Nat.le_refl _) _
theorem LexInv.all {w W1 W:World}{p:Option Addr}{len c:Nat}{v:Value}{ts:List Tok}(h:LexInv w W1 p len c v ts W)(hk:KW w W1 (FK 6)):Below w.heap.size w W :=
 (hk.below.alloc (by have:=hk.below.size;simpa using this) _).trans (h.below.mono (by have:=hk.below.size;omega))
theorem LexInv.b0 {w W1 W:World}{p:Option Addr}{len c:Nat}{v:Value}{ts:List Tok}(h:LexInv w W1 p len c v ts W):W.cell? ⟨W1.heap.size,0,none⟩=some (.slice p len c):=by
 rw [h.below.cell (p:=⟨W1.heap.size,0,none⟩) (by simp)];simp
theorem LexInv.b1 {w W1 W:World}{p:Option Addr}{len c:Nat}{v:Value}{ts:List Tok}(h:LexInv w W1 p len c v ts W):W.cell? ⟨W1.heap.size,1,none⟩=some (.func (.func 87) #[] #[.pointer (some ⟨w.heap.size+1,0,none⟩)]):=by
 rw [h.below.cell (p:=⟨W1.heap.size,1,none⟩) (by simp)];simp
theorem LexInv.sk {w W1 W:World}{p:Option Addr}{len c:Nat}{v:Value}{ts:List Tok}{xs:List Int}(h:LexInv w W1 p len c v ts W)(hs:SK W1 p len c (w.heap.size+1) xs):SK W p len c (w.heap.size+1) xs :=
 (hs.alloc _).on (by simp) h.below
theorem lex_at (w:World)(p:Option Addr)(len c:Nat)(xs:List Int)(h:Src w p len c xs)(hb:len≤65536) :
 Calls Tryz.prog 14 #[.slice p len c] w (LexPost xs w):=by
 have hlen:=lh h.1
 have HS:=lh h
 obtain ⟨i0,hi,hz0,hz1,hz2⟩:=info_parts info29
 have HK:=lh (byteKinds_run w)
 clear h
 have I0:=lh hi
 have I1:=lh hz0
 have I2:=lh hz1
 have I3:=lh hz2
 clear hi hz0 hz1 hz2
 go_enter Tryz.func14,Tryz.ntmps14
 go_wp2_with fail
 (with_reducible refine HK.out.mono ?_)
 rintro e W1 ⟨rfl,hk⟩
 have KK:=lh hk
 have hsk:=lh (sk_of HS.out hk)
 have hs1:=lh (hk.size)
 clear hk HK
 go_wp2_with fail
 have PB:Calls Tryz.prog 48 #[.agg #[.slice p len c,.func (.func 87) #[] #[.pointer (some ⟨w.heap.size+1,0,none⟩)]],.int .i64 0] (W1.alloc (.cells #[.slice p len c,.func (.func 87) #[] #[.pointer (some ⟨w.heap.size+1,0,none⟩)]] 90)) _:=pastBlanks_at (W1.alloc (.cells #[.slice p len c,.func (.func 87) #[] #[.pointer (some ⟨w.heap.size+1,0,none⟩)]] 90)) p len c (w.heap.size+1) 0 xs (hsk.out.alloc _) (by omega) (by omega)
 (with_reducible refine PB.mono ?_)
 rintro e W3 ⟨rfl,hb3⟩
 have HI:Hid (LexInv w W1 p len c (.slice none 0 0) [] W3):=lh ⟨by simpa using hb3,World.ownsRow_nil _ _ _ _⟩
 have hb0:=lh (bl_le xs 0 (by omega))
 clear hb3 PB
 go_wp2_with fail
 go_loopw [5,6] (fun v iv wr=>∃(i:Nat) (ts:List Tok),i≤len∧ts.length≤i∧iv=.int .i64 i∧Hid (bl xs i=i)∧Hid (lexS xs=pre ts (lexAt xs i))∧Hid (LexInv w W1 p len c v ts wr)) (fun _ iv _=>len-(intOf iv).toNat)
 case atStart=>exact ⟨bl xs 0,[],by have:=hb0.out;have:=hlen.out;omega,by simp,rfl,lh (bl_idem xs 0),lh (by rw [lexS_at,lexAt_bl xs 0 (by omega),pre_nil]),HI⟩
 case round =>
  obtain ⟨i,ts,hil,htl,rfl,HB,HL,HV⟩:=hrel
  have c0:=HV.out.b0
  have c1:=HV.out.b1
  have hskr:=lh (HV.out.sk hsk.out)
  have hall:=lh (HV.out.all KK.out)
  have hsz:=hall.out.size
  by_cases hlt:i<len
  · have TA:=tokenAt_at wr p len c (w.heap.size+1) i xs hskr.out (by omega) hlt
    have hix:i<xs.length:=by have:=hlen.out;omega
    cases hst:step (xs.drop i) with
    | err er =>
     have TA1:=TA.mono (R':=fun e w'=>e=.returned (.tuple #[tokV 0 0 0 ⟨#[]⟩ 0,.int .i64 er])∧Below wr.heap.size wr w') (fun e w' h=>⟨by
      have h1:=h.1
      rw [hst] at h1
      exact h1,h.2⟩)
     have her:er≠0:=by
      have:=step_err hst (by rw [List.length_drop];omega)
      omega
     have her':(er != 0)=true:=by simpa using her
     have HE:=lh (lexAt_err xs i er hix HB.out hst)
     clear TA hst hix
     go_wp2_with fail
     (with_reducible refine TA1.mono ?_)
     rintro e w4 ⟨rfl,hb4⟩
     have hV4:=lh (HV.out.on hb4)
     clear hb4 TA1
     go_wp2_with fail
     obtain ⟨B,l,cc,hB,NA⟩:=new_err (W:=w4.alloc (.cells #[.int .u8 0,.int .i64 0,.int .i64 0,.string ⟨#[]⟩,.int .i64 0] 29)) her (by omega) (show min (max (i:Int) 0) (len:Int)=(i:Int) by omega) HS.out ((hV4.out.all KK.out).alloc (by have:=(hV4.out.all KK.out).size;simpa using this) _)
     have HN:=lh NA
     clear NA
     (with_reducible refine HN.out.mono ?_)
     rintro e w5 ⟨rfl,hE,hb5⟩
     have HEr:=lh hE
     have HB5:=lh (((hV4.out.all KK.out).alloc (by have:=(hV4.out.all KK.out).size;simpa using this) (.cells #[.int .u8 0,.int .i64 0,.int .i64 0,.string ⟨#[]⟩,.int .i64 0] 29)).trans (hb5.mono (by have:=(hV4.out.all KK.out).size;simp;omega)))
     clear hE hb5 HN
     go_wp2
     go_ret2
     exact lexPost_err (by rw [HL.out,HE.out];rfl) hB HEr.out HB5.out
    | tok k l n =>
     have hsl:=step_len hst
     rw [List.length_drop] at hsl
     have HT:=lh (lexAt_tok xs i k l n hix HB.out hst)
     obtain ⟨j,hj⟩:∃j,i+l=j:=⟨_,rfl⟩
     obtain ⟨st,ht⟩:∃st,strOfNums ((xs.drop i).take l)=st:=⟨_,rfl⟩
     have TA1:=TA.mono (R':=fun e w'=>e=.returned (.tuple #[tokV k i j st n,.int .i64 0])∧Below wr.heap.size wr w') (fun e w' h=>⟨by
      have h1:=h.1
      rw [hst] at h1
      rw [h1,← ht,← hj],h.2⟩)
     have hij:i<j:=by omega
     have hjl:j≤len:=by have:=hlen.out;omega
     have HJ:=lh hj
     have HSt:=lh ht
     have hbj:=lh (bl_le xs j (by have:=hlen.out;omega))
     have hbb:=lh (lexAt_bl xs j (by have:=hlen.out;omega))
     clear TA hst hix hj ht hsl
     go_wp2_with fail
     (with_reducible refine TA1.mono ?_)
     rintro e w4 ⟨rfl,hb4⟩
     have hV4:=lh (HV.out.on hb4)
     have ho4:=hV4.out.own
     have hz4:=hV4.out.below.size
     simp only [World.size_alloc] at hz4
     have d0:=hV4.out.b0
     have d1:=hV4.out.b1
     clear hb4 TA1 HV c0 c1 hskr hall
     go_wp2_with (at_builtin;refine wpList_append_lies _ rfl (.tmp 35) (.tmp 37) 23 rfl (W1.heap.size+1) 29 i0 _ 5 48 Tryz.underlying23 I0.out I1.out I2.out I3.out rfl (by decide) u5 ts.length (cellsT ts) rfl ((ho4.alloc _).alloc _) ⟨w4.heap.size+1,0,none⟩ 1 1 [.int .u8 k,.int .i64 i,.int .i64 j,.string st,.int .i64 n] rfl rfl ?c1 ?c2 (by decide) ?c3 ?c4 ?c5 _ rfl ?_)
     case c1 =>
      refine World.news_of_block (cs:=#[.int .u8 k,.int .i64 i,.int .i64 j,.string st,.int .i64 n]) (t := 29) (fr:=(0,0)) ?_
      have:=heap_alloc_new (w4.alloc (.cells #[.int .u8 k,.int .i64 i,.int .i64 j,.string st,.int .i64 n] 29)) (.cells #[.int .u8 k,.int .i64 i,.int .i64 j,.string st,.int .i64 n] 29)
      simpa using this
     case c2=>exact tok_one _ _ _ _ _
     case c3=>unfold maxLen;omega
     case c4=>omega
     case c5=>simp;omega
     intro g cap w5 hown5 hgrow5 hat5 hlt5
     have hV5:=lh (hV4.out.push (two_below w4 _ _) hgrow5 ⟨k,i,j,(xs.drop i).take l,n⟩ _ (by rw [tokC,HSt.out]) hown5)
     have e2:w5.cell? ⟨w4.heap.size,2,none⟩=some (.int .i64 j):=by
      rw [hgrow5.cell_far ⟨w4.heap.size,2,none⟩ (by simp;omega) (fun e=>by have:=(ho4.lt _ e.symm).2;simp at this)]
      simp
     have x0:=hV5.out.b0
     have x1:=hV5.out.b1
     have PB:=pastBlanks_at w5 p len c (w.heap.size+1) j xs (hV5.out.sk hsk.out) (by omega) hjl
     clear hown5 hgrow5 hat5 hlt5 ho4 d0 d1
     go_wp2_with fail
     (with_reducible refine PB.mono ?_)
     rintro e w6 ⟨rfl,hb6⟩
     have hV6:=lh (hV5.out.on hb6)
     clear hb6 PB x0 x1 e2
     go_wp2_with fail
     go_roundw
     case rel=>exact ⟨bl xs j,ts++[⟨k,i,j,(xs.drop i).take l,n⟩],by have:=hbj.out;have:=hlen.out;omega,by simp;have:=hbj.out;omega,rfl,lh (bl_idem xs j),lh (by rw [HL.out,HT.out,HJ.out,pre_pre,← hbb.out]),hV6⟩
     case measure=>have:=hbj.out;have:=hlen.out;simp [intOf];omega
  · have hil2:i=len:=by omega
    have HE:=lh (lexAt_end xs i (by have:=hlen.out;omega))
    have ho4:=HV.out.own
    have hz4:=HV.out.below.size
    simp only [World.size_alloc] at hz4
    clear hskr hall hil2 c0 c1
    go_wp2_with (at_builtin;refine wpList_append_lies _ rfl (.tmp 43) (.tmp 47) 23 rfl (W1.heap.size+1) 29 i0 _ 5 48 Tryz.underlying23 I0.out I1.out I2.out I3.out rfl (by decide) u5 ts.length (cellsT ts) rfl (ho4.alloc _) ⟨wr.heap.size,0,none⟩ 1 1 [.int .u8 4,.int .i64 i,.int .i64 i,.string ⟨#[]⟩,.int .i64 0] rfl rfl ?d1 ?d2 (by decide) ?d3 ?d4 ?d5 _ rfl ?_)
    case d1 =>
     refine World.news_of_block (cs:=#[.int .u8 4,.int .i64 i,.int .i64 i,.string ⟨#[]⟩,.int .i64 0]) (t := 29) (fr:=(0,0)) ?_
     exact heap_alloc_new _ _
    case d2=>exact tok_one _ _ _ _ _
    case d3=>unfold maxLen;omega
    case d4=>omega
    case d5=>simp;omega
    intro g cap w5 hown5 hgrow5 hat5 hlt5
    have hV5:=lh (HV.out.push (one_below wr _) hgrow5 (Tok.endAt i) _ (by simp [tokC,Tok.endAt,strOfNums]) hown5)
    have HA:=lh (hV5.out.all KK.out)
    clear hown5 hgrow5 hat5 hlt5 ho4
    go_wp2
    go_ret2
    exact lexPost_ok (ts:=ts++[Tok.endAt i]) (by rw [HL.out,HE.out];rfl) (by simp) (by rfl) (by have:=hV5.out.own;rw [List.length_append] at this;exact this.mono (by have:=KK.out.below.size;omega)) HA.out
end
end Go.Proofs.YthdioipfdbbmmaaGreatDoor
