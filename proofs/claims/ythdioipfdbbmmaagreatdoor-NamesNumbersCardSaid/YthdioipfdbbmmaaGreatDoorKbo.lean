/- Contracts. -/
import Derived.Test.YthdioipfdbbmmaaGreatDoorKah
import Derived.Test.YthdioipfdbbmmaaGreatDoorKbm
set_option linter.all false
set_option maxRecDepth 1000000
set_option maxHeartbeats 16000000
namespace Go.Proofs.YthdioipfdbbmmaaGreatDoor
namespace Tr
open Go.RowKit
instance:Inhabited Part:=⟨⟨.stmt,0,0⟩⟩
structure PC (W:World)(b o:Nat)(p:Part)(g:Fn)(cs:Array Value):Prop where
 fv:W.cell? ⟨b,o,none⟩=some (.func g #[] cs)
 least:W.cell? ⟨b,o+1,none⟩=some (.int .i64 (p.least:Int))
 most:W.cell? ⟨b,o+2,none⟩=some (.int .i64 (p.most:Int))
 fit:FitV W g cs p.fit
structure PV (W:World)(q:Option Addr)(l c:Nat)(ps:List Part):Prop where
 len_eq:ps.length=l
 cap:l≤c
 cell:0<l→∃b off,q=some ⟨b,off,none⟩∧∀i,i<l→∃g cs,PC W b (off+i*3) (ps.getD i default) g cs
theorem PC.on {W V:World}{b o:Nat}{p:Part}{g:Fn}{cs:Array Value}(h:PC W b o p g cs)(hb:Aside W V):PC V b o p g cs where
 fv:=hb _ _ h.fv
 least:=hb _ _ h.least
 most:=hb _ _ h.most
 fit:=h.fit.on hb
theorem PV.on {W V:World}{q:Option Addr}{l c:Nat}{ps:List Part}(h:PV W q l c ps)(hb:Aside W V):PV V q l c ps where
 len_eq:=h.len_eq
 cap:=h.cap
 cell:=fun hl=>by
  obtain ⟨b,off,e,hc⟩:=h.cell hl
  refine ⟨b,off,e,fun i hi=>?_⟩
  obtain ⟨g,cs,hp⟩:=hc i hi
  exact ⟨g,cs,hp.on hb⟩
theorem inTurn_step (ps:List Part)(i:Nat)(h:i<ps.length)(l:List Int):inTurnP (ps.drop i) l=(decide ((ps.getD i default).least≤(ps.getD i default).takes l)&&inTurnP (ps.drop (i+1)) (l.drop ((ps.getD i default).takes l))):=by
 have e:ps.drop i=ps.getD i default::ps.drop (i+1):=by
  rw [List.drop_eq_getElem_cons h]
  simp [List.getD,h]
 rw [e,inTurnP]
def still (p:Part)(ks:List Int)(a m:Nat):Nat:=m+run p.fit.f ((ks.drop m).take (p.most-(m-a)))
theorem still_start (p:Part)(ks:List Int)(a:Nat):still p ks a a=a+p.takes (ks.drop a):=by simp [still,Part.takes]
theorem still_end (p:Part)(ks:List Int)(a m:Nat)(h:ks.length≤m):still p ks a m=m:=by simp [still,List.drop_eq_nil_of_le h,run]
theorem still_full (p:Part)(ks:List Int)(a m:Nat)(h:p.most≤m-a):still p ks a m=m:=by simp [still,Nat.sub_eq_zero_of_le h,run]
theorem still_no (p:Part)(ks:List Int)(a m:Nat)(h:m<ks.length)(hf:p.fit.f (ks.getD m 0)=false):still p ks a m=m:=by
 unfold still
 rw [run_none];· rfl
 intro x hx
 rw [List.drop_eq_getElem_cons h] at hx
 cases hq:p.most-(m-a) with
 | zero=>rw [hq] at hx;simp at hx
 | succ q =>
  rw [hq] at hx
  simp only [List.take_succ_cons,List.head?_cons,Option.some.injEq] at hx
  rw [← hx]
  simpa [List.getD,h] using hf
theorem still_yes (p:Part)(ks:List Int)(a m:Nat)(h:m<ks.length)(ha:a≤m)(hm:m-a<p.most)(hf:p.fit.f (ks.getD m 0)=true):still p ks a (m+1)=still p ks a m:=by
 unfold still
 rw [List.drop_eq_getElem_cons h]
 obtain ⟨q,hq⟩:∃q,p.most-(m-a)=q+1:=⟨p.most-(m-a)-1,by omega⟩
 have e:p.most-(m+1-a)=q:=by omega
 rw [hq,e,List.take_succ_cons,run,if_pos (by simpa [List.getD,h] using hf)]
 omega
theorem inTurn_at (w:World)(q:Option Addr)(l c:Nat)(ps:List Part)(p:Option Addr)(n c2:Nat)(ks:List Int)(h:PV w q l c ps)(hk:BV w p n c2 ks)(hl:l≤8)(hn:n≤70000)(hm:∀x∈ps,x.least≤1∧x.most≤9223372036854775807) :
 Calls Tryz.prog 237 #[.slice q l c,.slice p n c2] w fun e w'=>e=.returned (.bool (inTurnP ps ks))∧Below w.heap.size w w':=by
 have hlen:=lh h.len_eq
 have hlen2:=lh hk.len_eq
 have H:=lh h
 have HK:=lh hk
 have HM:=lh hm
 clear h hk hm
 go_enter Tryz.func237,Tryz.ntmps237
 go_wp2_with fail
 go_loopw [5,11] (fun av iv wr=>∃i a:Nat,i≤l∧a≤n∧av=.int .i64 a∧iv=.int .i64 i∧Hid (inTurnP ps ks=inTurnP (ps.drop i) (ks.drop a))∧Hid (Below w.heap.size w wr)) (fun _ iv _=>l-(intOf iv).toNat)
 case atStart=>exact ⟨0,0,by omega,by omega,rfl,rfl,lh rfl,lh (Below.refl _ _)⟩
 case round =>
  obtain ⟨i,a,hi,ha,rfl,rfl,HI,HB⟩:=hrel
  by_cases hil:i<l
  · obtain ⟨b,off,rfl,hc⟩:=(H.out.on (Aside.of HB.out)).cell (by omega)
    obtain ⟨g,cs,hp⟩:=hc i hil
    have k0:=hp.fv
    have k1:=hp.least
    have k2:=hp.most
    have HF:=lh hp.fit
    have HS:=lh (inTurn_step ps i (by have:=hlen.out;omega) (ks.drop a))
    have hmo:=HM.out (ps.getD i default) (by simp [List.getD,show i<ps.length by have:=hlen.out;omega])
    generalize ps.getD i default=pt at *
    clear hc hp
    go_wp2_with fail
    obtain ⟨wo,rfl⟩:∃wo:World,wo=wr:=⟨_,rfl⟩
    go_loopw [5] (fun mv wq=>∃m:Nat,a≤m∧m≤n∧mv=.int .i64 m∧Hid (still pt ks a m=a+pt.takes (ks.drop a))∧Hid (Below (wo.heap.size+1) (wo.alloc (.cells #[.func g #[] cs,.int .i64 (pt.least:Int),.int .i64 (pt.most:Int)] 255)) wq)) (fun mv _=>n-(intOf mv).toNat)
    case atStart=>exact ⟨a,by omega,by omega,rfl,lh (still_start _ _ _),lh (Below.refl _ _)⟩
    case round =>
     obtain ⟨wq,rfl⟩:∃wq:World,wq=wr:=⟨_,rfl⟩
     obtain ⟨m,ham,hmn,rfl,HT,HQ⟩:=hrel
     have c0:wq.cell? ⟨wo.heap.size,0,none⟩=some (.func g #[] cs):=by rw [HQ.out.cell (by simp)];simp
     have c1:wq.cell? ⟨wo.heap.size,1,none⟩=some (.int .i64 (pt.least:Int)):=by rw [HQ.out.cell (by simp)];simp
     have c2':wq.cell? ⟨wo.heap.size,2,none⟩=some (.int .i64 (pt.most:Int)):=by rw [HQ.out.cell (by simp)];simp
     have HW:=lh (HB.out.trans (((one_below wo (.cells #[.func g #[] cs,.int .i64 (pt.least:Int),.int .i64 (pt.most:Int)] 255)).trans (HQ.out.mono (by omega))).mono HB.out.size))
     have HF2:=lh (HF.out.on (Aside.of ((one_below wo (.cells #[.func g #[] cs,.int .i64 (pt.least:Int),.int .i64 (pt.most:Int)] 255)).trans (HQ.out.mono (by omega)))))
     have HSW:Hid (∀nq,Below w.heap.size w (wq.drewN nq)):=lh (fun nq=>HW.out.trans (drewN_below _ _ _))
     have HSQ:Hid (∀nq,Below (wo.heap.size+1) (wo.alloc (.cells #[.func g #[] cs,.int .i64 (pt.least:Int),.int .i64 (pt.most:Int)] 255)) (wq.drewN nq)):=lh (fun nq=>HQ.out.trans (drewN_below _ _ _))
     by_cases h1:m<n
     · have d1:decide ((m:Int)<(n:Int))=true:=by simp;omega
       have w1:IntKind.i64.wrap ((m:Int)-(a:Int))=(m:Int)-(a:Int):=IntWalk.i64_in _ (by omega)
       by_cases h2:m-a<pt.most
       · have d2:decide ((m:Int)-(a:Int)<(pt.most:Int))=true:=by simp;omega
         obtain ⟨kb,koff,rfl,hkc⟩:=(HK.out.on (Aside.of HW.out)).cell (by omega)
         have hkm:=hkc m h1
         have HY:=lh (still_yes pt ks a m (by have:=hlen2.out;omega) ham h2)
         have HN:=lh (still_no pt ks a m (by have:=hlen2.out;omega))
         generalize ks.getD m 0=x at *
         clear hkc
         have key:∀b:Bool,pt.fit.f x=b→b=b:=fun _ _=>rfl
         clear key
         cases hfx:pt.fit.f x with
         | true =>
          have HE2:=lh (HY.out hfx)
          have HFX:=lh hfx
          clear HN HY hfx
          cases hpf:pt.fit with
          | «of» xs =>
           rw [hpf] at HF2 HFX
           obtain ⟨B,fq,fl,fc,rfl,rfl,hB2,hB3,hB4⟩:=HF2.out
           have HI2:Hid (∀nq,Calls Tryz.prog 234 #[.int .u8 x,.pointer (some ⟨B,0,none⟩)] (wq.drewN nq) fun e w'=>e=.returned (.bool true)∧w'=wq.drewN nq):=lh (fun nq=>by
            rw [← show (xs.any fun y=>x==y)=true from HFX.out]
            exact isf_at (wq.drewN nq) B fl fc fq xs x hB2 (hB3.on (Aside.of (drewN_below _ _ _))) hB4)
           clear HF2 hB2 hB3 hB4 hpf
           go_wp2_with fail
           go_quiet (first|(go_at_call 234;refine Calls.quiet_of_same (HI2.out _)))
           go_wp2_with fail
           go_roundw
           case rel=>exact ⟨m+1,by omega,by omega,by go_num,lh (by rw [HE2.out,HT.out]),lh (HSQ.out nq)⟩
           case measure=>simp [intOf];omega
          | stmt =>
           rw [hpf] at HF2 HFX
           obtain ⟨rfl,rfl⟩:=HF2.out
           have HI2:Hid (∀nq,Calls Tryz.prog 190 #[.int .u8 x] (wq.drewN nq) fun e w'=>e=.returned (.bool true)∧w'=wq.drewN nq):=lh (fun nq=>by
            rw [← show isStmtK x=true from HFX.out]
            exact isStmt_at x _)
           clear HF2 hpf
           go_wp2_with fail
           go_quiet (first|(go_at_call 190;refine Calls.quiet_of_same (HI2.out _)))
           go_wp2_with fail
           go_roundw
           case rel=>exact ⟨m+1,by omega,by omega,by go_num,lh (by rw [HE2.out,HT.out]),lh (HSQ.out nq)⟩
           case measure=>simp [intOf];omega
          | expr =>
           rw [hpf] at HF2 HFX
           obtain ⟨rfl,rfl⟩:=HF2.out
           have HI2:Hid (∀nq,Calls Tryz.prog 115 #[.int .u8 x] (wq.drewN nq) fun e w'=>e=.returned (.bool true)∧w'=wq.drewN nq):=lh (fun nq=>by
            rw [← show isExprK x=true from HFX.out]
            exact isExpr_at x _)
           clear HF2 hpf
           go_wp2_with fail
           go_quiet (first|(go_at_call 115;refine Calls.quiet_of_same (HI2.out _)))
           go_wp2_with fail
           go_roundw
           case rel=>exact ⟨m+1,by omega,by omega,by go_num,lh (by rw [HE2.out,HT.out]),lh (HSQ.out nq)⟩
           case measure=>simp [intOf];omega
         | false =>
          have HE:=lh (HN.out hfx)
          have HFX:=lh hfx
          clear HN HY hfx
          cases hpf:pt.fit with
          | «of» xs =>
           rw [hpf] at HF2 HFX
           obtain ⟨B,fq,fl,fc,rfl,rfl,hB2,hB3,hB4⟩:=HF2.out
           have HI2:Hid (∀nq,Calls Tryz.prog 234 #[.int .u8 x,.pointer (some ⟨B,0,none⟩)] (wq.drewN nq) fun e w'=>e=.returned (.bool false)∧w'=wq.drewN nq):=lh (fun nq=>by
            rw [← show (xs.any fun y=>x==y)=false from HFX.out]
            exact isf_at (wq.drewN nq) B fl fc fq xs x hB2 (hB3.on (Aside.of (drewN_below _ _ _))) hB4)
           clear HF2 hB2 hB3 hB4 hpf
           have hta:m=a+pt.takes (ks.drop a):=by have:=HT.out;have:=HE.out;omega
           have HTA:=lh hta
           clear hta
           by_cases h3:pt.least≤m-a
           · have d3:decide ((m:Int)-(a:Int)<(pt.least:Int))=false:=by simp;omega
             go_wp2_with fail
             go_quiet (first|(go_at_call 234;refine Calls.quiet_of_same (HI2.out _)))
             go_wp2_with fail
             go_roundw
             case rel=>exact ⟨i+1,m,by omega,by omega,rfl,by go_num,lh (by
              rw [HI.out,HS.out,decide_eq_true (by have:=HTA.out;omega),Bool.true_and,List.drop_drop,← HTA.out]),lh (HSW.out nq)⟩
             case measure=>simp [intOf];omega
           · have d3:decide ((m:Int)-(a:Int)<(pt.least:Int))=true:=by simp;omega
             go_wp2_with fail
             go_quiet (first|(go_at_call 234;refine Calls.quiet_of_same (HI2.out _)))
             go_wp2
             go_ret
             refine ⟨retB ?_,HSW.out nq⟩
             rw [HI.out,HS.out,decide_eq_false (by have:=HTA.out;omega),Bool.false_and]
          | stmt =>
           rw [hpf] at HF2 HFX
           obtain ⟨rfl,rfl⟩:=HF2.out
           have HI2:Hid (∀nq,Calls Tryz.prog 190 #[.int .u8 x] (wq.drewN nq) fun e w'=>e=.returned (.bool false)∧w'=wq.drewN nq):=lh (fun nq=>by
            rw [← show isStmtK x=false from HFX.out]
            exact isStmt_at x _)
           clear HF2 hpf
           have hta:m=a+pt.takes (ks.drop a):=by have:=HT.out;have:=HE.out;omega
           have HTA:=lh hta
           clear hta
           by_cases h3:pt.least≤m-a
           · have d3:decide ((m:Int)-(a:Int)<(pt.least:Int))=false:=by simp;omega
             go_wp2_with fail
             go_quiet (first|(go_at_call 190;refine Calls.quiet_of_same (HI2.out _)))
             go_wp2_with fail
             go_roundw
             case rel=>exact ⟨i+1,m,by omega,by omega,rfl,by go_num,lh (by
              rw [HI.out,HS.out,decide_eq_true (by have:=HTA.out;omega),Bool.true_and,List.drop_drop,← HTA.out]),lh (HSW.out nq)⟩
             case measure=>simp [intOf];omega
           · have d3:decide ((m:Int)-(a:Int)<(pt.least:Int))=true:=by simp;omega
             go_wp2_with fail
             go_quiet (first|(go_at_call 190;refine Calls.quiet_of_same (HI2.out _)))
             go_wp2
             go_ret
             refine ⟨retB ?_,HSW.out nq⟩
             rw [HI.out,HS.out,decide_eq_false (by have:=HTA.out;omega),Bool.false_and]
          | expr =>
           rw [hpf] at HF2 HFX
           obtain ⟨rfl,rfl⟩:=HF2.out
           have HI2:Hid (∀nq,Calls Tryz.prog 115 #[.int .u8 x] (wq.drewN nq) fun e w'=>e=.returned (.bool false)∧w'=wq.drewN nq):=lh (fun nq=>by
            rw [← show isExprK x=false from HFX.out]
            exact isExpr_at x _)
           clear HF2 hpf
           have hta:m=a+pt.takes (ks.drop a):=by have:=HT.out;have:=HE.out;omega
           have HTA:=lh hta
           clear hta
           by_cases h3:pt.least≤m-a
           · have d3:decide ((m:Int)-(a:Int)<(pt.least:Int))=false:=by simp;omega
             go_wp2_with fail
             go_quiet (first|(go_at_call 115;refine Calls.quiet_of_same (HI2.out _)))
             go_wp2_with fail
             go_roundw
             case rel=>exact ⟨i+1,m,by omega,by omega,rfl,by go_num,lh (by
              rw [HI.out,HS.out,decide_eq_true (by have:=HTA.out;omega),Bool.true_and,List.drop_drop,← HTA.out]),lh (HSW.out nq)⟩
             case measure=>simp [intOf];omega
           · have d3:decide ((m:Int)-(a:Int)<(pt.least:Int))=true:=by simp;omega
             go_wp2_with fail
             go_quiet (first|(go_at_call 115;refine Calls.quiet_of_same (HI2.out _)))
             go_wp2
             go_ret
             refine ⟨retB ?_,HSW.out nq⟩
             rw [HI.out,HS.out,decide_eq_false (by have:=HTA.out;omega),Bool.false_and]
       · have d2:decide ((m:Int)-(a:Int)<(pt.most:Int))=false:=by simp;omega
         have HE:=lh (still_full pt ks a m (by omega))
         have hta:m=a+pt.takes (ks.drop a):=by have:=HT.out;have:=HE.out;omega
         have HTA:=lh hta
         clear hta
         by_cases h3:pt.least≤m-a
         · have d3:decide ((m:Int)-(a:Int)<(pt.least:Int))=false:=by simp;omega
           go_wp2_with fail
           go_quiet (fail)
           go_wp2_with fail
           go_roundw
           case rel=>exact ⟨i+1,m,by omega,by omega,rfl,by go_num,lh (by
            rw [HI.out,HS.out,decide_eq_true (by have:=HTA.out;omega),Bool.true_and,List.drop_drop,← HTA.out]),lh (HSW.out nq)⟩
           case measure=>simp [intOf];omega
         · have d3:decide ((m:Int)-(a:Int)<(pt.least:Int))=true:=by simp;omega
           go_wp2_with fail
           go_quiet (fail)
           go_wp2
           go_ret
           refine ⟨retB ?_,HSW.out nq⟩
           rw [HI.out,HS.out,decide_eq_false (by have:=HTA.out;omega),Bool.false_and]
     · have d1:decide ((m:Int)<(n:Int))=false:=by simp;omega
       have HE:=lh (still_end pt ks a m (by have:=hlen2.out;omega))
       have hta:m=a+pt.takes (ks.drop a):=by have:=HT.out;have:=HE.out;omega
       have HTA:=lh hta
       clear hta
       by_cases h3:pt.least≤m-a
       · have d3:decide ((m:Int)-(a:Int)<(pt.least:Int))=false:=by simp;omega
         go_wp2_with fail
         go_quiet (fail)
         go_wp2_with fail
         go_roundw
         case rel=>exact ⟨i+1,m,by omega,by omega,rfl,by go_num,lh (by
          rw [HI.out,HS.out,decide_eq_true (by have:=HTA.out;omega),Bool.true_and,List.drop_drop,← HTA.out]),lh (HSW.out nq)⟩
         case measure=>simp [intOf];omega
       · have d3:decide ((m:Int)-(a:Int)<(pt.least:Int))=true:=by simp;omega
         go_wp2_with fail
         go_quiet (fail)
         go_wp2
         go_ret
         refine ⟨retB ?_,HSW.out nq⟩
         rw [HI.out,HS.out,decide_eq_false (by have:=HTA.out;omega),Bool.false_and]
  · go_wp2
    go_ret
    refine ⟨retB ?_,HB.out⟩
    rw [HI.out,List.drop_eq_nil_of_le (by have:=hlen.out;omega),inTurn_nil,List.length_drop]
    have:=hlen2.out
    rw [Bool.eq_iff_iff]
    simp
    omega
end Tr
end Go.Proofs.YthdioipfdbbmmaaGreatDoor
