/- Contracts. -/
import Derived.Test.YthdioipfdbbmmaaGreatDoorKah
import Derived.Test.YthdioipfdbbmmaaGreatDoorKam
import Derived.Test.YthdioipfdbbmmaaGreatDoorKax
import Derived.Test.YthdioipfdbbmmaaGreatDoorKba
import Derived.Test.YthdioipfdbbmmaaGreatDoorKbe
import Derived.Test.YthdioipfdbbmmaaGreatDoorKbn
import Derived.Test.YthdioipfdbbmmaaGreatDoorKbq
import Derived.Test.YthdioipfdbbmmaaGreatDoorKbr
set_option linter.all false
set_option maxRecDepth 1000000
set_option maxHeartbeats 16000000
namespace Go.Proofs.YthdioipfdbbmmaaGreatDoor
namespace Nm
open Go.RowKit Go.Maps Tr
theorem heads_table (ns:List Nd)(i:Nat)(r:List Nat)(h:Hd)(hk:(nd ns i).kind=2):heads ns (i::r) h=(table ns i h >>= fun h=>heads ns r h):=by rw [heads,if_pos hk]
theorem heads_proc (ns:List Nd)(i:Nat)(r:List Nat)(h:Hd)(hk:¬ (nd ns i).kind=2):heads ns (i::r) h=(number ns h.pnames i 64 h.of >>= fun a=>heads ns r { h with of:=a.1,pnames:=a.2 }):=by rw [heads,if_neg hk]
theorem procs_proc (ns:List Nd)(tabs:List Tb)(i:Nat)(r:List Nat)(of:List Int)(ps:List Pr)(hk:(nd ns i).kind=3):procs ns tabs (i::r) of ps=(proc ns tabs i of >>= fun a=>procs ns tabs r a.1 (ps++[a.2])):=by rw [procs,if_pos hk]
theorem procs_table (ns:List Nd)(tabs:List Tb)(i:Nat)(r:List Nat)(of:List Int)(ps:List Pr)(hk:¬ (nd ns i).kind=3):procs ns tabs (i::r) of ps=procs ns tabs r of ps:=by rw [procs,if_neg hk]
theorem whole_eq (ns:List Nd):whole ns=(heads ns ((nd ns 0).kids.map Int.toNat) { of:=List.replicate ns.length (-1),tnames:=[],pnames:=[],tabs:=[] } >>= fun h=>procs ns h.tabs ((nd ns 0).kids.map Int.toNat) h.of [] >>= fun a=>.ok (h.tabs,a.2,a.1)):=rfl
section
variable {B:Bs}{tv pv cv:Value}{w:World}
def Wholed (B:Bs)(a:List Tb × List Pr × List Int)(e:Ending)(w':World):Prop:=e=.returned (.tuple #[])∧∃h tcv mt pvv tv pv cv,h.tabs=a.1∧h.of=a.2.2∧Rh B h a.2.1 tcv mt pvv tv pv cv (rcells B tv pv cv) w'
theorem whole_at (r:Rh B { of:=List.replicate B.ns.length (-1),tnames:=[],pnames:=[],tabs:=[] } [] [] [] [] tv pv cv (rcells B tv pv cv) w)(ok:BsOk B)(hrt:B.tm≠B.rb)(hrp:B.pm≠B.rb)(h0:0<B.nl) :
 Calls Tryz.prog 80 #[.pointer (some ⟨B.rb,0,none⟩)] w (PsB B (whole B.ns) (Wholed B)):=by
 obtain ⟨pb0,po0,hpp,hpc,hpd⟩:=ok.kid h0
 have PD:=lh hpd
 have PP:=lh hpp
 have KF:=ok.kidsFew h0
 have DR:Hid (∀j,j<(nd B.ns 0).kids.length→(((nd B.ns 0).kids.drop j).map Int.toNat)=Nm.kid B.ns 0 j::(((nd B.ns 0).kids.drop (j+1)).map Int.toNat)):=lh (fun j hj=>kids_drop hj)
 have DE:Hid ((((nd B.ns 0).kids.drop (nd B.ns 0).kids.length).map Int.toNat)=[]):=lh (by simp)
 have D0:Hid (((nd B.ns 0).kids.drop 0).map Int.toNat=(nd B.ns 0).kids.map Int.toNat):=lh (by simp)
 have PXh:=lh (whole_eq B.ns)
 have ND:Hid (Calls Tryz.prog 139 #[.pointer (some ⟨B.rb,0,none⟩),.int .i64 0] w fun x W'=>x=.returned (nodeB B 0)∧Below w.heap.size w W'):=lh (nodeB_at r.lw ok (i:=0) h0)
 have RH:=lh r
 have fl:=nd_f4
 have fl0:=nd_f0
 unfold nodeB at ND
 generalize hkg:(nd B.ns 0).kids.length=pn at *
 generalize hkv:B.kp 0=kpv at *
 generalize hkcv:B.kc 0=kcv at *
 clear r hpd hpp
 go_enter Tryz.func80,Tryz.ntmps80
 go_wp2_with fail
 (with_reducible refine ND.out.mono ?_)
 rintro e w1 ⟨rfl,hb⟩
 have R1:=lh (RH.out.on ok hb)
 clear hb ND RH
 obtain ⟨RR,hRR⟩:∃RR,heads B.ns ((nd B.ns 0).kids.map Int.toNat) { of:=List.replicate B.ns.length (-1),tnames:=[],pnames:=[],tabs:=[] }=RR:=⟨_,rfl⟩
 have HR:Hid (heads B.ns (((nd B.ns 0).kids.drop 0).map Int.toNat) { of:=List.replicate B.ns.length (-1),tnames:=[],pnames:=[],tabs:=[] }=RR):=lh (by rw [D0.out];exact hRR)
 have PX1:=PXh.out
 rw [hRR] at PX1
 have PX2:=lh PX1
 clear PX1 PXh hRR
 go_wp2_with fail
 go_loopw [12] (fun iv wr=>∃(j:Nat) (h:Hd) (tcv:List Value) (mt:List Nat) (tv cv:Value),j≤pn∧iv=.int .i64 j∧Hid (heads B.ns (((nd B.ns 0).kids.drop j).map Int.toNat) h=RR)∧Hid (h.tnames=h.tabs.map Tb.name)∧Hid (Rh B h [] tcv mt [] tv pv cv (rcells B tv pv cv) wr)) (fun iv _=>pn-(intOf iv).toNat)
 case atStart=>exact ⟨0,_,_,_,_,_,by omega,rfl,HR,lh rfl,R1⟩
 case round =>
  obtain ⟨j,h,tcv,mt,tv,cv,hj,rfl,HRi,HTN,HSi⟩:=hrel
  have q0:(0:Int)≤(j:Int):=by omega
  by_cases hjn:j<pn
  · have q1:(j:Int)<(pn:Int):=by omega
    obtain rfl:kpv=some ⟨pb0,po0,none⟩:=PP.out.resolve_left (by omega)
    obtain ⟨hq,hqc⟩:=PD.out j hjn
    have kj:=hqc wr HSi.out.lw.bn
    clear hqc
    have HRj:=lh ((congrArg (heads B.ns · h) (DR.out j hjn)).symm.trans HRi.out)
    have jw:IntKind.i64.wrap ((j:Int)+1)=((j+1:Nat):Int):=by rw [IntWalk.i64_in _ (by omega)];omega
    clear HRi
    generalize Nm.kid B.ns 0 j=qj at *
    have ND:=lh (nodeB_at HSi.out.lw ok hq)
    unfold nodeB at ND
    by_cases hk2:(nd B.ns qj).kind=2
    · have HK:Hid ((table B.ns qj h >>= fun h=>heads B.ns (((nd B.ns 0).kids.drop (j+1)).map Int.toNat) h)=RR):=lh ((heads_table _ _ _ _ hk2).symm.trans HRj.out)
      have hkb:((nd B.ns qj).kind==(2:Int))=true:=by simp [hk2]
      clear hk2
      go_wp2_with fail
      (with_reducible refine ND.out.mono ?_)
      rintro e w4 ⟨rfl,hb⟩
      have R4:=lh (HSi.out.on ok hb)
      have TB:=lh (table_at R4.out ok hrt (by rw [HTN.out];simp) hq)
      clear hb ND
      cases hx:table B.ns qj h with
      | error x =>
       go_wp2_with fail
       (with_reducible refine (getb_no TB.out hx).mono ?_)
       rintro e w9 ⟨rfl,hB⟩
       simp only [wrongB]
       go_wp2
       exact ⟨rfl,psb_no (PX2.out.trans (bind_err (HK.out.symm.trans (bind_err hx)))) hB⟩
      | ok a =>
       go_wp2_with fail
       (with_reducible refine (getb_ok TB.out hx).mono ?_)
       rintro e w5 ⟨rfl,tcv2,mt2,tv2,cv2,hR5⟩
       have R5:=lh hR5
       have HN:=lh ((bind_val hx).symm.trans HK.out)
       have HT2:=lh (table_names hx HTN.out)
       clear hR5 hx TB HK R4 HSi
       go_wp2
       go_roundw
       case rel=>exact ⟨j+1,a,_,_,_,_,by omega,rfl,HN,HT2,R5⟩
       case measure=>simp [intOf];omega
    · have HK:Hid ((number B.ns h.pnames qj 64 h.of >>= fun a=>heads B.ns (((nd B.ns 0).kids.drop (j+1)).map Int.toNat) { h with of:=a.1,pnames:=a.2 })=RR):=lh ((heads_proc _ _ _ _ hk2).symm.trans HRj.out)
      have hkb:((nd B.ns qj).kind==(2:Int))=false:=by simp [hk2]
      clear hk2
      go_wp2_with fail
      (with_reducible refine ND.out.mono ?_)
      rintro e w4 ⟨rfl,hb⟩
      have R4:=lh (HSi.out.on ok hb)
      have c5:=R4.out.lw.cell 5 _ (show (rcells B tv pv cv)[5]?=some (.map (some B.pm)) from rfl)
      have NU:Hid (Calls Tryz.prog 141 #[.pointer (some ⟨B.rb,0,none⟩),.map (some B.pm),.int .i64 (qj:Nat),.int .i64 64] w4 (PsB B (number B.ns h.pnames qj 64 h.of) (Numb B B.pm qj h.pnames w4))):=lh (number_at (most:=64) R4.out.lw ok R4.out.pmap ok.opm hrp R4.out.pap (by have:=R4.out.p64;omega) (by omega) hq)
      clear hb ND
      cases hx:number B.ns h.pnames qj 64 h.of with
      | error x =>
       go_wp2_with fail
       (with_reducible refine (getb_no NU.out hx).mono ?_)
       rintro e w9 ⟨rfl,hB⟩
       simp only [wrongB]
       go_wp2
       exact ⟨rfl,psb_no (PX2.out.trans (bind_err (HK.out.symm.trans (bind_err hx)))) hB⟩
      | ok a =>
       go_wp2_with fail
       (with_reducible refine (getb_ok NU.out hx).mono ?_)
       intro e w5 hn
       have he:e=.returned (.tuple #[]):=hn.1
       have R5:=lh (R4.out.numP ok hrp hq hn hx)
       have HN:=lh ((bind_val hx).symm.trans HK.out)
       subst he
       clear hn hx NU HK R4 HSi c5
       go_wp2
       go_roundw
       case rel=>exact ⟨j+1,_,_,_,_,_,by omega,rfl,HN,HTN,R5⟩
       case measure=>simp [intOf];omega
  · obtain rfl:j=pn:=by omega
    have q1:¬ (j:Int)<(j:Int):=by omega
    have HV:Hid (RR=.ok h):=lh (by
     have:=HRi.out
     rw [DE.out] at this
     exact this.symm)
    obtain ⟨RQ,hRQ⟩:∃RQ,procs B.ns h.tabs ((nd B.ns 0).kids.map Int.toNat) h.of []=RQ:=⟨_,rfl⟩
    have HQ:Hid (procs B.ns h.tabs (((nd B.ns 0).kids.drop 0).map Int.toNat) h.of []=RQ):=lh (by rw [D0.out];exact hRQ)
    have PX3:Hid (whole B.ns=(RQ >>= fun a=>.ok (h.tabs,a.2,a.1))):=lh (by rw [← hRQ];exact PX2.out.trans (bind_val HV.out))
    clear HRi hRQ HV HR PX2 q0 q1 R1
    obtain ⟨wo,rfl⟩:∃wo:World,wo=wr:=⟨_,rfl⟩
    have z1:¬ (j:Int)<(j:Int):=by omega
    go_wp2_with fail
    clear z1
    go_loopw [34] (fun iv wr=>∃(k:Nat) (of:List Int) (prs:List Pr) (pvv:List Value) (pv:Value),k≤j∧iv=.int .i64 k∧prs.length≤k∧Hid (procs B.ns h.tabs (((nd B.ns 0).kids.drop k).map Int.toNat) of prs=RQ)∧Hid (Rh B { h with of:=of } prs tcv mt pvv tv pv cv (rcells B tv pv cv) wr)) (fun iv _=>j-(intOf iv).toNat)
    case atStart=>exact ⟨0,h.of,[],[],_,by omega,rfl,by simp,HQ,HSi⟩
    case round =>
     obtain ⟨k,of,prs,pvv,pv2,hk,rfl,hpl,HRi,HSk⟩:=hrel
     have q0:(0:Int)≤(k:Int):=by omega
     by_cases hkn:k<j
     · have q1:(k:Int)<(j:Int):=by omega
       obtain rfl:kpv=some ⟨pb0,po0,none⟩:=PP.out.resolve_left (by omega)
       obtain ⟨hq,hqc⟩:=PD.out k hkn
       have kj:=hqc wr HSk.out.lw.bn
       clear hqc
       have HRj:=lh ((congrArg (procs B.ns h.tabs · of prs) (DR.out k hkn)).symm.trans HRi.out)
       have jw:IntKind.i64.wrap ((k:Int)+1)=((k+1:Nat):Int):=by rw [IntWalk.i64_in _ (by omega)];omega
       clear HRi
       generalize Nm.kid B.ns 0 k=qj at *
       have ND:=lh (nodeB_at HSk.out.lw ok hq)
       unfold nodeB at ND
       by_cases hk3:(nd B.ns qj).kind=3
       · have HK:Hid ((proc B.ns h.tabs qj of >>= fun a=>procs B.ns h.tabs (((nd B.ns 0).kids.drop (k+1)).map Int.toNat) a.1 (prs++[a.2]))=RQ):=lh ((procs_proc _ _ _ _ _ _ hk3).symm.trans HRj.out)
         have hkb:((nd B.ns qj).kind==(3:Int))=true:=by simp [hk3]
         have HK3:=lh hk3
         clear hk3
         go_wp2_with fail
         (with_reducible refine ND.out.mono ?_)
         rintro e w4 ⟨rfl,hb⟩
         have R4:=lh (HSk.out.on ok hb)
         have TB:=lh (proc_at R4.out ok HTN.out hq HK3.out (by omega))
         clear hb ND
         cases hx:proc B.ns h.tabs qj of with
         | error x =>
          go_wp2_with fail
          (with_reducible refine (getb_no TB.out hx).mono ?_)
          rintro e w9 ⟨rfl,hB⟩
          simp only [wrongB]
          go_wp2
          exact ⟨rfl,psb_no (PX3.out.trans (bind_err (HK.out.symm.trans (bind_err hx)))) hB⟩
         | ok a =>
          go_wp2_with fail
          (with_reducible refine (getb_ok TB.out hx).mono ?_)
          rintro e w5 ⟨rfl,pvv2,pv3,hR5⟩
          have R5:=lh hR5
          have HN:=lh ((bind_val hx).symm.trans HK.out)
          clear hR5 hx TB HK R4 HSk
          go_wp2
          go_roundw
          case rel=>exact ⟨k+1,a.1,prs++[a.2],_,_,by omega,rfl,by simp;omega,HN,R5⟩
          case measure=>simp [intOf];omega
       · have HK:Hid (procs B.ns h.tabs (((nd B.ns 0).kids.drop (k+1)).map Int.toNat) of prs=RQ):=lh ((procs_table _ _ _ _ _ _ hk3).symm.trans HRj.out)
         have hkb:((nd B.ns qj).kind==(3:Int))=false:=by simp [hk3]
         clear hk3
         go_wp2_with fail
         (with_reducible refine ND.out.mono ?_)
         rintro e w4 ⟨rfl,hb⟩
         have R4:=lh (HSk.out.on ok hb)
         clear hb ND HSk
         go_wp2
         go_roundw
         case rel=>exact ⟨k+1,of,prs,_,_,by omega,rfl,by omega,HK,R4⟩
         case measure=>simp [intOf];omega
     · obtain rfl:k=j:=by omega
       have q1:¬ (k:Int)<(k:Int):=by omega
       have HF:Hid (PsB B (whole B.ns) (Wholed B) (.returned (.tuple #[])) wr):=lh (by
        have:=HRi.out
        rw [DE.out] at this
        exact psb_ok (PX3.out.trans (bind_val this.symm)) ⟨rfl,{ h with of:=of },_,_,_,_,_,_,rfl,rfl,HSk.out⟩)
       clear HRi HSk HSi
       go_wp2
       simp [bodyPost,results,Tryz.results80,go_sem]
       exact HF.out
end
end Nm
namespace Nm
open Go.RowKit Go.Maps Tr
abbrev NilP:Value:=.agg #[.slice none 0 0,.slice none 0 0,.slice none 0 0,.slice none 0 0]
abbrev W4 (w:World)(sp:Option Addr)(sl sc:Nat)(p:Option Addr)(len c:Nat):World:=(((w.alloc (.cells #[.slice sp sl sc] 22)).alloc (.cells #[.slice p len c] 39)).alloc (.cells #[.slice none 0 0,.slice none 0 0,.slice none 0 0,.slice none 0 0] 65)).alloc (.cells #[.nilIface] 25)
structure W4Ok (w w4:World)(sp:Option Addr)(sl sc:Nat)(p:Option Addr)(len c:Nat):Prop where
 below:Below w.heap.size w w4
 size:w4.heap.size=w.heap.size+1+1+1+1
 src:Boxed w4 w.heap.size 22 (.slice sp sl sc)
 tree:Boxed w4 (w.heap.size+1) 39 (.slice p len c)
 prg:PBk w4 (w.heap.size+1+1) (.slice none 0 0) (.slice none 0 0) (.slice none 0 0) (.slice none 0 0)
 err:Boxed w4 (w.heap.size+1+1+1) 25 .nilIface
theorem w4_ok (w:World)(sp:Option Addr)(sl sc:Nat)(p:Option Addr)(len c:Nat):W4Ok w (W4 w sp sl sc p len c) sp sl sc p len c:=by
 have s1:=size_al w (.cells #[.slice sp sl sc] 22)
 obtain ⟨wa,ha⟩:∃wa,w.alloc (.cells #[.slice sp sl sc] 22)=wa:=⟨_,rfl⟩
 have h1:wa.heap[w.heap.size]?=some (.cells #[.slice sp sl sc] 22 (0,0)):=by rw [← ha];exact heap_al _ _ _ rfl
 have b1:Below w.heap.size w wa:=by rw [← ha];exact (Below.refl _ _).alloc (Nat.le_refl _) _
 rw [ha] at s1
 have s2:=size_al wa (.cells #[.slice p len c] 39)
 obtain ⟨wb,hb⟩:∃wb,wa.alloc (.cells #[.slice p len c] 39)=wb:=⟨_,rfl⟩
 have h2:wb.heap[w.heap.size+1]?=some (.cells #[.slice p len c] 39 (0,0)):=by rw [← hb];exact heap_al _ _ _ s1.symm
 have b2:Below wa.heap.size wa wb:=by rw [← hb];exact (Below.refl _ _).alloc (Nat.le_refl _) _
 rw [hb] at s2
 have s3:=size_al wb (.cells #[.slice none 0 0,.slice none 0 0,.slice none 0 0,.slice none 0 0] 65)
 obtain ⟨wc,hc⟩:∃wc,wb.alloc (.cells #[.slice none 0 0,.slice none 0 0,.slice none 0 0,.slice none 0 0] 65)=wc:=⟨_,rfl⟩
 have h3:wc.heap[w.heap.size+1+1]?=some (.cells #[.slice none 0 0,.slice none 0 0,.slice none 0 0,.slice none 0 0] 65 (0,0)):=by rw [← hc];exact heap_al _ _ _ (by omega)
 have b3:Below wb.heap.size wb wc:=by rw [← hc];exact (Below.refl _ _).alloc (Nat.le_refl _) _
 rw [hc] at s3
 have s4:=size_al wc (.cells #[.nilIface] 25)
 obtain ⟨wd,hd⟩:∃wd,wc.alloc (.cells #[.nilIface] 25)=wd:=⟨_,rfl⟩
 have h4:wd.heap[w.heap.size+1+1+1]?=some (.cells #[.nilIface] 25 (0,0)):=by rw [← hd];exact heap_al _ _ _ (by omega)
 have b4:Below wc.heap.size wc wd:=by rw [← hd];exact (Below.refl _ _).alloc (Nat.le_refl _) _
 rw [hd] at s4
 have e:W4 w sp sl sc p len c=wd:=by unfold W4;rw [ha,hb,hc,hd]
 rw [e]
 refine ⟨((b1.trans (b2.mono (by omega))).trans (b3.mono (by omega))).trans (b4.mono (by omega)),by omega,?_,?_,?_,h4⟩
 · exact (b4.block _ (by omega)).trans ((b3.block _ (by omega)).trans ((b2.block _ (by omega)).trans h1))
 · exact (b4.block _ (by omega)).trans ((b3.block _ (by omega)).trans h2)
 · exact (b4.block _ (by omega)).trans h3
theorem W4Ok.on {w w4 w':World}{sp:Option Addr}{sl sc:Nat}{p:Option Addr}{len c:Nat}(h:W4Ok w w4 sp sl sc p len c)(hb:Below w4.heap.size w4 w'):Below w.heap.size w w'∧w.heap.size+1+1+1+1≤w'.heap.size∧Boxed w' w.heap.size 22 (.slice sp sl sc)∧Boxed w' (w.heap.size+1) 39 (.slice p len c)∧PBk w' (w.heap.size+1+1) (.slice none 0 0) (.slice none 0 0) (.slice none 0 0) (.slice none 0 0)∧Boxed w' (w.heap.size+1+1+1) 25 .nilIface:=by
 have hs:=h.size
 exact ⟨h.below.trans (hb.mono (by omega)),by have:=hb.size;omega,(hb.block _ (by omega)).trans h.src,(hb.block _ (by omega)).trans h.tree,h.prg.on (hb.block _ (by omega)),(hb.block _ (by omega)).trans h.err⟩
theorem put_ends {B:Nat}{w W:World}{pb eb:Nat}{u0 u1 u2 u3 ue:Value}(hb:Below B w W)(hp:PBk W pb u0 u1 u2 u3)(he:Boxed W eb 25 ue)(hB:B≤pb)(hlt:pb<eb)(v0 v1 v2 v3 ve:Value):Below B w ((set4 W pb v0 v1 v2 v3).setCell ⟨eb,0,none⟩ ve)∧PBk ((set4 W pb v0 v1 v2 v3).setCell ⟨eb,0,none⟩ ve) pb v0 v1 v2 v3∧Boxed ((set4 W pb v0 v1 v2 v3).setCell ⟨eb,0,none⟩ ve) eb 25 ve:=by
 refine ⟨(set4_below hb _ _ _ _ hB).setCell (p:=⟨eb,0,none⟩) (by simp only;omega) _,(hp.set v0 v1 v2 v3).on (Below.heap_setCell _ _ _ _ (by simp only;omega)),(show Boxed (set4 W pb v0 v1 v2 v3) eb 25 ue from (set4_far W pb v0 v1 v2 v3 (k:=eb) (by omega)).trans he).set ve⟩
theorem begun (w6:World)(cs:Array Value):Below w6.heap.size w6 (((w6.alloc (.map #[] 0)).alloc (.map #[] 0)).alloc (.cells cs 137))∧numM (((w6.alloc (.map #[] 0)).alloc (.map #[] 0)).alloc (.cells cs 137)) w6.heap.size []∧numM (((w6.alloc (.map #[] 0)).alloc (.map #[] 0)).alloc (.cells cs 137)) (w6.heap.size+1) []∧(((w6.alloc (.map #[] 0)).alloc (.map #[] 0)).alloc (.cells cs 137)).heap[w6.heap.size+1+1]?=some (.cells cs 137 (0,0)):=by
 have s1:=size_al w6 (.map #[] 0)
 have m1:numM (w6.alloc (.map #[] 0)) w6.heap.size []:=World.ownsMap_made _ _ _ _
 have b1:Below w6.heap.size w6 (w6.alloc (.map #[] 0)):=(Below.refl _ _).alloc (Nat.le_refl _) _
 obtain ⟨wa,ha⟩:∃wa,w6.alloc (.map #[] 0)=wa:=⟨_,rfl⟩
 rw [ha] at s1 m1 b1
 rw [ha]
 have s2:=size_al wa (.map #[] 0)
 have m2:numM (wa.alloc (.map #[] 0)) wa.heap.size []:=World.ownsMap_made _ _ _ _
 have b2:Below wa.heap.size wa (wa.alloc (.map #[] 0)):=(Below.refl _ _).alloc (Nat.le_refl _) _
 obtain ⟨wb,hb⟩:∃wb,wa.alloc (.map #[] 0)=wb:=⟨_,rfl⟩
 rw [hb] at s2 m2 b2
 rw [hb]
 have b3:Below wb.heap.size wb (wb.alloc (.cells cs 137)):=(Below.refl _ _).alloc (Nat.le_refl _) _
 rw [s1] at m2
 exact ⟨(b1.trans (b2.mono (by omega))).trans (b3.mono (by omega)),map_block m1 ((b3.block _ (by omega)).trans (b2.block _ (by omega))),map_block m2 (b3.block _ (by omega)),heap_al _ _ _ (by omega)⟩
theorem cut_on {B:Bs}{w6 w8:World}{nb nc ob len:Nat}{ns:List Nd}{rb tm pm:Nat}(hB:BsFor B w6 nb nc ob len ns rb tm pm)(hob:ob<w6.heap.size)(hb:Below B.Wn.heap.size B.Wn w8){D:Nat}{w:World}(h:Below D w w6)(hD:D≤ob)(hw:w.heap.size≤ob):Below D w w8∧ob≤w8.heap.size∧∀k,k<ob→w8.heap[k]?=w6.heap[k]?:=by
 have e1:=hB.wn
 have hc:=cut_size (Nat.le_of_lt hob)
 have hsz:ob≤w8.heap.size:=by have:=hb.size;rw [e1,hc] at this;exact this
 have hk:∀k,k<ob→w8.heap[k]?=w6.heap[k]?:=fun k hk=>(hb.block k (by rw [e1,hc];exact hk)).trans (by rw [e1];exact cut_get (Nat.le_of_lt hob) hk)
 have a:=hb.os
 have b:=hb.tape
 have c:=hb.output
 rw [e1] at a b c
 exact ⟨⟨a.trans h.os,b.trans h.tape,c.trans h.output,by omega,fun k hk2=>(hk k (by omega)).trans (h.block k hk2)⟩,hsz,hk⟩
def ResolvePost (ns:List Nd)(sl:Nat)(w:World)(e:Ending)(w':World):Prop:=Below w.heap.size w w'∧match whole ns with
 | .error x=>∃C l cc,e=.returned (.tuple #[NilP,.iface 109 (.pointer (some ⟨C,0,none⟩))])∧ErrAt w' C (min (max (nd ns x.1).at' 0) (sl:Int)) l cc x.2
 | .ok a=>∃base nb nc ob tv pv tcv pvv,w.heap.size≤base∧w.heap.size≤nb∧w.heap.size≤ob∧e=.returned (.tuple #[.agg #[.slice (some ⟨nb,0,none⟩) ns.length nc,tv,pv,.slice (some ⟨ob,0,none⟩) ns.length ns.length],.nilIface])∧PgW w' base nb nc ob tv pv ns a tcv pvv
theorem resolve_run (w:World)(sp:Option Addr)(sl sc:Nat)(xs:List Int)(p:Option Addr)(len c:Nat)(ns:List Nd)(hsrc:Src w sp sl sc xs)(hsl:sl≤65536)(h:TV w p len c ns)(hS:SmallT ns)(hr:rightP ns=true) :
 Calls Tryz.prog 37 #[.slice sp sl sc,.agg #[.slice p len c]] w (ResolvePost ns sl w):=by
 have hmf:∀(fn:Fn) (first cap:Array Value) (w:World),(Instr.makeFunc fn first cap).run Tryz.prog w=.ok (.func fn first cap) w:=fun _ _ _ _=>rfl
 have hmm:=@run_makeMap Tryz.prog
 have hnl:ns.length=len:=h.len_eq
 have hk:∀i,(nd ns i).kids.length≤70000∧(nd ns i).text.size≤70000:=fun i=>by
  unfold nd
  by_cases hi:i<ns.length
  · exact hS.each _ (by simp [List.getD,hi])
  · simp [List.getD,hi]
    exact ⟨by show (default:Nd).kids.length≤_;decide,by show (default:Nd).text.size≤_;decide⟩
 obtain ⟨S,rt⟩:=rt_of hr (fun x hx=>by have:=(hS.each x hx).1;omega)
 have h0:0<len:=by have:=rt.pos;omega
 have hfew:len≤70000:=by have:=hS.len;omega
 have W:=w4_ok w sp sl sc p len c
 have RT:Hid (Calls Tryz.prog 29 #[.agg #[.slice p len c]] (W4 w sp sl sc p len c) fun e w'=>e=.returned (.bool true)∧Below (W4 w sp sl sc p len c).heap.size (W4 w sp sl sc p len c) w'):=lh (by
  have:=right_at _ _ _ _ _ (h.on W.below) hS
  rw [hr] at this
  exact this)
 have HW:=lh W
 have HT:=lh h
 have HS:=lh hsrc
 have HK:=lh hk
 have RTS:=lh rt
 clear h W hsrc hk rt hS hr
 go_enter_defers Tryz.func37,Tryz.ntmps37
 go_wp2_with fail
 (with_reducible refine RT.out.mono ?_)
 rintro e w5 ⟨rfl,hb⟩
 obtain ⟨hb5,hs5,q1,q2,q3,q4⟩:=HW.out.on hb
 have d1:=q2.cell
 have HB:=lh hb5
 have Q1:=lh q1
 have Q3:=lh q3
 have Q4:=lh q4
 have UN:=lh (unresolved_at w5 len c p ns (HT.out.on hb5) h0 hfew (fun i=>(HK.out i).2) (fun i=>(HK.out i).1))
 clear q1 q2 q3 q4 hb hb5 HT RT HW
 go_wp2_with fail
 (with_reducible refine UN.out.mono ?_)
 rintro e w6 ⟨nb,nc,ob,rfl,hU⟩
 have hob:ob<w6.heap.size:=(Array.getElem?_eq_some_iff.1 hU.of).1
 have hnw:=hU.nbw
 have hno:=hU.nbo
 obtain ⟨B,hB⟩:=bs_of hU RTS.out hnl hfew (fun i=>(HK.out i).2) (rb:=w6.heap.size+1+1) (tm:=w6.heap.size) (pm:=w6.heap.size+1) (by omega) (by omega) (by omega) (by omega)
 obtain ⟨g1,g2,g3,g4⟩:=begun w6 #[.slice (some ⟨nb,0,none⟩) len nc,.slice none 0 0,.slice none 0 0,.slice (some ⟨ob,0,none⟩) len len,.map (some w6.heap.size),.map (some (w6.heap.size+1)),.slice none 0 0]
 have RHB:=rh_begin hB hU hnl g1 g2 g3 g4
 have WA:=whole_at RHB hB.ok (by rw [hB.tm,hB.rb];omega) (by rw [hB.pm,hB.rb];omega) (by rw [hB.nl];omega)
 rw [hB.rb,hB.ns] at WA
 have WAH:=lh WA
 have HU:=lh hU
 have HBB:=lh hB
 have HB6:=lh (HB.out.trans (hU.below.mono (by omega)))
 have S6:=lh (HS.out.below HB6.out)
 have Q16:=lh (show Boxed w6 w.heap.size 22 (.slice sp sl sc) from (hU.below.block _ (by omega)).trans Q1.out)
 have Q36:=lh (Q3.out.on (hU.below.block _ (by omega)))
 have Q46:=lh (show Boxed w6 (w.heap.size+1+1+1) 25 .nilIface from (hU.below.block _ (by omega)).trans Q4.out)
 clear hU hB g1 g2 g3 g4 RHB WA UN
 go_wp2_with fail
 (with_reducible refine WAH.out.mono ?_)
 rintro e w8 hP
 cases hx:whole ns with
 | error x =>
  rw [hx] at hP
  obtain ⟨rfl,hb8⟩:=hP
  have hcode:=whole_code ns x hx
  obtain ⟨c1,c2,c3⟩:=cut_on HBB.out hob hb8 HB6.out (by omega) (by omega)
  have k1:Boxed w8 w.heap.size 22 (.slice sp sl sc):=(c3 _ (by omega)).trans Q16.out
  have k3:=Q36.out.on (c3 _ (by omega))
  have k4:Boxed w8 (w.heap.size+1+1+1) 25 .nilIface:=(c3 _ (by omega)).trans Q46.out
  have hkn:min (max (nd ns x.1).at' 0) (sl:Int)=((min (max (nd ns x.1).at' 0) (sl:Int)).toNat:Int):=by omega
  have RW:=lh (recN_wrong w.heap.size w.heap.size (w.heap.size+1+1) (w.heap.size+1+1+1) sp sl sc _ xs (nd ns x.1).at' x.2 _ _ _ _ _ w8 k1.cell (HS.out.below c1) hsl hkn hcode k3 k4 (by omega) (by omega) (by omega))
  have HX:=lh hx
  have C1:=lh c1
  have HKN:=lh hkn
  have hwr:wrongB B x=.panicked [{ v:=.iface 132 (.agg #[.int .i64 (nd ns x.1).at',.int .i64 x.2]),recovered:=false }]:=by unfold wrongB;rw [HBB.out.ns]
  rw [hwr]
  clear hb8 c1 c2 c3 k1 k3 k4 hx hcode hkn hwr
  go_wp2_with fail
  refine leaves_cons (f := 78) (args:=#[.pointer (some ⟨w.heap.size,0,none⟩),.pointer (some ⟨w.heap.size+1+1,0,none⟩),.pointer (some ⟨w.heap.size+1+1+1,0,none⟩)]) (by simp) (by simp [go_sem]) ?_
  refine RW.out.mono ?_
  rintro e u' w9 ⟨rfl,rfl,C,l,cc,r2,r3,hEA,hb9⟩
  have e0:=r2.c0
  have e1:=r2.c1
  have e2:=r2.c2
  have e3:=r2.c3
  have e4:=r3.cell
  have hfin:Hid (ResolvePost ns sl w (.returned (.tuple #[NilP,.iface 109 (.pointer (some ⟨C,0,none⟩))])) w9):=lh (by
   refine ⟨C1.out.trans hb9,?_⟩
   rw [HX.out]
   refine ⟨C,l,cc,rfl,?_⟩
   rw [HKN.out]
   exact hEA)
  clear r2 r3 hEA hb9
  simp [Leaves,settle,results,Tryz.results37,go_sem,e0,e1,e2,e3,e4]
  exact hfin.out
 | ok a =>
  rw [hx] at hP
  obtain ⟨rfl,hd,tcv,mt,pvv,tv,pv,cv,ht,ho,rh⟩:=hP
  obtain ⟨tp,tc,rfl⟩:=own_slice rh.trow
  obtain ⟨pp,pc,rfl⟩:=own_slice rh.prow
  have hb8:=rh.lw.bn
  obtain ⟨c1,c2,c3⟩:=cut_on HBB.out hob hb8 HB6.out (by omega) (by omega)
  have k3:=Q36.out.on (c3 _ (by omega))
  have k4:Boxed w8 (w.heap.size+1+1+1) 25 .nilIface:=(c3 _ (by omega)).trans Q46.out
  have hr:=rh.lw.blk
  unfold rcells at hr
  rw [HBB.out.rb,HBB.out.nb,HBB.out.nl,HBB.out.nc,HBB.out.ob,HBB.out.oc,HBB.out.tm,HBB.out.pm] at hr
  have r0:w8.cell? ⟨w6.heap.size+1+1,0,none⟩=some (.slice (some ⟨nb,0,none⟩) len nc):=by rw [cell_of_row _ _ _ _ _ _ hr];rfl
  have r1:w8.cell? ⟨w6.heap.size+1+1,1,none⟩=some (.slice tp hd.tabs.length tc):=by rw [cell_of_row _ _ _ _ _ _ hr];rfl
  have r2:w8.cell? ⟨w6.heap.size+1+1,2,none⟩=some (.slice pp a.2.1.length pc):=by rw [cell_of_row _ _ _ _ _ _ hr];rfl
  have r3:w8.cell? ⟨w6.heap.size+1+1,3,none⟩=some (.slice (some ⟨ob,0,none⟩) len len):=by rw [cell_of_row _ _ _ _ _ _ hr];rfl
  obtain ⟨hfb,hp9,he9⟩:=put_ends c1 k3 k4 (by omega) (by omega) (.slice (some ⟨nb,0,none⟩) len nc) (.slice tp hd.tabs.length tc) (.slice pp a.2.1.length pc) (.slice (some ⟨ob,0,none⟩) len len) .nilIface
  have PG:=pg_of HBB.out HU.out hnl rh (pb:=w.heap.size+1+1) (eb:=w.heap.size+1+1+1) (by omega) (by omega) Q36.out Q46.out (W':=(set4 w8 (w.heap.size+1+1) (.slice (some ⟨nb,0,none⟩) len nc) (.slice tp hd.tabs.length tc) (.slice pp a.2.1.length pc) (.slice (some ⟨ob,0,none⟩) len len)).setCell ⟨w.heap.size+1+1+1,0,none⟩ .nilIface) (by simp [World.setCell]) (fun k h1 h2=>by rw [Below.heap_setCell _ _ _ _ h2];exact set4_far _ _ _ _ _ _ h1)
  have d0:=k3.c0
  have d1:=k3.c1
  have d2:=k3.c2
  have d3:=k3.c3
  have z0:=k3.fz 0
  have z1:=k3.fz 1
  have z2:=k3.fz 2
  have z3:=k3.fz 3
  have d4:=k4.cell
  have z4:=k4.frozen
  have HFB:=lh hfb
  have HP9:=lh hp9
  have HE9:=lh he9
  have HPG:=lh PG
  have HX:=lh hx
  have HHT:=lh ht
  have HHO:=lh ho
  have RI:=recN_idle ⟨w.heap.size,0,none⟩ ⟨w.heap.size+1+1,0,none⟩ ⟨w.heap.size+1+1+1,0,none⟩ ((set4 w8 (w.heap.size+1+1) (.slice (some ⟨nb,0,none⟩) len nc) (.slice tp hd.tabs.length tc) (.slice pp a.2.1.length pc) (.slice (some ⟨ob,0,none⟩) len len)).setCell ⟨w.heap.size+1+1+1,0,none⟩ .nilIface)
  have RIH:=lh RI
  clear hb8 c1 c2 c3 k3 k4 hr hfb hp9 he9 PG hx ht ho rh RI
  go_wp2_with fail
  refine leaves_cons (f := 78) (args:=#[.pointer (some ⟨w.heap.size,0,none⟩),.pointer (some ⟨w.heap.size+1+1,0,none⟩),.pointer (some ⟨w.heap.size+1+1+1,0,none⟩)]) (by simp) (by simp [go_sem]) ?_
  refine RIH.out.mono ?_
  rintro e u' w'' ⟨rfl,rfl,rfl⟩
  have e0:=HP9.out.c0
  have e1:=HP9.out.c1
  have e2:=HP9.out.c2
  have e3:=HP9.out.c3
  have e4:=HE9.out.cell
  have hfin:Hid (ResolvePost ns sl w (.returned (.tuple #[.agg #[.slice (some ⟨nb,0,none⟩) len nc,.slice tp hd.tabs.length tc,.slice pp a.2.1.length pc,.slice (some ⟨ob,0,none⟩) len len],.nilIface])) ((set4 w8 (w.heap.size+1+1) (.slice (some ⟨nb,0,none⟩) len nc) (.slice tp hd.tabs.length tc) (.slice pp a.2.1.length pc) (.slice (some ⟨ob,0,none⟩) len len)).setCell ⟨w.heap.size+1+1+1,0,none⟩ .nilIface)):=lh (by
   refine ⟨HFB.out,?_⟩
   rw [HX.out]
   refine ⟨ob+1,nb,nc,ob,.slice tp hd.tabs.length tc,.slice pp a.2.1.length pc,tcv,pvv,by omega,by omega,by omega,by rw [hnl],?_⟩
   have:=HPG.out
   rw [HHT.out,HHO.out] at this
   rw [HHT.out]
   exact this)
  obtain ⟨w9,hw9⟩:∃w9,(set4 w8 (w.heap.size+1+1) (.slice (some ⟨nb,0,none⟩) len nc) (.slice tp hd.tabs.length tc) (.slice pp a.2.1.length pc) (.slice (some ⟨ob,0,none⟩) len len)).setCell ⟨w.heap.size+1+1+1,0,none⟩ .nilIface=w9:=⟨_,rfl⟩
  rw [hw9] at e0 e1 e2 e3 e4 hfin
  rw [hw9]
  clear RIH HP9 HE9 HFB HPG hw9
  simp [Leaves,settle,results,Tryz.results37,go_sem,e0,e1,e2,e3,e4]
  exact hfin.out
end Nm
namespace Nm
open Go.RowKit Go.Maps Tr Par
theorem small_of {ns:List Nd}(h:smallB ns=true):SmallT ns:=by
 unfold smallB at h
 simp only [Bool.and_eq_true,decide_eq_true_eq,List.all_eq_true] at h
 exact ⟨h.1,fun nd hm=>h.2 nd hm⟩
theorem chkE_of {l:List Int}{c:Int}(h:chkE l c=true):∃ns i,parseS l=.ok ns∧rightP ns=true∧SmallT ns∧whole ns=.error (i,c):=by
 unfold chkE at h
 cases hp:parseS l with
 | error e=>rw [hp] at h;cases h
 | ok ns =>
  rw [hp] at h
  simp only [Bool.and_eq_true] at h
  obtain ⟨h1,h2,h3⟩:=h
  cases hw:whole ns with
  | ok a=>rw [hw] at h3;cases h3
  | error x =>
   rw [hw] at h3
   have h3:x.2=c:=by simpa using h3
   exact ⟨ns,x.1,rfl,h1,small_of h2,by rw [hw,← h3]⟩
theorem code7_at (w:World)(hg:ET w)(s:ByteArray)(hs:s.size≤1000)(c:Int)(h:chkE (bytesI s) c=true) :
 Calls Tryz.prog 77 #[.string s] w fun e w'=>e=.returned (.int .i64 c)∧Below w.heap.size w w':=by
 obtain ⟨ns,i,hp,hr,hS,hw⟩:=chkE_of h
 have hcv:∀(W:World) (s:ByteArray),(convert 9 22 (.string s)).run Tryz.prog W=.ok (.slice (some ⟨W.heap.size,0,none⟩) s.size (grownCap W s.size 0 5)) (Lib.bytesWorld W 5 s):=fun W s=>Lib.run_convert_string_bytes W 9 22 5 s Tryz.underlying9 Tryz.underlying22 Tryz.underlying5
 have PA:=parse_at (Lib.bytesWorld w 5 s) (some ⟨w.heap.size,0,none⟩) s.size (grownCap w s.size 0 5) (bytesI s) (bw_src w s) (by omega)
 have PAH:=lh PA
 have HG:=lh hg
 have HP:=lh hp
 have HR:=lh hr
 have HS:=lh hS
 have HW:=lh hw
 clear hg hp hr hS hw PA h
 go_enter Tryz.func77,Tryz.ntmps77
 go_wp2_with fail
 (with_reducible refine PAH.out.mono ?_)
 rintro e w4 ⟨hb4,hm⟩
 rw [HP.out] at hm
 obtain ⟨p,len,cap,rfl,hT⟩:=hm
 have hbw:=bw_below w s
 have hb:Below w.heap.size w w4:=hbw.trans (hb4.mono hbw.size)
 have HB:=lh hb
 have HT:=lh hT
 clear hb hT hb4 PAH hbw
 obtain ⟨wa,hwa⟩:∃wa,w4.alloc (.cells #[.slice p len cap] 39)=wa:=⟨_,rfl⟩
 have hba:Below w4.heap.size w4 wa:=by rw [← hwa];exact one_below w4 _
 have hsa:wa.heap.size=w4.heap.size+1:=by rw [← hwa];simp
 have hca:wa.cell? ⟨w4.heap.size,0,none⟩=some (.slice p len cap):=by rw [← hwa];simp
 have hcb:(Lib.bytesWorld wa 5 s).cell? ⟨w4.heap.size,0,none⟩=some (.slice p len cap):=by
  rw [(bw_below wa s).cell (p:=⟨w4.heap.size,0,none⟩) (by simp only;omega)];exact hca
 have hbb:=(hba.trans ((bw_below wa s).mono (by omega)))
 have RS0:=resolve_run (Lib.bytesWorld wa 5 s) (some ⟨wa.heap.size,0,none⟩) s.size (grownCap wa s.size 0 5) (bytesI s) p len cap ns (bw_src wa s) (by omega) (HT.out.on hbb) HS.out HR.out
 rw [hsa] at RS0
 have RS:=lh RS0
 have HBB:=lh (HB.out.trans (hbb.mono HB.out.size))
 have HWA:=lh hwa
 clear hbb hba hca RS0
 go_wp2_with (rw [HWA.out])
 (with_reducible refine RS.out.mono ?_)
 rintro e w6 ⟨hb6,hm⟩
 rw [HW.out] at hm
 obtain ⟨C,l,cc,rfl,hE⟩:=hm
 have h6:Below w.heap.size w w6:=HBB.out.trans (hb6.mono HBB.out.size)
 have hb7:=one_below w6 (.cells #[.slice none 0 0,.slice none 0 0,.slice none 0 0,.slice none 0 0] 65)
 have hbw7:=h6.trans (hb7.mono h6.size)
 have CE:=lh (code_err (HG.out.below hbw7) (hE.on hb7))
 have HB7:=lh hbw7
 clear hE hb6 RS h6 hb7 hbw7
 go_wp2_with fail
 (with_reducible refine CE.out.mono ?_)
 rintro e w8 ⟨rfl,hb8⟩
 have HB8:=lh (HB7.out.trans (hb8.mono HB7.out.size))
 clear hb8 CE
 go_wp2
 go_ret
 exact ⟨rfl,HB8.out⟩
theorem chkW_of {l:List Int}(h:chkW l=true):∃ns a,parseS l=.ok ns∧rightP ns=true∧SmallT ns∧whole ns=.ok a∧a.2.1.length=1∧(a.2.1.map Pr.vars).getD 0 []=[⟨#[97]⟩,⟨#[120]⟩]∧0<ns.length∧a.2.2.getD (ns.length-1) 0=1:=by
 unfold chkW at h
 cases hp:parseS l with
 | error e=>rw [hp] at h;cases h
 | ok ns =>
  rw [hp] at h
  simp only [Bool.and_eq_true] at h
  obtain ⟨h1,h2,h3⟩:=h
  cases hw:whole ns with
  | error x=>rw [hw] at h3;cases h3
  | ok a =>
   rw [hw] at h3
   simp only [Bool.and_eq_true,decide_eq_true_eq] at h3
   exact ⟨ns,a,rfl,h1,small_of h2,hw,h3.1,h3.2.1,h3.2.2.1,h3.2.2.2⟩
theorem works7_at (w:World)(hg:ET w):Calls Tryz.prog 36 #[] w fun e w'=>e=.returned (.bool true)∧Below w.heap.size w w':=by
 have kc:=fun (w:World) (C:Array Value) (n c:Nat)=>Lib.run_convert_bytes_const (P:=Tryz.prog) w 22 5 C n c Tryz.underlying22 Tryz.underlying5
 obtain ⟨ns,a,hp,hr,hS,hw,hl1,hvs,hn0,hof⟩:=chkW_of ex0
 have HG:=lh hg
 have HP:=lh hp
 have HR:=lh hr
 have HS:=lh hS
 have HW:=lh hw
 clear hg hp hr hS hw
 obtain ⟨C,hC⟩:∃C:Array Value,#[.int .u8 116,.int .u8 97,.int .u8 98,.int .u8 108,.int .u8 101,.int .u8 32,.int .u8 116,.int .u8 40,.int .u8 99,.int .u8 41,.int .u8 59,.int .u8 32,.int .u8 112,.int .u8 114,.int .u8 111,.int .u8 99,.int .u8 32,.int .u8 112,.int .u8 40,.int .u8 97,.int .u8 41,.int .u8 32,.int .u8 123,.int .u8 32,.int .u8 114,.int .u8 101,.int .u8 97,.int .u8 100,.int .u8 32,.int .u8 120,.int .u8 32,.int .u8 61,.int .u8 32,.int .u8 116,.int .u8 91,.int .u8 97,.int .u8 93,.int .u8 46,.int .u8 99,.int .u8 59,.int .u8 32,.int .u8 101,.int .u8 109,.int .u8 105,.int .u8 116,.int .u8 32,.int .u8 120,.int .u8 59,.int .u8 32,.int .u8 125]=C:=⟨_,rfl⟩
 have hsc:=src_const w C [116,97,98,108,101,32,116,40,99,41,59,32,112,114,111,99,32,112,40,97,41,32,123,32,114,101,97,100,32,120,32,61,32,116,91,97,93,46,99,59,32,101,109,105,116,32,120,59,32,125] 50 (by rw [← hC];rfl) (by rfl) (by decide) 50 51
 obtain ⟨w1,hw1⟩:∃w1,w.alloc (.cells C 5 (50,51))=w1:=⟨_,rfl⟩
 have hb1:Below w.heap.size w w1:=by rw [← hw1];exact one_below w _
 rw [hw1] at hsc
 have HSC:=lh hsc
 have HB1:=lh hb1
 have PA:=lh (parse_at w1 (some ⟨w.heap.size,0,none⟩) 50 50 _ hsc (by decide))
 have HW1:=lh hw1
 have hcs:C.size=50:=by rw [← hC];rfl
 clear hsc hb1
 go_enter Tryz.func36,Tryz.ntmps36
 go_wp2_with fail
 (with_reducible refine PA.out.mono ?_)
 rintro e w2 ⟨hb2,hm⟩
 rw [HP.out] at hm
 obtain ⟨p,len,cap,rfl,hT⟩:=hm
 have h2:=HB1.out.trans (hb2.mono HB1.out.size)
 have hb3:=one_below w2 (.cells #[.slice p len cap] 39)
 have h3:=h2.trans (hb3.mono h2.size)
 have RS:=lh (resolve_run (w2.alloc (.cells #[.slice p len cap] 39)) (some ⟨w.heap.size,0,none⟩) 50 50 _ p len cap ns ((HSC.out.below hb2).below hb3) (by decide) (hT.on hb3) HS.out HR.out)
 have H3:=lh h3
 clear hT hb2 hb3 h2 h3 PA
 go_wp2_with fail
 (with_reducible refine RS.out.mono ?_)
 rintro e w4 ⟨hb4,hm⟩
 rw [HW.out] at hm
 obtain ⟨base,nb,nc,ob,tv,pv,tcv,pvv,_,_,_,rfl,hPG⟩:=hm
 have h4:=H3.out.trans (hb4.mono H3.out.size)
 obtain ⟨tp,tc,rfl⟩:=own_slice hPG.trow
 obtain ⟨pp,pc,rfl,hpc,hpr⟩:=hPG.procs
 obtain ⟨g,rfl,hgl,hpa⟩:=hpr (by omega)
 obtain ⟨pr,hpr0⟩:∃pr,a.2.1[0]?=some pr:=⟨_,List.getElem?_eq_getElem (by omega)⟩
 have hvars:pr.vars=[⟨#[97]⟩,⟨#[120]⟩]:=by rw [← hvs];simp [List.getD,hpr0]
 obtain ⟨vp,vc,hat⟩:=hpa 0 pr hpr0
 rw [hl1] at hpc
 rw [hl1]
 have hvl:pr.vars.length=2:=by rw [hvars];rfl
 obtain ⟨w5,hw5⟩:∃w5,w4.alloc (.cells #[.slice (some ⟨nb,0,none⟩) ns.length nc,.slice tp a.1.length tc,.slice (some ⟨g,0,none⟩) 1 pc,.slice (some ⟨ob,0,none⟩) ns.length ns.length] 65)=w5:=⟨_,rfl⟩
 have hb5:Below w4.heap.size w4 w5:=by rw [← hw5];exact one_below w4 _
 have hx5:PBk w5 w4.heap.size (.slice (some ⟨nb,0,none⟩) ns.length nc) (.slice tp a.1.length tc) (.slice (some ⟨g,0,none⟩) 1 pc) (.slice (some ⟨ob,0,none⟩) ns.length ns.length):=by rw [← hw5];exact heap_al _ _ _ rfl
 have h5:=h4.trans (hb5.mono h4.size)
 have hP5:=hPG.on hb5
 have A5:=hat.on hgl hb5
 have tx5:TX w5 vp 2 vc [⟨#[97]⟩,⟨#[120]⟩]:=by
  have:=A5.tx
  rw [hvars] at this
  exact this
 have c2:=A5.c2
 simp only [Nat.zero_mul,Nat.zero_add,hvl] at c2
 rw [← hw5] at c2
 obtain ⟨bo,oo,eo,hol,hoc⟩:=hP5.of.cell hn0
 obtain ⟨rfl,rfl⟩:ob=bo∧0=oo:=by cases eo;exact ⟨rfl,rfl⟩
 have co:=hoc (ns.length-1) (by omega)
 rw [hof,Nat.zero_add] at co
 have jw:IntKind.i64.wrap ((ns.length:Int)-1)=((ns.length-1:Nat):Int):=by have:=HS.out.len;rw [IntWalk.i64_in _ (by omega)];omega
 have H5:=lh h5
 have HG5:=lh (HG.out.below h5)
 have HTX:=lh tx5
 have HW5:=lh hw5
 have HX5:=lh hx5
 clear hPG hb4 hb5 h4 h5 RS H3 hP5 A5 tx5 hat hpa hpr hw5 hoc
 have q2:((ns.length:Int)==0)=false:=by rw [beq_eq_false_iff_ne];omega
 go_wp2_with fail
 rw [HW5.out]
 have hr:=one_below w5 (.cells #[.string ⟨#[97]⟩,.string ⟨#[120]⟩] 9)
 have hs5:w5.heap.size=w4.heap.size+1:=by rw [← HW5.out];simp
 have ty:TX (w5.alloc (.cells #[.string ⟨#[97]⟩,.string ⟨#[120]⟩] 9)) (some ⟨w4.heap.size+1,0,none⟩) 2 2 [⟨#[97]⟩,⟨#[120]⟩]:=by
  refine ⟨rfl,Nat.le_refl _,fun _=>⟨w4.heap.size+1,0,rfl,by rw [size_al];omega,fun i hi=>?_⟩⟩
  rw [cell_of_row _ _ _ _ _ _ (heap_al w5 _ _ hs5.symm)]
  match i,hi with
  | 0,_=>rfl
  | 1,_=>rfl
 have ST:=sameTexts_at (w5.alloc (.cells #[.string ⟨#[97]⟩,.string ⟨#[120]⟩] 9)) vp (some ⟨w4.heap.size+1,0,none⟩) 2 2 vc 2 [⟨#[97]⟩,⟨#[120]⟩] [⟨#[97]⟩,⟨#[120]⟩] (HTX.out.on hr) ty (by decide) (by decide)
 rw [show decide (([⟨#[97]⟩,⟨#[120]⟩]:List ByteArray)=[⟨#[97]⟩,⟨#[120]⟩])=true from decide_eq_true rfl] at ST
 have STH:=lh ST
 have HR5:=lh hr
 clear ST hr ty
 (with_reducible refine STH.out.mono ?_)
 rintro e w6 ⟨rfl,hb6⟩
 have h6:Below w5.heap.size w5 w6:=HR5.out.trans (hb6.mono HR5.out.size)
 have x6:=HX5.out.on (h6.block _ (by omega))
 have c6:=x6.c3
 have o6:w6.cell? ⟨ob,ns.length-1,none⟩=some (.int .i64 1):=by rw [h6.cell (p:=⟨ob,ns.length-1,none⟩) hol];exact co
 have HG6:=lh (HG5.out.below h6)
 have H6:=lh (H5.out.trans (h6.mono H5.out.size))
 clear hb6 h6 x6 STH HR5 co c2
 have jn:(0:Int)≤((ns.length-1:Nat):Int):=by omega
 have jm:((ns.length-1:Nat):Int)<(ns.length:Int):=by omega
 have CD:=lh (code7_at w6 HG6.out ⟨#[112,114,111,99,32,112,40,41,32,123,32,101,109,105,116,32,120,59,32,125]⟩ (by decide) 70 ex1)
 go_wp2_with fail
 (with_reducible refine CD.out.mono ?_)
 rintro e w7 ⟨rfl,hb⟩
 have HG7:=lh (HG6.out.below hb)
 have H7:=lh (H6.out.trans (hb.mono H6.out.size))
 clear hb CD
 have CD:=lh (code7_at w7 HG7.out ⟨#[112,114,111,99,32,112,40,41,32,123,32,105,102,32,49,32,60,32,50,32,123,32,108,101,116,32,120,32,61,32,49,59,32,125,32,101,109,105,116,32,120,59,32,125]⟩ (by decide) 70 ex2)
 go_wp2_with fail
 (with_reducible refine CD.out.mono ?_)
 rintro e w8 ⟨rfl,hb⟩
 have HG8:=lh (HG7.out.below hb)
 have H8:=lh (H7.out.trans (hb.mono H7.out.size))
 clear hb CD
 have CD:=lh (code7_at w8 HG8.out ⟨#[116,97,98,108,101,32,116,40,99,44,32,100,41,59,32,112,114,111,99,32,112,40,41,32,123,32,112,117,116,32,116,91,49,93,40,50,41,59,32,125]⟩ (by decide) 72 ex3)
 go_wp2_with fail
 (with_reducible refine CD.out.mono ?_)
 rintro e w9 ⟨rfl,hb⟩
 have HG9:=lh (HG8.out.below hb)
 have H9:=lh (H8.out.trans (hb.mono H8.out.size))
 clear hb CD
 have CD:=lh (code7_at w9 HG9.out ⟨#[112,114,111,99,32,112,40,41,32,123,32,105,102,32,49,32,60,32,50,32,123,32,99,104,111,112,59,32,125,32,125]⟩ (by decide) 73 ex4)
 go_wp2_with fail
 (with_reducible refine CD.out.mono ?_)
 rintro e w10 ⟨rfl,hb⟩
 have HG10:=lh (HG9.out.below hb)
 have H10:=lh (H9.out.trans (hb.mono H9.out.size))
 clear hb CD
 go_wp2_with fail
 go_ret
 exact ⟨rfl,H10.out⟩
end Nm
namespace Nm
open Go.RowKit Go.Maps Tr Par
theorem nn_big (w:World)(p:Option Addr)(len c:Nat)(hg:ET w)(hl:1500<len) :
 Calls Tryz.prog 12 #[.slice p len c] w fun e w'=>e=.returned (.bool true)∧Below w.heap.size w w':=by
 have WK:=lh (works7_at w hg)
 clear hg
 go_enter Tryz.func12,Tryz.ntmps12
 go_wp2_with fail
 (with_reducible refine WK.out.mono ?_)
 rintro e w2 ⟨rfl,hb2⟩
 have HB2:=lh hb2
 clear hb2 WK
 go_wp2
 go_ret
 exact ⟨rfl,HB2.out⟩
theorem nn_err (w:World)(p:Option Addr)(len c:Nat)(xs:List Int)(hs:Src w p len c xs)(hg:ET w)(hl:len≤1500)(er:Nat × Int)(hp:parseS xs=.error er) :
 Calls Tryz.prog 12 #[.slice p len c] w fun e w'=>e=.returned (.bool true)∧Below w.heap.size w w':=by
 have PA:=parse_at w p len c xs hs (by omega)
 have PAH:=lh PA
 have HP:=lh hp
 have HG:=lh hg
 clear hs hg hp PA
 go_enter Tryz.func12,Tryz.ntmps12
 go_wp2_with fail
 (with_reducible refine PAH.out.mono ?_)
 rintro e w2 ⟨hb2,hm⟩
 rw [HP.out] at hm
 obtain ⟨C,l,cc,rfl,hE⟩:=hm
 have hb3:=hb2.trans ((one_below w2 (.cells #[.slice none 0 0] 39)).mono hb2.size)
 have WK:=lh (works7_at (w2.alloc (.cells #[.slice none 0 0] 39)) (HG.out.below hb3))
 have HB3:=lh hb3
 clear hE hb2 hb3 PAH
 go_wp2_with fail
 (with_reducible refine WK.out.mono ?_)
 rintro e w4 ⟨rfl,hb4⟩
 have HB4:=lh (HB3.out.trans (hb4.mono HB3.out.size))
 clear hb4 WK
 go_wp2
 go_ret
 exact ⟨rfl,HB4.out⟩
theorem nn_no (w:World)(p:Option Addr)(len c:Nat)(xs:List Int)(hs:Src w p len c xs)(hg:ET w)(hl:len≤1500)(ns:List Nd)(hp:parseS xs=.ok ns)(hr:rightP ns=true)(hS:SmallT ns)(x:Nat × Int)(hw:whole ns=.error x) :
 Calls Tryz.prog 12 #[.slice p len c] w fun e w'=>e=.returned (.bool true)∧Below w.heap.size w w':=by
 have PA:=parse_at w p len c xs hs (by omega)
 have PAH:=lh PA
 have HP:=lh hp
 have HG:=lh hg
 have HS:=lh hs
 have HR:=lh hr
 have HSM:=lh hS
 have HW:=lh hw
 clear hs hg hp PA hr hS hw
 go_enter Tryz.func12,Tryz.ntmps12
 go_wp2_with fail
 (with_reducible refine PAH.out.mono ?_)
 rintro e w2 ⟨hb2,hm⟩
 rw [HP.out] at hm
 obtain ⟨p2,len2,c2,rfl,hT⟩:=hm
 have hb3:=one_below w2 (.cells #[.slice p2 len2 c2] 39)
 have h3:=hb2.trans (hb3.mono hb2.size)
 have RS:=lh (resolve_run (w2.alloc (.cells #[.slice p2 len2 c2] 39)) p len c xs p2 len2 c2 ns (HS.out.below h3) (by omega) (hT.on hb3) HSM.out HR.out)
 have H3:=lh h3
 clear hT hb2 hb3 h3 PAH
 go_wp2_with fail
 (with_reducible refine RS.out.mono ?_)
 rintro e w4 ⟨hb4,hm⟩
 rw [HW.out] at hm
 obtain ⟨C,l,cc,rfl,hE⟩:=hm
 have h4:=H3.out.trans (hb4.mono H3.out.size)
 have hb5:=one_below w4 (.cells #[.slice none 0 0,.slice none 0 0,.slice none 0 0,.slice none 0 0] 65)
 have h5:=h4.trans (hb5.mono h4.size)
 have WK:=lh (works7_at (w4.alloc (.cells #[.slice none 0 0,.slice none 0 0,.slice none 0 0,.slice none 0 0] 65)) (HG.out.below h5))
 have H5:=lh h5
 clear hE hb4 h4 hb5 h5 RS
 go_wp2_with fail
 (with_reducible refine WK.out.mono ?_)
 rintro e w6 ⟨rfl,hb6⟩
 have H6:=lh (H5.out.trans (hb6.mono H5.out.size))
 clear hb6 WK
 go_wp2
 go_ret
 exact ⟨rfl,H6.out⟩
end Nm
end Go.Proofs.YthdioipfdbbmmaaGreatDoor
