/- Contracts. -/
import Derived.Test.YthdioipfdbbmmaaGreatDoorKah
import Derived.Test.YthdioipfdbbmmaaGreatDoorKbj
import Derived.Test.YthdioipfdbbmmaaGreatDoorKbq
set_option linter.all false
set_option maxRecDepth 1000000
set_option maxHeartbeats 16000000
namespace Go.Proofs.YthdioipfdbbmmaaGreatDoor
namespace Nm
open Go.RowKit Go.Maps Tr
theorem mbn_ok {ns:List Nd}{i:Nat}{s s':St}(h:mustBeNew ns i s=.ok s'):s'=s∧look s.there (nd ns i).text=none:=by
 unfold mustBeNew at h
 split at h
 · cases h
 · rename_i h2
   cases h
   exact ⟨rfl,by simpa using h2⟩
theorem params_cons (ns:List Nd)(i:Nat)(r:List Nat)(s:St):params ns (i::r) s=(mustBeNew ns i s >>= fun s1=>declare ns i false s1 >>= fun s2=>params ns r s2):=rfl
theorem proc_eq (ns:List Nd)(tabs:List Tb)(i:Nat)(of:List Int):proc ns tabs i of=(params ns ((nd ns (kid ns i 0)).kids.map Int.toNat) { of:=of,vars:=[],envs:=[[]] } >>= fun s=>read ns tabs (2*ns.length+2) (kidsOf ns (kid ns i 1)++[none]) s >>= fun s=>.ok (s.of,{ name:=(nd ns i).text,params:=((nd ns (kid ns i 0)).kids.map Int.toNat).length,vars:=s.vars,single:=decide ((nd ns i).n=1),root:=i })):=rfl
section
variable {B:Bs}{h:Hd}{prs:List Pr}{tcv:List Value}{mt:List Nat}{pvv:List Value}{tv pv cv:Value}{w:World}
theorem rd_new (r:Rh B h prs tcv mt pvv tv pv cv (rcells B tv pv cv) w)(ok:BsOk B)(htn:h.tnames=h.tabs.map Tb.name) :
 Rd (cxB B h tv pv cv w) (w.heap.size+1+1) { of:=h.of,vars:=[],envs:=[[]] } [] [(w.heap.size,true)] (.slice none 0 0) (.slice (some ⟨w.heap.size+1,0,none⟩) 1 1) (.slice none 0 0) ((cxB B h tv pv cv w).cells (.slice none 0 0) (.slice (some ⟨w.heap.size+1,0,none⟩) 1 1) (.slice none 0 0))
  (((w.alloc (.map #[] 0)).alloc (.cells #[.map (some w.heap.size),.bool true] 273)).alloc (.cells #[.pointer (some ⟨B.rb,0,none⟩),.slice none 0 0,.slice (some ⟨w.heap.size+1,0,none⟩) 1 1,.slice none 0 0] 276)):=by
 have s1:(w.alloc (.map #[] 0)).heap.size=w.heap.size+1:=by simp
 have s2:((w.alloc (.map #[] 0)).alloc (.cells #[.map (some w.heap.size),.bool true] 273)).heap.size=w.heap.size+1+1:=by simp
 have m0:=heap_alloc_new (w.alloc (.map #[] 0)) (.cells #[.map (some w.heap.size),.bool true] 273)
 have m1:=heap_alloc_new ((w.alloc (.map #[] 0)).alloc (.cells #[.map (some w.heap.size),.bool true] 273)) (.cells #[.pointer (some ⟨B.rb,0,none⟩),.slice none 0 0,.slice (some ⟨w.heap.size+1,0,none⟩) 1 1,.slice none 0 0] 276)
 have hm:(w.alloc (.map #[] 0)).ownsMap Tryz.prog 9 vrR w.heap.size 0 (.map []):=World.ownsMap_made _ _ _ _
 have hb1:Below (w.heap.size+1) (w.alloc (.map #[] 0)) ((w.alloc (.map #[] 0)).alloc (.cells #[.map (some w.heap.size),.bool true] 273)):=(Below.refl _ _).alloc (by rw [s1];exact Nat.le_refl _) _
 have hb2:Below (w.heap.size+1+1) ((w.alloc (.map #[] 0)).alloc (.cells #[.map (some w.heap.size),.bool true] 273)) (((w.alloc (.map #[] 0)).alloc (.cells #[.map (some w.heap.size),.bool true] 273)).alloc (.cells #[.pointer (some ⟨B.rb,0,none⟩),.slice none 0 0,.slice (some ⟨w.heap.size+1,0,none⟩) 1 1,.slice none 0 0] 276)):=(Below.refl _ _).alloc (by rw [s2];exact Nat.le_refl _) _
 have hB:Below w.heap.size w (((w.alloc (.map #[] 0)).alloc (.cells #[.map (some w.heap.size),.bool true] 273)).alloc (.cells #[.pointer (some ⟨B.rb,0,none⟩),.slice none 0 0,.slice (some ⟨w.heap.size+1,0,none⟩) 1 1,.slice none 0 0] 276)):=(((Below.refl w.heap.size w).alloc (Nat.le_refl _) (.map #[] 0)).alloc (by rw [s1];omega) _).alloc (by rw [s2];omega) _
 rw [s1] at m0
 rw [s2] at m1
 generalize ha:w.alloc (.map #[] 0)=wa at *
 generalize hb:wa.alloc (.cells #[.map (some w.heap.size),.bool true] 273)=wb at *
 generalize hc:wb.alloc (.cells #[.pointer (some ⟨B.rb,0,none⟩),.slice none 0 0,.slice (some ⟨w.heap.size+1,0,none⟩) 1 1,.slice none 0 0] 276)=wc at *
 refine ⟨r.lo.on (r.cx ok htn) hB,by show w.heap.size≤_;omega,m1,⟨rfl,.inl ⟨rfl,rfl⟩⟩,⟨rfl,.inr ⟨_,1,_,rfl,by show w.heap.size≤_;omega,(hb2.block _ (by omega)).trans m0,Nat.le_refl _,by decide,rfl,rfl⟩⟩,⟨rfl,.inl ⟨rfl,rfl⟩⟩,⟨rfl,fun j hj=>?_,fun e he=>?_,List.pairwise_singleton _ _⟩⟩
 · obtain rfl:j=0:=by simpa using hj
   exact ⟨Nat.le_refl _,map_block hm ((hb2.block w.heap.size (by omega)).trans (hb1.block w.heap.size (by omega)))⟩
 · rw [List.mem_singleton.1 he]
   exact List.Pairwise.nil
theorem Rh.pushP {cs:Array Value}{w':World}(r:Rh B h prs tcv mt pvv tv pv cv cs w)(ok:BsOk B){b:Nat}{p:Pr}{vv v':Value}(hb:B.ob<b)(hv:w.ownsRow b 9 1 vv p.vars.length (strs p.vars))(hr:w'.ownsRow (B.ob+1) 82 5 v' (prs.length+1) (prcC prs pvv++[.string p.name,.int .i64 p.params,vv,.bool p.single,.int .i64 p.root]))(hg:w.grownBy w' pv.ownBlock):Rh B h (prs++[p]) tcv mt (pvv++[vv]) tv v' cv cs w' where
 lw:=r.lw.grown ok hg (fun q e=>⟨by have:=(r.prow.lt q e).1;omega,fun e2=>by subst e2;have:=kd_own r.prow e;rw [kd_row r.lw.blk] at this;exact absurd this (by decide)⟩)
 tmap:=map_kind r.tmap hg (fun e=>by have:=kd_own r.prow e;rw [kd_map r.tmap] at this;exact absurd this (by decide))
 pmap:=map_kind r.pmap hg (fun e=>by have:=kd_own r.prow e;rw [kd_map r.pmap] at this;exact absurd this (by decide))
 tap:=r.tap
 pap:=r.pap
 t64:=r.t64
 p64:=r.p64
 trow:=own_kind r.trow hg (fun q e=>by rw [kd_own r.prow e];decide)
 crow:=own_kind r.crow hg (fun q e=>by rw [kd_own r.prow e];decide)
 prow:=by rw [prcC_snoc _ _ _ _ r.plen,List.length_append];exact hr
 tlen:=r.tlen
 mlen:=r.mlen
 plen:=by simp [r.plen]
 tcols:=fun j hj=>own_kind (r.tcols j hj) hg (fun q e=>by rw [kd_own r.prow e];decide)
 cmaps:=fun j hj=>by
  obtain ⟨h1,h2,h3,h4⟩:=r.cmaps j hj
  exact ⟨h1,h2,h3,map_kind h4 hg (fun e=>by have:=kd_own r.prow e;rw [kd_map h4] at this;exact absurd this (by decide))⟩
 pvars:=fun j hj=>by
  have hj:j<prs.length+1:=by simpa using hj
  rw [List.map_append,List.map_singleton,getD_snoc _ _ _ (by first|exact hj|(rw [List.length_map];exact hj)|(rw [r.plen];exact hj)),getD_snoc _ _ _ (by first|exact hj|(rw [List.length_map];exact hj)|(rw [r.plen];exact hj)),List.length_map,r.plen]
  by_cases hl:j<prs.length
  · rw [if_pos hl,if_pos hl]
    exact own_kind (r.pvars j hl) hg (fun q e=>by rw [kd_own r.prow e];decide)
  · rw [if_neg hl,if_neg hl]
    exact own_base (own_kind hv hg (fun q e=>by rw [kd_own r.prow e];decide)) hb
 caps:=r.caps
 tfew:=r.tfew
theorem Rh.setR {cs:Array Value}(r:Rh B h prs tcv mt pvv tv pv cv cs w)(ok:BsOk B)(k:Nat)(v:Value)(h0:k≠0)(h3:k≠3):Rh B h prs tcv mt pvv tv pv cv (cs.setIfInBounds k v) (w.setCell ⟨B.rb,k,none⟩ v) :=
 (Tail.setR ⟨r.rm,r.lw,r.trow,r.crow⟩ ok k v h0 h3).rh rfl rfl rfl
theorem infoP:(Tryz.prog.info? 82).map (fun i=>(i.zero,i.size,i.bytes))=some (some (.agg #[.string ⟨#[]⟩,.int .i64 0,.slice none 0 0,.bool false,.int .i64 0]),5,64):=by kernel_rfl
def Procd (B:Bs)(h:Hd)(prs:List Pr)(tcv:List Value)(mt:List Nat)(tv cv:Value)(a:List Int × Pr)(e:Ending)(w':World):Prop:=e=.returned (.tuple #[])∧∃pvv' pv',Rh B { h with of:=a.1 } (prs++[a.2]) tcv mt pvv' tv pv' cv (rcells B tv pv' cv) w'
theorem proc_at (r:Rh B h prs tcv mt pvv tv pv cv (rcells B tv pv cv) w)(ok:BsOk B)(htn:h.tnames=h.tabs.map Tb.name){i:Nat}(hi:i<B.nl)(hk:(nd B.ns i).kind=3)(hp:prs.length≤70000) :
 Calls Tryz.prog 142 #[.pointer (some ⟨B.rb,0,none⟩),.int .i64 i] w (PsB B (proc B.ns h.tabs i h.of) (Procd B h prs tcv mt tv cv)):=by
 have hsh:Tr.isR (kindsOf B.ns (nd B.ns i)) [4,6]=true:=by
  have:=ok.rt.shape i (by rw [ok.nslen];exact hi)
  rw [hk] at this
  simpa [kidsR] using this
 obtain ⟨hkl,hkw⟩:=ok.rt.want (by rw [ok.nslen];exact hi) hsh
 have hk1:(nd B.ns (Nm.kid B.ns i 1)).kind=6:=by
  have:=(hkw 1 (by decide)).2.2.2
  simpa using this
 have hkl2:(nd B.ns i).kids.length=2:=hkl
 obtain ⟨kb,ko,hkp,hkc,hkd⟩:=ok.kid hi
 have hkp2:B.kp i=some ⟨kb,ko,none⟩:=hkp.resolve_left (by omega)
 obtain ⟨hq0,hc0⟩:=hkd 0 (by omega)
 obtain ⟨hq1,hc1⟩:=hkd 1 (by omega)
 have KC0:=lh hc0
 have KC1:=lh hc1
 have PXh:=lh (proc_eq B.ns h.tabs i h.of)
 have RH:=lh r
 have ND:=lh (nodeB_at r.lw ok hi)
 have fl:=nd_f4
 have hmm:=@run_makeMap Tryz.prog
 unfold nodeB at ND
 rw [hkp2,hkl2] at ND
 rw [hkl2] at hkc
 generalize hkcg:B.kc i=kci at *
 generalize hq0g:Nm.kid B.ns i 0=k0 at *
 generalize hq1g:Nm.kid B.ns i 1=k1 at *
 obtain ⟨pb0,po0,hpp,hpc,hpd⟩:=ok.kid hq0
 have PD:=lh hpd
 have PP:=lh hpp
 have KF:=ok.kidsFew hq0
 have DR:Hid (∀j,j<(nd B.ns k0).kids.length→(((nd B.ns k0).kids.drop j).map Int.toNat)=Nm.kid B.ns k0 j::(((nd B.ns k0).kids.drop (j+1)).map Int.toNat)):=lh (fun j hj=>kids_drop hj)
 have DE:Hid ((((nd B.ns k0).kids.drop (nd B.ns k0).kids.length).map Int.toNat)=[]):=lh (by simp)
 have D0:Hid (((nd B.ns k0).kids.drop 0).map Int.toNat=(nd B.ns k0).kids.map Int.toNat):=lh (by simp)
 have DL:Hid (((nd B.ns k0).kids.map Int.toNat).length=(nd B.ns k0).kids.length):=lh (by simp)
 clear r hkd hkw hkl hsh hpd hpp hc0 hc1 hkp
 go_enter Tryz.func142,Tryz.ntmps142
 go_wp2_with fail
 (with_reducible refine ND.out.mono ?_)
 rintro e w1 ⟨rfl,hb⟩
 have R1:=lh (RH.out.on ok hb)
 clear hb ND RH
 obtain ⟨W1,hW1⟩:∃W1,w1.alloc (.cells #[.int .u8 (nd B.ns i).kind,.int .i64 (nd B.ns i).at',.string (nd B.ns i).text,.int .i64 (nd B.ns i).n,.slice (some ⟨kb,ko,none⟩) 2 kci] 54)=W1:=⟨_,rfl⟩
 have hbW:Below w1.heap.size w1 W1:=by rw [← hW1];exact (Below.refl _ _).alloc (Nat.le_refl _) _
 have R2:=lh (R1.out.on ok hbW)
 have hbox:W1.heap[w1.heap.size]?=some (.cells #[.int .u8 (nd B.ns i).kind,.int .i64 (nd B.ns i).at',.string (nd B.ns i).text,.int .i64 (nd B.ns i).n,.slice (some ⟨kb,ko,none⟩) 2 kci] 54 (0,0)):=by rw [← hW1];exact heap_alloc_new _ _
 have HBX:=lh hbox
 have kc0:W1.cell? ⟨kb,ko,none⟩=some (.int .i64 (k0:Nat)):=by simpa using KC0.out W1 R2.out.lw.bn
 have b4:W1.cell? ⟨w1.heap.size,4,none⟩=some (.slice (some ⟨kb,ko,none⟩) 2 kci):=by rw [cell_of_row _ _ _ _ _ _ hbox];rfl
 have ND:=lh (nodeB_at R2.out.lw ok hq0)
 unfold nodeB at ND
 rw [hk] at hW1
 have R1o:=R1
 clear hbW hbox R1
 generalize hkg:(nd B.ns k0).kids.length=pn at *
 generalize hkv:B.kp k0=kpv at *
 generalize hkcv:B.kc k0=kcv at *
 go_wp2_with fail
 (with_reducible refine ND.out.mono ?_)
 rintro e w2 ⟨rfl,hb⟩
 have R3:=lh (R2.out.on ok hb)
 have hnb0:B.ob<w1.heap.size:=by
  obtain ⟨rest,hr⟩:=R1o.out.lw.row
  exact (Array.getElem?_eq_some_iff.1 hr).1
 have BX2:Hid (w2.heap[w1.heap.size]?=some (.cells #[.int .u8 (nd B.ns i).kind,.int .i64 (nd B.ns i).at',.string (nd B.ns i).text,.int .i64 (nd B.ns i).n,.slice (some ⟨kb,ko,none⟩) 2 kci] 54 (0,0))):=lh ((hb.block _ (Array.getElem?_eq_some_iff.1 HBX.out).1).trans HBX.out)
 clear hb ND R2 HBX kc0 b4 hW1
 generalize w1.heap.size=nb0 at *
 go_wp2_with fail
 have cok:=R3.out.cx ok htn
 have SI:=lh (rd_new R3.out ok htn)
 have hn2:nb0<w2.heap.size:=(Array.getElem?_eq_some_iff.1 BX2.out).1
 generalize hC:cxB B { of:=h.of,tnames:=h.tnames,pnames:=h.pnames,tabs:=h.tabs } tv pv cv w2=C at *
 have hCns:C.ns=B.ns:=by rw [← hC];rfl
 have hCtb:C.tabs=h.tabs:=by rw [← hC];rfl
 have hCnl:C.nl=B.nl:=by rw [← hC];rfl
 have hCrb:C.rb=B.rb:=by rw [← hC];rfl
 have hCwn:C.Wn=B.Wn:=by rw [← hC];rfl
 have hCob:C.ob=B.ob:=by rw [← hC];rfl
 have hCW:C.W=w2:=by rw [← hC];rfl
 have WV:Hid (∀x:Nat × Int,wrongV C x=wrongB B x):=lh (fun x=>by rw [← hC];rfl)
 obtain ⟨RR,hRR⟩:∃RR,params B.ns ((nd B.ns k0).kids.map Int.toNat) { of:=h.of,vars:=[],envs:=[[]] }=RR:=⟨_,rfl⟩
 have HR:Hid (params B.ns (((nd B.ns k0).kids.drop 0).map Int.toNat) { of:=h.of,vars:=[],envs:=[[]] }=RR):=lh (by rw [D0.out];exact hRR)
 have PX1:=PXh.out
 rw [hRR] at PX1
 have PX2:=lh PX1
 have SI2:Hid (Rd C (w2.heap.size+1+1) { of:=h.of,vars:=[],envs:=[[]] } [] [(w2.heap.size,true)] (.slice none 0 0) (.slice (some ⟨w2.heap.size+1,0,none⟩) 1 1) (.slice none 0 0) (C.cells (.slice none 0 0) (.slice (some ⟨w2.heap.size+1,0,none⟩) 1 1) (.slice none 0 0)) _):=SI
 clear PX1 PXh hRR SI hmm
 generalize (((w2.alloc (.map #[] 0)).alloc (.cells #[.map (some w2.heap.size),.bool true] 273)).alloc (.cells #[.pointer (some ⟨B.rb,0,none⟩),.slice none 0 0,.slice (some ⟨w2.heap.size+1,0,none⟩) 1 1,.slice none 0 0] 276))=W3 at *
 generalize w2.heap.size+1+1=pb at *
 generalize Value.slice (some ⟨w2.heap.size+1,0,none⟩) 1 1=bv at *
 go_loopw [26] (fun iv wr=>∃(j:Nat) (s':St) (vv:Value) (mo:Nat),j≤pn∧iv=.int .i64 j∧Hid (params B.ns (((nd B.ns k0).kids.drop j).map Int.toNat) s'=RR)∧Hid (StOk s')∧Hid (Rd C pb s' [] [(mo,true)] vv bv (.slice none 0 0) (C.cells vv bv (.slice none 0 0)) wr)) (fun iv _=>pn-(intOf iv).toNat)
 case atStart=>exact ⟨0,_,_,_,by omega,rfl,HR,lh ⟨by simp,by simp⟩,SI2⟩
 case round =>
  obtain ⟨j,s',vv,mo,hj,rfl,HRi,HST,HSi⟩:=hrel
  have q0:(0:Int)≤(j:Int):=by omega
  by_cases hjn:j<pn
  · have q1:(j:Int)<(pn:Int):=by omega
    obtain rfl:kpv=some ⟨pb0,po0,none⟩:=PP.out.resolve_left (by omega)
    obtain ⟨hq,hqc⟩:=PD.out j hjn
    have kj:=hqc wr (by have:=HSi.out.lo.bn;rw [hCwn] at this;exact this)
    clear hqc
    have HRj:Hid ((mustBeNew B.ns (Nm.kid B.ns k0 j) s' >>= fun s1=>declare B.ns (Nm.kid B.ns k0 j) false s1 >>= fun s2=>params B.ns (((nd B.ns k0).kids.drop (j+1)).map Int.toNat) s2)=RR):=lh (by
     have:=HRi.out
     rw [DR.out j hjn,params_cons] at this
     exact this)
    have jw:IntKind.i64.wrap ((j:Int)+1)=((j+1:Nat):Int):=by rw [IntWalk.i64_in _ (by omega)];omega
    clear HRi
    generalize Nm.kid B.ns k0 j=qj at *
    have MB:=lh (mustBeNew_at HSi.out cok (i:=qj) (by rw [hCnl];exact hq))
    rw [hCns] at MB
    have DCL:=lh (fun W (hW:Below wr.heap.size wr W) (hnew:look s'.there (nd C.ns qj).text=none)=>declare_at (HSi.out.on cok hW) HST.out cok (i:=qj) (by rw [hCnl];exact hq) false hnew)
    rw [hCns] at DCL
    cases hx:mustBeNew B.ns qj s' with
    | error x =>
     go_wp2_with fail
     (with_reducible refine (get_no MB.out hx).mono ?_)
     rintro e w9 ⟨rfl,hB⟩
     rw [hCwn] at hB
     rw [WV.out]
     simp only [wrongB]
     go_wp2
     exact ⟨rfl,psb_no (PX2.out.trans (bind_err (HRj.out.symm.trans (bind_err hx)))) hB⟩
    | ok s1 =>
     obtain ⟨rfl,hnew⟩:=mbn_ok hx
     have HX:=lh hx
     have HNW:=lh hnew
     clear hnew
     go_wp2_with fail
     (with_reducible refine (get_ok MB.out hx).mono ?_)
     rintro e w4 ⟨rfl,_,hb⟩
     have DC:=lh (DCL.out _ hb HNW.out)
     clear DCL MB hx hb
     cases hy:declare B.ns qj false s1 with
     | error x =>
      go_wp2_with fail
      (with_reducible refine (get_no DC.out hy).mono ?_)
      rintro e w9 ⟨rfl,hB⟩
      rw [hCwn] at hB
      rw [WV.out]
      simp only [wrongB]
      go_wp2
      exact ⟨rfl,psb_no (PX2.out.trans (bind_err (HRj.out.symm.trans ((bind_val HX.out).trans (bind_err hy))))) hB⟩
     | ok s3 =>
      go_wp2_with fail
      (with_reducible refine (get_ok DC.out hy).mono ?_)
      rintro e w5 ⟨rfl,hst3,mo2,vv2,hR5⟩
      have R5:=lh hR5
      have HS3:=lh hst3
      have HN:=lh (((bind_val HX.out).trans (bind_val hy)).symm.trans HRj.out)
      clear hR5 hst3 hy DC HRj HSi HST
      go_wp2
      go_roundw
      case rel=>exact ⟨j+1,s3,vv2,mo2,by omega,rfl,HN,HS3,R5⟩
      case measure=>simp [intOf];omega
  · obtain rfl:j=pn:=by omega
    have q1:¬ (j:Int)<(j:Int):=by omega
    have BXW:Hid (∀W of2,Lo C of2 W→W.heap[nb0]?=some (.cells #[.int .u8 (nd B.ns i).kind,.int .i64 (nd B.ns i).at',.string (nd B.ns i).text,.int .i64 (nd B.ns i).n,.slice (some ⟨kb,ko,none⟩) 2 kci] 54 (0,0))):=lh (fun W of2 l=>(l.mid nb0 (by rw [hCob];exact hnb0) (by rw [hCW];exact hn2)).trans (by rw [hCW];exact BX2.out))
    have b4:wr.cell? ⟨nb0,4,none⟩=some (.slice (some ⟨kb,ko,none⟩) 2 kci):=by rw [cell_of_row _ _ _ _ _ _ (BXW.out _ _ HSi.out.lo)];rfl
    have kc1:wr.cell? ⟨kb,ko+1,none⟩=some (.int .i64 (k1:Nat)):=KC1.out wr (by have:=HSi.out.lo.bn;rw [hCwn] at this;exact this)
    have HV:Hid (RR=.ok s'):=lh (by
     have:=HRi.out
     rw [DE.out] at this
     exact this.symm)
    have RDC:=lh (read_at (C:=C) (s:=s') ⟨HST.out,_,_,_,_,HSi.out⟩ cok (own:=k1) (by rw [hCnl];exact hq1) (by rw [hCns];exact hk1) (HSi.out.maps.len))
    rw [hCns,hCtb] at RDC
    have PX3:=lh (PX2.out.trans (bind_val HV.out))
    clear HRi
    cases hz:read B.ns h.tabs (2*B.ns.length+2) (kidsOf B.ns k1++[none]) s' with
    | error x =>
     go_wp2_with fail
     (with_reducible refine (get_no RDC.out hz).mono ?_)
     rintro e w9 ⟨rfl,hB⟩
     rw [hCwn] at hB
     rw [WV.out]
     simp only [wrongB]
     go_wp2
     exact ⟨rfl,psb_no (PX3.out.trans (bind_err hz)) hB⟩
    | ok s2 =>
     go_wp2_with fail
     (with_reducible refine (get_ok RDC.out hz).mono ?_)
     rintro e w6 ⟨rfl,hst2,ms,vv2,bv2,pv2,hR6⟩
     have R6:=lh hR6
     have PX4:=lh (PX3.out.trans (bind_val hz))
     have hl:=hR6.lo
     rw [← hC] at hl
     have R7:=lh (R3.out.back ok htn hl)
     clear hR6 hst2 hz RDC PX3 HST HSi hl b4 kc1
     obtain ⟨pp,pc,rfl⟩:=own_slice R7.out.prow
     obtain ⟨m0,M0,M1,M2,M3⟩:=info_pN infoP
     have hbW:B.ob<w2.heap.size:=by omega
     have VO:Hid (∀W,Below w6.heap.size w6 W→W.ownsRow w2.heap.size 9 1 vv2 s2.vars.length (s2.vars.map Value.string)):=lh (fun W hW=>by
      have:=(R6.out.on cok hW).vars
      rw [hCW] at this
      exact this)
     obtain ⟨nn,hnn⟩:∃nn,(nd B.ns i).n=nn:=⟨_,rfl⟩
     obtain ⟨sb,hsb⟩:∃sb,(nn==(1:Int))=sb:=⟨_,rfl⟩
     have HSB:Hid (decide ((nd B.ns i).n=1)=sb):=lh (by rw [← hsb,hnn];rfl)
     rw [hnn] at BXW
     have NM:Hid (∀W,Below w6.heap.size w6 W→Calls Tryz.prog 211 #[.pointer (some ⟨B.rb,0,none⟩),.int .i64 i] W fun x W'=>x=.returned (.string (nd B.ns i).text)∧Below W.heap.size W W'):=lh (fun W hW=>nameB_at (R7.out.on ok hW).lw ok hi)
     have HFP:Hid (∀W g5 cap5 w5,Below w6.heap.size w6 W→w5.ownsRow (B.ob+1) 82 5 (.slice (some ⟨g5,0,none⟩) (prs.length+1) cap5) (prs.length+1) (prcC prs pvv++[.string (nd B.ns i).text,.int .i64 j,vv2,.bool sb,.int .i64 i])→W.grownBy w5 (Value.slice pp prs.length pc).ownBlock→Rh B { h with of:=s2.of } (prs++[{ name:=(nd B.ns i).text,params:=((nd B.ns k0).kids.map Int.toNat).length,vars:=s2.vars,single:=decide ((nd B.ns i).n=1),root:=i }]) tcv mt (pvv++[vv2]) tv (.slice (some ⟨g5,0,none⟩) (prs.length+1) cap5) cv (rcells B tv (.slice pp prs.length pc) cv) w5):=lh (fun W g5 cap5 w5 hW h1 h2=>(R7.out.on ok hW).pushP ok (b:=w2.heap.size) hbW (VO.out W hW) (by rw [HSB.out,DL.out];exact h1) h2)
     have SQ:Hid (∀W,Below w6.heap.size w6 W→W.cell? ⟨B.rb,2,none⟩=some (.slice pp prs.length pc)∧W.cell? ⟨pb,1,none⟩=some vv2∧W.cell? ⟨nb0,3,none⟩=some (.int .i64 nn)∧W.ownsRow (B.ob+1) 82 5 (.slice pp prs.length pc) prs.length (prcC prs pvv)∧B.ob+1≤W.heap.size):=lh (fun W hW=>by
      have T:=R7.out.on ok hW
      have T6:=R6.out.on cok hW
      have:=(Array.getElem?_eq_some_iff.1 T.lw.blk).1
      exact ⟨T.lw.cell 2 _ rfl,T6.ccell 1 _ rfl,by rw [cell_of_row _ _ _ _ _ _ (BXW.out _ _ T6.lo)];rfl,T.prow,by have:=ok.orb;omega⟩)
     have PXE:=lh PX4.out
     obtain ⟨vp,vc,rfl⟩:=own_slice R6.out.vars
     generalize hpr:Pr.mk (nd B.ns i).text ((nd B.ns k0).kids.map Int.toNat).length s2.vars (decide ((nd B.ns i).n=1)) i=pr at *
     generalize hpl:prcC prs pvv=pl at *
     generalize (nd B.ns i).text=tx at *
     generalize prs.length=n at *
     generalize s2.vars.length=vl at *
     have c1:=(SQ.out _ (Below.refl _ _)).1
     have c2:=(SQ.out _ (Below.refl _ _)).2.1
     have c3:=(SQ.out _ (Below.refl _ _)).2.2.1
     clear R6 R7 BXW KC0 KC1
     go_wp2_with fail
     go_region_law
      (first
       | (refine step_append_lies _ (by rfl) (.tmp 45) (.tmp 58) 63 (by rfl) (B.ob+1) 82 m0 _ 5 64 Tryz.underlying63 M0 M1 M2 M3 rfl (by decide) (.slice pp n pc) n pl (by rfl) (SQ.out _ (BB7.out.alloc BB7.out.size _)).2.2.2.1 ⟨w7.heap.size,0,none⟩ 1 1 [.string tx,.int .i64 j,.slice vp vl vc,.bool sb,.int .i64 i] (by rfl) (by rfl) (World.news_of_block (cs:=#[.string tx,.int .i64 j,.slice vp vl vc,.bool sb,.int .i64 i]) (t := 82) (fr:=(0,0)) (heap_alloc_new _ _)) (by simp [Value.oneCell']) (by decide) (by unfold maxLen;omega) (by omega) (SQ.out _ (BB7.out.alloc BB7.out.size _)).2.2.2.2 _ (by rfl) ?_;intro g5 cap5 w5 hown5 hgrow5 hat5 hlt5;have RV:=lh (HFP.out _ g5 cap5 w5 (BB7.out.alloc BB7.out.size _) hown5 hgrow5);have RS:=lh (RV.out.setR ok 2 (.slice (some ⟨g5,0,none⟩) (n+1) cap5) (by decide) (by decide));have v1:=RV.out.lw.cell 2 _ rfl;have z1:=RV.out.lw.fz 2)
       | (rw [if_pos (by rfl)];go_simp;go_at_call 211;refine (NM.out _ ((Below.refl _ _).drew)).mono ?_;rintro e w7 ⟨rfl,hb7⟩;have BB7:=lh (((Below.refl _ w6).drew).trans hb7);have kp1:=(SQ.out _ BB7.out).1;have kp2:=(SQ.out _ BB7.out).2.1;have kp3:=(SQ.out _ BB7.out).2.2.1;have kp4:=(SQ.out _ (BB7.out.alloc BB7.out.size (.cells #[.string tx,.int .i64 j,.slice vp vl vc,.bool sb,.int .i64 i] 82))).1;(try go_wp2_with fail)))
     all_goals
      have R9:Hid (Rh B { h with of:=s2.of } (prs++[pr]) tcv mt (pvv++[.slice vp vl vc]) tv (.slice (some ⟨g5,0,none⟩) (n+1) cap5) cv (rcells B tv (.slice (some ⟨g5,0,none⟩) (n+1) cap5) cv) (w5.setCell ⟨B.rb,2,none⟩ (.slice (some ⟨g5,0,none⟩) (n+1) cap5))):=RS
      go_wp2
      simp [bodyPost,results,Tryz.results142,go_sem]
      exact psb_ok PXE.out ⟨rfl,_,_,R9.out⟩
end
end Nm
end Go.Proofs.YthdioipfdbbmmaaGreatDoor
