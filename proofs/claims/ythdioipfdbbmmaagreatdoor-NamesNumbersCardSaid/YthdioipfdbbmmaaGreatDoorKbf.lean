/- Contracts. -/
import Derived.Test.YthdioipfdbbmmaaGreatDoorKah
import Derived.Test.YthdioipfdbbmmaaGreatDoorKan
import Derived.Test.YthdioipfdbbmmaaGreatDoorKbe
set_option linter.all false
set_option maxRecDepth 1000000
set_option maxHeartbeats 16000000
namespace Go.Proofs.YthdioipfdbbmmaaGreatDoor
namespace Nm
open Go.RowKit Go.Maps Tr
section
variable {B:Bs}{h:Hd}{prs:List Pr}{tcv:List Value}{mt:List Nat}{pvv:List Value}{tv pv cv:Value}{w:World}
theorem BsOk.kid (ok:BsOk B){i:Nat}(hi:i<B.nl):∃kb ko,((nd B.ns i).kids.length=0∨B.kp i=some ⟨kb,ko,none⟩)∧(nd B.ns i).kids.length≤B.kc i∧∀k,k<(nd B.ns i).kids.length→Nm.kid B.ns i k<B.nl∧∀W,Below B.Wn.heap.size B.Wn W→W.cell? ⟨kb,ko+k,none⟩=some (.int .i64 (Nm.kid B.ns i k:Nat)):=by
 have hiv:=(ok.node i hi).iv
 by_cases h0:(nd B.ns i).kids.length=0
 · exact ⟨0,0,.inl h0,hiv.cap,fun k hk=>by omega⟩
 · obtain ⟨b,off,e,hb,hc⟩:=hiv.cell (by omega)
   refine ⟨b,off,.inr e,hiv.cap,fun k hk=>?_⟩
   obtain ⟨h1,h2,h3⟩:=ok.rt.kidOf (i:=i) (by rw [ok.nslen];exact hi) hk
   refine ⟨by rw [← ok.nslen];exact h3,fun W hW=>?_⟩
   rw [hW.cell (p:=⟨b,off+k,none⟩) hb,hc k hk,h1]
theorem BsOk.kidsFew (ok:BsOk B){i:Nat}(hi:i<B.nl):(nd B.ns i).kids.length≤70000:=by
 have h2:=ok.few
 have h3:=ok.rt.sz.chain i (by rw [ok.nslen];exact hi)
 have h4:=ok.rt.for_le _ _ _ (chain_for _ _ _ h3) (by rw [ok.nslen];omega)
 have h5:(nd B.ns i).kids.length=(kidsAt B.ns i).length:=rfl
 have h6:=ok.nslen
 omega
structure Rm (B:Bs)(h:Hd)(prs:List Pr)(tcv:List Value)(mt:List Nat)(pvv:List Value)(pv:Value)(w:World):Prop where
 tmap:numM w B.tm h.tnames
 pmap:numM w B.pm h.pnames
 tap:h.tnames.Pairwise (·≠·)
 pap:h.pnames.Pairwise (·≠·)
 t64:h.tnames.length≤64
 p64:h.pnames.length≤64
 prow:w.ownsRow (B.ob+1) 82 5 pv prs.length (prcC prs pvv)
 tlen:tcv.length=h.tabs.length
 mlen:mt.length=h.tabs.length
 plen:pvv.length=prs.length
 tcols:∀j,j<h.tabs.length→w.ownsRow (B.ob+1) 9 1 (tcv.getD j default) ((h.tabs.map Tb.cols).getD j []).length (strs ((h.tabs.map Tb.cols).getD j []))
 cmaps:∀j,j<h.tabs.length→B.ob<mt.getD j 0∧mt.getD j 0≠B.tm∧mt.getD j 0≠B.pm∧numM w (mt.getD j 0) ((h.tabs.map Tb.cols).getD j [])
 pvars:∀j,j<prs.length→w.ownsRow (B.ob+1) 9 1 (pvv.getD j default) ((prs.map Pr.vars).getD j []).length (strs ((prs.map Pr.vars).getD j []))
 caps:∀t∈h.tabs,t.cols.Pairwise (·≠·)∧t.cols.length≤16
 tfew:h.tabs.length≤64
theorem Rh.rm {cs:Array Value}(r:Rh B h prs tcv mt pvv tv pv cv cs w):Rm B h prs tcv mt pvv pv w:=⟨r.tmap,r.pmap,r.tap,r.pap,r.t64,r.p64,r.prow,r.tlen,r.mlen,r.plen,r.tcols,r.cmaps,r.pvars,r.caps,r.tfew⟩
theorem Rm.grown {w':World}{row:Option Nat}(r:Rm B h prs tcv mt pvv pv w)(hg:w.grownBy w' row)(hr:∀q,row=some q→kd w q≠some 0∧kd w q≠some 10∧kd w q≠some (82+1)):Rm B h prs tcv mt pvv pv w' where
 tmap:=map_kind r.tmap hg (fun e=>(hr _ e).1 (kd_map r.tmap))
 pmap:=map_kind r.pmap hg (fun e=>(hr _ e).1 (kd_map r.pmap))
 tap:=r.tap
 pap:=r.pap
 t64:=r.t64
 p64:=r.p64
 prow:=own_kind r.prow hg (fun q e=>(hr q e).2.2)
 tlen:=r.tlen
 mlen:=r.mlen
 plen:=r.plen
 tcols:=fun j hj=>own_kind (r.tcols j hj) hg (fun q e=>(hr q e).2.1)
 cmaps:=fun j hj=>by
  obtain ⟨h1,h2,h3,h4⟩:=r.cmaps j hj
  exact ⟨h1,h2,h3,map_kind h4 hg (fun e=>(hr _ e).1 (kd_map h4))⟩
 pvars:=fun j hj=>own_kind (r.pvars j hj) hg (fun q e=>(hr q e).2.1)
 caps:=r.caps
 tfew:=r.tfew
theorem getD_snoc {α:Type}(l:List α)(x d:α){j:Nat}(hj:j<l.length+1):(l++[x]).getD j d=if j<l.length then l.getD j d else x:=by
 by_cases h:j<l.length
 · simp [List.getD,List.getElem?_append_left h,h]
 · obtain rfl:j=l.length:=by omega
   simp [List.getD]
theorem own_base {base base':Nat}{e:TypeId}{size n:Nat}{v:Value}{xs:List Value}(h:w.ownsRow base e size v n xs)(hb:base'≤base):w.ownsRow base' e size v n xs:=by
 refine ⟨h.1,?_⟩
 rcases h.2 with hn|⟨g,cap,cur,rfl,hbg,rest⟩
 · exact .inl hn
 · exact .inr ⟨g,cap,cur,rfl,Nat.le_trans hb hbg,rest⟩
theorem Rm.add (r:Rm B h prs tcv mt pvv pv w){b nb:Nat}{nm:ByteArray}{cl:List ByteArray}{bv:Value}(hb:B.ob<b)(ht:nb≠B.tm)(hp:nb≠B.pm)(hnb:B.ob<nb)(hm:numM w nb cl)(hr:w.ownsRow b 9 1 bv cl.length (strs cl))(ap:cl.Pairwise (·≠·))(h16:cl.length≤16)(h64:h.tabs.length+1≤64):Rm B { h with tabs:=h.tabs++[⟨nm,cl⟩] } prs (tcv++[bv]) (mt++[nb]) pvv pv w where
 tmap:=r.tmap
 pmap:=r.pmap
 tap:=r.tap
 pap:=r.pap
 t64:=r.t64
 p64:=r.p64
 prow:=r.prow
 tlen:=by simp [r.tlen]
 mlen:=by simp [r.mlen]
 plen:=r.plen
 tcols:=fun j hj=>by
  have hj:j<h.tabs.length+1:=by simpa using hj
  rw [List.map_append,List.map_singleton,getD_snoc _ _ _ (by first|exact hj|(rw [List.length_map];exact hj)|(rw [r.tlen];exact hj)|(rw [r.mlen];exact hj)),getD_snoc _ _ _ (by first|exact hj|(rw [List.length_map];exact hj)|(rw [r.tlen];exact hj)|(rw [r.mlen];exact hj)),List.length_map,r.tlen]
  by_cases hl:j<h.tabs.length
  · rw [if_pos hl,if_pos hl]
    exact r.tcols j hl
  · rw [if_neg hl,if_neg hl]
    exact own_base hr hb
 cmaps:=fun j hj=>by
  have hj:j<h.tabs.length+1:=by simpa using hj
  rw [List.map_append,List.map_singleton,getD_snoc _ _ _ (by first|exact hj|(rw [List.length_map];exact hj)|(rw [r.tlen];exact hj)|(rw [r.mlen];exact hj)),getD_snoc _ _ _ (by first|exact hj|(rw [List.length_map];exact hj)|(rw [r.tlen];exact hj)|(rw [r.mlen];exact hj)),List.length_map,r.mlen]
  by_cases hl:j<h.tabs.length
  · rw [if_pos hl,if_pos hl]
    exact r.cmaps j hl
  · rw [if_neg hl,if_neg hl]
    exact ⟨hnb,ht,hp,hm⟩
 pvars:=r.pvars
 caps:=fun t ht=>by
  rcases List.mem_append.1 ht with ht|ht
  · exact r.caps t ht
  · rw [List.mem_singleton.1 ht]
    exact ⟨ap,h16⟩
 tfew:=by simpa using h64
structure Tail (B:Bs)(a:Hd)(prs:List Pr)(tcv:List Value)(mt:List Nat)(pvv:List Value)(pv:Value)(cs:Array Value)(tv:Value)(tn:Nat)(tl:List Value)(cv:Value)(cn:Nat)(cl:List Value)(w:World):Prop where
 rm:Rm B a prs tcv mt pvv pv w
 lw:Lw B a.of cs w
 trow:w.ownsRow (B.ob+1) 84 2 tv tn tl
 crow:w.ownsRow (B.ob+1) 134 1 cv cn cl
section
variable {cs:Array Value}{tn cn:Nat}{tl cl:List Value}{w':World}
theorem Tail.on (t:Tail B h prs tcv mt pvv pv cs tv tn tl cv cn cl w)(ok:BsOk B)(hb:Below w.heap.size w w'):Tail B h prs tcv mt pvv pv cs tv tn tl cv cn cl w':=⟨t.rm.grown (below_grown hb) (fun _ e=>by cases e),t.lw.on ok hb,own_kind t.trow (below_grown hb) (fun _ e=>by cases e),own_kind t.crow (below_grown hb) (fun _ e=>by cases e)⟩
theorem Tail.pushT {v':Value}{n':Nat}{l':List Value}(t:Tail B h prs tcv mt pvv pv cs tv tn tl cv cn cl w)(ok:BsOk B)(hr:w'.ownsRow (B.ob+1) 84 2 v' n' l')(hg:w.grownBy w' tv.ownBlock):Tail B h prs tcv mt pvv pv cs v' n' l' cv cn cl w':=⟨t.rm.grown hg (fun q e=>by rw [kd_own t.trow e];decide),t.lw.grown ok hg (fun q e=>⟨by have:=(t.trow.lt q e).1;omega,fun e2=>by subst e2;have:=kd_own t.trow e;rw [kd_row t.lw.blk] at this;exact absurd this (by decide)⟩),hr,own_kind t.crow hg (fun q e=>by rw [kd_own t.trow e];decide)⟩
theorem Tail.pushC {v':Value}{n':Nat}{l':List Value}(t:Tail B h prs tcv mt pvv pv cs tv tn tl cv cn cl w)(ok:BsOk B)(hr:w'.ownsRow (B.ob+1) 134 1 v' n' l')(hg:w.grownBy w' cv.ownBlock):Tail B h prs tcv mt pvv pv cs tv tn tl v' n' l' w':=⟨t.rm.grown hg (fun q e=>by rw [kd_own t.crow e];decide),t.lw.grown ok hg (fun q e=>⟨by have:=(t.crow.lt q e).1;omega,fun e2=>by subst e2;have:=kd_own t.crow e;rw [kd_row t.lw.blk] at this;exact absurd this (by decide)⟩),own_kind t.trow hg (fun q e=>by rw [kd_own t.crow e];decide),hr⟩
theorem Tail.setR (t:Tail B h prs tcv mt pvv pv cs tv tn tl cv cn cl w)(ok:BsOk B)(k:Nat)(v:Value)(h0:k≠0)(h3:k≠3):Tail B h prs tcv mt pvv pv (cs.setIfInBounds k v) tv tn tl cv cn cl (w.setCell ⟨B.rb,k,none⟩ v):=by
 have hg:=grownBy_set w ⟨B.rb,k,none⟩ v
 have hk:=kd_row t.lw.blk
 refine ⟨t.rm.grown hg (fun q e=>by cases e;rw [hk];decide),⟨t.lw.bn.setCell (p:=⟨B.rb,k,none⟩) (Nat.le_trans ok.lown (Nat.le_of_lt ok.orb)) _,?_,t.lw.len,?_,?_,?_⟩,own_kind t.trow hg (fun q e=>by cases e;rw [hk];decide),own_kind t.crow hg (fun q e=>by cases e;rw [hk];decide)⟩
 · obtain ⟨rest,hr⟩:=t.lw.row
   refine ⟨rest,?_⟩
   rw [Below.heap_setCell _ _ _ _ (show B.ob≠B.rb by have:=ok.orb;omega)]
   exact hr
 · rw [heap_set _ _ _ _ _ _ t.lw.blk]
 · rw [Array.getElem?_setIfInBounds_ne (by omega)]
   exact t.lw.c0
 · rw [Array.getElem?_setIfInBounds_ne (by omega)]
   exact t.lw.c3
theorem Tail.rh {n:Nat}{ms:List Value}(t:Tail B h prs tcv mt pvv pv cs tv n tl cv n ms w)(hn:n=h.tabs.length)(ht:tl=tblC h.tabs tcv)(hm:ms=mt.map fun m=>.map (some m)):Rh B h prs tcv mt pvv tv pv cv cs w:=by
 subst hn ht hm
 exact ⟨t.lw,t.rm.tmap,t.rm.pmap,t.rm.tap,t.rm.pap,t.rm.t64,t.rm.p64,t.trow,t.crow,t.rm.prow,t.rm.tlen,t.rm.mlen,t.rm.plen,t.rm.tcols,t.rm.cmaps,t.rm.pvars,t.rm.caps,t.rm.tfew⟩
end
theorem infoT:(Tryz.prog.info? 84).map (fun i=>(i.zero,i.size,i.bytes))=some (some (.agg #[.string ⟨#[]⟩,.slice none 0 0]),2,40):=by kernel_rfl
theorem infoM:(Tryz.prog.info? 134).map (fun i=>(i.zero,i.size,i.bytes))=some (some (.map none),1,8):=by kernel_rfl
def Tabled (B:Bs)(prs:List Pr)(pvv:List Value)(pv:Value)(a:Hd)(e:Ending)(w':World):Prop:=e=.returned (.tuple #[])∧∃tcv' mt' tv' cv',Rh B a prs tcv' mt' pvv tv' pv cv' (rcells B tv' pv cv') w'
theorem table_at (r:Rh B h prs tcv mt pvv tv pv cv (rcells B tv pv cv) w)(ok:BsOk B)(hrb:B.tm≠B.rb)(htn:h.tabs.length≤h.tnames.length){i:Nat}(hi:i<B.nl) :
 Calls Tryz.prog 140 #[.pointer (some ⟨B.rb,0,none⟩),.int .i64 i] w (PsB B (table B.ns i h) (Tabled B prs pvv pv)):=by
 have NU:Hid (Calls Tryz.prog 141 #[.pointer (some ⟨B.rb,0,none⟩),.map (some B.tm),.int .i64 i,.int .i64 64] w (PsB B (number B.ns h.tnames i 64 h.of) (Numb B B.tm i h.tnames w))):=lh (number_at (most:=64) r.lw ok r.tmap ok.otm hrb r.tap (by have:=r.t64;omega) (by omega) hi)
 have PXh:=lh (table_eq B.ns i h)
 obtain ⟨tp,tc,rfl⟩:=own_slice r.trow
 obtain ⟨cp,cc,rfl⟩:=own_slice r.crow
 have RH:=lh r
 have c4:=r.lw.cell 4 _ (show (rcells B _ pv _)[4]?=some (.map (some B.tm)) from rfl)
 obtain ⟨kb,ko,hkp,hkc,hkd⟩:=ok.kid hi
 have KD:=lh hkd
 have KF:=ok.kidsFew hi
 have HT:=lh htn
 have RH64:=lh r.t64
 have HKP:=lh hkp
 have DR:Hid (∀j,j<(nd B.ns i).kids.length→(((nd B.ns i).kids.drop j).map Int.toNat)=Nm.kid B.ns i j::(((nd B.ns i).kids.drop (j+1)).map Int.toNat)):=lh (fun j hj=>kids_drop hj)
 have DE:Hid ((((nd B.ns i).kids.drop (nd B.ns i).kids.length).map Int.toNat)=[]):=lh (by simp)
 have D0:Hid (((nd B.ns i).kids.drop 0).map Int.toNat=(nd B.ns i).kids.map Int.toNat):=lh (by simp)
 have hmm:=@run_makeMap Tryz.prog
 have fl:=nd_f4
 clear r hkd htn hkp
 go_enter Tryz.func140,Tryz.ntmps140
 go_wp2_with fail
 cases hx:number B.ns h.tnames i 64 h.of with
 | error x =>
  (with_reducible refine (getb_no NU.out hx).mono ?_)
  rintro e w9 ⟨rfl,hB⟩
  simp only [wrongB]
  go_wp2
  exact ⟨rfl,psb_no (PXh.out.trans (bind_err hx)) hB⟩
 | ok a =>
  (with_reducible refine (getb_ok NU.out hx).mono ?_)
  intro e w1 hn
  have he:e=.returned (.tuple #[]):=hn.1
  have R1:=lh (RH.out.numT ok hrb hi hn hx)
  have PX1:=lh (PXh.out.trans (bind_val hx))
  have HX:=lh hx
  subst he
  clear hn hx NU PXh RH c4
  have ND:=lh (nodeB_at R1.out.lw ok hi)
  unfold nodeB at ND
  generalize hkg:(nd B.ns i).kids.length=kn at *
  go_wp2_with fail
  (with_reducible refine ND.out.mono ?_)
  rintro e w2 ⟨rfl,hb⟩
  have R2:=lh (R1.out.on ok hb)
  clear hb ND R1
  by_cases h16:16<kn
  · have h16i:(16:Int)<(kn:Int):=by omega
    have FL:=lh (failB_at R2.out.lw ok hi 3)
    have PX2:=lh (PX1.out.trans (if_pos h16))
    clear h16
    go_wp2_with fail
    (with_reducible refine FL.out.mono ?_)
    rintro e w9 ⟨rfl,hb⟩
    simp only [wrongB]
    have HB:=lh (R2.out.lw.on ok hb).bn
    clear hb
    go_wp2
    exact ⟨rfl,psb_no PX2.out HB.out⟩
  · have h16i:¬ (16:Int)<(kn:Int):=by omega
    have NB:=lh (nameB_at R2.out.lw ok hi)
    have PX2:=lh (PX1.out.trans (if_neg h16))
    have H16:=lh h16
    clear h16 PX1
    go_wp2_with fail
    (with_reducible refine NB.out.mono ?_)
    rintro e w3 ⟨rfl,hb⟩
    have R3:=lh (R2.out.on ok hb)
    clear hb NB R2
    go_wp2_with fail
    obtain ⟨W0,hW0⟩:∃W0,(w3.alloc (.map #[] 0)).alloc (.cells #[.string (nd B.ns i).text,.slice none 0 0] 84)=W0:=⟨_,rfl⟩
    have hsz1:(w3.alloc (.map #[] 0)).heap.size=w3.heap.size+1:=by simp
    have T0:Hid (Tl B w3 (rcells B (.slice tp h.tabs.length tc) pv (.slice cp h.tabs.length cc)) (nd B.ns i).text a.1 [] [] (.slice none 0 0) (.slice none 0 0) W0):=lh (by
     have hb0:Below w3.heap.size w3 W0:=by rw [← hW0];exact ((Below.refl _ _).alloc (Nat.le_refl _) _).alloc (by rw [hsz1];omega) _
     have hm0:numM (w3.alloc (.map #[] 0)) w3.heap.size []:=World.ownsMap_made _ _ _ _
     refine ⟨Old.of_below hb0,R3.out.lw.on ok hb0,?_,?_,⟨rfl,.inl ⟨rfl,rfl⟩⟩,List.Pairwise.nil⟩
     · rw [← hW0]
       exact map_block hm0 (((Below.refl _ _).alloc (Nat.le_refl _) _).block _ (by rw [hsz1];omega))
     · rw [← hW0,← hsz1]
       exact heap_alloc_new _ _)
    have hob:B.ob<w3.heap.size:=by
     obtain ⟨rest,hr⟩:=R3.out.lw.row
     exact (Array.getElem?_eq_some_iff.1 hr).1
    have hrbl:B.rb<w3.heap.size:=(Array.getElem?_eq_some_iff.1 R3.out.lw.blk).1
    obtain ⟨RR,hRR⟩:∃RR,cols B.ns ((nd B.ns i).kids.map Int.toNat) [] a.1=RR:=⟨_,rfl⟩
    have HR:Hid (cols B.ns (((nd B.ns i).kids.drop 0).map Int.toNat) [] a.1=RR):=lh (by rw [D0.out];exact hRR)
    rw [hRR] at PX2
    rw [hW0]
    generalize hkv:B.kp i=kpv at *
    obtain ⟨kcv,hkcv⟩:∃x,B.kc i=x:=⟨_,rfl⟩
    rw [hkcv] at hkc ⊢
    clear hW0 hRR hmm D0 hkv
    obtain ⟨j0,J0,J1,J2,J3⟩:=info_pN infoS
    have I0:=lh J0
    have I1:=lh J1
    have I2:=lh J2
    have I3:=lh J3
    clear J0 J1 J2 J3
    go_loopw [33] (fun iv wr=>∃(j:Nat) (of':List Int) (cm:List ByteArray) (bv:Value),j≤kn∧iv=.int .i64 j∧cm.length=j∧Hid (cols B.ns (((nd B.ns i).kids.drop j).map Int.toNat) cm of'=RR)∧Hid (Tl B w3 (rcells B (.slice tp h.tabs.length tc) pv (.slice cp h.tabs.length cc)) (nd B.ns i).text of' cm cm bv bv wr)) (fun iv _=>kn-(intOf iv).toNat)
    case atStart=>exact ⟨0,a.1,[],_,by omega,rfl,rfl,HR,T0⟩
    case round =>
     obtain ⟨j,of',cm,bv,hj,rfl,hcl,HRi,HSi⟩:=hrel
     have q0:(0:Int)≤(j:Int):=by omega
     have H16o:=H16.out
     by_cases hjn:j<kn
     · have q1:(j:Int)<(kn:Int):=by omega
       obtain rfl:kpv=some ⟨kb,ko,none⟩:=HKP.out.resolve_left (by omega)
       obtain ⟨hq,hqc⟩:=KD.out j hjn
       have kj:=hqc wr HSi.out.lw.bn
       have HQ:=lh hq
       have HCL:=lh hcl
       clear hqc hq
       have hq9:j≤70000:=by omega
       have NU:Hid (Calls Tryz.prog 141 #[.pointer (some ⟨B.rb,0,none⟩),.map (some w3.heap.size),.int .i64 (Nm.kid B.ns i j:Nat),.int .i64 16] wr (PsB B (number B.ns cm (Nm.kid B.ns i j) 16 of') (Numb B w3.heap.size (Nm.kid B.ns i j) cm wr))):=lh (number_at (most:=16) HSi.out.lw ok HSi.out.mp hob (by omega) HSi.out.ap (by rw [hcl];omega) (by omega) HQ.out)
       have HRj:Hid ((number B.ns cm (Nm.kid B.ns i j) 16 of' >>= fun a=>cols B.ns (((nd B.ns i).kids.drop (j+1)).map Int.toNat) a.2 a.1)=RR):=lh (by
        have:=HRi.out
        rw [DR.out j hjn,cols_cons] at this
        exact this)
       have jw:IntKind.i64.wrap ((j:Int)+1)=((j+1:Nat):Int):=by rw [IntWalk.i64_in _ (by omega)];omega
       clear HRi
       generalize hkq:Nm.kid B.ns i j=qj at *
       have HKQ:=lh hkq
       clear hkq
       cases hx:number B.ns cm qj 16 of' with
       | error x =>
        go_wp2_with fail
        (with_reducible refine (getb_no NU.out hx).mono ?_)
        rintro e w9 ⟨rfl,hB⟩
        simp only [wrongB]
        go_wp2
        exact ⟨rfl,psb_no (PX2.out.trans (bind_err (HRj.out.symm.trans (bind_err hx)))) hB⟩
       | ok a2 =>
        go_wp2_with fail
        (with_reducible refine (getb_ok NU.out hx).mono ?_)
        intro e w4 hn
        have he:e=.returned (.tuple #[]):=hn.1
        have ha2:a2.2=cm++[(nd B.ns qj).text]:=by
         obtain ⟨_,_,_,_,_,_,_,h2,_⟩:=hn
         exact h2
        have T4:=lh (HSi.out.numb ok hob (by omega) HQ.out hn hx)
        have HN:=lh ((bind_val hx).symm.trans HRj.out)
        subst he
        have HA2:=lh ha2
        clear hn hx NU HRj HSi ha2 kj hcl
        have hrow:=T4.out.row
        rw [HCL.out] at hrow
        obtain ⟨vp,vc,rfl⟩:=own_slice hrow
        clear hrow
        have SQ:Hid (∀W,Below w4.heap.size w4 W→W.cell? ⟨w3.heap.size+1,1,none⟩=some (.slice vp j vc)∧W.ownsRow w3.heap.size 9 1 (.slice vp j vc) j (strs cm)∧w3.heap.size≤W.heap.size∧W.frozen? ⟨w3.heap.size+1,1,none⟩=false):=lh (fun W hW=>by
         have T:=T4.out.on ok hW
         have hr:=T.row
         rw [HCL.out] at hr
         exact ⟨T.cell.2.1,hr,T.old.size,T.cell.2.2⟩)
        have a1:=(SQ.out _ (Below.refl _ _)).1
        have NM:Hid (∀W,Below w4.heap.size w4 W→Calls Tryz.prog 211 #[.pointer (some ⟨B.rb,0,none⟩),.int .i64 (qj:Nat)] W fun x W'=>x=.returned (.string (nd B.ns qj).text)∧Below W.heap.size W W'):=lh (fun W hW=>nameB_at (T4.out.on ok hW).lw ok HQ.out)
        have PV:Hid (∀W g5 cap5 w5,Below w4.heap.size w4 W→w5.ownsRow w3.heap.size 9 1 (.slice (some ⟨g5,0,none⟩) (j+1) cap5) (j+1) (strs cm++[.string (nd B.ns qj).text])→W.grownBy w5 (Value.slice vp j vc).ownBlock→Tl B w3 (rcells B (.slice tp h.tabs.length tc) pv (.slice cp h.tabs.length cc)) (nd B.ns i).text a2.1 a2.2 (cm++[(nd B.ns qj).text]) (.slice vp j vc) (.slice (some ⟨g5,0,none⟩) (j+1) cap5) w5):=lh (fun W g5 cap5 w5 hW h1 h2=>(T4.out.on ok hW).push ok hob hrbl (by rw [HCL.out];exact h1) h2)
        generalize hgt:(nd B.ns qj).text=tx at *
        have HGT:=lh hgt
        clear hgt
        go_wp2_with fail
        go_region_law
         (first
          | (refine step_append_lies _ (by rfl) (.tmp 42) (.tmp 46) 33 (by rfl) w3.heap.size 9 j0 _ 1 16 Tryz.underlying33 I0.out I1.out I2.out I3.out rfl (by decide) (.slice vp j vc) j (strs cm) (by rfl) (SQ.out _ (BB7.out.alloc BB7.out.size _)).2.1 ⟨w7.heap.size,0,none⟩ 1 1 [.string tx] (by rfl) (by rfl) (World.news_of_block (cs:=#[.string tx]) (t:=9) (fr:=(0,0)) (heap_alloc_new _ _)) (by simp [Value.oneCell']) (by decide) (by unfold maxLen;omega) (by omega) (SQ.out _ (BB7.out.alloc BB7.out.size _)).2.2.1 _ (by rfl) ?_;intro g5 cap5 w5 hown5 hgrow5 hat5 hlt5;have RV:=lh (PV.out _ g5 cap5 w5 (BB7.out.alloc BB7.out.size _) hown5 hgrow5);have RS:=lh (RV.out.setBox ok hob hrbl (.slice (some ⟨g5,0,none⟩) (j+1) cap5));have v1:=RV.out.cell.2.1;have z1:=RV.out.cell.2.2)
          | (rw [if_pos (by rfl)];go_simp;go_at_call 211;refine (NM.out _ ((Below.refl _ _).drew)).mono ?_;rintro e w7 ⟨rfl,hb7⟩;have BB7:=lh (((Below.refl _ w4).drew).trans hb7);have kp1:=(SQ.out _ BB7.out).1;have kp2:=(SQ.out _ (BB7.out.alloc BB7.out.size (.cells #[.string tx] 9))).1;(try go_wp2_with fail)))
        all_goals
         go_wp2
         go_roundw
         case rel=>exact ⟨j+1,a2.1,a2.2,_,by omega,rfl,by rw [HA2.out,List.length_append,HCL.out];rfl,HN,by have:=RS;rw [HA2.out] at this ⊢;exact this⟩
         case measure=>simp [intOf];omega
     · obtain rfl:j=kn:=by omega
       subst hcl
       have q1:¬ (cm.length:Int)<(cm.length:Int):=by omega
       have hnum:h.tnames.length≠64:=by
        have:=HX.out
        unfold number at this
        split at this
        · cases this
        · split at this
          · cases this
          · assumption
       have h64:h.tabs.length+1≤64:=by
        have:=R3.out.t64
        have h2:=HT.out
        have h3:=RH64.out
        omega
       obtain ⟨vp,vc,rfl⟩:=own_slice HSi.out.row
       have RA:=R3.out.old ok HSi.out.old HSi.out.lw
       have TT:Hid (Tail B { of:=of',tnames:=a.2,pnames:=h.pnames,tabs:=h.tabs++[⟨(nd B.ns i).text,cm⟩] } prs (tcv++[.slice vp cm.length vc]) (mt++[w3.heap.size]) pvv pv (rcells B (.slice tp h.tabs.length tc) pv (.slice cp h.tabs.length cc)) (.slice tp h.tabs.length tc) h.tabs.length (tblC h.tabs tcv) (.slice cp h.tabs.length cc) h.tabs.length (mt.map fun m=>.map (some m)) wr):=lh ⟨RA.rm.add (b:=w3.heap.size) hob (Nat.ne_of_gt R3.out.tmap.lt) (Nat.ne_of_gt R3.out.pmap.lt) hob HSi.out.mp HSi.out.row HSi.out.ap (by omega) h64,HSi.out.lw,RA.trow,RA.crow⟩
       have TL:Hid (tcv.length=h.tabs.length):=lh R3.out.tlen
       have HV:Hid (table B.ns i h=.ok { of:=of',tnames:=a.2,pnames:=h.pnames,tabs:=h.tabs++[⟨(nd B.ns i).text,cm⟩] }):=lh (by
        have:=HRi.out
        rw [DE.out] at this
        exact PX2.out.trans (bind_val (this.symm.trans rfl)))
       have BX:Hid (∀W,Below wr.heap.size wr W→W.cell? ⟨w3.heap.size+1,0,none⟩=some (.string (nd B.ns i).text)∧W.cell? ⟨w3.heap.size+1,1,none⟩=some (.slice vp cm.length vc)):=lh (fun W hW=>by
        have T:=HSi.out.on ok hW
        exact ⟨T.cell.1,T.cell.2.1⟩)
       generalize (nd B.ns i).text=nm at *
       have HL:Hid (tblC h.tabs tcv++[.string nm,.slice vp cm.length vc]=tblC (h.tabs++[⟨nm,cm⟩]) (tcv++[.slice vp cm.length vc])):=lh (tblC_snoc h.tabs tcv ⟨nm,cm⟩ _ TL.out).symm
       have HLN:Hid ((h.tabs++[(⟨nm,cm⟩:Tb)]).length=h.tabs.length+1):=lh (by simp)
       generalize h.tabs.length=n at *
       generalize hA:(Hd.mk of' a.2 h.pnames (h.tabs++[⟨nm,cm⟩]))=aH at *
       generalize htc:tcv++[Value.slice vp cm.length vc]=tcv' at *
       generalize hmc:mt++[w3.heap.size]=mt' at *
       generalize cm.length=cn at *
       generalize htl:tblC h.tabs tcv=tl at *
       generalize hcl2:(mt.map fun m=>Value.map (some m))=ml at *
       generalize w3.heap.size=mb at *
       obtain ⟨k0,K0,K1,K2,K3⟩:=info_pN infoT
       obtain ⟨l0,L0,L1,L2,L3⟩:=info_pN infoM
       have SQ:Hid (∀W,Below wr.heap.size wr W→W.cell? ⟨B.rb,1,none⟩=some (.slice tp n tc)∧W.ownsRow (B.ob+1) 84 2 (.slice tp n tc) n tl∧B.ob+1≤W.heap.size):=lh (fun W hW=>by
        have T:=TT.out.on ok hW
        have:=(Array.getElem?_eq_some_iff.1 T.lw.blk).1
        exact ⟨T.lw.cell 1 _ rfl,T.trow,by have:=ok.orb;omega⟩)
       have PV:Hid (∀W g5 cap5 w5,Below wr.heap.size wr W→w5.ownsRow (B.ob+1) 84 2 (.slice (some ⟨g5,0,none⟩) (n+1) cap5) (n+1) (tl++[.string nm,.slice vp cn vc])→W.grownBy w5 (Value.slice tp n tc).ownBlock→Tail B aH prs tcv' mt' pvv pv (rcells B (.slice tp n tc) pv (.slice cp n cc)) (.slice (some ⟨g5,0,none⟩) (n+1) cap5) (n+1) (tl++[.string nm,.slice vp cn vc]) (.slice cp n cc) n ml w5):=lh (fun W g5 cap5 w5 hW h1 h2=>(TT.out.on ok hW).pushT ok h1 h2)
       have BD:Hid (Below wr.heap.size wr (wr.alloc (.cells #[.string nm,.slice vp cn vc] 84)).drew):=lh (((Below.refl _ wr).alloc (Nat.le_refl _) _).drew)
       have c1:=(SQ.out _ (Below.refl _ _)).1
       have c2:=(SQ.out _ BD.out).1
       have c3:=(SQ.out _ ((Below.refl _ wr).alloc (Nat.le_refl _) (.cells #[.string nm,.slice vp cn vc] 84))).1
       have b0:=(BX.out _ (Below.refl _ _)).1
       have b1:=(BX.out _ (Below.refl _ _)).2
       clear HSi RA RH64 R3 HRi HX TL
       go_wp2_with fail
       go_region_law
        (refine step_append_lies _ (by rfl) (.tmp 55) (.tmp 57) 62 (by rfl) (B.ob+1) 84 k0 _ 2 40 Tryz.underlying62 K0 K1 K2 K3 rfl (by decide) (.slice tp n tc) n tl (by rfl) (SQ.out _ BD.out).2.1 ⟨wr.heap.size,0,none⟩ 1 1 [.string nm,.slice vp cn vc] (by rfl) (by rfl) (World.news_of_block (cs:=#[.string nm,.slice vp cn vc]) (t := 84) (fr:=(0,0)) (heap_alloc_new _ _)) (by simp [Value.oneCell']) (by decide) (by unfold maxLen;omega) (by omega) (SQ.out _ BD.out).2.2 _ (by rfl) ?_;intro g5 cap5 w5 hown5 hgrow5 hat5 hlt5;have RV:=lh (PV.out _ g5 cap5 w5 BD.out hown5 hgrow5);have RS:=lh (RV.out.setR ok 1 (.slice (some ⟨g5,0,none⟩) (n+1) cap5) (by decide) (by decide));have v1:=RV.out.lw.cell 1 _ rfl;have z1:=RV.out.lw.fz 1)
       all_goals
        have R6:Hid (Tail B aH prs tcv' mt' pvv pv (rcells B (.slice (some ⟨g5,0,none⟩) (n+1) cap5) pv (.slice cp n cc)) (.slice (some ⟨g5,0,none⟩) (n+1) cap5) (n+1) (tl++[.string nm,.slice vp cn vc]) (.slice cp n cc) n ml (w5.setCell ⟨B.rb,1,none⟩ (.slice (some ⟨g5,0,none⟩) (n+1) cap5))):=RS
        clear RS RV v1 z1 hown5 hgrow5 hat5 hlt5 SQ PV BD c1 c2 c3 b0 b1 K0 K1 K2 K3
        generalize World.setCell w5 ⟨B.rb,1,none⟩ (.slice (some ⟨g5,0,none⟩) (n+1) cap5)=w6 at *
        generalize Value.slice (some ⟨g5,0,none⟩) (n+1) cap5=tv1 at *
        have SQ:Hid (∀W,Below w6.heap.size w6 W→W.cell? ⟨B.rb,6,none⟩=some (.slice cp n cc)∧W.ownsRow (B.ob+1) 134 1 (.slice cp n cc) n ml∧B.ob+1≤W.heap.size):=lh (fun W hW=>by
         have T:=R6.out.on ok hW
         have:=(Array.getElem?_eq_some_iff.1 T.lw.blk).1
         exact ⟨T.lw.cell 6 _ rfl,T.crow,by have:=ok.orb;omega⟩)
        have PV:Hid (∀W g5 cap5 w5,Below w6.heap.size w6 W→w5.ownsRow (B.ob+1) 134 1 (.slice (some ⟨g5,0,none⟩) (n+1) cap5) (n+1) (ml++[.map (some mb)])→W.grownBy w5 (Value.slice cp n cc).ownBlock→Tail B aH prs tcv' mt' pvv pv (rcells B tv1 pv (.slice cp n cc)) tv1 (n+1) (tl++[.string nm,.slice vp cn vc]) (.slice (some ⟨g5,0,none⟩) (n+1) cap5) (n+1) (ml++[.map (some mb)]) w5):=lh (fun W g5 cap5 w5 hW h1 h2=>(R6.out.on ok hW).pushC ok h1 h2)
        have BD:Hid (Below w6.heap.size w6 (w6.alloc (.cells #[.map (some mb)] 134))):=lh ((Below.refl _ w6).alloc (Nat.le_refl _) _)
        have c1:=(SQ.out _ (Below.refl _ _)).1
        have c2:=(SQ.out _ BD.out).1
        go_wp2_with (at_builtin;refine wpList_append_lies _ rfl (.tmp 66) (.tmp 68) 135 rfl (B.ob+1) 134 l0 _ 1 8 Tryz.underlying135 L0 L1 L2 L3 rfl (by decide) (.slice cp n cc) n ml rfl (SQ.out _ BD.out).2.1 ⟨w6.heap.size,0,none⟩ 1 1 [.map (some mb)] rfl rfl (World.news_of_block (cs:=#[.map (some mb)]) (t := 134) (fr:=(0,0)) (heap_alloc_new _ _)) (by simp [Value.oneCell']) (by decide) (by unfold maxLen;omega) (by omega) (SQ.out _ BD.out).2.2 _ rfl ?_;intro g7 cap7 w7 hown7 hgrow7 hat7 hlt7;have RV:=lh (PV.out _ g7 cap7 w7 BD.out hown7 hgrow7);have RS:=lh (RV.out.setR ok 6 (.slice (some ⟨g7,0,none⟩) (n+1) cap7) (by decide) (by decide));have v1:=RV.out.lw.cell 6 _ rfl;have z1:=RV.out.lw.fz 6)
        all_goals
         have R7:Hid (Tail B aH prs tcv' mt' pvv pv (rcells B tv1 pv (.slice (some ⟨g7,0,none⟩) (n+1) cap7)) tv1 (n+1) (tl++[.string nm,.slice vp cn vc]) (.slice (some ⟨g7,0,none⟩) (n+1) cap7) (n+1) (ml++[.map (some mb)]) (w7.setCell ⟨B.rb,6,none⟩ (.slice (some ⟨g7,0,none⟩) (n+1) cap7))):=RS
         have HF:=lh (R7.out.rh (by rw [← hA];exact HLN.out.symm) (by rw [HL.out,← hA]) (by rw [← hmc,← hcl2];simp))
         go_wp2
         simp [bodyPost,results,Tryz.results140,go_sem]
         exact psb_ok HV.out ⟨rfl,_,_,_,_,HF.out⟩
end
end Nm
end Go.Proofs.YthdioipfdbbmmaaGreatDoor
