/- Contracts. -/
import Derived.Test.YthdioipfdbbmmaaGreatDoorKah
import Derived.Test.YthdioipfdbbmmaaGreatDoorKan
import Derived.Test.YthdioipfdbbmmaaGreatDoorKax
import Derived.Deep.RegionHeld3
import Derived.Deep.RegionWith
set_option linter.all false
set_option maxRecDepth 1000000
set_option maxHeartbeats 16000000
namespace Go.Proofs.YthdioipfdbbmmaaGreatDoor
namespace Nm
open Go.RowKit Go.Maps Tr
section
variable {C:Cx}{pb:Nat}{s:St}{pile:List Int}{ms:List (Nat × Bool)}{vv bv pv:Value}{cs:Array Value}{w:World}
theorem Lo.kidsRow {of:List Int}(h:Lo C of w)(ok:CxOk C){i:Nat}(hi:i<C.nl):IntsW C.Wn.heap.size w (.slice (C.kp i) (nd C.ns i).kids.length (C.kc i)) (nd C.ns i).kids:=IntsW.below h.bn (IntsW.of_iv (ok.node i hi).iv)
theorem CxOk.kidsFew (ok:CxOk C){i:Nat}(hi:i<C.nl):(nd C.ns i).kids.length≤70000:=by
 have h2:=ok.few
 have h3:=ok.rt.sz.chain i (by rw [ok.nslen];exact hi)
 have h4:=ok.rt.for_le _ _ _ (chain_for _ _ _ h3) (by rw [ok.nslen];omega)
 have h5:(nd C.ns i).kids.length=(kidsAt C.ns i).length:=rfl
 have h6:=ok.nslen
 omega
theorem enter_at (h:Rd C pb s pile ms vv bv pv (C.cells vv bv pv) w)(ok:CxOk C){i:Nat}(hi:i<C.nl)(hp:pile.length≤900000):Calls Tryz.prog 248 #[.pointer (some ⟨pb,0,none⟩),.int .i64 i] w
 fun e w'=>e=.returned (.tuple #[])∧∃pv',Rd C pb s ((nd C.ns i).kids++0::pile) ms vv bv pv' (C.cells vv bv pv') w':=by
 obtain ⟨j0,J0,J1,J2,J3⟩:=info_pN infoN
 obtain ⟨vg,vq,rfl⟩:=own_slice h.pile
 obtain ⟨pn,hpn⟩:∃pn,pile.length=pn:=⟨_,rfl⟩
 have HPN:=lh hpn
 have hp0:w.ownsRow C.W.heap.size 3 1 (.slice vg pn vq) pn (pileC pile):=by have:=h.pile;rw [hpn] at this;exact this
 have hpa:(w.alloc (.cells #[.int .i64 0] 3)).ownsRow C.W.heap.size 3 1 (.slice vg pn vq) pn (pileC pile):=hp0.alloc _
 have hsa:C.W.heap.size≤(w.alloc (.cells #[.int .i64 0] 3)).heap.size:=Nat.le_trans h.lo.sz (by simp)
 rw [hpn] at hp h
 have p3:w.cell? ⟨pb,3,none⟩=some (.slice vg pn vq):=h.ccell 3 _ rfl
 have HS:=lh h
 have HPA:=lh hpa
 have KF:=ok.kidsFew hi
 clear h hpn hp0 hpa
 go_enter Tryz.func248,Tryz.ntmps248
 go_wp2_with (refine wpList_append_lies _ rfl (.tmp 8) (.tmp 9) 32 rfl C.W.heap.size 3 j0 _ 1 8 Tryz.underlying32 J0 J1 J2 J3 rfl (by decide) (.slice vg pn vq) pn (pileC pile) rfl HPA.out ⟨w.heap.size,0,none⟩ 1 1 [.int .i64 0] rfl rfl (World.news_of_block (cs:=#[.int .i64 0]) (t:=3) (fr:=(0,0)) (heap_alloc_new _ _)) (by simp [Value.oneCell']) (by decide) (by unfold maxLen;omega) (by omega) hsa _ rfl ?_;intro g5 cap5 w5 hown5 hgrow5 hat5 hlt5;have RV:=lh (Rd.pushItem (x:=0) (HS.out.alloc ok _) ok (by rw [HPN.out];exact hown5) hgrow5);have RS:=lh (RV.out.cell ok 3 (.slice (some ⟨g5,0,none⟩) (pn+1) cap5));have v3:w5.cell? ⟨pb,3,none⟩=some (.slice vg pn vq):=RV.out.ccell 3 _ rfl;have z3:=RV.out.cfz 3;have p0:(w5.setCell ⟨pb,3,none⟩ (.slice (some ⟨g5,0,none⟩) (pn+1) cap5)).cell? ⟨pb,0,none⟩=some (.pointer (some ⟨C.rb,0,none⟩)):=RS.out.ccell 0 _ rfl;clear hown5 hgrow5 hat5 hlt5)
 have RS2:Hid (Rd C pb s (0::pile) ms vv bv (.slice (some ⟨g5,0,none⟩) (pn+1) cap5) (C.cells vv bv (.slice (some ⟨g5,0,none⟩) (pn+1) cap5)) (w5.setCell ⟨pb,3,none⟩ (.slice (some ⟨g5,0,none⟩) (pn+1) cap5))):=RS
 have ND:=lh (node_at RS2.out.lo ok hi)
 have fl:=nd_f4
 unfold nodeV at ND
 clear RV RS v3 z3
 go_wp2_with fail
 (with_reducible refine ND.out.mono ?_)
 rintro e w6 ⟨rfl,hb⟩
 have R6:=lh (RS2.out.on ok hb)
 have NX:=lh (next_at R6.out ok (C.kp i) (nd C.ns i).kids.length (C.kc i) (nd C.ns i).kids KF (by rw [List.length_cons,HPN.out];omega) (R6.out.lo.kidsRow ok hi))
 clear hb ND RS2
 go_wp2_with fail
 (with_reducible refine NX.out.mono ?_)
 rintro e w7 ⟨rfl,hR⟩
 have RF:=lh hR
 clear hR NX
 go_wp2
 simp [bodyPost,results,Tryz.results248,go_sem]
 exact RF.out
end
end Nm
namespace Nm
open Go.RowKit Go.Maps Tr
section
variable {C:Cx}{pb:Nat}{s:St}{pile:List Int}{ms:List (Nat × Bool)}{vv bv pv:Value}{cs:Array Value}{w:World}
theorem open_at {m:Nat × Bool}{r:List (Nat × Bool)}(h:Rd C pb s pile (m::r) vv bv pv (C.cells vv bv pv) w)(ok:CxOk C)(hr:r.length≤900000):Calls Tryz.prog 272 #[.pointer (some ⟨pb,0,none⟩)] w
 fun e w'=>e=.returned (.tuple #[])∧∃bv',Rd C pb { s with envs:=s.there::s.envs } pile ((m.1,false)::m::r) vv bv' pv (C.cells vv bv' pv) w':=by
 obtain ⟨j0,J0,J1,J2,J3⟩:=info_pN infoB
 obtain ⟨bp,bc,rfl⟩:=own_slice h.blocks
 obtain ⟨bn,hbn⟩:∃bn,(m::r).length=bn:=⟨_,rfl⟩
 have HBN:=lh hbn
 have hb9:bn≤900001:=by rw [← hbn,List.length_cons];omega
 rw [hbn] at h
 have a0:w.cell? ⟨pb,2,none⟩=some (.slice bp bn bc):=h.ccell 2 _ rfl
 have SQ:Hid (∀W,Below w.heap.size w W→W.cell? ⟨pb,2,none⟩=some (.slice bp bn bc)∧W.ownsRow C.W.heap.size 273 2 (.slice bp bn bc) bn (blkC (m::r))∧C.W.heap.size≤W.heap.size):=lh (fun W hW=>by
  have RW:=h.on ok hW
  have hv:W.ownsRow C.W.heap.size 273 2 (.slice bp bn bc) (m::r).length (blkC (m::r)):=RW.blocks
  rw [hbn] at hv
  exact ⟨RW.ccell 2 _ rfl,hv,RW.lo.sz⟩)
 have TH:=lh (fun W (hW:Below w.heap.size w W)=>there_at (h.on ok hW))
 have PV:Hid (∀W g5 cap5 w5,Below w.heap.size w W→w5.ownsRow C.W.heap.size 273 2 (.slice (some ⟨g5,0,none⟩) (bn+1) cap5) (bn+1) (blkC (m::r)++[.map (some m.1),.bool false])→W.grownBy w5 (Value.slice bp bn bc).ownBlock→Rd C pb { s with envs:=s.there::s.envs } pile ((m.1,false)::m::r) vv (.slice (some ⟨g5,0,none⟩) (bn+1) cap5) pv (C.cells vv (.slice bp bn bc) pv) w5):=lh (fun W g5 cap5 w5 hW h1 h2=>by
  have RW:=h.on ok hW
  exact Rd.pushBlock (m:=m.1) (o:=m.2) RW ok rfl (by rw [hbn];exact h1) h2)
 clear h hbn
 go_enter Tryz.func272,Tryz.ntmps272
 go_wp2_with fail
 go_region_law
  (first
   | (refine step_append_lies _ (by rfl) (.tmp 6) (.tmp 10) 274 (by rfl) C.W.heap.size 273 j0 _ 2 16 Tryz.underlying274 J0 J1 J2 J3 rfl (by decide) (.slice bp bn bc) bn (blkC (m::r)) (by rfl) (SQ.out _ (BB7.out.alloc BB7.out.size _)).2.1 ⟨w7.heap.size,0,none⟩ 1 1 [.map (some m.1),.bool false] (by rfl) (by rfl) (World.news_of_block (cs:=#[.map (some m.1),.bool false]) (t := 273) (fr:=(0,0)) (heap_alloc_new _ _)) (by simp [Value.oneCell']) (by decide) (by unfold maxLen;omega) (by omega) (SQ.out _ (BB7.out.alloc BB7.out.size _)).2.2 _ (by rfl) ?_;intro g5 cap5 w5 hown5 hgrow5 hat5 hlt5;have RV:=lh (PV.out _ g5 cap5 w5 (BB7.out.alloc BB7.out.size _) hown5 hgrow5);have RS:=lh (RV.out.cell ok 2 (.slice (some ⟨g5,0,none⟩) (bn+1) cap5));have v1:w5.cell? ⟨pb,2,none⟩=some (.slice bp bn bc):=RV.out.ccell 2 _ rfl;have z1:=RV.out.cfz 2)
   | (rw [if_pos (by rfl)];go_simp;go_at_call 246;refine (TH.out _ ((Below.refl _ _).drew)).mono ?_;rintro e w7 ⟨rfl,hb7⟩;have BB7:=lh (((Below.refl _ w).drew).trans hb7);have kp1:=(SQ.out _ BB7.out).1;have kp2:=(SQ.out _ (BB7.out.alloc BB7.out.size (.cells #[.map (some m.1),.bool false] 273))).1;(try go_wp2_with fail)))
 all_goals
  go_wp2
  simp [bodyPost,results,Tryz.results272,go_sem]
  exact ⟨_,RS.out⟩
theorem kids_pile (ns:List Nd){S:Nat→Nat}(h:Rt ns S){i:Nat}(hi:i<ns.length)(r:List Item):((kidsOf ns i++r).map itI)=(nd ns i).kids++r.map itI:=by
 rw [List.map_append]
 congr 1
 unfold kidsOf
 rw [List.map_map]
 refine (List.map_congr_left (fun k hk=>?_)).trans (List.map_id _)
 obtain ⟨j,rfl,_⟩:=h.kids hi hk
 simp [itI]
theorem loop_at {m:Nat × Bool}{r:List (Nat × Bool)}(h:Rd C pb s pile (m::r) vv bv pv (C.cells vv bv pv) w)(hs:StOk s)(ok:CxOk C){i:Nat}(hi:i<C.nl)(hk:(nd C.ns i).kind=15)(hr:r.length≤800000)(hp:pile.length≤800000):Calls Tryz.prog 280 #[.pointer (some ⟨pb,0,none⟩),.int .i64 i] w
 (Pst C (mustBeNew C.ns i s >>= fun s1=>declare C.ns i true { s1 with envs:=s1.there::s1.envs }) fun s' e w'=>e=.returned (.tuple #[])∧StOk s'∧∃mo vv' bv' pv',Rd C pb s' ((nd C.ns (Nm.kid C.ns i 2)).kids++0::pile) ((mo,true)::m::r) vv' bv' pv' (C.cells vv' bv' pv') w'):=by
 have hri:Tr.isR (kindsOf C.ns (nd C.ns i)) [21,21,6]=true:=by
  have:=ok.rt.shape i (by rw [ok.nslen];exact hi)
  rw [hk] at this
  simpa [kidsR] using this
 have hkl:(nd C.ns i).kids.length=3:=(ok.rt.want (by rw [ok.nslen];exact hi) hri).1
 obtain ⟨kb,ko,hkp,hkb,hkc,hcell⟩:=h.lo.kid ok hi (j:=2) (by omega)
 have hk2:=(hcell 2 (by omega)).2.1
 have KC:Hid (∀W,Below C.Wn.heap.size C.Wn W→W.cell? ⟨kb,ko+2,none⟩=some (.int .i64 (Nm.kid C.ns i 2:Nat))):=lh (fun W hW=>by
  have hc:=(hcell 2 (by omega)).1
  rw [h.lo.bn.cell (p:=⟨kb,ko+2,none⟩) hkb] at hc
  rw [hW.cell (p:=⟨kb,ko+2,none⟩) hkb]
  exact hc)
 have MB:=lh (mustBeNew_at h ok hi)
 have HS:=lh h
 have HST:=lh hs
 clear hri hcell h hs
 cases hx:mustBeNew C.ns i s with
 | error x =>
  go_enter Tryz.func280,Tryz.ntmps280
  go_wp2_with fail
  (with_reducible refine (get_no MB.out hx).mono ?_)
  rintro e w9 ⟨rfl,hB⟩
  simp only [wrongV]
  go_wp2
  exact ⟨rfl,pst_no rfl hB⟩
 | ok s1 =>
  have hnew:look s.there (nd C.ns i).text=none:=by
   unfold mustBeNew at hx
   split at hx
   · cases hx
   · rename_i h1
     cases hl:look s.there (nd C.ns i).text with
     | none=>rfl
     | some x=>rw [hl] at h1;simp at h1
  go_enter Tryz.func280,Tryz.ntmps280
  go_wp2_with fail
  (with_reducible refine (get_ok MB.out hx).mono ?_)
  rintro e w1 ⟨rfl,hss,hb⟩
  subst hss
  have R1:=lh (HS.out.on ok hb)
  have OP:=lh (open_at R1.out ok (by omega))
  clear hb MB HS
  go_wp2_with fail
  (with_reducible refine OP.out.mono ?_)
  rintro e w2 ⟨rfl,bv2,hR2⟩
  have R2:=lh hR2
  have ST2:StOk { s1 with envs:=s1.there::s1.envs }:=⟨HST.out.vfew,fun e he=>by
   rcases List.mem_cons.1 he with rfl|he
   · cases h:s1.envs with
     | nil=>simp [St.there,h]
     | cons a b=>rw [St.there_mem h];exact HST.out.efew a (by simp [h])
   · exact HST.out.efew e he⟩
  have DC:=lh (declare_at R2.out ST2 ok hi true hnew)
  clear hR2 OP R1 hx
  have PX:(Except.ok s1 >>= fun s1=>declare C.ns i true { s1 with envs:=s1.there::s1.envs }:NE St)=declare C.ns i true { s1 with envs:=s1.there::s1.envs }:=rfl
  cases hy:declare C.ns i true { s1 with envs:=s1.there::s1.envs } with
  | error x =>
   go_wp2_with fail
   (with_reducible refine (get_no DC.out hy).mono ?_)
   rintro e w9 ⟨rfl,hB⟩
   simp only [wrongV]
   go_wp2
   exact ⟨rfl,pst_no (PX.trans hy) hB⟩
  | ok s3 =>
   have HY:=lh (PX.trans hy)
   go_wp2_with fail
   (with_reducible refine (get_ok DC.out hy).mono ?_)
   rintro e w3 ⟨rfl,hST3,mo,vv3,hR3⟩
   have R3:=lh hR3
   have HS3:=lh hST3
   have cp:=hR3.pcells.1
   have ND:=lh (node_at hR3.lo ok hi)
   have fl:=nd_f4
   unfold nodeV at ND
   rw [hkp,hkl] at ND
   clear hR3 hST3 DC R2 hy PX
   go_wp2_with fail
   (with_reducible refine ND.out.mono ?_)
   rintro e w4 ⟨rfl,hb⟩
   have R4:=lh (R3.out.on ok hb)
   have kc:=KC.out w4 R4.out.lo.bn
   have EN:=lh (enter_at R4.out ok hk2 (by omega))
   generalize hq:Nm.kid C.ns i 2=q at *
   clear hb ND R3
   go_wp2_with fail
   (with_reducible refine EN.out.mono ?_)
   rintro e w5 ⟨rfl,pv5,hR5⟩
   have R5:=lh hR5
   clear hR5 EN
   go_wp2
   simp [bodyPost,results,Tryz.results280,go_sem]
   exact pst_ok HY.out ⟨rfl,HS3.out,mo,vv3,_,_,by rw [hq];exact R5.out⟩
end
end Nm
namespace Nm
open Go.RowKit Go.Maps Tr
theorem put_same {ns:List Nd}{tabs:List Tb}{i:Nat}{s t:St}(h:put ns tabs i s=.ok t):SameV s t:=by
 unfold put at h
 obtain ⟨⟨t1,s1⟩,h1,h⟩:=bind_ok h
 simp only at h
 split at h
 · cases h
 · obtain ⟨⟨t2,s2⟩,h2,h⟩:=bind_ok h
   exact (tableOf_same h1).trans ((row_same h2).trans ((show SameV s2 (s2.set i t2) from ⟨rfl,rfl⟩).trans (exprs_same _ h)))
section
variable {C:Cx}{pb:Nat}{s:St}{pile:List Int}{ms:List (Nat × Bool)}{vv bv pv:Value}{cs:Array Value}{w:World}
theorem stmt_out {more:List Item}{s':St}{e:Ending}(he:e=.returned (.tuple #[]))(hs:StOk s')(h:Rd C pb s' (more.map itI++pile) ms vv bv pv (C.cells vv bv pv) w):e=.returned (.tuple #[])∧RdE C pb s' (more.map itI++pile) w:=⟨he,hs,ms,vv,bv,pv,h⟩
theorem stmt10_at {m:Nat × Bool}{r:List (Nat × Bool)}(h:Rd C pb s pile (m::r) vv bv pv (C.cells vv bv pv) w)(hs:StOk s)(ok:CxOk C){i:Nat}(hi:i<C.nl)(hk:(nd C.ns i).kind=10)(hr:r.length≤700000)(hp:pile.length≤700000):Calls Tryz.prog 249 #[.pointer (some ⟨pb,0,none⟩),.int .i64 i] w
 (Pst C (statement C.ns C.tabs i s) fun a e w'=>e=.returned (.tuple #[])∧RdE C pb a.2 (a.1.map itI++pile) w'):=by
 have PX:statement C.ns C.tabs i s=(row C.ns C.tabs (Nm.kid C.ns i 0) s >>= fun a=>.ok ([],a.2)):=by
  unfold statement
  rw [if_neg (show ¬ (nd C.ns i).kind=6 by rw [hk];decide)]
  rw [if_neg (show ¬ (nd C.ns i).kind=7 by rw [hk];decide)]
  rw [if_neg (show ¬ (nd C.ns i).kind=8 by rw [hk];decide)]
  rw [if_neg (show ¬ (nd C.ns i).kind=9 by rw [hk];decide)]
  exact if_pos hk
 have PXh:=lh PX
 have hin:i<C.ns.length:=by rw [ok.nslen];exact hi
 have hri:Tr.isR (kindsOf C.ns (nd C.ns i)) [20]=true:=by
  have:=ok.rt.shape i hin
  rw [hk] at this
  simpa [kidsR] using this
 obtain ⟨hkl,hkk⟩:=ok.rt.want hin hri
 have hkl:(nd C.ns i).kids.length=1:=hkl
 obtain ⟨kb,ko,hkp,hkb,hkc,hcell⟩:=h.lo.kid ok hi (j:=0) (by omega)
 have hk0:=(hcell 0 (by omega)).2.1
 have KC0:Hid (∀W,Below C.Wn.heap.size C.Wn W→W.cell? ⟨kb,ko,none⟩=some (.int .i64 (Nm.kid C.ns i 0:Nat))):=lh (fun W hW=>by
  have hc:=(hcell 0 (by omega)).1
  rw [h.lo.bn.cell (p:=⟨kb,ko+0,none⟩) hkb] at hc
  rw [hW.cell (p:=⟨kb,ko,none⟩) hkb]
  exact hc)
 have ND:=lh (node_at h.lo ok hi)
 have cp:=h.pcells.1
 have HS:=lh h
 have HST:=lh hs
 unfold nodeV at ND
 rw [hk,hkp] at ND
 have hkk0:(nd C.ns (Nm.kid C.ns i 0)).kind=20:=by simpa using (hkk 0 (by simp)).2.2.2
 clear hcell hri hkk
 clear h hs PX
 go_enter Tryz.func249,Tryz.ntmps249
 go_wp2_with fail
 (with_reducible refine ND.out.mono ?_)
 rintro e w1 ⟨rfl,hb⟩
 have R1:=lh ((HS.out.on ok hb).alloc ok (.cells #[.int .u8 10,.int .i64 (nd C.ns i).at',.string (nd C.ns i).text,.int .i64 (nd C.ns i).n,.slice (some ⟨kb,ko,none⟩) (nd C.ns i).kids.length (C.kc i)] 54))
 clear hb ND HS cp
 rw [hkl] at R1
 rw [hkl] at *
 have kc0:=KC0.out _ R1.out.lo.bn
 have RW:=lh (row_at R1.out ok hk0 hkk0)
 generalize hq0:Nm.kid C.ns i 0=q0 at *
 cases hx:row C.ns C.tabs q0 s with
 | error x =>
  go_wp2_with fail
  (with_reducible refine (get_no RW.out hx).mono ?_)
  rintro e w9 ⟨rfl,hB⟩
  simp only [wrongV]
  go_wp2
  exact ⟨rfl,pst_no (PXh.out.trans (bind_err hx)) hB⟩
 | ok a =>
  go_wp2_with fail
  (with_reducible refine (get_ok RW.out hx).mono ?_)
  rintro e w3 ⟨rfl,hR3⟩
  have HF:=lh (pst_ok (C:=C) (ok:=fun a e w'=>e=.returned (.tuple #[])∧RdE C pb a.2 (a.1.map itI++pile) w') (PXh.out.trans (bind_val hx)) (stmt_out (more:=[]) rfl ((row_same (x:=a.1) (t:=a.2) hx).ok HST.out) hR3))
  clear hR3
  go_wp2
  simp [bodyPost,results,Tryz.results249,go_sem]
  exact HF.out
theorem stmt17_at {m:Nat × Bool}{r:List (Nat × Bool)}(h:Rd C pb s pile (m::r) vv bv pv (C.cells vv bv pv) w)(hs:StOk s)(ok:CxOk C){i:Nat}(hi:i<C.nl)(hk:(nd C.ns i).kind=17)(hr:r.length≤700000)(hp:pile.length≤700000):Calls Tryz.prog 249 #[.pointer (some ⟨pb,0,none⟩),.int .i64 i] w
 (Pst C (statement C.ns C.tabs i s) fun a e w'=>e=.returned (.tuple #[])∧RdE C pb a.2 (a.1.map itI++pile) w'):=by
 have PX:statement C.ns C.tabs i s=(exprAt C.ns (Nm.kid C.ns i 0) s >>= fun s1=>.ok ([],s1)):=by
  unfold statement
  rw [if_neg (show ¬ (nd C.ns i).kind=6 by rw [hk];decide)]
  rw [if_neg (show ¬ (nd C.ns i).kind=7 by rw [hk];decide)]
  rw [if_neg (show ¬ (nd C.ns i).kind=8 by rw [hk];decide)]
  rw [if_neg (show ¬ (nd C.ns i).kind=9 by rw [hk];decide)]
  rw [if_neg (show ¬ (nd C.ns i).kind=10 by rw [hk];decide)]
  rw [if_neg (show ¬ (nd C.ns i).kind=11 by rw [hk];decide)]
  rw [if_neg (show ¬ (nd C.ns i).kind=12 by rw [hk];decide)]
  rw [if_neg (show ¬ (nd C.ns i).kind=13 by rw [hk];decide)]
  rw [if_neg (show ¬ (nd C.ns i).kind=14 by rw [hk];decide)]
  rw [if_neg (show ¬ (nd C.ns i).kind=15 by rw [hk];decide)]
  rw [if_neg (show ¬ (nd C.ns i).kind=16 by rw [hk];decide)]
  exact if_pos hk
 have PXh:=lh PX
 have hin:i<C.ns.length:=by rw [ok.nslen];exact hi
 have hri:Tr.isR (kindsOf C.ns (nd C.ns i)) [0]=true:=by
  have:=ok.rt.shape i hin
  rw [hk] at this
  simpa [kidsR] using this
 obtain ⟨hkl,hkk⟩:=ok.rt.want hin hri
 have hkl:(nd C.ns i).kids.length=1:=hkl
 obtain ⟨kb,ko,hkp,hkb,hkc,hcell⟩:=h.lo.kid ok hi (j:=0) (by omega)
 have hk0:=(hcell 0 (by omega)).2.1
 have KC0:Hid (∀W,Below C.Wn.heap.size C.Wn W→W.cell? ⟨kb,ko,none⟩=some (.int .i64 (Nm.kid C.ns i 0:Nat))):=lh (fun W hW=>by
  have hc:=(hcell 0 (by omega)).1
  rw [h.lo.bn.cell (p:=⟨kb,ko+0,none⟩) hkb] at hc
  rw [hW.cell (p:=⟨kb,ko,none⟩) hkb]
  exact hc)
 have ND:=lh (node_at h.lo ok hi)
 have cp:=h.pcells.1
 have HS:=lh h
 have HST:=lh hs
 unfold nodeV at ND
 rw [hk,hkp] at ND
 clear hcell hri hkk
 clear h hs PX
 go_enter Tryz.func249,Tryz.ntmps249
 go_wp2_with fail
 (with_reducible refine ND.out.mono ?_)
 rintro e w1 ⟨rfl,hb⟩
 have R1:=lh ((HS.out.on ok hb).alloc ok (.cells #[.int .u8 17,.int .i64 (nd C.ns i).at',.string (nd C.ns i).text,.int .i64 (nd C.ns i).n,.slice (some ⟨kb,ko,none⟩) (nd C.ns i).kids.length (C.kc i)] 54))
 clear hb ND HS cp
 rw [hkl] at *
 have kc0:=KC0.out _ R1.out.lo.bn
 have EX:=lh (expr_at R1.out ok hk0)
 generalize hq0:Nm.kid C.ns i 0=q0 at *
 cases hx:exprAt C.ns q0 s with
 | error x =>
  go_wp2_with fail
  (with_reducible refine (get_no EX.out hx).mono ?_)
  rintro e w9 ⟨rfl,hB⟩
  simp only [wrongV]
  go_wp2
  exact ⟨rfl,pst_no (PXh.out.trans (bind_err hx)) hB⟩
 | ok s1 =>
  go_wp2_with fail
  (with_reducible refine (get_ok EX.out hx).mono ?_)
  rintro e w3 ⟨rfl,hR3⟩
  have HF:=lh (pst_ok (C:=C) (ok:=fun a e w'=>e=.returned (.tuple #[])∧RdE C pb a.2 (a.1.map itI++pile) w') (PXh.out.trans (bind_val hx)) (stmt_out (more:=[]) rfl ((expr_same _ _ _ hx).ok HST.out) hR3))
  clear hR3
  go_wp2
  simp [bodyPost,results,Tryz.results249,go_sem]
  exact HF.out
theorem stmt16_at {m:Nat × Bool}{r:List (Nat × Bool)}(h:Rd C pb s pile (m::r) vv bv pv (C.cells vv bv pv) w)(hs:StOk s)(ok:CxOk C){i:Nat}(hi:i<C.nl)(hk:(nd C.ns i).kind=16)(hr:r.length≤700000)(hp:pile.length≤700000):Calls Tryz.prog 249 #[.pointer (some ⟨pb,0,none⟩),.int .i64 i] w
 (Pst C (statement C.ns C.tabs i s) fun a e w'=>e=.returned (.tuple #[])∧RdE C pb a.2 (a.1.map itI++pile) w'):=by
 have PX:statement C.ns C.tabs i s=(exprAt C.ns (Nm.kid C.ns i 0) s >>= fun s1=>(assign C.ns i s1 >>= fun s2=>.ok ([],s2))):=by
  unfold statement
  rw [if_neg (show ¬ (nd C.ns i).kind=6 by rw [hk];decide)]
  rw [if_neg (show ¬ (nd C.ns i).kind=7 by rw [hk];decide)]
  rw [if_neg (show ¬ (nd C.ns i).kind=8 by rw [hk];decide)]
  rw [if_neg (show ¬ (nd C.ns i).kind=9 by rw [hk];decide)]
  rw [if_neg (show ¬ (nd C.ns i).kind=10 by rw [hk];decide)]
  rw [if_neg (show ¬ (nd C.ns i).kind=11 by rw [hk];decide)]
  rw [if_neg (show ¬ (nd C.ns i).kind=12 by rw [hk];decide)]
  rw [if_neg (show ¬ (nd C.ns i).kind=13 by rw [hk];decide)]
  rw [if_neg (show ¬ (nd C.ns i).kind=14 by rw [hk];decide)]
  rw [if_neg (show ¬ (nd C.ns i).kind=15 by rw [hk];decide)]
  exact if_pos hk
 have PXh:=lh PX
 have hin:i<C.ns.length:=by rw [ok.nslen];exact hi
 have hri:Tr.isR (kindsOf C.ns (nd C.ns i)) [0]=true:=by
  have:=ok.rt.shape i hin
  rw [hk] at this
  simpa [kidsR] using this
 obtain ⟨hkl,hkk⟩:=ok.rt.want hin hri
 have hkl:(nd C.ns i).kids.length=1:=hkl
 obtain ⟨kb,ko,hkp,hkb,hkc,hcell⟩:=h.lo.kid ok hi (j:=0) (by omega)
 have hk0:=(hcell 0 (by omega)).2.1
 have KC0:Hid (∀W,Below C.Wn.heap.size C.Wn W→W.cell? ⟨kb,ko,none⟩=some (.int .i64 (Nm.kid C.ns i 0:Nat))):=lh (fun W hW=>by
  have hc:=(hcell 0 (by omega)).1
  rw [h.lo.bn.cell (p:=⟨kb,ko+0,none⟩) hkb] at hc
  rw [hW.cell (p:=⟨kb,ko,none⟩) hkb]
  exact hc)
 have ND:=lh (node_at h.lo ok hi)
 have cp:=h.pcells.1
 have HS:=lh h
 have HST:=lh hs
 unfold nodeV at ND
 rw [hk,hkp] at ND
 clear hcell hri hkk
 clear h hs PX
 go_enter Tryz.func249,Tryz.ntmps249
 go_wp2_with fail
 (with_reducible refine ND.out.mono ?_)
 rintro e w1 ⟨rfl,hb⟩
 have R1:=lh ((HS.out.on ok hb).alloc ok (.cells #[.int .u8 16,.int .i64 (nd C.ns i).at',.string (nd C.ns i).text,.int .i64 (nd C.ns i).n,.slice (some ⟨kb,ko,none⟩) (nd C.ns i).kids.length (C.kc i)] 54))
 clear hb ND HS cp
 rw [hkl] at *
 have kc0:=KC0.out _ R1.out.lo.bn
 have EX:=lh (expr_at R1.out ok hk0)
 generalize hq0:Nm.kid C.ns i 0=q0 at *
 cases hx:exprAt C.ns q0 s with
 | error x =>
  go_wp2_with fail
  (with_reducible refine (get_no EX.out hx).mono ?_)
  rintro e w9 ⟨rfl,hB⟩
  simp only [wrongV]
  go_wp2
  exact ⟨rfl,pst_no (PXh.out.trans (bind_err hx)) hB⟩
 | ok s1 =>
  go_wp2_with fail
  (with_reducible refine (get_ok EX.out hx).mono ?_)
  rintro e w3 ⟨rfl,hR3⟩
  have R3:=lh hR3
  have ST3:=(expr_same _ _ _ hx).ok HST.out
  have AS:=lh (assign_at hR3 ST3 ok hi)
  have PX3:=lh (PXh.out.trans (bind_val hx))
  clear hR3 hx EX R1 PXh
  cases hx:assign C.ns i s1 with
  | error x =>
   go_wp2_with fail
   (with_reducible refine (get_no AS.out hx).mono ?_)
   rintro e w9 ⟨rfl,hB⟩
   simp only [wrongV]
   go_wp2
   exact ⟨rfl,pst_no (PX3.out.trans (bind_err hx)) hB⟩
  | ok s2 =>
   go_wp2_with fail
   (with_reducible refine (get_ok AS.out hx).mono ?_)
   rintro e w3 ⟨rfl,hS4,m4,vv4,hR4⟩
   have HF:=lh (pst_ok (C:=C) (ok:=fun a e w'=>e=.returned (.tuple #[])∧RdE C pb a.2 (a.1.map itI++pile) w') (PX3.out.trans (bind_val hx)) (stmt_out (more:=[]) rfl (hS4) hR4))
   clear hR4
   go_wp2
   simp [bodyPost,results,Tryz.results249,go_sem]
   exact HF.out
theorem stmt9_at {m:Nat × Bool}{r:List (Nat × Bool)}(h:Rd C pb s pile (m::r) vv bv pv (C.cells vv bv pv) w)(hs:StOk s)(ok:CxOk C){i:Nat}(hi:i<C.nl)(hk:(nd C.ns i).kind=9)(hr:r.length≤700000)(hp:pile.length≤700000):Calls Tryz.prog 249 #[.pointer (some ⟨pb,0,none⟩),.int .i64 i] w
 (Pst C (statement C.ns C.tabs i s) fun a e w'=>e=.returned (.tuple #[])∧RdE C pb a.2 (a.1.map itI++pile) w'):=by
 have PX:statement C.ns C.tabs i s=(put C.ns C.tabs i s >>= fun s1=>.ok ([],s1)):=by
  unfold statement
  rw [if_neg (show ¬ (nd C.ns i).kind=6 by rw [hk];decide)]
  rw [if_neg (show ¬ (nd C.ns i).kind=7 by rw [hk];decide)]
  rw [if_neg (show ¬ (nd C.ns i).kind=8 by rw [hk];decide)]
  exact if_pos hk
 have PXh:=lh PX
 have hin:i<C.ns.length:=by rw [ok.nslen];exact hi
 have ND:=lh (node_at h.lo ok hi)
 have cp:=h.pcells.1
 have HS:=lh h
 have HST:=lh hs
 unfold nodeV at ND
 rw [hk] at ND
 clear h hs PX
 go_enter Tryz.func249,Tryz.ntmps249
 go_wp2_with fail
 (with_reducible refine ND.out.mono ?_)
 rintro e w1 ⟨rfl,hb⟩
 have R1:=lh ((HS.out.on ok hb).alloc ok (.cells #[.int .u8 9,.int .i64 (nd C.ns i).at',.string (nd C.ns i).text,.int .i64 (nd C.ns i).n,.slice (C.kp i) (nd C.ns i).kids.length (C.kc i)] 54))
 clear hb ND HS cp
 have PU:=lh (put_at R1.out ok hi hk)
 cases hx:put C.ns C.tabs i s with
 | error x =>
  go_wp2_with fail
  (with_reducible refine (get_no PU.out hx).mono ?_)
  rintro e w9 ⟨rfl,hB⟩
  simp only [wrongV]
  go_wp2
  exact ⟨rfl,pst_no (PXh.out.trans (bind_err hx)) hB⟩
 | ok s1 =>
  go_wp2_with fail
  (with_reducible refine (get_ok PU.out hx).mono ?_)
  rintro e w3 ⟨rfl,hR3⟩
  have HF:=lh (pst_ok (C:=C) (ok:=fun a e w'=>e=.returned (.tuple #[])∧RdE C pb a.2 (a.1.map itI++pile) w') (PXh.out.trans (bind_val hx)) (stmt_out (more:=[]) rfl ((put_same hx).ok HST.out) hR3))
  clear hR3
  go_wp2
  simp [bodyPost,results,Tryz.results249,go_sem]
  exact HF.out
theorem stmt18_at {m:Nat × Bool}{r:List (Nat × Bool)}(h:Rd C pb s pile (m::r) vv bv pv (C.cells vv bv pv) w)(hs:StOk s)(ok:CxOk C){i:Nat}(hi:i<C.nl)(hk:(nd C.ns i).kind=18)(hr:r.length≤700000)(hp:pile.length≤700000):Calls Tryz.prog 249 #[.pointer (some ⟨pb,0,none⟩),.int .i64 i] w
 (Pst C (statement C.ns C.tabs i s) fun a e w'=>e=.returned (.tuple #[])∧RdE C pb a.2 (a.1.map itI++pile) w'):=by
 have PX:statement C.ns C.tabs i s=(.ok ([],s)):=by
  unfold statement
  rw [if_neg (show ¬ (nd C.ns i).kind=6 by rw [hk];decide)]
  rw [if_neg (show ¬ (nd C.ns i).kind=7 by rw [hk];decide)]
  rw [if_neg (show ¬ (nd C.ns i).kind=8 by rw [hk];decide)]
  rw [if_neg (show ¬ (nd C.ns i).kind=9 by rw [hk];decide)]
  rw [if_neg (show ¬ (nd C.ns i).kind=10 by rw [hk];decide)]
  rw [if_neg (show ¬ (nd C.ns i).kind=11 by rw [hk];decide)]
  rw [if_neg (show ¬ (nd C.ns i).kind=12 by rw [hk];decide)]
  rw [if_neg (show ¬ (nd C.ns i).kind=13 by rw [hk];decide)]
  rw [if_neg (show ¬ (nd C.ns i).kind=14 by rw [hk];decide)]
  rw [if_neg (show ¬ (nd C.ns i).kind=15 by rw [hk];decide)]
  rw [if_neg (show ¬ (nd C.ns i).kind=16 by rw [hk];decide)]
  rw [if_neg (show ¬ (nd C.ns i).kind=17 by rw [hk];decide)]
  exact if_neg (show ¬ (nd C.ns i).kind=19 by rw [hk];decide)
 have PXh:=lh PX
 have hin:i<C.ns.length:=by rw [ok.nslen];exact hi
 have ND:=lh (node_at h.lo ok hi)
 have cp:=h.pcells.1
 have HS:=lh h
 have HST:=lh hs
 unfold nodeV at ND
 rw [hk] at ND
 clear h hs PX
 go_enter Tryz.func249,Tryz.ntmps249
 go_wp2_with fail
 (with_reducible refine ND.out.mono ?_)
 rintro e w1 ⟨rfl,hb⟩
 have R1:=lh ((HS.out.on ok hb).alloc ok (.cells #[.int .u8 18,.int .i64 (nd C.ns i).at',.string (nd C.ns i).text,.int .i64 (nd C.ns i).n,.slice (C.kp i) (nd C.ns i).kids.length (C.kc i)] 54))
 clear hb ND HS cp
 have HF:=lh (pst_ok (C:=C) (ok:=fun a e w'=>e=.returned (.tuple #[])∧RdE C pb a.2 (a.1.map itI++pile) w') (PXh.out) (stmt_out (more:=[]) rfl (HST.out) R1.out))
 go_wp2
 simp [bodyPost,results,Tryz.results249,go_sem]
 exact HF.out
end
end Nm
namespace Nm
open Go.RowKit Go.Maps Tr
section
variable {C:Cx}{pb:Nat}{s:St}{pile:List Int}{ms:List (Nat × Bool)}{vv bv pv:Value}{cs:Array Value}{w:World}
theorem stmt19_at {m:Nat × Bool}{r:List (Nat × Bool)}(h:Rd C pb s pile (m::r) vv bv pv (C.cells vv bv pv) w)(hs:StOk s)(ok:CxOk C){i:Nat}(hi:i<C.nl)(hk:(nd C.ns i).kind=19)(hr:r.length≤700000)(hp:pile.length≤700000):Calls Tryz.prog 249 #[.pointer (some ⟨pb,0,none⟩),.int .i64 i] w
 (Pst C (statement C.ns C.tabs i s) fun a e w'=>e=.returned (.tuple #[])∧RdE C pb a.2 (a.1.map itI++pile) w'):=by
 have PX:statement C.ns C.tabs i s=((if 1<s.envs.length then (.error (i,73):NE St) else .ok s) >>= fun s1=>.ok ([],s1)):=by
  unfold statement
  rw [if_neg (show ¬ (nd C.ns i).kind=6 by rw [hk];decide)]
  rw [if_neg (show ¬ (nd C.ns i).kind=7 by rw [hk];decide)]
  rw [if_neg (show ¬ (nd C.ns i).kind=8 by rw [hk];decide)]
  rw [if_neg (show ¬ (nd C.ns i).kind=9 by rw [hk];decide)]
  rw [if_neg (show ¬ (nd C.ns i).kind=10 by rw [hk];decide)]
  rw [if_neg (show ¬ (nd C.ns i).kind=11 by rw [hk];decide)]
  rw [if_neg (show ¬ (nd C.ns i).kind=12 by rw [hk];decide)]
  rw [if_neg (show ¬ (nd C.ns i).kind=13 by rw [hk];decide)]
  rw [if_neg (show ¬ (nd C.ns i).kind=14 by rw [hk];decide)]
  rw [if_neg (show ¬ (nd C.ns i).kind=15 by rw [hk];decide)]
  rw [if_neg (show ¬ (nd C.ns i).kind=16 by rw [hk];decide)]
  rw [if_neg (show ¬ (nd C.ns i).kind=17 by rw [hk];decide)]
  exact (if_pos hk).trans (by split<;>rfl)
 have PXh:=lh PX
 have hin:i<C.ns.length:=by rw [ok.nslen];exact hi
 have ND:=lh (node_at h.lo ok hi)
 have cp:=h.pcells.1
 have HS:=lh h
 have HST:=lh hs
 unfold nodeV at ND
 rw [hk] at ND
 clear h hs PX
 go_enter Tryz.func249,Tryz.ntmps249
 go_wp2_with fail
 (with_reducible refine ND.out.mono ?_)
 rintro e w1 ⟨rfl,hb⟩
 have R1:=lh ((HS.out.on ok hb).alloc ok (.cells #[.int .u8 19,.int .i64 (nd C.ns i).at',.string (nd C.ns i).text,.int .i64 (nd C.ns i).n,.slice (C.kp i) (nd C.ns i).kids.length (C.kc i)] 54))
 clear hb ND HS cp
 have CH:=lh (chop_at R1.out ok hi)
 cases hx:(if 1<s.envs.length then (.error (i,73):NE St) else .ok s) with
 | error x =>
  go_wp2_with fail
  (with_reducible refine (get_no CH.out hx).mono ?_)
  rintro e w9 ⟨rfl,hB⟩
  simp only [wrongV]
  go_wp2
  exact ⟨rfl,pst_no (PXh.out.trans (bind_err hx)) hB⟩
 | ok s1 =>
  have hss:s1=s:=by
   split at hx
   · cases hx
   · cases hx;rfl
  go_wp2_with fail
  (with_reducible refine (get_ok CH.out hx).mono ?_)
  rintro e w3 ⟨rfl,hR3⟩
  have HF:=lh (pst_ok (C:=C) (ok:=fun a e w'=>e=.returned (.tuple #[])∧RdE C pb a.2 (a.1.map itI++pile) w') (PXh.out.trans (bind_val hx)) (stmt_out (more:=[]) rfl ((by rw [hss];exact HST.out)) hR3))
  clear hR3
  go_wp2
  simp [bodyPost,results,Tryz.results249,go_sem]
  exact HF.out
theorem stmt13_at {m:Nat × Bool}{r:List (Nat × Bool)}(h:Rd C pb s pile (m::r) vv bv pv (C.cells vv bv pv) w)(hs:StOk s)(ok:CxOk C){i:Nat}(hi:i<C.nl)(hk:(nd C.ns i).kind=13)(hr:r.length≤700000)(hp:pile.length≤700000):Calls Tryz.prog 249 #[.pointer (some ⟨pb,0,none⟩),.int .i64 i] w
 (Pst C (statement C.ns C.tabs i s) fun a e w'=>e=.returned (.tuple #[])∧RdE C pb a.2 (a.1.map itI++pile) w'):=by
 have PX:statement C.ns C.tabs i s=((if (nd C.ns (Nm.kid C.ns i 0)).kind=20 then row C.ns C.tabs (Nm.kid C.ns i 0) s else tableOf C.ns C.tabs (Nm.kid C.ns i 0) s) >>= fun a=>.ok ([],a.2)):=by
  unfold statement
  rw [if_neg (show ¬ (nd C.ns i).kind=6 by rw [hk];decide)]
  rw [if_neg (show ¬ (nd C.ns i).kind=7 by rw [hk];decide)]
  rw [if_neg (show ¬ (nd C.ns i).kind=8 by rw [hk];decide)]
  rw [if_neg (show ¬ (nd C.ns i).kind=9 by rw [hk];decide)]
  rw [if_neg (show ¬ (nd C.ns i).kind=10 by rw [hk];decide)]
  rw [if_neg (show ¬ (nd C.ns i).kind=11 by rw [hk];decide)]
  rw [if_neg (show ¬ (nd C.ns i).kind=12 by rw [hk];decide)]
  refine (if_pos hk).trans ?_
  by_cases h20:(nd C.ns (Nm.kid C.ns i 0)).kind=20
  · simp only [h20,if_true]<;>rfl
  · simp only [h20,if_false]<;>rfl
 have PXh:=lh PX
 have hin:i<C.ns.length:=by rw [ok.nslen];exact hi
 have ND:=lh (node_at h.lo ok hi)
 have cp:=h.pcells.1
 have HS:=lh h
 have HST:=lh hs
 unfold nodeV at ND
 rw [hk] at ND
 have hkl:(nd C.ns i).kids.length=1:=by
  have:=ok.rt.shape i hin
  rw [hk] at this
  have h13:(Tr.isR (kindsOf C.ns (nd C.ns i)) [5]||Tr.isR (kindsOf C.ns (nd C.ns i)) [20])=true:=by simpa [kidsR] using this
  rcases Bool.or_eq_true_iff.1 h13 with h1|h1
  · exact (ok.rt.want hin h1).1
  · exact (ok.rt.want hin h1).1
 obtain ⟨kb,ko,hkp,hkb,hkc,hcell⟩:=h.lo.kid ok hi (j:=0) (by omega)
 have hk0:=(hcell 0 (by omega)).2.1
 have KC0:Hid (∀W,Below C.Wn.heap.size C.Wn W→W.cell? ⟨kb,ko,none⟩=some (.int .i64 (Nm.kid C.ns i 0:Nat))):=lh (fun W hW=>by
  have hc:=(hcell 0 (by omega)).1
  rw [h.lo.bn.cell (p:=⟨kb,ko+0,none⟩) hkb] at hc
  rw [hW.cell (p:=⟨kb,ko,none⟩) hkb]
  exact hc)
 rw [hkp] at ND
 clear hcell
 clear h hs PX
 go_enter Tryz.func249,Tryz.ntmps249
 go_wp2_with fail
 (with_reducible refine ND.out.mono ?_)
 rintro e w1 ⟨rfl,hb⟩
 have R1:=lh ((HS.out.on ok hb).alloc ok (.cells #[.int .u8 13,.int .i64 (nd C.ns i).at',.string (nd C.ns i).text,.int .i64 (nd C.ns i).n,.slice (some ⟨kb,ko,none⟩) (nd C.ns i).kids.length (C.kc i)] 54))
 clear hb ND HS cp
 rw [hkl] at *
 have kc0:=KC0.out _ R1.out.lo.bn
 have RL:=lh (release_at R1.out ok hk0)
 generalize hq0:Nm.kid C.ns i 0=q0 at *
 cases hx:(if (nd C.ns q0).kind=20 then row C.ns C.tabs q0 s else tableOf C.ns C.tabs q0 s) with
 | error x =>
  go_wp2_with fail
  (with_reducible refine (get_no RL.out hx).mono ?_)
  rintro e w9 ⟨rfl,hB⟩
  simp only [wrongV]
  go_wp2
  exact ⟨rfl,pst_no (PXh.out.trans (bind_err hx)) hB⟩
 | ok a =>
  have hsv:SameV s a.2:=by
   split at hx
   · exact row_same (x:=a.1) (t:=a.2) hx
   · exact tableOf_same (x:=a.1) (t:=a.2) hx
  go_wp2_with fail
  (with_reducible refine (get_ok RL.out hx).mono ?_)
  rintro e w3 ⟨rfl,hR3⟩
  have HF:=lh (pst_ok (C:=C) (ok:=fun a e w'=>e=.returned (.tuple #[])∧RdE C pb a.2 (a.1.map itI++pile) w') (PXh.out.trans (bind_val hx)) (stmt_out (more:=[]) rfl (hsv.ok HST.out) hR3))
  clear hR3
  go_wp2
  simp [bodyPost,results,Tryz.results249,go_sem]
  exact HF.out
theorem stmt15_at {m:Nat × Bool}{r:List (Nat × Bool)}(h:Rd C pb s pile (m::r) vv bv pv (C.cells vv bv pv) w)(hs:StOk s)(ok:CxOk C){i:Nat}(hi:i<C.nl)(hk:(nd C.ns i).kind=15)(hr:r.length≤700000)(hp:pile.length≤700000):Calls Tryz.prog 249 #[.pointer (some ⟨pb,0,none⟩),.int .i64 i] w
 (Pst C (statement C.ns C.tabs i s) fun a e w'=>e=.returned (.tuple #[])∧RdE C pb a.2 (a.1.map itI++pile) w'):=by
 have PX:statement C.ns C.tabs i s=((mustBeNew C.ns i s >>= fun s1=>declare C.ns i true { s1 with envs:=s1.there::s1.envs }) >>= fun s2=>.ok (kidsOf C.ns (Nm.kid C.ns i 2)++[none],s2)):=by
  unfold statement
  rw [if_neg (show ¬ (nd C.ns i).kind=6 by rw [hk];decide)]
  rw [if_neg (show ¬ (nd C.ns i).kind=7 by rw [hk];decide)]
  rw [if_neg (show ¬ (nd C.ns i).kind=8 by rw [hk];decide)]
  rw [if_neg (show ¬ (nd C.ns i).kind=9 by rw [hk];decide)]
  rw [if_neg (show ¬ (nd C.ns i).kind=10 by rw [hk];decide)]
  rw [if_neg (show ¬ (nd C.ns i).kind=11 by rw [hk];decide)]
  rw [if_neg (show ¬ (nd C.ns i).kind=12 by rw [hk];decide)]
  rw [if_neg (show ¬ (nd C.ns i).kind=13 by rw [hk];decide)]
  rw [if_neg (show ¬ (nd C.ns i).kind=14 by rw [hk];decide)]
  exact (if_pos hk).trans (by cases mustBeNew C.ns i s<;>rfl)
 have PXh:=lh PX
 have hin:i<C.ns.length:=by rw [ok.nslen];exact hi
 have ND:=lh (node_at h.lo ok hi)
 have cp:=h.pcells.1
 have HS:=lh h
 have HST:=lh hs
 unfold nodeV at ND
 rw [hk] at ND
 have hri:Tr.isR (kindsOf C.ns (nd C.ns i)) [21,21,6]=true:=by
  have:=ok.rt.shape i hin
  rw [hk] at this
  simpa [kidsR] using this
 have hq2:Nm.kid C.ns i 2<C.ns.length:=((ok.rt.want hin hri).2 2 (by simp)).2.1
 have HKP:=lh (kids_pile C.ns ok.rt hq2 [none])
 clear hri
 clear h hs PX
 go_enter Tryz.func249,Tryz.ntmps249
 go_wp2_with fail
 (with_reducible refine ND.out.mono ?_)
 rintro e w1 ⟨rfl,hb⟩
 have R1:=lh ((HS.out.on ok hb).alloc ok (.cells #[.int .u8 15,.int .i64 (nd C.ns i).at',.string (nd C.ns i).text,.int .i64 (nd C.ns i).n,.slice (C.kp i) (nd C.ns i).kids.length (C.kc i)] 54))
 clear hb ND HS cp
 have LP:=lh (loop_at R1.out HST.out ok hi hk (by omega) (by omega))
 cases hx:(mustBeNew C.ns i s >>= fun s1=>declare C.ns i true { s1 with envs:=s1.there::s1.envs }) with
 | error x =>
  go_wp2_with fail
  (with_reducible refine (get_no LP.out hx).mono ?_)
  rintro e w9 ⟨rfl,hB⟩
  simp only [wrongV]
  go_wp2
  exact ⟨rfl,pst_no (PXh.out.trans (bind_err hx)) hB⟩
 | ok s1 =>
  go_wp2_with fail
  (with_reducible refine (get_ok LP.out hx).mono ?_)
  rintro e w3 ⟨rfl,hS4,mo4,vv4,bv4,pv4,hR4⟩
  have hR5:Rd C pb s1 ((kidsOf C.ns (Nm.kid C.ns i 2)++[none]).map itI++pile) ((mo4,true)::m::r) vv4 bv4 pv4 (C.cells vv4 bv4 pv4) w3:=by
   rw [HKP.out]
   simpa [itI] using hR4
  have HF:=lh (pst_ok (C:=C) (ok:=fun a e w'=>e=.returned (.tuple #[])∧RdE C pb a.2 (a.1.map itI++pile) w') (PXh.out.trans (bind_val hx)) (stmt_out (more:=kidsOf C.ns (Nm.kid C.ns i 2)++[none]) rfl (hS4) hR5))
  clear hR4 hR5
  go_wp2
  simp [bodyPost,results,Tryz.results249,go_sem]
  exact HF.out
theorem stmt6_at {m:Nat × Bool}{r:List (Nat × Bool)}(h:Rd C pb s pile (m::r) vv bv pv (C.cells vv bv pv) w)(hs:StOk s)(ok:CxOk C){i:Nat}(hi:i<C.nl)(hk:(nd C.ns i).kind=6)(hr:r.length≤700000)(hp:pile.length≤700000):Calls Tryz.prog 249 #[.pointer (some ⟨pb,0,none⟩),.int .i64 i] w
 (Pst C (statement C.ns C.tabs i s) fun a e w'=>e=.returned (.tuple #[])∧RdE C pb a.2 (a.1.map itI++pile) w'):=by
 have PX:statement C.ns C.tabs i s=(.ok (kidsOf C.ns i++[none],{ s with envs:=s.there::s.envs })):=by
  unfold statement
  exact if_pos hk
 have PXh:=lh PX
 have hin:i<C.ns.length:=by rw [ok.nslen];exact hi
 have ND:=lh (node_at h.lo ok hi)
 have cp:=h.pcells.1
 have HS:=lh h
 have HST:=lh hs
 unfold nodeV at ND
 rw [hk] at ND
 have HKP:=lh (kids_pile C.ns ok.rt hin [none])
 clear h hs PX
 go_enter Tryz.func249,Tryz.ntmps249
 go_wp2_with fail
 (with_reducible refine ND.out.mono ?_)
 rintro e w1 ⟨rfl,hb⟩
 have R1:=lh ((HS.out.on ok hb).alloc ok (.cells #[.int .u8 6,.int .i64 (nd C.ns i).at',.string (nd C.ns i).text,.int .i64 (nd C.ns i).n,.slice (C.kp i) (nd C.ns i).kids.length (C.kc i)] 54))
 clear hb ND HS cp
 have OP:=lh (open_at R1.out ok (by omega))
 go_wp2_with fail
 (with_reducible refine OP.out.mono ?_)
 rintro e w2 ⟨rfl,bv2,hR2⟩
 have R2:=lh hR2
 have ST2:StOk { s with envs:=s.there::s.envs }:=⟨HST.out.vfew,fun e he=>by
  rcases List.mem_cons.1 he with rfl|he
  · cases h:s.envs with
    | nil=>simp [St.there,h]
    | cons a b=>rw [St.there_mem h];exact HST.out.efew a (by simp [h])
  · exact HST.out.efew e he⟩
 have EN:=lh (enter_at R2.out ok hi (by omega))
 clear hR2 OP R1
 go_wp2_with fail
 (with_reducible refine EN.out.mono ?_)
 rintro e w3 ⟨rfl,pv3,hR3⟩
 have hR5:Rd C pb { s with envs:=s.there::s.envs } ((kidsOf C.ns i++[none]).map itI++pile) ((m.1,false)::m::r) vv bv2 pv3 (C.cells vv bv2 pv3) w3:=by
  rw [HKP.out]
  simpa [itI] using hR3
 have HF:=lh (pst_ok (C:=C) (ok:=fun a e w'=>e=.returned (.tuple #[])∧RdE C pb a.2 (a.1.map itI++pile) w') (PXh.out) (stmt_out (more:=kidsOf C.ns i++[none]) rfl (ST2) hR5))
 clear hR3 hR5
 go_wp2
 simp [bodyPost,results,Tryz.results249,go_sem]
 exact HF.out
theorem stmt14_at {m:Nat × Bool}{r:List (Nat × Bool)}(h:Rd C pb s pile (m::r) vv bv pv (C.cells vv bv pv) w)(hs:StOk s)(ok:CxOk C){i:Nat}(hi:i<C.nl)(hk:(nd C.ns i).kind=14)(hr:r.length≤700000)(hp:pile.length≤700000):Calls Tryz.prog 249 #[.pointer (some ⟨pb,0,none⟩),.int .i64 i] w
 (Pst C (statement C.ns C.tabs i s) fun a e w'=>e=.returned (.tuple #[])∧RdE C pb a.2 (a.1.map itI++pile) w'):=by
 have PX:statement C.ns C.tabs i s=(exprAt C.ns (Nm.kid C.ns i 0) s >>= fun s1=>(exprAt C.ns (Nm.kid C.ns i 1) s1 >>= fun s2=>.ok ((kidsOf C.ns i).drop 2,s2))):=by
  unfold statement
  rw [if_neg (show ¬ (nd C.ns i).kind=6 by rw [hk];decide)]
  rw [if_neg (show ¬ (nd C.ns i).kind=7 by rw [hk];decide)]
  rw [if_neg (show ¬ (nd C.ns i).kind=8 by rw [hk];decide)]
  rw [if_neg (show ¬ (nd C.ns i).kind=9 by rw [hk];decide)]
  rw [if_neg (show ¬ (nd C.ns i).kind=10 by rw [hk];decide)]
  rw [if_neg (show ¬ (nd C.ns i).kind=11 by rw [hk];decide)]
  rw [if_neg (show ¬ (nd C.ns i).kind=12 by rw [hk];decide)]
  rw [if_neg (show ¬ (nd C.ns i).kind=13 by rw [hk];decide)]
  exact if_pos hk
 have PXh:=lh PX
 have hin:i<C.ns.length:=by rw [ok.nslen];exact hi
 have ND:=lh (node_at h.lo ok hi)
 have cp:=h.pcells.1
 have HS:=lh h
 have HST:=lh hs
 unfold nodeV at ND
 rw [hk] at ND
 obtain ⟨hk3,_,_⟩:=ok.rt.if_kids hin hk
 obtain ⟨kb,ko,hkp,hkb,hkc,hcell⟩:=h.lo.kid ok hi (j:=0) (by omega)
 have hk0:=(hcell 0 (by omega)).2.1
 have hk1:=(hcell 1 (by omega)).2.1
 have KC0:Hid (∀W,Below C.Wn.heap.size C.Wn W→W.cell? ⟨kb,ko,none⟩=some (.int .i64 (Nm.kid C.ns i 0:Nat))):=lh (fun W hW=>by
  have hc:=(hcell 0 (by omega)).1
  rw [h.lo.bn.cell (p:=⟨kb,ko+0,none⟩) hkb] at hc
  rw [hW.cell (p:=⟨kb,ko,none⟩) hkb]
  exact hc)
 have KC1:Hid (∀W,Below C.Wn.heap.size C.Wn W→W.cell? ⟨kb,ko+1,none⟩=some (.int .i64 (Nm.kid C.ns i 1:Nat))):=lh (fun W hW=>by
  have hc:=(hcell 1 (by omega)).1
  rw [h.lo.bn.cell (p:=⟨kb,ko+1,none⟩) hkb] at hc
  rw [hW.cell (p:=⟨kb,ko+1,none⟩) hkb]
  exact hc)
 have hgetD:∀k,k<(nd C.ns i).kids.length→(nd C.ns i).kids.getD k 0=(Nm.kid C.ns i k:Nat):=fun k hk=>(ok.rt.kidOf hin hk).1
 have KI:Hid (∀W,Below C.Wn.heap.size C.Wn W→IntsW C.Wn.heap.size W (.slice (some ⟨kb,ko+2,none⟩) ((nd C.ns i).kids.length-2) (C.kc i-2)) ((nd C.ns i).kids.drop 2)):=lh (fun W hW=>.inr ⟨kb,ko+2,C.kc i-2,by rw [List.length_drop],hkb,fun j hj=>by
  rw [List.length_drop] at hj
  have hc:=(hcell (2+j) (by omega)).1
  rw [h.lo.bn.cell (p:=⟨kb,ko+(2+j),none⟩) hkb] at hc
  rw [hW.cell (p:=⟨kb,ko+2+j,none⟩) hkb,show ko+2+j=ko+(2+j) by omega,hc,← hgetD (2+j) (by omega)]
  simp [List.getD]⟩)
 have KF:=ok.kidsFew hi
 have HDP:Hid (((kidsOf C.ns i).drop 2).map itI=(nd C.ns i).kids.drop 2):=lh (by
  have:=kids_pile C.ns ok.rt hin []
  rw [List.append_nil,List.map_nil,List.append_nil] at this
  rw [List.map_drop,this])
 have sl:=fun W=>ksl_run W kb ko (nd C.ns i).kids.length (C.kc i) 2 (by omega) (by omega)
 have n0:(0:Int)<((nd C.ns i).kids.length:Int):=by omega
 have n1:(1:Int)<((nd C.ns i).kids.length:Int):=by omega
 rw [hkp] at ND
 clear hcell hgetD
 clear h hs PX
 go_enter Tryz.func249,Tryz.ntmps249
 go_wp2_with fail
 (with_reducible refine ND.out.mono ?_)
 rintro e w1 ⟨rfl,hb⟩
 have R1:=lh ((HS.out.on ok hb).alloc ok (.cells #[.int .u8 14,.int .i64 (nd C.ns i).at',.string (nd C.ns i).text,.int .i64 (nd C.ns i).n,.slice (some ⟨kb,ko,none⟩) (nd C.ns i).kids.length (C.kc i)] 54))
 clear hb ND HS cp
 have kc0:=KC0.out _ R1.out.lo.bn
 have EX:=lh (expr_at R1.out ok hk0)
 generalize hq0:Nm.kid C.ns i 0=q0 at *
 generalize hq1:Nm.kid C.ns i 1=q1 at *
 generalize hkn:(nd C.ns i).kids.length=kn at *
 cases hx:exprAt C.ns q0 s with
 | error x =>
  go_wp2_with fail
  (with_reducible refine (get_no EX.out hx).mono ?_)
  rintro e w9 ⟨rfl,hB⟩
  simp only [wrongV]
  go_wp2
  exact ⟨rfl,pst_no (PXh.out.trans (bind_err hx)) hB⟩
 | ok s1 =>
  go_wp2_with fail
  (with_reducible refine (get_ok EX.out hx).mono ?_)
  rintro e w3 ⟨rfl,hR3⟩
  have R3:=lh hR3
  have ST3:=lh ((expr_same _ _ _ hx).ok HST.out)
  have kc1:=KC1.out _ hR3.lo.bn
  have EY:=lh (expr_at hR3 ok hk1)
  have PX3:=lh (PXh.out.trans (bind_val hx))
  clear hR3 hx EX R1 PXh kc0
  cases hx:exprAt C.ns q1 s1 with
  | error x =>
   go_wp2_with fail
   (with_reducible refine (get_no EY.out hx).mono ?_)
   rintro e w9 ⟨rfl,hB⟩
   simp only [wrongV]
   go_wp2
   exact ⟨rfl,pst_no (PX3.out.trans (bind_err hx)) hB⟩
  | ok s2 =>
   go_wp2_with fail
   (with_reducible refine (get_ok EY.out hx).mono ?_)
   rintro e w4 ⟨rfl,hR4⟩
   have R4:=lh hR4
   have NX:=lh (next_at hR4 ok (some ⟨kb,ko+2,none⟩) (kn-2) (C.kc i-2) ((nd C.ns i).kids.drop 2) (by rw [List.length_drop,hkn];omega) (by omega) (KI.out _ hR4.lo.bn))
   clear hR4 EY R3 kc1
   go_wp2_with fail
   (with_reducible refine NX.out.mono ?_)
   rintro e w5 ⟨rfl,pv5,hR5⟩
   have hR6:Rd C pb s2 (((kidsOf C.ns i).drop 2).map itI++pile) (m::r) vv bv pv5 (C.cells vv bv pv5) w5:=by rw [HDP.out];exact hR5
   have HF:=lh (pst_ok (C:=C) (ok:=fun a e w'=>e=.returned (.tuple #[])∧RdE C pb a.2 (a.1.map itI++pile) w') (PX3.out.trans (bind_val hx)) (stmt_out (more:=(kidsOf C.ns i).drop 2) rfl ((expr_same _ _ _ hx).ok ST3.out) hR6))
   clear hR5 hR6
   go_wp2
   simp [bodyPost,results,Tryz.results249,go_sem]
   exact HF.out
end
end Nm
end Go.Proofs.YthdioipfdbbmmaaGreatDoor
