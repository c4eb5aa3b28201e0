/- Contracts. -/
import Derived.Test.YthdioipfdbbmmaaGreatDoorKah
import Derived.Test.YthdioipfdbbmmaaGreatDoorKbg
import Derived.Deep.RegionHeld3
import Derived.Deep.RegionWith
set_option linter.all false
set_option maxRecDepth 1000000
set_option maxHeartbeats 16000000
namespace Go.Proofs.YthdioipfdbbmmaaGreatDoor
namespace Nm
open Go.RowKit Go.Maps Tr
section
variable {C:Cx}{pb:Nat}{s:St}{pile:List Int}{ms:List (Nat × Bool)}{vv bv pv:Value}{cs:Array Value}{w:World}
theorem stmt7_at {m:Nat × Bool}{r:List (Nat × Bool)}(h:Rd C pb s pile (m::r) vv bv pv (C.cells vv bv pv) w)(hs:StOk s)(ok:CxOk C){i:Nat}(hi:i<C.nl)(hk:(nd C.ns i).kind=7)(hr:r.length≤700000)(hp:pile.length≤700000):Calls Tryz.prog 249 #[.pointer (some ⟨pb,0,none⟩),.int .i64 i] w
 (Pst C (statement C.ns C.tabs i s) fun a e w'=>e=.returned (.tuple #[])∧RdE C pb a.2 (a.1.map itI++pile) w'):=by
 have PX:statement C.ns C.tabs i s=(row C.ns C.tabs (Nm.kid C.ns i 0) s >>= fun a=>(column C.ns C.tabs (Nm.kid C.ns i 1) a.1 a.2 >>= fun s1=>(assign C.ns i s1 >>= fun s2=>.ok ([],s2)))):=by
  unfold statement
  rw [if_neg (show ¬ (nd C.ns i).kind=6 by rw [hk];decide)]
  exact if_pos hk
 have PXh:=lh PX
 have hin:i<C.ns.length:=by rw [ok.nslen];exact hi
 have hri:Tr.isR (kindsOf C.ns (nd C.ns i)) [20,5]=true:=by
  have:=ok.rt.shape i hin
  rw [hk] at this
  simpa [kidsR] using this
 obtain ⟨hkl,hkk⟩:=ok.rt.want hin hri
 have hkl:(nd C.ns i).kids.length=2:=hkl
 obtain ⟨kb,ko,hkp,hkb,hkc,hcell⟩:=h.lo.kid ok hi (j:=0) (by omega)
 have hk0:=(hcell 0 (by omega)).2.1
 have KC0:Hid (∀W,Below C.Wn.heap.size C.Wn W→W.cell? ⟨kb,ko,none⟩=some (.int .i64 (Nm.kid C.ns i 0:Nat))):=lh (fun W hW=>by
  have hc:=(hcell 0 (by omega)).1
  rw [h.lo.bn.cell (p:=⟨kb,ko+0,none⟩) hkb] at hc
  rw [hW.cell (p:=⟨kb,ko,none⟩) hkb]
  exact hc)
 have hk1:=(hcell 1 (by omega)).2.1
 have KC1:Hid (∀W,Below C.Wn.heap.size C.Wn W→W.cell? ⟨kb,ko+1,none⟩=some (.int .i64 (Nm.kid C.ns i 1:Nat))):=lh (fun W hW=>by
  have hc:=(hcell 1 (by omega)).1
  rw [h.lo.bn.cell (p:=⟨kb,ko+1,none⟩) hkb] at hc
  rw [hW.cell (p:=⟨kb,ko+1,none⟩) hkb]
  exact hc)
 have ND:=lh (node_at h.lo ok hi)
 have cp:=h.pcells.1
 have HS:=lh h
 have HST:=lh hs
 unfold nodeV at ND
 rw [hk,hkp] at ND
 have hkk0:(nd C.ns (Nm.kid C.ns i 0)).kind=20:=by simpa using (hkk 0 (by simp)).2.2.2
 clear hkk
 clear hcell hri
 rw [hkl] at ND
 clear h hs PX
 go_enter Tryz.func249,Tryz.ntmps249
 go_wp2_with fail
 (with_reducible refine ND.out.mono ?_)
 rintro e w1 ⟨rfl,hb⟩
 have R1:=lh ((HS.out.on ok hb).alloc ok (.cells #[.int .u8 7,.int .i64 (nd C.ns i).at',.string (nd C.ns i).text,.int .i64 (nd C.ns i).n,.slice (some ⟨kb,ko,none⟩) 2 (C.kc i)] 54))
 clear hb ND HS cp
 have hkc:=hkc
 rw [hkl] at hkc
 clear hkl
 go_wp2_with fail
 generalize w1.alloc (.cells #[.int .u8 7,.int .i64 (nd C.ns i).at',.string (nd C.ns i).text,.int .i64 (nd C.ns i).n,.slice (some ⟨kb,ko,none⟩) 2 (C.kc i)] 54)=W at *
 have cp1:=R1.out.pcells.1
 have kc0:=KC0.out _ R1.out.lo.bn
 have kc1:=KC1.out _ R1.out.lo.bn
 generalize hq0:Nm.kid C.ns i 0=q0 at *
 generalize hq1:Nm.kid C.ns i 1=q1 at *
 have RW:=lh (fun W' (hW:Below W.heap.size W W')=>row_at (R1.out.on ok hW) ok hk0 hkk0)
 cases hx:row C.ns C.tabs q0 s with
 | error x =>
  go_region_with (go_at_call 274;(with_reducible refine (get_no (RW.out _ ((Below.refl _ _).drew)) hx).mono ?_);rintro e w9 ⟨rfl,hB⟩;simp only [wrongV];refine regOut (P:=Tryz.prog) w9 ⟨rfl,pst_no (PXh.out.trans (bind_err hx)) hB⟩ ?_)
  all_goals trivial
 | ok a =>
  obtain ⟨t,s1⟩:=a
  have HX:=lh hx
  have htl:=row_lt hx
  have ST1:=lh ((row_same hx).ok HST.out)
  have PX1:=lh (PXh.out.trans (bind_val hx))
  clear hx PXh
  cases hx:column C.ns C.tabs q1 t s1 with
  | error x =>
   go_region_with (first
    | (go_at_call 274;(with_reducible refine (get_ok (RW.out _ ((Below.refl _ _).drew)) HX.out).mono ?_);rintro e w3 ⟨rfl,hR3⟩;have R3:=lh hR3;have SK3:=lh (And.intro hR3.pcells.1 (And.intro (KC1.out _ hR3.lo.bn) (KC0.out _ hR3.lo.bn)));have c3p:=hR3.pcells.1;have c3k:=KC1.out _ hR3.lo.bn;clear hR3)
    | (go_at_call 273;(with_reducible refine (get_no (column_at R3.out ok hk1 htl) hx).mono ?_);rintro e w9 ⟨rfl,hB⟩;simp only [wrongV];refine regOut (P:=Tryz.prog) w9 ⟨rfl,pst_no (PX1.out.trans (bind_err hx)) hB⟩ ?_))
   all_goals trivial
  | ok s2 =>
   have HY:=lh hx
   have ST2:=lh ((column_same hx).ok ST1.out)
   have PX2:=lh (PX1.out.trans (bind_val hx))
   clear hx PX1
   go_region_held3 (fun w'=>w'.cell? ⟨pb,0,none⟩=some (.pointer (some ⟨C.rb,0,none⟩))∧w'.cell? ⟨kb,ko+1,none⟩=some (.int .i64 (q1:Nat))∧w'.cell? ⟨kb,ko,none⟩=some (.int .i64 (q0:Nat))) (first|exact ⟨cp1,kc1,kc0⟩|exact SK3.out|exact SK4.out|go_keep)
    (first
     | (go_at_call 274;(with_reducible refine (get_ok (RW.out _ ((Below.refl _ _).drew)) HX.out).mono ?_);rintro e w3 ⟨rfl,hR3⟩;have R3:=lh hR3;have SK3:=lh (And.intro hR3.pcells.1 (And.intro (KC1.out _ hR3.lo.bn) (KC0.out _ hR3.lo.bn)));have c3p:=hR3.pcells.1;have c3k:=KC1.out _ hR3.lo.bn;clear hR3)
     | (go_at_call 273;(with_reducible refine (get_ok (column_at R3.out ok hk1 htl) HY.out).mono ?_);rintro e w4 ⟨rfl,hR4⟩;have R4:=lh hR4;have SK4:=lh (And.intro hR4.pcells.1 (And.intro (KC1.out _ hR4.lo.bn) (KC0.out _ hR4.lo.bn)));clear hR4))
   clear SK3 SK4 c3p c3k R3 RW cp1 kc1 kc0 HX HY R1
   have AS:=lh (assign_at R4.out ST2.out ok hi)
   cases hx:assign C.ns i s2 with
   | error x =>
    go_wp2_with fail
    (with_reducible refine (get_no AS.out hx).mono ?_)
    rintro e w9 ⟨rfl,hB⟩
    simp only [wrongV]
    go_wp2
    exact ⟨rfl,pst_no (PX2.out.trans (bind_err hx)) hB⟩
   | ok s3 =>
    go_wp2_with fail
    (with_reducible refine (get_ok AS.out hx).mono ?_)
    rintro e w5 ⟨rfl,hS5,m5,vv5,hR5⟩
    have HF:=lh (pst_ok (C:=C) (ok:=fun a e w'=>e=.returned (.tuple #[])∧RdE C pb a.2 (a.1.map itI++pile) w') (PX2.out.trans (bind_val hx)) (stmt_out (more:=[]) rfl (hS5) hR5))
    clear hR5
    go_wp2
    simp [bodyPost,results,Tryz.results249,go_sem]
    exact HF.out
theorem stmt8_at {m:Nat × Bool}{r:List (Nat × Bool)}(h:Rd C pb s pile (m::r) vv bv pv (C.cells vv bv pv) w)(hs:StOk s)(ok:CxOk C){i:Nat}(hi:i<C.nl)(hk:(nd C.ns i).kind=8)(hr:r.length≤700000)(hp:pile.length≤700000):Calls Tryz.prog 249 #[.pointer (some ⟨pb,0,none⟩),.int .i64 i] w
 (Pst C (statement C.ns C.tabs i s) fun a e w'=>e=.returned (.tuple #[])∧RdE C pb a.2 (a.1.map itI++pile) w'):=by
 have PX:statement C.ns C.tabs i s=(row C.ns C.tabs (Nm.kid C.ns i 0) s >>= fun a=>(column C.ns C.tabs (Nm.kid C.ns i 1) a.1 a.2 >>= fun s1=>(exprAt C.ns (Nm.kid C.ns i 2) s1 >>= fun s2=>.ok ([],s2)))):=by
  unfold statement
  rw [if_neg (show ¬ (nd C.ns i).kind=6 by rw [hk];decide)]
  rw [if_neg (show ¬ (nd C.ns i).kind=7 by rw [hk];decide)]
  exact if_pos hk
 have PXh:=lh PX
 have hin:i<C.ns.length:=by rw [ok.nslen];exact hi
 have hri:Tr.isR (kindsOf C.ns (nd C.ns i)) [20,5,0]=true:=by
  have:=ok.rt.shape i hin
  rw [hk] at this
  simpa [kidsR] using this
 obtain ⟨hkl,hkk⟩:=ok.rt.want hin hri
 have hkl:(nd C.ns i).kids.length=3:=hkl
 obtain ⟨kb,ko,hkp,hkb,hkc,hcell⟩:=h.lo.kid ok hi (j:=0) (by omega)
 have hk0:=(hcell 0 (by omega)).2.1
 have KC0:Hid (∀W,Below C.Wn.heap.size C.Wn W→W.cell? ⟨kb,ko,none⟩=some (.int .i64 (Nm.kid C.ns i 0:Nat))):=lh (fun W hW=>by
  have hc:=(hcell 0 (by omega)).1
  rw [h.lo.bn.cell (p:=⟨kb,ko+0,none⟩) hkb] at hc
  rw [hW.cell (p:=⟨kb,ko,none⟩) hkb]
  exact hc)
 have hk1:=(hcell 1 (by omega)).2.1
 have KC1:Hid (∀W,Below C.Wn.heap.size C.Wn W→W.cell? ⟨kb,ko+1,none⟩=some (.int .i64 (Nm.kid C.ns i 1:Nat))):=lh (fun W hW=>by
  have hc:=(hcell 1 (by omega)).1
  rw [h.lo.bn.cell (p:=⟨kb,ko+1,none⟩) hkb] at hc
  rw [hW.cell (p:=⟨kb,ko+1,none⟩) hkb]
  exact hc)
 have hk2:=(hcell 2 (by omega)).2.1
 have KC2:Hid (∀W,Below C.Wn.heap.size C.Wn W→W.cell? ⟨kb,ko+2,none⟩=some (.int .i64 (Nm.kid C.ns i 2:Nat))):=lh (fun W hW=>by
  have hc:=(hcell 2 (by omega)).1
  rw [h.lo.bn.cell (p:=⟨kb,ko+2,none⟩) hkb] at hc
  rw [hW.cell (p:=⟨kb,ko+2,none⟩) hkb]
  exact hc)
 have ND:=lh (node_at h.lo ok hi)
 have cp:=h.pcells.1
 have HS:=lh h
 have HST:=lh hs
 unfold nodeV at ND
 rw [hk,hkp] at ND
 have hkk0:(nd C.ns (Nm.kid C.ns i 0)).kind=20:=by simpa using (hkk 0 (by simp)).2.2.2
 clear hkk
 clear hcell hri
 rw [hkl] at ND
 clear h hs PX
 go_enter Tryz.func249,Tryz.ntmps249
 go_wp2_with fail
 (with_reducible refine ND.out.mono ?_)
 rintro e w1 ⟨rfl,hb⟩
 have R1:=lh ((HS.out.on ok hb).alloc ok (.cells #[.int .u8 8,.int .i64 (nd C.ns i).at',.string (nd C.ns i).text,.int .i64 (nd C.ns i).n,.slice (some ⟨kb,ko,none⟩) 3 (C.kc i)] 54))
 clear hb ND HS cp
 have hkc:=hkc
 rw [hkl] at hkc
 clear hkl
 go_wp2_with fail
 generalize w1.alloc (.cells #[.int .u8 8,.int .i64 (nd C.ns i).at',.string (nd C.ns i).text,.int .i64 (nd C.ns i).n,.slice (some ⟨kb,ko,none⟩) 3 (C.kc i)] 54)=W at *
 have cp1:=R1.out.pcells.1
 have kc0:=KC0.out _ R1.out.lo.bn
 have kc1:=KC1.out _ R1.out.lo.bn
 have kc2:=KC2.out _ R1.out.lo.bn
 generalize hq0:Nm.kid C.ns i 0=q0 at *
 generalize hq1:Nm.kid C.ns i 1=q1 at *
 generalize hq2:Nm.kid C.ns i 2=q2 at *
 have RW:=lh (fun W' (hW:Below W.heap.size W W')=>row_at (R1.out.on ok hW) ok hk0 hkk0)
 cases hx:row C.ns C.tabs q0 s with
 | error x =>
  go_region_with (go_at_call 274;(with_reducible refine (get_no (RW.out _ ((Below.refl _ _).drew)) hx).mono ?_);rintro e w9 ⟨rfl,hB⟩;simp only [wrongV];refine regOut (P:=Tryz.prog) w9 ⟨rfl,pst_no (PXh.out.trans (bind_err hx)) hB⟩ ?_)
  all_goals trivial
 | ok a =>
  obtain ⟨t,s1⟩:=a
  have HX:=lh hx
  have htl:=row_lt hx
  have ST1:=lh ((row_same hx).ok HST.out)
  have PX1:=lh (PXh.out.trans (bind_val hx))
  clear hx PXh
  cases hx:column C.ns C.tabs q1 t s1 with
  | error x =>
   go_region_with (first
    | (go_at_call 274;(with_reducible refine (get_ok (RW.out _ ((Below.refl _ _).drew)) HX.out).mono ?_);rintro e w3 ⟨rfl,hR3⟩;have R3:=lh hR3;have SK3:=lh (And.intro hR3.pcells.1 (And.intro (KC1.out _ hR3.lo.bn) (KC0.out _ hR3.lo.bn)));have c3p:=hR3.pcells.1;have c3k:=KC1.out _ hR3.lo.bn;clear hR3)
    | (go_at_call 273;(with_reducible refine (get_no (column_at R3.out ok hk1 htl) hx).mono ?_);rintro e w9 ⟨rfl,hB⟩;simp only [wrongV];refine regOut (P:=Tryz.prog) w9 ⟨rfl,pst_no (PX1.out.trans (bind_err hx)) hB⟩ ?_))
   all_goals trivial
  | ok s2 =>
   have HY:=lh hx
   have ST2:=lh ((column_same hx).ok ST1.out)
   have PX2:=lh (PX1.out.trans (bind_val hx))
   clear hx PX1
   go_region_held3 (fun w'=>w'.cell? ⟨pb,0,none⟩=some (.pointer (some ⟨C.rb,0,none⟩))∧w'.cell? ⟨kb,ko+1,none⟩=some (.int .i64 (q1:Nat))∧w'.cell? ⟨kb,ko,none⟩=some (.int .i64 (q0:Nat))) (first|exact ⟨cp1,kc1,kc0⟩|exact SK3.out|exact SK4.out|go_keep)
    (first
     | (go_at_call 274;(with_reducible refine (get_ok (RW.out _ ((Below.refl _ _).drew)) HX.out).mono ?_);rintro e w3 ⟨rfl,hR3⟩;have R3:=lh hR3;have SK3:=lh (And.intro hR3.pcells.1 (And.intro (KC1.out _ hR3.lo.bn) (KC0.out _ hR3.lo.bn)));have c3p:=hR3.pcells.1;have c3k:=KC1.out _ hR3.lo.bn;clear hR3)
     | (go_at_call 273;(with_reducible refine (get_ok (column_at R3.out ok hk1 htl) HY.out).mono ?_);rintro e w4 ⟨rfl,hR4⟩;have R4:=lh hR4;have SK4:=lh (And.intro hR4.pcells.1 (And.intro (KC1.out _ hR4.lo.bn) (KC0.out _ hR4.lo.bn)));clear hR4))
   clear SK3 SK4 c3p c3k R3 RW cp1 kc1 kc0 HX HY R1
   have EX:=lh (expr_at R4.out ok hk2)
   have kc2:=KC2.out _ R4.out.lo.bn
   cases hx:exprAt C.ns q2 s2 with
   | error x =>
    go_wp2_with fail
    (with_reducible refine (get_no EX.out hx).mono ?_)
    rintro e w9 ⟨rfl,hB⟩
    simp only [wrongV]
    go_wp2
    exact ⟨rfl,pst_no (PX2.out.trans (bind_err hx)) hB⟩
   | ok s3 =>
    go_wp2_with fail
    (with_reducible refine (get_ok EX.out hx).mono ?_)
    rintro e w5 ⟨rfl,hR5⟩
    have HF:=lh (pst_ok (C:=C) (ok:=fun a e w'=>e=.returned (.tuple #[])∧RdE C pb a.2 (a.1.map itI++pile) w') (PX2.out.trans (bind_val hx)) (stmt_out (more:=[]) rfl ((expr_same _ _ _ hx).ok ST2.out) hR5))
    clear hR5
    go_wp2
    simp [bodyPost,results,Tryz.results249,go_sem]
    exact HF.out
end
end Nm
end Go.Proofs.YthdioipfdbbmmaaGreatDoor
