/- Contracts. -/
import Derived.Test.YthdioipfdbbmmaaGreatDoorKah
import Derived.Test.YthdioipfdbbmmaaGreatDoorKal
import Derived.Test.YthdioipfdbbmmaaGreatDoorKam
set_option linter.all false
set_option maxRecDepth 1000000
set_option maxHeartbeats 16000000
namespace Go.Proofs.YthdioipfdbbmmaaGreatDoor
namespace Nm
open Go.RowKit Go.Maps Tr
section
variable {C:Cx}{pb:Nat}{s:St}{pile:List Int}{ms:List (Nat × Bool)}{vv bv pv:Value}{cs:Array Value}{w:World}
def Ok1 (C:Cx)(pb:Nat)(pile:List Int)(r:List (Nat × Bool))(bv pv:Value)(s':St)(e:Ending)(w':World):Prop:=e=.returned (.tuple #[])∧StOk s'∧∃m' vv',Rd C pb s' pile (m'::r) vv' bv pv (C.cells vv' bv pv) w'
theorem ok1_decl {r:List (Nat × Bool)}{s':St}{e:Ending}(h:Decl C pb pile r bv pv s' e w):Ok1 C pb pile r bv pv s' e w:=⟨h.1,h.2.1,by obtain ⟨mo,v,hh⟩:=h.2.2;exact ⟨_,_,hh⟩⟩
theorem StOk.set {s:St}(h:StOk s)(i:Nat)(v:Int):StOk (s.set i v):=⟨h.vfew,h.efew⟩
theorem assign_at {m:Nat × Bool}{r:List (Nat × Bool)}(h:Rd C pb s pile (m::r) vv bv pv (C.cells vv bv pv) w)(hs:StOk s)(ok:CxOk C){i:Nat}(hi:i<C.nl):Calls Tryz.prog 275 #[.pointer (some ⟨pb,0,none⟩),.int .i64 i] w
 (Pst C (assign C.ns i s) (Ok1 C pb pile r bv pv)):=by
 have ND:=lh (fun W (hW:Below w.heap.size w W)=>node_at (h.lo.on ok hW) ok hi)
 have TH:=lh (fun W (hW:Below w.heap.size w W)=>there_at (h.on ok hW))
 have RH:=lh (fun W (hW:Below w.heap.size w W)=>h.on ok hW)
 have LK:∀W,Below w.heap.size w W→W.cell? ⟨pb,0,none⟩=some (.pointer (some ⟨C.rb,0,none⟩))∧(Instr.lookup 271 (.map (some m.1)) (.string (nd C.ns i).text) true).run Tryz.prog W=.ok (.tuple #[lookV s.there (nd C.ns i).text,.bool (look s.there (nd C.ns i).text).isSome]) W:=fun W hW =>
  ⟨(h.on ok hW).pcells.1,(h.on ok hW).look _ (ok.txt i)⟩
 have LKh:=lh LK
 have fl:=nd_f2
 have HST:=lh hs
 have PX:assign C.ns i s=match look s.there (nd C.ns i).text with
  | none=>declare C.ns i false s
  | some v=>if v.loop then .error (i,71) else .ok (s.set i v.num):=rfl
 have PXh:=lh PX
 have DC:Hid (look s.there (nd C.ns i).text=none→∀W,Below w.heap.size w W→Calls Tryz.prog 213 #[.pointer (some ⟨pb,0,none⟩),.int .i64 i,.bool false] W (Pst C (declare C.ns i false s) (Decl C pb pile r bv pv))):=lh (fun hn W hW=>declare_at (h.on ok hW) hs ok hi false hn)
 unfold lookV at LKh
 unfold nodeV at ND
 have i0:(0:Int)≤(i:Int):=by omega
 have i1:(i:Int)<(C.nl:Int):=by omega
 generalize (nd C.ns i).text=tx at *
 generalize hix:look s.there tx=ix at *
 clear h LK PX hix hs
 cases ix with
 | none =>
  simp only [Option.isSome_none] at LKh
  have DC0:=lh (DC.out rfl)
  clear DC
  go_enter Tryz.func275,Tryz.ntmps275
  go_wp2_with fail
  go_region_held3 (fun w'=>w'.cell? ⟨pb,0,none⟩=some (.pointer (some ⟨C.rb,0,none⟩))∧(Instr.lookup 271 (.map (some m.1)) (.string tx) true).run Tryz.prog w'=.ok (.tuple #[.agg #[.int .i64 0,.bool false],.bool false]) w'∧Hid (Below w.heap.size w w')) ((first|(refine keep2 LKh ?_;first|exact Below.refl _ _|exact (Below.refl _ _).drew|exact BB.out|exact (BB.out).alloc BB.out.size _|exact ((‹_∧_∧Hid (Below w.heap.size w _)›).2.2.out).alloc (‹_∧_∧Hid (Below w.heap.size w _)›).2.2.out.size _|exact (BB.out.setCell (bxl BB.out (by first|exact Nat.le_refl _|exact (‹Hid (Below w.heap.size w _)›).out.size)) _).setCell (bxl BB.out (by first|exact Nat.le_refl _|exact (‹Hid (Below w.heap.size w _)›).out.size)) _|exact (((‹_∧_∧Hid (Below w.heap.size w _)›).2.2.out).setCell (bxl BB.out (by first|exact Nat.le_refl _|exact (‹Hid (Below w.heap.size w _)›).out.size)) _).setCell (bxl BB.out (by first|exact Nat.le_refl _|exact (‹Hid (Below w.heap.size w _)›).out.size)) _)|go_keep))
   (first
    | (go_at_call 139;obtain ⟨_,_,B0⟩:=(‹_∧_∧Hid (Below w.heap.size w _)›);refine (ND.out _ B0.out).mono ?_;rintro e w1 ⟨rfl,hb⟩;have BB:=lh (B0.out.trans (hb.mono B0.out.size));(try (have kbx:=box_on hb kbx));(try (have kbx:=box_new hb));(try (have kbx:=box_newd hb)))
    | (go_at_call 246;obtain ⟨_,_,B0⟩:=(‹_∧_∧Hid (Below w.heap.size w _)›);refine (TH.out _ B0.out).mono ?_;rintro e w1 ⟨rfl,hb⟩;have BB:=lh (B0.out.trans (hb.mono B0.out.size));(try (have kbx:=box_on hb kbx));(try (have kbx:=box_new hb));(try (have kbx:=box_newd hb))))
  all_goals
   have BW:=lh (‹_∧_∧Hid (Below w.heap.size w _)›).2.2.out
   have R1:=lh (RH.out _ BW.out)
   have cp:=(LKh.out _ BW.out).1
   have DC1:=lh (DC0.out _ BW.out)
   clear DC0
   cases hx:declare C.ns i false s with
   | error x =>
    go_wp2_with fail
    (with_reducible refine (get_no DC1.out hx).mono ?_)
    rintro e w2 ⟨rfl,hB⟩
    simp only [wrongV]
    go_wp2
    exact ⟨rfl,pst_no (PXh.out.trans hx) hB⟩
   | ok s' =>
    go_wp2_with fail
    (with_reducible refine (get_ok DC1.out hx).mono ?_)
    rintro e w2 ⟨rfl,h1,h2⟩
    have HO:Hid (Pst C (assign C.ns i s) (Ok1 C pb pile r bv pv) (.returned (.tuple #[])) w2):=lh (pst_ok (PXh.out.trans hx) (ok1_decl ⟨rfl,h1,h2⟩))
    clear h1 h2
    go_wp2
    simp [bodyPost,results,Tryz.results275,go_sem]
    exact HO.out
 | some x =>
  simp only [Option.isSome_some] at LKh
  clear DC
  obtain ⟨xn,xm,xl⟩:=x
  cases xl with
  | true =>
   go_enter Tryz.func275,Tryz.ntmps275
   go_wp2_with fail
   go_region_held3 (fun w'=>w'.cell? ⟨pb,0,none⟩=some (.pointer (some ⟨C.rb,0,none⟩))∧(Instr.lookup 271 (.map (some m.1)) (.string tx) true).run Tryz.prog w'=.ok (.tuple #[.agg #[.int .i64 xm,.bool true],.bool true]) w'∧Hid (Below w.heap.size w w')) ((first|(refine keep2 LKh ?_;first|exact Below.refl _ _|exact (Below.refl _ _).drew|exact BB.out|exact (BB.out).alloc BB.out.size _|exact ((‹_∧_∧Hid (Below w.heap.size w _)›).2.2.out).alloc (‹_∧_∧Hid (Below w.heap.size w _)›).2.2.out.size _|exact (BB.out.setCell (bxl BB.out (by first|exact Nat.le_refl _|exact (‹Hid (Below w.heap.size w _)›).out.size)) _).setCell (bxl BB.out (by first|exact Nat.le_refl _|exact (‹Hid (Below w.heap.size w _)›).out.size)) _|exact (((‹_∧_∧Hid (Below w.heap.size w _)›).2.2.out).setCell (bxl BB.out (by first|exact Nat.le_refl _|exact (‹Hid (Below w.heap.size w _)›).out.size)) _).setCell (bxl BB.out (by first|exact Nat.le_refl _|exact (‹Hid (Below w.heap.size w _)›).out.size)) _)|go_keep))
    (first
     | (go_at_call 139;obtain ⟨_,_,B0⟩:=(‹_∧_∧Hid (Below w.heap.size w _)›);refine (ND.out _ B0.out).mono ?_;rintro e w1 ⟨rfl,hb⟩;have BB:=lh (B0.out.trans (hb.mono B0.out.size));(try (have kbx:=box_on hb kbx));(try (have kbx:=box_new hb));(try (have kbx:=box_newd hb)))
     | (go_at_call 246;obtain ⟨_,_,B0⟩:=(‹_∧_∧Hid (Below w.heap.size w _)›);refine (TH.out _ B0.out).mono ?_;rintro e w1 ⟨rfl,hb⟩;have BB:=lh (B0.out.trans (hb.mono B0.out.size));(try (have kbx:=box_on hb kbx));(try (have kbx:=box_new hb));(try (have kbx:=box_newd hb))))
   all_goals
    have BW:=lh (‹_∧_∧Hid (Below w.heap.size w _)›).2.2.out
    have R1:=lh (RH.out _ BW.out)
    have cp:=(LKh.out _ BW.out).1
    have FL1:=lh (fail_at R1.out.lo ok hi 71)
    go_wp2_with fail
    (with_reducible refine FL1.out.mono ?_)
    rintro e w2 ⟨rfl,hb⟩
    simp only [wrongV]
    have HB:=lh (R1.out.bnOn ok hb)
    clear hb
    go_wp2
    exact ⟨rfl,pst_no PXh.out HB.out⟩
  | false =>
   go_enter Tryz.func275,Tryz.ntmps275
   go_wp2_with fail
   go_region_held3 (fun w'=>w'.cell? ⟨pb,0,none⟩=some (.pointer (some ⟨C.rb,0,none⟩))∧(Instr.lookup 271 (.map (some m.1)) (.string tx) true).run Tryz.prog w'=.ok (.tuple #[.agg #[.int .i64 xm,.bool false],.bool true]) w'∧Hid (Below w.heap.size w w')) ((first|(refine keep2 LKh ?_;first|exact Below.refl _ _|exact (Below.refl _ _).drew|exact BB.out|exact (BB.out).alloc BB.out.size _|exact ((‹_∧_∧Hid (Below w.heap.size w _)›).2.2.out).alloc (‹_∧_∧Hid (Below w.heap.size w _)›).2.2.out.size _|exact (BB.out.setCell (bxl BB.out (by first|exact Nat.le_refl _|exact (‹Hid (Below w.heap.size w _)›).out.size)) _).setCell (bxl BB.out (by first|exact Nat.le_refl _|exact (‹Hid (Below w.heap.size w _)›).out.size)) _|exact (((‹_∧_∧Hid (Below w.heap.size w _)›).2.2.out).setCell (bxl BB.out (by first|exact Nat.le_refl _|exact (‹Hid (Below w.heap.size w _)›).out.size)) _).setCell (bxl BB.out (by first|exact Nat.le_refl _|exact (‹Hid (Below w.heap.size w _)›).out.size)) _)|go_keep))
    (first
     | (go_at_call 139;obtain ⟨_,_,B0⟩:=(‹_∧_∧Hid (Below w.heap.size w _)›);refine (ND.out _ B0.out).mono ?_;rintro e w1 ⟨rfl,hb⟩;have BB:=lh (B0.out.trans (hb.mono B0.out.size));(try (have kbx:=box_on hb kbx));(try (have kbx:=box_new hb));(try (have kbx:=box_newd hb)))
     | (go_at_call 246;obtain ⟨_,_,B0⟩:=(‹_∧_∧Hid (Below w.heap.size w _)›);refine (TH.out _ B0.out).mono ?_;rintro e w1 ⟨rfl,hb⟩;have BB:=lh (B0.out.trans (hb.mono B0.out.size));(try (have kbx:=box_on hb kbx));(try (have kbx:=box_new hb));(try (have kbx:=box_newd hb))))
   all_goals
    have BW:=lh (‹_∧_∧Hid (Below w.heap.size w _)›).2.2.out
    have R1:=lh (RH.out _ BW.out)
    have cp:=(LKh.out _ BW.out).1
    have c3:=(R1.out.lo.cells ok).2.1
    have k3:=(R1.out.lo.ofCell i hi).1
    have z3:=(R1.out.lo.ofCell i hi).2
    have R2:=lh (R1.out.setOf ok i xm hi)
    go_wp2_with fail
    go_region_law (fail)
    all_goals
     go_wp2
     simp [bodyPost,results,Tryz.results275,go_sem]
     exact pst_ok PXh.out ⟨rfl,HST.out.set _ _,m,vv,by first|exact R2.out|exact R2.out.on ok (Below.refl _ _).drew⟩
end
end Nm
namespace Nm
open Go.RowKit Go.Maps Tr
theorem bind_err {α β:Type}{x:NE α}{f:α→NE β}{e:Nat × Int}(h:x=.error e):(x >>= f)=.error e:=by rw [h];rfl
theorem bind_val {α β:Type}{x:NE α}{f:α→NE β}{a:α}(h:x=.ok a):(x >>= f)=f a:=by rw [h];rfl
structure SameV (s t:St):Prop where
 vars:t.vars=s.vars
 envs:t.envs=s.envs
theorem SameV.refl (s:St):SameV s s:=⟨rfl,rfl⟩
theorem SameV.trans {a b c:St}(h:SameV a b)(k:SameV b c):SameV a c:=⟨k.vars.trans h.vars,k.envs.trans h.envs⟩
theorem SameV.ok {a b:St}(h:SameV a b)(k:StOk a):StOk b:=⟨by rw [h.vars];exact k.vfew,by rw [h.vars,h.envs];exact k.efew⟩
section
variable {ns:List Nd}{S:Nat→Nat}{tabs:List Tb}
theorem tableOf_same {i x:Nat}{s t:St}(h:tableOf ns tabs i s=.ok (x,t)):SameV s t:=by
 unfold tableOf at h
 split at h
 · cases h
 · cases h;exact ⟨rfl,rfl⟩
theorem tableOf_lt {i x:Nat}{s t:St}(h:tableOf ns tabs i s=.ok (x,t)):x<tabs.length:=by
 unfold tableOf at h
 split at h
 · cases h
 · rename_i j hj
   cases h
   unfold idx at hj
   have:=(List.findIdx?_eq_some_iff_findIdx_eq.1 hj).1
   simpa using this
theorem column_same {i x:Nat}{s t:St}(h:column ns tabs i x s=.ok t):SameV s t:=by
 unfold column at h
 split at h
 · cases h
 · cases h;exact ⟨rfl,rfl⟩
theorem expr_same:∀(f i l:Nat) {s t:St},expr ns f i l s=.ok t→SameV s t
 | 0,_,_,_,_,h=>by cases h
 | f+1,i,0,s,t,h=>by cases h;exact ⟨rfl,rfl⟩
 | f+1,i,l+1,s,t,h=>by
  simp only [expr] at h
  split at h
  · split at h
    · cases h
    · exact (show SameV s (s.set i _) from ⟨rfl,rfl⟩).trans (expr_same f _ _ h)
  · exact expr_same f _ _ h
theorem row_same {i x:Nat}{s t:St}(h:row ns tabs i s=.ok (x,t)):SameV s t:=by
 unfold row at h
 obtain ⟨⟨t1,s1⟩,h1,h⟩:=bind_ok h
 obtain ⟨s2,h2,h⟩:=bind_ok h
 cases h
 exact (tableOf_same h1).trans (expr_same _ _ _ h2)
theorem row_lt {i x:Nat}{s t:St}(h:row ns tabs i s=.ok (x,t)):x<tabs.length:=by
 unfold row at h
 obtain ⟨⟨t1,s1⟩,h1,h⟩:=bind_ok h
 obtain ⟨s2,h2,h⟩:=bind_ok h
 cases h
 exact tableOf_lt h1
theorem exprs_same:∀(l:List Nat) {s t:St},exprs ns l s=.ok t→SameV s t
 | [],_,_,h=>by cases h;exact ⟨rfl,rfl⟩
 | i::r,s,t,h=>by
  unfold exprs at h
  obtain ⟨s1,h1,h⟩:=bind_ok h
  exact (expr_same _ _ _ h1).trans (exprs_same r h)
end
section
variable {C:Cx}{of:List Int}{w:World}
theorem Lo.kid (h:Lo C of w)(ok:CxOk C){i:Nat}(hi:i<C.nl){j:Nat}(hj:j<(nd C.ns i).kids.length):∃b off,C.kp i=some ⟨b,off,none⟩∧b<C.Wn.heap.size∧(nd C.ns i).kids.length≤C.kc i∧∀k,k<(nd C.ns i).kids.length→w.cell? ⟨b,off+k,none⟩=some (.int .i64 (Nm.kid C.ns i k:Nat))∧Nm.kid C.ns i k<C.nl∧i<Nm.kid C.ns i k:=by
 have hiv:=(ok.node i hi).iv
 obtain ⟨b,off,e,hb,hc⟩:=hiv.cell (by omega)
 refine ⟨b,off,e,hb,hiv.cap,fun k hk=>?_⟩
 obtain ⟨h1,h2,h3⟩:=ok.rt.kidOf (i:=i) (by rw [ok.nslen];exact hi) hk
 refine ⟨?_,by rw [← ok.nslen];exact h3,h2⟩
 rw [h.bn.cell (p:=⟨b,off+k,none⟩) hb,hc k hk,h1]
end
section
variable {C:Cx}{pb:Nat}{s:St}{pile:List Int}{ms:List (Nat × Bool)}{vv bv pv:Value}{cs:Array Value}{w:World}
theorem row_at {m:Nat × Bool}{r:List (Nat × Bool)}(h:Rd C pb s pile (m::r) vv bv pv (C.cells vv bv pv) w)(ok:CxOk C){i:Nat}(hi:i<C.nl)(hk:(nd C.ns i).kind=20):Calls Tryz.prog 274 #[.pointer (some ⟨pb,0,none⟩),.int .i64 i] w
 (Pst C (row C.ns C.tabs i s) fun a e w'=>e=.returned (.int .i64 (a.1:Nat))∧Rd C pb a.2 pile (m::r) vv bv pv (C.cells vv bv pv) w'):=by
 have hr:Tr.isR (kindsOf C.ns (nd C.ns i)) [0]=true:=by
  have:=ok.rt.shape i (by rw [ok.nslen];exact hi)
  rw [hk] at this
  simpa [kidsR] using this
 have hkl:(nd C.ns i).kids.length=1:=(ok.rt.want (by rw [ok.nslen];exact hi) hr).1
 obtain ⟨kb,ko,hkp,hkb,hkc,hcell⟩:=h.lo.kid ok hi (j:=0) (by omega)
 have hk1:=(hcell 0 (by omega)).2.1
 have KC:Hid (∀W,Below C.Wn.heap.size C.Wn W→W.cell? ⟨kb,ko,none⟩=some (.int .i64 (Nm.kid C.ns i 0:Nat))):=lh (fun W hW=>by
  have hc:=(hcell 0 (by omega)).1
  rw [h.lo.bn.cell (p:=⟨kb,ko+0,none⟩) hkb] at hc
  rw [hW.cell (p:=⟨kb,ko,none⟩) hkb]
  exact hc)
 have TB:=lh (tableOf_at h ok hi)
 have cp:=h.pcells.1
 clear hr hcell h
 cases hx:tableOf C.ns C.tabs i s with
 | error x =>
  go_enter Tryz.func274,Tryz.ntmps274
  go_wp2_with fail
  (with_reducible refine (get_no TB.out hx).mono ?_)
  rintro e w9 ⟨rfl,hB⟩
  simp only [wrongV]
  go_wp2
  exact ⟨rfl,pst_no (bind_err hx) hB⟩
 | ok a =>
  obtain ⟨t,s1⟩:=a
  have HX:=lh hx
  go_enter Tryz.func274,Tryz.ntmps274
  go_wp2_with fail
  (with_reducible refine (get_ok TB.out hx).mono ?_)
  rintro e w1 ⟨rfl,hR1⟩
  have R1:=lh hR1
  have cp1:=hR1.pcells.1
  have ND:=lh (node_at hR1.lo ok hi)
  have fl:=nd_f4
  unfold nodeV at ND
  rw [hkp,hkl] at ND
  clear hx TB hR1 cp
  go_wp2_with fail
  (with_reducible refine ND.out.mono ?_)
  rintro e w2 ⟨rfl,hb⟩
  have R2:=lh (R1.out.on ok hb)
  have EX:=lh (expr_at R2.out ok hk1)
  have kc:=KC.out w2 R2.out.lo.bn
  generalize hq:Nm.kid C.ns i 0=q at *
  have HQ:Hid (row C.ns C.tabs i s=(exprAt C.ns q s1 >>= fun s2=>.ok (t,s2))):=lh (by
   have:row C.ns C.tabs i s=(exprAt C.ns (Nm.kid C.ns i 0) s1 >>= fun s2=>.ok (t,s2)):=bind_val HX.out
   rw [hq] at this
   exact this)
  clear hb ND R1 hq
  cases hx:exprAt C.ns q s1 with
  | error x =>
   go_wp2_with fail
   (with_reducible refine (get_no EX.out hx).mono ?_)
   rintro e w9 ⟨rfl,hB⟩
   simp only [wrongV]
   go_wp2
   exact ⟨rfl,pst_no (HQ.out.trans (bind_err hx)) hB⟩
  | ok s2 =>
   go_wp2_with fail
   (with_reducible refine (get_ok EX.out hx).mono ?_)
   rintro e w3 ⟨rfl,hR3⟩
   have R3:=lh hR3
   have HE:=lh (HQ.out.trans (bind_val hx))
   clear hR3
   go_wp2
   go_ret
   exact pst_ok HE.out ⟨rfl,R3.out⟩
end
end Nm
namespace Nm
open Go.RowKit Go.Maps Tr
section
variable {C:Cx}{pb:Nat}{s:St}{pile:List Int}{ms:List (Nat × Bool)}{vv bv pv:Value}{cs:Array Value}{w:World}
theorem release_at {m:Nat × Bool}{r:List (Nat × Bool)}(h:Rd C pb s pile (m::r) vv bv pv (C.cells vv bv pv) w)(ok:CxOk C){i:Nat}(hi:i<C.nl):Calls Tryz.prog 279 #[.pointer (some ⟨pb,0,none⟩),.int .i64 i] w
 (Pst C (if (nd C.ns i).kind=20 then row C.ns C.tabs i s else tableOf C.ns C.tabs i s) fun a e w'=>e=.returned (.tuple #[])∧Rd C pb a.2 pile (m::r) vv bv pv (C.cells vv bv pv) w'):=by
 have cp:=h.pcells.1
 have ND:=lh (node_at h.lo ok hi)
 have HS:=lh h
 have fl:=nd_f0
 unfold nodeV at ND
 clear h
 by_cases hk:(nd C.ns i).kind=20
 · rw [if_pos hk]
   have hkb:((nd C.ns i).kind==20)=true:=by simp [hk]
   have RW:=lh (fun W (hW:Below w.heap.size w W)=>row_at (HS.out.on ok hW) ok hi hk)
   generalize (nd C.ns i).kind=kd at *
   subst hk
   go_enter Tryz.func279,Tryz.ntmps279
   go_wp2_with fail
   (with_reducible refine ND.out.mono ?_)
   rintro e w2 ⟨rfl,hb⟩
   have R2:=lh (RW.out _ hb)
   clear hb ND RW HS
   cases hx:row C.ns C.tabs i s with
   | error x =>
    go_wp2_with fail
    (with_reducible refine (get_no R2.out hx).mono ?_)
    rintro e w9 ⟨rfl,hB⟩
    simp only [wrongV]
    go_wp2
    exact ⟨rfl,pst_no (hx) hB⟩
   | ok a =>
    go_wp2_with fail
    (with_reducible refine (get_ok R2.out hx).mono ?_)
    rintro e w3 ⟨rfl,hR3⟩
    have R3:=lh hR3
    clear hR3
    go_wp2
    simp [bodyPost,results,Tryz.results279,go_sem]
    exact pst_ok hx ⟨rfl,R3.out⟩
 · rw [if_neg hk]
   have hkb:((nd C.ns i).kind==20)=false:=by simp [hk]
   have RW:=lh (fun W (hW:Below w.heap.size w W)=>tableOf_at (HS.out.on ok hW) ok hi)
   have RS:=lh (fun W (hW:Below w.heap.size w W)=>(HS.out.on ok hW).pcells.1)
   generalize (nd C.ns i).kind=kd at *
   go_enter Tryz.func279,Tryz.ntmps279
   go_wp2_with fail
   (with_reducible refine ND.out.mono ?_)
   rintro e w2 ⟨rfl,hb⟩
   have R2:=lh (RW.out _ hb)
   have cp2:=RS.out _ hb
   clear hb ND RW HS RS
   cases hx:tableOf C.ns C.tabs i s with
   | error x =>
    go_wp2_with fail
    (with_reducible refine (get_no R2.out hx).mono ?_)
    rintro e w9 ⟨rfl,hB⟩
    simp only [wrongV]
    go_wp2
    exact ⟨rfl,pst_no (hx) hB⟩
   | ok a =>
    go_wp2_with fail
    (with_reducible refine (get_ok R2.out hx).mono ?_)
    rintro e w3 ⟨rfl,hR3⟩
    have R3:=lh hR3
    clear hR3
    go_wp2
    simp [bodyPost,results,Tryz.results279,go_sem]
    exact pst_ok hx ⟨rfl,R3.out⟩
theorem chop_at {m:Nat × Bool}{r:List (Nat × Bool)}(h:Rd C pb s pile (m::r) vv bv pv (C.cells vv bv pv) w)(ok:CxOk C){i:Nat}(hi:i<C.nl):Calls Tryz.prog 281 #[.pointer (some ⟨pb,0,none⟩),.int .i64 i] w
 (Pst C (if 1<s.envs.length then (.error (i,73):NE St) else .ok s) fun s' e w'=>e=.returned (.tuple #[])∧Rd C pb s' pile (m::r) vv bv pv (C.cells vv bv pv) w'):=by
 obtain ⟨cp,_,c2,_⟩:=h.pcells
 obtain ⟨g,cap,rfl,hcap,hcm,_,_,_,_,_⟩:=h.inner
 have hl:=h.maps.len
 have FL:=lh (fail_at h.lo ok hi 73)
 have HS:=lh h
 have he:s.envs.length=r.length+1:=by simpa using hl
 rw [he]
 obtain ⟨n,hn⟩:∃n,r.length+1=n:=⟨_,rfl⟩
 have HN:=lh hn
 rw [hn] at c2 ⊢
 clear h hl he
 by_cases h1:1<n
 · rw [if_pos h1]
   have hb:(1:Int)<(n:Int):=by omega
   clear hn
   go_enter Tryz.func281,Tryz.ntmps281
   go_wp2_with fail
   (with_reducible refine FL.out.mono ?_)
   rintro e w2 ⟨rfl,hb⟩
   simp only [wrongV]
   have HB:=lh (HS.out.bnOn ok hb)
   clear hb
   go_wp2
   exact ⟨rfl,rfl,HB.out⟩
 · rw [if_neg h1]
   have hb:¬ (1:Int)<(n:Int):=by omega
   clear hn
   go_enter Tryz.func281,Tryz.ntmps281
   go_wp2
   simp [bodyPost,results,Tryz.results281,go_sem]
   rw [← HN.out]
   exact ⟨rfl,HS.out⟩
end
end Nm
namespace Nm
open Go.RowKit Go.Maps Tr
theorem regOut {P:Program}{A:Prop}(w:World)(h:A)(_:wpAny P .any #[] (fun _ _ _=>True) 0 #[] { tmps:=#[],defers:=[] } w):A:=h
theorem ksl_run (W:World)(b o len c a:Nat)(h:a≤len)(hc:a<c):(Instr.sliceAt 32 (.slice (some ⟨b,o,none⟩) len c) (some (.int .i64 a)) none none).run Tryz.prog W=.ok (.slice (some ⟨b,o+a,none⟩) (len-a) (c-a)) W:=by
 have hu:Tryz.prog.underlying 32=some (.slice (Tryz.prog.elem 32)):=by kernel_rfl
 have hz:∀W,(sizeOf (Tryz.prog.elem 32)).run Tryz.prog W=.ok 1 W:=fun _=>by kernel_rfl
 rw [run_sliceAt_slice W 32 _ _ _ _ hu,run_slice_l W 32 _ len c hu .i64 a (by omega) (by omega),hz]
 have hne:¬ c=a:=by omega
 have e:(⟨b,o,none⟩:Addr).add (a*1)=⟨b,o+a,none⟩:=by simp [Addr.add]
 have e2:(⟨b,o,none⟩:Addr).add a=⟨b,o+a,none⟩:=by simp [Addr.add]
 simp [Result.andThen,hne,e2,sliced]
theorem kids_drop {ns:List Nd}{i j:Nat}(hj:j<(nd ns i).kids.length):(((nd ns i).kids.drop j).map Int.toNat)=kid ns i j::(((nd ns i).kids.drop (j+1)).map Int.toNat):=by
 rw [List.drop_eq_getElem_cons hj,List.map_cons]
 congr 1
 simp [kid,List.getD,hj]
section
variable {C:Cx}{pb:Nat}{s:St}{pile:List Int}{ms:List (Nat × Bool)}{vv bv pv:Value}{cs:Array Value}{w:World}
theorem put_at {m:Nat × Bool}{r:List (Nat × Bool)}(h:Rd C pb s pile (m::r) vv bv pv (C.cells vv bv pv) w)(ok:CxOk C){i:Nat}(hi:i<C.nl)(hk:(nd C.ns i).kind=9):Calls Tryz.prog 277 #[.pointer (some ⟨pb,0,none⟩),.int .i64 i] w
 (Pst C (put C.ns C.tabs i s) fun s' e w'=>e=.returned (.tuple #[])∧Rd C pb s' pile (m::r) vv bv pv (C.cells vv bv pv) w'):=by
 have hkr:1<(nd C.ns i).kids.length∧(nd C.ns (Nm.kid C.ns i 0)).kind=20:=by
  have:=ok.rt.shape i (by rw [ok.nslen];exact hi)
  rw [hk] at this
  have h9:(decide (1<(kindsOf C.ns (nd C.ns i)).length)&&((kindsOf C.ns (nd C.ns i)).getD 0 0==20&&((kindsOf C.ns (nd C.ns i)).drop 1).all isExprK))=true:=by simpa [kidsR] using this
  simp only [Bool.and_eq_true,decide_eq_true_eq,beq_iff_eq,kindsOf_len] at h9
  refine ⟨h9.1,?_⟩
  rw [← kindsOf_get C.ns i 0 (by omega)]
  exact h9.2.1
 obtain ⟨hkn,hk0⟩:=hkr
 obtain ⟨kb,ko,hkp,hkb,hkc,hcell⟩:=h.lo.kid ok hi (j:=0) (by omega)
 have hkfew:(nd C.ns i).kids.length≤70000:=by
  have h1:=(hcell ((nd C.ns i).kids.length-1) (by omega)).2
  have h2:=ok.few
  have h3:=ok.rt.sz.chain i (by rw [ok.nslen];exact hi)
  have h4:=ok.rt.for_le _ _ _ (chain_for _ _ _ h3) (by rw [ok.nslen];omega)
  have h5:(nd C.ns i).kids.length=(kidsAt C.ns i).length:=rfl
  have h6:=ok.nslen
  omega
 have KR:Hid (∀k,k<(nd C.ns i).kids.length→Nm.kid C.ns i k<C.nl):=lh (fun k hk=>(hcell k hk).2.1)
 have KC:Hid (∀k,k<(nd C.ns i).kids.length→∀W,Below C.Wn.heap.size C.Wn W→W.cell? ⟨kb,ko+k,none⟩=some (.int .i64 (Nm.kid C.ns i k:Nat))):=lh (fun k hk W hW=>by
  have hc:=(hcell k hk).1
  rw [h.lo.bn.cell (p:=⟨kb,ko+k,none⟩) hkb] at hc
  rw [hW.cell (p:=⟨kb,ko+k,none⟩) hkb]
  exact hc)
 have hk1:=(hcell 0 (by omega)).2.1
 have cp:=h.pcells.1
 have ND:=lh (node_at h.lo ok hi)
 have RH:=lh (fun W (hW:Below w.heap.size w W)=>h.on ok hW)
 have fl:=nd_f4
 have PX:put C.ns C.tabs i s=(tableOf C.ns C.tabs (Nm.kid C.ns i 0) s >>= fun a=>if (nd C.ns i).kids.length≠((C.tabs.map Tb.cols).getD a.1 []).length+1 then .error (i,72) else (row C.ns C.tabs (Nm.kid C.ns i 0) a.2 >>= fun b=>exprs C.ns (((nd C.ns i).kids.drop 1).map Int.toNat) (b.2.set i b.1))):=rfl
 have PXh:=lh PX
 have DR:Hid (∀j,j<(nd C.ns i).kids.length→(((nd C.ns i).kids.drop j).map Int.toNat)=Nm.kid C.ns i j::(((nd C.ns i).kids.drop (j+1)).map Int.toNat)):=lh (fun j hj=>kids_drop hj)
 have DE:Hid ((((nd C.ns i).kids.drop (nd C.ns i).kids.length).map Int.toNat)=[]):=lh (by simp)
 unfold nodeV at ND
 rw [hkp] at ND
 generalize (nd C.ns i).kids.map Int.toNat=kidsN at *
 generalize hkg:(nd C.ns i).kids.length=kn at *
 obtain ⟨kc,hkce⟩:∃kc,C.kc i=kc:=⟨_,rfl⟩
 rw [hkce] at ND hkc
 have i0:(0:Int)≤(i:Int):=by omega
 have i1:(i:Int)<(C.nl:Int):=by omega
 have n1:(1:Int)<(kn:Int):=by omega
 have n0:(0:Int)<(kn:Int):=by omega
 have n0n:0<kn:=by omega
 have nw:IntKind.i64.wrap ((kn:Int)-1)=(kn:Int)-1:=IntWalk.i64_in _ (by omega)
 have sl:=fun W=>ksl_run W kb ko kn kc 1 (by omega) (by omega)
 clear PX hcell h hkp hkce hkg
 generalize hq:Nm.kid C.ns i 0=q at *
 have HQ:=lh hq
 clear hq
 go_enter Tryz.func277,Tryz.ntmps277
 go_wp2_with fail
 (with_reducible refine ND.out.mono ?_)
 rintro e w1 ⟨rfl,hb⟩
 have R1:=lh (RH.out _ hb)
 have cp1:=R1.out.pcells.1
 have kc1:w1.cell? ⟨kb,ko,none⟩=some (.int .i64 (q:Nat)):=by
  have:=KC.out 0 (by omega) w1 R1.out.lo.bn
  rw [HQ.out] at this
  exact this
 clear hb ND RH cp
 have TB:=lh (fun W (hW:Below w1.heap.size w1 W)=>tableOf_at (R1.out.on ok hW) ok hk1)
 cases hx:tableOf C.ns C.tabs q s with
 | error x =>
  go_wp2_with fail
  go_region_with (go_at_call 278;(with_reducible refine (get_no (TB.out _ ((Below.refl _ _).drew)) hx).mono ?_);rintro e w9 ⟨rfl,hB⟩;simp only [wrongV];refine regOut (P:=Tryz.prog) w9 ⟨rfl,pst_no (PXh.out.trans (bind_err hx)) hB⟩ ?_)
  all_goals trivial
 | ok a =>
  obtain ⟨t,s1⟩:=a
  have HX:=lh hx
  have htl:=tableOf_lt hx
  clear hx
  have PX1:Hid (put C.ns C.tabs i s=if kn≠((C.tabs.map Tb.cols).getD t []).length+1 then .error (i,72) else (row C.ns C.tabs q s1 >>= fun b=>exprs C.ns (((nd C.ns i).kids.drop 1).map Int.toNat) (b.2.set i b.1))):=lh (PXh.out.trans (bind_val HX.out))
  clear PXh
  go_wp2_with fail
  go_region_held3 (fun w'=>w'.cell? ⟨pb,0,none⟩=some (.pointer (some ⟨C.rb,0,none⟩))∧w'.cell? ⟨kb,ko,none⟩=some (.int .i64 (q:Nat))) (first|exact ⟨cp1,kc1⟩|exact ⟨R2.out.pcells.1,kc2⟩|go_keep)
   ((go_at_call 278;(with_reducible refine (get_ok (TB.out _ ((Below.refl _ _).drew)) HX.out).mono ?_);rintro e w2 ⟨rfl,hR2⟩;have R2:=lh hR2;have kc2:w2.cell? ⟨kb,ko,none⟩=some (.int .i64 (q:Nat)):=(by have:=KC.out 0 (by omega) w2 hR2.lo.bn;rw [HQ.out] at this;exact this);clear hR2))
  have cp2:=R2.out.pcells.1
  obtain ⟨cb,cc,cm,hcv,hcc,cm1,cm2⟩:=R2.out.lo.cols ok t htl
  have HM:=lh cm2
  have c6:=(R2.out.lo.cells ok).2.2.2.2
  rw [hcv] at c6
  clear hcv
  have t0:(0:Int)≤(t:Int):=by omega
  have t1:(t:Int)<(C.tabs.length:Int):=by omega
  have hsz:Maps.size (numD ((C.tabs.map Tb.cols).getD t []):MD)=((C.tabs.map Tb.cols).getD t []).length:=numD_size _ (ok.cap t)
  have hcf:=ok.cfew t
  generalize ((C.tabs.map Tb.cols).getD t [])=cl at *
  clear cm2 TB R1 cp1 kc1 HX
  by_cases hcn:kn=cl.length+1
  · have hbn:(((kn:Int)-1) != (cl.length:Int))=false:=by simp;omega
    have n70:kn-1≤70000:=by omega
    have PX2:Hid (put C.ns C.tabs i s=(row C.ns C.tabs q s1 >>= fun b=>exprs C.ns (((nd C.ns i).kids.drop 1).map Int.toNat) (b.2.set i b.1))):=lh (PX1.out.trans (if_neg (by simp [hcn])))
    clear PX1
    clear hcn
    have RW:=lh (fun W (hW:Below w2.heap.size w2 W)=>row_at (R2.out.on ok hW) ok hk1 hk0)
    have c3:=(R2.out.lo.cells ok).2.1
    cases hx:row C.ns C.tabs q s1 with
    | error x =>
     go_wp2_with (at_len;refine wpList_len_own _ rfl _ 134 rfl 9 3 Tryz.underlying134 (plainElem Tryz.prog 3) cm _ _ rfl HM.out ?_;rw [hsz])
     go_region_with (go_at_call 274;(with_reducible refine (get_no (RW.out _ ((Below.refl _ _).drew)) hx).mono ?_);rintro e w9 ⟨rfl,hB⟩;simp only [wrongV];refine regOut (P:=Tryz.prog) w9 ⟨rfl,pst_no (PX2.out.trans (bind_err hx)) hB⟩ ?_)
     all_goals trivial
    | ok b =>
     obtain ⟨t',s2⟩:=b
     have HX:=lh hx
     have PX3:Hid (put C.ns C.tabs i s=exprs C.ns (((nd C.ns i).kids.drop 1).map Int.toNat) (s2.set i t')):=lh (PX2.out.trans (bind_val hx))
     clear hx PX2
     go_wp2_with (at_len;refine wpList_len_own _ rfl _ 134 rfl 9 3 Tryz.underlying134 (plainElem Tryz.prog 3) cm _ _ rfl HM.out ?_;rw [hsz])
     go_region_held3 (fun w'=>w'.cell? ⟨pb,0,none⟩=some (.pointer (some ⟨C.rb,0,none⟩))∧w'.cell? ⟨kb,ko,none⟩=some (.int .i64 (q:Nat))∧w'.cell? ⟨C.rb,3,none⟩=some (.slice (some ⟨C.ob,0,none⟩) C.nl C.oc)) (first|exact ⟨cp2,kc2,c3⟩|exact SK3.out|exact SK4.out|go_keep)
      ((go_at_call 274;(with_reducible refine (get_ok (RW.out _ ((Below.refl _ _).drew)) HX.out).mono ?_);rintro e w3 ⟨rfl,hR3⟩;have R3:=lh hR3;have KQ:Hid (∀W,Below C.Wn.heap.size C.Wn W→W.cell? ⟨kb,ko,none⟩=some (.int .i64 (q:Nat))):=lh (fun W hW=>(by have:=KC.out 0 (by omega) W hW;rw [HQ.out] at this;exact this));have SK3:=lh (And.intro hR3.pcells.1 (And.intro (KQ.out _ hR3.lo.bn) (hR3.lo.cells ok).2.1));have R4:=lh (hR3.setOf ok i t' hi);have SK4:=lh (And.intro R4.out.pcells.1 (And.intro (KQ.out _ R4.out.lo.bn) (R4.out.lo.cells ok).2.1));have k3:=(hR3.lo.ofCell i hi).1;have z3:=(hR3.lo.ofCell i hi).2;clear hR3))
     generalize World.setCell w3 ⟨C.ob,i,none⟩ (.int .i64 (t':Nat))=w4 at *
     clear SK3 SK4 k3 z3 R3 RW R2 cp2 kc2 c3 HM KQ
     generalize s2.set i t'=s4 at *
     obtain ⟨RR,hRR⟩:∃RR,exprs C.ns (((nd C.ns i).kids.drop 1).map Int.toNat) s4=RR:=⟨_,rfl⟩
     have HP:=lh (PX3.out.trans hRR)
     have HR:=lh hRR
     clear hRR PX3
     go_wp2_with fail
     go_loopw [62] (fun iv wr=>∃(j:Nat) (s':St),j+1≤kn∧iv=.int .i64 j∧Hid (exprs C.ns (((nd C.ns i).kids.drop (j+1)).map Int.toNat) s'=RR)∧Hid (Rd C pb s' pile (m::r) vv bv pv (C.cells vv bv pv) wr)) (fun iv _=>kn-(intOf iv).toNat)
     case atStart=>exact ⟨0,s4,by omega,rfl,HR,by first|exact R4|exact lh (R4.out.on ok (Below.refl _ _).drew)⟩
     case round =>
      obtain ⟨j,s',hj,rfl,HRi,HSi⟩:=hrel
      have j0:(0:Int)≤(j:Int):=by omega
      by_cases hjn:j+1<kn
      · have j1:(j:Int)<((kn-1:Nat):Int):=by omega
        have kj:=KC.out (j+1) hjn wr HSi.out.lo.bn
        have kj':wr.cell? ⟨kb,ko+1+j,none⟩=some (.int .i64 (Nm.kid C.ns i (j+1):Nat)):=by rw [show ko+1+j=ko+(j+1) by omega];exact kj
        have EX:=lh (expr_at HSi.out ok (KR.out (j+1) hjn))
        have HRj:Hid ((exprAt C.ns (Nm.kid C.ns i (j+1)) s' >>= exprs C.ns (((nd C.ns i).kids.drop (j+1+1)).map Int.toNat))=RR):=lh (by
         have:=HRi.out
         rw [DR.out (j+1) hjn] at this
         exact this)
        have jw:IntKind.i64.wrap ((j:Int)+1)=((j+1:Nat):Int):=by rw [IntWalk.i64_in _ (by omega)];omega
        generalize Nm.kid C.ns i (j+1)=qj at *
        clear kj HSi HRi
        cases hx:exprAt C.ns qj s' with
        | error x =>
         go_wp2_with fail
         (with_reducible refine (get_no EX.out hx).mono ?_)
         rintro e w9 ⟨rfl,hB⟩
         simp only [wrongV]
         go_wp2
         exact ⟨rfl,pst_no (HP.out.trans (HRj.out.symm.trans (bind_err hx))) hB⟩
        | ok s2 =>
         go_wp2_with fail
         (with_reducible refine (get_ok EX.out hx).mono ?_)
         rintro e w3 ⟨rfl,hR3⟩
         have R3:=lh hR3
         have HN:=lh ((bind_val hx).symm.trans HRj.out)
         clear hR3 hx EX HRj
         go_wp2
         go_roundw
         case rel=>exact ⟨j+1,s2,by omega,rfl,HN,R3⟩
         case measure=>simp [intOf];omega
      · have j1:¬ (j:Int)<((kn-1:Nat):Int):=by omega
        have hF:Pst C (put C.ns C.tabs i s) (fun s' e w'=>e=.returned (.tuple #[])∧Rd C pb s' pile (m::r) vv bv pv (C.cells vv bv pv) w') (.returned (.tuple #[])) wr:=by
         have:=HRi.out
         rw [show j+1=kn by omega,DE.out] at this
         exact pst_ok (HP.out.trans this.symm) ⟨rfl,HSi.out⟩
        have HFh:=lh hF
        clear hF HRi HSi
        go_wp2
        simp [bodyPost,results,Tryz.results277,go_sem]
        exact HFh.out
  · have hbn:(((kn:Int)-1) != (cl.length:Int))=true:=by simp;omega
    have PX2:=lh (PX1.out.trans (if_pos hcn))
    clear PX1
    clear hcn
    have FL:=lh (fail_at R2.out.lo ok hi 72)
    go_wp2_with (first|(at_len;refine wpList_len_own _ rfl _ 134 rfl 9 3 Tryz.underlying134 (plainElem Tryz.prog 3) cm _ _ rfl HM.out ?_;rw [hsz])|fail)
    (with_reducible refine FL.out.mono ?_)
    rintro e w9 ⟨rfl,hb⟩
    simp only [wrongV]
    have HB:=lh (R2.out.bnOn ok hb)
    clear hb
    go_wp2
    exact ⟨rfl,pst_no PX2.out HB.out⟩
end
end Nm
end Go.Proofs.YthdioipfdbbmmaaGreatDoor
