/- Contracts. -/
import Derived.Test.YthdioipfdbbmmaaGreatDoorKah
import Derived.Test.YthdioipfdbbmmaaGreatDoorKbh
import Derived.Test.YthdioipfdbbmmaaGreatDoorKbi
import Derived.Deep.LoopGhost
set_option linter.all false
set_option maxRecDepth 1000000
set_option maxHeartbeats 16000000
namespace Go.Proofs.YthdioipfdbbmmaaGreatDoor
namespace Nm
open Go.RowKit Go.Maps Tr
section
variable {C:Cx}{pb:Nat}{s:St}{pile:List Int}{ms:List (Nat × Bool)}{vv bv pv:Value}{cs:Array Value}{w:World}
theorem statement_at (h:RdE C pb s pile w)(ok:CxOk C){i:Nat}(hit:ItOk C.ns (some i))(he:0<s.envs.length)(hel:s.envs.length≤700000)(hp:pile.length≤700000) :
 Calls Tryz.prog 249 #[.pointer (some ⟨pb,0,none⟩),.int .i64 i] w (Pst C (statement C.ns C.tabs i s) fun a e w'=>e=.returned (.tuple #[])∧RdE C pb a.2 (a.1.map itI++pile) w'):=by
 obtain ⟨hst,ms,vv,bv,pv,hR⟩:=h
 have hl:=hR.maps.len
 cases ms with
 | nil=>simp only [List.length_nil] at hl;omega
 | cons m r =>
  have hr:r.length≤700000:=by simp only [List.length_cons] at hl;omega
  obtain ⟨_,h2,h3⟩:=hit
  have hi:i<C.nl:=by rw [← ok.nslen];exact h2
  have hks:(nd C.ns i).kind=6∨(nd C.ns i).kind=7∨(nd C.ns i).kind=8∨(nd C.ns i).kind=9∨(nd C.ns i).kind=10∨(nd C.ns i).kind=11∨(nd C.ns i).kind=12∨(nd C.ns i).kind=13∨(nd C.ns i).kind=14∨(nd C.ns i).kind=15∨(nd C.ns i).kind=16∨(nd C.ns i).kind=17∨(nd C.ns i).kind=18∨(nd C.ns i).kind=19:=by omega
  rcases hks with hk|hk|hk|hk|hk|hk|hk|hk|hk|hk|hk|hk|hk|hk
  · exact stmt6_at hR hst ok hi hk hr hp
  · exact stmt7_at hR hst ok hi hk hr hp
  · exact stmt8_at hR hst ok hi hk hr hp
  · exact stmt9_at hR hst ok hi hk hr hp
  · exact stmt10_at hR hst ok hi hk hr hp
  · exact stmt11_at hR hst ok hi hk hr hp
  · exact stmt12_at hR hst ok hi hk hr hp
  · exact stmt13_at hR hst ok hi hk hr hp
  · exact stmt14_at hR hst ok hi hk hr hp
  · exact stmt15_at hR hst ok hi hk hr hp
  · exact stmt16_at hR hst ok hi hk hr hp
  · exact stmt17_at hR hst ok hi hk hr hp
  · exact stmt18_at hR hst ok hi hk hr hp
  · exact stmt19_at hR hst ok hi hk hr hp
end
end Nm
namespace Nm
open Go.RowKit Go.Maps Tr
theorem read_nil (ns:List Nd)(tabs:List Tb)(g:Nat)(s:St):read ns tabs g [] s=.ok s:=by cases g<;>rfl
theorem meas_len {S:Nat→Nat}{ns:List Nd}(h:Rt ns S):∀(l:List Item),(∀x∈l,ItOk ns x)→l.length≤meas S l
 | [],_=>Nat.zero_le _
 | x::l,hx=>by
  have ih:=meas_len h l (fun y hy=>hx y (List.mem_cons_of_mem _ hy))
  have h1:1≤wt S x:=by
   cases x with
   | none=>exact Nat.le_refl _
   | some i =>
    have:=(h.sz.size i (hx (some i) (by simp)).2.1).1
    simp [wt];omega
  simp only [List.length_cons,meas,List.map_cons,List.sum_cons] at ih ⊢
  omega
theorem ends_le (l:List Item):ends l≤l.length:=List.countP_le_length
theorem own_at_top {w:World}{base:Nat}{xs:List Int}{x:Int}{g n cap:Nat}(h:w.ownsRow base 3 1 (.slice (some ⟨g,0,none⟩) n cap) n (pileC (x::xs)))(hn:n=xs.length+1):w.cell? ⟨g,xs.length,none⟩=some (.int .i64 x):=by
 subst hn
 rw [World.ownsRow.cellAt h xs.length (by omega)]
 simp [pileC,ints]
theorem ends_none (r:List Item):ends (none::r)=ends r+1:=by simp [ends]
theorem ends_some (i:Nat)(r:List Item):ends (some i::r)=ends r:=by simp [ends]
theorem pop_runI (W:World)(g len c e:Nat)(h:e≤c)(hc:0<c):(Instr.sliceAt 32 (.slice (some ⟨g,0,none⟩) len c) none (some (.int .i64 e)) none).run Tryz.prog W=.ok (.slice (some ⟨g,0,none⟩) e c) W:=by
 have hu:Tryz.prog.underlying 32=some (.slice (Tryz.prog.elem 32)):=by kernel_rfl
 have hz:∀W,(sizeOf (Tryz.prog.elem 32)).run Tryz.prog W=.ok 1 W:=fun _=>by kernel_rfl
 rw [run_sliceAt_slice W 32 _ _ _ _ hu,run_slice_h W 32 (some ⟨g,0,none⟩) len c hu .i64 e (by omega) (by omega),hz]
 have hc0:¬ c=0:=by omega
 simp [sliced,hc0,Addr.add]
theorem pop_runB (W:World)(g len c e:Nat)(h:e≤c)(hc:0<c):(Instr.sliceAt 274 (.slice (some ⟨g,0,none⟩) len c) none (some (.int .i64 e)) none).run Tryz.prog W=.ok (.slice (some ⟨g,0,none⟩) e c) W:=by
 have hu:Tryz.prog.underlying 274=some (.slice (Tryz.prog.elem 274)):=by kernel_rfl
 have hz:∀W,(sizeOf (Tryz.prog.elem 274)).run Tryz.prog W=.ok 2 W:=fun _=>by kernel_rfl
 rw [run_sliceAt_slice W 274 _ _ _ _ hu,run_slice_h W 274 (some ⟨g,0,none⟩) len c hu .i64 e (by omega) (by omega),hz]
 have hc0:¬ c=0:=by omega
 simp [sliced,hc0,Addr.add]
section
variable {C:Cx}{pb:Nat}{s:St}{pile:List Int}{ms:List (Nat × Bool)}{vv bv pv:Value}{cs:Array Value}{w:World}
theorem read_at (h:RdE C pb s [] w)(ok:CxOk C){own:Nat}(hi:own<C.nl)(hk:(nd C.ns own).kind=6)(he:s.envs.length=1) :
 Calls Tryz.prog 214 #[.pointer (some ⟨pb,0,none⟩),.int .i64 own] w (Pst C (read C.ns C.tabs (2*C.ns.length+2) (kidsOf C.ns own++[none]) s) fun s' e w'=>e=.returned (.tuple #[])∧RdE C pb s' [] w'):=by
 have hin:own<C.ns.length:=by rw [ok.nslen];exact hi
 have hfew:=ok.few
 have hnl:=ok.nslen
 obtain ⟨R,hR⟩:∃R,read C.ns C.tabs (2*C.ns.length+2) (kidsOf C.ns own++[none]) s=R:=⟨_,rfl⟩
 rw [hR]
 have HR:=lh hR
 have HKP:=lh (kids_pile C.ns ok.rt hin [none])
 have hm0:meas C.S (kidsOf C.ns own++[none])≤2*C.ns.length+2:=by
  rw [meas_app]
  have h1:=ok.rt.meas_kids hin
  have h2:=(ok.rt.sz.size own hin).2
  have h3:meas C.S [none]=1:=rfl
  omega
 have hok0:∀x∈kidsOf C.ns own++[none],ItOk C.ns x:=fun x hx=>by
  rcases List.mem_append.1 hx with hx|hx
  · exact ok.rt.block_kids hin hk x hx
  · rw [List.mem_singleton.1 hx];trivial
 have hen0:s.envs.length=ends (kidsOf C.ns own++[none]):=by rw [ends_app,kinds_ends,he];rfl
 have HM0:=lh hm0
 have HOK0:=lh hok0
 have HEN0:=lh hen0
 obtain ⟨hst,ms0,vv0,bv0,pv0,hRd⟩:=h
 have EN:=lh (enter_at hRd ok hi (by simp))
 have HST:=lh hst
 clear hR hm0 hok0 hen0 hRd hst he
 go_enter Tryz.func214,Tryz.ntmps214
 go_wp2_with fail
 (with_reducible refine EN.out.mono ?_)
 rintro e w1 ⟨rfl,pv1,hR1⟩
 have HE1:Hid (RdE C pb s ((kidsOf C.ns own++[none]).map itI) w1):=lh ⟨HST.out,ms0,vv0,bv0,pv1,by rw [HKP.out];simpa [itI] using hR1⟩
 clear hR1 EN
 go_wp2_with fail
 go_loopg [] (2*C.ns.length+2) (fun g wr=>∃(items:List Item) (s':St),Hid (g≤2*C.ns.length+2)∧Hid (meas C.S items≤g)∧Hid (read C.ns C.tabs g items s'=R)∧Hid (∀x∈items,ItOk C.ns x)∧Hid (s'.envs.length=ends items)∧Hid (items=[]∨items.getLast?=some none)∧Hid (RdE C pb s' (items.map itI) wr))
 case atStart=>exact ⟨kidsOf C.ns own++[none],s,lh (Nat.le_refl _),HM0,HR,HOK0,HEN0,lh (Or.inr (by simp)),HE1⟩
 case round =>
  clear HM0 HR HOK0 HEN0 HE1 HKP
  obtain ⟨items,s',HG,HM,HRi,HOK,HEN,HLA,HE⟩:=hrel
  have hil:items.length≤140002:=by
   have h1:=meas_len ok.rt items HOK.out
   have h2:=HM.out
   have h3:=HG.out
   omega
  have hev:s'.envs.length≤140002:=by
   have h1:=HEN.out
   have h2:=ends_le items
   omega
  obtain ⟨hst,ms,vv,bv,pv,hR⟩:=HE.out
  have HST':=lh hst
  clear hst HE
  cases items with
  | nil =>
   obtain ⟨pp,pc,rfl⟩:=own_slice hR.pile
   have p3:wr.cell? ⟨pb,3,none⟩=some (.slice pp 0 pc):=hR.ccell 3 _ rfl
   have HF:Hid (Pst C R (fun s' e w'=>e=.returned (.tuple #[])∧RdE C pb s' [] w') (.returned (.tuple #[])) wr):=lh (pst_ok (HRi.out.symm.trans (read_nil _ _ _ _)) ⟨rfl,HST'.out,ms,vv,bv,_,hR⟩)
   clear hR HRi
   go_wp2
   simp [bodyPost,results,Tryz.results214,go_sem]
   exact HF.out
  | cons it rest =>
   obtain ⟨pg,pcap,rfl,hpb,hpl⟩:=hR.pile.form (by simp)
   have hpc:rest.length+1≤pcap∧pcap≤9223372036854775807:=by
    rcases hR.pile.2 with ⟨h1,_⟩|⟨g',cap',cur,h1,_,_,h2,h3,_⟩
    · cases h1
    · cases h1
      exact ⟨by simpa using h2,by simpa [maxLen] using h3⟩
   have hlen:((it::rest).map itI).length=rest.length+1:=by simp
   rw [hlen] at hR
   have p3:wr.cell? ⟨pb,3,none⟩=some (.slice (some ⟨pg,0,none⟩) (rest.length+1) pcap):=hR.ccell 3 _ rfl
   have ptop:wr.cell? ⟨pg,rest.length,none⟩=some (.int .i64 (itI it)):=by
    have hpi:=hR.pile
    simp only [List.map_cons,List.length_cons,List.length_map] at hpi
    have:=own_at_top (x:=itI it) (xs:=rest.map itI) hpi (by simp)
    simpa using this
   have R0:Hid (Rd C pb s' (rest.map itI) ms vv bv (.slice (some ⟨pg,0,none⟩) rest.length pcap) (C.cells vv bv (.slice (some ⟨pg,0,none⟩) (rest.length+1) pcap)) wr):=lh (by
    have:=Rd.popItem (x:=itI it) (pile:=rest.map itI) hR (by simp)
    simpa using this)
   have z3:=hR.cfz 3
   obtain ⟨rn,hrn⟩:∃rn,rest.length=rn:=⟨_,rfl⟩
   obtain ⟨rm,hrm⟩:∃rm,rn+1=rm:=⟨_,rfl⟩
   rw [hrn] at p3 ptop R0 hpc
   rw [hrm] at p3 hpc R0
   have j0:(0:Int)≤(rn:Int):=by omega
   have j1:(rn:Int)<(rm:Int):=by omega
   have j2:(0:Int)<(rm:Int):=by omega
   have hrw:IntKind.i64.wrap ((rm:Int)-1)=(rn:Int):=by
    have:rest.length≤140002:=by simp at hil;omega
    rw [IntWalk.i64_in _ (by omega)];omega
   have hsl:=fun W=>pop_runI W pg rm pcap rn (by omega) (by omega)
   have hrl:rest.length≤140002:=by simp at hil;omega
   clear hR hlen hrm hil
   obtain ⟨f,hf⟩:∃f,gk=f+1:=⟨gk-1,by
    have h1:=HM.out
    have h2:=meas_len ok.rt _ HOK.out
    simp at h2;omega⟩
   subst hf
   have R3:Hid (∀n,Rd C pb s' (rest.map itI) ms vv bv (.slice (some ⟨pg,0,none⟩) rn pcap) (C.cells vv bv (.slice (some ⟨pg,0,none⟩) rn pcap)) ((wr.drewN n).setCell ⟨pb,3,none⟩ (.slice (some ⟨pg,0,none⟩) rn pcap))):=lh (fun n=>(R0.out.on ok (bdrewN wr n)).cell ok 3 (.slice (some ⟨pg,0,none⟩) rn pcap))
   go_wp2_with fail
   go_quiet (fail)
   go_wp2_with fail
   have R4:=lh (R3.out (nq+1))
   clear R3 R0
   cases it with
   | none =>
    simp only [itI] at *
    have hml:=R4.out.maps.len
    have hen:s'.envs.length=1+ends rest:=by rw [HEN.out,ends_none];omega
    obtain ⟨m,r,rfl⟩:∃m r,ms=m::r:=by
     cases ms with
     | nil=>simp only [List.length_nil] at hml;omega
     | cons m r=>exact ⟨m,r,rfl⟩
    have hrl2:r.length≤140002:=by simp at hml;omega
    have hin4:=R4.out.inner
    obtain ⟨bg,bcap,rfl,hbc,hbm,_,_,_,_,_⟩:=hin4
    have R5:=lh ((R4.out.popBlock rfl).cell ok 2 (.slice (some ⟨bg,0,none⟩) r.length bcap))
    have STN:StOk { s' with envs:=s'.envs.drop 1 }:=⟨HST'.out.vfew,fun e he=>HST'.out.efew e (List.mem_of_mem_drop he)⟩
    have RN:Hid (∀W,Below (World.setCell (World.setCell (wr.drewN (nq+1)) ⟨pb,3,none⟩ (.slice (some ⟨pg,0,none⟩) rn pcap)) ⟨pb,2,none⟩ (.slice (some ⟨bg,0,none⟩) r.length bcap)).heap.size (World.setCell (World.setCell (wr.drewN (nq+1)) ⟨pb,3,none⟩ (.slice (some ⟨pg,0,none⟩) rn pcap)) ⟨pb,2,none⟩ (.slice (some ⟨bg,0,none⟩) r.length bcap)) W→RdE C pb { s' with envs:=s'.envs.drop 1 } (rest.map itI) W):=lh (fun W hW=>⟨STN,r,vv,.slice (some ⟨bg,0,none⟩) r.length bcap,.slice (some ⟨pg,0,none⟩) rn pcap,R5.out.on ok hW⟩)
    have HRn:Hid (read C.ns C.tabs f rest { s' with envs:=s'.envs.drop 1 }=R):=lh HRi.out
    have HMn:Hid (meas C.S rest≤f):=lh (by have:=HM.out;simp only [meas,List.map_cons,List.sum_cons,wt] at this ⊢;omega)
    have HLn:Hid (rest=[]∨rest.getLast?=some none):=lh (by
     rcases HLA.out with h1|h1
     · cases h1
     · cases rest with
       | nil=>exact Or.inl rfl
       | cons y ys=>rw [List.getLast?_cons_cons] at h1;exact Or.inr h1)
    have HENn:Hid ((s'.envs.drop 1).length=ends rest):=lh (by rw [List.length_drop];omega)
    have HOKn:Hid (∀x∈rest,ItOk C.ns x):=lh (fun x hx=>HOK.out x (List.mem_cons_of_mem _ hx))
    have HGn:Hid (f≤2*C.ns.length+2):=lh (by have:=HG.out;omega)
    have p2:wr.cell? ⟨pb,2,none⟩=some (.slice (some ⟨bg,0,none⟩) (r.length+1) bcap):=by
     have:=R4.out.ccell 2 (.slice (some ⟨bg,0,none⟩) (r.length+1) bcap) rfl
     rw [World.cell?_setCell_other _ _ _ _ (by simp)] at this
     exact this
    have z2:=R4.out.cfz 2
    obtain ⟨bn,hbn⟩:∃bn,r.length+1=bn:=⟨_,rfl⟩
    rw [hbn] at p2 hbc
    have b1:(0:Int)≤(r.length:Int):=by omega
    have b2:(0:Int)<(bn:Int):=by omega
    have hbw:IntKind.i64.wrap ((bn:Int)-1)=(r.length:Int):=by rw [IntWalk.i64_in _ (by omega)];omega
    have hbsl:=fun W=>pop_runB W bg bn bcap r.length (by omega) (by omega)
    clear R4 R5 hml hen HRi HM HEN HOK HG HLA STN hbn
    go_region_law (fail)
    all_goals
     go_wp2_with fail
     go_region_law (fail)
     all_goals
      go_wp2_with fail
      go_roundg f
      case rel=>exact ⟨rest,_,HGn,HMn,HRn,HOKn,HENn,HLn,lh (RN.out _ (by first|exact Below.refl _ _|exact (Below.refl _ _).drew|exact bdrewN _ _))⟩
      case measure=>exact Nat.lt_succ_self _
   | some i =>
    simp only [itI] at *
    have hit:=HOK.out (some i) (by simp)
    have hi0:((i:Int)==0)=false:=by have:=hit.1;simp;omega
    have hrest:0<ends rest:=by
     rcases HLA.out with h1|h1
     · cases h1
     · cases rest with
       | nil=>simp at h1
       | cons y ys =>
        rw [List.getLast?_cons_cons] at h1
        exact List.countP_pos_iff.2 ⟨none,List.mem_of_getLast? h1,rfl⟩
    have hen:s'.envs.length=ends rest:=by rw [HEN.out,ends_some]
    have SA:=lh (statement_at (s:=s') (pile:=rest.map itI) ⟨HST'.out,ms,vv,bv,_,R4.out⟩ ok hit (by omega) (by omega) (by rw [List.length_map];omega))
    have HSE:Hid (0<s'.envs.length):=lh (by omega)
    have HRs:Hid ((statement C.ns C.tabs i s' >>= fun a=>read C.ns C.tabs f (a.1++rest) a.2)=R):=lh HRi.out
    clear R4 HRi
    go_region_law (fail)
    all_goals
     cases hx:statement C.ns C.tabs i s' with
     | error x =>
      go_wp2_with fail
      (with_reducible refine (get_no SA.out hx).mono ?_)
      rintro e w9 ⟨rfl,hB⟩
      simp only [wrongV]
      go_wp2
      exact ⟨rfl,pst_no (HRs.out.symm.trans (bind_err hx)) hB⟩
     | ok a =>
      obtain ⟨more,t⟩:=a
      have MO:=stmt_more ok.rt hit.2.1 HSE.out hx
      have HRn:Hid (read C.ns C.tabs f (more++rest) t=R):=lh ((bind_val hx).symm.trans HRs.out)
      have HMn:Hid (meas C.S (more++rest)≤f):=lh (by
       have h1:=HM.out
       have h2:=MO.less
       rw [meas_app]
       simp only [meas,List.map_cons,List.sum_cons,wt] at h1 h2 ⊢
       omega)
      have HOKn:Hid (∀x∈more++rest,ItOk C.ns x):=lh (fun x hx=>by
       rcases List.mem_append.1 hx with hx|hx
       · exact MO.ok x hx
       · exact HOK.out x (List.mem_cons_of_mem _ hx))
      have HENn:Hid (t.envs.length=ends (more++rest)):=lh (by rw [ends_app,MO.len,hen];omega)
      have HLn:Hid (more++rest=[]∨(more++rest).getLast?=some none):=lh (by
       rcases HLA.out with h1|h1
       · cases h1
       · cases rest with
         | nil=>simp at h1
         | cons y ys =>
          rw [List.getLast?_cons_cons] at h1
          refine Or.inr ?_
          rw [List.getLast?_append,h1]
          rfl)
      have HGn:Hid (f≤2*C.ns.length+2):=lh (by have:=HG.out;omega)
      clear MO hit hrest hen
      go_wp2_with fail
      (with_reducible refine (get_ok SA.out hx).mono ?_)
      rintro e w5 ⟨rfl,hE⟩
      have HEn:Hid (RdE C pb t ((more++rest).map itI) w5):=lh (by rw [List.map_append];exact hE)
      clear hE SA hx
      go_wp2_with fail
      go_roundg f
      case rel=>exact ⟨more++rest,t,HGn,HMn,HRn,HOKn,HENn,HLn,HEn⟩
      case measure=>exact Nat.lt_succ_self _
end
end Nm
end Go.Proofs.YthdioipfdbbmmaaGreatDoor
