/- Contracts. -/
import Derived.Test.YthdioipfdbbmmaaGreatDoorKah
import Derived.Test.YthdioipfdbbmmaaGreatDoorKbm
import Derived.Test.YthdioipfdbbmmaaGreatDoorKbo
set_option linter.all false
set_option maxRecDepth 1000000
set_option maxHeartbeats 16000000
namespace Go.Proofs.YthdioipfdbbmmaaGreatDoor
namespace Tr
open Go.RowKit
structure NV (W:World)(tb mb kb:Nat)(R:Rule):Prop where
 text:W.cell? ⟨tb,0,none⟩=some (.func (.func (if R.named then 189 else 187)) #[] #[])
 most:W.cell? ⟨mb,0,none⟩=some (.int .i64 R.most)
 kids:∃q l c,W.cell? ⟨kb,0,none⟩=some (.slice q l c)∧PV W q l c R.parts
theorem NV.on {W V:World}{tb mb kb:Nat}{R:Rule}(h:NV W tb mb kb R)(hb:Aside W V):NV V tb mb kb R where
 text:=hb _ _ h.text
 most:=hb _ _ h.most
 kids:=by
  obtain ⟨q,l,c,h1,h2⟩:=h.kids
  exact ⟨q,l,c,hb _ _ h1,h2.on hb⟩
def closV (tb mb kb:Nat):Value:=.func (.func 236) #[] #[.pointer (some ⟨tb,0,none⟩),.pointer (some ⟨mb,0,none⟩),.pointer (some ⟨kb,0,none⟩)]
theorem node_at (w:World)(q:Option Addr)(l c:Nat)(R:Rule)(fT:Nat)(most:Int)(hT:fT=if R.named then 189 else 187)(hM:most=R.most)(h:PV w q l c R.parts) :
 Calls Tryz.prog 186 #[.func (.func fT) #[] #[],.int .i64 most,.slice q l c] w fun e w'=>(∃tb mb kb,e=.returned (closV tb mb kb)∧NV w' tb mb kb R)∧Below w.heap.size w w':=by
 subst hT hM
 have H:=lh h
 clear h
 generalize hf:(if R.named then 189 else 187)=fT at *
 have HF:=lh hf
 clear hf
 go_enter Tryz.func186,Tryz.ntmps186
 go_wp2
 go_ret
 have hB:=((one_below w (.cells #[.func (.func fT) #[] #[]] 161)).trans ((one_below (w.alloc (.cells #[.func (.func fT) #[] #[]] 161)) (.cells #[.int .i64 R.most] 2)).mono (by simp))).trans ((one_below ((w.alloc (.cells #[.func (.func fT) #[] #[]] 161)).alloc (.cells #[.int .i64 R.most] 2)) (.cells #[.slice q l c] 287)).mono (by simp;omega))
 refine ⟨⟨_,_,_,rfl,⟨?_,?_,⟨q,l,c,?_,H.out.on (Aside.of hB)⟩⟩⟩,hB⟩
 · rw [HF.out,World.cell?_alloc_past _ _ _ (by simp;omega),World.cell?_alloc_past _ _ _ (by simp)];simp
 · rw [World.cell?_alloc_past _ _ _ (by simp)];exact World.cell?_alloc_at _ _ _ _ (by simp)
 · exact World.cell?_alloc_at _ _ _ _ (by simp)
theorem rule_at (w:World)(tb mb kb:Nat)(R:Rule)(nd:Nd)(kv:Value)(p:Option Addr)(n c2:Nat)(ks:List Int)(h:NV w tb mb kb R)(hk:BV w p n c2 ks)(hn:n≤70000)(hs:nd.text.size≤70000)(hR:R.parts.length≤8∧∀x∈R.parts,x.least≤1∧x.most≤9223372036854775807)
 (kp:Option Addr) (kl kc:Nat) (hkv:kv=.slice kp kl kc) :
 Calls Tryz.prog 236 #[.agg #[.int .u8 nd.kind,.int .i64 nd.at',.string nd.text,.int .i64 nd.n,kv],.slice p n c2,.pointer (some ⟨tb,0,none⟩),.pointer (some ⟨mb,0,none⟩),.pointer (some ⟨kb,0,none⟩)] w
  fun e w'=>e=.returned (.bool (fitsRule R nd ks))∧Below w.heap.size w w':=by
 subst hkv
 obtain ⟨q,l,c,hkb,hpv⟩:=h.kids
 have htb:=h.text
 have hmb:=h.most
 have l1:tb<w.heap.size:=World.block_lt_of_cell? w _ htb
 have l2:mb<w.heap.size:=World.block_lt_of_cell? w _ hmb
 have l3:kb<w.heap.size:=World.block_lt_of_cell? w _ hkb
 have HPV:=lh hpv
 have HBV:=lh hk
 have HR:=lh hR
 have HS:=lh hs
 have HPL:=lh hpv.len_eq
 have B0:=lh (one_below w (.cells #[.int .u8 nd.kind,.int .i64 nd.at',.string nd.text,.int .i64 nd.n,.slice kp kl kc] 54))
 clear h hpv hk hR hs
 obtain ⟨named,most,parts⟩:=R
 simp only at hmb htb
 have fin:∀W,Hid (Below (w.heap.size+1) (w.alloc (.cells #[.int .u8 nd.kind,.int .i64 nd.at',.string nd.text,.int .i64 nd.n,.slice kp kl kc] 54)) W)→Hid (Below w.heap.size w W):=fun W hW=>lh (B0.out.trans (hW.out.mono (by omega)))
 have FIN:=lh fin
 clear fin
 cases named with
 | true =>
  simp only [if_true] at htb
  have HT:=lh (isName_at (w.alloc (.cells #[.int .u8 nd.kind,.int .i64 nd.at',.string nd.text,.int .i64 nd.n,.slice kp kl kc] 54)) nd.text HS.out)
  have hfr:∀t:Bool,namesF (bytesI nd.text)=t→fitsRule ⟨true,most,parts⟩ nd ks=(t&&(decide (0≤nd.n)&&(decide (nd.n≤most)&&inTurnP parts ks))):=fun t ht=>by rw [← ht];rfl
  have HFR:=lh hfr
  clear hfr
  generalize namesF (bytesI nd.text)=t at *
  go_enter Tryz.func236,Tryz.ntmps236
  go_wp2_with fail
  (with_reducible refine HT.out.mono ?_)
  rintro e W1 ⟨rfl,hb1⟩
  have B1:Hid (Below (w.heap.size+1) (w.alloc (.cells #[.int .u8 nd.kind,.int .i64 nd.at',.string nd.text,.int .i64 nd.n,.slice kp kl kc] 54)) W1):=lh (by simpa using hb1)
  have n3:W1.cell? ⟨w.heap.size,3,none⟩=some (.int .i64 nd.n):=by rw [B1.out.cell (by simp)];simp
  have m0:W1.cell? ⟨mb,0,none⟩=some (.int .i64 most):=by rw [B1.out.cell (by simp;omega),World.cell?_alloc_past _ _ _ l2];exact hmb
  have k0:W1.cell? ⟨kb,0,none⟩=some (.slice q l c):=by rw [B1.out.cell (by simp;omega),World.cell?_alloc_past _ _ _ l3];exact hkb
  have BW:=FIN.out W1 B1
  have HIT:=lh (inTurn_at W1 q l c parts p n c2 ks (HPV.out.on (Aside.of BW.out)) (HBV.out.on (Aside.of BW.out)) (by rw [← HPL.out];exact HR.out.1) hn HR.out.2)
  clear hb1 HT htb hmb hkb
  cases t with
  | false =>
   go_wp2
   go_ret
   exact ⟨retB (by rw [HFR.out false rfl];rfl),BW.out⟩
  | true =>
   by_cases h0:0≤nd.n
   · have d0:decide (0≤nd.n)=true:=by simpa using h0
     by_cases h1:nd.n≤most
     · have d1:decide (nd.n≤most)=true:=by simpa using h1
       go_wp2_with fail
       (with_reducible refine HIT.out.mono ?_)
       rintro e W2 ⟨rfl,hb2⟩
       have BZ:=lh (BW.out.trans (hb2.mono BW.out.size))
       clear hb2
       go_wp2
       go_ret
       exact ⟨retB (by rw [HFR.out true rfl,d0,d1];simp),BZ.out⟩
     · have d1:decide (nd.n≤most)=false:=by simpa using h1
       go_wp2
       go_ret
       exact ⟨retB (by rw [HFR.out true rfl,d0,d1];rfl),BW.out⟩
   · have d0:decide (0≤nd.n)=false:=by simpa using h0
     go_wp2
     go_ret
     exact ⟨retB (by rw [HFR.out true rfl,d0];rfl),BW.out⟩
 | false =>
  simp only [Bool.false_eq_true,if_false] at htb
  have HT:=lh (show Calls Tryz.prog 187 #[.string nd.text] (w.alloc (.cells #[.int .u8 nd.kind,.int .i64 nd.at',.string nd.text,.int .i64 nd.n,.slice kp kl kc] 54)) fun e w'=>e=.returned (.bool (decide (nd.text.size=0)))∧Below (w.alloc (.cells #[.int .u8 nd.kind,.int .i64 nd.at',.string nd.text,.int .i64 nd.n,.slice kp kl kc] 54)).heap.size (w.alloc (.cells #[.int .u8 nd.kind,.int .i64 nd.at',.string nd.text,.int .i64 nd.n,.slice kp kl kc] 54)) w' from (isEmpty_at nd.text _).mono fun _ _ ⟨h1,h2⟩=>⟨h1,by rw [h2];exact Below.refl _ _⟩)
  have hfr:∀t:Bool,decide (nd.text.size=0)=t→fitsRule ⟨false,most,parts⟩ nd ks=(t&&(decide (0≤nd.n)&&(decide (nd.n≤most)&&inTurnP parts ks))):=fun t ht=>by rw [← ht];rfl
  have HFR:=lh hfr
  clear hfr
  generalize decide (nd.text.size=0)=t at *
  go_enter Tryz.func236,Tryz.ntmps236
  go_wp2_with fail
  (with_reducible refine HT.out.mono ?_)
  rintro e W1 ⟨rfl,hb1⟩
  have B1:Hid (Below (w.heap.size+1) (w.alloc (.cells #[.int .u8 nd.kind,.int .i64 nd.at',.string nd.text,.int .i64 nd.n,.slice kp kl kc] 54)) W1):=lh (by simpa using hb1)
  have n3:W1.cell? ⟨w.heap.size,3,none⟩=some (.int .i64 nd.n):=by rw [B1.out.cell (by simp)];simp
  have m0:W1.cell? ⟨mb,0,none⟩=some (.int .i64 most):=by rw [B1.out.cell (by simp;omega),World.cell?_alloc_past _ _ _ l2];exact hmb
  have k0:W1.cell? ⟨kb,0,none⟩=some (.slice q l c):=by rw [B1.out.cell (by simp;omega),World.cell?_alloc_past _ _ _ l3];exact hkb
  have BW:=FIN.out W1 B1
  have HIT:=lh (inTurn_at W1 q l c parts p n c2 ks (HPV.out.on (Aside.of BW.out)) (HBV.out.on (Aside.of BW.out)) (by rw [← HPL.out];exact HR.out.1) hn HR.out.2)
  clear hb1 HT htb hmb hkb
  cases t with
  | false =>
   go_wp2
   go_ret
   exact ⟨retB (by rw [HFR.out false rfl];rfl),BW.out⟩
  | true =>
   by_cases h0:0≤nd.n
   · have d0:decide (0≤nd.n)=true:=by simpa using h0
     by_cases h1:nd.n≤most
     · have d1:decide (nd.n≤most)=true:=by simpa using h1
       go_wp2_with fail
       (with_reducible refine HIT.out.mono ?_)
       rintro e W2 ⟨rfl,hb2⟩
       have BZ:=lh (BW.out.trans (hb2.mono BW.out.size))
       clear hb2
       go_wp2
       go_ret
       exact ⟨retB (by rw [HFR.out true rfl,d0,d1];simp),BZ.out⟩
     · have d1:decide (nd.n≤most)=false:=by simpa using h1
       go_wp2
       go_ret
       exact ⟨retB (by rw [HFR.out true rfl,d0,d1];rfl),BW.out⟩
   · have d0:decide (0≤nd.n)=false:=by simpa using h0
     go_wp2
     go_ret
     exact ⟨retB (by rw [HFR.out true rfl,d0];rfl),BW.out⟩
end Tr
namespace Tr
set_option maxRecDepth 1000000
open Go.RowKit Go.MapKept
inductive Sp where
 | ks (l:List Int)
 | fit (f:Fit)
 | part (p:Part)
 | parts (ps:List Part)
 | node (R:Rule)
 deriving DecidableEq
def SpV (W:World)(v:Value):Sp→Prop
 | .ks l=>∃q n c,v=.slice q n c∧BV W q n c l∧n≤70000
 | .fit f=>∃g cs,v=.func g #[] cs∧FitV W g cs f
 | .part p=>∃g cs,v=.agg #[.func g #[] cs,.int .i64 (p.least:Int),.int .i64 (p.most:Int)]∧FitV W g cs p.fit
 | .parts ps=>∃q l c,v=.slice q l c∧PV W q l c ps
 | .node R=>∃tb mb kb,v=closV tb mb kb∧NV W tb mb kb R
theorem SpV.on {W V:World}{v:Value}{s:Sp}(h:SpV W v s)(hb:Aside W V):SpV V v s:=by
 cases s with
 | ks l=>obtain ⟨q,n,c,e,h1,h2⟩:=h;exact ⟨q,n,c,e,h1.on hb,h2⟩
 | fit f=>obtain ⟨g,cs,e,h1⟩:=h;exact ⟨g,cs,e,h1.on hb⟩
 | part p=>obtain ⟨g,cs,e,h1⟩:=h;exact ⟨g,cs,e,h1.on hb⟩
 | parts ps=>obtain ⟨q,l,c,e,h1⟩:=h;exact ⟨q,l,c,e,h1.on hb⟩
 | node R=>obtain ⟨tb,mb,kb,e,h1⟩:=h;exact ⟨tb,mb,kb,e,h1.on hb⟩
inductive RK where
 | mk
 | bs (d:Nat) (l:List Int)
 | isc (d t:Nat) (l:List Int)
 | part (d:Nat) (s:Option Nat) (p:Part)
 | ld (d x:Nat) (p:Part)
 | ps (d:Nat) (ts:List (Nat × Part))
 | nd (d:Nat) (s:Option Nat) (R:Rule)
 | ins (k:Int) (t:Nat) (R:Rule)
 | mv (d:Nat)
 | asg (d t:Nat)
def partFn (p:Part):Nat:=if p.least=1 then 184 else if p.most=1 then 191 else 188
def RK.op:RK→Op
 | .mk=>.makeMap 187 none
 | .bs _ [x]=>.buildSlice 22 1 #[(0,.const (.int .u8 x))]
 | .bs _ [x,y]=>.buildSlice 22 2 #[(0,.const (.int .u8 x)),(1,.const (.int .u8 y))]
 | .bs _ _=>.ready 0
 | .isc _ t _=>.call { callee:=.value (.func 185),args:=#[.tmp t],argTypes:=#[22] }
 | .part _ (some t) p=>.call { callee:=.value (.func (partFn p)),args:=#[.tmp t],argTypes:=#[113] }
 | .part _ none p=>.call { callee:=.value (.func (partFn p)),args:=#[.func (if p.fit=.stmt then 190 else 115)],argTypes:=#[113] }
 | .ld _ x _=>.load 255 (.tmp x)
 | .ps _ [(t,_)]=>.buildSlice 287 1 #[(0,.tmp t)]
 | .ps _ [(t,_),(u,_)]=>.buildSlice 287 2 #[(0,.tmp t),(1,.tmp u)]
 | .ps _ [(t,_),(u,_),(v,_)]=>.buildSlice 287 3 #[(0,.tmp t),(1,.tmp u),(2,.tmp v)]
 | .ps _ [(t,_),(u,_),(v,_),(x,_)]=>.buildSlice 287 4 #[(0,.tmp t),(1,.tmp u),(2,.tmp v),(3,.tmp x)]
 | .ps _ _=>.ready 0
 | .nd _ (some t) R=>.call { callee:=.value (.func 186),args:=#[.func (if R.named then 189 else 187),.const (.int .i64 R.most),.tmp t],argTypes:=#[161,2, 287] }
 | .nd _ none R=>.call { callee:=.value (.func 186),args:=#[.func (if R.named then 189 else 187),.const (.int .i64 R.most),.const (.slice none 0 0)],argTypes:=#[161,2, 287] }
 | .ins k t _=>.insert 187 (.tmp 19) (.const (.int .u8 k)) (.tmp t)
 | .mv _=>.move (.tmp 19)
 | .asg _ t=>.assign (.tmp t)
def RK.dst:RK→Option Nat
 | .mk=>some 19
 | .bs d _=>some d
 | .isc d _ _=>some d
 | .part d _ _=>some d
 | .ld d _ _=>some d
 | .ps d _=>some d
 | .nd d _ _=>some d
 | .ins _ _ _=>none
 | .mv d=>some d
 | .asg d _=>some d
def RK.out:RK→Option (Nat × Sp)
 | .bs d l=>some (d,.ks l)
 | .isc d _ l=>some (d,.fit (.of l))
 | .part d _ p=>some (d,.part p)
 | .ld d _ p=>some (d,.part p)
 | .ps d ts=>some (d,.parts (ts.map (·.2)))
 | .nd d _ R=>some (d,.node R)
 | _=>none
def RK.reqs:RK→List (Nat × Sp)
 | .isc _ t l=>[(t,.ks l)]
 | .part _ (some t) p=>[(t,.fit p.fit)]
 | .ps _ ts=>ts.map fun x=>(x.1,.part x.2)
 | .nd _ (some t) R=>[(t,.parts R.parts)]
 | .ins _ t R=>[(t,.node R)]
 | _=>[]
def RK.first:RK→Option Nat
 | .ins _ _ _=>some 0
 | .mv _=>some 0
 | .asg _ _=>some 123
 | _=>none
def RK.mvd:RK→Option Nat
 | .mv d=>some d
 | .asg d _=>some d
 | _=>none
def RK.key:RK→Option Int
 | .ins k _ _=>some k
 | _=>none
def locP (x:Nat):Part:=if x=1 then pW else if x=2 then pR else if x=3 then pB else if x=4 then pE else pN
def RK.good:RK→Bool
 | .bs _ l=>l.length==1||l.length==2
 | .part _ s p=>(p==.one p.fit||p==.maybe p.fit||p==.many p.fit)&&(s.isSome||p.fit==.stmt||p.fit==.expr)
 | .ld _ x p=>decide (1≤x)&&decide (x≤5)&&p==locP x
 | .ps _ ts=>ts.length==1||ts.length==2||ts.length==3||ts.length==4
 | .nd _ s R=>s.isSome||R.parts==[]
 | .ins k _ R=>ruleOf k==some R
 | .asg _ t=>t==116
 | .mv d=>d==116
 | _=>true
def RT:List RK :=
 [.mk,
  .bs 20 [2,3],
  .isc 21 20 [2,3],
  .part 22 (some 21) (Part.many (.of [2,3])),
  .ps 23 [(22,Part.many (.of [2,3]))],
  .nd 24 (some 23) ⟨false,0,[.many (.of [2,3])]⟩,
  .ins 1 24 ⟨false,0,[.many (.of [2,3])]⟩,
  .ld 25 1 pW,
  .bs 26 [5],
  .isc 27 26 [5],
  .part 28 (some 27) (Part.many (.of [5])),
  .ps 29 [(25,pW),(28,Part.many (.of [5]))],
  .nd 30 (some 29) ⟨true,0,[pW,.many (.of [5])]⟩,
  .ins 2 30 ⟨true,0,[pW,.many (.of [5])]⟩,
  .bs 31 [4],
  .isc 32 31 [4],
  .part 33 (some 32) (Part.one (.of [4])),
  .ld 34 3 pB,
  .ps 35 [(33,Part.one (.of [4])),(34,pB)],
  .nd 36 (some 35) ⟨true,1,[.one (.of [4]),pB]⟩,
  .ins 3 36 ⟨true,1,[.one (.of [4]),pB]⟩,
  .bs 37 [5],
  .isc 38 37 [5],
  .part 39 (some 38) (Part.many (.of [5])),
  .ps 40 [(39,Part.many (.of [5]))],
  .nd 41 (some 40) ⟨false,0,[.many (.of [5])]⟩,
  .ins 4 41 ⟨false,0,[.many (.of [5])]⟩,
  .nd 42 none ⟨true,0,[]⟩,
  .ins 5 42 ⟨true,0,[]⟩,
  .part 43 none (Part.many .stmt),
  .ps 44 [(43,Part.many .stmt)],
  .nd 45 (some 44) ⟨false,0,[.many .stmt]⟩,
  .ins 6 45 ⟨false,0,[.many .stmt]⟩,
  .ld 46 2 pR,
  .ld 47 1 pW,
  .ps 48 [(46,pR),(47,pW)],
  .nd 49 (some 48) ⟨true,1,[pR,pW]⟩,
  .ins 7 49 ⟨true,1,[pR,pW]⟩,
  .ld 50 2 pR,
  .ld 51 1 pW,
  .ld 52 4 pE,
  .ps 53 [(50,pR),(51,pW),(52,pE)],
  .nd 54 (some 53) ⟨false,0,[pR,pW,pE]⟩,
  .ins 8 54 ⟨false,0,[pR,pW,pE]⟩,
  .ld 55 2 pR,
  .ld 56 4 pE,
  .part 57 none (Part.many .expr),
  .ps 58 [(55,pR),(56,pE),(57,Part.many .expr)],
  .nd 59 (some 58) ⟨false,0,[pR,pE,.many .expr]⟩,
  .ins 9 59 ⟨false,0,[pR,pE,.many .expr]⟩,
  .ld 60 2 pR,
  .ps 61 [(60,pR)],
  .nd 62 (some 61) ⟨false,0,[pR]⟩,
  .ins 10 62 ⟨false,0,[pR]⟩,
  .ld 63 1 pW,
  .ld 64 1 pW,
  .ps 65 [(63,pW),(64,pW)],
  .nd 66 (some 65) ⟨true,0,[pW,pW]⟩,
  .ins 11 66 ⟨true,0,[pW,pW]⟩,
  .ld 67 1 pW,
  .ps 68 [(67,pW)],
  .nd 69 (some 68) ⟨false,1,[pW]⟩,
  .ins 12 69 ⟨false,1,[pW]⟩,
  .bs 70 [5,20],
  .isc 71 70 [5,20],
  .part 72 (some 71) (Part.one (.of [5,20])),
  .ps 73 [(72,Part.one (.of [5,20]))],
  .nd 74 (some 73) ⟨false,0,[.one (.of [5,20])]⟩,
  .ins 13 74 ⟨false,0,[.one (.of [5,20])]⟩,
  .ld 75 4 pE,
  .ld 76 4 pE,
  .ld 77 3 pB,
  .bs 78 [6],
  .isc 79 78 [6],
  .part 80 (some 79) (Part.maybe (.of [6])),
  .ps 81 [(75,pE),(76,pE),(77,pB),(80,Part.maybe (.of [6]))],
  .nd 82 (some 81) ⟨false,1,[pE,pE,pB,.maybe (.of [6])]⟩,
  .ins 14 82 ⟨false,1,[pE,pE,pB,.maybe (.of [6])]⟩,
  .ld 83 5 pN,
  .ld 84 5 pN,
  .ld 85 3 pB,
  .ps 86 [(83,pN),(84,pN),(85,pB)],
  .nd 87 (some 86) ⟨true,0,[pN,pN,pB]⟩,
  .ins 15 87 ⟨true,0,[pN,pN,pB]⟩,
  .ld 88 4 pE,
  .ps 89 [(88,pE)],
  .nd 90 (some 89) ⟨true,0,[pE]⟩,
  .ins 16 90 ⟨true,0,[pE]⟩,
  .ld 91 4 pE,
  .ps 92 [(91,pE)],
  .nd 93 (some 92) ⟨false,0,[pE]⟩,
  .ins 17 93 ⟨false,0,[pE]⟩,
  .nd 94 none ⟨false,0,[]⟩,
  .ins 18 94 ⟨false,0,[]⟩,
  .nd 95 none ⟨false,0,[]⟩,
  .ins 19 95 ⟨false,0,[]⟩,
  .ld 96 4 pE,
  .ps 97 [(96,pE)],
  .nd 98 (some 97) ⟨true,0,[pE]⟩,
  .ins 20 98 ⟨true,0,[pE]⟩,
  .nd 99 none ⟨false,2147483647,[]⟩,
  .ins 21 99 ⟨false,2147483647,[]⟩,
  .nd 100 none ⟨true,0,[]⟩,
  .ins 22 100 ⟨true,0,[]⟩,
  .ld 101 4 pE,
  .ld 102 4 pE,
  .ps 103 [(101,pE),(102,pE)],
  .nd 104 (some 103) ⟨false,0,[pE,pE]⟩,
  .ins 23 104 ⟨false,0,[pE,pE]⟩,
  .ld 105 4 pE,
  .ld 106 4 pE,
  .ps 107 [(105,pE),(106,pE)],
  .nd 108 (some 107) ⟨false,0,[pE,pE]⟩,
  .ins 24 108 ⟨false,0,[pE,pE]⟩,
  .ld 109 4 pE,
  .ld 110 4 pE,
  .ps 111 [(109,pE),(110,pE)],
  .nd 112 (some 111) ⟨false,0,[pE,pE]⟩,
  .ins 25 112 ⟨false,0,[pE,pE]⟩,
  .ld 113 4 pE,
  .ps 114 [(113,pE)],
  .nd 115 (some 114) ⟨false,0,[pE]⟩,
  .ins 26 115 ⟨false,0,[pE]⟩,
  .mv 116,
  .asg 0 116]
theorem rt_size:RT.length=125:=by decide +kernel
def chkDst:Bool:=(List.range 125).all fun i=>(List.range 125).all fun j=>i==j||(match RT[i]?.bind RK.dst,RT[j]?.bind RK.dst with|some d,some e=>d != e|_,_=>true)
def chkKey:Bool:=(List.range 125).all fun i=>(List.range 125).all fun j=>i==j||(match RT[i]?.bind RK.key,RT[j]?.bind RK.key with|some d,some e=>d != e|_,_=>true)
def chkLow:Bool:=RT.all fun k=>match k.dst with|some d=>(d==0||decide (19≤d))&&decide (d<117)|none=>true
def chkGood:Bool:=RT.all RK.good
def chkAll:Bool:=(List.range 27).all fun k=>k==0||RT.any fun x=>x.key==some (k:Int)
theorem chk_dst:chkDst=true:=by decide +kernel
theorem chk_key:chkKey=true:=by decide +kernel
theorem chk_low:chkLow=true:=by decide +kernel
theorem chk_good:chkGood=true:=by decide +kernel
theorem chk_all:chkAll=true:=by decide +kernel
theorem dst_one {i j:Nat}{k l:RK}{d:Nat}(hi:RT[i]?=some k)(hj:RT[j]?=some l)(h1:k.dst=some d)(h2:l.dst=some d):i=j:=by
 have hil:i<125:=by rw [← rt_size];exact (List.getElem?_eq_some_iff.1 hi).1
 have hjl:j<125:=by rw [← rt_size];exact (List.getElem?_eq_some_iff.1 hj).1
 have h:=chk_dst
 unfold chkDst at h
 rw [List.all_eq_true] at h
 have h3:=h i (List.mem_range.2 hil)
 rw [List.all_eq_true] at h3
 have h4:=h3 j (List.mem_range.2 hjl)
 rw [hi,hj] at h4
 simpa [h1,h2] using h4
theorem key_one {i j:Nat}{k l:RK}{d:Int}(hi:RT[i]?=some k)(hj:RT[j]?=some l)(h1:k.key=some d)(h2:l.key=some d):i=j:=by
 have hil:i<125:=by rw [← rt_size];exact (List.getElem?_eq_some_iff.1 hi).1
 have hjl:j<125:=by rw [← rt_size];exact (List.getElem?_eq_some_iff.1 hj).1
 have h:=chk_key
 unfold chkKey at h
 rw [List.all_eq_true] at h
 have h3:=h i (List.mem_range.2 hil)
 rw [List.all_eq_true] at h3
 have h4:=h3 j (List.mem_range.2 hjl)
 rw [hi,hj] at h4
 simpa [h1,h2] using h4
theorem dst_low {i:Nat}{k:RK}{d:Nat}(hi:RT[i]?=some k)(h1:k.dst=some d):(d=0∨19≤d)∧d<117:=by
 have h:=chk_low
 unfold chkLow at h
 rw [List.all_eq_true] at h
 have:=h k (List.mem_of_getElem? hi)
 rw [h1] at this
 simpa using this
theorem rt_good {i:Nat}{k:RK}(hi:RT[i]?=some k):k.good=true:=by
 have h:=chk_good
 unfold chkGood at h
 rw [List.all_eq_true] at h
 exact h k (List.mem_of_getElem? hi)
theorem key_all (k:Int)(h1:1≤k)(h2:k≤26):∃(i:Nat) (t:Nat) (R:Rule),RT[i]?=some (RK.ins k t R):=by
 have h:=chk_all
 unfold chkAll at h
 rw [List.all_eq_true] at h
 have h3:=h k.toNat (List.mem_range.2 (by omega))
 simp only [Bool.or_eq_true,beq_iff_eq] at h3
 rcases h3 with h3|h3
 · omega
 · rw [List.any_eq_true] at h3
   obtain ⟨x,hx,hk⟩:=h3
   obtain ⟨i,hi⟩:=List.mem_iff_getElem?.1 hx
   cases x with
   | ins q t R =>
    simp only [RK.key,beq_iff_eq,Option.some.injEq] at hk
    have:q=k:=by omega
    subst this
    exact ⟨i,t,R,hi⟩
   | _=>simp [RK.key] at hk
theorem rule_range {k:Int}{R:Rule}(h:ruleOf k=some R):1≤k∧k≤26:=by
 unfold ruleOf at h
 rw [Option.map_eq_some_iff] at h
 obtain ⟨x,hx,_⟩:=h
 have h1:=List.find?_some hx
 have h2:=List.mem_of_find?_eq_some hx
 have h3:(ruleT.all fun x=>decide (1≤x.1)&&decide (x.1≤26))=true:=by decide
 rw [List.all_eq_true] at h3
 have:=h3 x h2
 simp at this h1
 omega
end Tr
namespace Tr
set_option maxRecDepth 1000000
open Go.RowKit Go.MapKept
def depsOk (ops:Array Oper):Bool:=(List.range 125).all fun i=>match ops[i]?,RT[i]? with
 | some o,some k=>(o.after.toList.all fun e=>decide (e.on<i))&&((k.reqs.all fun r=>o.after.toList.any fun e=>Region.binds .any e&&(RT[e.on]?.bind RK.out==some r))&&(match k.first with|some j=>o.after.toList.any fun e=>Region.binds .any e&&e.on==j|none=>true))
 | _,_=>false
def shapeOk (ops:Array Oper):Prop:=ops.toList.map (fun o=>(o.op,o.dst,o.guard))=RT.map fun k=>(k.op,k.dst,none)
theorem shape_size {ops:Array Oper}(h:shapeOk ops):ops.size=125:=by
 have:=congrArg List.length h
 simpa [rt_size] using this
theorem shape_at {ops:Array Oper}(h:shapeOk ops){i:Nat}{o:Oper}(ho:ops[i]?=some o):∃k,RT[i]?=some k∧o.op=k.op∧o.dst=k.dst∧o.guard=none:=by
 have h1:(ops.toList.map (fun o=>(o.op,o.dst,o.guard)))[i]?=some (o.op,o.dst,o.guard):=by
  rw [List.getElem?_map,Array.getElem?_toList,ho];rfl
 unfold shapeOk at h
 rw [h,List.getElem?_map,Option.map_eq_some_iff] at h1
 obtain ⟨k,hk,he⟩:=h1
 simp only [Prod.mk.injEq] at he
 exact ⟨k,hk,he.1.symm,he.2.1.symm,he.2.2.symm⟩
theorem deps_at {ops:Array Oper}(h:depsOk ops=true){i:Nat}{o:Oper}{k:RK}(hi:i<125)(ho:ops[i]?=some o)(hk:RT[i]?=some k) :
 (∀e∈o.after,e.on<i)∧(∀r∈k.reqs,∃e∈o.after,Region.binds .any e=true∧RT[e.on]?.bind RK.out=some r)∧(∀j,k.first=some j→∃e∈o.after,Region.binds .any e=true∧e.on=j):=by
 unfold depsOk at h
 rw [List.all_eq_true] at h
 have h1:=h i (List.mem_range.2 hi)
 rw [ho,hk] at h1
 simp only [Bool.and_eq_true,List.all_eq_true,List.any_eq_true,decide_eq_true_eq,beq_iff_eq,Array.mem_toList_iff] at h1
 obtain ⟨a1,a2,a3⟩:=h1
 refine ⟨a1,a2,fun j hj=>?_⟩
 rw [hj] at a3
 simp only [List.any_eq_true,Bool.and_eq_true,beq_iff_eq,Array.mem_toList_iff] at a3
 exact a3
def RulesAt (w:World)(r:Nat):Prop:=∃es n,w.heap[r]?=some (.map es n)∧(∀x∈es.toList,∃k R,x.key=.int .u8 k∧ruleOf k=some R∧SpV w x.val (.node R))∧∀k,1≤k→k≤26→∃x∈es.toList,x.key=.int .u8 k
structure RInv (w0 WL:World)(a0:Act)(listed:Array Bool)(a:Act)(w:World):Prop where
 size:a.tmps.size=117
 defers:a.defers=a0.defers
 below:Below w0.heap.size w0 w
 aside:Aside WL w
 locs:∀x,1≤x→x≤5→a.tmps.getD x undef=a0.tmps.getD x undef
 done:∀(i:Nat) k,RT[i]?=some k→listed.getD i false=true→∀d s,k.out=some (d,s)→SpV w (a.tmps.getD d undef) s
 map:listed.getD 0 false=true→∃r es n,a.tmps.getD 19 undef=.map (some r)∧w0.heap.size≤r∧w.heap[r]?=some (.map es n) ∧
  (∀x∈es.toList,∃(i:Nat) (k:Int) (t:Nat) (R:Rule),listed.getD i false=true∧RT[i]?=some (RK.ins k t R)∧x.key=.int .u8 k∧SpV w x.val (.node R)) ∧
  (∀(i:Nat) (k:Int) (t:Nat) (R:Rule),listed.getD i false=true→RT[i]?=some (RK.ins k t R)→∃x∈es.toList,x.key=.int .u8 k)
 mvd:∀(i:Nat) k d,RT[i]?=some k→listed.getD i false=true→k.mvd=some d→a.tmps.getD d undef=a.tmps.getD 19 undef∧listed.getD 0 false=true
 insd:∀(i:Nat) (k:Int) (t:Nat) (R:Rule),RT[i]?=some (RK.ins k t R)→listed.getD i false=true→listed.getD 0 false=true
theorem getD_set_true (l:Array Bool)(i j:Nat)(hi:i<l.size):(l.setIfInBounds i true).getD j false=true↔j=i∨l.getD j false=true:=by
 by_cases h:j=i
 · subst h;simp [Array.getD,hi]
 · have h':¬ i=j:=fun e=>h e.symm
   by_cases hj:j<l.size
   · simp [Array.getD,hj,h,h']
   · simp [Array.getD,hj,h]
theorem put_same (a:Act)(d:Nat)(v:Value)(hd:d<a.tmps.size):(a.put (some d) v).tmps.getD d undef=v:=by simp [Act.put,Array.getD,hd]
theorem put_other (a:Act)(d e:Nat)(v:Value)(h:d≠e):(a.put (some d) v).tmps.getD e undef=a.tmps.getD e undef:=by
 by_cases he:e<a.tmps.size
 · simp [Act.put,Array.getD,he,h]
 · simp [Act.put,Array.getD,he]
theorem put_size (a:Act)(d:Option Nat)(v:Value):(a.put d v).tmps.size=a.tmps.size:=by cases d<;>simp [Act.put]
theorem put_defers (a:Act)(d:Option Nat)(v:Value):(a.put d v).defers=a.defers:=by cases d<;>rfl
theorem out_dst {k:RK}{d:Nat}{s:Sp}(h:k.out=some (d,s)):k.dst=some d:=by
 cases k<;>simp_all [RK.out,RK.dst]
theorem mvd_dst {k:RK}{d:Nat}(h:k.mvd=some d):k.dst=some d:=by
 cases k<;>simp_all [RK.mvd,RK.dst]
theorem mk_at {i:Nat}(h:RT[i]?=some RK.mk):i=0:=dst_one (d:=19) h (show RT[0]?=some RK.mk from rfl) rfl rfl
theorem dst19 {i:Nat}{k:RK}(h:RT[i]?=some k)(hd:k.dst=some 19):i=0:=dst_one (d:=19) h (show RT[0]?=some RK.mk from rfl) hd rfl
theorem RInv.put {w0 WL:World}{a0:Act}{listed:Array Bool}{a:Act}{w w':World}(h:RInv w0 WL a0 listed a w){i:Nat}{k:RK}(hi:RT[i]?=some k)(hsz:listed.size=125){d:Nat}{s:Sp}{v:Value}
 (ho:k.out=some (d,s)) (hv:SpV w' v s) (hb:Below w.heap.size w w'):RInv w0 WL a0 (listed.setIfInBounds i true) (a.put (some d) v) w':=by
 have hil:i<listed.size:=by rw [hsz,← rt_size];exact (List.getElem?_eq_some_iff.1 hi).1
 have hd:=out_dst ho
 have hlow:=dst_low hi hd
 have hdne:∀j l e,RT[j]?=some l→l.dst=some e→j≠i→d≠e:=fun j l e hj he hne hde=>hne (dst_one hj hi he (by rw [hd,hde]))
 have h0:i≠0:=by
  intro e;subst e
  have:RT[0]?=some RK.mk:=rfl
  rw [this] at hi
  simp only [Option.some.injEq] at hi
  subst hi
  simp [RK.out] at ho
 have h19:d≠19:=fun e=>h0 (dst19 hi (by rw [hd,e]))
 have hl:∀j,(listed.setIfInBounds i true).getD j false=true↔j=i∨listed.getD j false=true:=fun j=>getD_set_true listed i j hil
 refine ⟨by rw [put_size];exact h.size,by rw [put_defers];exact h.defers,h.below.trans (hb.mono h.below.size),h.aside.trans (Aside.of hb),fun x h1 h5=>?_,?_,?_,?_,fun j q t R hj hlj=>by
  rcases (hl j).1 hlj with rfl|hlj
  · rw [hi] at hj
    simp only [Option.some.injEq] at hj
    subst hj
    simp [RK.out] at ho
  · exact (hl 0).2 (Or.inr (h.insd j q t R hj hlj))⟩
 · rw [put_other _ _ _ _ (by omega)];exact h.locs x h1 h5
 · intro j l hj hlj e t ht
   by_cases hji:j=i
   · subst hji
     rw [hi] at hj
     simp only [Option.some.injEq] at hj
     subst hj
     rw [ho] at ht
     simp only [Option.some.injEq,Prod.mk.injEq] at ht
     obtain ⟨rfl,rfl⟩:=ht
     rw [put_same _ _ _ (by rw [h.size];omega)]
     exact hv
   · rw [put_other _ _ _ _ (hdne j l e hj (out_dst ht) hji)]
     exact (h.done j l hj (((hl j).1 hlj).resolve_left hji) e t ht).on (Aside.of hb)
 · intro hl0
   have h1:=((hl 0).1 hl0).resolve_left (fun e=>h0 e.symm)
   obtain ⟨r,es,n,m1,m2,m3,m4,m5⟩:=h.map h1
   have hr:r<w.heap.size:=by
    by_cases hr:r<w.heap.size
    · exact hr
    · rw [Array.getElem?_eq_none (by omega)] at m3;simp at m3
   refine ⟨r,es,n,by rw [put_other _ _ _ _ h19];exact m1,m2,by rw [hb.block r hr];exact m3,fun x hx=>?_,fun j q t R hlj hj=>?_⟩
   · obtain ⟨j,q,t,R,q1,q2,q3,q4⟩:=m4 x hx
     exact ⟨j,q,t,R,(hl j).2 (Or.inr q1),q2,q3,q4.on (Aside.of hb)⟩
   · rcases (hl j).1 hlj with rfl|hlj
     · rw [hi] at hj
       simp only [Option.some.injEq] at hj
       subst hj
       simp [RK.out] at ho
     · exact m5 j q t R hlj hj
 · intro j l e hj hlj he
   rcases (hl j).1 hlj with rfl|hlj
   · rw [hi] at hj
     simp only [Option.some.injEq] at hj
     subst hj
     cases k<;>simp [RK.mvd,RK.out] at he ho
   · obtain ⟨q1,q2⟩:=h.mvd j l e hj hlj he
     have hji:j≠i:=by
      intro e2;subst e2
      rw [hi] at hj
      simp only [Option.some.injEq] at hj
      subst hj
      cases k<;>simp [RK.mvd,RK.out] at he ho
     rw [put_other _ _ _ _ (hdne j l e hj (mvd_dst he) hji),put_other _ _ _ _ h19]
     exact ⟨q1,(hl 0).2 (Or.inr q2)⟩
theorem RInv.move {w0 WL:World}{a0:Act}{listed:Array Bool}{a:Act}{w:World}(h:RInv w0 WL a0 listed a w){i:Nat}{k:RK}(hi:RT[i]?=some k)(hsz:listed.size=125){d:Nat}{v:Value}
 (ho:k.mvd=some d) (hv:v=a.tmps.getD 19 undef) (h00:listed.getD 0 false=true):RInv w0 WL a0 (listed.setIfInBounds i true) (a.put (some d) v) w:=by
 have hil:i<listed.size:=by rw [hsz,← rt_size];exact (List.getElem?_eq_some_iff.1 hi).1
 have hd:=mvd_dst ho
 have hlow:=dst_low hi hd
 have hdne:∀j l e,RT[j]?=some l→l.dst=some e→j≠i→d≠e:=fun j l e hj he hne hde=>hne (dst_one hj hi he (by rw [hd,hde]))
 have h0:i≠0:=by
  intro e;subst e
  have:RT[0]?=some RK.mk:=rfl
  rw [this] at hi
  simp only [Option.some.injEq] at hi
  subst hi
  simp [RK.mvd] at ho
 have h19:d≠19:=fun e=>h0 (dst19 hi (by rw [hd,e]))
 have hl:∀j,(listed.setIfInBounds i true).getD j false=true↔j=i∨listed.getD j false=true:=fun j=>getD_set_true listed i j hil
 refine ⟨by rw [put_size];exact h.size,by rw [put_defers];exact h.defers,h.below,h.aside,fun x h1 h5=>?_,?_,?_,?_,fun j q t R hj hlj=>by
  rcases (hl j).1 hlj with rfl|hlj
  · rw [hi] at hj
    simp only [Option.some.injEq] at hj
    subst hj
    simp [RK.mvd] at ho
  · exact (hl 0).2 (Or.inr (h.insd j q t R hj hlj))⟩
 · rw [put_other _ _ _ _ (by omega)];exact h.locs x h1 h5
 · intro j l hj hlj e t ht
   have hji:j≠i:=by
    intro e2;subst e2
    rw [hi] at hj
    simp only [Option.some.injEq] at hj
    subst hj
    cases k<;>simp [RK.mvd,RK.out] at ht ho
   rw [put_other _ _ _ _ (hdne j l e hj (out_dst ht) hji)]
   exact h.done j l hj (((hl j).1 hlj).resolve_left hji) e t ht
 · intro hl0
   obtain ⟨r,es,n,m1,m2,m3,m4,m5⟩:=h.map h00
   refine ⟨r,es,n,by rw [put_other _ _ _ _ h19];exact m1,m2,m3,fun x hx=>?_,fun j q t R hlj hj=>?_⟩
   · obtain ⟨j,q,t,R,q1,q2,q3,q4⟩:=m4 x hx
     exact ⟨j,q,t,R,(hl j).2 (Or.inr q1),q2,q3,q4⟩
   · rcases (hl j).1 hlj with rfl|hlj
     · rw [hi] at hj
       simp only [Option.some.injEq] at hj
       subst hj
       simp [RK.mvd] at ho
     · exact m5 j q t R hlj hj
 · intro j l e hj hlj he
   by_cases hji:j=i
   · subst hji
     rw [hi] at hj
     simp only [Option.some.injEq] at hj
     subst hj
     rw [ho] at he
     simp only [Option.some.injEq] at he
     subst he
     rw [put_same _ _ _ (by rw [h.size];omega),put_other _ _ _ _ h19]
     exact ⟨hv,(hl 0).2 (Or.inr h00)⟩
   · obtain ⟨q1,q2⟩:=h.mvd j l e hj (((hl j).1 hlj).resolve_left hji) he
     rw [put_other _ _ _ _ (hdne j l e hj (mvd_dst he) hji),put_other _ _ _ _ h19]
     exact ⟨q1,(hl 0).2 (Or.inr q2)⟩
theorem RInv.made {w0 WL:World}{a0:Act}{listed:Array Bool}{a:Act}{w:World}(h:RInv w0 WL a0 listed a w)(hsz:listed.size=125)(hn:listed.getD 0 false=false) :
 RInv w0 WL a0 (listed.setIfInBounds 0 true) (a.put (some 19) (.map (some w.heap.size))) (w.alloc (.map #[] 0)):=by
 have hb:=one_below w (.map #[] 0)
 have hl:∀j,(listed.setIfInBounds 0 true).getD j false=true↔j=0∨listed.getD j false=true:=fun j=>getD_set_true listed 0 j (by omega)
 have hmk:RT[0]?=some RK.mk:=rfl
 refine ⟨by rw [put_size];exact h.size,by rw [put_defers];exact h.defers,h.below.trans (hb.mono h.below.size),h.aside.trans (Aside.of hb),fun x h1 h5=>?_,?_,?_,?_,fun _ _ _ _ _ _=>(hl 0).2 (Or.inl rfl)⟩
 · rw [put_other _ _ _ _ (by omega)];exact h.locs x h1 h5
 · intro j l hj hlj e t ht
   have hji:j≠0:=by
    intro e2;subst e2
    rw [hmk] at hj
    simp only [Option.some.injEq] at hj
    subst hj
    simp [RK.out] at ht
   have hne:19≠e:=fun he=>hji (dst19 hj (by rw [out_dst ht,he]))
   rw [put_other _ _ _ _ hne]
   exact (h.done j l hj (((hl j).1 hlj).resolve_left hji) e t ht).on (Aside.of hb)
 · intro _
   refine ⟨w.heap.size,#[],0,put_same _ _ _ (by rw [h.size];omega),h.below.size,?_,fun x hx=>by simp at hx,fun j q t R hlj hj=>?_⟩
   · show (w.heap.push _)[w.heap.size]?=_
     simp
   · rcases (hl j).1 hlj with rfl|hlj
     · rw [hmk] at hj;simp at hj
     · have:=h.insd j q t R hj hlj
       rw [hn] at this
       simp at this
 · intro j l e hj hlj he
   have hji:j≠0:=by
    intro e2;subst e2
    rw [hmk] at hj
    simp only [Option.some.injEq] at hj
    subst hj
    simp [RK.mvd] at he
   obtain ⟨q1,q2⟩:=h.mvd j l e hj (((hl j).1 hlj).resolve_left hji) he
   rw [hn] at q2
   simp at q2
theorem RInv.laid {w0 WL:World}{a0:Act}{listed:Array Bool}{a:Act}{w:World}(h:RInv w0 WL a0 listed a w){i:Nat}{k:Int}{t:Nat}{R:Rule}(hi:RT[i]?=some (RK.ins k t R))(hsz:listed.size=125)(hni:listed.getD i false=false)(h00:listed.getD 0 false=true){v:Value}(hv:SpV w v (.node R)) :
 ∃r V,a.tmps.getD 19 undef=.map (some r)∧(Instr.mapUpdate 187 (.map (some r)) (.int .u8 k) v).run Tryz.prog w=.ok () V∧RInv w0 WL a0 (listed.setIfInBounds i true) a V:=by
 have hil:i<listed.size:=by rw [hsz,← rt_size];exact (List.getElem?_eq_some_iff.1 hi).1
 have hl:∀j,(listed.setIfInBounds i true).getD j false=true↔j=i∨listed.getD j false=true:=fun j=>getD_set_true listed i j hil
 obtain ⟨r,es,n,m1,m2,m3,m4,m5⟩:=h.map h00
 have hks:∀x∈es.toList,IsKey (.int .u8) x.key:=fun x hx=>by
  obtain ⟨j,q,t,R,_,_,q3,_⟩:=m4 x hx
  rw [q3];simp [IsKey]
 obtain ⟨V,v1,v2,v3,v4⟩:=insert_at w r n es k v m3 hks (fun x hx hk=>by
  obtain ⟨j,q,t',R',q1,q2,q3,_⟩:=m4 x hx
  rw [hk] at q3
  simp only [Value.int.injEq,true_and] at q3
  have:=key_one (d:=k) q2 hi (by simp [RK.key,q3]) rfl
  subst this
  rw [hni] at q1
  simp at q1)
 refine ⟨r,V,m1,v1,h.size,h.defers,h.below.trans (v4 _ m2),h.aside.trans v3,h.locs,?_,?_,?_,fun _ _ _ _ _ _=>(hl 0).2 (Or.inr h00)⟩
 · intro j l hj hlj e s hs
   have hji:j≠i:=by
    intro e2;subst e2
    rw [hi] at hj
    simp only [Option.some.injEq] at hj
    subst hj
    simp [RK.out] at hs
   exact (h.done j l hj (((hl j).1 hlj).resolve_left hji) e s hs).on v3
 · intro _
   refine ⟨r,_,_,m1,m2,v2,fun x hx=>?_,fun j q t' R' hlj hj=>?_⟩
   · simp only [Array.toList_push,List.mem_append,List.mem_singleton] at hx
     rcases hx with hx|rfl
     · obtain ⟨j,q,t',R',q1,q2,q3,q4⟩:=m4 x hx
       exact ⟨j,q,t',R',(hl j).2 (Or.inr q1),q2,q3,q4.on v3⟩
     · exact ⟨i,k,t,R,(hl i).2 (Or.inl rfl),hi,rfl,hv.on v3⟩
   · rcases (hl j).1 hlj with rfl|hlj
     · rw [hi] at hj
       simp only [Option.some.injEq,RK.ins.injEq] at hj
       obtain ⟨rfl,_,_⟩:=hj
       exact ⟨{ key:=.int .u8 k,val:=v,born:=n },by simp,rfl⟩
     · obtain ⟨x,hx,hxk⟩:=m5 j q t' R' hlj hj
       exact ⟨x,by simp [hx],hxk⟩
 · intro j l e hj hlj he
   have hji:j≠i:=by
    intro e2;subst e2
    rw [hi] at hj
    simp only [Option.some.injEq] at hj
    subst hj
    simp [RK.mvd] at he
   obtain ⟨q1,q2⟩:=h.mvd j l e hj (((hl j).1 hlj).resolve_left hji) he
   exact ⟨q1,(hl 0).2 (Or.inr q2)⟩
section
variable (a:Act)(w:World)(K:Act→World→Prop)(Q:Exit→Act→World→Prop)(d:Nat)(ty:Nat)(pos:String)(after:Array Edge)
theorem wp_bs (l:List Int)(hl:l.length=1∨l.length=2)(h:∀v w',SpV w' v (.ks l)→Below w.heap.size w w'→K (a.put (some d) v) w'):Oper.wp Tryz.prog ⟨some d,(RK.bs d l).op,ty,pos,after,none⟩ a w K Q:=by
 match l,hl with
 | [x],_ =>
  show Oper.wp Tryz.prog ⟨some d,.buildSlice 22 1 #[(0,.const (.int .u8 x))],ty,pos,after,none⟩ a w K Q
  have h1:=h (.slice (some ⟨w.heap.size,0,none⟩) 1 1) (w.alloc (.cells #[.int .u8 x] 5)) ⟨_,_,_,rfl,bv_new w _ [x] 1 rfl rfl,by omega⟩ (one_below w _)
  have H:=lh h1
  clear h h1
  go_simp
  exact H.out
 | [x,y],_ =>
  show Oper.wp Tryz.prog ⟨some d,.buildSlice 22 2 #[(0,.const (.int .u8 x)),(1,.const (.int .u8 y))],ty,pos,after,none⟩ a w K Q
  have h1:=h (.slice (some ⟨w.heap.size,0,none⟩) 2 2) (w.alloc (.cells #[.int .u8 x,.int .u8 y] 5)) ⟨_,_,_,rfl,bv_new w _ [x,y] 2 rfl rfl,by omega⟩ (one_below w _)
  have H:=lh h1
  clear h h1
  go_simp
  exact H.out
theorem back_ok {f:Nat}{args:Array Value}{W:World}{post:Ending→World→Prop}(hc:Calls Tryz.prog f args W post)(hr:∀e w',post e w'→∃v,e=.returned v∧K (a.put (some d) v) w') :
 Calls Tryz.prog f args W fun x x_1=>match x,x_1 with
  | Ending.returned v,w''=>K { tmps:=a.tmps.setIfInBounds d v,defers:=a.defers } w''
  | Ending.panicked chain,w''=>Q (Exit.panic chain) a w''
  | Ending.outgrown,_=>LetsOut Q:=hc.mono fun e w' he=>by
 obtain ⟨v,rfl,hk⟩:=hr e w' he
 exact hk
theorem wp_isc (t:Nat)(l:List Int)(hv:SpV w (a.tmps.getD t undef) (.ks l))(h:∀v w',SpV w' v (.fit (.of l))→Below w.heap.size w w'→K (a.put (some d) v) w'):Oper.wp Tryz.prog ⟨some d,(RK.isc d t l).op,ty,pos,after,none⟩ a w K Q:=by
 obtain ⟨q,n,c,e1,hb,hn⟩:=hv
 have H:=lh h
 have HC:=lh (is_at w q n c l hb hn)
 clear h hb
 show Oper.wp Tryz.prog ⟨some d,.call { callee:=.value (.func 185),args:=#[.tmp t],argTypes:=#[22] },ty,pos,after,none⟩ a w K Q
 go_simp
 exact back_ok a K Q d HC.out fun e w' ⟨⟨g,cs,he,hf⟩,hb⟩=>⟨_,he,H.out _ _ ⟨g,cs,rfl,hf⟩ hb⟩
theorem wp_part (s:Option Nat)(p:Part)(hg:(RK.part d s p).good=true)(hv:∀t,s=some t→SpV w (a.tmps.getD t undef) (.fit p.fit))(h:∀v w',SpV w' v (.part p)→Below w.heap.size w w'→K (a.put (some d) v) w'):Oper.wp Tryz.prog ⟨some d,(RK.part d s p).op,ty,pos,after,none⟩ a w K Q:=by
 have key:∀g cs,FitV w g cs p.fit→Calls Tryz.prog (partFn p) #[.func g #[] cs] w fun e w'=>e=.returned (.agg #[.func g #[] cs,.int .i64 (p.least:Int),.int .i64 (p.most:Int)])∧Below w.heap.size w w':=by
  intro g cs _
  simp only [RK.good,Bool.and_eq_true,Bool.or_eq_true,beq_iff_eq] at hg
  rcases hg.1 with (h1|h1)|h1
  · rw [h1];exact one_at w g cs
  · rw [h1];exact maybe_at w g cs
  · rw [h1];exact many_at w g cs
 have H:=lh h
 cases s with
 | some t =>
  obtain ⟨g,cs,e1,hf⟩:=hv t rfl
  have HC:=lh (key g cs hf)
  have HF:=lh hf
  clear h hv key hf hg
  show Oper.wp Tryz.prog ⟨some d,.call { callee:=.value (.func (partFn p)),args:=#[.tmp t],argTypes:=#[113] },ty,pos,after,none⟩ a w K Q
  have hF:partFn p = 184∨partFn p = 188∨partFn p = 191:=by unfold partFn;split<;>(try split)<;>simp
  generalize partFn p=F at *
  rcases hF with rfl|rfl|rfl
  all_goals
   go_simp
   exact back_ok a K Q d HC.out fun e w' ⟨he,hb⟩=>⟨_,he,H.out _ _ ⟨g,cs,rfl,HF.out.on (Aside.of hb)⟩ hb⟩
 | none =>
  have hff:FitV w (.func (if p.fit=.stmt then 190 else 115)) #[] p.fit:=by
   simp only [RK.good,Bool.and_eq_true,Bool.or_eq_true,beq_iff_eq] at hg
   rcases hg.2 with (h1|h1)|h1
   · simp at h1
   · rw [h1];exact ⟨rfl,rfl⟩
   · rw [h1];exact ⟨rfl,rfl⟩
  have HC:=lh (key _ _ hff)
  have HF:=lh hff
  clear h hv key hff hg
  show Oper.wp Tryz.prog ⟨some d,.call { callee:=.value (.func (partFn p)),args:=#[.func (if p.fit=.stmt then 190 else 115)],argTypes:=#[113] },ty,pos,after,none⟩ a w K Q
  have hF:partFn p = 184∨partFn p = 188∨partFn p = 191:=by unfold partFn;split<;>(try split)<;>simp
  generalize partFn p=F at *
  generalize (if p.fit=.stmt then 190 else 115)=G at *
  rcases hF with rfl|rfl|rfl
  all_goals
   go_simp
   exact back_ok a K Q d HC.out fun e w' ⟨he,hb⟩=>⟨_,he,H.out _ _ ⟨_,_,rfl,HF.out.on (Aside.of hb)⟩ hb⟩
theorem wp_nd (s:Option Nat)(R:Rule)(hg:(RK.nd d s R).good=true)(hv:∀t,s=some t→SpV w (a.tmps.getD t undef) (.parts R.parts))(h:∀v w',SpV w' v (.node R)→Below w.heap.size w w'→K (a.put (some d) v) w'):Oper.wp Tryz.prog ⟨some d,(RK.nd d s R).op,ty,pos,after,none⟩ a w K Q:=by
 have H:=lh h
 cases s with
 | some t =>
  obtain ⟨q,l,c,e1,hf⟩:=hv t rfl
  have HC:=lh (node_at w q l c R (if R.named then 189 else 187) R.most rfl rfl hf)
  clear h hv hf hg
  show Oper.wp Tryz.prog ⟨some d,.call { callee:=.value (.func 186),args:=#[.func (if R.named then 189 else 187),.const (.int .i64 R.most),.tmp t],argTypes:=#[161,2, 287] },ty,pos,after,none⟩ a w K Q
  generalize (if R.named then 189 else 187)=G at *
  go_simp
  exact back_ok a K Q d HC.out fun e w' ⟨⟨tb,mb,kb,he,hn⟩,hb⟩=>⟨_,he,H.out _ _ ⟨tb,mb,kb,rfl,hn⟩ hb⟩
 | none =>
  have hp:R.parts=[]:=by simpa [RK.good] using hg
  have HC:=lh (node_at w none 0 0 R (if R.named then 189 else 187) R.most rfl rfl (by rw [hp];exact ⟨rfl,Nat.le_refl _,fun h=>absurd h (by omega)⟩))
  clear h hv hg
  show Oper.wp Tryz.prog ⟨some d,.call { callee:=.value (.func 186),args:=#[.func (if R.named then 189 else 187),.const (.int .i64 R.most),.const (.slice none 0 0)],argTypes:=#[161,2, 287] },ty,pos,after,none⟩ a w K Q
  generalize (if R.named then 189 else 187)=G at *
  go_simp
  exact back_ok a K Q d HC.out fun e w' ⟨⟨tb,mb,kb,he,hn⟩,hb⟩=>⟨_,he,H.out _ _ ⟨tb,mb,kb,rfl,hn⟩ hb⟩
theorem wp_ld (x b:Nat)(p:Part)(g:Fn)(cs:Array Value)(e1:a.tmps.getD x undef=.pointer (some ⟨b,0,none⟩))(hp:PC w b 0 p g cs)(h:∀v w',SpV w' v (.part p)→Below w.heap.size w w'→K (a.put (some d) v) w'):Oper.wp Tryz.prog ⟨some d,(RK.ld d x p).op,ty,pos,after,none⟩ a w K Q:=by
 have H:=lh (h (.agg #[.func g #[] cs,.int .i64 (p.least:Int),.int .i64 (p.most:Int)]) w ⟨g,cs,rfl,hp.fit⟩ (Below.refl _ _))
 have c0:=hp.fv
 have c1:w.cell? ⟨b,1,none⟩=_:=hp.least
 have c2:w.cell? ⟨b,2,none⟩=_:=hp.most
 clear h hp
 show Oper.wp Tryz.prog ⟨some d,.load 255 (.tmp x),ty,pos,after,none⟩ a w K Q
 go_simp
 exact H.out
theorem pv_new (W:World)(xs:List (Part × Fn × Array Value))(cells:Array Value)(n:Nat)(hn:n=xs.length)(hcs:cells=(xs.flatMap fun x=>[.func x.2.1 #[] x.2.2,.int .i64 (x.1.least:Int),.int .i64 (x.1.most:Int)]).toArray)(hx:∀x∈xs,FitV W x.2.1 x.2.2 x.1.fit) :
 PV (W.alloc (.cells cells 255)) (some ⟨W.heap.size,0,none⟩) n n (xs.map (·.1)) where
 len_eq:=by simp [hn]
 cap:=Nat.le_refl _
 cell:=fun _=>by
  refine ⟨W.heap.size,0,rfl,fun i hi=>?_⟩
  have hix:i<xs.length:=by omega
  have hget:∀(l:List (Part × Fn × Array Value)) (i j:Nat) (hi:i<l.length) (hj:j<3),(l.flatMap fun x=>[Value.func x.2.1 #[] x.2.2,.int .i64 (x.1.least:Int),.int .i64 (x.1.most:Int)])[i*3+j]?=[Value.func l[i].2.1 #[] l[i].2.2,.int .i64 (l[i].1.least:Int),.int .i64 (l[i].1.most:Int)][j]?:=by
   intro l
   induction l with
   | nil=>intro i j hi;simp at hi
   | cons y l ih =>
    intro i j hi hj
    cases i with
    | zero =>
     simp only [List.flatMap_cons,Nat.zero_mul,Nat.zero_add,List.getElem_cons_zero]
     rw [List.getElem?_append_left (by simpa using hj)]
    | succ i =>
     simp only [List.flatMap_cons,List.getElem_cons_succ]
     rw [List.getElem?_append_right (by simp;omega)]
     rw [← ih i j (by simpa using hi) hj]
     congr 1
     simp;omega
  refine ⟨xs[i].2.1,xs[i].2.2,?_⟩
  have e:(xs.map (·.1)).getD i default=xs[i].1:=by simp [List.getD,hix]
  rw [e]
  have hc:∀j v,j<3→[Value.func xs[i].2.1 #[] xs[i].2.2,.int .i64 (xs[i].1.least:Int),.int .i64 (xs[i].1.most:Int)][j]?=some v→(W.alloc (.cells cells 255)).cell? ⟨W.heap.size,0+i*3+j,none⟩=some v:=by
   intro j v hj hv
   rw [World.cell?_alloc_at _ _ _ _ rfl,hcs,List.getElem?_toArray,Nat.zero_add,hget xs i j hix hj,hv]
  exact ⟨hc 0 _ (by omega) rfl,hc 1 _ (by omega) rfl,hc 2 _ (by omega) rfl,(hx _ (List.getElem_mem hix)).on (Aside.of (one_below W _))⟩
theorem wp_ps (ts:List (Nat × Part))(hl:ts.length=1∨ts.length=2∨ts.length=3∨ts.length=4)(hv:∀x∈ts,SpV w (a.tmps.getD x.1 undef) (.part x.2))(h:∀v w',SpV w' v (.parts (ts.map (·.2)))→Below w.heap.size w w'→K (a.put (some d) v) w'):Oper.wp Tryz.prog ⟨some d,(RK.ps d ts).op,ty,pos,after,none⟩ a w K Q:=by
 match ts,hl with
 | [(t,p)],_ =>
  obtain ⟨g1,c1,e1,f1⟩:=hv (t,p) (by simp)
  have H:=lh (h _ _ ⟨_,_,_,rfl,pv_new w [(p,g1,c1)] _ 1 rfl rfl (by simpa using f1)⟩ (one_below w _))
  clear h hv f1
  show Oper.wp Tryz.prog ⟨some d,.buildSlice 287 1 #[(0,.tmp t)],ty,pos,after,none⟩ a w K Q
  simp only [Array.getD_eq_getD_getElem?] at e1
  go_simp
  exact H.out
 | [(t,p),(u,q)],_ =>
  obtain ⟨g1,c1,e1,f1⟩:=hv (t,p) (by simp)
  obtain ⟨g2,c2,e2,f2⟩:=hv (u,q) (by simp)
  have H:=lh (h _ _ ⟨_,_,_,rfl,pv_new w [(p,g1,c1),(q,g2,c2)] _ 2 rfl rfl (by simpa using ⟨f1,f2⟩)⟩ (one_below w _))
  clear h hv f1 f2
  show Oper.wp Tryz.prog ⟨some d,.buildSlice 287 2 #[(0,.tmp t),(1,.tmp u)],ty,pos,after,none⟩ a w K Q
  simp only [Array.getD_eq_getD_getElem?] at e1 e2
  go_simp
  exact H.out
 | [(t,p),(u,q),(v,r)],_ =>
  obtain ⟨g1,c1,e1,f1⟩:=hv (t,p) (by simp)
  obtain ⟨g2,c2,e2,f2⟩:=hv (u,q) (by simp)
  obtain ⟨g3,c3,e3,f3⟩:=hv (v,r) (by simp)
  have H:=lh (h _ _ ⟨_,_,_,rfl,pv_new w [(p,g1,c1),(q,g2,c2),(r,g3,c3)] _ 3 rfl rfl (by simpa using ⟨f1,f2,f3⟩)⟩ (one_below w _))
  clear h hv f1 f2 f3
  show Oper.wp Tryz.prog ⟨some d,.buildSlice 287 3 #[(0,.tmp t),(1,.tmp u),(2,.tmp v)],ty,pos,after,none⟩ a w K Q
  simp only [Array.getD_eq_getD_getElem?] at e1 e2 e3
  go_simp
  exact H.out
 | [(t,p),(u,q),(v,r),(x,s)],_ =>
  obtain ⟨g1,c1,e1,f1⟩:=hv (t,p) (by simp)
  obtain ⟨g2,c2,e2,f2⟩:=hv (u,q) (by simp)
  obtain ⟨g3,c3,e3,f3⟩:=hv (v,r) (by simp)
  obtain ⟨g4,c4,e4,f4⟩:=hv (x,s) (by simp)
  have H:=lh (h _ _ ⟨_,_,_,rfl,pv_new w [(p,g1,c1),(q,g2,c2),(r,g3,c3),(s,g4,c4)] _ 4 rfl rfl (by simpa using ⟨f1,f2,f3,f4⟩)⟩ (one_below w _))
  clear h hv f1 f2 f3 f4
  show Oper.wp Tryz.prog ⟨some d,.buildSlice 287 4 #[(0,.tmp t),(1,.tmp u),(2,.tmp v),(3,.tmp x)],ty,pos,after,none⟩ a w K Q
  simp only [Array.getD_eq_getD_getElem?] at e1 e2 e3 e4
  go_simp
  exact H.out
theorem wp_mk (h:K (a.put (some 19) (.map (some w.heap.size))) (w.alloc (.map #[] 0))):Oper.wp Tryz.prog ⟨some 19,RK.mk.op,ty,pos,after,none⟩ a w K Q:=by
 have hmm:=@run_makeMap Tryz.prog
 have H:=lh h
 clear h
 show Oper.wp Tryz.prog ⟨some 19,.makeMap 187 none,ty,pos,after,none⟩ a w K Q
 go_simp
 exact H.out
theorem wp_ins (k:Int)(t r:Nat)(R:Rule)(V:World)(e0:a.tmps.getD 19 undef=.map (some r))(hi:(Instr.mapUpdate 187 (.map (some r)) (.int .u8 k) (a.tmps.getD t undef)).run Tryz.prog w=.ok () V)(h:K (a.put none undef) V):Oper.wp Tryz.prog ⟨none,(RK.ins k t R).op,ty,pos,after,none⟩ a w K Q:=by
 have H:=lh h
 clear h
 obtain ⟨v,e1⟩:∃v,a.tmps.getD t undef=v:=⟨_,rfl⟩
 rw [e1] at hi
 show Oper.wp Tryz.prog ⟨none,.insert 187 (.tmp 19) (.const (.int .u8 k)) (.tmp t),ty,pos,after,none⟩ a w K Q
 go_simp
 exact H.out
end
end Tr
end Go.Proofs.YthdioipfdbbmmaaGreatDoor
