/- Contracts. -/
import Derived.Test.YthdioipfdbbmmaaGreatDoorKah
import Derived.Test.YthdioipfdbbmmaaGreatDoorKaw
import Derived.Test.YthdioipfdbbmmaaGreatDoorKaz
import Derived.Test.YthdioipfdbbmmaaGreatDoorKbc
import Derived.RangeFuncBox
import Derived.Recover
import Derived.Defers
import Derived.MapKept
import Derived.BigQuiet
import Derived.Deep.QuietTactic
set_option linter.all false
set_option maxRecDepth 1000000
set_option maxHeartbeats 16000000
namespace Go.Proofs.YthdioipfdbbmmaaGreatDoor
namespace Nm
open Go.RowKit Go.Maps Tr
section
open Go.Builtin
theorem run_append_nilk {P:Program}{w:World}(base:Nat)(t ty e:TypeId)(i:TypeInfo)(size k:Nat)(ht:P.underlying t=some (.slice e))(hi:P.info? e=some i)
 (v:Value) (n:Nat) (xs:List Value) (hown:w.ownsRow base e size v n xs):(Builtin.append_ #[t,t] ty #[v,.slice none 0 k]).run P w=.ok v w:=by
 rcases hown.2 with ⟨rfl,rfl⟩|⟨g,cap,cur,rfl,_,_,hnc,_⟩
 · simp [Builtin.append_,run_underlying ht,sizeOf,typeInfo,hi,Builtin.lenOf,Builtin.firstCells]
 · simp [Builtin.append_,run_underlying ht,sizeOf,typeInfo,hi,Builtin.lenOf,Builtin.firstCells,hnc,storeCells]
theorem append_nilk {P:Program}{w:World}{ops:Array Oper}{rest:List Oper}{o:Oper}{a:Act}{Q:Exit→Act→World→Prop}(hgd:o.guard=none)(s x:Operand)(t:TypeId)
 (ho:o.op=.call { callee:=.builtin .append,args:=#[s,x],argTypes:=#[t,t] })
 (base:Nat) (e:TypeId) (i:TypeInfo) (size k:Nat) (ht:P.underlying t=some (.slice e)) (hi:P.info? e=some i)
 (v:Value) (n:Nat) (xs:List Value) (hs:a.eval s=v) (hown:w.ownsRow base e size v n xs) (hx:a.eval x=.slice none 0 k)
 (h:wpList P ops Q rest (a.put o.dst v) w):wpList P ops Q (o::rest) a w:=by
 refine wpList_plain hgd fun K hK=>?_
 have hrun:=run_append_nilk (P:=P) (w:=w) base t o.type e i size k ht hi v n xs hown
 unfold Oper.wp
 simp [execOp,ho,resolve,invoke,builtin,hs,hx,hrun,Result.andThen]
 exact hK _ _ h
end
theorem off_ne {b o q:Nat}(h:q≠o):(⟨b,q,none⟩:Addr)≠⟨b,o,none⟩:=fun e=>h (by cases e;rfl)
theorem blk_ne {b c o q:Nat}(h:c≠b):(⟨b,q,none⟩:Addr)≠⟨c,o,none⟩:=fun e=>h (by cases e;rfl)
theorem IV.far {W:World}{kp:Option Addr}{kl kc nb q:Nat}{xs:List Int}{v:Value}(h:IV W kp kl kc xs)(hk:0<kl→∀b off,kp=some ⟨b,off,none⟩→b≠nb):IV (W.setCell ⟨nb,q,none⟩ v) kp kl kc xs where
 len_eq:=h.len_eq
 cap:=h.cap
 cell:=fun hl=>by
  obtain ⟨b,off,e,hlt,hc⟩:=h.cell hl
  exact ⟨b,off,e,by simpa using hlt,fun i hi=>by rw [World.cell?_setCell_other (h:=blk_ne (hk hl b off e))];exact hc i hi⟩
theorem NC.far {W:World}{nb o q:Nat}{n:Nd}{kp:Option Addr}{kl kc:Nat}{v:Value}(h:NC W nb o n kp kl kc)(hk:0<kl→∀b off,kp=some ⟨b,off,none⟩→b≠nb)(hq:q<o∨o+5≤q):NC (W.setCell ⟨nb,q,none⟩ v) nb o n kp kl kc where
 kind:=by rw [World.cell?_setCell_other (h:=off_ne (by omega))];exact h.kind
 at':=by rw [World.cell?_setCell_other (h:=off_ne (by omega))];exact h.at'
 text:=by rw [World.cell?_setCell_other (h:=off_ne (by omega))];exact h.text
 n:=by rw [World.cell?_setCell_other (h:=off_ne (by omega))];exact h.n
 kids:=by rw [World.cell?_setCell_other (h:=off_ne (by omega))];exact h.kids
 iv:=IV.far h.iv hk
theorem NC.again {W:World}{nb o:Nat}{n:Nd}{kp:Option Addr}{kl kc:Nat}(h:NC W nb o n kp kl kc)(hk:0<kl→∀b off,kp=some ⟨b,off,none⟩→b≠nb):NC (W.setCell ⟨nb,o+2,none⟩ (.string n.text)) nb o n kp kl kc where
 kind:=by rw [World.cell?_setCell_other (h:=off_ne (by omega))];exact h.kind
 at':=by rw [World.cell?_setCell_other (h:=off_ne (by omega))];exact h.at'
 text:=World.cell?_setCell_same _ _ _ h.text
 n:=by rw [World.cell?_setCell_other (h:=off_ne (by omega))];exact h.n
 kids:=by rw [World.cell?_setCell_other (h:=off_ne (by omega))];exact h.kids
 iv:=IV.far h.iv hk
theorem NC.newKids {W:World}{nb o:Nat}{n:Nd}{kp kp':Option Addr}{kl kc kl' kc':Nat}(h:NC W nb o n kp kl kc)(hi:IV W kp' kl' kc' n.kids)(hk:0<kl'→∀b off,kp'=some ⟨b,off,none⟩→b≠nb):NC (W.setCell ⟨nb,o+4,none⟩ (.slice kp' kl' kc')) nb o n kp' kl' kc' where
 kind:=by rw [World.cell?_setCell_other (h:=off_ne (by omega))];exact h.kind
 at':=by rw [World.cell?_setCell_other (h:=off_ne (by omega))];exact h.at'
 text:=by rw [World.cell?_setCell_other (h:=off_ne (by omega))];exact h.text
 n:=by rw [World.cell?_setCell_other (h:=off_ne (by omega))];exact h.n
 kids:=World.cell?_setCell_same _ _ _ h.kids
 iv:=IV.far hi hk
theorem UN.on {W W':World}{nb len:Nat}{ns:List Nd}(h:UN W nb len ns)(hb:Below W.heap.size W W'):UN W' nb len ns:=by
 obtain ⟨cs,hc⟩:=h.blk
 have hlt:=(Array.getElem?_eq_some_iff.1 hc).1
 refine ⟨⟨cs,(hb.block nb hlt).trans hc⟩,fun j hj=>?_⟩
 obtain ⟨kp,kl,kc,h1,h2⟩:=h.node j hj
 exact ⟨kp,kl,kc,h1.on hlt hb,h2⟩
theorem UN.text {W:World}{nb len:Nat}{ns:List Nd}(h:UN W nb len ns)(i:Nat):UN (W.setCell ⟨nb,i*5+2,none⟩ (.string (nd ns i).text)) nb len ns:=by
 obtain ⟨cs,hc⟩:=h.blk
 refine ⟨⟨_,heap_set _ _ _ _ _ _ hc⟩,fun j hj=>?_⟩
 obtain ⟨kp,kl,kc,h1,h2⟩:=h.node j hj
 by_cases e:j=i
 · subst e
   exact ⟨kp,kl,kc,NC.again h1 h2,h2⟩
 · exact ⟨kp,kl,kc,NC.far h1 h2 (by omega),h2⟩
theorem UN.kids {W:World}{nb len:Nat}{ns:List Nd}(h:UN W nb len ns)(i:Nat){kp':Option Addr}{kl' kc':Nat}(hi:IV W kp' kl' kc' (nd ns i).kids)(hk:KOk nb kp' kl'):UN (W.setCell ⟨nb,i*5+4,none⟩ (.slice kp' kl' kc')) nb len ns:=by
 obtain ⟨cs,hc⟩:=h.blk
 refine ⟨⟨_,heap_set _ _ _ _ _ _ hc⟩,fun j hj=>?_⟩
 obtain ⟨kp,kl,kc,h1,h2⟩:=h.node j hj
 by_cases e:j=i
 · subst e
   exact ⟨kp',kl',kc',NC.newKids h1 hi hk,hk⟩
 · exact ⟨kp,kl,kc,NC.far h1 h2 (by omega),h2⟩
theorem iv_own {W:World}{B n:Nat}{v:Value}{xs:List Int}(h:W.ownsRow B 3 1 v n (xs.map (Value.int .i64)))(hn:xs.length=n):∃kp kc,v=.slice kp n kc∧IV W kp n kc xs∧(∀b off,kp=some ⟨b,off,none⟩→B≤b)∧(kp=none→kc=0):=by
 subst hn
 rcases h.2 with ⟨rfl,h0⟩|⟨g,c,cur,rfl,hB,hg,hc,_,_,ht⟩
 · refine ⟨none,0,by rw [h0],⟨rfl,by omega,fun h=>by omega⟩,(fun b off e=>by cases e),fun _=>rfl⟩
 · refine ⟨_,_,rfl,⟨rfl,hc,fun _=>⟨g,0,rfl,(Array.getElem?_eq_some_iff.1 hg).1,fun i hi=>?_⟩⟩,(fun b off e=>by cases e;exact hB),fun e=>by cases e⟩
   rw [cell_of_row _ _ _ _ _ _ hg,← Array.getElem?_toList]
   have h2:(cur.toList.take (xs.length*1))[0+i]?=(xs.map (Value.int .i64))[0+i]?:=by rw [ht]
   rw [List.getElem?_take,if_pos (by omega)] at h2
   rw [h2]
   simp [List.getD,hi]
end Nm
namespace Nm
open Go.RowKit Go.Maps Tr
theorem size_al (w:World)(o:Obj):(w.alloc o).heap.size=w.heap.size+1:=Array.size_push _
theorem heap_al (w:World)(o:Obj)(k:Nat)(hk:k=w.heap.size):(w.alloc o).heap[k]?=some o:=by
 subst hk
 show (w.heap.push o)[w.heap.size]?=_
 rw [Array.getElem?_push,if_pos rfl]
theorem kids_step {w6 w7:World}{nb o:Nat}{x:Nd}{kp:Option Addr}{kl kc:Nat}{v:Value}(N6:NC w6 nb o x kp kl kc)(hown:w7.ownsRow w6.heap.size 3 1 v (0+kl) ([]++x.kids.map (Value.int .i64)))(hgrow:w6.grownBy w7 (Value.slice none 0 0).ownBlock)(hlt:nb<w6.heap.size)(hf:w6.frozen? ⟨nb,o+4,none⟩=false) :
 ∃kp2 kc2,v=.slice kp2 kl kc2∧w7.cell? ⟨nb,o+4,none⟩=some (.slice kp kl kc)∧w7.frozen? ⟨nb,o+4,none⟩=false∧Hid (IV w7 kp2 kl kc2 x.kids∧KOk nb kp2 kl∧Below w6.heap.size w6 w7):=by
 have hb7:Below w6.heap.size w6 w7:=(Below.refl _ _).grown hgrow (Nat.le_refl _) (fun k hk=>by simp [Value.ownBlock] at hk)
 rw [Nat.zero_add,List.nil_append] at hown
 obtain ⟨kp2,kc2,rfl,hIV,hge,_⟩:=iv_own hown N6.iv.len_eq
 refine ⟨kp2,kc2,rfl,?_,?_,lh ⟨hIV,fun _ b off e=>(by have:=hge b off e;omega),hb7⟩⟩
 · rw [hb7.cell (p:=⟨nb,o+4,none⟩) hlt];exact N6.kids
 · rw [hb7.frozen (p:=⟨nb,o+4,none⟩) hlt];exact hf
theorem NC.via {W W':World}{nb o:Nat}{n:Nd}{kp:Option Addr}{kl kc:Nat}(h:NC W nb o n kp kl kc)(hs:W.heap.size≤W'.heap.size)(hn:W'.heap[nb]?=W.heap[nb]?)(hk:0<kl→∀b off,kp=some ⟨b,off,none⟩→W'.heap[b]?=W.heap[b]?):NC W' nb o n kp kl kc where
 kind:=(World.cell?_of_block (w:=W) hn).trans h.kind
 at':=(World.cell?_of_block (w:=W) hn).trans h.at'
 text:=(World.cell?_of_block (w:=W) hn).trans h.text
 n:=(World.cell?_of_block (w:=W) hn).trans h.n
 kids:=(World.cell?_of_block (w:=W) hn).trans h.kids
 iv:=⟨h.iv.len_eq,h.iv.cap,fun hl=>by
  obtain ⟨b,off,e,hlt,hc⟩:=h.iv.cell hl
  exact ⟨b,off,e,by omega,fun i hi=>(World.cell?_of_block (w:=W) (a:=⟨b,off+i,none⟩) (hk hl b off e)).trans (hc i hi)⟩⟩
structure UnR (w w':World)(nb nc ob len:Nat)(ns:List Nd):Prop where
 cap:len≤nc
 nbw:w.heap.size≤nb
 nbo:nb<ob
 of:w'.heap[ob]?=some (.cells (List.replicate len (.int .i64 (-1))).toArray 3 (0,0))
 blk:∃cs,w'.heap[nb]?=some (.cells cs 54 (0,0))
 node:∀j,j<len→∃kp kl kc,NC w' nb (j*5) (nd ns j) kp kl kc∧(0<kl→∀b off,kp=some ⟨b,off,none⟩→b≠nb∧b<ob)
 below:Below w.heap.size w w'
def UnPost (w:World)(len:Nat)(ns:List Nd)(e:Ending)(w':World):Prop:=∃nb nc ob,e=.returned (.agg #[.slice (some ⟨nb,0,none⟩) len nc,.slice none 0 0,.slice none 0 0,.slice (some ⟨ob,0,none⟩) len len])∧UnR w w' nb nc ob len ns
theorem unresolved_at (w:World)(len c:Nat)(p:Option Addr)(ns:List Nd)(h:TV w p len c ns)(h0:0<len)(hf:len≤70000)(htx:∀i,(nd ns i).text.size≤70000)(hkf:∀i,(nd ns i).kids.length≤70000) :
 Calls Tryz.prog 79 #[.agg #[.slice p len c]] w (UnPost w len ns):=by
 obtain ⟨i0,hi,hz0,hz1,hz2⟩:=infoU_of infoUI
 have HT:=lh h
 have HTX:=lh htx
 have HKF:=lh hkf
 have hpl:∀b off,p=some ⟨b,off,none⟩→b<w.heap.size:=fun b off e=>by
  obtain ⟨b2,off2,e2,hlt,_⟩:=h.node h0
  rw [e2] at e;cases e;exact hlt
 have HP:=lh hpl
 clear h htx hkf hpl
 go_enter Tryz.func79,Tryz.ntmps79
 go_wp2_with fail
 obtain ⟨w2,hw2⟩:∃w2,((w.alloc (.cells #[.slice p len c] 39)).alloc (.cells #[.slice none 0 0,.slice none 0 0,.slice none 0 0,.slice none 0 0] 65))=w2:=⟨_,rfl⟩
 have hs2:w2.heap.size=w.heap.size+2:=by rw [← hw2,size_al,size_al]
 have hB2:Below w.heap.size w w2:=by rw [← hw2];exact ((Below.refl _ w).alloc (Nat.le_refl _) _).alloc (by rw [size_al];omega) _
 have hr2:w2.heap[w.heap.size+1]?=some (.cells #[.slice none 0 0,.slice none 0 0,.slice none 0 0,.slice none 0 0] 65 (0,0)):=by rw [← hw2];exact heap_al _ _ _ (by rw [size_al])
 rw [hw2]
 clear hw2
 have CL:=cloneN_at w2 len c p ns (HT.out.on hB2) h0 hf
 have HB2:=lh hB2
 have HR2:=lh hr2
 clear HT HP hB2 hr2
 (with_reducible refine CL.mono ?_)
 rintro e w3 ⟨nb,nc,rfl,hnb,hnc,hU,hb3⟩
 have HU3:=lh hU
 have HB3:=lh hb3
 clear hU hb3 CL
 go_wp2_with fail
 go_loopw [11] (fun iv wr=>∃j:Nat,iv=.int .i64 (j:Int)∧j≤len∧Hid (UN wr nb len ns)∧Hid (Below w2.heap.size w2 wr)) (fun iv _=>len-(intOf iv).toNat)
 case atStart=>exact ⟨0,rfl,by omega,HU3,HB3⟩
 case round =>
  clear HU3 HB3
  obtain ⟨j,rfl,hj,HU,HB⟩:=hrel
  have q0:(0:Int)≤(j:Int):=by omega
  by_cases hjn:j<len
  · have q1:(j:Int)<(len:Int):=by omega
    obtain ⟨cs,hcs⟩:=HU.out.blk
    have hlt:=(Array.getElem?_eq_some_iff.1 hcs).1
    obtain ⟨kp,kl,kc,hN,hk⟩:=HU.out.node j hjn
    have htx:=HTX.out j
    have hkf:=HKF.out j
    obtain ⟨x,hx⟩:∃x,nd ns j=x:=⟨_,rfl⟩
    rw [hx] at hN htx hkf
    have c0:=hN.kind
    have c1:=hN.at'
    have c2:=hN.text
    have c3:=hN.n
    have c4:=hN.kids
    have hkl:=hN.iv.len_eq
    have hkc:=hN.iv.cap
    have HX:=lh hx
    have HNj:=lh hN
    have HK:=lh hk
    have HC:=lh hcs
    have jw:IntKind.i64.wrap ((j:Int)+1)=((j+1:Nat):Int):=by rw [IntWalk.i64_in _ (by omega)];omega
    clear hN hk hx hcs
    go_wp2_with fail
    (with_reducible refine (stringsClone_at _ _ htx).mono ?_)
    rintro e w5 ⟨rfl,hb5⟩
    have hb:Below wr.heap.size wr w5:=((Below.refl _ wr).alloc (Nat.le_refl _) _).trans (hb5.mono (by rw [size_al];omega))
    have hbx:w5.heap[wr.heap.size]?=some (.cells #[.int .u8 x.kind,.int .i64 x.at',.string x.text,.int .i64 x.n,.slice kp kl kc] 54 (0,0)):=by rw [hb5.block _ (by rw [size_al];omega)];exact heap_al _ _ _ rfl
    have b4:w5.cell? ⟨wr.heap.size,4,none⟩=some (.slice kp kl kc):=by rw [cell_of_row _ _ _ _ _ _ hbx];rfl
    have d2:w5.cell? ⟨nb,j*5+2,none⟩=some (.string x.text):=by rw [hb.cell (p:=⟨nb,j*5+2,none⟩) hlt];exact c2
    have d4:w5.cell? ⟨nb,j*5+4,none⟩=some (.slice kp kl kc):=by rw [hb.cell (p:=⟨nb,j*5+4,none⟩) hlt];exact c4
    have f2:w5.frozen? ⟨nb,j*5+2,none⟩=false:=frozen_of_row _ _ _ _ _ ((hb.block nb hlt).trans HC.out)
    have f4:w5.frozen? ⟨nb,j*5+4,none⟩=false:=frozen_of_row _ _ _ _ _ ((hb.block nb hlt).trans HC.out)
    have hne:nb≠wr.heap.size:=by omega
    have HBw:=lh hb
    clear c0 c1 c2 c3 c4 hb5 hb hbx
    obtain ⟨w6,hw6⟩:∃w6,w5.setCell ⟨nb,j*5+2,none⟩ (.string x.text)=w6:=⟨_,rfl⟩
    have hs6:w6.heap.size=w5.heap.size:=by rw [← hw6];simp
    have N6:NC w6 nb (j*5) x kp kl kc:=by rw [← hw6];exact NC.again (HNj.out.on hlt HBw.out) HK.out
    have U6:Hid (UN w6 nb len ns):=lh (by rw [← hw6];have h:=UN.text (HU.out.on HBw.out) j;rw [HX.out] at h;exact h)
    have hsrc:∀i u,(x.kids.map (Value.int .i64))[i]?=some u→∀ad,kp=some ad→w6.cell? (ad.add i)=some u:=fun i u hi ad e=>by
     have hil:i<kl:=by have:=(List.getElem?_eq_some_iff.1 hi).1;simp at this;omega
     obtain ⟨b,off,e2,_,hc⟩:=N6.iv.cell (by omega)
     rw [e] at e2
     cases e2
     rw [addU_plain,hc i hil,← hi]
     simp [List.getD,show i<x.kids.length by omega]
    have hone:∀u∈x.kids.map (Value.int .i64),u.oneCell'=true:=fun u hu=>by
     obtain ⟨y,_,rfl⟩:=List.mem_map.1 hu;rfl
    have b46:w6.cell? ⟨wr.heap.size,4,none⟩=some (.slice kp kl kc):=by rw [← hw6,World.cell?_setCell_other (h:=blk_ne (by omega))];exact b4
    have d46:w6.cell? ⟨nb,j*5+4,none⟩=some (.slice kp kl kc):=N6.kids
    have f46:w6.frozen? ⟨nb,j*5+4,none⟩=false:=by rw [← hw6];simpa using f4
    have h5:nb<w5.heap.size:=Nat.lt_of_lt_of_le hlt HBw.out.size
    have hwr:w2.heap.size≤wr.heap.size:=HB.out.size
    have HB6:Hid (Below w2.heap.size w2 w6):=lh (by rw [← hw6];exact (HB.out.trans (HBw.out.mono hwr)).setCell hnb _)
    have HN6:=lh N6
    have h6:nb<w6.heap.size:=by omega
    clear b4 d4 f4 N6
    cases kp with
    | none =>
     have hz:¬ 0<kl:=fun h0=>by
      obtain ⟨b,off,e,_⟩:=HNj.out.iv.cell h0
      cases e
     obtain rfl:kl=0:=by omega
     go_wp2_with (at_builtin;(try rw [hw6]);refine append_nilk _ rfl (.const (.slice none 0 0)) (.tmp 26) 32 rfl w6.heap.size 3 i0 1 kc Tryz.underlying32 hi (.slice none 0 0) 0 [] rfl ⟨rfl,Or.inl ⟨rfl,rfl⟩⟩ rfl ?_)
     go_roundw
     case rel =>
      refine ⟨j+1,by simp,by omega,lh ?_,lh (HB6.out.setCell hnb _)⟩
      exact UN.kids U6.out j (by rw [HX.out];exact ⟨by omega,by omega,fun h=>by omega⟩) (fun h=>by omega)
     case measure=>simp [intOf];omega
    | some ad =>
     go_wp2_with (at_builtin;(try rw [hw6]);refine wpList_append_own _ rfl (.const (.slice none 0 0)) (.tmp 26) 32 rfl w6.heap.size 3 i0 _ 1 8 Tryz.underlying32 hi hz0 hz1 hz2 rfl (by decide) (.slice none 0 0) 0 [] rfl ⟨rfl,Or.inl ⟨rfl,rfl⟩⟩ ad kl kc (x.kids.map (Value.int .i64)) rfl (by rw [List.length_map];omega) (fun i u hi=>hsrc i u hi ad rfl) hone (by unfold maxLen;omega) (by omega) (Nat.le_refl _) ?_;intro v' w7 hown hgrow _;obtain ⟨kp2,kc2,rfl,d47,f47,HQ⟩:=kids_step HN6.out hown hgrow h6 f46;clear hown hgrow)
     go_roundw
     case rel =>
      refine ⟨j+1,by simp,by omega,lh ?_,lh ((HB6.out.trans (HQ.out.2.2.mono (by have:=HB6.out.size;omega))).setCell hnb _)⟩
      exact UN.kids (U6.out.on HQ.out.2.2) j (by rw [HX.out];exact HQ.out.1) HQ.out.2.1
     case measure=>simp [intOf];omega
  · obtain rfl:j=len:=by omega
    have hwr:w2.heap.size≤wr.heap.size:=HB.out.size
    have CX:(wr.alloc (.cells #[.int .i64 (-1)] 3)).cell? ⟨wr.heap.size,0,none⟩=some (.int .i64 (-1)):=by rw [cell_of_row _ _ _ _ _ _ (heap_al _ _ _ rfl)];rfl
    have RP:=repeat_at (wr.alloc (.cells #[.int .i64 (-1)] 3)) wr.heap.size 0 1 j CX (by rw [size_al];omega) h0 hf
    have RPh:=lh RP
    clear RP CX
    go_wp2_with fail
    (with_reducible refine RPh.out.mono ?_)
    rintro e w8 ⟨rfl,hof,hb8⟩
    clear RPh
    rw [size_al] at hof hb8
    have hbw:Below wr.heap.size wr w8:=((Below.refl _ wr).alloc (Nat.le_refl _) _).trans (hb8.mono (by omega))
    have hrb:w8.heap[w.heap.size+1]?=some (.cells #[.slice none 0 0,.slice none 0 0,.slice none 0 0,.slice none 0 0] 65 (0,0)):=((hbw.mono hwr).block _ (by omega)).trans ((HB.out.block _ (by omega)).trans HR2.out)
    have HF:=lh hof
    have HBw:=lh hbw
    have r0:w8.cell? ⟨w.heap.size+1,0,none⟩=some (.slice none 0 0):=by rw [cell_of_row _ _ _ _ _ _ hrb];rfl
    have r1:w8.cell? ⟨w.heap.size+1,1,none⟩=some (.slice none 0 0):=by rw [cell_of_row _ _ _ _ _ _ hrb];rfl
    have r2:w8.cell? ⟨w.heap.size+1,2,none⟩=some (.slice none 0 0):=by rw [cell_of_row _ _ _ _ _ _ hrb];rfl
    have r3:w8.cell? ⟨w.heap.size+1,3,none⟩=some (.slice none 0 0):=by rw [cell_of_row _ _ _ _ _ _ hrb];rfl
    have g0:w8.frozen? ⟨w.heap.size+1,0,none⟩=false:=frozen_of_row _ _ _ _ _ hrb
    have g1:w8.frozen? ⟨w.heap.size+1,1,none⟩=false:=frozen_of_row _ _ _ _ _ hrb
    have g2:w8.frozen? ⟨w.heap.size+1,2,none⟩=false:=frozen_of_row _ _ _ _ _ hrb
    have g3:w8.frozen? ⟨w.heap.size+1,3,none⟩=false:=frozen_of_row _ _ _ _ _ hrb
    have HRB:=lh hrb
    clear hof hbw hrb hb8
    go_wp2_with fail
    have hA:=heap_set _ _ 0 (.slice (some ⟨nb,0,none⟩) j nc) _ _ HRB.out
    have hB:=heap_set _ _ 1 (.slice none 0 0) _ _ hA
    have hC:=heap_set _ _ 2 (.slice none 0 0) _ _ hB
    have hD:=heap_set _ _ 3 (.slice (some ⟨wr.heap.size+1,0,none⟩) j j) _ _ hC
    have hfar:∀k,k≠w.heap.size+1→((((w8.setCell ⟨w.heap.size+1,0,none⟩ (.slice (some ⟨nb,0,none⟩) j nc)).setCell ⟨w.heap.size+1,1,none⟩ (.slice none 0 0)).setCell ⟨w.heap.size+1,2,none⟩ (.slice none 0 0)).setCell ⟨w.heap.size+1,3,none⟩ (.slice (some ⟨wr.heap.size+1,0,none⟩) j j)).heap[k]?=w8.heap[k]?:=fun k hk=>by
     rw [Below.heap_setCell _ _ _ _ hk,Below.heap_setCell _ _ _ _ hk,Below.heap_setCell _ _ _ _ hk,Below.heap_setCell _ _ _ _ hk]
    have hbel:Below w.heap.size w ((((w8.setCell ⟨w.heap.size+1,0,none⟩ (.slice (some ⟨nb,0,none⟩) j nc)).setCell ⟨w.heap.size+1,1,none⟩ (.slice none 0 0)).setCell ⟨w.heap.size+1,2,none⟩ (.slice none 0 0)).setCell ⟨w.heap.size+1,3,none⟩ (.slice (some ⟨wr.heap.size+1,0,none⟩) j j)) :=
     (((((HB2.out.trans (HB.out.mono (by omega))).trans (HBw.out.mono (by omega))).setCell (by simp) _).setCell (by simp) _).setCell (by simp) _).setCell (by simp) _
    have hsz:((((w8.setCell ⟨w.heap.size+1,0,none⟩ (.slice (some ⟨nb,0,none⟩) j nc)).setCell ⟨w.heap.size+1,1,none⟩ (.slice none 0 0)).setCell ⟨w.heap.size+1,2,none⟩ (.slice none 0 0)).setCell ⟨w.heap.size+1,3,none⟩ (.slice (some ⟨wr.heap.size+1,0,none⟩) j j)).heap.size=w8.heap.size:=by simp
    obtain ⟨w9,hw9⟩:∃w9,((((w8.setCell ⟨w.heap.size+1,0,none⟩ (.slice (some ⟨nb,0,none⟩) j nc)).setCell ⟨w.heap.size+1,1,none⟩ (.slice none 0 0)).setCell ⟨w.heap.size+1,2,none⟩ (.slice none 0 0)).setCell ⟨w.heap.size+1,3,none⟩ (.slice (some ⟨wr.heap.size+1,0,none⟩) j j))=w9:=⟨_,rfl⟩
    rw [hw9] at hD hfar hbel hsz
    rw [hw9]
    have e0:w9.cell? ⟨w.heap.size+1,0,none⟩=some (.slice (some ⟨nb,0,none⟩) j nc):=by rw [cell_of_row _ _ _ _ _ _ hD];rfl
    have e1:w9.cell? ⟨w.heap.size+1,1,none⟩=some (.slice none 0 0):=by rw [cell_of_row _ _ _ _ _ _ hD];rfl
    have e2:w9.cell? ⟨w.heap.size+1,2,none⟩=some (.slice none 0 0):=by rw [cell_of_row _ _ _ _ _ _ hD];rfl
    have e3:w9.cell? ⟨w.heap.size+1,3,none⟩=some (.slice (some ⟨wr.heap.size+1,0,none⟩) j j):=by rw [cell_of_row _ _ _ _ _ _ hD];rfl
    have UR:UnR w w9 nb nc (wr.heap.size+1) j ns:=by
     obtain ⟨cs,hcs⟩:=HU.out.blk
     have hlt:=(Array.getElem?_eq_some_iff.1 hcs).1
     have h8:w8.heap[nb]?=wr.heap[nb]?:=HBw.out.block nb hlt
     refine ⟨hnc,by omega,by omega,(hfar _ (by omega)).trans HF.out,⟨cs,((hfar _ (by omega)).trans h8).trans hcs⟩,fun i hi=>?_,hbel⟩
     obtain ⟨kp,kl,kc,hN,hk⟩:=HU.out.node i hi
     have hbb:0<kl→∀b off,kp=some ⟨b,off,none⟩→b<wr.heap.size:=fun h0 b off e=>by
      obtain ⟨b3,off3,e3,hl3,_⟩:=hN.iv.cell h0
      rw [e3] at e;cases e;exact hl3
     refine ⟨kp,kl,kc,NC.via hN (by have:=HBw.out.size;omega) ((hfar _ (by omega)).trans h8) (fun h0 b off e=>?_),fun h0 b off e=>⟨hk h0 b off e,by have:=hbb h0 b off e;omega⟩⟩
     have hl3:=hbb h0 b off e
     by_cases hq:b=w.heap.size+1
     · obtain ⟨b3,off3,e3,_,hc3⟩:=hN.iv.cell h0
       rw [e3] at e
       cases e
       have h1:=hc3 0 h0
       rw [hq,cell_of_row _ _ _ _ _ _ ((HB.out.block _ (by omega)).trans HR2.out)] at h1
       rcases off with _|_|_|_|_<;>simp at h1
     · exact (hfar _ hq).trans (HBw.out.block b hl3)
    clear hA hB hC hD hfar hbel hsz hw9
    simp [bodyPost,results,Tryz.results79,go_sem,e0,e1,e2,e3]
    exact ⟨_,_,_,rfl,UR⟩
end Nm
namespace Nm
open Go.RowKit Go.Maps Tr
theorem recN_idle (p q r:Addr)(w:World) :
 CallsD Tryz.prog 78 #[.pointer (some p),.pointer (some q),.pointer (some r)] .returning w fun e u' w'=>e=.returned (.tuple #[])∧u'=.returning∧w'=w:=by
 refine callsD_of_wpS Tryz.func78 rfl fun c₀ cs hu=>?_
 apply wpS_seq
 apply wpS_region
 simp [wpOpsS,go_sem,recoverD,hu,Tryz.ntmps78,Exit.thenS]
 refine wpS_of_wp ?_
 simp only [Array.replicate_succ,Array.replicate_zero,List.push_toArray,List.append_toArray,List.nil_append,List.cons_append,List.setIfInBounds_toArray,List.set_cons_zero,List.set_cons_succ]
 go_wp2_with fail
 cases c₀
 simp_all [bodyPostS,results,Tryz.results78]
theorem isN_wrong (v:Value)(w:World):(Instr.typeAssert (.iface 132 v) 20 132 true).run Tryz.prog w=.ok (.tuple #[v,.bool true]) w:=by
 simp [Instr.typeAssert,Sem.run_bind,run_underlying Tryz.underlying132,Result.andThen]
def PBk (w:World)(b:Nat)(v0 v1 v2 v3:Value):Prop:=w.heap[b]?=some (.cells #[v0,v1,v2,v3] 65 (0,0))
theorem PBk.c0 {w:World}{b:Nat}{v0 v1 v2 v3:Value}(h:PBk w b v0 v1 v2 v3):w.cell? ⟨b,0,none⟩=some v0:=by rw [cell_of_row _ _ _ _ _ _ h];rfl
theorem PBk.c1 {w:World}{b:Nat}{v0 v1 v2 v3:Value}(h:PBk w b v0 v1 v2 v3):w.cell? ⟨b,1,none⟩=some v1:=by rw [cell_of_row _ _ _ _ _ _ h];rfl
theorem PBk.c2 {w:World}{b:Nat}{v0 v1 v2 v3:Value}(h:PBk w b v0 v1 v2 v3):w.cell? ⟨b,2,none⟩=some v2:=by rw [cell_of_row _ _ _ _ _ _ h];rfl
theorem PBk.c3 {w:World}{b:Nat}{v0 v1 v2 v3:Value}(h:PBk w b v0 v1 v2 v3):w.cell? ⟨b,3,none⟩=some v3:=by rw [cell_of_row _ _ _ _ _ _ h];rfl
theorem PBk.fz {w:World}{b:Nat}{v0 v1 v2 v3:Value}(h:PBk w b v0 v1 v2 v3)(k:Nat):w.frozen? ⟨b,k,none⟩=false:=frozen_of_row _ _ _ _ _ h
theorem PBk.lt {w:World}{b:Nat}{v0 v1 v2 v3:Value}(h:PBk w b v0 v1 v2 v3):b<w.heap.size:=(Array.getElem?_eq_some_iff.1 h).1
theorem PBk.on {w w':World}{b:Nat}{v0 v1 v2 v3:Value}(h:PBk w b v0 v1 v2 v3)(hb:w'.heap[b]?=w.heap[b]?):PBk w' b v0 v1 v2 v3:=hb.trans h
abbrev set4 (w:World)(b:Nat)(v0 v1 v2 v3:Value):World:=(((w.setCell ⟨b,0,none⟩ v0).setCell ⟨b,1,none⟩ v1).setCell ⟨b,2,none⟩ v2).setCell ⟨b,3,none⟩ v3
theorem PBk.set {w:World}{b:Nat}{u0 u1 u2 u3:Value}(h:PBk w b u0 u1 u2 u3)(v0 v1 v2 v3:Value):PBk (set4 w b v0 v1 v2 v3) b v0 v1 v2 v3:=by
 have hA:=heap_set _ _ 0 v0 _ _ h
 have hB:=heap_set _ _ 1 v1 _ _ hA
 have hC:=heap_set _ _ 2 v2 _ _ hB
 have hD:=heap_set _ _ 3 v3 _ _ hC
 exact hD
theorem set4_far (w:World)(b:Nat)(v0 v1 v2 v3:Value){k:Nat}(hk:k≠b):(set4 w b v0 v1 v2 v3).heap[k]?=w.heap[k]?:=by
 rw [Below.heap_setCell _ _ _ _ hk,Below.heap_setCell _ _ _ _ hk,Below.heap_setCell _ _ _ _ hk,Below.heap_setCell _ _ _ _ hk]
theorem set4_below {B:Nat}{w W:World}{b:Nat}(h:Below B w W)(v0 v1 v2 v3:Value)(hb:B≤b):Below B w (set4 W b v0 v1 v2 v3):=(((h.setCell (p:=⟨b,0,none⟩) hb _).setCell (p:=⟨b,1,none⟩) hb _).setCell (p:=⟨b,2,none⟩) hb _).setCell (p:=⟨b,3,none⟩) hb _
theorem recN_wrong (B:Nat)(bs bp be:Nat)(sp:Option Addr)(len c k:Nat)(xs:List Int)(at' code:Int)(v0 v1 v2 v3 ve:Value)(w:World)(hs:w.cell? ⟨bs,0,none⟩=some (.slice sp len c))(hsrc:Src w sp len c xs)(hlen:len≤65536)(hk:min (max at' 0) (len:Int)=(k:Int))(hc:code≠0)
 (hp:PBk w bp v0 v1 v2 v3) (he:Boxed w be 25 ve) (hpe:bp≠be) (hB1:B≤bp) (hB2:B≤be) :
 CallsD Tryz.prog 78 #[.pointer (some ⟨bs,0,none⟩),.pointer (some ⟨bp,0,none⟩),.pointer (some ⟨be,0,none⟩)] (.panicking [{ v:=.iface 132 (.agg #[.int .i64 at',.int .i64 code]),recovered:=false }]) w fun e u' w' =>
  e=.returned (.tuple #[])∧u'=.panicking [{ v:=.iface 132 (.agg #[.int .i64 at',.int .i64 code]),recovered:=true }]∧∃C l cc,PBk w' bp (.slice none 0 0) (.slice none 0 0) (.slice none 0 0) (.slice none 0 0)∧Boxed w' be 25 (.iface 109 (.pointer (some ⟨C,0,none⟩)))∧ErrAt w' C (k:Int) l cc code∧Below B w w':=by
 have hta:=isN_wrong
 have hs2:(w.alloc (.cells #[.int .i64 at',.int .i64 code] 132)).cell? ⟨bs,0,none⟩=some (.slice sp len c):=(World.cell?_alloc_lt _ _ ⟨bs,0,none⟩ (cell_lt hs)).trans hs
 have htl:=hp.lt
 have hel:=he.lt
 have hBw:B≤w.heap.size:=by omega
 have NW:=lh (new_src sp len c k xs at' code (w.alloc (.cells #[.int .i64 at',.int .i64 code] 132)) hc (by omega) hk (hsrc.below ((Below.refl _ _).alloc (Nat.le_refl _) _)))
 have HP:=lh hp
 have HE:=lh he
 clear hp he hsrc
 refine callsD_of_wpS Tryz.func78 rfl fun c₀ cs hu=>?_
 apply wpS_seq
 apply wpS_region
 simp [wpOpsS,go_sem,recoverD,hu,Tryz.ntmps78,Exit.thenS]
 refine wpS_of_wp ?_
 simp only [Array.replicate_succ,Array.replicate_zero,List.push_toArray,List.append_toArray,List.nil_append,List.cons_append,List.setIfInBounds_toArray,List.set_cons_zero,List.set_cons_succ]
 go_wp2_with fail
 (with_reducible refine NW.out.mono ?_)
 rintro e w' ⟨rfl,hN⟩
 have hb:=hN.below
 have hal:Below w.heap.size w (w.alloc (.cells #[.int .i64 at',.int .i64 code] 132)):=(Below.refl _ _).alloc (Nat.le_refl _) _
 have hsz:(w.alloc (.cells #[.int .i64 at',.int .i64 code] 132)).heap.size=w.heap.size+1:=by simp
 rw [hsz] at hb
 have hbb:Below w.heap.size w w':=hal.trans (hb.mono (by omega))
 have p1:PBk w' bp v0 v1 v2 v3:=HP.out.on (hbb.block bp htl)
 have be1:Boxed w' be 25 ve:=(hbb.block be hel).trans HE.out
 have d0:=p1.c0
 have d1:=p1.c1
 have d2:=p1.c2
 have d3:=p1.c3
 have z0:=p1.fz 0
 have z1:=p1.fz 1
 have z2:=p1.fz 2
 have z3:=p1.fz 3
 have d4:=be1.cell
 have z4:=be1.frozen
 have hne1:¬ bp=be:=hpe
 have hne2:¬ be=bp:=fun e=>hpe e.symm
 have hEA:=hN.at_
 rw [hsz] at hEA
 have hlt:=hEA.lt
 have pf:=p1.set (.slice none 0 0) (.slice none 0 0) (.slice none 0 0) (.slice none 0 0)
 have ef:Boxed (set4 w' bp (.slice none 0 0) (.slice none 0 0) (.slice none 0 0) (.slice none 0 0)) be 25 ve:=(set4_far _ _ _ _ _ _ hne2).trans be1
 have ef2:=ef.set (.iface 109 (.pointer (some ⟨w.heap.size+1+1,0,none⟩)))
 have hfar:∀j,j≠bp→j≠be→((set4 w' bp (.slice none 0 0) (.slice none 0 0) (.slice none 0 0) (.slice none 0 0)).setCell ⟨be,0,none⟩ (.iface 109 (.pointer (some ⟨w.heap.size+1+1,0,none⟩)))).heap[j]?=w'.heap[j]?:=fun j h1 h2=>by
  rw [Below.heap_setCell _ _ _ _ h2]
  exact set4_far _ _ _ _ _ _ h1
 have hEB:ErrAt ((set4 w' bp (.slice none 0 0) (.slice none 0 0) (.slice none 0 0) (.slice none 0 0)).setCell ⟨be,0,none⟩ (.iface 109 (.pointer (some ⟨w.heap.size+1+1,0,none⟩)))) (w.heap.size+1+1) (k:Int) (lineF xs k) ((k:Int)-lastF xs k) code:=by
  have hq:∀i,((set4 w' bp (.slice none 0 0) (.slice none 0 0) (.slice none 0 0) (.slice none 0 0)).setCell ⟨be,0,none⟩ (.iface 109 (.pointer (some ⟨w.heap.size+1+1,0,none⟩)))).cell? ⟨w.heap.size+1+1,i,none⟩=w'.cell? ⟨w.heap.size+1+1,i,none⟩:=fun i=>World.cell?_of_block (w:=w') (hfar (w.heap.size+1+1) (by omega) (by omega))
  exact ⟨by simpa [World.setCell] using hlt,by rw [hq];exact hEA.c0,by rw [hq];exact hEA.c1,by rw [hq];exact hEA.c2,by rw [hq];exact hEA.c3⟩
 have pf2:PBk ((set4 w' bp (.slice none 0 0) (.slice none 0 0) (.slice none 0 0) (.slice none 0 0)).setCell ⟨be,0,none⟩ (.iface 109 (.pointer (some ⟨w.heap.size+1+1,0,none⟩)))) bp (.slice none 0 0) (.slice none 0 0) (.slice none 0 0) (.slice none 0 0):=pf.on (Below.heap_setCell _ _ _ _ hne1)
 have hfb:Below B w ((set4 w' bp (.slice none 0 0) (.slice none 0 0) (.slice none 0 0) (.slice none 0 0)).setCell ⟨be,0,none⟩ (.iface 109 (.pointer (some ⟨w.heap.size+1+1,0,none⟩)))):=(set4_below (hbb.mono hBw) _ _ _ _ hB1).setCell (p:=⟨be,0,none⟩) hB2 _
 have HFB:=lh hfb
 have PF2:=lh pf2
 have EF2:=lh ef2
 have HEB:=lh hEB
 clear hN hb hal hbb p1 be1 hEA pf ef ef2 hfar hEB pf2 hfb NW
 go_wp2_with fail
 exact ⟨rfl,_,rfl,.tuple #[],by simp [results,Tryz.f78,go_sem],rfl,rfl,PF2.out,_,EF2.out,⟨_,_,HEB.out⟩,HFB.out⟩
end Nm
section
open Go.RowKit Go.MapKept
instance:LawfulBEq ByteArray where
 eq_of_beq:=fun {a b} h=>(bytes_beq a b).1 h
 rfl:=fun {a}=>(bytes_beq a a).2 rfl
def fnOf:Nat→Nat
 | 0 => 116
 | 1 => 117
 | 2 => 118
 | 3 => 119
 | 4 => 120
 | 5 => 121
 | 6 => 122
 | 7 => 123
 | 8 => 124
 | 9 => 125
 | 10 => 126
 | 11 => 127
 | 12 => 128
 | _=>0
def entS (s:ByteArray)(j:Nat):MapEntry:={ key:=.string s,val:=.func (.func (fnOf j)) #[] #[],born:=j }
def ES13:Array MapEntry:=#[entS ⟨#[114,101,97,100]⟩ 0,entS ⟨#[115,101,116]⟩ 1,entS ⟨#[112,117,116]⟩ 2,entS ⟨#[100,101,108,101,116,101]⟩ 3,entS ⟨#[115,99,97,110]⟩ 4,entS ⟨#[108,111,99,107]⟩ 5,entS ⟨#[114,101,108,101,97,115,101]⟩ 6,entS ⟨#[105,102]⟩ 7,entS ⟨#[102,111,114]⟩ 8,entS ⟨#[108,101,116]⟩ 9,entS ⟨#[101,109,105,116]⟩ 10,entS ⟨#[114,111,108,108,98,97,99,107]⟩ 11,entS ⟨#[99,104,111,112]⟩ 12]
theorem es13_keys:∀x∈ES13.toList,IsKey .string x.key:=by
 intro x hx
 simp only [ES13,List.mem_cons,List.not_mem_nil,or_false] at hx
 rcases hx with rfl|rfl|rfl|rfl|rfl|rfl|rfl|rfl|rfl|rfl|rfl|rfl|rfl<;>trivial
theorem es13_find (s:ByteArray):(Instr.findNow .string (.string s) ES13.toList 0=some none∧¬ words13.idxOf s<13) ∨
 (words13.idxOf s<13∧∃i,Instr.findNow .string (.string s) ES13.toList 0=some (some (i,.func (.func (fnOf (words13.idxOf s))) #[] #[]))):=by
 rcases findNow_spec (d:=.string) (k:=.string s) (by simp [IsKey]) ES13.toList 0 es13_keys with ⟨h1,h2⟩|⟨j,e,h1,h2,h3⟩
 · refine Or.inl ⟨h1,fun hlt=>?_⟩
   have hmem:s∈words13:=List.idxOf_lt_length_iff.1 hlt
   simp only [words13,List.mem_cons,List.not_mem_nil,or_false] at hmem
   rcases hmem with rfl|rfl|rfl|rfl|rfl|rfl|rfl|rfl|rfl|rfl|rfl|rfl|rfl
   · exact h2 (entS ⟨#[114,101,97,100]⟩ 0) (by simp [ES13]) rfl
   · exact h2 (entS ⟨#[115,101,116]⟩ 1) (by simp [ES13]) rfl
   · exact h2 (entS ⟨#[112,117,116]⟩ 2) (by simp [ES13]) rfl
   · exact h2 (entS ⟨#[100,101,108,101,116,101]⟩ 3) (by simp [ES13]) rfl
   · exact h2 (entS ⟨#[115,99,97,110]⟩ 4) (by simp [ES13]) rfl
   · exact h2 (entS ⟨#[108,111,99,107]⟩ 5) (by simp [ES13]) rfl
   · exact h2 (entS ⟨#[114,101,108,101,97,115,101]⟩ 6) (by simp [ES13]) rfl
   · exact h2 (entS ⟨#[105,102]⟩ 7) (by simp [ES13]) rfl
   · exact h2 (entS ⟨#[102,111,114]⟩ 8) (by simp [ES13]) rfl
   · exact h2 (entS ⟨#[108,101,116]⟩ 9) (by simp [ES13]) rfl
   · exact h2 (entS ⟨#[101,109,105,116]⟩ 10) (by simp [ES13]) rfl
   · exact h2 (entS ⟨#[114,111,108,108,98,97,99,107]⟩ 11) (by simp [ES13]) rfl
   · exact h2 (entS ⟨#[99,104,111,112]⟩ 12) (by simp [ES13]) rfl
 · have hj:j<13:=by
    have:=(List.getElem?_eq_some_iff.1 h2).1
    simpa [ES13] using this
   have key:∀j,j<13→∀e,ES13.toList[j]?=some e→e.key=.string s→words13.idxOf s=j∧e.val=.func (.func (fnOf j)) #[] #[]:=by
    intro j hj e h2 h3
    obtain rfl|rfl|rfl|rfl|rfl|rfl|rfl|rfl|rfl|rfl|rfl|rfl|rfl:j=0∨j=1∨j=2∨j=3∨j=4∨j=5∨j=6∨j=7∨j=8∨j=9∨j=10∨j=11∨j=12:=by omega
    all_goals
     simp only [ES13,List.getElem?_cons_succ,List.getElem?_cons_zero,Option.some.injEq] at h2
     subst h2
     obtain rfl:=Value.string.inj h3
     exact ⟨by decide,rfl⟩
   obtain ⟨h4,h5⟩:=key j hj e h2 h3
   refine Or.inr ⟨by omega,0+j,?_⟩
   rw [h1,h5,h4]
theorem look_no (W:World)(rb n:Nat)(s:ByteArray)(hb:W.heap[rb]?=some (.map ES13 n))(hs:¬ words13.idxOf s<13):(Instr.lookup 122 (.map (some rb)) (.string s) true).run Tryz.prog W=.ok (.tuple #[.nilFunc,.bool false]) W:=by
 have hf:Instr.findNow .string (.string s) ES13.toList 0=some none:=by
  rcases es13_find s with ⟨h,_⟩|⟨h,_⟩
  · exact h
  · exact absurd h hs
 have hk:∀b,(Instr.checkKey b 10000 9 (.string s)).run Tryz.prog W=.ok () W:=fun b=>run_checkKey Tryz.underlying9 (by simp [IsKey]) b 9999
 have hz:(zeroValue 192).run Tryz.prog W=.ok .nilFunc W:=by kernel_rfl
 simp only [Instr.lookup,Sem.run_bind,run_underlying Tryz.underlying122,Result.andThen,Go.MapKept.run_getObj_map hb,hk,run_findKey (P:=Tryz.prog) Tryz.underlying9 hf,Sem.run_pure,hz]
 simp
theorem look_yes (W:World)(rb n:Nat)(s:ByteArray)(hb:W.heap[rb]?=some (.map ES13 n))(hs:words13.idxOf s<13):(Instr.lookup 122 (.map (some rb)) (.string s) true).run Tryz.prog W=.ok (.tuple #[.func (.func (fnOf (words13.idxOf s))) #[] #[],.bool true]) W:=by
 obtain ⟨i,hf⟩:∃i,Instr.findNow .string (.string s) ES13.toList 0=some (some (i,.func (.func (fnOf (words13.idxOf s))) #[] #[])):=by
  rcases es13_find s with ⟨_,h⟩|⟨_,h⟩
  · exact absurd hs h
  · exact h
 have hk:∀b,(Instr.checkKey b 10000 9 (.string s)).run Tryz.prog W=.ok () W:=fun b=>run_checkKey Tryz.underlying9 (by simp [IsKey]) b 9999
 simp only [Instr.lookup,Sem.run_bind,run_underlying Tryz.underlying122,Result.andThen,Go.MapKept.run_getObj_map hb,hk,run_findKey (P:=Tryz.prog) Tryz.underlying9 hf,Sem.run_pure]
 simp
theorem insert_str (w:World)(es:Array MapEntry)(n:Nat)(s:ByteArray)(v:Value)(h:Instr.findNow .string (.string s) es.toList 0=some none) :
 (Instr.mapUpdate 122 (.map (some w.heap.size)) (.string s) v).run Tryz.prog (w.alloc (.map es n))=.ok () (w.alloc (.map (es.push { key:=.string s,val:=v,born:=n }) (n+1))):=by
 have hb:(w.alloc (.map es n)).heap[w.heap.size]?=some (.map es n):=by
  show (w.heap.push (.map es n))[w.heap.size]?=_
  simp
 have hk:(Instr.checkKey false 10000 9 (.string s)).run Tryz.prog (w.alloc (.map es n))=.ok () (w.alloc (.map es n)):=run_checkKey Tryz.underlying9 (by simp [IsKey]) false 9999
 have hp:∀(a:Array Obj) (x y:Obj),(a.push x).setIfInBounds a.size y=a.push y:=fun a x y=>by
  apply Array.ext_getElem?
  intro i
  by_cases h:i=a.size
  · subst h;simp
  · have h':¬ a.size=i:=fun e=>h e.symm
    simp [Array.getElem?_push,h,h']
 have hw:∀o:Obj,({ w.alloc (.map es n) with heap:=(w.alloc (.map es n)).heap.setIfInBounds w.heap.size o }:World)=w.alloc o:=fun o=>by
  show ({ w with heap:=(w.heap.push (.map es n)).setIfInBounds w.heap.size o }:World)=_
  rw [hp]
  rfl
 simp only [Instr.mapUpdate,Sem.run_bind,run_underlying Tryz.underlying122,Result.andThen,Go.MapKept.run_getObj_map hb,hk,run_findKey (P:=Tryz.prog) Tryz.underlying9 h,run_setObj_map _ hb,hw]
def EE (k:Nat):Array MapEntry:=(ES13.toList.take k).toArray
theorem statements_at (w:World):Calls Tryz.prog 72 #[] w fun e w'=>e=.returned (.map (some w.heap.size))∧w'=w.alloc (.map ES13 13):=by
 have hmm:=@run_makeMap Tryz.prog
 have i0:(Instr.mapUpdate 122 (.map (some w.heap.size)) (.string ⟨#[114,101,97,100]⟩) (.func (.func 116) #[] #[])).run Tryz.prog (w.alloc (.map #[] 0))=.ok () (w.alloc (.map (EE 1) 1)):=insert_str w #[] 0 _ _ rfl
 have i1:(Instr.mapUpdate 122 (.map (some w.heap.size)) (.string ⟨#[115,101,116]⟩) (.func (.func 117) #[] #[])).run Tryz.prog (w.alloc (.map (EE 1) 1))=.ok () (w.alloc (.map (EE 2) 2)):=insert_str w (EE 1) 1 _ _ rfl
 have i2:(Instr.mapUpdate 122 (.map (some w.heap.size)) (.string ⟨#[112,117,116]⟩) (.func (.func 118) #[] #[])).run Tryz.prog (w.alloc (.map (EE 2) 2))=.ok () (w.alloc (.map (EE 3) 3)):=insert_str w (EE 2) 2 _ _ rfl
 have i3:(Instr.mapUpdate 122 (.map (some w.heap.size)) (.string ⟨#[100,101,108,101,116,101]⟩) (.func (.func 119) #[] #[])).run Tryz.prog (w.alloc (.map (EE 3) 3))=.ok () (w.alloc (.map (EE 4) 4)):=insert_str w (EE 3) 3 _ _ rfl
 have i4:(Instr.mapUpdate 122 (.map (some w.heap.size)) (.string ⟨#[115,99,97,110]⟩) (.func (.func 120) #[] #[])).run Tryz.prog (w.alloc (.map (EE 4) 4))=.ok () (w.alloc (.map (EE 5) 5)):=insert_str w (EE 4) 4 _ _ rfl
 have i5:(Instr.mapUpdate 122 (.map (some w.heap.size)) (.string ⟨#[108,111,99,107]⟩) (.func (.func 121) #[] #[])).run Tryz.prog (w.alloc (.map (EE 5) 5))=.ok () (w.alloc (.map (EE 6) 6)):=insert_str w (EE 5) 5 _ _ rfl
 have i6:(Instr.mapUpdate 122 (.map (some w.heap.size)) (.string ⟨#[114,101,108,101,97,115,101]⟩) (.func (.func 122) #[] #[])).run Tryz.prog (w.alloc (.map (EE 6) 6))=.ok () (w.alloc (.map (EE 7) 7)):=insert_str w (EE 6) 6 _ _ rfl
 have i7:(Instr.mapUpdate 122 (.map (some w.heap.size)) (.string ⟨#[105,102]⟩) (.func (.func 123) #[] #[])).run Tryz.prog (w.alloc (.map (EE 7) 7))=.ok () (w.alloc (.map (EE 8) 8)):=insert_str w (EE 7) 7 _ _ rfl
 have i8:(Instr.mapUpdate 122 (.map (some w.heap.size)) (.string ⟨#[102,111,114]⟩) (.func (.func 124) #[] #[])).run Tryz.prog (w.alloc (.map (EE 8) 8))=.ok () (w.alloc (.map (EE 9) 9)):=insert_str w (EE 8) 8 _ _ rfl
 have i9:(Instr.mapUpdate 122 (.map (some w.heap.size)) (.string ⟨#[108,101,116]⟩) (.func (.func 125) #[] #[])).run Tryz.prog (w.alloc (.map (EE 9) 9))=.ok () (w.alloc (.map (EE 10) 10)):=insert_str w (EE 9) 9 _ _ rfl
 have i10:(Instr.mapUpdate 122 (.map (some w.heap.size)) (.string ⟨#[101,109,105,116]⟩) (.func (.func 126) #[] #[])).run Tryz.prog (w.alloc (.map (EE 10) 10))=.ok () (w.alloc (.map (EE 11) 11)):=insert_str w (EE 10) 10 _ _ rfl
 have i11:(Instr.mapUpdate 122 (.map (some w.heap.size)) (.string ⟨#[114,111,108,108,98,97,99,107]⟩) (.func (.func 127) #[] #[])).run Tryz.prog (w.alloc (.map (EE 11) 11))=.ok () (w.alloc (.map (EE 12) 12)):=insert_str w (EE 11) 11 _ _ rfl
 have i12:(Instr.mapUpdate 122 (.map (some w.heap.size)) (.string ⟨#[99,104,111,112]⟩) (.func (.func 128) #[] #[])).run Tryz.prog (w.alloc (.map (EE 12) 12))=.ok () (w.alloc (.map (EE 13) 13)):=insert_str w (EE 12) 12 _ _ rfl
 go_enter Tryz.func72,Tryz.ntmps72
 go_wp2_with fail
 go_ret
 exact ⟨rfl,rfl⟩
end
end Go.Proofs.YthdioipfdbbmmaaGreatDoor
