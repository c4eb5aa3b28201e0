/- Contracts. -/
import Derived.Test.YthdioipfdbbmmaaGreatDoorKab
import Derived.Test.YthdioipfdbbmmaaGreatDoorKah
import Derived.Test.YthdioipfdbbmmaaGreatDoorKai
import Derived.Test.YthdioipfdbbmmaaGreatDoorKal
import Derived.Lib.SlBytesConst
import Derived.Deep.RegionHeld3
import Derived.Deep.QuietTactic
import Derived.BigQuiet
import Derived.Lib.Bytes
import Derived.Laws.EntriesVeiled
import Derived.Deep.AppendLies
import Derived.OwnWalk
set_option linter.all false
set_option maxRecDepth 1000000
set_option maxHeartbeats 16000000
namespace Go.Proofs.YthdioipfdbbmmaaGreatDoor
section
open Go.RowKit
structure TR (W:World)(g cap:Nat)(ts:List Tok):Prop where
 lt:g<W.heap.size
 le:ts.length≤cap
 cell:∀j u,(cellsT ts)[j]?=some u→W.cell? ⟨g,j,none⟩=some u
theorem TR.on {W W':World}{g cap:Nat}{ts:List Tok}(h:TR W g cap ts)(hb:Below W.heap.size W W'):TR W' g cap ts where
 lt:=Nat.lt_of_lt_of_le h.lt hb.size
 le:=h.le
 cell:=fun j u hj=>by rw [hb.cell (p:=⟨g,j,none⟩) h.lt];exact h.cell j u hj
theorem TR.of {W:World}{base g cap:Nat}{ts:List Tok}(ho:W.ownsRow base 29 5 (.slice (some ⟨g,0,none⟩) ts.length cap) ts.length (cellsT ts)):TR W g cap ts where
 lt:=(ho.lt g rfl).2
 le:=by
  rcases ho.2 with ⟨h,_⟩|⟨g',cap',cur,hv,_,_,hc,_⟩
  · simp at h
  · simp at hv
    omega
 cell:=fun j u hj=>by
  rw [ho.cellAt j (by rw [← ho.1];exact (List.getElem?_eq_some_iff.1 hj).1)]
  exact hj
theorem lex_ok {w:World}{p:Option Addr}{len c:Nat}{xs:List Int}{ts:List Tok}(h:Src w p len c xs)(hb:len≤65536)(he:lexS xs=.ok ts) :
 Calls Tryz.prog 14 #[.slice p len c] w fun e w'=>∃g cap,e=.returned (.tuple #[.slice (some ⟨g,0,none⟩) ts.length cap,.nilIface])∧TR w' g cap ts∧w.heap.size≤g∧Below w.heap.size w w' :=
 (lex_at w p len c xs h hb).mono fun e w' ⟨h1, h2⟩ => by
  rw [he] at h1
  obtain ⟨g,cap,e1,ho⟩:=h1
  exact ⟨g,cap,e1,TR.of ho,(ho.lt g rfl).1,h2⟩
theorem lex_no {w:World}{p:Option Addr}{len c:Nat}{xs:List Int}{i:Nat}{er:Int}(h:Src w p len c xs)(hb:len≤65536)(he:lexS xs=.error (i,er)) :
 Calls Tryz.prog 14 #[.slice p len c] w fun e w'=>∃B l cc,e=.returned (.tuple #[.slice none 0 0,.iface 109 (.pointer (some ⟨B,0,none⟩))])∧ErrAt w' B i l cc er∧Below w.heap.size w w' :=
 (lex_at w p len c xs h hb).mono fun e w' ⟨h1, h2⟩ => by
  rw [he] at h1
  obtain ⟨B,l,cc,e1,_,hE⟩:=h1
  exact ⟨B,l,cc,e1,hE,h2⟩
theorem src_const (W:World)(C:Array Value)(zs:List Int)(n:Nat)(hC:C=(zs.map (Value.int .u8)).toArray)(hn:zs.length=n)(hz:∀z∈zs,0≤z∧z<256)(a b:Nat) :
 Src (W.alloc (.cells C 5 (a,b))) (some ⟨W.heap.size,0,none⟩) n n zs:=by
 refine ⟨hn,fun i=>?_,Or.inr ⟨W.heap.size,0,rfl,Nat.le_refl _,by simp,fun i hi=>?_⟩⟩
 · by_cases hi:i<zs.length
   · have:=hz (zs[i]) (List.getElem_mem hi)
     simpa [List.getD,hi] using this
   · simp [List.getD,List.getElem?_eq_none (Nat.le_of_not_lt hi)]
 · rw [Nat.zero_add,World.cell?_alloc_mark]
   subst hC
   have hi':i<zs.length:=by omega
   simp [List.getD,hi']
end
namespace Tr
open Go.RowKit
def ndV (nd:Nd)(kp:Option Addr)(kl kc:Nat):Value:=.agg #[.int .u8 nd.kind,.int .i64 nd.at',.string nd.text,.int .i64 nd.n,.slice kp kl kc]
end Tr
namespace Tr
open Go.RowKit
def Aside (W V:World):Prop:=∀p v,W.cell? p=some v→V.cell? p=some v
theorem Aside.of {W V:World}(h:Below W.heap.size W V):Aside W V:=fun p v hp=>by rw [h.cell (World.block_lt_of_cell? W p hp)];exact hp
theorem Aside.refl (W:World):Aside W W:=fun _ _ h=>h
theorem Aside.trans {a b c:World}(h:Aside a b)(k:Aside b c):Aside a c:=fun p v hp=>k p v (h p v hp)
structure BV (W:World)(p:Option Addr)(len c:Nat)(xs:List Int):Prop where
 len_eq:xs.length=len
 cap:len≤c
 cell:0<len→∃b off,p=some ⟨b,off,none⟩∧∀i,i<len→W.cell? ⟨b,off+i,none⟩=some (.int .u8 (xs.getD i 0))
theorem BV.on {W V:World}{p:Option Addr}{len c:Nat}{xs:List Int}(h:BV W p len c xs)(hb:Aside W V):BV V p len c xs where
 len_eq:=h.len_eq
 cap:=h.cap
 cell:=fun hl=>by
  obtain ⟨b,off,e,hc⟩:=h.cell hl
  exact ⟨b,off,e,fun i hi=>hb _ _ (hc i hi)⟩
def FitV (W:World)(g:Fn)(cs:Array Value):Fit→Prop
 | .of ks=>∃B q l c,g=.func 234∧cs=#[.pointer (some ⟨B,0,none⟩)]∧W.cell? ⟨B,0,none⟩=some (.slice q l c)∧BV W q l c ks∧l≤70000
 | .stmt=>g=.func 190∧cs=#[]
 | .expr=>g=.func 115∧cs=#[]
theorem FitV.on {W V:World}{g:Fn}{cs:Array Value}{f:Fit}(h:FitV W g cs f)(hb:Aside W V):FitV V g cs f:=by
 cases f with
 | «of» ks =>
  obtain ⟨B,q,l,c,e,e2,h3,h4,h5⟩:=h
  exact ⟨B,q,l,c,e,e2,hb _ _ h3,h4.on hb,h5⟩
 | stmt=>exact h
 | expr=>exact h
theorem index_at (w:World)(p:Option Addr)(len c:Nat)(xs:List Int)(k:Int)(h:BV w p len c xs)(hb:len≤70000) :
 Calls Tryz.prog 268 #[.slice p len c,.int .u8 k] w fun e w'=>(∃z:Int,e=.returned (.int .i64 z)∧decide (0≤z)=xs.any fun x=>k==x)∧w'=w:=by
 have hlen:=lh h.len_eq
 have H:=lh h
 clear h
 go_enter Tryz.func268,Tryz.ntmps268
 go_wp2_with fail
 go_loop [8] (fun iv=>∃i:Nat,i≤len∧iv=.int .i64 i∧Hid ((xs.take i).any (fun x=>k==x)=false)) (fun iv=>len-(intOf iv).toNat)
 case atStart=>exact ⟨0,Nat.zero_le _,rfl,lh rfl⟩
 case round =>
  obtain ⟨i,hi,rfl,HA⟩:=hrel
  by_cases hil:i<len
  · obtain ⟨b,off,rfl,hc⟩:=H.out.cell (by omega)
    have hci:=hc i hil
    have HT:=lh (show (xs.take (i+1)).any (fun x=>k==x)=((xs.take i).any (fun x=>k==x)||(k==xs.getD i 0)) by
     rw [List.take_succ_eq_append_getElem (by have:=hlen.out;omega),List.any_append]
     simp [List.getD,show i<xs.length by have:=hlen.out;omega])
    have HM:=lh (show (k==xs.getD i 0)=true→xs.any (fun x=>k==x)=true from fun h=>by
     rw [List.any_eq_true]
     exact ⟨xs.getD i 0,by simp [List.getD,show i<xs.length by have:=hlen.out;omega],h⟩)
    generalize xs.getD i 0=x at *
    clear hc
    by_cases hx:k=x
    · subst hx
      go_wp2
      go_ret
      exact ⟨⟨(i:Int),rfl,by rw [HM.out (by simp)];simp⟩,rfl⟩
    · have hx':(k==x)=false:=by simpa using hx
      go_wp2
      go_round
      case rel=>exact ⟨i+1,by omega,by go_num,lh (by rw [HT.out,HA.out,hx'];rfl)⟩
      case measure=>simp [intOf];omega
  · have e:i=xs.length:=by have:=hlen.out;omega
    have HE:=lh e
    clear e
    go_wp2
    go_ret
    refine ⟨⟨-1,rfl,?_⟩,rfl⟩
    have:=HA.out
    rw [HE.out,List.take_length] at this
    rw [this]
    rfl
theorem contains_at (w:World)(p:Option Addr)(len c:Nat)(xs:List Int)(k:Int)(h:BV w p len c xs)(hb:len≤70000) :
 Calls Tryz.prog 235 #[.slice p len c,.int .u8 k] w fun e w'=>e=.returned (.bool (xs.any fun x=>k==x))∧w'=w:=by
 have HI:=lh (index_at w p len c xs k h hb)
 clear h
 go_enter Tryz.func235,Tryz.ntmps235
 go_wp2_with fail
 (with_reducible refine HI.out.mono ?_)
 rintro e w' ⟨⟨z,rfl,hz⟩,rfl⟩
 clear HI
 go_wp2
 go_ret
 exact ⟨retB (by simp),rfl⟩
theorem isf_at (w:World)(B l c:Nat)(q:Option Addr)(xs:List Int)(k:Int)(hc:w.cell? ⟨B,0,none⟩=some (.slice q l c))(h:BV w q l c xs)(hb:l≤70000) :
 Calls Tryz.prog 234 #[.int .u8 k,.pointer (some ⟨B,0,none⟩)] w fun e w'=>e=.returned (.bool (xs.any fun x=>k==x))∧w'=w:=by
 have HI:=lh (contains_at w q l c xs k h hb)
 clear h
 go_enter Tryz.func234,Tryz.ntmps234
 go_wp2_with fail
 (with_reducible refine HI.out.mono ?_)
 rintro e w' ⟨rfl,rfl⟩
 clear HI
 go_wp2
 go_ret
 exact ⟨rfl,rfl⟩
theorem isExpr_at (c:Int)(w:World):Calls Tryz.prog 115 #[.int .u8 c] w fun e w'=>e=.returned (.bool (isExprK c))∧w'=w:=by
 unfold isExprK
 by_cases h:21≤c
 · by_cases h2:c≤26
   · have e:(decide (21≤c)&&decide (c≤26))=true:=by simp [h,h2]
     rw [e]
     clear e
     go_enter Tryz.func115,Tryz.ntmps115
     go_wp2
     go_ret
     exact ⟨rfl,rfl⟩
   · have e:(decide (21≤c)&&decide (c≤26))=false:=by simp [h2]
     rw [e]
     clear e
     go_enter Tryz.func115,Tryz.ntmps115
     go_wp2
     go_ret
     exact ⟨rfl,rfl⟩
 · have e:(decide (21≤c)&&decide (c≤26))=false:=by simp [h]
   rw [e]
   clear e
   have hd:decide (21≤c)=false:=by simpa using h
   go_enter Tryz.func115,Tryz.ntmps115
   go_wp2
   go_ret
   exact ⟨rfl,rfl⟩
theorem isStmt_at (c:Int)(w:World):Calls Tryz.prog 190 #[.int .u8 c] w fun e w'=>e=.returned (.bool (isStmtK c))∧w'=w:=by
 unfold isStmtK
 by_cases h:7≤c
 · by_cases h2:c≤19
   · have e:(decide (7≤c)&&decide (c≤19))=true:=by simp [h,h2]
     rw [e]
     clear e
     go_enter Tryz.func190,Tryz.ntmps190
     go_wp2
     go_ret
     exact ⟨rfl,rfl⟩
   · have e:(decide (7≤c)&&decide (c≤19))=false:=by simp [h2]
     rw [e]
     clear e
     go_enter Tryz.func190,Tryz.ntmps190
     go_wp2
     go_ret
     exact ⟨rfl,rfl⟩
 · have e:(decide (7≤c)&&decide (c≤19))=false:=by simp [h]
   rw [e]
   clear e
   have hd:decide (7≤c)=false:=by simpa using h
   go_enter Tryz.func190,Tryz.ntmps190
   go_wp2
   go_ret
   exact ⟨rfl,rfl⟩
theorem isEmpty_size (s:ByteArray):s.toList.isEmpty=decide (s.size=0):=by
 have this:(Lib.bytesOf (bytesI s)).length=s.size:=by rw [Lib.bytesOf,List.length_map,bytesI_length]
 have e:s.toList=Lib.bytesOf (bytesI s):=by rw [← Lib.strOfNums_toList,bytesI_str]
 rw [e]
 by_cases h:s.size=0
 · rw [decide_eq_true h,List.isEmpty_iff_length_eq_zero];omega
 · rw [decide_eq_false h,List.isEmpty_eq_false_iff]
   intro e
   rw [e] at this
   exact h this.symm
theorem isEmpty_at (s:ByteArray)(w:World):Calls Tryz.prog 187 #[.string s] w fun e w'=>e=.returned (.bool (decide (s.size=0)))∧w'=w:=by
 go_enter Tryz.func187,Tryz.ntmps187
 go_wp2
 go_ret
 exact ⟨retB (isEmpty_size s),rfl⟩
theorem one_at (w:World)(g:Fn)(cs:Array Value):Calls Tryz.prog 184 #[.func g #[] cs] w fun e w'=>e=.returned (.agg #[.func g #[] cs,.int .i64 1,.int .i64 1])∧Below w.heap.size w w':=by
 go_enter Tryz.func184,Tryz.ntmps184
 go_wp2
 simp [bodyPost,results,Tryz.results184,go_sem]
 exact one_below w _
theorem maybe_at (w:World)(g:Fn)(cs:Array Value):Calls Tryz.prog 191 #[.func g #[] cs] w fun e w'=>e=.returned (.agg #[.func g #[] cs,.int .i64 0,.int .i64 1])∧Below w.heap.size w w':=by
 go_enter Tryz.func191,Tryz.ntmps191
 go_wp2
 simp [bodyPost,results,Tryz.results191,go_sem]
 exact one_below w _
theorem many_at (w:World)(g:Fn)(cs:Array Value):Calls Tryz.prog 188 #[.func g #[] cs] w fun e w'=>e=.returned (.agg #[.func g #[] cs,.int .i64 0,.int .i64 9223372036854775807])∧Below w.heap.size w w':=by
 go_enter Tryz.func188,Tryz.ntmps188
 go_wp2
 simp [bodyPost,results,Tryz.results188,go_sem]
 exact one_below w _
theorem is_at (w:World)(q:Option Addr)(l c:Nat)(ks:List Int)(h:BV w q l c ks)(hb:l≤70000):Calls Tryz.prog 185 #[.slice q l c] w fun e w'=>(∃g cs,e=.returned (.func g #[] cs)∧FitV w' g cs (.of ks))∧Below w.heap.size w w':=by
 have H:=lh h
 clear h
 go_enter Tryz.func185,Tryz.ntmps185
 go_wp2
 go_ret
 exact ⟨⟨_,_,rfl,⟨w.heap.size,q,l,c,rfl,rfl,by simp,H.out.on (Aside.of (one_below w _)),hb⟩⟩,one_below w _⟩
end Tr
namespace Tr
open Go.RowKit
theorem range_all_succ (f:Nat→Bool)(j:Nat):(List.range (j+1)).all f=((List.range j).all f&&f j):=by
 rw [List.range_succ,List.all_append];simp
theorem range_all_no (f:Nat→Bool)(n j:Nat)(hj:j<n)(h:f j=false):(List.range n).all f=false:=by
 rw [List.all_eq_false]
 exact ⟨j,List.mem_range.2 hj,by rw [h];simp⟩
end Tr
namespace Tr
open Go.RowKit
theorem refWords_2 (w:World)(at0 n:Int)(s:ByteArray)(kp:Option Addr)(kl kc:Nat)(hs:s.size≤70000) :
 Calls Tryz.prog 101 #[.agg #[.int .u8 2,.int .i64 at0,.string s,.int .i64 n,.slice kp kl kc]] w fun e w'=>e=.returned (.bool ((true==namesF (bytesI s))&&((true||decide (s.size=0))&&(decide (0≤n)&&decide (n≤0)))))∧Below w.heap.size w w':=by
 have HQ:=lh (refIsName_at (w.alloc (.cells #[.int .u8 2,.int .i64 at0,.string s,.int .i64 n,.slice kp kl kc] 99)) s hs)
 have HE:Hid (s.toList.isEmpty=decide (s.size=0)):=lh (isEmpty_size s)
 generalize namesF (bytesI s)=b at *
 rw [show ((true==b)&&((true||decide (s.size=0))&&(decide (0≤n)&&decide (n≤0))))=(b&&(decide (0≤n)&&decide (n≤0))) by cases b<;>simp]
 cases b with
 | false =>
  clear HE
  go_enter Tryz.func101,Tryz.ntmps101
  go_wp2_with fail
  (with_reducible refine HQ.out.mono ?_)
  rintro e w' ⟨rfl,rfl⟩
  clear HQ
  go_wp2
  go_ret
  exact ob
 | true =>
  clear HE
  by_cases h0:0≤n
  · have d0:decide (n≥0)=true:=by simpa using h0
    have d0':decide (0≤n)=true:=by simpa using h0
    by_cases h1:n≤0
    · have d1:decide (n≤0)=true:=by simpa using h1
      rw [d0',d1]
      clear h0 h1
      go_enter Tryz.func101,Tryz.ntmps101
      go_wp2_with fail
      (with_reducible refine HQ.out.mono ?_)
      rintro e w' ⟨rfl,rfl⟩
      clear HQ
      go_wp2
      go_ret
      exact ob
    · have d1:decide (n≤0)=false:=by simpa using h1
      rw [d0',d1]
      clear h0 h1
      go_enter Tryz.func101,Tryz.ntmps101
      go_wp2_with fail
      (with_reducible refine HQ.out.mono ?_)
      rintro e w' ⟨rfl,rfl⟩
      clear HQ
      go_wp2
      go_ret
      exact ob
  · have d0:decide (n≥0)=false:=by simpa using h0
    have d0':decide (0≤n)=false:=by simpa using h0
    rw [d0']
    clear h0
    go_enter Tryz.func101,Tryz.ntmps101
    go_wp2_with fail
    (with_reducible refine HQ.out.mono ?_)
    rintro e w' ⟨rfl,rfl⟩
    clear HQ
    go_wp2
    go_ret
    exact ob
theorem refWords_3 (w:World)(at0 n:Int)(s:ByteArray)(kp:Option Addr)(kl kc:Nat)(hs:s.size≤70000) :
 Calls Tryz.prog 101 #[.agg #[.int .u8 3,.int .i64 at0,.string s,.int .i64 n,.slice kp kl kc]] w fun e w'=>e=.returned (.bool ((true==namesF (bytesI s))&&((true||decide (s.size=0))&&(decide (0≤n)&&decide (n≤1)))))∧Below w.heap.size w w':=by
 have HQ:=lh (refIsName_at (w.alloc (.cells #[.int .u8 3,.int .i64 at0,.string s,.int .i64 n,.slice kp kl kc] 99)) s hs)
 have HE:Hid (s.toList.isEmpty=decide (s.size=0)):=lh (isEmpty_size s)
 generalize namesF (bytesI s)=b at *
 rw [show ((true==b)&&((true||decide (s.size=0))&&(decide (0≤n)&&decide (n≤1))))=(b&&(decide (0≤n)&&decide (n≤1))) by cases b<;>simp]
 cases b with
 | false =>
  clear HE
  go_enter Tryz.func101,Tryz.ntmps101
  go_wp2_with fail
  (with_reducible refine HQ.out.mono ?_)
  rintro e w' ⟨rfl,rfl⟩
  clear HQ
  go_wp2
  go_ret
  exact ob
 | true =>
  clear HE
  by_cases h0:0≤n
  · have d0:decide (n≥0)=true:=by simpa using h0
    have d0':decide (0≤n)=true:=by simpa using h0
    by_cases h1:n≤1
    · have d1:decide (n≤1)=true:=by simpa using h1
      rw [d0',d1]
      clear h0 h1
      go_enter Tryz.func101,Tryz.ntmps101
      go_wp2_with fail
      (with_reducible refine HQ.out.mono ?_)
      rintro e w' ⟨rfl,rfl⟩
      clear HQ
      go_wp2
      go_ret
      exact ob
    · have d1:decide (n≤1)=false:=by simpa using h1
      rw [d0',d1]
      clear h0 h1
      go_enter Tryz.func101,Tryz.ntmps101
      go_wp2_with fail
      (with_reducible refine HQ.out.mono ?_)
      rintro e w' ⟨rfl,rfl⟩
      clear HQ
      go_wp2
      go_ret
      exact ob
  · have d0:decide (n≥0)=false:=by simpa using h0
    have d0':decide (0≤n)=false:=by simpa using h0
    rw [d0']
    clear h0
    go_enter Tryz.func101,Tryz.ntmps101
    go_wp2_with fail
    (with_reducible refine HQ.out.mono ?_)
    rintro e w' ⟨rfl,rfl⟩
    clear HQ
    go_wp2
    go_ret
    exact ob
theorem refWords_5 (w:World)(at0 n:Int)(s:ByteArray)(kp:Option Addr)(kl kc:Nat)(hs:s.size≤70000) :
 Calls Tryz.prog 101 #[.agg #[.int .u8 5,.int .i64 at0,.string s,.int .i64 n,.slice kp kl kc]] w fun e w'=>e=.returned (.bool ((true==namesF (bytesI s))&&((true||decide (s.size=0))&&(decide (0≤n)&&decide (n≤0)))))∧Below w.heap.size w w':=by
 have HQ:=lh (refIsName_at (w.alloc (.cells #[.int .u8 5,.int .i64 at0,.string s,.int .i64 n,.slice kp kl kc] 99)) s hs)
 have HE:Hid (s.toList.isEmpty=decide (s.size=0)):=lh (isEmpty_size s)
 generalize namesF (bytesI s)=b at *
 rw [show ((true==b)&&((true||decide (s.size=0))&&(decide (0≤n)&&decide (n≤0))))=(b&&(decide (0≤n)&&decide (n≤0))) by cases b<;>simp]
 cases b with
 | false =>
  clear HE
  go_enter Tryz.func101,Tryz.ntmps101
  go_wp2_with fail
  (with_reducible refine HQ.out.mono ?_)
  rintro e w' ⟨rfl,rfl⟩
  clear HQ
  go_wp2
  go_ret
  exact ob
 | true =>
  clear HE
  by_cases h0:0≤n
  · have d0:decide (n≥0)=true:=by simpa using h0
    have d0':decide (0≤n)=true:=by simpa using h0
    by_cases h1:n≤0
    · have d1:decide (n≤0)=true:=by simpa using h1
      rw [d0',d1]
      clear h0 h1
      go_enter Tryz.func101,Tryz.ntmps101
      go_wp2_with fail
      (with_reducible refine HQ.out.mono ?_)
      rintro e w' ⟨rfl,rfl⟩
      clear HQ
      go_wp2
      go_ret
      exact ob
    · have d1:decide (n≤0)=false:=by simpa using h1
      rw [d0',d1]
      clear h0 h1
      go_enter Tryz.func101,Tryz.ntmps101
      go_wp2_with fail
      (with_reducible refine HQ.out.mono ?_)
      rintro e w' ⟨rfl,rfl⟩
      clear HQ
      go_wp2
      go_ret
      exact ob
  · have d0:decide (n≥0)=false:=by simpa using h0
    have d0':decide (0≤n)=false:=by simpa using h0
    rw [d0']
    clear h0
    go_enter Tryz.func101,Tryz.ntmps101
    go_wp2_with fail
    (with_reducible refine HQ.out.mono ?_)
    rintro e w' ⟨rfl,rfl⟩
    clear HQ
    go_wp2
    go_ret
    exact ob
theorem refWords_7 (w:World)(at0 n:Int)(s:ByteArray)(kp:Option Addr)(kl kc:Nat)(hs:s.size≤70000) :
 Calls Tryz.prog 101 #[.agg #[.int .u8 7,.int .i64 at0,.string s,.int .i64 n,.slice kp kl kc]] w fun e w'=>e=.returned (.bool ((true==namesF (bytesI s))&&((true||decide (s.size=0))&&(decide (0≤n)&&decide (n≤1)))))∧Below w.heap.size w w':=by
 have HQ:=lh (refIsName_at (w.alloc (.cells #[.int .u8 7,.int .i64 at0,.string s,.int .i64 n,.slice kp kl kc] 99)) s hs)
 have HE:Hid (s.toList.isEmpty=decide (s.size=0)):=lh (isEmpty_size s)
 generalize namesF (bytesI s)=b at *
 rw [show ((true==b)&&((true||decide (s.size=0))&&(decide (0≤n)&&decide (n≤1))))=(b&&(decide (0≤n)&&decide (n≤1))) by cases b<;>simp]
 cases b with
 | false =>
  clear HE
  go_enter Tryz.func101,Tryz.ntmps101
  go_wp2_with fail
  (with_reducible refine HQ.out.mono ?_)
  rintro e w' ⟨rfl,rfl⟩
  clear HQ
  go_wp2
  go_ret
  exact ob
 | true =>
  clear HE
  by_cases h0:0≤n
  · have d0:decide (n≥0)=true:=by simpa using h0
    have d0':decide (0≤n)=true:=by simpa using h0
    by_cases h1:n≤1
    · have d1:decide (n≤1)=true:=by simpa using h1
      rw [d0',d1]
      clear h0 h1
      go_enter Tryz.func101,Tryz.ntmps101
      go_wp2_with fail
      (with_reducible refine HQ.out.mono ?_)
      rintro e w' ⟨rfl,rfl⟩
      clear HQ
      go_wp2
      go_ret
      exact ob
    · have d1:decide (n≤1)=false:=by simpa using h1
      rw [d0',d1]
      clear h0 h1
      go_enter Tryz.func101,Tryz.ntmps101
      go_wp2_with fail
      (with_reducible refine HQ.out.mono ?_)
      rintro e w' ⟨rfl,rfl⟩
      clear HQ
      go_wp2
      go_ret
      exact ob
  · have d0:decide (n≥0)=false:=by simpa using h0
    have d0':decide (0≤n)=false:=by simpa using h0
    rw [d0']
    clear h0
    go_enter Tryz.func101,Tryz.ntmps101
    go_wp2_with fail
    (with_reducible refine HQ.out.mono ?_)
    rintro e w' ⟨rfl,rfl⟩
    clear HQ
    go_wp2
    go_ret
    exact ob
theorem refWords_11 (w:World)(at0 n:Int)(s:ByteArray)(kp:Option Addr)(kl kc:Nat)(hs:s.size≤70000) :
 Calls Tryz.prog 101 #[.agg #[.int .u8 11,.int .i64 at0,.string s,.int .i64 n,.slice kp kl kc]] w fun e w'=>e=.returned (.bool ((true==namesF (bytesI s))&&((true||decide (s.size=0))&&(decide (0≤n)&&decide (n≤0)))))∧Below w.heap.size w w':=by
 have HQ:=lh (refIsName_at (w.alloc (.cells #[.int .u8 11,.int .i64 at0,.string s,.int .i64 n,.slice kp kl kc] 99)) s hs)
 have HE:Hid (s.toList.isEmpty=decide (s.size=0)):=lh (isEmpty_size s)
 generalize namesF (bytesI s)=b at *
 rw [show ((true==b)&&((true||decide (s.size=0))&&(decide (0≤n)&&decide (n≤0))))=(b&&(decide (0≤n)&&decide (n≤0))) by cases b<;>simp]
 cases b with
 | false =>
  clear HE
  go_enter Tryz.func101,Tryz.ntmps101
  go_wp2_with fail
  (with_reducible refine HQ.out.mono ?_)
  rintro e w' ⟨rfl,rfl⟩
  clear HQ
  go_wp2
  go_ret
  exact ob
 | true =>
  clear HE
  by_cases h0:0≤n
  · have d0:decide (n≥0)=true:=by simpa using h0
    have d0':decide (0≤n)=true:=by simpa using h0
    by_cases h1:n≤0
    · have d1:decide (n≤0)=true:=by simpa using h1
      rw [d0',d1]
      clear h0 h1
      go_enter Tryz.func101,Tryz.ntmps101
      go_wp2_with fail
      (with_reducible refine HQ.out.mono ?_)
      rintro e w' ⟨rfl,rfl⟩
      clear HQ
      go_wp2
      go_ret
      exact ob
    · have d1:decide (n≤0)=false:=by simpa using h1
      rw [d0',d1]
      clear h0 h1
      go_enter Tryz.func101,Tryz.ntmps101
      go_wp2_with fail
      (with_reducible refine HQ.out.mono ?_)
      rintro e w' ⟨rfl,rfl⟩
      clear HQ
      go_wp2
      go_ret
      exact ob
  · have d0:decide (n≥0)=false:=by simpa using h0
    have d0':decide (0≤n)=false:=by simpa using h0
    rw [d0']
    clear h0
    go_enter Tryz.func101,Tryz.ntmps101
    go_wp2_with fail
    (with_reducible refine HQ.out.mono ?_)
    rintro e w' ⟨rfl,rfl⟩
    clear HQ
    go_wp2
    go_ret
    exact ob
theorem refWords_12 (w:World)(at0 n:Int)(s:ByteArray)(kp:Option Addr)(kl kc:Nat)(hs:s.size≤70000) :
 Calls Tryz.prog 101 #[.agg #[.int .u8 12,.int .i64 at0,.string s,.int .i64 n,.slice kp kl kc]] w fun e w'=>e=.returned (.bool ((false==namesF (bytesI s))&&((false||decide (s.size=0))&&(decide (0≤n)&&decide (n≤1)))))∧Below w.heap.size w w':=by
 have HQ:=lh (refIsName_at (w.alloc (.cells #[.int .u8 12,.int .i64 at0,.string s,.int .i64 n,.slice kp kl kc] 99)) s hs)
 have HE:Hid (s.toList.isEmpty=decide (s.size=0)):=lh (isEmpty_size s)
 generalize namesF (bytesI s)=b at *
 rw [show ((false==b)&&((false||decide (s.size=0))&&(decide (0≤n)&&decide (n≤1))))=(!b&&(decide (s.size=0)&&(decide (0≤n)&&decide (n≤1)))) by cases b<;>simp]
 cases b with
 | true =>
  clear HE
  go_enter Tryz.func101,Tryz.ntmps101
  go_wp2_with fail
  (with_reducible refine HQ.out.mono ?_)
  rintro e w' ⟨rfl,rfl⟩
  clear HQ
  go_wp2
  go_ret
  exact ob
 | false =>
  by_cases hz:s.size=0
  · have dz:s.toList.isEmpty=true:=by rw [HE.out];simpa using hz
    rw [decide_eq_true hz]
    clear hz HE
    by_cases h0:0≤n
    · have d0:decide (n≥0)=true:=by simpa using h0
      have d0':decide (0≤n)=true:=by simpa using h0
      by_cases h1:n≤1
      · have d1:decide (n≤1)=true:=by simpa using h1
        rw [d0',d1]
        clear h0 h1
        go_enter Tryz.func101,Tryz.ntmps101
        go_wp2_with fail
        (with_reducible refine HQ.out.mono ?_)
        rintro e w' ⟨rfl,rfl⟩
        clear HQ
        go_wp2
        go_ret
        exact ob
      · have d1:decide (n≤1)=false:=by simpa using h1
        rw [d0',d1]
        clear h0 h1
        go_enter Tryz.func101,Tryz.ntmps101
        go_wp2_with fail
        (with_reducible refine HQ.out.mono ?_)
        rintro e w' ⟨rfl,rfl⟩
        clear HQ
        go_wp2
        go_ret
        exact ob
    · have d0:decide (n≥0)=false:=by simpa using h0
      have d0':decide (0≤n)=false:=by simpa using h0
      rw [d0']
      clear h0
      go_enter Tryz.func101,Tryz.ntmps101
      go_wp2_with fail
      (with_reducible refine HQ.out.mono ?_)
      rintro e w' ⟨rfl,rfl⟩
      clear HQ
      go_wp2
      go_ret
      exact ob
  · have dz:s.toList.isEmpty=false:=by rw [HE.out];simpa using hz
    rw [decide_eq_false hz]
    clear hz HE
    go_enter Tryz.func101,Tryz.ntmps101
    go_wp2_with fail
    (with_reducible refine HQ.out.mono ?_)
    rintro e w' ⟨rfl,rfl⟩
    clear HQ
    go_wp2
    go_ret
    exact ob
theorem refWords_14 (w:World)(at0 n:Int)(s:ByteArray)(kp:Option Addr)(kl kc:Nat)(hs:s.size≤70000) :
 Calls Tryz.prog 101 #[.agg #[.int .u8 14,.int .i64 at0,.string s,.int .i64 n,.slice kp kl kc]] w fun e w'=>e=.returned (.bool ((false==namesF (bytesI s))&&((false||decide (s.size=0))&&(decide (0≤n)&&decide (n≤1)))))∧Below w.heap.size w w':=by
 have HQ:=lh (refIsName_at (w.alloc (.cells #[.int .u8 14,.int .i64 at0,.string s,.int .i64 n,.slice kp kl kc] 99)) s hs)
 have HE:Hid (s.toList.isEmpty=decide (s.size=0)):=lh (isEmpty_size s)
 generalize namesF (bytesI s)=b at *
 rw [show ((false==b)&&((false||decide (s.size=0))&&(decide (0≤n)&&decide (n≤1))))=(!b&&(decide (s.size=0)&&(decide (0≤n)&&decide (n≤1)))) by cases b<;>simp]
 cases b with
 | true =>
  clear HE
  go_enter Tryz.func101,Tryz.ntmps101
  go_wp2_with fail
  (with_reducible refine HQ.out.mono ?_)
  rintro e w' ⟨rfl,rfl⟩
  clear HQ
  go_wp2
  go_ret
  exact ob
 | false =>
  by_cases hz:s.size=0
  · have dz:s.toList.isEmpty=true:=by rw [HE.out];simpa using hz
    rw [decide_eq_true hz]
    clear hz HE
    by_cases h0:0≤n
    · have d0:decide (n≥0)=true:=by simpa using h0
      have d0':decide (0≤n)=true:=by simpa using h0
      by_cases h1:n≤1
      · have d1:decide (n≤1)=true:=by simpa using h1
        rw [d0',d1]
        clear h0 h1
        go_enter Tryz.func101,Tryz.ntmps101
        go_wp2_with fail
        (with_reducible refine HQ.out.mono ?_)
        rintro e w' ⟨rfl,rfl⟩
        clear HQ
        go_wp2
        go_ret
        exact ob
      · have d1:decide (n≤1)=false:=by simpa using h1
        rw [d0',d1]
        clear h0 h1
        go_enter Tryz.func101,Tryz.ntmps101
        go_wp2_with fail
        (with_reducible refine HQ.out.mono ?_)
        rintro e w' ⟨rfl,rfl⟩
        clear HQ
        go_wp2
        go_ret
        exact ob
    · have d0:decide (n≥0)=false:=by simpa using h0
      have d0':decide (0≤n)=false:=by simpa using h0
      rw [d0']
      clear h0
      go_enter Tryz.func101,Tryz.ntmps101
      go_wp2_with fail
      (with_reducible refine HQ.out.mono ?_)
      rintro e w' ⟨rfl,rfl⟩
      clear HQ
      go_wp2
      go_ret
      exact ob
  · have dz:s.toList.isEmpty=false:=by rw [HE.out];simpa using hz
    rw [decide_eq_false hz]
    clear hz HE
    go_enter Tryz.func101,Tryz.ntmps101
    go_wp2_with fail
    (with_reducible refine HQ.out.mono ?_)
    rintro e w' ⟨rfl,rfl⟩
    clear HQ
    go_wp2
    go_ret
    exact ob
theorem refWords_15 (w:World)(at0 n:Int)(s:ByteArray)(kp:Option Addr)(kl kc:Nat)(hs:s.size≤70000) :
 Calls Tryz.prog 101 #[.agg #[.int .u8 15,.int .i64 at0,.string s,.int .i64 n,.slice kp kl kc]] w fun e w'=>e=.returned (.bool ((true==namesF (bytesI s))&&((true||decide (s.size=0))&&(decide (0≤n)&&decide (n≤0)))))∧Below w.heap.size w w':=by
 have HQ:=lh (refIsName_at (w.alloc (.cells #[.int .u8 15,.int .i64 at0,.string s,.int .i64 n,.slice kp kl kc] 99)) s hs)
 have HE:Hid (s.toList.isEmpty=decide (s.size=0)):=lh (isEmpty_size s)
 generalize namesF (bytesI s)=b at *
 rw [show ((true==b)&&((true||decide (s.size=0))&&(decide (0≤n)&&decide (n≤0))))=(b&&(decide (0≤n)&&decide (n≤0))) by cases b<;>simp]
 cases b with
 | false =>
  clear HE
  go_enter Tryz.func101,Tryz.ntmps101
  go_wp2_with fail
  (with_reducible refine HQ.out.mono ?_)
  rintro e w' ⟨rfl,rfl⟩
  clear HQ
  go_wp2
  go_ret
  exact ob
 | true =>
  clear HE
  by_cases h0:0≤n
  · have d0:decide (n≥0)=true:=by simpa using h0
    have d0':decide (0≤n)=true:=by simpa using h0
    by_cases h1:n≤0
    · have d1:decide (n≤0)=true:=by simpa using h1
      rw [d0',d1]
      clear h0 h1
      go_enter Tryz.func101,Tryz.ntmps101
      go_wp2_with fail
      (with_reducible refine HQ.out.mono ?_)
      rintro e w' ⟨rfl,rfl⟩
      clear HQ
      go_wp2
      go_ret
      exact ob
    · have d1:decide (n≤0)=false:=by simpa using h1
      rw [d0',d1]
      clear h0 h1
      go_enter Tryz.func101,Tryz.ntmps101
      go_wp2_with fail
      (with_reducible refine HQ.out.mono ?_)
      rintro e w' ⟨rfl,rfl⟩
      clear HQ
      go_wp2
      go_ret
      exact ob
  · have d0:decide (n≥0)=false:=by simpa using h0
    have d0':decide (0≤n)=false:=by simpa using h0
    rw [d0']
    clear h0
    go_enter Tryz.func101,Tryz.ntmps101
    go_wp2_with fail
    (with_reducible refine HQ.out.mono ?_)
    rintro e w' ⟨rfl,rfl⟩
    clear HQ
    go_wp2
    go_ret
    exact ob
theorem refWords_16 (w:World)(at0 n:Int)(s:ByteArray)(kp:Option Addr)(kl kc:Nat)(hs:s.size≤70000) :
 Calls Tryz.prog 101 #[.agg #[.int .u8 16,.int .i64 at0,.string s,.int .i64 n,.slice kp kl kc]] w fun e w'=>e=.returned (.bool ((true==namesF (bytesI s))&&((true||decide (s.size=0))&&(decide (0≤n)&&decide (n≤0)))))∧Below w.heap.size w w':=by
 have HQ:=lh (refIsName_at (w.alloc (.cells #[.int .u8 16,.int .i64 at0,.string s,.int .i64 n,.slice kp kl kc] 99)) s hs)
 have HE:Hid (s.toList.isEmpty=decide (s.size=0)):=lh (isEmpty_size s)
 generalize namesF (bytesI s)=b at *
 rw [show ((true==b)&&((true||decide (s.size=0))&&(decide (0≤n)&&decide (n≤0))))=(b&&(decide (0≤n)&&decide (n≤0))) by cases b<;>simp]
 cases b with
 | false =>
  clear HE
  go_enter Tryz.func101,Tryz.ntmps101
  go_wp2_with fail
  (with_reducible refine HQ.out.mono ?_)
  rintro e w' ⟨rfl,rfl⟩
  clear HQ
  go_wp2
  go_ret
  exact ob
 | true =>
  clear HE
  by_cases h0:0≤n
  · have d0:decide (n≥0)=true:=by simpa using h0
    have d0':decide (0≤n)=true:=by simpa using h0
    by_cases h1:n≤0
    · have d1:decide (n≤0)=true:=by simpa using h1
      rw [d0',d1]
      clear h0 h1
      go_enter Tryz.func101,Tryz.ntmps101
      go_wp2_with fail
      (with_reducible refine HQ.out.mono ?_)
      rintro e w' ⟨rfl,rfl⟩
      clear HQ
      go_wp2
      go_ret
      exact ob
    · have d1:decide (n≤0)=false:=by simpa using h1
      rw [d0',d1]
      clear h0 h1
      go_enter Tryz.func101,Tryz.ntmps101
      go_wp2_with fail
      (with_reducible refine HQ.out.mono ?_)
      rintro e w' ⟨rfl,rfl⟩
      clear HQ
      go_wp2
      go_ret
      exact ob
  · have d0:decide (n≥0)=false:=by simpa using h0
    have d0':decide (0≤n)=false:=by simpa using h0
    rw [d0']
    clear h0
    go_enter Tryz.func101,Tryz.ntmps101
    go_wp2_with fail
    (with_reducible refine HQ.out.mono ?_)
    rintro e w' ⟨rfl,rfl⟩
    clear HQ
    go_wp2
    go_ret
    exact ob
theorem refWords_20 (w:World)(at0 n:Int)(s:ByteArray)(kp:Option Addr)(kl kc:Nat)(hs:s.size≤70000) :
 Calls Tryz.prog 101 #[.agg #[.int .u8 20,.int .i64 at0,.string s,.int .i64 n,.slice kp kl kc]] w fun e w'=>e=.returned (.bool ((true==namesF (bytesI s))&&((true||decide (s.size=0))&&(decide (0≤n)&&decide (n≤0)))))∧Below w.heap.size w w':=by
 have HQ:=lh (refIsName_at (w.alloc (.cells #[.int .u8 20,.int .i64 at0,.string s,.int .i64 n,.slice kp kl kc] 99)) s hs)
 have HE:Hid (s.toList.isEmpty=decide (s.size=0)):=lh (isEmpty_size s)
 generalize namesF (bytesI s)=b at *
 rw [show ((true==b)&&((true||decide (s.size=0))&&(decide (0≤n)&&decide (n≤0))))=(b&&(decide (0≤n)&&decide (n≤0))) by cases b<;>simp]
 cases b with
 | false =>
  clear HE
  go_enter Tryz.func101,Tryz.ntmps101
  go_wp2_with fail
  (with_reducible refine HQ.out.mono ?_)
  rintro e w' ⟨rfl,rfl⟩
  clear HQ
  go_wp2
  go_ret
  exact ob
 | true =>
  clear HE
  by_cases h0:0≤n
  · have d0:decide (n≥0)=true:=by simpa using h0
    have d0':decide (0≤n)=true:=by simpa using h0
    by_cases h1:n≤0
    · have d1:decide (n≤0)=true:=by simpa using h1
      rw [d0',d1]
      clear h0 h1
      go_enter Tryz.func101,Tryz.ntmps101
      go_wp2_with fail
      (with_reducible refine HQ.out.mono ?_)
      rintro e w' ⟨rfl,rfl⟩
      clear HQ
      go_wp2
      go_ret
      exact ob
    · have d1:decide (n≤0)=false:=by simpa using h1
      rw [d0',d1]
      clear h0 h1
      go_enter Tryz.func101,Tryz.ntmps101
      go_wp2_with fail
      (with_reducible refine HQ.out.mono ?_)
      rintro e w' ⟨rfl,rfl⟩
      clear HQ
      go_wp2
      go_ret
      exact ob
  · have d0:decide (n≥0)=false:=by simpa using h0
    have d0':decide (0≤n)=false:=by simpa using h0
    rw [d0']
    clear h0
    go_enter Tryz.func101,Tryz.ntmps101
    go_wp2_with fail
    (with_reducible refine HQ.out.mono ?_)
    rintro e w' ⟨rfl,rfl⟩
    clear HQ
    go_wp2
    go_ret
    exact ob
theorem refWords_21 (w:World)(at0 n:Int)(s:ByteArray)(kp:Option Addr)(kl kc:Nat)(hs:s.size≤70000) :
 Calls Tryz.prog 101 #[.agg #[.int .u8 21,.int .i64 at0,.string s,.int .i64 n,.slice kp kl kc]] w fun e w'=>e=.returned (.bool ((false==namesF (bytesI s))&&((false||decide (s.size=0))&&(decide (0≤n)&&decide (n≤2147483647)))))∧Below w.heap.size w w':=by
 have HQ:=lh (refIsName_at (w.alloc (.cells #[.int .u8 21,.int .i64 at0,.string s,.int .i64 n,.slice kp kl kc] 99)) s hs)
 have HE:Hid (s.toList.isEmpty=decide (s.size=0)):=lh (isEmpty_size s)
 generalize namesF (bytesI s)=b at *
 rw [show ((false==b)&&((false||decide (s.size=0))&&(decide (0≤n)&&decide (n≤2147483647))))=(!b&&(decide (s.size=0)&&(decide (0≤n)&&decide (n≤2147483647)))) by cases b<;>simp]
 cases b with
 | true =>
  clear HE
  go_enter Tryz.func101,Tryz.ntmps101
  go_wp2_with fail
  (with_reducible refine HQ.out.mono ?_)
  rintro e w' ⟨rfl,rfl⟩
  clear HQ
  go_wp2
  go_ret
  exact ob
 | false =>
  by_cases hz:s.size=0
  · have dz:s.toList.isEmpty=true:=by rw [HE.out];simpa using hz
    rw [decide_eq_true hz]
    clear hz HE
    by_cases h0:0≤n
    · have d0:decide (n≥0)=true:=by simpa using h0
      have d0':decide (0≤n)=true:=by simpa using h0
      by_cases h1:n≤2147483647
      · have d1:decide (n≤2147483647)=true:=by simpa using h1
        rw [d0',d1]
        clear h0 h1
        go_enter Tryz.func101,Tryz.ntmps101
        go_wp2_with fail
        (with_reducible refine HQ.out.mono ?_)
        rintro e w' ⟨rfl,rfl⟩
        clear HQ
        go_wp2
        go_ret
        exact ob
      · have d1:decide (n≤2147483647)=false:=by simpa using h1
        rw [d0',d1]
        clear h0 h1
        go_enter Tryz.func101,Tryz.ntmps101
        go_wp2_with fail
        (with_reducible refine HQ.out.mono ?_)
        rintro e w' ⟨rfl,rfl⟩
        clear HQ
        go_wp2
        go_ret
        exact ob
    · have d0:decide (n≥0)=false:=by simpa using h0
      have d0':decide (0≤n)=false:=by simpa using h0
      rw [d0']
      clear h0
      go_enter Tryz.func101,Tryz.ntmps101
      go_wp2_with fail
      (with_reducible refine HQ.out.mono ?_)
      rintro e w' ⟨rfl,rfl⟩
      clear HQ
      go_wp2
      go_ret
      exact ob
  · have dz:s.toList.isEmpty=false:=by rw [HE.out];simpa using hz
    rw [decide_eq_false hz]
    clear hz HE
    go_enter Tryz.func101,Tryz.ntmps101
    go_wp2_with fail
    (with_reducible refine HQ.out.mono ?_)
    rintro e w' ⟨rfl,rfl⟩
    clear HQ
    go_wp2
    go_ret
    exact ob
theorem refWords_22 (w:World)(at0 n:Int)(s:ByteArray)(kp:Option Addr)(kl kc:Nat)(hs:s.size≤70000) :
 Calls Tryz.prog 101 #[.agg #[.int .u8 22,.int .i64 at0,.string s,.int .i64 n,.slice kp kl kc]] w fun e w'=>e=.returned (.bool ((true==namesF (bytesI s))&&((true||decide (s.size=0))&&(decide (0≤n)&&decide (n≤0)))))∧Below w.heap.size w w':=by
 have HQ:=lh (refIsName_at (w.alloc (.cells #[.int .u8 22,.int .i64 at0,.string s,.int .i64 n,.slice kp kl kc] 99)) s hs)
 have HE:Hid (s.toList.isEmpty=decide (s.size=0)):=lh (isEmpty_size s)
 generalize namesF (bytesI s)=b at *
 rw [show ((true==b)&&((true||decide (s.size=0))&&(decide (0≤n)&&decide (n≤0))))=(b&&(decide (0≤n)&&decide (n≤0))) by cases b<;>simp]
 cases b with
 | false =>
  clear HE
  go_enter Tryz.func101,Tryz.ntmps101
  go_wp2_with fail
  (with_reducible refine HQ.out.mono ?_)
  rintro e w' ⟨rfl,rfl⟩
  clear HQ
  go_wp2
  go_ret
  exact ob
 | true =>
  clear HE
  by_cases h0:0≤n
  · have d0:decide (n≥0)=true:=by simpa using h0
    have d0':decide (0≤n)=true:=by simpa using h0
    by_cases h1:n≤0
    · have d1:decide (n≤0)=true:=by simpa using h1
      rw [d0',d1]
      clear h0 h1
      go_enter Tryz.func101,Tryz.ntmps101
      go_wp2_with fail
      (with_reducible refine HQ.out.mono ?_)
      rintro e w' ⟨rfl,rfl⟩
      clear HQ
      go_wp2
      go_ret
      exact ob
    · have d1:decide (n≤0)=false:=by simpa using h1
      rw [d0',d1]
      clear h0 h1
      go_enter Tryz.func101,Tryz.ntmps101
      go_wp2_with fail
      (with_reducible refine HQ.out.mono ?_)
      rintro e w' ⟨rfl,rfl⟩
      clear HQ
      go_wp2
      go_ret
      exact ob
  · have d0:decide (n≥0)=false:=by simpa using h0
    have d0':decide (0≤n)=false:=by simpa using h0
    rw [d0']
    clear h0
    go_enter Tryz.func101,Tryz.ntmps101
    go_wp2_with fail
    (with_reducible refine HQ.out.mono ?_)
    rintro e w' ⟨rfl,rfl⟩
    clear HQ
    go_wp2
    go_ret
    exact ob
theorem refWords_other (w:World)(k at0 n:Int)(s:ByteArray)(kp:Option Addr)(kl kc:Nat)(hs:s.size≤70000)(d2:(k==2)=false)(d3:(k==3)=false)(d5:(k==5)=false)(d7:(k==7)=false)(d11:(k==11)=false)(d12:(k==12)=false)(d14:(k==14)=false)(d15:(k==15)=false)(d16:(k==16)=false)(d20:(k==20)=false)(d21:(k==21)=false)(d22:(k==22)=false) :
 Calls Tryz.prog 101 #[.agg #[.int .u8 k,.int .i64 at0,.string s,.int .i64 n,.slice kp kl kc]] w fun e w'=>e=.returned (.bool ((false==namesF (bytesI s))&&((false||decide (s.size=0))&&(decide (0≤n)&&decide (n≤0)))))∧Below w.heap.size w w':=by
 have HQ:=lh (refIsName_at (w.alloc (.cells #[.int .u8 k,.int .i64 at0,.string s,.int .i64 n,.slice kp kl kc] 99)) s hs)
 have HE:Hid (s.toList.isEmpty=decide (s.size=0)):=lh (isEmpty_size s)
 generalize namesF (bytesI s)=b at *
 rw [show ((false==b)&&((false||decide (s.size=0))&&(decide (0≤n)&&decide (n≤0))))=(!b&&(decide (s.size=0)&&(decide (0≤n)&&decide (n≤0)))) by cases b<;>simp]
 cases b with
 | true =>
  clear HE
  go_enter Tryz.func101,Tryz.ntmps101
  go_wp2_with fail
  (with_reducible refine HQ.out.mono ?_)
  rintro e w' ⟨rfl,rfl⟩
  clear HQ
  go_wp2
  go_ret
  exact ob
 | false =>
  by_cases hz:s.size=0
  · have dz:s.toList.isEmpty=true:=by rw [HE.out];simpa using hz
    rw [decide_eq_true hz]
    clear hz HE
    by_cases h0:0≤n
    · have d0:decide (n≥0)=true:=by simpa using h0
      have d0':decide (0≤n)=true:=by simpa using h0
      by_cases h1:n≤0
      · have d1:decide (n≤0)=true:=by simpa using h1
        rw [d0',d1]
        clear h0 h1
        go_enter Tryz.func101,Tryz.ntmps101
        go_wp2_with fail
        (with_reducible refine HQ.out.mono ?_)
        rintro e w' ⟨rfl,rfl⟩
        clear HQ
        go_wp2
        go_ret
        exact ob
      · have d1:decide (n≤0)=false:=by simpa using h1
        rw [d0',d1]
        clear h0 h1
        go_enter Tryz.func101,Tryz.ntmps101
        go_wp2_with fail
        (with_reducible refine HQ.out.mono ?_)
        rintro e w' ⟨rfl,rfl⟩
        clear HQ
        go_wp2
        go_ret
        exact ob
    · have d0:decide (n≥0)=false:=by simpa using h0
      have d0':decide (0≤n)=false:=by simpa using h0
      rw [d0']
      clear h0
      go_enter Tryz.func101,Tryz.ntmps101
      go_wp2_with fail
      (with_reducible refine HQ.out.mono ?_)
      rintro e w' ⟨rfl,rfl⟩
      clear HQ
      go_wp2
      go_ret
      exact ob
  · have dz:s.toList.isEmpty=false:=by rw [HE.out];simpa using hz
    rw [decide_eq_false hz]
    clear hz HE
    go_enter Tryz.func101,Tryz.ntmps101
    go_wp2_with fail
    (with_reducible refine HQ.out.mono ?_)
    rintro e w' ⟨rfl,rfl⟩
    clear HQ
    go_wp2
    go_ret
    exact ob
theorem refWords_at (w:World)(nd:Nd)(kp:Option Addr)(kl kc:Nat)(hs:nd.text.size≤70000) :
 Calls Tryz.prog 101 #[ndV nd kp kl kc] w fun e w'=>e=.returned (.bool (wordsR nd))∧Below w.heap.size w w':=by
 obtain ⟨k,at0,s,n,ks⟩:=nd
 unfold ndV wordsR
 simp only at hs ⊢
 by_cases h2:k=2
 · subst h2;exact refWords_2 w at0 n s kp kl kc hs
 by_cases h3:k=3
 · subst h3;exact refWords_3 w at0 n s kp kl kc hs
 by_cases h5:k=5
 · subst h5;exact refWords_5 w at0 n s kp kl kc hs
 by_cases h7:k=7
 · subst h7;exact refWords_7 w at0 n s kp kl kc hs
 by_cases h11:k=11
 · subst h11;exact refWords_11 w at0 n s kp kl kc hs
 by_cases h12:k=12
 · subst h12;exact refWords_12 w at0 n s kp kl kc hs
 by_cases h14:k=14
 · subst h14;exact refWords_14 w at0 n s kp kl kc hs
 by_cases h15:k=15
 · subst h15;exact refWords_15 w at0 n s kp kl kc hs
 by_cases h16:k=16
 · subst h16;exact refWords_16 w at0 n s kp kl kc hs
 by_cases h20:k=20
 · subst h20;exact refWords_20 w at0 n s kp kl kc hs
 by_cases h21:k=21
 · subst h21;exact refWords_21 w at0 n s kp kl kc hs
 by_cases h22:k=22
 · subst h22;exact refWords_22 w at0 n s kp kl kc hs
 have e1:namedR k=false:=by unfold namedR;simp [h2,h3,h5,h7,h11,h15,h16,h20,h22]
 have e2:mostR k=0:=by unfold mostR;simp [h3,h7,h12,h14,h21]
 rw [e1,e2]
 exact refWords_other w k at0 n s kp kl kc hs (by simpa using h2) (by simpa using h3) (by simpa using h5) (by simpa using h7) (by simpa using h11) (by simpa using h12) (by simpa using h14) (by simpa using h15) (by simpa using h16) (by simpa using h20) (by simpa using h21) (by simpa using h22)
end Tr
end Go.Proofs.YthdioipfdbbmmaaGreatDoor
