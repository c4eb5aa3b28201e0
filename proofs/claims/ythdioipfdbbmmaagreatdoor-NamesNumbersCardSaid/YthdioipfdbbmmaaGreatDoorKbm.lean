/- Contracts. -/
import Derived.Test.YthdioipfdbbmmaaGreatDoorKae
import Derived.Test.YthdioipfdbbmmaaGreatDoorKah
import Derived.Test.YthdioipfdbbmmaaGreatDoorKaw
import Derived.Test.YthdioipfdbbmmaaGreatDoorKax
import Derived.Test.YthdioipfdbbmmaaGreatDoorKbe
import Derived.Test.YthdioipfdbbmmaaGreatDoorKbl
import Derived.Deep.QuietTactic
import Derived.BigQuiet
import Derived.Lib.Bytes
import Derived.Laws.EntriesVeiled
import Derived.MapKept
import Derived.Orders
import Derived.Recover
import Derived.Defers
set_option linter.all false
set_option maxRecDepth 1000000
set_option maxHeartbeats 16000000
namespace Go.Proofs.YthdioipfdbbmmaaGreatDoor
namespace Tr
open Go.RowKit
theorem kind_at (W:World)(kb m:Nat)(hm:m<256)(hk:W.cell? ⟨kb,m,none⟩=some (.int .u8 (kindF m))) :
 Calls Tryz.prog 87 #[.int .u8 m,.pointer (some ⟨kb,0,none⟩)] W fun e w'=>e=.returned (.int .u8 (kindF m))∧w'=W:=by
 generalize kindF m=k at *
 go_enter Tryz.func87,Tryz.ntmps87
 go_wp2
 go_ret
 exact ⟨rfl,rfl⟩
theorem inName_at (W:World)(k:Int) :
 Calls Tryz.prog 154 #[.int .u8 k] W fun e w'=>e=.returned (.bool (k==3||k==4||k==5))∧w'=W:=by
 go_enter Tryz.func154,Tryz.ntmps154
 go_wp2
 all_goals (go_ret;simp_all)
theorem kind_name (c:Int):(kindF c==3||kindF c==4||kindF c==5)=isNameB c:=by
 unfold kindF
 by_cases h1:isBlank c=true
 · have:c=32∨c=9∨c=10∨c=13:=by simpa [isBlank,or_assoc] using h1
   rcases this with rfl|rfl|rfl|rfl<;>decide
 · by_cases h2:c=35
   · subst h2;decide
   · by_cases h3:isLetter c=true
     · simp [h1,h2,h3,isNameB]
     · by_cases h4:isDigit c=true
       · simp [h1,h2,h3,h4,isNameB]
       · by_cases h5:c=95
         · subst h5;decide
         · by_cases h6:isMark c=true
           · simp [h1,h2,h3,h4,h5,h6,isNameB]
           · simp [h1,h2,h3,h4,h5,h6,isNameB]
theorem kind_letter (c:Int):(kindF c==3)=isLetter c:=by
 unfold kindF
 by_cases h1:isBlank c=true
 · have:c=32∨c=9∨c=10∨c=13:=by simpa [isBlank,or_assoc] using h1
   rcases this with rfl|rfl|rfl|rfl<;>decide
 · by_cases h2:c=35
   · subst h2;decide
   · by_cases h3:isLetter c=true
     · simp [h1,h2,h3]
     · simp only [h1,h2,h3]
       repeat' split
       all_goals simp_all
theorem isName_at (w:World)(s:ByteArray)(hb:s.size≤70000) :
 Calls Tryz.prog 189 #[.string s] w fun e w'=>e=.returned (.bool (namesF (bytesI s)))∧Below w.heap.size w w':=by
 have HK:=lh (byteKinds_run w)
 by_cases h0:s.size=0
 · obtain rfl:s=ByteArray.empty:=ByteArray.size_eq_zero_iff.1 h0
   show Calls Tryz.prog 189 #[.string ⟨#[]⟩] w fun e w'=>e=.returned (.bool false)∧Below w.heap.size w w'
   go_enter Tryz.func189,Tryz.ntmps189
   go_wp2_with fail
   (with_reducible refine HK.out.mono ?_)
   rintro e W1 ⟨rfl,hk⟩
   have HB:=lh hk.below
   clear hk HK
   go_wp2
   go_ret
   exact ⟨rfl,HB.out⟩
 · have hne:s.toList.isEmpty=false:=by
    rw [← bytesI_str s,Lib.strOfNums_toList,List.isEmpty_eq_false_iff]
    intro e
    have:=congrArg List.length e
    rw [Lib.bytesOf,List.length_map,bytesI_length,List.length_nil] at this
    exact h0 this
   have hpos:0<s.size:=by omega
   have hlen:=lh (bytesI_length s)
   have h00:=lh (bytesI_get s 0 hpos)
   have hm0:=UInt8.toNat_lt s[0]
   have KL:=lh (kind_letter (s[0].toNat:Int))
   obtain ⟨m0,hm⟩:∃m0,s[0].toNat=m0:=⟨_,rfl⟩
   go_enter Tryz.func189,Tryz.ntmps189
   go_wp2_with fail
   (with_reducible refine HK.out.mono ?_)
   rintro e W1 ⟨rfl,hk⟩
   have HKW:=lh hk
   have HB:=lh hk.below
   clear hk HK
   go_wp2_with fail
   have hm256:m0<256:=by omega
   have KA:=kind_at W1 (w.heap.size+1) m0 hm256 (by rw [HKW.out.arr m0 hm256,FK_kind m0 hm256])
   have KL2:=KL.out
   rw [hm] at KL2
   have KL3:=lh KL2
   have H00:Hid ((bytesI s).getD 0 0=(m0:Int)):=by rw [← hm];exact h00
   clear KL2 KL h00
   generalize kindF m0=k at *
   (with_reducible refine KA.mono ?_)
   rintro e w' ⟨rfl,rfl⟩
   clear KA
   by_cases hk3:k=3
   · subst hk3
     have HL:Hid (isLetter ((bytesI s).getD 0 0)=true):=lh (by rw [H00.out];simpa using KL3.out.symm)
     clear hm hm0 hm256 KL3 H00
     go_wp2_with fail
     go_loop [17] (fun iv=>∃k:Nat,k≤s.size∧iv=.int .i64 k∧Hid (((bytesI s).take k).all isNameB=true)) (fun iv=>s.size-(intOf iv).toNat)
     case atStart=>exact ⟨0,Nat.zero_le _,rfl,lh rfl⟩
     case round =>
      obtain ⟨k,hk,rfl,HA⟩:=hrel
      by_cases hlt:k<s.size
      · have hgk:=bytesI_get s k hlt
        have hmk:=UInt8.toNat_lt s[k]
        obtain ⟨m,hm⟩:∃m,s[k].toNat=m:=⟨_,rfl⟩
        rw [hm] at hgk hmk
        have hm256:m<256:=by omega
        have KA:=kind_at w' (w.heap.size+1) m hm256 (by rw [HKW.out.arr m hm256,FK_kind m hm256])
        have KN:=kind_name m
        have HG:=lh hgk
        clear hgk
        generalize kindF m=kk at *
        have IN:=inName_at w' kk
        rw [KN] at IN
        have HKA:=lh KA
        have HIN:=lh IN
        clear KN KA IN
        cases hq:isNameB m with
        | true =>
         have HIN2:Hid (Calls Tryz.prog 154 #[.int .u8 kk] w' fun e w1=>e=.returned (.bool true)∧w1=w'):=by rw [← hq];exact HIN.out
         have HQ:=lh hq
         clear hq HIN
         go_wp2_with fail
         (with_reducible refine HKA.out.mono ?_)
         rintro e w2 ⟨rfl,rfl⟩
         go_wp2_with fail
         (with_reducible refine HIN2.out.mono ?_)
         rintro e w3 ⟨rfl,rfl⟩
         clear HKA HIN2
         go_wp2
         go_round
         case rel=>exact ⟨k+1,by omega,by go_num,lh (by rw [all_take_succ _ _ (by have:=hlen.out;omega),HA.out,HG.out,HQ.out];rfl)⟩
         case measure=>simp [intOf];omega
        | false =>
         have HIN2:Hid (Calls Tryz.prog 154 #[.int .u8 kk] w' fun e w1=>e=.returned (.bool false)∧w1=w'):=by rw [← hq];exact HIN.out
         have HQ:=lh hq
         clear hq HIN
         go_wp2_with fail
         (with_reducible refine HKA.out.mono ?_)
         rintro e w2 ⟨rfl,rfl⟩
         go_wp2_with fail
         (with_reducible refine HIN2.out.mono ?_)
         rintro e w3 ⟨rfl,rfl⟩
         clear HKA HIN2
         go_wp2
         go_ret
         exact ⟨retB (namesF_no _ k (by have:=hlen.out;omega) (by rw [HG.out];exact HQ.out)).symm,HB.out⟩
      · have hks:k=s.size:=by omega
        have HKS:=lh hks
        clear hks
        go_wp2
        go_ret
        exact ⟨retB (namesF_yes _ (by have:=hlen.out;omega) HL.out (by rw [hlen.out,← HKS.out];exact HA.out)).symm,HB.out⟩
   · have hk3':(k != 3)=true:=by simpa using hk3
     have HL:Hid (isLetter ((bytesI s).getD 0 0)=false):=lh (by rw [H00.out,← KL3.out];simpa using hk3)
     clear KL3 H00
     go_wp2
     go_ret
     exact ⟨retB (namesF_head _ (by have:=hlen.out;omega) HL.out).symm,HB.out⟩
end Tr
namespace Tr
open Go.RowKit
def Aside (W V:World):Prop:=∀p v,W.cell? p=some v→V.cell? p=some v
theorem Aside.of {W V:World}(h:Below W.heap.size W V):Aside W V:=fun p v hp=>by rw [h.cell (World.block_lt_of_cell? W p hp)];exact hp
theorem Aside.refl (W:World):Aside W W:=fun _ _ h=>h
theorem Aside.trans {a b c:World}(h:Aside a b)(k:Aside b c):Aside a c:=fun p v hp=>k p v (h p v hp)
structure BV (W:World)(p:Option Addr)(len c:Nat)(xs:List Int):Prop where
 len_eq:xs.length=len
 cap:len≤c
 cell:0<len→∃b off,p=some ⟨b,off,none⟩∧∀i,i<len→W.cell? ⟨b,off+i,none⟩=some (.int .u8 (xs.getD i 0))
theorem BV.on {W V:World}{p:Option Addr}{len c:Nat}{xs:List Int}(h:BV W p len c xs)(hb:Aside W V):BV V p len c xs where
 len_eq:=h.len_eq
 cap:=h.cap
 cell:=fun hl=>by
  obtain ⟨b,off,e,hc⟩:=h.cell hl
  exact ⟨b,off,e,fun i hi=>hb _ _ (hc i hi)⟩
def FitV (W:World)(g:Fn)(cs:Array Value):Fit→Prop
 | .of ks=>∃B q l c,g=.func 234∧cs=#[.pointer (some ⟨B,0,none⟩)]∧W.cell? ⟨B,0,none⟩=some (.slice q l c)∧BV W q l c ks∧l≤70000
 | .stmt=>g=.func 190∧cs=#[]
 | .expr=>g=.func 115∧cs=#[]
theorem FitV.on {W V:World}{g:Fn}{cs:Array Value}{f:Fit}(h:FitV W g cs f)(hb:Aside W V):FitV V g cs f:=by
 cases f with
 | «of» ks =>
  obtain ⟨B,q,l,c,e,e2,h3,h4,h5⟩:=h
  exact ⟨B,q,l,c,e,e2,hb _ _ h3,h4.on hb,h5⟩
 | stmt=>exact h
 | expr=>exact h
theorem index_at (w:World)(p:Option Addr)(len c:Nat)(xs:List Int)(k:Int)(h:BV w p len c xs)(hb:len≤70000) :
 Calls Tryz.prog 268 #[.slice p len c,.int .u8 k] w fun e w'=>(∃z:Int,e=.returned (.int .i64 z)∧decide (0≤z)=xs.any fun x=>k==x)∧w'=w:=by
 have hlen:=lh h.len_eq
 have H:=lh h
 clear h
 go_enter Tryz.func268,Tryz.ntmps268
 go_wp2_with fail
 go_loop [8] (fun iv=>∃i:Nat,i≤len∧iv=.int .i64 i∧Hid ((xs.take i).any (fun x=>k==x)=false)) (fun iv=>len-(intOf iv).toNat)
 case atStart=>exact ⟨0,Nat.zero_le _,rfl,lh rfl⟩
 case round =>
  obtain ⟨i,hi,rfl,HA⟩:=hrel
  by_cases hil:i<len
  · obtain ⟨b,off,rfl,hc⟩:=H.out.cell (by omega)
    have hci:=hc i hil
    have HT:=lh (show (xs.take (i+1)).any (fun x=>k==x)=((xs.take i).any (fun x=>k==x)||(k==xs.getD i 0)) by
     rw [List.take_succ_eq_append_getElem (by have:=hlen.out;omega),List.any_append]
     simp [List.getD,show i<xs.length by have:=hlen.out;omega])
    have HM:=lh (show (k==xs.getD i 0)=true→xs.any (fun x=>k==x)=true from fun h=>by
     rw [List.any_eq_true]
     exact ⟨xs.getD i 0,by simp [List.getD,show i<xs.length by have:=hlen.out;omega],h⟩)
    generalize xs.getD i 0=x at *
    clear hc
    by_cases hx:k=x
    · subst hx
      go_wp2
      go_ret
      exact ⟨⟨(i:Int),rfl,by rw [HM.out (by simp)];simp⟩,rfl⟩
    · have hx':(k==x)=false:=by simpa using hx
      go_wp2
      go_round
      case rel=>exact ⟨i+1,by omega,by go_num,lh (by rw [HT.out,HA.out,hx'];rfl)⟩
      case measure=>simp [intOf];omega
  · have e:i=xs.length:=by have:=hlen.out;omega
    have HE:=lh e
    clear e
    go_wp2
    go_ret
    refine ⟨⟨-1,rfl,?_⟩,rfl⟩
    have:=HA.out
    rw [HE.out,List.take_length] at this
    rw [this]
    rfl
theorem contains_at (w:World)(p:Option Addr)(len c:Nat)(xs:List Int)(k:Int)(h:BV w p len c xs)(hb:len≤70000) :
 Calls Tryz.prog 235 #[.slice p len c,.int .u8 k] w fun e w'=>e=.returned (.bool (xs.any fun x=>k==x))∧w'=w:=by
 have HI:=lh (index_at w p len c xs k h hb)
 clear h
 go_enter Tryz.func235,Tryz.ntmps235
 go_wp2_with fail
 (with_reducible refine HI.out.mono ?_)
 rintro e w' ⟨⟨z,rfl,hz⟩,rfl⟩
 clear HI
 go_wp2
 go_ret
 exact ⟨retB (by simp),rfl⟩
theorem isf_at (w:World)(B l c:Nat)(q:Option Addr)(xs:List Int)(k:Int)(hc:w.cell? ⟨B,0,none⟩=some (.slice q l c))(h:BV w q l c xs)(hb:l≤70000) :
 Calls Tryz.prog 234 #[.int .u8 k,.pointer (some ⟨B,0,none⟩)] w fun e w'=>e=.returned (.bool (xs.any fun x=>k==x))∧w'=w:=by
 have HI:=lh (contains_at w q l c xs k h hb)
 clear h
 go_enter Tryz.func234,Tryz.ntmps234
 go_wp2_with fail
 (with_reducible refine HI.out.mono ?_)
 rintro e w' ⟨rfl,rfl⟩
 clear HI
 go_wp2
 go_ret
 exact ⟨rfl,rfl⟩
theorem isExpr_at (c:Int)(w:World):Calls Tryz.prog 115 #[.int .u8 c] w fun e w'=>e=.returned (.bool (isExprK c))∧w'=w:=by
 unfold isExprK
 by_cases h:21≤c
 · by_cases h2:c≤26
   · have e:(decide (21≤c)&&decide (c≤26))=true:=by simp [h,h2]
     rw [e]
     clear e
     go_enter Tryz.func115,Tryz.ntmps115
     go_wp2
     go_ret
     exact ⟨rfl,rfl⟩
   · have e:(decide (21≤c)&&decide (c≤26))=false:=by simp [h2]
     rw [e]
     clear e
     go_enter Tryz.func115,Tryz.ntmps115
     go_wp2
     go_ret
     exact ⟨rfl,rfl⟩
 · have e:(decide (21≤c)&&decide (c≤26))=false:=by simp [h]
   rw [e]
   clear e
   have hd:decide (21≤c)=false:=by simpa using h
   go_enter Tryz.func115,Tryz.ntmps115
   go_wp2
   go_ret
   exact ⟨rfl,rfl⟩
theorem isStmt_at (c:Int)(w:World):Calls Tryz.prog 190 #[.int .u8 c] w fun e w'=>e=.returned (.bool (isStmtK c))∧w'=w:=by
 unfold isStmtK
 by_cases h:7≤c
 · by_cases h2:c≤19
   · have e:(decide (7≤c)&&decide (c≤19))=true:=by simp [h,h2]
     rw [e]
     clear e
     go_enter Tryz.func190,Tryz.ntmps190
     go_wp2
     go_ret
     exact ⟨rfl,rfl⟩
   · have e:(decide (7≤c)&&decide (c≤19))=false:=by simp [h2]
     rw [e]
     clear e
     go_enter Tryz.func190,Tryz.ntmps190
     go_wp2
     go_ret
     exact ⟨rfl,rfl⟩
 · have e:(decide (7≤c)&&decide (c≤19))=false:=by simp [h]
   rw [e]
   clear e
   have hd:decide (7≤c)=false:=by simpa using h
   go_enter Tryz.func190,Tryz.ntmps190
   go_wp2
   go_ret
   exact ⟨rfl,rfl⟩
theorem isEmpty_size (s:ByteArray):s.toList.isEmpty=decide (s.size=0):=by
 have this:(Lib.bytesOf (bytesI s)).length=s.size:=by rw [Lib.bytesOf,List.length_map,bytesI_length]
 have e:s.toList=Lib.bytesOf (bytesI s):=by rw [← Lib.strOfNums_toList,bytesI_str]
 rw [e]
 by_cases h:s.size=0
 · rw [decide_eq_true h,List.isEmpty_iff_length_eq_zero];omega
 · rw [decide_eq_false h,List.isEmpty_eq_false_iff]
   intro e
   rw [e] at this
   exact h this.symm
theorem isEmpty_at (s:ByteArray)(w:World):Calls Tryz.prog 187 #[.string s] w fun e w'=>e=.returned (.bool (decide (s.size=0)))∧w'=w:=by
 go_enter Tryz.func187,Tryz.ntmps187
 go_wp2
 go_ret
 exact ⟨retB (isEmpty_size s),rfl⟩
theorem one_at (w:World)(g:Fn)(cs:Array Value):Calls Tryz.prog 184 #[.func g #[] cs] w fun e w'=>e=.returned (.agg #[.func g #[] cs,.int .i64 1,.int .i64 1])∧Below w.heap.size w w':=by
 go_enter Tryz.func184,Tryz.ntmps184
 go_wp2
 simp [bodyPost,results,Tryz.results184,go_sem]
 exact one_below w _
theorem maybe_at (w:World)(g:Fn)(cs:Array Value):Calls Tryz.prog 191 #[.func g #[] cs] w fun e w'=>e=.returned (.agg #[.func g #[] cs,.int .i64 0,.int .i64 1])∧Below w.heap.size w w':=by
 go_enter Tryz.func191,Tryz.ntmps191
 go_wp2
 simp [bodyPost,results,Tryz.results191,go_sem]
 exact one_below w _
theorem many_at (w:World)(g:Fn)(cs:Array Value):Calls Tryz.prog 188 #[.func g #[] cs] w fun e w'=>e=.returned (.agg #[.func g #[] cs,.int .i64 0,.int .i64 9223372036854775807])∧Below w.heap.size w w':=by
 go_enter Tryz.func188,Tryz.ntmps188
 go_wp2
 simp [bodyPost,results,Tryz.results188,go_sem]
 exact one_below w _
theorem is_at (w:World)(q:Option Addr)(l c:Nat)(ks:List Int)(h:BV w q l c ks)(hb:l≤70000):Calls Tryz.prog 185 #[.slice q l c] w fun e w'=>(∃g cs,e=.returned (.func g #[] cs)∧FitV w' g cs (.of ks))∧Below w.heap.size w w':=by
 have H:=lh h
 clear h
 go_enter Tryz.func185,Tryz.ntmps185
 go_wp2
 go_ret
 exact ⟨⟨_,_,rfl,⟨w.heap.size,q,l,c,rfl,rfl,by simp,H.out.on (Aside.of (one_below w _)),hb⟩⟩,one_below w _⟩
end Tr
namespace Tr
open Go.RowKit Go.MapKept
theorem insert_at (W:World)(r n:Nat)(es:Array MapEntry)(k:Int)(v:Value)(hb:W.heap[r]?=some (.map es n))(hks:∀x∈es.toList,IsKey (.int .u8) x.key)(hno:∀x∈es.toList,x.key≠.int .u8 k) :
 ∃V,(Instr.mapUpdate 187 (.map (some r)) (.int .u8 k) v).run Tryz.prog W=.ok () V∧V.heap[r]?=some (.map (es.push { key:=.int .u8 k,val:=v,born:=n }) (n+1))∧Aside W V∧(∀B,B≤r→Below B W V):=by
 have hf:Instr.findNow (.int .u8) (.int .u8 k) es.toList 0=some none:=by
  rcases findNow_spec (d:=.int .u8) (k:=.int .u8 k) (by simp [IsKey]) es.toList 0 hks with ⟨h1,_⟩|⟨j,e,_,h2,h3⟩
  · exact h1
  · exact absurd h3 (hno e (List.mem_of_getElem? h2))
 have hck:(Instr.checkKey false 10000 5 (.int .u8 k)).run Tryz.prog W=.ok () W:=run_checkKey Tryz.underlying5 (by simp [IsKey]) false 9999
 have hr:r<W.heap.size:=by
  by_cases h:r<W.heap.size
  · exact h
  · rw [Array.getElem?_eq_none (by omega)] at hb;simp at hb
 have hother:∀(o:Obj) b,b≠r→({ W with heap:=W.heap.setIfInBounds r o }:World).heap[b]?=W.heap[b]?:=fun o b hne=>by
  show (W.heap.setIfInBounds r _)[b]?=_
  rw [Array.getElem?_setIfInBounds_ne (fun e=>hne e.symm)]
 refine ⟨{ W with heap:=W.heap.setIfInBounds r (.map (es.push { key:=.int .u8 k,val:=v,born:=n }) (n+1)) },?_,?_,?_,?_⟩
 · simp only [Instr.mapUpdate,Sem.run_bind,run_underlying Tryz.underlying187,Result.andThen,Go.MapKept.run_getObj_map hb,hck,run_findKey (P:=Tryz.prog) Tryz.underlying5 hf,run_setObj_map _ hb]
 · show (W.heap.setIfInBounds r _)[r]?=_
   rw [Array.getElem?_setIfInBounds_self,if_pos hr]
 · intro p u hp
   have hne:p.block≠r:=by
    intro e
    simp [World.cell?,e,hb] at hp
   rw [World.cell?_of_block (w:=W) (hother _ p.block hne)]
   exact hp
 · intro B hB
   exact ⟨rfl,rfl,rfl,by show W.heap.size≤(W.heap.setIfInBounds r _).size;simp,fun b hb=>hother _ b (by omega)⟩
theorem known_no (W:World)(r n:Nat)(es:Array MapEntry)(k:Int)(hb:W.heap[r]?=some (.map es n))(hks:∀x∈es.toList,IsKey (.int .u8) x.key)(hno:∀x∈es.toList,x.key≠.int .u8 k) :
 (Instr.lookup 187 (.map (some r)) (.int .u8 k) true).run Tryz.prog W=.ok (.tuple #[.nilFunc,.bool false]) W:=by
 have hf:Instr.findNow (.int .u8) (.int .u8 k) es.toList 0=some none:=by
  rcases findNow_spec (d:=.int .u8) (k:=.int .u8 k) (by simp [IsKey]) es.toList 0 hks with ⟨h1,_⟩|⟨j,e,_,h2,h3⟩
  · exact h1
  · exact absurd h3 (hno e (List.mem_of_getElem? h2))
 have hk:∀b,(Instr.checkKey b 10000 5 (.int .u8 k)).run Tryz.prog W=.ok () W:=fun b=>run_checkKey Tryz.underlying5 (by simp [IsKey]) b 9999
 have hz:(zeroValue 190).run Tryz.prog W=.ok .nilFunc W:=by kernel_rfl
 simp only [Instr.lookup,Sem.run_bind,run_underlying Tryz.underlying187,Result.andThen,Go.MapKept.run_getObj_map hb,hk,run_findKey (P:=Tryz.prog) Tryz.underlying5 hf,Sem.run_pure,hz]
 simp
theorem known_yes (W:World)(r n:Nat)(es:Array MapEntry)(k:Int)(hb:W.heap[r]?=some (.map es n))(hks:∀x∈es.toList,IsKey (.int .u8) x.key)(hyes:∃x∈es.toList,x.key=.int .u8 k) :
 ∃e∈es.toList,e.key=.int .u8 k∧(Instr.lookup 187 (.map (some r)) (.int .u8 k) true).run Tryz.prog W=.ok (.tuple #[e.val,.bool true]) W:=by
 rcases findNow_spec (d:=.int .u8) (k:=.int .u8 k) (by simp [IsKey]) es.toList 0 hks with ⟨_,h2⟩|⟨j,e,h1,h2,h3⟩
 · obtain ⟨x,hx,hxk⟩:=hyes
   exact absurd hxk (h2 x hx)
 · refine ⟨e,List.mem_of_getElem? h2,h3,?_⟩
   have hk:∀b,(Instr.checkKey b 10000 5 (.int .u8 k)).run Tryz.prog W=.ok () W:=fun b=>run_checkKey Tryz.underlying5 (by simp [IsKey]) b 9999
   simp only [Instr.lookup,Sem.run_bind,run_underlying Tryz.underlying187,Result.andThen,Go.MapKept.run_getObj_map hb,hk,run_findKey (P:=Tryz.prog) Tryz.underlying5 h1,Sem.run_pure]
   simp
theorem bv_new (W:World)(cells:Array Value)(xs:List Int)(n:Nat)(hn:n=xs.length)(hc:cells=(xs.map (Value.int .u8)).toArray):BV (W.alloc (.cells cells 5)) (some ⟨W.heap.size,0,none⟩) n n xs where
 len_eq:=hn.symm
 cap:=Nat.le_refl _
 cell:=fun _=>⟨W.heap.size,0,rfl,fun i hi=>by
  rw [World.cell?_alloc_at _ _ _ _ rfl,hc]
  simp [List.getD,show i<xs.length by omega]⟩
section
variable {P:Program}{ops:Array Oper}{Q:Exit→Act→World→Prop}{md:Region.Mode}
def openN (l:List Bool):Nat:=l.countP (·==false)
theorem openN_set (l:List Bool)(i:Nat)(h:l[i]?=some false):openN l=openN (l.set i true)+1:=by
 induction l generalizing i with
 | nil=>simp at h
 | cons b l ih =>
  cases i with
  | zero =>
   simp only [List.getElem?_cons_zero,Option.some.injEq] at h
   subst h
   simp [openN]
  | succ i =>
   simp only [List.getElem?_cons_succ] at h
   have:=ih i h
   simp only [openN,List.set_cons_succ,List.countP_cons] at this ⊢
   omega
theorem wpAny_inv (Inv:Array Bool→Act→World→Prop)(hlow:∀i o,ops[i]?=some o→∀e∈o.after,Region.binds md e=true→e.on<i)
 (hstep : ∀ listed a w i o, listed.size = ops.size → Inv listed a w → ops[i]? = some o → listed.getD i true = false → (∀ e ∈ o.after, Region.binds md e = true → listed.getD e.on false = true) →
  wpOp P ops Q i (fun a' w'=>Inv (listed.setIfInBounds i true) a' w') a w)
 (hdone:∀listed a w,listed.size=ops.size→(∀i,i<ops.size→listed.getD i false=true)→Inv listed a w→Q .normal a w) :
 ∀(fuel:Nat) (listed:Array Bool) (a:Act) (w:World),listed.size=ops.size→openN listed.toList=fuel→Inv listed a w→wpAny P md ops Q fuel listed a w:=by
 have hempty:∀listed:Array Bool,listed.size=ops.size→Region.ready md ops listed=[]→∀i,i<ops.size→listed.getD i false=true:=by
  intro listed hs hr i
  induction i using Nat.strongRecOn with
  | ind i ih =>
   intro hi
   by_cases hl:listed.getD i false=true
   · exact hl
   · exfalso
     have:i∈Region.ready md ops listed:=mem_ready.2 ⟨by
      have hi':i<listed.size:=by omega
      simp [Array.getD,hi'] at hl ⊢
      exact hl,ops[i],by simp [hi],fun e he hb=>ih e.on (hlow i ops[i] (by simp [hi]) e he hb) (Nat.lt_trans (hlow i ops[i] (by simp [hi]) e he hb) hi)⟩
     rw [hr] at this
     simp at this
 intro fuel
 induction fuel with
 | zero =>
  intro listed a w hs hn hI
  have hall:∀i,i<ops.size→listed.getD i false=true:=by
   intro i hi
   have hi':i<listed.toList.length:=by simp;omega
   have h0:=List.countP_eq_zero.1 hn listed.toList[i] (List.getElem_mem hi')
   have hi2:i<listed.size:=by omega
   simp [Array.getD,hi2] at h0 ⊢
   exact h0
  refine ⟨?_,hdone listed a w hs hall hI⟩
  rw [List.eq_nil_iff_forall_not_mem]
  intro i hi
  obtain ⟨h1,o,h2,_⟩:=mem_ready.1 hi
  have hlt:i<ops.size:=by
   by_cases h:i<ops.size
   · exact h
   · rw [Array.getElem?_eq_none (by omega)] at h2;simp at h2
  have h3:=hall i hlt
  have hi':i<listed.size:=by omega
  simp [Array.getD,hi'] at h1 h3
  rw [h1] at h3
  simp at h3
 | succ fuel ih =>
  intro listed a w hs hn hI
  refine ⟨fun hr=>hdone listed a w hs (hempty listed hs hr) hI,fun i hi=>?_⟩
  obtain ⟨h1,o,h2,h3⟩:=mem_ready.1 hi
  refine wpOp_mono (fun a' w' hI'=>ih _ _ _ (by simpa using hs) ?_ hI') (hstep listed a w i o hs hI h2 h1 h3)
  have hlt:i<listed.size:=by
   rw [hs]
   by_cases h:i<ops.size
   · exact h
   · rw [Array.getElem?_eq_none (by omega)] at h2;simp at h2
  have h4:listed.toList[i]?=some false:=by
   simp [Array.getD,hlt] at h1
   simp [hlt,h1]
  have:=openN_set _ _ h4
  rw [Array.toList_setIfInBounds]
  omega
theorem openN_start (n:Nat):openN (Array.replicate n false).toList=n:=by simp [openN,List.countP_replicate]
end
end Tr
section
open Go.RowKit
theorem rec_idle (p q r:Addr)(w:World) :
 CallsD Tryz.prog 71 #[.pointer (some p),.pointer (some q),.pointer (some r)] .returning w fun e u' w'=>e=.returned (.tuple #[])∧u'=.returning∧w'=w:=by
 refine callsD_of_wpS Tryz.func71 rfl fun c₀ cs hu=>?_
 apply wpS_seq
 apply wpS_region
 simp [wpOpsS,go_sem,recoverD,hu,Tryz.ntmps71,Exit.thenS]
 refine wpS_of_wp ?_
 simp only [Array.replicate_succ,Array.replicate_zero,List.push_toArray,List.append_toArray,List.nil_append,List.cons_append,List.setIfInBounds_toArray,List.set_cons_zero,List.set_cons_succ]
 go_wp2_with fail
 cases c₀
 simp_all [bodyPostS,results,Tryz.results71]
theorem is_wrong (v:Value)(w:World):(Instr.typeAssert (.iface 121 v) 20 121 true).run Tryz.prog w=.ok (.tuple #[v,.bool true]) w:=by
 simp [Instr.typeAssert,Sem.run_bind,run_underlying Tryz.underlying121,Result.andThen]
theorem rec_wrong (B:Nat)(bs bt be:Nat)(sp:Option Addr)(len c:Nat)(xs:List Int)(k:Nat)(code:Int)(vt ve:Value)(w:World)(hs:w.cell? ⟨bs,0,none⟩=some (.slice sp len c))(hsrc:Src w sp len c xs)(hlen:len≤65536)(hk:k≤len)(hc:code≠0)
 (ht:Boxed w bt 39 vt) (he:Boxed w be 25 ve) (hte:bt≠be) (hB1:B≤bt) (hB2:B≤be) :
 CallsD Tryz.prog 71 #[.pointer (some ⟨bs,0,none⟩),.pointer (some ⟨bt,0,none⟩),.pointer (some ⟨be,0,none⟩)] (.panicking [{ v:=.iface 121 (.agg #[.int .i64 (k:Int),.int .i64 code]),recovered:=false }]) w fun e u' w' =>
  e=.returned (.tuple #[])∧u'=.panicking [{ v:=.iface 121 (.agg #[.int .i64 (k:Int),.int .i64 code]),recovered:=true }]∧∃C l cc,Boxed w' bt 39 (.slice none 0 0)∧Boxed w' be 25 (.iface 109 (.pointer (some ⟨C,0,none⟩)))∧ErrAt w' C (k:Int) l cc code∧Below B w w':=by
 have hta:=is_wrong
 have hs2:(w.alloc (.cells #[.int .i64 (k:Int),.int .i64 code] 121)).cell? ⟨bs,0,none⟩=some (.slice sp len c):=(World.cell?_alloc_lt _ _ ⟨bs,0,none⟩ (cell_lt hs)).trans hs
 have htc:=ht.cell
 have htz:=ht.frozen
 have hec:=he.cell
 have hez:=he.frozen
 have htl:=ht.lt
 have hel:=he.lt
 have hBw:B≤w.heap.size:=by omega
 have NW:=lh (new_src sp len c k xs (k:Int) code (w.alloc (.cells #[.int .i64 (k:Int),.int .i64 code] 121)) hc (by omega) (by omega) (hsrc.below ((Below.refl _ _).alloc (Nat.le_refl _) _)))
 have HT:=lh ht
 have HE:=lh he
 clear ht he hsrc
 refine callsD_of_wpS Tryz.func71 rfl fun c₀ cs hu=>?_
 apply wpS_seq
 apply wpS_region
 simp [wpOpsS,go_sem,recoverD,hu,Tryz.ntmps71,Exit.thenS]
 refine wpS_of_wp ?_
 simp only [Array.replicate_succ,Array.replicate_zero,List.push_toArray,List.append_toArray,List.nil_append,List.cons_append,List.setIfInBounds_toArray,List.set_cons_zero,List.set_cons_succ]
 go_wp2_with fail
 (with_reducible refine NW.out.mono ?_)
 rintro e w' ⟨rfl,hN⟩
 have hb:=hN.below
 have hal:Below w.heap.size w (w.alloc (.cells #[.int .i64 (k:Int),.int .i64 code] 121)):=(Below.refl _ _).alloc (Nat.le_refl _) _
 have hbb:Below w.heap.size w w':=hal.trans (hb.mono hal.size)
 have bt1:Boxed w' bt 39 vt:=(hbb.block bt htl).trans HT.out
 have be1:Boxed w' be 25 ve:=(hbb.block be hel).trans HE.out
 have d1:=bt1.cell
 have d2:=bt1.frozen
 have d3:=be1.cell
 have d4:=be1.frozen
 have hne1:¬ bt=be:=hte
 have hne2:¬ be=bt:=fun e=>hte e.symm
 have HN:=lh hN
 have bt2:=bt1.set (.slice none 0 0)
 have be2:=(be1.kept (grownBy_set w' ⟨bt,0,none⟩ (.slice none 0 0)) (fun e=>hne2 (Option.some.inj e))).set (.iface 109 (.pointer (some ⟨(w.alloc (.cells #[.int .i64 (k:Int),.int .i64 code] 121)).heap.size+1,0,none⟩)))
 have bt3:=bt2.kept (grownBy_set (w'.setCell ⟨bt,0,none⟩ (.slice none 0 0)) ⟨be,0,none⟩ (.iface 109 (.pointer (some ⟨(w.alloc (.cells #[.int .i64 (k:Int),.int .i64 code] 121)).heap.size+1,0,none⟩)))) (fun e=>hne1 (Option.some.inj e))
 have hEA:ErrAt ((w'.setCell ⟨bt,0,none⟩ (.slice none 0 0)).setCell ⟨be,0,none⟩ (.iface 109 (.pointer (some ⟨(w.alloc (.cells #[.int .i64 (k:Int),.int .i64 code] 121)).heap.size+1,0,none⟩)))) ((w.alloc (.cells #[.int .i64 (k:Int),.int .i64 code] 121)).heap.size+1) (k:Int) (lineF xs k) ((k:Int)-lastF xs k) code:=by
  have h1:=hN.at_
  have hq:∀i,((w'.setCell ⟨bt,0,none⟩ (.slice none 0 0)).setCell ⟨be,0,none⟩ (.iface 109 (.pointer (some ⟨(w.alloc (.cells #[.int .i64 (k:Int),.int .i64 code] 121)).heap.size+1,0,none⟩)))).cell? ⟨(w.alloc (.cells #[.int .i64 (k:Int),.int .i64 code] 121)).heap.size+1,i,none⟩=w'.cell? ⟨(w.alloc (.cells #[.int .i64 (k:Int),.int .i64 code] 121)).heap.size+1,i,none⟩:=fun i=>by
   rw [World.cell?_setCell_other _ _ _ _ (by first|(simp;done)|(simp;omega)),World.cell?_setCell_other _ _ _ _ (by first|(simp;done)|(simp;omega))]
  exact ⟨by have:=h1.lt;simpa [World.setCell] using this,by rw [hq];exact h1.c0,by rw [hq];exact h1.c1,by rw [hq];exact h1.c2,by rw [hq];exact h1.c3⟩
 have HEA:=lh hEA
 have BT3:=lh bt3
 have BE2:=lh be2
 have hfb:Below B w ((w'.setCell ⟨bt,0,none⟩ (.slice none 0 0)).setCell ⟨be,0,none⟩ (.iface 109 (.pointer (some ⟨(w.alloc (.cells #[.int .i64 (k:Int),.int .i64 code] 121)).heap.size+1,0,none⟩)))):=((hbb.mono hBw).setCell (p:=⟨bt,0,none⟩) hB1 _).setCell (p:=⟨be,0,none⟩) hB2 _
 clear hN bt1 be1 bt2 be2 bt3 hEA NW
 go_wp2_with fail
 have hsz:(w.alloc (.cells #[.int .i64 (k:Int),.int .i64 code] 121)).heap.size=w.heap.size+1:=by simp
 have h1:=BT3.out
 have h2:=BE2.out
 have h3:=HEA.out
 rw [hsz] at h1 h2 h3 hfb
 exact ⟨rfl,_,rfl,.tuple #[],by simp [results,Tryz.results71,Tryz.f71,go_sem],rfl,rfl,h1,_,h2,⟨_,_,h3⟩,hfb⟩
end
section
open Go.RowKit
def ParsePost (xs:List Int)(w:World)(e:Ending)(w':World):Prop:=Below w.heap.size w w'∧match parseS xs with
 | .error (i,er)=>∃C l cc,e=.returned (.tuple #[.agg #[.slice none 0 0],.iface 109 (.pointer (some ⟨C,0,none⟩))])∧ErrAt w' C (i:Int) l cc er
 | .ok ns=>∃p len cap,e=.returned (.tuple #[.agg #[.slice p len cap],.nilIface])∧Tr.TV w' p len cap ns
abbrev W3 (w:World)(p:Option Addr)(len c:Nat):World:=((w.alloc (.cells #[.slice p len c] 22)).alloc (.cells #[.slice none 0 0] 39)).alloc (.cells #[.nilIface] 25)
theorem W3_below (w:World)(p:Option Addr)(len c:Nat):Below w.heap.size w (W3 w p len c):=(((Below.refl _ _).alloc (Nat.le_refl _) _).alloc (by simp) _).alloc (by simp;omega) _
theorem W3_size (w:World)(p:Option Addr)(len c:Nat):(W3 w p len c).heap.size=w.heap.size+1+1+1:=by simp [W3]
theorem W3_boxes (w:World)(p:Option Addr)(len c:Nat):Boxed (W3 w p len c) w.heap.size 22 (.slice p len c)∧Boxed (W3 w p len c) (w.heap.size+1) 39 (.slice none 0 0)∧Boxed (W3 w p len c) (w.heap.size+1+1) 25 .nilIface:=by
 refine ⟨((Boxed.new w _ _).alloc _).alloc _,?_,?_⟩
 · have h:=(Boxed.new (w.alloc (.cells #[.slice p len c] 22)) 39 (.slice none 0 0)).alloc (.cells #[.nilIface] 25)
   rw [World.size_alloc] at h
   exact h
 · have h:=Boxed.new ((w.alloc (.cells #[.slice p len c] 22)).alloc (.cells #[.slice none 0 0] 39)) 25 .nilIface
   simp only [World.size_alloc] at h
   exact h
theorem ErrAt.ne {W:World}{C q T:Nat}{u:Value}{x l c n:Int}(h:ErrAt W C x l c n)(hb:Boxed W q T u):C≠q:=fun e=>by
 have h1:=h.c1
 have h2:W.heap[q]?=some (.cells #[u] T (0,0)):=hb
 rw [e,cell_of_row _ _ _ _ _ _ h2] at h1
 simp at h1
theorem ErrAt.put {W:World}{C q:Nat}{u:Value}{x l c n:Int}(h:ErrAt W C x l c n)(hne:C≠q):ErrAt (W.setCell ⟨q,0,none⟩ u) C x l c n:=by
 have hq:∀i,(W.setCell ⟨q,0,none⟩ u).cell? ⟨C,i,none⟩=W.cell? ⟨C,i,none⟩:=fun i=>World.cell?_of_block (w:=W) (Below.heap_setCell _ _ _ _ hne)
 exact ⟨by have:=h.lt;simpa [World.setCell] using this,by rw [hq];exact h.c0,by rw [hq];exact h.c1,by rw [hq];exact h.c2,by rw [hq];exact h.c3⟩
theorem parse_lex (w:World)(p:Option Addr)(len c:Nat)(xs:List Int)(h:Src w p len c xs)(hb:len≤65536)(i:Nat)(er:Int)(hx:lexS xs=.error (i,er)) :
 Calls Tryz.prog 31 #[.slice p len c] w (ParsePost xs w):=by
 have LN:=lh (lex_no (h.below (W3_below w p len c)) hb hx)
 have HX:Hid (parseS xs=.error (i,er)):=lh (by simp only [parseS,hx])
 obtain ⟨b1,b2,b3⟩:=W3_boxes w p len c
 have B1:=lh b1
 have B2:=lh b2
 have B3:=lh b3
 have hsz:=W3_size w p len c
 have HSZ:=lh hsz
 clear h hx b1 b2 b3 hsz
 go_enter_defers Tryz.func31,Tryz.ntmps31
 go_wp2_with fail
 (with_reducible refine LN.out.mono ?_)
 rintro e w4 ⟨C,l,cc,rfl,hE,hb4⟩
 have c1:Boxed w4 w.heap.size 22 (.slice p len c):=(hb4.block _ B1.out.lt).trans B1.out
 have c2:Boxed w4 (w.heap.size+1) 39 (.slice none 0 0):=(hb4.block _ B2.out.lt).trans B2.out
 have c3:Boxed w4 (w.heap.size+1+1) 25 .nilIface:=(hb4.block _ B3.out.lt).trans B3.out
 have d2:=c2.cell
 have z2:=c2.frozen
 have d3:=c3.cell
 have z3:=c3.frozen
 have hn2:=hE.ne c2
 have hn3:=hE.ne c3
 have hF:=((hE.put (u:=.iface 109 (.pointer (some ⟨C,0,none⟩))) hn3).put (u:=.slice none 0 0) hn2).put (u:=.iface 109 (.pointer (some ⟨C,0,none⟩))) hn3
 have HF:=lh hF
 have hfb:Below w.heap.size w (((w4.setCell ⟨w.heap.size+1+1,0,none⟩ (.iface 109 (.pointer (some ⟨C,0,none⟩)))).setCell ⟨w.heap.size+1,0,none⟩ (.slice none 0 0)).setCell ⟨w.heap.size+1+1,0,none⟩ (.iface 109 (.pointer (some ⟨C,0,none⟩)))) :=
  ((((W3_below w p len c).trans (hb4.mono (W3_below w p len c).size)).setCell (p:=⟨w.heap.size+1+1,0,none⟩) (by simp only;omega) _).setCell (p:=⟨w.heap.size+1,0,none⟩) (by simp only;omega) _).setCell (p:=⟨w.heap.size+1+1,0,none⟩) (by simp only;omega) _
 have HFB:=lh hfb
 clear hF hfb
 clear hE hb4 c1 c2 c3 LN
 go_wp2_with fail
 go_region
 all_goals go_wp2_with fail
 all_goals simp [bodyPostD,Leaves,results,Tryz.results31,go_sem,d2,d3]
 all_goals
  refine ⟨HFB.out.drew,?_⟩
  rw [HX.out]
  exact ⟨C,l,cc,rfl,⟨HF.out.lt,HF.out.c0,HF.out.c1,HF.out.c2,HF.out.c3⟩⟩
theorem PS.begin (w4 w5:World)(g cap:Nat)(ts:List Tok)(rb b:Nat)(xs:List Int)(hT:TR w4 g cap ts)(hg5:w5.heap[g]?=w4.heap[g]?)(hs5:w5.heap.size=w4.heap.size)(hrb:rb=w4.heap.size)(hbb:b=rb+1)(hx:lexS xs=.ok ts)(hb:xs.length≤65536) :
 PS { W:=w5.alloc (.map ES13 13),b:=b,g:=g,cap:=cap,toks:=ts,mp:=.map (some rb) } (.slice none 0 0) [] [] 64 (ts.map ptOf) ((w5.alloc (.map ES13 13)).alloc (.cells #[.slice (some ⟨g,0,none⟩) ts.length cap,.int .i64 0,.int .i64 0,.map (some rb),.slice none 0 0] 125))∧MapAt { W:=w5.alloc (.map ES13 13),b:=b,g:=g,cap:=cap,toks:=ts,mp:=.map (some rb) }:=by
 obtain ⟨vs,hts,hvs⟩:=lexS_shape hx
 have hlen:=lexN_len _ _ _ _ hx
 have hbs:b=(w5.alloc (.map ES13 13)).heap.size:=by simp;omega
 have hgl:=hT.lt
 refine ⟨{ below:=?_,lt:=?_,gl:=by simp only;omega,cap:=hT.le,tok:=?_,nx:=?_,r64:=Nat.le_refl _,ended:=?_,few:=?_,room:=?_,klen:=rfl,own:=World.ownsRow_nil _ _ _ _,kids:=fun j hj=>by simp at hj,apart:=fun x hx=>by simp at hx,pair:=List.Pairwise.nil },⟨rb,rfl,by simp only;omega,?_⟩⟩
 · simp only
   rw [hbs]
   exact (Below.refl _ _).alloc (Nat.le_refl _) _
 · simp only
   rw [hbs]
   simp
 · intro j i u hj hi
   have h5:i<5:=by have:=(List.getElem?_eq_some_iff.1 hi).1;simpa [tokC5] using this
   have h1:ts[j]?=some (ts.getD j (Tok.endAt 0)):=by simp only at hj;simp [List.getD,hj]
   have h2:=hT.cell (j*5+i) u (by rw [tok_cell ts j i _ h1 h5];exact hi)
   simp only
   rw [World.cell?_of_block (w:=w4) (a:=⟨g,j*5+i,none⟩) ?_]
   · exact h2
   · rw [Below.heap_alloc _ _ _ (by simp;omega),Below.heap_alloc _ _ _ (by simp only;omega)]
     exact hg5
 · refine ⟨0,rfl,?_⟩
   simp only
   rw [hbs,World.alloc_heap_new]
   rfl
 · rw [hts,List.map_append]
   exact ended_snoc _ _ (end_pt _)
 · simp only;omega
 · simp only [List.length_nil,List.length_map];omega
 · simp only
   rw [hrb,← hs5]
   exact World.alloc_heap_new w5 _
theorem parse_run (w:World)(p:Option Addr)(len c:Nat)(xs:List Int)(h:Src w p len c xs)(hb:len≤65536)(ts:List Tok)(hx:lexS xs=.ok ts) :
 Calls Tryz.prog 31 #[.slice p len c] w (ParsePost xs w):=by
 have hmf:∀(fn:Fn) (first cap:Array Value) (w:World),(Instr.makeFunc fn first cap).run Tryz.prog w=.ok (.func fn first cap) w:=fun _ _ _ _=>rfl
 have LK:=lh (lex_ok (h.below (W3_below w p len c)) hb hx)
 have HXS:=lh hx
 have HS:=lh h
 have hlx:Hid (xs.length=len):=lh h.1
 obtain ⟨b1,b2,b3⟩:=W3_boxes w p len c
 have B1:=lh b1
 have B2:=lh b2
 have B3:=lh b3
 have HSZ:=lh (W3_size w p len c)
 clear h hx b1 b2 b3
 go_enter_defers Tryz.func31,Tryz.ntmps31
 go_wp2_with fail
 (with_reducible refine LK.out.mono ?_)
 rintro e w4 ⟨g,cap,rfl,hT,hg,hb4⟩
 have c1:Boxed w4 w.heap.size 22 (.slice p len c):=(hb4.block _ B1.out.lt).trans B1.out
 have c2:Boxed w4 (w.heap.size+1) 39 (.slice none 0 0):=(hb4.block _ B2.out.lt).trans B2.out
 have c3:Boxed w4 (w.heap.size+1+1) 25 .nilIface:=(hb4.block _ B3.out.lt).trans B3.out
 have d3:=c3.cell
 have z3:=c3.frozen
 have HB4:=lh hb4
 have HT:=lh hT
 have HG:=lh hg
 have hn1:¬ w.heap.size=w.heap.size+1+1:=by omega
 have C1:=lh (c1.kept (grownBy_set w4 ⟨w.heap.size+1+1,0,none⟩ .nilIface) (fun e=>by have e:=Option.some.inj e;simp only at e;omega))
 have C2:=lh (c2.kept (grownBy_set w4 ⟨w.heap.size+1+1,0,none⟩ .nilIface) (fun e=>by have e:=Option.some.inj e;simp only at e;omega))
 have C3:=lh (c3.set .nilIface)
 have ST:=lh (statements_at (w4.setCell ⟨w.heap.size+1+1,0,none⟩ .nilIface))
 have hP:=PS.begin w4 (w4.setCell ⟨w.heap.size+1+1,0,none⟩ .nilIface) g cap ts w4.heap.size (w4.heap.size+1) xs hT (Below.heap_setCell _ _ _ _ (by have:=HSZ.out;simp only;omega)) (by simp [World.setCell]) rfl rfl HXS.out (by have:=hlx.out;omega)
 have HP:=lh hP.1
 have HM:=lh hP.2
 clear hT hg hb4 c1 c2 c3 LK hP
 go_wp2_with fail
 (with_reducible refine ST.out.mono ?_)
 rintro e w6 ⟨rfl,rfl⟩
 clear d3 z3 ST
 have hsz5:(w4.setCell ⟨w.heap.size+1+1,0,none⟩ .nilIface).heap.size=w4.heap.size:=by simp [World.setCell]
 go_wp2_with fail
 obtain ⟨E,hE⟩:∃E:Env,E={ W:=(w4.setCell ⟨w.heap.size+1+1,0,none⟩ .nilIface).alloc (.map ES13 13),b:=w4.heap.size+1,g:=g,cap:=cap,toks:=ts,mp:=.map (some w4.heap.size) }:=⟨_,rfl⟩
 rw [← hE] at HP HM
 have hEb:E.b=w4.heap.size+1:=by rw [hE]
 have hEW:E.W=(w4.setCell ⟨w.heap.size+1+1,0,none⟩ .nilIface).alloc (.map ES13 13):=by rw [hE]
 have hptl:(ts.map ptOf).length≤65537:=by have h1:=lexN_len _ _ _ _ HXS.out;have h2:=hlx.out;rw [List.length_map];omega
 have PG:=lh (program_at HP.out HM.out (by simp only [List.length_nil];omega))
 rw [hEb] at PG
 have HEB:=lh hEb
 have HEW:=lh hEW
 have hs4:w.heap.size+1+1+1≤w4.heap.size:=by have h1:=HB4.out.size;have h2:=HSZ.out;omega
 have HSB:Hid (Below w.heap.size w E.W):=lh (by
  rw [HEW.out]
  exact (((W3_below w p len c).trans (HB4.out.mono (W3_below w p len c).size)).setCell (p:=⟨w.heap.size+1+1,0,none⟩) (by simp only;omega) _).alloc (by rw [hsz5];omega) _)
 have HWS:Hid (E.W.heap.size=w4.heap.size+1):=lh (by rw [HEW.out];simp)
 have K1:=lh (show Boxed E.W w.heap.size 22 (.slice p len c) by rw [HEW.out];exact C1.out.alloc _)
 have K2:=lh (show Boxed E.W (w.heap.size+1) 39 (.slice none 0 0) by rw [HEW.out];exact C2.out.alloc _)
 have K3:=lh (show Boxed E.W (w.heap.size+1+1) 25 .nilIface by rw [HEW.out];exact C3.out.alloc _)
 clear hE hEb hEW HP HM hsz5 C1 C2 C3 HT HG HB4
 (with_reducible refine PG.out.mono ?_)
 rintro e w8 hP8
 cases hp:programP (ts.map ptOf) with
 | err q d =>
  rw [hp] at hP8
  obtain ⟨rfl,hb8⟩:=hP8
  have HR:Hid (parseS xs=.error (q,d)):=lh (by simp only [parseS,HXS.out,hp])
  obtain ⟨hd0,hq0⟩:=ce_program.er _ _ _ hp
  have hql:q≤len:=by
   rcases hq0 with rfl|⟨t,ht,rfl⟩
   · exact Nat.zero_le _
   · obtain ⟨vs,hts,hvs⟩:=lexS_shape HXS.out
     rw [hts,List.map_append,List.mem_append] at ht
     rcases ht with ht|ht
     · obtain ⟨u,hu,rfl⟩:=List.mem_map.1 ht
       have h1:=(hvs u hu).2
       have h2:=hlx.out
       show u.at'≤len
       omega
     · simp only [List.map_cons,List.map_nil,List.mem_singleton] at ht
       subst ht
       have h2:=hlx.out
       show xs.length≤len
       omega
  rw [HEB.out] at hb8
  have hb8w:Below w.heap.size w w8:=HSB.out.trans (hb8.mono (by omega))
  have k1:Boxed w8 w.heap.size 22 (.slice p len c):=(hb8.block _ (by omega)).trans K1.out
  have k2:Boxed w8 (w.heap.size+1) 39 (.slice none 0 0):=(hb8.block _ (by omega)).trans K2.out
  have k3:Boxed w8 (w.heap.size+1+1) 25 .nilIface:=(hb8.block _ (by omega)).trans K3.out
  have RW:=lh (rec_wrong w.heap.size w.heap.size (w.heap.size+1) (w.heap.size+1+1) p len c xs q d _ _ w8 k1.cell (HS.out.below hb8w) hb hql hd0 k2 k3 (by omega) (by omega) (by omega))
  have HB8:=lh hb8w
  clear hb8 hb8w k1 k2 k3 hp
  go_wp2_with fail
  refine leaves_cons (f := 71) (args:=#[.pointer (some ⟨w.heap.size,0,none⟩),.pointer (some ⟨w.heap.size+1,0,none⟩),.pointer (some ⟨w.heap.size+1+1,0,none⟩)]) (by simp) (by simp [go_sem]) ?_
  refine RW.out.mono ?_
  rintro e u' w9 ⟨rfl,rfl,C,l,cc,r2,r3,hEA,hb9⟩
  have d2:=r2.cell
  have d3:=r3.cell
  have hfin:Hid (ParsePost xs w (.returned (.tuple #[.agg #[.slice none 0 0],.iface 109 (.pointer (some ⟨C,0,none⟩))])) w9):=lh (by
   refine ⟨HB8.out.trans hb9,?_⟩
   rw [HR.out]
   exact ⟨C,l,cc,rfl,hEA⟩)
  clear r2 r3 hEA hb9
  simp [Leaves,settle,results,Tryz.results31,go_sem,d2,d3]
  exact hfin.out
 | ok a l1 =>
  rw [hp] at hP8
  obtain ⟨v',new,rfl,hps,hnw,hfr⟩:=hP8
  have HR:Hid (parseS xs=.ok (flat 0 a)):=lh (by simp only [parseS,HXS.out,hp])
  obtain ⟨_,_,_,_,_,_,c4⟩:=hps.cells
  have hmade:Made (E.b+1) w8 v' new (post 0 a):={
   base:=hps.lt
   own:=by simpa using hps.own
   klen:=by simpa using hps.klen
   kids:=fun j hj=>by simpa using hps.kids j (by simpa using hj)
   apart:=by simpa using hps.apart
   pair:=by simpa using hps.pair
   few:=by have:=hps.room;simp at this;omega }
  have FL:=flat_at (E.b+1) v' new a w8 hmade
  have hroot:rootI ([]:List Nd).length a=(a.size:Int)-1:=by simp [rootI]
  have hb8:=hps.below
  rw [HEB.out] at hb8 FL c4
  have hlt8:=hps.lt
  rw [HEB.out] at hlt8
  have hb8w:Below w.heap.size w w8:=HSB.out.trans (hb8.mono (by omega))
  have k2:Boxed w8 (w.heap.size+1) 39 (.slice none 0 0):=(hb8.block _ (by omega)).trans K2.out
  have k3:Boxed w8 (w.heap.size+1+1) 25 .nilIface:=(hb8.block _ (by omega)).trans K3.out
  have FLH:=lh FL
  have KK2:=lh k2
  have KK3:=lh k3
  have HB8:=lh hb8w
  have hr2:(.int .i64 (rootI ([]:List Nd).length a):Value)=.int .i64 ((a.size:Int)-1):=by rw [hroot]
  rw [hr2]
  clear hps hnw hfr hmade FL hroot hb8 hb8w k2 k3 hp hr2
  go_wp2_with fail
  (with_reducible refine FLH.out.mono ?_)
  rintro e w9 ⟨p9,l9,c9,rfl,hTV,hb9⟩
  have k2:Boxed w9 (w.heap.size+1) 39 (.slice none 0 0):=(hb9.block _ (by omega)).trans KK2.out
  have k3:Boxed w9 (w.heap.size+1+1) 25 .nilIface:=(hb9.block _ (by omega)).trans KK3.out
  have d2:=k2.cell
  have z2:=k2.frozen
  have d3:=k3.cell
  have z3:=k3.frozen
  have hfin:Hid (ParsePost xs w (.returned (.tuple #[.agg #[.slice p9 l9 c9],.nilIface])) ((w9.setCell ⟨w.heap.size+1,0,none⟩ (.slice p9 l9 c9)).setCell ⟨w.heap.size+1+1,0,none⟩ .nilIface)):=lh (by
   refine ⟨((HB8.out.trans (hb9.mono (by omega))).setCell (p:=⟨w.heap.size+1,0,none⟩) (by simp only;omega) _).setCell (p:=⟨w.heap.size+1+1,0,none⟩) (by simp only;omega) _,?_⟩
   rw [HR.out]
   exact ⟨p9,l9,c9,rfl,hTV _ (fun k hk=>by rw [Below.heap_setCell _ _ _ _ (by simp only;omega),Below.heap_setCell _ _ _ _ (by simp only;omega)])⟩)
  have RI:=lh (rec_idle ⟨w.heap.size,0,none⟩ ⟨w.heap.size+1,0,none⟩ ⟨w.heap.size+1+1,0,none⟩ ((w9.setCell ⟨w.heap.size+1,0,none⟩ (.slice p9 l9 c9)).setCell ⟨w.heap.size+1+1,0,none⟩ .nilIface))
  clear k2 k3 hTV hb9 FLH
  go_wp2_with fail
  refine leaves_cons (f := 71) (args:=#[.pointer (some ⟨w.heap.size,0,none⟩),.pointer (some ⟨w.heap.size+1,0,none⟩),.pointer (some ⟨w.heap.size+1+1,0,none⟩)]) (by simp) (by simp [go_sem]) ?_
  refine RI.out.mono ?_
  rintro e u' w'' ⟨rfl,rfl,rfl⟩
  simp [Leaves,settle,results,Tryz.results31,go_sem,d2,d3]
  exact hfin.out
theorem parse_at (w:World)(p:Option Addr)(len c:Nat)(xs:List Int)(h:Src w p len c xs)(hb:len≤65536):Calls Tryz.prog 31 #[.slice p len c] w (ParsePost xs w):=by
 cases hx:lexS xs with
 | error e=>exact parse_lex w p len c xs h hb e.1 e.2 hx
 | ok ts=>exact parse_run w p len c xs h hb ts hx
end
end Go.Proofs.YthdioipfdbbmmaaGreatDoor
