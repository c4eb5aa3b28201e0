/- Contracts. -/
import Derived.Test.YthdioipfdbbmmaaGreatDoorKab
import Derived.Test.YthdioipfdbbmmaaGreatDoorKac
import Derived.Test.YthdioipfdbbmmaaGreatDoorProg
import Derived.WalkKit
import Derived.Handy
import Derived.Below
import Derived.Carry
import Derived.MapKept
import Derived.Lib.Hide
import Derived.Deep.QuietTactic
import Derived.BigQuiet
import Derived.Lib.Bytes
set_option linter.all false
set_option maxRecDepth 1000000
set_option maxHeartbeats 16000000
namespace Go.Proofs.YthdioipfdbbmmaaGreatDoor
namespace Tr
open Go.RowKit Go.MapKept
theorem insert_new (w:World)(es:Array MapEntry)(n:Nat)(k:Int)(v:Value)(h:Instr.findNow (.int .u8) (.int .u8 k) es.toList 0=some none) :
 (Instr.mapUpdate 150 (.map (some w.heap.size)) (.int .u8 k) v).run Tryz.prog (w.alloc (.map es n))=.ok () (w.alloc (.map (es.push { key:=.int .u8 k,val:=v,born:=n }) (n+1))):=by
 have hb:(w.alloc (.map es n)).heap[w.heap.size]?=some (.map es n):=by
  show (w.heap.push (.map es n))[w.heap.size]?=_
  simp
 have hk:(Instr.checkKey false 10000 147 (.int .u8 k)).run Tryz.prog (w.alloc (.map es n))=.ok () (w.alloc (.map es n)):=run_checkKey Tryz.underlying147 (by simp [IsKey]) false 9999
 have hp:∀(a:Array Obj) (x y:Obj),(a.push x).setIfInBounds a.size y=a.push y:=fun a x y=>by
  apply Array.ext_getElem?
  intro i
  by_cases h:i=a.size
  · subst h;simp
  · have h':¬ a.size=i:=fun e=>h e.symm
    simp [Array.getElem?_push,h,h']
 have hw:∀o:Obj,({ w.alloc (.map es n) with heap:=(w.alloc (.map es n)).heap.setIfInBounds w.heap.size o }:World)=w.alloc o:=fun o=>by
  show ({ w with heap:=(w.heap.push (.map es n)).setIfInBounds w.heap.size o }:World)=_
  rw [hp]
  rfl
 simp only [Instr.mapUpdate,Sem.run_bind,run_underlying Tryz.underlying150,Result.andThen,Go.MapKept.run_getObj_map hb,hk,run_findKey (P:=Tryz.prog) Tryz.underlying147 h,run_setObj_map _ hb,hw]
theorem lookup_at (W:World)(r:Nat)(es:Array MapEntry)(n i:Nat)(k:Int)(v:Value)(hb:W.heap[r]?=some (.map es n))(h:Instr.findNow (.int .u8) (.int .u8 k) es.toList 0=some (some (i,v))) :
 (Instr.lookup 150 (.map (some r)) (.int .u8 k) false).run Tryz.prog W=.ok v W:=by
 have hk:∀b,(Instr.checkKey b 10000 147 (.int .u8 k)).run Tryz.prog W=.ok () W:=fun b=>run_checkKey Tryz.underlying147 (by simp [IsKey]) b 9999
 simp only [Instr.lookup,Sem.run_bind,run_underlying Tryz.underlying150,Result.andThen,Go.MapKept.run_getObj_map hb,hk,run_findKey (P:=Tryz.prog) Tryz.underlying147 h,Sem.run_pure]
 simp
def mem (k:Int):ByteArray :=
 if k=1 then ⟨#[32,9,10,13]⟩ else if k=2 then ⟨#[35]⟩
 else if k=3 then ⟨#[97,98,99,100,101,102,103,104,105,106,107,108,109,110,111,112,113,114,115,116,117,118,119,120,121,122]⟩
 else if k=4 then ⟨#[48,49,50,51,52,53,54,55,56,57]⟩ else if k=5 then ⟨#[95]⟩
 else ⟨#[123,125,40,41,91,93,59,44,46,43,45,42,60,61]⟩
def ent (k:Int)(b:Nat):MapEntry:={ key:=.int .u8 k,val:=.agg #[.string (mem k)],born:=b }
def ES:Array MapEntry:=#[ent 1 0,ent 2 1,ent 3 2,ent 4 3,ent 5 4,ent 6 5]
theorem find_es (k:Int)(h1:1≤k)(h6:k≤6):∃i,Instr.findNow (.int .u8) (.int .u8 k) ES.toList 0=some (some (i,.agg #[.string (mem k)])):=by
 obtain rfl|rfl|rfl|rfl|rfl|rfl:k=1∨k=2∨k=3∨k=4∨k=5∨k=6:=by omega
 all_goals exact ⟨_,rfl⟩
def paint (s:ByteArray)(k:Int)(j:Nat)(F:Nat→Int):Nat→Int:=fun x=>if ((s.data.toList.take j).map UInt8.toNat).contains x then k else F x
theorem paint_zero (s:ByteArray)(k:Int)(F:Nat→Int):paint s k 0 F=F:=by funext x;simp [paint]
theorem paint_succ (s:ByteArray)(k:Int)(j:Nat)(F:Nat→Int)(h:j<s.size):paint s k (j+1) F=fun x=>if x=s[j].toNat then k else paint s k j F x:=by
 have hj:j<s.data.toList.length:=by simpa using h
 funext x
 have e:s.data.toList.take (j+1)=s.data.toList.take j++[s[j]]:=by
  rw [List.take_succ_eq_append_getElem hj]
  rfl
 simp only [paint,e,List.map_append,List.map_cons,List.map_nil,List.contains_append,List.contains_cons,List.contains_nil,Bool.or_false]
 by_cases h1:x=s[j].toNat
 · simp [h1]
 · simp [h1]
def FK:Nat→Nat→Int
 | 0=>fun _=>0
 | k+1=>paint (mem (k+1:Nat)) (k+1:Nat) (mem (k+1:Nat)).size (FK k)
theorem FK_kind:∀c:Nat,c<256→FK 6 c=kindF c:=by decide +kernel
theorem zero82 (w:World):(zeroValue 151).run Tryz.prog w=.ok (.agg (Array.replicate 256 (.int .u8 0))) w:=by kernel_rfl
structure KW (w W:World)(F:Nat→Int):Prop where
 below:Below w.heap.size w W
 map:W.heap[w.heap.size]?=some (.map ES 6)
 arr:∀c:Nat,c<256→W.cell? ⟨w.heap.size+1,c,none⟩=some (.int .u8 (F c))
 free:∀c:Nat,W.frozen? ⟨w.heap.size+1,c,none⟩=false
 size:w.heap.size+1<W.heap.size
theorem KW.store {w W:World}{F:Nat→Int}(h:KW w W F)(c:Nat)(hc:c<256)(k:Int):KW w (W.setCell ⟨w.heap.size+1,c,none⟩ (.int .u8 k)) (fun x=>if x=c then k else F x) where
 below:=h.below.setCell (by simp) _
 map:=by rw [Below.heap_setCell _ _ _ _ (by simp)];exact h.map
 arr:=fun x hx=>by
  by_cases e:x=c
  · subst e
    have:=h.arr x hx
    rw [World.cell?_setCell_same _ _ _ this];simp
  · rw [World.cell?_setCell_other _ _ _ _ (by simp)]
    simp [e,h.arr x hx]
 free:=fun x=>by simp [h.free x]
 size:=by simpa [World.setCell] using h.size
theorem byteKinds_run (w:World):Calls Tryz.prog 47 #[] w fun e w'=>e=.returned (.func (.func 87) #[] #[.pointer (some ⟨w.heap.size+1,0,none⟩)])∧KW w w' (FK 6):=by
 have hmm:=@run_makeMap Tryz.prog
 obtain ⟨Z,hZ⟩:∃Z,Z=Array.replicate 256 (Value.int .u8 0):=⟨_,rfl⟩
 have z0:∀w,(zeroValue 151).run Tryz.prog w=.ok (.agg Z) w:=fun w=>by rw [hZ];exact zero82 w
 have z1:¬ Z=#[]:=by rw [hZ];simp
 have HZ:=lh hZ
 clear hZ
 have i1:(Instr.mapUpdate 150 (.map (some w.heap.size)) (.int .u8 1) (.agg #[.string ⟨#[32,9,10,13]⟩])).run Tryz.prog (w.alloc (.map #[] 0))=.ok () (w.alloc (.map #[{ key:=.int .u8 1,val:=.agg #[.string ⟨#[32,9,10,13]⟩],born:=0 }] 1)):=insert_new w #[] 0 1 _ rfl
 have i2:(Instr.mapUpdate 150 (.map (some w.heap.size)) (.int .u8 2) (.agg #[.string ⟨#[35]⟩])).run Tryz.prog (w.alloc (.map #[{ key:=.int .u8 1,val:=.agg #[.string ⟨#[32,9,10,13]⟩],born:=0 }] 1))=.ok () (w.alloc (.map #[{ key:=.int .u8 1,val:=.agg #[.string ⟨#[32,9,10,13]⟩],born:=0 },{ key:=.int .u8 2,val:=.agg #[.string ⟨#[35]⟩],born:=1 }] 2)):=insert_new w #[ent 1 0] 1 2 _ rfl
 have i3:(Instr.mapUpdate 150 (.map (some w.heap.size)) (.int .u8 3) (.agg #[.string ⟨#[97,98,99,100,101,102,103,104,105,106,107,108,109,110,111,112,113,114,115,116,117,118,119,120,121,122]⟩])).run Tryz.prog (w.alloc (.map #[{ key:=.int .u8 1,val:=.agg #[.string ⟨#[32,9,10,13]⟩],born:=0 },{ key:=.int .u8 2,val:=.agg #[.string ⟨#[35]⟩],born:=1 }] 2))=.ok () (w.alloc (.map #[{ key:=.int .u8 1,val:=.agg #[.string ⟨#[32,9,10,13]⟩],born:=0 },{ key:=.int .u8 2,val:=.agg #[.string ⟨#[35]⟩],born:=1 },{ key:=.int .u8 3,val:=.agg #[.string ⟨#[97,98,99,100,101,102,103,104,105,106,107,108,109,110,111,112,113,114,115,116,117,118,119,120,121,122]⟩],born:=2 }] 3)):=insert_new w #[ent 1 0,ent 2 1] 2 3 _ rfl
 have i4:(Instr.mapUpdate 150 (.map (some w.heap.size)) (.int .u8 4) (.agg #[.string ⟨#[48,49,50,51,52,53,54,55,56,57]⟩])).run Tryz.prog (w.alloc (.map #[{ key:=.int .u8 1,val:=.agg #[.string ⟨#[32,9,10,13]⟩],born:=0 },{ key:=.int .u8 2,val:=.agg #[.string ⟨#[35]⟩],born:=1 },{ key:=.int .u8 3,val:=.agg #[.string ⟨#[97,98,99,100,101,102,103,104,105,106,107,108,109,110,111,112,113,114,115,116,117,118,119,120,121,122]⟩],born:=2 }] 3))=.ok () (w.alloc (.map #[{ key:=.int .u8 1,val:=.agg #[.string ⟨#[32,9,10,13]⟩],born:=0 },{ key:=.int .u8 2,val:=.agg #[.string ⟨#[35]⟩],born:=1 },{ key:=.int .u8 3,val:=.agg #[.string ⟨#[97,98,99,100,101,102,103,104,105,106,107,108,109,110,111,112,113,114,115,116,117,118,119,120,121,122]⟩],born:=2 },{ key:=.int .u8 4,val:=.agg #[.string ⟨#[48,49,50,51,52,53,54,55,56,57]⟩],born:=3 }] 4)):=insert_new w #[ent 1 0,ent 2 1,ent 3 2] 3 4 _ rfl
 have i5:(Instr.mapUpdate 150 (.map (some w.heap.size)) (.int .u8 5) (.agg #[.string ⟨#[95]⟩])).run Tryz.prog (w.alloc (.map #[{ key:=.int .u8 1,val:=.agg #[.string ⟨#[32,9,10,13]⟩],born:=0 },{ key:=.int .u8 2,val:=.agg #[.string ⟨#[35]⟩],born:=1 },{ key:=.int .u8 3,val:=.agg #[.string ⟨#[97,98,99,100,101,102,103,104,105,106,107,108,109,110,111,112,113,114,115,116,117,118,119,120,121,122]⟩],born:=2 },{ key:=.int .u8 4,val:=.agg #[.string ⟨#[48,49,50,51,52,53,54,55,56,57]⟩],born:=3 }] 4))=.ok () (w.alloc (.map #[{ key:=.int .u8 1,val:=.agg #[.string ⟨#[32,9,10,13]⟩],born:=0 },{ key:=.int .u8 2,val:=.agg #[.string ⟨#[35]⟩],born:=1 },{ key:=.int .u8 3,val:=.agg #[.string ⟨#[97,98,99,100,101,102,103,104,105,106,107,108,109,110,111,112,113,114,115,116,117,118,119,120,121,122]⟩],born:=2 },{ key:=.int .u8 4,val:=.agg #[.string ⟨#[48,49,50,51,52,53,54,55,56,57]⟩],born:=3 },{ key:=.int .u8 5,val:=.agg #[.string ⟨#[95]⟩],born:=4 }] 5)):=insert_new w #[ent 1 0,ent 2 1,ent 3 2,ent 4 3] 4 5 _ rfl
 have i6:(Instr.mapUpdate 150 (.map (some w.heap.size)) (.int .u8 6) (.agg #[.string ⟨#[123,125,40,41,91,93,59,44,46,43,45,42,60,61]⟩])).run Tryz.prog (w.alloc (.map #[{ key:=.int .u8 1,val:=.agg #[.string ⟨#[32,9,10,13]⟩],born:=0 },{ key:=.int .u8 2,val:=.agg #[.string ⟨#[35]⟩],born:=1 },{ key:=.int .u8 3,val:=.agg #[.string ⟨#[97,98,99,100,101,102,103,104,105,106,107,108,109,110,111,112,113,114,115,116,117,118,119,120,121,122]⟩],born:=2 },{ key:=.int .u8 4,val:=.agg #[.string ⟨#[48,49,50,51,52,53,54,55,56,57]⟩],born:=3 },{ key:=.int .u8 5,val:=.agg #[.string ⟨#[95]⟩],born:=4 }] 5))=.ok () (w.alloc (.map #[{ key:=.int .u8 1,val:=.agg #[.string ⟨#[32,9,10,13]⟩],born:=0 },{ key:=.int .u8 2,val:=.agg #[.string ⟨#[35]⟩],born:=1 },{ key:=.int .u8 3,val:=.agg #[.string ⟨#[97,98,99,100,101,102,103,104,105,106,107,108,109,110,111,112,113,114,115,116,117,118,119,120,121,122]⟩],born:=2 },{ key:=.int .u8 4,val:=.agg #[.string ⟨#[48,49,50,51,52,53,54,55,56,57]⟩],born:=3 },{ key:=.int .u8 5,val:=.agg #[.string ⟨#[95]⟩],born:=4 },{ key:=.int .u8 6,val:=.agg #[.string ⟨#[123,125,40,41,91,93,59,44,46,43,45,42,60,61]⟩],born:=5 }] 6)):=insert_new w #[ent 1 0,ent 2 1,ent 3 2,ent 4 3,ent 5 4] 5 6 _ rfl
 go_enter Tryz.func47,Tryz.ntmps47
 go_wp2_with fail
 have K0:KW w ((w.alloc (.map ES 6)).alloc (.cells Z 151)) (FK 0) :=
  { below := ((Below.refl _ _).alloc (Nat.le_refl _) _).alloc (by simp) _
    map:=by
     show ((w.heap.push (.map ES 6)).push _)[w.heap.size]?=_
     rw [Array.getElem?_push_lt (by simp)]
     simp
    arr:=fun c hc=>by
     have:Z[c]?=some (.int .u8 0):=by rw [HZ.out];simp [hc]
     simp [FK,this]
    free:=fun c=>by simp
    size:=by simp }
 clear i1 i2 i3 i4 i5 i6 hmm z0 z1
 go_loopw [3] (fun kv wr=>∃k:Nat,1≤k∧k≤7∧kv=.int .u8 k∧KW w wr (FK (k-1))) (fun kv _=>8-(intOf kv).toNat)
 case atStart=>exact ⟨1,by omega,by omega,rfl,K0⟩
 case round =>
  obtain ⟨k,h1,h7,rfl,hK⟩:=hrel
  clear K0
  by_cases hk:k=7
  · subst hk
    have HK:=lh hK
    clear hK
    go_wp2
    go_ret
    exact ⟨rfl,HK.out⟩
  · have hk6:k≤6:=by omega
    obtain ⟨ix,hfd⟩:=find_es (k:Int) (by omega) (by omega)
    have hlk:=lookup_at wr w.heap.size ES 6 ix k _ hK.map hfd
    clear hfd
    have hsz:(mem (k:Int)).size≤26:=by
     obtain rfl|rfl|rfl|rfl|rfl|rfl:k=1∨k=2∨k=3∨k=4∨k=5∨k=6:=by omega
     all_goals decide
    obtain ⟨s,hs⟩:∃s,s=mem (k:Int):=⟨_,rfl⟩
    rw [← hs] at hlk hsz
    have HS:=lh hs
    have HK:=lh hK
    clear hs hK
    have hfl:∀W:World,(Instr.field 149 (.agg #[.string s]) 0).run Tryz.prog W=.ok (.string s) W:=fun _=>by kernel_rfl
    go_wp2_with fail
    clear hlk
    go_loopw [24] (fun iv wr'=>∃j:Nat,j≤s.size∧iv=.int .i64 j∧KW w wr' (paint s k j (FK (k-1)))) (fun iv _=>s.size-(intOf iv).toNat)
    case atStart=>exact ⟨0,by omega,rfl,by rw [paint_zero];exact HK.out⟩
    case round =>
     obtain ⟨j,hj,rfl,hJ⟩:=hrel
     by_cases hjs:j<s.size
     · have hb:s[j].toNat<256:=UInt8.toNat_lt _
       have hc:=hJ.arr s[j].toNat hb
       have hf:=hJ.free s[j].toNat
       have HJ:=lh hJ
       clear hJ
       go_wp2
       go_roundw
       case rel=>exact ⟨j+1,by omega,by go_num,by rw [paint_succ _ _ _ _ hjs];exact HJ.out.store _ hb _⟩
       case measure=>simp [intOf];omega
     · have HJ:=lh hJ
       clear hJ
       go_wp2
       go_roundw
       case rel=>exact ⟨k+1,by omega,by omega,by go_num,by
        have e:j=s.size:=by omega
        have:=HJ.out
        rw [e,HS.out] at this
        obtain ⟨m,rfl⟩:∃m,k=m+1:=⟨k-1,by omega⟩
        exact this⟩
       case measure=>simp [intOf];omega
end Tr
namespace Tr
open Go.RowKit
theorem kind_at (W:World)(kb m:Nat)(hm:m<256)(hk:W.cell? ⟨kb,m,none⟩=some (.int .u8 (kindF m))) :
 Calls Tryz.prog 87 #[.int .u8 m,.pointer (some ⟨kb,0,none⟩)] W fun e w'=>e=.returned (.int .u8 (kindF m))∧w'=W:=by
 generalize kindF m=k at *
 go_enter Tryz.func87,Tryz.ntmps87
 go_wp2
 go_ret
 exact ⟨rfl,rfl⟩
theorem inName_at (W:World)(k:Int) :
 Calls Tryz.prog 154 #[.int .u8 k] W fun e w'=>e=.returned (.bool (k==3||k==4||k==5))∧w'=W:=by
 go_enter Tryz.func154,Tryz.ntmps154
 go_wp2
 all_goals (go_ret;simp_all)
theorem kind_name (c:Int):(kindF c==3||kindF c==4||kindF c==5)=isNameB c:=by
 unfold kindF
 by_cases h1:isBlank c=true
 · have:c=32∨c=9∨c=10∨c=13:=by simpa [isBlank,or_assoc] using h1
   rcases this with rfl|rfl|rfl|rfl<;>decide
 · by_cases h2:c=35
   · subst h2;decide
   · by_cases h3:isLetter c=true
     · simp [h1,h2,h3,isNameB]
     · by_cases h4:isDigit c=true
       · simp [h1,h2,h3,h4,isNameB]
       · by_cases h5:c=95
         · subst h5;decide
         · by_cases h6:isMark c=true
           · simp [h1,h2,h3,h4,h5,h6,isNameB]
           · simp [h1,h2,h3,h4,h5,h6,isNameB]
theorem kind_letter (c:Int):(kindF c==3)=isLetter c:=by
 unfold kindF
 by_cases h1:isBlank c=true
 · have:c=32∨c=9∨c=10∨c=13:=by simpa [isBlank,or_assoc] using h1
   rcases this with rfl|rfl|rfl|rfl<;>decide
 · by_cases h2:c=35
   · subst h2;decide
   · by_cases h3:isLetter c=true
     · simp [h1,h2,h3]
     · simp only [h1,h2,h3]
       repeat' split
       all_goals simp_all
theorem isName_at (w:World)(s:ByteArray)(hb:s.size≤70000) :
 Calls Tryz.prog 189 #[.string s] w fun e w'=>e=.returned (.bool (namesF (bytesI s)))∧Below w.heap.size w w':=by
 have HK:=lh (byteKinds_run w)
 by_cases h0:s.size=0
 · obtain rfl:s=ByteArray.empty:=ByteArray.size_eq_zero_iff.1 h0
   show Calls Tryz.prog 189 #[.string ⟨#[]⟩] w fun e w'=>e=.returned (.bool false)∧Below w.heap.size w w'
   go_enter Tryz.func189,Tryz.ntmps189
   go_wp2_with fail
   (with_reducible refine HK.out.mono ?_)
   rintro e W1 ⟨rfl,hk⟩
   have HB:=lh hk.below
   clear hk HK
   go_wp2
   go_ret
   exact ⟨rfl,HB.out⟩
 · have hne:s.toList.isEmpty=false:=by
    rw [← bytesI_str s,Lib.strOfNums_toList,List.isEmpty_eq_false_iff]
    intro e
    have:=congrArg List.length e
    rw [Lib.bytesOf,List.length_map,bytesI_length,List.length_nil] at this
    exact h0 this
   have hpos:0<s.size:=by omega
   have hlen:=lh (bytesI_length s)
   have h00:=lh (bytesI_get s 0 hpos)
   have hm0:=UInt8.toNat_lt s[0]
   have KL:=lh (kind_letter (s[0].toNat:Int))
   obtain ⟨m0,hm⟩:∃m0,s[0].toNat=m0:=⟨_,rfl⟩
   go_enter Tryz.func189,Tryz.ntmps189
   go_wp2_with fail
   (with_reducible refine HK.out.mono ?_)
   rintro e W1 ⟨rfl,hk⟩
   have HKW:=lh hk
   have HB:=lh hk.below
   clear hk HK
   go_wp2_with fail
   have hm256:m0<256:=by omega
   have KA:=kind_at W1 (w.heap.size+1) m0 hm256 (by rw [HKW.out.arr m0 hm256,FK_kind m0 hm256])
   have KL2:=KL.out
   rw [hm] at KL2
   have KL3:=lh KL2
   have H00:Hid ((bytesI s).getD 0 0=(m0:Int)):=by rw [← hm];exact h00
   clear KL2 KL h00
   generalize kindF m0=k at *
   (with_reducible refine KA.mono ?_)
   rintro e w' ⟨rfl,rfl⟩
   clear KA
   by_cases hk3:k=3
   · subst hk3
     have HL:Hid (isLetter ((bytesI s).getD 0 0)=true):=lh (by rw [H00.out];simpa using KL3.out.symm)
     clear hm hm0 hm256 KL3 H00
     go_wp2_with fail
     go_loop [17] (fun iv=>∃k:Nat,k≤s.size∧iv=.int .i64 k∧Hid (((bytesI s).take k).all isNameB=true)) (fun iv=>s.size-(intOf iv).toNat)
     case atStart=>exact ⟨0,Nat.zero_le _,rfl,lh rfl⟩
     case round =>
      obtain ⟨k,hk,rfl,HA⟩:=hrel
      by_cases hlt:k<s.size
      · have hgk:=bytesI_get s k hlt
        have hmk:=UInt8.toNat_lt s[k]
        obtain ⟨m,hm⟩:∃m,s[k].toNat=m:=⟨_,rfl⟩
        rw [hm] at hgk hmk
        have hm256:m<256:=by omega
        have KA:=kind_at w' (w.heap.size+1) m hm256 (by rw [HKW.out.arr m hm256,FK_kind m hm256])
        have KN:=kind_name m
        have HG:=lh hgk
        clear hgk
        generalize kindF m=kk at *
        have IN:=inName_at w' kk
        rw [KN] at IN
        have HKA:=lh KA
        have HIN:=lh IN
        clear KN KA IN
        cases hq:isNameB m with
        | true =>
         have HIN2:Hid (Calls Tryz.prog 154 #[.int .u8 kk] w' fun e w1=>e=.returned (.bool true)∧w1=w'):=by rw [← hq];exact HIN.out
         have HQ:=lh hq
         clear hq HIN
         go_wp2_with fail
         (with_reducible refine HKA.out.mono ?_)
         rintro e w2 ⟨rfl,rfl⟩
         go_wp2_with fail
         (with_reducible refine HIN2.out.mono ?_)
         rintro e w3 ⟨rfl,rfl⟩
         clear HKA HIN2
         go_wp2
         go_round
         case rel=>exact ⟨k+1,by omega,by go_num,lh (by rw [all_take_succ _ _ (by have:=hlen.out;omega),HA.out,HG.out,HQ.out];rfl)⟩
         case measure=>simp [intOf];omega
        | false =>
         have HIN2:Hid (Calls Tryz.prog 154 #[.int .u8 kk] w' fun e w1=>e=.returned (.bool false)∧w1=w'):=by rw [← hq];exact HIN.out
         have HQ:=lh hq
         clear hq HIN
         go_wp2_with fail
         (with_reducible refine HKA.out.mono ?_)
         rintro e w2 ⟨rfl,rfl⟩
         go_wp2_with fail
         (with_reducible refine HIN2.out.mono ?_)
         rintro e w3 ⟨rfl,rfl⟩
         clear HKA HIN2
         go_wp2
         go_ret
         exact ⟨retB (namesF_no _ k (by have:=hlen.out;omega) (by rw [HG.out];exact HQ.out)).symm,HB.out⟩
      · have hks:k=s.size:=by omega
        have HKS:=lh hks
        clear hks
        go_wp2
        go_ret
        exact ⟨retB (namesF_yes _ (by have:=hlen.out;omega) HL.out (by rw [hlen.out,← HKS.out];exact HA.out)).symm,HB.out⟩
   · have hk3':(k != 3)=true:=by simpa using hk3
     have HL:Hid (isLetter ((bytesI s).getD 0 0)=false):=lh (by rw [H00.out,← KL3.out];simpa using hk3)
     clear KL3 H00
     go_wp2
     go_ret
     exact ⟨retB (namesF_head _ (by have:=hlen.out;omega) HL.out).symm,HB.out⟩
theorem letter_at (c:Int)(w:World):Calls Tryz.prog 157 #[.int .u8 c] w fun e w'=>e=.returned (.bool (isLetter c))∧w'=w:=by
 unfold isLetter
 by_cases h:97≤c
 · by_cases h2:c≤122
   · have e:(decide (97≤c)&&decide (c≤122))=true:=by simp [h,h2]
     rw [e]
     clear e
     go_enter Tryz.func157,Tryz.ntmps157
     go_wp2
     go_ret
     exact ⟨rfl,rfl⟩
   · have e:(decide (97≤c)&&decide (c≤122))=false:=by simp [h2]
     rw [e]
     clear e
     go_enter Tryz.func157,Tryz.ntmps157
     go_wp2
     go_ret
     exact ⟨rfl,rfl⟩
 · have e:(decide (97≤c)&&decide (c≤122))=false:=by simp [h]
   rw [e]
   clear e
   have hd:decide (97≤c)=false:=by simpa using h
   go_enter Tryz.func157,Tryz.ntmps157
   go_wp2
   go_ret
   exact ⟨rfl,rfl⟩
theorem digit_at (c:Int)(w:World):Calls Tryz.prog 158 #[.int .u8 c] w fun e w'=>e=.returned (.bool (isDigit c))∧w'=w:=by
 unfold isDigit
 by_cases h:48≤c
 · by_cases h2:c≤57
   · have e:(decide (48≤c)&&decide (c≤57))=true:=by simp [h,h2]
     rw [e]
     clear e
     go_enter Tryz.func158,Tryz.ntmps158
     go_wp2
     go_ret
     exact ⟨rfl,rfl⟩
   · have e:(decide (48≤c)&&decide (c≤57))=false:=by simp [h2]
     rw [e]
     clear e
     go_enter Tryz.func158,Tryz.ntmps158
     go_wp2
     go_ret
     exact ⟨rfl,rfl⟩
 · have e:(decide (48≤c)&&decide (c≤57))=false:=by simp [h]
   rw [e]
   clear e
   have hd:decide (48≤c)=false:=by simpa using h
   go_enter Tryz.func158,Tryz.ntmps158
   go_wp2
   go_ret
   exact ⟨rfl,rfl⟩
theorem refIsName_at (w:World)(s:ByteArray)(hb:s.size≤70000) :
 Calls Tryz.prog 170 #[.string s] w fun e w'=>e=.returned (.bool (namesF (bytesI s)))∧w'=w:=by
 have hlen:=lh (bytesI_length s)
 go_enter Tryz.func170,Tryz.ntmps170
 go_wp2_with fail
 go_loop [3] (fun iv=>∃k:Nat,k≤s.size∧iv=.int .i64 k∧Hid (0<k→isLetter ((bytesI s).getD 0 0)=true)∧Hid (((bytesI s).take k).all isNameB=true)) (fun iv=>s.size-(intOf iv).toNat)
 case atStart=>exact ⟨0,Nat.zero_le _,rfl,lh (fun h=>absurd h (by omega)),lh rfl⟩
 case round =>
  obtain ⟨k,hk,rfl,HF,HA⟩:=hrel
  by_cases hlt:k<s.size
  · have hgk:=bytesI_get s k hlt
    have hmk:=UInt8.toNat_lt s[k]
    obtain ⟨m,hm⟩:∃m,s[k].toNat=m:=⟨_,rfl⟩
    rw [hm] at hgk hmk
    have HG:=lh hgk
    clear hgk
    have LA:=lh (letter_at (m:Int) w)
    have DA:=lh (digit_at (m:Int) w)
    cases hl:isLetter (m:Int) with
    | true =>
     rw [hl] at LA
     have HL:=lh hl
     clear hl DA
     go_wp2_with fail
     (with_reducible refine LA.out.mono ?_)
     rintro e w1 ⟨rfl,rfl⟩
     clear LA
     go_wp2
     go_round
     case rel=>exact ⟨k+1,by omega,by go_num,lh (fun _=>by
      by_cases h0:0<k
      · exact HF.out h0
      · have:k=0:=by omega
        rw [← this,HG.out];exact HL.out),lh (by rw [all_take_succ _ _ (by have:=hlen.out;omega),HA.out,HG.out,isNameB,HL.out];rfl)⟩
     case measure=>simp [intOf];omega
    | false =>
     rw [hl] at LA
     have HL:=lh hl
     clear hl
     by_cases h0:k=0
     · have h0':((k:Int)==0)=true:=by simpa using h0
       have HK0:=lh h0
       clear h0 DA
       go_wp2_with fail
       (with_reducible refine LA.out.mono ?_)
       rintro e w1 ⟨rfl,rfl⟩
       clear LA
       go_wp2
       go_ret
       exact ⟨retB (namesF_head _ (by have:=hlen.out;omega) (by have:=HG.out;rw [HK0.out] at this;rw [this];exact HL.out)).symm,rfl⟩
     · have h0':((k:Int)==0)=false:=by simpa using h0
       cases hd:isDigit (m:Int) with
       | true =>
        rw [hd] at DA
        have HD:=lh hd
        clear hd
        go_wp2_with fail
        (with_reducible refine LA.out.mono ?_)
        rintro e w1 ⟨rfl,rfl⟩
        go_wp2_with fail
        (with_reducible refine DA.out.mono ?_)
        rintro e w1 ⟨rfl,rfl⟩
        clear LA DA
        go_wp2
        go_round
        case rel=>exact ⟨k+1,by omega,by go_num,lh (fun _=>HF.out (by omega)),lh (by rw [all_take_succ _ _ (by have:=hlen.out;omega),HA.out,HG.out,isNameB,HL.out,HD.out];rfl)⟩
        case measure=>simp [intOf];omega
       | false =>
        rw [hd] at DA
        have HD:=lh hd
        clear hd
        by_cases h95:(m:Int)=95
        · have h1:((m:Int) != 95)=false:=by simp [h95]
          have H95:=lh h95
          clear h95
          go_wp2_with fail
          (with_reducible refine LA.out.mono ?_)
          rintro e w1 ⟨rfl,rfl⟩
          go_wp2_with fail
          (with_reducible refine DA.out.mono ?_)
          rintro e w1 ⟨rfl,rfl⟩
          clear LA DA
          go_wp2
          go_round
          case rel=>exact ⟨k+1,by omega,by go_num,lh (fun _=>HF.out (by omega)),lh (by rw [all_take_succ _ _ (by have:=hlen.out;omega),HA.out,HG.out,H95.out];rfl)⟩
          case measure=>simp [intOf];omega
        · have h1:((m:Int) != 95)=true:=by simpa using h95
          have H95:=lh h95
          clear h95
          go_wp2_with fail
          (with_reducible refine LA.out.mono ?_)
          rintro e w1 ⟨rfl,rfl⟩
          go_wp2_with fail
          (with_reducible refine DA.out.mono ?_)
          rintro e w1 ⟨rfl,rfl⟩
          clear LA DA
          go_wp2
          go_ret
          exact ⟨retB (namesF_no _ k (by have:=hlen.out;omega) (by rw [HG.out,isNameB,HL.out,HD.out];simpa using H95.out)).symm,rfl⟩
  · have hks:k=s.size:=by omega
    have HKS:=lh hks
    clear hks
    go_wp2
    go_ret
    refine ⟨retB ?_,rfl⟩
    by_cases h0:0<s.size
    · rw [namesF_yes _ (by have:=hlen.out;omega) (HF.out (by have:=HKS.out;omega)) (by rw [hlen.out,← HKS.out];exact HA.out)]
      exact decide_eq_true (by omega)
    · have e:bytesI s=[]:=List.eq_nil_of_length_eq_zero (by have:=hlen.out;omega)
      rw [e,namesF_nil]
      exact decide_eq_false (by omega)
end Tr
end Go.Proofs.YthdioipfdbbmmaaGreatDoor
