/- Contracts. -/
import Derived.Test.YthdioipfdbbmmaaGreatDoorHaa
import Derived.Test.YthdioipfdbbmmaaGreatDoorHab
import Derived.Test.YthdioipfdbbmmaaGreatDoorProg
import Derived.WalkKit
import Derived.Handy
import Derived.Below
import Derived.Carry
import Derived.MapKept
import Derived.Lib.Hide
import Derived.Deep.QuietTactic
import Derived.BigQuiet
import Derived.Lib.BytesEntry
import Derived.Laws.BytesArg
import Derived.Lib.SlBytesConst
import Derived.Deep.RegionHeld3
set_option linter.all false
set_option maxRecDepth 1000000
set_option maxHeartbeats 16000000
namespace Go.Proofs.YthdioipfdbbmmaaGreatDoor
section
open Go.RowKit Go.MapKept
theorem insert_new (w:World)(es:Array MapEntry)(n:Nat)(k:Int)(v:Value)(h:Instr.findNow (.int .u8) (.int .u8 k) es.toList 0=some none) :
 (Instr.mapUpdate 150 (.map (some w.heap.size)) (.int .u8 k) v).run Tryz.prog (w.alloc (.map es n))=.ok () (w.alloc (.map (es.push { key:=.int .u8 k,val:=v,born:=n }) (n+1))):=by
 have hb:(w.alloc (.map es n)).heap[w.heap.size]?=some (.map es n):=by
  show (w.heap.push (.map es n))[w.heap.size]?=_
  simp
 have hk:(Instr.checkKey false 10000 147 (.int .u8 k)).run Tryz.prog (w.alloc (.map es n))=.ok () (w.alloc (.map es n)):=run_checkKey Tryz.underlying147 (by simp [IsKey]) false 9999
 have hp:∀(a:Array Obj) (x y:Obj),(a.push x).setIfInBounds a.size y=a.push y:=fun a x y=>by
  apply Array.ext_getElem?
  intro i
  by_cases h:i=a.size
  · subst h;simp
  · have h':¬ a.size=i:=fun e=>h e.symm
    simp [Array.getElem?_push,h,h']
 have hw:∀o:Obj,({ w.alloc (.map es n) with heap:=(w.alloc (.map es n)).heap.setIfInBounds w.heap.size o }:World)=w.alloc o:=fun o=>by
  show ({ w with heap:=(w.heap.push (.map es n)).setIfInBounds w.heap.size o }:World)=_
  rw [hp]
  rfl
 simp only [Instr.mapUpdate,Sem.run_bind,run_underlying Tryz.underlying150,Result.andThen,Go.MapKept.run_getObj_map hb,hk,run_findKey (P:=Tryz.prog) Tryz.underlying147 h,run_setObj_map _ hb,hw]
theorem lookup_at (W:World)(r:Nat)(es:Array MapEntry)(n i:Nat)(k:Int)(v:Value)(hb:W.heap[r]?=some (.map es n))(h:Instr.findNow (.int .u8) (.int .u8 k) es.toList 0=some (some (i,v))) :
 (Instr.lookup 150 (.map (some r)) (.int .u8 k) false).run Tryz.prog W=.ok v W:=by
 have hk:∀b,(Instr.checkKey b 10000 147 (.int .u8 k)).run Tryz.prog W=.ok () W:=fun b=>run_checkKey Tryz.underlying147 (by simp [IsKey]) b 9999
 simp only [Instr.lookup,Sem.run_bind,run_underlying Tryz.underlying150,Result.andThen,Go.MapKept.run_getObj_map hb,hk,run_findKey (P:=Tryz.prog) Tryz.underlying147 h,Sem.run_pure]
 simp
def mem (k:Int):ByteArray :=
 if k=1 then ⟨#[32,9,10,13]⟩ else if k=2 then ⟨#[35]⟩
 else if k=3 then ⟨#[97,98,99,100,101,102,103,104,105,106,107,108,109,110,111,112,113,114,115,116,117,118,119,120,121,122]⟩
 else if k=4 then ⟨#[48,49,50,51,52,53,54,55,56,57]⟩ else if k=5 then ⟨#[95]⟩
 else ⟨#[123,125,40,41,91,93,59,44,46,43,45,42,60,61]⟩
def ent (k:Int)(b:Nat):MapEntry:={ key:=.int .u8 k,val:=.agg #[.string (mem k)],born:=b }
def ES:Array MapEntry:=#[ent 1 0,ent 2 1,ent 3 2,ent 4 3,ent 5 4,ent 6 5]
theorem find_es (k:Int)(h1:1≤k)(h6:k≤6):∃i,Instr.findNow (.int .u8) (.int .u8 k) ES.toList 0=some (some (i,.agg #[.string (mem k)])):=by
 obtain rfl|rfl|rfl|rfl|rfl|rfl:k=1∨k=2∨k=3∨k=4∨k=5∨k=6:=by omega
 all_goals exact ⟨_,rfl⟩
def paint (s:ByteArray)(k:Int)(j:Nat)(F:Nat→Int):Nat→Int:=fun x=>if ((s.data.toList.take j).map UInt8.toNat).contains x then k else F x
theorem paint_zero (s:ByteArray)(k:Int)(F:Nat→Int):paint s k 0 F=F:=by funext x;simp [paint]
theorem paint_succ (s:ByteArray)(k:Int)(j:Nat)(F:Nat→Int)(h:j<s.size):paint s k (j+1) F=fun x=>if x=s[j].toNat then k else paint s k j F x:=by
 have hj:j<s.data.toList.length:=by simpa using h
 funext x
 have e:s.data.toList.take (j+1)=s.data.toList.take j++[s[j]]:=by
  rw [List.take_succ_eq_append_getElem hj]
  rfl
 simp only [paint,e,List.map_append,List.map_cons,List.map_nil,List.contains_append,List.contains_cons,List.contains_nil,Bool.or_false]
 by_cases h1:x=s[j].toNat
 · simp [h1]
 · simp [h1]
def FK:Nat→Nat→Int
 | 0=>fun _=>0
 | k+1=>paint (mem (k+1:Nat)) (k+1:Nat) (mem (k+1:Nat)).size (FK k)
theorem FK_kind:∀c:Nat,c<256→FK 6 c=kindF c:=by decide +kernel
theorem zero70:Tryz.zeroCells151=Array.replicate 256 (.int .u8 0):=by kernel_rfl
structure KW (w W:World)(F:Nat→Int):Prop where
 below:Below w.heap.size w W
 map:W.heap[w.heap.size]?=some (.map ES 6)
 arr:∀c:Nat,c<256→W.cell? ⟨w.heap.size+1,c,none⟩=some (.int .u8 (F c))
 free:∀c:Nat,W.frozen? ⟨w.heap.size+1,c,none⟩=false
 size:w.heap.size+1<W.heap.size
theorem KW.store {w W:World}{F:Nat→Int}(h:KW w W F)(c:Nat)(hc:c<256)(k:Int):KW w (W.setCell ⟨w.heap.size+1,c,none⟩ (.int .u8 k)) (fun x=>if x=c then k else F x) where
 below:=h.below.setCell (by simp) _
 map:=by rw [Below.heap_setCell _ _ _ _ (by simp)];exact h.map
 arr:=fun x hx=>by
  by_cases e:x=c
  · subst e
    have:=h.arr x hx
    rw [World.cell?_setCell_same _ _ _ this];simp
  · rw [World.cell?_setCell_other _ _ _ _ (by simp)]
    simp [e,h.arr x hx]
 free:=fun x=>by simp [h.free x]
 size:=by simpa [World.setCell] using h.size
theorem byteKinds_run (w:World):Calls Tryz.prog 47 #[] w fun e w'=>e=.returned (.func (.func 87) #[] #[.pointer (some ⟨w.heap.size+1,0,none⟩)])∧KW w w' (FK 6):=by
 have hmm:=@run_makeMap Tryz.prog
 have i1:(Instr.mapUpdate 150 (.map (some w.heap.size)) (.int .u8 1) (.agg #[.string ⟨#[32,9,10,13]⟩])).run Tryz.prog (w.alloc (.map #[] 0))=.ok () (w.alloc (.map #[{ key:=.int .u8 1,val:=.agg #[.string ⟨#[32,9,10,13]⟩],born:=0 }] 1)):=insert_new w #[] 0 1 _ rfl
 have i2:(Instr.mapUpdate 150 (.map (some w.heap.size)) (.int .u8 2) (.agg #[.string ⟨#[35]⟩])).run Tryz.prog (w.alloc (.map #[{ key:=.int .u8 1,val:=.agg #[.string ⟨#[32,9,10,13]⟩],born:=0 }] 1))=.ok () (w.alloc (.map #[{ key:=.int .u8 1,val:=.agg #[.string ⟨#[32,9,10,13]⟩],born:=0 },{ key:=.int .u8 2,val:=.agg #[.string ⟨#[35]⟩],born:=1 }] 2)):=insert_new w #[ent 1 0] 1 2 _ rfl
 have i3:(Instr.mapUpdate 150 (.map (some w.heap.size)) (.int .u8 3) (.agg #[.string ⟨#[97,98,99,100,101,102,103,104,105,106,107,108,109,110,111,112,113,114,115,116,117,118,119,120,121,122]⟩])).run Tryz.prog (w.alloc (.map #[{ key:=.int .u8 1,val:=.agg #[.string ⟨#[32,9,10,13]⟩],born:=0 },{ key:=.int .u8 2,val:=.agg #[.string ⟨#[35]⟩],born:=1 }] 2))=.ok () (w.alloc (.map #[{ key:=.int .u8 1,val:=.agg #[.string ⟨#[32,9,10,13]⟩],born:=0 },{ key:=.int .u8 2,val:=.agg #[.string ⟨#[35]⟩],born:=1 },{ key:=.int .u8 3,val:=.agg #[.string ⟨#[97,98,99,100,101,102,103,104,105,106,107,108,109,110,111,112,113,114,115,116,117,118,119,120,121,122]⟩],born:=2 }] 3)):=insert_new w #[ent 1 0,ent 2 1] 2 3 _ rfl
 have i4:(Instr.mapUpdate 150 (.map (some w.heap.size)) (.int .u8 4) (.agg #[.string ⟨#[48,49,50,51,52,53,54,55,56,57]⟩])).run Tryz.prog (w.alloc (.map #[{ key:=.int .u8 1,val:=.agg #[.string ⟨#[32,9,10,13]⟩],born:=0 },{ key:=.int .u8 2,val:=.agg #[.string ⟨#[35]⟩],born:=1 },{ key:=.int .u8 3,val:=.agg #[.string ⟨#[97,98,99,100,101,102,103,104,105,106,107,108,109,110,111,112,113,114,115,116,117,118,119,120,121,122]⟩],born:=2 }] 3))=.ok () (w.alloc (.map #[{ key:=.int .u8 1,val:=.agg #[.string ⟨#[32,9,10,13]⟩],born:=0 },{ key:=.int .u8 2,val:=.agg #[.string ⟨#[35]⟩],born:=1 },{ key:=.int .u8 3,val:=.agg #[.string ⟨#[97,98,99,100,101,102,103,104,105,106,107,108,109,110,111,112,113,114,115,116,117,118,119,120,121,122]⟩],born:=2 },{ key:=.int .u8 4,val:=.agg #[.string ⟨#[48,49,50,51,52,53,54,55,56,57]⟩],born:=3 }] 4)):=insert_new w #[ent 1 0,ent 2 1,ent 3 2] 3 4 _ rfl
 have i5:(Instr.mapUpdate 150 (.map (some w.heap.size)) (.int .u8 5) (.agg #[.string ⟨#[95]⟩])).run Tryz.prog (w.alloc (.map #[{ key:=.int .u8 1,val:=.agg #[.string ⟨#[32,9,10,13]⟩],born:=0 },{ key:=.int .u8 2,val:=.agg #[.string ⟨#[35]⟩],born:=1 },{ key:=.int .u8 3,val:=.agg #[.string ⟨#[97,98,99,100,101,102,103,104,105,106,107,108,109,110,111,112,113,114,115,116,117,118,119,120,121,122]⟩],born:=2 },{ key:=.int .u8 4,val:=.agg #[.string ⟨#[48,49,50,51,52,53,54,55,56,57]⟩],born:=3 }] 4))=.ok () (w.alloc (.map #[{ key:=.int .u8 1,val:=.agg #[.string ⟨#[32,9,10,13]⟩],born:=0 },{ key:=.int .u8 2,val:=.agg #[.string ⟨#[35]⟩],born:=1 },{ key:=.int .u8 3,val:=.agg #[.string ⟨#[97,98,99,100,101,102,103,104,105,106,107,108,109,110,111,112,113,114,115,116,117,118,119,120,121,122]⟩],born:=2 },{ key:=.int .u8 4,val:=.agg #[.string ⟨#[48,49,50,51,52,53,54,55,56,57]⟩],born:=3 },{ key:=.int .u8 5,val:=.agg #[.string ⟨#[95]⟩],born:=4 }] 5)):=insert_new w #[ent 1 0,ent 2 1,ent 3 2,ent 4 3] 4 5 _ rfl
 have i6:(Instr.mapUpdate 150 (.map (some w.heap.size)) (.int .u8 6) (.agg #[.string ⟨#[123,125,40,41,91,93,59,44,46,43,45,42,60,61]⟩])).run Tryz.prog (w.alloc (.map #[{ key:=.int .u8 1,val:=.agg #[.string ⟨#[32,9,10,13]⟩],born:=0 },{ key:=.int .u8 2,val:=.agg #[.string ⟨#[35]⟩],born:=1 },{ key:=.int .u8 3,val:=.agg #[.string ⟨#[97,98,99,100,101,102,103,104,105,106,107,108,109,110,111,112,113,114,115,116,117,118,119,120,121,122]⟩],born:=2 },{ key:=.int .u8 4,val:=.agg #[.string ⟨#[48,49,50,51,52,53,54,55,56,57]⟩],born:=3 },{ key:=.int .u8 5,val:=.agg #[.string ⟨#[95]⟩],born:=4 }] 5))=.ok () (w.alloc (.map #[{ key:=.int .u8 1,val:=.agg #[.string ⟨#[32,9,10,13]⟩],born:=0 },{ key:=.int .u8 2,val:=.agg #[.string ⟨#[35]⟩],born:=1 },{ key:=.int .u8 3,val:=.agg #[.string ⟨#[97,98,99,100,101,102,103,104,105,106,107,108,109,110,111,112,113,114,115,116,117,118,119,120,121,122]⟩],born:=2 },{ key:=.int .u8 4,val:=.agg #[.string ⟨#[48,49,50,51,52,53,54,55,56,57]⟩],born:=3 },{ key:=.int .u8 5,val:=.agg #[.string ⟨#[95]⟩],born:=4 },{ key:=.int .u8 6,val:=.agg #[.string ⟨#[123,125,40,41,91,93,59,44,46,43,45,42,60,61]⟩],born:=5 }] 6)):=insert_new w #[ent 1 0,ent 2 1,ent 3 2,ent 4 3,ent 5 4] 5 6 _ rfl
 go_enter Tryz.func47,Tryz.ntmps47
 go_wp2_with fail
 have K0:KW w ((w.alloc (.map ES 6)).alloc (.cells Tryz.zeroCells151 151)) (FK 0) :=
  { below := ((Below.refl _ _).alloc (Nat.le_refl _) _).alloc (by simp) _
    map:=by
     show ((w.heap.push (.map ES 6)).push _)[w.heap.size]?=_
     rw [Array.getElem?_push_lt (by simp)]
     simp
    arr:=fun c hc=>by
     have:Tryz.zeroCells151[c]?=some (.int .u8 0):=by rw [zero70];simp [hc]
     simp [FK,this]
    free:=fun c=>by simp
    size:=by simp }
 clear i1 i2 i3 i4 i5 i6 hmm
 go_loopw [3] (fun kv wr=>∃k:Nat,1≤k∧k≤7∧kv=.int .u8 k∧KW w wr (FK (k-1))) (fun kv _=>8-(intOf kv).toNat)
 case atStart=>exact ⟨1,by omega,by omega,rfl,K0⟩
 case round =>
  obtain ⟨k,h1,h7,rfl,hK⟩:=hrel
  clear K0
  by_cases hk:k=7
  · subst hk
    have HK:=lh hK
    clear hK
    go_wp2
    go_ret
    exact ⟨rfl,HK.out⟩
  · have hk6:k≤6:=by omega
    obtain ⟨ix,hfd⟩:=find_es (k:Int) (by omega) (by omega)
    have hlk:=lookup_at wr w.heap.size ES 6 ix k _ hK.map hfd
    clear hfd
    have hsz:(mem (k:Int)).size≤26:=by
     obtain rfl|rfl|rfl|rfl|rfl|rfl:k=1∨k=2∨k=3∨k=4∨k=5∨k=6:=by omega
     all_goals decide
    obtain ⟨s,hs⟩:∃s,s=mem (k:Int):=⟨_,rfl⟩
    rw [← hs] at hlk hsz
    have HS:=lh hs
    have HK:=lh hK
    clear hs hK
    have hfl:∀W:World,(Instr.field 149 (.agg #[.string s]) 0).run Tryz.prog W=.ok (.string s) W:=fun _=>by kernel_rfl
    go_wp2_with fail
    clear hlk
    go_loopw [24] (fun iv wr'=>∃j:Nat,j≤s.size∧iv=.int .i64 j∧KW w wr' (paint s k j (FK (k-1)))) (fun iv _=>s.size-(intOf iv).toNat)
    case atStart=>exact ⟨0,by omega,rfl,by rw [paint_zero];exact HK.out⟩
    case round =>
     obtain ⟨j,hj,rfl,hJ⟩:=hrel
     by_cases hjs:j<s.size
     · have hb:s[j].toNat<256:=UInt8.toNat_lt _
       have hc:=hJ.arr s[j].toNat hb
       have hf:=hJ.free s[j].toNat
       have HJ:=lh hJ
       clear hJ
       go_wp2
       go_roundw
       case rel=>exact ⟨j+1,by omega,by go_num,by rw [paint_succ _ _ _ _ hjs];exact HJ.out.store _ hb _⟩
       case measure=>simp [intOf];omega
     · have HJ:=lh hJ
       clear hJ
       go_wp2
       go_roundw
       case rel=>exact ⟨k+1,by omega,by omega,by go_num,by
        have e:j=s.size:=by omega
        have:=HJ.out
        rw [e,HS.out] at this
        obtain ⟨m,rfl⟩:∃m,k=m+1:=⟨k-1,by omega⟩
        exact this⟩
       case measure=>simp [intOf];omega
end
section
open Go.RowKit
theorem drewN_below (B:Nat)(w:World)(n:Nat):Below B w (w.drewN n):=⟨rfl,rfl,rfl,Nat.le_refl _,fun _ _=>rfl⟩
theorem retI {a b:Int}(h:a=b):Ending.returned (.int .i64 a)=.returned (.int .i64 b):=by rw [h]
structure SK (W:World)(p:Option Addr)(len c kb:Nat)(xs:List Int):Prop where
 len_eq:xs.length=len
 byte:∀i,0≤xs.getD i 0∧xs.getD i 0<256
 addr:0<len→∃b off,p=some ⟨b,off,none⟩∧b<W.heap.size∧∀i,i<len→W.cell? ⟨b,off+i,none⟩=some (.int .u8 (xs.getD i 0))
 cap:len≤c
 kinds:∀k:Nat,k<256→W.cell? ⟨kb,k,none⟩=some (.int .u8 (kindF k))
 kbl:kb<W.heap.size
theorem SK.on {W W':World}{p:Option Addr}{len c kb:Nat}{xs:List Int}(h:SK W p len c kb xs){B:Nat}(hB:W.heap.size≤B)(hb:Below B W W'):SK W' p len c kb xs where
 len_eq:=h.len_eq
 byte:=h.byte
 addr:=fun hl=>by
  obtain ⟨b,off,e,hlt,hc⟩:=h.addr hl
  exact ⟨b,off,e,Nat.lt_of_lt_of_le hlt hb.size,fun i hi=>by rw [hb.cell (p:=⟨b,off+i,none⟩) (Nat.lt_of_lt_of_le hlt hB)];exact hc i hi⟩
 cap:=h.cap
 kinds:=fun k hk=>by rw [hb.cell (p:=⟨kb,k,none⟩) (Nat.lt_of_lt_of_le h.kbl hB)];exact h.kinds k hk
 kbl:=Nat.lt_of_lt_of_le h.kbl hb.size
theorem SK.alloc {W:World}{p:Option Addr}{len c kb:Nat}{xs:List Int}(h:SK W p len c kb xs)(o:Obj):SK (W.alloc o) p len c kb xs :=
 h.on (Nat.le_refl _) ((Below.refl _ _).alloc (Nat.le_refl _) _)
theorem kind_at (W:World)(kb m:Nat)(hm:m<256)(hk:W.cell? ⟨kb,m,none⟩=some (.int .u8 (kindF m))) :
 Calls Tryz.prog 87 #[.int .u8 m,.pointer (some ⟨kb,0,none⟩)] W fun e w'=>e=.returned (.int .u8 (kindF m))∧w'=W:=by
 generalize kindF m=k at *
 go_enter Tryz.func87,Tryz.ntmps87
 go_wp2
 go_ret
 exact ⟨rfl,rfl⟩
theorem inName_at (W:World)(k:Int) :
 Calls Tryz.prog 154 #[.int .u8 k] W fun e w'=>e=.returned (.bool (k==3||k==4||k==5))∧w'=W:=by
 go_enter Tryz.func154,Tryz.ntmps154
 go_wp2
 all_goals (go_ret;simp_all)
theorem kind_name (c:Int):(kindF c==3||kindF c==4||kindF c==5)=isNameB c:=by
 unfold kindF
 by_cases h1:isBlank c=true
 · have:c=32∨c=9∨c=10∨c=13:=by simpa [isBlank,or_assoc] using h1
   rcases this with rfl|rfl|rfl|rfl<;>decide
 · by_cases h2:c=35
   · subst h2;decide
   · by_cases h3:isLetter c=true
     · simp [h1,h2,h3,isNameB]
     · by_cases h4:isDigit c=true
       · simp [h1,h2,h3,h4,isNameB]
       · by_cases h5:c=95
         · subst h5;decide
         · by_cases h6:isMark c=true
           · simp [h1,h2,h3,h4,h5,h6,isNameB]
           · simp [h1,h2,h3,h4,h5,h6,isNameB]
theorem indexByte_run (xs:List Int)(hr:∀x∈xs,0≤x∧x<256):Lib.indexByte (Lib.bytesOf xs) (10:Int).toNat.toUInt8=if run nl xs<xs.length then (run nl xs:Int) else -1:=by
 induction xs with
 | nil=>simp [Lib.bytesOf,Lib.indexByte,run]
 | cons x xs ih =>
  have hx:=hr x (by simp)
  have ih:=ih (fun y hy=>hr y (by simp [hy]))
  simp only [Lib.bytesOf,List.map_cons,Lib.indexByte] at ih ⊢
  by_cases h:x=10
  · subst h
    simp [run,nl]
  · have hne:(UInt8.ofNat x.toNat==(10:Int).toNat.toUInt8)=false:=by
     simp only [beq_eq_false_iff_ne,ne_eq]
     intro e
     have:=congrArg UInt8.toNat e
     simp at this
     omega
    have hn:nl x=true:=by simp [nl,h]
    simp only [hne,run,hn,if_true,ih,List.length_cons]
    by_cases hl:run nl xs<xs.length
    · simp [hl]
      try omega
    · simp [hl]
theorem pastRemark_at (w:World)(p:Option Addr)(len c kb i:Nat)(xs:List Int)(h:SK w p len c kb xs)(hb:len≤70000)(hi:i<len) :
 Calls Tryz.prog 88 #[.agg #[.slice p len c,.func (.func 87) #[] #[.pointer (some ⟨kb,0,none⟩)]],.int .i64 i] w fun e w'=>e=.returned (.int .i64 ((i+run nl (xs.drop i):Nat):Int))∧Below w.heap.size w w':=by
 have hlen:=h.len_eq
 have hcap:=h.cap
 obtain ⟨b,off,rfl,hbl,hc⟩:=h.addr (by omega)
 have h59:=@run_callFunc_extern Tryz.prog 221 _ Extern.BytealgIndexByte.indexByte Tryz.func221 (by kernel_rfl) (by kernel_rfl) (by kernel_rfl) (by kernel_rfl)
 have hr:(Extern.BytealgIndexByte.indexByte #[.slice (some ⟨b,off+i,none⟩) (len-i) (c-i),.int .u8 10]).run Tryz.prog (w.alloc (.cells #[.slice (some ⟨b,off,none⟩) len c,.func (.func 87) #[] #[.pointer (some ⟨kb,0,none⟩)]] 90))=.ok (.int .i64 (Lib.indexByte (Lib.bytesOf (xs.drop i)) (10:Int).toNat.toUInt8)) (w.alloc (.cells #[.slice (some ⟨b,off,none⟩) len c,.func (.func 87) #[] #[.pointer (some ⟨kb,0,none⟩)]] 90)) :=
  Lib.run_indexByteSlice (P:=Tryz.prog) _ b (off+i) (len-i) (c-i) (xs.drop i) (by simp;omega) (fun j hj=>by
   rw [World.cell?_alloc_lt _ _ _ hbl,Nat.add_assoc,hc (i+j) (by omega)]
   simp [List.getD]) 10
 rw [indexByte_run _ (fun x hx=>by
  obtain ⟨j,hj,rfl⟩:=List.mem_iff_getElem.1 hx
  have:=h.byte (i+j)
  simp at hj
  simpa [List.getD,show i+j<xs.length by omega] using this)] at hr
 have hrl:=run_le nl (xs.drop i)
 simp only [List.length_drop,hlen] at hr hrl
 generalize run nl (xs.drop i)=r at *
 clear hc h hlen
 by_cases hlt:r<len-i
 · rw [if_pos hlt] at hr
   go_enter Tryz.func88,Tryz.ntmps88
   go_wp2
   go_ret
   exact ⟨retI (by omega),(Below.refl _ _).alloc (Nat.le_refl _) _⟩
 · rw [if_neg hlt] at hr
   go_enter Tryz.func88,Tryz.ntmps88
   go_wp2
   go_ret
   exact ⟨retI (by omega),(Below.refl _ _).alloc (Nat.le_refl _) _⟩
theorem kind_blank (c:Int):(kindF c==1)=isBlank c:=by
 unfold kindF
 by_cases h1:isBlank c=true
 · simp [h1]
 · have:isBlank c=false:=by simpa using h1
   simp only [this]
   repeat' split
   all_goals simp_all
theorem kind_rem (c:Int):(kindF c==2)=(c==35):=by
 unfold kindF
 by_cases h:c=35
 · subst h;decide
 · have:(c==35)=false:=by simpa using h
   rw [this]
   repeat' split
   all_goals simp_all
theorem pastBlanks_at (w:World)(p:Option Addr)(len c kb i:Nat)(xs:List Int)(h:SK w p len c kb xs)(hb:len≤70000)(hi:i≤len) :
 Calls Tryz.prog 48 #[.agg #[.slice p len c,.func (.func 87) #[] #[.pointer (some ⟨kb,0,none⟩)]],.int .i64 i] w fun e w'=>e=.returned (.int .i64 (bl xs i:Int))∧Below w.heap.size w w':=by
 have H:=lh h
 have hlen:=lh h.len_eq
 clear h
 go_enter Tryz.func48,Tryz.ntmps48
 go_wp2_with fail
 go_loopw [1] (fun av wr=>∃j:Nat,j≤len∧av=.int .i64 j∧Hid (bl xs j=bl xs i)∧Hid (Below (w.heap.size+1) (w.alloc (.cells #[.slice p len c,.func (.func 87) #[] #[.pointer (some ⟨kb,0,none⟩)]] 90)) wr)) (fun av _=>len-(intOf av).toNat)
 case atStart=>exact ⟨i,hi,rfl,lh rfl,lh (Below.refl _ _)⟩
 case round =>
  obtain ⟨j,hj,rfl,HB,hbel⟩:=hrel
  have c0:wr.cell? ⟨w.heap.size,0,none⟩=some (.slice p len c):=by rw [hbel.out.cell (by simp)];simp
  have c1:wr.cell? ⟨w.heap.size,1,none⟩=some (.func (.func 87) #[] #[.pointer (some ⟨kb,0,none⟩)]):=by rw [hbel.out.cell (by simp)];simp
  have hsk:=lh ((H.out.alloc (.cells #[.slice p len c,.func (.func 87) #[] #[.pointer (some ⟨kb,0,none⟩)]] 90)).on (by simp) hbel.out)
  have hfin:Below w.heap.size w wr:=((Below.refl _ _).alloc (Nat.le_refl _) _).trans (hbel.out.mono (by omega))
  have HF:=lh hfin
  clear hfin
  by_cases hjl:j<len
  · obtain ⟨b,off,rfl,hbl,hc⟩:=hsk.out.addr (by omega)
    have hcj:=hc j hjl
    have hby:=hsk.out.byte j
    obtain ⟨m,hm⟩:∃m:Nat,xs.getD j 0=m:=⟨(xs.getD j 0).toNat,by omega⟩
    rw [hm] at hcj hby
    have HM:=lh hm
    have hm256:m<256:=by omega
    have hk:=hsk.out.kinds m hm256
    clear hc hbl hm hby
    have hkb:=lh (kind_blank m)
    have hkr:=lh (kind_rem m)
    have HK:=lh hk
    clear hk
    go_wp2_with fail
    go_quiet (first|(go_at_call 87;refine Calls.quiet_of_same (kind_at _ kb m hm256 HK.out)))
    have hsk2:=lh (hsk.out.on (Nat.le_refl _) (drewN_below _ wr nq))
    have hf2:=lh (HF.out.trans (drewN_below _ wr nq))
    have hbel2:=lh (hbel.out.trans (drewN_below _ wr nq))
    have hRem:=pastRemark_at (wr.drewN nq) (some ⟨b,off,none⟩) len c kb j xs hsk2.out hb hjl
    have HR:=lh (run_le nl (xs.drop j))
    clear HK
    generalize kindF m=k at *
    by_cases k1:k=1
    · subst k1
      clear hRem
      go_wp2
      go_roundw
      case rel=>exact ⟨j+1,by omega,by go_num,lh (by rw [← HB.out,bl_blank xs j (by have:=hlen.out;omega) (by rw [HM.out];simpa using hkb.out.symm)]),hbel2⟩
      case measure=>simp [intOf];omega
    · have k1':(k==1)=false:=by simpa using k1
      by_cases k2:k=2
      · subst k2
        have h35:xs.getD j 0=35:=by rw [HM.out];simpa using hkr.out.symm
        have hrun:0<run nl (xs.drop j)∧j+run nl (xs.drop j)≤len:=by
         have:=HR.out
         rw [List.length_drop,hlen.out] at this
         refine ⟨?_,by omega⟩
         rw [drop_at xs j (by have:=hlen.out;omega),h35]
         simp [run,nl]
        have HBR:=lh (bl_rem xs j (by have:=hlen.out;omega) h35)
        generalize run nl (xs.drop j)=r at *
        clear h35
        go_wp2_with fail
        (with_reducible refine hRem.mono ?_)
        rintro e w' ⟨rfl,hb'⟩
        have HB':=lh (hbel2.out.trans (hb'.mono (by have:=hbel2.out.size;simpa using this)))
        clear hb' hRem
        go_wp2
        go_roundw
        case rel=>exact ⟨j+r,by omega,by go_num,lh (by rw [← HB.out,HBR.out]),HB'⟩
        case measure=>simp [intOf];omega
      · have k2':(k==2)=false:=by simpa using k2
        clear hRem
        go_wp2
        go_ret
        exact ⟨retI (by rw [← HB.out,bl_stay xs j (by have:=hlen.out;omega) (by rw [HM.out,← hkb.out];exact k1') (by rw [HM.out];intro e;rw [e] at hkr;exact absurd hkr.out (by simp [k2']))]),hf2.out⟩
  · go_wp2
    go_ret
    exact ⟨retI (by rw [← HB.out,bl_end xs j (by have:=hlen.out;omega)]),HF.out⟩
end
section
open Go.RowKit
theorem run_yes (p:Int→Bool)(xs:List Int)(j:Nat)(h:j<xs.length)(hp:p (xs.getD j 0)=true):run p (xs.drop j)=run p (xs.drop (j+1))+1:=by
 rw [drop_at xs j h,run,if_pos hp]
theorem run_no (p:Int→Bool)(xs:List Int)(j:Nat)(h:j<xs.length)(hp:p (xs.getD j 0)=false):run p (xs.drop j)=0:=by
 rw [drop_at xs j h,run,if_neg (by rw [hp];simp)]
theorem run_out (p:Int→Bool)(xs:List Int)(j:Nat)(h:xs.length≤j):run p (xs.drop j)=0:=by
 rw [List.drop_eq_nil_of_le h,run]
theorem pastName_at (w:World)(p:Option Addr)(len c kb i:Nat)(xs:List Int)(h:SK w p len c kb xs)(hb:len≤70000)(hi:i≤len) :
 Calls Tryz.prog 90 #[.agg #[.slice p len c,.func (.func 87) #[] #[.pointer (some ⟨kb,0,none⟩)]],.int .i64 i] w fun e w'=>e=.returned (.int .i64 ((i+run isNameB (xs.drop i):Nat):Int))∧Below w.heap.size w w':=by
 have H:=lh h
 have hlen:=lh h.len_eq
 clear h
 go_enter Tryz.func90,Tryz.ntmps90
 go_wp2_with fail
 go_loopw [1] (fun av wr=>∃j:Nat,j≤len∧av=.int .i64 j∧Hid (j+run isNameB (xs.drop j)=i+run isNameB (xs.drop i))∧Hid (Below (w.heap.size+1) (w.alloc (.cells #[.slice p len c,.func (.func 87) #[] #[.pointer (some ⟨kb,0,none⟩)]] 90)) wr)) (fun av _=>len-(intOf av).toNat)
 case atStart=>exact ⟨i,hi,rfl,lh rfl,lh (Below.refl _ _)⟩
 case round =>
  obtain ⟨j,hj,rfl,HB,hbel⟩:=hrel
  have c0:wr.cell? ⟨w.heap.size,0,none⟩=some (.slice p len c):=by rw [hbel.out.cell (by simp)];simp
  have c1:wr.cell? ⟨w.heap.size,1,none⟩=some (.func (.func 87) #[] #[.pointer (some ⟨kb,0,none⟩)]):=by rw [hbel.out.cell (by simp)];simp
  have hsk:=lh ((H.out.alloc (.cells #[.slice p len c,.func (.func 87) #[] #[.pointer (some ⟨kb,0,none⟩)]] 90)).on (by simp) hbel.out)
  have HF:=lh (show Below w.heap.size w wr from ((Below.refl _ _).alloc (Nat.le_refl _) _).trans (hbel.out.mono (by omega)))
  by_cases hjl:j<len
  · obtain ⟨b,off,rfl,hbl,hc⟩:=hsk.out.addr (by omega)
    have hcj:=hc j hjl
    have hby:=hsk.out.byte j
    obtain ⟨m,hm⟩:∃m:Nat,xs.getD j 0=m:=⟨(xs.getD j 0).toNat,by omega⟩
    rw [hm] at hcj hby
    have HM:=lh hm
    have hm256:m<256:=by omega
    have HK:=lh (hsk.out.kinds m hm256)
    have HN:=lh (kind_name m)
    clear hc hbl hm hby
    have hj2:(j:Int)<(len:Int):=by omega
    go_wp2_with fail
    go_quiet (first|(go_at_call 87;refine Calls.quiet_of_same (kind_at _ kb m hm256 HK.out))|(go_at_call 154;refine Calls.quiet_of_same (inName_at _ _)))
    have hbel2:=lh (hbel.out.trans (drewN_below _ wr nq))
    have hf2:=lh (HF.out.trans (drewN_below _ wr nq))
    clear HK
    generalize kindF m=k at *
    obtain ⟨t,ht⟩:∃t,(k==3||k==4||k==5)=t:=⟨_,rfl⟩
    have HT:=lh (HN.out.symm.trans ht)
    rw [ht]
    clear ht HN
    cases t with
    | true =>
     go_wp2
     go_roundw
     case rel=>exact ⟨j+1,by omega,by go_num,lh (by have:=run_yes isNameB xs j (by have:=hlen.out;omega) (by rw [HM.out];exact HT.out);have:=HB.out;omega),hbel2⟩
     case measure=>simp [intOf];omega
    | false =>
     go_wp2
     go_ret
     exact ⟨retI (by have:=run_no isNameB xs j (by have:=hlen.out;omega) (by rw [HM.out];exact HT.out);have:=HB.out;omega),hf2.out⟩
  · have hjd:decide ((j:Int)<(len:Int))=false:=by simp;omega
    go_wp2_with fail
    go_quiet (fail)
    have hf2:=lh (HF.out.trans (drewN_below _ wr nq))
    go_wp2
    go_ret
    exact ⟨retI (by have:=run_out isNameB xs j (by have:=hlen.out;omega);have:=HB.out;omega),hf2.out⟩
theorem word_conv (W:World)(b off len _c i e:Nat)(xs:List Int)(hl:xs.length=len)(hi:i≤e)(he:e≤len)(hc:∀i,i<len→W.cell? ⟨b,off+i,none⟩=some (.int .u8 (xs.getD i 0)))(cp:Nat) :
 (convert 22 9 (.slice (some ⟨b,off+i,none⟩) (e-i) cp)).run Tryz.prog W=.ok (.string (strOfNums ((xs.drop i).take (e-i)))) W :=
 run_convert_bytes_arg W 22 5 Tryz.underlying22 Tryz.underlying5 b (off+i) (e-i) cp _ (by simp;omega) (fun j hj=>by
  rw [Nat.add_assoc,hc (i+j) (by omega)]
  simp [List.getD,hj]) 9 Tryz.underlying9
theorem lexWord_at (w:World)(p:Option Addr)(len c kb i e:Nat)(kd:Int)(xs:List Int)(h:SK w p len c kb xs)(hb:len≤70000)(hi:i<e)(he:e≤len) :
 Calls Tryz.prog 89 #[.agg #[.slice p len c,.func (.func 87) #[] #[.pointer (some ⟨kb,0,none⟩)]],.int .u8 kd,.int .i64 i,.int .i64 e] w fun ev w'=>ev=.returned (.agg #[.int .u8 kd,.int .i64 i,.int .i64 e,.string (strOfNums ((xs.drop i).take (e-i))),.int .i64 0])∧Below w.heap.size w w':=by
 have hlen:=h.len_eq
 have hcap:=h.cap
 obtain ⟨b,off,rfl,hbl,hc⟩:=h.addr (by omega)
 have hcv:=fun W (hW:∀i,i<len→W.cell? ⟨b,off+i,none⟩=some (.int .u8 (xs.getD i 0)))=>word_conv W b off len c i e xs hlen (by omega) he hW (c-i)
 have hcv2:=hcv ((w.alloc (.cells #[.slice (some ⟨b,off,none⟩) len c,.func (.func 87) #[] #[.pointer (some ⟨kb,0,none⟩)]] 90)).alloc (.cells #[.int .u8 0,.int .i64 0,.int .i64 0,.string ⟨#[]⟩,.int .i64 0] 29)) (fun j hj=>by
  rw [World.cell?_alloc_lt _ _ _ (by simp;omega),World.cell?_alloc_lt _ _ _ hbl];exact hc j hj)
 clear hcv hc h hlen
 generalize strOfNums ((xs.drop i).take (e-i))=st at *
 go_enter Tryz.func89,Tryz.ntmps89
 go_wp2
 simp [bodyPost,results,Tryz.results89,go_sem]
 exact ((Below.refl _ _).alloc (Nat.le_refl _) _).alloc (by simp) _
theorem bytesOf_inj (a b:List Int)(ha:∀x∈a,0≤x∧x<256)(hb:∀x∈b,0≤x∧x<256)(h:Lib.bytesOf a=Lib.bytesOf b):a=b:=by
 induction a generalizing b with
 | nil=>cases b with
  | nil=>rfl
  | cons y b=>simp [Lib.bytesOf] at h
 | cons x a ih=>cases b with
  | nil=>simp [Lib.bytesOf] at h
  | cons y b =>
   simp only [Lib.bytesOf,List.map_cons,List.cons.injEq] at h
   have hx:=ha x (by simp)
   have hy:=hb y (by simp)
   have e:=congrArg UInt8.toNat h.1
   simp at e
   rw [ih b (fun z hz=>ha z (by simp [hz])) (fun z hz=>hb z (by simp [hz])) h.2,show x=y by omega]
theorem str_eq (a b:List Int)(ha:∀x∈a,0≤x∧x<256)(hb:∀x∈b,0≤x∧x<256):((strOfNums a).toList==(strOfNums b).toList)=decide (a=b):=by
 rw [Lib.strOfNums_toList,Lib.strOfNums_toList]
 by_cases h:a=b
 · subst h;simp
 · have:Lib.bytesOf a≠Lib.bytesOf b:=fun e=>h (bytesOf_inj a b ha hb e)
   simp [h,this]
theorem equal_two (W:World)(b o c q:Nat)(x y:Int)(hx:0≤x∧x<256)(hy:0≤y∧y<256)(h0:W.cell? ⟨b,o,none⟩=some (.int .u8 x))(h1:W.cell? ⟨b,o+1,none⟩=some (.int .u8 y))
 (q0:W.cell? ⟨q,0,none⟩=some (.int .u8 61)) (q1:W.cell? ⟨q,1,none⟩=some (.int .u8 61)) :
 Calls Tryz.prog 217 #[.slice (some ⟨b,o,none⟩) 2 c,.slice (some ⟨q,0,none⟩) 2 2] W fun e w'=>e=.returned (.bool (x==61&&y==61))∧w'=W:=by
 have e1:=run_convert_bytes_arg W 22 5 Tryz.underlying22 Tryz.underlying5 b o 2 c [x,y] rfl (fun j hj=>by
  match j,hj with
  | 0,_=>simpa using h0
  | 1,_=>simpa using h1) 9 Tryz.underlying9
 have e2:=run_convert_bytes_arg W 22 5 Tryz.underlying22 Tryz.underlying5 q 0 2 2 [61,61] rfl (fun j hj=>by
  match j,hj with
  | 0,_=>simpa using q0
  | 1,_=>simpa using q1) 9 Tryz.underlying9
 have hs:((strOfNums [x,y]).toList==(strOfNums [61,61]).toList)=(x==61&&y==61):=by
  rw [str_eq [x,y] [61,61] (by simp;omega) (by simp)]
  rw [Bool.eq_iff_iff];simp
 generalize strOfNums [x,y]=s1 at *
 generalize strOfNums [61,61]=s2 at *
 generalize (x==61&&y==61)=r at *
 clear h0 h1 q0 q1
 go_enter Tryz.func217,Tryz.ntmps217
 go_wp2
 go_ret
 exact ⟨rfl,rfl⟩
theorem hasPrefix_two (W:World)(b o n c q:Nat)(ys:List Int)(hn:ys.length=n)(hnc:n≤c)(hb:n≤70000)(hy:∀i,0≤ys.getD i 0∧ys.getD i 0<256)(hc:∀i,i<n→W.cell? ⟨b,o+i,none⟩=some (.int .u8 (ys.getD i 0)))
 (q0:W.cell? ⟨q,0,none⟩=some (.int .u8 61)) (q1:W.cell? ⟨q,1,none⟩=some (.int .u8 61)) :
 Calls Tryz.prog 155 #[.slice (some ⟨b,o,none⟩) n c,.slice (some ⟨q,0,none⟩) 2 2] W fun e w'=>e=.returned (.bool (decide (2≤n)&&(ys.getD 0 0==61&&ys.getD 1 0==61)))∧w'=W:=by
 by_cases h2:2≤n
 · have E:=equal_two W b o c q (ys.getD 0 0) (ys.getD 1 0) (hy 0) (hy 1) (by simpa using hc 0 (by omega)) (hc 1 (by omega)) q0 q1
   generalize (ys.getD 0 0==61&&ys.getD 1 0==61)=r at *
   have h2d:(decide (2≤n)&&r)=r:=by simp [h2]
   rw [h2d]
   clear hc hy hn q0 q1 h2d
   go_enter Tryz.func155,Tryz.ntmps155
   go_wp2_with fail
   (with_reducible refine E.mono ?_)
   rintro e w' ⟨rfl,rfl⟩
   go_wp2
   go_ret
   exact ⟨rfl,rfl⟩
 · have h2d:(decide (2≤n)&&(ys.getD 0 0==61&&ys.getD 1 0==61))=false:=by simp;omega
   rw [h2d]
   clear hc hy hn q0 q1 h2d
   go_enter Tryz.func155,Tryz.ntmps155
   go_wp2
   all_goals go_ret
   all_goals first|exact ⟨rfl,rfl⟩|omega
theorem pastMark_at (w:World)(p:Option Addr)(len c kb i:Nat)(xs:List Int)(h:SK w p len c kb xs)(hb:len≤70000)(hi:i<len) :
 Calls Tryz.prog 92 #[.agg #[.slice p len c,.func (.func 87) #[] #[.pointer (some ⟨kb,0,none⟩)]],.int .i64 i] w fun e w'=>e=.returned (.int .i64 ((i+(if xs.getD i 0=61∧(xs.drop (i+1)).head?=some 61 then 2 else 1):Nat):Int))∧Below w.heap.size w w':=by
 have hlen:=h.len_eq
 have hcap:=h.cap
 obtain ⟨b,off,rfl,hbl,hc⟩:=h.addr (by omega)
 have hcv:(convert 22 22 (.slice (some ⟨w.heap.size+1,0,none⟩) 2 2)).run Tryz.prog ((w.alloc (.cells #[.slice (some ⟨b,off,none⟩) len c,.func (.func 87) #[] #[.pointer (some ⟨kb,0,none⟩)]] 90)).alloc (.cells #[.int .u8 61,.int .u8 61] 5))=.ok (.slice (some ⟨w.heap.size+1,0,none⟩) 2 2) ((w.alloc (.cells #[.slice (some ⟨b,off,none⟩) len c,.func (.func 87) #[] #[.pointer (some ⟨kb,0,none⟩)]] 90)).alloc (.cells #[.int .u8 61,.int .u8 61] 5 (2,3))):=by
  have:=Lib.run_convert_bytes_const (P:=Tryz.prog) (w.alloc (.cells #[.slice (some ⟨b,off,none⟩) len c,.func (.func 87) #[] #[.pointer (some ⟨kb,0,none⟩)]] 90)) 22 5 #[.int .u8 61,.int .u8 61] 2 2 Tryz.underlying22 Tryz.underlying5
  simpa using this
 have P1:=hasPrefix_two ((w.alloc (.cells #[.slice (some ⟨b,off,none⟩) len c,.func (.func 87) #[] #[.pointer (some ⟨kb,0,none⟩)]] 90)).alloc (.cells #[.int .u8 61,.int .u8 61] 5 (2,3))) b (off+i) (len-i) (c-i) (w.heap.size+1) (xs.drop i) (by simp;omega) (by omega) (by omega)
  (fun j=>by have:=h.byte (i+j);simpa [List.getD] using this)
  (fun j hj=>by rw [World.cell?_alloc_lt _ _ _ (by simp;omega),World.cell?_alloc_lt _ _ _ hbl,Nat.add_assoc,hc (i+j) (by omega)];simp [List.getD])
  (by rw [show w.heap.size+1=(w.alloc (.cells #[.slice (some ⟨b,off,none⟩) len c,.func (.func 87) #[] #[.pointer (some ⟨kb,0,none⟩)]] 90)).heap.size by simp,World.cell?_alloc_mark];rfl)
  (by rw [show w.heap.size+1=(w.alloc (.cells #[.slice (some ⟨b,off,none⟩) len c,.func (.func 87) #[] #[.pointer (some ⟨kb,0,none⟩)]] 90)).heap.size by simp,World.cell?_alloc_mark];rfl)
 have hr:(decide (2≤len-i)&&((xs.drop i).getD 0 0==61&&(xs.drop i).getD 1 0==61))=decide (xs.getD i 0=61∧(xs.drop (i+1)).head?=some 61):=by
  have e0:(xs.drop i).getD 0 0=xs.getD i 0:=by simp [List.getD]
  have e1:(xs.drop i).getD 1 0=xs.getD (i+1) 0:=by simp [List.getD]
  have e2:(xs.drop (i+1)).head?=xs[i+1]?:=by simp [List.head?_drop]
  rw [e0,e1,e2]
  by_cases hl:2≤len-i
  · have:i+1<xs.length:=by omega
    have e3:xs[i+1]?=some (xs.getD (i+1) 0):=by simp [List.getD,this]
    rw [e3,Bool.eq_iff_iff]
    simp [hl]
  · have:xs[i+1]?=none:=by simp;omega
    rw [this]
    simp [hl]
 rw [hr] at P1
 clear hr hc h hlen
 by_cases hq:xs.getD i 0=61∧(xs.drop (i+1)).head?=some 61
 · rw [if_pos hq]
   rw [decide_eq_true hq] at P1
   clear hq
   go_enter Tryz.func92,Tryz.ntmps92
   go_wp2_with fail
   (with_reducible refine P1.mono ?_)
   rintro e w' ⟨rfl,rfl⟩
   go_wp2
   go_ret
   exact ⟨retI (by omega),((Below.refl _ _).alloc (Nat.le_refl _) _).alloc (by simp) _⟩
 · rw [if_neg hq]
   rw [decide_eq_false hq] at P1
   clear hq
   go_enter Tryz.func92,Tryz.ntmps92
   go_wp2_with fail
   (with_reducible refine P1.mono ?_)
   rintro e w' ⟨rfl,rfl⟩
   go_wp2
   go_ret
   exact ⟨retI (by omega),((Below.refl _ _).alloc (Nat.le_refl _) _).alloc (by simp) _⟩
end
section
open Go.RowKit
theorem kind_digit (c:Int):(kindF c==4)=isDigit c:=by
 unfold kindF
 by_cases h1:isBlank c=true
 · have:c=32∨c=9∨c=10∨c=13:=by simpa [isBlank,or_assoc] using h1
   rcases this with rfl|rfl|rfl|rfl<;>decide
 · by_cases h2:c=35
   · subst h2;decide
   · by_cases h3:isLetter c=true
     · have:isDigit c=false:=by simp only [isLetter,isDigit,Bool.and_eq_true,decide_eq_true_eq,Bool.and_eq_false_iff,decide_eq_false_iff_not] at *;omega
       simp [h1,h2,h3,this]
     · by_cases h4:isDigit c=true
       · simp [h1,h2,h3,h4]
       · by_cases h5:c=95
         · subst h5;decide
         · by_cases h6:isMark c=true
           · simp [h1,h2,h3,h4,h5,h6]
           · simp [h1,h2,h3,h4,h5,h6]
abbrev tokV (k:Int)(a e:Int)(s:ByteArray)(n:Int):Value:=.agg #[.int .u8 k,.int .i64 a,.int .i64 e,.string s,.int .i64 n]
abbrev scanW (w:World)(p:Option Addr)(len c kb:Nat):World:=(w.alloc (.cells #[.slice p len c,.func (.func 87) #[] #[.pointer (some ⟨kb,0,none⟩)]] 90)).alloc (.cells #[.int .u8 0,.int .i64 0,.int .i64 0,.string ⟨#[]⟩,.int .i64 0] 29)
structure InT (w:World)(p:Option Addr)(len c kb:Nat)(W:World):Prop where
 b0:W.cell? ⟨w.heap.size,0,none⟩=some (.slice p len c)
 b1:W.cell? ⟨w.heap.size,1,none⟩=some (.func (.func 87) #[] #[.pointer (some ⟨kb,0,none⟩)])
 t0:∃v,W.cell? ⟨w.heap.size+1,0,none⟩=some v
 t1:∃v,W.cell? ⟨w.heap.size+1,1,none⟩=some v
 t2:∃v,W.cell? ⟨w.heap.size+1,2,none⟩=some v
 t3:∃v,W.cell? ⟨w.heap.size+1,3,none⟩=some v
 t4:∃v,W.cell? ⟨w.heap.size+1,4,none⟩=some v
 f0:W.frozen? ⟨w.heap.size+1,0,none⟩=false
 f1:W.frozen? ⟨w.heap.size+1,1,none⟩=false
 f2:W.frozen? ⟨w.heap.size+1,2,none⟩=false
 f3:W.frozen? ⟨w.heap.size+1,3,none⟩=false
 f4:W.frozen? ⟨w.heap.size+1,4,none⟩=false
 size:w.heap.size+1<W.heap.size
 below:Below w.heap.size w W
theorem InT.start (w:World)(p:Option Addr)(len c kb:Nat):InT w p len c kb (scanW w p len c kb) where
 b0:=by simp [scanW]
 b1:=by simp [scanW]
 t0:=⟨_,by simp [scanW];rfl⟩
 t1:=⟨_,by simp [scanW];rfl⟩
 t2:=⟨_,by simp [scanW];rfl⟩
 t3:=⟨_,by simp [scanW];rfl⟩
 t4:=⟨_,by simp [scanW];rfl⟩
 f0:=by simp [scanW]
 f1:=by simp [scanW]
 f2:=by simp [scanW]
 f3:=by simp [scanW]
 f4:=by simp [scanW]
 size:=by simp [scanW]
 below:=((Below.refl _ _).alloc (Nat.le_refl _) _).alloc (by simp) _
theorem InT.on {w W W':World}{p:Option Addr}{len c kb:Nat}(h:InT w p len c kb W)(hb:Below W.heap.size W W'):InT w p len c kb W' where
 b0:=by rw [hb.cell (p:=⟨w.heap.size,0,none⟩) (by have:=h.size;simp;omega)];exact h.b0
 b1:=by rw [hb.cell (p:=⟨w.heap.size,1,none⟩) (by have:=h.size;simp;omega)];exact h.b1
 t0:=by rw [hb.cell (p:=⟨w.heap.size+1,0,none⟩) h.size];exact h.t0
 t1:=by rw [hb.cell (p:=⟨w.heap.size+1,1,none⟩) h.size];exact h.t1
 t2:=by rw [hb.cell (p:=⟨w.heap.size+1,2,none⟩) h.size];exact h.t2
 t3:=by rw [hb.cell (p:=⟨w.heap.size+1,3,none⟩) h.size];exact h.t3
 t4:=by rw [hb.cell (p:=⟨w.heap.size+1,4,none⟩) h.size];exact h.t4
 f0:=by rw [hb.frozen (p:=⟨w.heap.size+1,0,none⟩) h.size];exact h.f0
 f1:=by rw [hb.frozen (p:=⟨w.heap.size+1,1,none⟩) h.size];exact h.f1
 f2:=by rw [hb.frozen (p:=⟨w.heap.size+1,2,none⟩) h.size];exact h.f2
 f3:=by rw [hb.frozen (p:=⟨w.heap.size+1,3,none⟩) h.size];exact h.f3
 f4:=by rw [hb.frozen (p:=⟨w.heap.size+1,4,none⟩) h.size];exact h.f4
 size:=Nat.lt_of_lt_of_le h.size hb.size
 below:=h.below.trans (hb.mono h.below.size)
theorem InT.set {w W:World}{p:Option Addr}{len c kb:Nat}(h:InT w p len c kb W)(k:Nat)(u:Value):InT w p len c kb (W.setCell ⟨w.heap.size+1,k,none⟩ u) where
 b0:=by rw [World.cell?_setCell_other _ _ _ _ (by simp)];exact h.b0
 b1:=by rw [World.cell?_setCell_other _ _ _ _ (by simp)];exact h.b1
 t0:=cell?_setCell_some h.t0.choose_spec
 t1:=cell?_setCell_some h.t1.choose_spec
 t2:=cell?_setCell_some h.t2.choose_spec
 t3:=cell?_setCell_some h.t3.choose_spec
 t4:=cell?_setCell_some h.t4.choose_spec
 f0:=by simp [h.f0]
 f1:=by simp [h.f1]
 f2:=by simp [h.f2]
 f3:=by simp [h.f3]
 f4:=by simp [h.f4]
 size:=by simpa [World.setCell] using h.size
 below:=h.below.setCell (by simp) _
def NumPost (xs:List Int)(i:Nat)(w:World)(e:Ending)(w':World):Prop :=
 (e = match numV 0 (xs.drop i) with
  | some n=>.returned (.tuple #[tokV 2 i ((i+run isDigit (xs.drop i):Nat):Int) (strOfNums ((xs.drop i).take (run isDigit (xs.drop i)))) n,.int .i64 0])
  | none=>.returned (.tuple #[tokV 0 0 0 ⟨#[]⟩ 0,.int .i64 31]))∧Below w.heap.size w w'
theorem five {B b:Nat}{w W:World}(hb:Below B w W)(h:B≤b)(v0 v1 v2 v3 v4:Value):Below B w (((((W.setCell ⟨b,0,none⟩ v0).setCell ⟨b,1,none⟩ v1).setCell ⟨b,2,none⟩ v2).setCell ⟨b,3,none⟩ v3).setCell ⟨b,4,none⟩ v4) :=
 ((((hb.setCell (by simpa using h) _).setCell (by simpa using h) _).setCell (by simpa using h) _).setCell (by simpa using h) _).setCell (by simpa using h) _
theorem numPost_tok {xs:List Int}{i j:Nat}{w W:World}{n:Int}{st:ByteArray}(hj:j=i+run isDigit (xs.drop i))(hs:strOfNums ((xs.drop i).take (j-i))=st)(hn:numV 0 (xs.drop i)=some n)(hb:Below w.heap.size w W) :
 NumPost xs i w (.returned (.tuple #[tokV 2 i j st n,.int .i64 0])) W:=by
 subst hs
 refine ⟨?_,hb⟩
 rw [hn]
 subst hj
 rw [Nat.add_sub_cancel_left]
theorem numV_no (n:Int)(l:List Int)(h:run isDigit l=0):numV n l=some n:=by
 cases l with
 | nil=>rfl
 | cons c r =>
  simp only [run] at h
  by_cases hd:isDigit c=true
  · simp [hd] at h
  · simp [numV,hd]
theorem numV_yes (n:Int)(xs:List Int)(j:Nat)(h:j<xs.length)(hd:isDigit (xs.getD j 0)=true):numV n (xs.drop j)=if 2147483647<10*n+(xs.getD j 0-48) then none else numV (10*n+(xs.getD j 0-48)) (xs.drop (j+1)):=by
 rw [drop_at xs j h,numV,if_pos hd]
theorem lexNumber_at (w:World)(p:Option Addr)(len c kb i:Nat)(xs:List Int)(h:SK w p len c kb xs)(hb:len≤70000)(hi:i<len)(hd0:isDigit (xs.getD i 0)=true) :
 Calls Tryz.prog 91 #[.agg #[.slice p len c,.func (.func 87) #[] #[.pointer (some ⟨kb,0,none⟩)]],.int .i64 i] w (NumPost xs i w):=by
 have H:=lh h
 have hlen:=lh h.len_eq
 have HI:=lh (InT.start w p len c kb)
 have hpos:i<i+run isDigit (xs.drop i):=by have:=run_yes isDigit xs i (by have:=h.len_eq;omega) hd0;omega
 have HP:=lh hpos
 clear h hd0 hpos
 go_enter Tryz.func91,Tryz.ntmps91
 go_wp2_with fail
 go_loopw [6,7] (fun nv ev wr=>∃(j:Nat) (n:Int),i≤j∧j≤len∧0≤n∧n≤2147483647∧nv=.int .i64 n∧ev=.int .i64 j∧Hid (j+run isDigit (xs.drop j)=i+run isDigit (xs.drop i))∧Hid (numV n (xs.drop j)=numV 0 (xs.drop i))∧Hid (InT w p len c kb wr)) (fun _ ev _=>len-(intOf ev).toNat)
 case atStart=>exact ⟨i,0,by omega,by omega,by omega,by omega,rfl,rfl,lh rfl,lh rfl,HI⟩
 case round =>
  obtain ⟨j,n,hij,hj,hn0,hn1,rfl,rfl,HB,HN,HT⟩:=hrel
  have c0:=HT.out.b0
  have c1:=HT.out.b1
  have hsk:=lh (H.out.on (Nat.le_refl _) HT.out.below)
  by_cases hjl:j<len
  · obtain ⟨b,off,rfl,hbl,hc⟩:=hsk.out.addr (by omega)
    have hcj:=hc j hjl
    have hby:=hsk.out.byte j
    obtain ⟨m,hm⟩:∃m:Nat,xs.getD j 0=m:=⟨(xs.getD j 0).toNat,by omega⟩
    rw [hm] at hcj hby
    have HM:=lh hm
    have hm256:m<256:=by omega
    have HK:=lh (hsk.out.kinds m hm256)
    have HD:=lh (kind_digit m)
    clear hc hbl hm hby
    have hj2:(j:Int)<(len:Int):=by omega
    go_wp2_with fail
    go_quiet (first|(go_at_call 87;refine Calls.quiet_of_same (kind_at _ kb m hm256 HK.out)))
    have HT2:=lh (HT.out.on (drewN_below _ wr nq))
    clear HK
    generalize kindF m=k at *
    obtain ⟨t,ht⟩:∃t,(k==4)=t:=⟨_,rfl⟩
    have HTt:=lh (HD.out.symm.trans ht)
    rw [ht]
    clear ht HD
    cases t with
    | true =>
     have hdd:48≤m∧m≤57:=by have:=HTt.out;simp [isDigit] at this;omega
     obtain ⟨hd1,hd2⟩:=hdd
     have hjx:j<xs.length:=by have:=hlen.out;omega
     have hdj:isDigit (xs.getD j 0)=true:=by rw [HM.out];exact HTt.out
     have HY:=lh (numV_yes n xs j hjx hdj)
     have HR:=lh (run_yes isDigit xs j hjx hdj)
     clear hjx hdj
     rw [HM.out] at HY
     by_cases hbig:2147483647<10*n+((m:Int)-48)
     · have HF:Hid (numV 0 (xs.drop i)=none):=lh (by rw [← HN.out,HY.out,if_pos hbig])
       obtain ⟨_,_,⟨v0,z0⟩,⟨v1,z1⟩,⟨v2,z2⟩,⟨v3,z3⟩,⟨v4,z4⟩,y0,y1,y2,y3,y4,zs,zb⟩:=HT2.out
       have ZB:=lh zb
       clear zb HT HI H
       go_wp2
       simp [bodyPost,results,Tryz.results91,go_sem,z0,z1,z2,z3,z4]
       exact ⟨by rw [HF.out],five ZB.out (by omega) _ _ _ _ _⟩
     · have HF:Hid (numV n (xs.drop j)=numV (10*n+((m:Int)-48)) (xs.drop (j+1))):=lh (by rw [HY.out,if_neg hbig])
       go_wp2
       go_roundw
       case rel=>exact ⟨j+1,10*n+((m:Int)-48),by omega,by omega,by omega,by omega,rfl,by go_num,lh (by have:=HR.out;have:=HB.out;omega),lh (by rw [← HF.out,HN.out]),HT2⟩
       case measure=>simp [intOf];omega
    | false =>
     have hjx:j<xs.length:=by have:=hlen.out;omega
     have hdj:isDigit (xs.getD j 0)=false:=by rw [HM.out];exact HTt.out
     have HR:=lh (run_no isDigit xs j hjx hdj)
     have HF:Hid (numV 0 (xs.drop i)=some n):=lh (by rw [← HN.out,numV_no _ _ HR.out])
     have hji:j=i+run isDigit (xs.drop i):=by have:=HR.out;have:=HB.out;omega
     clear hjx hdj
     have hij2:i<j:=by have:=HP.out;omega
     have HJ:=lh hji
     clear hji
     have W1:=lexWord_at (wr.drewN nq) (some ⟨b,off,none⟩) len c kb i j 2 xs (hsk.out.on (Nat.le_refl _) (drewN_below _ wr nq)) hb hij2 (by omega)
     go_wp2_with fail
     (with_reducible refine W1.mono ?_)
     rintro e w1 ⟨rfl,hb1⟩
     have HT3:=lh (HT2.out.on hb1)
     obtain ⟨_,_,⟨v0,z0⟩,⟨v1,z1⟩,⟨v2,z2⟩,⟨v3,z3⟩,⟨v4,z4⟩,y0,y1,y2,y3,y4,zs,zb⟩:=HT3.out
     have ZB:=lh zb
     clear zb HT HI H hb1 W1
     generalize hst:strOfNums ((xs.drop i).take (j-i))=st at *
     have HS:=lh hst
     clear hst
     go_wp2
     simp [bodyPost,results,Tryz.results91,go_sem,z0,z1,z2,z3,z4,zs]
     exact numPost_tok HJ.out HS.out HF.out ((five ZB.out (by omega) _ _ _ _ _).alloc (by have:=ZB.out.size;simpa using this) _)
  · have hjd:decide ((j:Int)<(len:Int))=false:=by simp;omega
    go_wp2_with fail
    go_quiet (fail)
    have hjx:xs.length≤j:=by have:=hlen.out;omega
    have HR:=lh (run_out isDigit xs j hjx)
    have HF:Hid (numV 0 (xs.drop i)=some n):=lh (by rw [← HN.out,numV_no _ _ HR.out])
    have hji:j=i+run isDigit (xs.drop i):=by have:=HR.out;have:=HB.out;omega
    clear hjx
    have hij2:i<j:=by have:=HP.out;omega
    have HJ:=lh hji
    clear hji
    have HT2:=lh (HT.out.on (drewN_below _ wr nq))
    have W1:=lexWord_at (wr.drewN nq) p len c kb i j 2 xs (hsk.out.on (Nat.le_refl _) (drewN_below _ wr nq)) hb hij2 (by omega)
    go_wp2_with fail
    (with_reducible refine W1.mono ?_)
    rintro e w1 ⟨rfl,hb1⟩
    have HT3:=lh (HT2.out.on hb1)
    obtain ⟨_,_,⟨v0,z0⟩,⟨v1,z1⟩,⟨v2,z2⟩,⟨v3,z3⟩,⟨v4,z4⟩,y0,y1,y2,y3,y4,zs,zb⟩:=HT3.out
    have ZB:=lh zb
    clear zb HT HI H hb1 W1
    generalize hst:strOfNums ((xs.drop i).take (j-i))=st at *
    have HS:=lh hst
    clear hst
    go_wp2
    simp [bodyPost,results,Tryz.results91,go_sem,z0,z1,z2,z3,z4,zs]
    exact numPost_tok HJ.out HS.out HF.out ((five ZB.out (by omega) _ _ _ _ _).alloc (by have:=ZB.out.size;simpa using this) _)
end
section
open Go.RowKit
theorem kind_letter (c:Int):(kindF c==3)=isLetter c:=by
 unfold kindF
 by_cases h1:isBlank c=true
 · have:c=32∨c=9∨c=10∨c=13:=by simpa [isBlank,or_assoc] using h1
   rcases this with rfl|rfl|rfl|rfl<;>decide
 · by_cases h2:c=35
   · subst h2;decide
   · by_cases h3:isLetter c=true
     · simp [h1,h2,h3]
     · simp only [h1,h2,h3]
       repeat' split
       all_goals simp_all
theorem mark_cases {c:Int}(h:isMark c=true):c=123∨c=125∨c=40∨c=41∨c=91∨c=93∨c=59∨c=44∨c=46∨c=43∨c=45∨c=42∨c=60∨c=61:=by
 simpa [isMark] using h
theorem kind_mark (c:Int):(kindF c==6)=isMark c:=by
 by_cases h:isMark c=true
 · rcases mark_cases h with rfl|rfl|rfl|rfl|rfl|rfl|rfl|rfl|rfl|rfl|rfl|rfl|rfl|rfl<;>decide
 · have h':isMark c=false:=by simpa using h
   unfold kindF
   rw [h']
   repeat' split
   all_goals simp_all
def TokPost (xs:List Int)(i:Nat)(w:World)(e:Ending)(w':World):Prop :=
 (e = match step (xs.drop i) with
  | .err er=>.returned (.tuple #[tokV 0 0 0 ⟨#[]⟩ 0,.int .i64 er])
  | .tok k l n=>.returned (.tuple #[tokV k i ((i+l:Nat):Int) (strOfNums ((xs.drop i).take l)) n,.int .i64 0]))∧Below w.heap.size w w'
theorem tokPost_tok {xs:List Int}{i l j:Nat}{w W:World}{k n:Int}{st:ByteArray}(hs:step (xs.drop i)=.tok k l n)(hj:j=i+l)(ht:strOfNums ((xs.drop i).take (j-i))=st)(hb:Below w.heap.size w W) :
 TokPost xs i w (.returned (.tuple #[tokV k i j st n,.int .i64 0])) W:=by
 subst ht
 refine ⟨?_,hb⟩
 rw [hs]
 subst hj
 rw [Nat.add_sub_cancel_left]
theorem tokPost_err {xs:List Int}{i:Nat}{w W:World}{er:Int}(hs:step (xs.drop i)=.err er)(hb:Below w.heap.size w W) :
 TokPost xs i w (.returned (.tuple #[tokV 0 0 0 ⟨#[]⟩ 0,.int .i64 er])) W:=by
 refine ⟨?_,hb⟩
 rw [hs]
theorem word_keep (w:World)(p:Option Addr)(len c kb i e:Nat)(kd:Int)(xs:List Int)(h:SK w p len c kb xs)(hb:len≤70000)(hi:i<e)(he:e≤len)(W:World)(hW:InT w p len c kb W) :
 Calls Tryz.prog 89 #[.agg #[.slice p len c,.func (.func 87) #[] #[.pointer (some ⟨kb,0,none⟩)]],.int .u8 kd,.int .i64 i,.int .i64 e] W fun ev w'=>ev=.returned (.agg #[.int .u8 kd,.int .i64 i,.int .i64 e,.string (strOfNums ((xs.drop i).take (e-i))),.int .i64 0])∧InT w p len c kb w' :=
 (lexWord_at W p len c kb i e kd xs (h.on (Nat.le_refl _) hW.below) hb hi he).mono fun _ _ ⟨h1,h2⟩=>⟨h1,hW.on h2⟩
theorem pastName_keep (w:World)(p:Option Addr)(len c kb i:Nat)(xs:List Int)(h:SK w p len c kb xs)(hb:len≤70000)(hi:i≤len)(W:World)(hW:InT w p len c kb W) :
 Calls Tryz.prog 90 #[.agg #[.slice p len c,.func (.func 87) #[] #[.pointer (some ⟨kb,0,none⟩)]],.int .i64 i] W fun ev w'=>ev=.returned (.int .i64 ((i+run isNameB (xs.drop i):Nat):Int))∧InT w p len c kb w' :=
 (pastName_at W p len c kb i xs (h.on (Nat.le_refl _) hW.below) hb hi).mono fun _ _ ⟨h1,h2⟩=>⟨h1,hW.on h2⟩
theorem pastMark_keep (w:World)(p:Option Addr)(len c kb i:Nat)(xs:List Int)(h:SK w p len c kb xs)(hb:len≤70000)(hi:i<len)(W:World)(hW:InT w p len c kb W) :
 Calls Tryz.prog 92 #[.agg #[.slice p len c,.func (.func 87) #[] #[.pointer (some ⟨kb,0,none⟩)]],.int .i64 i] W fun ev w'=>ev=.returned (.int .i64 ((i+(if xs.getD i 0=61∧(xs.drop (i+1)).head?=some 61 then 2 else 1):Nat):Int))∧InT w p len c kb w' :=
 (pastMark_at W p len c kb i xs (h.on (Nat.le_refl _) hW.below) hb hi).mono fun _ _ ⟨h1,h2⟩=>⟨h1,hW.on h2⟩
theorem tokenAt_at (w:World)(p:Option Addr)(len c kb i:Nat)(xs:List Int)(h:SK w p len c kb xs)(hb:len≤70000)(hi:i<len) :
 Calls Tryz.prog 49 #[.agg #[.slice p len c,.func (.func 87) #[] #[.pointer (some ⟨kb,0,none⟩)]],.int .i64 i] w (TokPost xs i w):=by
 have hlen:=lh h.len_eq
 have HI:=lh (InT.start w p len c kb)
 have hsk:=lh (h.on (Nat.le_refl _) HI.out.below)
 obtain ⟨b,off,rfl,hbl,hc⟩:=hsk.out.addr (by omega)
 have hcj:=hc i hi
 have hby:=hsk.out.byte i
 obtain ⟨m,hm⟩:∃m:Nat,xs.getD i 0=m:=⟨(xs.getD i 0).toNat,by omega⟩
 rw [hm] at hcj hby
 have HM:=lh hm
 have hm256:m<256:=by omega
 have HK:=lh (hsk.out.kinds m hm256)
 have HX:=lh (drop_at xs i (by have:=h.len_eq;omega))
 have KL:=lh (kind_letter m)
 have KD:=lh (kind_digit m)
 have KM:=lh (kind_mark m)
 have HRn:=lh (run_le isNameB (xs.drop i))
 have hpn:=pastName_keep w (some ⟨b,off,none⟩) len c kb i xs h hb (by omega)
 have hpm:=pastMark_keep w (some ⟨b,off,none⟩) len c kb i xs h hb hi
 have hpw:=fun e kd (he:i<e) (he2:e≤len)=>word_keep w (some ⟨b,off,none⟩) len c kb i e kd xs h hb he he2
 have H:=lh h
 have PN:=lh hpn
 have PM:=lh hpm
 have PW:=lh hpw
 clear hc hbl hm hby hpn hpm hpw h
 go_enter Tryz.func49,Tryz.ntmps49
 go_wp2_with fail
 go_quiet (first|(go_at_call 87;refine Calls.quiet_of_same (kind_at _ kb m hm256 HK.out)))
 have HIn:=lh (HI.out.on (drewN_below _ _ nq))
 have HId:InT w (some ⟨b,off,none⟩) len c kb ((scanW w (some ⟨b,off,none⟩) len c kb).drewN nq).drew:=HIn.out.on (drewN_below _ _ 1)
 clear HK
 generalize kindF m=k at *
 by_cases k3:k=3
 · subst k3
   have hst:step (xs.drop i)=.tok 1 (run isNameB (xs.drop i)) 0:=by rw [HX.out,step,HM.out,if_pos (by simpa using KL.out.symm)]
   have hpos:i<i+run isNameB (xs.drop i)∧i+run isNameB (xs.drop i)≤len:=by
    have h1:=(step_len hst).1
    have h2:=HRn.out
    rw [List.length_drop,hlen.out] at h2
    omega
   obtain ⟨j,hj⟩:∃j,i+run isNameB (xs.drop i)=j:=⟨_,rfl⟩
   rw [hj] at hpos
   have PN0:=PN.out
   rw [hj] at PN0
   have PN1:=lh PN0
   have HJ:=lh hj
   have HS:=lh hst
   have PW1:=lh (PW.out j 1 hpos.1 hpos.2)
   clear PN0 hj hst PN PM PW
   generalize hst:strOfNums ((xs.drop i).take (j-i))=st at *
   have HT:=lh hst
   clear hst
   go_wp2_with fail
   go_region_held3 (fun w'=>w'.cell? ⟨w.heap.size,0,none⟩=some (.slice (some ⟨b,off,none⟩) len c)∧w'.cell? ⟨w.heap.size,1,none⟩=some (.func (.func 87) #[] #[.pointer (some ⟨kb,0,none⟩)])∧InT w (some ⟨b,off,none⟩) len c kb w') (refine ⟨?_,?_,?_⟩<;>(first|(with_reducible assumption)|go_keep|(repeat (with_reducible refine InT.set ?_ _ _));with_reducible assumption))
    (first
     | (go_at_call 90;(with_reducible refine (PN1.out _ ?_).mono ?_);(assumption);rintro e w' ⟨rfl,q⟩;have q0:=q.b0;have q1:=q.b1)
     | (go_at_call 89;(with_reducible refine (PW1.out _ ?_).mono ?_);(assumption);rintro e w' ⟨rfl,q⟩;have q0:=q.b0;have q1:=q.b1;obtain ⟨v0,z0⟩:=q.t0;obtain ⟨v1,z1⟩:=q.t1;obtain ⟨v2,z2⟩:=q.t2;obtain ⟨v3,z3⟩:=q.t3;obtain ⟨v4,z4⟩:=q.t4;have y0:=q.f0;have y1:=q.f1;have y2:=q.f2;have y3:=q.f3;have y4:=q.f4))
   all_goals go_wp2
   all_goals simp [bodyPost,results,Tryz.results49,go_sem,z0,z1,z2,z3,z4]
   all_goals exact tokPost_tok HS.out HJ.out.symm HT.out (five q.below (by omega) _ _ _ _ _)
 · have k3':(k==3)=false:=by simpa using k3
   by_cases k4:k=4
   · subst k4
     have hnl:¬ (isLetter (m:Int)=true):=by rw [← KL.out];simp
     have hdg:isDigit (m:Int)=true:=by simpa using KD.out.symm
     have NA:=lexNumber_at ((scanW w (some ⟨b,off,none⟩) len c kb).drewN nq) (some ⟨b,off,none⟩) len c kb i xs (hsk.out.on (Nat.le_refl _) (drewN_below _ _ nq)) hb hi (by rw [HM.out];exact hdg)
     cases hn:numV 0 (xs.drop i) with
     | some n =>
      have hst:step (xs.drop i)=.tok 2 (run isDigit (xs.drop i)) n:=by
       rw [HX.out,HM.out] at hn
       rw [HX.out,step,HM.out,if_neg hnl,if_pos hdg,hn]
      obtain ⟨j,hj⟩:∃j,i+run isDigit (xs.drop i)=j:=⟨_,rfl⟩
      obtain ⟨st,ht⟩:∃st,strOfNums ((xs.drop i).take (j-i))=st:=⟨_,rfl⟩
      have NA1:=NA.mono (R':=fun e w'=>e=.returned (.tuple #[tokV 2 i j st n,.int .i64 0])∧InT w (some ⟨b,off,none⟩) len c kb w') (fun e w' h=>⟨by
       have h1:=h.1
       rw [hn] at h1
       rw [h1,← ht,← hj,Nat.add_sub_cancel_left],HIn.out.on h.2⟩)
      have HJ:=lh hj
      have HS:=lh hst
      have HT:=lh ht
      have NA2:=lh NA1
      clear NA NA1 hj hst ht hn hnl hdg PN PM PW HId
      go_wp2_with fail
      (with_reducible refine NA2.out.mono ?_)
      rintro e w' ⟨rfl,q⟩
      obtain ⟨_,_,⟨v0,z0⟩,⟨v1,z1⟩,⟨v2,z2⟩,⟨v3,z3⟩,⟨v4,z4⟩,y0,y1,y2,y3,y4,zs,zb⟩:=q
      have ZB:=lh zb
      clear zb HI H NA2
      go_wp2
      simp [bodyPost,results,Tryz.results49,go_sem,z0,z1,z2,z3,z4]
      exact tokPost_tok HS.out HJ.out.symm HT.out (five ZB.out (by omega) _ _ _ _ _)
     | none =>
      have hst:step (xs.drop i)=.err 31:=by
       rw [HX.out,HM.out] at hn
       rw [HX.out,step,HM.out,if_neg hnl,if_pos hdg,hn]
      have NA1:=NA.mono (R':=fun e w'=>e=.returned (.tuple #[tokV 0 0 0 ⟨#[]⟩ 0,.int .i64 31])∧InT w (some ⟨b,off,none⟩) len c kb w') (fun e w' h=>⟨by
       have h1:=h.1
       rw [hn] at h1
       exact h1,HIn.out.on h.2⟩)
      have HS:=lh hst
      have NA2:=lh NA1
      clear NA NA1 hst hn hnl hdg PN PM PW HId
      go_wp2_with fail
      (with_reducible refine NA2.out.mono ?_)
      rintro e w' ⟨rfl,q⟩
      obtain ⟨_,_,⟨v0,z0⟩,⟨v1,z1⟩,⟨v2,z2⟩,⟨v3,z3⟩,⟨v4,z4⟩,y0,y1,y2,y3,y4,zs,zb⟩:=q
      have ZB:=lh zb
      clear zb HI H NA2
      go_wp2
      simp [bodyPost,results,Tryz.results49,go_sem,z0,z1,z2,z3,z4]
      exact tokPost_err HS.out (five ZB.out (by omega) _ _ _ _ _)
   · have k4':(k==4)=false:=by simpa using k4
     by_cases k6:k=6
     · subst k6
       have hst:step (xs.drop i)=.tok 3 (if xs.getD i 0=61∧(xs.drop (i+1)).head?=some 61 then 2 else 1) 0:=by
        rw [HX.out,step,HM.out,if_neg (by rw [← KL.out];simp),if_neg (by rw [← KD.out];simp),if_pos (by simpa using KM.out.symm)]
       have hpos:i<i+(if xs.getD i 0=61∧(xs.drop (i+1)).head?=some 61 then 2 else 1)∧i+(if xs.getD i 0=61∧(xs.drop (i+1)).head?=some 61 then 2 else 1)≤len:=by
        have h1:=step_len hst
        rw [List.length_drop,hlen.out] at h1
        omega
       obtain ⟨j,hj⟩:∃j,i+(if xs.getD i 0=61∧(xs.drop (i+1)).head?=some 61 then 2 else 1)=j:=⟨_,rfl⟩
       rw [hj] at hpos
       have PN0:=PM.out
       rw [hj] at PN0
       have PN1:=lh PN0
       have HJ:=lh hj
       have HS:=lh hst
       have PW1:=lh (PW.out j 3 hpos.1 hpos.2)
       clear PN0 hj hst PN PM PW
       generalize hst:strOfNums ((xs.drop i).take (j-i))=st at *
       have HT:=lh hst
       clear hst
       go_wp2_with fail
       go_region_held3 (fun w'=>w'.cell? ⟨w.heap.size,0,none⟩=some (.slice (some ⟨b,off,none⟩) len c)∧w'.cell? ⟨w.heap.size,1,none⟩=some (.func (.func 87) #[] #[.pointer (some ⟨kb,0,none⟩)])∧InT w (some ⟨b,off,none⟩) len c kb w') (refine ⟨?_,?_,?_⟩<;>(first|(with_reducible assumption)|go_keep|(repeat (with_reducible refine InT.set ?_ _ _));with_reducible assumption))
        (first
         | (go_at_call 92;(with_reducible refine (PN1.out _ ?_).mono ?_);(assumption);rintro e w' ⟨rfl,q⟩;have q0:=q.b0;have q1:=q.b1)
         | (go_at_call 89;(with_reducible refine (PW1.out _ ?_).mono ?_);(assumption);rintro e w' ⟨rfl,q⟩;have q0:=q.b0;have q1:=q.b1;obtain ⟨v0,z0⟩:=q.t0;obtain ⟨v1,z1⟩:=q.t1;obtain ⟨v2,z2⟩:=q.t2;obtain ⟨v3,z3⟩:=q.t3;obtain ⟨v4,z4⟩:=q.t4;have y0:=q.f0;have y1:=q.f1;have y2:=q.f2;have y3:=q.f3;have y4:=q.f4))
       all_goals go_wp2
       all_goals simp [bodyPost,results,Tryz.results49,go_sem,z0,z1,z2,z3,z4]
       all_goals exact tokPost_tok HS.out HJ.out.symm HT.out (five q.below (by omega) _ _ _ _ _)
     · have k6':(k==6)=false:=by simpa using k6
       obtain ⟨_,_,⟨v0,z0⟩,⟨v1,z1⟩,⟨v2,z2⟩,⟨v3,z3⟩,⟨v4,z4⟩,y0,y1,y2,y3,y4,zs,zb⟩:=HIn.out
       have ZB:=lh zb
       clear zb HI H
       go_wp2
       simp [bodyPost,results,Tryz.results49,go_sem,z0,z1,z2,z3,z4]
       refine tokPost_err ?_ (five ZB.out (by omega) _ _ _ _ _)
       rw [HX.out,step,HM.out,if_neg (by rw [← KL.out];simp [k3']),if_neg (by rw [← KD.out];simp [k4']),if_neg (by rw [← KM.out];simp [k6'])]
end
end Go.Proofs.YthdioipfdbbmmaaGreatDoor
