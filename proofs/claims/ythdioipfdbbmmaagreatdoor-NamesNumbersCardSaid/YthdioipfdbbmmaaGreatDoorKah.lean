/- Contracts. -/
import Derived.Test.YthdioipfdbbmmaaGreatDoorKaf
import Derived.WalkKit
import Derived.Handy
import Derived.Below
import Derived.Lib.Hide
import Derived.Test.YthdioipfdbbmmaaGreatDoorProg
import Derived.Carry
import Derived.MapKept
set_option linter.all false
set_option maxRecDepth 1000000
set_option maxHeartbeats 16000000
namespace Go.Proofs.YthdioipfdbbmmaaGreatDoor
section
theorem nn {α:Sort _} {c:Prop} [Decidable c] {a b:α} (h:¬c:=by decide):(if c then a else b)=b:=if_neg h
theorem ckH {w0:World} {b kb k:Nat} {v:Value} (h:kb<b) (c:w0.cell? ⟨kb,k,none⟩=some v):RowKit.Hid (∀ w',RowKit.Below b w0 w'→w'.cell? ⟨kb,k,none⟩=some v):=fun _ hw=>(hw.cell (p:=⟨kb,k,none⟩) h).trans c
theorem ob {w:World} {o:Obj} {p:Prop} (h:p:=by first|rfl|simp):p∧RowKit.Below w.heap.size w (w.alloc o):=⟨h,(RowKit.Below.refl _ _).alloc (Nat.le_refl _) _⟩
theorem lh {p:Prop}(h:p):RowKit.Hid p:=h
theorem pn:(∀(a:Act) (d:Tmp) (v:Value),a.put (some d) v={ a with tmps:=a.tmps.setIfInBounds d v })∧(∀(a:Act) (v:Value),a.put none v=a)∧(∀(α:Type) (l:List α) (i:Nat) (h:i<l.toArray.size),l.toArray[i]=l[i]'(by simpa using h))∧(∀(α:Type) (x:α) (l:List α) (h:0<(x::l).length),(x::l)[0]=x)∧(∀(α:Type) (x:α) (l:List α) (i:Nat) (h:i+1<(x::l).length),(x::l)[i+1]=l[i]'(by simpa using h))∧(∀(α:Type) (l:List α) (i:Nat) (v:α),l.toArray.setIfInBounds i v=(l.set i v).toArray)∧(∀(α:Type) (x:α) (l:List α) (v:α),(x::l).set 0 v=v::l)∧(∀(α:Type) (x:α) (l:List α) (i:Nat) (v:α),(x::l).set (i+1) v=x::l.set i v) :=
 ⟨fun _ _ _=>rfl,fun _ _=>rfl,fun _ _ _ _=>by simp,fun _ _ _ _=>rfl,fun _ _ _ _ _=>rfl,fun _ _ _ _=>by simp,fun _ _ _ _=>rfl,fun _ _ _ _ _=>rfl⟩
end
section
open Go.RowKit Go.MapKept
theorem insert_new (w:World)(es:Array MapEntry)(n:Nat)(k:Int)(v:Value)(h:Instr.findNow (.int .u8) (.int .u8 k) es.toList 0=some none) :
 (Instr.mapUpdate 150 (.map (some w.heap.size)) (.int .u8 k) v).run Tryz.prog (w.alloc (.map es n))=.ok () (w.alloc (.map (es.push { key:=.int .u8 k,val:=v,born:=n }) (n+1))):=by
 have hb:(w.alloc (.map es n)).heap[w.heap.size]?=some (.map es n):=by
  show (w.heap.push (.map es n))[w.heap.size]?=_
  simp
 have hk:(Instr.checkKey false 10000 147 (.int .u8 k)).run Tryz.prog (w.alloc (.map es n))=.ok () (w.alloc (.map es n)):=run_checkKey Tryz.underlying147 (by simp [IsKey]) false 9999
 have hp:∀(a:Array Obj) (x y:Obj),(a.push x).setIfInBounds a.size y=a.push y:=fun a x y=>by
  apply Array.ext_getElem?
  intro i
  by_cases h:i=a.size
  · subst h;simp
  · have h':¬ a.size=i:=fun e=>h e.symm
    simp [Array.getElem?_push,h,h']
 have hw:∀o:Obj,({ w.alloc (.map es n) with heap:=(w.alloc (.map es n)).heap.setIfInBounds w.heap.size o }:World)=w.alloc o:=fun o=>by
  show ({ w with heap:=(w.heap.push (.map es n)).setIfInBounds w.heap.size o }:World)=_
  rw [hp]
  rfl
 simp only [Instr.mapUpdate,Sem.run_bind,run_underlying Tryz.underlying150,Result.andThen,Go.MapKept.run_getObj_map hb,hk,run_findKey (P:=Tryz.prog) Tryz.underlying147 h,run_setObj_map _ hb,hw]
theorem lookup_at (W:World)(r:Nat)(es:Array MapEntry)(n i:Nat)(k:Int)(v:Value)(hb:W.heap[r]?=some (.map es n))(h:Instr.findNow (.int .u8) (.int .u8 k) es.toList 0=some (some (i,v))) :
 (Instr.lookup 150 (.map (some r)) (.int .u8 k) false).run Tryz.prog W=.ok v W:=by
 have hk:∀b,(Instr.checkKey b 10000 147 (.int .u8 k)).run Tryz.prog W=.ok () W:=fun b=>run_checkKey Tryz.underlying147 (by simp [IsKey]) b 9999
 simp only [Instr.lookup,Sem.run_bind,run_underlying Tryz.underlying150,Result.andThen,Go.MapKept.run_getObj_map hb,hk,run_findKey (P:=Tryz.prog) Tryz.underlying147 h,Sem.run_pure]
 simp
def mem (k:Int):ByteArray :=
 if k=1 then ⟨#[32,9,10,13]⟩ else if k=2 then ⟨#[35]⟩
 else if k=3 then ⟨#[97,98,99,100,101,102,103,104,105,106,107,108,109,110,111,112,113,114,115,116,117,118,119,120,121,122]⟩
 else if k=4 then ⟨#[48,49,50,51,52,53,54,55,56,57]⟩ else if k=5 then ⟨#[95]⟩
 else ⟨#[123,125,40,41,91,93,59,44,46,43,45,42,60,61]⟩
def ent (k:Int)(b:Nat):MapEntry:={ key:=.int .u8 k,val:=.agg #[.string (mem k)],born:=b }
def ES:Array MapEntry:=#[ent 1 0,ent 2 1,ent 3 2,ent 4 3,ent 5 4,ent 6 5]
theorem find_es (k:Int)(h1:1≤k)(h6:k≤6):∃i,Instr.findNow (.int .u8) (.int .u8 k) ES.toList 0=some (some (i,.agg #[.string (mem k)])):=by
 obtain rfl|rfl|rfl|rfl|rfl|rfl:k=1∨k=2∨k=3∨k=4∨k=5∨k=6:=by omega
 all_goals exact ⟨_,rfl⟩
def paint (s:ByteArray)(k:Int)(j:Nat)(F:Nat→Int):Nat→Int:=fun x=>if ((s.data.toList.take j).map UInt8.toNat).contains x then k else F x
theorem paint_zero (s:ByteArray)(k:Int)(F:Nat→Int):paint s k 0 F=F:=by funext x;simp [paint]
theorem paint_succ (s:ByteArray)(k:Int)(j:Nat)(F:Nat→Int)(h:j<s.size):paint s k (j+1) F=fun x=>if x=s[j].toNat then k else paint s k j F x:=by
 have hj:j<s.data.toList.length:=by simpa using h
 funext x
 have e:s.data.toList.take (j+1)=s.data.toList.take j++[s[j]]:=by
  rw [List.take_succ_eq_append_getElem hj]
  rfl
 simp only [paint,e,List.map_append,List.map_cons,List.map_nil,List.contains_append,List.contains_cons,List.contains_nil,Bool.or_false]
 by_cases h1:x=s[j].toNat
 · simp [h1]
 · simp [h1]
def FK:Nat→Nat→Int
 | 0=>fun _=>0
 | k+1=>paint (mem (k+1:Nat)) (k+1:Nat) (mem (k+1:Nat)).size (FK k)
theorem FK_kind:∀c:Nat,c<256→FK 6 c=kindF c:=by decide +kernel
theorem zero70:Tryz.zeroCells151=Array.replicate 256 (.int .u8 0):=by kernel_rfl
structure KW (w W:World)(F:Nat→Int):Prop where
 below:Below w.heap.size w W
 map:W.heap[w.heap.size]?=some (.map ES 6)
 arr:∀c:Nat,c<256→W.cell? ⟨w.heap.size+1,c,none⟩=some (.int .u8 (F c))
 free:∀c:Nat,W.frozen? ⟨w.heap.size+1,c,none⟩=false
 size:w.heap.size+1<W.heap.size
theorem KW.store {w W:World}{F:Nat→Int}(h:KW w W F)(c:Nat)(hc:c<256)(k:Int):KW w (W.setCell ⟨w.heap.size+1,c,none⟩ (.int .u8 k)) (fun x=>if x=c then k else F x) where
 below:=h.below.setCell (by simp) _
 map:=by rw [Below.heap_setCell _ _ _ _ (by simp)];exact h.map
 arr:=fun x hx=>by
  by_cases e:x=c
  · subst e
    have:=h.arr x hx
    rw [World.cell?_setCell_same _ _ _ this];simp
  · rw [World.cell?_setCell_other _ _ _ _ (by simp)]
    simp [e,h.arr x hx]
 free:=fun x=>by simp [h.free x]
 size:=by simpa [World.setCell] using h.size
theorem byteKinds_run (w:World):Calls Tryz.prog 47 #[] w fun e w'=>e=.returned (.func (.func 87) #[] #[.pointer (some ⟨w.heap.size+1,0,none⟩)])∧KW w w' (FK 6):=by
 have hmm:=@run_makeMap Tryz.prog
 have i1:(Instr.mapUpdate 150 (.map (some w.heap.size)) (.int .u8 1) (.agg #[.string ⟨#[32,9,10,13]⟩])).run Tryz.prog (w.alloc (.map #[] 0))=.ok () (w.alloc (.map #[{ key:=.int .u8 1,val:=.agg #[.string ⟨#[32,9,10,13]⟩],born:=0 }] 1)):=insert_new w #[] 0 1 _ rfl
 have i2:(Instr.mapUpdate 150 (.map (some w.heap.size)) (.int .u8 2) (.agg #[.string ⟨#[35]⟩])).run Tryz.prog (w.alloc (.map #[{ key:=.int .u8 1,val:=.agg #[.string ⟨#[32,9,10,13]⟩],born:=0 }] 1))=.ok () (w.alloc (.map #[{ key:=.int .u8 1,val:=.agg #[.string ⟨#[32,9,10,13]⟩],born:=0 },{ key:=.int .u8 2,val:=.agg #[.string ⟨#[35]⟩],born:=1 }] 2)):=insert_new w #[ent 1 0] 1 2 _ rfl
 have i3:(Instr.mapUpdate 150 (.map (some w.heap.size)) (.int .u8 3) (.agg #[.string ⟨#[97,98,99,100,101,102,103,104,105,106,107,108,109,110,111,112,113,114,115,116,117,118,119,120,121,122]⟩])).run Tryz.prog (w.alloc (.map #[{ key:=.int .u8 1,val:=.agg #[.string ⟨#[32,9,10,13]⟩],born:=0 },{ key:=.int .u8 2,val:=.agg #[.string ⟨#[35]⟩],born:=1 }] 2))=.ok () (w.alloc (.map #[{ key:=.int .u8 1,val:=.agg #[.string ⟨#[32,9,10,13]⟩],born:=0 },{ key:=.int .u8 2,val:=.agg #[.string ⟨#[35]⟩],born:=1 },{ key:=.int .u8 3,val:=.agg #[.string ⟨#[97,98,99,100,101,102,103,104,105,106,107,108,109,110,111,112,113,114,115,116,117,118,119,120,121,122]⟩],born:=2 }] 3)):=insert_new w #[ent 1 0,ent 2 1] 2 3 _ rfl
 have i4:(Instr.mapUpdate 150 (.map (some w.heap.size)) (.int .u8 4) (.agg #[.string ⟨#[48,49,50,51,52,53,54,55,56,57]⟩])).run Tryz.prog (w.alloc (.map #[{ key:=.int .u8 1,val:=.agg #[.string ⟨#[32,9,10,13]⟩],born:=0 },{ key:=.int .u8 2,val:=.agg #[.string ⟨#[35]⟩],born:=1 },{ key:=.int .u8 3,val:=.agg #[.string ⟨#[97,98,99,100,101,102,103,104,105,106,107,108,109,110,111,112,113,114,115,116,117,118,119,120,121,122]⟩],born:=2 }] 3))=.ok () (w.alloc (.map #[{ key:=.int .u8 1,val:=.agg #[.string ⟨#[32,9,10,13]⟩],born:=0 },{ key:=.int .u8 2,val:=.agg #[.string ⟨#[35]⟩],born:=1 },{ key:=.int .u8 3,val:=.agg #[.string ⟨#[97,98,99,100,101,102,103,104,105,106,107,108,109,110,111,112,113,114,115,116,117,118,119,120,121,122]⟩],born:=2 },{ key:=.int .u8 4,val:=.agg #[.string ⟨#[48,49,50,51,52,53,54,55,56,57]⟩],born:=3 }] 4)):=insert_new w #[ent 1 0,ent 2 1,ent 3 2] 3 4 _ rfl
 have i5:(Instr.mapUpdate 150 (.map (some w.heap.size)) (.int .u8 5) (.agg #[.string ⟨#[95]⟩])).run Tryz.prog (w.alloc (.map #[{ key:=.int .u8 1,val:=.agg #[.string ⟨#[32,9,10,13]⟩],born:=0 },{ key:=.int .u8 2,val:=.agg #[.string ⟨#[35]⟩],born:=1 },{ key:=.int .u8 3,val:=.agg #[.string ⟨#[97,98,99,100,101,102,103,104,105,106,107,108,109,110,111,112,113,114,115,116,117,118,119,120,121,122]⟩],born:=2 },{ key:=.int .u8 4,val:=.agg #[.string ⟨#[48,49,50,51,52,53,54,55,56,57]⟩],born:=3 }] 4))=.ok () (w.alloc (.map #[{ key:=.int .u8 1,val:=.agg #[.string ⟨#[32,9,10,13]⟩],born:=0 },{ key:=.int .u8 2,val:=.agg #[.string ⟨#[35]⟩],born:=1 },{ key:=.int .u8 3,val:=.agg #[.string ⟨#[97,98,99,100,101,102,103,104,105,106,107,108,109,110,111,112,113,114,115,116,117,118,119,120,121,122]⟩],born:=2 },{ key:=.int .u8 4,val:=.agg #[.string ⟨#[48,49,50,51,52,53,54,55,56,57]⟩],born:=3 },{ key:=.int .u8 5,val:=.agg #[.string ⟨#[95]⟩],born:=4 }] 5)):=insert_new w #[ent 1 0,ent 2 1,ent 3 2,ent 4 3] 4 5 _ rfl
 have i6:(Instr.mapUpdate 150 (.map (some w.heap.size)) (.int .u8 6) (.agg #[.string ⟨#[123,125,40,41,91,93,59,44,46,43,45,42,60,61]⟩])).run Tryz.prog (w.alloc (.map #[{ key:=.int .u8 1,val:=.agg #[.string ⟨#[32,9,10,13]⟩],born:=0 },{ key:=.int .u8 2,val:=.agg #[.string ⟨#[35]⟩],born:=1 },{ key:=.int .u8 3,val:=.agg #[.string ⟨#[97,98,99,100,101,102,103,104,105,106,107,108,109,110,111,112,113,114,115,116,117,118,119,120,121,122]⟩],born:=2 },{ key:=.int .u8 4,val:=.agg #[.string ⟨#[48,49,50,51,52,53,54,55,56,57]⟩],born:=3 },{ key:=.int .u8 5,val:=.agg #[.string ⟨#[95]⟩],born:=4 }] 5))=.ok () (w.alloc (.map #[{ key:=.int .u8 1,val:=.agg #[.string ⟨#[32,9,10,13]⟩],born:=0 },{ key:=.int .u8 2,val:=.agg #[.string ⟨#[35]⟩],born:=1 },{ key:=.int .u8 3,val:=.agg #[.string ⟨#[97,98,99,100,101,102,103,104,105,106,107,108,109,110,111,112,113,114,115,116,117,118,119,120,121,122]⟩],born:=2 },{ key:=.int .u8 4,val:=.agg #[.string ⟨#[48,49,50,51,52,53,54,55,56,57]⟩],born:=3 },{ key:=.int .u8 5,val:=.agg #[.string ⟨#[95]⟩],born:=4 },{ key:=.int .u8 6,val:=.agg #[.string ⟨#[123,125,40,41,91,93,59,44,46,43,45,42,60,61]⟩],born:=5 }] 6)):=insert_new w #[ent 1 0,ent 2 1,ent 3 2,ent 4 3,ent 5 4] 5 6 _ rfl
 go_enter Tryz.func47,Tryz.ntmps47
 go_wp2_with fail
 have K0:KW w ((w.alloc (.map ES 6)).alloc (.cells Tryz.zeroCells151 151)) (FK 0) :=
  { below := ((Below.refl _ _).alloc (Nat.le_refl _) _).alloc (by simp) _
    map:=by
     show ((w.heap.push (.map ES 6)).push _)[w.heap.size]?=_
     rw [Array.getElem?_push_lt (by simp)]
     simp
    arr:=fun c hc=>by
     have:Tryz.zeroCells151[c]?=some (.int .u8 0):=by rw [zero70];simp [hc]
     simp [FK,this]
    free:=fun c=>by simp
    size:=by simp }
 clear i1 i2 i3 i4 i5 i6 hmm
 go_loopw [3] (fun kv wr=>∃k:Nat,1≤k∧k≤7∧kv=.int .u8 k∧KW w wr (FK (k-1))) (fun kv _=>8-(intOf kv).toNat)
 case atStart=>exact ⟨1,by omega,by omega,rfl,K0⟩
 case round =>
  obtain ⟨k,h1,h7,rfl,hK⟩:=hrel
  clear K0
  by_cases hk:k=7
  · subst hk
    have HK:=lh hK
    clear hK
    go_wp2
    go_ret
    exact ⟨rfl,HK.out⟩
  · have hk6:k≤6:=by omega
    obtain ⟨ix,hfd⟩:=find_es (k:Int) (by omega) (by omega)
    have hlk:=lookup_at wr w.heap.size ES 6 ix k _ hK.map hfd
    clear hfd
    have hsz:(mem (k:Int)).size≤26:=by
     obtain rfl|rfl|rfl|rfl|rfl|rfl:k=1∨k=2∨k=3∨k=4∨k=5∨k=6:=by omega
     all_goals decide
    obtain ⟨s,hs⟩:∃s,s=mem (k:Int):=⟨_,rfl⟩
    rw [← hs] at hlk hsz
    have HS:=lh hs
    have HK:=lh hK
    clear hs hK
    have hfl:∀W:World,(Instr.field 149 (.agg #[.string s]) 0).run Tryz.prog W=.ok (.string s) W:=fun _=>by kernel_rfl
    go_wp2_with fail
    clear hlk
    go_loopw [24] (fun iv wr'=>∃j:Nat,j≤s.size∧iv=.int .i64 j∧KW w wr' (paint s k j (FK (k-1)))) (fun iv _=>s.size-(intOf iv).toNat)
    case atStart=>exact ⟨0,by omega,rfl,by rw [paint_zero];exact HK.out⟩
    case round =>
     obtain ⟨j,hj,rfl,hJ⟩:=hrel
     by_cases hjs:j<s.size
     · have hb:s[j].toNat<256:=UInt8.toNat_lt _
       have hc:=hJ.arr s[j].toNat hb
       have hf:=hJ.free s[j].toNat
       have HJ:=lh hJ
       clear hJ
       go_wp2
       go_roundw
       case rel=>exact ⟨j+1,by omega,by go_num,by rw [paint_succ _ _ _ _ hjs];exact HJ.out.store _ hb _⟩
       case measure=>simp [intOf];omega
     · have HJ:=lh hJ
       clear hJ
       go_wp2
       go_roundw
       case rel=>exact ⟨k+1,by omega,by omega,by go_num,by
        have e:j=s.size:=by omega
        have:=HJ.out
        rw [e,HS.out] at this
        obtain ⟨m,rfl⟩:∃m,k=m+1:=⟨k-1,by omega⟩
        exact this⟩
       case measure=>simp [intOf];omega
end
end Go.Proofs.YthdioipfdbbmmaaGreatDoor
