/- Contracts. -/
import Derived.Test.YthdioipfdbbmmaaGreatDoorHaa
import Derived.Test.YthdioipfdbbmmaaGreatDoorHab
import Derived.Test.YthdioipfdbbmmaaGreatDoorHac
import Derived.Test.YthdioipfdbbmmaaGreatDoorProg
import Derived.WalkKit
import Derived.Handy
import Derived.Below
import Derived.Lib.Hide
import Derived.Laws.OwnMore
import Derived.Deep.AppendLies
import Derived.Deep.Onto
import Derived.Laws.EntriesVeiled
import Derived.Deep.QuietTactic
import Derived.BigQuiet
set_option linter.all false
set_option maxRecDepth 1000000
set_option maxHeartbeats 16000000
namespace Go.Proofs.YthdioipfdbbmmaaGreatDoor
section
open Go.RowKit
def ptOf (t:Tok):PT:=⟨t.kind,t.at',strOfNums t.text,t.n⟩
def tokC5 (t:Tok):List Value:=[.int .u8 t.kind,.int .i64 t.at',.int .i64 t.stop,.string (strOfNums t.text),.int .i64 t.n]
def nodeC (nd:Nd)(kv:Value):List Value:=[.int .u8 nd.kind,.int .i64 nd.at',.string nd.text,.int .i64 nd.n,kv]
def cellsM:List Nd→List Value→List Value
 | nd::md,kv::kvs=>nodeC nd kv++cellsM md kvs
 | _,_=>[]
theorem cellsM_snoc (md:List Nd)(kvs:List Value)(nd:Nd)(kv:Value)(h:kvs.length=md.length):cellsM (md++[nd]) (kvs++[kv])=cellsM md kvs++nodeC nd kv:=by
 induction md generalizing kvs with
 | nil =>
  cases kvs with
  | nil=>simp [cellsM]
  | cons _ _=>simp at h
 | cons m md ih =>
  cases kvs with
  | nil=>simp at h
  | cons k kvs=>simp only [List.cons_append,cellsM,ih kvs (by simpa using h),List.append_assoc]
theorem cellsM_get (md:List Nd)(kvs:List Value)(h:kvs.length=md.length)(j:Nat)(hj:j<md.length)(i:Nat)(hi:i<5):(cellsM md kvs)[j*5+i]?=(nodeC (md.getD j default) (kvs.getD j default))[i]?:=by
 induction md generalizing kvs j with
 | nil=>simp at hj
 | cons m md ih =>
  cases kvs with
  | nil=>simp at h
  | cons k kvs =>
   cases j with
   | zero =>
    simp only [cellsM,List.getD_cons_zero,Nat.zero_mul,Nat.zero_add]
    rw [List.getElem?_append_left (by simp [nodeC];omega)]
   | succ j =>
    simp only [cellsM,List.getD_cons_succ]
    rw [List.getElem?_append_right (by simp [nodeC];omega)]
    rw [← ih kvs (by simpa using h) j (by simpa using hj)]
    congr 1
    simp [nodeC];omega
def Ended:List PT→Prop
 | []=>False
 | [e]=>e.kind=4∧e.txt=none0
 | _::t::l=>Ended (t::l)
theorem Ended.tail {t:PT}{l:List PT}(h:Ended (t::l))(ht:t.kind≠4∨t.txt≠none0):Ended l:=by
 cases l with
 | nil =>
  rcases ht with ht|ht
  · exact absurd h.1 ht
  · exact absurd h.2 ht
 | cons u l=>exact h
theorem Ended.pos {l:List PT}(h:Ended l):∃t r,l=t::r:=by
 cases l with
 | nil=>exact h.elim
 | cons t r=>exact ⟨t,r,rfl⟩
structure Env where
 W:World
 b:Nat
 g:Nat
 cap:Nat
 toks:List Tok
 mp:Value
def Env.pts (E:Env):List PT:=E.toks.map ptOf
def own1 (B:Nat)(w:World)(kv:Value)(ks:List Int):Prop:=w.ownsRow B 3 1 kv ks.length (ks.map (Value.int .i64))
structure PS (E:Env)(v:Value)(kvs:List Value)(md:List Nd)(r:Nat)(l:List PT)(w:World):Prop where
 below:Below E.b E.W w
 lt:E.b<w.heap.size
 gl:E.g<E.b
 cap:E.toks.length≤E.cap
 tok:∀j i u,j<E.toks.length→(tokC5 (E.toks.getD j (Tok.endAt 0)))[i]?=some u→w.cell? ⟨E.g,j*5+i,none⟩=some u
 nx:∃i:Nat,l=E.pts.drop i∧w.heap[E.b]?=some (.cells #[.slice (some ⟨E.g,0,none⟩) E.toks.length E.cap,.int .i64 (i:Int),.int .i64 (64-(r:Int)),E.mp,v] 125 (0,0))
 r64:r≤64
 ended:Ended l
 few:E.toks.length≤70000
 room:md.length+l.length≤70000
 klen:kvs.length=md.length
 own:w.ownsRow (E.b+1) 54 5 v md.length (cellsM md kvs)
 kids:∀j,j<md.length→own1 (E.b+1) w (kvs.getD j default) (md.getD j default).kids
 apart:∀x∈kvs,∀k,x.ownBlock=some k→v.ownBlock≠some k
 pair:kvs.Pairwise fun x y=>∀k,x.ownBlock=some k→y.ownBlock≠some k
structure Loc (E:Env)(v:Value)(kvs:List Value)(q:Nat):Prop where
 lt:E.b<q
 v:v.ownBlock≠some q
 ks:∀x∈kvs,x.ownBlock≠some q
def LocV (E:Env)(v:Value)(kvs:List Value)(kv:Value):Prop:=∀q,kv.ownBlock=some q→Loc E v kvs q
def Nw (B:Nat)(new:List Value):Prop:=∀x∈new,∀k,x.ownBlock=some k→B≤k
structure Fr (E:Env)(B:Nat)(v v':Value)(w w':World):Prop where
 os:w'.os=w.os
 tape:w'.tape=w.tape
 output:w'.output=w.output
 size:w.heap.size≤w'.heap.size
 block:∀k,k<B→k≠E.b→v.ownBlock≠some k→w'.heap[k]?=w.heap[k]?
 grow:∀k,v'.ownBlock=some k→v.ownBlock=some k∨B≤k
theorem Fr.refl (E:Env)(B:Nat)(v:Value)(w:World):Fr E B v v w w:=⟨rfl,rfl,rfl,Nat.le_refl _,fun _ _ _ _=>rfl,fun _ h=>Or.inl h⟩
theorem Fr.mono {E:Env}{B B':Nat}{v v':Value}{w w':World}(h:Fr E B v v' w w')(hb:B'≤B):Fr E B' v v' w w' :=
 ⟨h.os,h.tape,h.output,h.size,fun k hk=>h.block k (Nat.lt_of_lt_of_le hk hb),fun k hk=>(h.grow k hk).imp id (Nat.le_trans hb)⟩
theorem Fr.trans {E:Env}{B:Nat}{v v1 v2:Value}{w w1 w2:World}(h:Fr E B v v1 w w1)(h':Fr E B v1 v2 w1 w2):Fr E B v v2 w w2 where
 os:=h'.os.trans h.os
 tape:=h'.tape.trans h.tape
 output:=h'.output.trans h.output
 size:=Nat.le_trans h.size h'.size
 block:=fun k hk hb hv=>(h'.block k hk hb (fun e=>by
  rcases h.grow k e with e|e
  · exact hv e
  · omega)).trans (h.block k hk hb hv)
 grow:=fun k hk=>by
  rcases h'.grow k hk with e|e
  · exact h.grow k e
  · exact Or.inr e
theorem Fr.grown {E:Env}{B:Nat}{v v1:Value}{w w1 w2:World}{row:Option Nat}(h:Fr E B v v1 w w1)(hg:w1.grownBy w2 row)(hB:B≤w1.heap.size)(hr:∀q,row=some q→B≤q):Fr E B v v1 w w2 where
 os:=hg.os.trans h.os
 tape:=hg.tape.trans h.tape
 output:=hg.output.trans h.output
 size:=Nat.le_trans h.size hg.size
 block:=fun k hk hb hv=>(hg.block k (by omega) (fun e=>by have:=hr k e.symm;omega)).trans (h.block k hk hb hv)
 grow:=h.grow
theorem Fr.alloc {E:Env}{B:Nat}{v v1:Value}{w w1:World}(h:Fr E B v v1 w w1)(hB:B≤w1.heap.size)(o:Obj):Fr E B v v1 w (w1.alloc o):=h.grown (World.grownBy_alloc w1 o none) hB (fun _ e=>by cases e)
theorem grownBy_set (w:World)(a:Addr)(u:Value):w.grownBy (w.setCell a u) (some a.block) :=
 ⟨rfl,rfl,rfl,by simp [World.setCell],fun k _ hk=>Below.heap_setCell w a u k (fun e=>hk (by rw [e]))⟩
theorem Fr.set {E:Env}{B:Nat}{v v1:Value}{w w1:World}(h:Fr E B v v1 w w1)(hB:B≤w1.heap.size){a:Addr}(ha:B≤a.block)(u:Value):Fr E B v v1 w (w1.setCell a u) :=
 h.grown (grownBy_set w1 a u) hB (fun q e=>by cases e;exact ha)
theorem Fr.drewN {E:Env}{B:Nat}{v v1:Value}{w w1:World}(h:Fr E B v v1 w w1)(n:Nat):Fr E B v v1 w (w1.drewN n):=⟨h.os,h.tape,h.output,h.size,h.block,h.grow⟩
theorem Fr.cell {E:Env}{B:Nat}{v v':Value}{w w':World}(h:Fr E B v v' w w'){p:Addr}(hp:p.block<B)(hb:p.block≠E.b)(hv:v.ownBlock≠some p.block):w'.cell? p=w.cell? p :=
 World.cell?_of_block (w:=w) (h.block p.block hp hb hv)
theorem Fr.frozen {E:Env}{B:Nat}{v v':Value}{w w':World}(h:Fr E B v v' w w'){p:Addr}(hp:p.block<B)(hb:p.block≠E.b)(hv:v.ownBlock≠some p.block):w'.frozen? p=w.frozen? p :=
 World.frozen?_of_block (w:=w) (h.block p.block hp hb hv)
theorem own1.lt {B:Nat}{w:World}{kv:Value}{ks:List Int}(h:own1 B w kv ks):∀k,kv.ownBlock=some k→B≤k∧k<w.heap.size:=World.ownsRow.lt h
theorem PS.vlt {E:Env}{v:Value}{kvs:List Value}{md:List Nd}{r:Nat}{l:List PT}{w:World}(h:PS E v kvs md r l w):∀k,v.ownBlock=some k→E.b<k∧k<w.heap.size:=fun k hk=>by
 have:=h.own.lt k hk
 omega
theorem PS.klt {E:Env}{v:Value}{kvs:List Value}{md:List Nd}{r:Nat}{l:List PT}{w:World}(h:PS E v kvs md r l w):∀x∈kvs,∀k,x.ownBlock=some k→E.b<k∧k<w.heap.size:=fun x hx k hk=>by
 obtain ⟨j,hj,rfl⟩:=List.getElem_of_mem hx
 have h1:=(h.kids j (by rw [← h.klen];exact hj)).lt k (by simpa [List.getD,hj] using hk)
 omega
theorem PS.fresh {E:Env}{v:Value}{kvs:List Value}{md:List Nd}{r:Nat}{l:List PT}{w:World}(h:PS E v kvs md r l w):Loc E v kvs w.heap.size :=
 ⟨h.lt,fun e=>by have:=(h.vlt _ e).2;omega,fun x hx e=>by have:=(h.klt x hx _ e).2;omega⟩
theorem PS.cells {E:Env}{v:Value}{kvs:List Value}{md:List Nd}{r:Nat}{l:List PT}{w:World}(h:PS E v kvs md r l w):∃i:Nat,l=E.pts.drop i∧w.cell? ⟨E.b,0,none⟩=some (.slice (some ⟨E.g,0,none⟩) E.toks.length E.cap)∧w.cell? ⟨E.b,1,none⟩=some (.int .i64 (i:Int)) ∧
 w.cell? ⟨E.b,2,none⟩=some (.int .i64 (64-(r:Int)))∧w.cell? ⟨E.b,3,none⟩=some E.mp∧w.cell? ⟨E.b,4,none⟩=some v:=by
 obtain ⟨i,h1,h2⟩:=h.nx
 exact ⟨i,h1,by rw [cell_of_row _ _ _ _ _ _ h2];rfl,by rw [cell_of_row _ _ _ _ _ _ h2];rfl,by rw [cell_of_row _ _ _ _ _ _ h2];rfl,by rw [cell_of_row _ _ _ _ _ _ h2];rfl,by rw [cell_of_row _ _ _ _ _ _ h2];rfl⟩
theorem PS.fz {E:Env}{v:Value}{kvs:List Value}{md:List Nd}{r:Nat}{l:List PT}{w:World}(h:PS E v kvs md r l w)(i:Nat):w.frozen? ⟨E.b,i,none⟩=false:=by
 obtain ⟨_,_,h2⟩:=h.nx
 exact frozen_of_row _ _ _ _ _ h2
theorem heap_set (w:World)(q i:Nat)(u:Value)(cs:Array Value)(T:TypeId)(h:w.heap[q]?=some (.cells cs T (0,0))):(w.setCell ⟨q,i,none⟩ u).heap[q]?=some (.cells (cs.setIfInBounds i u) T (0,0)):=by
 simp only [World.setCell,Array.getElem?_modify]
 rw [if_pos trivial,h]
 rfl
theorem PS.grown {E:Env}{v:Value}{kvs:List Value}{md:List Nd}{r:Nat}{l:List PT}{w w':World}{row:Option Nat}(h:PS E v kvs md r l w)(hg:w.grownBy w' row)(hr:∀q,row=some q→Loc E v kvs q):PS E v kvs md r l w' where
 below:=h.below.grown hg (Nat.le_of_lt h.lt) (fun k e=>Nat.le_of_lt (hr k e).lt)
 lt:=Nat.lt_of_lt_of_le h.lt hg.size
 gl:=h.gl
 cap:=h.cap
 tok:=fun j i u hj hi=>by
  have:=h.tok j i u hj hi
  have hl:=h.lt
  have hgl:=h.gl
  rw [World.cell?_of_block (w:=w) (a:=⟨E.g,j*5+i,none⟩) (hg.block E.g (by omega) (fun e=>by have:=(hr _ e.symm).lt;omega))]
  exact this
 nx:=by
  obtain ⟨i,h1,h2⟩:=h.nx
  exact ⟨i,h1,by rw [hg.block E.b h.lt (fun e=>by have:=(hr _ e.symm).lt;omega)];exact h2⟩
 r64:=h.r64
 ended:=h.ended
 few:=h.few
 room:=h.room
 klen:=h.klen
 own:=h.own.kept hg (by
  cases hv:v.ownBlock with
  | none=>exact Or.inl rfl
  | some k=>exact Or.inr (fun e=>by have:=(hr k e.symm).v;rw [hv] at this;exact this rfl))
 kids:=fun j hj=>(h.kids j hj).kept hg (by
  cases hv:(kvs.getD j default).ownBlock with
  | none=>exact Or.inl rfl
  | some k =>
   refine Or.inr (fun e=>?_)
   have hj':j<kvs.length:=by rw [h.klen];exact hj
   have:=(hr k e.symm).ks (kvs.getD j default) (by simp [List.getD,hj'])
   rw [hv] at this;exact this rfl)
 apart:=h.apart
 pair:=h.pair
theorem PS.alloc {E:Env}{v:Value}{kvs:List Value}{md:List Nd}{r:Nat}{l:List PT}{w:World}(h:PS E v kvs md r l w)(o:Obj):PS E v kvs md r l (w.alloc o):=h.grown (World.grownBy_alloc w o none) (fun _ e=>by cases e)
theorem PS.set {E:Env}{v:Value}{kvs:List Value}{md:List Nd}{r:Nat}{l:List PT}{w:World}(h:PS E v kvs md r l w){a:Addr}(ha:Loc E v kvs a.block)(u:Value):PS E v kvs md r l (w.setCell a u) :=
 h.grown (grownBy_set w a u) (fun q e=>by cases e;exact ha)
theorem Loc.on {E:Env}{v v':Value}{kvs new:List Value}{w w':World}{q B:Nat}(h:Loc E v kvs q)(hf:Fr E B v v' w w')(hn:Nw B new)(hq:q<B):Loc E v' (kvs++new) q where
 lt:=h.lt
 v:=fun e=>by
  rcases hf.grow q e with e|e
  · exact h.v e
  · omega
 ks:=fun x hx e=>by
  rcases List.mem_append.1 hx with hx|hx
  · exact h.ks x hx e
  · have:=hn x hx q e
    omega
theorem own1.grown {B:Nat}{w w':World}{kv:Value}{ks:List Int}{row:Option Nat}(h:own1 B w kv ks)(hg:w.grownBy w' row)(hne:kv.ownBlock=none∨kv.ownBlock≠row):own1 B w' kv ks:=World.ownsRow.kept h hg hne
theorem own1.on {E:Env}{B:Nat}{v v':Value}{w w':World}{kv:Value}{ks:List Int}{kvs:List Value}(h:own1 B w kv ks)(hf:Fr E w.heap.size v v' w w')(hl:LocV E v kvs kv):own1 B w' kv ks:=by
 cases hk:kv.ownBlock with
 | none =>
  obtain ⟨h1,h2⟩:=h
  refine ⟨h1,?_⟩
  rcases h2 with h2|⟨g,cap,cur,e,_⟩
  · exact Or.inl h2
  · subst e;simp [Value.ownBlock] at hk
 | some q =>
  have hq:=hl q hk
  have hlt:=(h.lt q hk).2
  obtain ⟨h1,h2⟩:=h
  refine ⟨h1,?_⟩
  rcases h2 with h2|⟨g,cap,cur,e,hb,hh,hr⟩
  · exact Or.inl h2
  · have hgq:g=q:=by subst e;simpa [Value.ownBlock] using hk
    subst hgq
    exact Or.inr ⟨g,cap,cur,e,hb,by rw [hf.block g hlt (by have:=hq.lt;omega) hq.v];exact hh,hr⟩
theorem LocV.on {E:Env}{v v':Value}{kvs new:List Value}{w w':World}{B:Nat}{kv:Value}(h:LocV E v kvs kv)(hf:Fr E B v v' w w')(hn:Nw B new)(hq:∀q,kv.ownBlock=some q→q<B):LocV E v' (kvs++new) kv :=
 fun q e=>(h q e).on hf hn (hq q e)
theorem Nw.append {B:Nat}{x y:List Value}(h:Nw B x)(h':Nw B y):Nw B (x++y):=fun z hz=>by
 rcases List.mem_append.1 hz with hz|hz
 · exact h z hz
 · exact h' z hz
theorem Nw.mono {B B':Nat}{x:List Value}(h:Nw B x)(hb:B'≤B):Nw B' x:=fun z hz k hk=>Nat.le_trans hb (h z hz k hk)
theorem Nw.nil (B:Nat):Nw B []:=fun x hx=>by simp at hx
structure Lcl (E:Env)(v:Value)(kvs:List Value)(q:Nat)(o:Obj)(w:World):Prop where
 loc:Loc E v kvs q
 lt:q<w.heap.size
 obj:w.heap[q]?=some o
theorem Lcl.new {E:Env}{v:Value}{kvs:List Value}{md:List Nd}{r:Nat}{l:List PT}{w:World}(h:PS E v kvs md r l w)(o:Obj):Lcl E v kvs w.heap.size o (w.alloc o) :=
 ⟨h.fresh,by simp,by show (w.heap.push o)[w.heap.size]?=_;simp⟩
theorem Lcl.on {E:Env}{v v':Value}{kvs new:List Value}{w w':World}{q:Nat}{o:Obj}(h:Lcl E v kvs q o w)(hf:Fr E w.heap.size v v' w w')(hn:Nw w.heap.size new):Lcl E v' (kvs++new) q o w' :=
 ⟨h.loc.on hf hn h.lt,Nat.lt_of_lt_of_le h.lt hf.size,by rw [hf.block q h.lt (by have:=h.loc.lt;omega) h.loc.v];exact h.obj⟩
theorem Lcl.on0 {E:Env}{v v':Value}{kvs:List Value}{w w':World}{q:Nat}{o:Obj}(h:Lcl E v kvs q o w)(hf:Fr E w.heap.size v v' w w'):Lcl E v' kvs q o w':=by
 have:=h.on hf (Nw.nil _)
 rwa [List.append_nil] at this
theorem Lcl.grown {E:Env}{v:Value}{kvs:List Value}{w w':World}{q:Nat}{o:Obj}{row:Option Nat}(h:Lcl E v kvs q o w)(hg:w.grownBy w' row)(hne:row≠some q):Lcl E v kvs q o w' :=
 ⟨h.loc,Nat.lt_of_lt_of_le h.lt hg.size,by rw [hg.block q h.lt (fun e=>hne e.symm)];exact h.obj⟩
theorem Lcl.alloc {E:Env}{v:Value}{kvs:List Value}{w:World}{q:Nat}{o:Obj}(h:Lcl E v kvs q o w)(o':Obj):Lcl E v kvs q o (w.alloc o'):=h.grown (World.grownBy_alloc w o' none) (by simp)
theorem Lcl.set {E:Env}{v:Value}{kvs:List Value}{w:World}{q:Nat}{cs:Array Value}{T:TypeId}(h:Lcl E v kvs q (.cells cs T (0,0)) w)(i:Nat)(u:Value):Lcl E v kvs q (.cells (cs.setIfInBounds i u) T (0,0)) (w.setCell ⟨q,i,none⟩ u) :=
 ⟨h.loc,by simpa [World.setCell] using h.lt,heap_set w q i u cs T h.obj⟩
theorem Lcl.cell {E:Env}{v:Value}{kvs:List Value}{w:World}{q:Nat}{cs:Array Value}{T:TypeId}(h:Lcl E v kvs q (.cells cs T (0,0)) w)(i:Nat){u:Value}(hu:cs[i]?=some u):w.cell? ⟨q,i,none⟩=some u:=by
 rw [cell_of_row w q i cs T _ h.obj];exact hu
theorem Lcl.fz {E:Env}{v:Value}{kvs:List Value}{w:World}{q:Nat}{cs:Array Value}{T:TypeId}(h:Lcl E v kvs q (.cells cs T (0,0)) w)(i:Nat):w.frozen? ⟨q,i,none⟩=false:=frozen_of_row w q i cs T h.obj
theorem Lcl.set5 {E:Env}{v:Value}{kvs:List Value}{w:World}{q:Nat}{c0 c1 c2 c3 c4:Value}{T:TypeId}(h:Lcl E v kvs q (.cells #[c0,c1,c2,c3,c4] T (0,0)) w)(d0 d1 d2 d3 d4:Value) :
 Lcl E v kvs q (.cells #[d0,d1,d2,d3,d4] T (0,0)) (((((w.setCell ⟨q,0,none⟩ d0).setCell ⟨q,1,none⟩ d1).setCell ⟨q,2,none⟩ d2).setCell ⟨q,3,none⟩ d3).setCell ⟨q,4,none⟩ d4) :=
 ((((h.set 0 d0).set 1 d1).set 2 d2).set 3 d3).set 4 d4
theorem PS.set5 {E:Env}{v:Value}{kvs:List Value}{md:List Nd}{r:Nat}{l:List PT}{w:World}(h:PS E v kvs md r l w){q:Nat}(hq:Loc E v kvs q)(d0 d1 d2 d3 d4:Value) :
 PS E v kvs md r l (((((w.setCell ⟨q,0,none⟩ d0).setCell ⟨q,1,none⟩ d1).setCell ⟨q,2,none⟩ d2).setCell ⟨q,3,none⟩ d3).setCell ⟨q,4,none⟩ d4) :=
 ((((h.set (a:=⟨q,0,none⟩) hq d0).set (a:=⟨q,1,none⟩) hq d1).set (a:=⟨q,2,none⟩) hq d2).set (a:=⟨q,3,none⟩) hq d3).set (a:=⟨q,4,none⟩) hq d4
theorem size_set (w:World)(a:Addr)(u:Value):(w.setCell a u).heap.size=w.heap.size:=by simp [World.setCell]
theorem Fr.set5 {E:Env}{B:Nat}{v v1:Value}{w w1:World}(h:Fr E B v v1 w w1)(hB:B≤w1.heap.size){q:Nat}(hq:B≤q)(d0 d1 d2 d3 d4:Value) :
 Fr E B v v1 w (((((w1.setCell ⟨q,0,none⟩ d0).setCell ⟨q,1,none⟩ d1).setCell ⟨q,2,none⟩ d2).setCell ⟨q,3,none⟩ d3).setCell ⟨q,4,none⟩ d4) :=
 ((((h.set hB (a:=⟨q,0,none⟩) hq d0).set (by rw [size_set];exact hB) (a:=⟨q,1,none⟩) hq d1).set (by rw [size_set,size_set];exact hB) (a:=⟨q,2,none⟩) hq d2).set (by rw [size_set,size_set,size_set];exact hB) (a:=⟨q,3,none⟩) hq d3).set (by rw [size_set,size_set,size_set,size_set];exact hB) (a:=⟨q,4,none⟩) hq d4
theorem Lcl.setB {E:Env}{v:Value}{kvs:List Value}{w:World}{q:Nat}{o:Obj}(h:Lcl E v kvs q o w)(i:Nat)(u:Value):Lcl E v kvs q o (w.setCell ⟨E.b,i,none⟩ u) :=
 h.grown (grownBy_set w _ _) (fun e=>by have:=h.loc.lt;have e:=Option.some.inj e;simp only at e;omega)
def rootI (b:Nat)(a:Ast):Int:=((b+a.size:Nat):Int)-1
end
section
open Go.RowKit
theorem beq_str (a b:ByteArray):(a.toList==b.toList)=decide (a=b):=by
 rw [ByteArray.toList_eq,ByteArray.toList_eq]
 by_cases h:a=b
 · subst h;simp
 · rw [decide_eq_false h]
   have:a.data.toList≠b.data.toList:=fun e=>h (by
    obtain ⟨⟨a⟩⟩:=a
    obtain ⟨⟨b⟩⟩:=b
    simp only at e
    rw [e])
   simpa using this
abbrev tokA (t:PT)(sp:Nat):Value:=.agg #[.int .u8 t.kind,.int .i64 (t.at':Int),.int .i64 (sp:Int),.string t.txt,.int .i64 t.n]
theorem tok_f0 (k a b n:Int)(s:ByteArray)(W:World):(Instr.field 29 (.agg #[.int .u8 k,.int .i64 a,.int .i64 b,.string s,.int .i64 n]) 0).run Tryz.prog W=.ok (.int .u8 k) W:=by kernel_rfl
theorem tok_f1 (k a b n:Int)(s:ByteArray)(W:World):(Instr.field 29 (.agg #[.int .u8 k,.int .i64 a,.int .i64 b,.string s,.int .i64 n]) 1).run Tryz.prog W=.ok (.int .i64 a) W:=by kernel_rfl
theorem tok_f3 (k a b n:Int)(s:ByteArray)(W:World):(Instr.field 29 (.agg #[.int .u8 k,.int .i64 a,.int .i64 b,.string s,.int .i64 n]) 3).run Tryz.prog W=.ok (.string s) W:=by kernel_rfl
section
variable {E:Env}{v:Value}{kvs:List Value}{md:List Nd}{r:Nat}{l:List PT}{w:World}
theorem PS.head (h:PS E v kvs md r l w):∃(i:Nat) (t:PT) (l':List PT) (sp:Nat),l=t::l'∧l'=E.pts.drop (i+1)∧i<E.toks.length∧w.heap[E.b]?=some (.cells #[.slice (some ⟨E.g,0,none⟩) E.toks.length E.cap,.int .i64 (i:Int),.int .i64 (64-(r:Int)),E.mp,v] 125 (0,0)) ∧
 w.cell? ⟨E.g,i*5,none⟩=some (.int .u8 t.kind)∧w.cell? ⟨E.g,i*5+1,none⟩=some (.int .i64 (t.at':Int))∧w.cell? ⟨E.g,i*5+2,none⟩=some (.int .i64 (sp:Int))∧w.cell? ⟨E.g,i*5+3,none⟩=some (.string t.txt)∧w.cell? ⟨E.g,i*5+4,none⟩=some (.int .i64 t.n):=by
 obtain ⟨i,hl,hc⟩:=h.nx
 obtain ⟨t,l',he⟩:=h.ended.pos
 have hi:i<E.pts.length:=by
  rcases Nat.lt_or_ge i E.pts.length with h1|h1
  · exact h1
  · rw [List.drop_eq_nil_of_le h1] at hl;rw [hl] at he;simp at he
 have hi2:i<E.toks.length:=by simpa [Env.pts] using hi
 have hd:=List.drop_eq_getElem_cons hi
 rw [← hl,he,List.cons.injEq] at hd
 have ht:t=ptOf (E.toks.getD i (Tok.endAt 0)):=by
  rw [hd.1]
  simp [Env.pts,List.getD,hi2]
 refine ⟨i,t,l',(E.toks.getD i (Tok.endAt 0)).stop,he,hd.2,hi2,hc,?_,?_,?_,?_,?_⟩
 · rw [ht];exact h.tok i 0 _ hi2 rfl
 · rw [ht];exact h.tok i 1 _ hi2 rfl
 · exact h.tok i 2 _ hi2 rfl
 · rw [ht];exact h.tok i 3 _ hi2 rfl
 · rw [ht];exact h.tok i 4 _ hi2 rfl
theorem PS.next {t:PT}{i:Nat}{l':List PT}(h:PS E v kvs md r (t::l') w)(ht:t.kind≠4∨t.txt≠none0)(hl:l'=E.pts.drop (i+1))(hc:w.heap[E.b]?=some (.cells #[.slice (some ⟨E.g,0,none⟩) E.toks.length E.cap,.int .i64 (i:Int),.int .i64 (64-(r:Int)),E.mp,v] 125 (0,0))) :
 PS E v kvs md r l' (w.setCell ⟨E.b,1,none⟩ (.int .i64 ((i:Int)+1))) where
 below:=h.below.setCell (p:=⟨E.b,1,none⟩) (Nat.le_refl _) _
 lt:=by simpa [World.setCell] using h.lt
 gl:=h.gl
 cap:=h.cap
 tok:=fun j k u hj hk=>by
  have:=h.gl
  rw [World.cell?_of_block (w:=w) (a:=⟨E.g,j*5+k,none⟩) (Below.heap_setCell _ _ _ _ (show E.g≠E.b by omega))]
  exact h.tok j k u hj hk
 nx:=⟨i+1,hl,by rw [heap_set _ _ _ _ _ _ hc];rfl⟩
 r64:=h.r64
 ended:=h.ended.tail ht
 few:=h.few
 room:=by have:=h.room;simp only [List.length_cons] at this;omega
 klen:=h.klen
 own:=h.own.kept (grownBy_set w _ _) (by
  cases hv:v.ownBlock with
  | none=>exact Or.inl rfl
  | some k=>exact Or.inr (fun e=>by have:=h.vlt k hv;have e:=Option.some.inj e;simp only at e;omega))
 kids:=fun j hj=>(h.kids j hj).grown (grownBy_set w _ _) (by
  cases hv:(kvs.getD j default).ownBlock with
  | none=>exact Or.inl rfl
  | some k=>exact Or.inr (fun e=>by have:=(h.kids j hj).lt k hv;have e:=Option.some.inj e;simp only at e;omega))
 apart:=h.apart
 pair:=h.pair
theorem Fr.setB {v':Value}{B:Nat}{w1:World}(h:Fr E B v v' w w1)(i:Nat)(u:Value):Fr E B v v' w (w1.setCell ⟨E.b,i,none⟩ u) :=
 ⟨h.os,h.tape,h.output,by have:=h.size;simpa [World.setCell] using this,fun k hk hb hv=>(Below.heap_setCell w1 ⟨E.b,i,none⟩ u k hb).trans (h.block k hk hb hv),h.grow⟩
theorem grownBy_drewN (w:World)(n:Nat):w.grownBy (w.drewN n) none:=⟨rfl,rfl,rfl,Nat.le_refl _,fun _ _ _=>rfl⟩
theorem PS.drewN (h:PS E v kvs md r l w)(n:Nat):PS E v kvs md r l (w.drewN n):=h.grown (grownBy_drewN w n) (fun _ e=>by cases e)
theorem PS.drew (h:PS E v kvs md r l w):PS E v kvs md r l w.drew:=h.drewN 1
theorem Fr.drew {B:Nat}{v':Value}{w1:World}(h:Fr E B v v' w w1):Fr E B v v' w w1.drew:=h.drewN 1
def PeekP (E:Env)(v:Value)(kvs:List Value)(md:List Nd)(r:Nat)(l:List PT)(w:World)(e:Ending)(w':World):Prop:=∃t l' sp,l=t::l'∧e=.returned (tokA t sp)∧PS E v kvs md r l w'∧Fr E w.heap.size v v w w'
def NextP (E:Env)(v:Value)(kvs:List Value)(md:List Nd)(r:Nat)(l:List PT)(w:World)(s:ByteArray)(e:Ending)(w':World):Prop:=∃t l',l=t::l'∧e=.returned (.bool (decide (t.txt=s)))∧PS E v kvs md r l w'∧Fr E w.heap.size v v w w'
theorem peek_at (h:PS E v kvs md r l w):Calls Tryz.prog 129 #[.pointer (some ⟨E.b,0,none⟩)] w (PeekP E v kvs md r l w):=by
 obtain ⟨i,t,l',sp,hl,_,hi,hb,k0,k1,k2,k3,k4⟩:=h.head
 have c0:=cell_of_row w E.b 0 _ _ _ hb
 have c1:=cell_of_row w E.b 1 _ _ _ hb
 simp only [List.getElem?_toArray,List.getElem?_cons_zero,List.getElem?_cons_succ] at c0 c1
 clear hb
 have hcap:=h.cap
 have HS:=lh h
 have HL:=lh hl
 clear h hl
 have hlt:=HS.out.lt
 have hgl:=HS.out.gl
 have hg2:E.g<w.heap.size:=by omega
 go_enter Tryz.func129,Tryz.ntmps129
 go_wp2_with fail
 go_region
 go_wp2
 simp [bodyPost,results,Tryz.results129,go_sem]
 exact ⟨t,l',sp,HL.out,rfl,(HS.out.alloc _).drew,((Fr.refl _ _ _ _).alloc (Nat.le_refl _) _).drew⟩
structure Same (E:Env)(v:Value)(kvs:List Value)(md:List Nd)(r:Nat)(l:List PT)(w w':World):Prop where
 ps:PS E v kvs md r l w'
 fr:Fr E w.heap.size v v w w'
theorem isNext_at (h:PS E v kvs md r l w)(s:ByteArray):Calls Tryz.prog 130 #[.pointer (some ⟨E.b,0,none⟩),.string s] w (NextP E v kvs md r l w s):=by
 have PK:=lh (peek_at h)
 have fl:=tok_f3
 clear h
 go_enter Tryz.func130,Tryz.ntmps130
 go_wp2_with fail
 (with_reducible refine PK.out.mono ?_)
 rintro e w1 ⟨t,l',sp,hl,rfl,hs,hf⟩
 have HL:=lh hl
 have HS:=lh hs
 have HF:=lh hf
 clear hl hs hf PK
 simp only [tokA]
 have HB:=lh (beq_str t.txt s)
 go_wp2
 rw [HB.out]
 go_ret
 exact ⟨t,l',HL.out,rfl,HS.out,HF.out⟩
def PostE {α:Type}(E:Env)(res:Res α)(ok:α→List PT→Ending→World→Prop)(e:Ending)(w':World):Prop :=
 match res with
 | .err p c=>e=.panicked [{ v:=.iface 121 (.agg #[.int .i64 (p:Int),.int .i64 c]),recovered:=false }]∧Below E.b E.W w'
 | .ok a l'=>ok a l' e w'
theorem post_err {α:Type}{E:Env}{res:Res α}{ok:α→List PT→Ending→World→Prop}{f:Nat}{args:Array Value}{w:World}(T:Calls Tryz.prog f args w (PostE E res ok)){p:Nat}{c:Int}(hx:res=.err p c) :
 Calls Tryz.prog f args w fun e w'=>e=.panicked [{ v:=.iface 121 (.agg #[.int .i64 (p:Int),.int .i64 c]),recovered:=false }]∧Below E.b E.W w':=T.mono fun e w' h=>by rw [hx] at h;exact h
theorem post_ok {α:Type}{E:Env}{res:Res α}{ok:α→List PT→Ending→World→Prop}{f:Nat}{args:Array Value}{w:World}(T:Calls Tryz.prog f args w (PostE E res ok)){a:α}{l':List PT}(hx:res=.ok a l') :
 Calls Tryz.prog f args w (ok a l'):=T.mono fun e w' h=>by rw [hx] at h;exact h
theorem of_err {α:Type}{E:Env}{res:Res α}{ok:α→List PT→Ending→World→Prop}{w':World}{p:Nat}{c:Int}(hx:res=.err p c)(hb:Below E.b E.W w') :
 PostE E res ok (.panicked [{ v:=.iface 121 (.agg #[.int .i64 (p:Int),.int .i64 c]),recovered:=false }]) w':=by rw [hx];exact ⟨rfl,hb⟩
theorem of_ok {α:Type}{E:Env}{res:Res α}{ok:α→List PT→Ending→World→Prop}{e:Ending}{w':World}{a:α}{l':List PT}(hx:res=.ok a l')(h:ok a l' e w'):PostE E res ok e w':=by rw [hx];exact h
def RefP (E:Env)(l:List PT)(c:Int)(e:Ending)(w':World):Prop:=∃t l',l=t::l'∧e=.returned (.agg #[.int .i64 (t.at':Int),.int .i64 c])∧Below E.b E.W w'
theorem refused_at (h:PS E v kvs md r l w)(c:Int):Calls Tryz.prog 238 #[.pointer (some ⟨E.b,0,none⟩),.int .i64 c] w (RefP E l c):=by
 have L0:=lh (Lcl.new h (.cells #[.int .i64 0,.int .i64 0] 121))
 have PK:=lh (peek_at (h.alloc (.cells #[.int .i64 0,.int .i64 0] 121)))
 have fl:=tok_f1
 clear h
 go_enter Tryz.func238,Tryz.ntmps238
 go_wp2_with fail
 (with_reducible refine PK.out.mono ?_)
 rintro e w1 ⟨t,l',sp,hl,rfl,hs,hf⟩
 have HL:=lh hl
 have HS:=lh hs
 have L1:=lh (L0.out.on0 hf)
 have k0:=L1.out.cell 0 rfl
 have k1:=L1.out.cell 1 rfl
 have z:=L1.out.fz
 clear hl hs hf PK L0
 simp only [tokA]
 go_wp2
 simp [bodyPost,results,Tryz.results238,go_sem,k0,k1,z]
 exact ⟨t,l',HL.out,rfl,((HS.out.set (a:=⟨w.heap.size,0,none⟩) L1.out.loc _).set (a:=⟨w.heap.size,1,none⟩) L1.out.loc _).below⟩
end
theorem pE {α:Type}{E:Env}{res:Res α}{ok:α→List PT→Ending→World→Prop}{e:Ending}{w':World}{p:Nat}{c:Int}(hx:res=.err p c)(hP:PostE E res ok e w'):e=.panicked [{ v:=.iface 121 (.agg #[.int .i64 (p:Int),.int .i64 c]),recovered:=false }]∧Hid (Below E.b E.W w'):=by
 rw [hx] at hP
 exact hP
theorem nt (x:Bool)(w:World):(Op.unary .not (.bool x)).run Tryz.prog w=.ok (.bool (!x)) w:=rfl
end
end Go.Proofs.YthdioipfdbbmmaaGreatDoor
