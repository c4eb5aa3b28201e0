/- Contracts on the way to the laws of layer 5: ParseP, ParseFl, LexA, LexB, LexC, DiagA, DiagB, DiagC. -/
import Derived.Test.YtpemghcafbedeaaGreatDoorKaa
import Derived.Test.YtpemghcafbedeaaGreatDoorProg
import Derived.WalkKit
import Derived.Handy
import Derived.Below
import Derived.Lib.Hide
import Derived.Laws.OwnMore
import Derived.Deep.AppendLies
import Derived.Deep.Onto
import Derived.Laws.EntriesVeiled
import Derived.Carry
import Derived.MapKept
import Derived.Deep.QuietTactic
import Derived.BigQuiet
import Derived.Lib.BytesEntry
import Derived.Laws.BytesArg
import Derived.Lib.SlBytesConst
import Derived.LaidEql
import Derived.Stop.Asserts
import Derived.RowKitTokens
set_option linter.all false
section
namespace Go.Proofs.YtpemghcafbedeaaGreatDoor
open Go.RowKit
def ptOf (t : Tok) : PT := ⟨t.kind, t.at', strOfNums t.text, t.n⟩
def tokC5 (t : Tok) : List Value := [.int .u8 t.kind, .int .i64 t.at', .int .i64 t.stop, .string (strOfNums t.text), .int .i64 t.n]
def nodeC (nd : Nd) (kv : Value) : List Value := [.int .u8 nd.kind, .int .i64 nd.at', .string nd.text, .int .i64 nd.n, kv]
def cellsM : List Nd → List Value → List Value
  | nd :: md, kv :: kvs => nodeC nd kv ++ cellsM md kvs
  | _, _ => []
theorem cellsM_snoc (md : List Nd) (kvs : List Value) (nd : Nd) (kv : Value) (h : kvs.length = md.length) : cellsM (md ++ [nd]) (kvs ++ [kv]) = cellsM md kvs ++ nodeC nd kv := by
  induction md generalizing kvs with
  | nil =>
    cases kvs with
    | nil => simp [cellsM]
    | cons _ _ => simp at h
  | cons m md ih =>
    cases kvs with
    | nil => simp at h
    | cons k kvs => simp only [List.cons_append, cellsM, ih kvs (by simpa using h), List.append_assoc]
theorem cellsM_get (md : List Nd) (kvs : List Value) (h : kvs.length = md.length) (j : Nat) (hj : j < md.length) (i : Nat) (hi : i < 5) : (cellsM md kvs)[j * 5 + i]? = (nodeC (md.getD j default) (kvs.getD j default))[i]? := by
  induction md generalizing kvs j with
  | nil => simp at hj
  | cons m md ih =>
    cases kvs with
    | nil => simp at h
    | cons k kvs =>
      cases j with
      | zero =>
        simp only [cellsM, List.getD_cons_zero, Nat.zero_mul, Nat.zero_add]
        rw [List.getElem?_append_left (by simp [nodeC]; omega)]
      | succ j =>
        simp only [cellsM, List.getD_cons_succ]
        rw [List.getElem?_append_right (by simp [nodeC]; omega)]
        rw [← ih kvs (by simpa using h) j (by simpa using hj)]
        congr 1
        simp [nodeC]; omega
def Ended : List PT → Prop
  | [] => False
  | [e] => e.kind = 4 ∧ e.txt = none0
  | _ :: t :: l => Ended (t :: l)
theorem Ended.tail {t : PT} {l : List PT} (h : Ended (t :: l)) (ht : t.kind ≠ 4 ∨ t.txt ≠ none0) : Ended l := by
  cases l with
  | nil => rcases ht with ht | ht
           · exact absurd h.1 ht
           · exact absurd h.2 ht
  | cons u l => exact h
theorem Ended.pos {l : List PT} (h : Ended l) : ∃ t r, l = t :: r := by
  cases l with
  | nil => exact h.elim
  | cons t r => exact ⟨t, r, rfl⟩
structure Env where
  W : World
  b : Nat
  g : Nat
  cap : Nat
  toks : List Tok
  mp : Value
def Env.pts (E : Env) : List PT := E.toks.map ptOf
def own1 (B : Nat) (w : World) (kv : Value) (ks : List Int) : Prop := w.ownsRow B 3 1 kv ks.length (ks.map (Value.int .i64))
structure PS (E : Env) (v : Value) (kvs : List Value) (md : List Nd) (r : Nat) (l : List PT) (w : World) : Prop where
  below : Below E.b E.W w
  lt : E.b < w.heap.size
  gl : E.g < E.b
  cap : E.toks.length ≤ E.cap
  tok : ∀ j i u, j < E.toks.length → (tokC5 (E.toks.getD j (Tok.endAt 0)))[i]? = some u → w.cell? ⟨E.g, j * 5 + i, none⟩ = some u
  nx : ∃ i : Nat, l = E.pts.drop i ∧ w.heap[E.b]? = some (.cells #[.slice (some ⟨E.g, 0, none⟩) E.toks.length E.cap, .int .i64 (i : Int), .int .i64 (64 - (r : Int)), E.mp, v] 73 (0, 0))
  r64 : r ≤ 64
  ended : Ended l
  few : E.toks.length ≤ 70000
  room : md.length + l.length ≤ 70000
  klen : kvs.length = md.length
  own : w.ownsRow (E.b + 1) 53 5 v md.length (cellsM md kvs)
  kids : ∀ j, j < md.length → own1 (E.b + 1) w (kvs.getD j default) (md.getD j default).kids
  apart : ∀ x ∈ kvs, ∀ k, x.ownBlock = some k → v.ownBlock ≠ some k
  pair : kvs.Pairwise fun x y => ∀ k, x.ownBlock = some k → y.ownBlock ≠ some k
structure Loc (E : Env) (v : Value) (kvs : List Value) (q : Nat) : Prop where
  lt : E.b < q
  v : v.ownBlock ≠ some q
  ks : ∀ x ∈ kvs, x.ownBlock ≠ some q
def LocV (E : Env) (v : Value) (kvs : List Value) (kv : Value) : Prop := ∀ q, kv.ownBlock = some q → Loc E v kvs q
def Nw (B : Nat) (new : List Value) : Prop := ∀ x ∈ new, ∀ k, x.ownBlock = some k → B ≤ k
structure Fr (E : Env) (B : Nat) (v v' : Value) (w w' : World) : Prop where
  os : w'.os = w.os
  tape : w'.tape = w.tape
  output : w'.output = w.output
  size : w.heap.size ≤ w'.heap.size
  block : ∀ k, k < B → k ≠ E.b → v.ownBlock ≠ some k → w'.heap[k]? = w.heap[k]?
  grow : ∀ k, v'.ownBlock = some k → v.ownBlock = some k ∨ B ≤ k
theorem Fr.refl (E : Env) (B : Nat) (v : Value) (w : World) : Fr E B v v w w := ⟨rfl, rfl, rfl, Nat.le_refl _, fun _ _ _ _ => rfl, fun _ h => Or.inl h⟩
theorem Fr.mono {E : Env} {B B' : Nat} {v v' : Value} {w w' : World} (h : Fr E B v v' w w') (hb : B' ≤ B) : Fr E B' v v' w w' :=
  ⟨h.os, h.tape, h.output, h.size, fun k hk => h.block k (Nat.lt_of_lt_of_le hk hb), fun k hk => (h.grow k hk).imp id (Nat.le_trans hb)⟩
theorem Fr.trans {E : Env} {B : Nat} {v v1 v2 : Value} {w w1 w2 : World} (h : Fr E B v v1 w w1) (h' : Fr E B v1 v2 w1 w2) : Fr E B v v2 w w2 where
  os := h'.os.trans h.os
  tape := h'.tape.trans h.tape
  output := h'.output.trans h.output
  size := Nat.le_trans h.size h'.size
  block := fun k hk hb hv => (h'.block k hk hb (fun e => by
    rcases h.grow k e with e | e
    · exact hv e
    · omega)).trans (h.block k hk hb hv)
  grow := fun k hk => by
    rcases h'.grow k hk with e | e
    · exact h.grow k e
    · exact Or.inr e
theorem Fr.grown {E : Env} {B : Nat} {v v1 : Value} {w w1 w2 : World} {row : Option Nat} (h : Fr E B v v1 w w1) (hg : w1.grownBy w2 row) (hB : B ≤ w1.heap.size) (hr : ∀ q, row = some q → B ≤ q) : Fr E B v v1 w w2 where
  os := hg.os.trans h.os
  tape := hg.tape.trans h.tape
  output := hg.output.trans h.output
  size := Nat.le_trans h.size hg.size
  block := fun k hk hb hv => (hg.block k (by omega) (fun e => by have := hr k e.symm; omega)).trans (h.block k hk hb hv)
  grow := h.grow
theorem Fr.alloc {E : Env} {B : Nat} {v v1 : Value} {w w1 : World} (h : Fr E B v v1 w w1) (hB : B ≤ w1.heap.size) (o : Obj) : Fr E B v v1 w (w1.alloc o) := h.grown (World.grownBy_alloc w1 o none) hB (fun _ e => by cases e)
theorem grownBy_set (w : World) (a : Addr) (u : Value) : w.grownBy (w.setCell a u) (some a.block) :=
  ⟨rfl, rfl, rfl, by simp [World.setCell], fun k _ hk => Below.heap_setCell w a u k (fun e => hk (by rw [e]))⟩
theorem Fr.set {E : Env} {B : Nat} {v v1 : Value} {w w1 : World} (h : Fr E B v v1 w w1) (hB : B ≤ w1.heap.size) {a : Addr} (ha : B ≤ a.block) (u : Value) : Fr E B v v1 w (w1.setCell a u) :=
  h.grown (grownBy_set w1 a u) hB (fun q e => by cases e; exact ha)
theorem Fr.drewN {E : Env} {B : Nat} {v v1 : Value} {w w1 : World} (h : Fr E B v v1 w w1) (n : Nat) : Fr E B v v1 w (w1.drewN n) := ⟨h.os, h.tape, h.output, h.size, h.block, h.grow⟩
theorem Fr.cell {E : Env} {B : Nat} {v v' : Value} {w w' : World} (h : Fr E B v v' w w') {p : Addr} (hp : p.block < B) (hb : p.block ≠ E.b) (hv : v.ownBlock ≠ some p.block) : w'.cell? p = w.cell? p :=
  World.cell?_of_block (w := w) (h.block p.block hp hb hv)
theorem Fr.frozen {E : Env} {B : Nat} {v v' : Value} {w w' : World} (h : Fr E B v v' w w') {p : Addr} (hp : p.block < B) (hb : p.block ≠ E.b) (hv : v.ownBlock ≠ some p.block) : w'.frozen? p = w.frozen? p :=
  World.frozen?_of_block (w := w) (h.block p.block hp hb hv)
theorem own1.lt {B : Nat} {w : World} {kv : Value} {ks : List Int} (h : own1 B w kv ks) : ∀ k, kv.ownBlock = some k → B ≤ k ∧ k < w.heap.size := World.ownsRow.lt h
theorem PS.vlt {E : Env} {v : Value} {kvs : List Value} {md : List Nd} {r : Nat} {l : List PT} {w : World} (h : PS E v kvs md r l w) : ∀ k, v.ownBlock = some k → E.b < k ∧ k < w.heap.size := fun k hk => by
  have := h.own.lt k hk
  omega
theorem PS.klt {E : Env} {v : Value} {kvs : List Value} {md : List Nd} {r : Nat} {l : List PT} {w : World} (h : PS E v kvs md r l w) : ∀ x ∈ kvs, ∀ k, x.ownBlock = some k → E.b < k ∧ k < w.heap.size := fun x hx k hk => by
  obtain ⟨j, hj, rfl⟩ := List.getElem_of_mem hx
  have h1 := (h.kids j (by rw [← h.klen]; exact hj)).lt k (by simpa [List.getD, hj] using hk)
  omega
theorem PS.fresh {E : Env} {v : Value} {kvs : List Value} {md : List Nd} {r : Nat} {l : List PT} {w : World} (h : PS E v kvs md r l w) : Loc E v kvs w.heap.size :=
  ⟨h.lt, fun e => by have := (h.vlt _ e).2; omega, fun x hx e => by have := (h.klt x hx _ e).2; omega⟩
theorem PS.cells {E : Env} {v : Value} {kvs : List Value} {md : List Nd} {r : Nat} {l : List PT} {w : World} (h : PS E v kvs md r l w) : ∃ i : Nat, l = E.pts.drop i ∧ w.cell? ⟨E.b, 0, none⟩ = some (.slice (some ⟨E.g, 0, none⟩) E.toks.length E.cap) ∧ w.cell? ⟨E.b, 1, none⟩ = some (.int .i64 (i : Int)) ∧
    w.cell? ⟨E.b, 2, none⟩ = some (.int .i64 (64 - (r : Int))) ∧ w.cell? ⟨E.b, 3, none⟩ = some E.mp ∧ w.cell? ⟨E.b, 4, none⟩ = some v := by
  obtain ⟨i, h1, h2⟩ := h.nx
  exact ⟨i, h1, by rw [cell_of_row _ _ _ _ _ _ h2]; rfl, by rw [cell_of_row _ _ _ _ _ _ h2]; rfl, by rw [cell_of_row _ _ _ _ _ _ h2]; rfl, by rw [cell_of_row _ _ _ _ _ _ h2]; rfl, by rw [cell_of_row _ _ _ _ _ _ h2]; rfl⟩
theorem PS.fz {E : Env} {v : Value} {kvs : List Value} {md : List Nd} {r : Nat} {l : List PT} {w : World} (h : PS E v kvs md r l w) (i : Nat) : w.frozen? ⟨E.b, i, none⟩ = false := by
  obtain ⟨_, _, h2⟩ := h.nx
  exact frozen_of_row _ _ _ _ _ h2
theorem heap_set (w : World) (q i : Nat) (u : Value) (cs : Array Value) (T : TypeId) (h : w.heap[q]? = some (.cells cs T (0, 0))) : (w.setCell ⟨q, i, none⟩ u).heap[q]? = some (.cells (cs.setIfInBounds i u) T (0, 0)) := by
  simp only [World.setCell, Array.getElem?_modify]
  rw [if_pos trivial, h]
  rfl
theorem PS.grown {E : Env} {v : Value} {kvs : List Value} {md : List Nd} {r : Nat} {l : List PT} {w w' : World} {row : Option Nat} (h : PS E v kvs md r l w) (hg : w.grownBy w' row) (hr : ∀ q, row = some q → Loc E v kvs q) : PS E v kvs md r l w' where
  below := h.below.grown hg (Nat.le_of_lt h.lt) (fun k e => Nat.le_of_lt (hr k e).lt)
  lt := Nat.lt_of_lt_of_le h.lt hg.size
  gl := h.gl
  cap := h.cap
  tok := fun j i u hj hi => by
    have := h.tok j i u hj hi
    have hl := h.lt
    have hgl := h.gl
    rw [World.cell?_of_block (w := w) (a := ⟨E.g, j * 5 + i, none⟩) (hg.block E.g (by omega) (fun e => by have := (hr _ e.symm).lt; omega))]
    exact this
  nx := by
    obtain ⟨i, h1, h2⟩ := h.nx
    exact ⟨i, h1, by rw [hg.block E.b h.lt (fun e => by have := (hr _ e.symm).lt; omega)]; exact h2⟩
  r64 := h.r64
  ended := h.ended
  few := h.few
  room := h.room
  klen := h.klen
  own := h.own.kept hg (by
    cases hv : v.ownBlock with
    | none => exact Or.inl rfl
    | some k => exact Or.inr (fun e => by have := (hr k e.symm).v; rw [hv] at this; exact this rfl))
  kids := fun j hj => (h.kids j hj).kept hg (by
    cases hv : (kvs.getD j default).ownBlock with
    | none => exact Or.inl rfl
    | some k =>
      refine Or.inr (fun e => ?_)
      have hj' : j < kvs.length := by rw [h.klen]; exact hj
      have := (hr k e.symm).ks (kvs.getD j default) (by simp [List.getD, hj'])
      rw [hv] at this; exact this rfl)
  apart := h.apart
  pair := h.pair
theorem PS.alloc {E : Env} {v : Value} {kvs : List Value} {md : List Nd} {r : Nat} {l : List PT} {w : World} (h : PS E v kvs md r l w) (o : Obj) : PS E v kvs md r l (w.alloc o) := h.grown (World.grownBy_alloc w o none) (fun _ e => by cases e)
theorem PS.set {E : Env} {v : Value} {kvs : List Value} {md : List Nd} {r : Nat} {l : List PT} {w : World} (h : PS E v kvs md r l w) {a : Addr} (ha : Loc E v kvs a.block) (u : Value) : PS E v kvs md r l (w.setCell a u) :=
  h.grown (grownBy_set w a u) (fun q e => by cases e; exact ha)
theorem Loc.on {E : Env} {v v' : Value} {kvs new : List Value} {w w' : World} {q B : Nat} (h : Loc E v kvs q) (hf : Fr E B v v' w w') (hn : Nw B new) (hq : q < B) : Loc E v' (kvs ++ new) q where
  lt := h.lt
  v := fun e => by
    rcases hf.grow q e with e | e
    · exact h.v e
    · omega
  ks := fun x hx e => by
    rcases List.mem_append.1 hx with hx | hx
    · exact h.ks x hx e
    · have := hn x hx q e
      omega
theorem own1.grown {B : Nat} {w w' : World} {kv : Value} {ks : List Int} {row : Option Nat} (h : own1 B w kv ks) (hg : w.grownBy w' row) (hne : kv.ownBlock = none ∨ kv.ownBlock ≠ row) : own1 B w' kv ks := World.ownsRow.kept h hg hne
theorem own1.on {E : Env} {B : Nat} {v v' : Value} {w w' : World} {kv : Value} {ks : List Int} {kvs : List Value} (h : own1 B w kv ks) (hf : Fr E w.heap.size v v' w w') (hl : LocV E v kvs kv) : own1 B w' kv ks := by
  cases hk : kv.ownBlock with
  | none =>
    obtain ⟨h1, h2⟩ := h
    refine ⟨h1, ?_⟩
    rcases h2 with h2 | ⟨g, cap, cur, e, _⟩
    · exact Or.inl h2
    · subst e; simp [Value.ownBlock] at hk
  | some q =>
    have hq := hl q hk
    have hlt := (h.lt q hk).2
    obtain ⟨h1, h2⟩ := h
    refine ⟨h1, ?_⟩
    rcases h2 with h2 | ⟨g, cap, cur, e, hb, hh, hr⟩
    · exact Or.inl h2
    · have hgq : g = q := by subst e; simpa [Value.ownBlock] using hk
      subst hgq
      exact Or.inr ⟨g, cap, cur, e, hb, by rw [hf.block g hlt (by have := hq.lt; omega) hq.v]; exact hh, hr⟩
theorem LocV.on {E : Env} {v v' : Value} {kvs new : List Value} {w w' : World} {B : Nat} {kv : Value} (h : LocV E v kvs kv) (hf : Fr E B v v' w w') (hn : Nw B new) (hq : ∀ q, kv.ownBlock = some q → q < B) : LocV E v' (kvs ++ new) kv :=
  fun q e => (h q e).on hf hn (hq q e)
theorem Nw.append {B : Nat} {x y : List Value} (h : Nw B x) (h' : Nw B y) : Nw B (x ++ y) := fun z hz => by
  rcases List.mem_append.1 hz with hz | hz
  · exact h z hz
  · exact h' z hz
theorem Nw.mono {B B' : Nat} {x : List Value} (h : Nw B x) (hb : B' ≤ B) : Nw B' x := fun z hz k hk => Nat.le_trans hb (h z hz k hk)
theorem Nw.nil (B : Nat) : Nw B [] := fun x hx => by simp at hx
structure Lcl (E : Env) (v : Value) (kvs : List Value) (q : Nat) (o : Obj) (w : World) : Prop where
  loc : Loc E v kvs q
  lt : q < w.heap.size
  obj : w.heap[q]? = some o
theorem Lcl.new {E : Env} {v : Value} {kvs : List Value} {md : List Nd} {r : Nat} {l : List PT} {w : World} (h : PS E v kvs md r l w) (o : Obj) : Lcl E v kvs w.heap.size o (w.alloc o) :=
  ⟨h.fresh, by simp, by show (w.heap.push o)[w.heap.size]? = _; simp⟩
theorem Lcl.on {E : Env} {v v' : Value} {kvs new : List Value} {w w' : World} {q : Nat} {o : Obj} (h : Lcl E v kvs q o w) (hf : Fr E w.heap.size v v' w w') (hn : Nw w.heap.size new) : Lcl E v' (kvs ++ new) q o w' :=
  ⟨h.loc.on hf hn h.lt, Nat.lt_of_lt_of_le h.lt hf.size, by rw [hf.block q h.lt (by have := h.loc.lt; omega) h.loc.v]; exact h.obj⟩
theorem Lcl.on0 {E : Env} {v v' : Value} {kvs : List Value} {w w' : World} {q : Nat} {o : Obj} (h : Lcl E v kvs q o w) (hf : Fr E w.heap.size v v' w w') : Lcl E v' kvs q o w' := by
  have := h.on hf (Nw.nil _)
  rwa [List.append_nil] at this
theorem Lcl.grown {E : Env} {v : Value} {kvs : List Value} {w w' : World} {q : Nat} {o : Obj} {row : Option Nat} (h : Lcl E v kvs q o w) (hg : w.grownBy w' row) (hne : row ≠ some q) : Lcl E v kvs q o w' :=
  ⟨h.loc, Nat.lt_of_lt_of_le h.lt hg.size, by rw [hg.block q h.lt (fun e => hne e.symm)]; exact h.obj⟩
theorem Lcl.alloc {E : Env} {v : Value} {kvs : List Value} {w : World} {q : Nat} {o : Obj} (h : Lcl E v kvs q o w) (o' : Obj) : Lcl E v kvs q o (w.alloc o') := h.grown (World.grownBy_alloc w o' none) (by simp)
theorem Lcl.set {E : Env} {v : Value} {kvs : List Value} {w : World} {q : Nat} {cs : Array Value} {T : TypeId} (h : Lcl E v kvs q (.cells cs T (0, 0)) w) (i : Nat) (u : Value) : Lcl E v kvs q (.cells (cs.setIfInBounds i u) T (0, 0)) (w.setCell ⟨q, i, none⟩ u) :=
  ⟨h.loc, by simpa [World.setCell] using h.lt, heap_set w q i u cs T h.obj⟩
theorem Lcl.cell {E : Env} {v : Value} {kvs : List Value} {w : World} {q : Nat} {cs : Array Value} {T : TypeId} (h : Lcl E v kvs q (.cells cs T (0, 0)) w) (i : Nat) {u : Value} (hu : cs[i]? = some u) : w.cell? ⟨q, i, none⟩ = some u := by
  rw [cell_of_row w q i cs T _ h.obj]; exact hu
theorem Lcl.fz {E : Env} {v : Value} {kvs : List Value} {w : World} {q : Nat} {cs : Array Value} {T : TypeId} (h : Lcl E v kvs q (.cells cs T (0, 0)) w) (i : Nat) : w.frozen? ⟨q, i, none⟩ = false := frozen_of_row w q i cs T h.obj
theorem Lcl.set5 {E : Env} {v : Value} {kvs : List Value} {w : World} {q : Nat} {c0 c1 c2 c3 c4 : Value} {T : TypeId} (h : Lcl E v kvs q (.cells #[c0, c1, c2, c3, c4] T (0, 0)) w) (d0 d1 d2 d3 d4 : Value) :
    Lcl E v kvs q (.cells #[d0, d1, d2, d3, d4] T (0, 0)) (((((w.setCell ⟨q, 0, none⟩ d0).setCell ⟨q, 1, none⟩ d1).setCell ⟨q, 2, none⟩ d2).setCell ⟨q, 3, none⟩ d3).setCell ⟨q, 4, none⟩ d4) :=
  ((((h.set 0 d0).set 1 d1).set 2 d2).set 3 d3).set 4 d4
theorem PS.set5 {E : Env} {v : Value} {kvs : List Value} {md : List Nd} {r : Nat} {l : List PT} {w : World} (h : PS E v kvs md r l w) {q : Nat} (hq : Loc E v kvs q) (d0 d1 d2 d3 d4 : Value) :
    PS E v kvs md r l (((((w.setCell ⟨q, 0, none⟩ d0).setCell ⟨q, 1, none⟩ d1).setCell ⟨q, 2, none⟩ d2).setCell ⟨q, 3, none⟩ d3).setCell ⟨q, 4, none⟩ d4) :=
  ((((h.set (a := ⟨q, 0, none⟩) hq d0).set (a := ⟨q, 1, none⟩) hq d1).set (a := ⟨q, 2, none⟩) hq d2).set (a := ⟨q, 3, none⟩) hq d3).set (a := ⟨q, 4, none⟩) hq d4
theorem size_set (w : World) (a : Addr) (u : Value) : (w.setCell a u).heap.size = w.heap.size := by simp [World.setCell]
theorem Fr.set5 {E : Env} {B : Nat} {v v1 : Value} {w w1 : World} (h : Fr E B v v1 w w1) (hB : B ≤ w1.heap.size) {q : Nat} (hq : B ≤ q) (d0 d1 d2 d3 d4 : Value) :
    Fr E B v v1 w (((((w1.setCell ⟨q, 0, none⟩ d0).setCell ⟨q, 1, none⟩ d1).setCell ⟨q, 2, none⟩ d2).setCell ⟨q, 3, none⟩ d3).setCell ⟨q, 4, none⟩ d4) :=
  ((((h.set hB (a := ⟨q, 0, none⟩) hq d0).set (by rw [size_set]; exact hB) (a := ⟨q, 1, none⟩) hq d1).set (by rw [size_set, size_set]; exact hB) (a := ⟨q, 2, none⟩) hq d2).set (by rw [size_set, size_set, size_set]; exact hB) (a := ⟨q, 3, none⟩) hq d3).set (by rw [size_set, size_set, size_set, size_set]; exact hB) (a := ⟨q, 4, none⟩) hq d4
theorem Lcl.setB {E : Env} {v : Value} {kvs : List Value} {w : World} {q : Nat} {o : Obj} (h : Lcl E v kvs q o w) (i : Nat) (u : Value) : Lcl E v kvs q o (w.setCell ⟨E.b, i, none⟩ u) :=
  h.grown (grownBy_set w _ _) (fun e => by have := h.loc.lt; have e := Option.some.inj e; simp only at e; omega)
def rootI (b : Nat) (a : Ast) : Int := ((b + a.size : Nat) : Int) - 1
end Go.Proofs.YtpemghcafbedeaaGreatDoor
end
section
namespace Go.Proofs.YtpemghcafbedeaaGreatDoor
mutual
def flat (o : Nat) : Ast → List Nd
  | .mk k a t n ks => ⟨k, a, t, n, heads (o + 1) ks⟩ :: flatL (o + 1) ks
def flatL (o : Nat) : List Ast → List Nd
  | [] => []
  | x :: r => flat o x ++ flatL (o + x.size) r
def heads (o : Nat) : List Ast → List Int
  | [] => []
  | x :: r => (o : Int) :: heads (o + x.size) r
end
mutual
def raw (b : Nat) : Ast → List (Nat × Nd)
  | .mk k a t n ks => (b + sizeL ks, ⟨k, a, t, n, roots b ks⟩) :: rawL b ks
def rawL (b : Nat) : List Ast → List (Nat × Nd)
  | [] => []
  | x :: r => raw b x ++ rawL (b + x.size) r
end
mutual
theorem raw_length (b : Nat) : ∀ a : Ast, (raw b a).length = a.size
  | .mk k a t n ks => by simp only [raw, List.length_cons, rawL_length b ks, Ast.size]
theorem rawL_length (b : Nat) : ∀ l : List Ast, (rawL b l).length = sizeL l
  | [] => by simp [rawL, sizeL]
  | x :: r => by simp only [rawL, List.length_append, raw_length b x, rawL_length (b + x.size) r, sizeL]
end
mutual
theorem flat_length (b : Nat) : ∀ a : Ast, (flat b a).length = a.size
  | .mk k a t n ks => by simp only [flat, List.length_cons, flatL_length (b + 1) ks, Ast.size]
theorem flatL_length (b : Nat) : ∀ l : List Ast, (flatL b l).length = sizeL l
  | [] => by simp [flatL, sizeL]
  | x :: r => by simp only [flatL, List.length_append, flat_length b x, flatL_length (b + x.size) r, sizeL]
end
theorem heads_length (b : Nat) (l : List Ast) : (heads b l).length = l.length := by
  induction l generalizing b with
  | nil => simp [heads]
  | cons x r ih => simp only [heads, List.length_cons, ih]
theorem raw_head (b : Nat) (a : Ast) : ∃ nd rest, raw b a = (b + a.size - 1, nd) :: rest := by
  cases a with
  | mk k a t n ks => exact ⟨_, _, by simp only [raw, Ast.size]; rw [show b + (sizeL ks + 1) - 1 = b + sizeL ks by omega]⟩
mutual
theorem raw_range (b : Nat) : ∀ (a : Ast) (x : Nat × Nd), x ∈ raw b a → b ≤ x.1 ∧ x.1 < b + a.size
  | .mk k a t n ks, x, hx => by
    simp only [raw, List.mem_cons] at hx
    simp only [Ast.size]
    rcases hx with rfl | hx
    · simp only; omega
    · have := rawL_range b ks x hx
      omega
theorem rawL_range (b : Nat) : ∀ (l : List Ast) (x : Nat × Nd), x ∈ rawL b l → b ≤ x.1 ∧ x.1 < b + sizeL l
  | [], x, hx => by simp [rawL] at hx
  | y :: r, x, hx => by
    simp only [rawL, List.mem_append] at hx
    simp only [sizeL]
    rcases hx with hx | hx
    · have := raw_range b y x hx
      omega
    · have := rawL_range (b + y.size) r x hx
      omega
end
mutual
theorem raw_nodup (b : Nat) : ∀ a : Ast, ((raw b a).map (·.1)).Nodup
  | .mk k a t n ks => by
    simp only [raw, List.map_cons, List.nodup_cons]
    refine ⟨fun h => ?_, rawL_nodup b ks⟩
    obtain ⟨x, hx, e⟩ := List.mem_map.1 h
    have := rawL_range b ks x hx
    omega
theorem rawL_nodup (b : Nat) : ∀ l : List Ast, ((rawL b l).map (·.1)).Nodup
  | [] => by simp [rawL]
  | y :: r => by
    simp only [rawL, List.map_append]
    refine List.nodup_append.2 ⟨raw_nodup b y, rawL_nodup (b + y.size) r, fun p hp q hq e => ?_⟩
    obtain ⟨x, hx, e1⟩ := List.mem_map.1 hp
    obtain ⟨z, hz, e2⟩ := List.mem_map.1 hq
    have h1 := raw_range b y x hx
    have h2 := rawL_range (b + y.size) r z hz
    omega
end
mutual
theorem raw_post (b : Nat) : ∀ (a : Ast) (x : Nat × Nd), x ∈ raw b a → (post b a)[x.1 - b]? = some x.2
  | .mk k a t n ks, x, hx => by
    simp only [raw, List.mem_cons] at hx
    simp only [post]
    rcases hx with rfl | hx
    · simp only
      rw [List.getElem?_append_right (by rw [postL_length]; omega), postL_length, show b + sizeL ks - b - sizeL ks = 0 by omega]
      rfl
    · have h1 := rawL_range b ks x hx
      rw [List.getElem?_append_left (by rw [postL_length]; omega)]
      exact rawL_post b ks x hx
theorem rawL_post (b : Nat) : ∀ (l : List Ast) (x : Nat × Nd), x ∈ rawL b l → (postL b l)[x.1 - b]? = some x.2
  | [], x, hx => by simp [rawL] at hx
  | y :: r, x, hx => by
    simp only [rawL, List.mem_append] at hx
    simp only [postL]
    rcases hx with hx | hx
    · have h1 := raw_range b y x hx
      rw [List.getElem?_append_left (by rw [post_length]; omega)]
      exact raw_post b y x hx
    · have h1 := rawL_range (b + y.size) r x hx
      rw [List.getElem?_append_right (by rw [post_length]; omega), post_length, show x.1 - b - y.size = x.1 - (b + y.size) by omega]
      exact rawL_post (b + y.size) r x hx
end
def placed (g : Int → Int) (x : Nat × Nd) : Nd := { x.2 with kids := x.2.kids.map g }
theorem roots_heads (g : Int → Int) (b o : Nat) (l : List Ast) (hg : ∀ i x, (rawL b l)[i]? = some x → g x.1 = ((o + i : Nat) : Int)) : (roots b l).map g = heads o l := by
  induction l generalizing b o with
  | nil => simp [roots, heads]
  | cons y r ih =>
    obtain ⟨nd, rest, hr⟩ := raw_head b y
    have hs := size_pos y
    simp only [roots, heads, List.map_cons]
    refine congr (congrArg List.cons ?_) ?_
    · have := hg 0 (b + y.size - 1, nd) (by simp [rawL, hr])
      rw [show ((b + y.size : Nat) : Int) - 1 = ((b + y.size - 1 : Nat) : Int) by omega]
      simpa using this
    · refine ih (b + y.size) (o + y.size) fun i x hx => ?_
      have := hg (y.size + i) x (by
        simp only [rawL]
        rw [List.getElem?_append_right (by rw [raw_length]; omega), raw_length, show y.size + i - y.size = i by omega]
        exact hx)
      rw [this]
      omega
mutual
theorem raw_flat (g : Int → Int) (b o : Nat) : ∀ (a : Ast) (_ : ∀ i x, (raw b a)[i]? = some x → g x.1 = ((o + i : Nat) : Int)), (raw b a).map (placed g) = flat o a
  | .mk k a t n ks, hg => by
    have h1 : ∀ i x, (rawL b ks)[i]? = some x → g x.1 = ((o + 1 + i : Nat) : Int) := fun i x hx => by
      have := hg (i + 1) x (by simp only [raw, List.getElem?_cons_succ]; exact hx)
      rw [this]; omega
    simp only [raw, flat, List.map_cons, placed, roots_heads g b (o + 1) ks h1]
    exact congrArg _ (rawL_flat g b (o + 1) ks h1)
theorem rawL_flat (g : Int → Int) (b o : Nat) : ∀ (l : List Ast) (_ : ∀ i x, (rawL b l)[i]? = some x → g x.1 = ((o + i : Nat) : Int)), (rawL b l).map (placed g) = flatL o l
  | [], _ => by simp [rawL, flatL]
  | y :: r, hg => by
    simp only [rawL, flatL, List.map_append]
    rw [raw_flat g b o y fun i x hx => hg i x (by
      simp only [rawL]
      have hi : i < (raw b y).length := (List.getElem?_eq_some_iff.1 hx).1
      rw [List.getElem?_append_left hi]
      exact hx), rawL_flat g (b + y.size) (o + y.size) r fun i x hx => by
      have := hg (y.size + i) x (by
        simp only [rawL]
        rw [List.getElem?_append_right (by rw [raw_length]; omega), raw_length, show y.size + i - y.size = i by omega]
        exact hx)
      rw [this]; omega]
end
def rawS : List (Nat × Ast) → List (Nat × Nd)
  | [] => []
  | (b, a) :: r => raw b a ++ rawS r
def tops : List (Nat × Ast) → List Int
  | [] => []
  | (b, a) :: r => (((b + a.size : Nat) : Int) - 1) :: tops r
def pairsOf (b : Nat) : List Ast → List (Nat × Ast)
  | [] => []
  | x :: r => (b, x) :: pairsOf (b + x.size) r
theorem rawS_append (x y : List (Nat × Ast)) : rawS (x ++ y) = rawS x ++ rawS y := by
  induction x with
  | nil => simp [rawS]
  | cons p r ih => obtain ⟨b, a⟩ := p; simp only [List.cons_append, rawS, ih, List.append_assoc]
theorem tops_append (x y : List (Nat × Ast)) : tops (x ++ y) = tops x ++ tops y := by
  induction x with
  | nil => simp [tops]
  | cons p r ih => obtain ⟨b, a⟩ := p; simp only [List.cons_append, tops, ih]
theorem tops_length (x : List (Nat × Ast)) : (tops x).length = x.length := by
  induction x with
  | nil => simp [tops]
  | cons p r ih => obtain ⟨b, a⟩ := p; simp only [List.length_cons, tops, ih]
theorem rawS_pairs (b : Nat) (l : List Ast) : rawS (pairsOf b l) = rawL b l := by
  induction l generalizing b with
  | nil => simp [rawS, rawL, pairsOf]
  | cons x r ih => simp only [rawS, rawL, pairsOf, ih]
theorem tops_pairs (b : Nat) (l : List Ast) : tops (pairsOf b l) = roots b l := by
  induction l generalizing b with
  | nil => simp [tops, roots, pairsOf]
  | cons x r ih => simp only [tops, roots, pairsOf, ih]
theorem rawS_cons (b : Nat) (k : Int) (a : Nat) (t : ByteArray) (n : Int) (ks : List Ast) (r : List (Nat × Ast)) :
    rawS ((b, .mk k a t n ks) :: r) = (b + sizeL ks, ⟨k, a, t, n, roots b ks⟩) :: rawS (pairsOf b ks ++ r) := by
  rw [rawS_append, rawS_pairs]
  simp only [rawS, raw, List.cons_append]
end Go.Proofs.YtpemghcafbedeaaGreatDoor
end
section
namespace Go.Proofs.YtpemghcafbedeaaGreatDoor
open Go.RowKit Go.MapKept
theorem insert_new (w : World) (es : Array MapEntry) (n : Nat) (k : Int) (v : Value) (h : Instr.findNow (.int .u8) (.int .u8 k) es.toList 0 = some none) :
    (Instr.mapUpdate 146 (.map (some w.heap.size)) (.int .u8 k) v).run Tryz.prog (w.alloc (.map es n)) = .ok () (w.alloc (.map (es.push { key := .int .u8 k, val := v, born := n }) (n + 1))) := by
  have hb : (w.alloc (.map es n)).heap[w.heap.size]? = some (.map es n) := by
    show (w.heap.push (.map es n))[w.heap.size]? = _
    simp
  have hk : (Instr.checkKey false 10000 143 (.int .u8 k)).run Tryz.prog (w.alloc (.map es n)) = .ok () (w.alloc (.map es n)) := run_checkKey Tryz.underlying143 (by simp [IsKey]) false 9999
  have hp : ∀ (a : Array Obj) (x y : Obj), (a.push x).setIfInBounds a.size y = a.push y := fun a x y => by
    apply Array.ext_getElem?
    intro i
    by_cases h : i = a.size
    · subst h; simp
    · have h' : ¬ a.size = i := fun e => h e.symm
      simp [Array.getElem?_push, h, h']
  have hw : ∀ o : Obj, ({ w.alloc (.map es n) with heap := (w.alloc (.map es n)).heap.setIfInBounds w.heap.size o } : World) = w.alloc o := fun o => by
    show ({ w with heap := (w.heap.push (.map es n)).setIfInBounds w.heap.size o } : World) = _
    rw [hp]
    rfl
  simp only [Instr.mapUpdate, Sem.run_bind, run_underlying Tryz.underlying146, Result.andThen, Go.MapKept.run_getObj_map hb, hk, run_findKey (P := Tryz.prog) Tryz.underlying143 h, run_setObj_map _ hb, hw]
theorem lookup_at (W : World) (r : Nat) (es : Array MapEntry) (n i : Nat) (k : Int) (v : Value) (hb : W.heap[r]? = some (.map es n)) (h : Instr.findNow (.int .u8) (.int .u8 k) es.toList 0 = some (some (i, v))) :
    (Instr.lookup 146 (.map (some r)) (.int .u8 k) false).run Tryz.prog W = .ok v W := by
  have hk : ∀ b, (Instr.checkKey b 10000 143 (.int .u8 k)).run Tryz.prog W = .ok () W := fun b => run_checkKey Tryz.underlying143 (by simp [IsKey]) b 9999
  simp only [Instr.lookup, Sem.run_bind, run_underlying Tryz.underlying146, Result.andThen, Go.MapKept.run_getObj_map hb, hk, run_findKey (P := Tryz.prog) Tryz.underlying143 h, Sem.run_pure]
  simp
def mem (k : Int) : ByteArray :=
  if k = 1 then ⟨#[32, 9, 10, 13]⟩ else if k = 2 then ⟨#[35]⟩
  else if k = 3 then ⟨#[97, 98, 99, 100, 101, 102, 103, 104, 105, 106, 107, 108, 109, 110, 111, 112, 113, 114, 115, 116, 117, 118, 119, 120, 121, 122]⟩
  else if k = 4 then ⟨#[48, 49, 50, 51, 52, 53, 54, 55, 56, 57]⟩ else if k = 5 then ⟨#[95]⟩
  else ⟨#[123, 125, 40, 41, 91, 93, 59, 44, 46, 43, 45, 42, 60, 61]⟩
def ent (k : Int) (b : Nat) : MapEntry := { key := .int .u8 k, val := .agg #[.string (mem k)], born := b }
def ES : Array MapEntry := #[ent 1 0, ent 2 1, ent 3 2, ent 4 3, ent 5 4, ent 6 5]
theorem find_es (k : Int) (h1 : 1 ≤ k) (h6 : k ≤ 6) : ∃ i, Instr.findNow (.int .u8) (.int .u8 k) ES.toList 0 = some (some (i, .agg #[.string (mem k)])) := by
  obtain rfl | rfl | rfl | rfl | rfl | rfl : k = 1 ∨ k = 2 ∨ k = 3 ∨ k = 4 ∨ k = 5 ∨ k = 6 := by omega
  all_goals exact ⟨_, rfl⟩
def paint (s : ByteArray) (k : Int) (j : Nat) (F : Nat → Int) : Nat → Int := fun x => if ((s.data.toList.take j).map UInt8.toNat).contains x then k else F x
theorem paint_zero (s : ByteArray) (k : Int) (F : Nat → Int) : paint s k 0 F = F := by funext x; simp [paint]
theorem paint_succ (s : ByteArray) (k : Int) (j : Nat) (F : Nat → Int) (h : j < s.size) : paint s k (j + 1) F = fun x => if x = s[j].toNat then k else paint s k j F x := by
  have hj : j < s.data.toList.length := by simpa using h
  funext x
  have e : s.data.toList.take (j + 1) = s.data.toList.take j ++ [s[j]] := by
    rw [List.take_succ_eq_append_getElem hj]
    rfl
  simp only [paint, e, List.map_append, List.map_cons, List.map_nil, List.contains_append, List.contains_cons, List.contains_nil, Bool.or_false]
  by_cases h1 : x = s[j].toNat
  · simp [h1]
  · simp [h1]
def FK : Nat → Nat → Int
  | 0 => fun _ => 0
  | k + 1 => paint (mem (k + 1 : Nat)) (k + 1 : Nat) (mem (k + 1 : Nat)).size (FK k)
theorem FK_kind : ∀ c : Nat, c < 256 → FK 6 c = kindF c := by decide +kernel
theorem zero70 : Tryz.zeroCells147 = Array.replicate 256 (.int .u8 0) := by kernel_rfl
structure KW (w W : World) (F : Nat → Int) : Prop where
  below : Below w.heap.size w W
  map : W.heap[w.heap.size]? = some (.map ES 6)
  arr : ∀ c : Nat, c < 256 → W.cell? ⟨w.heap.size + 1, c, none⟩ = some (.int .u8 (F c))
  free : ∀ c : Nat, W.frozen? ⟨w.heap.size + 1, c, none⟩ = false
  size : w.heap.size + 1 < W.heap.size
theorem KW.store {w W : World} {F : Nat → Int} (h : KW w W F) (c : Nat) (hc : c < 256) (k : Int) : KW w (W.setCell ⟨w.heap.size + 1, c, none⟩ (.int .u8 k)) (fun x => if x = c then k else F x) where
  below := h.below.setCell (by simp) _
  map := by rw [Below.heap_setCell _ _ _ _ (by simp)]; exact h.map
  arr := fun x hx => by
    by_cases e : x = c
    · subst e
      have := h.arr x hx
      rw [World.cell?_setCell_same _ _ _ this]; simp
    · rw [World.cell?_setCell_other _ _ _ _ (by simp)]
      simp [e, h.arr x hx]
  free := fun x => by simp [h.free x]
  size := by simpa [World.setCell] using h.size
set_option maxHeartbeats 4000000 in
set_option maxRecDepth 1000000 in
theorem byteKinds_run (w : World) : Calls Tryz.prog 50 #[] w fun e w' => e = .returned (.func (.func 105) #[] #[.pointer (some ⟨w.heap.size + 1, 0, none⟩)]) ∧ KW w w' (FK 6) := by
  have hmm := @run_makeMap Tryz.prog
  have i1 : (Instr.mapUpdate 146 (.map (some w.heap.size)) (.int .u8 1) (.agg #[.string ⟨#[32, 9, 10, 13]⟩])).run Tryz.prog (w.alloc (.map #[] 0)) = .ok () (w.alloc (.map #[{ key := .int .u8 1, val := .agg #[.string ⟨#[32, 9, 10, 13]⟩], born := 0 }] 1)) := insert_new w #[] 0 1 _ rfl
  have i2 : (Instr.mapUpdate 146 (.map (some w.heap.size)) (.int .u8 2) (.agg #[.string ⟨#[35]⟩])).run Tryz.prog (w.alloc (.map #[{ key := .int .u8 1, val := .agg #[.string ⟨#[32, 9, 10, 13]⟩], born := 0 }] 1)) = .ok () (w.alloc (.map #[{ key := .int .u8 1, val := .agg #[.string ⟨#[32, 9, 10, 13]⟩], born := 0 }, { key := .int .u8 2, val := .agg #[.string ⟨#[35]⟩], born := 1 }] 2)) := insert_new w #[ent 1 0] 1 2 _ rfl
  have i3 : (Instr.mapUpdate 146 (.map (some w.heap.size)) (.int .u8 3) (.agg #[.string ⟨#[97, 98, 99, 100, 101, 102, 103, 104, 105, 106, 107, 108, 109, 110, 111, 112, 113, 114, 115, 116, 117, 118, 119, 120, 121, 122]⟩])).run Tryz.prog (w.alloc (.map #[{ key := .int .u8 1, val := .agg #[.string ⟨#[32, 9, 10, 13]⟩], born := 0 }, { key := .int .u8 2, val := .agg #[.string ⟨#[35]⟩], born := 1 }] 2)) = .ok () (w.alloc (.map #[{ key := .int .u8 1, val := .agg #[.string ⟨#[32, 9, 10, 13]⟩], born := 0 }, { key := .int .u8 2, val := .agg #[.string ⟨#[35]⟩], born := 1 }, { key := .int .u8 3, val := .agg #[.string ⟨#[97, 98, 99, 100, 101, 102, 103, 104, 105, 106, 107, 108, 109, 110, 111, 112, 113, 114, 115, 116, 117, 118, 119, 120, 121, 122]⟩], born := 2 }] 3)) := insert_new w #[ent 1 0, ent 2 1] 2 3 _ rfl
  have i4 : (Instr.mapUpdate 146 (.map (some w.heap.size)) (.int .u8 4) (.agg #[.string ⟨#[48, 49, 50, 51, 52, 53, 54, 55, 56, 57]⟩])).run Tryz.prog (w.alloc (.map #[{ key := .int .u8 1, val := .agg #[.string ⟨#[32, 9, 10, 13]⟩], born := 0 }, { key := .int .u8 2, val := .agg #[.string ⟨#[35]⟩], born := 1 }, { key := .int .u8 3, val := .agg #[.string ⟨#[97, 98, 99, 100, 101, 102, 103, 104, 105, 106, 107, 108, 109, 110, 111, 112, 113, 114, 115, 116, 117, 118, 119, 120, 121, 122]⟩], born := 2 }] 3)) = .ok () (w.alloc (.map #[{ key := .int .u8 1, val := .agg #[.string ⟨#[32, 9, 10, 13]⟩], born := 0 }, { key := .int .u8 2, val := .agg #[.string ⟨#[35]⟩], born := 1 }, { key := .int .u8 3, val := .agg #[.string ⟨#[97, 98, 99, 100, 101, 102, 103, 104, 105, 106, 107, 108, 109, 110, 111, 112, 113, 114, 115, 116, 117, 118, 119, 120, 121, 122]⟩], born := 2 }, { key := .int .u8 4, val := .agg #[.string ⟨#[48, 49, 50, 51, 52, 53, 54, 55, 56, 57]⟩], born := 3 }] 4)) := insert_new w #[ent 1 0, ent 2 1, ent 3 2] 3 4 _ rfl
  have i5 : (Instr.mapUpdate 146 (.map (some w.heap.size)) (.int .u8 5) (.agg #[.string ⟨#[95]⟩])).run Tryz.prog (w.alloc (.map #[{ key := .int .u8 1, val := .agg #[.string ⟨#[32, 9, 10, 13]⟩], born := 0 }, { key := .int .u8 2, val := .agg #[.string ⟨#[35]⟩], born := 1 }, { key := .int .u8 3, val := .agg #[.string ⟨#[97, 98, 99, 100, 101, 102, 103, 104, 105, 106, 107, 108, 109, 110, 111, 112, 113, 114, 115, 116, 117, 118, 119, 120, 121, 122]⟩], born := 2 }, { key := .int .u8 4, val := .agg #[.string ⟨#[48, 49, 50, 51, 52, 53, 54, 55, 56, 57]⟩], born := 3 }] 4)) = .ok () (w.alloc (.map #[{ key := .int .u8 1, val := .agg #[.string ⟨#[32, 9, 10, 13]⟩], born := 0 }, { key := .int .u8 2, val := .agg #[.string ⟨#[35]⟩], born := 1 }, { key := .int .u8 3, val := .agg #[.string ⟨#[97, 98, 99, 100, 101, 102, 103, 104, 105, 106, 107, 108, 109, 110, 111, 112, 113, 114, 115, 116, 117, 118, 119, 120, 121, 122]⟩], born := 2 }, { key := .int .u8 4, val := .agg #[.string ⟨#[48, 49, 50, 51, 52, 53, 54, 55, 56, 57]⟩], born := 3 }, { key := .int .u8 5, val := .agg #[.string ⟨#[95]⟩], born := 4 }] 5)) := insert_new w #[ent 1 0, ent 2 1, ent 3 2, ent 4 3] 4 5 _ rfl
  have i6 : (Instr.mapUpdate 146 (.map (some w.heap.size)) (.int .u8 6) (.agg #[.string ⟨#[123, 125, 40, 41, 91, 93, 59, 44, 46, 43, 45, 42, 60, 61]⟩])).run Tryz.prog (w.alloc (.map #[{ key := .int .u8 1, val := .agg #[.string ⟨#[32, 9, 10, 13]⟩], born := 0 }, { key := .int .u8 2, val := .agg #[.string ⟨#[35]⟩], born := 1 }, { key := .int .u8 3, val := .agg #[.string ⟨#[97, 98, 99, 100, 101, 102, 103, 104, 105, 106, 107, 108, 109, 110, 111, 112, 113, 114, 115, 116, 117, 118, 119, 120, 121, 122]⟩], born := 2 }, { key := .int .u8 4, val := .agg #[.string ⟨#[48, 49, 50, 51, 52, 53, 54, 55, 56, 57]⟩], born := 3 }, { key := .int .u8 5, val := .agg #[.string ⟨#[95]⟩], born := 4 }] 5)) = .ok () (w.alloc (.map #[{ key := .int .u8 1, val := .agg #[.string ⟨#[32, 9, 10, 13]⟩], born := 0 }, { key := .int .u8 2, val := .agg #[.string ⟨#[35]⟩], born := 1 }, { key := .int .u8 3, val := .agg #[.string ⟨#[97, 98, 99, 100, 101, 102, 103, 104, 105, 106, 107, 108, 109, 110, 111, 112, 113, 114, 115, 116, 117, 118, 119, 120, 121, 122]⟩], born := 2 }, { key := .int .u8 4, val := .agg #[.string ⟨#[48, 49, 50, 51, 52, 53, 54, 55, 56, 57]⟩], born := 3 }, { key := .int .u8 5, val := .agg #[.string ⟨#[95]⟩], born := 4 }, { key := .int .u8 6, val := .agg #[.string ⟨#[123, 125, 40, 41, 91, 93, 59, 44, 46, 43, 45, 42, 60, 61]⟩], born := 5 }] 6)) := insert_new w #[ent 1 0, ent 2 1, ent 3 2, ent 4 3, ent 5 4] 5 6 _ rfl
  go_enter Tryz.func50, Tryz.ntmps50
  go_wp2_with fail
  have K0 : KW w ((w.alloc (.map ES 6)).alloc (.cells Tryz.zeroCells147 147)) (FK 0) :=
    { below := ((Below.refl _ _).alloc (Nat.le_refl _) _).alloc (by simp) _
      map := by
        show ((w.heap.push (.map ES 6)).push _)[w.heap.size]? = _
        rw [Array.getElem?_push_lt (by simp)]
        simp
      arr := fun c hc => by
        have : Tryz.zeroCells147[c]? = some (.int .u8 0) := by rw [zero70]; simp [hc]
        simp [FK, this]
      free := fun c => by simp
      size := by simp }
  clear i1 i2 i3 i4 i5 i6 hmm
  go_loopw [3] (fun kv wr => ∃ k : Nat, 1 ≤ k ∧ k ≤ 7 ∧ kv = .int .u8 k ∧ KW w wr (FK (k - 1))) (fun kv _ => 8 - (intOf kv).toNat)
  case atStart => exact ⟨1, by omega, by omega, rfl, K0⟩
  case round =>
    obtain ⟨k, h1, h7, rfl, hK⟩ := hrel
    clear K0
    by_cases hk : k = 7
    · subst hk
      have HK := Lib.hid hK
      clear hK
      go_wp2
      go_ret
      exact ⟨rfl, HK.out⟩
    · have hk6 : k ≤ 6 := by omega
      obtain ⟨ix, hfd⟩ := find_es (k : Int) (by omega) (by omega)
      have hlk := lookup_at wr w.heap.size ES 6 ix k _ hK.map hfd
      clear hfd
      have hsz : (mem (k : Int)).size ≤ 26 := by
        obtain rfl | rfl | rfl | rfl | rfl | rfl : k = 1 ∨ k = 2 ∨ k = 3 ∨ k = 4 ∨ k = 5 ∨ k = 6 := by omega
        all_goals decide
      obtain ⟨s, hs⟩ : ∃ s, s = mem (k : Int) := ⟨_, rfl⟩
      rw [← hs] at hlk hsz
      have HS := Lib.hid hs
      have HK := Lib.hid hK
      clear hs hK
      have hfl : ∀ W : World, (Instr.field 145 (.agg #[.string s]) 0).run Tryz.prog W = .ok (.string s) W := fun _ => by kernel_rfl
      go_wp2_with fail
      clear hlk
      go_loopw [24] (fun iv wr' => ∃ j : Nat, j ≤ s.size ∧ iv = .int .i64 j ∧ KW w wr' (paint s k j (FK (k - 1)))) (fun iv _ => s.size - (intOf iv).toNat)
      case atStart => exact ⟨0, by omega, rfl, by rw [paint_zero]; exact HK.out⟩
      case round =>
        obtain ⟨j, hj, rfl, hJ⟩ := hrel
        by_cases hjs : j < s.size
        · have hb : s[j].toNat < 256 := UInt8.toNat_lt _
          have hc := hJ.arr s[j].toNat hb
          have hf := hJ.free s[j].toNat
          have HJ := Lib.hid hJ
          clear hJ
          go_wp2
          go_roundw
          case rel => exact ⟨j + 1, by omega, by go_num, by rw [paint_succ _ _ _ _ hjs]; exact HJ.out.store _ hb _⟩
          case measure => simp [intOf]; omega
        · have HJ := Lib.hid hJ
          clear hJ
          go_wp2
          go_roundw
          case rel => exact ⟨k + 1, by omega, by omega, by go_num, by
            have e : j = s.size := by omega
            have := HJ.out
            rw [e, HS.out] at this
            obtain ⟨m, rfl⟩ : ∃ m, k = m + 1 := ⟨k - 1, by omega⟩
            exact this⟩
          case measure => simp [intOf]; omega
end Go.Proofs.YtpemghcafbedeaaGreatDoor
end
section
namespace Go.Proofs.YtpemghcafbedeaaGreatDoor
open Go.RowKit
theorem drewN_below (B : Nat) (w : World) (n : Nat) : Below B w (w.drewN n) := ⟨rfl, rfl, rfl, Nat.le_refl _, fun _ _ => rfl⟩
theorem retI {a b : Int} (h : a = b) : Ending.returned (.int .i64 a) = .returned (.int .i64 b) := by rw [h]
structure SK (W : World) (p : Option Addr) (len c kb : Nat) (xs : List Int) : Prop where
  len_eq : xs.length = len
  byte : ∀ i, 0 ≤ xs.getD i 0 ∧ xs.getD i 0 < 256
  addr : 0 < len → ∃ b off, p = some ⟨b, off, none⟩ ∧ b < W.heap.size ∧ ∀ i, i < len → W.cell? ⟨b, off + i, none⟩ = some (.int .u8 (xs.getD i 0))
  cap : len ≤ c
  kinds : ∀ k : Nat, k < 256 → W.cell? ⟨kb, k, none⟩ = some (.int .u8 (kindF k))
  kbl : kb < W.heap.size
theorem SK.on {W W' : World} {p : Option Addr} {len c kb : Nat} {xs : List Int} (h : SK W p len c kb xs) {B : Nat} (hB : W.heap.size ≤ B) (hb : Below B W W') : SK W' p len c kb xs where
  len_eq := h.len_eq
  byte := h.byte
  addr := fun hl => by
    obtain ⟨b, off, e, hlt, hc⟩ := h.addr hl
    exact ⟨b, off, e, Nat.lt_of_lt_of_le hlt hb.size, fun i hi => by rw [hb.cell (p := ⟨b, off + i, none⟩) (Nat.lt_of_lt_of_le hlt hB)]; exact hc i hi⟩
  cap := h.cap
  kinds := fun k hk => by rw [hb.cell (p := ⟨kb, k, none⟩) (Nat.lt_of_lt_of_le h.kbl hB)]; exact h.kinds k hk
  kbl := Nat.lt_of_lt_of_le h.kbl hb.size
theorem SK.alloc {W : World} {p : Option Addr} {len c kb : Nat} {xs : List Int} (h : SK W p len c kb xs) (o : Obj) : SK (W.alloc o) p len c kb xs :=
  h.on (Nat.le_refl _) ((Below.refl _ _).alloc (Nat.le_refl _) _)
theorem kind_at (W : World) (kb m : Nat) (hm : m < 256) (hk : W.cell? ⟨kb, m, none⟩ = some (.int .u8 (kindF m))) :
    Calls Tryz.prog 105 #[.int .u8 m, .pointer (some ⟨kb, 0, none⟩)] W fun e w' => e = .returned (.int .u8 (kindF m)) ∧ w' = W := by
  generalize kindF m = k at *
  go_enter Tryz.func105, Tryz.ntmps105
  go_wp2
  go_ret
  exact ⟨rfl, rfl⟩
theorem inName_at (W : World) (k : Int) :
    Calls Tryz.prog 151 #[.int .u8 k] W fun e w' => e = .returned (.bool (k == 3 || k == 4 || k == 5)) ∧ w' = W := by
  go_enter Tryz.func151, Tryz.ntmps151
  go_wp2
  all_goals (go_ret; simp_all)
theorem kind_name (c : Int) : (kindF c == 3 || kindF c == 4 || kindF c == 5) = isNameB c := by
  unfold kindF
  by_cases h1 : isBlank c = true
  · have : c = 32 ∨ c = 9 ∨ c = 10 ∨ c = 13 := by simpa [isBlank, or_assoc] using h1
    rcases this with rfl | rfl | rfl | rfl <;> decide
  · by_cases h2 : c = 35
    · subst h2; decide
    · by_cases h3 : isLetter c = true
      · simp [h1, h2, h3, isNameB]
      · by_cases h4 : isDigit c = true
        · simp [h1, h2, h3, h4, isNameB]
        · by_cases h5 : c = 95
          · subst h5; decide
          · by_cases h6 : isMark c = true
            · simp [h1, h2, h3, h4, h5, h6, isNameB]
            · simp [h1, h2, h3, h4, h5, h6, isNameB]
theorem indexByte_run (xs : List Int) (hr : ∀ x ∈ xs, 0 ≤ x ∧ x < 256) : Lib.indexByte (Lib.bytesOf xs) (10 : Int).toNat.toUInt8 = if run nl xs < xs.length then (run nl xs : Int) else -1 := by
  induction xs with
  | nil => simp [Lib.bytesOf, Lib.indexByte, run]
  | cons x xs ih =>
    have hx := hr x (by simp)
    have ih := ih (fun y hy => hr y (by simp [hy]))
    simp only [Lib.bytesOf, List.map_cons, Lib.indexByte] at ih ⊢
    by_cases h : x = 10
    · subst h
      simp [run, nl]
    · have hne : (UInt8.ofNat x.toNat == (10 : Int).toNat.toUInt8) = false := by
        simp only [beq_eq_false_iff_ne, ne_eq]
        intro e
        have := congrArg UInt8.toNat e
        simp at this
        omega
      have hn : nl x = true := by simp [nl, h]
      simp only [hne, run, hn, if_true, ih, List.length_cons]
      by_cases hl : run nl xs < xs.length
      · simp [hl]
        try omega
      · simp [hl]
set_option maxHeartbeats 4000000 in
theorem pastRemark_at (w : World) (p : Option Addr) (len c kb i : Nat) (xs : List Int) (h : SK w p len c kb xs) (hb : len ≤ 70000) (hi : i < len) :
    Calls Tryz.prog 106 #[.agg #[.slice p len c, .func (.func 105) #[] #[.pointer (some ⟨kb, 0, none⟩)]], .int .i64 i] w fun e w' => e = .returned (.int .i64 ((i + run nl (xs.drop i) : Nat) : Int)) ∧ Below w.heap.size w w' := by
  have hlen := h.len_eq
  have hcap := h.cap
  obtain ⟨b, off, rfl, hbl, hc⟩ := h.addr (by omega)
  have h59 := @run_callFunc_extern Tryz.prog 192 _ Extern.BytealgIndexByte.indexByte Tryz.func192 (by kernel_rfl) (by kernel_rfl) (by kernel_rfl) (by kernel_rfl)
  have hr : (Extern.BytealgIndexByte.indexByte #[.slice (some ⟨b, off + i, none⟩) (len - i) (c - i), .int .u8 10]).run Tryz.prog (w.alloc (.cells #[.slice (some ⟨b, off, none⟩) len c, .func (.func 105) #[] #[.pointer (some ⟨kb, 0, none⟩)]] 97)) = .ok (.int .i64 (Lib.indexByte (Lib.bytesOf (xs.drop i)) (10 : Int).toNat.toUInt8)) (w.alloc (.cells #[.slice (some ⟨b, off, none⟩) len c, .func (.func 105) #[] #[.pointer (some ⟨kb, 0, none⟩)]] 97)) :=
    Lib.run_indexByteSlice (P := Tryz.prog) _ b (off + i) (len - i) (c - i) (xs.drop i) (by simp; omega) (fun j hj => by
      rw [World.cell?_alloc_lt _ _ _ hbl, Nat.add_assoc, hc (i + j) (by omega)]
      simp [List.getD]) 10
  rw [indexByte_run _ (fun x hx => by
    obtain ⟨j, hj, rfl⟩ := List.mem_iff_getElem.1 hx
    have := h.byte (i + j)
    simp at hj
    simpa [List.getD, show i + j < xs.length by omega] using this)] at hr
  have hrl := run_le nl (xs.drop i)
  simp only [List.length_drop, hlen] at hr hrl
  generalize run nl (xs.drop i) = r at *
  clear hc h hlen
  by_cases hlt : r < len - i
  · rw [if_pos hlt] at hr
    go_enter Tryz.func106, Tryz.ntmps106
    go_wp2
    go_ret
    exact ⟨retI (by omega), (Below.refl _ _).alloc (Nat.le_refl _) _⟩
  · rw [if_neg hlt] at hr
    go_enter Tryz.func106, Tryz.ntmps106
    go_wp2
    go_ret
    exact ⟨retI (by omega), (Below.refl _ _).alloc (Nat.le_refl _) _⟩
theorem kind_blank (c : Int) : (kindF c == 1) = isBlank c := by
  unfold kindF
  by_cases h1 : isBlank c = true
  · simp [h1]
  · have : isBlank c = false := by simpa using h1
    simp only [this]
    repeat' split
    all_goals simp_all
theorem kind_rem (c : Int) : (kindF c == 2) = (c == 35) := by
  unfold kindF
  by_cases h : c = 35
  · subst h; decide
  · have : (c == 35) = false := by simpa using h
    rw [this]
    repeat' split
    all_goals simp_all
set_option maxHeartbeats 4000000 in
theorem pastBlanks_at (w : World) (p : Option Addr) (len c kb i : Nat) (xs : List Int) (h : SK w p len c kb xs) (hb : len ≤ 70000) (hi : i ≤ len) :
    Calls Tryz.prog 51 #[.agg #[.slice p len c, .func (.func 105) #[] #[.pointer (some ⟨kb, 0, none⟩)]], .int .i64 i] w fun e w' => e = .returned (.int .i64 (bl xs i : Int)) ∧ Below w.heap.size w w' := by
  have H := Lib.hid h
  have hlen := Lib.hid h.len_eq
  clear h
  go_enter Tryz.func51, Tryz.ntmps51
  go_wp2_with fail
  go_loopw [1] (fun av wr => ∃ j : Nat, j ≤ len ∧ av = .int .i64 j ∧ Hid (bl xs j = bl xs i) ∧ Hid (Below (w.heap.size + 1) (w.alloc (.cells #[.slice p len c, .func (.func 105) #[] #[.pointer (some ⟨kb, 0, none⟩)]] 97)) wr)) (fun av _ => len - (intOf av).toNat)
  case atStart => exact ⟨i, hi, rfl, Lib.hid rfl, Lib.hid (Below.refl _ _)⟩
  case round =>
    obtain ⟨j, hj, rfl, HB, hbel⟩ := hrel
    have c0 : wr.cell? ⟨w.heap.size, 0, none⟩ = some (.slice p len c) := by rw [hbel.out.cell (by simp)]; simp
    have c1 : wr.cell? ⟨w.heap.size, 1, none⟩ = some (.func (.func 105) #[] #[.pointer (some ⟨kb, 0, none⟩)]) := by rw [hbel.out.cell (by simp)]; simp
    have hsk := Lib.hid ((H.out.alloc (.cells #[.slice p len c, .func (.func 105) #[] #[.pointer (some ⟨kb, 0, none⟩)]] 97)).on (by simp) hbel.out)
    have hfin : Below w.heap.size w wr := ((Below.refl _ _).alloc (Nat.le_refl _) _).trans (hbel.out.mono (by omega))
    have HF := Lib.hid hfin
    clear hfin
    by_cases hjl : j < len
    · obtain ⟨b, off, rfl, hbl, hc⟩ := hsk.out.addr (by omega)
      have hcj := hc j hjl
      have hby := hsk.out.byte j
      obtain ⟨m, hm⟩ : ∃ m : Nat, xs.getD j 0 = m := ⟨(xs.getD j 0).toNat, by omega⟩
      rw [hm] at hcj hby
      have HM := Lib.hid hm
      have hm256 : m < 256 := by omega
      have hk := hsk.out.kinds m hm256
      clear hc hbl hm hby
      have hkb := Lib.hid (kind_blank m)
      have hkr := Lib.hid (kind_rem m)
      have HK := Lib.hid hk
      clear hk
      go_wp2_with fail
      go_quiet (first | (go_at_call 105; refine Calls.quiet_of_same (kind_at _ kb m hm256 HK.out)))
      have hsk2 := Lib.hid (hsk.out.on (Nat.le_refl _) (drewN_below _ wr nq))
      have hf2 := Lib.hid (HF.out.trans (drewN_below _ wr nq))
      have hbel2 := Lib.hid (hbel.out.trans (drewN_below _ wr nq))
      have hRem := pastRemark_at (wr.drewN nq) (some ⟨b, off, none⟩) len c kb j xs hsk2.out hb hjl
      have HR := Lib.hid (run_le nl (xs.drop j))
      clear HK
      generalize kindF m = k at *
      by_cases k1 : k = 1
      · subst k1
        clear hRem
        go_wp2
        go_roundw
        case rel => exact ⟨j + 1, by omega, by go_num, Lib.hid (by rw [← HB.out, bl_blank xs j (by have := hlen.out; omega) (by rw [HM.out]; simpa using hkb.out.symm)]), hbel2⟩
        case measure => simp [intOf]; omega
      · have k1' : (k == 1) = false := by simpa using k1
        by_cases k2 : k = 2
        · subst k2
          have h35 : xs.getD j 0 = 35 := by rw [HM.out]; simpa using hkr.out.symm
          have hrun : 0 < run nl (xs.drop j) ∧ j + run nl (xs.drop j) ≤ len := by
            have := HR.out
            rw [List.length_drop, hlen.out] at this
            refine ⟨?_, by omega⟩
            rw [drop_at xs j (by have := hlen.out; omega), h35]
            simp [run, nl]
          have HBR := Lib.hid (bl_rem xs j (by have := hlen.out; omega) h35)
          generalize run nl (xs.drop j) = r at *
          clear h35
          go_wp2_with fail
          (with_reducible refine hRem.mono ?_)
          rintro e w' ⟨rfl, hb'⟩
          have HB' := Lib.hid (hbel2.out.trans (hb'.mono (by have := hbel2.out.size; simpa using this)))
          clear hb' hRem
          go_wp2
          go_roundw
          case rel => exact ⟨j + r, by omega, by go_num, Lib.hid (by rw [← HB.out, HBR.out]), HB'⟩
          case measure => simp [intOf]; omega
        · have k2' : (k == 2) = false := by simpa using k2
          clear hRem
          go_wp2
          go_ret
          exact ⟨retI (by rw [← HB.out, bl_stay xs j (by have := hlen.out; omega) (by rw [HM.out, ← hkb.out]; exact k1') (by rw [HM.out]; intro e; rw [e] at hkr; exact absurd hkr.out (by simp [k2']))]), hf2.out⟩
    · go_wp2
      go_ret
      exact ⟨retI (by rw [← HB.out, bl_end xs j (by have := hlen.out; omega)]), HF.out⟩
end Go.Proofs.YtpemghcafbedeaaGreatDoor
end
section
namespace Go.Proofs.YtpemghcafbedeaaGreatDoor
open Go.RowKit
theorem run_yes (p : Int → Bool) (xs : List Int) (j : Nat) (h : j < xs.length) (hp : p (xs.getD j 0) = true) : run p (xs.drop j) = run p (xs.drop (j + 1)) + 1 := by
  rw [drop_at xs j h, run, if_pos hp]
theorem run_no (p : Int → Bool) (xs : List Int) (j : Nat) (h : j < xs.length) (hp : p (xs.getD j 0) = false) : run p (xs.drop j) = 0 := by
  rw [drop_at xs j h, run, if_neg (by rw [hp]; simp)]
theorem run_out (p : Int → Bool) (xs : List Int) (j : Nat) (h : xs.length ≤ j) : run p (xs.drop j) = 0 := by
  rw [List.drop_eq_nil_of_le h, run]
set_option maxHeartbeats 4000000 in
set_option maxRecDepth 1000000 in
theorem pastName_at (w : World) (p : Option Addr) (len c kb i : Nat) (xs : List Int) (h : SK w p len c kb xs) (hb : len ≤ 70000) (hi : i ≤ len) :
    Calls Tryz.prog 108 #[.agg #[.slice p len c, .func (.func 105) #[] #[.pointer (some ⟨kb, 0, none⟩)]], .int .i64 i] w fun e w' => e = .returned (.int .i64 ((i + run isNameB (xs.drop i) : Nat) : Int)) ∧ Below w.heap.size w w' := by
  have H := Lib.hid h
  have hlen := Lib.hid h.len_eq
  clear h
  go_enter Tryz.func108, Tryz.ntmps108
  go_wp2_with fail
  go_loopw [1] (fun av wr => ∃ j : Nat, j ≤ len ∧ av = .int .i64 j ∧ Hid (j + run isNameB (xs.drop j) = i + run isNameB (xs.drop i)) ∧ Hid (Below (w.heap.size + 1) (w.alloc (.cells #[.slice p len c, .func (.func 105) #[] #[.pointer (some ⟨kb, 0, none⟩)]] 97)) wr)) (fun av _ => len - (intOf av).toNat)
  case atStart => exact ⟨i, hi, rfl, Lib.hid rfl, Lib.hid (Below.refl _ _)⟩
  case round =>
    obtain ⟨j, hj, rfl, HB, hbel⟩ := hrel
    have c0 : wr.cell? ⟨w.heap.size, 0, none⟩ = some (.slice p len c) := by rw [hbel.out.cell (by simp)]; simp
    have c1 : wr.cell? ⟨w.heap.size, 1, none⟩ = some (.func (.func 105) #[] #[.pointer (some ⟨kb, 0, none⟩)]) := by rw [hbel.out.cell (by simp)]; simp
    have hsk := Lib.hid ((H.out.alloc (.cells #[.slice p len c, .func (.func 105) #[] #[.pointer (some ⟨kb, 0, none⟩)]] 97)).on (by simp) hbel.out)
    have HF := Lib.hid (show Below w.heap.size w wr from ((Below.refl _ _).alloc (Nat.le_refl _) _).trans (hbel.out.mono (by omega)))
    by_cases hjl : j < len
    · obtain ⟨b, off, rfl, hbl, hc⟩ := hsk.out.addr (by omega)
      have hcj := hc j hjl
      have hby := hsk.out.byte j
      obtain ⟨m, hm⟩ : ∃ m : Nat, xs.getD j 0 = m := ⟨(xs.getD j 0).toNat, by omega⟩
      rw [hm] at hcj hby
      have HM := Lib.hid hm
      have hm256 : m < 256 := by omega
      have HK := Lib.hid (hsk.out.kinds m hm256)
      have HN := Lib.hid (kind_name m)
      clear hc hbl hm hby
      have hj2 : (j : Int) < (len : Int) := by omega
      go_wp2_with fail
      go_quiet (first | (go_at_call 105; refine Calls.quiet_of_same (kind_at _ kb m hm256 HK.out)) | (go_at_call 151; refine Calls.quiet_of_same (inName_at _ _)))
      have hbel2 := Lib.hid (hbel.out.trans (drewN_below _ wr nq))
      have hf2 := Lib.hid (HF.out.trans (drewN_below _ wr nq))
      clear HK
      generalize kindF m = k at *
      obtain ⟨t, ht⟩ : ∃ t, (k == 3 || k == 4 || k == 5) = t := ⟨_, rfl⟩
      have HT := Lib.hid (HN.out.symm.trans ht)
      rw [ht]
      clear ht HN
      cases t with
      | true =>
        go_wp2
        go_roundw
        case rel => exact ⟨j + 1, by omega, by go_num, Lib.hid (by have := run_yes isNameB xs j (by have := hlen.out; omega) (by rw [HM.out]; exact HT.out); have := HB.out; omega), hbel2⟩
        case measure => simp [intOf]; omega
      | false =>
        go_wp2
        go_ret
        exact ⟨retI (by have := run_no isNameB xs j (by have := hlen.out; omega) (by rw [HM.out]; exact HT.out); have := HB.out; omega), hf2.out⟩
    · have hjd : decide ((j : Int) < (len : Int)) = false := by simp; omega
      go_wp2_with fail
      go_quiet (fail)
      have hf2 := Lib.hid (HF.out.trans (drewN_below _ wr nq))
      go_wp2
      go_ret
      exact ⟨retI (by have := run_out isNameB xs j (by have := hlen.out; omega); have := HB.out; omega), hf2.out⟩
theorem word_conv (W : World) (b off len _c i e : Nat) (xs : List Int) (hl : xs.length = len) (hi : i ≤ e) (he : e ≤ len) (hc : ∀ i, i < len → W.cell? ⟨b, off + i, none⟩ = some (.int .u8 (xs.getD i 0))) (cp : Nat) :
    (convert 22 9 (.slice (some ⟨b, off + i, none⟩) (e - i) cp)).run Tryz.prog W = .ok (.string (strOfNums ((xs.drop i).take (e - i)))) W :=
  run_convert_bytes_arg W 22 5 Tryz.underlying22 Tryz.underlying5 b (off + i) (e - i) cp _ (by simp; omega) (fun j hj => by
    rw [Nat.add_assoc, hc (i + j) (by omega)]
    simp [List.getD, hj]) 9 Tryz.underlying9
set_option maxHeartbeats 4000000 in
set_option maxRecDepth 1000000 in
theorem lexWord_at (w : World) (p : Option Addr) (len c kb i e : Nat) (kd : Int) (xs : List Int) (h : SK w p len c kb xs) (hb : len ≤ 70000) (hi : i < e) (he : e ≤ len) :
    Calls Tryz.prog 107 #[.agg #[.slice p len c, .func (.func 105) #[] #[.pointer (some ⟨kb, 0, none⟩)]], .int .u8 kd, .int .i64 i, .int .i64 e] w fun ev w' => ev = .returned (.agg #[.int .u8 kd, .int .i64 i, .int .i64 e, .string (strOfNums ((xs.drop i).take (e - i))), .int .i64 0]) ∧ Below w.heap.size w w' := by
  have hlen := h.len_eq
  have hcap := h.cap
  obtain ⟨b, off, rfl, hbl, hc⟩ := h.addr (by omega)
  have hcv := fun W (hW : ∀ i, i < len → W.cell? ⟨b, off + i, none⟩ = some (.int .u8 (xs.getD i 0))) => word_conv W b off len c i e xs hlen (by omega) he hW (c - i)
  have hcv2 := hcv ((w.alloc (.cells #[.slice (some ⟨b, off, none⟩) len c, .func (.func 105) #[] #[.pointer (some ⟨kb, 0, none⟩)]] 97)).alloc (.cells #[.int .u8 0, .int .i64 0, .int .i64 0, .string ⟨#[]⟩, .int .i64 0] 45)) (fun j hj => by
    rw [World.cell?_alloc_lt _ _ _ (by simp; omega), World.cell?_alloc_lt _ _ _ hbl]; exact hc j hj)
  clear hcv hc h hlen
  generalize strOfNums ((xs.drop i).take (e - i)) = st at *
  go_enter Tryz.func107, Tryz.ntmps107
  go_wp2
  simp [bodyPost, results, Tryz.results107, go_sem]
  exact ((Below.refl _ _).alloc (Nat.le_refl _) _).alloc (by simp) _
theorem bytesOf_inj (a b : List Int) (ha : ∀ x ∈ a, 0 ≤ x ∧ x < 256) (hb : ∀ x ∈ b, 0 ≤ x ∧ x < 256) (h : Lib.bytesOf a = Lib.bytesOf b) : a = b := by
  induction a generalizing b with
  | nil => cases b with
    | nil => rfl
    | cons y b => simp [Lib.bytesOf] at h
  | cons x a ih => cases b with
    | nil => simp [Lib.bytesOf] at h
    | cons y b =>
      simp only [Lib.bytesOf, List.map_cons, List.cons.injEq] at h
      have hx := ha x (by simp)
      have hy := hb y (by simp)
      have e := congrArg UInt8.toNat h.1
      simp at e
      rw [ih b (fun z hz => ha z (by simp [hz])) (fun z hz => hb z (by simp [hz])) h.2, show x = y by omega]
theorem str_eq (a b : List Int) (ha : ∀ x ∈ a, 0 ≤ x ∧ x < 256) (hb : ∀ x ∈ b, 0 ≤ x ∧ x < 256) : ((strOfNums a).toList == (strOfNums b).toList) = decide (a = b) := by
  rw [Lib.strOfNums_toList, Lib.strOfNums_toList]
  by_cases h : a = b
  · subst h; simp
  · have : Lib.bytesOf a ≠ Lib.bytesOf b := fun e => h (bytesOf_inj a b ha hb e)
    simp [h, this]
set_option maxHeartbeats 4000000 in
theorem equal_two (W : World) (b o c q : Nat) (x y : Int) (hx : 0 ≤ x ∧ x < 256) (hy : 0 ≤ y ∧ y < 256) (h0 : W.cell? ⟨b, o, none⟩ = some (.int .u8 x)) (h1 : W.cell? ⟨b, o + 1, none⟩ = some (.int .u8 y))
    (q0 : W.cell? ⟨q, 0, none⟩ = some (.int .u8 61)) (q1 : W.cell? ⟨q, 1, none⟩ = some (.int .u8 61)) :
    Calls Tryz.prog 176 #[.slice (some ⟨b, o, none⟩) 2 c, .slice (some ⟨q, 0, none⟩) 2 2] W fun e w' => e = .returned (.bool (x == 61 && y == 61)) ∧ w' = W := by
  have e1 := run_convert_bytes_arg W 22 5 Tryz.underlying22 Tryz.underlying5 b o 2 c [x, y] rfl (fun j hj => by
    match j, hj with
    | 0, _ => simpa using h0
    | 1, _ => simpa using h1) 9 Tryz.underlying9
  have e2 := run_convert_bytes_arg W 22 5 Tryz.underlying22 Tryz.underlying5 q 0 2 2 [61, 61] rfl (fun j hj => by
    match j, hj with
    | 0, _ => simpa using q0
    | 1, _ => simpa using q1) 9 Tryz.underlying9
  have hs : ((strOfNums [x, y]).toList == (strOfNums [61, 61]).toList) = (x == 61 && y == 61) := by
    rw [str_eq [x, y] [61, 61] (by simp; omega) (by simp)]
    rw [Bool.eq_iff_iff]; simp
  generalize strOfNums [x, y] = s1 at *
  generalize strOfNums [61, 61] = s2 at *
  generalize (x == 61 && y == 61) = r at *
  clear h0 h1 q0 q1
  go_enter Tryz.func176, Tryz.ntmps176
  go_wp2
  go_ret
  exact ⟨rfl, rfl⟩
set_option maxHeartbeats 4000000 in
set_option maxRecDepth 1000000 in
theorem hasPrefix_two (W : World) (b o n c q : Nat) (ys : List Int) (hn : ys.length = n) (hnc : n ≤ c) (hb : n ≤ 70000) (hy : ∀ i, 0 ≤ ys.getD i 0 ∧ ys.getD i 0 < 256) (hc : ∀ i, i < n → W.cell? ⟨b, o + i, none⟩ = some (.int .u8 (ys.getD i 0)))
    (q0 : W.cell? ⟨q, 0, none⟩ = some (.int .u8 61)) (q1 : W.cell? ⟨q, 1, none⟩ = some (.int .u8 61)) :
    Calls Tryz.prog 152 #[.slice (some ⟨b, o, none⟩) n c, .slice (some ⟨q, 0, none⟩) 2 2] W fun e w' => e = .returned (.bool (decide (2 ≤ n) && (ys.getD 0 0 == 61 && ys.getD 1 0 == 61))) ∧ w' = W := by
  by_cases h2 : 2 ≤ n
  · have E := equal_two W b o c q (ys.getD 0 0) (ys.getD 1 0) (hy 0) (hy 1) (by simpa using hc 0 (by omega)) (hc 1 (by omega)) q0 q1
    generalize (ys.getD 0 0 == 61 && ys.getD 1 0 == 61) = r at *
    have h2d : (decide (2 ≤ n) && r) = r := by simp [h2]
    rw [h2d]
    clear hc hy hn q0 q1 h2d
    go_enter Tryz.func152, Tryz.ntmps152
    go_wp2_with fail
    (with_reducible refine E.mono ?_)
    rintro e w' ⟨rfl, rfl⟩
    go_wp2
    go_ret
    exact ⟨rfl, rfl⟩
  · have h2d : (decide (2 ≤ n) && (ys.getD 0 0 == 61 && ys.getD 1 0 == 61)) = false := by simp; omega
    rw [h2d]
    clear hc hy hn q0 q1 h2d
    go_enter Tryz.func152, Tryz.ntmps152
    go_wp2
    all_goals go_ret
    all_goals first | exact ⟨rfl, rfl⟩ | omega
set_option maxHeartbeats 4000000 in
set_option maxRecDepth 1000000 in
theorem pastMark_at (w : World) (p : Option Addr) (len c kb i : Nat) (xs : List Int) (h : SK w p len c kb xs) (hb : len ≤ 70000) (hi : i < len) :
    Calls Tryz.prog 110 #[.agg #[.slice p len c, .func (.func 105) #[] #[.pointer (some ⟨kb, 0, none⟩)]], .int .i64 i] w fun e w' => e = .returned (.int .i64 ((i + (if xs.getD i 0 = 61 ∧ (xs.drop (i + 1)).head? = some 61 then 2 else 1) : Nat) : Int)) ∧ Below w.heap.size w w' := by
  have hlen := h.len_eq
  have hcap := h.cap
  obtain ⟨b, off, rfl, hbl, hc⟩ := h.addr (by omega)
  have hcv : (convert 22 22 (.slice (some ⟨w.heap.size + 1, 0, none⟩) 2 2)).run Tryz.prog ((w.alloc (.cells #[.slice (some ⟨b, off, none⟩) len c, .func (.func 105) #[] #[.pointer (some ⟨kb, 0, none⟩)]] 97)).alloc (.cells #[.int .u8 61, .int .u8 61] 5)) = .ok (.slice (some ⟨w.heap.size + 1, 0, none⟩) 2 2) ((w.alloc (.cells #[.slice (some ⟨b, off, none⟩) len c, .func (.func 105) #[] #[.pointer (some ⟨kb, 0, none⟩)]] 97)).alloc (.cells #[.int .u8 61, .int .u8 61] 5 (2, 3))) := by
    have := Lib.run_convert_bytes_const (P := Tryz.prog) (w.alloc (.cells #[.slice (some ⟨b, off, none⟩) len c, .func (.func 105) #[] #[.pointer (some ⟨kb, 0, none⟩)]] 97)) 22 5 #[.int .u8 61, .int .u8 61] 2 2 Tryz.underlying22 Tryz.underlying5
    simpa using this
  have P1 := hasPrefix_two ((w.alloc (.cells #[.slice (some ⟨b, off, none⟩) len c, .func (.func 105) #[] #[.pointer (some ⟨kb, 0, none⟩)]] 97)).alloc (.cells #[.int .u8 61, .int .u8 61] 5 (2, 3))) b (off + i) (len - i) (c - i) (w.heap.size + 1) (xs.drop i) (by simp; omega) (by omega) (by omega)
    (fun j => by have := h.byte (i + j); simpa [List.getD] using this)
    (fun j hj => by rw [World.cell?_alloc_lt _ _ _ (by simp; omega), World.cell?_alloc_lt _ _ _ hbl, Nat.add_assoc, hc (i + j) (by omega)]; simp [List.getD])
    (by rw [show w.heap.size + 1 = (w.alloc (.cells #[.slice (some ⟨b, off, none⟩) len c, .func (.func 105) #[] #[.pointer (some ⟨kb, 0, none⟩)]] 97)).heap.size by simp, World.cell?_alloc_mark]; rfl)
    (by rw [show w.heap.size + 1 = (w.alloc (.cells #[.slice (some ⟨b, off, none⟩) len c, .func (.func 105) #[] #[.pointer (some ⟨kb, 0, none⟩)]] 97)).heap.size by simp, World.cell?_alloc_mark]; rfl)
  have hr : (decide (2 ≤ len - i) && ((xs.drop i).getD 0 0 == 61 && (xs.drop i).getD 1 0 == 61)) = decide (xs.getD i 0 = 61 ∧ (xs.drop (i + 1)).head? = some 61) := by
    have e0 : (xs.drop i).getD 0 0 = xs.getD i 0 := by simp [List.getD]
    have e1 : (xs.drop i).getD 1 0 = xs.getD (i + 1) 0 := by simp [List.getD]
    have e2 : (xs.drop (i + 1)).head? = xs[i + 1]? := by simp [List.head?_drop]
    rw [e0, e1, e2]
    by_cases hl : 2 ≤ len - i
    · have : i + 1 < xs.length := by omega
      have e3 : xs[i + 1]? = some (xs.getD (i + 1) 0) := by simp [List.getD, this]
      rw [e3, Bool.eq_iff_iff]
      simp [hl]
    · have : xs[i + 1]? = none := by simp; omega
      rw [this]
      simp [hl]
  rw [hr] at P1
  clear hr hc h hlen
  by_cases hq : xs.getD i 0 = 61 ∧ (xs.drop (i + 1)).head? = some 61
  · rw [if_pos hq]
    rw [decide_eq_true hq] at P1
    clear hq
    go_enter Tryz.func110, Tryz.ntmps110
    go_wp2_with fail
    (with_reducible refine P1.mono ?_)
    rintro e w' ⟨rfl, rfl⟩
    go_wp2
    go_ret
    exact ⟨retI (by omega), ((Below.refl _ _).alloc (Nat.le_refl _) _).alloc (by simp) _⟩
  · rw [if_neg hq]
    rw [decide_eq_false hq] at P1
    clear hq
    go_enter Tryz.func110, Tryz.ntmps110
    go_wp2_with fail
    (with_reducible refine P1.mono ?_)
    rintro e w' ⟨rfl, rfl⟩
    go_wp2
    go_ret
    exact ⟨retI (by omega), ((Below.refl _ _).alloc (Nat.le_refl _) _).alloc (by simp) _⟩
end Go.Proofs.YtpemghcafbedeaaGreatDoor
end
section
namespace Go.Proofs.YtpemghcafbedeaaGreatDoor
open Go.RowKit Go.Extern.Stop Go.Stop Go.Extern

theorem valueOf50 (t : Addr) (w : World) : (ReflectliteValue.unpack (.iface 88 (.pointer (some t)))).run Tryz.prog w
    = .ok (.agg #[.pointer (some ⟨5, 88, none⟩), .pointer (some ⟨w.heap.size, 0, none⟩), .int .u64 150]) (w.alloc (.cells #[.pointer (some t)] 88)) := by kernel_rfl
theorem valueOf49 (t : Addr) (w : World) : (ReflectliteValue.unpack (.iface 91 (.pointer (some t)))).run Tryz.prog w
    = .ok (.agg #[.pointer (some ⟨5, 91, none⟩), .pointer (some ⟨w.heap.size, 0, none⟩), .int .u64 150]) (w.alloc (.cells #[.pointer (some t)] 91)) := by kernel_rfl
theorem valueOf45 (t : Addr) (w : World) : (ReflectliteValue.unpack (.iface 86 (.pointer (some t)))).run Tryz.prog w
    = .ok (.agg #[.pointer (some ⟨5, 86, none⟩), .pointer (some ⟨w.heap.size, 0, none⟩), .int .u64 150]) (w.alloc (.cells #[.pointer (some t)] 86)) := by kernel_rfl
theorem valueOf23 (n : Int) (w : World) : (ReflectliteValue.unpack (.iface 32 (.int .i64 n))).run Tryz.prog w
    = .ok (.agg #[.pointer (some ⟨5, 32, none⟩), .pointer (some ⟨w.heap.size, 0, none⟩), .int .u64 130]) (w.alloc (.cells #[.int .i64 n] 32)) := by kernel_rfl
theorem type50 (a : Addr) (w : World) : (ReflectliteValue.methodAny (ReflectliteValue.valueError "reflectlite.Value.Type" 0) (fun t _ _ _ => ReflectliteType.toType t) #[.agg #[.pointer (some ⟨5, 88, none⟩), .pointer (some a), .int .u64 150]]).run Tryz.prog w
    = .ok (.iface 176 (.agg #[.pointer (some ⟨5, 88, none⟩)])) w := by kernel_rfl
theorem type49 (a : Addr) (w : World) : (ReflectliteValue.methodAny (ReflectliteValue.valueError "reflectlite.Value.Type" 0) (fun t _ _ _ => ReflectliteType.toType t) #[.agg #[.pointer (some ⟨5, 91, none⟩), .pointer (some a), .int .u64 150]]).run Tryz.prog w
    = .ok (.iface 176 (.agg #[.pointer (some ⟨5, 91, none⟩)])) w := by kernel_rfl
theorem kind50 (w : World) : ((ReflectliteType.abiMethod fun t => (fun a : Nat => Value.int IntKind.u8 (a : Int)) <$> Rtype.kind t) #[.pointer (some ⟨5, 88, none⟩)]).run Tryz.prog w = .ok (.int .u8 22) w := by kernel_rfl
theorem kind49 (w : World) : ((ReflectliteType.abiMethod fun t => (fun a : Nat => Value.int IntKind.u8 (a : Int)) <$> Rtype.kind t) #[.pointer (some ⟨5, 91, none⟩)]).run Tryz.prog w = .ok (.int .u8 22) w := by kernel_rfl
theorem kind45 (w : World) : ((ReflectliteType.abiMethod fun t => (fun a : Nat => Value.int IntKind.u8 (a : Int)) <$> Rtype.kind t) #[.pointer (some ⟨5, 86, none⟩)]).run Tryz.prog w = .ok (.int .u8 22) w := by kernel_rfl
theorem kind23 (w : World) : ((ReflectliteType.abiMethod fun t => (fun a : Nat => Value.int IntKind.u8 (a : Int)) <$> Rtype.kind t) #[.pointer (some ⟨5, 32, none⟩)]).run Tryz.prog w = .ok (.int .u8 2) w := by kernel_rfl
theorem rlm {P : Program} {W : World} {v : Value} {t : TypeId} {a : Addr} {fl : Nat} {z : Sem Value} {f : TypeId → Addr → Nat → Nat → Sem Value}
    (hp : (ReflectliteValue.parts v).run P W = .ok (some (t, a, fl)) W) : (ReflectliteValue.method z f #[v]).run P W = (f t a fl (fl % 32)).run P W := by
  show Sem.run P (ReflectliteValue.parts v >>= _) W = _
  rw [Sem.run_bind, hp]
  rfl
theorem rls {P : Program} {W W' : World} {v x val : Value} {dst src : TypeId} {a b : Addr} {fl g : Nat} (hv : (ReflectliteValue.parts v).run P W = .ok (some (dst, a, fl)) W) (hx : (ReflectliteValue.parts x).run P W = .ok (some (src, b, g)) W)
    (hfl : (fl / ReflectliteValue.flagAddr % 2 == 0) = false) (hl : (loadVar src b).run P W = .ok val W) (hd : (Rtype.directlyAssignable dst src).run P W = .ok true W) (hs : (storeVar dst a val).run P W = .ok () W') :
    (ReflectliteValue.set #[v, x]).run P W = .ok (.tuple #[]) W' := by
  show Sem.run P (ReflectliteValue.parts v >>= _) W = _
  rw [Sem.run_bind, hv]
  show Sem.run P (ReflectliteValue.parts x >>= _) W = _
  rw [Sem.run_bind, hx]
  simp only [Result.andThen, hfl, Bool.false_eq_true, if_false, Sem.run_bind, Sem.run_pure, hl, hd, if_true, hs]
theorem parts50 (a : Addr) (w : World) : (ReflectliteValue.parts (.agg #[.pointer (some ⟨5, 88, none⟩), .pointer (some a), .int .u64 150])).run Tryz.prog w = .ok (some (88, a, 150)) w := by kernel_rfl
theorem parts49 (a : Addr) (w : World) : (ReflectliteValue.parts (.agg #[.pointer (some ⟨5, 91, none⟩), .pointer (some a), .int .u64 150])).run Tryz.prog w = .ok (some (91, a, 150)) w := by kernel_rfl
theorem isNil50 (a p : Addr) (W : World) (ha : W.cell? a = some (.pointer (some p))) :
    (ReflectliteValue.method (ReflectliteValue.valueError "reflectlite.Value.IsNil" 0) ReflectliteValue.isNil #[.agg #[.pointer (some ⟨5, 88, none⟩), .pointer (some a), .int .u64 150]]).run Tryz.prog W = .ok (.bool false) W := by
  rw [rlm (parts50 a W)]
  simp [ReflectliteValue.isNil, loadVar, isAgg, underlying, Tryz.underlying88, ha, Result.andThen]
theorem isNil49 (a p : Addr) (W : World) (ha : W.cell? a = some (.pointer (some p))) :
    (ReflectliteValue.method (ReflectliteValue.valueError "reflectlite.Value.IsNil" 0) ReflectliteValue.isNil #[.agg #[.pointer (some ⟨5, 91, none⟩), .pointer (some a), .int .u64 150]]).run Tryz.prog W = .ok (.bool false) W := by
  rw [rlm (parts49 a W)]
  simp [ReflectliteValue.isNil, loadVar, isAgg, underlying, Tryz.underlying91, ha, Result.andThen]
theorem elem50 (w : World) : (ReflectliteType.method ReflectliteType.elem #[.agg #[.pointer (some ⟨5, 88, none⟩)]]).run Tryz.prog w = .ok (.iface 176 (.agg #[.pointer (some ⟨5, 86, none⟩)])) w := by kernel_rfl
theorem elem49 (w : World) : (ReflectliteType.method ReflectliteType.elem #[.agg #[.pointer (some ⟨5, 91, none⟩)]]).run Tryz.prog w = .ok (.iface 176 (.agg #[.pointer (some ⟨5, 32, none⟩)])) w := by kernel_rfl
theorem implements45 (w : World) : (ReflectliteType.relation "Implements" ReflectliteType.implements_ #[.agg #[.pointer (some ⟨5, 86, none⟩)], .iface 176 (.agg #[.pointer (some ⟨5, 28, none⟩)])]).run Tryz.prog w = .ok (.bool true) w := by kernel_rfl
theorem implements23 (w : World) : (ReflectliteType.relation "Implements" ReflectliteType.implements_ #[.agg #[.pointer (some ⟨5, 32, none⟩)], .iface 176 (.agg #[.pointer (some ⟨5, 28, none⟩)])]).run Tryz.prog w = .ok (.bool true) w := by kernel_rfl
theorem typeOf45 (v : Value) (w : World) : (ReflectliteType.typeOf #[.iface 86 v]).run Tryz.prog w = .ok (.iface 176 (.agg #[.pointer (some ⟨5, 86, none⟩)])) w := by kernel_rfl
theorem typeOf23 (v : Value) (w : World) : (ReflectliteType.typeOf #[.iface 32 v]).run Tryz.prog w = .ok (.iface 176 (.agg #[.pointer (some ⟨5, 32, none⟩)])) w := by kernel_rfl
theorem assign45_45 (w : World) : (ReflectliteType.relation "AssignableTo" ReflectliteType.assignableTo #[.agg #[.pointer (some ⟨5, 86, none⟩)], .iface 176 (.agg #[.pointer (some ⟨5, 86, none⟩)])]).run Tryz.prog w = .ok (.bool true) w := by kernel_rfl
theorem assign45_23 (w : World) : (ReflectliteType.relation "AssignableTo" ReflectliteType.assignableTo #[.agg #[.pointer (some ⟨5, 86, none⟩)], .iface 176 (.agg #[.pointer (some ⟨5, 32, none⟩)])]).run Tryz.prog w = .ok (.bool false) w := by kernel_rfl
theorem assign23_23 (w : World) : (ReflectliteType.relation "AssignableTo" ReflectliteType.assignableTo #[.agg #[.pointer (some ⟨5, 32, none⟩)], .iface 176 (.agg #[.pointer (some ⟨5, 32, none⟩)])]).run Tryz.prog w = .ok (.bool true) w := by kernel_rfl
theorem elemOf50 (w : World) : (Rtype.elem? 88).run Tryz.prog w = .ok (some 86) w := by kernel_rfl
theorem elemOf49 (w : World) : (Rtype.elem? 91).run Tryz.prog w = .ok (some 32) w := by kernel_rfl
theorem mk45 (p : Addr) (w : World) : (ReflectliteValue.mk 86 p ReflectliteValue.flagAddr).run Tryz.prog w = .ok (.agg #[.pointer (some ⟨5, 86, none⟩), .pointer (some p), .int .u64 406]) w := by kernel_rfl
theorem mk23 (p : Addr) (w : World) : (ReflectliteValue.mk 32 p ReflectliteValue.flagAddr).run Tryz.prog w = .ok (.agg #[.pointer (some ⟨5, 32, none⟩), .pointer (some p), .int .u64 386]) w := by kernel_rfl
theorem elemV50 (a p : Addr) (W : World) (ha : W.cell? a = some (.pointer (some p))) :
    (ReflectliteValue.method (ReflectliteValue.valueError "reflectlite.Value.Elem" 0) ReflectliteValue.elem #[.agg #[.pointer (some ⟨5, 88, none⟩), .pointer (some a), .int .u64 150]]).run Tryz.prog W
      = .ok (.agg #[.pointer (some ⟨5, 86, none⟩), .pointer (some p), .int .u64 406]) W := by
  rw [rlm (parts50 a W)]
  simp [ReflectliteValue.elem, loadVar, isAgg, underlying, Tryz.underlying88, ha, Result.andThen, elemOf50, mk45]
theorem elemV49 (a p : Addr) (W : World) (ha : W.cell? a = some (.pointer (some p))) :
    (ReflectliteValue.method (ReflectliteValue.valueError "reflectlite.Value.Elem" 0) ReflectliteValue.elem #[.agg #[.pointer (some ⟨5, 91, none⟩), .pointer (some a), .int .u64 150]]).run Tryz.prog W
      = .ok (.agg #[.pointer (some ⟨5, 32, none⟩), .pointer (some p), .int .u64 386]) W := by
  rw [rlm (parts49 a W)]
  simp [ReflectliteValue.elem, loadVar, isAgg, underlying, Tryz.underlying91, ha, Result.andThen, elemOf49, mk23]
theorem parts45a (a : Addr) (w : World) : (ReflectliteValue.parts (.agg #[.pointer (some ⟨5, 86, none⟩), .pointer (some a), .int .u64 406])).run Tryz.prog w = .ok (some (86, a, 406)) w := by kernel_rfl
theorem parts45 (a : Addr) (w : World) : (ReflectliteValue.parts (.agg #[.pointer (some ⟨5, 86, none⟩), .pointer (some a), .int .u64 150])).run Tryz.prog w = .ok (some (86, a, 150)) w := by kernel_rfl
theorem parts23a (a : Addr) (w : World) : (ReflectliteValue.parts (.agg #[.pointer (some ⟨5, 32, none⟩), .pointer (some a), .int .u64 386])).run Tryz.prog w = .ok (some (32, a, 386)) w := by kernel_rfl
theorem parts23 (a : Addr) (w : World) : (ReflectliteValue.parts (.agg #[.pointer (some ⟨5, 32, none⟩), .pointer (some a), .int .u64 130])).run Tryz.prog w = .ok (some (32, a, 130)) w := by kernel_rfl
theorem direct45 (w : World) : (Rtype.directlyAssignable 86 86).run Tryz.prog w = .ok true w := by kernel_rfl
theorem direct23 (w : World) : (Rtype.directlyAssignable 32 32).run Tryz.prog w = .ok true w := by kernel_rfl
theorem set45 (ta b e : Addr) (old : Value) (W : World) (hb : W.cell? b = some (.pointer (some e))) (ht : W.cell? ta = some old) (hf : W.frozen? ta = false) :
    (ReflectliteValue.set #[.agg #[.pointer (some ⟨5, 86, none⟩), .pointer (some ta), .int .u64 406], .agg #[.pointer (some ⟨5, 86, none⟩), .pointer (some b), .int .u64 150]]).run Tryz.prog W
      = .ok (.tuple #[]) (W.setCell ta (.pointer (some e))) := by
  refine rls (parts45a ta W) (parts45 b W) (by decide) (val := .pointer (some e)) ?_ (direct45 W) ?_
  · simp [loadVar, isAgg, underlying, Tryz.underlying86, hb]
  · simp [storeVar, Value.cells, storeCells, Addr.add]
    rw [run_store Tryz.prog W ta _ _ (by rfl)]
    simp [ht, hf]
theorem set23 (ta b : Addr) (n : Int) (old : Value) (W : World) (hb : W.cell? b = some (.int .i64 n)) (ht : W.cell? ta = some old) (hf : W.frozen? ta = false) :
    (ReflectliteValue.set #[.agg #[.pointer (some ⟨5, 32, none⟩), .pointer (some ta), .int .u64 386], .agg #[.pointer (some ⟨5, 32, none⟩), .pointer (some b), .int .u64 130]]).run Tryz.prog W
      = .ok (.tuple #[]) (W.setCell ta (.int .i64 n)) := by
  refine rls (parts23a ta W) (parts23 b W) (by decide) (val := .int .i64 n) ?_ (direct23 W) ?_
  · simp [loadVar, isAgg, underlying, Tryz.underlying32, hb]
  · simp [storeVar, Value.cells, storeCells, Addr.add]
    rw [run_store Tryz.prog W ta _ _ (by rfl)]
    simp [ht, hf]
end Go.Proofs.YtpemghcafbedeaaGreatDoor
end
section
namespace Go.Proofs.YtpemghcafbedeaaGreatDoor
open Go.RowKit Go.Extern.Stop Go.Stop Go.Extern

inductive Path (W : World) (b : Bool) (u : Value) : Value → Nat → Prop
  | here : Path W b u u 0
  | err (B : Nat) (k : Int) (n : Nat) : b = true → W.cell? ⟨B, 3, none⟩ = some (.int .i64 k) → Path W b u (.iface 32 (.int .i64 k)) n → Path W b u (.iface 86 (.pointer (some ⟨B, 0, none⟩))) (n + 1)
open Classical in
noncomputable def far (W : World) (b : Bool) (u v : Value) : Nat := if h : ∃ n, Path W b u v n then h.choose else 0
theorem path_same {W : World} {b : Bool} {u v : Value} (hb : b = true → ∀ x, u ≠ .iface 86 x) {n m : Nat} (h : Path W b u v n) (h' : Path W b u v m) : n = m := by
  induction h generalizing m with
  | here => cases h' with
    | here => rfl
    | err _ _ _ e => exact absurd rfl (hb e _)
  | err B k n e hc _ ih => cases h' with
    | here => exact absurd rfl (hb e _)
    | err _ k' n' e' hc' hp' =>
      rw [hc] at hc'
      obtain rfl : k = k' := by simpa using hc'
      rw [ih hp']
theorem far_eq {W : World} {b : Bool} {u v : Value} (hb : b = true → ∀ x, u ≠ .iface 86 x) {n : Nat} (h : Path W b u v n) : far W b u v = n := by
  have e : ∃ n, Path W b u v n := ⟨n, h⟩
  unfold far
  rw [dif_pos e]
  exact path_same hb e.choose_spec h
theorem path_world {W W' : World} {b : Bool} {u v : Value} {n : Nat} (hc : ∀ B o, (W.cell? ⟨B, o, none⟩).isSome → W'.cell? ⟨B, o, none⟩ = W.cell? ⟨B, o, none⟩) (h : Path W b u v n) : Path W' b u v n := by
  induction h with
  | here => exact .here
  | err B k n e h1 _ ih => exact .err B k n e (by rw [hc _ _ (by rw [h1]; rfl), h1]) ih

theorem cell_lt {W : World} {a : Addr} {v : Value} (h : W.cell? a = some v) : a.block < W.heap.size := by
  rcases Nat.lt_or_ge a.block W.heap.size with h1 | h1
  · exact h1
  · simp [World.cell?, Array.getElem?_eq_none h1] at h
theorem no_as45 (v : Value) (w : World) : (Instr.typeAssert (.iface 86 v) 28 181 true).run Tryz.prog w = .ok (.tuple #[.nilIface, .bool false]) w := run_typeAssert_lacksB (P := Tryz.prog) (t := 86) (z := .nilIface) Tryz.underlying181 (by kernel_rfl) (by kernel_rfl) v 28 w
theorem un45 (v : Value) (w : World) : (Instr.typeAssert (.iface 86 v) 28 184 true).run Tryz.prog w = .ok (.tuple #[.iface 86 v, .bool true]) w := run_typeAssert_hasB (P := Tryz.prog) (t := 86) Tryz.underlying184 (by kernel_rfl) v 28 w
theorem unwrap45 (B : Nat) (k : Int) (w : World) (hc : w.cell? ⟨B, 3, none⟩ = some (.int .i64 k)) :
    Calls Tryz.prog 251 #[.pointer (some ⟨B, 0, none⟩)] w fun e w' => e = .returned (.iface 32 (.int .i64 k)) ∧ w = w' := by
  go_enter Tryz.func251, Tryz.ntmps251
  go_wp2
  go_ret
  exact ⟨rfl, rfl⟩
set_option maxHeartbeats 4000000 in
set_option maxRecDepth 1000000 in
theorem as45 (e t : Addr) (v old : Value) (n : Nat) (a : Addr) (W : World) (hp : Path W false (.iface 86 (.pointer (some e))) v n)
    (ha : W.cell? a = some (.pointer (some t))) (ht0 : W.cell? t = some old) (hf0 : W.frozen? t = false) :
    Calls Tryz.prog 104 #[v, .iface 88 (.pointer (some t)), .agg #[.pointer (some ⟨5, 88, none⟩), .pointer (some a), .int .u64 150], .iface 176 (.agg #[.pointer (some ⟨5, 86, none⟩)])] W
      fun ev w' => ev = .returned (.bool true) ∧ w' = ((W.alloc (.cells #[.pointer (some ⟨5, 88, none⟩), .pointer (some a), .int .u64 150] 134)).alloc (.cells #[.pointer (some e)] 86)).setCell t (.pointer (some e)) := by
  have h23 := @run_callFunc_extern Tryz.prog 147 _ ReflectliteType.typeOf Tryz.func147 (by kernel_rfl) (by kernel_rfl) (by kernel_rfl) (by kernel_rfl)
  have h86 := @run_callFunc_extern Tryz.prog 256 _ (ReflectliteType.relation "AssignableTo" ReflectliteType.assignableTo) Tryz.func256 (by kernel_rfl) (by kernel_rfl) (by kernel_rfl) (by kernel_rfl)
  have h40 := @run_callFunc_extern Tryz.prog 148 _ (ReflectliteValue.method (ReflectliteValue.valueError "reflectlite.Value.Elem" 0) ReflectliteValue.elem) Tryz.func148 (by kernel_rfl) (by kernel_rfl) (by kernel_rfl) (by kernel_rfl)
  have h41 := @run_callFunc_extern Tryz.prog 149 _ ReflectliteValue.set Tryz.func149 (by kernel_rfl) (by kernel_rfl) (by kernel_rfl) (by kernel_rfl)
  have h29 := @run_callFunc_extern Tryz.prog 101 _ (fun args => ReflectliteValue.unpack (args.getD 0 (.tuple #[]))) Tryz.func101 (by kernel_rfl) (by kernel_rfl) (by kernel_rfl) (by kernel_rfl)
  have t45 := typeOf45
  have a45 := assign45_45
  have v45 := valueOf45
  have hal := cell_lt ha
  have htl := cell_lt ht0
  have el := elemV50 a t (W.alloc (.cells #[.pointer (some ⟨5, 88, none⟩), .pointer (some a), .int .u64 150] 134)) (by rw [World.cell?_alloc_lt _ _ a hal]; exact ha)
  have st := set45 t ⟨W.heap.size + 1, 0, none⟩ e old ((W.alloc (.cells #[.pointer (some ⟨5, 88, none⟩), .pointer (some a), .int .u64 150] 134)).alloc (.cells #[.pointer (some e)] 86))
    (by rw [World.cell?_alloc_at _ _ _ _ (by simp)]; rfl)
    (by rw [World.cell?_alloc_lt _ _ t (by simp; omega), World.cell?_alloc_lt _ _ t htl]; exact ht0)
    (by rw [World.frozen?_alloc_old _ _ t (by simp; omega), World.frozen?_alloc_old _ _ t (Nat.ne_of_lt htl)]; exact hf0)
  go_enter Tryz.func104, Tryz.ntmps104
  go_wp2
  go_loop [0] (fun v => ∃ n, Path W false (.iface 86 (.pointer (some e))) v n) (fun v => far W false (.iface 86 (.pointer (some e))) v)
  case atStart => exact ⟨n, hp⟩
  case round =>
    obtain ⟨m, hm⟩ := hrel
    cases hm with
    | here =>
      go_wp2
      go_ret
      exact ⟨rfl, rfl⟩
    | err B k n e => cases e
end Go.Proofs.YtpemghcafbedeaaGreatDoor
end
section
namespace Go.Proofs.YtpemghcafbedeaaGreatDoor
open Go.RowKit Go.Extern.Stop Go.Stop Go.Extern

set_option maxHeartbeats 4000000 in
set_option maxRecDepth 1000000 in
theorem as23 (t : Addr) (v old : Value) (j : Int) (n : Nat) (a : Addr) (W : World) (hp : Path W true (.iface 32 (.int .i64 j)) v n)
    (ha : W.cell? a = some (.pointer (some t))) (ht0 : W.cell? t = some old) (hf0 : W.frozen? t = false) :
    Calls Tryz.prog 104 #[v, .iface 91 (.pointer (some t)), .agg #[.pointer (some ⟨5, 91, none⟩), .pointer (some a), .int .u64 150], .iface 176 (.agg #[.pointer (some ⟨5, 32, none⟩)])] W
      fun ev w' => ev = .returned (.bool true) ∧ w' = ((W.alloc (.cells #[.pointer (some ⟨5, 91, none⟩), .pointer (some a), .int .u64 150] 134)).alloc (.cells #[.int .i64 j] 32)).setCell t (.int .i64 j) := by
  have h23 := @run_callFunc_extern Tryz.prog 147 _ ReflectliteType.typeOf Tryz.func147 (by kernel_rfl) (by kernel_rfl) (by kernel_rfl) (by kernel_rfl)
  have h86 := @run_callFunc_extern Tryz.prog 256 _ (ReflectliteType.relation "AssignableTo" ReflectliteType.assignableTo) Tryz.func256 (by kernel_rfl) (by kernel_rfl) (by kernel_rfl) (by kernel_rfl)
  have h40 := @run_callFunc_extern Tryz.prog 148 _ (ReflectliteValue.method (ReflectliteValue.valueError "reflectlite.Value.Elem" 0) ReflectliteValue.elem) Tryz.func148 (by kernel_rfl) (by kernel_rfl) (by kernel_rfl) (by kernel_rfl)
  have h41 := @run_callFunc_extern Tryz.prog 149 _ ReflectliteValue.set Tryz.func149 (by kernel_rfl) (by kernel_rfl) (by kernel_rfl) (by kernel_rfl)
  have h29 := @run_callFunc_extern Tryz.prog 101 _ (fun args => ReflectliteValue.unpack (args.getD 0 (.tuple #[]))) Tryz.func101 (by kernel_rfl) (by kernel_rfl) (by kernel_rfl) (by kernel_rfl)
  have t23 := typeOf23
  have t45 := typeOf45
  have a23 := assign23_23
  have a45 := assign45_23
  have v23 := valueOf23
  have n45 := no_as45
  have u45 := un45
  have hal := cell_lt ha
  have htl := cell_lt ht0
  have el := elemV49 a t (W.alloc (.cells #[.pointer (some ⟨5, 91, none⟩), .pointer (some a), .int .u64 150] 134)) (by rw [World.cell?_alloc_lt _ _ a hal]; exact ha)
  have st := set23 t ⟨W.heap.size + 1, 0, none⟩ j old ((W.alloc (.cells #[.pointer (some ⟨5, 91, none⟩), .pointer (some a), .int .u64 150] 134)).alloc (.cells #[.int .i64 j] 32))
    (by rw [World.cell?_alloc_at _ _ _ _ (by simp)]; rfl)
    (by rw [World.cell?_alloc_lt _ _ t (by simp; omega), World.cell?_alloc_lt _ _ t htl]; exact ht0)
    (by rw [World.frozen?_alloc_old _ _ t (by simp; omega), World.frozen?_alloc_old _ _ t (Nat.ne_of_lt htl)]; exact hf0)
  go_enter Tryz.func104, Tryz.ntmps104
  go_wp2
  go_loop [0] (fun v => ∃ n, Path W true (.iface 32 (.int .i64 j)) v n) (fun v => far W true (.iface 32 (.int .i64 j)) v)
  case atStart => exact ⟨n, hp⟩
  case round =>
    obtain ⟨m, hm⟩ := hrel
    cases hm with
    | here =>
      go_wp2
      go_ret
      exact ⟨rfl, rfl⟩
    | err B i k hb hc hq =>
      have hbl := cell_lt hc
      have hc1 : (W.alloc (.cells #[.pointer (some ⟨5, 91, none⟩), .pointer (some a), .int .u64 150] 134)).cell? ⟨B, 3, none⟩ = some (.int .i64 i) := by rw [World.cell?_alloc_lt _ _ _ hbl]; exact hc
      have HF : Hid (far W true (.iface 32 (.int .i64 j)) (.iface 86 (.pointer (some ⟨B, 0, none⟩))) = k + 1) := Lib.hid (far_eq (by simp) (.err B i k hb hc hq))
      have HG : Hid (far W true (.iface 32 (.int .i64 j)) (.iface 32 (.int .i64 i)) = k) := Lib.hid (far_eq (by simp) hq)
      go_wp2_with (go_at_call 251; (with_reducible refine (unwrap45 _ _ _ hc1).mono ?_); rintro e' w' ⟨rfl, rfl⟩)
      go_round
      case rel => exact ⟨k, hq⟩
      case measure => rw [HF.out, HG.out]; omega
end Go.Proofs.YtpemghcafbedeaaGreatDoor
end
