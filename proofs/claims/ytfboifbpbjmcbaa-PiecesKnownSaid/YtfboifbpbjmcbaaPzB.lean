import Derived.Test.YtfboifbpbjmcbaaPzM
import Derived.RangeFuncBox
import Derived.RangeFuncNested
import Derived.RangeFuncLeaves
import Derived.RangeFuncWrites
import Derived.Shelf.Abstract
import Derived.OwnWalk
import Derived.OwnWalkIn
import Derived.TacticsInMore
import Derived.LoopNIn
import Derived.LoopIn
import Derived.Lib.OwnKind
import Derived.Laws.AppendOwnNone
import Derived.Deep.AppendLies
import Derived.Deep.QuietTactic
import Derived.BigQuiet
namespace Go.Proofs.Ytfboifbpbjmcbaa.Pz
open Go.RowKit
theorem info_of {t : Nat} {z : Value} {s b : Nat} (h : (Try.prog.info? t).map (fun i => (i.zero, i.size, i.bytes)) = some (some z, s, b)) : ∃ i, Try.prog.info? t = some i ∧ i.zero = some z ∧ i.size = s ∧ i.bytes = b := by
  cases hi : Try.prog.info? t with
  | none => rw [hi] at h; simp at h
  | some i =>
    rw [hi] at h
    simp only [Option.map_some, Option.some.injEq, Prod.mk.injEq] at h
    exact ⟨i, rfl, h.1, h.2.1, h.2.2⟩
theorem own_shape {W : World} {B e size n : Nat} {v : Value} {xs : List Value} (h : W.ownsRow B e size v n xs) : ∃ vg vc, v = .slice vg n vc := by
  rcases h.2 with ⟨h1, h2⟩ | ⟨g, c, cur, h1, _⟩
  · exact ⟨_, _, by rw [h1, h2]⟩
  · exact ⟨_, _, h1⟩
/-- A term. -/
structure Tm where
  k : Int
  n : Int
  v : Int
instance : Inhabited Tm := ⟨⟨0, 0, 0⟩⟩
/-- An instruction. -/
structure Ins where
  op : Int
  nd : Int
  md : Int
  tb : Int
  row : Bool
  col : Int
  vr : Int
  to : Int
  eq : Bool
  frm : Int
  upt : Int
  key : List Tm
  vals : List (List Tm)
instance : Inhabited Ins := ⟨⟨0, 0, 0, 0, false, 0, 0, 0, false, 0, 0, [], []⟩⟩
def opsOf (is : List Ins) : List Int := is.map (·.op)
theorem opsOf_get (is : List Ins) (k : Nat) : (opsOf is).getD k 0 = (is.getD k default).op := by
  unfold opsOf
  by_cases h : k < is.length
  · simp [List.getD, h]
  · have h1 : is[k]? = none := by simp; omega
    simp [List.getD, h1]; rfl
theorem opsOf_len (is : List Ins) : (opsOf is).length = is.length := by simp [opsOf]
/-- What lies below n₀ stays. -/
structure Kb (n₀ : Nat) (A B : World) : Prop where
  size : A.heap.size ≤ B.heap.size
  block : ∀ g, g < n₀ → g < A.heap.size → B.heap[g]? = A.heap[g]?
theorem Kb.of {n₀ m : Nat} {A B : World} (h : Below m A B) (hm : n₀ ≤ m) : Kb n₀ A B := ⟨h.size, fun g hg _ => h.block g (by omega)⟩
theorem cell_lt {W : World} {a : Addr} {v : Value} (h : W.cell? a = some v) : a.block < W.heap.size := by
  rcases Nat.lt_or_ge a.block W.heap.size with h1 | h1
  · exact h1
  · simp [World.cell?, Array.getElem?_eq_none h1] at h
theorem Kb.cell {n₀ : Nat} {A B : World} (h : Kb n₀ A B) {b o : Nat} {u : Value} (hg : b < n₀) (hc : A.cell? ⟨b, o, none⟩ = some u) : B.cell? ⟨b, o, none⟩ = some u := by
  rw [World.cell?_of_block (w := A) (a := ⟨b, o, none⟩) (h.block b hg (cell_lt hc))]; exact hc
/-- Terms that lie in a row below n₀. -/
structure TsIn (n₀ : Nat) (W : World) (p : Option Addr) (len c : Nat) (ts : List Tm) : Prop where
  len_eq : ts.length = len
  cap : len ≤ c
  sz : len * 24 ≤ 140737488351232
  nil : p = none → c = 0
  cell : 0 < len → ∃ b off, p = some ⟨b, off, none⟩ ∧ b < n₀ ∧ ∀ i, i < len → W.cell? ⟨b, off + i * 3, none⟩ = some (.int .u8 (ts.getD i default).k) ∧ W.cell? ⟨b, off + i * 3 + 1, none⟩ = some (.int .i64 (ts.getD i default).n) ∧ W.cell? ⟨b, off + i * 3 + 2, none⟩ = some (.int .i64 (ts.getD i default).v)
theorem TsIn.on {n₀ : Nat} {W W' : World} {p : Option Addr} {len c : Nat} {ts : List Tm} (h : TsIn n₀ W p len c ts) (hb : Kb n₀ W W') : TsIn n₀ W' p len c ts where
  len_eq := h.len_eq
  cap := h.cap
  sz := h.sz
  nil := h.nil
  cell := fun hl => by
    obtain ⟨b, off, e, hlt, hc⟩ := h.cell hl
    exact ⟨b, off, e, hlt, fun i hi => ⟨hb.cell hlt (hc i hi).1, hb.cell hlt (hc i hi).2.1, hb.cell hlt (hc i hi).2.2⟩⟩
theorem TsIn.mono {n₀ n₁ : Nat} {W : World} {p : Option Addr} {len c : Nat} {ts : List Tm} (h : TsIn n₀ W p len c ts) (hn : n₀ ≤ n₁) : TsIn n₁ W p len c ts where
  len_eq := h.len_eq
  cap := h.cap
  sz := h.sz
  nil := h.nil
  cell := fun hl => by
    obtain ⟨b, off, e, hlt, hc⟩ := h.cell hl
    exact ⟨b, off, e, by omega, hc⟩
/-- Rows of terms that lie in a row below n₀. -/
structure VsIn (n₀ : Nat) (W : World) (p : Option Addr) (len c : Nat) (vs : List (List Tm)) : Prop where
  len_eq : vs.length = len
  cap : len ≤ c
  sz : len * 24 ≤ 140737488351232
  nil : p = none → c = 0
  cell : 0 < len → ∃ b off, p = some ⟨b, off, none⟩ ∧ b < n₀ ∧ ∀ i, i < len → ∃ q l d, W.cell? ⟨b, off + i, none⟩ = some (.slice q l d) ∧ TsIn n₀ W q l d (vs.getD i [])
theorem VsIn.on {n₀ : Nat} {W W' : World} {p : Option Addr} {len c : Nat} {vs : List (List Tm)} (h : VsIn n₀ W p len c vs) (hb : Kb n₀ W W') : VsIn n₀ W' p len c vs where
  len_eq := h.len_eq
  cap := h.cap
  sz := h.sz
  nil := h.nil
  cell := fun hl => by
    obtain ⟨b, off, e, hlt, hc⟩ := h.cell hl
    refine ⟨b, off, e, hlt, fun i hi => ?_⟩
    obtain ⟨q, l, d, h1, h2⟩ := hc i hi
    exact ⟨q, l, d, hb.cell hlt h1, h2.on hb⟩
theorem VsIn.mono {n₀ n₁ : Nat} {W : World} {p : Option Addr} {len c : Nat} {vs : List (List Tm)} (h : VsIn n₀ W p len c vs) (hn : n₀ ≤ n₁) : VsIn n₁ W p len c vs where
  len_eq := h.len_eq
  cap := h.cap
  sz := h.sz
  nil := h.nil
  cell := fun hl => by
    obtain ⟨b, off, e, hlt, hc⟩ := h.cell hl
    refine ⟨b, off, e, by omega, fun i hi => ?_⟩
    obtain ⟨q, l, d, h1, h2⟩ := hc i hi
    exact ⟨q, l, d, h1, h2.mono hn⟩
/-- An instruction's cells. -/
def insC (x : Ins) (kv vv : Value) : List Value := [.int .u8 x.op, .int .i64 x.nd, .int .u8 x.md, .int .i64 x.tb, .bool x.row, .int .i64 x.col, .int .i64 x.vr, .int .i64 x.to, .bool x.eq, .int .i64 x.frm, .int .i64 x.upt, kv, vv]
/-- An instruction that lies at a place of a block. -/
structure IC (n₀ : Nat) (W : World) (b o : Nat) (x : Ins) (kp : Option Addr) (kl kc : Nat) (vp : Option Addr) (vl vc : Nat) : Prop where
  cell : ∀ j v, (insC x (.slice kp kl kc) (.slice vp vl vc))[j]? = some v → W.cell? ⟨b, o + j, none⟩ = some v
  key : TsIn n₀ W kp kl kc x.key
  vals : VsIn n₀ W vp vl vc x.vals
structure IsIn (n₀ : Nat) (W : World) (p : Option Addr) (len c : Nat) (is : List Ins) : Prop where
  len_eq : is.length = len
  cap : len ≤ c
  cell : 0 < len → ∃ b off, p = some ⟨b, off, none⟩ ∧ b < n₀ ∧ ∀ i, i < len → ∃ kp kl kc vp vl vc, IC n₀ W b (off + i * 13) (is.getD i default) kp kl kc vp vl vc
theorem IsIn.on {n₀ : Nat} {W W' : World} {p : Option Addr} {len c : Nat} {is : List Ins} (h : IsIn n₀ W p len c is) (hb : Kb n₀ W W') : IsIn n₀ W' p len c is where
  len_eq := h.len_eq
  cap := h.cap
  cell := fun hl => by
    obtain ⟨b, off, e, hlt, hc⟩ := h.cell hl
    refine ⟨b, off, e, hlt, fun i hi => ?_⟩
    obtain ⟨kp, kl, kc, vp, vl, vc, h1⟩ := hc i hi
    exact ⟨kp, kl, kc, vp, vl, vc, fun j v hj => hb.cell hlt (h1.cell j v hj), h1.key.on hb, h1.vals.on hb⟩
theorem IsIn.mono {n₀ n₁ : Nat} {W : World} {p : Option Addr} {len c : Nat} {is : List Ins} (h : IsIn n₀ W p len c is) (hn : n₀ ≤ n₁) : IsIn n₁ W p len c is where
  len_eq := h.len_eq
  cap := h.cap
  cell := fun hl => by
    obtain ⟨b, off, e, hlt, hc⟩ := h.cell hl
    refine ⟨b, off, e, by omega, fun i hi => ?_⟩
    obtain ⟨kp, kl, kc, vp, vl, vc, h1⟩ := hc i hi
    exact ⟨kp, kl, kc, vp, vl, vc, h1.cell, h1.key.mono hn, h1.vals.mono hn⟩
section
variable {n₀ : Nat} {W : World} {b o : Nat} {x : Ins} {kp vp : Option Addr} {kl kc vl vc : Nat} (h : IC n₀ W b o x kp kl kc vp vl vc)
include h
theorem IC.c0 : W.cell? ⟨b, o, none⟩ = some (.int .u8 x.op) := h.cell 0 _ rfl
theorem IC.c1 : W.cell? ⟨b, o + 1, none⟩ = some (.int .i64 x.nd) := h.cell 1 _ rfl
theorem IC.c2 : W.cell? ⟨b, o + 2, none⟩ = some (.int .u8 x.md) := h.cell 2 _ rfl
theorem IC.c3 : W.cell? ⟨b, o + 3, none⟩ = some (.int .i64 x.tb) := h.cell 3 _ rfl
theorem IC.c4 : W.cell? ⟨b, o + 4, none⟩ = some (.bool x.row) := h.cell 4 _ rfl
theorem IC.c5 : W.cell? ⟨b, o + 5, none⟩ = some (.int .i64 x.col) := h.cell 5 _ rfl
theorem IC.c6 : W.cell? ⟨b, o + 6, none⟩ = some (.int .i64 x.vr) := h.cell 6 _ rfl
theorem IC.c7 : W.cell? ⟨b, o + 7, none⟩ = some (.int .i64 x.to) := h.cell 7 _ rfl
theorem IC.c8 : W.cell? ⟨b, o + 8, none⟩ = some (.bool x.eq) := h.cell 8 _ rfl
theorem IC.c9 : W.cell? ⟨b, o + 9, none⟩ = some (.int .i64 x.frm) := h.cell 9 _ rfl
theorem IC.c10 : W.cell? ⟨b, o + 10, none⟩ = some (.int .i64 x.upt) := h.cell 10 _ rfl
theorem IC.c11 : W.cell? ⟨b, o + 11, none⟩ = some (.slice kp kl kc) := h.cell 11 _ rfl
theorem IC.c12 : W.cell? ⟨b, o + 12, none⟩ = some (.slice vp vl vc) := h.cell 12 _ rfl
end
def insV (x : Ins) (kv vv : Value) : Value := .agg (insC x kv vv).toArray
theorem one_below (w : World) (o : Obj) : Below w.heap.size w (w.alloc o) := (Below.refl _ _).alloc (Nat.le_refl _) _
end Go.Proofs.Ytfboifbpbjmcbaa.Pz
