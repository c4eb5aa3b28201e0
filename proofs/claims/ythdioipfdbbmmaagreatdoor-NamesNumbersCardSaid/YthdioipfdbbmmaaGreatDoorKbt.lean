/- Contracts. -/
import Derived.Test.YthdioipfdbbmmaaGreatDoorKah
import Derived.Test.YthdioipfdbbmmaaGreatDoorKbs
import Derived.Deep.CutRange
set_option linter.all false
namespace Go.Proofs.YthdioipfdbbmmaaGreatDoor.Nm
open Go.RowKit Go.Maps Tr Par
/-- What a round of the law's loop reads. -/
structure NnW (W : World) (tb pb : Nat) (p2 : Option Addr) (c2 : Nat) (nb nc ob g tg : Nat) (tp : Option Addr) (tc pc : Nat) (pp : Option Addr) (ns : List Nd) (a : List Tb × List Pr × List Int) : Prop where
  tree : W.cell? ⟨tb, 0, none⟩ = some (.slice p2 ns.length c2)
  tv : TV W p2 ns.length c2 ns
  box : PBk W pb (.slice (some ⟨nb, 0, none⟩) ns.length nc) (.slice tp a.1.length tc) (.slice pp a.2.1.length pc) (.slice (some ⟨ob, 0, none⟩) ns.length ns.length)
  of : ∀ i, i < ns.length → W.cell? ⟨ob, i, none⟩ = some (.int .i64 (a.2.2.getD i 0))
  tcap : a.1.length ≤ tc
  pcap : a.2.1.length ≤ pc
  procs : ∀ j pr, a.2.1[j]? = some pr → pp = some ⟨g, 0, none⟩ ∧ g < W.heap.size ∧ ∃ vp vc, PrAt W g j pr vp vc
  tabs : ∀ j t, a.1[j]? = some t → tp = some ⟨tg, 0, none⟩ ∧ tg < W.heap.size ∧ ∃ vp vc, TbAt W tg j t vp vc
  tbl : tb < W.heap.size
  obl : 0 < ns.length → ob < W.heap.size
theorem NnW.on {W W' : World} {tb pb : Nat} {p2 : Option Addr} {c2 : Nat} {nb nc ob g tg : Nat} {tp : Option Addr} {tc pc : Nat} {pp : Option Addr} {ns : List Nd} {a : List Tb × List Pr × List Int} (h : NnW W tb pb p2 c2 nb nc ob g tg tp tc pc pp ns a) (hb : Below W.heap.size W W') : NnW W' tb pb p2 c2 nb nc ob g tg tp tc pc pp ns a where
  tree := by rw [hb.cell (p := ⟨tb, 0, none⟩) h.tbl]; exact h.tree
  tv := h.tv.on hb
  box := h.box.on (hb.block _ h.box.lt)
  of := fun i hi => by rw [hb.cell (p := ⟨ob, i, none⟩) (h.obl (by omega))]; exact h.of i hi
  tcap := h.tcap
  pcap := h.pcap
  procs := fun j pr hj => by
    obtain ⟨e, hg, vp, vc, hp⟩ := h.procs j pr hj
    exact ⟨e, Nat.lt_of_lt_of_le hg hb.size, vp, vc, hp.on hg hb⟩
  tabs := fun j t hj => by
    obtain ⟨e, hg, vp, vc, hp⟩ := h.tabs j t hj
    exact ⟨e, Nat.lt_of_lt_of_le hg hb.size, vp, vc, ⟨by rw [hb.cell (p := ⟨tg, j * 2, none⟩) hg]; exact hp.c0, by rw [hb.cell (p := ⟨tg, j * 2 + 1, none⟩) hg]; exact hp.c1, hp.tx.on hb⟩⟩
  tbl := Nat.lt_of_lt_of_le h.tbl hb.size
  obl := fun h0 => Nat.lt_of_lt_of_le (h.obl h0) hb.size
/-- Slots that are as they were told; of the others nothing is said. -/
def fits : List (Option Value) → List Value → Prop
  | [], [] => True
  | none :: m, _ :: t => fits m t
  | some v :: m, x :: t => x = v ∧ fits m t
  | _, _ => False
theorem fits_any {m : List (Option Value)} {P : List Value → Prop} {l : List Value} (h : fits (none :: m) l) (hP : ∀ u (Q : List Value → Prop), (∀ t, Q t ↔ P (u :: t)) → ∀ t, fits m t → Q t) : P l := by
  cases l with
  | nil => exact h.elim
  | cons u t => exact hP u _ (fun _ => Iff.rfl) t h
theorem fits_is {m : List (Option Value)} {v : Value} {P : List Value → Prop} {l : List Value} (h : fits (some v :: m) l) (hP : ∀ (Q : List Value → Prop), (∀ t, Q t ↔ P (v :: t)) → ∀ t, fits m t → Q t) : P l := by
  cases l with
  | nil => exact h.elim
  | cons u t =>
    obtain ⟨rfl, h2⟩ := h
    exact hP _ (fun _ => Iff.rfl) t h2
theorem fits_end {P : List Value → Prop} {l : List Value} (h : fits [] l) (hP : P []) : P l := by
  cases l with
  | nil => exact hP
  | cons u t => exact h.elim
/-- The first loop of a text. -/
def firstLoop : Code → Option Code
  | .loop c => some c
  | .seq a b => match firstLoop a with
    | some c => some c
    | none => firstLoop b
  | .block _ c => firstLoop c
  | .scope c => firstLoop c
  | .cond _ a b => match firstLoop a with
    | some c => some c
    | none => firstLoop b
  | _ => none
/-- The body of the law's loop. -/
noncomputable def nnBody : Code := (Tryz.f12.body.bind firstLoop).getD .skip
/-- What stays through the loop. -/
def nnMask (tb pb : Nat) (c0 c1 c4 c6 c11 c12 c13 c14 c15 c16 c17 c18 c19 c20 c21 c22 c23 c24 c25 c26 c27 c28 c29 c30 c31 c32 c33 c34 c35 c36 c37 c38 c39 c40 c41 c42 c43 c44 c45 c46 c47 c48 c49 c50 c163 c164 c165 c166 c167 c168 c169 c170 c171 c172 : Value) : List (Option Value) := (some c0 :: some c1 :: none :: some (.pointer (some ⟨tb, 0, none⟩)) :: some c4 :: some (.pointer (some ⟨pb, 0, none⟩)) :: some c6 :: none :: none :: none :: none :: some c11 :: some c12 :: some c13 :: some c14 :: some c15 :: some c16 :: some c17 :: some c18 :: some c19 :: some c20 :: some c21 :: some c22 :: some c23 :: some c24 :: some c25 :: some c26 :: some c27 :: some c28 :: some c29 :: some c30 :: some c31 :: some c32 :: some c33 :: some c34 :: some c35 :: some c36 :: some c37 :: some c38 :: some c39 :: some c40 :: some c41 :: some c42 :: some c43 :: some c44 :: some c45 :: some c46 :: some c47 :: some c48 :: some c49 :: some c50 :: none :: none :: none :: none :: none :: none :: none :: none :: none :: none :: none :: none :: none :: none :: none :: none :: none :: none :: none :: none :: none :: none :: none :: none :: none :: none :: none :: none :: none :: none :: none :: none :: none :: none :: none :: none :: none :: none :: none :: none :: none :: none :: none :: none :: none :: none :: none :: none :: none :: none :: none :: none :: none :: none :: none :: none :: none :: none :: none :: none :: none :: none :: none :: none :: none :: none :: none :: none :: none :: none :: none :: none :: none :: none :: none :: none :: none :: none :: none :: none :: none :: none :: none :: none :: none :: none :: none :: none :: none :: none :: none :: none :: none :: none :: none :: none :: none :: none :: none :: none :: none :: none :: none :: none :: none :: none :: none :: none :: none :: none :: none :: none :: some c163 :: some c164 :: some c165 :: some c166 :: some c167 :: some c168 :: some c169 :: some c170 :: some c171 :: some c172 :: [])
/-- Between two rounds: of slots 7 and 8 by themselves. -/
def NnI (ns : List Nd) (of : List Int) (w5 : World) (m : List (Option Value)) (a : Act) (wr : World) : Prop :=
  a.defers = [] ∧ fits m a.tmps.toList ∧ ∃ i : Nat, i ≤ ns.length ∧ a.tmps.getD 8 undef = .int .i64 (i : Int) ∧ a.tmps.getD 7 undef = .int .i64 (inAt ns of i) ∧ Hid (Below w5.heap.size w5 wr)
def nnMu (ns : List Nd) (a : Act) (_ : World) : Nat := ns.length - (intOf (a.tmps.getD 8 undef)).toNat
end Go.Proofs.YthdioipfdbbmmaaGreatDoor.Nm
