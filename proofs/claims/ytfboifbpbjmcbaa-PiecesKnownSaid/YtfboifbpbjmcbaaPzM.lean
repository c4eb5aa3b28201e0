import Derived.Test.YtfboifbpbjmcbaaProg
import Derived.WalkKit
import Derived.Handy
import Derived.Below
import Derived.Carry
import Derived.Lib.Hide
namespace Go.Proofs.Ytfboifbpbjmcbaa.Pz
open Go.RowKit
/-- Does the unit end behind the k-th instruction? -/
def isEnd (ops : List Int) (way : Int) (k : Nat) : Bool := !(decide (k + 1 < ops.length) && !(decide (way = 1) && decide (ops.getD k 0 = 15)))
/-- Where the next unit begins, and the units so far. -/
def unitsTo (ops : List Int) (way : Int) : Nat → Nat × List (Nat × Nat)
  | 0 => (0, [])
  | k + 1 => if isEnd ops way k then (k + 1, (unitsTo ops way k).2 ++ [((unitsTo ops way k).1, k + 1)]) else unitsTo ops way k
def unitsP (ops : List Int) (way : Int) : List (Nat × Nat) := (unitsTo ops way ops.length).2
theorem unitsTo_yes {ops : List Int} {way : Int} {k : Nat} (h : isEnd ops way k = true) : unitsTo ops way (k + 1) = (k + 1, (unitsTo ops way k).2 ++ [((unitsTo ops way k).1, k + 1)]) := by simp [unitsTo, h]
theorem unitsTo_no {ops : List Int} {way : Int} {k : Nat} (h : isEnd ops way k = false) : unitsTo ops way (k + 1) = unitsTo ops way k := by simp [unitsTo, h]
theorem unitsTo_len (ops : List Int) (way : Int) (k : Nat) : (unitsTo ops way k).2.length ≤ k := by
  induction k with
  | zero => simp [unitsTo]
  | succ k ih =>
    cases h : isEnd ops way k with
    | true => rw [unitsTo_yes h]; simp; omega
    | false => rw [unitsTo_no h]; omega
theorem unitsTo_from (ops : List Int) (way : Int) (k : Nat) : (unitsTo ops way k).1 ≤ k := by
  induction k with
  | zero => simp [unitsTo]
  | succ k ih =>
    cases h : isEnd ops way k with
    | true => rw [unitsTo_yes h]; simp
    | false => rw [unitsTo_no h]; omega
theorem unitsTo_prefix (ops : List Int) (way : Int) (k d : Nat) : ∃ r, (unitsTo ops way (k + d)).2 = (unitsTo ops way k).2 ++ r := by
  induction d with
  | zero => exact ⟨[], by simp⟩
  | succ d ih =>
    obtain ⟨r, hr⟩ := ih
    cases h : isEnd ops way (k + d) with
    | true => exact ⟨r ++ [((unitsTo ops way (k + d)).1, k + d + 1)], by rw [← Nat.add_assoc, unitsTo_yes h, hr]; simp⟩
    | false => exact ⟨r, by rw [← Nat.add_assoc, unitsTo_no h, hr]⟩
theorem unitsTo_pre {ops : List Int} {way : Int} {k : Nat} (hk : k ≤ ops.length) : ∃ r, unitsP ops way = (unitsTo ops way k).2 ++ r := by
  obtain ⟨r, hr⟩ := unitsTo_prefix ops way k (ops.length - k)
  exact ⟨r, by rw [← hr, unitsP, show k + (ops.length - k) = ops.length by omega]⟩
/-- Units one behind the other, from a to f, each ending as it may. -/
def Chain (ops : List Int) (way : Int) : Nat → List (Nat × Nat) → Nat → Prop
  | a, [], f => a = f
  | a, (x, y) :: r, f => x = a ∧ a < y ∧ isEnd ops way (y - 1) = true ∧ Chain ops way y r f
theorem Chain.snoc {ops : List Int} {way : Int} {a f g : Nat} {l : List (Nat × Nat)} (h : Chain ops way a l f) (hg : f < g) (he : isEnd ops way (g - 1) = true) : Chain ops way a (l ++ [(f, g)]) g := by
  induction l generalizing a with
  | nil => cases (show a = f from h); exact ⟨rfl, hg, he, rfl⟩
  | cons u r ih => exact ⟨h.1, h.2.1, h.2.2.1, ih h.2.2.2⟩
theorem unitsTo_chain (ops : List Int) (way : Int) (k : Nat) : Chain ops way 0 (unitsTo ops way k).2 (unitsTo ops way k).1 := by
  induction k with
  | zero => exact rfl
  | succ k ih =>
    cases h : isEnd ops way k with
    | true => rw [unitsTo_yes h]; exact ih.snoc (Nat.lt_succ_of_le (unitsTo_from ops way k)) h
    | false => rw [unitsTo_no h]; exact ih
theorem isEnd_last (ops : List Int) (way : Int) (k : Nat) (h : ops.length ≤ k + 1) : isEnd ops way k = true := by
  have : ¬ k + 1 < ops.length := by omega
  simp [isEnd, this]
theorem isEnd_piece {ops : List Int} {way : Int} {k : Nat} (h : isEnd ops way k = true) (hk : k + 1 < ops.length) : way = 1 ∧ ops.getD k 0 = 15 := by
  simp [isEnd, hk] at h
  exact ⟨h.1, by simpa using h.2⟩
theorem units_end (ops : List Int) (way : Int) : (unitsTo ops way ops.length).1 = ops.length := by
  cases hn : ops.length with
  | zero => rfl
  | succ n => rw [unitsTo_yes (isEnd_last ops way n (by omega))]
/-- Where unit i begins. -/
def atU (us : List (Nat × Nat)) (i : Nat) : Nat := if i = 0 then 0 else (us.getD (i - 1) (0, 0)).2
theorem Chain.facts {ops : List Int} {way : Int} {a f : Nat} {l : List (Nat × Nat)} (h : Chain ops way a l f) (i : Nat) (hi : i < l.length) :
    (l.getD i (0, 0)).1 = (if i = 0 then a else (l.getD (i - 1) (0, 0)).2) ∧ (l.getD i (0, 0)).1 < (l.getD i (0, 0)).2 ∧ isEnd ops way ((l.getD i (0, 0)).2 - 1) = true := by
  induction l generalizing a i with
  | nil => simp at hi
  | cons u r ih =>
    cases i with
    | zero => exact ⟨h.1, by have := h.2.1; rw [← h.1] at this; exact this, h.2.2.1⟩
    | succ i =>
      have := ih h.2.2.2 i (by simpa using hi)
      cases i with
      | zero => simpa using this
      | succ i => simpa using this
theorem Chain.last {ops : List Int} {way : Int} {a f : Nat} {l : List (Nat × Nat)} (h : Chain ops way a l f) : (if l.length = 0 then a else (l.getD (l.length - 1) (0, 0)).2) = f := by
  induction l generalizing a with
  | nil => exact h
  | cons u r ih =>
    have := ih h.2.2.2
    cases r with
    | nil => simpa using this
    | cons v s => simpa using this
theorem Chain.le {ops : List Int} {way : Int} {a f : Nat} {l : List (Nat × Nat)} (h : Chain ops way a l f) : a ≤ f ∧ ∀ i, i < l.length → a ≤ (l.getD i (0, 0)).1 ∧ (l.getD i (0, 0)).2 ≤ f := by
  induction l generalizing a with
  | nil => exact ⟨Nat.le_of_eq h, fun i hi => by simp at hi⟩
  | cons u r ih =>
    have := ih h.2.2.2
    refine ⟨by have := h.2.1; omega, fun i hi => ?_⟩
    cases i with
    | zero => exact ⟨by rw [show ((u :: r).getD 0 (0, 0)) = u from rfl, h.1]; exact Nat.le_refl _, this.1⟩
    | succ i =>
      have h2 := this.2 i (by simpa using hi)
      have h3 := h.2.1
      exact ⟨by simp only [List.getD_cons_succ]; omega, by simp only [List.getD_cons_succ]; omega⟩
section
variable (ops : List Int) (way : Int)
theorem units_chain : Chain ops way 0 (unitsP ops way) ops.length := by
  have := unitsTo_chain ops way ops.length
  rw [units_end] at this
  exact this
theorem unit_from (i : Nat) (hi : i < (unitsP ops way).length) : ((unitsP ops way).getD i (0, 0)).1 = atU (unitsP ops way) i := ((units_chain ops way).facts i hi).1
theorem unit_lt (i : Nat) (hi : i < (unitsP ops way).length) : atU (unitsP ops way) i < ((unitsP ops way).getD i (0, 0)).2 := by
  have := ((units_chain ops way).facts i hi).2.1
  rwa [unit_from ops way i hi] at this
theorem unit_to (i : Nat) (hi : i < (unitsP ops way).length) : ((unitsP ops way).getD i (0, 0)).2 ≤ ops.length := ((units_chain ops way).le.2 i hi).2
theorem unit_at_succ (i : Nat) : atU (unitsP ops way) (i + 1) = ((unitsP ops way).getD i (0, 0)).2 := by simp [atU]
theorem unit_last : atU (unitsP ops way) (unitsP ops way).length = ops.length := (units_chain ops way).last
theorem unit_piece (i : Nat) (hi : i + 1 < (unitsP ops way).length) : way = 1 ∧ ops.getD (((unitsP ops way).getD i (0, 0)).2 - 1) 0 = 15 := by
  have h1 := ((units_chain ops way).facts i (by omega)).2
  have h2 := unit_lt ops way (i + 1) hi
  have h3 := unit_to ops way (i + 1) hi
  rw [unit_at_succ] at h2
  exact isEnd_piece h1.2 (by omega)
theorem unit_whole (h : way ≠ 1) : (unitsP ops way).length ≤ 1 := by
  rcases Nat.lt_or_ge 1 (unitsP ops way).length with h1 | h1
  · exact absurd (unit_piece ops way 0 h1).1 h
  · exact h1
end
/-- In which unit it stands. -/
def ofP : List (Nat × Nat) → Int → Nat → Int
  | [], _, _ => -1
  | u :: r, at', i => if (u.1 : Int) ≤ at' ∧ at' < u.2 then (i : Int) else ofP r at' (i + 1)
theorem ofP_skip (a b : List (Nat × Nat)) (at' : Int) (i : Nat) (h : ∀ u ∈ a, ¬ ((u.1 : Int) ≤ at' ∧ at' < u.2)) : ofP (a ++ b) at' i = ofP b at' (i + a.length) := by
  induction a generalizing i with
  | nil => rfl
  | cons u r ih =>
    rw [List.cons_append, ofP, if_neg (h u (by simp)), ih _ (fun v hv => h v (by simp [hv]))]
    congr 1
    simp; omega
theorem ofP_unit (ops : List Int) (way : Int) (i : Nat) (hi : i < (unitsP ops way).length) (k : Nat) (h1 : atU (unitsP ops way) i ≤ k) (h2 : k < ((unitsP ops way).getD i (0, 0)).2) : ofP (unitsP ops way) k 0 = i := by
  have hs : unitsP ops way = (unitsP ops way).take i ++ (unitsP ops way).drop i := (List.take_append_drop i _).symm
  have hmono : ∀ j, j < i → ((unitsP ops way).getD j (0, 0)).2 ≤ atU (unitsP ops way) i := by
    have key : ∀ d j, j + d + 1 = i → ((unitsP ops way).getD j (0, 0)).2 ≤ atU (unitsP ops way) i := by
      intro d
      induction d with
      | zero => intro j hj; rw [← hj, Nat.add_zero, unit_at_succ]; exact Nat.le_refl _
      | succ d ih =>
        intro j hj
        have := ih (j + 1) (by omega)
        have h3 := unit_lt ops way (j + 1) (by omega)
        rw [unit_at_succ] at h3
        omega
    intro j hj
    exact key (i - j - 1) j (by omega)
  rw [hs, ofP_skip]
  · rw [List.drop_eq_getElem_cons hi, ofP, if_pos, List.length_take]
    · simp; omega
    · have e : (unitsP ops way)[i] = (unitsP ops way).getD i (0, 0) := by simp [List.getD, hi]
      rw [e, unit_from ops way i hi]
      omega
  · intro u hu
    obtain ⟨j, hj, rfl⟩ := List.getElem_of_mem hu
    rw [List.length_take] at hj
    have := hmono j (by omega)
    simp [List.getD, show j < (unitsP ops way).length by omega] at this
    simp
    omega
end Go.Proofs.Ytfboifbpbjmcbaa.Pz
