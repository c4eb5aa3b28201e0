import Derived.Test.YtgmkmpldlndboaaProg
import Derived.WalkKit
import Derived.Handy
import Derived.Lib.Hide
namespace Go.Proofs.Ytgmkmpldlndboaa.Cd
open Go.RowKit
/-- A term. -/
structure Tm where
  k : Int
  n : Int
  v : Int
instance : Inhabited Tm := ⟨⟨0, 0, 0⟩⟩
def takesP (k : Int) : Option Nat := if k = 3 ∨ k = 4 ∨ k = 5 then some 2 else if k = 6 then some 1 else if k = 1 ∨ k = 2 then some 0 else none
def okT (nv : Int) (h : Nat) (t : Tm) : Option Nat := match takesP t.k with
  | none => none
  | some c => if c ≤ h ∧ (t.k = 2 → 0 ≤ t.v ∧ t.v < nv) then some (h + 1 - c) else none
def high (nv : Int) : List Tm → Nat → Option Nat
  | [], h => some h
  | t :: r, h => (okT nv h t).bind (high nv r)
def un (f : Int → Int) : List Int → List Int
  | y :: r => f y :: r
  | [] => []
def bin (f : Int → Int → Int) : List Int → List Int
  | y :: x :: r => f x y :: r
  | l => l
def stepP (vs : List Int) (t : Tm) (st : List Int) : List Int :=
  if t.k = 1 then t.n :: st else if t.k = 2 then vs.getD t.v.toNat 0 :: st else if t.k = 6 then un (fun y => wrap64 (-y)) st
  else if t.k = 4 then bin (fun x y => wrap64 (x - y)) st else if t.k = 3 then bin (fun x y => wrap64 (x + y)) st else if t.k = 5 then bin (fun x y => wrap64 (x * y)) st else st
def runP (vs : List Int) : List Tm → List Int → List Int
  | [], st => st
  | t :: r, st => runP vs r (stepP vs t st)
def evalP (ts : List Tm) (vs : List Int) : Option Int := if high vs.length ts 0 = some 1 then some ((runP vs ts []).headD 0) else none
theorem high_app (nv : Int) (a b : List Tm) (h : Nat) : high nv (a ++ b) h = (high nv a h).bind (high nv b) := by
  induction a generalizing h with
  | nil => rfl
  | cons t r ih =>
    simp only [List.cons_append, high]
    cases okT nv h t with
    | none => rfl
    | some h' => exact ih h'
theorem runP_app (vs : List Int) (a b : List Tm) (st : List Int) : runP vs (a ++ b) st = runP vs b (runP vs a st) := by
  induction a generalizing st with
  | nil => rfl
  | cons t r ih => exact ih _
theorem okT_up {nv : Int} {h h' : Nat} {t : Tm} (e : Nat) (hk : okT nv h t = some h') : okT nv (h + e) t = some (h' + e) := by
  unfold okT at hk ⊢
  cases ht : takesP t.k with
  | none => rw [ht] at hk; cases hk
  | some c =>
    rw [ht] at hk
    simp only at hk ⊢
    split at hk
    · rename_i hc
      rw [if_pos ⟨by omega, hc.2⟩]
      cases hk
      congr 1
      omega
    · cases hk
theorem high_up {nv : Int} {h h' : Nat} {ts : List Tm} (e : Nat) (hk : high nv ts h = some h') : high nv ts (h + e) = some (h' + e) := by
  induction ts generalizing h with
  | nil => cases hk; rfl
  | cons t r ih =>
    simp only [high] at hk ⊢
    cases ho : okT nv h t with
    | none => rw [ho] at hk; cases hk
    | some m =>
      rw [ho] at hk
      rw [okT_up e ho]
      exact ih hk
theorem takes_cases {k : Int} {c : Nat} (h : takesP k = some c) : (c = 2 ∧ (k = 3 ∨ k = 4 ∨ k = 5)) ∨ (c = 1 ∧ k = 6) ∨ (c = 0 ∧ (k = 1 ∨ k = 2)) := by
  unfold takesP at h
  split at h
  · cases h; exact Or.inl ⟨rfl, by assumption⟩
  · split at h
    · cases h; exact Or.inr (Or.inl ⟨rfl, by assumption⟩)
    · split at h
      · cases h; exact Or.inr (Or.inr ⟨rfl, by assumption⟩)
      · cases h
theorem takes_none {k : Int} (h : takesP k = none) : k ≠ 1 ∧ k ≠ 2 ∧ k ≠ 3 ∧ k ≠ 4 ∧ k ≠ 5 ∧ k ≠ 6 := by
  unfold takesP at h
  split at h
  · cases h
  · split at h
    · cases h
    · split at h
      · cases h
      · omega
/-- A term that may be done: what it does to a pile, however much lies below. -/
theorem step_ok (vs : List Int) {nv : Int} {t : Tm} {st : List Int} {h' : Nat} (h : okT nv st.length t = some h') (r : List Int) : (stepP vs t st).length = h' ∧ stepP vs t (st ++ r) = stepP vs t st ++ r := by
  unfold okT at h
  cases ht : takesP t.k with
  | none => rw [ht] at h; cases h
  | some c =>
    rw [ht] at h
    simp only at h
    split at h
    · rename_i hc
      cases h
      unfold stepP
      rcases takes_cases ht with ⟨rfl, hk⟩ | ⟨rfl, hk⟩ | ⟨rfl, hk⟩
      · match st, hc.1 with
        | y :: x :: s, _ =>
          rcases hk with hk | hk | hk <;> simp [hk, bin]
      · match st, hc.1 with
        | y :: s, _ => simp [hk, un]
      · rcases hk with hk | hk <;> simp [hk]
    · cases h
theorem run_ok (vs : List Int) {nv : Int} {ts : List Tm} {st : List Int} {h' : Nat} (h : high nv ts st.length = some h') (r : List Int) : (runP vs ts st).length = h' ∧ runP vs ts (st ++ r) = runP vs ts st ++ r := by
  induction ts generalizing st with
  | nil => cases h; exact ⟨rfl, rfl⟩
  | cons t ts ih =>
    simp only [high] at h
    cases ho : okT nv st.length t with
    | none => rw [ho] at h; cases h
    | some m =>
      rw [ho] at h
      obtain ⟨h1, h2⟩ := step_ok vs ho r
      simp only [runP, h2]
      exact ih (by rw [h1]; exact h)
theorem eval_some {ts : List Tm} {vs : List Int} {x : Int} (h : evalP ts vs = some x) : high vs.length ts 0 = some 1 ∧ runP vs ts [] = [x] := by
  unfold evalP at h
  split at h
  · rename_i hh
    refine ⟨hh, ?_⟩
    have hl := (run_ok vs (st := []) hh []).1
    match hr : runP vs ts [], hl with
    | [y], _ =>
      rw [hr] at h
      cases h
      rfl
  · cases h
theorem eval_none {ts : List Tm} {vs : List Int} (h : evalP ts vs = none) : high vs.length ts 0 ≠ some 1 := by
  unfold evalP at h
  split at h
  · cases h
  · assumption
theorem eval_of {ts : List Tm} {vs : List Int} {x : Int} (h : high vs.length ts 0 = some 1) (hr : runP vs ts [] = [x]) : evalP ts vs = some x := by
  unfold evalP
  rw [if_pos h, hr]
  rfl
theorem two_high {a b : List Tm} {vs : List Int} {x y : Int} (ha : evalP a vs = some x) (hb : evalP b vs = some y) : high vs.length (a ++ b) 0 = some 2 ∧ runP vs (a ++ b) [] = [y, x] := by
  obtain ⟨h1, h2⟩ := eval_some ha
  obtain ⟨h3, h4⟩ := eval_some hb
  rw [high_app, runP_app, h1, h2]
  refine ⟨high_up 1 h3, ?_⟩
  have := (run_ok vs (st := []) h3 [x]).2
  rw [List.nil_append] at this
  rw [this, h4]
  rfl
/-- Two, one behind the other: no reckoning. -/
theorem eval_two {a b : List Tm} {vs : List Int} {x y : Int} (ha : evalP a vs = some x) (hb : evalP b vs = some y) : evalP (a ++ b) vs = none := by
  unfold evalP
  rw [if_neg]
  rw [(two_high ha hb).1]
  simp
theorem eval_bin {a b : List Tm} {vs : List Int} {x y : Int} (ha : evalP a vs = some x) (hb : evalP b vs = some y) (k : Int) (hk : k = 3 ∨ k = 4 ∨ k = 5) : evalP (a ++ b ++ [⟨k, 0, 0⟩]) vs = some (if k = 4 then wrap64 (x - y) else if k = 5 then wrap64 (x * y) else wrap64 (x + y)) := by
  obtain ⟨h1, h2⟩ := two_high ha hb
  refine eval_of ?_ ?_
  · rw [high_app, h1]
    rcases hk with rfl | rfl | rfl <;> rfl
  · rw [runP_app, h2]
    rcases hk with rfl | rfl | rfl <;> rfl
theorem eval_un {a : List Tm} {vs : List Int} {x : Int} (ha : evalP a vs = some x) : evalP (a ++ [⟨6, 0, 0⟩]) vs = some (wrap64 (-x)) := by
  obtain ⟨h1, h2⟩ := eval_some ha
  refine eval_of ?_ ?_
  · rw [high_app, h1]; rfl
  · rw [runP_app, h2]; rfl
theorem sub_back (x y : Int) : wrap64 (wrap64 (-y) + x) = wrap64 (x - y) := by
  unfold wrap64
  omega
/-- One term more, of those that stand in a row. -/
theorem high_drop (nv : Int) (ts : List Tm) (j h : Nat) (hj : j < ts.length) : high nv (ts.drop j) h = (okT nv h (ts.getD j default)).bind (high nv (ts.drop (j + 1))) := by
  rw [List.drop_eq_getElem_cons hj, high]
  simp [List.getD, hj]
theorem run_take (vs : List Int) (ts : List Tm) (j : Nat) (hj : j < ts.length) : runP vs (ts.take (j + 1)) [] = stepP vs (ts.getD j default) (runP vs (ts.take j) []) := by
  rw [List.take_succ_eq_append_getElem hj, runP_app]
  simp [List.getD, hj, runP]
theorem high_end {nv : Int} {ts : List Tm} {h h' : Nat} (hk : high nv ts h = some h') : h' ≤ h + ts.length := by
  induction ts generalizing h with
  | nil => cases hk; simp
  | cons t r ih =>
    simp only [high] at hk
    cases ho : okT nv h t with
    | none => rw [ho] at hk; cases hk
    | some m =>
      rw [ho] at hk
      have := ih hk
      have hm : m ≤ h + 1 := by
        unfold okT at ho
        split at ho
        · cases ho
        · split at ho
          · cases ho; omega
          · cases ho
      simp only [List.length_cons]
      omega
end Go.Proofs.Ytgmkmpldlndboaa.Cd
