import Derived.Test.YtfboifbpbjmcbaaPzW
namespace Go.Proofs.Ytfboifbpbjmcbaa.Pz
/-! The document's own answers, and that they are the program's. -/
/-- The reference's units, of the first k. -/
def rUnitsTo (ops : List Int) (way : Int) : Nat → Nat × List (Nat × Nat)
  | 0 => (0, [])
  | k + 1 => if way = 1 ∧ ops.getD k 0 = 15 then (k + 1, (rUnitsTo ops way k).2 ++ [((rUnitsTo ops way k).1, k + 1)]) else rUnitsTo ops way k
def rUnitsP (ops : List Int) (way : Int) : List (Nat × Nat) := if (rUnitsTo ops way ops.length).1 < ops.length then (rUnitsTo ops way ops.length).2 ++ [((rUnitsTo ops way ops.length).1, ops.length)] else (rUnitsTo ops way ops.length).2
theorem rUnits_to (ops : List Int) (way : Int) (k : Nat) (hk : k < ops.length) : rUnitsTo ops way k = unitsTo ops way k := by
  induction k with
  | zero => rfl
  | succ k ih =>
    have ih := ih (by omega)
    by_cases h : way = 1 ∧ ops.getD k 0 = 15
    · have he : isEnd ops way k = true := by simp [isEnd, h.1]; exact Or.inr (by simpa using h.2)
      rw [unitsTo_yes he, rUnitsTo, if_pos h, ih]
    · have he : isEnd ops way k = false := by
        simp only [isEnd, Bool.not_eq_false', Bool.and_eq_true, decide_eq_true_eq, Bool.not_eq_true', Bool.and_eq_false_iff, decide_eq_false_iff_not]
        refine ⟨by omega, ?_⟩
        by_cases h1 : way = 1
        · exact Or.inr (fun h2 => h ⟨h1, h2⟩)
        · exact Or.inl h1
      rw [unitsTo_no he, rUnitsTo, if_neg h, ih]
theorem rUnits_eq (ops : List Int) (way : Int) : rUnitsP ops way = unitsP ops way := by
  unfold rUnitsP unitsP
  cases hn : ops.length with
  | zero => rfl
  | succ n =>
    have h1 := rUnits_to ops way n (by omega)
    have he := unitsTo_yes (isEnd_last ops way n (by omega))
    have hf := unitsTo_from ops way n
    rw [he]
    by_cases h : way = 1 ∧ ops.getD n 0 = 15
    · rw [rUnitsTo, if_pos h, h1, if_neg (by simp)]
    · rw [rUnitsTo, if_neg h, h1, if_pos (by omega)]
/-- Which Pieces the reference drops, of the first k: their number, and whether each place is one. -/
def goneTo (ops drop : List Int) : Nat → Nat × List Bool
  | 0 => (0, [])
  | k + 1 => if ops.getD k 0 = 15 then ((goneTo ops drop k).1 + 1, (goneTo ops drop k).2 ++ [drop.any fun y => y == ((goneTo ops drop k).1 : Nat)]) else ((goneTo ops drop k).1, (goneTo ops drop k).2 ++ [false])
theorem goneTo_len (ops drop : List Int) (k : Nat) : (goneTo ops drop k).2.length = k := by
  induction k with
  | zero => rfl
  | succ k ih => simp only [goneTo]; split <;> simp [ih]
theorem goneTo_num (ops drop : List Int) (k : Nat) : (goneTo ops drop k).1 = (placesTo ops drop k).1 := by
  induction k with
  | zero => rfl
  | succ k ih => simp only [goneTo, placesTo]; split <;> simp [ih]
theorem goneTo_places (ops drop : List Int) (k : Nat) : ∀ j : Nat, j < k → ((goneTo ops drop k).2.getD j false = true ↔ (j : Int) ∈ (placesTo ops drop k).2) := by
  induction k with
  | zero => intro j hj; omega
  | succ k ih =>
    intro j hj
    have hl := goneTo_len ops drop k
    have hp := placesTo_lt ops drop k
    have hnk : ((k : Nat) : Int) ∉ (placesTo ops drop k).2 := fun h => by have := hp _ h; omega
    by_cases hjk : j < k
    · have e : ∀ b, ((goneTo ops drop k).2 ++ [b]).getD j false = (goneTo ops drop k).2.getD j false := fun b => by
        simp [List.getD, List.getElem?_append_left (show j < (goneTo ops drop k).2.length by omega)]
      have hji : (j : Int) ≠ k := by omega
      simp only [goneTo, placesTo]
      split
      · simp only [e]
        rw [ih j hjk]
        split
        · rw [List.mem_append]
          exact ⟨Or.inl, fun h => h.elim id (fun h => absurd (List.mem_singleton.1 h) hji)⟩
        · rfl
      · simp only [e]
        exact ih j hjk
    · obtain rfl : j = k := by omega
      have e : ∀ b, ((goneTo ops drop j).2 ++ [b]).getD j false = b := fun b => by
        unfold List.getD
        rw [List.getElem?_append_right (by omega), hl, Nat.sub_self]
        rfl
      simp only [goneTo, placesTo]
      split
      · simp only [e]
        rw [goneTo_num, List.any_eq_true]
        by_cases h : ((placesTo ops drop j).1 : Int) ∈ drop
        · rw [if_pos h]
          exact ⟨fun _ => by simp, fun _ => ⟨_, h, by simp⟩⟩
        · rw [if_neg h]
          constructor
          · rintro ⟨y, hy, h2⟩
            rw [show y = ((placesTo ops drop j).1 : Int) by simpa using h2] at hy
            exact absurd hy h
          · intro h2
            exact absurd h2 hnk
      · simp only [e]
        constructor
        · intro h; cases h
        · intro h; exact absurd h hnk
theorem places_mono (ops drop : List Int) (k d : Nat) (x : Int) (h : x ∈ (placesTo ops drop k).2) : x ∈ (placesTo ops drop (k + d)).2 := by
  induction d with
  | zero => exact h
  | succ d ih =>
    rw [← Nat.add_assoc]
    simp only [placesTo]
    split
    · split
      · exact List.mem_append.2 (Or.inl ih)
      · exact ih
    · exact ih
theorem places_new (ops drop : List Int) (j k : Nat) (hjk : j < k) (h : ((j : Nat) : Int) ∈ (placesTo ops drop k).2) : (j : Int) ∈ (placesTo ops drop (j + 1)).2 := by
  induction k with
  | zero => omega
  | succ k ih =>
    by_cases hj : j < k
    · apply ih hj
      have hne : (j : Int) ≠ k := by omega
      simp only [placesTo] at h
      split at h
      · split at h
        · rcases List.mem_append.1 h with h | h
          · exact h
          · simp at h; omega
        · exact h
      · exact h
    · obtain rfl : j = k := by omega
      exact h
theorem low_step (ops drop : List Int) (k : Nat) (t : Int) : lowP (placesTo ops drop (k + 1)).2 t = lowP (placesTo ops drop k).2 t + (if (k : Int) ∈ (placesTo ops drop (k + 1)).2 ∧ (k : Int) < t then 1 else 0) := by
  have hp : ((k : Nat) : Int) ∉ (placesTo ops drop k).2 := fun h => by have := placesTo_lt ops drop k _ h; omega
  have hcase : (placesTo ops drop (k + 1)).2 = (placesTo ops drop k).2 ∨ (placesTo ops drop (k + 1)).2 = (placesTo ops drop k).2 ++ [(k : Int)] := by
    simp only [placesTo]
    split
    · split
      · exact Or.inr rfl
      · exact Or.inl rfl
    · exact Or.inl rfl
  rcases hcase with e | e
  · rw [e, if_neg (fun h => hp h.1)]; rfl
  · rw [e]
    unfold lowP
    rw [List.filter_append, List.length_append]
    by_cases ht : (k : Int) < t
    · rw [if_pos ⟨by simp, ht⟩]; simp [ht]
    · rw [if_neg (fun h => ht h.2)]; simp [ht]
/-- How many of the first j are gone. -/
def cntTo (gone : List Bool) : Nat → Nat
  | 0 => 0
  | k + 1 => if gone.getD k false = true then cntTo gone k + 1 else cntTo gone k
theorem cnt_le (gone : List Bool) (j : Nat) : cntTo gone j ≤ j := by
  induction j with
  | zero => simp [cntTo]
  | succ j ih => simp only [cntTo]; split <;> omega
theorem cnt_low (ops drop : List Int) (gone : List Bool) (n : Nat) (hg : ∀ j : Nat, j < n → (gone.getD j false = true ↔ (j : Int) ∈ (placesTo ops drop n).2)) (t : Int) (j : Nat) (hj : j ≤ n) (h1 : ∀ i : Nat, i < j → (i : Int) < t) : cntTo gone j = lowP (placesTo ops drop j).2 t := by
  induction j with
  | zero => rfl
  | succ j ih =>
    have ih := ih (by omega) (fun i hi => h1 i (by omega))
    rw [low_step, ← ih, cntTo]
    have hm : gone.getD j false = true ↔ (j : Int) ∈ (placesTo ops drop (j + 1)).2 := by
      rw [hg j (by omega)]
      constructor
      · exact places_new ops drop j n (by omega)
      · intro h
        have := places_mono ops drop (j + 1) (n - (j + 1)) _ h
        rwa [show j + 1 + (n - (j + 1)) = n by omega] at this
    by_cases h : gone.getD j false = true
    · rw [if_pos h, if_pos ⟨hm.1 h, h1 j (by omega)⟩]
    · rw [if_neg h, if_neg (fun h2 => h (hm.2 h2.1))]; rfl
theorem low_stop (ops drop : List Int) (t : Int) (j d : Nat) (h : t ≤ j) : lowP (placesTo ops drop (j + d)).2 t = lowP (placesTo ops drop j).2 t := by
  induction d with
  | zero => rfl
  | succ d ih => rw [← Nat.add_assoc, low_step, ih, if_neg (fun h2 => by have := h2.2; omega)]; rfl
theorem cnt_end (ops drop : List Int) (gone : List Bool) (hg : ∀ j : Nat, j < ops.length → (gone.getD j false = true ↔ (j : Int) ∈ placesP ops drop)) (t : Int) (j : Nat) (hj : j ≤ ops.length) (h1 : ∀ i : Nat, i < j → (i : Int) < t) (h2 : j = ops.length ∨ t ≤ j) : cntTo gone j = lowP (placesP ops drop) t := by
  rw [cnt_low ops drop gone ops.length hg t j hj h1]
  unfold placesP
  rcases h2 with rfl | h2
  · rfl
  · have := low_stop ops drop t j (ops.length - j) h2
    rw [show j + (ops.length - j) = ops.length by omega] at this
    exact this.symm
theorem found_mem (xs : List Int) (hs : xs.Pairwise (· < ·)) (t : Int) : foundP xs t = decide (t ∈ xs) := by
  by_cases h : t ∈ xs
  · rw [decide_eq_true h]
    obtain ⟨a, ha, rfl⟩ := List.getElem_of_mem h
    have hmono : ∀ i j, i < j → (hj : j < xs.length) → xs.getD i 0 < xs.getD j 0 := fun i j hij hj => by
      have := List.pairwise_iff_getElem.1 hs i j (by omega) hj hij
      simpa [List.getD, show i < xs.length by omega, hj] using this
    have ea : xs.getD a 0 = xs[a] := by simp [List.getD, ha]
    have hl : lowP xs xs[a] = a := low_of xs _ a (by omega) (fun i hi => by rw [← ea]; exact hmono i a hi ha) (fun b hb hbl => by
      rcases Nat.lt_or_ge a b with h1 | h1
      · have := hmono a b h1 hbl; rw [ea] at this; omega
      · obtain rfl : b = a := by omega
        rw [ea]; omega)
    unfold foundP
    rw [hl, ea]
    simp [ha]
  · rw [decide_eq_false h]
    unfold foundP
    cases hd : decide (lowP xs t < xs.length) with
    | false => rfl
    | true =>
      have hlt : lowP xs t < xs.length := by simpa using hd
      have : xs.getD (lowP xs t) 0 ≠ t := fun e => h (by rw [← e]; simp [List.getD, hlt])
      simpa using this
theorem gone_found (ops drop : List Int) (i : Nat) (hi : i < ops.length) : (goneTo ops drop ops.length).2.getD i false = foundP (placesP ops drop) i := by
  have h1 := goneTo_places ops drop ops.length i hi
  rw [show foundP (placesP ops drop) i = decide ((i : Int) ∈ placesP ops drop) from found_mem _ (placesTo_rise ops drop _) _]
  cases h : (goneTo ops drop ops.length).2.getD i false with
  | true => exact (decide_eq_true (show ((i : Nat) : Int) ∈ placesP ops drop from h1.1 h)).symm
  | false => exact (decide_eq_false (show ¬ ((i : Nat) : Int) ∈ placesP ops drop from fun h2 => by rw [h1.2 h2] at h; cases h)).symm
end Go.Proofs.Ytfboifbpbjmcbaa.Pz
