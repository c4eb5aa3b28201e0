import Derived.Shelf.Bytes.SlCountOne
namespace Go.Proofs.YtabbodbnjegllaaDoor
open Go.Lib
def lineF (xs : List Int) : Nat → Nat
  | 0 => 1
  | k + 1 => if xs.getD k 0 = 10 then lineF xs k + 1 else lineF xs k
def lastF (xs : List Int) : Nat → Int
  | 0 => -1
  | k + 1 => if xs.getD k 0 = 10 then (k : Int) else lastF xs k
theorem last_bd (xs : List Int) (k : Nat) : -1 ≤ lastF xs k ∧ lastF xs k < k := by
  induction k with
  | zero => simp [lastF]
  | succ k ih => unfold lastF; split <;> omega
theorem line_bd (xs : List Int) (k : Nat) : 1 ≤ lineF xs k ∧ lineF xs k ≤ k + 1 := by
  induction k with
  | zero => simp [lineF]
  | succ k ih => unfold lineF; split <;> omega
theorem line_mono (xs : List Int) (j d : Nat) : lineF xs j ≤ lineF xs (j + d) ∧ (lineF xs j = lineF xs (j + d) → lastF xs j = lastF xs (j + d)) := by
  induction d with
  | zero => simp
  | succ d ih =>
    rw [show j + (d + 1) = (j + d) + 1 from rfl, lineF, lastF]
    split
    · exact ⟨by omega, fun h => by omega⟩
    · exact ih
theorem places (xs : List Int) (j k : Nat) (h : j < k) : lineF xs j < lineF xs k ∨ (lineF xs j = lineF xs k ∧ (j : Int) - lastF xs j < k - lastF xs k) := by
  obtain ⟨d, rfl⟩ : ∃ d, k = j + d := ⟨k - j, by omega⟩
  have := line_mono xs j d
  rcases Nat.lt_or_ge (lineF xs j) (lineF xs (j + d)) with h1 | h1
  · exact Or.inl h1
  · have e : lineF xs j = lineF xs (j + d) := by omega
    exact Or.inr ⟨e, by have := this.2 e; omega⟩
theorem count_line (xs : List Int) (hr : ∀ i, 0 ≤ xs.getD i 0 ∧ xs.getD i 0 < 256) (k : Nat) (hk : k ≤ xs.length) :
    1 + ((countByte (bytesOf (xs.take k)) (10 : Int).toNat.toUInt8 : Nat) : Int) = lineF xs k := by
  induction k with
  | zero => rfl
  | succ k ih =>
    have ih := ih (by omega)
    have ht : xs.take (k + 1) = xs.take k ++ [xs.getD k 0] := by
      rw [List.take_succ_eq_append_getElem (by omega)]
      simp [List.getD, List.getElem?_eq_getElem (show k < xs.length by omega)]
    rw [ht, lineF]
    obtain ⟨h0, h1⟩ := hr k
    generalize xs.getD k 0 = c at h0 h1
    have hb : ∀ l : List Int, bytesOf (l ++ [c]) = bytesOf l ++ [c.toNat.toUInt8] := by intro l; simp [bytesOf]
    have hcb : ∀ l : List UInt8, ∀ x y : UInt8, countByte (l ++ [x]) y = countByte l y + if x = y then 1 else 0 := by
      intro l x y
      simp only [countByte, List.count_append, List.count_singleton]
      by_cases h : x = y <;> simp [h]
    rw [hb, hcb]
    have : c.toNat.toUInt8 = (10 : Int).toNat.toUInt8 ↔ c = 10 := by
      constructor
      · intro h
        have := congrArg UInt8.toNat h
        simp at this
        omega
      · rintro rfl; rfl
    by_cases h : c = 10
    · rw [if_pos (this.2 h), if_pos h]; omega
    · rw [if_neg (fun h' => h (this.1 h')), if_neg h]; omega
end Go.Proofs.YtabbodbnjegllaaDoor
