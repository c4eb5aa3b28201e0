/- Contracts on the way to the laws of layer 5: TreeM, LexM, TreeS, TreeN, ParseM, ParseN, ParseO, LexK. -/
import Derived.WalkKit
import Derived.Handy
import Derived.Lib.Hide
import Derived.Lib.ConvBytes
import Derived.Below
import Derived.Deep.QuietTactic
set_option linter.all false
section
namespace Go.Proofs.YtpemghcafbedeaaGreatDoor.Tr
def Chain (S : Nat → Nat) (n : Nat) : List Int → Nat → Nat → Prop
  | [], a, e => a = e
  | k :: ks, a, e => k = (a : Int) ∧ a < n ∧ Chain S n ks (a + S a) e
def stepS (s : List Nat) (b : Nat) : List Int → Nat → Option Nat
  | [], a => some a
  | k :: ks, a => if k = (a : Int) ∧ a < b + s.length then stepS s b ks (a + s.getD (a - b) 0) else none
def sizesL : List (List Int) → Nat → Option (List Nat)
  | [], _ => some []
  | r :: rs, i => match sizesL rs (i + 1) with
    | none => none
    | some s => match stepS s (i + 1) r (i + 1) with
      | none => none
      | some e => some ((e - i) :: s)
def endK (K : Nat → List Int) (n : Nat) : Nat → Nat → Int
  | 0, _ => -1
  | f + 1, i => if n ≤ i then -1 else (K i).foldl (fun a k => if a < 0 ∨ (n : Int) ≤ a ∨ k ≠ a then -1 else endK K n f a.toNat) ((i : Int) + 1)
structure RightSz (K : Nat → List Int) (S : Nat → Nat) (n : Nat) : Prop where
  chain : ∀ i, i < n → Chain S n (K i) (i + 1) (i + S i)
theorem chain_mono {S : Nat → Nat} {n : Nat} (ks : List Int) (a e : Nat) (hS : ∀ i, a ≤ i → i < n → 1 ≤ S i ∧ i + S i ≤ n) (ha : a ≤ n) (h : Chain S n ks a e) : a ≤ e ∧ e ≤ n := by
  induction ks generalizing a with
  | nil => obtain rfl : a = e := h; omega
  | cons k ks ih =>
    obtain ⟨_, h2, h3⟩ := h
    have h4 := hS a (Nat.le_refl _) h2
    have := ih (a + S a) (fun i hi hn => hS i (by omega) hn) h4.2 h3
    omega
theorem RightSz.size {K : Nat → List Int} {S : Nat → Nat} {n : Nat} (h : RightSz K S n) : ∀ i, i < n → 1 ≤ S i ∧ i + S i ≤ n := by
  have : ∀ d i, n - i = d → i < n → 1 ≤ S i ∧ i + S i ≤ n := by
    intro d
    induction d using Nat.strongRecOn with
    | ind d ih =>
      intro i hd hi
      have := chain_mono (K i) (i + 1) (i + S i) (fun j hj hn => ih (n - j) (by omega) j rfl hn) (by omega) (h.chain i hi)
      omega
  exact fun i hi => this _ i rfl hi
theorem chain_kid {S : Nat → Nat} {n : Nat} (ks : List Int) (a e : Nat) (hS : ∀ i, i < n → 1 ≤ S i ∧ i + S i ≤ n) (ha : a ≤ n) (h : Chain S n ks a e) : ∀ k, k ∈ ks → ∃ j : Nat, k = (j : Int) ∧ a ≤ j ∧ j + S j ≤ e ∧ j < n := by
  induction ks generalizing a with
  | nil => intro k hk; simp at hk
  | cons x ks ih =>
    obtain ⟨h1, h2, h3⟩ := h
    have h4 := hS a h2
    have h5 := chain_mono ks _ e (fun i _ hn => hS i hn) h4.2 h3
    intro k hk
    rcases List.mem_cons.1 hk with rfl | hk
    · exact ⟨a, h1, Nat.le_refl _, by omega, h2⟩
    · obtain ⟨j, e1, e2, e3, e4⟩ := ih (a + S a) h4.2 h3 k hk
      exact ⟨j, e1, by omega, e3, e4⟩
theorem RightSz.kid {K : Nat → List Int} {S : Nat → Nat} {n : Nat} (h : RightSz K S n) {i : Nat} (hi : i < n) {k : Int} (hk : k ∈ K i) : ∃ j : Nat, k = (j : Int) ∧ i < j ∧ j + S j ≤ i + S i ∧ j < n := by
  obtain ⟨j, h1, h2, h3, h4⟩ := chain_kid (K i) (i + 1) (i + S i) h.size (by omega) (h.chain i hi) k hk
  exact ⟨j, h1, by omega, h3, h4⟩
def cnt (K : Nat → List Int) (j : Nat) (a : Nat) : Nat → Nat
  | 0 => 0
  | d + 1 => cnt K j a d + (K (a + d)).count (j : Int)
theorem cnt_add (K : Nat → List Int) (j a x y : Nat) : cnt K j a (x + y) = cnt K j a x + cnt K j (a + x) y := by
  induction y with
  | zero => simp [cnt]
  | succ y ih =>
    rw [← Nat.add_assoc, cnt, ih, cnt, Nat.add_assoc a x y]
    omega
theorem RightSz.count {K : Nat → List Int} {S : Nat → Nat} {n : Nat} (h : RightSz K S n) (j : Nat) : ∀ i, i < n → cnt K j i (S i) = if i < j ∧ j < i + S i then 1 else 0 := by
  have hS := h.size
  have main : ∀ d i, n - i = d → i < n → cnt K j i (S i) = if i < j ∧ j < i + S i then 1 else 0 := by
    intro d
    induction d using Nat.strongRecOn with
    | ind d ih =>
      intro i hd hi
      have key : ∀ (ks : List Int) (a e : Nat), i < a → a ≤ n → Chain S n ks a e → ks.count (j : Int) + cnt K j a (e - a) = if a ≤ j ∧ j < e then 1 else 0 := by
        intro ks
        induction ks with
        | nil =>
          intro a e _ _ h
          obtain rfl : a = e := h
          simp [cnt]
        | cons k ks ihk =>
          intro a e ha hn hc
          obtain ⟨h1, h2, h3⟩ := hc
          have h4 := hS a h2
          have h5 := chain_mono ks _ e (fun i _ hn => hS i hn) h4.2 h3
          have h6 := ihk (a + S a) e (by omega) h4.2 h3
          have h7 := ih (n - a) (by omega) a rfl h2
          have e1 : e - a = S a + (e - (a + S a)) := by omega
          have h8 : (a = j ∧ (k :: ks).count (j : Int) = ks.count (j : Int) + 1) ∨ (a ≠ j ∧ (k :: ks).count (j : Int) = ks.count (j : Int)) := by
            rw [List.count_cons, h1]
            by_cases hj : a = j
            · exact Or.inl ⟨hj, by simp [hj]⟩
            · have : ((a : Int) == (j : Int)) = false := by simp only [beq_eq_false_iff_ne]; omega
              exact Or.inr ⟨hj, by simp [this]⟩
          have h9 : (a < j ∧ j < a + S a) ∧ cnt K j a (S a) = 1 ∨ ¬ (a < j ∧ j < a + S a) ∧ cnt K j a (S a) = 0 := by
            rw [h7]
            by_cases hp : a < j ∧ j < a + S a
            · exact Or.inl ⟨hp, if_pos hp⟩
            · exact Or.inr ⟨hp, if_neg hp⟩
          have h10 : (a + S a ≤ j ∧ j < e) ∧ ks.count (j : Int) + cnt K j (a + S a) (e - (a + S a)) = 1 ∨ ¬ (a + S a ≤ j ∧ j < e) ∧ ks.count (j : Int) + cnt K j (a + S a) (e - (a + S a)) = 0 := by
            rw [h6]
            by_cases hp : a + S a ≤ j ∧ j < e
            · exact Or.inl ⟨hp, if_pos hp⟩
            · exact Or.inr ⟨hp, if_neg hp⟩
          have h11 : cnt K j a (e - a) = cnt K j a (S a) + cnt K j (a + S a) (e - (a + S a)) := by rw [e1, cnt_add]
          rw [h11]
          by_cases hp : a ≤ j ∧ j < e
          · rw [if_pos hp]; omega
          · rw [if_neg hp]; omega
      have h1 := key (K i) (i + 1) (i + S i) (by omega) (by omega) (h.chain i hi)
      have h2 := hS i hi
      have e1 : S i = 1 + (i + S i - (i + 1)) := by omega
      rw [e1, cnt_add]
      have e2 : cnt K j i 1 = (K i).count (j : Int) := by simp [cnt]
      rw [e2, h1]
      by_cases h3 : i + 1 ≤ j ∧ j < i + S i
      · rw [if_pos h3, if_pos (by omega)]
      · rw [if_neg h3, if_neg (by omega)]
  exact fun i hi => main _ i rfl hi
theorem cnt_pos {K : Nat → List Int} {j a x : Nat} {d : Nat} (hx : x < d) (h : (j : Int) ∈ K (a + x)) : 1 ≤ cnt K j a d := by
  induction d with
  | zero => omega
  | succ d ih =>
    simp only [cnt]
    by_cases e : x = d
    · subst e
      have := List.count_pos_iff.2 h
      omega
    · have := ih (by omega); omega
theorem cnt_two {K : Nat → List Int} {j a x y d : Nat} (hxy : x < y) (hy : y < d) (h1 : (j : Int) ∈ K (a + x)) (h2 : (j : Int) ∈ K (a + y)) : 2 ≤ cnt K j a d := by
  have e : d = y + (d - y) := by omega
  rw [e, cnt_add]
  have := cnt_pos (a := a) hxy h1
  have := cnt_pos (K := K) (j := j) (a := a + y) (x := 0) (d := d - y) (by omega) (by simpa using h2)
  omega
theorem RightSz.one {K : Nat → List Int} {S : Nat → Nat} {n : Nat} (h : RightSz K S n) (h0 : S 0 = n) {x y j : Nat} (hx : x < n) (hy : y < n) (h1 : (j : Int) ∈ K x) (h2 : (j : Int) ∈ K y) : x = y := by
  have hc := h.count j 0 (by omega)
  rw [h0] at hc
  rcases Nat.lt_trichotomy x y with hlt | he | hlt
  · have := cnt_two (K := K) (a := 0) hlt hy (by simpa using h1) (by simpa using h2)
    split at hc <;> omega
  · exact he
  · have := cnt_two (K := K) (a := 0) hlt hx (by simpa using h2) (by simpa using h1)
    split at hc <;> omega
theorem RightSz.ahead {K : Nat → List Int} {S : Nat → Nat} {n : Nat} (h : RightSz K S n) (h0 : S 0 = n) (j : Nat) (hj : 0 < j) (hn : j < n) : cnt K j 0 (j + 1) = 1 := by
  have hc := h.count j 0 (by omega)
  rw [h0, if_pos (by omega)] at hc
  have e : n = (j + 1) + (n - (j + 1)) := by omega
  rw [e, cnt_add] at hc
  have hz : ∀ d, j + 1 + d ≤ n → cnt K j (0 + (j + 1)) d = 0 := by
    intro d
    induction d with
    | zero => intro _; rfl
    | succ d ih =>
      intro hd
      simp only [cnt]
      rw [ih (by omega)]
      have : (K (0 + (j + 1) + d)).count (j : Int) = 0 := by
        rw [List.count_eq_zero]
        intro hm
        obtain ⟨q, e1, e2, _, _⟩ := h.kid (by omega) hm
        omega
      omega
  rw [hz _ (by omega)] at hc
  omega
/-! The program's way: from the last node to the first. -/
theorem stepS_chain (s : List Nat) (b n : Nat) (S : Nat → Nat) (hn : n = b + s.length) (hS : ∀ i, b ≤ i → i < n → S i = s.getD (i - b) 0) (ks : List Int) (a : Nat) (ha : b ≤ a) (e : Nat) : stepS s b ks a = some e ↔ Chain S n ks a e := by
  induction ks generalizing a with
  | nil => simp [stepS, Chain]
  | cons k ks ih =>
    simp only [stepS, Chain]
    by_cases h : k = (a : Int) ∧ a < b + s.length
    · rw [if_pos h, ← hS a ha (by omega), ih (a + S a) (by omega)]
      constructor
      · exact fun hc => ⟨h.1, by omega, hc⟩
      · exact fun hc => hc.2.2
    · rw [if_neg h]
      constructor
      · intro hc; simp at hc
      · intro hc; exact absurd ⟨hc.1, by omega⟩ h
theorem sizesL_len : ∀ (rows : List (List Int)) (i : Nat) (s : List Nat), sizesL rows i = some s → s.length = rows.length := by
  intro rows
  induction rows with
  | nil => intro i s h; simp [sizesL] at h; subst h; rfl
  | cons r rs ih =>
    intro i s h
    simp only [sizesL] at h
    split at h
    · simp at h
    · rename_i s1 h1
      split at h
      · simp at h
      · simp at h; subst h; simp [ih _ _ h1]
theorem sizesL_some : ∀ (rows : List (List Int)) (b : Nat) (s : List Nat), sizesL rows b = some s → ∀ x, x < rows.length → Chain (fun i => s.getD (i - b) 0) (b + rows.length) (rows.getD x []) (b + x + 1) (b + x + s.getD x 0) := by
  intro rows
  induction rows with
  | nil => intro b s _ x hx; simp at hx
  | cons r rs ih =>
    intro b s h x hx
    simp only [sizesL] at h
    split at h
    · simp at h
    · rename_i s1 h1
      have hl := sizesL_len _ _ _ h1
      split at h
      · simp at h
      · rename_i e h2
        simp at h; subst h
        cases x with
        | zero =>
          have := (stepS_chain s1 (b + 1) (b + (r :: rs).length) (fun i => ((e - b) :: s1).getD (i - b) 0) (by simp; omega) (fun i h3 h4 => by
            have e1 : i - b = (i - (b + 1)) + 1 := by omega
            simp only [e1, List.getD_cons_succ]) r (b + 1) (Nat.le_refl _) e).1 h2
          have he : b + 1 ≤ e := by
            clear this
            have : ∀ (ks : List Int) (a : Nat), stepS s1 (b + 1) ks a = some e → a ≤ e := by
              intro ks
              induction ks with
              | nil => intro a h; simp [stepS] at h; omega
              | cons k ks ihk =>
                intro a h
                simp only [stepS] at h
                split at h
                · have := ihk _ h; omega
                · simp at h
            exact this r _ h2
          have e2 : b + 0 + ((e - b) :: s1).getD 0 0 = e := by simp; omega
          rw [e2]
          simpa using this
        | succ x =>
          have := ih (b + 1) s1 h1 x (by simpa using hx)
          have e1 : b + (x + 1) + ((e - b) :: s1).getD (x + 1) 0 = b + 1 + x + s1.getD x 0 := by simp; omega
          rw [e1, List.getD_cons_succ]
          have e2 : b + (x + 1) + 1 = b + 1 + x + 1 := by omega
          rw [e2]
          have e3 : b + (r :: rs).length = b + 1 + rs.length := by simp; omega
          rw [e3]
          have congr : ∀ (ks : List Int) (a e' : Nat), b + 1 ≤ a → Chain (fun i => s1.getD (i - (b + 1)) 0) (b + 1 + rs.length) ks a e' → Chain (fun i => ((e - b) :: s1).getD (i - b) 0) (b + 1 + rs.length) ks a e' := by
            intro ks
            induction ks with
            | nil => intro a e' _ h; exact h
            | cons k ks ihk =>
              intro a e' ha h
              obtain ⟨p1, p2, p3⟩ := h
              have e4 : ((e - b) :: s1).getD (a - b) 0 = s1.getD (a - (b + 1)) 0 := by
                have : a - b = (a - (b + 1)) + 1 := by omega
                rw [this, List.getD_cons_succ]
              refine ⟨p1, p2, ?_⟩
              simp only [e4]
              exact ihk _ _ (by omega) p3
          exact congr _ _ _ (by omega) this
theorem sizesL_right {rows : List (List Int)} {s : List Nat} (h : sizesL rows 0 = some s) : RightSz (fun i => rows.getD i []) (fun i => s.getD i 0) rows.length where
  chain := fun i hi => by
    have := sizesL_some rows 0 s h i hi
    simpa using this
theorem right_sizesL : ∀ (rows : List (List Int)) (b : Nat) (S : Nat → Nat), (∀ x, x < rows.length → Chain S (b + rows.length) (rows.getD x []) (b + x + 1) (b + x + S (b + x))) → ∃ s, sizesL rows b = some s ∧ ∀ x, x < rows.length → s.getD x 0 = S (b + x) := by
  intro rows
  induction rows with
  | nil => intro b S _; exact ⟨[], rfl, fun x hx => by simp at hx⟩
  | cons r rs ih =>
    intro b S h
    have e3 : b + (r :: rs).length = b + 1 + rs.length := by simp; omega
    obtain ⟨s, hs, hv⟩ := ih (b + 1) S (fun x hx => by
      have := h (x + 1) (by simpa using hx)
      rw [e3, List.getD_cons_succ] at this
      have e2 : b + (x + 1) + 1 = b + 1 + x + 1 := by omega
      have e1 : b + (x + 1) = b + 1 + x := by omega
      rw [e1] at this
      exact this)
    have hl := sizesL_len _ _ _ hs
    have h0 := h 0 (by simp)
    rw [e3] at h0
    simp only [List.getD_cons_zero, Nat.add_zero] at h0
    have h1 := (stepS_chain s (b + 1) (b + 1 + rs.length) S (by omega) (fun i h3 h4 => by
      rw [hv (i - (b + 1)) (by omega)]
      congr 1; omega) r (b + 1) (Nat.le_refl _) (b + S b)).2 h0
    refine ⟨(b + S b - b) :: s, by simp only [sizesL, hs, h1], fun x hx => ?_⟩
    cases x with
    | zero => simp
    | succ x =>
      rw [List.getD_cons_succ, hv x (by simpa using hx)]
      congr 1; omega
/-! The reference's way. -/
theorem endK_range (K : Nat → List Int) (n : Nat) : ∀ f i, endK K n f i = -1 ∨ ((i : Int) < endK K n f i ∧ i < n) := by
  intro f
  induction f with
  | zero => intro i; exact Or.inl rfl
  | succ f ih =>
    intro i
    simp only [endK]
    by_cases h : n ≤ i
    · rw [if_pos h]; exact Or.inl rfl
    · rw [if_neg h]
      have key : ∀ (ks : List Int) (a : Int), (a = -1 ∨ (i : Int) < a) → let r := ks.foldl (fun a k => if a < 0 ∨ (n : Int) ≤ a ∨ k ≠ a then -1 else endK K n f a.toNat) a; r = -1 ∨ (i : Int) < r := by
        intro ks
        induction ks with
        | nil => intro a ha; exact ha
        | cons k ks ihk =>
          intro a ha
          simp only [List.foldl_cons]
          apply ihk
          split
          · exact Or.inl rfl
          · rename_i hc
            rcases ih a.toNat with h1 | h1
            · exact Or.inl h1
            · right
              have : (a.toNat : Int) = a := Int.toNat_of_nonneg (by omega)
              omega
      rcases key (K i) ((i : Int) + 1) (Or.inr (by omega)) with h1 | h1
      · exact Or.inl h1
      · exact Or.inr ⟨h1, by omega⟩
theorem endK_fold_neg (K : Nat → List Int) (n f : Nat) (ks : List Int) : ks.foldl (fun a k => if a < 0 ∨ (n : Int) ≤ a ∨ k ≠ a then -1 else endK K n f a.toNat) (-1) = -1 := by
  induction ks with
  | nil => rfl
  | cons k ks ih => simp only [List.foldl_cons]; rw [if_pos (Or.inl (by omega))]; exact ih
theorem RightSz.endK {K : Nat → List Int} {S : Nat → Nat} {n : Nat} (h : RightSz K S n) : ∀ f i, i < n → n ≤ i + f → endK K n f i = ((i + S i : Nat) : Int) := by
  have hS := h.size
  intro f
  induction f with
  | zero => intro i h1 h2; omega
  | succ f ih =>
    intro i h1 h2
    simp only [Go.Proofs.YtpemghcafbedeaaGreatDoor.Tr.endK]
    rw [if_neg (by omega)]
    have key : ∀ (ks : List Int) (a e : Nat), i < a → a ≤ n → Chain S n ks a e → ks.foldl (fun a k => if a < 0 ∨ (n : Int) ≤ a ∨ k ≠ a then -1 else Go.Proofs.YtpemghcafbedeaaGreatDoor.Tr.endK K n f a.toNat) (a : Int) = (e : Int) := by
      intro ks
      induction ks with
      | nil => intro a e _ _ h; obtain rfl : a = e := h; rfl
      | cons k ks ihk =>
        intro a e ha hn hc
        obtain ⟨p1, p2, p3⟩ := hc
        have := hS a p2
        simp only [List.foldl_cons]
        rw [if_neg (by omega), Int.toNat_natCast, ih a p2 (by omega)]
        exact ihk _ _ (by omega) (by omega) p3
    have := key (K i) (i + 1) (i + S i) (by omega) (by omega) (h.chain i h1)
    simpa using this
theorem fold_good (K : Nat → List Int) (n f i : Nat) (hf : ∀ a : Nat, i < a → endK K n f a = endK K n n a) (hr : ∀ a : Nat, i < a → endK K n n a = -1 ∨ ((a : Int) < endK K n n a ∧ a < n)) :
    ∀ (ks : List Int) (a e : Nat), i < a → ks.foldl (fun a k => if a < 0 ∨ (n : Int) ≤ a ∨ k ≠ a then -1 else endK K n f a.toNat) (a : Int) = (e : Int) →
      Chain (fun x => (endK K n n x).toNat - x) n ks a e ∧ ∀ j, a ≤ j → j < e → ∃ x e', a ≤ x ∧ x ≤ j ∧ j < e' ∧ x < n ∧ endK K n n x = ((e' : Nat) : Int) := by
  intro ks
  induction ks with
  | nil =>
    intro a e _ h
    simp only [List.foldl_nil] at h
    obtain rfl : a = e := by omega
    exact ⟨rfl, fun j h1 h2 => by omega⟩
  | cons k ks ih =>
    intro a e ha h
    simp only [List.foldl_cons] at h
    by_cases hc : (a : Int) < 0 ∨ (n : Int) ≤ a ∨ k ≠ a
    · rw [if_pos hc, endK_fold_neg] at h
      omega
    · rw [if_neg hc, Int.toNat_natCast, hf a ha] at h
      rcases hr a ha with h1 | ⟨h1, h2⟩
      · rw [h1, endK_fold_neg] at h
        omega
      · obtain ⟨b, hb⟩ : ∃ b : Nat, endK K n n a = (b : Int) := ⟨(endK K n n a).toNat, (Int.toNat_of_nonneg (by omega)).symm⟩
        rw [hb] at h
        obtain ⟨p1, p2⟩ := ih b e (by omega) h
        refine ⟨⟨by omega, h2, ?_⟩, fun j h3 h4 => ?_⟩
        · have e1 : a + ((endK K n n a).toNat - a) = b := by rw [hb, Int.toNat_natCast]; omega
          simp only [e1]
          exact p1
        · by_cases h5 : j < b
          · exact ⟨a, b, Nat.le_refl _, h3, h5, h2, hb⟩
          · obtain ⟨x, e', q1, q2, q3, q4, q5⟩ := p2 j (by omega) h4
            exact ⟨x, e', by omega, q2, q3, q4, q5⟩
theorem endK_fuel (K : Nat → List Int) (n : Nat) : ∀ f g i, n ≤ i + f → n ≤ i + g → endK K n f i = endK K n g i := by
  intro f
  induction f with
  | zero =>
    intro g i h1 h2
    cases g with
    | zero => rfl
    | succ g => simp only [endK]; rw [if_pos (by omega)]
  | succ f ih =>
    intro g i h1 h2
    cases g with
    | zero => simp only [endK]; rw [if_pos (by omega)]
    | succ g =>
      simp only [endK]
      by_cases h : n ≤ i
      · rw [if_pos h, if_pos h]
      · rw [if_neg h, if_neg h]
        have key : ∀ (ks : List Int) (a : Int), (a = -1 ∨ (i : Int) < a) → ks.foldl (fun a k => if a < 0 ∨ (n : Int) ≤ a ∨ k ≠ a then -1 else endK K n f a.toNat) a = ks.foldl (fun a k => if a < 0 ∨ (n : Int) ≤ a ∨ k ≠ a then -1 else endK K n g a.toNat) a := by
          intro ks
          induction ks with
          | nil => intro a _; rfl
          | cons k ks ihk =>
            intro a ha
            simp only [List.foldl_cons]
            by_cases hc : a < 0 ∨ (n : Int) ≤ a ∨ k ≠ a
            · rw [if_pos hc, if_pos hc]
              exact ihk _ (Or.inl rfl)
            · rw [if_neg hc, if_neg hc, ih g a.toNat (by omega) (by omega)]
              apply ihk
              rcases endK_range K n g a.toNat with h1 | h1
              · exact Or.inl h1
              · right
                omega
        exact key _ _ (Or.inr (by omega))
theorem endK_good (K : Nat → List Int) (n : Nat) : ∀ d i e, n - i = d → i < n → endK K n n i = ((e : Nat) : Int) → ∀ j, i ≤ j → j < e → ∃ e' : Nat, endK K n n j = (e' : Int) ∧ j < e' ∧ Chain (fun x => (endK K n n x).toNat - x) n (K j) (j + 1) e' := by
  intro d
  induction d using Nat.strongRecOn with
  | ind d ih =>
    intro i e hd hi he j hij hje
    obtain ⟨f, rfl⟩ : ∃ f, n = f + 1 := ⟨n - 1, by omega⟩
    have h1 := he
    simp only [endK] at h1
    rw [if_neg (by omega)] at h1
    have h2 := fold_good K (f + 1) f i (fun a ha => endK_fuel K (f + 1) f (f + 1) a (by omega) (by omega)) (fun a _ => endK_range K (f + 1) (f + 1) a) (K i) (i + 1) e (by omega) (by simpa using h1)
    by_cases hj : j = i
    · subst hj
      exact ⟨e, he, hje, h2.1⟩
    · obtain ⟨x, e', q1, q2, q3, q4, q5⟩ := h2.2 j (by omega) hje
      exact ih (f + 1 - x) (by omega) x e' rfl q4 q5 j q2 q3
theorem right_of_endK (K : Nat → List Int) (n : Nat) (hn : 0 < n) (h : endK K n n 0 = (n : Int)) : RightSz K (fun x => (endK K n n x).toNat - x) n where
  chain := fun i hi => by
    obtain ⟨e, h1, h2, h3⟩ := endK_good K n n 0 n rfl hn h i (Nat.zero_le _) hi
    have e1 : i + ((endK K n n i).toNat - i) = e := by rw [h1, Int.toNat_natCast]; omega
    simp only [e1]
    exact h3
theorem sizes_iff (rows : List (List Int)) (hn : 0 < rows.length) : endK (fun i => rows.getD i []) rows.length rows.length 0 = (rows.length : Int) ↔ ∃ s, sizesL rows 0 = some s ∧ s.getD 0 0 = rows.length := by
  constructor
  · intro h
    have hr := right_of_endK _ _ hn h
    obtain ⟨s, h1, h2⟩ := right_sizesL rows 0 (fun x => (endK (fun i => rows.getD i []) rows.length rows.length x).toNat - x) (fun x hx => by
      rw [Nat.zero_add, Nat.zero_add]
      exact hr.chain x hx)
    refine ⟨s, h1, ?_⟩
    rw [h2 0 hn, Nat.zero_add, h, Int.toNat_natCast, Nat.sub_zero]
  · rintro ⟨s, h1, h2⟩
    have hr := sizesL_right h1
    rw [hr.endK rows.length 0 hn (by omega)]
    simp only [Nat.zero_add, h2]
/-! How deep. -/
def maxL (g : Int → Nat) (ks : List Int) : Nat := ks.foldl (fun m k => max m (g k)) 0
theorem foldl_max (g : Int → Nat) (ks : List Int) (m : Nat) : ks.foldl (fun m k => max m (g k)) m = max m (maxL g ks) := by
  unfold maxL
  induction ks generalizing m with
  | nil => simp
  | cons k ks ih => simp only [List.foldl_cons]; rw [ih, ih (max 0 (g k))]; omega
theorem maxL_cons (g : Int → Nat) (k : Int) (ks : List Int) : maxL g (k :: ks) = max (g k) (maxL g ks) := by
  show (k :: ks).foldl _ 0 = _
  rw [List.foldl_cons, foldl_max]; omega
def deepK (own : Nat → Nat → Nat) (K : Nat → List Int) : Nat → Nat → Nat
  | 0, _ => 0
  | f + 1, i => maxL (fun k => own i k.toNat + deepK own K f k.toNat) (K i)
def deepest (D : Nat → Nat) (K : Nat → List Int) (a : Nat) : Nat → Nat
  | 0 => 0
  | d + 1 => max (deepest D K a d) (maxL (fun k => D k.toNat) (K (a + d)))
theorem deepest_add (D : Nat → Nat) (K : Nat → List Int) (a x y : Nat) : deepest D K a (x + y) = max (deepest D K a x) (deepest D K (a + x) y) := by
  induction y with
  | zero => simp [deepest]
  | succ y ih => rw [← Nat.add_assoc, deepest, ih, deepest, Nat.add_assoc a x y]; omega
theorem RightSz.deep {K : Nat → List Int} {S : Nat → Nat} {n : Nat} (h : RightSz K S n) (own : Nat → Nat → Nat) (D : Nat → Nat) (hD : ∀ i, i < n → ∀ j : Nat, (j : Int) ∈ K i → D j = D i + own i j) :
    ∀ f i, i < n → n ≤ i + f → max (D i) (deepest D K i (S i)) = D i + deepK own K f i := by
  have hS := h.size
  intro f
  induction f with
  | zero => intro i h1 h2; omega
  | succ f ih =>
    intro i h1 h2
    have key : ∀ (ks : List Int) (a e : Nat), i < a → a ≤ n → (∀ k ∈ ks, k ∈ K i) → Chain S n ks a e → max (D i) (max (maxL (fun k => D k.toNat) ks) (deepest D K a (e - a))) = D i + maxL (fun k => own i k.toNat + deepK own K f k.toNat) ks := by
      intro ks
      induction ks with
      | nil =>
        intro a e _ _ _ h
        obtain rfl : a = e := h
        simp [maxL, deepest]
      | cons k ks ihk =>
        intro a e ha hn hm hc
        obtain ⟨p1, p2, p3⟩ := hc
        have p4 := hS a p2
        have p5 := chain_mono ks _ e (fun i _ hn => hS i hn) p4.2 p3
        have p6 := ihk (a + S a) e (by omega) p4.2 (fun k hk => hm k (by simp [hk])) p3
        have p7 := ih a p2 (by omega)
        have p8 := hD i h1 a (by rw [← p1]; exact hm k (by simp))
        have e1 : e - a = S a + (e - (a + S a)) := by omega
        rw [e1, deepest_add, maxL_cons, maxL_cons, p1, Int.toNat_natCast]
        omega
    have p1 := key (K i) (i + 1) (i + S i) (by omega) (by omega) (fun _ h => h) (h.chain i h1)
    have p2 := hS i h1
    have e1 : S i = 1 + (i + S i - (i + 1)) := by omega
    rw [e1, deepest_add]
    have e2 : deepest D K i 1 = maxL (fun k => D k.toNat) (K i) := by simp [deepest]
    rw [e2]
    simp only [deepK]
    exact p1
end Go.Proofs.YtpemghcafbedeaaGreatDoor.Tr
end
section
namespace Go.Proofs.YtpemghcafbedeaaGreatDoor
def isBlank (c : Int) : Bool := c == 32 || c == 9 || c == 10 || c == 13
def isLetter (c : Int) : Bool := decide (97 ≤ c) && decide (c ≤ 122)
def isDigit (c : Int) : Bool := decide (48 ≤ c) && decide (c ≤ 57)
def isNameB (c : Int) : Bool := isLetter c || isDigit c || c == 95
def isMark (c : Int) : Bool := [123, 125, 40, 41, 91, 93, 59, 44, 46, 43, 45, 42, 60, 61].contains c
def kindF (c : Int) : Int := if isBlank c then 1 else if c = 35 then 2 else if isLetter c then 3 else if isDigit c then 4 else if c = 95 then 5 else if isMark c then 6 else 0
def blk : Bool → List Int → Nat
  | _, [] => 0
  | true, c :: r => if c = 10 then 1 + blk false r else 1 + blk true r
  | false, c :: r => if isBlank c then 1 + blk false r else if c = 35 then 1 + blk true r else 0
def run (p : Int → Bool) : List Int → Nat
  | [] => 0
  | c :: r => if p c then run p r + 1 else 0
def numV : Int → List Int → Option Int
  | n, [] => some n
  | n, c :: r => if isDigit c then (if 2147483647 < 10 * n + (c - 48) then none else numV (10 * n + (c - 48)) r) else some n
inductive Step where
  | err (e : Int)
  | tok (k : Int) (len : Nat) (n : Int)
def step : List Int → Step
  | [] => .err 0
  | c :: r =>
    if isLetter c then .tok 1 (run isNameB (c :: r)) 0
    else if isDigit c then (match numV 0 (c :: r) with | some n => .tok 2 (run isDigit (c :: r)) n | none => .err 31)
    else if isMark c then .tok 3 (if c = 61 ∧ r.head? = some 61 then 2 else 1) 0
    else .err 30
structure Tok where
  kind : Int
  at' : Nat
  stop : Nat
  text : List Int
  n : Int
  deriving DecidableEq
def Tok.endAt (p : Nat) : Tok := ⟨4, p, p, [], 0⟩
def pre (ts : List Tok) : Except (Nat × Int) (List Tok) → Except (Nat × Int) (List Tok)
  | .error e => .error e
  | .ok us => .ok (ts ++ us)
def lexN : Nat → Nat → List Int → Except (Nat × Int) (List Tok)
  | 0, p, _ => .ok [Tok.endAt p]
  | f + 1, p, l =>
    match l.drop (blk false l) with
    | [] => .ok [Tok.endAt (p + blk false l)]
    | c :: r => match step (c :: r) with
      | .err e => .error (p + blk false l, e)
      | .tok k len n => pre [⟨k, p + blk false l, p + blk false l + len, (c :: r).take len, n⟩] (lexN f (p + blk false l + len) ((c :: r).drop len))
def lexS (xs : List Int) : Except (Nat × Int) (List Tok) := lexN (xs.length + 1) 0 xs

theorem blk_le (b : Bool) (l : List Int) : blk b l ≤ l.length := by
  induction l generalizing b with
  | nil => cases b <;> simp [blk]
  | cons c r ih =>
    cases b
    · simp only [blk, List.length_cons]
      split
      · have := ih false; omega
      · split
        · have := ih true; omega
        · omega
    · simp only [blk, List.length_cons]
      split
      · have := ih false; omega
      · have := ih true; omega
theorem run_le (p : Int → Bool) (l : List Int) : run p l ≤ l.length := by
  induction l with
  | nil => simp [run]
  | cons c r ih => simp only [run, List.length_cons]; split <;> omega
theorem run_all (p : Int → Bool) (l : List Int) : ∀ i, i < run p l → p (l.getD i 0) = true := by
  induction l with
  | nil => intro i hi; simp [run] at hi
  | cons c r ih =>
    intro i hi
    simp only [run] at hi
    split at hi
    · cases i with
      | zero => simpa
      | succ i => simpa using ih i (by omega)
    · omega
theorem run_stop (p : Int → Bool) (l : List Int) (h : run p l < l.length) : p (l.getD (run p l) 0) = false := by
  induction l with
  | nil => simp at h
  | cons c r ih =>
    simp only [run] at h ⊢
    by_cases hc : p c = true
    · simp only [hc, if_true, List.length_cons] at h ⊢
      simpa using ih (by omega)
    · simp only [hc] at h ⊢
      simpa using hc
theorem step_len {l : List Int} {k : Int} {len : Nat} {n : Int} (h : step l = .tok k len n) : 0 < len ∧ len ≤ l.length ∧ (k = 1 ∨ k = 2 ∨ k = 3) := by
  cases l with
  | nil => simp [step] at h
  | cons c r =>
    have h1 := run_le isNameB (c :: r)
    have h2 := run_le isDigit (c :: r)
    simp only [step] at h
    split at h
    · rename_i hl
      simp only [Step.tok.injEq] at h
      have : 0 < run isNameB (c :: r) := by simp [run, isNameB, hl]
      exact ⟨by omega, by omega, by omega⟩
    · split at h
      · rename_i hd
        have : 0 < run isDigit (c :: r) := by simp [run, hd]
        split at h
        · simp only [Step.tok.injEq] at h
          exact ⟨by omega, by omega, by omega⟩
        · simp at h
      · split at h
        · simp only [Step.tok.injEq] at h
          split at h
          · rename_i h61
            have : 0 < r.length := by
              cases r with
              | nil => simp at h61
              | cons _ _ => simp
            simp only [List.length_cons]
            exact ⟨by omega, by omega, by omega⟩
          · simp only [List.length_cons]
            exact ⟨by omega, by omega, by omega⟩
        · simp at h
theorem lexN_fuel (f g p : Nat) (l : List Int) (hf : l.length < f) (hg : l.length < g) : lexN f p l = lexN g p l := by
  induction f generalizing g p l with
  | zero => omega
  | succ f ih =>
    cases g with
    | zero => omega
    | succ g =>
      simp only [lexN]
      split
      · rfl
      · rename_i c r hd
        split
        · rfl
        · rename_i k len n hs
          have := step_len hs
          have hlen : (c :: r).length ≤ l.length := by rw [← hd]; simp
          rw [ih g _ _ (by simp only [List.length_drop]; omega) (by simp only [List.length_drop]; omega)]
theorem pre_pre (a b : List Tok) (x : Except (Nat × Int) (List Tok)) : pre a (pre b x) = pre (a ++ b) x := by
  cases x <;> simp [pre]
theorem pre_nil (x : Except (Nat × Int) (List Tok)) : pre [] x = x := by
  cases x <;> simp [pre]
end Go.Proofs.YtpemghcafbedeaaGreatDoor
end
section
namespace Go.Proofs.YtpemghcafbedeaaGreatDoor.Tr
open Go.RowKit
def bytesI (s : ByteArray) : List Int := s.data.toList.map fun b => (b.toNat : Int)
theorem bytesI_length (s : ByteArray) : (bytesI s).length = s.size := by simp [bytesI]
theorem bytesI_get (s : ByteArray) (k : Nat) (h : k < s.size) : (bytesI s).getD k 0 = (s[k].toNat : Int) := by
  have : k < s.data.toList.length := by simpa using h
  have e : s.data.toList[k]? = some s[k] := List.getElem?_eq_getElem this
  simp only [bytesI, List.getD, List.getElem?_map, e, Option.map_some, Option.getD_some]
theorem bytesI_byte (s : ByteArray) (i : Nat) : 0 ≤ (bytesI s).getD i 0 ∧ (bytesI s).getD i 0 < 256 := by
  by_cases h : i < s.size
  · rw [bytesI_get s i h]
    have := UInt8.toNat_lt s[i]
    omega
  · simp [List.getD, List.getElem?_eq_none (show (bytesI s).length ≤ i by rw [bytesI_length]; omega)]
theorem bytesI_str (s : ByteArray) : strOfNums (bytesI s) = s := by
  obtain ⟨⟨l⟩⟩ := s
  simp [strOfNums, bytesI, Function.comp_def]
def namesF (l : List Int) : Bool := (match l with | [] => false | c :: _ => isLetter c) && l.all isNameB
theorem namesF_nil : namesF [] = false := rfl
theorem all_take_succ (l : List Int) (k : Nat) (h : k < l.length) : (l.take (k + 1)).all isNameB = ((l.take k).all isNameB && isNameB (l.getD k 0)) := by
  rw [List.take_succ_eq_append_getElem h, List.all_append]
  simp [List.getD, h]
theorem namesF_no (l : List Int) (k : Nat) (h : k < l.length) (hk : isNameB (l.getD k 0) = false) : namesF l = false := by
  unfold namesF
  have : l.all isNameB = false := by
    rw [List.all_eq_false]
    exact ⟨l.getD k 0, by simp [List.getD, h], by rw [hk]; simp⟩
  rw [this, Bool.and_false]
theorem namesF_head (l : List Int) (h : 0 < l.length) (hk : isLetter (l.getD 0 0) = false) : namesF l = false := by
  cases l with
  | nil => simp at h
  | cons c r => simp only [List.getD_cons_zero] at hk; simp [namesF, hk]
theorem namesF_yes (l : List Int) (h : 0 < l.length) (hk : isLetter (l.getD 0 0) = true) (ha : (l.take l.length).all isNameB = true) : namesF l = true := by
  cases l with
  | nil => simp at h
  | cons c r => simp only [List.getD_cons_zero] at hk; rw [List.take_length] at ha; simp only [namesF, hk, ha, Bool.and_true]
theorem retB {a b : Bool} (h : a = b) : Ending.returned (.bool a) = .returned (.bool b) := by rw [h]
theorem retI {a b : Int} (h : a = b) : Ending.returned (.int .i64 a) = .returned (.int .i64 b) := by rw [h]
theorem drewN_below (B : Nat) (w : World) (n : Nat) : Below B w (w.drewN n) := ⟨rfl, rfl, rfl, Nat.le_refl _, fun _ _ => rfl⟩
end Go.Proofs.YtpemghcafbedeaaGreatDoor.Tr
end
section
namespace Go.Proofs.YtpemghcafbedeaaGreatDoor.Tr
structure Nd where
  kind : Int
  at' : Int
  text : ByteArray
  n : Int
  kids : List Int
instance : Inhabited Nd := ⟨⟨0, 0, ⟨#[]⟩, 0, []⟩⟩
def isExprK (k : Int) : Bool := decide (21 ≤ k) && decide (k ≤ 26)
def isStmtK (k : Int) : Bool := decide (7 ≤ k) && decide (k ≤ 19)
inductive Fit where
  | of (ks : List Int)
  | stmt
  | expr
  deriving DecidableEq
def Fit.f : Fit → Int → Bool
  | .of ks, k => ks.any fun x => k == x
  | .stmt, k => isStmtK k
  | .expr, k => isExprK k
theorem Fit.f_of (ks : List Int) : (Fit.of ks).f = fun k => ks.any fun x => k == x := rfl
theorem Fit.f_stmt : Fit.stmt.f = isStmtK := rfl
theorem Fit.f_expr : Fit.expr.f = isExprK := rfl
structure Part where
  fit : Fit
  least : Nat
  most : Nat
  deriving DecidableEq
def Part.one (f : Fit) : Part := ⟨f, 1, 1⟩
def Part.maybe (f : Fit) : Part := ⟨f, 0, 1⟩
def Part.many (f : Fit) : Part := ⟨f, 0, 9223372036854775807⟩
def Part.takes (p : Part) (l : List Int) : Nat := run p.fit.f (l.take p.most)
def inTurnP : List Part → List Int → Bool
  | [], l => l.isEmpty
  | p :: ps, l => decide (p.least ≤ p.takes l) && inTurnP ps (l.drop (p.takes l))
structure Rule where
  named : Bool
  most : Int
  parts : List Part
  deriving DecidableEq
abbrev pW : Part := .one (.of [5])
abbrev pR : Part := .one (.of [20])
abbrev pB : Part := .one (.of [6])
abbrev pE : Part := .one .expr
abbrev pN : Part := .one (.of [21])
def ruleT : List (Int × Rule) :=
  [(1, ⟨false, 0, [.many (.of [2, 3])]⟩), (2, ⟨true, 0, [pW, .many (.of [5])]⟩), (3, ⟨true, 1, [.one (.of [4]), pB]⟩), (4, ⟨false, 0, [.many (.of [5])]⟩),
   (5, ⟨true, 0, []⟩), (6, ⟨false, 0, [.many .stmt]⟩), (7, ⟨true, 1, [pR, pW]⟩), (8, ⟨false, 0, [pR, pW, pE]⟩), (9, ⟨false, 0, [pR, pE, .many .expr]⟩),
   (10, ⟨false, 0, [pR]⟩), (11, ⟨true, 0, [pW, pW]⟩), (12, ⟨false, 1, [pW]⟩), (13, ⟨false, 0, [.one (.of [5, 20])]⟩), (14, ⟨false, 1, [pE, pE, pB, .maybe (.of [6])]⟩),
   (15, ⟨true, 0, [pN, pN, pB]⟩), (16, ⟨true, 0, [pE]⟩), (17, ⟨false, 0, [pE]⟩), (18, ⟨false, 0, []⟩), (19, ⟨false, 0, []⟩), (20, ⟨true, 0, [pE]⟩),
   (21, ⟨false, 2147483647, []⟩), (22, ⟨true, 0, []⟩), (23, ⟨false, 0, [pE, pE]⟩), (24, ⟨false, 0, [pE, pE]⟩), (25, ⟨false, 0, [pE, pE]⟩), (26, ⟨false, 0, [pE]⟩)]
def ruleOf (k : Int) : Option Rule := (ruleT.find? fun x => x.1 == k).map (·.2)
def textOk (named : Bool) (s : ByteArray) : Bool := if named then namesF (bytesI s) else decide (s.size = 0)
def fitsRule (r : Rule) (nd : Nd) (kinds : List Int) : Bool := textOk r.named nd.text && (decide (0 ≤ nd.n) && (decide (nd.n ≤ r.most) && inTurnP r.parts kinds))
def kindAt (t : List Nd) (i : Nat) : Int := (t.getD i default).kind
def kidsAt (t : List Nd) (i : Nat) : List Int := (t.getD i default).kids
def kindsOf (t : List Nd) (nd : Nd) : List Int := nd.kids.map fun k => kindAt t k.toNat
def nodeOk (t : List Nd) (nd : Nd) : Bool := match ruleOf nd.kind with
  | none => false
  | some r => fitsRule r nd (kindsOf t nd)
def ruledP (t : List Nd) : Bool := t.all (nodeOk t)
def rowsOf (t : List Nd) : List (List Int) := t.map (·.kids)
def sizesP (t : List Nd) : Option (List Nat) := match sizesL (rowsOf t) 0 with
  | none => none
  | some s => if s.length ≠ 0 ∧ s.getD 0 0 = s.length then some s else none
def rightP (t : List Nd) : Bool := match sizesP t with
  | none => false
  | some _ => kindAt t 0 == 1 && ruledP t
def sizeP (t : List Nd) (i : Int) : Int := if 0 ≤ i ∧ i < t.length ∧ rightP t then (match sizesP t with | none => 0 | some s => (s.getD i.toNat 0 : Nat)) else 0
def ownK (t : List Nd) (i j : Nat) : Nat := if kindAt t j = 6 ∨ kindAt t j = 20 ∨ (isExprK (kindAt t j) ∧ isExprK (kindAt t i)) then 1 else 0
def deepP (t : List Nd) : Nat := if rightP t then deepK (ownK t) (kidsAt t) t.length 0 else 0
/-! The reference's way. -/
def isR (l : List Int) (want : List Int) : Bool := decide (l.length = want.length) && (l.zip want).all fun p => if p.2 = 0 then isExprK p.1 else p.1 == p.2
def kidsR (kind : Int) (l : List Int) : Bool :=
  if kind = 1 then l.all (fun k => k == 2 || k == 3)
  else if kind = 2 then decide (0 < l.length) && l.all (· == 5)
  else if kind = 3 then isR l [4, 6]
  else if kind = 4 then l.all (· == 5)
  else if kind = 6 then l.all isStmtK
  else if kind = 7 then isR l [20, 5]
  else if kind = 8 then isR l [20, 5, 0]
  else if kind = 9 then decide (1 < l.length) && (l.getD 0 0 == 20 && (l.drop 1).all isExprK)
  else if kind = 10 then isR l [20]
  else if kind = 11 then isR l [5, 5]
  else if kind = 12 then isR l [5]
  else if kind = 13 then isR l [5] || isR l [20]
  else if kind = 14 then isR l [0, 0, 6] || isR l [0, 0, 6, 6]
  else if kind = 15 then isR l [21, 21, 6]
  else if kind = 16 ∨ kind = 17 ∨ kind = 20 ∨ kind = 26 then isR l [0]
  else if kind = 23 ∨ kind = 24 ∨ kind = 25 then isR l [0, 0]
  else decide (l.length = 0)
def namedR (k : Int) : Bool := k == 2 || k == 3 || k == 5 || k == 7 || k == 11 || k == 15 || k == 16 || k == 20 || k == 22
def mostR (k : Int) : Int := if k = 3 ∨ k = 7 ∨ k = 12 ∨ k = 14 then 1 else if k = 21 then 2147483647 else 0
def wordsR (nd : Nd) : Bool := (namedR nd.kind == namesF (bytesI nd.text)) && ((namedR nd.kind || decide (nd.text.size = 0)) && (decide (0 ≤ nd.n) && decide (nd.n ≤ mostR nd.kind)))
def nodeR (t : List Nd) (nd : Nd) : Bool := decide (1 ≤ nd.kind) && (decide (nd.kind ≤ 26) && (wordsR nd && kidsR nd.kind (kindsOf t nd)))
def aheadR (t : List Nd) : Bool := (List.range t.length).all fun i => (kidsAt t i).all fun k => decide ((i : Int) < k) && decide (k < t.length)
def rightR (t : List Nd) : Bool := decide (0 < t.length) && (kindAt t 0 == 1 && (aheadR t && (decide (endK (kidsAt t) t.length t.length 0 = t.length) && t.all (nodeR t))))
theorem run_none {p : Int → Bool} {l : List Int} (h : ∀ x, l.head? = some x → p x = false) : run p l = 0 := by
  cases l with
  | nil => rfl
  | cons c r => simp only [run]; rw [if_neg (by rw [h c rfl]; simp)]
theorem inTurn_nil (l : List Int) : inTurnP [] l = decide (l.length = 0) := by cases l <;> simp [inTurnP]
theorem inTurn_one (f : Fit) (ps : List Part) (l : List Int) : inTurnP (.one f :: ps) l = match l with | [] => false | k :: l' => f.f k && inTurnP ps l' := by
  cases l with
  | nil => simp [inTurnP, Part.takes, Part.one, run]
  | cons k l =>
    by_cases h : f.f k = true
    · simp [inTurnP, Part.takes, Part.one, run, h]
    · simp [inTurnP, Part.takes, Part.one, run, h]
theorem inTurn_maybe (f : Fit) (l : List Int) : inTurnP [.maybe f] l = match l with | [] => true | [k] => f.f k | _ => false := by
  match l with
  | [] => simp [inTurnP, Part.takes, Part.maybe, run]
  | [k] =>
    by_cases h : f.f k = true
    · simp [inTurnP, Part.takes, Part.maybe, run, h]
    · simp [inTurnP, Part.takes, Part.maybe, run, h]
  | k :: k2 :: l =>
    by_cases h : f.f k = true
    · simp [inTurnP, Part.takes, Part.maybe, run, h]
    · simp [inTurnP, Part.takes, Part.maybe, run, h]
theorem run_all_iff (p : Int → Bool) (l : List Int) : decide (run p l = l.length) = l.all p := by
  induction l with
  | nil => simp [run]
  | cons c r ih =>
    simp only [run, List.all_cons, List.length_cons]
    by_cases h : p c = true
    · simp only [h, if_true, Bool.true_and, ← ih]
      simp
    · simp [h]
theorem inTurn_many (f : Fit) (l : List Int) (hl : l.length ≤ 9223372036854775807) : inTurnP [.many f] l = l.all f.f := by
  have h := run_le f.f l
  simp only [inTurnP, Part.takes, Part.many, List.take_of_length_le hl, Nat.zero_le, decide_true, Bool.true_and]
  rw [← run_all_iff, Bool.eq_iff_iff, List.isEmpty_iff_length_eq_zero, List.length_drop, decide_eq_true_iff]
  omega
theorem isR_nil (l : List Int) : isR l [] = decide (l.length = 0) := by cases l <;> simp [isR]
theorem isR_cons (w : Int) (ws l : List Int) : isR l (w :: ws) = match l with | [] => false | k :: l' => (if w = 0 then isExprK k else k == w) && isR l' ws := by
  cases l with
  | nil => simp [isR]
  | cons k l =>
    simp only [isR, List.length_cons, List.zip_cons_cons, List.all_cons, Nat.add_right_cancel_iff]
    cases (if w = 0 then isExprK k else k == w) <;> simp
set_option maxHeartbeats 4000000 in
theorem nodeOk_eq (t : List Nd) (nd : Nd) (hl : nd.kids.length ≤ 9223372036854775807) : nodeOk t nd = nodeR t nd := by
  have hk : (kindsOf t nd).length ≤ 9223372036854775807 := by simpa [kindsOf] using hl
  have hz : ∀ s : ByteArray, s.size = 0 → namesF (bytesI s) = false := fun s hs => by
    have : bytesI s = [] := List.eq_nil_of_length_eq_zero (by rw [bytesI_length]; exact hs)
    rw [this]; rfl
  have hw0 : ∀ b : Bool, namedR nd.kind = b → ((b == namesF (bytesI nd.text)) && (b || decide (nd.text.size = 0))) = textOk b nd.text := by
    intro b _
    cases b with
    | true => simp [textOk]
    | false =>
      by_cases h : nd.text.size = 0
      · simp [textOk, h, hz _ h]
      · simp [textOk, h]
  unfold nodeOk nodeR wordsR
  generalize kindsOf t nd = l at *
  by_cases h1 : 1 ≤ nd.kind ∧ nd.kind ≤ 26
  · have hcase : nd.kind = 1 ∨ nd.kind = 2 ∨ nd.kind = 3 ∨ nd.kind = 4 ∨ nd.kind = 5 ∨ nd.kind = 6 ∨ nd.kind = 7 ∨ nd.kind = 8 ∨ nd.kind = 9 ∨ nd.kind = 10 ∨ nd.kind = 11 ∨ nd.kind = 12 ∨ nd.kind = 13 ∨ nd.kind = 14 ∨ nd.kind = 15 ∨ nd.kind = 16 ∨ nd.kind = 17 ∨ nd.kind = 18 ∨ nd.kind = 19 ∨ nd.kind = 20 ∨ nd.kind = 21 ∨ nd.kind = 22 ∨ nd.kind = 23 ∨ nd.kind = 24 ∨ nd.kind = 25 ∨ nd.kind = 26 := by omega
    have key : ∀ r : Rule, ruleOf nd.kind = some r → r.named = namedR nd.kind → r.most = mostR nd.kind → inTurnP r.parts l = kidsR nd.kind l →
        (match ruleOf nd.kind with | none => false | some r => fitsRule r nd l) = (decide (1 ≤ nd.kind) && (decide (nd.kind ≤ 26) && ((namedR nd.kind == namesF (bytesI nd.text)) && ((namedR nd.kind || decide (nd.text.size = 0)) && (decide (0 ≤ nd.n) && decide (nd.n ≤ mostR nd.kind))) && kidsR nd.kind l))) := by
      intro r hr hn hm hp
      rw [hr]
      simp only [fitsRule, hn, hm, hp, decide_eq_true h1.1, decide_eq_true h1.2, Bool.true_and]
      rw [← hw0 _ rfl]
      simp only [Bool.and_assoc]
    rcases hcase with h | h | h | h | h | h | h | h | h | h | h | h | h | h | h | h | h | h | h | h | h | h | h | h | h | h
    all_goals
      rw [h] at key ⊢
      refine key _ rfl rfl rfl ?_
      clear key hw0 hz h h1
      first
      | (show inTurnP [.many _] l = _
         rw [inTurn_many _ _ hk]
         simp [kidsR, Fit.f_of, Fit.f_stmt]
         done)
      | (show inTurnP (.one _ :: .many _ :: []) l = _
         rw [inTurn_one]
         rcases l with _ | ⟨a, l⟩
         · simp [kidsR]
         · simp only [inTurn_many _ l (by simp at hk; omega)]
           simp [kidsR, Fit.f_of]
         done)
      | (show inTurnP (.one _ :: .one _ :: .many _ :: []) l = _
         rw [inTurn_one]
         rcases l with _ | ⟨a, _ | ⟨b, l⟩⟩
         · simp [kidsR]
         · simp [kidsR, inTurn_one]
         · simp only [inTurn_one, inTurn_many _ l (by simp at hk; omega)]
           simp [kidsR, Fit.f_of, Fit.f_expr]
         done)
      | (rcases l with _ | ⟨a, _ | ⟨b, _ | ⟨c, _ | ⟨d, _ | ⟨e, l⟩⟩⟩⟩⟩ <;> simp [kidsR, inTurn_nil, inTurn_one, inTurn_maybe, isR_cons, isR_nil, Fit.f_of, Fit.f_expr]
         done)
  · rw [show (decide (1 ≤ nd.kind) && (decide (nd.kind ≤ 26) && ((namedR nd.kind == namesF (bytesI nd.text)) && ((namedR nd.kind || decide (nd.text.size = 0)) && (decide (0 ≤ nd.n) && decide (nd.n ≤ mostR nd.kind))) && kidsR nd.kind l))) = false by
      by_cases h2 : 1 ≤ nd.kind
      · have : ¬ nd.kind ≤ 26 := fun h3 => h1 ⟨h2, h3⟩
        simp [this]
      · simp [h2]]
    have : ruleOf nd.kind = none := by
      unfold ruleOf ruleT
      simp only [Option.map_eq_none_iff, List.find?_eq_none]
      intro x hx
      simp only [List.mem_cons, List.not_mem_nil, or_false] at hx
      simp only [beq_iff_eq]
      intro e
      rcases hx with h | h | h | h | h | h | h | h | h | h | h | h | h | h | h | h | h | h | h | h | h | h | h | h | h | h
      all_goals (rw [h] at e; simp only at e; omega)
    rw [this]
end Go.Proofs.YtpemghcafbedeaaGreatDoor.Tr
end
section
namespace Go.Proofs.YtpemghcafbedeaaGreatDoor
abbrev Nd := Tr.Nd
structure PT where
  kind : Int
  at' : Nat
  txt : ByteArray
  n : Int
inductive Ast where
  | mk (kind : Int) (at' : Nat) (txt : ByteArray) (n : Int) (kids : List Ast)
def Ast.at' : Ast → Nat | .mk _ a _ _ _ => a
inductive Res (α : Type) where
  | err (at' : Nat) (code : Int)
  | ok (a : α) (l : List PT)
abbrev Par (α : Type) := List PT → Res α
namespace Par
def pure {α : Type} (a : α) : Par α := fun l => .ok a l
def bind {α β : Type} (f : Par α) (g : α → Par β) : Par β := fun l => match f l with
  | .err a c => .err a c
  | .ok a l' => g a l'
theorem bind_ok {α β : Type} {f : Par α} {g : α → Par β} {l l' : List PT} {a : α} (h : f l = .ok a l') : bind f g l = g a l' := by simp only [bind, h]
theorem bind_err {α β : Type} {f : Par α} {g : α → Par β} {l : List PT} {a : Nat} {c : Int} (h : f l = .err a c) : bind f g l = .err a c := by simp only [bind, h]
def loop {α : Type} (step : α → Par (Option α)) : Nat → α → Par α
  | 0, _ => fun _ => .err 0 99
  | m + 1, a => bind (step a) fun
    | none => pure a
    | some b => loop step m b
def many {α : Type} (step : α → Par (Option α)) (a : α) : Par α := fun l => loop step (l.length + 1) a l
def Less {α : Type} (f : Par α) : Prop := ∀ l a l', f l = .ok a l' → l'.length ≤ l.length
def Adv {α : Type} (step : α → Par (Option α)) : Prop := ∀ a l b l', step a l = .ok b l' → (b.isSome → l'.length < l.length) ∧ l'.length ≤ l.length
theorem loop_more {α : Type} {step : α → Par (Option α)} (hs : Adv step) (m k : Nat) (a : α) (l : List PT) (h : l.length < m) (h' : l.length < k) : loop step m a l = loop step k a l := by
  induction m generalizing k a l with
  | zero => omega
  | succ m ih =>
    cases k with
    | zero => omega
    | succ k =>
      simp only [loop, bind]
      cases hst : step a l with
      | err p c => rfl
      | ok b l' =>
        cases b with
        | none => rfl
        | some b =>
          have := (hs a l (some b) l' hst).1 rfl
          exact ih k b l' (by omega) (by omega)
theorem many_err {α : Type} {step : α → Par (Option α)} {a : α} {l : List PT} {p : Nat} {c : Int} (h : step a l = .err p c) : many step a l = .err p c := by
  simp only [many, loop, bind, h]
theorem many_done {α : Type} {step : α → Par (Option α)} {a : α} {l l' : List PT} (h : step a l = .ok none l') : many step a l = .ok a l' := by
  simp only [many, loop, bind, h, pure]
theorem many_more {α : Type} {step : α → Par (Option α)} (hs : Adv step) {a b : α} {l l' : List PT} (h : step a l = .ok (some b) l') : many step a l = many step b l' := by
  have h1 := (hs a l (some b) l' h).1 rfl
  show loop step (l.length + 1) a l = loop step (l'.length + 1) b l'
  rw [loop]
  simp only [bind, h]
  exact loop_more hs _ _ b l' (by omega) (by omega)
theorem Less.pure {α : Type} (a : α) : Less (pure a) := fun l b l' h => by
  simp only [Par.pure, Res.ok.injEq] at h
  rw [h.2]; exact Nat.le_refl _
theorem Less.bind {α β : Type} {f : Par α} {g : α → Par β} (hf : Less f) (hg : ∀ a, Less (g a)) : Less (bind f g) := fun l b l' h => by
  simp only [Par.bind] at h
  cases hfl : f l with
  | err p c => rw [hfl] at h; simp at h
  | ok a l1 =>
    rw [hfl] at h
    exact Nat.le_trans (hg a l1 b l' h) (hf l a l1 hfl)
theorem Less.loop {α : Type} {step : α → Par (Option α)} (hs : ∀ a, Less (step a)) (m : Nat) (a : α) : Less (loop step m a) := by
  induction m generalizing a with
  | zero => intro l b l' h; simp [Par.loop] at h
  | succ m ih =>
    refine Less.bind (hs a) fun b => ?_
    cases b with
    | none => exact Less.pure a
    | some b => exact ih b
theorem Less.many {α : Type} {step : α → Par (Option α)} (hs : ∀ a, Less (step a)) (a : α) : Less (many step a) := fun l => Less.loop hs (l.length + 1) a l
end Par
open Par
def isNextP (s : ByteArray) : Par Bool
  | [] => .err 0 99
  | t :: l => .ok (decide (t.txt = s)) (t :: l)
def skipP (s : ByteArray) : Par Bool
  | [] => .err 0 99
  | t :: l => if t.txt = s then .ok true l else .ok false (t :: l)
def expectP (s : ByteArray) : Par Nat
  | [] => .err 0 99
  | t :: l => if t.txt = s then .ok t.at' l else .err t.at' 50
def takeP (k : Int) : Par PT
  | [] => .err 0 99
  | t :: l => if t.kind = k then .ok t l else .err t.at' 50
def peekP : Par PT
  | [] => .err 0 99
  | t :: l => .ok t (t :: l)
def nextP : Par PT
  | [] => .err 0 99
  | t :: l => .ok t l
def enterP (s : ByteArray) (r : Nat) : Par Nat
  | [] => .err 0 99
  | t :: l => if t.txt = s then (if r = 0 then .err t.at' 51 else .ok t.at' l) else .err t.at' 50
def failP {α : Type} : Par α
  | [] => .err 0 99
  | t :: _ => .err t.at' 50
abbrev none0 : ByteArray := ⟨#[]⟩
def nodeA (k : Int) (a : Nat) (ks : List Ast) : Ast := .mk k a none0 0 ks
def wordA (t : PT) : Ast := .mk 5 t.at' t.txt 0 []
-- expressions
def bothA (k : Int) (a b : Ast) : Ast := .mk k a.at' none0 0 [a, b]
def timesStep (fac : Par Ast) (a : Ast) : Par (Option Ast) := bind (skipP ⟨#[42]⟩) fun
  | true => bind fac fun b => pure (some (bothA 25 a b))
  | false => pure none
def termP (fac : Par Ast) : Par Ast := bind fac fun a => many (timesStep fac) a
def sumStep (fac : Par Ast) (a : Ast) : Par (Option Ast) := bind (skipP ⟨#[43]⟩) fun
  | true => bind (termP fac) fun b => pure (some (bothA 23 a b))
  | false => bind (skipP ⟨#[45]⟩) fun
    | true => bind (termP fac) fun b => pure (some (bothA 24 a b))
    | false => pure none
def exprP (fac : Par Ast) : Par Ast := bind (termP fac) fun a => many (sumStep fac) a
def numberP : Par Ast := bind (takeP 2) fun t => pure (.mk 21 t.at' none0 t.n [])
def bracketP (r : Nat) (ex : Par Ast) : Par Ast := bind (enterP ⟨#[40]⟩ r) fun _ => bind ex fun a => bind (expectP ⟨#[41]⟩) fun _ => pure a
def negP (r : Nat) (fac : Par Ast) : Par Ast := bind (enterP ⟨#[45]⟩ r) fun p => bind fac fun a => pure (nodeA 26 p [a])
def factorOf (r : Nat) (fac : Par Ast) : Par Ast := bind peekP fun t =>
  if t.kind = 2 then numberP
  else if t.kind = 1 then bind nextP fun t => pure (.mk 22 t.at' t.txt 0 [])
  else if t.txt = ⟨#[40]⟩ then bracketP r (exprP fac)
  else if t.txt = ⟨#[45]⟩ then negP r fac
  else failP
def factorP : Nat → Par Ast
  | 0 => factorOf 0 failP
  | r + 1 => factorOf (r + 1) (factorP r)
def exprR (r : Nat) : Par Ast := exprP (factorP r)
-- statements
def wordP : Par Ast := bind (takeP 1) fun t => pure (wordA t)
def wordsStep (ks : List Ast) : Par (Option (List Ast)) := bind (skipP ⟨#[44]⟩) fun
  | true => bind wordP fun w => pure (some (ks ++ [w]))
  | false => pure none
def wordsP : Par (List Ast) := bind wordP fun w => many wordsStep [w]
def rowOfP (r : Nat) (t : PT) : Par Ast := bind (enterP ⟨#[91]⟩ r) fun _ => bind (exprR (r - 1)) fun k => bind (expectP ⟨#[93]⟩) fun _ => pure (.mk 20 t.at' t.txt 0 [k])
def rowP (r : Nat) : Par Ast := bind (takeP 1) fun t => rowOfP r t
def cellP (r : Nat) : Par (Ast × Ast) := bind (rowP r) fun a => bind (expectP ⟨#[46]⟩) fun _ => bind wordP fun b => pure (a, b)
def endP (a : Ast) : Par Ast := bind (expectP ⟨#[59]⟩) fun _ => pure a
def readP (r : Nat) (p : Nat) : Par Ast := bind (takeP 1) fun t => bind (expectP ⟨#[61]⟩) fun _ => bind (cellP r) fun rc => bind (skipP ⟨#[102, 111, 114]⟩) fun
  | true => bind (expectP ⟨#[117, 112, 100, 97, 116, 101]⟩) fun _ => endP (.mk 7 p t.txt 1 [rc.1, rc.2])
  | false => endP (.mk 7 p t.txt 0 [rc.1, rc.2])
def setP (r : Nat) (p : Nat) : Par Ast := bind (cellP r) fun rc => bind (expectP ⟨#[61]⟩) fun _ => bind (exprR r) fun v => endP (nodeA 8 p [rc.1, rc.2, v])
def putStep (r : Nat) (ks : List Ast) : Par (Option (List Ast)) := bind (skipP ⟨#[44]⟩) fun
  | true => bind (exprR r) fun w => pure (some (ks ++ [w]))
  | false => pure none
def putP (r : Nat) (p : Nat) : Par Ast := bind (rowP r) fun a => bind (expectP ⟨#[40]⟩) fun _ => bind (exprR r) fun e => bind (many (putStep r) [a, e]) fun ks => bind (expectP ⟨#[41]⟩) fun _ => endP (nodeA 9 p ks)
def deleteP (r : Nat) (p : Nat) : Par Ast := bind (rowP r) fun a => endP (nodeA 10 p [a])
def scanP (p : Nat) : Par Ast := bind (takeP 1) fun t => bind (expectP ⟨#[61]⟩) fun _ => bind wordP fun a => bind (expectP ⟨#[46]⟩) fun _ => bind wordP fun b => endP (.mk 11 p t.txt 0 [a, b])
def lockP (p : Nat) : Par Ast := bind wordP fun a => bind (skipP ⟨#[97, 108, 108]⟩) fun
  | true => endP (.mk 12 p none0 1 [a])
  | false => bind (expectP ⟨#[115, 104, 97, 114, 101, 100]⟩) fun _ => endP (.mk 12 p none0 0 [a])
def releaseP (r : Nat) (p : Nat) : Par Ast := bind (takeP 1) fun t => bind (isNextP ⟨#[91]⟩) fun
  | true => bind (rowOfP r t) fun a => endP (nodeA 13 p [a])
  | false => endP (nodeA 13 p [wordA t])
def ifTail (B : Par Ast) (p : Nat) (n : Int) (a b : Ast) : Par Ast := bind B fun c => bind (skipP ⟨#[101, 108, 115, 101]⟩) fun
  | true => bind B fun d => pure (.mk 14 p none0 n [a, b, c, d])
  | false => pure (.mk 14 p none0 n [a, b, c])
def ifP (r : Nat) (B : Par Ast) (p : Nat) : Par Ast := bind (exprR r) fun a => bind (skipP ⟨#[61, 61]⟩) fun
  | true => bind (exprR r) fun b => ifTail B p 1 a b
  | false => bind (expectP ⟨#[60]⟩) fun _ => bind (exprR r) fun b => ifTail B p 0 a b
def forP (B : Par Ast) (p : Nat) : Par Ast := bind (takeP 1) fun t => bind (expectP ⟨#[61]⟩) fun _ => bind numberP fun a => bind (expectP ⟨#[116, 111]⟩) fun _ => bind numberP fun b => bind B fun c => pure (.mk 15 p t.txt 0 [a, b, c])
def letP (r : Nat) (p : Nat) : Par Ast := bind (takeP 1) fun t => bind (expectP ⟨#[61]⟩) fun _ => bind (exprR r) fun v => endP (.mk 16 p t.txt 0 [v])
def emitP (r : Nat) (p : Nat) : Par Ast := bind (exprR r) fun v => endP (nodeA 17 p [v])
def rollbackP (p : Nat) : Par Ast := endP (nodeA 18 p [])
def chopP (p : Nat) : Par Ast := endP (nodeA 19 p [])
def words13 : List ByteArray := [⟨#[114, 101, 97, 100]⟩, ⟨#[115, 101, 116]⟩, ⟨#[112, 117, 116]⟩, ⟨#[100, 101, 108, 101, 116, 101]⟩, ⟨#[115, 99, 97, 110]⟩, ⟨#[108, 111, 99, 107]⟩, ⟨#[114, 101, 108, 101, 97, 115, 101]⟩, ⟨#[105, 102]⟩, ⟨#[102, 111, 114]⟩, ⟨#[108, 101, 116]⟩, ⟨#[101, 109, 105, 116]⟩, ⟨#[114, 111, 108, 108, 98, 97, 99, 107]⟩, ⟨#[99, 104, 111, 112]⟩]
def restP (r : Nat) (B : Par Ast) (j p : Nat) : Par Ast :=
  match j with
  | 0 => readP r p
  | 1 => setP r p
  | 2 => putP r p
  | 3 => deleteP r p
  | 4 => scanP p
  | 5 => lockP p
  | 6 => releaseP r p
  | 7 => ifP r B p
  | 8 => forP B p
  | 9 => letP r p
  | 10 => emitP r p
  | 11 => rollbackP p
  | 12 => chopP p
  | _ => failP
def stmtP (r : Nat) (B : Par Ast) : Par Ast := bind peekP fun t =>
  if words13.idxOf t.txt < 13 then bind nextP fun t => restP r B (words13.idxOf t.txt) t.at' else failP
def blockStep (st : Par Ast) (ks : List Ast) : Par (Option (List Ast)) := bind (isNextP ⟨#[125]⟩) fun
  | true => pure none
  | false => bind st fun s => pure (some (ks ++ [s]))
def blockOf (r : Nat) (st : Par Ast) : Par Ast := bind (enterP ⟨#[123]⟩ r) fun p => bind (many (blockStep st) []) fun ks => bind (expectP ⟨#[125]⟩) fun _ => pure (nodeA 6 p ks)
def blockP : Nat → Par Ast
  | 0 => blockOf 0 failP
  | r + 1 => blockOf (r + 1) (stmtP r (blockP r))
-- programs
def namesP : Par Ast := bind peekP fun t => bind (isNextP ⟨#[41]⟩) fun
  | true => pure (nodeA 4 t.at' [])
  | false => bind wordsP fun ks => pure (nodeA 4 t.at' ks)
def tableP : Par Ast := bind (expectP ⟨#[116, 97, 98, 108, 101]⟩) fun p => bind (takeP 1) fun t => bind (expectP ⟨#[40]⟩) fun _ => bind wordsP fun ks => bind (expectP ⟨#[41]⟩) fun _ => endP (.mk 2 p t.txt 0 ks)
def procP : Par Ast := bind (expectP ⟨#[112, 114, 111, 99]⟩) fun p => bind (takeP 1) fun t => bind (expectP ⟨#[40]⟩) fun _ => bind namesP fun ns => bind (expectP ⟨#[41]⟩) fun _ => bind (skipP ⟨#[115, 105, 110, 103, 108, 101]⟩) fun
  | true => bind (blockP 64) fun b => pure (.mk 3 p t.txt 1 [ns, b])
  | false => bind (blockP 64) fun b => pure (.mk 3 p t.txt 0 [ns, b])
def progStep (ks : List Ast) : Par (Option (List Ast)) := bind peekP fun t =>
  if t.kind = 4 then pure none
  else bind (isNextP ⟨#[116, 97, 98, 108, 101]⟩) fun
    | true => bind tableP fun a => pure (some (ks ++ [a]))
    | false => bind procP fun a => pure (some (ks ++ [a]))
def programP : Par Ast := bind peekP fun t => bind (many progStep []) fun ks => pure (nodeA 1 t.at' ks)
end Go.Proofs.YtpemghcafbedeaaGreatDoor
end
section
namespace Go.Proofs.YtpemghcafbedeaaGreatDoor
open Par
theorem less_isNext (s : ByteArray) : Less (isNextP s) := fun l b l' h => by
  cases l with
  | nil => simp [isNextP] at h
  | cons t l => simp only [isNextP, Res.ok.injEq] at h; rw [← h.2]; exact Nat.le_refl _
theorem less_skip (s : ByteArray) : Less (skipP s) := fun l b l' h => by
  cases l with
  | nil => simp [skipP] at h
  | cons t l =>
    simp only [skipP] at h
    split at h <;> simp only [Res.ok.injEq] at h <;> rw [← h.2] <;> simp
theorem less_expect (s : ByteArray) : Less (expectP s) := fun l b l' h => by
  cases l with
  | nil => simp [expectP] at h
  | cons t l =>
    simp only [expectP] at h
    split at h
    · simp only [Res.ok.injEq] at h; rw [← h.2]; simp
    · simp at h
theorem less_take (k : Int) : Less (takeP k) := fun l b l' h => by
  cases l with
  | nil => simp [takeP] at h
  | cons t l =>
    simp only [takeP] at h
    split at h
    · simp only [Res.ok.injEq] at h; rw [← h.2]; simp
    · simp at h
theorem less_peek : Less peekP := fun l b l' h => by
  cases l with
  | nil => simp [peekP] at h
  | cons t l => simp only [peekP, Res.ok.injEq] at h; rw [← h.2]; exact Nat.le_refl _
theorem less_next : Less nextP := fun l b l' h => by
  cases l with
  | nil => simp [nextP] at h
  | cons t l => simp only [nextP, Res.ok.injEq] at h; rw [← h.2]; simp
theorem less_enter (s : ByteArray) (r : Nat) : Less (enterP s r) := fun l b l' h => by
  cases l with
  | nil => simp [enterP] at h
  | cons t l =>
    simp only [enterP] at h
    split at h
    · split at h
      · simp at h
      · simp only [Res.ok.injEq] at h; rw [← h.2]; simp
    · simp at h
theorem less_fail {α : Type} : Less (failP : Par α) := fun l b l' h => by
  cases l <;> simp [failP] at h
theorem less_ite {α : Type} {c : Prop} [Decidable c] {f g : Par α} (hf : Less f) (hg : Less g) : Less (if c then f else g) := by
  split <;> assumption
theorem less_bool {α : Type} {f g : Par α} (hf : Less f) (hg : Less g) (b : Bool) : Less (match b with | true => f | false => g) := by
  cases b <;> assumption
def Takes {α : Type} (f : Par α) : Prop := ∀ l a l', f l = .ok a l' → l'.length < l.length
theorem Takes.less {α : Type} {f : Par α} (h : Takes f) : Less f := fun l a l' e => Nat.le_of_lt (h l a l' e)
theorem Takes.left {α β : Type} {f : Par α} {g : α → Par β} (hf : Takes f) (hg : ∀ a, Less (g a)) : Takes (bind f g) := fun l b l' h => by
  simp only [Par.bind] at h
  cases hfl : f l with
  | err p c => rw [hfl] at h; simp at h
  | ok a l1 =>
    rw [hfl] at h
    exact Nat.lt_of_le_of_lt (hg a l1 b l' h) (hf l a l1 hfl)
theorem Takes.right {α β : Type} {f : Par α} {g : α → Par β} (hf : Less f) (hg : ∀ a, Takes (g a)) : Takes (bind f g) := fun l b l' h => by
  simp only [Par.bind] at h
  cases hfl : f l with
  | err p c => rw [hfl] at h; simp at h
  | ok a l1 =>
    rw [hfl] at h
    exact Nat.lt_of_lt_of_le (hg a l1 b l' h) (hf l a l1 hfl)
theorem takes_expect (s : ByteArray) : Takes (expectP s) := fun l b l' h => by
  cases l with
  | nil => simp [expectP] at h
  | cons t l =>
    simp only [expectP] at h
    split at h
    · simp only [Res.ok.injEq] at h; rw [← h.2]; simp
    · simp at h
theorem takes_take (k : Int) : Takes (takeP k) := fun l b l' h => by
  cases l with
  | nil => simp [takeP] at h
  | cons t l =>
    simp only [takeP] at h
    split at h
    · simp only [Res.ok.injEq] at h; rw [← h.2]; simp
    · simp at h
theorem takes_next : Takes nextP := fun l b l' h => by
  cases l with
  | nil => simp [nextP] at h
  | cons t l => simp only [nextP, Res.ok.injEq] at h; rw [← h.2]; simp
theorem takes_fail {α : Type} : Takes (failP : Par α) := fun l b l' h => by
  cases l <;> simp [failP] at h
theorem adv_skip {α : Type} {s : ByteArray} {g h : α → Par (Option α)} (hg : ∀ a, Less (g a)) (hh : ∀ a, Less (h a)) (hn : ∀ a l b l', h a l = .ok (some b) l' → l'.length < l.length) :
    Adv (fun a => bind (skipP s) fun | true => g a | false => h a) := fun a l b l' e => by
  refine ⟨fun hb => ?_, Less.bind (less_skip s) (fun x => less_bool (hg a) (hh a) x) l b l' e⟩
  cases l with
  | nil => simp [Par.bind, skipP] at e
  | cons t l =>
    simp only [Par.bind, skipP] at e
    by_cases ht : t.txt = s
    · rw [if_pos ht] at e
      have := hg a l b l' e
      simp only [List.length_cons]; omega
    · rw [if_neg ht] at e
      obtain ⟨c, rfl⟩ := Option.isSome_iff_exists.1 hb
      exact hn a _ c l' e
theorem none_no {α : Type} : ∀ (a : α) (l : List PT) (b : α) (l' : List PT), (pure none : Par (Option α)) l = .ok (some b) l' → l'.length < l.length := fun _ l b l' h => by simp [Par.pure] at h
theorem less_times {fac : Par Ast} (h : Less fac) (a : Ast) : Less (timesStep fac a) :=
  Less.bind (less_skip _) fun b => less_bool (Less.bind h fun _ => Less.pure _) (Less.pure _) b
theorem step_times {fac : Par Ast} (h : Less fac) : Adv (timesStep fac) :=
  adv_skip (fun _ => Less.bind h fun _ => Less.pure _) (fun _ => Less.pure _) none_no
theorem less_term {fac : Par Ast} (h : Less fac) : Less (termP fac) := Less.bind h fun a => Less.many (less_times h) a
theorem less_sum {fac : Par Ast} (h : Less fac) (a : Ast) : Less (sumStep fac a) :=
  Less.bind (less_skip _) fun b => less_bool (Less.bind (less_term h) fun _ => Less.pure _) (Less.bind (less_skip _) fun c => less_bool (Less.bind (less_term h) fun _ => Less.pure _) (Less.pure _) c) b
theorem step_sum {fac : Par Ast} (h : Less fac) : Adv (sumStep fac) :=
  adv_skip (fun _ => Less.bind (less_term h) fun _ => Less.pure _) (fun _ => Less.bind (less_skip _) fun c => less_bool (Less.bind (less_term h) fun _ => Less.pure _) (Less.pure _) c)
    (fun _ l b l' e => ((adv_skip (s := ⟨#[45]⟩) (g := fun a => bind (termP fac) fun b => pure (some (bothA 24 a b))) (h := fun _ => pure none) (fun _ => Less.bind (less_term h) fun _ => Less.pure _) (fun _ => Less.pure _) none_no) _ l (some b) l' e).1 rfl)
theorem less_expr {fac : Par Ast} (h : Less fac) : Less (exprP fac) := Less.bind (less_term h) fun a => Less.many (less_sum h) a
theorem less_number : Less numberP := Less.bind (less_take _) fun _ => Less.pure _
theorem less_factorOf (r : Nat) {fac : Par Ast} (h : Less fac) : Less (factorOf r fac) :=
  Less.bind less_peek fun _ => less_ite less_number <| less_ite (Less.bind less_next fun _ => Less.pure _) <|
    less_ite (Less.bind (less_enter _ _) fun _ => Less.bind (less_expr h) fun _ => Less.bind (less_expect _) fun _ => Less.pure _) <|
    less_ite (Less.bind (less_enter _ _) fun _ => Less.bind h fun _ => Less.pure _) less_fail
theorem less_factor (r : Nat) : Less (factorP r) := by
  induction r with
  | zero => exact less_factorOf 0 less_fail
  | succ r ih => exact less_factorOf (r + 1) ih
theorem less_exprR (r : Nat) : Less (exprR r) := less_expr (less_factor r)
theorem less_word : Less wordP := Less.bind (less_take _) fun _ => Less.pure _
theorem less_wordsStep (ks : List Ast) : Less (wordsStep ks) := Less.bind (less_skip _) fun b => less_bool (Less.bind less_word fun _ => Less.pure _) (Less.pure _) b
theorem step_words : Adv wordsStep := adv_skip (fun _ => Less.bind less_word fun _ => Less.pure _) (fun _ => Less.pure _) none_no
theorem less_words : Less wordsP := Less.bind less_word fun _ => Less.many less_wordsStep _
theorem less_rowOf (r : Nat) (t : PT) : Less (rowOfP r t) := Less.bind (less_enter _ _) fun _ => Less.bind (less_exprR _) fun _ => Less.bind (less_expect _) fun _ => Less.pure _
theorem less_row (r : Nat) : Less (rowP r) := Less.bind (less_take _) fun t => less_rowOf r t
theorem less_cell (r : Nat) : Less (cellP r) := Less.bind (less_row r) fun _ => Less.bind (less_expect _) fun _ => Less.bind less_word fun _ => Less.pure _
theorem less_end (a : Ast) : Less (endP a) := Less.bind (less_expect _) fun _ => Less.pure _
theorem less_read (r p : Nat) : Less (readP r p) := Less.bind (less_take _) fun _ => Less.bind (less_expect _) fun _ => Less.bind (less_cell r) fun _ => Less.bind (less_skip _) fun b => less_bool (Less.bind (less_expect _) fun _ => less_end _) (less_end _) b
theorem less_set (r p : Nat) : Less (setP r p) := Less.bind (less_cell r) fun _ => Less.bind (less_expect _) fun _ => Less.bind (less_exprR r) fun _ => less_end _
theorem less_putStep (r : Nat) (ks : List Ast) : Less (putStep r ks) := Less.bind (less_skip _) fun b => less_bool (Less.bind (less_exprR r) fun _ => Less.pure _) (Less.pure _) b
theorem step_put (r : Nat) : Adv (putStep r) := adv_skip (fun _ => Less.bind (less_exprR r) fun _ => Less.pure _) (fun _ => Less.pure _) none_no
theorem less_put (r p : Nat) : Less (putP r p) := Less.bind (less_row r) fun _ => Less.bind (less_expect _) fun _ => Less.bind (less_exprR r) fun _ => Less.bind (Less.many (less_putStep r) _) fun _ => Less.bind (less_expect _) fun _ => less_end _
theorem less_delete (r p : Nat) : Less (deleteP r p) := Less.bind (less_row r) fun _ => less_end _
theorem less_scan (p : Nat) : Less (scanP p) := Less.bind (less_take _) fun _ => Less.bind (less_expect _) fun _ => Less.bind less_word fun _ => Less.bind (less_expect _) fun _ => Less.bind less_word fun _ => less_end _
theorem less_lock (p : Nat) : Less (lockP p) := Less.bind less_word fun _ => Less.bind (less_skip _) fun b => less_bool (less_end _) (Less.bind (less_expect _) fun _ => less_end _) b
theorem less_release (r p : Nat) : Less (releaseP r p) := Less.bind (less_take _) fun t => Less.bind (less_isNext _) fun b => less_bool (Less.bind (less_rowOf r t) fun _ => less_end _) (less_end _) b
theorem less_ifTail {B : Par Ast} (h : Less B) (p : Nat) (n : Int) (a b : Ast) : Less (ifTail B p n a b) := Less.bind h fun _ => Less.bind (less_skip _) fun b => less_bool (Less.bind h fun _ => Less.pure _) (Less.pure _) b
theorem less_if (r : Nat) {B : Par Ast} (h : Less B) (p : Nat) : Less (ifP r B p) := Less.bind (less_exprR r) fun _ => Less.bind (less_skip _) fun b => less_bool (Less.bind (less_exprR r) fun _ => less_ifTail h p _ _ _) (Less.bind (less_expect _) fun _ => Less.bind (less_exprR r) fun _ => less_ifTail h p _ _ _) b
theorem less_for {B : Par Ast} (h : Less B) (p : Nat) : Less (forP B p) := Less.bind (less_take _) fun _ => Less.bind (less_expect _) fun _ => Less.bind less_number fun _ => Less.bind (less_expect _) fun _ => Less.bind less_number fun _ => Less.bind h fun _ => Less.pure _
theorem less_let (r p : Nat) : Less (letP r p) := Less.bind (less_take _) fun _ => Less.bind (less_expect _) fun _ => Less.bind (less_exprR r) fun _ => less_end _
theorem less_emit (r p : Nat) : Less (emitP r p) := Less.bind (less_exprR r) fun _ => less_end _
theorem less_rest (r : Nat) {B : Par Ast} (h : Less B) (j p : Nat) : Less (restP r B j p) := by
  unfold restP
  split
  · exact less_read r p
  · exact less_set r p
  · exact less_put r p
  · exact less_delete r p
  · exact less_scan p
  · exact less_lock p
  · exact less_release r p
  · exact less_if r h p
  · exact less_for h p
  · exact less_let r p
  · exact less_emit r p
  · exact less_end _
  · exact less_end _
  · exact less_fail
theorem takes_stmt (r : Nat) {B : Par Ast} (h : Less B) : Takes (stmtP r B) := Takes.right less_peek fun t => by
  show Takes (if _ then _ else _)
  split
  · exact Takes.left takes_next fun t => less_rest r h _ _
  · exact takes_fail
theorem less_blockStep {st : Par Ast} (h : Takes st) (ks : List Ast) : Less (blockStep st ks) := Less.bind (less_isNext _) fun b => less_bool (Less.pure _) (Less.bind h.less fun _ => Less.pure _) b
theorem step_block {st : Par Ast} (h : Takes st) : Adv (blockStep st) := fun ks l b l' e => by
  refine ⟨fun hb => ?_, less_blockStep h ks l b l' e⟩
  cases l with
  | nil => simp [blockStep, Par.bind, isNextP] at e
  | cons t l =>
    simp only [blockStep, Par.bind, isNextP] at e
    by_cases ht : t.txt = ⟨#[125]⟩
    · simp only [ht, decide_true, Par.pure, Res.ok.injEq] at e
      rw [← e.1] at hb; simp at hb
    · simp only [ht, decide_false, Par.bind] at e
      cases hs : st (t :: l) with
      | err p c => rw [hs] at e; simp at e
      | ok s l1 =>
        rw [hs] at e
        simp only [Par.pure, Res.ok.injEq] at e
        rw [← e.2]
        exact h _ _ _ hs
theorem less_blockOf (r : Nat) {st : Par Ast} (h : Takes st) : Less (blockOf r st) := Less.bind (less_enter _ _) fun _ => Less.bind (Less.many (less_blockStep h) _) fun _ => Less.bind (less_expect _) fun _ => Less.pure _
theorem less_block (r : Nat) : Less (blockP r) := by
  induction r with
  | zero => exact less_blockOf 0 takes_fail
  | succ r ih => exact less_blockOf (r + 1) (takes_stmt r ih)
theorem less_names : Less namesP := Less.bind less_peek fun _ => Less.bind (less_isNext _) fun b => less_bool (Less.pure _) (Less.bind less_words fun _ => Less.pure _) b
theorem takes_table : Takes tableP := Takes.left (takes_expect _) fun _ => Less.bind (less_take _) fun _ => Less.bind (less_expect _) fun _ => Less.bind less_words fun _ => Less.bind (less_expect _) fun _ => less_end _
theorem takes_proc : Takes procP := Takes.left (takes_expect _) fun _ => Less.bind (less_take _) fun _ => Less.bind (less_expect _) fun _ => Less.bind less_names fun _ => Less.bind (less_expect _) fun _ => Less.bind (less_skip _) fun b => less_bool (Less.bind (less_block _) fun _ => Less.pure _) (Less.bind (less_block _) fun _ => Less.pure _) b
theorem less_progStep (ks : List Ast) : Less (progStep ks) := Less.bind less_peek fun _ => less_ite (Less.pure _) (Less.bind (less_isNext _) fun b => less_bool (Less.bind takes_table.less fun _ => Less.pure _) (Less.bind takes_proc.less fun _ => Less.pure _) b)
theorem step_prog : Adv progStep := fun ks l b l' e => by
  refine ⟨fun hb => ?_, less_progStep ks l b l' e⟩
  cases l with
  | nil => simp [progStep, Par.bind, peekP] at e
  | cons t l =>
    simp only [progStep, Par.bind, peekP] at e
    by_cases ht : t.kind = 4
    · rw [if_pos ht] at e
      simp only [Par.pure, Res.ok.injEq] at e
      rw [← e.1] at hb; simp at hb
    · rw [if_neg ht] at e
      simp only [Par.bind, isNextP] at e
      by_cases hx : t.txt = ⟨#[116, 97, 98, 108, 101]⟩
      · simp only [hx, decide_true, Par.bind] at e
        cases hs : tableP (t :: l) with
        | err p c => rw [hs] at e; simp at e
        | ok s l1 =>
          rw [hs] at e
          simp only [Par.pure, Res.ok.injEq] at e
          rw [← e.2]
          exact takes_table _ _ _ hs
      · simp only [hx, decide_false, Par.bind] at e
        cases hs : procP (t :: l) with
        | err p c => rw [hs] at e; simp at e
        | ok s l1 =>
          rw [hs] at e
          simp only [Par.pure, Res.ok.injEq] at e
          rw [← e.2]
          exact takes_proc _ _ _ hs
end Go.Proofs.YtpemghcafbedeaaGreatDoor
end
section
namespace Go.Proofs.YtpemghcafbedeaaGreatDoor
open Par
mutual
def Ast.size : Ast → Nat
  | .mk _ _ _ _ ks => sizeL ks + 1
def sizeL : List Ast → Nat
  | [] => 0
  | a :: r => a.size + sizeL r
end
mutual
def post (b : Nat) : Ast → List Nd
  | .mk k a t n ks => postL b ks ++ [⟨k, a, t, n, roots b ks⟩]
def postL (b : Nat) : List Ast → List Nd
  | [] => []
  | x :: r => post b x ++ postL (b + x.size) r
def roots (b : Nat) : List Ast → List Int
  | [] => []
  | x :: r => (((b + x.size : Nat) : Int) - 1) :: roots (b + x.size) r
end
theorem size_pos (a : Ast) : 1 ≤ a.size := by cases a; simp [Ast.size]
theorem sizeL_append (x y : List Ast) : sizeL (x ++ y) = sizeL x + sizeL y := by
  induction x with
  | nil => simp [sizeL]
  | cons a r ih => simp only [List.cons_append, sizeL, ih]; omega
theorem sizeL_one (a : Ast) : sizeL [a] = a.size := by simp [sizeL]
mutual
theorem post_length (b : Nat) : ∀ a : Ast, (post b a).length = a.size
  | .mk k a t n ks => by simp only [post, List.length_append, postL_length b ks, Ast.size, List.length_singleton]
theorem postL_length (b : Nat) : ∀ l : List Ast, (postL b l).length = sizeL l
  | [] => by simp [postL, sizeL]
  | x :: r => by simp only [postL, List.length_append, post_length b x, postL_length (b + x.size) r, sizeL]
end
theorem postL_append (b : Nat) (x y : List Ast) : postL b (x ++ y) = postL b x ++ postL (b + sizeL x) y := by
  induction x generalizing b with
  | nil => simp [postL, sizeL]
  | cons a r ih => simp only [List.cons_append, postL, ih, List.append_assoc, sizeL, Nat.add_assoc]
theorem postL_one (b : Nat) (a : Ast) : postL b [a] = post b a := by simp [postL]
theorem roots_append (b : Nat) (x y : List Ast) : roots b (x ++ y) = roots b x ++ roots (b + sizeL x) y := by
  induction x generalizing b with
  | nil => simp [roots, sizeL]
  | cons a r ih => simp only [List.cons_append, roots, ih, sizeL, Nat.add_assoc]
theorem roots_one (b : Nat) (a : Ast) : roots b [a] = [((b + a.size : Nat) : Int) - 1] := by simp [roots]
theorem roots_length (b : Nat) (x : List Ast) : (roots b x).length = x.length := by
  induction x generalizing b with
  | nil => rfl
  | cons a r ih => simp only [roots, List.length_cons, ih]
theorem post_root (b : Nat) (a : Ast) : ∃ ks, (post b a).getD (a.size - 1) default = ⟨(match a with | .mk k _ _ _ _ => k), a.at', (match a with | .mk _ _ t _ _ => t), (match a with | .mk _ _ _ n _ => n), ks⟩ := by
  cases a with
  | mk k a t n ks =>
    refine ⟨roots b ks, ?_⟩
    simp only [post, Ast.size, Nat.add_sub_cancel, Ast.at']
    rw [← postL_length b ks]
    simp [List.getD]
def Sz {α : Type} (c : Nat) (f : Par α) (m : α → Nat) : Prop := ∀ l a l', f l = .ok a l' → m a + l'.length ≤ c + l.length
theorem Sz.bind {α β : Type} {c : Nat} {f : Par α} {g : α → Par β} {m : α → Nat} {m' : β → Nat} (hf : Sz c f m) (hg : ∀ a, Sz (m a) (g a) m') : Sz c (Par.bind f g) m' := fun l b l' h => by
  simp only [Par.bind] at h
  cases hfl : f l with
  | err p c => rw [hfl] at h; simp at h
  | ok a l1 =>
    rw [hfl] at h
    have h1 := hg a l1 b l' h
    have h2 := hf l a l1 hfl
    omega
theorem Sz.pure {α : Type} {c : Nat} {a : α} {m : α → Nat} (h : m a ≤ c) : Sz c (Par.pure a) m := fun l b l' e => by
  simp only [Par.pure, Res.ok.injEq] at e
  rw [← e.1, ← e.2]; omega
theorem Sz.less {α : Type} {c : Nat} {f : Par α} (h : Less f) : Sz c f (fun _ => c) := fun l a l' e => by
  have := h l a l' e
  show c + _ ≤ _
  omega
theorem Sz.takes {α : Type} {c : Nat} {f : Par α} (h : Takes f) : Sz c f (fun _ => c + 1) := fun l a l' e => by
  have := h l a l' e
  show c + 1 + _ ≤ _
  omega
theorem Sz.skip {c : Nat} {s : ByteArray} : Sz c (skipP s) (fun b => if b then c + 1 else c) := fun l a l' e => by
  cases l with
  | nil => simp [skipP] at e
  | cons t l =>
    simp only [skipP] at e
    split at e <;> simp only [Res.ok.injEq] at e <;> rw [← e.1, ← e.2] <;> simp <;> omega
theorem Sz.up {α : Type} {c k : Nat} {f : Par α} {m m' : α → Nat} (h : Sz c f m) (hm : ∀ a, m' a ≤ m a + k) : Sz (c + k) f m' := fun l a l' e => by
  have h1 := h l a l' e
  have h2 := hm a
  omega
theorem Sz.ite {α : Type} {c : Nat} {p : Prop} [Decidable p] {f g : Par α} {m : α → Nat} (hf : Sz c f m) (hg : Sz c g m) : Sz c (if p then f else g) m := by
  split <;> assumption
theorem Sz.bool {α : Type} {c d : Nat} {f g : Par α} {m : α → Nat} (hf : Sz c f m) (hg : Sz d g m) (b : Bool) : Sz (if b then c else d) (match b with | true => f | false => g) m := by
  cases b
  · exact hg
  · exact hf
theorem Sz.bool1 {α : Type} {c : Nat} {f g : Par α} {m : α → Nat} (hf : Sz c f m) (hg : Sz c g m) (b : Bool) : Sz c (match b with | true => f | false => g) m := by
  cases b
  · exact hg
  · exact hf
theorem Sz.fail {α : Type} {c : Nat} {m : α → Nat} : Sz c (failP : Par α) m := fun l a l' e => by cases l <;> simp [failP] at e
def optC {α : Type} (cr : α → Nat) (n : Nat) : Option α → Nat
  | none => n
  | some b => cr b
theorem Sz.loop {α : Type} {cr : α → Nat} {step : α → Par (Option α)} (h : ∀ a, Sz (cr a) (step a) (optC cr (cr a))) (m : Nat) (a : α) : Sz (cr a) (loop step m a) cr := by
  induction m generalizing a with
  | zero => intro l b l' e; simp [Par.loop] at e
  | succ m ih =>
    refine Sz.bind (h a) fun b => ?_
    cases b with
    | none => exact Sz.pure (Nat.le_refl _)
    | some b => exact ih b
theorem Sz.many {α : Type} {cr : α → Nat} {step : α → Par (Option α)} (h : ∀ a, Sz (cr a) (step a) (optC cr (cr a))) (a : α) : Sz (cr a) (many step a) cr :=
  fun l => Sz.loop h (l.length + 1) a l
theorem sz_both (k : Int) (a b : Ast) : (bothA k a b).size = a.size + b.size + 1 := by simp [bothA, Ast.size, sizeL]
theorem sz_times {fac : Par Ast} (h : ∀ c, Sz c fac (fun a => a.size + c)) (a : Ast) : Sz a.size (timesStep fac a) (optC Ast.size a.size) :=
  Sz.bind Sz.skip fun b => Sz.bool (Sz.bind (h _) fun b => Sz.pure (by simp only [optC, sz_both]; omega)) (Sz.pure (Nat.le_refl _)) b
theorem sz_term {fac : Par Ast} (h : ∀ c, Sz c fac (fun a => a.size + c)) (c : Nat) : Sz c (termP fac) (fun a => a.size + c) := by
  have := Sz.up (k := c) (m' := fun a => a.size + c) (Sz.bind (h 0) fun a => Sz.many (cr := Ast.size) (sz_times h) a) (fun a => Nat.le_refl _)
  rw [Nat.zero_add] at this; exact this
theorem sz_sum {fac : Par Ast} (h : ∀ c, Sz c fac (fun a => a.size + c)) (a : Ast) : Sz a.size (sumStep fac a) (optC Ast.size a.size) :=
  Sz.bind Sz.skip fun b => Sz.bool (Sz.bind (sz_term h _) fun b => Sz.pure (by simp only [optC, sz_both]; omega)) (Sz.bind Sz.skip fun b => Sz.bool (Sz.bind (sz_term h _) fun b => Sz.pure (by simp only [optC, sz_both]; omega)) (Sz.pure (Nat.le_refl _)) b) b
theorem sz_expr {fac : Par Ast} (h : ∀ c, Sz c fac (fun a => a.size + c)) (c : Nat) : Sz c (exprP fac) (fun a => a.size + c) := by
  have := Sz.up (k := c) (m' := fun a => a.size + c) (Sz.bind (sz_term h 0) fun a => Sz.many (cr := Ast.size) (sz_sum h) a) (fun a => Nat.le_refl _)
  rw [Nat.zero_add] at this; exact this
theorem sz_number (c : Nat) : Sz c numberP (fun a => a.size + c) := Sz.bind (Sz.takes (takes_take _)) fun _ => Sz.pure (by simp [Ast.size, sizeL]; omega)
theorem takes_enter (s : ByteArray) (r : Nat) : Takes (enterP s r) := fun l b l' h => by
  cases l with
  | nil => simp [enterP] at h
  | cons t l =>
    simp only [enterP] at h
    split at h
    · split at h
      · simp at h
      · simp only [Res.ok.injEq] at h; rw [← h.2]; simp
    · simp at h
theorem sz_factorOf (r : Nat) {fac : Par Ast} (h : ∀ c, Sz c fac (fun a => a.size + c)) (c : Nat) : Sz c (factorOf r fac) (fun a => a.size + c) :=
  Sz.bind (Sz.less less_peek) fun _ => Sz.ite (sz_number c) <| Sz.ite (Sz.bind (Sz.takes takes_next) fun _ => Sz.pure (by simp [Ast.size, sizeL]; omega)) <|
    Sz.ite (Sz.bind (Sz.less (less_enter _ _)) fun _ => Sz.bind (sz_expr h c) fun _ => Sz.bind (Sz.less (less_expect _)) fun _ => Sz.pure (Nat.le_refl _)) <|
    Sz.ite (Sz.bind (Sz.takes (takes_enter _ _)) fun _ => Sz.bind (h _) fun _ => Sz.pure (by simp [nodeA, Ast.size, sizeL]; omega)) Sz.fail
theorem sz_factor (r c : Nat) : Sz c (factorP r) (fun a => a.size + c) := by
  induction r generalizing c with
  | zero => exact sz_factorOf 0 (fun _ => Sz.fail) c
  | succ r ih => exact sz_factorOf (r + 1) ih c
theorem sz_exprR (r c : Nat) : Sz c (exprR r) (fun a => a.size + c) := sz_expr (sz_factor r) c
theorem sz_word (c : Nat) : Sz c wordP (fun a => a.size + c) := Sz.bind (Sz.takes (takes_take _)) fun _ => Sz.pure (by simp [wordA, Ast.size, sizeL]; omega)
theorem sz_words (c : Nat) : Sz c wordsP (fun ks => sizeL ks + c) := by
  have h1 : ∀ ks, Sz (sizeL ks) (wordsStep ks) (optC sizeL (sizeL ks)) := fun ks =>
    Sz.bind Sz.skip fun b => Sz.bool (Sz.bind (sz_word _) fun w => Sz.pure (by simp only [optC, sizeL_append, sizeL_one]; omega)) (Sz.pure (Nat.le_refl _)) b
  have := Sz.up (k := c) (m' := fun ks => sizeL ks + c) (Sz.bind (sz_word 0) fun w => by
    have h2 := Sz.many (cr := sizeL) h1 [w]
    rw [sizeL_one] at h2
    exact h2) (fun a => Nat.le_refl _)
  rw [Nat.zero_add] at this; exact this
theorem sz_rowOf (r c : Nat) (t : PT) : Sz c (rowOfP r t) (fun a => a.size + c) :=
  Sz.bind (Sz.takes (takes_enter _ _)) fun _ => Sz.bind (sz_exprR _ _) fun _ => Sz.bind (Sz.less (less_expect _)) fun _ => Sz.pure (by simp [Ast.size, sizeL]; omega)
theorem sz_row (r c : Nat) : Sz c (rowP r) (fun a => a.size + c) := Sz.bind (Sz.less (less_take _)) fun t => sz_rowOf r c t
theorem sz_cell (r c : Nat) : Sz c (cellP r) (fun a => a.1.size + a.2.size + c) :=
  Sz.bind (sz_row r c) fun _ => Sz.bind (Sz.less (less_expect _)) fun _ => Sz.bind (sz_word _) fun _ => Sz.pure (by simp; omega)
theorem sz_end {c : Nat} (a : Ast) (h : a.size ≤ c + 1) : Sz c (endP a) (fun a => a.size) := Sz.bind (Sz.takes (takes_expect _)) fun _ => Sz.pure (by omega)
theorem sz_nil {c : Nat} (k : Int) (p : Nat) (t : ByteArray) (n : Int) (ks : List Ast) (h : sizeL ks ≤ c) : (Ast.mk k p t n ks).size ≤ c + 1 := by simp only [Ast.size]; omega
theorem sz_read (r p c : Nat) : Sz c (readP r p) Ast.size :=
  Sz.bind (Sz.less (less_take _)) fun _ => Sz.bind (Sz.less (less_expect _)) fun _ => Sz.bind (sz_cell r c) fun rc => Sz.bind (Sz.less (less_skip _)) fun b => by
    cases b
    · exact sz_end _ (sz_nil _ _ _ _ _ (by simp only [sizeL]; omega))
    · exact Sz.bind (Sz.less (less_expect _)) fun _ => sz_end _ (sz_nil _ _ _ _ _ (by simp only [sizeL]; omega))
theorem sz_set (r p c : Nat) : Sz c (setP r p) Ast.size :=
  Sz.bind (sz_cell r c) fun rc => Sz.bind (Sz.less (less_expect _)) fun _ => Sz.bind (sz_exprR r _) fun v => sz_end _ (sz_nil _ _ _ _ _ (by simp only [sizeL]; omega))
theorem sz_put (r p c : Nat) : Sz c (putP r p) Ast.size := by
  have h1 : ∀ ks, Sz (sizeL ks + c) (putStep r ks) (optC (fun ks => sizeL ks + c) (sizeL ks + c)) := fun ks =>
    Sz.bind Sz.skip fun b => Sz.bool (Sz.bind (sz_exprR r _) fun w => Sz.pure (by simp only [optC, sizeL_append, sizeL_one]; omega)) (Sz.pure (Nat.le_refl _)) b
  exact Sz.bind (sz_row r c) fun a => Sz.bind (Sz.less (less_expect _)) fun _ => Sz.bind (sz_exprR r _) fun e => Sz.bind (by
    have h2 := Sz.many (cr := fun ks => sizeL ks + c) h1 [a, e]
    have e2 : sizeL [a, e] + c = e.size + (a.size + c) := by simp only [sizeL]; omega
    rw [e2] at h2
    exact h2) fun ks => Sz.bind (Sz.less (less_expect _)) fun _ => sz_end _ (sz_nil _ _ _ _ _ (by omega))
theorem sz_delete (r p c : Nat) : Sz c (deleteP r p) Ast.size := Sz.bind (sz_row r c) fun a => sz_end _ (sz_nil _ _ _ _ _ (by simp only [sizeL]; omega))
theorem sz_scan (p c : Nat) : Sz c (scanP p) Ast.size :=
  Sz.bind (Sz.less (less_take _)) fun _ => Sz.bind (Sz.less (less_expect _)) fun _ => Sz.bind (sz_word _) fun a => Sz.bind (Sz.less (less_expect _)) fun _ => Sz.bind (sz_word _) fun b => sz_end _ (sz_nil _ _ _ _ _ (by simp only [sizeL]; omega))
theorem sz_lock (p c : Nat) : Sz c (lockP p) Ast.size :=
  Sz.bind (sz_word c) fun a => Sz.bind (Sz.less (less_skip _)) fun b => by
    cases b
    · exact Sz.bind (Sz.less (less_expect _)) fun _ => sz_end _ (sz_nil _ _ _ _ _ (by simp only [sizeL]; omega))
    · exact sz_end _ (sz_nil _ _ _ _ _ (by simp only [sizeL]; omega))
theorem sz_release (r p c : Nat) : Sz c (releaseP r p) Ast.size :=
  Sz.bind (Sz.takes (takes_take _)) fun t => Sz.bind (Sz.less (less_isNext _)) fun b => by
    cases b
    · exact sz_end _ (sz_nil _ _ _ _ _ (by simp only [sizeL, wordA, Ast.size]; omega))
    · exact Sz.bind (sz_rowOf r _ t) fun a => sz_end _ (sz_nil _ _ _ _ _ (by simp only [sizeL]; omega))
theorem sz_ifTail {B : Par Ast} (h : ∀ c, Sz c B (fun a => a.size + c)) (p : Nat) (n : Int) (a b : Ast) (c : Nat) (hc : a.size + b.size + 1 ≤ c) : Sz c (ifTail B p n a b) Ast.size :=
  Sz.bind (h c) fun x => Sz.bind (Sz.less (less_skip _)) fun u => by
    cases u
    · exact Sz.pure (by simp only [Ast.size, sizeL]; omega)
    · exact Sz.bind (h _) fun y => Sz.pure (by simp only [Ast.size, sizeL]; omega)
theorem sz_if (r : Nat) {B : Par Ast} (h : ∀ c, Sz c B (fun a => a.size + c)) (p c : Nat) (hc : 1 ≤ c) : Sz c (ifP r B p) Ast.size :=
  Sz.bind (sz_exprR r c) fun a => Sz.bind (Sz.less (less_skip _)) fun u => by
    cases u
    · exact Sz.bind (Sz.less (less_expect _)) fun _ => Sz.bind (sz_exprR r _) fun b => sz_ifTail h p _ a b _ (by omega)
    · exact Sz.bind (sz_exprR r _) fun b => sz_ifTail h p _ a b _ (by omega)
theorem sz_for {B : Par Ast} (h : ∀ c, Sz c B (fun a => a.size + c)) (p c : Nat) (hc : 1 ≤ c) : Sz c (forP B p) Ast.size :=
  Sz.bind (Sz.less (less_take _)) fun _ => Sz.bind (Sz.less (less_expect _)) fun _ => Sz.bind (sz_number c) fun a => Sz.bind (Sz.less (less_expect _)) fun _ => Sz.bind (sz_number _) fun b => Sz.bind (h _) fun x => Sz.pure (by simp only [Ast.size, sizeL]; omega)
theorem sz_let (r p c : Nat) : Sz c (letP r p) Ast.size :=
  Sz.bind (Sz.less (less_take _)) fun _ => Sz.bind (Sz.less (less_expect _)) fun _ => Sz.bind (sz_exprR r _) fun v => sz_end _ (sz_nil _ _ _ _ _ (by simp only [sizeL]; omega))
theorem sz_emit (r p c : Nat) : Sz c (emitP r p) Ast.size := Sz.bind (sz_exprR r _) fun v => sz_end _ (sz_nil _ _ _ _ _ (by simp only [sizeL]; omega))
theorem sz_rest (r : Nat) {B : Par Ast} (h : ∀ c, Sz c B (fun a => a.size + c)) (j p c : Nat) (hc : 1 ≤ c) : Sz c (restP r B j p) Ast.size := by
  unfold restP
  split
  · exact sz_read r p c
  · exact sz_set r p c
  · exact sz_put r p c
  · exact sz_delete r p c
  · exact sz_scan p c
  · exact sz_lock p c
  · exact sz_release r p c
  · exact sz_if r h p c hc
  · exact sz_for h p c hc
  · exact sz_let r p c
  · exact sz_emit r p c
  · exact sz_end _ (sz_nil _ _ _ _ _ (by simp only [sizeL]; omega))
  · exact sz_end _ (sz_nil _ _ _ _ _ (by simp only [sizeL]; omega))
  · exact Sz.fail
theorem Sz.add {α : Type} {c : Nat} {f : Par α} {m : α → Nat} (h : Sz c f m) (k : Nat) : Sz (c + k) f (fun a => m a + k) := h.up fun _ => Nat.le_refl _
theorem sz_stmt (r : Nat) {B : Par Ast} (h : ∀ c, Sz c B (fun a => a.size + c)) (c : Nat) : Sz c (stmtP r B) (fun a => a.size + c) := by
  have h0 : Sz 0 (stmtP r B) Ast.size := Sz.bind (Sz.less less_peek) fun t => by
    show Sz 0 (if _ then _ else _) _
    split
    · exact Sz.bind (Sz.takes takes_next) fun t => sz_rest r h _ _ _ (by omega)
    · exact Sz.fail
  have := h0.add c
  rw [Nat.zero_add] at this; exact this
theorem sz_blockOf (r : Nat) {st : Par Ast} (h : ∀ c, Sz c st (fun a => a.size + c)) (c : Nat) : Sz c (blockOf r st) (fun a => a.size + c) := by
  have h1 : ∀ ks, Sz (sizeL ks + (c + 1)) (blockStep st ks) (optC (fun ks => sizeL ks + (c + 1)) (sizeL ks + (c + 1))) := fun ks =>
    Sz.bind (Sz.less (less_isNext _)) fun b => Sz.bool1 (Sz.pure (Nat.le_refl _)) (Sz.bind (h _) fun s => Sz.pure (by simp only [optC, sizeL_append, sizeL_one]; omega)) b
  exact Sz.bind (Sz.takes (takes_enter _ _)) fun p => Sz.bind (by
    have h2 := Sz.many (cr := fun ks => sizeL ks + (c + 1)) h1 []
    have e2 : sizeL [] + (c + 1) = c + 1 := by simp only [sizeL]; omega
    rw [e2] at h2
    exact h2) fun ks => Sz.bind (Sz.less (less_expect _)) fun _ => Sz.pure (by simp only [nodeA, Ast.size]; omega)
theorem sz_block (r c : Nat) : Sz c (blockP r) (fun a => a.size + c) := by
  induction r generalizing c with
  | zero => exact sz_blockOf 0 (fun _ => Sz.fail) c
  | succ r ih => exact sz_blockOf (r + 1) (sz_stmt r ih) c
theorem sz_names (c : Nat) (hc : 1 ≤ c) : Sz c namesP (fun a => a.size + (c - 1)) :=
  Sz.bind (Sz.less less_peek) fun t => Sz.bind (Sz.less (less_isNext _)) fun b => by
    cases b
    · exact Sz.bind (sz_words _) fun ks => Sz.pure (by simp only [nodeA, Ast.size]; omega)
    · exact Sz.pure (by simp only [nodeA, Ast.size, sizeL]; omega)
theorem sz_table (c : Nat) : Sz c tableP (fun a => a.size + c) := by
  have h0 : Sz 0 tableP Ast.size := Sz.bind (Sz.less (less_expect _)) fun p => Sz.bind (Sz.less (less_take _)) fun t => Sz.bind (Sz.less (less_expect _)) fun _ => Sz.bind (sz_words 0) fun ks => Sz.bind (Sz.less (less_expect _)) fun _ => sz_end _ (sz_nil _ _ _ _ _ (by omega))
  have := h0.add c
  rw [Nat.zero_add] at this; exact this
theorem sz_proc (c : Nat) : Sz c procP (fun a => a.size + c) := by
  have h0 : Sz 0 procP Ast.size := Sz.bind (Sz.takes (takes_expect _)) fun p => Sz.bind (Sz.takes (takes_take _)) fun t => Sz.bind (Sz.less (less_expect _)) fun _ => Sz.bind (sz_names _ (by omega)) fun ns => Sz.bind (Sz.less (less_expect _)) fun _ => Sz.bind (Sz.less (less_skip _)) fun b => by
    cases b
    · exact Sz.bind (sz_block 64 _) fun x => Sz.pure (by simp only [Ast.size, sizeL]; omega)
    · exact Sz.bind (sz_block 64 _) fun x => Sz.pure (by simp only [Ast.size, sizeL]; omega)
  have := h0.add c
  rw [Nat.zero_add] at this; exact this
theorem sz_prog (ks : List Ast) : Sz (sizeL ks) (progStep ks) (optC sizeL (sizeL ks)) :=
  Sz.bind (Sz.less less_peek) fun t => Sz.ite (Sz.pure (Nat.le_refl _)) (Sz.bind (Sz.less (less_isNext _)) fun b =>
    Sz.bool1 (Sz.bind (sz_table _) fun a => Sz.pure (by simp only [optC, sizeL_append, sizeL_one]; omega)) (Sz.bind (sz_proc _) fun a => Sz.pure (by simp only [optC, sizeL_append, sizeL_one]; omega)) b)
end Go.Proofs.YtpemghcafbedeaaGreatDoor
end
section
namespace Go.Proofs.YtpemghcafbedeaaGreatDoor
def nl (c : Int) : Bool := c != 10
theorem blk_rem (r : List Int) : blk true r = run nl r + blk false (r.drop (run nl r)) := by
  induction r with
  | nil => simp [blk, run]
  | cons c r ih =>
    by_cases h : c = 10
    · subst h
      simp [blk, run, nl, isBlank]
    · have hn : nl c = true := by simp [nl, h]
      simp only [blk, run, hn, if_true, if_neg h, List.drop_succ_cons, ih]
      omega
theorem blk_done (b : Bool) (l : List Int) : blk false (l.drop (blk b l)) = 0 := by
  induction l generalizing b with
  | nil => cases b <;> simp [blk]
  | cons c r ih =>
    cases b
    · simp only [blk]
      split
      · rw [Nat.add_comm 1, List.drop_succ_cons]; exact ih false
      · split
        · rw [Nat.add_comm 1, List.drop_succ_cons]; exact ih true
        · rename_i h1 h2
          simp [blk, h1, h2]
    · simp only [blk]
      split
      · rw [Nat.add_comm 1, List.drop_succ_cons]; exact ih false
      · rw [Nat.add_comm 1, List.drop_succ_cons]; exact ih true
theorem lexN_skip (f p : Nat) (l : List Int) : lexN (f + 1) p l = lexN (f + 1) (p + blk false l) (l.drop (blk false l)) := by
  conv => rhs; rw [lexN]
  rw [blk_done, List.drop_zero, lexN]
  rfl
def lexAt (xs : List Int) (i : Nat) : Except (Nat × Int) (List Tok) := lexN (xs.length - i + 1) i (xs.drop i)
def bl (xs : List Int) (i : Nat) : Nat := i + blk false (xs.drop i)
theorem lexS_at (xs : List Int) : lexS xs = lexAt xs 0 := by simp [lexS, lexAt]
theorem bl_le (xs : List Int) (i : Nat) (h : i ≤ xs.length) : i ≤ bl xs i ∧ bl xs i ≤ xs.length := by
  have := blk_le false (xs.drop i)
  simp only [List.length_drop] at this
  unfold bl
  omega
theorem lexAt_bl (xs : List Int) (i : Nat) (h : i ≤ xs.length) : lexAt xs i = lexAt xs (bl xs i) := by
  have hb := bl_le xs i h
  unfold lexAt
  rw [lexN_skip]
  unfold bl at *
  rw [List.drop_drop]
  exact lexN_fuel _ _ _ _ (by simp only [List.length_drop]; omega) (by simp only [List.length_drop]; omega)
theorem drop_at (xs : List Int) (i : Nat) (h : i < xs.length) : xs.drop i = xs.getD i 0 :: xs.drop (i + 1) := by
  rw [List.drop_eq_getElem_cons h]
  simp [List.getD, h]
theorem bl_end (xs : List Int) (i : Nat) (h : xs.length ≤ i) : bl xs i = i := by
  simp [bl, List.drop_eq_nil_of_le h, blk]
theorem bl_blank (xs : List Int) (i : Nat) (h : i < xs.length) (hb : isBlank (xs.getD i 0) = true) : bl xs i = bl xs (i + 1) := by
  unfold bl
  rw [drop_at xs i h]
  simp only [blk, hb, if_true]
  omega
theorem bl_rem (xs : List Int) (i : Nat) (h : i < xs.length) (hb : xs.getD i 0 = 35) : bl xs i = bl xs (i + run nl (xs.drop i)) := by
  unfold bl
  have h1 : run nl (xs.drop i) = run nl (xs.drop (i + 1)) + 1 := by
    rw [drop_at xs i h, hb]; simp [run, nl]
  have h2 : blk false (xs.drop i) = 1 + blk true (xs.drop (i + 1)) := by
    rw [drop_at xs i h, hb]; simp [blk, isBlank]
  rw [h1, h2, blk_rem, List.drop_drop]
  rw [show i + 1 + run nl (xs.drop (i + 1)) = i + (run nl (xs.drop (i + 1)) + 1) by omega]
  omega
theorem bl_stay (xs : List Int) (i : Nat) (h : i < xs.length) (hb : isBlank (xs.getD i 0) = false) (hr : xs.getD i 0 ≠ 35) : bl xs i = i := by
  unfold bl
  rw [drop_at xs i h]
  simp only [blk, hb, Bool.false_eq_true, if_false, if_neg hr]
  omega
theorem lexAt_end (xs : List Int) (i : Nat) (h : i = xs.length) : lexAt xs i = .ok [Tok.endAt i] := by
  subst h
  simp [lexAt, lexN, blk]
theorem lexAt_err (xs : List Int) (i : Nat) (e : Int) (h : i < xs.length) (hb : bl xs i = i) (hs : step (xs.drop i) = .err e) : lexAt xs i = .error (i, e) := by
  have h0 : blk false (xs.drop i) = 0 := by unfold bl at hb; omega
  unfold lexAt
  rw [lexN, h0, List.drop_zero]
  rw [drop_at xs i h] at hs ⊢
  simp only [hs, Nat.add_zero]
theorem lexAt_tok (xs : List Int) (i : Nat) (k : Int) (len : Nat) (n : Int) (h : i < xs.length) (hb : bl xs i = i) (hs : step (xs.drop i) = .tok k len n) :
    lexAt xs i = pre [⟨k, i, i + len, (xs.drop i).take len, n⟩] (lexAt xs (i + len)) := by
  have h0 : blk false (xs.drop i) = 0 := by unfold bl at hb; omega
  have hl := step_len hs
  simp only [List.length_drop] at hl
  have e : lexAt xs (i + len) = lexN (xs.length - i) (i + len) (xs.drop (i + len)) := lexN_fuel _ _ _ _ (by simp only [List.length_drop]; omega) (by simp only [List.length_drop]; omega)
  rw [e]
  unfold lexAt
  rw [lexN, h0, List.drop_zero]
  rw [← List.drop_drop]
  rw [drop_at xs i h] at hs ⊢
  simp only [hs, Nat.add_zero]
theorem lexAt_blank (xs : List Int) (i : Nat) (h : i < xs.length) (hb : isBlank (xs.getD i 0) = true) : lexAt xs i = lexAt xs (i + 1) := by
  rw [lexAt_bl xs i (by omega), lexAt_bl xs (i + 1) (by omega), bl_blank xs i h hb]
theorem lexAt_rem (xs : List Int) (i : Nat) (h : i < xs.length) (hb : xs.getD i 0 = 35) : lexAt xs i = lexAt xs (i + run nl (xs.drop i)) := by
  have := run_le nl (xs.drop i)
  simp only [List.length_drop] at this
  rw [lexAt_bl xs i (by omega), lexAt_bl xs (i + run nl (xs.drop i)) (by omega), bl_rem xs i h hb]
end Go.Proofs.YtpemghcafbedeaaGreatDoor
end
