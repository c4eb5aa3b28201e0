import Derived.Test.YtijaelncmjcbmaaTreeW
namespace Go.Proofs.Ytijaelncmjcbmaa
open Go.RowKit
def isDeepB (p k : Int) : Bool := k == 6 || (k == 20 || (isExprK k && isExprK p))
theorem own_deep (ns : List Nd) (i j : Nat) : ownK ns i j = if isDeepB (kindAt ns i) (kindAt ns j) = true then 1 else 0 := by
  unfold ownK isDeepB
  simp only [Bool.or_eq_true, beq_iff_eq, Bool.and_eq_true]
/-- How far it has come: the nodes ahead of i, and so many kids of i. -/
structure DI (ns : List Nd) (i jj m : Nat) (F : Nat → Nat) : Prop where
  zero : F 0 = 0
  old : ∀ x, x < i → ∀ j : Nat, (j : Int) ∈ kidsAt ns x → F j = F x + ownK ns x j
  now : ∀ j : Nat, (j : Int) ∈ (kidsAt ns i).take jj → F j = F i + ownK ns i j
  most : m = max (deepest F (kidsAt ns) 0 i) (maxL (fun k => F k.toNat) ((kidsAt ns i).take jj))
  le : ∀ j, j < ns.length → F j ≤ j
theorem maxL_congr (f g : Int → Nat) (l : List Int) (h : ∀ k ∈ l, f k = g k) : maxL f l = maxL g l := by
  induction l with
  | nil => rfl
  | cons k l ih => rw [maxL_cons, maxL_cons, h k (by simp), ih (fun k hk => h k (by simp [hk]))]
theorem maxL_snoc (f : Int → Nat) (l : List Int) (k : Int) : maxL f (l ++ [k]) = max (maxL f l) (f k) := by
  unfold maxL
  rw [List.foldl_append]
  rfl
theorem deepest_congr (F G : Nat → Nat) (K : Nat → List Int) (a d : Nat) (h : ∀ x, x < d → ∀ k ∈ K (a + x), F k.toNat = G k.toNat) : deepest F K a d = deepest G K a d := by
  induction d with
  | zero => rfl
  | succ d ih =>
    simp only [deepest]
    rw [ih (fun x hx => h x (by omega)), maxL_congr _ (fun k => G k.toNat) _ (h d (by omega))]
theorem DI.start (ns : List Nd) : DI ns 0 0 0 (fun _ => 0) where
  zero := rfl
  old := fun x hx => absurd hx (by omega)
  now := fun j hj => by simp at hj
  most := by simp [deepest, maxL]
  le := fun _ _ => Nat.zero_le _
theorem DI.turn {ns : List Nd} {i jj m : Nat} {F : Nat → Nat} (h : DI ns i jj m F) (hj : (kidsAt ns i).length ≤ jj) : DI ns (i + 1) 0 m F where
  zero := h.zero
  old := fun x hx j hk => by
    by_cases e : x = i
    · subst e
      exact h.now j (by rw [List.take_of_length_le hj]; exact hk)
    · exact h.old x (by omega) j hk
  now := fun j hj => by simp at hj
  most := by
    rw [h.most, List.take_of_length_le hj]
    simp [deepest, maxL]
  le := h.le
theorem DI.step {ns : List Nd} {s : List Nat} (hs : SizesOk ns s) {i jj m : Nat} {F : Nat → Nat} (h : DI ns i jj m F) (hi : i < ns.length) (hjj : jj < (kidsAt ns i).length) (q : Nat) (hq : (kidsAt ns i).getD jj 0 = (q : Int)) :
    i < q ∧ q < ns.length ∧ DI ns i (jj + 1) (max m (F i + ownK ns i q)) (fun x => if x = q then F i + ownK ns i q else F x) := by
  have hmem : (q : Int) ∈ kidsAt ns i := by rw [← hq]; simp [List.getD, hjj]
  obtain ⟨q', e1, e2, _, e4⟩ := hs.right.kid hi hmem
  have hqq : q = q' := by omega
  subst hqq
  have hne : ∀ x, x < i → ∀ k ∈ kidsAt ns x, k.toNat ≠ q := by
    intro x hx k hk hkq
    obtain ⟨j, f1, _, _, f4⟩ := hs.right.kid (by omega) hk
    have : k = (q : Int) := by omega
    rw [this] at hk
    have := hs.right.one hs.whole (by omega) hi hk hmem
    omega
  have htk : (kidsAt ns i).take (jj + 1) = (kidsAt ns i).take jj ++ [(q : Int)] := by
    rw [List.take_succ_eq_append_getElem hjj, ← hq]
    simp [List.getD, hjj]
  have hkk : ∀ k ∈ (kidsAt ns i).take jj, (if k.toNat = q then F i + ownK ns i q else F k.toNat) = F k.toNat := by
    intro k hk
    by_cases e : k.toNat = q
    · rw [if_pos e]
      obtain ⟨j, f1, _, _, _⟩ := hs.right.kid hi (List.mem_of_mem_take hk)
      have : k = (q : Int) := by omega
      rw [this] at hk
      rw [e, h.now q hk]
    · rw [if_neg e]
  refine ⟨e2, e4, ?_, ?_, ?_, ?_, ?_⟩
  · show (if 0 = q then _ else F 0) = 0
    rw [if_neg (by omega)]; exact h.zero
  · intro x hx j hk
    have h1 := hne x hx j hk
    rw [Int.toNat_natCast] at h1
    show (if j = q then _ else F j) = (if x = q then _ else F x) + _
    rw [if_neg h1, if_neg (by omega)]
    exact h.old x hx j hk
  · intro j hj
    show (if j = q then _ else F j) = (if i = q then _ else F i) + _
    rw [if_neg (show i ≠ q by omega)]
    by_cases e : j = q
    · rw [if_pos e, e]
    · rw [if_neg e]
      rw [htk, List.mem_append, List.mem_singleton] at hj
      rcases hj with hj | hj
      · exact h.now j hj
      · omega
  · rw [htk, maxL_snoc, Int.toNat_natCast, if_pos rfl]
    have h1 : deepest (fun x => if x = q then F i + ownK ns i q else F x) (kidsAt ns) 0 i = deepest F (kidsAt ns) 0 i := deepest_congr _ _ _ _ _ (fun x hx k hk => by
      rw [Nat.zero_add] at hk
      rw [if_neg (hne x hx k hk)])
    rw [h1, maxL_congr _ (fun k => F k.toNat) _ hkk, h.most]
    omega
  · intro j hj
    show (if j = q then _ else F j) ≤ j
    by_cases e : j = q
    · rw [if_pos e]
      have := h.le i hi
      have h2 : ownK ns i q ≤ 1 := by unfold ownK; split <;> omega
      omega
    · rw [if_neg e]; exact h.le j hj
theorem DI.done {ns : List Nd} {s : List Nat} (hs : SizesOk ns s) {m : Nat} {F : Nat → Nat} (h : DI ns ns.length 0 m F) : m = deepK (ownK ns) (kidsAt ns) ns.length 0 := by
  have h1 := hs.right.deep (ownK ns) F (fun i hi j hj => h.old i hi j hj) ns.length 0 hs.pos (by omega)
  simp only [hs.whole, h.zero] at h1
  have h2 := h.most
  simp [maxL] at h2
  omega
theorem isDeeper_at (p k : Int) (w : World) : Calls Try.prog 28 #[.int .u8 p, .int .u8 k] w fun e w' => e = .returned (.bool (isDeepB p k)) ∧ w' = w := by
  unfold isDeepB
  have HE := Lib.hid (isExpr_at k w)
  have HP := Lib.hid (isExpr_at p w)
  by_cases h1 : k = 6
  · have d1 : (k == 6) = true := by simpa using h1
    rw [d1]
    subst h1
    clear HE HP
    go_enter Try.func28, Try.ntmps28
    go_wp2
    go_ret
    exact ⟨rfl, rfl⟩
  · have d1 : (k == 6) = false := by simpa using h1
    rw [d1]
    by_cases h2 : k = 20
    · have d2 : (k == 20) = true := by simpa using h2
      rw [d2]
      subst h2
      clear HE HP
      go_enter Try.func28, Try.ntmps28
      go_wp2
      go_ret
      exact ⟨rfl, rfl⟩
    · have d2 : (k == 20) = false := by simpa using h2
      rw [d2]
      cases hx : isExprK k with
      | false =>
        rw [hx] at HE
        clear hx HP
        go_enter Try.func28, Try.ntmps28
        go_wp2_with fail
        (with_reducible refine HE.out.mono ?_)
        rintro e w' ⟨rfl, rfl⟩
        clear HE
        go_wp2
        go_ret
        exact ⟨rfl, rfl⟩
      | true =>
        rw [hx] at HE
        clear hx
        generalize isExprK p = t at *
        go_enter Try.func28, Try.ntmps28
        go_wp2_with fail
        (with_reducible refine HE.out.mono ?_)
        rintro e w' ⟨rfl, rfl⟩
        clear HE
        go_wp2_with fail
        (with_reducible refine HP.out.mono ?_)
        rintro e w'' ⟨rfl, rfl⟩
        clear HP
        go_wp2
        go_ret
        exact ⟨rfl, rfl⟩
end Go.Proofs.Ytijaelncmjcbmaa
