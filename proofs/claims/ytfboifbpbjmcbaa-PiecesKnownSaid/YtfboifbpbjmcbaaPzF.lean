import Derived.Test.YtfboifbpbjmcbaaPzB
namespace Go.Proofs.Ytfboifbpbjmcbaa.Pz
open Go.RowKit
theorem nanC_at (w : World) (x : Int) : Calls Try.prog 29 #[.int .i64 x] w fun e w' => e = .returned (.bool false) ∧ w' = w := by
  go_enter Try.func29, Try.ntmps29
  go_wp2_with fail
  go_ret
  simp
theorem nanS_at (w : World) (x : Int) : Calls Try.prog 26 #[.int .i64 x] w fun e w' => e = .returned (.bool false) ∧ w' = w := by
  go_enter Try.func26, Try.ntmps26
  go_wp2_with fail
  go_ret
  simp
theorem less_at (w : World) (x y : Int) : Calls Try.prog 25 #[.int .i64 x, .int .i64 y] w fun e w' => e = .returned (.bool (decide (x < y))) ∧ w' = w := by
  have C := Lib.hid (nanC_at w x)
  go_enter Try.func25, Try.ntmps25
  go_wp2_with fail
  (with_reducible refine C.out.mono ?_)
  rintro e w1 ⟨rfl, rfl⟩
  go_wp2
  go_ret
  simp
/-- Numbers that lie in a row below n₀. -/
structure VIn (n₀ : Nat) (W : World) (p : Option Addr) (len c : Nat) (xs : List Int) : Prop where
  len_eq : xs.length = len
  cap : len ≤ c
  cell : 0 < len → ∃ b off, p = some ⟨b, off, none⟩ ∧ b < n₀ ∧ ∀ i, i < len → W.cell? ⟨b, off + i, none⟩ = some (.int .i64 (xs.getD i 0))
theorem VIn.on {n₀ : Nat} {W W' : World} {p : Option Addr} {len c : Nat} {xs : List Int} (h : VIn n₀ W p len c xs) (hb : Kb n₀ W W') : VIn n₀ W' p len c xs where
  len_eq := h.len_eq
  cap := h.cap
  cell := fun hl => by
    obtain ⟨b, off, e, hlt, hc⟩ := h.cell hl
    exact ⟨b, off, e, hlt, fun i hi => hb.cell hlt (hc i hi)⟩
theorem VIn.mono {n₀ n₁ : Nat} {W : World} {p : Option Addr} {len c : Nat} {xs : List Int} (h : VIn n₀ W p len c xs) (hn : n₀ ≤ n₁) : VIn n₁ W p len c xs where
  len_eq := h.len_eq
  cap := h.cap
  cell := fun hl => by
    obtain ⟨b, off, e, hlt, hc⟩ := h.cell hl
    exact ⟨b, off, e, by omega, hc⟩
/-- How many are less. -/
def lowP (xs : List Int) (t : Int) : Nat := (xs.filter (· < t)).length
theorem low_of (xs : List Int) (t : Int) (n : Nat) (hn : n ≤ xs.length) (h1 : ∀ a, a < n → xs.getD a 0 < t) (h2 : ∀ b, n ≤ b → b < xs.length → ¬ xs.getD b 0 < t) : lowP xs t = n := by
  unfold lowP
  have hs : xs = xs.take n ++ xs.drop n := (List.take_append_drop n xs).symm
  rw [hs, List.filter_append, List.length_append]
  have e1 : (xs.take n).filter (· < t) = xs.take n := List.filter_eq_self.2 (fun a ha => by
    obtain ⟨j, hj, rfl⟩ := List.getElem_of_mem ha
    rw [List.length_take] at hj
    have := h1 j (by omega)
    simpa [List.getD, show j < xs.length by omega] using this)
  have e2 : (xs.drop n).filter (· < t) = [] := List.filter_eq_nil_iff.2 (fun a ha => by
    obtain ⟨j, hj, rfl⟩ := List.getElem_of_mem ha
    rw [List.length_drop] at hj
    have := h2 (n + j) (by omega) (by omega)
    simpa [List.getD, show n + j < xs.length by omega] using this)
  rw [e1, e2, List.length_take]
  simp; omega
def foundP (xs : List Int) (t : Int) : Bool := decide (lowP xs t < xs.length) && decide (xs.getD (lowP xs t) 0 = t)
set_option maxHeartbeats 4000000 in
set_option maxRecDepth 100000 in
theorem search_at (w : World) (n₀ len c : Nat) (p : Option Addr) (xs : List Int) (t : Int) (h : VIn n₀ w p len c xs) (hs : xs.Pairwise (· < ·)) (hb : len ≤ 100000) :
    Calls Try.prog 21 #[.slice p len c, .int .i64 t] w fun e w' => e = .returned (.tuple #[.int .i64 (lowP xs t), .bool (foundP xs t)]) ∧ w' = w := by
  have hcap := h.cap
  have HL := h.len_eq
  have hmono : ∀ a b, a < b → b < len → xs.getD a 0 < xs.getD b 0 := fun a b hab hbl => by
    have := List.pairwise_iff_getElem.1 hs a b (by omega) (by omega) hab
    simpa [List.getD, show a < xs.length by omega, show b < xs.length by omega] using this
  have HM := Lib.hid hmono
  have HH := Lib.hid h
  clear h hs hmono
  go_enter Try.func21, Try.ntmps21
  go_wp2_with fail
  go_loopw [7, 8] (fun i j wr => ∃ a b : Nat, i = .int .i64 a ∧ j = .int .i64 b ∧ a ≤ b ∧ b ≤ len ∧ wr = w ∧ Hid (∀ k, k < a → xs.getD k 0 < t) ∧ Hid (∀ k, b ≤ k → k < len → t ≤ xs.getD k 0)) (fun i j _ => (intOf j - intOf i).toNat)
  case atStart => exact ⟨0, len, rfl, rfl, Nat.zero_le _, Nat.le_refl _, rfl, Lib.hid (fun k hk => by omega), Lib.hid (fun k hk1 hk2 => by omega)⟩
  case round =>
    obtain ⟨a, b, rfl, rfl, hab, hbl, rfl, h1, h2⟩ := hrel
    by_cases hlt : a < b
    · obtain ⟨m, hm⟩ : ∃ m, (a + b) / 2 = m := ⟨_, rfl⟩
      have hma : a ≤ m := by omega
      have hmb : m < b := by omega
      obtain ⟨blk, off, rfl, hblk, hc⟩ := HH.out.cell (by omega)
      have cm := hc m (by omega)
      clear hc
      have C := Lib.hid (less_at wr (xs[m]?.getD 0) t)
      have em : xs.getD m 0 = xs[m]?.getD 0 := by simp [List.getD]
      have hi3 : ((a : Int) + b) / 2 = m := by omega
      go_wp2_with fail
      (with_reducible refine C.out.mono ?_)
      rintro e w1 ⟨rfl, rfl⟩
      by_cases hx : xs[m]?.getD 0 < t
      · go_wp2
        go_roundw
        case rel => exact ⟨m + 1, b, by simp, by simp, by omega, hbl, by simp, Lib.hid (fun k hk => by
          rcases Nat.lt_or_ge k m with h3 | h3
          · have := HM.out k m h3 (by omega)
            rw [em] at this
            omega
          · obtain rfl : k = m := by omega
            rw [em]; exact hx), h2⟩
        case measure => simp [intOf]; omega
      · go_wp2
        go_roundw
        case rel => exact ⟨a, m, by simp, by simp, hma, by omega, by simp, h1, Lib.hid (fun k hk1 hk2 => by
          rcases Nat.lt_or_ge m k with h3 | h3
          · have := HM.out m k h3 hk2
            rw [em] at this
            omega
          · obtain rfl : k = m := by omega
            rw [em]; omega)⟩
        case measure => simp [intOf]; omega
    · obtain rfl : a = b := by omega
      have hlow : lowP xs t = a := low_of xs t a (by omega) h1.out (fun k hk1 hk2 => by have := h2.out k hk1 (by omega); omega)
      have C := Lib.hid (nanS_at wr (xs[a]?.getD 0))
      have em : xs.getD a 0 = xs[a]?.getD 0 := by simp [List.getD]
      by_cases hal : a < len
      · obtain ⟨blk, off, rfl, hblk, hc⟩ := HH.out.cell (by omega)
        have cm := hc a (by omega)
        clear hc
        by_cases hx : xs[a]?.getD 0 = t
        · have hf : foundP xs t = true := by unfold foundP; rw [hlow, em, hx, HL]; simp [hal]
          subst hx
          clear C
          go_wp2_with fail
          simp [bodyPost, results, Try.results21, go_sem, hf, hlow]
        · have hf : foundP xs t = false := by unfold foundP; rw [hlow, em]; simp [hx]
          obtain ⟨y, hy⟩ : ∃ y, xs[a]?.getD 0 = y := ⟨_, rfl⟩
          rw [hy] at hx C
          have cm2 : wr.cell? ⟨blk, off + a, none⟩ = some (.int .i64 y) := by rw [← hy, ← em]; exact cm
          have hx2 : (y == t) = false := by simpa using hx
          have hx3 : decide (y = t) = false := by simpa using hx
          clear hy cm em
          go_wp2_with fail
          (with_reducible refine C.out.mono ?_)
          rintro e w1 ⟨rfl, rfl⟩
          go_wp2
          simp [bodyPost, results, Try.results21, go_sem, hf, hlow]
      · have hf : foundP xs t = false := by unfold foundP; rw [hlow, HL]; simp [hal]
        clear C
        go_wp2_with fail
        simp [bodyPost, results, Try.results21, go_sem, hf, hlow]
end Go.Proofs.Ytfboifbpbjmcbaa.Pz
