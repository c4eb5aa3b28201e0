import Derived.Test.YtijaelncmjcbmaaTreeV
import Derived.Test.YtijaelncmjcbmaaTreeI
import Derived.Laws.EntriesVeiled
namespace Go.Proofs.Ytijaelncmjcbmaa
open Go.RowKit
/-- Each cell that was there is as it was. -/
def Aside (W V : World) : Prop := ∀ p v, W.cell? p = some v → V.cell? p = some v
theorem Aside.of {W V : World} (h : Below W.heap.size W V) : Aside W V := fun p v hp => by rw [h.cell (World.block_lt_of_cell? W p hp)]; exact hp
theorem Aside.refl (W : World) : Aside W W := fun _ _ h => h
theorem Aside.trans {a b c : World} (h : Aside a b) (k : Aside b c) : Aside a c := fun p v hp => k p v (h p v hp)
structure BV (W : World) (p : Option Addr) (len c : Nat) (xs : List Int) : Prop where
  len_eq : xs.length = len
  cap : len ≤ c
  cell : 0 < len → ∃ b off, p = some ⟨b, off, none⟩ ∧ ∀ i, i < len → W.cell? ⟨b, off + i, none⟩ = some (.int .u8 (xs.getD i 0))
theorem BV.on {W V : World} {p : Option Addr} {len c : Nat} {xs : List Int} (h : BV W p len c xs) (hb : Aside W V) : BV V p len c xs where
  len_eq := h.len_eq
  cap := h.cap
  cell := fun hl => by
    obtain ⟨b, off, e, hc⟩ := h.cell hl
    exact ⟨b, off, e, fun i hi => hb _ _ (hc i hi)⟩
def FitV (W : World) (g : Fn) (cs : Array Value) : Fit → Prop
  | .of ks => ∃ B q l c, g = .func 50 ∧ cs = #[.pointer (some ⟨B, 0, none⟩)] ∧ W.cell? ⟨B, 0, none⟩ = some (.slice q l c) ∧ BV W q l c ks ∧ l ≤ 1000
  | .stmt => g = .func 45 ∧ cs = #[]
  | .expr => g = .func 36 ∧ cs = #[]
theorem FitV.on {W V : World} {g : Fn} {cs : Array Value} {f : Fit} (h : FitV W g cs f) (hb : Aside W V) : FitV V g cs f := by
  cases f with
  | «of» ks =>
    obtain ⟨B, q, l, c, e, e2, h3, h4, h5⟩ := h
    exact ⟨B, q, l, c, e, e2, hb _ _ h3, h4.on hb, h5⟩
  | stmt => exact h
  | expr => exact h
set_option maxHeartbeats 4000000 in
theorem index_at (w : World) (p : Option Addr) (len c : Nat) (xs : List Int) (k : Int) (h : BV w p len c xs) (hb : len ≤ 1000) :
    Calls Try.prog 56 #[.slice p len c, .int .u8 k] w fun e w' => (∃ z : Int, e = .returned (.int .i64 z) ∧ decide (0 ≤ z) = xs.any fun x => k == x) ∧ w' = w := by
  have hlen := Lib.hid h.len_eq
  have H := Lib.hid h
  clear h
  go_enter Try.func56, Try.ntmps56
  go_wp2_with fail
  go_loop [8] (fun iv => ∃ i : Nat, i ≤ len ∧ iv = .int .i64 i ∧ Hid ((xs.take i).any (fun x => k == x) = false)) (fun iv => len - (intOf iv).toNat)
  case atStart => exact ⟨0, Nat.zero_le _, rfl, Lib.hid rfl⟩
  case round =>
    obtain ⟨i, hi, rfl, HA⟩ := hrel
    by_cases hil : i < len
    · obtain ⟨b, off, rfl, hc⟩ := H.out.cell (by omega)
      have hci := hc i hil
      have HT := Lib.hid (show (xs.take (i + 1)).any (fun x => k == x) = ((xs.take i).any (fun x => k == x) || (k == xs.getD i 0)) by
        rw [List.take_succ_eq_append_getElem (by have := hlen.out; omega), List.any_append]
        simp [List.getD, show i < xs.length by have := hlen.out; omega])
      have HM := Lib.hid (show (k == xs.getD i 0) = true → xs.any (fun x => k == x) = true from fun h => by
        rw [List.any_eq_true]
        exact ⟨xs.getD i 0, by simp [List.getD, show i < xs.length by have := hlen.out; omega], h⟩)
      generalize xs.getD i 0 = x at *
      clear hc
      by_cases hx : k = x
      · subst hx
        go_wp2
        go_ret
        exact ⟨⟨(i : Int), rfl, by rw [HM.out (by simp)]; simp⟩, rfl⟩
      · have hx' : (k == x) = false := by simpa using hx
        go_wp2
        go_round
        case rel => exact ⟨i + 1, by omega, by go_num, Lib.hid (by rw [HT.out, HA.out, hx']; rfl)⟩
        case measure => simp [intOf]; omega
    · have e : i = xs.length := by have := hlen.out; omega
      have HE := Lib.hid e
      clear e
      go_wp2
      go_ret
      refine ⟨⟨-1, rfl, ?_⟩, rfl⟩
      have := HA.out
      rw [HE.out, List.take_length] at this
      rw [this]
      rfl
set_option maxHeartbeats 1000000 in
theorem contains_at (w : World) (p : Option Addr) (len c : Nat) (xs : List Int) (k : Int) (h : BV w p len c xs) (hb : len ≤ 1000) :
    Calls Try.prog 51 #[.slice p len c, .int .u8 k] w fun e w' => e = .returned (.bool (xs.any fun x => k == x)) ∧ w' = w := by
  have HI := Lib.hid (index_at w p len c xs k h hb)
  clear h
  go_enter Try.func51, Try.ntmps51
  go_wp2_with fail
  (with_reducible refine HI.out.mono ?_)
  rintro e w' ⟨⟨z, rfl, hz⟩, rfl⟩
  clear HI
  go_wp2
  go_ret
  exact ⟨retB (by simp), rfl⟩
set_option maxHeartbeats 1000000 in
theorem isf_at (w : World) (B l c : Nat) (q : Option Addr) (xs : List Int) (k : Int) (hc : w.cell? ⟨B, 0, none⟩ = some (.slice q l c)) (h : BV w q l c xs) (hb : l ≤ 1000) :
    Calls Try.prog 50 #[.int .u8 k, .pointer (some ⟨B, 0, none⟩)] w fun e w' => e = .returned (.bool (xs.any fun x => k == x)) ∧ w' = w := by
  have HI := Lib.hid (contains_at w q l c xs k h hb)
  clear h
  go_enter Try.func50, Try.ntmps50
  go_wp2_with fail
  (with_reducible refine HI.out.mono ?_)
  rintro e w' ⟨rfl, rfl⟩
  clear HI
  go_wp2
  go_ret
  exact ⟨rfl, rfl⟩
set_option maxHeartbeats 1000000 in
theorem isExpr_at (c : Int) (w : World) : Calls Try.prog 36 #[.int .u8 c] w fun e w' => e = .returned (.bool (isExprK c)) ∧ w' = w := by
  unfold isExprK
  by_cases h : 21 ≤ c
  · by_cases h2 : c ≤ 26
    · have e : (decide (21 ≤ c) && decide (c ≤ 26)) = true := by simp [h, h2]
      rw [e]
      clear e
      go_enter Try.func36, Try.ntmps36
      go_wp2
      go_ret
      exact ⟨rfl, rfl⟩
    · have e : (decide (21 ≤ c) && decide (c ≤ 26)) = false := by simp [h2]
      rw [e]
      clear e
      go_enter Try.func36, Try.ntmps36
      go_wp2
      go_ret
      exact ⟨rfl, rfl⟩
  · have e : (decide (21 ≤ c) && decide (c ≤ 26)) = false := by simp [h]
    rw [e]
    clear e
    have hd : decide (21 ≤ c) = false := by simpa using h
    go_enter Try.func36, Try.ntmps36
    go_wp2
    go_ret
    exact ⟨rfl, rfl⟩
set_option maxHeartbeats 1000000 in
theorem isStmt_at (c : Int) (w : World) : Calls Try.prog 45 #[.int .u8 c] w fun e w' => e = .returned (.bool (isStmtK c)) ∧ w' = w := by
  unfold isStmtK
  by_cases h : 7 ≤ c
  · by_cases h2 : c ≤ 19
    · have e : (decide (7 ≤ c) && decide (c ≤ 19)) = true := by simp [h, h2]
      rw [e]
      clear e
      go_enter Try.func45, Try.ntmps45
      go_wp2
      go_ret
      exact ⟨rfl, rfl⟩
    · have e : (decide (7 ≤ c) && decide (c ≤ 19)) = false := by simp [h2]
      rw [e]
      clear e
      go_enter Try.func45, Try.ntmps45
      go_wp2
      go_ret
      exact ⟨rfl, rfl⟩
  · have e : (decide (7 ≤ c) && decide (c ≤ 19)) = false := by simp [h]
    rw [e]
    clear e
    have hd : decide (7 ≤ c) = false := by simpa using h
    go_enter Try.func45, Try.ntmps45
    go_wp2
    go_ret
    exact ⟨rfl, rfl⟩
theorem isEmpty_size (s : ByteArray) : s.toList.isEmpty = decide (s.size = 0) := by
  have this : (Lib.bytesOf (bytesI s)).length = s.size := by rw [Lib.bytesOf, List.length_map, bytesI_length]
  have e : s.toList = Lib.bytesOf (bytesI s) := by rw [← Lib.strOfNums_toList, bytesI_str]
  rw [e]
  by_cases h : s.size = 0
  · rw [decide_eq_true h, List.isEmpty_iff_length_eq_zero]; omega
  · rw [decide_eq_false h, List.isEmpty_eq_false_iff]
    intro e
    rw [e] at this
    exact h this.symm
theorem isEmpty_at (s : ByteArray) (w : World) : Calls Try.prog 42 #[.string s] w fun e w' => e = .returned (.bool (decide (s.size = 0))) ∧ w' = w := by
  go_enter Try.func42, Try.ntmps42
  go_wp2
  go_ret
  exact ⟨retB (isEmpty_size s), rfl⟩
theorem one_at (w : World) (g : Fn) (cs : Array Value) : Calls Try.prog 39 #[.func g #[] cs] w fun e w' => e = .returned (.agg #[.func g #[] cs, .int .i64 1, .int .i64 1]) ∧ Below w.heap.size w w' := by
  go_enter Try.func39, Try.ntmps39
  go_wp2
  simp [bodyPost, results, Try.results39, go_sem]
  exact one_below w _
theorem maybe_at (w : World) (g : Fn) (cs : Array Value) : Calls Try.prog 46 #[.func g #[] cs] w fun e w' => e = .returned (.agg #[.func g #[] cs, .int .i64 0, .int .i64 1]) ∧ Below w.heap.size w w' := by
  go_enter Try.func46, Try.ntmps46
  go_wp2
  simp [bodyPost, results, Try.results46, go_sem]
  exact one_below w _
theorem many_at (w : World) (g : Fn) (cs : Array Value) : Calls Try.prog 43 #[.func g #[] cs] w fun e w' => e = .returned (.agg #[.func g #[] cs, .int .i64 0, .int .i64 9223372036854775807]) ∧ Below w.heap.size w w' := by
  go_enter Try.func43, Try.ntmps43
  go_wp2
  simp [bodyPost, results, Try.results43, go_sem]
  exact one_below w _
theorem is_at (w : World) (q : Option Addr) (l c : Nat) (ks : List Int) (h : BV w q l c ks) (hb : l ≤ 1000) : Calls Try.prog 40 #[.slice q l c] w fun e w' => (∃ g cs, e = .returned (.func g #[] cs) ∧ FitV w' g cs (.of ks)) ∧ Below w.heap.size w w' := by
  have H := Lib.hid h
  clear h
  go_enter Try.func40, Try.ntmps40
  go_wp2
  go_ret
  exact ⟨⟨_, _, rfl, ⟨w.heap.size, q, l, c, rfl, rfl, by simp, H.out.on (Aside.of (one_below w _)), hb⟩⟩, one_below w _⟩
end Go.Proofs.Ytijaelncmjcbmaa
