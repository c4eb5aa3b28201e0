import Derived.Test.YtabbodbnjegllaaDoorLexJ
import Derived.Lib.BufferRead
import Derived.Laws.IdiomStrings
namespace Go.Proofs.YtabbodbnjegllaaDoor
open Go.RowKit
/-- The tokens that are left, from place p on. -/
def Chain (xs : List Int) : Nat → List Tok → Prop
  | p, [] => p = xs.length
  | p, t :: r => p ≤ xs.length ∧ t.at' = bl xs p ∧ t.at' ≤ t.stop ∧ t.stop ≤ xs.length ∧ t.text = (xs.drop t.at').take (t.stop - t.at') ∧ ((t.kind = 4) ↔ r = []) ∧ Chain xs t.stop r
theorem chain_of (xs : List Int) (m p : Nat) (hm : xs.length - p ≤ m) (hp : p ≤ xs.length) (ts : List Tok) (h : lexAt xs p = .ok ts) : Chain xs p ts ∧ ts ≠ [] := by
  induction m generalizing p ts with
  | zero =>
    have e : p = xs.length := by omega
    rw [lexAt_end xs p e] at h
    simp only [Except.ok.injEq] at h
    subst h
    refine ⟨⟨hp, ?_, Nat.le_refl _, by simp [Tok.endAt]; omega, by simp [Tok.endAt], by simp [Tok.endAt], by simp [Chain, Tok.endAt]; omega⟩, by simp⟩
    simp only [Tok.endAt]
    rw [bl_end xs p (by omega)]
  | succ m ih =>
    rw [lexAt_bl xs p hp] at h
    have hb := bl_le xs p hp
    have hi := bl_idem xs p
    obtain ⟨i, hie⟩ : ∃ i, bl xs p = i := ⟨_, rfl⟩
    rw [hie] at h hb hi
    by_cases hlt : i < xs.length
    · cases hs : step (xs.drop i) with
      | err e => rw [lexAt_err xs i e hlt hi hs] at h; simp at h
      | tok k l n =>
        rw [lexAt_tok xs i k l n hlt hi hs] at h
        have hl := step_len hs
        rw [List.length_drop] at hl
        cases hr : lexAt xs (i + l) with
        | error e => rw [hr] at h; simp [pre] at h
        | ok us =>
          rw [hr] at h
          simp only [pre, Except.ok.injEq, List.singleton_append] at h
          subst h
          have ⟨hc, hne⟩ := ih (i + l) (by omega) (by omega) us hr
          refine ⟨⟨hp, hie.symm, by simp, by simp; omega, by simp, ?_, hc⟩, by simp⟩
          simp only
          constructor
          · omega
          · intro h; exact absurd h hne
    · have e : i = xs.length := by omega
      rw [lexAt_end xs i e] at h
      simp only [Except.ok.injEq] at h
      subst h
      exact ⟨⟨hp, hie.symm, Nat.le_refl _, by simp [Tok.endAt]; omega, by simp [Tok.endAt], by simp [Tok.endAt], by simp [Chain, Tok.endAt]; omega⟩, by simp⟩
theorem blk_take (b : Bool) (l : List Int) : blk b (l.take (blk b l)) = blk b l := by
  induction l generalizing b with
  | nil => cases b <;> simp [blk]
  | cons c r ih =>
    cases b
    · simp only [blk]
      split
      · rename_i h
        rw [Nat.add_comm 1, List.take_succ_cons]
        simp only [blk, h, if_true, ih false]
        omega
      · split
        · rename_i h h2
          rw [Nat.add_comm 1, List.take_succ_cons]
          simp only [blk]
          rw [if_neg h, if_pos h2, ih true]
          omega
        · simp [blk]
    · simp only [blk]
      split
      · rename_i h
        rw [Nat.add_comm 1, List.take_succ_cons]
        simp only [blk, h, if_true, ih false]
        omega
      · rename_i h
        rw [Nat.add_comm 1, List.take_succ_cons]
        simp only [blk, h, if_false, ih true]
        omega
/-- Between two tokens stands nothing. -/
theorem lexS_between (xs : List Int) (p : Nat) (_hp : p ≤ xs.length) : lexS ((xs.drop p).take (bl xs p - p)) = .ok [Tok.endAt (bl xs p - p)] := by
  have h := blk_take false (xs.drop p)
  have hl := blk_le false (xs.drop p)
  have e : bl xs p - p = blk false (xs.drop p) := by unfold bl; omega
  rw [e, lexS_at, lexAt_bl _ 0 (by omega)]
  have hz : bl ((xs.drop p).take (blk false (xs.drop p))) 0 = blk false (xs.drop p) := by
    unfold bl
    rw [List.drop_zero, h]
    omega
  rw [hz, lexAt_end]
  rw [List.length_take]
  omega
def subP (p : Option Addr) (c a : Nat) : Option Addr := if c = a then p else p.map (·.add (a * 1))
theorem sub_run (W : World) (p : Option Addr) (len c a e : Nat) (h1 : a ≤ e) (h2 : e ≤ c) :
    (Instr.sliceAt 22 (.slice p len c) (some (.int .i64 a)) (some (.int .i64 e)) none).run Tryd.prog W = .ok (.slice (subP p c a) (e - a) (c - a)) W := by
  have hu : Tryd.prog.underlying 22 = some (.slice (Tryd.prog.elem 22)) := by kernel_rfl
  have hz : ∀ W, (sizeOf (Tryd.prog.elem 22)).run Tryd.prog W = .ok 1 W := fun _ => by kernel_rfl
  rw [run_sliceAt_slice W 22 _ _ _ _ hu, run_slice_lh W 22 p len c hu .i64 .i64 a e (by omega) (by omega) (by omega), hz]
  rfl
theorem sub_src {W : World} {p : Option Addr} {len c : Nat} {xs : List Int} (h : Src W p len c xs) (a e : Nat) (h1 : a ≤ e) (h2 : e ≤ len) : Src W (subP p c a) (e - a) (c - a) ((xs.drop a).take (e - a)) := by
  obtain ⟨hl, hb, hc⟩ := h
  refine ⟨by simp; omega, fun i => ?_, ?_⟩
  · by_cases hi : i < e - a
    · have := hb (a + i)
      simpa [List.getD, List.getElem?_take, hi] using this
    · simp [List.getD, List.getElem?_take, hi]
  · rcases hc with ⟨rfl, rfl⟩ | ⟨b, off, rfl, hle, hlt, hx⟩
    · exact Or.inl ⟨by omega, by omega⟩
    · by_cases hca : c = a
      · exact Or.inl ⟨by omega, by omega⟩
      · refine Or.inr ⟨b, off + a, ?_, by omega, hlt, fun i hi => ?_⟩
        · unfold subP
          rw [if_neg hca]
          simp only [Option.map_some, Nat.mul_one, Addr.add]
          split <;> simp_all
        · rw [Nat.add_assoc, hx (a + i) (by omega)]
          simp [List.getD, hi]
theorem src_conv {W : World} {p : Option Addr} {n c : Nat} {xs : List Int} (h : Src W p n c xs) : (convert 22 9 (.slice p n c)).run Tryd.prog W = .ok (.string (strOfNums xs)) W := by
  obtain ⟨hl, hb, hc⟩ := h
  rcases hc with ⟨rfl, rfl⟩ | ⟨b, off, rfl, hle, hlt, hx⟩
  · have e : xs = [] := List.eq_nil_of_length_eq_zero hl
    subst e
    cases p with
    | none => exact Lib.run_convert_nil_bytes W 22 9 5 0 Tryd.underlying22 Tryd.underlying5 Tryd.underlying9
    | some a => exact run_convert_bytes_back W 22 9 5 a 0 [] Tryd.underlying22 Tryd.underlying5 Tryd.underlying9 (fun j hj => by simp at hj)
  · exact run_convert_bytes_arg W 22 5 Tryd.underlying22 Tryd.underlying5 b off n c xs hl (fun j hj => hx j hj) 9 Tryd.underlying9
theorem tok_cell (ts : List Tok) (k j : Nat) (t : Tok) (hk : ts[k]? = some t) (hj : j < 5) : (cellsT ts)[k * 5 + j]? = (tokC t)[j]? := by
  induction ts generalizing k with
  | nil => simp at hk
  | cons u r ih =>
    have hu : (tokC u).length = 5 := rfl
    cases k with
    | zero =>
      simp only [List.getElem?_cons_zero, Option.some.injEq] at hk
      subst hk
      simp only [cellsT, List.flatMap_cons, Nat.zero_mul, Nat.zero_add]
      rw [List.getElem?_append_left (by omega)]
    | succ k =>
      simp only [List.getElem?_cons_succ] at hk
      have := ih k hk
      simp only [cellsT, List.flatMap_cons] at this ⊢
      rw [List.getElem?_append_right (by omega), hu, show (k + 1) * 5 + j - 5 = k * 5 + j by omega]
      exact this
end Go.Proofs.YtabbodbnjegllaaDoor
