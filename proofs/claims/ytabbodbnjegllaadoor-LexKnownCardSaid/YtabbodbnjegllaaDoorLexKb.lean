import Derived.Test.YtabbodbnjegllaaDoorLexZ
import Derived.Test.YtabbodbnjegllaaDoorLexT
import Derived.IntWalk
import Derived.Deep.RegionHeld3
namespace Go.Proofs.YtabbodbnjegllaaDoor
open Go.RowKit
theorem make_any (W : World) (n : Nat) (z : Int) (hz : z = (n : Int)) (hn : n ≤ 70000) : ∃ W', (Instr.makeSlice 22 (.int .i64 z) (.int .i64 z)).run Tryd.prog W = .ok (.slice (some ⟨W.heap.size, 0, none⟩) n n) W' ∧ Below W.heap.size W W' ∧ W'.ownsRow W.heap.size 5 1 (.slice (some ⟨W.heap.size, 0, none⟩) n n) n (List.replicate n (.int .u8 0)) := by
  obtain ⟨i0, hi, hz0, hz1, hz2⟩ := info_parts infoB
  obtain ⟨W', h1, h2, h3⟩ := run_makeSlice_full (P := Tryd.prog) W W.heap.size 22 5 i0 (.int .u8 0) 1 Tryd.underlying22 hi hz0 hz1 .i64 .i64 n (by omega) (by rw [hz2]; omega) (by unfold maxLen; omega) (Nat.le_refl _)
  subst hz
  refine ⟨W', h1, ⟨h3.os, h3.tape, h3.output, h3.size, fun k hk => h3.block k hk (by simp)⟩, ?_⟩
  have e : (madeCells (Value.int .u8 0).cells (n * 1)).toList = List.replicate n (.int .u8 0) := by
    rw [Nat.mul_one]
    exact toList_madeCells_one _ _
  rw [e] at h2
  exact h2
theorem blk_row (n : Nat) : blk false (List.replicate n 32) = n := by
  induction n with
  | zero => rfl
  | succ n ih => simp only [List.replicate_succ, blk, isBlank]; simp [ih]; omega
theorem lexS_row (n : Nat) : lexS (List.replicate n 32) = .ok [Tok.endAt n] := by
  have h : bl (List.replicate n 32) 0 = n := by
    unfold bl
    rw [List.drop_zero, blk_row]
    omega
  rw [lexS_at, lexAt_bl _ 0 (by omega), h, lexAt_end _ _ (by simp)]
set_option maxHeartbeats 1000000 in
theorem lex_limit (W : World) (p : Option Addr) (len c : Nat) (xs : List Int) (hs : Src W p len c xs) (h1 : 65536 < len) (h2 : len ≤ 70000) :
    Calls Tryd.prog 10 #[.slice p len c] W fun e w' => ∃ B l cc, e = .returned (.tuple #[.slice none 0 0, .iface 59 (.pointer (some ⟨B, 0, none⟩))]) ∧ ErrAt w' B 0 l cc 3 ∧ Below W.heap.size W w' := by
  obtain ⟨B, l, cc, _, NA⟩ := new_err (W := W) (n := 3) (at' := 0) (k := 0) (by decide) h2 (by omega) hs (Below.refl _ _)
  have HN := Lib.hid NA
  clear NA hs
  go_enter Tryd.func10, Tryd.ntmps10
  go_wp2_with fail
  (with_reducible refine HN.out.mono ?_)
  rintro e w5 ⟨rfl, hE, hb5⟩
  have HE := Lib.hid hE
  clear hE HN
  go_wp2
  go_ret2
  exact ⟨B, l, cc, rfl, HE.out, hb5⟩
theorem row_src {W : World} {base g n : Nat} {z : Int} {L : List Value} (ho : W.ownsRow base 5 1 (.slice (some ⟨g, 0, none⟩) n n) n L) (hz : 0 ≤ z ∧ z < 256) (hL : ∀ j, j < n → L[j]? = some (.int .u8 z)) : Src W (some ⟨g, 0, none⟩) n n (List.replicate n z) := by
  have hl : L.length = n := by have := ho.1; omega
  have e : L = (List.replicate n z).map (Value.int .u8) := by
    rw [List.map_replicate]
    apply List.ext_getElem?
    intro j
    by_cases hj : j < n
    · rw [hL j hj, List.getElem?_replicate, if_pos hj]
    · rw [List.getElem?_eq_none (by omega), List.getElem?_eq_none (by simp; omega)]
  rw [e] at ho
  exact src_own ho (by simp) (fun x hx => by rw [List.eq_of_mem_replicate hx]; exact hz)
theorem make_src {W : World} {base g n : Nat} (ho : W.ownsRow base 5 1 (.slice (some ⟨g, 0, none⟩) n n) n (List.replicate n (.int .u8 0))) : Src W (some ⟨g, 0, none⟩) n n (List.replicate n 0) :=
  row_src ho (by decide) (fun j hj => by rw [List.getElem?_replicate, if_pos hj])
theorem set_row {L : List Value} {n k : Nat} {v : Value} (hl : L.length = n) (hk : k < n) (h : ∀ j, j < k → L[j]? = some v) : ∀ j, j < k + 1 → (L.set k v)[j]? = some v := by
  intro j hj
  by_cases e : j = k
  · subst e
    rw [List.getElem?_set_self (by omega)]
  · rw [List.getElem?_set_ne (by omega)]
    exact h j (by omega)
end Go.Proofs.YtabbodbnjegllaaDoor
