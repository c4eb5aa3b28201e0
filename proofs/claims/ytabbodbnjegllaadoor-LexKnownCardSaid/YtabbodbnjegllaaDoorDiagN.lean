import Derived.Test.YtabbodbnjegllaaDoorDiagE
import Derived.Test.YtabbodbnjegllaaDoorDiagB
import Derived.Below
namespace Go.Proofs.YtabbodbnjegllaaDoor
open Go.RowKit

structure NewW (w W : World) (x l c n : Int) : Prop where
  below : Below w.heap.size w W
  size : w.heap.size + 1 < W.heap.size
  c0 : W.cell? ⟨w.heap.size + 1, 0, none⟩ = some (.int .i64 x)
  c1 : W.cell? ⟨w.heap.size + 1, 1, none⟩ = some (.int .i64 l)
  c2 : W.cell? ⟨w.heap.size + 1, 2, none⟩ = some (.int .i64 c)
  c3 : W.cell? ⟨w.heap.size + 1, 3, none⟩ = some (.int .i64 n)
theorem newW_mk (w : World) (x l c n : Int) : NewW w ((w.alloc (.cells #[.int .u8 10] 5)).alloc (.cells #[.int .i64 x, .int .i64 l, .int .i64 c, .int .i64 n] 62)) x l c n :=
  { below := ((Below.refl _ _).alloc (Nat.le_refl _) _).alloc (by simp) _, size := by simp, c0 := by simp, c1 := by simp, c2 := by simp, c3 := by simp }
def Src (w : World) (p : Option Addr) (len c : Nat) (xs : List Int) : Prop :=
  xs.length = len ∧ (∀ i, 0 ≤ xs.getD i 0 ∧ xs.getD i 0 < 256) ∧ ((len = 0 ∧ c = 0) ∨ ∃ b off, p = some ⟨b, off, none⟩ ∧ len ≤ c ∧ b < w.heap.size ∧ ∀ i, i < len → w.cell? ⟨b, off + i, none⟩ = some (.int .u8 (xs.getD i 0)))
theorem Src.below {w W : World} {p : Option Addr} {len c : Nat} {xs : List Int} (h : Src w p len c xs) (hb : Below w.heap.size w W) : Src W p len c xs := by
  obtain ⟨h1, h2, h3⟩ := h
  refine ⟨h1, h2, ?_⟩
  rcases h3 with h3 | ⟨b, off, e, hc, hl, hx⟩
  · exact Or.inl h3
  · exact Or.inr ⟨b, off, e, hc, Nat.lt_of_lt_of_le hl hb.size, fun i hi => by rw [hb.cell (p := ⟨b, off + i, none⟩) hl]; exact hx i hi⟩
theorem new_src (p : Option Addr) (len c k : Nat) (xs : List Int) (at' n : Int) (w : World) (h0 : n ≠ 0) (hb : len ≤ 70000) (hk : min (max at' 0) (len : Int) = (k : Int)) (hs : Src w p len c xs) :
    Calls Tryd.prog 20 #[.slice p len c, .int .i64 at', .int .i64 n] w fun e w' => e = .returned (.iface 59 (.pointer (some ⟨w.heap.size + 1, 0, none⟩))) ∧ NewW w w' k (lineF xs k) ((k : Int) - lastF xs k) n := by
  obtain ⟨h1, h2, h3⟩ := hs
  rcases h3 with ⟨rfl, rfl⟩ | ⟨b, off, rfl, hc, hl, hx⟩
  · obtain rfl : k = 0 := by omega
    cases p with
    | none =>
      refine (new_nil at' n w h0).mono ?_
      rintro e w' ⟨rfl, rfl⟩
      exact ⟨rfl, newW_mk w _ _ _ n⟩
    | some a =>
      refine (new_none a at' n w h0).mono ?_
      rintro e w' ⟨rfl, rfl⟩
      exact ⟨rfl, newW_mk w _ _ _ n⟩
  · refine (new_at b off len c k xs at' n w h0 h1 hc hb hk h2 hx hl).mono ?_
    rintro e w' ⟨rfl, rfl⟩
    exact ⟨rfl, newW_mk w _ _ _ n⟩
theorem new_ab (w : World) (b : Nat) (hbl : b < w.heap.size) (h0 : w.cell? ⟨b, 0, none⟩ = some (.int .u8 97)) (h1 : w.cell? ⟨b, 1, none⟩ = some (.int .u8 98)) (h2 : w.cell? ⟨b, 2, none⟩ = some (.int .u8 10)) (h3 : w.cell? ⟨b, 3, none⟩ = some (.int .u8 99)) :
    Calls Tryd.prog 20 #[.slice (some ⟨b, 0, none⟩) 4 4, .int .i64 3, .int .i64 50] w fun e w' => e = .returned (.iface 59 (.pointer (some ⟨w.heap.size + 1, 0, none⟩))) ∧ NewW w w' 3 2 1 50 := by
  refine (new_src (some ⟨b, 0, none⟩) 4 4 3 [97, 98, 10, 99] 3 50 w (by decide) (by decide) (by decide) ⟨rfl, ?_, Or.inr ⟨b, 0, rfl, by decide, hbl, ?_⟩⟩).mono ?_
  · intro i
    match i with
    | 0 | 1 | 2 | 3 => decide
    | i + 4 => simp [List.getD]
  · intro i hi
    match i, hi with
    | 0, _ => simpa using h0
    | 1, _ => simpa using h1
    | 2, _ => simpa using h2
    | 3, _ => simpa using h3
  · rintro e w' ⟨rfl, h⟩
    exact ⟨rfl, h⟩
theorem new_zero (at' n : Int) (w : World) (h0 : n ≠ 0) :
    Calls Tryd.prog 20 #[.slice none 0 0, .int .i64 at', .int .i64 n] w fun e w' => e = .returned (.iface 59 (.pointer (some ⟨w.heap.size + 1, 0, none⟩))) ∧ NewW w w' 0 1 1 n := by
  refine (new_nil at' n w h0).mono ?_
  rintro e w' ⟨rfl, rfl⟩
  exact ⟨rfl, newW_mk w _ _ _ n⟩
end Go.Proofs.YtabbodbnjegllaaDoor
