import Derived.Test.YtijaelncmjcbmaaTreeR
namespace Go.Proofs.Ytijaelncmjcbmaa
open Go.RowKit
def PT (W : World) (p : Option Addr) (n c : Nat) : Prop := ∃ ns, TV W p n c ns
theorem PT.on {W W' : World} {p : Option Addr} {n c : Nat} (h : PT W p n c) (hb : Below W.heap.size W W') : PT W' p n c := by
  obtain ⟨ns, h⟩ := h
  exact ⟨ns, h.on hb⟩
theorem PT.none (W : World) : PT W none 0 0 := ⟨[], rfl, Nat.le_refl _, fun h => absurd h (by omega)⟩
structure KT (w Z : World) (pt bt pu bu : Nat) : Prop where
  below : Below w.heap.size w Z
  t1 : PT Z (some ⟨pt, 0, none⟩) 3 3
  t2 : PT Z (some ⟨pu, 0, none⟩) 6 6
  c1 : Z.cell? ⟨bt, 0, none⟩ = some (.slice (some ⟨pt, 0, none⟩) 3 3)
  c2 : Z.cell? ⟨bu, 0, none⟩ = some (.slice (some ⟨pu, 0, none⟩) 6 6)
theorem KT.on {w W V : World} {pt bt pu bu : Nat} (h : KT w W pt bt pu bu) (hb : Below W.heap.size W V) : KT w V pt bt pu bu where
  below := h.below.trans (hb.mono h.below.size)
  t1 := h.t1.on hb
  t2 := h.t2.on hb
  c1 := Aside.of hb _ _ h.c1
  c2 := Aside.of hb _ _ h.c2
theorem kn_trees (W : World) (a b m : Int) (s : ByteArray) : ∃ Z : World, Z = ((((((((((((W.alloc (.cells #[.string ⟨#[]⟩, .string ⟨#[112]⟩, .string ⟨#[49]⟩, .string ⟨#[114, 101, 97, 100]⟩] 9)).alloc (.cells #[.int .u8 b, .int .i64 0, .string s, .int .i64 m, .slice none 0 0] 37)).alloc (.cells #[.int .i64 1] 3)).alloc (.cells #[.int .i64 2] 3)).alloc (.cells #[.int .u8 1, .int .i64 0, .string ⟨#[]⟩, .int .i64 0, .slice (some ⟨W.heap.size + 1 + 1, 0, none⟩) 1 1, .int .u8 a, .int .i64 0, .string ⟨#[112]⟩, .int .i64 0, .slice (some ⟨W.heap.size + 1 + 1 + 1, 0, none⟩) 1 1, .int .u8 b, .int .i64 0, .string s, .int .i64 m, .slice none 0 0] 37)).alloc (.cells #[.slice (some ⟨W.heap.size + 1 + 1 + 1 + 1, 0, none⟩) 3 3] 24)).alloc (.cells #[.int .i64 1] 3)).alloc (.cells #[.int .i64 2, .int .i64 3] 3)).alloc (.cells #[.int .i64 4] 3)).alloc (.cells #[.int .i64 5] 3)).alloc (.cells #[.int .u8 1, .int .i64 0, .string ⟨#[]⟩, .int .i64 0, .slice (some ⟨W.heap.size + 1 + 1 + 1 + 1 + 1 + 1, 0, none⟩) 1 1, .int .u8 3, .int .i64 0, .string ⟨#[112]⟩, .int .i64 0, .slice (some ⟨W.heap.size + 1 + 1 + 1 + 1 + 1 + 1 + 1, 0, none⟩) 2 2, .int .u8 4, .int .i64 0, .string ⟨#[]⟩, .int .i64 0, .slice none 0 0, .int .u8 6, .int .i64 0, .string ⟨#[]⟩, .int .i64 0, .slice (some ⟨W.heap.size + 1 + 1 + 1 + 1 + 1 + 1 + 1 + 1, 0, none⟩) 1 1, .int .u8 a, .int .i64 0, .string s, .int .i64 m, .slice (some ⟨W.heap.size + 1 + 1 + 1 + 1 + 1 + 1 + 1 + 1 + 1, 0, none⟩) 1 1, .int .u8 b, .int .i64 0, .string ⟨#[]⟩, .int .i64 0, .slice none 0 0] 37)).alloc (.cells #[.slice (some ⟨W.heap.size + 1 + 1 + 1 + 1 + 1 + 1 + 1 + 1 + 1 + 1, 0, none⟩) 6 6] 24)) ∧ KT W Z (W.heap.size + 1 + 1 + 1 + 1) (W.heap.size + 1 + 1 + 1 + 1 + 1) (W.heap.size + 1 + 1 + 1 + 1 + 1 + 1 + 1 + 1 + 1 + 1) (W.heap.size + 1 + 1 + 1 + 1 + 1 + 1 + 1 + 1 + 1 + 1 + 1) := by
  refine ⟨_, rfl, ?_⟩
  have i2 := iv_new ((W.alloc (.cells #[.string ⟨#[]⟩, .string ⟨#[112]⟩, .string ⟨#[49]⟩, .string ⟨#[114, 101, 97, 100]⟩] 9)).alloc (.cells #[.int .u8 b, .int .i64 0, .string s, .int .i64 m, .slice none 0 0] 37)) #[.int .i64 1] [1] 1 rfl rfl 3
  have i3 := iv_new (((W.alloc (.cells #[.string ⟨#[]⟩, .string ⟨#[112]⟩, .string ⟨#[49]⟩, .string ⟨#[114, 101, 97, 100]⟩] 9)).alloc (.cells #[.int .u8 b, .int .i64 0, .string s, .int .i64 m, .slice none 0 0] 37)).alloc (.cells #[.int .i64 1] 3)) #[.int .i64 2] [2] 1 rfl rfl 3
  have a4 := tv_alloc ((((W.alloc (.cells #[.string ⟨#[]⟩, .string ⟨#[112]⟩, .string ⟨#[49]⟩, .string ⟨#[114, 101, 97, 100]⟩] 9)).alloc (.cells #[.int .u8 b, .int .i64 0, .string s, .int .i64 m, .slice none 0 0] 37)).alloc (.cells #[.int .i64 1] 3)).alloc (.cells #[.int .i64 2] 3)) [(⟨1, 0, ⟨#[]⟩, 0, [1]⟩, _, 1, 1), (⟨a, 0, ⟨#[112]⟩, 0, [2]⟩, _, 1, 1), (⟨b, 0, s, m, []⟩, none, 0, 0)] _ 3 rfl rfl (by
    intro x hx
    simp only [List.mem_cons, List.not_mem_nil, or_false] at hx
    rcases hx with rfl | rfl | rfl
    · exact i2.on (one_below _ _)
    · exact i3
    · exact iv_nil _) 37
  have i6 := iv_new ((((((W.alloc (.cells #[.string ⟨#[]⟩, .string ⟨#[112]⟩, .string ⟨#[49]⟩, .string ⟨#[114, 101, 97, 100]⟩] 9)).alloc (.cells #[.int .u8 b, .int .i64 0, .string s, .int .i64 m, .slice none 0 0] 37)).alloc (.cells #[.int .i64 1] 3)).alloc (.cells #[.int .i64 2] 3)).alloc (.cells #[.int .u8 1, .int .i64 0, .string ⟨#[]⟩, .int .i64 0, .slice (some ⟨W.heap.size + 1 + 1, 0, none⟩) 1 1, .int .u8 a, .int .i64 0, .string ⟨#[112]⟩, .int .i64 0, .slice (some ⟨W.heap.size + 1 + 1 + 1, 0, none⟩) 1 1, .int .u8 b, .int .i64 0, .string s, .int .i64 m, .slice none 0 0] 37)).alloc (.cells #[.slice (some ⟨W.heap.size + 1 + 1 + 1 + 1, 0, none⟩) 3 3] 24)) #[.int .i64 1] [1] 1 rfl rfl 3
  have i7 := iv_new (((((((W.alloc (.cells #[.string ⟨#[]⟩, .string ⟨#[112]⟩, .string ⟨#[49]⟩, .string ⟨#[114, 101, 97, 100]⟩] 9)).alloc (.cells #[.int .u8 b, .int .i64 0, .string s, .int .i64 m, .slice none 0 0] 37)).alloc (.cells #[.int .i64 1] 3)).alloc (.cells #[.int .i64 2] 3)).alloc (.cells #[.int .u8 1, .int .i64 0, .string ⟨#[]⟩, .int .i64 0, .slice (some ⟨W.heap.size + 1 + 1, 0, none⟩) 1 1, .int .u8 a, .int .i64 0, .string ⟨#[112]⟩, .int .i64 0, .slice (some ⟨W.heap.size + 1 + 1 + 1, 0, none⟩) 1 1, .int .u8 b, .int .i64 0, .string s, .int .i64 m, .slice none 0 0] 37)).alloc (.cells #[.slice (some ⟨W.heap.size + 1 + 1 + 1 + 1, 0, none⟩) 3 3] 24)).alloc (.cells #[.int .i64 1] 3)) #[.int .i64 2, .int .i64 3] [2, 3] 2 rfl rfl 3
  have i8 := iv_new ((((((((W.alloc (.cells #[.string ⟨#[]⟩, .string ⟨#[112]⟩, .string ⟨#[49]⟩, .string ⟨#[114, 101, 97, 100]⟩] 9)).alloc (.cells #[.int .u8 b, .int .i64 0, .string s, .int .i64 m, .slice none 0 0] 37)).alloc (.cells #[.int .i64 1] 3)).alloc (.cells #[.int .i64 2] 3)).alloc (.cells #[.int .u8 1, .int .i64 0, .string ⟨#[]⟩, .int .i64 0, .slice (some ⟨W.heap.size + 1 + 1, 0, none⟩) 1 1, .int .u8 a, .int .i64 0, .string ⟨#[112]⟩, .int .i64 0, .slice (some ⟨W.heap.size + 1 + 1 + 1, 0, none⟩) 1 1, .int .u8 b, .int .i64 0, .string s, .int .i64 m, .slice none 0 0] 37)).alloc (.cells #[.slice (some ⟨W.heap.size + 1 + 1 + 1 + 1, 0, none⟩) 3 3] 24)).alloc (.cells #[.int .i64 1] 3)).alloc (.cells #[.int .i64 2, .int .i64 3] 3)) #[.int .i64 4] [4] 1 rfl rfl 3
  have i9 := iv_new (((((((((W.alloc (.cells #[.string ⟨#[]⟩, .string ⟨#[112]⟩, .string ⟨#[49]⟩, .string ⟨#[114, 101, 97, 100]⟩] 9)).alloc (.cells #[.int .u8 b, .int .i64 0, .string s, .int .i64 m, .slice none 0 0] 37)).alloc (.cells #[.int .i64 1] 3)).alloc (.cells #[.int .i64 2] 3)).alloc (.cells #[.int .u8 1, .int .i64 0, .string ⟨#[]⟩, .int .i64 0, .slice (some ⟨W.heap.size + 1 + 1, 0, none⟩) 1 1, .int .u8 a, .int .i64 0, .string ⟨#[112]⟩, .int .i64 0, .slice (some ⟨W.heap.size + 1 + 1 + 1, 0, none⟩) 1 1, .int .u8 b, .int .i64 0, .string s, .int .i64 m, .slice none 0 0] 37)).alloc (.cells #[.slice (some ⟨W.heap.size + 1 + 1 + 1 + 1, 0, none⟩) 3 3] 24)).alloc (.cells #[.int .i64 1] 3)).alloc (.cells #[.int .i64 2, .int .i64 3] 3)).alloc (.cells #[.int .i64 4] 3)) #[.int .i64 5] [5] 1 rfl rfl 3
  have a10 := tv_alloc ((((((((((W.alloc (.cells #[.string ⟨#[]⟩, .string ⟨#[112]⟩, .string ⟨#[49]⟩, .string ⟨#[114, 101, 97, 100]⟩] 9)).alloc (.cells #[.int .u8 b, .int .i64 0, .string s, .int .i64 m, .slice none 0 0] 37)).alloc (.cells #[.int .i64 1] 3)).alloc (.cells #[.int .i64 2] 3)).alloc (.cells #[.int .u8 1, .int .i64 0, .string ⟨#[]⟩, .int .i64 0, .slice (some ⟨W.heap.size + 1 + 1, 0, none⟩) 1 1, .int .u8 a, .int .i64 0, .string ⟨#[112]⟩, .int .i64 0, .slice (some ⟨W.heap.size + 1 + 1 + 1, 0, none⟩) 1 1, .int .u8 b, .int .i64 0, .string s, .int .i64 m, .slice none 0 0] 37)).alloc (.cells #[.slice (some ⟨W.heap.size + 1 + 1 + 1 + 1, 0, none⟩) 3 3] 24)).alloc (.cells #[.int .i64 1] 3)).alloc (.cells #[.int .i64 2, .int .i64 3] 3)).alloc (.cells #[.int .i64 4] 3)).alloc (.cells #[.int .i64 5] 3)) [(⟨1, 0, ⟨#[]⟩, 0, [1]⟩, _, 1, 1), (⟨3, 0, ⟨#[112]⟩, 0, [2, 3]⟩, _, 2, 2), (⟨4, 0, ⟨#[]⟩, 0, []⟩, none, 0, 0), (⟨6, 0, ⟨#[]⟩, 0, [4]⟩, _, 1, 1), (⟨a, 0, s, m, [5]⟩, _, 1, 1), (⟨b, 0, ⟨#[]⟩, 0, []⟩, none, 0, 0)] _ 6 rfl rfl (by
    intro x hx
    simp only [List.mem_cons, List.not_mem_nil, or_false] at hx
    rcases hx with rfl | rfl | rfl | rfl | rfl | rfl
    · exact ((i6.on (one_below _ _)).on (one_below _ _)).on (one_below _ _)
    · exact (i7.on (one_below _ _)).on (one_below _ _)
    · exact iv_nil _
    · exact i8.on (one_below _ _)
    · exact i9
    · exact iv_nil _) 37
  simp only [World.size_alloc] at a4 a10
  refine ⟨?_, ⟨_, (((((((a4).on (one_below _ _)).on (one_below _ _)).on (one_below _ _)).on (one_below _ _)).on (one_below _ _)).on (one_below _ _)).on (one_below _ _)⟩, ⟨_, a10.on (one_below _ _)⟩, ?_, ?_⟩
  · repeat (first | exact one_below W _ | refine Below.alloc ?_ (by simp; try omega) _)
  · rw [World.cell?_alloc_past _ _ _ (by simp; try omega), World.cell?_alloc_past _ _ _ (by simp; try omega), World.cell?_alloc_past _ _ _ (by simp; try omega), World.cell?_alloc_past _ _ _ (by simp; try omega), World.cell?_alloc_past _ _ _ (by simp; try omega), World.cell?_alloc_past _ _ _ (by simp; try omega), World.cell?_alloc_at _ _ _ _ (by simp)]; rfl
  · rw [World.cell?_alloc_at _ _ _ _ (by simp)]; rfl
theorem kn_two (W : World) (k n : Int) : ∃ Z : World, Z = ((W.alloc (.cells #[.int .i64 1] 3)).alloc (.cells #[.int .u8 1, .int .i64 0, .string ⟨#[]⟩, .int .i64 0, .slice (some ⟨W.heap.size, 0, none⟩) 1 1, .int .u8 k, .int .i64 0, .string ⟨#[112]⟩, .int .i64 n, .slice none 0 0] 37)) ∧ PT Z (some ⟨W.heap.size + 1, 0, none⟩) 2 2 ∧ Below W.heap.size W Z := by
  refine ⟨_, rfl, ?_, ?_⟩
  · have i2 := iv_new W #[.int .i64 1] [1] 1 rfl rfl 3
    have a4 := tv_alloc (W.alloc (.cells #[.int .i64 1] 3)) [(⟨1, 0, ⟨#[]⟩, 0, [1]⟩, _, 1, 1), (⟨k, 0, ⟨#[112]⟩, n, []⟩, none, 0, 0)] _ 2 rfl rfl (by
      intro x hx
      simp only [List.mem_cons, List.not_mem_nil, or_false] at hx
      rcases hx with rfl | rfl
      · exact i2
      · exact iv_nil _) 37
    simp only [World.size_alloc] at a4
    exact ⟨_, a4⟩
  · repeat (first | exact one_below W _ | refine Below.alloc ?_ (by simp; try omega) _)
theorem kn_three (W : World) (p : Option Addr) (l : Nat) (xs : List Int) (h : IV W p l l xs) : ∃ Z : World, Z = ((W.alloc (.cells #[.int .i64 2] 3)).alloc (.cells #[.int .u8 1, .int .i64 0, .string ⟨#[]⟩, .int .i64 0, .slice p l l, .int .u8 2, .int .i64 0, .string ⟨#[116]⟩, .int .i64 0, .slice (some ⟨W.heap.size, 0, none⟩) 1 1, .int .u8 5, .int .i64 0, .string ⟨#[99]⟩, .int .i64 0, .slice none 0 0] 37)) ∧ PT Z (some ⟨W.heap.size + 1, 0, none⟩) 3 3 ∧ Below W.heap.size W Z := by
  refine ⟨_, rfl, ?_, ?_⟩
  · have i2 := iv_new W #[.int .i64 2] [2] 1 rfl rfl 3
    have a4 := tv_alloc (W.alloc (.cells #[.int .i64 2] 3)) [(⟨1, 0, ⟨#[]⟩, 0, xs⟩, p, l, l), (⟨2, 0, ⟨#[116]⟩, 0, [2]⟩, _, 1, 1), (⟨5, 0, ⟨#[99]⟩, 0, []⟩, none, 0, 0)] _ 3 rfl rfl (by
      intro x hx
      simp only [List.mem_cons, List.not_mem_nil, or_false] at hx
      rcases hx with rfl | rfl | rfl
      · exact h.on (one_below _ _)
      · exact i2
      · exact iv_nil _) 37
    simp only [World.size_alloc] at a4
    exact ⟨_, a4⟩
  · repeat (first | exact one_below W _ | refine Below.alloc ?_ (by simp; try omega) _)
theorem kn_rows (W : World) : ∃ Z : World, Z = (((((((((W.alloc (.cells #[.int .i64 1] 3)).alloc (.cells #[.int .i64 0] 3)).alloc (.cells #[.int .i64 (-1)] 3)).alloc (.cells #[.int .i64 2] 3)).alloc (.cells #[.int .i64 1, .int .i64 2] 3)).alloc (.cells #[.int .i64 2, .int .i64 1] 3)).alloc (.cells #[.int .i64 1, .int .i64 1] 3)).alloc (.cells #[] 3)).alloc (.cells #[.slice (some ⟨W.heap.size, 0, none⟩) 1 1, .slice (some ⟨W.heap.size + 1, 0, none⟩) 1 1, .slice (some ⟨W.heap.size + 1 + 1, 0, none⟩) 1 1, .slice (some ⟨W.heap.size + 1 + 1 + 1, 0, none⟩) 1 1, .slice (some ⟨W.heap.size + 1 + 1 + 1 + 1, 0, none⟩) 2 2, .slice (some ⟨W.heap.size + 1 + 1 + 1 + 1 + 1, 0, none⟩) 2 2, .slice (some ⟨W.heap.size + 1 + 1 + 1 + 1 + 1 + 1, 0, none⟩) 2 2, .slice (some ⟨W.heap.size + 1 + 1 + 1 + 1 + 1 + 1 + 1, 0, none⟩) 0 0] 35)) ∧ Below W.heap.size W Z ∧ W.heap.size + 1 + 1 + 1 + 1 + 1 + 1 + 1 + 1 < Z.heap.size ∧ ∀ i, i < 8 → ∃ p l xs, Z.cell? ⟨W.heap.size + 1 + 1 + 1 + 1 + 1 + 1 + 1 + 1, i, none⟩ = some (.slice p l l) ∧ l ≤ 2 ∧ IV Z p l l xs := by
  refine ⟨_, rfl, ?_, by simp, ?_⟩
  · repeat (first | exact one_below W _ | refine Below.alloc ?_ (by simp; try omega) _)
  · intro i hi
    have i0 := iv_new W #[.int .i64 1] [1] 1 rfl rfl 3
    have i1 := iv_new (W.alloc (.cells #[.int .i64 1] 3)) #[.int .i64 0] [0] 1 rfl rfl 3
    have i2 := iv_new ((W.alloc (.cells #[.int .i64 1] 3)).alloc (.cells #[.int .i64 0] 3)) #[.int .i64 (-1)] [-1] 1 rfl rfl 3
    have i3 := iv_new (((W.alloc (.cells #[.int .i64 1] 3)).alloc (.cells #[.int .i64 0] 3)).alloc (.cells #[.int .i64 (-1)] 3)) #[.int .i64 2] [2] 1 rfl rfl 3
    have i4 := iv_new ((((W.alloc (.cells #[.int .i64 1] 3)).alloc (.cells #[.int .i64 0] 3)).alloc (.cells #[.int .i64 (-1)] 3)).alloc (.cells #[.int .i64 2] 3)) #[.int .i64 1, .int .i64 2] [1, 2] 2 rfl rfl 3
    have i5 := iv_new (((((W.alloc (.cells #[.int .i64 1] 3)).alloc (.cells #[.int .i64 0] 3)).alloc (.cells #[.int .i64 (-1)] 3)).alloc (.cells #[.int .i64 2] 3)).alloc (.cells #[.int .i64 1, .int .i64 2] 3)) #[.int .i64 2, .int .i64 1] [2, 1] 2 rfl rfl 3
    have i6 := iv_new ((((((W.alloc (.cells #[.int .i64 1] 3)).alloc (.cells #[.int .i64 0] 3)).alloc (.cells #[.int .i64 (-1)] 3)).alloc (.cells #[.int .i64 2] 3)).alloc (.cells #[.int .i64 1, .int .i64 2] 3)).alloc (.cells #[.int .i64 2, .int .i64 1] 3)) #[.int .i64 1, .int .i64 1] [1, 1] 2 rfl rfl 3
    have i7 := iv_new (((((((W.alloc (.cells #[.int .i64 1] 3)).alloc (.cells #[.int .i64 0] 3)).alloc (.cells #[.int .i64 (-1)] 3)).alloc (.cells #[.int .i64 2] 3)).alloc (.cells #[.int .i64 1, .int .i64 2] 3)).alloc (.cells #[.int .i64 2, .int .i64 1] 3)).alloc (.cells #[.int .i64 1, .int .i64 1] 3)) #[] [] 0 rfl rfl 3
    simp only [World.size_alloc] at i1 i2 i3 i4 i5 i6 i7
    rw [World.cell?_alloc_at _ _ _ _ (by simp)]
    have : i = 0 ∨ i = 1 ∨ i = 2 ∨ i = 3 ∨ i = 4 ∨ i = 5 ∨ i = 6 ∨ i = 7 := by omega
    rcases this with rfl | rfl | rfl | rfl | rfl | rfl | rfl | rfl
    · exact ⟨_, _, _, rfl, by omega, ((((((((i0).on (one_below _ _)).on (one_below _ _)).on (one_below _ _)).on (one_below _ _)).on (one_below _ _)).on (one_below _ _)).on (one_below _ _)).on (one_below _ _)⟩
    · exact ⟨_, _, _, rfl, by omega, (((((((i1).on (one_below _ _)).on (one_below _ _)).on (one_below _ _)).on (one_below _ _)).on (one_below _ _)).on (one_below _ _)).on (one_below _ _)⟩
    · exact ⟨_, _, _, rfl, by omega, ((((((i2).on (one_below _ _)).on (one_below _ _)).on (one_below _ _)).on (one_below _ _)).on (one_below _ _)).on (one_below _ _)⟩
    · exact ⟨_, _, _, rfl, by omega, (((((i3).on (one_below _ _)).on (one_below _ _)).on (one_below _ _)).on (one_below _ _)).on (one_below _ _)⟩
    · exact ⟨_, _, _, rfl, by omega, ((((i4).on (one_below _ _)).on (one_below _ _)).on (one_below _ _)).on (one_below _ _)⟩
    · exact ⟨_, _, _, rfl, by omega, (((i5).on (one_below _ _)).on (one_below _ _)).on (one_below _ _)⟩
    · exact ⟨_, _, _, rfl, by omega, ((i6).on (one_below _ _)).on (one_below _ _)⟩
    · exact ⟨_, _, _, rfl, by omega, (i7).on (one_below _ _)⟩
end Go.Proofs.Ytijaelncmjcbmaa
