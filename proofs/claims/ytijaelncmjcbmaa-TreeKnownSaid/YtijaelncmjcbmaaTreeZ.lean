import Derived.Test.YtijaelncmjcbmaaTreeY
namespace Go.Proofs.Ytijaelncmjcbmaa
open Go.RowKit
abbrev KP := Nd × Option Addr × Nat × Nat
def kpC (x : KP) : List Value := [.int .u8 x.1.kind, .int .i64 x.1.at', .string x.1.text, .int .i64 x.1.n, .slice x.2.1 x.2.2.1 x.2.2.2]
theorem flat_get (l : List KP) (i j : Nat) (hi : i < l.length) (hj : j < 5) : (l.flatMap kpC)[i * 5 + j]? = (kpC l[i])[j]? := by
  induction l generalizing i with
  | nil => simp at hi
  | cons y l ih =>
    have hy : (kpC y).length = 5 := rfl
    cases i with
    | zero =>
      simp only [List.flatMap_cons, Nat.zero_mul, Nat.zero_add, List.getElem_cons_zero]
      rw [List.getElem?_append_left (by omega)]
    | succ i =>
      simp only [List.flatMap_cons, List.getElem_cons_succ]
      rw [List.getElem?_append_right (by omega), hy, ← ih i (by simpa using hi)]
      congr 1; omega
/-- A new row of nodes. -/
theorem tv_alloc (W : World) (xs : List KP) (cells : Array Value) (n : Nat) (hn : n = xs.length) (hcs : cells = (xs.flatMap kpC).toArray) (hx : ∀ x ∈ xs, IV W x.2.1 x.2.2.1 x.2.2.2 x.1.kids) (ty : Nat) :
    TV (W.alloc (.cells cells ty)) (some ⟨W.heap.size, 0, none⟩) n n (xs.map (·.1)) where
  len_eq := by simp [hn]
  cap := Nat.le_refl _
  node := fun _ => by
    refine ⟨W.heap.size, 0, rfl, by simp, fun i hi => ?_⟩
    have hix : i < xs.length := by omega
    refine ⟨xs[i].2.1, xs[i].2.2.1, xs[i].2.2.2, ?_⟩
    have e : (xs.map (·.1)).getD i default = xs[i].1 := by simp [List.getD, hix]
    rw [e]
    have hc : ∀ j v, j < 5 → (kpC xs[i])[j]? = some v → (W.alloc (.cells cells ty)).cell? ⟨W.heap.size, 0 + i * 5 + j, none⟩ = some v := by
      intro j v hj hv
      rw [World.cell?_alloc_at _ _ _ _ rfl, hcs, List.getElem?_toArray, Nat.zero_add, flat_get xs i j hix hj, hv]
    exact ⟨hc 0 _ (by omega) rfl, hc 1 _ (by omega) rfl, hc 2 _ (by omega) rfl, hc 3 _ (by omega) rfl, hc 4 _ (by omega) rfl, (hx _ (List.getElem_mem hix)).on (one_below W _)⟩
theorem iv_nil (W : World) : IV W none 0 0 [] := ⟨rfl, Nat.le_refl _, fun h => absurd h (by omega)⟩
theorem iv_new (W : World) (cells : Array Value) (xs : List Int) (n : Nat) (hn : n = xs.length) (hc : cells = (xs.map (Value.int .i64)).toArray) (ty : Nat) : IV (W.alloc (.cells cells ty)) (some ⟨W.heap.size, 0, none⟩) n n xs where
  len_eq := hn.symm
  cap := Nat.le_refl _
  cell := fun _ => ⟨W.heap.size, 0, rfl, by simp, fun i hi => by
    rw [World.cell?_alloc_at _ _ _ _ rfl, hc]
    simp [List.getD, show i < xs.length by omega]⟩
theorem IV.alloc {W : World} {p : Option Addr} {len c : Nat} {xs : List Int} (h : IV W p len c xs) (o : Obj) : IV (W.alloc o) p len c xs := h.on (one_below W o)
def noT : ByteArray := ⟨#[]⟩
def oneT : List Nd := [⟨1, 0, noT, 0, []⟩]
def twoT : List Nd := [⟨1, 0, noT, 0, [1]⟩, ⟨6, 0, noT, 0, []⟩]
def linesT (n : Int) : List Nd := [⟨1, 0, noT, 0, [1, 3]⟩, ⟨2, 0, ⟨#[116]⟩, 0, [2]⟩, ⟨5, 0, ⟨#[99]⟩, 0, []⟩, ⟨3, 0, ⟨#[112]⟩, 0, [4, 5]⟩, ⟨4, 0, noT, 0, []⟩, ⟨6, 0, noT, 0, [6]⟩, ⟨17, 0, noT, 0, [7]⟩, ⟨23, 0, noT, 0, [8, 9]⟩, ⟨21, 0, noT, 1, []⟩, ⟨21, 0, noT, n, []⟩]
theorem lines_small (n : Int) : Small (linesT n) := ⟨by simp [linesT], by simp [linesT, noT]; decide⟩
theorem one_small : Small oneT := ⟨by simp [oneT], by simp [oneT, noT]; decide⟩
theorem two_small : Small twoT := ⟨by simp [twoT], by simp [twoT, noT]; decide⟩
theorem one_right : rightP oneT = true := by decide +kernel
theorem one_deep : deepP oneT = 0 := by decide +kernel
theorem one_size : sizeP oneT 0 = 1 := by decide +kernel
theorem two_not : rightP twoT = false := by decide +kernel
theorem lines_right : rightP (linesT 2) = true := by decide +kernel
theorem lines_deep : deepP (linesT 2) = 2 := by decide +kernel
theorem lines_size : sizeP (linesT 2) 3 = 7 := by decide +kernel
theorem lines_tv (w : World) (A : Obj) (n : Int) : ∃ W : World, W = ((((((((w.alloc A).alloc (.cells #[.int .i64 1, .int .i64 3] 3)).alloc (.cells #[.int .i64 2] 3)).alloc (.cells #[.int .i64 4, .int .i64 5] 3)).alloc (.cells #[.int .i64 6] 3)).alloc (.cells #[.int .i64 7] 3)).alloc (.cells #[.int .i64 8, .int .i64 9] 3)).alloc
      (.cells #[.int .u8 1, .int .i64 0, .string ⟨#[]⟩, .int .i64 0, .slice (some ⟨w.heap.size + 1, 0, none⟩) 2 2, .int .u8 2, .int .i64 0, .string ⟨#[116]⟩, .int .i64 0, .slice (some ⟨w.heap.size + 1 + 1, 0, none⟩) 1 1, .int .u8 5, .int .i64 0, .string ⟨#[99]⟩, .int .i64 0, .slice none 0 0, .int .u8 3, .int .i64 0, .string ⟨#[112]⟩, .int .i64 0, .slice (some ⟨w.heap.size + 1 + 1 + 1, 0, none⟩) 2 2, .int .u8 4, .int .i64 0, .string ⟨#[]⟩, .int .i64 0, .slice none 0 0, .int .u8 6, .int .i64 0, .string ⟨#[]⟩, .int .i64 0, .slice (some ⟨w.heap.size + 1 + 1 + 1 + 1, 0, none⟩) 1 1, .int .u8 17, .int .i64 0, .string ⟨#[]⟩, .int .i64 0, .slice (some ⟨w.heap.size + 1 + 1 + 1 + 1 + 1, 0, none⟩) 1 1, .int .u8 23, .int .i64 0, .string ⟨#[]⟩, .int .i64 0, .slice (some ⟨w.heap.size + 1 + 1 + 1 + 1 + 1 + 1, 0, none⟩) 2 2, .int .u8 21, .int .i64 0, .string ⟨#[]⟩, .int .i64 1, .slice none 0 0, .int .u8 21, .int .i64 0, .string ⟨#[]⟩, .int .i64 n, .slice none 0 0] 37)) ∧
    TV W (some ⟨w.heap.size + 1 + 1 + 1 + 1 + 1 + 1 + 1, 0, none⟩) 10 10 (linesT n) ∧ Below w.heap.size w W := by
  refine ⟨_, rfl, ?_, ?_⟩
  · have i1 := iv_new (w.alloc A) #[.int .i64 1, .int .i64 3] [1, 3] 2 rfl rfl 3
    have i2 := iv_new ((w.alloc A).alloc (.cells #[.int .i64 1, .int .i64 3] 3)) #[.int .i64 2] [2] 1 rfl rfl 3
    have i3 := iv_new (((w.alloc A).alloc (.cells #[.int .i64 1, .int .i64 3] 3)).alloc (.cells #[.int .i64 2] 3)) #[.int .i64 4, .int .i64 5] [4, 5] 2 rfl rfl 3
    have i4 := iv_new ((((w.alloc A).alloc (.cells #[.int .i64 1, .int .i64 3] 3)).alloc (.cells #[.int .i64 2] 3)).alloc (.cells #[.int .i64 4, .int .i64 5] 3)) #[.int .i64 6] [6] 1 rfl rfl 3
    have i5 := iv_new (((((w.alloc A).alloc (.cells #[.int .i64 1, .int .i64 3] 3)).alloc (.cells #[.int .i64 2] 3)).alloc (.cells #[.int .i64 4, .int .i64 5] 3)).alloc (.cells #[.int .i64 6] 3)) #[.int .i64 7] [7] 1 rfl rfl 3
    have i6 := iv_new ((((((w.alloc A).alloc (.cells #[.int .i64 1, .int .i64 3] 3)).alloc (.cells #[.int .i64 2] 3)).alloc (.cells #[.int .i64 4, .int .i64 5] 3)).alloc (.cells #[.int .i64 6] 3)).alloc (.cells #[.int .i64 7] 3)) #[.int .i64 8, .int .i64 9] [8, 9] 2 rfl rfl 3
    simp only [World.size_alloc] at i1 i2 i3 i4 i5 i6
    have i1' := ((((i1.alloc (.cells #[.int .i64 2] 3)).alloc (.cells #[.int .i64 4, .int .i64 5] 3)).alloc (.cells #[.int .i64 6] 3)).alloc (.cells #[.int .i64 7] 3)).alloc (.cells #[.int .i64 8, .int .i64 9] 3)
    have i2' := (((i2.alloc (.cells #[.int .i64 4, .int .i64 5] 3)).alloc (.cells #[.int .i64 6] 3)).alloc (.cells #[.int .i64 7] 3)).alloc (.cells #[.int .i64 8, .int .i64 9] 3)
    have i3' := ((i3.alloc (.cells #[.int .i64 6] 3)).alloc (.cells #[.int .i64 7] 3)).alloc (.cells #[.int .i64 8, .int .i64 9] 3)
    have i4' := (i4.alloc (.cells #[.int .i64 7] 3)).alloc (.cells #[.int .i64 8, .int .i64 9] 3)
    have i5' := i5.alloc (.cells #[.int .i64 8, .int .i64 9] 3)
    have h := tv_alloc (((((((w.alloc A).alloc (.cells #[.int .i64 1, .int .i64 3] 3)).alloc (.cells #[.int .i64 2] 3)).alloc (.cells #[.int .i64 4, .int .i64 5] 3)).alloc (.cells #[.int .i64 6] 3)).alloc (.cells #[.int .i64 7] 3)).alloc (.cells #[.int .i64 8, .int .i64 9] 3))
      [(⟨1, 0, noT, 0, [1, 3]⟩, some ⟨w.heap.size + 1, 0, none⟩, 2, 2), (⟨2, 0, ⟨#[116]⟩, 0, [2]⟩, some ⟨w.heap.size + 1 + 1, 0, none⟩, 1, 1), (⟨5, 0, ⟨#[99]⟩, 0, []⟩, none, 0, 0), (⟨3, 0, ⟨#[112]⟩, 0, [4, 5]⟩, some ⟨w.heap.size + 1 + 1 + 1, 0, none⟩, 2, 2), (⟨4, 0, noT, 0, []⟩, none, 0, 0), (⟨6, 0, noT, 0, [6]⟩, some ⟨w.heap.size + 1 + 1 + 1 + 1, 0, none⟩, 1, 1), (⟨17, 0, noT, 0, [7]⟩, some ⟨w.heap.size + 1 + 1 + 1 + 1 + 1, 0, none⟩, 1, 1), (⟨23, 0, noT, 0, [8, 9]⟩, some ⟨w.heap.size + 1 + 1 + 1 + 1 + 1 + 1, 0, none⟩, 2, 2), (⟨21, 0, noT, 1, []⟩, none, 0, 0), (⟨21, 0, noT, n, []⟩, none, 0, 0)]
      _ 10 rfl rfl (by
        intro x hx
        simp only [List.mem_cons, List.not_mem_nil, or_false] at hx
        rcases hx with rfl | rfl | rfl | rfl | rfl | rfl | rfl | rfl | rfl | rfl
        · exact i1'
        · exact i2'
        · exact iv_nil _
        · exact i3'
        · exact iv_nil _
        · exact i4'
        · exact i5'
        · exact i6
        · exact iv_nil _
        · exact iv_nil _) 37
    simp only [World.size_alloc] at h
    exact h
  · repeat (first | exact one_below w _ | refine Below.alloc ?_ (by simp; try omega) _)
set_option maxHeartbeats 4000000 in
set_option maxRecDepth 1000000 in
theorem lines_at (w : World) (n : Int) : Calls Try.prog 21 #[.int .i64 n] w fun e w' => (∃ p, e = .returned (.agg #[.slice p 10 10]) ∧ TV w' p 10 10 (linesT n)) ∧ Below w.heap.size w w' := by
  go_enter Try.func21, Try.ntmps21
  go_wp2
  simp [bodyPost, results, Try.results21, go_sem]
  obtain ⟨W, e, h1, h2⟩ := lines_tv w (.cells #[.slice (some ⟨w.heap.size + 1 + 1 + 1 + 1 + 1 + 1 + 1, 0, none⟩) 10 10] 24) n
  subst e
  exact ⟨h1, h2⟩
end Go.Proofs.Ytijaelncmjcbmaa
