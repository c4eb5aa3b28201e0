import Derived.Test.YtgmkmpldlndboaaCodeD
namespace Go.Proofs.Ytgmkmpldlndboaa.Cd
open Go.RowKit
def tmC (t : Tm) : List Value := [.int .u8 t.k, .int .i64 t.n, .int .i64 t.v]
def flatT : List Tm → List Value
  | [] => []
  | t :: r => tmC t ++ flatT r
theorem flatT_length (ts : List Tm) : (flatT ts).length = ts.length * 3 := by
  induction ts with
  | nil => rfl
  | cons t r ih => simp only [flatT, List.length_append, ih, tmC, List.length_cons, List.length_nil]; omega
theorem flatT_append (a b : List Tm) : flatT (a ++ b) = flatT a ++ flatT b := by
  induction a with
  | nil => rfl
  | cons t r ih => simp only [List.cons_append, flatT, ih, List.append_assoc]
theorem flatT_get (ts : List Tm) (i j : Nat) (hi : i < ts.length) (hj : j < 3) : (flatT ts)[i * 3 + j]? = (tmC (ts.getD i default))[j]? := by
  induction ts generalizing i with
  | nil => simp at hi
  | cons t r ih =>
    cases i with
    | zero =>
      simp only [flatT, Nat.zero_mul, Nat.zero_add]
      rw [List.getElem?_append_left (by simpa [tmC] using hj)]
      rfl
    | succ i =>
      simp only [flatT]
      rw [List.getElem?_append_right (by simp [tmC]; omega)]
      have := ih i (by simpa using hi)
      rw [show (i + 1) * 3 + j - (tmC t).length = i * 3 + j by simp [tmC]; omega, this]
      simp [List.getD]
theorem flatT_one (ts : List Tm) : ∀ u ∈ flatT ts, u.oneCell' = true := by
  induction ts with
  | nil => simp [flatT]
  | cons t r ih =>
    intro u hu
    simp only [flatT, List.mem_append] at hu
    rcases hu with hu | hu
    · simp only [tmC, List.mem_cons, List.not_mem_nil, or_false] at hu
      rcases hu with rfl | rfl | rfl <;> rfl
    · exact ih u hu
theorem ts_block {W : World} {b : Nat} {cs : Array Value} {T : TypeId} {fr : Nat × Nat} (hb : W.heap[b]? = some (.cells cs T fr)) (ts : List Tm) (hcs : cs.toList.take (ts.length * 3) = flatT ts) (c : Nat) (hc : ts.length ≤ c) : TsIn W (some ⟨b, 0, none⟩) ts.length c ts where
  len_eq := rfl
  cap := hc
  nil := fun h => by cases h
  cell := fun _ => by
    refine ⟨b, 0, rfl, (Array.getElem?_eq_some_iff.1 hb).1, fun i hi => ?_⟩
    have cell : ∀ j u, j < 3 → (tmC (ts.getD i default))[j]? = some u → W.cell? ⟨b, 0 + i * 3 + j, none⟩ = some u := fun j u hj hu => by
      rw [cell_of_row W b _ cs T fr hb]
      have h1 := flatT_get ts i j hi hj
      rw [← hcs, List.getElem?_take, if_pos (by omega)] at h1
      rw [Nat.zero_add, ← Array.getElem?_toList, h1, hu]
    exact ⟨cell 0 _ (by omega) rfl, cell 1 _ (by omega) rfl, cell 2 _ (by omega) rfl⟩
theorem ts_own {W : World} {B : Nat} {v : Value} {ts : List Tm} {n : Nat} (hn : ts.length = n) (h : W.ownsRow B 39 3 v n (flatT ts)) : ∃ p c, v = .slice p n c ∧ TsIn W p n c ts := by
  subst hn
  rcases h.2 with ⟨rfl, h0⟩ | ⟨g, c, cur, rfl, _, hg, hc, _, _, ht⟩
  · exact ⟨none, 0, by rw [h0], rfl, by omega, fun _ => rfl, fun h => by omega⟩
  · exact ⟨_, _, rfl, ts_block hg ts ht c hc⟩
theorem vs_five (W : World) : VsIn (W.alloc (.cells #[.int .i64 5, .int .i64 6] 2)) (some ⟨W.heap.size, 0, none⟩) 2 2 [5, 6] where
  len_eq := rfl
  cap := Nat.le_refl _
  cell := fun _ => ⟨W.heap.size, 0, rfl, by simp, fun i hi => by
    match i, hi with
    | 0, _ => simp
    | 1, _ => simp⟩
theorem eval_lit (W : World) (b : Nat) (hv : VsIn W (some ⟨b, 0, none⟩) 2 2 [5, 6]) (ts : List Tm) (cs : Array Value) (n : Nat) (hn : ts.length = n) (hb : n ≤ 100) (hcs : cs.toList = flatT ts) (ev : Value) (he : evalV ts [5, 6] = ev) :
    Calls Try.prog 12 #[.slice (some ⟨W.heap.size, 0, none⟩) n n, .slice (some ⟨b, 0, none⟩) 2 2] (W.alloc (.cells cs 39)) fun e w' => e = .returned ev ∧ Below W.heap.size W w' := by
  subst hn he
  have hT : TsIn (W.alloc (.cells cs 39)) (some ⟨W.heap.size, 0, none⟩) ts.length ts.length ts := ts_block (heap_alloc_new W _) ts (by rw [hcs, ← flatT_length, List.take_length]) _ (Nat.le_refl _)
  refine (eval_at _ _ _ _ ts _ _ _ [5, 6] hT (hv.on (one_below _ _)) (by omega) (by omega)).mono fun e w' h => ?_
  exact ⟨h.1, (one_below _ _).trans (h.2.mono (by simp))⟩
set_option maxHeartbeats 4000000 in
set_option maxRecDepth 1000000 in
theorem works (w : World) : Calls Try.prog 6 #[] w fun e w' => e = .returned (.bool true) ∧ Below w.heap.size w w' := by
  have V0 := Lib.hid (vs_five w)
  have B0 := Lib.hid (one_below w (.cells #[.int .i64 5, .int .i64 6] 2))
  have C0 := Lib.hid (eval_lit (w.alloc (.cells #[.int .i64 5, .int .i64 6] 2)) w.heap.size V0.out [⟨2, 0, 0⟩, ⟨1, 2, 0⟩, ⟨5, 0, 0⟩, ⟨2, 0, 1⟩, ⟨4, 0, 0⟩] #[.int .u8 2, .int .i64 0, .int .i64 0, .int .u8 1, .int .i64 2, .int .i64 0, .int .u8 5, .int .i64 0, .int .i64 0, .int .u8 2, .int .i64 0, .int .i64 1, .int .u8 4, .int .i64 0, .int .i64 0] 5 rfl (by omega) rfl (.tuple #[.int .i64 4, .bool true]) (by simp [evalV, evalP, high, okT, takesP, runP, stepP, bin, wrap64]))
  go_enter Try.func6, Try.ntmps6
  go_wp2_with fail
  rw [World.size_alloc] at C0
  (with_reducible refine C0.out.mono ?_)
  rintro e w1 ⟨rfl, hb1⟩
  have V1 := Lib.hid (V0.out.onB (by simp) hb1)
  have B1 := Lib.hid (B0.out.trans (hb1.mono (by simp)))
  have C1 := Lib.hid (eval_lit w1 w.heap.size V1.out [⟨1, 1, 0⟩, ⟨3, 0, 0⟩] #[.int .u8 1, .int .i64 1, .int .i64 0, .int .u8 3, .int .i64 0, .int .i64 0] 2 rfl (by omega) rfl (.tuple #[.int .i64 0, .bool false]) (by simp [evalV, evalP, high, okT, takesP]))
  clear hb1 C0 V0
  go_wp2_with fail
  (with_reducible refine C1.out.mono ?_)
  rintro e w2 ⟨rfl, hb2⟩
  have V2 := Lib.hid (V1.out.on hb2)
  have B2 := Lib.hid (B1.out.trans (hb2.mono B1.out.size))
  have C2 := Lib.hid (eval_at w2 none 0 0 [] (some ⟨w.heap.size, 0, none⟩) 2 2 [5, 6] ⟨rfl, Nat.le_refl _, fun _ => rfl, fun h => by omega⟩ V2.out (by omega) (by omega))
  have E2 : Hid (evalV [] [5, 6] = .tuple #[.int .i64 0, .bool false]) := Lib.hid (by simp [evalV, evalP, high])
  unfold EvalE at C2
  rw [E2.out] at C2
  clear hb2 C1 V1
  go_wp2_with fail
  (with_reducible refine C2.out.mono ?_)
  rintro e w3 ⟨rfl, hb3⟩
  have V3 := Lib.hid (V2.out.on hb3)
  have B3 := Lib.hid (B2.out.trans (hb3.mono B2.out.size))
  have C3 := Lib.hid (eval_lit w3 w.heap.size V3.out [⟨2, 0, 2⟩] #[.int .u8 2, .int .i64 0, .int .i64 2] 1 rfl (by omega) rfl (.tuple #[.int .i64 0, .bool false]) (by simp [evalV, evalP, high, okT, takesP]))
  clear hb3 C2 V2
  go_wp2_with fail
  (with_reducible refine C3.out.mono ?_)
  rintro e w4 ⟨rfl, hb4⟩
  have V4 := Lib.hid (V3.out.on hb4)
  have B4 := Lib.hid (B3.out.trans (hb4.mono B3.out.size))
  have C4 := Lib.hid (eval_lit w4 w.heap.size V4.out [⟨1, 1, 0⟩, ⟨6, 0, 0⟩] #[.int .u8 1, .int .i64 1, .int .i64 0, .int .u8 6, .int .i64 0, .int .i64 0] 2 rfl (by omega) rfl (.tuple #[.int .i64 (-1), .bool true]) (by simp [evalV, evalP, high, okT, takesP, runP, stepP, un, wrap64]))
  clear hb4 C3 V3
  go_wp2_with fail
  (with_reducible refine C4.out.mono ?_)
  rintro e w5 ⟨rfl, hb5⟩
  go_wp2
  go_ret
  exact ⟨rfl, B4.out.trans (hb5.mono B4.out.size)⟩
end Go.Proofs.Ytgmkmpldlndboaa.Cd
