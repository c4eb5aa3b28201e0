import Derived.Test.YtijaelncmjcbmaaTreeG
namespace Go.Proofs.Ytijaelncmjcbmaa
open Go.RowKit Go.MapKept
set_option maxHeartbeats 8000000 in
set_option maxRecDepth 1000000 in
theorem rules_run (w : World) : Calls Try.prog 32 #[] w fun e w' => ∃ r, e = .returned (.map (some r)) ∧ w.heap.size ≤ r ∧ RulesAt w' r ∧ Below w.heap.size w w' := by
  go_enter Try.func32, Try.ntmps32
  go_wp2_with fail
  (with_reducible refine (is_at _ _ _ _ [5] ?_ (by omega)).mono ?_)
  · exact bv_new w _ [5] 1 rfl rfl
  rintro e w1 ⟨⟨g1, cs1, rfl, hf1⟩, hb1⟩
  have F1 := Lib.hid hf1
  have B1 : Hid (Below w.heap.size w w1) := Lib.hid ((one_below w _).trans (hb1.mono (by simp)))
  clear hf1 hb1
  go_wp2_with fail
  (with_reducible refine (one_at _ _ _).mono ?_)
  rintro e w2 ⟨rfl, hb2⟩
  have F1 := Lib.hid (F1.out.on (Aside.of hb2))
  have B2 := Lib.hid (B1.out.trans (hb2.mono B1.out.size))
  clear hb2 B1
  go_wp2_with fail
  (with_reducible refine (is_at _ _ _ _ [20] ?_ (by omega)).mono ?_)
  · exact bv_new w2 _ [20] 1 rfl rfl
  rintro e w3 ⟨⟨g2, cs2, rfl, hf2⟩, hb3⟩
  have hb3' := (one_below w2 (.cells #[.int .u8 20] 5)).trans (hb3.mono (by simp))
  have F1 := Lib.hid (F1.out.on (Aside.of hb3'))
  have F2 := Lib.hid hf2
  have B3 := Lib.hid (B2.out.trans (hb3'.mono B2.out.size))
  clear hf2 hb3 hb3' B2
  go_wp2_with fail
  (with_reducible refine (one_at _ _ _).mono ?_)
  rintro e w4 ⟨rfl, hb4⟩
  have F1 := Lib.hid (F1.out.on (Aside.of hb4))
  have F2 := Lib.hid (F2.out.on (Aside.of hb4))
  have B4 := Lib.hid (B3.out.trans (hb4.mono B3.out.size))
  clear hb4 B3
  go_wp2_with fail
  (with_reducible refine (is_at _ _ _ _ [6] ?_ (by omega)).mono ?_)
  · exact bv_new w4 _ [6] 1 rfl rfl
  rintro e w5 ⟨⟨g3, cs3, rfl, hf3⟩, hb5⟩
  have hb5' := (one_below w4 (.cells #[.int .u8 6] 5)).trans (hb5.mono (by simp))
  have F1 := Lib.hid (F1.out.on (Aside.of hb5'))
  have F2 := Lib.hid (F2.out.on (Aside.of hb5'))
  have F3 := Lib.hid hf3
  have B5 := Lib.hid (B4.out.trans (hb5'.mono B4.out.size))
  clear hf3 hb5 hb5' B4
  go_wp2_with fail
  (with_reducible refine (one_at _ _ _).mono ?_)
  rintro e w6 ⟨rfl, hb6⟩
  have F1 := Lib.hid (F1.out.on (Aside.of hb6))
  have F2 := Lib.hid (F2.out.on (Aside.of hb6))
  have F3 := Lib.hid (F3.out.on (Aside.of hb6))
  have B6 := Lib.hid (B5.out.trans (hb6.mono B5.out.size))
  clear hb6 B5
  go_wp2_with fail
  (with_reducible refine (one_at _ _ _).mono ?_)
  rintro e w7 ⟨rfl, hb7⟩
  have F1 := Lib.hid (F1.out.on (Aside.of hb7))
  have F2 := Lib.hid (F2.out.on (Aside.of hb7))
  have F3 := Lib.hid (F3.out.on (Aside.of hb7))
  have B7 := Lib.hid (B6.out.trans (hb7.mono B6.out.size))
  clear hb7 B6
  go_wp2_with fail
  obtain ⟨W4, hW4⟩ : ∃ W4, W4 = ((((w7.alloc (.cells #[.func g1 #[] cs1, .int .i64 1, .int .i64 1] 67)).alloc (.cells #[.func g2 #[] cs2, .int .i64 1, .int .i64 1] 67)).alloc (.cells #[.func g3 #[] cs3, .int .i64 1, .int .i64 1] 67)).alloc (.cells #[.func (.func 36) #[] #[], .int .i64 1, .int .i64 1] 67)) := ⟨_, rfl⟩
  have hbW : Below w7.heap.size w7 W4 := by
    rw [hW4]
    exact (((one_below w7 _).trans ((one_below _ _).mono (by simp))).trans ((one_below _ _).mono (by simp; try omega))).trans ((one_below _ _).mono (by simp; try omega))
  have hsW : W4.heap.size = w7.heap.size + 1 + 1 + 1 + 1 := by rw [hW4]; simp
  have P1 : Hid (PC W4 w7.heap.size 0 pW g1 cs1) := by
    have hc : ∀ i v, #[Value.func g1 #[] cs1, .int .i64 1, .int .i64 1][i]? = some v → W4.cell? ⟨w7.heap.size, i, none⟩ = some v := fun i v hv => by
      rw [hW4, World.cell?_alloc_past _ _ _ (by simp; try omega), World.cell?_alloc_past _ _ _ (by simp; try omega), World.cell?_alloc_past _ _ _ (by simp), World.cell?_alloc_at _ _ _ _ rfl]; exact hv
    exact Lib.hid ⟨hc 0 _ rfl, hc 1 _ rfl, hc 2 _ rfl, F1.out.on (Aside.of hbW)⟩
  have P2 : Hid (PC W4 (w7.heap.size + 1) 0 pR g2 cs2) := by
    have hc : ∀ i v, #[Value.func g2 #[] cs2, .int .i64 1, .int .i64 1][i]? = some v → W4.cell? ⟨w7.heap.size + 1, i, none⟩ = some v := fun i v hv => by
      rw [hW4, World.cell?_alloc_past _ _ _ (by simp; try omega), World.cell?_alloc_past _ _ _ (by simp), World.cell?_alloc_at _ _ _ _ (by simp)]; exact hv
    exact Lib.hid ⟨hc 0 _ rfl, hc 1 _ rfl, hc 2 _ rfl, F2.out.on (Aside.of hbW)⟩
  have P3 : Hid (PC W4 (w7.heap.size + 1 + 1) 0 pB g3 cs3) := by
    have hc : ∀ i v, #[Value.func g3 #[] cs3, .int .i64 1, .int .i64 1][i]? = some v → W4.cell? ⟨w7.heap.size + 1 + 1, i, none⟩ = some v := fun i v hv => by
      rw [hW4, World.cell?_alloc_past _ _ _ (by simp), World.cell?_alloc_at _ _ _ _ (by simp)]; exact hv
    exact Lib.hid ⟨hc 0 _ rfl, hc 1 _ rfl, hc 2 _ rfl, F3.out.on (Aside.of hbW)⟩
  have P4 : Hid (PC W4 (w7.heap.size + 1 + 1 + 1) 0 pE (.func 36) #[]) := by
    have hc : ∀ i v, #[Value.func (.func 36) #[] #[], .int .i64 1, .int .i64 1][i]? = some v → W4.cell? ⟨w7.heap.size + 1 + 1 + 1, i, none⟩ = some v := fun i v hv => by
      rw [hW4, World.cell?_alloc_at _ _ _ _ (by simp)]; exact hv
    exact Lib.hid ⟨hc 0 _ rfl, hc 1 _ rfl, hc 2 _ rfl, ⟨rfl, rfl⟩⟩
  have B8 := Lib.hid (B7.out.trans (hbW.mono B7.out.size))
  have HS := Lib.hid hsW
  have I8 := Lib.hid (is_at (W4.alloc (.cells #[.int .u8 21] 5)) (some ⟨W4.heap.size, 0, none⟩) 1 1 [21] (bv_new W4 _ [21] 1 rfl rfl) (by omega))
  rw [hsW] at I8
  subst hW4
  clear hbW hsW F1 F2 F3 B7
  (with_reducible refine I8.out.mono ?_)
  rintro e w8 ⟨⟨g5, cs5, rfl, hf5⟩, hb8⟩
  have hb8' := (one_below _ (.cells #[.int .u8 21] 5)).trans (hb8.mono (by simp))
  have P1 := Lib.hid (P1.out.on (Aside.of hb8'))
  have P2 := Lib.hid (P2.out.on (Aside.of hb8'))
  have P3 := Lib.hid (P3.out.on (Aside.of hb8'))
  have P4 := Lib.hid (P4.out.on (Aside.of hb8'))
  have F5 := Lib.hid hf5
  have B9 := Lib.hid (B8.out.trans (hb8'.mono B8.out.size))
  clear hf5 hb8 hb8' B8 I8 HS
  go_wp2_with fail
  (with_reducible refine (one_at _ _ _).mono ?_)
  rintro e w9 ⟨rfl, hb9⟩
  have P1 := Lib.hid (P1.out.on (Aside.of hb9))
  have P2 := Lib.hid (P2.out.on (Aside.of hb9))
  have P3 := Lib.hid (P3.out.on (Aside.of hb9))
  have P4 := Lib.hid (P4.out.on (Aside.of hb9))
  have F5 := Lib.hid (F5.out.on (Aside.of hb9))
  have B10 := Lib.hid (B9.out.trans (hb9.mono B9.out.size))
  clear hb9 B9
  go_wp2_with fail
  have hbZ := one_below w9 (.cells #[.func g5 #[] cs5, .int .i64 1, .int .i64 1] 67)
  refine rules_region ?_ ?_ w _ _ rfl (B10.out.trans (hbZ.mono B10.out.size)) ?_ _ ?_
  · unfold shapeOk; kernel_rfl
  · decide +kernel
  · intro x h1 h5
    have hx : x = 1 ∨ x = 2 ∨ x = 3 ∨ x = 4 ∨ x = 5 := by omega
    rcases hx with rfl | rfl | rfl | rfl | rfl
    · exact ⟨_, _, _, rfl, P1.out.on (Aside.of hbZ)⟩
    · exact ⟨_, _, _, rfl, P2.out.on (Aside.of hbZ)⟩
    · exact ⟨_, _, _, rfl, P3.out.on (Aside.of hbZ)⟩
    · exact ⟨_, _, _, rfl, P4.out.on (Aside.of hbZ)⟩
    · refine ⟨w9.heap.size, g5, cs5, rfl, ?_⟩
      have hc : ∀ i v, #[Value.func g5 #[] cs5, .int .i64 1, .int .i64 1][i]? = some v → (w9.alloc (.cells #[.func g5 #[] cs5, .int .i64 1, .int .i64 1] 67)).cell? ⟨w9.heap.size, i, none⟩ = some v := fun i v hv => by
        rw [World.cell?_alloc_at _ _ _ _ rfl]; exact hv
      exact ⟨hc 0 _ rfl, hc 1 _ rfl, hc 2 _ rfl, F5.out.on (Aside.of hbZ)⟩
  · intro a' w' r q1 q2 q3 q4 q5 q6
    obtain ⟨tm, df⟩ := a'
    simp only at q1 q2 q3
    subst q1
    rename_i K hK
    refine hK _ _ ?_
    have HQ := Lib.hid (show w.heap.size ≤ r ∧ RulesAt w' r ∧ Below w.heap.size w w' from ⟨q4, q5, q6⟩)
    clear P1 P2 P3 P4 F5 B10 hbZ q4 q5 q6 q2
    simp only [Array.getD_eq_getD_getElem?] at q3
    go_wp2
    simp [bodyPost, results, Try.results32, go_sem]
    exact ⟨r, q3, HQ.out⟩
end Go.Proofs.Ytijaelncmjcbmaa
