import Derived.Test.YtijaelncmjcbmaaTreeZ
namespace Go.Proofs.Ytijaelncmjcbmaa
open Go.RowKit
/-- The examples' three trees, in their variables. -/
structure WK (w W : World) (p3 : Option Addr) (b3 : Nat) : Prop where
  below : Below w.heap.size w W
  t1 : TV W (some ⟨w.heap.size, 0, none⟩) 1 1 oneT
  t2 : TV W (some ⟨w.heap.size + 1 + 1 + 1, 0, none⟩) 2 2 twoT
  t3 : TV W p3 10 10 (linesT 2)
  c1 : W.cell? ⟨w.heap.size + 1, 0, none⟩ = some (.slice (some ⟨w.heap.size, 0, none⟩) 1 1)
  c2 : W.cell? ⟨w.heap.size + 1 + 1 + 1 + 1, 0, none⟩ = some (.slice (some ⟨w.heap.size + 1 + 1 + 1, 0, none⟩) 2 2)
  c3 : W.cell? ⟨b3, 0, none⟩ = some (.slice p3 10 10)
theorem WK.on {w W V : World} {p3 : Option Addr} {b3 : Nat} (h : WK w W p3 b3) (hb : Below W.heap.size W V) : WK w V p3 b3 where
  below := h.below.trans (hb.mono h.below.size)
  t1 := h.t1.on hb
  t2 := h.t2.on hb
  t3 := h.t3.on hb
  c1 := Aside.of hb _ _ h.c1
  c2 := Aside.of hb _ _ h.c2
  c3 := Aside.of hb _ _ h.c3
theorem wk_start (w : World) : ∃ Z : World, Z = (((((w.alloc (.cells #[.int .u8 1, .int .i64 0, .string ⟨#[]⟩, .int .i64 0, .slice none 0 0] 37)).alloc (.cells #[.slice (some ⟨w.heap.size, 0, none⟩) 1 1] 24)).alloc (.cells #[.int .i64 1] 3)).alloc (.cells #[.int .u8 1, .int .i64 0, .string ⟨#[]⟩, .int .i64 0, .slice (some ⟨w.heap.size + 1 + 1, 0, none⟩) 1 1, .int .u8 6, .int .i64 0, .string ⟨#[]⟩, .int .i64 0, .slice none 0 0] 37)).alloc (.cells #[.slice (some ⟨w.heap.size + 1 + 1 + 1, 0, none⟩) 2 2] 24)) ∧
    ∀ (w1 : World) (p3 : Option Addr), Below Z.heap.size Z w1 → TV w1 p3 10 10 (linesT 2) → WK w (w1.alloc (.cells #[.slice p3 10 10] 24)) p3 w1.heap.size := by
  refine ⟨_, rfl, fun w1 p3 hb h3 => ?_⟩
  have a1 := tv_alloc w [(⟨1, 0, noT, 0, []⟩, none, 0, 0)] #[.int .u8 1, .int .i64 0, .string ⟨#[]⟩, .int .i64 0, .slice none 0 0] 1 rfl rfl (by intro x hx; simp only [List.mem_singleton] at hx; subst hx; exact iv_nil _) 37
  have i2 := iv_new ((w.alloc (.cells #[.int .u8 1, .int .i64 0, .string ⟨#[]⟩, .int .i64 0, .slice none 0 0] 37)).alloc (.cells #[.slice (some ⟨w.heap.size, 0, none⟩) 1 1] 24)) #[.int .i64 1] [1] 1 rfl rfl 3
  have a2 := tv_alloc _ [(⟨1, 0, noT, 0, [1]⟩, _, 1, 1), (⟨6, 0, noT, 0, []⟩, none, 0, 0)] _ 2 rfl rfl (by
    intro x hx
    simp only [List.mem_cons, List.not_mem_nil, or_false] at hx
    rcases hx with rfl | rfl
    · exact i2
    · exact iv_nil _) 37
  have b1 := one_below w (.cells #[.int .u8 1, .int .i64 0, .string ⟨#[]⟩, .int .i64 0, .slice none 0 0] 37)
  have hw := one_below w1 (.cells #[.slice p3 10 10] 24)
  have hZ := hb.trans (hw.mono hb.size)
  simp only [World.size_alloc] at a2
  refine ⟨?_, ?_, ?_, h3.on hw, ?_, ?_, ?_⟩
  · refine Below.trans ?_ (hZ.mono (by simp; omega))
    repeat (first | exact one_below w _ | refine Below.alloc ?_ (by simp; try omega) _)
  · exact ((((a1.on (one_below _ _)).on (one_below _ _)).on (one_below _ _)).on (one_below _ _)).on hZ
  · exact (a2.on (one_below _ _)).on hZ
  · rw [hZ.cell (by simp; try omega), World.cell?_alloc_past _ _ _ (by simp; try omega), World.cell?_alloc_past _ _ _ (by simp; try omega), World.cell?_alloc_past _ _ _ (by simp; try omega), World.cell?_alloc_at _ _ _ _ (by simp)]; rfl
  · rw [hZ.cell (by simp; try omega), World.cell?_alloc_at _ _ _ _ (by simp)]; rfl
  · rw [World.cell?_alloc_at _ _ _ _ rfl]; rfl
set_option maxHeartbeats 4000000 in
set_option maxRecDepth 1000000 in
theorem works_at (w : World) : Calls Try.prog 9 #[] w fun e w' => e = .returned (.bool true) ∧ Below w.heap.size w w' := by
  obtain ⟨Z, hZ, hgo⟩ := wk_start w
  have HGO := Lib.hid hgo
  have HL := Lib.hid (lines_at Z 2)
  subst hZ
  clear hgo
  go_enter Try.func9, Try.ntmps9
  go_wp2_with fail
  (with_reducible refine HL.out.mono ?_)
  rintro e w1 ⟨⟨p3, rfl, h3⟩, hb1⟩
  have K0 := Lib.hid (HGO.out w1 p3 hb1 h3)
  clear HGO HL h3 hb1
  have c1 := K0.out.c1
  have Q0 := Lib.hid (right_at (w1.alloc (.cells #[.slice p3 10 10] 24)) (some ⟨w.heap.size, 0, none⟩) 1 1 oneT K0.out.t1 one_small)
  rw [one_right] at Q0
  go_wp2_with fail
  (with_reducible refine Q0.out.mono ?_)
  rintro e W0 ⟨rfl, hb⟩
  have K1 := Lib.hid (K0.out.on hb)
  clear hb Q0 K0
  clear c1
  have c1 := K1.out.c1
  have Q1 := Lib.hid (deep_at W0 (some ⟨w.heap.size, 0, none⟩) 1 1 oneT K1.out.t1 one_small)
  rw [one_deep] at Q1
  go_wp2_with fail
  (with_reducible refine Q1.out.mono ?_)
  rintro e W1 ⟨rfl, hb⟩
  have K2 := Lib.hid (K1.out.on hb)
  clear hb Q1 K1
  clear c1
  have c1 := K2.out.c1
  have Q2 := Lib.hid (size_at W1 (some ⟨w.heap.size, 0, none⟩) 1 1 oneT 0 K2.out.t1 one_small)
  rw [one_size] at Q2
  go_wp2_with fail
  (with_reducible refine Q2.out.mono ?_)
  rintro e W2 ⟨rfl, hb⟩
  have K3 := Lib.hid (K2.out.on hb)
  clear hb Q2 K2
  clear c1
  have c2 := K3.out.c2
  have Q3 := Lib.hid (right_at W2 (some ⟨w.heap.size + 1 + 1 + 1, 0, none⟩) 2 2 twoT K3.out.t2 two_small)
  rw [two_not] at Q3
  go_wp2_with fail
  (with_reducible refine Q3.out.mono ?_)
  rintro e W3 ⟨rfl, hb⟩
  have K4 := Lib.hid (K3.out.on hb)
  clear hb Q3 K3
  clear c2
  have c3 := K4.out.c3
  have Q4 := Lib.hid (right_at W3 p3 10 10 (linesT 2) K4.out.t3 (lines_small 2))
  rw [lines_right] at Q4
  go_wp2_with fail
  (with_reducible refine Q4.out.mono ?_)
  rintro e W4 ⟨rfl, hb⟩
  have K5 := Lib.hid (K4.out.on hb)
  clear hb Q4 K4
  clear c3
  have c3 := K5.out.c3
  have Q5 := Lib.hid (deep_at W4 p3 10 10 (linesT 2) K5.out.t3 (lines_small 2))
  rw [lines_deep] at Q5
  go_wp2_with fail
  (with_reducible refine Q5.out.mono ?_)
  rintro e W5 ⟨rfl, hb⟩
  have K6 := Lib.hid (K5.out.on hb)
  clear hb Q5 K5
  clear c3
  have c3 := K6.out.c3
  have Q6 := Lib.hid (size_at W5 p3 10 10 (linesT 2) 3 K6.out.t3 (lines_small 2))
  rw [lines_size] at Q6
  go_wp2_with fail
  (with_reducible refine Q6.out.mono ?_)
  rintro e W6 ⟨rfl, hb⟩
  have K7 := Lib.hid (K6.out.on hb)
  clear hb Q6 K6
  go_wp2
  go_ret
  exact ⟨rfl, K7.out.below⟩
end Go.Proofs.Ytijaelncmjcbmaa
