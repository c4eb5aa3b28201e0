import Derived.Test.YtfboifbpbjmcbaaPzZ
import Derived.Test.YtfboifbpbjmcbaaPzX
import Derived.Deep.Cut
import Derived.Deep.CutRange
namespace Go.Proofs.Ytfboifbpbjmcbaa.Pz
open Go.RowKit
/-- Instructions without terms. -/
def Bare (x : Ins) : Prop := x.key = [] ∧ x.vals = []
/-- Instructions without terms, in a row that a call has laid. -/
structure BL (W : World) (base : Nat) (v : Value) (n : Nat) : Prop where
  row : ∃ is : List Ins, is.length = n ∧ (∀ x ∈ is, Bare x) ∧ W.ownsRow base 45 13 v n (flatI is (is.map fun _ => .slice none 0 0) (is.map fun _ => .slice none 0 0))
theorem BL.nil (W : World) (base : Nat) : BL W base (.slice none 0 0) 0 := ⟨[], rfl, fun x hx => by simp at hx, ⟨rfl, Or.inl ⟨rfl, rfl⟩⟩⟩
theorem BL.isIn {W : World} {base : Nat} {v : Value} {n : Nat} (h : BL W base v n) : ∃ p c is, v = .slice p n c ∧ IsIn W.heap.size W p n c is := by
  obtain ⟨is, hl, hb, hr⟩ := h.row
  subst hl
  have h2 : OL W base 45 63 42 v is := ⟨_, _, by simp, by simp, hr, fun i hi => by
    have e1 : (is.map fun _ => Value.slice none 0 0).getD i default = Value.slice none 0 0 := by simp [List.getD, hi]
    obtain ⟨k1, k2⟩ := hb (is.getD i default) (by simp [List.getD, hi])
    rw [e1]
    exact ⟨by rw [k1]; exact ⟨rfl, Or.inl ⟨rfl, rfl⟩⟩, [], by rw [k2]; exact ⟨rfl, Or.inl ⟨rfl, rfl⟩⟩, fun i hi => by rw [k2] at hi; simp at hi⟩⟩
  obtain ⟨p, c, e, h3⟩ := is_own h2 (fun x hx => by
    obtain ⟨k1, k2⟩ := hb x hx
    exact ⟨by rw [k1]; simp, by rw [k2]; simp, fun v hv => by rw [k2] at hv; simp at hv⟩)
  exact ⟨p, c, is, e, h3⟩
theorem BL.on {W W' : World} {base : Nat} {v : Value} {n : Nat} (h : BL W base v n) {m : Nat} (hb : Below m W W') (hm : W.heap.size ≤ m) : BL W' base v n := by
  obtain ⟨is, hl, hb', hr⟩ := h.row
  exact ⟨is, hl, hb', own_on hr hb hm⟩
theorem BL.shape {W : World} {base : Nat} {v : Value} {n : Nat} (h : BL W base v n) : ∃ vg vc, v = .slice vg n vc := by
  obtain ⟨is, hl, hb', hr⟩ := h.row
  exact own_shape hr
/-- One more. -/
theorem BL.snoc {W : World} {base : Nat} {v' : Value} {n : Nat} {is : List Ins} (hl : is.length = n) (hb : ∀ x ∈ is, Bare x) (x : Ins) (hx : Bare x) (h : W.ownsRow base 45 13 v' (n + 1) (flatI is (is.map fun _ => .slice none 0 0) (is.map fun _ => .slice none 0 0) ++ insC x (.slice none 0 0) (.slice none 0 0))) : BL W base v' (n + 1) := by
  refine ⟨is ++ [x], by simp [hl], fun y hy => ?_, ?_⟩
  · rcases List.mem_append.1 hy with h1 | h1
    · exact hb y h1
    · rw [List.mem_singleton] at h1; subst h1; exact hx
  · rw [List.map_append, List.map_singleton, flatI_snoc is _ _ (by simp) (by simp)]
    exact h
theorem vi_four (w : World) (a b c d : Int) (n : Nat) (hn : n ≤ 4) : VIn (w.alloc (.cells #[.int .i64 a, .int .i64 b, .int .i64 c, .int .i64 d] 3)).heap.size (w.alloc (.cells #[.int .i64 a, .int .i64 b, .int .i64 c, .int .i64 d] 3)) (some ⟨w.heap.size, 0, none⟩) n 4 ([a, b, c, d].take n) where
  len_eq := by simp; omega
  cap := hn
  cell := fun _ => ⟨w.heap.size, 0, rfl, by simp, fun i hi => by
    have e : ([a, b, c, d].take n).getD i 0 = [a, b, c, d].getD i 0 := by simp [List.getD, hi]
    rw [e]
    have h4 : i < 4 := by omega
    match i, h4 with
    | 0, _ => simp
    | 1, _ => simp
    | 2, _ => simp
    | 3, _ => simp⟩
theorem vi_two (w : World) (a b : Int) : VIn (w.alloc (.cells #[.int .i64 a, .int .i64 b] 3)).heap.size (w.alloc (.cells #[.int .i64 a, .int .i64 b] 3)) (some ⟨w.heap.size, 0, none⟩) 2 2 [a, b] where
  len_eq := rfl
  cap := Nat.le_refl _
  cell := fun _ => ⟨w.heap.size, 0, rfl, by simp, fun i hi => by
    match i, hi with
    | 0, _ => simp
    | 1, _ => simp⟩
theorem wfI_small (z : Int) (h1 : -10 ≤ z) (h2 : z ≤ 10) : wfI z = true := by
  have h3 : IntKind.i64.min = -9223372036854775808 := by decide
  have h4 : IntKind.i64.max = 9223372036854775807 := by decide
  show (decide (IntKind.i64.min ≤ z) && decide (z ≤ IntKind.i64.max)) = true
  rw [h3, h4]
  simp
  omega
theorem four_wf (a b c : Int) (ha : 0 ≤ a ∧ a < 10) (hb : 0 ≤ b ∧ b < 10) (hc : 0 ≤ c ∧ c < 10) : ∀ y ∈ [a, b, c, -1], wfI y = true := by
  intro y hy
  simp only [List.mem_cons, List.not_mem_nil, or_false] at hy
  rcases hy with rfl | rfl | rfl | rfl
  · exact wfI_small _ (by omega) (by omega)
  · exact wfI_small _ (by omega) (by omega)
  · exact wfI_small _ (by omega) (by omega)
  · exact wfI_small _ (by omega) (by omega)
set_option maxHeartbeats 16000000 in
set_option maxRecDepth 1000000 in
theorem piecesKnown (w : World) : Calls Try.prog 5 #[] w fun e w' => e = .returned (.bool true) ∧ Below w.heap.size w w' := by
  obtain ⟨i0, hi, hz0, hz1, hz2⟩ := info_of infoIns
  go_enter Try.func5, Try.ntmps5
  go_wp2_with fail
  go_loopw [1] (fun mv wr => ∃ m : Nat, mv = .int .i64 m ∧ m ≤ 1024 ∧ Hid (Below w.heap.size w wr)) (fun mv _ => 1024 - (intOf mv).toNat)
  case atStart => exact ⟨0, rfl, Nat.zero_le _, Lib.hid (Below.refl _ _)⟩
  case round =>
    obtain ⟨m, rfl, hm, HB⟩ := hrel
    obtain ⟨wo, rfl⟩ : ∃ wo : World, wo = wr := ⟨_, rfl⟩
    by_cases hlt : m < 1024
    · go_wp2_with fail
      go_loopw [2, 3] (fun v iv wr => ∃ j : Nat, iv = .int .i64 j ∧ j ≤ 5 ∧ Hid (BL wr wo.heap.size v j) ∧ Hid (Below wo.heap.size wo wr)) (fun _ iv _ => 5 - (intOf iv).toNat)
      case atStart => exact ⟨0, rfl, Nat.zero_le _, Lib.hid (BL.nil _ _), Lib.hid (Below.refl _ _)⟩
      case round =>
        obtain ⟨j, rfl, hj, HL, HD⟩ := hrel
        obtain ⟨vg, vq, rfl⟩ := HL.out.shape
        by_cases hj5 : j < 5
        · have _h0 := hj5
          go_upto_region 10 with fail
          have B2 := BI.new wr 45 ⟨15, 0, 0, 0, false, 0, 0, 0, false, 0, 0, [], []⟩ (.slice none 0 0) (.slice none 0 0)
          obtain ⟨w2, hw2⟩ : ∃ w2, wr.alloc (.cells (insC ⟨15, 0, 0, 0, false, 0, 0, 0, false, 0, 0, [], []⟩ (.slice none 0 0) (.slice none 0 0)).toArray 45) = w2 := ⟨_, rfl⟩
          have hb2 : Below wr.heap.size wr w2 := by rw [← hw2]; exact one_below _ _
          rw [hw2] at B2
          simp only [insC] at hw2
          obtain ⟨is, hl, hb, hr⟩ := HL.out.row
          have hsD := HD.out.size
          rw [hw2]
          clear hw2
          generalize bits BinOp.and IntKind.i64 ((m : Int) / 2 ^ (2 * j)) 3 = q
          obtain ⟨t1, ht1⟩ : ∃ t1, ((m : Int) + (j : Int)).tmod 6 = t1 := ⟨_, rfl⟩
          obtain ⟨t2, ht2⟩ : ∃ t2, (m : Int).tmod 7 = t2 := ⟨_, rfl⟩
          by_cases q1 : q = 1
          · subst q1
            have d0 := B2.c0
            have d1 := B2.c1
            have d2 := B2.c2
            have d3 := B2.c3
            have d4 := B2.c4
            have d5 := B2.c5
            have d6 := B2.c6
            have d7 := B2.c7
            have d8 := B2.c8
            have d9 := B2.c9
            have d10 := B2.c10
            have d11 := B2.c11
            have d12 := B2.c12
            have y0 := B2.frozen 0
            have y1 := B2.frozen 1
            have y2 := B2.frozen 2
            have y3 := B2.frozen 3
            have y4 := B2.frozen 4
            have y5 := B2.frozen 5
            have y6 := B2.frozen 6
            have y7 := B2.frozen 7
            have y8 := B2.frozen 8
            have y9 := B2.frozen 9
            have y10 := B2.frozen 10
            have y11 := B2.frozen 11
            have y12 := B2.frozen 12
            have BF := fill_box B2 ⟨10, 0, 0, 0, false, 0, 0, t1, false, 0, 0, [], []⟩ (.slice none 0 0) (.slice none 0 0)
            have hgF := fill_grown w2 wr.heap.size ⟨10, 0, 0, 0, false, 0, 0, t1, false, 0, 0, [], []⟩ (.slice none 0 0) (.slice none 0 0)
            obtain ⟨wF, hwF⟩ : ∃ wF, fill w2 wr.heap.size ⟨10, 0, 0, 0, false, 0, 0, t1, false, 0, 0, [], []⟩ (.slice none 0 0) (.slice none 0 0) = wF := ⟨_, rfl⟩
            rw [hwF] at BF hgF
            simp only [fill] at hwF
            have hbF : Below wr.heap.size wr wF := hb2.grown hgF hb2.size (fun r e => by cases e; exact Nat.le_refl _)
            clear hgF B2 hb2
            have hr5 := (own_on hr (show Below wr.heap.size wr wF from hbF) (Nat.le_refl _)).alloc (.cells #[.int .u8 10, .int .i64 0, .int .u8 0, .int .i64 0, .bool false, .int .i64 0, .int .i64 0, .int .i64 t1, .bool false, .int .i64 0, .int .i64 0, .slice none 0 0, .slice none 0 0] 45)
            have HBF := Lib.hid hbF
            have hsF := hbF.size
            have e0 := BF.c0
            have e1 := BF.c1
            have e2 := BF.c2
            have e3 := BF.c3
            have e4 := BF.c4
            have e5 := BF.c5
            have e6 := BF.c6
            have e7 := BF.c7
            have e8 := BF.c8
            have e9 := BF.c9
            have e10 := BF.c10
            have e11 := BF.c11
            have e12 := BF.c12
            clear hbF BF hr HL
            go_wp2_with (at_builtin; refine wpList_append_own _ rfl (.tmp 35) (.tmp 37) 22 rfl wo.heap.size 45 i0 _ 13 136 Try.underlying22 hi hz0 hz1 hz2 rfl (by decide) (.slice vg j vq) j _ rfl hr5 ⟨wF.heap.size, 0, none⟩ 1 1 [.int .u8 10, .int .i64 0, .int .u8 0, .int .i64 0, .bool false, .int .i64 0, .int .i64 0, .int .i64 t1, .bool false, .int .i64 0, .int .i64 0, .slice none 0 0, .slice none 0 0] rfl rfl (World.news_of_block (fr := (0, 0)) (heap_alloc_new _ _)) (by simp [Value.oneCell']) (by unfold maxLen; omega) (by omega) (by simp; omega) ?_; intro v' w8 hown8 hgrow8 _)
            go_roundw
            case rel => exact ⟨j + 1, by simp, by omega, Lib.hid (BL.snoc hl hb ⟨10, 0, 0, 0, false, 0, 0, t1, false, 0, 0, [], []⟩ ⟨rfl, rfl⟩ hown8), Lib.hid (((HD.out.trans (HBF.out.mono hsD)).alloc (by omega) _).grown hgrow8 (by simp; omega) (fun r e => (hr5.lt r e).1))⟩
            case measure => simp [intOf]; omega
          · by_cases q2 : q = 2
            · subst q2
              have d0 := B2.c0
              have y0 := B2.frozen 0
              obtain ⟨wF, hwF⟩ : ∃ wF, w2.setCell ⟨wr.heap.size, 0, none⟩ (.int .u8 9) = wF := ⟨_, rfl⟩
              have BF : BI wF wr.heap.size 45 ⟨9, 0, 0, 0, false, 0, 0, 0, false, 0, 0, [], []⟩ (.slice none 0 0) (.slice none 0 0) := by
                rw [← hwF]
                unfold BI
                rw [heap_set_same B2]
                rfl
              have hbF : Below wr.heap.size wr wF := by rw [← hwF]; exact hb2.setCell (p := ⟨wr.heap.size, 0, none⟩) (Nat.le_refl _) _
              clear B2 hb2
              have hr5 := (own_on hr (show Below wr.heap.size wr wF from hbF) (Nat.le_refl _)).alloc (.cells #[.int .u8 9, .int .i64 0, .int .u8 0, .int .i64 0, .bool false, .int .i64 0, .int .i64 0, .int .i64 0, .bool false, .int .i64 0, .int .i64 0, .slice none 0 0, .slice none 0 0] 45)
              have HBF := Lib.hid hbF
              have hsF := hbF.size
              have e0 := BF.c0
              have e1 := BF.c1
              have e2 := BF.c2
              have e3 := BF.c3
              have e4 := BF.c4
              have e5 := BF.c5
              have e6 := BF.c6
              have e7 := BF.c7
              have e8 := BF.c8
              have e9 := BF.c9
              have e10 := BF.c10
              have e11 := BF.c11
              have e12 := BF.c12
              clear hbF BF hr HL
              go_wp2_with (at_builtin; refine wpList_append_own _ rfl (.tmp 35) (.tmp 37) 22 rfl wo.heap.size 45 i0 _ 13 136 Try.underlying22 hi hz0 hz1 hz2 rfl (by decide) (.slice vg j vq) j _ rfl hr5 ⟨wF.heap.size, 0, none⟩ 1 1 [.int .u8 9, .int .i64 0, .int .u8 0, .int .i64 0, .bool false, .int .i64 0, .int .i64 0, .int .i64 0, .bool false, .int .i64 0, .int .i64 0, .slice none 0 0, .slice none 0 0] rfl rfl (World.news_of_block (fr := (0, 0)) (heap_alloc_new _ _)) (by simp [Value.oneCell']) (by unfold maxLen; omega) (by omega) (by simp; omega) ?_; intro v' w8 hown8 hgrow8 _)
              go_roundw
              case rel => exact ⟨j + 1, by simp, by omega, Lib.hid (BL.snoc hl hb ⟨9, 0, 0, 0, false, 0, 0, 0, false, 0, 0, [], []⟩ ⟨rfl, rfl⟩ hown8), Lib.hid (((HD.out.trans (HBF.out.mono hsD)).alloc (by omega) _).grown hgrow8 (by simp; omega) (fun r e => (hr5.lt r e).1))⟩
              case measure => simp [intOf]; omega
            · by_cases q3 : q = 3
              · subst q3
                have d0 := B2.c0
                have d1 := B2.c1
                have d2 := B2.c2
                have d3 := B2.c3
                have d4 := B2.c4
                have d5 := B2.c5
                have d6 := B2.c6
                have d7 := B2.c7
                have d8 := B2.c8
                have d9 := B2.c9
                have d10 := B2.c10
                have d11 := B2.c11
                have d12 := B2.c12
                have y0 := B2.frozen 0
                have y1 := B2.frozen 1
                have y2 := B2.frozen 2
                have y3 := B2.frozen 3
                have y4 := B2.frozen 4
                have y5 := B2.frozen 5
                have y6 := B2.frozen 6
                have y7 := B2.frozen 7
                have y8 := B2.frozen 8
                have y9 := B2.frozen 9
                have y10 := B2.frozen 10
                have y11 := B2.frozen 11
                have y12 := B2.frozen 12
                have BF := fill_box B2 ⟨13, 0, 0, 0, false, 0, (j : Int), t2, false, 0, 0, [], []⟩ (.slice none 0 0) (.slice none 0 0)
                have hgF := fill_grown w2 wr.heap.size ⟨13, 0, 0, 0, false, 0, (j : Int), t2, false, 0, 0, [], []⟩ (.slice none 0 0) (.slice none 0 0)
                obtain ⟨wF, hwF⟩ : ∃ wF, fill w2 wr.heap.size ⟨13, 0, 0, 0, false, 0, (j : Int), t2, false, 0, 0, [], []⟩ (.slice none 0 0) (.slice none 0 0) = wF := ⟨_, rfl⟩
                rw [hwF] at BF hgF
                simp only [fill] at hwF
                have hbF : Below wr.heap.size wr wF := hb2.grown hgF hb2.size (fun r e => by cases e; exact Nat.le_refl _)
                clear hgF B2 hb2
                have hr5 := (own_on hr (show Below wr.heap.size wr wF from hbF) (Nat.le_refl _)).alloc (.cells #[.int .u8 13, .int .i64 0, .int .u8 0, .int .i64 0, .bool false, .int .i64 0, .int .i64 (j : Int), .int .i64 t2, .bool false, .int .i64 0, .int .i64 0, .slice none 0 0, .slice none 0 0] 45)
                have HBF := Lib.hid hbF
                have hsF := hbF.size
                have e0 := BF.c0
                have e1 := BF.c1
                have e2 := BF.c2
                have e3 := BF.c3
                have e4 := BF.c4
                have e5 := BF.c5
                have e6 := BF.c6
                have e7 := BF.c7
                have e8 := BF.c8
                have e9 := BF.c9
                have e10 := BF.c10
                have e11 := BF.c11
                have e12 := BF.c12
                clear hbF BF hr HL
                go_wp2_with (at_builtin; refine wpList_append_own _ rfl (.tmp 35) (.tmp 37) 22 rfl wo.heap.size 45 i0 _ 13 136 Try.underlying22 hi hz0 hz1 hz2 rfl (by decide) (.slice vg j vq) j _ rfl hr5 ⟨wF.heap.size, 0, none⟩ 1 1 [.int .u8 13, .int .i64 0, .int .u8 0, .int .i64 0, .bool false, .int .i64 0, .int .i64 (j : Int), .int .i64 t2, .bool false, .int .i64 0, .int .i64 0, .slice none 0 0, .slice none 0 0] rfl rfl (World.news_of_block (fr := (0, 0)) (heap_alloc_new _ _)) (by simp [Value.oneCell']) (by unfold maxLen; omega) (by omega) (by simp; omega) ?_; intro v' w8 hown8 hgrow8 _)
                go_roundw
                case rel => exact ⟨j + 1, by simp, by omega, Lib.hid (BL.snoc hl hb ⟨13, 0, 0, 0, false, 0, (j : Int), t2, false, 0, 0, [], []⟩ ⟨rfl, rfl⟩ hown8), Lib.hid (((HD.out.trans (HBF.out.mono hsD)).alloc (by omega) _).grown hgrow8 (by simp; omega) (fun r e => (hr5.lt r e).1))⟩
                case measure => simp [intOf]; omega
              · have z1 : (q == 1) = false := by simpa using q1
                have z2 : (q == 2) = false := by simpa using q2
                have z3 : (q == 3) = false := by simpa using q3
                obtain ⟨wF, hwF⟩ : ∃ wF, w2 = wF := ⟨_, rfl⟩
                rw [hwF] at B2 hb2 ⊢
                have BF := B2
                have hbF := hb2
                clear hwF B2 hb2 q1 q2 q3
                have hr5 := (own_on hr (show Below wr.heap.size wr wF from hbF) (Nat.le_refl _)).alloc (.cells #[.int .u8 15, .int .i64 0, .int .u8 0, .int .i64 0, .bool false, .int .i64 0, .int .i64 0, .int .i64 0, .bool false, .int .i64 0, .int .i64 0, .slice none 0 0, .slice none 0 0] 45)
                have HBF := Lib.hid hbF
                have hsF := hbF.size
                have e0 := BF.c0
                have e1 := BF.c1
                have e2 := BF.c2
                have e3 := BF.c3
                have e4 := BF.c4
                have e5 := BF.c5
                have e6 := BF.c6
                have e7 := BF.c7
                have e8 := BF.c8
                have e9 := BF.c9
                have e10 := BF.c10
                have e11 := BF.c11
                have e12 := BF.c12
                clear hbF BF hr HL
                go_wp2_with (at_builtin; refine wpList_append_own _ rfl (.tmp 35) (.tmp 37) 22 rfl wo.heap.size 45 i0 _ 13 136 Try.underlying22 hi hz0 hz1 hz2 rfl (by decide) (.slice vg j vq) j _ rfl hr5 ⟨wF.heap.size, 0, none⟩ 1 1 [.int .u8 15, .int .i64 0, .int .u8 0, .int .i64 0, .bool false, .int .i64 0, .int .i64 0, .int .i64 0, .bool false, .int .i64 0, .int .i64 0, .slice none 0 0, .slice none 0 0] rfl rfl (World.news_of_block (fr := (0, 0)) (heap_alloc_new _ _)) (by simp [Value.oneCell']) (by unfold maxLen; omega) (by omega) (by simp; omega) ?_; intro v' w8 hown8 hgrow8 _)
                go_roundw
                case rel => exact ⟨j + 1, by simp, by omega, Lib.hid (BL.snoc hl hb ⟨15, 0, 0, 0, false, 0, 0, 0, false, 0, 0, [], []⟩ ⟨rfl, rfl⟩ hown8), Lib.hid (((HD.out.trans (HBF.out.mono hsD)).alloc (by omega) _).grown hgrow8 (by simp; omega) (fun r e => (hr5.lt r e).1))⟩
                case measure => simp [intOf]; omega
        · obtain rfl : j = 5 := by omega
          obtain ⟨lp, lc, is, e, hI⟩ := HL.out.isIn
          obtain ⟨rfl, rfl⟩ : vg = lp ∧ vq = lc := by simpa using e
          have HI := Lib.hid hI
          have HBW := Lib.hid (HB.out.trans (HD.out.mono HB.out.size))
          obtain ⟨r, hr⟩ : ∃ r, (m : Int).tmod 5 = r := ⟨_, rfl⟩
          have hr0 : 0 ≤ r ∧ r < 5 := by rw [← hr]; exact ⟨Int.tmod_nonneg _ (by omega), Int.tmod_lt_of_pos _ (by omega)⟩
          obtain ⟨r2, hr2⟩ : ∃ r2, (m : Int) / 5 % 5 = r2 := ⟨_, rfl⟩
          have hr3 : 0 ≤ r2 ∧ r2 < 5 := by omega
          obtain ⟨wy, hwy⟩ : ∃ wy, (m : Int).tmod 3 = wy := ⟨_, rfl⟩
          clear hI e HL
          have H5 : r = 0 ∨ r = 1 ∨ r = 2 ∨ r = 3 ∨ r = 4 := by omega
          clear hr0
          rcases H5 with rfl | rfl | rfl | rfl | rfl
          · have VI := vi_four wr 0 r2 0 (-1) 0 (by omega)
            obtain ⟨w4, hw4⟩ : ∃ w4, wr.alloc (.cells #[.int .i64 0, .int .i64 r2, .int .i64 0, .int .i64 (-1)] 3) = w4 := ⟨_, rfl⟩
            have hb4 : Below wr.heap.size wr w4 := by rw [← hw4]; exact one_below _ _
            rw [hw4] at VI
            have hs4 := hb4.size
            have HI4 := Lib.hid (HI.out.on (Kb.of hb4 (Nat.le_refl _)))
            have CA := Lib.hid (fun way : Int => piecesAny w4 w4.heap.size 5 vq 0 4 vg (some ⟨wr.heap.size, 0, none⟩) is _ way (HI4.out.mono hs4) VI (fun y hy => four_wf 0 r2 0 (by omega) (by omega) (by omega) y (List.mem_of_mem_take hy)) (Nat.le_refl _))
            have HD4 := Lib.hid (HBW.out.trans (hb4.mono HBW.out.size))
            clear VI hb4
            go_wp2_with fail
            (with_reducible refine (CA.out _).mono ?_)
            rintro e w5 ⟨rfl, hb5⟩
            have hs5 := hb5.size
            have CC := Lib.hid (fun way : Int => piecesCover w5 wr.heap.size 5 vq vg is way (HI4.out.on (Kb.of hb5 hs4)) (by omega))
            have HD5 := Lib.hid (HD4.out.trans (hb5.mono HD4.out.size))
            clear hb5 CA
            go_wp2_with fail
            (with_reducible refine (CC.out _).mono ?_)
            rintro e w6 ⟨rfl, hb6⟩
            have HD6 := Lib.hid (HD5.out.trans (hb6.mono HD5.out.size))
            clear hb6 CC
            go_wp2
            go_roundw
            case rel => exact ⟨m + 1, by simp, by omega, HD6⟩
            case measure => simp [intOf]; omega
          · have VI := vi_four wr 1 r2 1 (-1) 1 (by omega)
            obtain ⟨w4, hw4⟩ : ∃ w4, wr.alloc (.cells #[.int .i64 1, .int .i64 r2, .int .i64 1, .int .i64 (-1)] 3) = w4 := ⟨_, rfl⟩
            have hb4 : Below wr.heap.size wr w4 := by rw [← hw4]; exact one_below _ _
            rw [hw4] at VI
            have hs4 := hb4.size
            have HI4 := Lib.hid (HI.out.on (Kb.of hb4 (Nat.le_refl _)))
            have CA := Lib.hid (fun way : Int => piecesAny w4 w4.heap.size 5 vq 1 4 vg (some ⟨wr.heap.size, 0, none⟩) is _ way (HI4.out.mono hs4) VI (fun y hy => four_wf 1 r2 1 (by omega) (by omega) (by omega) y (List.mem_of_mem_take hy)) (Nat.le_refl _))
            have HD4 := Lib.hid (HBW.out.trans (hb4.mono HBW.out.size))
            clear VI hb4
            go_wp2_with fail
            (with_reducible refine (CA.out _).mono ?_)
            rintro e w5 ⟨rfl, hb5⟩
            have hs5 := hb5.size
            have CC := Lib.hid (fun way : Int => piecesCover w5 wr.heap.size 5 vq vg is way (HI4.out.on (Kb.of hb5 hs4)) (by omega))
            have HD5 := Lib.hid (HD4.out.trans (hb5.mono HD4.out.size))
            clear hb5 CA
            go_wp2_with fail
            (with_reducible refine (CC.out _).mono ?_)
            rintro e w6 ⟨rfl, hb6⟩
            have HD6 := Lib.hid (HD5.out.trans (hb6.mono HD5.out.size))
            clear hb6 CC
            go_wp2
            go_roundw
            case rel => exact ⟨m + 1, by simp, by omega, HD6⟩
            case measure => simp [intOf]; omega
          · have VI := vi_four wr 2 r2 2 (-1) 2 (by omega)
            obtain ⟨w4, hw4⟩ : ∃ w4, wr.alloc (.cells #[.int .i64 2, .int .i64 r2, .int .i64 2, .int .i64 (-1)] 3) = w4 := ⟨_, rfl⟩
            have hb4 : Below wr.heap.size wr w4 := by rw [← hw4]; exact one_below _ _
            rw [hw4] at VI
            have hs4 := hb4.size
            have HI4 := Lib.hid (HI.out.on (Kb.of hb4 (Nat.le_refl _)))
            have CA := Lib.hid (fun way : Int => piecesAny w4 w4.heap.size 5 vq 2 4 vg (some ⟨wr.heap.size, 0, none⟩) is _ way (HI4.out.mono hs4) VI (fun y hy => four_wf 2 r2 2 (by omega) (by omega) (by omega) y (List.mem_of_mem_take hy)) (Nat.le_refl _))
            have HD4 := Lib.hid (HBW.out.trans (hb4.mono HBW.out.size))
            clear VI hb4
            go_wp2_with fail
            (with_reducible refine (CA.out _).mono ?_)
            rintro e w5 ⟨rfl, hb5⟩
            have hs5 := hb5.size
            have CC := Lib.hid (fun way : Int => piecesCover w5 wr.heap.size 5 vq vg is way (HI4.out.on (Kb.of hb5 hs4)) (by omega))
            have HD5 := Lib.hid (HD4.out.trans (hb5.mono HD4.out.size))
            clear hb5 CA
            go_wp2_with fail
            (with_reducible refine (CC.out _).mono ?_)
            rintro e w6 ⟨rfl, hb6⟩
            have HD6 := Lib.hid (HD5.out.trans (hb6.mono HD5.out.size))
            clear hb6 CC
            go_wp2
            go_roundw
            case rel => exact ⟨m + 1, by simp, by omega, HD6⟩
            case measure => simp [intOf]; omega
          · have VI := vi_four wr 3 r2 3 (-1) 3 (by omega)
            obtain ⟨w4, hw4⟩ : ∃ w4, wr.alloc (.cells #[.int .i64 3, .int .i64 r2, .int .i64 3, .int .i64 (-1)] 3) = w4 := ⟨_, rfl⟩
            have hb4 : Below wr.heap.size wr w4 := by rw [← hw4]; exact one_below _ _
            rw [hw4] at VI
            have hs4 := hb4.size
            have HI4 := Lib.hid (HI.out.on (Kb.of hb4 (Nat.le_refl _)))
            have CA := Lib.hid (fun way : Int => piecesAny w4 w4.heap.size 5 vq 3 4 vg (some ⟨wr.heap.size, 0, none⟩) is _ way (HI4.out.mono hs4) VI (fun y hy => four_wf 3 r2 3 (by omega) (by omega) (by omega) y (List.mem_of_mem_take hy)) (Nat.le_refl _))
            have HD4 := Lib.hid (HBW.out.trans (hb4.mono HBW.out.size))
            clear VI hb4
            go_wp2_with fail
            (with_reducible refine (CA.out _).mono ?_)
            rintro e w5 ⟨rfl, hb5⟩
            have hs5 := hb5.size
            have CC := Lib.hid (fun way : Int => piecesCover w5 wr.heap.size 5 vq vg is way (HI4.out.on (Kb.of hb5 hs4)) (by omega))
            have HD5 := Lib.hid (HD4.out.trans (hb5.mono HD4.out.size))
            clear hb5 CA
            go_wp2_with fail
            (with_reducible refine (CC.out _).mono ?_)
            rintro e w6 ⟨rfl, hb6⟩
            have HD6 := Lib.hid (HD5.out.trans (hb6.mono HD5.out.size))
            clear hb6 CC
            go_wp2
            go_roundw
            case rel => exact ⟨m + 1, by simp, by omega, HD6⟩
            case measure => simp [intOf]; omega
          · have VI := vi_four wr 4 r2 4 (-1) 4 (by omega)
            obtain ⟨w4, hw4⟩ : ∃ w4, wr.alloc (.cells #[.int .i64 4, .int .i64 r2, .int .i64 4, .int .i64 (-1)] 3) = w4 := ⟨_, rfl⟩
            have hb4 : Below wr.heap.size wr w4 := by rw [← hw4]; exact one_below _ _
            rw [hw4] at VI
            have hs4 := hb4.size
            have HI4 := Lib.hid (HI.out.on (Kb.of hb4 (Nat.le_refl _)))
            have CA := Lib.hid (fun way : Int => piecesAny w4 w4.heap.size 5 vq 4 4 vg (some ⟨wr.heap.size, 0, none⟩) is _ way (HI4.out.mono hs4) VI (fun y hy => four_wf 4 r2 4 (by omega) (by omega) (by omega) y (List.mem_of_mem_take hy)) (Nat.le_refl _))
            have HD4 := Lib.hid (HBW.out.trans (hb4.mono HBW.out.size))
            clear VI hb4
            go_wp2_with fail
            (with_reducible refine (CA.out _).mono ?_)
            rintro e w5 ⟨rfl, hb5⟩
            have hs5 := hb5.size
            have CC := Lib.hid (fun way : Int => piecesCover w5 wr.heap.size 5 vq vg is way (HI4.out.on (Kb.of hb5 hs4)) (by omega))
            have HD5 := Lib.hid (HD4.out.trans (hb5.mono HD4.out.size))
            clear hb5 CA
            go_wp2_with fail
            (with_reducible refine (CC.out _).mono ?_)
            rintro e w6 ⟨rfl, hb6⟩
            have HD6 := Lib.hid (HD5.out.trans (hb6.mono HD5.out.size))
            clear hb6 CC
            go_wp2
            go_roundw
            case rel => exact ⟨m + 1, by simp, by omega, HD6⟩
            case measure => simp [intOf]; omega
    · obtain rfl : m = 1024 := by omega
      have V1 := vi_lit wo
      obtain ⟨w1, hw1⟩ : ∃ w1, wo.alloc (.cells #[.int .i64 0] 3) = w1 := ⟨_, rfl⟩
      have hb1 : Below wo.heap.size wo w1 := by rw [← hw1]; exact one_below _ _
      rw [hw1] at V1
      have C1 := Lib.hid (piecesAny w1 w1.heap.size 0 0 1 1 none _ [] [0] 1 ⟨rfl, Nat.le_refl _, fun h => by omega⟩ V1 (fun y hy => by simp at hy; subst hy; decide) (Nat.le_refl _))
      have HD1 := Lib.hid (HB.out.trans (hb1.mono HB.out.size))
      clear V1 hb1
      go_wp2_with fail
      (with_reducible refine C1.out.mono ?_)
      rintro e w2 ⟨rfl, hb2⟩
      have HD2 := Lib.hid (HD1.out.trans (hb2.mono HD1.out.size))
      have C2 := Lib.hid (piecesCover w2 0 0 0 none [] 1 ⟨rfl, Nat.le_refl _, fun h => by omega⟩ (Nat.zero_le _))
      clear hb2 C1 HD1
      go_wp2_with fail
      (with_reducible refine C2.out.mono ?_)
      rintro e w3 ⟨rfl, hb3⟩
      have HD3 := Lib.hid (HD2.out.trans (hb3.mono HD2.out.size))
      have L2 := lit_in w3 [(15, 4611686018427387904), (16, -9223372036854775808)] 2 rfl (by omega) #[.int .u8 15, .int .i64 0, .int .u8 0, .int .i64 0, .bool false, .int .i64 0, .int .i64 0, .int .i64 4611686018427387904, .bool false, .int .i64 0, .int .i64 0, .slice none 0 0, .slice none 0 0, .int .u8 16, .int .i64 0, .int .u8 0, .int .i64 0, .bool false, .int .i64 0, .int .i64 0, .int .i64 (-9223372036854775808), .bool false, .int .i64 0, .int .i64 0, .slice none 0 0, .slice none 0 0] rfl
      obtain ⟨w4, hw4⟩ : ∃ w4, w3.alloc (.cells #[.int .u8 15, .int .i64 0, .int .u8 0, .int .i64 0, .bool false, .int .i64 0, .int .i64 0, .int .i64 4611686018427387904, .bool false, .int .i64 0, .int .i64 0, .slice none 0 0, .slice none 0 0, .int .u8 16, .int .i64 0, .int .u8 0, .int .i64 0, .bool false, .int .i64 0, .int .i64 0, .int .i64 (-9223372036854775808), .bool false, .int .i64 0, .int .i64 0, .slice none 0 0, .slice none 0 0] 45) = w4 := ⟨_, rfl⟩
      have hb4 : Below w3.heap.size w3 w4 := by rw [← hw4]; exact one_below _ _
      have hs4 : w4.heap.size = w3.heap.size + 1 := by rw [← hw4]; simp
      rw [hw4] at L2
      have V2 := vi_two w4 0 4611686018427387904
      obtain ⟨w5, hw5⟩ : ∃ w5, w4.alloc (.cells #[.int .i64 0, .int .i64 4611686018427387904] 3) = w5 := ⟨_, rfl⟩
      have hb5 : Below w4.heap.size w4 w5 := by rw [← hw5]; exact one_below _ _
      rw [hw5] at V2
      have hs5 := hb5.size
      have C3 := Lib.hid (piecesAny w5 w5.heap.size 2 2 2 2 _ _ _ [0, 4611686018427387904] 1 ((L2.on (Kb.of hb5 (Nat.le_refl _))).mono hs5) V2 (fun y hy => by simp at hy; rcases hy with rfl | rfl <;> decide) (Nat.le_refl _))
      rw [hs4] at C3
      have HD5 := Lib.hid ((HD3.out.trans (hb4.mono HD3.out.size)).trans (hb5.mono (by have := HD3.out.size; omega)))
      clear hb3 C2 HD2 L2 V2 hb4 hb5
      go_wp2_with fail
      (with_reducible refine C3.out.mono ?_)
      rintro e w6 ⟨rfl, hb6⟩
      have HD6 := Lib.hid (HD5.out.trans (hb6.mono HD5.out.size))
      have WK := Lib.hid (works w6)
      clear hb6 C3
      go_wp2_with fail
      (with_reducible refine WK.out.mono ?_)
      rintro e w7 ⟨rfl, hb7⟩
      go_wp2
      go_ret
      exact ⟨rfl, HD6.out.trans (hb7.mono HD6.out.size)⟩
end Go.Proofs.Ytfboifbpbjmcbaa.Pz
