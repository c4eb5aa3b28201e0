import Derived.Test.YtfboifbpbjmcbaaPzK
import Derived.Test.YtfboifbpbjmcbaaPzE
namespace Go.Proofs.Ytfboifbpbjmcbaa.Pz
open Go.RowKit
def mkI (op : Int) (to : Int) : Ins := ⟨op, 0, 0, 0, false, 0, 0, to, false, 0, 0, [], []⟩
theorem mk_sz (op to : Int) : SzI (mkI op to) := ⟨by simp [mkI], by simp [mkI], fun v hv => by simp [mkI] at hv⟩
theorem mk_oi (W : World) (base tT tS : Nat) (op to : Int) : OI W base tT tS (mkI op to) (.slice none 0 0) (.slice none 0 0) := ⟨⟨rfl, Or.inl ⟨rfl, rfl⟩⟩, [], ⟨rfl, Or.inl ⟨rfl, rfl⟩⟩, fun i hi => by simp [mkI] at hi⟩
/-- Instructions without terms, just laid. -/
theorem lit_in (w : World) (l : List (Int × Int)) (n : Nat) (hn : l.length = n) (hb : n ≤ 1000) (cs : Array Value) (hcs : cs.toList = flatI (l.map fun x => mkI x.1 x.2) (l.map fun _ => .slice none 0 0) (l.map fun _ => .slice none 0 0)) :
    IsIn (w.alloc (.cells cs 45)).heap.size (w.alloc (.cells cs 45)) (some ⟨w.heap.size, 0, none⟩) n n (l.map fun x => mkI x.1 x.2) := by
  subst hn
  have hfl : (flatI (l.map fun x => mkI x.1 x.2) (l.map fun _ => Value.slice none 0 0) (l.map fun _ => Value.slice none 0 0)).length = l.length * 13 := by
    rw [flatI_len _ _ _ (by simp) (by simp), List.length_map]
  have h1 := World.ownsRow_lit (base := 0) (e := 45) (size := 13) w cs l.length (Nat.zero_le _) (by unfold maxLen; omega) (by rw [← Array.length_toList, hcs, hfl])
  rw [hcs] at h1
  have h2 : OL (w.alloc (.cells cs 45)) 0 45 63 42 (.slice (some ⟨w.heap.size, 0, none⟩) l.length l.length) (l.map fun x => mkI x.1 x.2) := by
    refine ⟨l.map fun _ => Value.slice none 0 0, l.map fun _ => Value.slice none 0 0, by simp, by simp, by rw [List.length_map]; exact h1, fun i hi => ?_⟩
    rw [List.length_map] at hi
    have e1 : (l.map fun x => mkI x.1 x.2).getD i default = mkI (l[i]).1 (l[i]).2 := by simp [List.getD, hi]
    have e2 : (l.map fun _ => Value.slice none 0 0).getD i default = Value.slice none 0 0 := by simp [List.getD, hi]
    rw [e1, e2]
    exact mk_oi _ _ _ _ _ _
  obtain ⟨p, c, e, h3⟩ := is_own h2 (fun x hx => by
    obtain ⟨y, _, rfl⟩ := List.mem_map.1 hx
    exact mk_sz _ _)
  rw [List.length_map] at h3 e
  obtain ⟨rfl, rfl⟩ : some ⟨w.heap.size, 0, none⟩ = p ∧ l.length = c := by simpa using e
  exact h3
theorem eqU04 (W : World) : (binOp .eql 33 (.agg #[.int .i64 0, .int .i64 4]) (.agg #[.int .i64 0, .int .i64 4])).run Try.prog W = .ok (.bool true) W := by kernel_rfl
theorem eqU02 (W : World) : (binOp .eql 33 (.agg #[.int .i64 0, .int .i64 2]) (.agg #[.int .i64 0, .int .i64 2])).run Try.prog W = .ok (.bool true) W := by kernel_rfl
theorem eqU24 (W : World) : (binOp .eql 33 (.agg #[.int .i64 2, .int .i64 4]) (.agg #[.int .i64 2, .int .i64 4])).run Try.prog W = .ok (.bool true) W := by kernel_rfl
def li4 : List Ins := [mkI 9 0, mkI 15 0, mkI 9 0, mkI 16 0]
theorem u0 : unitsP (opsOf li4) 0 = [(0, 4)] := by decide
theorem u1 : unitsP (opsOf li4) 1 = [(0, 2), (2, 4)] := by decide
theorem wo : withoutP [mkI 15 0, mkI 16 0] [0] = [mkI 16 0] := by kernel_rfl
theorem u2 : unitsP (opsOf [mkI 16 0]) 1 = [(0, 1)] := by decide
theorem vi_lit (w : World) : VIn (w.alloc (.cells #[.int .i64 0] 3)).heap.size (w.alloc (.cells #[.int .i64 0] 3)) (some ⟨w.heap.size, 0, none⟩) 1 1 [0] where
  len_eq := rfl
  cap := Nat.le_refl _
  cell := fun _ => ⟨w.heap.size, 0, rfl, by simp, fun i hi => by
    obtain rfl : i = 0 := by omega
    simp⟩
set_option maxHeartbeats 8000000 in
set_option maxRecDepth 1000000 in
theorem works (w : World) : Calls Try.prog 7 #[] w fun e w' => e = .returned (.bool true) ∧ Below w.heap.size w w' := by
  have L4 := lit_in w [(9, 0), (15, 0), (9, 0), (16, 0)] 4 rfl (by omega) #[.int .u8 9, .int .i64 0, .int .u8 0, .int .i64 0, .bool false, .int .i64 0, .int .i64 0, .int .i64 0, .bool false, .int .i64 0, .int .i64 0, .slice none 0 0, .slice none 0 0, .int .u8 15, .int .i64 0, .int .u8 0, .int .i64 0, .bool false, .int .i64 0, .int .i64 0, .int .i64 0, .bool false, .int .i64 0, .int .i64 0, .slice none 0 0, .slice none 0 0, .int .u8 9, .int .i64 0, .int .u8 0, .int .i64 0, .bool false, .int .i64 0, .int .i64 0, .int .i64 0, .bool false, .int .i64 0, .int .i64 0, .slice none 0 0, .slice none 0 0, .int .u8 16, .int .i64 0, .int .u8 0, .int .i64 0, .bool false, .int .i64 0, .int .i64 0, .int .i64 0, .bool false, .int .i64 0, .int .i64 0, .slice none 0 0, .slice none 0 0] rfl
  obtain ⟨w1, hw1⟩ : ∃ w1, w.alloc (.cells #[.int .u8 9, .int .i64 0, .int .u8 0, .int .i64 0, .bool false, .int .i64 0, .int .i64 0, .int .i64 0, .bool false, .int .i64 0, .int .i64 0, .slice none 0 0, .slice none 0 0, .int .u8 15, .int .i64 0, .int .u8 0, .int .i64 0, .bool false, .int .i64 0, .int .i64 0, .int .i64 0, .bool false, .int .i64 0, .int .i64 0, .slice none 0 0, .slice none 0 0, .int .u8 9, .int .i64 0, .int .u8 0, .int .i64 0, .bool false, .int .i64 0, .int .i64 0, .int .i64 0, .bool false, .int .i64 0, .int .i64 0, .slice none 0 0, .slice none 0 0, .int .u8 16, .int .i64 0, .int .u8 0, .int .i64 0, .bool false, .int .i64 0, .int .i64 0, .int .i64 0, .bool false, .int .i64 0, .int .i64 0, .slice none 0 0, .slice none 0 0] 45) = w1 := ⟨_, rfl⟩
  have hb1 : Below w.heap.size w w1 := by rw [← hw1]; exact one_below _ _
  rw [hw1] at L4
  have HB1 := Lib.hid hb1
  have HL4 := Lib.hid (show IsIn w1.heap.size w1 (some ⟨w.heap.size, 0, none⟩) 4 4 li4 from L4)
  have C0 := Lib.hid (units_row w1 w1.heap.size 4 4 _ li4 0 HL4.out (Nat.le_refl _) (by omega))
  rw [u0] at C0
  simp only [List.length_cons, List.length_nil, Nat.zero_add] at C0
  clear L4 hb1
  go_enter Try.func7, Try.ntmps7
  go_wp2_with fail
  (with_reducible refine C0.out.mono ?_)
  rintro e w2 ⟨p0, q0, rfl, hU0, hb2⟩
  have HL42 := Lib.hid (HL4.out.on (Kb.of hb2 (Nat.le_refl _)))
  have hs2 := hb2.size
  have C1 := Lib.hid (units_row w2 w1.heap.size 4 4 _ li4 1 HL42.out hs2 (by omega))
  rw [u1] at C1
  simp only [List.length_cons, List.length_nil, Nat.zero_add, Nat.reduceAdd] at C1
  have HU0 := Lib.hid hU0
  have HB2 := Lib.hid (HB1.out.trans (hb2.mono HB1.out.size))
  clear hU0 hb2 C0 HB1 hs2
  go_wp2_with fail
  (with_reducible refine C1.out.mono ?_)
  rintro e w3 ⟨p1, q1, rfl, hU1, hb3⟩
  have HU1 := Lib.hid hU1
  have HU03 := Lib.hid (HU0.out.on (Kb.of hb3 (Nat.le_refl _)))
  have HB3 := Lib.hid (HB2.out.trans (hb3.mono HB2.out.size))
  have hs3 := hb3.size
  have L2 := lit_in w3 [(15, 0), (16, 0)] 2 rfl (by omega) #[.int .u8 15, .int .i64 0, .int .u8 0, .int .i64 0, .bool false, .int .i64 0, .int .i64 0, .int .i64 0, .bool false, .int .i64 0, .int .i64 0, .slice none 0 0, .slice none 0 0, .int .u8 16, .int .i64 0, .int .u8 0, .int .i64 0, .bool false, .int .i64 0, .int .i64 0, .int .i64 0, .bool false, .int .i64 0, .int .i64 0, .slice none 0 0, .slice none 0 0] rfl
  obtain ⟨w4, hw4⟩ : ∃ w4, w3.alloc (.cells #[.int .u8 15, .int .i64 0, .int .u8 0, .int .i64 0, .bool false, .int .i64 0, .int .i64 0, .int .i64 0, .bool false, .int .i64 0, .int .i64 0, .slice none 0 0, .slice none 0 0, .int .u8 16, .int .i64 0, .int .u8 0, .int .i64 0, .bool false, .int .i64 0, .int .i64 0, .int .i64 0, .bool false, .int .i64 0, .int .i64 0, .slice none 0 0, .slice none 0 0] 45) = w4 := ⟨_, rfl⟩
  have hb4 : Below w3.heap.size w3 w4 := by rw [← hw4]; exact one_below _ _
  have hs4 : w4.heap.size = w3.heap.size + 1 := by rw [← hw4]; simp
  rw [hw4] at L2
  have VI := vi_lit w4
  obtain ⟨w5, hw5⟩ : ∃ w5, w4.alloc (.cells #[.int .i64 0] 3) = w5 := ⟨_, rfl⟩
  have hb5 : Below w4.heap.size w4 w5 := by rw [← hw5]; exact one_below _ _
  rw [hw5] at VI
  have hs5 := hb5.size
  have HB5 := Lib.hid ((HB3.out.trans (hb4.mono HB3.out.size)).trans (hb5.mono (by have := HB3.out.size; omega)))
  have HU15 := Lib.hid ((HU1.out.on (Kb.of hb4 (Nat.le_refl _))).on (Kb.of hb5 (by omega)))
  have HU05 := Lib.hid ((HU03.out.on (Kb.of hb4 hs3)).on (Kb.of hb5 (by omega)))
  have CW := Lib.hid (without_at w5 w5.heap.size 2 2 1 1 _ _ [mkI 15 0, mkI 16 0] [0] ((show IsIn w4.heap.size w4 (some ⟨w3.heap.size, 0, none⟩) 2 2 [mkI 15 0, mkI 16 0] from L2).on (Kb.of hb5 (Nat.le_refl _)) |>.mono hs5) VI (fun x hx => by simp at hx; subst hx; decide) (Nat.le_refl _) (by omega) (by omega))
  rw [wo, hs4] at CW
  have hs35 : w3.heap.size ≤ w5.heap.size := by omega
  clear hU1 hb3 C1 HU0 HB2 L2 VI hb4 hb5
  go_wp2_with fail
  (with_reducible refine CW.out.mono ?_)
  rintro e w6 ⟨v, rfl, hO6, hb6⟩
  obtain ⟨p6, q6, rfl, hI6⟩ := is_own hO6 (fun x hx => by simp at hx; subst hx; exact mk_sz 16 0)
  have C2 := Lib.hid (units_row w6 w6.heap.size _ _ _ _ 1 hI6 (Nat.le_refl _) (by simp))
  rw [u2] at C2
  simp only [List.length_cons, List.length_nil, Nat.zero_add] at C2
  obtain ⟨b0, rfl, hb0, hc0⟩ := (HU05.out.on (Kb.of hb6 (by omega))).cell (by omega)
  obtain ⟨b1, rfl, hb1, hc1⟩ := (HU15.out.on (Kb.of hb6 hs35)).cell (by omega)
  have m0 := (hc0 0 (by omega)).1
  have m1 := (hc0 0 (by omega)).2
  have m2 := (hc1 0 (by omega)).1
  have m3 := (hc1 0 (by omega)).2
  have m4 := (hc1 1 (by omega)).1
  have m5 := (hc1 1 (by omega)).2
  simp only [Nat.zero_mul, Nat.one_mul, Nat.zero_add, Nat.reduceAdd, List.getD_cons_zero, List.getD_cons_succ] at m0 m1 m2 m3 m4 m5
  have k0 := HU05.out.cap
  have k1 := HU15.out.cap
  have HB6 := Lib.hid (HB5.out.trans (hb6.mono HB5.out.size))
  have e04 := eqU04
  have e02 := eqU02
  have e24 := eqU24
  clear hc0 hc1 hO6 hI6 hb6 CW hw1 hw4 hw5
  go_wp2_with fail
  (with_reducible refine C2.out.mono ?_)
  rintro e w7 ⟨p7, q7, rfl, _, hb7⟩
  go_wp2
  go_ret
  exact ⟨rfl, HB6.out.trans (hb7.mono HB6.out.size)⟩
end Go.Proofs.Ytfboifbpbjmcbaa.Pz
