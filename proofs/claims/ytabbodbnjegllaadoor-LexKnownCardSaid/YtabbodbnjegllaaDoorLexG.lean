import Derived.Test.YtabbodbnjegllaaDoorLexF
import Derived.Lib.SlBytesConst
namespace Go.Proofs.YtabbodbnjegllaaDoor
open Go.RowKit
/-- A row of tokens, to be read. -/
structure TR (W : World) (g cap : Nat) (ts : List Tok) : Prop where
  lt : g < W.heap.size
  le : ts.length ≤ cap
  cell : ∀ j u, (cellsT ts)[j]? = some u → W.cell? ⟨g, j, none⟩ = some u
theorem TR.on {W W' : World} {g cap : Nat} {ts : List Tok} (h : TR W g cap ts) (hb : Below W.heap.size W W') : TR W' g cap ts where
  lt := Nat.lt_of_lt_of_le h.lt hb.size
  le := h.le
  cell := fun j u hj => by rw [hb.cell (p := ⟨g, j, none⟩) h.lt]; exact h.cell j u hj
theorem TR.of {W : World} {base g cap : Nat} {ts : List Tok} (ho : W.ownsRow base 41 5 (.slice (some ⟨g, 0, none⟩) ts.length cap) ts.length (cellsT ts)) : TR W g cap ts where
  lt := (ho.lt g rfl).2
  le := by
    rcases ho.2 with ⟨h, _⟩ | ⟨g', cap', cur, hv, _, _, hc, _⟩
    · simp at h
    · simp at hv
      omega
  cell := fun j u hj => by
    rw [ho.cellAt j (by rw [← ho.1]; exact (List.getElem?_eq_some_iff.1 hj).1)]
    exact hj
theorem lex_ok {w : World} {p : Option Addr} {len c : Nat} {xs : List Int} {ts : List Tok} (h : Src w p len c xs) (hb : len ≤ 65536) (he : lexS xs = .ok ts) :
    Calls Tryd.prog 10 #[.slice p len c] w fun e w' => ∃ g cap, e = .returned (.tuple #[.slice (some ⟨g, 0, none⟩) ts.length cap, .nilIface]) ∧ TR w' g cap ts ∧ w.heap.size ≤ g ∧ Below w.heap.size w w' :=
  (lex_at w p len c xs h hb).mono fun e w' ⟨h1, h2⟩ => by
    rw [he] at h1
    obtain ⟨g, cap, e1, ho⟩ := h1
    exact ⟨g, cap, e1, TR.of ho, (ho.lt g rfl).1, h2⟩
theorem lex_no {w : World} {p : Option Addr} {len c : Nat} {xs : List Int} {i : Nat} {er : Int} (h : Src w p len c xs) (hb : len ≤ 65536) (he : lexS xs = .error (i, er)) :
    Calls Tryd.prog 10 #[.slice p len c] w fun e w' => ∃ B l cc, e = .returned (.tuple #[.slice none 0 0, .iface 59 (.pointer (some ⟨B, 0, none⟩))]) ∧ ErrAt w' B i l cc er ∧ Below w.heap.size w w' :=
  (lex_at w p len c xs h hb).mono fun e w' ⟨h1, h2⟩ => by
    rw [he] at h1
    obtain ⟨B, l, cc, e1, _, hE⟩ := h1
    exact ⟨B, l, cc, e1, hE, h2⟩
theorem src_const (W : World) (C : Array Value) (zs : List Int) (n : Nat) (hC : C = (zs.map (Value.int .u8)).toArray) (hn : zs.length = n) (hz : ∀ z ∈ zs, 0 ≤ z ∧ z < 256) (a b : Nat) :
    Src (W.alloc (.cells C 5 (a, b))) (some ⟨W.heap.size, 0, none⟩) n n zs := by
  refine ⟨hn, fun i => ?_, Or.inr ⟨W.heap.size, 0, rfl, Nat.le_refl _, by simp, fun i hi => ?_⟩⟩
  · by_cases hi : i < zs.length
    · have := hz (zs[i]) (List.getElem_mem hi)
      simpa [List.getD, hi] using this
    · simp [List.getD, List.getElem?_eq_none (Nat.le_of_not_lt hi)]
  · rw [Nat.zero_add, World.cell?_alloc_mark]
    subst hC
    have hi' : i < zs.length := by omega
    simp [List.getD, hi']
theorem lexC0 : lexS [97, 49, 32, 61, 61, 49, 50, 59, 35, 32, 98] = .ok [⟨1, 0, 2, [97, 49], 0⟩, ⟨3, 3, 5, [61, 61], 0⟩, ⟨2, 5, 7, [49, 50], 12⟩, ⟨3, 7, 8, [59], 0⟩, ⟨4, 11, 11, [], 0⟩] := by kernel_rfl
theorem lexC1 : lexS [49, 97] = .ok [⟨2, 0, 1, [49], 1⟩, ⟨1, 1, 2, [97], 0⟩, ⟨4, 2, 2, [], 0⟩] := by kernel_rfl
theorem lexC2 : lexS [50, 49, 52, 55, 52, 56, 51, 54, 52, 56] = .error (0, 31) := by kernel_rfl
theorem lexC3 : lexS [97, 36] = .error (1, 30) := by kernel_rfl
theorem lexC4 : lexS [97, 61, 61, 61, 98] = .ok [⟨1, 0, 1, [97], 0⟩, ⟨3, 1, 3, [61, 61], 0⟩, ⟨3, 3, 4, [61], 0⟩, ⟨1, 4, 5, [98], 0⟩, ⟨4, 5, 5, [], 0⟩] := by kernel_rfl
set_option maxHeartbeats 4000000 in
set_option maxRecDepth 1000000 in
theorem works (w : World) (hg : ET w) : Calls Tryd.prog 9 #[] w fun e w' => e = .returned (.bool true) ∧ Below w.heap.size w w' := by
  have kc := fun (w : World) (C : Array Value) (n c : Nat) => Lib.run_convert_bytes_const (P := Tryd.prog) w 22 5 C n c Tryd.underlying22 Tryd.underlying5
  have HG := Lib.hid hg
  clear hg
  have B0 := Lib.hid (Below.refl w.heap.size w)
  go_enter Tryd.func9, Tryd.ntmps9
  go_wp2_with fail
  have L0 := Lib.hid (lex_ok (src_const w #[.int .u8 97, .int .u8 49, .int .u8 32, .int .u8 61, .int .u8 61, .int .u8 49, .int .u8 50, .int .u8 59, .int .u8 35, .int .u8 32, .int .u8 98] [97, 49, 32, 61, 61, 49, 50, 59, 35, 32, 98] 11 rfl rfl (by decide) 11 12) (by decide) lexC0)
  (with_reducible refine L0.out.mono ?_)
  rintro e w1 ⟨g0, cap0, rfl, hT, _, hb⟩
  have T0 := Lib.hid hT
  have B1 := Lib.hid (B0.out.trans (((one_below w (.cells #[.int .u8 97, .int .u8 49, .int .u8 32, .int .u8 61, .int .u8 61, .int .u8 49, .int .u8 50, .int .u8 59, .int .u8 35, .int .u8 32, .int .u8 98] 5 (11, 12))).trans (hb.mono (by simp))).mono B0.out.size))
  clear hT hb L0  B0
  go_wp2_with fail
  have L1 := Lib.hid (lex_ok (src_const w1 #[.int .u8 49, .int .u8 97] [49, 97] 2 rfl rfl (by decide) 2 3) (by decide) lexC1)
  (with_reducible refine L1.out.mono ?_)
  rintro e w2 ⟨g1, cap1, rfl, hT, _, hb⟩
  have T1 := Lib.hid hT
  have T0 := Lib.hid (T0.out.on ((one_below w1 (.cells #[.int .u8 49, .int .u8 97] 5 (2, 3))).trans (hb.mono (by simp))))
  have B2 := Lib.hid (B1.out.trans (((one_below w1 (.cells #[.int .u8 49, .int .u8 97] 5 (2, 3))).trans (hb.mono (by simp))).mono B1.out.size))
  clear hT hb L1  B1
  go_wp2_with fail
  have L2 := Lib.hid (lex_no (src_const w2 #[.int .u8 50, .int .u8 49, .int .u8 52, .int .u8 55, .int .u8 52, .int .u8 56, .int .u8 51, .int .u8 54, .int .u8 52, .int .u8 56] [50, 49, 52, 55, 52, 56, 51, 54, 52, 56] 10 rfl rfl (by decide) 10 11) (by decide) lexC2)
  (with_reducible refine L2.out.mono ?_)
  rintro e w3 ⟨b2, l2, c2, rfl, hT, hb⟩
  have T2 := Lib.hid hT
  have T0 := Lib.hid (T0.out.on ((one_below w2 (.cells #[.int .u8 50, .int .u8 49, .int .u8 52, .int .u8 55, .int .u8 52, .int .u8 56, .int .u8 51, .int .u8 54, .int .u8 52, .int .u8 56] 5 (10, 11))).trans (hb.mono (by simp))))
  have T1 := Lib.hid (T1.out.on ((one_below w2 (.cells #[.int .u8 50, .int .u8 49, .int .u8 52, .int .u8 55, .int .u8 52, .int .u8 56, .int .u8 51, .int .u8 54, .int .u8 52, .int .u8 56] 5 (10, 11))).trans (hb.mono (by simp))))
  have B3 := Lib.hid (B2.out.trans (((one_below w2 (.cells #[.int .u8 50, .int .u8 49, .int .u8 52, .int .u8 55, .int .u8 52, .int .u8 56, .int .u8 51, .int .u8 54, .int .u8 52, .int .u8 56] 5 (10, 11))).trans (hb.mono (by simp))).mono B2.out.size))
  clear hT hb L2  B2
  go_wp2_with fail
  have L3 := Lib.hid (lex_no (src_const w3 #[.int .u8 97, .int .u8 36] [97, 36] 2 rfl rfl (by decide) 2 3) (by decide) lexC3)
  (with_reducible refine L3.out.mono ?_)
  rintro e w4 ⟨b3, l3, c3, rfl, hT, hb⟩
  have T3 := Lib.hid hT
  have T0 := Lib.hid (T0.out.on ((one_below w3 (.cells #[.int .u8 97, .int .u8 36] 5 (2, 3))).trans (hb.mono (by simp))))
  have T1 := Lib.hid (T1.out.on ((one_below w3 (.cells #[.int .u8 97, .int .u8 36] 5 (2, 3))).trans (hb.mono (by simp))))
  have T2 := Lib.hid (T2.out.on ((one_below w3 (.cells #[.int .u8 97, .int .u8 36] 5 (2, 3))).trans (hb.mono (by simp))))
  have B4 := Lib.hid (B3.out.trans (((one_below w3 (.cells #[.int .u8 97, .int .u8 36] 5 (2, 3))).trans (hb.mono (by simp))).mono B3.out.size))
  clear hT hb L3  B3
  go_wp2_with fail
  have L4 := Lib.hid (lex_ok (src_const w4 #[.int .u8 97, .int .u8 61, .int .u8 61, .int .u8 61, .int .u8 98] [97, 61, 61, 61, 98] 5 rfl rfl (by decide) 5 6) (by decide) lexC4)
  (with_reducible refine L4.out.mono ?_)
  rintro e w5 ⟨g4, cap4, rfl, hT, _, hb⟩
  have T4 := Lib.hid hT
  have T0 := Lib.hid (T0.out.on ((one_below w4 (.cells #[.int .u8 97, .int .u8 61, .int .u8 61, .int .u8 61, .int .u8 98] 5 (5, 6))).trans (hb.mono (by simp))))
  have T1 := Lib.hid (T1.out.on ((one_below w4 (.cells #[.int .u8 97, .int .u8 61, .int .u8 61, .int .u8 61, .int .u8 98] 5 (5, 6))).trans (hb.mono (by simp))))
  have T2 := Lib.hid (T2.out.on ((one_below w4 (.cells #[.int .u8 97, .int .u8 61, .int .u8 61, .int .u8 61, .int .u8 98] 5 (5, 6))).trans (hb.mono (by simp))))
  have T3 := Lib.hid (T3.out.on ((one_below w4 (.cells #[.int .u8 97, .int .u8 61, .int .u8 61, .int .u8 61, .int .u8 98] 5 (5, 6))).trans (hb.mono (by simp))))
  have B5 := Lib.hid (B4.out.trans (((one_below w4 (.cells #[.int .u8 97, .int .u8 61, .int .u8 61, .int .u8 61, .int .u8 98] 5 (5, 6))).trans (hb.mono (by simp))).mono B4.out.size))
  clear hT hb L4  B4
  have E5 := Lib.hid (HG.out.below B5.out)
  have PE := Lib.hid (place_err E5.out T3.out)
  go_wp2_with fail
  (with_reducible refine PE.out.mono ?_)
  rintro e w6 ⟨rfl, hb⟩
  have T0 := Lib.hid (T0.out.on hb)
  have T1 := Lib.hid (T1.out.on hb)
  have T2 := Lib.hid (T2.out.on hb)
  have T3 := Lib.hid (T3.out.on hb)
  have T4 := Lib.hid (T4.out.on hb)
  have B6 := Lib.hid (B5.out.trans (hb.mono B5.out.size))
  have E6 := Lib.hid (E5.out.below hb)
  clear hb PE E5 B5
  have r0 := T0.out.cell 3 (.string ⟨#[97, 49]⟩) (by kernel_rfl)
  have r1 := T0.out.cell 8 (.string ⟨#[61, 61]⟩) (by kernel_rfl)
  have r2 := T0.out.cell 14 (.int .i64 12) (by kernel_rfl)
  have r3 := T0.out.cell 18 (.string ⟨#[59]⟩) (by kernel_rfl)
  have r4 := T0.out.cell 20 (.int .u8 4) (by kernel_rfl)
  have r5 := T1.out.cell 4 (.int .i64 1) (by kernel_rfl)
  have r6 := T1.out.cell 8 (.string ⟨#[97]⟩) (by kernel_rfl)
  have CE := Lib.hid (code_err E6.out T2.out)
  have q0 := T0.out.le
  have q1 := T1.out.le
  have q4 := T4.out.le
  simp only [List.length_cons, List.length_nil] at q0 q1 q4
  go_wp2_with fail
  (with_reducible refine CE.out.mono ?_)
  rintro e w7 ⟨rfl, hb⟩
  have T3 := Lib.hid (T3.out.on hb)
  have T4 := Lib.hid (T4.out.on hb)
  have B7 := Lib.hid (B6.out.trans (hb.mono B6.out.size))
  have CE2 := Lib.hid (code_err (E6.out.below hb) T3.out)
  clear hb CE E6 B6 r0 r1 r2 r3 r4 r5 r6
  go_wp2_with fail
  (with_reducible refine CE2.out.mono ?_)
  rintro e w8 ⟨rfl, hb⟩
  have r7 := (T4.out.on hb).cell 13 (.string ⟨#[61]⟩) (by kernel_rfl)
  have B8 := Lib.hid (B7.out.trans (hb.mono B7.out.size))
  clear hb CE2 B7
  go_wp2
  go_ret
  exact ⟨rfl, B8.out⟩
end Go.Proofs.YtabbodbnjegllaaDoor
