import Derived.Test.YtgmkmpldlndboaaCodeS
import Derived.Laws.OwnMore
namespace Go.Proofs.Ytgmkmpldlndboaa.Cd
open Go.RowKit
theorem own_in {W : World} {B : Nat} {v : Value} {n : Nat} {ts : List Tm} {xs : List Value} (hx : xs = flatT ts) (hn : ts.length = n) (h : W.ownsRow B 39 3 v n xs) : ∃ p c, v = .slice p n c ∧ W.ownsRow B 39 3 (.slice p n c) n (flatT ts) ∧ TsIn W p n c ts := by
  subst hx
  obtain ⟨p, c, e, hT⟩ := ts_own hn h
  rw [e] at h
  exact ⟨p, c, e, h, hT⟩
theorem own_zero (W : World) : (W.alloc (.cells #[] 39)).ownsRow W.heap.size 39 3 (.slice (some ⟨W.heap.size, 0, none⟩) 0 0) 0 [] := World.ownsRow_lit W #[] 0 (Nat.le_refl _) (by simp [maxLen]) rfl
theorem below_zero {W W' : World} {n c : Nat} (h : (W.alloc (.cells #[] 39)).grownBy W' (Value.slice (some ⟨W.heap.size, 0, none⟩) n c).ownBlock) : Below W.heap.size W W' :=
  (one_below W (.cells #[] 39)).grown h (by simp) (fun k hk => by simp [Value.ownBlock] at hk; omega)
theorem ts_unit (W : World) (t : Tm) : TsIn (W.alloc (.cells #[.int .u8 t.k, .int .i64 t.n, .int .i64 t.v] 39)) (some ⟨W.heap.size, 0, none⟩) 1 1 [t] := ts_block (heap_alloc_new W _) [t] rfl 1 (Nat.le_refl _)
set_option maxHeartbeats 8000000 in
set_option maxRecDepth 1000000 in
theorem sums_yes (w : World) (p p2 q : Option Addr) (len c len2 c2 lv cv : Nat) (a b : List Tm) (vs : List Int) (x y : Int) (ha : TsIn w p len c a) (hb : TsIn w p2 len2 c2 b) (hv : VsIn w q lv cv vs) (l1 : len ≤ 100) (l2 : len2 ≤ 100) (l3 : lv ≤ 100) (hA : evalP a vs = some x) (hB : evalP b vs = some y) :
    Calls Try.prog 4 #[.slice p len c, .slice p2 len2 c2, .slice q lv cv] w fun e w' => e = .returned (.bool true) ∧ Below w.heap.size w w' := by
  have HA := Lib.hid ha
  have HB := Lib.hid hb
  have HV := Lib.hid hv
  have hla := Lib.hid ha.len_eq
  have hlb := Lib.hid hb.len_eq
  have C1 := Lib.hid (eval_at w p len c a q lv cv vs ha hv (by omega) (by omega))
  unfold EvalE at C1
  rw [evalV_some hA] at C1
  have E1 := Lib.hid (evalV_some hB)
  have E2 := Lib.hid (evalV_none (eval_two hA hB))
  have K3 : Hid (evalV (a ++ b ++ [⟨3, 0, 0⟩]) vs = .tuple #[.int .i64 (wrap64 (x + y)), .bool true]) := Lib.hid (evalV_some (by simpa using eval_bin hA hB 3 (by simp)))
  have K4 : Hid (evalV (a ++ b ++ [⟨4, 0, 0⟩]) vs = .tuple #[.int .i64 (wrap64 (x - y)), .bool true]) := Lib.hid (evalV_some (by simpa using eval_bin hA hB 4 (by simp)))
  have K5 : Hid (evalV (a ++ b ++ [⟨5, 0, 0⟩]) vs = .tuple #[.int .i64 (wrap64 (x * y)), .bool true]) := Lib.hid (evalV_some (by simpa using eval_bin hA hB 5 (by simp)))
  have K6 : Hid (evalV (a ++ [⟨6, 0, 0⟩]) vs = .tuple #[.int .i64 (wrap64 (-x)), .bool true]) := Lib.hid (evalV_some (eval_un hA))
  clear ha hb hv hA hB
  go_enter Try.func4, Try.ntmps4
  go_wp2_with fail
  (with_reducible refine C1.out.mono ?_)
  rintro e w1 ⟨rfl, hb1⟩
  have C2 := Lib.hid (eval_at w1 p2 len2 c2 b q lv cv vs (HB.out.on hb1) (HV.out.on hb1) (by omega) (by omega))
  unfold EvalE at C2
  rw [E1.out] at C2
  have B1 := Lib.hid hb1
  clear hb1
  go_wp2_with fail
  (with_reducible refine C2.out.mono ?_)
  rintro e w2 ⟨rfl, hb2⟩
  have B2 := Lib.hid (B1.out.trans (hb2.mono B1.out.size))
  have TA2 := Lib.hid (HA.out.on B2.out)
  have TB2 := Lib.hid (HB.out.on B2.out)
  clear hb2 B1 C1 C2
  have hz2 := own_zero w2
  go_wp2_with (at_builtin; refine wpList_append_ts rfl (.tmp 54) (.tmp 55) rfl w2.heap.size (.slice (some ⟨w2.heap.size, 0, none⟩) 0 0) 0 [] rfl hz2 p len c a rfl (TA2.out.on (one_below _ _)) (by omega) (by simp) ?_)
  intro v3 w3 hown3 hgrow3
  have b3 := Lib.hid (below_zero hgrow3)
  obtain ⟨p3, c3, rfl, ho3, _⟩ := own_in (xs := flatT a) rfl hla.out (by simpa using hown3)
  have O3 := Lib.hid ho3
  have b3s := b3.out.size
  clear hz2 hown3 hgrow3 ho3
  go_wp2_with (at_builtin; refine wpList_append_ts rfl (.tmp 56) (.tmp 57) rfl w2.heap.size (.slice p3 len c3) len (flatT a) rfl O3.out p2 len2 c2 b rfl (TB2.out.on b3.out) (by omega) (by omega) ?_)
  intro v4 w4 hown4 hgrow4
  have b4 := Lib.hid (b3.out.grown hgrow4 b3s (fun k hk => (O3.out.lt k hk).1))
  obtain ⟨p4, c4, rfl, _, ht4⟩ := own_in (ts := a ++ b) (n := len + len2) (by rw [flatT_append]) (by rw [List.length_append, hla.out, hlb.out]) hown4
  have T4 := Lib.hid ht4
  have B4 := Lib.hid (B2.out.trans (b4.out.mono B2.out.size))
  clear hown4 hgrow4 ht4 b3s
  obtain ⟨n4, hn4⟩ : ∃ n4, len + len2 = n4 := ⟨_, rfl⟩
  have hn4b : n4 ≤ 200 := by omega
  rw [hn4] at T4
  rw [hn4]
  have HN4 := Lib.hid hn4
  clear hn4
  go_wp2_with fail
  go_loopw [61] (fun av wr => ∃ j : Nat, j ≤ 3 ∧ av = .int .i64 j ∧ Hid (Below (w4.heap.size + 1) (w4.alloc (.cells #[.int .u8 3, .int .u8 4, .int .u8 5] 5)) wr)) (fun av _ => 3 - (intOf av).toNat)
  case atStart => exact ⟨0, Nat.zero_le _, rfl, Lib.hid (Below.refl _ _)⟩
  case round =>
    obtain ⟨j, hj, rfl, hbel⟩ := hrel
    have HW := Lib.hid ((one_below w4 (.cells #[.int .u8 3, .int .u8 4, .int .u8 5] 5)).trans (hbel.out.mono (by omega)))
    have hws := hbel.out.size
    rw [World.size_alloc] at hws
    have TR := Lib.hid (T4.out.on HW.out)
    have VR := Lib.hid (HV.out.on (B4.out.trans (HW.out.mono B4.out.size)))
    by_cases h3 : j < 3
    · rcases (by omega : j = 0 ∨ j = 1 ∨ j = 2) with rfl | rfl | rfl
      · have ck : wr.cell? ⟨w4.heap.size, 0, none⟩ = some (.int .u8 3) := by rw [hbel.out.cell (by simp)]; simp
        have hz2 := own_zero wr
        go_wp2_with (at_builtin; refine wpList_append_ts rfl (.tmp 66) (.tmp 67) rfl wr.heap.size (.slice (some ⟨wr.heap.size, 0, none⟩) 0 0) 0 [] rfl hz2 p4 n4 c4 (a ++ b) rfl (TR.out.on (one_below _ _)) (by omega) (by simp) ?_)
        intro v5 w5 hown5 hgrow5
        have b5 := Lib.hid (below_zero hgrow5)
        obtain ⟨p5, c5, rfl, ho5, _⟩ := own_in (xs := flatT (a ++ b)) rfl (n := n4) (by rw [List.length_append, hla.out, hlb.out, HN4.out]) (by simpa using hown5)
        have O5 := Lib.hid ho5
        have b5s := b5.out.size
        clear hz2 hown5 hgrow5 ho5
        go_wp2_with (at_builtin; refine wpList_append_ts rfl (.tmp 68) (.tmp 71) rfl wr.heap.size (.slice p5 n4 c5) n4 (flatT (a ++ b)) rfl (O5.out.alloc _) (some ⟨w5.heap.size, 0, none⟩) 1 1 [⟨3, 0, 0⟩] rfl (ts_unit w5 ⟨3, 0, 0⟩) (by omega) (by simp; omega) ?_)
        intro v6 w6 hown6 hgrow6
        have b6 := Lib.hid ((b5.out.alloc b5s (.cells #[.int .u8 3, .int .i64 0, .int .i64 0] 39)).grown hgrow6 (by simp; omega) (fun k hk => (O5.out.lt k hk).1))
        obtain ⟨p6, c6, rfl, _, ht6⟩ := own_in (ts := a ++ b ++ [⟨3, 0, 0⟩]) (n := n4 + 1) (by rw [flatT_append (a ++ b)]) (by rw [List.length_append, List.length_append, hla.out, hlb.out, HN4.out]; rfl) hown6
        have C6 := Lib.hid (eval_at w6 p6 (n4 + 1) c6 _ q lv cv vs ht6 (VR.out.on b6.out) (by omega) (by omega))
        unfold EvalE at C6
        rw [K3.out] at C6
        clear hown6 hgrow6 ht6 b5s
        go_wp2_with fail
        (with_reducible refine C6.out.mono ?_)
        rintro e w7 ⟨rfl, hb7⟩
        have HX := Lib.hid (hbel.out.trans ((b6.out.trans (hb7.mono b6.out.size)).mono hws))
        clear hb7 C6
        go_wp2
        go_roundw
        case rel => exact ⟨1, by omega, by go_num, HX⟩
        case measure => simp [intOf]
      · have ck : wr.cell? ⟨w4.heap.size, 1, none⟩ = some (.int .u8 4) := by rw [hbel.out.cell (by simp)]; simp
        have hz2 := own_zero wr
        go_wp2_with (at_builtin; refine wpList_append_ts rfl (.tmp 66) (.tmp 67) rfl wr.heap.size (.slice (some ⟨wr.heap.size, 0, none⟩) 0 0) 0 [] rfl hz2 p4 n4 c4 (a ++ b) rfl (TR.out.on (one_below _ _)) (by omega) (by simp) ?_)
        intro v5 w5 hown5 hgrow5
        have b5 := Lib.hid (below_zero hgrow5)
        obtain ⟨p5, c5, rfl, ho5, _⟩ := own_in (xs := flatT (a ++ b)) rfl (n := n4) (by rw [List.length_append, hla.out, hlb.out, HN4.out]) (by simpa using hown5)
        have O5 := Lib.hid ho5
        have b5s := b5.out.size
        clear hz2 hown5 hgrow5 ho5
        go_wp2_with (at_builtin; refine wpList_append_ts rfl (.tmp 68) (.tmp 71) rfl wr.heap.size (.slice p5 n4 c5) n4 (flatT (a ++ b)) rfl (O5.out.alloc _) (some ⟨w5.heap.size, 0, none⟩) 1 1 [⟨4, 0, 0⟩] rfl (ts_unit w5 ⟨4, 0, 0⟩) (by omega) (by simp; omega) ?_)
        intro v6 w6 hown6 hgrow6
        have b6 := Lib.hid ((b5.out.alloc b5s (.cells #[.int .u8 4, .int .i64 0, .int .i64 0] 39)).grown hgrow6 (by simp; omega) (fun k hk => (O5.out.lt k hk).1))
        obtain ⟨p6, c6, rfl, _, ht6⟩ := own_in (ts := a ++ b ++ [⟨4, 0, 0⟩]) (n := n4 + 1) (by rw [flatT_append (a ++ b)]) (by rw [List.length_append, List.length_append, hla.out, hlb.out, HN4.out]; rfl) hown6
        have C6 := Lib.hid (eval_at w6 p6 (n4 + 1) c6 _ q lv cv vs ht6 (VR.out.on b6.out) (by omega) (by omega))
        unfold EvalE at C6
        rw [K4.out] at C6
        clear hown6 hgrow6 ht6 b5s
        go_wp2_with fail
        (with_reducible refine C6.out.mono ?_)
        rintro e w7 ⟨rfl, hb7⟩
        have HX := Lib.hid (hbel.out.trans ((b6.out.trans (hb7.mono b6.out.size)).mono hws))
        clear hb7 C6
        go_wp2
        go_roundw
        case rel => exact ⟨2, by omega, by go_num, HX⟩
        case measure => simp [intOf]
      · have ck : wr.cell? ⟨w4.heap.size, 2, none⟩ = some (.int .u8 5) := by rw [hbel.out.cell (by simp)]; simp
        have hz2 := own_zero wr
        go_wp2_with (at_builtin; refine wpList_append_ts rfl (.tmp 66) (.tmp 67) rfl wr.heap.size (.slice (some ⟨wr.heap.size, 0, none⟩) 0 0) 0 [] rfl hz2 p4 n4 c4 (a ++ b) rfl (TR.out.on (one_below _ _)) (by omega) (by simp) ?_)
        intro v5 w5 hown5 hgrow5
        have b5 := Lib.hid (below_zero hgrow5)
        obtain ⟨p5, c5, rfl, ho5, _⟩ := own_in (xs := flatT (a ++ b)) rfl (n := n4) (by rw [List.length_append, hla.out, hlb.out, HN4.out]) (by simpa using hown5)
        have O5 := Lib.hid ho5
        have b5s := b5.out.size
        clear hz2 hown5 hgrow5 ho5
        go_wp2_with (at_builtin; refine wpList_append_ts rfl (.tmp 68) (.tmp 71) rfl wr.heap.size (.slice p5 n4 c5) n4 (flatT (a ++ b)) rfl (O5.out.alloc _) (some ⟨w5.heap.size, 0, none⟩) 1 1 [⟨5, 0, 0⟩] rfl (ts_unit w5 ⟨5, 0, 0⟩) (by omega) (by simp; omega) ?_)
        intro v6 w6 hown6 hgrow6
        have b6 := Lib.hid ((b5.out.alloc b5s (.cells #[.int .u8 5, .int .i64 0, .int .i64 0] 39)).grown hgrow6 (by simp; omega) (fun k hk => (O5.out.lt k hk).1))
        obtain ⟨p6, c6, rfl, _, ht6⟩ := own_in (ts := a ++ b ++ [⟨5, 0, 0⟩]) (n := n4 + 1) (by rw [flatT_append (a ++ b)]) (by rw [List.length_append, List.length_append, hla.out, hlb.out, HN4.out]; rfl) hown6
        have C6 := Lib.hid (eval_at w6 p6 (n4 + 1) c6 _ q lv cv vs ht6 (VR.out.on b6.out) (by omega) (by omega))
        unfold EvalE at C6
        rw [K5.out] at C6
        clear hown6 hgrow6 ht6 b5s
        go_wp2_with fail
        (with_reducible refine C6.out.mono ?_)
        rintro e w7 ⟨rfl, hb7⟩
        have HX := Lib.hid (hbel.out.trans ((b6.out.trans (hb7.mono b6.out.size)).mono hws))
        clear hb7 C6
        go_wp2
        go_roundw
        case rel => exact ⟨3, by omega, by go_num, HX⟩
        case measure => simp [intOf]
    · obtain rfl : j = 3 := by omega
      have hz2 := own_zero wr
      have HA2 := Lib.hid (TA2.out.on ((b4.out).trans (HW.out.mono b4.out.size)))
      have hwz : w2.heap.size ≤ wr.heap.size := Nat.le_trans b4.out.size HW.out.size
      go_wp2_with (at_builtin; refine wpList_append_ts rfl (.tmp 99) (.tmp 100) rfl wr.heap.size (.slice (some ⟨wr.heap.size, 0, none⟩) 0 0) 0 [] rfl hz2 p len c a rfl (HA2.out.on (one_below _ _)) (by omega) (by simp) ?_)
      intro v5 w5 hown5 hgrow5
      have b5 := Lib.hid (below_zero hgrow5)
      obtain ⟨p5, c5, rfl, ho5, _⟩ := own_in (xs := flatT a) rfl hla.out (by simpa using hown5)
      have O5 := Lib.hid ho5
      have b5s := b5.out.size
      clear hz2 hown5 hgrow5 ho5
      go_wp2_with (at_builtin; refine wpList_append_ts rfl (.tmp 101) (.tmp 103) rfl wr.heap.size (.slice p5 len c5) len (flatT a) rfl (O5.out.alloc _) (some ⟨w5.heap.size, 0, none⟩) 1 1 [⟨6, 0, 0⟩] rfl (ts_unit w5 ⟨6, 0, 0⟩) (by omega) (by simp; omega) ?_)
      intro v6 w6 hown6 hgrow6
      have b6 := Lib.hid ((b5.out.alloc b5s (.cells #[.int .u8 6, .int .i64 0, .int .i64 0] 39)).grown hgrow6 (by simp; omega) (fun k hk => (O5.out.lt k hk).1))
      obtain ⟨p6, c6, rfl, _, ht6⟩ := own_in (ts := a ++ [⟨6, 0, 0⟩]) (n := len + 1) (by rw [flatT_append a]) (by rw [List.length_append, hla.out]; rfl) hown6
      have C6 := Lib.hid (eval_at w6 p6 (len + 1) c6 _ q lv cv vs ht6 (VR.out.on b6.out) (by omega) (by omega))
      unfold EvalE at C6
      rw [K6.out] at C6
      clear hown6 hgrow6 ht6 b5s
      go_wp2_with fail
      (with_reducible refine C6.out.mono ?_)
      rintro e w7 ⟨rfl, hb7⟩
      have b7 := Lib.hid (b6.out.trans (hb7.mono b6.out.size))
      have C7 := Lib.hid (eval_at w7 p4 n4 c4 _ q lv cv vs (TR.out.on b7.out) (VR.out.on b7.out) (by omega) (by omega))
      unfold EvalE at C7
      rw [E2.out] at C7
      clear hb7 C6
      go_wp2_with fail
      (with_reducible refine C7.out.mono ?_)
      rintro e w8 ⟨rfl, hb8⟩
      have b8 := Lib.hid (b7.out.trans (hb8.mono b7.out.size))
      have WK := Lib.hid (works w8)
      clear hb8 C7
      go_wp2_with fail
      (with_reducible refine WK.out.mono ?_)
      rintro e w9 ⟨rfl, hb9⟩
      have B9 := Lib.hid (B4.out.trans ((HW.out.trans ((b8.out.trans (hb9.mono b8.out.size)).mono HW.out.size)).mono B4.out.size))
      clear hb9 WK
      go_wp2
      go_ret
      exact ⟨rfl, B9.out⟩
/-- The law. -/
theorem codeSums (w : World) (p p2 q : Option Addr) (len c len2 c2 lv cv : Nat) (a b : List Tm) (vs : List Int) (ha : TsIn w p len c a) (hb : TsIn w p2 len2 c2 b) (hv : VsIn w q lv cv vs) :
    Calls Try.prog 4 #[.slice p len c, .slice p2 len2 c2, .slice q lv cv] w fun e w' => e = .returned (.bool true) ∧ Below w.heap.size w w' := by
  by_cases h : 100 < len ∨ 100 < len2 ∨ 100 < lv
  · exact sums_big w p p2 q len c len2 c2 lv cv h
  · have l1 : len ≤ 100 := by omega
    have l2 : len2 ≤ 100 := by omega
    have l3 : lv ≤ 100 := by omega
    cases hA : evalP a vs with
    | none => exact sums_not w p p2 q len c len2 c2 lv cv a b vs ha hb hv l1 l2 l3 (Or.inl hA)
    | some x =>
      cases hB : evalP b vs with
      | none => exact sums_not w p p2 q len c len2 c2 lv cv a b vs ha hb hv l1 l2 l3 (Or.inr hB)
      | some y => exact sums_yes w p p2 q len c len2 c2 lv cv a b vs x y ha hb hv l1 l2 l3 hA hB
end Go.Proofs.Ytgmkmpldlndboaa.Cd
