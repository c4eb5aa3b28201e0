import Derived.Test.YtabbodbnjegllaaDoorLexX
import Derived.Deep.RegionHeld3
namespace Go.Proofs.YtabbodbnjegllaaDoor
open Go.RowKit
set_option maxHeartbeats 4000000 in
set_option maxRecDepth 1000000 in
theorem place_nil (w : World) :
    Calls Tryd.prog 16 #[.nilIface] w fun e w' => e = .returned (.tuple #[.int .i64 0, .int .i64 0, .int .i64 0, .bool false]) ∧ Below w.heap.size w w' := by
  have hmf : ∀ (fn : Fn) (first cap : Array Value) (w : World), (Instr.makeFunc fn first cap).run Tryd.prog w = .ok (.func fn first cap) w := fun _ _ _ _ => rfl
  have HA : ∀ (v : Value) (W : World), Calls Tryd.prog 30 #[.nilIface, v] W fun e w' => e = .returned (.bool false) ∧ W = w' := fun v W => by
    go_enter Tryd.func30, Tryd.ntmps30
    go_wp2
    go_ret
    exact ⟨rfl, rfl⟩
  have H := Lib.hid HA
  clear HA
  go_enter_defers Tryd.func16, Tryd.ntmps16
  go_wp2_with (go_at_call 30; (with_reducible refine (H.out _ _).mono ?_); rintro e' w' ⟨rfl, rfl⟩)
  refine leaves_cons (f := 31) (args := #[.pointer (some ⟨w.heap.size, 0, none⟩), .pointer (some ⟨w.heap.size + 1, 0, none⟩), .pointer (some ⟨w.heap.size + 1 + 1, 0, none⟩), .pointer (some ⟨w.heap.size + 1 + 1 + 1, 0, none⟩)]) (by simp) (by simp [go_sem]) ?_
  refine (placeDone _ _ _ _ _).mono ?_
  rintro e u' w'' ⟨rfl, rfl, rfl⟩
  simp [Leaves, settle, results, Tryd.results16, go_sem]
  exact (((((Below.refl _ _).alloc (Nat.le_refl _) _).alloc (by simp) _).alloc (by simp; omega) _).alloc (by simp; omega) _).alloc (by simp; omega) _
set_option maxHeartbeats 1000000 in
theorem sameBytes_at (w : World) (p p2 : Option Addr) (n c c2 : Nat) (xs : List Int) (h1 : Src w p n c xs) (h2 : Src w p2 n c2 xs) :
    Calls Tryd.prog 15 #[.slice p n c, .slice p2 n c2] w fun e w' => e = .returned (.bool true) ∧ w = w' := by
  have e1 := src_conv h1
  have e2 := src_conv h2
  generalize strOfNums xs = s at *
  clear h1 h2
  go_enter Tryd.func15, Tryd.ntmps15
  go_wp2
  go_ret
  exact ⟨rfl, rfl⟩
theorem same_nil (w : World) : Calls Tryd.prog 13 #[.slice none 0 0, .slice none 0 0] w fun e w' => e = .returned (.bool true) ∧ Below w.heap.size w w' := by
  go_enter Tryd.func13, Tryd.ntmps13
  go_wp2
  refine wp_loop_rounds 1 ?_
  rw [rounds_succ]
  go_wp2
  go_ret
  exact ⟨rfl, Below.refl _ _⟩
theorem plain_nil (w : World) : Calls Tryd.prog 14 #[.slice none 0 0] w fun e w' => e = .returned (.slice none 0 0) ∧ Below w.heap.size w w' := by
  go_enter Tryd.func14, Tryd.ntmps14
  go_wp2
  refine wp_loop_rounds 1 ?_
  rw [rounds_succ]
  go_wp2
  go_ret
  exact ⟨rfl, Below.refl _ _⟩
set_option maxHeartbeats 4000000 in
set_option maxRecDepth 1000000 in
theorem same_at (W : World) (g1 c1 g2 c2 n : Nat) (ts : List Tok) (h1 : TR W g1 c1 ts) (h2 : TR W g2 c2 ts) (ha : ts.length = n) (hn : n ≤ 70000) :
    Calls Tryd.prog 13 #[.slice (some ⟨g1, 0, none⟩) n c1, .slice (some ⟨g2, 0, none⟩) n c2] W fun e w' => e = .returned (.bool true) ∧ Below W.heap.size W w' := by
  have q1 := h1.le
  have q2 := h2.le
  rw [ha] at q1 q2
  have H1 := Lib.hid h1
  have H2 := Lib.hid h2
  have HA := Lib.hid ha
  clear h1 h2 ha
  go_enter Tryd.func13, Tryd.ntmps13
  go_wp2_with fail
  go_loopw [5] (fun iv wr => ∃ k : Nat, k ≤ n ∧ iv = .int .i64 k ∧ Hid (Below W.heap.size W wr)) (fun iv _ => n - (intOf iv).toNat)
  case atStart => exact ⟨0, by omega, rfl, Lib.hid (Below.refl _ _)⟩
  case round =>
    obtain ⟨k, hk, rfl, HB⟩ := hrel
    by_cases hlt : k < n
    · obtain ⟨t, ht⟩ : ∃ t, ts[k]? = some t := ⟨ts[k]'(by have := HA.out; omega), List.getElem?_eq_getElem _⟩
      have T1 := H1.out.on HB.out
      have T2 := H2.out.on HB.out
      have k0 := T1.cell (k * 5 + 0) (.int .u8 t.kind) (by rw [tok_cell ts k 0 t ht (by omega)]; rfl)
      have k1 := T1.cell (k * 5 + 1) (.int .i64 t.at') (by rw [tok_cell ts k 1 t ht (by omega)]; rfl)
      have k2 := T1.cell (k * 5 + 2) (.int .i64 t.stop) (by rw [tok_cell ts k 2 t ht (by omega)]; rfl)
      have k3 := T1.cell (k * 5 + 3) (.string (strOfNums t.text)) (by rw [tok_cell ts k 3 t ht (by omega)]; rfl)
      have k4 := T1.cell (k * 5 + 4) (.int .i64 t.n) (by rw [tok_cell ts k 4 t ht (by omega)]; rfl)
      have u0 := T2.cell (k * 5 + 0) (.int .u8 t.kind) (by rw [tok_cell ts k 0 t ht (by omega)]; rfl)
      have u1 := T2.cell (k * 5 + 1) (.int .i64 t.at') (by rw [tok_cell ts k 1 t ht (by omega)]; rfl)
      have u2 := T2.cell (k * 5 + 2) (.int .i64 t.stop) (by rw [tok_cell ts k 2 t ht (by omega)]; rfl)
      have u3 := T2.cell (k * 5 + 3) (.string (strOfNums t.text)) (by rw [tok_cell ts k 3 t ht (by omega)]; rfl)
      have u4 := T2.cell (k * 5 + 4) (.int .i64 t.n) (by rw [tok_cell ts k 4 t ht (by omega)]; rfl)
      rw [Nat.add_zero] at k0 u0
      generalize t.kind = kd at *
      generalize t.at' = at' at *
      generalize t.stop = st at *
      generalize strOfNums t.text = tx at *
      generalize t.n = tn at *
      clear T1 T2 ht
      have hk0 : (0 : Int) ≤ (k : Int) := by omega
      have hk1 : (k : Int) < (n : Int) := by omega
      go_wp2_with fail
      go_quiet (fail)
      have HB2 := Lib.hid (HB.out.trans (drewN_below _ wr nq))
      clear k0 k1 k2 k3 k4 u0 u1 u2 u3 u4
      go_wp2
      go_roundw
      case rel => exact ⟨k + 1, by omega, by go_num, HB2⟩
      case measure => simp [intOf]; omega
    · go_wp2
      go_ret
      exact ⟨rfl, HB.out⟩
set_option maxHeartbeats 4000000 in
set_option maxRecDepth 1000000 in
theorem plain_at (w : World) (g cap n : Nat) (ts : List Tok) (h : TR w g cap ts) (ha : ts.length = n) (hn : n ≤ 70000) (hp : 0 < n) :
    Calls Tryd.prog 14 #[.slice (some ⟨g, 0, none⟩) n cap] w fun e w' => (∃ g2 cap2, e = .returned (.slice (some ⟨g2, 0, none⟩) n cap2) ∧ TR w' g2 cap2 ts) ∧ Below w.heap.size w w' := by
  have q1 := h.le
  rw [ha] at q1
  have hgl := h.lt
  have H1 := Lib.hid h
  have HA := Lib.hid ha
  obtain ⟨i0, hi, hz0, hz1, hz2⟩ := info_parts info54
  have I0 := Lib.hid hi
  have I1 := Lib.hid hz0
  have I2 := Lib.hid hz1
  have I3 := Lib.hid hz2
  have HI0 : Hid (RefInv w (.slice none 0 0) [] w) := Lib.hid ⟨Below.refl _ _, World.ownsRow_nil _ _ _ _⟩
  clear h ha hi hz0 hz1 hz2
  go_enter Tryd.func14, Tryd.ntmps14
  go_wp2_with fail
  go_loopw [3, 4] (fun v iv wr => ∃ k : Nat, k ≤ n ∧ iv = .int .i64 k ∧ Hid (RefInv w v (ts.take k) wr)) (fun _ iv _ => n - (intOf iv).toNat)
  case atStart => exact ⟨0, by omega, rfl, HI0⟩
  case round =>
    obtain ⟨k, hk, rfl, HV⟩ := hrel
    by_cases hlt : k < n
    · obtain ⟨t, ht⟩ : ∃ t, ts[k]? = some t := ⟨ts[k]'(by have := HA.out; omega), List.getElem?_eq_getElem _⟩
      have T1 := H1.out.on HV.out.below
      have k0 := T1.cell (k * 5 + 0) (.int .u8 t.kind) (by rw [tok_cell ts k 0 t ht (by omega)]; rfl)
      have k1 := T1.cell (k * 5 + 1) (.int .i64 t.at') (by rw [tok_cell ts k 1 t ht (by omega)]; rfl)
      have k2 := T1.cell (k * 5 + 2) (.int .i64 t.stop) (by rw [tok_cell ts k 2 t ht (by omega)]; rfl)
      have k3 := T1.cell (k * 5 + 3) (.string (strOfNums t.text)) (by rw [tok_cell ts k 3 t ht (by omega)]; rfl)
      have k4 := T1.cell (k * 5 + 4) (.int .i64 t.n) (by rw [tok_cell ts k 4 t ht (by omega)]; rfl)
      rw [Nat.add_zero] at k0
      have htk : ts.take (k + 1) = ts.take k ++ [t] := by
        obtain ⟨hk', rfl⟩ := List.getElem?_eq_some_iff.1 ht
        exact List.take_succ_eq_append_getElem hk'
      have hlk : (ts.take k).length = k := by rw [List.length_take]; have := HA.out; omega
      have hTC : tokC t = [.int .u8 t.kind, .int .i64 t.at', .int .i64 t.stop, .string (strOfNums t.text), .int .i64 t.n] := rfl
      have HTK := Lib.hid htk
      have HLK := Lib.hid hlk
      have HTC := Lib.hid hTC
      generalize t.kind = kd at *
      generalize t.at' = at' at *
      generalize t.stop = st at *
      generalize strOfNums t.text = tx at *
      generalize t.n = tn at *
      have hg1 := T1.lt
      have hg1n : g ≠ wr.heap.size := by omega
      have hk0 : (0 : Int) ≤ (k : Int) := by omega
      have hk1 : (k : Int) < (n : Int) := by omega
      have ho := HV.out.own
      rw [hlk] at ho
      have hbz := HV.out.below.size
      have hob : u3.ownBlock ≠ some g := fun e => by have := (ho.lt g e).1; omega
      clear T1 ht htk hlk hTC
      go_wp2_with fail
      go_region_held3 (fun w' => w'.cell? ⟨g, k * 5, none⟩ = some (.int .u8 kd) ∧ w'.cell? ⟨g, k * 5 + 1, none⟩ = some (.int .i64 at') ∧ w'.cell? ⟨g, k * 5 + 2, none⟩ = some (.int .i64 st) ∧ w'.cell? ⟨g, k * 5 + 3, none⟩ = some (.string tx) ∧ w'.cell? ⟨g, k * 5 + 4, none⟩ = some (.int .i64 tn)) (first | go_keep | (refine ⟨?_, ?_, ?_, ?_, ?_⟩ <;> (rw [hgrow5.cell_far _ (by simp; omega) (by simp only [ne_eq]; exact fun e => hob e.symm)]; go_keep)))
        ((refine step_append_lies _ (by rfl) (.tmp 11) (.tmp 38) 29 (by rfl) w.heap.size 54 i0 _ 5 48 Tryd.underlying29 I0.out I1.out I2.out I3.out rfl (by decide) u3 k (cellsT (ts.take k)) (by rfl) (ho.drew.alloc _) ⟨wr.heap.size, 0, none⟩ 1 1 [.int .u8 kd, .int .i64 at', .int .i64 st, .string tx, .int .i64 tn] (by rfl) (by rfl) (World.news_of_block (cs := #[.int .u8 kd, .int .i64 at', .int .i64 st, .string tx, .int .i64 tn]) (t := 54) (fr := (0, 0)) (heap_alloc_new _ _)) (tok_one _ _ _ _ _) (by decide) (by unfold maxLen; omega) (by omega) (by simp; omega) _ (by rfl) ?_; intro g5 cap5 w5 hown5 hgrow5 hat5 hlt5))
      have hV5 : Hid (RefInv w (.slice (some ⟨g5, 0, none⟩) (k + 1) cap5) (ts.take (k + 1)) w5) := Lib.hid ⟨(HV.out.below.drew.alloc (by simpa using hbz) _).grown hgrow5 (by simp; omega) (fun j hj => (ho.lt j hj).1), by rw [HTK.out, List.length_append, HLK.out, cellsT_snoc, HTC.out]; exact hown5⟩
      clear hown5 hgrow5 hat5 hlt5 ho k0 k1 k2 k3 k4
      go_wp2
      go_roundw
      case rel => exact ⟨k + 1, by omega, by go_num, hV5⟩
      case measure => simp [intOf]; omega
    · have hkn : k = n := by omega
      have htk : ts.take k = ts := List.take_of_length_le (by have := HA.out; omega)
      have ho := HV.out.own
      rw [htk, HA.out] at ho
      obtain ⟨g2, cap2, rfl, _, hlt2⟩ := ho.form hp
      have hle : n ≤ cap2 := by
        rcases ho.2 with ⟨h, _⟩ | ⟨g', cap', cur, hv, _, _, hc, _⟩
        · simp at h
        · simp at hv
          omega
      have hTR : TR wr g2 cap2 ts := ⟨hlt2, by have := HA.out; omega, fun j u hj => by
        rw [ho.cellAt j (by rw [← ho.1]; exact (List.getElem?_eq_some_iff.1 hj).1)]
        exact hj⟩
      have HT := Lib.hid hTR
      clear hkn htk ho hTR
      go_wp2
      go_ret
      exact ⟨⟨g2, cap2, rfl, HT.out⟩, HV.out.below⟩
end Go.Proofs.YtabbodbnjegllaaDoor
