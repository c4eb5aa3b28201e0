import Derived.Test.YtgmkmpldlndboaaCodeC
namespace Go.Proofs.Ytgmkmpldlndboaa.Cd
open Go.RowKit
/-- What Eval tells. -/
def evalV (ts : List Tm) (vs : List Int) : Value := match evalP ts vs with
  | some x => .tuple #[.int .i64 x, .bool true]
  | none => .tuple #[.int .i64 0, .bool false]
def EvalE (ts : List Tm) (vs : List Int) (w : World) (e : Ending) (w' : World) : Prop := e = .returned (evalV ts vs) ∧ Below w.heap.size w w'
/-- The pile ahead of a round. -/
structure EvI (W1 : World) (ts : List Tm) (vs : List Int) (j : Nat) (W : World) : Prop where
  pile : ∃ v, Pile W1.heap.size W1.heap.size W (runP vs (ts.take j) []) v
  rest : high vs.length (ts.drop j) (runP vs (ts.take j) []).length = some 1
  few : (runP vs (ts.take j) []).length ≤ j
  below : Below W1.heap.size W1 W
theorem EvI.next {W1 W W' : World} {ts : List Tm} {vs : List Int} {j : Nat} (h : EvI W1 ts vs j W) (hj : j < ts.length) (hp : ∃ v, Pile W1.heap.size W1.heap.size W' (stepP vs (ts.getD j default) (runP vs (ts.take j) [])) v) (hb : Below W1.heap.size W W') : EvI W1 ts vs (j + 1) W' := by
  obtain ⟨m, hm, hr⟩ : ∃ m, okT vs.length (runP vs (ts.take j) []).length (ts.getD j default) = some m ∧ high vs.length (ts.drop (j + 1)) m = some 1 := by
    have h1 := h.rest
    rw [high_drop _ _ _ _ hj] at h1
    cases ho : okT vs.length (runP vs (ts.take j) []).length (ts.getD j default) with
    | none => rw [ho] at h1; cases h1
    | some m => rw [ho] at h1; exact ⟨m, rfl, h1⟩
  obtain ⟨h2, _⟩ := step_ok vs hm []
  have hle : m ≤ (runP vs (ts.take j) []).length + 1 := by
    have := high_end (nv := vs.length) (ts := [ts.getD j default]) (h := (runP vs (ts.take j) []).length) (h' := m) (by simp only [high, hm]; rfl)
    simpa using this
  have hf := h.few
  exact ⟨by rw [run_take vs ts j hj]; exact hp, by rw [run_take vs ts j hj, h2]; exact hr, by rw [run_take vs ts j hj, h2]; omega, h.below.trans hb⟩
theorem EvI.ok {W1 W : World} {ts : List Tm} {vs : List Int} {j : Nat} (h : EvI W1 ts vs j W) (hj : j < ts.length) : ∃ m, okT vs.length (runP vs (ts.take j) []).length (ts.getD j default) = some m := by
  have h1 := h.rest
  rw [high_drop _ _ _ _ hj] at h1
  cases ho : okT vs.length (runP vs (ts.take j) []).length (ts.getD j default) with
  | none => rw [ho] at h1; cases h1
  | some m => exact ⟨m, rfl⟩
set_option maxHeartbeats 4000000 in
set_option maxRecDepth 1000000 in
theorem eval_at (w : World) (p : Option Addr) (len c : Nat) (ts : List Tm) (q : Option Addr) (lv cv : Nat) (vs : List Int) (h : TsIn w p len c ts) (hV : VsIn w q lv cv vs) (hb : len ≤ 80000) (hbv : lv ≤ 80000) :
    Calls Try.prog 12 #[.slice p len c, .slice q lv cv] w (EvalE ts vs w) := by
  have H := Lib.hid h
  have HV := Lib.hid hV
  have hlen := Lib.hid h.len_eq
  have hvl := Lib.hid hV.len_eq
  have HR := Lib.hid (isReckoning_at w p len c ts lv h (by omega))
  clear h hV
  unfold EvalE
  cases hE : evalP ts vs with
  | none =>
    have hv : Hid (evalV ts vs = .tuple #[.int .i64 0, .bool false]) := Lib.hid (by unfold evalV; rw [hE])
    have hn : Hid ((high lv ts 0 == some 1) = false) := Lib.hid (by have := eval_none hE; rw [hvl.out] at this; simpa using this)
    rw [hv.out]
    clear hE
    go_enter Try.func12, Try.ntmps12
    go_wp2_with fail
    (with_reducible refine HR.out.mono ?_)
    rw [hn.out]
    rintro e w1 ⟨rfl, hb1⟩
    go_wp2
    go_ret2
    exact ⟨rfl, hb1⟩
  | some x =>
    have hv : Hid (evalV ts vs = .tuple #[.int .i64 x, .bool true]) := Lib.hid (by unfold evalV; rw [hE])
    have hy : Hid (high lv ts 0 = some 1 ∧ runP vs ts [] = [x]) := Lib.hid (by have := eval_some hE; rw [hvl.out] at this; exact this)
    rw [hv.out]
    clear hE
    go_enter Try.func12, Try.ntmps12
    go_wp2_with fail
    (with_reducible refine HR.out.mono ?_)
    rw [hy.out.1]
    rintro e w1 ⟨rfl, hb1⟩
    have B1 := Lib.hid hb1
    have E0 : Hid (EvI w1 ts vs 0 (w1.alloc (.cells #[.slice none 0 0] 61))) := Lib.hid ⟨⟨_, Boxed.new _ _ _, World.ownsRow_nil _ _ _ _, Nat.le_refl _⟩, by rw [hvl.out]; simpa [runP] using hy.out.1, by simp [runP], one_below _ _⟩
    clear hb1 HR
    go_wp2_with fail
    go_loopw [16] (fun av wr => ∃ j : Nat, j ≤ len ∧ av = .int .i64 j ∧ Hid (EvI w1 ts vs j wr)) (fun av _ => len - (intOf av).toNat)
    case atStart => exact ⟨0, Nat.zero_le _, rfl, E0⟩
    case round =>
      obtain ⟨j, hj, rfl, HI⟩ := hrel
      by_cases hjl : j < len
      · have hjt : j < ts.length := by rw [hlen.out]; exact hjl
        have HB := Lib.hid (B1.out.trans (HI.out.below.mono B1.out.size))
        obtain ⟨b, off, rfl, hbl, hc⟩ := (H.out.onB (Nat.le_refl _) HB.out).cell (by omega)
        obtain ⟨ck, cn, cw⟩ := hc j hjl
        obtain ⟨m, hm⟩ := HI.out.ok hjt
        obtain ⟨pv, hpv⟩ := HI.out.pile
        have NX := Lib.hid (fun W' hp hb => HI.out.next (W' := W') hjt hp hb)
        clear hc
        generalize ts.getD j default = t at *
        obtain ⟨k, n, v⟩ := t
        simp only at ck cn cw
        have hw1 := HI.out.below.size
        have hfw := HI.out.few
        have HD := Lib.hid (do_at (wr.alloc (.cells #[.int .u8 k, .int .i64 n, .int .i64 v] 39)) w1.heap.size w1.heap.size _ pv k n v q lv cv vs ((HV.out.onB (Nat.le_refl _) HB.out).on (one_below _ _)) (hpv.on (one_below _ _)) m hm (by omega) (by simp; omega) (by omega))
        unfold PutE at HD
        clear hm hpv hfw
        go_wp2_with fail
        (with_reducible refine HD.out.mono ?_)
        rintro e w2 ⟨rfl, hp2, hb2⟩
        have HN := Lib.hid (NX.out w2 hp2 (((Below.refl _ wr).alloc hw1 _).trans hb2))
        clear hp2 hb2 HD
        go_wp2
        go_roundw
        case rel => exact ⟨j + 1, by omega, by go_num, HN⟩
        case measure => simp [intOf]; omega
      · obtain rfl : j = len := by omega
        obtain ⟨pv, hpv⟩ := HI.out.pile
        have HB := Lib.hid (HI.out.below)
        rw [List.take_of_length_le (by rw [hlen.out]; exact Nat.le_refl _), hy.out.2] at hpv
        have HT := Lib.hid (take_at wr w1.heap.size w1.heap.size [] pv x hpv (by simp))
        clear hpv
        go_wp2_with fail
        (with_reducible refine HT.out.mono ?_)
        rintro e w2 ⟨rfl, _, hb2⟩
        go_wp2
        go_ret2
        exact ⟨rfl, B1.out.trans ((HB.out.trans hb2).mono B1.out.size)⟩
end Go.Proofs.Ytgmkmpldlndboaa.Cd
