import Derived.Test.YtgmkmpldlndboaaCodeA
namespace Go.Proofs.Ytgmkmpldlndboaa.Cd
open Go.RowKit
theorem takes_at (w : World) (k : Int) :
    Calls Try.prog 34 #[.int .u8 k] w fun e w' => e = .returned (match takesP k with | some c => .tuple #[.int .i64 c, .bool true] | none => .tuple #[.int .i64 0, .bool false]) ∧ w' = w := by
  cases hk : takesP k with
  | none =>
    obtain ⟨h1, h2, h3, h4, h5, h6⟩ := takes_none hk
    clear hk
    have e1 : (k == 1) = false := by simpa using h1
    have e2 : (k == 2) = false := by simpa using h2
    have e3 : (k == 3) = false := by simpa using h3
    have e4 : (k == 4) = false := by simpa using h4
    have e5 : (k == 5) = false := by simpa using h5
    have e6 : (k == 6) = false := by simpa using h6
    go_enter Try.func34, Try.ntmps34
    go_wp2
    go_ret2
    exact ⟨rfl, rfl⟩
  | some c =>
    rcases takes_cases hk with ⟨rfl, h⟩ | ⟨rfl, h⟩ | ⟨rfl, h⟩
    · rcases h with rfl | rfl | rfl
      all_goals
        go_enter Try.func34, Try.ntmps34
        go_wp2
        go_ret2
        exact ⟨rfl, rfl⟩
    · subst h
      go_enter Try.func34, Try.ntmps34
      go_wp2
      go_ret2
      exact ⟨rfl, rfl⟩
    · rcases h with rfl | rfl
      all_goals
        go_enter Try.func34, Try.ntmps34
        go_wp2
        go_ret2
        exact ⟨rfl, rfl⟩
set_option maxHeartbeats 4000000 in
theorem isOf_at (w : World) (i n : Int) :
    Calls Try.prog 35 #[.int .i64 i, .int .i64 n] w fun e w' => e = .returned (.bool (decide (0 ≤ i) && decide (i < n))) ∧ w' = w := by
  by_cases h0 : 0 ≤ i
  · have e0 : decide (0 ≤ i) = true := by simpa using h0
    rw [e0]
    go_enter Try.func35, Try.ntmps35
    go_wp2
    all_goals go_ret
    all_goals exact ⟨by simp_all, rfl⟩
  · have e0 : decide (0 ≤ i) = false := by simpa using h0
    rw [e0]
    go_enter Try.func35, Try.ntmps35
    go_wp2
    all_goals go_ret
    all_goals exact ⟨by simp_all, rfl⟩
/-- Terms that lie in a row. -/
structure TC (W : World) (b o : Nat) (t : Tm) : Prop where
  k : W.cell? ⟨b, o, none⟩ = some (.int .u8 t.k)
  n : W.cell? ⟨b, o + 1, none⟩ = some (.int .i64 t.n)
  v : W.cell? ⟨b, o + 2, none⟩ = some (.int .i64 t.v)
structure TsIn (W : World) (p : Option Addr) (len c : Nat) (ts : List Tm) : Prop where
  len_eq : ts.length = len
  cap : len ≤ c
  nil : p = none → c = 0
  cell : 0 < len → ∃ b off, p = some ⟨b, off, none⟩ ∧ b < W.heap.size ∧ ∀ i, i < len → TC W b (off + i * 3) (ts.getD i default)
structure VsIn (W : World) (p : Option Addr) (len c : Nat) (xs : List Int) : Prop where
  len_eq : xs.length = len
  cap : len ≤ c
  cell : 0 < len → ∃ b off, p = some ⟨b, off, none⟩ ∧ b < W.heap.size ∧ ∀ i, i < len → W.cell? ⟨b, off + i, none⟩ = some (.int .i64 (xs.getD i 0))
theorem TC.on {W W' : World} {b o : Nat} {t : Tm} (h : TC W b o t) {B : Nat} (hlt : b < B) (hb : Below B W W') : TC W' b o t where
  k := by rw [hb.cell (p := ⟨b, o, none⟩) hlt]; exact h.k
  n := by rw [hb.cell (p := ⟨b, o + 1, none⟩) hlt]; exact h.n
  v := by rw [hb.cell (p := ⟨b, o + 2, none⟩) hlt]; exact h.v
theorem TsIn.onB {W W' : World} {p : Option Addr} {len c : Nat} {ts : List Tm} (h : TsIn W p len c ts) {B : Nat} (hB : W.heap.size ≤ B) (hb : Below B W W') : TsIn W' p len c ts where
  len_eq := h.len_eq
  cap := h.cap
  nil := h.nil
  cell := fun hl => by
    obtain ⟨b, off, e, hlt, hc⟩ := h.cell hl
    exact ⟨b, off, e, Nat.lt_of_lt_of_le hlt hb.size, fun i hi => (hc i hi).on (Nat.lt_of_lt_of_le hlt hB) hb⟩
theorem TsIn.on {W W' : World} {p : Option Addr} {len c : Nat} {ts : List Tm} (h : TsIn W p len c ts) (hb : Below W.heap.size W W') : TsIn W' p len c ts := h.onB (Nat.le_refl _) hb
theorem VsIn.onB {W W' : World} {p : Option Addr} {len c : Nat} {xs : List Int} (h : VsIn W p len c xs) {B : Nat} (hB : W.heap.size ≤ B) (hb : Below B W W') : VsIn W' p len c xs where
  len_eq := h.len_eq
  cap := h.cap
  cell := fun hl => by
    obtain ⟨b, off, e, hlt, hc⟩ := h.cell hl
    exact ⟨b, off, e, Nat.lt_of_lt_of_le hlt hb.size, fun i hi => by rw [hb.cell (p := ⟨b, off + i, none⟩) (Nat.lt_of_lt_of_le hlt hB)]; exact hc i hi⟩
theorem VsIn.on {W W' : World} {p : Option Addr} {len c : Nat} {xs : List Int} (h : VsIn W p len c xs) (hb : Below W.heap.size W W') : VsIn W' p len c xs := h.onB (Nat.le_refl _) hb
theorem retB {a b : Bool} (h : a = b) : Ending.returned (.bool a) = .returned (.bool b) := by rw [h]
theorem high_stop {nv : Int} {ts : List Tm} {j h : Nat} (hj : j < ts.length) (ho : okT nv h (ts.getD j default) = none) : (high nv (ts.drop j) h == some 1) = false := by
  rw [high_drop nv ts j h hj, ho]; rfl
theorem high_go {nv : Int} {ts : List Tm} {j h h' : Nat} (hj : j < ts.length) (ho : okT nv h (ts.getD j default) = some h') : high nv (ts.drop j) h = high nv (ts.drop (j + 1)) h' := by
  rw [high_drop nv ts j h hj, ho]; rfl
set_option maxHeartbeats 4000000 in
set_option maxRecDepth 1000000 in
theorem isReckoning_at (w : World) (p : Option Addr) (len c : Nat) (ts : List Tm) (nv : Int) (h : TsIn w p len c ts) (hb : len ≤ 100000) :
    Calls Try.prog 22 #[.slice p len c, .int .i64 nv] w fun e w' => e = .returned (.bool (high nv ts 0 == some 1)) ∧ Below w.heap.size w w' := by
  have H := Lib.hid h
  have hlen := Lib.hid h.len_eq
  clear h
  go_enter Try.func22, Try.ntmps22
  go_wp2_with fail
  go_loopw [5, 12] (fun hv av wr => ∃ j h : Nat, j ≤ len ∧ h ≤ j ∧ hv = .int .i64 h ∧ av = .int .i64 j ∧ Hid ((high nv (ts.drop j) h == some 1) = (high nv ts 0 == some 1)) ∧ Hid (Below w.heap.size w wr)) (fun _ av _ => len - (intOf av).toNat)
  case atStart => exact ⟨0, 0, Nat.zero_le _, Nat.le_refl _, rfl, rfl, Lib.hid rfl, Lib.hid (Below.refl _ _)⟩
  case round =>
    obtain ⟨j, h, hj, hh, rfl, rfl, HB, hbel⟩ := hrel
    by_cases hjl : j < len
    · have hjt : j < ts.length := by rw [hlen.out]; exact hjl
      obtain ⟨b, off, rfl, hbl, hc⟩ := (H.out.onB (Nat.le_refl _) hbel.out).cell (by omega)
      obtain ⟨ck, cn, cv⟩ := hc j hjl
      clear hc
      generalize ht : ts.getD j default = t at *
      have HT := Lib.hid ht
      obtain ⟨k, n, v⟩ := t
      simp only at ck cn cv
      clear ht
      have HTk := Lib.hid (takes_at (wr.alloc (.cells #[.int .u8 k, .int .i64 n, .int .i64 v] 39)) k)
      have HF := Lib.hid (hbel.out.trans ((one_below wr (.cells #[.int .u8 k, .int .i64 n, .int .i64 v] 39)).mono hbel.out.size))
      go_wp2_with fail
      (with_reducible refine HTk.out.mono ?_)
      rintro e w' ⟨rfl, rfl⟩
      clear HTk
      cases hk : takesP k with
      | none =>
        have hs : okT nv h ⟨k, n, v⟩ = none := by unfold okT; rw [hk]
        have HS := Lib.hid (high_stop hjt (by rw [HT.out]; exact hs))
        clear hk hs
        go_wp2
        go_ret
        exact ⟨retB (by rw [← HB.out, HS.out]), HF.out⟩
      | some q =>
        by_cases hq : q ≤ h
        · by_cases h2 : k = 2
          · subst h2
            obtain rfl : q = 0 := by rcases takes_cases hk with ⟨_, h⟩ | ⟨_, h⟩ | ⟨h, _⟩ <;> omega
            by_cases hv : 0 ≤ v ∧ v < nv
            · have hs : okT nv h ⟨2, n, v⟩ = some (h + 1) := by unfold okT; simp only [hk]; rw [if_pos ⟨hq, fun _ => hv⟩]; rfl
              have HS := Lib.hid (high_go hjt (by rw [HT.out]; exact hs))
              have e1 : decide (0 ≤ v) = true := by simpa using hv.1
              have e2 : decide (v < nv) = true := by simpa using hv.2
              have HI := Lib.hid (isOf_at (wr.alloc (.cells #[.int .u8 2, .int .i64 n, .int .i64 v] 39)) v nv)
              rw [e1, e2] at HI
              clear hk hs hv e1 e2
              go_wp2_with ((with_reducible refine HI.out.mono ?_); rintro e w' ⟨rfl, rfl⟩)
              go_roundw
              case rel => exact ⟨j + 1, h + 1, by omega, by omega, by go_num, by go_num, Lib.hid (by rw [← HB.out, HS.out]), HF⟩
              case measure => simp [intOf]; omega
            · have hs : okT nv h ⟨2, n, v⟩ = none := by unfold okT; simp only [hk]; rw [if_neg (fun h => hv (h.2 (by simp)))]
              have HS := Lib.hid (high_stop hjt (by rw [HT.out]; exact hs))
              have e1 : (decide (0 ≤ v) && decide (v < nv)) = false := by rw [Bool.and_eq_false_iff]; simp; omega
              have HI := Lib.hid (isOf_at (wr.alloc (.cells #[.int .u8 2, .int .i64 n, .int .i64 v] 39)) v nv)
              rw [e1] at HI
              clear hk hs hv e1
              go_wp2_with ((with_reducible refine HI.out.mono ?_); rintro e w' ⟨rfl, rfl⟩)
              go_ret
              exact ⟨retB (by rw [← HB.out, HS.out]), HF.out⟩
          · have hs : okT nv h ⟨k, n, v⟩ = some (h + 1 - q) := by unfold okT; simp only [hk]; rw [if_pos ⟨hq, fun e => absurd e h2⟩]
            have HS := Lib.hid (high_go hjt (by rw [HT.out]; exact hs))
            have e2 : (k == 2) = false := by simpa using h2
            have hq2 : q ≤ 2 := by rcases takes_cases hk with ⟨h, _⟩ | ⟨h, _⟩ | ⟨h, _⟩ <;> omega
            clear hk hs h2
            go_wp2
            go_roundw
            case rel => exact ⟨j + 1, h + 1 - q, by omega, by omega, by go_num, by go_num, Lib.hid (by rw [← HB.out, HS.out]), HF⟩
            case measure => simp [intOf]; omega
        · have hs : okT nv h ⟨k, n, v⟩ = none := by unfold okT; simp only [hk]; rw [if_neg (fun h => hq h.1)]
          have HS := Lib.hid (high_stop hjt (by rw [HT.out]; exact hs))
          have hql : h < q := by omega
          clear hk hs hq
          go_wp2
          go_ret
          exact ⟨retB (by rw [← HB.out, HS.out]), HF.out⟩
    · obtain rfl : j = len := by omega
      have HS : Hid ((high nv ts 0 == some 1) = ((h : Int) == 1)) := Lib.hid (by rw [← HB.out, List.drop_eq_nil_of_le (by rw [hlen.out]; exact Nat.le_refl _), Bool.eq_iff_iff]; simp [high]; omega)
      go_wp2
      go_ret
      exact ⟨by rw [HS.out]; rfl, hbel.out⟩
end Go.Proofs.Ytgmkmpldlndboaa.Cd
