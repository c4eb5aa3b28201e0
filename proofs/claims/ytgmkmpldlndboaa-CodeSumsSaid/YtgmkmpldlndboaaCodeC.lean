import Derived.Test.YtgmkmpldlndboaaCodeB
namespace Go.Proofs.Ytgmkmpldlndboaa.Cd
open Go.RowKit
theorem okT_cases {nv : Int} {h h' : Nat} {k n v : Int} (hk : okT nv h ⟨k, n, v⟩ = some h') : (k = 1) ∨ (k = 2 ∧ 0 ≤ v ∧ v < nv) ∨ (k = 6 ∧ 1 ≤ h) ∨ (k = 4 ∧ 2 ≤ h) ∨ (k = 3 ∧ 2 ≤ h) ∨ (k = 5 ∧ 2 ≤ h) := by
  unfold okT at hk
  cases ht : takesP k with
  | none => simp only [ht] at hk; cases hk
  | some c =>
    simp only [ht] at hk
    split at hk
    · rename_i hc
      rcases takes_cases ht with ⟨rfl, h⟩ | ⟨rfl, h⟩ | ⟨rfl, h⟩
      · rcases h with rfl | rfl | rfl <;> simp [hc.1]
      · simp [h, hc.1]
      · rcases h with rfl | rfl
        · simp
        · have := hc.2 rfl; simp [this]
    · cases hk
theorem step_n (vs : List Int) (n v : Int) (st : List Int) : stepP vs ⟨1, n, v⟩ st = n :: st := by simp [stepP]
theorem step_v (vs : List Int) (n v : Int) (st : List Int) : stepP vs ⟨2, n, v⟩ st = vs.getD v.toNat 0 :: st := by simp [stepP]
theorem step_neg (vs : List Int) (n v y : Int) (st : List Int) : stepP vs ⟨6, n, v⟩ (y :: st) = wrap64 (-y) :: st := by simp [stepP, un]
theorem step_sub (vs : List Int) (n v x y : Int) (st : List Int) : stepP vs ⟨4, n, v⟩ (y :: x :: st) = wrap64 (wrap64 (-y) + x) :: st := by rw [sub_back]; simp [stepP, bin]
theorem step_add (vs : List Int) (n v x y : Int) (st : List Int) : stepP vs ⟨3, n, v⟩ (y :: x :: st) = wrap64 (y + x) :: st := by rw [Int.add_comm]; simp [stepP, bin]
theorem step_mul (vs : List Int) (n v x y : Int) (st : List Int) : stepP vs ⟨5, n, v⟩ (y :: x :: st) = wrap64 (y * x) :: st := by rw [Int.mul_comm]; simp [stepP, bin]
theorem two_of {st : List Int} (h : 2 ≤ st.length) : ∃ y x r, st = y :: x :: r := by
  match st, h with
  | y :: x :: r, _ => exact ⟨y, x, r, rfl⟩
theorem one_of {st : List Int} (h : 1 ≤ st.length) : ∃ y r, st = y :: r := by
  match st, h with
  | y :: r, _ => exact ⟨y, r, rfl⟩
set_option maxHeartbeats 4000000 in
set_option maxRecDepth 1000000 in
theorem do_at (w : World) (base pb : Nat) (st : List Int) (v : Value) (k n x : Int) (p : Option Addr) (len c : Nat) (vs : List Int) (hV : VsIn w p len c vs) (hP : Pile base pb w st v) (h' : Nat) (hok : okT vs.length st.length ⟨k, n, x⟩ = some h') (hs : st.length ≤ 90000) (hb : base ≤ w.heap.size) (hl : len ≤ 90000) :
    Calls Try.prog 23 #[.agg #[.int .u8 k, .int .i64 n, .int .i64 x], .slice p len c, .pointer (some ⟨pb, 0, none⟩)] w (PutE base pb w (stepP vs ⟨k, n, x⟩ st)) := by
  have hlen := hV.len_eq
  have hcap := hV.cap
  have B0 := Lib.hid ((Below.refl base w).alloc hb (.cells #[.int .u8 k, .int .i64 n, .int .i64 x] 39))
  have HP := Lib.hid (hP.on (one_below w (.cells #[.int .u8 k, .int .i64 n, .int .i64 x] 39)))
  have HV := Lib.hid (hV.on (one_below w (.cells #[.int .u8 k, .int .i64 n, .int .i64 x] 39)))
  rcases okT_cases hok with rfl | ⟨rfl, h0, h1⟩ | ⟨rfl, h0⟩ | ⟨rfl, h0⟩ | ⟨rfl, h0⟩ | ⟨rfl, h0⟩
  · have C := Lib.hid (put_at _ base pb st v n HP.out (by omega))
    rw [step_n]
    clear hV hP hok hlen
    go_enter Try.func23, Try.ntmps23
    go_wp2_with fail
    (with_reducible refine C.out.mono ?_)
    rintro e w1 ⟨rfl, ⟨v1, hp1⟩, hb1⟩
    go_wp2
    simp [bodyPost, results, Try.results23, go_sem]
    unfold PutE
    exact ⟨rfl, ⟨v1, hp1⟩, B0.out.trans hb1⟩
  · obtain ⟨b, off, rfl, hbl, hc⟩ := HV.out.cell (by omega)
    obtain ⟨m, rfl⟩ : ∃ m : Nat, x = m := ⟨x.toNat, by omega⟩
    have hm : m < len := by omega
    have cm := hc m hm
    have C := Lib.hid (put_at _ base pb st v (vs.getD m 0) HP.out (by omega))
    rw [step_v, Int.toNat_natCast]
    generalize vs.getD m 0 = y at *
    clear hV hP hok hc hlen h0 h1
    go_enter Try.func23, Try.ntmps23
    go_wp2_with fail
    (with_reducible refine C.out.mono ?_)
    rintro e w1 ⟨rfl, ⟨v1, hp1⟩, hb1⟩
    go_wp2
    simp [bodyPost, results, Try.results23, go_sem]
    unfold PutE
    exact ⟨rfl, ⟨v1, hp1⟩, B0.out.trans hb1⟩
  · obtain ⟨y, r, rfl⟩ := one_of h0
    rw [List.length_cons] at hs
    have C := Lib.hid (take_at _ base pb r v y HP.out (by omega))
    rw [step_neg]
    clear hV hP hok hlen h0
    go_enter Try.func23, Try.ntmps23
    go_wp2_with fail
    (with_reducible refine C.out.mono ?_)
    rintro e w1 ⟨rfl, ⟨v1, hp1⟩, hb1⟩
    have C1 := Lib.hid (put_at _ base pb r v1 (wrap64 (-y)) hp1 (by omega))
    have B1 := Lib.hid (B0.out.trans hb1)
    clear hb1 hp1
    go_wp2_with fail
    (with_reducible refine C1.out.mono ?_)
    rintro e w2 ⟨rfl, ⟨v2, hp2⟩, hb2⟩
    go_wp2
    simp [bodyPost, results, Try.results23, go_sem]
    unfold PutE
    exact ⟨rfl, ⟨v2, hp2⟩, B1.out.trans hb2⟩
  · obtain ⟨y, z, r, rfl⟩ := two_of h0
    rw [List.length_cons, List.length_cons] at hs
    have C := Lib.hid (take_at _ base pb (z :: r) v y HP.out (by rw [List.length_cons]; omega))
    rw [step_sub]
    clear hV hP hok hlen h0
    go_enter Try.func23, Try.ntmps23
    go_wp2_with fail
    (with_reducible refine C.out.mono ?_)
    rintro e w1 ⟨rfl, ⟨v1, hp1⟩, hb1⟩
    have C1 := Lib.hid (put_at _ base pb (z :: r) v1 (wrap64 (-y)) hp1 (by rw [List.length_cons]; omega))
    have B1 := Lib.hid (B0.out.trans hb1)
    clear hb1 hp1
    go_wp2_with fail
    (with_reducible refine C1.out.mono ?_)
    rintro e w2 ⟨rfl, ⟨v2, hp2⟩, hb2⟩
    have C2 := Lib.hid (take_at _ base pb (z :: r) v2 (wrap64 (-y)) hp2 (by rw [List.length_cons]; omega))
    have B2 := Lib.hid (B1.out.trans hb2)
    clear hb2 hp2
    go_wp2_with fail
    (with_reducible refine C2.out.mono ?_)
    rintro e w3 ⟨rfl, ⟨v3, hp3⟩, hb3⟩
    have C3 := Lib.hid (take_at _ base pb r v3 z hp3 (by omega))
    have B3 := Lib.hid (B2.out.trans hb3)
    clear hb3 hp3
    go_wp2_with fail
    (with_reducible refine C3.out.mono ?_)
    rintro e w4 ⟨rfl, ⟨v4, hp4⟩, hb4⟩
    have C4 := Lib.hid (put_at _ base pb r v4 (wrap64 (wrap64 (-y) + z)) hp4 (by omega))
    have B4 := Lib.hid (B3.out.trans hb4)
    clear hb4 hp4
    go_wp2_with fail
    (with_reducible refine C4.out.mono ?_)
    rintro e w5 ⟨rfl, ⟨v5, hp5⟩, hb5⟩
    go_wp2
    simp [bodyPost, results, Try.results23, go_sem]
    unfold PutE
    exact ⟨rfl, ⟨v5, hp5⟩, B4.out.trans hb5⟩
  · obtain ⟨y, z, r, rfl⟩ := two_of h0
    rw [List.length_cons, List.length_cons] at hs
    have C2 := Lib.hid (take_at _ base pb (z :: r) v y HP.out (by rw [List.length_cons]; omega))
    rw [step_add]
    clear hV hP hok hlen h0
    go_enter Try.func23, Try.ntmps23
    go_wp2_with fail
    (with_reducible refine C2.out.mono ?_)
    rintro e w3 ⟨rfl, ⟨v3, hp3⟩, hb3⟩
    have C3 := Lib.hid (take_at _ base pb r v3 z hp3 (by omega))
    have B3 := Lib.hid (B0.out.trans hb3)
    clear hb3 hp3
    go_wp2_with fail
    (with_reducible refine C3.out.mono ?_)
    rintro e w4 ⟨rfl, ⟨v4, hp4⟩, hb4⟩
    have C4 := Lib.hid (put_at _ base pb r v4 (wrap64 (y + z)) hp4 (by omega))
    have B4 := Lib.hid (B3.out.trans hb4)
    clear hb4 hp4
    go_wp2_with fail
    (with_reducible refine C4.out.mono ?_)
    rintro e w5 ⟨rfl, ⟨v5, hp5⟩, hb5⟩
    go_wp2
    simp [bodyPost, results, Try.results23, go_sem]
    unfold PutE
    exact ⟨rfl, ⟨v5, hp5⟩, B4.out.trans hb5⟩
  · obtain ⟨y, z, r, rfl⟩ := two_of h0
    rw [List.length_cons, List.length_cons] at hs
    have C2 := Lib.hid (take_at _ base pb (z :: r) v y HP.out (by rw [List.length_cons]; omega))
    rw [step_mul]
    clear hV hP hok hlen h0
    go_enter Try.func23, Try.ntmps23
    go_wp2_with fail
    (with_reducible refine C2.out.mono ?_)
    rintro e w3 ⟨rfl, ⟨v3, hp3⟩, hb3⟩
    have C3 := Lib.hid (take_at _ base pb r v3 z hp3 (by omega))
    have B3 := Lib.hid (B0.out.trans hb3)
    clear hb3 hp3
    go_wp2_with fail
    (with_reducible refine C3.out.mono ?_)
    rintro e w4 ⟨rfl, ⟨v4, hp4⟩, hb4⟩
    have C4 := Lib.hid (put_at _ base pb r v4 (wrap64 (y * z)) hp4 (by omega))
    have B4 := Lib.hid (B3.out.trans hb4)
    clear hb4 hp4
    go_wp2_with fail
    (with_reducible refine C4.out.mono ?_)
    rintro e w5 ⟨rfl, ⟨v5, hp5⟩, hb5⟩
    go_wp2
    simp [bodyPost, results, Try.results23, go_sem]
    unfold PutE
    exact ⟨rfl, ⟨v5, hp5⟩, B4.out.trans hb5⟩
end Go.Proofs.Ytgmkmpldlndboaa.Cd
