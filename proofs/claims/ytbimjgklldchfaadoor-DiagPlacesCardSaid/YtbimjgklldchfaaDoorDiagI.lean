import Derived.Test.YtbimjgklldchfaaDoorDiagH
namespace Go.Proofs.YtbimjgklldchfaaDoor
open Go.RowKit

set_option maxHeartbeats 4000000 in
set_option maxRecDepth 1000000 in
theorem places_great (p : Option Addr) (len c : Nat) (a b : Int) (w : World) (hg : ET w) (hl : 500 < len) :
    Calls Tryd.prog 5 #[.slice p len c, .int .i64 a, .int .i64 b] w fun e w' => e = .returned (.bool true) ∧ Below w.heap.size w w' := by
  have HW := works w hg
  clear hg
  go_enter Tryd.func5, Tryd.ntmps5
  go_wp2_with fail
  (with_reducible refine HW.mono ?_)
  rintro e1 w1 ⟨rfl, hb⟩
  have B := Lib.hid hb
  clear hb
  go_wp2
  go_ret
  exact ⟨rfl, B.out⟩
set_option maxHeartbeats 4000000 in
set_option maxRecDepth 1000000 in
theorem places_walk (p : Option Addr) (len c : Nat) (xs : List Int) (a b x y l m cc d : Int) (w : World) (hg : ET w) (hs : Src w p len c xs) (hl : len ≤ 500)
    (N1 : ∀ W, Src W p len c xs → Calls Tryd.prog 7 #[.slice p len c, .int .i64 a, .int .i64 50] W fun e w' => e = .returned (.iface 45 (.pointer (some ⟨W.heap.size + 1, 0, none⟩))) ∧ NewW W w' x l cc 50)
    (N2 : ∀ W, Src W p len c xs → Calls Tryd.prog 7 #[.slice p len c, .int .i64 b, .int .i64 51] W fun e w' => e = .returned (.iface 45 (.pointer (some ⟨W.heap.size + 1, 0, none⟩))) ∧ NewW W w' y m d 51)
    (h1 : 1 ≤ l) (h2 : 1 ≤ cc)
    (hcase : (x < y ∧ l < m) ∨ (x < y ∧ l = m ∧ cc < d) ∨ (x = y ∧ l = m ∧ cc = d) ∨ (y < x ∧ m < l) ∨ (y < x ∧ l = m ∧ d < cc)) :
    Calls Tryd.prog 5 #[.slice p len c, .int .i64 a, .int .i64 b] w fun e w' => e = .returned (.bool true) ∧ Below w.heap.size w w' := by
  have HG := Lib.hid hg
  have HS := Lib.hid hs
  have HN1 := N1 w hs
  have HN2 := Lib.hid N2
  have HC := Lib.hid hcase
  clear hg hs N1 N2 hcase
  go_enter Tryd.func5, Tryd.ntmps5
  go_wp2_with fail
  (with_reducible refine HN1.mono ?_)
  rintro e1 w1 ⟨rfl, hN⟩
  have P1 := place_new HG.out hN
  have b1 := Lib.hid hN.below
  clear hN HN1
  go_wp2_with fail
  (with_reducible refine P1.mono ?_)
  rintro e2 w2 ⟨rfl, hb2⟩
  have b2 := Lib.hid (b1.out.trans (hb2.mono b1.out.size))
  have G2 := Lib.hid (HG.out.below b2.out)
  have P2 := HN2.out w2 (HS.out.below b2.out)
  clear P1 hb2 b1 HN2
  go_wp2_with fail
  (with_reducible refine P2.mono ?_)
  rintro e3 w3 ⟨rfl, hN⟩
  have P3 := place_new G2.out hN
  have b3 := Lib.hid (b2.out.trans (hN.below.mono b2.out.size))
  clear hN P2 b2 G2
  go_wp2_with fail
  (with_reducible refine P3.mono ?_)
  rintro e4 w4 ⟨rfl, hb4⟩
  have b4 := Lib.hid (b3.out.trans (hb4.mono b3.out.size))
  have PW := works w4 (HG.out.below b4.out)
  clear P3 hb4 b3
  have d1 : decide (1 ≤ l) = true := by simpa using h1
  have d2 : decide (1 ≤ cc) = true := by simpa using h2
  rcases HC.out with ⟨q1, q2⟩ | ⟨q1, q2, q3⟩ | ⟨q1, q2, q3⟩ | ⟨q1, q2⟩ | ⟨q1, q2, q3⟩
  · have e1 : (x == y) = false := by simp; omega
    have e2 : (l == m) = false := by simp; omega
    clear HC
    go_wp2_with fail
    (with_reducible refine PW.mono ?_)
    rintro e5 w5 ⟨rfl, hb5⟩
    have b5 := Lib.hid (b4.out.trans (hb5.mono b4.out.size))
    clear hb5
    go_wp2
    go_ret
    exact ⟨rfl, b5.out⟩
  · have e1 : (x == y) = false := by simp; omega
    have e2 : (cc == d) = false := by simp; omega
    clear HC
    subst q2
    go_wp2_with fail
    (with_reducible refine PW.mono ?_)
    rintro e5 w5 ⟨rfl, hb5⟩
    have b5 := Lib.hid (b4.out.trans (hb5.mono b4.out.size))
    clear hb5
    go_wp2
    go_ret
    exact ⟨rfl, b5.out⟩
  · clear HC
    subst q1 q2 q3
    go_wp2_with fail
    (with_reducible refine PW.mono ?_)
    rintro e5 w5 ⟨rfl, hb5⟩
    have b5 := Lib.hid (b4.out.trans (hb5.mono b4.out.size))
    clear hb5
    go_wp2
    go_ret
    exact ⟨rfl, b5.out⟩
  · have e1 : (x == y) = false := by simp; omega
    have e2 : (l == m) = false := by simp; omega
    have e3 : decide (x < y) = false := by simp; omega
    have e4 : decide (l < m) = false := by simp; omega
    clear HC
    go_wp2_with fail
    (with_reducible refine PW.mono ?_)
    rintro e5 w5 ⟨rfl, hb5⟩
    have b5 := Lib.hid (b4.out.trans (hb5.mono b4.out.size))
    clear hb5
    go_wp2
    go_ret
    exact ⟨rfl, b5.out⟩
  · have e1 : (x == y) = false := by simp; omega
    have e2 : (cc == d) = false := by simp; omega
    have e3 : decide (x < y) = false := by simp; omega
    have e4 : decide (cc < d) = false := by simp; omega
    clear HC
    subst q2
    go_wp2_with fail
    (with_reducible refine PW.mono ?_)
    rintro e5 w5 ⟨rfl, hb5⟩
    have b5 := Lib.hid (b4.out.trans (hb5.mono b4.out.size))
    clear hb5
    go_wp2
    go_ret
    exact ⟨rfl, b5.out⟩
theorem diagPlaces (p : Option Addr) (len c : Nat) (xs : List Int) (a b : Int) (w : World) (hg : ET w) (hs : Src w p len c xs) :
    Calls Tryd.prog 5 #[.slice p len c, .int .i64 a, .int .i64 b] w fun e w' => e = .returned (.bool true) ∧ Below w.heap.size w w' := by
  by_cases hl : len ≤ 500
  · obtain ⟨k, hk⟩ : ∃ k : Nat, min (max a 0) (len : Int) = (k : Int) := ⟨(min (max a 0) (len : Int)).toNat, by omega⟩
    obtain ⟨j, hj⟩ : ∃ j : Nat, min (max b 0) (len : Int) = (j : Int) := ⟨(min (max b 0) (len : Int)).toNat, by omega⟩
    have l1 := line_bd xs k
    have l2 := last_bd xs k
    refine places_walk p len c xs a b k j (lineF xs k) (lineF xs j) ((k : Int) - lastF xs k) ((j : Int) - lastF xs j) w hg hs hl
      (fun W h => new_src p len c k xs a 50 W (by decide) hl hk h) (fun W h => new_src p len c j xs b 51 W (by decide) hl hj h) (by omega) (by omega) ?_
    rcases Nat.lt_trichotomy k j with h | rfl | h
    · rcases places xs k j h with h' | ⟨h', h''⟩
      · exact Or.inl ⟨by omega, by omega⟩
      · exact Or.inr (Or.inl ⟨by omega, by omega, h''⟩)
    · exact Or.inr (Or.inr (Or.inl ⟨rfl, rfl, rfl⟩))
    · rcases places xs j k h with h' | ⟨h', h''⟩
      · exact Or.inr (Or.inr (Or.inr (Or.inl ⟨by omega, by omega⟩)))
      · exact Or.inr (Or.inr (Or.inr (Or.inr ⟨by omega, by omega, h''⟩)))
  · exact places_great p len c a b w hg (by omega)
end Go.Proofs.YtbimjgklldchfaaDoor
