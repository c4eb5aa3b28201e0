import Derived.Test.YtijaelncmjcbmaaTreeKb
import Derived.Test.YtijaelncmjcbmaaTreeKc
namespace Go.Proofs.Ytijaelncmjcbmaa
open Go.RowKit
theorem allK_5 : allK 5 = fun k => k == 5 := by funext k; simp [allK]
theorem allK_1 : allK 1 = isStmtK := by funext k; simp [allK]
theorem allK_0 : allK 0 = isExprK := by funext k; simp [allK]
theorem refAll0 (w : World) (p : Option Addr) (len c : Nat) (l : List Int) (what : Int) (h : BV w p len c l) (hl : len ≤ 1000) (hw : what = 0 ∨ what = 1 ∨ what = 5) :
    Calls Try.prog 34 #[.slice p len c, .int .i64 0, .int .u8 what] w fun e w' => e = .returned (.bool ((l.drop 0).all (allK what))) ∧ w' = w := refAll_at w p len c l 0 what h hl (by omega) hw
theorem refAll1 (w : World) (p : Option Addr) (len c : Nat) (l : List Int) (what : Int) (h : BV w p len c l) (hl : len ≤ 1000) (hw : what = 0 ∨ what = 1 ∨ what = 5) :
    Calls Try.prog 34 #[.slice p len c, .int .i64 1, .int .u8 what] w fun e w' => e = .returned (.bool ((l.drop 1).all (allK what))) ∧ w' = w := refAll_at w p len c l 1 what h hl (by omega) hw
set_option maxHeartbeats 4000000 in
set_option maxRecDepth 1000000 in
theorem refKids_3 (w : World) (p : Option Addr) (len c : Nat) (l : List Int) (h : BV w p len c l) (hl : len ≤ 1000) :
    Calls Try.prog 26 #[.int .u8 3, .slice p len c] w fun e w' => e = .returned (.bool (kidsR 3 l)) ∧ Below w.heap.size w w' := by
  have hlen := Lib.hid h.len_eq
  have H := Lib.hid h
  clear h
  have HQ := Lib.hid (refIs_at (w.alloc (.cells #[.int .u8 4, .int .u8 6] 5)) p (some ⟨w.heap.size, 0, none⟩) len c 2 2 l [4, 6] (H.out.on (Aside.of (one_below w _))) (bv_new w _ [4, 6] 2 rfl rfl) hl (by decide))
  rw [show kidsR 3 l = isR l [4, 6] from rfl]
  generalize isR l [4, 6] = r at *
  clear H hlen
  go_enter Try.func26, Try.ntmps26
  go_wp2_with fail
  (with_reducible refine HQ.out.mono ?_)
  rintro e w' ⟨rfl, hb⟩
  have HB := Lib.hid ((one_below w (.cells #[.int .u8 4, .int .u8 6] 5)).trans (hb.mono (by simp)))
  clear hb HQ
  go_wp2
  go_ret
  exact ⟨rfl, HB.out⟩
set_option maxHeartbeats 4000000 in
set_option maxRecDepth 1000000 in
theorem refKids_7 (w : World) (p : Option Addr) (len c : Nat) (l : List Int) (h : BV w p len c l) (hl : len ≤ 1000) :
    Calls Try.prog 26 #[.int .u8 7, .slice p len c] w fun e w' => e = .returned (.bool (kidsR 7 l)) ∧ Below w.heap.size w w' := by
  have hlen := Lib.hid h.len_eq
  have H := Lib.hid h
  clear h
  have HQ := Lib.hid (refIs_at (w.alloc (.cells #[.int .u8 20, .int .u8 5] 5)) p (some ⟨w.heap.size, 0, none⟩) len c 2 2 l [20, 5] (H.out.on (Aside.of (one_below w _))) (bv_new w _ [20, 5] 2 rfl rfl) hl (by decide))
  rw [show kidsR 7 l = isR l [20, 5] from rfl]
  generalize isR l [20, 5] = r at *
  clear H hlen
  go_enter Try.func26, Try.ntmps26
  go_wp2_with fail
  (with_reducible refine HQ.out.mono ?_)
  rintro e w' ⟨rfl, hb⟩
  have HB := Lib.hid ((one_below w (.cells #[.int .u8 20, .int .u8 5] 5)).trans (hb.mono (by simp)))
  clear hb HQ
  go_wp2
  go_ret
  exact ⟨rfl, HB.out⟩
set_option maxHeartbeats 4000000 in
set_option maxRecDepth 1000000 in
theorem refKids_8 (w : World) (p : Option Addr) (len c : Nat) (l : List Int) (h : BV w p len c l) (hl : len ≤ 1000) :
    Calls Try.prog 26 #[.int .u8 8, .slice p len c] w fun e w' => e = .returned (.bool (kidsR 8 l)) ∧ Below w.heap.size w w' := by
  have hlen := Lib.hid h.len_eq
  have H := Lib.hid h
  clear h
  have HQ := Lib.hid (refIs_at (w.alloc (.cells #[.int .u8 20, .int .u8 5, .int .u8 0] 5)) p (some ⟨w.heap.size, 0, none⟩) len c 3 3 l [20, 5, 0] (H.out.on (Aside.of (one_below w _))) (bv_new w _ [20, 5, 0] 3 rfl rfl) hl (by decide))
  rw [show kidsR 8 l = isR l [20, 5, 0] from rfl]
  generalize isR l [20, 5, 0] = r at *
  clear H hlen
  go_enter Try.func26, Try.ntmps26
  go_wp2_with fail
  (with_reducible refine HQ.out.mono ?_)
  rintro e w' ⟨rfl, hb⟩
  have HB := Lib.hid ((one_below w (.cells #[.int .u8 20, .int .u8 5, .int .u8 0] 5)).trans (hb.mono (by simp)))
  clear hb HQ
  go_wp2
  go_ret
  exact ⟨rfl, HB.out⟩
set_option maxHeartbeats 4000000 in
set_option maxRecDepth 1000000 in
theorem refKids_10 (w : World) (p : Option Addr) (len c : Nat) (l : List Int) (h : BV w p len c l) (hl : len ≤ 1000) :
    Calls Try.prog 26 #[.int .u8 10, .slice p len c] w fun e w' => e = .returned (.bool (kidsR 10 l)) ∧ Below w.heap.size w w' := by
  have hlen := Lib.hid h.len_eq
  have H := Lib.hid h
  clear h
  have HQ := Lib.hid (refIs_at (w.alloc (.cells #[.int .u8 20] 5)) p (some ⟨w.heap.size, 0, none⟩) len c 1 1 l [20] (H.out.on (Aside.of (one_below w _))) (bv_new w _ [20] 1 rfl rfl) hl (by decide))
  rw [show kidsR 10 l = isR l [20] from rfl]
  generalize isR l [20] = r at *
  clear H hlen
  go_enter Try.func26, Try.ntmps26
  go_wp2_with fail
  (with_reducible refine HQ.out.mono ?_)
  rintro e w' ⟨rfl, hb⟩
  have HB := Lib.hid ((one_below w (.cells #[.int .u8 20] 5)).trans (hb.mono (by simp)))
  clear hb HQ
  go_wp2
  go_ret
  exact ⟨rfl, HB.out⟩
set_option maxHeartbeats 4000000 in
set_option maxRecDepth 1000000 in
theorem refKids_11 (w : World) (p : Option Addr) (len c : Nat) (l : List Int) (h : BV w p len c l) (hl : len ≤ 1000) :
    Calls Try.prog 26 #[.int .u8 11, .slice p len c] w fun e w' => e = .returned (.bool (kidsR 11 l)) ∧ Below w.heap.size w w' := by
  have hlen := Lib.hid h.len_eq
  have H := Lib.hid h
  clear h
  have HQ := Lib.hid (refIs_at (w.alloc (.cells #[.int .u8 5, .int .u8 5] 5)) p (some ⟨w.heap.size, 0, none⟩) len c 2 2 l [5, 5] (H.out.on (Aside.of (one_below w _))) (bv_new w _ [5, 5] 2 rfl rfl) hl (by decide))
  rw [show kidsR 11 l = isR l [5, 5] from rfl]
  generalize isR l [5, 5] = r at *
  clear H hlen
  go_enter Try.func26, Try.ntmps26
  go_wp2_with fail
  (with_reducible refine HQ.out.mono ?_)
  rintro e w' ⟨rfl, hb⟩
  have HB := Lib.hid ((one_below w (.cells #[.int .u8 5, .int .u8 5] 5)).trans (hb.mono (by simp)))
  clear hb HQ
  go_wp2
  go_ret
  exact ⟨rfl, HB.out⟩
set_option maxHeartbeats 4000000 in
set_option maxRecDepth 1000000 in
theorem refKids_12 (w : World) (p : Option Addr) (len c : Nat) (l : List Int) (h : BV w p len c l) (hl : len ≤ 1000) :
    Calls Try.prog 26 #[.int .u8 12, .slice p len c] w fun e w' => e = .returned (.bool (kidsR 12 l)) ∧ Below w.heap.size w w' := by
  have hlen := Lib.hid h.len_eq
  have H := Lib.hid h
  clear h
  have HQ := Lib.hid (refIs_at (w.alloc (.cells #[.int .u8 5] 5)) p (some ⟨w.heap.size, 0, none⟩) len c 1 1 l [5] (H.out.on (Aside.of (one_below w _))) (bv_new w _ [5] 1 rfl rfl) hl (by decide))
  rw [show kidsR 12 l = isR l [5] from rfl]
  generalize isR l [5] = r at *
  clear H hlen
  go_enter Try.func26, Try.ntmps26
  go_wp2_with fail
  (with_reducible refine HQ.out.mono ?_)
  rintro e w' ⟨rfl, hb⟩
  have HB := Lib.hid ((one_below w (.cells #[.int .u8 5] 5)).trans (hb.mono (by simp)))
  clear hb HQ
  go_wp2
  go_ret
  exact ⟨rfl, HB.out⟩
set_option maxHeartbeats 4000000 in
set_option maxRecDepth 1000000 in
theorem refKids_15 (w : World) (p : Option Addr) (len c : Nat) (l : List Int) (h : BV w p len c l) (hl : len ≤ 1000) :
    Calls Try.prog 26 #[.int .u8 15, .slice p len c] w fun e w' => e = .returned (.bool (kidsR 15 l)) ∧ Below w.heap.size w w' := by
  have hlen := Lib.hid h.len_eq
  have H := Lib.hid h
  clear h
  have HQ := Lib.hid (refIs_at (w.alloc (.cells #[.int .u8 21, .int .u8 21, .int .u8 6] 5)) p (some ⟨w.heap.size, 0, none⟩) len c 3 3 l [21, 21, 6] (H.out.on (Aside.of (one_below w _))) (bv_new w _ [21, 21, 6] 3 rfl rfl) hl (by decide))
  rw [show kidsR 15 l = isR l [21, 21, 6] from rfl]
  generalize isR l [21, 21, 6] = r at *
  clear H hlen
  go_enter Try.func26, Try.ntmps26
  go_wp2_with fail
  (with_reducible refine HQ.out.mono ?_)
  rintro e w' ⟨rfl, hb⟩
  have HB := Lib.hid ((one_below w (.cells #[.int .u8 21, .int .u8 21, .int .u8 6] 5)).trans (hb.mono (by simp)))
  clear hb HQ
  go_wp2
  go_ret
  exact ⟨rfl, HB.out⟩
set_option maxHeartbeats 4000000 in
set_option maxRecDepth 1000000 in
theorem refKids_16 (w : World) (p : Option Addr) (len c : Nat) (l : List Int) (h : BV w p len c l) (hl : len ≤ 1000) :
    Calls Try.prog 26 #[.int .u8 16, .slice p len c] w fun e w' => e = .returned (.bool (kidsR 16 l)) ∧ Below w.heap.size w w' := by
  have hlen := Lib.hid h.len_eq
  have H := Lib.hid h
  clear h
  have HQ := Lib.hid (refIs_at (w.alloc (.cells #[.int .u8 0] 5)) p (some ⟨w.heap.size, 0, none⟩) len c 1 1 l [0] (H.out.on (Aside.of (one_below w _))) (bv_new w _ [0] 1 rfl rfl) hl (by decide))
  rw [show kidsR 16 l = isR l [0] from rfl]
  generalize isR l [0] = r at *
  clear H hlen
  go_enter Try.func26, Try.ntmps26
  go_wp2_with fail
  (with_reducible refine HQ.out.mono ?_)
  rintro e w' ⟨rfl, hb⟩
  have HB := Lib.hid ((one_below w (.cells #[.int .u8 0] 5)).trans (hb.mono (by simp)))
  clear hb HQ
  go_wp2
  go_ret
  exact ⟨rfl, HB.out⟩
set_option maxHeartbeats 4000000 in
set_option maxRecDepth 1000000 in
theorem refKids_17 (w : World) (p : Option Addr) (len c : Nat) (l : List Int) (h : BV w p len c l) (hl : len ≤ 1000) :
    Calls Try.prog 26 #[.int .u8 17, .slice p len c] w fun e w' => e = .returned (.bool (kidsR 17 l)) ∧ Below w.heap.size w w' := by
  have hlen := Lib.hid h.len_eq
  have H := Lib.hid h
  clear h
  have HQ := Lib.hid (refIs_at (w.alloc (.cells #[.int .u8 0] 5)) p (some ⟨w.heap.size, 0, none⟩) len c 1 1 l [0] (H.out.on (Aside.of (one_below w _))) (bv_new w _ [0] 1 rfl rfl) hl (by decide))
  rw [show kidsR 17 l = isR l [0] from rfl]
  generalize isR l [0] = r at *
  clear H hlen
  go_enter Try.func26, Try.ntmps26
  go_wp2_with fail
  (with_reducible refine HQ.out.mono ?_)
  rintro e w' ⟨rfl, hb⟩
  have HB := Lib.hid ((one_below w (.cells #[.int .u8 0] 5)).trans (hb.mono (by simp)))
  clear hb HQ
  go_wp2
  go_ret
  exact ⟨rfl, HB.out⟩
set_option maxHeartbeats 4000000 in
set_option maxRecDepth 1000000 in
theorem refKids_20 (w : World) (p : Option Addr) (len c : Nat) (l : List Int) (h : BV w p len c l) (hl : len ≤ 1000) :
    Calls Try.prog 26 #[.int .u8 20, .slice p len c] w fun e w' => e = .returned (.bool (kidsR 20 l)) ∧ Below w.heap.size w w' := by
  have hlen := Lib.hid h.len_eq
  have H := Lib.hid h
  clear h
  have HQ := Lib.hid (refIs_at (w.alloc (.cells #[.int .u8 0] 5)) p (some ⟨w.heap.size, 0, none⟩) len c 1 1 l [0] (H.out.on (Aside.of (one_below w _))) (bv_new w _ [0] 1 rfl rfl) hl (by decide))
  rw [show kidsR 20 l = isR l [0] from rfl]
  generalize isR l [0] = r at *
  clear H hlen
  go_enter Try.func26, Try.ntmps26
  go_wp2_with fail
  (with_reducible refine HQ.out.mono ?_)
  rintro e w' ⟨rfl, hb⟩
  have HB := Lib.hid ((one_below w (.cells #[.int .u8 0] 5)).trans (hb.mono (by simp)))
  clear hb HQ
  go_wp2
  go_ret
  exact ⟨rfl, HB.out⟩
set_option maxHeartbeats 4000000 in
set_option maxRecDepth 1000000 in
theorem refKids_26 (w : World) (p : Option Addr) (len c : Nat) (l : List Int) (h : BV w p len c l) (hl : len ≤ 1000) :
    Calls Try.prog 26 #[.int .u8 26, .slice p len c] w fun e w' => e = .returned (.bool (kidsR 26 l)) ∧ Below w.heap.size w w' := by
  have hlen := Lib.hid h.len_eq
  have H := Lib.hid h
  clear h
  have HQ := Lib.hid (refIs_at (w.alloc (.cells #[.int .u8 0] 5)) p (some ⟨w.heap.size, 0, none⟩) len c 1 1 l [0] (H.out.on (Aside.of (one_below w _))) (bv_new w _ [0] 1 rfl rfl) hl (by decide))
  rw [show kidsR 26 l = isR l [0] from rfl]
  generalize isR l [0] = r at *
  clear H hlen
  go_enter Try.func26, Try.ntmps26
  go_wp2_with fail
  (with_reducible refine HQ.out.mono ?_)
  rintro e w' ⟨rfl, hb⟩
  have HB := Lib.hid ((one_below w (.cells #[.int .u8 0] 5)).trans (hb.mono (by simp)))
  clear hb HQ
  go_wp2
  go_ret
  exact ⟨rfl, HB.out⟩
set_option maxHeartbeats 4000000 in
set_option maxRecDepth 1000000 in
theorem refKids_23 (w : World) (p : Option Addr) (len c : Nat) (l : List Int) (h : BV w p len c l) (hl : len ≤ 1000) :
    Calls Try.prog 26 #[.int .u8 23, .slice p len c] w fun e w' => e = .returned (.bool (kidsR 23 l)) ∧ Below w.heap.size w w' := by
  have hlen := Lib.hid h.len_eq
  have H := Lib.hid h
  clear h
  have HQ := Lib.hid (refIs_at (w.alloc (.cells #[.int .u8 0, .int .u8 0] 5)) p (some ⟨w.heap.size, 0, none⟩) len c 2 2 l [0, 0] (H.out.on (Aside.of (one_below w _))) (bv_new w _ [0, 0] 2 rfl rfl) hl (by decide))
  rw [show kidsR 23 l = isR l [0, 0] from rfl]
  generalize isR l [0, 0] = r at *
  clear H hlen
  go_enter Try.func26, Try.ntmps26
  go_wp2_with fail
  (with_reducible refine HQ.out.mono ?_)
  rintro e w' ⟨rfl, hb⟩
  have HB := Lib.hid ((one_below w (.cells #[.int .u8 0, .int .u8 0] 5)).trans (hb.mono (by simp)))
  clear hb HQ
  go_wp2
  go_ret
  exact ⟨rfl, HB.out⟩
set_option maxHeartbeats 4000000 in
set_option maxRecDepth 1000000 in
theorem refKids_24 (w : World) (p : Option Addr) (len c : Nat) (l : List Int) (h : BV w p len c l) (hl : len ≤ 1000) :
    Calls Try.prog 26 #[.int .u8 24, .slice p len c] w fun e w' => e = .returned (.bool (kidsR 24 l)) ∧ Below w.heap.size w w' := by
  have hlen := Lib.hid h.len_eq
  have H := Lib.hid h
  clear h
  have HQ := Lib.hid (refIs_at (w.alloc (.cells #[.int .u8 0, .int .u8 0] 5)) p (some ⟨w.heap.size, 0, none⟩) len c 2 2 l [0, 0] (H.out.on (Aside.of (one_below w _))) (bv_new w _ [0, 0] 2 rfl rfl) hl (by decide))
  rw [show kidsR 24 l = isR l [0, 0] from rfl]
  generalize isR l [0, 0] = r at *
  clear H hlen
  go_enter Try.func26, Try.ntmps26
  go_wp2_with fail
  (with_reducible refine HQ.out.mono ?_)
  rintro e w' ⟨rfl, hb⟩
  have HB := Lib.hid ((one_below w (.cells #[.int .u8 0, .int .u8 0] 5)).trans (hb.mono (by simp)))
  clear hb HQ
  go_wp2
  go_ret
  exact ⟨rfl, HB.out⟩
set_option maxHeartbeats 4000000 in
set_option maxRecDepth 1000000 in
theorem refKids_25 (w : World) (p : Option Addr) (len c : Nat) (l : List Int) (h : BV w p len c l) (hl : len ≤ 1000) :
    Calls Try.prog 26 #[.int .u8 25, .slice p len c] w fun e w' => e = .returned (.bool (kidsR 25 l)) ∧ Below w.heap.size w w' := by
  have hlen := Lib.hid h.len_eq
  have H := Lib.hid h
  clear h
  have HQ := Lib.hid (refIs_at (w.alloc (.cells #[.int .u8 0, .int .u8 0] 5)) p (some ⟨w.heap.size, 0, none⟩) len c 2 2 l [0, 0] (H.out.on (Aside.of (one_below w _))) (bv_new w _ [0, 0] 2 rfl rfl) hl (by decide))
  rw [show kidsR 25 l = isR l [0, 0] from rfl]
  generalize isR l [0, 0] = r at *
  clear H hlen
  go_enter Try.func26, Try.ntmps26
  go_wp2_with fail
  (with_reducible refine HQ.out.mono ?_)
  rintro e w' ⟨rfl, hb⟩
  have HB := Lib.hid ((one_below w (.cells #[.int .u8 0, .int .u8 0] 5)).trans (hb.mono (by simp)))
  clear hb HQ
  go_wp2
  go_ret
  exact ⟨rfl, HB.out⟩
set_option maxHeartbeats 4000000 in
set_option maxRecDepth 1000000 in
theorem refKids_4 (w : World) (p : Option Addr) (len c : Nat) (l : List Int) (h : BV w p len c l) (hl : len ≤ 1000) :
    Calls Try.prog 26 #[.int .u8 4, .slice p len c] w fun e w' => e = .returned (.bool (kidsR 4 l)) ∧ Below w.heap.size w w' := by
  have hlen := Lib.hid h.len_eq
  have H := Lib.hid h
  clear h
  have HQ := Lib.hid (refAll0 w p len c l 5 H.out hl (by simp))
  rw [show kidsR 4 l = (l.drop 0).all (allK 5) by rw [allK_5]; rfl]
  generalize (l.drop 0).all (allK 5) = r at *
  clear H hlen
  go_enter Try.func26, Try.ntmps26
  go_wp2_with fail
  (with_reducible refine HQ.out.mono ?_)
  rintro e w' ⟨rfl, rfl⟩
  clear HQ
  go_wp2
  go_ret
  exact ⟨rfl, Below.refl _ _⟩
set_option maxHeartbeats 4000000 in
set_option maxRecDepth 1000000 in
theorem refKids_6 (w : World) (p : Option Addr) (len c : Nat) (l : List Int) (h : BV w p len c l) (hl : len ≤ 1000) :
    Calls Try.prog 26 #[.int .u8 6, .slice p len c] w fun e w' => e = .returned (.bool (kidsR 6 l)) ∧ Below w.heap.size w w' := by
  have hlen := Lib.hid h.len_eq
  have H := Lib.hid h
  clear h
  have HQ := Lib.hid (refAll0 w p len c l 1 H.out hl (by simp))
  rw [show kidsR 6 l = (l.drop 0).all (allK 1) by rw [allK_1]; rfl]
  generalize (l.drop 0).all (allK 1) = r at *
  clear H hlen
  go_enter Try.func26, Try.ntmps26
  go_wp2_with fail
  (with_reducible refine HQ.out.mono ?_)
  rintro e w' ⟨rfl, rfl⟩
  clear HQ
  go_wp2
  go_ret
  exact ⟨rfl, Below.refl _ _⟩
set_option maxHeartbeats 4000000 in
set_option maxRecDepth 1000000 in
theorem refKids_2 (w : World) (p : Option Addr) (len c : Nat) (l : List Int) (h : BV w p len c l) (hl : len ≤ 1000) :
    Calls Try.prog 26 #[.int .u8 2, .slice p len c] w fun e w' => e = .returned (.bool (kidsR 2 l)) ∧ Below w.heap.size w w' := by
  have hlen := Lib.hid h.len_eq
  have H := Lib.hid h
  clear h
  have HQ := Lib.hid (refAll0 w p len c l 5 H.out hl (by simp))
  have e : kidsR 2 l = (decide (0 < len) && (l.drop 0).all (allK 5)) := by rw [allK_5, ← hlen.out]; rfl
  rw [e]
  clear e
  generalize (l.drop 0).all (allK 5) = r at *
  clear H hlen
  by_cases h0 : 0 < len
  · have d0 : decide ((len : Int) > 0) = true := by simp; omega
    have d1 : decide (0 < len) = true := by simpa using h0
    rw [d1]
    clear h0
    go_enter Try.func26, Try.ntmps26
    go_wp2_with fail
    (with_reducible refine HQ.out.mono ?_)
    rintro e w' ⟨rfl, rfl⟩
    clear HQ
    go_wp2
    go_ret
    exact ⟨rfl, Below.refl _ _⟩
  · have d0 : decide ((len : Int) > 0) = false := by simp; omega
    have d1 : decide (0 < len) = false := by simpa using h0
    rw [d1]
    clear h0
    go_enter Try.func26, Try.ntmps26
    go_wp2
    go_ret
    exact ⟨rfl, Below.refl _ _⟩
set_option maxHeartbeats 4000000 in
set_option maxRecDepth 1000000 in
theorem refKids_9 (w : World) (p : Option Addr) (len c : Nat) (l : List Int) (h : BV w p len c l) (hl : len ≤ 1000) :
    Calls Try.prog 26 #[.int .u8 9, .slice p len c] w fun e w' => e = .returned (.bool (kidsR 9 l)) ∧ Below w.heap.size w w' := by
  have hlen := Lib.hid h.len_eq
  have H := Lib.hid h
  clear h
  have HQ := Lib.hid (refAll1 w p len c l 0 H.out hl (by simp))
  have e : kidsR 9 l = (decide (1 < len) && (l.getD 0 0 == 20 && (l.drop 1).all (allK 0))) := by rw [allK_0, ← hlen.out]; rfl
  rw [e]
  clear e
  generalize (l.drop 1).all (allK 0) = r at *
  by_cases h0 : 1 < len
  · have d0 : decide ((len : Int) > 1) = true := by simp; omega
    have d1 : decide (1 < len) = true := by simpa using h0
    obtain ⟨b, off, rfl, hc⟩ := H.out.cell (by omega)
    have r0 : w.cell? ⟨b, off, none⟩ = some (.int .u8 (l.getD 0 0)) := hc 0 (by omega)
    have p0 : 0 < len := by omega
    have p1 : (0 : Int) < (len : Int) := by omega
    generalize l.getD 0 0 = x at *
    rw [d1]
    clear h0 H hc hlen
    by_cases hx : x = 20
    · have dx : (x == 20) = true := by simpa using hx
      rw [dx]
      subst hx
      go_enter Try.func26, Try.ntmps26
      go_wp2_with fail
      (with_reducible refine HQ.out.mono ?_)
      rintro e w' ⟨rfl, rfl⟩
      clear HQ
      go_wp2
      go_ret
      exact ⟨rfl, Below.refl _ _⟩
    · have dx : (x == 20) = false := by simpa using hx
      rw [dx]
      clear hx
      go_enter Try.func26, Try.ntmps26
      go_wp2
      go_ret
      exact ⟨rfl, Below.refl _ _⟩
  · have d0 : decide ((len : Int) > 1) = false := by simp; omega
    have d1 : decide (1 < len) = false := by simpa using h0
    rw [d1]
    clear h0 H hlen
    go_enter Try.func26, Try.ntmps26
    go_wp2
    go_ret
    exact ⟨rfl, Below.refl _ _⟩
set_option maxHeartbeats 4000000 in
set_option maxRecDepth 1000000 in
theorem refKids_13 (w : World) (p : Option Addr) (len c : Nat) (l : List Int) (h : BV w p len c l) (hl : len ≤ 1000) :
    Calls Try.prog 26 #[.int .u8 13, .slice p len c] w fun e w' => e = .returned (.bool (kidsR 13 l)) ∧ Below w.heap.size w w' := by
  have hlen := Lib.hid h.len_eq
  have H := Lib.hid h
  clear h
  have HQ := Lib.hid (refIs_at (w.alloc (.cells #[.int .u8 5] 5)) p (some ⟨w.heap.size, 0, none⟩) len c 1 1 l [5] (H.out.on (Aside.of (one_below w _))) (bv_new w _ [5] 1 rfl rfl) hl (by decide))
  rw [show kidsR 13 l = (isR l [5] || isR l [20]) from rfl]
  have HQ2 : Hid (∀ W : World, Below w.heap.size w W → Calls Try.prog 35 #[.slice p len c, .slice (some ⟨W.heap.size, 0, none⟩) 1 1] (W.alloc (.cells #[.int .u8 20] 5)) fun e w' => e = .returned (.bool (isR l [20])) ∧ Below (W.alloc (.cells #[.int .u8 20] 5)).heap.size (W.alloc (.cells #[.int .u8 20] 5)) w') := Lib.hid (fun W hb => refIs_at (W.alloc (.cells #[.int .u8 20] 5)) p (some ⟨W.heap.size, 0, none⟩) len c 1 1 l [20] (H.out.on (Aside.of (hb.trans ((one_below W _).mono hb.size)))) (bv_new W _ [20] 1 rfl rfl) hl (by decide))
  generalize isR l [5] = r at *
  generalize isR l [20] = s at *
  go_enter Try.func26, Try.ntmps26
  go_wp2_with fail
  (with_reducible refine HQ.out.mono ?_)
  rintro e w' ⟨rfl, hb⟩
  have HB := Lib.hid ((one_below w (.cells #[.int .u8 5] 5)).trans (hb.mono (by simp)))
  clear hb HQ
  have HB2 := Lib.hid (HB.out.trans ((one_below w' (.cells #[.int .u8 20] 5)).mono HB.out.size))
  have HQ3 := Lib.hid (HQ2.out w' HB.out)
  clear HQ2
  cases r with
  | true =>
    go_wp2
    go_ret
    exact ⟨rfl, HB.out⟩
  | false =>
    go_wp2_with fail
    (with_reducible refine HQ3.out.mono ?_)
    rintro e w2 ⟨rfl, hb⟩
    have HB3 := Lib.hid (HB2.out.trans (hb.mono HB2.out.size))
    clear hb HQ3
    go_wp2
    go_ret
    exact ⟨rfl, HB3.out⟩
set_option maxHeartbeats 4000000 in
set_option maxRecDepth 1000000 in
theorem refKids_14 (w : World) (p : Option Addr) (len c : Nat) (l : List Int) (h : BV w p len c l) (hl : len ≤ 1000) :
    Calls Try.prog 26 #[.int .u8 14, .slice p len c] w fun e w' => e = .returned (.bool (kidsR 14 l)) ∧ Below w.heap.size w w' := by
  have hlen := Lib.hid h.len_eq
  have H := Lib.hid h
  clear h
  have HQ := Lib.hid (refIs_at (w.alloc (.cells #[.int .u8 0, .int .u8 0, .int .u8 6] 5)) p (some ⟨w.heap.size, 0, none⟩) len c 3 3 l [0, 0, 6] (H.out.on (Aside.of (one_below w _))) (bv_new w _ [0, 0, 6] 3 rfl rfl) hl (by decide))
  rw [show kidsR 14 l = (isR l [0, 0, 6] || isR l [0, 0, 6, 6]) from rfl]
  have HQ2 : Hid (∀ W : World, Below w.heap.size w W → Calls Try.prog 35 #[.slice p len c, .slice (some ⟨W.heap.size, 0, none⟩) 4 4] (W.alloc (.cells #[.int .u8 0, .int .u8 0, .int .u8 6, .int .u8 6] 5)) fun e w' => e = .returned (.bool (isR l [0, 0, 6, 6])) ∧ Below (W.alloc (.cells #[.int .u8 0, .int .u8 0, .int .u8 6, .int .u8 6] 5)).heap.size (W.alloc (.cells #[.int .u8 0, .int .u8 0, .int .u8 6, .int .u8 6] 5)) w') := Lib.hid (fun W hb => refIs_at (W.alloc (.cells #[.int .u8 0, .int .u8 0, .int .u8 6, .int .u8 6] 5)) p (some ⟨W.heap.size, 0, none⟩) len c 4 4 l [0, 0, 6, 6] (H.out.on (Aside.of (hb.trans ((one_below W _).mono hb.size)))) (bv_new W _ [0, 0, 6, 6] 4 rfl rfl) hl (by decide))
  generalize isR l [0, 0, 6] = r at *
  generalize isR l [0, 0, 6, 6] = s at *
  go_enter Try.func26, Try.ntmps26
  go_wp2_with fail
  (with_reducible refine HQ.out.mono ?_)
  rintro e w' ⟨rfl, hb⟩
  have HB := Lib.hid ((one_below w (.cells #[.int .u8 0, .int .u8 0, .int .u8 6] 5)).trans (hb.mono (by simp)))
  clear hb HQ
  have HB2 := Lib.hid (HB.out.trans ((one_below w' (.cells #[.int .u8 0, .int .u8 0, .int .u8 6, .int .u8 6] 5)).mono HB.out.size))
  have HQ3 := Lib.hid (HQ2.out w' HB.out)
  clear HQ2
  cases r with
  | true =>
    go_wp2
    go_ret
    exact ⟨rfl, HB.out⟩
  | false =>
    go_wp2_with fail
    (with_reducible refine HQ3.out.mono ?_)
    rintro e w2 ⟨rfl, hb⟩
    have HB3 := Lib.hid (HB2.out.trans (hb.mono HB2.out.size))
    clear hb HQ3
    go_wp2
    go_ret
    exact ⟨rfl, HB3.out⟩
set_option maxHeartbeats 4000000 in
set_option maxRecDepth 1000000 in
theorem refKids_1 (w : World) (p : Option Addr) (len c : Nat) (l : List Int) (h : BV w p len c l) (hl : len ≤ 1000) :
    Calls Try.prog 26 #[.int .u8 1, .slice p len c] w fun e w' => e = .returned (.bool (kidsR 1 l)) ∧ Below w.heap.size w w' := by
  have hlen := Lib.hid h.len_eq
  have H := Lib.hid h
  clear h
  rw [show kidsR 1 l = l.all (fun k => k == 2 || k == 3) from rfl]
  go_enter Try.func26, Try.ntmps26
  go_wp2_with fail
  go_loop [5] (fun iv => ∃ i : Nat, i ≤ len ∧ iv = .int .i64 i ∧ Hid ((l.drop i).all (fun k => k == 2 || k == 3) = l.all (fun k => k == 2 || k == 3))) (fun iv => len - (intOf iv).toNat)
  case atStart => exact ⟨0, by omega, rfl, Lib.hid rfl⟩
  case round =>
    obtain ⟨i, hi, rfl, HA⟩ := hrel
    by_cases hil : i < len
    · obtain ⟨b, off, rfl, hc⟩ := H.out.cell (by omega)
      have hci := hc i hil
      have HY : Hid ((l.getD i 0 == 2 || l.getD i 0 == 3) = true → (l.drop (i + 1)).all (fun k => k == 2 || k == 3) = (l.drop i).all (fun k => k == 2 || k == 3)) := Lib.hid (fun h => all_drop_yes (fun k => k == 2 || k == 3) l i (by have := hlen.out; omega) h)
      have HN : Hid ((l.getD i 0 == 2 || l.getD i 0 == 3) = false → (l.drop i).all (fun k => k == 2 || k == 3) = false) := Lib.hid (fun h => all_drop_no (fun k => k == 2 || k == 3) l i (by have := hlen.out; omega) h)
      generalize l.getD i 0 = x at *
      clear hc
      by_cases h2 : x = 2
      · have d2 : (x != 2) = false := by simp [h2]
        have HYY := Lib.hid (HY.out (by simp [h2]))
        clear h2 HY HN
        go_wp2_with fail
        go_round
        case rel => exact ⟨i + 1, by omega, by go_num, Lib.hid (by rw [HYY.out, HA.out])⟩
        case measure => simp [intOf]; omega
      · have d2 : (x != 2) = true := by simpa using h2
        by_cases h3 : x = 3
        · have d3 : (x != 3) = false := by simp [h3]
          have HYY := Lib.hid (HY.out (by simp [h3]))
          clear h2 h3 HY HN
          go_wp2_with fail
          go_round
          case rel => exact ⟨i + 1, by omega, by go_num, Lib.hid (by rw [HYY.out, HA.out])⟩
          case measure => simp [intOf]; omega
        · have d3 : (x != 3) = true := by simpa using h3
          have HNN := Lib.hid (HN.out (by simp [h2, h3]))
          clear h2 h3 HY HN
          go_wp2
          go_ret
          exact ⟨retB (by rw [← HA.out, HNN.out]), Below.refl _ _⟩
    · have HE : Hid (l.all (fun k => k == 2 || k == 3) = true) := Lib.hid (by rw [← HA.out, List.drop_eq_nil_of_le (by have := hlen.out; omega)]; rfl)
      go_wp2
      go_ret
      exact ⟨retB HE.out.symm, Below.refl _ _⟩
set_option maxHeartbeats 8000000 in
set_option maxRecDepth 1000000 in
theorem refKids_at (w : World) (kind : Int) (p : Option Addr) (len c : Nat) (l : List Int) (h : BV w p len c l) (hl : len ≤ 1000) :
    Calls Try.prog 26 #[.int .u8 kind, .slice p len c] w fun e w' => e = .returned (.bool (kidsR kind l)) ∧ Below w.heap.size w w' := by
  by_cases h1 : kind = 1
  · subst h1; exact refKids_1 w p len c l h hl
  by_cases h2 : kind = 2
  · subst h2; exact refKids_2 w p len c l h hl
  by_cases h3 : kind = 3
  · subst h3; exact refKids_3 w p len c l h hl
  by_cases h4 : kind = 4
  · subst h4; exact refKids_4 w p len c l h hl
  by_cases h6 : kind = 6
  · subst h6; exact refKids_6 w p len c l h hl
  by_cases h7 : kind = 7
  · subst h7; exact refKids_7 w p len c l h hl
  by_cases h8 : kind = 8
  · subst h8; exact refKids_8 w p len c l h hl
  by_cases h9 : kind = 9
  · subst h9; exact refKids_9 w p len c l h hl
  by_cases h10 : kind = 10
  · subst h10; exact refKids_10 w p len c l h hl
  by_cases h11 : kind = 11
  · subst h11; exact refKids_11 w p len c l h hl
  by_cases h12 : kind = 12
  · subst h12; exact refKids_12 w p len c l h hl
  by_cases h13 : kind = 13
  · subst h13; exact refKids_13 w p len c l h hl
  by_cases h14 : kind = 14
  · subst h14; exact refKids_14 w p len c l h hl
  by_cases h15 : kind = 15
  · subst h15; exact refKids_15 w p len c l h hl
  by_cases h16 : kind = 16
  · subst h16; exact refKids_16 w p len c l h hl
  by_cases h17 : kind = 17
  · subst h17; exact refKids_17 w p len c l h hl
  by_cases h20 : kind = 20
  · subst h20; exact refKids_20 w p len c l h hl
  by_cases h23 : kind = 23
  · subst h23; exact refKids_23 w p len c l h hl
  by_cases h24 : kind = 24
  · subst h24; exact refKids_24 w p len c l h hl
  by_cases h25 : kind = 25
  · subst h25; exact refKids_25 w p len c l h hl
  by_cases h26 : kind = 26
  · subst h26; exact refKids_26 w p len c l h hl
  have e : kidsR kind l = decide (len = 0) := by
    unfold kidsR
    rw [← h.len_eq]
    simp only [h1, h2, h3, h4, h6, h7, h8, h9, h10, h11, h12, h13, h14, h15, h16, h17, h20, h23, h24, h25, h26, if_false, or_self]
  rw [e]
  have d1 : (kind == 1) = false := by simpa using h1
  have d2 : (kind == 2) = false := by simpa using h2
  have d3 : (kind == 3) = false := by simpa using h3
  have d4 : (kind == 4) = false := by simpa using h4
  have d6 : (kind == 6) = false := by simpa using h6
  have d7 : (kind == 7) = false := by simpa using h7
  have d8 : (kind == 8) = false := by simpa using h8
  have d9 : (kind == 9) = false := by simpa using h9
  have d10 : (kind == 10) = false := by simpa using h10
  have d11 : (kind == 11) = false := by simpa using h11
  have d12 : (kind == 12) = false := by simpa using h12
  have d13 : (kind == 13) = false := by simpa using h13
  have d14 : (kind == 14) = false := by simpa using h14
  have d15 : (kind == 15) = false := by simpa using h15
  have d16 : (kind == 16) = false := by simpa using h16
  have d17 : (kind == 17) = false := by simpa using h17
  have d20 : (kind == 20) = false := by simpa using h20
  have d23 : (kind == 23) = false := by simpa using h23
  have d24 : (kind == 24) = false := by simpa using h24
  have d25 : (kind == 25) = false := by simpa using h25
  have d26 : (kind == 26) = false := by simpa using h26
  clear e h h1 h2 h3 h4 h6 h7 h8 h9 h10 h11 h12 h13 h14 h15 h16 h17 h20 h23 h24 h25 h26
  by_cases h0 : len = 0
  · have d0 : ((len : Int) == 0) = true := by simp [h0]
    rw [decide_eq_true h0]
    clear h0
    go_enter Try.func26, Try.ntmps26
    go_wp2
    go_ret
    exact ⟨rfl, Below.refl _ _⟩
  · have d0 : ((len : Int) == 0) = false := by simp; omega
    rw [decide_eq_false h0]
    clear h0
    go_enter Try.func26, Try.ntmps26
    go_wp2
    go_ret
    exact ⟨rfl, Below.refl _ _⟩
end Go.Proofs.Ytijaelncmjcbmaa
