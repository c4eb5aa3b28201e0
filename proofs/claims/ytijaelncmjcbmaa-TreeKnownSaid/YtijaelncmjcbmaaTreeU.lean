import Derived.Test.YtijaelncmjcbmaaTreeR
import Derived.Deep.RegionHeld3
namespace Go.Proofs.Ytijaelncmjcbmaa
open Go.RowKit
theorem take_eq_succ {xs ys : List Int} {j : Nat} (h : xs.take j = ys.take j) (hx : j < xs.length) (hy : j < ys.length) (he : xs.getD j 0 = ys.getD j 0) : xs.take (j + 1) = ys.take (j + 1) := by
  rw [List.take_succ_eq_append_getElem hx, List.take_succ_eq_append_getElem hy, h]
  simp only [List.getD, List.getElem?_eq_getElem hx, List.getElem?_eq_getElem hy, Option.getD_some] at he
  rw [he]
set_option maxHeartbeats 4000000 in
theorem equal_at (w : World) (p p2 : Option Addr) (l c l2 c2 : Nat) (xs ys : List Int) (h : IV w p l c xs) (h2 : IV w p2 l2 c2 ys) (hl : l ≤ 70000) :
    Calls Try.prog 38 #[.slice p l c, .slice p2 l2 c2] w fun e w' => e = .returned (.bool (decide (xs = ys))) ∧ Below w.heap.size w w' := by
  have hxl := Lib.hid h.len_eq
  have hyl := Lib.hid h2.len_eq
  have H := Lib.hid h
  have H2 := Lib.hid h2
  clear h h2
  by_cases hll : l = l2
  · have d0 : ((l : Int) != (l2 : Int)) = false := by simp [hll]
    have HLL := Lib.hid hll
    clear hll
    go_enter Try.func38, Try.ntmps38
    go_wp2_with fail
    clear d0
    go_loopw [13] (fun iv wr => ∃ j : Nat, j ≤ l ∧ iv = .int .i64 j ∧ Hid (xs.take j = ys.take j) ∧ Hid (Below w.heap.size w wr)) (fun iv _ => l - (intOf iv).toNat)
    case atStart => exact ⟨0, by omega, rfl, Lib.hid rfl, Lib.hid (Below.refl _ _)⟩
    case round =>
      obtain ⟨j, hj, rfl, HT, HB⟩ := hrel
      by_cases hjl : j < l
      · obtain ⟨b, off, rfl, hbl, hc⟩ := (H.out.on HB.out).cell (by omega)
        obtain ⟨b2, off2, rfl, hbl2, hc2⟩ := (H2.out.on HB.out).cell (by have := HLL.out; omega)
        have k1 := hc j hjl
        have k2 := hc2 j (by have := HLL.out; omega)
        have HTS := Lib.hid (fun he => take_eq_succ HT.out (by have := hxl.out; omega) (by have := hyl.out; have := HLL.out; omega) he)
        have HNE : Hid (xs.getD j 0 ≠ ys.getD j 0 → decide (xs = ys) = false) := Lib.hid (fun hne => decide_eq_false (fun e => hne (by rw [e])))
        generalize xs.getD j 0 = x at *
        generalize ys.getD j 0 = y at *
        have b0 : (0 : Int) ≤ (j : Int) := by omega
        have b1 : (j : Int) < (l : Int) := by omega
        have b2' : (j : Int) < (l2 : Int) := by have := HLL.out; omega
        have HBD : Hid (∀ n, Below w.heap.size w (wr.drewN n)) := Lib.hid (fun n => HB.out.trans (drewN_below _ _ _))
        clear hc hc2 hbl hbl2
        by_cases hxy : x = y
        · have d1 : (x != y) = false := by simp [hxy]
          have HTJ := Lib.hid (HTS.out hxy)
          clear hxy
          go_wp2_with fail
          go_quiet (fail)
          go_wp2_with fail
          go_roundw
          case rel => exact ⟨j + 1, by omega, by go_num, HTJ, Lib.hid (HBD.out nq)⟩
          case measure => simp [intOf]; omega
        · have d1 : (x != y) = true := by simpa using hxy
          have HNO := Lib.hid (HNE.out hxy)
          clear hxy
          go_wp2_with fail
          go_quiet (fail)
          go_wp2
          go_ret
          exact ⟨retB HNO.out.symm, HBD.out nq⟩
      · have hje : j = l := by omega
        have HE : Hid (decide (xs = ys) = true) := Lib.hid (by
          have h1 := HT.out
          rw [hje, List.take_of_length_le (by have := hxl.out; omega), List.take_of_length_le (by have := hyl.out; have := HLL.out; omega)] at h1
          rw [h1]; simp)
        clear hje
        go_wp2
        go_ret
        exact ⟨retB HE.out.symm, HB.out⟩
  · have d0 : ((l : Int) != (l2 : Int)) = true := by simp; omega
    have HNO : Hid (decide (xs = ys) = false) := Lib.hid (decide_eq_false (fun e => hll (by rw [← hxl.out, ← hyl.out, e])))
    clear hll
    go_enter Try.func38, Try.ntmps38
    go_wp2
    go_ret
    exact ⟨retB HNO.out.symm, Below.refl _ _⟩
def sameNd (a b : Nd) : Bool := a.kind == b.kind && (decide (a.text = b.text) && (a.n == b.n && decide (a.kids = b.kids)))
def ndV (nd : Nd) (kp : Option Addr) (kl kc : Nat) : Value := .agg #[.int .u8 nd.kind, .int .i64 nd.at', .string nd.text, .int .i64 nd.n, .slice kp kl kc]
theorem text_eq (s t : ByteArray) : (s.toList == t.toList) = decide (s = t) := by
  by_cases h : s = t
  · subst h; simp
  · rw [decide_eq_false h]
    rw [beq_eq_false_iff_ne]
    intro e
    apply h
    rw [← bytesI_str s, ← bytesI_str t, Lib.strOfNums_toList, Lib.strOfNums_toList] at e
    have hl : ∀ u : ByteArray, ∀ x ∈ bytesI u, 0 ≤ x ∧ x < 256 := fun u x hx => by
      obtain ⟨i, hi, rfl⟩ := List.mem_iff_getElem.1 hx
      have := bytesI_byte u i
      simpa [List.getD, hi] using this
    have inj : ∀ (a b : List Int), (∀ x ∈ a, 0 ≤ x ∧ x < 256) → (∀ x ∈ b, 0 ≤ x ∧ x < 256) → Lib.bytesOf a = Lib.bytesOf b → a = b := by
      intro a
      induction a with
      | nil => intro b _ _ h; cases b with
        | nil => rfl
        | cons y b => simp [Lib.bytesOf] at h
      | cons x a ih => intro b ha hb h; cases b with
        | nil => simp [Lib.bytesOf] at h
        | cons y b =>
          simp only [Lib.bytesOf, List.map_cons, List.cons.injEq] at h
          have hx := ha x (by simp)
          have hy := hb y (by simp)
          have e := congrArg UInt8.toNat h.1
          simp at e
          rw [ih b (fun z hz => ha z (by simp [hz])) (fun z hz => hb z (by simp [hz])) h.2, show x = y by omega]
    have := inj _ _ (hl s) (hl t) e
    rw [← bytesI_str s, ← bytesI_str t, this]
set_option maxHeartbeats 4000000 in
theorem sameNode_at (w : World) (a b : Nd) (p p2 : Option Addr) (l c l2 c2 : Nat) (h : IV w p l c a.kids) (h2 : IV w p2 l2 c2 b.kids) (hl : l ≤ 70000) :
    Calls Try.prog 31 #[ndV a p l c, ndV b p2 l2 c2] w fun e w' => e = .returned (.bool (sameNd a b)) ∧ Below w.heap.size w w' := by
  have HE : Hid (∀ W, Below w.heap.size w W → Calls Try.prog 38 #[.slice p l c, .slice p2 l2 c2] W fun e w' => e = .returned (.bool (decide (a.kids = b.kids))) ∧ Below W.heap.size W w') := Lib.hid (fun W hb => equal_at W p p2 l c l2 c2 _ _ (h.on hb) (h2.on hb) hl)
  have B0 : Hid (Below w.heap.size w ((w.alloc (.cells #[.int .u8 a.kind, .int .i64 a.at', .string a.text, .int .i64 a.n, .slice p l c] 37)).alloc (.cells #[.int .u8 b.kind, .int .i64 b.at', .string b.text, .int .i64 b.n, .slice p2 l2 c2] 37))) := Lib.hid ((one_below w _).alloc (by simp) _)
  clear h h2
  unfold ndV sameNd
  by_cases h1 : a.kind = b.kind
  · have e1 : (a.kind == b.kind) = true := by simpa using h1
    by_cases h2 : a.text = b.text
    · have e2 : (a.text.toList == b.text.toList) = true := by rw [text_eq]; simpa using h2
      by_cases h3 : a.n = b.n
      · have e3 : (a.n == b.n) = true := by simpa using h3
        have fin : (a.kind == b.kind && (decide (a.text = b.text) && (a.n == b.n && decide (a.kids = b.kids)))) = decide (a.kids = b.kids) := by rw [e1, decide_eq_true h2, e3]; rfl
        rw [fin]
        clear fin h1 h2 h3
        have HQ := Lib.hid (HE.out _ B0.out)
        go_enter Try.func31, Try.ntmps31
        go_wp2_with fail
        (with_reducible refine HQ.out.mono ?_)
        rintro e w' ⟨rfl, hb⟩
        have B1 := Lib.hid (B0.out.trans (hb.mono (by simp; omega)))
        clear hb HQ HE
        go_wp2
        go_ret
        exact ⟨rfl, B1.out⟩
      · have e3 : (a.n == b.n) = false := by simpa using h3
        have fin : (a.kind == b.kind && (decide (a.text = b.text) && (a.n == b.n && decide (a.kids = b.kids)))) = false := by rw [e3]; simp
        rw [fin]
        clear fin h1 h2 h3
        go_enter Try.func31, Try.ntmps31
        go_wp2
        go_ret
        exact ⟨rfl, B0.out⟩
    · have e2 : (a.text.toList == b.text.toList) = false := by rw [text_eq]; simpa using h2
      have fin : (a.kind == b.kind && (decide (a.text = b.text) && (a.n == b.n && decide (a.kids = b.kids)))) = false := by rw [decide_eq_false h2]; simp
      rw [fin]
      clear fin h1 h2
      go_enter Try.func31, Try.ntmps31
      go_wp2
      go_ret
      exact ⟨rfl, B0.out⟩
  · have e1 : (a.kind == b.kind) = false := by simpa using h1
    have fin : (a.kind == b.kind && (decide (a.text = b.text) && (a.n == b.n && decide (a.kids = b.kids)))) = false := by rw [e1]; rfl
    rw [fin]
    clear fin h1
    go_enter Try.func31, Try.ntmps31
    go_wp2
    go_ret
    exact ⟨rfl, B0.out⟩
end Go.Proofs.Ytijaelncmjcbmaa
