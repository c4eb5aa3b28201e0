/- Contracts on the way to the laws of layer 5: TreeU, TreeEq. -/
import Derived.Test.YthdioipfdbbmmaaGreatDoorKaa
import Derived.Test.YthdioipfdbbmmaaGreatDoorKai
import Derived.Deep.RegionHeld3
import Derived.Deep.QuietTactic
import Derived.BigQuiet
import Derived.Lib.Bytes
import Derived.Deep.AppendLies
set_option linter.all false
set_option maxRecDepth 1000000
set_option maxHeartbeats 16000000
namespace Go.Proofs.YthdioipfdbbmmaaGreatDoor
namespace Tr
open Go.RowKit
theorem take_eq_succ {xs ys : List Int} {j : Nat} (h : xs.take j = ys.take j) (hx : j < xs.length) (hy : j < ys.length) (he : xs.getD j 0 = ys.getD j 0) : xs.take (j + 1) = ys.take (j + 1) := by
 rw [List.take_succ_eq_append_getElem hx, List.take_succ_eq_append_getElem hy, h]
 simp only [List.getD, List.getElem?_eq_getElem hx, List.getElem?_eq_getElem hy, Option.getD_some] at he
 rw [he]
theorem equal_at (w : World) (p p2 : Option Addr) (l c l2 c2 : Nat) (xs ys : List Int) (h : IV w p l c xs) (h2 : IV w p2 l2 c2 ys) (hl : l ≤ 70000) :
 Calls Tryz.prog 135 #[.slice p l c, .slice p2 l2 c2] w fun e w' => e = .returned (.bool (decide (xs = ys))) ∧ Below w.heap.size w w' := by
 have hxl := lh h.len_eq
 have hyl := lh h2.len_eq
 have H := lh h
 have H2 := lh h2
 clear h h2
 by_cases hll : l = l2
 · have d0 : ((l : Int) != (l2 : Int)) = false := by simp [hll]
   have HLL := lh hll
   clear hll
   go_enter Tryz.func135, Tryz.ntmps135
   go_wp2_with fail
   clear d0
   go_loopw [13] (fun iv wr => ∃ j : Nat, j ≤ l ∧ iv = .int .i64 j ∧ Hid (xs.take j = ys.take j) ∧ Hid (Below w.heap.size w wr)) (fun iv _ => l - (intOf iv).toNat)
   case atStart => exact ⟨0, by omega, rfl, lh rfl, lh (Below.refl _ _)⟩
   case round =>
    obtain ⟨j, hj, rfl, HT, HB⟩ := hrel
    by_cases hjl : j < l
    · obtain ⟨b, off, rfl, hbl, hc⟩ := (H.out.on HB.out).cell (by omega)
      obtain ⟨b2, off2, rfl, hbl2, hc2⟩ := (H2.out.on HB.out).cell (by have := HLL.out; omega)
      have k1 := hc j hjl
      have k2 := hc2 j (by have := HLL.out; omega)
      have HTS := lh (fun he => take_eq_succ HT.out (by have := hxl.out; omega) (by have := hyl.out; have := HLL.out; omega) he)
      have HNE : Hid (xs.getD j 0 ≠ ys.getD j 0 → decide (xs = ys) = false) := lh (fun hne => decide_eq_false (fun e => hne (by rw [e])))
      generalize xs.getD j 0 = x at *
      generalize ys.getD j 0 = y at *
      have b0 : (0 : Int) ≤ (j : Int) := by omega
      have b1 : (j : Int) < (l : Int) := by omega
      have b2' : (j : Int) < (l2 : Int) := by have := HLL.out; omega
      have HBD : Hid (∀ n, Below w.heap.size w (wr.drewN n)) := lh (fun n => HB.out.trans (drewN_below _ _ _))
      clear hc hc2 hbl hbl2
      by_cases hxy : x = y
      · have d1 : (x != y) = false := by simp [hxy]
        have HTJ := lh (HTS.out hxy)
        clear hxy
        go_wp2_with fail
        go_quiet (fail)
        go_wp2_with fail
        go_roundw
        case rel => exact ⟨j + 1, by omega, by go_num, HTJ, lh (HBD.out nq)⟩
        case measure => simp [intOf]; omega
      · have d1 : (x != y) = true := by simpa using hxy
        have HNO := lh (HNE.out hxy)
        clear hxy
        go_wp2_with fail
        go_quiet (fail)
        go_wp2
        go_ret
        exact ⟨retB HNO.out.symm, HBD.out nq⟩
    · have hje : j = l := by omega
      have HE : Hid (decide (xs = ys) = true) := lh (by
       have h1 := HT.out
       rw [hje, List.take_of_length_le (by have := hxl.out; omega), List.take_of_length_le (by have := hyl.out; have := HLL.out; omega)] at h1
       rw [h1]; simp)
      clear hje
      go_wp2
      go_ret
      exact ⟨retB HE.out.symm, HB.out⟩
 · have d0 : ((l : Int) != (l2 : Int)) = true := by simp; omega
   have HNO : Hid (decide (xs = ys) = false) := lh (decide_eq_false (fun e => hll (by rw [← hxl.out, ← hyl.out, e])))
   clear hll
   go_enter Tryz.func135, Tryz.ntmps135
   go_wp2
   go_ret
   exact ⟨retB HNO.out.symm, Below.refl _ _⟩
def sameNd (a b : Nd) : Bool := a.kind == b.kind && (decide (a.text = b.text) && (a.n == b.n && decide (a.kids = b.kids)))
def ndV (nd : Nd) (kp : Option Addr) (kl kc : Nat) : Value := .agg #[.int .u8 nd.kind, .int .i64 nd.at', .string nd.text, .int .i64 nd.n, .slice kp kl kc]
theorem text_eq (s t : ByteArray) : (s.toList == t.toList) = decide (s = t) := by
 by_cases h : s = t
 · subst h; simp
 · rw [decide_eq_false h]
   rw [beq_eq_false_iff_ne]
   intro e
   apply h
   rw [← bytesI_str s, ← bytesI_str t, Lib.strOfNums_toList, Lib.strOfNums_toList] at e
   have hl : ∀ u : ByteArray, ∀ x ∈ bytesI u, 0 ≤ x ∧ x < 256 := fun u x hx => by
    obtain ⟨i, hi, rfl⟩ := List.mem_iff_getElem.1 hx
    have := bytesI_byte u i
    simpa [List.getD, hi] using this
   have inj : ∀ (a b : List Int), (∀ x ∈ a, 0 ≤ x ∧ x < 256) → (∀ x ∈ b, 0 ≤ x ∧ x < 256) → Lib.bytesOf a = Lib.bytesOf b → a = b := by
    intro a
    induction a with
    | nil => intro b _ _ h; cases b with
     | nil => rfl
     | cons y b => simp [Lib.bytesOf] at h
    | cons x a ih => intro b ha hb h; cases b with
     | nil => simp [Lib.bytesOf] at h
     | cons y b =>
      simp only [Lib.bytesOf, List.map_cons, List.cons.injEq] at h
      have hx := ha x (by simp)
      have hy := hb y (by simp)
      have e := congrArg UInt8.toNat h.1
      simp at e
      rw [ih b (fun z hz => ha z (by simp [hz])) (fun z hz => hb z (by simp [hz])) h.2, show x = y by omega]
   have := inj _ _ (hl s) (hl t) e
   rw [← bytesI_str s, ← bytesI_str t, this]
theorem sameNode_at (w : World) (a b : Nd) (p p2 : Option Addr) (l c l2 c2 : Nat) (h : IV w p l c a.kids) (h2 : IV w p2 l2 c2 b.kids) (hl : l ≤ 70000) :
 Calls Tryz.prog 76 #[ndV a p l c, ndV b p2 l2 c2] w fun e w' => e = .returned (.bool (sameNd a b)) ∧ Below w.heap.size w w' := by
 have HE : Hid (∀ W, Below w.heap.size w W → Calls Tryz.prog 135 #[.slice p l c, .slice p2 l2 c2] W fun e w' => e = .returned (.bool (decide (a.kids = b.kids))) ∧ Below W.heap.size W w') := lh (fun W hb => equal_at W p p2 l c l2 c2 _ _ (h.on hb) (h2.on hb) hl)
 have B0 : Hid (Below w.heap.size w ((w.alloc (.cells #[.int .u8 a.kind, .int .i64 a.at', .string a.text, .int .i64 a.n, .slice p l c] 54)).alloc (.cells #[.int .u8 b.kind, .int .i64 b.at', .string b.text, .int .i64 b.n, .slice p2 l2 c2] 54))) := lh ((one_below w _).alloc (by simp) _)
 clear h h2
 unfold ndV sameNd
 by_cases h1 : a.kind = b.kind
 · have e1 : (a.kind == b.kind) = true := by simpa using h1
   by_cases h2 : a.text = b.text
   · have e2 : (a.text.toList == b.text.toList) = true := by rw [text_eq]; simpa using h2
     by_cases h3 : a.n = b.n
     · have e3 : (a.n == b.n) = true := by simpa using h3
       have fin : (a.kind == b.kind && (decide (a.text = b.text) && (a.n == b.n && decide (a.kids = b.kids)))) = decide (a.kids = b.kids) := by rw [e1, decide_eq_true h2, e3]; rfl
       rw [fin]
       clear fin h1 h2 h3
       have HQ := lh (HE.out _ B0.out)
       go_enter Tryz.func76, Tryz.ntmps76
       go_wp2_with fail
       (with_reducible refine HQ.out.mono ?_)
       rintro e w' ⟨rfl, hb⟩
       have B1 := lh (B0.out.trans (hb.mono (by simp; omega)))
       clear hb HQ HE
       go_wp2
       go_ret
       exact ⟨rfl, B1.out⟩
     · have e3 : (a.n == b.n) = false := by simpa using h3
       have fin : (a.kind == b.kind && (decide (a.text = b.text) && (a.n == b.n && decide (a.kids = b.kids)))) = false := by rw [e3]; simp
       rw [fin]
       clear fin h1 h2 h3
       go_enter Tryz.func76, Tryz.ntmps76
       go_wp2
       go_ret
       exact ⟨rfl, B0.out⟩
   · have e2 : (a.text.toList == b.text.toList) = false := by rw [text_eq]; simpa using h2
     have fin : (a.kind == b.kind && (decide (a.text = b.text) && (a.n == b.n && decide (a.kids = b.kids)))) = false := by rw [decide_eq_false h2]; simp
     rw [fin]
     clear fin h1 h2
     go_enter Tryz.func76, Tryz.ntmps76
     go_wp2
     go_ret
     exact ⟨rfl, B0.out⟩
 · have e1 : (a.kind == b.kind) = false := by simpa using h1
   have fin : (a.kind == b.kind && (decide (a.text = b.text) && (a.n == b.n && decide (a.kids = b.kids)))) = false := by rw [e1]; rfl
   rw [fin]
   clear fin h1
   go_enter Tryz.func76, Tryz.ntmps76
   go_wp2
   go_ret
   exact ⟨rfl, B0.out⟩
end Tr
namespace Tr
open Go.RowKit
structure Small (ns : List Nd) : Prop where
 len : ns.length ≤ 70000
 each : ∀ nd ∈ ns, nd.kids.length ≤ 70000
def sameP (ns ms : List Nd) : Bool := decide (ns.length = ms.length) && (List.range ns.length).all fun i => sameNd (ns.getD i default) (ms.getD i default)
theorem range_all_succ (f : Nat → Bool) (j : Nat) : (List.range (j + 1)).all f = ((List.range j).all f && f j) := by
 rw [List.range_succ, List.all_append]; simp
theorem range_all_no (f : Nat → Bool) (n j : Nat) (hj : j < n) (h : f j = false) : (List.range n).all f = false := by
 rw [List.all_eq_false]
 exact ⟨j, List.mem_range.2 hj, by rw [h]; simp⟩
theorem equalFunc_at (w : World) (p p2 : Option Addr) (len c len2 c2 : Nat) (ns ms : List Nd) (h : TV w p len c ns) (h2 : TV w p2 len2 c2 ms) (hS : Small ns) :
 Calls Tryz.prog 75 #[.slice p len c, .slice p2 len2 c2, .func (.func 76) #[] #[]] w fun e w' => e = .returned (.bool (sameP ns ms)) ∧ Below w.heap.size w w' := by
 have hlen := lh h.len_eq
 have hlen2 := lh h2.len_eq
 have H := lh h
 have H2 := lh h2
 have HS := lh hS
 have hl1 : len ≤ 70000 := by rw [← h.len_eq]; exact hS.len
 clear h h2 hS
 by_cases hll : len = len2
 · have d0 : ((len : Int) != (len2 : Int)) = false := by simp [hll]
   have HLL := lh hll
   clear hll
   go_enter Tryz.func75, Tryz.ntmps75
   go_wp2_with fail
   clear d0
   go_loopw [17] (fun iv wr => ∃ j : Nat, j ≤ len ∧ iv = .int .i64 j ∧ Hid ((List.range j).all (fun i => sameNd (ns.getD i default) (ms.getD i default)) = true) ∧ Hid (Below w.heap.size w wr)) (fun iv _ => len - (intOf iv).toNat)
   case atStart => exact ⟨0, by omega, rfl, lh rfl, lh (Below.refl _ _)⟩
   case round =>
    obtain ⟨j, hj, rfl, HT, HB⟩ := hrel
    by_cases hjl : j < len
    · obtain ⟨b, off, rfl, hbl, hc⟩ := (H.out.on HB.out).node (by omega)
      obtain ⟨b2, off2, rfl, hbl2, hc2⟩ := (H2.out.on HB.out).node (by have := HLL.out; omega)
      obtain ⟨kp, kl, kc, hn⟩ := hc j hjl
      obtain ⟨kp2, kl2, kc2, hn2⟩ := hc2 j (by have := HLL.out; omega)
      have hkb := (HS.out.each (ns.getD j default) (by have : j < ns.length := by (have := hlen.out; omega)
                                                       simp [List.getD, this]))
      have HSU : Hid ((List.range (j + 1)).all (fun i => sameNd (ns.getD i default) (ms.getD i default)) = ((List.range j).all (fun i => sameNd (ns.getD i default) (ms.getD i default)) && sameNd (ns.getD j default) (ms.getD j default))) := lh (range_all_succ _ j)
      have HNO : Hid (sameNd (ns.getD j default) (ms.getD j default) = false → (List.range ns.length).all (fun i => sameNd (ns.getD i default) (ms.getD i default)) = false) := lh (fun h => range_all_no _ ns.length j (by have := hlen.out; omega) h)
      generalize ns.getD j default = a at *
      generalize ms.getD j default = e0 at *
      have k0 := hn.kind
      have k1 := hn.at'
      have k2 := hn.text
      have k3 := hn.n
      have k4 := hn.kids
      have m0 := hn2.kind
      have m1 := hn2.at'
      have m2 := hn2.text
      have m3 := hn2.n
      have m4 := hn2.kids
      have hj2 : (j : Int) < (len2 : Int) := by have := HLL.out; omega
      have B0 : Below wr.heap.size wr ((wr.alloc (.cells #[.int .u8 a.kind, .int .i64 a.at', .string a.text, .int .i64 a.n, .slice kp kl kc] 54)).alloc (.cells #[.int .u8 e0.kind, .int .i64 e0.at', .string e0.text, .int .i64 e0.n, .slice kp2 kl2 kc2] 54)) := (one_below wr _).alloc (by simp) _
      have HSN := lh (sameNode_at _ a e0 kp kp2 kl kc kl2 kc2 (hn.iv.on B0) (hn2.iv.on B0) (by have := hn.iv.len_eq; omega))
      have HB0 := lh (HB.out.trans (B0.mono HB.out.size))
      unfold ndV at HSN
      have n0 : ((wr.alloc (.cells #[.int .u8 a.kind, .int .i64 a.at', .string a.text, .int .i64 a.n, .slice kp kl kc] 54))).cell? ⟨b2, off2 + j * 5, none⟩ = some (.int .u8 e0.kind) := by rw [World.cell?_alloc_past _ _ _ hbl2]; exact m0
      have n1 : ((wr.alloc (.cells #[.int .u8 a.kind, .int .i64 a.at', .string a.text, .int .i64 a.n, .slice kp kl kc] 54))).cell? ⟨b2, off2 + j * 5 + 1, none⟩ = some (.int .i64 e0.at') := by rw [World.cell?_alloc_past _ _ _ hbl2]; exact m1
      have n2 : ((wr.alloc (.cells #[.int .u8 a.kind, .int .i64 a.at', .string a.text, .int .i64 a.n, .slice kp kl kc] 54))).cell? ⟨b2, off2 + j * 5 + 2, none⟩ = some (.string e0.text) := by rw [World.cell?_alloc_past _ _ _ hbl2]; exact m2
      have n3 : ((wr.alloc (.cells #[.int .u8 a.kind, .int .i64 a.at', .string a.text, .int .i64 a.n, .slice kp kl kc] 54))).cell? ⟨b2, off2 + j * 5 + 3, none⟩ = some (.int .i64 e0.n) := by rw [World.cell?_alloc_past _ _ _ hbl2]; exact m3
      have n4 : ((wr.alloc (.cells #[.int .u8 a.kind, .int .i64 a.at', .string a.text, .int .i64 a.n, .slice kp kl kc] 54))).cell? ⟨b2, off2 + j * 5 + 4, none⟩ = some (.slice kp2 kl2 kc2) := by rw [World.cell?_alloc_past _ _ _ hbl2]; exact m4
      clear hn hn2 hc hc2 B0
      go_wp2_with fail
      (with_reducible refine HSN.out.mono ?_)
      rintro e w5 ⟨rfl, hb⟩
      have HB5 := lh (HB0.out.trans (hb.mono HB0.out.size))
      clear hb HSN
      cases hsn : sameNd a e0 with
      | true =>
       have HT2 : Hid ((List.range (j + 1)).all (fun i => sameNd (ns.getD i default) (ms.getD i default)) = true) := lh (by rw [HSU.out, HT.out, hsn]; rfl)
       clear hsn
       go_wp2_with fail
       go_roundw
       case rel => exact ⟨j + 1, by omega, by go_num, HT2, HB5⟩
       case measure => simp [intOf]; omega
      | false =>
       have HF : Hid (sameP ns ms = false) := lh (by unfold sameP; rw [HNO.out hsn, Bool.and_false])
       clear hsn
       go_wp2
       go_ret
       exact ⟨retB HF.out.symm, HB5.out⟩
    · have HE : Hid (sameP ns ms = true) := lh (by
       have e : j = ns.length := by have := hlen.out; omega
       unfold sameP
       rw [← e, HT.out, decide_eq_true (by rw [e, hlen.out, hlen2.out, HLL.out])]
       rfl)
      go_wp2
      go_ret
      exact ⟨retB HE.out.symm, HB.out⟩
 · have d0 : ((len : Int) != (len2 : Int)) = true := by simp; omega
   have HNO : Hid (sameP ns ms = false) := lh (by unfold sameP; rw [decide_eq_false (by rw [hlen.out, hlen2.out]; exact hll)]; rfl)
   clear hll
   go_enter Tryz.func75, Tryz.ntmps75
   go_wp2
   go_ret
   exact ⟨retB HNO.out.symm, Below.refl _ _⟩
theorem same_at (w : World) (p p2 : Option Addr) (len c len2 c2 : Nat) (ns ms : List Nd) (h : TV w p len c ns) (h2 : TV w p2 len2 c2 ms) (hS : Small ns) :
 Calls Tryz.prog 32 #[.agg #[.slice p len c], .agg #[.slice p2 len2 c2]] w fun e w' => e = .returned (.bool (sameP ns ms)) ∧ Below w.heap.size w w' := by
 have hb : Below w.heap.size w ((w.alloc (.cells #[.slice p len c] 39)).alloc (.cells #[.slice p2 len2 c2] 39)) := (one_below w _).alloc (by simp) _
 have HQ := lh (equalFunc_at _ p p2 len c len2 c2 ns ms (h.on hb) (h2.on hb) hS)
 have HB := lh hb
 clear h h2 hb
 go_enter Tryz.func32, Tryz.ntmps32
 go_wp2_with fail
 (with_reducible refine HQ.out.mono ?_)
 rintro e w' ⟨rfl, hb⟩
 have B1 := lh (HB.out.trans (hb.mono (by simp; omega)))
 clear hb HQ
 go_wp2
 go_ret
 exact ⟨rfl, B1.out⟩
end Tr
end Go.Proofs.YthdioipfdbbmmaaGreatDoor
