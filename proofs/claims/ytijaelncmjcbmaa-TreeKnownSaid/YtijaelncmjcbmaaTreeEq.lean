import Derived.Test.YtijaelncmjcbmaaTreeU
import Derived.Deep.AppendLies
namespace Go.Proofs.Ytijaelncmjcbmaa
open Go.RowKit
def sameP (ns ms : List Nd) : Bool := decide (ns.length = ms.length) && (List.range ns.length).all fun i => sameNd (ns.getD i default) (ms.getD i default)
theorem range_all_succ (f : Nat → Bool) (j : Nat) : (List.range (j + 1)).all f = ((List.range j).all f && f j) := by
  rw [List.range_succ, List.all_append]; simp
theorem range_all_no (f : Nat → Bool) (n j : Nat) (hj : j < n) (h : f j = false) : (List.range n).all f = false := by
  rw [List.all_eq_false]
  exact ⟨j, List.mem_range.2 hj, by rw [h]; simp⟩
set_option maxHeartbeats 8000000 in
set_option maxRecDepth 1000000 in
theorem equalFunc_at (w : World) (p p2 : Option Addr) (len c len2 c2 : Nat) (ns ms : List Nd) (h : TV w p len c ns) (h2 : TV w p2 len2 c2 ms) (hS : Small ns) :
    Calls Try.prog 30 #[.slice p len c, .slice p2 len2 c2, .func (.func 31) #[] #[]] w fun e w' => e = .returned (.bool (sameP ns ms)) ∧ Below w.heap.size w w' := by
  have hlen := Lib.hid h.len_eq
  have hlen2 := Lib.hid h2.len_eq
  have H := Lib.hid h
  have H2 := Lib.hid h2
  have HS := Lib.hid hS
  have hl1 : len ≤ 1000 := by rw [← h.len_eq]; exact hS.len
  clear h h2 hS
  by_cases hll : len = len2
  · have d0 : ((len : Int) != (len2 : Int)) = false := by simp [hll]
    have HLL := Lib.hid hll
    clear hll
    go_enter Try.func30, Try.ntmps30
    go_wp2_with fail
    clear d0
    go_loopw [17] (fun iv wr => ∃ j : Nat, j ≤ len ∧ iv = .int .i64 j ∧ Hid ((List.range j).all (fun i => sameNd (ns.getD i default) (ms.getD i default)) = true) ∧ Hid (Below w.heap.size w wr)) (fun iv _ => len - (intOf iv).toNat)
    case atStart => exact ⟨0, by omega, rfl, Lib.hid rfl, Lib.hid (Below.refl _ _)⟩
    case round =>
      obtain ⟨j, hj, rfl, HT, HB⟩ := hrel
      by_cases hjl : j < len
      · obtain ⟨b, off, rfl, hbl, hc⟩ := (H.out.on HB.out).node (by omega)
        obtain ⟨b2, off2, rfl, hbl2, hc2⟩ := (H2.out.on HB.out).node (by have := HLL.out; omega)
        obtain ⟨kp, kl, kc, hn⟩ := hc j hjl
        obtain ⟨kp2, kl2, kc2, hn2⟩ := hc2 j (by have := HLL.out; omega)
        have hkb := (HS.out.each (ns.getD j default) (by have : j < ns.length := by (have := hlen.out; omega)
                                                         simp [List.getD, this])).1
        have HSU : Hid ((List.range (j + 1)).all (fun i => sameNd (ns.getD i default) (ms.getD i default)) = ((List.range j).all (fun i => sameNd (ns.getD i default) (ms.getD i default)) && sameNd (ns.getD j default) (ms.getD j default))) := Lib.hid (range_all_succ _ j)
        have HNO : Hid (sameNd (ns.getD j default) (ms.getD j default) = false → (List.range ns.length).all (fun i => sameNd (ns.getD i default) (ms.getD i default)) = false) := Lib.hid (fun h => range_all_no _ ns.length j (by have := hlen.out; omega) h)
        generalize ns.getD j default = a at *
        generalize ms.getD j default = e0 at *
        have k0 := hn.kind
        have k1 := hn.at'
        have k2 := hn.text
        have k3 := hn.n
        have k4 := hn.kids
        have m0 := hn2.kind
        have m1 := hn2.at'
        have m2 := hn2.text
        have m3 := hn2.n
        have m4 := hn2.kids
        have hj2 : (j : Int) < (len2 : Int) := by have := HLL.out; omega
        have B0 : Below wr.heap.size wr ((wr.alloc (.cells #[.int .u8 a.kind, .int .i64 a.at', .string a.text, .int .i64 a.n, .slice kp kl kc] 37)).alloc (.cells #[.int .u8 e0.kind, .int .i64 e0.at', .string e0.text, .int .i64 e0.n, .slice kp2 kl2 kc2] 37)) := (one_below wr _).alloc (by simp) _
        have HSN := Lib.hid (sameNode_at _ a e0 kp kp2 kl kc kl2 kc2 (hn.iv.on B0) (hn2.iv.on B0) (by have := hn.iv.len_eq; omega))
        have HB0 := Lib.hid (HB.out.trans (B0.mono HB.out.size))
        unfold ndV at HSN
        have n0 : ((wr.alloc (.cells #[.int .u8 a.kind, .int .i64 a.at', .string a.text, .int .i64 a.n, .slice kp kl kc] 37))).cell? ⟨b2, off2 + j * 5, none⟩ = some (.int .u8 e0.kind) := by rw [World.cell?_alloc_past _ _ _ hbl2]; exact m0
        have n1 : ((wr.alloc (.cells #[.int .u8 a.kind, .int .i64 a.at', .string a.text, .int .i64 a.n, .slice kp kl kc] 37))).cell? ⟨b2, off2 + j * 5 + 1, none⟩ = some (.int .i64 e0.at') := by rw [World.cell?_alloc_past _ _ _ hbl2]; exact m1
        have n2 : ((wr.alloc (.cells #[.int .u8 a.kind, .int .i64 a.at', .string a.text, .int .i64 a.n, .slice kp kl kc] 37))).cell? ⟨b2, off2 + j * 5 + 2, none⟩ = some (.string e0.text) := by rw [World.cell?_alloc_past _ _ _ hbl2]; exact m2
        have n3 : ((wr.alloc (.cells #[.int .u8 a.kind, .int .i64 a.at', .string a.text, .int .i64 a.n, .slice kp kl kc] 37))).cell? ⟨b2, off2 + j * 5 + 3, none⟩ = some (.int .i64 e0.n) := by rw [World.cell?_alloc_past _ _ _ hbl2]; exact m3
        have n4 : ((wr.alloc (.cells #[.int .u8 a.kind, .int .i64 a.at', .string a.text, .int .i64 a.n, .slice kp kl kc] 37))).cell? ⟨b2, off2 + j * 5 + 4, none⟩ = some (.slice kp2 kl2 kc2) := by rw [World.cell?_alloc_past _ _ _ hbl2]; exact m4
        clear hn hn2 hc hc2 B0
        go_wp2_with fail
        (with_reducible refine HSN.out.mono ?_)
        rintro e w5 ⟨rfl, hb⟩
        have HB5 := Lib.hid (HB0.out.trans (hb.mono HB0.out.size))
        clear hb HSN
        cases hsn : sameNd a e0 with
        | true =>
          have HT2 : Hid ((List.range (j + 1)).all (fun i => sameNd (ns.getD i default) (ms.getD i default)) = true) := Lib.hid (by rw [HSU.out, HT.out, hsn]; rfl)
          clear hsn
          go_wp2_with fail
          go_roundw
          case rel => exact ⟨j + 1, by omega, by go_num, HT2, HB5⟩
          case measure => simp [intOf]; omega
        | false =>
          have HF : Hid (sameP ns ms = false) := Lib.hid (by unfold sameP; rw [HNO.out hsn, Bool.and_false])
          clear hsn
          go_wp2
          go_ret
          exact ⟨retB HF.out.symm, HB5.out⟩
      · have HE : Hid (sameP ns ms = true) := Lib.hid (by
          have e : j = ns.length := by have := hlen.out; omega
          unfold sameP
          rw [← e, HT.out, decide_eq_true (by rw [e, hlen.out, hlen2.out, HLL.out])]
          rfl)
        go_wp2
        go_ret
        exact ⟨retB HE.out.symm, HB.out⟩
  · have d0 : ((len : Int) != (len2 : Int)) = true := by simp; omega
    have HNO : Hid (sameP ns ms = false) := Lib.hid (by unfold sameP; rw [decide_eq_false (by rw [hlen.out, hlen2.out]; exact hll)]; rfl)
    clear hll
    go_enter Try.func30, Try.ntmps30
    go_wp2
    go_ret
    exact ⟨retB HNO.out.symm, Below.refl _ _⟩
set_option maxHeartbeats 4000000 in
theorem same_at (w : World) (p p2 : Option Addr) (len c len2 c2 : Nat) (ns ms : List Nd) (h : TV w p len c ns) (h2 : TV w p2 len2 c2 ms) (hS : Small ns) :
    Calls Try.prog 17 #[.agg #[.slice p len c], .agg #[.slice p2 len2 c2]] w fun e w' => e = .returned (.bool (sameP ns ms)) ∧ Below w.heap.size w w' := by
  have hb : Below w.heap.size w ((w.alloc (.cells #[.slice p len c] 24)).alloc (.cells #[.slice p2 len2 c2] 24)) := (one_below w _).alloc (by simp) _
  have HQ := Lib.hid (equalFunc_at _ p p2 len c len2 c2 ns ms (h.on hb) (h2.on hb) hS)
  have HB := Lib.hid hb
  clear h h2 hb
  go_enter Try.func17, Try.ntmps17
  go_wp2_with fail
  (with_reducible refine HQ.out.mono ?_)
  rintro e w' ⟨rfl, hb⟩
  have B1 := Lib.hid (HB.out.trans (hb.mono (by simp; omega)))
  clear hb HQ
  go_wp2
  go_ret
  exact ⟨rfl, B1.out⟩
end Go.Proofs.Ytijaelncmjcbmaa
