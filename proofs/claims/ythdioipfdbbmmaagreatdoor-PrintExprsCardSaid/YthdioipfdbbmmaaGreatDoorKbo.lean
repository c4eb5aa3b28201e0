/- Contracts on the way to the laws of layer 5: PrintAp, PrintAf, PrintAt. -/
import Derived.Test.YthdioipfdbbmmaaGreatDoorKaa
import Derived.Test.YthdioipfdbbmmaaGreatDoorKah
import Derived.Test.YthdioipfdbbmmaaGreatDoorKai
import Derived.Test.YthdioipfdbbmmaaGreatDoorKaw
import Derived.Test.YthdioipfdbbmmaaGreatDoorKbf
import Derived.Test.YthdioipfdbbmmaaGreatDoorKbg
import Derived.Test.YthdioipfdbbmmaaGreatDoorKbk
import Derived.Test.YthdioipfdbbmmaaGreatDoorKbl
import Derived.Deep.AppendLies
import Derived.OwnWalk
set_option linter.all false
set_option maxRecDepth 1000000
set_option maxHeartbeats 16000000
namespace Go.Proofs.YthdioipfdbbmmaaGreatDoor
namespace Tr
open Go.RowKit
abbrev KP := Nd × Option Addr × Nat × Nat
def kpC (x : KP) : List Value := [.int .u8 x.1.kind, .int .i64 x.1.at', .string x.1.text, .int .i64 x.1.n, .slice x.2.1 x.2.2.1 x.2.2.2]
theorem flat_length (xs : List KP) : (xs.flatMap kpC).length = xs.length * 5 := by
 induction xs with
 | nil => rfl
 | cons x xs ih => rw [List.flatMap_cons, List.length_append, ih, List.length_cons]; show 5 + _ = _; omega
end Tr
namespace Tr
open Go.RowKit
def fewQ (ns : List Nd) : Bool := decide ((ns.length : Int) ≤ 200) && ns.all fun nd => decide ((nd.kids.length : Int) ≤ 200) && decide (nd.text.size ≤ 50)
theorem few_at (w : World) (p : Option Addr) (len c : Nat) (ns : List Nd) (h : TV w p len c ns) :
 Calls Tryz.prog 20 #[.agg #[.slice p len c]] w fun e w' => e = .returned (.bool (fewQ ns)) ∧ Below w.heap.size w w' := by
 have H := lh h
 have hlen := lh h.len_eq
 clear h
 by_cases hlt : (len : Int) ≤ 200
 · have hl0 : decide (200 < (len : Int)) = false := by simp; omega
   go_enter Tryz.func20, Tryz.ntmps20
   go_wp2_with fail
   go_loopw [3] (fun av wr => ∃ j : Nat, j ≤ len ∧ av = .int .i64 j ∧ Hid ((ns.take j).all (fun nd => decide ((nd.kids.length : Int) ≤ 200) && decide (nd.text.size ≤ 50)) = true) ∧ Hid (Below (w.heap.size + 1) (w.alloc (.cells #[.slice p len c] 39)) wr)) (fun av _ => len - (intOf av).toNat)
   case atStart => exact ⟨0, by omega, rfl, lh rfl, lh (Below.refl _ _)⟩
   case round =>
    obtain ⟨j, hj, rfl, HA, HB⟩ := hrel
    have c0 : wr.cell? ⟨w.heap.size, 0, none⟩ = some (.slice p len c) := by rw [HB.out.cell (by simp)]; simp
    have HW := lh ((one_below w (.cells #[.slice p len c] 39)).trans (HB.out.mono (by omega)))
    by_cases hjl : j < len
    · have hT := (H.out.on HW.out).node (by omega)
      obtain ⟨b, off, rfl, hbl, hc⟩ := hT
      obtain ⟨kp, kl, kc, hn⟩ := hc j hjl
      have k2 := hn.text
      have k4 := hn.kids
      have hkl := hn.iv.len_eq
      have HT := lh (all_take (fun nd => decide ((nd.kids.length : Int) ≤ 200) && decide (nd.text.size ≤ 50)) ns j (by have := hlen.out; omega))
      have HN := lh (all_no (fun nd => decide ((nd.kids.length : Int) ≤ 200) && decide (nd.text.size ≤ 50)) ns j (by have := hlen.out; omega))
      generalize ns.getD j default = nd at *
      have HKL := lh hkl
      clear hc hn hkl
      by_cases hk : (kl : Int) ≤ 200
      · have hk0 : decide (200 < (kl : Int)) = false := by simp; omega
        by_cases ht : nd.text.size ≤ 50
        · have ht0 : decide ((50 : Int) < (nd.text.size : Int)) = false := by simp; omega
          go_wp2_with fail
          go_roundw
          case rel => exact ⟨j + 1, by omega, by go_num, lh (by rw [HT.out, HA.out, HKL.out]; simp [hk, ht]), HB⟩
          case measure => simp [intOf]; omega
        · have ht0 : decide ((50 : Int) < (nd.text.size : Int)) = true := by simp; omega
          go_wp2
          go_ret
          refine ⟨?_, HW.out⟩
          rw [fewQ, HN.out (by simp [ht])]
          simp
      · have hk0 : decide (200 < (kl : Int)) = true := by simp; omega
        go_wp2
        go_ret
        refine ⟨?_, HW.out⟩
        rw [fewQ, HN.out (by simp only [HKL.out]; simp; omega)]
        simp
    · go_wp2
      go_ret
      have e : j = ns.length := by have := hlen.out; omega
      have := HA.out
      rw [e, List.take_length] at this
      refine ⟨?_, HW.out⟩
      rw [fewQ, this, hlen.out]
      simp [hlt]
 · have hl0 : decide (200 < (len : Int)) = true := by simp; omega
   go_enter Tryz.func20, Tryz.ntmps20
   go_wp2
   go_ret
   refine ⟨?_, (one_below w _)⟩
   rw [fewQ, hlen.out]
   simp
   omega
end Tr
section
open Go.RowKit Tr Go.Shelf
mutual
theorem lies_at {t : List Nd} : ∀ (x : Ast) (o : Nat), Lies t o x → wfR x → ∀ q, o ≤ q → q < o + x.size → ∃ y, Lies t q y ∧ wfR y
 | .mk k a s n ks, o, h, hw, q, h1, h2 => by
  by_cases e : q = o
  · subst e; exact ⟨_, h, hw⟩
  · simp only [Ast.size] at h2
    exact lies_atL ks (o + 1) h.kids hw.2 q (by omega) (by omega)
theorem lies_atL {t : List Nd} : ∀ (l : List Ast) (o : Nat), LiesL t o l → wfRL l → ∀ q, o ≤ q → q < o + sizeL l → ∃ y, Lies t q y ∧ wfR y
 | [], o, h, hw, q, h1, h2 => by simp only [sizeL] at h2; omega
 | x :: r, o, h, hw, q, h1, h2 => by
  by_cases e : q < o + x.size
  · exact lies_at x o h.head.1 hw.1 q h1 e
  · simp only [sizeL] at h2
    exact lies_atL r (o + x.size) h.head.2 hw.2 q (by omega) (by omega)
end
theorem On.at_ {ns : List Nd} {a : Ast} (h : On ns 0 a) (hw : wfR a) (hs : a.size = ns.length) (q : Nat) (hq : q < ns.length) : ∃ y, On ns q y ∧ wfR y := by
 obtain ⟨t, e, hl⟩ := h
 obtain ⟨y, h1, h2⟩ := lies_at a 0 hl hw q (by omega) (by omega)
 exact ⟨y, ⟨t, e, h1⟩, h2⟩
theorem few_small {ns : List Nd} (h : fewQ ns = true) : SmallT ns ∧ ns.length ≤ 200 ∧ ∀ nd ∈ ns, nd.text.size ≤ 50 := by
 unfold fewQ at h
 simp only [Bool.and_eq_true, decide_eq_true_eq, List.all_eq_true] at h
 exact ⟨⟨by omega, fun nd hm => ⟨by have := (h.2 nd hm).1; omega, by have := (h.2 nd hm).2; omega⟩⟩, by omega, fun nd hm => (h.2 nd hm).2⟩
theorem one_none {s : ByteArray} (h : s.size = 0) : s = none0 := by
 cases s with
 | mk d => simp [ByteArray.size] at h; rw [h]
theorem few_tree {ns : List Nd} (h : fewQ ns = true) (hr : rightP ns = true) : ∃ a0 ks, On ns 0 (.mk 1 a0 none0 0 ks) ∧ wfR (.mk 1 a0 none0 0 ks) ∧ (Ast.mk 1 a0 none0 0 ks).size = ns.length ∧ (progL ks).size ≤ 65536 := by
 obtain ⟨hS, h200, h50⟩ := few_small h
 obtain ⟨a, hw, hk, hs, hO⟩ := right_ast hr hS.len (fun nd hm => (hS.each nd hm).2)
 have hsm := hO.small h50
 cases a with
 | mk k a0 s n ks =>
  obtain rfl : k = 1 := hk
  have h1 := hw.1.1
  simp only [nodeRW, Bool.and_eq_true, decide_eq_true_eq, wordsR, Bool.or_eq_true] at h1
  have hs0 : s = none0 := by
   rcases h1.2.2.1.2.1 with h2 | h2
   · exact absurd h2 (by decide)
   · exact one_none h2
  have hn0 : n = 0 := by
   have h3 := h1.2.2.1.2.2.1
   have h4 := h1.2.2.1.2.2.2
   rw [show mostR 1 = 0 by decide] at h4
   omega
  subst hs0 hn0
  exact ⟨a0, ks, hO, hw, hs, fits hw hsm (by omega)⟩
end
end Go.Proofs.YthdioipfdbbmmaaGreatDoor
