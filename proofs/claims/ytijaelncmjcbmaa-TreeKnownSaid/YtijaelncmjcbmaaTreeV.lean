import Derived.Test.YtijaelncmjcbmaaTreeO
import Derived.Test.YtijaelncmjcbmaaProg
import Derived.WalkKit
import Derived.Handy
import Derived.Below
import Derived.Carry
import Derived.Deep.QuietTactic
import Derived.BigQuiet
namespace Go.Proofs.Ytijaelncmjcbmaa
open Go.RowKit
/-- Numbers that lie in a row. -/
structure IV (W : World) (p : Option Addr) (len c : Nat) (xs : List Int) : Prop where
  len_eq : xs.length = len
  cap : len ≤ c
  cell : 0 < len → ∃ b off, p = some ⟨b, off, none⟩ ∧ b < W.heap.size ∧ ∀ i, i < len → W.cell? ⟨b, off + i, none⟩ = some (.int .i64 (xs.getD i 0))
structure NC (W : World) (b o : Nat) (nd : Nd) (kp : Option Addr) (kl kc : Nat) : Prop where
  kind : W.cell? ⟨b, o, none⟩ = some (.int .u8 nd.kind)
  at' : W.cell? ⟨b, o + 1, none⟩ = some (.int .i64 nd.at')
  text : W.cell? ⟨b, o + 2, none⟩ = some (.string nd.text)
  n : W.cell? ⟨b, o + 3, none⟩ = some (.int .i64 nd.n)
  kids : W.cell? ⟨b, o + 4, none⟩ = some (.slice kp kl kc)
  iv : IV W kp kl kc nd.kids
/-- A tree's nodes. -/
structure TV (W : World) (p : Option Addr) (len c : Nat) (ns : List Nd) : Prop where
  len_eq : ns.length = len
  cap : len ≤ c
  node : 0 < len → ∃ b off, p = some ⟨b, off, none⟩ ∧ b < W.heap.size ∧ ∀ i, i < len → ∃ kp kl kc, NC W b (off + i * 5) (ns.getD i default) kp kl kc
theorem IV.on {W W' : World} {p : Option Addr} {len c : Nat} {xs : List Int} (h : IV W p len c xs) (hb : Below W.heap.size W W') : IV W' p len c xs where
  len_eq := h.len_eq
  cap := h.cap
  cell := fun hl => by
    obtain ⟨b, off, e, hlt, hc⟩ := h.cell hl
    exact ⟨b, off, e, Nat.lt_of_lt_of_le hlt hb.size, fun i hi => by rw [hb.cell (p := ⟨b, off + i, none⟩) hlt]; exact hc i hi⟩
theorem NC.on {W W' : World} {b o : Nat} {nd : Nd} {kp : Option Addr} {kl kc : Nat} (h : NC W b o nd kp kl kc) (hlt : b < W.heap.size) (hb : Below W.heap.size W W') : NC W' b o nd kp kl kc where
  kind := by rw [hb.cell (p := ⟨b, o, none⟩) hlt]; exact h.kind
  at' := by rw [hb.cell (p := ⟨b, o + 1, none⟩) hlt]; exact h.at'
  text := by rw [hb.cell (p := ⟨b, o + 2, none⟩) hlt]; exact h.text
  n := by rw [hb.cell (p := ⟨b, o + 3, none⟩) hlt]; exact h.n
  kids := by rw [hb.cell (p := ⟨b, o + 4, none⟩) hlt]; exact h.kids
  iv := h.iv.on hb
theorem TV.on {W W' : World} {p : Option Addr} {len c : Nat} {ns : List Nd} (h : TV W p len c ns) (hb : Below W.heap.size W W') : TV W' p len c ns where
  len_eq := h.len_eq
  cap := h.cap
  node := fun hl => by
    obtain ⟨b, off, e, hlt, hc⟩ := h.node hl
    refine ⟨b, off, e, Nat.lt_of_lt_of_le hlt hb.size, fun i hi => ?_⟩
    obtain ⟨kp, kl, kc, hn⟩ := hc i hi
    exact ⟨kp, kl, kc, hn.on hlt hb⟩
theorem one_below (w : World) (o : Obj) : Below w.heap.size w (w.alloc o) := (Below.refl _ _).alloc (Nat.le_refl _) _
def fewP (ns : List Nd) (top : Int) : Bool := decide ((ns.length : Int) ≤ top) && ns.all fun nd => decide ((nd.kids.length : Int) ≤ top) && decide (nd.text.size ≤ 100)
theorem all_take {α : Type} [Inhabited α] (p : α → Bool) (l : List α) (k : Nat) (h : k < l.length) : (l.take (k + 1)).all p = ((l.take k).all p && p (l.getD k default)) := by
  rw [List.take_succ_eq_append_getElem h, List.all_append]
  simp [List.getD, h]
theorem all_no {α : Type} [Inhabited α] (p : α → Bool) (l : List α) (k : Nat) (h : k < l.length) (hk : p (l.getD k default) = false) : l.all p = false := by
  rw [List.all_eq_false]
  exact ⟨l.getD k default, by simp [List.getD, h], by rw [hk]; simp⟩
set_option maxHeartbeats 4000000 in
theorem few_at (w : World) (p : Option Addr) (len c : Nat) (ns : List Nd) (top : Int) (h : TV w p len c ns) (h0 : 0 ≤ top) (h1 : top ≤ 1000) :
    Calls Try.prog 8 #[.agg #[.slice p len c], .int .i64 top] w fun e w' => e = .returned (.bool (fewP ns top)) ∧ Below w.heap.size w w' := by
  have H := Lib.hid h
  have hlen := Lib.hid h.len_eq
  clear h
  by_cases hlt : (len : Int) ≤ top
  · have hl0 : decide (top < (len : Int)) = false := by simp; omega
    go_enter Try.func8, Try.ntmps8
    go_wp2_with fail
    go_loopw [5] (fun av wr => ∃ j : Nat, j ≤ len ∧ av = .int .i64 j ∧ Hid ((ns.take j).all (fun nd => decide ((nd.kids.length : Int) ≤ top) && decide (nd.text.size ≤ 100)) = true) ∧ Hid (Below (w.heap.size + 1) (w.alloc (.cells #[.slice p len c] 24)) wr)) (fun av _ => len - (intOf av).toNat)
    case atStart => exact ⟨0, by omega, rfl, Lib.hid rfl, Lib.hid (Below.refl _ _)⟩
    case round =>
      obtain ⟨j, hj, rfl, HA, HB⟩ := hrel
      have c0 : wr.cell? ⟨w.heap.size, 0, none⟩ = some (.slice p len c) := by rw [HB.out.cell (by simp)]; simp
      have HW := Lib.hid ((one_below w (.cells #[.slice p len c] 24)).trans (HB.out.mono (by omega)))
      by_cases hjl : j < len
      · have hT := (H.out.on HW.out).node (by omega)
        obtain ⟨b, off, rfl, hbl, hc⟩ := hT
        obtain ⟨kp, kl, kc, hn⟩ := hc j hjl
        have k2 := hn.text
        have k4 := hn.kids
        have hkl := hn.iv.len_eq
        have HT := Lib.hid (all_take (fun nd => decide ((nd.kids.length : Int) ≤ top) && decide (nd.text.size ≤ 100)) ns j (by have := hlen.out; omega))
        have HN := Lib.hid (all_no (fun nd => decide ((nd.kids.length : Int) ≤ top) && decide (nd.text.size ≤ 100)) ns j (by have := hlen.out; omega))
        generalize ns.getD j default = nd at *
        have HKL := Lib.hid hkl
        clear hc hn hkl
        by_cases hk : (kl : Int) ≤ top
        · have hk0 : decide (top < (kl : Int)) = false := by simp; omega
          by_cases ht : nd.text.size ≤ 100
          · have ht0 : decide ((100 : Int) < (nd.text.size : Int)) = false := by simp; omega
            go_wp2_with fail
            go_roundw
            case rel => exact ⟨j + 1, by omega, by go_num, Lib.hid (by rw [HT.out, HA.out, HKL.out]; simp [hk, ht]), HB⟩
            case measure => simp [intOf]; omega
          · have ht0 : decide ((100 : Int) < (nd.text.size : Int)) = true := by simp; omega
            go_wp2
            go_ret
            refine ⟨?_, HW.out⟩
            rw [fewP, HN.out (by simp [ht])]
            simp
        · have hk0 : decide (top < (kl : Int)) = true := by simp; omega
          go_wp2
          go_ret
          refine ⟨?_, HW.out⟩
          rw [fewP, HN.out (by simp only [HKL.out]; simp; omega)]
          simp
      · go_wp2
        go_ret
        have e : j = ns.length := by have := hlen.out; omega
        have := HA.out
        rw [e, List.take_length] at this
        refine ⟨?_, HW.out⟩
        rw [fewP, this, hlen.out]
        simp [hlt]
  · have hl0 : decide (top < (len : Int)) = true := by simp; omega
    go_enter Try.func8, Try.ntmps8
    go_wp2
    go_ret
    refine ⟨?_, (one_below w _)⟩
    rw [fewP, hlen.out]
    simp
    omega
end Go.Proofs.Ytijaelncmjcbmaa
