/- Contracts on the way to the laws of layer 5: PrintAz, PrintRj. -/
import Derived.Test.YthdioipfdbbmmaaGreatDoorKai
import Derived.Test.YthdioipfdbbmmaaGreatDoorKan
import Derived.Test.YthdioipfdbbmmaaGreatDoorKbk
import Derived.Test.YthdioipfdbbmmaaGreatDoorKbm
import Derived.Test.YthdioipfdbbmmaaGreatDoorKbn
import Derived.Test.YthdioipfdbbmmaaGreatDoorKbo
import Derived.Test.YthdioipfdbbmmaaGreatDoorKbp
set_option linter.all false
set_option maxRecDepth 1000000
set_option maxHeartbeats 16000000
namespace Go.Proofs.YthdioipfdbbmmaaGreatDoor
section
open Go.RowKit Tr Go.Shelf
structure BX (w : World) (p : Option Addr) (len c : Nat) (W : World) : Prop where
 below : Below w.heap.size w W
 lt : w.heap.size < W.heap.size
 box : W.cell? ⟨w.heap.size, 0, none⟩ = some (.slice p len c)
theorem BX.on {w W W' : World} {p : Option Addr} {len c : Nat} (h : BX w p len c W) (hb : Below W.heap.size W W') : BX w p len c W' :=
 ⟨h.below.trans (hb.mono h.below.size), Nat.lt_of_lt_of_le h.lt hb.size, (hb.cell (p := ⟨w.heap.size, 0, none⟩) h.lt).trans h.box⟩
theorem bx_new (w : World) (p : Option Addr) (len c : Nat) : BX w p len c (w.alloc (.cells #[.slice p len c] 39)) :=
 ⟨one_below w _, by simp, by simp⟩
end
section
open Go.RowKit Tr Go.Shelf
def headX : ByteArray := ⟨#[112, 114, 111, 99, 32, 112, 40, 41, 32, 123, 32, 101, 109, 105, 116, 32]⟩
def tailX : ByteArray := ⟨#[59, 32, 125]⟩
theorem on_whole {ns : List Nd} {a : Ast} (h : On ns 0 a) (hs : a.size = ns.length) : ns.map noAt = (flat 0 a).map noAt ∧ Lies (flat 0 a) 0 a := by
 obtain ⟨t, e1, pre, post, e3, e4⟩ := h
 have e5 : pre = [] := List.eq_nil_of_length_eq_zero e4
 subst e5
 have e6 : post = [] := by
  have h1 := congrArg List.length e3
  rw [List.length_append, List.nil_append, flat_length, noAt_len e1] at h1
  exact List.eq_nil_of_length_eq_zero (by omega)
 subst e6
 rw [List.append_nil, List.nil_append] at e3
 rw [← e1, e3]
 exact ⟨rfl, Lies.whole a⟩
theorem ex_facts {ns : List Nd} (hq : fewQ ns = true) (hr : rightP ns = true) (hd : deepP ns ≤ 62) (q : Nat) (hql : q < ns.length) (hk : 21 ≤ (ns.getD q default).kind) :
 ∃ y a, On ns q y ∧ wfR y ∧ 20 ≤ y.kind ∧ 0 < q ∧ sizeP ns (q : Int) = (y.size : Int) ∧ (exT y).size ≤ 12000 ∧ parseS (Tr.bytesI (headX ++ exT y ++ tailX)) = .ok (flat 0 a) ∧ (flat 0 a).length = 5 + y.size ∧ q + y.size ≤ ns.length ∧ ∀ k, k < y.size → coreN (ns.getD (q + k) default) = coreN ((flat 0 a).getD (5 + k) default) := by
 obtain ⟨hS, h200, h50⟩ := few_small hq
 obtain ⟨a0, ks, hO, hw, hsz, hfit⟩ := few_tree hq hr
 obtain ⟨hna, hl⟩ := on_whole hO hsz
 have hda := deep_tree hO hsz hr
 obtain ⟨y, h1, h2, h3, h4⟩ := sub_at _ 0 hl hw q (Nat.zero_le _) (by omega)
 have hOy : On ns q y := ⟨_, hna.symm, h1⟩
 have hky : (ns.getD q default).kind = y.kind := hOy.kind
 have hk26 : y.kind ≤ 26 := by
  cases y with
  | mk k a s n l => exact h2.parts.1.2
 have hex : isExprK y.kind = true := (isExprK_iff _).2 (by omega)
 have hn := nA_le y.size y (Nat.le_refl _) h2
 obtain ⟨a, h5, h6⟩ := round_ex y h2 hex (by omega)
 have hsm := hOy.small h50
 have hbe := exT_few y h2 hsm
 have hle := hOy.size
 have hq0 : 0 < q := by
  rcases Nat.eq_zero_or_pos q with e | e
  · subst e
    rw [hO.kind] at hk
    have h01 : (21 : Int) ≤ 1 := hk
    omega
  · exact e
 refine ⟨y, a, hOy, h2, by omega, hq0, ?_, by omega, h5, emit_length h6, hle, fun k hk => ex_same hOy h6 k hk⟩
 rw [size_sub hna hr q hql]
 rw [Nat.sub_zero] at h4
 rw [h4]
end
end Go.Proofs.YthdioipfdbbmmaaGreatDoor
