/- Contracts on the way to the laws of layer 5: PrintB, PrintC. -/
import Derived.Test.YthdioipfdbbmmaaGreatDoorKan
import Derived.Deep.AppendLies
import Derived.OwnWalk
import Derived.Lib.LaidTab
set_option linter.all false
set_option maxRecDepth 1000000
set_option maxHeartbeats 16000000
namespace Go.Proofs.YthdioipfdbbmmaaGreatDoor
section
open Go.RowKit Tr
structure SI (w : World) (B : Nat) (v : Value) (ls : List ByteArray) (W : World) : Prop where
 below : Below B w W
 own : W.ownsRow B 9 1 v ls.length (ls.map Value.string)
theorem PT10.below {w w' : World} (h : PT10 w) (hb : Below w.heap.size w w') : PT10 w' := Lib.tabBelow_of_tabIs h w' hb
theorem own_on {w w' : World} {B e size n : Nat} {v : Value} {xs : List Value} (h : w.ownsRow B e size v n xs) (hb : Below w.heap.size w w') : w'.ownsRow B e size v n xs := by
 obtain ⟨h1, h2⟩ := h
 refine ⟨h1, ?_⟩
 rcases h2 with h2 | ⟨g, cap, cur, hv, hB, hg, rest⟩
 · exact Or.inl h2
 · have hlt : g < w.heap.size := by
    rcases Nat.lt_or_ge g w.heap.size with hl | hl
    · exact hl
    · rw [Array.getElem?_eq_none hl] at hg; cases hg
   exact Or.inr ⟨g, cap, cur, hv, hB, by rw [hb.block g hlt]; exact hg, rest⟩
theorem SI.on {w W W' : World} {B : Nat} {v : Value} {ls : List ByteArray} (h : SI w B v ls W) (hb : Below W.heap.size W W') (hB : B ≤ W.heap.size) : SI w B v ls W' := ⟨h.below.trans (hb.mono hB), own_on h.own hb⟩
end
section
open Go.RowKit Tr
theorem joinT_size : ∀ l : List ByteArray, (joinT l).size ≤ (l.map ByteArray.size).sum + 2 * l.length
 | [] => by simp [joinT]; rfl
 | [s] => by simp [joinT]
 | x :: y :: r => by
  have h := joinT_size (y :: r)
  have h2 : joinT (x :: y :: r) = x ++ ⟨#[44, 32]⟩ ++ joinT (y :: r) := rfl
  rw [h2, ByteArray.size_append, ByteArray.size_append]
  have h3 : (⟨#[44, 32]⟩ : ByteArray).size = 2 := rfl
  simp only [List.map_cons, List.sum_cons, List.length_cons] at *
  omega
def isTx (x : Ast) : Prop := x.kind = 5 ∨ 20 ≤ x.kind
def OnL (ns : List Nd) (l : List Int) (ks : List Ast) : Prop := l.length = ks.length ∧ ∀ j (hj : j < ks.length), ∃ q : Nat, l.getD j 0 = (q : Int) ∧ q < ns.length ∧ On ns q ks[j]
theorem On.kids {ns : List Nd} {o : Nat} {k : Int} {a : Nat} {s : ByteArray} {n : Int} {ks : List Ast} (h : On ns o (.mk k a s n ks)) : OnL ns (heads (o + 1) ks) ks := ⟨heads_length _ _, fun j hj => h.kid j hj⟩
theorem tabsT_size (d : Nat) : (tabsT d).size = d := by
 show (List.replicate d (9 : UInt8)).toArray.size = d
 simp
end
end Go.Proofs.YthdioipfdbbmmaaGreatDoor
