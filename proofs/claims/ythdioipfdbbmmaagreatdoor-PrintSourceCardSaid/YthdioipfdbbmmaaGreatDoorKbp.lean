/- Contracts on the way to the laws of layer 5: PrintAp, PrintAt. -/
import Derived.Test.YthdioipfdbbmmaaGreatDoorKah
import Derived.Test.YthdioipfdbbmmaaGreatDoorKai
import Derived.Test.YthdioipfdbbmmaaGreatDoorKan
import Derived.Test.YthdioipfdbbmmaaGreatDoorKax
import Derived.Test.YthdioipfdbbmmaaGreatDoorKbg
import Derived.Test.YthdioipfdbbmmaaGreatDoorKbh
import Derived.Test.YthdioipfdbbmmaaGreatDoorKbl
import Derived.Test.YthdioipfdbbmmaaGreatDoorKbm
import Derived.Deep.AppendLies
import Derived.OwnWalk
set_option linter.all false
set_option maxRecDepth 1000000
set_option maxHeartbeats 16000000
namespace Go.Proofs.YthdioipfdbbmmaaGreatDoor
namespace Tr
open Go.RowKit
abbrev KP := Nd × Option Addr × Nat × Nat
def kpC (x : KP) : List Value := [.int .u8 x.1.kind, .int .i64 x.1.at', .string x.1.text, .int .i64 x.1.n, .slice x.2.1 x.2.2.1 x.2.2.2]
theorem flat_length (xs : List KP) : (xs.flatMap kpC).length = xs.length * 5 := by
 induction xs with
 | nil => rfl
 | cons x xs ih => rw [List.flatMap_cons, List.length_append, ih, List.length_cons]; show 5 + _ = _; omega
end Tr
section
open Go.RowKit Tr Go.Shelf
mutual
theorem lies_at {t : List Nd} : ∀ (x : Ast) (o : Nat), Lies t o x → wfR x → ∀ q, o ≤ q → q < o + x.size → ∃ y, Lies t q y ∧ wfR y
 | .mk k a s n ks, o, h, hw, q, h1, h2 => by
  by_cases e : q = o
  · subst e; exact ⟨_, h, hw⟩
  · simp only [Ast.size] at h2
    exact lies_atL ks (o + 1) h.kids hw.2 q (by omega) (by omega)
theorem lies_atL {t : List Nd} : ∀ (l : List Ast) (o : Nat), LiesL t o l → wfRL l → ∀ q, o ≤ q → q < o + sizeL l → ∃ y, Lies t q y ∧ wfR y
 | [], o, h, hw, q, h1, h2 => by simp only [sizeL] at h2; omega
 | x :: r, o, h, hw, q, h1, h2 => by
  by_cases e : q < o + x.size
  · exact lies_at x o h.head.1 hw.1 q h1 e
  · simp only [sizeL] at h2
    exact lies_atL r (o + x.size) h.head.2 hw.2 q (by omega) (by omega)
end
theorem On.at_ {ns : List Nd} {a : Ast} (h : On ns 0 a) (hw : wfR a) (hs : a.size = ns.length) (q : Nat) (hq : q < ns.length) : ∃ y, On ns q y ∧ wfR y := by
 obtain ⟨t, e, hl⟩ := h
 obtain ⟨y, h1, h2⟩ := lies_at a 0 hl hw q (by omega) (by omega)
 exact ⟨y, ⟨t, e, h1⟩, h2⟩
end
end Go.Proofs.YthdioipfdbbmmaaGreatDoor
