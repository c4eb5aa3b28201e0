/- Contracts on the way to the laws of layer 5: PrintAz. -/
import Derived.Test.YthdioipfdbbmmaaGreatDoorKbn
import Derived.Test.YthdioipfdbbmmaaGreatDoorKbp
set_option linter.all false
set_option maxRecDepth 1000000
set_option maxHeartbeats 16000000
namespace Go.Proofs.YthdioipfdbbmmaaGreatDoor
section
open Go.RowKit Tr Go.Shelf
structure BX (w : World) (p : Option Addr) (len c : Nat) (W : World) : Prop where
 below : Below w.heap.size w W
 lt : w.heap.size < W.heap.size
 box : W.cell? ⟨w.heap.size, 0, none⟩ = some (.slice p len c)
theorem BX.on {w W W' : World} {p : Option Addr} {len c : Nat} (h : BX w p len c W) (hb : Below W.heap.size W W') : BX w p len c W' :=
 ⟨h.below.trans (hb.mono h.below.size), Nat.lt_of_lt_of_le h.lt hb.size, (hb.cell (p := ⟨w.heap.size, 0, none⟩) h.lt).trans h.box⟩
theorem bx_new (w : World) (p : Option Addr) (len c : Nat) : BX w p len c (w.alloc (.cells #[.slice p len c] 39)) :=
 ⟨one_below w _, by simp, by simp⟩
end
end Go.Proofs.YthdioipfdbbmmaaGreatDoor
