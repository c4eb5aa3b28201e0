/- Contracts on the way to the laws of layer 5: LexX. -/
import Derived.Test.YthdioipfdbbmmaaGreatDoorKam
import Derived.Test.YthdioipfdbbmmaaGreatDoorKap
import Derived.Lib.AppendStr
import Derived.Deep.AppendLies
set_option linter.all false
set_option maxRecDepth 1000000
set_option maxHeartbeats 16000000
namespace Go.Proofs.YthdioipfdbbmmaaGreatDoor
section
open Go.RowKit
theorem info160 : (Tryz.prog.info? 160).map (fun i => (i.zero, i.size, i.bytes)) = some (some (.agg #[.int .u8 0, .int .i64 0, .int .i64 0, .string ⟨#[]⟩, .int .i64 0]), 5, 48) := by kernel_rfl
structure RefInv (w : World) (v : Value) (ts : List Tok) (W : World) : Prop where
 below : Below w.heap.size w W
 own : W.ownsRow w.heap.size 160 5 v ts.length (cellsT ts)
theorem RefInv.on {w W W' : World} {v : Value} {ts : List Tok} (h : RefInv w v ts W) (hb : Below W.heap.size W W') : RefInv w v ts W' where
 below := h.below.trans (hb.mono h.below.size)
 own := h.own.kept (row := none) ⟨hb.os, hb.tape, hb.output, hb.size, fun k hk _ => hb.block k hk⟩ (by
  cases hv : v.ownBlock with
  | none => exact Or.inl rfl
  | some k => exact Or.inr (by simp))
theorem RefInv.push {w W W' w5 : World} {g cap : Nat} {v : Value} {ts : List Tok} (h : RefInv w v ts W) (hW : Below W.heap.size W W') (hg : W'.grownBy w5 v.ownBlock) (t : Tok) (cs : List Value) (hc : cs = tokC t)
 (ho : w5.ownsRow w.heap.size 160 5 (.slice (some ⟨g, 0, none⟩) (ts.length + 1) cap) (ts.length + 1) (cellsT ts ++ cs)) : RefInv w (.slice (some ⟨g, 0, none⟩) (ts.length + 1) cap) (ts ++ [t]) w5 where
 below := (h.on hW).below.grown hg ((h.on hW).below.size) (fun k hk => (h.own.lt k hk).1)
 own := by rw [cellsT_snoc, ← hc, List.length_append]; exact ho
end
end Go.Proofs.YthdioipfdbbmmaaGreatDoor
