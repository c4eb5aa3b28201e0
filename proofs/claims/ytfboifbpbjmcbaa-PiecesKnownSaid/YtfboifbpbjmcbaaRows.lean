/-
  No cell of these rows narrows 'for every input' (looked for: loops, veiled, ifaces, maps, wideKeys, modest, calm, conditions, laid).
  DERIVED. THE GIVEN ROWS OF THIS SEAT. 3 by the template 'for every input the law returns true; each argument reads behind the call as it read before'; 0 by the template 'total and deterministic' (their statements: YtfboifbpbjmcbaaTotals.lean).
  GIVEN WITH THE SEED: the statements are not yours to turn. If you find one false, say at which input.
  Laid BY PROGRAM, IN A SANDBOX (cutbox-rows.mjs): the forced cells as the released guide's own fill.sh prints them over the translation 9bd0df0230779243… (all of the seat's roots in one cut). By AI agents, Wed Nov 11 2026. No macro, syntax, notation, axiom, sorry.
-/
import Derived.Test.YtfboifbpbjmcbaaChecked
import GoSem.Claim
import GoSem.ClaimJoined
import GoSem.ClaimMapViews
import Derived.JoinedTies
import Derived.KernelRfl
namespace Go.Proofs.Ytfboifbpbjmcbaa
/- THE CELL 'sum', in the pinned program and in every row, IS THE sha256 OF THE DUMP (.gsa) THAT YtfboifbpbjmcbaaProg.lean LOADS. Nothing in Lean hashes anything: it is a label: what it is worth is what the hold of that sum in a sandbox is worth. -/
noncomputable def Try.pinned : Pinned := { name := "ytfboifbpbjmcbaa", sum := "9bd0df0230779243db6ecf3540a3526e07123149731bee1dfcacdec78f695d16", checked := Try.checked }
namespace Rows
def none {H : Type} : Left H := { results := [], args := [] }

/-- 'interlocklaw10.PiecesAny': WHATEVER THE INPUT: true; the input reads as it did. -/
def piecesAnySpec : ChangeSpec := { name := "piecesAny", fn := fun _ => fun
  | [d1, d2, d3] => { results := [.lit (.bool true)], args := [d1, d2, d3] }
  | _ => none }
def piecesAnyRow : OpenClaim := { program := "ytfboifbpbjmcbaa", sum := "9bd0df0230779243db6ecf3540a3526e07123149731bee1dfcacdec78f695d16", func := "interlock/interlocklaw10.PiecesAny", spec := "piecesAny", unfollowed := true, recurses := true, apart := false }
def PiecesAnySaid : Prop := piecesAnyRow.holds Try.pinned (OpenSpec.ofChange piecesAnySpec)

/-- ITS FALSE NEIGHBOUR: 'it returns false'. Refute it at one input. -/
def piecesAnyWrong : ChangeSpec := { name := "piecesAny", fn := fun _ => fun
  | [d1, d2, d3] => { results := [.lit (.bool false)], args := [d1, d2, d3] }
  | _ => none }
def PiecesAnyWrongFalsely : Prop := piecesAnyRow.holds Try.pinned (OpenSpec.ofChange piecesAnyWrong)

/-- 'interlocklaw10.PiecesCover': WHATEVER THE INPUT: true; the input reads as it did. -/
def piecesCoverSpec : ChangeSpec := { name := "piecesCover", fn := fun _ => fun
  | [d1, d2] => { results := [.lit (.bool true)], args := [d1, d2] }
  | _ => none }
def piecesCoverRow : OpenClaim := { program := "ytfboifbpbjmcbaa", sum := "9bd0df0230779243db6ecf3540a3526e07123149731bee1dfcacdec78f695d16", func := "interlock/interlocklaw10.PiecesCover", spec := "piecesCover", unfollowed := true, recurses := true, apart := false }
def PiecesCoverSaid : Prop := piecesCoverRow.holds Try.pinned (OpenSpec.ofChange piecesCoverSpec)

/-- ITS FALSE NEIGHBOUR: 'it returns false'. Refute it at one input. -/
def piecesCoverWrong : ChangeSpec := { name := "piecesCover", fn := fun _ => fun
  | [d1, d2] => { results := [.lit (.bool false)], args := [d1, d2] }
  | _ => none }
def PiecesCoverWrongFalsely : Prop := piecesCoverRow.holds Try.pinned (OpenSpec.ofChange piecesCoverWrong)

/-- 'interlocklaw10.PiecesKnown': WHATEVER THE INPUT: true; the input reads as it did. -/
def piecesKnownSpec : ChangeSpec := { name := "piecesKnown", fn := fun _ => fun
  | [] => { results := [.lit (.bool true)], args := [] }
  | _ => none }
def piecesKnownRow : OpenClaim := { program := "ytfboifbpbjmcbaa", sum := "9bd0df0230779243db6ecf3540a3526e07123149731bee1dfcacdec78f695d16", func := "interlock/interlocklaw10.PiecesKnown", spec := "piecesKnown", unfollowed := true, recurses := true, apart := false }
def PiecesKnownSaid : Prop := piecesKnownRow.holds Try.pinned (OpenSpec.ofChange piecesKnownSpec)

/-- ITS FALSE NEIGHBOUR: 'it returns false'. Refute it at one input. -/
def piecesKnownWrong : ChangeSpec := { name := "piecesKnown", fn := fun _ => fun
  | [] => { results := [.lit (.bool false)], args := [] }
  | _ => none }
def PiecesKnownWrongFalsely : Prop := piecesKnownRow.holds Try.pinned (OpenSpec.ofChange piecesKnownWrong)

/- THE SECOND FORM. 'bulk': how many values and letters a reading holds, each counted each time it is reached (what is shared counts as often as it is met; a slice's spare places count too). A statement '..UptoSaid' is the law's where the arguments, and the package variables that the reading takes, are together of bulk at most 1048576: NARROWER than '..Said'. Prove '..Said' where nothing that the law and all that it calls make is longer than what came in: it says more and counts as full. Else prove '..UptoSaid'. A law counts once. -/
mutual
def uptoBulk {H : Type} : DataW H → Nat
  | .lit (.string bytes) => bytes.length + 1
  | .lit _ => 1
  | .nil => 1
  | .ptr d => uptoBulk d + 1
  | .slice elems spare => uptoBulkAll elems + uptoBulkAll spare + 1
  | .agg parts => uptoBulkAll parts + 1
  | .iface _ d => uptoBulk d + 1
  | .map entries => uptoBulkEntries entries + 1
  | .held _ => 1
def uptoBulkAll {H : Type} : List (DataW H) → Nat
  | [] => 0
  | d :: r => uptoBulk d + uptoBulkAll r
def uptoBulkEntries {H : Type} : List (Lit × DataW H) → Nat
  | [] => 0
  | x :: r => uptoBulkEntry x + uptoBulkEntries r
def uptoBulkEntry {H : Type} : Lit × DataW H → Nat
  | (.string bytes, d) => bytes.length + uptoBulk d + 1
  | (_, d) => uptoBulk d + 1
 end
def uptoSmall : (H : Type) → List (DataW H) → Bool := fun _ ds => decide (uptoBulkAll ds ≤ 1048576)
def OpenSpec.upto (s : _root_.Go.ChangeSpec) : _root_.Go.OpenSpec := { _root_.Go.OpenSpec.ofChange s with cond := some uptoSmall }

/-- 'interlocklaw10.PiecesAny', WHERE WHAT IT READS IS OF BULK AT MOST 1048576: true; the input reads as it did. -/
def piecesAnyUptoRow : OpenClaim := { program := "ytfboifbpbjmcbaa", sum := "9bd0df0230779243db6ecf3540a3526e07123149731bee1dfcacdec78f695d16", func := "interlock/interlocklaw10.PiecesAny", spec := "piecesAny", unfollowed := true, recurses := true, apart := false, narrowed := true }
def PiecesAnyUptoSaid : Prop := piecesAnyUptoRow.holds Try.pinned (OpenSpec.upto piecesAnySpec)

/-- 'interlocklaw10.PiecesCover', WHERE WHAT IT READS IS OF BULK AT MOST 1048576: true; the input reads as it did. -/
def piecesCoverUptoRow : OpenClaim := { program := "ytfboifbpbjmcbaa", sum := "9bd0df0230779243db6ecf3540a3526e07123149731bee1dfcacdec78f695d16", func := "interlock/interlocklaw10.PiecesCover", spec := "piecesCover", unfollowed := true, recurses := true, apart := false, narrowed := true }
def PiecesCoverUptoSaid : Prop := piecesCoverUptoRow.holds Try.pinned (OpenSpec.upto piecesCoverSpec)

/-- 'interlocklaw10.PiecesKnown', WHERE WHAT IT READS IS OF BULK AT MOST 1048576: true; the input reads as it did. -/
def piecesKnownUptoRow : OpenClaim := { program := "ytfboifbpbjmcbaa", sum := "9bd0df0230779243db6ecf3540a3526e07123149731bee1dfcacdec78f695d16", func := "interlock/interlocklaw10.PiecesKnown", spec := "piecesKnown", unfollowed := true, recurses := true, apart := false, narrowed := true }
def PiecesKnownUptoSaid : Prop := piecesKnownUptoRow.holds Try.pinned (OpenSpec.upto piecesKnownSpec)

end Rows
end Go.Proofs.Ytfboifbpbjmcbaa
