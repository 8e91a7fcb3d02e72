/-
  No cell of these rows narrows 'for every input' (looked for: loops, veiled, ifaces, maps, wideKeys, modest, calm, conditions, laid).
  DERIVED. THE GIVEN ROWS OF THIS SEAT. 4 by the template 'for every input the law returns true; each argument reads behind the call as it read before'; 0 by the template 'total and deterministic' (their statements: YtoijpogadkogcaaTotals.lean).
  GIVEN WITH THE SEED: the statements are not yours to turn. If you find one false, say at which input.
  Laid BY PROGRAM, IN A SANDBOX (cutbox-rows.mjs): the forced cells as the released guide's own fill.sh prints them over the translation bc0a9677171c2eaa… (all of the seat's roots in one cut). By AI agents, Wed Nov 11 2026. No macro, syntax, notation, axiom, sorry.
-/
import Derived.Test.YtoijpogadkogcaaChecked
import GoSem.Claim
import GoSem.ClaimJoined
import GoSem.ClaimMapViews
import Derived.JoinedTies
import Derived.KernelRfl
namespace Go.Proofs.Ytoijpogadkogcaa
/- THE CELL 'sum', in the pinned program and in every row, IS THE sha256 OF THE DUMP (.gsa) THAT YtoijpogadkogcaaProg.lean LOADS. Nothing in Lean hashes anything: it is a label: what it is worth is what the hold of that sum in a sandbox is worth. -/
noncomputable def Try.pinned : Pinned := { name := "ytoijpogadkogcaa", sum := "bc0a9677171c2eaaebf1c73e550a46c8fa81a73c4b14b4fbbf7f3aaf646b52b6", checked := Try.checked }
namespace Rows
def none {H : Type} : Left H := { results := [], args := [] }

/-- 'ferrykeep.Unpacked': WHATEVER THE INPUT: true; the input reads as it did. -/
def unpackedSpec : ChangeSpec := { name := "unpacked", fn := fun _ => fun
  | [d1, d2] => { results := [.lit (.bool true)], args := [d1, d2] }
  | _ => none }
def unpackedRow : OpenClaim := { program := "ytoijpogadkogcaa", sum := "bc0a9677171c2eaaebf1c73e550a46c8fa81a73c4b14b4fbbf7f3aaf646b52b6", func := "ferry/ferrykeep.Unpacked", spec := "unpacked", apart := false }
def UnpackedSaid : Prop := unpackedRow.holds Try.pinned (OpenSpec.ofChange unpackedSpec)

/-- ITS FALSE NEIGHBOUR: 'it returns false'. Refute it at one input. -/
def unpackedWrong : ChangeSpec := { name := "unpacked", fn := fun _ => fun
  | [d1, d2] => { results := [.lit (.bool false)], args := [d1, d2] }
  | _ => none }
def UnpackedWrongFalsely : Prop := unpackedRow.holds Try.pinned (OpenSpec.ofChange unpackedWrong)

/-- 'ferrykeep.Turns': WHATEVER THE INPUT: true; the input reads as it did. -/
def turnsSpec : ChangeSpec := { name := "turns", fn := fun _ => fun
  | [d1, d2, d3] => { results := [.lit (.bool true)], args := [d1, d2, d3] }
  | _ => none }
def turnsRow : OpenClaim := { program := "ytoijpogadkogcaa", sum := "bc0a9677171c2eaaebf1c73e550a46c8fa81a73c4b14b4fbbf7f3aaf646b52b6", func := "ferry/ferrykeep.Turns", spec := "turns", unfollowed := true, recurses := true, apart := false }
def TurnsSaid : Prop := turnsRow.holds Try.pinned (OpenSpec.ofChange turnsSpec)

/-- ITS FALSE NEIGHBOUR: 'it returns false'. Refute it at one input. -/
def turnsWrong : ChangeSpec := { name := "turns", fn := fun _ => fun
  | [d1, d2, d3] => { results := [.lit (.bool false)], args := [d1, d2, d3] }
  | _ => none }
def TurnsWrongFalsely : Prop := turnsRow.holds Try.pinned (OpenSpec.ofChange turnsWrong)

/-- 'ferrykeep.Pieces': WHATEVER THE INPUT: true; the input reads as it did. -/
def piecesSpec : ChangeSpec := { name := "pieces", fn := fun _ => fun
  | [d1, d2, d3] => { results := [.lit (.bool true)], args := [d1, d2, d3] }
  | _ => none }
def piecesRow : OpenClaim := { program := "ytoijpogadkogcaa", sum := "bc0a9677171c2eaaebf1c73e550a46c8fa81a73c4b14b4fbbf7f3aaf646b52b6", func := "ferry/ferrykeep.Pieces", spec := "pieces", unfollowed := true, recurses := true, apart := false }
def PiecesSaid : Prop := piecesRow.holds Try.pinned (OpenSpec.ofChange piecesSpec)

/-- ITS FALSE NEIGHBOUR: 'it returns false'. Refute it at one input. -/
def piecesWrong : ChangeSpec := { name := "pieces", fn := fun _ => fun
  | [d1, d2, d3] => { results := [.lit (.bool false)], args := [d1, d2, d3] }
  | _ => none }
def PiecesWrongFalsely : Prop := piecesRow.holds Try.pinned (OpenSpec.ofChange piecesWrong)

/-- 'ferrykeep.Over': WHATEVER THE INPUT: true; the input reads as it did. -/
def overSpec : ChangeSpec := { name := "over", fn := fun _ => fun
  | [d1, d2, d3] => { results := [.lit (.bool true)], args := [d1, d2, d3] }
  | _ => none }
def overRow : OpenClaim := { program := "ytoijpogadkogcaa", sum := "bc0a9677171c2eaaebf1c73e550a46c8fa81a73c4b14b4fbbf7f3aaf646b52b6", func := "ferry/ferrykeep.Over", spec := "over", unfollowed := true, recurses := true, apart := false }
def OverSaid : Prop := overRow.holds Try.pinned (OpenSpec.ofChange overSpec)

/-- ITS FALSE NEIGHBOUR: 'it returns false'. Refute it at one input. -/
def overWrong : ChangeSpec := { name := "over", fn := fun _ => fun
  | [d1, d2, d3] => { results := [.lit (.bool false)], args := [d1, d2, d3] }
  | _ => none }
def OverWrongFalsely : Prop := overRow.holds Try.pinned (OpenSpec.ofChange overWrong)

/- THE SECOND FORM. 'bulk': how many values and letters a reading holds, each counted each time it is reached (what is shared counts as often as it is met; a slice's spare places count too). A statement '..UptoSaid' is the law's where the arguments, and the package variables that the reading takes, are together of bulk at most 1048576: NARROWER than '..Said'. Prove '..Said' where nothing that the law and all that it calls make is longer than what came in: it says more and counts as full. Else prove '..UptoSaid'. A law counts once. -/
mutual
def uptoBulk {H : Type} : DataW H → Nat
  | .lit (.string bytes) => bytes.length + 1
  | .lit _ => 1
  | .nil => 1
  | .ptr d => uptoBulk d + 1
  | .slice elems spare => uptoBulkAll elems + uptoBulkAll spare + 1
  | .agg parts => uptoBulkAll parts + 1
  | .iface _ d => uptoBulk d + 1
  | .map entries => uptoBulkEntries entries + 1
  | .held _ => 1
def uptoBulkAll {H : Type} : List (DataW H) → Nat
  | [] => 0
  | d :: r => uptoBulk d + uptoBulkAll r
def uptoBulkEntries {H : Type} : List (Lit × DataW H) → Nat
  | [] => 0
  | x :: r => uptoBulkEntry x + uptoBulkEntries r
def uptoBulkEntry {H : Type} : Lit × DataW H → Nat
  | (.string bytes, d) => bytes.length + uptoBulk d + 1
  | (_, d) => uptoBulk d + 1
 end
def uptoSmall : (H : Type) → List (DataW H) → Bool := fun _ ds => decide (uptoBulkAll ds ≤ 1048576)
def OpenSpec.upto (s : _root_.Go.ChangeSpec) : _root_.Go.OpenSpec := { _root_.Go.OpenSpec.ofChange s with cond := some uptoSmall }

/-- 'ferrykeep.Unpacked', WHERE WHAT IT READS IS OF BULK AT MOST 1048576: true; the input reads as it did. -/
def unpackedUptoRow : OpenClaim := { program := "ytoijpogadkogcaa", sum := "bc0a9677171c2eaaebf1c73e550a46c8fa81a73c4b14b4fbbf7f3aaf646b52b6", func := "ferry/ferrykeep.Unpacked", spec := "unpacked", apart := false, narrowed := true }
def UnpackedUptoSaid : Prop := unpackedUptoRow.holds Try.pinned (OpenSpec.upto unpackedSpec)

/-- 'ferrykeep.Turns', WHERE WHAT IT READS IS OF BULK AT MOST 1048576: true; the input reads as it did. -/
def turnsUptoRow : OpenClaim := { program := "ytoijpogadkogcaa", sum := "bc0a9677171c2eaaebf1c73e550a46c8fa81a73c4b14b4fbbf7f3aaf646b52b6", func := "ferry/ferrykeep.Turns", spec := "turns", unfollowed := true, recurses := true, apart := false, narrowed := true }
def TurnsUptoSaid : Prop := turnsUptoRow.holds Try.pinned (OpenSpec.upto turnsSpec)

/-- 'ferrykeep.Pieces', WHERE WHAT IT READS IS OF BULK AT MOST 1048576: true; the input reads as it did. -/
def piecesUptoRow : OpenClaim := { program := "ytoijpogadkogcaa", sum := "bc0a9677171c2eaaebf1c73e550a46c8fa81a73c4b14b4fbbf7f3aaf646b52b6", func := "ferry/ferrykeep.Pieces", spec := "pieces", unfollowed := true, recurses := true, apart := false, narrowed := true }
def PiecesUptoSaid : Prop := piecesUptoRow.holds Try.pinned (OpenSpec.upto piecesSpec)

/-- 'ferrykeep.Over', WHERE WHAT IT READS IS OF BULK AT MOST 1048576: true; the input reads as it did. -/
def overUptoRow : OpenClaim := { program := "ytoijpogadkogcaa", sum := "bc0a9677171c2eaaebf1c73e550a46c8fa81a73c4b14b4fbbf7f3aaf646b52b6", func := "ferry/ferrykeep.Over", spec := "over", unfollowed := true, recurses := true, apart := false, narrowed := true }
def OverUptoSaid : Prop := overUptoRow.holds Try.pinned (OpenSpec.upto overSpec)

end Rows
end Go.Proofs.Ytoijpogadkogcaa
