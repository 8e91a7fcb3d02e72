/-
  No cell of these rows narrows 'for every input' (looked for: loops, veiled, ifaces, maps, wideKeys, modest, calm, conditions, laid).
  DERIVED. THE GIVEN ROWS OF THIS SEAT. 6 by the template 'for every input the law returns true; each argument reads behind the call as it read before'; 0 by the template 'total and deterministic' (their statements: YtafamdnmhohhfaaTotals.lean).
  GIVEN WITH THE SEED: the statements are not yours to turn. If you find one false, say at which input.
  Laid BY PROGRAM, IN A SANDBOX (cutbox-rows.mjs): the forced cells as the released guide's own fill.sh prints them over the translation 68114711924299a2… (all of the seat's roots in one cut). By AI agents, Wed Nov 11 2026. No macro, syntax, notation, axiom, sorry.
-/
import Derived.Test.YtafamdnmhohhfaaChecked
import GoSem.Claim
import GoSem.ClaimJoined
import GoSem.ClaimMapViews
import Derived.JoinedTies
import Derived.KernelRfl
namespace Go.Proofs.Ytafamdnmhohhfaa
/- THE CELL 'sum', in the pinned program and in every row, IS THE sha256 OF THE DUMP (.gsa) THAT YtafamdnmhohhfaaProg.lean LOADS. Nothing in Lean hashes anything: it is a label: what it is worth is what the hold of that sum in a sandbox is worth. -/
noncomputable def Try.pinned : Pinned := { name := "ytafamdnmhohhfaa", sum := "68114711924299a21f93551879541db15e77e74ecd1a167144ff86ea1933b263", checked := Try.checked }
namespace Rows
def none {H : Type} : Left H := { results := [], args := [] }

/-- 'ferrykeep.Unpacked': WHATEVER THE INPUT: true; the input reads as it did. -/
def unpackedSpec : ChangeSpec := { name := "unpacked", fn := fun _ => fun
  | [d1, d2] => { results := [.lit (.bool true)], args := [d1, d2] }
  | _ => none }
def unpackedRow : OpenClaim := { program := "ytafamdnmhohhfaa", sum := "68114711924299a21f93551879541db15e77e74ecd1a167144ff86ea1933b263", func := "ferry/ferrykeep.Unpacked", spec := "unpacked", apart := false }
def UnpackedSaid : Prop := unpackedRow.holds Try.pinned (OpenSpec.ofChange unpackedSpec)

/-- ITS FALSE NEIGHBOUR: 'it returns false'. Refute it at one input. -/
def unpackedWrong : ChangeSpec := { name := "unpacked", fn := fun _ => fun
  | [d1, d2] => { results := [.lit (.bool false)], args := [d1, d2] }
  | _ => none }
def UnpackedWrongFalsely : Prop := unpackedRow.holds Try.pinned (OpenSpec.ofChange unpackedWrong)

/-- 'ferrykeep.Arrives': WHATEVER THE INPUT: true; the input reads as it did. -/
def arrivesSpec : ChangeSpec := { name := "arrives", fn := fun _ => fun
  | [d1, d2] => { results := [.lit (.bool true)], args := [d1, d2] }
  | _ => none }
def arrivesRow : OpenClaim := { program := "ytafamdnmhohhfaa", sum := "68114711924299a21f93551879541db15e77e74ecd1a167144ff86ea1933b263", func := "ferry/ferrykeep.Arrives", spec := "arrives", unfollowed := true, recurses := true, apart := false }
def ArrivesSaid : Prop := arrivesRow.holds Try.pinned (OpenSpec.ofChange arrivesSpec)

/-- ITS FALSE NEIGHBOUR: 'it returns false'. Refute it at one input. -/
def arrivesWrong : ChangeSpec := { name := "arrives", fn := fun _ => fun
  | [d1, d2] => { results := [.lit (.bool false)], args := [d1, d2] }
  | _ => none }
def ArrivesWrongFalsely : Prop := arrivesRow.holds Try.pinned (OpenSpec.ofChange arrivesWrong)

/-- 'ferrykeep.Held': WHATEVER THE INPUT: true; the input reads as it did. -/
def heldSpec : ChangeSpec := { name := "held", fn := fun _ => fun
  | [d1, d2] => { results := [.lit (.bool true)], args := [d1, d2] }
  | _ => none }
def heldRow : OpenClaim := { program := "ytafamdnmhohhfaa", sum := "68114711924299a21f93551879541db15e77e74ecd1a167144ff86ea1933b263", func := "ferry/ferrykeep.Held", spec := "held", unfollowed := true, recurses := true, apart := false }
def HeldSaid : Prop := heldRow.holds Try.pinned (OpenSpec.ofChange heldSpec)

/-- ITS FALSE NEIGHBOUR: 'it returns false'. Refute it at one input. -/
def heldWrong : ChangeSpec := { name := "held", fn := fun _ => fun
  | [d1, d2] => { results := [.lit (.bool false)], args := [d1, d2] }
  | _ => none }
def HeldWrongFalsely : Prop := heldRow.holds Try.pinned (OpenSpec.ofChange heldWrong)

/-- 'ferrykeep.Turns': WHATEVER THE INPUT: true; the input reads as it did. -/
def turnsSpec : ChangeSpec := { name := "turns", fn := fun _ => fun
  | [d1, d2, d3] => { results := [.lit (.bool true)], args := [d1, d2, d3] }
  | _ => none }
def turnsRow : OpenClaim := { program := "ytafamdnmhohhfaa", sum := "68114711924299a21f93551879541db15e77e74ecd1a167144ff86ea1933b263", func := "ferry/ferrykeep.Turns", spec := "turns", unfollowed := true, recurses := true, apart := false }
def TurnsSaid : Prop := turnsRow.holds Try.pinned (OpenSpec.ofChange turnsSpec)

/-- ITS FALSE NEIGHBOUR: 'it returns false'. Refute it at one input. -/
def turnsWrong : ChangeSpec := { name := "turns", fn := fun _ => fun
  | [d1, d2, d3] => { results := [.lit (.bool false)], args := [d1, d2, d3] }
  | _ => none }
def TurnsWrongFalsely : Prop := turnsRow.holds Try.pinned (OpenSpec.ofChange turnsWrong)

/-- 'ferrykeep.Pieces': WHATEVER THE INPUT: true; the input reads as it did. -/
def piecesSpec : ChangeSpec := { name := "pieces", fn := fun _ => fun
  | [d1, d2, d3] => { results := [.lit (.bool true)], args := [d1, d2, d3] }
  | _ => none }
def piecesRow : OpenClaim := { program := "ytafamdnmhohhfaa", sum := "68114711924299a21f93551879541db15e77e74ecd1a167144ff86ea1933b263", func := "ferry/ferrykeep.Pieces", spec := "pieces", unfollowed := true, recurses := true, apart := false }
def PiecesSaid : Prop := piecesRow.holds Try.pinned (OpenSpec.ofChange piecesSpec)

/-- ITS FALSE NEIGHBOUR: 'it returns false'. Refute it at one input. -/
def piecesWrong : ChangeSpec := { name := "pieces", fn := fun _ => fun
  | [d1, d2, d3] => { results := [.lit (.bool false)], args := [d1, d2, d3] }
  | _ => none }
def PiecesWrongFalsely : Prop := piecesRow.holds Try.pinned (OpenSpec.ofChange piecesWrong)

/-- 'ferrykeep.Carried': WHATEVER THE INPUT: true; the input reads as it did. -/
def carriedSpec : ChangeSpec := { name := "carried", fn := fun _ => fun
  | [d1, d2] => { results := [.lit (.bool true)], args := [d1, d2] }
  | _ => none }
def carriedRow : OpenClaim := { program := "ytafamdnmhohhfaa", sum := "68114711924299a21f93551879541db15e77e74ecd1a167144ff86ea1933b263", func := "ferry/ferrykeep.Carried", spec := "carried", unfollowed := true, recurses := true, apart := false }
def CarriedSaid : Prop := carriedRow.holds Try.pinned (OpenSpec.ofChange carriedSpec)

/-- ITS FALSE NEIGHBOUR: 'it returns false'. Refute it at one input. -/
def carriedWrong : ChangeSpec := { name := "carried", fn := fun _ => fun
  | [d1, d2] => { results := [.lit (.bool false)], args := [d1, d2] }
  | _ => none }
def CarriedWrongFalsely : Prop := carriedRow.holds Try.pinned (OpenSpec.ofChange carriedWrong)

/- THE SECOND FORM. 'bulk': how many values and letters a reading holds, each counted each time it is reached (what is shared counts as often as it is met; a slice's spare places count too). A statement '..UptoSaid' is the law's where the arguments, and the package variables that the reading takes, are together of bulk at most 1048576: NARROWER than '..Said'. Prove '..Said' where nothing that the law and all that it calls make is longer than what came in: it says more and counts as full. Else prove '..UptoSaid'. A law counts once. -/
mutual
def uptoBulk {H : Type} : DataW H → Nat
  | .lit (.string bytes) => bytes.length + 1
  | .lit _ => 1
  | .nil => 1
  | .ptr d => uptoBulk d + 1
  | .slice elems spare => uptoBulkAll elems + uptoBulkAll spare + 1
  | .agg parts => uptoBulkAll parts + 1
  | .iface _ d => uptoBulk d + 1
  | .map entries => uptoBulkEntries entries + 1
  | .held _ => 1
def uptoBulkAll {H : Type} : List (DataW H) → Nat
  | [] => 0
  | d :: r => uptoBulk d + uptoBulkAll r
def uptoBulkEntries {H : Type} : List (Lit × DataW H) → Nat
  | [] => 0
  | x :: r => uptoBulkEntry x + uptoBulkEntries r
def uptoBulkEntry {H : Type} : Lit × DataW H → Nat
  | (.string bytes, d) => bytes.length + uptoBulk d + 1
  | (_, d) => uptoBulk d + 1
 end
def uptoSmall : (H : Type) → List (DataW H) → Bool := fun _ ds => decide (uptoBulkAll ds ≤ 1048576)
def OpenSpec.upto (s : _root_.Go.ChangeSpec) : _root_.Go.OpenSpec := { _root_.Go.OpenSpec.ofChange s with cond := some uptoSmall }

/-- 'ferrykeep.Unpacked', WHERE WHAT IT READS IS OF BULK AT MOST 1048576: true; the input reads as it did. -/
def unpackedUptoRow : OpenClaim := { program := "ytafamdnmhohhfaa", sum := "68114711924299a21f93551879541db15e77e74ecd1a167144ff86ea1933b263", func := "ferry/ferrykeep.Unpacked", spec := "unpacked", apart := false, narrowed := true }
def UnpackedUptoSaid : Prop := unpackedUptoRow.holds Try.pinned (OpenSpec.upto unpackedSpec)

/-- 'ferrykeep.Arrives', WHERE WHAT IT READS IS OF BULK AT MOST 1048576: true; the input reads as it did. -/
def arrivesUptoRow : OpenClaim := { program := "ytafamdnmhohhfaa", sum := "68114711924299a21f93551879541db15e77e74ecd1a167144ff86ea1933b263", func := "ferry/ferrykeep.Arrives", spec := "arrives", unfollowed := true, recurses := true, apart := false, narrowed := true }
def ArrivesUptoSaid : Prop := arrivesUptoRow.holds Try.pinned (OpenSpec.upto arrivesSpec)

/-- 'ferrykeep.Held', WHERE WHAT IT READS IS OF BULK AT MOST 1048576: true; the input reads as it did. -/
def heldUptoRow : OpenClaim := { program := "ytafamdnmhohhfaa", sum := "68114711924299a21f93551879541db15e77e74ecd1a167144ff86ea1933b263", func := "ferry/ferrykeep.Held", spec := "held", unfollowed := true, recurses := true, apart := false, narrowed := true }
def HeldUptoSaid : Prop := heldUptoRow.holds Try.pinned (OpenSpec.upto heldSpec)

/-- 'ferrykeep.Turns', WHERE WHAT IT READS IS OF BULK AT MOST 1048576: true; the input reads as it did. -/
def turnsUptoRow : OpenClaim := { program := "ytafamdnmhohhfaa", sum := "68114711924299a21f93551879541db15e77e74ecd1a167144ff86ea1933b263", func := "ferry/ferrykeep.Turns", spec := "turns", unfollowed := true, recurses := true, apart := false, narrowed := true }
def TurnsUptoSaid : Prop := turnsUptoRow.holds Try.pinned (OpenSpec.upto turnsSpec)

/-- 'ferrykeep.Pieces', WHERE WHAT IT READS IS OF BULK AT MOST 1048576: true; the input reads as it did. -/
def piecesUptoRow : OpenClaim := { program := "ytafamdnmhohhfaa", sum := "68114711924299a21f93551879541db15e77e74ecd1a167144ff86ea1933b263", func := "ferry/ferrykeep.Pieces", spec := "pieces", unfollowed := true, recurses := true, apart := false, narrowed := true }
def PiecesUptoSaid : Prop := piecesUptoRow.holds Try.pinned (OpenSpec.upto piecesSpec)

/-- 'ferrykeep.Carried', WHERE WHAT IT READS IS OF BULK AT MOST 1048576: true; the input reads as it did. -/
def carriedUptoRow : OpenClaim := { program := "ytafamdnmhohhfaa", sum := "68114711924299a21f93551879541db15e77e74ecd1a167144ff86ea1933b263", func := "ferry/ferrykeep.Carried", spec := "carried", unfollowed := true, recurses := true, apart := false, narrowed := true }
def CarriedUptoSaid : Prop := carriedUptoRow.holds Try.pinned (OpenSpec.upto carriedSpec)

end Rows
end Go.Proofs.Ytafamdnmhohhfaa
