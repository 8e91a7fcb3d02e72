/-
  No cell of these rows narrows 'for every input' (looked for: loops, veiled, ifaces, maps, wideKeys, modest, calm, conditions, laid).
  DERIVED. THE GIVEN ROWS OF THIS SEAT. 7 by the template 'for every input the law returns true; each argument reads behind the call as it read before'; 0 by the template 'total and deterministic' (their statements: YtoijpogadkogcaaGreatTotals.lean).
  GIVEN WITH THE SEED: the statements are not yours to turn. If you find one false, say at which input.
  Laid BY PROGRAM, IN A SANDBOX (cutbox-rows.mjs): the forced cells as the released guide's own fill.sh prints them over the translation 679079bb9430a1a9… (all of the seat's roots in one cut). By AI agents, Wed Nov 11 2026. No macro, syntax, notation, axiom, sorry.
-/
import Derived.Test.YtoijpogadkogcaaGreatChecked
import GoSem.Claim
import GoSem.ClaimJoined
import GoSem.ClaimMapViews
import Derived.JoinedTies
import Derived.KernelRfl
namespace Go.Proofs.YtoijpogadkogcaaGreat
/- THE CELL 'sum', in the pinned program and in every row, IS THE sha256 OF THE DUMP (.gsa) THAT YtoijpogadkogcaaGreatProg.lean LOADS. Nothing in Lean hashes anything: it is a label: what it is worth is what the hold of that sum in a sandbox is worth. -/
noncomputable def Tryz.pinned : Pinned := { name := "ytoijpogadkogcaagreat", sum := "679079bb9430a1a937c7ea4467a0b50cc06ad33535a0d8b760f77093f546c111", checked := Tryz.checked }
namespace Rows
def none {H : Type} : Left H := { results := [], args := [] }

/-- 'ferrylaw.Packs': WHATEVER THE INPUT: true; the input reads as it did. -/
def packsSpec : ChangeSpec := { name := "packs", fn := fun _ => fun
  | [d] => { results := [.lit (.bool true)], args := [d] }
  | _ => none }
def packsRow : OpenClaim := { program := "ytoijpogadkogcaagreat", sum := "679079bb9430a1a937c7ea4467a0b50cc06ad33535a0d8b760f77093f546c111", func := "ferry/ferrylaw.Packs", spec := "packs", unfollowed := true, recurses := true, apart := false }
def PacksSaid : Prop := packsRow.holds Tryz.pinned (OpenSpec.ofChange packsSpec)

/-- ITS FALSE NEIGHBOUR: 'it returns false'. Refute it at one input. -/
def packsWrong : ChangeSpec := { name := "packs", fn := fun _ => fun
  | [d] => { results := [.lit (.bool false)], args := [d] }
  | _ => none }
def PacksWrongFalsely : Prop := packsRow.holds Tryz.pinned (OpenSpec.ofChange packsWrong)

/-- 'ferrylaw.Begun': WHATEVER THE INPUT: true; the input reads as it did. -/
def begunSpec : ChangeSpec := { name := "begun", fn := fun _ => fun
  | [d] => { results := [.lit (.bool true)], args := [d] }
  | _ => none }
def begunRow : OpenClaim := { program := "ytoijpogadkogcaagreat", sum := "679079bb9430a1a937c7ea4467a0b50cc06ad33535a0d8b760f77093f546c111", func := "ferry/ferrylaw.Begun", spec := "begun", unfollowed := true, recurses := true, apart := false }
def BegunSaid : Prop := begunRow.holds Tryz.pinned (OpenSpec.ofChange begunSpec)

/-- ITS FALSE NEIGHBOUR: 'it returns false'. Refute it at one input. -/
def begunWrong : ChangeSpec := { name := "begun", fn := fun _ => fun
  | [d] => { results := [.lit (.bool false)], args := [d] }
  | _ => none }
def BegunWrongFalsely : Prop := begunRow.holds Tryz.pinned (OpenSpec.ofChange begunWrong)

/-- 'ferrylaw.Streamed': WHATEVER THE INPUT: true; the input reads as it did. -/
def streamedSpec : ChangeSpec := { name := "streamed", fn := fun _ => fun
  | [d] => { results := [.lit (.bool true)], args := [d] }
  | _ => none }
def streamedRow : OpenClaim := { program := "ytoijpogadkogcaagreat", sum := "679079bb9430a1a937c7ea4467a0b50cc06ad33535a0d8b760f77093f546c111", func := "ferry/ferrylaw.Streamed", spec := "streamed", unfollowed := true, recurses := true, apart := false }
def StreamedSaid : Prop := streamedRow.holds Tryz.pinned (OpenSpec.ofChange streamedSpec)

/-- ITS FALSE NEIGHBOUR: 'it returns false'. Refute it at one input. -/
def streamedWrong : ChangeSpec := { name := "streamed", fn := fun _ => fun
  | [d] => { results := [.lit (.bool false)], args := [d] }
  | _ => none }
def StreamedWrongFalsely : Prop := streamedRow.holds Tryz.pinned (OpenSpec.ofChange streamedWrong)

/-- 'ferrykeep.Arrives': WHATEVER THE INPUT: true; the input reads as it did. -/
def arrivesSpec : ChangeSpec := { name := "arrives", fn := fun _ => fun
  | [d1, d2] => { results := [.lit (.bool true)], args := [d1, d2] }
  | _ => none }
def arrivesRow : OpenClaim := { program := "ytoijpogadkogcaagreat", sum := "679079bb9430a1a937c7ea4467a0b50cc06ad33535a0d8b760f77093f546c111", func := "ferry/ferrykeep.Arrives", spec := "arrives", unfollowed := true, recurses := true, apart := false }
def ArrivesSaid : Prop := arrivesRow.holds Tryz.pinned (OpenSpec.ofChange arrivesSpec)

/-- ITS FALSE NEIGHBOUR: 'it returns false'. Refute it at one input. -/
def arrivesWrong : ChangeSpec := { name := "arrives", fn := fun _ => fun
  | [d1, d2] => { results := [.lit (.bool false)], args := [d1, d2] }
  | _ => none }
def ArrivesWrongFalsely : Prop := arrivesRow.holds Tryz.pinned (OpenSpec.ofChange arrivesWrong)

/-- 'ferrykeep.Held': WHATEVER THE INPUT: true; the input reads as it did. -/
def heldSpec : ChangeSpec := { name := "held", fn := fun _ => fun
  | [d1, d2] => { results := [.lit (.bool true)], args := [d1, d2] }
  | _ => none }
def heldRow : OpenClaim := { program := "ytoijpogadkogcaagreat", sum := "679079bb9430a1a937c7ea4467a0b50cc06ad33535a0d8b760f77093f546c111", func := "ferry/ferrykeep.Held", spec := "held", unfollowed := true, recurses := true, apart := false }
def HeldSaid : Prop := heldRow.holds Tryz.pinned (OpenSpec.ofChange heldSpec)

/-- ITS FALSE NEIGHBOUR: 'it returns false'. Refute it at one input. -/
def heldWrong : ChangeSpec := { name := "held", fn := fun _ => fun
  | [d1, d2] => { results := [.lit (.bool false)], args := [d1, d2] }
  | _ => none }
def HeldWrongFalsely : Prop := heldRow.holds Tryz.pinned (OpenSpec.ofChange heldWrong)

/-- 'ferrykeep.Carried': WHATEVER THE INPUT: true; the input reads as it did. -/
def carriedSpec : ChangeSpec := { name := "carried", fn := fun _ => fun
  | [d1, d2] => { results := [.lit (.bool true)], args := [d1, d2] }
  | _ => none }
def carriedRow : OpenClaim := { program := "ytoijpogadkogcaagreat", sum := "679079bb9430a1a937c7ea4467a0b50cc06ad33535a0d8b760f77093f546c111", func := "ferry/ferrykeep.Carried", spec := "carried", unfollowed := true, recurses := true, apart := false }
def CarriedSaid : Prop := carriedRow.holds Tryz.pinned (OpenSpec.ofChange carriedSpec)

/-- ITS FALSE NEIGHBOUR: 'it returns false'. Refute it at one input. -/
def carriedWrong : ChangeSpec := { name := "carried", fn := fun _ => fun
  | [d1, d2] => { results := [.lit (.bool false)], args := [d1, d2] }
  | _ => none }
def CarriedWrongFalsely : Prop := carriedRow.holds Tryz.pinned (OpenSpec.ofChange carriedWrong)

/-- 'ferrylaw.All': WHATEVER THE INPUT: true; the input reads as it did. -/
def allSpec : ChangeSpec := { name := "all", fn := fun _ => fun
  | [d] => { results := [.lit (.bool true)], args := [d] }
  | _ => none }
def allRow : OpenClaim := { program := "ytoijpogadkogcaagreat", sum := "679079bb9430a1a937c7ea4467a0b50cc06ad33535a0d8b760f77093f546c111", func := "ferry/ferrylaw.All", spec := "all", unfollowed := true, recurses := true, apart := false }
def AllSaid : Prop := allRow.holds Tryz.pinned (OpenSpec.ofChange allSpec)

/-- ITS FALSE NEIGHBOUR: 'it returns false'. Refute it at one input. -/
def allWrong : ChangeSpec := { name := "all", fn := fun _ => fun
  | [d] => { results := [.lit (.bool false)], args := [d] }
  | _ => none }
def AllWrongFalsely : Prop := allRow.holds Tryz.pinned (OpenSpec.ofChange allWrong)

/- THE SECOND FORM. 'bulk': how many values and letters a reading holds, each counted each time it is reached (what is shared counts as often as it is met; a slice's spare places count too). A statement '..UptoSaid' is the law's where the arguments, and the package variables that the reading takes, are together of bulk at most 1048576: NARROWER than '..Said'. Prove '..Said' where nothing that the law and all that it calls make is longer than what came in: it says more and counts as full. Else prove '..UptoSaid'. A law counts once. -/
mutual
def uptoBulk {H : Type} : DataW H → Nat
  | .lit (.string bytes) => bytes.length + 1
  | .lit _ => 1
  | .nil => 1
  | .ptr d => uptoBulk d + 1
  | .slice elems spare => uptoBulkAll elems + uptoBulkAll spare + 1
  | .agg parts => uptoBulkAll parts + 1
  | .iface _ d => uptoBulk d + 1
  | .map entries => uptoBulkEntries entries + 1
  | .held _ => 1
def uptoBulkAll {H : Type} : List (DataW H) → Nat
  | [] => 0
  | d :: r => uptoBulk d + uptoBulkAll r
def uptoBulkEntries {H : Type} : List (Lit × DataW H) → Nat
  | [] => 0
  | x :: r => uptoBulkEntry x + uptoBulkEntries r
def uptoBulkEntry {H : Type} : Lit × DataW H → Nat
  | (.string bytes, d) => bytes.length + uptoBulk d + 1
  | (_, d) => uptoBulk d + 1
 end
def uptoSmall : (H : Type) → List (DataW H) → Bool := fun _ ds => decide (uptoBulkAll ds ≤ 1048576)
def OpenSpec.upto (s : _root_.Go.ChangeSpec) : _root_.Go.OpenSpec := { _root_.Go.OpenSpec.ofChange s with cond := some uptoSmall }

/-- 'ferrylaw.Packs', WHERE WHAT IT READS IS OF BULK AT MOST 1048576: true; the input reads as it did. -/
def packsUptoRow : OpenClaim := { program := "ytoijpogadkogcaagreat", sum := "679079bb9430a1a937c7ea4467a0b50cc06ad33535a0d8b760f77093f546c111", func := "ferry/ferrylaw.Packs", spec := "packs", unfollowed := true, recurses := true, apart := false, narrowed := true }
def PacksUptoSaid : Prop := packsUptoRow.holds Tryz.pinned (OpenSpec.upto packsSpec)

/-- 'ferrylaw.Begun', WHERE WHAT IT READS IS OF BULK AT MOST 1048576: true; the input reads as it did. -/
def begunUptoRow : OpenClaim := { program := "ytoijpogadkogcaagreat", sum := "679079bb9430a1a937c7ea4467a0b50cc06ad33535a0d8b760f77093f546c111", func := "ferry/ferrylaw.Begun", spec := "begun", unfollowed := true, recurses := true, apart := false, narrowed := true }
def BegunUptoSaid : Prop := begunUptoRow.holds Tryz.pinned (OpenSpec.upto begunSpec)

/-- 'ferrylaw.Streamed', WHERE WHAT IT READS IS OF BULK AT MOST 1048576: true; the input reads as it did. -/
def streamedUptoRow : OpenClaim := { program := "ytoijpogadkogcaagreat", sum := "679079bb9430a1a937c7ea4467a0b50cc06ad33535a0d8b760f77093f546c111", func := "ferry/ferrylaw.Streamed", spec := "streamed", unfollowed := true, recurses := true, apart := false, narrowed := true }
def StreamedUptoSaid : Prop := streamedUptoRow.holds Tryz.pinned (OpenSpec.upto streamedSpec)

/-- 'ferrykeep.Arrives', WHERE WHAT IT READS IS OF BULK AT MOST 1048576: true; the input reads as it did. -/
def arrivesUptoRow : OpenClaim := { program := "ytoijpogadkogcaagreat", sum := "679079bb9430a1a937c7ea4467a0b50cc06ad33535a0d8b760f77093f546c111", func := "ferry/ferrykeep.Arrives", spec := "arrives", unfollowed := true, recurses := true, apart := false, narrowed := true }
def ArrivesUptoSaid : Prop := arrivesUptoRow.holds Tryz.pinned (OpenSpec.upto arrivesSpec)

/-- 'ferrykeep.Held', WHERE WHAT IT READS IS OF BULK AT MOST 1048576: true; the input reads as it did. -/
def heldUptoRow : OpenClaim := { program := "ytoijpogadkogcaagreat", sum := "679079bb9430a1a937c7ea4467a0b50cc06ad33535a0d8b760f77093f546c111", func := "ferry/ferrykeep.Held", spec := "held", unfollowed := true, recurses := true, apart := false, narrowed := true }
def HeldUptoSaid : Prop := heldUptoRow.holds Tryz.pinned (OpenSpec.upto heldSpec)

/-- 'ferrykeep.Carried', WHERE WHAT IT READS IS OF BULK AT MOST 1048576: true; the input reads as it did. -/
def carriedUptoRow : OpenClaim := { program := "ytoijpogadkogcaagreat", sum := "679079bb9430a1a937c7ea4467a0b50cc06ad33535a0d8b760f77093f546c111", func := "ferry/ferrykeep.Carried", spec := "carried", unfollowed := true, recurses := true, apart := false, narrowed := true }
def CarriedUptoSaid : Prop := carriedUptoRow.holds Tryz.pinned (OpenSpec.upto carriedSpec)

/-- 'ferrylaw.All', WHERE WHAT IT READS IS OF BULK AT MOST 1048576: true; the input reads as it did. -/
def allUptoRow : OpenClaim := { program := "ytoijpogadkogcaagreat", sum := "679079bb9430a1a937c7ea4467a0b50cc06ad33535a0d8b760f77093f546c111", func := "ferry/ferrylaw.All", spec := "all", unfollowed := true, recurses := true, apart := false, narrowed := true }
def AllUptoSaid : Prop := allUptoRow.holds Tryz.pinned (OpenSpec.upto allSpec)

end Rows
end Go.Proofs.YtoijpogadkogcaaGreat
