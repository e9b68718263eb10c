/-
  No cell of these rows narrows 'for every input' (looked for: loops, veiled, ifaces, maps, wideKeys, modest, calm, conditions, laid).
  DERIVED. THE GIVEN ROWS OF THIS SEAT. 4 by the template 'for every input the law returns true; each argument reads behind the call as it read before'; 0 by the template 'total and deterministic' (their statements: YtdfgjfojneoljaaTotals.lean).
  GIVEN WITH THE SEED: the statements are not yours to turn. If you find one false, say at which input.
  Laid BY PROGRAM, IN A SANDBOX (cutbox-rows.mjs): the forced cells as the released guide's own fill.sh prints them over the translation b72c7d1425fd1319… (all of the seat's roots in one cut). By AI agents, Wed Nov 11 2026. No macro, syntax, notation, axiom, sorry.
-/
import Derived.Test.YtdfgjfojneoljaaChecked
import GoSem.Claim
import GoSem.ClaimJoined
import GoSem.ClaimMapViews
import Derived.JoinedTies
import Derived.KernelRfl
namespace Go.Proofs.Ytdfgjfojneoljaa
/- THE CELL 'sum', in the pinned program and in every row, IS THE sha256 OF THE DUMP (.gsa) THAT YtdfgjfojneoljaaProg.lean LOADS. Nothing in Lean hashes anything: it is a label: what it is worth is what the hold of that sum in a sandbox is worth. -/
noncomputable def Try.pinned : Pinned := { name := "ytdfgjfojneoljaa", sum := "b72c7d1425fd13199b09c64332401fb63a0c6ea32d3dac4bac23aa5cd00d0dc7", checked := Try.checked }
namespace Rows
def none {H : Type} : Left H := { results := [], args := [] }

/-- 'servitorlaw07.DriveSteps': WHATEVER THE INPUT: true; the input reads as it did. -/
def driveStepsSpec : ChangeSpec := { name := "driveSteps", fn := fun _ => fun
  | [d1, d2, d3, d4, d5, d6, d7] => { results := [.lit (.bool true)], args := [d1, d2, d3, d4, d5, d6, d7] }
  | _ => none }
def driveStepsRow : OpenClaim := { program := "ytdfgjfojneoljaa", sum := "b72c7d1425fd13199b09c64332401fb63a0c6ea32d3dac4bac23aa5cd00d0dc7", func := "servitor/servitorlaw07.DriveSteps", spec := "driveSteps", apart := false }
def DriveStepsSaid : Prop := driveStepsRow.holds Try.pinned (OpenSpec.ofChange driveStepsSpec)

/-- ITS FALSE NEIGHBOUR: 'it returns false'. Refute it at one input. -/
def driveStepsWrong : ChangeSpec := { name := "driveSteps", fn := fun _ => fun
  | [d1, d2, d3, d4, d5, d6, d7] => { results := [.lit (.bool false)], args := [d1, d2, d3, d4, d5, d6, d7] }
  | _ => none }
def DriveStepsWrongFalsely : Prop := driveStepsRow.holds Try.pinned (OpenSpec.ofChange driveStepsWrong)

/-- 'servitorlaw07.DriveTakes': WHATEVER THE INPUT: true; the input reads as it did. -/
def driveTakesSpec : ChangeSpec := { name := "driveTakes", fn := fun _ => fun
  | [d1, d2, d3] => { results := [.lit (.bool true)], args := [d1, d2, d3] }
  | _ => none }
def driveTakesRow : OpenClaim := { program := "ytdfgjfojneoljaa", sum := "b72c7d1425fd13199b09c64332401fb63a0c6ea32d3dac4bac23aa5cd00d0dc7", func := "servitor/servitorlaw07.DriveTakes", spec := "driveTakes", apart := false }
def DriveTakesSaid : Prop := driveTakesRow.holds Try.pinned (OpenSpec.ofChange driveTakesSpec)

/-- ITS FALSE NEIGHBOUR: 'it returns false'. Refute it at one input. -/
def driveTakesWrong : ChangeSpec := { name := "driveTakes", fn := fun _ => fun
  | [d1, d2, d3] => { results := [.lit (.bool false)], args := [d1, d2, d3] }
  | _ => none }
def DriveTakesWrongFalsely : Prop := driveTakesRow.holds Try.pinned (OpenSpec.ofChange driveTakesWrong)

/-- 'servitorlaw07.DriveSpoilt': WHATEVER THE INPUT: true; the input reads as it did. -/
def driveSpoiltSpec : ChangeSpec := { name := "driveSpoilt", fn := fun _ => fun
  | [d1, d2, d3, d4, d5] => { results := [.lit (.bool true)], args := [d1, d2, d3, d4, d5] }
  | _ => none }
def driveSpoiltRow : OpenClaim := { program := "ytdfgjfojneoljaa", sum := "b72c7d1425fd13199b09c64332401fb63a0c6ea32d3dac4bac23aa5cd00d0dc7", func := "servitor/servitorlaw07.DriveSpoilt", spec := "driveSpoilt", apart := false }
def DriveSpoiltSaid : Prop := driveSpoiltRow.holds Try.pinned (OpenSpec.ofChange driveSpoiltSpec)

/-- ITS FALSE NEIGHBOUR: 'it returns false'. Refute it at one input. -/
def driveSpoiltWrong : ChangeSpec := { name := "driveSpoilt", fn := fun _ => fun
  | [d1, d2, d3, d4, d5] => { results := [.lit (.bool false)], args := [d1, d2, d3, d4, d5] }
  | _ => none }
def DriveSpoiltWrongFalsely : Prop := driveSpoiltRow.holds Try.pinned (OpenSpec.ofChange driveSpoiltWrong)

/-- 'servitorlaw07.DriveTold': WHATEVER THE INPUT: true; the input reads as it did. -/
def driveToldSpec : ChangeSpec := { name := "driveTold", fn := fun _ => fun
  | [d1, d2, d3] => { results := [.lit (.bool true)], args := [d1, d2, d3] }
  | _ => none }
def driveToldRow : OpenClaim := { program := "ytdfgjfojneoljaa", sum := "b72c7d1425fd13199b09c64332401fb63a0c6ea32d3dac4bac23aa5cd00d0dc7", func := "servitor/servitorlaw07.DriveTold", spec := "driveTold", apart := false }
def DriveToldSaid : Prop := driveToldRow.holds Try.pinned (OpenSpec.ofChange driveToldSpec)

/-- ITS FALSE NEIGHBOUR: 'it returns false'. Refute it at one input. -/
def driveToldWrong : ChangeSpec := { name := "driveTold", fn := fun _ => fun
  | [d1, d2, d3] => { results := [.lit (.bool false)], args := [d1, d2, d3] }
  | _ => none }
def DriveToldWrongFalsely : Prop := driveToldRow.holds Try.pinned (OpenSpec.ofChange driveToldWrong)

/- THE SECOND FORM. 'bulk': how many values and letters a reading holds, each counted each time it is reached (what is shared counts as often as it is met; a slice's spare places count too). A statement '..UptoSaid' is the law's where the arguments, and the package variables that the reading takes, are together of bulk at most 1048576: NARROWER than '..Said'. Prove '..Said' where nothing that the law and all that it calls make is longer than what came in: it says more and counts as full. Else prove '..UptoSaid'. A law counts once. -/
mutual
def uptoBulk {H : Type} : DataW H → Nat
  | .lit (.string bytes) => bytes.length + 1
  | .lit _ => 1
  | .nil => 1
  | .ptr d => uptoBulk d + 1
  | .slice elems spare => uptoBulkAll elems + uptoBulkAll spare + 1
  | .agg parts => uptoBulkAll parts + 1
  | .iface _ d => uptoBulk d + 1
  | .map entries => uptoBulkEntries entries + 1
  | .held _ => 1
def uptoBulkAll {H : Type} : List (DataW H) → Nat
  | [] => 0
  | d :: r => uptoBulk d + uptoBulkAll r
def uptoBulkEntries {H : Type} : List (Lit × DataW H) → Nat
  | [] => 0
  | x :: r => uptoBulkEntry x + uptoBulkEntries r
def uptoBulkEntry {H : Type} : Lit × DataW H → Nat
  | (.string bytes, d) => bytes.length + uptoBulk d + 1
  | (_, d) => uptoBulk d + 1
 end
def uptoSmall : (H : Type) → List (DataW H) → Bool := fun _ ds => decide (uptoBulkAll ds ≤ 1048576)
def OpenSpec.upto (s : _root_.Go.ChangeSpec) : _root_.Go.OpenSpec := { _root_.Go.OpenSpec.ofChange s with cond := some uptoSmall }

/-- 'servitorlaw07.DriveSteps', WHERE WHAT IT READS IS OF BULK AT MOST 1048576: true; the input reads as it did. -/
def driveStepsUptoRow : OpenClaim := { program := "ytdfgjfojneoljaa", sum := "b72c7d1425fd13199b09c64332401fb63a0c6ea32d3dac4bac23aa5cd00d0dc7", func := "servitor/servitorlaw07.DriveSteps", spec := "driveSteps", apart := false, narrowed := true }
def DriveStepsUptoSaid : Prop := driveStepsUptoRow.holds Try.pinned (OpenSpec.upto driveStepsSpec)

/-- 'servitorlaw07.DriveTakes', WHERE WHAT IT READS IS OF BULK AT MOST 1048576: true; the input reads as it did. -/
def driveTakesUptoRow : OpenClaim := { program := "ytdfgjfojneoljaa", sum := "b72c7d1425fd13199b09c64332401fb63a0c6ea32d3dac4bac23aa5cd00d0dc7", func := "servitor/servitorlaw07.DriveTakes", spec := "driveTakes", apart := false, narrowed := true }
def DriveTakesUptoSaid : Prop := driveTakesUptoRow.holds Try.pinned (OpenSpec.upto driveTakesSpec)

/-- 'servitorlaw07.DriveSpoilt', WHERE WHAT IT READS IS OF BULK AT MOST 1048576: true; the input reads as it did. -/
def driveSpoiltUptoRow : OpenClaim := { program := "ytdfgjfojneoljaa", sum := "b72c7d1425fd13199b09c64332401fb63a0c6ea32d3dac4bac23aa5cd00d0dc7", func := "servitor/servitorlaw07.DriveSpoilt", spec := "driveSpoilt", apart := false, narrowed := true }
def DriveSpoiltUptoSaid : Prop := driveSpoiltUptoRow.holds Try.pinned (OpenSpec.upto driveSpoiltSpec)

/-- 'servitorlaw07.DriveTold', WHERE WHAT IT READS IS OF BULK AT MOST 1048576: true; the input reads as it did. -/
def driveToldUptoRow : OpenClaim := { program := "ytdfgjfojneoljaa", sum := "b72c7d1425fd13199b09c64332401fb63a0c6ea32d3dac4bac23aa5cd00d0dc7", func := "servitor/servitorlaw07.DriveTold", spec := "driveTold", apart := false, narrowed := true }
def DriveToldUptoSaid : Prop := driveToldUptoRow.holds Try.pinned (OpenSpec.upto driveToldSpec)

end Rows
end Go.Proofs.Ytdfgjfojneoljaa
