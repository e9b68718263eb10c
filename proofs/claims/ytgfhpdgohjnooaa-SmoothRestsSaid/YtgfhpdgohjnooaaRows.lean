/-
  No cell of these rows narrows 'for every input' (looked for: loops, veiled, ifaces, maps, wideKeys, modest, calm, conditions, laid).
  DERIVED. THE GIVEN ROWS OF THIS SEAT. 5 by the template 'for every input the law returns true; each argument reads behind the call as it read before'; 0 by the template 'total and deterministic' (their statements: YtgfhpdgohjnooaaTotals.lean).
  GIVEN WITH THE SEED: the statements are not yours to turn. If you find one false, say at which input.
  Laid BY PROGRAM, IN A SANDBOX (cutbox-rows.mjs): the forced cells as the released guide's own fill.sh prints them over the translation c67c9c9fdd349b2d… (all of the seat's roots in one cut). By AI agents, Wed Nov 11 2026. No macro, syntax, notation, axiom, sorry.
-/
import Derived.Test.YtgfhpdgohjnooaaChecked
import GoSem.Claim
import GoSem.ClaimJoined
import GoSem.ClaimMapViews
import Derived.JoinedTies
import Derived.KernelRfl
namespace Go.Proofs.Ytgfhpdgohjnooaa
/- THE CELL 'sum', in the pinned program and in every row, IS THE sha256 OF THE DUMP (.gsa) THAT YtgfhpdgohjnooaaProg.lean LOADS. Nothing in Lean hashes anything: it is a label: what it is worth is what the hold of that sum in a sandbox is worth. -/
noncomputable def Try.pinned : Pinned := { name := "ytgfhpdgohjnooaa", sum := "c67c9c9fdd349b2d23107d018454e36f09652ee53efadaf2a52ed3afde609f3a", checked := Try.checked }
namespace Rows
def none {H : Type} : Left H := { results := [], args := [] }

/-- 'servitorlaw10.SmoothSteps': WHATEVER THE INPUT: true; the input reads as it did. -/
def smoothStepsSpec : ChangeSpec := { name := "smoothSteps", fn := fun _ => fun
  | [d1, d2, d3, d4] => { results := [.lit (.bool true)], args := [d1, d2, d3, d4] }
  | _ => none }
def smoothStepsRow : OpenClaim := { program := "ytgfhpdgohjnooaa", sum := "c67c9c9fdd349b2d23107d018454e36f09652ee53efadaf2a52ed3afde609f3a", func := "servitor/servitorlaw10.SmoothSteps", spec := "smoothSteps", apart := false }
def SmoothStepsSaid : Prop := smoothStepsRow.holds Try.pinned (OpenSpec.ofChange smoothStepsSpec)

/-- ITS FALSE NEIGHBOUR: 'it returns false'. Refute it at one input. -/
def smoothStepsWrong : ChangeSpec := { name := "smoothSteps", fn := fun _ => fun
  | [d1, d2, d3, d4] => { results := [.lit (.bool false)], args := [d1, d2, d3, d4] }
  | _ => none }
def SmoothStepsWrongFalsely : Prop := smoothStepsRow.holds Try.pinned (OpenSpec.ofChange smoothStepsWrong)

/-- 'servitorlaw10.SmoothBounds': WHATEVER THE INPUT: true; the input reads as it did. -/
def smoothBoundsSpec : ChangeSpec := { name := "smoothBounds", fn := fun _ => fun
  | [d1, d2, d3] => { results := [.lit (.bool true)], args := [d1, d2, d3] }
  | _ => none }
def smoothBoundsRow : OpenClaim := { program := "ytgfhpdgohjnooaa", sum := "c67c9c9fdd349b2d23107d018454e36f09652ee53efadaf2a52ed3afde609f3a", func := "servitor/servitorlaw10.SmoothBounds", spec := "smoothBounds", apart := false }
def SmoothBoundsSaid : Prop := smoothBoundsRow.holds Try.pinned (OpenSpec.ofChange smoothBoundsSpec)

/-- ITS FALSE NEIGHBOUR: 'it returns false'. Refute it at one input. -/
def smoothBoundsWrong : ChangeSpec := { name := "smoothBounds", fn := fun _ => fun
  | [d1, d2, d3] => { results := [.lit (.bool false)], args := [d1, d2, d3] }
  | _ => none }
def SmoothBoundsWrongFalsely : Prop := smoothBoundsRow.holds Try.pinned (OpenSpec.ofChange smoothBoundsWrong)

/-- 'servitorlaw10.SmoothRests': WHATEVER THE INPUT: true; the input reads as it did. -/
def smoothRestsSpec : ChangeSpec := { name := "smoothRests", fn := fun _ => fun
  | [d1, d2, d3, d4] => { results := [.lit (.bool true)], args := [d1, d2, d3, d4] }
  | _ => none }
def smoothRestsRow : OpenClaim := { program := "ytgfhpdgohjnooaa", sum := "c67c9c9fdd349b2d23107d018454e36f09652ee53efadaf2a52ed3afde609f3a", func := "servitor/servitorlaw10.SmoothRests", spec := "smoothRests", apart := false }
def SmoothRestsSaid : Prop := smoothRestsRow.holds Try.pinned (OpenSpec.ofChange smoothRestsSpec)

/-- ITS FALSE NEIGHBOUR: 'it returns false'. Refute it at one input. -/
def smoothRestsWrong : ChangeSpec := { name := "smoothRests", fn := fun _ => fun
  | [d1, d2, d3, d4] => { results := [.lit (.bool false)], args := [d1, d2, d3, d4] }
  | _ => none }
def SmoothRestsWrongFalsely : Prop := smoothRestsRow.holds Try.pinned (OpenSpec.ofChange smoothRestsWrong)

/-- 'servitorlaw10.SmoothShifts': WHATEVER THE INPUT: true; the input reads as it did. -/
def smoothShiftsSpec : ChangeSpec := { name := "smoothShifts", fn := fun _ => fun
  | [d1, d2, d3] => { results := [.lit (.bool true)], args := [d1, d2, d3] }
  | _ => none }
def smoothShiftsRow : OpenClaim := { program := "ytgfhpdgohjnooaa", sum := "c67c9c9fdd349b2d23107d018454e36f09652ee53efadaf2a52ed3afde609f3a", func := "servitor/servitorlaw10.SmoothShifts", spec := "smoothShifts", apart := false }
def SmoothShiftsSaid : Prop := smoothShiftsRow.holds Try.pinned (OpenSpec.ofChange smoothShiftsSpec)

/-- ITS FALSE NEIGHBOUR: 'it returns false'. Refute it at one input. -/
def smoothShiftsWrong : ChangeSpec := { name := "smoothShifts", fn := fun _ => fun
  | [d1, d2, d3] => { results := [.lit (.bool false)], args := [d1, d2, d3] }
  | _ => none }
def SmoothShiftsWrongFalsely : Prop := smoothShiftsRow.holds Try.pinned (OpenSpec.ofChange smoothShiftsWrong)

/-- 'servitorlaw10.SmoothOne': WHATEVER THE INPUT: true; the input reads as it did. -/
def smoothOneSpec : ChangeSpec := { name := "smoothOne", fn := fun _ => fun
  | [d1, d2, d3] => { results := [.lit (.bool true)], args := [d1, d2, d3] }
  | _ => none }
def smoothOneRow : OpenClaim := { program := "ytgfhpdgohjnooaa", sum := "c67c9c9fdd349b2d23107d018454e36f09652ee53efadaf2a52ed3afde609f3a", func := "servitor/servitorlaw10.SmoothOne", spec := "smoothOne", apart := false }
def SmoothOneSaid : Prop := smoothOneRow.holds Try.pinned (OpenSpec.ofChange smoothOneSpec)

/-- ITS FALSE NEIGHBOUR: 'it returns false'. Refute it at one input. -/
def smoothOneWrong : ChangeSpec := { name := "smoothOne", fn := fun _ => fun
  | [d1, d2, d3] => { results := [.lit (.bool false)], args := [d1, d2, d3] }
  | _ => none }
def SmoothOneWrongFalsely : Prop := smoothOneRow.holds Try.pinned (OpenSpec.ofChange smoothOneWrong)

/- THE SECOND FORM. 'bulk': how many values and letters a reading holds, each counted each time it is reached (what is shared counts as often as it is met; a slice's spare places count too). A statement '..UptoSaid' is the law's where the arguments, and the package variables that the reading takes, are together of bulk at most 1048576: NARROWER than '..Said'. Prove '..Said' where nothing that the law and all that it calls make is longer than what came in: it says more and counts as full. Else prove '..UptoSaid'. A law counts once. -/
mutual
def uptoBulk {H : Type} : DataW H → Nat
  | .lit (.string bytes) => bytes.length + 1
  | .lit _ => 1
  | .nil => 1
  | .ptr d => uptoBulk d + 1
  | .slice elems spare => uptoBulkAll elems + uptoBulkAll spare + 1
  | .agg parts => uptoBulkAll parts + 1
  | .iface _ d => uptoBulk d + 1
  | .map entries => uptoBulkEntries entries + 1
  | .held _ => 1
def uptoBulkAll {H : Type} : List (DataW H) → Nat
  | [] => 0
  | d :: r => uptoBulk d + uptoBulkAll r
def uptoBulkEntries {H : Type} : List (Lit × DataW H) → Nat
  | [] => 0
  | x :: r => uptoBulkEntry x + uptoBulkEntries r
def uptoBulkEntry {H : Type} : Lit × DataW H → Nat
  | (.string bytes, d) => bytes.length + uptoBulk d + 1
  | (_, d) => uptoBulk d + 1
 end
def uptoSmall : (H : Type) → List (DataW H) → Bool := fun _ ds => decide (uptoBulkAll ds ≤ 1048576)
def OpenSpec.upto (s : _root_.Go.ChangeSpec) : _root_.Go.OpenSpec := { _root_.Go.OpenSpec.ofChange s with cond := some uptoSmall }

/-- 'servitorlaw10.SmoothSteps', WHERE WHAT IT READS IS OF BULK AT MOST 1048576: true; the input reads as it did. -/
def smoothStepsUptoRow : OpenClaim := { program := "ytgfhpdgohjnooaa", sum := "c67c9c9fdd349b2d23107d018454e36f09652ee53efadaf2a52ed3afde609f3a", func := "servitor/servitorlaw10.SmoothSteps", spec := "smoothSteps", apart := false, narrowed := true }
def SmoothStepsUptoSaid : Prop := smoothStepsUptoRow.holds Try.pinned (OpenSpec.upto smoothStepsSpec)

/-- 'servitorlaw10.SmoothBounds', WHERE WHAT IT READS IS OF BULK AT MOST 1048576: true; the input reads as it did. -/
def smoothBoundsUptoRow : OpenClaim := { program := "ytgfhpdgohjnooaa", sum := "c67c9c9fdd349b2d23107d018454e36f09652ee53efadaf2a52ed3afde609f3a", func := "servitor/servitorlaw10.SmoothBounds", spec := "smoothBounds", apart := false, narrowed := true }
def SmoothBoundsUptoSaid : Prop := smoothBoundsUptoRow.holds Try.pinned (OpenSpec.upto smoothBoundsSpec)

/-- 'servitorlaw10.SmoothRests', WHERE WHAT IT READS IS OF BULK AT MOST 1048576: true; the input reads as it did. -/
def smoothRestsUptoRow : OpenClaim := { program := "ytgfhpdgohjnooaa", sum := "c67c9c9fdd349b2d23107d018454e36f09652ee53efadaf2a52ed3afde609f3a", func := "servitor/servitorlaw10.SmoothRests", spec := "smoothRests", apart := false, narrowed := true }
def SmoothRestsUptoSaid : Prop := smoothRestsUptoRow.holds Try.pinned (OpenSpec.upto smoothRestsSpec)

/-- 'servitorlaw10.SmoothShifts', WHERE WHAT IT READS IS OF BULK AT MOST 1048576: true; the input reads as it did. -/
def smoothShiftsUptoRow : OpenClaim := { program := "ytgfhpdgohjnooaa", sum := "c67c9c9fdd349b2d23107d018454e36f09652ee53efadaf2a52ed3afde609f3a", func := "servitor/servitorlaw10.SmoothShifts", spec := "smoothShifts", apart := false, narrowed := true }
def SmoothShiftsUptoSaid : Prop := smoothShiftsUptoRow.holds Try.pinned (OpenSpec.upto smoothShiftsSpec)

/-- 'servitorlaw10.SmoothOne', WHERE WHAT IT READS IS OF BULK AT MOST 1048576: true; the input reads as it did. -/
def smoothOneUptoRow : OpenClaim := { program := "ytgfhpdgohjnooaa", sum := "c67c9c9fdd349b2d23107d018454e36f09652ee53efadaf2a52ed3afde609f3a", func := "servitor/servitorlaw10.SmoothOne", spec := "smoothOne", apart := false, narrowed := true }
def SmoothOneUptoSaid : Prop := smoothOneUptoRow.holds Try.pinned (OpenSpec.upto smoothOneSpec)

end Rows
end Go.Proofs.Ytgfhpdgohjnooaa
