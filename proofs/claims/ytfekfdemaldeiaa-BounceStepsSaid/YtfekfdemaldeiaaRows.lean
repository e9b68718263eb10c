/-
  No cell of these rows narrows 'for every input' (looked for: loops, veiled, ifaces, maps, wideKeys, modest, calm, conditions, laid).
  DERIVED. THE GIVEN ROWS OF THIS SEAT. 3 by the template 'for every input the law returns true; each argument reads behind the call as it read before'; 0 by the template 'total and deterministic' (their statements: YtfekfdemaldeiaaTotals.lean).
  GIVEN WITH THE SEED: the statements are not yours to turn. If you find one false, say at which input.
  Laid BY PROGRAM, IN A SANDBOX (cutbox-rows.mjs): the forced cells as the released guide's own fill.sh prints them over the translation eb082f50698c9411… (all of the seat's roots in one cut). By AI agents, Wed Nov 11 2026. No macro, syntax, notation, axiom, sorry.
-/
import Derived.Test.YtfekfdemaldeiaaChecked
import GoSem.Claim
import GoSem.ClaimJoined
import GoSem.ClaimMapViews
import Derived.JoinedTies
import Derived.KernelRfl
namespace Go.Proofs.Ytfekfdemaldeiaa
/- THE CELL 'sum', in the pinned program and in every row, IS THE sha256 OF THE DUMP (.gsa) THAT YtfekfdemaldeiaaProg.lean LOADS. Nothing in Lean hashes anything: it is a label: what it is worth is what the hold of that sum in a sandbox is worth. -/
noncomputable def Try.pinned : Pinned := { name := "ytfekfdemaldeiaa", sum := "eb082f50698c9411d7016a10f3a3e52dd4e0f631fee4f0eef61d756861630d2c", checked := Try.checked }
namespace Rows
def none {H : Type} : Left H := { results := [], args := [] }

/-- 'servitorlaw05.BounceSteps': WHATEVER THE INPUT: true; the input reads as it did. -/
def bounceStepsSpec : ChangeSpec := { name := "bounceSteps", fn := fun _ => fun
  | [d1, d2, d3, d4] => { results := [.lit (.bool true)], args := [d1, d2, d3, d4] }
  | _ => none }
def bounceStepsRow : OpenClaim := { program := "ytfekfdemaldeiaa", sum := "eb082f50698c9411d7016a10f3a3e52dd4e0f631fee4f0eef61d756861630d2c", func := "servitor/servitorlaw05.BounceSteps", spec := "bounceSteps", apart := false }
def BounceStepsSaid : Prop := bounceStepsRow.holds Try.pinned (OpenSpec.ofChange bounceStepsSpec)

/-- ITS FALSE NEIGHBOUR: 'it returns false'. Refute it at one input. -/
def bounceStepsWrong : ChangeSpec := { name := "bounceSteps", fn := fun _ => fun
  | [d1, d2, d3, d4] => { results := [.lit (.bool false)], args := [d1, d2, d3, d4] }
  | _ => none }
def BounceStepsWrongFalsely : Prop := bounceStepsRow.holds Try.pinned (OpenSpec.ofChange bounceStepsWrong)

/-- 'servitorlaw05.BounceSettles': WHATEVER THE INPUT: true; the input reads as it did. -/
def bounceSettlesSpec : ChangeSpec := { name := "bounceSettles", fn := fun _ => fun
  | [d1, d2, d3] => { results := [.lit (.bool true)], args := [d1, d2, d3] }
  | _ => none }
def bounceSettlesRow : OpenClaim := { program := "ytfekfdemaldeiaa", sum := "eb082f50698c9411d7016a10f3a3e52dd4e0f631fee4f0eef61d756861630d2c", func := "servitor/servitorlaw05.BounceSettles", spec := "bounceSettles", apart := false }
def BounceSettlesSaid : Prop := bounceSettlesRow.holds Try.pinned (OpenSpec.ofChange bounceSettlesSpec)

/-- ITS FALSE NEIGHBOUR: 'it returns false'. Refute it at one input. -/
def bounceSettlesWrong : ChangeSpec := { name := "bounceSettles", fn := fun _ => fun
  | [d1, d2, d3] => { results := [.lit (.bool false)], args := [d1, d2, d3] }
  | _ => none }
def BounceSettlesWrongFalsely : Prop := bounceSettlesRow.holds Try.pinned (OpenSpec.ofChange bounceSettlesWrong)

/-- 'servitorlaw05.BounceHolds': WHATEVER THE INPUT: true; the input reads as it did. -/
def bounceHoldsSpec : ChangeSpec := { name := "bounceHolds", fn := fun _ => fun
  | [d1, d2, d3] => { results := [.lit (.bool true)], args := [d1, d2, d3] }
  | _ => none }
def bounceHoldsRow : OpenClaim := { program := "ytfekfdemaldeiaa", sum := "eb082f50698c9411d7016a10f3a3e52dd4e0f631fee4f0eef61d756861630d2c", func := "servitor/servitorlaw05.BounceHolds", spec := "bounceHolds", apart := false }
def BounceHoldsSaid : Prop := bounceHoldsRow.holds Try.pinned (OpenSpec.ofChange bounceHoldsSpec)

/-- ITS FALSE NEIGHBOUR: 'it returns false'. Refute it at one input. -/
def bounceHoldsWrong : ChangeSpec := { name := "bounceHolds", fn := fun _ => fun
  | [d1, d2, d3] => { results := [.lit (.bool false)], args := [d1, d2, d3] }
  | _ => none }
def BounceHoldsWrongFalsely : Prop := bounceHoldsRow.holds Try.pinned (OpenSpec.ofChange bounceHoldsWrong)

/- THE SECOND FORM. 'bulk': how many values and letters a reading holds, each counted each time it is reached (what is shared counts as often as it is met; a slice's spare places count too). A statement '..UptoSaid' is the law's where the arguments, and the package variables that the reading takes, are together of bulk at most 1048576: NARROWER than '..Said'. Prove '..Said' where nothing that the law and all that it calls make is longer than what came in: it says more and counts as full. Else prove '..UptoSaid'. A law counts once. -/
mutual
def uptoBulk {H : Type} : DataW H → Nat
  | .lit (.string bytes) => bytes.length + 1
  | .lit _ => 1
  | .nil => 1
  | .ptr d => uptoBulk d + 1
  | .slice elems spare => uptoBulkAll elems + uptoBulkAll spare + 1
  | .agg parts => uptoBulkAll parts + 1
  | .iface _ d => uptoBulk d + 1
  | .map entries => uptoBulkEntries entries + 1
  | .held _ => 1
def uptoBulkAll {H : Type} : List (DataW H) → Nat
  | [] => 0
  | d :: r => uptoBulk d + uptoBulkAll r
def uptoBulkEntries {H : Type} : List (Lit × DataW H) → Nat
  | [] => 0
  | x :: r => uptoBulkEntry x + uptoBulkEntries r
def uptoBulkEntry {H : Type} : Lit × DataW H → Nat
  | (.string bytes, d) => bytes.length + uptoBulk d + 1
  | (_, d) => uptoBulk d + 1
 end
def uptoSmall : (H : Type) → List (DataW H) → Bool := fun _ ds => decide (uptoBulkAll ds ≤ 1048576)
def OpenSpec.upto (s : _root_.Go.ChangeSpec) : _root_.Go.OpenSpec := { _root_.Go.OpenSpec.ofChange s with cond := some uptoSmall }

/-- 'servitorlaw05.BounceSteps', WHERE WHAT IT READS IS OF BULK AT MOST 1048576: true; the input reads as it did. -/
def bounceStepsUptoRow : OpenClaim := { program := "ytfekfdemaldeiaa", sum := "eb082f50698c9411d7016a10f3a3e52dd4e0f631fee4f0eef61d756861630d2c", func := "servitor/servitorlaw05.BounceSteps", spec := "bounceSteps", apart := false, narrowed := true }
def BounceStepsUptoSaid : Prop := bounceStepsUptoRow.holds Try.pinned (OpenSpec.upto bounceStepsSpec)

/-- 'servitorlaw05.BounceSettles', WHERE WHAT IT READS IS OF BULK AT MOST 1048576: true; the input reads as it did. -/
def bounceSettlesUptoRow : OpenClaim := { program := "ytfekfdemaldeiaa", sum := "eb082f50698c9411d7016a10f3a3e52dd4e0f631fee4f0eef61d756861630d2c", func := "servitor/servitorlaw05.BounceSettles", spec := "bounceSettles", apart := false, narrowed := true }
def BounceSettlesUptoSaid : Prop := bounceSettlesUptoRow.holds Try.pinned (OpenSpec.upto bounceSettlesSpec)

/-- 'servitorlaw05.BounceHolds', WHERE WHAT IT READS IS OF BULK AT MOST 1048576: true; the input reads as it did. -/
def bounceHoldsUptoRow : OpenClaim := { program := "ytfekfdemaldeiaa", sum := "eb082f50698c9411d7016a10f3a3e52dd4e0f631fee4f0eef61d756861630d2c", func := "servitor/servitorlaw05.BounceHolds", spec := "bounceHolds", apart := false, narrowed := true }
def BounceHoldsUptoSaid : Prop := bounceHoldsUptoRow.holds Try.pinned (OpenSpec.upto bounceHoldsSpec)

end Rows
end Go.Proofs.Ytfekfdemaldeiaa
