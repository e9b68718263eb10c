/-
  No cell of these rows narrows 'for every input' (looked for: loops, veiled, ifaces, maps, wideKeys, modest, calm, conditions, laid).
  DERIVED. THE GIVEN ROWS OF THIS SEAT. 3 by the template 'for every input the law returns true; each argument reads behind the call as it read before'; 0 by the template 'total and deterministic' (their statements: YtcljilfbmodaiaaTotals.lean).
  GIVEN WITH THE SEED: the statements are not yours to turn. If you find one false, say at which input.
  Laid BY PROGRAM, IN A SANDBOX (cutbox-rows.mjs): the forced cells as the released guide's own fill.sh prints them over the translation 8d4ff5429f0b6929… (all of the seat's roots in one cut). By AI agents, Wed Nov 11 2026. No macro, syntax, notation, axiom, sorry.
-/
import Derived.Test.YtcljilfbmodaiaaChecked
import GoSem.Claim
import GoSem.ClaimJoined
import GoSem.ClaimMapViews
import Derived.JoinedTies
import Derived.KernelRfl
namespace Go.Proofs.Ytcljilfbmodaiaa
/- THE CELL 'sum', in the pinned program and in every row, IS THE sha256 OF THE DUMP (.gsa) THAT YtcljilfbmodaiaaProg.lean LOADS. Nothing in Lean hashes anything: it is a label: what it is worth is what the hold of that sum in a sandbox is worth. -/
noncomputable def Try.pinned : Pinned := { name := "ytcljilfbmodaiaa", sum := "8d4ff5429f0b69295e96d5585208a1c67cd02eb08662d5f2f22f14634d36947c", checked := Try.checked }
namespace Rows
def none {H : Type} : Left H := { results := [], args := [] }

/-- 'servitorlaw11.StateEdges': WHATEVER THE INPUT: true; the input reads as it did. -/
def stateEdgesSpec : ChangeSpec := { name := "stateEdges", fn := fun _ => fun
  | [d1, d2] => { results := [.lit (.bool true)], args := [d1, d2] }
  | _ => none }
def stateEdgesRow : OpenClaim := { program := "ytcljilfbmodaiaa", sum := "8d4ff5429f0b69295e96d5585208a1c67cd02eb08662d5f2f22f14634d36947c", func := "servitor/servitorlaw11.StateEdges", spec := "stateEdges", apart := false }
def StateEdgesSaid : Prop := stateEdgesRow.holds Try.pinned (OpenSpec.ofChange stateEdgesSpec)

/-- ITS FALSE NEIGHBOUR: 'it returns false'. Refute it at one input. -/
def stateEdgesWrong : ChangeSpec := { name := "stateEdges", fn := fun _ => fun
  | [d1, d2] => { results := [.lit (.bool false)], args := [d1, d2] }
  | _ => none }
def StateEdgesWrongFalsely : Prop := stateEdgesRow.holds Try.pinned (OpenSpec.ofChange stateEdgesWrong)

/-- 'servitorlaw11.StateShut': WHATEVER THE INPUT: true; the input reads as it did. -/
def stateShutSpec : ChangeSpec := { name := "stateShut", fn := fun _ => fun
  | [d1, d2] => { results := [.lit (.bool true)], args := [d1, d2] }
  | _ => none }
def stateShutRow : OpenClaim := { program := "ytcljilfbmodaiaa", sum := "8d4ff5429f0b69295e96d5585208a1c67cd02eb08662d5f2f22f14634d36947c", func := "servitor/servitorlaw11.StateShut", spec := "stateShut", apart := false }
def StateShutSaid : Prop := stateShutRow.holds Try.pinned (OpenSpec.ofChange stateShutSpec)

/-- ITS FALSE NEIGHBOUR: 'it returns false'. Refute it at one input. -/
def stateShutWrong : ChangeSpec := { name := "stateShut", fn := fun _ => fun
  | [d1, d2] => { results := [.lit (.bool false)], args := [d1, d2] }
  | _ => none }
def StateShutWrongFalsely : Prop := stateShutRow.holds Try.pinned (OpenSpec.ofChange stateShutWrong)

/-- 'servitorlaw11.StateLives': WHATEVER THE INPUT: true; the input reads as it did. -/
def stateLivesSpec : ChangeSpec := { name := "stateLives", fn := fun _ => fun
  | [d] => { results := [.lit (.bool true)], args := [d] }
  | _ => none }
def stateLivesRow : OpenClaim := { program := "ytcljilfbmodaiaa", sum := "8d4ff5429f0b69295e96d5585208a1c67cd02eb08662d5f2f22f14634d36947c", func := "servitor/servitorlaw11.StateLives", spec := "stateLives", apart := false }
def StateLivesSaid : Prop := stateLivesRow.holds Try.pinned (OpenSpec.ofChange stateLivesSpec)

/-- ITS FALSE NEIGHBOUR: 'it returns false'. Refute it at one input. -/
def stateLivesWrong : ChangeSpec := { name := "stateLives", fn := fun _ => fun
  | [d] => { results := [.lit (.bool false)], args := [d] }
  | _ => none }
def StateLivesWrongFalsely : Prop := stateLivesRow.holds Try.pinned (OpenSpec.ofChange stateLivesWrong)

/- THE SECOND FORM. 'bulk': how many values and letters a reading holds, each counted each time it is reached (what is shared counts as often as it is met; a slice's spare places count too). A statement '..UptoSaid' is the law's where the arguments, and the package variables that the reading takes, are together of bulk at most 1048576: NARROWER than '..Said'. Prove '..Said' where nothing that the law and all that it calls make is longer than what came in: it says more and counts as full. Else prove '..UptoSaid'. A law counts once. -/
mutual
def uptoBulk {H : Type} : DataW H → Nat
  | .lit (.string bytes) => bytes.length + 1
  | .lit _ => 1
  | .nil => 1
  | .ptr d => uptoBulk d + 1
  | .slice elems spare => uptoBulkAll elems + uptoBulkAll spare + 1
  | .agg parts => uptoBulkAll parts + 1
  | .iface _ d => uptoBulk d + 1
  | .map entries => uptoBulkEntries entries + 1
  | .held _ => 1
def uptoBulkAll {H : Type} : List (DataW H) → Nat
  | [] => 0
  | d :: r => uptoBulk d + uptoBulkAll r
def uptoBulkEntries {H : Type} : List (Lit × DataW H) → Nat
  | [] => 0
  | x :: r => uptoBulkEntry x + uptoBulkEntries r
def uptoBulkEntry {H : Type} : Lit × DataW H → Nat
  | (.string bytes, d) => bytes.length + uptoBulk d + 1
  | (_, d) => uptoBulk d + 1
 end
def uptoSmall : (H : Type) → List (DataW H) → Bool := fun _ ds => decide (uptoBulkAll ds ≤ 1048576)
def OpenSpec.upto (s : _root_.Go.ChangeSpec) : _root_.Go.OpenSpec := { _root_.Go.OpenSpec.ofChange s with cond := some uptoSmall }

/-- 'servitorlaw11.StateEdges', WHERE WHAT IT READS IS OF BULK AT MOST 1048576: true; the input reads as it did. -/
def stateEdgesUptoRow : OpenClaim := { program := "ytcljilfbmodaiaa", sum := "8d4ff5429f0b69295e96d5585208a1c67cd02eb08662d5f2f22f14634d36947c", func := "servitor/servitorlaw11.StateEdges", spec := "stateEdges", apart := false, narrowed := true }
def StateEdgesUptoSaid : Prop := stateEdgesUptoRow.holds Try.pinned (OpenSpec.upto stateEdgesSpec)

/-- 'servitorlaw11.StateShut', WHERE WHAT IT READS IS OF BULK AT MOST 1048576: true; the input reads as it did. -/
def stateShutUptoRow : OpenClaim := { program := "ytcljilfbmodaiaa", sum := "8d4ff5429f0b69295e96d5585208a1c67cd02eb08662d5f2f22f14634d36947c", func := "servitor/servitorlaw11.StateShut", spec := "stateShut", apart := false, narrowed := true }
def StateShutUptoSaid : Prop := stateShutUptoRow.holds Try.pinned (OpenSpec.upto stateShutSpec)

/-- 'servitorlaw11.StateLives', WHERE WHAT IT READS IS OF BULK AT MOST 1048576: true; the input reads as it did. -/
def stateLivesUptoRow : OpenClaim := { program := "ytcljilfbmodaiaa", sum := "8d4ff5429f0b69295e96d5585208a1c67cd02eb08662d5f2f22f14634d36947c", func := "servitor/servitorlaw11.StateLives", spec := "stateLives", apart := false, narrowed := true }
def StateLivesUptoSaid : Prop := stateLivesUptoRow.holds Try.pinned (OpenSpec.upto stateLivesSpec)

end Rows
end Go.Proofs.Ytcljilfbmodaiaa
