/-
  No cell of these rows narrows 'for every input' (looked for: loops, veiled, ifaces, maps, wideKeys, modest, calm, conditions, laid).
  DERIVED. THE GIVEN ROWS OF THIS SEAT. 6 by the template 'for every input the law returns true; each argument reads behind the call as it read before'; 0 by the template 'total and deterministic' (their statements: YtmfigpjofakdnaaTotals.lean).
  GIVEN WITH THE SEED: the statements are not yours to turn. If you find one false, say at which input.
  Laid BY PROGRAM, IN A SANDBOX (cutbox-rows.mjs): the forced cells as the released guide's own fill.sh prints them over the translation 27bb96590fafc5ea… (all of the seat's roots in one cut). By AI agents, Wed Nov 11 2026. No macro, syntax, notation, axiom, sorry.
-/
import Derived.Test.YtmfigpjofakdnaaChecked
import GoSem.Claim
import GoSem.ClaimJoined
import GoSem.ClaimMapViews
import Derived.JoinedTies
import Derived.KernelRfl
namespace Go.Proofs.Ytmfigpjofakdnaa
/- THE CELL 'sum', in the pinned program and in every row, IS THE sha256 OF THE DUMP (.gsa) THAT YtmfigpjofakdnaaProg.lean LOADS. Nothing in Lean hashes anything: it is a label: what it is worth is what the hold of that sum in a sandbox is worth. -/
noncomputable def Try.pinned : Pinned := { name := "ytmfigpjofakdnaa", sum := "27bb96590fafc5ea2248750b8ec129eebfc1098f929b8af6a2eb9321226d7da5", checked := Try.checked }
namespace Rows
def none {H : Type} : Left H := { results := [], args := [] }

/-- 'servitorlaw09.GenRight': WHATEVER THE INPUT: true; the input reads as it did. -/
def genRightSpec : ChangeSpec := { name := "genRight", fn := fun _ => fun
  | [d1, d2, d3, d4, d5, d6, d7] => { results := [.lit (.bool true)], args := [d1, d2, d3, d4, d5, d6, d7] }
  | _ => none }
def genRightRow : OpenClaim := { program := "ytmfigpjofakdnaa", sum := "27bb96590fafc5ea2248750b8ec129eebfc1098f929b8af6a2eb9321226d7da5", func := "servitor/servitorlaw09.GenRight", spec := "genRight", unfollowed := true, recurses := true, apart := false }
def GenRightSaid : Prop := genRightRow.holds Try.pinned (OpenSpec.ofChange genRightSpec)

/-- ITS FALSE NEIGHBOUR: 'it returns false'. Refute it at one input. -/
def genRightWrong : ChangeSpec := { name := "genRight", fn := fun _ => fun
  | [d1, d2, d3, d4, d5, d6, d7] => { results := [.lit (.bool false)], args := [d1, d2, d3, d4, d5, d6, d7] }
  | _ => none }
def GenRightWrongFalsely : Prop := genRightRow.holds Try.pinned (OpenSpec.ofChange genRightWrong)

/-- 'servitorlaw09.GenSafe': WHATEVER THE INPUT: true; the input reads as it did. -/
def genSafeSpec : ChangeSpec := { name := "genSafe", fn := fun _ => fun
  | [d1, d2, d3] => { results := [.lit (.bool true)], args := [d1, d2, d3] }
  | _ => none }
def genSafeRow : OpenClaim := { program := "ytmfigpjofakdnaa", sum := "27bb96590fafc5ea2248750b8ec129eebfc1098f929b8af6a2eb9321226d7da5", func := "servitor/servitorlaw09.GenSafe", spec := "genSafe", unfollowed := true, recurses := true, apart := false }
def GenSafeSaid : Prop := genSafeRow.holds Try.pinned (OpenSpec.ofChange genSafeSpec)

/-- ITS FALSE NEIGHBOUR: 'it returns false'. Refute it at one input. -/
def genSafeWrong : ChangeSpec := { name := "genSafe", fn := fun _ => fun
  | [d1, d2, d3] => { results := [.lit (.bool false)], args := [d1, d2, d3] }
  | _ => none }
def GenSafeWrongFalsely : Prop := genSafeRow.holds Try.pinned (OpenSpec.ofChange genSafeWrong)

/-- 'servitorlaw09.GenStops': WHATEVER THE INPUT: true; the input reads as it did. -/
def genStopsSpec : ChangeSpec := { name := "genStops", fn := fun _ => fun
  | [d1, d2] => { results := [.lit (.bool true)], args := [d1, d2] }
  | _ => none }
def genStopsRow : OpenClaim := { program := "ytmfigpjofakdnaa", sum := "27bb96590fafc5ea2248750b8ec129eebfc1098f929b8af6a2eb9321226d7da5", func := "servitor/servitorlaw09.GenStops", spec := "genStops", unfollowed := true, recurses := true, apart := false }
def GenStopsSaid : Prop := genStopsRow.holds Try.pinned (OpenSpec.ofChange genStopsSpec)

/-- ITS FALSE NEIGHBOUR: 'it returns false'. Refute it at one input. -/
def genStopsWrong : ChangeSpec := { name := "genStops", fn := fun _ => fun
  | [d1, d2] => { results := [.lit (.bool false)], args := [d1, d2] }
  | _ => none }
def GenStopsWrongFalsely : Prop := genStopsRow.holds Try.pinned (OpenSpec.ofChange genStopsWrong)

/-- 'servitorlaw09.GenLands': WHATEVER THE INPUT: true; the input reads as it did. -/
def genLandsSpec : ChangeSpec := { name := "genLands", fn := fun _ => fun
  | [d1, d2, d3, d4] => { results := [.lit (.bool true)], args := [d1, d2, d3, d4] }
  | _ => none }
def genLandsRow : OpenClaim := { program := "ytmfigpjofakdnaa", sum := "27bb96590fafc5ea2248750b8ec129eebfc1098f929b8af6a2eb9321226d7da5", func := "servitor/servitorlaw09.GenLands", spec := "genLands", unfollowed := true, recurses := true, apart := false }
def GenLandsSaid : Prop := genLandsRow.holds Try.pinned (OpenSpec.ofChange genLandsSpec)

/-- ITS FALSE NEIGHBOUR: 'it returns false'. Refute it at one input. -/
def genLandsWrong : ChangeSpec := { name := "genLands", fn := fun _ => fun
  | [d1, d2, d3, d4] => { results := [.lit (.bool false)], args := [d1, d2, d3, d4] }
  | _ => none }
def GenLandsWrongFalsely : Prop := genLandsRow.holds Try.pinned (OpenSpec.ofChange genLandsWrong)

/-- 'servitorlaw09.GenPasses': WHATEVER THE INPUT: true; the input reads as it did. -/
def genPassesSpec : ChangeSpec := { name := "genPasses", fn := fun _ => fun
  | [d1, d2, d3, d4, d5, d6] => { results := [.lit (.bool true)], args := [d1, d2, d3, d4, d5, d6] }
  | _ => none }
def genPassesRow : OpenClaim := { program := "ytmfigpjofakdnaa", sum := "27bb96590fafc5ea2248750b8ec129eebfc1098f929b8af6a2eb9321226d7da5", func := "servitor/servitorlaw09.GenPasses", spec := "genPasses", unfollowed := true, recurses := true, apart := false }
def GenPassesSaid : Prop := genPassesRow.holds Try.pinned (OpenSpec.ofChange genPassesSpec)

/-- ITS FALSE NEIGHBOUR: 'it returns false'. Refute it at one input. -/
def genPassesWrong : ChangeSpec := { name := "genPasses", fn := fun _ => fun
  | [d1, d2, d3, d4, d5, d6] => { results := [.lit (.bool false)], args := [d1, d2, d3, d4, d5, d6] }
  | _ => none }
def GenPassesWrongFalsely : Prop := genPassesRow.holds Try.pinned (OpenSpec.ofChange genPassesWrong)

/-- 'servitorlaw09.GenBetween': WHATEVER THE INPUT: true; the input reads as it did. -/
def genBetweenSpec : ChangeSpec := { name := "genBetween", fn := fun _ => fun
  | [d1, d2, d3, d4] => { results := [.lit (.bool true)], args := [d1, d2, d3, d4] }
  | _ => none }
def genBetweenRow : OpenClaim := { program := "ytmfigpjofakdnaa", sum := "27bb96590fafc5ea2248750b8ec129eebfc1098f929b8af6a2eb9321226d7da5", func := "servitor/servitorlaw09.GenBetween", spec := "genBetween", unfollowed := true, recurses := true, apart := false }
def GenBetweenSaid : Prop := genBetweenRow.holds Try.pinned (OpenSpec.ofChange genBetweenSpec)

/-- ITS FALSE NEIGHBOUR: 'it returns false'. Refute it at one input. -/
def genBetweenWrong : ChangeSpec := { name := "genBetween", fn := fun _ => fun
  | [d1, d2, d3, d4] => { results := [.lit (.bool false)], args := [d1, d2, d3, d4] }
  | _ => none }
def GenBetweenWrongFalsely : Prop := genBetweenRow.holds Try.pinned (OpenSpec.ofChange genBetweenWrong)

/- THE SECOND FORM. 'bulk': how many values and letters a reading holds, each counted each time it is reached (what is shared counts as often as it is met; a slice's spare places count too). A statement '..UptoSaid' is the law's where the arguments, and the package variables that the reading takes, are together of bulk at most 1048576: NARROWER than '..Said'. Prove '..Said' where nothing that the law and all that it calls make is longer than what came in: it says more and counts as full. Else prove '..UptoSaid'. A law counts once. -/
mutual
def uptoBulk {H : Type} : DataW H → Nat
  | .lit (.string bytes) => bytes.length + 1
  | .lit _ => 1
  | .nil => 1
  | .ptr d => uptoBulk d + 1
  | .slice elems spare => uptoBulkAll elems + uptoBulkAll spare + 1
  | .agg parts => uptoBulkAll parts + 1
  | .iface _ d => uptoBulk d + 1
  | .map entries => uptoBulkEntries entries + 1
  | .held _ => 1
def uptoBulkAll {H : Type} : List (DataW H) → Nat
  | [] => 0
  | d :: r => uptoBulk d + uptoBulkAll r
def uptoBulkEntries {H : Type} : List (Lit × DataW H) → Nat
  | [] => 0
  | x :: r => uptoBulkEntry x + uptoBulkEntries r
def uptoBulkEntry {H : Type} : Lit × DataW H → Nat
  | (.string bytes, d) => bytes.length + uptoBulk d + 1
  | (_, d) => uptoBulk d + 1
 end
def uptoSmall : (H : Type) → List (DataW H) → Bool := fun _ ds => decide (uptoBulkAll ds ≤ 1048576)
def OpenSpec.upto (s : _root_.Go.ChangeSpec) : _root_.Go.OpenSpec := { _root_.Go.OpenSpec.ofChange s with cond := some uptoSmall }

/-- 'servitorlaw09.GenRight', WHERE WHAT IT READS IS OF BULK AT MOST 1048576: true; the input reads as it did. -/
def genRightUptoRow : OpenClaim := { program := "ytmfigpjofakdnaa", sum := "27bb96590fafc5ea2248750b8ec129eebfc1098f929b8af6a2eb9321226d7da5", func := "servitor/servitorlaw09.GenRight", spec := "genRight", unfollowed := true, recurses := true, apart := false, narrowed := true }
def GenRightUptoSaid : Prop := genRightUptoRow.holds Try.pinned (OpenSpec.upto genRightSpec)

/-- 'servitorlaw09.GenSafe', WHERE WHAT IT READS IS OF BULK AT MOST 1048576: true; the input reads as it did. -/
def genSafeUptoRow : OpenClaim := { program := "ytmfigpjofakdnaa", sum := "27bb96590fafc5ea2248750b8ec129eebfc1098f929b8af6a2eb9321226d7da5", func := "servitor/servitorlaw09.GenSafe", spec := "genSafe", unfollowed := true, recurses := true, apart := false, narrowed := true }
def GenSafeUptoSaid : Prop := genSafeUptoRow.holds Try.pinned (OpenSpec.upto genSafeSpec)

/-- 'servitorlaw09.GenStops', WHERE WHAT IT READS IS OF BULK AT MOST 1048576: true; the input reads as it did. -/
def genStopsUptoRow : OpenClaim := { program := "ytmfigpjofakdnaa", sum := "27bb96590fafc5ea2248750b8ec129eebfc1098f929b8af6a2eb9321226d7da5", func := "servitor/servitorlaw09.GenStops", spec := "genStops", unfollowed := true, recurses := true, apart := false, narrowed := true }
def GenStopsUptoSaid : Prop := genStopsUptoRow.holds Try.pinned (OpenSpec.upto genStopsSpec)

/-- 'servitorlaw09.GenLands', WHERE WHAT IT READS IS OF BULK AT MOST 1048576: true; the input reads as it did. -/
def genLandsUptoRow : OpenClaim := { program := "ytmfigpjofakdnaa", sum := "27bb96590fafc5ea2248750b8ec129eebfc1098f929b8af6a2eb9321226d7da5", func := "servitor/servitorlaw09.GenLands", spec := "genLands", unfollowed := true, recurses := true, apart := false, narrowed := true }
def GenLandsUptoSaid : Prop := genLandsUptoRow.holds Try.pinned (OpenSpec.upto genLandsSpec)

/-- 'servitorlaw09.GenPasses', WHERE WHAT IT READS IS OF BULK AT MOST 1048576: true; the input reads as it did. -/
def genPassesUptoRow : OpenClaim := { program := "ytmfigpjofakdnaa", sum := "27bb96590fafc5ea2248750b8ec129eebfc1098f929b8af6a2eb9321226d7da5", func := "servitor/servitorlaw09.GenPasses", spec := "genPasses", unfollowed := true, recurses := true, apart := false, narrowed := true }
def GenPassesUptoSaid : Prop := genPassesUptoRow.holds Try.pinned (OpenSpec.upto genPassesSpec)

/-- 'servitorlaw09.GenBetween', WHERE WHAT IT READS IS OF BULK AT MOST 1048576: true; the input reads as it did. -/
def genBetweenUptoRow : OpenClaim := { program := "ytmfigpjofakdnaa", sum := "27bb96590fafc5ea2248750b8ec129eebfc1098f929b8af6a2eb9321226d7da5", func := "servitor/servitorlaw09.GenBetween", spec := "genBetween", unfollowed := true, recurses := true, apart := false, narrowed := true }
def GenBetweenUptoSaid : Prop := genBetweenUptoRow.holds Try.pinned (OpenSpec.upto genBetweenSpec)

end Rows
end Go.Proofs.Ytmfigpjofakdnaa
