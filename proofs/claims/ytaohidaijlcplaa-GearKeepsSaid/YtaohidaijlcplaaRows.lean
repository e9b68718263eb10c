/-
  No cell of these rows narrows 'for every input' (looked for: loops, veiled, ifaces, maps, wideKeys, modest, calm, conditions, laid).
  DERIVED. THE GIVEN ROWS OF THIS SEAT. 3 by the template 'for every input the law returns true; each argument reads behind the call as it read before'; 0 by the template 'total and deterministic' (their statements: YtaohidaijlcplaaTotals.lean).
  GIVEN WITH THE SEED: the statements are not yours to turn. If you find one false, say at which input.
  Laid BY PROGRAM, IN A SANDBOX (cutbox-rows.mjs): the forced cells as the released guide's own fill.sh prints them over the translation 555d16161109eb85… (all of the seat's roots in one cut). By AI agents, Wed Nov 11 2026. No macro, syntax, notation, axiom, sorry.
-/
import Derived.Test.YtaohidaijlcplaaChecked
import GoSem.Claim
import GoSem.ClaimJoined
import GoSem.ClaimMapViews
import Derived.JoinedTies
import Derived.KernelRfl
namespace Go.Proofs.Ytaohidaijlcplaa
/- THE CELL 'sum', in the pinned program and in every row, IS THE sha256 OF THE DUMP (.gsa) THAT YtaohidaijlcplaaProg.lean LOADS. Nothing in Lean hashes anything: it is a label: what it is worth is what the hold of that sum in a sandbox is worth. -/
noncomputable def Try.pinned : Pinned := { name := "ytaohidaijlcplaa", sum := "555d16161109eb85b4b8f8a6c34521a5b3c9785e49b6f4323ab39f721596cfdc", checked := Try.checked }
namespace Rows
def none {H : Type} : Left H := { results := [], args := [] }

/-- 'servitorlaw14.GearRight': WHATEVER THE INPUT: true; the input reads as it did. -/
def gearRightSpec : ChangeSpec := { name := "gearRight", fn := fun _ => fun
  | [d1, d2, d3, d4, d5, d6, d7] => { results := [.lit (.bool true)], args := [d1, d2, d3, d4, d5, d6, d7] }
  | _ => none }
def gearRightRow : OpenClaim := { program := "ytaohidaijlcplaa", sum := "555d16161109eb85b4b8f8a6c34521a5b3c9785e49b6f4323ab39f721596cfdc", func := "servitor/servitorlaw14.GearRight", spec := "gearRight", unfollowed := true, recurses := true, named := ["math/bits.divideError", "math/bits.overflowError"], apart := false }
def GearRightSaid : Prop := gearRightRow.holds Try.pinned (OpenSpec.ofChange gearRightSpec)

/-- ITS FALSE NEIGHBOUR: 'it returns false'. Refute it at one input. -/
def gearRightWrong : ChangeSpec := { name := "gearRight", fn := fun _ => fun
  | [d1, d2, d3, d4, d5, d6, d7] => { results := [.lit (.bool false)], args := [d1, d2, d3, d4, d5, d6, d7] }
  | _ => none }
def GearRightWrongFalsely : Prop := gearRightRow.holds Try.pinned (OpenSpec.ofChange gearRightWrong)

/-- 'servitorlaw14.GearKeeps': WHATEVER THE INPUT: true; the input reads as it did. -/
def gearKeepsSpec : ChangeSpec := { name := "gearKeeps", fn := fun _ => fun
  | [d1, d2, d3, d4, d5] => { results := [.lit (.bool true)], args := [d1, d2, d3, d4, d5] }
  | _ => none }
def gearKeepsRow : OpenClaim := { program := "ytaohidaijlcplaa", sum := "555d16161109eb85b4b8f8a6c34521a5b3c9785e49b6f4323ab39f721596cfdc", func := "servitor/servitorlaw14.GearKeeps", spec := "gearKeeps", unfollowed := true, recurses := true, named := ["math/bits.divideError", "math/bits.overflowError"], apart := false }
def GearKeepsSaid : Prop := gearKeepsRow.holds Try.pinned (OpenSpec.ofChange gearKeepsSpec)

/-- ITS FALSE NEIGHBOUR: 'it returns false'. Refute it at one input. -/
def gearKeepsWrong : ChangeSpec := { name := "gearKeeps", fn := fun _ => fun
  | [d1, d2, d3, d4, d5] => { results := [.lit (.bool false)], args := [d1, d2, d3, d4, d5] }
  | _ => none }
def GearKeepsWrongFalsely : Prop := gearKeepsRow.holds Try.pinned (OpenSpec.ofChange gearKeepsWrong)

/-- 'servitorlaw14.GearOne': WHATEVER THE INPUT: true; the input reads as it did. -/
def gearOneSpec : ChangeSpec := { name := "gearOne", fn := fun _ => fun
  | [d1, d2, d3, d4] => { results := [.lit (.bool true)], args := [d1, d2, d3, d4] }
  | _ => none }
def gearOneRow : OpenClaim := { program := "ytaohidaijlcplaa", sum := "555d16161109eb85b4b8f8a6c34521a5b3c9785e49b6f4323ab39f721596cfdc", func := "servitor/servitorlaw14.GearOne", spec := "gearOne", named := ["math/bits.divideError", "math/bits.overflowError"], apart := false }
def GearOneSaid : Prop := gearOneRow.holds Try.pinned (OpenSpec.ofChange gearOneSpec)

/-- ITS FALSE NEIGHBOUR: 'it returns false'. Refute it at one input. -/
def gearOneWrong : ChangeSpec := { name := "gearOne", fn := fun _ => fun
  | [d1, d2, d3, d4] => { results := [.lit (.bool false)], args := [d1, d2, d3, d4] }
  | _ => none }
def GearOneWrongFalsely : Prop := gearOneRow.holds Try.pinned (OpenSpec.ofChange gearOneWrong)

/- THE SECOND FORM. 'bulk': how many values and letters a reading holds, each counted each time it is reached (what is shared counts as often as it is met; a slice's spare places count too). A statement '..UptoSaid' is the law's where the arguments, and the package variables that the reading takes, are together of bulk at most 1048576: NARROWER than '..Said'. Prove '..Said' where nothing that the law and all that it calls make is longer than what came in: it says more and counts as full. Else prove '..UptoSaid'. A law counts once. -/
mutual
def uptoBulk {H : Type} : DataW H → Nat
  | .lit (.string bytes) => bytes.length + 1
  | .lit _ => 1
  | .nil => 1
  | .ptr d => uptoBulk d + 1
  | .slice elems spare => uptoBulkAll elems + uptoBulkAll spare + 1
  | .agg parts => uptoBulkAll parts + 1
  | .iface _ d => uptoBulk d + 1
  | .map entries => uptoBulkEntries entries + 1
  | .held _ => 1
def uptoBulkAll {H : Type} : List (DataW H) → Nat
  | [] => 0
  | d :: r => uptoBulk d + uptoBulkAll r
def uptoBulkEntries {H : Type} : List (Lit × DataW H) → Nat
  | [] => 0
  | x :: r => uptoBulkEntry x + uptoBulkEntries r
def uptoBulkEntry {H : Type} : Lit × DataW H → Nat
  | (.string bytes, d) => bytes.length + uptoBulk d + 1
  | (_, d) => uptoBulk d + 1
 end
def uptoSmall : (H : Type) → List (DataW H) → Bool := fun _ ds => decide (uptoBulkAll ds ≤ 1048576)
def OpenSpec.upto (s : _root_.Go.ChangeSpec) : _root_.Go.OpenSpec := { _root_.Go.OpenSpec.ofChange s with cond := some uptoSmall }

/-- 'servitorlaw14.GearRight', WHERE WHAT IT READS IS OF BULK AT MOST 1048576: true; the input reads as it did. -/
def gearRightUptoRow : OpenClaim := { program := "ytaohidaijlcplaa", sum := "555d16161109eb85b4b8f8a6c34521a5b3c9785e49b6f4323ab39f721596cfdc", func := "servitor/servitorlaw14.GearRight", spec := "gearRight", unfollowed := true, recurses := true, named := ["math/bits.divideError", "math/bits.overflowError"], apart := false, narrowed := true }
def GearRightUptoSaid : Prop := gearRightUptoRow.holds Try.pinned (OpenSpec.upto gearRightSpec)

/-- 'servitorlaw14.GearKeeps', WHERE WHAT IT READS IS OF BULK AT MOST 1048576: true; the input reads as it did. -/
def gearKeepsUptoRow : OpenClaim := { program := "ytaohidaijlcplaa", sum := "555d16161109eb85b4b8f8a6c34521a5b3c9785e49b6f4323ab39f721596cfdc", func := "servitor/servitorlaw14.GearKeeps", spec := "gearKeeps", unfollowed := true, recurses := true, named := ["math/bits.divideError", "math/bits.overflowError"], apart := false, narrowed := true }
def GearKeepsUptoSaid : Prop := gearKeepsUptoRow.holds Try.pinned (OpenSpec.upto gearKeepsSpec)

/-- 'servitorlaw14.GearOne', WHERE WHAT IT READS IS OF BULK AT MOST 1048576: true; the input reads as it did. -/
def gearOneUptoRow : OpenClaim := { program := "ytaohidaijlcplaa", sum := "555d16161109eb85b4b8f8a6c34521a5b3c9785e49b6f4323ab39f721596cfdc", func := "servitor/servitorlaw14.GearOne", spec := "gearOne", named := ["math/bits.divideError", "math/bits.overflowError"], apart := false, narrowed := true }
def GearOneUptoSaid : Prop := gearOneUptoRow.holds Try.pinned (OpenSpec.upto gearOneSpec)

end Rows
end Go.Proofs.Ytaohidaijlcplaa
