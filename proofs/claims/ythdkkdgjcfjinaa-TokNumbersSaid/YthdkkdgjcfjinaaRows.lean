/-
  No cell of these rows narrows 'for every input' (looked for: loops, veiled, ifaces, maps, wideKeys, modest, calm, conditions, laid).
  DERIVED. THE GIVEN ROWS OF THIS SEAT. 4 by the template 'for every input the law returns true; each argument reads behind the call as it read before'; 0 by the template 'total and deterministic' (their statements: YthdkkdgjcfjinaaTotals.lean).
  GIVEN WITH THE SEED: the statements are not yours to turn. If you find one false, say at which input.
  Laid BY PROGRAM, IN A SANDBOX (cutbox-rows.mjs): the forced cells as the released guide's own fill.sh prints them over the translation 16f00646a4087076… (all of the seat's roots in one cut). By AI agents, Wed Nov 11 2026. No macro, syntax, notation, axiom, sorry.
-/
import Derived.Test.YthdkkdgjcfjinaaChecked
import GoSem.Claim
import GoSem.ClaimJoined
import GoSem.ClaimMapViews
import Derived.JoinedTies
import Derived.KernelRfl
namespace Go.Proofs.Ythdkkdgjcfjinaa
/- THE CELL 'sum', in the pinned program and in every row, IS THE sha256 OF THE DUMP (.gsa) THAT YthdkkdgjcfjinaaProg.lean LOADS. Nothing in Lean hashes anything: it is a label: what it is worth is what the hold of that sum in a sandbox is worth. -/
noncomputable def Try.pinned : Pinned := { name := "ythdkkdgjcfjinaa", sum := "16f00646a4087076394714374ac38333853fa889bff740850606495df85458b5", checked := Try.checked }
namespace Rows
def none {H : Type} : Left H := { results := [], args := [] }

/-- 'servitorlaw17.TokRight': WHATEVER THE INPUT: true; the input reads as it did. -/
def tokRightSpec : ChangeSpec := { name := "tokRight", fn := fun _ => fun
  | [d] => { results := [.lit (.bool true)], args := [d] }
  | _ => none }
def tokRightRow : OpenClaim := { program := "ythdkkdgjcfjinaa", sum := "16f00646a4087076394714374ac38333853fa889bff740850606495df85458b5", func := "servitor/servitorlaw17.TokRight", spec := "tokRight", inPlace := ["internal/bytealg.IndexByteString", "internal/bytealg.IndexString"], unfollowed := true, recurses := true, named := ["internal/bytealg.MaxLen"], apart := false }
def TokRightSaid : Prop := tokRightRow.holds Try.pinned (OpenSpec.ofChange tokRightSpec)

/-- ITS FALSE NEIGHBOUR: 'it returns false'. Refute it at one input. -/
def tokRightWrong : ChangeSpec := { name := "tokRight", fn := fun _ => fun
  | [d] => { results := [.lit (.bool false)], args := [d] }
  | _ => none }
def TokRightWrongFalsely : Prop := tokRightRow.holds Try.pinned (OpenSpec.ofChange tokRightWrong)

/-- 'servitorlaw17.TokGaps': WHATEVER THE INPUT: true; the input reads as it did. -/
def tokGapsSpec : ChangeSpec := { name := "tokGaps", fn := fun _ => fun
  | [d1, d2] => { results := [.lit (.bool true)], args := [d1, d2] }
  | _ => none }
def tokGapsRow : OpenClaim := { program := "ythdkkdgjcfjinaa", sum := "16f00646a4087076394714374ac38333853fa889bff740850606495df85458b5", func := "servitor/servitorlaw17.TokGaps", spec := "tokGaps", inPlace := ["internal/bytealg.IndexByteString", "internal/bytealg.IndexString"], unfollowed := true, recurses := true, named := ["internal/bytealg.MaxLen"], apart := false }
def TokGapsSaid : Prop := tokGapsRow.holds Try.pinned (OpenSpec.ofChange tokGapsSpec)

/-- ITS FALSE NEIGHBOUR: 'it returns false'. Refute it at one input. -/
def tokGapsWrong : ChangeSpec := { name := "tokGaps", fn := fun _ => fun
  | [d1, d2] => { results := [.lit (.bool false)], args := [d1, d2] }
  | _ => none }
def TokGapsWrongFalsely : Prop := tokGapsRow.holds Try.pinned (OpenSpec.ofChange tokGapsWrong)

/-- 'servitorlaw17.TokPlaces': WHATEVER THE INPUT: true; the input reads as it did. -/
def tokPlacesSpec : ChangeSpec := { name := "tokPlaces", fn := fun _ => fun
  | [d] => { results := [.lit (.bool true)], args := [d] }
  | _ => none }
def tokPlacesRow : OpenClaim := { program := "ythdkkdgjcfjinaa", sum := "16f00646a4087076394714374ac38333853fa889bff740850606495df85458b5", func := "servitor/servitorlaw17.TokPlaces", spec := "tokPlaces", inPlace := ["internal/bytealg.IndexByteString", "internal/bytealg.IndexString"], unfollowed := true, recurses := true, named := ["internal/bytealg.MaxLen"], apart := false }
def TokPlacesSaid : Prop := tokPlacesRow.holds Try.pinned (OpenSpec.ofChange tokPlacesSpec)

/-- ITS FALSE NEIGHBOUR: 'it returns false'. Refute it at one input. -/
def tokPlacesWrong : ChangeSpec := { name := "tokPlaces", fn := fun _ => fun
  | [d] => { results := [.lit (.bool false)], args := [d] }
  | _ => none }
def TokPlacesWrongFalsely : Prop := tokPlacesRow.holds Try.pinned (OpenSpec.ofChange tokPlacesWrong)

/-- 'servitorlaw17.TokNumbers': WHATEVER THE INPUT: true; the input reads as it did. -/
def tokNumbersSpec : ChangeSpec := { name := "tokNumbers", fn := fun _ => fun
  | [d1, d2, d3] => { results := [.lit (.bool true)], args := [d1, d2, d3] }
  | _ => none }
def tokNumbersRow : OpenClaim := { program := "ythdkkdgjcfjinaa", sum := "16f00646a4087076394714374ac38333853fa889bff740850606495df85458b5", func := "servitor/servitorlaw17.TokNumbers", spec := "tokNumbers", inPlace := ["internal/bytealg.IndexByteString", "internal/bytealg.IndexString"], unfollowed := true, recurses := true, named := ["internal/bytealg.MaxLen"], apart := false }
def TokNumbersSaid : Prop := tokNumbersRow.holds Try.pinned (OpenSpec.ofChange tokNumbersSpec)

/-- ITS FALSE NEIGHBOUR: 'it returns false'. Refute it at one input. -/
def tokNumbersWrong : ChangeSpec := { name := "tokNumbers", fn := fun _ => fun
  | [d1, d2, d3] => { results := [.lit (.bool false)], args := [d1, d2, d3] }
  | _ => none }
def TokNumbersWrongFalsely : Prop := tokNumbersRow.holds Try.pinned (OpenSpec.ofChange tokNumbersWrong)

/- THE SECOND FORM. 'bulk': how many values and letters a reading holds, each counted each time it is reached (what is shared counts as often as it is met; a slice's spare places count too). A statement '..UptoSaid' is the law's where the arguments, and the package variables that the reading takes, are together of bulk at most 1048576: NARROWER than '..Said'. Prove '..Said' where nothing that the law and all that it calls make is longer than what came in: it says more and counts as full. Else prove '..UptoSaid'. A law counts once. -/
mutual
def uptoBulk {H : Type} : DataW H → Nat
  | .lit (.string bytes) => bytes.length + 1
  | .lit _ => 1
  | .nil => 1
  | .ptr d => uptoBulk d + 1
  | .slice elems spare => uptoBulkAll elems + uptoBulkAll spare + 1
  | .agg parts => uptoBulkAll parts + 1
  | .iface _ d => uptoBulk d + 1
  | .map entries => uptoBulkEntries entries + 1
  | .held _ => 1
def uptoBulkAll {H : Type} : List (DataW H) → Nat
  | [] => 0
  | d :: r => uptoBulk d + uptoBulkAll r
def uptoBulkEntries {H : Type} : List (Lit × DataW H) → Nat
  | [] => 0
  | x :: r => uptoBulkEntry x + uptoBulkEntries r
def uptoBulkEntry {H : Type} : Lit × DataW H → Nat
  | (.string bytes, d) => bytes.length + uptoBulk d + 1
  | (_, d) => uptoBulk d + 1
 end
def uptoSmall : (H : Type) → List (DataW H) → Bool := fun _ ds => decide (uptoBulkAll ds ≤ 1048576)
def OpenSpec.upto (s : _root_.Go.ChangeSpec) : _root_.Go.OpenSpec := { _root_.Go.OpenSpec.ofChange s with cond := some uptoSmall }

/-- 'servitorlaw17.TokRight', WHERE WHAT IT READS IS OF BULK AT MOST 1048576: true; the input reads as it did. -/
def tokRightUptoRow : OpenClaim := { program := "ythdkkdgjcfjinaa", sum := "16f00646a4087076394714374ac38333853fa889bff740850606495df85458b5", func := "servitor/servitorlaw17.TokRight", spec := "tokRight", inPlace := ["internal/bytealg.IndexByteString", "internal/bytealg.IndexString"], unfollowed := true, recurses := true, named := ["internal/bytealg.MaxLen"], apart := false, narrowed := true }
def TokRightUptoSaid : Prop := tokRightUptoRow.holds Try.pinned (OpenSpec.upto tokRightSpec)

/-- 'servitorlaw17.TokGaps', WHERE WHAT IT READS IS OF BULK AT MOST 1048576: true; the input reads as it did. -/
def tokGapsUptoRow : OpenClaim := { program := "ythdkkdgjcfjinaa", sum := "16f00646a4087076394714374ac38333853fa889bff740850606495df85458b5", func := "servitor/servitorlaw17.TokGaps", spec := "tokGaps", inPlace := ["internal/bytealg.IndexByteString", "internal/bytealg.IndexString"], unfollowed := true, recurses := true, named := ["internal/bytealg.MaxLen"], apart := false, narrowed := true }
def TokGapsUptoSaid : Prop := tokGapsUptoRow.holds Try.pinned (OpenSpec.upto tokGapsSpec)

/-- 'servitorlaw17.TokPlaces', WHERE WHAT IT READS IS OF BULK AT MOST 1048576: true; the input reads as it did. -/
def tokPlacesUptoRow : OpenClaim := { program := "ythdkkdgjcfjinaa", sum := "16f00646a4087076394714374ac38333853fa889bff740850606495df85458b5", func := "servitor/servitorlaw17.TokPlaces", spec := "tokPlaces", inPlace := ["internal/bytealg.IndexByteString", "internal/bytealg.IndexString"], unfollowed := true, recurses := true, named := ["internal/bytealg.MaxLen"], apart := false, narrowed := true }
def TokPlacesUptoSaid : Prop := tokPlacesUptoRow.holds Try.pinned (OpenSpec.upto tokPlacesSpec)

/-- 'servitorlaw17.TokNumbers', WHERE WHAT IT READS IS OF BULK AT MOST 1048576: true; the input reads as it did. -/
def tokNumbersUptoRow : OpenClaim := { program := "ythdkkdgjcfjinaa", sum := "16f00646a4087076394714374ac38333853fa889bff740850606495df85458b5", func := "servitor/servitorlaw17.TokNumbers", spec := "tokNumbers", inPlace := ["internal/bytealg.IndexByteString", "internal/bytealg.IndexString"], unfollowed := true, recurses := true, named := ["internal/bytealg.MaxLen"], apart := false, narrowed := true }
def TokNumbersUptoSaid : Prop := tokNumbersUptoRow.holds Try.pinned (OpenSpec.upto tokNumbersSpec)

end Rows
end Go.Proofs.Ythdkkdgjcfjinaa
