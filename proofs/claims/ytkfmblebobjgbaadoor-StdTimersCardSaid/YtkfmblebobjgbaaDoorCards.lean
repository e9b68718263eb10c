/-
  DERIVED. GIVEN WITH THE SEED: THE CARDS: each row of YtkfmblebobjgbaaDoorRows.lean that lists a variable, with what it lists TIED to the program's text (the seventh form; the later family's looks); each row that meets fmt, with fmt's text TOLD by the authors' own Lean function (tested against real Go, not proved from fmt's source: count such statements apart). THE CARD IS WHAT COUNTS. Prove the row's statement (the work); the ties are given (YtkfmblebobjgbaaDoorTie.lean); close each card by the builder's one call (the guide's Derived/Test/ToyasCard.lean, 'card_holds'). Laid BY PROGRAM, IN A SANDBOX (cutbox-door.mjs). By AI agents, Wed Nov 11 2026. No macro, syntax, notation, axiom, sorry.
-/
import Derived.Test.YtkfmblebobjgbaaDoorRows
import GoSem.ClaimSeven
namespace Go.Proofs.YtkfmblebobjgbaaDoor
namespace Rows

/-- THE TIED CARD OF 'servitorlaw16.StdTimers'. -/
def stdTimersCard : Claim7 := { stood := { row := stdTimersRow, standIns := [], harness := (true, "3de97b027898ae2163212e2fc15311b4269d521c4f7719614595f362f25ef898"), looks := false }, kinds := [], alts := [], laidByText := true, laidKinds := [.listed, .data], laidTests := true, laidLooks := .later }
def StdTimersCardSaid : Prop := Claim7.holds Tryd.pinned (.plain (OpenSpec.ofChange stdTimersSpec)) stdTimersCard

/-- THE TIED CARD OF 'servitorlaw16.StdCounts'. -/
def stdCountsCard : Claim7 := { stood := { row := stdCountsRow, standIns := [], harness := (true, "3de97b027898ae2163212e2fc15311b4269d521c4f7719614595f362f25ef898"), looks := false }, kinds := [], alts := [], laidByText := true, laidKinds := [.listed, .data], laidTests := true, laidLooks := .later }
def StdCountsCardSaid : Prop := Claim7.holds Tryd.pinned (.plain (OpenSpec.ofChange stdCountsSpec)) stdCountsCard

/-- THE TIED CARD OF 'servitorlaw16.StdFlips'. -/
def stdFlipsCard : Claim7 := { stood := { row := stdFlipsRow, standIns := [], harness := (true, "3de97b027898ae2163212e2fc15311b4269d521c4f7719614595f362f25ef898"), looks := false }, kinds := [], alts := [], laidByText := true, laidKinds := [.listed, .data], laidTests := true, laidLooks := .later }
def StdFlipsCardSaid : Prop := Claim7.holds Tryd.pinned (.plain (OpenSpec.ofChange stdFlipsSpec)) stdFlipsCard

/-- THE SECOND FORM's CARD OF 'servitorlaw16.StdTimers'. -/
def stdTimersUptoCard : Claim7 := { stood := { row := stdTimersUptoRow, standIns := [], harness := (true, "3de97b027898ae2163212e2fc15311b4269d521c4f7719614595f362f25ef898"), looks := false }, kinds := [], alts := [], laidByText := true, laidKinds := [.listed, .data], laidTests := true, laidLooks := .later }
def StdTimersUptoCardSaid : Prop := Claim7.holds Tryd.pinned (.plain (OpenSpec.upto stdTimersSpec)) stdTimersUptoCard

/-- THE SECOND FORM's CARD OF 'servitorlaw16.StdCounts'. -/
def stdCountsUptoCard : Claim7 := { stood := { row := stdCountsUptoRow, standIns := [], harness := (true, "3de97b027898ae2163212e2fc15311b4269d521c4f7719614595f362f25ef898"), looks := false }, kinds := [], alts := [], laidByText := true, laidKinds := [.listed, .data], laidTests := true, laidLooks := .later }
def StdCountsUptoCardSaid : Prop := Claim7.holds Tryd.pinned (.plain (OpenSpec.upto stdCountsSpec)) stdCountsUptoCard

/-- THE SECOND FORM's CARD OF 'servitorlaw16.StdFlips'. -/
def stdFlipsUptoCard : Claim7 := { stood := { row := stdFlipsUptoRow, standIns := [], harness := (true, "3de97b027898ae2163212e2fc15311b4269d521c4f7719614595f362f25ef898"), looks := false }, kinds := [], alts := [], laidByText := true, laidKinds := [.listed, .data], laidTests := true, laidLooks := .later }
def StdFlipsUptoCardSaid : Prop := Claim7.holds Tryd.pinned (.plain (OpenSpec.upto stdFlipsSpec)) stdFlipsUptoCard
end Rows
end Go.Proofs.YtkfmblebobjgbaaDoor
