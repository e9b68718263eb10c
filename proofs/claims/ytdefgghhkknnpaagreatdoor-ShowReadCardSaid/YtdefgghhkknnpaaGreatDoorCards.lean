/-
  DERIVED. GIVEN WITH THE SEED: THE CARDS: each row of YtdefgghhkknnpaaGreatDoorRows.lean that lists a variable, with what it lists TIED to the program's text (the seventh form; the later family's looks); each row that meets fmt, with fmt's text TOLD by the authors' own Lean function (tested against real Go, not proved from fmt's source: count such statements apart). THE CARD IS WHAT COUNTS. Prove the row's statement (the work); the ties are given (YtdefgghhkknnpaaGreatDoorTie.lean); close each card by the builder's one call (the guide's Derived/Test/ToyasCard.lean, 'card_holds'). Laid BY PROGRAM, IN A SANDBOX (cutbox-door.mjs). By AI agents, Wed Nov 11 2026. No macro, syntax, notation, axiom, sorry.
-/
import Derived.Test.YtdefgghhkknnpaaGreatDoorRows
import GoSem.ClaimSeven
namespace Go.Proofs.YtdefgghhkknnpaaGreatDoor
namespace Rows

/-- THE TIED CARD OF 'servitorlaw19.ShowRight'. -/
def showRightCard : Claim7 := { stood := { row := showRightRow, standIns := [], harness := (true, "1dc37bc78db886c07a438075eeff55f75028f0668ff7a08253fb6d1f044aa74a"), looks := true }, kinds := [], alts := [], laidByText := true, laidKinds := [.data, .data, .data], laidTests := true, laidLooks := .later }
def ShowRightCardSaid : Prop := Claim7.holds Tryz.pinned (.plain (OpenSpec.ofChange showRightSpec)) showRightCard

/-- THE TIED CARD OF 'servitorlaw19.ShowBack'. -/
def showBackCard : Claim7 := { stood := { row := showBackRow, standIns := [], harness := (true, "1dc37bc78db886c07a438075eeff55f75028f0668ff7a08253fb6d1f044aa74a"), looks := true }, kinds := [], alts := [], laidByText := true, laidKinds := [.data, .data, .data], laidTests := true, laidLooks := .later }
def ShowBackCardSaid : Prop := Claim7.holds Tryz.pinned (.plain (OpenSpec.ofChange showBackSpec)) showBackCard

/-- THE TIED CARD OF 'servitorlaw19.ShowRead'. -/
def showReadCard : Claim7 := { stood := { row := showReadRow, standIns := [], harness := (true, "1dc37bc78db886c07a438075eeff55f75028f0668ff7a08253fb6d1f044aa74a"), looks := true }, kinds := [], alts := [], laidByText := true, laidKinds := [.data, .data, .data], laidTests := true, laidLooks := .later }
def ShowReadCardSaid : Prop := Claim7.holds Tryz.pinned (.plain (OpenSpec.ofChange showReadSpec)) showReadCard

/-- THE SECOND FORM's CARD OF 'servitorlaw19.ShowRight'. -/
def showRightUptoCard : Claim7 := { stood := { row := showRightUptoRow, standIns := [], harness := (true, "1dc37bc78db886c07a438075eeff55f75028f0668ff7a08253fb6d1f044aa74a"), looks := true }, kinds := [], alts := [], laidByText := true, laidKinds := [.data, .data, .data], laidTests := true, laidLooks := .later }
def ShowRightUptoCardSaid : Prop := Claim7.holds Tryz.pinned (.plain (OpenSpec.upto showRightSpec)) showRightUptoCard

/-- THE SECOND FORM's CARD OF 'servitorlaw19.ShowBack'. -/
def showBackUptoCard : Claim7 := { stood := { row := showBackUptoRow, standIns := [], harness := (true, "1dc37bc78db886c07a438075eeff55f75028f0668ff7a08253fb6d1f044aa74a"), looks := true }, kinds := [], alts := [], laidByText := true, laidKinds := [.data, .data, .data], laidTests := true, laidLooks := .later }
def ShowBackUptoCardSaid : Prop := Claim7.holds Tryz.pinned (.plain (OpenSpec.upto showBackSpec)) showBackUptoCard

/-- THE SECOND FORM's CARD OF 'servitorlaw19.ShowRead'. -/
def showReadUptoCard : Claim7 := { stood := { row := showReadUptoRow, standIns := [], harness := (true, "1dc37bc78db886c07a438075eeff55f75028f0668ff7a08253fb6d1f044aa74a"), looks := true }, kinds := [], alts := [], laidByText := true, laidKinds := [.data, .data, .data], laidTests := true, laidLooks := .later }
def ShowReadUptoCardSaid : Prop := Claim7.holds Tryz.pinned (.plain (OpenSpec.upto showReadSpec)) showReadUptoCard
end Rows
end Go.Proofs.YtdefgghhkknnpaaGreatDoor
