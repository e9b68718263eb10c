/- Plain facts on watches: which are right, and which frames count. No condition beyond what each line says. -/
import Derived.Test.YtdfgjfojneoljaaTBack
namespace Go.Proofs.Ytdfgjfojneoljaa.u
open Go.ChangeShapes Go.WideShapes Go.ChangeAt Go.RowKit Go.Proofs.Ytdfgjfojneoljaa.s Go.Proofs.Ytdfgjfojneoljaa.t
set_option linter.unusedVariables false

def RightW (lim mis last : Int) : Prop := 1 ≤ lim ∧ lim ≤ 100 ∧ 0 ≤ mis ∧ mis ≤ lim ∧ -1 ≤ last ∧ last ≤ 255
instance (lim mis last : Int) : Decidable (RightW lim mis last) := by unfold RightW; infer_instance
def rightW (lim mis last : Int) : Bool := decide (RightW lim mis last)
theorem right_yes {lim mis last : Int} (h : RightW lim mis last) : rightW lim mis last = true := decide_eq_true h
theorem right_no {lim mis last : Int} (h : ¬ RightW lim mis last) : rightW lim mis last = false := decide_eq_false h
/-- a frame's number is newer than the last one, going round -/
def Newer (S last : Int) (d : Int) : Prop := last = -1 ∨ (0 ≤ last ∧ 1 ≤ (S - last) % 256 ∧ (S - last) % 256 < d)
theorem newer_start (S last : Int) : Newer S last 1 ↔ last = -1 := by unfold Newer; omega
theorem newer_hit {S last d : Int} (h0 : 0 ≤ last) (hd : 1 ≤ d) (hd2 : d ≤ 127) (h : (last + d) % 256 = S) : Newer S last (d + 1) := by unfold Newer; omega
theorem newer_miss {S last d : Int} (hS : 0 ≤ S ∧ S ≤ 255) (h0 : 0 ≤ last) (hd : 1 ≤ d) (hd2 : d ≤ 127) (h : ¬ (last + d) % 256 = S) : Newer S last (d + 1) ↔ Newer S last d := by unfold Newer; omega
theorem newer_none {S last d : Int} (h1 : -1 ≤ last) (h0 : ¬ 0 ≤ last) : Newer S last (d + 1) ↔ Newer S last d := by unfold Newer; omega
theorem rS_in (sg : BitVec 8) (most : Int) (l : List (BitVec 8)) : 0 ≤ rS sg most l ∧ rS sg most l ≤ 255 := by
  unfold rS
  split
  · exact v8_in _
  · omega
end Go.Proofs.Ytdfgjfojneoljaa.u
