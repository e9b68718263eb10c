/- Plain facts on settled switches. No condition beyond what each line says. -/
import Derived.Test.YtdfgjfojneoljaaKBase
namespace Go.Proofs.Ytdfgjfojneoljaa.v
open Go.ChangeShapes Go.WideShapes Go.ChangeAt Go.RowKit Go.Proofs.Ytdfgjfojneoljaa.k
set_option linter.unusedVariables false

def RightB (c o : Int) : Prop := 1 ≤ c ∧ c ≤ 20 ∧ 0 ≤ o ∧ o ≤ c - 1
instance (c o : Int) : Decidable (RightB c o) := by unfold RightB; infer_instance
def rightB (c o : Int) : Bool := decide (RightB c o)
theorem right_yes {c o : Int} (h : RightB c o) : rightB c o = true := decide_eq_true h
theorem right_no {c o : Int} (h : ¬ RightB c o) : rightB c o = false := decide_eq_false h
/-- what a cycle makes of a switch -/
def stepV (c : Int) (v : Bool) (o : Int) (s : Bool) : Bool := if s = v then v else if o + 1 = c then s else v
def stepO (c : Int) (v : Bool) (o : Int) (s : Bool) : Int := if s = v then 0 else if o + 1 = c then 0 else o + 1
theorem step_same {c : Int} {v : Bool} {o : Int} {s : Bool} (h : s = v) : stepV c v o s = v ∧ stepO c v o s = 0 := by
  unfold stepV stepO; rw [if_pos h, if_pos h]; exact ⟨rfl, rfl⟩
theorem step_full {c : Int} {v : Bool} {o : Int} {s : Bool} (h : ¬ s = v) (h2 : o + 1 = c) : stepV c v o s = s ∧ stepO c v o s = 0 := by
  unfold stepV stepO; rw [if_neg h, if_neg h, if_pos h2, if_pos h2]; exact ⟨rfl, rfl⟩
theorem step_more {c : Int} {v : Bool} {o : Int} {s : Bool} (h : ¬ s = v) (h2 : ¬ o + 1 = c) : stepV c v o s = v ∧ stepO c v o s = o + 1 := by
  unfold stepV stepO; rw [if_neg h, if_neg h, if_neg h2, if_neg h2]; exact ⟨rfl, rfl⟩
theorem step_right {c : Int} {v : Bool} {o : Int} {s : Bool} (h : RightB c o) : RightB c (stepO c v o s) := by
  unfold RightB stepO at *
  split
  · omega
  · split <;> omega
end Go.Proofs.Ytdfgjfojneoljaa.v
