/- Plain facts on searches for the home place. No condition beyond what each line says. -/
import Derived.Test.YtojiefppaiafaaaKBase
namespace Go.Proofs.Ytojiefppaiafaaa.hm
open Go.ChangeShapes Go.WideShapes Go.ChangeAt Go.RowKit Go.Proofs.Ytojiefppaiafaaa.k
set_option linter.unusedVariables false

/-- a search -/
structure H where
  ph : Int
  f : Int
  c : Int
  tu : Bool
deriving DecidableEq
def hV (h : H) : Value := .agg #[.int .i64 h.ph, .int .i64 h.f, .int .i64 h.c, .bool h.tu]
def hC (h : H) : List Value := [.int .i64 h.ph, .int .i64 h.f, .int .i64 h.c, .bool h.tu]
def RightH (h : H) : Prop := 0 ≤ h.ph ∧ h.ph ≤ 5 ∧ (0 < h.f ∧ 0 < h.c ∧ h.c ≤ h.f ∧ h.f ≤ 1048576 ∨ h.f < 0 ∧ h.c < 0 ∧ h.f ≤ h.c ∧ -1048576 ≤ h.f)
instance (h : H) : Decidable (RightH h) := by unfold RightH; infer_instance
def rightH (h : H) : Bool := decide (RightH h)
theorem right_yes {h : H} (hr : RightH h) : rightH h = true := decide_eq_true hr
theorem right_no {h : H} (hr : ¬ RightH h) : rightH h = false := decide_eq_false hr
def aheadB (h : H) (plus minus : Bool) : Bool := if h.f < 0 then minus else plus
def behindB (h : H) (plus minus : Bool) : Bool := if h.f < 0 then plus else minus
/-- the search behind a cycle, of a right one -/
def stepN (h : H) (home plus minus still : Bool) : H :=
  if h.ph = 0 then (if home then { h with ph := 1 } else if aheadB h plus minus then (if h.tu then { h with ph := 5 } else { h with f := -h.f, c := -h.c, tu := true }) else h)
  else if h.ph = 1 then (if still then { h with ph := 2 } else h)
  else if h.ph = 2 then (if home then (if behindB h plus minus then { h with ph := 5 } else h) else { h with ph := 3 })
  else if h.ph = 3 then (if still then { h with ph := 4 } else h)
  else h
/-- what is wanted -/
def stepV (h : H) (home plus minus still : Bool) : Int :=
  if h.ph = 0 then (if home then 0 else if aheadB h plus minus then 0 else h.f)
  else if h.ph = 2 then (if home then (if behindB h plus minus then 0 else -h.c) else 0)
  else 0
/-- what Step answers of any search -/
def stepHN (h : H) (home plus minus still : Bool) : H := if RightH h then stepN h home plus minus still else h
def stepHV (h : H) (home plus minus still : Bool) : Int := if RightH h then stepV h home plus minus still else 0
def overH (h : H) : Bool := !(rightH h) || decide (4 ≤ h.ph)
def zeroH : H := ⟨0, 0, 0, false⟩
def newH (f c : Int) : H := if RightH ⟨0, f, c, false⟩ then ⟨0, f, c, false⟩ else zeroH
def newE (f c : Int) : Int := if RightH ⟨0, f, c, false⟩ then 0 else 1
theorem step_right {h : H} (hr : RightH h) (home plus minus still : Bool) : RightH (stepN h home plus minus still) := by
  obtain ⟨p, f, c, t⟩ := h
  obtain ⟨h1, h2, h3⟩ := hr
  dsimp only at h1 h2 h3
  unfold stepN
  dsimp only
  repeat' split
  all_goals refine ⟨?_, ?_, ?_⟩ <;> (try dsimp only) <;> omega
theorem step_turned {h : H} (home plus minus still : Bool) : h.tu = true → (stepN h home plus minus still).tu = true := by
  obtain ⟨p, f, c, t⟩ := h
  intro ht
  dsimp only at ht
  subst ht
  unfold stepN
  dsimp only
  repeat' split
  all_goals first | rfl | (simp_all; done)
theorem step_over {h : H} (h4 : 4 ≤ h.ph) (home plus minus still : Bool) : stepN h home plus minus still = h ∧ stepV h home plus minus still = 0 := by
  unfold stepN stepV
  rw [if_neg (by omega), if_neg (by omega), if_neg (by omega), if_neg (by omega), if_neg (by omega), if_neg (by omega)]
  exact ⟨rfl, rfl⟩
theorem step_phase {h : H} (hr : RightH h) (home plus minus still : Bool) : h.ph ≤ (stepN h home plus minus still).ph := by
  obtain ⟨p, f, c, t⟩ := h
  obtain ⟨h1, h2, h3⟩ := hr
  dsimp only at h1 h2 h3
  unfold stepN
  dsimp only
  repeat' split
  all_goals (try dsimp only)
  all_goals omega
/-- how fast: its size, without the sign, stays -/
theorem step_size {h : H} (home plus minus still : Bool) : max (stepN h home plus minus still).f (-(stepN h home plus minus still).f) = max h.f (-h.f) := by
  obtain ⟨p, f, c, t⟩ := h
  unfold stepN
  dsimp only
  repeat' split
  all_goals (try dsimp only)
  all_goals omega
theorem step_speed {h : H} (hr : RightH h) (home plus minus still : Bool) : -(max h.f (-h.f)) ≤ stepV h home plus minus still ∧ stepV h home plus minus still ≤ max h.f (-h.f) := by
  obtain ⟨p, f, c, t⟩ := h
  obtain ⟨h1, h2, h3⟩ := hr
  dsimp only at h1 h2 h3
  unfold stepV
  dsimp only
  repeat' split
  all_goals (try dsimp only)
  all_goals omega
end Go.Proofs.Ytojiefppaiafaaa.hm
