/- Stage 6's fixed answer. No condition. -/
import Derived.Test.YthegbkgojheoiaaOWord
namespace Go.Proofs.Ythegbkgojheoiaa.o
open Go.ChangeShapes Go.WideShapes Go.ChangeAt Go.RowKit Go.Proofs.Ythegbkgojheoiaa.k
set_option linter.unusedVariables false

theorem awake_any (w : World) : Calls Try.prog 6 #[] w fun e w' => e = .returned (.bool true) ∧ w = w' := by
  have s1 := fun W => state_any 7 W
  rw [show st 7 = 3 by decide] at s1
  have s2 := fun W => next_any 0 1 W
  rw [show nxt 0 1 = 1 by decide] at s2
  have s3 := fun W => control_any 2 true false W
  rw [show ctl 2 true false = 3 by decide] at s3
  have S1 := Lib.hid s1
  have S2 := Lib.hid s2
  have S3 := Lib.hid s3
  clear s1 s2 s3
  go_enter Try.func6, Try.ntmps6
  go_wp2_with (first
    | (go_at_call 7; ((with_reducible refine (S1.out _).mono ?_); rintro e w1 ⟨rfl, rfl⟩))
    | (go_at_call 13; ((with_reducible refine (S2.out _).mono ?_); rintro e w1 ⟨rfl, rfl⟩))
    | (go_at_call 11; ((with_reducible refine (S3.out _).mono ?_); rintro e w1 ⟨rfl, rfl⟩)))
  go_ret
  exact ⟨rfl, rfl⟩
end Go.Proofs.Ythegbkgojheoiaa.o
