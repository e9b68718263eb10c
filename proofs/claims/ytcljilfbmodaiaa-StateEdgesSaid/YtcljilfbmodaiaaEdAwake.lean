/- Stage 11's fixed answer. No condition. -/
import Derived.Test.YtcljilfbmodaiaaEdState
namespace Go.Proofs.Ytcljilfbmodaiaa.ed
open Go.ChangeShapes Go.WideShapes Go.ChangeAt Go.RowKit Go.Proofs.Ytcljilfbmodaiaa.k
set_option linter.unusedVariables false

theorem awake_any (w : World) : Calls Try.prog 6 #[] w fun e w' => e = .returned (.bool true) ∧ Below w.heap.size w w' := by
  have s1 := fun W => next_any 3 5 W
  rw [show nxS 3 5 = 3 by decide, show nxB 3 5 = false by decide] at s1
  have s2 := fun W => next_any 1 5 W
  rw [show nxS 1 5 = 4 by decide, show nxB 1 5 = true by decide] at s2
  have s3 := fun W => moves_any 6 W
  rw [show mvB 6 = true by decide] at s3
  have S1 := Lib.hid s1
  have S2 := Lib.hid s2
  have S3 := Lib.hid s3
  have HB := Lib.hid (Below.refl w.heap.size w)
  clear s1 s2 s3
  go_enter Try.func6, Try.ntmps6
  go_wp2_with (first | (go_at_call 7; ((with_reducible refine (S1.out _).mono ?_); rintro e w1 ⟨rfl, hb⟩; have HB := Lib.hid (HB.out.trans (hb.mono HB.out.size)); clear hb)) | (go_at_call 7; ((with_reducible refine (S2.out _).mono ?_); rintro e w1 ⟨rfl, hb⟩; have HB := Lib.hid (HB.out.trans (hb.mono HB.out.size)); clear hb)) | (go_at_call 9; ((with_reducible refine (S3.out _).mono ?_); rintro e w1 ⟨rfl, hb⟩; have HB := Lib.hid (HB.out.trans (hb.mono HB.out.size)); clear hb)))
  go_ret
  exact ⟨rfl, HB.out⟩
end Go.Proofs.Ytcljilfbmodaiaa.ed
