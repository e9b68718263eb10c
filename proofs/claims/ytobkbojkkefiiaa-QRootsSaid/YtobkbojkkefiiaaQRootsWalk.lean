/- The law QRoots answers true for every three numbers: roots and clamped numbers are the reference's. -/
import Derived.Test.YtobkbojkkefiiaaRRoots
namespace Go.Proofs.Ytobkbojkkefiiaa.qRoots
open Go.ChangeShapes Go.WideShapes Go.ChangeAt Go.RowKit Go.Proofs.Ytobkbojkkefiiaa.q Go.Proofs.Ytobkbojkkefiiaa.r
set_option linter.unusedVariables false

theorem walk (a0 : Int) (a1 : Int) (a2 : Int) (w0 : (Lit.int .i64 a0).wf = true) (w1 : (Lit.int .i64 a1).wf = true) (w2 : (Lit.int .i64 a2).wf = true) (w : World) :
    Calls Try.prog 5 #[.int .i64 a0, .int .i64 a1, .int .i64 a2] w fun e w' => e = .returned (.bool true) ∧ Grown w w' := by
  obtain ⟨h1, h2⟩ := wf64 w0
  clear w0 w1 w2
  have c1 := fun (w : World) => sqrt_any a0 h1 h2 w
  have c2 := fun (w : World) => rsqrt_any a0 h1 h2 w
  have c3 := fun (w : World) => clamp_any a0 a1 a2 w
  have c4 := fun (w : World) => rclamp_any a0 a1 a2 w
  generalize sqrtV a0 = r at *
  generalize clampV a0 a1 a2 = k at *
  go_enter Try.func5, Try.ntmps5
  go_wp2_with (first | (go_at_call 9; (with_reducible refine (awake_any _).mono ?_); rintro e w' ⟨rfl, kd, rfl⟩) | (go_at_call 22; (with_reducible refine (c1 _).mono ?_); rintro e w' ⟨rfl, rfl⟩) | (go_at_call 23; (with_reducible refine (c2 _).mono ?_); rintro e w' ⟨rfl, rfl⟩) | (go_at_call 24; (with_reducible refine (c3 _).mono ?_); rintro e w' ⟨rfl, rfl⟩) | (go_at_call 25; (with_reducible refine (c4 _).mono ?_); rintro e w' ⟨rfl, rfl⟩))
  go_ret
  exact ⟨rfl, by repeat (first | exact Grown.refl _ | exact grown_drewN _ _ | apply Grown.drew | apply grown_thenN)⟩
end Go.Proofs.Ytobkbojkkefiiaa.qRoots
