/- Stage 14's fixed answer. No condition. -/
import Derived.Test.YtaohidaijlcplaaGxGear
namespace Go.Proofs.Ytaohidaijlcplaa.gx
open Go.ChangeShapes Go.WideShapes Go.ChangeAt Go.RowKit Go.Proofs.Ytaohidaijlcplaa.k Go.Proofs.Ytaohidaijlcplaa.b Go.Proofs.Ytaohidaijlcplaa.gn
set_option linter.unusedVariables false

theorem awake_any (w : World) : Calls Try.prog 6 #[] w fun e w' => e = .returned (.bool true) ∧ Below w.heap.size w w' := by
  have C1 : Hid (∀ W, Calls Try.prog 7 #[.int .i64 100, .int .i64 0, .int .i64 7, .int .i64 1, .int .i64 2] W fun e w' => e = .returned (.tuple #[.int .i64 103, .bool true]) ∧ Below W.heap.size W w') := Lib.hid fun W => by have h := place_any 100 0 7 1 2 (by decide) (by decide) (by decide) (by decide) (by decide) W; rw [show plV 100 0 7 1 2 = 103 by decide, show plB 100 0 7 1 2 = true by decide] at h; exact h
  go_enter Try.func6, Try.ntmps6
  go_wp2_with (go_at_call 7; ((with_reducible refine (C1.out _).mono ?_); rintro e v1 ⟨rfl, hb⟩; have HB := Lib.hid hb; skip; clear hb))
  go_ret
  exact ⟨rfl, HB.out⟩
end Go.Proofs.Ytaohidaijlcplaa.gx
