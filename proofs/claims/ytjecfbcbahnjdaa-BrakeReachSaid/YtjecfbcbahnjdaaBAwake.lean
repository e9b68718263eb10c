/- Stage 8's fixed answers. No condition. -/
import Derived.Test.YtjecfbcbahnjdaaBBrake
namespace Go.Proofs.Ytjecfbcbahnjdaa.b
open Go.ChangeShapes Go.WideShapes Go.ChangeAt Go.RowKit Go.Proofs.Ytjecfbcbahnjdaa.k
set_option linter.unusedVariables false

theorem awake_any (w : World) : Calls Try.prog 8 #[] w fun e w' => e = .returned (.bool true) ∧ Below w.heap.size w w' := by
  have a1 := fun W => way_any 10 3 W
  rw [show slow (vel 10) 0 (los 3) = 12 by decide] at a1
  have a2 := fun W => slow_any 10 4 3 W
  rw [show slow (vel 10) (vel 4) (los 3) = 7 by decide] at a2
  have a3 := fun W => reach_any 22 3 W
  rw [show reachV (dist 22) (los 3) = 10 from reachV_of (by decide) ⟨by decide, by decide, by decide, .inr (by decide)⟩] at a3
  have a4 := fun W => cycles_any 10 3 W
  rw [show cyc (vel 10) (los 3) = 4 by decide] at a4
  have A1 := Lib.hid a1
  have A2 := Lib.hid a2
  have A3 := Lib.hid a3
  have A4 := Lib.hid a4
  clear a1 a2 a3 a4
  go_enter Try.func8, Try.ntmps8
  go_wp2_with (first
    | (go_at_call 12; ((with_reducible refine (A1.out _).mono ?_); rintro e w1 ⟨rfl, hb⟩; have H1 := Lib.hid hb; clear hb))
    | (go_at_call 10; ((with_reducible refine (A2.out _).mono ?_); rintro e w2 ⟨rfl, hb⟩; have H2 := Lib.hid (H1.out.trans (hb.mono H1.out.size)); clear hb))
    | (go_at_call 16; ((with_reducible refine (A3.out _).mono ?_); rintro e w3 ⟨rfl, hb⟩; have H3 := Lib.hid (H2.out.trans (hb.mono H2.out.size)); clear hb))
    | (go_at_call 13; ((with_reducible refine (A4.out _).mono ?_); rintro e w4 ⟨rfl, hb⟩; have H4 := Lib.hid (H3.out.trans (hb.mono H3.out.size)); clear hb)))
  go_ret
  exact ⟨rfl, H4.out⟩
end Go.Proofs.Ytjecfbcbahnjdaa.b
