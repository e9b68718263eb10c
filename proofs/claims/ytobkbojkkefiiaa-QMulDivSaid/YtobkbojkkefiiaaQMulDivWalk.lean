/- The law QMulDiv answers true for every three numbers: a product by a third one, rounded down, is the reference's, or has its error. -/
import Derived.Test.YtobkbojkkefiiaaRMulDiv
namespace Go.Proofs.Ytobkbojkkefiiaa.qMulDiv
open Go.ChangeShapes Go.WideShapes Go.ChangeAt Go.RowKit Go.Proofs.Ytobkbojkkefiiaa.q Go.Proofs.Ytobkbojkkefiiaa.r
set_option linter.unusedVariables false

set_option maxRecDepth 100000 in
theorem walk (a0 : Int) (a1 : Int) (a2 : Int) (w0 : (Lit.int .i64 a0).wf = true) (w1 : (Lit.int .i64 a1).wf = true) (w2 : (Lit.int .i64 a2).wf = true) (w : World) :
    Calls Try.prog 4 #[.int .i64 a0, .int .i64 a1, .int .i64 a2] w fun e w' => e = .returned (.bool true) ∧ Below w.heap.size w w' := by
  obtain ⟨h1, h2⟩ := wf64 w0
  obtain ⟨h3, h4⟩ := wf64 w1
  obtain ⟨h5, h6⟩ := wf64 w2
  clear w0 w1 w2
  have c1 := fun (w : World) => muldiv_any a0 a1 a2 h1 h2 h3 h4 h6 w
  have d1 := fun (w : World) => rmuldiv_any a0 a1 a2 h1 h2 h3 h4 h5 h6 w
  have e4 : wrap64 (mdE a0 a1 a2) = mdE a0 a1 a2 := by
    unfold mdE wrap64
    split
    · omega
    · split
      · omega
      · split <;> omega
  generalize mdV a0 a1 a2 = x1 at *
  generalize mdE a0 a1 a2 = y1 at *
  go_enter Try.func4, Try.ntmps4
  go_wp2_with (first
    | (go_at_call 9; (with_reducible refine (awake_any _).mono ?_); rintro e w' ⟨rfl, kd, rfl⟩)
    | (go_at_call 20; (with_reducible refine (c1 _).mono ?_); rintro e w' ⟨rfl, ke, rfl⟩)
    | (go_at_call 21; (with_reducible refine (d1 _).mono ?_); rintro e v1 ⟨rfl, b1⟩))
  go_ret
  exact ⟨rfl, (below_drewN (Below.refl _ _) _).trans b1⟩
end Go.Proofs.Ytobkbojkkefiiaa.qMulDiv
