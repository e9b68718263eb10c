/- The law QRight answers true for every two numbers: sums, differences, products, quotients and rests are the reference's. -/
import Derived.Test.YtobkbojkkefiiaaRDiv
namespace Go.Proofs.Ytobkbojkkefiiaa.qRight
open Go.ChangeShapes Go.WideShapes Go.ChangeAt Go.RowKit Go.Proofs.Ytobkbojkkefiiaa.q Go.Proofs.Ytobkbojkkefiiaa.r
set_option linter.unusedVariables false

set_option maxRecDepth 100000 in
set_option maxHeartbeats 2000000 in
theorem walk (a0 : Int) (a1 : Int) (w0 : (Lit.int .i64 a0).wf = true) (w1 : (Lit.int .i64 a1).wf = true) (w : World) :
    Calls Try.prog 3 #[.int .i64 a0, .int .i64 a1] w fun e w' => e = .returned (.bool true) ∧ Below w.heap.size w w' := by
  obtain ⟨h1, h2⟩ := wf64 w0
  obtain ⟨h3, h4⟩ := wf64 w1
  clear w0 w1
  have c1 := fun (w : World) => add_any a0 a1 h1 h2 h3 h4 w
  have d1 := fun (w : World) => radd_any a0 a1 h1 h2 h3 h4 w
  have c2 := fun (w : World) => sub_any a0 a1 h1 h2 h3 h4 w
  have d2 := fun (w : World) => rsub_any a0 a1 h1 h2 h3 h4 w
  have c3 := fun (w : World) => mul_any a0 a1 h1 h2 h3 h4 w
  have d3 := fun (w : World) => rmul_any a0 a1 h1 h2 h3 h4 w
  have c4 := fun (w : World) => div_any a0 a1 h1 h2 w
  have d4 := fun (w : World) => rdiv_any a0 a1 h1 h2 h3 h4 w
  have c5 := fun (w : World) => mod_any a0 a1 h1 h2 w
  have d5 := fun (w : World) => rmod_any a0 a1 h1 h2 h3 h4 w
  have e4 : wrap64 (divE a0 a1) = divE a0 a1 := by unfold divE wrap64; split; omega; split <;> omega
  have e5 : wrap64 (modE a0 a1) = modE a0 a1 := by unfold modE wrap64; split <;> omega
  generalize addV a0 a1 = x1 at *
  generalize addB a0 a1 = y1 at *
  generalize subV a0 a1 = x2 at *
  generalize subB a0 a1 = y2 at *
  generalize mulV a0 a1 = x3 at *
  generalize mulB a0 a1 = y3 at *
  generalize divV a0 a1 = x4 at *
  generalize divE a0 a1 = y4 at *
  generalize modV a0 a1 = x5 at *
  generalize modE a0 a1 = y5 at *
  go_enter Try.func3, Try.ntmps3
  go_wp2_with (first
    | (go_at_call 9; (with_reducible refine (awake_any _).mono ?_); rintro e w' ⟨rfl, kd, rfl⟩)
    | (go_at_call 10; (with_reducible refine (c1 _).mono ?_); rintro e w' ⟨rfl, rfl⟩)
    | (go_at_call 11; (with_reducible refine (d1 _).mono ?_); rintro e v1 ⟨rfl, b1⟩)
    | (go_at_call 12; (with_reducible refine (c2 _).mono ?_); rintro e w' ⟨rfl, rfl⟩)
    | (go_at_call 13; (with_reducible refine (d2 _).mono ?_); rintro e v2 ⟨rfl, b2⟩)
    | (go_at_call 14; (with_reducible refine (c3 _).mono ?_); rintro e w' ⟨rfl, rfl⟩)
    | (go_at_call 15; (with_reducible refine (d3 _).mono ?_); rintro e v3 ⟨rfl, b3⟩)
    | (go_at_call 16; (with_reducible refine (c4 _).mono ?_); rintro e w' ⟨rfl, rfl⟩)
    | (go_at_call 17; (with_reducible refine (d4 _).mono ?_); rintro e v4 ⟨rfl, b4⟩)
    | (go_at_call 18; (with_reducible refine (c5 _).mono ?_); rintro e w' ⟨rfl, rfl⟩)
    | (go_at_call 19; (with_reducible refine (d5 _).mono ?_); rintro e v5 ⟨rfl, b5⟩))
  go_ret
  have k0 : Below w.heap.size w (w.drewN kd) := below_drewN (Below.refl _ _) kd
  have z1 := b1.size
  have z2 := b2.size
  have z3 := b3.size
  have z4 := b4.size
  have z0 : (w.drewN kd).heap.size = w.heap.size := rfl
  exact ⟨rfl, ((((k0.trans (b1.mono (by omega))).trans (b2.mono (by omega))).trans (b3.mono (by omega))).trans (b4.mono (by omega))).trans (b5.mono (by omega))⟩
end Go.Proofs.Ytobkbojkkefiiaa.qRight
