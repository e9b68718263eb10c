/- The walk of the law WordRight: any words, any state: it returns true, and the world stays as it was. -/
import Derived.Test.YthegbkgojheoiaaOAwake
namespace Go.Proofs.Ythegbkgojheoiaa.wordRight
open Go.ChangeShapes Go.WideShapes Go.ChangeAt Go.RowKit Go.Proofs.Ythegbkgojheoiaa.k Go.Proofs.Ythegbkgojheoiaa.o Go.Proofs.Ythegbkgojheoiaa
set_option linter.unusedVariables false

theorem walk (s x c : Int) (want clear : Bool) (w : World) (h0 : (Lit.int .i64 s).wf = true) (h1 : (Lit.int .i64 x).wf = true) (h2 : (Lit.int .i64 c).wf = true) :
    Calls Try.prog 3 #[.int .i64 s, .int .i64 x, .int .i64 c, .bool want, .bool clear] w fun e w' => e = .returned (.bool true) ∧ Below w.heap.size w w' := by
  clear h0 h1 h2
  have HK := Lib.hid fun W => awake_any W
  have A1 := Lib.hid fun W => state_any s W
  have B1 := Lib.hid fun W => refstate_any s W
  have A2 := Lib.hid fun W => status_any x W
  have B2 := Lib.hid fun W => refstatus_any x W
  have A3 := Lib.hid fun W => control_any x want clear W
  have B3 := Lib.hid fun W => refcontrol_any x want clear W
  have A4 := Lib.hid fun W => next_any x c W
  have B4 := Lib.hid fun W => refnext_any x c W
  generalize st s = v1 at *
  generalize stat x = v2 at *
  generalize ctl x want clear = v3 at *
  generalize nxt x c = v4 at *
  go_enter Try.func3, Try.ntmps3
  go_wp2_with (first
    | (go_at_call 6; ((with_reducible refine (HK.out _).mono ?_); rintro e w1 ⟨rfl, rfl⟩))
    | (go_at_call 7; ((with_reducible refine (A1.out _).mono ?_); rintro e w1 ⟨rfl, rfl⟩))
    | (go_at_call 8; ((with_reducible refine (B1.out _).mono ?_); rintro e w1 ⟨rfl, rfl⟩))
    | (go_at_call 9; ((with_reducible refine (A2.out _).mono ?_); rintro e w1 ⟨rfl, rfl⟩))
    | (go_at_call 10; ((with_reducible refine (B2.out _).mono ?_); rintro e w1 ⟨rfl, rfl⟩))
    | (go_at_call 11; ((with_reducible refine (A3.out _).mono ?_); rintro e w1 ⟨rfl, rfl⟩))
    | (go_at_call 12; ((with_reducible refine (B3.out _).mono ?_); rintro e w1 ⟨rfl, rfl⟩))
    | (go_at_call 13; ((with_reducible refine (A4.out _).mono ?_); rintro e w1 ⟨rfl, rfl⟩))
    | (go_at_call 14; ((with_reducible refine (B4.out _).mono ?_); rintro e w1 ⟨rfl, rfl⟩)))
  go_ret
  exact ⟨rfl, Below.refl _ _⟩
end Go.Proofs.Ythegbkgojheoiaa.wordRight
