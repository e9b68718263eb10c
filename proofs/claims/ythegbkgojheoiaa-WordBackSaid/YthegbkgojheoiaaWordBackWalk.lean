/- The walk of the law WordBack: any state, whatever switches are shown: it returns true, and the world stays as it was. -/
import Derived.Test.YthegbkgojheoiaaOAwake
namespace Go.Proofs.Ythegbkgojheoiaa.wordBack
open Go.ChangeShapes Go.WideShapes Go.ChangeAt Go.RowKit Go.Proofs.Ythegbkgojheoiaa.k Go.Proofs.Ythegbkgojheoiaa.o Go.Proofs.Ythegbkgojheoiaa
set_option linter.unusedVariables false

theorem walk (x m : Int) (w : World) (h0 : (Lit.int .i64 x).wf = true) (h1 : (Lit.int .i64 m).wf = true) :
    Calls Try.prog 4 #[.int .i64 x, .int .i64 m] w fun e w' => e = .returned (.bool true) ∧ Below w.heap.size w w' := by
  have hm := wf64 h1
  have hx := wf64 h0
  clear h0 h1
  have HK := Lib.hid fun W => awake_any W
  have a2 := fun W => status_any x W
  by_cases g0 : 0 ≤ x
  · by_cases g4 : x ≤ 4
    · have hv : 0 ≤ stat x ∧ stat x < 16 ∧ st (stat x) = x := by rcases five_of x g0 g4 with rfl | rfl | rfl | rfl | rfl <;> decide
      have ho := or_high (stat x) m hv.1 hv.2.1
      have hs : st (bits .or .i64 (stat x) (bits .andNot .i64 m 15)) = x := by rw [st_low _ ho.1]; exact hv.2.2
      have b1 := fun W => state_any (stat x) W
      rw [hv.2.2] at b1
      have c1 := fun W => state_any (bits .or .i64 (stat x) (bits .andNot .i64 m 15)) W
      rw [hs] at c1
      have hv0 := hv.1
      have hv1 : stat x ≤ 15 := by omega
      generalize stat x = v at *
      have A2 := Lib.hid a2
      have B1 := Lib.hid b1
      have C1 := Lib.hid c1
      clear a2 b1 c1 hs ho hv
      go_enter Try.func4, Try.ntmps4
      go_wp2_with (first
        | (go_at_call 6; ((with_reducible refine (HK.out _).mono ?_); rintro e w1 ⟨rfl, rfl⟩))
        | (go_at_call 9; ((with_reducible refine (A2.out _).mono ?_); rintro e w1 ⟨rfl, rfl⟩))
        | (go_at_call 7; ((with_reducible refine (B1.out _).mono ?_); rintro e w1 ⟨rfl, rfl⟩))
        | (go_at_call 7; ((with_reducible refine (C1.out _).mono ?_); rintro e w1 ⟨rfl, rfl⟩)))
      go_ret
      exact ⟨rfl, Below.refl _ _⟩
    · rw [show stat x = 0 by unfold stat; omega] at a2
      have A2 := Lib.hid a2
      clear a2
      go_enter Try.func4, Try.ntmps4
      go_wp2_with (first
        | (go_at_call 6; ((with_reducible refine (HK.out _).mono ?_); rintro e w1 ⟨rfl, rfl⟩))
        | (go_at_call 9; ((with_reducible refine (A2.out _).mono ?_); rintro e w1 ⟨rfl, rfl⟩)))
      go_ret
      exact ⟨rfl, Below.refl _ _⟩
  · rw [show stat x = 0 by unfold stat; omega] at a2
    have A2 := Lib.hid a2
    clear a2
    go_enter Try.func4, Try.ntmps4
    go_wp2_with (first
      | (go_at_call 6; ((with_reducible refine (HK.out _).mono ?_); rintro e w1 ⟨rfl, rfl⟩))
      | (go_at_call 9; ((with_reducible refine (A2.out _).mono ?_); rintro e w1 ⟨rfl, rfl⟩)))
    go_ret
    exact ⟨rfl, Below.refl _ _⟩
end Go.Proofs.Ythegbkgojheoiaa.wordBack
