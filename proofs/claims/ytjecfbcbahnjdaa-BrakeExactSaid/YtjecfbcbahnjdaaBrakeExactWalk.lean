/- The walk of the law BrakeExact: any speeds, any loss: it returns true, and what was in memory is as it was. -/
import Derived.Test.YtjecfbcbahnjdaaBAwake
namespace Go.Proofs.Ytjecfbcbahnjdaa.brakeExact
open Go.ChangeShapes Go.WideShapes Go.ChangeAt Go.RowKit Go.Proofs.Ytjecfbcbahnjdaa.k Go.Proofs.Ytjecfbcbahnjdaa.b Go.Proofs.Ytjecfbcbahnjdaa
set_option linter.unusedVariables false

def tooMany (v dec : Int) : Bool := decide (4000 < vel v ∧ dec < 300)
theorem many_any (v dec : Int) (w : World) : Calls Try.prog 9 #[.int .i64 v, .int .i64 dec] w fun e w' => e = .returned (.bool (tooMany v dec)) ∧ w = w' := by
  have H := Lib.hid fun W => velr_any v W
  by_cases h1 : 4000 < vel v
  · by_cases h2 : dec < 300
    · have HV : Hid (tooMany v dec = true) := Lib.hid (decide_eq_true ⟨h1, h2⟩)
      generalize vel v = x at *
      go_enter Try.func9, Try.ntmps9
      go_wp2_with (go_at_call 17; ((with_reducible refine (H.out _).mono ?_); rintro e v0 ⟨rfl, rfl⟩))
      go_ret
      exact ⟨ret_bool HV.out.symm, rfl⟩
    · have HV : Hid (tooMany v dec = false) := Lib.hid (decide_eq_false fun h => h2 h.2)
      have h3 : decide (dec < 300) = false := decide_eq_false h2
      generalize vel v = x at *
      go_enter Try.func9, Try.ntmps9
      go_wp2_with (go_at_call 17; ((with_reducible refine (H.out _).mono ?_); rintro e v0 ⟨rfl, rfl⟩))
      go_ret
      exact ⟨ret_bool HV.out.symm, rfl⟩
  · have HV : Hid (tooMany v dec = false) := Lib.hid (decide_eq_false fun h => h1 h.1)
    generalize vel v = x at *
    go_enter Try.func9, Try.ntmps9
    go_wp2_with (go_at_call 17; ((with_reducible refine (H.out _).mono ?_); rintro e v0 ⟨rfl, rfl⟩))
    go_ret
    exact ⟨ret_bool HV.out.symm, rfl⟩
theorem walk (v u dec : Int) (w : World) (h0 : (Lit.int .i64 v).wf = true) (h1 : (Lit.int .i64 u).wf = true) (h2 : (Lit.int .i64 dec).wf = true) :
    Calls Try.prog 3 #[.int .i64 v, .int .i64 u, .int .i64 dec] w fun e w' => e = .returned (.bool true) ∧ Below w.heap.size w w' := by
  clear h0 h1 h2
  have HK := Lib.hid fun W => awake_any W
  have hm := fun W => many_any v dec W
  have A1 := Lib.hid fun W => slow_any v u dec W
  have R1 := Lib.hid fun W => refslow_any v u dec W
  have A2 := Lib.hid fun W => way_any v dec W
  have R2 : Hid (∀ W, Calls Try.prog 11 #[.int .i64 v, .int .i64 0, .int .i64 dec] W fun e w' => e = .returned (.int .i64 (slow (vel v) 0 (los dec))) ∧ W = w') := Lib.hid fun W => refslow_any v 0 dec W
  have A3 := Lib.hid fun W => cycles_any v dec W
  have R3 := Lib.hid fun W => refcyc_any v dec W
  generalize slow (vel v) (vel u) (los dec) = x1 at *
  generalize slow (vel v) 0 (los dec) = x2 at *
  generalize cyc (vel v) (los dec) = x3 at *
  cases hq : tooMany v dec
  · rw [hq] at hm
    have HM := Lib.hid hm
    clear hm hq
    go_enter Try.func3, Try.ntmps3
    go_wp2_with (first
      | (go_at_call 8; ((with_reducible refine (HK.out _).mono ?_); rintro e v1 ⟨rfl, hb⟩; have B1 := Lib.hid hb; clear hb))
      | (go_at_call 9; ((with_reducible refine (HM.out _).mono ?_); rintro e v0 ⟨rfl, rfl⟩))
      | (go_at_call 10; ((with_reducible refine (A1.out _).mono ?_); rintro e v2 ⟨rfl, hb⟩; have B2 := Lib.hid (B1.out.trans (hb.mono B1.out.size)); clear hb))
      | (go_at_call 11; ((with_reducible refine (R1.out _).mono ?_); rintro e v0 ⟨rfl, rfl⟩))
      | (go_at_call 11; ((with_reducible refine (R2.out _).mono ?_); rintro e v0 ⟨rfl, rfl⟩))
      | (go_at_call 12; ((with_reducible refine (A2.out _).mono ?_); rintro e v3 ⟨rfl, hb⟩; have B3 := Lib.hid (B2.out.trans (hb.mono B2.out.size)); clear hb))
      | (go_at_call 13; ((with_reducible refine (A3.out _).mono ?_); rintro e v4 ⟨rfl, hb⟩; have B4 := Lib.hid (B3.out.trans (hb.mono B3.out.size)); clear hb))
      | (go_at_call 14; ((with_reducible refine (R3.out _).mono ?_); rintro e v0 ⟨rfl, rfl⟩)))
    go_ret
    exact ⟨rfl, B4.out⟩
  · rw [hq] at hm
    have HM := Lib.hid hm
    clear hm hq
    go_enter Try.func3, Try.ntmps3
    go_wp2_with (first
      | (go_at_call 8; ((with_reducible refine (HK.out _).mono ?_); rintro e v1 ⟨rfl, hb⟩; have B1 := Lib.hid hb; clear hb))
      | (go_at_call 9; ((with_reducible refine (HM.out _).mono ?_); rintro e v0 ⟨rfl, rfl⟩))
      | (go_at_call 10; ((with_reducible refine (A1.out _).mono ?_); rintro e v2 ⟨rfl, hb⟩; have B2 := Lib.hid (B1.out.trans (hb.mono B1.out.size)); clear hb))
      | (go_at_call 11; ((with_reducible refine (R1.out _).mono ?_); rintro e v0 ⟨rfl, rfl⟩))
      | (go_at_call 11; ((with_reducible refine (R2.out _).mono ?_); rintro e v0 ⟨rfl, rfl⟩))
      | (go_at_call 12; ((with_reducible refine (A2.out _).mono ?_); rintro e v3 ⟨rfl, hb⟩; have B3 := Lib.hid (B2.out.trans (hb.mono B2.out.size)); clear hb))
      | (go_at_call 13; ((with_reducible refine (A3.out _).mono ?_); rintro e v4 ⟨rfl, hb⟩; have B4 := Lib.hid (B3.out.trans (hb.mono B3.out.size)); clear hb))
      | (go_at_call 14; ((with_reducible refine (R3.out _).mono ?_); rintro e v0 ⟨rfl, rfl⟩)))
    go_ret
    exact ⟨rfl, B1.out⟩
end Go.Proofs.Ytjecfbcbahnjdaa.brakeExact
