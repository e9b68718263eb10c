/- The walk of the law BrakeGrows: any speeds, losses and ways: it returns true, and what was in memory is as it was. -/
import Derived.Test.YtjecfbcbahnjdaaBAwake
namespace Go.Proofs.Ytjecfbcbahnjdaa.brakeGrows
open Go.ChangeShapes Go.WideShapes Go.ChangeAt Go.RowKit Go.Proofs.Ytjecfbcbahnjdaa.k Go.Proofs.Ytjecfbcbahnjdaa.b Go.Proofs.Ytjecfbcbahnjdaa
set_option linter.unusedVariables false

theorem min_cases (a b : Int) : min a b ≤ max a b := by omega
set_option maxHeartbeats 1000000 in
theorem walk (v x dec more s far : Int) (w : World) (h0 : (Lit.int .i64 v).wf = true) (h1 : (Lit.int .i64 x).wf = true) (h2 : (Lit.int .i64 dec).wf = true) (h3 : (Lit.int .i64 more).wf = true) (h4 : (Lit.int .i64 s).wf = true) (h5 : (Lit.int .i64 far).wf = true) :
    Calls Try.prog 7 #[.int .i64 v, .int .i64 x, .int .i64 dec, .int .i64 more, .int .i64 s, .int .i64 far] w fun e w' => e = .returned (.bool true) ∧ Below w.heap.size w w' := by
  have i0 := wf64 h0
  have i1 := wf64 h1
  have i2 := wf64 h2
  have i3 := wf64 h3
  have i4 := wf64 h4
  have i5 := wf64 h5
  clear h0 h1 h2 h3 h4 h5
  have HK := Lib.hid fun W => awake_any W
  have W1 := Lib.hid fun W => way_any (min v x) dec W
  have W2 := Lib.hid fun W => way_any (max v x) dec W
  have W3 := Lib.hid fun W => way_any v (max dec more) W
  have W4 := Lib.hid fun W => way_any v (min dec more) W
  have R1 := Lib.hid fun W => reach_any (min s far) dec W
  have R2 := Lib.hid fun W => reach_any (max s far) dec W
  have R3 := Lib.hid fun W => reach_any (min s far) (min dec more) W
  have R4 := Lib.hid fun W => reach_any (min s far) (max dec more) W
  have S1 := Lib.hid fun W => slow_any v (max v x) dec W
  have S2 := Lib.hid fun W => slow_any v (min v x) dec W
  have ld := los_in dec
  have lc := los_in (min dec more)
  have lm := los_in (max dec more)
  have lmono := los_mono (min_cases dec more)
  have q1 : slow (vel (min v x)) 0 (los dec) ≤ slow (vel (max v x)) 0 (los dec) := slow_mono (by omega) ld.1 (vel_mono (min_cases v x))
  have q2 : slow (vel v) 0 (los (max dec more)) ≤ slow (vel v) 0 (los (min dec more)) := slow_loss (by omega) lc.1 lmono
  have q3 : reachV (dist (min s far)) (los dec) ≤ reachV (dist (max s far)) (los dec) := reach_far ld.1 (dist_mono (min_cases s far)) (reachV_is (dist_in _).1 ld.1) (reachV_is (dist_in _).1 ld.1)
  have q4 : reachV (dist (min s far)) (los (min dec more)) ≤ reachV (dist (min s far)) (los (max dec more)) := reach_loss lc.1 lmono (reachV_is (dist_in _).1 lc.1) (reachV_is (dist_in _).1 lm.1)
  have q5 : slow (vel v) (vel (max v x)) (los dec) ≤ slow (vel v) (vel (min v x)) (los dec) := slow_to (vel_in _).1 ld.1 (vel_mono (min_cases v x))
  clear lmono lc lm ld
  generalize slow (vel (min v x)) 0 (los dec) = y1 at *
  generalize slow (vel (max v x)) 0 (los dec) = y2 at *
  generalize slow (vel v) 0 (los (max dec more)) = y3 at *
  generalize slow (vel v) 0 (los (min dec more)) = y4 at *
  generalize reachV (dist (min s far)) (los dec) = y5 at *
  generalize reachV (dist (max s far)) (los dec) = y6 at *
  generalize reachV (dist (min s far)) (los (min dec more)) = y7 at *
  generalize reachV (dist (min s far)) (los (max dec more)) = y8 at *
  generalize slow (vel v) (vel (max v x)) (los dec) = y9 at *
  generalize slow (vel v) (vel (min v x)) (los dec) = y10 at *
  go_enter Try.func7, Try.ntmps7
  go_wp2_with (first
    | (go_at_call 8; ((with_reducible refine (HK.out _).mono ?_); rintro e v1 ⟨rfl, hb⟩; have B1 := Lib.hid hb; clear hb))
    | (go_at_call 12; ((with_reducible refine (W1.out _).mono ?_); rintro e v2 ⟨rfl, hb⟩; have B2 := Lib.hid (B1.out.trans (hb.mono B1.out.size)); clear hb))
    | (go_at_call 12; ((with_reducible refine (W2.out _).mono ?_); rintro e v3 ⟨rfl, hb⟩; have B3 := Lib.hid (B2.out.trans (hb.mono B2.out.size)); clear hb))
    | (go_at_call 12; ((with_reducible refine (W3.out _).mono ?_); rintro e v4 ⟨rfl, hb⟩; have B4 := Lib.hid (B3.out.trans (hb.mono B3.out.size)); clear hb))
    | (go_at_call 12; ((with_reducible refine (W4.out _).mono ?_); rintro e v5 ⟨rfl, hb⟩; have B5 := Lib.hid (B4.out.trans (hb.mono B4.out.size)); clear hb))
    | (go_at_call 16; ((with_reducible refine (R1.out _).mono ?_); rintro e v6 ⟨rfl, hb⟩; have B6 := Lib.hid (B5.out.trans (hb.mono B5.out.size)); clear hb))
    | (go_at_call 16; ((with_reducible refine (R2.out _).mono ?_); rintro e v7 ⟨rfl, hb⟩; have B7 := Lib.hid (B6.out.trans (hb.mono B6.out.size)); clear hb))
    | (go_at_call 16; ((with_reducible refine (R3.out _).mono ?_); rintro e v8 ⟨rfl, hb⟩; have B8 := Lib.hid (B7.out.trans (hb.mono B7.out.size)); clear hb))
    | (go_at_call 16; ((with_reducible refine (R4.out _).mono ?_); rintro e v9 ⟨rfl, hb⟩; have B9 := Lib.hid (B8.out.trans (hb.mono B8.out.size)); clear hb))
    | (go_at_call 10; ((with_reducible refine (S1.out _).mono ?_); rintro e v10 ⟨rfl, hb⟩; have B10 := Lib.hid (B9.out.trans (hb.mono B9.out.size)); clear hb))
    | (go_at_call 10; ((with_reducible refine (S2.out _).mono ?_); rintro e v11 ⟨rfl, hb⟩; have B11 := Lib.hid (B10.out.trans (hb.mono B10.out.size)); clear hb)))
  go_ret
  exact ⟨rfl, B11.out⟩
end Go.Proofs.Ytjecfbcbahnjdaa.brakeGrows
