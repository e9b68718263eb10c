/- The walk of the law BrakeReach: any way, any loss: it returns true, and what was in memory is as it was. -/
import Derived.Test.YtjecfbcbahnjdaaBAwake
namespace Go.Proofs.Ytjecfbcbahnjdaa.brakeReach
open Go.ChangeShapes Go.WideShapes Go.ChangeAt Go.RowKit Go.Proofs.Ytjecfbcbahnjdaa.k Go.Proofs.Ytjecfbcbahnjdaa.b Go.Proofs.Ytjecfbcbahnjdaa
set_option linter.unusedVariables false

set_option maxHeartbeats 1000000 in
theorem walk (s dec : Int) (w : World) (h0 : (Lit.int .i64 s).wf = true) (h1 : (Lit.int .i64 dec).wf = true) :
    Calls Try.prog 4 #[.int .i64 s, .int .i64 dec] w fun e w' => e = .returned (.bool true) ∧ Below w.heap.size w w' := by
  clear h0 h1
  have HK := Lib.hid fun W => awake_any W
  have RD := Lib.hid fun W => dist_any s W
  have A1 := Lib.hid fun W => reach_any s dec W
  have hl := los_in dec
  have hs := dist_in s
  have hr := reachV_is hs.1 hl.1
  generalize reachV (dist s) (los dec) = v at *
  obtain ⟨r0, r1, r2, r3⟩ := hr
  have a2 := fun W => way_any v dec W
  rw [vel_of r0 r1] at a2
  have A2 := Lib.hid a2
  have hb2 := slow_le (u := 0) (by omega) hl.1 r0 r1
  have hp2 := slow_pos (v := v) (u := 0) (by omega) hl.1
  clear a2
  by_cases hv : v = 1048576
  · have hvb : (v == 1048576) = true := by rw [hv]; rfl
    generalize slow v 0 (los dec) = x2 at *
    generalize dist s = S at *
    clear r3 hv
    go_enter Try.func4, Try.ntmps4
    go_wp2_with (first
      | (go_at_call 8; ((with_reducible refine (HK.out _).mono ?_); rintro e v1 ⟨rfl, hb⟩; have B1 := Lib.hid hb; clear hb))
      | (go_at_call 15; ((with_reducible refine (RD.out _).mono ?_); rintro e v0 ⟨rfl, rfl⟩))
      | (go_at_call 16; ((with_reducible refine (A1.out _).mono ?_); rintro e v2 ⟨rfl, hb⟩; have B2 := Lib.hid (B1.out.trans (hb.mono B1.out.size)); clear hb))
      | (go_at_call 12; ((with_reducible refine (A2.out _).mono ?_); rintro e v3 ⟨rfl, hb⟩; have B3 := Lib.hid (B2.out.trans (hb.mono B2.out.size)); clear hb)))
    go_ret
    exact ⟨rfl, B3.out⟩
  · have hvb : (v == 1048576) = false := by rw [beq_eq_false_iff_ne]; exact hv
    have r4 : dist s < v + 1 + slow (v + 1) 0 (los dec) := r3.elim (fun h => absurd h hv) id
    have a3 := fun W => way_any (v + 1) dec W
    rw [vel_of (by omega) (by omega)] at a3
    have A3 := Lib.hid a3
    have hb3 := slow_le (v := v + 1) (u := 0) (by omega) hl.1 (by omega) (by omega)
    have hp3 := slow_pos (v := v + 1) (u := 0) (by omega) hl.1
    clear a3
    generalize slow (v + 1) 0 (los dec) = x3 at *
    generalize slow v 0 (los dec) = x2 at *
    generalize dist s = S at *
    clear r3 hv
    go_enter Try.func4, Try.ntmps4
    go_wp2_with (first
      | (go_at_call 8; ((with_reducible refine (HK.out _).mono ?_); rintro e v1 ⟨rfl, hb⟩; have B1 := Lib.hid hb; clear hb))
      | (go_at_call 15; ((with_reducible refine (RD.out _).mono ?_); rintro e v0 ⟨rfl, rfl⟩))
      | (go_at_call 16; ((with_reducible refine (A1.out _).mono ?_); rintro e v2 ⟨rfl, hb⟩; have B2 := Lib.hid (B1.out.trans (hb.mono B1.out.size)); clear hb))
      | (go_at_call 12; ((with_reducible refine (A2.out _).mono ?_); rintro e v3 ⟨rfl, hb⟩; have B3 := Lib.hid (B2.out.trans (hb.mono B2.out.size)); clear hb))
      | (go_at_call 12; ((with_reducible refine (A3.out _).mono ?_); rintro e v4 ⟨rfl, hb⟩; have B4 := Lib.hid (B3.out.trans (hb.mono B3.out.size)); clear hb)))
    go_ret
    exact ⟨rfl, B4.out⟩
end Go.Proofs.Ytjecfbcbahnjdaa.brakeReach
