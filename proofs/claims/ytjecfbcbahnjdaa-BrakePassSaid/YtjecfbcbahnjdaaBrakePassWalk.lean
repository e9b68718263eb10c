/- The walk of the law BrakePass: any way, any speed, any loss: it returns true, and what was in memory is as it was. -/
import Derived.Test.YtjecfbcbahnjdaaBAwake
namespace Go.Proofs.Ytjecfbcbahnjdaa.brakePass
open Go.ChangeShapes Go.WideShapes Go.ChangeAt Go.RowKit Go.Proofs.Ytjecfbcbahnjdaa.k Go.Proofs.Ytjecfbcbahnjdaa.b Go.Proofs.Ytjecfbcbahnjdaa
set_option linter.unusedVariables false

set_option maxHeartbeats 1000000 in
theorem walk (s u dec : Int) (w : World) (h0 : (Lit.int .i64 s).wf = true) (h1 : (Lit.int .i64 u).wf = true) (h2 : (Lit.int .i64 dec).wf = true) :
    Calls Try.prog 5 #[.int .i64 s, .int .i64 u, .int .i64 dec] w fun e w' => e = .returned (.bool true) ∧ Below w.heap.size w w' := by
  clear h0 h1 h2
  have HK := Lib.hid fun W => awake_any W
  have RD := Lib.hid fun W => dist_any s W
  have RV := Lib.hid fun W => velr_any u W
  have A1 := Lib.hid fun W => pass_any s u dec W
  have hl := los_in dec
  have hs := dist_in s
  have hu := vel_in u
  have hr := passV_is (s := dist s) hu.1 hu.2 hl.1
  generalize passV (dist s) (vel u) (los dec) = v at *
  obtain ⟨r0, r1, r2, r3⟩ := hr
  have a2 := fun W => slow_any v u dec W
  rw [vel_of (by omega) r1] at a2
  have A2 := Lib.hid a2
  have hb2 := slow_le hu.1 hl.1 (show 0 ≤ v by omega) r1
  have hp2 := slow_pos (v := v) hu.1 hl.1
  clear a2
  have a3 := fun (h : v + 1 ≤ 1048576) W => slow_any (v + 1) u dec W
  have a3' : v + 1 ≤ 1048576 → ∀ W, Calls Try.prog 10 #[.int .i64 (v + 1), .int .i64 u, .int .i64 dec] W fun e w' => e = .returned (.int .i64 (slow (v + 1) (vel u) (los dec))) ∧ Below W.heap.size W w' := fun h W => by
    have := a3 h W
    rwa [vel_of (by omega) h] at this
  have hb3 : v + 1 ≤ 1048576 → slow (v + 1) (vel u) (los dec) ≤ 1099511627776 := fun h => slow_le hu.1 hl.1 (by omega) h
  have hp3 := slow_pos (v := v + 1) hu.1 hl.1
  clear a3
  generalize slow (v + 1) (vel u) (los dec) = x3 at *
  generalize slow v (vel u) (los dec) = x2 at *
  generalize dist s = S at *
  generalize vel u = U at *
  have A3 := Lib.hid a3'
  clear a3'
  by_cases hvu : v = U
  · have hub : (v == U) = true := by rw [hvu]; simp
    by_cases hv : v = 1048576
    · have hvb : (v == 1048576) = true := by rw [hv]; rfl
      clear r3 r2 hv hvu hb3 A3
      go_enter Try.func5, Try.ntmps5
      go_wp2_with (first
        | (go_at_call 8; ((with_reducible refine (HK.out _).mono ?_); rintro e v1 ⟨rfl, hb⟩; have B1 := Lib.hid hb; clear hb))
        | (go_at_call 15; ((with_reducible refine (RD.out _).mono ?_); rintro e v0 ⟨rfl, rfl⟩))
        | (go_at_call 17; ((with_reducible refine (RV.out _).mono ?_); rintro e v0 ⟨rfl, rfl⟩))
        | (go_at_call 18; ((with_reducible refine (A1.out _).mono ?_); rintro e v2 ⟨rfl, hb⟩; have B2 := Lib.hid (B1.out.trans (hb.mono B1.out.size)); clear hb)))
      go_ret
      exact ⟨rfl, B2.out⟩
    · have hvb : (v == 1048576) = false := by rw [beq_eq_false_iff_ne]; exact hv
      have r4 : S < v + 1 + x3 := r3.elim (fun h => absurd h hv) id
      have A4 := Lib.hid (A3.out (by omega))
      have hb4 := hb3 (by omega)
      clear r3 r2 hv hvu hb3 A3
      go_enter Try.func5, Try.ntmps5
      go_wp2_with (first
        | (go_at_call 8; ((with_reducible refine (HK.out _).mono ?_); rintro e v1 ⟨rfl, hb⟩; have B1 := Lib.hid hb; clear hb))
        | (go_at_call 15; ((with_reducible refine (RD.out _).mono ?_); rintro e v0 ⟨rfl, rfl⟩))
        | (go_at_call 17; ((with_reducible refine (RV.out _).mono ?_); rintro e v0 ⟨rfl, rfl⟩))
        | (go_at_call 18; ((with_reducible refine (A1.out _).mono ?_); rintro e v2 ⟨rfl, hb⟩; have B2 := Lib.hid (B1.out.trans (hb.mono B1.out.size)); clear hb))
        | (go_at_call 10; ((with_reducible refine (A4.out _).mono ?_); rintro e v3 ⟨rfl, hb⟩; have B3 := Lib.hid (B2.out.trans (hb.mono B2.out.size)); clear hb)))
      go_ret
      exact ⟨rfl, B3.out⟩
  · have hub : (v == U) = false := by rw [beq_eq_false_iff_ne]; exact hvu
    have r5 : v + x2 ≤ S := r2.elim (fun h => absurd h hvu) id
    by_cases hv : v = 1048576
    · have hvb : (v == 1048576) = true := by rw [hv]; rfl
      clear r3 r2 hv hvu hb3 A3
      go_enter Try.func5, Try.ntmps5
      go_wp2_with (first
        | (go_at_call 8; ((with_reducible refine (HK.out _).mono ?_); rintro e v1 ⟨rfl, hb⟩; have B1 := Lib.hid hb; clear hb))
        | (go_at_call 15; ((with_reducible refine (RD.out _).mono ?_); rintro e v0 ⟨rfl, rfl⟩))
        | (go_at_call 17; ((with_reducible refine (RV.out _).mono ?_); rintro e v0 ⟨rfl, rfl⟩))
        | (go_at_call 18; ((with_reducible refine (A1.out _).mono ?_); rintro e v2 ⟨rfl, hb⟩; have B2 := Lib.hid (B1.out.trans (hb.mono B1.out.size)); clear hb))
        | (go_at_call 10; ((with_reducible refine (A2.out _).mono ?_); rintro e v3 ⟨rfl, hb⟩; have B3 := Lib.hid (B2.out.trans (hb.mono B2.out.size)); clear hb)))
      go_ret
      exact ⟨rfl, B3.out⟩
    · have hvb : (v == 1048576) = false := by rw [beq_eq_false_iff_ne]; exact hv
      have r4 : S < v + 1 + x3 := r3.elim (fun h => absurd h hv) id
      have A4 := Lib.hid (A3.out (by omega))
      have hb4 := hb3 (by omega)
      clear r3 r2 hv hvu hb3 A3
      go_enter Try.func5, Try.ntmps5
      go_wp2_with (first
        | (go_at_call 8; ((with_reducible refine (HK.out _).mono ?_); rintro e v1 ⟨rfl, hb⟩; have B1 := Lib.hid hb; clear hb))
        | (go_at_call 15; ((with_reducible refine (RD.out _).mono ?_); rintro e v0 ⟨rfl, rfl⟩))
        | (go_at_call 17; ((with_reducible refine (RV.out _).mono ?_); rintro e v0 ⟨rfl, rfl⟩))
        | (go_at_call 18; ((with_reducible refine (A1.out _).mono ?_); rintro e v2 ⟨rfl, hb⟩; have B2 := Lib.hid (B1.out.trans (hb.mono B1.out.size)); clear hb))
        | (go_at_call 10; ((with_reducible refine (A2.out _).mono ?_); rintro e v3 ⟨rfl, hb⟩; have B3 := Lib.hid (B2.out.trans (hb.mono B2.out.size)); clear hb))
        | (go_at_call 10; ((with_reducible refine (A4.out _).mono ?_); rintro e v4 ⟨rfl, hb⟩; have B4 := Lib.hid (B3.out.trans (hb.mono B3.out.size)); clear hb)))
      go_ret
      exact ⟨rfl, B4.out⟩
end Go.Proofs.Ytjecfbcbahnjdaa.brakePass
