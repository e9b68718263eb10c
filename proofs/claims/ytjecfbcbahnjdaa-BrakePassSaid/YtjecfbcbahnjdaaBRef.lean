/- What servitorref08's functions answer; the world stays as it was. No condition beyond the kind's own bounds. -/
import Derived.Test.YtjecfbcbahnjdaaBMath
namespace Go.Proofs.Ytjecfbcbahnjdaa.b
open Go.ChangeShapes Go.WideShapes Go.ChangeAt Go.RowKit Go.Proofs.Ytjecfbcbahnjdaa.k
set_option linter.unusedVariables false

theorem in_any (n lo hi : Int) (w : World) : Calls Try.prog 21 #[.int .i64 n, .int .i64 lo, .int .i64 hi] w fun e w' => e = .returned (.int .i64 (clamp n lo hi)) ∧ w = w' := by
  by_cases h1 : n < lo
  · have HV : Hid (clamp n lo hi = lo) := Lib.hid (by unfold clamp; rw [if_pos h1])
    go_enter Try.func21, Try.ntmps21
    go_wp2
    go_ret
    exact ⟨ret_int HV.out.symm, rfl⟩
  · by_cases h2 : hi < n
    · have HV : Hid (clamp n lo hi = hi) := Lib.hid (by unfold clamp; rw [if_neg h1, if_pos h2])
      go_enter Try.func21, Try.ntmps21
      go_wp2
      go_ret
      exact ⟨ret_int HV.out.symm, rfl⟩
    · have HV : Hid (clamp n lo hi = n) := Lib.hid (by unfold clamp; rw [if_neg h1, if_neg h2])
      go_enter Try.func21, Try.ntmps21
      go_wp2
      go_ret
      exact ⟨ret_int HV.out.symm, rfl⟩
theorem dist_any (s : Int) (w : World) : Calls Try.prog 15 #[.int .i64 s] w fun e w' => e = .returned (.int .i64 (dist s)) ∧ w = w' := by
  have H1 : Hid (∀ W, Calls Try.prog 21 #[.int .i64 s, .int .i64 0, .int .i64 2199023255552] W fun e w' => e = .returned (.int .i64 (dist s)) ∧ W = w') := Lib.hid fun W => in_any s 0 2199023255552 W
  generalize dist s = v at *
  go_enter Try.func15, Try.ntmps15
  go_wp2_with (go_at_call 21; ((with_reducible refine (H1.out _).mono ?_); rintro e w1 ⟨rfl, rfl⟩))
  go_ret
  exact ⟨rfl, rfl⟩
theorem velr_any (s : Int) (w : World) : Calls Try.prog 17 #[.int .i64 s] w fun e w' => e = .returned (.int .i64 (vel s)) ∧ w = w' := by
  have H1 : Hid (∀ W, Calls Try.prog 21 #[.int .i64 s, .int .i64 0, .int .i64 1048576] W fun e w' => e = .returned (.int .i64 (vel s)) ∧ W = w') := Lib.hid fun W => in_any s 0 1048576 W
  generalize vel s = v at *
  go_enter Try.func17, Try.ntmps17
  go_wp2_with (go_at_call 21; ((with_reducible refine (H1.out _).mono ?_); rintro e w1 ⟨rfl, rfl⟩))
  go_ret
  exact ⟨rfl, rfl⟩
set_option maxHeartbeats 1000000 in
theorem refslow_any (v tu dec : Int) (w : World) : Calls Try.prog 11 #[.int .i64 v, .int .i64 tu, .int .i64 dec] w fun e w' => e = .returned (.int .i64 (slow (vel v) (vel tu) (los dec))) ∧ w = w' := by
  have H1 : Hid (∀ W, Calls Try.prog 21 #[.int .i64 v, .int .i64 0, .int .i64 1048576] W fun e w' => e = .returned (.int .i64 (vel v)) ∧ W = w') := Lib.hid fun W => in_any v 0 1048576 W
  have H2 : Hid (∀ W, Calls Try.prog 21 #[.int .i64 tu, .int .i64 0, .int .i64 1048576] W fun e w' => e = .returned (.int .i64 (vel tu)) ∧ W = w') := Lib.hid fun W => in_any tu 0 1048576 W
  have H3 : Hid (∀ W, Calls Try.prog 21 #[.int .i64 dec, .int .i64 1, .int .i64 1048576] W fun e w' => e = .returned (.int .i64 (los dec)) ∧ W = w') := Lib.hid fun W => in_any dec 1 1048576 W
  have b1 := vel_in v
  have b2 := vel_in tu
  have b3 := los_in dec
  generalize vel v = V at *
  generalize vel tu = U at *
  generalize los dec = D at *
  have hb := slow_le (u := U) (d := D) b2.1 b3.1 b1.1 b1.2
  go_enter Try.func11, Try.ntmps11
  go_wp2_with (first
    | (go_at_call 21; ((with_reducible refine (H1.out _).mono ?_); rintro e w1 ⟨rfl, rfl⟩))
    | (go_at_call 21; ((with_reducible refine (H2.out _).mono ?_); rintro e w1 ⟨rfl, rfl⟩))
    | (go_at_call 21; ((with_reducible refine (H3.out _).mono ?_); rintro e w1 ⟨rfl, rfl⟩)))
  go_loop [0, 7] (fun a b => ∃ x y : Int, a = .int .i64 x ∧ b = .int .i64 y ∧ 0 ≤ x ∧ x ≤ 1048576 ∧ 0 ≤ y ∧ y + slow x U D = slow V U D) (fun a _ => (intOf a).toNat)
  case atStart => exact ⟨V, 0, rfl, rfl, b1.1, b1.2, by omega, by omega⟩
  case round =>
    obtain ⟨x, y, rfl, rfl, hx0, hx1, hy, hs⟩ := hrel
    by_cases hlt : U < x - D
    · have hp := slow_pos (v := x - D) b2.1 b3.1
      have hgo := slow_go b3.1 hlt
      have hy2 : y + (x - D) ≤ 1099511627776 := by omega
      have HS : Hid (y + (x - D) + slow (x - D) U D = slow V U D) := Lib.hid (by omega)
      clear hgo hp hs hb
      go_wp2
      go_round
      case rel => exact ⟨x - D, _, rfl, rfl, by omega, by omega, by omega, HS.out⟩
      case measure => simp [intOf]; omega
    · have hend := slow_end b3.1 hlt
      have HS : Hid (y = slow V U D) := Lib.hid (by omega)
      clear hend hs hb
      go_wp2
      go_ret
      exact ⟨ret_int HS.out, rfl⟩
set_option maxHeartbeats 1000000 in
theorem refcyc_any (v dec : Int) (w : World) : Calls Try.prog 14 #[.int .i64 v, .int .i64 dec] w fun e w' => e = .returned (.int .i64 (cyc (vel v) (los dec))) ∧ w = w' := by
  have H1 : Hid (∀ W, Calls Try.prog 21 #[.int .i64 v, .int .i64 0, .int .i64 1048576] W fun e w' => e = .returned (.int .i64 (vel v)) ∧ W = w') := Lib.hid fun W => in_any v 0 1048576 W
  have H3 : Hid (∀ W, Calls Try.prog 21 #[.int .i64 dec, .int .i64 1, .int .i64 1048576] W fun e w' => e = .returned (.int .i64 (los dec)) ∧ W = w') := Lib.hid fun W => in_any dec 1 1048576 W
  have b1 := vel_in v
  have b3 := los_in dec
  generalize vel v = V at *
  generalize los dec = D at *
  have hb := cyc_le b3.1 b1.1 b1.2
  go_enter Try.func14, Try.ntmps14
  go_wp2_with (first
    | (go_at_call 21; ((with_reducible refine (H1.out _).mono ?_); rintro e w1 ⟨rfl, rfl⟩))
    | (go_at_call 21; ((with_reducible refine (H3.out _).mono ?_); rintro e w1 ⟨rfl, rfl⟩)))
  go_loop [0, 5] (fun a b => ∃ x y : Int, a = .int .i64 x ∧ b = .int .i64 y ∧ - D < x ∧ x ≤ 1048576 ∧ 0 ≤ y ∧ y + cyc x D = cyc V D) (fun a _ => (intOf a).toNat)
  case atStart => exact ⟨V, 0, rfl, rfl, by omega, b1.2, by omega, by omega⟩
  case round =>
    obtain ⟨x, y, rfl, rfl, hx0, hx1, hy, hs⟩ := hrel
    by_cases hlt : 0 < x
    · have hgo := cyc_go (x := x) b3.1
      have hp : 0 ≤ cyc (x - D) D := by
        by_cases h : 0 ≤ x - D
        · exact cyc_pos b3.1 h
        · rw [cyc_end b3.1 (by omega) (by omega)]; exact Int.le_refl _
      have hy2 : y + 1 ≤ 1048576 := by omega
      have HS : Hid (y + 1 + cyc (x - D) D = cyc V D) := Lib.hid (by omega)
      clear hgo hs hb hp
      go_wp2
      go_round
      case rel => exact ⟨x - D, _, rfl, rfl, by omega, by omega, by omega, HS.out⟩
      case measure => simp [intOf]; omega
    · have hend := cyc_end (x := x) b3.1 hx0 (by omega)
      have HS : Hid (y = cyc V D) := Lib.hid (by omega)
      clear hend hs hb
      go_wp2
      go_ret
      exact ⟨ret_int HS.out, rfl⟩
end Go.Proofs.Ytjecfbcbahnjdaa.b
