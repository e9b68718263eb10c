/- What layer brake's Slow, Way and Cycles answer; the world stays as it was. No condition beyond the kind's own bounds. -/
import Derived.Test.YtaohidaijlcplaaBMath
namespace Go.Proofs.Ytaohidaijlcplaa.b
open Go.ChangeShapes Go.WideShapes Go.ChangeAt Go.RowKit Go.Proofs.Ytaohidaijlcplaa.k
set_option linter.unusedVariables false

theorem max_clamp (n lo hi : Int) (h : lo ≤ hi) : max lo (min n hi) = clamp n lo hi := by unfold clamp; omega
theorem near_any (n lo hi : Int) (h : lo ≤ hi) (w : World) : Calls Try.prog 58 #[.int .i64 n, .int .i64 lo, .int .i64 hi] w fun e w' => e = .returned (.int .i64 (clamp n lo hi)) ∧ w = w' := by
  have e := max_clamp n lo hi h
  generalize clamp n lo hi = v at *
  clear h
  go_enter Try.func58, Try.ntmps58
  go_wp2
  go_ret
  exact ⟨rfl, rfl⟩
theorem speed_any (s : Int) (w : World) : Calls Try.prog 56 #[.int .i64 s] w fun e w' => e = .returned (.int .i64 (vel s)) ∧ w = w' := by
  have H1 : Hid (∀ W, Calls Try.prog 58 #[.int .i64 s, .int .i64 0, .int .i64 1048576] W fun e w' => e = .returned (.int .i64 (vel s)) ∧ W = w') := Lib.hid fun W => near_any s 0 1048576 (by omega) W
  generalize vel s = v at *
  go_enter Try.func56, Try.ntmps56
  go_wp2_with (go_at_call 58; ((with_reducible refine (H1.out _).mono ?_); rintro e w1 ⟨rfl, rfl⟩))
  go_ret
  exact ⟨rfl, rfl⟩
theorem loss_any (s : Int) (w : World) : Calls Try.prog 57 #[.int .i64 s] w fun e w' => e = .returned (.int .i64 (los s)) ∧ w = w' := by
  have H1 : Hid (∀ W, Calls Try.prog 58 #[.int .i64 s, .int .i64 1, .int .i64 1048576] W fun e w' => e = .returned (.int .i64 (los s)) ∧ W = w') := Lib.hid fun W => near_any s 1 1048576 (by omega) W
  generalize los s = v at *
  go_enter Try.func57, Try.ntmps57
  go_wp2_with (go_at_call 58; ((with_reducible refine (H1.out _).mono ?_); rintro e w1 ⟨rfl, rfl⟩))
  go_ret
  exact ⟨rfl, rfl⟩
theorem asway_any (s : Int) (w : World) : Calls Try.prog 53 #[.int .i64 s] w fun e w' => e = .returned (.int .i64 (dist s)) ∧ w = w' := by
  have H1 : Hid (∀ W, Calls Try.prog 58 #[.int .i64 s, .int .i64 0, .int .i64 2199023255552] W fun e w' => e = .returned (.int .i64 (dist s)) ∧ W = w') := Lib.hid fun W => near_any s 0 2199023255552 (by omega) W
  generalize dist s = v at *
  go_enter Try.func53, Try.ntmps53
  go_wp2_with (go_at_call 58; ((with_reducible refine (H1.out _).mono ?_); rintro e w1 ⟨rfl, rfl⟩))
  go_ret
  exact ⟨rfl, rfl⟩
/-- m (m + 1) is even: the row's sum, as it is reckoned -/
theorem slow_form {V U D : Int} (hd : 1 ≤ D) (hu : 0 ≤ U) (h : U < V) (hV : V ≤ 1048576) :
    ∃ m, (V - U - 1) / D = m ∧ 0 ≤ m ∧ m ≤ 1048576 ∧ 0 ≤ m * V ∧ m * V ≤ 1099511627776 ∧ 0 ≤ D * m ∧ D * m ≤ 1048576 ∧ 0 ≤ D * m * (m + 1) ∧ D * m * (m + 1) ≤ 1099512676352 ∧ m * V - D * m * (m + 1) / 2 = slow V U D := by
  have hs := slow_sum hd h
  have q := Int.mul_ediv_add_emod (V - U - 1) D
  have r0 := Int.emod_nonneg (V - U - 1) (show D ≠ 0 by omega)
  have m0 : 0 ≤ (V - U - 1) / D := Int.ediv_nonneg (by omega) (by omega)
  refine ⟨(V - U - 1) / D, rfl, m0, ?_⟩
  generalize (V - U - 1) / D = m at *
  have hmD : m * 1 ≤ D * m := by rw [Int.mul_comm D m]; exact Int.mul_le_mul_of_nonneg_left hd m0
  have hm : m ≤ 1048576 := by omega
  have h1 : 0 ≤ m * V := Int.mul_nonneg m0 (by omega)
  have h2 : m * V ≤ 1048576 * 1048576 := Int.mul_le_mul hm hV (by omega) (by omega)
  have h3 : 0 ≤ D * m := Int.mul_nonneg (by omega) m0
  have h4 : D * m ≤ 1048576 := by omega
  have h5 : 0 ≤ D * m * (m + 1) := Int.mul_nonneg h3 (by omega)
  have h6 : D * m * (m + 1) ≤ 1048576 * 1048577 := Int.mul_le_mul h4 (by omega) (by omega) (by omega)
  have h7 : m * (m + 1) * D = D * m * (m + 1) := by rw [Int.mul_comm _ D, Int.mul_assoc]
  rw [h7] at hs
  refine ⟨hm, h1, by omega, h3, h4, h5, by omega, by omega⟩
set_option maxHeartbeats 1000000 in
theorem slow_same (v u dec : Int) (w : World) : Calls Try.prog 51 #[.int .i64 v, .int .i64 u, .int .i64 dec] w fun e w' => e = .returned (.int .i64 (slow (vel v) (vel u) (los dec))) ∧ w = w' := by
  have H1 := Lib.hid fun W => speed_any v W
  have H2 := Lib.hid fun W => speed_any u W
  have H3 := Lib.hid fun W => loss_any dec W
  have b1 := vel_in v
  have b2 := vel_in u
  have b3 := los_in dec
  generalize vel v = V at *
  generalize vel u = U at *
  generalize los dec = D at *
  by_cases h : V ≤ U
  · have HS : Hid (slow V U D = 0) := Lib.hid (slow_end b3.1 (by omega))
    go_enter Try.func51, Try.ntmps51
    go_wp2_with (first
      | (go_at_call 56; ((with_reducible refine (H1.out _).mono ?_); rintro e w1 ⟨rfl, rfl⟩))
      | (go_at_call 56; ((with_reducible refine (H2.out _).mono ?_); rintro e w1 ⟨rfl, rfl⟩))
      | (go_at_call 57; ((with_reducible refine (H3.out _).mono ?_); rintro e w1 ⟨rfl, rfl⟩)))
    go_ret
    exact ⟨ret_int HS.out.symm, rfl⟩
  · obtain ⟨m, e1, m0, m1, m2, m3, m4, m5, m6, m7, e2⟩ := slow_form b3.1 b2.1 (show U < V by omega) b1.2
    have hne : ¬ D = 0 := by omega
    have hdb : (D == 0) = false := by rw [beq_eq_false_iff_ne]; exact hne
    have HE := Lib.hid e2
    clear e2
    go_enter Try.func51, Try.ntmps51
    go_wp2_with (first
      | (go_at_call 56; ((with_reducible refine (H1.out _).mono ?_); rintro e w1 ⟨rfl, rfl⟩))
      | (go_at_call 56; ((with_reducible refine (H2.out _).mono ?_); rintro e w1 ⟨rfl, rfl⟩))
      | (go_at_call 57; ((with_reducible refine (H3.out _).mono ?_); rintro e w1 ⟨rfl, rfl⟩)))
    go_ret
    exact ⟨ret_int HE.out, rfl⟩
theorem way_same (v dec : Int) (w : World) : Calls Try.prog 46 #[.int .i64 v, .int .i64 dec] w fun e w' => e = .returned (.int .i64 (slow (vel v) 0 (los dec))) ∧ w = w' := by
  have H1 : Hid (∀ W, Calls Try.prog 51 #[.int .i64 v, .int .i64 0, .int .i64 dec] W fun e w' => e = .returned (.int .i64 (slow (vel v) 0 (los dec))) ∧ W = w') := Lib.hid fun W => slow_same v 0 dec W
  generalize slow (vel v) 0 (los dec) = x at *
  go_enter Try.func46, Try.ntmps46
  go_wp2_with (go_at_call 51; ((with_reducible refine (H1.out _).mono ?_); rintro e w1 ⟨rfl, rfl⟩))
  go_ret
  exact ⟨rfl, rfl⟩
end Go.Proofs.Ytaohidaijlcplaa.b
