/- What layer q's Mul, Div and Mod answer, for all numbers of 64 bits. No condition beside the kinds' own bounds. -/
import Derived.Test.YthdkkdgjcfjinaaQCalls
import Derived.Deep.QuietTactic
import Derived.BigQuiet
namespace Go.Proofs.Ythdkkdgjcfjinaa.q
open Go.ChangeShapes Go.WideShapes Go.ChangeAt Go.RowKit
set_option linter.unusedVariables false

theorem mul_any (a b : Int) (h1 : -9223372036854775808 ≤ a) (h2 : a ≤ 9223372036854775807) (h3 : -9223372036854775808 ≤ b) (h4 : b ≤ 9223372036854775807) (w : World) :
    Calls Try.prog 46 #[.int .i64 a, .int .i64 b] w fun e w' => e = .returned (.tuple #[.int .i64 (mulV a b), .bool (mulB a b)]) ∧ w = w' := by
  have ma := mag_le a h1 h2
  have mb := mag_le b h3 h4
  have HS := Lib.hid (sgn_mul a b)
  have HO := Lib.hid (mul_over a b)
  by_cases hh : mag a * mag b / 18446744073709551616 = 0
  · have hlt : mag a * mag b < 18446744073709551616 := by omega
    have hmod : mag a * mag b % 18446744073709551616 = mag a * mag b := Nat.mod_eq_of_lt hlt
    have hv : Hid (mulV a b = sgV (mag a * mag b) (neq a b) ∧ mulB a b = sgB (mag a * mag b) (neq a b)) := Lib.hid (by
      unfold mulV mulB sgV sgB; rw [HS.out]; exact ⟨rfl, rfl⟩)
    have cs := fun (w : World) => signed_any (mag a * mag b % 18446744073709551616) (neq a b) (by omega) w
    rw [hmod] at cs
    have cm := fun (w : World) => mul64_any (mag a) (mag b) (by omega) (by omega) w
    rw [hh, hmod] at cm
    generalize mag a * mag b = P at *
    clear hh hmod
    go_enter Try.func46, Try.ntmps46
    go_wp2_with (first | (go_at_call 54; with_reducible refine (size_any _ (by assumption) (by assumption) _).mono ?_; rintro e w' ⟨rfl, rfl⟩) | (go_at_call 53; with_reducible refine (cm _).mono ?_; rintro e w' ⟨rfl, rfl⟩) | (go_at_call 56; with_reducible refine (unlike_any _ _ _).mono ?_; rintro e w' ⟨rfl, rfl⟩) | (go_at_call 55; with_reducible refine (cs _).mono ?_; rintro e w' ⟨rfl, rfl⟩))
    go_ret2
    exact ⟨ret2_bool hv.out.1.symm hv.out.2.symm, rfl⟩
  · have hv : Hid (mulV a b = 0 ∧ mulB a b = false) := Lib.hid (by
      have := HO.out (by omega)
      exact ⟨rv_no this, Bool.eq_false_iff.mpr this⟩)
    have cm := fun (w : World) => mul64_any (mag a) (mag b) (by omega) (by omega) w
    generalize mag a * mag b / 18446744073709551616 = hi at *
    generalize mag a * mag b % 18446744073709551616 = lo at *
    have hi0 : (0 : Int) < hi := by omega
    clear hh HS HO
    go_enter Try.func46, Try.ntmps46
    go_wp2_with (first | (go_at_call 54; with_reducible refine (size_any _ (by assumption) (by assumption) _).mono ?_; rintro e w' ⟨rfl, rfl⟩) | (go_at_call 53; with_reducible refine (cm _).mono ?_; rintro e w' ⟨rfl, rfl⟩))
    go_ret2
    exact ⟨ret2_bool hv.out.1.symm hv.out.2.symm, rfl⟩

theorem tdiv_abs (a b : Int) (hb : b ≠ 0) : (a.tdiv b).natAbs = a.natAbs / b.natAbs := Int.natAbs_tdiv a b
theorem tdiv_room (a b : Int) (h1 : -9223372036854775808 ≤ a) (h2 : a ≤ 9223372036854775807) (hb : b ≠ 0) : rm (a.tdiv b) = true ↔ ¬ (a = -9223372036854775808 ∧ b = -1) := by
  rw [rm_iff]
  have ab := tdiv_abs a b hb
  by_cases h1' : b = 1
  · subst h1'; rw [Int.tdiv_one]; omega
  · by_cases hm1 : b = -1
    · subst hm1
      have e : a.tdiv (-1) = -a := by rw [Int.tdiv_neg, Int.tdiv_one]
      rw [e]; omega
    · have h2' : a.natAbs / b.natAbs ≤ a.natAbs / 2 := Nat.div_le_div_left (by omega) (by omega)
      constructor
      · omega
      · intro _; omega
end Go.Proofs.Ythdkkdgjcfjinaa.q
