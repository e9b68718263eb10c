/- What layer q's Mul, Div and Mod answer, for all numbers of 64 bits. No condition beside the kinds' own bounds. -/
import Derived.Test.YtaohidaijlcplaaQCalls
import Derived.Deep.QuietTactic
import Derived.BigQuiet
namespace Go.Proofs.Ytaohidaijlcplaa.q
open Go.ChangeShapes Go.WideShapes Go.ChangeAt Go.RowKit
set_option linter.unusedVariables false

theorem tdiv_abs (a b : Int) (hb : b ≠ 0) : (a.tdiv b).natAbs = a.natAbs / b.natAbs := Int.natAbs_tdiv a b
theorem tdiv_room (a b : Int) (h1 : -9223372036854775808 ≤ a) (h2 : a ≤ 9223372036854775807) (hb : b ≠ 0) : rm (a.tdiv b) = true ↔ ¬ (a = -9223372036854775808 ∧ b = -1) := by
  rw [rm_iff]
  have ab := tdiv_abs a b hb
  by_cases h1' : b = 1
  · subst h1'; rw [Int.tdiv_one]; omega
  · by_cases hm1 : b = -1
    · subst hm1
      have e : a.tdiv (-1) = -a := by rw [Int.tdiv_neg, Int.tdiv_one]
      rw [e]; omega
    · have h2' : a.natAbs / b.natAbs ≤ a.natAbs / 2 := Nat.div_le_div_left (by omega) (by omega)
      constructor
      · omega
      · intro _; omega
theorem div64_small (x y : Nat) (hx : x < 18446744073709551616) (hy : y < 18446744073709551616) (hp : 0 < y) (w : World) :
    Calls Try.prog 30 #[.int .u64 0, .int .u64 (x : Int), .int .u64 (y : Int)] w fun e w' => e = .returned (.tuple #[.int .u64 ((x / y : Nat) : Int), .int .u64 ((x % y : Nat) : Int)]) ∧ ∃ k, w' = w.drewN k := by
  go_enter Try.func30, Try.ntmps30
  go_wp2
  go_quiet (fail)
  go_wp2
  go_ret2
  have hq : x / y ≤ x := Nat.div_le_self x y
  exact ⟨ret2_int (by rw [← Int.natCast_ediv]; exact wrapN _ (Nat.lt_of_le_of_lt hq hx)) (Int.natCast_emod x y).symm, ⟨_, rfl⟩⟩
end Go.Proofs.Ytaohidaijlcplaa.q
