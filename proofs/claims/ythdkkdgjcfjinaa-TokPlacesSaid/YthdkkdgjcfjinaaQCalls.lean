/- What each function of layer q answers, for all numbers of 64 bits: Add, Sub, Mul, Div, Mod, Sqrt, Clamp and their helpers; the world stays as it was. No condition beside the kinds' own bounds. -/
import Derived.Test.YthdkkdgjcfjinaaRows
import Derived.Test.YthdkkdgjcfjinaaQMath
import Derived.Test.YthdkkdgjcfjinaaShelf
import Derived.ProofKit
import Derived.OpenShut
import Derived.Lib.MinMax
import Derived.Lib.Hide
import Derived.WalkLawsBesides
namespace Go.Proofs.Ythdkkdgjcfjinaa.q
open Go.ChangeShapes Go.WideShapes Go.ChangeAt Go.RowKit
set_option linter.unusedVariables false

theorem ret2_int {k k' : IntKind} {a b c d : Int} (h : a = b) (h' : c = d) : Ending.returned (.tuple #[.int k a, .int k' c]) = .returned (.tuple #[.int k b, .int k' d]) := by rw [h, h']
theorem ret2_bool {k : IntKind} {a b : Int} {c d : Bool} (h : a = b) (h' : c = d) : Ending.returned (.tuple #[.int k a, .bool c]) = .returned (.tuple #[.int k b, .bool d]) := by rw [h, h']
theorem ret_int {k : IntKind} {a b : Int} (h : a = b) : Ending.returned (.int k a) = .returned (.int k b) := by rw [h]

theorem add_any (a b : Int) (h1 : -9223372036854775808 ≤ a) (h2 : a ≤ 9223372036854775807) (h3 : -9223372036854775808 ≤ b) (h4 : b ≤ 9223372036854775807) (w : World) :
    Calls Try.prog 47 #[.int .i64 a, .int .i64 b] w fun e w' => e = .returned (.tuple #[.int .i64 (addV a b), .bool (addB a b)]) ∧ w = w' := by
  have T := add_test a b h1 h2 h3 h4
  by_cases hr : rm (a + b) = true
  · have hn : ¬ bits .and .i64 (bits .xor .i64 a (wrap64 (a + b))) (bits .xor .i64 b (wrap64 (a + b))) < 0 := by rw [T]; simpa using hr
    have hv : Hid (addV a b = wrap64 (a + b) ∧ addB a b = true) := Lib.hid ⟨by rw [wrap_add _ hr]; exact rv_yes hr, hr⟩
    clear T hr
    go_enter Try.func47, Try.ntmps47
    go_wp2
    go_ret2
    exact ⟨ret2_bool hv.out.1.symm hv.out.2.symm, rfl⟩
  · have hn : bits .and .i64 (bits .xor .i64 a (wrap64 (a + b))) (bits .xor .i64 b (wrap64 (a + b))) < 0 := by rw [T]; exact hr
    have hv : Hid (addV a b = 0 ∧ addB a b = false) := Lib.hid ⟨rv_no hr, Bool.eq_false_iff.mpr hr⟩
    clear T hr
    go_enter Try.func47, Try.ntmps47
    go_wp2
    go_ret2
    exact ⟨ret2_bool hv.out.1.symm hv.out.2.symm, rfl⟩

theorem size_any (a : Int) (h1 : -9223372036854775808 ≤ a) (h2 : a ≤ 9223372036854775807) (w : World) :
    Calls Try.prog 54 #[.int .i64 a] w fun e w' => e = .returned (.int .u64 ((mag a : Nat) : Int)) ∧ w = w' := by
  by_cases hn : a < 0
  · have hv := Lib.hid (mag_neg a h1 hn)
    go_enter Try.func54, Try.ntmps54
    go_wp2
    go_ret
    exact ⟨ret_int hv.out, rfl⟩
  · go_enter Try.func54, Try.ntmps54
    go_wp2
    go_ret
    exact ⟨ret_int (by unfold mag; omega), rfl⟩

theorem unlike_any (a b : Int) (w : World) :
    Calls Try.prog 56 #[.int .i64 a, .int .i64 b] w fun e w' => e = .returned (.bool (neq a b)) ∧ w = w' := by
  go_enter Try.func56, Try.ntmps56
  go_wp2
  go_ret
  exact ⟨rfl, rfl⟩

/-- A size with a sign, where it has room; else 0 and false. -/
def sgV (n : Nat) (b : Bool) : Int := rv (sgn n b)
def sgB (n : Nat) (b : Bool) : Bool := rm (sgn n b)
theorem signed_any (n : Nat) (b : Bool) (hn : n < 18446744073709551616) (w : World) :
    Calls Try.prog 55 #[.int .u64 (n : Int), .bool b] w fun e w' => e = .returned (.tuple #[.int .i64 (sgV n b), .bool (sgB n b)]) ∧ w = w' := by
  cases b
  · by_cases hr : (n : Int) ≤ 9223372036854775807
    · have hv : Hid (sgV n false = (n : Int) ∧ sgB n false = true) := Lib.hid (by
        have : rm (n : Int) = true := by rw [rm_iff]; omega
        exact ⟨rv_yes this, this⟩)
      go_enter Try.func55, Try.ntmps55
      go_wp2
      go_ret2
      exact ⟨ret2_bool hv.out.1.symm hv.out.2.symm, rfl⟩
    · have hv : Hid (sgV n false = 0 ∧ sgB n false = false) := Lib.hid (by
        have : ¬ rm (n : Int) = true := by rw [rm_iff]; omega
        exact ⟨rv_no this, Bool.eq_false_iff.mpr this⟩)
      go_enter Try.func55, Try.ntmps55
      go_wp2
      go_ret2
      exact ⟨ret2_bool hv.out.1.symm hv.out.2.symm, rfl⟩
  · by_cases hr : (n : Int) ≤ 9223372036854775808
    · have hv : Hid (sgV n true = wrap64 (IntKind.u64.wrap (-n)) ∧ sgB n true = true) := Lib.hid (by
        have : rm (-(n : Int)) = true := by rw [rm_iff]; omega
        refine ⟨?_, this⟩
        show rv (-(n : Int)) = _
        rw [rv_yes this, IntKind.wrap_u64]; unfold wrap64; omega)
      go_enter Try.func55, Try.ntmps55
      go_wp2
      go_ret2
      exact ⟨ret2_bool hv.out.1.symm hv.out.2.symm, rfl⟩
    · have hv : Hid (sgV n true = 0 ∧ sgB n true = false) := Lib.hid (by
        have : ¬ rm (-(n : Int)) = true := by rw [rm_iff]; omega
        exact ⟨rv_no this, Bool.eq_false_iff.mpr this⟩)
      go_enter Try.func55, Try.ntmps55
      go_wp2
      go_ret2
      exact ⟨ret2_bool hv.out.1.symm hv.out.2.symm, rfl⟩

theorem maskN (a : Nat) (ha : a < 18446744073709551616) : bits .and .u64 (a : Int) 4294967295 = ((a % 4294967296 : Nat) : Int) := by
  have h := u64_and_nat a 4294967295 ha (by omega)
  rw [show a &&& 4294967295 = a % 4294967296 from Nat.and_two_pow_sub_one_eq_mod a 32] at h
  exact h
theorem wrapN (a : Nat) (ha : a < 18446744073709551616) : IntKind.u64.wrap (a : Int) = (a : Int) := by rw [IntKind.wrap_u64]; omega
theorem wrapM (a : Nat) : IntKind.u64.wrap (a : Int) = ((a % 18446744073709551616 : Nat) : Int) := by rw [IntKind.wrap_u64]; omega
end Go.Proofs.Ythdkkdgjcfjinaa.q
