/- The library's own contracts of math/bits.Mul64 and math/bits.LeadingZeros64, laid at this program: the upper and lower half of a product, and how many places a number can be moved up. -/
import Derived.Shelf.Small.Bits
import Derived.Shelf.Bits.Mul64
import Derived.Test.YthdkkdgjcfjinaaProg
namespace Go.Proofs.Ythdkkdgjcfjinaa.q
open Go.Shelf Go.RowKit Go.Lib
set_option linter.unusedVariables false
def renMul : Go.Shelf.Ren := ⟨fun | 264 => 53 | n => n, fun | 53 => 36 | 46 => 74 | n => n, fun | n => n⟩
theorem laysMul : Go.Proofs.Lays.n264 Try.prog renMul := {
  mixed := by kernel_rfl
  f264 := Try.func53.trans (congrArg some (by kernel_rfl))
  t46 := Try.underlying74
  a46 := Try.isAgg74
  z46 := Try.sizeOf74
  v46 := Try.zeroValue74
  t53 := Try.underlying36
  a53 := Try.isAgg36
  z53 := Try.sizeOf36
  v53 := Try.zeroValue36 }
theorem mul64_any (x y : Nat) (hx : x < 18446744073709551616) (hy : y < 18446744073709551616) (w : World) :
    Calls Try.prog 53 #[.int .u64 (x : Int), .int .u64 (y : Int)] w fun e w' => e = .returned (.tuple #[.int .u64 ((x * y / 18446744073709551616 : Nat) : Int), .int .u64 ((x * y % 18446744073709551616 : Nat) : Int)]) ∧ w = w' :=
  Calls.mono (Any.bits_Mul64 laysMul x y hx hy w) fun _ _ h => ⟨h.1, h.2.symm⟩

/-- how many bits a number takes -/
theorem bitLenAux_pos : ∀ (f x : Nat), 0 < x → x < 2 ^ f → 1 ≤ Lib.bitLenAux f x ∧ 2 ^ (Lib.bitLenAux f x - 1) ≤ x ∧ x < 2 ^ Lib.bitLenAux f x
  | 0, x, h, h2 => by simp at h2; omega
  | f + 1, x, h, h2 => by
    rw [Lib.bitLenAux, if_neg (by omega)]
    by_cases hx : x / 2 = 0
    · have : Lib.bitLenAux f (x / 2) = 0 := by
        rw [hx]; cases f <;> simp [Lib.bitLenAux]
      rw [this]; refine ⟨by omega, ?_, ?_⟩ <;> simp <;> omega
    · have ⟨a, b, c⟩ := bitLenAux_pos f (x / 2) (by omega) (by rw [Nat.pow_succ] at h2; omega)
      generalize Lib.bitLenAux f (x / 2) = n at *
      obtain ⟨m, rfl⟩ : ∃ m, n = m + 1 := ⟨n - 1, by omega⟩
      rw [show 1 + (m + 1) - 1 = m + 1 by omega, show 1 + (m + 1) = m + 1 + 1 by omega]
      rw [show m + 1 - 1 = m by omega] at b
      have e := Nat.pow_succ (n := 2) (m := m)
      have e' := Nat.pow_succ (n := 2) (m := m + 1)
      refine ⟨by omega, by omega, by omega⟩
/-- how many places a number can be moved up -/
def ups (x : Nat) : Nat := 64 - Lib.bitLen x
theorem ups_spec (x : Nat) (h : 0 < x) (h2 : x < 18446744073709551616) : ups x < 64 ∧ 9223372036854775808 ≤ x * 2 ^ ups x ∧ x * 2 ^ ups x < 18446744073709551616 := by
  have a := bitLenAux_pos 64 x h h2
  have b := Lib.bitLen_le x 64 (Nat.le_refl _) h2
  unfold ups
  show 64 - Lib.bitLen x < 64 ∧ _
  change 1 ≤ Lib.bitLen x ∧ 2 ^ (Lib.bitLen x - 1) ≤ x ∧ x < 2 ^ Lib.bitLen x at a
  generalize Lib.bitLen x = n at *
  have e1 : 2 ^ (n - 1) * 2 ^ (64 - n) = 9223372036854775808 := by rw [← Nat.pow_add, show n - 1 + (64 - n) = 63 by omega]
  have e2 : 2 ^ n * 2 ^ (64 - n) = 18446744073709551616 := by rw [← Nat.pow_add, show n + (64 - n) = 64 by omega]
  refine ⟨by omega, ?_, ?_⟩
  · rw [← e1]; exact Nat.mul_le_mul_right _ a.2.1
  · rw [← e2]; exact Nat.mul_lt_mul_of_pos_right a.2.2 (Nat.two_pow_pos _)
end Go.Proofs.Ythdkkdgjcfjinaa.q
