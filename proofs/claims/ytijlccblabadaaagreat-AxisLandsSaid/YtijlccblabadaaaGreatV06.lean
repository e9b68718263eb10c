/- The library's own contracts of math/bits.Mul64 and math/bits.LeadingZeros64, laid at this program: the upper and lower half of a product, and how many places a number can be moved up. What each function of layer q answers, for all numbers of 64 bits: Add, Sub, Mul, Div, Mod, Sqrt, Clamp and their helpers; the world stays as it was. No condition beside the kinds' own bounds. Plain facts on numbers in four parts of 32 bits: what a sum, a difference, a comparison do part by part. No condition beyond what each line says. What servitorref01's sum answers: the sum of two numbers of four parts, with the first one's sign, where it has room in 128 bits. What servitorref01's less answers: the difference of two numbers of four parts, with the first one's sign, the first being no smaller. What servitorref01's cmp answers: -1, 0 or 1, as the first of two numbers of four parts stands to the second. What servitorref01's plus answers: two numbers with their signs together. What servitorref01's times answers: the product of two sizes below 2^64, with the product's sign. What servitorref01's of, turned and room answer: a number's four parts and its sign; the sign turned; the number again, where it has room. What servitorref01's Add, Sub and Mul answer, for all numbers of 64 bits: the sum, the difference, the product, where it has room. Plain facts on a quotient found bit by bit, and on five cells that hold a number of four parts. No condition beyond what each line says. What servitorref01's by answers: a quotient of two sizes and what is left, the second above 0 and at most 2^64. What layer q's Mul, Div and Mod answer, for all numbers of 64 bits. No condition beside the kinds' own bounds. Plain facts on a quotient of 128 bits by 64, found in two digits of 32 bits: the guess of a digit, how it is lowered, and what the two digits make. No condition beyond what each line says. What math/bits.Div64 answers, for every number of 128 bits by one of 64 bits that is above its upper half: quotient and rest. What layer q's MulDiv answers, for all numbers of 64 bits: the product by the third number, rounded down, where it has room; else the document's error. What layer q's Sqrt answers, for every number of 64 bits: the greatest number whose square is not above it, 0 below 0. No condition beside the kind's own bounds. The statements' fixed answers: MulDiv(-7, 3, 2) is -11, Add(1, 2) is 3, Sqrt(99) is 9. No condition. What servitorref01's Div, Mod and MulDiv answer, for all numbers of 64 bits. What servitorref01's MulDiv answers, for all numbers of 64 bits: the product by the third number, rounded down, where it has room; else the document's error. -/
import Derived.Shelf.Small.Bits
import Derived.Shelf.Bits.Mul64
import Derived.Test.YtijlccblabadaaaGreatProg
import Derived.Test.YtijlccblabadaaaGreatRows
import Derived.Test.YtijlccblabadaaaGreatU01
import Derived.ProofKit
import Derived.OpenShut
import Derived.Lib.MinMax
import Derived.Lib.Hide
import Derived.WalkLawsBesides
import Derived.Deep.QuietTactic
import Derived.BigQuiet
import Derived.Deep.Cut
import Derived.Deep.RegionWith
import Derived.Deep.RegionHeld3
section
namespace Go.Proofs.YtijlccblabadaaaGreat.q
open Go.Shelf Go.RowKit Go.Lib
set_option linter.unusedVariables false
def renLz : Go.Shelf.Ren := ⟨fun | 134 => 166 | 129 => 167 | n => n, fun | 53 => 112 | 3 => 3 | 4 => 4 | 46 => 132 | 5 => 5 | 9 => 9 | n => n, fun | n => n⟩
theorem laysLz : Go.Proofs.Lays.n134 Tryz.prog renLz := {
 mixed := by kernel_rfl
 f129 := Tryz.func167.trans (congrArg some (by kernel_rfl))
 f134 := Tryz.func166.trans (congrArg some (by kernel_rfl))
 t3 := Tryz.underlying3
 a3 := Tryz.isAgg3
 z3 := Tryz.sizeOf3
 v3 := Tryz.zeroValue3
 t4 := Tryz.underlying4
 a4 := Tryz.isAgg4
 z4 := Tryz.sizeOf4
 v4 := Tryz.zeroValue4
 t5 := Tryz.underlying5
 a5 := Tryz.isAgg5
 z5 := Tryz.sizeOf5
 v5 := Tryz.zeroValue5
 t9 := Tryz.underlying9
 a9 := Tryz.isAgg9
 z9 := Tryz.sizeOf9
 v9 := Tryz.zeroValue9
 t46 := Tryz.underlying132
 a46 := Tryz.isAgg132
 z46 := Tryz.sizeOf132
 v46 := Tryz.zeroValue132
 t53 := Tryz.underlying112
 a53 := Tryz.isAgg112
 z53 := Tryz.sizeOf112
 v53 := Tryz.zeroValue112 }
def renMul : Go.Shelf.Ren := ⟨fun | 264 => 140 | n => n, fun | 53 => 112 | 46 => 132 | n => n, fun | n => n⟩
theorem laysMul : Go.Proofs.Lays.n264 Tryz.prog renMul := {
 mixed := by kernel_rfl
 f264 := Tryz.func140.trans (congrArg some (by kernel_rfl))
 t46 := Tryz.underlying132
 a46 := Tryz.isAgg132
 z46 := Tryz.sizeOf132
 v46 := Tryz.zeroValue132
 t53 := Tryz.underlying112
 a53 := Tryz.isAgg112
 z53 := Tryz.sizeOf112
 v53 := Tryz.zeroValue112 }
theorem mul64_any (x y : Nat) (hx : x < 18446744073709551616) (hy : y < 18446744073709551616) (w : World) :
  Calls Tryz.prog 140 #[.int .u64 (x : Int), .int .u64 (y : Int)] w fun e w' => e = .returned (.tuple #[.int .u64 ((x * y / 18446744073709551616 : Nat) : Int), .int .u64 ((x * y % 18446744073709551616 : Nat) : Int)]) ∧ w = w' :=
 Calls.mono (Any.bits_Mul64 laysMul x y hx hy w) fun _ _ h => ⟨h.1, h.2.symm⟩
theorem bitLenAux_pos : ∀ (f x : Nat), 0 < x → x < 2 ^ f → 1 ≤ Lib.bitLenAux f x ∧ 2 ^ (Lib.bitLenAux f x - 1) ≤ x ∧ x < 2 ^ Lib.bitLenAux f x
 | 0, x, h, h2 => by simp at h2; omega
 | f + 1, x, h, h2 => by
  rw [Lib.bitLenAux, if_neg (by omega)]
  by_cases hx : x / 2 = 0
  ·have : Lib.bitLenAux f (x / 2) = 0 := by
    rw [hx]; cases f <;> simp [Lib.bitLenAux]
   rw [this]; refine ⟨by omega, ?_, ?_⟩ <;> simp <;> omega
  ·have ⟨a, b, c⟩ := bitLenAux_pos f (x / 2) (by omega) (by rw [Nat.pow_succ] at h2; omega)
   generalize Lib.bitLenAux f (x / 2) = n at *
   obtain ⟨m, rfl⟩ : ∃ m, n = m + 1 := ⟨n - 1, by omega⟩
   rw [show 1 + (m + 1) - 1 = m + 1 by omega, show 1 + (m + 1) = m + 1 + 1 by omega]
   rw [show m + 1 - 1 = m by omega] at b
   have e := Nat.pow_succ (n := 2) (m := m)
   have e' := Nat.pow_succ (n := 2) (m := m + 1)
   refine ⟨by omega, by omega, by omega⟩
def ups (x : Nat) : Nat := 64 - Lib.bitLen x
theorem ups_spec (x : Nat) (h : 0 < x) (h2 : x < 18446744073709551616) : ups x < 64 ∧ 9223372036854775808 ≤ x * 2 ^ ups x ∧ x * 2 ^ ups x < 18446744073709551616 := by
 have a := bitLenAux_pos 64 x h h2
 have b := Lib.bitLen_le x 64 (Nat.le_refl _) h2
 unfold ups
 show 64 - Lib.bitLen x < 64 ∧ _
 change 1 ≤ Lib.bitLen x ∧ 2 ^ (Lib.bitLen x - 1) ≤ x ∧ x < 2 ^ Lib.bitLen x at a
 generalize Lib.bitLen x = n at *
 have e1 : 2 ^ (n - 1) * 2 ^ (64 - n) = 9223372036854775808 := by rw [← Nat.pow_add, show n - 1 + (64 - n) = 63 by omega]
 have e2 : 2 ^ n * 2 ^ (64 - n) = 18446744073709551616 := by rw [← Nat.pow_add, show n + (64 - n) = 64 by omega]
 refine ⟨by omega, ?_, ?_⟩
 ·rw [← e1]; exact Nat.mul_le_mul_right _ a.2.1
 ·rw [← e2]; exact Nat.mul_lt_mul_of_pos_right a.2.2 (Nat.two_pow_pos _)
theorem lz_any (x : Nat) (hx : x < 18446744073709551616) (w : World) :
  Calls Tryz.prog 166 #[.int .u64 (x : Int)] w fun e w' => e = .returned (.int .i64 ((ups x : Nat) : Int)) ∧ w = w' :=
 Calls.mono (Any.bits_LeadingZeros64 laysLz (x : Int) w (by omega) (by omega)) fun _ _ h => ⟨by
  rw [h.1]
  have b := Lib.bitLen_le x 64 (Nat.le_refl _) hx
  unfold ups
  rw [show ((x : Int)).toNat = x from Int.toNat_natCast x]
  congr 2
  omega, h.2.symm⟩
end Go.Proofs.YtijlccblabadaaaGreat.q
end
section
namespace Go.Proofs.YtijlccblabadaaaGreat.q
set_option maxRecDepth 100000
open Go.ChangeShapes Go.WideShapes Go.ChangeAt Go.RowKit
set_option linter.unusedVariables false
theorem ret2_int {k k' : IntKind} {a b c d : Int} (h : a = b) (h' : c = d) : Ending.returned (.tuple #[.int k a, .int k' c]) = .returned (.tuple #[.int k b, .int k' d]) := by rw [h, h']
theorem ret2_bool {k : IntKind} {a b : Int} {c d : Bool} (h : a = b) (h' : c = d) : Ending.returned (.tuple #[.int k a, .bool c]) = .returned (.tuple #[.int k b, .bool d]) := by rw [h, h']
theorem ret_int {k : IntKind} {a b : Int} (h : a = b) : Ending.returned (.int k a) = .returned (.int k b) := by rw [h]
theorem add_any (a b : Int) (h1 : -9223372036854775808 ≤ a) (h2 : a ≤ 9223372036854775807) (h3 : -9223372036854775808 ≤ b) (h4 : b ≤ 9223372036854775807) (w : World) :
  Calls Tryz.prog 121 #[.int .i64 a, .int .i64 b] w fun e w' => e = .returned (.tuple #[.int .i64 (addV a b), .bool (addB a b)]) ∧ w = w' := by
 have T := add_test a b h1 h2 h3 h4
 by_cases hr : rm (a + b) = true
 ·have hn : ¬ bits .and .i64 (bits .xor .i64 a (wrap64 (a + b))) (bits .xor .i64 b (wrap64 (a + b))) < 0 := by rw [T]; simpa using hr
  have hv : Hid (addV a b = wrap64 (a + b) ∧ addB a b = true) := Lib.hid ⟨by rw [wrap_add _ hr]; exact rv_yes hr, hr⟩
  clear T hr
  go_enter Tryz.func121, Tryz.ntmps121
  go_wp2
  go_ret2
  exact ⟨ret2_bool hv.out.1.symm hv.out.2.symm, rfl⟩
 ·have hn : bits .and .i64 (bits .xor .i64 a (wrap64 (a + b))) (bits .xor .i64 b (wrap64 (a + b))) < 0 := by rw [T]; exact hr
  have hv : Hid (addV a b = 0 ∧ addB a b = false) := Lib.hid ⟨rv_no hr, Bool.eq_false_iff.mpr hr⟩
  clear T hr
  go_enter Tryz.func121, Tryz.ntmps121
  go_wp2
  go_ret2
  exact ⟨ret2_bool hv.out.1.symm hv.out.2.symm, rfl⟩
theorem sub_any (a b : Int) (h1 : -9223372036854775808 ≤ a) (h2 : a ≤ 9223372036854775807) (h3 : -9223372036854775808 ≤ b) (h4 : b ≤ 9223372036854775807) (w : World) :
  Calls Tryz.prog 93 #[.int .i64 a, .int .i64 b] w fun e w' => e = .returned (.tuple #[.int .i64 (subV a b), .bool (subB a b)]) ∧ w = w' := by
 have T := sub_test a b h1 h2 h3 h4
 by_cases hr : rm (a - b) = true
 ·have hn : ¬ bits .and .i64 (bits .xor .i64 a b) (bits .xor .i64 a (wrap64 (a - b))) < 0 := by rw [T]; simpa using hr
  have hv : Hid (subV a b = wrap64 (a - b) ∧ subB a b = true) := Lib.hid ⟨by rw [wrap_add _ hr]; exact rv_yes hr, hr⟩
  clear T hr
  go_enter Tryz.func93, Tryz.ntmps93
  go_wp2
  go_ret2
  exact ⟨ret2_bool hv.out.1.symm hv.out.2.symm, rfl⟩
 ·have hn : bits .and .i64 (bits .xor .i64 a b) (bits .xor .i64 a (wrap64 (a - b))) < 0 := by rw [T]; exact hr
  have hv : Hid (subV a b = 0 ∧ subB a b = false) := Lib.hid ⟨rv_no hr, Bool.eq_false_iff.mpr hr⟩
  clear T hr
  go_enter Tryz.func93, Tryz.ntmps93
  go_wp2
  go_ret2
  exact ⟨ret2_bool hv.out.1.symm hv.out.2.symm, rfl⟩
theorem size_any (a : Int) (h1 : -9223372036854775808 ≤ a) (h2 : a ≤ 9223372036854775807) (w : World) :
  Calls Tryz.prog 159 #[.int .i64 a] w fun e w' => e = .returned (.int .u64 ((mag a : Nat) : Int)) ∧ w = w' := by
 by_cases hn : a < 0
 ·have hv := Lib.hid (mag_neg a h1 hn)
  go_enter Tryz.func159, Tryz.ntmps159
  go_wp2
  go_ret
  exact ⟨ret_int hv.out, rfl⟩
 ·go_enter Tryz.func159, Tryz.ntmps159
  go_wp2
  go_ret
  exact ⟨ret_int (by unfold mag; omega), rfl⟩
theorem unlike_any (a b : Int) (w : World) :
  Calls Tryz.prog 161 #[.int .i64 a, .int .i64 b] w fun e w' => e = .returned (.bool (neq a b)) ∧ w = w' := by
 go_enter Tryz.func161, Tryz.ntmps161
 go_wp2
 go_ret
 exact ⟨rfl, rfl⟩
def sgV (n : Nat) (b : Bool) : Int := rv (sgn n b)
def sgB (n : Nat) (b : Bool) : Bool := rm (sgn n b)
theorem signed_any (n : Nat) (b : Bool) (hn : n < 18446744073709551616) (w : World) :
  Calls Tryz.prog 162 #[.int .u64 (n : Int), .bool b] w fun e w' => e = .returned (.tuple #[.int .i64 (sgV n b), .bool (sgB n b)]) ∧ w = w' := by
 cases b
 ·by_cases hr : (n : Int) ≤ 9223372036854775807
  ·have hv : Hid (sgV n false = (n : Int) ∧ sgB n false = true) := Lib.hid (by
    have : rm (n : Int) = true := by rw [rm_iff]; omega
    exact ⟨rv_yes this, this⟩)
   go_enter Tryz.func162, Tryz.ntmps162
   go_wp2
   go_ret2
   exact ⟨ret2_bool hv.out.1.symm hv.out.2.symm, rfl⟩
  ·have hv : Hid (sgV n false = 0 ∧ sgB n false = false) := Lib.hid (by
    have : ¬ rm (n : Int) = true := by rw [rm_iff]; omega
    exact ⟨rv_no this, Bool.eq_false_iff.mpr this⟩)
   go_enter Tryz.func162, Tryz.ntmps162
   go_wp2
   go_ret2
   exact ⟨ret2_bool hv.out.1.symm hv.out.2.symm, rfl⟩
 ·by_cases hr : (n : Int) ≤ 9223372036854775808
  ·have hv : Hid (sgV n true = wrap64 (IntKind.u64.wrap (-n)) ∧ sgB n true = true) := Lib.hid (by
    have : rm (-(n : Int)) = true := by rw [rm_iff]; omega
    refine ⟨?_, this⟩
    show rv (-(n : Int)) = _
    rw [rv_yes this, IntKind.wrap_u64]; unfold wrap64; omega)
   go_enter Tryz.func162, Tryz.ntmps162
   go_wp2
   go_ret2
   exact ⟨ret2_bool hv.out.1.symm hv.out.2.symm, rfl⟩
  ·have hv : Hid (sgV n true = 0 ∧ sgB n true = false) := Lib.hid (by
    have : ¬ rm (-(n : Int)) = true := by rw [rm_iff]; omega
    exact ⟨rv_no this, Bool.eq_false_iff.mpr this⟩)
   go_enter Tryz.func162, Tryz.ntmps162
   go_wp2
   go_ret2
   exact ⟨ret2_bool hv.out.1.symm hv.out.2.symm, rfl⟩
theorem clamp_any (n lo hi : Int) (w : World) :
  Calls Tryz.prog 42 #[.int .i64 n, .int .i64 lo, .int .i64 hi] w fun e w' => e = .returned (.int .i64 (clampV n lo hi)) ∧ w = w' := by
 go_enter Tryz.func42, Tryz.ntmps42
 go_wp2
 go_ret
 exact ⟨rfl, rfl⟩
theorem maskN (a : Nat) (ha : a < 18446744073709551616) : bits .and .u64 (a : Int) 4294967295 = ((a % 4294967296 : Nat) : Int) := by
 have h := u64_and_nat a 4294967295 ha (by omega)
 rw [show a &&& 4294967295 = a % 4294967296 from Nat.and_two_pow_sub_one_eq_mod a 32] at h
 exact h
theorem wrapN (a : Nat) (ha : a < 18446744073709551616) : IntKind.u64.wrap (a : Int) = (a : Int) := by rw [IntKind.wrap_u64]; omega
theorem wrapM (a : Nat) : IntKind.u64.wrap (a : Int) = ((a % 18446744073709551616 : Nat) : Int) := by rw [IntKind.wrap_u64]; omega
end Go.Proofs.YtijlccblabadaaaGreat.q
end
section
namespace Go.Proofs.YtijlccblabadaaaGreat.r
set_option linter.unusedVariables false
def val (l0 l1 l2 l3 : Int) : Int := l0 + 4294967296 * (l1 + 4294967296 * (l2 + 4294967296 * l3))
structure Lim (l0 l1 l2 l3 : Int) : Prop where
 p0 : 0 ≤ l0
 q0 : l0 < 4294967296
 p1 : 0 ≤ l1
 q1 : l1 < 4294967296
 p2 : 0 ≤ l2
 q2 : l2 < 4294967296
 p3 : 0 ≤ l3
 q3 : l3 < 4294967296
def IsW (N : Int) (m : Bool) (v : Value) : Prop := ∃ l0 l1 l2 l3 : Int, v = .agg #[.int .u64 l0, .int .u64 l1, .int .u64 l2, .int .u64 l3, .bool m] ∧ Lim l0 l1 l2 l3 ∧ val l0 l1 l2 l3 = N
def top : Int := 340282366920938463463374607431768211456
structure Carry (x s c : Int) : Prop where
 e : x = s + 4294967296 * c
 s0 : 0 ≤ s
 s1 : s < 4294967296
 c0 : 0 ≤ c
 c1 : c ≤ 1
def cmpV (A B : Int) : Int := if A < B then -1 else if B < A then 1 else 0
end Go.Proofs.YtijlccblabadaaaGreat.r
end
section
namespace Go.Proofs.YtijlccblabadaaaGreat.r
open Go.ChangeShapes Go.WideShapes Go.ChangeAt Go.RowKit Go.Proofs.YtijlccblabadaaaGreat.q
set_option linter.unusedVariables false
def WPost (N : Int) (m : Bool) (w : World) (e : Ending) (w' : World) : Prop := ∃ v, e = .returned v ∧ IsW N m v ∧ Below w.heap.size w w'
end Go.Proofs.YtijlccblabadaaaGreat.r
end
section
namespace Go.Proofs.YtijlccblabadaaaGreat.r
open Go.ChangeShapes Go.WideShapes Go.ChangeAt Go.RowKit Go.Proofs.YtijlccblabadaaaGreat.q
set_option linter.unusedVariables false
end Go.Proofs.YtijlccblabadaaaGreat.r
end
section
namespace Go.Proofs.YtijlccblabadaaaGreat.r
open Go.ChangeShapes Go.WideShapes Go.ChangeAt Go.RowKit Go.Proofs.YtijlccblabadaaaGreat.q
set_option linter.unusedVariables false
end Go.Proofs.YtijlccblabadaaaGreat.r
end
section
namespace Go.Proofs.YtijlccblabadaaaGreat.r
open Go.ChangeShapes Go.WideShapes Go.ChangeAt Go.RowKit Go.Proofs.YtijlccblabadaaaGreat.q
set_option linter.unusedVariables false
end Go.Proofs.YtijlccblabadaaaGreat.r
end
section
namespace Go.Proofs.YtijlccblabadaaaGreat.r
open Go.ChangeShapes Go.WideShapes Go.ChangeAt Go.RowKit Go.Proofs.YtijlccblabadaaaGreat.q
set_option linter.unusedVariables false
end Go.Proofs.YtijlccblabadaaaGreat.r
end
section
namespace Go.Proofs.YtijlccblabadaaaGreat.r
open Go.ChangeShapes Go.WideShapes Go.ChangeAt Go.RowKit Go.Proofs.YtijlccblabadaaaGreat.q
set_option linter.unusedVariables false
end Go.Proofs.YtijlccblabadaaaGreat.r
end
section
namespace Go.Proofs.YtijlccblabadaaaGreat.r
open Go.ChangeShapes Go.WideShapes Go.ChangeAt Go.RowKit Go.Proofs.YtijlccblabadaaaGreat.q
set_option linter.unusedVariables false
def plusN (A : Int) (ma : Bool) (B : Int) (mb : Bool) : Int := if ma = mb then A + B else if B ≤ A then A - B else B - A
def plusM (A : Int) (ma : Bool) (B : Int) (mb : Bool) : Bool := if ma = mb then ma else if B ≤ A then ma else mb
end Go.Proofs.YtijlccblabadaaaGreat.r
end
section
namespace Go.Proofs.YtijlccblabadaaaGreat.r
set_option maxRecDepth 100000
open Go.ChangeShapes Go.WideShapes Go.ChangeAt Go.RowKit Go.Proofs.YtijlccblabadaaaGreat.q
set_option linter.unusedVariables false
structure Blk (w : World) (b : Nat) (x0 x1 x2 x3 x4 : Value) : Prop where
 c0 : w.cell? ⟨b, 0, none⟩ = some x0
 c1 : w.cell? ⟨b, 1, none⟩ = some x1
 c2 : w.cell? ⟨b, 2, none⟩ = some x2
 c3 : w.cell? ⟨b, 3, none⟩ = some x3
 c4 : w.cell? ⟨b, 4, none⟩ = some x4
 f : ∀ o, w.frozen? ⟨b, o, none⟩ = false
def part (a0 a1 a2 a3 : Int) (c : Nat) : Int := if c = 0 then a0 else if c = 1 then a1 else if c = 2 then a2 else a3
end Go.Proofs.YtijlccblabadaaaGreat.r
end
section
namespace Go.Proofs.YtijlccblabadaaaGreat.r
set_option maxRecDepth 100000
open Go.ChangeShapes Go.WideShapes Go.ChangeAt Go.RowKit Go.Proofs.YtijlccblabadaaaGreat.q
set_option linter.unusedVariables false
structure ByAt (A B : Int) (b : Nat) (a0 a1 a2 a3 : Int) (ma : Bool) (b0 b1 b2 b3 : Int) (mb : Bool) (j : Nat) (q0 q1 q2 q3 r0 r1 r2 r3 : Int) (w wr : World) : Prop where
 hA : Blk wr b (.int .u64 a0) (.int .u64 a1) (.int .u64 a2) (.int .u64 a3) (.bool ma)
 hB : Blk wr (b + 1) (.int .u64 b0) (.int .u64 b1) (.int .u64 b2) (.int .u64 b3) (.bool mb)
 hE : Blk wr (b + 1 + 1) (.int .u64 0) (.int .u64 0) (.int .u64 0) (.int .u64 0) (.bool false)
 hF : Blk wr (b + 1 + 1 + 1) (.int .u64 0) (.int .u64 0) (.int .u64 0) (.int .u64 0) (.bool false)
 hQ : Blk wr (b + 1 + 1 + 1 + 1) (.int .u64 q0) (.int .u64 q1) (.int .u64 q2) (.int .u64 q3) (.bool false)
 hR : Blk wr (b + 1 + 1 + 1 + 1 + 1) (.int .u64 r0) (.int .u64 r1) (.int .u64 r2) (.int .u64 r3) (.bool false)
 z : b + 1 + 1 + 1 + 1 + 1 < wr.heap.size
 k : Below b w wr
 lq : Lim q0 q1 q2 q3
 lr : Lim r0 r1 r2 r3
 eq : (val q0 q1 q2 q3).toNat = A.toNat / 2 ^ j / B.toNat
 er : (val r0 r1 r2 r3).toNat = A.toNat / 2 ^ j % B.toNat
end Go.Proofs.YtijlccblabadaaaGreat.r
end
section
namespace Go.Proofs.YtijlccblabadaaaGreat.q
set_option maxRecDepth 100000
open Go.ChangeShapes Go.WideShapes Go.ChangeAt Go.RowKit
set_option linter.unusedVariables false
theorem div64_small (x y : Nat) (hx : x < 18446744073709551616) (hy : y < 18446744073709551616) (hp : 0 < y) (w : World) :
  Calls Tryz.prog 160 #[.int .u64 0, .int .u64 (x : Int), .int .u64 (y : Int)] w fun e w' => e = .returned (.tuple #[.int .u64 ((x / y : Nat) : Int), .int .u64 ((x % y : Nat) : Int)]) ∧ ∃ k, w' = w.drewN k := by
 go_enter Tryz.func160, Tryz.ntmps160
 go_wp2
 go_quiet (fail)
 go_wp2
 go_ret2
 have hq : x / y ≤ x := Nat.div_le_self x y
 exact ⟨ret2_int (by rw [← Int.natCast_ediv]; exact wrapN _ (Nat.lt_of_le_of_lt hq hx)) (Int.natCast_emod x y).symm, ⟨_, rfl⟩⟩
end Go.Proofs.YtijlccblabadaaaGreat.q
end
section
namespace Go.Proofs.YtijlccblabadaaaGreat.q
set_option maxRecDepth 100000
def dig (u u1 Y : Nat) : Nat := (u * 4294967296 + u1) / Y
def rst (u u1 Y : Nat) : Nat := (u * 4294967296 + u1) % Y
def Guess (u u1 y1 y0 q r : Nat) : Prop := q * y1 + r = u ∧ dig u u1 (y1 * 4294967296 + y0) ≤ q ∧ q ≤ 4294967297 ∧ r < 4294967296
theorem mulY (q y1 y0 : Nat) : q * (y1 * 4294967296 + y0) = q * y1 * 4294967296 + q * y0 := by rw [Nat.mul_add, Nat.mul_assoc]
theorem dig_lt (u u1 Y : Nat) (hu : u < Y) (h1 : u1 < 4294967296) : dig u u1 Y < 4294967296 := by
 unfold dig
 apply Nat.div_lt_of_lt_mul
 have : (u + 1) * 4294967296 ≤ Y * 4294967296 := Nat.mul_le_mul_right _ hu
 omega
theorem guess_init (u u1 y1 y0 : Nat) (hu : u < y1 * 4294967296 + y0) (h1 : u1 < 4294967296) (hy0 : y0 < 4294967296) (hy1 : 2147483648 ≤ y1) (hy1' : y1 < 4294967296) :
  Guess u u1 y1 y0 (u / y1) (u % y1) := by
 have hp : 0 < y1 := by omega
 refine ⟨Nat.div_add_mod' u y1, ?_, ?_, Nat.lt_trans (Nat.mod_lt u hp) hy1'⟩
 ·rw [Nat.le_div_iff_mul_le hp]
  have a := Nat.div_mul_le_self (u * 4294967296 + u1) (y1 * 4294967296 + y0)
  have b := mulY (dig u u1 (y1 * 4294967296 + y0)) y1 y0
  unfold dig at *
  omega
 ·have : u / y1 < 4294967298 := by
   apply Nat.div_lt_of_lt_mul
   rw [show (4294967298 : Nat) = 4294967296 + 2 from rfl, Nat.mul_add]
   have h : 4294967296 ≤ y1 * 2 := Nat.mul_le_mul_right 2 hy1
   clear hy1 hy1' hp
   generalize y1 * 2 = B at *
   generalize y1 * 4294967296 = A at *
   omega
  omega
theorem guess_stop (u u1 y1 y0 q r : Nat) (hp : 0 < y1) (g : Guess u u1 y1 y0 q r) (hc : q * y0 ≤ 4294967296 * r + u1) : q = dig u u1 (y1 * 4294967296 + y0) := by
 obtain ⟨a, b, c, d⟩ := g
 have : q ≤ dig u u1 (y1 * 4294967296 + y0) := by
  unfold dig
  rw [Nat.le_div_iff_mul_le (by omega), mulY]
  omega
 omega
theorem guess_high (u u1 y1 y0 q r : Nat) (g : Guess u u1 y1 y0 q r) (hu : u < y1 * 4294967296 + y0) (h1 : u1 < 4294967296)
  (hc : 4294967296 ≤ q ∨ 4294967296 * r + u1 < q * y0) : dig u u1 (y1 * 4294967296 + y0) ≤ q - 1 ∧ 1 ≤ q := by
 obtain ⟨a, b, c, d⟩ := g
 have hl := dig_lt u u1 (y1 * 4294967296 + y0) hu h1
 have : dig u u1 (y1 * 4294967296 + y0) < q := by
  rcases hc with h | h
  ·omega
  ·unfold dig
   rw [Nat.div_lt_iff_lt_mul (by omega), mulY]
   omega
 omega
theorem guess_next (u u1 y1 y0 q r : Nat) (g : Guess u u1 y1 y0 q r) (hu : u < y1 * 4294967296 + y0) (h1 : u1 < 4294967296)
  (hc : 4294967296 ≤ q ∨ 4294967296 * r + u1 < q * y0) (hr : r + y1 < 4294967296) : Guess u u1 y1 y0 (q - 1) (r + y1) := by
 have h := guess_high u u1 y1 y0 q r g hu h1 hc
 obtain ⟨a, b, c, d⟩ := g
 refine ⟨?_, h.1, by omega, hr⟩
 have : q * y1 = (q - 1) * y1 + y1 := by rw [← Nat.succ_mul]; congr 1; omega
 omega
theorem guess_break (u u1 y1 y0 q r : Nat) (hp : 0 < y1) (g : Guess u u1 y1 y0 q r) (hu : u < y1 * 4294967296 + y0) (h1 : u1 < 4294967296) (hy0 : y0 < 4294967296)
  (hc : 4294967296 ≤ q ∨ 4294967296 * r + u1 < q * y0) (hr : 4294967296 ≤ r + y1) : q - 1 = dig u u1 (y1 * 4294967296 + y0) := by
 have h := guess_high u u1 y1 y0 q r g hu h1 hc
 obtain ⟨a, b, c, d⟩ := g
 have e : q * y1 = (q - 1) * y1 + y1 := by rw [← Nat.succ_mul]; congr 1; omega
 have m : (q - 1) * y0 ≤ 4294967296 * 4294967295 := Nat.mul_le_mul (by omega) (by omega)
 have : q - 1 ≤ dig u u1 (y1 * 4294967296 + y0) := by
  unfold dig
  rw [Nat.le_div_iff_mul_le (by omega), mulY]
  omega
 omega
theorem rest_is (u u1 Y : Nat) : u * 4294967296 + u1 = dig u u1 Y * Y + rst u u1 Y := by
 unfold dig rst; exact (Nat.div_add_mod' _ _).symm
theorem two_digits (u a b Y : Nat) (hY : 0 < Y) : dig u a Y * 4294967296 + dig (rst u a Y) b Y = (u * 18446744073709551616 + (a * 4294967296 + b)) / Y ∧
  rst (rst u a Y) b Y = (u * 18446744073709551616 + (a * 4294967296 + b)) % Y := by
 have e1 := rest_is u a Y
 have e2 := rest_is (rst u a Y) b Y
 have l2 : rst (rst u a Y) b Y < Y := Nat.mod_lt _ hY
 have e : u * 18446744073709551616 + (a * 4294967296 + b) = Y * (dig u a Y * 4294967296 + dig (rst u a Y) b Y) + rst (rst u a Y) b Y := by
  generalize dig u a Y = q1 at *
  generalize rst u a Y = r1 at *
  generalize dig r1 b Y = q0 at *
  generalize rst r1 b Y = r0 at *
  have e3 : (u * 4294967296 + a) * 4294967296 = u * 18446744073709551616 + a * 4294967296 := by rw [Nat.add_mul, Nat.mul_assoc]
  have e4 : (q1 * Y + r1) * 4294967296 = q1 * 4294967296 * Y + r1 * 4294967296 := by rw [Nat.add_mul, Nat.mul_right_comm]
  rw [Nat.mul_comm Y, Nat.add_mul, ← Nat.add_assoc, ← e3, e1, e4, Nat.add_assoc, e2, Nat.add_assoc]
 rw [e]
 generalize dig u a Y * 4294967296 + dig (rst u a Y) b Y = q
 generalize rst (rst u a Y) b Y = r at *
 exact ⟨by rw [Nat.mul_add_div hY, Nat.div_eq_of_lt l2]; omega, by rw [Nat.mul_add_mod, Nat.mod_eq_of_lt l2]⟩
theorem up_split (hi lo s : Nat) (hs : s ≤ 64) :
  (hi * 18446744073709551616 + lo) * 2 ^ s = (hi * 2 ^ s + lo / 2 ^ (64 - s)) * 18446744073709551616 + lo * 2 ^ s % 18446744073709551616 := by
 have e64 : 2 ^ (64 - s) * 2 ^ s = 18446744073709551616 := by rw [← Nat.pow_add, show 64 - s + s = 64 by omega]
 have d : lo * 2 ^ s / 18446744073709551616 = lo / 2 ^ (64 - s) := by
  rw [← e64, Nat.mul_div_mul_right _ _ (Nat.two_pow_pos s)]
 have m := Nat.div_add_mod' (lo * 2 ^ s) 18446744073709551616
 rw [d] at m
 rw [Nat.add_mul, Nat.mul_right_comm, Nat.add_mul (hi * 2 ^ s), Nat.add_assoc, m]
theorem up_quot (N y s : Nat) : N * 2 ^ s / (y * 2 ^ s) = N / y := Nat.mul_div_mul_right _ _ (Nat.two_pow_pos s)
theorem up_rest (N y s : Nat) : N * 2 ^ s % (y * 2 ^ s) / 2 ^ s = N % y := by
 rw [Nat.mul_mod_mul_right, Nat.mul_div_cancel _ (Nat.two_pow_pos s)]
end Go.Proofs.YtijlccblabadaaaGreat.q
end
section
namespace Go.Proofs.YtijlccblabadaaaGreat.q
set_option maxRecDepth 100000
open Go.ChangeShapes Go.WideShapes Go.ChangeAt Go.RowKit
set_option linter.unusedVariables false
theorem digit_start (u u1 y1 y0 : Int) (hu0 : 0 ≤ u) (bu : u < y1 * 4294967296 + y0) (b1 : y1 < 4294967296) (b1' : 2147483648 ≤ y1) (b0 : y0 < 4294967296) (b0' : 0 ≤ y0) (bu1 : u1 < 4294967296) (bu1' : 0 ≤ u1) :
  ∃ q0 p0 r0 : Int, (u / y1 = q0 ∧ u.tdiv y1 = q0) ∧ q0 * y1 = p0 ∧ u - p0 = r0 ∧ 0 ≤ q0 ∧ q0 ≤ 4294967297 ∧ (0 ≤ p0 ∧ p0 < 18446744073709551616) ∧ 0 ≤ r0 ∧ r0 < 4294967296 ∧ Hid (Guess u.toNat u1.toNat y1.toNat y0.toNat q0.toNat r0.toNat) := by
 have g := guess_init u.toNat u1.toNat y1.toNat y0.toNat (by omega) (by omega) (by omega) (by omega) (by omega)
 have e1 : u / y1 = ((u.toNat / y1.toNat : Nat) : Int) := by
  rw [Int.natCast_ediv, Int.toNat_of_nonneg hu0, Int.toNat_of_nonneg (by omega)]
 have e2 : ((u.toNat / y1.toNat : Nat) : Int) * y1 = ((u.toNat / y1.toNat * y1.toNat : Nat) : Int) := by
  rw [Int.natCast_mul, Int.toNat_of_nonneg (a := y1) (by omega)]
 have e3 := Nat.div_add_mod' u.toNat y1.toNat
 refine ⟨_, _, _, ⟨e1, by rw [Int.tdiv_eq_ediv_of_nonneg hu0]; exact e1⟩, e2, rfl, ?_⟩
 have h := g.2.2
 have e4 : u - ((u.toNat / y1.toNat * y1.toNat : Nat) : Int) = ((u.toNat % y1.toNat : Nat) : Int) := by
  generalize u.toNat / y1.toNat * y1.toNat = p at *
  generalize u.toNat % y1.toNat = r at *
  omega
 rw [e4, Int.toNat_natCast, Int.toNat_natCast]
 generalize u.toNat / y1.toNat * y1.toNat = p at *
 generalize u.toNat % y1.toNat = r at *
 generalize u.toNat / y1.toNat = q at *
 exact ⟨by omega, by omega, ⟨by omega, by omega⟩, by omega, by omega, Lib.hid g⟩
theorem digit_prod (q y0 : Int) (gq' : 0 ≤ q) (gq : q ≤ 4294967297) (b0 : y0 < 4294967296) (b0' : 0 ≤ y0) :
  IntKind.u64.wrap (q * y0) = ((q.toNat * y0.toNat : Nat) : Int) := by
 have bB : q.toNat * y0.toNat < 18446744073709551616 := Nat.lt_of_le_of_lt (Nat.mul_le_mul (show q.toNat ≤ 4294967297 by omega) (show y0.toNat ≤ 4294967295 by omega)) (by omega)
 have := wrapN _ bB
 rw [Int.natCast_mul, Int.toNat_of_nonneg gq', Int.toNat_of_nonneg b0'] at this
 rw [this, Int.natCast_mul, Int.toNat_of_nonneg gq', Int.toNat_of_nonneg b0']
theorem digit_down (u u1 y1 y0 q r B : Int) (bu : u < y1 * 4294967296 + y0) (hu0 : 0 ≤ u) (b1' : 2147483648 ≤ y1) (b0 : y0 < 4294967296) (b0' : 0 ≤ y0) (bu1 : u1 < 4294967296) (bu1' : 0 ≤ u1) (gq' : 0 ≤ q) (gr' : 0 ≤ r)
  (g : Guess u.toNat u1.toNat y1.toNat y0.toNat q.toNat r.toNat) (hB : B = ((q.toNat * y0.toNat : Nat) : Int)) (hc : 4294967296 ≤ q ∨ 4294967296 * r + u1 < B) :
  1 ≤ q ∧ (r + y1 < 4294967296 → Guess u.toNat u1.toNat y1.toNat y0.toNat (q - 1).toNat (r + y1).toNat) ∧
   (¬ r + y1 < 4294967296 → ((dig u.toNat u1.toNat (y1.toNat * 4294967296 + y0.toNat) : Nat) : Int) + 1 = q) := by
 have hcn : 4294967296 ≤ q.toNat ∨ 4294967296 * r.toNat + u1.toNat < q.toNat * y0.toNat := by omega
 have bun : u.toNat < y1.toNat * 4294967296 + y0.toNat := by omega
 have hp := (guess_high u.toNat u1.toNat y1.toNat y0.toNat q.toNat r.toNat g bun (by omega) hcn).2
 refine ⟨by omega, fun hr => ?_, fun hr => ?_⟩
 ·have := guess_next u.toNat u1.toNat y1.toNat y0.toNat q.toNat r.toNat g bun (by omega) hcn (by omega)
  rw [show (q - 1).toNat = q.toNat - 1 by omega, show (r + y1).toNat = r.toNat + y1.toNat by omega]
  exact this
 ·have := guess_break u.toNat u1.toNat y1.toNat y0.toNat q.toNat r.toNat (by omega) g bun (by omega) (by omega) hcn (by omega)
  omega
theorem digit_stop (u u1 y1 y0 q r B : Int) (b1' : 2147483648 ≤ y1) (bu1' : 0 ≤ u1) (gq' : 0 ≤ q) (gr' : 0 ≤ r)
  (g : Guess u.toNat u1.toNat y1.toNat y0.toNat q.toNat r.toNat) (hB : B = ((q.toNat * y0.toNat : Nat) : Int)) (hc : ¬ (4294967296 ≤ q ∨ 4294967296 * r + u1 < B)) :
  ((dig u.toNat u1.toNat (y1.toNat * 4294967296 + y0.toNat) : Nat) : Int) = q := by
 have := guess_stop u.toNat u1.toNat y1.toNat y0.toNat q.toNat r.toNat (by omega) g (by omega)
 omega
theorem digit_rest (u u1 Y : Int) (hu0 : 0 ≤ u) (bu1' : 0 ≤ u1) (hY : 0 < Y) (bY : Y < 18446744073709551616) :
  IntKind.u64.wrap (IntKind.u64.wrap (IntKind.u64.wrap (u * 4294967296) + u1) - IntKind.u64.wrap (((dig u.toNat u1.toNat Y.toNat : Nat) : Int) * Y)) = ((rst u.toNat u1.toNat Y.toNat : Nat) : Int) := by
 have e := rest_is u.toNat u1.toNat Y.toNat
 have l : rst u.toNat u1.toNat Y.toNat < Y.toNat := Nat.mod_lt _ (by omega)
 have em : ((dig u.toNat u1.toNat Y.toNat : Nat) : Int) * Y = ((dig u.toNat u1.toNat Y.toNat * Y.toNat : Nat) : Int) := by
  rw [Int.natCast_mul, Int.toNat_of_nonneg (a := Y) (by omega)]
 rw [em]
 generalize dig u.toNat u1.toNat Y.toNat * Y.toNat = P at *
 generalize rst u.toNat u1.toNat Y.toNat = R at *
 rw [IntKind.wrap_u64, IntKind.wrap_u64, IntKind.wrap_u64, IntKind.wrap_u64]
 have e' : u * 4294967296 + u1 = (P : Int) + (R : Int) := by omega
 rw [Int.emod_add_emod, e', ← Int.sub_emod]
 omega
set_option maxRecDepth 100000 in
set_option maxHeartbeats 2000000 in
theorem div64_core (hi lo y Y y1 y0 u L u1 u0 : Int) (s : Nat) (hs : s < 64) (hz : ∀ w, Calls Tryz.prog 166 #[.int .u64 y] w fun e w' => e = .returned (.int .i64 (s : Int)) ∧ w = w')
  (hh : 0 < hi) (hhi : hi < y)
  (eY : IntKind.u64.wrap (y * 2 ^ s) = Y)
  (eU : bits .or .u64 (IntKind.u64.wrap (hi * 2 ^ s)) (lo / 2 ^ (64 - s)) = u)
  (eL : IntKind.u64.wrap (lo * 2 ^ s) = L)
  (ey1 : Y / 4294967296 = y1) (ey0 : bits .and .u64 Y 4294967295 = y0)
  (eu1 : L / 4294967296 = u1) (eu0 : bits .and .u64 L 4294967295 = u0)
  (HY : Hid (Y = y1 * 4294967296 + y0)) (HYn : Hid (Y.toNat = y1.toNat * 4294967296 + y0.toNat)) (HYl : Hid (0 < Y ∧ Y < 18446744073709551616)) (hu0 : 0 ≤ u) (bu : u < Y) (b1 : y1 < 4294967296) (b1' : 2147483648 ≤ y1) (b0 : y0 < 4294967296) (b0' : 0 ≤ y0) (bu1 : u1 < 4294967296) (bu1' : 0 ≤ u1) (bu0 : u0 < 4294967296) (bu0' : 0 ≤ u0) (w : World) :
  Calls Tryz.prog 160 #[.int .u64 hi, .int .u64 lo, .int .u64 y] w fun e w' => e = .returned (.tuple #[.int .u64 ((dig u.toNat u1.toNat Y.toNat * 4294967296 + dig (rst u.toNat u1.toNat Y.toNat) u0.toNat Y.toNat : Nat) : Int), .int .u64 ((rst (rst u.toNat u1.toNat Y.toNat) u0.toNat Y.toNat / 2 ^ s : Nat) : Int)]) ∧ w = w' := by
 obtain ⟨q0, p0, r0, ⟨f1, f0⟩, f2, f3, f4, f5, ⟨f6, fp⟩, f7, f8, f9⟩ := digit_start u u1 y1 y0 hu0 (by rw [← HY.out]; exact bu) b1 b1' b0 b0' bu1 bu1'
 have HQ := Lib.hid (rfl : ((dig u.toNat u1.toNat Y.toNat : Nat) : Int) = ((dig u.toNat u1.toNat Y.toNat : Nat) : Int))
 obtain ⟨Q1, hQ1⟩ : ∃ Q1 : Int, ((dig u.toNat u1.toNat Y.toNat : Nat) : Int) = Q1 := ⟨_, rfl⟩
 obtain ⟨R1, hR1⟩ : ∃ R1 : Int, ((rst u.toNat u1.toNat Y.toNat : Nat) : Int) = R1 := ⟨_, rfl⟩
 have eR := digit_rest u u1 Y hu0 bu1' HYl.out.1 HYl.out.2
 rw [hQ1, hR1] at eR
 have bR0 : 0 ≤ R1 := by omega
 have bR : R1 < Y := by
  have : rst u.toNat u1.toNat Y.toNat < Y.toNat := Nat.mod_lt _ (by have := HYl.out; omega)
  have := HYl.out
  omega
 have bQ0 : 0 ≤ Q1 := by omega
 have bQ : Q1 < 4294967296 := by
  have := dig_lt u.toNat u1.toNat Y.toNat (by have := HYl.out; omega) (by omega)
  omega
 obtain ⟨q0', p0', r0', ⟨f1', f0'⟩, f2', f3', f4', f5', ⟨f6', fp'⟩, f7', f8', f9'⟩ := digit_start R1 u0 y1 y0 bR0 (by rw [← HY.out]; exact bR) b1 b1' b0 b0' bu0 bu0'
 obtain ⟨Q0, hQ0⟩ : ∃ Q0 : Int, ((dig R1.toNat u0.toNat Y.toNat : Nat) : Int) = Q0 := ⟨_, rfl⟩
 obtain ⟨R0, hR0⟩ : ∃ R0 : Int, ((rst R1.toNat u0.toNat Y.toNat : Nat) : Int) = R0 := ⟨_, rfl⟩
 have eR' := digit_rest R1 u0 Y bR0 bu0' HYl.out.1 HYl.out.2
 rw [hQ0, hR0] at eR'
 have cQ0 : 0 ≤ Q0 := by omega
 have cQ : Q0 < 4294967296 := by
  have := dig_lt R1.toNat u0.toNat Y.toNat (by have := HYl.out; omega) (by omega)
  omega
 have FIN : Hid (((dig u.toNat u1.toNat Y.toNat * 4294967296 + dig (rst u.toNat u1.toNat Y.toNat) u0.toNat Y.toNat : Nat) : Int) = Q1 * 4294967296 + Q0 ∧ ((rst (rst u.toNat u1.toNat Y.toNat) u0.toNat Y.toNat / 2 ^ s : Nat) : Int) = R0 / 2 ^ s) := Lib.hid (by
  have e : rst u.toNat u1.toNat Y.toNat = R1.toNat := by omega
  rw [e]
  refine ⟨by omega, ?_⟩
  rw [Int.natCast_ediv, hR0, Int.natCast_pow]; rfl)
 have BU : Hid (u < y1 * 4294967296 + y0) := Lib.hid (by rw [← HY.out]; exact bu)
 have BR : Hid (R1 < y1 * 4294967296 + y0) := Lib.hid (by rw [← HY.out]; exact bR)
 have HQ1 : Hid (((dig u.toNat u1.toNat (y1.toNat * 4294967296 + y0.toNat) : Nat) : Int) = Q1) := Lib.hid (by rw [← HYn.out]; exact hQ1)
 have HQ0 : Hid (((dig R1.toNat u0.toNat (y1.toNat * 4294967296 + y0.toNat) : Nat) : Int) = Q0) := Lib.hid (by rw [← HYn.out]; exact hQ0)
 have HUN : Hid (((dig u.toNat u1.toNat Y.toNat * 4294967296 + dig (rst u.toNat u1.toNat Y.toNat) u0.toNat Y.toNat : Nat) : Int) = Q1 * 4294967296 + Q0) := Lib.hid FIN.out.1
 clear hQ1 hR1 hQ0 hR0 HQ HYl
 go_enter Tryz.func160, Tryz.ntmps160
 go_wp2_with (go_at_call 166; with_reducible refine (hz _).mono ?_; rintro e w' ⟨rfl, rfl⟩)
 clear eY eU eL ey1 ey0 eu1 eu0 hz hh hhi
 go_loop [15, 16] (fun qv rv => ∃ q r : Int, qv = .int .u64 q ∧ rv = .int .u64 r ∧ 0 ≤ q ∧ q ≤ 4294967297 ∧ 0 ≤ r ∧ r < 4294967296 ∧ Hid (Guess u.toNat u1.toNat y1.toNat y0.toNat q.toNat r.toNat)) (fun qv _ => (intOf qv).toNat)
 case atStart => exact ⟨_, _, rfl, rfl, f4, f5, f7, f8, f9⟩
 case round =>
  obtain ⟨q, r, rfl, rfl, gq', gq, gr', gr, g⟩ := hrel
  clear fp f0 f1 f2 f3 f4 f5 f6 f7 f8 f9
  have eB := digit_prod q y0 gq' gq b0 b0'
  obtain ⟨B, hB⟩ : ∃ B : Int, ((q.toNat * y0.toNat : Nat) : Int) = B := ⟨_, rfl⟩
  rw [hB] at eB
  by_cases hc : 4294967296 ≤ q ∨ 4294967296 * r + u1 < B
  ·obtain ⟨d1, d2, d3⟩ := digit_down u u1 y1 y0 q r B BU.out hu0 b1' b0 b0' bu1 bu1' gq' gr' g.out hB.symm hc
   have bB0 : 0 ≤ B := by omega
   by_cases hr : r + y1 < 4294967296
   ·have GN := Lib.hid (d2 hr)
    clear d2 d3 hB g
    by_cases hc1 : 4294967296 ≤ q
    ·clear hc
     go_wp2
     go_round
     case rel => exact ⟨_, _, rfl, rfl, by omega, by omega, by omega, by omega, GN⟩
     case measure => simp [intOf]; omega
    ·have hc2 : 4294967296 * r + u1 < B := by omega
     clear hc
     go_wp2
     go_round
     case rel => exact ⟨_, _, rfl, rfl, by omega, by omega, by omega, by omega, GN⟩
     case measure => simp [intOf]; omega
   ·have hq := d3 hr
    rw [HQ1.out] at hq
    clear d2 d3 hB g
    subst hq
    by_cases hc1 : 4294967296 ≤ Q1 + 1
    ·clear hc
     skip
     go_wp2
     go_loop [18, 16] (fun qv rv => ∃ q r : Int, qv = .int .u64 q ∧ rv = .int .u64 r ∧ 0 ≤ q ∧ q ≤ 4294967297 ∧ 0 ≤ r ∧ r < 4294967296 ∧ Hid (Guess R1.toNat u0.toNat y1.toNat y0.toNat q.toNat r.toNat)) (fun qv _ => (intOf qv).toNat)
     case atStart => exact ⟨_, _, rfl, rfl, f4', f5', f7', f8', f9'⟩
     case round =>
      obtain ⟨q, r, rfl, rfl, gq', gq, gr', gr, g⟩ := hrel
      clear fp' f0' f1' f2' f3' f4' f5' f6' f7' f8' f9'
      have eB := digit_prod q y0 gq' gq b0 b0'
      obtain ⟨B, hB⟩ : ∃ B : Int, ((q.toNat * y0.toNat : Nat) : Int) = B := ⟨_, rfl⟩
      rw [hB] at eB
      by_cases hc : 4294967296 ≤ q ∨ 4294967296 * r + u0 < B
      ·obtain ⟨d1, d2, d3⟩ := digit_down R1 u0 y1 y0 q r B BR.out bR0 b1' b0 b0' bu0 bu0' gq' gr' g.out hB.symm hc
       have bB0 : 0 ≤ B := by omega
       by_cases hr : r + y1 < 4294967296
       ·have GN := Lib.hid (d2 hr)
        clear d2 d3 hB g
        by_cases hc1 : 4294967296 ≤ q
        ·clear hc
         go_wp2
         go_round
         case rel => exact ⟨_, _, rfl, rfl, by omega, by omega, by omega, by omega, GN⟩
         case measure => simp [intOf]; omega
        ·have hc2 : 4294967296 * r + u0 < B := by omega
         clear hc
         go_wp2
         go_round
         case rel => exact ⟨_, _, rfl, rfl, by omega, by omega, by omega, by omega, GN⟩
         case measure => simp [intOf]; omega
       ·have hq := d3 hr
        rw [HQ0.out] at hq
        clear d2 d3 hB g
        subst hq
        by_cases hc1 : 4294967296 ≤ Q0 + 1
        ·clear hc
         go_wp2
         go_ret2
         exact ⟨ret2_int FIN.out.1.symm FIN.out.2.symm, rfl⟩
        ·have hc2 : 4294967296 * r + u0 < B := by omega
         clear hc
         go_wp2
         go_ret2
         exact ⟨ret2_int FIN.out.1.symm FIN.out.2.symm, rfl⟩
      ·have hq := digit_stop R1 u0 y1 y0 q r B b1' bu0' gq' gr' g.out hB.symm hc
       rw [HQ0.out] at hq
       have bB0 : 0 ≤ B := by omega
       clear hB g
       subst hq
       have hc1 : ¬ 4294967296 ≤ Q0 := fun h => hc (Or.inl h)
       have hc2 : ¬ 4294967296 * r + u0 < B := fun h => hc (Or.inr h)
       clear hc
       go_wp2
       go_ret2
       exact ⟨ret2_int FIN.out.1.symm FIN.out.2.symm, rfl⟩
    ·have hc2 : 4294967296 * r + u1 < B := by omega
     clear hc
     skip
     go_wp2
     go_loop [18, 16] (fun qv rv => ∃ q r : Int, qv = .int .u64 q ∧ rv = .int .u64 r ∧ 0 ≤ q ∧ q ≤ 4294967297 ∧ 0 ≤ r ∧ r < 4294967296 ∧ Hid (Guess R1.toNat u0.toNat y1.toNat y0.toNat q.toNat r.toNat)) (fun qv _ => (intOf qv).toNat)
     case atStart => exact ⟨_, _, rfl, rfl, f4', f5', f7', f8', f9'⟩
     case round =>
      obtain ⟨q, r, rfl, rfl, gq', gq, gr', gr, g⟩ := hrel
      clear fp' f0' f1' f2' f3' f4' f5' f6' f7' f8' f9'
      have eB := digit_prod q y0 gq' gq b0 b0'
      obtain ⟨B, hB⟩ : ∃ B : Int, ((q.toNat * y0.toNat : Nat) : Int) = B := ⟨_, rfl⟩
      rw [hB] at eB
      by_cases hc : 4294967296 ≤ q ∨ 4294967296 * r + u0 < B
      ·obtain ⟨d1, d2, d3⟩ := digit_down R1 u0 y1 y0 q r B BR.out bR0 b1' b0 b0' bu0 bu0' gq' gr' g.out hB.symm hc
       have bB0 : 0 ≤ B := by omega
       by_cases hr : r + y1 < 4294967296
       ·have GN := Lib.hid (d2 hr)
        clear d2 d3 hB g
        by_cases hc1 : 4294967296 ≤ q
        ·clear hc
         go_wp2
         go_round
         case rel => exact ⟨_, _, rfl, rfl, by omega, by omega, by omega, by omega, GN⟩
         case measure => simp [intOf]; omega
        ·have hc2 : 4294967296 * r + u0 < B := by omega
         clear hc
         go_wp2
         go_round
         case rel => exact ⟨_, _, rfl, rfl, by omega, by omega, by omega, by omega, GN⟩
         case measure => simp [intOf]; omega
       ·have hq := d3 hr
        rw [HQ0.out] at hq
        clear d2 d3 hB g
        subst hq
        by_cases hc1 : 4294967296 ≤ Q0 + 1
        ·clear hc
         go_wp2
         go_ret2
         exact ⟨ret2_int FIN.out.1.symm FIN.out.2.symm, rfl⟩
        ·have hc2 : 4294967296 * r + u0 < B := by omega
         clear hc
         go_wp2
         go_ret2
         exact ⟨ret2_int FIN.out.1.symm FIN.out.2.symm, rfl⟩
      ·have hq := digit_stop R1 u0 y1 y0 q r B b1' bu0' gq' gr' g.out hB.symm hc
       rw [HQ0.out] at hq
       have bB0 : 0 ≤ B := by omega
       clear hB g
       subst hq
       have hc1 : ¬ 4294967296 ≤ Q0 := fun h => hc (Or.inl h)
       have hc2 : ¬ 4294967296 * r + u0 < B := fun h => hc (Or.inr h)
       clear hc
       go_wp2
       go_ret2
       exact ⟨ret2_int FIN.out.1.symm FIN.out.2.symm, rfl⟩
  ·have hq := digit_stop u u1 y1 y0 q r B b1' bu1' gq' gr' g.out hB.symm hc
   rw [HQ1.out] at hq
   have bB0 : 0 ≤ B := by omega
   clear hB g
   subst hq
   have hc1 : ¬ 4294967296 ≤ Q1 := fun h => hc (Or.inl h)
   have hc2 : ¬ 4294967296 * r + u1 < B := fun h => hc (Or.inr h)
   clear hc
   skip
   go_wp2
   go_loop [18, 16] (fun qv rv => ∃ q r : Int, qv = .int .u64 q ∧ rv = .int .u64 r ∧ 0 ≤ q ∧ q ≤ 4294967297 ∧ 0 ≤ r ∧ r < 4294967296 ∧ Hid (Guess R1.toNat u0.toNat y1.toNat y0.toNat q.toNat r.toNat)) (fun qv _ => (intOf qv).toNat)
   case atStart => exact ⟨_, _, rfl, rfl, f4', f5', f7', f8', f9'⟩
   case round =>
    obtain ⟨q, r, rfl, rfl, gq', gq, gr', gr, g⟩ := hrel
    clear fp' f0' f1' f2' f3' f4' f5' f6' f7' f8' f9'
    have eB := digit_prod q y0 gq' gq b0 b0'
    obtain ⟨B, hB⟩ : ∃ B : Int, ((q.toNat * y0.toNat : Nat) : Int) = B := ⟨_, rfl⟩
    rw [hB] at eB
    by_cases hc : 4294967296 ≤ q ∨ 4294967296 * r + u0 < B
    ·obtain ⟨d1, d2, d3⟩ := digit_down R1 u0 y1 y0 q r B BR.out bR0 b1' b0 b0' bu0 bu0' gq' gr' g.out hB.symm hc
     have bB0 : 0 ≤ B := by omega
     by_cases hr : r + y1 < 4294967296
     ·have GN := Lib.hid (d2 hr)
      clear d2 d3 hB g
      by_cases hc1 : 4294967296 ≤ q
      ·clear hc
       go_wp2
       go_round
       case rel => exact ⟨_, _, rfl, rfl, by omega, by omega, by omega, by omega, GN⟩
       case measure => simp [intOf]; omega
      ·have hc2 : 4294967296 * r + u0 < B := by omega
       clear hc
       go_wp2
       go_round
       case rel => exact ⟨_, _, rfl, rfl, by omega, by omega, by omega, by omega, GN⟩
       case measure => simp [intOf]; omega
     ·have hq := d3 hr
      rw [HQ0.out] at hq
      clear d2 d3 hB g
      subst hq
      by_cases hc1 : 4294967296 ≤ Q0 + 1
      ·clear hc
       go_wp2
       go_ret2
       exact ⟨ret2_int FIN.out.1.symm FIN.out.2.symm, rfl⟩
      ·have hc2 : 4294967296 * r + u0 < B := by omega
       clear hc
       go_wp2
       go_ret2
       exact ⟨ret2_int FIN.out.1.symm FIN.out.2.symm, rfl⟩
    ·have hq := digit_stop R1 u0 y1 y0 q r B b1' bu0' gq' gr' g.out hB.symm hc
     rw [HQ0.out] at hq
     have bB0 : 0 ≤ B := by omega
     clear hB g
     subst hq
     have hc1 : ¬ 4294967296 ≤ Q0 := fun h => hc (Or.inl h)
     have hc2 : ¬ 4294967296 * r + u0 < B := fun h => hc (Or.inr h)
     clear hc
     go_wp2
     go_ret2
     exact ⟨ret2_int FIN.out.1.symm FIN.out.2.symm, rfl⟩
end Go.Proofs.YtijlccblabadaaaGreat.q
end
section
namespace Go.Proofs.YtijlccblabadaaaGreat.q
set_option maxRecDepth 100000
open Go.ChangeShapes Go.WideShapes Go.ChangeAt Go.RowKit
set_option linter.unusedVariables false
theorem up_facts (hi lo y s : Nat) (hhi : hi < y) (hlo : lo < 18446744073709551616) (hs : s < 64) (h1 : 9223372036854775808 ≤ y * 2 ^ s) (h2 : y * 2 ^ s < 18446744073709551616) :
  IntKind.u64.wrap ((y : Int) * 2 ^ s) = ((y * 2 ^ s : Nat) : Int) ∧
  bits .or .u64 (IntKind.u64.wrap ((hi : Int) * 2 ^ s)) ((lo : Int) / 2 ^ (64 - s)) = ((hi * 2 ^ s + lo / 2 ^ (64 - s) : Nat) : Int) ∧
  IntKind.u64.wrap ((lo : Int) * 2 ^ s) = ((lo * 2 ^ s % 18446744073709551616 : Nat) : Int) ∧
  hi * 2 ^ s + lo / 2 ^ (64 - s) < y * 2 ^ s := by
 have c : ∀ a : Nat, (a : Int) * 2 ^ s = ((a * 2 ^ s : Nat) : Int) := fun a => by rw [Int.natCast_mul, Int.natCast_pow]; rfl
 have d : (lo : Int) / 2 ^ (64 - s) = ((lo / 2 ^ (64 - s) : Nat) : Int) := by rw [Int.natCast_ediv, Int.natCast_pow]; rfl
 have e64 : 2 ^ s * 2 ^ (64 - s) = 18446744073709551616 := by rw [← Nat.pow_add, show s + (64 - s) = 64 by omega]
 have l1 : lo / 2 ^ (64 - s) < 2 ^ s := by
  apply Nat.div_lt_of_lt_mul; rw [Nat.mul_comm, e64]; exact hlo
 have l2 : (hi + 1) * 2 ^ s ≤ y * 2 ^ s := Nat.mul_le_mul_right _ hhi
 rw [Nat.add_mul, Nat.one_mul] at l2
 have m : hi * 2 ^ s % 2 ^ s = 0 := Nat.mul_mod_left hi (2 ^ s)
 rw [c y, c hi, c lo, d]
 refine ⟨wrapN _ h2, ?_, wrapM _, by omega⟩
 rw [wrapN _ (by omega), u64_or_nat _ _ (by omega) (by omega), nat_join s _ _ m l1]
theorem div64_any (hi lo y : Nat) (hy : y < 18446744073709551616) (hlo : lo < 18446744073709551616) (hh : 0 < hi) (hhi : hi < y) (w : World) :
  Calls Tryz.prog 160 #[.int .u64 (hi : Int), .int .u64 (lo : Int), .int .u64 (y : Int)] w fun e w' => e = .returned (.tuple #[.int .u64 (((hi * 18446744073709551616 + lo) / y : Nat) : Int), .int .u64 (((hi * 18446744073709551616 + lo) % y : Nat) : Int)]) ∧ w = w' := by
 have us := ups_spec y (by omega) hy
 have sp := up_split hi lo (ups y) (by omega)
 have lz := fun w => lz_any y hy w
 generalize ups y = s at *
 obtain ⟨a, b, c⟩ := us
 obtain ⟨eY, eU, eL, bu⟩ := up_facts hi lo y s hhi hlo a b c
 have hq := up_quot (hi * 18446744073709551616 + lo) y s
 have hr := up_rest (hi * 18446744073709551616 + lo) y s
 rw [sp] at hq hr
 generalize y * 2 ^ s = Y at *
 generalize hi * 2 ^ s + lo / 2 ^ (64 - s) = u at *
 generalize hL : lo * 2 ^ s % 18446744073709551616 = L at *
 have bL : L < 18446744073709551616 := by omega
 have eL2 : L / 4294967296 * 4294967296 + L % 4294967296 = L := Nat.div_add_mod' L 4294967296
 have td := two_digits u (L / 4294967296) (L % 4294967296) Y (by omega)
 rw [eL2, hq] at td
 rw [← td.2] at hr
 rw [← td.1, ← hr]
 have core := div64_core (hi : Int) (lo : Int) (y : Int) (Y : Int) ((Y / 4294967296 : Nat) : Int) ((Y % 4294967296 : Nat) : Int) (u : Int) (L : Int) ((L / 4294967296 : Nat) : Int) ((L % 4294967296 : Nat) : Int) s a lz (by omega) (by omega) eY eU eL
  (by omega) (maskN Y c) (by omega) (maskN L bL) (Lib.hid (by omega)) (Lib.hid (by omega)) (Lib.hid (by omega)) (by omega) (by omega) (by omega) (by omega) (by omega) (by omega) (by omega) (by omega) (by omega) (by omega) w
 simp only [Int.toNat_natCast] at core
 exact core
theorem floor_any (a b c : Int) (hc : 0 < c) : a * b / c = if neq a b = true then -((mag a * mag b / c.toNat + (if mag a * mag b % c.toNat = 0 then 0 else 1) : Nat) : Int) else ((mag a * mag b / c.toNat : Nat) : Int) := by
 have hs := sgn_mul a b
 rw [← hs]
 generalize mag a * mag b = P at *
 have ec : c = (c.toNat : Int) := by omega
 rw [ec]
 generalize c.toNat = C at *
 have hC : 0 < C := by omega
 rw [Int.toNat_natCast]
 by_cases hn : neq a b = true
 ·rw [if_pos hn]
  by_cases hr : P % C = 0
  ·rw [if_pos hr, floor_neg0 P C _ hn hC hr]; rfl
  ·rw [if_neg hr, floor_neg1 P C _ hn hC hr]
 ·rw [if_neg hn, floor_pos P C _ (Bool.eq_false_iff.mpr hn)]
theorem md_over (a b c : Int) (hc : 0 < c) (h : 18446744073709551615 < mag a * mag b / c.toNat) : mdV a b c = 0 ∧ mdE a b c = 2 := by
 have f := floor_any a b c hc
 have : ¬ rm (a * b / c) = true := by
  rw [rm_iff, f]
  split
  ·split <;> omega
  ·omega
 unfold mdV mdE
 rw [if_neg (by omega), if_neg (by omega), if_neg (by omega), if_neg this, rv_no this]
 exact ⟨rfl, rfl⟩
theorem md_over1 (a b c : Int) (hc : 0 < c) (hn : neq a b = true) (hr : ¬ mag a * mag b % c.toNat = 0) (h : mag a * mag b / c.toNat = 18446744073709551615) : mdV a b c = 0 ∧ mdE a b c = 2 := by
 have f := floor_any a b c hc
 have : ¬ rm (a * b / c) = true := by
  rw [rm_iff, f, if_pos hn, if_neg hr]; omega
 unfold mdV mdE
 rw [if_neg (by omega), if_neg (by omega), if_neg (by omega), if_neg this, rv_no this]
 exact ⟨rfl, rfl⟩
theorem md_in (a b c : Int) (hc : 0 < c) (n : Nat) (neg : Bool) (h : sgn n neg = a * b / c) : (sgB n neg = true → mdV a b c = sgV n neg ∧ mdE a b c = 0) ∧ (sgB n neg = false → mdV a b c = 0 ∧ mdE a b c = 2) := by
 unfold sgB sgV mdV mdE
 rw [if_neg (by omega), if_neg (by omega), if_neg (by omega), h]
 refine ⟨fun e => ?_, fun e => ?_⟩
 ·rw [if_pos e]; exact ⟨rfl, rfl⟩
 ·rw [if_neg (Bool.eq_false_iff.mp e), rv_no (Bool.eq_false_iff.mp e)]; exact ⟨rfl, rfl⟩
theorem div64_all (hi lo y : Nat) (hy : y < 18446744073709551616) (hlo : lo < 18446744073709551616) (hhi : hi < y) (w : World) :
  Calls Tryz.prog 160 #[.int .u64 (hi : Int), .int .u64 (lo : Int), .int .u64 (y : Int)] w fun e w' => e = .returned (.tuple #[.int .u64 (((hi * 18446744073709551616 + lo) / y : Nat) : Int), .int .u64 (((hi * 18446744073709551616 + lo) % y : Nat) : Int)]) ∧ ∃ k, w' = w.drewN k := by
 by_cases h : hi = 0
 ·subst h
  rw [Nat.zero_mul, Nat.zero_add]
  exact div64_small lo y hlo hy (by omega) w
 ·exact (div64_any hi lo y hy hlo (by omega) hhi w).mono fun _ _ ⟨e, hw⟩ => ⟨e, 0, hw.symm⟩
set_option maxRecDepth 100000 in
theorem muldiv_any (a b c : Int) (h1 : -9223372036854775808 ≤ a) (h2 : a ≤ 9223372036854775807) (h3 : -9223372036854775808 ≤ b) (h4 : b ≤ 9223372036854775807) (h6 : c ≤ 9223372036854775807) (w : World) :
  Calls Tryz.prog 151 #[.int .i64 a, .int .i64 b, .int .i64 c] w fun e w' => e = .returned (.tuple #[.int .i64 (mdV a b c), .int .i64 (mdE a b c)]) ∧ ∃ k, w' = w.drewN k := by
 by_cases c0 : c = 0
 ·subst c0
  have hv : Hid (mdV a b 0 = 0 ∧ mdE a b 0 = 3) := Lib.hid ⟨rfl, rfl⟩
  go_enter Tryz.func151, Tryz.ntmps151
  go_wp2
  go_ret2
  exact ⟨ret2_int hv.out.1.symm hv.out.2.symm, 0, rfl⟩
 ·by_cases cn : c < 0
  ·have hv : Hid (mdV a b c = 0 ∧ mdE a b c = 1) := Lib.hid (by
    unfold mdV mdE; rw [if_pos (by omega), if_neg c0, if_pos cn]; exact ⟨rfl, rfl⟩)
   go_enter Tryz.func151, Tryz.ntmps151
   go_wp2
   go_ret2
   exact ⟨ret2_int hv.out.1.symm hv.out.2.symm, 0, rfl⟩
  ·have cp : 0 < c := by omega
   have ma := mag_le a h1 h2
   have mb := mag_le b h3 h4
   have HF := Lib.hid (floor_any a b c cp)
   have HO := Lib.hid (md_over a b c cp)
   have HO1 := Lib.hid (md_over1 a b c cp)
   have HI := Lib.hid (md_in a b c cp)
   have ca := fun (w : World) => size_any a h1 h2 w
   have cb := fun (w : World) => size_any b h3 h4 w
   have cm := fun (w : World) => mul64_any (mag a) (mag b) (by omega) (by omega) w
   have cu := fun (w : World) => unlike_any a b w
   have edm := Nat.div_add_mod' (mag a * mag b) 18446744073709551616
   have blo : mag a * mag b % 18446744073709551616 < 18446744073709551616 := Nat.mod_lt _ (by omega)
   have ec : ((c.toNat : Nat) : Int) = c := by omega
   by_cases hb : c.toNat ≤ mag a * mag b / 18446744073709551616
   ·have hv : Hid (mdV a b c = 0 ∧ mdE a b c = 2) := Lib.hid (HO.out (by
     have : c.toNat * 18446744073709551616 ≤ mag a * mag b := by
      have := Nat.mul_le_mul_right 18446744073709551616 hb; omega
     have : 18446744073709551616 ≤ mag a * mag b / c.toNat := by
      rw [Nat.le_div_iff_mul_le (by omega), Nat.mul_comm]; exact this
     omega))
    have hbz : c ≤ ((mag a * mag b / 18446744073709551616 : Nat) : Int) := by omega
    clear HF HO HO1 HI edm blo hb
    generalize ((mag a * mag b / 18446744073709551616 : Nat) : Int) = hi at *
    generalize ((mag a * mag b % 18446744073709551616 : Nat) : Int) = lo at *
    generalize ((mag a : Nat) : Int) = A at *
    generalize ((mag b : Nat) : Int) = B at *
    clear ec ma mb
    go_enter Tryz.func151, Tryz.ntmps151
    go_wp2_with (first | (go_at_call 159; with_reducible refine (ca _).mono ?_; rintro e w' ⟨rfl, rfl⟩) | (go_at_call 159; with_reducible refine (cb _).mono ?_; rintro e w' ⟨rfl, rfl⟩) | (go_at_call 140; with_reducible refine (cm _).mono ?_; rintro e w' ⟨rfl, rfl⟩))
    go_ret2
    exact ⟨ret2_int hv.out.1.symm hv.out.2.symm, 0, rfl⟩
   ·have cd := fun (w : World) => div64_all (mag a * mag b / 18446744073709551616) (mag a * mag b % 18446744073709551616) c.toNat (by omega) blo (by omega) w
    rw [edm, ec] at cd
    have hbz : ((mag a * mag b / 18446744073709551616 : Nat) : Int) < c := by omega
    have bq : mag a * mag b / c.toNat < 18446744073709551616 := by
     apply Nat.div_lt_of_lt_mul
     have : (mag a * mag b / 18446744073709551616 + 1) * 18446744073709551616 ≤ c.toNat * 18446744073709551616 := Nat.mul_le_mul_right _ (by omega)
     omega
    clear edm blo hb HO ec
    generalize ((mag a * mag b / 18446744073709551616 : Nat) : Int) = hi at *
    generalize ((mag a * mag b % 18446744073709551616 : Nat) : Int) = lo at *
    generalize hP : mag a * mag b = P at *
    generalize ((mag a : Nat) : Int) = A at *
    generalize ((mag b : Nat) : Int) = B at *
    clear hP ma mb
    generalize P / c.toNat = Q at *
    generalize P % c.toNat = R at *
    have qz : 0 ≤ (Q : Int) := by omega
    have qz' : (Q : Int) ≤ 18446744073709551615 := by omega
    by_cases hn : neq a b = true ∧ ¬ R = 0
    ·obtain ⟨hn, hr⟩ := hn
     have HR := Lib.hid hr
     have hrz : 0 < (R : Int) := by omega
     rw [hn] at cu
     by_cases ho : Q = 18446744073709551615
     ·have hv : Hid (mdV a b c = 0 ∧ mdE a b c = 2) := Lib.hid (HO1.out hn hr ho)
      have hqz : 18446744073709551615 ≤ (Q : Int) := by omega
      clear HF HO1 HI hn bq hr ho
      generalize (Q : Int) = Qz at *
      generalize (R : Int) = Rz at *
      go_enter Tryz.func151, Tryz.ntmps151
      go_wp2_with (first | (go_at_call 159; with_reducible refine (ca _).mono ?_; rintro e w' ⟨rfl, rfl⟩) | (go_at_call 159; with_reducible refine (cb _).mono ?_; rintro e w' ⟨rfl, rfl⟩) | (go_at_call 140; with_reducible refine (cm _).mono ?_; rintro e w' ⟨rfl, rfl⟩) | (go_at_call 160; with_reducible refine (cd _).mono ?_; rintro e w' ⟨rfl, kd, rfl⟩) | (go_at_call 161; with_reducible refine (cu _).mono ?_; rintro e w' ⟨rfl, rfl⟩) | (go_at_call 162; with_reducible refine (cs _).mono ?_; rintro e w' ⟨rfl, rfl⟩))
      go_ret2
      exact ⟨ret2_int hv.out.1.symm hv.out.2.symm, _, rfl⟩
     ·have hs : sgn (Q + 1) true = a * b / c := by
       rw [HF.out, if_pos hn, if_neg hr]; rfl
      have hqz : (Q : Int) < 18446744073709551615 := by omega
      have cs := fun (w : World) => signed_any (Q + 1) true (by omega) w
      rw [show ((Q + 1 : Nat) : Int) = (Q : Int) + 1 from Int.natCast_add Q 1] at cs
      have HS := Lib.hid hs
      clear hn bq hr ho hs
      by_cases hb : sgB (Q + 1) true = true
      ·have hv := Lib.hid ((HI.out (Q + 1) true HS.out).1 hb)
       rw [hb] at cs
       clear HI HF HO1 hb
       generalize sgV (Q + 1) true = V at *
       generalize (Q : Int) = Qz at *
       generalize (R : Int) = Rz at *
       go_enter Tryz.func151, Tryz.ntmps151
       go_wp2_with (first | (go_at_call 159; with_reducible refine (ca _).mono ?_; rintro e w' ⟨rfl, rfl⟩) | (go_at_call 159; with_reducible refine (cb _).mono ?_; rintro e w' ⟨rfl, rfl⟩) | (go_at_call 140; with_reducible refine (cm _).mono ?_; rintro e w' ⟨rfl, rfl⟩) | (go_at_call 160; with_reducible refine (cd _).mono ?_; rintro e w' ⟨rfl, kd, rfl⟩) | (go_at_call 161; with_reducible refine (cu _).mono ?_; rintro e w' ⟨rfl, rfl⟩) | (go_at_call 162; with_reducible refine (cs _).mono ?_; rintro e w' ⟨rfl, rfl⟩))
       go_ret2
       exact ⟨ret2_int hv.out.1.symm hv.out.2.symm, _, rfl⟩
      ·have hbf : sgB (Q + 1) true = false := Bool.eq_false_iff.mpr hb
       have hv := Lib.hid ((HI.out (Q + 1) true HS.out).2 hbf)
       rw [hbf] at cs
       clear HI HF HO1 hb hbf
       generalize sgV (Q + 1) true = V at *
       generalize (Q : Int) = Qz at *
       generalize (R : Int) = Rz at *
       go_enter Tryz.func151, Tryz.ntmps151
       go_wp2_with (first | (go_at_call 159; with_reducible refine (ca _).mono ?_; rintro e w' ⟨rfl, rfl⟩) | (go_at_call 159; with_reducible refine (cb _).mono ?_; rintro e w' ⟨rfl, rfl⟩) | (go_at_call 140; with_reducible refine (cm _).mono ?_; rintro e w' ⟨rfl, rfl⟩) | (go_at_call 160; with_reducible refine (cd _).mono ?_; rintro e w' ⟨rfl, kd, rfl⟩) | (go_at_call 161; with_reducible refine (cu _).mono ?_; rintro e w' ⟨rfl, rfl⟩) | (go_at_call 162; with_reducible refine (cs _).mono ?_; rintro e w' ⟨rfl, rfl⟩))
       go_ret2
       exact ⟨ret2_int hv.out.1.symm hv.out.2.symm, _, rfl⟩
    ·have hs : sgn Q (neq a b) = a * b / c := by
      rw [HF.out]
      by_cases hm : neq a b = true
      ·have hr : R = 0 := by
        by_cases h : R = 0
        ·exact h
        ·exact absurd ⟨hm, h⟩ hn
       rw [if_pos hm, if_pos hr, hm]; rfl
      ·rw [if_neg hm, Bool.eq_false_iff.mpr hm]; rfl
     have cs := fun (w : World) => signed_any Q (neq a b) bq w
     have HS := Lib.hid hs
     have hnz : ¬ (neq a b = true ∧ ¬ (R : Int) = 0) := fun h => hn ⟨h.1, fun e => h.2 (by omega)⟩
     clear hn hs
     generalize neq a b = neg at *
     have hrz0 : 0 ≤ (R : Int) := by omega
     cases neg
     ·clear hnz bq
      by_cases hb : sgB Q false = true
      ·have hv := Lib.hid ((HI.out Q false HS.out).1 hb)
       rw [hb] at cs
       clear HI HF HO1 hb
       generalize sgV Q false = V at *
       generalize (Q : Int) = Qz at *
       generalize (R : Int) = Rz at *
       go_enter Tryz.func151, Tryz.ntmps151
       go_wp2_with (first | (go_at_call 159; with_reducible refine (ca _).mono ?_; rintro e w' ⟨rfl, rfl⟩) | (go_at_call 159; with_reducible refine (cb _).mono ?_; rintro e w' ⟨rfl, rfl⟩) | (go_at_call 140; with_reducible refine (cm _).mono ?_; rintro e w' ⟨rfl, rfl⟩) | (go_at_call 160; with_reducible refine (cd _).mono ?_; rintro e w' ⟨rfl, kd, rfl⟩) | (go_at_call 161; with_reducible refine (cu _).mono ?_; rintro e w' ⟨rfl, rfl⟩) | (go_at_call 162; with_reducible refine (cs _).mono ?_; rintro e w' ⟨rfl, rfl⟩))
       go_ret2
       exact ⟨ret2_int hv.out.1.symm hv.out.2.symm, _, rfl⟩
      ·have hbf : sgB Q false = false := Bool.eq_false_iff.mpr hb
       have hv := Lib.hid ((HI.out Q false HS.out).2 hbf)
       rw [hbf] at cs
       clear HI HF HO1 hb hbf
       generalize sgV Q false = V at *
       generalize (Q : Int) = Qz at *
       generalize (R : Int) = Rz at *
       go_enter Tryz.func151, Tryz.ntmps151
       go_wp2_with (first | (go_at_call 159; with_reducible refine (ca _).mono ?_; rintro e w' ⟨rfl, rfl⟩) | (go_at_call 159; with_reducible refine (cb _).mono ?_; rintro e w' ⟨rfl, rfl⟩) | (go_at_call 140; with_reducible refine (cm _).mono ?_; rintro e w' ⟨rfl, rfl⟩) | (go_at_call 160; with_reducible refine (cd _).mono ?_; rintro e w' ⟨rfl, kd, rfl⟩) | (go_at_call 161; with_reducible refine (cu _).mono ?_; rintro e w' ⟨rfl, rfl⟩) | (go_at_call 162; with_reducible refine (cs _).mono ?_; rintro e w' ⟨rfl, rfl⟩))
       go_ret2
       exact ⟨ret2_int hv.out.1.symm hv.out.2.symm, _, rfl⟩
     ·have hr0 : (R : Int) = 0 := by
       by_cases h : (R : Int) = 0
       ·exact h
       ·exact absurd ⟨rfl, h⟩ hnz
      have hrz1 : (R : Int) ≤ 0 := by omega
      clear hnz bq hr0
      by_cases hb : sgB Q true = true
      ·have hv := Lib.hid ((HI.out Q true HS.out).1 hb)
       rw [hb] at cs
       clear HI HF HO1 hb
       generalize sgV Q true = V at *
       generalize (Q : Int) = Qz at *
       generalize (R : Int) = Rz at *
       go_enter Tryz.func151, Tryz.ntmps151
       go_wp2_with (first | (go_at_call 159; with_reducible refine (ca _).mono ?_; rintro e w' ⟨rfl, rfl⟩) | (go_at_call 159; with_reducible refine (cb _).mono ?_; rintro e w' ⟨rfl, rfl⟩) | (go_at_call 140; with_reducible refine (cm _).mono ?_; rintro e w' ⟨rfl, rfl⟩) | (go_at_call 160; with_reducible refine (cd _).mono ?_; rintro e w' ⟨rfl, kd, rfl⟩) | (go_at_call 161; with_reducible refine (cu _).mono ?_; rintro e w' ⟨rfl, rfl⟩) | (go_at_call 162; with_reducible refine (cs _).mono ?_; rintro e w' ⟨rfl, rfl⟩))
       go_ret2
       exact ⟨ret2_int hv.out.1.symm hv.out.2.symm, _, rfl⟩
      ·have hbf : sgB Q true = false := Bool.eq_false_iff.mpr hb
       have hv := Lib.hid ((HI.out Q true HS.out).2 hbf)
       rw [hbf] at cs
       clear HI HF HO1 hb hbf
       generalize sgV Q true = V at *
       generalize (Q : Int) = Qz at *
       generalize (R : Int) = Rz at *
       go_enter Tryz.func151, Tryz.ntmps151
       go_wp2_with (first | (go_at_call 159; with_reducible refine (ca _).mono ?_; rintro e w' ⟨rfl, rfl⟩) | (go_at_call 159; with_reducible refine (cb _).mono ?_; rintro e w' ⟨rfl, rfl⟩) | (go_at_call 140; with_reducible refine (cm _).mono ?_; rintro e w' ⟨rfl, rfl⟩) | (go_at_call 160; with_reducible refine (cd _).mono ?_; rintro e w' ⟨rfl, kd, rfl⟩) | (go_at_call 161; with_reducible refine (cu _).mono ?_; rintro e w' ⟨rfl, rfl⟩) | (go_at_call 162; with_reducible refine (cs _).mono ?_; rintro e w' ⟨rfl, rfl⟩))
       go_ret2
       exact ⟨ret2_int hv.out.1.symm hv.out.2.symm, _, rfl⟩
end Go.Proofs.YtijlccblabadaaaGreat.q
end
section
namespace Go.Proofs.YtijlccblabadaaaGreat.q
open Go.ChangeShapes Go.WideShapes Go.ChangeAt Go.RowKit
set_option linter.unusedVariables false
end Go.Proofs.YtijlccblabadaaaGreat.q
end
section
namespace Go.Proofs.YtijlccblabadaaaGreat.q
open Go.ChangeShapes Go.WideShapes Go.ChangeAt Go.RowKit
set_option linter.unusedVariables false
end Go.Proofs.YtijlccblabadaaaGreat.q
end
section
namespace Go.Proofs.YtijlccblabadaaaGreat.r
open Go.ChangeShapes Go.WideShapes Go.ChangeAt Go.RowKit Go.Proofs.YtijlccblabadaaaGreat.q
set_option linter.unusedVariables false
end Go.Proofs.YtijlccblabadaaaGreat.r
end
section
namespace Go.Proofs.YtijlccblabadaaaGreat.r
set_option maxRecDepth 100000
open Go.ChangeShapes Go.WideShapes Go.ChangeAt Go.RowKit Go.Proofs.YtijlccblabadaaaGreat.q
set_option linter.unusedVariables false
end Go.Proofs.YtijlccblabadaaaGreat.r
end
