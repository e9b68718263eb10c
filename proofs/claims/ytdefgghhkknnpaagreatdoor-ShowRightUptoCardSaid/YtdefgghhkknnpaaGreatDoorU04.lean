/- Plain facts on whole numbers for layer q: what a sum, a difference, a product, a quotient, a rest, a floored quotient and a square root are, and when they have room. No condition. -/
import Derived.WalkKit
import Derived.Laws.BitsAllLaws
import Derived.Shelf.Small.Bits
import Derived.Shelf.Bits.Mul64
import Derived.Test.YtdefgghhkknnpaaGreatDoorProg
import Derived.Test.YtdefgghhkknnpaaGreatDoorRows
import Derived.ProofKit
import Derived.OpenShut
import Derived.Lib.MinMax
import Derived.Lib.Hide
import Derived.WalkLawsBesides
import Derived.Deep.QuietTactic
import Derived.BigQuiet
import Derived.Shelf.Strings.Cut
import Derived.Shelf.Strings.Prefix
import Derived.Shelf.Strconv.Clone
import Derived.Shelf.Vars
import Derived.Test.YtdefgghhkknnpaaGreatDoorU03
namespace Go.Proofs.YtdefgghhkknnpaaGreatDoor.q
open Go.RowKit

/-! ### What the document's answers are -/
def rm (z : Int) : Bool := decide (-9223372036854775808 ≤ z ∧ z ≤ 9223372036854775807)
def rv (z : Int) : Int := if rm z = true then z else 0
def addV (a b : Int) : Int := rv (a + b)
def addB (a b : Int) : Bool := rm (a + b)
def subV (a b : Int) : Int := rv (a - b)
def subB (a b : Int) : Bool := rm (a - b)
def mulV (a b : Int) : Int := rv (a * b)
def mulB (a b : Int) : Bool := rm (a * b)
def divV (a b : Int) : Int := if b = 0 then 0 else rv (a.tdiv b)
def divE (a b : Int) : Int := if b = 0 then 3 else if rm (a.tdiv b) = true then 0 else 2
def modV (a b : Int) : Int := if b = 0 then 0 else a.tmod b
def modE (_a b : Int) : Int := if b = 0 then 3 else 0
def mdV (a b c : Int) : Int := if c ≤ 0 then 0 else rv (a * b / c)
def mdE (a b c : Int) : Int := if c = 0 then 3 else if c < 0 then 1 else if rm (a * b / c) = true then 0 else 2
def isq : Nat → Nat
  | 0 => 0
  | n + 1 => if (isq n + 1) * (isq n + 1) ≤ n + 1 then isq n + 1 else isq n
def sqrtV (n : Int) : Int := (isq n.toNat : Nat)
def clampV (n lo hi : Int) : Int := max lo (min n hi)

theorem rm_iff {z : Int} : rm z = true ↔ (-9223372036854775808 ≤ z ∧ z ≤ 9223372036854775807) := by simp [rm]
theorem rv_yes {z : Int} (h : rm z = true) : rv z = z := by simp [rv, h]
theorem rv_no {z : Int} (h : ¬ rm z = true) : rv z = 0 := by simp [rv, h]

/-! ### Roots -/
theorem isq_le (n : Nat) : isq n * isq n ≤ n := by
  induction n with
  | zero => simp [isq]
  | succ n ih =>
    unfold isq
    split
    · assumption
    · omega
theorem sq_mono {a b : Nat} (h : a ≤ b) : a * a ≤ b * b := Nat.mul_le_mul h h
theorem isq_lt (n : Nat) : n < (isq n + 1) * (isq n + 1) := by
  induction n with
  | zero => simp [isq]
  | succ n ih =>
    unfold isq
    split
    · have : (isq n + 1 + 1) * (isq n + 1 + 1) = (isq n + 1) * (isq n + 1) + 2 * (isq n + 1) + 1 := by
        rw [Nat.add_mul (isq n + 1) 1 (isq n + 1 + 1), Nat.mul_add]; omega
      omega
    · omega
theorem isq_unique {n r : Nat} (h1 : r * r ≤ n) (h2 : n < (r + 1) * (r + 1)) : isq n = r := by
  have a := isq_le n
  have b := isq_lt n
  by_cases h : isq n < r
  · have := sq_mono (show isq n + 1 ≤ r by omega); omega
  · by_cases h' : r < isq n
    · have := sq_mono (show r + 1 ≤ isq n by omega); omega
    · omega
theorem isq_bound {n : Nat} (h : n ≤ 9223372036854775807) : isq n ≤ 3037000499 := by
  by_cases hb : isq n ≤ 3037000499
  · exact hb
  · exfalso
    have := sq_mono (show 3037000500 ≤ isq n by omega)
    have := isq_le n
    omega

/-! ### Bits of signs -/
theorem i64_of_bv (v : BitVec 64) : (IntKind.i64.wrap (v.toNat : Int) < 0) ↔ v.msb = true := by
  rw [IntKind.wrap_i64, BitVec.msb_eq_decide]
  have := v.isLt
  simp only [decide_eq_true_eq]
  omega
theorem i64_rng (n : Int) : -9223372036854775808 ≤ IntKind.i64.wrap n ∧ IntKind.i64.wrap n ≤ 9223372036854775807 := by
  rw [IntKind.wrap_i64]; omega
theorem msb_of (x : Int) (h1 : -9223372036854775808 ≤ x) (h2 : x ≤ 9223372036854775807) : (BitVec.ofInt 64 x).msb = true ↔ x < 0 := by
  rw [BitVec.msb_eq_toInt, BitVec.toInt_ofInt, decide_eq_true_eq, Int.bmod_def]
  omega
theorem xor_neg (x y : Int) (h1 : -9223372036854775808 ≤ x) (h2 : x ≤ 9223372036854775807) (h3 : -9223372036854775808 ≤ y) (h4 : y ≤ 9223372036854775807) :
    bits .xor .i64 x y < 0 ↔ ¬ (x < 0 ↔ y < 0) := by
  show IntKind.i64.wrap ((BitVec.ofInt 64 x ^^^ BitVec.ofInt 64 y).toNat : Int) < 0 ↔ _
  rw [i64_of_bv, BitVec.msb_xor]
  have a := msb_of x h1 h2
  have b := msb_of y h3 h4
  rw [← a, ← b]
  cases (BitVec.ofInt 64 x).msb <;> cases (BitVec.ofInt 64 y).msb <;> simp
theorem and_neg (x y : Int) (h1 : -9223372036854775808 ≤ x) (h2 : x ≤ 9223372036854775807) (h3 : -9223372036854775808 ≤ y) (h4 : y ≤ 9223372036854775807) :
    bits .and .i64 x y < 0 ↔ (x < 0 ∧ y < 0) := by
  show IntKind.i64.wrap ((BitVec.ofInt 64 x &&& BitVec.ofInt 64 y).toNat : Int) < 0 ↔ _
  rw [i64_of_bv, BitVec.msb_and]
  have a := msb_of x h1 h2
  have b := msb_of y h3 h4
  rw [← a, ← b]
  cases (BitVec.ofInt 64 x).msb <;> cases (BitVec.ofInt 64 y).msb <;> simp
theorem xor_rng (x y : Int) : -9223372036854775808 ≤ bits .xor .i64 x y ∧ bits .xor .i64 x y ≤ 9223372036854775807 := i64_rng _
theorem wrap64_rng (n : Int) : -9223372036854775808 ≤ wrap64 n ∧ wrap64 n ≤ 9223372036854775807 := by unfold wrap64; omega
theorem add_test (a b : Int) (h1 : -9223372036854775808 ≤ a) (h2 : a ≤ 9223372036854775807) (h3 : -9223372036854775808 ≤ b) (h4 : b ≤ 9223372036854775807) :
    bits .and .i64 (bits .xor .i64 a (wrap64 (a + b))) (bits .xor .i64 b (wrap64 (a + b))) < 0 ↔ ¬ rm (a + b) = true := by
  have r := wrap64_rng (a + b)
  have x := xor_rng a (wrap64 (a + b))
  have y := xor_rng b (wrap64 (a + b))
  rw [and_neg _ _ x.1 x.2 y.1 y.2, xor_neg _ _ h1 h2 r.1 r.2, xor_neg _ _ h3 h4 r.1 r.2, rm_iff]
  unfold wrap64
  omega
theorem sub_test (a b : Int) (h1 : -9223372036854775808 ≤ a) (h2 : a ≤ 9223372036854775807) (h3 : -9223372036854775808 ≤ b) (h4 : b ≤ 9223372036854775807) :
    bits .and .i64 (bits .xor .i64 a b) (bits .xor .i64 a (wrap64 (a - b))) < 0 ↔ ¬ rm (a - b) = true := by
  have r := wrap64_rng (a - b)
  have x := xor_rng a (wrap64 (a - b))
  have y := xor_rng a b
  rw [and_neg _ _ y.1 y.2 x.1 x.2, xor_neg _ _ h1 h2 r.1 r.2, xor_neg _ _ h1 h2 h3 h4, rm_iff]
  unfold wrap64
  omega
theorem wrap_add (z : Int) (h : rm z = true) : wrap64 z = z := by
  rw [rm_iff] at h; unfold wrap64; omega

/-! ### Sizes -/
def mag (a : Int) : Nat := a.natAbs
theorem mag_le (a : Int) (h1 : -9223372036854775808 ≤ a) (h2 : a ≤ 9223372036854775807) : mag a ≤ 9223372036854775808 := by unfold mag; omega
theorem mag_neg (a : Int) (h1 : -9223372036854775808 ≤ a) (h : a < 0) : IntKind.u64.wrap (-IntKind.u64.wrap a) = (mag a : Nat) := by
  unfold mag; rw [IntKind.wrap_u64, IntKind.wrap_u64]; omega
theorem mag_pos (a : Int) (h2 : a ≤ 9223372036854775807) (h : 0 ≤ a) : IntKind.u64.wrap a = (mag a : Nat) := by
  unfold mag; rw [IntKind.wrap_u64]; omega
def neq (a b : Int) : Bool := !decide (a < 0) == decide (b < 0)

/-- a size with a sign -/
def sgn (m : Nat) (neg : Bool) : Int := if neg = true then -(m : Int) else (m : Int)
theorem sgn_mul (a b : Int) : sgn (mag a * mag b) (neq a b) = a * b := by
  unfold sgn mag neq
  rw [← Int.natAbs_mul]
  by_cases ha : a < 0 <;> by_cases hb : b < 0 <;> simp [ha, hb]
  · have := Int.mul_nonneg_of_nonpos_of_nonpos (Int.le_of_lt ha) (Int.le_of_lt hb); omega
  · have := Int.mul_nonpos_of_nonpos_of_nonneg (Int.le_of_lt ha) (Int.not_lt.mp hb); omega
  · have := Int.mul_nonpos_of_nonneg_of_nonpos (Int.not_lt.mp ha) (Int.le_of_lt hb); omega
  · have := Int.mul_nonneg (Int.not_lt.mp ha) (Int.not_lt.mp hb); omega
theorem abs_mul (a b : Int) : (a * b).natAbs = mag a * mag b := by unfold mag; rw [Int.natAbs_mul]
theorem mul_over (a b : Int) (h : 18446744073709551616 ≤ mag a * mag b) : ¬ rm (a * b) = true := by
  rw [rm_iff]; have := abs_mul a b; omega

/-! ### The bits of a root -/
def bitN : Nat → Nat
  | 0 => 0
  | k + 1 => 2 ^ k
theorem bitN_half (j : Nat) : 2 ^ j / 2 = bitN j := by
  cases j with
  | zero => rfl
  | succ j => show 2 ^ (j + 1) / 2 = 2 ^ j; rw [Nat.pow_succ]; omega

theorem mod_half (R B : Nat) (h : R % (2 * B) = 0) : R % B = 0 ∧ (R + B) % B = 0 := by
  have a : R % B = 0 := by
    have := Nat.mod_mul_left_mod R 2 B
    rw [h] at this; rw [← this]; exact Nat.zero_mod B
  exact ⟨a, by rw [Nat.add_mod_right]; exact a⟩

/-! ### The floored quotient of a product -/
theorem floor_pos (P c : Nat) (neg : Bool) (hn : neg = false) : sgn P neg / (c : Int) = ((P / c : Nat) : Int) := by
  subst hn; simp [sgn]
theorem floor_neg0 (P c : Nat) (neg : Bool) (hn : neg = true) (hc : 0 < c) (hr : P % c = 0) : sgn P neg / (c : Int) = -((P / c : Nat) : Int) := by
  subst hn
  have e := Nat.div_add_mod P c
  have e' : (c : Int) * ((P / c : Nat) : Int) = (P : Int) := by rw [← Int.natCast_mul]; omega
  apply Int.ediv_eq_of_eq_mul_right (by omega)
  rw [Int.mul_neg, e']; simp [sgn]
theorem floor_neg1 (P c : Nat) (neg : Bool) (hn : neg = true) (hc : 0 < c) (hr : P % c ≠ 0) : sgn P neg / (c : Int) = -((P / c + 1 : Nat) : Int) := by
  subst hn
  have e := Nat.div_add_mod P c
  have lt := Nat.mod_lt P hc
  have e' : (c : Int) * ((P / c : Nat) : Int) + ((P % c : Nat) : Int) = (P : Int) := by rw [← Int.natCast_mul]; omega
  generalize P / c = Q at *
  generalize P % c = R at *
  refine ((Int.ediv_emod_unique (r := (c : Int) - (R : Int)) (by omega)).mpr ⟨?_, by omega, by omega⟩).1
  have hs : sgn P true = -(P : Int) := rfl
  rw [hs, Int.mul_neg, Int.natCast_add, Int.mul_add]; omega
end Go.Proofs.YtdefgghhkknnpaaGreatDoor.q
/- The library's own contracts of math/bits.Mul64 and math/bits.LeadingZeros64, laid at this program: the upper and lower half of a product, and how many places a number can be moved up. -/
namespace Go.Proofs.YtdefgghhkknnpaaGreatDoor.q
open Go.Shelf Go.RowKit Go.Lib
set_option linter.unusedVariables false
set_option linter.unusedSimpArgs false
def renMul : Go.Shelf.Ren := ⟨fun | 264 => 173 | n => n, fun | 53 => 88 | 46 => 197 | n => n, fun | n => n⟩
theorem laysMul : Go.Proofs.Lays.n264 Tryz.prog renMul := {
  mixed := by kernel_rfl
  f264 := Tryz.func173.trans (congrArg some (by kernel_rfl))
  t46 := Tryz.underlying197
  a46 := Tryz.isAgg197
  z46 := Tryz.sizeOf197
  v46 := Tryz.zeroValue197
  t53 := Tryz.underlying88
  a53 := Tryz.isAgg88
  z53 := Tryz.sizeOf88
  v53 := Tryz.zeroValue88 }
theorem mul64_any (x y : Nat) (hx : x < 18446744073709551616) (hy : y < 18446744073709551616) (w : World) :
    Calls Tryz.prog 173 #[.int .u64 (x : Int), .int .u64 (y : Int)] w fun e w' => e = .returned (.tuple #[.int .u64 ((x * y / 18446744073709551616 : Nat) : Int), .int .u64 ((x * y % 18446744073709551616 : Nat) : Int)]) ∧ w = w' :=
  Calls.mono (Any.bits_Mul64 laysMul x y hx hy w) fun _ _ h => ⟨h.1, h.2.symm⟩

/-- how many bits a number takes -/
theorem bitLenAux_pos : ∀ (f x : Nat), 0 < x → x < 2 ^ f → 1 ≤ Lib.bitLenAux f x ∧ 2 ^ (Lib.bitLenAux f x - 1) ≤ x ∧ x < 2 ^ Lib.bitLenAux f x
  | 0, x, h, h2 => by simp at h2; omega
  | f + 1, x, h, h2 => by
    rw [Lib.bitLenAux, if_neg (by omega)]
    by_cases hx : x / 2 = 0
    · have : Lib.bitLenAux f (x / 2) = 0 := by
        rw [hx]; cases f <;> simp [Lib.bitLenAux]
      rw [this]; refine ⟨by omega, ?_, ?_⟩ <;> simp <;> omega
    · have ⟨a, b, c⟩ := bitLenAux_pos f (x / 2) (by omega) (by rw [Nat.pow_succ] at h2; omega)
      generalize Lib.bitLenAux f (x / 2) = n at *
      obtain ⟨m, rfl⟩ : ∃ m, n = m + 1 := ⟨n - 1, by omega⟩
      rw [show 1 + (m + 1) - 1 = m + 1 by omega, show 1 + (m + 1) = m + 1 + 1 by omega]
      rw [show m + 1 - 1 = m by omega] at b
      have e := Nat.pow_succ (n := 2) (m := m)
      have e' := Nat.pow_succ (n := 2) (m := m + 1)
      refine ⟨by omega, by omega, by omega⟩
/-- how many places a number can be moved up -/
def ups (x : Nat) : Nat := 64 - Lib.bitLen x
theorem ups_spec (x : Nat) (h : 0 < x) (h2 : x < 18446744073709551616) : ups x < 64 ∧ 9223372036854775808 ≤ x * 2 ^ ups x ∧ x * 2 ^ ups x < 18446744073709551616 := by
  have a := bitLenAux_pos 64 x h h2
  have b := Lib.bitLen_le x 64 (Nat.le_refl _) h2
  unfold ups
  show 64 - Lib.bitLen x < 64 ∧ _
  change 1 ≤ Lib.bitLen x ∧ 2 ^ (Lib.bitLen x - 1) ≤ x ∧ x < 2 ^ Lib.bitLen x at a
  generalize Lib.bitLen x = n at *
  have e1 : 2 ^ (n - 1) * 2 ^ (64 - n) = 9223372036854775808 := by rw [← Nat.pow_add, show n - 1 + (64 - n) = 63 by omega]
  have e2 : 2 ^ n * 2 ^ (64 - n) = 18446744073709551616 := by rw [← Nat.pow_add, show n + (64 - n) = 64 by omega]
  refine ⟨by omega, ?_, ?_⟩
  · rw [← e1]; exact Nat.mul_le_mul_right _ a.2.1
  · rw [← e2]; exact Nat.mul_lt_mul_of_pos_right a.2.2 (Nat.two_pow_pos _)
end Go.Proofs.YtdefgghhkknnpaaGreatDoor.q
/- What each function of layer q answers, for all numbers of 64 bits: Add, Sub, Mul, Div, Mod, Sqrt, Clamp and their helpers; the world stays as it was. No condition beside the kinds' own bounds. -/
namespace Go.Proofs.YtdefgghhkknnpaaGreatDoor.q
open Go.ChangeShapes Go.WideShapes Go.ChangeAt Go.RowKit
set_option linter.unusedVariables false
set_option linter.unusedSimpArgs false

theorem ret2_int {k k' : IntKind} {a b c d : Int} (h : a = b) (h' : c = d) : Ending.returned (.tuple #[.int k a, .int k' c]) = .returned (.tuple #[.int k b, .int k' d]) := by rw [h, h']
theorem ret2_bool {k : IntKind} {a b : Int} {c d : Bool} (h : a = b) (h' : c = d) : Ending.returned (.tuple #[.int k a, .bool c]) = .returned (.tuple #[.int k b, .bool d]) := by rw [h, h']
theorem ret_int {k : IntKind} {a b : Int} (h : a = b) : Ending.returned (.int k a) = .returned (.int k b) := by rw [h]

theorem add_any (a b : Int) (h1 : -9223372036854775808 ≤ a) (h2 : a ≤ 9223372036854775807) (h3 : -9223372036854775808 ≤ b) (h4 : b ≤ 9223372036854775807) (w : World) :
    Calls Tryz.prog 154 #[.int .i64 a, .int .i64 b] w fun e w' => e = .returned (.tuple #[.int .i64 (addV a b), .bool (addB a b)]) ∧ w = w' := by
  have T := add_test a b h1 h2 h3 h4
  by_cases hr : rm (a + b) = true
  · have hn : ¬ bits .and .i64 (bits .xor .i64 a (wrap64 (a + b))) (bits .xor .i64 b (wrap64 (a + b))) < 0 := by rw [T]; simpa using hr
    have hv : Hid (addV a b = wrap64 (a + b) ∧ addB a b = true) := Lib.hid ⟨by rw [wrap_add _ hr]; exact rv_yes hr, hr⟩
    clear T hr
    go_enter Tryz.func154, Tryz.ntmps154
    go_wp2
    go_ret2
    exact ⟨ret2_bool hv.out.1.symm hv.out.2.symm, rfl⟩
  · have hn : bits .and .i64 (bits .xor .i64 a (wrap64 (a + b))) (bits .xor .i64 b (wrap64 (a + b))) < 0 := by rw [T]; exact hr
    have hv : Hid (addV a b = 0 ∧ addB a b = false) := Lib.hid ⟨rv_no hr, Bool.eq_false_iff.mpr hr⟩
    clear T hr
    go_enter Tryz.func154, Tryz.ntmps154
    go_wp2
    go_ret2
    exact ⟨ret2_bool hv.out.1.symm hv.out.2.symm, rfl⟩

theorem size_any (a : Int) (h1 : -9223372036854775808 ≤ a) (h2 : a ≤ 9223372036854775807) (w : World) :
    Calls Tryz.prog 174 #[.int .i64 a] w fun e w' => e = .returned (.int .u64 ((mag a : Nat) : Int)) ∧ w = w' := by
  by_cases hn : a < 0
  · have hv := Lib.hid (mag_neg a h1 hn)
    go_enter Tryz.func174, Tryz.ntmps174
    go_wp2
    go_ret
    exact ⟨ret_int hv.out, rfl⟩
  · go_enter Tryz.func174, Tryz.ntmps174
    go_wp2
    go_ret
    exact ⟨ret_int (by unfold mag; omega), rfl⟩

theorem unlike_any (a b : Int) (w : World) :
    Calls Tryz.prog 176 #[.int .i64 a, .int .i64 b] w fun e w' => e = .returned (.bool (neq a b)) ∧ w = w' := by
  go_enter Tryz.func176, Tryz.ntmps176
  go_wp2
  go_ret
  exact ⟨rfl, rfl⟩

/-- A size with a sign, where it has room; else 0 and false. -/
def sgV (n : Nat) (b : Bool) : Int := rv (sgn n b)
def sgB (n : Nat) (b : Bool) : Bool := rm (sgn n b)
theorem signed_any (n : Nat) (b : Bool) (hn : n < 18446744073709551616) (w : World) :
    Calls Tryz.prog 175 #[.int .u64 (n : Int), .bool b] w fun e w' => e = .returned (.tuple #[.int .i64 (sgV n b), .bool (sgB n b)]) ∧ w = w' := by
  cases b
  · by_cases hr : (n : Int) ≤ 9223372036854775807
    · have hv : Hid (sgV n false = (n : Int) ∧ sgB n false = true) := Lib.hid (by
        have : rm (n : Int) = true := by rw [rm_iff]; omega
        exact ⟨rv_yes this, this⟩)
      go_enter Tryz.func175, Tryz.ntmps175
      go_wp2
      go_ret2
      exact ⟨ret2_bool hv.out.1.symm hv.out.2.symm, rfl⟩
    · have hv : Hid (sgV n false = 0 ∧ sgB n false = false) := Lib.hid (by
        have : ¬ rm (n : Int) = true := by rw [rm_iff]; omega
        exact ⟨rv_no this, Bool.eq_false_iff.mpr this⟩)
      go_enter Tryz.func175, Tryz.ntmps175
      go_wp2
      go_ret2
      exact ⟨ret2_bool hv.out.1.symm hv.out.2.symm, rfl⟩
  · by_cases hr : (n : Int) ≤ 9223372036854775808
    · have hv : Hid (sgV n true = wrap64 (IntKind.u64.wrap (-n)) ∧ sgB n true = true) := Lib.hid (by
        have : rm (-(n : Int)) = true := by rw [rm_iff]; omega
        refine ⟨?_, this⟩
        show rv (-(n : Int)) = _
        rw [rv_yes this, IntKind.wrap_u64]; unfold wrap64; omega)
      go_enter Tryz.func175, Tryz.ntmps175
      go_wp2
      go_ret2
      exact ⟨ret2_bool hv.out.1.symm hv.out.2.symm, rfl⟩
    · have hv : Hid (sgV n true = 0 ∧ sgB n true = false) := Lib.hid (by
        have : ¬ rm (-(n : Int)) = true := by rw [rm_iff]; omega
        exact ⟨rv_no this, Bool.eq_false_iff.mpr this⟩)
      go_enter Tryz.func175, Tryz.ntmps175
      go_wp2
      go_ret2
      exact ⟨ret2_bool hv.out.1.symm hv.out.2.symm, rfl⟩

theorem maskN (a : Nat) (ha : a < 18446744073709551616) : bits .and .u64 (a : Int) 4294967295 = ((a % 4294967296 : Nat) : Int) := by
  have h := u64_and_nat a 4294967295 ha (by omega)
  rw [show a &&& 4294967295 = a % 4294967296 from Nat.and_two_pow_sub_one_eq_mod a 32] at h
  exact h
theorem wrapN (a : Nat) (ha : a < 18446744073709551616) : IntKind.u64.wrap (a : Int) = (a : Int) := by rw [IntKind.wrap_u64]; omega
theorem wrapM (a : Nat) : IntKind.u64.wrap (a : Int) = ((a % 18446744073709551616 : Nat) : Int) := by rw [IntKind.wrap_u64]; omega
end Go.Proofs.YtdefgghhkknnpaaGreatDoor.q
/- What layer q's Mul, Div and Mod answer, for all numbers of 64 bits. No condition beside the kinds' own bounds. -/
namespace Go.Proofs.YtdefgghhkknnpaaGreatDoor.q
open Go.ChangeShapes Go.WideShapes Go.ChangeAt Go.RowKit
set_option linter.unusedVariables false
set_option linter.unusedSimpArgs false

theorem mul_any (a b : Int) (h1 : -9223372036854775808 ≤ a) (h2 : a ≤ 9223372036854775807) (h3 : -9223372036854775808 ≤ b) (h4 : b ≤ 9223372036854775807) (w : World) :
    Calls Tryz.prog 153 #[.int .i64 a, .int .i64 b] w fun e w' => e = .returned (.tuple #[.int .i64 (mulV a b), .bool (mulB a b)]) ∧ w = w' := by
  have ma := mag_le a h1 h2
  have mb := mag_le b h3 h4
  have HS := Lib.hid (sgn_mul a b)
  have HO := Lib.hid (mul_over a b)
  by_cases hh : mag a * mag b / 18446744073709551616 = 0
  · have hlt : mag a * mag b < 18446744073709551616 := by omega
    have hmod : mag a * mag b % 18446744073709551616 = mag a * mag b := Nat.mod_eq_of_lt hlt
    have hv : Hid (mulV a b = sgV (mag a * mag b) (neq a b) ∧ mulB a b = sgB (mag a * mag b) (neq a b)) := Lib.hid (by
      unfold mulV mulB sgV sgB; rw [HS.out]; exact ⟨rfl, rfl⟩)
    have cs := fun (w : World) => signed_any (mag a * mag b % 18446744073709551616) (neq a b) (by omega) w
    rw [hmod] at cs
    have cm := fun (w : World) => mul64_any (mag a) (mag b) (by omega) (by omega) w
    rw [hh, hmod] at cm
    generalize mag a * mag b = P at *
    clear hh hmod
    go_enter Tryz.func153, Tryz.ntmps153
    go_wp2_with (first | (go_at_call 174; with_reducible refine (size_any _ (by assumption) (by assumption) _).mono ?_; rintro e w' ⟨rfl, rfl⟩) | (go_at_call 173; with_reducible refine (cm _).mono ?_; rintro e w' ⟨rfl, rfl⟩) | (go_at_call 176; with_reducible refine (unlike_any _ _ _).mono ?_; rintro e w' ⟨rfl, rfl⟩) | (go_at_call 175; with_reducible refine (cs _).mono ?_; rintro e w' ⟨rfl, rfl⟩))
    go_ret2
    exact ⟨ret2_bool hv.out.1.symm hv.out.2.symm, rfl⟩
  · have hv : Hid (mulV a b = 0 ∧ mulB a b = false) := Lib.hid (by
      have := HO.out (by omega)
      exact ⟨rv_no this, Bool.eq_false_iff.mpr this⟩)
    have cm := fun (w : World) => mul64_any (mag a) (mag b) (by omega) (by omega) w
    generalize mag a * mag b / 18446744073709551616 = hi at *
    generalize mag a * mag b % 18446744073709551616 = lo at *
    have hi0 : (0 : Int) < hi := by omega
    clear hh HS HO
    go_enter Tryz.func153, Tryz.ntmps153
    go_wp2_with (first | (go_at_call 174; with_reducible refine (size_any _ (by assumption) (by assumption) _).mono ?_; rintro e w' ⟨rfl, rfl⟩) | (go_at_call 173; with_reducible refine (cm _).mono ?_; rintro e w' ⟨rfl, rfl⟩))
    go_ret2
    exact ⟨ret2_bool hv.out.1.symm hv.out.2.symm, rfl⟩

theorem tdiv_abs (a b : Int) (hb : b ≠ 0) : (a.tdiv b).natAbs = a.natAbs / b.natAbs := Int.natAbs_tdiv a b
theorem tdiv_room (a b : Int) (h1 : -9223372036854775808 ≤ a) (h2 : a ≤ 9223372036854775807) (hb : b ≠ 0) : rm (a.tdiv b) = true ↔ ¬ (a = -9223372036854775808 ∧ b = -1) := by
  rw [rm_iff]
  have ab := tdiv_abs a b hb
  by_cases h1' : b = 1
  · subst h1'; rw [Int.tdiv_one]; omega
  · by_cases hm1 : b = -1
    · subst hm1
      have e : a.tdiv (-1) = -a := by rw [Int.tdiv_neg, Int.tdiv_one]
      rw [e]; omega
    · have h2' : a.natAbs / b.natAbs ≤ a.natAbs / 2 := Nat.div_le_div_left (by omega) (by omega)
      constructor
      · omega
      · intro _; omega
end Go.Proofs.YtdefgghhkknnpaaGreatDoor.q
/- The library's own contracts of strings.HasPrefix, strings.Cut and strings.Clone, laid at this program. Their conditions: a text of fewer than 2^32 bytes; of Cut, that the library's variable MaxLen holds some number. -/
namespace Go.Proofs.YtdefgghhkknnpaaGreatDoor.tk
open Go.Shelf Go.RowKit Go.Lib Go.Proofs.YtdefgghhkknnpaaGreatDoor
set_option linter.unusedVariables false
set_option linter.unusedSimpArgs false

/-- the library's variable holds some number -/
def MaxL (W : World) : Prop := ∃ m, W.cell? ⟨1, 0, none⟩ = some (.int .i64 m)
theorem maxl_of {W : World} (h : W.ShapedOpen Tryz.prog) : MaxL W :=
  cell_of_shapedOpen_int h (zero := #[.int .i64 0]) (t := 3) (of_decide_eq_true (by kernel_rfl)) (by kernel_rfl) (by kernel_rfl) (by kernel_rfl) (by kernel_rfl) Tryz.underlying3
theorem MaxL.lt {w : World} (h : MaxL w) : 1 < w.heap.size := by
  obtain ⟨m, hm⟩ := h
  rcases Nat.lt_or_ge 1 w.heap.size with h' | h'
  · exact h'
  · unfold World.cell? at hm
    rw [Array.getElem?_eq_none h'] at hm
    simp at hm
theorem MaxL.below {w w' : World} (h : MaxL w) (hb : Below w.heap.size w w') : MaxL w' := by
  have hlt := h.lt
  obtain ⟨m, hm⟩ := h
  exact ⟨m, (hb.cell (p := ⟨1, 0, none⟩) hlt).trans hm⟩
theorem MaxL.under {w w' : World} {base : Nat} (h : MaxL w) (h2 : 1 < base) (hb : Below base w w') : MaxL w' := by
  obtain ⟨m, hm⟩ := h
  exact ⟨m, (hb.cell (p := ⟨1, 0, none⟩) h2).trans hm⟩
def renS : Go.Shelf.Ren := ⟨fun | 99 => 105 | 206 => 130 | 145 => 106 | 217 => 169 | 219 => 152 | 220 => 131 | 224 => 171 | 225 => 170 | 266 => 182 | 267 => 172 | 314 => 183 | 316 => 155 | n => n, fun | 0 => 0 | 3 => 3 | 4 => 4 | 5 => 5 | 9 => 9 | 46 => 197 | 51 => 194 | 59 => 152 | 146 => 208 | 37 => 51 | 127 => 86 | n => n, fun | 1 => 1 | n => n⟩
theorem laysC : Go.Proofs.Lays.n145 Tryz.prog renS := {
  mixed := by kernel_rfl
  f145 := Tryz.func106.trans (congrArg some (by kernel_rfl))
  f217 := Tryz.func169.trans (congrArg some (by kernel_rfl))
  f219 := Tryz.func152.trans (congrArg some (by kernel_rfl))
  f220 := Tryz.func131.trans (congrArg some (by kernel_rfl))
  f224 := Tryz.func171.trans (congrArg some (by kernel_rfl))
  f225 := Tryz.func170.trans (congrArg some (by kernel_rfl))
  f266 := Tryz.func182.trans (congrArg some (by kernel_rfl))
  f267 := Tryz.func172.trans (congrArg some (by kernel_rfl))
  f314 := Tryz.func183.trans (congrArg some (by kernel_rfl))
  t3 := Tryz.underlying3
  a3 := Tryz.isAgg3
  z3 := Tryz.sizeOf3
  v3 := Tryz.zeroValue3
  t4 := Tryz.underlying4
  a4 := Tryz.isAgg4
  z4 := Tryz.sizeOf4
  v4 := Tryz.zeroValue4
  t5 := Tryz.underlying5
  a5 := Tryz.isAgg5
  z5 := Tryz.sizeOf5
  v5 := Tryz.zeroValue5
  t9 := Tryz.underlying9
  a9 := Tryz.isAgg9
  z9 := Tryz.sizeOf9
  v9 := Tryz.zeroValue9
  t46 := Tryz.underlying197
  a46 := Tryz.isAgg197
  z46 := Tryz.sizeOf197
  v46 := Tryz.zeroValue197
  t51 := Tryz.underlying194
  a51 := Tryz.isAgg194
  z51 := Tryz.sizeOf194
  v51 := Tryz.zeroValue194
  t59 := Tryz.underlying152
  a59 := Tryz.isAgg152
  z59 := Tryz.sizeOf152
  v59 := Tryz.zeroValue152
  t146 := Tryz.underlying208
  a146 := Tryz.isAgg208
  z146 := Tryz.sizeOf208
  v146 := Tryz.zeroValue208
  g1 := by kernel_rfl }
theorem laysP : Go.Proofs.Lays.n99 Tryz.prog renS := {
  mixed := by kernel_rfl
  f99 := Tryz.func105.trans (congrArg some (by kernel_rfl))
  f206 := Tryz.func130.trans (congrArg some (by kernel_rfl))
  t3 := Tryz.underlying3
  a3 := Tryz.isAgg3
  z3 := Tryz.sizeOf3
  v3 := Tryz.zeroValue3
  t4 := Tryz.underlying4
  a4 := Tryz.isAgg4
  z4 := Tryz.sizeOf4
  v4 := Tryz.zeroValue4
  t9 := Tryz.underlying9
  a9 := Tryz.isAgg9
  z9 := Tryz.sizeOf9
  v9 := Tryz.zeroValue9 }
theorem laysN : Go.Proofs.LaysM.n316 Tryz.prog renS := {
  mixed := by kernel_rfl
  f316 := Tryz.func155.trans (congrArg some (by kernel_rfl))
  t0 := Tryz.underlying0
  a0 := Tryz.isAgg0
  z0 := Tryz.sizeOf0
  v0 := Tryz.zeroValue0
  t3 := Tryz.underlying3
  a3 := Tryz.isAgg3
  z3 := Tryz.sizeOf3
  v3 := Tryz.zeroValue3
  t4 := Tryz.underlying4
  a4 := Tryz.isAgg4
  z4 := Tryz.sizeOf4
  v4 := Tryz.zeroValue4
  t9 := Tryz.underlying9
  a9 := Tryz.isAgg9
  z9 := Tryz.sizeOf9
  v9 := Tryz.zeroValue9
  t37 := Tryz.underlying51
  a37 := Tryz.isAgg51
  z37 := Tryz.sizeOf51
  v37 := Tryz.zeroValue51
  t127 := Tryz.underlying86
  a127 := Tryz.isAgg86
  z127 := Tryz.sizeOf86
  v127 := Tryz.zeroValue86
  t5 := Tryz.underlying5
  a5 := Tryz.isAgg5
  z5 := Tryz.sizeOf5
  v5 := Tryz.zeroValue5
  i0 := by kernel_rfl
  i3 := by kernel_rfl
  i4 := by kernel_rfl
  i5 := by kernel_rfl
  i9 := by kernel_rfl
  i37 := by kernel_rfl
  i127 := by kernel_rfl }
theorem hasPrefix_any (s p : ByteArray) (w : World) : Calls Tryz.prog 105 #[.string s, .string p] w fun e w' => e = .returned (.bool (Lib.hasPrefix s.data.toList p.data.toList)) ∧ w = w' :=
  Calls.mono (Any.strings_HasPrefix laysP s p w) fun _ _ h => ⟨h.1, h.2.symm⟩
theorem cut_any (s p : ByteArray) (hs : s.size ≤ 60000) (w : World) (hm : MaxL w) : Calls Tryz.prog 106 #[.string s, .string p] w fun e w' => e = .returned (.tuple #[.string ⟨(Lib.cut s.data.toList p.data.toList).1.toArray⟩, .string ⟨(Lib.cut s.data.toList p.data.toList).2.1.toArray⟩, .bool (Lib.cut s.data.toList p.data.toList).2.2]) ∧ ∃ n, w' = w.drewN n := by
  obtain ⟨m, hm⟩ := hm
  exact Any.strings_Cut laysC s p m w (by omega) hm
theorem liteclone_any (s : ByteArray) (hs : s.size ≤ 60000) (w : World) : Calls Tryz.prog 155 #[.string s] w fun e w' => e = .returned (.string s) ∧ Below w.heap.size w w' :=
  Any.stringslite_Clone laysN s w (by omega)
theorem clone_any (s : ByteArray) (hs : s.size ≤ 60000) (w : World) : Calls Tryz.prog 139 #[.string s] w fun e w' => e = .returned (.string s) ∧ Below w.heap.size w w' := by
  have C := Lib.hid fun W => liteclone_any s hs W
  clear hs
  go_enter Tryz.func139, Tryz.ntmps139
  go_wp2_with (go_at_call 155; (with_reducible refine (C.out _).mono ?_); rintro e w1 ⟨rfl, hb⟩; have HB := Lib.hid hb; clear hb)
  go_ret
  exact ⟨rfl, HB.out⟩
end Go.Proofs.YtdefgghhkknnpaaGreatDoor.tk
