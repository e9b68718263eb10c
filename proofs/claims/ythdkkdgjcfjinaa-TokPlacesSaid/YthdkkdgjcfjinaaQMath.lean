/- Plain facts on whole numbers for layer q: what a sum, a difference, a product, a quotient, a rest, a floored quotient and a square root are, and when they have room. No condition. -/
import Derived.WalkKit
import Derived.Laws.BitsAllLaws
namespace Go.Proofs.Ythdkkdgjcfjinaa.q
open Go.RowKit

/-! ### What the document's answers are -/
def rm (z : Int) : Bool := decide (-9223372036854775808 ≤ z ∧ z ≤ 9223372036854775807)
def rv (z : Int) : Int := if rm z = true then z else 0
def addV (a b : Int) : Int := rv (a + b)
def addB (a b : Int) : Bool := rm (a + b)
def subV (a b : Int) : Int := rv (a - b)
def subB (a b : Int) : Bool := rm (a - b)
def mulV (a b : Int) : Int := rv (a * b)
def mulB (a b : Int) : Bool := rm (a * b)
def divV (a b : Int) : Int := if b = 0 then 0 else rv (a.tdiv b)
def divE (a b : Int) : Int := if b = 0 then 3 else if rm (a.tdiv b) = true then 0 else 2
def modV (a b : Int) : Int := if b = 0 then 0 else a.tmod b
def modE (_a b : Int) : Int := if b = 0 then 3 else 0
def mdV (a b c : Int) : Int := if c ≤ 0 then 0 else rv (a * b / c)
def mdE (a b c : Int) : Int := if c = 0 then 3 else if c < 0 then 1 else if rm (a * b / c) = true then 0 else 2
def isq : Nat → Nat
  | 0 => 0
  | n + 1 => if (isq n + 1) * (isq n + 1) ≤ n + 1 then isq n + 1 else isq n
def sqrtV (n : Int) : Int := (isq n.toNat : Nat)
def clampV (n lo hi : Int) : Int := max lo (min n hi)

theorem rm_iff {z : Int} : rm z = true ↔ (-9223372036854775808 ≤ z ∧ z ≤ 9223372036854775807) := by simp [rm]
theorem rv_yes {z : Int} (h : rm z = true) : rv z = z := by simp [rv, h]
theorem rv_no {z : Int} (h : ¬ rm z = true) : rv z = 0 := by simp [rv, h]

/-! ### Roots -/
theorem isq_le (n : Nat) : isq n * isq n ≤ n := by
  induction n with
  | zero => simp [isq]
  | succ n ih =>
    unfold isq
    split
    · assumption
    · omega
theorem sq_mono {a b : Nat} (h : a ≤ b) : a * a ≤ b * b := Nat.mul_le_mul h h
theorem isq_lt (n : Nat) : n < (isq n + 1) * (isq n + 1) := by
  induction n with
  | zero => simp [isq]
  | succ n ih =>
    unfold isq
    split
    · have : (isq n + 1 + 1) * (isq n + 1 + 1) = (isq n + 1) * (isq n + 1) + 2 * (isq n + 1) + 1 := by
        rw [Nat.add_mul (isq n + 1) 1 (isq n + 1 + 1), Nat.mul_add]; omega
      omega
    · omega
theorem isq_unique {n r : Nat} (h1 : r * r ≤ n) (h2 : n < (r + 1) * (r + 1)) : isq n = r := by
  have a := isq_le n
  have b := isq_lt n
  by_cases h : isq n < r
  · have := sq_mono (show isq n + 1 ≤ r by omega); omega
  · by_cases h' : r < isq n
    · have := sq_mono (show r + 1 ≤ isq n by omega); omega
    · omega
theorem isq_bound {n : Nat} (h : n ≤ 9223372036854775807) : isq n ≤ 3037000499 := by
  by_cases hb : isq n ≤ 3037000499
  · exact hb
  · exfalso
    have := sq_mono (show 3037000500 ≤ isq n by omega)
    have := isq_le n
    omega

/-! ### Bits of signs -/
theorem i64_of_bv (v : BitVec 64) : (IntKind.i64.wrap (v.toNat : Int) < 0) ↔ v.msb = true := by
  rw [IntKind.wrap_i64, BitVec.msb_eq_decide]
  have := v.isLt
  simp only [decide_eq_true_eq]
  omega
theorem i64_rng (n : Int) : -9223372036854775808 ≤ IntKind.i64.wrap n ∧ IntKind.i64.wrap n ≤ 9223372036854775807 := by
  rw [IntKind.wrap_i64]; omega
theorem msb_of (x : Int) (h1 : -9223372036854775808 ≤ x) (h2 : x ≤ 9223372036854775807) : (BitVec.ofInt 64 x).msb = true ↔ x < 0 := by
  rw [BitVec.msb_eq_toInt, BitVec.toInt_ofInt, decide_eq_true_eq, Int.bmod_def]
  omega
theorem xor_neg (x y : Int) (h1 : -9223372036854775808 ≤ x) (h2 : x ≤ 9223372036854775807) (h3 : -9223372036854775808 ≤ y) (h4 : y ≤ 9223372036854775807) :
    bits .xor .i64 x y < 0 ↔ ¬ (x < 0 ↔ y < 0) := by
  show IntKind.i64.wrap ((BitVec.ofInt 64 x ^^^ BitVec.ofInt 64 y).toNat : Int) < 0 ↔ _
  rw [i64_of_bv, BitVec.msb_xor]
  have a := msb_of x h1 h2
  have b := msb_of y h3 h4
  rw [← a, ← b]
  cases (BitVec.ofInt 64 x).msb <;> cases (BitVec.ofInt 64 y).msb <;> simp
theorem and_neg (x y : Int) (h1 : -9223372036854775808 ≤ x) (h2 : x ≤ 9223372036854775807) (h3 : -9223372036854775808 ≤ y) (h4 : y ≤ 9223372036854775807) :
    bits .and .i64 x y < 0 ↔ (x < 0 ∧ y < 0) := by
  show IntKind.i64.wrap ((BitVec.ofInt 64 x &&& BitVec.ofInt 64 y).toNat : Int) < 0 ↔ _
  rw [i64_of_bv, BitVec.msb_and]
  have a := msb_of x h1 h2
  have b := msb_of y h3 h4
  rw [← a, ← b]
  cases (BitVec.ofInt 64 x).msb <;> cases (BitVec.ofInt 64 y).msb <;> simp
theorem xor_rng (x y : Int) : -9223372036854775808 ≤ bits .xor .i64 x y ∧ bits .xor .i64 x y ≤ 9223372036854775807 := i64_rng _
theorem wrap64_rng (n : Int) : -9223372036854775808 ≤ wrap64 n ∧ wrap64 n ≤ 9223372036854775807 := by unfold wrap64; omega
theorem add_test (a b : Int) (h1 : -9223372036854775808 ≤ a) (h2 : a ≤ 9223372036854775807) (h3 : -9223372036854775808 ≤ b) (h4 : b ≤ 9223372036854775807) :
    bits .and .i64 (bits .xor .i64 a (wrap64 (a + b))) (bits .xor .i64 b (wrap64 (a + b))) < 0 ↔ ¬ rm (a + b) = true := by
  have r := wrap64_rng (a + b)
  have x := xor_rng a (wrap64 (a + b))
  have y := xor_rng b (wrap64 (a + b))
  rw [and_neg _ _ x.1 x.2 y.1 y.2, xor_neg _ _ h1 h2 r.1 r.2, xor_neg _ _ h3 h4 r.1 r.2, rm_iff]
  unfold wrap64
  omega
theorem sub_test (a b : Int) (h1 : -9223372036854775808 ≤ a) (h2 : a ≤ 9223372036854775807) (h3 : -9223372036854775808 ≤ b) (h4 : b ≤ 9223372036854775807) :
    bits .and .i64 (bits .xor .i64 a b) (bits .xor .i64 a (wrap64 (a - b))) < 0 ↔ ¬ rm (a - b) = true := by
  have r := wrap64_rng (a - b)
  have x := xor_rng a (wrap64 (a - b))
  have y := xor_rng a b
  rw [and_neg _ _ y.1 y.2 x.1 x.2, xor_neg _ _ h1 h2 r.1 r.2, xor_neg _ _ h1 h2 h3 h4, rm_iff]
  unfold wrap64
  omega
theorem wrap_add (z : Int) (h : rm z = true) : wrap64 z = z := by
  rw [rm_iff] at h; unfold wrap64; omega

/-! ### Sizes -/
def mag (a : Int) : Nat := a.natAbs
theorem mag_le (a : Int) (h1 : -9223372036854775808 ≤ a) (h2 : a ≤ 9223372036854775807) : mag a ≤ 9223372036854775808 := by unfold mag; omega
theorem mag_neg (a : Int) (h1 : -9223372036854775808 ≤ a) (h : a < 0) : IntKind.u64.wrap (-IntKind.u64.wrap a) = (mag a : Nat) := by
  unfold mag; rw [IntKind.wrap_u64, IntKind.wrap_u64]; omega
theorem mag_pos (a : Int) (h2 : a ≤ 9223372036854775807) (h : 0 ≤ a) : IntKind.u64.wrap a = (mag a : Nat) := by
  unfold mag; rw [IntKind.wrap_u64]; omega
def neq (a b : Int) : Bool := !decide (a < 0) == decide (b < 0)

/-- a size with a sign -/
def sgn (m : Nat) (neg : Bool) : Int := if neg = true then -(m : Int) else (m : Int)
theorem sgn_mul (a b : Int) : sgn (mag a * mag b) (neq a b) = a * b := by
  unfold sgn mag neq
  rw [← Int.natAbs_mul]
  by_cases ha : a < 0 <;> by_cases hb : b < 0 <;> simp [ha, hb]
  · have := Int.mul_nonneg_of_nonpos_of_nonpos (Int.le_of_lt ha) (Int.le_of_lt hb); omega
  · have := Int.mul_nonpos_of_nonpos_of_nonneg (Int.le_of_lt ha) (Int.not_lt.mp hb); omega
  · have := Int.mul_nonpos_of_nonneg_of_nonpos (Int.not_lt.mp ha) (Int.le_of_lt hb); omega
  · have := Int.mul_nonneg (Int.not_lt.mp ha) (Int.not_lt.mp hb); omega
theorem abs_mul (a b : Int) : (a * b).natAbs = mag a * mag b := by unfold mag; rw [Int.natAbs_mul]
theorem mul_over (a b : Int) (h : 18446744073709551616 ≤ mag a * mag b) : ¬ rm (a * b) = true := by
  rw [rm_iff]; have := abs_mul a b; omega

/-! ### The bits of a root -/
def bitN : Nat → Nat
  | 0 => 0
  | k + 1 => 2 ^ k
theorem bitN_half (j : Nat) : 2 ^ j / 2 = bitN j := by
  cases j with
  | zero => rfl
  | succ j => show 2 ^ (j + 1) / 2 = 2 ^ j; rw [Nat.pow_succ]; omega

theorem mod_half (R B : Nat) (h : R % (2 * B) = 0) : R % B = 0 ∧ (R + B) % B = 0 := by
  have a : R % B = 0 := by
    have := Nat.mod_mul_left_mod R 2 B
    rw [h] at this; rw [← this]; exact Nat.zero_mod B
  exact ⟨a, by rw [Nat.add_mod_right]; exact a⟩

/-! ### The floored quotient of a product -/
theorem floor_pos (P c : Nat) (neg : Bool) (hn : neg = false) : sgn P neg / (c : Int) = ((P / c : Nat) : Int) := by
  subst hn; simp [sgn]
theorem floor_neg0 (P c : Nat) (neg : Bool) (hn : neg = true) (hc : 0 < c) (hr : P % c = 0) : sgn P neg / (c : Int) = -((P / c : Nat) : Int) := by
  subst hn
  have e := Nat.div_add_mod P c
  have e' : (c : Int) * ((P / c : Nat) : Int) = (P : Int) := by rw [← Int.natCast_mul]; omega
  apply Int.ediv_eq_of_eq_mul_right (by omega)
  rw [Int.mul_neg, e']; simp [sgn]
theorem floor_neg1 (P c : Nat) (neg : Bool) (hn : neg = true) (hc : 0 < c) (hr : P % c ≠ 0) : sgn P neg / (c : Int) = -((P / c + 1 : Nat) : Int) := by
  subst hn
  have e := Nat.div_add_mod P c
  have lt := Nat.mod_lt P hc
  have e' : (c : Int) * ((P / c : Nat) : Int) + ((P % c : Nat) : Int) = (P : Int) := by rw [← Int.natCast_mul]; omega
  generalize P / c = Q at *
  generalize P % c = R at *
  refine ((Int.ediv_emod_unique (r := (c : Int) - (R : Int)) (by omega)).mpr ⟨?_, by omega, by omega⟩).1
  have hs : sgn P true = -(P : Int) := rfl
  rw [hs, Int.mul_neg, Int.natCast_add, Int.mul_add]; omega
end Go.Proofs.Ythdkkdgjcfjinaa.q
