/- Plain facts on a quotient of 128 bits by 64, found in two digits of 32 bits: the guess of a digit, how it is lowered, and what the two digits make. No condition beyond what each line says. -/
import Derived.Test.YtaohidaijlcplaaQMath
namespace Go.Proofs.Ytaohidaijlcplaa.q

/-! ### One digit: Y = y1 * 2^32 + y0, u < Y -/
def dig (u u1 Y : Nat) : Nat := (u * 4294967296 + u1) / Y
def rst (u u1 Y : Nat) : Nat := (u * 4294967296 + u1) % Y
/-- what holds at the head of the loop that lowers the guess -/
def Guess (u u1 y1 y0 q r : Nat) : Prop := q * y1 + r = u ∧ dig u u1 (y1 * 4294967296 + y0) ≤ q ∧ q ≤ 4294967297 ∧ r < 4294967296

theorem mulY (q y1 y0 : Nat) : q * (y1 * 4294967296 + y0) = q * y1 * 4294967296 + q * y0 := by rw [Nat.mul_add, Nat.mul_assoc]
theorem dig_lt (u u1 Y : Nat) (hu : u < Y) (h1 : u1 < 4294967296) : dig u u1 Y < 4294967296 := by
  unfold dig
  apply Nat.div_lt_of_lt_mul
  have : (u + 1) * 4294967296 ≤ Y * 4294967296 := Nat.mul_le_mul_right _ hu
  omega
theorem guess_init (u u1 y1 y0 : Nat) (hu : u < y1 * 4294967296 + y0) (h1 : u1 < 4294967296) (hy0 : y0 < 4294967296) (hy1 : 2147483648 ≤ y1) (hy1' : y1 < 4294967296) :
    Guess u u1 y1 y0 (u / y1) (u % y1) := by
  have hp : 0 < y1 := by omega
  refine ⟨Nat.div_add_mod' u y1, ?_, ?_, Nat.lt_trans (Nat.mod_lt u hp) hy1'⟩
  · rw [Nat.le_div_iff_mul_le hp]
    have a := Nat.div_mul_le_self (u * 4294967296 + u1) (y1 * 4294967296 + y0)
    have b := mulY (dig u u1 (y1 * 4294967296 + y0)) y1 y0
    unfold dig at *
    omega
  · have : u / y1 < 4294967298 := by
      apply Nat.div_lt_of_lt_mul
      rw [show (4294967298 : Nat) = 4294967296 + 2 from rfl, Nat.mul_add]
      have h : 4294967296 ≤ y1 * 2 := Nat.mul_le_mul_right 2 hy1
      clear hy1 hy1' hp
      generalize y1 * 2 = B at *
      generalize y1 * 4294967296 = A at *
      omega
    omega
theorem guess_stop (u u1 y1 y0 q r : Nat) (hp : 0 < y1) (g : Guess u u1 y1 y0 q r) (hc : q * y0 ≤ 4294967296 * r + u1) : q = dig u u1 (y1 * 4294967296 + y0) := by
  obtain ⟨a, b, c, d⟩ := g
  have : q ≤ dig u u1 (y1 * 4294967296 + y0) := by
    unfold dig
    rw [Nat.le_div_iff_mul_le (by omega), mulY]
    omega
  omega
theorem guess_high (u u1 y1 y0 q r : Nat) (g : Guess u u1 y1 y0 q r) (hu : u < y1 * 4294967296 + y0) (h1 : u1 < 4294967296)
    (hc : 4294967296 ≤ q ∨ 4294967296 * r + u1 < q * y0) : dig u u1 (y1 * 4294967296 + y0) ≤ q - 1 ∧ 1 ≤ q := by
  obtain ⟨a, b, c, d⟩ := g
  have hl := dig_lt u u1 (y1 * 4294967296 + y0) hu h1
  have : dig u u1 (y1 * 4294967296 + y0) < q := by
    rcases hc with h | h
    · omega
    · unfold dig
      rw [Nat.div_lt_iff_lt_mul (by omega), mulY]
      omega
  omega
theorem guess_next (u u1 y1 y0 q r : Nat) (g : Guess u u1 y1 y0 q r) (hu : u < y1 * 4294967296 + y0) (h1 : u1 < 4294967296)
    (hc : 4294967296 ≤ q ∨ 4294967296 * r + u1 < q * y0) (hr : r + y1 < 4294967296) : Guess u u1 y1 y0 (q - 1) (r + y1) := by
  have h := guess_high u u1 y1 y0 q r g hu h1 hc
  obtain ⟨a, b, c, d⟩ := g
  refine ⟨?_, h.1, by omega, hr⟩
  have : q * y1 = (q - 1) * y1 + y1 := by rw [← Nat.succ_mul]; congr 1; omega
  omega
theorem guess_break (u u1 y1 y0 q r : Nat) (hp : 0 < y1) (g : Guess u u1 y1 y0 q r) (hu : u < y1 * 4294967296 + y0) (h1 : u1 < 4294967296) (hy0 : y0 < 4294967296)
    (hc : 4294967296 ≤ q ∨ 4294967296 * r + u1 < q * y0) (hr : 4294967296 ≤ r + y1) : q - 1 = dig u u1 (y1 * 4294967296 + y0) := by
  have h := guess_high u u1 y1 y0 q r g hu h1 hc
  obtain ⟨a, b, c, d⟩ := g
  have e : q * y1 = (q - 1) * y1 + y1 := by rw [← Nat.succ_mul]; congr 1; omega
  have m : (q - 1) * y0 ≤ 4294967296 * 4294967295 := Nat.mul_le_mul (by omega) (by omega)
  have : q - 1 ≤ dig u u1 (y1 * 4294967296 + y0) := by
    unfold dig
    rw [Nat.le_div_iff_mul_le (by omega), mulY]
    omega
  omega
/-- what is left, as the machine reckons it -/
theorem rest_is (u u1 Y : Nat) : u * 4294967296 + u1 = dig u u1 Y * Y + rst u u1 Y := by
  unfold dig rst; exact (Nat.div_add_mod' _ _).symm

/-! ### Two digits -/
theorem two_digits (u a b Y : Nat) (hY : 0 < Y) : dig u a Y * 4294967296 + dig (rst u a Y) b Y = (u * 18446744073709551616 + (a * 4294967296 + b)) / Y ∧
    rst (rst u a Y) b Y = (u * 18446744073709551616 + (a * 4294967296 + b)) % Y := by
  have e1 := rest_is u a Y
  have e2 := rest_is (rst u a Y) b Y
  have l2 : rst (rst u a Y) b Y < Y := Nat.mod_lt _ hY
  have e : u * 18446744073709551616 + (a * 4294967296 + b) = Y * (dig u a Y * 4294967296 + dig (rst u a Y) b Y) + rst (rst u a Y) b Y := by
    generalize dig u a Y = q1 at *
    generalize rst u a Y = r1 at *
    generalize dig r1 b Y = q0 at *
    generalize rst r1 b Y = r0 at *
    have e3 : (u * 4294967296 + a) * 4294967296 = u * 18446744073709551616 + a * 4294967296 := by rw [Nat.add_mul, Nat.mul_assoc]
    have e4 : (q1 * Y + r1) * 4294967296 = q1 * 4294967296 * Y + r1 * 4294967296 := by rw [Nat.add_mul, Nat.mul_right_comm]
    rw [Nat.mul_comm Y, Nat.add_mul, ← Nat.add_assoc, ← e3, e1, e4, Nat.add_assoc, e2, Nat.add_assoc]
  rw [e]
  generalize dig u a Y * 4294967296 + dig (rst u a Y) b Y = q
  generalize rst (rst u a Y) b Y = r at *
  exact ⟨by rw [Nat.mul_add_div hY, Nat.div_eq_of_lt l2]; omega, by rw [Nat.mul_add_mod, Nat.mod_eq_of_lt l2]⟩

/-! ### The numbers moved up by s places -/
theorem up_split (hi lo s : Nat) (hs : s ≤ 64) :
    (hi * 18446744073709551616 + lo) * 2 ^ s = (hi * 2 ^ s + lo / 2 ^ (64 - s)) * 18446744073709551616 + lo * 2 ^ s % 18446744073709551616 := by
  have e64 : 2 ^ (64 - s) * 2 ^ s = 18446744073709551616 := by rw [← Nat.pow_add, show 64 - s + s = 64 by omega]
  have d : lo * 2 ^ s / 18446744073709551616 = lo / 2 ^ (64 - s) := by
    rw [← e64, Nat.mul_div_mul_right _ _ (Nat.two_pow_pos s)]
  have m := Nat.div_add_mod' (lo * 2 ^ s) 18446744073709551616
  rw [d] at m
  rw [Nat.add_mul, Nat.mul_right_comm, Nat.add_mul (hi * 2 ^ s), Nat.add_assoc, m]
theorem up_quot (N y s : Nat) : N * 2 ^ s / (y * 2 ^ s) = N / y := Nat.mul_div_mul_right _ _ (Nat.two_pow_pos s)
theorem up_rest (N y s : Nat) : N * 2 ^ s % (y * 2 ^ s) / 2 ^ s = N % y := by
  rw [Nat.mul_mod_mul_right, Nat.mul_div_cancel _ (Nat.two_pow_pos s)]
end Go.Proofs.Ytaohidaijlcplaa.q
