/- Plain facts on a quotient found bit by bit, and on five cells that hold a number of four parts. No condition beyond what each line says. -/
import Derived.Test.YtaohidaijlcplaaRTimes
namespace Go.Proofs.Ytaohidaijlcplaa.r
open Go.ChangeShapes Go.WideShapes Go.ChangeAt Go.RowKit Go.Proofs.Ytaohidaijlcplaa.q
set_option linter.unusedVariables false

/-! ### Five cells of a block that the call may write -/
structure Blk (w : World) (b : Nat) (x0 x1 x2 x3 x4 : Value) : Prop where
  c0 : w.cell? ⟨b, 0, none⟩ = some x0
  c1 : w.cell? ⟨b, 1, none⟩ = some x1
  c2 : w.cell? ⟨b, 2, none⟩ = some x2
  c3 : w.cell? ⟨b, 3, none⟩ = some x3
  c4 : w.cell? ⟨b, 4, none⟩ = some x4
  f : ∀ o, w.frozen? ⟨b, o, none⟩ = false
theorem Blk.pass {w1 w2 : World} {b B : Nat} {x0 x1 x2 x3 x4 : Value} (h : Blk w1 b x0 x1 x2 x3 x4) (H : Below B w1 w2) (hb : b < B) : Blk w2 b x0 x1 x2 x3 x4 :=
  ⟨r.pass H hb h.c0, r.pass H hb h.c1, r.pass H hb h.c2, r.pass H hb h.c3, r.pass H hb h.c4, passF H hb h.f⟩
/-- one cell stored, its world under a name -/
theorem Blk.put (w1 : World) (b i : Nat) (x : Value) :
    ∃ w2, w1.setCell ⟨b, i, none⟩ x = w2 ∧ w2.heap.size = w1.heap.size ∧ (∀ B, B ≤ b → Below B w1 w2) ∧
      (∀ b' x0 x1 x2 x3 x4, b' ≠ b → Blk w1 b' x0 x1 x2 x3 x4 → Blk w2 b' x0 x1 x2 x3 x4) ∧
      (∀ x0 x1 x2 x3 x4, Blk w1 b x0 x1 x2 x3 x4 → Blk w2 b (if i = 0 then x else x0) (if i = 1 then x else x1) (if i = 2 then x else x2) (if i = 3 then x else x3) (if i = 4 then x else x4)) := by
  refine ⟨_, rfl, by simp, fun B hB => (Below.refl _ _).setCell hB _, fun b' x0 x1 x2 x3 x4 hne h => ?_, fun x0 x1 x2 x3 x4 h => ?_⟩
  · obtain ⟨c0, c1, c2, c3, c4, f⟩ := h
    constructor <;> (try intro o) <;> simp [go_sem, c0, c1, c2, c3, c4, f]
  · obtain ⟨c0, c1, c2, c3, c4, f⟩ := h
    constructor
    · by_cases e : i = 0
      · subst e; simp [go_sem, c0]
      · simp [go_sem, c0, e]
    · by_cases e : i = 1
      · subst e; simp [go_sem, c1]
      · simp [go_sem, c1, e]
    · by_cases e : i = 2
      · subst e; simp [go_sem, c2]
      · simp [go_sem, c2, e]
    · by_cases e : i = 3
      · subst e; simp [go_sem, c3]
      · simp [go_sem, c3, e]
    · by_cases e : i = 4
      · subst e; simp [go_sem, c4]
      · simp [go_sem, c4, e]
    · intro o; simp [go_sem, f]
/-- a whole value of five cells stored, its world under a name -/
theorem Blk.put5 (w1 : World) (b : Nat) (x0 x1 x2 x3 x4 : Value) {y0 y1 y2 y3 y4 : Value} (h : Blk w1 b y0 y1 y2 y3 y4) :
    ∃ w2, (((((w1.setCell ⟨b, 0, none⟩ x0).setCell ⟨b, 1, none⟩ x1).setCell ⟨b, 2, none⟩ x2).setCell ⟨b, 3, none⟩ x3).setCell ⟨b, 4, none⟩ x4) = w2 ∧ w2.heap.size = w1.heap.size ∧ (∀ B, B ≤ b → Below B w1 w2) ∧
      (∀ b' x0 x1 x2 x3 x4, b' ≠ b → Blk w1 b' x0 x1 x2 x3 x4 → Blk w2 b' x0 x1 x2 x3 x4) ∧ Blk w2 b x0 x1 x2 x3 x4 := by
  obtain ⟨c0, c1, c2, c3, c4, f⟩ := h
  refine ⟨_, rfl, by simp, fun B hB => below_set5 (Below.refl _ _) hB, fun b' z0 z1 z2 z3 z4 hne h => ?_, ?_⟩
  · obtain ⟨d0, d1, d2, d3, d4, g⟩ := h
    constructor <;> (try intro o) <;> simp [go_sem, d0, d1, d2, d3, d4, g]
  · constructor <;> (try intro o) <;> simp [go_sem, c0, c1, c2, c3, c4, f]

/-! ### The bits -/
theorem bit_low (x y m : Nat) (hm : m < 32) : (x + 4294967296 * y) / 2 ^ m % 2 = x / 2 ^ m % 2 := by
  have e : 4294967296 * y = 2 ^ m * (2 * (2 ^ (31 - m) * y)) := by
    rw [← Nat.mul_assoc, ← Nat.mul_assoc, Nat.mul_comm (2 ^ m) 2, Nat.mul_assoc 2, ← Nat.pow_add, show m + (31 - m) = 31 by omega]
  rw [e, Nat.add_mul_div_left _ _ (Nat.two_pow_pos m)]
  omega
/-- the part that holds bit k -/
def part (a0 a1 a2 a3 : Int) (c : Nat) : Int := if c = 0 then a0 else if c = 1 then a1 else if c = 2 then a2 else a3
theorem bit_part {a0 a1 a2 a3 : Int} (l : Lim a0 a1 a2 a3) (c m : Nat) (hc : c < 4) (hm : m < 32) :
    (part a0 a1 a2 a3 c).toNat / 2 ^ m % 2 = (val a0 a1 a2 a3).toNat / 2 ^ (32 * c + m) % 2 := by
  obtain ⟨p0, q0, p1, q1, p2, q2, p3, q3⟩ := l
  have key : ∀ x : Nat, x / 2 ^ (32 * c + m) = x / 2 ^ (32 * c) / 2 ^ m := fun x => by rw [Nat.pow_add, Nat.div_div_eq_div_mul]
  rw [key]
  have hcc : c = 0 ∨ c = 1 ∨ c = 2 ∨ c = 3 := by omega
  have e0 : (val a0 a1 a2 a3).toNat = a0.toNat + 4294967296 * (a1.toNat + 4294967296 * (a2.toNat + 4294967296 * a3.toNat)) := by unfold val; omega
  rw [e0]
  rcases hcc with rfl | rfl | rfl | rfl
  · show a0.toNat / 2 ^ m % 2 = _
    rw [show 32 * 0 = 0 from rfl, Nat.pow_zero, Nat.div_one, bit_low _ _ _ hm]
  · show a1.toNat / 2 ^ m % 2 = _
    rw [show (2 : Nat) ^ (32 * 1) = 4294967296 from rfl, show (a0.toNat + 4294967296 * (a1.toNat + 4294967296 * (a2.toNat + 4294967296 * a3.toNat))) / 4294967296 = a1.toNat + 4294967296 * (a2.toNat + 4294967296 * a3.toNat) by omega, bit_low _ _ _ hm]
  · show a2.toNat / 2 ^ m % 2 = _
    rw [show (2 : Nat) ^ (32 * 2) = 18446744073709551616 from rfl, show (a0.toNat + 4294967296 * (a1.toNat + 4294967296 * (a2.toNat + 4294967296 * a3.toNat))) / 18446744073709551616 = a2.toNat + 4294967296 * a3.toNat by omega, bit_low _ _ _ hm]
  · show a3.toNat / 2 ^ m % 2 = _
    rw [show (2 : Nat) ^ (32 * 3) = 79228162514264337593543950336 from rfl, show (a0.toNat + 4294967296 * (a1.toNat + 4294967296 * (a2.toNat + 4294967296 * a3.toNat))) / 79228162514264337593543950336 = a3.toNat by omega]
theorem half_of (A j : Nat) : A / 2 ^ j = 2 * (A / 2 ^ (j + 1)) + A / 2 ^ j % 2 := by
  rw [Nat.pow_succ, ← Nat.div_div_eq_div_mul]; omega
theorem div_step_ge (X B t : Nat) (hB : 0 < B) (h : B ≤ 2 * (X % B) + t) (ht : t ≤ 1) : (2 * X + t) / B = 2 * (X / B) + 1 ∧ (2 * X + t) % B = 2 * (X % B) + t - B := by
  have e := Nat.div_add_mod X B
  have l := Nat.mod_lt X hB
  generalize X / B = q at *
  generalize X % B = r at *
  have e2 : 2 * X + t = B * (2 * q + 1) + (2 * r + t - B) := by
    rw [Nat.mul_add, ← Nat.mul_assoc, Nat.mul_comm B 2, Nat.mul_assoc]; omega
  rw [e2]
  exact ⟨by rw [Nat.mul_add_div hB, Nat.div_eq_of_lt (by omega)], by rw [Nat.mul_add_mod, Nat.mod_eq_of_lt (by omega)]⟩
theorem div_step_lt (X B t : Nat) (hB : 0 < B) (h : 2 * (X % B) + t < B) : (2 * X + t) / B = 2 * (X / B) ∧ (2 * X + t) % B = 2 * (X % B) + t := by
  have e := Nat.div_add_mod X B
  generalize X / B = q at *
  generalize X % B = r at *
  have e2 : 2 * X + t = B * (2 * q) + (2 * r + t) := by
    rw [← Nat.mul_assoc, Nat.mul_comm B 2, Nat.mul_assoc]; omega
  rw [e2]
  exact ⟨by rw [Nat.mul_add_div hB, Nat.div_eq_of_lt h]; omega, by rw [Nat.mul_add_mod, Nat.mod_eq_of_lt h]⟩
end Go.Proofs.Ytaohidaijlcplaa.r
