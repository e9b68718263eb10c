/- Plain facts on numbers in four parts of 32 bits: what a sum, a difference, a comparison do part by part. No condition beyond what each line says. -/
import Derived.Test.YtaohidaijlcplaaQMath
namespace Go.Proofs.Ytaohidaijlcplaa.r
set_option linter.unusedVariables false
/-- the number that four parts make -/
def val (l0 l1 l2 l3 : Int) : Int := l0 + 4294967296 * (l1 + 4294967296 * (l2 + 4294967296 * l3))
/-- four parts, each of 32 bits -/
structure Lim (l0 l1 l2 l3 : Int) : Prop where
  p0 : 0 ≤ l0
  q0 : l0 < 4294967296
  p1 : 0 ≤ l1
  q1 : l1 < 4294967296
  p2 : 0 ≤ l2
  q2 : l2 < 4294967296
  p3 : 0 ≤ l3
  q3 : l3 < 4294967296
/-- a number and a sign, as a value of the four parts and the sign -/
def IsW (N : Int) (m : Bool) (v : Value) : Prop := ∃ l0 l1 l2 l3 : Int, v = .agg #[.int .u64 l0, .int .u64 l1, .int .u64 l2, .int .u64 l3, .bool m] ∧ Lim l0 l1 l2 l3 ∧ val l0 l1 l2 l3 = N
/-- 2^128 -/
def top : Int := 340282366920938463463374607431768211456
theorem val_ge {a b c d : Int} (h : Lim a b c d) : 0 ≤ val a b c d ∧ val a b c d < top := by
  obtain ⟨_, _, _, _, _, _, _, _⟩ := h; unfold val top; omega
theorem val_inj {a b c d a' b' c' d' : Int} (h : Lim a b c d) (h' : Lim a' b' c' d') (e : val a b c d = val a' b' c' d') : a = a' ∧ b = b' ∧ c = c' ∧ d = d' := by
  obtain ⟨_, _, _, _, _, _, _, _⟩ := h; obtain ⟨_, _, _, _, _, _, _, _⟩ := h'; unfold val at e; omega
theorem isW_unique {N : Int} {m : Bool} {v v' : Value} (h : IsW N m v) (h' : IsW N m v') : v = v' := by
  obtain ⟨a, b, c, d, rfl, l, e⟩ := h
  obtain ⟨a', b', c', d', rfl, l', e'⟩ := h'
  obtain ⟨rfl, rfl, rfl, rfl⟩ := val_inj l l' (by omega)
  rfl
/-- one part of a sum: what stands and what is carried -/
structure Carry (x s c : Int) : Prop where
  e : x = s + 4294967296 * c
  s0 : 0 ≤ s
  s1 : s < 4294967296
  c0 : 0 ≤ c
  c1 : c ≤ 1
theorem carry_of (x : Int) (h0 : 0 ≤ x) (h1 : x < 8589934592) : ∃ s c : Int, x % 4294967296 = s ∧ x / 4294967296 = c ∧ Carry x s c :=
  ⟨_, _, rfl, rfl, by constructor <;> omega⟩
theorem sum_val {a0 a1 a2 a3 b0 b1 b2 b3 s0 s1 s2 s3 c0 c1 c2 c3 : Int} (h0 : Carry (a0 + b0) s0 c0) (h1 : Carry (a1 + b1 + c0) s1 c1) (h2 : Carry (a2 + b2 + c1) s2 c2) (h3 : Carry (a3 + b3 + c2) s3 c3)
    (ht : val a0 a1 a2 a3 + val b0 b1 b2 b3 < top) : Lim s0 s1 s2 s3 ∧ val s0 s1 s2 s3 = val a0 a1 a2 a3 + val b0 b1 b2 b3 := by
  obtain ⟨e0, p0, q0, r0, t0⟩ := h0
  obtain ⟨e1, p1, q1, r1, t1⟩ := h1
  obtain ⟨e2, p2, q2, r2, t2⟩ := h2
  obtain ⟨e3, p3, q3, r3, t3⟩ := h3
  have hc : c3 = 0 := by unfold val top at ht; omega
  exact ⟨⟨p0, q0, p1, q1, p2, q2, p3, q3⟩, by unfold val; omega⟩
theorem less_of (x : Int) (h0 : 0 ≤ x) (h1 : x < 8589934592) : ∃ s c d : Int, x % 4294967296 = s ∧ x / 4294967296 = c ∧ 1 - c = d ∧ 0 ≤ c ∧ c ≤ 1 ∧ 0 ≤ d ∧ d ≤ 1 ∧ Carry x s c :=
  ⟨_, _, _, rfl, rfl, rfl, by omega, by omega, by omega, by omega, by constructor <;> omega⟩
theorem less_val {a0 a1 a2 a3 b0 b1 b2 b3 s0 s1 s2 s3 c0 c1 c2 c3 d0 d1 d2 : Int} (h0 : Carry (a0 + 4294967296 - b0) s0 c0) (e0 : 1 - c0 = d0) (h1 : Carry (a1 + 4294967296 - b1 - d0) s1 c1) (e1 : 1 - c1 = d1)
    (h2 : Carry (a2 + 4294967296 - b2 - d1) s2 c2) (e2 : 1 - c2 = d2) (h3 : Carry (a3 + 4294967296 - b3 - d2) s3 c3)
    (ht : val b0 b1 b2 b3 ≤ val a0 a1 a2 a3) : Lim s0 s1 s2 s3 ∧ val s0 s1 s2 s3 = val a0 a1 a2 a3 - val b0 b1 b2 b3 := by
  obtain ⟨f0, p0, q0, r0, t0⟩ := h0
  obtain ⟨f1, p1, q1, r1, t1⟩ := h1
  obtain ⟨f2, p2, q2, r2, t2⟩ := h2
  obtain ⟨f3, p3, q3, r3, t3⟩ := h3
  have hc : c3 = 1 := by unfold val at ht; omega
  exact ⟨⟨p0, q0, p1, q1, p2, q2, p3, q3⟩, by unfold val; omega⟩
/-- how two numbers stand to one another -/
def cmpV (A B : Int) : Int := if A < B then -1 else if B < A then 1 else 0
theorem cmpV_lt {A B : Int} (h : A < B) : cmpV A B = -1 := if_pos h
theorem cmpV_gt {A B : Int} (h : B < A) : cmpV A B = 1 := by unfold cmpV; rw [if_neg (by omega), if_pos h]
theorem cmpV_eq (A : Int) : cmpV A A = 0 := by unfold cmpV; rw [if_neg (by omega), if_neg (by omega)]
end Go.Proofs.Ytaohidaijlcplaa.r
