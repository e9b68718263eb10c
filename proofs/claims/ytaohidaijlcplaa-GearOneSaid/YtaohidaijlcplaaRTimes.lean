/- What servitorref01's times answers: the product of two sizes below 2^64, with the product's sign. -/
import Derived.Test.YtaohidaijlcplaaRPlus
namespace Go.Proofs.Ytaohidaijlcplaa.r
open Go.ChangeShapes Go.WideShapes Go.ChangeAt Go.RowKit Go.Proofs.Ytaohidaijlcplaa.q
set_option linter.unusedVariables false

theorem keep {W w1 : World} (hb : Below W.heap.size W w1) (b : Nat) (h : b < W.heap.size) : (∀ o, w1.cell? ⟨b, o, none⟩ = W.cell? ⟨b, o, none⟩) ∧ (∀ o, w1.frozen? ⟨b, o, none⟩ = W.frozen? ⟨b, o, none⟩) :=
  ⟨fun o => hb.cell (p := ⟨b, o, none⟩) h, fun o => hb.frozen (p := ⟨b, o, none⟩) h⟩

theorem pass {B : Nat} {w1 w2 : World} (H : Below B w1 w2) {b o : Nat} {v : Value} (hb : b < B) (h : w1.cell? ⟨b, o, none⟩ = some v) : w2.cell? ⟨b, o, none⟩ = some v :=
  (H.cell (p := ⟨b, o, none⟩) hb).trans h
theorem passF {B : Nat} {w1 w2 : World} (H : Below B w1 w2) {b : Nat} (hb : b < B) (h : ∀ o, w1.frozen? ⟨b, o, none⟩ = false) : ∀ o, w2.frozen? ⟨b, o, none⟩ = false :=
  fun o => (H.frozen (p := ⟨b, o, none⟩) hb).trans (h o)
theorem below5 (w : World) (o1 o2 o3 o4 o5 : Obj) (n : Nat) : Below w.heap.size w ((((((w.alloc o1).alloc o2).alloc o3).alloc o4).alloc o5).drewN n) :=
  below_drewN ((((((Below.refl _ _).alloc (Nat.le_refl _) _).alloc (by simp) _).alloc (by simp; omega) _).alloc (by simp; omega) _).alloc (by simp; omega) _) n
theorem shapeW {w1 w2 : World} {b : Nat} {x0 x1 x2 x3 x4 : Value} {o : Obj} {n : Nat} (hb : b < w1.heap.size)
    (h : Below ((((((((w1.setCell ⟨b, 0, none⟩ x0).setCell ⟨b, 1, none⟩ x1).setCell ⟨b, 2, none⟩ x2).setCell ⟨b, 3, none⟩ x3).setCell ⟨b, 4, none⟩ x4).alloc o).drewN n).heap.size) (((((((w1.setCell ⟨b, 0, none⟩ x0).setCell ⟨b, 1, none⟩ x1).setCell ⟨b, 2, none⟩ x2).setCell ⟨b, 3, none⟩ x3).setCell ⟨b, 4, none⟩ x4).alloc o).drewN n) w2) :
    Below b w1 w2 ∧ w1.heap.size < w2.heap.size :=
  ⟨(below_drewN ((below_set5 (Below.refl _ _) (Nat.le_refl _)).alloc (by simp; omega) o) n).trans (h.mono (by simp; omega)), by have := h.size; simp at this; omega⟩

theorem outW {w1 w2 : World} {b : Nat} {x0 x1 x2 x3 x4 y0 y1 y2 y3 y4 : Value} {o : Obj} {n : Nat} (hb : b < w1.heap.size)
    (c0 : w1.cell? ⟨b, 0, none⟩ = some y0) (c1 : w1.cell? ⟨b, 1, none⟩ = some y1) (c2 : w1.cell? ⟨b, 2, none⟩ = some y2) (c3 : w1.cell? ⟨b, 3, none⟩ = some y3) (c4 : w1.cell? ⟨b, 4, none⟩ = some y4)
    (f : ∀ o, w1.frozen? ⟨b, o, none⟩ = false)
    (h : Below ((((((((w1.setCell ⟨b, 0, none⟩ x0).setCell ⟨b, 1, none⟩ x1).setCell ⟨b, 2, none⟩ x2).setCell ⟨b, 3, none⟩ x3).setCell ⟨b, 4, none⟩ x4).alloc o).drewN n).heap.size) (((((((w1.setCell ⟨b, 0, none⟩ x0).setCell ⟨b, 1, none⟩ x1).setCell ⟨b, 2, none⟩ x2).setCell ⟨b, 3, none⟩ x3).setCell ⟨b, 4, none⟩ x4).alloc o).drewN n) w2) :
    w2.cell? ⟨b, 0, none⟩ = some x0 ∧ w2.cell? ⟨b, 1, none⟩ = some x1 ∧ w2.cell? ⟨b, 2, none⟩ = some x2 ∧ w2.cell? ⟨b, 3, none⟩ = some x3 ∧ w2.cell? ⟨b, 4, none⟩ = some x4 ∧ ∀ o, w2.frozen? ⟨b, o, none⟩ = false := by
  have k := keep h b (by simp; omega)
  simp only [k.1, k.2]
  refine ⟨?_, ?_, ?_, ?_, ?_, fun q => ?_⟩
  all_goals simp [go_sem, hb, c0, c1, c2, c3, c4, f]

/-- a whole value of five cells stored, its world under a name -/
theorem set5 (w1 : World) (b : Nat) (x0 x1 x2 x3 x4 : Value) {y0 y1 y2 y3 y4 : Value}
    (c0 : w1.cell? ⟨b, 0, none⟩ = some y0) (c1 : w1.cell? ⟨b, 1, none⟩ = some y1) (c2 : w1.cell? ⟨b, 2, none⟩ = some y2) (c3 : w1.cell? ⟨b, 3, none⟩ = some y3) (c4 : w1.cell? ⟨b, 4, none⟩ = some y4)
    (f : ∀ o, w1.frozen? ⟨b, o, none⟩ = false) :
    ∃ w2, (((((w1.setCell ⟨b, 0, none⟩ x0).setCell ⟨b, 1, none⟩ x1).setCell ⟨b, 2, none⟩ x2).setCell ⟨b, 3, none⟩ x3).setCell ⟨b, 4, none⟩ x4) = w2 ∧ Below b w1 w2 ∧ w2.heap.size = w1.heap.size ∧
    w2.cell? ⟨b, 0, none⟩ = some x0 ∧ w2.cell? ⟨b, 1, none⟩ = some x1 ∧ w2.cell? ⟨b, 2, none⟩ = some x2 ∧ w2.cell? ⟨b, 3, none⟩ = some x3 ∧ w2.cell? ⟨b, 4, none⟩ = some x4 ∧ ∀ o, w2.frozen? ⟨b, o, none⟩ = false := by
  refine ⟨_, rfl, below_set5 (Below.refl _ _) (Nat.le_refl _), by simp, ?_, ?_, ?_, ?_, ?_, fun q => ?_⟩
  all_goals simp [go_sem, c0, c1, c2, c3, c4, f]

theorem mul_part (a b : Int) (p : 0 ≤ a) (q : a < 4294967296) (p' : 0 ≤ b) (q' : b < 4294967296) :
    ∃ P l h : Int, a * b = P ∧ IntKind.u64.wrap (a * b) = P ∧ P % 4294967296 = l ∧ P / 4294967296 = h ∧ 0 ≤ P ∧ P ≤ 18446744065119617025 ∧ 0 ≤ l ∧ l < 4294967296 ∧ 0 ≤ h ∧ h < 4294967296 ∧ P = l + 4294967296 * h := by
  have h1 : a * b ≤ 4294967295 * 4294967295 := Int.mul_le_mul (by omega) (by omega) p' (by omega)
  have h0 : 0 ≤ a * b := Int.mul_nonneg p p'
  refine ⟨a * b, _, _, rfl, ?_, rfl, rfl, h0, by omega, by omega, by omega, by omega, by omega, by omega⟩
  rw [IntKind.wrap_u64]; omega

set_option maxRecDepth 100000 in
set_option maxHeartbeats 4000000 in
theorem times_any {a0 a1 b0 b1 : Int} {ma mb : Bool} (la : Lim a0 a1 0 0) (lb : Lim b0 b1 0 0) (w : World) :
    Calls Try.prog 37 #[.agg #[.int .u64 a0, .int .u64 a1, .int .u64 0, .int .u64 0, .bool ma], .agg #[.int .u64 b0, .int .u64 b1, .int .u64 0, .int .u64 0, .bool mb]] w (WPost (val a0 a1 0 0 * val b0 b1 0 0) (!ma == mb) w) := by
  obtain ⟨p0, q0, p1, q1, _, _, _, _⟩ := la
  obtain ⟨p0', q0', p1', q1', _, _, _, _⟩ := lb
  obtain ⟨P, l, h, eP, wP, el, eh, c0, c1, c2, c3, c4, c5, c6⟩ := mul_part a0 b0 p0 q0 p0' q0'
  obtain ⟨Q, l', h', eQ, wQ, el', eh', d0, d1, d2, d3, d4, d5, d6⟩ := mul_part a0 b1 p0 q0 p1' q1'
  obtain ⟨R, l2, h2, eR, wR, el2, eh2, e0, e1, e2, e3, e4, e5, e6⟩ := mul_part a1 b0 p1 q1 p0' q0'
  obtain ⟨S, l3, h3, eS, wS, el3, eh3, f0, f1, f2, f3, f4, f5, f6⟩ := mul_part a1 b1 p1 q1 p1' q1'
  have FIN : Hid (val a0 a1 0 0 * val b0 b1 0 0 = P + 4294967296 * Q + 4294967296 * R + 18446744073709551616 * S) := Lib.hid (by
    unfold val
    rw [← eP, ← eQ, ← eR, ← eS]
    simp only [Int.mul_zero, Int.add_zero]
    rw [Int.add_mul, Int.mul_add, Int.mul_add, Int.mul_assoc 4294967296 a1, Int.mul_assoc 4294967296 a1, ← Int.mul_assoc a0 4294967296, Int.mul_comm a0 4294967296, Int.mul_assoc 4294967296 a0, Int.mul_left_comm a1 4294967296 b1]
    omega)
  have x1 : IsW P false (.agg #[.int .u64 l, .int .u64 h, .int .u64 0, .int .u64 0, .bool false]) := ⟨_, _, _, _, rfl, by constructor <;> omega, by unfold val; omega⟩
  have x2 : IsW (4294967296 * Q) false (.agg #[.int .u64 0, .int .u64 l', .int .u64 h', .int .u64 0, .bool false]) := ⟨_, _, _, _, rfl, by constructor <;> omega, by unfold val; omega⟩
  have x3 : IsW (4294967296 * R) false (.agg #[.int .u64 0, .int .u64 l2, .int .u64 h2, .int .u64 0, .bool false]) := ⟨_, _, _, _, rfl, by constructor <;> omega, by unfold val; omega⟩
  have x4 : IsW (18446744073709551616 * S) false (.agg #[.int .u64 0, .int .u64 0, .int .u64 l3, .int .u64 h3, .bool false]) := ⟨_, _, _, _, rfl, by constructor <;> omega, by unfold val; omega⟩
  have z0 : IsW 0 false (.agg #[.int .u64 0, .int .u64 0, .int .u64 0, .int .u64 0, .bool false]) := ⟨_, _, _, _, rfl, by constructor <;> omega, by unfold val; omega⟩
  have s1 := fun (w : World) => sum_any z0 x1 (by unfold top; omega) w
  have s2 := fun (v : Value) (w : World) (hv : IsW (0 + P) false v) => sum_any hv x2 (by unfold top; omega) w
  have s3 := fun (v : Value) (w : World) (hv : IsW (0 + P + 4294967296 * Q) false v) => sum_any hv x3 (by unfold top; omega) w
  have s4 := fun (v : Value) (w : World) (hv : IsW (0 + P + 4294967296 * Q + 4294967296 * R) false v) => sum_any hv x4 (by unfold top; omega) w
  clear eP eQ eR eS c6 d6 e6 f6 x1 x2 x3 x4 z0
  have g1 := set_drewN
  have g2 := alloc_drewN
  go_enter Try.func37, Try.ntmps37
  go_wp2
  refine wp_loop_rounds 3 ?_
  rw [rounds_succ]
  go_wp2
  refine wp_loop_rounds 3 ?_
  rw [rounds_succ]
  go_wp2
  go_quiet (fail)
  go_wp2_with (go_at_call 40; fail)
  refine (s1 _).mono ?_
  rintro e w1 ⟨v, rfl, ⟨t10, t11, t12, t13, rfl, lt, et⟩, hb1⟩
  have hz1 : w.heap.size + 1 + 1 + 1 < w1.heap.size := by have := hb1.size; simp at this; omega
  have A10 : w1.cell? ⟨w.heap.size, 0, none⟩ = some (.int .u64 a0) := by rw [(keep hb1 (w.heap.size) (by first | (simp; omega) | simp)).1]; simp [go_sem]
  have A11 : w1.cell? ⟨w.heap.size, 1, none⟩ = some (.int .u64 a1) := by rw [(keep hb1 (w.heap.size) (by first | (simp; omega) | simp)).1]; simp [go_sem]
  have A14 : w1.cell? ⟨w.heap.size, 4, none⟩ = some (.bool ma) := by rw [(keep hb1 (w.heap.size) (by first | (simp; omega) | simp)).1]; simp [go_sem]
  have B10 : w1.cell? ⟨w.heap.size + 1, 0, none⟩ = some (.int .u64 b0) := by rw [(keep hb1 (w.heap.size + 1) (by first | (simp; omega) | simp)).1]; simp [go_sem]
  have B11 : w1.cell? ⟨w.heap.size + 1, 1, none⟩ = some (.int .u64 b1) := by rw [(keep hb1 (w.heap.size + 1) (by first | (simp; omega) | simp)).1]; simp [go_sem]
  have B14 : w1.cell? ⟨w.heap.size + 1, 4, none⟩ = some (.bool mb) := by rw [(keep hb1 (w.heap.size + 1) (by first | (simp; omega) | simp)).1]; simp [go_sem]
  have R10 : w1.cell? ⟨w.heap.size + 1 + 1, 0, none⟩ = some (.int .u64 0) := by rw [(keep hb1 (w.heap.size + 1 + 1) (by first | (simp; omega) | simp)).1]; simp [go_sem]
  have R11 : w1.cell? ⟨w.heap.size + 1 + 1, 1, none⟩ = some (.int .u64 0) := by rw [(keep hb1 (w.heap.size + 1 + 1) (by first | (simp; omega) | simp)).1]; simp [go_sem]
  have R12 : w1.cell? ⟨w.heap.size + 1 + 1, 2, none⟩ = some (.int .u64 0) := by rw [(keep hb1 (w.heap.size + 1 + 1) (by first | (simp; omega) | simp)).1]; simp [go_sem]
  have R13 : w1.cell? ⟨w.heap.size + 1 + 1, 3, none⟩ = some (.int .u64 0) := by rw [(keep hb1 (w.heap.size + 1 + 1) (by first | (simp; omega) | simp)).1]; simp [go_sem]
  have R14 : w1.cell? ⟨w.heap.size + 1 + 1, 4, none⟩ = some (.bool false) := by rw [(keep hb1 (w.heap.size + 1 + 1) (by first | (simp; omega) | simp)).1]; simp [go_sem]
  have C10 : w1.cell? ⟨w.heap.size + 1 + 1 + 1, 0, none⟩ = some (.int .u64 0) := by rw [(keep hb1 (w.heap.size + 1 + 1 + 1) (by first | (simp; omega) | simp)).1]; simp [go_sem]
  have C11 : w1.cell? ⟨w.heap.size + 1 + 1 + 1, 1, none⟩ = some (.int .u64 0) := by rw [(keep hb1 (w.heap.size + 1 + 1 + 1) (by first | (simp; omega) | simp)).1]; simp [go_sem]
  have C12 : w1.cell? ⟨w.heap.size + 1 + 1 + 1, 2, none⟩ = some (.int .u64 0) := by rw [(keep hb1 (w.heap.size + 1 + 1 + 1) (by first | (simp; omega) | simp)).1]; simp [go_sem]
  have C13 : w1.cell? ⟨w.heap.size + 1 + 1 + 1, 3, none⟩ = some (.int .u64 0) := by rw [(keep hb1 (w.heap.size + 1 + 1 + 1) (by first | (simp; omega) | simp)).1]; simp [go_sem]
  have C14 : w1.cell? ⟨w.heap.size + 1 + 1 + 1, 4, none⟩ = some (.bool false) := by rw [(keep hb1 (w.heap.size + 1 + 1 + 1) (by first | (simp; omega) | simp)).1]; simp [go_sem]
  have F1 : ∀ o, w1.frozen? ⟨w.heap.size + 1 + 1 + 1, o, none⟩ = false := by intro o; rw [(keep hb1 (w.heap.size + 1 + 1 + 1) (by first | (simp; omega) | simp)).2]; simp [go_sem]
  have G1 : ∀ o, w1.frozen? ⟨w.heap.size + 1 + 1, o, none⟩ = false := by intro o; rw [(keep hb1 (w.heap.size + 1 + 1) (by first | (simp; omega) | simp)).2]; simp [go_sem]
  have HW1 : Below w.heap.size w w1 := (below5 _ _ _ _ _ _ _).trans (hb1.mono (by simp; omega))
  have iw1 : IsW (0 + P) false (.agg #[.int .u64 t10, .int .u64 t11, .int .u64 t12, .int .u64 t13, .bool false]) := ⟨_, _, _, _, rfl, lt, et⟩
  clear lt et
  go_wp2
  rw [rounds_succ]
  go_wp2
  go_quiet (fail)
  go_wp2_with (go_at_call 40; fail)
  refine (s2 _ _ iw1).mono ?_
  rintro e w2 ⟨v, rfl, ⟨t20, t21, t22, t23, rfl, lt, et⟩, hb2⟩
  obtain ⟨H2, hy2⟩ := shapeW hz1 hb2
  obtain ⟨C20, C21, C22, C23, C24, F2⟩ := outW hz1 C10 C11 C12 C13 C14 F1 hb2
  have hz2 : w.heap.size + 1 + 1 + 1 < w2.heap.size := by omega
  have A20 := pass H2 (by omega) A10
  have A21 := pass H2 (by omega) A11
  have A24 := pass H2 (by omega) A14
  have B20 := pass H2 (by omega) B10
  have B21 := pass H2 (by omega) B11
  have B24 := pass H2 (by omega) B14
  have R20 := pass H2 (by omega) R10
  have R21 := pass H2 (by omega) R11
  have R22 := pass H2 (by omega) R12
  have R23 := pass H2 (by omega) R13
  have R24 := pass H2 (by omega) R14
  have G2 := passF H2 (by omega) G1
  have HW2 : Below w.heap.size w w2 := HW1.trans (H2.mono (by omega))
  clear hb2 hy2 hz1 C10 C11 C12 C13 C14 F1 G1 HW1 H2 A10 A11 A14 B10 B11 B14 R10 R11 R12 R13 R14
  have iw2 : IsW (0 + P + 4294967296 * Q) false (.agg #[.int .u64 t20, .int .u64 t21, .int .u64 t22, .int .u64 t23, .bool false]) := ⟨_, _, _, _, rfl, lt, et⟩
  clear lt et
  go_wp2
  rw [rounds_succ]
  go_wp2
  rw [rounds_succ]
  go_wp2
  refine wp_loop_rounds 3 ?_
  rw [rounds_succ]
  go_wp2
  go_quiet (fail)
  go_wp2_with (go_at_call 40; fail)
  refine (s3 _ _ iw2).mono ?_
  rintro e w3 ⟨v, rfl, ⟨t30, t31, t32, t33, rfl, lt, et⟩, hb3⟩
  obtain ⟨H3, hy3⟩ := shapeW hz2 hb3
  obtain ⟨C30, C31, C32, C33, C34, F3⟩ := outW hz2 C20 C21 C22 C23 C24 F2 hb3
  have hz3 : w.heap.size + 1 + 1 + 1 < w3.heap.size := by omega
  have A30 := pass H3 (by omega) A20
  have A31 := pass H3 (by omega) A21
  have A34 := pass H3 (by omega) A24
  have B30 := pass H3 (by omega) B20
  have B31 := pass H3 (by omega) B21
  have B34 := pass H3 (by omega) B24
  have R30 := pass H3 (by omega) R20
  have R31 := pass H3 (by omega) R21
  have R32 := pass H3 (by omega) R22
  have R33 := pass H3 (by omega) R23
  have R34 := pass H3 (by omega) R24
  have G3 := passF H3 (by omega) G2
  have HW3 : Below w.heap.size w w3 := HW2.trans (H3.mono (by omega))
  clear hb3 hy3 hz2 C20 C21 C22 C23 C24 F2 G2 HW2 H3 A20 A21 A24 B20 B21 B24 R20 R21 R22 R23 R24
  have iw3 : IsW (0 + P + 4294967296 * Q + 4294967296 * R) false (.agg #[.int .u64 t30, .int .u64 t31, .int .u64 t32, .int .u64 t33, .bool false]) := ⟨_, _, _, _, rfl, lt, et⟩
  clear lt et
  go_wp2
  rw [rounds_succ]
  go_wp2
  go_quiet (fail)
  go_wp2_with (go_at_call 40; fail)
  refine (s4 _ _ iw3).mono ?_
  rintro e w4 ⟨v, rfl, ⟨t40, t41, t42, t43, rfl, lt, et⟩, hb4⟩
  obtain ⟨H4, hy4⟩ := shapeW hz3 hb4
  obtain ⟨C40, C41, C42, C43, C44, F4⟩ := outW hz3 C30 C31 C32 C33 C34 F3 hb4
  have hz4 : w.heap.size + 1 + 1 + 1 < w4.heap.size := by omega
  have A40 := pass H4 (by omega) A30
  have A41 := pass H4 (by omega) A31
  have A44 := pass H4 (by omega) A34
  have B40 := pass H4 (by omega) B30
  have B41 := pass H4 (by omega) B31
  have B44 := pass H4 (by omega) B34
  have R40 := pass H4 (by omega) R30
  have R41 := pass H4 (by omega) R31
  have R42 := pass H4 (by omega) R32
  have R43 := pass H4 (by omega) R33
  have R44 := pass H4 (by omega) R34
  have G4 := passF H4 (by omega) G3
  have HW4 : Below w.heap.size w w4 := HW3.trans (H4.mono (by omega))
  clear hb4 hy4 hz3 C30 C31 C32 C33 C34 F3 G3 HW3 H4 A30 A31 A34 B30 B31 B34 R30 R31 R32 R33 R34
  have iw4 : IsW (0 + P + 4294967296 * Q + 4294967296 * R + 18446744073709551616 * S) false (.agg #[.int .u64 t40, .int .u64 t41, .int .u64 t42, .int .u64 t43, .bool false]) := ⟨_, _, _, _, rfl, lt, et⟩
  go_wp2
  rw [rounds_succ]
  go_wp2
  rw [rounds_succ]
  iterate 13 go_step
  obtain ⟨w5, e5, H5, z5, D0, D1, D2, D3, D4, F5⟩ := set5 w4 (w.heap.size + 1 + 1 + 1) (.int .u64 t40) (.int .u64 t41) (.int .u64 t42) (.int .u64 t43) (.bool false) C40 C41 C42 C43 C44 F4
  rw [e5]
  have A50 := pass H5 (by omega) A40
  have A51 := pass H5 (by omega) A41
  have A54 := pass H5 (by omega) A44
  have B50 := pass H5 (by omega) B40
  have B51 := pass H5 (by omega) B41
  have B54 := pass H5 (by omega) B44
  have R50 := pass H5 (by omega) R40
  have R51 := pass H5 (by omega) R41
  have R52 := pass H5 (by omega) R42
  have R53 := pass H5 (by omega) R43
  have R54 := pass H5 (by omega) R44
  have G5 := passF H5 (by omega) G4
  have HW5 : Below w.heap.size w w5 := HW4.trans (H5.mono (by omega))
  have FW := Lib.hid HW5
  clear e5 H5 HW4 HW5 G4 F4 C40 C41 C42 C43 C44 hz4 A40 A41 A44 B40 B41 B44 R40 R41 R42 R43 R44 iw1 iw2 iw3
  go_wp2
  exact bodyPost_ret (v := .agg #[.int .u64 t40, .int .u64 t41, .int .u64 t42, .int .u64 t43, .bool (!ma == mb)]) (by simp [results, Try.results37, go_sem, R50, R51, R52, R53, R54]) rfl
    ⟨_, rfl, ⟨_, _, _, _, rfl, lt, by rw [et, FIN.out]; omega⟩, below_set5 (FW.out.setCell (p := ⟨w.heap.size + 1 + 1 + 1, 4, none⟩) (by show w.heap.size ≤ w.heap.size + 1 + 1 + 1; omega) _) (by omega)⟩
end Go.Proofs.Ytaohidaijlcplaa.r
