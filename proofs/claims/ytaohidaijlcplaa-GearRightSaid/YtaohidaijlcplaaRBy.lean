/- What servitorref01's by answers: a quotient of two sizes and what is left, the second above 0 and at most 2^64. -/
import Derived.Test.YtaohidaijlcplaaRByMath
import Derived.Deep.Cut
namespace Go.Proofs.Ytaohidaijlcplaa.r
open Go.ChangeShapes Go.WideShapes Go.ChangeAt Go.RowKit Go.Proofs.Ytaohidaijlcplaa.q
set_option linter.unusedVariables false

/-- what holds at the loop's head: the blocks, and how far the quotient is -/
structure ByAt (A B : Int) (b : Nat) (a0 a1 a2 a3 : Int) (ma : Bool) (b0 b1 b2 b3 : Int) (mb : Bool) (j : Nat) (q0 q1 q2 q3 r0 r1 r2 r3 : Int) (w wr : World) : Prop where
  hA : Blk wr b (.int .u64 a0) (.int .u64 a1) (.int .u64 a2) (.int .u64 a3) (.bool ma)
  hB : Blk wr (b + 1) (.int .u64 b0) (.int .u64 b1) (.int .u64 b2) (.int .u64 b3) (.bool mb)
  hE : Blk wr (b + 1 + 1) (.int .u64 0) (.int .u64 0) (.int .u64 0) (.int .u64 0) (.bool false)
  hF : Blk wr (b + 1 + 1 + 1) (.int .u64 0) (.int .u64 0) (.int .u64 0) (.int .u64 0) (.bool false)
  hQ : Blk wr (b + 1 + 1 + 1 + 1) (.int .u64 q0) (.int .u64 q1) (.int .u64 q2) (.int .u64 q3) (.bool false)
  hR : Blk wr (b + 1 + 1 + 1 + 1 + 1) (.int .u64 r0) (.int .u64 r1) (.int .u64 r2) (.int .u64 r3) (.bool false)
  z : b + 1 + 1 + 1 + 1 + 1 < wr.heap.size
  k : Below b w wr
  lq : Lim q0 q1 q2 q3
  lr : Lim r0 r1 r2 r3
  eq : (val q0 q1 q2 q3).toNat = A.toNat / 2 ^ j / B.toNat
  er : (val r0 r1 r2 r3).toNat = A.toNat / 2 ^ j % B.toNat

theorem below6 (w : World) (o1 o2 o3 o4 o5 o6 : Obj) : Below w.heap.size w ((((((w.alloc o1).alloc o2).alloc o3).alloc o4).alloc o5).alloc o6) :=
  ((((((Below.refl _ _).alloc (Nat.le_refl _) _).alloc (by simp) _).alloc (by simp; omega) _).alloc (by simp; omega) _).alloc (by simp; omega) _).alloc (by simp; omega) _

set_option maxRecDepth 100000 in
set_option maxHeartbeats 4000000 in
theorem by_any {a0 a1 a2 a3 b0 b1 b2 b3 : Int} {ma mb : Bool} (la : Lim a0 a1 a2 a3) (lb : Lim b0 b1 b2 b3) (hB : 0 < val b0 b1 b2 b3) (hB2 : val b0 b1 b2 b3 ≤ 18446744073709551616) (w : World) :
    Calls Try.prog 38 #[.agg #[.int .u64 a0, .int .u64 a1, .int .u64 a2, .int .u64 a3, .bool ma], .agg #[.int .u64 b0, .int .u64 b1, .int .u64 b2, .int .u64 b3, .bool mb]] w fun e w' =>
      ∃ v1 v2 : Value, e = .returned (.tuple #[v1, v2]) ∧ IsW (((val a0 a1 a2 a3).toNat / (val b0 b1 b2 b3).toNat : Nat) : Int) false v1 ∧ IsW (((val a0 a1 a2 a3).toNat % (val b0 b1 b2 b3).toNat : Nat) : Int) false v2 ∧ Below w.heap.size w w' := by
  have g1 := set_drewN
  have g2 := alloc_drewN
  go_enter Try.func38, Try.ntmps38
  go_wp2
  go_loopw [8] (fun iv wr => ∃ (j : Nat) (q0 q1 q2 q3 r0 r1 r2 r3 : Int), j ≤ 128 ∧ iv = .int .i64 ((j : Int) - 1) ∧ ByAt (val a0 a1 a2 a3) (val b0 b1 b2 b3) w.heap.size a0 a1 a2 a3 ma b0 b1 b2 b3 mb j q0 q1 q2 q3 r0 r1 r2 r3 w wr) (fun iv wr => (intOf iv + 1).toNat)
  case atStart =>
    refine ⟨128, 0, 0, 0, 0, 0, 0, 0, 0, by omega, rfl, ?_⟩
    have hA128 : (val a0 a1 a2 a3).toNat / 2 ^ 128 = 0 := Nat.div_eq_of_lt (by have := val_ge la; unfold top at this; omega)
    have hv0 : val 0 0 0 0 = 0 := by decide
    constructor
    all_goals first
      | (constructor <;> (try intro o) <;> (simp [go_sem]; done))
      | (simp [go_sem]; done)
      | (constructor <;> omega)
      | (rw [hA128, hv0]; simp)
      | exact below6 _ _ _ _ _ _ _
  case round =>
    obtain ⟨j, q0, q1, q2, q3, r0, r1, r2, r3, hj, rfl, H⟩ := hrel
    by_cases hz : j = 0
    · subst hz
      obtain ⟨hA, hB', hE, hF, hQ, hR, hz, hk, lq, lr, eq, er⟩ := H
      have hE' := hE
      have hF' := hF
      obtain ⟨x0, x1, x2, x3, x4, x5⟩ := hE'
      obtain ⟨y0, y1, y2, y3, y4, y5⟩ := hF'
      obtain ⟨u0, u1, u2, u3, u4, u5⟩ := hQ
      obtain ⟨v0, v1, v2, v3, v4, v5⟩ := hR
      clear hA hB'
      go_wp2
      go_region
      obtain ⟨w1, e1, z1, k1, o1, E1⟩ := Blk.put5 wr (w.heap.size + 1 + 1) (.int .u64 q0) (.int .u64 q1) (.int .u64 q2) (.int .u64 q3) (.bool false) hE
      rw [e1]
      obtain ⟨w2, e2, z2, k2, o2, F2⟩ := Blk.put5 w1 (w.heap.size + 1 + 1 + 1) (.int .u64 r0) (.int .u64 r1) (.int .u64 r2) (.int .u64 r3) (.bool false) (o1 _ _ _ _ _ _ (by omega) hF)
      rw [e2]
      have E2 := o2 _ _ _ _ _ _ (by omega) E1
      have K2 : Below w.heap.size w w2 := (hk.trans (k1 _ (by omega))).trans (k2 _ (by omega))
      have FK := Lib.hid K2
      rw [Nat.pow_zero, Nat.div_one] at eq er
      have EQ := Lib.hid eq
      have ER := Lib.hid er
      clear x0 x1 x2 x3 x4 y0 y1 y2 y3 y4 u0 u1 u2 u3 u4 v0 v1 v2 v3 v4 E1 hE hF e1 e2 k1 k2 o1 o2 z1 z2 hz hk K2 eq er
      go_wp2
      exact bodyPost_ret (v := .tuple #[.agg #[.int .u64 q0, .int .u64 q1, .int .u64 q2, .int .u64 q3, .bool false], .agg #[.int .u64 r0, .int .u64 r1, .int .u64 r2, .int .u64 r3, .bool false]])
        (by simp [results, Try.results38, go_sem, E2.c0, E2.c1, E2.c2, E2.c3, E2.c4, F2.c0, F2.c1, F2.c2, F2.c3, F2.c4]) rfl
        ⟨_, _, rfl, ⟨_, _, _, _, rfl, lq, by have := val_ge lq; have := EQ.out; omega⟩, ⟨_, _, _, _, rfl, lr, by have := val_ge lr; have := ER.out; omega⟩, FK.out.drew⟩
    · obtain ⟨j, rfl⟩ : ∃ k, j = k + 1 := ⟨j - 1, by omega⟩
      obtain ⟨hA, hB', hE, hF, hQ, hR, hz, hk, lq, lr, eq, er⟩ := H
      have IR : IsW (val r0 r1 r2 r3) false (.agg #[.int .u64 r0, .int .u64 r1, .int .u64 r2, .int .u64 r3, .bool false]) := ⟨_, _, _, _, rfl, lr, rfl⟩
      have IQ : IsW (val q0 q1 q2 q3) false (.agg #[.int .u64 q0, .int .u64 q1, .int .u64 q2, .int .u64 q3, .bool false]) := ⟨_, _, _, _, rfl, lq, rfl⟩
      have IB : IsW (val b0 b1 b2 b3) mb (.agg #[.int .u64 b0, .int .u64 b1, .int .u64 b2, .int .u64 b3, .bool mb]) := ⟨_, _, _, _, rfl, lb, rfl⟩
      have hAn : (val a0 a1 a2 a3).toNat < 340282366920938463463374607431768211456 := by have := val_ge la; unfold top at this; omega
      have hXn : (val a0 a1 a2 a3).toNat / 2 ^ (j + 1) / (val b0 b1 b2 b3).toNat ≤ (val a0 a1 a2 a3).toNat / 2 ^ (j + 1) := Nat.div_le_self _ _
      have hhalf := half_of (val a0 a1 a2 a3).toNat j
      have hle : (val a0 a1 a2 a3).toNat / 2 ^ j ≤ (val a0 a1 a2 a3).toNat := Nat.div_le_self _ _
      have hrl : (val r0 r1 r2 r3).toNat < (val b0 b1 b2 b3).toNat := by rw [er]; exact Nat.mod_lt _ (by omega)
      have vr := val_ge lr
      have vq := val_ge lq
      have s1 := fun (w : World) => sum_any IR IR (by unfold top at *; omega) w
      have s2 := fun (w : World) => sum_any IQ IQ (by unfold top at *; omega) w
      have MA := Lib.hid (And.intro hhalf (And.intro hrl (And.intro eq er)))
      clear hAn hXn hhalf hle hrl vr vq IR IQ eq er
      have hR1 := hR
      obtain ⟨x0, x1, x2, x3, x4, x5⟩ := hR1
      go_wp2_with (go_at_call 40; fail)
      refine (s1 _).mono ?_
      rintro e w1 ⟨v, rfl, ⟨s0, s1', s2', s3, rfl, ls, es⟩, hb1⟩
      have z1 : w.heap.size + 1 + 1 + 1 + 1 + 1 < w1.heap.size := by have := hb1.size; omega
      have k1 : Below w.heap.size w w1 := hk.trans (hb1.mono (by omega))
      have A1 := hA.pass hb1 (by omega)
      have B1 := hB'.pass hb1 (by omega)
      have E1 := hE.pass hb1 (by omega)
      have F1 := hF.pass hb1 (by omega)
      have Q1 := hQ.pass hb1 (by omega)
      have R1 := hR.pass hb1 (by omega)
      clear hA hB' hE hF hQ hR hz hk hb1 x0 x1 x2 x3 x4 x5 s1
      have R1' := R1
      have Q1' := Q1
      obtain ⟨x0, x1, x2, x3, x4, x5⟩ := R1'
      obtain ⟨y0, y1, y2, y3, y4, y5⟩ := Q1'
      go_wp2_with (go_at_call 40; fail)
      obtain ⟨w2, e2, z2, k2, o2, R2⟩ := Blk.put5 w1 (w.heap.size + 1 + 1 + 1 + 1 + 1) (.int .u64 s0) (.int .u64 s1') (.int .u64 s2') (.int .u64 s3) (.bool false) R1
      rw [e2]
      have A2 := o2 _ _ _ _ _ _ (by omega) A1
      have B2 := o2 _ _ _ _ _ _ (by omega) B1
      have E2 := o2 _ _ _ _ _ _ (by omega) E1
      have F2 := o2 _ _ _ _ _ _ (by omega) F1
      have Q2 := o2 _ _ _ _ _ _ (by omega) Q1
      have K2 : Below w.heap.size w w2 := k1.trans (k2 _ (by omega))
      clear x0 x1 x2 x3 x4 x5 y0 y1 y2 y3 y4 y5 A1 B1 E1 F1 Q1 R1 e2 o2 k2 k1
      refine (s2 _).mono ?_
      rintro e w3 ⟨v, rfl, ⟨t0, t1, t2, t3, rfl, lt, et⟩, hb3⟩
      have z3 : w.heap.size + 1 + 1 + 1 + 1 + 1 < w3.heap.size := by have := hb3.size; omega
      have k3 : Below w.heap.size w w3 := K2.trans (hb3.mono (by omega))
      have A3 := A2.pass hb3 (by omega)
      have B3 := B2.pass hb3 (by omega)
      have E3 := E2.pass hb3 (by omega)
      have F3 := F2.pass hb3 (by omega)
      have Q3 := Q2.pass hb3 (by omega)
      have R3 := R2.pass hb3 (by omega)
      clear A2 B2 E2 F2 Q2 R2 K2 hb3 z2 z1 s2
      have Q3' := Q3
      obtain ⟨y0, y1, y2, y3, y4, y5⟩ := Q3'
      go_upto_region 7 with (fail)
      obtain ⟨w4, e4, z4, k4, o4, Q4⟩ := Blk.put5 w3 (w.heap.size + 1 + 1 + 1 + 1) (.int .u64 t0) (.int .u64 t1) (.int .u64 t2) (.int .u64 t3) (.bool false) Q3
      rw [e4]
      have A4 := o4 _ _ _ _ _ _ (by omega) A3
      have B4 := o4 _ _ _ _ _ _ (by omega) B3
      have E4 := o4 _ _ _ _ _ _ (by omega) E3
      have F4 := o4 _ _ _ _ _ _ (by omega) F3
      have R4 := o4 _ _ _ _ _ _ (by omega) R3
      have K4 : Below w.heap.size w w4 := k3.trans (k4 _ (by omega))
      have hsz4 : w.heap.size + 1 + 1 + 1 + 1 + 1 < w4.heap.size := by omega
      clear y0 y1 y2 y3 y4 y5 A3 B3 E3 F3 Q3 R3 e4 o4 k4 k3 z3 z4
      -- the bit
      have X : w4.cell? ⟨w.heap.size, j / 32, none⟩ = some (.int .u64 (part a0 a1 a2 a3 (j / 32))) := by
        have hc : j / 32 = 0 ∨ j / 32 = 1 ∨ j / 32 = 2 ∨ j / 32 = 3 := by omega
        rcases hc with h | h | h | h <;> rw [h]
        · exact A4.c0
        · exact A4.c1
        · exact A4.c2
        · exact A4.c3
      have XB : 0 ≤ part a0 a1 a2 a3 (j / 32) := by
        obtain ⟨p0, p0', p1, p1', p2, p2', p3, p3'⟩ := la
        unfold part; split
        · exact p0
        · split
          · exact p1
          · split
            · exact p2
            · exact p3
      have hbit := bit_part la (j / 32) (j % 32) (by omega) (by omega)
      rw [show 32 * (j / 32) + j % 32 = j by omega] at hbit
      generalize part a0 a1 a2 a3 (j / 32) = x at *
      obtain ⟨y, hy, hyx⟩ : ∃ y : Int, x / 2 ^ (j % 32) = y ∧ y = ((x.toNat / 2 ^ (j % 32) : Nat) : Int) := ⟨_, rfl, by
        rw [Int.natCast_ediv, Int.toNat_of_nonneg XB, Int.natCast_pow]; rfl⟩
      have hy0 : 0 ≤ y := by rw [hyx]; exact Int.natCast_nonneg _
      have hyb : y % 2 = (((val a0 a1 a2 a3).toNat / 2 ^ j % 2 : Nat) : Int) := by
        rw [hyx, ← hbit]; generalize x.toNat / 2 ^ (j % 32) = nn; omega
      have hs2 : s0 % 2 = 0 ∧ 0 ≤ s0 ∧ s0 + 1 < 4294967296 := by
        obtain ⟨p0, p0', p1, p1', p2, p2', p3, p3'⟩ := ls
        unfold val at es; omega
      have ht2 : t0 % 2 = 0 ∧ 0 ≤ t0 ∧ t0 + 1 < 4294967296 := by
        obtain ⟨p0, p0', p1, p1', p2, p2', p3, p3'⟩ := lt
        unfold val at et; omega
      have hs3 := hs2.2.1
      have hs4 := hs2.2.2
      have ht3 := ht2.2.1
      have ht4 := ht2.2.2
      clear hs2 ht2 hyx hbit
      have hjz : j ≤ 127 := by omega
      have HJ := Lib.hid hjz
      by_cases h1 : y % 2 = 1
      · skip
        have hym : y % 2 = 1 := h1
        have hyt : y.tmod 2 = 1 := by rw [Int.tmod_eq_emod_of_nonneg hy0]; exact h1
        have MB : Hid ((val a0 a1 a2 a3).toNat / 2 ^ j % 2 = 1) := Lib.hid (by omega)
        clear hyb h1
        have IR2 : IsW (2 * val r0 r1 r2 r3 + 1) false (.agg #[.int .u64 (s0 + 1), .int .u64 s1', .int .u64 s2', .int .u64 s3, .bool false]) := ⟨_, _, _, _, rfl, ⟨by omega, by omega, ls.p1, ls.q1, ls.p2, ls.q2, ls.p3, ls.q3⟩, by unfold val at *; omega⟩
        have cc := fun (w : World) => cmp_any IR2 IB w
        have R4' := R4
        have B4' := B4
        obtain ⟨x0, x1, x2, x3, x4, x5⟩ := R4'
        obtain ⟨v0, v1, v2, v3, v4, v5⟩ := B4'
        go_wp2_with (go_at_call 48; fail)
        obtain ⟨w5, e5, z5, k5, o5, p5⟩ := Blk.put w4 (w.heap.size + 1 + 1 + 1 + 1 + 1) 0 (.int .u64 (s0 + 1))
        rw [e5]
        have R5 := p5 _ _ _ _ _ R4
        obtain ⟨w6, e6, z6, k6, o6, p6⟩ := Blk.put w5 (w.heap.size + 1 + 1 + 1 + 1 + 1) 4 (.bool false)
        rw [e6]
        have R6 := p6 _ _ _ _ _ R5
        have A6 := o6 _ _ _ _ _ _ (by omega) (o5 _ _ _ _ _ _ (by omega) A4)
        have B6 := o6 _ _ _ _ _ _ (by omega) (o5 _ _ _ _ _ _ (by omega) B4)
        have E6 := o6 _ _ _ _ _ _ (by omega) (o5 _ _ _ _ _ _ (by omega) E4)
        have F6 := o6 _ _ _ _ _ _ (by omega) (o5 _ _ _ _ _ _ (by omega) F4)
        have Q6 := o6 _ _ _ _ _ _ (by omega) (o5 _ _ _ _ _ _ (by omega) Q4)
        have K6 : Below w.heap.size w w6 := (K4.trans (k5 _ (by omega))).trans (k6 _ (by omega))
        have R6 : Blk w6 (w.heap.size + 1 + 1 + 1 + 1 + 1) (.int .u64 (s0 + 1)) (.int .u64 s1') (.int .u64 s2') (.int .u64 s3) (.bool false) := R6
        have hsz6 : w.heap.size + 1 + 1 + 1 + 1 + 1 < w6.heap.size := by omega
        clear x0 x1 x2 x3 x4 x5 v0 v1 v2 v3 v4 v5 A4 B4 E4 F4 Q4 R4 R5 e5 e6 z5 z6 k5 k6 o5 o6 p6 K4 hsz4 p5
        refine (cc _).mono ?_
        rintro e w7 ⟨rfl, hb7⟩
        have hsz7 : w.heap.size + 1 + 1 + 1 + 1 + 1 < w7.heap.size := by have := hb7.size; omega
        have K7 : Below w.heap.size w w7 := K6.trans (hb7.mono (by omega))
        have A7 := A6.pass hb7 (by omega)
        have B7 := B6.pass hb7 (by omega)
        have E7 := E6.pass hb7 (by omega)
        have F7 := F6.pass hb7 (by omega)
        have Q7 := Q6.pass hb7 (by omega)
        have R7 := R6.pass hb7 (by omega)
        clear A6 B6 E6 F6 Q6 R6 K6 hsz6 hb7 cc
        obtain ⟨m1, m2, m3, m4⟩ := MA.out
        have m5 := MB.out
        have m6 : (val a0 a1 a2 a3).toNat / 2 ^ j = 2 * ((val a0 a1 a2 a3).toNat / 2 ^ (j + 1)) + 1 := m1.trans (by rw [m5])
        have bp : 0 < (val b0 b1 b2 b3).toNat := by omega
        have rp := val_ge lr
        by_cases hge : val b0 b1 b2 b3 ≤ 2 * val r0 r1 r2 r3 + 1
        · have hk0 : 0 ≤ cmpV (2 * val r0 r1 r2 r3 + 1) (val b0 b1 b2 b3) := by unfold cmpV; rw [if_neg (by omega)]; split <;> omega
          generalize cmpV (2 * val r0 r1 r2 r3 + 1) (val b0 b1 b2 b3) = kk at *
          have cl := fun (w : World) => less_any IR2 IB hge w
          have st := div_step_ge ((val a0 a1 a2 a3).toNat / 2 ^ (j + 1)) (val b0 b1 b2 b3).toNat 1 bp (by omega) (by omega)
          rw [← m6, ← m3, ← m4] at st
          have ST := Lib.hid st
          have GE := Lib.hid hge
          clear st m1 m2 m3 m4 m5 m6 bp rp hge
          have R7' := R7
          have B7' := B7
          obtain ⟨x0, x1, x2, x3, x4, x5⟩ := R7'
          obtain ⟨v0, v1, v2, v3, v4, v5⟩ := B7'
          go_wp2_with (go_at_call 49; fail)
          refine (cl _).mono ?_
          rintro e w8 ⟨v, rfl, ⟨d0, d1, d2, d3, rfl, ld, ed⟩, hb8⟩
          have hsz8 : w.heap.size + 1 + 1 + 1 + 1 + 1 < w8.heap.size := by have := hb8.size; omega
          have K8 : Below w.heap.size w w8 := K7.trans (hb8.mono (by omega))
          have A8 := A7.pass hb8 (by omega)
          have B8 := B7.pass hb8 (by omega)
          have E8 := E7.pass hb8 (by omega)
          have F8 := F7.pass hb8 (by omega)
          have Q8 := Q7.pass hb8 (by omega)
          have R8 := R7.pass hb8 (by omega)
          clear x0 x1 x2 x3 x4 x5 v0 v1 v2 v3 v4 v5 A7 B7 E7 F7 Q7 R7 K7 hsz7 hb8 cl
          have R8' := R8
          have Q8' := Q8
          obtain ⟨x0, x1, x2, x3, x4, x5⟩ := R8'
          obtain ⟨y0, y1, y2, y3, y4, y5⟩ := Q8'
          have LD := Lib.hid ld
          have ED := Lib.hid ed
          clear ld ed
          go_wp2
          obtain ⟨w9, e9, z9, k9, o9, R9⟩ := Blk.put5 w8 (w.heap.size + 1 + 1 + 1 + 1 + 1) (.int .u64 d0) (.int .u64 d1) (.int .u64 d2) (.int .u64 d3) (.bool false) R8
          rw [e9]
          obtain ⟨w10, e10, z10, k10, o10, p10⟩ := Blk.put w9 (w.heap.size + 1 + 1 + 1 + 1) 0 (.int .u64 (t0 + 1))
          rw [e10]
          have Q10 := p10 _ _ _ _ _ (o9 _ _ _ _ _ _ (by omega) Q8)
          have R10 := o10 _ _ _ _ _ _ (by omega) R9
          have A10 := o10 _ _ _ _ _ _ (by omega) (o9 _ _ _ _ _ _ (by omega) A8)
          have B10 := o10 _ _ _ _ _ _ (by omega) (o9 _ _ _ _ _ _ (by omega) B8)
          have E10 := o10 _ _ _ _ _ _ (by omega) (o9 _ _ _ _ _ _ (by omega) E8)
          have F10 := o10 _ _ _ _ _ _ (by omega) (o9 _ _ _ _ _ _ (by omega) F8)
          go_roundw
          case rel => exact ⟨j, t0 + 1, t1, t2, t3, d0, d1, d2, d3, by omega, rfl, ⟨A10, B10, E10, F10, Q10, R10, by omega, (K8.trans (k9 _ (by omega))).trans (k10 _ (by omega)), ⟨by omega, ht4, lt.p1, lt.q1, lt.p2, lt.q2, lt.p3, lt.q3⟩, LD.out, by rw [ST.out.1]; have := val_ge lq; unfold val at *; omega, by rw [ST.out.2]; have := ED.out; have := val_ge lr; have := GE.out; omega⟩⟩
          case measure => first | (simp [intOf]; done) | (simp [intOf]; omega)
        · have hk0 : cmpV (2 * val r0 r1 r2 r3 + 1) (val b0 b1 b2 b3) < 0 := by unfold cmpV; rw [if_pos (by omega)]; omega
          generalize cmpV (2 * val r0 r1 r2 r3 + 1) (val b0 b1 b2 b3) = kk at *
          have st := div_step_lt ((val a0 a1 a2 a3).toNat / 2 ^ (j + 1)) (val b0 b1 b2 b3).toNat 1 bp (by omega)
          rw [← m6, ← m3, ← m4] at st
          have ST := Lib.hid st
          clear st m1 m2 m3 m4 m5 m6 bp rp hge
          go_wp2
          go_roundw
          case rel => exact ⟨j, t0, t1, t2, t3, (s0 + 1), s1', s2', s3, by omega, rfl, ⟨A7, B7, E7, F7, Q7, R7, hsz7, K7, lt, ⟨by omega, by omega, ls.p1, ls.q1, ls.p2, ls.q2, ls.p3, ls.q3⟩, by rw [ST.out.1]; have := val_ge lq; unfold val at *; omega, by rw [ST.out.2]; have := val_ge lr; unfold val at *; omega⟩⟩
          case measure => first | (simp [intOf]; done) | (simp [intOf]; omega)
      · skip
        have hym : y % 2 = 0 := by omega
        have hyt : y.tmod 2 = 0 := by rw [Int.tmod_eq_emod_of_nonneg hy0]; omega
        have MB : Hid ((val a0 a1 a2 a3).toNat / 2 ^ j % 2 = 0) := Lib.hid (by omega)
        clear hyb h1
        have IR2 : IsW (2 * val r0 r1 r2 r3 + 0) false (.agg #[.int .u64 s0, .int .u64 s1', .int .u64 s2', .int .u64 s3, .bool false]) := ⟨_, _, _, _, rfl, ⟨by omega, by omega, ls.p1, ls.q1, ls.p2, ls.q2, ls.p3, ls.q3⟩, by unfold val at *; omega⟩
        have cc := fun (w : World) => cmp_any IR2 IB w
        have R4' := R4
        have B4' := B4
        obtain ⟨x0, x1, x2, x3, x4, x5⟩ := R4'
        obtain ⟨v0, v1, v2, v3, v4, v5⟩ := B4'
        go_wp2_with (go_at_call 48; fail)
        obtain ⟨w5, e5, z5, k5, o5, R5⟩ : ∃ w5, w4 = w5 ∧ w5.heap.size = w4.heap.size ∧ (∀ B, B ≤ w.heap.size + 1 + 1 + 1 + 1 + 1 → Below B w4 w5) ∧ (∀ b' x0 x1 x2 x3 x4, b' ≠ w.heap.size + 1 + 1 + 1 + 1 + 1 → Blk w4 b' x0 x1 x2 x3 x4 → Blk w5 b' x0 x1 x2 x3 x4) ∧ Blk w5 (w.heap.size + 1 + 1 + 1 + 1 + 1) (.int .u64 s0) (.int .u64 s1') (.int .u64 s2') (.int .u64 s3) (.bool false) := ⟨w4, rfl, rfl, fun B _ => Below.refl _ _, fun _ _ _ _ _ _ _ h => h, R4⟩
        rw [e5]
        obtain ⟨w6, e6, z6, k6, o6, p6⟩ := Blk.put w5 (w.heap.size + 1 + 1 + 1 + 1 + 1) 4 (.bool false)
        rw [e6]
        have R6 := p6 _ _ _ _ _ R5
        have A6 := o6 _ _ _ _ _ _ (by omega) (o5 _ _ _ _ _ _ (by omega) A4)
        have B6 := o6 _ _ _ _ _ _ (by omega) (o5 _ _ _ _ _ _ (by omega) B4)
        have E6 := o6 _ _ _ _ _ _ (by omega) (o5 _ _ _ _ _ _ (by omega) E4)
        have F6 := o6 _ _ _ _ _ _ (by omega) (o5 _ _ _ _ _ _ (by omega) F4)
        have Q6 := o6 _ _ _ _ _ _ (by omega) (o5 _ _ _ _ _ _ (by omega) Q4)
        have K6 : Below w.heap.size w w6 := (K4.trans (k5 _ (by omega))).trans (k6 _ (by omega))
        have R6 : Blk w6 (w.heap.size + 1 + 1 + 1 + 1 + 1) (.int .u64 s0) (.int .u64 s1') (.int .u64 s2') (.int .u64 s3) (.bool false) := R6
        have hsz6 : w.heap.size + 1 + 1 + 1 + 1 + 1 < w6.heap.size := by omega
        clear x0 x1 x2 x3 x4 x5 v0 v1 v2 v3 v4 v5 A4 B4 E4 F4 Q4 R4 R5 e5 e6 z5 z6 k5 k6 o5 o6 p6 K4 hsz4
        refine (cc _).mono ?_
        rintro e w7 ⟨rfl, hb7⟩
        have hsz7 : w.heap.size + 1 + 1 + 1 + 1 + 1 < w7.heap.size := by have := hb7.size; omega
        have K7 : Below w.heap.size w w7 := K6.trans (hb7.mono (by omega))
        have A7 := A6.pass hb7 (by omega)
        have B7 := B6.pass hb7 (by omega)
        have E7 := E6.pass hb7 (by omega)
        have F7 := F6.pass hb7 (by omega)
        have Q7 := Q6.pass hb7 (by omega)
        have R7 := R6.pass hb7 (by omega)
        clear A6 B6 E6 F6 Q6 R6 K6 hsz6 hb7 cc
        obtain ⟨m1, m2, m3, m4⟩ := MA.out
        have m5 := MB.out
        have m6 : (val a0 a1 a2 a3).toNat / 2 ^ j = 2 * ((val a0 a1 a2 a3).toNat / 2 ^ (j + 1)) + 0 := m1.trans (by rw [m5])
        have bp : 0 < (val b0 b1 b2 b3).toNat := by omega
        have rp := val_ge lr
        by_cases hge : val b0 b1 b2 b3 ≤ 2 * val r0 r1 r2 r3 + 0
        · have hk0 : 0 ≤ cmpV (2 * val r0 r1 r2 r3 + 0) (val b0 b1 b2 b3) := by unfold cmpV; rw [if_neg (by omega)]; split <;> omega
          generalize cmpV (2 * val r0 r1 r2 r3 + 0) (val b0 b1 b2 b3) = kk at *
          have cl := fun (w : World) => less_any IR2 IB hge w
          have st := div_step_ge ((val a0 a1 a2 a3).toNat / 2 ^ (j + 1)) (val b0 b1 b2 b3).toNat 0 bp (by omega) (by omega)
          rw [← m6, ← m3, ← m4] at st
          have ST := Lib.hid st
          have GE := Lib.hid hge
          clear st m1 m2 m3 m4 m5 m6 bp rp hge
          have R7' := R7
          have B7' := B7
          obtain ⟨x0, x1, x2, x3, x4, x5⟩ := R7'
          obtain ⟨v0, v1, v2, v3, v4, v5⟩ := B7'
          go_wp2_with (go_at_call 49; fail)
          refine (cl _).mono ?_
          rintro e w8 ⟨v, rfl, ⟨d0, d1, d2, d3, rfl, ld, ed⟩, hb8⟩
          have hsz8 : w.heap.size + 1 + 1 + 1 + 1 + 1 < w8.heap.size := by have := hb8.size; omega
          have K8 : Below w.heap.size w w8 := K7.trans (hb8.mono (by omega))
          have A8 := A7.pass hb8 (by omega)
          have B8 := B7.pass hb8 (by omega)
          have E8 := E7.pass hb8 (by omega)
          have F8 := F7.pass hb8 (by omega)
          have Q8 := Q7.pass hb8 (by omega)
          have R8 := R7.pass hb8 (by omega)
          clear x0 x1 x2 x3 x4 x5 v0 v1 v2 v3 v4 v5 A7 B7 E7 F7 Q7 R7 K7 hsz7 hb8 cl
          have R8' := R8
          have Q8' := Q8
          obtain ⟨x0, x1, x2, x3, x4, x5⟩ := R8'
          obtain ⟨y0, y1, y2, y3, y4, y5⟩ := Q8'
          have LD := Lib.hid ld
          have ED := Lib.hid ed
          clear ld ed
          go_wp2
          obtain ⟨w9, e9, z9, k9, o9, R9⟩ := Blk.put5 w8 (w.heap.size + 1 + 1 + 1 + 1 + 1) (.int .u64 d0) (.int .u64 d1) (.int .u64 d2) (.int .u64 d3) (.bool false) R8
          rw [e9]
          obtain ⟨w10, e10, z10, k10, o10, p10⟩ := Blk.put w9 (w.heap.size + 1 + 1 + 1 + 1) 0 (.int .u64 (t0 + 1))
          rw [e10]
          have Q10 := p10 _ _ _ _ _ (o9 _ _ _ _ _ _ (by omega) Q8)
          have R10 := o10 _ _ _ _ _ _ (by omega) R9
          have A10 := o10 _ _ _ _ _ _ (by omega) (o9 _ _ _ _ _ _ (by omega) A8)
          have B10 := o10 _ _ _ _ _ _ (by omega) (o9 _ _ _ _ _ _ (by omega) B8)
          have E10 := o10 _ _ _ _ _ _ (by omega) (o9 _ _ _ _ _ _ (by omega) E8)
          have F10 := o10 _ _ _ _ _ _ (by omega) (o9 _ _ _ _ _ _ (by omega) F8)
          go_roundw
          case rel => exact ⟨j, t0 + 1, t1, t2, t3, d0, d1, d2, d3, by omega, rfl, ⟨A10, B10, E10, F10, Q10, R10, by omega, (K8.trans (k9 _ (by omega))).trans (k10 _ (by omega)), ⟨by omega, ht4, lt.p1, lt.q1, lt.p2, lt.q2, lt.p3, lt.q3⟩, LD.out, by rw [ST.out.1]; have := val_ge lq; unfold val at *; omega, by rw [ST.out.2]; have := ED.out; have := val_ge lr; have := GE.out; omega⟩⟩
          case measure => first | (simp [intOf]; done) | (simp [intOf]; omega)
        · have hk0 : cmpV (2 * val r0 r1 r2 r3 + 0) (val b0 b1 b2 b3) < 0 := by unfold cmpV; rw [if_pos (by omega)]; omega
          generalize cmpV (2 * val r0 r1 r2 r3 + 0) (val b0 b1 b2 b3) = kk at *
          have st := div_step_lt ((val a0 a1 a2 a3).toNat / 2 ^ (j + 1)) (val b0 b1 b2 b3).toNat 0 bp (by omega)
          rw [← m6, ← m3, ← m4] at st
          have ST := Lib.hid st
          clear st m1 m2 m3 m4 m5 m6 bp rp hge
          go_wp2
          go_roundw
          case rel => exact ⟨j, t0, t1, t2, t3, s0, s1', s2', s3, by omega, rfl, ⟨A7, B7, E7, F7, Q7, R7, hsz7, K7, lt, ⟨by omega, by omega, ls.p1, ls.q1, ls.p2, ls.q2, ls.p3, ls.q3⟩, by rw [ST.out.1]; have := val_ge lq; unfold val at *; omega, by rw [ST.out.2]; have := val_ge lr; unfold val at *; omega⟩⟩
          case measure => first | (simp [intOf]; done) | (simp [intOf]; omega)
end Go.Proofs.Ytaohidaijlcplaa.r
