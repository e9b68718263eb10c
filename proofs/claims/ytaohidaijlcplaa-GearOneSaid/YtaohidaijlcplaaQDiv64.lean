/- What math/bits.Div64 answers, for every number of 128 bits by one of 64 bits that is above its upper half: quotient and rest. -/
import Derived.Test.YtaohidaijlcplaaQCalls
import Derived.Test.YtaohidaijlcplaaQKnuth
namespace Go.Proofs.Ytaohidaijlcplaa.q
open Go.ChangeShapes Go.WideShapes Go.ChangeAt Go.RowKit
set_option linter.unusedVariables false

/-! ### The facts that the walk is given ahead of a digit -/
theorem digit_start (u u1 y1 y0 : Int) (hu0 : 0 ≤ u) (bu : u < y1 * 4294967296 + y0) (b1 : y1 < 4294967296) (b1' : 2147483648 ≤ y1) (b0 : y0 < 4294967296) (b0' : 0 ≤ y0) (bu1 : u1 < 4294967296) (bu1' : 0 ≤ u1) :
    ∃ q0 p0 r0 : Int, (u / y1 = q0 ∧ u.tdiv y1 = q0) ∧ q0 * y1 = p0 ∧ u - p0 = r0 ∧ 0 ≤ q0 ∧ q0 ≤ 4294967297 ∧ (0 ≤ p0 ∧ p0 < 18446744073709551616) ∧ 0 ≤ r0 ∧ r0 < 4294967296 ∧ Hid (Guess u.toNat u1.toNat y1.toNat y0.toNat q0.toNat r0.toNat) := by
  have g := guess_init u.toNat u1.toNat y1.toNat y0.toNat (by omega) (by omega) (by omega) (by omega) (by omega)
  have e1 : u / y1 = ((u.toNat / y1.toNat : Nat) : Int) := by
    rw [Int.natCast_ediv, Int.toNat_of_nonneg hu0, Int.toNat_of_nonneg (by omega)]
  have e2 : ((u.toNat / y1.toNat : Nat) : Int) * y1 = ((u.toNat / y1.toNat * y1.toNat : Nat) : Int) := by
    rw [Int.natCast_mul, Int.toNat_of_nonneg (a := y1) (by omega)]
  have e3 := Nat.div_add_mod' u.toNat y1.toNat
  refine ⟨_, _, _, ⟨e1, by rw [Int.tdiv_eq_ediv_of_nonneg hu0]; exact e1⟩, e2, rfl, ?_⟩
  have h := g.2.2
  have e4 : u - ((u.toNat / y1.toNat * y1.toNat : Nat) : Int) = ((u.toNat % y1.toNat : Nat) : Int) := by
    generalize u.toNat / y1.toNat * y1.toNat = p at *
    generalize u.toNat % y1.toNat = r at *
    omega
  rw [e4, Int.toNat_natCast, Int.toNat_natCast]
  generalize u.toNat / y1.toNat * y1.toNat = p at *
  generalize u.toNat % y1.toNat = r at *
  generalize u.toNat / y1.toNat = q at *
  exact ⟨by omega, by omega, ⟨by omega, by omega⟩, by omega, by omega, Lib.hid g⟩
theorem digit_prod (q y0 : Int) (gq' : 0 ≤ q) (gq : q ≤ 4294967297) (b0 : y0 < 4294967296) (b0' : 0 ≤ y0) :
    IntKind.u64.wrap (q * y0) = ((q.toNat * y0.toNat : Nat) : Int) := by
  have bB : q.toNat * y0.toNat < 18446744073709551616 := Nat.lt_of_le_of_lt (Nat.mul_le_mul (show q.toNat ≤ 4294967297 by omega) (show y0.toNat ≤ 4294967295 by omega)) (by omega)
  have := wrapN _ bB
  rw [Int.natCast_mul, Int.toNat_of_nonneg gq', Int.toNat_of_nonneg b0'] at this
  rw [this, Int.natCast_mul, Int.toNat_of_nonneg gq', Int.toNat_of_nonneg b0']
theorem digit_down (u u1 y1 y0 q r B : Int) (bu : u < y1 * 4294967296 + y0) (hu0 : 0 ≤ u) (b1' : 2147483648 ≤ y1) (b0 : y0 < 4294967296) (b0' : 0 ≤ y0) (bu1 : u1 < 4294967296) (bu1' : 0 ≤ u1) (gq' : 0 ≤ q) (gr' : 0 ≤ r)
    (g : Guess u.toNat u1.toNat y1.toNat y0.toNat q.toNat r.toNat) (hB : B = ((q.toNat * y0.toNat : Nat) : Int)) (hc : 4294967296 ≤ q ∨ 4294967296 * r + u1 < B) :
    1 ≤ q ∧ (r + y1 < 4294967296 → Guess u.toNat u1.toNat y1.toNat y0.toNat (q - 1).toNat (r + y1).toNat) ∧
      (¬ r + y1 < 4294967296 → ((dig u.toNat u1.toNat (y1.toNat * 4294967296 + y0.toNat) : Nat) : Int) + 1 = q) := by
  have hcn : 4294967296 ≤ q.toNat ∨ 4294967296 * r.toNat + u1.toNat < q.toNat * y0.toNat := by omega
  have bun : u.toNat < y1.toNat * 4294967296 + y0.toNat := by omega
  have hp := (guess_high u.toNat u1.toNat y1.toNat y0.toNat q.toNat r.toNat g bun (by omega) hcn).2
  refine ⟨by omega, fun hr => ?_, fun hr => ?_⟩
  · have := guess_next u.toNat u1.toNat y1.toNat y0.toNat q.toNat r.toNat g bun (by omega) hcn (by omega)
    rw [show (q - 1).toNat = q.toNat - 1 by omega, show (r + y1).toNat = r.toNat + y1.toNat by omega]
    exact this
  · have := guess_break u.toNat u1.toNat y1.toNat y0.toNat q.toNat r.toNat (by omega) g bun (by omega) (by omega) hcn (by omega)
    omega
theorem digit_stop (u u1 y1 y0 q r B : Int) (b1' : 2147483648 ≤ y1) (bu1' : 0 ≤ u1) (gq' : 0 ≤ q) (gr' : 0 ≤ r)
    (g : Guess u.toNat u1.toNat y1.toNat y0.toNat q.toNat r.toNat) (hB : B = ((q.toNat * y0.toNat : Nat) : Int)) (hc : ¬ (4294967296 ≤ q ∨ 4294967296 * r + u1 < B)) :
    ((dig u.toNat u1.toNat (y1.toNat * 4294967296 + y0.toNat) : Nat) : Int) = q := by
  have := guess_stop u.toNat u1.toNat y1.toNat y0.toNat q.toNat r.toNat (by omega) g (by omega)
  omega
theorem digit_rest (u u1 Y : Int) (hu0 : 0 ≤ u) (bu1' : 0 ≤ u1) (hY : 0 < Y) (bY : Y < 18446744073709551616) :
    IntKind.u64.wrap (IntKind.u64.wrap (IntKind.u64.wrap (u * 4294967296) + u1) - IntKind.u64.wrap (((dig u.toNat u1.toNat Y.toNat : Nat) : Int) * Y)) = ((rst u.toNat u1.toNat Y.toNat : Nat) : Int) := by
  have e := rest_is u.toNat u1.toNat Y.toNat
  have l : rst u.toNat u1.toNat Y.toNat < Y.toNat := Nat.mod_lt _ (by omega)
  have em : ((dig u.toNat u1.toNat Y.toNat : Nat) : Int) * Y = ((dig u.toNat u1.toNat Y.toNat * Y.toNat : Nat) : Int) := by
    rw [Int.natCast_mul, Int.toNat_of_nonneg (a := Y) (by omega)]
  rw [em]
  generalize dig u.toNat u1.toNat Y.toNat * Y.toNat = P at *
  generalize rst u.toNat u1.toNat Y.toNat = R at *
  rw [IntKind.wrap_u64, IntKind.wrap_u64, IntKind.wrap_u64, IntKind.wrap_u64]
  have e' : u * 4294967296 + u1 = (P : Int) + (R : Int) := by omega
  rw [Int.emod_add_emod, e', ← Int.sub_emod]
  omega

set_option maxRecDepth 100000 in
set_option maxHeartbeats 2000000 in
theorem div64_core (hi lo y Y y1 y0 u L u1 u0 : Int) (s : Nat) (hs : s < 64) (hz : ∀ w, Calls Try.prog 47 #[.int .u64 y] w fun e w' => e = .returned (.int .i64 (s : Int)) ∧ w = w')
    (hh : 0 < hi) (hhi : hi < y)
    (eY : IntKind.u64.wrap (y * 2 ^ s) = Y)
    (eU : bits .or .u64 (IntKind.u64.wrap (hi * 2 ^ s)) (lo / 2 ^ (64 - s)) = u)
    (eL : IntKind.u64.wrap (lo * 2 ^ s) = L)
    (ey1 : Y / 4294967296 = y1) (ey0 : bits .and .u64 Y 4294967295 = y0)
    (eu1 : L / 4294967296 = u1) (eu0 : bits .and .u64 L 4294967295 = u0)
    (HY : Hid (Y = y1 * 4294967296 + y0)) (HYn : Hid (Y.toNat = y1.toNat * 4294967296 + y0.toNat)) (HYl : Hid (0 < Y ∧ Y < 18446744073709551616)) (hu0 : 0 ≤ u) (bu : u < Y) (b1 : y1 < 4294967296) (b1' : 2147483648 ≤ y1) (b0 : y0 < 4294967296) (b0' : 0 ≤ y0) (bu1 : u1 < 4294967296) (bu1' : 0 ≤ u1) (bu0 : u0 < 4294967296) (bu0' : 0 ≤ u0) (w : World) :
    Calls Try.prog 30 #[.int .u64 hi, .int .u64 lo, .int .u64 y] w fun e w' => e = .returned (.tuple #[.int .u64 ((dig u.toNat u1.toNat Y.toNat * 4294967296 + dig (rst u.toNat u1.toNat Y.toNat) u0.toNat Y.toNat : Nat) : Int), .int .u64 ((rst (rst u.toNat u1.toNat Y.toNat) u0.toNat Y.toNat / 2 ^ s : Nat) : Int)]) ∧ w = w' := by
  obtain ⟨q0, p0, r0, ⟨f1, f0⟩, f2, f3, f4, f5, ⟨f6, fp⟩, f7, f8, f9⟩ := digit_start u u1 y1 y0 hu0 (by rw [← HY.out]; exact bu) b1 b1' b0 b0' bu1 bu1'
  have HQ := Lib.hid (rfl : ((dig u.toNat u1.toNat Y.toNat : Nat) : Int) = ((dig u.toNat u1.toNat Y.toNat : Nat) : Int))
  obtain ⟨Q1, hQ1⟩ : ∃ Q1 : Int, ((dig u.toNat u1.toNat Y.toNat : Nat) : Int) = Q1 := ⟨_, rfl⟩
  obtain ⟨R1, hR1⟩ : ∃ R1 : Int, ((rst u.toNat u1.toNat Y.toNat : Nat) : Int) = R1 := ⟨_, rfl⟩
  have eR := digit_rest u u1 Y hu0 bu1' HYl.out.1 HYl.out.2
  rw [hQ1, hR1] at eR
  have bR0 : 0 ≤ R1 := by omega
  have bR : R1 < Y := by
    have : rst u.toNat u1.toNat Y.toNat < Y.toNat := Nat.mod_lt _ (by have := HYl.out; omega)
    have := HYl.out
    omega
  have bQ0 : 0 ≤ Q1 := by omega
  have bQ : Q1 < 4294967296 := by
    have := dig_lt u.toNat u1.toNat Y.toNat (by have := HYl.out; omega) (by omega)
    omega
  obtain ⟨q0', p0', r0', ⟨f1', f0'⟩, f2', f3', f4', f5', ⟨f6', fp'⟩, f7', f8', f9'⟩ := digit_start R1 u0 y1 y0 bR0 (by rw [← HY.out]; exact bR) b1 b1' b0 b0' bu0 bu0'
  obtain ⟨Q0, hQ0⟩ : ∃ Q0 : Int, ((dig R1.toNat u0.toNat Y.toNat : Nat) : Int) = Q0 := ⟨_, rfl⟩
  obtain ⟨R0, hR0⟩ : ∃ R0 : Int, ((rst R1.toNat u0.toNat Y.toNat : Nat) : Int) = R0 := ⟨_, rfl⟩
  have eR' := digit_rest R1 u0 Y bR0 bu0' HYl.out.1 HYl.out.2
  rw [hQ0, hR0] at eR'
  have cQ0 : 0 ≤ Q0 := by omega
  have cQ : Q0 < 4294967296 := by
    have := dig_lt R1.toNat u0.toNat Y.toNat (by have := HYl.out; omega) (by omega)
    omega
  have FIN : Hid (((dig u.toNat u1.toNat Y.toNat * 4294967296 + dig (rst u.toNat u1.toNat Y.toNat) u0.toNat Y.toNat : Nat) : Int) = Q1 * 4294967296 + Q0 ∧ ((rst (rst u.toNat u1.toNat Y.toNat) u0.toNat Y.toNat / 2 ^ s : Nat) : Int) = R0 / 2 ^ s) := Lib.hid (by
    have e : rst u.toNat u1.toNat Y.toNat = R1.toNat := by omega
    rw [e]
    refine ⟨by omega, ?_⟩
    rw [Int.natCast_ediv, hR0, Int.natCast_pow]; rfl)
  have BU : Hid (u < y1 * 4294967296 + y0) := Lib.hid (by rw [← HY.out]; exact bu)
  have BR : Hid (R1 < y1 * 4294967296 + y0) := Lib.hid (by rw [← HY.out]; exact bR)
  have HQ1 : Hid (((dig u.toNat u1.toNat (y1.toNat * 4294967296 + y0.toNat) : Nat) : Int) = Q1) := Lib.hid (by rw [← HYn.out]; exact hQ1)
  have HQ0 : Hid (((dig R1.toNat u0.toNat (y1.toNat * 4294967296 + y0.toNat) : Nat) : Int) = Q0) := Lib.hid (by rw [← HYn.out]; exact hQ0)
  have HUN : Hid (((dig u.toNat u1.toNat Y.toNat * 4294967296 + dig (rst u.toNat u1.toNat Y.toNat) u0.toNat Y.toNat : Nat) : Int) = Q1 * 4294967296 + Q0) := Lib.hid FIN.out.1
  clear hQ1 hR1 hQ0 hR0 HQ HYl
  go_enter Try.func30, Try.ntmps30
  go_wp2_with (go_at_call 47; with_reducible refine (hz _).mono ?_; rintro e w' ⟨rfl, rfl⟩)
  clear eY eU eL ey1 ey0 eu1 eu0 hz hh hhi
  go_loop [15, 16] (fun qv rv => ∃ q r : Int, qv = .int .u64 q ∧ rv = .int .u64 r ∧ 0 ≤ q ∧ q ≤ 4294967297 ∧ 0 ≤ r ∧ r < 4294967296 ∧ Hid (Guess u.toNat u1.toNat y1.toNat y0.toNat q.toNat r.toNat)) (fun qv _ => (intOf qv).toNat)
  case atStart => exact ⟨_, _, rfl, rfl, f4, f5, f7, f8, f9⟩
  case round =>
    obtain ⟨q, r, rfl, rfl, gq', gq, gr', gr, g⟩ := hrel
    clear fp f0 f1 f2 f3 f4 f5 f6 f7 f8 f9
    have eB := digit_prod q y0 gq' gq b0 b0'
    obtain ⟨B, hB⟩ : ∃ B : Int, ((q.toNat * y0.toNat : Nat) : Int) = B := ⟨_, rfl⟩
    rw [hB] at eB
    by_cases hc : 4294967296 ≤ q ∨ 4294967296 * r + u1 < B
    · obtain ⟨d1, d2, d3⟩ := digit_down u u1 y1 y0 q r B BU.out hu0 b1' b0 b0' bu1 bu1' gq' gr' g.out hB.symm hc
      have bB0 : 0 ≤ B := by omega
      by_cases hr : r + y1 < 4294967296
      · have GN := Lib.hid (d2 hr)
        clear d2 d3 hB g
        by_cases hc1 : 4294967296 ≤ q
        · clear hc
          go_wp2
          go_round
          case rel => exact ⟨_, _, rfl, rfl, by omega, by omega, by omega, by omega, GN⟩
          case measure => simp [intOf]; omega
        · have hc2 : 4294967296 * r + u1 < B := by omega
          clear hc
          go_wp2
          go_round
          case rel => exact ⟨_, _, rfl, rfl, by omega, by omega, by omega, by omega, GN⟩
          case measure => simp [intOf]; omega
      · have hq := d3 hr
        rw [HQ1.out] at hq
        clear d2 d3 hB g
        subst hq
        by_cases hc1 : 4294967296 ≤ Q1 + 1
        · clear hc
          skip
          go_wp2
          go_loop [18, 16] (fun qv rv => ∃ q r : Int, qv = .int .u64 q ∧ rv = .int .u64 r ∧ 0 ≤ q ∧ q ≤ 4294967297 ∧ 0 ≤ r ∧ r < 4294967296 ∧ Hid (Guess R1.toNat u0.toNat y1.toNat y0.toNat q.toNat r.toNat)) (fun qv _ => (intOf qv).toNat)
          case atStart => exact ⟨_, _, rfl, rfl, f4', f5', f7', f8', f9'⟩
          case round =>
            obtain ⟨q, r, rfl, rfl, gq', gq, gr', gr, g⟩ := hrel
            clear fp' f0' f1' f2' f3' f4' f5' f6' f7' f8' f9'
            have eB := digit_prod q y0 gq' gq b0 b0'
            obtain ⟨B, hB⟩ : ∃ B : Int, ((q.toNat * y0.toNat : Nat) : Int) = B := ⟨_, rfl⟩
            rw [hB] at eB
            by_cases hc : 4294967296 ≤ q ∨ 4294967296 * r + u0 < B
            · obtain ⟨d1, d2, d3⟩ := digit_down R1 u0 y1 y0 q r B BR.out bR0 b1' b0 b0' bu0 bu0' gq' gr' g.out hB.symm hc
              have bB0 : 0 ≤ B := by omega
              by_cases hr : r + y1 < 4294967296
              · have GN := Lib.hid (d2 hr)
                clear d2 d3 hB g
                by_cases hc1 : 4294967296 ≤ q
                · clear hc
                  go_wp2
                  go_round
                  case rel => exact ⟨_, _, rfl, rfl, by omega, by omega, by omega, by omega, GN⟩
                  case measure => simp [intOf]; omega
                · have hc2 : 4294967296 * r + u0 < B := by omega
                  clear hc
                  go_wp2
                  go_round
                  case rel => exact ⟨_, _, rfl, rfl, by omega, by omega, by omega, by omega, GN⟩
                  case measure => simp [intOf]; omega
              · have hq := d3 hr
                rw [HQ0.out] at hq
                clear d2 d3 hB g
                subst hq
                by_cases hc1 : 4294967296 ≤ Q0 + 1
                · clear hc
                  go_wp2
                  go_ret2
                  exact ⟨ret2_int FIN.out.1.symm FIN.out.2.symm, rfl⟩
                · have hc2 : 4294967296 * r + u0 < B := by omega
                  clear hc
                  go_wp2
                  go_ret2
                  exact ⟨ret2_int FIN.out.1.symm FIN.out.2.symm, rfl⟩
            · have hq := digit_stop R1 u0 y1 y0 q r B b1' bu0' gq' gr' g.out hB.symm hc
              rw [HQ0.out] at hq
              have bB0 : 0 ≤ B := by omega
              clear hB g
              subst hq
              have hc1 : ¬ 4294967296 ≤ Q0 := fun h => hc (Or.inl h)
              have hc2 : ¬ 4294967296 * r + u0 < B := fun h => hc (Or.inr h)
              clear hc
              go_wp2
              go_ret2
              exact ⟨ret2_int FIN.out.1.symm FIN.out.2.symm, rfl⟩
        · have hc2 : 4294967296 * r + u1 < B := by omega
          clear hc
          skip
          go_wp2
          go_loop [18, 16] (fun qv rv => ∃ q r : Int, qv = .int .u64 q ∧ rv = .int .u64 r ∧ 0 ≤ q ∧ q ≤ 4294967297 ∧ 0 ≤ r ∧ r < 4294967296 ∧ Hid (Guess R1.toNat u0.toNat y1.toNat y0.toNat q.toNat r.toNat)) (fun qv _ => (intOf qv).toNat)
          case atStart => exact ⟨_, _, rfl, rfl, f4', f5', f7', f8', f9'⟩
          case round =>
            obtain ⟨q, r, rfl, rfl, gq', gq, gr', gr, g⟩ := hrel
            clear fp' f0' f1' f2' f3' f4' f5' f6' f7' f8' f9'
            have eB := digit_prod q y0 gq' gq b0 b0'
            obtain ⟨B, hB⟩ : ∃ B : Int, ((q.toNat * y0.toNat : Nat) : Int) = B := ⟨_, rfl⟩
            rw [hB] at eB
            by_cases hc : 4294967296 ≤ q ∨ 4294967296 * r + u0 < B
            · obtain ⟨d1, d2, d3⟩ := digit_down R1 u0 y1 y0 q r B BR.out bR0 b1' b0 b0' bu0 bu0' gq' gr' g.out hB.symm hc
              have bB0 : 0 ≤ B := by omega
              by_cases hr : r + y1 < 4294967296
              · have GN := Lib.hid (d2 hr)
                clear d2 d3 hB g
                by_cases hc1 : 4294967296 ≤ q
                · clear hc
                  go_wp2
                  go_round
                  case rel => exact ⟨_, _, rfl, rfl, by omega, by omega, by omega, by omega, GN⟩
                  case measure => simp [intOf]; omega
                · have hc2 : 4294967296 * r + u0 < B := by omega
                  clear hc
                  go_wp2
                  go_round
                  case rel => exact ⟨_, _, rfl, rfl, by omega, by omega, by omega, by omega, GN⟩
                  case measure => simp [intOf]; omega
              · have hq := d3 hr
                rw [HQ0.out] at hq
                clear d2 d3 hB g
                subst hq
                by_cases hc1 : 4294967296 ≤ Q0 + 1
                · clear hc
                  go_wp2
                  go_ret2
                  exact ⟨ret2_int FIN.out.1.symm FIN.out.2.symm, rfl⟩
                · have hc2 : 4294967296 * r + u0 < B := by omega
                  clear hc
                  go_wp2
                  go_ret2
                  exact ⟨ret2_int FIN.out.1.symm FIN.out.2.symm, rfl⟩
            · have hq := digit_stop R1 u0 y1 y0 q r B b1' bu0' gq' gr' g.out hB.symm hc
              rw [HQ0.out] at hq
              have bB0 : 0 ≤ B := by omega
              clear hB g
              subst hq
              have hc1 : ¬ 4294967296 ≤ Q0 := fun h => hc (Or.inl h)
              have hc2 : ¬ 4294967296 * r + u0 < B := fun h => hc (Or.inr h)
              clear hc
              go_wp2
              go_ret2
              exact ⟨ret2_int FIN.out.1.symm FIN.out.2.symm, rfl⟩
    · have hq := digit_stop u u1 y1 y0 q r B b1' bu1' gq' gr' g.out hB.symm hc
      rw [HQ1.out] at hq
      have bB0 : 0 ≤ B := by omega
      clear hB g
      subst hq
      have hc1 : ¬ 4294967296 ≤ Q1 := fun h => hc (Or.inl h)
      have hc2 : ¬ 4294967296 * r + u1 < B := fun h => hc (Or.inr h)
      clear hc
      skip
      go_wp2
      go_loop [18, 16] (fun qv rv => ∃ q r : Int, qv = .int .u64 q ∧ rv = .int .u64 r ∧ 0 ≤ q ∧ q ≤ 4294967297 ∧ 0 ≤ r ∧ r < 4294967296 ∧ Hid (Guess R1.toNat u0.toNat y1.toNat y0.toNat q.toNat r.toNat)) (fun qv _ => (intOf qv).toNat)
      case atStart => exact ⟨_, _, rfl, rfl, f4', f5', f7', f8', f9'⟩
      case round =>
        obtain ⟨q, r, rfl, rfl, gq', gq, gr', gr, g⟩ := hrel
        clear fp' f0' f1' f2' f3' f4' f5' f6' f7' f8' f9'
        have eB := digit_prod q y0 gq' gq b0 b0'
        obtain ⟨B, hB⟩ : ∃ B : Int, ((q.toNat * y0.toNat : Nat) : Int) = B := ⟨_, rfl⟩
        rw [hB] at eB
        by_cases hc : 4294967296 ≤ q ∨ 4294967296 * r + u0 < B
        · obtain ⟨d1, d2, d3⟩ := digit_down R1 u0 y1 y0 q r B BR.out bR0 b1' b0 b0' bu0 bu0' gq' gr' g.out hB.symm hc
          have bB0 : 0 ≤ B := by omega
          by_cases hr : r + y1 < 4294967296
          · have GN := Lib.hid (d2 hr)
            clear d2 d3 hB g
            by_cases hc1 : 4294967296 ≤ q
            · clear hc
              go_wp2
              go_round
              case rel => exact ⟨_, _, rfl, rfl, by omega, by omega, by omega, by omega, GN⟩
              case measure => simp [intOf]; omega
            · have hc2 : 4294967296 * r + u0 < B := by omega
              clear hc
              go_wp2
              go_round
              case rel => exact ⟨_, _, rfl, rfl, by omega, by omega, by omega, by omega, GN⟩
              case measure => simp [intOf]; omega
          · have hq := d3 hr
            rw [HQ0.out] at hq
            clear d2 d3 hB g
            subst hq
            by_cases hc1 : 4294967296 ≤ Q0 + 1
            · clear hc
              go_wp2
              go_ret2
              exact ⟨ret2_int FIN.out.1.symm FIN.out.2.symm, rfl⟩
            · have hc2 : 4294967296 * r + u0 < B := by omega
              clear hc
              go_wp2
              go_ret2
              exact ⟨ret2_int FIN.out.1.symm FIN.out.2.symm, rfl⟩
        · have hq := digit_stop R1 u0 y1 y0 q r B b1' bu0' gq' gr' g.out hB.symm hc
          rw [HQ0.out] at hq
          have bB0 : 0 ≤ B := by omega
          clear hB g
          subst hq
          have hc1 : ¬ 4294967296 ≤ Q0 := fun h => hc (Or.inl h)
          have hc2 : ¬ 4294967296 * r + u0 < B := fun h => hc (Or.inr h)
          clear hc
          go_wp2
          go_ret2
          exact ⟨ret2_int FIN.out.1.symm FIN.out.2.symm, rfl⟩
end Go.Proofs.Ytaohidaijlcplaa.q
