/- What servitorref01's Sqrt and Clamp answer, for every number of 64 bits: the greatest number whose square is not above it, 0 below 0; the number between two that is nearest. -/
import Derived.Test.YtobkbojkkefiiaaQAwake
namespace Go.Proofs.Ytobkbojkkefiiaa.r
open Go.ChangeShapes Go.WideShapes Go.ChangeAt Go.RowKit Go.Proofs.Ytobkbojkkefiiaa.q
set_option linter.unusedVariables false

theorem rclamp_any (n lo hi : Int) (w : World) :
    Calls Try.prog 25 #[.int .i64 n, .int .i64 lo, .int .i64 hi] w fun e w' => e = .returned (.int .i64 (clampV n lo hi)) ∧ w = w' := by
  by_cases h1 : hi < lo
  · have hv : Hid (clampV n lo hi = lo) := Lib.hid (by unfold clampV; omega)
    go_enter Try.func25, Try.ntmps25
    go_wp2
    go_ret
    exact ⟨ret_int hv.out.symm, rfl⟩
  · by_cases h2 : n < lo
    · have hv : Hid (clampV n lo hi = lo) := Lib.hid (by unfold clampV; omega)
      go_enter Try.func25, Try.ntmps25
      go_wp2
      go_ret
      exact ⟨ret_int hv.out.symm, rfl⟩
    · by_cases h3 : hi < n
      · have hv : Hid (clampV n lo hi = hi) := Lib.hid (by unfold clampV; omega)
        go_enter Try.func25, Try.ntmps25
        go_wp2
        go_ret
        exact ⟨ret_int hv.out.symm, rfl⟩
      · have hv : Hid (clampV n lo hi = n) := Lib.hid (by unfold clampV; omega)
        go_enter Try.func25, Try.ntmps25
        go_wp2
        go_ret
        exact ⟨ret_int hv.out.symm, rfl⟩

theorem shl_fact (j : Nat) (h : j ≤ 31) : ∃ B : Int, wrap64 (2 ^ j) = B ∧ B = ((2 ^ j : Nat) : Int) ∧ 0 < B ∧ B ≤ 2147483648 := by
  have h1 : 2 ^ j ≤ 2 ^ 31 := Nat.pow_le_pow_right (by omega) h
  have h2 : 0 < 2 ^ j := Nat.two_pow_pos j
  have e : (2 : Int) ^ j = ((2 ^ j : Nat) : Int) := by rw [Int.natCast_pow]; rfl
  refine ⟨_, rfl, ?_, ?_, ?_⟩ <;> rw [e] <;> unfold wrap64 <;> omega

set_option maxRecDepth 100000 in
set_option maxHeartbeats 1000000 in
theorem rsqrt_any (n : Int) (h1 : -9223372036854775808 ≤ n) (h2 : n ≤ 9223372036854775807) (w : World) :
    Calls Try.prog 23 #[.int .i64 n] w fun e w' => e = .returned (.int .i64 (sqrtV n)) ∧ w = w' := by
  go_enter Try.func23, Try.ntmps23
  go_wp2
  go_loop [3, 4] (fun r i => ∃ k R : Nat, k ≤ 32 ∧ i = .int .i64 ((k : Int) - 1) ∧ r = .int .i64 (R : Int) ∧ R * R ≤ n.toNat ∧ n.toNat < (R + 2 ^ k) * (R + 2 ^ k)) (fun _ i => (intOf i + 1).toNat)
  case atStart => exact ⟨32, 0, by omega, rfl, rfl, by omega, by omega⟩
  case round =>
    obtain ⟨k, R, hk, rfl, rfl, hlo, hhi⟩ := hrel
    have hR : R ≤ 3037000499 := by
      have := isq_bound (n := n.toNat) (by omega)
      by_cases h : R ≤ isq n.toNat
      · omega
      · have := sq_mono (show isq n.toNat + 1 ≤ R by omega)
        have := isq_lt n.toNat
        omega
    have hRz : (R : Int) ≤ 3037000499 := by omega
    have hRz0 : 0 ≤ (R : Int) := by omega
    by_cases hz : k = 0
    · subst hz
      have hv : Hid (sqrtV n = (R : Int)) := Lib.hid (by unfold sqrtV; rw [isq_unique hlo hhi])
      clear hlo hhi hR
      generalize (R : Int) = Rz at *
      go_wp2
      go_ret
      exact ⟨ret_int hv.out.symm, rfl⟩
    · obtain ⟨j, rfl⟩ : ∃ j, k = j + 1 := ⟨k - 1, by omega⟩
      obtain ⟨B, eB, eB2, b0, b1⟩ := shl_fact j (by omega)
      have h2p : 2 ^ (j + 1) = 2 * 2 ^ j := by rw [Nat.pow_succ]; omega
      rw [h2p] at hhi
      have EB := Lib.hid eB2
      clear eB2 h2p hz
      have hjz : 0 ≤ (j : Int) := by omega
      have hjz2 : (j : Int) ≤ 31 := by omega
      by_cases hc : (R : Int) + B ≤ 3037000499
      · have hZ : ∃ Z : Int, wrap64 (((R : Int) + B) * ((R : Int) + B)) = Z ∧ Z = (((R + 2 ^ j) * (R + 2 ^ j) : Nat) : Int) ∧ 0 < Z := by
          have e : ((R : Int) + B) * ((R : Int) + B) = (((R + 2 ^ j) * (R + 2 ^ j) : Nat) : Int) := by
            rw [EB.out, Int.natCast_mul, Int.natCast_add]
          have u := sq_mono (show R + 2 ^ j ≤ 3037000499 by have := EB.out; omega)
          have l := sq_mono (show 1 ≤ R + 2 ^ j by have := Nat.two_pow_pos j; omega)
          refine ⟨_, rfl, ?_, ?_⟩ <;> rw [e] <;> unfold wrap64 <;> omega
        obtain ⟨Z, eZ, eZ2, z0⟩ := hZ
        have EZ := Lib.hid eZ2
        have HL := Lib.hid hlo; have HH := Lib.hid hhi; have HK := Lib.hid hk
        have ER : Hid ((R : Int) = (R : Int)) := Lib.hid rfl
        clear eZ2 hlo hhi hR hk
        by_cases hd : Z ≤ n
        · have FIN : Hid (∃ k R2 : Nat, k ≤ 32 ∧ Value.int .i64 ((j : Int) - 1) = .int .i64 ((k : Int) - 1) ∧ Value.int .i64 ((R : Int) + B) = .int .i64 (R2 : Int) ∧ R2 * R2 ≤ n.toNat ∧ n.toNat < (R2 + 2 ^ k) * (R2 + 2 ^ k)) := Lib.hid (by
            have := EB.out; have := EZ.out
            refine ⟨j, R + 2 ^ j, by have := HK.out; omega, rfl, congrArg _ (by omega), by omega, ?_⟩
            have := HH.out
            rw [show R + 2 ^ j + 2 ^ j = R + 2 * 2 ^ j by omega]; exact this)
          clear EB EZ HL HH HK ER
          generalize (R : Int) = Rz at *
          go_wp2
          go_round
          case rel => exact FIN.out
          case measure => first | (simp [intOf]; done) | (simp [intOf]; omega)
        · have FIN : Hid (∃ k R2 : Nat, k ≤ 32 ∧ Value.int .i64 ((j : Int) - 1) = .int .i64 ((k : Int) - 1) ∧ Value.int .i64 (R : Int) = .int .i64 (R2 : Int) ∧ R2 * R2 ≤ n.toNat ∧ n.toNat < (R2 + 2 ^ k) * (R2 + 2 ^ k)) := Lib.hid (by
            have := EZ.out
            exact ⟨j, R, by have := HK.out; omega, rfl, rfl, HL.out, by omega⟩)
          clear EB EZ HL HH HK ER
          generalize (R : Int) = Rz at *
          go_wp2
          go_round
          case rel => exact FIN.out
          case measure => first | (simp [intOf]; done) | (simp [intOf]; omega)
      · have FIN : Hid (∃ k R2 : Nat, k ≤ 32 ∧ Value.int .i64 ((j : Int) - 1) = .int .i64 ((k : Int) - 1) ∧ Value.int .i64 (R : Int) = .int .i64 (R2 : Int) ∧ R2 * R2 ≤ n.toNat ∧ n.toNat < (R2 + 2 ^ k) * (R2 + 2 ^ k)) := Lib.hid (by
          have u := sq_mono (show 3037000500 ≤ R + 2 ^ j by have := EB.out; omega)
          exact ⟨j, R, by omega, rfl, rfl, hlo, by omega⟩)
        clear EB hlo hhi hR hk
        generalize (R : Int) = Rz at *
        go_wp2
        go_round
        case rel => exact FIN.out
        case measure => first | (simp [intOf]; done) | (simp [intOf]; omega)
end Go.Proofs.Ytobkbojkkefiiaa.r
