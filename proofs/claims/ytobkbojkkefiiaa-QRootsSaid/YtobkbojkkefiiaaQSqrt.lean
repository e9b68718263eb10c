/- What layer q's Sqrt answers, for every number of 64 bits: the greatest number whose square is not above it, 0 below 0. No condition beside the kind's own bounds. -/
import Derived.Test.YtobkbojkkefiiaaQCalls
namespace Go.Proofs.Ytobkbojkkefiiaa.q
open Go.ChangeShapes Go.WideShapes Go.ChangeAt Go.RowKit
set_option linter.unusedVariables false

theorem or_add (R B j : Nat) (hB : B = 2 ^ j) (hR : R % 2 ^ (j + 1) = 0) (hb : R + 2 ^ (j + 1) ≤ 4294967296) : bits .or .u64 (R : Int) (B : Int) = (R : Int) + (B : Int) := by
  have h2 : 2 ^ (j + 1) = 2 * 2 ^ j := by rw [Nat.pow_succ]; omega
  rw [u64_or_nat R B (by omega) (by omega), nat_join (j + 1) R B hR (by omega)]
  omega
theorem sq_wrap (R B : Nat) (hb : R + B < 4294967296) : IntKind.u64.wrap (((R : Int) + (B : Int)) * ((R : Int) + (B : Int))) = (((R + B) * (R + B) : Nat) : Int) := by
  have : (R + B) * (R + B) ≤ 4294967295 * 4294967295 := Nat.mul_le_mul (by omega) (by omega)
  rw [IntKind.wrap_u64, ← Int.natCast_add, ← Int.natCast_mul]
  omega

set_option maxHeartbeats 400000 in
theorem sqrt_any (n : Int) (h1 : -9223372036854775808 ≤ n) (h2 : n ≤ 9223372036854775807) (w : World) :
    Calls Try.prog 22 #[.int .i64 n] w fun e w' => e = .returned (.int .i64 (sqrtV n)) ∧ w = w' := by
  by_cases hn : n < 0
  · have hv : Hid (sqrtV n = 0) := Lib.hid (by
      unfold sqrtV
      have : n.toNat = 0 := by omega
      rw [this]; rfl)
    go_enter Try.func22, Try.ntmps22
    go_wp2
    go_ret
    exact ⟨ret_int hv.out.symm, rfl⟩
  · go_enter Try.func22, Try.ntmps22
    go_wp2
    go_loop [3, 4] (fun r b => ∃ k R : Nat, k ≤ 32 ∧ b = .int .u64 (bitN k : Nat) ∧ r = .int .u64 (R : Nat) ∧ R % 2 ^ k = 0 ∧ R + 2 ^ k ≤ 4294967296 ∧ R * R ≤ n.toNat ∧ n.toNat < (R + 2 ^ k) * (R + 2 ^ k))
        (fun _ b => (intOf b).toNat)
    case atStart => exact ⟨32, 0, by omega, rfl, rfl, by omega, by omega, by omega, by omega⟩
    case round =>
      obtain ⟨k, R, hk, rfl, rfl, hm, hb, hlo, hhi⟩ := hrel
      cases k with
      | zero =>
        have hv : Hid (sqrtV n = (R : Int)) := Lib.hid (by unfold sqrtV; rw [isq_unique hlo hhi])
        have hz : R < 4294967296 := by omega
        clear hm hb hlo hhi hk
        go_wp2
        go_ret
        exact ⟨ret_int hv.out.symm, rfl⟩
      | succ j =>
        have h2 : 2 ^ (j + 1) = 2 * 2 ^ j := by rw [Nat.pow_succ]; omega
        have hp : 0 < 2 ^ j := Nat.pow_pos (by omega)
        have ho := or_add R (2 ^ j) j rfl hm hb
        have hq := sq_wrap R (2 ^ j) (by omega)
        have hh := bitN_half j
        have hbj : bitN (j + 1) = 2 ^ j := rfl
        rw [hbj]
        generalize hB : 2 ^ j = B at *
        generalize hN : (R + B) * (R + B) = N at *
        have HN := Lib.hid hN; have HB := Lib.hid hB; have HH := Lib.hid hh; have H2 := Lib.hid h2
        clear hN hB hh h2 hbj
        by_cases hc : (N : Int) ≤ n
        · go_wp2
          go_round
          case rel =>
            have e := H2.out; have eB := HB.out; have eH := HH.out; have eN := HN.out
            rw [e] at hm hb hhi
            refine ⟨j, R + B, by omega, congrArg _ (by omega), congrArg _ (by omega), ?_, by rw [eB]; omega, by rw [eN]; omega, ?_⟩
            · rw [eB]; exact (mod_half R B hm).2
            · rw [eB, show R + B + B = R + 2 * B by omega]; exact hhi
          case measure => simp [intOf]; omega
        · go_wp2
          go_round
          case rel =>
            have e := H2.out; have eB := HB.out; have eH := HH.out; have eN := HN.out
            rw [e] at hm hb hhi
            refine ⟨j, R, by omega, congrArg _ (by omega), rfl, ?_, by rw [eB]; omega, hlo, ?_⟩
            · rw [eB]; exact (mod_half R B hm).1
            · rw [eB, eN]; omega
          case measure => simp [intOf]; omega
end Go.Proofs.Ytobkbojkkefiiaa.q
