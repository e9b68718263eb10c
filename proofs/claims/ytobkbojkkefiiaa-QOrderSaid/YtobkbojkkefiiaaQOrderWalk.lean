/- The law QOrder answers true for every three numbers: sums and products do not hang on the order, MulDiv by one is the product, what is clamped stays clamped. -/
import Derived.Test.YtobkbojkkefiiaaQAwake
namespace Go.Proofs.Ytobkbojkkefiiaa.qOrder
open Go.ChangeShapes Go.WideShapes Go.ChangeAt Go.RowKit Go.Proofs.Ytobkbojkkefiiaa.q
set_option linter.unusedVariables false

theorem md_one (a b : Int) : (rm (a * b) = true → mdV a b 1 = mulV a b ∧ mdE a b 1 = 0) ∧ (rm (a * b) = false → mdV a b 1 = 0 ∧ mdE a b 1 = 2) := by
  unfold mdV mdE mulV
  rw [Int.ediv_one, if_neg (by omega), if_neg (by omega), if_neg (by omega)]
  refine ⟨fun h => ⟨rfl, if_pos h⟩, fun h => ⟨rv_no (Bool.eq_false_iff.mp h), if_neg (Bool.eq_false_iff.mp h)⟩⟩

set_option maxHeartbeats 4000000 in
/-- the part ahead of Clamp, for any way that Clamp goes -/
theorem clamps (a b c k lo hi : Int) (h1 : -9223372036854775808 ≤ a) (h2 : a ≤ 9223372036854775807) (h3 : -9223372036854775808 ≤ b) (h4 : b ≤ 9223372036854775807)
    (elo : min b c = lo) (ehi : max b c = hi) (ck : ∀ w, Calls Try.prog 24 #[.int .i64 a, .int .i64 lo, .int .i64 hi] w fun e w' => e = .returned (.int .i64 k) ∧ w = w')
    (ck2 : ∀ w, Calls Try.prog 24 #[.int .i64 k, .int .i64 lo, .int .i64 hi] w fun e w' => e = .returned (.int .i64 k) ∧ w = w')
    (f1 : lo ≤ k) (f2 : k ≤ hi) (f3 : a < lo ∨ hi < a ∨ k = a) (w : World) :
    Calls Try.prog 8 #[.int .i64 a, .int .i64 b, .int .i64 c] w fun e w' => e = .returned (.bool true) ∧ Grown w w' := by
  have c1 := fun (w : World) => add_any a b h1 h2 h3 h4 w
  have c2 := fun (w : World) => add_any b a h3 h4 h1 h2 w
  have c3 := fun (w : World) => muldiv_any a b 1 h1 h2 h3 h4 (by omega) w
  have c4 := fun (w : World) => muldiv_any b a 1 h3 h4 h1 h2 (by omega) w
  have c5 := fun (w : World) => mul_any a b h1 h2 h3 h4 w
  have e1 : addV b a = addV a b := by unfold addV; rw [Int.add_comm]
  have e2 : addB b a = addB a b := by unfold addB; rw [Int.add_comm]
  have e3 : mdV b a 1 = mdV a b 1 := by unfold mdV; rw [Int.mul_comm]
  have e4 : mdE b a 1 = mdE a b 1 := by unfold mdE; rw [Int.mul_comm]
  rw [e1, e2] at c2
  rw [e3, e4] at c4
  have md := md_one a b
  have hb : mulB a b = rm (a * b) := rfl
  rw [hb] at c5
  clear e1 e2 e3 e4 hb
  generalize addV a b = s at *
  generalize addB a b = sb at *
  by_cases hm : rm (a * b) = true
  · rw [(md.1 hm).1, (md.1 hm).2] at c3 c4
    rw [hm] at c5
    clear md hm
    generalize mulV a b = p at *
    cases sb <;> rcases f3 with f | f | f
    all_goals
      try subst f
      go_enter Try.func8, Try.ntmps8
      go_wp2_with (first | (go_at_call 9; with_reducible refine (awake_any _).mono ?_; rintro e w' ⟨rfl, kd, rfl⟩) | (go_at_call 10; with_reducible refine (c1 _).mono ?_; rintro e w' ⟨rfl, rfl⟩) | (go_at_call 10; with_reducible refine (c2 _).mono ?_; rintro e w' ⟨rfl, rfl⟩) | (go_at_call 20; with_reducible refine (c3 _).mono ?_; rintro e w' ⟨rfl, kd, rfl⟩) | (go_at_call 20; with_reducible refine (c4 _).mono ?_; rintro e w' ⟨rfl, kd, rfl⟩) | (go_at_call 14; with_reducible refine (c5 _).mono ?_; rintro e w' ⟨rfl, rfl⟩) | (go_at_call 24; with_reducible refine (ck _).mono ?_; rintro e w' ⟨rfl, rfl⟩) | (go_at_call 24; with_reducible refine (ck2 _).mono ?_; rintro e w' ⟨rfl, rfl⟩))
      go_ret
      exact ⟨rfl, by repeat (first | exact Grown.refl _ | exact grown_drewN _ _ | apply Grown.drew | apply grown_thenN)⟩
  · have hf : rm (a * b) = false := Bool.eq_false_iff.mpr hm
    rw [(md.2 hf).1, (md.2 hf).2] at c3 c4
    rw [hf] at c5
    clear md hm hf
    generalize mulV a b = p at *
    cases sb <;> rcases f3 with f | f | f
    all_goals
      try subst f
      go_enter Try.func8, Try.ntmps8
      go_wp2_with (first | (go_at_call 9; with_reducible refine (awake_any _).mono ?_; rintro e w' ⟨rfl, kd, rfl⟩) | (go_at_call 10; with_reducible refine (c1 _).mono ?_; rintro e w' ⟨rfl, rfl⟩) | (go_at_call 10; with_reducible refine (c2 _).mono ?_; rintro e w' ⟨rfl, rfl⟩) | (go_at_call 20; with_reducible refine (c3 _).mono ?_; rintro e w' ⟨rfl, kd, rfl⟩) | (go_at_call 20; with_reducible refine (c4 _).mono ?_; rintro e w' ⟨rfl, kd, rfl⟩) | (go_at_call 14; with_reducible refine (c5 _).mono ?_; rintro e w' ⟨rfl, rfl⟩) | (go_at_call 24; with_reducible refine (ck _).mono ?_; rintro e w' ⟨rfl, rfl⟩) | (go_at_call 24; with_reducible refine (ck2 _).mono ?_; rintro e w' ⟨rfl, rfl⟩))
      go_ret
      exact ⟨rfl, by repeat (first | exact Grown.refl _ | exact grown_drewN _ _ | apply Grown.drew | apply grown_thenN)⟩

theorem walk (a0 : Int) (a1 : Int) (a2 : Int) (w0 : (Lit.int .i64 a0).wf = true) (w1 : (Lit.int .i64 a1).wf = true) (w2 : (Lit.int .i64 a2).wf = true) (w : World) :
    Calls Try.prog 8 #[.int .i64 a0, .int .i64 a1, .int .i64 a2] w fun e w' => e = .returned (.bool true) ∧ Grown w w' := by
  obtain ⟨h1, h2⟩ := wf64 w0
  obtain ⟨h3, h4⟩ := wf64 w1
  have key : ∀ k, clampV a0 (min a1 a2) (max a1 a2) = k → clampV k (min a1 a2) (max a1 a2) = k → min a1 a2 ≤ k → k ≤ max a1 a2 → (a0 < min a1 a2 ∨ max a1 a2 < a0 ∨ k = a0) → Calls Try.prog 8 #[.int .i64 a0, .int .i64 a1, .int .i64 a2] w fun e w' => e = .returned (.bool true) ∧ Grown w w' := by
    intro k e1 e2 f1 f2 f3
    refine clamps a0 a1 a2 k _ _ h1 h2 h3 h4 rfl rfl (fun w => ?_) (fun w => ?_) f1 f2 f3 w
    · have := clamp_any a0 (min a1 a2) (max a1 a2) w
      rw [e1] at this; exact this
    · have := clamp_any k (min a1 a2) (max a1 a2) w
      rw [e2] at this; exact this
  unfold clampV at key
  by_cases c1 : a0 < min a1 a2
  · exact key (min a1 a2) (by omega) (by omega) (by omega) (by omega) (Or.inl c1)
  · by_cases c2 : max a1 a2 < a0
    · exact key (max a1 a2) (by omega) (by omega) (by omega) (by omega) (Or.inr (Or.inl c2))
    · exact key a0 (by omega) (by omega) (by omega) (by omega) (Or.inr (Or.inr rfl))
end Go.Proofs.Ytobkbojkkefiiaa.qOrder
