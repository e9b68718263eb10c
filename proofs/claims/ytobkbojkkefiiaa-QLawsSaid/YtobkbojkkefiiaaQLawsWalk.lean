/- The law QLaws answers true for every two numbers: a sum less one part is the other part; a quotient and what is left make up the number; by the number itself again MulDiv gives the other one. -/
import Derived.Test.YtobkbojkkefiiaaQAwake
namespace Go.Proofs.Ytobkbojkkefiiaa.qLaws
open Go.ChangeShapes Go.WideShapes Go.ChangeAt Go.RowKit Go.Proofs.Ytobkbojkkefiiaa.q
set_option linter.unusedVariables false

theorem tmod_sign (a b : Int) : ¬ ((a.tmod b < 0 ∧ ¬ a < 0) ∨ (¬ a.tmod b < 0 ∧ a < 0 ∧ ¬ a.tmod b = 0)) := by
  intro h
  rcases Int.le_total 0 a with ha | ha
  · have := Int.tmod_nonneg b ha; omega
  · have := Int.tmod_nonneg b (show 0 ≤ -a by omega)
    rw [Int.neg_tmod] at this
    by_cases h0 : a = 0
    · subst h0; rw [Int.zero_tmod] at h; omega
    · omega
theorem tdiv_or (a b : Int) (hb : 0 < b) : a / b = a.tdiv b ∨ a / b = a.tdiv b - 1 := by
  rw [Int.tdiv_eq_ediv]
  split
  · exact Or.inl (Int.add_zero _).symm
  · rw [Int.sign_eq_one_of_pos hb]; exact Or.inr (by omega)
theorem ediv_room (a b : Int) (hb : 0 < b) (h1 : -9223372036854775808 ≤ a) (h2 : a ≤ 9223372036854775807) : rm (a / b) = true := by
  rw [rm_iff]
  have h := Int.ediv_le_self (a := a) b
  rcases Int.le_total 0 a with ha | ha
  · have := Int.ediv_nonneg ha (Int.le_of_lt hb); have := h ha; omega
  · have l : -9223372036854775808 ≤ a / b := by
      rw [Int.le_ediv_iff_mul_le hb]
      have : (-9223372036854775808) * b ≤ (-9223372036854775808) * 1 := Int.mul_le_mul_of_nonpos_left (by omega) (by omega)
      omega
    have : a / b ≤ 0 := by
      have : a / b < 1 := by
        rw [Int.ediv_lt_iff_lt_mul hb]; omega
      omega
    omega
theorem prod_room (a b : Int) (h1 : -9223372036854775808 ≤ a) (h2 : a ≤ 9223372036854775807) : rm (a.tdiv b * b) = true := by
  have e := Int.tdiv_mul_add_tmod a b
  have n : (a.tdiv b * b).natAbs ≤ a.natAbs := by
    rw [Int.natAbs_mul, Int.natAbs_tdiv]
    exact Nat.div_mul_le_self _ _
  have hs : (0 ≤ a → 0 ≤ a.tdiv b * b) := by
    intro ha
    have := tmod_sign a b
    have hl : (a.tmod b).natAbs ≤ a.natAbs := by rw [Int.natAbs_tmod]; exact Nat.mod_le _ _
    omega
  have hs' : (a < 0 → a.tdiv b * b ≤ 0) := by
    intro ha
    have := tmod_sign a b
    have hl : (a.tmod b).natAbs ≤ a.natAbs := by rw [Int.natAbs_tmod]; exact Nat.mod_le _ _
    omega
  rw [rm_iff]
  omega

/-- by b above 0 -/
theorem md_facts (a b : Int) (hb : 0 < b) (h1 : -9223372036854775808 ≤ a) (h2 : a ≤ 9223372036854775807) : mdV a b b = a ∧ mdE a b b = 0 ∧ mdV a 1 b = a / b ∧ mdE a 1 b = 0 := by
  have ra : rm a = true := rm_iff.mpr ⟨h1, h2⟩
  have rd := ediv_room a b hb h1 h2
  have e1 : a * b / b = a := Int.mul_ediv_cancel _ (by omega)
  have e2 : a * 1 / b = a / b := by rw [Int.mul_one]
  refine ⟨?_, ?_, ?_, ?_⟩
  · unfold mdV; rw [if_neg (by omega), e1, rv_yes ra]
  · unfold mdE; rw [if_neg (by omega), if_neg (by omega), e1, if_pos ra]
  · unfold mdV; rw [if_neg (by omega), e2, rv_yes rd]
  · unfold mdE; rw [if_neg (by omega), if_neg (by omega), e2, if_pos rd]

set_option maxHeartbeats 4000000 in
theorem walk (a0 : Int) (a1 : Int) (w0 : (Lit.int .i64 a0).wf = true) (w1 : (Lit.int .i64 a1).wf = true) (w : World) :
    Calls Try.prog 6 #[.int .i64 a0, .int .i64 a1] w fun e w' => e = .returned (.bool true) ∧ Grown w w' := by
  obtain ⟨h1, h2⟩ := wf64 w0
  obtain ⟨h3, h4⟩ := wf64 w1
  clear w0 w1
  have c1 := fun (w : World) => add_any a0 a1 h1 h2 h3 h4 w
  have c3 := fun (w : World) => div_any a0 a1 h1 h2 w
  have c4 := fun (w : World) => mod_any a0 a1 h1 h2 w
  -- the sum less one part
  have hs : ∃ (s : Int) (ok : Bool), addV a0 a1 = s ∧ addB a0 a1 = ok ∧ (ok = true → ∀ w, Calls Try.prog 12 #[.int .i64 s, .int .i64 a1] w fun e w' => e = .returned (.tuple #[.int .i64 a0, .bool true]) ∧ w = w') := by
    refine ⟨_, _, rfl, rfl, fun h w => ?_⟩
    have hr : rm (a0 + a1) = true := h
    have b := rm_iff.mp hr
    have e : addV a0 a1 = a0 + a1 := rv_yes hr
    rw [e]
    have ra : rm a0 = true := rm_iff.mpr ⟨h1, h2⟩
    have c := sub_any (a0 + a1) a1 b.1 b.2 h3 h4 w
    have e2 : subV (a0 + a1) a1 = a0 := by unfold subV; rw [show a0 + a1 - a1 = a0 by omega]; exact rv_yes ra
    have e3 : subB (a0 + a1) a1 = true := by unfold subB; rw [show a0 + a1 - a1 = a0 by omega]; exact ra
    rw [e2, e3] at c
    exact c
  obtain ⟨s, ok, es, eo, c2⟩ := hs
  rw [es, eo] at c1
  clear es eo
  -- the quotient and what is left
  have hd : ∃ (d e m f p : Int), divV a0 a1 = d ∧ divE a0 a1 = e ∧ modV a0 a1 = m ∧ modE a0 a1 = f ∧ (e = 0 ∨ (e ≠ 0 ∧ a1 ≤ 0)) ∧ (e = 0 → f = 0 ∧ ¬ ((m < 0 ∧ ¬ a0 < 0) ∨ (¬ m < 0 ∧ a0 < 0 ∧ ¬ m = 0)) ∧
      (∀ w, Calls Try.prog 14 #[.int .i64 d, .int .i64 a1] w fun e w' => e = .returned (.tuple #[.int .i64 p, .bool true]) ∧ w = w') ∧
      (∀ w, Calls Try.prog 10 #[.int .i64 p, .int .i64 m] w fun e w' => e = .returned (.tuple #[.int .i64 a0, .bool true]) ∧ w = w')) ∧
      (0 < a1 → (a0 / a1 = d ∨ a0 / a1 = d - 1) ∧ -9223372036854775808 ≤ d ∧ d ≤ 9223372036854775807) := by
    refine ⟨_, _, _, _, a0.tdiv a1 * a1, rfl, rfl, rfl, rfl, ?_, ?_, ?_⟩
    · by_cases hb : a1 = 0
      · right; unfold divE; rw [if_pos hb]; omega
      · unfold divE; rw [if_neg hb]
        by_cases hr : rm (a0.tdiv a1) = true
        · left; rw [if_pos hr]
        · right; rw [if_neg hr]
          have := (tdiv_room a0 a1 h1 h2 hb)
          refine ⟨by omega, ?_⟩
          have h : ¬ ¬ (a0 = -9223372036854775808 ∧ a1 = -1) := fun h => hr (this.mpr h)
          omega
    · intro he
      have hb : a1 ≠ 0 := by
        intro h; unfold divE at he; rw [if_pos h] at he; omega
      have hr : rm (a0.tdiv a1) = true := by
        by_cases hr : rm (a0.tdiv a1) = true
        · exact hr
        · unfold divE at he; rw [if_neg hb, if_neg hr] at he; omega
      have rb := rm_iff.mp hr
      have rp := prod_room a0 a1 h1 h2
      have rpb := rm_iff.mp rp
      have eD : divV a0 a1 = a0.tdiv a1 := by unfold divV; rw [if_neg hb]; exact rv_yes hr
      have eM : modV a0 a1 = a0.tmod a1 := by unfold modV; rw [if_neg hb]
      have ra : rm a0 = true := rm_iff.mpr ⟨h1, h2⟩
      have et := Int.tdiv_mul_add_tmod a0 a1
      rw [eD, eM]
      refine ⟨by unfold modE; rw [if_neg hb], tmod_sign a0 a1, fun w => ?_, fun w => ?_⟩
      · have c := mul_any (a0.tdiv a1) a1 rb.1 rb.2 h3 h4 w
        have e2 : mulV (a0.tdiv a1) a1 = a0.tdiv a1 * a1 := rv_yes rp
        have e3 : mulB (a0.tdiv a1) a1 = true := rp
        rw [e2, e3] at c
        exact c
      · have hm : -9223372036854775808 ≤ a0.tmod a1 ∧ a0.tmod a1 ≤ 9223372036854775807 := by
          have hl : (a0.tmod a1).natAbs ≤ a0.natAbs := by rw [Int.natAbs_tmod]; exact Nat.mod_le _ _
          have := tmod_sign a0 a1
          omega
        have c := add_any (a0.tdiv a1 * a1) (a0.tmod a1) rpb.1 rpb.2 hm.1 hm.2 w
        have e2 : addV (a0.tdiv a1 * a1) (a0.tmod a1) = a0 := by unfold addV; rw [et]; exact rv_yes ra
        have e3 : addB (a0.tdiv a1 * a1) (a0.tmod a1) = true := by unfold addB; rw [et]; exact ra
        rw [e2, e3] at c
        exact c
    · intro hp
      have hb : a1 ≠ 0 := by omega
      have hr : rm (a0.tdiv a1) = true := (tdiv_room a0 a1 h1 h2 hb).mpr (by omega)
      have eD : divV a0 a1 = a0.tdiv a1 := by unfold divV; rw [if_neg hb]; exact rv_yes hr
      rw [eD]
      exact ⟨tdiv_or a0 a1 hp, (rm_iff.mp hr).1, (rm_iff.mp hr).2⟩
  obtain ⟨d, e, m, f, p, ed, ee, em, ef, he, hq, hy⟩ := hd
  rw [ed, ee] at c3
  rw [em, ef] at c4
  clear ed ee em ef
  -- by the number itself again
  by_cases hp : 0 < a1
  · have mf := md_facts a0 a1 hp h1 h2
    have c7 := fun (w : World) => muldiv_any a0 a1 a1 h1 h2 h3 h4 h4 w
    have c8 := fun (w : World) => muldiv_any a0 1 a1 h1 h2 (by omega) (by omega) h4 w
    rw [mf.1, mf.2.1] at c7
    rw [mf.2.2.1, mf.2.2.2] at c8
    obtain ⟨hy, hd1, hd2⟩ := hy hp
    clear mf
    generalize hyn : a0 / a1 = y at *
    have e0 : e = 0 := by omega
    clear he
    subst e0
    obtain ⟨hf, hsg, c5, c6⟩ := hq rfl
    clear hq
    subst hf
    have hyb := (rm_iff.mp (ediv_room a0 a1 hp h1 h2)).1
    rw [hyn] at hyb
    clear hyn
    have hs3 : (m < 0 ∧ a0 < 0) ∨ (¬ m < 0 ∧ ¬ a0 < 0) ∨ (¬ m < 0 ∧ a0 < 0 ∧ m = 0) := by omega
    clear hsg
    cases ok
    · clear c2
      rcases hy with hy | hy <;> rcases hs3 with ⟨g1, g2⟩ | ⟨g1, g2⟩ | ⟨g1, g2, rfl⟩
      all_goals
        subst hy
        go_enter Try.func6, Try.ntmps6
        go_wp2_with (first | (go_at_call 9; with_reducible refine (awake_any _).mono ?_; rintro e w' ⟨rfl, kd, rfl⟩) | (go_at_call 10; with_reducible refine (c1 _).mono ?_; rintro e w' ⟨rfl, rfl⟩) | (go_at_call 12; refine (c2 _).mono ?_; rintro e w' ⟨rfl, rfl⟩) | (go_at_call 16; with_reducible refine (c3 _).mono ?_; rintro e w' ⟨rfl, rfl⟩) | (go_at_call 18; with_reducible refine (c4 _).mono ?_; rintro e w' ⟨rfl, rfl⟩) | (go_at_call 14; with_reducible refine (c5 _).mono ?_; rintro e w' ⟨rfl, rfl⟩) | (go_at_call 10; with_reducible refine (c6 _).mono ?_; rintro e w' ⟨rfl, rfl⟩) | (go_at_call 20; with_reducible refine (c7 _).mono ?_; rintro e w' ⟨rfl, kd, rfl⟩) | (go_at_call 20; with_reducible refine (c8 _).mono ?_; rintro e w' ⟨rfl, kd, rfl⟩))
        go_ret
        exact ⟨rfl, by repeat (first | exact Grown.refl _ | exact grown_drewN _ _ | apply Grown.drew | apply grown_thenN)⟩
    · have c2x := c2 rfl
      clear c2
      have c2 := c2x
      clear c2x
      rcases hy with hy | hy <;> rcases hs3 with ⟨g1, g2⟩ | ⟨g1, g2⟩ | ⟨g1, g2, rfl⟩
      all_goals
        subst hy
        go_enter Try.func6, Try.ntmps6
        go_wp2_with (first | (go_at_call 9; with_reducible refine (awake_any _).mono ?_; rintro e w' ⟨rfl, kd, rfl⟩) | (go_at_call 10; with_reducible refine (c1 _).mono ?_; rintro e w' ⟨rfl, rfl⟩) | (go_at_call 12; refine (c2 _).mono ?_; rintro e w' ⟨rfl, rfl⟩) | (go_at_call 16; with_reducible refine (c3 _).mono ?_; rintro e w' ⟨rfl, rfl⟩) | (go_at_call 18; with_reducible refine (c4 _).mono ?_; rintro e w' ⟨rfl, rfl⟩) | (go_at_call 14; with_reducible refine (c5 _).mono ?_; rintro e w' ⟨rfl, rfl⟩) | (go_at_call 10; with_reducible refine (c6 _).mono ?_; rintro e w' ⟨rfl, rfl⟩) | (go_at_call 20; with_reducible refine (c7 _).mono ?_; rintro e w' ⟨rfl, kd, rfl⟩) | (go_at_call 20; with_reducible refine (c8 _).mono ?_; rintro e w' ⟨rfl, kd, rfl⟩))
        go_ret
        exact ⟨rfl, by repeat (first | exact Grown.refl _ | exact grown_drewN _ _ | apply Grown.drew | apply grown_thenN)⟩
  · clear hy
    rcases he with he | he
    · subst he
      obtain ⟨hf, hsg, c5, c6⟩ := hq rfl
      clear hq
      subst hf
      have hs3 : (m < 0 ∧ a0 < 0) ∨ (¬ m < 0 ∧ ¬ a0 < 0) ∨ (¬ m < 0 ∧ a0 < 0 ∧ m = 0) := by omega
      clear hsg
      cases ok
      · clear c2
        rcases hs3 with ⟨g1, g2⟩ | ⟨g1, g2⟩ | ⟨g1, g2, rfl⟩
        all_goals
          go_enter Try.func6, Try.ntmps6
          go_wp2_with (first | (go_at_call 9; with_reducible refine (awake_any _).mono ?_; rintro e w' ⟨rfl, kd, rfl⟩) | (go_at_call 10; with_reducible refine (c1 _).mono ?_; rintro e w' ⟨rfl, rfl⟩) | (go_at_call 12; refine (c2 _).mono ?_; rintro e w' ⟨rfl, rfl⟩) | (go_at_call 16; with_reducible refine (c3 _).mono ?_; rintro e w' ⟨rfl, rfl⟩) | (go_at_call 18; with_reducible refine (c4 _).mono ?_; rintro e w' ⟨rfl, rfl⟩) | (go_at_call 14; with_reducible refine (c5 _).mono ?_; rintro e w' ⟨rfl, rfl⟩) | (go_at_call 10; with_reducible refine (c6 _).mono ?_; rintro e w' ⟨rfl, rfl⟩) | (go_at_call 20; with_reducible refine (c7 _).mono ?_; rintro e w' ⟨rfl, kd, rfl⟩) | (go_at_call 20; with_reducible refine (c8 _).mono ?_; rintro e w' ⟨rfl, kd, rfl⟩))
          go_ret
          exact ⟨rfl, by repeat (first | exact Grown.refl _ | exact grown_drewN _ _ | apply Grown.drew | apply grown_thenN)⟩
      · have c2x := c2 rfl
        clear c2
        have c2 := c2x
        clear c2x
        rcases hs3 with ⟨g1, g2⟩ | ⟨g1, g2⟩ | ⟨g1, g2, rfl⟩
        all_goals
          go_enter Try.func6, Try.ntmps6
          go_wp2_with (first | (go_at_call 9; with_reducible refine (awake_any _).mono ?_; rintro e w' ⟨rfl, kd, rfl⟩) | (go_at_call 10; with_reducible refine (c1 _).mono ?_; rintro e w' ⟨rfl, rfl⟩) | (go_at_call 12; refine (c2 _).mono ?_; rintro e w' ⟨rfl, rfl⟩) | (go_at_call 16; with_reducible refine (c3 _).mono ?_; rintro e w' ⟨rfl, rfl⟩) | (go_at_call 18; with_reducible refine (c4 _).mono ?_; rintro e w' ⟨rfl, rfl⟩) | (go_at_call 14; with_reducible refine (c5 _).mono ?_; rintro e w' ⟨rfl, rfl⟩) | (go_at_call 10; with_reducible refine (c6 _).mono ?_; rintro e w' ⟨rfl, rfl⟩) | (go_at_call 20; with_reducible refine (c7 _).mono ?_; rintro e w' ⟨rfl, kd, rfl⟩) | (go_at_call 20; with_reducible refine (c8 _).mono ?_; rintro e w' ⟨rfl, kd, rfl⟩))
          go_ret
          exact ⟨rfl, by repeat (first | exact Grown.refl _ | exact grown_drewN _ _ | apply Grown.drew | apply grown_thenN)⟩
    · have he1 := he.1
      clear he hq
      cases ok
      · clear c2
        go_enter Try.func6, Try.ntmps6
        go_wp2_with (first | (go_at_call 9; with_reducible refine (awake_any _).mono ?_; rintro e w' ⟨rfl, kd, rfl⟩) | (go_at_call 10; with_reducible refine (c1 _).mono ?_; rintro e w' ⟨rfl, rfl⟩) | (go_at_call 12; refine (c2 _).mono ?_; rintro e w' ⟨rfl, rfl⟩) | (go_at_call 16; with_reducible refine (c3 _).mono ?_; rintro e w' ⟨rfl, rfl⟩) | (go_at_call 18; with_reducible refine (c4 _).mono ?_; rintro e w' ⟨rfl, rfl⟩) | (go_at_call 14; with_reducible refine (c5 _).mono ?_; rintro e w' ⟨rfl, rfl⟩) | (go_at_call 10; with_reducible refine (c6 _).mono ?_; rintro e w' ⟨rfl, rfl⟩) | (go_at_call 20; with_reducible refine (c7 _).mono ?_; rintro e w' ⟨rfl, kd, rfl⟩) | (go_at_call 20; with_reducible refine (c8 _).mono ?_; rintro e w' ⟨rfl, kd, rfl⟩))
        go_ret
        exact ⟨rfl, by repeat (first | exact Grown.refl _ | exact grown_drewN _ _ | apply Grown.drew | apply grown_thenN)⟩
      · have c2x := c2 rfl
        clear c2
        have c2 := c2x
        clear c2x
        go_enter Try.func6, Try.ntmps6
        go_wp2_with (first | (go_at_call 9; with_reducible refine (awake_any _).mono ?_; rintro e w' ⟨rfl, kd, rfl⟩) | (go_at_call 10; with_reducible refine (c1 _).mono ?_; rintro e w' ⟨rfl, rfl⟩) | (go_at_call 12; refine (c2 _).mono ?_; rintro e w' ⟨rfl, rfl⟩) | (go_at_call 16; with_reducible refine (c3 _).mono ?_; rintro e w' ⟨rfl, rfl⟩) | (go_at_call 18; with_reducible refine (c4 _).mono ?_; rintro e w' ⟨rfl, rfl⟩) | (go_at_call 14; with_reducible refine (c5 _).mono ?_; rintro e w' ⟨rfl, rfl⟩) | (go_at_call 10; with_reducible refine (c6 _).mono ?_; rintro e w' ⟨rfl, rfl⟩) | (go_at_call 20; with_reducible refine (c7 _).mono ?_; rintro e w' ⟨rfl, kd, rfl⟩) | (go_at_call 20; with_reducible refine (c8 _).mono ?_; rintro e w' ⟨rfl, kd, rfl⟩))
        go_ret
        exact ⟨rfl, by repeat (first | exact Grown.refl _ | exact grown_drewN _ _ | apply Grown.drew | apply grown_thenN)⟩
end Go.Proofs.Ytobkbojkkefiiaa.qLaws
