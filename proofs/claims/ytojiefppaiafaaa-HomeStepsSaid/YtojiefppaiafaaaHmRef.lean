/- What servitorref13's Right and Step answer: the document's; what was in memory is as it was. No condition beyond what each line says. -/
import Derived.Test.YtojiefppaiafaaaHmMath
namespace Go.Proofs.Ytojiefppaiafaaa.hm
open Go.ChangeShapes Go.WideShapes Go.ChangeAt Go.RowKit Go.Proofs.Ytojiefppaiafaaa.k
set_option linter.unusedVariables false

theorem refright_any (h : H) (w : World) : Calls Try.prog 8 #[hV h] w fun e w' => e = .returned (.bool (rightH h)) ∧ Below w.heap.size w w' := by
  obtain ⟨p, f, c, t⟩ := h
  unfold hV
  dsimp only
  by_cases h0 : f < 0
  · have h0b : decide (f < 0) = true := decide_eq_true (by omega)
    by_cases h1 : f < -1048576
    · have h1b : decide (f < -1048576) = true := decide_eq_true (by omega)
      have HV : Hid (rightH ⟨p, f, c, t⟩ = false) := Lib.hid (right_no fun h => by unfold RightH at h; dsimp only at h; omega)
      go_enter Try.func8, Try.ntmps8
      go_upto_region 1 with (fail)
      go_quiet (fail)
      go_wp2
      go_ret
      exact ⟨ret_bool HV.out.symm, below_drawn ((Below.refl _ _).alloc (Nat.le_refl _) _) _⟩
    · have h1b : decide (f < -1048576) = false := decide_eq_false (by omega)
      by_cases h2 : 0 ≤ c
      · have h2b : decide (0 ≤ c) = true := decide_eq_true (by omega)
        have HV : Hid (rightH ⟨p, f, c, t⟩ = false) := Lib.hid (right_no fun h => by unfold RightH at h; dsimp only at h; omega)
        go_enter Try.func8, Try.ntmps8
        go_upto_region 1 with (fail)
        go_quiet (fail)
        go_wp2
        go_ret
        exact ⟨ret_bool HV.out.symm, below_drawn ((Below.refl _ _).alloc (Nat.le_refl _) _) _⟩
      · have h2b : decide (0 ≤ c) = false := decide_eq_false (by omega)
        by_cases h3 : c < f
        · have h3b : decide (c < f) = true := decide_eq_true (by omega)
          have HV : Hid (rightH ⟨p, f, c, t⟩ = false) := Lib.hid (right_no fun h => by unfold RightH at h; dsimp only at h; omega)
          go_enter Try.func8, Try.ntmps8
          go_upto_region 1 with (fail)
          go_quiet (fail)
          go_wp2
          go_ret
          exact ⟨ret_bool HV.out.symm, below_drawn ((Below.refl _ _).alloc (Nat.le_refl _) _) _⟩
        · have h3b : decide (c < f) = false := decide_eq_false (by omega)
          by_cases h5 : 0 ≤ p
          · have h5b : decide (0 ≤ p) = true := decide_eq_true (by omega)
            by_cases h6 : p ≤ 5
            · have h6b : decide (p ≤ 5) = true := decide_eq_true (by omega)
              have HV : Hid (rightH ⟨p, f, c, t⟩ = true) := Lib.hid (right_yes (by unfold RightH; dsimp only; omega))
              go_enter Try.func8, Try.ntmps8
              go_upto_region 1 with (fail)
              go_quiet (fail)
              go_wp2
              go_ret
              exact ⟨ret_bool HV.out.symm, below_drawn ((Below.refl _ _).alloc (Nat.le_refl _) _) _⟩
            · have h6b : decide (p ≤ 5) = false := decide_eq_false (by omega)
              have HV : Hid (rightH ⟨p, f, c, t⟩ = false) := Lib.hid (right_no fun h => by unfold RightH at h; dsimp only at h; omega)
              go_enter Try.func8, Try.ntmps8
              go_upto_region 1 with (fail)
              go_quiet (fail)
              go_wp2
              go_ret
              exact ⟨ret_bool HV.out.symm, below_drawn ((Below.refl _ _).alloc (Nat.le_refl _) _) _⟩
          · have h5b : decide (0 ≤ p) = false := decide_eq_false (by omega)
            have HV : Hid (rightH ⟨p, f, c, t⟩ = false) := Lib.hid (right_no fun h => by unfold RightH at h; dsimp only at h; omega)
            go_enter Try.func8, Try.ntmps8
            go_upto_region 1 with (fail)
            go_quiet (fail)
            go_wp2
            go_ret
            exact ⟨ret_bool HV.out.symm, below_drawn ((Below.refl _ _).alloc (Nat.le_refl _) _) _⟩
  · have h0b : decide (f < 0) = false := decide_eq_false (by omega)
    by_cases h1 : f = 0
    · have h1b : (f == 0) = true := by rw [beq_iff_eq]; omega
      have HV : Hid (rightH ⟨p, f, c, t⟩ = false) := Lib.hid (right_no fun h => by unfold RightH at h; dsimp only at h; omega)
      clear h1
      go_enter Try.func8, Try.ntmps8
      go_upto_region 1 with (fail)
      go_quiet (fail)
      go_wp2
      go_ret
      exact ⟨ret_bool HV.out.symm, below_drawn ((Below.refl _ _).alloc (Nat.le_refl _) _) _⟩
    · have h1b : (f == 0) = false := by rw [beq_eq_false_iff_ne]; omega
      by_cases h2 : 1048576 < f
      · have h2b : decide (1048576 < f) = true := decide_eq_true (by omega)
        have HV : Hid (rightH ⟨p, f, c, t⟩ = false) := Lib.hid (right_no fun h => by unfold RightH at h; dsimp only at h; omega)
        go_enter Try.func8, Try.ntmps8
        go_upto_region 1 with (fail)
        go_quiet (fail)
        go_wp2
        go_ret
        exact ⟨ret_bool HV.out.symm, below_drawn ((Below.refl _ _).alloc (Nat.le_refl _) _) _⟩
      · have h2b : decide (1048576 < f) = false := decide_eq_false (by omega)
        by_cases h3 : c ≤ 0
        · have h3b : decide (c ≤ 0) = true := decide_eq_true (by omega)
          have HV : Hid (rightH ⟨p, f, c, t⟩ = false) := Lib.hid (right_no fun h => by unfold RightH at h; dsimp only at h; omega)
          go_enter Try.func8, Try.ntmps8
          go_upto_region 1 with (fail)
          go_quiet (fail)
          go_wp2
          go_ret
          exact ⟨ret_bool HV.out.symm, below_drawn ((Below.refl _ _).alloc (Nat.le_refl _) _) _⟩
        · have h3b : decide (c ≤ 0) = false := decide_eq_false (by omega)
          by_cases h4 : f < c
          · have h4b : decide (f < c) = true := decide_eq_true (by omega)
            have HV : Hid (rightH ⟨p, f, c, t⟩ = false) := Lib.hid (right_no fun h => by unfold RightH at h; dsimp only at h; omega)
            go_enter Try.func8, Try.ntmps8
            go_upto_region 1 with (fail)
            go_quiet (fail)
            go_wp2
            go_ret
            exact ⟨ret_bool HV.out.symm, below_drawn ((Below.refl _ _).alloc (Nat.le_refl _) _) _⟩
          · have h4b : decide (f < c) = false := decide_eq_false (by omega)
            by_cases h5 : 0 ≤ p
            · have h5b : decide (0 ≤ p) = true := decide_eq_true (by omega)
              by_cases h6 : p ≤ 5
              · have h6b : decide (p ≤ 5) = true := decide_eq_true (by omega)
                have HV : Hid (rightH ⟨p, f, c, t⟩ = true) := Lib.hid (right_yes (by unfold RightH; dsimp only; omega))
                go_enter Try.func8, Try.ntmps8
                go_upto_region 1 with (fail)
                go_quiet (fail)
                go_wp2
                go_ret
                exact ⟨ret_bool HV.out.symm, below_drawn ((Below.refl _ _).alloc (Nat.le_refl _) _) _⟩
              · have h6b : decide (p ≤ 5) = false := decide_eq_false (by omega)
                have HV : Hid (rightH ⟨p, f, c, t⟩ = false) := Lib.hid (right_no fun h => by unfold RightH at h; dsimp only at h; omega)
                go_enter Try.func8, Try.ntmps8
                go_upto_region 1 with (fail)
                go_quiet (fail)
                go_wp2
                go_ret
                exact ⟨ret_bool HV.out.symm, below_drawn ((Below.refl _ _).alloc (Nat.le_refl _) _) _⟩
            · have h5b : decide (0 ≤ p) = false := decide_eq_false (by omega)
              have HV : Hid (rightH ⟨p, f, c, t⟩ = false) := Lib.hid (right_no fun h => by unfold RightH at h; dsimp only at h; omega)
              go_enter Try.func8, Try.ntmps8
              go_upto_region 1 with (fail)
              go_quiet (fail)
              go_wp2
              go_ret
              exact ⟨ret_bool HV.out.symm, below_drawn ((Below.refl _ _).alloc (Nat.le_refl _) _) _⟩
set_option maxHeartbeats 1000000 in
theorem refstep_any (h : H) (hr : RightH h) (home plus minus still : Bool) (w : World) : Calls Try.prog 12 #[hV h, .bool home, .bool plus, .bool minus, .bool still] w fun e w' => e = .returned (.tuple #[hV (stepN h home plus minus still), .int .i64 (stepV h home plus minus still)]) ∧ Below w.heap.size w w' := by
  obtain ⟨p, f, c, t⟩ := h
  obtain ⟨hp0, hp5, hfc⟩ := hr
  dsimp only at hp0 hp5 hfc
  rcases (show p = 0 ∨ p = 1 ∨ p = 2 ∨ p = 3 ∨ p = 4 ∨ p = 5 by omega) with rfl | rfl | rfl | rfl | rfl | rfl
  · clear hp0 hp5
    by_cases hs : f < 0
    · have hsb : decide (f < 0) = true := decide_eq_true (by omega)
      cases home
      · skip
        cases minus
        · skip
          rw [show stepN ⟨0, f, c, t⟩ false plus false still = ⟨0, f, c, t⟩ from by simp [stepN, aheadB, hs]]
          rw [show stepV ⟨0, f, c, t⟩ false plus false still = f from by simp [stepV, aheadB, hs]]
          unfold hV
          dsimp only
          go_enter Try.func12, Try.ntmps12
          go_wp2
          refine bodyPost_ret (v := .tuple #[.agg #[.int .i64 0, .int .i64 (f), .int .i64 (c), .bool t], .int .i64 (f)]) (by simp [results, Try.results12, go_sem]) rfl ⟨rfl, ?_⟩
          repeat (first | with_reducible exact Below.refl _ _ | (with_reducible refine Below.setCell ?_ ?_ _; rotate_left 1; focus (first | (simp; done) | (simp; omega))) | (with_reducible refine Below.alloc ?_ ?_ _; rotate_left 1; focus (first | (simp; done) | (simp; omega))))
        · skip
          cases t
          · skip
            rw [show stepN ⟨0, f, c, false⟩ false plus true still = ⟨0, -f, -c, true⟩ from by simp [stepN, aheadB, hs]]
            rw [show stepV ⟨0, f, c, false⟩ false plus true still = 0 from by simp [stepV, aheadB, hs]]
            unfold hV
            dsimp only
            go_enter Try.func12, Try.ntmps12
            go_wp2
            refine bodyPost_ret (v := .tuple #[.agg #[.int .i64 0, .int .i64 (-f), .int .i64 (-c), .bool true], .int .i64 (0)]) (by simp [results, Try.results12, go_sem]) rfl ⟨rfl, ?_⟩
            repeat (first | with_reducible exact Below.refl _ _ | (with_reducible refine Below.setCell ?_ ?_ _; rotate_left 1; focus (first | (simp; done) | (simp; omega))) | (with_reducible refine Below.alloc ?_ ?_ _; rotate_left 1; focus (first | (simp; done) | (simp; omega))))
          · skip
            rw [show stepN ⟨0, f, c, true⟩ false plus true still = ⟨5, f, c, true⟩ from by simp [stepN, aheadB, hs]]
            rw [show stepV ⟨0, f, c, true⟩ false plus true still = 0 from by simp [stepV, aheadB, hs]]
            unfold hV
            dsimp only
            go_enter Try.func12, Try.ntmps12
            go_wp2
            refine bodyPost_ret (v := .tuple #[.agg #[.int .i64 5, .int .i64 (f), .int .i64 (c), .bool true], .int .i64 (0)]) (by simp [results, Try.results12, go_sem]) rfl ⟨rfl, ?_⟩
            repeat (first | with_reducible exact Below.refl _ _ | (with_reducible refine Below.setCell ?_ ?_ _; rotate_left 1; focus (first | (simp; done) | (simp; omega))) | (with_reducible refine Below.alloc ?_ ?_ _; rotate_left 1; focus (first | (simp; done) | (simp; omega))))
      · skip
        rw [show stepN ⟨0, f, c, t⟩ true plus minus still = ⟨1, f, c, t⟩ from by simp [stepN]]
        rw [show stepV ⟨0, f, c, t⟩ true plus minus still = 0 from by simp [stepV]]
        unfold hV
        dsimp only
        go_enter Try.func12, Try.ntmps12
        go_wp2
        refine bodyPost_ret (v := .tuple #[.agg #[.int .i64 1, .int .i64 (f), .int .i64 (c), .bool t], .int .i64 (0)]) (by simp [results, Try.results12, go_sem]) rfl ⟨rfl, ?_⟩
        repeat (first | with_reducible exact Below.refl _ _ | (with_reducible refine Below.setCell ?_ ?_ _; rotate_left 1; focus (first | (simp; done) | (simp; omega))) | (with_reducible refine Below.alloc ?_ ?_ _; rotate_left 1; focus (first | (simp; done) | (simp; omega))))
    · have hsb : decide (f < 0) = false := decide_eq_false (by omega)
      cases home
      · skip
        cases plus
        · skip
          rw [show stepN ⟨0, f, c, t⟩ false false minus still = ⟨0, f, c, t⟩ from by simp [stepN, aheadB, hs]]
          rw [show stepV ⟨0, f, c, t⟩ false false minus still = f from by simp [stepV, aheadB, hs]]
          unfold hV
          dsimp only
          go_enter Try.func12, Try.ntmps12
          go_wp2
          refine bodyPost_ret (v := .tuple #[.agg #[.int .i64 0, .int .i64 (f), .int .i64 (c), .bool t], .int .i64 (f)]) (by simp [results, Try.results12, go_sem]) rfl ⟨rfl, ?_⟩
          repeat (first | with_reducible exact Below.refl _ _ | (with_reducible refine Below.setCell ?_ ?_ _; rotate_left 1; focus (first | (simp; done) | (simp; omega))) | (with_reducible refine Below.alloc ?_ ?_ _; rotate_left 1; focus (first | (simp; done) | (simp; omega))))
        · skip
          cases t
          · skip
            rw [show stepN ⟨0, f, c, false⟩ false true minus still = ⟨0, -f, -c, true⟩ from by simp [stepN, aheadB, hs]]
            rw [show stepV ⟨0, f, c, false⟩ false true minus still = 0 from by simp [stepV, aheadB, hs]]
            unfold hV
            dsimp only
            go_enter Try.func12, Try.ntmps12
            go_wp2
            refine bodyPost_ret (v := .tuple #[.agg #[.int .i64 0, .int .i64 (-f), .int .i64 (-c), .bool true], .int .i64 (0)]) (by simp [results, Try.results12, go_sem]) rfl ⟨rfl, ?_⟩
            repeat (first | with_reducible exact Below.refl _ _ | (with_reducible refine Below.setCell ?_ ?_ _; rotate_left 1; focus (first | (simp; done) | (simp; omega))) | (with_reducible refine Below.alloc ?_ ?_ _; rotate_left 1; focus (first | (simp; done) | (simp; omega))))
          · skip
            rw [show stepN ⟨0, f, c, true⟩ false true minus still = ⟨5, f, c, true⟩ from by simp [stepN, aheadB, hs]]
            rw [show stepV ⟨0, f, c, true⟩ false true minus still = 0 from by simp [stepV, aheadB, hs]]
            unfold hV
            dsimp only
            go_enter Try.func12, Try.ntmps12
            go_wp2
            refine bodyPost_ret (v := .tuple #[.agg #[.int .i64 5, .int .i64 (f), .int .i64 (c), .bool true], .int .i64 (0)]) (by simp [results, Try.results12, go_sem]) rfl ⟨rfl, ?_⟩
            repeat (first | with_reducible exact Below.refl _ _ | (with_reducible refine Below.setCell ?_ ?_ _; rotate_left 1; focus (first | (simp; done) | (simp; omega))) | (with_reducible refine Below.alloc ?_ ?_ _; rotate_left 1; focus (first | (simp; done) | (simp; omega))))
      · skip
        rw [show stepN ⟨0, f, c, t⟩ true plus minus still = ⟨1, f, c, t⟩ from by simp [stepN]]
        rw [show stepV ⟨0, f, c, t⟩ true plus minus still = 0 from by simp [stepV]]
        unfold hV
        dsimp only
        go_enter Try.func12, Try.ntmps12
        go_wp2
        refine bodyPost_ret (v := .tuple #[.agg #[.int .i64 1, .int .i64 (f), .int .i64 (c), .bool t], .int .i64 (0)]) (by simp [results, Try.results12, go_sem]) rfl ⟨rfl, ?_⟩
        repeat (first | with_reducible exact Below.refl _ _ | (with_reducible refine Below.setCell ?_ ?_ _; rotate_left 1; focus (first | (simp; done) | (simp; omega))) | (with_reducible refine Below.alloc ?_ ?_ _; rotate_left 1; focus (first | (simp; done) | (simp; omega))))
  · clear hp0 hp5
    by_cases hs : f < 0
    · have hsb : decide (f < 0) = true := decide_eq_true (by omega)
      cases still
      · skip
        rw [show stepN ⟨1, f, c, t⟩ home plus minus false = ⟨1, f, c, t⟩ from by simp [stepN]]
        rw [show stepV ⟨1, f, c, t⟩ home plus minus false = 0 from by simp [stepV]]
        unfold hV
        dsimp only
        go_enter Try.func12, Try.ntmps12
        go_wp2
        refine bodyPost_ret (v := .tuple #[.agg #[.int .i64 1, .int .i64 (f), .int .i64 (c), .bool t], .int .i64 (0)]) (by simp [results, Try.results12, go_sem]) rfl ⟨rfl, ?_⟩
        repeat (first | with_reducible exact Below.refl _ _ | (with_reducible refine Below.setCell ?_ ?_ _; rotate_left 1; focus (first | (simp; done) | (simp; omega))) | (with_reducible refine Below.alloc ?_ ?_ _; rotate_left 1; focus (first | (simp; done) | (simp; omega))))
      · skip
        rw [show stepN ⟨1, f, c, t⟩ home plus minus true = ⟨2, f, c, t⟩ from by simp [stepN]]
        rw [show stepV ⟨1, f, c, t⟩ home plus minus true = 0 from by simp [stepV]]
        unfold hV
        dsimp only
        go_enter Try.func12, Try.ntmps12
        go_wp2
        refine bodyPost_ret (v := .tuple #[.agg #[.int .i64 2, .int .i64 (f), .int .i64 (c), .bool t], .int .i64 (0)]) (by simp [results, Try.results12, go_sem]) rfl ⟨rfl, ?_⟩
        repeat (first | with_reducible exact Below.refl _ _ | (with_reducible refine Below.setCell ?_ ?_ _; rotate_left 1; focus (first | (simp; done) | (simp; omega))) | (with_reducible refine Below.alloc ?_ ?_ _; rotate_left 1; focus (first | (simp; done) | (simp; omega))))
    · have hsb : decide (f < 0) = false := decide_eq_false (by omega)
      cases still
      · skip
        rw [show stepN ⟨1, f, c, t⟩ home plus minus false = ⟨1, f, c, t⟩ from by simp [stepN]]
        rw [show stepV ⟨1, f, c, t⟩ home plus minus false = 0 from by simp [stepV]]
        unfold hV
        dsimp only
        go_enter Try.func12, Try.ntmps12
        go_wp2
        refine bodyPost_ret (v := .tuple #[.agg #[.int .i64 1, .int .i64 (f), .int .i64 (c), .bool t], .int .i64 (0)]) (by simp [results, Try.results12, go_sem]) rfl ⟨rfl, ?_⟩
        repeat (first | with_reducible exact Below.refl _ _ | (with_reducible refine Below.setCell ?_ ?_ _; rotate_left 1; focus (first | (simp; done) | (simp; omega))) | (with_reducible refine Below.alloc ?_ ?_ _; rotate_left 1; focus (first | (simp; done) | (simp; omega))))
      · skip
        rw [show stepN ⟨1, f, c, t⟩ home plus minus true = ⟨2, f, c, t⟩ from by simp [stepN]]
        rw [show stepV ⟨1, f, c, t⟩ home plus minus true = 0 from by simp [stepV]]
        unfold hV
        dsimp only
        go_enter Try.func12, Try.ntmps12
        go_wp2
        refine bodyPost_ret (v := .tuple #[.agg #[.int .i64 2, .int .i64 (f), .int .i64 (c), .bool t], .int .i64 (0)]) (by simp [results, Try.results12, go_sem]) rfl ⟨rfl, ?_⟩
        repeat (first | with_reducible exact Below.refl _ _ | (with_reducible refine Below.setCell ?_ ?_ _; rotate_left 1; focus (first | (simp; done) | (simp; omega))) | (with_reducible refine Below.alloc ?_ ?_ _; rotate_left 1; focus (first | (simp; done) | (simp; omega))))
  · clear hp0 hp5
    by_cases hs : f < 0
    · have hsb : decide (f < 0) = true := decide_eq_true (by omega)
      cases home
      · skip
        rw [show stepN ⟨2, f, c, t⟩ false plus minus still = ⟨3, f, c, t⟩ from by simp [stepN]]
        rw [show stepV ⟨2, f, c, t⟩ false plus minus still = 0 from by simp [stepV]]
        unfold hV
        dsimp only
        go_enter Try.func12, Try.ntmps12
        go_wp2
        refine bodyPost_ret (v := .tuple #[.agg #[.int .i64 3, .int .i64 (f), .int .i64 (c), .bool t], .int .i64 (0)]) (by simp [results, Try.results12, go_sem]) rfl ⟨rfl, ?_⟩
        repeat (first | with_reducible exact Below.refl _ _ | (with_reducible refine Below.setCell ?_ ?_ _; rotate_left 1; focus (first | (simp; done) | (simp; omega))) | (with_reducible refine Below.alloc ?_ ?_ _; rotate_left 1; focus (first | (simp; done) | (simp; omega))))
      · skip
        cases plus
        · skip
          rw [show stepN ⟨2, f, c, t⟩ true false minus still = ⟨2, f, c, t⟩ from by simp [stepN, behindB, hs]]
          rw [show stepV ⟨2, f, c, t⟩ true false minus still = -c from by simp [stepV, behindB, hs]]
          unfold hV
          dsimp only
          go_enter Try.func12, Try.ntmps12
          go_wp2
          refine bodyPost_ret (v := .tuple #[.agg #[.int .i64 2, .int .i64 (f), .int .i64 (c), .bool t], .int .i64 (-c)]) (by simp [results, Try.results12, go_sem]) rfl ⟨rfl, ?_⟩
          repeat (first | with_reducible exact Below.refl _ _ | (with_reducible refine Below.setCell ?_ ?_ _; rotate_left 1; focus (first | (simp; done) | (simp; omega))) | (with_reducible refine Below.alloc ?_ ?_ _; rotate_left 1; focus (first | (simp; done) | (simp; omega))))
        · skip
          rw [show stepN ⟨2, f, c, t⟩ true true minus still = ⟨5, f, c, t⟩ from by simp [stepN, behindB, hs]]
          rw [show stepV ⟨2, f, c, t⟩ true true minus still = 0 from by simp [stepV, behindB, hs]]
          unfold hV
          dsimp only
          go_enter Try.func12, Try.ntmps12
          go_wp2
          refine bodyPost_ret (v := .tuple #[.agg #[.int .i64 5, .int .i64 (f), .int .i64 (c), .bool t], .int .i64 (0)]) (by simp [results, Try.results12, go_sem]) rfl ⟨rfl, ?_⟩
          repeat (first | with_reducible exact Below.refl _ _ | (with_reducible refine Below.setCell ?_ ?_ _; rotate_left 1; focus (first | (simp; done) | (simp; omega))) | (with_reducible refine Below.alloc ?_ ?_ _; rotate_left 1; focus (first | (simp; done) | (simp; omega))))
    · have hsb : decide (f < 0) = false := decide_eq_false (by omega)
      cases home
      · skip
        rw [show stepN ⟨2, f, c, t⟩ false plus minus still = ⟨3, f, c, t⟩ from by simp [stepN]]
        rw [show stepV ⟨2, f, c, t⟩ false plus minus still = 0 from by simp [stepV]]
        unfold hV
        dsimp only
        go_enter Try.func12, Try.ntmps12
        go_wp2
        refine bodyPost_ret (v := .tuple #[.agg #[.int .i64 3, .int .i64 (f), .int .i64 (c), .bool t], .int .i64 (0)]) (by simp [results, Try.results12, go_sem]) rfl ⟨rfl, ?_⟩
        repeat (first | with_reducible exact Below.refl _ _ | (with_reducible refine Below.setCell ?_ ?_ _; rotate_left 1; focus (first | (simp; done) | (simp; omega))) | (with_reducible refine Below.alloc ?_ ?_ _; rotate_left 1; focus (first | (simp; done) | (simp; omega))))
      · skip
        cases minus
        · skip
          rw [show stepN ⟨2, f, c, t⟩ true plus false still = ⟨2, f, c, t⟩ from by simp [stepN, behindB, hs]]
          rw [show stepV ⟨2, f, c, t⟩ true plus false still = -c from by simp [stepV, behindB, hs]]
          unfold hV
          dsimp only
          go_enter Try.func12, Try.ntmps12
          go_wp2
          refine bodyPost_ret (v := .tuple #[.agg #[.int .i64 2, .int .i64 (f), .int .i64 (c), .bool t], .int .i64 (-c)]) (by simp [results, Try.results12, go_sem]) rfl ⟨rfl, ?_⟩
          repeat (first | with_reducible exact Below.refl _ _ | (with_reducible refine Below.setCell ?_ ?_ _; rotate_left 1; focus (first | (simp; done) | (simp; omega))) | (with_reducible refine Below.alloc ?_ ?_ _; rotate_left 1; focus (first | (simp; done) | (simp; omega))))
        · skip
          rw [show stepN ⟨2, f, c, t⟩ true plus true still = ⟨5, f, c, t⟩ from by simp [stepN, behindB, hs]]
          rw [show stepV ⟨2, f, c, t⟩ true plus true still = 0 from by simp [stepV, behindB, hs]]
          unfold hV
          dsimp only
          go_enter Try.func12, Try.ntmps12
          go_wp2
          refine bodyPost_ret (v := .tuple #[.agg #[.int .i64 5, .int .i64 (f), .int .i64 (c), .bool t], .int .i64 (0)]) (by simp [results, Try.results12, go_sem]) rfl ⟨rfl, ?_⟩
          repeat (first | with_reducible exact Below.refl _ _ | (with_reducible refine Below.setCell ?_ ?_ _; rotate_left 1; focus (first | (simp; done) | (simp; omega))) | (with_reducible refine Below.alloc ?_ ?_ _; rotate_left 1; focus (first | (simp; done) | (simp; omega))))
  · clear hp0 hp5
    by_cases hs : f < 0
    · have hsb : decide (f < 0) = true := decide_eq_true (by omega)
      cases still
      · skip
        rw [show stepN ⟨3, f, c, t⟩ home plus minus false = ⟨3, f, c, t⟩ from by simp [stepN]]
        rw [show stepV ⟨3, f, c, t⟩ home plus minus false = 0 from by simp [stepV]]
        unfold hV
        dsimp only
        go_enter Try.func12, Try.ntmps12
        go_wp2
        refine bodyPost_ret (v := .tuple #[.agg #[.int .i64 3, .int .i64 (f), .int .i64 (c), .bool t], .int .i64 (0)]) (by simp [results, Try.results12, go_sem]) rfl ⟨rfl, ?_⟩
        repeat (first | with_reducible exact Below.refl _ _ | (with_reducible refine Below.setCell ?_ ?_ _; rotate_left 1; focus (first | (simp; done) | (simp; omega))) | (with_reducible refine Below.alloc ?_ ?_ _; rotate_left 1; focus (first | (simp; done) | (simp; omega))))
      · skip
        rw [show stepN ⟨3, f, c, t⟩ home plus minus true = ⟨4, f, c, t⟩ from by simp [stepN]]
        rw [show stepV ⟨3, f, c, t⟩ home plus minus true = 0 from by simp [stepV]]
        unfold hV
        dsimp only
        go_enter Try.func12, Try.ntmps12
        go_wp2
        refine bodyPost_ret (v := .tuple #[.agg #[.int .i64 4, .int .i64 (f), .int .i64 (c), .bool t], .int .i64 (0)]) (by simp [results, Try.results12, go_sem]) rfl ⟨rfl, ?_⟩
        repeat (first | with_reducible exact Below.refl _ _ | (with_reducible refine Below.setCell ?_ ?_ _; rotate_left 1; focus (first | (simp; done) | (simp; omega))) | (with_reducible refine Below.alloc ?_ ?_ _; rotate_left 1; focus (first | (simp; done) | (simp; omega))))
    · have hsb : decide (f < 0) = false := decide_eq_false (by omega)
      cases still
      · skip
        rw [show stepN ⟨3, f, c, t⟩ home plus minus false = ⟨3, f, c, t⟩ from by simp [stepN]]
        rw [show stepV ⟨3, f, c, t⟩ home plus minus false = 0 from by simp [stepV]]
        unfold hV
        dsimp only
        go_enter Try.func12, Try.ntmps12
        go_wp2
        refine bodyPost_ret (v := .tuple #[.agg #[.int .i64 3, .int .i64 (f), .int .i64 (c), .bool t], .int .i64 (0)]) (by simp [results, Try.results12, go_sem]) rfl ⟨rfl, ?_⟩
        repeat (first | with_reducible exact Below.refl _ _ | (with_reducible refine Below.setCell ?_ ?_ _; rotate_left 1; focus (first | (simp; done) | (simp; omega))) | (with_reducible refine Below.alloc ?_ ?_ _; rotate_left 1; focus (first | (simp; done) | (simp; omega))))
      · skip
        rw [show stepN ⟨3, f, c, t⟩ home plus minus true = ⟨4, f, c, t⟩ from by simp [stepN]]
        rw [show stepV ⟨3, f, c, t⟩ home plus minus true = 0 from by simp [stepV]]
        unfold hV
        dsimp only
        go_enter Try.func12, Try.ntmps12
        go_wp2
        refine bodyPost_ret (v := .tuple #[.agg #[.int .i64 4, .int .i64 (f), .int .i64 (c), .bool t], .int .i64 (0)]) (by simp [results, Try.results12, go_sem]) rfl ⟨rfl, ?_⟩
        repeat (first | with_reducible exact Below.refl _ _ | (with_reducible refine Below.setCell ?_ ?_ _; rotate_left 1; focus (first | (simp; done) | (simp; omega))) | (with_reducible refine Below.alloc ?_ ?_ _; rotate_left 1; focus (first | (simp; done) | (simp; omega))))
  · clear hp0 hp5
    by_cases hs : f < 0
    · have hsb : decide (f < 0) = true := decide_eq_true (by omega)
      rw [show stepN ⟨4, f, c, t⟩ home plus minus still = ⟨4, f, c, t⟩ from by simp [stepN]]
      rw [show stepV ⟨4, f, c, t⟩ home plus minus still = 0 from by simp [stepV]]
      unfold hV
      dsimp only
      go_enter Try.func12, Try.ntmps12
      go_wp2
      refine bodyPost_ret (v := .tuple #[.agg #[.int .i64 4, .int .i64 (f), .int .i64 (c), .bool t], .int .i64 (0)]) (by simp [results, Try.results12, go_sem]) rfl ⟨rfl, ?_⟩
      repeat (first | with_reducible exact Below.refl _ _ | (with_reducible refine Below.setCell ?_ ?_ _; rotate_left 1; focus (first | (simp; done) | (simp; omega))) | (with_reducible refine Below.alloc ?_ ?_ _; rotate_left 1; focus (first | (simp; done) | (simp; omega))))
    · have hsb : decide (f < 0) = false := decide_eq_false (by omega)
      rw [show stepN ⟨4, f, c, t⟩ home plus minus still = ⟨4, f, c, t⟩ from by simp [stepN]]
      rw [show stepV ⟨4, f, c, t⟩ home plus minus still = 0 from by simp [stepV]]
      unfold hV
      dsimp only
      go_enter Try.func12, Try.ntmps12
      go_wp2
      refine bodyPost_ret (v := .tuple #[.agg #[.int .i64 4, .int .i64 (f), .int .i64 (c), .bool t], .int .i64 (0)]) (by simp [results, Try.results12, go_sem]) rfl ⟨rfl, ?_⟩
      repeat (first | with_reducible exact Below.refl _ _ | (with_reducible refine Below.setCell ?_ ?_ _; rotate_left 1; focus (first | (simp; done) | (simp; omega))) | (with_reducible refine Below.alloc ?_ ?_ _; rotate_left 1; focus (first | (simp; done) | (simp; omega))))
  · clear hp0 hp5
    by_cases hs : f < 0
    · have hsb : decide (f < 0) = true := decide_eq_true (by omega)
      rw [show stepN ⟨5, f, c, t⟩ home plus minus still = ⟨5, f, c, t⟩ from by simp [stepN]]
      rw [show stepV ⟨5, f, c, t⟩ home plus minus still = 0 from by simp [stepV]]
      unfold hV
      dsimp only
      go_enter Try.func12, Try.ntmps12
      go_wp2
      refine bodyPost_ret (v := .tuple #[.agg #[.int .i64 5, .int .i64 (f), .int .i64 (c), .bool t], .int .i64 (0)]) (by simp [results, Try.results12, go_sem]) rfl ⟨rfl, ?_⟩
      repeat (first | with_reducible exact Below.refl _ _ | (with_reducible refine Below.setCell ?_ ?_ _; rotate_left 1; focus (first | (simp; done) | (simp; omega))) | (with_reducible refine Below.alloc ?_ ?_ _; rotate_left 1; focus (first | (simp; done) | (simp; omega))))
    · have hsb : decide (f < 0) = false := decide_eq_false (by omega)
      rw [show stepN ⟨5, f, c, t⟩ home plus minus still = ⟨5, f, c, t⟩ from by simp [stepN]]
      rw [show stepV ⟨5, f, c, t⟩ home plus minus still = 0 from by simp [stepV]]
      unfold hV
      dsimp only
      go_enter Try.func12, Try.ntmps12
      go_wp2
      refine bodyPost_ret (v := .tuple #[.agg #[.int .i64 5, .int .i64 (f), .int .i64 (c), .bool t], .int .i64 (0)]) (by simp [results, Try.results12, go_sem]) rfl ⟨rfl, ?_⟩
      repeat (first | with_reducible exact Below.refl _ _ | (with_reducible refine Below.setCell ?_ ?_ _; rotate_left 1; focus (first | (simp; done) | (simp; omega))) | (with_reducible refine Below.alloc ?_ ?_ _; rotate_left 1; focus (first | (simp; done) | (simp; omega))))
end Go.Proofs.Ytojiefppaiafaaa.hm
