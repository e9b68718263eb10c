/- What servitorref07's Right answers, of any drive; what was in memory is as it was. No condition beyond the kinds' own bounds. -/
import Derived.Test.YtdfgjfojneoljaaJMath
import Derived.Test.YtdfgjfojneoljaaJSwitch
namespace Go.Proofs.Ytdfgjfojneoljaa.j
open Go.ChangeShapes Go.WideShapes Go.ChangeAt Go.RowKit Go.Proofs.Ytdfgjfojneoljaa.s Go.Proofs.Ytdfgjfojneoljaa.t
set_option linter.unusedVariables false

theorem settled_is {c : Int} {x : Bool} {o : Int} {b : Bool} (hc : -9223372036854775808 ≤ c ∧ c ≤ 9223372036854775807) (h : v.rightB c o = b) (w : World) :
    Calls Try.prog 21 #[.agg #[.int .i64 c, .bool x, .int .i64 o]] w fun e w' => e = .returned (.bool b) ∧ BoxB w c x o = w' := by
  have h1 := settled_any c x o hc w
  rw [h] at h1
  exact h1
theorem watch_is {lim mis last : Int} {b : Bool} (h : u.rightW lim mis last = b) (w : World) :
    Calls Try.prog 22 #[.agg #[.int .i64 lim, .int .i64 mis, .int .i64 last]] w fun e w' => e = .returned (.bool b) ∧ u.BoxW w lim mis last = w' := by
  have h1 := u.refright_any lim mis last w
  rw [h] at h1
  exact h1
theorem ret_bool {a b : Bool} (h : a = b) : Ending.returned (.bool a) = .returned (.bool b) := by rw [h]
set_option maxHeartbeats 4000000 in
theorem refright_any (d : D) (hw : WideD d) (w : World) :
    Calls Try.prog 9 #[dV d] w fun e w' => e = .returned (.bool (rightD d)) ∧ Below w.heap.size w w' := by
  obtain ⟨st, lim, mis, last, pc, pv, po, mc, mv, mo, hc, hv, ho, act, kn, sq⟩ := d
  obtain ⟨b1, b2, b3⟩ := hw
  unfold dV
  dsimp only at b1 b2 b3 ⊢
  by_cases h1 : v.RightB pc po
  · have C1 := Lib.hid fun W => settled_is (x := pv) b1 (v.right_yes h1) W
    have hpp : (pc != pc) = false := by simp
    by_cases h2 : v.RightB mc mo
    · have C2 := Lib.hid fun W => settled_is (x := mv) b2 (v.right_yes h2) W
      by_cases h3 : mc = pc
      · have hq3 : (mc != pc) = false := by rw [h3]; simp
        by_cases h4 : v.RightB hc ho
        · have C3 := Lib.hid fun W => settled_is (x := hv) b3 (v.right_yes h4) W
          by_cases h5 : hc = pc
          · have hq5 : (hc != pc) = false := by rw [h5]; simp
            by_cases h6 : 0 ≤ st
            · skip
              by_cases h7 : st ≤ 4
              · skip
                by_cases h8 : 0 ≤ sq
                · skip
                  by_cases h9 : sq ≤ 255
                  · skip
                    by_cases h10 : u.RightW lim mis last
                    · have CW := Lib.hid fun W => watch_is (u.right_yes h10) W
                      cases kn
                      · by_cases h11 : act = 0
                        · have HV := Lib.hid (right_yes (d := ⟨st, lim, mis, last, pc, pv, po, mc, mv, mo, hc, hv, ho, act, false, sq⟩) ⟨h1, h2, h3, h4, h5, h6, h7, h8, h9, h10, .inr h11⟩)
                          have hq11 : (act == 0) = true := by rw [h11]; rfl
                          clear h1 h2 h3 h4 h5 h10 h11
                          go_enter Try.func9, Try.ntmps9
                          go_wp2
                          refine wp_loop_rounds 5 ?_
                          rw [rounds_succ]
                          go_wp2_with (first | (go_at_call 21; ((with_reducible refine (C1.out _).mono ?_); rintro e w1 ⟨rfl, rfl⟩; unfold BoxB)) | (go_at_call 21; ((with_reducible refine (C2.out _).mono ?_); rintro e w1 ⟨rfl, rfl⟩; unfold BoxB)) | (go_at_call 21; ((with_reducible refine (C3.out _).mono ?_); rintro e w1 ⟨rfl, rfl⟩; unfold BoxB)) | (go_at_call 22; ((with_reducible refine (CW.out _).mono ?_); rintro e w1 ⟨rfl, rfl⟩; unfold u.BoxW)))
                          rw [rounds_succ]
                          go_wp2_with (first | (go_at_call 21; ((with_reducible refine (C1.out _).mono ?_); rintro e w1 ⟨rfl, rfl⟩; unfold BoxB)) | (go_at_call 21; ((with_reducible refine (C2.out _).mono ?_); rintro e w1 ⟨rfl, rfl⟩; unfold BoxB)) | (go_at_call 21; ((with_reducible refine (C3.out _).mono ?_); rintro e w1 ⟨rfl, rfl⟩; unfold BoxB)) | (go_at_call 22; ((with_reducible refine (CW.out _).mono ?_); rintro e w1 ⟨rfl, rfl⟩; unfold u.BoxW)))
                          rw [rounds_succ]
                          go_wp2_with (first | (go_at_call 21; ((with_reducible refine (C1.out _).mono ?_); rintro e w1 ⟨rfl, rfl⟩; unfold BoxB)) | (go_at_call 21; ((with_reducible refine (C2.out _).mono ?_); rintro e w1 ⟨rfl, rfl⟩; unfold BoxB)) | (go_at_call 21; ((with_reducible refine (C3.out _).mono ?_); rintro e w1 ⟨rfl, rfl⟩; unfold BoxB)) | (go_at_call 22; ((with_reducible refine (CW.out _).mono ?_); rintro e w1 ⟨rfl, rfl⟩; unfold u.BoxW)))
                          rw [rounds_succ]
                          go_wp2_with (first | (go_at_call 21; ((with_reducible refine (C1.out _).mono ?_); rintro e w1 ⟨rfl, rfl⟩; unfold BoxB)) | (go_at_call 21; ((with_reducible refine (C2.out _).mono ?_); rintro e w1 ⟨rfl, rfl⟩; unfold BoxB)) | (go_at_call 21; ((with_reducible refine (C3.out _).mono ?_); rintro e w1 ⟨rfl, rfl⟩; unfold BoxB)) | (go_at_call 22; ((with_reducible refine (CW.out _).mono ?_); rintro e w1 ⟨rfl, rfl⟩; unfold u.BoxW)))
                          go_ret
                          exact ⟨ret_bool HV.out.symm, (by repeat (first | with_reducible exact Below.refl _ _ | (with_reducible refine Below.setCell ?_ ?_ _; rotate_left 1; focus (first | (simp; done) | (simp; omega))) | (with_reducible refine Below.alloc ?_ ?_ _; rotate_left 1; focus (first | (simp; done) | (simp; omega)))))⟩
                        · have HV := Lib.hid (right_no (d := ⟨st, lim, mis, last, pc, pv, po, mc, mv, mo, hc, hv, ho, act, false, sq⟩) fun h => by rcases h.2.2.2.2.2.2.2.2.2.2 with h | h; exact absurd h (by simp); exact h11 h)
                          have hq11 : (act == 0) = false := by rw [beq_eq_false_iff_ne]; exact h11
                          clear h1 h2 h3 h4 h5 h10 h11
                          go_enter Try.func9, Try.ntmps9
                          go_wp2
                          refine wp_loop_rounds 5 ?_
                          rw [rounds_succ]
                          go_wp2_with (first | (go_at_call 21; ((with_reducible refine (C1.out _).mono ?_); rintro e w1 ⟨rfl, rfl⟩; unfold BoxB)) | (go_at_call 21; ((with_reducible refine (C2.out _).mono ?_); rintro e w1 ⟨rfl, rfl⟩; unfold BoxB)) | (go_at_call 21; ((with_reducible refine (C3.out _).mono ?_); rintro e w1 ⟨rfl, rfl⟩; unfold BoxB)) | (go_at_call 22; ((with_reducible refine (CW.out _).mono ?_); rintro e w1 ⟨rfl, rfl⟩; unfold u.BoxW)))
                          rw [rounds_succ]
                          go_wp2_with (first | (go_at_call 21; ((with_reducible refine (C1.out _).mono ?_); rintro e w1 ⟨rfl, rfl⟩; unfold BoxB)) | (go_at_call 21; ((with_reducible refine (C2.out _).mono ?_); rintro e w1 ⟨rfl, rfl⟩; unfold BoxB)) | (go_at_call 21; ((with_reducible refine (C3.out _).mono ?_); rintro e w1 ⟨rfl, rfl⟩; unfold BoxB)) | (go_at_call 22; ((with_reducible refine (CW.out _).mono ?_); rintro e w1 ⟨rfl, rfl⟩; unfold u.BoxW)))
                          rw [rounds_succ]
                          go_wp2_with (first | (go_at_call 21; ((with_reducible refine (C1.out _).mono ?_); rintro e w1 ⟨rfl, rfl⟩; unfold BoxB)) | (go_at_call 21; ((with_reducible refine (C2.out _).mono ?_); rintro e w1 ⟨rfl, rfl⟩; unfold BoxB)) | (go_at_call 21; ((with_reducible refine (C3.out _).mono ?_); rintro e w1 ⟨rfl, rfl⟩; unfold BoxB)) | (go_at_call 22; ((with_reducible refine (CW.out _).mono ?_); rintro e w1 ⟨rfl, rfl⟩; unfold u.BoxW)))
                          rw [rounds_succ]
                          go_wp2_with (first | (go_at_call 21; ((with_reducible refine (C1.out _).mono ?_); rintro e w1 ⟨rfl, rfl⟩; unfold BoxB)) | (go_at_call 21; ((with_reducible refine (C2.out _).mono ?_); rintro e w1 ⟨rfl, rfl⟩; unfold BoxB)) | (go_at_call 21; ((with_reducible refine (C3.out _).mono ?_); rintro e w1 ⟨rfl, rfl⟩; unfold BoxB)) | (go_at_call 22; ((with_reducible refine (CW.out _).mono ?_); rintro e w1 ⟨rfl, rfl⟩; unfold u.BoxW)))
                          go_ret
                          exact ⟨ret_bool HV.out.symm, (by repeat (first | with_reducible exact Below.refl _ _ | (with_reducible refine Below.setCell ?_ ?_ _; rotate_left 1; focus (first | (simp; done) | (simp; omega))) | (with_reducible refine Below.alloc ?_ ?_ _; rotate_left 1; focus (first | (simp; done) | (simp; omega)))))⟩
                      · have HV := Lib.hid (right_yes (d := ⟨st, lim, mis, last, pc, pv, po, mc, mv, mo, hc, hv, ho, act, true, sq⟩) ⟨h1, h2, h3, h4, h5, h6, h7, h8, h9, h10, .inl rfl⟩)
                        clear h1 h2 h3 h4 h5 h10
                        go_enter Try.func9, Try.ntmps9
                        go_wp2
                        refine wp_loop_rounds 5 ?_
                        rw [rounds_succ]
                        go_wp2_with (first | (go_at_call 21; ((with_reducible refine (C1.out _).mono ?_); rintro e w1 ⟨rfl, rfl⟩; unfold BoxB)) | (go_at_call 21; ((with_reducible refine (C2.out _).mono ?_); rintro e w1 ⟨rfl, rfl⟩; unfold BoxB)) | (go_at_call 21; ((with_reducible refine (C3.out _).mono ?_); rintro e w1 ⟨rfl, rfl⟩; unfold BoxB)) | (go_at_call 22; ((with_reducible refine (CW.out _).mono ?_); rintro e w1 ⟨rfl, rfl⟩; unfold u.BoxW)))
                        rw [rounds_succ]
                        go_wp2_with (first | (go_at_call 21; ((with_reducible refine (C1.out _).mono ?_); rintro e w1 ⟨rfl, rfl⟩; unfold BoxB)) | (go_at_call 21; ((with_reducible refine (C2.out _).mono ?_); rintro e w1 ⟨rfl, rfl⟩; unfold BoxB)) | (go_at_call 21; ((with_reducible refine (C3.out _).mono ?_); rintro e w1 ⟨rfl, rfl⟩; unfold BoxB)) | (go_at_call 22; ((with_reducible refine (CW.out _).mono ?_); rintro e w1 ⟨rfl, rfl⟩; unfold u.BoxW)))
                        rw [rounds_succ]
                        go_wp2_with (first | (go_at_call 21; ((with_reducible refine (C1.out _).mono ?_); rintro e w1 ⟨rfl, rfl⟩; unfold BoxB)) | (go_at_call 21; ((with_reducible refine (C2.out _).mono ?_); rintro e w1 ⟨rfl, rfl⟩; unfold BoxB)) | (go_at_call 21; ((with_reducible refine (C3.out _).mono ?_); rintro e w1 ⟨rfl, rfl⟩; unfold BoxB)) | (go_at_call 22; ((with_reducible refine (CW.out _).mono ?_); rintro e w1 ⟨rfl, rfl⟩; unfold u.BoxW)))
                        rw [rounds_succ]
                        go_wp2_with (first | (go_at_call 21; ((with_reducible refine (C1.out _).mono ?_); rintro e w1 ⟨rfl, rfl⟩; unfold BoxB)) | (go_at_call 21; ((with_reducible refine (C2.out _).mono ?_); rintro e w1 ⟨rfl, rfl⟩; unfold BoxB)) | (go_at_call 21; ((with_reducible refine (C3.out _).mono ?_); rintro e w1 ⟨rfl, rfl⟩; unfold BoxB)) | (go_at_call 22; ((with_reducible refine (CW.out _).mono ?_); rintro e w1 ⟨rfl, rfl⟩; unfold u.BoxW)))
                        go_ret
                        exact ⟨ret_bool HV.out.symm, (by repeat (first | with_reducible exact Below.refl _ _ | (with_reducible refine Below.setCell ?_ ?_ _; rotate_left 1; focus (first | (simp; done) | (simp; omega))) | (with_reducible refine Below.alloc ?_ ?_ _; rotate_left 1; focus (first | (simp; done) | (simp; omega)))))⟩
                    · have CW := Lib.hid fun W => watch_is (u.right_no h10) W
                      have HV := Lib.hid (right_no (d := ⟨st, lim, mis, last, pc, pv, po, mc, mv, mo, hc, hv, ho, act, kn, sq⟩) fun h => h10 h.2.2.2.2.2.2.2.2.2.1)
                      clear h1 h2 h3 h4 h5 h10
                      go_enter Try.func9, Try.ntmps9
                      go_wp2
                      refine wp_loop_rounds 5 ?_
                      rw [rounds_succ]
                      go_wp2_with (first | (go_at_call 21; ((with_reducible refine (C1.out _).mono ?_); rintro e w1 ⟨rfl, rfl⟩; unfold BoxB)) | (go_at_call 21; ((with_reducible refine (C2.out _).mono ?_); rintro e w1 ⟨rfl, rfl⟩; unfold BoxB)) | (go_at_call 21; ((with_reducible refine (C3.out _).mono ?_); rintro e w1 ⟨rfl, rfl⟩; unfold BoxB)) | (go_at_call 22; ((with_reducible refine (CW.out _).mono ?_); rintro e w1 ⟨rfl, rfl⟩; unfold u.BoxW)))
                      rw [rounds_succ]
                      go_wp2_with (first | (go_at_call 21; ((with_reducible refine (C1.out _).mono ?_); rintro e w1 ⟨rfl, rfl⟩; unfold BoxB)) | (go_at_call 21; ((with_reducible refine (C2.out _).mono ?_); rintro e w1 ⟨rfl, rfl⟩; unfold BoxB)) | (go_at_call 21; ((with_reducible refine (C3.out _).mono ?_); rintro e w1 ⟨rfl, rfl⟩; unfold BoxB)) | (go_at_call 22; ((with_reducible refine (CW.out _).mono ?_); rintro e w1 ⟨rfl, rfl⟩; unfold u.BoxW)))
                      rw [rounds_succ]
                      go_wp2_with (first | (go_at_call 21; ((with_reducible refine (C1.out _).mono ?_); rintro e w1 ⟨rfl, rfl⟩; unfold BoxB)) | (go_at_call 21; ((with_reducible refine (C2.out _).mono ?_); rintro e w1 ⟨rfl, rfl⟩; unfold BoxB)) | (go_at_call 21; ((with_reducible refine (C3.out _).mono ?_); rintro e w1 ⟨rfl, rfl⟩; unfold BoxB)) | (go_at_call 22; ((with_reducible refine (CW.out _).mono ?_); rintro e w1 ⟨rfl, rfl⟩; unfold u.BoxW)))
                      rw [rounds_succ]
                      go_wp2_with (first | (go_at_call 21; ((with_reducible refine (C1.out _).mono ?_); rintro e w1 ⟨rfl, rfl⟩; unfold BoxB)) | (go_at_call 21; ((with_reducible refine (C2.out _).mono ?_); rintro e w1 ⟨rfl, rfl⟩; unfold BoxB)) | (go_at_call 21; ((with_reducible refine (C3.out _).mono ?_); rintro e w1 ⟨rfl, rfl⟩; unfold BoxB)) | (go_at_call 22; ((with_reducible refine (CW.out _).mono ?_); rintro e w1 ⟨rfl, rfl⟩; unfold u.BoxW)))
                      go_ret
                      exact ⟨ret_bool HV.out.symm, (by repeat (first | with_reducible exact Below.refl _ _ | (with_reducible refine Below.setCell ?_ ?_ _; rotate_left 1; focus (first | (simp; done) | (simp; omega))) | (with_reducible refine Below.alloc ?_ ?_ _; rotate_left 1; focus (first | (simp; done) | (simp; omega)))))⟩
                  · have HV := Lib.hid (right_no (d := ⟨st, lim, mis, last, pc, pv, po, mc, mv, mo, hc, hv, ho, act, kn, sq⟩) fun h => h9 h.2.2.2.2.2.2.2.2.1)
                    have g9 : 255 < sq := by omega
                    clear h1 h2 h3 h4 h5 h9
                    go_enter Try.func9, Try.ntmps9
                    go_wp2
                    refine wp_loop_rounds 5 ?_
                    rw [rounds_succ]
                    go_wp2_with (first | (go_at_call 21; ((with_reducible refine (C1.out _).mono ?_); rintro e w1 ⟨rfl, rfl⟩; unfold BoxB)) | (go_at_call 21; ((with_reducible refine (C2.out _).mono ?_); rintro e w1 ⟨rfl, rfl⟩; unfold BoxB)) | (go_at_call 21; ((with_reducible refine (C3.out _).mono ?_); rintro e w1 ⟨rfl, rfl⟩; unfold BoxB)))
                    rw [rounds_succ]
                    go_wp2_with (first | (go_at_call 21; ((with_reducible refine (C1.out _).mono ?_); rintro e w1 ⟨rfl, rfl⟩; unfold BoxB)) | (go_at_call 21; ((with_reducible refine (C2.out _).mono ?_); rintro e w1 ⟨rfl, rfl⟩; unfold BoxB)) | (go_at_call 21; ((with_reducible refine (C3.out _).mono ?_); rintro e w1 ⟨rfl, rfl⟩; unfold BoxB)))
                    rw [rounds_succ]
                    go_wp2_with (first | (go_at_call 21; ((with_reducible refine (C1.out _).mono ?_); rintro e w1 ⟨rfl, rfl⟩; unfold BoxB)) | (go_at_call 21; ((with_reducible refine (C2.out _).mono ?_); rintro e w1 ⟨rfl, rfl⟩; unfold BoxB)) | (go_at_call 21; ((with_reducible refine (C3.out _).mono ?_); rintro e w1 ⟨rfl, rfl⟩; unfold BoxB)))
                    rw [rounds_succ]
                    go_wp2_with (first | (go_at_call 21; ((with_reducible refine (C1.out _).mono ?_); rintro e w1 ⟨rfl, rfl⟩; unfold BoxB)) | (go_at_call 21; ((with_reducible refine (C2.out _).mono ?_); rintro e w1 ⟨rfl, rfl⟩; unfold BoxB)) | (go_at_call 21; ((with_reducible refine (C3.out _).mono ?_); rintro e w1 ⟨rfl, rfl⟩; unfold BoxB)))
                    go_ret
                    exact ⟨ret_bool HV.out.symm, (by repeat (first | with_reducible exact Below.refl _ _ | (with_reducible refine Below.setCell ?_ ?_ _; rotate_left 1; focus (first | (simp; done) | (simp; omega))) | (with_reducible refine Below.alloc ?_ ?_ _; rotate_left 1; focus (first | (simp; done) | (simp; omega)))))⟩
                · have HV := Lib.hid (right_no (d := ⟨st, lim, mis, last, pc, pv, po, mc, mv, mo, hc, hv, ho, act, kn, sq⟩) fun h => h8 h.2.2.2.2.2.2.2.1)
                  have g8 : sq < 0 := by omega
                  clear h1 h2 h3 h4 h5 h8
                  go_enter Try.func9, Try.ntmps9
                  go_wp2
                  refine wp_loop_rounds 5 ?_
                  rw [rounds_succ]
                  go_wp2_with (first | (go_at_call 21; ((with_reducible refine (C1.out _).mono ?_); rintro e w1 ⟨rfl, rfl⟩; unfold BoxB)) | (go_at_call 21; ((with_reducible refine (C2.out _).mono ?_); rintro e w1 ⟨rfl, rfl⟩; unfold BoxB)) | (go_at_call 21; ((with_reducible refine (C3.out _).mono ?_); rintro e w1 ⟨rfl, rfl⟩; unfold BoxB)))
                  rw [rounds_succ]
                  go_wp2_with (first | (go_at_call 21; ((with_reducible refine (C1.out _).mono ?_); rintro e w1 ⟨rfl, rfl⟩; unfold BoxB)) | (go_at_call 21; ((with_reducible refine (C2.out _).mono ?_); rintro e w1 ⟨rfl, rfl⟩; unfold BoxB)) | (go_at_call 21; ((with_reducible refine (C3.out _).mono ?_); rintro e w1 ⟨rfl, rfl⟩; unfold BoxB)))
                  rw [rounds_succ]
                  go_wp2_with (first | (go_at_call 21; ((with_reducible refine (C1.out _).mono ?_); rintro e w1 ⟨rfl, rfl⟩; unfold BoxB)) | (go_at_call 21; ((with_reducible refine (C2.out _).mono ?_); rintro e w1 ⟨rfl, rfl⟩; unfold BoxB)) | (go_at_call 21; ((with_reducible refine (C3.out _).mono ?_); rintro e w1 ⟨rfl, rfl⟩; unfold BoxB)))
                  rw [rounds_succ]
                  go_wp2_with (first | (go_at_call 21; ((with_reducible refine (C1.out _).mono ?_); rintro e w1 ⟨rfl, rfl⟩; unfold BoxB)) | (go_at_call 21; ((with_reducible refine (C2.out _).mono ?_); rintro e w1 ⟨rfl, rfl⟩; unfold BoxB)) | (go_at_call 21; ((with_reducible refine (C3.out _).mono ?_); rintro e w1 ⟨rfl, rfl⟩; unfold BoxB)))
                  go_ret
                  exact ⟨ret_bool HV.out.symm, (by repeat (first | with_reducible exact Below.refl _ _ | (with_reducible refine Below.setCell ?_ ?_ _; rotate_left 1; focus (first | (simp; done) | (simp; omega))) | (with_reducible refine Below.alloc ?_ ?_ _; rotate_left 1; focus (first | (simp; done) | (simp; omega)))))⟩
              · have HV := Lib.hid (right_no (d := ⟨st, lim, mis, last, pc, pv, po, mc, mv, mo, hc, hv, ho, act, kn, sq⟩) fun h => h7 h.2.2.2.2.2.2.1)
                have g7 : 4 < st := by omega
                clear h1 h2 h3 h4 h5 h7
                go_enter Try.func9, Try.ntmps9
                go_wp2
                refine wp_loop_rounds 5 ?_
                rw [rounds_succ]
                go_wp2_with (first | (go_at_call 21; ((with_reducible refine (C1.out _).mono ?_); rintro e w1 ⟨rfl, rfl⟩; unfold BoxB)) | (go_at_call 21; ((with_reducible refine (C2.out _).mono ?_); rintro e w1 ⟨rfl, rfl⟩; unfold BoxB)) | (go_at_call 21; ((with_reducible refine (C3.out _).mono ?_); rintro e w1 ⟨rfl, rfl⟩; unfold BoxB)))
                rw [rounds_succ]
                go_wp2_with (first | (go_at_call 21; ((with_reducible refine (C1.out _).mono ?_); rintro e w1 ⟨rfl, rfl⟩; unfold BoxB)) | (go_at_call 21; ((with_reducible refine (C2.out _).mono ?_); rintro e w1 ⟨rfl, rfl⟩; unfold BoxB)) | (go_at_call 21; ((with_reducible refine (C3.out _).mono ?_); rintro e w1 ⟨rfl, rfl⟩; unfold BoxB)))
                rw [rounds_succ]
                go_wp2_with (first | (go_at_call 21; ((with_reducible refine (C1.out _).mono ?_); rintro e w1 ⟨rfl, rfl⟩; unfold BoxB)) | (go_at_call 21; ((with_reducible refine (C2.out _).mono ?_); rintro e w1 ⟨rfl, rfl⟩; unfold BoxB)) | (go_at_call 21; ((with_reducible refine (C3.out _).mono ?_); rintro e w1 ⟨rfl, rfl⟩; unfold BoxB)))
                rw [rounds_succ]
                go_wp2_with (first | (go_at_call 21; ((with_reducible refine (C1.out _).mono ?_); rintro e w1 ⟨rfl, rfl⟩; unfold BoxB)) | (go_at_call 21; ((with_reducible refine (C2.out _).mono ?_); rintro e w1 ⟨rfl, rfl⟩; unfold BoxB)) | (go_at_call 21; ((with_reducible refine (C3.out _).mono ?_); rintro e w1 ⟨rfl, rfl⟩; unfold BoxB)))
                go_ret
                exact ⟨ret_bool HV.out.symm, (by repeat (first | with_reducible exact Below.refl _ _ | (with_reducible refine Below.setCell ?_ ?_ _; rotate_left 1; focus (first | (simp; done) | (simp; omega))) | (with_reducible refine Below.alloc ?_ ?_ _; rotate_left 1; focus (first | (simp; done) | (simp; omega)))))⟩
            · have HV := Lib.hid (right_no (d := ⟨st, lim, mis, last, pc, pv, po, mc, mv, mo, hc, hv, ho, act, kn, sq⟩) fun h => h6 h.2.2.2.2.2.1)
              have g6 : st < 0 := by omega
              clear h1 h2 h3 h4 h5 h6
              go_enter Try.func9, Try.ntmps9
              go_wp2
              refine wp_loop_rounds 5 ?_
              rw [rounds_succ]
              go_wp2_with (first | (go_at_call 21; ((with_reducible refine (C1.out _).mono ?_); rintro e w1 ⟨rfl, rfl⟩; unfold BoxB)) | (go_at_call 21; ((with_reducible refine (C2.out _).mono ?_); rintro e w1 ⟨rfl, rfl⟩; unfold BoxB)) | (go_at_call 21; ((with_reducible refine (C3.out _).mono ?_); rintro e w1 ⟨rfl, rfl⟩; unfold BoxB)))
              rw [rounds_succ]
              go_wp2_with (first | (go_at_call 21; ((with_reducible refine (C1.out _).mono ?_); rintro e w1 ⟨rfl, rfl⟩; unfold BoxB)) | (go_at_call 21; ((with_reducible refine (C2.out _).mono ?_); rintro e w1 ⟨rfl, rfl⟩; unfold BoxB)) | (go_at_call 21; ((with_reducible refine (C3.out _).mono ?_); rintro e w1 ⟨rfl, rfl⟩; unfold BoxB)))
              rw [rounds_succ]
              go_wp2_with (first | (go_at_call 21; ((with_reducible refine (C1.out _).mono ?_); rintro e w1 ⟨rfl, rfl⟩; unfold BoxB)) | (go_at_call 21; ((with_reducible refine (C2.out _).mono ?_); rintro e w1 ⟨rfl, rfl⟩; unfold BoxB)) | (go_at_call 21; ((with_reducible refine (C3.out _).mono ?_); rintro e w1 ⟨rfl, rfl⟩; unfold BoxB)))
              rw [rounds_succ]
              go_wp2_with (first | (go_at_call 21; ((with_reducible refine (C1.out _).mono ?_); rintro e w1 ⟨rfl, rfl⟩; unfold BoxB)) | (go_at_call 21; ((with_reducible refine (C2.out _).mono ?_); rintro e w1 ⟨rfl, rfl⟩; unfold BoxB)) | (go_at_call 21; ((with_reducible refine (C3.out _).mono ?_); rintro e w1 ⟨rfl, rfl⟩; unfold BoxB)))
              go_ret
              exact ⟨ret_bool HV.out.symm, (by repeat (first | with_reducible exact Below.refl _ _ | (with_reducible refine Below.setCell ?_ ?_ _; rotate_left 1; focus (first | (simp; done) | (simp; omega))) | (with_reducible refine Below.alloc ?_ ?_ _; rotate_left 1; focus (first | (simp; done) | (simp; omega)))))⟩
          · have hq5 : (hc != pc) = true := by rw [bne_iff_ne]; exact h5
            have HV := Lib.hid (right_no (d := ⟨st, lim, mis, last, pc, pv, po, mc, mv, mo, hc, hv, ho, act, kn, sq⟩) fun h => h5 h.2.2.2.2.1)
            clear h1 h2 h3 h4 h5
            go_enter Try.func9, Try.ntmps9
            go_wp2
            refine wp_loop_rounds 5 ?_
            rw [rounds_succ]
            go_wp2_with (first | (go_at_call 21; ((with_reducible refine (C1.out _).mono ?_); rintro e w1 ⟨rfl, rfl⟩; unfold BoxB)) | (go_at_call 21; ((with_reducible refine (C2.out _).mono ?_); rintro e w1 ⟨rfl, rfl⟩; unfold BoxB)) | (go_at_call 21; ((with_reducible refine (C3.out _).mono ?_); rintro e w1 ⟨rfl, rfl⟩; unfold BoxB)))
            rw [rounds_succ]
            go_wp2_with (first | (go_at_call 21; ((with_reducible refine (C1.out _).mono ?_); rintro e w1 ⟨rfl, rfl⟩; unfold BoxB)) | (go_at_call 21; ((with_reducible refine (C2.out _).mono ?_); rintro e w1 ⟨rfl, rfl⟩; unfold BoxB)) | (go_at_call 21; ((with_reducible refine (C3.out _).mono ?_); rintro e w1 ⟨rfl, rfl⟩; unfold BoxB)))
            rw [rounds_succ]
            go_wp2_with (first | (go_at_call 21; ((with_reducible refine (C1.out _).mono ?_); rintro e w1 ⟨rfl, rfl⟩; unfold BoxB)) | (go_at_call 21; ((with_reducible refine (C2.out _).mono ?_); rintro e w1 ⟨rfl, rfl⟩; unfold BoxB)) | (go_at_call 21; ((with_reducible refine (C3.out _).mono ?_); rintro e w1 ⟨rfl, rfl⟩; unfold BoxB)))
            go_ret
            exact ⟨ret_bool HV.out.symm, (by repeat (first | with_reducible exact Below.refl _ _ | (with_reducible refine Below.setCell ?_ ?_ _; rotate_left 1; focus (first | (simp; done) | (simp; omega))) | (with_reducible refine Below.alloc ?_ ?_ _; rotate_left 1; focus (first | (simp; done) | (simp; omega)))))⟩
        · have C3 := Lib.hid fun W => settled_is (x := hv) b3 (v.right_no h4) W
          have HV := Lib.hid (right_no (d := ⟨st, lim, mis, last, pc, pv, po, mc, mv, mo, hc, hv, ho, act, kn, sq⟩) fun h => h4 h.2.2.2.1)
          clear h1 h2 h3 h4
          go_enter Try.func9, Try.ntmps9
          go_wp2
          refine wp_loop_rounds 5 ?_
          rw [rounds_succ]
          go_wp2_with (first | (go_at_call 21; ((with_reducible refine (C1.out _).mono ?_); rintro e w1 ⟨rfl, rfl⟩; unfold BoxB)) | (go_at_call 21; ((with_reducible refine (C2.out _).mono ?_); rintro e w1 ⟨rfl, rfl⟩; unfold BoxB)) | (go_at_call 21; ((with_reducible refine (C3.out _).mono ?_); rintro e w1 ⟨rfl, rfl⟩; unfold BoxB)))
          rw [rounds_succ]
          go_wp2_with (first | (go_at_call 21; ((with_reducible refine (C1.out _).mono ?_); rintro e w1 ⟨rfl, rfl⟩; unfold BoxB)) | (go_at_call 21; ((with_reducible refine (C2.out _).mono ?_); rintro e w1 ⟨rfl, rfl⟩; unfold BoxB)) | (go_at_call 21; ((with_reducible refine (C3.out _).mono ?_); rintro e w1 ⟨rfl, rfl⟩; unfold BoxB)))
          rw [rounds_succ]
          go_wp2_with (first | (go_at_call 21; ((with_reducible refine (C1.out _).mono ?_); rintro e w1 ⟨rfl, rfl⟩; unfold BoxB)) | (go_at_call 21; ((with_reducible refine (C2.out _).mono ?_); rintro e w1 ⟨rfl, rfl⟩; unfold BoxB)) | (go_at_call 21; ((with_reducible refine (C3.out _).mono ?_); rintro e w1 ⟨rfl, rfl⟩; unfold BoxB)))
          go_ret
          exact ⟨ret_bool HV.out.symm, (by repeat (first | with_reducible exact Below.refl _ _ | (with_reducible refine Below.setCell ?_ ?_ _; rotate_left 1; focus (first | (simp; done) | (simp; omega))) | (with_reducible refine Below.alloc ?_ ?_ _; rotate_left 1; focus (first | (simp; done) | (simp; omega)))))⟩
      · have hq3 : (mc != pc) = true := by rw [bne_iff_ne]; exact h3
        have HV := Lib.hid (right_no (d := ⟨st, lim, mis, last, pc, pv, po, mc, mv, mo, hc, hv, ho, act, kn, sq⟩) fun h => h3 h.2.2.1)
        clear h1 h2 h3
        go_enter Try.func9, Try.ntmps9
        go_wp2
        refine wp_loop_rounds 5 ?_
        rw [rounds_succ]
        go_wp2_with (first | (go_at_call 21; ((with_reducible refine (C1.out _).mono ?_); rintro e w1 ⟨rfl, rfl⟩; unfold BoxB)) | (go_at_call 21; ((with_reducible refine (C2.out _).mono ?_); rintro e w1 ⟨rfl, rfl⟩; unfold BoxB)))
        rw [rounds_succ]
        go_wp2_with (first | (go_at_call 21; ((with_reducible refine (C1.out _).mono ?_); rintro e w1 ⟨rfl, rfl⟩; unfold BoxB)) | (go_at_call 21; ((with_reducible refine (C2.out _).mono ?_); rintro e w1 ⟨rfl, rfl⟩; unfold BoxB)))
        go_ret
        exact ⟨ret_bool HV.out.symm, (by repeat (first | with_reducible exact Below.refl _ _ | (with_reducible refine Below.setCell ?_ ?_ _; rotate_left 1; focus (first | (simp; done) | (simp; omega))) | (with_reducible refine Below.alloc ?_ ?_ _; rotate_left 1; focus (first | (simp; done) | (simp; omega)))))⟩
    · have C2 := Lib.hid fun W => settled_is (x := mv) b2 (v.right_no h2) W
      have HV := Lib.hid (right_no (d := ⟨st, lim, mis, last, pc, pv, po, mc, mv, mo, hc, hv, ho, act, kn, sq⟩) fun h => h2 h.2.1)
      clear h1 h2
      go_enter Try.func9, Try.ntmps9
      go_wp2
      refine wp_loop_rounds 5 ?_
      rw [rounds_succ]
      go_wp2_with (first | (go_at_call 21; ((with_reducible refine (C1.out _).mono ?_); rintro e w1 ⟨rfl, rfl⟩; unfold BoxB)) | (go_at_call 21; ((with_reducible refine (C2.out _).mono ?_); rintro e w1 ⟨rfl, rfl⟩; unfold BoxB)))
      rw [rounds_succ]
      go_wp2_with (first | (go_at_call 21; ((with_reducible refine (C1.out _).mono ?_); rintro e w1 ⟨rfl, rfl⟩; unfold BoxB)) | (go_at_call 21; ((with_reducible refine (C2.out _).mono ?_); rintro e w1 ⟨rfl, rfl⟩; unfold BoxB)))
      go_ret
      exact ⟨ret_bool HV.out.symm, (by repeat (first | with_reducible exact Below.refl _ _ | (with_reducible refine Below.setCell ?_ ?_ _; rotate_left 1; focus (first | (simp; done) | (simp; omega))) | (with_reducible refine Below.alloc ?_ ?_ _; rotate_left 1; focus (first | (simp; done) | (simp; omega)))))⟩
  · have C1 := Lib.hid fun W => settled_is (x := pv) b1 (v.right_no h1) W
    have HV := Lib.hid (right_no (d := ⟨st, lim, mis, last, pc, pv, po, mc, mv, mo, hc, hv, ho, act, kn, sq⟩) fun h => h1 h.1)
    clear h1
    go_enter Try.func9, Try.ntmps9
    go_wp2
    refine wp_loop_rounds 5 ?_
    rw [rounds_succ]
    go_wp2_with (go_at_call 21; ((with_reducible refine (C1.out _).mono ?_); rintro e w1 ⟨rfl, rfl⟩; unfold BoxB))
    go_ret
    exact ⟨ret_bool HV.out.symm, (by repeat (first | with_reducible exact Below.refl _ _ | (with_reducible refine Below.setCell ?_ ?_ _; rotate_left 1; focus (first | (simp; done) | (simp; omega))) | (with_reducible refine Below.alloc ?_ ?_ _; rotate_left 1; focus (first | (simp; done) | (simp; omega)))))⟩
end Go.Proofs.Ytdfgjfojneoljaa.j
