/- What layer drive's New, Right and Lost answer, of any numbers and any drive; what was in memory is as it was. No condition but the kinds' own bounds. -/
import Derived.Test.YtdfgjfojneoljaaJMath
import Derived.Test.YtdfgjfojneoljaaUWatch
import Derived.Test.YtdfgjfojneoljaaVBounce
import Derived.Test.YtdfgjfojneoljaaKStore
namespace Go.Proofs.Ytdfgjfojneoljaa.j
open Go.ChangeShapes Go.WideShapes Go.ChangeAt Go.RowKit Go.Proofs.Ytdfgjfojneoljaa.s Go.Proofs.Ytdfgjfojneoljaa.t
set_option linter.unusedVariables false

theorem within_is {n lo hi : Int} {b : Bool} (h : u.inB n lo hi = b) (w : World) :
    Calls Try.prog 23 #[.int .i64 n, .int .i64 lo, .int .i64 hi] w fun e w' => e = .returned (.bool b) ∧ w = w' := by
  by_cases h1 : lo ≤ n
  · by_cases h2 : n ≤ hi
    · have HV := Lib.hid (h.symm.trans (u.inB_yes (n := n) (lo := lo) (hi := hi) ⟨h1, h2⟩))
      clear h
      go_enter Try.func23, Try.ntmps23
      go_wp2
      go_ret
      exact ⟨by rw [HV.out]; rfl, rfl⟩
    · have HV := Lib.hid (h.symm.trans (u.inB_no (n := n) (lo := lo) (hi := hi) (fun h => h2 h.2)))
      clear h
      go_enter Try.func23, Try.ntmps23
      go_wp2
      go_ret
      exact ⟨by rw [HV.out]; rfl, rfl⟩
  · have HV := Lib.hid (h.symm.trans (u.inB_no (n := n) (lo := lo) (hi := hi) (fun h => h1 h.1)))
    clear h
    go_enter Try.func23, Try.ntmps23
    go_wp2
    go_ret
    exact ⟨by rw [HV.out]; rfl, rfl⟩
def BoxS (w : World) (c : Int) (v : Bool) (o : Int) : World := w.alloc (.cells #[.int .i64 c, .bool v, .int .i64 o] 25)
theorem bounce_is {c : Int} {x : Bool} {o : Int} {b : Bool} (h : v.rightB c o = b) (w : World) :
    Calls Try.prog 38 #[.agg #[.int .i64 c, .bool x, .int .i64 o]] w fun e w' => e = .returned (.bool b) ∧ BoxS w c x o = w' := by
  by_cases h1 : 1 ≤ c
  · by_cases h2 : c ≤ 20
    · by_cases h3 : 0 ≤ o
      · by_cases h4 : o ≤ c - 1
        · have HD : decide (o ≤ c - 1) = true := decide_eq_true h4
          have HV := Lib.hid (h.symm.trans (v.right_yes (c := c) (o := o) ⟨h1, h2, h3, h4⟩))
          clear h
          go_enter Try.func38, Try.ntmps38
          go_wp2
          go_ret
          exact ⟨by rw [HV.out]; rfl, rfl⟩
        · have HD : decide (o ≤ c - 1) = false := decide_eq_false h4
          have HV := Lib.hid (h.symm.trans (v.right_no (c := c) (o := o) fun h => h4 h.2.2.2))
          clear h
          go_enter Try.func38, Try.ntmps38
          go_wp2
          go_ret
          exact ⟨by rw [HV.out]; rfl, rfl⟩
      · have HV := Lib.hid (h.symm.trans (v.right_no (c := c) (o := o) fun h => h3 h.2.2.1))
        clear h
        go_enter Try.func38, Try.ntmps38
        go_wp2
        go_ret
        exact ⟨by rw [HV.out]; rfl, rfl⟩
    · have HV := Lib.hid (h.symm.trans (v.right_no (c := c) (o := o) fun h => h2 h.2.1))
      clear h
      go_enter Try.func38, Try.ntmps38
      go_wp2
      go_ret
      exact ⟨by rw [HV.out]; rfl, rfl⟩
  · have HV := Lib.hid (h.symm.trans (v.right_no (c := c) (o := o) fun h => h1 h.1))
    clear h
    go_enter Try.func38, Try.ntmps38
    go_wp2
    go_ret
    exact ⟨by rw [HV.out]; rfl, rfl⟩
def SwD (d : D) : Prop := v.RightB d.pc d.po ∧ v.RightB d.mc d.mo ∧ v.RightB d.hc d.ho ∧ d.mc = d.pc ∧ d.hc = d.pc
instance (d : D) : Decidable (SwD d) := by unfold SwD; infer_instance
def swD (d : D) : Bool := decide (SwD d)
theorem sw_yes {d : D} (h : SwD d) : swD d = true := decide_eq_true h
theorem sw_no {d : D} (h : ¬ SwD d) : swD d = false := decide_eq_false h
theorem ret_bool' {a b : Bool} (h : a = b) : Ending.returned (.bool a) = .returned (.bool b) := by rw [h]
set_option maxHeartbeats 4000000 in
theorem switches_any (d : D) (w : World) :
    Calls Try.prog 25 #[dV d] w fun e w' => e = .returned (.bool (swD d)) ∧ Below w.heap.size w w' := by
  obtain ⟨st, lim, mis, last, pc, pv, po, mc, mv, mo, hc, hv, ho, act, kn, sq⟩ := d
  unfold dV
  dsimp only
  by_cases h1 : v.RightB pc po
  · have C1 := Lib.hid fun W => bounce_is (x := pv) (v.right_yes h1) W
    by_cases h2 : v.RightB mc mo
    · have C2 := Lib.hid fun W => bounce_is (x := mv) (v.right_yes h2) W
      by_cases h3 : v.RightB hc ho
      · have C3 := Lib.hid fun W => bounce_is (x := hv) (v.right_yes h3) W
        by_cases h4 : mc = pc
        · have q4 : (mc == pc) = true := by rw [h4]; simp
          by_cases h5 : hc = pc
          · have q5 : (hc == pc) = true := by rw [h5]; simp
            have HV := Lib.hid (sw_yes (d := ⟨st, lim, mis, last, pc, pv, po, mc, mv, mo, hc, hv, ho, act, kn, sq⟩) ⟨h1, h2, h3, h4, h5⟩)
            clear h1 h2 h3 h4 h5
            go_enter Try.func25, Try.ntmps25
            go_wp2_with (first | (go_at_call 38; ((with_reducible refine (C1.out _).mono ?_); rintro e w1 ⟨rfl, rfl⟩; unfold BoxS)) | (go_at_call 38; ((with_reducible refine (C2.out _).mono ?_); rintro e w1 ⟨rfl, rfl⟩; unfold BoxS)) | (go_at_call 38; ((with_reducible refine (C3.out _).mono ?_); rintro e w1 ⟨rfl, rfl⟩; unfold BoxS)))
            go_ret
            exact ⟨ret_bool' HV.out.symm, (by repeat (first | with_reducible exact Below.refl _ _ | (with_reducible refine Below.alloc ?_ ?_ _; rotate_left 1; focus (first | (simp; done) | (simp; omega)))))⟩
          · have q5 : (hc == pc) = false := by rw [beq_eq_false_iff_ne]; exact h5
            have HV := Lib.hid (sw_no (d := ⟨st, lim, mis, last, pc, pv, po, mc, mv, mo, hc, hv, ho, act, kn, sq⟩) fun h => h5 h.2.2.2.2)
            clear h1 h2 h3 h4 h5
            go_enter Try.func25, Try.ntmps25
            go_wp2_with (first | (go_at_call 38; ((with_reducible refine (C1.out _).mono ?_); rintro e w1 ⟨rfl, rfl⟩; unfold BoxS)) | (go_at_call 38; ((with_reducible refine (C2.out _).mono ?_); rintro e w1 ⟨rfl, rfl⟩; unfold BoxS)) | (go_at_call 38; ((with_reducible refine (C3.out _).mono ?_); rintro e w1 ⟨rfl, rfl⟩; unfold BoxS)))
            go_ret
            exact ⟨ret_bool' HV.out.symm, (by repeat (first | with_reducible exact Below.refl _ _ | (with_reducible refine Below.alloc ?_ ?_ _; rotate_left 1; focus (first | (simp; done) | (simp; omega)))))⟩
        · have q4 : (mc == pc) = false := by rw [beq_eq_false_iff_ne]; exact h4
          have HV := Lib.hid (sw_no (d := ⟨st, lim, mis, last, pc, pv, po, mc, mv, mo, hc, hv, ho, act, kn, sq⟩) fun h => h4 h.2.2.2.1)
          clear h1 h2 h3 h4
          go_enter Try.func25, Try.ntmps25
          go_wp2_with (first | (go_at_call 38; ((with_reducible refine (C1.out _).mono ?_); rintro e w1 ⟨rfl, rfl⟩; unfold BoxS)) | (go_at_call 38; ((with_reducible refine (C2.out _).mono ?_); rintro e w1 ⟨rfl, rfl⟩; unfold BoxS)) | (go_at_call 38; ((with_reducible refine (C3.out _).mono ?_); rintro e w1 ⟨rfl, rfl⟩; unfold BoxS)))
          go_ret
          exact ⟨ret_bool' HV.out.symm, (by repeat (first | with_reducible exact Below.refl _ _ | (with_reducible refine Below.alloc ?_ ?_ _; rotate_left 1; focus (first | (simp; done) | (simp; omega)))))⟩
      · have C3 := Lib.hid fun W => bounce_is (x := hv) (v.right_no h3) W
        have HV := Lib.hid (sw_no (d := ⟨st, lim, mis, last, pc, pv, po, mc, mv, mo, hc, hv, ho, act, kn, sq⟩) fun h => h3 h.2.2.1)
        clear h1 h2 h3
        go_enter Try.func25, Try.ntmps25
        go_wp2_with (first | (go_at_call 38; ((with_reducible refine (C1.out _).mono ?_); rintro e w1 ⟨rfl, rfl⟩; unfold BoxS)) | (go_at_call 38; ((with_reducible refine (C2.out _).mono ?_); rintro e w1 ⟨rfl, rfl⟩; unfold BoxS)) | (go_at_call 38; ((with_reducible refine (C3.out _).mono ?_); rintro e w1 ⟨rfl, rfl⟩; unfold BoxS)))
        go_ret
        exact ⟨ret_bool' HV.out.symm, (by repeat (first | with_reducible exact Below.refl _ _ | (with_reducible refine Below.alloc ?_ ?_ _; rotate_left 1; focus (first | (simp; done) | (simp; omega)))))⟩
    · have C2 := Lib.hid fun W => bounce_is (x := mv) (v.right_no h2) W
      have HV := Lib.hid (sw_no (d := ⟨st, lim, mis, last, pc, pv, po, mc, mv, mo, hc, hv, ho, act, kn, sq⟩) fun h => h2 h.2.1)
      clear h1 h2
      go_enter Try.func25, Try.ntmps25
      go_wp2_with (first | (go_at_call 38; ((with_reducible refine (C1.out _).mono ?_); rintro e w1 ⟨rfl, rfl⟩; unfold BoxS)) | (go_at_call 38; ((with_reducible refine (C2.out _).mono ?_); rintro e w1 ⟨rfl, rfl⟩; unfold BoxS)))
      go_ret
      exact ⟨ret_bool' HV.out.symm, (by repeat (first | with_reducible exact Below.refl _ _ | (with_reducible refine Below.alloc ?_ ?_ _; rotate_left 1; focus (first | (simp; done) | (simp; omega)))))⟩
  · have C1 := Lib.hid fun W => bounce_is (x := pv) (v.right_no h1) W
    have HV := Lib.hid (sw_no (d := ⟨st, lim, mis, last, pc, pv, po, mc, mv, mo, hc, hv, ho, act, kn, sq⟩) fun h => h1 h.1)
    clear h1
    go_enter Try.func25, Try.ntmps25
    go_wp2_with (go_at_call 38; ((with_reducible refine (C1.out _).mono ?_); rintro e w1 ⟨rfl, rfl⟩; unfold BoxS))
    go_ret
    exact ⟨ret_bool' HV.out.symm, (by repeat (first | with_reducible exact Below.refl _ _ | (with_reducible refine Below.alloc ?_ ?_ _; rotate_left 1; focus (first | (simp; done) | (simp; omega)))))⟩
theorem inB_of {n lo hi : Int} (h1 : lo ≤ n) (h2 : n ≤ hi) : u.inB n lo hi = true := u.inB_yes ⟨h1, h2⟩
set_option maxHeartbeats 4000000 in
theorem right_any (d : D) (hw : WideD d) (w : World) :
    Calls Try.prog 10 #[dV d] w fun e w' => e = .returned (.bool (rightD d)) ∧ Below w.heap.size w w' := by
  have CS := Lib.hid fun W => switches_any d W
  obtain ⟨st, lim, mis, last, pc, pv, po, mc, mv, mo, hc, hv, ho, act, kn, sq⟩ := d
  clear hw
  unfold dV at CS ⊢
  dsimp only at CS ⊢
  by_cases h1 : 0 ≤ st ∧ st ≤ 4
  · have C1 := Lib.hid fun W => within_is (u.inB_yes h1) W
    by_cases h2 : u.RightW lim mis last
    · have CW := Lib.hid fun W => u.right_is (u.right_yes h2) W
      have M : Hid (k.Box ((w.alloc (.cells #[.int .i64 st, .int .i64 lim, .int .i64 mis, .int .i64 last, .int .i64 pc, .bool pv, .int .i64 po, .int .i64 mc, .bool mv, .int .i64 mo, .int .i64 hc, .bool hv, .int .i64 ho, .int .i64 act, .bool kn, .int .i64 sq] 27)).alloc (.cells #[.int .i64 lim, .int .i64 mis, .int .i64 last] 23)) w.heap.size 0 [.int .i64 st, .int .i64 lim, .int .i64 mis, .int .i64 last, .int .i64 pc, .bool pv, .int .i64 po, .int .i64 mc, .bool mv, .int .i64 mo, .int .i64 hc, .bool hv, .int .i64 ho, .int .i64 act, .bool kn, .int .i64 sq]) := Lib.hid (k.boxes2 (Below.refl _ _)).1
      by_cases h3 : SwD ⟨st, lim, mis, last, pc, pv, po, mc, mv, mo, hc, hv, ho, act, kn, sq⟩
      · rw [sw_yes h3] at CS
        by_cases h4 : 0 ≤ sq ∧ sq ≤ 255
        · have C4 := Lib.hid fun W => within_is (u.inB_yes h4) W
          cases kn
          · by_cases h5 : act = 0
            · have q5 : (act == 0) = true := by rw [h5]; rfl
              have HV := Lib.hid (right_yes (d := ⟨st, lim, mis, last, pc, pv, po, mc, mv, mo, hc, hv, ho, act, false, sq⟩) ⟨h3.1, h3.2.1, h3.2.2.2.1, h3.2.2.1, h3.2.2.2.2, h1.1, h1.2, h4.1, h4.2, h2, .inr h5⟩)
              clear h1 h2 h3 h4 h5
              go_enter Try.func10, Try.ntmps10
              go_wp2_with (first | (go_at_call 23; ((with_reducible refine (C1.out _).mono ?_); rintro e w1 ⟨rfl, rfl⟩)) | (go_at_call 24; ((with_reducible refine (CW.out _).mono ?_); rintro e w1 ⟨rfl, rfl⟩; unfold u.BoxW)) | ((with_reducible refine k.load_wanted ?gwN1 27 (.tmp 1) ?goN1 w.heap.size 0 ?gxN1 [.int .i64 st, .int .i64 lim, .int .i64 mis, .int .i64 last, .int .i64 pc, .bool pv, .int .i64 po, .int .i64 mc, .bool mv, .int .i64 mo, .int .i64 hc, .bool hv, .int .i64 ho, .int .i64 act, .bool false, .int .i64 sq] ?gqN1 M.out.range ?guN1 ?gdN1 ?giN1 ?ghN1); (case goN1 => rfl); (case gwN1 => rfl); (case gxN1 => rfl); (case guN1 => rfl); (case gdN1 => rfl); (case giN1 => kernel_rfl)) | (go_at_call 25; ((with_reducible refine (CS.out _).mono ?_); rintro e w1 ⟨rfl, hb⟩; obtain ⟨x1, x2, x3, x4⟩ := k.boxes2 hb; have ⟨bc13, bf13⟩ := k.cell_of x1 (i := 13) rfl; have ⟨bc14, bf14⟩ := k.cell_of x1 (i := 14) rfl; have ⟨bc15, bf15⟩ := k.cell_of x1 (i := 15) rfl; have X3 := Lib.hid x3; clear x1 x2 x3 hb)) | (go_at_call 23; ((with_reducible refine (C4.out _).mono ?_); rintro e w1 ⟨rfl, rfl⟩)))
              go_ret
              exact ⟨ret_bool' HV.out.symm, X3.out⟩
            · have q5 : (act == 0) = false := by rw [beq_eq_false_iff_ne]; exact h5
              have HV := Lib.hid (right_no (d := ⟨st, lim, mis, last, pc, pv, po, mc, mv, mo, hc, hv, ho, act, false, sq⟩) fun h => by rcases h.2.2.2.2.2.2.2.2.2.2 with h | h; exact absurd h (by simp); exact h5 h)
              clear h1 h2 h3 h4 h5
              go_enter Try.func10, Try.ntmps10
              go_wp2_with (first | (go_at_call 23; ((with_reducible refine (C1.out _).mono ?_); rintro e w1 ⟨rfl, rfl⟩)) | (go_at_call 24; ((with_reducible refine (CW.out _).mono ?_); rintro e w1 ⟨rfl, rfl⟩; unfold u.BoxW)) | ((with_reducible refine k.load_wanted ?gwN2 27 (.tmp 1) ?goN2 w.heap.size 0 ?gxN2 [.int .i64 st, .int .i64 lim, .int .i64 mis, .int .i64 last, .int .i64 pc, .bool pv, .int .i64 po, .int .i64 mc, .bool mv, .int .i64 mo, .int .i64 hc, .bool hv, .int .i64 ho, .int .i64 act, .bool false, .int .i64 sq] ?gqN2 M.out.range ?guN2 ?gdN2 ?giN2 ?ghN2); (case goN2 => rfl); (case gwN2 => rfl); (case gxN2 => rfl); (case guN2 => rfl); (case gdN2 => rfl); (case giN2 => kernel_rfl)) | (go_at_call 25; ((with_reducible refine (CS.out _).mono ?_); rintro e w1 ⟨rfl, hb⟩; obtain ⟨x1, x2, x3, x4⟩ := k.boxes2 hb; have ⟨bc13, bf13⟩ := k.cell_of x1 (i := 13) rfl; have ⟨bc14, bf14⟩ := k.cell_of x1 (i := 14) rfl; have ⟨bc15, bf15⟩ := k.cell_of x1 (i := 15) rfl; have X3 := Lib.hid x3; clear x1 x2 x3 hb)) | (go_at_call 23; ((with_reducible refine (C4.out _).mono ?_); rintro e w1 ⟨rfl, rfl⟩)))
              go_ret
              exact ⟨ret_bool' HV.out.symm, X3.out⟩
          · have HV := Lib.hid (right_yes (d := ⟨st, lim, mis, last, pc, pv, po, mc, mv, mo, hc, hv, ho, act, true, sq⟩) ⟨h3.1, h3.2.1, h3.2.2.2.1, h3.2.2.1, h3.2.2.2.2, h1.1, h1.2, h4.1, h4.2, h2, .inl rfl⟩)
            clear h1 h2 h3 h4
            go_enter Try.func10, Try.ntmps10
            go_wp2_with (first | (go_at_call 23; ((with_reducible refine (C1.out _).mono ?_); rintro e w1 ⟨rfl, rfl⟩)) | (go_at_call 24; ((with_reducible refine (CW.out _).mono ?_); rintro e w1 ⟨rfl, rfl⟩; unfold u.BoxW)) | ((with_reducible refine k.load_wanted ?gwN3 27 (.tmp 1) ?goN3 w.heap.size 0 ?gxN3 [.int .i64 st, .int .i64 lim, .int .i64 mis, .int .i64 last, .int .i64 pc, .bool pv, .int .i64 po, .int .i64 mc, .bool mv, .int .i64 mo, .int .i64 hc, .bool hv, .int .i64 ho, .int .i64 act, .bool true, .int .i64 sq] ?gqN3 M.out.range ?guN3 ?gdN3 ?giN3 ?ghN3); (case goN3 => rfl); (case gwN3 => rfl); (case gxN3 => rfl); (case guN3 => rfl); (case gdN3 => rfl); (case giN3 => kernel_rfl)) | (go_at_call 25; ((with_reducible refine (CS.out _).mono ?_); rintro e w1 ⟨rfl, hb⟩; obtain ⟨x1, x2, x3, x4⟩ := k.boxes2 hb; have ⟨bc13, bf13⟩ := k.cell_of x1 (i := 13) rfl; have ⟨bc14, bf14⟩ := k.cell_of x1 (i := 14) rfl; have ⟨bc15, bf15⟩ := k.cell_of x1 (i := 15) rfl; have X3 := Lib.hid x3; clear x1 x2 x3 hb)) | (go_at_call 23; ((with_reducible refine (C4.out _).mono ?_); rintro e w1 ⟨rfl, rfl⟩)))
            go_ret
            exact ⟨ret_bool' HV.out.symm, X3.out⟩
        · have C4 := Lib.hid fun W => within_is (u.inB_no h4) W
          have HV := Lib.hid (right_no (d := ⟨st, lim, mis, last, pc, pv, po, mc, mv, mo, hc, hv, ho, act, kn, sq⟩) fun h => h4 ⟨h.2.2.2.2.2.2.2.1, h.2.2.2.2.2.2.2.2.1⟩)
          clear h1 h2 h3 h4
          go_enter Try.func10, Try.ntmps10
          go_wp2_with (first | (go_at_call 23; ((with_reducible refine (C1.out _).mono ?_); rintro e w1 ⟨rfl, rfl⟩)) | (go_at_call 24; ((with_reducible refine (CW.out _).mono ?_); rintro e w1 ⟨rfl, rfl⟩; unfold u.BoxW)) | ((with_reducible refine k.load_wanted ?gwN4 27 (.tmp 1) ?goN4 w.heap.size 0 ?gxN4 [.int .i64 st, .int .i64 lim, .int .i64 mis, .int .i64 last, .int .i64 pc, .bool pv, .int .i64 po, .int .i64 mc, .bool mv, .int .i64 mo, .int .i64 hc, .bool hv, .int .i64 ho, .int .i64 act, .bool kn, .int .i64 sq] ?gqN4 M.out.range ?guN4 ?gdN4 ?giN4 ?ghN4); (case goN4 => rfl); (case gwN4 => rfl); (case gxN4 => rfl); (case guN4 => rfl); (case gdN4 => rfl); (case giN4 => kernel_rfl)) | (go_at_call 25; ((with_reducible refine (CS.out _).mono ?_); rintro e w1 ⟨rfl, hb⟩; obtain ⟨x1, x2, x3, x4⟩ := k.boxes2 hb; have ⟨bc13, bf13⟩ := k.cell_of x1 (i := 13) rfl; have ⟨bc14, bf14⟩ := k.cell_of x1 (i := 14) rfl; have ⟨bc15, bf15⟩ := k.cell_of x1 (i := 15) rfl; have X3 := Lib.hid x3; clear x1 x2 x3 hb)) | (go_at_call 23; ((with_reducible refine (C4.out _).mono ?_); rintro e w1 ⟨rfl, rfl⟩)))
          go_ret
          exact ⟨ret_bool' HV.out.symm, X3.out⟩
      · rw [sw_no h3] at CS
        have HV := Lib.hid (right_no (d := ⟨st, lim, mis, last, pc, pv, po, mc, mv, mo, hc, hv, ho, act, kn, sq⟩) fun h => h3 ⟨h.1, h.2.1, h.2.2.2.1, h.2.2.1, h.2.2.2.2.1⟩)
        clear h1 h2 h3
        go_enter Try.func10, Try.ntmps10
        go_wp2_with (first | (go_at_call 23; ((with_reducible refine (C1.out _).mono ?_); rintro e w1 ⟨rfl, rfl⟩)) | (go_at_call 24; ((with_reducible refine (CW.out _).mono ?_); rintro e w1 ⟨rfl, rfl⟩; unfold u.BoxW)) | ((with_reducible refine k.load_wanted ?gwN5 27 (.tmp 1) ?goN5 w.heap.size 0 ?gxN5 [.int .i64 st, .int .i64 lim, .int .i64 mis, .int .i64 last, .int .i64 pc, .bool pv, .int .i64 po, .int .i64 mc, .bool mv, .int .i64 mo, .int .i64 hc, .bool hv, .int .i64 ho, .int .i64 act, .bool kn, .int .i64 sq] ?gqN5 M.out.range ?guN5 ?gdN5 ?giN5 ?ghN5); (case goN5 => rfl); (case gwN5 => rfl); (case gxN5 => rfl); (case guN5 => rfl); (case gdN5 => rfl); (case giN5 => kernel_rfl)) | (go_at_call 25; ((with_reducible refine (CS.out _).mono ?_); rintro e w1 ⟨rfl, hb⟩; obtain ⟨x1, x2, x3, x4⟩ := k.boxes2 hb; have ⟨bc13, bf13⟩ := k.cell_of x1 (i := 13) rfl; have ⟨bc14, bf14⟩ := k.cell_of x1 (i := 14) rfl; have ⟨bc15, bf15⟩ := k.cell_of x1 (i := 15) rfl; have X3 := Lib.hid x3; clear x1 x2 x3 hb)))
        go_ret
        exact ⟨ret_bool' HV.out.symm, X3.out⟩
    · have CW := Lib.hid fun W => u.right_is (u.right_no h2) W
      have HV := Lib.hid (right_no (d := ⟨st, lim, mis, last, pc, pv, po, mc, mv, mo, hc, hv, ho, act, kn, sq⟩) fun h => h2 h.2.2.2.2.2.2.2.2.2.1)
      clear h1 h2
      go_enter Try.func10, Try.ntmps10
      go_wp2_with (first | (go_at_call 23; ((with_reducible refine (C1.out _).mono ?_); rintro e w1 ⟨rfl, rfl⟩)) | (go_at_call 24; ((with_reducible refine (CW.out _).mono ?_); rintro e w1 ⟨rfl, rfl⟩; unfold u.BoxW)))
      go_ret
      exact ⟨ret_bool' HV.out.symm, (by repeat (first | with_reducible exact Below.refl _ _ | (with_reducible refine Below.alloc ?_ ?_ _; rotate_left 1; focus (first | (simp; done) | (simp; omega)))))⟩
  · have C1 := Lib.hid fun W => within_is (u.inB_no h1) W
    have HV := Lib.hid (right_no (d := ⟨st, lim, mis, last, pc, pv, po, mc, mv, mo, hc, hv, ho, act, kn, sq⟩) fun h => h1 ⟨h.2.2.2.2.2.1, h.2.2.2.2.2.2.1⟩)
    clear h1
    go_enter Try.func10, Try.ntmps10
    go_wp2_with (go_at_call 23; ((with_reducible refine (C1.out _).mono ?_); rintro e w1 ⟨rfl, rfl⟩))
    go_ret
    exact ⟨ret_bool' HV.out.symm, (by repeat (first | with_reducible exact Below.refl _ _ | (with_reducible refine Below.alloc ?_ ?_ _; rotate_left 1; focus (first | (simp; done) | (simp; omega)))))⟩
theorem right_is {d : D} {b : Bool} (h : rightD d = b) (hw : WideD d) (w : World) :
    Calls Try.prog 10 #[dV d] w fun e w' => e = .returned (.bool b) ∧ Below w.heap.size w w' := by
  have h1 := right_any d hw w
  rwa [h] at h1
theorem wide_of {d : D} (h : RightD d) : WideD d := by
  obtain ⟨a1, a2, a3, a4, a5, _⟩ := h
  exact ⟨⟨by have := a1.1; omega, by have := a1.2.1; omega⟩, ⟨by have := a2.1; omega, by have := a2.2.1; omega⟩, ⟨by have := a4.1; omega, by have := a4.2.1; omega⟩⟩
def LostD (d : D) : Prop := ¬ RightD d ∨ d.mis = d.lim
instance (d : D) : Decidable (LostD d) := by unfold LostD; infer_instance
def lostD (d : D) : Bool := decide (LostD d)
set_option maxHeartbeats 4000000 in
theorem lost_any (d : D) (hw : WideD d) (w : World) :
    Calls Try.prog 13 #[dV d] w fun e w' => e = .returned (.bool (lostD d)) ∧ Below w.heap.size w w' := by
  by_cases h : RightD d
  · have CR := Lib.hid fun W => right_is (right_yes h) hw W
    have CO := Lib.hid fun W => u.over_any d.lim d.mis d.last W
    have HV : Hid (lostD d = u.overW d.lim d.mis d.last) := Lib.hid (by
      unfold lostD u.overW
      have hr := h.2.2.2.2.2.2.2.2.2.1
      rw [decide_eq_decide]
      constructor
      · rintro (h1 | h1)
        · exact absurd h h1
        · exact .inr h1
      · rintro (h1 | h1)
        · exact absurd hr h1
        · exact .inr h1)
    clear h hw
    obtain ⟨st, lim, mis, last, pc, pv, po, mc, mv, mo, hc, hv, ho, act, kn, sq⟩ := d
    unfold dV at CR ⊢
    dsimp only at CR CO HV ⊢
    generalize u.overW lim mis last = V at CO HV
    have M : Hid (k.Box (w.alloc (.cells #[.int .i64 st, .int .i64 lim, .int .i64 mis, .int .i64 last, .int .i64 pc, .bool pv, .int .i64 po, .int .i64 mc, .bool mv, .int .i64 mo, .int .i64 hc, .bool hv, .int .i64 ho, .int .i64 act, .bool kn, .int .i64 sq] 27)) w.heap.size 0 [.int .i64 st, .int .i64 lim, .int .i64 mis, .int .i64 last, .int .i64 pc, .bool pv, .int .i64 po, .int .i64 mc, .bool mv, .int .i64 mo, .int .i64 hc, .bool hv, .int .i64 ho, .int .i64 act, .bool kn, .int .i64 sq]) := Lib.hid (k.boxes1 (Below.refl _ _)).1
    go_enter Try.func13, Try.ntmps13
    go_wp2_with (first | ((with_reducible refine k.load_wanted ?gwN8 27 (.tmp 1) ?goN8 w.heap.size 0 ?gxN8 [.int .i64 st, .int .i64 lim, .int .i64 mis, .int .i64 last, .int .i64 pc, .bool pv, .int .i64 po, .int .i64 mc, .bool mv, .int .i64 mo, .int .i64 hc, .bool hv, .int .i64 ho, .int .i64 act, .bool kn, .int .i64 sq] ?gqN8 M.out.range ?guN8 ?gdN8 ?giN8 ?ghN8); (case goN8 => rfl); (case gwN8 => rfl); (case gxN8 => rfl); (case guN8 => rfl); (case gdN8 => rfl); (case giN8 => kernel_rfl)) | (go_at_call 10; ((with_reducible refine (CR.out _).mono ?_); rintro e w1 ⟨rfl, hb⟩; obtain ⟨x1, x2, x3⟩ := k.boxes1 hb; have ⟨bc1, bf1⟩ := k.cell_of x1 (i := 1) rfl; have ⟨bc2, bf2⟩ := k.cell_of x1 (i := 2) rfl; have ⟨bc3, bf3⟩ := k.cell_of x1 (i := 3) rfl; have X3 := Lib.hid x2; clear x1 x2 x3 hb)) | (go_at_call 32; ((with_reducible refine (CO.out _).mono ?_); rintro e w2 ⟨rfl, hb⟩; have X4 := Lib.hid (X3.out.trans (hb.mono X3.out.size)); clear hb)))
    go_ret
    exact ⟨ret_bool' HV.out.symm, X4.out⟩
  · have CR := Lib.hid fun W => right_is (right_no h) hw W
    have HV : Hid (lostD d = true) := Lib.hid (by unfold lostD LostD; simp [h])
    clear h hw
    obtain ⟨st, lim, mis, last, pc, pv, po, mc, mv, mo, hc, hv, ho, act, kn, sq⟩ := d
    unfold dV at CR ⊢
    dsimp only at CR HV ⊢
    have M : Hid (k.Box (w.alloc (.cells #[.int .i64 st, .int .i64 lim, .int .i64 mis, .int .i64 last, .int .i64 pc, .bool pv, .int .i64 po, .int .i64 mc, .bool mv, .int .i64 mo, .int .i64 hc, .bool hv, .int .i64 ho, .int .i64 act, .bool kn, .int .i64 sq] 27)) w.heap.size 0 [.int .i64 st, .int .i64 lim, .int .i64 mis, .int .i64 last, .int .i64 pc, .bool pv, .int .i64 po, .int .i64 mc, .bool mv, .int .i64 mo, .int .i64 hc, .bool hv, .int .i64 ho, .int .i64 act, .bool kn, .int .i64 sq]) := Lib.hid (k.boxes1 (Below.refl _ _)).1
    go_enter Try.func13, Try.ntmps13
    go_wp2_with (first | ((with_reducible refine k.load_wanted ?gwN9 27 (.tmp 1) ?goN9 w.heap.size 0 ?gxN9 [.int .i64 st, .int .i64 lim, .int .i64 mis, .int .i64 last, .int .i64 pc, .bool pv, .int .i64 po, .int .i64 mc, .bool mv, .int .i64 mo, .int .i64 hc, .bool hv, .int .i64 ho, .int .i64 act, .bool kn, .int .i64 sq] ?gqN9 M.out.range ?guN9 ?gdN9 ?giN9 ?ghN9); (case goN9 => rfl); (case gwN9 => rfl); (case gxN9 => rfl); (case guN9 => rfl); (case gdN9 => rfl); (case giN9 => kernel_rfl)) | (go_at_call 10; ((with_reducible refine (CR.out _).mono ?_); rintro e w1 ⟨rfl, hb⟩; obtain ⟨x1, x2, x3⟩ := k.boxes1 hb; have ⟨bc1, bf1⟩ := k.cell_of x1 (i := 1) rfl; have ⟨bc2, bf2⟩ := k.cell_of x1 (i := 2) rfl; have ⟨bc3, bf3⟩ := k.cell_of x1 (i := 3) rfl; have X3 := Lib.hid x2; clear x1 x2 x3 hb)))
    go_ret
    exact ⟨ret_bool' HV.out.symm, X3.out⟩
end Go.Proofs.Ytdfgjfojneoljaa.j
