/- What servitorref09's turned, Right and Safe answer; what was in memory is as it was. No condition beyond what each line says. -/
import Derived.Test.YtaohidaijlcplaaGRefB
import Derived.Test.YtaohidaijlcplaaKStore
namespace Go.Proofs.Ytaohidaijlcplaa.gn
open Go.ChangeShapes Go.WideShapes Go.ChangeAt Go.RowKit Go.Proofs.Ytaohidaijlcplaa.k Go.Proofs.Ytaohidaijlcplaa.b Go.Proofs.Ytaohidaijlcplaa
set_option linter.unusedVariables false

def turnL (l : L) : L := ⟨l.V, l.A, l.D, -l.hi, -l.lo⟩
theorem turn_right {l : L} (h : RightL l) : RightL (turnL l) := by
  obtain ⟨r1, r2, r3, r4, r5, r6, r7, r8, r9⟩ := h
  exact ⟨r1, r2, r3, r4, r5, r6, by show -1099511627776 ≤ -l.hi; omega, by show -l.lo ≤ 1099511627776; omega, by show -l.hi ≤ -l.lo; omega⟩
theorem turn_safe {l : L} {p v : Int} (hr : RightL l) (h : SafeP l p v) : SafeP (turnL l) (-p) (-v) := by
  have h2 := safe_up h
  have h3 := safe_down hr h
  refine ⟨by have := h.2.1; show -l.hi ≤ -p; omega, by have := h.1; show -p ≤ -l.lo; omega, by have := h.2.2.2.1; omega, by have := h.2.2.1; omega, ?_⟩
  unfold wayOK
  by_cases h0 : -v < 0
  · rw [if_pos h0]
    show slow (- -v) 0 l.D ≤ -p - -l.hi
    rw [show - -v = v by omega]
    have := h2 (by omega)
    omega
  · rw [if_neg h0]
    show slow (-v) 0 l.D ≤ -l.lo - -p
    have := h3 (by omega)
    omega
theorem boxes4 {w w' : World} {c1 c2 c3 c4 : Array Value} {t1 t2 t3 t4 : TypeId} (hb : Below ((((w.alloc (.cells c1 t1)).alloc (.cells c2 t2)).alloc (.cells c3 t3)).alloc (.cells c4 t4)).heap.size ((((w.alloc (.cells c1 t1)).alloc (.cells c2 t2)).alloc (.cells c3 t3)).alloc (.cells c4 t4)) w') :
    k.Box w' w.heap.size 0 c1.toList ∧ k.Box w' (w.heap.size + 1) 0 c2.toList ∧ k.Box w' (w.heap.size + 2) 0 c3.toList ∧ k.Box w' (w.heap.size + 3) 0 c4.toList ∧ Below w.heap.size w w' ∧ w.heap.size + 3 < w'.heap.size := by
  have hs : (((w.alloc (.cells c1 t1)).alloc (.cells c2 t2)).alloc (.cells c3 t3)).heap.size = w.heap.size + 3 := by simp
  obtain ⟨b4, h4, s4⟩ := k.boxes1 hb
  rw [hs] at b4 s4
  obtain ⟨b1, b2, b3, h1, s3⟩ := k.boxes3 h4
  exact ⟨b1, b2, b3, b4, h1, s4⟩
set_option maxHeartbeats 1000000 in
theorem turned_any (V A D lo hi p v : Int) (b1 : -1099511627776 ≤ lo ∧ lo ≤ 1099511627776) (b2 : -1099511627776 ≤ hi ∧ hi ≤ 1099511627776) (b3 : -1099511627776 ≤ p ∧ p ≤ 1099511627776) (b4 : -1048576 ≤ v ∧ v ≤ 1048576) (w : World) :
    Calls Try.prog 43 #[.agg #[.int .i64 V, .int .i64 A, .int .i64 D, .int .i64 lo, .int .i64 hi], .agg #[.int .i64 p, .int .i64 v]] w fun e w' =>
      e = .returned (.tuple #[.agg #[.int .i64 V, .int .i64 A, .int .i64 D, .int .i64 (-hi), .int .i64 (-lo)], .agg #[.int .i64 (-p), .int .i64 (-v)]]) ∧ Below w.heap.size w w' := by
  go_enter Try.func43, Try.ntmps43
  go_upto_region 1 with (fail)
  obtain ⟨x1, x2, x3, x4, x5, x6⟩ := boxes4 (w := w) (c1 := #[.int .i64 V, .int .i64 A, .int .i64 D, .int .i64 lo, .int .i64 hi]) (t1 := 23) (c2 := #[.int .i64 p, .int .i64 v]) (t2 := 25) (c3 := #[.int .i64 0, .int .i64 0, .int .i64 0, .int .i64 0, .int .i64 0]) (t3 := 23) (c4 := #[.int .i64 0, .int .i64 0]) (t4 := 25) (Below.refl _ _)
  generalize (((w.alloc (.cells #[.int .i64 V, .int .i64 A, .int .i64 D, .int .i64 lo, .int .i64 hi] 23)).alloc (.cells #[.int .i64 p, .int .i64 v] 25)).alloc (.cells #[.int .i64 0, .int .i64 0, .int .i64 0, .int .i64 0, .int .i64 0] 23)).alloc (.cells #[.int .i64 0, .int .i64 0] 25) = w4 at x1 x2 x3 x4 x5 x6 ⊢
  have X1 := Lib.hid x1
  have X2 := Lib.hid x2
  have X3 := Lib.hid x3
  have X4 := Lib.hid x4
  have X5 := Lib.hid x5
  have ⟨lc3, lf3⟩ := k.cell_of X1.out (i := 3) rfl
  have ⟨lc4, lf4⟩ := k.cell_of X1.out (i := 4) rfl
  clear x1 x2 x3 x4 x5
  go_upto_region 2 with (fail)
  have y1 := (X1.out.put 3 (by simp) (.int .i64 (-hi))).put 4 (by simp) (.int .i64 (-lo))
  have y2 := k.Box_aside (i := 4) (show w.heap.size ≠ w.heap.size + 1 by omega) (.int .i64 (-lo)) (k.Box_aside (i := 3) (show w.heap.size ≠ w.heap.size + 1 by omega) (.int .i64 (-hi)) X2.out)
  have y3 := k.Box_aside (i := 4) (show w.heap.size ≠ w.heap.size + 2 by omega) (.int .i64 (-lo)) (k.Box_aside (i := 3) (show w.heap.size ≠ w.heap.size + 2 by omega) (.int .i64 (-hi)) X3.out)
  have y4 := k.Box_aside (i := 4) (show w.heap.size ≠ w.heap.size + 3 by omega) (.int .i64 (-lo)) (k.Box_aside (i := 3) (show w.heap.size ≠ w.heap.size + 3 by omega) (.int .i64 (-hi)) X4.out)
  have y5 : Below w.heap.size w ((w4.setCell ⟨w.heap.size, 3, none⟩ (.int .i64 (-hi))).setCell ⟨w.heap.size, 4, none⟩ (.int .i64 (-lo))) := X5.out.trans ((k.below1 w.heap.size w4 3 _).trans (k.below1 w.heap.size _ 4 _))
  generalize (w4.setCell ⟨w.heap.size, 3, none⟩ (.int .i64 (-hi))).setCell ⟨w.heap.size, 4, none⟩ (.int .i64 (-lo)) = w5 at y1 y2 y3 y4 y5 ⊢
  have Y5 := Lib.hid y5
  clear y5 X1 X2 X3 X4 X5 lc3 lf3 lc4 lf4
  obtain ⟨a0, e0, a1, e1, a2, e2, a3, e3, a4, e4, _⟩ := y1
  obtain ⟨c0, f0, c1, f1, _⟩ := y2
  obtain ⟨m0, n0, m1, n1, m2, n2, m3, n3, m4, n4, _⟩ := y3
  obtain ⟨r0, q0, r1, q1, _⟩ := y4
  go_region
  go_wp2
  refine bodyPost_ret (v := .tuple #[.agg #[.int .i64 V, .int .i64 A, .int .i64 D, .int .i64 (-hi), .int .i64 (-lo)], .agg #[.int .i64 (-p), .int .i64 (-v)]]) (by simp [results, Try.results43, go_sem, m0, m1, m2, m3, m4, r0, r1]) rfl ⟨rfl, ?_⟩
  have HY := Y5.out
  refine Below.drew ?_
  repeat (first | with_reducible exact HY | (with_reducible refine Below.setCell ?_ ?_ _; rotate_left 1; focus (first | (simp; done) | (simp; omega) | omega)))
-- RIGHT
set_option maxHeartbeats 4000000 in
theorem refright_any (l : L) (w : World) : Calls Try.prog 21 #[.agg #[.int .i64 l.V, .int .i64 l.A, .int .i64 l.D, .int .i64 l.lo, .int .i64 l.hi]] w fun e w' => e = .returned (.bool (rightL l)) ∧ Below w.heap.size w w' := by
  obtain ⟨V, A, D, lo, hi⟩ := l
  dsimp only
  by_cases h0 : V < 1
  · have HV := Lib.hid (right_no (l := ⟨V, A, D, lo, hi⟩) (by unfold RightL; dsimp only; omega))
    go_enter Try.func21, Try.ntmps21
    go_wp2
    go_ret
    exact ⟨ret_bool HV.out.symm, (Below.refl _ _).alloc (Nat.le_refl _) _⟩
  · have g0 : 1 ≤ V := by omega
    clear h0
    by_cases h1 : 1048576 < V
    · have HV := Lib.hid (right_no (l := ⟨V, A, D, lo, hi⟩) (by unfold RightL; dsimp only; omega))
      go_enter Try.func21, Try.ntmps21
      go_wp2
      go_ret
      exact ⟨ret_bool HV.out.symm, (Below.refl _ _).alloc (Nat.le_refl _) _⟩
    · have g1 : V ≤ 1048576 := by omega
      clear h1
      by_cases h2 : A < 1
      · have HV := Lib.hid (right_no (l := ⟨V, A, D, lo, hi⟩) (by unfold RightL; dsimp only; omega))
        go_enter Try.func21, Try.ntmps21
        go_wp2
        go_ret
        exact ⟨ret_bool HV.out.symm, (Below.refl _ _).alloc (Nat.le_refl _) _⟩
      · have g2 : 1 ≤ A := by omega
        clear h2
        by_cases h3 : 1048576 < A
        · have HV := Lib.hid (right_no (l := ⟨V, A, D, lo, hi⟩) (by unfold RightL; dsimp only; omega))
          go_enter Try.func21, Try.ntmps21
          go_wp2
          go_ret
          exact ⟨ret_bool HV.out.symm, (Below.refl _ _).alloc (Nat.le_refl _) _⟩
        · have g3 : A ≤ 1048576 := by omega
          clear h3
          by_cases h4 : D < 1
          · have HV := Lib.hid (right_no (l := ⟨V, A, D, lo, hi⟩) (by unfold RightL; dsimp only; omega))
            go_enter Try.func21, Try.ntmps21
            go_wp2
            go_ret
            exact ⟨ret_bool HV.out.symm, (Below.refl _ _).alloc (Nat.le_refl _) _⟩
          · have g4 : 1 ≤ D := by omega
            clear h4
            by_cases h5 : 1048576 < D
            · have HV := Lib.hid (right_no (l := ⟨V, A, D, lo, hi⟩) (by unfold RightL; dsimp only; omega))
              go_enter Try.func21, Try.ntmps21
              go_wp2
              go_ret
              exact ⟨ret_bool HV.out.symm, (Below.refl _ _).alloc (Nat.le_refl _) _⟩
            · have g5 : D ≤ 1048576 := by omega
              clear h5
              by_cases h6 : lo < -1099511627776
              · have HV := Lib.hid (right_no (l := ⟨V, A, D, lo, hi⟩) (by unfold RightL; dsimp only; omega))
                go_enter Try.func21, Try.ntmps21
                go_wp2
                go_ret
                exact ⟨ret_bool HV.out.symm, (Below.refl _ _).alloc (Nat.le_refl _) _⟩
              · have g6 : -1099511627776 ≤ lo := by omega
                clear h6
                by_cases h7 : 1099511627776 < hi
                · have HV := Lib.hid (right_no (l := ⟨V, A, D, lo, hi⟩) (by unfold RightL; dsimp only; omega))
                  go_enter Try.func21, Try.ntmps21
                  go_wp2
                  go_ret
                  exact ⟨ret_bool HV.out.symm, (Below.refl _ _).alloc (Nat.le_refl _) _⟩
                · have g7 : hi ≤ 1099511627776 := by omega
                  clear h7
                  by_cases h8 : hi < lo
                  · have HV := Lib.hid (right_no (l := ⟨V, A, D, lo, hi⟩) (by unfold RightL; dsimp only; omega))
                    have hd8 : decide (lo ≤ hi) = false := decide_eq_false (by omega)
                    go_enter Try.func21, Try.ntmps21
                    go_wp2
                    go_ret
                    exact ⟨ret_bool HV.out.symm, (Below.refl _ _).alloc (Nat.le_refl _) _⟩
                  · have g8 : lo ≤ hi := by omega
                    clear h8
                    have HV := Lib.hid (right_yes (l := ⟨V, A, D, lo, hi⟩) (by unfold RightL; dsimp only; omega))
                    go_enter Try.func21, Try.ntmps21
                    go_wp2
                    go_ret
                    exact ⟨ret_bool HV.out.symm, (Below.refl _ _).alloc (Nat.le_refl _) _⟩
set_option maxHeartbeats 4000000 in
/-- servitorref09.Safe, of right limits and a generator whose numbers are of 64 bits -/
theorem refsafe_any (l : L) (hr : RightL l) (p v : Int) (hp : -9223372036854775808 ≤ p ∧ p ≤ 9223372036854775807) (hv : -9223372036854775808 ≤ v ∧ v ≤ 9223372036854775807) (w : World) : Calls Try.prog 22 #[.agg #[.int .i64 l.V, .int .i64 l.A, .int .i64 l.D, .int .i64 l.lo, .int .i64 l.hi], .agg #[.int .i64 p, .int .i64 v]] w fun e w' => e = .returned (.bool (safeP l p v)) ∧ Below w.heap.size w w' := by
  have hr0 := hr
  obtain ⟨V, A, D, lo, hi⟩ := l
  obtain ⟨r1, r2, r3, r4, r5, r6, r7, r8, r9⟩ := hr
  dsimp only at r1 r2 r3 r4 r5 r6 r7 r8 r9 ⊢
  have HR := Lib.hid hr0
  clear hr0
  by_cases h0 : p < lo
  · have HV := Lib.hid (safe_no (l := ⟨V, A, D, lo, hi⟩) (p := p) (v := v) (fun h => by have h2 := h.2; unfold SafeP at h2; dsimp only at h2; omega))
    go_enter Try.func22, Try.ntmps22
    go_wp2
    go_ret
    exact ⟨ret_bool HV.out.symm, ((Below.refl _ _).alloc (Nat.le_refl _) _).alloc (by simp) _⟩
  · have g0 : lo ≤ p := by omega
    clear h0
    by_cases h1 : hi < p
    · have HV := Lib.hid (safe_no (l := ⟨V, A, D, lo, hi⟩) (p := p) (v := v) (fun h => by have h2 := h.2; unfold SafeP at h2; dsimp only at h2; omega))
      go_enter Try.func22, Try.ntmps22
      go_wp2
      go_ret
      exact ⟨ret_bool HV.out.symm, ((Below.refl _ _).alloc (Nat.le_refl _) _).alloc (by simp) _⟩
    · have g1 : p ≤ hi := by omega
      clear h1
      by_cases h2 : 1048576 < v
      · have HV := Lib.hid (safe_no (l := ⟨V, A, D, lo, hi⟩) (p := p) (v := v) (fun h => by have h2 := h.2; unfold SafeP at h2; dsimp only at h2; omega))
        go_enter Try.func22, Try.ntmps22
        go_wp2
        go_ret
        exact ⟨ret_bool HV.out.symm, ((Below.refl _ _).alloc (Nat.le_refl _) _).alloc (by simp) _⟩
      · have g2 : v ≤ 1048576 := by omega
        clear h2
        by_cases h3 : v < -1048576
        · have HV := Lib.hid (safe_no (l := ⟨V, A, D, lo, hi⟩) (p := p) (v := v) (fun h => by have h2 := h.2; unfold SafeP at h2; dsimp only at h2; omega))
          go_enter Try.func22, Try.ntmps22
          go_wp2
          go_ret
          exact ⟨ret_bool HV.out.symm, ((Below.refl _ _).alloc (Nat.le_refl _) _).alloc (by simp) _⟩
        · have g3 : -1048576 ≤ v := by omega
          clear h3
          by_cases hneg : v < 0
          · have C := Lib.hid fun W => refway_any (-v) D (by omega) (by omega) r5 r6 W
            obtain ⟨X, hX⟩ : ∃ X, slow (-v) 0 D = X := ⟨_, rfl⟩
            have HV : Hid (decide (X ≤ p - lo) = safeP ⟨V, A, D, lo, hi⟩ p v) := Lib.hid (by
              unfold safeP
              rw [decide_eq_decide]
              have hw : wayOK ⟨V, A, D, lo, hi⟩ p v ↔ X ≤ p - lo := by
                unfold wayOK
                dsimp only
                rw [if_pos hneg, hX]
              exact ⟨fun h => ⟨HR.out, by unfold SafeP; dsimp only; exact ⟨g0, g1, g3, g2, hw.mpr h⟩⟩, fun h => hw.mp h.2.2.2.2.2⟩)
            rw [hX] at C
            clear hX
            go_enter Try.func22, Try.ntmps22
            go_wp2
            go_quiet ((go_at_call 42; with_reducible exact Calls.quiet_of_same ((C.out _).mono fun _ _ h => ⟨h.1, h.2.symm⟩)))
            go_wp2
            go_ret
            exact ⟨ret_bool HV.out, below_drawn (((Below.refl _ _).alloc (Nat.le_refl _) _).alloc (by simp) _) _⟩
          · have C := Lib.hid fun W => refway_any (v) D (by omega) (by omega) r5 r6 W
            obtain ⟨X, hX⟩ : ∃ X, slow (v) 0 D = X := ⟨_, rfl⟩
            have HV : Hid (decide (X ≤ hi - p) = safeP ⟨V, A, D, lo, hi⟩ p v) := Lib.hid (by
              unfold safeP
              rw [decide_eq_decide]
              have hw : wayOK ⟨V, A, D, lo, hi⟩ p v ↔ X ≤ hi - p := by
                unfold wayOK
                dsimp only
                rw [if_neg hneg, hX]
              exact ⟨fun h => ⟨HR.out, by unfold SafeP; dsimp only; exact ⟨g0, g1, g3, g2, hw.mpr h⟩⟩, fun h => hw.mp h.2.2.2.2.2⟩)
            rw [hX] at C
            clear hX
            go_enter Try.func22, Try.ntmps22
            go_wp2
            go_quiet ((go_at_call 42; with_reducible exact Calls.quiet_of_same ((C.out _).mono fun _ _ h => ⟨h.1, h.2.symm⟩)))
            go_wp2
            go_ret
            exact ⟨ret_bool HV.out, below_drawn (((Below.refl _ _).alloc (Nat.le_refl _) _).alloc (by simp) _) _⟩
end Go.Proofs.Ytaohidaijlcplaa.gn
