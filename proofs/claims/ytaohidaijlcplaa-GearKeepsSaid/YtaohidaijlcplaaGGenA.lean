/- What layer gen's Right, Safe and Landed, and its small functions answer; what was in memory is as it was. No condition but what each line says. -/
import Derived.Test.YtaohidaijlcplaaBNear
import Derived.Test.YtaohidaijlcplaaKStore
import Derived.Test.YtaohidaijlcplaaGMath
namespace Go.Proofs.Ytaohidaijlcplaa.gn
open Go.ChangeShapes Go.WideShapes Go.ChangeAt Go.RowKit Go.Proofs.Ytaohidaijlcplaa.k Go.Proofs.Ytaohidaijlcplaa.b
set_option linter.unusedVariables false

def Wide (x : Int) : Prop := -9223372036854775808 ≤ x ∧ x ≤ 9223372036854775807
structure WideL (l : L) : Prop where
  V : Wide l.V
  A : Wide l.A
  D : Wide l.D
  lo : Wide l.lo
  hi : Wide l.hi
def landB (p v t : Int) : Bool := decide (p = t ∧ v = 0)
def inB (n lo hi : Int) : Bool := decide (lo ≤ n ∧ n ≤ hi)
theorem inB_yes {n lo hi : Int} (h : lo ≤ n ∧ n ≤ hi) : inB n lo hi = true := decide_eq_true h
theorem inB_no {n lo hi : Int} (h : ¬ (lo ≤ n ∧ n ≤ hi)) : inB n lo hi = false := decide_eq_false h
theorem los_of9 {d : Int} (h0 : 1 ≤ d) (h1 : d ≤ 1048576) : los d = d := by unfold los clamp; omega
theorem within_is {n lo hi : Int} {b : Bool} (h : inB n lo hi = b) (w : World) :
    Calls Try.prog 24 #[.int .i64 n, .int .i64 lo, .int .i64 hi] w fun e w' => e = .returned (.bool b) ∧ w = w' := by
  by_cases h1 : lo ≤ n
  · by_cases h2 : n ≤ hi
    · have HV := Lib.hid (h.symm.trans (inB_yes (n := n) (lo := lo) (hi := hi) ⟨h1, h2⟩))
      clear h
      go_enter Try.func24, Try.ntmps24
      go_wp2
      go_ret
      exact ⟨by rw [HV.out]; rfl, rfl⟩
    · have HV := Lib.hid (h.symm.trans (inB_no (n := n) (lo := lo) (hi := hi) fun h => h2 h.2))
      clear h
      go_enter Try.func24, Try.ntmps24
      go_wp2
      go_ret
      exact ⟨by rw [HV.out]; rfl, rfl⟩
  · have HV := Lib.hid (h.symm.trans (inB_no (n := n) (lo := lo) (hi := hi) fun h => h1 h.1))
    clear h
    go_enter Try.func24, Try.ntmps24
    go_wp2
    go_ret
    exact ⟨by rw [HV.out]; rfl, rfl⟩
theorem near_is {n lo hi x : Int} (h : lo ≤ hi) (hx : clamp n lo hi = x) (w : World) : Calls Try.prog 27 #[.int .i64 n, .int .i64 lo, .int .i64 hi] w fun e w' => e = .returned (.int .i64 x) ∧ w = w' := by
  have e : max lo (min n hi) = x := by rw [← hx]; unfold clamp; omega
  clear h hx
  go_enter Try.func27, Try.ntmps27
  go_wp2
  go_ret
  exact ⟨rfl, rfl⟩
def sgn (a b : Int) : Int := if a < b then 1 else if b < a then -1 else 0
theorem stops_is {v d a b : Int} {x : Bool} (ha : -1099511627776 ≤ a) (hb : b ≤ 1099511627776) (hab : a ≤ b) (v0 : 0 ≤ v) (v1 : v ≤ 1048576) (d0 : 1 ≤ d) (d1 : d ≤ 1048576) (hx : decide (slow v 0 d ≤ b - a) = x) (w : World) :
    Calls Try.prog 25 #[.int .i64 v, .int .i64 d, .int .i64 a, .int .i64 b] w fun e w' => e = .returned (.bool x) ∧ w = w' := by
  have H := Lib.hid fun W => way_same v d W
  rw [vel_of v0 v1, los_of9 d0 d1] at H
  have s0 := slow_pos (v := v) (u := 0) (by omega) d0
  have s1 := slow_le (v := v) (u := 0) (by omega) d0 v0 v1
  clear v0 v1 d0 d1
  generalize slow v 0 d = s at *
  have e1 : IntKind.u64.wrap s = s := IntWalk.u64_in _ (by omega)
  have e2 : IntKind.u64.wrap (IntKind.u64.wrap b - IntKind.u64.wrap a) = b - a := by rw [IntKind.wrap_u64, IntKind.wrap_u64, IntKind.wrap_u64]; omega
  go_enter Try.func25, Try.ntmps25
  go_wp2_with (go_at_call 46; ((with_reducible refine (H.out _).mono ?_); rintro e w1 ⟨rfl, rfl⟩))
  go_ret
  exact ⟨rfl, rfl⟩
set_option maxHeartbeats 4000000 in
theorem right_is {V A D lo hi : Int} {b : Bool} (hx : rightL ⟨V, A, D, lo, hi⟩ = b) (w : World) :
    Calls Try.prog 11 #[.agg #[.int .i64 V, .int .i64 A, .int .i64 D, .int .i64 lo, .int .i64 hi]] w fun e w' => e = .returned (.bool b) ∧ w.alloc (.cells #[.int .i64 V, .int .i64 A, .int .i64 D, .int .i64 lo, .int .i64 hi] 23) = w' := by
  by_cases h1 : 1 ≤ V ∧ V ≤ 1048576
  · have C1 := Lib.hid fun W => within_is (inB_yes h1) W
    by_cases h2 : 1 ≤ A ∧ A ≤ 1048576
    · have C2 := Lib.hid fun W => within_is (inB_yes h2) W
      by_cases h3 : 1 ≤ D ∧ D ≤ 1048576
      · have C3 := Lib.hid fun W => within_is (inB_yes h3) W
        by_cases h4 : -1099511627776 ≤ lo ∧ lo ≤ 1099511627776
        · have C4 := Lib.hid fun W => within_is (inB_yes h4) W
          by_cases h5 : lo ≤ hi ∧ hi ≤ 1099511627776
          · have C5 := Lib.hid fun W => within_is (inB_yes h5) W
            have HV : Hid (b = true) := Lib.hid (hx.symm.trans (right_yes (by unfold RightL; dsimp only; omega)))
            clear hx h1 h2 h3 h4 h5
            go_enter Try.func11, Try.ntmps11
            go_wp2_with (first | (go_at_call 24; ((with_reducible refine (C1.out _).mono ?_); rintro e w1 ⟨rfl, rfl⟩)) | (go_at_call 24; ((with_reducible refine (C2.out _).mono ?_); rintro e w1 ⟨rfl, rfl⟩)) | (go_at_call 24; ((with_reducible refine (C3.out _).mono ?_); rintro e w1 ⟨rfl, rfl⟩)) | (go_at_call 24; ((with_reducible refine (C4.out _).mono ?_); rintro e w1 ⟨rfl, rfl⟩)) | (go_at_call 24; ((with_reducible refine (C5.out _).mono ?_); rintro e w1 ⟨rfl, rfl⟩)))
            go_ret
            exact ⟨ret_bool HV.out.symm, rfl⟩
          · have C5 := Lib.hid fun W => within_is (inB_no h5) W
            have HV : Hid (b = false) := Lib.hid (hx.symm.trans (right_no (by unfold RightL; dsimp only; omega)))
            clear hx h1 h2 h3 h4 h5
            go_enter Try.func11, Try.ntmps11
            go_wp2_with (first | (go_at_call 24; ((with_reducible refine (C1.out _).mono ?_); rintro e w1 ⟨rfl, rfl⟩)) | (go_at_call 24; ((with_reducible refine (C2.out _).mono ?_); rintro e w1 ⟨rfl, rfl⟩)) | (go_at_call 24; ((with_reducible refine (C3.out _).mono ?_); rintro e w1 ⟨rfl, rfl⟩)) | (go_at_call 24; ((with_reducible refine (C4.out _).mono ?_); rintro e w1 ⟨rfl, rfl⟩)) | (go_at_call 24; ((with_reducible refine (C5.out _).mono ?_); rintro e w1 ⟨rfl, rfl⟩)))
            go_ret
            exact ⟨ret_bool HV.out.symm, rfl⟩
        · have C4 := Lib.hid fun W => within_is (inB_no h4) W
          have HV : Hid (b = false) := Lib.hid (hx.symm.trans (right_no (by unfold RightL; dsimp only; omega)))
          clear hx h1 h2 h3 h4
          go_enter Try.func11, Try.ntmps11
          go_wp2_with (first | (go_at_call 24; ((with_reducible refine (C1.out _).mono ?_); rintro e w1 ⟨rfl, rfl⟩)) | (go_at_call 24; ((with_reducible refine (C2.out _).mono ?_); rintro e w1 ⟨rfl, rfl⟩)) | (go_at_call 24; ((with_reducible refine (C3.out _).mono ?_); rintro e w1 ⟨rfl, rfl⟩)) | (go_at_call 24; ((with_reducible refine (C4.out _).mono ?_); rintro e w1 ⟨rfl, rfl⟩)))
          go_ret
          exact ⟨ret_bool HV.out.symm, rfl⟩
      · have C3 := Lib.hid fun W => within_is (inB_no h3) W
        have HV : Hid (b = false) := Lib.hid (hx.symm.trans (right_no (by unfold RightL; dsimp only; omega)))
        clear hx h1 h2 h3
        go_enter Try.func11, Try.ntmps11
        go_wp2_with (first | (go_at_call 24; ((with_reducible refine (C1.out _).mono ?_); rintro e w1 ⟨rfl, rfl⟩)) | (go_at_call 24; ((with_reducible refine (C2.out _).mono ?_); rintro e w1 ⟨rfl, rfl⟩)) | (go_at_call 24; ((with_reducible refine (C3.out _).mono ?_); rintro e w1 ⟨rfl, rfl⟩)))
        go_ret
        exact ⟨ret_bool HV.out.symm, rfl⟩
    · have C2 := Lib.hid fun W => within_is (inB_no h2) W
      have HV : Hid (b = false) := Lib.hid (hx.symm.trans (right_no (by unfold RightL; dsimp only; omega)))
      clear hx h1 h2
      go_enter Try.func11, Try.ntmps11
      go_wp2_with (first | (go_at_call 24; ((with_reducible refine (C1.out _).mono ?_); rintro e w1 ⟨rfl, rfl⟩)) | (go_at_call 24; ((with_reducible refine (C2.out _).mono ?_); rintro e w1 ⟨rfl, rfl⟩)))
      go_ret
      exact ⟨ret_bool HV.out.symm, rfl⟩
  · have C1 := Lib.hid fun W => within_is (inB_no h1) W
    have HV : Hid (b = false) := Lib.hid (hx.symm.trans (right_no (by unfold RightL; dsimp only; omega)))
    clear hx h1
    go_enter Try.func11, Try.ntmps11
    go_wp2_with (go_at_call 24; ((with_reducible refine (C1.out _).mono ?_); rintro e w1 ⟨rfl, rfl⟩))
    go_ret
    exact ⟨ret_bool HV.out.symm, rfl⟩
set_option maxHeartbeats 4000000 in
theorem safe_is {V A D lo hi p v : Int} {b : Bool} (hr : RightL ⟨V, A, D, lo, hi⟩) (hv : Wide v) (hx : safeP ⟨V, A, D, lo, hi⟩ p v = b) (w : World) :
    Calls Try.prog 12 #[.agg #[.int .i64 V, .int .i64 A, .int .i64 D, .int .i64 lo, .int .i64 hi], .agg #[.int .i64 p, .int .i64 v]] w fun e w' => e = .returned (.bool b) ∧ (w.alloc (.cells #[.int .i64 V, .int .i64 A, .int .i64 D, .int .i64 lo, .int .i64 hi] 23)).alloc (.cells #[.int .i64 p, .int .i64 v] 25) = w' := by
  have HRL := Lib.hid hr
  obtain ⟨r1, r2, r3, r4, r5, r6, r7, r8, r9⟩ := hr
  dsimp only at r1 r2 r3 r4 r5 r6 r7 r8 r9
  unfold Wide at hv
  by_cases h1 : lo ≤ p ∧ p ≤ hi
  · have C1 := Lib.hid fun W => within_is (inB_yes h1) W
    by_cases h2 : -1048576 ≤ v ∧ v ≤ 1048576
    · have C2 := Lib.hid fun W => within_is (inB_yes h2) W
      by_cases h3 : v < 0
      · have hq : safeP ⟨V, A, D, lo, hi⟩ p v = decide (slow (-v) 0 D ≤ p - lo) := by
          unfold safeP
          refine decide_eq_decide.mpr ⟨fun h => ?_, fun h => ⟨HRL.out, h1.1, h1.2, h2.1, h2.2, ?_⟩⟩
          · have := h.2.2.2.2.2; unfold wayOK at this; rw [if_pos h3] at this; exact this
          · unfold wayOK; rw [if_pos h3]; exact h
        have CS := Lib.hid fun W => stops_is (v := -v) (d := D) (a := lo) (b := p) (by omega) (by omega) (by omega) (by omega) (by omega) (by omega) (by omega) (hq.symm.trans hx) W
        have en : IntKind.i64.wrap (-v) = -v := IntWalk.i64_in _ (by omega)
        clear hx hq
        go_enter Try.func12, Try.ntmps12
        go_wp2_with (first | (go_at_call 24; ((with_reducible refine (C1.out _).mono ?_); rintro e w1 ⟨rfl, rfl⟩)) | (go_at_call 24; ((with_reducible refine (C2.out _).mono ?_); rintro e w1 ⟨rfl, rfl⟩)) | (go_at_call 25; ((with_reducible refine (CS.out _).mono ?_); rintro e w1 ⟨rfl, rfl⟩)))
        go_ret
        exact ⟨rfl, rfl⟩
      · have hq : safeP ⟨V, A, D, lo, hi⟩ p v = decide (slow v 0 D ≤ hi - p) := by
          unfold safeP
          refine decide_eq_decide.mpr ⟨fun h => ?_, fun h => ⟨HRL.out, h1.1, h1.2, h2.1, h2.2, ?_⟩⟩
          · have := h.2.2.2.2.2; unfold wayOK at this; rw [if_neg h3] at this; exact this
          · unfold wayOK; rw [if_neg h3]; exact h
        have CS := Lib.hid fun W => stops_is (v := v) (d := D) (a := p) (b := hi) (by omega) (by omega) (by omega) (by omega) (by omega) (by omega) (by omega) (hq.symm.trans hx) W
        clear hx hq
        go_enter Try.func12, Try.ntmps12
        go_wp2_with (first | (go_at_call 24; ((with_reducible refine (C1.out _).mono ?_); rintro e w1 ⟨rfl, rfl⟩)) | (go_at_call 24; ((with_reducible refine (C2.out _).mono ?_); rintro e w1 ⟨rfl, rfl⟩)) | (go_at_call 25; ((with_reducible refine (CS.out _).mono ?_); rintro e w1 ⟨rfl, rfl⟩)))
        go_ret
        exact ⟨rfl, rfl⟩
    · have C2 := Lib.hid fun W => within_is (inB_no h2) W
      have HV : Hid (b = false) := Lib.hid (hx.symm.trans (safe_no fun h => h2 ⟨h.2.2.2.1, h.2.2.2.2.1⟩))
      clear hx
      go_enter Try.func12, Try.ntmps12
      go_wp2_with (first | (go_at_call 24; ((with_reducible refine (C1.out _).mono ?_); rintro e w1 ⟨rfl, rfl⟩)) | (go_at_call 24; ((with_reducible refine (C2.out _).mono ?_); rintro e w1 ⟨rfl, rfl⟩)))
      go_ret
      exact ⟨ret_bool HV.out.symm, rfl⟩
  · have C1 := Lib.hid fun W => within_is (inB_no h1) W
    have HV : Hid (b = false) := Lib.hid (hx.symm.trans (safe_no fun h => h1 ⟨h.2.1, h.2.2.1⟩))
    clear hx
    go_enter Try.func12, Try.ntmps12
    go_wp2_with (go_at_call 24; ((with_reducible refine (C1.out _).mono ?_); rintro e w1 ⟨rfl, rfl⟩))
    go_ret
    exact ⟨ret_bool HV.out.symm, rfl⟩
set_option maxHeartbeats 4000000 in
theorem goes_any {V A D lo hi p v : Int} {b : Bool} (hl : WideL ⟨V, A, D, lo, hi⟩) (hp : Wide p) (hv : Wide v) (hx : safeP ⟨V, A, D, lo, hi⟩ p v = b) (w : World) :
    Calls Try.prog 26 #[.agg #[.int .i64 V, .int .i64 A, .int .i64 D, .int .i64 lo, .int .i64 hi], .agg #[.int .i64 p, .int .i64 v]] w fun e w' => e = .returned (.bool b) ∧ Below w.heap.size w w' := by
  by_cases hr : RightL ⟨V, A, D, lo, hi⟩
  · have CR := Lib.hid fun W => right_is (right_yes hr) W
    have CS := Lib.hid fun W => safe_is hr hv hx W
    clear hr hx
    go_enter Try.func26, Try.ntmps26
    go_wp2_with (first | (go_at_call 11; ((with_reducible refine (CR.out _).mono ?_); rintro e w1 ⟨rfl, rfl⟩)) | (go_at_call 12; ((with_reducible refine (CS.out _).mono ?_); rintro e w1 ⟨rfl, rfl⟩)))
    go_ret
    exact ⟨rfl, (by repeat (first | with_reducible exact Below.refl _ _ | (with_reducible refine Below.alloc ?_ ?_ _; rotate_left 1; focus (first | (simp; done) | (simp; omega)))))⟩
  · have CR := Lib.hid fun W => right_is (right_no hr) W
    have HV : Hid (b = false) := Lib.hid (hx.symm.trans (safe_no fun h => hr h.1))
    clear hr hx
    go_enter Try.func26, Try.ntmps26
    go_wp2_with (go_at_call 11; ((with_reducible refine (CR.out _).mono ?_); rintro e w1 ⟨rfl, rfl⟩))
    go_ret
    exact ⟨ret_bool HV.out.symm, (by repeat (first | with_reducible exact Below.refl _ _ | (with_reducible refine Below.alloc ?_ ?_ _; rotate_left 1; focus (first | (simp; done) | (simp; omega)))))⟩
end Go.Proofs.Ytaohidaijlcplaa.gn
