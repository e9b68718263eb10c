/- What layer brake's Slow, Way and Cycles answer; the world stays as it was. No condition beyond the kind's own bounds. What layer gen's Right, Safe and Landed, and its small functions answer; what was in memory is as it was. No condition but what each line says. The library's own contract of sort.Search, laid at this program: how many places below n, one behind the other, are still false. What layer brake's Reach and Pass answer (greatest speeds, sought by closures); what was in memory is as it was. No condition beyond the kind's own bounds. What layer gen's May and Step answer, of any limits and any generator; what was in memory is as it was. No condition but what each line says. What layer gen's To and By answer, of any limits and any generator; what was in memory is as it was. No condition but what each line says. What layer gen's By answers, of any limits and any generator; what was in memory is as it was. No condition but what each line says. Layer gen's contracts, as the laws' walks ask them; what was in memory is as it was. No condition but what each line says. Layer gen's contracts for the later layers: those of the text GGen. What servitorref13's Right and Step answer: the document's; what was in memory is as it was. No condition beyond what each line says. -/
import Derived.Test.YtijlccblabadaaaGreatU01
import Derived.Shelf.SlSorted.Search
import Derived.Test.YtijlccblabadaaaGreatProg
section
namespace Go.Proofs.YtijlccblabadaaaGreat.b
set_option maxRecDepth 100000
open Go.ChangeShapes Go.WideShapes Go.ChangeAt Go.RowKit Go.Proofs.YtijlccblabadaaaGreat.k
set_option linter.unusedVariables false
theorem max_clamp (n lo hi : Int) (h : lo ≤ hi) : max lo (min n hi) = clamp n lo hi := by unfold clamp; omega
theorem near_any (n lo hi : Int) (h : lo ≤ hi) (w : World) : Calls Tryz.prog 153 #[.int .i64 n, .int .i64 lo, .int .i64 hi] w fun e w' => e = .returned (.int .i64 (clamp n lo hi)) ∧ w = w' := by
 have e := max_clamp n lo hi h
 generalize clamp n lo hi = v at *
 clear h
 go_enter Tryz.func153, Tryz.ntmps153
 go_wp2
 go_ret
 exact ⟨rfl, rfl⟩
theorem speed_any (s : Int) (w : World) : Calls Tryz.prog 141 #[.int .i64 s] w fun e w' => e = .returned (.int .i64 (vel s)) ∧ w = w' := by
 have H1 : Hid (∀ W, Calls Tryz.prog 153 #[.int .i64 s, .int .i64 0, .int .i64 1048576] W fun e w' => e = .returned (.int .i64 (vel s)) ∧ W = w') := lh fun W => near_any s 0 1048576 (by omega) W
 generalize vel s = v at *
 go_enter Tryz.func141, Tryz.ntmps141
 go_wp2_with (go_at_call 153; ((with_reducible refine (H1.out _).mono ?_); rintro e w1 ⟨rfl, rfl⟩))
 go_ret
 exact ⟨rfl, rfl⟩
theorem loss_any (s : Int) (w : World) : Calls Tryz.prog 142 #[.int .i64 s] w fun e w' => e = .returned (.int .i64 (los s)) ∧ w = w' := by
 have H1 : Hid (∀ W, Calls Tryz.prog 153 #[.int .i64 s, .int .i64 1, .int .i64 1048576] W fun e w' => e = .returned (.int .i64 (los s)) ∧ W = w') := lh fun W => near_any s 1 1048576 (by omega) W
 generalize los s = v at *
 go_enter Tryz.func142, Tryz.ntmps142
 go_wp2_with (go_at_call 153; ((with_reducible refine (H1.out _).mono ?_); rintro e w1 ⟨rfl, rfl⟩))
 go_ret
 exact ⟨rfl, rfl⟩
theorem asway_any (s : Int) (w : World) : Calls Tryz.prog 155 #[.int .i64 s] w fun e w' => e = .returned (.int .i64 (dist s)) ∧ w = w' := by
 have H1 : Hid (∀ W, Calls Tryz.prog 153 #[.int .i64 s, .int .i64 0, .int .i64 2199023255552] W fun e w' => e = .returned (.int .i64 (dist s)) ∧ W = w') := lh fun W => near_any s 0 2199023255552 (by omega) W
 generalize dist s = v at *
 go_enter Tryz.func155, Tryz.ntmps155
 go_wp2_with (go_at_call 153; ((with_reducible refine (H1.out _).mono ?_); rintro e w1 ⟨rfl, rfl⟩))
 go_ret
 exact ⟨rfl, rfl⟩
theorem slow_form {V U D : Int} (hd : 1 ≤ D) (hu : 0 ≤ U) (h : U < V) (hV : V ≤ 1048576) :
  ∃ m, (V - U - 1) / D = m ∧ 0 ≤ m ∧ m ≤ 1048576 ∧ 0 ≤ m * V ∧ m * V ≤ 1099511627776 ∧ 0 ≤ D * m ∧ D * m ≤ 1048576 ∧ 0 ≤ D * m * (m + 1) ∧ D * m * (m + 1) ≤ 1099512676352 ∧ m * V - D * m * (m + 1) / 2 = slow V U D := by
 have hs := slow_sum hd h
 have q := Int.mul_ediv_add_emod (V - U - 1) D
 have r0 := Int.emod_nonneg (V - U - 1) (show D ≠ 0 by omega)
 have m0 : 0 ≤ (V - U - 1) / D := Int.ediv_nonneg (by omega) (by omega)
 refine ⟨(V - U - 1) / D, rfl, m0, ?_⟩
 generalize (V - U - 1) / D = m at *
 have hmD : m * 1 ≤ D * m := by rw [Int.mul_comm D m]; exact Int.mul_le_mul_of_nonneg_left hd m0
 have hm : m ≤ 1048576 := by omega
 have h1 : 0 ≤ m * V := Int.mul_nonneg m0 (by omega)
 have h2 : m * V ≤ 1048576 * 1048576 := Int.mul_le_mul hm hV (by omega) (by omega)
 have h3 : 0 ≤ D * m := Int.mul_nonneg (by omega) m0
 have h4 : D * m ≤ 1048576 := by omega
 have h5 : 0 ≤ D * m * (m + 1) := Int.mul_nonneg h3 (by omega)
 have h6 : D * m * (m + 1) ≤ 1048576 * 1048577 := Int.mul_le_mul h4 (by omega) (by omega) (by omega)
 have h7 : m * (m + 1) * D = D * m * (m + 1) := by rw [Int.mul_comm _ D, Int.mul_assoc]
 rw [h7] at hs
 refine ⟨hm, h1, by omega, h3, h4, h5, by omega, by omega⟩
set_option maxHeartbeats 1000000 in
theorem slow_same (v u dec : Int) (w : World) : Calls Tryz.prog 116 #[.int .i64 v, .int .i64 u, .int .i64 dec] w fun e w' => e = .returned (.int .i64 (slow (vel v) (vel u) (los dec))) ∧ w = w' := by
 have H1 := lh fun W => speed_any v W
 have H2 := lh fun W => speed_any u W
 have H3 := lh fun W => loss_any dec W
 have b1 := vel_in v
 have b2 := vel_in u
 have b3 := los_in dec
 generalize vel v = V at *
 generalize vel u = U at *
 generalize los dec = D at *
 by_cases h : V ≤ U
 ·have HS : Hid (slow V U D = 0) := lh (slow_end b3.1 (by omega))
  go_enter Tryz.func116, Tryz.ntmps116
  go_wp2_with (first
   | (go_at_call 141; ((with_reducible refine (H1.out _).mono ?_); rintro e w1 ⟨rfl, rfl⟩))
   | (go_at_call 141; ((with_reducible refine (H2.out _).mono ?_); rintro e w1 ⟨rfl, rfl⟩))
   | (go_at_call 142; ((with_reducible refine (H3.out _).mono ?_); rintro e w1 ⟨rfl, rfl⟩)))
  go_ret
  exact ⟨ret_int HS.out.symm, rfl⟩
 ·obtain ⟨m, e1, m0, m1, m2, m3, m4, m5, m6, m7, e2⟩ := slow_form b3.1 b2.1 (show U < V by omega) b1.2
  have hne : ¬ D = 0 := by omega
  have hdb : (D == 0) = false := by rw [beq_eq_false_iff_ne]; exact hne
  have HE := lh e2
  clear e2
  go_enter Tryz.func116, Tryz.ntmps116
  go_wp2_with (first
   | (go_at_call 141; ((with_reducible refine (H1.out _).mono ?_); rintro e w1 ⟨rfl, rfl⟩))
   | (go_at_call 141; ((with_reducible refine (H2.out _).mono ?_); rintro e w1 ⟨rfl, rfl⟩))
   | (go_at_call 142; ((with_reducible refine (H3.out _).mono ?_); rintro e w1 ⟨rfl, rfl⟩)))
  go_ret
  exact ⟨ret_int HE.out, rfl⟩
theorem way_same (v dec : Int) (w : World) : Calls Tryz.prog 83 #[.int .i64 v, .int .i64 dec] w fun e w' => e = .returned (.int .i64 (slow (vel v) 0 (los dec))) ∧ w = w' := by
 have H1 : Hid (∀ W, Calls Tryz.prog 116 #[.int .i64 v, .int .i64 0, .int .i64 dec] W fun e w' => e = .returned (.int .i64 (slow (vel v) 0 (los dec))) ∧ W = w') := lh fun W => slow_same v 0 dec W
 generalize slow (vel v) 0 (los dec) = x at *
 go_enter Tryz.func83, Tryz.ntmps83
 go_wp2_with (go_at_call 116; ((with_reducible refine (H1.out _).mono ?_); rintro e w1 ⟨rfl, rfl⟩))
 go_ret
 exact ⟨rfl, rfl⟩
end Go.Proofs.YtijlccblabadaaaGreat.b
end
section
namespace Go.Proofs.YtijlccblabadaaaGreat.gn
set_option maxRecDepth 100000
open Go.ChangeShapes Go.WideShapes Go.ChangeAt Go.RowKit Go.Proofs.YtijlccblabadaaaGreat.k Go.Proofs.YtijlccblabadaaaGreat.b
set_option linter.unusedVariables false
def Wide (x : Int) : Prop := -9223372036854775808 ≤ x ∧ x ≤ 9223372036854775807
structure WideL (l : L) : Prop where
 V : Wide l.V
 A : Wide l.A
 D : Wide l.D
 lo : Wide l.lo
 hi : Wide l.hi
def landB (p v t : Int) : Bool := decide (p = t ∧ v = 0)
def inB (n lo hi : Int) : Bool := decide (lo ≤ n ∧ n ≤ hi)
theorem inB_yes {n lo hi : Int} (h : lo ≤ n ∧ n ≤ hi) : inB n lo hi = true := decide_eq_true h
theorem inB_no {n lo hi : Int} (h : ¬ (lo ≤ n ∧ n ≤ hi)) : inB n lo hi = false := decide_eq_false h
theorem los_of9 {d : Int} (h0 : 1 ≤ d) (h1 : d ≤ 1048576) : los d = d := by unfold los clamp; omega
theorem within_is {n lo hi : Int} {b : Bool} (h : inB n lo hi = b) (w : World) :
  Calls Tryz.prog 53 #[.int .i64 n, .int .i64 lo, .int .i64 hi] w fun e w' => e = .returned (.bool b) ∧ w = w' := by
 by_cases h1 : lo ≤ n
 ·by_cases h2 : n ≤ hi
  ·have HV := lh (h.symm.trans (inB_yes (n := n) (lo := lo) (hi := hi) ⟨h1, h2⟩))
   clear h
   go_enter Tryz.func53, Tryz.ntmps53
   go_wp2
   go_ret
   exact ⟨by rw [HV.out]; rfl, rfl⟩
  ·have HV := lh (h.symm.trans (inB_no (n := n) (lo := lo) (hi := hi) fun h => h2 h.2))
   clear h
   go_enter Tryz.func53, Tryz.ntmps53
   go_wp2
   go_ret
   exact ⟨by rw [HV.out]; rfl, rfl⟩
 ·have HV := lh (h.symm.trans (inB_no (n := n) (lo := lo) (hi := hi) fun h => h1 h.1))
  clear h
  go_enter Tryz.func53, Tryz.ntmps53
  go_wp2
  go_ret
  exact ⟨by rw [HV.out]; rfl, rfl⟩
theorem near_is {n lo hi x : Int} (h : lo ≤ hi) (hx : clamp n lo hi = x) (w : World) : Calls Tryz.prog 108 #[.int .i64 n, .int .i64 lo, .int .i64 hi] w fun e w' => e = .returned (.int .i64 x) ∧ w = w' := by
 have e : max lo (min n hi) = x := by rw [← hx]; unfold clamp; omega
 clear h hx
 go_enter Tryz.func108, Tryz.ntmps108
 go_wp2
 go_ret
 exact ⟨rfl, rfl⟩
theorem vel_is {s x : Int} (hx : vel s = x) (w : World) : Calls Tryz.prog 147 #[.int .i64 s] w fun e w' => e = .returned (.int .i64 x) ∧ w = w' := by
 have H1 := lh fun W => near_is (n := s) (lo := 0) (hi := 1048576) (x := x) (by omega) hx W
 clear hx
 go_enter Tryz.func147, Tryz.ntmps147
 go_wp2_with (go_at_call 108; ((with_reducible refine (H1.out _).mono ?_); rintro e w1 ⟨rfl, rfl⟩))
 go_ret
 exact ⟨rfl, rfl⟩
def sgn (a b : Int) : Int := if a < b then 1 else if b < a then -1 else 0
theorem nan_any (a : Int) (w : World) : Calls Tryz.prog 137 #[.int .i64 a] w fun e w' => e = .returned (.bool false) ∧ w = w' := by
 have h : (a != a) = false := by simp
 go_enter Tryz.func137, Tryz.ntmps137
 go_wp2
 go_ret
 exact ⟨rfl, rfl⟩
theorem cmp_any (a b : Int) (w : World) : Calls Tryz.prog 110 #[.int .i64 a, .int .i64 b] w fun e w' => e = .returned (.int .i64 (sgn b a)) ∧ w = w' := by
 have H := lh nan_any
 by_cases h1 : a < b
 ·have HS : Hid (sgn b a = -1) := lh (by unfold sgn; rw [if_neg (by omega), if_pos h1])
  go_enter Tryz.func110, Tryz.ntmps110
  go_wp2_with (go_at_call 137; ((with_reducible refine (H.out _ _).mono ?_); rintro e w1 ⟨rfl, rfl⟩))
  go_ret
  exact ⟨ret_int HS.out.symm, rfl⟩
 ·by_cases h2 : b < a
  ·have HS : Hid (sgn b a = 1) := lh (by unfold sgn; rw [if_pos h2])
   go_enter Tryz.func110, Tryz.ntmps110
   go_wp2_with (go_at_call 137; ((with_reducible refine (H.out _ _).mono ?_); rintro e w1 ⟨rfl, rfl⟩))
   go_ret
   exact ⟨ret_int HS.out.symm, rfl⟩
  ·have HS : Hid (sgn b a = 0) := lh (by unfold sgn; rw [if_neg h2, if_neg h1])
   go_enter Tryz.func110, Tryz.ntmps110
   go_wp2_with (go_at_call 137; ((with_reducible refine (H.out _ _).mono ?_); rintro e w1 ⟨rfl, rfl⟩))
   go_ret
   exact ⟨ret_int HS.out.symm, rfl⟩
theorem toward_is {a b x : Int} (hx : sgn a b = x) (w : World) : Calls Tryz.prog 148 #[.int .i64 a, .int .i64 b] w fun e w' => e = .returned (.int .i64 x) ∧ w = w' := by
 have H := lh fun W => cmp_any b a W
 rw [hx] at H
 clear hx
 go_enter Tryz.func148, Tryz.ntmps148
 go_wp2_with (go_at_call 110; ((with_reducible refine (H.out _).mono ?_); rintro e w1 ⟨rfl, rfl⟩))
 go_ret
 exact ⟨rfl, rfl⟩
theorem stops_is {v d a b : Int} {x : Bool} (ha : -1099511627776 ≤ a) (hb : b ≤ 1099511627776) (hab : a ≤ b) (v0 : 0 ≤ v) (v1 : v ≤ 1048576) (d0 : 1 ≤ d) (d1 : d ≤ 1048576) (hx : decide (slow v 0 d ≤ b - a) = x) (w : World) :
  Calls Tryz.prog 54 #[.int .i64 v, .int .i64 d, .int .i64 a, .int .i64 b] w fun e w' => e = .returned (.bool x) ∧ w = w' := by
 have H := lh fun W => way_same v d W
 rw [vel_of v0 v1, los_of9 d0 d1] at H
 have s0 := slow_pos (v := v) (u := 0) (by omega) d0
 have s1 := slow_le (v := v) (u := 0) (by omega) d0 v0 v1
 clear v0 v1 d0 d1
 generalize slow v 0 d = s at *
 have e1 : IntKind.u64.wrap s = s := IntWalk.u64_in _ (by omega)
 have e2 : IntKind.u64.wrap (IntKind.u64.wrap b - IntKind.u64.wrap a) = b - a := by rw [IntKind.wrap_u64, IntKind.wrap_u64, IntKind.wrap_u64]; omega
 go_enter Tryz.func54, Tryz.ntmps54
 go_wp2_with (go_at_call 83; ((with_reducible refine (H.out _).mono ?_); rintro e w1 ⟨rfl, rfl⟩))
 go_ret
 exact ⟨rfl, rfl⟩
set_option maxHeartbeats 4000000 in
theorem right_is {V A D lo hi : Int} {b : Bool} (hx : rightL ⟨V, A, D, lo, hi⟩ = b) (w : World) :
  Calls Tryz.prog 49 #[.agg #[.int .i64 V, .int .i64 A, .int .i64 D, .int .i64 lo, .int .i64 hi]] w fun e w' => e = .returned (.bool b) ∧ w.alloc (.cells #[.int .i64 V, .int .i64 A, .int .i64 D, .int .i64 lo, .int .i64 hi] 23) = w' := by
 by_cases h1 : 1 ≤ V ∧ V ≤ 1048576
 ·have C1 := lh fun W => within_is (inB_yes h1) W
  by_cases h2 : 1 ≤ A ∧ A ≤ 1048576
  ·have C2 := lh fun W => within_is (inB_yes h2) W
   by_cases h3 : 1 ≤ D ∧ D ≤ 1048576
   ·have C3 := lh fun W => within_is (inB_yes h3) W
    by_cases h4 : -1099511627776 ≤ lo ∧ lo ≤ 1099511627776
    ·have C4 := lh fun W => within_is (inB_yes h4) W
     by_cases h5 : lo ≤ hi ∧ hi ≤ 1099511627776
     ·have C5 := lh fun W => within_is (inB_yes h5) W
      have HV : Hid (b = true) := lh (hx.symm.trans (right_yes (by unfold RightL; dsimp only; omega)))
      clear hx h1 h2 h3 h4 h5
      go_enter Tryz.func49, Tryz.ntmps49
      go_wp2_with (first | (go_at_call 53; ((with_reducible refine (C1.out _).mono ?_); rintro e w1 ⟨rfl, rfl⟩)) | (go_at_call 53; ((with_reducible refine (C2.out _).mono ?_); rintro e w1 ⟨rfl, rfl⟩)) | (go_at_call 53; ((with_reducible refine (C3.out _).mono ?_); rintro e w1 ⟨rfl, rfl⟩)) | (go_at_call 53; ((with_reducible refine (C4.out _).mono ?_); rintro e w1 ⟨rfl, rfl⟩)) | (go_at_call 53; ((with_reducible refine (C5.out _).mono ?_); rintro e w1 ⟨rfl, rfl⟩)))
      go_ret
      exact ⟨ret_bool HV.out.symm, rfl⟩
     ·have C5 := lh fun W => within_is (inB_no h5) W
      have HV : Hid (b = false) := lh (hx.symm.trans (right_no (by unfold RightL; dsimp only; omega)))
      clear hx h1 h2 h3 h4 h5
      go_enter Tryz.func49, Tryz.ntmps49
      go_wp2_with (first | (go_at_call 53; ((with_reducible refine (C1.out _).mono ?_); rintro e w1 ⟨rfl, rfl⟩)) | (go_at_call 53; ((with_reducible refine (C2.out _).mono ?_); rintro e w1 ⟨rfl, rfl⟩)) | (go_at_call 53; ((with_reducible refine (C3.out _).mono ?_); rintro e w1 ⟨rfl, rfl⟩)) | (go_at_call 53; ((with_reducible refine (C4.out _).mono ?_); rintro e w1 ⟨rfl, rfl⟩)) | (go_at_call 53; ((with_reducible refine (C5.out _).mono ?_); rintro e w1 ⟨rfl, rfl⟩)))
      go_ret
      exact ⟨ret_bool HV.out.symm, rfl⟩
    ·have C4 := lh fun W => within_is (inB_no h4) W
     have HV : Hid (b = false) := lh (hx.symm.trans (right_no (by unfold RightL; dsimp only; omega)))
     clear hx h1 h2 h3 h4
     go_enter Tryz.func49, Tryz.ntmps49
     go_wp2_with (first | (go_at_call 53; ((with_reducible refine (C1.out _).mono ?_); rintro e w1 ⟨rfl, rfl⟩)) | (go_at_call 53; ((with_reducible refine (C2.out _).mono ?_); rintro e w1 ⟨rfl, rfl⟩)) | (go_at_call 53; ((with_reducible refine (C3.out _).mono ?_); rintro e w1 ⟨rfl, rfl⟩)) | (go_at_call 53; ((with_reducible refine (C4.out _).mono ?_); rintro e w1 ⟨rfl, rfl⟩)))
     go_ret
     exact ⟨ret_bool HV.out.symm, rfl⟩
   ·have C3 := lh fun W => within_is (inB_no h3) W
    have HV : Hid (b = false) := lh (hx.symm.trans (right_no (by unfold RightL; dsimp only; omega)))
    clear hx h1 h2 h3
    go_enter Tryz.func49, Tryz.ntmps49
    go_wp2_with (first | (go_at_call 53; ((with_reducible refine (C1.out _).mono ?_); rintro e w1 ⟨rfl, rfl⟩)) | (go_at_call 53; ((with_reducible refine (C2.out _).mono ?_); rintro e w1 ⟨rfl, rfl⟩)) | (go_at_call 53; ((with_reducible refine (C3.out _).mono ?_); rintro e w1 ⟨rfl, rfl⟩)))
    go_ret
    exact ⟨ret_bool HV.out.symm, rfl⟩
  ·have C2 := lh fun W => within_is (inB_no h2) W
   have HV : Hid (b = false) := lh (hx.symm.trans (right_no (by unfold RightL; dsimp only; omega)))
   clear hx h1 h2
   go_enter Tryz.func49, Tryz.ntmps49
   go_wp2_with (first | (go_at_call 53; ((with_reducible refine (C1.out _).mono ?_); rintro e w1 ⟨rfl, rfl⟩)) | (go_at_call 53; ((with_reducible refine (C2.out _).mono ?_); rintro e w1 ⟨rfl, rfl⟩)))
   go_ret
   exact ⟨ret_bool HV.out.symm, rfl⟩
 ·have C1 := lh fun W => within_is (inB_no h1) W
  have HV : Hid (b = false) := lh (hx.symm.trans (right_no (by unfold RightL; dsimp only; omega)))
  clear hx h1
  go_enter Tryz.func49, Tryz.ntmps49
  go_wp2_with (go_at_call 53; ((with_reducible refine (C1.out _).mono ?_); rintro e w1 ⟨rfl, rfl⟩))
  go_ret
  exact ⟨ret_bool HV.out.symm, rfl⟩
set_option maxHeartbeats 4000000 in
theorem safe_is {V A D lo hi p v : Int} {b : Bool} (hr : RightL ⟨V, A, D, lo, hi⟩) (hv : Wide v) (hx : safeP ⟨V, A, D, lo, hi⟩ p v = b) (w : World) :
  Calls Tryz.prog 31 #[.agg #[.int .i64 V, .int .i64 A, .int .i64 D, .int .i64 lo, .int .i64 hi], .agg #[.int .i64 p, .int .i64 v]] w fun e w' => e = .returned (.bool b) ∧ (w.alloc (.cells #[.int .i64 V, .int .i64 A, .int .i64 D, .int .i64 lo, .int .i64 hi] 23)).alloc (.cells #[.int .i64 p, .int .i64 v] 25) = w' := by
 have HRL := lh hr
 obtain ⟨r1, r2, r3, r4, r5, r6, r7, r8, r9⟩ := hr
 dsimp only at r1 r2 r3 r4 r5 r6 r7 r8 r9
 unfold Wide at hv
 by_cases h1 : lo ≤ p ∧ p ≤ hi
 ·have C1 := lh fun W => within_is (inB_yes h1) W
  by_cases h2 : -1048576 ≤ v ∧ v ≤ 1048576
  ·have C2 := lh fun W => within_is (inB_yes h2) W
   by_cases h3 : v < 0
   ·have hq : safeP ⟨V, A, D, lo, hi⟩ p v = decide (slow (-v) 0 D ≤ p - lo) := by
     unfold safeP
     refine decide_eq_decide.mpr ⟨fun h => ?_, fun h => ⟨HRL.out, h1.1, h1.2, h2.1, h2.2, ?_⟩⟩
     ·have := h.2.2.2.2.2; unfold wayOK at this; rw [if_pos h3] at this; exact this
     ·unfold wayOK; rw [if_pos h3]; exact h
    have CS := lh fun W => stops_is (v := -v) (d := D) (a := lo) (b := p) (by omega) (by omega) (by omega) (by omega) (by omega) (by omega) (by omega) (hq.symm.trans hx) W
    have en : IntKind.i64.wrap (-v) = -v := IntWalk.i64_in _ (by omega)
    clear hx hq
    go_enter Tryz.func31, Tryz.ntmps31
    go_wp2_with (first | (go_at_call 53; ((with_reducible refine (C1.out _).mono ?_); rintro e w1 ⟨rfl, rfl⟩)) | (go_at_call 53; ((with_reducible refine (C2.out _).mono ?_); rintro e w1 ⟨rfl, rfl⟩)) | (go_at_call 54; ((with_reducible refine (CS.out _).mono ?_); rintro e w1 ⟨rfl, rfl⟩)))
    go_ret
    exact ⟨rfl, rfl⟩
   ·have hq : safeP ⟨V, A, D, lo, hi⟩ p v = decide (slow v 0 D ≤ hi - p) := by
     unfold safeP
     refine decide_eq_decide.mpr ⟨fun h => ?_, fun h => ⟨HRL.out, h1.1, h1.2, h2.1, h2.2, ?_⟩⟩
     ·have := h.2.2.2.2.2; unfold wayOK at this; rw [if_neg h3] at this; exact this
     ·unfold wayOK; rw [if_neg h3]; exact h
    have CS := lh fun W => stops_is (v := v) (d := D) (a := p) (b := hi) (by omega) (by omega) (by omega) (by omega) (by omega) (by omega) (by omega) (hq.symm.trans hx) W
    clear hx hq
    go_enter Tryz.func31, Tryz.ntmps31
    go_wp2_with (first | (go_at_call 53; ((with_reducible refine (C1.out _).mono ?_); rintro e w1 ⟨rfl, rfl⟩)) | (go_at_call 53; ((with_reducible refine (C2.out _).mono ?_); rintro e w1 ⟨rfl, rfl⟩)) | (go_at_call 54; ((with_reducible refine (CS.out _).mono ?_); rintro e w1 ⟨rfl, rfl⟩)))
    go_ret
    exact ⟨rfl, rfl⟩
  ·have C2 := lh fun W => within_is (inB_no h2) W
   have HV : Hid (b = false) := lh (hx.symm.trans (safe_no fun h => h2 ⟨h.2.2.2.1, h.2.2.2.2.1⟩))
   clear hx
   go_enter Tryz.func31, Tryz.ntmps31
   go_wp2_with (first | (go_at_call 53; ((with_reducible refine (C1.out _).mono ?_); rintro e w1 ⟨rfl, rfl⟩)) | (go_at_call 53; ((with_reducible refine (C2.out _).mono ?_); rintro e w1 ⟨rfl, rfl⟩)))
   go_ret
   exact ⟨ret_bool HV.out.symm, rfl⟩
 ·have C1 := lh fun W => within_is (inB_no h1) W
  have HV : Hid (b = false) := lh (hx.symm.trans (safe_no fun h => h1 ⟨h.2.1, h.2.2.1⟩))
  clear hx
  go_enter Tryz.func31, Tryz.ntmps31
  go_wp2_with (go_at_call 53; ((with_reducible refine (C1.out _).mono ?_); rintro e w1 ⟨rfl, rfl⟩))
  go_ret
  exact ⟨ret_bool HV.out.symm, rfl⟩
set_option maxHeartbeats 4000000 in
theorem goes_any {V A D lo hi p v : Int} {b : Bool} (hl : WideL ⟨V, A, D, lo, hi⟩) (hp : Wide p) (hv : Wide v) (hx : safeP ⟨V, A, D, lo, hi⟩ p v = b) (w : World) :
  Calls Tryz.prog 106 #[.agg #[.int .i64 V, .int .i64 A, .int .i64 D, .int .i64 lo, .int .i64 hi], .agg #[.int .i64 p, .int .i64 v]] w fun e w' => e = .returned (.bool b) ∧ Below w.heap.size w w' := by
 by_cases hr : RightL ⟨V, A, D, lo, hi⟩
 ·have CR := lh fun W => right_is (right_yes hr) W
  have CS := lh fun W => safe_is hr hv hx W
  clear hr hx
  go_enter Tryz.func106, Tryz.ntmps106
  go_wp2_with (first | (go_at_call 49; ((with_reducible refine (CR.out _).mono ?_); rintro e w1 ⟨rfl, rfl⟩)) | (go_at_call 31; ((with_reducible refine (CS.out _).mono ?_); rintro e w1 ⟨rfl, rfl⟩)))
  go_ret
  exact ⟨rfl, (by repeat (first | with_reducible exact Below.refl _ _ | (with_reducible refine Below.alloc ?_ ?_ _; rotate_left 1; focus (first | (simp; done) | (simp; omega)))))⟩
 ·have CR := lh fun W => right_is (right_no hr) W
  have HV : Hid (b = false) := lh (hx.symm.trans (safe_no fun h => hr h.1))
  clear hr hx
  go_enter Tryz.func106, Tryz.ntmps106
  go_wp2_with (go_at_call 49; ((with_reducible refine (CR.out _).mono ?_); rintro e w1 ⟨rfl, rfl⟩))
  go_ret
  exact ⟨ret_bool HV.out.symm, (by repeat (first | with_reducible exact Below.refl _ _ | (with_reducible refine Below.alloc ?_ ?_ _; rotate_left 1; focus (first | (simp; done) | (simp; omega)))))⟩
end Go.Proofs.YtijlccblabadaaaGreat.gn
end
section
namespace Go.Proofs.YtijlccblabadaaaGreat.b
set_option maxRecDepth 100000
open Go.Shelf Go.RowKit Go.Lib Go.Sort
set_option linter.unusedVariables false
def renSe : Go.Shelf.Ren := ⟨fun | 16 => 164 | n => n, fun | 3 => 3 | 4 => 4 | 35 => 116 | 38 => 132 | n => n, fun | n => n⟩
theorem laysSe : Go.Proofs.SlLaysO.n16 Tryz.prog renSe := {
 mixed := by kernel_rfl
 f16 := Tryz.func164.trans (congrArg some (by kernel_rfl))
 t3 := Tryz.underlying3
 a3 := Tryz.isAgg3
 z3 := Tryz.sizeOf3
 v3 := Tryz.zeroValue3
 t4 := Tryz.underlying4
 a4 := Tryz.isAgg4
 z4 := Tryz.sizeOf4
 v4 := Tryz.zeroValue4
 t35 := Tryz.underlying116
 a35 := Tryz.isAgg116
 z35 := Tryz.sizeOf116
 v35 := Tryz.zeroValue116
 t38 := Tryz.underlying132
 a38 := Tryz.isAgg132
 z38 := Tryz.sizeOf132
 v38 := Tryz.zeroValue132 }
theorem count_at (N : Nat) (v : Int) (v0 : 0 ≤ v) (v1 : v ≤ (N : Int)) : (List.range N).countP (fun i : Nat => !decide (v ≤ (i : Int))) = v.toNat := by
 have hr : ∀ t, t < N → (List.range N)[t]! = t := fun t ht => by rw [getElem!_pos _ t (by simpa using ht)]; simp
 refine Lib.countP_boundary _ (List.range N) v.toNat (by rw [List.length_range]; omega) (fun t ht => ?_) (fun t h3 h4 => ?_)
 ·rw [hr t (by omega), decide_eq_false (by omega)]; rfl
 ·rw [List.length_range] at h4
  rw [hr t (by omega), decide_eq_true (by omega)]; rfl
theorem search_any (g : Nat) (cb : Array Value) (v : Int) (v0 : 0 ≤ v) (v1 : v ≤ 1048576) (w : World) (eg : ∀ args w, (callFunc g args).run Tryz.prog w = .ok (.enter g args) w)
  (hf : ∀ (m : Nat) (os : Array Obj) (i : Int), 0 ≤ i → i < 1048576 → Calls Tryz.prog g (#[.int .i64 i] ++ cb) (grow (w.drewN m) os) fun e w' => e = .returned (.bool (decide (v ≤ i))) ∧ ∃ q os', w' = grow ((grow (w.drewN m) os).drewN q) os') :
  Calls Tryz.prog 164 #[.int .i64 1048576, .func (.func g) #[] cb] w fun e w' => e = .returned (.int .i64 v) ∧ ∃ q os, w' = grow (w.drewN q) os := by
 have h := Any.sort_Search laysSe g cb 1048576 (fun i => decide (v ≤ (i : Int))) w eg (by omega) (fun m os i hi => hf m os (i : Int) (by omega) (by omega)) (fun a b hab hb h => by
  have := of_decide_eq_true h
  exact decide_eq_true (by omega))
 have ec := count_at 1048576 v v0 (by omega)
 rw [ec, show ((v.toNat : Nat) : Int) = v from Int.toNat_of_nonneg v0] at h
 exact h
end Go.Proofs.YtijlccblabadaaaGreat.b
end
section
namespace Go.Proofs.YtijlccblabadaaaGreat.b
set_option maxRecDepth 100000
open Go.Shelf Go.ChangeShapes Go.WideShapes Go.ChangeAt Go.RowKit Go.Lib Go.Sort Go.Proofs.YtijlccblabadaaaGreat.k
set_option linter.unusedVariables false
def Upto (g : Nat) (cb : Array Value) (v : Int) (w : World) : Prop :=
 ∀ (m : Nat) (os : Array Obj) (x : Int), 0 ≤ x → x ≤ 1048576 → Calls Tryz.prog g (#[.int .i64 x] ++ cb) (grow (w.drewN m) os) fun e w' => e = .returned (.bool (decide (x ≤ v))) ∧ ∃ q os', w' = grow ((grow (w.drewN m) os).drewN q) os'
theorem Upto.alloc {g : Nat} {cb : Array Value} {v : Int} {w : World} (h : Upto g cb v w) (o : Obj) : Upto g cb v (w.alloc o) := by
 intro m os x x0 x1
 have e : grow ((w.alloc o).drewN m) os = grow (w.drewN m) (#[o] ++ os) := by
  rw [alloc_eq_grow]
  show grow (grow (w.drewN m) #[o]) os = _
  rw [grow_grow]
 rw [e]
 exact h m (#[o] ++ os) x x0 x1
set_option maxHeartbeats 1000000 in
theorem not_any (g : Nat) (cb : Array Value) (v : Int) (w : World) (eg : ∀ args w, (callFunc g args).run Tryz.prog w = .ok (.enter g args) w) (hf : Upto g cb v w) (m : Nat) (os : Array Obj) (i : Int) (i0 : 0 ≤ i) (i1 : i < 1048576) (p : Addr)
  (cp : (grow (w.drewN m) os).cell? p = some (.func (.func g) #[] cb)) :
  Calls Tryz.prog 165 (#[.int .i64 i] ++ #[.pointer (some p)]) (grow (w.drewN m) os) fun e w' => e = .returned (.bool (decide (v ≤ i))) ∧ ∃ q os', w' = grow ((grow (w.drewN m) os).drewN q) os' := by
 have hc := hf m os (i + 1) (by omega) (by omega)
 have hb : decide (i + 1 ≤ v) = !(decide (v ≤ i)) := by
  by_cases h : v ≤ i
  ·rw [decide_eq_true h, decide_eq_false (by omega)]; rfl
  ·rw [decide_eq_false h, decide_eq_true (by omega)]; rfl
 rw [hb] at hc
 have HC := lh hc
 clear hc hb hf
 generalize decide (v ≤ i) = b at *
 generalize grow (w.drewN m) os = W at *
 go_enter Tryz.func165, Tryz.ntmps165
 go_wp2_with (go_at_fn g; ((with_reducible refine HC.out.mono ?_); rintro e w1 ⟨rfl, q, os1, rfl⟩))
 go_ret
 exact ⟨by cases b <;> rfl, q, os1, rfl⟩
theorem greatest_any (g : Nat) (cb : Array Value) (v : Int) (v0 : 0 ≤ v) (v1 : v ≤ 1048576) (w : World) (eg : ∀ args w, (callFunc g args).run Tryz.prog w = .ok (.enter g args) w) (hf : Upto g cb v w) :
  Calls Tryz.prog 156 #[.func (.func g) #[] cb] w fun e w' => e = .returned (.int .i64 v) ∧ Below w.heap.size w w' := by
 obtain ⟨W0, hW0⟩ : ∃ W0, W0 = w.alloc (.cells #[.func (.func g) #[] cb] 73) := ⟨_, rfl⟩
 have hs : W0.heap.size = w.heap.size + 1 := by rw [hW0]; simp
 have cp : W0.cell? ⟨w.heap.size, 0, none⟩ = some (.func (.func g) #[] cb) := by rw [hW0]; exact cell_new_sl w _ _
 have hf0 : Upto g cb v W0 := by rw [hW0]; exact hf.alloc _
 have HS := lh (search_any 165 #[.pointer (some ⟨w.heap.size, 0, none⟩)] v v0 v1 W0 (enters_of Tryz.func165 (by kernel_rfl) rfl)
  (fun m os i i0 i1 => not_any g cb v W0 eg hf0 m os i i0 i1 _ (cell_grown (by rw [hs]; exact Nat.lt_succ_self _) cp m os)))
 have hB : Below w.heap.size w W0 := by rw [hW0]; exact (Below.refl _ w).alloc (Nat.le_refl _) _
 clear hf hf0 cp
 go_enter Tryz.func156, Tryz.ntmps156
 go_wp2_with (go_at_call 164; rw [← hW0]; ((with_reducible refine HS.out.mono ?_); rintro e w1 ⟨rfl, q, os, rfl⟩))
 go_ret
 rw [← hW0]
 exact ⟨rfl, hB.trans (below_grown_sl w.heap.size W0 q os (by omega))⟩
theorem way_quiet (v dec X : Int) (h : slow (vel v) 0 (los dec) = X) (W : World) (q : Nat) : Calls Tryz.prog 83 #[.int .i64 v, .int .i64 dec] (W.drewN q) fun e w'' => e = .returned (.int .i64 X) ∧ ∃ m, w'' = W.drewN m :=
 (way_same v dec (W.drewN q)).mono fun _ _ hh => ⟨by rw [hh.1, h], q, hh.2.symm⟩
theorem slow_quiet (v u dec X : Int) (h : slow (vel v) (vel u) (los dec) = X) (W : World) (q : Nat) : Calls Tryz.prog 116 #[.int .i64 v, .int .i64 u, .int .i64 dec] (W.drewN q) fun e w'' => e = .returned (.int .i64 X) ∧ ∃ m, w'' = W.drewN m :=
 (slow_same v u dec (W.drewN q)).mono fun _ _ hh => ⟨by rw [hh.1, h], q, hh.2.symm⟩
theorem reach_fits {S D x : Int} (hD : 1 ≤ D) (hS : 0 ≤ S) (x0 : 0 ≤ x) (x1 : x ≤ 1048576) : decide (x ≤ reachV S D) = decide (x + slow x 0 D ≤ S) := by
 have h := reachV_is hS hD
 by_cases hx : x ≤ reachV S D
 ·have := slow_mono (u := 0) (by omega) hD hx
  have := h.2.2.1
  rw [decide_eq_true hx, decide_eq_true (by omega)]
 ·rw [decide_eq_false hx, decide_eq_false (fun hw => hx (reach_top hD h x1 hw))]
theorem pass_fits {S U D x : Int} (hU : 0 ≤ U) (hU1 : U ≤ 1048576) (hD : 1 ≤ D) (x0 : 0 ≤ x) (x1 : x ≤ 1048576) : decide (x ≤ passV S U D) = (decide (x ≤ U) || decide (x + slow x U D ≤ S)) := by
 have h := passV_is (s := S) hU hU1 hD
 by_cases hx : x ≤ U
 ·rw [decide_eq_true hx, decide_eq_true (Int.le_trans hx h.1)]; rfl
 ·rw [decide_eq_false hx, Bool.false_or]
  by_cases hp : x ≤ passV S U D
  ·have := slow_mono hU hD hp
   have h2 := h.2.2.1
   rw [decide_eq_true hp, decide_eq_true (by omega)]
  ·rw [decide_eq_false hp, decide_eq_false (fun hw => hp (pass_top hU hD h x1 (by omega) (.inr hw)))]
theorem fits_any (S dec x : Int) (x0 : 0 ≤ x) (x1 : x ≤ 1048576) (hS : 0 ≤ S ∧ S ≤ 2199023255552) (pd ps : Addr) (w : World) (cd : w.cell? pd = some (.int .i64 dec)) (cs : w.cell? ps = some (.int .i64 S)) :
  Calls Tryz.prog 157 #[.int .i64 x, .pointer (some pd), .pointer (some ps)] w fun e w' => e = .returned (.bool (decide (x ≤ reachV S (los dec)))) ∧ ∃ m, w' = w.drewN m := by
 have hl := los_in dec
 rw [reach_fits hl.1 hS.1 x0 x1]
 have hp := slow_pos (v := vel x) (u := 0) (by omega) hl.1
 have hb := slow_le (u := 0) (by omega) hl.1 (vel_in x).1 (vel_in x).2
 have hX : slow (vel x) 0 (los dec) = slow x 0 (los dec) := by rw [vel_of x0 x1]
 rw [hX] at hp hb
 have HX := lh hX
 clear hX
 generalize slow x 0 (los dec) = X at *
 go_enter Tryz.func157, Tryz.ntmps157
 go_wp2
 go_quiet ((go_at_call 83; with_reducible exact way_quiet _ _ _ HX.out _ _))
 go_wp2
 go_ret
 exact ⟨rfl, _, rfl⟩
theorem upto_reach (S dec : Int) (hS : 0 ≤ S ∧ S ≤ 2199023255552) (pd ps : Addr) (w : World) (cd : w.cell? pd = some (.int .i64 dec)) (cs : w.cell? ps = some (.int .i64 S)) :
  Upto 157 #[.pointer (some pd), .pointer (some ps)] (reachV S (los dec)) w := fun m os x x0 x1 =>
 (fits_any S dec x x0 x1 hS pd ps (grow (w.drewN m) os) (cell_grown (World.block_lt_of_cell? _ _ cd) cd m os) (cell_grown (World.block_lt_of_cell? _ _ cs) cs m os)).mono fun _ _ ⟨h1, q, h2⟩ => ⟨h1, q, #[], by rw [h2, grow_empty]⟩
theorem reach_any (s dec : Int) (w : World) : Calls Tryz.prog 149 #[.int .i64 s, .int .i64 dec] w fun e w' => e = .returned (.int .i64 (reachV (dist s) (los dec))) ∧ Below w.heap.size w w' := by
 have H1 := lh fun W => asway_any s W
 have hd := dist_in s
 have hr := reachV_is hd.1 (los_in dec).1
 have HG := lh fun pd ps W cd cs => greatest_any 157 #[.pointer (some pd), .pointer (some ps)] (reachV (dist s) (los dec)) hr.1 hr.2.1 W (enters_of Tryz.func157 (by kernel_rfl) rfl) (upto_reach (dist s) dec hd pd ps W cd cs)
 clear hr
 generalize reachV (dist s) (los dec) = v at *
 generalize dist s = S at *
 go_enter Tryz.func149, Tryz.ntmps149
 go_wp2_with (first
  | (go_at_call 155; ((with_reducible refine (H1.out _).mono ?_); rintro e w1 ⟨rfl, rfl⟩))
  | (go_at_call 156; ((with_reducible refine (HG.out _ _ _ (by simp [go_sem]) (by simp [go_sem])).mono ?_); rintro e w1 ⟨rfl, hb⟩)))
 go_ret
 exact ⟨rfl, Below.trans (((Below.refl _ _).alloc (Nat.le_refl _) _).alloc (by simp) _) (hb.mono (by simp; omega))⟩
theorem passes_any (S U dec x : Int) (x0 : 0 ≤ x) (x1 : x ≤ 1048576) (hS : 0 ≤ S ∧ S ≤ 2199023255552) (hU : 0 ≤ U ∧ U ≤ 1048576) (pu pd ps : Addr) (w : World) (cu : w.cell? pu = some (.int .i64 U)) (cd : w.cell? pd = some (.int .i64 dec)) (cs : w.cell? ps = some (.int .i64 S)) :
  Calls Tryz.prog 158 #[.int .i64 x, .pointer (some pu), .pointer (some pd), .pointer (some ps)] w fun e w' => e = .returned (.bool (decide (x ≤ passV S U (los dec)))) ∧ ∃ m, w' = w.drewN m := by
 have hl := los_in dec
 rw [pass_fits hU.1 hU.2 hl.1 x0 x1]
 have hp := slow_pos (v := vel x) (u := U) hU.1 hl.1
 have hb := slow_le (u := U) hU.1 hl.1 (vel_in x).1 (vel_in x).2
 have hX : slow (vel x) (vel U) (los dec) = slow x U (los dec) := by rw [vel_of x0 x1, vel_of hU.1 hU.2]
 rw [vel_of x0 x1] at hp hb
 have HX := lh hX
 clear hX
 generalize slow x U (los dec) = X at *
 by_cases h : x ≤ U
 ·have hd : decide (x ≤ U) = true := decide_eq_true h
  have HV : Hid (true = (decide (x ≤ U) || decide (x + X ≤ S))) := lh (by rw [hd]; rfl)
  go_enter Tryz.func158, Tryz.ntmps158
  go_wp2
  go_quiet ((go_at_call 116; with_reducible exact slow_quiet _ _ _ _ HX.out _ _))
  go_wp2
  go_ret
  exact ⟨ret_bool HV.out, _, rfl⟩
 ·have hd : decide (x ≤ U) = false := decide_eq_false h
  have HV : Hid (decide (x + X ≤ S) = (decide (x ≤ U) || decide (x + X ≤ S))) := lh (by rw [hd]; rfl)
  go_enter Tryz.func158, Tryz.ntmps158
  go_wp2
  go_quiet ((go_at_call 116; with_reducible exact slow_quiet _ _ _ _ HX.out _ _))
  go_wp2
  go_ret
  exact ⟨ret_bool HV.out, _, rfl⟩
theorem upto_pass (S U dec : Int) (hS : 0 ≤ S ∧ S ≤ 2199023255552) (hU : 0 ≤ U ∧ U ≤ 1048576) (pu pd ps : Addr) (w : World) (cu : w.cell? pu = some (.int .i64 U)) (cd : w.cell? pd = some (.int .i64 dec)) (cs : w.cell? ps = some (.int .i64 S)) :
  Upto 158 #[.pointer (some pu), .pointer (some pd), .pointer (some ps)] (passV S U (los dec)) w := fun m os x x0 x1 =>
 (passes_any S U dec x x0 x1 hS hU pu pd ps (grow (w.drewN m) os) (cell_grown (World.block_lt_of_cell? _ _ cu) cu m os) (cell_grown (World.block_lt_of_cell? _ _ cd) cd m os) (cell_grown (World.block_lt_of_cell? _ _ cs) cs m os)).mono fun _ _ ⟨h1, q, h2⟩ => ⟨h1, q, #[], by rw [h2, grow_empty]⟩
set_option maxHeartbeats 2000000 in
theorem pass_any (s u dec : Int) (w : World) : Calls Tryz.prog 150 #[.int .i64 s, .int .i64 u, .int .i64 dec] w fun e w' => e = .returned (.int .i64 (passV (dist s) (vel u) (los dec))) ∧ Below w.heap.size w w' := by
 have H1 := lh fun W => asway_any s W
 have H2 := lh fun W => speed_any u W
 have hd := dist_in s
 have hu := vel_in u
 have hr := passV_is (s := dist s) hu.1 hu.2 (los_in dec).1
 have HG := lh fun pu pd ps W cu cd cs => greatest_any 158 #[.pointer (some pu), .pointer (some pd), .pointer (some ps)] (passV (dist s) (vel u) (los dec)) (Int.le_trans hu.1 hr.1) hr.2.1 W (enters_of Tryz.func158 (by kernel_rfl) rfl) (upto_pass (dist s) (vel u) dec hd hu pu pd ps W cu cd cs)
 clear hr
 generalize passV (dist s) (vel u) (los dec) = v at *
 generalize dist s = S at *
 generalize vel u = U at *
 go_enter Tryz.func150, Tryz.ntmps150
 go_wp2
 go_region_with (first
  | (go_at_call 155; ((with_reducible refine (H1.out _).mono ?_); rintro e w1 ⟨rfl, rfl⟩))
  | (go_at_call 141; ((with_reducible refine (H2.out _).mono ?_); rintro e w1 ⟨rfl, rfl⟩)))
 all_goals go_wp2_with (go_at_call 156; ((with_reducible refine (HG.out _ _ _ _ (by simp [go_sem]) (by simp [go_sem]) (by simp [go_sem])).mono ?_); rintro e w1 ⟨rfl, hb⟩))
 all_goals go_ret
 all_goals refine ⟨rfl, Below.trans (((((Below.refl _ _).alloc (Nat.le_refl _) _).alloc (by simp) _).alloc (by simp; omega) _).drew) (hb.mono ?_)⟩
 all_goals simp [go_sem]
 all_goals omega
end Go.Proofs.YtijlccblabadaaaGreat.b
end
section
namespace Go.Proofs.YtijlccblabadaaaGreat.gn
set_option maxRecDepth 100000
open Go.ChangeShapes Go.WideShapes Go.ChangeAt Go.RowKit Go.Proofs.YtijlccblabadaaaGreat.k Go.Proofs.YtijlccblabadaaaGreat.b
set_option linter.unusedVariables false
theorem two_eq {a a' b b' : Int} (h : a = a') (h2 : b = b') : Ending.returned (.tuple #[.int .i64 a, .int .i64 b]) = .returned (.tuple #[.int .i64 a', .int .i64 b']) := by rw [h, h2]
theorem dist_of {s : Int} (h0 : 0 ≤ s) (h1 : s ≤ 2199023255552) : dist s = s := by unfold dist clamp; omega
theorem wide_right {l : L} (h : RightL l) : WideL l := by
 obtain ⟨_, _, _, _, _, _, _, _, _⟩ := h
 constructor <;> unfold Wide <;> omega
theorem wide_safe {l : L} (h : RightL l) {p v : Int} (hs : SafeP l p v) : Wide p ∧ Wide v := by
 obtain ⟨_, _, _, _, _, _, _, _, _⟩ := h
 obtain ⟨_, _, _, _, _⟩ := hs
 unfold Wide
 omega
set_option maxHeartbeats 4000000 in
theorem ahead_any {V A D lo hi v room x y : Int} (hr : RightL ⟨V, A, D, lo, hi⟩) (v0 : 0 ≤ v) (v1 : v ≤ 1048576) (s0 : 0 ≤ room) (s1 : room ≤ 2199023255552) (hx : nextV v D = x) (hy : hiOf ⟨V, A, D, lo, hi⟩ v room = y) (w : World) :
  Calls Tryz.prog 134 #[.agg #[.int .i64 V, .int .i64 A, .int .i64 D, .int .i64 lo, .int .i64 hi], .int .i64 v, .int .i64 room] w fun e w' => e = .returned (.tuple #[.int .i64 x, .int .i64 y]) ∧ Below w.heap.size w w' := by
 obtain ⟨r1, r2, r3, r4, r5, r6, r7, r8, r9⟩ := hr
 dsimp only at r1 r2 r3 r4 r5 r6 r7 r8 r9
 have H := fun W => reach_any room D W
 rw [dist_of s0 s1, los_of9 r5 r6] at H
 have HR := lh H
 clear H
 have b0 := reach_in (s := room) (d := D) s0 r5
 have nx := nextV_in v0 r5
 unfold hiOf at hy
 dsimp only at hy
 rw [hx] at hy nx
 generalize reachV room D = R at *
 have ex : max (v - D) 0 = x := by rw [← hx]; unfold nextV; omega
 clear hx
 have e1 : IntKind.i64.wrap (v - D) = v - D := IntWalk.i64_in _ (by omega)
 have e2 : IntKind.i64.wrap (v + A) = v + A := IntWalk.i64_in _ (by omega)
 have HY := lh hy
 clear hy
 go_enter Tryz.func134, Tryz.ntmps134
 go_upto_region 2 with fail
 obtain ⟨x1, x2, x3⟩ := k.boxes1 (w := w) (c1 := #[.int .i64 V, .int .i64 A, .int .i64 D, .int .i64 lo, .int .i64 hi]) (t1 := 23) (Below.refl _ _)
 generalize w.alloc (.cells #[.int .i64 V, .int .i64 A, .int .i64 D, .int .i64 lo, .int .i64 hi] 23) = w2 at x1 x2 x3 ⊢
 have X3 := lh x2
 have B3 := lh x1
 obtain ⟨lc0, _, lc1, _, lc2, _, lc3, _, lc4, _, _⟩ := x1
 clear x2
 go_region_held3 (fun w' => w'.cell? ⟨w.heap.size, 0, none⟩ = some (.int .i64 V) ∧ w'.cell? ⟨w.heap.size, 1, none⟩ = some (.int .i64 A) ∧ w'.cell? ⟨w.heap.size, 2, none⟩ = some (.int .i64 D))
  (go_keep)
  (first
   | (go_at_call 149; ((with_reducible refine (HR.out _).mono ?_); rintro e w6 ⟨rfl, hb6⟩; have hb : Below w2.heap.size w2 w6 := ((Below.refl _ _).drew).trans hb6; obtain ⟨dc0, _, dc1, _, dc2, _, _⟩ := B3.out.below hb x3; have X4 := lh (X3.out.trans (hb.mono X3.out.size)); clear hb hb6))
   | fail)
 all_goals go_wp2
 all_goals go_ret2
 all_goals exact ⟨two_eq rfl (by have := HY.out; omega), X4.out⟩
set_option maxHeartbeats 4000000 in
theorem may_is {V A D lo hi p v x y : Int} (hr : RightL ⟨V, A, D, lo, hi⟩) (hs : SafeP ⟨V, A, D, lo, hi⟩ p v) (hx : mayLo ⟨V, A, D, lo, hi⟩ p v = x) (hy : mayHi ⟨V, A, D, lo, hi⟩ p v = y) (w : World) :
  Calls Tryz.prog 107 #[.agg #[.int .i64 V, .int .i64 A, .int .i64 D, .int .i64 lo, .int .i64 hi], .agg #[.int .i64 p, .int .i64 v]] w fun e w' => e = .returned (.tuple #[.int .i64 x, .int .i64 y]) ∧ Below w.heap.size w w' := by
 have hw := wide_safe hr hs
 have CG := lh fun W => goes_any (wide_right hr) hw.1 hw.2 (safe_yes hr hs) W
 clear hw
 have hmm := may_le hr hs
 rw [hx, hy] at hmm
 have HRL := lh hr
 obtain ⟨r1, r2, r3, r4, r5, r6, r7, r8, r9⟩ := hr
 obtain ⟨s1, s2, s3, s4, s5⟩ := hs
 dsimp only at r1 r2 r3 r4 r5 r6 r7 r8 r9 s1 s2
 unfold mayLo at hx
 unfold mayHi at hy
 dsimp only at hx hy
 by_cases h1 : 0 < v
 ·rw [if_pos h1] at hx
  rw [if_neg (show ¬ v < 0 by omega)] at hy
  have CA := lh fun W => ahead_any HRL.out (room := hi - p) (by omega) (by omega) (by omega) (by omega) hx hy W
  clear hx hy hmm s5
  have e1 : IntKind.i64.wrap (hi - p) = hi - p := IntWalk.i64_in _ (by omega)
  go_enter Tryz.func107, Tryz.ntmps107
  go_wp2_with (first | (go_at_call 106; ((with_reducible refine (CG.out _).mono ?_); rintro e w2 ⟨rfl, hb⟩; obtain ⟨x1, x2, x3, x4⟩ := k.boxes2 hb; have X2 := lh x1; have Y2 := lh x2; have H2 := lh x3; obtain ⟨lc0, _, lc1, _, lc2, _, lc3, _, lc4, _, _⟩ := x1; obtain ⟨gc0, _, gc1, _, _⟩ := x2; clear hb x3)) | (go_at_call 134; ((with_reducible refine (CA.out _).mono ?_); rintro e w3 ⟨rfl, hb⟩; have X3 := lh (X2.out.below hb (by omega)); have Y3 := lh (Y2.out.below hb (by omega)); have H3 := lh (H2.out.trans (hb.mono H2.out.size)); have z3 : w.heap.size + 1 < w3.heap.size := Nat.lt_of_lt_of_le x4 hb.size; clear lc0 lc1 lc2 lc3 lc4 gc0 gc1; obtain ⟨lc0, _, lc1, _, lc2, _, lc3, _, lc4, _, _⟩ := X3.out; obtain ⟨gc0, _, gc1, _, _⟩ := Y3.out; clear hb)))
  go_ret2
  exact ⟨rfl, H3.out⟩
 ·rw [if_neg h1] at hx
  by_cases h2 : v < 0
  ·rw [if_pos h2] at hy
   obtain ⟨a, ha⟩ : ∃ a, nextV (-v) D = a := ⟨_, rfl⟩
   obtain ⟨b, hb⟩ : ∃ b, hiOf ⟨V, A, D, lo, hi⟩ (-v) (p - lo) = b := ⟨_, rfl⟩
   have CA := lh fun W => ahead_any HRL.out (room := p - lo) (by omega) (by omega) (by omega) (by omega) ha hb W
   rw [hb] at hx
   rw [ha] at hy
   clear ha hb s5
   have e1 : IntKind.i64.wrap (p - lo) = p - lo := IntWalk.i64_in _ (by omega)
   have e2 : IntKind.i64.wrap (-v) = -v := IntWalk.i64_in _ (by omega)
   have e3 : IntKind.i64.wrap (-a) = -a := IntWalk.i64_in _ (by omega)
   have e4 : IntKind.i64.wrap (-b) = -b := IntWalk.i64_in _ (by omega)
   have HX := lh (And.intro hx hy)
   clear hx hy hmm
   go_enter Tryz.func107, Tryz.ntmps107
   go_wp2_with (first | (go_at_call 106; ((with_reducible refine (CG.out _).mono ?_); rintro e w2 ⟨rfl, hb⟩; obtain ⟨x1, x2, x3, x4⟩ := k.boxes2 hb; have X2 := lh x1; have Y2 := lh x2; have H2 := lh x3; obtain ⟨lc0, _, lc1, _, lc2, _, lc3, _, lc4, _, _⟩ := x1; obtain ⟨gc0, _, gc1, _, _⟩ := x2; clear hb x3)) | (go_at_call 134; ((with_reducible refine (CA.out _).mono ?_); rintro e w3 ⟨rfl, hb⟩; have X3 := lh (X2.out.below hb (by omega)); have Y3 := lh (Y2.out.below hb (by omega)); have H3 := lh (H2.out.trans (hb.mono H2.out.size)); have z3 : w.heap.size + 1 < w3.heap.size := Nat.lt_of_lt_of_le x4 hb.size; clear lc0 lc1 lc2 lc3 lc4 gc0 gc1; obtain ⟨lc0, _, lc1, _, lc2, _, lc3, _, lc4, _, _⟩ := X3.out; obtain ⟨gc0, _, gc1, _, _⟩ := Y3.out; clear hb)))
   go_ret2
   exact ⟨two_eq HX.out.1 HX.out.2, H3.out⟩
  ·have e : v = 0 := by omega
   rw [if_neg h2] at hy
   rw [e] at hx hy
   rw [show -(0 : Int) = 0 from rfl] at hx
   have ez : nextV 0 D = 0 := nextV_zero r5
   obtain ⟨b, hb⟩ : ∃ b, hiOf ⟨V, A, D, lo, hi⟩ 0 (p - lo) = b := ⟨_, rfl⟩
   have CA := lh fun W => ahead_any HRL.out (room := hi - p) (by omega) (by omega) (by omega) (by omega) ez hy W
   have CB := lh fun W => ahead_any HRL.out (room := p - lo) (by omega) (by omega) (by omega) (by omega) ez hb W
   rw [hb] at hx
   clear ez hb hy s5 e
   have e1 : IntKind.i64.wrap (p - lo) = p - lo := IntWalk.i64_in _ (by omega)
   have e2 : IntKind.i64.wrap (hi - p) = hi - p := IntWalk.i64_in _ (by omega)
   have e4 : IntKind.i64.wrap (-b) = -b := IntWalk.i64_in _ (by omega)
   have HX := lh hx
   clear hx hmm
   go_enter Tryz.func107, Tryz.ntmps107
   go_wp2_with (first | (go_at_call 106; ((with_reducible refine (CG.out _).mono ?_); rintro e w2 ⟨rfl, hb⟩; obtain ⟨x1, x2, x3, x4⟩ := k.boxes2 hb; have X2 := lh x1; have Y2 := lh x2; have H2 := lh x3; obtain ⟨lc0, _, lc1, _, lc2, _, lc3, _, lc4, _, _⟩ := x1; obtain ⟨gc0, _, gc1, _, _⟩ := x2; clear hb x3)) | (go_at_call 134; ((with_reducible refine (CA.out _).mono ?_); rintro e w3 ⟨rfl, hb⟩; have X3 := lh (X2.out.below hb (by omega)); have Y3 := lh (Y2.out.below hb (by omega)); have H3 := lh (H2.out.trans (hb.mono H2.out.size)); have z3 : w.heap.size + 1 < w3.heap.size := Nat.lt_of_lt_of_le x4 hb.size; clear lc0 lc1 lc2 lc3 lc4 gc0 gc1; obtain ⟨lc0, _, lc1, _, lc2, _, lc3, _, lc4, _, _⟩ := X3.out; obtain ⟨gc0, _, gc1, _, _⟩ := Y3.out; clear hb)) | (go_at_call 134; ((with_reducible refine (CB.out _).mono ?_); rintro e w4 ⟨rfl, hb⟩; have X4 := lh (X3.out.below hb (by omega)); have Y4 := lh (Y3.out.below hb (by omega)); have H4 := lh (H3.out.trans (hb.mono H3.out.size)); have z4 : w.heap.size + 1 < w4.heap.size := Nat.lt_of_lt_of_le z3 hb.size; clear lc0 lc1 lc2 lc3 lc4 gc0 gc1; obtain ⟨lc0, _, lc1, _, lc2, _, lc3, _, lc4, _, _⟩ := X4.out; obtain ⟨gc0, _, gc1, _, _⟩ := Y4.out; clear hb)))
   go_ret2
   exact ⟨two_eq HX.out rfl, H4.out⟩
set_option maxHeartbeats 4000000 in
theorem may_no' {V A D lo hi p v : Int} (hl : WideL ⟨V, A, D, lo, hi⟩) (hp : Wide p) (hv : Wide v) (h : ¬ (RightL ⟨V, A, D, lo, hi⟩ ∧ SafeP ⟨V, A, D, lo, hi⟩ p v)) (w : World) :
  Calls Tryz.prog 107 #[.agg #[.int .i64 V, .int .i64 A, .int .i64 D, .int .i64 lo, .int .i64 hi], .agg #[.int .i64 p, .int .i64 v]] w fun e w' => e = .returned (.tuple #[.int .i64 0, .int .i64 0]) ∧ Below w.heap.size w w' := by
 have CG := lh fun W => goes_any hl hp hv (safe_no h) W
 clear hl hp hv h
 go_enter Tryz.func107, Tryz.ntmps107
 go_wp2_with (go_at_call 106; ((with_reducible refine (CG.out _).mono ?_); rintro e w2 ⟨rfl, hb⟩; obtain ⟨x1, x2, x3, x4⟩ := k.boxes2 hb; have X2 := lh x1; have Y2 := lh x2; have H2 := lh x3; obtain ⟨lc0, _, lc1, _, lc2, _, lc3, _, lc4, _, _⟩ := x1; obtain ⟨gc0, _, gc1, _, _⟩ := x2; clear hb x3))
 go_ret2
 exact ⟨rfl, H2.out⟩
set_option maxHeartbeats 4000000 in
theorem step_is {V A D lo hi p v x X : Int} (hr : RightL ⟨V, A, D, lo, hi⟩) (hs : SafeP ⟨V, A, D, lo, hi⟩ p v) (hX : stepV ⟨V, A, D, lo, hi⟩ p v x = X) (w : World) :
  Calls Tryz.prog 75 #[.agg #[.int .i64 V, .int .i64 A, .int .i64 D, .int .i64 lo, .int .i64 hi], .agg #[.int .i64 p, .int .i64 v], .int .i64 x] w fun e w' => e = .returned (.agg #[.int .i64 (p + X), .int .i64 X]) ∧ Below w.heap.size w w' := by
 have hw := wide_safe hr hs
 have CG := lh fun W => goes_any (wide_right hr) hw.1 hw.2 (safe_yes hr hs) W
 clear hw
 have hmm := may_le hr hs
 obtain ⟨a, ha⟩ : ∃ a, mayLo ⟨V, A, D, lo, hi⟩ p v = a := ⟨_, rfl⟩
 obtain ⟨b, hb⟩ : ∃ b, mayHi ⟨V, A, D, lo, hi⟩ p v = b := ⟨_, rfl⟩
 have CM := lh fun W => may_is hr hs ha hb W
 unfold stepV at hX
 rw [ha, hb] at hX hmm
 have CN := lh fun W => near_is hmm.1 hX W
 have hXb := clamp_mid (n := x) hmm.1
 rw [hX] at hXb
 obtain ⟨r1, r2, r3, r4, r5, r6, r7, r8, r9⟩ := hr
 obtain ⟨s1, s2, s3, s4, s5⟩ := hs
 dsimp only at r1 r2 r3 r4 r5 r6 r7 r8 r9 s1 s2
 clear ha hb hX s5
 have e1 : IntKind.i64.wrap (p + X) = p + X := IntWalk.i64_in _ (by omega)
 go_enter Tryz.func75, Tryz.ntmps75
 go_wp2_with (first | (go_at_call 106; ((with_reducible refine (CG.out _).mono ?_); rintro e w2 ⟨rfl, hb⟩; obtain ⟨x1, x2, x5, x3, x4⟩ := k.boxes3 hb; have X2 := lh x1; have Y2 := lh x2; have R2 := lh x5; have H2 := lh x3; obtain ⟨lc0, _, lc1, _, lc2, _, lc3, _, lc4, _, _⟩ := x1; obtain ⟨gc0, _, gc1, _, _⟩ := x2; obtain ⟨rc0, rf0, rc1, rf1, _⟩ := x5; clear hb x3)) | (go_at_call 107; ((with_reducible refine (CM.out _).mono ?_); rintro e w3 ⟨rfl, hb⟩; have X3 := lh (X2.out.below hb (by omega)); have Y3 := lh (Y2.out.below hb (by omega)); have R3 := lh (R2.out.below hb (by omega)); have H3 := lh (H2.out.trans (hb.mono H2.out.size)); have z3 : w.heap.size + 2 < w3.heap.size := Nat.lt_of_lt_of_le x4 hb.size; clear lc0 lc1 lc2 lc3 lc4 gc0 gc1 rc0 rf0 rc1 rf1; obtain ⟨lc0, _, lc1, _, lc2, _, lc3, _, lc4, _, _⟩ := X3.out; obtain ⟨gc0, _, gc1, _, _⟩ := Y3.out; obtain ⟨rc0, rf0, rc1, rf1, _⟩ := R3.out; clear hb)) | (go_at_call 108; ((with_reducible refine (CN.out _).mono ?_); rintro e w9 ⟨rfl, rfl⟩)))
 refine bodyPost_ret (v := .agg #[.int .i64 (p + X), .int .i64 X]) (by simp [results, Tryz.results75, go_sem, rc0, rc1]) rfl ⟨rfl, ?_⟩
 repeat (first | with_reducible exact H3.out | (with_reducible refine Below.setCell ?_ ?_ _; rotate_left 1; focus (first | (simp; done) | (simp; omega) | omega)))
end Go.Proofs.YtijlccblabadaaaGreat.gn
end
section
namespace Go.Proofs.YtijlccblabadaaaGreat.gn
set_option maxRecDepth 100000
open Go.ChangeShapes Go.WideShapes Go.ChangeAt Go.RowKit Go.Proofs.YtijlccblabadaaaGreat.k Go.Proofs.YtijlccblabadaaaGreat.b
set_option linter.unusedVariables false
theorem sgn_up {a b : Int} (h : a < b) : sgn a b = 1 := by unfold sgn; rw [if_pos h]
theorem sgn_same (a : Int) : sgn a a = 0 := by unfold sgn; rw [if_neg (by omega), if_neg (by omega)]
theorem sgn_down {a b : Int} (h : b < a) : sgn a b = -1 := by unfold sgn; rw [if_neg (by omega), if_pos h]
theorem sgn_not_down {a b : Int} (h : a ≤ b) : (sgn a b == -1) = false := by
 unfold sgn
 by_cases h1 : a < b
 ·rw [if_pos h1]; rfl
 ·rw [if_neg h1, if_neg (by omega)]; rfl
theorem sgn_not_up {a b : Int} (h : b ≤ a) : (sgn a b == 1) = false := by
 unfold sgn
 rw [if_neg (by omega)]
 by_cases h1 : b < a
 ·rw [if_pos h1]; rfl
 ·rw [if_neg h1]; rfl
set_option maxHeartbeats 4000000 in
theorem to_is {V A D lo hi p v t x X : Int} (hr : RightL ⟨V, A, D, lo, hi⟩) (hs : SafeP ⟨V, A, D, lo, hi⟩ p v) (hX : toV ⟨V, A, D, lo, hi⟩ p v t x = X) (w : World) :
  Calls Tryz.prog 128 #[.agg #[.int .i64 V, .int .i64 A, .int .i64 D, .int .i64 lo, .int .i64 hi], .agg #[.int .i64 p, .int .i64 v], .int .i64 t, .int .i64 x] w fun e w' => e = .returned (.int .i64 X) ∧ Below w.heap.size w w' := by
 have hw := wide_safe hr hs
 have CG := lh fun W => goes_any (wide_right hr) hw.1 hw.2 (safe_yes hr hs) W
 clear hw
 have hlh := hr.2.2.2.2.2.2.2.2
 dsimp only at hlh
 obtain ⟨T, hT⟩ : ∃ T, clamp t lo hi = T := ⟨_, rfl⟩
 have hTb := clamp_mid (n := t) hlh
 rw [hT] at hTb
 have CT := lh fun W => near_is hlh hT W
 obtain ⟨Y, hV⟩ : ∃ Y, vel x = Y := ⟨_, rfl⟩
 have hVb := vel_in x
 rw [hV] at hVb
 have CV := lh fun W => vel_is hV W
 obtain ⟨r1, r2, r3, r4, r5, r6, r7, r8, r9⟩ := hr
 obtain ⟨s1, s2, s3, s4, s5⟩ := hs
 dsimp only at r1 r2 r3 r4 r5 r6 r7 r8 r9 s1 s2
 clear s5
 clear hlh
 by_cases h1 : p < T
 ·by_cases h2 : v < 0
  ·have HX : Hid (0 = X) := lh (by rw [← hX]; unfold toV; dsimp only; rw [hT]; rw [if_neg (by omega), if_neg (by omega)])
   have CS := lh fun W => toward_is (sgn_up h1) W
   have CZ := lh fun W => toward_is (sgn_down h2) W
   clear hX hT hTb hVb
   go_enter Tryz.func128, Tryz.ntmps128
   go_wp2_with (first | (go_at_call 106; ((with_reducible refine (CG.out _).mono ?_); rintro e w2 ⟨rfl, hb⟩; obtain ⟨x1, x2, x3, x4⟩ := k.boxes2 hb; have X2 := lh x1; have Y2 := lh x2; have H2 := lh x3; obtain ⟨lc0, _, lc1, _, lc2, _, lc3, _, lc4, _, _⟩ := x1; obtain ⟨gc0, _, gc1, _, _⟩ := x2; clear hb x3)) | (go_at_call 108; ((with_reducible refine (CT.out _).mono ?_); rintro e w9 ⟨rfl, rfl⟩)) | (go_at_call 147; ((with_reducible refine (CV.out _).mono ?_); rintro e w9 ⟨rfl, rfl⟩)) | (go_at_call 148; ((with_reducible refine (CS.out _).mono ?_); rintro e w9 ⟨rfl, rfl⟩)) | (go_at_call 148; ((with_reducible refine (CZ.out _).mono ?_); rintro e w9 ⟨rfl, rfl⟩)))
   go_ret
   exact ⟨ret_int HX.out, H2.out⟩
  ·have HX : Hid (min Y (reachV (T - p) D) = X) := lh (by rw [← hX]; unfold toV; dsimp only; rw [hT, hV]; rw [if_pos ⟨by omega, by omega⟩])
   have b0 := reach_in (s := T - p) (d := D) (by omega) r5
   have H := fun W => reach_any (T - p) D W
   rw [dist_of (show 0 ≤ T - p by omega) (show T - p ≤ 2199023255552 by omega), los_of9 r5 r6] at H
   have CR := lh H
   clear H
   obtain ⟨R, hR⟩ : ∃ R, reachV (T - p) D = R := ⟨_, rfl⟩
   rw [hR] at HX b0 CR
   clear hR hX hT
   obtain ⟨M, hM⟩ : ∃ M, min Y R = M := ⟨_, rfl⟩
   rw [hM] at HX
   have hMb : -1048576 ≤ M ∧ M ≤ 1048576 := by omega
   have e1 : IntKind.i64.wrap (T - p) = T - p := IntWalk.i64_in _ (by omega)
   have HM := lh hM
   clear b0 hM hTb hVb
   have CS := lh fun W => toward_is (sgn_up (a := p) (b := T) (by omega)) W
   obtain ⟨z, hz⟩ : ∃ z, sgn 0 v = z := ⟨_, rfl⟩
   have hzz := sgn_not_down (a := 0) (b := v) (by omega)
   rw [hz] at hzz
   have CZ := lh fun W => toward_is hz W
   clear hz
   go_enter Tryz.func128, Tryz.ntmps128
   go_wp2_with (first | (go_at_call 106; ((with_reducible refine (CG.out _).mono ?_); rintro e w2 ⟨rfl, hb⟩; obtain ⟨x1, x2, x3, x4⟩ := k.boxes2 hb; have X2 := lh x1; have Y2 := lh x2; have H2 := lh x3; obtain ⟨lc0, _, lc1, _, lc2, _, lc3, _, lc4, _, _⟩ := x1; obtain ⟨gc0, _, gc1, _, _⟩ := x2; clear hb x3)) | (go_at_call 108; ((with_reducible refine (CT.out _).mono ?_); rintro e w9 ⟨rfl, rfl⟩)) | (go_at_call 147; ((with_reducible refine (CV.out _).mono ?_); rintro e w9 ⟨rfl, rfl⟩)) | (go_at_call 148; ((with_reducible refine (CS.out _).mono ?_); rintro e w9 ⟨rfl, rfl⟩)) | (go_at_call 148; ((with_reducible refine (CZ.out _).mono ?_); rintro e w9 ⟨rfl, rfl⟩)) | (go_at_call 149; ((with_reducible refine (CR.out _).mono ?_); rintro e w3 ⟨rfl, hb⟩; have H3 := lh (H2.out.trans (hb.mono H2.out.size)); clear hb)))
   go_ret
   exact ⟨ret_int (by have := HX.out; have := HM.out; rw [IntWalk.wrap64_in _ (by omega)]; omega), H3.out⟩
 ·by_cases h3 : T < p
  ·by_cases h2 : 0 < v
   ·have HX : Hid (0 = X) := lh (by rw [← hX]; unfold toV; dsimp only; rw [hT]; rw [if_neg (by omega), if_neg (by omega)])
    have CS := lh fun W => toward_is (sgn_down h3) W
    have CZ := lh fun W => toward_is (sgn_up h2) W
    clear hX hT hTb hVb
    go_enter Tryz.func128, Tryz.ntmps128
    go_wp2_with (first | (go_at_call 106; ((with_reducible refine (CG.out _).mono ?_); rintro e w2 ⟨rfl, hb⟩; obtain ⟨x1, x2, x3, x4⟩ := k.boxes2 hb; have X2 := lh x1; have Y2 := lh x2; have H2 := lh x3; obtain ⟨lc0, _, lc1, _, lc2, _, lc3, _, lc4, _, _⟩ := x1; obtain ⟨gc0, _, gc1, _, _⟩ := x2; clear hb x3)) | (go_at_call 108; ((with_reducible refine (CT.out _).mono ?_); rintro e w9 ⟨rfl, rfl⟩)) | (go_at_call 147; ((with_reducible refine (CV.out _).mono ?_); rintro e w9 ⟨rfl, rfl⟩)) | (go_at_call 148; ((with_reducible refine (CS.out _).mono ?_); rintro e w9 ⟨rfl, rfl⟩)) | (go_at_call 148; ((with_reducible refine (CZ.out _).mono ?_); rintro e w9 ⟨rfl, rfl⟩)))
    go_ret
    exact ⟨ret_int HX.out, H2.out⟩
   ·have HX : Hid (-(min Y (reachV (p - T) D)) = X) := lh (by rw [← hX]; unfold toV; dsimp only; rw [hT, hV]; rw [if_neg (by omega), if_pos ⟨by omega, by omega⟩])
    have b0 := reach_in (s := p - T) (d := D) (by omega) r5
    have H := fun W => reach_any (p - T) D W
    rw [dist_of (show 0 ≤ p - T by omega) (show p - T ≤ 2199023255552 by omega), los_of9 r5 r6] at H
    have CR := lh H
    clear H
    obtain ⟨R, hR⟩ : ∃ R, reachV (p - T) D = R := ⟨_, rfl⟩
    rw [hR] at HX b0 CR
    clear hR hX hT
    obtain ⟨M, hM⟩ : ∃ M, min Y R = M := ⟨_, rfl⟩
    rw [hM] at HX
    have hMb : -1048576 ≤ M ∧ M ≤ 1048576 := by omega
    have e1 : IntKind.i64.wrap (T - p) = T - p := IntWalk.i64_in _ (by omega)
    have HM := lh hM
    have en : -(T - p) = p - T := by omega
    have e6 : wrap64 (p - T) = p - T := IntWalk.wrap64_in _ (by omega)
    clear b0 hM hTb hVb
    have CS := lh fun W => toward_is (sgn_down (a := p) (b := T) (by omega)) W
    obtain ⟨z, hz⟩ : ∃ z, sgn 0 v = z := ⟨_, rfl⟩
    have hzz := sgn_not_up (a := 0) (b := v) (by omega)
    rw [hz] at hzz
    have CZ := lh fun W => toward_is hz W
    clear hz
    go_enter Tryz.func128, Tryz.ntmps128
    go_wp2_with (first | (go_at_call 106; ((with_reducible refine (CG.out _).mono ?_); rintro e w2 ⟨rfl, hb⟩; obtain ⟨x1, x2, x3, x4⟩ := k.boxes2 hb; have X2 := lh x1; have Y2 := lh x2; have H2 := lh x3; obtain ⟨lc0, _, lc1, _, lc2, _, lc3, _, lc4, _, _⟩ := x1; obtain ⟨gc0, _, gc1, _, _⟩ := x2; clear hb x3)) | (go_at_call 108; ((with_reducible refine (CT.out _).mono ?_); rintro e w9 ⟨rfl, rfl⟩)) | (go_at_call 147; ((with_reducible refine (CV.out _).mono ?_); rintro e w9 ⟨rfl, rfl⟩)) | (go_at_call 148; ((with_reducible refine (CS.out _).mono ?_); rintro e w9 ⟨rfl, rfl⟩)) | (go_at_call 148; ((with_reducible refine (CZ.out _).mono ?_); rintro e w9 ⟨rfl, rfl⟩)) | (go_at_call 149; ((with_reducible refine (CR.out _).mono ?_); rintro e w3 ⟨rfl, hb⟩; have H3 := lh (H2.out.trans (hb.mono H2.out.size)); clear hb)))
    go_ret
    exact ⟨ret_int (by have := HX.out; have := HM.out; rw [IntWalk.wrap64_in _ (by omega)]; omega), H3.out⟩
  ·have e : T = p := by omega
   have HX : Hid (0 = X) := lh (by rw [← hX]; unfold toV; dsimp only; rw [hT]; rw [if_neg (by omega), if_neg (by omega)])
   have CS : Hid (∀ W, Calls Tryz.prog 148 #[.int .i64 p, .int .i64 T] W fun e w' => e = .returned (.int .i64 0) ∧ W = w') := lh fun W => toward_is (by rw [e]; exact sgn_same p) W
   clear e h1 h3
   clear hX hT hTb hVb
   go_enter Tryz.func128, Tryz.ntmps128
   go_wp2_with (first | (go_at_call 106; ((with_reducible refine (CG.out _).mono ?_); rintro e w2 ⟨rfl, hb⟩; obtain ⟨x1, x2, x3, x4⟩ := k.boxes2 hb; have X2 := lh x1; have Y2 := lh x2; have H2 := lh x3; obtain ⟨lc0, _, lc1, _, lc2, _, lc3, _, lc4, _, _⟩ := x1; obtain ⟨gc0, _, gc1, _, _⟩ := x2; clear hb x3)) | (go_at_call 108; ((with_reducible refine (CT.out _).mono ?_); rintro e w9 ⟨rfl, rfl⟩)) | (go_at_call 147; ((with_reducible refine (CV.out _).mono ?_); rintro e w9 ⟨rfl, rfl⟩)) | (go_at_call 148; ((with_reducible refine (CS.out _).mono ?_); rintro e w9 ⟨rfl, rfl⟩)))
   go_ret
   exact ⟨ret_int HX.out, H2.out⟩
end Go.Proofs.YtijlccblabadaaaGreat.gn
end
section
namespace Go.Proofs.YtijlccblabadaaaGreat.gn
set_option maxRecDepth 100000
open Go.ChangeShapes Go.WideShapes Go.ChangeAt Go.RowKit Go.Proofs.YtijlccblabadaaaGreat.k Go.Proofs.YtijlccblabadaaaGreat.b
set_option linter.unusedVariables false
theorem near_quiet {n lo hi x : Int} (h : lo ≤ hi) (hx : clamp n lo hi = x) (W : World) (q : Nat) : Calls Tryz.prog 108 #[.int .i64 n, .int .i64 lo, .int .i64 hi] (W.drewN q) fun e w'' => e = .returned (.int .i64 x) ∧ ∃ m, w'' = W.drewN m :=
 (near_is h hx (W.drewN q)).mono fun _ _ hh => ⟨hh.1, q, hh.2.symm⟩
theorem not_up {a b : Int} (h : b ≤ a) : (sgn a b != 1) = true := by rw [bne, sgn_not_up h]; rfl
theorem not_down {a b : Int} (h : a ≤ b) : (sgn a b != -1) = true := by rw [bne, sgn_not_down h]; rfl
set_option maxHeartbeats 4000000 in
theorem by_is {V A D lo hi p v t u s x X : Int} (hr : RightL ⟨V, A, D, lo, hi⟩) (hs : SafeP ⟨V, A, D, lo, hi⟩ p v) (hX : byV ⟨V, A, D, lo, hi⟩ p v t u s x = X) (w : World) :
  Calls Tryz.prog 126 #[.agg #[.int .i64 V, .int .i64 A, .int .i64 D, .int .i64 lo, .int .i64 hi], .agg #[.int .i64 p, .int .i64 v], .int .i64 t, .int .i64 u, .int .i64 s, .int .i64 x] w fun e w' => e = .returned (.int .i64 X) ∧ Below w.heap.size w w' := by
 have hw := wide_safe hr hs
 have CG := lh fun W => goes_any (wide_right hr) hw.1 hw.2 (safe_yes hr hs) W
 clear hw
 have hlh := hr.2.2.2.2.2.2.2.2
 dsimp only at hlh
 obtain ⟨T, hT⟩ : ∃ T, clamp t lo hi = T := ⟨_, rfl⟩
 have hTb := clamp_mid (n := t) hlh
 rw [hT] at hTb
 obtain ⟨S, hS⟩ : ∃ S, clamp s lo hi = S := ⟨_, rfl⟩
 have hSb := clamp_mid (n := s) hlh
 rw [hS] at hSb
 have HT := lh hT
 have HS := lh hS
 have HLH := lh hlh
 obtain ⟨Y, hV⟩ : ∃ Y, vel x = Y := ⟨_, rfl⟩
 have hVb := vel_in x
 rw [hV] at hVb
 have CV := lh fun W => vel_is hV W
 obtain ⟨U, hU⟩ : ∃ U, vel u = U := ⟨_, rfl⟩
 have hUb := vel_in u
 rw [hU] at hUb
 have CU := lh fun W => vel_is hU W
 obtain ⟨r1, r2, r3, r4, r5, r6, r7, r8, r9⟩ := hr
 obtain ⟨s1, s2, s3, s4, s5⟩ := hs
 dsimp only at r1 r2 r3 r4 r5 r6 r7 r8 r9 s1 s2
 clear s5
 by_cases h1 : p < T
 ·by_cases h4 : S ≤ p
  ·have HX : Hid (0 = X) := lh (by rw [← hX]; unfold byV; dsimp only; rw [hT, hS]; rw [if_neg (by omega), if_neg (by omega)])
   have CS := lh fun W => toward_is (sgn_up h1) W
   obtain ⟨q, hq⟩ : ∃ q, sgn p S = q := ⟨_, rfl⟩
   have hq' := not_up h4
   rw [hq] at hq'
   have CQ := lh fun W => toward_is hq W
   clear hq
   clear hX hT hS hTb hSb hVb hUb hU hV hlh
   go_enter Tryz.func126, Tryz.ntmps126
   go_wp2_with (go_at_call 106; ((with_reducible refine (CG.out _).mono ?_); rintro e w2 ⟨rfl, hb⟩; obtain ⟨x1, x2, x3, x4⟩ := k.boxes2 hb; have X2 := lh x1; have Y2 := lh x2; have H2 := lh x3; obtain ⟨lc0, _, lc1, _, lc2, _, lc3, _, lc4, _, _⟩ := x1; obtain ⟨gc0, _, gc1, _, _⟩ := x2; clear hb x3))
   go_quiet (first | (go_at_call 108; with_reducible exact near_quiet HLH.out HT.out _ _) | (go_at_call 108; with_reducible exact near_quiet HLH.out HS.out _ _))
   rename_i nq
   clear HT HS
   have X3 := lh (X2.out.drawn nq)
   have Y3 := lh (Y2.out.drawn nq)
   have H3 := lh (below_drawn H2.out nq)
   have z3 : w.heap.size + 1 < (w2.drewN nq).heap.size := by simpa using x4
   clear lc0 lc1 lc2 lc3 lc4 gc0 gc1
   generalize w2.drewN nq = w3 at X3 Y3 H3 z3 ⊢
   obtain ⟨lc0, _, lc1, _, lc2, _, lc3, _, lc4, _, _⟩ := X3.out; obtain ⟨gc0, _, gc1, _, _⟩ := Y3.out
   go_wp2_with (first | (go_at_call 147; ((with_reducible refine (CU.out _).mono ?_); rintro e w9 ⟨rfl, rfl⟩)) | (go_at_call 147; ((with_reducible refine (CV.out _).mono ?_); rintro e w9 ⟨rfl, rfl⟩)) | (go_at_call 148; ((with_reducible refine (CS.out _).mono ?_); rintro e w9 ⟨rfl, rfl⟩)) | (go_at_call 148; ((with_reducible refine (CQ.out _).mono ?_); rintro e w9 ⟨rfl, rfl⟩)))
   go_ret
   exact ⟨ret_int HX.out, H3.out⟩
  ·by_cases h2 : v < 0
   ·have HX : Hid (0 = X) := lh (by rw [← hX]; unfold byV; dsimp only; rw [hT, hS]; rw [if_neg (by omega), if_neg (by omega)])
    have CS := lh fun W => toward_is (sgn_up h1) W
    have CQ := lh fun W => toward_is (sgn_up (a := p) (b := S) (by omega)) W
    have CZ := lh fun W => toward_is (sgn_down h2) W
    clear hX hT hS hTb hSb hVb hUb hU hV hlh
    go_enter Tryz.func126, Tryz.ntmps126
    go_wp2_with (go_at_call 106; ((with_reducible refine (CG.out _).mono ?_); rintro e w2 ⟨rfl, hb⟩; obtain ⟨x1, x2, x3, x4⟩ := k.boxes2 hb; have X2 := lh x1; have Y2 := lh x2; have H2 := lh x3; obtain ⟨lc0, _, lc1, _, lc2, _, lc3, _, lc4, _, _⟩ := x1; obtain ⟨gc0, _, gc1, _, _⟩ := x2; clear hb x3))
    go_quiet (first | (go_at_call 108; with_reducible exact near_quiet HLH.out HT.out _ _) | (go_at_call 108; with_reducible exact near_quiet HLH.out HS.out _ _))
    rename_i nq
    clear HT HS
    have X3 := lh (X2.out.drawn nq)
    have Y3 := lh (Y2.out.drawn nq)
    have H3 := lh (below_drawn H2.out nq)
    have z3 : w.heap.size + 1 < (w2.drewN nq).heap.size := by simpa using x4
    clear lc0 lc1 lc2 lc3 lc4 gc0 gc1
    generalize w2.drewN nq = w3 at X3 Y3 H3 z3 ⊢
    obtain ⟨lc0, _, lc1, _, lc2, _, lc3, _, lc4, _, _⟩ := X3.out; obtain ⟨gc0, _, gc1, _, _⟩ := Y3.out
    go_wp2_with (first | (go_at_call 147; ((with_reducible refine (CU.out _).mono ?_); rintro e w9 ⟨rfl, rfl⟩)) | (go_at_call 147; ((with_reducible refine (CV.out _).mono ?_); rintro e w9 ⟨rfl, rfl⟩)) | (go_at_call 148; ((with_reducible refine (CS.out _).mono ?_); rintro e w9 ⟨rfl, rfl⟩)) | (go_at_call 148; ((with_reducible refine (CQ.out _).mono ?_); rintro e w9 ⟨rfl, rfl⟩)) | (go_at_call 148; ((with_reducible refine (CZ.out _).mono ?_); rintro e w9 ⟨rfl, rfl⟩)))
    go_ret
    exact ⟨ret_int HX.out, H3.out⟩
   ·have HX : Hid (min (min Y (reachV (S - p) D)) (passV (T - p) U D) = X) := lh (by rw [← hX]; unfold byV; dsimp only; rw [hT, hS, hV, hU]; rw [if_pos ⟨by omega, by omega, by omega⟩])
    have b0 := reach_in (s := S - p) (d := D) (by omega) r5
    have b1 := pass_in (s := T - p) (u := U) (d := D) (by omega) (by omega) r5
    have H := fun W => reach_any (S - p) D W
    rw [dist_of (show 0 ≤ S - p by omega) (show S - p ≤ 2199023255552 by omega), los_of9 r5 r6] at H
    have CR := lh H
    clear H
    have H := fun W => pass_any (T - p) U D W
    rw [dist_of (show 0 ≤ T - p by omega) (show T - p ≤ 2199023255552 by omega), los_of9 r5 r6, vel_of (show 0 ≤ U by omega) (show U ≤ 1048576 by omega)] at H
    have CP := lh H
    clear H
    obtain ⟨R, hR⟩ : ∃ R, reachV (S - p) D = R := ⟨_, rfl⟩
    obtain ⟨P, hP⟩ : ∃ P, passV (T - p) U D = P := ⟨_, rfl⟩
    rw [hR] at HX b0 CR
    rw [hP] at HX b1 CP
    clear hR hP hX hT hS hU hV hlh
    have e1 : IntKind.i64.wrap (T - p) = T - p := IntWalk.i64_in _ (by omega)
    have e2 : IntKind.i64.wrap (S - p) = S - p := IntWalk.i64_in _ (by omega)
    have e3 : IntKind.i64.wrap (1 * (T - p)) = T - p := by rw [IntWalk.i64_in _ (by omega)]; omega
    have e4 : IntKind.i64.wrap (1 * (S - p)) = S - p := by rw [IntWalk.i64_in _ (by omega)]; omega
    have hYR : 0 ≤ Y ∧ Y ≤ 1048576 ∧ 0 ≤ R ∧ R ≤ 1048576 ∧ 0 ≤ P ∧ P ≤ 1048576 := by omega
    have HB := lh hYR
    clear b0 b1 hTb hSb hVb hUb hYR
    have CS := lh fun W => toward_is (sgn_up (a := p) (b := T) (by omega)) W
    have CQ := lh fun W => toward_is (sgn_up (a := p) (b := S) (by omega)) W
    obtain ⟨z, hz⟩ : ∃ z, sgn 0 v = z := ⟨_, rfl⟩
    have hz' := sgn_not_down (a := 0) (b := v) (by omega)
    rw [hz] at hz'
    have CZ := lh fun W => toward_is hz W
    clear hz
    go_enter Tryz.func126, Tryz.ntmps126
    go_wp2_with (go_at_call 106; ((with_reducible refine (CG.out _).mono ?_); rintro e w2 ⟨rfl, hb⟩; obtain ⟨x1, x2, x3, x4⟩ := k.boxes2 hb; have X2 := lh x1; have Y2 := lh x2; have H2 := lh x3; obtain ⟨lc0, _, lc1, _, lc2, _, lc3, _, lc4, _, _⟩ := x1; obtain ⟨gc0, _, gc1, _, _⟩ := x2; clear hb x3))
    go_quiet (first | (go_at_call 108; with_reducible exact near_quiet HLH.out HT.out _ _) | (go_at_call 108; with_reducible exact near_quiet HLH.out HS.out _ _))
    rename_i nq
    clear HT HS
    have X3 := lh (X2.out.drawn nq)
    have Y3 := lh (Y2.out.drawn nq)
    have H3 := lh (below_drawn H2.out nq)
    have z3 : w.heap.size + 1 < (w2.drewN nq).heap.size := by simpa using x4
    clear lc0 lc1 lc2 lc3 lc4 gc0 gc1
    generalize w2.drewN nq = w3 at X3 Y3 H3 z3 ⊢
    obtain ⟨lc0, _, lc1, _, lc2, _, lc3, _, lc4, _, _⟩ := X3.out; obtain ⟨gc0, _, gc1, _, _⟩ := Y3.out
    go_upto_region 8 with (first | (go_at_call 147; ((with_reducible refine (CU.out _).mono ?_); rintro e w9 ⟨rfl, rfl⟩)) | (go_at_call 147; ((with_reducible refine (CV.out _).mono ?_); rintro e w9 ⟨rfl, rfl⟩)) | (go_at_call 148; ((with_reducible refine (CS.out _).mono ?_); rintro e w9 ⟨rfl, rfl⟩)) | (go_at_call 148; ((with_reducible refine (CQ.out _).mono ?_); rintro e w9 ⟨rfl, rfl⟩)) | (go_at_call 148; ((with_reducible refine (CZ.out _).mono ?_); rintro e w9 ⟨rfl, rfl⟩)))
    go_region_held3 (fun w' => w'.cell? ⟨w.heap.size, 2, none⟩ = some (.int .i64 D) ∧ w'.cell? ⟨w.heap.size + 1, 0, none⟩ = some (.int .i64 p))
     (go_keep)
     (first
      | (go_at_call 149; ((with_reducible refine (CR.out _).mono ?_); rintro e w6 ⟨rfl, hb6⟩; (first | (have X9 := lh (X8.out.below hb6 (by omega)); have Y9 := lh (Y8.out.below hb6 (by omega)); have H9 := lh (H8.out.trans (hb6.mono H8.out.size)); clear hb6; obtain ⟨lc0, _, lc1, _, lc2, _, _⟩ := X9.out; obtain ⟨gc0, _, gc1, _, _⟩ := Y9.out) | (have hb := ((Below.refl w3.heap.size w3).drew).trans hb6; have X8 := lh (X3.out.below hb (by omega)); have Y8 := lh (Y3.out.below hb (by omega)); have H8 := lh (H3.out.trans (hb.mono H3.out.size)); have z8 : w.heap.size + 1 < w6.heap.size := Nat.lt_of_lt_of_le z3 hb.size; clear hb hb6; obtain ⟨lc0, _, lc1, _, lc2, _, _⟩ := X8.out; obtain ⟨gc0, _, gc1, _, _⟩ := Y8.out))))
      | (go_at_call 150; ((with_reducible refine (CP.out _).mono ?_); rintro e w7 ⟨rfl, hb6⟩; (first | (have X9 := lh (X8.out.below hb6 (by omega)); have Y9 := lh (Y8.out.below hb6 (by omega)); have H9 := lh (H8.out.trans (hb6.mono H8.out.size)); clear hb6; obtain ⟨lc0, _, lc1, _, lc2, _, _⟩ := X9.out; obtain ⟨gc0, _, gc1, _, _⟩ := Y9.out) | (have hb := ((Below.refl w3.heap.size w3).drew).trans hb6; have X8 := lh (X3.out.below hb (by omega)); have Y8 := lh (Y3.out.below hb (by omega)); have H8 := lh (H3.out.trans (hb.mono H3.out.size)); have z8 : w.heap.size + 1 < w7.heap.size := Nat.lt_of_lt_of_le z3 hb.size; clear hb hb6; obtain ⟨lc0, _, lc1, _, lc2, _, _⟩ := X8.out; obtain ⟨gc0, _, gc1, _, _⟩ := Y8.out))))
      | fail)
    all_goals go_wp2
    all_goals go_ret
    all_goals exact ⟨ret_int (by have := HX.out; have := HB.out; first | omega | (rw [IntWalk.wrap64_in _ (by omega)]; omega) | (rw [IntWalk.i64_in _ (by omega)]; omega)), H9.out⟩
 ·by_cases h3 : T < p
  ·by_cases h4 : p ≤ S
   ·have HX : Hid (0 = X) := lh (by rw [← hX]; unfold byV; dsimp only; rw [hT, hS]; rw [if_neg (by omega), if_neg (by omega)])
    have CS := lh fun W => toward_is (sgn_down h3) W
    obtain ⟨q, hq⟩ : ∃ q, sgn p S = q := ⟨_, rfl⟩
    have hq' := not_down h4
    rw [hq] at hq'
    have CQ := lh fun W => toward_is hq W
    clear hq
    clear hX hT hS hTb hSb hVb hUb hU hV hlh
    go_enter Tryz.func126, Tryz.ntmps126
    go_wp2_with (go_at_call 106; ((with_reducible refine (CG.out _).mono ?_); rintro e w2 ⟨rfl, hb⟩; obtain ⟨x1, x2, x3, x4⟩ := k.boxes2 hb; have X2 := lh x1; have Y2 := lh x2; have H2 := lh x3; obtain ⟨lc0, _, lc1, _, lc2, _, lc3, _, lc4, _, _⟩ := x1; obtain ⟨gc0, _, gc1, _, _⟩ := x2; clear hb x3))
    go_quiet (first | (go_at_call 108; with_reducible exact near_quiet HLH.out HT.out _ _) | (go_at_call 108; with_reducible exact near_quiet HLH.out HS.out _ _))
    rename_i nq
    clear HT HS
    have X3 := lh (X2.out.drawn nq)
    have Y3 := lh (Y2.out.drawn nq)
    have H3 := lh (below_drawn H2.out nq)
    have z3 : w.heap.size + 1 < (w2.drewN nq).heap.size := by simpa using x4
    clear lc0 lc1 lc2 lc3 lc4 gc0 gc1
    generalize w2.drewN nq = w3 at X3 Y3 H3 z3 ⊢
    obtain ⟨lc0, _, lc1, _, lc2, _, lc3, _, lc4, _, _⟩ := X3.out; obtain ⟨gc0, _, gc1, _, _⟩ := Y3.out
    go_wp2_with (first | (go_at_call 147; ((with_reducible refine (CU.out _).mono ?_); rintro e w9 ⟨rfl, rfl⟩)) | (go_at_call 147; ((with_reducible refine (CV.out _).mono ?_); rintro e w9 ⟨rfl, rfl⟩)) | (go_at_call 148; ((with_reducible refine (CS.out _).mono ?_); rintro e w9 ⟨rfl, rfl⟩)) | (go_at_call 148; ((with_reducible refine (CQ.out _).mono ?_); rintro e w9 ⟨rfl, rfl⟩)))
    go_ret
    exact ⟨ret_int HX.out, H3.out⟩
   ·by_cases h2 : 0 < v
    ·have HX : Hid (0 = X) := lh (by rw [← hX]; unfold byV; dsimp only; rw [hT, hS]; rw [if_neg (by omega), if_neg (by omega)])
     have CS := lh fun W => toward_is (sgn_down h3) W
     have CQ := lh fun W => toward_is (sgn_down (a := p) (b := S) (by omega)) W
     have CZ := lh fun W => toward_is (sgn_up h2) W
     clear hX hT hS hTb hSb hVb hUb hU hV hlh
     go_enter Tryz.func126, Tryz.ntmps126
     go_wp2_with (go_at_call 106; ((with_reducible refine (CG.out _).mono ?_); rintro e w2 ⟨rfl, hb⟩; obtain ⟨x1, x2, x3, x4⟩ := k.boxes2 hb; have X2 := lh x1; have Y2 := lh x2; have H2 := lh x3; obtain ⟨lc0, _, lc1, _, lc2, _, lc3, _, lc4, _, _⟩ := x1; obtain ⟨gc0, _, gc1, _, _⟩ := x2; clear hb x3))
     go_quiet (first | (go_at_call 108; with_reducible exact near_quiet HLH.out HT.out _ _) | (go_at_call 108; with_reducible exact near_quiet HLH.out HS.out _ _))
     rename_i nq
     clear HT HS
     have X3 := lh (X2.out.drawn nq)
     have Y3 := lh (Y2.out.drawn nq)
     have H3 := lh (below_drawn H2.out nq)
     have z3 : w.heap.size + 1 < (w2.drewN nq).heap.size := by simpa using x4
     clear lc0 lc1 lc2 lc3 lc4 gc0 gc1
     generalize w2.drewN nq = w3 at X3 Y3 H3 z3 ⊢
     obtain ⟨lc0, _, lc1, _, lc2, _, lc3, _, lc4, _, _⟩ := X3.out; obtain ⟨gc0, _, gc1, _, _⟩ := Y3.out
     go_wp2_with (first | (go_at_call 147; ((with_reducible refine (CU.out _).mono ?_); rintro e w9 ⟨rfl, rfl⟩)) | (go_at_call 147; ((with_reducible refine (CV.out _).mono ?_); rintro e w9 ⟨rfl, rfl⟩)) | (go_at_call 148; ((with_reducible refine (CS.out _).mono ?_); rintro e w9 ⟨rfl, rfl⟩)) | (go_at_call 148; ((with_reducible refine (CQ.out _).mono ?_); rintro e w9 ⟨rfl, rfl⟩)) | (go_at_call 148; ((with_reducible refine (CZ.out _).mono ?_); rintro e w9 ⟨rfl, rfl⟩)))
     go_ret
     exact ⟨ret_int HX.out, H3.out⟩
    ·have HX : Hid (-(min (min Y (reachV (p - S) D)) (passV (p - T) U D)) = X) := lh (by rw [← hX]; unfold byV; dsimp only; rw [hT, hS, hV, hU]; rw [if_neg (by omega), if_pos ⟨by omega, by omega, by omega⟩])
     have b0 := reach_in (s := p - S) (d := D) (by omega) r5
     have b1 := pass_in (s := p - T) (u := U) (d := D) (by omega) (by omega) r5
     have H := fun W => reach_any (p - S) D W
     rw [dist_of (show 0 ≤ p - S by omega) (show p - S ≤ 2199023255552 by omega), los_of9 r5 r6] at H
     have CR := lh H
     clear H
     have H := fun W => pass_any (p - T) U D W
     rw [dist_of (show 0 ≤ p - T by omega) (show p - T ≤ 2199023255552 by omega), los_of9 r5 r6, vel_of (show 0 ≤ U by omega) (show U ≤ 1048576 by omega)] at H
     have CP := lh H
     clear H
     obtain ⟨R, hR⟩ : ∃ R, reachV (p - S) D = R := ⟨_, rfl⟩
     obtain ⟨P, hP⟩ : ∃ P, passV (p - T) U D = P := ⟨_, rfl⟩
     rw [hR] at HX b0 CR
     rw [hP] at HX b1 CP
     clear hR hP hX hT hS hU hV hlh
     have e1 : IntKind.i64.wrap (T - p) = T - p := IntWalk.i64_in _ (by omega)
     have e2 : IntKind.i64.wrap (S - p) = S - p := IntWalk.i64_in _ (by omega)
     have e3 : IntKind.i64.wrap (-1 * (T - p)) = p - T := by rw [IntWalk.i64_in _ (by omega)]; omega
     have e4 : IntKind.i64.wrap (-1 * (S - p)) = p - S := by rw [IntWalk.i64_in _ (by omega)]; omega
     have e5 : -(T - p) = p - T := by omega
     have e6 : -(S - p) = p - S := by omega
     have e7 : IntKind.i64.wrap (p - T) = p - T := IntWalk.i64_in _ (by omega)
     have e8 : IntKind.i64.wrap (p - S) = p - S := IntWalk.i64_in _ (by omega)
     have hYR : 0 ≤ Y ∧ Y ≤ 1048576 ∧ 0 ≤ R ∧ R ≤ 1048576 ∧ 0 ≤ P ∧ P ≤ 1048576 := by omega
     have HB := lh hYR
     clear b0 b1 hTb hSb hVb hUb hYR
     have CS := lh fun W => toward_is (sgn_down (a := p) (b := T) (by omega)) W
     have CQ := lh fun W => toward_is (sgn_down (a := p) (b := S) (by omega)) W
     obtain ⟨z, hz⟩ : ∃ z, sgn 0 v = z := ⟨_, rfl⟩
     have hz' := sgn_not_up (a := 0) (b := v) (by omega)
     rw [hz] at hz'
     have CZ := lh fun W => toward_is hz W
     clear hz
     go_enter Tryz.func126, Tryz.ntmps126
     go_wp2_with (go_at_call 106; ((with_reducible refine (CG.out _).mono ?_); rintro e w2 ⟨rfl, hb⟩; obtain ⟨x1, x2, x3, x4⟩ := k.boxes2 hb; have X2 := lh x1; have Y2 := lh x2; have H2 := lh x3; obtain ⟨lc0, _, lc1, _, lc2, _, lc3, _, lc4, _, _⟩ := x1; obtain ⟨gc0, _, gc1, _, _⟩ := x2; clear hb x3))
     go_quiet (first | (go_at_call 108; with_reducible exact near_quiet HLH.out HT.out _ _) | (go_at_call 108; with_reducible exact near_quiet HLH.out HS.out _ _))
     rename_i nq
     clear HT HS
     have X3 := lh (X2.out.drawn nq)
     have Y3 := lh (Y2.out.drawn nq)
     have H3 := lh (below_drawn H2.out nq)
     have z3 : w.heap.size + 1 < (w2.drewN nq).heap.size := by simpa using x4
     clear lc0 lc1 lc2 lc3 lc4 gc0 gc1
     generalize w2.drewN nq = w3 at X3 Y3 H3 z3 ⊢
     obtain ⟨lc0, _, lc1, _, lc2, _, lc3, _, lc4, _, _⟩ := X3.out; obtain ⟨gc0, _, gc1, _, _⟩ := Y3.out
     go_upto_region 8 with (first | (go_at_call 147; ((with_reducible refine (CU.out _).mono ?_); rintro e w9 ⟨rfl, rfl⟩)) | (go_at_call 147; ((with_reducible refine (CV.out _).mono ?_); rintro e w9 ⟨rfl, rfl⟩)) | (go_at_call 148; ((with_reducible refine (CS.out _).mono ?_); rintro e w9 ⟨rfl, rfl⟩)) | (go_at_call 148; ((with_reducible refine (CQ.out _).mono ?_); rintro e w9 ⟨rfl, rfl⟩)) | (go_at_call 148; ((with_reducible refine (CZ.out _).mono ?_); rintro e w9 ⟨rfl, rfl⟩)))
     go_region_held3 (fun w' => w'.cell? ⟨w.heap.size, 2, none⟩ = some (.int .i64 D) ∧ w'.cell? ⟨w.heap.size + 1, 0, none⟩ = some (.int .i64 p))
      (go_keep)
      (first
       | (go_at_call 149; ((with_reducible refine (CR.out _).mono ?_); rintro e w6 ⟨rfl, hb6⟩; (first | (have X9 := lh (X8.out.below hb6 (by omega)); have Y9 := lh (Y8.out.below hb6 (by omega)); have H9 := lh (H8.out.trans (hb6.mono H8.out.size)); clear hb6; obtain ⟨lc0, _, lc1, _, lc2, _, _⟩ := X9.out; obtain ⟨gc0, _, gc1, _, _⟩ := Y9.out) | (have hb := ((Below.refl w3.heap.size w3).drew).trans hb6; have X8 := lh (X3.out.below hb (by omega)); have Y8 := lh (Y3.out.below hb (by omega)); have H8 := lh (H3.out.trans (hb.mono H3.out.size)); have z8 : w.heap.size + 1 < w6.heap.size := Nat.lt_of_lt_of_le z3 hb.size; clear hb hb6; obtain ⟨lc0, _, lc1, _, lc2, _, _⟩ := X8.out; obtain ⟨gc0, _, gc1, _, _⟩ := Y8.out))))
       | (go_at_call 150; ((with_reducible refine (CP.out _).mono ?_); rintro e w7 ⟨rfl, hb6⟩; (first | (have X9 := lh (X8.out.below hb6 (by omega)); have Y9 := lh (Y8.out.below hb6 (by omega)); have H9 := lh (H8.out.trans (hb6.mono H8.out.size)); clear hb6; obtain ⟨lc0, _, lc1, _, lc2, _, _⟩ := X9.out; obtain ⟨gc0, _, gc1, _, _⟩ := Y9.out) | (have hb := ((Below.refl w3.heap.size w3).drew).trans hb6; have X8 := lh (X3.out.below hb (by omega)); have Y8 := lh (Y3.out.below hb (by omega)); have H8 := lh (H3.out.trans (hb.mono H3.out.size)); have z8 : w.heap.size + 1 < w7.heap.size := Nat.lt_of_lt_of_le z3 hb.size; clear hb hb6; obtain ⟨lc0, _, lc1, _, lc2, _, _⟩ := X8.out; obtain ⟨gc0, _, gc1, _, _⟩ := Y8.out))))
       | fail)
     all_goals go_wp2
     all_goals go_ret
     all_goals exact ⟨ret_int (by have := HX.out; have := HB.out; first | omega | (rw [IntWalk.wrap64_in _ (by omega)]; omega) | (rw [IntWalk.i64_in _ (by omega)]; omega)), H9.out⟩
  ·have e : T = p := by omega
   have HX : Hid (0 = X) := lh (by rw [← hX]; unfold byV; dsimp only; rw [hT, hS]; rw [if_neg (by omega), if_neg (by omega)])
   have CS : Hid (∀ W, Calls Tryz.prog 148 #[.int .i64 p, .int .i64 T] W fun e w' => e = .returned (.int .i64 0) ∧ W = w') := lh fun W => toward_is (by rw [e]; exact sgn_same p) W
   clear e h1 h3
   clear hX hT hS hTb hSb hVb hUb hU hV hlh
   go_enter Tryz.func126, Tryz.ntmps126
   go_wp2_with (go_at_call 106; ((with_reducible refine (CG.out _).mono ?_); rintro e w2 ⟨rfl, hb⟩; obtain ⟨x1, x2, x3, x4⟩ := k.boxes2 hb; have X2 := lh x1; have Y2 := lh x2; have H2 := lh x3; obtain ⟨lc0, _, lc1, _, lc2, _, lc3, _, lc4, _, _⟩ := x1; obtain ⟨gc0, _, gc1, _, _⟩ := x2; clear hb x3))
   go_quiet (first | (go_at_call 108; with_reducible exact near_quiet HLH.out HT.out _ _) | (go_at_call 108; with_reducible exact near_quiet HLH.out HS.out _ _))
   rename_i nq
   clear HT HS
   have X3 := lh (X2.out.drawn nq)
   have Y3 := lh (Y2.out.drawn nq)
   have H3 := lh (below_drawn H2.out nq)
   have z3 : w.heap.size + 1 < (w2.drewN nq).heap.size := by simpa using x4
   clear lc0 lc1 lc2 lc3 lc4 gc0 gc1
   generalize w2.drewN nq = w3 at X3 Y3 H3 z3 ⊢
   obtain ⟨lc0, _, lc1, _, lc2, _, lc3, _, lc4, _, _⟩ := X3.out; obtain ⟨gc0, _, gc1, _, _⟩ := Y3.out
   go_wp2_with (first | (go_at_call 147; ((with_reducible refine (CU.out _).mono ?_); rintro e w9 ⟨rfl, rfl⟩)) | (go_at_call 147; ((with_reducible refine (CV.out _).mono ?_); rintro e w9 ⟨rfl, rfl⟩)) | (go_at_call 148; ((with_reducible refine (CS.out _).mono ?_); rintro e w9 ⟨rfl, rfl⟩)))
   go_ret
   exact ⟨ret_int HX.out, H3.out⟩
end Go.Proofs.YtijlccblabadaaaGreat.gn
end
section
namespace Go.Proofs.YtijlccblabadaaaGreat.gn
set_option maxRecDepth 100000
open Go.ChangeShapes Go.WideShapes Go.ChangeAt Go.RowKit Go.Proofs.YtijlccblabadaaaGreat.k Go.Proofs.YtijlccblabadaaaGreat.b
set_option linter.unusedVariables false
theorem right_any (l : L) (hl : WideL l) (w : World) : Calls Tryz.prog 49 #[.agg #[.int .i64 l.V, .int .i64 l.A, .int .i64 l.D, .int .i64 l.lo, .int .i64 l.hi]] w fun e w' => e = .returned (.bool (rightL l)) ∧ Below w.heap.size w w' := by
 obtain ⟨V, A, D, lo, hi⟩ := l
 exact (right_is rfl w).mono fun e w' h => ⟨h.1, h.2 ▸ (Below.refl _ _).alloc (Nat.le_refl _) _⟩
theorem safe_any (l : L) (hr : RightL l) (p v : Int) (hp : Wide p) (hv : Wide v) (w : World) : Calls Tryz.prog 31 #[.agg #[.int .i64 l.V, .int .i64 l.A, .int .i64 l.D, .int .i64 l.lo, .int .i64 l.hi], .agg #[.int .i64 p, .int .i64 v]] w fun e w' => e = .returned (.bool (safeP l p v)) ∧ Below w.heap.size w w' := by
 obtain ⟨V, A, D, lo, hi⟩ := l
 exact (safe_is hr hv rfl w).mono fun e w' h => ⟨h.1, h.2 ▸ ((Below.refl _ _).alloc (Nat.le_refl _) _).alloc (by simp) _⟩
theorem may_ok (l : L) (hr : RightL l) (p v : Int) (hs : SafeP l p v) (w : World) : Calls Tryz.prog 107 #[.agg #[.int .i64 l.V, .int .i64 l.A, .int .i64 l.D, .int .i64 l.lo, .int .i64 l.hi], .agg #[.int .i64 p, .int .i64 v]] w fun e w' => e = .returned (.tuple #[.int .i64 (mayLo l p v), .int .i64 (mayHi l p v)]) ∧ Below w.heap.size w w' := by
 obtain ⟨V, A, D, lo, hi⟩ := l
 exact may_is hr hs rfl rfl w
theorem may_no (l : L) (hl : WideL l) (p v : Int) (hp : Wide p) (hv : Wide v) (h : ¬ (RightL l ∧ SafeP l p v)) (w : World) : Calls Tryz.prog 107 #[.agg #[.int .i64 l.V, .int .i64 l.A, .int .i64 l.D, .int .i64 l.lo, .int .i64 l.hi], .agg #[.int .i64 p, .int .i64 v]] w fun e w' => e = .returned (.tuple #[.int .i64 0, .int .i64 0]) ∧ Below w.heap.size w w' := by
 obtain ⟨V, A, D, lo, hi⟩ := l
 exact may_no' hl hp hv h w
theorem step_ok (l : L) (hr : RightL l) (p v : Int) (hs : SafeP l p v) (x : Int) (hx : Wide x) (w : World) : Calls Tryz.prog 75 #[.agg #[.int .i64 l.V, .int .i64 l.A, .int .i64 l.D, .int .i64 l.lo, .int .i64 l.hi], .agg #[.int .i64 p, .int .i64 v], .int .i64 x] w fun e w' => e = .returned (.agg #[.int .i64 (p + stepV l p v x), .int .i64 (stepV l p v x)]) ∧ Below w.heap.size w w' := by
 obtain ⟨V, A, D, lo, hi⟩ := l
 exact step_is hr hs rfl w
theorem to_ok (l : L) (hr : RightL l) (p v : Int) (hs : SafeP l p v) (t x : Int) (ht : Wide t) (hx : Wide x) (w : World) : Calls Tryz.prog 128 #[.agg #[.int .i64 l.V, .int .i64 l.A, .int .i64 l.D, .int .i64 l.lo, .int .i64 l.hi], .agg #[.int .i64 p, .int .i64 v], .int .i64 t, .int .i64 x] w fun e w' => e = .returned (.int .i64 (toV l p v t x)) ∧ Below w.heap.size w w' := by
 obtain ⟨V, A, D, lo, hi⟩ := l
 exact to_is hr hs rfl w
theorem by_ok (l : L) (hr : RightL l) (p v : Int) (hs : SafeP l p v) (t u s x : Int) (ht : Wide t) (hu : Wide u) (hs2 : Wide s) (hx : Wide x) (w : World) : Calls Tryz.prog 126 #[.agg #[.int .i64 l.V, .int .i64 l.A, .int .i64 l.D, .int .i64 l.lo, .int .i64 l.hi], .agg #[.int .i64 p, .int .i64 v], .int .i64 t, .int .i64 u, .int .i64 s, .int .i64 x] w fun e w' => e = .returned (.int .i64 (byV l p v t u s x)) ∧ Below w.heap.size w w' := by
 obtain ⟨V, A, D, lo, hi⟩ := l
 exact by_is hr hs rfl w
end Go.Proofs.YtijlccblabadaaaGreat.gn
end
section

end
section
namespace Go.Proofs.YtijlccblabadaaaGreat.hm
set_option maxRecDepth 100000
open Go.ChangeShapes Go.WideShapes Go.ChangeAt Go.RowKit Go.Proofs.YtijlccblabadaaaGreat.k
set_option linter.unusedVariables false
theorem refright_any (h : H) (w : World) : Calls Tryz.prog 27 #[hV h] w fun e w' => e = .returned (.bool (rightH h)) ∧ Below w.heap.size w w' := by
 obtain ⟨p, f, c, t⟩ := h
 unfold hV
 dsimp only
 by_cases h0 : f < 0
 ·have h0b : decide (f < 0) = true := decide_eq_true (by omega)
  by_cases h1 : f < -1048576
  ·have h1b : decide (f < -1048576) = true := decide_eq_true (by omega)
   have HV : Hid (rightH ⟨p, f, c, t⟩ = false) := lh (right_no fun h => by unfold RightH at h; dsimp only at h; omega)
   go_enter Tryz.func27, Tryz.ntmps27
   go_upto_region 1 with fail
   go_quiet (fail)
   go_wp2
   go_ret
   exact ⟨ret_bool HV.out.symm, below_drawn ((Below.refl _ _).alloc (Nat.le_refl _) _) _⟩
  ·have h1b : decide (f < -1048576) = false := decide_eq_false (by omega)
   by_cases h2 : 0 ≤ c
   ·have h2b : decide (0 ≤ c) = true := decide_eq_true (by omega)
    have HV : Hid (rightH ⟨p, f, c, t⟩ = false) := lh (right_no fun h => by unfold RightH at h; dsimp only at h; omega)
    go_enter Tryz.func27, Tryz.ntmps27
    go_upto_region 1 with fail
    go_quiet (fail)
    go_wp2
    go_ret
    exact ⟨ret_bool HV.out.symm, below_drawn ((Below.refl _ _).alloc (Nat.le_refl _) _) _⟩
   ·have h2b : decide (0 ≤ c) = false := decide_eq_false (by omega)
    by_cases h3 : c < f
    ·have h3b : decide (c < f) = true := decide_eq_true (by omega)
     have HV : Hid (rightH ⟨p, f, c, t⟩ = false) := lh (right_no fun h => by unfold RightH at h; dsimp only at h; omega)
     go_enter Tryz.func27, Tryz.ntmps27
     go_upto_region 1 with fail
     go_quiet (fail)
     go_wp2
     go_ret
     exact ⟨ret_bool HV.out.symm, below_drawn ((Below.refl _ _).alloc (Nat.le_refl _) _) _⟩
    ·have h3b : decide (c < f) = false := decide_eq_false (by omega)
     by_cases h5 : 0 ≤ p
     ·have h5b : decide (0 ≤ p) = true := decide_eq_true (by omega)
      by_cases h6 : p ≤ 5
      ·have h6b : decide (p ≤ 5) = true := decide_eq_true (by omega)
       have HV : Hid (rightH ⟨p, f, c, t⟩ = true) := lh (right_yes (by unfold RightH; dsimp only; omega))
       go_enter Tryz.func27, Tryz.ntmps27
       go_upto_region 1 with fail
       go_quiet (fail)
       go_wp2
       go_ret
       exact ⟨ret_bool HV.out.symm, below_drawn ((Below.refl _ _).alloc (Nat.le_refl _) _) _⟩
      ·have h6b : decide (p ≤ 5) = false := decide_eq_false (by omega)
       have HV : Hid (rightH ⟨p, f, c, t⟩ = false) := lh (right_no fun h => by unfold RightH at h; dsimp only at h; omega)
       go_enter Tryz.func27, Tryz.ntmps27
       go_upto_region 1 with fail
       go_quiet (fail)
       go_wp2
       go_ret
       exact ⟨ret_bool HV.out.symm, below_drawn ((Below.refl _ _).alloc (Nat.le_refl _) _) _⟩
     ·have h5b : decide (0 ≤ p) = false := decide_eq_false (by omega)
      have HV : Hid (rightH ⟨p, f, c, t⟩ = false) := lh (right_no fun h => by unfold RightH at h; dsimp only at h; omega)
      go_enter Tryz.func27, Tryz.ntmps27
      go_upto_region 1 with fail
      go_quiet (fail)
      go_wp2
      go_ret
      exact ⟨ret_bool HV.out.symm, below_drawn ((Below.refl _ _).alloc (Nat.le_refl _) _) _⟩
 ·have h0b : decide (f < 0) = false := decide_eq_false (by omega)
  by_cases h1 : f = 0
  ·have h1b : (f == 0) = true := by rw [beq_iff_eq]; omega
   have HV : Hid (rightH ⟨p, f, c, t⟩ = false) := lh (right_no fun h => by unfold RightH at h; dsimp only at h; omega)
   clear h1
   go_enter Tryz.func27, Tryz.ntmps27
   go_upto_region 1 with fail
   go_quiet (fail)
   go_wp2
   go_ret
   exact ⟨ret_bool HV.out.symm, below_drawn ((Below.refl _ _).alloc (Nat.le_refl _) _) _⟩
  ·have h1b : (f == 0) = false := by rw [beq_eq_false_iff_ne]; omega
   by_cases h2 : 1048576 < f
   ·have h2b : decide (1048576 < f) = true := decide_eq_true (by omega)
    have HV : Hid (rightH ⟨p, f, c, t⟩ = false) := lh (right_no fun h => by unfold RightH at h; dsimp only at h; omega)
    go_enter Tryz.func27, Tryz.ntmps27
    go_upto_region 1 with fail
    go_quiet (fail)
    go_wp2
    go_ret
    exact ⟨ret_bool HV.out.symm, below_drawn ((Below.refl _ _).alloc (Nat.le_refl _) _) _⟩
   ·have h2b : decide (1048576 < f) = false := decide_eq_false (by omega)
    by_cases h3 : c ≤ 0
    ·have h3b : decide (c ≤ 0) = true := decide_eq_true (by omega)
     have HV : Hid (rightH ⟨p, f, c, t⟩ = false) := lh (right_no fun h => by unfold RightH at h; dsimp only at h; omega)
     go_enter Tryz.func27, Tryz.ntmps27
     go_upto_region 1 with fail
     go_quiet (fail)
     go_wp2
     go_ret
     exact ⟨ret_bool HV.out.symm, below_drawn ((Below.refl _ _).alloc (Nat.le_refl _) _) _⟩
    ·have h3b : decide (c ≤ 0) = false := decide_eq_false (by omega)
     by_cases h4 : f < c
     ·have h4b : decide (f < c) = true := decide_eq_true (by omega)
      have HV : Hid (rightH ⟨p, f, c, t⟩ = false) := lh (right_no fun h => by unfold RightH at h; dsimp only at h; omega)
      go_enter Tryz.func27, Tryz.ntmps27
      go_upto_region 1 with fail
      go_quiet (fail)
      go_wp2
      go_ret
      exact ⟨ret_bool HV.out.symm, below_drawn ((Below.refl _ _).alloc (Nat.le_refl _) _) _⟩
     ·have h4b : decide (f < c) = false := decide_eq_false (by omega)
      by_cases h5 : 0 ≤ p
      ·have h5b : decide (0 ≤ p) = true := decide_eq_true (by omega)
       by_cases h6 : p ≤ 5
       ·have h6b : decide (p ≤ 5) = true := decide_eq_true (by omega)
        have HV : Hid (rightH ⟨p, f, c, t⟩ = true) := lh (right_yes (by unfold RightH; dsimp only; omega))
        go_enter Tryz.func27, Tryz.ntmps27
        go_upto_region 1 with fail
        go_quiet (fail)
        go_wp2
        go_ret
        exact ⟨ret_bool HV.out.symm, below_drawn ((Below.refl _ _).alloc (Nat.le_refl _) _) _⟩
       ·have h6b : decide (p ≤ 5) = false := decide_eq_false (by omega)
        have HV : Hid (rightH ⟨p, f, c, t⟩ = false) := lh (right_no fun h => by unfold RightH at h; dsimp only at h; omega)
        go_enter Tryz.func27, Tryz.ntmps27
        go_upto_region 1 with fail
        go_quiet (fail)
        go_wp2
        go_ret
        exact ⟨ret_bool HV.out.symm, below_drawn ((Below.refl _ _).alloc (Nat.le_refl _) _) _⟩
      ·have h5b : decide (0 ≤ p) = false := decide_eq_false (by omega)
       have HV : Hid (rightH ⟨p, f, c, t⟩ = false) := lh (right_no fun h => by unfold RightH at h; dsimp only at h; omega)
       go_enter Tryz.func27, Tryz.ntmps27
       go_upto_region 1 with fail
       go_quiet (fail)
       go_wp2
       go_ret
       exact ⟨ret_bool HV.out.symm, below_drawn ((Below.refl _ _).alloc (Nat.le_refl _) _) _⟩
end Go.Proofs.YtijlccblabadaaaGreat.hm
end
