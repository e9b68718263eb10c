/- What servitorref01's Add, Sub and Mul answer, for all numbers of 64 bits: the sum, the difference, the product, where it has room. -/
import Derived.Test.YtaohidaijlcplaaRTimes
import Derived.Test.YtaohidaijlcplaaROf
namespace Go.Proofs.Ytaohidaijlcplaa.r
open Go.ChangeShapes Go.WideShapes Go.ChangeAt Go.RowKit Go.Proofs.Ytaohidaijlcplaa.q
set_option linter.unusedVariables false

def plusN (A : Int) (ma : Bool) (B : Int) (mb : Bool) : Int := if ma = mb then A + B else if B ≤ A then A - B else B - A
def plusM (A : Int) (ma : Bool) (B : Int) (mb : Bool) : Bool := if ma = mb then ma else if B ≤ A then ma else mb
theorem plus_any {A B : Int} {ma mb : Bool} {va vb : Value} (hA : IsW A ma va) (hB : IsW B mb vb) (hAB : A + B < top) (w : World) :
    Calls Try.prog 34 #[va, vb] w (WPost (plusN A ma B mb) (plusM A ma B mb) w) := by
  unfold plusN plusM
  by_cases hm : ma = mb
  · subst hm; rw [if_pos rfl, if_pos rfl]; exact plus_same hA hB hAB w
  · have hm' : ma = !mb := by cases ma <;> cases mb <;> simp at hm ⊢
    rw [if_neg hm, if_neg hm]
    by_cases h : B ≤ A
    · rw [if_pos h, if_pos h]; exact plus_ge hA hB hm' h w
    · rw [if_neg h, if_neg h]; exact plus_lt hA hB hm' (by omega) w
theorem plus_sgn (a b : Int) : sgn (plusN (mag a : Nat) (decide (a < 0)) (mag b : Nat) (decide (b < 0))).toNat (plusM (mag a : Nat) (decide (a < 0)) (mag b : Nat) (decide (b < 0))) = a + b := by
  unfold plusN plusM sgn mag
  by_cases ha : a < 0 <;> by_cases hb : b < 0 <;> simp [ha, hb] <;> (try split) <;> (try split) <;> (try simp_all) <;> omega
theorem minus_sgn (a b : Int) : sgn (plusN (mag a : Nat) (decide (a < 0)) (mag b : Nat) (!decide (b < 0))).toNat (plusM (mag a : Nat) (decide (a < 0)) (mag b : Nat) (!decide (b < 0))) = a - b := by
  unfold plusN plusM sgn mag
  by_cases ha : a < 0 <;> by_cases hb : b < 0 <;> simp [ha, hb] <;> (try split) <;> (try split) <;> (try simp_all) <;> omega
theorem times_all {A B : Int} {ma mb : Bool} {va vb : Value} (hA : IsW A ma va) (hB : IsW B mb vb) (h1 : A < 18446744073709551616) (h2 : B < 18446744073709551616) (w : World) :
    Calls Try.prog 37 #[va, vb] w (WPost (A * B) (!ma == mb) w) := by
  obtain ⟨a0, a1, a2, a3, rfl, la, rfl⟩ := hA
  obtain ⟨b0, b1, b2, b3, rfl, lb, rfl⟩ := hB
  have z : a2 = 0 ∧ a3 = 0 ∧ b2 = 0 ∧ b3 = 0 := by
    have := la.p0; have := la.p1; have := la.p2; have := la.p3; have := lb.p0; have := lb.p1; have := lb.p2; have := lb.p3
    unfold val at h1 h2; omega
  obtain ⟨rfl, rfl, rfl, rfl⟩ := z
  exact times_any la lb w

set_option maxRecDepth 100000 in
theorem radd_any (a b : Int) (h1 : -9223372036854775808 ≤ a) (h2 : a ≤ 9223372036854775807) (h3 : -9223372036854775808 ≤ b) (h4 : b ≤ 9223372036854775807) (w : World) :
    Calls Try.prog 19 #[.int .i64 a, .int .i64 b] w fun e w' => e = .returned (.tuple #[.int .i64 (addV a b), .bool (addB a b)]) ∧ Below w.heap.size w w' := by
  have ma := mag_le a h1 h2
  have mb := mag_le b h3 h4
  have c1 := fun (w : World) => of_any a h1 h2 w
  have c2 := fun (w : World) => of_any b h3 h4 w
  have c3 := fun (va vb : Value) (hA : IsW (mag a : Nat) (decide (a < 0)) va) (hB : IsW (mag b : Nat) (decide (b < 0)) vb) (w : World) => plus_any hA hB (by unfold top; omega) w
  have HS := Lib.hid (plus_sgn a b)
  clear ma mb
  go_enter Try.func19, Try.ntmps19
  go_wp2_with (go_at_call 35; fail)
  refine (c1 _).mono ?_
  rintro e w1 ⟨va, rfl, hva, hb1⟩
  go_wp2_with (go_at_call 35; fail)
  refine (c2 _).mono ?_
  rintro e w2 ⟨vb, rfl, hvb, hb2⟩
  go_wp2_with (go_at_call 34; fail)
  refine (c3 _ _ hva hvb _).mono ?_
  rintro e w3 ⟨vc, rfl, hvc, hb3⟩
  go_wp2_with (go_at_call 33; fail)
  refine (room_any hvc _).mono ?_
  rintro e w4 ⟨rfl, hb4⟩
  have HV : Hid (sgV (plusN (mag a : Nat) (decide (a < 0)) (mag b : Nat) (decide (b < 0))).toNat (plusM (mag a : Nat) (decide (a < 0)) (mag b : Nat) (decide (b < 0))) = addV a b ∧ sgB (plusN (mag a : Nat) (decide (a < 0)) (mag b : Nat) (decide (b < 0))).toNat (plusM (mag a : Nat) (decide (a < 0)) (mag b : Nat) (decide (b < 0))) = addB a b) := Lib.hid (by
    unfold sgV sgB; rw [HS.out]; exact ⟨rfl, rfl⟩)
  go_wp2
  go_ret2
  exact ⟨ret2_bool HV.out.1 HV.out.2, ((hb1.trans (hb2.mono hb1.size)).trans (hb3.mono (Nat.le_trans hb1.size hb2.size))).trans (hb4.mono (Nat.le_trans (Nat.le_trans hb1.size hb2.size) hb3.size))⟩

set_option maxRecDepth 100000 in
theorem rsub_any (a b : Int) (h1 : -9223372036854775808 ≤ a) (h2 : a ≤ 9223372036854775807) (h3 : -9223372036854775808 ≤ b) (h4 : b ≤ 9223372036854775807) (w : World) :
    Calls Try.prog 17 #[.int .i64 a, .int .i64 b] w fun e w' => e = .returned (.tuple #[.int .i64 (subV a b), .bool (subB a b)]) ∧ Below w.heap.size w w' := by
  have ma := mag_le a h1 h2
  have mb := mag_le b h3 h4
  have c1 := fun (w : World) => of_any a h1 h2 w
  have c2 := fun (w : World) => of_any b h3 h4 w
  have c3 := fun (va vb : Value) (hA : IsW (mag a : Nat) (decide (a < 0)) va) (hB : IsW (mag b : Nat) (!decide (b < 0)) vb) (w : World) => plus_any hA hB (by unfold top; omega) w
  have HS := Lib.hid (minus_sgn a b)
  clear ma mb
  go_enter Try.func17, Try.ntmps17
  go_wp2_with (go_at_call 35; fail)
  refine (c1 _).mono ?_
  rintro e w1 ⟨va, rfl, hva, hb1⟩
  go_wp2_with (go_at_call 35; fail)
  refine (c2 _).mono ?_
  rintro e w2 ⟨vb, rfl, hvb, hb2⟩
  go_wp2_with (go_at_call 36; fail)
  refine (turned_any hvb _).mono ?_
  rintro e w3 ⟨vt, rfl, hvt, hb3⟩
  go_wp2_with (go_at_call 34; fail)
  refine (c3 _ _ hva hvt _).mono ?_
  rintro e w4 ⟨vc, rfl, hvc, hb4⟩
  go_wp2_with (go_at_call 33; fail)
  refine (room_any hvc _).mono ?_
  rintro e w5 ⟨rfl, hb5⟩
  have HV : Hid (sgV (plusN (mag a : Nat) (decide (a < 0)) (mag b : Nat) (!decide (b < 0))).toNat (plusM (mag a : Nat) (decide (a < 0)) (mag b : Nat) (!decide (b < 0))) = subV a b ∧ sgB (plusN (mag a : Nat) (decide (a < 0)) (mag b : Nat) (!decide (b < 0))).toNat (plusM (mag a : Nat) (decide (a < 0)) (mag b : Nat) (!decide (b < 0))) = subB a b) := Lib.hid (by
    unfold sgV sgB; rw [HS.out]; exact ⟨rfl, rfl⟩)
  go_wp2
  go_ret2
  have s2 := Nat.le_trans hb1.size hb2.size
  have s3 := Nat.le_trans s2 hb3.size
  exact ⟨ret2_bool HV.out.1 HV.out.2, (((hb1.trans (hb2.mono hb1.size)).trans (hb3.mono s2)).trans (hb4.mono s3)).trans (hb5.mono (Nat.le_trans s3 hb4.size))⟩

end Go.Proofs.Ytaohidaijlcplaa.r
