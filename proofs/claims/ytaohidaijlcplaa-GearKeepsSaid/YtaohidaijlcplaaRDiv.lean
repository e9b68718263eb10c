/- What servitorref01's Div, Mod and MulDiv answer, for all numbers of 64 bits. -/
import Derived.Test.YtaohidaijlcplaaRAdd
import Derived.Test.YtaohidaijlcplaaRBy
import Derived.Test.YtaohidaijlcplaaQAwake
import Derived.Deep.RegionWith
import Derived.Deep.RegionHeld3
import Derived.Deep.Cut
namespace Go.Proofs.Ytaohidaijlcplaa.r
open Go.ChangeShapes Go.WideShapes Go.ChangeAt Go.RowKit Go.Proofs.Ytaohidaijlcplaa.q
set_option linter.unusedVariables false

theorem by_all {A B : Int} {ma mb : Bool} {va vb : Value} (hA : IsW A ma va) (hB : IsW B mb vb) (h1 : 0 < B) (h2 : B ≤ 18446744073709551616) (w : World) :
    Calls Try.prog 38 #[va, vb] w fun e w' =>
      ∃ v1 v2 : Value, e = .returned (.tuple #[v1, v2]) ∧ IsW ((A.toNat / B.toNat : Nat) : Int) false v1 ∧ IsW ((A.toNat % B.toNat : Nat) : Int) false v2 ∧ Below w.heap.size w w' := by
  obtain ⟨a0, a1, a2, a3, rfl, la, rfl⟩ := hA
  obtain ⟨b0, b1, b2, b3, rfl, lb, rfl⟩ := hB
  exact by_any la lb h1 h2 w
theorem bel3 (w : World) (o1 o2 o3 : Obj) : Below w.heap.size w (((w.alloc o1).alloc o2).alloc o3) := below3' w o1 o2 o3
theorem bel4 (w : World) (o1 o2 o3 o4 : Obj) : Below w.heap.size w ((((w.alloc o1).alloc o2).alloc o3).alloc o4) := (bel3 w o1 o2 o3).alloc (by simp; omega) _
theorem bel5 (w : World) (o1 o2 o3 o4 o5 : Obj) : Below w.heap.size w (((((w.alloc o1).alloc o2).alloc o3).alloc o4).alloc o5) := (bel4 w o1 o2 o3 o4).alloc (by simp; omega) _
theorem quot_sgn (a b : Int) (hb : b ≠ 0) : sgn (mag a / mag b) (!decide (a < 0) == decide (b < 0)) = a.tdiv b := by
  have h : (a.tdiv b).natAbs = a.natAbs / b.natAbs := Int.natAbs_tdiv a b
  have p1 : a < 0 → b < 0 → 0 ≤ a.tdiv b := fun ha hb' => Int.tdiv_nonneg_of_nonpos_of_nonpos (Int.le_of_lt ha) (Int.le_of_lt hb')
  have p2 : a < 0 → ¬ b < 0 → a.tdiv b ≤ 0 := fun ha hb' => by
    have := Int.tdiv_nonneg (show 0 ≤ -a by omega) (show 0 ≤ b by omega); rw [Int.neg_tdiv] at this; omega
  have p3 : ¬ a < 0 → b < 0 → a.tdiv b ≤ 0 := fun ha hb' => by
    have := Int.tdiv_nonneg (show 0 ≤ a by omega) (show 0 ≤ -b by omega); rw [Int.tdiv_neg] at this; omega
  have p4 : ¬ a < 0 → ¬ b < 0 → 0 ≤ a.tdiv b := fun ha hb' => Int.tdiv_nonneg (by omega) (by omega)
  unfold sgn mag
  rw [← h]
  generalize a.tdiv b = t at *
  by_cases ha : a < 0 <;> by_cases hb' : b < 0 <;> simp [ha, hb'] <;> simp [ha, hb'] at p1 p2 p3 p4 <;> omega
theorem rest_sgn (a b : Int) : sgn (mag a % mag b) (decide (a < 0)) = a.tmod b := by
  have h : (a.tmod b).natAbs = a.natAbs % b.natAbs := Int.natAbs_tmod a b
  have p1 : a < 0 → a.tmod b ≤ 0 := fun ha => by
    have := Int.tmod_nonneg b (show 0 ≤ -a by omega); rw [Int.neg_tmod] at this; omega
  have p2 : ¬ a < 0 → 0 ≤ a.tmod b := fun ha => Int.tmod_nonneg b (by omega)
  unfold sgn mag
  rw [← h]
  generalize a.tmod b = t at *
  by_cases ha : a < 0 <;> simp [ha] <;> simp [ha] at p1 p2 <;> omega

set_option maxRecDepth 100000 in
theorem zero_any {A : Int} {ma : Bool} {va : Value} (hA : IsW A ma va) (w : World) :
    Calls Try.prog 39 #[va] w fun e w' => e = .returned (.bool (decide (A = 0))) ∧ Below w.heap.size w w' := by
  have z0 : IsW 0 false (.agg #[.int .u64 0, .int .u64 0, .int .u64 0, .int .u64 0, .bool false]) := ⟨_, _, _, _, rfl, by constructor <;> omega, by unfold val; omega⟩
  have cc := fun (w : World) => cmp_any hA z0 w
  have hA0 : 0 ≤ A := by
    obtain ⟨a0, a1, a2, a3, _, la, rfl⟩ := hA
    exact (val_ge la).1
  obtain ⟨a0, a1, a2, a3, rfl, la, ea⟩ := hA
  clear la ea z0
  by_cases h : A = 0
  · have hk : cmpV A 0 = 0 := by rw [h]; exact cmpV_eq 0
    rw [hk] at cc
    have HD := Lib.hid (decide_eq_true h)
    clear hk h hA0
    go_enter Try.func39, Try.ntmps39
    go_wp2_with (go_at_call 48; fail)
    refine (cc _).mono ?_
    rintro e w1 ⟨rfl, hb1⟩
    have K := Lib.hid ((below1' _ _).trans (hb1.mono (by simp)))
    clear hb1
    go_wp2
    go_ret
    exact ⟨by rw [HD.out]; rfl, K.out⟩
  · have hk : cmpV A 0 = 1 := cmpV_gt (by omega)
    rw [hk] at cc
    have HD := Lib.hid (decide_eq_false h)
    clear hk h hA0
    go_enter Try.func39, Try.ntmps39
    go_wp2_with (go_at_call 48; fail)
    refine (cc _).mono ?_
    rintro e w1 ⟨rfl, hb1⟩
    have K := Lib.hid ((below1' _ _).trans (hb1.mono (by simp)))
    clear hb1
    go_wp2
    go_ret
    exact ⟨by rw [HD.out]; rfl, K.out⟩
end Go.Proofs.Ytaohidaijlcplaa.r
