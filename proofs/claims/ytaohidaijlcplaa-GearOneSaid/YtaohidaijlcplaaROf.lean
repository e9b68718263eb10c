/- What servitorref01's of, turned and room answer: a number's four parts and its sign; the sign turned; the number again, where it has room. -/
import Derived.Test.YtaohidaijlcplaaRSum
namespace Go.Proofs.Ytaohidaijlcplaa.r
open Go.ChangeShapes Go.WideShapes Go.ChangeAt Go.RowKit Go.Proofs.Ytaohidaijlcplaa.q
set_option linter.unusedVariables false

theorem below1 (w : World) (o1 : Obj) (n : Nat) : Below w.heap.size w ((w.alloc o1).drewN n) :=
  below_drewN ((Below.refl _ _).alloc (Nat.le_refl _) _) n
theorem below1' (w : World) (o1 : Obj) : Below w.heap.size w (w.alloc o1) := (Below.refl _ _).alloc (Nat.le_refl _) _
theorem below2' (w : World) (o1 o2 : Obj) : Below w.heap.size w ((w.alloc o1).alloc o2) :=
  ((Below.refl _ _).alloc (Nat.le_refl _) _).alloc (by simp) _

theorem of_val (n : Int) (h0 : 0 ≤ n) (h1 : n < 18446744073709551616) : Lim (n % 4294967296) (n / 4294967296) 0 0 ∧ val (n % 4294967296) (n / 4294967296) 0 0 = n := by
  refine ⟨by constructor <;> omega, by unfold val; omega⟩

set_option maxRecDepth 100000 in
theorem of_ex (a : Int) (h1 : -9223372036854775808 ≤ a) (h2 : a ≤ 9223372036854775807) : ∃ l0 l1 : Int, Lim l0 l1 0 0 ∧ val l0 l1 0 0 = (mag a : Nat) ∧ ∀ w : World,
    Calls Try.prog 35 #[.int .i64 a] w fun e w' => e = .returned (.agg #[.int .u64 l0, .int .u64 l1, .int .u64 0, .int .u64 0, .bool (decide (a < 0))]) ∧
      w.alloc (.cells #[.int .u64 l0, .int .u64 l1, .int .u64 0, .int .u64 0, .bool (decide (a < 0))] 59) = w' := by
  have ml := mag_le a h1 h2
  have V := of_val (mag a : Nat) (by omega) (by omega)
  refine ⟨_, _, V.1, V.2, fun w => ?_⟩
  clear V
  by_cases hn : a < 0
  · have e := mag_neg a h1 hn
    have e2 : IntKind.u64.wrap (0 - IntKind.u64.wrap a) = (mag a : Nat) := by rw [Int.zero_sub]; exact e
    have m0 : 0 ≤ ((mag a : Nat) : Int) := by omega
    have m1 : ((mag a : Nat) : Int) < 18446744073709551616 := by omega
    clear ml
    generalize ((mag a : Nat) : Int) = m at *
    have hd : Hid (decide (a < 0) = true) := Lib.hid (decide_eq_true hn)
    rw [hd.out]
    go_enter Try.func35, Try.ntmps35
    go_wp2
    exact bodyPost_ret (v := .agg #[.int .u64 (m % 4294967296), .int .u64 (m / 4294967296), .int .u64 0, .int .u64 0, .bool true]) (by simp [results, Try.results35, go_sem]) rfl
      ⟨rfl, rfl⟩
  · have e2 : ((mag a : Nat) : Int) = a := by unfold mag; omega
    have hd : Hid (decide (a < 0) = false) := Lib.hid (decide_eq_false hn)
    rw [hd.out, e2]
    clear ml e2
    go_enter Try.func35, Try.ntmps35
    go_wp2
    exact bodyPost_ret (v := .agg #[.int .u64 (a % 4294967296), .int .u64 (a / 4294967296), .int .u64 0, .int .u64 0, .bool false]) (by simp [results, Try.results35, go_sem]) rfl
      ⟨rfl, rfl⟩
theorem of_any (a : Int) (h1 : -9223372036854775808 ≤ a) (h2 : a ≤ 9223372036854775807) (w : World) :
    Calls Try.prog 35 #[.int .i64 a] w (WPost (mag a : Nat) (decide (a < 0)) w) := by
  obtain ⟨l0, l1, hl, hv, hc⟩ := of_ex a h1 h2
  exact (hc w).mono fun e w' ⟨he, hw⟩ => ⟨_, he, ⟨_, _, _, _, rfl, hl, hv⟩, hw ▸ below1' _ _⟩

set_option maxRecDepth 100000 in
theorem turned_any {A : Int} {ma : Bool} {va : Value} (hA : IsW A ma va) (w : World) :
    Calls Try.prog 36 #[va] w (WPost A (!ma) w) := by
  obtain ⟨a0, a1, a2, a3, rfl, la, rfl⟩ := hA
  have FIN := Lib.hid la
  clear la
  go_enter Try.func36, Try.ntmps36
  go_wp2
  exact bodyPost_ret (v := .agg #[.int .u64 a0, .int .u64 a1, .int .u64 a2, .int .u64 a3, .bool !ma]) (by simp [results, Try.results36, go_sem]) rfl
    ⟨_, rfl, ⟨_, _, _, _, rfl, FIN.out, rfl⟩, below2' _ _ _⟩

theorem sg_over (n : Nat) (m : Bool) (h : 9223372036854775808 < n) : sgV n m = 0 ∧ sgB n m = false := by
  have : ¬ rm (sgn n m) = true := by
    rw [rm_iff]; unfold sgn; cases m <;> simp <;> omega
  exact ⟨rv_no this, Bool.eq_false_iff.mpr this⟩
theorem sg_in (n : Nat) (m : Bool) (h : n < 9223372036854775808) : sgV n m = (if m = true then -(n : Int) else (n : Int)) ∧ sgB n m = true := by
  have : rm (sgn n m) = true := by
    rw [rm_iff]; unfold sgn; cases m <;> simp <;> omega
  exact ⟨rv_yes this, this⟩

set_option maxRecDepth 100000 in
set_option maxHeartbeats 1000000 in
theorem room_any {A : Int} {ma : Bool} {va : Value} (hA : IsW A ma va) (w : World) :
    Calls Try.prog 33 #[va] w fun e w' => e = .returned (.tuple #[.int .i64 (sgV A.toNat ma), .bool (sgB A.toNat ma)]) ∧ Below w.heap.size w w' := by
  obtain ⟨a0, a1, a2, a3, rfl, la, rfl⟩ := hA
  obtain ⟨p0, q0, p1, q1, p2, q2, p3, q3⟩ := la
  by_cases h2 : a2 = 0 ∧ a3 = 0
  · obtain ⟨rfl, rfl⟩ := h2
    have en : (val a0 a1 0 0).toNat = (a1 * 4294967296 + a0).toNat := by unfold val; omega
    rw [en]
    by_cases hl : a1 * 4294967296 + a0 < 9223372036854775808
    · obtain ⟨v1, v2⟩ := sg_in (a1 * 4294967296 + a0).toNat ma (by omega)
      rw [show (((a1 * 4294967296 + a0).toNat : Nat) : Int) = a1 * 4294967296 + a0 by omega] at v1
      have V1 := Lib.hid v1
      have V2 := Lib.hid v2
      clear v1 v2 en
      cases ma
      · go_enter Try.func33, Try.ntmps33
        go_wp2
        go_ret2
        exact ⟨ret2_bool V1.out.symm V2.out.symm, below1' _ _⟩
      · go_enter Try.func33, Try.ntmps33
        go_wp2
        go_ret2
        exact ⟨ret2_bool V1.out.symm V2.out.symm, below1' _ _⟩
    · by_cases hb : ma = true ∧ a1 * 4294967296 + a0 ≤ 9223372036854775808
      · obtain ⟨rfl, hb⟩ := hb
        have V : Hid (sgV (a1 * 4294967296 + a0).toNat true = -9223372036854775808 ∧ sgB (a1 * 4294967296 + a0).toNat true = true) := Lib.hid (by
          rw [show (a1 * 4294967296 + a0).toNat = 9223372036854775808 by omega]; exact ⟨by decide, by decide⟩)
        go_enter Try.func33, Try.ntmps33
        go_wp2
        go_ret2
        exact ⟨ret2_bool V.out.1.symm V.out.2.symm, below1' _ _⟩
      · cases ma
        · have V : Hid (sgV (a1 * 4294967296 + a0).toNat false = 0 ∧ sgB (a1 * 4294967296 + a0).toNat false = false) := Lib.hid (by
            have : ¬ rm (sgn (a1 * 4294967296 + a0).toNat false) = true := by
              rw [rm_iff]; unfold sgn; simp; omega
            exact ⟨rv_no this, Bool.eq_false_iff.mpr this⟩)
          clear hb
          go_enter Try.func33, Try.ntmps33
          go_wp2
          go_ret2
          exact ⟨ret2_bool V.out.1.symm V.out.2.symm, below1' _ _⟩
        · have hb' : ¬ a1 * 4294967296 + a0 ≤ 9223372036854775808 := fun h => hb ⟨rfl, h⟩
          have V := Lib.hid (sg_over (a1 * 4294967296 + a0).toNat true (by omega))
          clear hb
          go_enter Try.func33, Try.ntmps33
          go_wp2
          go_ret2
          exact ⟨ret2_bool V.out.1.symm V.out.2.symm, below1' _ _⟩
  · have V := Lib.hid (sg_over (val a0 a1 a2 a3).toNat ma (by unfold val; omega))
    by_cases h3 : a2 = 0
    · have h4 : 0 < a3 := by omega
      subst h3
      clear h2
      go_enter Try.func33, Try.ntmps33
      go_wp2
      go_ret2
      exact ⟨ret2_bool V.out.1.symm V.out.2.symm, below1' _ _⟩
    · have h4 : 0 < a2 := by omega
      clear h2
      go_enter Try.func33, Try.ntmps33
      go_wp2
      go_ret2
      exact ⟨ret2_bool V.out.1.symm V.out.2.symm, below1' _ _⟩
end Go.Proofs.Ytaohidaijlcplaa.r
