/- What servitorref06's State and Control answer. No condition. -/
import Derived.Test.YtdfgjfojneoljaaOMath
namespace Go.Proofs.Ytdfgjfojneoljaa.o
open Go.ChangeShapes Go.WideShapes Go.ChangeAt Go.RowKit Go.Proofs.Ytdfgjfojneoljaa.k
set_option linter.unusedVariables false

theorem mask {s k K v : Int} (h : s % 16 = k) (h0 : 0 ≤ K) (h1 : K < 16) (hv : bits .and .i64 k K = v) : bits .and .i64 s K = v := (and_low s K h0 h1).trans (h ▸ hv)
theorem low16' (m : Int) (h0 : 0 ≤ m) (h1 : m < 16) : m = 0 ∨ m = 1 ∨ m = 2 ∨ m = 3 ∨ m = 4 ∨ m = 5 ∨ m = 6 ∨ m = 7 ∨ m = 8 ∨ m = 9 ∨ m = 10 ∨ m = 11 ∨ m = 12 ∨ m = 13 ∨ m = 14 ∨ m = 15 := by omega
theorem low8' (m : Int) (h0 : 0 ≤ m) (h1 : m < 8) : m = 0 ∨ m = 1 ∨ m = 2 ∨ m = 3 ∨ m = 4 ∨ m = 5 ∨ m = 6 ∨ m = 7 := by omega
theorem ix16 (m : Int) (h0 : 0 ≤ m) (h1 : m < 16) (w : World) : (Instr.index 77 (.agg #[.int .i64 0, .int .i64 1, .int .i64 0, .int .i64 2, .int .i64 0, .int .i64 1, .int .i64 0, .int .i64 3, .int .i64 4, .int .i64 4, .int .i64 4, .int .i64 4, .int .i64 4, .int .i64 4, .int .i64 4, .int .i64 4]) (.int .i64 m)).run Try.prog w = .ok (.int .i64 (st m)) w := by
  rcases low16' m h0 h1 with rfl | rfl | rfl | rfl | rfl | rfl | rfl | rfl | rfl | rfl | rfl | rfl | rfl | rfl | rfl | rfl <;> kernel_rfl
theorem ixc (m : Int) (h0 : 0 ≤ m) (h1 : m ≤ 4) (w : World) : (Instr.index 76 (.agg #[.int .i64 1, .int .i64 1, .int .i64 3, .int .i64 3, .int .i64 0]) (.int .i64 m)).run Try.prog w = .ok (.int .i64 (ctl m true false)) w := by
  rcases five_of m h0 h1 with rfl | rfl | rfl | rfl | rfl <;> kernel_rfl
theorem refstate_any (s : Int) (w : World) : Calls Try.prog 35 #[.int .i64 s] w fun e w' => e = .returned (.int .i64 (st s)) ∧ w = w' := by
  have e1 : bits .and .i64 s 15 = s % 16 := by
    rw [and_low s 15 (by omega) (by omega)]
    rcases low16 s with h | h | h | h | h | h | h | h | h | h | h | h | h | h | h | h <;> rw [h] <;> decide
  have HV : Hid (st (s % 16) = st s) := Lib.hid (by unfold st; omega)
  have h0 : 0 ≤ s % 16 := by omega
  have h1 : s % 16 < 16 := by omega
  generalize s % 16 = m at *
  have hx := ix16 m h0 h1
  generalize st m = v at *
  go_enter Try.func35, Try.ntmps35
  go_wp2
  go_ret
  exact ⟨ret_int HV.out, rfl⟩
theorem ctl_out {x : Int} (h : x < 0 ∨ 4 < x) (want clear : Bool) : ctl x want clear = 0 := by
  unfold ctl
  rw [if_neg (by omega)]
  split
  · rfl
  · rw [if_neg (by omega), if_neg (by omega)]
theorem refcontrol_any (x : Int) (want clear : Bool) (w : World) : Calls Try.prog 33 #[.int .i64 x, .bool want, .bool clear] w fun e w' => e = .returned (.int .i64 (ctl x want clear)) ∧ w = w' := by
  by_cases h0 : 0 ≤ x
  · by_cases h4 : x ≤ 4
    · by_cases hq : x = 4
      · subst hq
        cases clear
        · cases want
          · have HV : Hid (ctl 4 false false = 0) := Lib.hid (by decide)
            go_enter Try.func33, Try.ntmps33
            go_wp2
            go_ret
            exact ⟨ret_int HV.out.symm, rfl⟩
          · have HV : Hid (ctl 4 true false = 0) := Lib.hid (by decide)
            have hx := ixc 4 (by omega) (by omega)
            rw [HV.out] at hx
            go_enter Try.func33, Try.ntmps33
            go_wp2
            go_ret
            exact ⟨ret_int HV.out.symm, rfl⟩
        · have HV : Hid (ctl 4 want true = 4) := Lib.hid (by cases want <;> decide)
          go_enter Try.func33, Try.ntmps33
          go_wp2
          go_ret
          exact ⟨ret_int HV.out.symm, rfl⟩
      · have hq2 : (x == 4) = false := by rw [beq_eq_false_iff_ne]; exact hq
        cases want
        · have HV : Hid (ctl x false clear = 0) := Lib.hid (by unfold ctl; rw [if_neg hq, if_pos rfl])
          clear hq
          go_enter Try.func33, Try.ntmps33
          go_wp2
          go_ret
          exact ⟨ret_int HV.out.symm, rfl⟩
        · have HV : Hid (ctl x true clear = ctl x true false) := Lib.hid (by unfold ctl; rw [if_neg hq, if_neg hq])
          have hx := ixc x h0 h4
          clear hq
          generalize ctl x true false = v at *
          go_enter Try.func33, Try.ntmps33
          go_wp2
          go_ret
          exact ⟨ret_int HV.out.symm, rfl⟩
    · have HV := Lib.hid (ctl_out (x := x) (.inr (by omega)) want clear)
      go_enter Try.func33, Try.ntmps33
      go_wp2
      go_ret
      exact ⟨ret_int HV.out.symm, rfl⟩
  · have HV := Lib.hid (ctl_out (x := x) (.inl (by omega)) want clear)
    go_enter Try.func33, Try.ntmps33
    go_wp2
    go_ret
    exact ⟨ret_int HV.out.symm, rfl⟩
end Go.Proofs.Ytdfgjfojneoljaa.o
