/- What layer word's State and Control answer; the world stays as it was. No condition. -/
import Derived.Test.YtdfgjfojneoljaaORefS
namespace Go.Proofs.Ytdfgjfojneoljaa.o
open Go.ChangeShapes Go.WideShapes Go.ChangeAt Go.RowKit Go.Proofs.Ytdfgjfojneoljaa.k
set_option linter.unusedVariables false

set_option maxHeartbeats 2000000 in
theorem state_any (s : Int) (w : World) : Calls Try.prog 27 #[.int .i64 s] w fun e w' => e = .returned (.int .i64 (st s)) ∧ w = w' := by
  rcases low16 s with h | h | h | h | h | h | h | h | h | h | h | h | h | h | h | h
  · have e1 := mask (K := 1) (v := 0) h (by omega) (by omega) (by decide)
    have e2 := mask (K := 2) (v := 0) h (by omega) (by omega) (by decide)
    have e3 := mask (K := 3) (v := 0) h (by omega) (by omega) (by decide)
    have e4 := mask (K := 4) (v := 0) h (by omega) (by omega) (by decide)
    have e5 := mask (K := 5) (v := 0) h (by omega) (by omega) (by decide)
    have e6 := mask (K := 6) (v := 0) h (by omega) (by omega) (by decide)
    have e7 := mask (K := 7) (v := 0) h (by omega) (by omega) (by decide)
    have e8 := mask (K := 8) (v := 0) h (by omega) (by omega) (by decide)
    have HV : Hid (st s = 0) := Lib.hid ((st_low 0 h).trans (by decide))
    clear h
    go_enter Try.func27, Try.ntmps27
    go_wp2
    go_ret
    exact ⟨ret_int HV.out.symm, rfl⟩
  · have e1 := mask (K := 1) (v := 1) h (by omega) (by omega) (by decide)
    have e2 := mask (K := 2) (v := 0) h (by omega) (by omega) (by decide)
    have e3 := mask (K := 3) (v := 1) h (by omega) (by omega) (by decide)
    have e4 := mask (K := 4) (v := 0) h (by omega) (by omega) (by decide)
    have e5 := mask (K := 5) (v := 1) h (by omega) (by omega) (by decide)
    have e6 := mask (K := 6) (v := 0) h (by omega) (by omega) (by decide)
    have e7 := mask (K := 7) (v := 1) h (by omega) (by omega) (by decide)
    have e8 := mask (K := 8) (v := 0) h (by omega) (by omega) (by decide)
    have HV : Hid (st s = 1) := Lib.hid ((st_low 1 h).trans (by decide))
    clear h
    go_enter Try.func27, Try.ntmps27
    go_wp2
    go_ret
    exact ⟨ret_int HV.out.symm, rfl⟩
  · have e1 := mask (K := 1) (v := 0) h (by omega) (by omega) (by decide)
    have e2 := mask (K := 2) (v := 2) h (by omega) (by omega) (by decide)
    have e3 := mask (K := 3) (v := 2) h (by omega) (by omega) (by decide)
    have e4 := mask (K := 4) (v := 0) h (by omega) (by omega) (by decide)
    have e5 := mask (K := 5) (v := 0) h (by omega) (by omega) (by decide)
    have e6 := mask (K := 6) (v := 2) h (by omega) (by omega) (by decide)
    have e7 := mask (K := 7) (v := 2) h (by omega) (by omega) (by decide)
    have e8 := mask (K := 8) (v := 0) h (by omega) (by omega) (by decide)
    have HV : Hid (st s = 0) := Lib.hid ((st_low 2 h).trans (by decide))
    clear h
    go_enter Try.func27, Try.ntmps27
    go_wp2
    go_ret
    exact ⟨ret_int HV.out.symm, rfl⟩
  · have e1 := mask (K := 1) (v := 1) h (by omega) (by omega) (by decide)
    have e2 := mask (K := 2) (v := 2) h (by omega) (by omega) (by decide)
    have e3 := mask (K := 3) (v := 3) h (by omega) (by omega) (by decide)
    have e4 := mask (K := 4) (v := 0) h (by omega) (by omega) (by decide)
    have e5 := mask (K := 5) (v := 1) h (by omega) (by omega) (by decide)
    have e6 := mask (K := 6) (v := 2) h (by omega) (by omega) (by decide)
    have e7 := mask (K := 7) (v := 3) h (by omega) (by omega) (by decide)
    have e8 := mask (K := 8) (v := 0) h (by omega) (by omega) (by decide)
    have HV : Hid (st s = 2) := Lib.hid ((st_low 3 h).trans (by decide))
    clear h
    go_enter Try.func27, Try.ntmps27
    go_wp2
    go_ret
    exact ⟨ret_int HV.out.symm, rfl⟩
  · have e1 := mask (K := 1) (v := 0) h (by omega) (by omega) (by decide)
    have e2 := mask (K := 2) (v := 0) h (by omega) (by omega) (by decide)
    have e3 := mask (K := 3) (v := 0) h (by omega) (by omega) (by decide)
    have e4 := mask (K := 4) (v := 4) h (by omega) (by omega) (by decide)
    have e5 := mask (K := 5) (v := 4) h (by omega) (by omega) (by decide)
    have e6 := mask (K := 6) (v := 4) h (by omega) (by omega) (by decide)
    have e7 := mask (K := 7) (v := 4) h (by omega) (by omega) (by decide)
    have e8 := mask (K := 8) (v := 0) h (by omega) (by omega) (by decide)
    have HV : Hid (st s = 0) := Lib.hid ((st_low 4 h).trans (by decide))
    clear h
    go_enter Try.func27, Try.ntmps27
    go_wp2
    go_ret
    exact ⟨ret_int HV.out.symm, rfl⟩
  · have e1 := mask (K := 1) (v := 1) h (by omega) (by omega) (by decide)
    have e2 := mask (K := 2) (v := 0) h (by omega) (by omega) (by decide)
    have e3 := mask (K := 3) (v := 1) h (by omega) (by omega) (by decide)
    have e4 := mask (K := 4) (v := 4) h (by omega) (by omega) (by decide)
    have e5 := mask (K := 5) (v := 5) h (by omega) (by omega) (by decide)
    have e6 := mask (K := 6) (v := 4) h (by omega) (by omega) (by decide)
    have e7 := mask (K := 7) (v := 5) h (by omega) (by omega) (by decide)
    have e8 := mask (K := 8) (v := 0) h (by omega) (by omega) (by decide)
    have HV : Hid (st s = 1) := Lib.hid ((st_low 5 h).trans (by decide))
    clear h
    go_enter Try.func27, Try.ntmps27
    go_wp2
    go_ret
    exact ⟨ret_int HV.out.symm, rfl⟩
  · have e1 := mask (K := 1) (v := 0) h (by omega) (by omega) (by decide)
    have e2 := mask (K := 2) (v := 2) h (by omega) (by omega) (by decide)
    have e3 := mask (K := 3) (v := 2) h (by omega) (by omega) (by decide)
    have e4 := mask (K := 4) (v := 4) h (by omega) (by omega) (by decide)
    have e5 := mask (K := 5) (v := 4) h (by omega) (by omega) (by decide)
    have e6 := mask (K := 6) (v := 6) h (by omega) (by omega) (by decide)
    have e7 := mask (K := 7) (v := 6) h (by omega) (by omega) (by decide)
    have e8 := mask (K := 8) (v := 0) h (by omega) (by omega) (by decide)
    have HV : Hid (st s = 0) := Lib.hid ((st_low 6 h).trans (by decide))
    clear h
    go_enter Try.func27, Try.ntmps27
    go_wp2
    go_ret
    exact ⟨ret_int HV.out.symm, rfl⟩
  · have e1 := mask (K := 1) (v := 1) h (by omega) (by omega) (by decide)
    have e2 := mask (K := 2) (v := 2) h (by omega) (by omega) (by decide)
    have e3 := mask (K := 3) (v := 3) h (by omega) (by omega) (by decide)
    have e4 := mask (K := 4) (v := 4) h (by omega) (by omega) (by decide)
    have e5 := mask (K := 5) (v := 5) h (by omega) (by omega) (by decide)
    have e6 := mask (K := 6) (v := 6) h (by omega) (by omega) (by decide)
    have e7 := mask (K := 7) (v := 7) h (by omega) (by omega) (by decide)
    have e8 := mask (K := 8) (v := 0) h (by omega) (by omega) (by decide)
    have HV : Hid (st s = 3) := Lib.hid ((st_low 7 h).trans (by decide))
    clear h
    go_enter Try.func27, Try.ntmps27
    go_wp2
    go_ret
    exact ⟨ret_int HV.out.symm, rfl⟩
  · have e1 := mask (K := 1) (v := 0) h (by omega) (by omega) (by decide)
    have e2 := mask (K := 2) (v := 0) h (by omega) (by omega) (by decide)
    have e3 := mask (K := 3) (v := 0) h (by omega) (by omega) (by decide)
    have e4 := mask (K := 4) (v := 0) h (by omega) (by omega) (by decide)
    have e5 := mask (K := 5) (v := 0) h (by omega) (by omega) (by decide)
    have e6 := mask (K := 6) (v := 0) h (by omega) (by omega) (by decide)
    have e7 := mask (K := 7) (v := 0) h (by omega) (by omega) (by decide)
    have e8 := mask (K := 8) (v := 8) h (by omega) (by omega) (by decide)
    have HV : Hid (st s = 4) := Lib.hid ((st_low 8 h).trans (by decide))
    clear h
    go_enter Try.func27, Try.ntmps27
    go_wp2
    go_ret
    exact ⟨ret_int HV.out.symm, rfl⟩
  · have e1 := mask (K := 1) (v := 1) h (by omega) (by omega) (by decide)
    have e2 := mask (K := 2) (v := 0) h (by omega) (by omega) (by decide)
    have e3 := mask (K := 3) (v := 1) h (by omega) (by omega) (by decide)
    have e4 := mask (K := 4) (v := 0) h (by omega) (by omega) (by decide)
    have e5 := mask (K := 5) (v := 1) h (by omega) (by omega) (by decide)
    have e6 := mask (K := 6) (v := 0) h (by omega) (by omega) (by decide)
    have e7 := mask (K := 7) (v := 1) h (by omega) (by omega) (by decide)
    have e8 := mask (K := 8) (v := 8) h (by omega) (by omega) (by decide)
    have HV : Hid (st s = 4) := Lib.hid ((st_low 9 h).trans (by decide))
    clear h
    go_enter Try.func27, Try.ntmps27
    go_wp2
    go_ret
    exact ⟨ret_int HV.out.symm, rfl⟩
  · have e1 := mask (K := 1) (v := 0) h (by omega) (by omega) (by decide)
    have e2 := mask (K := 2) (v := 2) h (by omega) (by omega) (by decide)
    have e3 := mask (K := 3) (v := 2) h (by omega) (by omega) (by decide)
    have e4 := mask (K := 4) (v := 0) h (by omega) (by omega) (by decide)
    have e5 := mask (K := 5) (v := 0) h (by omega) (by omega) (by decide)
    have e6 := mask (K := 6) (v := 2) h (by omega) (by omega) (by decide)
    have e7 := mask (K := 7) (v := 2) h (by omega) (by omega) (by decide)
    have e8 := mask (K := 8) (v := 8) h (by omega) (by omega) (by decide)
    have HV : Hid (st s = 4) := Lib.hid ((st_low 10 h).trans (by decide))
    clear h
    go_enter Try.func27, Try.ntmps27
    go_wp2
    go_ret
    exact ⟨ret_int HV.out.symm, rfl⟩
  · have e1 := mask (K := 1) (v := 1) h (by omega) (by omega) (by decide)
    have e2 := mask (K := 2) (v := 2) h (by omega) (by omega) (by decide)
    have e3 := mask (K := 3) (v := 3) h (by omega) (by omega) (by decide)
    have e4 := mask (K := 4) (v := 0) h (by omega) (by omega) (by decide)
    have e5 := mask (K := 5) (v := 1) h (by omega) (by omega) (by decide)
    have e6 := mask (K := 6) (v := 2) h (by omega) (by omega) (by decide)
    have e7 := mask (K := 7) (v := 3) h (by omega) (by omega) (by decide)
    have e8 := mask (K := 8) (v := 8) h (by omega) (by omega) (by decide)
    have HV : Hid (st s = 4) := Lib.hid ((st_low 11 h).trans (by decide))
    clear h
    go_enter Try.func27, Try.ntmps27
    go_wp2
    go_ret
    exact ⟨ret_int HV.out.symm, rfl⟩
  · have e1 := mask (K := 1) (v := 0) h (by omega) (by omega) (by decide)
    have e2 := mask (K := 2) (v := 0) h (by omega) (by omega) (by decide)
    have e3 := mask (K := 3) (v := 0) h (by omega) (by omega) (by decide)
    have e4 := mask (K := 4) (v := 4) h (by omega) (by omega) (by decide)
    have e5 := mask (K := 5) (v := 4) h (by omega) (by omega) (by decide)
    have e6 := mask (K := 6) (v := 4) h (by omega) (by omega) (by decide)
    have e7 := mask (K := 7) (v := 4) h (by omega) (by omega) (by decide)
    have e8 := mask (K := 8) (v := 8) h (by omega) (by omega) (by decide)
    have HV : Hid (st s = 4) := Lib.hid ((st_low 12 h).trans (by decide))
    clear h
    go_enter Try.func27, Try.ntmps27
    go_wp2
    go_ret
    exact ⟨ret_int HV.out.symm, rfl⟩
  · have e1 := mask (K := 1) (v := 1) h (by omega) (by omega) (by decide)
    have e2 := mask (K := 2) (v := 0) h (by omega) (by omega) (by decide)
    have e3 := mask (K := 3) (v := 1) h (by omega) (by omega) (by decide)
    have e4 := mask (K := 4) (v := 4) h (by omega) (by omega) (by decide)
    have e5 := mask (K := 5) (v := 5) h (by omega) (by omega) (by decide)
    have e6 := mask (K := 6) (v := 4) h (by omega) (by omega) (by decide)
    have e7 := mask (K := 7) (v := 5) h (by omega) (by omega) (by decide)
    have e8 := mask (K := 8) (v := 8) h (by omega) (by omega) (by decide)
    have HV : Hid (st s = 4) := Lib.hid ((st_low 13 h).trans (by decide))
    clear h
    go_enter Try.func27, Try.ntmps27
    go_wp2
    go_ret
    exact ⟨ret_int HV.out.symm, rfl⟩
  · have e1 := mask (K := 1) (v := 0) h (by omega) (by omega) (by decide)
    have e2 := mask (K := 2) (v := 2) h (by omega) (by omega) (by decide)
    have e3 := mask (K := 3) (v := 2) h (by omega) (by omega) (by decide)
    have e4 := mask (K := 4) (v := 4) h (by omega) (by omega) (by decide)
    have e5 := mask (K := 5) (v := 4) h (by omega) (by omega) (by decide)
    have e6 := mask (K := 6) (v := 6) h (by omega) (by omega) (by decide)
    have e7 := mask (K := 7) (v := 6) h (by omega) (by omega) (by decide)
    have e8 := mask (K := 8) (v := 8) h (by omega) (by omega) (by decide)
    have HV : Hid (st s = 4) := Lib.hid ((st_low 14 h).trans (by decide))
    clear h
    go_enter Try.func27, Try.ntmps27
    go_wp2
    go_ret
    exact ⟨ret_int HV.out.symm, rfl⟩
  · have e1 := mask (K := 1) (v := 1) h (by omega) (by omega) (by decide)
    have e2 := mask (K := 2) (v := 2) h (by omega) (by omega) (by decide)
    have e3 := mask (K := 3) (v := 3) h (by omega) (by omega) (by decide)
    have e4 := mask (K := 4) (v := 4) h (by omega) (by omega) (by decide)
    have e5 := mask (K := 5) (v := 5) h (by omega) (by omega) (by decide)
    have e6 := mask (K := 6) (v := 6) h (by omega) (by omega) (by decide)
    have e7 := mask (K := 7) (v := 7) h (by omega) (by omega) (by decide)
    have e8 := mask (K := 8) (v := 8) h (by omega) (by omega) (by decide)
    have HV : Hid (st s = 4) := Lib.hid ((st_low 15 h).trans (by decide))
    clear h
    go_enter Try.func27, Try.ntmps27
    go_wp2
    go_ret
    exact ⟨ret_int HV.out.symm, rfl⟩
set_option maxHeartbeats 2000000 in
theorem control_any (x : Int) (want clear : Bool) (w : World) : Calls Try.prog 31 #[.int .i64 x, .bool want, .bool clear] w fun e w' => e = .returned (.int .i64 (ctl x want clear)) ∧ w = w' := by
  by_cases h0 : 0 ≤ x
  · by_cases h4 : x ≤ 4
    · rcases five_of x h0 h4 with rfl | rfl | rfl | rfl | rfl
      · clear h0 h4
        cases want <;> cases clear
        · have HV : Hid (ctl 0 false false = 0) := Lib.hid (by decide)
          go_enter Try.func31, Try.ntmps31
          go_wp2
          go_ret
          exact ⟨ret_int HV.out.symm, rfl⟩
        · have HV : Hid (ctl 0 false true = 0) := Lib.hid (by decide)
          go_enter Try.func31, Try.ntmps31
          go_wp2
          go_ret
          exact ⟨ret_int HV.out.symm, rfl⟩
        · have HV : Hid (ctl 0 true false = 1) := Lib.hid (by decide)
          go_enter Try.func31, Try.ntmps31
          go_wp2
          go_ret
          exact ⟨ret_int HV.out.symm, rfl⟩
        · have HV : Hid (ctl 0 true true = 1) := Lib.hid (by decide)
          go_enter Try.func31, Try.ntmps31
          go_wp2
          go_ret
          exact ⟨ret_int HV.out.symm, rfl⟩
      · clear h0 h4
        cases want <;> cases clear
        · have HV : Hid (ctl 1 false false = 0) := Lib.hid (by decide)
          go_enter Try.func31, Try.ntmps31
          go_wp2
          go_ret
          exact ⟨ret_int HV.out.symm, rfl⟩
        · have HV : Hid (ctl 1 false true = 0) := Lib.hid (by decide)
          go_enter Try.func31, Try.ntmps31
          go_wp2
          go_ret
          exact ⟨ret_int HV.out.symm, rfl⟩
        · have HV : Hid (ctl 1 true false = 1) := Lib.hid (by decide)
          go_enter Try.func31, Try.ntmps31
          go_wp2
          go_ret
          exact ⟨ret_int HV.out.symm, rfl⟩
        · have HV : Hid (ctl 1 true true = 1) := Lib.hid (by decide)
          go_enter Try.func31, Try.ntmps31
          go_wp2
          go_ret
          exact ⟨ret_int HV.out.symm, rfl⟩
      · clear h0 h4
        cases want <;> cases clear
        · have HV : Hid (ctl 2 false false = 0) := Lib.hid (by decide)
          go_enter Try.func31, Try.ntmps31
          go_wp2
          go_ret
          exact ⟨ret_int HV.out.symm, rfl⟩
        · have HV : Hid (ctl 2 false true = 0) := Lib.hid (by decide)
          go_enter Try.func31, Try.ntmps31
          go_wp2
          go_ret
          exact ⟨ret_int HV.out.symm, rfl⟩
        · have HV : Hid (ctl 2 true false = 3) := Lib.hid (by decide)
          go_enter Try.func31, Try.ntmps31
          go_wp2
          go_ret
          exact ⟨ret_int HV.out.symm, rfl⟩
        · have HV : Hid (ctl 2 true true = 3) := Lib.hid (by decide)
          go_enter Try.func31, Try.ntmps31
          go_wp2
          go_ret
          exact ⟨ret_int HV.out.symm, rfl⟩
      · clear h0 h4
        cases want <;> cases clear
        · have HV : Hid (ctl 3 false false = 0) := Lib.hid (by decide)
          go_enter Try.func31, Try.ntmps31
          go_wp2
          go_ret
          exact ⟨ret_int HV.out.symm, rfl⟩
        · have HV : Hid (ctl 3 false true = 0) := Lib.hid (by decide)
          go_enter Try.func31, Try.ntmps31
          go_wp2
          go_ret
          exact ⟨ret_int HV.out.symm, rfl⟩
        · have HV : Hid (ctl 3 true false = 3) := Lib.hid (by decide)
          go_enter Try.func31, Try.ntmps31
          go_wp2
          go_ret
          exact ⟨ret_int HV.out.symm, rfl⟩
        · have HV : Hid (ctl 3 true true = 3) := Lib.hid (by decide)
          go_enter Try.func31, Try.ntmps31
          go_wp2
          go_ret
          exact ⟨ret_int HV.out.symm, rfl⟩
      · clear h0 h4
        cases want <;> cases clear
        · have HV : Hid (ctl 4 false false = 0) := Lib.hid (by decide)
          go_enter Try.func31, Try.ntmps31
          go_wp2
          go_ret
          exact ⟨ret_int HV.out.symm, rfl⟩
        · have HV : Hid (ctl 4 false true = 4) := Lib.hid (by decide)
          go_enter Try.func31, Try.ntmps31
          go_wp2
          go_ret
          exact ⟨ret_int HV.out.symm, rfl⟩
        · have HV : Hid (ctl 4 true false = 0) := Lib.hid (by decide)
          go_enter Try.func31, Try.ntmps31
          go_wp2
          go_ret
          exact ⟨ret_int HV.out.symm, rfl⟩
        · have HV : Hid (ctl 4 true true = 4) := Lib.hid (by decide)
          go_enter Try.func31, Try.ntmps31
          go_wp2
          go_ret
          exact ⟨ret_int HV.out.symm, rfl⟩
    · have hgt : 4 < x := by omega
      have HV : Hid (ctl x want clear = 0) := Lib.hid (by unfold ctl; rw [if_neg (by omega)]; split; rfl; rw [if_neg (by omega), if_neg (by omega)])
      have b0 : (x == 0) = false := by rw [beq_eq_false_iff_ne]; omega
      have b1 : (x == 1) = false := by rw [beq_eq_false_iff_ne]; omega
      have b2 : (x == 2) = false := by rw [beq_eq_false_iff_ne]; omega
      have b3 : (x == 3) = false := by rw [beq_eq_false_iff_ne]; omega
      have b4 : (x == 4) = false := by rw [beq_eq_false_iff_ne]; omega
      cases want <;> cases clear
      all_goals
        go_enter Try.func31, Try.ntmps31
        go_wp2
        go_ret
        exact ⟨ret_int HV.out.symm, rfl⟩
  · have hlt : x < 0 := by omega
    have HV : Hid (ctl x want clear = 0) := Lib.hid (by unfold ctl; rw [if_neg (by omega)]; split; rfl; rw [if_neg (by omega), if_neg (by omega)])
    have b0 : (x == 0) = false := by rw [beq_eq_false_iff_ne]; omega
    have b1 : (x == 1) = false := by rw [beq_eq_false_iff_ne]; omega
    have b2 : (x == 2) = false := by rw [beq_eq_false_iff_ne]; omega
    have b3 : (x == 3) = false := by rw [beq_eq_false_iff_ne]; omega
    have b4 : (x == 4) = false := by rw [beq_eq_false_iff_ne]; omega
    cases want <;> cases clear
    all_goals
      go_enter Try.func31, Try.ntmps31
      go_wp2
      go_ret
      exact ⟨ret_int HV.out.symm, rfl⟩
end Go.Proofs.Ytdfgjfojneoljaa.o
