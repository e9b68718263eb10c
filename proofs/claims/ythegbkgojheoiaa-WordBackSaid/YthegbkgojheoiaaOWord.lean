/- What layer word's functions answer; the world stays as it was. No condition. -/
import Derived.Test.YthegbkgojheoiaaORef
namespace Go.Proofs.Ythegbkgojheoiaa.o
open Go.ChangeShapes Go.WideShapes Go.ChangeAt Go.RowKit Go.Proofs.Ythegbkgojheoiaa.k
set_option linter.unusedVariables false

set_option maxHeartbeats 2000000 in
theorem state_any (s : Int) (w : World) : Calls Try.prog 7 #[.int .i64 s] w fun e w' => e = .returned (.int .i64 (st s)) ∧ w = w' := by
  rcases low16 s with h | h | h | h | h | h | h | h | h | h | h | h | h | h | h | h
  · have e1 := mask (K := 1) (v := 0) h (by omega) (by omega) (by decide)
    have e2 := mask (K := 2) (v := 0) h (by omega) (by omega) (by decide)
    have e3 := mask (K := 3) (v := 0) h (by omega) (by omega) (by decide)
    have e4 := mask (K := 4) (v := 0) h (by omega) (by omega) (by decide)
    have e5 := mask (K := 5) (v := 0) h (by omega) (by omega) (by decide)
    have e6 := mask (K := 6) (v := 0) h (by omega) (by omega) (by decide)
    have e7 := mask (K := 7) (v := 0) h (by omega) (by omega) (by decide)
    have e8 := mask (K := 8) (v := 0) h (by omega) (by omega) (by decide)
    have HV : Hid (st s = 0) := Lib.hid ((st_low 0 h).trans (by decide))
    clear h
    go_enter Try.func7, Try.ntmps7
    go_wp2
    go_ret
    exact ⟨ret_int HV.out.symm, rfl⟩
  · have e1 := mask (K := 1) (v := 1) h (by omega) (by omega) (by decide)
    have e2 := mask (K := 2) (v := 0) h (by omega) (by omega) (by decide)
    have e3 := mask (K := 3) (v := 1) h (by omega) (by omega) (by decide)
    have e4 := mask (K := 4) (v := 0) h (by omega) (by omega) (by decide)
    have e5 := mask (K := 5) (v := 1) h (by omega) (by omega) (by decide)
    have e6 := mask (K := 6) (v := 0) h (by omega) (by omega) (by decide)
    have e7 := mask (K := 7) (v := 1) h (by omega) (by omega) (by decide)
    have e8 := mask (K := 8) (v := 0) h (by omega) (by omega) (by decide)
    have HV : Hid (st s = 1) := Lib.hid ((st_low 1 h).trans (by decide))
    clear h
    go_enter Try.func7, Try.ntmps7
    go_wp2
    go_ret
    exact ⟨ret_int HV.out.symm, rfl⟩
  · have e1 := mask (K := 1) (v := 0) h (by omega) (by omega) (by decide)
    have e2 := mask (K := 2) (v := 2) h (by omega) (by omega) (by decide)
    have e3 := mask (K := 3) (v := 2) h (by omega) (by omega) (by decide)
    have e4 := mask (K := 4) (v := 0) h (by omega) (by omega) (by decide)
    have e5 := mask (K := 5) (v := 0) h (by omega) (by omega) (by decide)
    have e6 := mask (K := 6) (v := 2) h (by omega) (by omega) (by decide)
    have e7 := mask (K := 7) (v := 2) h (by omega) (by omega) (by decide)
    have e8 := mask (K := 8) (v := 0) h (by omega) (by omega) (by decide)
    have HV : Hid (st s = 0) := Lib.hid ((st_low 2 h).trans (by decide))
    clear h
    go_enter Try.func7, Try.ntmps7
    go_wp2
    go_ret
    exact ⟨ret_int HV.out.symm, rfl⟩
  · have e1 := mask (K := 1) (v := 1) h (by omega) (by omega) (by decide)
    have e2 := mask (K := 2) (v := 2) h (by omega) (by omega) (by decide)
    have e3 := mask (K := 3) (v := 3) h (by omega) (by omega) (by decide)
    have e4 := mask (K := 4) (v := 0) h (by omega) (by omega) (by decide)
    have e5 := mask (K := 5) (v := 1) h (by omega) (by omega) (by decide)
    have e6 := mask (K := 6) (v := 2) h (by omega) (by omega) (by decide)
    have e7 := mask (K := 7) (v := 3) h (by omega) (by omega) (by decide)
    have e8 := mask (K := 8) (v := 0) h (by omega) (by omega) (by decide)
    have HV : Hid (st s = 2) := Lib.hid ((st_low 3 h).trans (by decide))
    clear h
    go_enter Try.func7, Try.ntmps7
    go_wp2
    go_ret
    exact ⟨ret_int HV.out.symm, rfl⟩
  · have e1 := mask (K := 1) (v := 0) h (by omega) (by omega) (by decide)
    have e2 := mask (K := 2) (v := 0) h (by omega) (by omega) (by decide)
    have e3 := mask (K := 3) (v := 0) h (by omega) (by omega) (by decide)
    have e4 := mask (K := 4) (v := 4) h (by omega) (by omega) (by decide)
    have e5 := mask (K := 5) (v := 4) h (by omega) (by omega) (by decide)
    have e6 := mask (K := 6) (v := 4) h (by omega) (by omega) (by decide)
    have e7 := mask (K := 7) (v := 4) h (by omega) (by omega) (by decide)
    have e8 := mask (K := 8) (v := 0) h (by omega) (by omega) (by decide)
    have HV : Hid (st s = 0) := Lib.hid ((st_low 4 h).trans (by decide))
    clear h
    go_enter Try.func7, Try.ntmps7
    go_wp2
    go_ret
    exact ⟨ret_int HV.out.symm, rfl⟩
  · have e1 := mask (K := 1) (v := 1) h (by omega) (by omega) (by decide)
    have e2 := mask (K := 2) (v := 0) h (by omega) (by omega) (by decide)
    have e3 := mask (K := 3) (v := 1) h (by omega) (by omega) (by decide)
    have e4 := mask (K := 4) (v := 4) h (by omega) (by omega) (by decide)
    have e5 := mask (K := 5) (v := 5) h (by omega) (by omega) (by decide)
    have e6 := mask (K := 6) (v := 4) h (by omega) (by omega) (by decide)
    have e7 := mask (K := 7) (v := 5) h (by omega) (by omega) (by decide)
    have e8 := mask (K := 8) (v := 0) h (by omega) (by omega) (by decide)
    have HV : Hid (st s = 1) := Lib.hid ((st_low 5 h).trans (by decide))
    clear h
    go_enter Try.func7, Try.ntmps7
    go_wp2
    go_ret
    exact ⟨ret_int HV.out.symm, rfl⟩
  · have e1 := mask (K := 1) (v := 0) h (by omega) (by omega) (by decide)
    have e2 := mask (K := 2) (v := 2) h (by omega) (by omega) (by decide)
    have e3 := mask (K := 3) (v := 2) h (by omega) (by omega) (by decide)
    have e4 := mask (K := 4) (v := 4) h (by omega) (by omega) (by decide)
    have e5 := mask (K := 5) (v := 4) h (by omega) (by omega) (by decide)
    have e6 := mask (K := 6) (v := 6) h (by omega) (by omega) (by decide)
    have e7 := mask (K := 7) (v := 6) h (by omega) (by omega) (by decide)
    have e8 := mask (K := 8) (v := 0) h (by omega) (by omega) (by decide)
    have HV : Hid (st s = 0) := Lib.hid ((st_low 6 h).trans (by decide))
    clear h
    go_enter Try.func7, Try.ntmps7
    go_wp2
    go_ret
    exact ⟨ret_int HV.out.symm, rfl⟩
  · have e1 := mask (K := 1) (v := 1) h (by omega) (by omega) (by decide)
    have e2 := mask (K := 2) (v := 2) h (by omega) (by omega) (by decide)
    have e3 := mask (K := 3) (v := 3) h (by omega) (by omega) (by decide)
    have e4 := mask (K := 4) (v := 4) h (by omega) (by omega) (by decide)
    have e5 := mask (K := 5) (v := 5) h (by omega) (by omega) (by decide)
    have e6 := mask (K := 6) (v := 6) h (by omega) (by omega) (by decide)
    have e7 := mask (K := 7) (v := 7) h (by omega) (by omega) (by decide)
    have e8 := mask (K := 8) (v := 0) h (by omega) (by omega) (by decide)
    have HV : Hid (st s = 3) := Lib.hid ((st_low 7 h).trans (by decide))
    clear h
    go_enter Try.func7, Try.ntmps7
    go_wp2
    go_ret
    exact ⟨ret_int HV.out.symm, rfl⟩
  · have e1 := mask (K := 1) (v := 0) h (by omega) (by omega) (by decide)
    have e2 := mask (K := 2) (v := 0) h (by omega) (by omega) (by decide)
    have e3 := mask (K := 3) (v := 0) h (by omega) (by omega) (by decide)
    have e4 := mask (K := 4) (v := 0) h (by omega) (by omega) (by decide)
    have e5 := mask (K := 5) (v := 0) h (by omega) (by omega) (by decide)
    have e6 := mask (K := 6) (v := 0) h (by omega) (by omega) (by decide)
    have e7 := mask (K := 7) (v := 0) h (by omega) (by omega) (by decide)
    have e8 := mask (K := 8) (v := 8) h (by omega) (by omega) (by decide)
    have HV : Hid (st s = 4) := Lib.hid ((st_low 8 h).trans (by decide))
    clear h
    go_enter Try.func7, Try.ntmps7
    go_wp2
    go_ret
    exact ⟨ret_int HV.out.symm, rfl⟩
  · have e1 := mask (K := 1) (v := 1) h (by omega) (by omega) (by decide)
    have e2 := mask (K := 2) (v := 0) h (by omega) (by omega) (by decide)
    have e3 := mask (K := 3) (v := 1) h (by omega) (by omega) (by decide)
    have e4 := mask (K := 4) (v := 0) h (by omega) (by omega) (by decide)
    have e5 := mask (K := 5) (v := 1) h (by omega) (by omega) (by decide)
    have e6 := mask (K := 6) (v := 0) h (by omega) (by omega) (by decide)
    have e7 := mask (K := 7) (v := 1) h (by omega) (by omega) (by decide)
    have e8 := mask (K := 8) (v := 8) h (by omega) (by omega) (by decide)
    have HV : Hid (st s = 4) := Lib.hid ((st_low 9 h).trans (by decide))
    clear h
    go_enter Try.func7, Try.ntmps7
    go_wp2
    go_ret
    exact ⟨ret_int HV.out.symm, rfl⟩
  · have e1 := mask (K := 1) (v := 0) h (by omega) (by omega) (by decide)
    have e2 := mask (K := 2) (v := 2) h (by omega) (by omega) (by decide)
    have e3 := mask (K := 3) (v := 2) h (by omega) (by omega) (by decide)
    have e4 := mask (K := 4) (v := 0) h (by omega) (by omega) (by decide)
    have e5 := mask (K := 5) (v := 0) h (by omega) (by omega) (by decide)
    have e6 := mask (K := 6) (v := 2) h (by omega) (by omega) (by decide)
    have e7 := mask (K := 7) (v := 2) h (by omega) (by omega) (by decide)
    have e8 := mask (K := 8) (v := 8) h (by omega) (by omega) (by decide)
    have HV : Hid (st s = 4) := Lib.hid ((st_low 10 h).trans (by decide))
    clear h
    go_enter Try.func7, Try.ntmps7
    go_wp2
    go_ret
    exact ⟨ret_int HV.out.symm, rfl⟩
  · have e1 := mask (K := 1) (v := 1) h (by omega) (by omega) (by decide)
    have e2 := mask (K := 2) (v := 2) h (by omega) (by omega) (by decide)
    have e3 := mask (K := 3) (v := 3) h (by omega) (by omega) (by decide)
    have e4 := mask (K := 4) (v := 0) h (by omega) (by omega) (by decide)
    have e5 := mask (K := 5) (v := 1) h (by omega) (by omega) (by decide)
    have e6 := mask (K := 6) (v := 2) h (by omega) (by omega) (by decide)
    have e7 := mask (K := 7) (v := 3) h (by omega) (by omega) (by decide)
    have e8 := mask (K := 8) (v := 8) h (by omega) (by omega) (by decide)
    have HV : Hid (st s = 4) := Lib.hid ((st_low 11 h).trans (by decide))
    clear h
    go_enter Try.func7, Try.ntmps7
    go_wp2
    go_ret
    exact ⟨ret_int HV.out.symm, rfl⟩
  · have e1 := mask (K := 1) (v := 0) h (by omega) (by omega) (by decide)
    have e2 := mask (K := 2) (v := 0) h (by omega) (by omega) (by decide)
    have e3 := mask (K := 3) (v := 0) h (by omega) (by omega) (by decide)
    have e4 := mask (K := 4) (v := 4) h (by omega) (by omega) (by decide)
    have e5 := mask (K := 5) (v := 4) h (by omega) (by omega) (by decide)
    have e6 := mask (K := 6) (v := 4) h (by omega) (by omega) (by decide)
    have e7 := mask (K := 7) (v := 4) h (by omega) (by omega) (by decide)
    have e8 := mask (K := 8) (v := 8) h (by omega) (by omega) (by decide)
    have HV : Hid (st s = 4) := Lib.hid ((st_low 12 h).trans (by decide))
    clear h
    go_enter Try.func7, Try.ntmps7
    go_wp2
    go_ret
    exact ⟨ret_int HV.out.symm, rfl⟩
  · have e1 := mask (K := 1) (v := 1) h (by omega) (by omega) (by decide)
    have e2 := mask (K := 2) (v := 0) h (by omega) (by omega) (by decide)
    have e3 := mask (K := 3) (v := 1) h (by omega) (by omega) (by decide)
    have e4 := mask (K := 4) (v := 4) h (by omega) (by omega) (by decide)
    have e5 := mask (K := 5) (v := 5) h (by omega) (by omega) (by decide)
    have e6 := mask (K := 6) (v := 4) h (by omega) (by omega) (by decide)
    have e7 := mask (K := 7) (v := 5) h (by omega) (by omega) (by decide)
    have e8 := mask (K := 8) (v := 8) h (by omega) (by omega) (by decide)
    have HV : Hid (st s = 4) := Lib.hid ((st_low 13 h).trans (by decide))
    clear h
    go_enter Try.func7, Try.ntmps7
    go_wp2
    go_ret
    exact ⟨ret_int HV.out.symm, rfl⟩
  · have e1 := mask (K := 1) (v := 0) h (by omega) (by omega) (by decide)
    have e2 := mask (K := 2) (v := 2) h (by omega) (by omega) (by decide)
    have e3 := mask (K := 3) (v := 2) h (by omega) (by omega) (by decide)
    have e4 := mask (K := 4) (v := 4) h (by omega) (by omega) (by decide)
    have e5 := mask (K := 5) (v := 4) h (by omega) (by omega) (by decide)
    have e6 := mask (K := 6) (v := 6) h (by omega) (by omega) (by decide)
    have e7 := mask (K := 7) (v := 6) h (by omega) (by omega) (by decide)
    have e8 := mask (K := 8) (v := 8) h (by omega) (by omega) (by decide)
    have HV : Hid (st s = 4) := Lib.hid ((st_low 14 h).trans (by decide))
    clear h
    go_enter Try.func7, Try.ntmps7
    go_wp2
    go_ret
    exact ⟨ret_int HV.out.symm, rfl⟩
  · have e1 := mask (K := 1) (v := 1) h (by omega) (by omega) (by decide)
    have e2 := mask (K := 2) (v := 2) h (by omega) (by omega) (by decide)
    have e3 := mask (K := 3) (v := 3) h (by omega) (by omega) (by decide)
    have e4 := mask (K := 4) (v := 4) h (by omega) (by omega) (by decide)
    have e5 := mask (K := 5) (v := 5) h (by omega) (by omega) (by decide)
    have e6 := mask (K := 6) (v := 6) h (by omega) (by omega) (by decide)
    have e7 := mask (K := 7) (v := 7) h (by omega) (by omega) (by decide)
    have e8 := mask (K := 8) (v := 8) h (by omega) (by omega) (by decide)
    have HV : Hid (st s = 4) := Lib.hid ((st_low 15 h).trans (by decide))
    clear h
    go_enter Try.func7, Try.ntmps7
    go_wp2
    go_ret
    exact ⟨ret_int HV.out.symm, rfl⟩
set_option maxHeartbeats 2000000 in
theorem status_any (x : Int) (w : World) : Calls Try.prog 9 #[.int .i64 x] w fun e w' => e = .returned (.int .i64 (stat x)) ∧ w = w' := by
  by_cases h0 : 0 ≤ x
  · by_cases h4 : x ≤ 4
    · rcases five_of x h0 h4 with rfl | rfl | rfl | rfl | rfl
      · have HV : Hid (stat 0 = 0) := Lib.hid (by decide)
        clear h0 h4
        go_enter Try.func9, Try.ntmps9
        go_wp2
        go_ret
        exact ⟨ret_int HV.out.symm, rfl⟩
      · have HV : Hid (stat 1 = 1) := Lib.hid (by decide)
        clear h0 h4
        go_enter Try.func9, Try.ntmps9
        go_wp2
        go_ret
        exact ⟨ret_int HV.out.symm, rfl⟩
      · have HV : Hid (stat 2 = 3) := Lib.hid (by decide)
        clear h0 h4
        go_enter Try.func9, Try.ntmps9
        go_wp2
        go_ret
        exact ⟨ret_int HV.out.symm, rfl⟩
      · have HV : Hid (stat 3 = 7) := Lib.hid (by decide)
        clear h0 h4
        go_enter Try.func9, Try.ntmps9
        go_wp2
        go_ret
        exact ⟨ret_int HV.out.symm, rfl⟩
      · have HV : Hid (stat 4 = 8) := Lib.hid (by decide)
        clear h0 h4
        go_enter Try.func9, Try.ntmps9
        go_wp2
        go_ret
        exact ⟨ret_int HV.out.symm, rfl⟩
    · have HV : Hid (stat x = 0) := Lib.hid (by unfold stat; rw [if_neg (by omega), if_neg (by omega), if_neg (by omega), if_neg (by omega)])
      have hgt : 4 < x := by omega
      have b0 : (x == 0) = false := by rw [beq_eq_false_iff_ne]; omega
      have b1 : (x == 1) = false := by rw [beq_eq_false_iff_ne]; omega
      have b2 : (x == 2) = false := by rw [beq_eq_false_iff_ne]; omega
      have b3 : (x == 3) = false := by rw [beq_eq_false_iff_ne]; omega
      have b4 : (x == 4) = false := by rw [beq_eq_false_iff_ne]; omega
      go_enter Try.func9, Try.ntmps9
      go_wp2
      go_ret
      exact ⟨ret_int HV.out.symm, rfl⟩
  · have HV : Hid (stat x = 0) := Lib.hid (by unfold stat; rw [if_neg (by omega), if_neg (by omega), if_neg (by omega), if_neg (by omega)])
    have hlt : x < 0 := by omega
    have b0 : (x == 0) = false := by rw [beq_eq_false_iff_ne]; omega
    have b1 : (x == 1) = false := by rw [beq_eq_false_iff_ne]; omega
    have b2 : (x == 2) = false := by rw [beq_eq_false_iff_ne]; omega
    have b3 : (x == 3) = false := by rw [beq_eq_false_iff_ne]; omega
    have b4 : (x == 4) = false := by rw [beq_eq_false_iff_ne]; omega
    go_enter Try.func9, Try.ntmps9
    go_wp2
    go_ret
    exact ⟨ret_int HV.out.symm, rfl⟩
set_option maxHeartbeats 2000000 in
theorem control_any (x : Int) (want clear : Bool) (w : World) : Calls Try.prog 11 #[.int .i64 x, .bool want, .bool clear] w fun e w' => e = .returned (.int .i64 (ctl x want clear)) ∧ w = w' := by
  by_cases h0 : 0 ≤ x
  · by_cases h4 : x ≤ 4
    · rcases five_of x h0 h4 with rfl | rfl | rfl | rfl | rfl
      · clear h0 h4
        cases want <;> cases clear
        · have HV : Hid (ctl 0 false false = 0) := Lib.hid (by decide)
          go_enter Try.func11, Try.ntmps11
          go_wp2
          go_ret
          exact ⟨ret_int HV.out.symm, rfl⟩
        · have HV : Hid (ctl 0 false true = 0) := Lib.hid (by decide)
          go_enter Try.func11, Try.ntmps11
          go_wp2
          go_ret
          exact ⟨ret_int HV.out.symm, rfl⟩
        · have HV : Hid (ctl 0 true false = 1) := Lib.hid (by decide)
          go_enter Try.func11, Try.ntmps11
          go_wp2
          go_ret
          exact ⟨ret_int HV.out.symm, rfl⟩
        · have HV : Hid (ctl 0 true true = 1) := Lib.hid (by decide)
          go_enter Try.func11, Try.ntmps11
          go_wp2
          go_ret
          exact ⟨ret_int HV.out.symm, rfl⟩
      · clear h0 h4
        cases want <;> cases clear
        · have HV : Hid (ctl 1 false false = 0) := Lib.hid (by decide)
          go_enter Try.func11, Try.ntmps11
          go_wp2
          go_ret
          exact ⟨ret_int HV.out.symm, rfl⟩
        · have HV : Hid (ctl 1 false true = 0) := Lib.hid (by decide)
          go_enter Try.func11, Try.ntmps11
          go_wp2
          go_ret
          exact ⟨ret_int HV.out.symm, rfl⟩
        · have HV : Hid (ctl 1 true false = 1) := Lib.hid (by decide)
          go_enter Try.func11, Try.ntmps11
          go_wp2
          go_ret
          exact ⟨ret_int HV.out.symm, rfl⟩
        · have HV : Hid (ctl 1 true true = 1) := Lib.hid (by decide)
          go_enter Try.func11, Try.ntmps11
          go_wp2
          go_ret
          exact ⟨ret_int HV.out.symm, rfl⟩
      · clear h0 h4
        cases want <;> cases clear
        · have HV : Hid (ctl 2 false false = 0) := Lib.hid (by decide)
          go_enter Try.func11, Try.ntmps11
          go_wp2
          go_ret
          exact ⟨ret_int HV.out.symm, rfl⟩
        · have HV : Hid (ctl 2 false true = 0) := Lib.hid (by decide)
          go_enter Try.func11, Try.ntmps11
          go_wp2
          go_ret
          exact ⟨ret_int HV.out.symm, rfl⟩
        · have HV : Hid (ctl 2 true false = 3) := Lib.hid (by decide)
          go_enter Try.func11, Try.ntmps11
          go_wp2
          go_ret
          exact ⟨ret_int HV.out.symm, rfl⟩
        · have HV : Hid (ctl 2 true true = 3) := Lib.hid (by decide)
          go_enter Try.func11, Try.ntmps11
          go_wp2
          go_ret
          exact ⟨ret_int HV.out.symm, rfl⟩
      · clear h0 h4
        cases want <;> cases clear
        · have HV : Hid (ctl 3 false false = 0) := Lib.hid (by decide)
          go_enter Try.func11, Try.ntmps11
          go_wp2
          go_ret
          exact ⟨ret_int HV.out.symm, rfl⟩
        · have HV : Hid (ctl 3 false true = 0) := Lib.hid (by decide)
          go_enter Try.func11, Try.ntmps11
          go_wp2
          go_ret
          exact ⟨ret_int HV.out.symm, rfl⟩
        · have HV : Hid (ctl 3 true false = 3) := Lib.hid (by decide)
          go_enter Try.func11, Try.ntmps11
          go_wp2
          go_ret
          exact ⟨ret_int HV.out.symm, rfl⟩
        · have HV : Hid (ctl 3 true true = 3) := Lib.hid (by decide)
          go_enter Try.func11, Try.ntmps11
          go_wp2
          go_ret
          exact ⟨ret_int HV.out.symm, rfl⟩
      · clear h0 h4
        cases want <;> cases clear
        · have HV : Hid (ctl 4 false false = 0) := Lib.hid (by decide)
          go_enter Try.func11, Try.ntmps11
          go_wp2
          go_ret
          exact ⟨ret_int HV.out.symm, rfl⟩
        · have HV : Hid (ctl 4 false true = 4) := Lib.hid (by decide)
          go_enter Try.func11, Try.ntmps11
          go_wp2
          go_ret
          exact ⟨ret_int HV.out.symm, rfl⟩
        · have HV : Hid (ctl 4 true false = 0) := Lib.hid (by decide)
          go_enter Try.func11, Try.ntmps11
          go_wp2
          go_ret
          exact ⟨ret_int HV.out.symm, rfl⟩
        · have HV : Hid (ctl 4 true true = 4) := Lib.hid (by decide)
          go_enter Try.func11, Try.ntmps11
          go_wp2
          go_ret
          exact ⟨ret_int HV.out.symm, rfl⟩
    · have hgt : 4 < x := by omega
      have HV : Hid (ctl x want clear = 0) := Lib.hid (by unfold ctl; rw [if_neg (by omega)]; split; rfl; rw [if_neg (by omega), if_neg (by omega)])
      have b0 : (x == 0) = false := by rw [beq_eq_false_iff_ne]; omega
      have b1 : (x == 1) = false := by rw [beq_eq_false_iff_ne]; omega
      have b2 : (x == 2) = false := by rw [beq_eq_false_iff_ne]; omega
      have b3 : (x == 3) = false := by rw [beq_eq_false_iff_ne]; omega
      have b4 : (x == 4) = false := by rw [beq_eq_false_iff_ne]; omega
      cases want <;> cases clear
      all_goals
        go_enter Try.func11, Try.ntmps11
        go_wp2
        go_ret
        exact ⟨ret_int HV.out.symm, rfl⟩
  · have hlt : x < 0 := by omega
    have HV : Hid (ctl x want clear = 0) := Lib.hid (by unfold ctl; rw [if_neg (by omega)]; split; rfl; rw [if_neg (by omega), if_neg (by omega)])
    have b0 : (x == 0) = false := by rw [beq_eq_false_iff_ne]; omega
    have b1 : (x == 1) = false := by rw [beq_eq_false_iff_ne]; omega
    have b2 : (x == 2) = false := by rw [beq_eq_false_iff_ne]; omega
    have b3 : (x == 3) = false := by rw [beq_eq_false_iff_ne]; omega
    have b4 : (x == 4) = false := by rw [beq_eq_false_iff_ne]; omega
    cases want <;> cases clear
    all_goals
      go_enter Try.func11, Try.ntmps11
      go_wp2
      go_ret
      exact ⟨ret_int HV.out.symm, rfl⟩
set_option maxHeartbeats 4000000 in
theorem next_any (x c : Int) (w : World) : Calls Try.prog 13 #[.int .i64 x, .int .i64 c] w fun e w' => e = .returned (.int .i64 (nxt x c)) ∧ w = w' := by
  by_cases h0 : 0 ≤ x
  · by_cases h4 : x ≤ 4
    · rcases five_of x h0 h4 with rfl | rfl | rfl | rfl | rfl
      · clear h0 h4
        rcases low8 c with (h | h) | (h | h) | (h | h) | (h | h) | (h | h) | (h | h) | (h | h) | (h | h)
        · have e1 := mask (K := 1) (v := 0) h (by omega) (by omega) (by decide)
          have e2 := mask (K := 2) (v := 0) h (by omega) (by omega) (by decide)
          have e3 := mask (K := 3) (v := 0) h (by omega) (by omega) (by decide)
          have e4 := mask (K := 4) (v := 0) h (by omega) (by omega) (by decide)
          have HV : Hid (nxt 0 c = 1) := Lib.hid ((nxt_low 0 0 h).trans (by decide))
          clear h
          go_enter Try.func13, Try.ntmps13
          go_wp2
          go_ret
          exact ⟨ret_int HV.out.symm, rfl⟩
        · have e1 := mask (K := 1) (v := 0) h (by omega) (by omega) (by decide)
          have e2 := mask (K := 2) (v := 0) h (by omega) (by omega) (by decide)
          have e3 := mask (K := 3) (v := 0) h (by omega) (by omega) (by decide)
          have e4 := mask (K := 4) (v := 0) h (by omega) (by omega) (by decide)
          have HV : Hid (nxt 0 c = 1) := Lib.hid ((nxt_low 0 8 h).trans (by decide))
          clear h
          go_enter Try.func13, Try.ntmps13
          go_wp2
          go_ret
          exact ⟨ret_int HV.out.symm, rfl⟩
        · have e1 := mask (K := 1) (v := 1) h (by omega) (by omega) (by decide)
          have e2 := mask (K := 2) (v := 0) h (by omega) (by omega) (by decide)
          have e3 := mask (K := 3) (v := 1) h (by omega) (by omega) (by decide)
          have e4 := mask (K := 4) (v := 0) h (by omega) (by omega) (by decide)
          have HV : Hid (nxt 0 c = 1) := Lib.hid ((nxt_low 0 1 h).trans (by decide))
          clear h
          go_enter Try.func13, Try.ntmps13
          go_wp2
          go_ret
          exact ⟨ret_int HV.out.symm, rfl⟩
        · have e1 := mask (K := 1) (v := 1) h (by omega) (by omega) (by decide)
          have e2 := mask (K := 2) (v := 0) h (by omega) (by omega) (by decide)
          have e3 := mask (K := 3) (v := 1) h (by omega) (by omega) (by decide)
          have e4 := mask (K := 4) (v := 0) h (by omega) (by omega) (by decide)
          have HV : Hid (nxt 0 c = 1) := Lib.hid ((nxt_low 0 9 h).trans (by decide))
          clear h
          go_enter Try.func13, Try.ntmps13
          go_wp2
          go_ret
          exact ⟨ret_int HV.out.symm, rfl⟩
        · have e1 := mask (K := 1) (v := 0) h (by omega) (by omega) (by decide)
          have e2 := mask (K := 2) (v := 2) h (by omega) (by omega) (by decide)
          have e3 := mask (K := 3) (v := 2) h (by omega) (by omega) (by decide)
          have e4 := mask (K := 4) (v := 0) h (by omega) (by omega) (by decide)
          have HV : Hid (nxt 0 c = 1) := Lib.hid ((nxt_low 0 2 h).trans (by decide))
          clear h
          go_enter Try.func13, Try.ntmps13
          go_wp2
          go_ret
          exact ⟨ret_int HV.out.symm, rfl⟩
        · have e1 := mask (K := 1) (v := 0) h (by omega) (by omega) (by decide)
          have e2 := mask (K := 2) (v := 2) h (by omega) (by omega) (by decide)
          have e3 := mask (K := 3) (v := 2) h (by omega) (by omega) (by decide)
          have e4 := mask (K := 4) (v := 0) h (by omega) (by omega) (by decide)
          have HV : Hid (nxt 0 c = 1) := Lib.hid ((nxt_low 0 10 h).trans (by decide))
          clear h
          go_enter Try.func13, Try.ntmps13
          go_wp2
          go_ret
          exact ⟨ret_int HV.out.symm, rfl⟩
        · have e1 := mask (K := 1) (v := 1) h (by omega) (by omega) (by decide)
          have e2 := mask (K := 2) (v := 2) h (by omega) (by omega) (by decide)
          have e3 := mask (K := 3) (v := 3) h (by omega) (by omega) (by decide)
          have e4 := mask (K := 4) (v := 0) h (by omega) (by omega) (by decide)
          have HV : Hid (nxt 0 c = 1) := Lib.hid ((nxt_low 0 3 h).trans (by decide))
          clear h
          go_enter Try.func13, Try.ntmps13
          go_wp2
          go_ret
          exact ⟨ret_int HV.out.symm, rfl⟩
        · have e1 := mask (K := 1) (v := 1) h (by omega) (by omega) (by decide)
          have e2 := mask (K := 2) (v := 2) h (by omega) (by omega) (by decide)
          have e3 := mask (K := 3) (v := 3) h (by omega) (by omega) (by decide)
          have e4 := mask (K := 4) (v := 0) h (by omega) (by omega) (by decide)
          have HV : Hid (nxt 0 c = 1) := Lib.hid ((nxt_low 0 11 h).trans (by decide))
          clear h
          go_enter Try.func13, Try.ntmps13
          go_wp2
          go_ret
          exact ⟨ret_int HV.out.symm, rfl⟩
        · have e1 := mask (K := 1) (v := 0) h (by omega) (by omega) (by decide)
          have e2 := mask (K := 2) (v := 0) h (by omega) (by omega) (by decide)
          have e3 := mask (K := 3) (v := 0) h (by omega) (by omega) (by decide)
          have e4 := mask (K := 4) (v := 4) h (by omega) (by omega) (by decide)
          have HV : Hid (nxt 0 c = 1) := Lib.hid ((nxt_low 0 4 h).trans (by decide))
          clear h
          go_enter Try.func13, Try.ntmps13
          go_wp2
          go_ret
          exact ⟨ret_int HV.out.symm, rfl⟩
        · have e1 := mask (K := 1) (v := 0) h (by omega) (by omega) (by decide)
          have e2 := mask (K := 2) (v := 0) h (by omega) (by omega) (by decide)
          have e3 := mask (K := 3) (v := 0) h (by omega) (by omega) (by decide)
          have e4 := mask (K := 4) (v := 4) h (by omega) (by omega) (by decide)
          have HV : Hid (nxt 0 c = 1) := Lib.hid ((nxt_low 0 12 h).trans (by decide))
          clear h
          go_enter Try.func13, Try.ntmps13
          go_wp2
          go_ret
          exact ⟨ret_int HV.out.symm, rfl⟩
        · have e1 := mask (K := 1) (v := 1) h (by omega) (by omega) (by decide)
          have e2 := mask (K := 2) (v := 0) h (by omega) (by omega) (by decide)
          have e3 := mask (K := 3) (v := 1) h (by omega) (by omega) (by decide)
          have e4 := mask (K := 4) (v := 4) h (by omega) (by omega) (by decide)
          have HV : Hid (nxt 0 c = 1) := Lib.hid ((nxt_low 0 5 h).trans (by decide))
          clear h
          go_enter Try.func13, Try.ntmps13
          go_wp2
          go_ret
          exact ⟨ret_int HV.out.symm, rfl⟩
        · have e1 := mask (K := 1) (v := 1) h (by omega) (by omega) (by decide)
          have e2 := mask (K := 2) (v := 0) h (by omega) (by omega) (by decide)
          have e3 := mask (K := 3) (v := 1) h (by omega) (by omega) (by decide)
          have e4 := mask (K := 4) (v := 4) h (by omega) (by omega) (by decide)
          have HV : Hid (nxt 0 c = 1) := Lib.hid ((nxt_low 0 13 h).trans (by decide))
          clear h
          go_enter Try.func13, Try.ntmps13
          go_wp2
          go_ret
          exact ⟨ret_int HV.out.symm, rfl⟩
        · have e1 := mask (K := 1) (v := 0) h (by omega) (by omega) (by decide)
          have e2 := mask (K := 2) (v := 2) h (by omega) (by omega) (by decide)
          have e3 := mask (K := 3) (v := 2) h (by omega) (by omega) (by decide)
          have e4 := mask (K := 4) (v := 4) h (by omega) (by omega) (by decide)
          have HV : Hid (nxt 0 c = 1) := Lib.hid ((nxt_low 0 6 h).trans (by decide))
          clear h
          go_enter Try.func13, Try.ntmps13
          go_wp2
          go_ret
          exact ⟨ret_int HV.out.symm, rfl⟩
        · have e1 := mask (K := 1) (v := 0) h (by omega) (by omega) (by decide)
          have e2 := mask (K := 2) (v := 2) h (by omega) (by omega) (by decide)
          have e3 := mask (K := 3) (v := 2) h (by omega) (by omega) (by decide)
          have e4 := mask (K := 4) (v := 4) h (by omega) (by omega) (by decide)
          have HV : Hid (nxt 0 c = 1) := Lib.hid ((nxt_low 0 14 h).trans (by decide))
          clear h
          go_enter Try.func13, Try.ntmps13
          go_wp2
          go_ret
          exact ⟨ret_int HV.out.symm, rfl⟩
        · have e1 := mask (K := 1) (v := 1) h (by omega) (by omega) (by decide)
          have e2 := mask (K := 2) (v := 2) h (by omega) (by omega) (by decide)
          have e3 := mask (K := 3) (v := 3) h (by omega) (by omega) (by decide)
          have e4 := mask (K := 4) (v := 4) h (by omega) (by omega) (by decide)
          have HV : Hid (nxt 0 c = 1) := Lib.hid ((nxt_low 0 7 h).trans (by decide))
          clear h
          go_enter Try.func13, Try.ntmps13
          go_wp2
          go_ret
          exact ⟨ret_int HV.out.symm, rfl⟩
        · have e1 := mask (K := 1) (v := 1) h (by omega) (by omega) (by decide)
          have e2 := mask (K := 2) (v := 2) h (by omega) (by omega) (by decide)
          have e3 := mask (K := 3) (v := 3) h (by omega) (by omega) (by decide)
          have e4 := mask (K := 4) (v := 4) h (by omega) (by omega) (by decide)
          have HV : Hid (nxt 0 c = 1) := Lib.hid ((nxt_low 0 15 h).trans (by decide))
          clear h
          go_enter Try.func13, Try.ntmps13
          go_wp2
          go_ret
          exact ⟨ret_int HV.out.symm, rfl⟩
      · clear h0 h4
        rcases low8 c with (h | h) | (h | h) | (h | h) | (h | h) | (h | h) | (h | h) | (h | h) | (h | h)
        · have e1 := mask (K := 1) (v := 0) h (by omega) (by omega) (by decide)
          have e2 := mask (K := 2) (v := 0) h (by omega) (by omega) (by decide)
          have e3 := mask (K := 3) (v := 0) h (by omega) (by omega) (by decide)
          have e4 := mask (K := 4) (v := 0) h (by omega) (by omega) (by decide)
          have HV : Hid (nxt 1 c = 1) := Lib.hid ((nxt_low 1 0 h).trans (by decide))
          clear h
          go_enter Try.func13, Try.ntmps13
          go_wp2
          go_ret
          exact ⟨ret_int HV.out.symm, rfl⟩
        · have e1 := mask (K := 1) (v := 0) h (by omega) (by omega) (by decide)
          have e2 := mask (K := 2) (v := 0) h (by omega) (by omega) (by decide)
          have e3 := mask (K := 3) (v := 0) h (by omega) (by omega) (by decide)
          have e4 := mask (K := 4) (v := 0) h (by omega) (by omega) (by decide)
          have HV : Hid (nxt 1 c = 1) := Lib.hid ((nxt_low 1 8 h).trans (by decide))
          clear h
          go_enter Try.func13, Try.ntmps13
          go_wp2
          go_ret
          exact ⟨ret_int HV.out.symm, rfl⟩
        · have e1 := mask (K := 1) (v := 1) h (by omega) (by omega) (by decide)
          have e2 := mask (K := 2) (v := 0) h (by omega) (by omega) (by decide)
          have e3 := mask (K := 3) (v := 1) h (by omega) (by omega) (by decide)
          have e4 := mask (K := 4) (v := 0) h (by omega) (by omega) (by decide)
          have HV : Hid (nxt 1 c = 2) := Lib.hid ((nxt_low 1 1 h).trans (by decide))
          clear h
          go_enter Try.func13, Try.ntmps13
          go_wp2
          go_ret
          exact ⟨ret_int HV.out.symm, rfl⟩
        · have e1 := mask (K := 1) (v := 1) h (by omega) (by omega) (by decide)
          have e2 := mask (K := 2) (v := 0) h (by omega) (by omega) (by decide)
          have e3 := mask (K := 3) (v := 1) h (by omega) (by omega) (by decide)
          have e4 := mask (K := 4) (v := 0) h (by omega) (by omega) (by decide)
          have HV : Hid (nxt 1 c = 2) := Lib.hid ((nxt_low 1 9 h).trans (by decide))
          clear h
          go_enter Try.func13, Try.ntmps13
          go_wp2
          go_ret
          exact ⟨ret_int HV.out.symm, rfl⟩
        · have e1 := mask (K := 1) (v := 0) h (by omega) (by omega) (by decide)
          have e2 := mask (K := 2) (v := 2) h (by omega) (by omega) (by decide)
          have e3 := mask (K := 3) (v := 2) h (by omega) (by omega) (by decide)
          have e4 := mask (K := 4) (v := 0) h (by omega) (by omega) (by decide)
          have HV : Hid (nxt 1 c = 1) := Lib.hid ((nxt_low 1 2 h).trans (by decide))
          clear h
          go_enter Try.func13, Try.ntmps13
          go_wp2
          go_ret
          exact ⟨ret_int HV.out.symm, rfl⟩
        · have e1 := mask (K := 1) (v := 0) h (by omega) (by omega) (by decide)
          have e2 := mask (K := 2) (v := 2) h (by omega) (by omega) (by decide)
          have e3 := mask (K := 3) (v := 2) h (by omega) (by omega) (by decide)
          have e4 := mask (K := 4) (v := 0) h (by omega) (by omega) (by decide)
          have HV : Hid (nxt 1 c = 1) := Lib.hid ((nxt_low 1 10 h).trans (by decide))
          clear h
          go_enter Try.func13, Try.ntmps13
          go_wp2
          go_ret
          exact ⟨ret_int HV.out.symm, rfl⟩
        · have e1 := mask (K := 1) (v := 1) h (by omega) (by omega) (by decide)
          have e2 := mask (K := 2) (v := 2) h (by omega) (by omega) (by decide)
          have e3 := mask (K := 3) (v := 3) h (by omega) (by omega) (by decide)
          have e4 := mask (K := 4) (v := 0) h (by omega) (by omega) (by decide)
          have HV : Hid (nxt 1 c = 2) := Lib.hid ((nxt_low 1 3 h).trans (by decide))
          clear h
          go_enter Try.func13, Try.ntmps13
          go_wp2
          go_ret
          exact ⟨ret_int HV.out.symm, rfl⟩
        · have e1 := mask (K := 1) (v := 1) h (by omega) (by omega) (by decide)
          have e2 := mask (K := 2) (v := 2) h (by omega) (by omega) (by decide)
          have e3 := mask (K := 3) (v := 3) h (by omega) (by omega) (by decide)
          have e4 := mask (K := 4) (v := 0) h (by omega) (by omega) (by decide)
          have HV : Hid (nxt 1 c = 2) := Lib.hid ((nxt_low 1 11 h).trans (by decide))
          clear h
          go_enter Try.func13, Try.ntmps13
          go_wp2
          go_ret
          exact ⟨ret_int HV.out.symm, rfl⟩
        · have e1 := mask (K := 1) (v := 0) h (by omega) (by omega) (by decide)
          have e2 := mask (K := 2) (v := 0) h (by omega) (by omega) (by decide)
          have e3 := mask (K := 3) (v := 0) h (by omega) (by omega) (by decide)
          have e4 := mask (K := 4) (v := 4) h (by omega) (by omega) (by decide)
          have HV : Hid (nxt 1 c = 1) := Lib.hid ((nxt_low 1 4 h).trans (by decide))
          clear h
          go_enter Try.func13, Try.ntmps13
          go_wp2
          go_ret
          exact ⟨ret_int HV.out.symm, rfl⟩
        · have e1 := mask (K := 1) (v := 0) h (by omega) (by omega) (by decide)
          have e2 := mask (K := 2) (v := 0) h (by omega) (by omega) (by decide)
          have e3 := mask (K := 3) (v := 0) h (by omega) (by omega) (by decide)
          have e4 := mask (K := 4) (v := 4) h (by omega) (by omega) (by decide)
          have HV : Hid (nxt 1 c = 1) := Lib.hid ((nxt_low 1 12 h).trans (by decide))
          clear h
          go_enter Try.func13, Try.ntmps13
          go_wp2
          go_ret
          exact ⟨ret_int HV.out.symm, rfl⟩
        · have e1 := mask (K := 1) (v := 1) h (by omega) (by omega) (by decide)
          have e2 := mask (K := 2) (v := 0) h (by omega) (by omega) (by decide)
          have e3 := mask (K := 3) (v := 1) h (by omega) (by omega) (by decide)
          have e4 := mask (K := 4) (v := 4) h (by omega) (by omega) (by decide)
          have HV : Hid (nxt 1 c = 2) := Lib.hid ((nxt_low 1 5 h).trans (by decide))
          clear h
          go_enter Try.func13, Try.ntmps13
          go_wp2
          go_ret
          exact ⟨ret_int HV.out.symm, rfl⟩
        · have e1 := mask (K := 1) (v := 1) h (by omega) (by omega) (by decide)
          have e2 := mask (K := 2) (v := 0) h (by omega) (by omega) (by decide)
          have e3 := mask (K := 3) (v := 1) h (by omega) (by omega) (by decide)
          have e4 := mask (K := 4) (v := 4) h (by omega) (by omega) (by decide)
          have HV : Hid (nxt 1 c = 2) := Lib.hid ((nxt_low 1 13 h).trans (by decide))
          clear h
          go_enter Try.func13, Try.ntmps13
          go_wp2
          go_ret
          exact ⟨ret_int HV.out.symm, rfl⟩
        · have e1 := mask (K := 1) (v := 0) h (by omega) (by omega) (by decide)
          have e2 := mask (K := 2) (v := 2) h (by omega) (by omega) (by decide)
          have e3 := mask (K := 3) (v := 2) h (by omega) (by omega) (by decide)
          have e4 := mask (K := 4) (v := 4) h (by omega) (by omega) (by decide)
          have HV : Hid (nxt 1 c = 1) := Lib.hid ((nxt_low 1 6 h).trans (by decide))
          clear h
          go_enter Try.func13, Try.ntmps13
          go_wp2
          go_ret
          exact ⟨ret_int HV.out.symm, rfl⟩
        · have e1 := mask (K := 1) (v := 0) h (by omega) (by omega) (by decide)
          have e2 := mask (K := 2) (v := 2) h (by omega) (by omega) (by decide)
          have e3 := mask (K := 3) (v := 2) h (by omega) (by omega) (by decide)
          have e4 := mask (K := 4) (v := 4) h (by omega) (by omega) (by decide)
          have HV : Hid (nxt 1 c = 1) := Lib.hid ((nxt_low 1 14 h).trans (by decide))
          clear h
          go_enter Try.func13, Try.ntmps13
          go_wp2
          go_ret
          exact ⟨ret_int HV.out.symm, rfl⟩
        · have e1 := mask (K := 1) (v := 1) h (by omega) (by omega) (by decide)
          have e2 := mask (K := 2) (v := 2) h (by omega) (by omega) (by decide)
          have e3 := mask (K := 3) (v := 3) h (by omega) (by omega) (by decide)
          have e4 := mask (K := 4) (v := 4) h (by omega) (by omega) (by decide)
          have HV : Hid (nxt 1 c = 2) := Lib.hid ((nxt_low 1 7 h).trans (by decide))
          clear h
          go_enter Try.func13, Try.ntmps13
          go_wp2
          go_ret
          exact ⟨ret_int HV.out.symm, rfl⟩
        · have e1 := mask (K := 1) (v := 1) h (by omega) (by omega) (by decide)
          have e2 := mask (K := 2) (v := 2) h (by omega) (by omega) (by decide)
          have e3 := mask (K := 3) (v := 3) h (by omega) (by omega) (by decide)
          have e4 := mask (K := 4) (v := 4) h (by omega) (by omega) (by decide)
          have HV : Hid (nxt 1 c = 2) := Lib.hid ((nxt_low 1 15 h).trans (by decide))
          clear h
          go_enter Try.func13, Try.ntmps13
          go_wp2
          go_ret
          exact ⟨ret_int HV.out.symm, rfl⟩
      · clear h0 h4
        rcases low8 c with (h | h) | (h | h) | (h | h) | (h | h) | (h | h) | (h | h) | (h | h) | (h | h)
        · have e1 := mask (K := 1) (v := 0) h (by omega) (by omega) (by decide)
          have e2 := mask (K := 2) (v := 0) h (by omega) (by omega) (by decide)
          have e3 := mask (K := 3) (v := 0) h (by omega) (by omega) (by decide)
          have e4 := mask (K := 4) (v := 0) h (by omega) (by omega) (by decide)
          have HV : Hid (nxt 2 c = 1) := Lib.hid ((nxt_low 2 0 h).trans (by decide))
          clear h
          go_enter Try.func13, Try.ntmps13
          go_wp2
          go_ret
          exact ⟨ret_int HV.out.symm, rfl⟩
        · have e1 := mask (K := 1) (v := 0) h (by omega) (by omega) (by decide)
          have e2 := mask (K := 2) (v := 0) h (by omega) (by omega) (by decide)
          have e3 := mask (K := 3) (v := 0) h (by omega) (by omega) (by decide)
          have e4 := mask (K := 4) (v := 0) h (by omega) (by omega) (by decide)
          have HV : Hid (nxt 2 c = 1) := Lib.hid ((nxt_low 2 8 h).trans (by decide))
          clear h
          go_enter Try.func13, Try.ntmps13
          go_wp2
          go_ret
          exact ⟨ret_int HV.out.symm, rfl⟩
        · have e1 := mask (K := 1) (v := 1) h (by omega) (by omega) (by decide)
          have e2 := mask (K := 2) (v := 0) h (by omega) (by omega) (by decide)
          have e3 := mask (K := 3) (v := 1) h (by omega) (by omega) (by decide)
          have e4 := mask (K := 4) (v := 0) h (by omega) (by omega) (by decide)
          have HV : Hid (nxt 2 c = 2) := Lib.hid ((nxt_low 2 1 h).trans (by decide))
          clear h
          go_enter Try.func13, Try.ntmps13
          go_wp2
          go_ret
          exact ⟨ret_int HV.out.symm, rfl⟩
        · have e1 := mask (K := 1) (v := 1) h (by omega) (by omega) (by decide)
          have e2 := mask (K := 2) (v := 0) h (by omega) (by omega) (by decide)
          have e3 := mask (K := 3) (v := 1) h (by omega) (by omega) (by decide)
          have e4 := mask (K := 4) (v := 0) h (by omega) (by omega) (by decide)
          have HV : Hid (nxt 2 c = 2) := Lib.hid ((nxt_low 2 9 h).trans (by decide))
          clear h
          go_enter Try.func13, Try.ntmps13
          go_wp2
          go_ret
          exact ⟨ret_int HV.out.symm, rfl⟩
        · have e1 := mask (K := 1) (v := 0) h (by omega) (by omega) (by decide)
          have e2 := mask (K := 2) (v := 2) h (by omega) (by omega) (by decide)
          have e3 := mask (K := 3) (v := 2) h (by omega) (by omega) (by decide)
          have e4 := mask (K := 4) (v := 0) h (by omega) (by omega) (by decide)
          have HV : Hid (nxt 2 c = 1) := Lib.hid ((nxt_low 2 2 h).trans (by decide))
          clear h
          go_enter Try.func13, Try.ntmps13
          go_wp2
          go_ret
          exact ⟨ret_int HV.out.symm, rfl⟩
        · have e1 := mask (K := 1) (v := 0) h (by omega) (by omega) (by decide)
          have e2 := mask (K := 2) (v := 2) h (by omega) (by omega) (by decide)
          have e3 := mask (K := 3) (v := 2) h (by omega) (by omega) (by decide)
          have e4 := mask (K := 4) (v := 0) h (by omega) (by omega) (by decide)
          have HV : Hid (nxt 2 c = 1) := Lib.hid ((nxt_low 2 10 h).trans (by decide))
          clear h
          go_enter Try.func13, Try.ntmps13
          go_wp2
          go_ret
          exact ⟨ret_int HV.out.symm, rfl⟩
        · have e1 := mask (K := 1) (v := 1) h (by omega) (by omega) (by decide)
          have e2 := mask (K := 2) (v := 2) h (by omega) (by omega) (by decide)
          have e3 := mask (K := 3) (v := 3) h (by omega) (by omega) (by decide)
          have e4 := mask (K := 4) (v := 0) h (by omega) (by omega) (by decide)
          have HV : Hid (nxt 2 c = 3) := Lib.hid ((nxt_low 2 3 h).trans (by decide))
          clear h
          go_enter Try.func13, Try.ntmps13
          go_wp2
          go_ret
          exact ⟨ret_int HV.out.symm, rfl⟩
        · have e1 := mask (K := 1) (v := 1) h (by omega) (by omega) (by decide)
          have e2 := mask (K := 2) (v := 2) h (by omega) (by omega) (by decide)
          have e3 := mask (K := 3) (v := 3) h (by omega) (by omega) (by decide)
          have e4 := mask (K := 4) (v := 0) h (by omega) (by omega) (by decide)
          have HV : Hid (nxt 2 c = 3) := Lib.hid ((nxt_low 2 11 h).trans (by decide))
          clear h
          go_enter Try.func13, Try.ntmps13
          go_wp2
          go_ret
          exact ⟨ret_int HV.out.symm, rfl⟩
        · have e1 := mask (K := 1) (v := 0) h (by omega) (by omega) (by decide)
          have e2 := mask (K := 2) (v := 0) h (by omega) (by omega) (by decide)
          have e3 := mask (K := 3) (v := 0) h (by omega) (by omega) (by decide)
          have e4 := mask (K := 4) (v := 4) h (by omega) (by omega) (by decide)
          have HV : Hid (nxt 2 c = 1) := Lib.hid ((nxt_low 2 4 h).trans (by decide))
          clear h
          go_enter Try.func13, Try.ntmps13
          go_wp2
          go_ret
          exact ⟨ret_int HV.out.symm, rfl⟩
        · have e1 := mask (K := 1) (v := 0) h (by omega) (by omega) (by decide)
          have e2 := mask (K := 2) (v := 0) h (by omega) (by omega) (by decide)
          have e3 := mask (K := 3) (v := 0) h (by omega) (by omega) (by decide)
          have e4 := mask (K := 4) (v := 4) h (by omega) (by omega) (by decide)
          have HV : Hid (nxt 2 c = 1) := Lib.hid ((nxt_low 2 12 h).trans (by decide))
          clear h
          go_enter Try.func13, Try.ntmps13
          go_wp2
          go_ret
          exact ⟨ret_int HV.out.symm, rfl⟩
        · have e1 := mask (K := 1) (v := 1) h (by omega) (by omega) (by decide)
          have e2 := mask (K := 2) (v := 0) h (by omega) (by omega) (by decide)
          have e3 := mask (K := 3) (v := 1) h (by omega) (by omega) (by decide)
          have e4 := mask (K := 4) (v := 4) h (by omega) (by omega) (by decide)
          have HV : Hid (nxt 2 c = 2) := Lib.hid ((nxt_low 2 5 h).trans (by decide))
          clear h
          go_enter Try.func13, Try.ntmps13
          go_wp2
          go_ret
          exact ⟨ret_int HV.out.symm, rfl⟩
        · have e1 := mask (K := 1) (v := 1) h (by omega) (by omega) (by decide)
          have e2 := mask (K := 2) (v := 0) h (by omega) (by omega) (by decide)
          have e3 := mask (K := 3) (v := 1) h (by omega) (by omega) (by decide)
          have e4 := mask (K := 4) (v := 4) h (by omega) (by omega) (by decide)
          have HV : Hid (nxt 2 c = 2) := Lib.hid ((nxt_low 2 13 h).trans (by decide))
          clear h
          go_enter Try.func13, Try.ntmps13
          go_wp2
          go_ret
          exact ⟨ret_int HV.out.symm, rfl⟩
        · have e1 := mask (K := 1) (v := 0) h (by omega) (by omega) (by decide)
          have e2 := mask (K := 2) (v := 2) h (by omega) (by omega) (by decide)
          have e3 := mask (K := 3) (v := 2) h (by omega) (by omega) (by decide)
          have e4 := mask (K := 4) (v := 4) h (by omega) (by omega) (by decide)
          have HV : Hid (nxt 2 c = 1) := Lib.hid ((nxt_low 2 6 h).trans (by decide))
          clear h
          go_enter Try.func13, Try.ntmps13
          go_wp2
          go_ret
          exact ⟨ret_int HV.out.symm, rfl⟩
        · have e1 := mask (K := 1) (v := 0) h (by omega) (by omega) (by decide)
          have e2 := mask (K := 2) (v := 2) h (by omega) (by omega) (by decide)
          have e3 := mask (K := 3) (v := 2) h (by omega) (by omega) (by decide)
          have e4 := mask (K := 4) (v := 4) h (by omega) (by omega) (by decide)
          have HV : Hid (nxt 2 c = 1) := Lib.hid ((nxt_low 2 14 h).trans (by decide))
          clear h
          go_enter Try.func13, Try.ntmps13
          go_wp2
          go_ret
          exact ⟨ret_int HV.out.symm, rfl⟩
        · have e1 := mask (K := 1) (v := 1) h (by omega) (by omega) (by decide)
          have e2 := mask (K := 2) (v := 2) h (by omega) (by omega) (by decide)
          have e3 := mask (K := 3) (v := 3) h (by omega) (by omega) (by decide)
          have e4 := mask (K := 4) (v := 4) h (by omega) (by omega) (by decide)
          have HV : Hid (nxt 2 c = 3) := Lib.hid ((nxt_low 2 7 h).trans (by decide))
          clear h
          go_enter Try.func13, Try.ntmps13
          go_wp2
          go_ret
          exact ⟨ret_int HV.out.symm, rfl⟩
        · have e1 := mask (K := 1) (v := 1) h (by omega) (by omega) (by decide)
          have e2 := mask (K := 2) (v := 2) h (by omega) (by omega) (by decide)
          have e3 := mask (K := 3) (v := 3) h (by omega) (by omega) (by decide)
          have e4 := mask (K := 4) (v := 4) h (by omega) (by omega) (by decide)
          have HV : Hid (nxt 2 c = 3) := Lib.hid ((nxt_low 2 15 h).trans (by decide))
          clear h
          go_enter Try.func13, Try.ntmps13
          go_wp2
          go_ret
          exact ⟨ret_int HV.out.symm, rfl⟩
      · clear h0 h4
        rcases low8 c with (h | h) | (h | h) | (h | h) | (h | h) | (h | h) | (h | h) | (h | h) | (h | h)
        · have e1 := mask (K := 1) (v := 0) h (by omega) (by omega) (by decide)
          have e2 := mask (K := 2) (v := 0) h (by omega) (by omega) (by decide)
          have e3 := mask (K := 3) (v := 0) h (by omega) (by omega) (by decide)
          have e4 := mask (K := 4) (v := 0) h (by omega) (by omega) (by decide)
          have HV : Hid (nxt 3 c = 1) := Lib.hid ((nxt_low 3 0 h).trans (by decide))
          clear h
          go_enter Try.func13, Try.ntmps13
          go_wp2
          go_ret
          exact ⟨ret_int HV.out.symm, rfl⟩
        · have e1 := mask (K := 1) (v := 0) h (by omega) (by omega) (by decide)
          have e2 := mask (K := 2) (v := 0) h (by omega) (by omega) (by decide)
          have e3 := mask (K := 3) (v := 0) h (by omega) (by omega) (by decide)
          have e4 := mask (K := 4) (v := 0) h (by omega) (by omega) (by decide)
          have HV : Hid (nxt 3 c = 1) := Lib.hid ((nxt_low 3 8 h).trans (by decide))
          clear h
          go_enter Try.func13, Try.ntmps13
          go_wp2
          go_ret
          exact ⟨ret_int HV.out.symm, rfl⟩
        · have e1 := mask (K := 1) (v := 1) h (by omega) (by omega) (by decide)
          have e2 := mask (K := 2) (v := 0) h (by omega) (by omega) (by decide)
          have e3 := mask (K := 3) (v := 1) h (by omega) (by omega) (by decide)
          have e4 := mask (K := 4) (v := 0) h (by omega) (by omega) (by decide)
          have HV : Hid (nxt 3 c = 2) := Lib.hid ((nxt_low 3 1 h).trans (by decide))
          clear h
          go_enter Try.func13, Try.ntmps13
          go_wp2
          go_ret
          exact ⟨ret_int HV.out.symm, rfl⟩
        · have e1 := mask (K := 1) (v := 1) h (by omega) (by omega) (by decide)
          have e2 := mask (K := 2) (v := 0) h (by omega) (by omega) (by decide)
          have e3 := mask (K := 3) (v := 1) h (by omega) (by omega) (by decide)
          have e4 := mask (K := 4) (v := 0) h (by omega) (by omega) (by decide)
          have HV : Hid (nxt 3 c = 2) := Lib.hid ((nxt_low 3 9 h).trans (by decide))
          clear h
          go_enter Try.func13, Try.ntmps13
          go_wp2
          go_ret
          exact ⟨ret_int HV.out.symm, rfl⟩
        · have e1 := mask (K := 1) (v := 0) h (by omega) (by omega) (by decide)
          have e2 := mask (K := 2) (v := 2) h (by omega) (by omega) (by decide)
          have e3 := mask (K := 3) (v := 2) h (by omega) (by omega) (by decide)
          have e4 := mask (K := 4) (v := 0) h (by omega) (by omega) (by decide)
          have HV : Hid (nxt 3 c = 1) := Lib.hid ((nxt_low 3 2 h).trans (by decide))
          clear h
          go_enter Try.func13, Try.ntmps13
          go_wp2
          go_ret
          exact ⟨ret_int HV.out.symm, rfl⟩
        · have e1 := mask (K := 1) (v := 0) h (by omega) (by omega) (by decide)
          have e2 := mask (K := 2) (v := 2) h (by omega) (by omega) (by decide)
          have e3 := mask (K := 3) (v := 2) h (by omega) (by omega) (by decide)
          have e4 := mask (K := 4) (v := 0) h (by omega) (by omega) (by decide)
          have HV : Hid (nxt 3 c = 1) := Lib.hid ((nxt_low 3 10 h).trans (by decide))
          clear h
          go_enter Try.func13, Try.ntmps13
          go_wp2
          go_ret
          exact ⟨ret_int HV.out.symm, rfl⟩
        · have e1 := mask (K := 1) (v := 1) h (by omega) (by omega) (by decide)
          have e2 := mask (K := 2) (v := 2) h (by omega) (by omega) (by decide)
          have e3 := mask (K := 3) (v := 3) h (by omega) (by omega) (by decide)
          have e4 := mask (K := 4) (v := 0) h (by omega) (by omega) (by decide)
          have HV : Hid (nxt 3 c = 3) := Lib.hid ((nxt_low 3 3 h).trans (by decide))
          clear h
          go_enter Try.func13, Try.ntmps13
          go_wp2
          go_ret
          exact ⟨ret_int HV.out.symm, rfl⟩
        · have e1 := mask (K := 1) (v := 1) h (by omega) (by omega) (by decide)
          have e2 := mask (K := 2) (v := 2) h (by omega) (by omega) (by decide)
          have e3 := mask (K := 3) (v := 3) h (by omega) (by omega) (by decide)
          have e4 := mask (K := 4) (v := 0) h (by omega) (by omega) (by decide)
          have HV : Hid (nxt 3 c = 3) := Lib.hid ((nxt_low 3 11 h).trans (by decide))
          clear h
          go_enter Try.func13, Try.ntmps13
          go_wp2
          go_ret
          exact ⟨ret_int HV.out.symm, rfl⟩
        · have e1 := mask (K := 1) (v := 0) h (by omega) (by omega) (by decide)
          have e2 := mask (K := 2) (v := 0) h (by omega) (by omega) (by decide)
          have e3 := mask (K := 3) (v := 0) h (by omega) (by omega) (by decide)
          have e4 := mask (K := 4) (v := 4) h (by omega) (by omega) (by decide)
          have HV : Hid (nxt 3 c = 1) := Lib.hid ((nxt_low 3 4 h).trans (by decide))
          clear h
          go_enter Try.func13, Try.ntmps13
          go_wp2
          go_ret
          exact ⟨ret_int HV.out.symm, rfl⟩
        · have e1 := mask (K := 1) (v := 0) h (by omega) (by omega) (by decide)
          have e2 := mask (K := 2) (v := 0) h (by omega) (by omega) (by decide)
          have e3 := mask (K := 3) (v := 0) h (by omega) (by omega) (by decide)
          have e4 := mask (K := 4) (v := 4) h (by omega) (by omega) (by decide)
          have HV : Hid (nxt 3 c = 1) := Lib.hid ((nxt_low 3 12 h).trans (by decide))
          clear h
          go_enter Try.func13, Try.ntmps13
          go_wp2
          go_ret
          exact ⟨ret_int HV.out.symm, rfl⟩
        · have e1 := mask (K := 1) (v := 1) h (by omega) (by omega) (by decide)
          have e2 := mask (K := 2) (v := 0) h (by omega) (by omega) (by decide)
          have e3 := mask (K := 3) (v := 1) h (by omega) (by omega) (by decide)
          have e4 := mask (K := 4) (v := 4) h (by omega) (by omega) (by decide)
          have HV : Hid (nxt 3 c = 2) := Lib.hid ((nxt_low 3 5 h).trans (by decide))
          clear h
          go_enter Try.func13, Try.ntmps13
          go_wp2
          go_ret
          exact ⟨ret_int HV.out.symm, rfl⟩
        · have e1 := mask (K := 1) (v := 1) h (by omega) (by omega) (by decide)
          have e2 := mask (K := 2) (v := 0) h (by omega) (by omega) (by decide)
          have e3 := mask (K := 3) (v := 1) h (by omega) (by omega) (by decide)
          have e4 := mask (K := 4) (v := 4) h (by omega) (by omega) (by decide)
          have HV : Hid (nxt 3 c = 2) := Lib.hid ((nxt_low 3 13 h).trans (by decide))
          clear h
          go_enter Try.func13, Try.ntmps13
          go_wp2
          go_ret
          exact ⟨ret_int HV.out.symm, rfl⟩
        · have e1 := mask (K := 1) (v := 0) h (by omega) (by omega) (by decide)
          have e2 := mask (K := 2) (v := 2) h (by omega) (by omega) (by decide)
          have e3 := mask (K := 3) (v := 2) h (by omega) (by omega) (by decide)
          have e4 := mask (K := 4) (v := 4) h (by omega) (by omega) (by decide)
          have HV : Hid (nxt 3 c = 1) := Lib.hid ((nxt_low 3 6 h).trans (by decide))
          clear h
          go_enter Try.func13, Try.ntmps13
          go_wp2
          go_ret
          exact ⟨ret_int HV.out.symm, rfl⟩
        · have e1 := mask (K := 1) (v := 0) h (by omega) (by omega) (by decide)
          have e2 := mask (K := 2) (v := 2) h (by omega) (by omega) (by decide)
          have e3 := mask (K := 3) (v := 2) h (by omega) (by omega) (by decide)
          have e4 := mask (K := 4) (v := 4) h (by omega) (by omega) (by decide)
          have HV : Hid (nxt 3 c = 1) := Lib.hid ((nxt_low 3 14 h).trans (by decide))
          clear h
          go_enter Try.func13, Try.ntmps13
          go_wp2
          go_ret
          exact ⟨ret_int HV.out.symm, rfl⟩
        · have e1 := mask (K := 1) (v := 1) h (by omega) (by omega) (by decide)
          have e2 := mask (K := 2) (v := 2) h (by omega) (by omega) (by decide)
          have e3 := mask (K := 3) (v := 3) h (by omega) (by omega) (by decide)
          have e4 := mask (K := 4) (v := 4) h (by omega) (by omega) (by decide)
          have HV : Hid (nxt 3 c = 3) := Lib.hid ((nxt_low 3 7 h).trans (by decide))
          clear h
          go_enter Try.func13, Try.ntmps13
          go_wp2
          go_ret
          exact ⟨ret_int HV.out.symm, rfl⟩
        · have e1 := mask (K := 1) (v := 1) h (by omega) (by omega) (by decide)
          have e2 := mask (K := 2) (v := 2) h (by omega) (by omega) (by decide)
          have e3 := mask (K := 3) (v := 3) h (by omega) (by omega) (by decide)
          have e4 := mask (K := 4) (v := 4) h (by omega) (by omega) (by decide)
          have HV : Hid (nxt 3 c = 3) := Lib.hid ((nxt_low 3 15 h).trans (by decide))
          clear h
          go_enter Try.func13, Try.ntmps13
          go_wp2
          go_ret
          exact ⟨ret_int HV.out.symm, rfl⟩
      · clear h0 h4
        rcases low8 c with (h | h) | (h | h) | (h | h) | (h | h) | (h | h) | (h | h) | (h | h) | (h | h)
        · have e1 := mask (K := 1) (v := 0) h (by omega) (by omega) (by decide)
          have e2 := mask (K := 2) (v := 0) h (by omega) (by omega) (by decide)
          have e3 := mask (K := 3) (v := 0) h (by omega) (by omega) (by decide)
          have e4 := mask (K := 4) (v := 0) h (by omega) (by omega) (by decide)
          have HV : Hid (nxt 4 c = 4) := Lib.hid ((nxt_low 4 0 h).trans (by decide))
          clear h
          go_enter Try.func13, Try.ntmps13
          go_wp2
          go_ret
          exact ⟨ret_int HV.out.symm, rfl⟩
        · have e1 := mask (K := 1) (v := 0) h (by omega) (by omega) (by decide)
          have e2 := mask (K := 2) (v := 0) h (by omega) (by omega) (by decide)
          have e3 := mask (K := 3) (v := 0) h (by omega) (by omega) (by decide)
          have e4 := mask (K := 4) (v := 0) h (by omega) (by omega) (by decide)
          have HV : Hid (nxt 4 c = 4) := Lib.hid ((nxt_low 4 8 h).trans (by decide))
          clear h
          go_enter Try.func13, Try.ntmps13
          go_wp2
          go_ret
          exact ⟨ret_int HV.out.symm, rfl⟩
        · have e1 := mask (K := 1) (v := 1) h (by omega) (by omega) (by decide)
          have e2 := mask (K := 2) (v := 0) h (by omega) (by omega) (by decide)
          have e3 := mask (K := 3) (v := 1) h (by omega) (by omega) (by decide)
          have e4 := mask (K := 4) (v := 0) h (by omega) (by omega) (by decide)
          have HV : Hid (nxt 4 c = 4) := Lib.hid ((nxt_low 4 1 h).trans (by decide))
          clear h
          go_enter Try.func13, Try.ntmps13
          go_wp2
          go_ret
          exact ⟨ret_int HV.out.symm, rfl⟩
        · have e1 := mask (K := 1) (v := 1) h (by omega) (by omega) (by decide)
          have e2 := mask (K := 2) (v := 0) h (by omega) (by omega) (by decide)
          have e3 := mask (K := 3) (v := 1) h (by omega) (by omega) (by decide)
          have e4 := mask (K := 4) (v := 0) h (by omega) (by omega) (by decide)
          have HV : Hid (nxt 4 c = 4) := Lib.hid ((nxt_low 4 9 h).trans (by decide))
          clear h
          go_enter Try.func13, Try.ntmps13
          go_wp2
          go_ret
          exact ⟨ret_int HV.out.symm, rfl⟩
        · have e1 := mask (K := 1) (v := 0) h (by omega) (by omega) (by decide)
          have e2 := mask (K := 2) (v := 2) h (by omega) (by omega) (by decide)
          have e3 := mask (K := 3) (v := 2) h (by omega) (by omega) (by decide)
          have e4 := mask (K := 4) (v := 0) h (by omega) (by omega) (by decide)
          have HV : Hid (nxt 4 c = 4) := Lib.hid ((nxt_low 4 2 h).trans (by decide))
          clear h
          go_enter Try.func13, Try.ntmps13
          go_wp2
          go_ret
          exact ⟨ret_int HV.out.symm, rfl⟩
        · have e1 := mask (K := 1) (v := 0) h (by omega) (by omega) (by decide)
          have e2 := mask (K := 2) (v := 2) h (by omega) (by omega) (by decide)
          have e3 := mask (K := 3) (v := 2) h (by omega) (by omega) (by decide)
          have e4 := mask (K := 4) (v := 0) h (by omega) (by omega) (by decide)
          have HV : Hid (nxt 4 c = 4) := Lib.hid ((nxt_low 4 10 h).trans (by decide))
          clear h
          go_enter Try.func13, Try.ntmps13
          go_wp2
          go_ret
          exact ⟨ret_int HV.out.symm, rfl⟩
        · have e1 := mask (K := 1) (v := 1) h (by omega) (by omega) (by decide)
          have e2 := mask (K := 2) (v := 2) h (by omega) (by omega) (by decide)
          have e3 := mask (K := 3) (v := 3) h (by omega) (by omega) (by decide)
          have e4 := mask (K := 4) (v := 0) h (by omega) (by omega) (by decide)
          have HV : Hid (nxt 4 c = 4) := Lib.hid ((nxt_low 4 3 h).trans (by decide))
          clear h
          go_enter Try.func13, Try.ntmps13
          go_wp2
          go_ret
          exact ⟨ret_int HV.out.symm, rfl⟩
        · have e1 := mask (K := 1) (v := 1) h (by omega) (by omega) (by decide)
          have e2 := mask (K := 2) (v := 2) h (by omega) (by omega) (by decide)
          have e3 := mask (K := 3) (v := 3) h (by omega) (by omega) (by decide)
          have e4 := mask (K := 4) (v := 0) h (by omega) (by omega) (by decide)
          have HV : Hid (nxt 4 c = 4) := Lib.hid ((nxt_low 4 11 h).trans (by decide))
          clear h
          go_enter Try.func13, Try.ntmps13
          go_wp2
          go_ret
          exact ⟨ret_int HV.out.symm, rfl⟩
        · have e1 := mask (K := 1) (v := 0) h (by omega) (by omega) (by decide)
          have e2 := mask (K := 2) (v := 0) h (by omega) (by omega) (by decide)
          have e3 := mask (K := 3) (v := 0) h (by omega) (by omega) (by decide)
          have e4 := mask (K := 4) (v := 4) h (by omega) (by omega) (by decide)
          have HV : Hid (nxt 4 c = 0) := Lib.hid ((nxt_low 4 4 h).trans (by decide))
          clear h
          go_enter Try.func13, Try.ntmps13
          go_wp2
          go_ret
          exact ⟨ret_int HV.out.symm, rfl⟩
        · have e1 := mask (K := 1) (v := 0) h (by omega) (by omega) (by decide)
          have e2 := mask (K := 2) (v := 0) h (by omega) (by omega) (by decide)
          have e3 := mask (K := 3) (v := 0) h (by omega) (by omega) (by decide)
          have e4 := mask (K := 4) (v := 4) h (by omega) (by omega) (by decide)
          have HV : Hid (nxt 4 c = 0) := Lib.hid ((nxt_low 4 12 h).trans (by decide))
          clear h
          go_enter Try.func13, Try.ntmps13
          go_wp2
          go_ret
          exact ⟨ret_int HV.out.symm, rfl⟩
        · have e1 := mask (K := 1) (v := 1) h (by omega) (by omega) (by decide)
          have e2 := mask (K := 2) (v := 0) h (by omega) (by omega) (by decide)
          have e3 := mask (K := 3) (v := 1) h (by omega) (by omega) (by decide)
          have e4 := mask (K := 4) (v := 4) h (by omega) (by omega) (by decide)
          have HV : Hid (nxt 4 c = 0) := Lib.hid ((nxt_low 4 5 h).trans (by decide))
          clear h
          go_enter Try.func13, Try.ntmps13
          go_wp2
          go_ret
          exact ⟨ret_int HV.out.symm, rfl⟩
        · have e1 := mask (K := 1) (v := 1) h (by omega) (by omega) (by decide)
          have e2 := mask (K := 2) (v := 0) h (by omega) (by omega) (by decide)
          have e3 := mask (K := 3) (v := 1) h (by omega) (by omega) (by decide)
          have e4 := mask (K := 4) (v := 4) h (by omega) (by omega) (by decide)
          have HV : Hid (nxt 4 c = 0) := Lib.hid ((nxt_low 4 13 h).trans (by decide))
          clear h
          go_enter Try.func13, Try.ntmps13
          go_wp2
          go_ret
          exact ⟨ret_int HV.out.symm, rfl⟩
        · have e1 := mask (K := 1) (v := 0) h (by omega) (by omega) (by decide)
          have e2 := mask (K := 2) (v := 2) h (by omega) (by omega) (by decide)
          have e3 := mask (K := 3) (v := 2) h (by omega) (by omega) (by decide)
          have e4 := mask (K := 4) (v := 4) h (by omega) (by omega) (by decide)
          have HV : Hid (nxt 4 c = 0) := Lib.hid ((nxt_low 4 6 h).trans (by decide))
          clear h
          go_enter Try.func13, Try.ntmps13
          go_wp2
          go_ret
          exact ⟨ret_int HV.out.symm, rfl⟩
        · have e1 := mask (K := 1) (v := 0) h (by omega) (by omega) (by decide)
          have e2 := mask (K := 2) (v := 2) h (by omega) (by omega) (by decide)
          have e3 := mask (K := 3) (v := 2) h (by omega) (by omega) (by decide)
          have e4 := mask (K := 4) (v := 4) h (by omega) (by omega) (by decide)
          have HV : Hid (nxt 4 c = 0) := Lib.hid ((nxt_low 4 14 h).trans (by decide))
          clear h
          go_enter Try.func13, Try.ntmps13
          go_wp2
          go_ret
          exact ⟨ret_int HV.out.symm, rfl⟩
        · have e1 := mask (K := 1) (v := 1) h (by omega) (by omega) (by decide)
          have e2 := mask (K := 2) (v := 2) h (by omega) (by omega) (by decide)
          have e3 := mask (K := 3) (v := 3) h (by omega) (by omega) (by decide)
          have e4 := mask (K := 4) (v := 4) h (by omega) (by omega) (by decide)
          have HV : Hid (nxt 4 c = 0) := Lib.hid ((nxt_low 4 7 h).trans (by decide))
          clear h
          go_enter Try.func13, Try.ntmps13
          go_wp2
          go_ret
          exact ⟨ret_int HV.out.symm, rfl⟩
        · have e1 := mask (K := 1) (v := 1) h (by omega) (by omega) (by decide)
          have e2 := mask (K := 2) (v := 2) h (by omega) (by omega) (by decide)
          have e3 := mask (K := 3) (v := 3) h (by omega) (by omega) (by decide)
          have e4 := mask (K := 4) (v := 4) h (by omega) (by omega) (by decide)
          have HV : Hid (nxt 4 c = 0) := Lib.hid ((nxt_low 4 15 h).trans (by decide))
          clear h
          go_enter Try.func13, Try.ntmps13
          go_wp2
          go_ret
          exact ⟨ret_int HV.out.symm, rfl⟩
    · have hgt : 4 < x := by omega
      have HV : Hid (nxt x c = 0) := Lib.hid (by unfold nxt; rw [if_pos (by omega)])
      have b0 : (x == 0) = false := by rw [beq_eq_false_iff_ne]; omega
      have b1 : (x == 1) = false := by rw [beq_eq_false_iff_ne]; omega
      have b2 : (x == 2) = false := by rw [beq_eq_false_iff_ne]; omega
      have b3 : (x == 3) = false := by rw [beq_eq_false_iff_ne]; omega
      have b4 : (x == 4) = false := by rw [beq_eq_false_iff_ne]; omega
      go_enter Try.func13, Try.ntmps13
      go_wp2
      go_ret
      exact ⟨ret_int HV.out.symm, rfl⟩
  · have hlt : x < 0 := by omega
    have HV : Hid (nxt x c = 0) := Lib.hid (by unfold nxt; rw [if_pos (by omega)])
    have b0 : (x == 0) = false := by rw [beq_eq_false_iff_ne]; omega
    have b1 : (x == 1) = false := by rw [beq_eq_false_iff_ne]; omega
    have b2 : (x == 2) = false := by rw [beq_eq_false_iff_ne]; omega
    have b3 : (x == 3) = false := by rw [beq_eq_false_iff_ne]; omega
    have b4 : (x == 4) = false := by rw [beq_eq_false_iff_ne]; omega
    go_enter Try.func13, Try.ntmps13
    go_wp2
    go_ret
    exact ⟨ret_int HV.out.symm, rfl⟩
end Go.Proofs.Ythegbkgojheoiaa.o
