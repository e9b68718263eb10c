/- What servitorref01's cmp answers: -1, 0 or 1, as the first of two numbers of four parts stands to the second. -/
import Derived.Test.YtaohidaijlcplaaRSum
namespace Go.Proofs.Ytaohidaijlcplaa.r
open Go.ChangeShapes Go.WideShapes Go.ChangeAt Go.RowKit Go.Proofs.Ytaohidaijlcplaa.q
set_option linter.unusedVariables false

theorem below2 (w : World) (o1 o2 : Obj) (n : Nat) : Below w.heap.size w (((w.alloc o1).alloc o2).drewN n) :=
  below_drewN (((Below.refl _ _).alloc (Nat.le_refl _) _).alloc (by simp) _) n

set_option maxRecDepth 100000 in
set_option maxHeartbeats 4000000 in
theorem cmp_any {A B : Int} {ma mb : Bool} {va vb : Value} (hA : IsW A ma va) (hB : IsW B mb vb) (w : World) :
    Calls Try.prog 48 #[va, vb] w fun e w' => e = .returned (.int .i64 (cmpV A B)) ∧ Below w.heap.size w w' := by
  obtain ⟨a0, a1, a2, a3, rfl, la, rfl⟩ := hA
  obtain ⟨b0, b1, b2, b3, rfl, lb, rfl⟩ := hB
  obtain ⟨p0, q0, p1, q1, p2, q2, p3, q3⟩ := la
  obtain ⟨p0', q0', p1', q1', p2', q2', p3', q3'⟩ := lb
  have d1 := set_drewN
  have d2 := alloc_drewN
  rcases Int.lt_trichotomy a3 b3 with h3 | h3 | h3
  · have HV := Lib.hid (cmpV_lt (A := val a0 a1 a2 a3) (B := val b0 b1 b2 b3) (by unfold val; omega))
    go_enter Try.func48, Try.ntmps48
    go_wp2
    refine wp_loop_rounds 5 ?_
    rw [rounds_succ]
    go_wp2
    go_quiet (fail)
    go_wp2
    go_ret
    exact ⟨HV.out.symm ▸ rfl, by repeat (first | exact below2 _ _ _ _ | apply below_drewN)⟩
  · subst h3
    rcases Int.lt_trichotomy a2 b2 with h2 | h2 | h2
    · have HV := Lib.hid (cmpV_lt (A := val a0 a1 a2 a3) (B := val b0 b1 b2 a3) (by unfold val; omega))
      go_enter Try.func48, Try.ntmps48
      go_wp2
      refine wp_loop_rounds 5 ?_
      rw [rounds_succ]
      go_wp2
      go_quiet (fail)
      go_wp2
      go_quiet (fail)
      go_wp2
      rw [rounds_succ]
      go_wp2
      go_quiet (fail)
      go_wp2
      go_ret
      exact ⟨HV.out.symm ▸ rfl, by repeat (first | exact below2 _ _ _ _ | apply below_drewN)⟩
    · subst h2
      rcases Int.lt_trichotomy a1 b1 with h1 | h1 | h1
      · have HV := Lib.hid (cmpV_lt (A := val a0 a1 a2 a3) (B := val b0 b1 a2 a3) (by unfold val; omega))
        go_enter Try.func48, Try.ntmps48
        go_wp2
        refine wp_loop_rounds 5 ?_
        rw [rounds_succ]
        go_wp2
        go_quiet (fail)
        go_wp2
        go_quiet (fail)
        go_wp2
        rw [rounds_succ]
        go_wp2
        go_quiet (fail)
        go_wp2
        go_quiet (fail)
        go_wp2
        rw [rounds_succ]
        go_wp2
        go_quiet (fail)
        go_wp2
        go_ret
        exact ⟨HV.out.symm ▸ rfl, by repeat (first | exact below2 _ _ _ _ | apply below_drewN)⟩
      · subst h1
        rcases Int.lt_trichotomy a0 b0 with h0 | h0 | h0
        · have HV := Lib.hid (cmpV_lt (A := val a0 a1 a2 a3) (B := val b0 a1 a2 a3) (by unfold val; omega))
          go_enter Try.func48, Try.ntmps48
          go_wp2
          refine wp_loop_rounds 5 ?_
          rw [rounds_succ]
          go_wp2
          go_quiet (fail)
          go_wp2
          go_quiet (fail)
          go_wp2
          rw [rounds_succ]
          go_wp2
          go_quiet (fail)
          go_wp2
          go_quiet (fail)
          go_wp2
          rw [rounds_succ]
          go_wp2
          go_quiet (fail)
          go_wp2
          go_quiet (fail)
          go_wp2
          rw [rounds_succ]
          go_wp2
          go_quiet (fail)
          go_wp2
          go_ret
          exact ⟨HV.out.symm ▸ rfl, by repeat (first | exact below2 _ _ _ _ | apply below_drewN)⟩
        · subst h0
          have HV := Lib.hid (cmpV_eq (val a0 a1 a2 a3))
          go_enter Try.func48, Try.ntmps48
          go_wp2
          refine wp_loop_rounds 5 ?_
          rw [rounds_succ]
          go_wp2
          go_quiet (fail)
          go_wp2
          go_quiet (fail)
          go_wp2
          rw [rounds_succ]
          go_wp2
          go_quiet (fail)
          go_wp2
          go_quiet (fail)
          go_wp2
          rw [rounds_succ]
          go_wp2
          go_quiet (fail)
          go_wp2
          go_quiet (fail)
          go_wp2
          rw [rounds_succ]
          go_wp2
          go_quiet (fail)
          go_wp2
          go_quiet (fail)
          go_wp2
          rw [rounds_succ]
          go_wp2
          go_ret
          exact ⟨HV.out.symm ▸ rfl, by repeat (first | exact below2 _ _ _ _ | apply below_drewN)⟩
        · have HV := Lib.hid (cmpV_gt (A := val a0 a1 a2 a3) (B := val b0 a1 a2 a3) (by unfold val; omega))
          go_enter Try.func48, Try.ntmps48
          go_wp2
          refine wp_loop_rounds 5 ?_
          rw [rounds_succ]
          go_wp2
          go_quiet (fail)
          go_wp2
          go_quiet (fail)
          go_wp2
          rw [rounds_succ]
          go_wp2
          go_quiet (fail)
          go_wp2
          go_quiet (fail)
          go_wp2
          rw [rounds_succ]
          go_wp2
          go_quiet (fail)
          go_wp2
          go_quiet (fail)
          go_wp2
          rw [rounds_succ]
          go_wp2
          go_quiet (fail)
          go_wp2
          go_quiet (fail)
          go_wp2
          go_ret
          exact ⟨HV.out.symm ▸ rfl, by repeat (first | exact below2 _ _ _ _ | apply below_drewN)⟩
      · have HV := Lib.hid (cmpV_gt (A := val a0 a1 a2 a3) (B := val b0 b1 a2 a3) (by unfold val; omega))
        go_enter Try.func48, Try.ntmps48
        go_wp2
        refine wp_loop_rounds 5 ?_
        rw [rounds_succ]
        go_wp2
        go_quiet (fail)
        go_wp2
        go_quiet (fail)
        go_wp2
        rw [rounds_succ]
        go_wp2
        go_quiet (fail)
        go_wp2
        go_quiet (fail)
        go_wp2
        rw [rounds_succ]
        go_wp2
        go_quiet (fail)
        go_wp2
        go_quiet (fail)
        go_wp2
        go_ret
        exact ⟨HV.out.symm ▸ rfl, by repeat (first | exact below2 _ _ _ _ | apply below_drewN)⟩
    · have HV := Lib.hid (cmpV_gt (A := val a0 a1 a2 a3) (B := val b0 b1 b2 a3) (by unfold val; omega))
      go_enter Try.func48, Try.ntmps48
      go_wp2
      refine wp_loop_rounds 5 ?_
      rw [rounds_succ]
      go_wp2
      go_quiet (fail)
      go_wp2
      go_quiet (fail)
      go_wp2
      rw [rounds_succ]
      go_wp2
      go_quiet (fail)
      go_wp2
      go_quiet (fail)
      go_wp2
      go_ret
      exact ⟨HV.out.symm ▸ rfl, by repeat (first | exact below2 _ _ _ _ | apply below_drewN)⟩
  · have HV := Lib.hid (cmpV_gt (A := val a0 a1 a2 a3) (B := val b0 b1 b2 b3) (by unfold val; omega))
    go_enter Try.func48, Try.ntmps48
    go_wp2
    refine wp_loop_rounds 5 ?_
    rw [rounds_succ]
    go_wp2
    go_quiet (fail)
    go_wp2
    go_quiet (fail)
    go_wp2
    go_ret
    exact ⟨HV.out.symm ▸ rfl, by repeat (first | exact below2 _ _ _ _ | apply below_drewN)⟩
end Go.Proofs.Ytaohidaijlcplaa.r
