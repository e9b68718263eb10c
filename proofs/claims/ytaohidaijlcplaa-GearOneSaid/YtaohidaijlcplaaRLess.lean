/- What servitorref01's less answers: the difference of two numbers of four parts, with the first one's sign, the first being no smaller. -/
import Derived.Test.YtaohidaijlcplaaRSum
namespace Go.Proofs.Ytaohidaijlcplaa.r
open Go.ChangeShapes Go.WideShapes Go.ChangeAt Go.RowKit Go.Proofs.Ytaohidaijlcplaa.q
set_option linter.unusedVariables false

set_option maxRecDepth 100000 in
set_option maxHeartbeats 1000000 in
theorem less_any {A B : Int} {ma mb : Bool} {va vb : Value} (hA : IsW A ma va) (hB : IsW B mb vb) (hAB : B ≤ A) (w : World) :
    Calls Try.prog 49 #[va, vb] w (WPost (A - B) ma w) := by
  obtain ⟨a0, a1, a2, a3, rfl, la, rfl⟩ := hA
  obtain ⟨b0, b1, b2, b3, rfl, lb, rfl⟩ := hB
  obtain ⟨p0, q0, p1, q1, p2, q2, p3, q3⟩ := la
  obtain ⟨p0', q0', p1', q1', p2', q2', p3', q3'⟩ := lb
  obtain ⟨s0, c0, t0, e0, f0, g0, h0, i0, j0, l0, k0⟩ := less_of (a0 + 4294967296 - b0) (by omega) (by omega)
  obtain ⟨s1, c1, t1, e1, f1, g1, h1, i1, j1, l1, k1⟩ := less_of (a1 + 4294967296 - b1 - t0) (by omega) (by omega)
  obtain ⟨s2, c2, t2, e2, f2, g2, h2, i2, j2, l2, k2⟩ := less_of (a2 + 4294967296 - b2 - t1) (by omega) (by omega)
  obtain ⟨s3, c3, t3, e3, f3, g3, h3, i3, j3, l3, k3⟩ := less_of (a3 + 4294967296 - b3 - t2) (by omega) (by omega)
  have FIN := Lib.hid (less_val k0 g0 k1 g1 k2 g2 k3 hAB)
  clear k0 k1 k2 k3 hAB
  have d1 := set_drewN
  have d2 := alloc_drewN
  go_enter Try.func49, Try.ntmps49
  go_wp2
  refine wp_loop_rounds 5 ?_
  rw [rounds_succ]
  go_wp2
  go_quiet (fail)
  go_wp2
  rw [rounds_succ]
  go_wp2
  go_quiet (fail)
  go_wp2
  rw [rounds_succ]
  go_wp2
  go_quiet (fail)
  go_wp2
  rw [rounds_succ]
  go_wp2
  go_quiet (fail)
  go_wp2
  rw [rounds_succ]
  go_wp2
  exact bodyPost_ret (v := .agg #[.int .u64 s0, .int .u64 s1, .int .u64 s2, .int .u64 s3, .bool ma]) (by simp [results, Try.results49, go_sem]) rfl
    ⟨_, rfl, ⟨s0, s1, s2, s3, rfl, FIN.out.1, FIN.out.2⟩, below3 _ _ _ _ _⟩
end Go.Proofs.Ytaohidaijlcplaa.r
