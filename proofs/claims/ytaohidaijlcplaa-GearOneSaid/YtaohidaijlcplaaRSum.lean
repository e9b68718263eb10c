/- What servitorref01's sum answers: the sum of two numbers of four parts, with the first one's sign, where it has room in 128 bits. -/
import Derived.Test.YtaohidaijlcplaaQCalls
import Derived.Test.YtaohidaijlcplaaRMath
import Derived.Deep.QuietTactic
import Derived.BigQuiet
namespace Go.Proofs.Ytaohidaijlcplaa.r
open Go.ChangeShapes Go.WideShapes Go.ChangeAt Go.RowKit Go.Proofs.Ytaohidaijlcplaa.q
set_option linter.unusedVariables false

/-- A call answers a number of four parts; what was in memory is as it was. -/
def WPost (N : Int) (m : Bool) (w : World) (e : Ending) (w' : World) : Prop := ∃ v, e = .returned v ∧ IsW N m v ∧ Below w.heap.size w w'

theorem set_drewN (w : World) (n : Nat) (a : Addr) (v : Value) : (w.drewN n).setCell a v = (w.setCell a v).drewN n := by
  unfold World.setCell World.drewN; first | rfl | (split <;> rfl)
theorem alloc_drewN (w : World) (n : Nat) (o : Obj) : (w.drewN n).alloc o = (w.alloc o).drewN n := rfl

/-- closes 'Below' over new blocks and draws -/
theorem below3 (w : World) (o1 o2 o3 : Obj) (n : Nat) : Below w.heap.size w ((((w.alloc o1).alloc o2).alloc o3).drewN n) :=
  below_drewN ((((Below.refl _ _).alloc (Nat.le_refl _) _).alloc (by simp) _).alloc (by simp; omega) _) n

set_option maxRecDepth 100000 in
set_option maxHeartbeats 1000000 in
theorem sum_any {A B : Int} {ma mb : Bool} {va vb : Value} (hA : IsW A ma va) (hB : IsW B mb vb) (hAB : A + B < top) (w : World) :
    Calls Try.prog 40 #[va, vb] w (WPost (A + B) ma w) := by
  obtain ⟨a0, a1, a2, a3, rfl, la, rfl⟩ := hA
  obtain ⟨b0, b1, b2, b3, rfl, lb, rfl⟩ := hB
  obtain ⟨p0, q0, p1, q1, p2, q2, p3, q3⟩ := la
  obtain ⟨p0', q0', p1', q1', p2', q2', p3', q3'⟩ := lb
  obtain ⟨s0, c0, e0, f0, k0⟩ := carry_of (a0 + b0) (by omega) (by omega)
  have g0 := k0.c0
  have h0 := k0.c1
  obtain ⟨s1, c1, e1, f1, k1⟩ := carry_of (a1 + b1 + c0) (by omega) (by omega)
  have g1 := k1.c0
  have h1 := k1.c1
  obtain ⟨s2, c2, e2, f2, k2⟩ := carry_of (a2 + b2 + c1) (by omega) (by omega)
  have g2 := k2.c0
  have h2 := k2.c1
  obtain ⟨s3, c3, e3, f3, k3⟩ := carry_of (a3 + b3 + c2) (by omega) (by omega)
  have FIN := Lib.hid (sum_val k0 k1 k2 k3 hAB)
  clear k0 k1 k2 k3 hAB
  have d1 := set_drewN
  have d2 := alloc_drewN
  go_enter Try.func40, Try.ntmps40
  go_wp2
  refine wp_loop_rounds 5 ?_
  rw [rounds_succ]
  go_wp2
  go_quiet (fail)
  go_wp2
  rw [rounds_succ]
  go_wp2
  go_quiet (fail)
  go_wp2
  rw [rounds_succ]
  go_wp2
  go_quiet (fail)
  go_wp2
  rw [rounds_succ]
  go_wp2
  go_quiet (fail)
  go_wp2
  rw [rounds_succ]
  go_wp2
  exact bodyPost_ret (v := .agg #[.int .u64 s0, .int .u64 s1, .int .u64 s2, .int .u64 s3, .bool ma]) (by simp [results, Try.results40, go_sem]) rfl
    ⟨_, rfl, ⟨s0, s1, s2, s3, rfl, FIN.out.1, FIN.out.2⟩, below3 _ _ _ _ _⟩
end Go.Proofs.Ytaohidaijlcplaa.r
