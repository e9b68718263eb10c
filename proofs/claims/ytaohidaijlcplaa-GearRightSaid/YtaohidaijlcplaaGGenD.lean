/- What layer gen's By answers, of any limits and any generator; what was in memory is as it was. No condition but what each line says. -/
import Derived.Test.YtaohidaijlcplaaGGenC
namespace Go.Proofs.Ytaohidaijlcplaa.gn
open Go.ChangeShapes Go.WideShapes Go.ChangeAt Go.RowKit Go.Proofs.Ytaohidaijlcplaa.k Go.Proofs.Ytaohidaijlcplaa.b
set_option linter.unusedVariables false

theorem near_quiet {n lo hi x : Int} (h : lo ≤ hi) (hx : clamp n lo hi = x) (W : World) (q : Nat) : Calls Try.prog 27 #[.int .i64 n, .int .i64 lo, .int .i64 hi] (W.drewN q) fun e w'' => e = .returned (.int .i64 x) ∧ ∃ m, w'' = W.drewN m :=
  (near_is h hx (W.drewN q)).mono fun _ _ hh => ⟨hh.1, q, hh.2.symm⟩
theorem not_up {a b : Int} (h : b ≤ a) : (sgn a b != 1) = true := by rw [bne, sgn_not_up h]; rfl
theorem not_down {a b : Int} (h : a ≤ b) : (sgn a b != -1) = true := by rw [bne, sgn_not_down h]; rfl
end Go.Proofs.Ytaohidaijlcplaa.gn
