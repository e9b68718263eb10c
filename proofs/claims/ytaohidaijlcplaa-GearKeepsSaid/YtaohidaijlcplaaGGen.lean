/- Layer gen's contracts, as the laws' walks ask them; what was in memory is as it was. No condition but what each line says. -/
import Derived.Test.YtaohidaijlcplaaGGenD
namespace Go.Proofs.Ytaohidaijlcplaa.gn
open Go.ChangeShapes Go.WideShapes Go.ChangeAt Go.RowKit Go.Proofs.Ytaohidaijlcplaa.k Go.Proofs.Ytaohidaijlcplaa.b
set_option linter.unusedVariables false

theorem right_any (l : L) (hl : WideL l) (w : World) : Calls Try.prog 11 #[.agg #[.int .i64 l.V, .int .i64 l.A, .int .i64 l.D, .int .i64 l.lo, .int .i64 l.hi]] w fun e w' => e = .returned (.bool (rightL l)) ∧ Below w.heap.size w w' := by
  obtain ⟨V, A, D, lo, hi⟩ := l
  exact (right_is rfl w).mono fun e w' h => ⟨h.1, h.2 ▸ (Below.refl _ _).alloc (Nat.le_refl _) _⟩
theorem safe_any (l : L) (hr : RightL l) (p v : Int) (hp : Wide p) (hv : Wide v) (w : World) : Calls Try.prog 12 #[.agg #[.int .i64 l.V, .int .i64 l.A, .int .i64 l.D, .int .i64 l.lo, .int .i64 l.hi], .agg #[.int .i64 p, .int .i64 v]] w fun e w' => e = .returned (.bool (safeP l p v)) ∧ Below w.heap.size w w' := by
  obtain ⟨V, A, D, lo, hi⟩ := l
  exact (safe_is hr hv rfl w).mono fun e w' h => ⟨h.1, h.2 ▸ ((Below.refl _ _).alloc (Nat.le_refl _) _).alloc (by simp) _⟩
theorem may_ok (l : L) (hr : RightL l) (p v : Int) (hs : SafeP l p v) (w : World) : Calls Try.prog 20 #[.agg #[.int .i64 l.V, .int .i64 l.A, .int .i64 l.D, .int .i64 l.lo, .int .i64 l.hi], .agg #[.int .i64 p, .int .i64 v]] w fun e w' => e = .returned (.tuple #[.int .i64 (mayLo l p v), .int .i64 (mayHi l p v)]) ∧ Below w.heap.size w w' := by
  obtain ⟨V, A, D, lo, hi⟩ := l
  exact may_is hr hs rfl rfl w
theorem may_no (l : L) (hl : WideL l) (p v : Int) (hp : Wide p) (hv : Wide v) (h : ¬ (RightL l ∧ SafeP l p v)) (w : World) : Calls Try.prog 20 #[.agg #[.int .i64 l.V, .int .i64 l.A, .int .i64 l.D, .int .i64 l.lo, .int .i64 l.hi], .agg #[.int .i64 p, .int .i64 v]] w fun e w' => e = .returned (.tuple #[.int .i64 0, .int .i64 0]) ∧ Below w.heap.size w w' := by
  obtain ⟨V, A, D, lo, hi⟩ := l
  exact may_no' hl hp hv h w
theorem step_ok (l : L) (hr : RightL l) (p v : Int) (hs : SafeP l p v) (x : Int) (hx : Wide x) (w : World) : Calls Try.prog 13 #[.agg #[.int .i64 l.V, .int .i64 l.A, .int .i64 l.D, .int .i64 l.lo, .int .i64 l.hi], .agg #[.int .i64 p, .int .i64 v], .int .i64 x] w fun e w' => e = .returned (.agg #[.int .i64 (p + stepV l p v x), .int .i64 (stepV l p v x)]) ∧ Below w.heap.size w w' := by
  obtain ⟨V, A, D, lo, hi⟩ := l
  exact step_is hr hs rfl w
theorem step_no (l : L) (hl : WideL l) (p v : Int) (hp : Wide p) (hv : Wide v) (h : ¬ (RightL l ∧ SafeP l p v)) (x : Int) (hx : Wide x) (w : World) : Calls Try.prog 13 #[.agg #[.int .i64 l.V, .int .i64 l.A, .int .i64 l.D, .int .i64 l.lo, .int .i64 l.hi], .agg #[.int .i64 p, .int .i64 v], .int .i64 x] w fun e w' => e = .returned (.agg #[.int .i64 p, .int .i64 v]) ∧ Below w.heap.size w w' := by
  obtain ⟨V, A, D, lo, hi⟩ := l
  exact step_no' hl hp hv h x w
end Go.Proofs.Ytaohidaijlcplaa.gn
