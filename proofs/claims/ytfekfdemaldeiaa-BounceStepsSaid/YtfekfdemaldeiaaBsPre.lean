/- What the law BounceSteps says of one call, and what New answers. -/
import Derived.Test.YtfekfdemaldeiaaVAwake
namespace Go.Proofs.Ytfekfdemaldeiaa.bounceSteps
open Go.ChangeShapes Go.WideShapes Go.ChangeAt Go.RowKit Go.Proofs.Ytfekfdemaldeiaa.k Go.Proofs.Ytfekfdemaldeiaa.v Go.Proofs.Ytfekfdemaldeiaa
set_option linter.unusedVariables false

def Post (n : Int) (v : Bool) (c : Int) (x : Bool) (o : Int) (s : Bool) (w : World) : Prop :=
  Calls Try.prog 3 #[.int .i64 n, .bool v, .agg #[.int .i64 c, .bool x, .int .i64 o], .bool s] w fun e w' => e = .returned (.bool true) ∧ Below w.heap.size w w'
def NewIs (n : Int) (v : Bool) (n0 : Int) (v0 : Bool) (E : Int) : Prop :=
  ∀ W, Calls Try.prog 7 #[.int .i64 n, .bool v] W fun e w' => e = .returned (.tuple #[.agg #[.int .i64 n0, .bool v0, .int .i64 0], .int .i64 E]) ∧ Below W.heap.size W w'
def New (n : Int) (v : Bool) : Prop := (1 ≤ n ∧ n ≤ 20 ∧ NewIs n v n v 0) ∨ (¬ 1 ≤ n ∧ NewIs n v 0 false 1) ∨ (1 ≤ n ∧ ¬ n ≤ 20 ∧ NewIs n v 0 false 1)
theorem new_any (n : Int) (v : Bool) : New n v := by
  by_cases a : 1 ≤ n
  · by_cases b : n ≤ 20
    · exact .inl ⟨a, b, fun W => new_yes n v a b W⟩
    · exact .inr (.inr ⟨a, b, fun W => new_no n v (.inr (by omega)) W⟩)
  · exact .inr (.inl ⟨a, fun W => new_no n v (.inl (by omega)) W⟩)
end Go.Proofs.Ytfekfdemaldeiaa.bounceSteps
