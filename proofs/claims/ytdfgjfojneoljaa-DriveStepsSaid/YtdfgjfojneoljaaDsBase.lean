/- Stage 7's law DriveSteps, the words of its parts. No condition but what each line says. -/
import Derived.Test.YtdfgjfojneoljaaJAwake
import Derived.Test.YtdfgjfojneoljaaSSame
namespace Go.Proofs.Ytdfgjfojneoljaa.driveSteps
open Go.ChangeShapes Go.WideShapes Go.ChangeAt Go.RowKit Go.Proofs.Ytdfgjfojneoljaa.s Go.Proofs.Ytdfgjfojneoljaa.t Go.Proofs.Ytdfgjfojneoljaa.j Go.Proofs.Ytdfgjfojneoljaa
set_option linter.unusedVariables false
theorem wide {a : Int} (h : (Lit.int .i64 a).wf = true) : -9223372036854775808 ≤ a ∧ a ≤ 9223372036854775807 := k.wf64 h
/-- what a Tell answers: a drive's cells, and thirteen bytes in memory of its own -/
def ToldSo (cs : List Value) (tb : List (BitVec 8)) (W : World) (e : Ending) (w' : World) : Prop :=
  ∃ A cap, e = .returned (.tuple #[.agg cs.toArray, .slice A 13 cap]) ∧ Bytes w' w'.heap.size A tb ∧ 13 ≤ cap ∧ cap ≤ maxLen ∧ Below W.heap.size W w'
/-- what a Tell answers of a drive that isn't right -/
def ToldNo (W : World) (e : Ending) (w' : World) : Prop := ∃ (A : Option Addr) (cap : Nat), e = .returned (.tuple #[.agg #[.int .i64 0, .int .i64 0, .int .i64 0, .int .i64 0, .int .i64 0, .bool false, .int .i64 0, .int .i64 0, .bool false, .int .i64 0, .int .i64 0, .bool false, .int .i64 0, .int .i64 0, .bool false, .int .i64 0], .slice A 0 cap]) ∧ Below W.heap.size W w'
theorem same_self (tb : List (BitVec 8)) (htb : tb.length = 13) (B B' : Nat) (A A' : Option Addr) (cap cap' : Nat) (W : World) (h : Bytes W B A tb) (h' : Bytes W B' A' tb) :
    Calls Try.prog 16 #[.slice A 13 cap, .slice A' 13 cap'] W fun e w' => e = .returned (.bool true) ∧ ∃ q, w' = W.drewN q :=
  (same_any tb tb 13 13 htb htb (by omega) (by omega) B B' A A' cap cap' W h h').mono fun e w' ⟨h1, h2⟩ => ⟨by rw [h1]; unfold same; simp, h2⟩
end Go.Proofs.Ytdfgjfojneoljaa.driveSteps
