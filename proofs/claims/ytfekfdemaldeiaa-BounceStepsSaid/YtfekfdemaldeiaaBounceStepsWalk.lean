/- The walk of the law BounceSteps: any count, any value, any switch, whatever it shows: it returns true, and what was in memory is as it was. -/
import Derived.Test.YtfekfdemaldeiaaBsRight
import Derived.Test.YtfekfdemaldeiaaBsBad
namespace Go.Proofs.Ytfekfdemaldeiaa.bounceSteps
open Go.ChangeShapes Go.WideShapes Go.ChangeAt Go.RowKit Go.Proofs.Ytfekfdemaldeiaa.k Go.Proofs.Ytfekfdemaldeiaa.v Go.Proofs.Ytfekfdemaldeiaa
set_option linter.unusedVariables false

theorem walk (n : Int) (v : Bool) (c : Int) (x : Bool) (o : Int) (s : Bool) (w : World) (hn : (Lit.int .i64 n).wf = true) (hc : (Lit.int .i64 c).wf = true) (ho : (Lit.int .i64 o).wf = true) :
    Calls Try.prog 3 #[.int .i64 n, .bool v, .agg #[.int .i64 c, .bool x, .int .i64 o], .bool s] w fun e w' => e = .returned (.bool true) ∧ Below w.heap.size w w' := by
  have hi1 := wf64 hc
  have hi2 := wf64 ho
  show Post n v c x o s w
  by_cases hr : RightB c o
  · by_cases hs : s = x
    · rcases new_any n v with ⟨n1, n2, hN⟩ | ⟨n1, hN⟩ | ⟨n1, n2, hN⟩
      · exact same0 n v c x o s w hi1 hi2 n1 n2 hN hr hs
      · exact same1 n v c x o s w hi1 hi2 n1 hN hr hs
      · exact same2 n v c x o s w hi1 hi2 n1 n2 hN hr hs
    · by_cases hq : o + 1 = c
      · rcases new_any n v with ⟨n1, n2, hN⟩ | ⟨n1, hN⟩ | ⟨n1, n2, hN⟩
        · exact full0 n v c x o s w hi1 hi2 n1 n2 hN hr hs hq
        · exact full1 n v c x o s w hi1 hi2 n1 hN hr hs hq
        · exact full2 n v c x o s w hi1 hi2 n1 n2 hN hr hs hq
      · rcases new_any n v with ⟨n1, n2, hN⟩ | ⟨n1, hN⟩ | ⟨n1, n2, hN⟩
        · exact more0 n v c x o s w hi1 hi2 n1 n2 hN hr hs hq
        · exact more1 n v c x o s w hi1 hi2 n1 hN hr hs hq
        · exact more2 n v c x o s w hi1 hi2 n1 n2 hN hr hs hq
  · by_cases r1 : 1 ≤ c
    · by_cases r2 : c ≤ 20
      · by_cases r3 : 0 ≤ o
        · have r4 : ¬ o ≤ c - 1 := fun h => hr ⟨r1, r2, r3, h⟩
          rcases new_any n v with ⟨n1, n2, hN⟩ | ⟨n1, hN⟩ | ⟨n1, n2, hN⟩
          · exact badD0 n v c x o s w hi1 hi2 n1 n2 hN hr r1 r2 r3 r4
          · exact badD1 n v c x o s w hi1 hi2 n1 hN hr r1 r2 r3 r4
          · exact badD2 n v c x o s w hi1 hi2 n1 n2 hN hr r1 r2 r3 r4
        · rcases new_any n v with ⟨n1, n2, hN⟩ | ⟨n1, hN⟩ | ⟨n1, n2, hN⟩
          · exact badC0 n v c x o s w hi1 hi2 n1 n2 hN hr r1 r2 r3
          · exact badC1 n v c x o s w hi1 hi2 n1 hN hr r1 r2 r3
          · exact badC2 n v c x o s w hi1 hi2 n1 n2 hN hr r1 r2 r3
      · rcases new_any n v with ⟨n1, n2, hN⟩ | ⟨n1, hN⟩ | ⟨n1, n2, hN⟩
        · exact badB0 n v c x o s w hi1 hi2 n1 n2 hN hr r1 r2
        · exact badB1 n v c x o s w hi1 hi2 n1 hN hr r1 r2
        · exact badB2 n v c x o s w hi1 hi2 n1 n2 hN hr r1 r2
    · rcases new_any n v with ⟨n1, n2, hN⟩ | ⟨n1, hN⟩ | ⟨n1, n2, hN⟩
      · exact badA0 n v c x o s w hi1 hi2 n1 n2 hN hr r1
      · exact badA1 n v c x o s w hi1 hi2 n1 hN hr r1
      · exact badA2 n v c x o s w hi1 hi2 n1 n2 hN hr r1
end Go.Proofs.Ytfekfdemaldeiaa.bounceSteps
