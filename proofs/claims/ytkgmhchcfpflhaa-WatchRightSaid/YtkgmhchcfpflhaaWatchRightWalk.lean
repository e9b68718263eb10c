/- The walk of the law WatchRight: any limit, any watch and any bytes: it returns true, and what was in memory is as it was. -/
import Derived.Test.YtkgmhchcfpflhaaWrYes
import Derived.Test.YtkgmhchcfpflhaaWrAbove
import Derived.Test.YtkgmhchcfpflhaaWrBelow
namespace Go.Proofs.Ytkgmhchcfpflhaa.watchRight
open Go.ChangeShapes Go.WideShapes Go.ChangeAt Go.RowKit Go.Proofs.Ytkgmhchcfpflhaa.s Go.Proofs.Ytkgmhchcfpflhaa.t Go.Proofs.Ytkgmhchcfpflhaa.u Go.Proofs.Ytkgmhchcfpflhaa
set_option linter.unusedVariables false

theorem walk (a0 : Int) (m0 m1 m2 : Int) (a2 : Option Addr) (len2 cap2 : Nat) (z2 : List Int) (w : World) (w0 : (Lit.int .i64 a0).wf = true) (v0 : (Lit.int .i64 m0).wf = true) (v1 : (Lit.int .i64 m1).wf = true) (v2 : (Lit.int .i64 m2).wf = true) (w2 : IsRow .u8 w a2 len2 cap2 z2) :
    Calls Try.prog 3 #[.int .i64 a0, .agg #[.int .i64 m0, .int .i64 m1, .int .i64 m2], .slice a2 len2 cap2] w fun e w' => e = .returned (.bool true) ∧ Below w.heap.size w w' := by
  obtain ⟨l0, rfl, hB0, hcap0, hmax0, hnil0, hspot0⟩ := bytes_of w2
  obtain ⟨k, e0, hn, hm, hC⟩ := cut_of l0 40 40 rfl hB0
  obtain ⟨y0, y1, y2, f0, f1, f2, ok, cp, cr⟩ := come_same m0 m1 m2 k _ hn (by omega) a2 cap2 (by omega) hmax0 w hC
  unfold maxLen at hmax0
  by_cases h1 : 1 ≤ a0
  · by_cases h2 : a0 ≤ 100
    · exact leafYes a0 m0 m1 m2 a2 l0.length cap2 hcap0 hmax0 w y0 y1 y2 f0 f1 f2 ok cp cr h1 h2
    · exact leafAbove a0 m0 m1 m2 a2 l0.length cap2 hcap0 hmax0 w y0 y1 y2 f0 f1 f2 ok cp cr h1 h2
  · exact leafBelow a0 m0 m1 m2 a2 l0.length cap2 hcap0 hmax0 w y0 y1 y2 f0 f1 f2 ok cp cr h1
end Go.Proofs.Ytkgmhchcfpflhaa.watchRight
