/- Stage 9's law GenRight: any limits, any generator, any wishes, places and speeds: it returns true, and what was in memory is as it was. No condition but what each line says. -/
import Derived.Test.YtmfigpjofakdnaaGrNo
import Derived.Test.YtmfigpjofakdnaaGrUn
import Derived.Test.YtmfigpjofakdnaaGrYes
namespace Go.Proofs.Ytmfigpjofakdnaa.genRight
open Go.ChangeShapes Go.WideShapes Go.ChangeAt Go.RowKit Go.Proofs.Ytmfigpjofakdnaa.k Go.Proofs.Ytmfigpjofakdnaa.b Go.Proofs.Ytmfigpjofakdnaa.gn Go.Proofs.Ytmfigpjofakdnaa
set_option linter.unusedVariables false

theorem walk (V A D lo hi : Int) (p v x t u s y : Int) (w : World) (u0 : (Lit.int .i64 V).wf = true) (u1 : (Lit.int .i64 A).wf = true) (u2 : (Lit.int .i64 D).wf = true) (u3 : (Lit.int .i64 lo).wf = true) (u4 : (Lit.int .i64 hi).wf = true) (g0 : (Lit.int .i64 p).wf = true) (g1 : (Lit.int .i64 v).wf = true) (g2 : (Lit.int .i64 x).wf = true) (g3 : (Lit.int .i64 t).wf = true) (g4 : (Lit.int .i64 u).wf = true) (g5 : (Lit.int .i64 s).wf = true) (g6 : (Lit.int .i64 y).wf = true) :
    Calls Try.prog 3 #[.agg #[.int .i64 V, .int .i64 A, .int .i64 D, .int .i64 lo, .int .i64 hi], .agg #[.int .i64 p, .int .i64 v], .int .i64 x, .int .i64 t, .int .i64 u, .int .i64 s, .int .i64 y] w fun e w' => e = .returned (.bool true) ∧ Below w.heap.size w w' := by
  have hL : WideL ⟨V, A, D, lo, hi⟩ := ⟨wide u0, wide u1, wide u2, wide u3, wide u4⟩
  by_cases hr : RightL ⟨V, A, D, lo, hi⟩
  · by_cases hs : SafeP ⟨V, A, D, lo, hi⟩ p v
    · exact yes V A D lo hi p v x t u s y w hL (wide g0) (wide g1) (wide g2) (wide g3) (wide g4) (wide g5) (wide g6) hr hs
    · exact noSafe V A D lo hi p v x t u s y w hL (wide g0) (wide g1) (wide g2) (wide g3) (wide g4) (wide g5) (wide g6) hr hs
  · exact noRight V A D lo hi p v x t u s y w hL (wide g0) (wide g1) (wide g2) (wide g3) (wide g4) (wide g5) (wide g6) hr
end Go.Proofs.Ytmfigpjofakdnaa.genRight
