/- Stage 5's fixed answer. No condition. -/
import Derived.Test.YtfekfdemaldeiaaVBounce
namespace Go.Proofs.Ytfekfdemaldeiaa.v
open Go.ChangeShapes Go.WideShapes Go.ChangeAt Go.RowKit Go.Proofs.Ytfekfdemaldeiaa.k
set_option linter.unusedVariables false

theorem awake_any (w : World) :
    Calls Try.prog 6 #[] w fun e w' => e = .returned (.bool true) ∧ Below w.heap.size w w' := by
  have HN := Lib.hid fun W => new_yes 2 false (by decide) (by decide) W
  have S1 := Lib.hid fun W => (show Calls Try.prog 9 #[.agg #[.int .i64 2, .bool false, .int .i64 0], .bool true] W fun e w' => e = .returned (.agg #[.int .i64 2, .bool false, .int .i64 1]) ∧ Below W.heap.size W w' from step_ok 2 false 0 true (by decide) W)
  have S2 := Lib.hid fun W => (show Calls Try.prog 9 #[.agg #[.int .i64 2, .bool false, .int .i64 1], .bool true] W fun e w' => e = .returned (.agg #[.int .i64 2, .bool true, .int .i64 0]) ∧ Below W.heap.size W w' from step_ok 2 false 1 true (by decide) W)
  go_enter Try.func6, Try.ntmps6
  go_wp2_with (first
    | (go_at_call 7; ((with_reducible refine (HN.out _).mono ?_); rintro e w1 ⟨rfl, hb⟩; have HB1 := Lib.hid hb; clear hb))
    | (go_at_call 9; ((with_reducible refine (S1.out _).mono ?_); rintro e w2 ⟨rfl, hb⟩; obtain ⟨bx, hW, hz2⟩ := boxes1 hb; have HB2 := Lib.hid (HB1.out.trans (hW.mono HB1.out.size)); have X2 := Lib.hid bx; obtain ⟨c0, f0, c1, f1, c2, f2, _⟩ := bx; clear hb hW))
    | (go_at_call 9; ((with_reducible refine (S2.out _).mono ?_); rintro e w3 ⟨rfl, hb⟩; obtain ⟨by', hW, hz3⟩ := boxes1 hb; have HB3 := Lib.hid (HB2.out.trans (hW.mono HB2.out.size)); obtain ⟨d0, g0, d1, g1, d2, g2, _⟩ := by'; clear hb hW c0 f0 c1 f1 c2 f2)))
  go_ret
  exact ⟨rfl, HB3.out.alloc HB3.out.size _⟩
end Go.Proofs.Ytfekfdemaldeiaa.v
