/- The walk of the law FramePuts: for anything that is told or that a drive tells it returns true, and what was in memory is as it was. -/
import Derived.Test.YtbecbiglinkijaaTGot
namespace Go.Proofs.Ytbecbiglinkijaa.framePuts
open Go.ChangeShapes Go.WideShapes Go.ChangeAt Go.RowKit Go.Proofs.Ytbecbiglinkijaa.s Go.Proofs.Ytbecbiglinkijaa.t Go.Proofs.Ytbecbiglinkijaa
set_option linter.unusedVariables false

set_option maxHeartbeats 1000000 in
theorem walk (f0 f1 f2 s0 s1 s2 : Int) (w : World) (x0 : (Lit.int .i64 f0).wf = true) (x1 : (Lit.int .i64 f1).wf = true) (x2 : (Lit.int .i64 f2).wf = true) (y0 : (Lit.int .i64 s0).wf = true) (y1 : (Lit.int .i64 s1).wf = true) (y2 : (Lit.int .i64 s2).wf = true) :
    Calls Try.prog 3 #[.agg #[.int .i64 f0, .int .i64 f1, .int .i64 f2], .agg #[.int .i64 s0, .int .i64 s1, .int .i64 s2]] w fun e w' => e = .returned (.bool true) ∧ Below w.heap.size w w' := by
  clear x0 x1 x2 y0 y1 y2
  obtain ⟨L1, n1, E1, hn1, hl1, p1, r1⟩ := feed_got f0 f1 f2
  obtain ⟨L2, n2, E2, hn2, hl2, p2, r2⟩ := set_got s0 s1 s2
  have P1 := Lib.hid p1
  have R1 := Lib.hid r1
  have P2 := Lib.hid p2
  have R2 := Lib.hid r2
  have N1 := Lib.hid hn1
  have N2 := Lib.hid hn2
  have M1 := Lib.hid hl1
  have M2 := Lib.hid hl2
  have S1 := Lib.hid (same_self L1)
  have S2 := Lib.hid (same_self L2)
  clear p1 r1 p2 r2 hn1 hn2 hl1 hl2
  go_enter Try.func3, Try.ntmps3
  go_wp2_with (first
    | (go_at_call 7; ((with_reducible refine (awake_any _).mono ?_); rintro e w1 ⟨rfl, hb1⟩; have HB1 := Lib.hid hb1; have ⟨c1, c2, _, _, _⟩ := boxes2 hb1; clear hb1))
    | (go_at_call 8; ((with_reducible refine (P1.out _).mono ?_); rintro e w2 ⟨A2, cap2, rfl, hB2, _, _, hb2⟩; have HB2 := Lib.hid (HB1.out.trans (hb2.mono HB1.out.size)); have BY2 := Lib.hid hB2; clear c1 c2 hB2 hb2; have ⟨c1, c2, _, _, _⟩ := boxes2 HB2.out))
    | (go_at_call 9; ((with_reducible refine (R1.out _).mono ?_); rintro e w3 ⟨A3, cap3, rfl, hB3, _, _, hb3⟩; have HB3 := Lib.hid (HB2.out.trans (hb3.mono HB2.out.size)); have BY3 := Lib.hid hB3; have BY2' := Lib.hid (BY2.out.below hb3); clear c1 c2 hB3 hb3; have ⟨c1, c2, _, _, _⟩ := boxes2 HB3.out))
    | (go_at_call 10; ((with_reducible refine (same_any L1 L1 n1 n1 N1.out N1.out M1.out M1.out _ _ A2 A3 cap2 cap3 _ BY2'.out BY3.out).mono ?_); rintro e w' ⟨rfl, q4, rfl⟩; rw [S1.out]))
    | (go_at_call 11; ((with_reducible refine (P2.out _).mono ?_); rintro e w5 ⟨A5, cap5, rfl, hB5, _, _, hb5⟩; have HB5 := Lib.hid ((below_drewN HB3.out q4).trans (hb5.mono (below_drewN HB3.out q4).size)); have BY5 := Lib.hid hB5; clear c1 c2 hB5 hb5; have ⟨c1, c2, _, _, _⟩ := boxes2 HB5.out))
    | (go_at_call 9; ((with_reducible refine (R2.out _).mono ?_); rintro e w6 ⟨A6, cap6, rfl, hB6, _, _, hb6⟩; have HB6 := Lib.hid (HB5.out.trans (hb6.mono HB5.out.size)); have BY6 := Lib.hid hB6; have BY5' := Lib.hid (BY5.out.below hb6); clear c1 c2 hB6 hb6; have ⟨c1, c2, hf6, _, _⟩ := boxes2 HB6.out; have HF6 := Lib.hid hf6; clear hf6))
    | (go_at_call 10; ((with_reducible refine (same_any L2 L2 n2 n2 N2.out N2.out M2.out M2.out _ _ A5 A6 cap5 cap6 _ BY5'.out BY6.out).mono ?_); rintro e w' ⟨rfl, q7, rfl⟩; rw [S2.out])))
  go_ret
  exact ⟨rfl, below_drewN HF6.out _⟩
end Go.Proofs.Ytbecbiglinkijaa.framePuts
