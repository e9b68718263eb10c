/- The walk of the law FrameBack: for anything that is told or that a drive tells it returns true, and what was in memory is as it was. -/
import Derived.Test.YtbecbiglinkijaaTGot
namespace Go.Proofs.Ytbecbiglinkijaa.frameBack
open Go.ChangeShapes Go.WideShapes Go.ChangeAt Go.RowKit Go.Proofs.Ytbecbiglinkijaa.s Go.Proofs.Ytbecbiglinkijaa.t Go.Proofs.Ytbecbiglinkijaa
set_option linter.unusedVariables false

set_option maxHeartbeats 2000000 in
theorem walk (f0 f1 f2 s0 s1 s2 : Int) (w : World) (x0 : (Lit.int .i64 f0).wf = true) (x1 : (Lit.int .i64 f1).wf = true) (x2 : (Lit.int .i64 f2).wf = true) (y0 : (Lit.int .i64 s0).wf = true) (y1 : (Lit.int .i64 s1).wf = true) (y2 : (Lit.int .i64 s2).wf = true) :
    Calls Try.prog 5 #[.agg #[.int .i64 f0, .int .i64 f1, .int .i64 f2], .agg #[.int .i64 s0, .int .i64 s1, .int .i64 s2]] w fun e w' => e = .returned (.bool true) ∧ Below w.heap.size w w' := by
  have b1 := Lib.hid (wf64 x2)
  have b2 := Lib.hid (wf64 y2)
  clear x0 x1 x2 y0 y1 y2
  rcases put_cases 127 f0 f1 (by decide) with h1 | ⟨sq1, wd1, rfl, rfl, hm1⟩
  · have P1 := Lib.hid fun W => feed_no f0 f1 f2 h1 W
    clear h1
    rcases put_cases 7 s0 s1 (by decide) with h2 | ⟨sq2, wd2, rfl, rfl, hm2⟩
    · have P2 := Lib.hid fun W => set_no s0 s1 s2 h2 W
      clear h2
      go_enter Try.func5, Try.ntmps5
      go_wp2_with (first
        | (go_at_call 7; ((with_reducible refine (awake_any _).mono ?_); rintro e w1 ⟨rfl, hb1⟩; have HB1 := Lib.hid hb1; have ⟨c1, c2, _, _, _⟩ := boxes2 hb1; clear hb1))
        | (go_at_call 8; ((with_reducible refine (P1.out _).mono ?_); rintro e w2 ⟨A2, cap2, rfl, _, hb⟩; have HB2 := Lib.hid (after HB1.out (by repeat (first | exact Below.refl _ _ | (refine Below.setCell ?_ HB1.out.size _) | (refine Below.alloc ?_ HB1.out.size _))) hb); clear hb; clear c1 c2; have ⟨c1, c2, _, hzHB2, hyHB2⟩ := boxes2 HB2.out))
        | (go_at_call 11; ((with_reducible refine (P2.out _).mono ?_); rintro e w3 ⟨A3, cap3, rfl, _, hb⟩; have HB3 := Lib.hid (after HB2.out (by repeat (first | exact Below.refl _ _ | (refine Below.setCell ?_ HB2.out.size _) | (refine Below.alloc ?_ HB2.out.size _))) hb); clear hb; clear c1 c2; have ⟨c1, c2, _, hzHB3, hyHB3⟩ := boxes2 HB3.out)))
      have HF := Lib.hid (boxes2 HB3.out).2.2.1
      go_ret
      refine ⟨rfl, ?_⟩
      repeat (first | exact HF.out | (refine Below.setCell ?_ HF.out.size _) | (refine Below.alloc ?_ HF.out.size _))
    · have hS := b2.out
      have P2 := Lib.hid fun W => set_yes sq2 wd2 s2 hm2 W
      have RF2 := Lib.hid (set_back sq2 wd2 s2 hm2 hS.1 hS.2)
      have RO2 := Lib.hid (set_other sq2 wd2 (place64 s2))
      clear hS hm2
      go_enter Try.func5, Try.ntmps5
      go_wp2_with (first
        | (go_at_call 7; ((with_reducible refine (awake_any _).mono ?_); rintro e w1 ⟨rfl, hb1⟩; have HB1 := Lib.hid hb1; have ⟨c1, c2, _, _, _⟩ := boxes2 hb1; clear hb1))
        | (go_at_call 8; ((with_reducible refine (P1.out _).mono ?_); rintro e w2 ⟨A2, cap2, rfl, _, hb⟩; have HB2 := Lib.hid (after HB1.out (by repeat (first | exact Below.refl _ _ | (refine Below.setCell ?_ HB1.out.size _) | (refine Below.alloc ?_ HB1.out.size _))) hb); clear hb; clear c1 c2; have ⟨c1, c2, _, hzHB2, hyHB2⟩ := boxes2 HB2.out))
        | (go_at_call 11; ((with_reducible refine (P2.out _).mono ?_); rintro e w3 ⟨A3, cap3, rfl, hB, hca, hma, hb⟩; have HB3 := Lib.hid (after HB2.out (by repeat (first | exact Below.refl _ _ | (refine Below.setCell ?_ HB2.out.size _) | (refine Below.alloc ?_ HB2.out.size _))) hb); have BY3 := Lib.hid hB; have CA3 := Lib.hid (And.intro hca hma); clear hb hB hca hma; clear c1 c2; have ⟨c1, c2, _, hzHB3, hyHB3⟩ := boxes2 HB3.out))
        | (go_at_call 14; ((with_reducible refine (RF2.out _ A3 cap3 CA3.out.1 CA3.out.2 w3 BY3.out (Nat.le_refl _)).mono ?_); rintro e w4 ⟨rfl, hb⟩; have HB4 := Lib.hid (HB3.out.trans (hb.mono HB3.out.size)); have BY4 := Lib.hid (BY3.out.below hb); have Z4 := Lib.hid hb.size; clear hb; clear c1 c2; have ⟨c1, c2, _, hzHB4, hyHB4⟩ := boxes2 HB4.out))
        | (go_at_call 12; ((with_reducible refine (RO2.out _ A3 cap3 CA3.out.1 CA3.out.2 _ (BY4.out.below (by repeat (first | exact Below.refl _ _ | (refine Below.setCell ?_ Z4.out _) | (refine Below.alloc ?_ Z4.out _)))) (by simp; have := Z4.out; omega)).mono ?_); rintro e w5 ⟨rfl, hb⟩; have j0 : w5.cell? ⟨w4.heap.size, 0, none⟩ = some (.int .i64 (v8 sq2)) := (hb.cell (p := ⟨w4.heap.size, 0, none⟩) (by simp)).trans (by simp [go_sem]); have j1 : w5.cell? ⟨w4.heap.size, 1, none⟩ = some (.int .i64 (v8 wd2)) := (hb.cell (p := ⟨w4.heap.size, 1, none⟩) (by simp)).trans (by simp [go_sem]); have j2 : w5.cell? ⟨w4.heap.size, 2, none⟩ = some (.int .i64 (s2)) := (hb.cell (p := ⟨w4.heap.size, 2, none⟩) (by simp)).trans (by simp [go_sem]); have hv5 : w4.heap.size < w5.heap.size := (by have := hb.size; simp at this; omega); have HB5 := Lib.hid (after HB4.out (by repeat (first | exact Below.refl _ _ | (refine Below.setCell ?_ HB4.out.size _) | (refine Below.alloc ?_ HB4.out.size _))) hb); clear hb; clear c1 c2; have ⟨c1, c2, _, hzHB5, hyHB5⟩ := boxes2 HB5.out)))
      have HF := Lib.hid (boxes2 HB5.out).2.2.1
      go_ret
      refine ⟨rfl, ?_⟩
      repeat (first | exact HF.out | (refine Below.setCell ?_ HF.out.size _) | (refine Below.alloc ?_ HF.out.size _))
  · have hF := b1.out
    have P1 := Lib.hid fun W => feed_yes sq1 wd1 f2 hm1 W
    have RF1 := Lib.hid (feed_back sq1 wd1 f2 hm1 hF.1 hF.2)
    have RO1 := Lib.hid (feed_other sq1 wd1 (place64 f2))
    clear hF hm1
    rcases put_cases 7 s0 s1 (by decide) with h2 | ⟨sq2, wd2, rfl, rfl, hm2⟩
    · have P2 := Lib.hid fun W => set_no s0 s1 s2 h2 W
      clear h2
      go_enter Try.func5, Try.ntmps5
      go_wp2_with (first
        | (go_at_call 7; ((with_reducible refine (awake_any _).mono ?_); rintro e w1 ⟨rfl, hb1⟩; have HB1 := Lib.hid hb1; have ⟨c1, c2, _, _, _⟩ := boxes2 hb1; clear hb1))
        | (go_at_call 8; ((with_reducible refine (P1.out _).mono ?_); rintro e w2 ⟨A2, cap2, rfl, hB, hca, hma, hb⟩; have HB2 := Lib.hid (after HB1.out (by repeat (first | exact Below.refl _ _ | (refine Below.setCell ?_ HB1.out.size _) | (refine Below.alloc ?_ HB1.out.size _))) hb); have BY2 := Lib.hid hB; have CA2 := Lib.hid (And.intro hca hma); clear hb hB hca hma; clear c1 c2; have ⟨c1, c2, _, hzHB2, hyHB2⟩ := boxes2 HB2.out))
        | (go_at_call 12; ((with_reducible refine (RF1.out _ A2 cap2 CA2.out.1 CA2.out.2 w2 BY2.out (Nat.le_refl _)).mono ?_); rintro e w3 ⟨rfl, hb⟩; have HB3 := Lib.hid (HB2.out.trans (hb.mono HB2.out.size)); have BY3 := Lib.hid (BY2.out.below hb); have Z3 := Lib.hid hb.size; clear hb; clear c1 c2; have ⟨c1, c2, _, hzHB3, hyHB3⟩ := boxes2 HB3.out))
        | (go_at_call 14; ((with_reducible refine (RO1.out _ A2 cap2 CA2.out.1 CA2.out.2 _ (BY3.out.below (by repeat (first | exact Below.refl _ _ | (refine Below.setCell ?_ Z3.out _) | (refine Below.alloc ?_ Z3.out _)))) (by simp; have := Z3.out; omega)).mono ?_); rintro e w4 ⟨rfl, hb⟩; have j0 : w4.cell? ⟨w3.heap.size, 0, none⟩ = some (.int .i64 (v8 sq1)) := (hb.cell (p := ⟨w3.heap.size, 0, none⟩) (by simp)).trans (by simp [go_sem]); have j1 : w4.cell? ⟨w3.heap.size, 1, none⟩ = some (.int .i64 (v8 wd1)) := (hb.cell (p := ⟨w3.heap.size, 1, none⟩) (by simp)).trans (by simp [go_sem]); have j2 : w4.cell? ⟨w3.heap.size, 2, none⟩ = some (.int .i64 (f2)) := (hb.cell (p := ⟨w3.heap.size, 2, none⟩) (by simp)).trans (by simp [go_sem]); have hv4 : w3.heap.size < w4.heap.size := (by have := hb.size; simp at this; omega); have HB4 := Lib.hid (after HB3.out (by repeat (first | exact Below.refl _ _ | (refine Below.setCell ?_ HB3.out.size _) | (refine Below.alloc ?_ HB3.out.size _))) hb); clear hb; clear c1 c2; have ⟨c1, c2, _, hzHB4, hyHB4⟩ := boxes2 HB4.out))
        | (go_at_call 11; ((with_reducible refine (P2.out _).mono ?_); rintro e w5 ⟨A5, cap5, rfl, _, hb⟩; have HB5 := Lib.hid (after HB4.out (by repeat (first | exact Below.refl _ _ | (refine Below.setCell ?_ HB4.out.size _) | (refine Below.alloc ?_ HB4.out.size _))) hb); clear hb; clear c1 c2; have ⟨c1, c2, _, hzHB5, hyHB5⟩ := boxes2 HB5.out)))
      have HF := Lib.hid (boxes2 HB5.out).2.2.1
      go_ret
      refine ⟨rfl, ?_⟩
      repeat (first | exact HF.out | (refine Below.setCell ?_ HF.out.size _) | (refine Below.alloc ?_ HF.out.size _))
    · have hS := b2.out
      have P2 := Lib.hid fun W => set_yes sq2 wd2 s2 hm2 W
      have RF2 := Lib.hid (set_back sq2 wd2 s2 hm2 hS.1 hS.2)
      have RO2 := Lib.hid (set_other sq2 wd2 (place64 s2))
      clear hS hm2
      go_enter Try.func5, Try.ntmps5
      go_wp2_with (first
        | (go_at_call 7; ((with_reducible refine (awake_any _).mono ?_); rintro e w1 ⟨rfl, hb1⟩; have HB1 := Lib.hid hb1; have ⟨c1, c2, _, _, _⟩ := boxes2 hb1; clear hb1))
        | (go_at_call 8; ((with_reducible refine (P1.out _).mono ?_); rintro e w2 ⟨A2, cap2, rfl, hB, hca, hma, hb⟩; have HB2 := Lib.hid (after HB1.out (by repeat (first | exact Below.refl _ _ | (refine Below.setCell ?_ HB1.out.size _) | (refine Below.alloc ?_ HB1.out.size _))) hb); have BY2 := Lib.hid hB; have CA2 := Lib.hid (And.intro hca hma); clear hb hB hca hma; clear c1 c2; have ⟨c1, c2, _, hzHB2, hyHB2⟩ := boxes2 HB2.out))
        | (go_at_call 12; ((with_reducible refine (RF1.out _ A2 cap2 CA2.out.1 CA2.out.2 w2 BY2.out (Nat.le_refl _)).mono ?_); rintro e w3 ⟨rfl, hb⟩; have HB3 := Lib.hid (HB2.out.trans (hb.mono HB2.out.size)); have BY3 := Lib.hid (BY2.out.below hb); have Z3 := Lib.hid hb.size; clear hb; clear c1 c2; have ⟨c1, c2, _, hzHB3, hyHB3⟩ := boxes2 HB3.out))
        | (go_at_call 14; ((with_reducible refine (RO1.out _ A2 cap2 CA2.out.1 CA2.out.2 _ (BY3.out.below (by repeat (first | exact Below.refl _ _ | (refine Below.setCell ?_ Z3.out _) | (refine Below.alloc ?_ Z3.out _)))) (by simp; have := Z3.out; omega)).mono ?_); rintro e w4 ⟨rfl, hb⟩; have j0 : w4.cell? ⟨w3.heap.size, 0, none⟩ = some (.int .i64 (v8 sq1)) := (hb.cell (p := ⟨w3.heap.size, 0, none⟩) (by simp)).trans (by simp [go_sem]); have j1 : w4.cell? ⟨w3.heap.size, 1, none⟩ = some (.int .i64 (v8 wd1)) := (hb.cell (p := ⟨w3.heap.size, 1, none⟩) (by simp)).trans (by simp [go_sem]); have j2 : w4.cell? ⟨w3.heap.size, 2, none⟩ = some (.int .i64 (f2)) := (hb.cell (p := ⟨w3.heap.size, 2, none⟩) (by simp)).trans (by simp [go_sem]); have hv4 : w3.heap.size < w4.heap.size := (by have := hb.size; simp at this; omega); have HB4 := Lib.hid (after HB3.out (by repeat (first | exact Below.refl _ _ | (refine Below.setCell ?_ HB3.out.size _) | (refine Below.alloc ?_ HB3.out.size _))) hb); clear hb; clear c1 c2; have ⟨c1, c2, _, hzHB4, hyHB4⟩ := boxes2 HB4.out))
        | (go_at_call 11; ((with_reducible refine (P2.out _).mono ?_); rintro e w5 ⟨A5, cap5, rfl, hB, hca, hma, hb⟩; have HB5 := Lib.hid (after HB4.out (by repeat (first | exact Below.refl _ _ | (refine Below.setCell ?_ HB4.out.size _) | (refine Below.alloc ?_ HB4.out.size _))) hb); have BY5 := Lib.hid hB; have CA5 := Lib.hid (And.intro hca hma); clear hb hB hca hma; clear c1 c2; have ⟨c1, c2, _, hzHB5, hyHB5⟩ := boxes2 HB5.out))
        | (go_at_call 14; ((with_reducible refine (RF2.out _ A5 cap5 CA5.out.1 CA5.out.2 w5 BY5.out (Nat.le_refl _)).mono ?_); rintro e w6 ⟨rfl, hb⟩; have HB6 := Lib.hid (HB5.out.trans (hb.mono HB5.out.size)); have BY6 := Lib.hid (BY5.out.below hb); have Z6 := Lib.hid hb.size; clear hb; clear c1 c2; have ⟨c1, c2, _, hzHB6, hyHB6⟩ := boxes2 HB6.out))
        | (go_at_call 12; ((with_reducible refine (RO2.out _ A5 cap5 CA5.out.1 CA5.out.2 _ (BY6.out.below (by repeat (first | exact Below.refl _ _ | (refine Below.setCell ?_ Z6.out _) | (refine Below.alloc ?_ Z6.out _)))) (by simp; have := Z6.out; omega)).mono ?_); rintro e w7 ⟨rfl, hb⟩; have j0 : w7.cell? ⟨w6.heap.size, 0, none⟩ = some (.int .i64 (v8 sq2)) := (hb.cell (p := ⟨w6.heap.size, 0, none⟩) (by simp)).trans (by simp [go_sem]); have j1 : w7.cell? ⟨w6.heap.size, 1, none⟩ = some (.int .i64 (v8 wd2)) := (hb.cell (p := ⟨w6.heap.size, 1, none⟩) (by simp)).trans (by simp [go_sem]); have j2 : w7.cell? ⟨w6.heap.size, 2, none⟩ = some (.int .i64 (s2)) := (hb.cell (p := ⟨w6.heap.size, 2, none⟩) (by simp)).trans (by simp [go_sem]); have hv7 : w6.heap.size < w7.heap.size := (by have := hb.size; simp at this; omega); have HB7 := Lib.hid (after HB6.out (by repeat (first | exact Below.refl _ _ | (refine Below.setCell ?_ HB6.out.size _) | (refine Below.alloc ?_ HB6.out.size _))) hb); clear hb; clear c1 c2; have ⟨c1, c2, _, hzHB7, hyHB7⟩ := boxes2 HB7.out)))
      have HF := Lib.hid (boxes2 HB7.out).2.2.1
      go_ret
      refine ⟨rfl, ?_⟩
      repeat (first | exact HF.out | (refine Below.setCell ?_ HF.out.size _) | (refine Below.alloc ?_ HF.out.size _))
end Go.Proofs.Ytbecbiglinkijaa.frameBack
