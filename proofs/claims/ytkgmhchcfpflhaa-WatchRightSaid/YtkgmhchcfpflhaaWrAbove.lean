/- The walk of the law WatchRight, of a limit that is too great. No condition but that the program and the reference answer the same of the watch and the bytes. -/
import Derived.Test.YtkgmhchcfpflhaaWrSame
namespace Go.Proofs.Ytkgmhchcfpflhaa.watchRight
open Go.ChangeShapes Go.WideShapes Go.ChangeAt Go.RowKit Go.Proofs.Ytkgmhchcfpflhaa.s Go.Proofs.Ytkgmhchcfpflhaa.t Go.Proofs.Ytkgmhchcfpflhaa.u Go.Proofs.Ytkgmhchcfpflhaa
set_option linter.unusedVariables false

set_option maxRecDepth 100000 in
set_option maxHeartbeats 4000000 in
theorem leafAbove (a0 m0 m1 m2 : Int) (a2 : Option Addr) (L0 cap2 : Nat) (hcap0 : L0 ≤ cap2) (hmax0 : cap2 ≤ 2 ^ 63 - 1) (w : World) (y0 y1 y2 f0 f1 f2 : Int) (ok : Bool)
    (cp : Agree m0 m1 m2 a2 (min (L0 : Int) 40).toNat cap2 w y0 y1 y2 f0 f1 f2 ok 8) (cr : Agree m0 m1 m2 a2 (min (L0 : Int) 40).toNat cap2 w y0 y1 y2 f0 f1 f2 ok 9)
    (h1 : 1 ≤ a0) (h2 : ¬ a0 ≤ 100) : Holds a0 m0 m1 m2 a2 L0 cap2 w := by
  unfold Agree at cp cr
  unfold Holds
  have CP := Lib.hid cp
  have CR := Lib.hid cr
  clear cp cr
  have HN := Lib.hid fun W => new_no a0 (.inr (by omega)) W
  go_enter Try.func3, Try.ntmps3
  go_upto_region 10 with (first
    | (go_at_call 6; ((with_reducible refine (awake_any _).mono ?_); rintro e w1 ⟨rfl, hb⟩; have hsw1 := hb.size; (try simp at hsw1); have w1a0 : w1.cell? ⟨w.heap.size, 0, none⟩ = some (.int .i64 m0) := (hb.cell (p := ⟨w.heap.size, 0, none⟩) (by simp; try omega)).trans (by simp [go_sem]); have zw1a0 : w1.frozen? ⟨w.heap.size, 0, none⟩ = false := (hb.frozen (p := ⟨w.heap.size, 0, none⟩) (by simp; try omega)).trans (by simp [go_sem]); have w1a1 : w1.cell? ⟨w.heap.size, 1, none⟩ = some (.int .i64 m1) := (hb.cell (p := ⟨w.heap.size, 1, none⟩) (by simp; try omega)).trans (by simp [go_sem]); have zw1a1 : w1.frozen? ⟨w.heap.size, 1, none⟩ = false := (hb.frozen (p := ⟨w.heap.size, 1, none⟩) (by simp; try omega)).trans (by simp [go_sem]); have w1a2 : w1.cell? ⟨w.heap.size, 2, none⟩ = some (.int .i64 m2) := (hb.cell (p := ⟨w.heap.size, 2, none⟩) (by simp; try omega)).trans (by simp [go_sem]); have zw1a2 : w1.frozen? ⟨w.heap.size, 2, none⟩ = false := (hb.frozen (p := ⟨w.heap.size, 2, none⟩) (by simp; try omega)).trans (by simp [go_sem]); have HBw1 : Hid (Below w.heap.size w w1) := Lib.hid (boxes1 hb).2.1; have q1 : w.heap.size < w1.heap.size := (boxes1 hb).2.2; clear hb))
    | (go_at_call 7; ((with_reducible refine (HN.out _).mono ?_); rintro e w2 ⟨rfl, hb⟩; have hsw2 := hb.size; (try simp at hsw2); have w2a0 : w2.cell? ⟨w.heap.size, 0, none⟩ = some (.int .i64 m0) := (hb.cell (p := ⟨w.heap.size, 0, none⟩) (by simp; try omega)).trans (by simp [go_sem, w1a0]); have zw2a0 : w2.frozen? ⟨w.heap.size, 0, none⟩ = false := (hb.frozen (p := ⟨w.heap.size, 0, none⟩) (by simp; try omega)).trans (by simp [go_sem, zw1a0]); have w2a1 : w2.cell? ⟨w.heap.size, 1, none⟩ = some (.int .i64 m1) := (hb.cell (p := ⟨w.heap.size, 1, none⟩) (by simp; try omega)).trans (by simp [go_sem, w1a1]); have zw2a1 : w2.frozen? ⟨w.heap.size, 1, none⟩ = false := (hb.frozen (p := ⟨w.heap.size, 1, none⟩) (by simp; try omega)).trans (by simp [go_sem, zw1a1]); have w2a2 : w2.cell? ⟨w.heap.size, 2, none⟩ = some (.int .i64 m2) := (hb.cell (p := ⟨w.heap.size, 2, none⟩) (by simp; try omega)).trans (by simp [go_sem, w1a2]); have zw2a2 : w2.frozen? ⟨w.heap.size, 2, none⟩ = false := (hb.frozen (p := ⟨w.heap.size, 2, none⟩) (by simp; try omega)).trans (by simp [go_sem, zw1a2]); have HBw2 : Hid (Below w.heap.size w w2) := Lib.hid (after HBw1.out (Below.refl _ _) hb); clear hb; clear w1a0 zw1a0 w1a1 zw1a1 w1a2 zw1a2; have q2 : w.heap.size < w2.heap.size := (by omega)))
    | (go_at_call 8; ((with_reducible refine (CP.out _ (by repeat (first | exact HBw2.out | (refine Below.setCell ?_ (by first | exact HBw2.out.size | (simp; have := HBw2.out.size; omega)) _) | (refine Below.alloc ?_ (by first | exact HBw2.out.size | (simp; have := HBw2.out.size; omega)) _)))).mono ?_); rintro e w3 ⟨rfl, hb⟩; have hsw3 := hb.size; (try simp at hsw3); have w3a0 : w3.cell? ⟨w.heap.size, 0, none⟩ = some (.int .i64 m0) := (hb.cell (p := ⟨w.heap.size, 0, none⟩) (by simp; try omega)).trans (by simp [go_sem, w2a0, q2]); have zw3a0 : w3.frozen? ⟨w.heap.size, 0, none⟩ = false := (hb.frozen (p := ⟨w.heap.size, 0, none⟩) (by simp; try omega)).trans (by simp [go_sem, zw2a0, q2]); have w3a1 : w3.cell? ⟨w.heap.size, 1, none⟩ = some (.int .i64 m1) := (hb.cell (p := ⟨w.heap.size, 1, none⟩) (by simp; try omega)).trans (by simp [go_sem, w2a1, q2]); have zw3a1 : w3.frozen? ⟨w.heap.size, 1, none⟩ = false := (hb.frozen (p := ⟨w.heap.size, 1, none⟩) (by simp; try omega)).trans (by simp [go_sem, zw2a1, q2]); have w3a2 : w3.cell? ⟨w.heap.size, 2, none⟩ = some (.int .i64 m2) := (hb.cell (p := ⟨w.heap.size, 2, none⟩) (by simp; try omega)).trans (by simp [go_sem, w2a2, q2]); have zw3a2 : w3.frozen? ⟨w.heap.size, 2, none⟩ = false := (hb.frozen (p := ⟨w.heap.size, 2, none⟩) (by simp; try omega)).trans (by simp [go_sem, zw2a2, q2]); have HBw3 : Hid (Below w.heap.size w w3) := Lib.hid (after HBw2.out (by repeat (first | exact Below.refl _ _ | (refine Below.setCell ?_ (by first | exact HBw2.out.size | (simp; have := HBw2.out.size; omega)) _) | (refine Below.alloc ?_ (by first | exact HBw2.out.size | (simp; have := HBw2.out.size; omega)) _))) hb); clear hb; clear w2a0 zw2a0 w2a1 zw2a1 w2a2 zw2a2; have q3 : w.heap.size < w3.heap.size := (by omega); have q3b : w.heap.size < w3.heap.size + 1 := (by omega)))
    | (go_at_call 9; ((with_reducible refine (CR.out _ (by repeat (first | exact HBw3.out | (refine Below.setCell ?_ (by first | exact HBw3.out.size | (simp; have := HBw3.out.size; omega)) _) | (refine Below.alloc ?_ (by first | exact HBw3.out.size | (simp; have := HBw3.out.size; omega)) _)))).mono ?_); rintro e w4 ⟨rfl, hb⟩; have hsw4 := hb.size; (try simp at hsw4); have w4a0 : w4.cell? ⟨w.heap.size, 0, none⟩ = some (.int .i64 m0) := (hb.cell (p := ⟨w.heap.size, 0, none⟩) (by simp; try omega)).trans (by simp [go_sem, w3a0, q3, q3b]); have zw4a0 : w4.frozen? ⟨w.heap.size, 0, none⟩ = false := (hb.frozen (p := ⟨w.heap.size, 0, none⟩) (by simp; try omega)).trans (by simp [go_sem, zw3a0, q3, q3b]); have w4a1 : w4.cell? ⟨w.heap.size, 1, none⟩ = some (.int .i64 m1) := (hb.cell (p := ⟨w.heap.size, 1, none⟩) (by simp; try omega)).trans (by simp [go_sem, w3a1, q3, q3b]); have zw4a1 : w4.frozen? ⟨w.heap.size, 1, none⟩ = false := (hb.frozen (p := ⟨w.heap.size, 1, none⟩) (by simp; try omega)).trans (by simp [go_sem, zw3a1, q3, q3b]); have w4a2 : w4.cell? ⟨w.heap.size, 2, none⟩ = some (.int .i64 m2) := (hb.cell (p := ⟨w.heap.size, 2, none⟩) (by simp; try omega)).trans (by simp [go_sem, w3a2, q3, q3b]); have zw4a2 : w4.frozen? ⟨w.heap.size, 2, none⟩ = false := (hb.frozen (p := ⟨w.heap.size, 2, none⟩) (by simp; try omega)).trans (by simp [go_sem, zw3a2, q3, q3b]); have w4y0 : w4.cell? ⟨w3.heap.size, 0, none⟩ = some (.int .i64 y0) := (hb.cell (p := ⟨w3.heap.size, 0, none⟩) (by simp; try omega)).trans (by simp [go_sem]); have zw4y0 : w4.frozen? ⟨w3.heap.size, 0, none⟩ = false := (hb.frozen (p := ⟨w3.heap.size, 0, none⟩) (by simp; try omega)).trans (by simp [go_sem]); have w4y1 : w4.cell? ⟨w3.heap.size, 1, none⟩ = some (.int .i64 y1) := (hb.cell (p := ⟨w3.heap.size, 1, none⟩) (by simp; try omega)).trans (by simp [go_sem]); have zw4y1 : w4.frozen? ⟨w3.heap.size, 1, none⟩ = false := (hb.frozen (p := ⟨w3.heap.size, 1, none⟩) (by simp; try omega)).trans (by simp [go_sem]); have w4y2 : w4.cell? ⟨w3.heap.size, 2, none⟩ = some (.int .i64 y2) := (hb.cell (p := ⟨w3.heap.size, 2, none⟩) (by simp; try omega)).trans (by simp [go_sem]); have zw4y2 : w4.frozen? ⟨w3.heap.size, 2, none⟩ = false := (hb.frozen (p := ⟨w3.heap.size, 2, none⟩) (by simp; try omega)).trans (by simp [go_sem]); have w4f0 : w4.cell? ⟨w3.heap.size + 1, 0, none⟩ = some (.int .i64 f0) := (hb.cell (p := ⟨w3.heap.size + 1, 0, none⟩) (by simp; try omega)).trans (by simp [go_sem]); have zw4f0 : w4.frozen? ⟨w3.heap.size + 1, 0, none⟩ = false := (hb.frozen (p := ⟨w3.heap.size + 1, 0, none⟩) (by simp; try omega)).trans (by simp [go_sem]); have w4f1 : w4.cell? ⟨w3.heap.size + 1, 1, none⟩ = some (.int .i64 f1) := (hb.cell (p := ⟨w3.heap.size + 1, 1, none⟩) (by simp; try omega)).trans (by simp [go_sem]); have zw4f1 : w4.frozen? ⟨w3.heap.size + 1, 1, none⟩ = false := (hb.frozen (p := ⟨w3.heap.size + 1, 1, none⟩) (by simp; try omega)).trans (by simp [go_sem]); have w4f2 : w4.cell? ⟨w3.heap.size + 1, 2, none⟩ = some (.int .i64 f2) := (hb.cell (p := ⟨w3.heap.size + 1, 2, none⟩) (by simp; try omega)).trans (by simp [go_sem]); have zw4f2 : w4.frozen? ⟨w3.heap.size + 1, 2, none⟩ = false := (hb.frozen (p := ⟨w3.heap.size + 1, 2, none⟩) (by simp; try omega)).trans (by simp [go_sem]); have HBw4 : Hid (Below w.heap.size w w4) := Lib.hid (after HBw3.out (by repeat (first | exact Below.refl _ _ | (refine Below.setCell ?_ (by first | exact HBw3.out.size | (simp; have := HBw3.out.size; omega)) _) | (refine Below.alloc ?_ (by first | exact HBw3.out.size | (simp; have := HBw3.out.size; omega)) _))) hb); clear hb; clear w3a0 zw3a0 w3a1 zw3a1 w3a2 zw3a2; have q4 : w.heap.size < w4.heap.size := (by omega); have q4b : w.heap.size < w4.heap.size + 1 := (by omega); have q4c : w3.heap.size < w4.heap.size := (by omega); have q4d : w3.heap.size < w4.heap.size + 1 := (by omega); have q4e : w3.heap.size + 1 < w4.heap.size := (by omega); have q4f : w3.heap.size + 1 < w4.heap.size + 1 := (by omega))))
  by_cases hR : RightW m0 m1 m2
  · obtain ⟨r1, r2, r3, r4, r5, r6⟩ := hR
    have hR : RightW m0 m1 m2 := ⟨r1, r2, r3, r4, r5, r6⟩
    have hrp := fun W => u.right_any m0 m1 m2 W
    have hrr := fun W => refright_below m0 m1 m2 W
    rw [right_yes hR] at hrp hrr
    have RP := Lib.hid hrp
    have RR := Lib.hid hrr
    have hov := fun W => over_any m0 m1 m2 W
    clear hrp hrr
    by_cases hml : m1 = m0
    · rw [show overW m0 m1 m2 = true from decide_eq_true (.inr hml)] at hov
      have hge : m0 ≤ m1 := by omega
      have hdec : decide (m0 ≤ m1) = true := decide_eq_true hge
      have OV := Lib.hid hov
      clear hov hR hml
      have hk4 : Mem ((w4.alloc (.cells #[.int .i64 y0, .int .i64 y1, .int .i64 y2] 23)).alloc (.cells #[.int .i64 f0, .int .i64 f1, .int .i64 f2] 30)) [(w.heap.size, 0, .int .i64 m0), (w.heap.size, 1, .int .i64 m1), (w.heap.size, 2, .int .i64 m2), (w3.heap.size, 0, .int .i64 y0), (w3.heap.size, 1, .int .i64 y1), (w3.heap.size, 2, .int .i64 y2), (w3.heap.size + 1, 0, .int .i64 f0), (w3.heap.size + 1, 1, .int .i64 f1), (w3.heap.size + 1, 2, .int .i64 f2), (w4.heap.size, 0, .int .i64 y0), (w4.heap.size, 1, .int .i64 y1), (w4.heap.size, 2, .int .i64 y2), (w4.heap.size + 1, 0, .int .i64 f0), (w4.heap.size + 1, 1, .int .i64 f1), (w4.heap.size + 1, 2, .int .i64 f2)] := by
        refine ⟨?_, ?_, ?_, ?_, ?_, ?_, ?_, ?_, ?_, ?_, ?_, ?_, ?_, ?_, ?_, trivial⟩ <;> simp [go_sem, w4a0, w4a1, w4a2, w4y0, w4y1, w4y2, w4f0, w4f1, w4f2, q4, q4b, q4c, q4d, q4e, q4f]
      have K4 := Lib.hid hk4
      have Z4 : Hid (w4.heap.size + 2 = ((w4.alloc (.cells #[.int .i64 y0, .int .i64 y1, .int .i64 y2] 23)).alloc (.cells #[.int .i64 f0, .int .i64 f1, .int .i64 f2] 30)).heap.size) := Lib.hid (by simp)
      clear hk4
      go_region_held3 (fun w' => w'.cell? ⟨w.heap.size, 0, none⟩ = some (.int .i64 m0) ∧ w'.cell? ⟨w.heap.size, 1, none⟩ = some (.int .i64 m1) ∧ w'.cell? ⟨w.heap.size, 2, none⟩ = some (.int .i64 m2) ∧ w'.cell? ⟨w3.heap.size, 0, none⟩ = some (.int .i64 y0) ∧ w'.cell? ⟨w3.heap.size, 1, none⟩ = some (.int .i64 y1) ∧ w'.cell? ⟨w3.heap.size, 2, none⟩ = some (.int .i64 y2) ∧ w'.cell? ⟨w3.heap.size + 1, 0, none⟩ = some (.int .i64 f0) ∧ w'.cell? ⟨w3.heap.size + 1, 1, none⟩ = some (.int .i64 f1) ∧ w'.cell? ⟨w3.heap.size + 1, 2, none⟩ = some (.int .i64 f2) ∧ w'.cell? ⟨w4.heap.size, 0, none⟩ = some (.int .i64 y0) ∧ w'.cell? ⟨w4.heap.size, 1, none⟩ = some (.int .i64 y1) ∧ w'.cell? ⟨w4.heap.size, 2, none⟩ = some (.int .i64 y2) ∧ w'.cell? ⟨w4.heap.size + 1, 0, none⟩ = some (.int .i64 f0) ∧ w'.cell? ⟨w4.heap.size + 1, 1, none⟩ = some (.int .i64 f1) ∧ w'.cell? ⟨w4.heap.size + 1, 2, none⟩ = some (.int .i64 f2) ∧ w4.heap.size + 1 < w'.heap.size)
        (go_keep)
        (first
          | (go_at_call 10; refine (RP.out _).mono ?_; rintro e w5 ⟨rfl, hb⟩; have hz5 : w4.heap.size + 1 < w5.heap.size := (by have := hb.size; (try simp at this); omega); have K5 := Lib.hid (Mem.below K4.out ((Below.refl _ _).drew.trans hb) (fun x hx => by simp at hx; rcases hx with rfl | rfl | rfl | rfl | rfl | rfl | rfl | rfl | rfl | rfl | rfl | rfl | rfl | rfl | rfl <;> (simp; try omega))); obtain ⟨k5_0, k5_1, k5_2, k5_3, k5_4, k5_5, k5_6, k5_7, k5_8, k5_9, k5_10, k5_11, k5_12, k5_13, k5_14, _⟩ := K5.out; have HB5 : Hid (Below w4.heap.size w4 w5) := Lib.hid (((Below.refl _ _).alloc (by simp) _).alloc (by simp) _).drew.trans (hb.mono (by simp; try omega)); clear hb)
          | (go_at_call 11; refine (RR.out _).mono ?_; rintro e w6 ⟨rfl, hb⟩; have hz6 : w4.heap.size + 1 < w6.heap.size := (by have := hb.size; (try simp at this); omega); have K6 := Lib.hid (Mem.below K5.out hb (fun x hx => by simp at hx; rcases hx with rfl | rfl | rfl | rfl | rfl | rfl | rfl | rfl | rfl | rfl | rfl | rfl | rfl | rfl | rfl <;> (simp; try omega))); obtain ⟨k6_0, k6_1, k6_2, k6_3, k6_4, k6_5, k6_6, k6_7, k6_8, k6_9, k6_10, k6_11, k6_12, k6_13, k6_14, _⟩ := K6.out; have HB6 : Hid (Below w4.heap.size w4 w6) := Lib.hid (HB5.out.trans (hb.mono (by omega))); clear hb; clear k5_0 k5_1 k5_2 k5_3 k5_4 k5_5 k5_6 k5_7 k5_8 k5_9 k5_10 k5_11 k5_12 k5_13 k5_14 hz5)
          | (go_at_call 12; refine (OV.out _).mono ?_; rintro e w7 ⟨rfl, hb⟩; have hz7 : w4.heap.size + 1 < w7.heap.size := (by have := hb.size; (try simp at this); omega); have K7 := Lib.hid (Mem.below K6.out hb (fun x hx => by simp at hx; rcases hx with rfl | rfl | rfl | rfl | rfl | rfl | rfl | rfl | rfl | rfl | rfl | rfl | rfl | rfl | rfl <;> (simp; try omega))); obtain ⟨k7_0, k7_1, k7_2, k7_3, k7_4, k7_5, k7_6, k7_7, k7_8, k7_9, k7_10, k7_11, k7_12, k7_13, k7_14, _⟩ := K7.out; have HB7 : Hid (Below w4.heap.size w4 w7) := Lib.hid (HB6.out.trans (hb.mono (by omega))); clear hb; clear k6_0 k6_1 k6_2 k6_3 k6_4 k6_5 k6_6 k6_7 k6_8 k6_9 k6_10 k6_11 k6_12 k6_13 k6_14 hz6)
          | (go_at_call 11; refine (RR.out _).mono ?_; rintro e w8 ⟨rfl, hb⟩; have hz8 : w4.heap.size + 1 < w8.heap.size := (by have := hb.size; (try simp at this); omega); have K8 := Lib.hid (Mem.below K7.out hb (fun x hx => by simp at hx; rcases hx with rfl | rfl | rfl | rfl | rfl | rfl | rfl | rfl | rfl | rfl | rfl | rfl | rfl | rfl | rfl <;> (simp; try omega))); obtain ⟨k8_0, k8_1, k8_2, k8_3, k8_4, k8_5, k8_6, k8_7, k8_8, k8_9, k8_10, k8_11, k8_12, k8_13, k8_14, _⟩ := K8.out; have HB8 : Hid (Below w4.heap.size w4 w8) := Lib.hid (HB7.out.trans (hb.mono (by omega))); clear hb; clear k7_0 k7_1 k7_2 k7_3 k7_4 k7_5 k7_6 k7_7 k7_8 k7_9 k7_10 k7_11 k7_12 k7_13 k7_14 hz7))
      all_goals
        have HF : Hid (Below w.heap.size w w8) := Lib.hid (HBw4.out.trans (HB8.out.mono HBw4.out.size))
        clear k8_0 k8_1 k8_2 k8_3 k8_4 k8_5 k8_6 k8_7 k8_8 k8_9 k8_10 k8_11 k8_12 k8_13 k8_14
        go_wp2
        go_ret
        exact ⟨rfl, HF.out⟩
    · rw [show overW m0 m1 m2 = false from decide_eq_false (fun h => h.elim (fun h => h hR) hml)] at hov
      have hlt : m1 < m0 := by omega
      have hdec : decide (m0 ≤ m1) = false := decide_eq_false (by omega)
      have OV := Lib.hid hov
      clear hov hR hml
      have hk4 : Mem ((w4.alloc (.cells #[.int .i64 y0, .int .i64 y1, .int .i64 y2] 23)).alloc (.cells #[.int .i64 f0, .int .i64 f1, .int .i64 f2] 30)) [(w.heap.size, 0, .int .i64 m0), (w.heap.size, 1, .int .i64 m1), (w.heap.size, 2, .int .i64 m2), (w3.heap.size, 0, .int .i64 y0), (w3.heap.size, 1, .int .i64 y1), (w3.heap.size, 2, .int .i64 y2), (w3.heap.size + 1, 0, .int .i64 f0), (w3.heap.size + 1, 1, .int .i64 f1), (w3.heap.size + 1, 2, .int .i64 f2), (w4.heap.size, 0, .int .i64 y0), (w4.heap.size, 1, .int .i64 y1), (w4.heap.size, 2, .int .i64 y2), (w4.heap.size + 1, 0, .int .i64 f0), (w4.heap.size + 1, 1, .int .i64 f1), (w4.heap.size + 1, 2, .int .i64 f2)] := by
        refine ⟨?_, ?_, ?_, ?_, ?_, ?_, ?_, ?_, ?_, ?_, ?_, ?_, ?_, ?_, ?_, trivial⟩ <;> simp [go_sem, w4a0, w4a1, w4a2, w4y0, w4y1, w4y2, w4f0, w4f1, w4f2, q4, q4b, q4c, q4d, q4e, q4f]
      have K4 := Lib.hid hk4
      have Z4 : Hid (w4.heap.size + 2 = ((w4.alloc (.cells #[.int .i64 y0, .int .i64 y1, .int .i64 y2] 23)).alloc (.cells #[.int .i64 f0, .int .i64 f1, .int .i64 f2] 30)).heap.size) := Lib.hid (by simp)
      clear hk4
      go_region_held3 (fun w' => w'.cell? ⟨w.heap.size, 0, none⟩ = some (.int .i64 m0) ∧ w'.cell? ⟨w.heap.size, 1, none⟩ = some (.int .i64 m1) ∧ w'.cell? ⟨w.heap.size, 2, none⟩ = some (.int .i64 m2) ∧ w'.cell? ⟨w3.heap.size, 0, none⟩ = some (.int .i64 y0) ∧ w'.cell? ⟨w3.heap.size, 1, none⟩ = some (.int .i64 y1) ∧ w'.cell? ⟨w3.heap.size, 2, none⟩ = some (.int .i64 y2) ∧ w'.cell? ⟨w3.heap.size + 1, 0, none⟩ = some (.int .i64 f0) ∧ w'.cell? ⟨w3.heap.size + 1, 1, none⟩ = some (.int .i64 f1) ∧ w'.cell? ⟨w3.heap.size + 1, 2, none⟩ = some (.int .i64 f2) ∧ w'.cell? ⟨w4.heap.size, 0, none⟩ = some (.int .i64 y0) ∧ w'.cell? ⟨w4.heap.size, 1, none⟩ = some (.int .i64 y1) ∧ w'.cell? ⟨w4.heap.size, 2, none⟩ = some (.int .i64 y2) ∧ w'.cell? ⟨w4.heap.size + 1, 0, none⟩ = some (.int .i64 f0) ∧ w'.cell? ⟨w4.heap.size + 1, 1, none⟩ = some (.int .i64 f1) ∧ w'.cell? ⟨w4.heap.size + 1, 2, none⟩ = some (.int .i64 f2) ∧ w4.heap.size + 1 < w'.heap.size)
        (go_keep)
        (first
          | (go_at_call 10; refine (RP.out _).mono ?_; rintro e w5 ⟨rfl, hb⟩; have hz5 : w4.heap.size + 1 < w5.heap.size := (by have := hb.size; (try simp at this); omega); have K5 := Lib.hid (Mem.below K4.out ((Below.refl _ _).drew.trans hb) (fun x hx => by simp at hx; rcases hx with rfl | rfl | rfl | rfl | rfl | rfl | rfl | rfl | rfl | rfl | rfl | rfl | rfl | rfl | rfl <;> (simp; try omega))); obtain ⟨k5_0, k5_1, k5_2, k5_3, k5_4, k5_5, k5_6, k5_7, k5_8, k5_9, k5_10, k5_11, k5_12, k5_13, k5_14, _⟩ := K5.out; have HB5 : Hid (Below w4.heap.size w4 w5) := Lib.hid (((Below.refl _ _).alloc (by simp) _).alloc (by simp) _).drew.trans (hb.mono (by simp; try omega)); clear hb)
          | (go_at_call 11; refine (RR.out _).mono ?_; rintro e w6 ⟨rfl, hb⟩; have hz6 : w4.heap.size + 1 < w6.heap.size := (by have := hb.size; (try simp at this); omega); have K6 := Lib.hid (Mem.below K5.out hb (fun x hx => by simp at hx; rcases hx with rfl | rfl | rfl | rfl | rfl | rfl | rfl | rfl | rfl | rfl | rfl | rfl | rfl | rfl | rfl <;> (simp; try omega))); obtain ⟨k6_0, k6_1, k6_2, k6_3, k6_4, k6_5, k6_6, k6_7, k6_8, k6_9, k6_10, k6_11, k6_12, k6_13, k6_14, _⟩ := K6.out; have HB6 : Hid (Below w4.heap.size w4 w6) := Lib.hid (HB5.out.trans (hb.mono (by omega))); clear hb; clear k5_0 k5_1 k5_2 k5_3 k5_4 k5_5 k5_6 k5_7 k5_8 k5_9 k5_10 k5_11 k5_12 k5_13 k5_14 hz5)
          | (go_at_call 12; refine (OV.out _).mono ?_; rintro e w7 ⟨rfl, hb⟩; have hz7 : w4.heap.size + 1 < w7.heap.size := (by have := hb.size; (try simp at this); omega); have K7 := Lib.hid (Mem.below K6.out hb (fun x hx => by simp at hx; rcases hx with rfl | rfl | rfl | rfl | rfl | rfl | rfl | rfl | rfl | rfl | rfl | rfl | rfl | rfl | rfl <;> (simp; try omega))); obtain ⟨k7_0, k7_1, k7_2, k7_3, k7_4, k7_5, k7_6, k7_7, k7_8, k7_9, k7_10, k7_11, k7_12, k7_13, k7_14, _⟩ := K7.out; have HB7 : Hid (Below w4.heap.size w4 w7) := Lib.hid (HB6.out.trans (hb.mono (by omega))); clear hb; clear k6_0 k6_1 k6_2 k6_3 k6_4 k6_5 k6_6 k6_7 k6_8 k6_9 k6_10 k6_11 k6_12 k6_13 k6_14 hz6)
          | (go_at_call 11; refine (RR.out _).mono ?_; rintro e w8 ⟨rfl, hb⟩; have hz8 : w4.heap.size + 1 < w8.heap.size := (by have := hb.size; (try simp at this); omega); have K8 := Lib.hid (Mem.below K7.out hb (fun x hx => by simp at hx; rcases hx with rfl | rfl | rfl | rfl | rfl | rfl | rfl | rfl | rfl | rfl | rfl | rfl | rfl | rfl | rfl <;> (simp; try omega))); obtain ⟨k8_0, k8_1, k8_2, k8_3, k8_4, k8_5, k8_6, k8_7, k8_8, k8_9, k8_10, k8_11, k8_12, k8_13, k8_14, _⟩ := K8.out; have HB8 : Hid (Below w4.heap.size w4 w8) := Lib.hid (HB7.out.trans (hb.mono (by omega))); clear hb; clear k7_0 k7_1 k7_2 k7_3 k7_4 k7_5 k7_6 k7_7 k7_8 k7_9 k7_10 k7_11 k7_12 k7_13 k7_14 hz7))
      all_goals
        have HF : Hid (Below w.heap.size w w8) := Lib.hid (HBw4.out.trans (HB8.out.mono HBw4.out.size))
        clear k8_0 k8_1 k8_2 k8_3 k8_4 k8_5 k8_6 k8_7 k8_8 k8_9 k8_10 k8_11 k8_12 k8_13 k8_14
        go_wp2
        go_ret
        exact ⟨rfl, HF.out⟩
  · have hrp := fun W => u.right_any m0 m1 m2 W
    have hrr := fun W => refright_below m0 m1 m2 W
    rw [right_no hR] at hrp hrr
    have RP := Lib.hid hrp
    have RR := Lib.hid hrr
    have hov := fun W => over_any m0 m1 m2 W
    rw [show overW m0 m1 m2 = true from decide_eq_true (.inl hR)] at hov
    have OV := Lib.hid hov
    clear hrp hrr hov hR
    have hk4 : Mem ((w4.alloc (.cells #[.int .i64 y0, .int .i64 y1, .int .i64 y2] 23)).alloc (.cells #[.int .i64 f0, .int .i64 f1, .int .i64 f2] 30)) [(w.heap.size, 0, .int .i64 m0), (w.heap.size, 1, .int .i64 m1), (w.heap.size, 2, .int .i64 m2), (w3.heap.size, 0, .int .i64 y0), (w3.heap.size, 1, .int .i64 y1), (w3.heap.size, 2, .int .i64 y2), (w3.heap.size + 1, 0, .int .i64 f0), (w3.heap.size + 1, 1, .int .i64 f1), (w3.heap.size + 1, 2, .int .i64 f2), (w4.heap.size, 0, .int .i64 y0), (w4.heap.size, 1, .int .i64 y1), (w4.heap.size, 2, .int .i64 y2), (w4.heap.size + 1, 0, .int .i64 f0), (w4.heap.size + 1, 1, .int .i64 f1), (w4.heap.size + 1, 2, .int .i64 f2)] := by
      refine ⟨?_, ?_, ?_, ?_, ?_, ?_, ?_, ?_, ?_, ?_, ?_, ?_, ?_, ?_, ?_, trivial⟩ <;> simp [go_sem, w4a0, w4a1, w4a2, w4y0, w4y1, w4y2, w4f0, w4f1, w4f2, q4, q4b, q4c, q4d, q4e, q4f]
    have K4 := Lib.hid hk4
    have Z4 : Hid (w4.heap.size + 2 = ((w4.alloc (.cells #[.int .i64 y0, .int .i64 y1, .int .i64 y2] 23)).alloc (.cells #[.int .i64 f0, .int .i64 f1, .int .i64 f2] 30)).heap.size) := Lib.hid (by simp)
    clear hk4
    refine wp_region_held_drew (S := (fun w' => w'.cell? ⟨w.heap.size, 0, none⟩ = some (.int .i64 m0) ∧ w'.cell? ⟨w.heap.size, 1, none⟩ = some (.int .i64 m1) ∧ w'.cell? ⟨w.heap.size, 2, none⟩ = some (.int .i64 m2) ∧ w'.cell? ⟨w3.heap.size, 0, none⟩ = some (.int .i64 y0) ∧ w'.cell? ⟨w3.heap.size, 1, none⟩ = some (.int .i64 y1) ∧ w'.cell? ⟨w3.heap.size, 2, none⟩ = some (.int .i64 y2) ∧ w'.cell? ⟨w3.heap.size + 1, 0, none⟩ = some (.int .i64 f0) ∧ w'.cell? ⟨w3.heap.size + 1, 1, none⟩ = some (.int .i64 f1) ∧ w'.cell? ⟨w3.heap.size + 1, 2, none⟩ = some (.int .i64 f2) ∧ w'.cell? ⟨w4.heap.size, 0, none⟩ = some (.int .i64 y0) ∧ w'.cell? ⟨w4.heap.size, 1, none⟩ = some (.int .i64 y1) ∧ w'.cell? ⟨w4.heap.size, 2, none⟩ = some (.int .i64 y2) ∧ w'.cell? ⟨w4.heap.size + 1, 0, none⟩ = some (.int .i64 f0) ∧ w'.cell? ⟨w4.heap.size + 1, 1, none⟩ = some (.int .i64 f1) ∧ w'.cell? ⟨w4.heap.size + 1, 2, none⟩ = some (.int .i64 f2) ∧ w4.heap.size + 1 < w'.heap.size)) (by kernel_rfl) ?_ (fun hHeld => ?_)
    · (try dsimp only); go_keep
    refine wpAnyH_take (i := 0) (v := ?_) rfl (by kernel_rfl) (by kernel_rfl) (by kernel_rfl) (fun _ _ _ h => h) (Or.inl ⟨by rfl, ?_⟩) (by assumption) ?_
    rotate_left 1
    · intro w hSw; (try dsimp only at hSw); go_simp <;> (with_reducible rfl)
    try simp only [Act.put, List.setIfInBounds_toArray, List.set_cons_zero, List.set_cons_succ, List.getElem_toArray, List.getElem_cons_zero]
    refine wpAnyH_take (i := 2) (v := ?_) rfl (by kernel_rfl) (by kernel_rfl) (by kernel_rfl) (fun _ _ _ h => h) (Or.inl ⟨by rfl, ?_⟩) (by assumption) ?_
    rotate_left 1
    · intro w hSw; (try dsimp only at hSw); go_simp <;> (with_reducible rfl)
    try simp only [Act.put, List.setIfInBounds_toArray, List.set_cons_zero, List.set_cons_succ, List.getElem_toArray, List.getElem_cons_succ, List.getElem_cons_zero]
    refine wpAnyH_ready (rs := [1]) (by kernel_rfl) (by simp) ?_
    refine AllReadyH.cons rfl (fun K hK => ?_) AllReadyH.nil
    go_simp
    (go_at_call 10; refine (RP.out _).mono ?_; rintro e w5 ⟨rfl, hb⟩; have hz5 : w4.heap.size + 1 < w5.heap.size := (by have := hb.size; (try simp at this); omega); have K5 := Lib.hid (Mem.below K4.out ((Below.refl _ _).drew.trans hb) (fun x hx => by simp at hx; rcases hx with rfl | rfl | rfl | rfl | rfl | rfl | rfl | rfl | rfl | rfl | rfl | rfl | rfl | rfl | rfl <;> (simp; try omega))); obtain ⟨k5_0, k5_1, k5_2, k5_3, k5_4, k5_5, k5_6, k5_7, k5_8, k5_9, k5_10, k5_11, k5_12, k5_13, k5_14, _⟩ := K5.out; have HB5 : Hid (Below w4.heap.size w4 w5) := Lib.hid (((Below.refl _ _).alloc (by simp) _).alloc (by simp) _).drew.trans (hb.mono (by simp; try omega)); clear hb)
    go_wp2_with fail
    refine hK.out _ _ ?_ (fun hHeld => ?_)
    · (try dsimp only); go_keep
    clear hK K
    try simp only [Act.put, List.setIfInBounds_toArray, List.set_cons_zero, List.set_cons_succ, List.getElem_toArray, List.getElem_cons_succ, List.getElem_cons_zero]
    refine wpAnyH_ready (rs := [3]) (by kernel_rfl) (by simp) ?_
    refine AllReadyH.cons rfl (fun K hK => ?_) AllReadyH.nil
    go_simp
    (go_at_call 11; refine (RR.out _).mono ?_; rintro e w6 ⟨rfl, hb⟩; have hz6 : w4.heap.size + 1 < w6.heap.size := (by have := hb.size; (try simp at this); omega); have K6 := Lib.hid (Mem.below K5.out hb (fun x hx => by simp at hx; rcases hx with rfl | rfl | rfl | rfl | rfl | rfl | rfl | rfl | rfl | rfl | rfl | rfl | rfl | rfl | rfl <;> (simp; try omega))); obtain ⟨k6_0, k6_1, k6_2, k6_3, k6_4, k6_5, k6_6, k6_7, k6_8, k6_9, k6_10, k6_11, k6_12, k6_13, k6_14, _⟩ := K6.out; have HB6 : Hid (Below w4.heap.size w4 w6) := Lib.hid (HB5.out.trans (hb.mono (by omega))); clear hb; clear k5_0 k5_1 k5_2 k5_3 k5_4 k5_5 k5_6 k5_7 k5_8 k5_9 k5_10 k5_11 k5_12 k5_13 k5_14 hz5)
    go_wp2_with fail
    refine hK.out _ _ ?_ (fun hHeld => ?_)
    · (try dsimp only); go_keep
    clear hK K
    try simp only [Act.put, List.setIfInBounds_toArray, List.set_cons_zero, List.set_cons_succ, List.getElem_toArray, List.getElem_cons_succ, List.getElem_cons_zero]
    refine wpAnyH_take (i := 4) (v := ?_) rfl (by kernel_rfl) (by kernel_rfl) (by kernel_rfl) (fun _ _ _ h => h) (Or.inl ⟨by rfl, ?_⟩) (by assumption) ?_
    rotate_left 1
    · intro w hSw; (try dsimp only at hSw); go_simp <;> (with_reducible rfl)
    try simp only [Act.put, List.setIfInBounds_toArray, List.set_cons_zero, List.set_cons_succ, List.getElem_toArray, List.getElem_cons_succ, List.getElem_cons_zero]
    refine wpAnyH_take (i := 5) (v := ?_) rfl (by kernel_rfl) (by kernel_rfl) (by kernel_rfl) (fun _ _ _ h => h) (Or.inl ⟨by rfl, ?_⟩) (by assumption) ?_
    rotate_left 1
    · intro w hSw; (try dsimp only at hSw); go_simp <;> (with_reducible rfl)
    try simp only [Act.put, List.setIfInBounds_toArray, List.set_cons_zero, List.set_cons_succ, List.getElem_toArray, List.getElem_cons_succ, List.getElem_cons_zero]
    refine wpAnyH_take (i := 6) (v := ?_) rfl (by kernel_rfl) (by kernel_rfl) (by kernel_rfl) (fun _ _ _ h => h) (Or.inl ⟨by rfl, ?_⟩) (by assumption) ?_
    rotate_left 1
    · intro w hSw; (try dsimp only at hSw); go_simp <;> (with_reducible rfl)
    try simp only [Act.put, List.setIfInBounds_toArray, List.set_cons_zero, List.set_cons_succ, List.getElem_toArray, List.getElem_cons_succ, List.getElem_cons_zero]
    refine wpAnyH_take (i := 7) (v := ?_) rfl (by kernel_rfl) (by kernel_rfl) (by kernel_rfl) (fun _ _ _ h => h) (Or.inl ⟨by rfl, ?_⟩) (by assumption) ?_
    rotate_left 1
    · intro w hSw; (try dsimp only at hSw); go_simp <;> (with_reducible rfl)
    try simp only [Act.put, List.setIfInBounds_toArray, List.set_cons_zero, List.set_cons_succ, List.getElem_toArray, List.getElem_cons_succ, List.getElem_cons_zero]
    refine wpAnyH_take (i := 8) (v := ?_) rfl (by kernel_rfl) (by kernel_rfl) (by kernel_rfl) (fun _ _ _ h => h) (Or.inl ⟨by rfl, ?_⟩) (by assumption) ?_
    rotate_left 1
    · intro w hSw; (try dsimp only at hSw); go_simp <;> (with_reducible rfl)
    try simp only [Act.put, List.setIfInBounds_toArray, List.set_cons_zero, List.set_cons_succ, List.getElem_toArray, List.getElem_cons_succ, List.getElem_cons_zero]
    refine wpAnyH_take (i := 9) (v := ?_) rfl (by kernel_rfl) (by kernel_rfl) (by kernel_rfl) (fun _ _ _ h => h) (Or.inl ⟨by rfl, ?_⟩) (by assumption) ?_
    rotate_left 1
    · intro w hSw; (try dsimp only at hSw); go_simp <;> (with_reducible rfl)
    try simp only [Act.put, List.setIfInBounds_toArray, List.set_cons_zero, List.set_cons_succ, List.getElem_toArray, List.getElem_cons_succ, List.getElem_cons_zero]
    refine wpAnyH_take (i := 10) (v := ?_) rfl (by kernel_rfl) (by kernel_rfl) (by kernel_rfl) (fun _ _ _ h => h) (Or.inl ⟨by rfl, ?_⟩) (by assumption) ?_
    rotate_left 1
    · intro w hSw; (try dsimp only at hSw); go_simp <;> (with_reducible rfl)
    try simp only [Act.put, List.setIfInBounds_toArray, List.set_cons_zero, List.set_cons_succ, List.getElem_toArray, List.getElem_cons_succ, List.getElem_cons_zero]
    refine wpAnyH_take (i := 11) (v := ?_) rfl (by kernel_rfl) (by kernel_rfl) (by kernel_rfl) (fun _ _ _ h => h) (Or.inl ⟨by rfl, ?_⟩) (by assumption) ?_
    rotate_left 1
    · intro w hSw; (try dsimp only at hSw); go_simp <;> (with_reducible rfl)
    try simp only [Act.put, List.setIfInBounds_toArray, List.set_cons_zero, List.set_cons_succ, List.getElem_toArray, List.getElem_cons_succ, List.getElem_cons_zero]
    refine wpAnyH_take (i := 12) (v := ?_) rfl (by kernel_rfl) (by kernel_rfl) (by kernel_rfl) (fun _ _ _ h => h) (Or.inl ⟨by rfl, ?_⟩) (by assumption) ?_
    rotate_left 1
    · intro w hSw; (try dsimp only at hSw); go_simp <;> (with_reducible rfl)
    try simp only [Act.put, List.setIfInBounds_toArray, List.set_cons_zero, List.set_cons_succ, List.getElem_toArray, List.getElem_cons_succ, List.getElem_cons_zero]
    refine wpAnyH_take (i := 13) (v := ?_) rfl (by kernel_rfl) (by kernel_rfl) (by kernel_rfl) (fun _ _ _ h => h) (Or.inl ⟨by rfl, ?_⟩) (by assumption) ?_
    rotate_left 1
    · intro w hSw; (try dsimp only at hSw); go_simp <;> (with_reducible rfl)
    try simp only [Act.put, List.setIfInBounds_toArray, List.set_cons_zero, List.set_cons_succ, List.getElem_toArray, List.getElem_cons_succ, List.getElem_cons_zero]
    refine wpAnyH_take (i := 14) (v := ?_) rfl (by kernel_rfl) (by kernel_rfl) (by kernel_rfl) (fun _ _ _ h => h) (Or.inl ⟨by rfl, ?_⟩) (by assumption) ?_
    rotate_left 1
    · intro w hSw; (try dsimp only at hSw); go_simp <;> (with_reducible rfl)
    try simp only [Act.put, List.setIfInBounds_toArray, List.set_cons_zero, List.set_cons_succ, List.getElem_toArray, List.getElem_cons_succ, List.getElem_cons_zero]
    refine wpAnyH_take (i := 15) (v := ?_) rfl (by kernel_rfl) (by kernel_rfl) (by kernel_rfl) (fun _ _ _ h => h) (Or.inl ⟨by rfl, ?_⟩) (by assumption) ?_
    rotate_left 1
    · intro w hSw; (try dsimp only at hSw); go_simp <;> (with_reducible rfl)
    try simp only [Act.put, List.setIfInBounds_toArray, List.set_cons_zero, List.set_cons_succ, List.getElem_toArray, List.getElem_cons_succ, List.getElem_cons_zero]
    refine wpAnyH_take (i := 16) (v := ?_) rfl (by kernel_rfl) (by kernel_rfl) (by kernel_rfl) (fun _ _ _ h => h) (Or.inl ⟨by rfl, ?_⟩) (by assumption) ?_
    rotate_left 1
    · intro w hSw; (try dsimp only at hSw); go_simp <;> (with_reducible rfl)
    try simp only [Act.put, List.setIfInBounds_toArray, List.set_cons_zero, List.set_cons_succ, List.getElem_toArray, List.getElem_cons_succ, List.getElem_cons_zero]
    refine wpAnyH_take (i := 17) (v := ?_) rfl (by kernel_rfl) (by kernel_rfl) (by kernel_rfl) (fun _ _ _ h => h) (Or.inl ⟨by rfl, ?_⟩) (by assumption) ?_
    rotate_left 1
    · intro w hSw; (try dsimp only at hSw); go_simp <;> (with_reducible rfl)
    try simp only [Act.put, List.setIfInBounds_toArray, List.set_cons_zero, List.set_cons_succ, List.getElem_toArray, List.getElem_cons_succ, List.getElem_cons_zero]
    refine wpAnyH_take (i := 18) (v := ?_) rfl (by kernel_rfl) (by kernel_rfl) (by kernel_rfl) (fun _ _ _ h => h) (Or.inl ⟨by rfl, ?_⟩) (by assumption) ?_
    rotate_left 1
    · intro w hSw; (try dsimp only at hSw); go_simp <;> (with_reducible rfl)
    try simp only [Act.put, List.setIfInBounds_toArray, List.set_cons_zero, List.set_cons_succ, List.getElem_toArray, List.getElem_cons_succ, List.getElem_cons_zero]
    refine wpAnyH_take (i := 19) (v := ?_) rfl (by kernel_rfl) (by kernel_rfl) (by kernel_rfl) (fun _ _ _ h => h) (Or.inl ⟨by rfl, ?_⟩) (by assumption) ?_
    rotate_left 1
    · intro w hSw; (try dsimp only at hSw); go_simp <;> (with_reducible rfl)
    try simp only [Act.put, List.setIfInBounds_toArray, List.set_cons_zero, List.set_cons_succ, List.getElem_toArray, List.getElem_cons_succ, List.getElem_cons_zero]
    refine wpAnyH_take (i := 20) (v := ?_) rfl (by kernel_rfl) (by kernel_rfl) (by kernel_rfl) (fun _ _ _ h => h) (Or.inl ⟨by rfl, ?_⟩) (by assumption) ?_
    rotate_left 1
    · intro w hSw; (try dsimp only at hSw); go_simp <;> (with_reducible rfl)
    try simp only [Act.put, List.setIfInBounds_toArray, List.set_cons_zero, List.set_cons_succ, List.getElem_toArray, List.getElem_cons_succ, List.getElem_cons_zero]
    refine wpAnyH_take (i := 21) (v := ?_) rfl (by kernel_rfl) (by kernel_rfl) (by kernel_rfl) (fun _ _ _ h => h) (Or.inl ⟨by rfl, ?_⟩) (by assumption) ?_
    rotate_left 1
    · intro w hSw; (try dsimp only at hSw); go_simp <;> (with_reducible rfl)
    try simp only [Act.put, List.setIfInBounds_toArray, List.set_cons_zero, List.set_cons_succ, List.getElem_toArray, List.getElem_cons_succ, List.getElem_cons_zero]
    refine wpAnyH_take (i := 23) (v := ?_) rfl (by kernel_rfl) (by kernel_rfl) (by kernel_rfl) (fun _ _ _ h => h) (Or.inl ⟨by rfl, ?_⟩) (by assumption) ?_
    rotate_left 1
    · intro w hSw; (try dsimp only at hSw); go_simp <;> (with_reducible rfl)
    try simp only [Act.put, List.setIfInBounds_toArray, List.set_cons_zero, List.set_cons_succ, List.getElem_toArray, List.getElem_cons_succ, List.getElem_cons_zero]
    refine wpAnyH_ready (rs := [22]) (by kernel_rfl) (by simp) ?_
    refine AllReadyH.cons rfl (fun K hK => ?_) AllReadyH.nil
    go_simp
    (go_at_call 12; refine (OV.out _).mono ?_; rintro e w7 ⟨rfl, hb⟩; have hz7 : w4.heap.size + 1 < w7.heap.size := (by have := hb.size; (try simp at this); omega); have K7 := Lib.hid (Mem.below K6.out hb (fun x hx => by simp at hx; rcases hx with rfl | rfl | rfl | rfl | rfl | rfl | rfl | rfl | rfl | rfl | rfl | rfl | rfl | rfl | rfl <;> (simp; try omega))); obtain ⟨k7_0, k7_1, k7_2, k7_3, k7_4, k7_5, k7_6, k7_7, k7_8, k7_9, k7_10, k7_11, k7_12, k7_13, k7_14, _⟩ := K7.out; have HB7 : Hid (Below w4.heap.size w4 w7) := Lib.hid (HB6.out.trans (hb.mono (by omega))); clear hb; clear k6_0 k6_1 k6_2 k6_3 k6_4 k6_5 k6_6 k6_7 k6_8 k6_9 k6_10 k6_11 k6_12 k6_13 k6_14 hz6)
    go_wp2_with fail
    refine hK.out _ _ ?_ (fun hHeld => ?_)
    · (try dsimp only); go_keep
    clear hK K
    try simp only [Act.put, List.setIfInBounds_toArray, List.set_cons_zero, List.set_cons_succ, List.getElem_toArray, List.getElem_cons_succ, List.getElem_cons_zero]
    refine wpAnyH_ready (rs := [24]) (by kernel_rfl) (by simp) ?_
    refine AllReadyH.cons rfl (fun K hK => ?_) AllReadyH.nil
    go_simp
    (go_at_call 11; refine (RR.out _).mono ?_; rintro e w8 ⟨rfl, hb⟩; have hz8 : w4.heap.size + 1 < w8.heap.size := (by have := hb.size; (try simp at this); omega); have K8 := Lib.hid (Mem.below K7.out hb (fun x hx => by simp at hx; rcases hx with rfl | rfl | rfl | rfl | rfl | rfl | rfl | rfl | rfl | rfl | rfl | rfl | rfl | rfl | rfl <;> (simp; try omega))); obtain ⟨k8_0, k8_1, k8_2, k8_3, k8_4, k8_5, k8_6, k8_7, k8_8, k8_9, k8_10, k8_11, k8_12, k8_13, k8_14, _⟩ := K8.out; have HB8 : Hid (Below w4.heap.size w4 w8) := Lib.hid (HB7.out.trans (hb.mono (by omega))); clear hb; clear k7_0 k7_1 k7_2 k7_3 k7_4 k7_5 k7_6 k7_7 k7_8 k7_9 k7_10 k7_11 k7_12 k7_13 k7_14 hz7)
    go_wp2_with fail
    refine hK.out _ _ ?_ (fun hHeld => ?_)
    · (try dsimp only); go_keep
    clear hK K
    try simp only [Act.put, List.setIfInBounds_toArray, List.set_cons_zero, List.set_cons_succ, List.getElem_toArray, List.getElem_cons_succ, List.getElem_cons_zero]
    refine wpAnyH_take (i := 25) (v := ?_) rfl (by kernel_rfl) (by kernel_rfl) (by kernel_rfl) (fun _ _ _ h => h) (Or.inl ⟨by rfl, ?_⟩) (by assumption) ?_
    rotate_left 1
    · intro w hSw; (try dsimp only at hSw); go_simp <;> (with_reducible rfl)
    try simp only [Act.put, List.setIfInBounds_toArray, List.set_cons_zero, List.set_cons_succ, List.getElem_toArray, List.getElem_cons_succ, List.getElem_cons_zero]
    refine wpAnyH_take (i := 26) (v := ?_) rfl (by kernel_rfl) (by kernel_rfl) (by kernel_rfl) (fun _ _ _ h => h) (Or.inl ⟨by rfl, ?_⟩) (by assumption) ?_
    rotate_left 1
    · intro w hSw; (try dsimp only at hSw); go_simp <;> (with_reducible rfl)
    try simp only [Act.put, List.setIfInBounds_toArray, List.set_cons_zero, List.set_cons_succ, List.getElem_toArray, List.getElem_cons_succ, List.getElem_cons_zero]
    refine wpAnyH_take (i := 27) (v := undef) rfl (by kernel_rfl) (by kernel_rfl) (by kernel_rfl) (fun _ _ _ h => h) (Or.inr ⟨by rfl, rfl⟩) (by assumption) ?_
    try simp only [Act.put, List.setIfInBounds_toArray, List.set_cons_zero, List.set_cons_succ, List.getElem_toArray, List.getElem_cons_succ, List.getElem_cons_zero]
    refine wpAnyH_take (i := 28) (v := undef) rfl (by kernel_rfl) (by kernel_rfl) (by kernel_rfl) (fun _ _ _ h => h) (Or.inr ⟨by rfl, rfl⟩) (by assumption) ?_
    try simp only [Act.put, List.setIfInBounds_toArray, List.set_cons_zero, List.set_cons_succ, List.getElem_toArray, List.getElem_cons_succ, List.getElem_cons_zero]
    refine wpAnyH_take (i := 29) (v := undef) rfl (by kernel_rfl) (by kernel_rfl) (by kernel_rfl) (fun _ _ _ h => h) (Or.inr ⟨by rfl, rfl⟩) (by assumption) ?_
    try simp only [Act.put, List.setIfInBounds_toArray, List.set_cons_zero, List.set_cons_succ, List.getElem_toArray, List.getElem_cons_succ, List.getElem_cons_zero]
    refine wpAnyH_take (i := 30) (v := undef) rfl (by kernel_rfl) (by kernel_rfl) (by kernel_rfl) (fun _ _ _ h => h) (Or.inr ⟨by rfl, rfl⟩) (by assumption) ?_
    try simp only [Act.put, List.setIfInBounds_toArray, List.set_cons_zero, List.set_cons_succ, List.getElem_toArray, List.getElem_cons_succ, List.getElem_cons_zero]
    refine wpAnyH_take (i := 31) (v := undef) rfl (by kernel_rfl) (by kernel_rfl) (by kernel_rfl) (fun _ _ _ h => h) (Or.inr ⟨by rfl, rfl⟩) (by assumption) ?_
    try simp only [Act.put, List.setIfInBounds_toArray, List.set_cons_zero, List.set_cons_succ, List.getElem_toArray, List.getElem_cons_succ, List.getElem_cons_zero]
    refine wpAnyH_take (i := 32) (v := ?_) rfl (by kernel_rfl) (by kernel_rfl) (by kernel_rfl) (fun _ _ _ h => h) (Or.inl ⟨by rfl, ?_⟩) (by assumption) ?_
    rotate_left 1
    · intro w hSw; (try dsimp only at hSw); go_simp <;> (with_reducible rfl)
    try simp only [Act.put, List.setIfInBounds_toArray, List.set_cons_zero, List.set_cons_succ, List.getElem_toArray, List.getElem_cons_succ, List.getElem_cons_zero]
    refine wpAnyH_take (i := 33) (v := ?_) rfl (by kernel_rfl) (by kernel_rfl) (by kernel_rfl) (fun _ _ _ h => h) (Or.inl ⟨by rfl, ?_⟩) (by assumption) ?_
    rotate_left 1
    · intro w hSw; (try dsimp only at hSw); go_simp <;> (with_reducible rfl)
    try simp only [Act.put, List.setIfInBounds_toArray, List.set_cons_zero, List.set_cons_succ, List.getElem_toArray, List.getElem_cons_succ, List.getElem_cons_zero]
    refine wpAnyH_take (i := 34) (v := ?_) rfl (by kernel_rfl) (by kernel_rfl) (by kernel_rfl) (fun _ _ _ h => h) (Or.inl ⟨by rfl, ?_⟩) (by assumption) ?_
    rotate_left 1
    · intro w hSw; (try dsimp only at hSw); go_simp <;> (with_reducible rfl)
    try simp only [Act.put, List.setIfInBounds_toArray, List.set_cons_zero, List.set_cons_succ, List.getElem_toArray, List.getElem_cons_succ, List.getElem_cons_zero]
    refine wpAnyH_take (i := 35) (v := ?_) rfl (by kernel_rfl) (by kernel_rfl) (by kernel_rfl) (fun _ _ _ h => h) (Or.inl ⟨by rfl, ?_⟩) (by assumption) ?_
    rotate_left 1
    · intro w hSw; (try dsimp only at hSw); go_simp <;> (with_reducible rfl)
    try simp only [Act.put, List.setIfInBounds_toArray, List.set_cons_zero, List.set_cons_succ, List.getElem_toArray, List.getElem_cons_succ, List.getElem_cons_zero]
    refine wpAnyH_done (by kernel_rfl) ?_ _
    all_goals
      have HF : Hid (Below w.heap.size w w8) := Lib.hid (HBw4.out.trans (HB8.out.mono HBw4.out.size))
      clear k8_0 k8_1 k8_2 k8_3 k8_4 k8_5 k8_6 k8_7 k8_8 k8_9 k8_10 k8_11 k8_12 k8_13 k8_14
      go_wp2
      go_ret
      exact ⟨rfl, HF.out⟩
end Go.Proofs.Ytkgmhchcfpflhaa.watchRight
