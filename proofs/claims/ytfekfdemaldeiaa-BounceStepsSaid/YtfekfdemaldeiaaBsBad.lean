/- The walk of the law BounceSteps: any count, any value, a switch that is not right, whatever it shows: it returns true, and what was in memory is as it was. -/
import Derived.Test.YtfekfdemaldeiaaBsPre
namespace Go.Proofs.Ytfekfdemaldeiaa.bounceSteps
open Go.ChangeShapes Go.WideShapes Go.ChangeAt Go.RowKit Go.Proofs.Ytfekfdemaldeiaa.k Go.Proofs.Ytfekfdemaldeiaa.v Go.Proofs.Ytfekfdemaldeiaa
set_option linter.unusedVariables false

set_option maxRecDepth 100000 in
set_option maxHeartbeats 4000000 in
theorem badA0 (n : Int) (v : Bool) (c : Int) (x : Bool) (o : Int) (s : Bool) (w : World) (hi1 : -9223372036854775808 ≤ c ∧ c ≤ 9223372036854775807) (hi2 : -9223372036854775808 ≤ o ∧ o ≤ 9223372036854775807) (n1 : 1 ≤ n) (n2 : n ≤ 20) (hN : NewIs n v n v 0) (hr : ¬ RightB c o) (r1 : ¬ 1 ≤ c) : Post n v c x o s w := by
  have HK := Lib.hid fun W => awake_any W
  have h1 := fun W => right_any c x o W
  rw [right_no hr] at h1
  have HR := Lib.hid h1
  have ST := Lib.hid fun W => step_bad c x o s hr W
  clear h1 hr
  unfold NewIs at hN
  unfold Post
  have HN := Lib.hid hN
  clear hN
  go_enter Try.func3, Try.ntmps3
  go_upto_region 18 with (first
    | (go_at_call 6; ((with_reducible refine (HK.out _).mono ?_); rintro e w1 ⟨rfl, hb⟩; obtain ⟨bx, hW, hz1⟩ := boxes1 hb; have HB1 := Lib.hid hW; have X1 := Lib.hid bx; obtain ⟨c0, f0, c1, f1, c2, f2, _⟩ := bx; clear hb hW))
    | (go_at_call 7; ((with_reducible refine (HN.out _).mono ?_); rintro e w2 ⟨rfl, hb⟩; have HB2 := Lib.hid (HB1.out.trans (hb.mono HB1.out.size)); have X2 := Lib.hid (X1.out.below hb hz1); have hz2 := hb.size; clear c0 f0 c1 f1 c2 f2 hb; obtain ⟨c0, f0, c1, f1, c2, f2, _⟩ := X2.out; have q2 : w.heap.size < w2.heap.size := (by omega)))
    | (go_at_call 8; ((with_reducible refine (HR.out _).mono ?_); rintro e w3 ⟨rfl, hb⟩; have HB3 := Lib.hid ((HB2.out.alloc HB2.out.size _).trans (hb.mono (by simp; omega))); have X3 := Lib.hid ((X2.out.below ((Below.refl w2.heap.size w2).alloc (Nat.le_refl _) _) q2).below hb (by simp; omega)); have hz3 : w2.heap.size < w3.heap.size := (Nat.lt_of_lt_of_le (by simp) hb.size); clear c0 f0 c1 f1 c2 f2 hb; obtain ⟨c0, f0, c1, f1, c2, f2, _⟩ := X3.out; have q3 : w.heap.size < w3.heap.size := (by omega); have q3b : w.heap.size < w3.heap.size + 1 := (by omega); have n3 : ¬ w.heap.size = w3.heap.size := (by omega); have n3b : ¬ w3.heap.size = w.heap.size := (by omega))))
  go_region_held3 (fun w' => w'.cell? ⟨w.heap.size, 0, none⟩ = some (.int .i64 c) ∧ w'.cell? ⟨w.heap.size, 1, none⟩ = some (.bool x) ∧ w'.cell? ⟨w.heap.size, 2, none⟩ = some (.int .i64 o) ∧ w'.cell? ⟨w3.heap.size, 0, none⟩ = some (.int .i64 0) ∧ w'.cell? ⟨w3.heap.size, 1, none⟩ = some (.bool false) ∧ w'.cell? ⟨w3.heap.size, 2, none⟩ = some (.int .i64 0))
    (go_keep)
    ((go_at_call 9; refine (ST.out _).mono ?_; rintro e w5 ⟨rfl, hb5⟩; have hb6 : Below (w3.alloc (.cells #[.int .i64 0, .bool false, .int .i64 0] 23)).heap.size (w3.alloc (.cells #[.int .i64 0, .bool false, .int .i64 0] 23)) w5 := (Below.refl _ _).drew.trans hb5; obtain ⟨bx, hW, hz5⟩ := boxes1 hb6; obtain ⟨d0, g0, d1, g1, d2, g2, _⟩ := bx; have X5 := X3.out.below hW q3; have HF := Lib.hid (HB3.out.trans (hW.mono HB3.out.size)); clear c0 f0 c1 f1 c2 f2 hb5 hb6 hW; obtain ⟨c0, f0, c1, f1, c2, f2, _⟩ := X5))
  all_goals
    go_wp2
    go_ret
    exact ⟨rfl, HF.out⟩
set_option maxRecDepth 100000 in
set_option maxHeartbeats 4000000 in
theorem badA1 (n : Int) (v : Bool) (c : Int) (x : Bool) (o : Int) (s : Bool) (w : World) (hi1 : -9223372036854775808 ≤ c ∧ c ≤ 9223372036854775807) (hi2 : -9223372036854775808 ≤ o ∧ o ≤ 9223372036854775807) (n1 : ¬ 1 ≤ n) (hN : NewIs n v 0 false 1) (hr : ¬ RightB c o) (r1 : ¬ 1 ≤ c) : Post n v c x o s w := by
  have HK := Lib.hid fun W => awake_any W
  have h1 := fun W => right_any c x o W
  rw [right_no hr] at h1
  have HR := Lib.hid h1
  have ST := Lib.hid fun W => step_bad c x o s hr W
  clear h1 hr
  unfold NewIs at hN
  unfold Post
  have HN := Lib.hid hN
  clear hN
  go_enter Try.func3, Try.ntmps3
  go_upto_region 18 with (first
    | (go_at_call 6; ((with_reducible refine (HK.out _).mono ?_); rintro e w1 ⟨rfl, hb⟩; obtain ⟨bx, hW, hz1⟩ := boxes1 hb; have HB1 := Lib.hid hW; have X1 := Lib.hid bx; obtain ⟨c0, f0, c1, f1, c2, f2, _⟩ := bx; clear hb hW))
    | (go_at_call 7; ((with_reducible refine (HN.out _).mono ?_); rintro e w2 ⟨rfl, hb⟩; have HB2 := Lib.hid (HB1.out.trans (hb.mono HB1.out.size)); have X2 := Lib.hid (X1.out.below hb hz1); have hz2 := hb.size; clear c0 f0 c1 f1 c2 f2 hb; obtain ⟨c0, f0, c1, f1, c2, f2, _⟩ := X2.out; have q2 : w.heap.size < w2.heap.size := (by omega)))
    | (go_at_call 8; ((with_reducible refine (HR.out _).mono ?_); rintro e w3 ⟨rfl, hb⟩; have HB3 := Lib.hid ((HB2.out.alloc HB2.out.size _).trans (hb.mono (by simp; omega))); have X3 := Lib.hid ((X2.out.below ((Below.refl w2.heap.size w2).alloc (Nat.le_refl _) _) q2).below hb (by simp; omega)); have hz3 : w2.heap.size < w3.heap.size := (Nat.lt_of_lt_of_le (by simp) hb.size); clear c0 f0 c1 f1 c2 f2 hb; obtain ⟨c0, f0, c1, f1, c2, f2, _⟩ := X3.out; have q3 : w.heap.size < w3.heap.size := (by omega); have q3b : w.heap.size < w3.heap.size + 1 := (by omega); have n3 : ¬ w.heap.size = w3.heap.size := (by omega); have n3b : ¬ w3.heap.size = w.heap.size := (by omega))))
  go_region_held3 (fun w' => w'.cell? ⟨w.heap.size, 0, none⟩ = some (.int .i64 c) ∧ w'.cell? ⟨w.heap.size, 1, none⟩ = some (.bool x) ∧ w'.cell? ⟨w.heap.size, 2, none⟩ = some (.int .i64 o) ∧ w'.cell? ⟨w3.heap.size, 0, none⟩ = some (.int .i64 0) ∧ w'.cell? ⟨w3.heap.size, 1, none⟩ = some (.bool false) ∧ w'.cell? ⟨w3.heap.size, 2, none⟩ = some (.int .i64 0))
    (go_keep)
    ((go_at_call 9; refine (ST.out _).mono ?_; rintro e w5 ⟨rfl, hb5⟩; have hb6 : Below (w3.alloc (.cells #[.int .i64 0, .bool false, .int .i64 0] 23)).heap.size (w3.alloc (.cells #[.int .i64 0, .bool false, .int .i64 0] 23)) w5 := (Below.refl _ _).drew.trans hb5; obtain ⟨bx, hW, hz5⟩ := boxes1 hb6; obtain ⟨d0, g0, d1, g1, d2, g2, _⟩ := bx; have X5 := X3.out.below hW q3; have HF := Lib.hid (HB3.out.trans (hW.mono HB3.out.size)); clear c0 f0 c1 f1 c2 f2 hb5 hb6 hW; obtain ⟨c0, f0, c1, f1, c2, f2, _⟩ := X5))
  all_goals
    go_wp2
    go_ret
    exact ⟨rfl, HF.out⟩
set_option maxRecDepth 100000 in
set_option maxHeartbeats 4000000 in
theorem badA2 (n : Int) (v : Bool) (c : Int) (x : Bool) (o : Int) (s : Bool) (w : World) (hi1 : -9223372036854775808 ≤ c ∧ c ≤ 9223372036854775807) (hi2 : -9223372036854775808 ≤ o ∧ o ≤ 9223372036854775807) (n1 : 1 ≤ n) (n2 : ¬ n ≤ 20) (hN : NewIs n v 0 false 1) (hr : ¬ RightB c o) (r1 : ¬ 1 ≤ c) : Post n v c x o s w := by
  have HK := Lib.hid fun W => awake_any W
  have h1 := fun W => right_any c x o W
  rw [right_no hr] at h1
  have HR := Lib.hid h1
  have ST := Lib.hid fun W => step_bad c x o s hr W
  clear h1 hr
  unfold NewIs at hN
  unfold Post
  have HN := Lib.hid hN
  clear hN
  go_enter Try.func3, Try.ntmps3
  go_upto_region 18 with (first
    | (go_at_call 6; ((with_reducible refine (HK.out _).mono ?_); rintro e w1 ⟨rfl, hb⟩; obtain ⟨bx, hW, hz1⟩ := boxes1 hb; have HB1 := Lib.hid hW; have X1 := Lib.hid bx; obtain ⟨c0, f0, c1, f1, c2, f2, _⟩ := bx; clear hb hW))
    | (go_at_call 7; ((with_reducible refine (HN.out _).mono ?_); rintro e w2 ⟨rfl, hb⟩; have HB2 := Lib.hid (HB1.out.trans (hb.mono HB1.out.size)); have X2 := Lib.hid (X1.out.below hb hz1); have hz2 := hb.size; clear c0 f0 c1 f1 c2 f2 hb; obtain ⟨c0, f0, c1, f1, c2, f2, _⟩ := X2.out; have q2 : w.heap.size < w2.heap.size := (by omega)))
    | (go_at_call 8; ((with_reducible refine (HR.out _).mono ?_); rintro e w3 ⟨rfl, hb⟩; have HB3 := Lib.hid ((HB2.out.alloc HB2.out.size _).trans (hb.mono (by simp; omega))); have X3 := Lib.hid ((X2.out.below ((Below.refl w2.heap.size w2).alloc (Nat.le_refl _) _) q2).below hb (by simp; omega)); have hz3 : w2.heap.size < w3.heap.size := (Nat.lt_of_lt_of_le (by simp) hb.size); clear c0 f0 c1 f1 c2 f2 hb; obtain ⟨c0, f0, c1, f1, c2, f2, _⟩ := X3.out; have q3 : w.heap.size < w3.heap.size := (by omega); have q3b : w.heap.size < w3.heap.size + 1 := (by omega); have n3 : ¬ w.heap.size = w3.heap.size := (by omega); have n3b : ¬ w3.heap.size = w.heap.size := (by omega))))
  go_region_held3 (fun w' => w'.cell? ⟨w.heap.size, 0, none⟩ = some (.int .i64 c) ∧ w'.cell? ⟨w.heap.size, 1, none⟩ = some (.bool x) ∧ w'.cell? ⟨w.heap.size, 2, none⟩ = some (.int .i64 o) ∧ w'.cell? ⟨w3.heap.size, 0, none⟩ = some (.int .i64 0) ∧ w'.cell? ⟨w3.heap.size, 1, none⟩ = some (.bool false) ∧ w'.cell? ⟨w3.heap.size, 2, none⟩ = some (.int .i64 0))
    (go_keep)
    ((go_at_call 9; refine (ST.out _).mono ?_; rintro e w5 ⟨rfl, hb5⟩; have hb6 : Below (w3.alloc (.cells #[.int .i64 0, .bool false, .int .i64 0] 23)).heap.size (w3.alloc (.cells #[.int .i64 0, .bool false, .int .i64 0] 23)) w5 := (Below.refl _ _).drew.trans hb5; obtain ⟨bx, hW, hz5⟩ := boxes1 hb6; obtain ⟨d0, g0, d1, g1, d2, g2, _⟩ := bx; have X5 := X3.out.below hW q3; have HF := Lib.hid (HB3.out.trans (hW.mono HB3.out.size)); clear c0 f0 c1 f1 c2 f2 hb5 hb6 hW; obtain ⟨c0, f0, c1, f1, c2, f2, _⟩ := X5))
  all_goals
    go_wp2
    go_ret
    exact ⟨rfl, HF.out⟩
set_option maxRecDepth 100000 in
set_option maxHeartbeats 4000000 in
theorem badB0 (n : Int) (v : Bool) (c : Int) (x : Bool) (o : Int) (s : Bool) (w : World) (hi1 : -9223372036854775808 ≤ c ∧ c ≤ 9223372036854775807) (hi2 : -9223372036854775808 ≤ o ∧ o ≤ 9223372036854775807) (n1 : 1 ≤ n) (n2 : n ≤ 20) (hN : NewIs n v n v 0) (hr : ¬ RightB c o) (r1 : 1 ≤ c) (r2 : ¬ c ≤ 20) : Post n v c x o s w := by
  have HK := Lib.hid fun W => awake_any W
  have h1 := fun W => right_any c x o W
  rw [right_no hr] at h1
  have HR := Lib.hid h1
  have ST := Lib.hid fun W => step_bad c x o s hr W
  clear h1 hr
  unfold NewIs at hN
  unfold Post
  have HN := Lib.hid hN
  clear hN
  go_enter Try.func3, Try.ntmps3
  go_upto_region 18 with (first
    | (go_at_call 6; ((with_reducible refine (HK.out _).mono ?_); rintro e w1 ⟨rfl, hb⟩; obtain ⟨bx, hW, hz1⟩ := boxes1 hb; have HB1 := Lib.hid hW; have X1 := Lib.hid bx; obtain ⟨c0, f0, c1, f1, c2, f2, _⟩ := bx; clear hb hW))
    | (go_at_call 7; ((with_reducible refine (HN.out _).mono ?_); rintro e w2 ⟨rfl, hb⟩; have HB2 := Lib.hid (HB1.out.trans (hb.mono HB1.out.size)); have X2 := Lib.hid (X1.out.below hb hz1); have hz2 := hb.size; clear c0 f0 c1 f1 c2 f2 hb; obtain ⟨c0, f0, c1, f1, c2, f2, _⟩ := X2.out; have q2 : w.heap.size < w2.heap.size := (by omega)))
    | (go_at_call 8; ((with_reducible refine (HR.out _).mono ?_); rintro e w3 ⟨rfl, hb⟩; have HB3 := Lib.hid ((HB2.out.alloc HB2.out.size _).trans (hb.mono (by simp; omega))); have X3 := Lib.hid ((X2.out.below ((Below.refl w2.heap.size w2).alloc (Nat.le_refl _) _) q2).below hb (by simp; omega)); have hz3 : w2.heap.size < w3.heap.size := (Nat.lt_of_lt_of_le (by simp) hb.size); clear c0 f0 c1 f1 c2 f2 hb; obtain ⟨c0, f0, c1, f1, c2, f2, _⟩ := X3.out; have q3 : w.heap.size < w3.heap.size := (by omega); have q3b : w.heap.size < w3.heap.size + 1 := (by omega); have n3 : ¬ w.heap.size = w3.heap.size := (by omega); have n3b : ¬ w3.heap.size = w.heap.size := (by omega))))
  go_region_held3 (fun w' => w'.cell? ⟨w.heap.size, 0, none⟩ = some (.int .i64 c) ∧ w'.cell? ⟨w.heap.size, 1, none⟩ = some (.bool x) ∧ w'.cell? ⟨w.heap.size, 2, none⟩ = some (.int .i64 o) ∧ w'.cell? ⟨w3.heap.size, 0, none⟩ = some (.int .i64 0) ∧ w'.cell? ⟨w3.heap.size, 1, none⟩ = some (.bool false) ∧ w'.cell? ⟨w3.heap.size, 2, none⟩ = some (.int .i64 0))
    (go_keep)
    ((go_at_call 9; refine (ST.out _).mono ?_; rintro e w5 ⟨rfl, hb5⟩; have hb6 : Below (w3.alloc (.cells #[.int .i64 0, .bool false, .int .i64 0] 23)).heap.size (w3.alloc (.cells #[.int .i64 0, .bool false, .int .i64 0] 23)) w5 := (Below.refl _ _).drew.trans hb5; obtain ⟨bx, hW, hz5⟩ := boxes1 hb6; obtain ⟨d0, g0, d1, g1, d2, g2, _⟩ := bx; have X5 := X3.out.below hW q3; have HF := Lib.hid (HB3.out.trans (hW.mono HB3.out.size)); clear c0 f0 c1 f1 c2 f2 hb5 hb6 hW; obtain ⟨c0, f0, c1, f1, c2, f2, _⟩ := X5))
  all_goals
    go_wp2
    go_ret
    exact ⟨rfl, HF.out⟩
set_option maxRecDepth 100000 in
set_option maxHeartbeats 4000000 in
theorem badB1 (n : Int) (v : Bool) (c : Int) (x : Bool) (o : Int) (s : Bool) (w : World) (hi1 : -9223372036854775808 ≤ c ∧ c ≤ 9223372036854775807) (hi2 : -9223372036854775808 ≤ o ∧ o ≤ 9223372036854775807) (n1 : ¬ 1 ≤ n) (hN : NewIs n v 0 false 1) (hr : ¬ RightB c o) (r1 : 1 ≤ c) (r2 : ¬ c ≤ 20) : Post n v c x o s w := by
  have HK := Lib.hid fun W => awake_any W
  have h1 := fun W => right_any c x o W
  rw [right_no hr] at h1
  have HR := Lib.hid h1
  have ST := Lib.hid fun W => step_bad c x o s hr W
  clear h1 hr
  unfold NewIs at hN
  unfold Post
  have HN := Lib.hid hN
  clear hN
  go_enter Try.func3, Try.ntmps3
  go_upto_region 18 with (first
    | (go_at_call 6; ((with_reducible refine (HK.out _).mono ?_); rintro e w1 ⟨rfl, hb⟩; obtain ⟨bx, hW, hz1⟩ := boxes1 hb; have HB1 := Lib.hid hW; have X1 := Lib.hid bx; obtain ⟨c0, f0, c1, f1, c2, f2, _⟩ := bx; clear hb hW))
    | (go_at_call 7; ((with_reducible refine (HN.out _).mono ?_); rintro e w2 ⟨rfl, hb⟩; have HB2 := Lib.hid (HB1.out.trans (hb.mono HB1.out.size)); have X2 := Lib.hid (X1.out.below hb hz1); have hz2 := hb.size; clear c0 f0 c1 f1 c2 f2 hb; obtain ⟨c0, f0, c1, f1, c2, f2, _⟩ := X2.out; have q2 : w.heap.size < w2.heap.size := (by omega)))
    | (go_at_call 8; ((with_reducible refine (HR.out _).mono ?_); rintro e w3 ⟨rfl, hb⟩; have HB3 := Lib.hid ((HB2.out.alloc HB2.out.size _).trans (hb.mono (by simp; omega))); have X3 := Lib.hid ((X2.out.below ((Below.refl w2.heap.size w2).alloc (Nat.le_refl _) _) q2).below hb (by simp; omega)); have hz3 : w2.heap.size < w3.heap.size := (Nat.lt_of_lt_of_le (by simp) hb.size); clear c0 f0 c1 f1 c2 f2 hb; obtain ⟨c0, f0, c1, f1, c2, f2, _⟩ := X3.out; have q3 : w.heap.size < w3.heap.size := (by omega); have q3b : w.heap.size < w3.heap.size + 1 := (by omega); have n3 : ¬ w.heap.size = w3.heap.size := (by omega); have n3b : ¬ w3.heap.size = w.heap.size := (by omega))))
  go_region_held3 (fun w' => w'.cell? ⟨w.heap.size, 0, none⟩ = some (.int .i64 c) ∧ w'.cell? ⟨w.heap.size, 1, none⟩ = some (.bool x) ∧ w'.cell? ⟨w.heap.size, 2, none⟩ = some (.int .i64 o) ∧ w'.cell? ⟨w3.heap.size, 0, none⟩ = some (.int .i64 0) ∧ w'.cell? ⟨w3.heap.size, 1, none⟩ = some (.bool false) ∧ w'.cell? ⟨w3.heap.size, 2, none⟩ = some (.int .i64 0))
    (go_keep)
    ((go_at_call 9; refine (ST.out _).mono ?_; rintro e w5 ⟨rfl, hb5⟩; have hb6 : Below (w3.alloc (.cells #[.int .i64 0, .bool false, .int .i64 0] 23)).heap.size (w3.alloc (.cells #[.int .i64 0, .bool false, .int .i64 0] 23)) w5 := (Below.refl _ _).drew.trans hb5; obtain ⟨bx, hW, hz5⟩ := boxes1 hb6; obtain ⟨d0, g0, d1, g1, d2, g2, _⟩ := bx; have X5 := X3.out.below hW q3; have HF := Lib.hid (HB3.out.trans (hW.mono HB3.out.size)); clear c0 f0 c1 f1 c2 f2 hb5 hb6 hW; obtain ⟨c0, f0, c1, f1, c2, f2, _⟩ := X5))
  all_goals
    go_wp2
    go_ret
    exact ⟨rfl, HF.out⟩
set_option maxRecDepth 100000 in
set_option maxHeartbeats 4000000 in
theorem badB2 (n : Int) (v : Bool) (c : Int) (x : Bool) (o : Int) (s : Bool) (w : World) (hi1 : -9223372036854775808 ≤ c ∧ c ≤ 9223372036854775807) (hi2 : -9223372036854775808 ≤ o ∧ o ≤ 9223372036854775807) (n1 : 1 ≤ n) (n2 : ¬ n ≤ 20) (hN : NewIs n v 0 false 1) (hr : ¬ RightB c o) (r1 : 1 ≤ c) (r2 : ¬ c ≤ 20) : Post n v c x o s w := by
  have HK := Lib.hid fun W => awake_any W
  have h1 := fun W => right_any c x o W
  rw [right_no hr] at h1
  have HR := Lib.hid h1
  have ST := Lib.hid fun W => step_bad c x o s hr W
  clear h1 hr
  unfold NewIs at hN
  unfold Post
  have HN := Lib.hid hN
  clear hN
  go_enter Try.func3, Try.ntmps3
  go_upto_region 18 with (first
    | (go_at_call 6; ((with_reducible refine (HK.out _).mono ?_); rintro e w1 ⟨rfl, hb⟩; obtain ⟨bx, hW, hz1⟩ := boxes1 hb; have HB1 := Lib.hid hW; have X1 := Lib.hid bx; obtain ⟨c0, f0, c1, f1, c2, f2, _⟩ := bx; clear hb hW))
    | (go_at_call 7; ((with_reducible refine (HN.out _).mono ?_); rintro e w2 ⟨rfl, hb⟩; have HB2 := Lib.hid (HB1.out.trans (hb.mono HB1.out.size)); have X2 := Lib.hid (X1.out.below hb hz1); have hz2 := hb.size; clear c0 f0 c1 f1 c2 f2 hb; obtain ⟨c0, f0, c1, f1, c2, f2, _⟩ := X2.out; have q2 : w.heap.size < w2.heap.size := (by omega)))
    | (go_at_call 8; ((with_reducible refine (HR.out _).mono ?_); rintro e w3 ⟨rfl, hb⟩; have HB3 := Lib.hid ((HB2.out.alloc HB2.out.size _).trans (hb.mono (by simp; omega))); have X3 := Lib.hid ((X2.out.below ((Below.refl w2.heap.size w2).alloc (Nat.le_refl _) _) q2).below hb (by simp; omega)); have hz3 : w2.heap.size < w3.heap.size := (Nat.lt_of_lt_of_le (by simp) hb.size); clear c0 f0 c1 f1 c2 f2 hb; obtain ⟨c0, f0, c1, f1, c2, f2, _⟩ := X3.out; have q3 : w.heap.size < w3.heap.size := (by omega); have q3b : w.heap.size < w3.heap.size + 1 := (by omega); have n3 : ¬ w.heap.size = w3.heap.size := (by omega); have n3b : ¬ w3.heap.size = w.heap.size := (by omega))))
  go_region_held3 (fun w' => w'.cell? ⟨w.heap.size, 0, none⟩ = some (.int .i64 c) ∧ w'.cell? ⟨w.heap.size, 1, none⟩ = some (.bool x) ∧ w'.cell? ⟨w.heap.size, 2, none⟩ = some (.int .i64 o) ∧ w'.cell? ⟨w3.heap.size, 0, none⟩ = some (.int .i64 0) ∧ w'.cell? ⟨w3.heap.size, 1, none⟩ = some (.bool false) ∧ w'.cell? ⟨w3.heap.size, 2, none⟩ = some (.int .i64 0))
    (go_keep)
    ((go_at_call 9; refine (ST.out _).mono ?_; rintro e w5 ⟨rfl, hb5⟩; have hb6 : Below (w3.alloc (.cells #[.int .i64 0, .bool false, .int .i64 0] 23)).heap.size (w3.alloc (.cells #[.int .i64 0, .bool false, .int .i64 0] 23)) w5 := (Below.refl _ _).drew.trans hb5; obtain ⟨bx, hW, hz5⟩ := boxes1 hb6; obtain ⟨d0, g0, d1, g1, d2, g2, _⟩ := bx; have X5 := X3.out.below hW q3; have HF := Lib.hid (HB3.out.trans (hW.mono HB3.out.size)); clear c0 f0 c1 f1 c2 f2 hb5 hb6 hW; obtain ⟨c0, f0, c1, f1, c2, f2, _⟩ := X5))
  all_goals
    go_wp2
    go_ret
    exact ⟨rfl, HF.out⟩
set_option maxRecDepth 100000 in
set_option maxHeartbeats 4000000 in
theorem badC0 (n : Int) (v : Bool) (c : Int) (x : Bool) (o : Int) (s : Bool) (w : World) (hi1 : -9223372036854775808 ≤ c ∧ c ≤ 9223372036854775807) (hi2 : -9223372036854775808 ≤ o ∧ o ≤ 9223372036854775807) (n1 : 1 ≤ n) (n2 : n ≤ 20) (hN : NewIs n v n v 0) (hr : ¬ RightB c o) (r1 : 1 ≤ c) (r2 : c ≤ 20) (r3 : ¬ 0 ≤ o) : Post n v c x o s w := by
  have HK := Lib.hid fun W => awake_any W
  have h1 := fun W => right_any c x o W
  rw [right_no hr] at h1
  have HR := Lib.hid h1
  have ST := Lib.hid fun W => step_bad c x o s hr W
  clear h1 hr
  unfold NewIs at hN
  unfold Post
  have HN := Lib.hid hN
  clear hN
  go_enter Try.func3, Try.ntmps3
  go_upto_region 18 with (first
    | (go_at_call 6; ((with_reducible refine (HK.out _).mono ?_); rintro e w1 ⟨rfl, hb⟩; obtain ⟨bx, hW, hz1⟩ := boxes1 hb; have HB1 := Lib.hid hW; have X1 := Lib.hid bx; obtain ⟨c0, f0, c1, f1, c2, f2, _⟩ := bx; clear hb hW))
    | (go_at_call 7; ((with_reducible refine (HN.out _).mono ?_); rintro e w2 ⟨rfl, hb⟩; have HB2 := Lib.hid (HB1.out.trans (hb.mono HB1.out.size)); have X2 := Lib.hid (X1.out.below hb hz1); have hz2 := hb.size; clear c0 f0 c1 f1 c2 f2 hb; obtain ⟨c0, f0, c1, f1, c2, f2, _⟩ := X2.out; have q2 : w.heap.size < w2.heap.size := (by omega)))
    | (go_at_call 8; ((with_reducible refine (HR.out _).mono ?_); rintro e w3 ⟨rfl, hb⟩; have HB3 := Lib.hid ((HB2.out.alloc HB2.out.size _).trans (hb.mono (by simp; omega))); have X3 := Lib.hid ((X2.out.below ((Below.refl w2.heap.size w2).alloc (Nat.le_refl _) _) q2).below hb (by simp; omega)); have hz3 : w2.heap.size < w3.heap.size := (Nat.lt_of_lt_of_le (by simp) hb.size); clear c0 f0 c1 f1 c2 f2 hb; obtain ⟨c0, f0, c1, f1, c2, f2, _⟩ := X3.out; have q3 : w.heap.size < w3.heap.size := (by omega); have q3b : w.heap.size < w3.heap.size + 1 := (by omega); have n3 : ¬ w.heap.size = w3.heap.size := (by omega); have n3b : ¬ w3.heap.size = w.heap.size := (by omega))))
  go_region_held3 (fun w' => w'.cell? ⟨w.heap.size, 0, none⟩ = some (.int .i64 c) ∧ w'.cell? ⟨w.heap.size, 1, none⟩ = some (.bool x) ∧ w'.cell? ⟨w.heap.size, 2, none⟩ = some (.int .i64 o) ∧ w'.cell? ⟨w3.heap.size, 0, none⟩ = some (.int .i64 0) ∧ w'.cell? ⟨w3.heap.size, 1, none⟩ = some (.bool false) ∧ w'.cell? ⟨w3.heap.size, 2, none⟩ = some (.int .i64 0))
    (go_keep)
    ((go_at_call 9; refine (ST.out _).mono ?_; rintro e w5 ⟨rfl, hb5⟩; have hb6 : Below (w3.alloc (.cells #[.int .i64 0, .bool false, .int .i64 0] 23)).heap.size (w3.alloc (.cells #[.int .i64 0, .bool false, .int .i64 0] 23)) w5 := (Below.refl _ _).drew.trans hb5; obtain ⟨bx, hW, hz5⟩ := boxes1 hb6; obtain ⟨d0, g0, d1, g1, d2, g2, _⟩ := bx; have X5 := X3.out.below hW q3; have HF := Lib.hid (HB3.out.trans (hW.mono HB3.out.size)); clear c0 f0 c1 f1 c2 f2 hb5 hb6 hW; obtain ⟨c0, f0, c1, f1, c2, f2, _⟩ := X5))
  all_goals
    go_wp2
    go_ret
    exact ⟨rfl, HF.out⟩
set_option maxRecDepth 100000 in
set_option maxHeartbeats 4000000 in
theorem badC1 (n : Int) (v : Bool) (c : Int) (x : Bool) (o : Int) (s : Bool) (w : World) (hi1 : -9223372036854775808 ≤ c ∧ c ≤ 9223372036854775807) (hi2 : -9223372036854775808 ≤ o ∧ o ≤ 9223372036854775807) (n1 : ¬ 1 ≤ n) (hN : NewIs n v 0 false 1) (hr : ¬ RightB c o) (r1 : 1 ≤ c) (r2 : c ≤ 20) (r3 : ¬ 0 ≤ o) : Post n v c x o s w := by
  have HK := Lib.hid fun W => awake_any W
  have h1 := fun W => right_any c x o W
  rw [right_no hr] at h1
  have HR := Lib.hid h1
  have ST := Lib.hid fun W => step_bad c x o s hr W
  clear h1 hr
  unfold NewIs at hN
  unfold Post
  have HN := Lib.hid hN
  clear hN
  go_enter Try.func3, Try.ntmps3
  go_upto_region 18 with (first
    | (go_at_call 6; ((with_reducible refine (HK.out _).mono ?_); rintro e w1 ⟨rfl, hb⟩; obtain ⟨bx, hW, hz1⟩ := boxes1 hb; have HB1 := Lib.hid hW; have X1 := Lib.hid bx; obtain ⟨c0, f0, c1, f1, c2, f2, _⟩ := bx; clear hb hW))
    | (go_at_call 7; ((with_reducible refine (HN.out _).mono ?_); rintro e w2 ⟨rfl, hb⟩; have HB2 := Lib.hid (HB1.out.trans (hb.mono HB1.out.size)); have X2 := Lib.hid (X1.out.below hb hz1); have hz2 := hb.size; clear c0 f0 c1 f1 c2 f2 hb; obtain ⟨c0, f0, c1, f1, c2, f2, _⟩ := X2.out; have q2 : w.heap.size < w2.heap.size := (by omega)))
    | (go_at_call 8; ((with_reducible refine (HR.out _).mono ?_); rintro e w3 ⟨rfl, hb⟩; have HB3 := Lib.hid ((HB2.out.alloc HB2.out.size _).trans (hb.mono (by simp; omega))); have X3 := Lib.hid ((X2.out.below ((Below.refl w2.heap.size w2).alloc (Nat.le_refl _) _) q2).below hb (by simp; omega)); have hz3 : w2.heap.size < w3.heap.size := (Nat.lt_of_lt_of_le (by simp) hb.size); clear c0 f0 c1 f1 c2 f2 hb; obtain ⟨c0, f0, c1, f1, c2, f2, _⟩ := X3.out; have q3 : w.heap.size < w3.heap.size := (by omega); have q3b : w.heap.size < w3.heap.size + 1 := (by omega); have n3 : ¬ w.heap.size = w3.heap.size := (by omega); have n3b : ¬ w3.heap.size = w.heap.size := (by omega))))
  go_region_held3 (fun w' => w'.cell? ⟨w.heap.size, 0, none⟩ = some (.int .i64 c) ∧ w'.cell? ⟨w.heap.size, 1, none⟩ = some (.bool x) ∧ w'.cell? ⟨w.heap.size, 2, none⟩ = some (.int .i64 o) ∧ w'.cell? ⟨w3.heap.size, 0, none⟩ = some (.int .i64 0) ∧ w'.cell? ⟨w3.heap.size, 1, none⟩ = some (.bool false) ∧ w'.cell? ⟨w3.heap.size, 2, none⟩ = some (.int .i64 0))
    (go_keep)
    ((go_at_call 9; refine (ST.out _).mono ?_; rintro e w5 ⟨rfl, hb5⟩; have hb6 : Below (w3.alloc (.cells #[.int .i64 0, .bool false, .int .i64 0] 23)).heap.size (w3.alloc (.cells #[.int .i64 0, .bool false, .int .i64 0] 23)) w5 := (Below.refl _ _).drew.trans hb5; obtain ⟨bx, hW, hz5⟩ := boxes1 hb6; obtain ⟨d0, g0, d1, g1, d2, g2, _⟩ := bx; have X5 := X3.out.below hW q3; have HF := Lib.hid (HB3.out.trans (hW.mono HB3.out.size)); clear c0 f0 c1 f1 c2 f2 hb5 hb6 hW; obtain ⟨c0, f0, c1, f1, c2, f2, _⟩ := X5))
  all_goals
    go_wp2
    go_ret
    exact ⟨rfl, HF.out⟩
set_option maxRecDepth 100000 in
set_option maxHeartbeats 4000000 in
theorem badC2 (n : Int) (v : Bool) (c : Int) (x : Bool) (o : Int) (s : Bool) (w : World) (hi1 : -9223372036854775808 ≤ c ∧ c ≤ 9223372036854775807) (hi2 : -9223372036854775808 ≤ o ∧ o ≤ 9223372036854775807) (n1 : 1 ≤ n) (n2 : ¬ n ≤ 20) (hN : NewIs n v 0 false 1) (hr : ¬ RightB c o) (r1 : 1 ≤ c) (r2 : c ≤ 20) (r3 : ¬ 0 ≤ o) : Post n v c x o s w := by
  have HK := Lib.hid fun W => awake_any W
  have h1 := fun W => right_any c x o W
  rw [right_no hr] at h1
  have HR := Lib.hid h1
  have ST := Lib.hid fun W => step_bad c x o s hr W
  clear h1 hr
  unfold NewIs at hN
  unfold Post
  have HN := Lib.hid hN
  clear hN
  go_enter Try.func3, Try.ntmps3
  go_upto_region 18 with (first
    | (go_at_call 6; ((with_reducible refine (HK.out _).mono ?_); rintro e w1 ⟨rfl, hb⟩; obtain ⟨bx, hW, hz1⟩ := boxes1 hb; have HB1 := Lib.hid hW; have X1 := Lib.hid bx; obtain ⟨c0, f0, c1, f1, c2, f2, _⟩ := bx; clear hb hW))
    | (go_at_call 7; ((with_reducible refine (HN.out _).mono ?_); rintro e w2 ⟨rfl, hb⟩; have HB2 := Lib.hid (HB1.out.trans (hb.mono HB1.out.size)); have X2 := Lib.hid (X1.out.below hb hz1); have hz2 := hb.size; clear c0 f0 c1 f1 c2 f2 hb; obtain ⟨c0, f0, c1, f1, c2, f2, _⟩ := X2.out; have q2 : w.heap.size < w2.heap.size := (by omega)))
    | (go_at_call 8; ((with_reducible refine (HR.out _).mono ?_); rintro e w3 ⟨rfl, hb⟩; have HB3 := Lib.hid ((HB2.out.alloc HB2.out.size _).trans (hb.mono (by simp; omega))); have X3 := Lib.hid ((X2.out.below ((Below.refl w2.heap.size w2).alloc (Nat.le_refl _) _) q2).below hb (by simp; omega)); have hz3 : w2.heap.size < w3.heap.size := (Nat.lt_of_lt_of_le (by simp) hb.size); clear c0 f0 c1 f1 c2 f2 hb; obtain ⟨c0, f0, c1, f1, c2, f2, _⟩ := X3.out; have q3 : w.heap.size < w3.heap.size := (by omega); have q3b : w.heap.size < w3.heap.size + 1 := (by omega); have n3 : ¬ w.heap.size = w3.heap.size := (by omega); have n3b : ¬ w3.heap.size = w.heap.size := (by omega))))
  go_region_held3 (fun w' => w'.cell? ⟨w.heap.size, 0, none⟩ = some (.int .i64 c) ∧ w'.cell? ⟨w.heap.size, 1, none⟩ = some (.bool x) ∧ w'.cell? ⟨w.heap.size, 2, none⟩ = some (.int .i64 o) ∧ w'.cell? ⟨w3.heap.size, 0, none⟩ = some (.int .i64 0) ∧ w'.cell? ⟨w3.heap.size, 1, none⟩ = some (.bool false) ∧ w'.cell? ⟨w3.heap.size, 2, none⟩ = some (.int .i64 0))
    (go_keep)
    ((go_at_call 9; refine (ST.out _).mono ?_; rintro e w5 ⟨rfl, hb5⟩; have hb6 : Below (w3.alloc (.cells #[.int .i64 0, .bool false, .int .i64 0] 23)).heap.size (w3.alloc (.cells #[.int .i64 0, .bool false, .int .i64 0] 23)) w5 := (Below.refl _ _).drew.trans hb5; obtain ⟨bx, hW, hz5⟩ := boxes1 hb6; obtain ⟨d0, g0, d1, g1, d2, g2, _⟩ := bx; have X5 := X3.out.below hW q3; have HF := Lib.hid (HB3.out.trans (hW.mono HB3.out.size)); clear c0 f0 c1 f1 c2 f2 hb5 hb6 hW; obtain ⟨c0, f0, c1, f1, c2, f2, _⟩ := X5))
  all_goals
    go_wp2
    go_ret
    exact ⟨rfl, HF.out⟩
set_option maxRecDepth 100000 in
set_option maxHeartbeats 4000000 in
theorem badD0 (n : Int) (v : Bool) (c : Int) (x : Bool) (o : Int) (s : Bool) (w : World) (hi1 : -9223372036854775808 ≤ c ∧ c ≤ 9223372036854775807) (hi2 : -9223372036854775808 ≤ o ∧ o ≤ 9223372036854775807) (n1 : 1 ≤ n) (n2 : n ≤ 20) (hN : NewIs n v n v 0) (hr : ¬ RightB c o) (r1 : 1 ≤ c) (r2 : c ≤ 20) (r3 : 0 ≤ o) (r4 : ¬ o ≤ c - 1) : Post n v c x o s w := by
  have HK := Lib.hid fun W => awake_any W
  have h1 := fun W => right_any c x o W
  rw [right_no hr] at h1
  have HR := Lib.hid h1
  have ST := Lib.hid fun W => step_bad c x o s hr W
  clear h1 hr
  have r5 : decide (o ≤ c - 1) = false := decide_eq_false r4
  have r6 : c - 1 < o := by omega
  have r7 : c ≤ o := by omega
  unfold NewIs at hN
  unfold Post
  have HN := Lib.hid hN
  clear hN
  go_enter Try.func3, Try.ntmps3
  go_upto_region 18 with (first
    | (go_at_call 6; ((with_reducible refine (HK.out _).mono ?_); rintro e w1 ⟨rfl, hb⟩; obtain ⟨bx, hW, hz1⟩ := boxes1 hb; have HB1 := Lib.hid hW; have X1 := Lib.hid bx; obtain ⟨c0, f0, c1, f1, c2, f2, _⟩ := bx; clear hb hW))
    | (go_at_call 7; ((with_reducible refine (HN.out _).mono ?_); rintro e w2 ⟨rfl, hb⟩; have HB2 := Lib.hid (HB1.out.trans (hb.mono HB1.out.size)); have X2 := Lib.hid (X1.out.below hb hz1); have hz2 := hb.size; clear c0 f0 c1 f1 c2 f2 hb; obtain ⟨c0, f0, c1, f1, c2, f2, _⟩ := X2.out; have q2 : w.heap.size < w2.heap.size := (by omega)))
    | (go_at_call 8; ((with_reducible refine (HR.out _).mono ?_); rintro e w3 ⟨rfl, hb⟩; have HB3 := Lib.hid ((HB2.out.alloc HB2.out.size _).trans (hb.mono (by simp; omega))); have X3 := Lib.hid ((X2.out.below ((Below.refl w2.heap.size w2).alloc (Nat.le_refl _) _) q2).below hb (by simp; omega)); have hz3 : w2.heap.size < w3.heap.size := (Nat.lt_of_lt_of_le (by simp) hb.size); clear c0 f0 c1 f1 c2 f2 hb; obtain ⟨c0, f0, c1, f1, c2, f2, _⟩ := X3.out; have q3 : w.heap.size < w3.heap.size := (by omega); have q3b : w.heap.size < w3.heap.size + 1 := (by omega); have n3 : ¬ w.heap.size = w3.heap.size := (by omega); have n3b : ¬ w3.heap.size = w.heap.size := (by omega))))
  go_region_held3 (fun w' => w'.cell? ⟨w.heap.size, 0, none⟩ = some (.int .i64 c) ∧ w'.cell? ⟨w.heap.size, 1, none⟩ = some (.bool x) ∧ w'.cell? ⟨w.heap.size, 2, none⟩ = some (.int .i64 o) ∧ w'.cell? ⟨w3.heap.size, 0, none⟩ = some (.int .i64 0) ∧ w'.cell? ⟨w3.heap.size, 1, none⟩ = some (.bool false) ∧ w'.cell? ⟨w3.heap.size, 2, none⟩ = some (.int .i64 0))
    (go_keep)
    ((go_at_call 9; refine (ST.out _).mono ?_; rintro e w5 ⟨rfl, hb5⟩; have hb6 : Below (w3.alloc (.cells #[.int .i64 0, .bool false, .int .i64 0] 23)).heap.size (w3.alloc (.cells #[.int .i64 0, .bool false, .int .i64 0] 23)) w5 := (Below.refl _ _).drew.trans hb5; obtain ⟨bx, hW, hz5⟩ := boxes1 hb6; obtain ⟨d0, g0, d1, g1, d2, g2, _⟩ := bx; have X5 := X3.out.below hW q3; have HF := Lib.hid (HB3.out.trans (hW.mono HB3.out.size)); clear c0 f0 c1 f1 c2 f2 hb5 hb6 hW; obtain ⟨c0, f0, c1, f1, c2, f2, _⟩ := X5))
  all_goals
    go_wp2
    go_ret
    exact ⟨rfl, HF.out⟩
set_option maxRecDepth 100000 in
set_option maxHeartbeats 4000000 in
theorem badD1 (n : Int) (v : Bool) (c : Int) (x : Bool) (o : Int) (s : Bool) (w : World) (hi1 : -9223372036854775808 ≤ c ∧ c ≤ 9223372036854775807) (hi2 : -9223372036854775808 ≤ o ∧ o ≤ 9223372036854775807) (n1 : ¬ 1 ≤ n) (hN : NewIs n v 0 false 1) (hr : ¬ RightB c o) (r1 : 1 ≤ c) (r2 : c ≤ 20) (r3 : 0 ≤ o) (r4 : ¬ o ≤ c - 1) : Post n v c x o s w := by
  have HK := Lib.hid fun W => awake_any W
  have h1 := fun W => right_any c x o W
  rw [right_no hr] at h1
  have HR := Lib.hid h1
  have ST := Lib.hid fun W => step_bad c x o s hr W
  clear h1 hr
  have r5 : decide (o ≤ c - 1) = false := decide_eq_false r4
  have r6 : c - 1 < o := by omega
  have r7 : c ≤ o := by omega
  unfold NewIs at hN
  unfold Post
  have HN := Lib.hid hN
  clear hN
  go_enter Try.func3, Try.ntmps3
  go_upto_region 18 with (first
    | (go_at_call 6; ((with_reducible refine (HK.out _).mono ?_); rintro e w1 ⟨rfl, hb⟩; obtain ⟨bx, hW, hz1⟩ := boxes1 hb; have HB1 := Lib.hid hW; have X1 := Lib.hid bx; obtain ⟨c0, f0, c1, f1, c2, f2, _⟩ := bx; clear hb hW))
    | (go_at_call 7; ((with_reducible refine (HN.out _).mono ?_); rintro e w2 ⟨rfl, hb⟩; have HB2 := Lib.hid (HB1.out.trans (hb.mono HB1.out.size)); have X2 := Lib.hid (X1.out.below hb hz1); have hz2 := hb.size; clear c0 f0 c1 f1 c2 f2 hb; obtain ⟨c0, f0, c1, f1, c2, f2, _⟩ := X2.out; have q2 : w.heap.size < w2.heap.size := (by omega)))
    | (go_at_call 8; ((with_reducible refine (HR.out _).mono ?_); rintro e w3 ⟨rfl, hb⟩; have HB3 := Lib.hid ((HB2.out.alloc HB2.out.size _).trans (hb.mono (by simp; omega))); have X3 := Lib.hid ((X2.out.below ((Below.refl w2.heap.size w2).alloc (Nat.le_refl _) _) q2).below hb (by simp; omega)); have hz3 : w2.heap.size < w3.heap.size := (Nat.lt_of_lt_of_le (by simp) hb.size); clear c0 f0 c1 f1 c2 f2 hb; obtain ⟨c0, f0, c1, f1, c2, f2, _⟩ := X3.out; have q3 : w.heap.size < w3.heap.size := (by omega); have q3b : w.heap.size < w3.heap.size + 1 := (by omega); have n3 : ¬ w.heap.size = w3.heap.size := (by omega); have n3b : ¬ w3.heap.size = w.heap.size := (by omega))))
  go_region_held3 (fun w' => w'.cell? ⟨w.heap.size, 0, none⟩ = some (.int .i64 c) ∧ w'.cell? ⟨w.heap.size, 1, none⟩ = some (.bool x) ∧ w'.cell? ⟨w.heap.size, 2, none⟩ = some (.int .i64 o) ∧ w'.cell? ⟨w3.heap.size, 0, none⟩ = some (.int .i64 0) ∧ w'.cell? ⟨w3.heap.size, 1, none⟩ = some (.bool false) ∧ w'.cell? ⟨w3.heap.size, 2, none⟩ = some (.int .i64 0))
    (go_keep)
    ((go_at_call 9; refine (ST.out _).mono ?_; rintro e w5 ⟨rfl, hb5⟩; have hb6 : Below (w3.alloc (.cells #[.int .i64 0, .bool false, .int .i64 0] 23)).heap.size (w3.alloc (.cells #[.int .i64 0, .bool false, .int .i64 0] 23)) w5 := (Below.refl _ _).drew.trans hb5; obtain ⟨bx, hW, hz5⟩ := boxes1 hb6; obtain ⟨d0, g0, d1, g1, d2, g2, _⟩ := bx; have X5 := X3.out.below hW q3; have HF := Lib.hid (HB3.out.trans (hW.mono HB3.out.size)); clear c0 f0 c1 f1 c2 f2 hb5 hb6 hW; obtain ⟨c0, f0, c1, f1, c2, f2, _⟩ := X5))
  all_goals
    go_wp2
    go_ret
    exact ⟨rfl, HF.out⟩
set_option maxRecDepth 100000 in
set_option maxHeartbeats 4000000 in
theorem badD2 (n : Int) (v : Bool) (c : Int) (x : Bool) (o : Int) (s : Bool) (w : World) (hi1 : -9223372036854775808 ≤ c ∧ c ≤ 9223372036854775807) (hi2 : -9223372036854775808 ≤ o ∧ o ≤ 9223372036854775807) (n1 : 1 ≤ n) (n2 : ¬ n ≤ 20) (hN : NewIs n v 0 false 1) (hr : ¬ RightB c o) (r1 : 1 ≤ c) (r2 : c ≤ 20) (r3 : 0 ≤ o) (r4 : ¬ o ≤ c - 1) : Post n v c x o s w := by
  have HK := Lib.hid fun W => awake_any W
  have h1 := fun W => right_any c x o W
  rw [right_no hr] at h1
  have HR := Lib.hid h1
  have ST := Lib.hid fun W => step_bad c x o s hr W
  clear h1 hr
  have r5 : decide (o ≤ c - 1) = false := decide_eq_false r4
  have r6 : c - 1 < o := by omega
  have r7 : c ≤ o := by omega
  unfold NewIs at hN
  unfold Post
  have HN := Lib.hid hN
  clear hN
  go_enter Try.func3, Try.ntmps3
  go_upto_region 18 with (first
    | (go_at_call 6; ((with_reducible refine (HK.out _).mono ?_); rintro e w1 ⟨rfl, hb⟩; obtain ⟨bx, hW, hz1⟩ := boxes1 hb; have HB1 := Lib.hid hW; have X1 := Lib.hid bx; obtain ⟨c0, f0, c1, f1, c2, f2, _⟩ := bx; clear hb hW))
    | (go_at_call 7; ((with_reducible refine (HN.out _).mono ?_); rintro e w2 ⟨rfl, hb⟩; have HB2 := Lib.hid (HB1.out.trans (hb.mono HB1.out.size)); have X2 := Lib.hid (X1.out.below hb hz1); have hz2 := hb.size; clear c0 f0 c1 f1 c2 f2 hb; obtain ⟨c0, f0, c1, f1, c2, f2, _⟩ := X2.out; have q2 : w.heap.size < w2.heap.size := (by omega)))
    | (go_at_call 8; ((with_reducible refine (HR.out _).mono ?_); rintro e w3 ⟨rfl, hb⟩; have HB3 := Lib.hid ((HB2.out.alloc HB2.out.size _).trans (hb.mono (by simp; omega))); have X3 := Lib.hid ((X2.out.below ((Below.refl w2.heap.size w2).alloc (Nat.le_refl _) _) q2).below hb (by simp; omega)); have hz3 : w2.heap.size < w3.heap.size := (Nat.lt_of_lt_of_le (by simp) hb.size); clear c0 f0 c1 f1 c2 f2 hb; obtain ⟨c0, f0, c1, f1, c2, f2, _⟩ := X3.out; have q3 : w.heap.size < w3.heap.size := (by omega); have q3b : w.heap.size < w3.heap.size + 1 := (by omega); have n3 : ¬ w.heap.size = w3.heap.size := (by omega); have n3b : ¬ w3.heap.size = w.heap.size := (by omega))))
  go_region_held3 (fun w' => w'.cell? ⟨w.heap.size, 0, none⟩ = some (.int .i64 c) ∧ w'.cell? ⟨w.heap.size, 1, none⟩ = some (.bool x) ∧ w'.cell? ⟨w.heap.size, 2, none⟩ = some (.int .i64 o) ∧ w'.cell? ⟨w3.heap.size, 0, none⟩ = some (.int .i64 0) ∧ w'.cell? ⟨w3.heap.size, 1, none⟩ = some (.bool false) ∧ w'.cell? ⟨w3.heap.size, 2, none⟩ = some (.int .i64 0))
    (go_keep)
    ((go_at_call 9; refine (ST.out _).mono ?_; rintro e w5 ⟨rfl, hb5⟩; have hb6 : Below (w3.alloc (.cells #[.int .i64 0, .bool false, .int .i64 0] 23)).heap.size (w3.alloc (.cells #[.int .i64 0, .bool false, .int .i64 0] 23)) w5 := (Below.refl _ _).drew.trans hb5; obtain ⟨bx, hW, hz5⟩ := boxes1 hb6; obtain ⟨d0, g0, d1, g1, d2, g2, _⟩ := bx; have X5 := X3.out.below hW q3; have HF := Lib.hid (HB3.out.trans (hW.mono HB3.out.size)); clear c0 f0 c1 f1 c2 f2 hb5 hb6 hW; obtain ⟨c0, f0, c1, f1, c2, f2, _⟩ := X5))
  all_goals
    go_wp2
    go_ret
    exact ⟨rfl, HF.out⟩
end Go.Proofs.Ytfekfdemaldeiaa.bounceSteps
