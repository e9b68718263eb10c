/- The walk of the law BounceSteps: any count, any value, a right switch, whatever it shows: it returns true, and what was in memory is as it was. -/
import Derived.Test.YtfekfdemaldeiaaBsPre
namespace Go.Proofs.Ytfekfdemaldeiaa.bounceSteps
open Go.ChangeShapes Go.WideShapes Go.ChangeAt Go.RowKit Go.Proofs.Ytfekfdemaldeiaa.k Go.Proofs.Ytfekfdemaldeiaa.v Go.Proofs.Ytfekfdemaldeiaa
set_option linter.unusedVariables false

set_option maxRecDepth 100000 in
set_option maxHeartbeats 4000000 in
theorem same0 (n : Int) (v : Bool) (c : Int) (x : Bool) (o : Int) (s : Bool) (w : World) (hi1 : -9223372036854775808 ≤ c ∧ c ≤ 9223372036854775807) (hi2 : -9223372036854775808 ≤ o ∧ o ≤ 9223372036854775807) (n1 : 1 ≤ n) (n2 : n ≤ 20) (hN : NewIs n v n v 0) (hr : RightB c o) (hs : s = x) : Post n v c x o s w := by
  have HK := Lib.hid fun W => awake_any W
  have h1 := fun W => right_any c x o W
  rw [right_yes hr] at h1
  have HR := Lib.hid h1
  have st := fun W => step_ok c x o s hr W
  obtain ⟨r1, r2, r3, r4⟩ := hr
  clear h1
  obtain ⟨e1, e2⟩ := step_same (c := c) (o := o) hs
  rw [e1, e2] at st
  have ST := Lib.hid st
  clear st e1 e2
  subst hs
  unfold NewIs at hN
  unfold Post
  have HN := Lib.hid hN
  clear hN
  go_enter Try.func3, Try.ntmps3
  go_upto_region 18 with (first
    | (go_at_call 6; ((with_reducible refine (HK.out _).mono ?_); rintro e w1 ⟨rfl, hb⟩; obtain ⟨bx, hW, hz1⟩ := boxes1 hb; have HB1 := Lib.hid hW; have X1 := Lib.hid bx; obtain ⟨c0, f0, c1, f1, c2, f2, _⟩ := bx; clear hb hW))
    | (go_at_call 7; ((with_reducible refine (HN.out _).mono ?_); rintro e w2 ⟨rfl, hb⟩; have HB2 := Lib.hid (HB1.out.trans (hb.mono HB1.out.size)); have X2 := Lib.hid (X1.out.below hb hz1); have hz2 := hb.size; clear c0 f0 c1 f1 c2 f2 hb; obtain ⟨c0, f0, c1, f1, c2, f2, _⟩ := X2.out; have q2 : w.heap.size < w2.heap.size := (by omega)))
    | (go_at_call 8; ((with_reducible refine (HR.out _).mono ?_); rintro e w3 ⟨rfl, hb⟩; have HB3 := Lib.hid ((HB2.out.alloc HB2.out.size _).trans (hb.mono (by simp; omega))); have X3 := Lib.hid ((X2.out.below ((Below.refl w2.heap.size w2).alloc (Nat.le_refl _) _) q2).below hb (by simp; omega)); have hz3 : w2.heap.size < w3.heap.size := (Nat.lt_of_lt_of_le (by simp) hb.size); clear c0 f0 c1 f1 c2 f2 hb; obtain ⟨c0, f0, c1, f1, c2, f2, _⟩ := X3.out; have q3 : w.heap.size < w3.heap.size := (by omega); have q3b : w.heap.size < w3.heap.size + 1 := (by omega); have n3 : ¬ w.heap.size = w3.heap.size := (by omega); have n3b : ¬ w3.heap.size = w.heap.size := (by omega))))
  go_region_held3 (fun w' => w'.cell? ⟨w.heap.size, 0, none⟩ = some (.int .i64 c) ∧ w'.cell? ⟨w.heap.size, 1, none⟩ = some (.bool s) ∧ w'.cell? ⟨w.heap.size, 2, none⟩ = some (.int .i64 o) ∧ w'.cell? ⟨w3.heap.size, 0, none⟩ = some (.int .i64 c) ∧ w'.cell? ⟨w3.heap.size, 1, none⟩ = some (.bool s) ∧ w'.cell? ⟨w3.heap.size, 2, none⟩ = some (.int .i64 0))
    (go_keep)
    ((go_at_call 9; refine (ST.out _).mono ?_; rintro e w5 ⟨rfl, hb5⟩; have hb6 : Below (w3.alloc (.cells #[.int .i64 c, .bool s, .int .i64 0] 23)).heap.size (w3.alloc (.cells #[.int .i64 c, .bool s, .int .i64 0] 23)) w5 := (Below.refl _ _).drew.trans hb5; obtain ⟨bx, hW, hz5⟩ := boxes1 hb6; obtain ⟨d0, g0, d1, g1, d2, g2, _⟩ := bx; have X5 := X3.out.below hW q3; have HF := Lib.hid (HB3.out.trans (hW.mono HB3.out.size)); clear c0 f0 c1 f1 c2 f2 hb5 hb6 hW; obtain ⟨c0, f0, c1, f1, c2, f2, _⟩ := X5))
  all_goals
    go_wp2
    go_ret
    exact ⟨rfl, HF.out⟩
set_option maxRecDepth 100000 in
set_option maxHeartbeats 4000000 in
theorem same1 (n : Int) (v : Bool) (c : Int) (x : Bool) (o : Int) (s : Bool) (w : World) (hi1 : -9223372036854775808 ≤ c ∧ c ≤ 9223372036854775807) (hi2 : -9223372036854775808 ≤ o ∧ o ≤ 9223372036854775807) (n1 : ¬ 1 ≤ n) (hN : NewIs n v 0 false 1) (hr : RightB c o) (hs : s = x) : Post n v c x o s w := by
  have HK := Lib.hid fun W => awake_any W
  have h1 := fun W => right_any c x o W
  rw [right_yes hr] at h1
  have HR := Lib.hid h1
  have st := fun W => step_ok c x o s hr W
  obtain ⟨r1, r2, r3, r4⟩ := hr
  clear h1
  obtain ⟨e1, e2⟩ := step_same (c := c) (o := o) hs
  rw [e1, e2] at st
  have ST := Lib.hid st
  clear st e1 e2
  subst hs
  unfold NewIs at hN
  unfold Post
  have HN := Lib.hid hN
  clear hN
  go_enter Try.func3, Try.ntmps3
  go_upto_region 18 with (first
    | (go_at_call 6; ((with_reducible refine (HK.out _).mono ?_); rintro e w1 ⟨rfl, hb⟩; obtain ⟨bx, hW, hz1⟩ := boxes1 hb; have HB1 := Lib.hid hW; have X1 := Lib.hid bx; obtain ⟨c0, f0, c1, f1, c2, f2, _⟩ := bx; clear hb hW))
    | (go_at_call 7; ((with_reducible refine (HN.out _).mono ?_); rintro e w2 ⟨rfl, hb⟩; have HB2 := Lib.hid (HB1.out.trans (hb.mono HB1.out.size)); have X2 := Lib.hid (X1.out.below hb hz1); have hz2 := hb.size; clear c0 f0 c1 f1 c2 f2 hb; obtain ⟨c0, f0, c1, f1, c2, f2, _⟩ := X2.out; have q2 : w.heap.size < w2.heap.size := (by omega)))
    | (go_at_call 8; ((with_reducible refine (HR.out _).mono ?_); rintro e w3 ⟨rfl, hb⟩; have HB3 := Lib.hid ((HB2.out.alloc HB2.out.size _).trans (hb.mono (by simp; omega))); have X3 := Lib.hid ((X2.out.below ((Below.refl w2.heap.size w2).alloc (Nat.le_refl _) _) q2).below hb (by simp; omega)); have hz3 : w2.heap.size < w3.heap.size := (Nat.lt_of_lt_of_le (by simp) hb.size); clear c0 f0 c1 f1 c2 f2 hb; obtain ⟨c0, f0, c1, f1, c2, f2, _⟩ := X3.out; have q3 : w.heap.size < w3.heap.size := (by omega); have q3b : w.heap.size < w3.heap.size + 1 := (by omega); have n3 : ¬ w.heap.size = w3.heap.size := (by omega); have n3b : ¬ w3.heap.size = w.heap.size := (by omega))))
  go_region_held3 (fun w' => w'.cell? ⟨w.heap.size, 0, none⟩ = some (.int .i64 c) ∧ w'.cell? ⟨w.heap.size, 1, none⟩ = some (.bool s) ∧ w'.cell? ⟨w.heap.size, 2, none⟩ = some (.int .i64 o) ∧ w'.cell? ⟨w3.heap.size, 0, none⟩ = some (.int .i64 c) ∧ w'.cell? ⟨w3.heap.size, 1, none⟩ = some (.bool s) ∧ w'.cell? ⟨w3.heap.size, 2, none⟩ = some (.int .i64 0))
    (go_keep)
    ((go_at_call 9; refine (ST.out _).mono ?_; rintro e w5 ⟨rfl, hb5⟩; have hb6 : Below (w3.alloc (.cells #[.int .i64 c, .bool s, .int .i64 0] 23)).heap.size (w3.alloc (.cells #[.int .i64 c, .bool s, .int .i64 0] 23)) w5 := (Below.refl _ _).drew.trans hb5; obtain ⟨bx, hW, hz5⟩ := boxes1 hb6; obtain ⟨d0, g0, d1, g1, d2, g2, _⟩ := bx; have X5 := X3.out.below hW q3; have HF := Lib.hid (HB3.out.trans (hW.mono HB3.out.size)); clear c0 f0 c1 f1 c2 f2 hb5 hb6 hW; obtain ⟨c0, f0, c1, f1, c2, f2, _⟩ := X5))
  all_goals
    go_wp2
    go_ret
    exact ⟨rfl, HF.out⟩
set_option maxRecDepth 100000 in
set_option maxHeartbeats 4000000 in
theorem same2 (n : Int) (v : Bool) (c : Int) (x : Bool) (o : Int) (s : Bool) (w : World) (hi1 : -9223372036854775808 ≤ c ∧ c ≤ 9223372036854775807) (hi2 : -9223372036854775808 ≤ o ∧ o ≤ 9223372036854775807) (n1 : 1 ≤ n) (n2 : ¬ n ≤ 20) (hN : NewIs n v 0 false 1) (hr : RightB c o) (hs : s = x) : Post n v c x o s w := by
  have HK := Lib.hid fun W => awake_any W
  have h1 := fun W => right_any c x o W
  rw [right_yes hr] at h1
  have HR := Lib.hid h1
  have st := fun W => step_ok c x o s hr W
  obtain ⟨r1, r2, r3, r4⟩ := hr
  clear h1
  obtain ⟨e1, e2⟩ := step_same (c := c) (o := o) hs
  rw [e1, e2] at st
  have ST := Lib.hid st
  clear st e1 e2
  subst hs
  unfold NewIs at hN
  unfold Post
  have HN := Lib.hid hN
  clear hN
  go_enter Try.func3, Try.ntmps3
  go_upto_region 18 with (first
    | (go_at_call 6; ((with_reducible refine (HK.out _).mono ?_); rintro e w1 ⟨rfl, hb⟩; obtain ⟨bx, hW, hz1⟩ := boxes1 hb; have HB1 := Lib.hid hW; have X1 := Lib.hid bx; obtain ⟨c0, f0, c1, f1, c2, f2, _⟩ := bx; clear hb hW))
    | (go_at_call 7; ((with_reducible refine (HN.out _).mono ?_); rintro e w2 ⟨rfl, hb⟩; have HB2 := Lib.hid (HB1.out.trans (hb.mono HB1.out.size)); have X2 := Lib.hid (X1.out.below hb hz1); have hz2 := hb.size; clear c0 f0 c1 f1 c2 f2 hb; obtain ⟨c0, f0, c1, f1, c2, f2, _⟩ := X2.out; have q2 : w.heap.size < w2.heap.size := (by omega)))
    | (go_at_call 8; ((with_reducible refine (HR.out _).mono ?_); rintro e w3 ⟨rfl, hb⟩; have HB3 := Lib.hid ((HB2.out.alloc HB2.out.size _).trans (hb.mono (by simp; omega))); have X3 := Lib.hid ((X2.out.below ((Below.refl w2.heap.size w2).alloc (Nat.le_refl _) _) q2).below hb (by simp; omega)); have hz3 : w2.heap.size < w3.heap.size := (Nat.lt_of_lt_of_le (by simp) hb.size); clear c0 f0 c1 f1 c2 f2 hb; obtain ⟨c0, f0, c1, f1, c2, f2, _⟩ := X3.out; have q3 : w.heap.size < w3.heap.size := (by omega); have q3b : w.heap.size < w3.heap.size + 1 := (by omega); have n3 : ¬ w.heap.size = w3.heap.size := (by omega); have n3b : ¬ w3.heap.size = w.heap.size := (by omega))))
  go_region_held3 (fun w' => w'.cell? ⟨w.heap.size, 0, none⟩ = some (.int .i64 c) ∧ w'.cell? ⟨w.heap.size, 1, none⟩ = some (.bool s) ∧ w'.cell? ⟨w.heap.size, 2, none⟩ = some (.int .i64 o) ∧ w'.cell? ⟨w3.heap.size, 0, none⟩ = some (.int .i64 c) ∧ w'.cell? ⟨w3.heap.size, 1, none⟩ = some (.bool s) ∧ w'.cell? ⟨w3.heap.size, 2, none⟩ = some (.int .i64 0))
    (go_keep)
    ((go_at_call 9; refine (ST.out _).mono ?_; rintro e w5 ⟨rfl, hb5⟩; have hb6 : Below (w3.alloc (.cells #[.int .i64 c, .bool s, .int .i64 0] 23)).heap.size (w3.alloc (.cells #[.int .i64 c, .bool s, .int .i64 0] 23)) w5 := (Below.refl _ _).drew.trans hb5; obtain ⟨bx, hW, hz5⟩ := boxes1 hb6; obtain ⟨d0, g0, d1, g1, d2, g2, _⟩ := bx; have X5 := X3.out.below hW q3; have HF := Lib.hid (HB3.out.trans (hW.mono HB3.out.size)); clear c0 f0 c1 f1 c2 f2 hb5 hb6 hW; obtain ⟨c0, f0, c1, f1, c2, f2, _⟩ := X5))
  all_goals
    go_wp2
    go_ret
    exact ⟨rfl, HF.out⟩
set_option maxRecDepth 100000 in
set_option maxHeartbeats 4000000 in
theorem full0 (n : Int) (v : Bool) (c : Int) (x : Bool) (o : Int) (s : Bool) (w : World) (hi1 : -9223372036854775808 ≤ c ∧ c ≤ 9223372036854775807) (hi2 : -9223372036854775808 ≤ o ∧ o ≤ 9223372036854775807) (n1 : 1 ≤ n) (n2 : n ≤ 20) (hN : NewIs n v n v 0) (hr : RightB c o) (hs : ¬ s = x) (hq : o + 1 = c) : Post n v c x o s w := by
  have HK := Lib.hid fun W => awake_any W
  have h1 := fun W => right_any c x o W
  rw [right_yes hr] at h1
  have HR := Lib.hid h1
  have st := fun W => step_ok c x o s hr W
  obtain ⟨r1, r2, r3, r4⟩ := hr
  clear h1
  have hsb : (s == x) = false := by rw [beq_eq_false_iff_ne]; exact hs
  obtain ⟨e1, e2⟩ := step_full hs hq
  have hx : s = !x := by cases s <;> cases x <;> simp_all
  rw [e1, e2, hx] at st
  rw [hx] at hsb ⊢
  have ST := Lib.hid st
  clear st e1 e2 hs hx
  subst hq
  unfold NewIs at hN
  unfold Post
  have HN := Lib.hid hN
  clear hN
  go_enter Try.func3, Try.ntmps3
  go_upto_region 18 with (first
    | (go_at_call 6; ((with_reducible refine (HK.out _).mono ?_); rintro e w1 ⟨rfl, hb⟩; obtain ⟨bx, hW, hz1⟩ := boxes1 hb; have HB1 := Lib.hid hW; have X1 := Lib.hid bx; obtain ⟨c0, f0, c1, f1, c2, f2, _⟩ := bx; clear hb hW))
    | (go_at_call 7; ((with_reducible refine (HN.out _).mono ?_); rintro e w2 ⟨rfl, hb⟩; have HB2 := Lib.hid (HB1.out.trans (hb.mono HB1.out.size)); have X2 := Lib.hid (X1.out.below hb hz1); have hz2 := hb.size; clear c0 f0 c1 f1 c2 f2 hb; obtain ⟨c0, f0, c1, f1, c2, f2, _⟩ := X2.out; have q2 : w.heap.size < w2.heap.size := (by omega)))
    | (go_at_call 8; ((with_reducible refine (HR.out _).mono ?_); rintro e w3 ⟨rfl, hb⟩; have HB3 := Lib.hid ((HB2.out.alloc HB2.out.size _).trans (hb.mono (by simp; omega))); have X3 := Lib.hid ((X2.out.below ((Below.refl w2.heap.size w2).alloc (Nat.le_refl _) _) q2).below hb (by simp; omega)); have hz3 : w2.heap.size < w3.heap.size := (Nat.lt_of_lt_of_le (by simp) hb.size); clear c0 f0 c1 f1 c2 f2 hb; obtain ⟨c0, f0, c1, f1, c2, f2, _⟩ := X3.out; have q3 : w.heap.size < w3.heap.size := (by omega); have q3b : w.heap.size < w3.heap.size + 1 := (by omega); have n3 : ¬ w.heap.size = w3.heap.size := (by omega); have n3b : ¬ w3.heap.size = w.heap.size := (by omega))))
  go_region_held3 (fun w' => w'.cell? ⟨w.heap.size, 0, none⟩ = some (.int .i64 (o + 1)) ∧ w'.cell? ⟨w.heap.size, 1, none⟩ = some (.bool x) ∧ w'.cell? ⟨w.heap.size, 2, none⟩ = some (.int .i64 o) ∧ w'.cell? ⟨w3.heap.size, 0, none⟩ = some (.int .i64 (o + 1)) ∧ w'.cell? ⟨w3.heap.size, 1, none⟩ = some (.bool (!x)) ∧ w'.cell? ⟨w3.heap.size, 2, none⟩ = some (.int .i64 0))
    (go_keep)
    ((go_at_call 9; refine (ST.out _).mono ?_; rintro e w5 ⟨rfl, hb5⟩; have hb6 : Below (w3.alloc (.cells #[.int .i64 (o + 1), .bool (!x), .int .i64 0] 23)).heap.size (w3.alloc (.cells #[.int .i64 (o + 1), .bool (!x), .int .i64 0] 23)) w5 := (Below.refl _ _).drew.trans hb5; obtain ⟨bx, hW, hz5⟩ := boxes1 hb6; obtain ⟨d0, g0, d1, g1, d2, g2, _⟩ := bx; have X5 := X3.out.below hW q3; have HF := Lib.hid (HB3.out.trans (hW.mono HB3.out.size)); clear c0 f0 c1 f1 c2 f2 hb5 hb6 hW; obtain ⟨c0, f0, c1, f1, c2, f2, _⟩ := X5))
  all_goals
    go_wp2
    go_ret
    exact ⟨rfl, HF.out⟩
set_option maxRecDepth 100000 in
set_option maxHeartbeats 4000000 in
theorem full1 (n : Int) (v : Bool) (c : Int) (x : Bool) (o : Int) (s : Bool) (w : World) (hi1 : -9223372036854775808 ≤ c ∧ c ≤ 9223372036854775807) (hi2 : -9223372036854775808 ≤ o ∧ o ≤ 9223372036854775807) (n1 : ¬ 1 ≤ n) (hN : NewIs n v 0 false 1) (hr : RightB c o) (hs : ¬ s = x) (hq : o + 1 = c) : Post n v c x o s w := by
  have HK := Lib.hid fun W => awake_any W
  have h1 := fun W => right_any c x o W
  rw [right_yes hr] at h1
  have HR := Lib.hid h1
  have st := fun W => step_ok c x o s hr W
  obtain ⟨r1, r2, r3, r4⟩ := hr
  clear h1
  have hsb : (s == x) = false := by rw [beq_eq_false_iff_ne]; exact hs
  obtain ⟨e1, e2⟩ := step_full hs hq
  have hx : s = !x := by cases s <;> cases x <;> simp_all
  rw [e1, e2, hx] at st
  rw [hx] at hsb ⊢
  have ST := Lib.hid st
  clear st e1 e2 hs hx
  subst hq
  unfold NewIs at hN
  unfold Post
  have HN := Lib.hid hN
  clear hN
  go_enter Try.func3, Try.ntmps3
  go_upto_region 18 with (first
    | (go_at_call 6; ((with_reducible refine (HK.out _).mono ?_); rintro e w1 ⟨rfl, hb⟩; obtain ⟨bx, hW, hz1⟩ := boxes1 hb; have HB1 := Lib.hid hW; have X1 := Lib.hid bx; obtain ⟨c0, f0, c1, f1, c2, f2, _⟩ := bx; clear hb hW))
    | (go_at_call 7; ((with_reducible refine (HN.out _).mono ?_); rintro e w2 ⟨rfl, hb⟩; have HB2 := Lib.hid (HB1.out.trans (hb.mono HB1.out.size)); have X2 := Lib.hid (X1.out.below hb hz1); have hz2 := hb.size; clear c0 f0 c1 f1 c2 f2 hb; obtain ⟨c0, f0, c1, f1, c2, f2, _⟩ := X2.out; have q2 : w.heap.size < w2.heap.size := (by omega)))
    | (go_at_call 8; ((with_reducible refine (HR.out _).mono ?_); rintro e w3 ⟨rfl, hb⟩; have HB3 := Lib.hid ((HB2.out.alloc HB2.out.size _).trans (hb.mono (by simp; omega))); have X3 := Lib.hid ((X2.out.below ((Below.refl w2.heap.size w2).alloc (Nat.le_refl _) _) q2).below hb (by simp; omega)); have hz3 : w2.heap.size < w3.heap.size := (Nat.lt_of_lt_of_le (by simp) hb.size); clear c0 f0 c1 f1 c2 f2 hb; obtain ⟨c0, f0, c1, f1, c2, f2, _⟩ := X3.out; have q3 : w.heap.size < w3.heap.size := (by omega); have q3b : w.heap.size < w3.heap.size + 1 := (by omega); have n3 : ¬ w.heap.size = w3.heap.size := (by omega); have n3b : ¬ w3.heap.size = w.heap.size := (by omega))))
  go_region_held3 (fun w' => w'.cell? ⟨w.heap.size, 0, none⟩ = some (.int .i64 (o + 1)) ∧ w'.cell? ⟨w.heap.size, 1, none⟩ = some (.bool x) ∧ w'.cell? ⟨w.heap.size, 2, none⟩ = some (.int .i64 o) ∧ w'.cell? ⟨w3.heap.size, 0, none⟩ = some (.int .i64 (o + 1)) ∧ w'.cell? ⟨w3.heap.size, 1, none⟩ = some (.bool (!x)) ∧ w'.cell? ⟨w3.heap.size, 2, none⟩ = some (.int .i64 0))
    (go_keep)
    ((go_at_call 9; refine (ST.out _).mono ?_; rintro e w5 ⟨rfl, hb5⟩; have hb6 : Below (w3.alloc (.cells #[.int .i64 (o + 1), .bool (!x), .int .i64 0] 23)).heap.size (w3.alloc (.cells #[.int .i64 (o + 1), .bool (!x), .int .i64 0] 23)) w5 := (Below.refl _ _).drew.trans hb5; obtain ⟨bx, hW, hz5⟩ := boxes1 hb6; obtain ⟨d0, g0, d1, g1, d2, g2, _⟩ := bx; have X5 := X3.out.below hW q3; have HF := Lib.hid (HB3.out.trans (hW.mono HB3.out.size)); clear c0 f0 c1 f1 c2 f2 hb5 hb6 hW; obtain ⟨c0, f0, c1, f1, c2, f2, _⟩ := X5))
  all_goals
    go_wp2
    go_ret
    exact ⟨rfl, HF.out⟩
set_option maxRecDepth 100000 in
set_option maxHeartbeats 4000000 in
theorem full2 (n : Int) (v : Bool) (c : Int) (x : Bool) (o : Int) (s : Bool) (w : World) (hi1 : -9223372036854775808 ≤ c ∧ c ≤ 9223372036854775807) (hi2 : -9223372036854775808 ≤ o ∧ o ≤ 9223372036854775807) (n1 : 1 ≤ n) (n2 : ¬ n ≤ 20) (hN : NewIs n v 0 false 1) (hr : RightB c o) (hs : ¬ s = x) (hq : o + 1 = c) : Post n v c x o s w := by
  have HK := Lib.hid fun W => awake_any W
  have h1 := fun W => right_any c x o W
  rw [right_yes hr] at h1
  have HR := Lib.hid h1
  have st := fun W => step_ok c x o s hr W
  obtain ⟨r1, r2, r3, r4⟩ := hr
  clear h1
  have hsb : (s == x) = false := by rw [beq_eq_false_iff_ne]; exact hs
  obtain ⟨e1, e2⟩ := step_full hs hq
  have hx : s = !x := by cases s <;> cases x <;> simp_all
  rw [e1, e2, hx] at st
  rw [hx] at hsb ⊢
  have ST := Lib.hid st
  clear st e1 e2 hs hx
  subst hq
  unfold NewIs at hN
  unfold Post
  have HN := Lib.hid hN
  clear hN
  go_enter Try.func3, Try.ntmps3
  go_upto_region 18 with (first
    | (go_at_call 6; ((with_reducible refine (HK.out _).mono ?_); rintro e w1 ⟨rfl, hb⟩; obtain ⟨bx, hW, hz1⟩ := boxes1 hb; have HB1 := Lib.hid hW; have X1 := Lib.hid bx; obtain ⟨c0, f0, c1, f1, c2, f2, _⟩ := bx; clear hb hW))
    | (go_at_call 7; ((with_reducible refine (HN.out _).mono ?_); rintro e w2 ⟨rfl, hb⟩; have HB2 := Lib.hid (HB1.out.trans (hb.mono HB1.out.size)); have X2 := Lib.hid (X1.out.below hb hz1); have hz2 := hb.size; clear c0 f0 c1 f1 c2 f2 hb; obtain ⟨c0, f0, c1, f1, c2, f2, _⟩ := X2.out; have q2 : w.heap.size < w2.heap.size := (by omega)))
    | (go_at_call 8; ((with_reducible refine (HR.out _).mono ?_); rintro e w3 ⟨rfl, hb⟩; have HB3 := Lib.hid ((HB2.out.alloc HB2.out.size _).trans (hb.mono (by simp; omega))); have X3 := Lib.hid ((X2.out.below ((Below.refl w2.heap.size w2).alloc (Nat.le_refl _) _) q2).below hb (by simp; omega)); have hz3 : w2.heap.size < w3.heap.size := (Nat.lt_of_lt_of_le (by simp) hb.size); clear c0 f0 c1 f1 c2 f2 hb; obtain ⟨c0, f0, c1, f1, c2, f2, _⟩ := X3.out; have q3 : w.heap.size < w3.heap.size := (by omega); have q3b : w.heap.size < w3.heap.size + 1 := (by omega); have n3 : ¬ w.heap.size = w3.heap.size := (by omega); have n3b : ¬ w3.heap.size = w.heap.size := (by omega))))
  go_region_held3 (fun w' => w'.cell? ⟨w.heap.size, 0, none⟩ = some (.int .i64 (o + 1)) ∧ w'.cell? ⟨w.heap.size, 1, none⟩ = some (.bool x) ∧ w'.cell? ⟨w.heap.size, 2, none⟩ = some (.int .i64 o) ∧ w'.cell? ⟨w3.heap.size, 0, none⟩ = some (.int .i64 (o + 1)) ∧ w'.cell? ⟨w3.heap.size, 1, none⟩ = some (.bool (!x)) ∧ w'.cell? ⟨w3.heap.size, 2, none⟩ = some (.int .i64 0))
    (go_keep)
    ((go_at_call 9; refine (ST.out _).mono ?_; rintro e w5 ⟨rfl, hb5⟩; have hb6 : Below (w3.alloc (.cells #[.int .i64 (o + 1), .bool (!x), .int .i64 0] 23)).heap.size (w3.alloc (.cells #[.int .i64 (o + 1), .bool (!x), .int .i64 0] 23)) w5 := (Below.refl _ _).drew.trans hb5; obtain ⟨bx, hW, hz5⟩ := boxes1 hb6; obtain ⟨d0, g0, d1, g1, d2, g2, _⟩ := bx; have X5 := X3.out.below hW q3; have HF := Lib.hid (HB3.out.trans (hW.mono HB3.out.size)); clear c0 f0 c1 f1 c2 f2 hb5 hb6 hW; obtain ⟨c0, f0, c1, f1, c2, f2, _⟩ := X5))
  all_goals
    go_wp2
    go_ret
    exact ⟨rfl, HF.out⟩
set_option maxRecDepth 100000 in
set_option maxHeartbeats 4000000 in
theorem more0 (n : Int) (v : Bool) (c : Int) (x : Bool) (o : Int) (s : Bool) (w : World) (hi1 : -9223372036854775808 ≤ c ∧ c ≤ 9223372036854775807) (hi2 : -9223372036854775808 ≤ o ∧ o ≤ 9223372036854775807) (n1 : 1 ≤ n) (n2 : n ≤ 20) (hN : NewIs n v n v 0) (hr : RightB c o) (hs : ¬ s = x) (hq : ¬ o + 1 = c) : Post n v c x o s w := by
  have HK := Lib.hid fun W => awake_any W
  have h1 := fun W => right_any c x o W
  rw [right_yes hr] at h1
  have HR := Lib.hid h1
  have st := fun W => step_ok c x o s hr W
  obtain ⟨r1, r2, r3, r4⟩ := hr
  clear h1
  have hsb : (s == x) = false := by rw [beq_eq_false_iff_ne]; exact hs
  obtain ⟨e1, e2⟩ := step_more hs hq
  rw [e1, e2] at st
  have ST := Lib.hid st
  have hqb : (o + 1 == c) = false := by rw [beq_eq_false_iff_ne]; exact hq
  clear st e1 e2 hs hq
  unfold NewIs at hN
  unfold Post
  have HN := Lib.hid hN
  clear hN
  go_enter Try.func3, Try.ntmps3
  go_upto_region 18 with (first
    | (go_at_call 6; ((with_reducible refine (HK.out _).mono ?_); rintro e w1 ⟨rfl, hb⟩; obtain ⟨bx, hW, hz1⟩ := boxes1 hb; have HB1 := Lib.hid hW; have X1 := Lib.hid bx; obtain ⟨c0, f0, c1, f1, c2, f2, _⟩ := bx; clear hb hW))
    | (go_at_call 7; ((with_reducible refine (HN.out _).mono ?_); rintro e w2 ⟨rfl, hb⟩; have HB2 := Lib.hid (HB1.out.trans (hb.mono HB1.out.size)); have X2 := Lib.hid (X1.out.below hb hz1); have hz2 := hb.size; clear c0 f0 c1 f1 c2 f2 hb; obtain ⟨c0, f0, c1, f1, c2, f2, _⟩ := X2.out; have q2 : w.heap.size < w2.heap.size := (by omega)))
    | (go_at_call 8; ((with_reducible refine (HR.out _).mono ?_); rintro e w3 ⟨rfl, hb⟩; have HB3 := Lib.hid ((HB2.out.alloc HB2.out.size _).trans (hb.mono (by simp; omega))); have X3 := Lib.hid ((X2.out.below ((Below.refl w2.heap.size w2).alloc (Nat.le_refl _) _) q2).below hb (by simp; omega)); have hz3 : w2.heap.size < w3.heap.size := (Nat.lt_of_lt_of_le (by simp) hb.size); clear c0 f0 c1 f1 c2 f2 hb; obtain ⟨c0, f0, c1, f1, c2, f2, _⟩ := X3.out; have q3 : w.heap.size < w3.heap.size := (by omega); have q3b : w.heap.size < w3.heap.size + 1 := (by omega); have n3 : ¬ w.heap.size = w3.heap.size := (by omega); have n3b : ¬ w3.heap.size = w.heap.size := (by omega))))
  go_region_held3 (fun w' => w'.cell? ⟨w.heap.size, 0, none⟩ = some (.int .i64 c) ∧ w'.cell? ⟨w.heap.size, 1, none⟩ = some (.bool x) ∧ w'.cell? ⟨w.heap.size, 2, none⟩ = some (.int .i64 o) ∧ w'.cell? ⟨w3.heap.size, 0, none⟩ = some (.int .i64 c) ∧ w'.cell? ⟨w3.heap.size, 1, none⟩ = some (.bool x) ∧ w'.cell? ⟨w3.heap.size, 2, none⟩ = some (.int .i64 (o + 1)))
    (go_keep)
    ((go_at_call 9; refine (ST.out _).mono ?_; rintro e w5 ⟨rfl, hb5⟩; have hb6 : Below (w3.alloc (.cells #[.int .i64 c, .bool x, .int .i64 (o + 1)] 23)).heap.size (w3.alloc (.cells #[.int .i64 c, .bool x, .int .i64 (o + 1)] 23)) w5 := (Below.refl _ _).drew.trans hb5; obtain ⟨bx, hW, hz5⟩ := boxes1 hb6; obtain ⟨d0, g0, d1, g1, d2, g2, _⟩ := bx; have X5 := X3.out.below hW q3; have HF := Lib.hid (HB3.out.trans (hW.mono HB3.out.size)); clear c0 f0 c1 f1 c2 f2 hb5 hb6 hW; obtain ⟨c0, f0, c1, f1, c2, f2, _⟩ := X5))
  all_goals
    go_wp2
    go_ret
    exact ⟨rfl, HF.out⟩
set_option maxRecDepth 100000 in
set_option maxHeartbeats 4000000 in
theorem more1 (n : Int) (v : Bool) (c : Int) (x : Bool) (o : Int) (s : Bool) (w : World) (hi1 : -9223372036854775808 ≤ c ∧ c ≤ 9223372036854775807) (hi2 : -9223372036854775808 ≤ o ∧ o ≤ 9223372036854775807) (n1 : ¬ 1 ≤ n) (hN : NewIs n v 0 false 1) (hr : RightB c o) (hs : ¬ s = x) (hq : ¬ o + 1 = c) : Post n v c x o s w := by
  have HK := Lib.hid fun W => awake_any W
  have h1 := fun W => right_any c x o W
  rw [right_yes hr] at h1
  have HR := Lib.hid h1
  have st := fun W => step_ok c x o s hr W
  obtain ⟨r1, r2, r3, r4⟩ := hr
  clear h1
  have hsb : (s == x) = false := by rw [beq_eq_false_iff_ne]; exact hs
  obtain ⟨e1, e2⟩ := step_more hs hq
  rw [e1, e2] at st
  have ST := Lib.hid st
  have hqb : (o + 1 == c) = false := by rw [beq_eq_false_iff_ne]; exact hq
  clear st e1 e2 hs hq
  unfold NewIs at hN
  unfold Post
  have HN := Lib.hid hN
  clear hN
  go_enter Try.func3, Try.ntmps3
  go_upto_region 18 with (first
    | (go_at_call 6; ((with_reducible refine (HK.out _).mono ?_); rintro e w1 ⟨rfl, hb⟩; obtain ⟨bx, hW, hz1⟩ := boxes1 hb; have HB1 := Lib.hid hW; have X1 := Lib.hid bx; obtain ⟨c0, f0, c1, f1, c2, f2, _⟩ := bx; clear hb hW))
    | (go_at_call 7; ((with_reducible refine (HN.out _).mono ?_); rintro e w2 ⟨rfl, hb⟩; have HB2 := Lib.hid (HB1.out.trans (hb.mono HB1.out.size)); have X2 := Lib.hid (X1.out.below hb hz1); have hz2 := hb.size; clear c0 f0 c1 f1 c2 f2 hb; obtain ⟨c0, f0, c1, f1, c2, f2, _⟩ := X2.out; have q2 : w.heap.size < w2.heap.size := (by omega)))
    | (go_at_call 8; ((with_reducible refine (HR.out _).mono ?_); rintro e w3 ⟨rfl, hb⟩; have HB3 := Lib.hid ((HB2.out.alloc HB2.out.size _).trans (hb.mono (by simp; omega))); have X3 := Lib.hid ((X2.out.below ((Below.refl w2.heap.size w2).alloc (Nat.le_refl _) _) q2).below hb (by simp; omega)); have hz3 : w2.heap.size < w3.heap.size := (Nat.lt_of_lt_of_le (by simp) hb.size); clear c0 f0 c1 f1 c2 f2 hb; obtain ⟨c0, f0, c1, f1, c2, f2, _⟩ := X3.out; have q3 : w.heap.size < w3.heap.size := (by omega); have q3b : w.heap.size < w3.heap.size + 1 := (by omega); have n3 : ¬ w.heap.size = w3.heap.size := (by omega); have n3b : ¬ w3.heap.size = w.heap.size := (by omega))))
  go_region_held3 (fun w' => w'.cell? ⟨w.heap.size, 0, none⟩ = some (.int .i64 c) ∧ w'.cell? ⟨w.heap.size, 1, none⟩ = some (.bool x) ∧ w'.cell? ⟨w.heap.size, 2, none⟩ = some (.int .i64 o) ∧ w'.cell? ⟨w3.heap.size, 0, none⟩ = some (.int .i64 c) ∧ w'.cell? ⟨w3.heap.size, 1, none⟩ = some (.bool x) ∧ w'.cell? ⟨w3.heap.size, 2, none⟩ = some (.int .i64 (o + 1)))
    (go_keep)
    ((go_at_call 9; refine (ST.out _).mono ?_; rintro e w5 ⟨rfl, hb5⟩; have hb6 : Below (w3.alloc (.cells #[.int .i64 c, .bool x, .int .i64 (o + 1)] 23)).heap.size (w3.alloc (.cells #[.int .i64 c, .bool x, .int .i64 (o + 1)] 23)) w5 := (Below.refl _ _).drew.trans hb5; obtain ⟨bx, hW, hz5⟩ := boxes1 hb6; obtain ⟨d0, g0, d1, g1, d2, g2, _⟩ := bx; have X5 := X3.out.below hW q3; have HF := Lib.hid (HB3.out.trans (hW.mono HB3.out.size)); clear c0 f0 c1 f1 c2 f2 hb5 hb6 hW; obtain ⟨c0, f0, c1, f1, c2, f2, _⟩ := X5))
  all_goals
    go_wp2
    go_ret
    exact ⟨rfl, HF.out⟩
set_option maxRecDepth 100000 in
set_option maxHeartbeats 4000000 in
theorem more2 (n : Int) (v : Bool) (c : Int) (x : Bool) (o : Int) (s : Bool) (w : World) (hi1 : -9223372036854775808 ≤ c ∧ c ≤ 9223372036854775807) (hi2 : -9223372036854775808 ≤ o ∧ o ≤ 9223372036854775807) (n1 : 1 ≤ n) (n2 : ¬ n ≤ 20) (hN : NewIs n v 0 false 1) (hr : RightB c o) (hs : ¬ s = x) (hq : ¬ o + 1 = c) : Post n v c x o s w := by
  have HK := Lib.hid fun W => awake_any W
  have h1 := fun W => right_any c x o W
  rw [right_yes hr] at h1
  have HR := Lib.hid h1
  have st := fun W => step_ok c x o s hr W
  obtain ⟨r1, r2, r3, r4⟩ := hr
  clear h1
  have hsb : (s == x) = false := by rw [beq_eq_false_iff_ne]; exact hs
  obtain ⟨e1, e2⟩ := step_more hs hq
  rw [e1, e2] at st
  have ST := Lib.hid st
  have hqb : (o + 1 == c) = false := by rw [beq_eq_false_iff_ne]; exact hq
  clear st e1 e2 hs hq
  unfold NewIs at hN
  unfold Post
  have HN := Lib.hid hN
  clear hN
  go_enter Try.func3, Try.ntmps3
  go_upto_region 18 with (first
    | (go_at_call 6; ((with_reducible refine (HK.out _).mono ?_); rintro e w1 ⟨rfl, hb⟩; obtain ⟨bx, hW, hz1⟩ := boxes1 hb; have HB1 := Lib.hid hW; have X1 := Lib.hid bx; obtain ⟨c0, f0, c1, f1, c2, f2, _⟩ := bx; clear hb hW))
    | (go_at_call 7; ((with_reducible refine (HN.out _).mono ?_); rintro e w2 ⟨rfl, hb⟩; have HB2 := Lib.hid (HB1.out.trans (hb.mono HB1.out.size)); have X2 := Lib.hid (X1.out.below hb hz1); have hz2 := hb.size; clear c0 f0 c1 f1 c2 f2 hb; obtain ⟨c0, f0, c1, f1, c2, f2, _⟩ := X2.out; have q2 : w.heap.size < w2.heap.size := (by omega)))
    | (go_at_call 8; ((with_reducible refine (HR.out _).mono ?_); rintro e w3 ⟨rfl, hb⟩; have HB3 := Lib.hid ((HB2.out.alloc HB2.out.size _).trans (hb.mono (by simp; omega))); have X3 := Lib.hid ((X2.out.below ((Below.refl w2.heap.size w2).alloc (Nat.le_refl _) _) q2).below hb (by simp; omega)); have hz3 : w2.heap.size < w3.heap.size := (Nat.lt_of_lt_of_le (by simp) hb.size); clear c0 f0 c1 f1 c2 f2 hb; obtain ⟨c0, f0, c1, f1, c2, f2, _⟩ := X3.out; have q3 : w.heap.size < w3.heap.size := (by omega); have q3b : w.heap.size < w3.heap.size + 1 := (by omega); have n3 : ¬ w.heap.size = w3.heap.size := (by omega); have n3b : ¬ w3.heap.size = w.heap.size := (by omega))))
  go_region_held3 (fun w' => w'.cell? ⟨w.heap.size, 0, none⟩ = some (.int .i64 c) ∧ w'.cell? ⟨w.heap.size, 1, none⟩ = some (.bool x) ∧ w'.cell? ⟨w.heap.size, 2, none⟩ = some (.int .i64 o) ∧ w'.cell? ⟨w3.heap.size, 0, none⟩ = some (.int .i64 c) ∧ w'.cell? ⟨w3.heap.size, 1, none⟩ = some (.bool x) ∧ w'.cell? ⟨w3.heap.size, 2, none⟩ = some (.int .i64 (o + 1)))
    (go_keep)
    ((go_at_call 9; refine (ST.out _).mono ?_; rintro e w5 ⟨rfl, hb5⟩; have hb6 : Below (w3.alloc (.cells #[.int .i64 c, .bool x, .int .i64 (o + 1)] 23)).heap.size (w3.alloc (.cells #[.int .i64 c, .bool x, .int .i64 (o + 1)] 23)) w5 := (Below.refl _ _).drew.trans hb5; obtain ⟨bx, hW, hz5⟩ := boxes1 hb6; obtain ⟨d0, g0, d1, g1, d2, g2, _⟩ := bx; have X5 := X3.out.below hW q3; have HF := Lib.hid (HB3.out.trans (hW.mono HB3.out.size)); clear c0 f0 c1 f1 c2 f2 hb5 hb6 hW; obtain ⟨c0, f0, c1, f1, c2, f2, _⟩ := X5))
  all_goals
    go_wp2
    go_ret
    exact ⟨rfl, HF.out⟩
end Go.Proofs.Ytfekfdemaldeiaa.bounceSteps
