/- Stage 13's fixed answer. No condition. -/
import Derived.Test.YtojiefppaiafaaaHmHome
import Derived.Test.YtojiefppaiafaaaKStore
namespace Go.Proofs.Ytojiefppaiafaaa.hm
open Go.ChangeShapes Go.WideShapes Go.ChangeAt Go.RowKit Go.Proofs.Ytojiefppaiafaaa.k
set_option linter.unusedVariables false

theorem awake_any (w : World) : Calls Try.prog 6 #[] w fun e w' => e = .returned (.bool true) ∧ Below w.heap.size w w' := by
  have C1 : Hid (∀ W, Calls Try.prog 7 #[.int .i64 5, .int .i64 1] W fun e w' => e = .returned (.tuple #[.agg #[.int .i64 0, .int .i64 5, .int .i64 1, .bool false], .int .i64 0]) ∧ Below W.heap.size W w') := Lib.hid fun W => by have h := new_any 5 1 W; rw [show newH 5 1 = ⟨0, 5, 1, false⟩ by decide, show newE 5 1 = 0 by decide] at h; exact h
  have C2 : Hid (∀ W, Calls Try.prog 9 #[.agg #[.int .i64 0, .int .i64 5, .int .i64 1, .bool false], .bool false, .bool false, .bool false, .bool true] W fun e w' => e = .returned (.tuple #[.agg #[.int .i64 0, .int .i64 5, .int .i64 1, .bool false], .int .i64 5]) ∧ Below W.heap.size W w') := Lib.hid fun W => by have h := step_any ⟨0, 5, 1, false⟩ false false false true W; rw [show stepHN ⟨0, 5, 1, false⟩ false false false true = ⟨0, 5, 1, false⟩ by decide, show stepHV ⟨0, 5, 1, false⟩ false false false true = 5 by decide] at h; exact h
  have C3 : Hid (∀ W, Calls Try.prog 9 #[.agg #[.int .i64 0, .int .i64 5, .int .i64 1, .bool false], .bool true, .bool false, .bool false, .bool false] W fun e w' => e = .returned (.tuple #[.agg #[.int .i64 1, .int .i64 5, .int .i64 1, .bool false], .int .i64 0]) ∧ Below W.heap.size W w') := Lib.hid fun W => by have h := step_any ⟨0, 5, 1, false⟩ true false false false W; rw [show stepHN ⟨0, 5, 1, false⟩ true false false false = ⟨1, 5, 1, false⟩ by decide, show stepHV ⟨0, 5, 1, false⟩ true false false false = 0 by decide] at h; exact h
  have C4 : Hid (∀ W, Calls Try.prog 11 #[.agg #[.int .i64 1, .int .i64 5, .int .i64 1, .bool false]] W fun e w' => e = .returned (.bool false) ∧ Below W.heap.size W w') := Lib.hid fun W => by have h := over_any ⟨1, 5, 1, false⟩ W; rw [show overH ⟨1, 5, 1, false⟩ = false by decide] at h; exact h
  go_enter Try.func6, Try.ntmps6
  go_upto_region 2 with (go_at_call 7; ((with_reducible refine (C1.out _).mono ?_); rintro e v1 ⟨rfl, hb⟩; have HB := Lib.hid hb; skip; clear hb))
  have hge : w.heap.size ≤ v1.heap.size := HB.out.size
  obtain ⟨hx, hb, hzX1⟩ := k.boxes1 (w := v1) (c1 := #[.int .i64 0, .int .i64 5, .int .i64 1, .bool false]) (t1 := 23) (Below.refl _ _)
  generalize (v1.alloc (.cells #[.int .i64 0, .int .i64 5, .int .i64 1, .bool false] 23)) = v2 at hb hx hzX1 ⊢
  have HB := Lib.hid (HB.out.trans (hb.mono HB.out.size))
  skip
  obtain ⟨gX1, hgX1⟩ : ∃ g, v1.heap.size = g := ⟨_, rfl⟩
  rw [hgX1] at hx hzX1 hge ⊢
  skip
  have X1 := Lib.hid hx
  have X1c0 := (k.cell_of X1.out (i := 0) rfl).1
  have X1c1 := (k.cell_of X1.out (i := 1) rfl).1
  have X1c2 := (k.cell_of X1.out (i := 2) rfl).1
  have X1c3 := (k.cell_of X1.out (i := 3) rfl).1
  clear hb hx hgX1
  go_upto_region 3 with (go_at_call 9; ((with_reducible refine (C2.out _).mono ?_); rintro e v3 ⟨rfl, hb⟩; have X1 := Lib.hid (X1.out.below hb hzX1); have hzX1 := Nat.lt_of_lt_of_le hzX1 hb.size; have HB := Lib.hid (HB.out.trans (hb.mono HB.out.size)); clear X1c0 X1c1 X1c2 X1c3; have X1c0 := (k.cell_of X1.out (i := 0) rfl).1; have X1c1 := (k.cell_of X1.out (i := 1) rfl).1; have X1c2 := (k.cell_of X1.out (i := 2) rfl).1; have X1c3 := (k.cell_of X1.out (i := 3) rfl).1; clear hb))
  have hge : w.heap.size ≤ v3.heap.size := HB.out.size
  obtain ⟨hx, hb, hzX3⟩ := k.boxes1 (w := v3) (c1 := #[.int .i64 0, .int .i64 5, .int .i64 1, .bool false]) (t1 := 23) (Below.refl _ _)
  generalize (v3.alloc (.cells #[.int .i64 0, .int .i64 5, .int .i64 1, .bool false] 23)) = v4 at hb hx hzX3 ⊢
  have X1 := Lib.hid (X1.out.below hb hzX1)
  have hzX1 := Nat.lt_of_lt_of_le hzX1 hb.size
  have HB := Lib.hid (HB.out.trans (hb.mono HB.out.size))
  clear X1c0 X1c1 X1c2 X1c3
  obtain ⟨gX3, hgX3⟩ : ∃ g, v3.heap.size = g := ⟨_, rfl⟩
  rw [hgX3] at hx hzX3 hge ⊢
  skip
  have X3 := Lib.hid hx
  have X1c0 := (k.cell_of X1.out (i := 0) rfl).1
  have X1c1 := (k.cell_of X1.out (i := 1) rfl).1
  have X1c2 := (k.cell_of X1.out (i := 2) rfl).1
  have X1c3 := (k.cell_of X1.out (i := 3) rfl).1
  have X3c0 := (k.cell_of X3.out (i := 0) rfl).1
  have X3c1 := (k.cell_of X3.out (i := 1) rfl).1
  have X3c2 := (k.cell_of X3.out (i := 2) rfl).1
  have X3c3 := (k.cell_of X3.out (i := 3) rfl).1
  clear hb hx hgX3
  go_upto_region 4 with (go_at_call 9; ((with_reducible refine (C3.out _).mono ?_); rintro e v5 ⟨rfl, hb⟩; have X1 := Lib.hid (X1.out.below hb hzX1); have X3 := Lib.hid (X3.out.below hb hzX3); have hzX1 := Nat.lt_of_lt_of_le hzX1 hb.size; have hzX3 := Nat.lt_of_lt_of_le hzX3 hb.size; have HB := Lib.hid (HB.out.trans (hb.mono HB.out.size)); clear X1c0 X1c1 X1c2 X1c3 X3c0 X3c1 X3c2 X3c3; have X1c0 := (k.cell_of X1.out (i := 0) rfl).1; have X1c1 := (k.cell_of X1.out (i := 1) rfl).1; have X1c2 := (k.cell_of X1.out (i := 2) rfl).1; have X1c3 := (k.cell_of X1.out (i := 3) rfl).1; have X3c0 := (k.cell_of X3.out (i := 0) rfl).1; have X3c1 := (k.cell_of X3.out (i := 1) rfl).1; have X3c2 := (k.cell_of X3.out (i := 2) rfl).1; have X3c3 := (k.cell_of X3.out (i := 3) rfl).1; clear hb))
  have hge : w.heap.size ≤ v5.heap.size := HB.out.size
  obtain ⟨hx, hb, hzX5⟩ := k.boxes1 (w := v5) (c1 := #[.int .i64 1, .int .i64 5, .int .i64 1, .bool false]) (t1 := 23) (Below.refl _ _)
  generalize (v5.alloc (.cells #[.int .i64 1, .int .i64 5, .int .i64 1, .bool false] 23)) = v6 at hb hx hzX5 ⊢
  have X1 := Lib.hid (X1.out.below hb hzX1)
  have X3 := Lib.hid (X3.out.below hb hzX3)
  have hzX1 := Nat.lt_of_lt_of_le hzX1 hb.size
  have hzX3 := Nat.lt_of_lt_of_le hzX3 hb.size
  have HB := Lib.hid (HB.out.trans (hb.mono HB.out.size))
  clear X1c0 X1c1 X1c2 X1c3 X3c0 X3c1 X3c2 X3c3
  obtain ⟨gX5, hgX5⟩ : ∃ g, v5.heap.size = g := ⟨_, rfl⟩
  rw [hgX5] at hx hzX5 hge ⊢
  skip
  have X5 := Lib.hid hx
  have X1c0 := (k.cell_of X1.out (i := 0) rfl).1
  have X1c1 := (k.cell_of X1.out (i := 1) rfl).1
  have X1c2 := (k.cell_of X1.out (i := 2) rfl).1
  have X1c3 := (k.cell_of X1.out (i := 3) rfl).1
  have X3c0 := (k.cell_of X3.out (i := 0) rfl).1
  have X3c1 := (k.cell_of X3.out (i := 1) rfl).1
  have X3c2 := (k.cell_of X3.out (i := 2) rfl).1
  have X3c3 := (k.cell_of X3.out (i := 3) rfl).1
  have X5c0 := (k.cell_of X5.out (i := 0) rfl).1
  have X5c1 := (k.cell_of X5.out (i := 1) rfl).1
  have X5c2 := (k.cell_of X5.out (i := 2) rfl).1
  have X5c3 := (k.cell_of X5.out (i := 3) rfl).1
  clear hb hx hgX5
  go_wp2_with (go_at_call 11; ((with_reducible refine (C4.out _).mono ?_); rintro e v7 ⟨rfl, hb⟩; have X1 := Lib.hid (X1.out.below hb hzX1); have X3 := Lib.hid (X3.out.below hb hzX3); have X5 := Lib.hid (X5.out.below hb hzX5); have hzX1 := Nat.lt_of_lt_of_le hzX1 hb.size; have hzX3 := Nat.lt_of_lt_of_le hzX3 hb.size; have hzX5 := Nat.lt_of_lt_of_le hzX5 hb.size; have HB := Lib.hid (HB.out.trans (hb.mono HB.out.size)); clear X1c0 X1c1 X1c2 X1c3 X3c0 X3c1 X3c2 X3c3 X5c0 X5c1 X5c2 X5c3; have X1c0 := (k.cell_of X1.out (i := 0) rfl).1; have X1c1 := (k.cell_of X1.out (i := 1) rfl).1; have X1c2 := (k.cell_of X1.out (i := 2) rfl).1; have X1c3 := (k.cell_of X1.out (i := 3) rfl).1; have X3c0 := (k.cell_of X3.out (i := 0) rfl).1; have X3c1 := (k.cell_of X3.out (i := 1) rfl).1; have X3c2 := (k.cell_of X3.out (i := 2) rfl).1; have X3c3 := (k.cell_of X3.out (i := 3) rfl).1; have X5c0 := (k.cell_of X5.out (i := 0) rfl).1; have X5c1 := (k.cell_of X5.out (i := 1) rfl).1; have X5c2 := (k.cell_of X5.out (i := 2) rfl).1; have X5c3 := (k.cell_of X5.out (i := 3) rfl).1; clear hb))
  go_ret
  exact ⟨rfl, HB.out⟩
end Go.Proofs.Ytojiefppaiafaaa.hm
