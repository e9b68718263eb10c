/- The walk of the law HomeSteps: any speeds, any search, whatever is shown: it returns true, and what was in memory is as it was. -/
import Derived.Test.YtojiefppaiafaaaHmAwake
import Derived.Test.YtojiefppaiafaaaHmRef
import Derived.Test.YtojiefppaiafaaaKOrd
namespace Go.Proofs.Ytojiefppaiafaaa.homeSteps
open Go.ChangeShapes Go.WideShapes Go.ChangeAt Go.RowKit Go.Proofs.Ytojiefppaiafaaa.k Go.Proofs.Ytojiefppaiafaaa.hm Go.Proofs.Ytojiefppaiafaaa
set_option linter.unusedVariables false

set_option maxRecDepth 100000 in
set_option maxHeartbeats 4000000 in
theorem walk (x0 x1 p f c : Int) (t sw pl mi st : Bool) (w : World) (w0 : (Lit.int .i64 x0).wf = true) (w1 : (Lit.int .i64 x1).wf = true) (w2 : (Lit.int .i64 p).wf = true) (w3 : (Lit.int .i64 f).wf = true) (w4 : (Lit.int .i64 c).wf = true) :
    Calls Try.prog 3 #[.int .i64 x0, .int .i64 x1, .agg #[.int .i64 p, .int .i64 f, .int .i64 c, .bool t], .bool sw, .bool pl, .bool mi, .bool st] w fun e w' => e = .returned (.bool true) ∧ Below w.heap.size w w' := by
  clear w0 w1 w2 w3 w4
  have HK := Lib.hid fun W => awake_any W
  by_cases hn : RightH ⟨0, x0, x1, false⟩
  · skip
    by_cases hr : RightH ⟨p, f, c, t⟩
    · skip
      have HN : Hid (∀ W, Calls Try.prog 7 #[.int .i64 x0, .int .i64 x1] W fun e w' => e = .returned (.tuple #[.agg #[.int .i64 0, .int .i64 x0, .int .i64 x1, .bool false], .int .i64 0]) ∧ Below W.heap.size W w') := Lib.hid fun W => by have h := new_any x0 x1 W; rw [show newH x0 x1 = ⟨0, x0, x1, false⟩ from if_pos hn, show newE x0 x1 = 0 from if_pos hn] at h; exact h
      have HQ : Hid (∀ W, Calls Try.prog 8 #[.agg #[.int .i64 0, .int .i64 x0, .int .i64 x1, .bool false]] W fun e w' => e = .returned (.bool true) ∧ Below W.heap.size W w') := Lib.hid fun W => by have h := refright_any ⟨0, x0, x1, false⟩ W; rw [right_yes hn] at h; exact h
      have HR : Hid (∀ W, Calls Try.prog 8 #[.agg #[.int .i64 p, .int .i64 f, .int .i64 c, .bool t]] W fun e w' => e = .returned (.bool true) ∧ Below W.heap.size W w') := Lib.hid fun W => by have h := refright_any ⟨p, f, c, t⟩ W; rw [right_yes hr] at h; exact h
      have HP : Hid (∀ W, Calls Try.prog 10 #[.agg #[.int .i64 p, .int .i64 f, .int .i64 c, .bool t]] W fun e w' => e = .returned (.bool true) ∧ Below W.heap.size W w') := Lib.hid fun W => by have h := right_any ⟨p, f, c, t⟩ W; rw [right_yes hr] at h; exact h
      have HO : Hid (∀ W, Calls Try.prog 11 #[.agg #[.int .i64 p, .int .i64 f, .int .i64 c, .bool t]] W fun e w' => e = .returned (.bool (decide (4 ≤ p))) ∧ Below W.heap.size W w') := Lib.hid fun W => by have h := over_any ⟨p, f, c, t⟩ W; rw [show overH ⟨p, f, c, t⟩ = decide (4 ≤ p) from by unfold overH; rw [right_yes hr]; rfl] at h; exact h
      obtain ⟨⟨n0, n1, n2, n3⟩, hnn⟩ : ∃ n, stepN ⟨p, f, c, t⟩ sw pl mi st = n := ⟨_, rfl⟩
      obtain ⟨y, hy⟩ : ∃ y, stepV ⟨p, f, c, t⟩ sw pl mi st = y := ⟨_, rfl⟩
      have HS : Hid (∀ W, Calls Try.prog 9 #[.agg #[.int .i64 p, .int .i64 f, .int .i64 c, .bool t], .bool sw, .bool pl, .bool mi, .bool st] W fun e w' => e = .returned (.tuple #[.agg #[.int .i64 n0, .int .i64 n1, .int .i64 n2, .bool n3], .int .i64 y]) ∧ Below W.heap.size W w') := Lib.hid fun W => by have h := step_any ⟨p, f, c, t⟩ sw pl mi st W; rw [show stepHN ⟨p, f, c, t⟩ sw pl mi st = ⟨n0, n1, n2, n3⟩ from (if_pos hr).trans hnn, show stepHV ⟨p, f, c, t⟩ sw pl mi st = y from (if_pos hr).trans hy] at h; exact h
      have HT : Hid (∀ W, Calls Try.prog 12 #[.agg #[.int .i64 p, .int .i64 f, .int .i64 c, .bool t], .bool sw, .bool pl, .bool mi, .bool st] W fun e w' => e = .returned (.tuple #[.agg #[.int .i64 n0, .int .i64 n1, .int .i64 n2, .bool n3], .int .i64 y]) ∧ Below W.heap.size W w') := Lib.hid fun W => by have h := refstep_any ⟨p, f, c, t⟩ hr sw pl mi st W; rw [hnn, hy] at h; exact h
      clear hnn hy hn hr
      go_enter Try.func3, Try.ntmps3
      go_upto_region 3 with (go_at_call 6; ((with_reducible refine (HK.out _).mono ?_); rintro e v1 ⟨rfl, hb⟩; obtain ⟨hx0, hbb, hz0⟩ := k.boxes1 hb; have X9 := Lib.hid hx0; have HB := Lib.hid hbb; clear hbb hx0; have X9c0 := (k.cell_of X9.out (i := 0) rfl).1; have X9c1 := (k.cell_of X9.out (i := 1) rfl).1; have X9c2 := (k.cell_of X9.out (i := 2) rfl).1; have X9c3 := (k.cell_of X9.out (i := 3) rfl).1; clear hb))
      go_upto_region 4 with (go_at_call 7; ((with_reducible refine (HN.out _).mono ?_); rintro e v2 ⟨rfl, hb⟩; have X9 := Lib.hid (X9.out.below hb hz0); have hz0 := Nat.lt_of_lt_of_le hz0 hb.size; have HB := Lib.hid (HB.out.trans (hb.mono HB.out.size)); clear X9c0 X9c1 X9c2 X9c3; have X9c0 := (k.cell_of X9.out (i := 0) rfl).1; have X9c1 := (k.cell_of X9.out (i := 1) rfl).1; have X9c2 := (k.cell_of X9.out (i := 2) rfl).1; have X9c3 := (k.cell_of X9.out (i := 3) rfl).1; clear hb))
      have hge : w.heap.size ≤ v2.heap.size := HB.out.size
      obtain ⟨hx, hb, hzX15⟩ := k.boxes1 (w := v2) (c1 := #[.int .i64 0, .int .i64 x0, .int .i64 x1, .bool false]) (t1 := 23) (Below.refl _ _)
      generalize (v2.alloc (.cells #[.int .i64 0, .int .i64 x0, .int .i64 x1, .bool false] 23)) = v3 at hb hx hzX15 ⊢
      have X9 := Lib.hid (X9.out.below hb hz0)
      have hz0 := Nat.lt_of_lt_of_le hz0 hb.size
      have HB := Lib.hid (HB.out.trans (hb.mono HB.out.size))
      clear X9c0 X9c1 X9c2 X9c3
      obtain ⟨gX15, hgX15⟩ : ∃ g, v2.heap.size = g := ⟨_, rfl⟩
      rw [hgX15] at hx hzX15 hge ⊢
      skip
      have X15 := Lib.hid hx
      have X9c0 := (k.cell_of X9.out (i := 0) rfl).1
      have X9c1 := (k.cell_of X9.out (i := 1) rfl).1
      have X9c2 := (k.cell_of X9.out (i := 2) rfl).1
      have X9c3 := (k.cell_of X9.out (i := 3) rfl).1
      have X15c0 := (k.cell_of X15.out (i := 0) rfl).1
      have X15c1 := (k.cell_of X15.out (i := 1) rfl).1
      have X15c2 := (k.cell_of X15.out (i := 2) rfl).1
      have X15c3 := (k.cell_of X15.out (i := 3) rfl).1
      clear hb hx hgX15
      go_upto_region 5 with (fail)
      have hge : w.heap.size ≤ v3.heap.size := HB.out.size
      obtain ⟨hx, hb, hzX17⟩ := k.boxes1 (w := v3) (c1 := #[.int .i64 0, .int .i64 x0, .int .i64 x1, .bool false]) (t1 := 23) (Below.refl _ _)
      generalize (v3.alloc (.cells #[.int .i64 0, .int .i64 x0, .int .i64 x1, .bool false] 23)) = v4 at hb hx hzX17 ⊢
      have X9 := Lib.hid (X9.out.below hb hz0)
      have X15 := Lib.hid (X15.out.below hb hzX15)
      have hz0 := Nat.lt_of_lt_of_le hz0 hb.size
      have hzX15 := Nat.lt_of_lt_of_le hzX15 hb.size
      have HB := Lib.hid (HB.out.trans (hb.mono HB.out.size))
      clear X9c0 X9c1 X9c2 X9c3 X15c0 X15c1 X15c2 X15c3
      obtain ⟨gX17, hgX17⟩ : ∃ g, v3.heap.size = g := ⟨_, rfl⟩
      rw [hgX17] at hx hzX17 hge ⊢
      skip
      have X17 := Lib.hid hx
      have X9c0 := (k.cell_of X9.out (i := 0) rfl).1
      have X9c1 := (k.cell_of X9.out (i := 1) rfl).1
      have X9c2 := (k.cell_of X9.out (i := 2) rfl).1
      have X9c3 := (k.cell_of X9.out (i := 3) rfl).1
      have X15c0 := (k.cell_of X15.out (i := 0) rfl).1
      have X15c1 := (k.cell_of X15.out (i := 1) rfl).1
      have X15c2 := (k.cell_of X15.out (i := 2) rfl).1
      have X15c3 := (k.cell_of X15.out (i := 3) rfl).1
      have X17c0 := (k.cell_of X17.out (i := 0) rfl).1
      have X17c1 := (k.cell_of X17.out (i := 1) rfl).1
      have X17c2 := (k.cell_of X17.out (i := 2) rfl).1
      have X17c3 := (k.cell_of X17.out (i := 3) rfl).1
      clear hb hx hgX17
      go_upto_region 8 with (go_at_call 8; ((with_reducible refine (HQ.out _).mono ?_); rintro e v5 ⟨rfl, hb⟩; have X9 := Lib.hid (X9.out.below hb hz0); have X15 := Lib.hid (X15.out.below hb hzX15); have X17 := Lib.hid (X17.out.below hb hzX17); have hz0 := Nat.lt_of_lt_of_le hz0 hb.size; have hzX15 := Nat.lt_of_lt_of_le hzX15 hb.size; have hzX17 := Nat.lt_of_lt_of_le hzX17 hb.size; have HB := Lib.hid (HB.out.trans (hb.mono HB.out.size)); clear X9c0 X9c1 X9c2 X9c3 X15c0 X15c1 X15c2 X15c3 X17c0 X17c1 X17c2 X17c3; have X9c0 := (k.cell_of X9.out (i := 0) rfl).1; have X9c1 := (k.cell_of X9.out (i := 1) rfl).1; have X9c2 := (k.cell_of X9.out (i := 2) rfl).1; have X9c3 := (k.cell_of X9.out (i := 3) rfl).1; have X15c0 := (k.cell_of X15.out (i := 0) rfl).1; have X15c1 := (k.cell_of X15.out (i := 1) rfl).1; have X15c2 := (k.cell_of X15.out (i := 2) rfl).1; have X15c3 := (k.cell_of X15.out (i := 3) rfl).1; have X17c0 := (k.cell_of X17.out (i := 0) rfl).1; have X17c1 := (k.cell_of X17.out (i := 1) rfl).1; have X17c2 := (k.cell_of X17.out (i := 2) rfl).1; have X17c3 := (k.cell_of X17.out (i := 3) rfl).1; clear hb))
      clear X9c0 X9c1 X9c2 X9c3 X15c0 X15c1 X15c2 X15c3 X17c0 X17c1 X17c2 X17c3
      clear X15
      clear X17
      have X9c0 := (k.cell_of X9.out (i := 0) rfl).1
      have X9c1 := (k.cell_of X9.out (i := 1) rfl).1
      have X9c2 := (k.cell_of X9.out (i := 2) rfl).1
      have X9c3 := (k.cell_of X9.out (i := 3) rfl).1
      go_upto_region 9 with (go_at_call 9; ((with_reducible refine (HS.out _).mono ?_); rintro e v6 ⟨rfl, hb⟩; have X9 := Lib.hid (X9.out.below hb hz0); have hz0 := Nat.lt_of_lt_of_le hz0 hb.size; have HB := Lib.hid (HB.out.trans (hb.mono HB.out.size)); clear X9c0 X9c1 X9c2 X9c3; have X9c0 := (k.cell_of X9.out (i := 0) rfl).1; have X9c1 := (k.cell_of X9.out (i := 1) rfl).1; have X9c2 := (k.cell_of X9.out (i := 2) rfl).1; have X9c3 := (k.cell_of X9.out (i := 3) rfl).1; clear hb))
      have hge : w.heap.size ≤ v6.heap.size := HB.out.size
      obtain ⟨hx, hb, hzX19⟩ := k.boxes1 (w := v6) (c1 := #[.int .i64 n0, .int .i64 n1, .int .i64 n2, .bool n3]) (t1 := 23) (Below.refl _ _)
      generalize (v6.alloc (.cells #[.int .i64 n0, .int .i64 n1, .int .i64 n2, .bool n3] 23)) = v7 at hb hx hzX19 ⊢
      have X9 := Lib.hid (X9.out.below hb hz0)
      have hz0 := Nat.lt_of_lt_of_le hz0 hb.size
      have HB := Lib.hid (HB.out.trans (hb.mono HB.out.size))
      clear X9c0 X9c1 X9c2 X9c3
      obtain ⟨gX19, hgX19⟩ : ∃ g, v6.heap.size = g := ⟨_, rfl⟩
      rw [hgX19] at hx hzX19 hge ⊢
      skip
      have X19 := Lib.hid hx
      have X9c0 := (k.cell_of X9.out (i := 0) rfl).1
      have X9c1 := (k.cell_of X9.out (i := 1) rfl).1
      have X9c2 := (k.cell_of X9.out (i := 2) rfl).1
      have X9c3 := (k.cell_of X9.out (i := 3) rfl).1
      have X19c0 := (k.cell_of X19.out (i := 0) rfl).1
      have X19c1 := (k.cell_of X19.out (i := 1) rfl).1
      have X19c2 := (k.cell_of X19.out (i := 2) rfl).1
      have X19c3 := (k.cell_of X19.out (i := 3) rfl).1
      clear hb hx hgX19
      go_upto_region 11 with (go_at_call 8; ((with_reducible refine (HR.out _).mono ?_); rintro e v8 ⟨rfl, hb⟩; have X9 := Lib.hid (X9.out.below hb hz0); have X19 := Lib.hid (X19.out.below hb hzX19); have hz0 := Nat.lt_of_lt_of_le hz0 hb.size; have hzX19 := Nat.lt_of_lt_of_le hzX19 hb.size; have HB := Lib.hid (HB.out.trans (hb.mono HB.out.size)); clear X9c0 X9c1 X9c2 X9c3 X19c0 X19c1 X19c2 X19c3; have X9c0 := (k.cell_of X9.out (i := 0) rfl).1; have X9c1 := (k.cell_of X9.out (i := 1) rfl).1; have X9c2 := (k.cell_of X9.out (i := 2) rfl).1; have X9c3 := (k.cell_of X9.out (i := 3) rfl).1; have X19c0 := (k.cell_of X19.out (i := 0) rfl).1; have X19c1 := (k.cell_of X19.out (i := 1) rfl).1; have X19c2 := (k.cell_of X19.out (i := 2) rfl).1; have X19c3 := (k.cell_of X19.out (i := 3) rfl).1; clear hb))
      go_upto_region 12 with (go_at_call 12; ((with_reducible refine (HT.out _).mono ?_); rintro e v9 ⟨rfl, hb⟩; have X9 := Lib.hid (X9.out.below hb hz0); have X19 := Lib.hid (X19.out.below hb hzX19); have hz0 := Nat.lt_of_lt_of_le hz0 hb.size; have hzX19 := Nat.lt_of_lt_of_le hzX19 hb.size; have HB := Lib.hid (HB.out.trans (hb.mono HB.out.size)); clear X9c0 X9c1 X9c2 X9c3 X19c0 X19c1 X19c2 X19c3; have X9c0 := (k.cell_of X9.out (i := 0) rfl).1; have X9c1 := (k.cell_of X9.out (i := 1) rfl).1; have X9c2 := (k.cell_of X9.out (i := 2) rfl).1; have X9c3 := (k.cell_of X9.out (i := 3) rfl).1; have X19c0 := (k.cell_of X19.out (i := 0) rfl).1; have X19c1 := (k.cell_of X19.out (i := 1) rfl).1; have X19c2 := (k.cell_of X19.out (i := 2) rfl).1; have X19c3 := (k.cell_of X19.out (i := 3) rfl).1; clear hb))
      have hge : w.heap.size ≤ v9.heap.size := HB.out.size
      obtain ⟨hx, hb, hzX21⟩ := k.boxes1 (w := v9) (c1 := #[.int .i64 n0, .int .i64 n1, .int .i64 n2, .bool n3]) (t1 := 23) (Below.refl _ _)
      generalize (v9.alloc (.cells #[.int .i64 n0, .int .i64 n1, .int .i64 n2, .bool n3] 23)) = v10 at hb hx hzX21 ⊢
      have X9 := Lib.hid (X9.out.below hb hz0)
      have X19 := Lib.hid (X19.out.below hb hzX19)
      have hz0 := Nat.lt_of_lt_of_le hz0 hb.size
      have hzX19 := Nat.lt_of_lt_of_le hzX19 hb.size
      have HB := Lib.hid (HB.out.trans (hb.mono HB.out.size))
      clear X9c0 X9c1 X9c2 X9c3 X19c0 X19c1 X19c2 X19c3
      obtain ⟨gX21, hgX21⟩ : ∃ g, v9.heap.size = g := ⟨_, rfl⟩
      rw [hgX21] at hx hzX21 hge ⊢
      skip
      have X21 := Lib.hid hx
      have X9c0 := (k.cell_of X9.out (i := 0) rfl).1
      have X9c1 := (k.cell_of X9.out (i := 1) rfl).1
      have X9c2 := (k.cell_of X9.out (i := 2) rfl).1
      have X9c3 := (k.cell_of X9.out (i := 3) rfl).1
      have X19c0 := (k.cell_of X19.out (i := 0) rfl).1
      have X19c1 := (k.cell_of X19.out (i := 1) rfl).1
      have X19c2 := (k.cell_of X19.out (i := 2) rfl).1
      have X19c3 := (k.cell_of X19.out (i := 3) rfl).1
      have X21c0 := (k.cell_of X21.out (i := 0) rfl).1
      have X21c1 := (k.cell_of X21.out (i := 1) rfl).1
      have X21c2 := (k.cell_of X21.out (i := 2) rfl).1
      have X21c3 := (k.cell_of X21.out (i := 3) rfl).1
      clear hb hx hgX21
      refine wp_region_T (by kernel_rfl) (fun w' => Below v10.heap.size v10 w') [] (Below.refl _ _).drew (fun hHeld => ?_)
      refine wpAnyT_take (i := 0) (v := ?_) rfl (by kernel_rfl) (by kernel_rfl) (by kernel_rfl) (fun _ _ _ h => h) (Or.inl ⟨by rfl, ?_⟩) (by assumption) ?_
      rotate_left 1
      · intro w_ hSw; have zX90 := (hSw.cell (p := ⟨w.heap.size, 0, none⟩) hz0).trans X9c0; have zX91 := (hSw.cell (p := ⟨w.heap.size, 1, none⟩) hz0).trans X9c1; have zX92 := (hSw.cell (p := ⟨w.heap.size, 2, none⟩) hz0).trans X9c2; have zX93 := (hSw.cell (p := ⟨w.heap.size, 3, none⟩) hz0).trans X9c3; clear hSw; go_simp <;> (with_reducible rfl)
      try simp only [Act.put, List.setIfInBounds_toArray, List.set_cons_zero, List.set_cons_succ, List.getElem_toArray, List.getElem_cons_zero]
      refine wpAnyT_ready (rs := [1]) (by kernel_rfl) (by simp) ?_
      refine AllReadyT.cons rfl (fun K hK => ?_) AllReadyT.nil
      go_simp
      (go_at_call 10; ((with_reducible refine (HP.out _).mono ?_); rintro e u1 ⟨rfl, hb0⟩))
      have hb1 : Below v10.heap.size v10 u1 := ((Below.refl _ _).drew).trans hb0
      clear hb0
      go_wp2_with fail
      refine hK.out _ _ hb1 (fun hHeld => ?_)
      clear hK K
      try simp only [Act.put, List.setIfInBounds_toArray, List.set_cons_zero, List.set_cons_succ, List.getElem_toArray, List.getElem_cons_succ, List.getElem_cons_zero]
      refine wpAnyT_take (i := 2) (v := ?_) rfl (by kernel_rfl) (by kernel_rfl) (by kernel_rfl) (fun _ _ _ h => h) (Or.inl ⟨by rfl, ?_⟩) (by assumption) ?_
      rotate_left 1
      · intro w_ hSw; clear hSw; go_simp <;> (with_reducible rfl)
      try simp only [Act.put, List.setIfInBounds_toArray, List.set_cons_zero, List.set_cons_succ, List.getElem_toArray, List.getElem_cons_succ, List.getElem_cons_zero]
      refine wpAnyT_take (i := 3) (v := ?_) rfl (by kernel_rfl) (by kernel_rfl) (by kernel_rfl) (fun _ _ _ h => h) (Or.inl ⟨by rfl, ?_⟩) (by assumption) ?_
      rotate_left 1
      · intro w_ hSw; have zX190 := (hSw.cell (p := ⟨gX19, 0, none⟩) hzX19).trans X19c0; have zX191 := (hSw.cell (p := ⟨gX19, 1, none⟩) hzX19).trans X19c1; have zX192 := (hSw.cell (p := ⟨gX19, 2, none⟩) hzX19).trans X19c2; have zX193 := (hSw.cell (p := ⟨gX19, 3, none⟩) hzX19).trans X19c3; clear hSw; go_simp <;> (with_reducible rfl)
      try simp only [Act.put, List.setIfInBounds_toArray, List.set_cons_zero, List.set_cons_succ, List.getElem_toArray, List.getElem_cons_succ, List.getElem_cons_zero]
      refine wpAnyT_take (i := 4) (v := ?_) rfl (by kernel_rfl) (by kernel_rfl) (by kernel_rfl) (fun _ _ _ h => h) (Or.inl ⟨by rfl, ?_⟩) (by assumption) ?_
      rotate_left 1
      · intro w_ hSw; have zX210 := (hSw.cell (p := ⟨gX21, 0, none⟩) hzX21).trans X21c0; have zX211 := (hSw.cell (p := ⟨gX21, 1, none⟩) hzX21).trans X21c1; have zX212 := (hSw.cell (p := ⟨gX21, 2, none⟩) hzX21).trans X21c2; have zX213 := (hSw.cell (p := ⟨gX21, 3, none⟩) hzX21).trans X21c3; clear hSw; go_simp <;> (with_reducible rfl)
      try simp only [Act.put, List.setIfInBounds_toArray, List.set_cons_zero, List.set_cons_succ, List.getElem_toArray, List.getElem_cons_succ, List.getElem_cons_zero]
      refine wpAnyT_take (i := 5) (v := ?_) rfl (by kernel_rfl) (by kernel_rfl) (by kernel_rfl) (fun _ _ _ h => h) (Or.inl ⟨by rfl, ?_⟩) (by assumption) ?_
      rotate_left 1
      · intro w_ hSw; clear hSw; go_simp <;> (with_reducible rfl)
      try simp only [Act.put, List.setIfInBounds_toArray, List.set_cons_zero, List.set_cons_succ, List.getElem_toArray, List.getElem_cons_succ, List.getElem_cons_zero]
      refine wpAnyT_take (i := 6) (v := ?_) rfl (by kernel_rfl) (by kernel_rfl) (by kernel_rfl) (fun _ _ _ h => h) (Or.inl ⟨by rfl, ?_⟩) (by assumption) ?_
      rotate_left 1
      · intro w_ hSw; clear hSw; go_simp <;> (with_reducible rfl)
      try simp only [Act.put, List.setIfInBounds_toArray, List.set_cons_zero, List.set_cons_succ, List.getElem_toArray, List.getElem_cons_succ, List.getElem_cons_zero]
      refine wpAnyT_take (i := 7) (v := ?_) rfl (by kernel_rfl) (by kernel_rfl) (by kernel_rfl) (fun _ _ _ h => h) (Or.inl ⟨by rfl, ?_⟩) (by assumption) ?_
      rotate_left 1
      · intro w_ hSw; clear hSw; go_simp <;> (with_reducible rfl)
      try simp only [Act.put, List.setIfInBounds_toArray, List.set_cons_zero, List.set_cons_succ, List.getElem_toArray, List.getElem_cons_succ, List.getElem_cons_zero]
      refine wpAnyT_take (i := 8) (v := ?_) rfl (by kernel_rfl) (by kernel_rfl) (by kernel_rfl) (fun _ _ _ h => h) (Or.inl ⟨by rfl, ?_⟩) (by assumption) ?_
      rotate_left 1
      · intro w_ hSw; clear hSw; go_simp <;> (with_reducible rfl)
      try simp only [Act.put, List.setIfInBounds_toArray, List.set_cons_zero, List.set_cons_succ, List.getElem_toArray, List.getElem_cons_succ, List.getElem_cons_zero]
      refine wpAnyT_take (i := 9) (v := ?_) rfl (by kernel_rfl) (by kernel_rfl) (by kernel_rfl) (fun _ _ _ h => h) (Or.inl ⟨by rfl, ?_⟩) (by assumption) ?_
      rotate_left 1
      · intro w_ hSw; clear hSw; go_simp <;> (with_reducible rfl)
      try simp only [Act.put, List.setIfInBounds_toArray, List.set_cons_zero, List.set_cons_succ, List.getElem_toArray, List.getElem_cons_succ, List.getElem_cons_zero]
      refine wpAnyT_take (i := 10) (v := ?_) rfl (by kernel_rfl) (by kernel_rfl) (by kernel_rfl) (fun _ _ _ h => h) (Or.inl ⟨by rfl, ?_⟩) (by assumption) ?_
      rotate_left 1
      · intro w_ hSw; clear hSw; go_simp <;> (with_reducible rfl)
      try simp only [Act.put, List.setIfInBounds_toArray, List.set_cons_zero, List.set_cons_succ, List.getElem_toArray, List.getElem_cons_succ, List.getElem_cons_zero]
      refine wpAnyT_take (i := 11) (v := ?_) rfl (by kernel_rfl) (by kernel_rfl) (by kernel_rfl) (fun _ _ _ h => h) (Or.inl ⟨by rfl, ?_⟩) (by assumption) ?_
      rotate_left 1
      · intro w_ hSw; clear hSw; go_simp <;> (with_reducible rfl)
      try simp only [Act.put, List.setIfInBounds_toArray, List.set_cons_zero, List.set_cons_succ, List.getElem_toArray, List.getElem_cons_succ, List.getElem_cons_zero]
      refine wpAnyT_take (i := 12) (v := ?_) rfl (by kernel_rfl) (by kernel_rfl) (by kernel_rfl) (fun _ _ _ h => h) (Or.inl ⟨by rfl, ?_⟩) (by assumption) ?_
      rotate_left 1
      · intro w_ hSw; clear hSw; go_simp <;> (with_reducible rfl)
      try simp only [Act.put, List.setIfInBounds_toArray, List.set_cons_zero, List.set_cons_succ, List.getElem_toArray, List.getElem_cons_succ, List.getElem_cons_zero]
      refine wpAnyT_take (i := 13) (v := ?_) rfl (by kernel_rfl) (by kernel_rfl) (by kernel_rfl) (fun _ _ _ h => h) (Or.inl ⟨by rfl, ?_⟩) (by assumption) ?_
      rotate_left 1
      · intro w_ hSw; have zX90 := (hSw.cell (p := ⟨w.heap.size, 0, none⟩) hz0).trans X9c0; have zX91 := (hSw.cell (p := ⟨w.heap.size, 1, none⟩) hz0).trans X9c1; have zX92 := (hSw.cell (p := ⟨w.heap.size, 2, none⟩) hz0).trans X9c2; have zX93 := (hSw.cell (p := ⟨w.heap.size, 3, none⟩) hz0).trans X9c3; clear hSw; go_simp <;> (with_reducible rfl)
      try simp only [Act.put, List.setIfInBounds_toArray, List.set_cons_zero, List.set_cons_succ, List.getElem_toArray, List.getElem_cons_succ, List.getElem_cons_zero]
      refine wpAnyT_take (i := 15) (v := ?_) rfl (by kernel_rfl) (by kernel_rfl) (by kernel_rfl) (fun _ _ _ h => h) (Or.inl ⟨by rfl, ?_⟩) (by assumption) ?_
      rotate_left 1
      · intro w_ hSw; clear hSw; go_simp <;> (with_reducible rfl)
      try simp only [Act.put, List.setIfInBounds_toArray, List.set_cons_zero, List.set_cons_succ, List.getElem_toArray, List.getElem_cons_succ, List.getElem_cons_zero]
      refine wpAnyT_take (i := 16) (v := ?_) rfl (by kernel_rfl) (by kernel_rfl) (by kernel_rfl) (fun _ _ _ h => h) (Or.inl ⟨by rfl, ?_⟩) (by assumption) ?_
      rotate_left 1
      · intro w_ hSw; have zX90 := (hSw.cell (p := ⟨w.heap.size, 0, none⟩) hz0).trans X9c0; have zX91 := (hSw.cell (p := ⟨w.heap.size, 1, none⟩) hz0).trans X9c1; have zX92 := (hSw.cell (p := ⟨w.heap.size, 2, none⟩) hz0).trans X9c2; have zX93 := (hSw.cell (p := ⟨w.heap.size, 3, none⟩) hz0).trans X9c3; clear hSw; go_simp <;> (with_reducible rfl)
      try simp only [Act.put, List.setIfInBounds_toArray, List.set_cons_zero, List.set_cons_succ, List.getElem_toArray, List.getElem_cons_succ, List.getElem_cons_zero]
      refine wpAnyT_take (i := 17) (v := ?_) rfl (by kernel_rfl) (by kernel_rfl) (by kernel_rfl) (fun _ _ _ h => h) (Or.inl ⟨by rfl, ?_⟩) (by assumption) ?_
      rotate_left 1
      · intro w_ hSw; clear hSw; go_simp <;> (with_reducible rfl)
      try simp only [Act.put, List.setIfInBounds_toArray, List.set_cons_zero, List.set_cons_succ, List.getElem_toArray, List.getElem_cons_succ, List.getElem_cons_zero]
      refine wpAnyT_ready (rs := [14]) (by kernel_rfl) (by simp) ?_
      refine AllReadyT.cons rfl (fun K hK => ?_) AllReadyT.nil
      go_simp
      (go_at_call 11; ((with_reducible refine (HO.out _).mono ?_); rintro e u2 ⟨rfl, hb0⟩))
      have hb2 : Below v10.heap.size v10 u2 := hb1.trans (hb0.mono hb1.size)
      clear hb0
      go_wp2_with fail
      refine hK.out _ _ hb2 (fun hHeld => ?_)
      clear hK K
      try simp only [Act.put, List.setIfInBounds_toArray, List.set_cons_zero, List.set_cons_succ, List.getElem_toArray, List.getElem_cons_succ, List.getElem_cons_zero]
      refine wpAnyT_take (i := 18) (v := ?_) rfl (by kernel_rfl) (by kernel_rfl) (by kernel_rfl) (fun _ _ _ h => h) (Or.inl ⟨by rfl, ?_⟩) (by assumption) ?_
      rotate_left 1
      · intro w_ hSw; clear hSw; go_simp <;> (with_reducible rfl)
      try simp only [Act.put, List.setIfInBounds_toArray, List.set_cons_zero, List.set_cons_succ, List.getElem_toArray, List.getElem_cons_succ, List.getElem_cons_zero]
      refine wpAnyT_take (i := 19) (v := ?_) rfl (by kernel_rfl) (by kernel_rfl) (by kernel_rfl) (fun _ _ _ h => h) (Or.inl ⟨by rfl, ?_⟩) (by assumption) ?_
      rotate_left 1
      · intro w_ hSw; clear hSw; go_simp <;> (with_reducible rfl)
      try simp only [Act.put, List.setIfInBounds_toArray, List.set_cons_zero, List.set_cons_succ, List.getElem_toArray, List.getElem_cons_succ, List.getElem_cons_zero]
      refine wpAnyT_take (i := 20) (v := ?_) rfl (by kernel_rfl) (by kernel_rfl) (by kernel_rfl) (fun _ _ _ h => h) (Or.inl ⟨by rfl, ?_⟩) (by assumption) ?_
      rotate_left 1
      · intro w_ hSw; clear hSw; go_simp <;> (with_reducible rfl)
      try simp only [Act.put, List.setIfInBounds_toArray, List.set_cons_zero, List.set_cons_succ, List.getElem_toArray, List.getElem_cons_succ, List.getElem_cons_zero]
      refine wpAnyT_done (by kernel_rfl) ?_ _
      go_wp2_with fail
      go_ret
      exact ⟨rfl, HB.out.trans (hb2.mono HB.out.size)⟩
    · skip
      have HN : Hid (∀ W, Calls Try.prog 7 #[.int .i64 x0, .int .i64 x1] W fun e w' => e = .returned (.tuple #[.agg #[.int .i64 0, .int .i64 x0, .int .i64 x1, .bool false], .int .i64 0]) ∧ Below W.heap.size W w') := Lib.hid fun W => by have h := new_any x0 x1 W; rw [show newH x0 x1 = ⟨0, x0, x1, false⟩ from if_pos hn, show newE x0 x1 = 0 from if_pos hn] at h; exact h
      have HQ : Hid (∀ W, Calls Try.prog 8 #[.agg #[.int .i64 0, .int .i64 x0, .int .i64 x1, .bool false]] W fun e w' => e = .returned (.bool true) ∧ Below W.heap.size W w') := Lib.hid fun W => by have h := refright_any ⟨0, x0, x1, false⟩ W; rw [right_yes hn] at h; exact h
      have HR : Hid (∀ W, Calls Try.prog 8 #[.agg #[.int .i64 p, .int .i64 f, .int .i64 c, .bool t]] W fun e w' => e = .returned (.bool false) ∧ Below W.heap.size W w') := Lib.hid fun W => by have h := refright_any ⟨p, f, c, t⟩ W; rw [right_no hr] at h; exact h
      have HP : Hid (∀ W, Calls Try.prog 10 #[.agg #[.int .i64 p, .int .i64 f, .int .i64 c, .bool t]] W fun e w' => e = .returned (.bool false) ∧ Below W.heap.size W w') := Lib.hid fun W => by have h := right_any ⟨p, f, c, t⟩ W; rw [right_no hr] at h; exact h
      have HO : Hid (∀ W, Calls Try.prog 11 #[.agg #[.int .i64 p, .int .i64 f, .int .i64 c, .bool t]] W fun e w' => e = .returned (.bool true) ∧ Below W.heap.size W w') := Lib.hid fun W => by have h := over_any ⟨p, f, c, t⟩ W; rw [show overH ⟨p, f, c, t⟩ = true from by unfold overH; rw [right_no hr]; rfl] at h; exact h
      have HS : Hid (∀ W, Calls Try.prog 9 #[.agg #[.int .i64 p, .int .i64 f, .int .i64 c, .bool t], .bool sw, .bool pl, .bool mi, .bool st] W fun e w' => e = .returned (.tuple #[.agg #[.int .i64 p, .int .i64 f, .int .i64 c, .bool t], .int .i64 0]) ∧ Below W.heap.size W w') := Lib.hid fun W => by have h := step_any ⟨p, f, c, t⟩ sw pl mi st W; rw [show stepHN ⟨p, f, c, t⟩ sw pl mi st = ⟨p, f, c, t⟩ from if_neg hr, show stepHV ⟨p, f, c, t⟩ sw pl mi st = 0 from if_neg hr] at h; exact h
      clear hn hr
      go_enter Try.func3, Try.ntmps3
      go_upto_region 3 with (go_at_call 6; ((with_reducible refine (HK.out _).mono ?_); rintro e v1 ⟨rfl, hb⟩; obtain ⟨hx0, hbb, hz0⟩ := k.boxes1 hb; have X9 := Lib.hid hx0; have HB := Lib.hid hbb; clear hbb hx0; have X9c0 := (k.cell_of X9.out (i := 0) rfl).1; have X9c1 := (k.cell_of X9.out (i := 1) rfl).1; have X9c2 := (k.cell_of X9.out (i := 2) rfl).1; have X9c3 := (k.cell_of X9.out (i := 3) rfl).1; clear hb))
      go_upto_region 4 with (go_at_call 7; ((with_reducible refine (HN.out _).mono ?_); rintro e v2 ⟨rfl, hb⟩; have X9 := Lib.hid (X9.out.below hb hz0); have hz0 := Nat.lt_of_lt_of_le hz0 hb.size; have HB := Lib.hid (HB.out.trans (hb.mono HB.out.size)); clear X9c0 X9c1 X9c2 X9c3; have X9c0 := (k.cell_of X9.out (i := 0) rfl).1; have X9c1 := (k.cell_of X9.out (i := 1) rfl).1; have X9c2 := (k.cell_of X9.out (i := 2) rfl).1; have X9c3 := (k.cell_of X9.out (i := 3) rfl).1; clear hb))
      have hge : w.heap.size ≤ v2.heap.size := HB.out.size
      obtain ⟨hx, hb, hzX15⟩ := k.boxes1 (w := v2) (c1 := #[.int .i64 0, .int .i64 x0, .int .i64 x1, .bool false]) (t1 := 23) (Below.refl _ _)
      generalize (v2.alloc (.cells #[.int .i64 0, .int .i64 x0, .int .i64 x1, .bool false] 23)) = v3 at hb hx hzX15 ⊢
      have X9 := Lib.hid (X9.out.below hb hz0)
      have hz0 := Nat.lt_of_lt_of_le hz0 hb.size
      have HB := Lib.hid (HB.out.trans (hb.mono HB.out.size))
      clear X9c0 X9c1 X9c2 X9c3
      obtain ⟨gX15, hgX15⟩ : ∃ g, v2.heap.size = g := ⟨_, rfl⟩
      rw [hgX15] at hx hzX15 hge ⊢
      skip
      have X15 := Lib.hid hx
      have X9c0 := (k.cell_of X9.out (i := 0) rfl).1
      have X9c1 := (k.cell_of X9.out (i := 1) rfl).1
      have X9c2 := (k.cell_of X9.out (i := 2) rfl).1
      have X9c3 := (k.cell_of X9.out (i := 3) rfl).1
      have X15c0 := (k.cell_of X15.out (i := 0) rfl).1
      have X15c1 := (k.cell_of X15.out (i := 1) rfl).1
      have X15c2 := (k.cell_of X15.out (i := 2) rfl).1
      have X15c3 := (k.cell_of X15.out (i := 3) rfl).1
      clear hb hx hgX15
      go_upto_region 5 with (fail)
      have hge : w.heap.size ≤ v3.heap.size := HB.out.size
      obtain ⟨hx, hb, hzX17⟩ := k.boxes1 (w := v3) (c1 := #[.int .i64 0, .int .i64 x0, .int .i64 x1, .bool false]) (t1 := 23) (Below.refl _ _)
      generalize (v3.alloc (.cells #[.int .i64 0, .int .i64 x0, .int .i64 x1, .bool false] 23)) = v4 at hb hx hzX17 ⊢
      have X9 := Lib.hid (X9.out.below hb hz0)
      have X15 := Lib.hid (X15.out.below hb hzX15)
      have hz0 := Nat.lt_of_lt_of_le hz0 hb.size
      have hzX15 := Nat.lt_of_lt_of_le hzX15 hb.size
      have HB := Lib.hid (HB.out.trans (hb.mono HB.out.size))
      clear X9c0 X9c1 X9c2 X9c3 X15c0 X15c1 X15c2 X15c3
      obtain ⟨gX17, hgX17⟩ : ∃ g, v3.heap.size = g := ⟨_, rfl⟩
      rw [hgX17] at hx hzX17 hge ⊢
      skip
      have X17 := Lib.hid hx
      have X9c0 := (k.cell_of X9.out (i := 0) rfl).1
      have X9c1 := (k.cell_of X9.out (i := 1) rfl).1
      have X9c2 := (k.cell_of X9.out (i := 2) rfl).1
      have X9c3 := (k.cell_of X9.out (i := 3) rfl).1
      have X15c0 := (k.cell_of X15.out (i := 0) rfl).1
      have X15c1 := (k.cell_of X15.out (i := 1) rfl).1
      have X15c2 := (k.cell_of X15.out (i := 2) rfl).1
      have X15c3 := (k.cell_of X15.out (i := 3) rfl).1
      have X17c0 := (k.cell_of X17.out (i := 0) rfl).1
      have X17c1 := (k.cell_of X17.out (i := 1) rfl).1
      have X17c2 := (k.cell_of X17.out (i := 2) rfl).1
      have X17c3 := (k.cell_of X17.out (i := 3) rfl).1
      clear hb hx hgX17
      go_upto_region 8 with (go_at_call 8; ((with_reducible refine (HQ.out _).mono ?_); rintro e v5 ⟨rfl, hb⟩; have X9 := Lib.hid (X9.out.below hb hz0); have X15 := Lib.hid (X15.out.below hb hzX15); have X17 := Lib.hid (X17.out.below hb hzX17); have hz0 := Nat.lt_of_lt_of_le hz0 hb.size; have hzX15 := Nat.lt_of_lt_of_le hzX15 hb.size; have hzX17 := Nat.lt_of_lt_of_le hzX17 hb.size; have HB := Lib.hid (HB.out.trans (hb.mono HB.out.size)); clear X9c0 X9c1 X9c2 X9c3 X15c0 X15c1 X15c2 X15c3 X17c0 X17c1 X17c2 X17c3; have X9c0 := (k.cell_of X9.out (i := 0) rfl).1; have X9c1 := (k.cell_of X9.out (i := 1) rfl).1; have X9c2 := (k.cell_of X9.out (i := 2) rfl).1; have X9c3 := (k.cell_of X9.out (i := 3) rfl).1; have X15c0 := (k.cell_of X15.out (i := 0) rfl).1; have X15c1 := (k.cell_of X15.out (i := 1) rfl).1; have X15c2 := (k.cell_of X15.out (i := 2) rfl).1; have X15c3 := (k.cell_of X15.out (i := 3) rfl).1; have X17c0 := (k.cell_of X17.out (i := 0) rfl).1; have X17c1 := (k.cell_of X17.out (i := 1) rfl).1; have X17c2 := (k.cell_of X17.out (i := 2) rfl).1; have X17c3 := (k.cell_of X17.out (i := 3) rfl).1; clear hb))
      clear X9c0 X9c1 X9c2 X9c3 X15c0 X15c1 X15c2 X15c3 X17c0 X17c1 X17c2 X17c3
      clear X15
      clear X17
      have X9c0 := (k.cell_of X9.out (i := 0) rfl).1
      have X9c1 := (k.cell_of X9.out (i := 1) rfl).1
      have X9c2 := (k.cell_of X9.out (i := 2) rfl).1
      have X9c3 := (k.cell_of X9.out (i := 3) rfl).1
      go_upto_region 9 with (go_at_call 9; ((with_reducible refine (HS.out _).mono ?_); rintro e v6 ⟨rfl, hb⟩; have X9 := Lib.hid (X9.out.below hb hz0); have hz0 := Nat.lt_of_lt_of_le hz0 hb.size; have HB := Lib.hid (HB.out.trans (hb.mono HB.out.size)); clear X9c0 X9c1 X9c2 X9c3; have X9c0 := (k.cell_of X9.out (i := 0) rfl).1; have X9c1 := (k.cell_of X9.out (i := 1) rfl).1; have X9c2 := (k.cell_of X9.out (i := 2) rfl).1; have X9c3 := (k.cell_of X9.out (i := 3) rfl).1; clear hb))
      have hge : w.heap.size ≤ v6.heap.size := HB.out.size
      obtain ⟨hx, hb, hzX19⟩ := k.boxes1 (w := v6) (c1 := #[.int .i64 p, .int .i64 f, .int .i64 c, .bool t]) (t1 := 23) (Below.refl _ _)
      generalize (v6.alloc (.cells #[.int .i64 p, .int .i64 f, .int .i64 c, .bool t] 23)) = v7 at hb hx hzX19 ⊢
      have X9 := Lib.hid (X9.out.below hb hz0)
      have hz0 := Nat.lt_of_lt_of_le hz0 hb.size
      have HB := Lib.hid (HB.out.trans (hb.mono HB.out.size))
      clear X9c0 X9c1 X9c2 X9c3
      obtain ⟨gX19, hgX19⟩ : ∃ g, v6.heap.size = g := ⟨_, rfl⟩
      rw [hgX19] at hx hzX19 hge ⊢
      skip
      have X19 := Lib.hid hx
      have X9c0 := (k.cell_of X9.out (i := 0) rfl).1
      have X9c1 := (k.cell_of X9.out (i := 1) rfl).1
      have X9c2 := (k.cell_of X9.out (i := 2) rfl).1
      have X9c3 := (k.cell_of X9.out (i := 3) rfl).1
      have X19c0 := (k.cell_of X19.out (i := 0) rfl).1
      have X19c1 := (k.cell_of X19.out (i := 1) rfl).1
      have X19c2 := (k.cell_of X19.out (i := 2) rfl).1
      have X19c3 := (k.cell_of X19.out (i := 3) rfl).1
      clear hb hx hgX19
      go_upto_region 10 with (go_at_call 8; ((with_reducible refine (HR.out _).mono ?_); rintro e v8 ⟨rfl, hb⟩; have X9 := Lib.hid (X9.out.below hb hz0); have X19 := Lib.hid (X19.out.below hb hzX19); have hz0 := Nat.lt_of_lt_of_le hz0 hb.size; have hzX19 := Nat.lt_of_lt_of_le hzX19 hb.size; have HB := Lib.hid (HB.out.trans (hb.mono HB.out.size)); clear X9c0 X9c1 X9c2 X9c3 X19c0 X19c1 X19c2 X19c3; have X9c0 := (k.cell_of X9.out (i := 0) rfl).1; have X9c1 := (k.cell_of X9.out (i := 1) rfl).1; have X9c2 := (k.cell_of X9.out (i := 2) rfl).1; have X9c3 := (k.cell_of X9.out (i := 3) rfl).1; have X19c0 := (k.cell_of X19.out (i := 0) rfl).1; have X19c1 := (k.cell_of X19.out (i := 1) rfl).1; have X19c2 := (k.cell_of X19.out (i := 2) rfl).1; have X19c3 := (k.cell_of X19.out (i := 3) rfl).1; clear hb))
      go_wp2_with (first | (go_at_call 10; ((with_reducible refine (HP.out _).mono ?_); rintro e v9 ⟨rfl, hb⟩; have X9 := Lib.hid (X9.out.below hb hz0); have X19 := Lib.hid (X19.out.below hb hzX19); have hz0 := Nat.lt_of_lt_of_le hz0 hb.size; have hzX19 := Nat.lt_of_lt_of_le hzX19 hb.size; have HB := Lib.hid (HB.out.trans (hb.mono HB.out.size)); clear X9c0 X9c1 X9c2 X9c3 X19c0 X19c1 X19c2 X19c3; have X9c0 := (k.cell_of X9.out (i := 0) rfl).1; have X9c1 := (k.cell_of X9.out (i := 1) rfl).1; have X9c2 := (k.cell_of X9.out (i := 2) rfl).1; have X9c3 := (k.cell_of X9.out (i := 3) rfl).1; have X19c0 := (k.cell_of X19.out (i := 0) rfl).1; have X19c1 := (k.cell_of X19.out (i := 1) rfl).1; have X19c2 := (k.cell_of X19.out (i := 2) rfl).1; have X19c3 := (k.cell_of X19.out (i := 3) rfl).1; clear hb)) | (go_at_call 11; ((with_reducible refine (HO.out _).mono ?_); rintro e v10 ⟨rfl, hb⟩; have X9 := Lib.hid (X9.out.below hb hz0); have X19 := Lib.hid (X19.out.below hb hzX19); have hz0 := Nat.lt_of_lt_of_le hz0 hb.size; have hzX19 := Nat.lt_of_lt_of_le hzX19 hb.size; have HB := Lib.hid (HB.out.trans (hb.mono HB.out.size)); clear X9c0 X9c1 X9c2 X9c3 X19c0 X19c1 X19c2 X19c3; have X9c0 := (k.cell_of X9.out (i := 0) rfl).1; have X9c1 := (k.cell_of X9.out (i := 1) rfl).1; have X9c2 := (k.cell_of X9.out (i := 2) rfl).1; have X9c3 := (k.cell_of X9.out (i := 3) rfl).1; have X19c0 := (k.cell_of X19.out (i := 0) rfl).1; have X19c1 := (k.cell_of X19.out (i := 1) rfl).1; have X19c2 := (k.cell_of X19.out (i := 2) rfl).1; have X19c3 := (k.cell_of X19.out (i := 3) rfl).1; clear hb)))
      go_ret
      exact ⟨rfl, HB.out⟩
  · skip
    by_cases hr : RightH ⟨p, f, c, t⟩
    · skip
      have HN : Hid (∀ W, Calls Try.prog 7 #[.int .i64 x0, .int .i64 x1] W fun e w' => e = .returned (.tuple #[.agg #[.int .i64 0, .int .i64 0, .int .i64 0, .bool false], .int .i64 1]) ∧ Below W.heap.size W w') := Lib.hid fun W => by have h := new_any x0 x1 W; rw [show newH x0 x1 = zeroH from if_neg hn, show newE x0 x1 = 1 from if_neg hn] at h; exact h
      have HQ : Hid (∀ W, Calls Try.prog 8 #[.agg #[.int .i64 0, .int .i64 x0, .int .i64 x1, .bool false]] W fun e w' => e = .returned (.bool false) ∧ Below W.heap.size W w') := Lib.hid fun W => by have h := refright_any ⟨0, x0, x1, false⟩ W; rw [right_no hn] at h; exact h
      have HR : Hid (∀ W, Calls Try.prog 8 #[.agg #[.int .i64 p, .int .i64 f, .int .i64 c, .bool t]] W fun e w' => e = .returned (.bool true) ∧ Below W.heap.size W w') := Lib.hid fun W => by have h := refright_any ⟨p, f, c, t⟩ W; rw [right_yes hr] at h; exact h
      have HP : Hid (∀ W, Calls Try.prog 10 #[.agg #[.int .i64 p, .int .i64 f, .int .i64 c, .bool t]] W fun e w' => e = .returned (.bool true) ∧ Below W.heap.size W w') := Lib.hid fun W => by have h := right_any ⟨p, f, c, t⟩ W; rw [right_yes hr] at h; exact h
      have HO : Hid (∀ W, Calls Try.prog 11 #[.agg #[.int .i64 p, .int .i64 f, .int .i64 c, .bool t]] W fun e w' => e = .returned (.bool (decide (4 ≤ p))) ∧ Below W.heap.size W w') := Lib.hid fun W => by have h := over_any ⟨p, f, c, t⟩ W; rw [show overH ⟨p, f, c, t⟩ = decide (4 ≤ p) from by unfold overH; rw [right_yes hr]; rfl] at h; exact h
      obtain ⟨⟨n0, n1, n2, n3⟩, hnn⟩ : ∃ n, stepN ⟨p, f, c, t⟩ sw pl mi st = n := ⟨_, rfl⟩
      obtain ⟨y, hy⟩ : ∃ y, stepV ⟨p, f, c, t⟩ sw pl mi st = y := ⟨_, rfl⟩
      have HS : Hid (∀ W, Calls Try.prog 9 #[.agg #[.int .i64 p, .int .i64 f, .int .i64 c, .bool t], .bool sw, .bool pl, .bool mi, .bool st] W fun e w' => e = .returned (.tuple #[.agg #[.int .i64 n0, .int .i64 n1, .int .i64 n2, .bool n3], .int .i64 y]) ∧ Below W.heap.size W w') := Lib.hid fun W => by have h := step_any ⟨p, f, c, t⟩ sw pl mi st W; rw [show stepHN ⟨p, f, c, t⟩ sw pl mi st = ⟨n0, n1, n2, n3⟩ from (if_pos hr).trans hnn, show stepHV ⟨p, f, c, t⟩ sw pl mi st = y from (if_pos hr).trans hy] at h; exact h
      have HT : Hid (∀ W, Calls Try.prog 12 #[.agg #[.int .i64 p, .int .i64 f, .int .i64 c, .bool t], .bool sw, .bool pl, .bool mi, .bool st] W fun e w' => e = .returned (.tuple #[.agg #[.int .i64 n0, .int .i64 n1, .int .i64 n2, .bool n3], .int .i64 y]) ∧ Below W.heap.size W w') := Lib.hid fun W => by have h := refstep_any ⟨p, f, c, t⟩ hr sw pl mi st W; rw [hnn, hy] at h; exact h
      clear hnn hy hn hr
      go_enter Try.func3, Try.ntmps3
      go_upto_region 3 with (go_at_call 6; ((with_reducible refine (HK.out _).mono ?_); rintro e v1 ⟨rfl, hb⟩; obtain ⟨hx0, hbb, hz0⟩ := k.boxes1 hb; have X9 := Lib.hid hx0; have HB := Lib.hid hbb; clear hbb hx0; have X9c0 := (k.cell_of X9.out (i := 0) rfl).1; have X9c1 := (k.cell_of X9.out (i := 1) rfl).1; have X9c2 := (k.cell_of X9.out (i := 2) rfl).1; have X9c3 := (k.cell_of X9.out (i := 3) rfl).1; clear hb))
      go_upto_region 4 with (go_at_call 7; ((with_reducible refine (HN.out _).mono ?_); rintro e v2 ⟨rfl, hb⟩; have X9 := Lib.hid (X9.out.below hb hz0); have hz0 := Nat.lt_of_lt_of_le hz0 hb.size; have HB := Lib.hid (HB.out.trans (hb.mono HB.out.size)); clear X9c0 X9c1 X9c2 X9c3; have X9c0 := (k.cell_of X9.out (i := 0) rfl).1; have X9c1 := (k.cell_of X9.out (i := 1) rfl).1; have X9c2 := (k.cell_of X9.out (i := 2) rfl).1; have X9c3 := (k.cell_of X9.out (i := 3) rfl).1; clear hb))
      have hge : w.heap.size ≤ v2.heap.size := HB.out.size
      obtain ⟨hx, hb, hzX15⟩ := k.boxes1 (w := v2) (c1 := #[.int .i64 0, .int .i64 0, .int .i64 0, .bool false]) (t1 := 23) (Below.refl _ _)
      generalize (v2.alloc (.cells #[.int .i64 0, .int .i64 0, .int .i64 0, .bool false] 23)) = v3 at hb hx hzX15 ⊢
      have X9 := Lib.hid (X9.out.below hb hz0)
      have hz0 := Nat.lt_of_lt_of_le hz0 hb.size
      have HB := Lib.hid (HB.out.trans (hb.mono HB.out.size))
      clear X9c0 X9c1 X9c2 X9c3
      obtain ⟨gX15, hgX15⟩ : ∃ g, v2.heap.size = g := ⟨_, rfl⟩
      rw [hgX15] at hx hzX15 hge ⊢
      skip
      have X15 := Lib.hid hx
      have X9c0 := (k.cell_of X9.out (i := 0) rfl).1
      have X9c1 := (k.cell_of X9.out (i := 1) rfl).1
      have X9c2 := (k.cell_of X9.out (i := 2) rfl).1
      have X9c3 := (k.cell_of X9.out (i := 3) rfl).1
      have X15c0 := (k.cell_of X15.out (i := 0) rfl).1
      have X15c1 := (k.cell_of X15.out (i := 1) rfl).1
      have X15c2 := (k.cell_of X15.out (i := 2) rfl).1
      have X15c3 := (k.cell_of X15.out (i := 3) rfl).1
      clear hb hx hgX15
      go_upto_region 5 with (fail)
      have hge : w.heap.size ≤ v3.heap.size := HB.out.size
      obtain ⟨hx, hb, hzX17⟩ := k.boxes1 (w := v3) (c1 := #[.int .i64 0, .int .i64 x0, .int .i64 x1, .bool false]) (t1 := 23) (Below.refl _ _)
      generalize (v3.alloc (.cells #[.int .i64 0, .int .i64 x0, .int .i64 x1, .bool false] 23)) = v4 at hb hx hzX17 ⊢
      have X9 := Lib.hid (X9.out.below hb hz0)
      have X15 := Lib.hid (X15.out.below hb hzX15)
      have hz0 := Nat.lt_of_lt_of_le hz0 hb.size
      have hzX15 := Nat.lt_of_lt_of_le hzX15 hb.size
      have HB := Lib.hid (HB.out.trans (hb.mono HB.out.size))
      clear X9c0 X9c1 X9c2 X9c3 X15c0 X15c1 X15c2 X15c3
      obtain ⟨gX17, hgX17⟩ : ∃ g, v3.heap.size = g := ⟨_, rfl⟩
      rw [hgX17] at hx hzX17 hge ⊢
      skip
      have X17 := Lib.hid hx
      have X9c0 := (k.cell_of X9.out (i := 0) rfl).1
      have X9c1 := (k.cell_of X9.out (i := 1) rfl).1
      have X9c2 := (k.cell_of X9.out (i := 2) rfl).1
      have X9c3 := (k.cell_of X9.out (i := 3) rfl).1
      have X15c0 := (k.cell_of X15.out (i := 0) rfl).1
      have X15c1 := (k.cell_of X15.out (i := 1) rfl).1
      have X15c2 := (k.cell_of X15.out (i := 2) rfl).1
      have X15c3 := (k.cell_of X15.out (i := 3) rfl).1
      have X17c0 := (k.cell_of X17.out (i := 0) rfl).1
      have X17c1 := (k.cell_of X17.out (i := 1) rfl).1
      have X17c2 := (k.cell_of X17.out (i := 2) rfl).1
      have X17c3 := (k.cell_of X17.out (i := 3) rfl).1
      clear hb hx hgX17
      go_upto_region 8 with (go_at_call 8; ((with_reducible refine (HQ.out _).mono ?_); rintro e v5 ⟨rfl, hb⟩; have X9 := Lib.hid (X9.out.below hb hz0); have X15 := Lib.hid (X15.out.below hb hzX15); have X17 := Lib.hid (X17.out.below hb hzX17); have hz0 := Nat.lt_of_lt_of_le hz0 hb.size; have hzX15 := Nat.lt_of_lt_of_le hzX15 hb.size; have hzX17 := Nat.lt_of_lt_of_le hzX17 hb.size; have HB := Lib.hid (HB.out.trans (hb.mono HB.out.size)); clear X9c0 X9c1 X9c2 X9c3 X15c0 X15c1 X15c2 X15c3 X17c0 X17c1 X17c2 X17c3; have X9c0 := (k.cell_of X9.out (i := 0) rfl).1; have X9c1 := (k.cell_of X9.out (i := 1) rfl).1; have X9c2 := (k.cell_of X9.out (i := 2) rfl).1; have X9c3 := (k.cell_of X9.out (i := 3) rfl).1; have X15c0 := (k.cell_of X15.out (i := 0) rfl).1; have X15c1 := (k.cell_of X15.out (i := 1) rfl).1; have X15c2 := (k.cell_of X15.out (i := 2) rfl).1; have X15c3 := (k.cell_of X15.out (i := 3) rfl).1; have X17c0 := (k.cell_of X17.out (i := 0) rfl).1; have X17c1 := (k.cell_of X17.out (i := 1) rfl).1; have X17c2 := (k.cell_of X17.out (i := 2) rfl).1; have X17c3 := (k.cell_of X17.out (i := 3) rfl).1; clear hb))
      clear X9c0 X9c1 X9c2 X9c3 X15c0 X15c1 X15c2 X15c3 X17c0 X17c1 X17c2 X17c3
      clear X15
      clear X17
      have X9c0 := (k.cell_of X9.out (i := 0) rfl).1
      have X9c1 := (k.cell_of X9.out (i := 1) rfl).1
      have X9c2 := (k.cell_of X9.out (i := 2) rfl).1
      have X9c3 := (k.cell_of X9.out (i := 3) rfl).1
      go_upto_region 9 with (go_at_call 9; ((with_reducible refine (HS.out _).mono ?_); rintro e v6 ⟨rfl, hb⟩; have X9 := Lib.hid (X9.out.below hb hz0); have hz0 := Nat.lt_of_lt_of_le hz0 hb.size; have HB := Lib.hid (HB.out.trans (hb.mono HB.out.size)); clear X9c0 X9c1 X9c2 X9c3; have X9c0 := (k.cell_of X9.out (i := 0) rfl).1; have X9c1 := (k.cell_of X9.out (i := 1) rfl).1; have X9c2 := (k.cell_of X9.out (i := 2) rfl).1; have X9c3 := (k.cell_of X9.out (i := 3) rfl).1; clear hb))
      have hge : w.heap.size ≤ v6.heap.size := HB.out.size
      obtain ⟨hx, hb, hzX19⟩ := k.boxes1 (w := v6) (c1 := #[.int .i64 n0, .int .i64 n1, .int .i64 n2, .bool n3]) (t1 := 23) (Below.refl _ _)
      generalize (v6.alloc (.cells #[.int .i64 n0, .int .i64 n1, .int .i64 n2, .bool n3] 23)) = v7 at hb hx hzX19 ⊢
      have X9 := Lib.hid (X9.out.below hb hz0)
      have hz0 := Nat.lt_of_lt_of_le hz0 hb.size
      have HB := Lib.hid (HB.out.trans (hb.mono HB.out.size))
      clear X9c0 X9c1 X9c2 X9c3
      obtain ⟨gX19, hgX19⟩ : ∃ g, v6.heap.size = g := ⟨_, rfl⟩
      rw [hgX19] at hx hzX19 hge ⊢
      skip
      have X19 := Lib.hid hx
      have X9c0 := (k.cell_of X9.out (i := 0) rfl).1
      have X9c1 := (k.cell_of X9.out (i := 1) rfl).1
      have X9c2 := (k.cell_of X9.out (i := 2) rfl).1
      have X9c3 := (k.cell_of X9.out (i := 3) rfl).1
      have X19c0 := (k.cell_of X19.out (i := 0) rfl).1
      have X19c1 := (k.cell_of X19.out (i := 1) rfl).1
      have X19c2 := (k.cell_of X19.out (i := 2) rfl).1
      have X19c3 := (k.cell_of X19.out (i := 3) rfl).1
      clear hb hx hgX19
      go_upto_region 11 with (go_at_call 8; ((with_reducible refine (HR.out _).mono ?_); rintro e v8 ⟨rfl, hb⟩; have X9 := Lib.hid (X9.out.below hb hz0); have X19 := Lib.hid (X19.out.below hb hzX19); have hz0 := Nat.lt_of_lt_of_le hz0 hb.size; have hzX19 := Nat.lt_of_lt_of_le hzX19 hb.size; have HB := Lib.hid (HB.out.trans (hb.mono HB.out.size)); clear X9c0 X9c1 X9c2 X9c3 X19c0 X19c1 X19c2 X19c3; have X9c0 := (k.cell_of X9.out (i := 0) rfl).1; have X9c1 := (k.cell_of X9.out (i := 1) rfl).1; have X9c2 := (k.cell_of X9.out (i := 2) rfl).1; have X9c3 := (k.cell_of X9.out (i := 3) rfl).1; have X19c0 := (k.cell_of X19.out (i := 0) rfl).1; have X19c1 := (k.cell_of X19.out (i := 1) rfl).1; have X19c2 := (k.cell_of X19.out (i := 2) rfl).1; have X19c3 := (k.cell_of X19.out (i := 3) rfl).1; clear hb))
      go_upto_region 12 with (go_at_call 12; ((with_reducible refine (HT.out _).mono ?_); rintro e v9 ⟨rfl, hb⟩; have X9 := Lib.hid (X9.out.below hb hz0); have X19 := Lib.hid (X19.out.below hb hzX19); have hz0 := Nat.lt_of_lt_of_le hz0 hb.size; have hzX19 := Nat.lt_of_lt_of_le hzX19 hb.size; have HB := Lib.hid (HB.out.trans (hb.mono HB.out.size)); clear X9c0 X9c1 X9c2 X9c3 X19c0 X19c1 X19c2 X19c3; have X9c0 := (k.cell_of X9.out (i := 0) rfl).1; have X9c1 := (k.cell_of X9.out (i := 1) rfl).1; have X9c2 := (k.cell_of X9.out (i := 2) rfl).1; have X9c3 := (k.cell_of X9.out (i := 3) rfl).1; have X19c0 := (k.cell_of X19.out (i := 0) rfl).1; have X19c1 := (k.cell_of X19.out (i := 1) rfl).1; have X19c2 := (k.cell_of X19.out (i := 2) rfl).1; have X19c3 := (k.cell_of X19.out (i := 3) rfl).1; clear hb))
      have hge : w.heap.size ≤ v9.heap.size := HB.out.size
      obtain ⟨hx, hb, hzX21⟩ := k.boxes1 (w := v9) (c1 := #[.int .i64 n0, .int .i64 n1, .int .i64 n2, .bool n3]) (t1 := 23) (Below.refl _ _)
      generalize (v9.alloc (.cells #[.int .i64 n0, .int .i64 n1, .int .i64 n2, .bool n3] 23)) = v10 at hb hx hzX21 ⊢
      have X9 := Lib.hid (X9.out.below hb hz0)
      have X19 := Lib.hid (X19.out.below hb hzX19)
      have hz0 := Nat.lt_of_lt_of_le hz0 hb.size
      have hzX19 := Nat.lt_of_lt_of_le hzX19 hb.size
      have HB := Lib.hid (HB.out.trans (hb.mono HB.out.size))
      clear X9c0 X9c1 X9c2 X9c3 X19c0 X19c1 X19c2 X19c3
      obtain ⟨gX21, hgX21⟩ : ∃ g, v9.heap.size = g := ⟨_, rfl⟩
      rw [hgX21] at hx hzX21 hge ⊢
      skip
      have X21 := Lib.hid hx
      have X9c0 := (k.cell_of X9.out (i := 0) rfl).1
      have X9c1 := (k.cell_of X9.out (i := 1) rfl).1
      have X9c2 := (k.cell_of X9.out (i := 2) rfl).1
      have X9c3 := (k.cell_of X9.out (i := 3) rfl).1
      have X19c0 := (k.cell_of X19.out (i := 0) rfl).1
      have X19c1 := (k.cell_of X19.out (i := 1) rfl).1
      have X19c2 := (k.cell_of X19.out (i := 2) rfl).1
      have X19c3 := (k.cell_of X19.out (i := 3) rfl).1
      have X21c0 := (k.cell_of X21.out (i := 0) rfl).1
      have X21c1 := (k.cell_of X21.out (i := 1) rfl).1
      have X21c2 := (k.cell_of X21.out (i := 2) rfl).1
      have X21c3 := (k.cell_of X21.out (i := 3) rfl).1
      clear hb hx hgX21
      refine wp_region_T (by kernel_rfl) (fun w' => Below v10.heap.size v10 w') [] (Below.refl _ _).drew (fun hHeld => ?_)
      refine wpAnyT_take (i := 0) (v := ?_) rfl (by kernel_rfl) (by kernel_rfl) (by kernel_rfl) (fun _ _ _ h => h) (Or.inl ⟨by rfl, ?_⟩) (by assumption) ?_
      rotate_left 1
      · intro w_ hSw; have zX90 := (hSw.cell (p := ⟨w.heap.size, 0, none⟩) hz0).trans X9c0; have zX91 := (hSw.cell (p := ⟨w.heap.size, 1, none⟩) hz0).trans X9c1; have zX92 := (hSw.cell (p := ⟨w.heap.size, 2, none⟩) hz0).trans X9c2; have zX93 := (hSw.cell (p := ⟨w.heap.size, 3, none⟩) hz0).trans X9c3; clear hSw; go_simp <;> (with_reducible rfl)
      try simp only [Act.put, List.setIfInBounds_toArray, List.set_cons_zero, List.set_cons_succ, List.getElem_toArray, List.getElem_cons_zero]
      refine wpAnyT_ready (rs := [1]) (by kernel_rfl) (by simp) ?_
      refine AllReadyT.cons rfl (fun K hK => ?_) AllReadyT.nil
      go_simp
      (go_at_call 10; ((with_reducible refine (HP.out _).mono ?_); rintro e u1 ⟨rfl, hb0⟩))
      have hb1 : Below v10.heap.size v10 u1 := ((Below.refl _ _).drew).trans hb0
      clear hb0
      go_wp2_with fail
      refine hK.out _ _ hb1 (fun hHeld => ?_)
      clear hK K
      try simp only [Act.put, List.setIfInBounds_toArray, List.set_cons_zero, List.set_cons_succ, List.getElem_toArray, List.getElem_cons_succ, List.getElem_cons_zero]
      refine wpAnyT_take (i := 2) (v := ?_) rfl (by kernel_rfl) (by kernel_rfl) (by kernel_rfl) (fun _ _ _ h => h) (Or.inl ⟨by rfl, ?_⟩) (by assumption) ?_
      rotate_left 1
      · intro w_ hSw; clear hSw; go_simp <;> (with_reducible rfl)
      try simp only [Act.put, List.setIfInBounds_toArray, List.set_cons_zero, List.set_cons_succ, List.getElem_toArray, List.getElem_cons_succ, List.getElem_cons_zero]
      refine wpAnyT_take (i := 3) (v := ?_) rfl (by kernel_rfl) (by kernel_rfl) (by kernel_rfl) (fun _ _ _ h => h) (Or.inl ⟨by rfl, ?_⟩) (by assumption) ?_
      rotate_left 1
      · intro w_ hSw; have zX190 := (hSw.cell (p := ⟨gX19, 0, none⟩) hzX19).trans X19c0; have zX191 := (hSw.cell (p := ⟨gX19, 1, none⟩) hzX19).trans X19c1; have zX192 := (hSw.cell (p := ⟨gX19, 2, none⟩) hzX19).trans X19c2; have zX193 := (hSw.cell (p := ⟨gX19, 3, none⟩) hzX19).trans X19c3; clear hSw; go_simp <;> (with_reducible rfl)
      try simp only [Act.put, List.setIfInBounds_toArray, List.set_cons_zero, List.set_cons_succ, List.getElem_toArray, List.getElem_cons_succ, List.getElem_cons_zero]
      refine wpAnyT_take (i := 4) (v := ?_) rfl (by kernel_rfl) (by kernel_rfl) (by kernel_rfl) (fun _ _ _ h => h) (Or.inl ⟨by rfl, ?_⟩) (by assumption) ?_
      rotate_left 1
      · intro w_ hSw; have zX210 := (hSw.cell (p := ⟨gX21, 0, none⟩) hzX21).trans X21c0; have zX211 := (hSw.cell (p := ⟨gX21, 1, none⟩) hzX21).trans X21c1; have zX212 := (hSw.cell (p := ⟨gX21, 2, none⟩) hzX21).trans X21c2; have zX213 := (hSw.cell (p := ⟨gX21, 3, none⟩) hzX21).trans X21c3; clear hSw; go_simp <;> (with_reducible rfl)
      try simp only [Act.put, List.setIfInBounds_toArray, List.set_cons_zero, List.set_cons_succ, List.getElem_toArray, List.getElem_cons_succ, List.getElem_cons_zero]
      refine wpAnyT_take (i := 5) (v := ?_) rfl (by kernel_rfl) (by kernel_rfl) (by kernel_rfl) (fun _ _ _ h => h) (Or.inl ⟨by rfl, ?_⟩) (by assumption) ?_
      rotate_left 1
      · intro w_ hSw; clear hSw; go_simp <;> (with_reducible rfl)
      try simp only [Act.put, List.setIfInBounds_toArray, List.set_cons_zero, List.set_cons_succ, List.getElem_toArray, List.getElem_cons_succ, List.getElem_cons_zero]
      refine wpAnyT_take (i := 6) (v := ?_) rfl (by kernel_rfl) (by kernel_rfl) (by kernel_rfl) (fun _ _ _ h => h) (Or.inl ⟨by rfl, ?_⟩) (by assumption) ?_
      rotate_left 1
      · intro w_ hSw; clear hSw; go_simp <;> (with_reducible rfl)
      try simp only [Act.put, List.setIfInBounds_toArray, List.set_cons_zero, List.set_cons_succ, List.getElem_toArray, List.getElem_cons_succ, List.getElem_cons_zero]
      refine wpAnyT_take (i := 7) (v := ?_) rfl (by kernel_rfl) (by kernel_rfl) (by kernel_rfl) (fun _ _ _ h => h) (Or.inl ⟨by rfl, ?_⟩) (by assumption) ?_
      rotate_left 1
      · intro w_ hSw; clear hSw; go_simp <;> (with_reducible rfl)
      try simp only [Act.put, List.setIfInBounds_toArray, List.set_cons_zero, List.set_cons_succ, List.getElem_toArray, List.getElem_cons_succ, List.getElem_cons_zero]
      refine wpAnyT_take (i := 8) (v := ?_) rfl (by kernel_rfl) (by kernel_rfl) (by kernel_rfl) (fun _ _ _ h => h) (Or.inl ⟨by rfl, ?_⟩) (by assumption) ?_
      rotate_left 1
      · intro w_ hSw; clear hSw; go_simp <;> (with_reducible rfl)
      try simp only [Act.put, List.setIfInBounds_toArray, List.set_cons_zero, List.set_cons_succ, List.getElem_toArray, List.getElem_cons_succ, List.getElem_cons_zero]
      refine wpAnyT_take (i := 9) (v := ?_) rfl (by kernel_rfl) (by kernel_rfl) (by kernel_rfl) (fun _ _ _ h => h) (Or.inl ⟨by rfl, ?_⟩) (by assumption) ?_
      rotate_left 1
      · intro w_ hSw; clear hSw; go_simp <;> (with_reducible rfl)
      try simp only [Act.put, List.setIfInBounds_toArray, List.set_cons_zero, List.set_cons_succ, List.getElem_toArray, List.getElem_cons_succ, List.getElem_cons_zero]
      refine wpAnyT_take (i := 10) (v := ?_) rfl (by kernel_rfl) (by kernel_rfl) (by kernel_rfl) (fun _ _ _ h => h) (Or.inl ⟨by rfl, ?_⟩) (by assumption) ?_
      rotate_left 1
      · intro w_ hSw; clear hSw; go_simp <;> (with_reducible rfl)
      try simp only [Act.put, List.setIfInBounds_toArray, List.set_cons_zero, List.set_cons_succ, List.getElem_toArray, List.getElem_cons_succ, List.getElem_cons_zero]
      refine wpAnyT_take (i := 11) (v := ?_) rfl (by kernel_rfl) (by kernel_rfl) (by kernel_rfl) (fun _ _ _ h => h) (Or.inl ⟨by rfl, ?_⟩) (by assumption) ?_
      rotate_left 1
      · intro w_ hSw; clear hSw; go_simp <;> (with_reducible rfl)
      try simp only [Act.put, List.setIfInBounds_toArray, List.set_cons_zero, List.set_cons_succ, List.getElem_toArray, List.getElem_cons_succ, List.getElem_cons_zero]
      refine wpAnyT_take (i := 12) (v := ?_) rfl (by kernel_rfl) (by kernel_rfl) (by kernel_rfl) (fun _ _ _ h => h) (Or.inl ⟨by rfl, ?_⟩) (by assumption) ?_
      rotate_left 1
      · intro w_ hSw; clear hSw; go_simp <;> (with_reducible rfl)
      try simp only [Act.put, List.setIfInBounds_toArray, List.set_cons_zero, List.set_cons_succ, List.getElem_toArray, List.getElem_cons_succ, List.getElem_cons_zero]
      refine wpAnyT_take (i := 13) (v := ?_) rfl (by kernel_rfl) (by kernel_rfl) (by kernel_rfl) (fun _ _ _ h => h) (Or.inl ⟨by rfl, ?_⟩) (by assumption) ?_
      rotate_left 1
      · intro w_ hSw; have zX90 := (hSw.cell (p := ⟨w.heap.size, 0, none⟩) hz0).trans X9c0; have zX91 := (hSw.cell (p := ⟨w.heap.size, 1, none⟩) hz0).trans X9c1; have zX92 := (hSw.cell (p := ⟨w.heap.size, 2, none⟩) hz0).trans X9c2; have zX93 := (hSw.cell (p := ⟨w.heap.size, 3, none⟩) hz0).trans X9c3; clear hSw; go_simp <;> (with_reducible rfl)
      try simp only [Act.put, List.setIfInBounds_toArray, List.set_cons_zero, List.set_cons_succ, List.getElem_toArray, List.getElem_cons_succ, List.getElem_cons_zero]
      refine wpAnyT_take (i := 15) (v := ?_) rfl (by kernel_rfl) (by kernel_rfl) (by kernel_rfl) (fun _ _ _ h => h) (Or.inl ⟨by rfl, ?_⟩) (by assumption) ?_
      rotate_left 1
      · intro w_ hSw; clear hSw; go_simp <;> (with_reducible rfl)
      try simp only [Act.put, List.setIfInBounds_toArray, List.set_cons_zero, List.set_cons_succ, List.getElem_toArray, List.getElem_cons_succ, List.getElem_cons_zero]
      refine wpAnyT_take (i := 16) (v := ?_) rfl (by kernel_rfl) (by kernel_rfl) (by kernel_rfl) (fun _ _ _ h => h) (Or.inl ⟨by rfl, ?_⟩) (by assumption) ?_
      rotate_left 1
      · intro w_ hSw; have zX90 := (hSw.cell (p := ⟨w.heap.size, 0, none⟩) hz0).trans X9c0; have zX91 := (hSw.cell (p := ⟨w.heap.size, 1, none⟩) hz0).trans X9c1; have zX92 := (hSw.cell (p := ⟨w.heap.size, 2, none⟩) hz0).trans X9c2; have zX93 := (hSw.cell (p := ⟨w.heap.size, 3, none⟩) hz0).trans X9c3; clear hSw; go_simp <;> (with_reducible rfl)
      try simp only [Act.put, List.setIfInBounds_toArray, List.set_cons_zero, List.set_cons_succ, List.getElem_toArray, List.getElem_cons_succ, List.getElem_cons_zero]
      refine wpAnyT_take (i := 17) (v := ?_) rfl (by kernel_rfl) (by kernel_rfl) (by kernel_rfl) (fun _ _ _ h => h) (Or.inl ⟨by rfl, ?_⟩) (by assumption) ?_
      rotate_left 1
      · intro w_ hSw; clear hSw; go_simp <;> (with_reducible rfl)
      try simp only [Act.put, List.setIfInBounds_toArray, List.set_cons_zero, List.set_cons_succ, List.getElem_toArray, List.getElem_cons_succ, List.getElem_cons_zero]
      refine wpAnyT_ready (rs := [14]) (by kernel_rfl) (by simp) ?_
      refine AllReadyT.cons rfl (fun K hK => ?_) AllReadyT.nil
      go_simp
      (go_at_call 11; ((with_reducible refine (HO.out _).mono ?_); rintro e u2 ⟨rfl, hb0⟩))
      have hb2 : Below v10.heap.size v10 u2 := hb1.trans (hb0.mono hb1.size)
      clear hb0
      go_wp2_with fail
      refine hK.out _ _ hb2 (fun hHeld => ?_)
      clear hK K
      try simp only [Act.put, List.setIfInBounds_toArray, List.set_cons_zero, List.set_cons_succ, List.getElem_toArray, List.getElem_cons_succ, List.getElem_cons_zero]
      refine wpAnyT_take (i := 18) (v := ?_) rfl (by kernel_rfl) (by kernel_rfl) (by kernel_rfl) (fun _ _ _ h => h) (Or.inl ⟨by rfl, ?_⟩) (by assumption) ?_
      rotate_left 1
      · intro w_ hSw; clear hSw; go_simp <;> (with_reducible rfl)
      try simp only [Act.put, List.setIfInBounds_toArray, List.set_cons_zero, List.set_cons_succ, List.getElem_toArray, List.getElem_cons_succ, List.getElem_cons_zero]
      refine wpAnyT_take (i := 19) (v := ?_) rfl (by kernel_rfl) (by kernel_rfl) (by kernel_rfl) (fun _ _ _ h => h) (Or.inl ⟨by rfl, ?_⟩) (by assumption) ?_
      rotate_left 1
      · intro w_ hSw; clear hSw; go_simp <;> (with_reducible rfl)
      try simp only [Act.put, List.setIfInBounds_toArray, List.set_cons_zero, List.set_cons_succ, List.getElem_toArray, List.getElem_cons_succ, List.getElem_cons_zero]
      refine wpAnyT_take (i := 20) (v := ?_) rfl (by kernel_rfl) (by kernel_rfl) (by kernel_rfl) (fun _ _ _ h => h) (Or.inl ⟨by rfl, ?_⟩) (by assumption) ?_
      rotate_left 1
      · intro w_ hSw; clear hSw; go_simp <;> (with_reducible rfl)
      try simp only [Act.put, List.setIfInBounds_toArray, List.set_cons_zero, List.set_cons_succ, List.getElem_toArray, List.getElem_cons_succ, List.getElem_cons_zero]
      refine wpAnyT_done (by kernel_rfl) ?_ _
      go_wp2_with fail
      go_ret
      exact ⟨rfl, HB.out.trans (hb2.mono HB.out.size)⟩
    · skip
      have HN : Hid (∀ W, Calls Try.prog 7 #[.int .i64 x0, .int .i64 x1] W fun e w' => e = .returned (.tuple #[.agg #[.int .i64 0, .int .i64 0, .int .i64 0, .bool false], .int .i64 1]) ∧ Below W.heap.size W w') := Lib.hid fun W => by have h := new_any x0 x1 W; rw [show newH x0 x1 = zeroH from if_neg hn, show newE x0 x1 = 1 from if_neg hn] at h; exact h
      have HQ : Hid (∀ W, Calls Try.prog 8 #[.agg #[.int .i64 0, .int .i64 x0, .int .i64 x1, .bool false]] W fun e w' => e = .returned (.bool false) ∧ Below W.heap.size W w') := Lib.hid fun W => by have h := refright_any ⟨0, x0, x1, false⟩ W; rw [right_no hn] at h; exact h
      have HR : Hid (∀ W, Calls Try.prog 8 #[.agg #[.int .i64 p, .int .i64 f, .int .i64 c, .bool t]] W fun e w' => e = .returned (.bool false) ∧ Below W.heap.size W w') := Lib.hid fun W => by have h := refright_any ⟨p, f, c, t⟩ W; rw [right_no hr] at h; exact h
      have HP : Hid (∀ W, Calls Try.prog 10 #[.agg #[.int .i64 p, .int .i64 f, .int .i64 c, .bool t]] W fun e w' => e = .returned (.bool false) ∧ Below W.heap.size W w') := Lib.hid fun W => by have h := right_any ⟨p, f, c, t⟩ W; rw [right_no hr] at h; exact h
      have HO : Hid (∀ W, Calls Try.prog 11 #[.agg #[.int .i64 p, .int .i64 f, .int .i64 c, .bool t]] W fun e w' => e = .returned (.bool true) ∧ Below W.heap.size W w') := Lib.hid fun W => by have h := over_any ⟨p, f, c, t⟩ W; rw [show overH ⟨p, f, c, t⟩ = true from by unfold overH; rw [right_no hr]; rfl] at h; exact h
      have HS : Hid (∀ W, Calls Try.prog 9 #[.agg #[.int .i64 p, .int .i64 f, .int .i64 c, .bool t], .bool sw, .bool pl, .bool mi, .bool st] W fun e w' => e = .returned (.tuple #[.agg #[.int .i64 p, .int .i64 f, .int .i64 c, .bool t], .int .i64 0]) ∧ Below W.heap.size W w') := Lib.hid fun W => by have h := step_any ⟨p, f, c, t⟩ sw pl mi st W; rw [show stepHN ⟨p, f, c, t⟩ sw pl mi st = ⟨p, f, c, t⟩ from if_neg hr, show stepHV ⟨p, f, c, t⟩ sw pl mi st = 0 from if_neg hr] at h; exact h
      clear hn hr
      go_enter Try.func3, Try.ntmps3
      go_upto_region 3 with (go_at_call 6; ((with_reducible refine (HK.out _).mono ?_); rintro e v1 ⟨rfl, hb⟩; obtain ⟨hx0, hbb, hz0⟩ := k.boxes1 hb; have X9 := Lib.hid hx0; have HB := Lib.hid hbb; clear hbb hx0; have X9c0 := (k.cell_of X9.out (i := 0) rfl).1; have X9c1 := (k.cell_of X9.out (i := 1) rfl).1; have X9c2 := (k.cell_of X9.out (i := 2) rfl).1; have X9c3 := (k.cell_of X9.out (i := 3) rfl).1; clear hb))
      go_upto_region 4 with (go_at_call 7; ((with_reducible refine (HN.out _).mono ?_); rintro e v2 ⟨rfl, hb⟩; have X9 := Lib.hid (X9.out.below hb hz0); have hz0 := Nat.lt_of_lt_of_le hz0 hb.size; have HB := Lib.hid (HB.out.trans (hb.mono HB.out.size)); clear X9c0 X9c1 X9c2 X9c3; have X9c0 := (k.cell_of X9.out (i := 0) rfl).1; have X9c1 := (k.cell_of X9.out (i := 1) rfl).1; have X9c2 := (k.cell_of X9.out (i := 2) rfl).1; have X9c3 := (k.cell_of X9.out (i := 3) rfl).1; clear hb))
      have hge : w.heap.size ≤ v2.heap.size := HB.out.size
      obtain ⟨hx, hb, hzX15⟩ := k.boxes1 (w := v2) (c1 := #[.int .i64 0, .int .i64 0, .int .i64 0, .bool false]) (t1 := 23) (Below.refl _ _)
      generalize (v2.alloc (.cells #[.int .i64 0, .int .i64 0, .int .i64 0, .bool false] 23)) = v3 at hb hx hzX15 ⊢
      have X9 := Lib.hid (X9.out.below hb hz0)
      have hz0 := Nat.lt_of_lt_of_le hz0 hb.size
      have HB := Lib.hid (HB.out.trans (hb.mono HB.out.size))
      clear X9c0 X9c1 X9c2 X9c3
      obtain ⟨gX15, hgX15⟩ : ∃ g, v2.heap.size = g := ⟨_, rfl⟩
      rw [hgX15] at hx hzX15 hge ⊢
      skip
      have X15 := Lib.hid hx
      have X9c0 := (k.cell_of X9.out (i := 0) rfl).1
      have X9c1 := (k.cell_of X9.out (i := 1) rfl).1
      have X9c2 := (k.cell_of X9.out (i := 2) rfl).1
      have X9c3 := (k.cell_of X9.out (i := 3) rfl).1
      have X15c0 := (k.cell_of X15.out (i := 0) rfl).1
      have X15c1 := (k.cell_of X15.out (i := 1) rfl).1
      have X15c2 := (k.cell_of X15.out (i := 2) rfl).1
      have X15c3 := (k.cell_of X15.out (i := 3) rfl).1
      clear hb hx hgX15
      go_upto_region 5 with (fail)
      have hge : w.heap.size ≤ v3.heap.size := HB.out.size
      obtain ⟨hx, hb, hzX17⟩ := k.boxes1 (w := v3) (c1 := #[.int .i64 0, .int .i64 x0, .int .i64 x1, .bool false]) (t1 := 23) (Below.refl _ _)
      generalize (v3.alloc (.cells #[.int .i64 0, .int .i64 x0, .int .i64 x1, .bool false] 23)) = v4 at hb hx hzX17 ⊢
      have X9 := Lib.hid (X9.out.below hb hz0)
      have X15 := Lib.hid (X15.out.below hb hzX15)
      have hz0 := Nat.lt_of_lt_of_le hz0 hb.size
      have hzX15 := Nat.lt_of_lt_of_le hzX15 hb.size
      have HB := Lib.hid (HB.out.trans (hb.mono HB.out.size))
      clear X9c0 X9c1 X9c2 X9c3 X15c0 X15c1 X15c2 X15c3
      obtain ⟨gX17, hgX17⟩ : ∃ g, v3.heap.size = g := ⟨_, rfl⟩
      rw [hgX17] at hx hzX17 hge ⊢
      skip
      have X17 := Lib.hid hx
      have X9c0 := (k.cell_of X9.out (i := 0) rfl).1
      have X9c1 := (k.cell_of X9.out (i := 1) rfl).1
      have X9c2 := (k.cell_of X9.out (i := 2) rfl).1
      have X9c3 := (k.cell_of X9.out (i := 3) rfl).1
      have X15c0 := (k.cell_of X15.out (i := 0) rfl).1
      have X15c1 := (k.cell_of X15.out (i := 1) rfl).1
      have X15c2 := (k.cell_of X15.out (i := 2) rfl).1
      have X15c3 := (k.cell_of X15.out (i := 3) rfl).1
      have X17c0 := (k.cell_of X17.out (i := 0) rfl).1
      have X17c1 := (k.cell_of X17.out (i := 1) rfl).1
      have X17c2 := (k.cell_of X17.out (i := 2) rfl).1
      have X17c3 := (k.cell_of X17.out (i := 3) rfl).1
      clear hb hx hgX17
      go_upto_region 8 with (go_at_call 8; ((with_reducible refine (HQ.out _).mono ?_); rintro e v5 ⟨rfl, hb⟩; have X9 := Lib.hid (X9.out.below hb hz0); have X15 := Lib.hid (X15.out.below hb hzX15); have X17 := Lib.hid (X17.out.below hb hzX17); have hz0 := Nat.lt_of_lt_of_le hz0 hb.size; have hzX15 := Nat.lt_of_lt_of_le hzX15 hb.size; have hzX17 := Nat.lt_of_lt_of_le hzX17 hb.size; have HB := Lib.hid (HB.out.trans (hb.mono HB.out.size)); clear X9c0 X9c1 X9c2 X9c3 X15c0 X15c1 X15c2 X15c3 X17c0 X17c1 X17c2 X17c3; have X9c0 := (k.cell_of X9.out (i := 0) rfl).1; have X9c1 := (k.cell_of X9.out (i := 1) rfl).1; have X9c2 := (k.cell_of X9.out (i := 2) rfl).1; have X9c3 := (k.cell_of X9.out (i := 3) rfl).1; have X15c0 := (k.cell_of X15.out (i := 0) rfl).1; have X15c1 := (k.cell_of X15.out (i := 1) rfl).1; have X15c2 := (k.cell_of X15.out (i := 2) rfl).1; have X15c3 := (k.cell_of X15.out (i := 3) rfl).1; have X17c0 := (k.cell_of X17.out (i := 0) rfl).1; have X17c1 := (k.cell_of X17.out (i := 1) rfl).1; have X17c2 := (k.cell_of X17.out (i := 2) rfl).1; have X17c3 := (k.cell_of X17.out (i := 3) rfl).1; clear hb))
      clear X9c0 X9c1 X9c2 X9c3 X15c0 X15c1 X15c2 X15c3 X17c0 X17c1 X17c2 X17c3
      clear X15
      clear X17
      have X9c0 := (k.cell_of X9.out (i := 0) rfl).1
      have X9c1 := (k.cell_of X9.out (i := 1) rfl).1
      have X9c2 := (k.cell_of X9.out (i := 2) rfl).1
      have X9c3 := (k.cell_of X9.out (i := 3) rfl).1
      go_upto_region 9 with (go_at_call 9; ((with_reducible refine (HS.out _).mono ?_); rintro e v6 ⟨rfl, hb⟩; have X9 := Lib.hid (X9.out.below hb hz0); have hz0 := Nat.lt_of_lt_of_le hz0 hb.size; have HB := Lib.hid (HB.out.trans (hb.mono HB.out.size)); clear X9c0 X9c1 X9c2 X9c3; have X9c0 := (k.cell_of X9.out (i := 0) rfl).1; have X9c1 := (k.cell_of X9.out (i := 1) rfl).1; have X9c2 := (k.cell_of X9.out (i := 2) rfl).1; have X9c3 := (k.cell_of X9.out (i := 3) rfl).1; clear hb))
      have hge : w.heap.size ≤ v6.heap.size := HB.out.size
      obtain ⟨hx, hb, hzX19⟩ := k.boxes1 (w := v6) (c1 := #[.int .i64 p, .int .i64 f, .int .i64 c, .bool t]) (t1 := 23) (Below.refl _ _)
      generalize (v6.alloc (.cells #[.int .i64 p, .int .i64 f, .int .i64 c, .bool t] 23)) = v7 at hb hx hzX19 ⊢
      have X9 := Lib.hid (X9.out.below hb hz0)
      have hz0 := Nat.lt_of_lt_of_le hz0 hb.size
      have HB := Lib.hid (HB.out.trans (hb.mono HB.out.size))
      clear X9c0 X9c1 X9c2 X9c3
      obtain ⟨gX19, hgX19⟩ : ∃ g, v6.heap.size = g := ⟨_, rfl⟩
      rw [hgX19] at hx hzX19 hge ⊢
      skip
      have X19 := Lib.hid hx
      have X9c0 := (k.cell_of X9.out (i := 0) rfl).1
      have X9c1 := (k.cell_of X9.out (i := 1) rfl).1
      have X9c2 := (k.cell_of X9.out (i := 2) rfl).1
      have X9c3 := (k.cell_of X9.out (i := 3) rfl).1
      have X19c0 := (k.cell_of X19.out (i := 0) rfl).1
      have X19c1 := (k.cell_of X19.out (i := 1) rfl).1
      have X19c2 := (k.cell_of X19.out (i := 2) rfl).1
      have X19c3 := (k.cell_of X19.out (i := 3) rfl).1
      clear hb hx hgX19
      go_upto_region 10 with (go_at_call 8; ((with_reducible refine (HR.out _).mono ?_); rintro e v8 ⟨rfl, hb⟩; have X9 := Lib.hid (X9.out.below hb hz0); have X19 := Lib.hid (X19.out.below hb hzX19); have hz0 := Nat.lt_of_lt_of_le hz0 hb.size; have hzX19 := Nat.lt_of_lt_of_le hzX19 hb.size; have HB := Lib.hid (HB.out.trans (hb.mono HB.out.size)); clear X9c0 X9c1 X9c2 X9c3 X19c0 X19c1 X19c2 X19c3; have X9c0 := (k.cell_of X9.out (i := 0) rfl).1; have X9c1 := (k.cell_of X9.out (i := 1) rfl).1; have X9c2 := (k.cell_of X9.out (i := 2) rfl).1; have X9c3 := (k.cell_of X9.out (i := 3) rfl).1; have X19c0 := (k.cell_of X19.out (i := 0) rfl).1; have X19c1 := (k.cell_of X19.out (i := 1) rfl).1; have X19c2 := (k.cell_of X19.out (i := 2) rfl).1; have X19c3 := (k.cell_of X19.out (i := 3) rfl).1; clear hb))
      go_wp2_with (first | (go_at_call 10; ((with_reducible refine (HP.out _).mono ?_); rintro e v9 ⟨rfl, hb⟩; have X9 := Lib.hid (X9.out.below hb hz0); have X19 := Lib.hid (X19.out.below hb hzX19); have hz0 := Nat.lt_of_lt_of_le hz0 hb.size; have hzX19 := Nat.lt_of_lt_of_le hzX19 hb.size; have HB := Lib.hid (HB.out.trans (hb.mono HB.out.size)); clear X9c0 X9c1 X9c2 X9c3 X19c0 X19c1 X19c2 X19c3; have X9c0 := (k.cell_of X9.out (i := 0) rfl).1; have X9c1 := (k.cell_of X9.out (i := 1) rfl).1; have X9c2 := (k.cell_of X9.out (i := 2) rfl).1; have X9c3 := (k.cell_of X9.out (i := 3) rfl).1; have X19c0 := (k.cell_of X19.out (i := 0) rfl).1; have X19c1 := (k.cell_of X19.out (i := 1) rfl).1; have X19c2 := (k.cell_of X19.out (i := 2) rfl).1; have X19c3 := (k.cell_of X19.out (i := 3) rfl).1; clear hb)) | (go_at_call 11; ((with_reducible refine (HO.out _).mono ?_); rintro e v10 ⟨rfl, hb⟩; have X9 := Lib.hid (X9.out.below hb hz0); have X19 := Lib.hid (X19.out.below hb hzX19); have hz0 := Nat.lt_of_lt_of_le hz0 hb.size; have hzX19 := Nat.lt_of_lt_of_le hzX19 hb.size; have HB := Lib.hid (HB.out.trans (hb.mono HB.out.size)); clear X9c0 X9c1 X9c2 X9c3 X19c0 X19c1 X19c2 X19c3; have X9c0 := (k.cell_of X9.out (i := 0) rfl).1; have X9c1 := (k.cell_of X9.out (i := 1) rfl).1; have X9c2 := (k.cell_of X9.out (i := 2) rfl).1; have X9c3 := (k.cell_of X9.out (i := 3) rfl).1; have X19c0 := (k.cell_of X19.out (i := 0) rfl).1; have X19c1 := (k.cell_of X19.out (i := 1) rfl).1; have X19c2 := (k.cell_of X19.out (i := 2) rfl).1; have X19c3 := (k.cell_of X19.out (i := 3) rfl).1; clear hb)))
      go_ret
      exact ⟨rfl, HB.out⟩
end Go.Proofs.Ytojiefppaiafaaa.homeSteps
