/- What line's Add answers; what was in memory is as it was. No condition but that the rows are read where they lie. -/
import Derived.Test.YtnghifbkiipigaaLnLineF
namespace Go.Proofs.Ytnghifbkiipigaa.ln
open Go.ChangeShapes Go.WideShapes Go.ChangeAt Go.RowKit Go.Proofs.Ytnghifbkiipigaa.k Go.Proofs.Ytnghifbkiipigaa.rr
set_option linter.unusedVariables false

theorem add_no {N W : List C} {c : C} (h : ¬ AddOk N W c) : addN N W c = [] ∧ addW N W c = [] ∧ addI N W c = [] ∧ addE N W c = 1 := by
  unfold addN addW addI addE
  simp only [if_neg h]
  exact ⟨trivial, trivial, trivial, trivial⟩
theorem add_now {N W : List C} {c : C} (h : AddOk N W c) (h0 : c.mode = 0) : addN N W c = [c] ∧ addW N W c = [] ∧ addI N W c = ids (allL N W) ∧ addE N W c = 0 := by
  unfold addN addW addI addE
  rw [all_yes h.1]
  simp only [if_pos h, if_pos h0]
  exact ⟨trivial, trivial, trivial, trivial⟩
theorem full_iff {N W : List C} (h : RightL N W) : 4 < (N ++ W).length ↔ W.length = 4 := by
  have h1 := h.2.1
  have h2 := h.2.2.1
  have h3 := h.2.2.2
  rw [List.length_append]
  omega
theorem add_full {N W : List C} {c : C} (h : AddOk N W c) (h0 : c.mode ≠ 0) (h4 : W.length = 4) : addN N W c = [] ∧ addW N W c = [] ∧ addI N W c = [] ∧ addE N W c = 8 := by
  unfold addN addW addI addE
  have h5 := (full_iff h.1).2 h4
  simp only [if_pos h, if_neg h0, if_pos h5]
  exact ⟨trivial, trivial, trivial, trivial⟩
theorem add_more {N W : List C} {c : C} (h : AddOk N W c) (h0 : c.mode ≠ 0) (h4 : W.length ≠ 4) : addN N W c = (allL N W ++ [c]).take 1 ∧ addW N W c = (allL N W ++ [c]).drop 1 ∧ addI N W c = [] ∧ addE N W c = 0 := by
  unfold addN addW addI addE
  have h5 : ¬ 4 < (N ++ W).length := fun h5 => h4 ((full_iff h.1).1 h5)
  simp only [if_pos h, if_neg h0, if_neg h5, all_yes h.1]
  exact ⟨trivial, trivial, trivial, trivial⟩
theorem all_len {N W : List C} (h1 : N.length ≤ 1000) (h2 : W.length ≤ 1000) : (allL N W).length ≤ 2000 := by
  by_cases hr : RightL N W
  · rw [all_yes hr, List.length_append]; omega
  · rw [all_no hr]; simp
set_option maxRecDepth 100000 in
set_option maxHeartbeats 4000000 in
theorem add_wrong (N W : List C) (c : C) {A A' : Option Addr} {n cap m cap' B : Nat} {w : World} (h : RdC w B A n cap N) (h2 : RdC w B A' m cap' W) (hB : B ≤ w.heap.size) (hn : n ≤ 1000) (hm : m ≤ 1000) (hr : ¬ RightL N W) :
    Calls Try.prog 8 #[lnV A n cap A' m cap', cV c] w (GotA [] [] [] 1 w) := by
  obtain ⟨x1, x2, x3, x4, x5⟩ := k.boxes3 (w := w) (c1 := #[.slice A n cap, .slice A' m cap']) (t1 := 24) (c2 := #[.int .i64 c.id, .int .i64 c.kind, .int .i64 c.tgt, .int .i64 c.spd, .int .i64 c.mode, .int .i64 c.num, .int .i64 c.den]) (t2 := 26) (c3 := #[.slice none 0 0, .slice none 0 0]) (t3 := 24) (Below.refl _ _)
  have X1 := Lib.hid x1
  have X2 := Lib.hid x2
  have X3 := Lib.hid x3
  have X4 := Lib.hid x4
  have CR := Lib.hid fun (W' : World) (hb : Below B w W') => right_any N W (h.below hb) (h2.below hb) (Nat.le_trans hB hb.size) hn hm
  have CM := Lib.hid fun (W' : World) => modeless_any c W'
  unfold cV at CM
  have CC := Lib.hid fun (W' : World) (hb : Below B w W') => commands_any N W (h.below hb) (h2.below hb) (Nat.le_trans hB hb.size) hn hm
  have HB := Lib.hid hB
  have hlen2 := h2.len_le
  have HL := Lib.hid (all_len (N := N) (W := W) (by rw [h.1]; exact hn) (by rw [h2.1]; exact hm))
  have h0 : rightL N W = false := right_no hr
  clear h h2 hB x1 x2 x3 x4 hn hm
  unfold cV
  go_enter Try.func8, Try.ntmps8
  go_upto_region 1 with (fail)
  generalize ((w.alloc (.cells #[.slice A n cap, .slice A' m cap'] 24)).alloc (.cells #[.int .i64 c.id, .int .i64 c.kind, .int .i64 c.tgt, .int .i64 c.spd, .int .i64 c.mode, .int .i64 c.num, .int .i64 c.den] 26)).alloc (.cells #[.slice none 0 0, .slice none 0 0] 24) = w2 at X1 X2 X3 X4 x5 ⊢
  have ⟨c0, _⟩ := k.cell_of X1.out (i := 0) rfl
  have ⟨c1, _⟩ := k.cell_of X1.out (i := 1) rfl
  go_wp2_with (go_at_call 10; fail)
  refine (CR.out _ (X4.out.mono HB.out)).mono ?_
  rintro e w3 ⟨rfl, hb⟩
  have Y1 := Lib.hid (X1.out.below hb (by omega))
  have Y2 := Lib.hid (X2.out.below hb (by omega))
  have Y3 := Lib.hid (X3.out.below hb (by omega))
  have Y4 := Lib.hid (X4.out.trans (hb.mono (by omega)))
  have y5 : w.heap.size + 2 < w3.heap.size := Nat.lt_of_lt_of_le x5 hb.size
  rw [h0]
  clear hb c0 c1 X1 X2 X3 X4 x5 CR CC CM
  have ⟨c0, _⟩ := k.cell_of Y1.out (i := 0) rfl
  have ⟨c1, _⟩ := k.cell_of Y1.out (i := 1) rfl
  have ⟨m0, _⟩ := k.cell_of Y2.out (i := 0) rfl
  have ⟨m1, _⟩ := k.cell_of Y2.out (i := 1) rfl
  have ⟨m2, _⟩ := k.cell_of Y2.out (i := 2) rfl
  have ⟨m3, _⟩ := k.cell_of Y2.out (i := 3) rfl
  have ⟨m4, _⟩ := k.cell_of Y2.out (i := 4) rfl
  have ⟨m5, _⟩ := k.cell_of Y2.out (i := 5) rfl
  have ⟨m6, _⟩ := k.cell_of Y2.out (i := 6) rfl
  have ⟨z0, zf0⟩ := k.cell_of Y3.out (i := 0) rfl
  have ⟨z1, zf1⟩ := k.cell_of Y3.out (i := 1) rfl
  go_wp2
  refine bodyPost_ret (v := .tuple #[.agg #[.slice none 0 0, .slice none 0 0], .slice none 0 0, .int .i64 1]) (by simp [results, Try.results8, go_sem, z0, z1]) rfl ⟨_, _, _, _, _, _, _, _, _, rfl, Rd.none_ _ _ _ _, Rd.none_ _ _ _ _, Rd.none_ _ _ _ _, (Y4.out.setCell (by show w.heap.size ≤ w.heap.size + 2; omega) _).setCell (by show w.heap.size ≤ w.heap.size + 2; omega) _⟩
set_option maxRecDepth 100000 in
set_option maxHeartbeats 4000000 in
theorem add_modeless (N W : List C) (c : C) {A A' : Option Addr} {n cap m cap' B : Nat} {w : World} (h : RdC w B A n cap N) (h2 : RdC w B A' m cap' W) (hB : B ≤ w.heap.size) (hn : n ≤ 1000) (hm : m ≤ 1000) (hr : RightL N W) (hk : ¬ OkC c) :
    Calls Try.prog 8 #[lnV A n cap A' m cap', cV c] w (GotA [] [] [] 1 w) := by
  obtain ⟨x1, x2, x3, x4, x5⟩ := k.boxes3 (w := w) (c1 := #[.slice A n cap, .slice A' m cap']) (t1 := 24) (c2 := #[.int .i64 c.id, .int .i64 c.kind, .int .i64 c.tgt, .int .i64 c.spd, .int .i64 c.mode, .int .i64 c.num, .int .i64 c.den]) (t2 := 26) (c3 := #[.slice none 0 0, .slice none 0 0]) (t3 := 24) (Below.refl _ _)
  have X1 := Lib.hid x1
  have X2 := Lib.hid x2
  have X3 := Lib.hid x3
  have X4 := Lib.hid x4
  have CR := Lib.hid fun (W' : World) (hb : Below B w W') => right_any N W (h.below hb) (h2.below hb) (Nat.le_trans hB hb.size) hn hm
  have CM := Lib.hid fun (W' : World) => modeless_any c W'
  unfold cV at CM
  have CC := Lib.hid fun (W' : World) (hb : Below B w W') => commands_any N W (h.below hb) (h2.below hb) (Nat.le_trans hB hb.size) hn hm
  have HB := Lib.hid hB
  have hlen2 := h2.len_le
  have HL := Lib.hid (all_len (N := N) (W := W) (by rw [h.1]; exact hn) (by rw [h2.1]; exact hm))
  have h0 : rightL N W = true := right_yes hr
  have hc0 : noMode c = true := decide_eq_true hk
  clear h h2 hB x1 x2 x3 x4 hn hm
  unfold cV
  go_enter Try.func8, Try.ntmps8
  go_upto_region 1 with (fail)
  generalize ((w.alloc (.cells #[.slice A n cap, .slice A' m cap'] 24)).alloc (.cells #[.int .i64 c.id, .int .i64 c.kind, .int .i64 c.tgt, .int .i64 c.spd, .int .i64 c.mode, .int .i64 c.num, .int .i64 c.den] 26)).alloc (.cells #[.slice none 0 0, .slice none 0 0] 24) = w2 at X1 X2 X3 X4 x5 ⊢
  have ⟨c0, _⟩ := k.cell_of X1.out (i := 0) rfl
  have ⟨c1, _⟩ := k.cell_of X1.out (i := 1) rfl
  go_wp2_with (go_at_call 10; fail)
  refine (CR.out _ (X4.out.mono HB.out)).mono ?_
  rintro e w3 ⟨rfl, hb⟩
  have Y1 := Lib.hid (X1.out.below hb (by omega))
  have Y2 := Lib.hid (X2.out.below hb (by omega))
  have Y3 := Lib.hid (X3.out.below hb (by omega))
  have Y4 := Lib.hid (X4.out.trans (hb.mono (by omega)))
  have y5 : w.heap.size + 2 < w3.heap.size := Nat.lt_of_lt_of_le x5 hb.size
  rw [h0]
  clear hb c0 c1 X1 X2 X3 X4 x5 CR
  have ⟨c0, _⟩ := k.cell_of Y1.out (i := 0) rfl
  have ⟨c1, _⟩ := k.cell_of Y1.out (i := 1) rfl
  have ⟨m0, _⟩ := k.cell_of Y2.out (i := 0) rfl
  have ⟨m1, _⟩ := k.cell_of Y2.out (i := 1) rfl
  have ⟨m2, _⟩ := k.cell_of Y2.out (i := 2) rfl
  have ⟨m3, _⟩ := k.cell_of Y2.out (i := 3) rfl
  have ⟨m4, _⟩ := k.cell_of Y2.out (i := 4) rfl
  have ⟨m5, _⟩ := k.cell_of Y2.out (i := 5) rfl
  have ⟨m6, _⟩ := k.cell_of Y2.out (i := 6) rfl
  have ⟨z0, zf0⟩ := k.cell_of Y3.out (i := 0) rfl
  have ⟨z1, zf1⟩ := k.cell_of Y3.out (i := 1) rfl
  go_wp2_with (go_at_call 20; fail)
  refine (CM.out _).mono ?_
  rintro e w4 ⟨rfl, hb⟩
  rw [hc0]
  have Z1 := Lib.hid (Y1.out.below hb (by omega))
  have Z2 := Lib.hid (Y2.out.below hb (by omega))
  have Z3 := Lib.hid (Y3.out.below hb (by omega))
  have Z4 := Lib.hid (Y4.out.trans (hb.mono (by omega)))
  have z5 : w.heap.size + 2 < w4.heap.size := Nat.lt_of_lt_of_le y5 hb.size
  clear hb Y1 Y2 Y3 Y4 y5 CM c0 c1 m0 m1 m2 m3 m4 m5 m6 z0 zf0 z1 zf1
  have ⟨c0, _⟩ := k.cell_of Z1.out (i := 0) rfl
  have ⟨c1, _⟩ := k.cell_of Z1.out (i := 1) rfl
  have ⟨m0, _⟩ := k.cell_of Z2.out (i := 0) rfl
  have ⟨m1, _⟩ := k.cell_of Z2.out (i := 1) rfl
  have ⟨m2, _⟩ := k.cell_of Z2.out (i := 2) rfl
  have ⟨m3, _⟩ := k.cell_of Z2.out (i := 3) rfl
  have ⟨m4, _⟩ := k.cell_of Z2.out (i := 4) rfl
  have ⟨m5, _⟩ := k.cell_of Z2.out (i := 5) rfl
  have ⟨m6, _⟩ := k.cell_of Z2.out (i := 6) rfl
  have ⟨z0, zf0⟩ := k.cell_of Z3.out (i := 0) rfl
  have ⟨z1, zf1⟩ := k.cell_of Z3.out (i := 1) rfl
  go_wp2
  refine bodyPost_ret (v := .tuple #[.agg #[.slice none 0 0, .slice none 0 0], .slice none 0 0, .int .i64 1]) (by simp [results, Try.results8, go_sem, z0, z1]) rfl ⟨_, _, _, _, _, _, _, _, _, rfl, Rd.none_ _ _ _ _, Rd.none_ _ _ _ _, Rd.none_ _ _ _ _, (Z4.out.setCell (by show w.heap.size ≤ w.heap.size + 2; omega) _).setCell (by show w.heap.size ≤ w.heap.size + 2; omega) _⟩
set_option maxRecDepth 100000 in
set_option maxHeartbeats 4000000 in
theorem add_abort (N W : List C) (c : C) {A A' : Option Addr} {n cap m cap' B : Nat} {w : World} (h : RdC w B A n cap N) (h2 : RdC w B A' m cap' W) (hB : B ≤ w.heap.size) (hn : n ≤ 1000) (hm : m ≤ 1000) (hr : RightL N W) (hk : OkC c) (hz : c.mode = 0) :
    Calls Try.prog 8 #[lnV A n cap A' m cap', cV c] w (GotA [c] [] (ids (allL N W)) 0 w) := by
  obtain ⟨x1, x2, x3, x4, x5⟩ := k.boxes3 (w := w) (c1 := #[.slice A n cap, .slice A' m cap']) (t1 := 24) (c2 := #[.int .i64 c.id, .int .i64 c.kind, .int .i64 c.tgt, .int .i64 c.spd, .int .i64 c.mode, .int .i64 c.num, .int .i64 c.den]) (t2 := 26) (c3 := #[.slice none 0 0, .slice none 0 0]) (t3 := 24) (Below.refl _ _)
  have X1 := Lib.hid x1
  have X2 := Lib.hid x2
  have X3 := Lib.hid x3
  have X4 := Lib.hid x4
  have CR := Lib.hid fun (W' : World) (hb : Below B w W') => right_any N W (h.below hb) (h2.below hb) (Nat.le_trans hB hb.size) hn hm
  have CM := Lib.hid fun (W' : World) => modeless_any c W'
  unfold cV at CM
  have CC := Lib.hid fun (W' : World) (hb : Below B w W') => commands_any N W (h.below hb) (h2.below hb) (Nat.le_trans hB hb.size) hn hm
  have HB := Lib.hid hB
  have hlen2 := h2.len_le
  have HL := Lib.hid (all_len (N := N) (W := W) (by rw [h.1]; exact hn) (by rw [h2.1]; exact hm))
  have h0 : rightL N W = true := right_yes hr
  have hc0 : noMode c = false := decide_eq_false (fun h => h hk)
  have hq0 : (c.mode == 0) = true := by rw [hz]; rfl
  clear hz hk hr
  clear h h2 hB x1 x2 x3 x4 hn hm
  unfold cV
  go_enter Try.func8, Try.ntmps8
  go_upto_region 1 with (fail)
  generalize ((w.alloc (.cells #[.slice A n cap, .slice A' m cap'] 24)).alloc (.cells #[.int .i64 c.id, .int .i64 c.kind, .int .i64 c.tgt, .int .i64 c.spd, .int .i64 c.mode, .int .i64 c.num, .int .i64 c.den] 26)).alloc (.cells #[.slice none 0 0, .slice none 0 0] 24) = w2 at X1 X2 X3 X4 x5 ⊢
  have ⟨c0, _⟩ := k.cell_of X1.out (i := 0) rfl
  have ⟨c1, _⟩ := k.cell_of X1.out (i := 1) rfl
  go_wp2_with (go_at_call 10; fail)
  refine (CR.out _ (X4.out.mono HB.out)).mono ?_
  rintro e w3 ⟨rfl, hb⟩
  have Y1 := Lib.hid (X1.out.below hb (by omega))
  have Y2 := Lib.hid (X2.out.below hb (by omega))
  have Y3 := Lib.hid (X3.out.below hb (by omega))
  have Y4 := Lib.hid (X4.out.trans (hb.mono (by omega)))
  have y5 : w.heap.size + 2 < w3.heap.size := Nat.lt_of_lt_of_le x5 hb.size
  rw [h0]
  clear hb c0 c1 X1 X2 X3 X4 x5 CR
  have ⟨c0, _⟩ := k.cell_of Y1.out (i := 0) rfl
  have ⟨c1, _⟩ := k.cell_of Y1.out (i := 1) rfl
  have ⟨m0, _⟩ := k.cell_of Y2.out (i := 0) rfl
  have ⟨m1, _⟩ := k.cell_of Y2.out (i := 1) rfl
  have ⟨m2, _⟩ := k.cell_of Y2.out (i := 2) rfl
  have ⟨m3, _⟩ := k.cell_of Y2.out (i := 3) rfl
  have ⟨m4, _⟩ := k.cell_of Y2.out (i := 4) rfl
  have ⟨m5, _⟩ := k.cell_of Y2.out (i := 5) rfl
  have ⟨m6, _⟩ := k.cell_of Y2.out (i := 6) rfl
  have ⟨z0, zf0⟩ := k.cell_of Y3.out (i := 0) rfl
  have ⟨z1, zf1⟩ := k.cell_of Y3.out (i := 1) rfl
  go_wp2_with (go_at_call 20; fail)
  refine (CM.out _).mono ?_
  rintro e w4 ⟨rfl, hb⟩
  rw [hc0]
  have Z1 := Lib.hid (Y1.out.below hb (by omega))
  have Z2 := Lib.hid (Y2.out.below hb (by omega))
  have Z3 := Lib.hid (Y3.out.below hb (by omega))
  have Z4 := Lib.hid (Y4.out.trans (hb.mono (by omega)))
  have z5 : w.heap.size + 2 < w4.heap.size := Nat.lt_of_lt_of_le y5 hb.size
  clear hb Y1 Y2 Y3 Y4 y5 CM c0 c1 m0 m1 m2 m3 m4 m5 m6 z0 zf0 z1 zf1
  have ⟨c0, _⟩ := k.cell_of Z1.out (i := 0) rfl
  have ⟨c1, _⟩ := k.cell_of Z1.out (i := 1) rfl
  have ⟨m0, _⟩ := k.cell_of Z2.out (i := 0) rfl
  have ⟨m1, _⟩ := k.cell_of Z2.out (i := 1) rfl
  have ⟨m2, _⟩ := k.cell_of Z2.out (i := 2) rfl
  have ⟨m3, _⟩ := k.cell_of Z2.out (i := 3) rfl
  have ⟨m4, _⟩ := k.cell_of Z2.out (i := 4) rfl
  have ⟨m5, _⟩ := k.cell_of Z2.out (i := 5) rfl
  have ⟨m6, _⟩ := k.cell_of Z2.out (i := 6) rfl
  have ⟨z0, zf0⟩ := k.cell_of Z3.out (i := 0) rfl
  have ⟨z1, zf1⟩ := k.cell_of Z3.out (i := 1) rfl
  go_wp2_with (go_at_call 21; fail)
  refine (CC.out _ (Z4.out.mono HB.out)).mono ?_
  rintro e w5 ⟨v5, rfl, ho, hb⟩
  have HO := Lib.hid ho
  have Y1 := Lib.hid (Z1.out.below hb (by omega))
  have Y2 := Lib.hid (Z2.out.below hb (by omega))
  have Y3 := Lib.hid (Z3.out.below hb (by omega))
  have Y4 := Lib.hid (Z4.out.trans (hb.mono (by omega)))
  have y5 : w.heap.size + 2 < w5.heap.size := Nat.lt_of_lt_of_le z5 hb.size
  have S45 := Lib.hid hb.size
  obtain ⟨D, k1, d, rfl⟩ := ow_form ho
  clear hb ho Z1 Z2 Z3 Z4 c0 c1 m0 m1 m2 m3 m4 m5 m6 z0 zf0 z1 zf1 CC
  have ⟨c0, _⟩ := k.cell_of Y1.out (i := 0) rfl
  have ⟨c1, _⟩ := k.cell_of Y1.out (i := 1) rfl
  have ⟨m0, _⟩ := k.cell_of Y2.out (i := 0) rfl
  have ⟨m1, _⟩ := k.cell_of Y2.out (i := 1) rfl
  have ⟨m2, _⟩ := k.cell_of Y2.out (i := 2) rfl
  have ⟨m3, _⟩ := k.cell_of Y2.out (i := 3) rfl
  have ⟨m4, _⟩ := k.cell_of Y2.out (i := 4) rfl
  have ⟨m5, _⟩ := k.cell_of Y2.out (i := 5) rfl
  have ⟨m6, _⟩ := k.cell_of Y2.out (i := 6) rfl
  have ⟨z0, zf0⟩ := k.cell_of Y3.out (i := 0) rfl
  have ⟨z1, zf1⟩ := k.cell_of Y3.out (i := 1) rfl
  go_wp2_with (go_at_call 22; fail)
  have hb6 := (Below.refl w5.heap.size w5).alloc (Nat.le_refl _) (.cells #[.int .i64 c.id, .int .i64 c.kind, .int .i64 c.tgt, .int .i64 c.spd, .int .i64 c.mode, .int .i64 c.num, .int .i64 c.den] 26)
  have hrow := (one_row (enc := cC) (z := 7) w5 26 c #[.int .i64 c.id, .int .i64 c.kind, .int .i64 c.tgt, .int .i64 c.spd, .int .i64 c.mode, .int .i64 c.num, .int .i64 c.den] rfl)
  have hs6 : w5.heap.size + 1 ≤ (w5.alloc (.cells #[.int .i64 c.id, .int .i64 c.kind, .int .i64 c.tgt, .int .i64 c.spd, .int .i64 c.mode, .int .i64 c.num, .int .i64 c.den] 26)).heap.size := by simp
  generalize w5.alloc (.cells #[.int .i64 c.id, .int .i64 c.kind, .int .i64 c.tgt, .int .i64 c.spd, .int .i64 c.mode, .int .i64 c.num, .int .i64 c.den] 26) = w6 at hb6 hrow hs6 ⊢
  refine (lined_any [c] hrow hs6 (by omega)).mono ?_
  rintro e w7 ⟨D1, k1', d1, D2, k2', d2, rfl, hr1, hr2, hb7⟩
  have hb := hb6.trans (hb7.mono hb6.size)
  have Z1 := Lib.hid (Y1.out.below hb (by omega))
  have Z2 := Lib.hid (Y2.out.below hb (by omega))
  have Z3 := Lib.hid (Y3.out.below hb (by omega))
  have Z4 := Lib.hid (Y4.out.trans (hb.mono (by omega)))
  have z6 : w.heap.size + 2 < w7.heap.size := Nat.lt_of_lt_of_le y5 hb.size
  have s6 : w.heap.size + 2 < w6.heap.size := by omega
  have R5 := Lib.hid ((ow_row HO.out).below hb)
  have HLR := Lib.hid (ow_row HO.out).1
  have S7 := Lib.hid hb7.size
  have P1 := Lib.hid hr1
  have P2 := Lib.hid hr2
  have hs5 := hb.size
  clear hb hb6 hb7 hr1 hr2 hrow hs6 Y1 Y2 Y3 Y4 c0 c1 m0 m1 m2 m3 m4 m5 m6 z0 zf0 z1 zf1
  have ⟨c0, _⟩ := k.cell_of Z1.out (i := 0) rfl
  have ⟨c1, _⟩ := k.cell_of Z1.out (i := 1) rfl
  have ⟨m0, _⟩ := k.cell_of Z2.out (i := 0) rfl
  have ⟨m1, _⟩ := k.cell_of Z2.out (i := 1) rfl
  have ⟨m2, _⟩ := k.cell_of Z2.out (i := 2) rfl
  have ⟨m3, _⟩ := k.cell_of Z2.out (i := 3) rfl
  have ⟨m4, _⟩ := k.cell_of Z2.out (i := 4) rfl
  have ⟨m5, _⟩ := k.cell_of Z2.out (i := 5) rfl
  have ⟨m6, _⟩ := k.cell_of Z2.out (i := 6) rfl
  have ⟨z0, zf0⟩ := k.cell_of Z3.out (i := 0) rfl
  have ⟨z1, zf1⟩ := k.cell_of Z3.out (i := 1) rfl
  go_wp2_with (go_at_call 23; fail)
  refine (lids_any (allL N W) R5.out hs5 (by rw [← HLR.out]; exact Nat.le_trans HL.out (by omega))).mono ?_
  rintro e w8 ⟨v8, rfl, ho8, hb⟩
  have Y1 := Lib.hid (Z1.out.below hb (by omega))
  have Y2 := Lib.hid (Z2.out.below hb (by omega))
  have Y3 := Lib.hid (Z3.out.below hb (by omega))
  have Y4 := Lib.hid (Z4.out.trans (hb.mono (by omega)))
  have y8 : w.heap.size + 2 < w8.heap.size := Nat.lt_of_lt_of_le z6 hb.size
  obtain ⟨D4, k4, d4, rfl⟩ := oi_val ho8
  have Q1 := Lib.hid (ow_row (ow_set (i := 1) (ow_set (i := 0) (P1.out.under hb) s6 (.slice D1 k1' d1)) s6 (.slice D2 k2' d2)))
  have Q2 := Lib.hid (ow_row (ow_set (i := 1) (ow_set (i := 0) (P2.out.under hb) s6 (.slice D1 k1' d1)) s6 (.slice D2 k2' d2)))
  have Q4 := Lib.hid (oi_rows (ow_set (i := 1) (ow_set (i := 0) ho8 z6 (.slice D1 k1' d1)) z6 (.slice D2 k2' d2)))
  clear hb ho8 P1 P2 R5 Z1 Z2 Z3 Z4 c0 c1 m0 m1 m2 m3 m4 m5 m6 z0 zf0 z1 zf1
  have ⟨c0, _⟩ := k.cell_of Y1.out (i := 0) rfl
  have ⟨c1, _⟩ := k.cell_of Y1.out (i := 1) rfl
  have ⟨m0, _⟩ := k.cell_of Y2.out (i := 0) rfl
  have ⟨m1, _⟩ := k.cell_of Y2.out (i := 1) rfl
  have ⟨m2, _⟩ := k.cell_of Y2.out (i := 2) rfl
  have ⟨m3, _⟩ := k.cell_of Y2.out (i := 3) rfl
  have ⟨m4, _⟩ := k.cell_of Y2.out (i := 4) rfl
  have ⟨m5, _⟩ := k.cell_of Y2.out (i := 5) rfl
  have ⟨m6, _⟩ := k.cell_of Y2.out (i := 6) rfl
  have ⟨z0, zf0⟩ := k.cell_of Y3.out (i := 0) rfl
  have ⟨z1, zf1⟩ := k.cell_of Y3.out (i := 1) rfl
  go_wp2
  refine bodyPost_ret (v := .tuple #[lnV D1 k1' d1 D2 k2' d2, .slice D4 k4 d4, .int .i64 0]) (by simp [results, Try.results8, go_sem, z0, z1]) rfl ⟨_, _, _, _, _, _, _, _, _, rfl, Q1.out, Q2.out, Q4.out, (Y4.out.setCell (by show w.heap.size ≤ w.heap.size + 2; omega) _).setCell (by show w.heap.size ≤ w.heap.size + 2; omega) _⟩
set_option maxRecDepth 100000 in
set_option maxHeartbeats 4000000 in
theorem add_filled (N W : List C) (c : C) {A A' : Option Addr} {n cap m cap' B : Nat} {w : World} (h : RdC w B A n cap N) (h2 : RdC w B A' m cap' W) (hB : B ≤ w.heap.size) (hn : n ≤ 1000) (hm : m ≤ 1000) (hr : RightL N W) (hk : OkC c) (hz : c.mode ≠ 0) (h4 : m = 4) :
    Calls Try.prog 8 #[lnV A n cap A' m cap', cV c] w (GotA [] [] [] 8 w) := by
  obtain ⟨x1, x2, x3, x4, x5⟩ := k.boxes3 (w := w) (c1 := #[.slice A n cap, .slice A' m cap']) (t1 := 24) (c2 := #[.int .i64 c.id, .int .i64 c.kind, .int .i64 c.tgt, .int .i64 c.spd, .int .i64 c.mode, .int .i64 c.num, .int .i64 c.den]) (t2 := 26) (c3 := #[.slice none 0 0, .slice none 0 0]) (t3 := 24) (Below.refl _ _)
  have X1 := Lib.hid x1
  have X2 := Lib.hid x2
  have X3 := Lib.hid x3
  have X4 := Lib.hid x4
  have CR := Lib.hid fun (W' : World) (hb : Below B w W') => right_any N W (h.below hb) (h2.below hb) (Nat.le_trans hB hb.size) hn hm
  have CM := Lib.hid fun (W' : World) => modeless_any c W'
  unfold cV at CM
  have CC := Lib.hid fun (W' : World) (hb : Below B w W') => commands_any N W (h.below hb) (h2.below hb) (Nat.le_trans hB hb.size) hn hm
  have HB := Lib.hid hB
  have hlen2 := h2.len_le
  have HL := Lib.hid (all_len (N := N) (W := W) (by rw [h.1]; exact hn) (by rw [h2.1]; exact hm))
  have h0 : rightL N W = true := right_yes hr
  have hc0 : noMode c = false := decide_eq_false (fun h => h hk)
  have hq0 : (c.mode == 0) = false := by rw [beq_eq_false_iff_ne]; exact hz
  have hq4 : ((m : Int) == 4) = true := by rw [h4]; rfl
  clear h4 hz hk hr
  clear h h2 hB x1 x2 x3 x4 hn hm
  unfold cV
  go_enter Try.func8, Try.ntmps8
  go_upto_region 1 with (fail)
  generalize ((w.alloc (.cells #[.slice A n cap, .slice A' m cap'] 24)).alloc (.cells #[.int .i64 c.id, .int .i64 c.kind, .int .i64 c.tgt, .int .i64 c.spd, .int .i64 c.mode, .int .i64 c.num, .int .i64 c.den] 26)).alloc (.cells #[.slice none 0 0, .slice none 0 0] 24) = w2 at X1 X2 X3 X4 x5 ⊢
  have ⟨c0, _⟩ := k.cell_of X1.out (i := 0) rfl
  have ⟨c1, _⟩ := k.cell_of X1.out (i := 1) rfl
  go_wp2_with (go_at_call 10; fail)
  refine (CR.out _ (X4.out.mono HB.out)).mono ?_
  rintro e w3 ⟨rfl, hb⟩
  have Y1 := Lib.hid (X1.out.below hb (by omega))
  have Y2 := Lib.hid (X2.out.below hb (by omega))
  have Y3 := Lib.hid (X3.out.below hb (by omega))
  have Y4 := Lib.hid (X4.out.trans (hb.mono (by omega)))
  have y5 : w.heap.size + 2 < w3.heap.size := Nat.lt_of_lt_of_le x5 hb.size
  rw [h0]
  clear hb c0 c1 X1 X2 X3 X4 x5 CR
  have ⟨c0, _⟩ := k.cell_of Y1.out (i := 0) rfl
  have ⟨c1, _⟩ := k.cell_of Y1.out (i := 1) rfl
  have ⟨m0, _⟩ := k.cell_of Y2.out (i := 0) rfl
  have ⟨m1, _⟩ := k.cell_of Y2.out (i := 1) rfl
  have ⟨m2, _⟩ := k.cell_of Y2.out (i := 2) rfl
  have ⟨m3, _⟩ := k.cell_of Y2.out (i := 3) rfl
  have ⟨m4, _⟩ := k.cell_of Y2.out (i := 4) rfl
  have ⟨m5, _⟩ := k.cell_of Y2.out (i := 5) rfl
  have ⟨m6, _⟩ := k.cell_of Y2.out (i := 6) rfl
  have ⟨z0, zf0⟩ := k.cell_of Y3.out (i := 0) rfl
  have ⟨z1, zf1⟩ := k.cell_of Y3.out (i := 1) rfl
  go_wp2_with (go_at_call 20; fail)
  refine (CM.out _).mono ?_
  rintro e w4 ⟨rfl, hb⟩
  rw [hc0]
  have Z1 := Lib.hid (Y1.out.below hb (by omega))
  have Z2 := Lib.hid (Y2.out.below hb (by omega))
  have Z3 := Lib.hid (Y3.out.below hb (by omega))
  have Z4 := Lib.hid (Y4.out.trans (hb.mono (by omega)))
  have z5 : w.heap.size + 2 < w4.heap.size := Nat.lt_of_lt_of_le y5 hb.size
  clear hb Y1 Y2 Y3 Y4 y5 CM c0 c1 m0 m1 m2 m3 m4 m5 m6 z0 zf0 z1 zf1
  have ⟨c0, _⟩ := k.cell_of Z1.out (i := 0) rfl
  have ⟨c1, _⟩ := k.cell_of Z1.out (i := 1) rfl
  have ⟨m0, _⟩ := k.cell_of Z2.out (i := 0) rfl
  have ⟨m1, _⟩ := k.cell_of Z2.out (i := 1) rfl
  have ⟨m2, _⟩ := k.cell_of Z2.out (i := 2) rfl
  have ⟨m3, _⟩ := k.cell_of Z2.out (i := 3) rfl
  have ⟨m4, _⟩ := k.cell_of Z2.out (i := 4) rfl
  have ⟨m5, _⟩ := k.cell_of Z2.out (i := 5) rfl
  have ⟨m6, _⟩ := k.cell_of Z2.out (i := 6) rfl
  have ⟨z0, zf0⟩ := k.cell_of Z3.out (i := 0) rfl
  have ⟨z1, zf1⟩ := k.cell_of Z3.out (i := 1) rfl
  go_wp2_with (go_at_call 21; fail)
  refine (CC.out _ (Z4.out.mono HB.out)).mono ?_
  rintro e w5 ⟨v5, rfl, ho, hb⟩
  have HO := Lib.hid ho
  have Y1 := Lib.hid (Z1.out.below hb (by omega))
  have Y2 := Lib.hid (Z2.out.below hb (by omega))
  have Y3 := Lib.hid (Z3.out.below hb (by omega))
  have Y4 := Lib.hid (Z4.out.trans (hb.mono (by omega)))
  have y5 : w.heap.size + 2 < w5.heap.size := Nat.lt_of_lt_of_le z5 hb.size
  have S45 := Lib.hid hb.size
  obtain ⟨D, k1, d, rfl⟩ := ow_form ho
  clear hb ho Z1 Z2 Z3 Z4 c0 c1 m0 m1 m2 m3 m4 m5 m6 z0 zf0 z1 zf1 CC
  have ⟨c0, _⟩ := k.cell_of Y1.out (i := 0) rfl
  have ⟨c1, _⟩ := k.cell_of Y1.out (i := 1) rfl
  have ⟨m0, _⟩ := k.cell_of Y2.out (i := 0) rfl
  have ⟨m1, _⟩ := k.cell_of Y2.out (i := 1) rfl
  have ⟨m2, _⟩ := k.cell_of Y2.out (i := 2) rfl
  have ⟨m3, _⟩ := k.cell_of Y2.out (i := 3) rfl
  have ⟨m4, _⟩ := k.cell_of Y2.out (i := 4) rfl
  have ⟨m5, _⟩ := k.cell_of Y2.out (i := 5) rfl
  have ⟨m6, _⟩ := k.cell_of Y2.out (i := 6) rfl
  have ⟨z0, zf0⟩ := k.cell_of Y3.out (i := 0) rfl
  have ⟨z1, zf1⟩ := k.cell_of Y3.out (i := 1) rfl
  clear HO
  go_wp2
  refine bodyPost_ret (v := .tuple #[.agg #[.slice none 0 0, .slice none 0 0], .slice none 0 0, .int .i64 8]) (by simp [results, Try.results8, go_sem, z0, z1]) rfl ⟨_, _, _, _, _, _, _, _, _, rfl, Rd.none_ _ _ _ _, Rd.none_ _ _ _ _, Rd.none_ _ _ _ _, (Y4.out.setCell (by show w.heap.size ≤ w.heap.size + 2; omega) _).setCell (by show w.heap.size ≤ w.heap.size + 2; omega) _⟩
set_option maxRecDepth 100000 in
set_option maxHeartbeats 4000000 in
theorem add_behind (N W : List C) (c : C) {A A' : Option Addr} {n cap m cap' B : Nat} {w : World} (h : RdC w B A n cap N) (h2 : RdC w B A' m cap' W) (hB : B ≤ w.heap.size) (hn : n ≤ 1000) (hm : m ≤ 1000) (hr : RightL N W) (hk : OkC c) (hz : c.mode ≠ 0) (h4 : m ≠ 4) :
    Calls Try.prog 8 #[lnV A n cap A' m cap', cV c] w (GotA ((allL N W ++ [c]).take 1) ((allL N W ++ [c]).drop 1) [] 0 w) := by
  obtain ⟨x1, x2, x3, x4, x5⟩ := k.boxes3 (w := w) (c1 := #[.slice A n cap, .slice A' m cap']) (t1 := 24) (c2 := #[.int .i64 c.id, .int .i64 c.kind, .int .i64 c.tgt, .int .i64 c.spd, .int .i64 c.mode, .int .i64 c.num, .int .i64 c.den]) (t2 := 26) (c3 := #[.slice none 0 0, .slice none 0 0]) (t3 := 24) (Below.refl _ _)
  have X1 := Lib.hid x1
  have X2 := Lib.hid x2
  have X3 := Lib.hid x3
  have X4 := Lib.hid x4
  have CR := Lib.hid fun (W' : World) (hb : Below B w W') => right_any N W (h.below hb) (h2.below hb) (Nat.le_trans hB hb.size) hn hm
  have CM := Lib.hid fun (W' : World) => modeless_any c W'
  unfold cV at CM
  have CC := Lib.hid fun (W' : World) (hb : Below B w W') => commands_any N W (h.below hb) (h2.below hb) (Nat.le_trans hB hb.size) hn hm
  have HB := Lib.hid hB
  have hlen2 := h2.len_le
  have HL := Lib.hid (all_len (N := N) (W := W) (by rw [h.1]; exact hn) (by rw [h2.1]; exact hm))
  have h0 : rightL N W = true := right_yes hr
  have hc0 : noMode c = false := decide_eq_false (fun h => h hk)
  have hq0 : (c.mode == 0) = false := by rw [beq_eq_false_iff_ne]; exact hz
  have hq4 : ((m : Int) == 4) = false := by rw [beq_eq_false_iff_ne]; omega
  clear h4 hz hk hr
  clear h h2 hB x1 x2 x3 x4 hn hm
  unfold cV
  go_enter Try.func8, Try.ntmps8
  go_upto_region 1 with (fail)
  generalize ((w.alloc (.cells #[.slice A n cap, .slice A' m cap'] 24)).alloc (.cells #[.int .i64 c.id, .int .i64 c.kind, .int .i64 c.tgt, .int .i64 c.spd, .int .i64 c.mode, .int .i64 c.num, .int .i64 c.den] 26)).alloc (.cells #[.slice none 0 0, .slice none 0 0] 24) = w2 at X1 X2 X3 X4 x5 ⊢
  have ⟨c0, _⟩ := k.cell_of X1.out (i := 0) rfl
  have ⟨c1, _⟩ := k.cell_of X1.out (i := 1) rfl
  go_wp2_with (go_at_call 10; fail)
  refine (CR.out _ (X4.out.mono HB.out)).mono ?_
  rintro e w3 ⟨rfl, hb⟩
  have Y1 := Lib.hid (X1.out.below hb (by omega))
  have Y2 := Lib.hid (X2.out.below hb (by omega))
  have Y3 := Lib.hid (X3.out.below hb (by omega))
  have Y4 := Lib.hid (X4.out.trans (hb.mono (by omega)))
  have y5 : w.heap.size + 2 < w3.heap.size := Nat.lt_of_lt_of_le x5 hb.size
  rw [h0]
  clear hb c0 c1 X1 X2 X3 X4 x5 CR
  have ⟨c0, _⟩ := k.cell_of Y1.out (i := 0) rfl
  have ⟨c1, _⟩ := k.cell_of Y1.out (i := 1) rfl
  have ⟨m0, _⟩ := k.cell_of Y2.out (i := 0) rfl
  have ⟨m1, _⟩ := k.cell_of Y2.out (i := 1) rfl
  have ⟨m2, _⟩ := k.cell_of Y2.out (i := 2) rfl
  have ⟨m3, _⟩ := k.cell_of Y2.out (i := 3) rfl
  have ⟨m4, _⟩ := k.cell_of Y2.out (i := 4) rfl
  have ⟨m5, _⟩ := k.cell_of Y2.out (i := 5) rfl
  have ⟨m6, _⟩ := k.cell_of Y2.out (i := 6) rfl
  have ⟨z0, zf0⟩ := k.cell_of Y3.out (i := 0) rfl
  have ⟨z1, zf1⟩ := k.cell_of Y3.out (i := 1) rfl
  go_wp2_with (go_at_call 20; fail)
  refine (CM.out _).mono ?_
  rintro e w4 ⟨rfl, hb⟩
  rw [hc0]
  have Z1 := Lib.hid (Y1.out.below hb (by omega))
  have Z2 := Lib.hid (Y2.out.below hb (by omega))
  have Z3 := Lib.hid (Y3.out.below hb (by omega))
  have Z4 := Lib.hid (Y4.out.trans (hb.mono (by omega)))
  have z5 : w.heap.size + 2 < w4.heap.size := Nat.lt_of_lt_of_le y5 hb.size
  clear hb Y1 Y2 Y3 Y4 y5 CM c0 c1 m0 m1 m2 m3 m4 m5 m6 z0 zf0 z1 zf1
  have ⟨c0, _⟩ := k.cell_of Z1.out (i := 0) rfl
  have ⟨c1, _⟩ := k.cell_of Z1.out (i := 1) rfl
  have ⟨m0, _⟩ := k.cell_of Z2.out (i := 0) rfl
  have ⟨m1, _⟩ := k.cell_of Z2.out (i := 1) rfl
  have ⟨m2, _⟩ := k.cell_of Z2.out (i := 2) rfl
  have ⟨m3, _⟩ := k.cell_of Z2.out (i := 3) rfl
  have ⟨m4, _⟩ := k.cell_of Z2.out (i := 4) rfl
  have ⟨m5, _⟩ := k.cell_of Z2.out (i := 5) rfl
  have ⟨m6, _⟩ := k.cell_of Z2.out (i := 6) rfl
  have ⟨z0, zf0⟩ := k.cell_of Z3.out (i := 0) rfl
  have ⟨z1, zf1⟩ := k.cell_of Z3.out (i := 1) rfl
  go_wp2_with (go_at_call 21; fail)
  refine (CC.out _ (Z4.out.mono HB.out)).mono ?_
  rintro e w5 ⟨v5, rfl, ho, hb⟩
  have HO := Lib.hid ho
  have Y1 := Lib.hid (Z1.out.below hb (by omega))
  have Y2 := Lib.hid (Z2.out.below hb (by omega))
  have Y3 := Lib.hid (Z3.out.below hb (by omega))
  have Y4 := Lib.hid (Z4.out.trans (hb.mono (by omega)))
  have y5 : w.heap.size + 2 < w5.heap.size := Nat.lt_of_lt_of_le z5 hb.size
  have S45 := Lib.hid hb.size
  obtain ⟨D, k1, d, rfl⟩ := ow_form ho
  clear hb ho Z1 Z2 Z3 Z4 c0 c1 m0 m1 m2 m3 m4 m5 m6 z0 zf0 z1 zf1 CC
  have ⟨c0, _⟩ := k.cell_of Y1.out (i := 0) rfl
  have ⟨c1, _⟩ := k.cell_of Y1.out (i := 1) rfl
  have ⟨m0, _⟩ := k.cell_of Y2.out (i := 0) rfl
  have ⟨m1, _⟩ := k.cell_of Y2.out (i := 1) rfl
  have ⟨m2, _⟩ := k.cell_of Y2.out (i := 2) rfl
  have ⟨m3, _⟩ := k.cell_of Y2.out (i := 3) rfl
  have ⟨m4, _⟩ := k.cell_of Y2.out (i := 4) rfl
  have ⟨m5, _⟩ := k.cell_of Y2.out (i := 5) rfl
  have ⟨m6, _⟩ := k.cell_of Y2.out (i := 6) rfl
  have ⟨z0, zf0⟩ := k.cell_of Y3.out (i := 0) rfl
  have ⟨z1, zf1⟩ := k.cell_of Y3.out (i := 1) rfl
  have hbA := (Below.refl w5.heap.size w5).alloc (Nat.le_refl _) (.cells #[.int .i64 c.id, .int .i64 c.kind, .int .i64 c.tgt, .int .i64 c.spd, .int .i64 c.mode, .int .i64 c.num, .int .i64 c.den] 26)
  have OA := Lib.hid (HO.out.under hbA)
  have SA := Lib.hid (Nat.le_trans S45.out hbA.size)
  have BA := Lib.hid hbA
  clear hbA
  go_wp2_with (first | (at_builtin; refine wpList_append_row cC_len (by omega) cC_one coms_slice com_info rfl (by omega) _ rfl (.tmp 31) (.tmp 33) rfl w4.heap.size _ (allL N W) rfl OA.out (w5.heap.size + 1) (some ⟨w5.heap.size, 0, none⟩) 1 1 [c] rfl (one_row w5 _ c _ rfl) (by have := HL.out; simp; omega) SA.out ?_; intro v7 w7 hown hg hat; have O7 := Lib.hid hown; have B7 := Lib.hid (OA.out.lays (BA.out.mono S45.out) (Nat.le_refl _) S45.out hg); clear hown hg hat) | (go_at_call 22; fail))
  obtain ⟨D7, k7, d7, rfl⟩ := ow_form O7.out
  have hb := B7.out
  have Z1 := Lib.hid (Y1.out.below hb (by omega))
  have Z2 := Lib.hid (Y2.out.below hb (by omega))
  have Z3 := Lib.hid (Y3.out.below hb (by omega))
  have Z4 := Lib.hid (Y4.out.trans (hb.mono (by omega)))
  have z7 : w.heap.size + 2 < w7.heap.size := Nat.lt_of_lt_of_le y5 hb.size
  have R7 := Lib.hid (ow_row O7.out)
  have HK7 : Hid (k7 ≤ 10000) := Lib.hid (by have h1 := R7.out.1; have h2 := HL.out; rw [List.length_append, List.length_singleton] at h1; omega)
  clear hb B7 O7 OA BA SA HO Y1 Y2 Y3 Y4 c0 c1 m0 m1 m2 m3 m4 m5 m6 z0 zf0 z1 zf1
  refine (lined_any (allL N W ++ [c]) R7.out (Nat.le_refl _) HK7.out).mono ?_
  rintro e w8 ⟨D1, k1', d1, D2, k2', d2, rfl, hr1, hr2, hb⟩
  have Y1 := Lib.hid (Z1.out.below hb (by omega))
  have Y2 := Lib.hid (Z2.out.below hb (by omega))
  have Y3 := Lib.hid (Z3.out.below hb (by omega))
  have Y4 := Lib.hid (Z4.out.trans (hb.mono (by omega)))
  have y8 : w.heap.size + 2 < w8.heap.size := Nat.lt_of_lt_of_le z7 hb.size
  have Q1 := Lib.hid (ow_row (ow_set (i := 1) (ow_set (i := 0) hr1 z7 (.slice D1 k1' d1)) z7 (.slice D2 k2' d2)))
  have Q2 := Lib.hid (ow_row (ow_set (i := 1) (ow_set (i := 0) hr2 z7 (.slice D1 k1' d1)) z7 (.slice D2 k2' d2)))
  clear hb hr1 hr2 R7 Z1 Z2 Z3 Z4
  have ⟨c0, _⟩ := k.cell_of Y1.out (i := 0) rfl
  have ⟨c1, _⟩ := k.cell_of Y1.out (i := 1) rfl
  have ⟨m0, _⟩ := k.cell_of Y2.out (i := 0) rfl
  have ⟨m1, _⟩ := k.cell_of Y2.out (i := 1) rfl
  have ⟨m2, _⟩ := k.cell_of Y2.out (i := 2) rfl
  have ⟨m3, _⟩ := k.cell_of Y2.out (i := 3) rfl
  have ⟨m4, _⟩ := k.cell_of Y2.out (i := 4) rfl
  have ⟨m5, _⟩ := k.cell_of Y2.out (i := 5) rfl
  have ⟨m6, _⟩ := k.cell_of Y2.out (i := 6) rfl
  have ⟨z0, zf0⟩ := k.cell_of Y3.out (i := 0) rfl
  have ⟨z1, zf1⟩ := k.cell_of Y3.out (i := 1) rfl
  go_wp2
  refine bodyPost_ret (v := .tuple #[lnV D1 k1' d1 D2 k2' d2, .slice none 0 0, .int .i64 0]) (by simp [results, Try.results8, go_sem, z0, z1]) rfl ⟨_, _, _, _, _, _, _, _, _, rfl, Q1.out, Q2.out, Rd.none_ _ _ _ _, (Y4.out.setCell (by show w.heap.size ≤ w.heap.size + 2; omega) _).setCell (by show w.heap.size ≤ w.heap.size + 2; omega) _⟩
theorem add_any (N W : List C) (c : C) {A A' : Option Addr} {n cap m cap' B : Nat} {w : World} (h : RdC w B A n cap N) (h2 : RdC w B A' m cap' W) (hB : B ≤ w.heap.size) (hn : n ≤ 1000) (hm : m ≤ 1000) :
    Calls Try.prog 8 #[lnV A n cap A' m cap', cV c] w (GotA (addN N W c) (addW N W c) (addI N W c) (addE N W c) w) := by
  by_cases hr : RightL N W
  · by_cases hk : OkC c
    · by_cases h0 : c.mode = 0
      · obtain ⟨e1, e2, e3, e4⟩ := add_now (N := N) (W := W) ⟨hr, hk⟩ h0
        rw [e1, e2, e3, e4]
        exact add_abort N W c h h2 hB hn hm hr hk h0
      · by_cases h4 : m = 4
        · obtain ⟨e1, e2, e3, e4⟩ := add_full (N := N) (W := W) ⟨hr, hk⟩ h0 (by rw [h2.1]; exact h4)
          rw [e1, e2, e3, e4]
          exact add_filled N W c h h2 hB hn hm hr hk h0 h4
        · obtain ⟨e1, e2, e3, e4⟩ := add_more (N := N) (W := W) ⟨hr, hk⟩ h0 (by rw [h2.1]; exact h4)
          rw [e1, e2, e3, e4]
          exact add_behind N W c h h2 hB hn hm hr hk h0 h4
    · obtain ⟨e1, e2, e3, e4⟩ := add_no (N := N) (W := W) (c := c) fun h => hk h.2
      rw [e1, e2, e3, e4]
      exact add_modeless N W c h h2 hB hn hm hr hk
  · obtain ⟨e1, e2, e3, e4⟩ := add_no (N := N) (W := W) (c := c) fun h => hr h.1
    rw [e1, e2, e3, e4]
    exact add_wrong N W c h h2 hB hn hm hr
end Go.Proofs.Ytnghifbkiipigaa.ln
