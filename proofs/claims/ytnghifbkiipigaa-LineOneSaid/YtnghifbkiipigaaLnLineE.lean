/- What line's End, Clear, Last and Next answer; what was in memory is as it was. No condition but that the rows are read where they lie. -/
import Derived.Test.YtnghifbkiipigaaLnLineD
import Derived.Test.YtnghifbkiipigaaKOrd
namespace Go.Proofs.Ytnghifbkiipigaa.ln
open Go.ChangeShapes Go.WideShapes Go.ChangeAt Go.RowKit Go.Proofs.Ytnghifbkiipigaa.k Go.Proofs.Ytnghifbkiipigaa.rr
set_option linter.unusedVariables false

theorem right_cases {N W : List C} (h : RightL N W) : (N = [] ∧ W = []) ∨ ∃ c, N = [c] := by
  obtain ⟨_, h1, _, h3⟩ := h
  match N, h1, h3 with
  | [], _, h3 => exact .inl ⟨rfl, List.eq_nil_of_length_eq_zero (by simpa using h3)⟩
  | [c], _, _ => exact .inr ⟨c, rfl⟩
  | _ :: _ :: t, h1, _ => exact absurd h1 (by simp only [List.length_cons]; omega)
theorem end_nil {N W : List C} (h : allL N W = []) : endN N W = [] ∧ endW N W = [] ∧ endI N W = 0 := by
  unfold endN endW endI
  by_cases hr : RightL N W
  · rw [all_yes hr] at h
    obtain ⟨rfl, rfl⟩ := List.append_eq_nil_iff.1 h
    simp
  · simp [hr]
theorem end_cons {N W R : List C} {c : C} (h : allL N W = c :: R) : endN N W = R.take 1 ∧ endW N W = R.drop 1 ∧ endI N W = c.id := by
  unfold endN endW endI
  by_cases hr : RightL N W
  · rw [all_yes hr] at h
    rcases right_cases hr with ⟨rfl, rfl⟩ | ⟨x, rfl⟩
    · cases h
    · have h1 : x = c ∧ W = R := by simpa using h
      obtain ⟨rfl, rfl⟩ := h1
      simp [hr]
  · rw [all_no hr] at h; cases h
theorem clear_all (N W : List C) : clearI N W = ids (allL N W) := by
  unfold clearI allL
  split <;> rfl
theorem last_nil {N W : List C} (h : allL N W = []) : lastC N W = zeroC ∧ lastB N W = false := by
  unfold lastC lastB
  by_cases hr : RightL N W
  · rw [all_yes hr] at h
    rw [h]
    simp
  · simp [hr]
theorem last_at {N W : List C} {x : C} {j : Nat} (hl : (allL N W).length = j + 1) (h : (allL N W)[j]? = some x) : lastC N W = x ∧ lastB N W = true := by
  unfold lastC lastB
  by_cases hr : RightL N W
  · rw [all_yes hr] at h hl
    rw [if_pos hr, List.getLast?_eq_getElem?, hl, Nat.add_sub_cancel, h]
    exact ⟨rfl, decide_eq_true ⟨hr, by omega⟩⟩
  · rw [all_no hr] at h; simp at h
theorem next_no {N W : List C} (h : (allL N W).length < 2) : nextC N W = zeroC ∧ nextB N W = false := by
  unfold nextC nextB
  by_cases hr : RightL N W
  · rw [all_yes hr] at h
    rw [if_pos hr]
    refine ⟨?_, decide_eq_false fun h2 => by omega⟩
    rcases right_cases hr with ⟨rfl, rfl⟩ | ⟨x, rfl⟩
    · rfl
    · have h1 : W = [] := List.eq_nil_of_length_eq_zero (by simp at h; omega)
      subst h1; rfl
  · simp [hr]
theorem next_at {N W : List C} {x : C} (h : (allL N W)[1]? = some x) : nextC N W = x ∧ nextB N W = true := by
  unfold nextC nextB
  by_cases hr : RightL N W
  · rw [all_yes hr] at h
    have hl := (List.getElem?_eq_some_iff.1 h).1
    rw [if_pos hr]
    refine ⟨?_, decide_eq_true ⟨hr, by omega⟩⟩
    rcases right_cases hr with ⟨rfl, rfl⟩ | ⟨y, rfl⟩
    · simp at h
    · cases W with
      | nil => simp at h
      | cons z W => simpa using h
  · rw [all_no hr] at h; simp at h
/-- what a command's seven cells are behind a store -/
theorem com_put {w : World} {g : Nat} {vs : List Value} (c : C) (h : k.Box w g 0 vs) (hl : vs.length = 7) : k.Box (k.puts w g 0 (cC c)) g 0 (cC c) ∧ ∀ B, B ≤ g → Below B w (k.puts w g 0 (cC c)) := by
  obtain ⟨h1, _, h3⟩ := k.Box.puts (us := cC c) h (by rw [hl]; rfl)
  exact ⟨h1, h3⟩
theorem zero_cells : cC zeroC = [.int .i64 0, .int .i64 0, .int .i64 0, .int .i64 0, .int .i64 0, .int .i64 0, .int .i64 0] := rfl
theorem ret_com {a a' : C} {b b' : Bool} (h : a = a') (h2 : b = b') : Ending.returned (.tuple #[cV a, .bool b]) = .returned (.tuple #[cV a', .bool b']) := by rw [h, h2]
set_option maxHeartbeats 2000000 in
theorem clear_any (N W : List C) {A A' : Option Addr} {n cap m cap' B : Nat} {w : World} (h : RdC w B A n cap N) (h2 : RdC w B A' m cap' W) (hB : B ≤ w.heap.size) (hn : n ≤ 1000) (hm : m ≤ 1000) :
    Calls Try.prog 15 #[lnV A n cap A' m cap'] w (GotI [] [] (clearI N W) w) := by
  obtain ⟨x1, x2, x3, x4⟩ := k.boxes2 (w := w) (c1 := #[.slice A n cap, .slice A' m cap']) (t1 := 24) (c2 := #[.slice none 0 0, .slice none 0 0]) (t2 := 24) (Below.refl _ _)
  have X1 := Lib.hid x1
  have X2 := Lib.hid x2
  have X3 := Lib.hid x3
  have C1 := Lib.hid fun (W' : World) (hb : Below B w W') => commands_any N W (h.below hb) (h2.below hb) (Nat.le_trans hB hb.size) hn hm
  have HB := Lib.hid hB
  have HV := Lib.hid (clear_all N W)
  have HL : Hid ((allL N W).length ≤ 10000) := Lib.hid (by
    have h3 := h.1
    have h4 := h2.1
    unfold allL
    split
    · rw [List.length_append]; omega
    · simp)
  clear h h2 hB x1 x2 x3 hn hm
  generalize allL N W = L at C1 HV HL
  go_enter Try.func15, Try.ntmps15
  go_upto_region 1 with (fail)
  generalize (w.alloc (.cells #[.slice A n cap, .slice A' m cap'] 24)).alloc (.cells #[.slice none 0 0, .slice none 0 0] 24) = w2 at X1 X2 X3 x4 ⊢
  have ⟨c0, _⟩ := k.cell_of X1.out (i := 0) rfl
  have ⟨c1, _⟩ := k.cell_of X1.out (i := 1) rfl
  go_wp2_with (go_at_call 21; fail)
  refine (C1.out _ (X3.out.mono HB.out)).mono ?_
  rintro e w3 ⟨v3, rfl, ho, hb⟩
  have Y3 := Lib.hid (X3.out.trans (hb.mono X3.out.size))
  have Y2 := Lib.hid (X2.out.below hb x4)
  have y4 : w.heap.size + 1 < w3.heap.size := Nat.lt_of_lt_of_le x4 hb.size
  obtain ⟨D, k1, d, rfl⟩ := ow_form ho
  have R3 := Lib.hid (ow_row ho)
  clear hb ho c0 c1 X1 X2 X3 x4 C1
  go_wp2_with (go_at_call 23; fail)
  refine (lids_any L R3.out (Nat.le_refl _) (by rw [← R3.out.1]; exact HL.out)).mono ?_
  rintro e w4 ⟨v4, rfl, ho, hb⟩
  have Z3 := Lib.hid (Y3.out.trans (hb.mono Y3.out.size))
  have Z2 := Lib.hid (Y2.out.below hb y4)
  obtain ⟨D4, k4, d4, rfl⟩ := oi_val ho
  have R4 := Lib.hid (oi_rows (ow_set (i := 1) (ow_set (i := 0) ho y4 (.slice none 0 0)) y4 (.slice none 0 0)))
  have ⟨z0, zf0⟩ := k.cell_of Z2.out (i := 0) rfl
  have ⟨z1, zf1⟩ := k.cell_of Z2.out (i := 1) rfl
  clear hb ho Y2 Y3 y4 R3
  go_wp2
  have V := k.Box.put (k.Box.put Z2.out 0 (by simp) (.slice none 0 0)) 1 (by simp) (.slice none 0 0)
  refine bodyPost_ret (k.results_cell_tmp rfl rfl (run_loadVar_mid _ (w.heap.size + 1) 0 24 _ _ V.range rfl rfl (by kernel_rfl))) rfl ⟨none, 0, 0, none, 0, 0, D4, k4, d4, rfl, Rd.none_ _ _ _ _, Rd.none_ _ _ _ _, by rw [HV.out]; exact R4.out, (Z3.out.setCell (by show w.heap.size ≤ w.heap.size + 1; omega) _).setCell (by show w.heap.size ≤ w.heap.size + 1; omega) _⟩
set_option maxHeartbeats 2000000 in
theorem last_any (N W : List C) {A A' : Option Addr} {n cap m cap' B : Nat} {w : World} (h : RdC w B A n cap N) (h2 : RdC w B A' m cap' W) (hB : B ≤ w.heap.size) (hn : n ≤ 1000) (hm : m ≤ 1000) :
    Calls Try.prog 16 #[lnV A n cap A' m cap'] w (GotC (lastC N W) (lastB N W) w) := by
  obtain ⟨x1, x2, x3, x4⟩ := k.boxes2 (w := w) (c1 := #[.slice A n cap, .slice A' m cap']) (t1 := 24) (c2 := (cC zeroC).toArray) (t2 := 26) (Below.refl _ _)
  have X1 := Lib.hid x1
  have X2 := Lib.hid x2
  have X3 := Lib.hid x3
  have C1 := Lib.hid fun (W' : World) (hb : Below B w W') => commands_any N W (h.below hb) (h2.below hb) (Nat.le_trans hB hb.size) hn hm
  have HB := Lib.hid hB
  have HV1 := Lib.hid fun h => last_nil (N := N) (W := W) h
  have HV2 := Lib.hid fun x j hl h => last_at (N := N) (W := W) (x := x) (j := j) hl h
  clear h h2 hB x1 x2 x3 hn hm
  generalize lastC N W = lc at HV1 HV2 ⊢
  generalize lastB N W = lb at HV1 HV2 ⊢
  generalize allL N W = L at C1 HV1 HV2
  go_enter Try.func16, Try.ntmps16
  go_upto_region 1 with (fail)
  rw [show (w.alloc (.cells #[.slice A n cap, .slice A' m cap'] 24)).alloc (.cells #[.int .i64 0, .int .i64 0, .int .i64 0, .int .i64 0, .int .i64 0, .int .i64 0, .int .i64 0] 26) = (w.alloc (.cells #[.slice A n cap, .slice A' m cap'] 24)).alloc (.cells (cC zeroC).toArray 26) from rfl]
  generalize (w.alloc (.cells #[.slice A n cap, .slice A' m cap'] 24)).alloc (.cells (cC zeroC).toArray 26) = w2 at X1 X2 X3 x4 ⊢
  have ⟨c0, _⟩ := k.cell_of X1.out (i := 0) rfl
  have ⟨c1, _⟩ := k.cell_of X1.out (i := 1) rfl
  go_wp2_with (go_at_call 21; fail)
  refine (C1.out _ (X3.out.mono HB.out)).mono ?_
  rintro e w3 ⟨v3, rfl, ho, hb⟩
  have Y3 := Lib.hid (X3.out.trans (hb.mono X3.out.size))
  have Y2 := Lib.hid (X2.out.below hb x4)
  obtain ⟨D, k1, d, rfl⟩ := ow_form ho
  have R3 := Lib.hid (ow_row ho)
  have hlen := R3.out.len_le
  clear hb ho c0 c1 X1 X2 X3 x4 C1
  have ⟨c0, f0, c1, f1, c2, f2, c3, f3, c4, f4, c5, f5, c6, f6, _⟩ := Y2.out
  by_cases h0 : k1 = 0
  · subst h0
    obtain ⟨rfl, rfl⟩ := HV1.out (List.eq_nil_of_length_eq_zero R3.out.1)
    obtain ⟨P1, P2⟩ := com_put zeroC Y2.out rfl
    have Q1 := Lib.hid P1
    have Q2 := Lib.hid (Y3.out.trans (P2 _ (show w.heap.size ≤ w.heap.size + 1 by omega)))
    clear P1 P2 R3 Y2 Y3 HV1 HV2
    go_wp2
    refine bodyPost_ret (k.results_cell_tmp rfl rfl (run_loadVar_mid (k.puts w3 (w.heap.size + 1) 0 (cC zeroC)) (w.heap.size + 1) 0 26 _ _ Q1.out.range rfl rfl (by kernel_rfl))) rfl ⟨rfl, Q2.out⟩
  · obtain ⟨b, o, x, rfl, hb', hx, hr⟩ := R3.out.at (i := k1 - 1) (by omega)
    obtain ⟨rfl, rfl⟩ := HV2.out x (k1 - 1) (by rw [R3.out.1]; omega) hx
    obtain ⟨g0, g1, g2, g3, g4, g5, g6⟩ := cells_com hr
    have i0 : ((k1 : Int) == 0) = false := by rw [beq_eq_false_iff_ne]; omega
    have i1 : IntKind.i64.wrap ((k1 : Int) - 1) = ((k1 - 1 : Nat) : Int) := by rw [IntKind.wrap_i64]; omega
    have i2 : ((k1 - 1 : Nat) : Int) < (k1 : Int) := by omega
    have i3 : (0 : Int) ≤ ((k1 - 1 : Nat) : Int) := by omega
    obtain ⟨P1, P2⟩ := com_put lc Y2.out rfl
    have Q1 := Lib.hid P1
    have Q2 := Lib.hid (Y3.out.trans (P2 _ (show w.heap.size ≤ w.heap.size + 1 by omega)))
    clear P1 P2 R3 Y2 Y3 HV1 HV2 hx hr h0
    generalize k1 - 1 = j at i1 i2 i3 g0 g1 g2 g3 g4 g5 g6
    go_wp2
    refine bodyPost_ret (k.results_cell_tmp rfl rfl (run_loadVar_mid (k.puts w3 (w.heap.size + 1) 0 (cC lc)) (w.heap.size + 1) 0 26 _ _ Q1.out.range rfl rfl (by kernel_rfl))) rfl ⟨rfl, Q2.out⟩
set_option maxHeartbeats 2000000 in
theorem next_any (N W : List C) {A A' : Option Addr} {n cap m cap' B : Nat} {w : World} (h : RdC w B A n cap N) (h2 : RdC w B A' m cap' W) (hB : B ≤ w.heap.size) (hn : n ≤ 1000) (hm : m ≤ 1000) :
    Calls Try.prog 17 #[lnV A n cap A' m cap'] w (GotC (nextC N W) (nextB N W) w) := by
  obtain ⟨x1, x2, x3, x4⟩ := k.boxes2 (w := w) (c1 := #[.slice A n cap, .slice A' m cap']) (t1 := 24) (c2 := (cC zeroC).toArray) (t2 := 26) (Below.refl _ _)
  have X1 := Lib.hid x1
  have X2 := Lib.hid x2
  have X3 := Lib.hid x3
  have C1 := Lib.hid fun (W' : World) (hb : Below B w W') => commands_any N W (h.below hb) (h2.below hb) (Nat.le_trans hB hb.size) hn hm
  have HB := Lib.hid hB
  have HV1 := Lib.hid fun h => next_no (N := N) (W := W) h
  have HV2 := Lib.hid fun x h => next_at (N := N) (W := W) (x := x) h
  clear h h2 hB x1 x2 x3 hn hm
  generalize nextC N W = lc at HV1 HV2 ⊢
  generalize nextB N W = lb at HV1 HV2 ⊢
  generalize allL N W = L at C1 HV1 HV2
  go_enter Try.func17, Try.ntmps17
  go_upto_region 1 with (fail)
  rw [show (w.alloc (.cells #[.slice A n cap, .slice A' m cap'] 24)).alloc (.cells #[.int .i64 0, .int .i64 0, .int .i64 0, .int .i64 0, .int .i64 0, .int .i64 0, .int .i64 0] 26) = (w.alloc (.cells #[.slice A n cap, .slice A' m cap'] 24)).alloc (.cells (cC zeroC).toArray 26) from rfl]
  generalize (w.alloc (.cells #[.slice A n cap, .slice A' m cap'] 24)).alloc (.cells (cC zeroC).toArray 26) = w2 at X1 X2 X3 x4 ⊢
  have ⟨c0, _⟩ := k.cell_of X1.out (i := 0) rfl
  have ⟨c1, _⟩ := k.cell_of X1.out (i := 1) rfl
  go_wp2_with (go_at_call 21; fail)
  refine (C1.out _ (X3.out.mono HB.out)).mono ?_
  rintro e w3 ⟨v3, rfl, ho, hb⟩
  have Y3 := Lib.hid (X3.out.trans (hb.mono X3.out.size))
  have Y2 := Lib.hid (X2.out.below hb x4)
  obtain ⟨D, k1, d, rfl⟩ := ow_form ho
  have R3 := Lib.hid (ow_row ho)
  have hlen := R3.out.len_le
  clear hb ho c0 c1 X1 X2 X3 x4 C1
  have ⟨c0, f0, c1, f1, c2, f2, c3, f3, c4, f4, c5, f5, c6, f6, _⟩ := Y2.out
  by_cases h0 : k1 < 2
  · have i0 : (k1 : Int) < 2 := by omega
    obtain ⟨rfl, rfl⟩ := HV1.out (by rw [R3.out.1]; exact h0)
    obtain ⟨P1, P2⟩ := com_put zeroC Y2.out rfl
    have Q1 := Lib.hid P1
    have Q2 := Lib.hid (Y3.out.trans (P2 _ (show w.heap.size ≤ w.heap.size + 1 by omega)))
    clear P1 P2 R3 Y2 Y3 HV1 HV2 h0
    go_wp2
    refine bodyPost_ret (k.results_cell_tmp rfl rfl (run_loadVar_mid (k.puts w3 (w.heap.size + 1) 0 (cC zeroC)) (w.heap.size + 1) 0 26 _ _ Q1.out.range rfl rfl (by kernel_rfl))) rfl ⟨rfl, Q2.out⟩
  · obtain ⟨b, o, x, rfl, hb', hx, hr⟩ := R3.out.at (i := 1) (by omega)
    obtain ⟨rfl, rfl⟩ := HV2.out x hx
    rw [Nat.one_mul] at hr
    obtain ⟨g0, g1, g2, g3, g4, g5, g6⟩ := cells_com hr
    have i0 : decide ((k1 : Int) < 2) = false := decide_eq_false (by omega)
    have i1 : (1 : Int) < (k1 : Int) := by omega
    have i2 : (2 : Int) ≤ (k1 : Int) := by omega
    obtain ⟨P1, P2⟩ := com_put lc Y2.out rfl
    have Q1 := Lib.hid P1
    have Q2 := Lib.hid (Y3.out.trans (P2 _ (show w.heap.size ≤ w.heap.size + 1 by omega)))
    clear P1 P2 R3 Y2 Y3 HV1 HV2 hx hr h0
    go_wp2
    refine bodyPost_ret (k.results_cell_tmp rfl rfl (run_loadVar_mid (k.puts w3 (w.heap.size + 1) 0 (cC lc)) (w.heap.size + 1) 0 26 _ _ Q1.out.range rfl rfl (by kernel_rfl))) rfl ⟨rfl, Q2.out⟩
end Go.Proofs.Ytnghifbkiipigaa.ln
