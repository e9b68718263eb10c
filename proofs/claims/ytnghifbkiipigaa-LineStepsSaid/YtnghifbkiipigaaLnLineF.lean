/- What line's End answers; what was in memory is as it was. No condition but that the rows are read where they lie. -/
import Derived.Test.YtnghifbkiipigaaLnLineE
namespace Go.Proofs.Ytnghifbkiipigaa.ln
open Go.ChangeShapes Go.WideShapes Go.ChangeAt Go.RowKit Go.Proofs.Ytnghifbkiipigaa.k Go.Proofs.Ytnghifbkiipigaa.rr
set_option linter.unusedVariables false

set_option maxRecDepth 100000 in
set_option maxHeartbeats 4000000 in
theorem end_any (N W : List C) {A A' : Option Addr} {n cap m cap' B : Nat} {w : World} (h : RdC w B A n cap N) (h2 : RdC w B A' m cap' W) (hB : B ≤ w.heap.size) (hn : n ≤ 1000) (hm : m ≤ 1000) :
    Calls Try.prog 14 #[lnV A n cap A' m cap'] w (GotE (endN N W) (endW N W) (endI N W) w) := by
  obtain ⟨x1, x2, x3, x4⟩ := k.boxes2 (w := w) (c1 := #[.slice A n cap, .slice A' m cap']) (t1 := 24) (c2 := #[.slice none 0 0, .slice none 0 0]) (t2 := 24) (Below.refl _ _)
  have X1 := Lib.hid x1
  have X2 := Lib.hid x2
  have X3 := Lib.hid x3
  have C1 := Lib.hid fun (W' : World) (hb : Below B w W') => commands_any N W (h.below hb) (h2.below hb) (Nat.le_trans hB hb.size) hn hm
  have HB := Lib.hid hB
  have HV1 := Lib.hid fun h => end_nil (N := N) (W := W) h
  have HV2 := Lib.hid fun c R h => end_cons (N := N) (W := W) (c := c) (R := R) h
  have HL : Hid ((allL N W).length ≤ 2000) := Lib.hid (by
    have h3 := h.1
    have h4 := h2.1
    unfold allL
    split
    · rw [List.length_append]; omega
    · simp)
  clear h h2 hB x1 x2 x3 hn hm
  generalize endN N W = eN at HV1 HV2 ⊢
  generalize endW N W = eW at HV1 HV2 ⊢
  generalize endI N W = eI at HV1 HV2 ⊢
  generalize allL N W = L at C1 HV1 HV2 HL
  go_enter Try.func14, Try.ntmps14
  go_upto_region 1 with (fail)
  generalize (w.alloc (.cells #[.slice A n cap, .slice A' m cap'] 24)).alloc (.cells #[.slice none 0 0, .slice none 0 0] 24) = w2 at X1 X2 X3 x4 ⊢
  have ⟨c0, _⟩ := k.cell_of X1.out (i := 0) rfl
  have ⟨c1, _⟩ := k.cell_of X1.out (i := 1) rfl
  go_wp2_with (go_at_call 21; fail)
  refine (C1.out _ (X3.out.mono HB.out)).mono ?_
  rintro e w3 ⟨v3, rfl, ho, hb⟩
  have Y3 := Lib.hid (X3.out.trans (hb.mono X3.out.size))
  have Y2 := Lib.hid (X2.out.below hb x4)
  have y4 : w.heap.size + 1 < w3.heap.size := Nat.lt_of_lt_of_le x4 hb.size
  obtain ⟨D, k1, d, rfl⟩ := ow_form ho
  have R3 := Lib.hid (ow_row ho)
  have HOB := Lib.hid fun g hg => (ho.lt g hg).1
  have x5 := x4
  clear hb ho c0 c1 X1 X2 X3 x4 C1
  have hlen := R3.out.len_le
  have ⟨z0, zf0⟩ := k.cell_of Y2.out (i := 0) rfl
  have ⟨z1, zf1⟩ := k.cell_of Y2.out (i := 1) rfl
  cases L with
  | nil =>
    have h0 : k1 = 0 := R3.out.1.symm
    subst h0
    obtain ⟨rfl, rfl, rfl⟩ := HV1.out rfl
    clear R3 HV1 HV2
    go_wp2
    have V := k.Box.put (k.Box.put Y2.out 0 (by simp) (.slice none 0 0)) 1 (by simp) (.slice none 0 0)
    refine bodyPost_ret (k.results_cell_tmp rfl rfl (run_loadVar_mid _ (w.heap.size + 1) 0 24 _ _ V.range rfl rfl (by kernel_rfl))) rfl ⟨none, 0, 0, none, 0, 0, rfl, Rd.none_ _ _ _ _, Rd.none_ _ _ _ _, (Y3.out.setCell (by show w.heap.size ≤ w.heap.size + 1; omega) _).setCell (by show w.heap.size ≤ w.heap.size + 1; omega) _⟩
  | cons c R =>
    obtain ⟨rfl, rfl, rfl⟩ := HV2.out c R rfl
    have hk : k1 = R.length + 1 := R3.out.1.symm
    have i0 : ((k1 : Int) == 0) = false := by rw [beq_eq_false_iff_ne]; omega
    have i1 : (0 : Int) < (k1 : Int) := by omega
    have i3 : 0 < k1 := by omega
    have i2 : (1 : Int) ≤ (k1 : Int) := by omega
    obtain ⟨b, o, x, e0, hb', hx, hr⟩ := R3.out.at (i := 0) (by omega)
    have ex : c = x := by simpa using hx
    subst ex
    rw [Nat.zero_mul, Nat.add_zero] at hr
    have g0 := (cells_com hr).1
    obtain ⟨_, ⟨A2, c2, e2, k2⟩⟩ := cut_rows R3.out 1 (by omega)
    obtain ⟨n2, hn2⟩ : ∃ n2, k1 - 1 = n2 := ⟨_, rfl⟩
    rw [hn2] at e2 k2
    have HT : Hid (∀ w : World, (Instr.slice 22 (.slice D k1 d) (some (.int .i64 1)) none none).run Try.prog w = .ok (.slice A2 n2 c2) w) := Lib.hid fun w => by
      rw [run_slice_l w _ D k1 d (by kernel_rfl) .i64 1 (by omega) (by omega), show (1 : Int).toNat = 1 from rfl, e2.symm]
      kernel_rfl
    subst e0
    have R2 : Hid (RdC w3 w3.heap.size A2 n2 c2 R) := Lib.hid k2
    have HN2 : Hid (n2 ≤ 2000) := Lib.hid (by have := HL.out; simp at this; omega)
    have HR0 := Lib.hid hb'
    clear hx hr e2 k2 hn2 R3 HV1 HV2 HL hk hb'
    go_upto_region 4 with (fail)
    refine wp_region_T (by kernel_rfl) (fun w' => w'.cell? ⟨b, o, none⟩ = some (.int .i64 c.id)) [] g0 (fun hHeld => ?_)
    refine wpAnyT_take (i := 0) (v := ?_) rfl (by kernel_rfl) (by kernel_rfl) (by kernel_rfl) (fun _ _ _ h => h) (Or.inl ⟨by rfl, ?_⟩) (by assumption) ?_
    rotate_left 1
    · intro w_ hSw; clear hSw; go_simp <;> (with_reducible rfl)
    try simp only [Act.put, List.setIfInBounds_toArray, List.set_cons_zero, List.set_cons_succ, List.getElem_toArray, List.getElem_cons_zero]
    refine wpAnyT_take (i := 1) (v := ?_) rfl (by kernel_rfl) (by kernel_rfl) (by kernel_rfl) (fun _ _ _ h => h) (Or.inl ⟨by rfl, ?_⟩) (by assumption) ?_
    rotate_left 1
    · intro w_ hSw; clear hSw; have hS := HT.out; go_simp <;> (with_reducible rfl)
    try simp only [Act.put, List.setIfInBounds_toArray, List.set_cons_zero, List.set_cons_succ, List.getElem_toArray, List.getElem_cons_succ, List.getElem_cons_zero]
    refine wpAnyT_take (i := 3) (v := ?_) rfl (by kernel_rfl) (by kernel_rfl) (by kernel_rfl) (fun _ _ _ h => h) (Or.inl ⟨by rfl, ?_⟩) (by assumption) ?_
    rotate_left 1
    · intro w_ hSw; clear hSw; go_simp <;> (with_reducible rfl)
    try simp only [Act.put, List.setIfInBounds_toArray, List.set_cons_zero, List.set_cons_succ, List.getElem_toArray, List.getElem_cons_succ, List.getElem_cons_zero]
    refine wpAnyT_take (i := 4) (v := ?_) rfl (by kernel_rfl) (by kernel_rfl) (by kernel_rfl) (fun _ _ _ h => h) (Or.inl ⟨by rfl, ?_⟩) (by assumption) ?_
    rotate_left 1
    · intro w_ hSw; clear hSw; go_simp <;> (with_reducible rfl)
    try simp only [Act.put, List.setIfInBounds_toArray, List.set_cons_zero, List.set_cons_succ, List.getElem_toArray, List.getElem_cons_succ, List.getElem_cons_zero]
    refine wpAnyT_take (i := 5) (v := ?_) rfl (by kernel_rfl) (by kernel_rfl) (by kernel_rfl) (fun _ _ _ h => h) (Or.inl ⟨by rfl, ?_⟩) (by assumption) ?_
    rotate_left 1
    · intro w_ hSw; clear hSw; go_simp <;> (with_reducible rfl)
    try simp only [Act.put, List.setIfInBounds_toArray, List.set_cons_zero, List.set_cons_succ, List.getElem_toArray, List.getElem_cons_succ, List.getElem_cons_zero]
    refine wpAnyT_take (i := 6) (v := ?_) rfl (by kernel_rfl) (by kernel_rfl) (by kernel_rfl) (fun _ _ _ h => h) (Or.inl ⟨by rfl, ?_⟩) (by assumption) ?_
    rotate_left 1
    · intro w_ hSw; have hS := hSw; go_simp <;> (with_reducible rfl)
    try simp only [Act.put, List.setIfInBounds_toArray, List.set_cons_zero, List.set_cons_succ, List.getElem_toArray, List.getElem_cons_succ, List.getElem_cons_zero]
    refine wpAnyT_ready (rs := [2]) (by kernel_rfl) (by simp) ?_
    refine AllReadyT.cons rfl (fun K hK => ?_) AllReadyT.nil
    go_simp
    (go_at_call 22; ((refine (lined_any R (R2.out.drewN 1) (Nat.le_refl _) (Nat.le_trans HN2.out (by omega))).mono ?_); rintro e w4 ⟨D1, k1', d1, D2, k2', d2, rfl, hr1, hr2, hb⟩))
    go_wp2_with fail
    have g1 : w4.cell? ⟨b, o, none⟩ = some (.int .i64 c.id) := (hb.cell (p := ⟨b, o, none⟩) HR0.out).trans hHeld
    have hb4 : Below w3.heap.size w3 w4 := (show Below w3.heap.size w3 w3.drew from (Below.refl _ _).drew).trans hb
    have Z3 := Lib.hid (Y3.out.trans (hb4.mono Y3.out.size))
    have Z2 := Lib.hid (Y2.out.below hb4 y4)
    have y5 : w.heap.size + 1 < w4.heap.size := Nat.lt_of_lt_of_le y4 hb4.size
    have Q1 := Lib.hid (ow_row (ow_set (i := 1) (ow_set (i := 0) hr1 (show w.heap.size + 1 < w3.drew.heap.size from y4) (.slice D1 k1' d1)) (show w.heap.size + 1 < w3.drew.heap.size from y4) (.slice D2 k2' d2)))
    have Q2 := Lib.hid (ow_row (ow_set (i := 1) (ow_set (i := 0) hr2 (show w.heap.size + 1 < w3.drew.heap.size from y4) (.slice D1 k1' d1)) (show w.heap.size + 1 < w3.drew.heap.size from y4) (.slice D2 k2' d2)))
    have V := Lib.hid (k.Box.put (k.Box.put Z2.out 0 (by simp) (.slice D1 k1' d1)) 1 (by simp) (.slice D2 k2' d2))
    have hne : w.heap.size + 2 ≤ b := by have := HOB.out b rfl; omega
    clear hb hb4 hr1 hr2 Y2 Y3
    refine hK.out _ _ g1 (fun hHeld => ?_)
    clear hK K
    try simp only [Act.put, List.setIfInBounds_toArray, List.set_cons_zero, List.set_cons_succ, List.getElem_toArray, List.getElem_cons_succ, List.getElem_cons_zero]
    have ⟨y0, yf0⟩ := k.cell_of Z2.out (i := 0) rfl
    have ⟨y1, yf1⟩ := k.cell_of Z2.out (i := 1) rfl
    refine wpAnyT_ready (rs := [7]) (by kernel_rfl) (by simp) ?_
    refine AllReadyT.cons rfl (fun K hK => ?_) AllReadyT.nil
    go_simp
    refine hK.out _ _ ((((Above.refl (w.heap.size + 2) w4).set (i := 0) (Nat.lt_succ_self _) (.slice D1 k1' d1)).set (i := 1) (Nat.lt_succ_self _) (.slice D2 k2' d2) b o hne).trans g1) (fun hHeld => ?_)
    clear hK K
    try simp only [Act.put, List.setIfInBounds_toArray, List.set_cons_zero, List.set_cons_succ, List.getElem_toArray, List.getElem_cons_succ, List.getElem_cons_zero]
    refine wpAnyT_take (i := 8) (v := ?_) rfl (by kernel_rfl) (by kernel_rfl) (by kernel_rfl) (fun _ _ _ h => h) (Or.inl ⟨by rfl, ?_⟩) (by assumption) ?_
    rotate_left 1
    · intro w_ hSw; clear hSw; go_simp <;> (with_reducible rfl)
    try simp only [Act.put, List.setIfInBounds_toArray, List.set_cons_zero, List.set_cons_succ, List.getElem_toArray, List.getElem_cons_succ, List.getElem_cons_zero]
    refine wpAnyT_done (by kernel_rfl) ?_ _
    go_wp2
    refine bodyPost_ret (k.results_cell_tmp rfl rfl (run_loadVar_mid _ (w.heap.size + 1) 0 24 _ _ V.out.range rfl rfl (by kernel_rfl))) rfl ⟨_, _, _, _, _, _, rfl, Q1.out, Q2.out, (Z3.out.setCell (by show w.heap.size ≤ w.heap.size + 1; omega) _).setCell (by show w.heap.size ≤ w.heap.size + 1; omega) _⟩
end Go.Proofs.Ytnghifbkiipigaa.ln
