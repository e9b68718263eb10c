/- What line's lined answers; what was in memory is as it was. No condition but that the row is read where it lies. -/
import Derived.Test.YtnghifbkiipigaaLnLineB
namespace Go.Proofs.Ytnghifbkiipigaa.ln
open Go.ChangeShapes Go.WideShapes Go.ChangeAt Go.RowKit Go.Proofs.Ytnghifbkiipigaa.k Go.Proofs.Ytnghifbkiipigaa.rr
set_option linter.unusedVariables false

theorem cut_rows {α : Type} {enc : α → List Value} {z : Nat} {w : World} {B : Nat} {A : Option Addr} {n cap : Nat} {L : List α} (h : Rd enc z w B A n cap L) (j : Nat) (hj : j ≤ n) :
    (∃ A1 c1, sliced A 0 j cap z = .slice A1 j c1 ∧ Rd enc z w B A1 j c1 (L.take j)) ∧ (∃ A2 c2, sliced A j n cap z = .slice A2 (n - j) c2 ∧ Rd enc z w B A2 (n - j) c2 (L.drop j)) := by
  have hl := h.1
  have hc := h.2.1
  have hm := h.2.2.1
  refine ⟨⟨_, _, rfl, ?_⟩, ⟨_, _, rfl, ?_⟩⟩
  · refine ⟨by rw [List.length_take]; omega, by omega, by omega, fun e => ?_, fun hp => ?_⟩
    · cases A with
      | none => have := h.2.2.2.1 rfl; omega
      | some a =>
        by_cases hcj : cap = 0
        · omega
        · rw [if_neg hcj] at e; cases e
    · obtain ⟨b, off, rfl, hb, hx⟩ := h.2.2.2.2 (by omega)
      refine ⟨b, off, ?_, hb, fun i x hi => hx i x ?_⟩
      · simp [Addr.add]
      · rw [List.getElem?_take] at hi
        split at hi
        · exact hi
        · cases hi
  · refine ⟨by rw [List.length_drop]; omega, by omega, by omega, fun e => ?_, fun hp => ?_⟩
    · cases A with
      | none => have := h.2.2.2.1 rfl; omega
      | some a =>
        by_cases hcj : cap = j
        · omega
        · rw [if_neg hcj] at e; cases e
    · obtain ⟨b, off, rfl, hb, hx⟩ := h.2.2.2.2 (by omega)
      refine ⟨b, off + j * z, ?_, hb, fun i x hi => ?_⟩
      · rw [if_neg (by omega)]
        simp only [Option.map_some, Option.some.injEq]
        unfold Addr.add
        by_cases e : j * z = 0 <;> simp [e]
      · rw [List.getElem?_drop] at hi
        have := hx _ x hi
        rwa [show off + j * z + i * z = off + (j + i) * z by rw [Nat.add_mul, Nat.add_assoc]]
set_option maxRecDepth 100000 in
set_option maxHeartbeats 4000000 in
theorem lined_any (L : List C) {A : Option Addr} {n cap B : Nat} {w : World} (h : RdC w B A n cap L) (hB : B ≤ w.heap.size) (hn : n ≤ 10000) :
    Calls Try.prog 22 #[.slice A n cap] w (GotO (L.take 1) (L.drop 1) w) := by
  have hlen := h.len_le
  have HL := Lib.hid (show L.length ≤ 10000 by rw [h.1]; exact hn)
  have hcap := h.2.1
  obtain ⟨F, hF1, hF2, hF3, hF4⟩ : ∃ F : Nat, min (n : Int) 1 = (F : Int) ∧ F ≤ n ∧ L.take F = L.take 1 ∧ L.drop F = L.drop 1 := ⟨min n 1, by omega, by omega, by
    have := h.1
    rcases Nat.lt_or_ge 0 n with h0 | h0
    · rw [show min n 1 = 1 by omega]
    · rw [show L = [] from List.eq_nil_of_length_eq_zero (by omega)]; simp, by
    have := h.1
    rcases Nat.lt_or_ge 0 n with h0 | h0
    · rw [show min n 1 = 1 by omega]
    · rw [show L = [] from List.eq_nil_of_length_eq_zero (by omega)]; simp⟩
  obtain ⟨⟨A1, c1, e1, k1⟩, ⟨A2, c2, e2, k2⟩⟩ := cut_rows h F hF2
  obtain ⟨n2, hn2⟩ : ∃ n2, n - F = n2 := ⟨_, rfl⟩
  rw [hn2] at e2 k2
  rw [hF3] at k1
  rw [hF4] at k2
  have HT : Hid ((∀ w : World, (Instr.slice 22 (.slice A n cap) none (some (.int .i64 (min (n : Int) 1))) none).run Try.prog w = .ok (.slice A1 F c1) w) ∧ ∀ w : World, (Instr.slice 22 (.slice A n cap) (some (.int .i64 (min (n : Int) 1))) none none).run Try.prog w = .ok (.slice A2 n2 c2) w) := Lib.hid ⟨fun w => by
    rw [run_slice_h w _ A n cap (by kernel_rfl) .i64 _ (by omega) (by omega), hF1, Int.toNat_natCast, e1.symm]
    kernel_rfl, fun w => by
    rw [run_slice_l w _ A n cap (by kernel_rfl) .i64 _ (by omega) (by omega), hF1, Int.toNat_natCast, e2.symm]
    kernel_rfl⟩
  have R1 := Lib.hid k1
  have R2 := Lib.hid k2
  have HBB := Lib.hid hB
  clear h hB e1 e2 k1 k2 hF1 hF2 hF3 hF4 hn2 hcap
  go_enter Try.func22, Try.ntmps22
  go_upto_region 2 with (fail)
  obtain ⟨x1, x2, x3⟩ := k.boxes1 (w := w) (c1 := #[.slice none 0 0, .slice none 0 0]) (t1 := 24) (Below.refl _ _)
  generalize w.alloc (.cells #[.slice none 0 0, .slice none 0 0] 24) = w2 at x1 x2 x3 ⊢
  have S1 := Lib.hid (R1.out.below (x2.mono HBB.out))
  have S2 := Lib.hid (R2.out.below (x2.mono HBB.out))
  have X1 := Lib.hid x1
  have X2 := Lib.hid x2
  clear R1 R2 x1 x2
  refine wp_region_T (by kernel_rfl) (fun w' => True) [] trivial (fun hHeld => ?_)
  refine wpAnyT_take (i := 0) (v := ?_) rfl (by kernel_rfl) (by kernel_rfl) (by kernel_rfl) (fun _ _ _ h => h) (Or.inl ⟨by rfl, ?_⟩) (by assumption) ?_
  rotate_left 1
  · intro w_ hSw; clear hSw; skip; go_simp <;> (with_reducible rfl)
  try simp only [Act.put, List.setIfInBounds_toArray, List.set_cons_zero, List.set_cons_succ, List.getElem_toArray, List.getElem_cons_zero]
  refine wpAnyT_take (i := 1) (v := ?_) rfl (by kernel_rfl) (by kernel_rfl) (by kernel_rfl) (fun _ _ _ h => h) (Or.inl ⟨by rfl, ?_⟩) (by assumption) ?_
  rotate_left 1
  · intro w_ hSw; clear hSw; skip; go_simp <;> (with_reducible rfl)
  try simp only [Act.put, List.setIfInBounds_toArray, List.set_cons_zero, List.set_cons_succ, List.getElem_toArray, List.getElem_cons_succ, List.getElem_cons_zero]
  refine wpAnyT_take (i := 2) (v := ?_) rfl (by kernel_rfl) (by kernel_rfl) (by kernel_rfl) (fun _ _ _ h => h) (Or.inl ⟨by rfl, ?_⟩) (by assumption) ?_
  rotate_left 1
  · intro w_ hSw; clear hSw; have hS := HT.out.1; go_simp <;> (with_reducible rfl)
  try simp only [Act.put, List.setIfInBounds_toArray, List.set_cons_zero, List.set_cons_succ, List.getElem_toArray, List.getElem_cons_succ, List.getElem_cons_zero]
  refine wpAnyT_take (i := 4) (v := ?_) rfl (by kernel_rfl) (by kernel_rfl) (by kernel_rfl) (fun _ _ _ h => h) (Or.inl ⟨by rfl, ?_⟩) (by assumption) ?_
  rotate_left 1
  · intro w_ hSw; clear hSw; skip; go_simp <;> (with_reducible rfl)
  try simp only [Act.put, List.setIfInBounds_toArray, List.set_cons_zero, List.set_cons_succ, List.getElem_toArray, List.getElem_cons_succ, List.getElem_cons_zero]
  refine wpAnyT_take (i := 5) (v := ?_) rfl (by kernel_rfl) (by kernel_rfl) (by kernel_rfl) (fun _ _ _ h => h) (Or.inl ⟨by rfl, ?_⟩) (by assumption) ?_
  rotate_left 1
  · intro w_ hSw; clear hSw; skip; go_simp <;> (with_reducible rfl)
  try simp only [Act.put, List.setIfInBounds_toArray, List.set_cons_zero, List.set_cons_succ, List.getElem_toArray, List.getElem_cons_succ, List.getElem_cons_zero]
  refine wpAnyT_take (i := 6) (v := ?_) rfl (by kernel_rfl) (by kernel_rfl) (by kernel_rfl) (fun _ _ _ h => h) (Or.inl ⟨by rfl, ?_⟩) (by assumption) ?_
  rotate_left 1
  · intro w_ hSw; clear hSw; have hS := HT.out.2; go_simp <;> (with_reducible rfl)
  try simp only [Act.put, List.setIfInBounds_toArray, List.set_cons_zero, List.set_cons_succ, List.getElem_toArray, List.getElem_cons_succ, List.getElem_cons_zero]
  have x4 : w.heap.size + 1 ≤ w2.drew.heap.size := x3
  refine wpAnyT_ready (rs := [3]) (by kernel_rfl) (by simp) ?_
  refine AllReadyT.cons rfl (fun K hK => ?_) AllReadyT.nil
  refine step_append_row cC_len (by omega) cC_one coms_slice com_info rfl (by omega) w2.drew rfl (.const (.slice none 0 0)) (.tmp 9) rfl (w.heap.size + 1) (.slice none 0 0) [] rfl (Ow.nil _ _ _ _ _) B A1 F c1 (L.take 1) rfl (S1.out.drewN 1) (by have := HL.out; simp; omega) x4 ?_
  intro v3 w3 hown hg hat
  have hb3 : Below (w.heap.size + 1) w2 w3 := (show Below (w.heap.size + 1) w2 w2.drew from (Below.refl _ _).drew).trans ((Ow.nil cC 7 26 w2.drew (w.heap.size + 1)).lays (Below.refl _ _) (Nat.le_refl _) x4 hg)
  have O3 : Hid (OwC w3 (w.heap.size + 1) v3 (L.take 1)) := Lib.hid hown
  have y3 : w.heap.size + 1 ≤ w3.heap.size := Nat.le_trans x3 hb3.size
  have X3 := Lib.hid (X2.out.trans (hb3.mono (Nat.le_succ _)))
  have Y3 := Lib.hid (X1.out.below hb3 (Nat.lt_succ_self _))
  have T2 := Lib.hid (S2.out.below (hb3.mono (Nat.le_trans HBB.out (Nat.le_succ _))))
  have HA : Hid (v3.ownBlock = none ∨ v3.ownBlock ≠ none) := Lib.hid (by cases v3.ownBlock <;> simp)
  clear hb3 hown hg hat S1 S2 X1 X2
  refine hK.out _ _ trivial (fun hHeld => ?_)
  clear hK K
  try simp only [Act.put, List.setIfInBounds_toArray, List.set_cons_zero, List.set_cons_succ, List.getElem_toArray, List.getElem_cons_succ, List.getElem_cons_zero]
  refine wpAnyT_ready (rs := [7]) (by kernel_rfl) (by simp) ?_
  refine AllReadyT.cons rfl (fun K hK => ?_) AllReadyT.nil
  refine step_append_row cC_len (by omega) cC_one coms_slice com_info rfl (by omega) w3 rfl (.const (.slice none 0 0)) (.tmp 13) rfl (w.heap.size + 1) (.slice none 0 0) [] rfl (Ow.nil _ _ _ _ _) B A2 n2 c2 (L.drop 1) rfl T2.out (by have := HL.out; simp; omega) y3 ?_
  intro v4 w4 hown hg hat
  have hb4 : Below (w.heap.size + 1) w3 w4 := (Ow.nil cC 7 26 w3 (w.heap.size + 1)).lays (Below.refl _ _) (Nat.le_refl _) y3 hg
  have O4 : Hid (OwC w4 (w.heap.size + 1) v4 (L.drop 1)) := Lib.hid hown
  have P4 : Hid (OwC w4 (w.heap.size + 1) v3 (L.take 1)) := Lib.hid (O3.out.kept hg (by cases h : v3.ownBlock with | none => exact .inl rfl | some g => exact .inr (by simp [Value.ownBlock])))
  have y4 : w.heap.size < w4.heap.size := Nat.lt_of_lt_of_le y3 hb4.size
  have X4 := Lib.hid (X3.out.trans (hb4.mono (Nat.le_succ _)))
  have Y4 := Lib.hid (Y3.out.below hb4 (Nat.lt_succ_self _))
  clear hb4 hown hg hat T2 O3 X3 Y3 HA
  obtain ⟨B1, m1, d1, rfl⟩ := ow_form P4.out
  obtain ⟨B2, m2, d2, rfl⟩ := ow_form O4.out
  refine hK.out _ _ trivial (fun hHeld => ?_)
  clear hK K
  try simp only [Act.put, List.setIfInBounds_toArray, List.set_cons_zero, List.set_cons_succ, List.getElem_toArray, List.getElem_cons_succ, List.getElem_cons_zero]
  refine wpAnyT_take (i := 8) (v := ?_) rfl (by kernel_rfl) (by kernel_rfl) (by kernel_rfl) (fun _ _ _ h => h) (Or.inl ⟨by rfl, ?_⟩) (by assumption) ?_
  rotate_left 1
  · intro w_ hSw; clear hSw; skip; go_simp <;> (with_reducible rfl)
  try simp only [Act.put, List.setIfInBounds_toArray, List.set_cons_zero, List.set_cons_succ, List.getElem_toArray, List.getElem_cons_succ, List.getElem_cons_zero]
  have ⟨b0, bf0⟩ := k.cell_of Y4.out (i := 0) rfl
  have ⟨b1, bf1⟩ := k.cell_of Y4.out (i := 1) rfl
  refine wpAnyT_ready (rs := [9]) (by kernel_rfl) (by simp) ?_
  refine AllReadyT.cons rfl (fun K hK => ?_) AllReadyT.nil
  go_simp
  have Z0 := k.Box.put (k.Box.put Y4.out 0 (by simp) (.slice B1 m1 d1)) 1 (by simp) (.slice B2 m2 d2)
  have Q1 := Lib.hid (ow_set (i := 1) (ow_set (i := 0) P4.out (Nat.lt_succ_self _) (.slice B1 m1 d1)) (Nat.lt_succ_self _) (.slice B2 m2 d2))
  have Q2 := Lib.hid (ow_set (i := 1) (ow_set (i := 0) O4.out (Nat.lt_succ_self _) (.slice B1 m1 d1)) (Nat.lt_succ_self _) (.slice B2 m2 d2))
  have Q3 := Lib.hid ((X4.out.setCell (p := ⟨w.heap.size, 0, none⟩) (Nat.le_refl _) (.slice B1 m1 d1)).setCell (p := ⟨w.heap.size, 1, none⟩) (Nat.le_refl _) (.slice B2 m2 d2))
  generalize ((w4.setCell ⟨w.heap.size, 0, none⟩ (.slice B1 m1 d1)).setCell ⟨w.heap.size, 1, none⟩ (.slice B2 m2 d2)) = w5 at Z0 Q1 Q2 Q3 ⊢
  have ZZ := Lib.hid Z0
  clear b0 bf0 b1 bf1 Z0 Y4 X4 P4 O4
  refine hK.out _ _ trivial (fun hHeld => ?_)
  clear hK K
  try simp only [Act.put, List.setIfInBounds_toArray, List.set_cons_zero, List.set_cons_succ, List.getElem_toArray, List.getElem_cons_succ, List.getElem_cons_zero]
  refine wpAnyT_done (by kernel_rfl) ?_ _
  go_wp2
  refine bodyPost_ret (k.results_cell rfl rfl (run_loadVar_mid w5 w.heap.size 0 24 _ _ ZZ.out.range rfl rfl (by kernel_rfl))) rfl ?_
  exact ⟨_, _, _, _, _, _, rfl, Q1.out.base (Nat.le_succ _), by rw [← List.drop_one]; exact Q2.out.base (Nat.le_succ _), Q3.out⟩
end Go.Proofs.Ytnghifbkiipigaa.ln
