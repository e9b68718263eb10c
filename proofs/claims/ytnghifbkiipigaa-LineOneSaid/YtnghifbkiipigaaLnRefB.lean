/- What servitorref12's List answers; what was in memory is as it was. No condition but that the rows are read where they lie. -/
import Derived.Test.YtnghifbkiipigaaLnRefA
import Derived.Test.YtnghifbkiipigaaKOrd
namespace Go.Proofs.Ytnghifbkiipigaa.ln
open Go.ChangeShapes Go.WideShapes Go.ChangeAt Go.RowKit Go.Proofs.Ytnghifbkiipigaa.k Go.Proofs.Ytnghifbkiipigaa.rr
set_option linter.unusedVariables false

theorem rows_box {w : World} {B : Nat} {A A' : Option Addr} {n cap m cap' : Nat} {N W : List C} (h : RdC w B A n cap N) (h2 : RdC w B A' m cap' W) (hB : B ≤ w.heap.size) {w2 : World} (hb : Below w.heap.size w w2) : RdC w2 w.heap.size A n cap N ∧ RdC w2 w.heap.size A' m cap' W :=
  ⟨(h.below (hb.mono hB)).more hB, (h2.below (hb.mono hB)).more hB⟩
set_option maxHeartbeats 2000000 in
theorem list_any (N W : List C) {A A' : Option Addr} {n cap m cap' B : Nat} {w : World} (h : RdC w B A n cap N) (h2 : RdC w B A' m cap' W) (hB : B ≤ w.heap.size) (hn : n ≤ 1000) (hm : m ≤ 1000) :
    Calls Try.prog 13 #[lnV A n cap A' m cap'] w fun e w' => ∃ v, e = .returned v ∧ OwC w' w.heap.size v (N ++ W) ∧ Below w.heap.size w w' := by
  have HL := Lib.hid (show N.length ≤ 1000 ∧ W.length ≤ 1000 from ⟨by rw [h.1]; exact hn, by rw [h2.1]; exact hm⟩)
  go_enter Try.func13, Try.ntmps13
  go_upto_region 1 with (fail)
  obtain ⟨x1, x2, x3⟩ := k.boxes1 (w := w) (c1 := #[.slice A n cap, .slice A' m cap']) (t1 := 24) (Below.refl _ _)
  generalize w.alloc (.cells #[.slice A n cap, .slice A' m cap'] 24) = w2 at x1 x2 x3 ⊢
  obtain ⟨r1, r2⟩ := rows_box h h2 hB x2
  have R1 := Lib.hid r1
  have R2 := Lib.hid r2
  have X2 := Lib.hid x2
  have ⟨c0, _⟩ := k.cell_of x1 (i := 0) rfl
  have ⟨c1, _⟩ := k.cell_of x1 (i := 1) rfl
  clear r1 r2 x1 x2 h h2 hB
  refine wp_region_T (by kernel_rfl) (fun w' => w'.cell? ⟨w.heap.size, 0, none⟩ = some (.slice A n cap) ∧ w'.cell? ⟨w.heap.size, 1, none⟩ = some (.slice A' m cap')) [] ⟨c0, c1⟩ (fun hHeld => ?_)
  refine wpAnyT_take (i := 1) (v := ?_) rfl (by kernel_rfl) (by kernel_rfl) (by kernel_rfl) (fun _ _ _ h => h) (Or.inl ⟨by rfl, ?_⟩) (by assumption) ?_
  rotate_left 1
  · intro w hSw; clear hSw; go_simp <;> (with_reducible rfl)
  try simp only [Act.put, List.setIfInBounds_toArray, List.set_cons_zero, List.set_cons_succ, List.getElem_toArray, List.getElem_cons_succ, List.getElem_cons_zero]
  refine wpAnyT_take (i := 2) (v := ?_) rfl (by kernel_rfl) (by kernel_rfl) (by kernel_rfl) (fun _ _ _ h => h) (Or.inl ⟨by rfl, ?_⟩) (by assumption) ?_
  rotate_left 1
  · intro w hSw; obtain ⟨s0, s1⟩ := hSw; go_simp <;> (with_reducible rfl)
  try simp only [Act.put, List.setIfInBounds_toArray, List.set_cons_zero, List.set_cons_succ, List.getElem_toArray, List.getElem_cons_succ, List.getElem_cons_zero]
  refine wpAnyT_take (i := 4) (v := ?_) rfl (by kernel_rfl) (by kernel_rfl) (by kernel_rfl) (fun _ _ _ h => h) (Or.inl ⟨by rfl, ?_⟩) (by assumption) ?_
  rotate_left 1
  · intro w hSw; clear hSw; go_simp <;> (with_reducible rfl)
  try simp only [Act.put, List.setIfInBounds_toArray, List.set_cons_zero, List.set_cons_succ, List.getElem_toArray, List.getElem_cons_succ, List.getElem_cons_zero]
  refine wpAnyT_take (i := 5) (v := ?_) rfl (by kernel_rfl) (by kernel_rfl) (by kernel_rfl) (fun _ _ _ h => h) (Or.inl ⟨by rfl, ?_⟩) (by assumption) ?_
  rotate_left 1
  · intro w hSw; obtain ⟨s0, s1⟩ := hSw; go_simp <;> (with_reducible rfl)
  try simp only [Act.put, List.setIfInBounds_toArray, List.set_cons_zero, List.set_cons_succ, List.getElem_toArray, List.getElem_cons_succ, List.getElem_cons_zero]
  refine wpAnyT_ready (rs := [0]) (by kernel_rfl) (by simp) ?_
  refine AllReadyT.cons rfl (fun K hK => ?_) AllReadyT.nil
  go_simp
  have O3 : Hid (OwC (w2.alloc (.cells #[] 26)).drew (w.heap.size + 1) (.slice (some ⟨w2.heap.size, 0, none⟩) 0 0) []) := Lib.hid ((Ow.empty cC 7 26 w2).base x3)
  have hb3 : Below w2.heap.size w2 (w2.alloc (.cells #[] 26)).drew := ((Below.refl _ _).alloc (Nat.le_refl _) _).drew
  generalize (w2.alloc (.cells #[] 26)).drew = w3 at O3 hb3 ⊢
  have x4 : w.heap.size < w3.heap.size := Nat.lt_of_lt_of_le x3 hb3.size
  have X3 := Lib.hid (X2.out.trans (hb3.mono X2.out.size))
  have S1 := Lib.hid (R1.out.below (hb3.mono X2.out.size))
  have S2 := Lib.hid (R2.out.below (hb3.mono X2.out.size))
  have d0 := (hb3.cell (p := ⟨w.heap.size, 0, none⟩) x3).trans c0
  have d1 := (hb3.cell (p := ⟨w.heap.size, 1, none⟩) x3).trans c1
  clear hb3 R1 R2
  refine hK.out _ _ ⟨d0, d1⟩ (fun hHeld => ?_)
  clear hK K
  try simp only [Act.put, List.setIfInBounds_toArray, List.set_cons_zero, List.set_cons_succ, List.getElem_toArray, List.getElem_cons_succ, List.getElem_cons_zero]
  refine wpAnyT_ready (rs := [3]) (by kernel_rfl) (by simp) ?_
  refine AllReadyT.cons rfl (fun K hK => ?_) AllReadyT.nil
  refine step_append_row cC_len (by omega) cC_one coms_slice com_info rfl (by omega) w3 rfl (.tmp 3) (.tmp 5) rfl (w.heap.size + 1) (.slice (some ⟨w2.heap.size, 0, none⟩) 0 0) [] rfl O3.out _ A n cap N rfl S1.out (by have := HL.out.1; simp; omega) x4 ?_
  intro v6 w6 hown hg hat
  have hb6 : Below (w.heap.size + 1) w3 w6 := O3.out.lays (Below.refl _ _) (Nat.le_refl _) x4 hg
  have O6 : Hid (OwC w6 (w.heap.size + 1) v6 N) := Lib.hid (by simpa using hown)
  have x6 : w.heap.size < w6.heap.size := Nat.lt_of_lt_of_le x4 hb6.size
  have X6 := Lib.hid (X3.out.trans (hb6.mono (Nat.le_succ _)))
  have T2 := Lib.hid (S2.out.below (hb6.mono (Nat.le_succ _)))
  have e0 := (hb6.cell (p := ⟨w.heap.size, 0, none⟩) (Nat.lt_succ_self _)).trans d0
  have e1 := (hb6.cell (p := ⟨w.heap.size, 1, none⟩) (Nat.lt_succ_self _)).trans d1
  clear hb6 hown hg hat S1 S2 c0 c1
  refine hK.out _ _ ⟨e0, e1⟩ (fun hHeld => ?_)
  clear hK K
  try simp only [Act.put, List.setIfInBounds_toArray, List.set_cons_zero, List.set_cons_succ, List.getElem_toArray, List.getElem_cons_succ, List.getElem_cons_zero]
  refine wpAnyT_ready (rs := [6]) (by kernel_rfl) (by simp) ?_
  refine AllReadyT.cons rfl (fun K hK => ?_) AllReadyT.nil
  refine step_append_row cC_len (by omega) cC_one coms_slice com_info rfl (by omega) w6 rfl (.tmp 6) (.tmp 8) rfl (w.heap.size + 1) v6 N rfl O6.out _ A' m cap' W rfl T2.out (by have := HL.out; omega) x6 ?_
  intro v9 w9 hown hg hat
  have hb9 : Below (w.heap.size + 1) w6 w9 := O6.out.lays (Below.refl _ _) (Nat.le_refl _) x6 hg
  have O9 : Hid (OwC w9 (w.heap.size + 1) v9 (N ++ W)) := Lib.hid hown
  have X9 := Lib.hid (X6.out.trans (hb9.mono (Nat.le_succ _)))
  have x9 : w.heap.size < w9.heap.size := Nat.lt_of_lt_of_le x6 hb9.size
  have f0 := (hb9.cell (p := ⟨w.heap.size, 0, none⟩) (Nat.lt_succ_self _)).trans e0
  have f1 := (hb9.cell (p := ⟨w.heap.size, 1, none⟩) (Nat.lt_succ_self _)).trans e1
  clear hb9 hown hg hat T2 d0 d1 e0 e1
  refine hK.out _ _ ⟨f0, f1⟩ (fun hHeld => ?_)
  clear hK K
  try simp only [Act.put, List.setIfInBounds_toArray, List.set_cons_zero, List.set_cons_succ, List.getElem_toArray, List.getElem_cons_succ, List.getElem_cons_zero]
  refine wpAnyT_take (i := 7) (v := ?_) rfl (by kernel_rfl) (by kernel_rfl) (by kernel_rfl) (fun _ _ _ h => h) (Or.inl ⟨by rfl, ?_⟩) (by assumption) ?_
  rotate_left 1
  · intro w hSw; clear hSw; go_simp <;> (with_reducible rfl)
  try simp only [Act.put, List.setIfInBounds_toArray, List.set_cons_zero, List.set_cons_succ, List.getElem_toArray, List.getElem_cons_succ, List.getElem_cons_zero]
  refine wpAnyT_done (by kernel_rfl) ?_ _
  go_wp2
  go_ret
  exact ⟨v9, rfl, O9.out.base (Nat.le_succ _), X9.out⟩
end Go.Proofs.Ytnghifbkiipigaa.ln
