/- What servitorref12's Right answers; what was in memory is as it was. No condition but that the rows are read where they lie. -/
import Derived.Test.YtnghifbkiipigaaLnRefB
import Derived.Test.YtnghifbkiipigaaKOrd
namespace Go.Proofs.Ytnghifbkiipigaa.ln
open Go.ChangeShapes Go.WideShapes Go.ChangeAt Go.RowKit Go.Proofs.Ytnghifbkiipigaa.k Go.Proofs.Ytnghifbkiipigaa.rr
set_option linter.unusedVariables false

theorem all_rows {L : List C} (h : ∀ q x, q < L.length → L[q]? = some x → OkC x) : ∀ c ∈ L, OkC c := by
  intro c hc
  obtain ⟨i, hi, rfl⟩ := List.getElem_of_mem hc
  exact h i _ hi (List.getElem?_eq_getElem hi)
set_option maxRecDepth 100000 in
set_option maxHeartbeats 4000000 in
theorem refright_any (N W : List C) {A A' : Option Addr} {n cap m cap' B : Nat} {w : World} (h : RdC w B A n cap N) (h2 : RdC w B A' m cap' W) (hB : B ≤ w.heap.size) (hn : n ≤ 1000) (hm : m ≤ 1000) :
    Calls Try.prog 7 #[lnV A n cap A' m cap'] w fun e w' => e = .returned (.bool (rightL N W)) ∧ Below w.heap.size w w' := by
  have HNM := Lib.hid (show N.length = n ∧ W.length = m from ⟨h.1, h2.1⟩)
  have HL := Lib.hid (show N.length ≤ 1000 ∧ W.length ≤ 1000 from ⟨by rw [h.1]; exact hn, by rw [h2.1]; exact hm⟩)
  go_enter Try.func7, Try.ntmps7
  go_upto_region 1 with (fail)
  obtain ⟨x1, x2, x3⟩ := k.boxes1 (w := w) (c1 := #[.slice A n cap, .slice A' m cap']) (t1 := 24) (Below.refl _ _)
  generalize w.alloc (.cells #[.slice A n cap, .slice A' m cap'] 24) = w2 at x1 x2 x3 ⊢
  obtain ⟨r1, r2⟩ := rows_box h h2 hB x2
  have R1 := Lib.hid r1
  have R2 := Lib.hid r2
  have X2 := Lib.hid x2
  have ⟨c0, _⟩ := k.cell_of x1 (i := 0) rfl
  have ⟨c1, _⟩ := k.cell_of x1 (i := 1) rfl
  clear r1 r2 x1 x2 h h2 hB
  refine wp_region_T (by kernel_rfl) (fun w' => w'.cell? ⟨w.heap.size, 0, none⟩ = some (.slice A n cap) ∧ w'.cell? ⟨w.heap.size, 1, none⟩ = some (.slice A' m cap')) [] ⟨c0, c1⟩ (fun hHeld => ?_)
  refine wpAnyT_take (i := 1) (v := ?_) rfl (by kernel_rfl) (by kernel_rfl) (by kernel_rfl) (fun _ _ _ h => h) (Or.inl ⟨by rfl, ?_⟩) (by assumption) ?_
  rotate_left 1
  · intro w hSw; clear hSw; go_simp <;> (with_reducible rfl)
  try simp only [Act.put, List.setIfInBounds_toArray, List.set_cons_zero, List.set_cons_succ, List.getElem_toArray, List.getElem_cons_succ, List.getElem_cons_zero]
  refine wpAnyT_take (i := 2) (v := ?_) rfl (by kernel_rfl) (by kernel_rfl) (by kernel_rfl) (fun _ _ _ h => h) (Or.inl ⟨by rfl, ?_⟩) (by assumption) ?_
  rotate_left 1
  · intro w hSw; obtain ⟨s0, s1⟩ := hSw; go_simp <;> (with_reducible rfl)
  try simp only [Act.put, List.setIfInBounds_toArray, List.set_cons_zero, List.set_cons_succ, List.getElem_toArray, List.getElem_cons_succ, List.getElem_cons_zero]
  refine wpAnyT_take (i := 4) (v := ?_) rfl (by kernel_rfl) (by kernel_rfl) (by kernel_rfl) (fun _ _ _ h => h) (Or.inl ⟨by rfl, ?_⟩) (by assumption) ?_
  rotate_left 1
  · intro w hSw; clear hSw; go_simp <;> (with_reducible rfl)
  try simp only [Act.put, List.setIfInBounds_toArray, List.set_cons_zero, List.set_cons_succ, List.getElem_toArray, List.getElem_cons_succ, List.getElem_cons_zero]
  refine wpAnyT_take (i := 5) (v := ?_) rfl (by kernel_rfl) (by kernel_rfl) (by kernel_rfl) (fun _ _ _ h => h) (Or.inl ⟨by rfl, ?_⟩) (by assumption) ?_
  rotate_left 1
  · intro w hSw; obtain ⟨s0, s1⟩ := hSw; go_simp <;> (with_reducible rfl)
  try simp only [Act.put, List.setIfInBounds_toArray, List.set_cons_zero, List.set_cons_succ, List.getElem_toArray, List.getElem_cons_succ, List.getElem_cons_zero]
  refine wpAnyT_take (i := 8) (v := ?_) rfl (by kernel_rfl) (by kernel_rfl) (by kernel_rfl) (fun _ _ _ h => h) (Or.inl ⟨by rfl, ?_⟩) (by assumption) ?_
  rotate_left 1
  · intro w hSw; clear hSw; go_simp <;> (with_reducible rfl)
  try simp only [Act.put, List.setIfInBounds_toArray, List.set_cons_zero, List.set_cons_succ, List.getElem_toArray, List.getElem_cons_succ, List.getElem_cons_zero]
  refine wpAnyT_ready (rs := [0]) (by kernel_rfl) (by simp) ?_
  refine AllReadyT.cons rfl (fun K hK => ?_) AllReadyT.nil
  go_simp
  have O3 : Hid (OwC (w2.alloc (.cells #[] 26)).drew (w.heap.size + 1) (.slice (some ⟨w2.heap.size, 0, none⟩) 0 0) []) := Lib.hid ((Ow.empty cC 7 26 w2).base x3)
  have hb3 : Below w2.heap.size w2 (w2.alloc (.cells #[] 26)).drew := ((Below.refl _ _).alloc (Nat.le_refl _) _).drew
  generalize (w2.alloc (.cells #[] 26)).drew = w3 at O3 hb3 ⊢
  have x4 : w.heap.size < w3.heap.size := Nat.lt_of_lt_of_le x3 hb3.size
  have X3 := Lib.hid (X2.out.trans (hb3.mono X2.out.size))
  have S1 := Lib.hid (R1.out.below (hb3.mono X2.out.size))
  have S2 := Lib.hid (R2.out.below (hb3.mono X2.out.size))
  have d0 := (hb3.cell (p := ⟨w.heap.size, 0, none⟩) x3).trans c0
  have d1 := (hb3.cell (p := ⟨w.heap.size, 1, none⟩) x3).trans c1
  clear hb3 R1 R2
  refine hK.out _ _ ⟨d0, d1⟩ (fun hHeld => ?_)
  clear hK K
  try simp only [Act.put, List.setIfInBounds_toArray, List.set_cons_zero, List.set_cons_succ, List.getElem_toArray, List.getElem_cons_succ, List.getElem_cons_zero]
  refine wpAnyT_ready (rs := [3]) (by kernel_rfl) (by simp) ?_
  refine AllReadyT.cons rfl (fun K hK => ?_) AllReadyT.nil
  refine step_append_row cC_len (by omega) cC_one coms_slice com_info rfl (by omega) w3 rfl (.tmp 5) (.tmp 7) rfl (w.heap.size + 1) (.slice (some ⟨w2.heap.size, 0, none⟩) 0 0) [] rfl O3.out _ A n cap N rfl S1.out (by have := HL.out.1; simp; omega) x4 ?_
  intro v6 w6 hown hg hat
  have hb6 : Below (w.heap.size + 1) w3 w6 := O3.out.lays (Below.refl _ _) (Nat.le_refl _) x4 hg
  have O6 : Hid (OwC w6 (w.heap.size + 1) v6 N) := Lib.hid (by simpa using hown)
  have x6 : w.heap.size < w6.heap.size := Nat.lt_of_lt_of_le x4 hb6.size
  have X6 := Lib.hid (X3.out.trans (hb6.mono (Nat.le_succ _)))
  have T2 := Lib.hid (S2.out.below (hb6.mono (Nat.le_succ _)))
  have e0 := (hb6.cell (p := ⟨w.heap.size, 0, none⟩) (Nat.lt_succ_self _)).trans d0
  have e1 := (hb6.cell (p := ⟨w.heap.size, 1, none⟩) (Nat.lt_succ_self _)).trans d1
  clear hb6 hown hg hat S1 S2 c0 c1
  refine hK.out _ _ ⟨e0, e1⟩ (fun hHeld => ?_)
  clear hK K
  try simp only [Act.put, List.setIfInBounds_toArray, List.set_cons_zero, List.set_cons_succ, List.getElem_toArray, List.getElem_cons_succ, List.getElem_cons_zero]
  refine wpAnyT_ready (rs := [6]) (by kernel_rfl) (by simp) ?_
  refine AllReadyT.cons rfl (fun K hK => ?_) AllReadyT.nil
  refine step_append_row cC_len (by omega) cC_one coms_slice com_info rfl (by omega) w6 rfl (.tmp 8) (.tmp 10) rfl (w.heap.size + 1) v6 N rfl O6.out _ A' m cap' W rfl T2.out (by have := HL.out; omega) x6 ?_
  intro v9 w9 hown hg hat
  have hb9 : Below (w.heap.size + 1) w6 w9 := O6.out.lays (Below.refl _ _) (Nat.le_refl _) x6 hg
  have O9 : Hid (OwC w9 (w.heap.size + 1) v9 (N ++ W)) := Lib.hid hown
  have X9 := Lib.hid (X6.out.trans (hb9.mono (Nat.le_succ _)))
  have x9 : w.heap.size < w9.heap.size := Nat.lt_of_lt_of_le x6 hb9.size
  have f0 := (hb9.cell (p := ⟨w.heap.size, 0, none⟩) (Nat.lt_succ_self _)).trans e0
  have f1 := (hb9.cell (p := ⟨w.heap.size, 1, none⟩) (Nat.lt_succ_self _)).trans e1
  clear hb9 hown hg hat T2 d0 d1 e0 e1
  refine hK.out _ _ ⟨f0, f1⟩ (fun hHeld => ?_)
  clear hK K
  try simp only [Act.put, List.setIfInBounds_toArray, List.set_cons_zero, List.set_cons_succ, List.getElem_toArray, List.getElem_cons_succ, List.getElem_cons_zero]
  obtain ⟨A9, c9, rfl, hr9⟩ := O9.out.form cC_len
  have R9 := Lib.hid hr9
  have hlen := hr9.len_le
  have HY : Hid (∀ c, c ∈ N ++ W → ¬ OkC c → rightL N W = false) := Lib.hid fun c hc hk => right_no fun hr => hk (hr.1 c hc)
  have HZ : Hid ((∀ q x, q < (N ++ W).length → (N ++ W)[q]? = some x → OkC x) → (rightL N W = decide (n < 2 ∧ m < 5 ∧ (n = 1 ∨ m = 0)))) := Lib.hid fun hq => by
    unfold rightL
    rw [decide_eq_decide]
    unfold RightL
    rw [HNM.out.1, HNM.out.2]
    exact ⟨fun h => h.2, fun h => ⟨all_rows hq, h⟩⟩
  have HNK : Hid ((N ++ W).length = n + m) := Lib.hid (by rw [List.length_append, HNM.out.1, HNM.out.2])
  clear hr9 O9
  obtain ⟨LL, hLL⟩ : ∃ LL, N ++ W = LL := ⟨_, rfl⟩
  rw [hLL] at R9 HY HZ HNK hlen
  rw [hLL]
  clear hLL
  obtain ⟨KK, hKK⟩ : ∃ KK, LL.length = KK := ⟨_, rfl⟩
  rw [hKK] at R9 HZ HNK hlen
  rw [hKK]
  have HKK := Lib.hid hKK
  clear hKK HNM HL
  refine wpAnyT_take (i := 7) (v := ?_) rfl (by kernel_rfl) (by kernel_rfl) (by kernel_rfl) (fun _ _ _ h => h) (Or.inl ⟨by rfl, ?_⟩) (by assumption) ?_
  rotate_left 1
  · intro w hSw; clear hSw; go_simp <;> (with_reducible rfl)
  try simp only [Act.put, List.setIfInBounds_toArray, List.set_cons_zero, List.set_cons_succ, List.getElem_toArray, List.getElem_cons_succ, List.getElem_cons_zero]
  refine wpAnyT_done (by kernel_rfl) ?_ _
  go_wp2
  go_loopw [4, 13] (fun c i wr => ∃ j : Nat, j ≤ KK ∧ i = .int .i64 j ∧ (∀ q x, q < j → LL[q]? = some x → OkC x) ∧ Below w9.heap.size w9 wr) (fun _ i _ => KK - (intOf i).toNat)
  case atStart => exact ⟨0, Nat.zero_le _, rfl, fun q x hq => absurd hq (by omega), Below.refl _ _⟩
  case round =>
    obtain ⟨j, hj, rfl, hT, hb⟩ := hrel
    have HT := Lib.hid hT
    have HB := Lib.hid hb
    clear hT
    by_cases hlt : j < KK
    · obtain ⟨b, o, x, rfl, hb', hx, hr⟩ := (R9.out.below hb).at hlt
      obtain ⟨g0, g1, g2, g3, g4, g5, g6⟩ := cells_com hr
      have hj0 : (0 : Int) ≤ (j : Int) := by omega
      have hj1 : (j : Int) < (KK : Int) := by omega
      have hbz := Nat.lt_of_lt_of_le hb' hb.size
      have HX := Lib.hid (List.mem_of_getElem? hx)
      have HXJ := Lib.hid hx
      clear hr hx hb hb'
      have HB2 : Hid (∀ ob, Below w9.heap.size w9 (wr.alloc ob)) := Lib.hid fun ob => HB.out.alloc HB.out.size ob
      by_cases hm0 : x.mode < 0
      · have HF := Lib.hid (HY.out x HX.out fun hk => by have := hk.1; omega)
        go_wp2
        go_ret
        exact ⟨by rw [HF.out]; rfl, X9.out.trans ((HB2.out _).mono X9.out.size)⟩
      · by_cases hm5 : 5 < x.mode
        · have HF := Lib.hid (HY.out x HX.out fun hk => by have := hk.2; omega)
          go_wp2
          go_ret
          exact ⟨by rw [HF.out]; rfl, X9.out.trans ((HB2.out _).mono X9.out.size)⟩
        · have HO : Hid (∀ q y, q < j + 1 → LL[q]? = some y → OkC y) := Lib.hid fun q y hq hy => by
            by_cases e : q = j
            · subst e
              have := rows_same hy HXJ.out
              subst this
              exact ⟨by omega, by omega⟩
            · exact HT.out q y (by omega) hy
          go_wp2
          go_roundw
          case rel => exact ⟨j + 1, by omega, by go_num, HO.out, HB2.out _⟩
          case measure => simp [intOf]; omega
    · have hjl : j = KK := by omega
      subst hjl
      have HV := Lib.hid (HZ.out HT.out)
      have hbz := HB.out.size
      have q0 := (hb.cell (p := ⟨w.heap.size, 0, none⟩) x9).trans f0
      have q1 := (hb.cell (p := ⟨w.heap.size, 1, none⟩) x9).trans f1
      have HE := Lib.hid (X9.out.trans (hb.mono X9.out.size))
      clear hb f0 f1
      by_cases k1 : n < 2
      · have i1 : (n : Int) < 2 := by omega
        by_cases k2 : m < 5
        · have i2 : (m : Int) < 5 := by omega
          by_cases k3 : n = 1
          · have i3 : ((n : Int) == 1) = true := by rw [beq_iff_eq]; omega
            have HW := Lib.hid (HV.out.trans (decide_eq_true (by omega)))
            go_wp2
            go_ret
            exact ⟨by rw [HW.out]; rfl, HE.out⟩
          · have i3 : ((n : Int) == 1) = false := by rw [beq_eq_false_iff_ne]; omega
            by_cases k4 : m = 0
            · have i4 : ((m : Int) == 0) = true := by rw [beq_iff_eq]; omega
              have HW := Lib.hid (HV.out.trans (decide_eq_true (by omega)))
              go_wp2
              go_ret
              exact ⟨by rw [HW.out]; rfl, HE.out⟩
            · have i4 : ((m : Int) == 0) = false := by rw [beq_eq_false_iff_ne]; omega
              have HW := Lib.hid (HV.out.trans (decide_eq_false (by omega)))
              go_wp2
              go_ret
              exact ⟨by rw [HW.out]; rfl, HE.out⟩
        · have i2 : (5 : Int) ≤ (m : Int) := by omega
          have i5 : decide ((m : Int) < 5) = false := decide_eq_false (by omega)
          have HW := Lib.hid (HV.out.trans (decide_eq_false (by omega)))
          go_wp2
          go_ret
          exact ⟨by rw [HW.out]; rfl, HE.out⟩
      · have i1 : (2 : Int) ≤ (n : Int) := by omega
        have i5 : decide ((n : Int) < 2) = false := decide_eq_false (by omega)
        have HW := Lib.hid (HV.out.trans (decide_eq_false (by omega)))
        go_wp2
        go_ret
        exact ⟨by rw [HW.out]; rfl, HE.out⟩
end Go.Proofs.Ytnghifbkiipigaa.ln
