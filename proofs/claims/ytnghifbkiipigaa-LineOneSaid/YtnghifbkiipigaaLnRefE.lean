/- What servitorref12's Add answers; what was in memory is as it was. No condition but that the rows are read where they lie. -/
import Derived.Test.YtnghifbkiipigaaLnRefD
import Derived.Test.YtnghifbkiipigaaKOrd
namespace Go.Proofs.Ytnghifbkiipigaa.ln
open Go.ChangeShapes Go.WideShapes Go.ChangeAt Go.RowKit Go.Proofs.Ytnghifbkiipigaa.k Go.Proofs.Ytnghifbkiipigaa.rr
set_option linter.unusedVariables false

/-- a line, numbers and an error that a call answers -/
def GotA (N W : List C) (I : List Int) (er : Int) (w : World) (e : Ending) (w' : World) : Prop :=
  ∃ A n c A' m c' D k d, e = .returned (.tuple #[lnV A n c A' m c', .slice D k d, .int .i64 er]) ∧ RdC w' w'.heap.size A n c N ∧ RdC w' w'.heap.size A' m c' W ∧ RdI w' w'.heap.size D k d I ∧ Below w.heap.size w w'
theorem oi_row {w : World} {base : Nat} {v : Value} {l : List Int} (h : OwI w base v l) : ∃ A n c, v = .slice A n c ∧ RdI w w.heap.size A n c l := by
  obtain ⟨A', c', e, hr⟩ := h.form iC_len
  exact ⟨_, _, _, e, hr⟩
theorem oc_row {w : World} {base : Nat} {v : Value} {l : List C} (h : OwC w base v l) : ∃ A n c, v = .slice A n c ∧ RdC w w.heap.size A n c l := by
  obtain ⟨A', c', e, hr⟩ := h.form cC_len
  exact ⟨_, _, _, e, hr⟩
theorem oi_val {w : World} {base : Nat} {v : Value} {l : List Int} (h : OwI w base v l) : ∃ A n c, v = .slice A n c := by
  obtain ⟨A', c', e, hr⟩ := h.form iC_len
  exact ⟨_, _, _, e⟩
theorem oi_rows {w : World} {base : Nat} {A : Option Addr} {n c : Nat} {l : List Int} (h : OwI w base (.slice A n c) l) : RdI w w.heap.size A n c l := by
  obtain ⟨A', c', e, hr⟩ := h.form iC_len
  injection e with e1 e2 e3
  subst e1 e2 e3
  exact hr
set_option maxRecDepth 100000 in
set_option maxHeartbeats 4000000 in
theorem refadd_bad (N W : List C) (c : C) {A A' : Option Addr} {n cap m cap' B : Nat} {w : World} (h : RdC w B A n cap N) (h2 : RdC w B A' m cap' W) (hB : B ≤ w.heap.size) (hn : n ≤ 1000) (hm : m ≤ 1000) (hk : ¬ (RightL N W ∧ OkC c)) :
    Calls Try.prog 9 #[lnV A n cap A' m cap', cV c] w (GotA [] [] [] 1 w) := by
  by_cases hr : RightL N W
  · have h0 : rightL N W = true := right_yes hr
    have hc : ¬ OkC c := fun h => hk ⟨hr, h⟩
    clear hk hr
    by_cases hm0 : c.mode < 0
    · clear hc
      have HL := Lib.hid (show N.length ≤ 1000 ∧ W.length ≤ 1000 from ⟨by rw [h.1]; exact hn, by rw [h2.1]; exact hm⟩)
      have HC := Lib.hid fun W' (hb : Below B w W') => refright_any N W (h.below hb) (h2.below hb) (Nat.le_trans hB hb.size) hn hm
      have HR := Lib.hid (And.intro h (And.intro h2 hB))
      have HNM := Lib.hid (And.intro h.1 h2.1)
      clear h h2 hB
      unfold cV
      go_enter Try.func9, Try.ntmps9
      go_upto_region 1 with (fail)
      obtain ⟨x1, x2, x3, x4, x5⟩ := k.boxes3 (w := w) (c1 := #[.slice A n cap, .slice A' m cap']) (t1 := 24) (c2 := #[.int .i64 c.id, .int .i64 c.kind, .int .i64 c.tgt, .int .i64 c.spd, .int .i64 c.mode, .int .i64 c.num, .int .i64 c.den]) (t2 := 26) (c3 := #[.slice none 0 0, .slice none 0 0]) (t3 := 24) (Below.refl _ _)
      generalize ((w.alloc (.cells #[.slice A n cap, .slice A' m cap'] 24)).alloc (.cells #[.int .i64 c.id, .int .i64 c.kind, .int .i64 c.tgt, .int .i64 c.spd, .int .i64 c.mode, .int .i64 c.num, .int .i64 c.den] 26)).alloc (.cells #[.slice none 0 0, .slice none 0 0] 24) = w2 at x1 x2 x3 x4 x5 ⊢
      have X1 := Lib.hid x1
      have X2 := Lib.hid x2
      have X3 := Lib.hid x3
      have X4 := Lib.hid x4
      have ⟨c0, _⟩ := k.cell_of x1 (i := 0) rfl
      have ⟨c1, _⟩ := k.cell_of x1 (i := 1) rfl
      clear x1 x2 x3 x4
      go_upto_region 2 with (go_at_call 7; ((with_reducible refine (HC.out _ (X4.out.mono HR.out.2.2)).mono ?_); rintro e w3 ⟨rfl, hb⟩; have Y1 := Lib.hid (X1.out.below hb (by omega)); have Y2 := Lib.hid (X2.out.below hb (by omega)); have Y3 := Lib.hid (X3.out.below hb (by omega)); have Y4 := Lib.hid (X4.out.trans (hb.mono X4.out.size)); have y5 : w.heap.size + 2 < w3.heap.size := Nat.lt_of_lt_of_le x5 hb.size; clear hb c0 c1; have ⟨m4, _⟩ := k.cell_of Y2.out (i := 4) rfl))
      clear X1 X2 X3 X4 x5 HC
      have ⟨z0, zf0⟩ := k.cell_of Y3.out (i := 0) rfl
      have ⟨z1, zf1⟩ := k.cell_of Y3.out (i := 1) rfl
      go_wp2
      refine bodyPost_ret (v := .tuple #[.agg #[.slice none 0 0, .slice none 0 0], .slice none 0 0, .int .i64 1]) (by simp [results, Try.results9, go_sem, z0, z1]) rfl ⟨none, 0, 0, none, 0, 0, none, 0, 0, rfl, Rd.none_ _ _ _ _, Rd.none_ _ _ _ _, Rd.none_ _ _ _ _, (Y4.out.setCell (by show w.heap.size ≤ w.heap.size + 2; omega) _).setCell (by show w.heap.size ≤ w.heap.size + 2; omega) _⟩
    · have hm5 : 5 < c.mode := by unfold OkC at hc; omega
      clear hc
      have HL := Lib.hid (show N.length ≤ 1000 ∧ W.length ≤ 1000 from ⟨by rw [h.1]; exact hn, by rw [h2.1]; exact hm⟩)
      have HC := Lib.hid fun W' (hb : Below B w W') => refright_any N W (h.below hb) (h2.below hb) (Nat.le_trans hB hb.size) hn hm
      have HR := Lib.hid (And.intro h (And.intro h2 hB))
      have HNM := Lib.hid (And.intro h.1 h2.1)
      clear h h2 hB
      unfold cV
      go_enter Try.func9, Try.ntmps9
      go_upto_region 1 with (fail)
      obtain ⟨x1, x2, x3, x4, x5⟩ := k.boxes3 (w := w) (c1 := #[.slice A n cap, .slice A' m cap']) (t1 := 24) (c2 := #[.int .i64 c.id, .int .i64 c.kind, .int .i64 c.tgt, .int .i64 c.spd, .int .i64 c.mode, .int .i64 c.num, .int .i64 c.den]) (t2 := 26) (c3 := #[.slice none 0 0, .slice none 0 0]) (t3 := 24) (Below.refl _ _)
      generalize ((w.alloc (.cells #[.slice A n cap, .slice A' m cap'] 24)).alloc (.cells #[.int .i64 c.id, .int .i64 c.kind, .int .i64 c.tgt, .int .i64 c.spd, .int .i64 c.mode, .int .i64 c.num, .int .i64 c.den] 26)).alloc (.cells #[.slice none 0 0, .slice none 0 0] 24) = w2 at x1 x2 x3 x4 x5 ⊢
      have X1 := Lib.hid x1
      have X2 := Lib.hid x2
      have X3 := Lib.hid x3
      have X4 := Lib.hid x4
      have ⟨c0, _⟩ := k.cell_of x1 (i := 0) rfl
      have ⟨c1, _⟩ := k.cell_of x1 (i := 1) rfl
      clear x1 x2 x3 x4
      go_upto_region 2 with (go_at_call 7; ((with_reducible refine (HC.out _ (X4.out.mono HR.out.2.2)).mono ?_); rintro e w3 ⟨rfl, hb⟩; have Y1 := Lib.hid (X1.out.below hb (by omega)); have Y2 := Lib.hid (X2.out.below hb (by omega)); have Y3 := Lib.hid (X3.out.below hb (by omega)); have Y4 := Lib.hid (X4.out.trans (hb.mono X4.out.size)); have y5 : w.heap.size + 2 < w3.heap.size := Nat.lt_of_lt_of_le x5 hb.size; clear hb c0 c1; have ⟨m4, _⟩ := k.cell_of Y2.out (i := 4) rfl))
      clear X1 X2 X3 X4 x5 HC
      have ⟨z0, zf0⟩ := k.cell_of Y3.out (i := 0) rfl
      have ⟨z1, zf1⟩ := k.cell_of Y3.out (i := 1) rfl
      go_wp2
      refine bodyPost_ret (v := .tuple #[.agg #[.slice none 0 0, .slice none 0 0], .slice none 0 0, .int .i64 1]) (by simp [results, Try.results9, go_sem, z0, z1]) rfl ⟨none, 0, 0, none, 0, 0, none, 0, 0, rfl, Rd.none_ _ _ _ _, Rd.none_ _ _ _ _, Rd.none_ _ _ _ _, (Y4.out.setCell (by show w.heap.size ≤ w.heap.size + 2; omega) _).setCell (by show w.heap.size ≤ w.heap.size + 2; omega) _⟩
  · have h0 : rightL N W = false := right_no hr
    clear hk hr
    have HL := Lib.hid (show N.length ≤ 1000 ∧ W.length ≤ 1000 from ⟨by rw [h.1]; exact hn, by rw [h2.1]; exact hm⟩)
    have HC := Lib.hid fun W' (hb : Below B w W') => refright_any N W (h.below hb) (h2.below hb) (Nat.le_trans hB hb.size) hn hm
    have HR := Lib.hid (And.intro h (And.intro h2 hB))
    have HNM := Lib.hid (And.intro h.1 h2.1)
    clear h h2 hB
    unfold cV
    go_enter Try.func9, Try.ntmps9
    go_upto_region 1 with (fail)
    obtain ⟨x1, x2, x3, x4, x5⟩ := k.boxes3 (w := w) (c1 := #[.slice A n cap, .slice A' m cap']) (t1 := 24) (c2 := #[.int .i64 c.id, .int .i64 c.kind, .int .i64 c.tgt, .int .i64 c.spd, .int .i64 c.mode, .int .i64 c.num, .int .i64 c.den]) (t2 := 26) (c3 := #[.slice none 0 0, .slice none 0 0]) (t3 := 24) (Below.refl _ _)
    generalize ((w.alloc (.cells #[.slice A n cap, .slice A' m cap'] 24)).alloc (.cells #[.int .i64 c.id, .int .i64 c.kind, .int .i64 c.tgt, .int .i64 c.spd, .int .i64 c.mode, .int .i64 c.num, .int .i64 c.den] 26)).alloc (.cells #[.slice none 0 0, .slice none 0 0] 24) = w2 at x1 x2 x3 x4 x5 ⊢
    have X1 := Lib.hid x1
    have X2 := Lib.hid x2
    have X3 := Lib.hid x3
    have X4 := Lib.hid x4
    have ⟨c0, _⟩ := k.cell_of x1 (i := 0) rfl
    have ⟨c1, _⟩ := k.cell_of x1 (i := 1) rfl
    clear x1 x2 x3 x4
    go_upto_region 2 with (go_at_call 7; ((with_reducible refine (HC.out _ (X4.out.mono HR.out.2.2)).mono ?_); rintro e w3 ⟨rfl, hb⟩; have Y1 := Lib.hid (X1.out.below hb (by omega)); have Y2 := Lib.hid (X2.out.below hb (by omega)); have Y3 := Lib.hid (X3.out.below hb (by omega)); have Y4 := Lib.hid (X4.out.trans (hb.mono X4.out.size)); have y5 : w.heap.size + 2 < w3.heap.size := Nat.lt_of_lt_of_le x5 hb.size; clear hb c0 c1; have ⟨m4, _⟩ := k.cell_of Y2.out (i := 4) rfl))
    clear X1 X2 X3 X4 x5 HC
    have ⟨z0, zf0⟩ := k.cell_of Y3.out (i := 0) rfl
    have ⟨z1, zf1⟩ := k.cell_of Y3.out (i := 1) rfl
    go_wp2
    refine bodyPost_ret (v := .tuple #[.agg #[.slice none 0 0, .slice none 0 0], .slice none 0 0, .int .i64 1]) (by simp [results, Try.results9, go_sem, z0, z1]) rfl ⟨none, 0, 0, none, 0, 0, none, 0, 0, rfl, Rd.none_ _ _ _ _, Rd.none_ _ _ _ _, Rd.none_ _ _ _ _, (Y4.out.setCell (by show w.heap.size ≤ w.heap.size + 2; omega) _).setCell (by show w.heap.size ≤ w.heap.size + 2; omega) _⟩
set_option maxRecDepth 100000 in
set_option maxHeartbeats 4000000 in
theorem refadd_now (N W : List C) (c : C) {A A' : Option Addr} {n cap m cap' B : Nat} {w : World} (h : RdC w B A n cap N) (h2 : RdC w B A' m cap' W) (hB : B ≤ w.heap.size) (hn : n ≤ 1000) (hm : m ≤ 1000) (hr : RightL N W) (hc0 : c.mode = 0) :
    Calls Try.prog 9 #[lnV A n cap A' m cap', cV c] w (GotA [c] [] (ids (N ++ W)) 0 w) := by
  have h0 : rightL N W = true := right_yes hr
  clear hr
  have hq0 : (c.mode == 0) = true := by rw [hc0]; rfl
  have hq1 : 0 ≤ c.mode := by omega
  have hq2 : c.mode ≤ 5 := by omega
  clear hc0
  have HL := Lib.hid (show N.length ≤ 1000 ∧ W.length ≤ 1000 from ⟨by rw [h.1]; exact hn, by rw [h2.1]; exact hm⟩)
  have HC := Lib.hid fun W' (hb : Below B w W') => refright_any N W (h.below hb) (h2.below hb) (Nat.le_trans hB hb.size) hn hm
  have HR := Lib.hid (And.intro h (And.intro h2 hB))
  have HNM := Lib.hid (And.intro h.1 h2.1)
  clear h h2 hB
  unfold cV
  go_enter Try.func9, Try.ntmps9
  go_upto_region 1 with (fail)
  obtain ⟨x1, x2, x3, x4, x5⟩ := k.boxes3 (w := w) (c1 := #[.slice A n cap, .slice A' m cap']) (t1 := 24) (c2 := #[.int .i64 c.id, .int .i64 c.kind, .int .i64 c.tgt, .int .i64 c.spd, .int .i64 c.mode, .int .i64 c.num, .int .i64 c.den]) (t2 := 26) (c3 := #[.slice none 0 0, .slice none 0 0]) (t3 := 24) (Below.refl _ _)
  generalize ((w.alloc (.cells #[.slice A n cap, .slice A' m cap'] 24)).alloc (.cells #[.int .i64 c.id, .int .i64 c.kind, .int .i64 c.tgt, .int .i64 c.spd, .int .i64 c.mode, .int .i64 c.num, .int .i64 c.den] 26)).alloc (.cells #[.slice none 0 0, .slice none 0 0] 24) = w2 at x1 x2 x3 x4 x5 ⊢
  have X1 := Lib.hid x1
  have X2 := Lib.hid x2
  have X3 := Lib.hid x3
  have X4 := Lib.hid x4
  have ⟨c0, _⟩ := k.cell_of x1 (i := 0) rfl
  have ⟨c1, _⟩ := k.cell_of x1 (i := 1) rfl
  clear x1 x2 x3 x4
  go_upto_region 4 with (go_at_call 7; ((with_reducible refine (HC.out _ (X4.out.mono HR.out.2.2)).mono ?_); rintro e w3 ⟨rfl, hb⟩; have Y1 := Lib.hid (X1.out.below hb (by omega)); have Y2 := Lib.hid (X2.out.below hb (by omega)); have Y3 := Lib.hid (X3.out.below hb (by omega)); have Y4 := Lib.hid (X4.out.trans (hb.mono X4.out.size)); have y5 : w.heap.size + 2 < w3.heap.size := Nat.lt_of_lt_of_le x5 hb.size; clear hb c0 c1; have ⟨m4, _⟩ := k.cell_of Y2.out (i := 4) rfl))
  clear X1 X2 X3 X4 x5 HC
  have hT : ∀ w', k.Box w' w.heap.size 0 [.slice A n cap, .slice A' m cap'] → k.Box w' (w.heap.size + 1) 0 [.int .i64 c.id, .int .i64 c.kind, .int .i64 c.tgt, .int .i64 c.spd, .int .i64 c.mode, .int .i64 c.num, .int .i64 c.den] → w'.cell? ⟨w.heap.size, 0, none⟩ = some (.slice A n cap) ∧ w'.cell? ⟨w.heap.size, 1, none⟩ = some (.slice A' m cap') ∧ w'.rangeAt (w.heap.size + 1) 0 (cC c) := fun w' b1 b2 => ⟨(k.cell_of b1 (i := 0) rfl).1, (k.cell_of b1 (i := 1) rfl).1, b2.range⟩
  have Y1w3 := Y1
  have Y2w3 := Y2
  have Y3w3 := Y3
  have Y4w3 := Y4
  have y5w3 := y5
  clear Y1 Y2 Y3 Y4 y5 m4
  refine wp_region_T (by kernel_rfl) (fun w' => w'.cell? ⟨w.heap.size, 0, none⟩ = some (.slice A n cap) ∧ w'.cell? ⟨w.heap.size, 1, none⟩ = some (.slice A' m cap') ∧ w'.rangeAt (w.heap.size + 1) 0 (cC c)) [6] (hT w3 Y1w3.out Y2w3.out) (fun hHeld => ?_)
  refine wpAnyT_take (i := 0) (v := ?_) rfl (by kernel_rfl) (by kernel_rfl) (by kernel_rfl) (fun _ _ _ h => h) (Or.inl ⟨by rfl, ?_⟩) (by assumption) ?_
  rotate_left 1
  · intro w hSw; obtain ⟨s0, s1, s2⟩ := hSw; obtain ⟨y0, y1, y2, y3, y4, y5', y6⟩ := cells_com s2; simp only [Nat.zero_add] at y0 y1 y2 y3 y4 y5' y6; go_simp <;> (with_reducible rfl)
  try simp only [Act.put, List.setIfInBounds_toArray, List.set_cons_zero, List.set_cons_succ, List.getElem_toArray, List.getElem_cons_zero]
  refine wpAnyT_take (i := 3) (v := ?_) rfl (by kernel_rfl) (by kernel_rfl) (by kernel_rfl) (fun _ _ _ h => h) (Or.inl ⟨by rfl, ?_⟩) (by assumption) ?_
  rotate_left 1
  · intro w hSw; obtain ⟨s0, s1, s2⟩ := hSw; clear s2; go_simp <;> (with_reducible rfl)
  try simp only [Act.put, List.setIfInBounds_toArray, List.set_cons_zero, List.set_cons_succ, List.getElem_toArray, List.getElem_cons_succ, List.getElem_cons_zero]
  refine wpAnyT_ready (rs := [1]) (by kernel_rfl) (by simp) ?_
  refine AllReadyT.cons rfl (fun K hK => ?_) AllReadyT.nil
  go_simp
  have hb4 : Below w3.heap.size w3 (w3.alloc (.cells #[.int .i64 c.id, .int .i64 c.kind, .int .i64 c.tgt, .int .i64 c.spd, .int .i64 c.mode, .int .i64 c.num, .int .i64 c.den] 26)).drew := ((Below.refl _ _).alloc (Nat.le_refl _) _).drew
  have N4 : Hid (RdC (w3.alloc (.cells #[.int .i64 c.id, .int .i64 c.kind, .int .i64 c.tgt, .int .i64 c.spd, .int .i64 c.mode, .int .i64 c.num, .int .i64 c.den] 26)).drew (w3.alloc (.cells #[.int .i64 c.id, .int .i64 c.kind, .int .i64 c.tgt, .int .i64 c.spd, .int .i64 c.mode, .int .i64 c.num, .int .i64 c.den] 26)).drew.heap.size (some ⟨w3.heap.size, 0, none⟩) 1 1 [c]) := Lib.hid ((one_row w3 _ c _ rfl).more (by simp))
  generalize (w3.alloc (.cells #[.int .i64 c.id, .int .i64 c.kind, .int .i64 c.tgt, .int .i64 c.spd, .int .i64 c.mode, .int .i64 c.num, .int .i64 c.den] 26)).drew = w4 at hb4 N4 ⊢
  have Y1w4 := Lib.hid (Y1w3.out.below hb4 (by omega))
  have Y2w4 := Lib.hid (Y2w3.out.below hb4 (by omega))
  have Y3w4 := Lib.hid (Y3w3.out.below hb4 (by omega))
  have Y4w4 := Lib.hid (Y4w3.out.trans (hb4.mono Y4w3.out.size))
  have y5w4 : w.heap.size + 2 < w4.heap.size := Nat.lt_of_lt_of_le y5w3 hb4.size
  clear hb4
  refine hK.out _ _ (hT _ Y1w4.out Y2w4.out) (fun hHeld => ?_)
  clear hK K
  try simp only [Act.put, List.setIfInBounds_toArray, List.set_cons_zero, List.set_cons_succ, List.getElem_toArray, List.getElem_cons_succ, List.getElem_cons_zero]
  refine wpAnyT_ready (rs := [2]) (by kernel_rfl) (by simp) ?_
  refine AllReadyT.cons rfl (fun K hK => ?_) AllReadyT.nil
  go_simp
  (go_at_call 19; ((refine (of_any [c] N4.out (Nat.le_refl _) (by omega)).mono ?_); rintro e w5 ⟨D1, k1, d1, D2, k2, d2, rfl, hr1, hr2, hb5⟩))
  go_wp2_with fail
  have Y1w5 := Lib.hid (Y1w4.out.below hb5 (by omega))
  have Y2w5 := Lib.hid (Y2w4.out.below hb5 (by omega))
  have Y3w5 := Lib.hid (Y3w4.out.below hb5 (by omega))
  have Y4w5 := Lib.hid (Y4w4.out.trans (hb5.mono Y4w4.out.size))
  have y5w5 : w.heap.size + 2 < w5.heap.size := Nat.lt_of_lt_of_le y5w4 hb5.size
  have R1 := Lib.hid hr1
  have R2 := Lib.hid hr2
  have HS4 : Hid (w.heap.size + 2 < w4.heap.size) := Lib.hid y5w4
  clear hb5 hr1 hr2 N4
  refine hK.out _ _ (hT _ Y1w5.out Y2w5.out) (fun hHeld => ?_)
  clear hK K
  try simp only [Act.put, List.setIfInBounds_toArray, List.set_cons_zero, List.set_cons_succ, List.getElem_toArray, List.getElem_cons_succ, List.getElem_cons_zero]
  refine wpAnyT_ready (rs := [4]) (by kernel_rfl) (by simp) ?_
  refine AllReadyT.cons rfl (fun K hK => ?_) AllReadyT.nil
  go_simp
  (go_at_call 13; ((refine (list_any N W (HR.out.1.below (Y4w5.out.mono HR.out.2.2)) (HR.out.2.1.below (Y4w5.out.mono HR.out.2.2)) (Nat.le_trans HR.out.2.2 Y4w5.out.size) hn hm).mono ?_); rintro e w6 ⟨v6, rfl, ho6, hb6⟩))
  go_wp2_with fail
  have Y1w6 := Lib.hid (Y1w5.out.below hb6 (by omega))
  have Y2w6 := Lib.hid (Y2w5.out.below hb6 (by omega))
  have Y3w6 := Lib.hid (Y3w5.out.below hb6 (by omega))
  have Y4w6 := Lib.hid (Y4w5.out.trans (hb6.mono Y4w5.out.size))
  have y5w6 : w.heap.size + 2 < w6.heap.size := Nat.lt_of_lt_of_le y5w5 hb6.size
  have R1' := Lib.hid (R1.out.under hb6)
  have R2' := Lib.hid (R2.out.under hb6)
  obtain ⟨D3, k3, d3, rfl, hr3⟩ := oc_row ho6
  have R3 := Lib.hid hr3
  have HK3 := Lib.hid hr3.1
  clear hb6 hr3 ho6 R1 R2
  refine hK.out _ _ (hT _ Y1w6.out Y2w6.out) (fun hHeld => ?_)
  clear hK K
  try simp only [Act.put, List.setIfInBounds_toArray, List.set_cons_zero, List.set_cons_succ, List.getElem_toArray, List.getElem_cons_succ, List.getElem_cons_zero]
  refine wpAnyT_ready (rs := [5]) (by kernel_rfl) (by simp) ?_
  refine AllReadyT.cons rfl (fun K hK => ?_) AllReadyT.nil
  go_simp
  (go_at_call 18; ((refine (ids_any (N ++ W) R3.out (Nat.le_refl _) (by have := HK3.out; have := HL.out; simp at *; omega)).mono ?_); rintro e w7 ⟨v7, rfl, ho7, hb7⟩))
  go_wp2_with fail
  have Y1w7 := Lib.hid (Y1w6.out.below hb7 (by omega))
  have Y2w7 := Lib.hid (Y2w6.out.below hb7 (by omega))
  have Y3w7 := Lib.hid (Y3w6.out.below hb7 (by omega))
  have Y4w7 := Lib.hid (Y4w6.out.trans (hb7.mono Y4w6.out.size))
  have y5w7 : w.heap.size + 2 < w7.heap.size := Nat.lt_of_lt_of_le y5w6 hb7.size
  have Q1 := Lib.hid (R1'.out.under hb7)
  have Q2 := Lib.hid (R2'.out.under hb7)
  obtain ⟨D4, k4, d4, rfl⟩ := oi_val ho7
  have Q4 := Lib.hid ho7
  have HS6 : Hid (w.heap.size + 2 < w6.heap.size) := Lib.hid y5w6
  clear hb7 ho7 R1' R2'
  refine hK.out _ _ (hT _ Y1w7.out Y2w7.out) (fun hHeld => ?_)
  clear hK K
  try simp only [Act.put, List.setIfInBounds_toArray, List.set_cons_zero, List.set_cons_succ, List.getElem_toArray, List.getElem_cons_succ, List.getElem_cons_zero]
  have ⟨z0, zf0⟩ := k.cell_of Y3w7.out (i := 0) rfl
  have ⟨z1, zf1⟩ := k.cell_of Y3w7.out (i := 1) rfl
  refine wpAnyT_ready (rs := [6]) (by kernel_rfl) (by simp) ?_
  refine AllReadyT.spoilt rfl (by kernel_rfl) (fun K hK => ?_) AllReadyT.nil
  go_simp
  refine hK.out _ _ ?_
  clear hK K
  try simp only [Act.put, List.setIfInBounds_toArray, List.set_cons_zero, List.set_cons_succ, List.getElem_toArray, List.getElem_cons_succ, List.getElem_cons_zero]
  refine wpAnyT_ready (rs := [7]) (by kernel_rfl) (by simp) ?_
  refine AllReadyT.spoilt rfl (by kernel_rfl) (fun K hK => ?_) AllReadyT.nil
  go_simp
  refine hK.out _ _ ?_
  clear hK K
  try simp only [Act.put, List.setIfInBounds_toArray, List.set_cons_zero, List.set_cons_succ, List.getElem_toArray, List.getElem_cons_succ, List.getElem_cons_zero]
  refine wpAnyT_ready (rs := [8]) (by kernel_rfl) (by simp) ?_
  refine AllReadyT.spoilt rfl (by kernel_rfl) (fun K hK => ?_) AllReadyT.nil
  go_simp
  refine hK.out _ _ ?_
  clear hK K
  try simp only [Act.put, List.setIfInBounds_toArray, List.set_cons_zero, List.set_cons_succ, List.getElem_toArray, List.getElem_cons_succ, List.getElem_cons_zero]
  refine wpAnyT_done (by kernel_rfl) ?_ _
  go_wp2
  refine bodyPost_ret (v := .tuple #[lnV D1 k1 d1 D2 k2 d2, .slice D4 k4 d4, .int .i64 0]) (by simp [results, Try.results9, go_sem, z0, z1]) rfl ⟨_, _, _, _, _, _, _, _, _, rfl, ow_row (ow_set (ow_set Q1.out HS4.out _) HS4.out _), ow_row (ow_set (ow_set Q2.out HS4.out _) HS4.out _), oi_rows (ow_set (ow_set Q4.out HS6.out _) HS6.out _), (Y4w7.out.setCell (by show w.heap.size ≤ w.heap.size + 2; omega) _).setCell (by show w.heap.size ≤ w.heap.size + 2; omega) _⟩
set_option maxRecDepth 100000 in
set_option maxHeartbeats 4000000 in
theorem refadd_full (N W : List C) (c : C) {A A' : Option Addr} {n cap m cap' B : Nat} {w : World} (h : RdC w B A n cap N) (h2 : RdC w B A' m cap' W) (hB : B ≤ w.heap.size) (hn : n ≤ 1000) (hm : m ≤ 1000) (hr : RightL N W) (hk : OkC c) (hc0 : c.mode ≠ 0) (hf : 4 < (N ++ W).length) :
    Calls Try.prog 9 #[lnV A n cap A' m cap', cV c] w (GotA [] [] [] 8 w) := by
  have hq1 : 0 ≤ c.mode := hk.1
  have hq2 : c.mode ≤ 5 := hk.2
  have h0 : rightL N W = true := right_yes hr
  clear hr hk
  have hq0 : (c.mode == 0) = false := by rw [beq_eq_false_iff_ne]; exact hc0
  clear hc0
  have HF := Lib.hid hf
  clear hf
  have HL := Lib.hid (show N.length ≤ 1000 ∧ W.length ≤ 1000 from ⟨by rw [h.1]; exact hn, by rw [h2.1]; exact hm⟩)
  have HC := Lib.hid fun W' (hb : Below B w W') => refright_any N W (h.below hb) (h2.below hb) (Nat.le_trans hB hb.size) hn hm
  have HR := Lib.hid (And.intro h (And.intro h2 hB))
  have HNM := Lib.hid (And.intro h.1 h2.1)
  clear h h2 hB
  unfold cV
  go_enter Try.func9, Try.ntmps9
  go_upto_region 1 with (fail)
  obtain ⟨x1, x2, x3, x4, x5⟩ := k.boxes3 (w := w) (c1 := #[.slice A n cap, .slice A' m cap']) (t1 := 24) (c2 := #[.int .i64 c.id, .int .i64 c.kind, .int .i64 c.tgt, .int .i64 c.spd, .int .i64 c.mode, .int .i64 c.num, .int .i64 c.den]) (t2 := 26) (c3 := #[.slice none 0 0, .slice none 0 0]) (t3 := 24) (Below.refl _ _)
  generalize ((w.alloc (.cells #[.slice A n cap, .slice A' m cap'] 24)).alloc (.cells #[.int .i64 c.id, .int .i64 c.kind, .int .i64 c.tgt, .int .i64 c.spd, .int .i64 c.mode, .int .i64 c.num, .int .i64 c.den] 26)).alloc (.cells #[.slice none 0 0, .slice none 0 0] 24) = w2 at x1 x2 x3 x4 x5 ⊢
  have X1 := Lib.hid x1
  have X2 := Lib.hid x2
  have X3 := Lib.hid x3
  have X4 := Lib.hid x4
  have ⟨c0, _⟩ := k.cell_of x1 (i := 0) rfl
  have ⟨c1, _⟩ := k.cell_of x1 (i := 1) rfl
  clear x1 x2 x3 x4
  go_upto_region 5 with (go_at_call 7; ((with_reducible refine (HC.out _ (X4.out.mono HR.out.2.2)).mono ?_); rintro e w3 ⟨rfl, hb⟩; have Y1 := Lib.hid (X1.out.below hb (by omega)); have Y2 := Lib.hid (X2.out.below hb (by omega)); have Y3 := Lib.hid (X3.out.below hb (by omega)); have Y4 := Lib.hid (X4.out.trans (hb.mono X4.out.size)); have y5 : w.heap.size + 2 < w3.heap.size := Nat.lt_of_lt_of_le x5 hb.size; clear hb c0 c1; have ⟨m4, _⟩ := k.cell_of Y2.out (i := 4) rfl))
  clear X1 X2 X3 X4 x5 HC
  have Y1w3 := Y1
  have Y2w3 := Y2
  have Y3w3 := Y3
  have Y4w3 := Y4
  have y5w3 := y5
  clear Y1 Y2 Y3 Y4 y5 m4
  have ⟨c0, _⟩ := k.cell_of Y1w3.out (i := 0) rfl
  have ⟨c1, _⟩ := k.cell_of Y1w3.out (i := 1) rfl
  go_wp2_with (go_at_call 13; fail)
  go_at_call 13; ((refine (list_any N W (HR.out.1.below (Y4w3.out.mono HR.out.2.2)) (HR.out.2.1.below (Y4w3.out.mono HR.out.2.2)) (Nat.le_trans HR.out.2.2 Y4w3.out.size) hn hm).mono ?_); rintro e w4 ⟨v4, rfl, ho4, hb4⟩; obtain ⟨D3, k3, d3, rfl, hr3⟩ := oc_row ho4; have hk3 := hr3.1; clear hr3 ho4)
  have Y1w4 := Lib.hid (Y1w3.out.below hb4 (by omega))
  have Y2w4 := Lib.hid (Y2w3.out.below hb4 (by omega))
  have Y3w4 := Lib.hid (Y3w3.out.below hb4 (by omega))
  have Y4w4 := Lib.hid (Y4w3.out.trans (hb4.mono Y4w3.out.size))
  have y5w4 : w.heap.size + 2 < w4.heap.size := Nat.lt_of_lt_of_le y5w3 hb4.size
  have hi : (4 : Int) < (k3 : Int) := by have := HF.out; omega
  clear hb4 c0 c1 hk3
  have ⟨z0, zf0⟩ := k.cell_of Y3w4.out (i := 0) rfl
  have ⟨z1, zf1⟩ := k.cell_of Y3w4.out (i := 1) rfl
  go_wp2
  refine bodyPost_ret (v := .tuple #[.agg #[.slice none 0 0, .slice none 0 0], .slice none 0 0, .int .i64 8]) (by simp [results, Try.results9, go_sem, z0, z1]) rfl ⟨none, 0, 0, none, 0, 0, none, 0, 0, rfl, Rd.none_ _ _ _ _, Rd.none_ _ _ _ _, Rd.none_ _ _ _ _, (Y4w4.out.setCell (by show w.heap.size ≤ w.heap.size + 2; omega) _).setCell (by show w.heap.size ≤ w.heap.size + 2; omega) _⟩
set_option maxRecDepth 100000 in
set_option maxHeartbeats 4000000 in
theorem refadd_more (N W : List C) (c : C) {A A' : Option Addr} {n cap m cap' B : Nat} {w : World} (h : RdC w B A n cap N) (h2 : RdC w B A' m cap' W) (hB : B ≤ w.heap.size) (hn : n ≤ 1000) (hm : m ≤ 1000) (hr : RightL N W) (hk : OkC c) (hc0 : c.mode ≠ 0) (hf : (N ++ W).length ≤ 4) :
    Calls Try.prog 9 #[lnV A n cap A' m cap', cV c] w (GotA ((N ++ W ++ [c]).take 1) ((N ++ W ++ [c]).drop 1) [] 0 w) := by
  have hq1 : 0 ≤ c.mode := hk.1
  have hq2 : c.mode ≤ 5 := hk.2
  have h0 : rightL N W = true := right_yes hr
  clear hr hk
  have hq0 : (c.mode == 0) = false := by rw [beq_eq_false_iff_ne]; exact hc0
  clear hc0
  have HF := Lib.hid hf
  clear hf
  have HL := Lib.hid (show N.length ≤ 1000 ∧ W.length ≤ 1000 from ⟨by rw [h.1]; exact hn, by rw [h2.1]; exact hm⟩)
  have HC := Lib.hid fun W' (hb : Below B w W') => refright_any N W (h.below hb) (h2.below hb) (Nat.le_trans hB hb.size) hn hm
  have HR := Lib.hid (And.intro h (And.intro h2 hB))
  have HNM := Lib.hid (And.intro h.1 h2.1)
  clear h h2 hB
  unfold cV
  go_enter Try.func9, Try.ntmps9
  go_upto_region 1 with (fail)
  obtain ⟨x1, x2, x3, x4, x5⟩ := k.boxes3 (w := w) (c1 := #[.slice A n cap, .slice A' m cap']) (t1 := 24) (c2 := #[.int .i64 c.id, .int .i64 c.kind, .int .i64 c.tgt, .int .i64 c.spd, .int .i64 c.mode, .int .i64 c.num, .int .i64 c.den]) (t2 := 26) (c3 := #[.slice none 0 0, .slice none 0 0]) (t3 := 24) (Below.refl _ _)
  generalize ((w.alloc (.cells #[.slice A n cap, .slice A' m cap'] 24)).alloc (.cells #[.int .i64 c.id, .int .i64 c.kind, .int .i64 c.tgt, .int .i64 c.spd, .int .i64 c.mode, .int .i64 c.num, .int .i64 c.den] 26)).alloc (.cells #[.slice none 0 0, .slice none 0 0] 24) = w2 at x1 x2 x3 x4 x5 ⊢
  have X1 := Lib.hid x1
  have X2 := Lib.hid x2
  have X3 := Lib.hid x3
  have X4 := Lib.hid x4
  have ⟨c0, _⟩ := k.cell_of x1 (i := 0) rfl
  have ⟨c1, _⟩ := k.cell_of x1 (i := 1) rfl
  clear x1 x2 x3 x4
  go_upto_region 5 with (go_at_call 7; ((with_reducible refine (HC.out _ (X4.out.mono HR.out.2.2)).mono ?_); rintro e w3 ⟨rfl, hb⟩; have Y1 := Lib.hid (X1.out.below hb (by omega)); have Y2 := Lib.hid (X2.out.below hb (by omega)); have Y3 := Lib.hid (X3.out.below hb (by omega)); have Y4 := Lib.hid (X4.out.trans (hb.mono X4.out.size)); have y5 : w.heap.size + 2 < w3.heap.size := Nat.lt_of_lt_of_le x5 hb.size; clear hb c0 c1; have ⟨m4, _⟩ := k.cell_of Y2.out (i := 4) rfl))
  clear X1 X2 X3 X4 x5 HC
  have Y1w3 := Y1
  have Y2w3 := Y2
  have Y3w3 := Y3
  have Y4w3 := Y4
  have y5w3 := y5
  clear Y1 Y2 Y3 Y4 y5 m4
  have ⟨c0, _⟩ := k.cell_of Y1w3.out (i := 0) rfl
  have ⟨c1, _⟩ := k.cell_of Y1w3.out (i := 1) rfl
  go_wp2_with (go_at_call 13; fail)
  go_at_call 13; ((refine (list_any N W (HR.out.1.below (Y4w3.out.mono HR.out.2.2)) (HR.out.2.1.below (Y4w3.out.mono HR.out.2.2)) (Nat.le_trans HR.out.2.2 Y4w3.out.size) hn hm).mono ?_); rintro e w4 ⟨v4, rfl, ho4, hb4⟩; obtain ⟨D3, k3, d3, rfl, hr3⟩ := oc_row ho4; have hk3 := hr3.1; clear hr3 ho4)
  have Y1w4 := Lib.hid (Y1w3.out.below hb4 (by omega))
  have Y2w4 := Lib.hid (Y2w3.out.below hb4 (by omega))
  have Y3w4 := Lib.hid (Y3w3.out.below hb4 (by omega))
  have Y4w4 := Lib.hid (Y4w3.out.trans (hb4.mono Y4w3.out.size))
  have y5w4 : w.heap.size + 2 < w4.heap.size := Nat.lt_of_lt_of_le y5w3 hb4.size
  have hi : (k3 : Int) ≤ 4 := by have := HF.out; omega
  clear hb4 c0 c1 hk3
  go_upto_region 7 with (fail)
  have hT : ∀ w', k.Box w' w.heap.size 0 [.slice A n cap, .slice A' m cap'] → k.Box w' (w.heap.size + 1) 0 [.int .i64 c.id, .int .i64 c.kind, .int .i64 c.tgt, .int .i64 c.spd, .int .i64 c.mode, .int .i64 c.num, .int .i64 c.den] → w'.cell? ⟨w.heap.size, 0, none⟩ = some (.slice A n cap) ∧ w'.cell? ⟨w.heap.size, 1, none⟩ = some (.slice A' m cap') ∧ w'.rangeAt (w.heap.size + 1) 0 (cC c) := fun w' b1 b2 => ⟨(k.cell_of b1 (i := 0) rfl).1, (k.cell_of b1 (i := 1) rfl).1, b2.range⟩
  refine wp_region_T (by kernel_rfl) (fun w' => w'.cell? ⟨w.heap.size, 0, none⟩ = some (.slice A n cap) ∧ w'.cell? ⟨w.heap.size, 1, none⟩ = some (.slice A' m cap') ∧ w'.rangeAt (w.heap.size + 1) 0 (cC c)) [6] (hT w4 Y1w4.out Y2w4.out) (fun hHeld => ?_)
  refine wpAnyT_take (i := 0) (v := ?_) rfl (by kernel_rfl) (by kernel_rfl) (by kernel_rfl) (fun _ _ _ h => h) (Or.inl ⟨by rfl, ?_⟩) (by assumption) ?_
  rotate_left 1
  · intro w hSw; obtain ⟨s0, s1, s2⟩ := hSw; clear s2; go_simp <;> (with_reducible rfl)
  try simp only [Act.put, List.setIfInBounds_toArray, List.set_cons_zero, List.set_cons_succ, List.getElem_toArray, List.getElem_cons_zero]
  refine wpAnyT_take (i := 2) (v := ?_) rfl (by kernel_rfl) (by kernel_rfl) (by kernel_rfl) (fun _ _ _ h => h) (Or.inl ⟨by rfl, ?_⟩) (by assumption) ?_
  rotate_left 1
  · intro w hSw; obtain ⟨s0, s1, s2⟩ := hSw; obtain ⟨y0, y1, y2, y3, y4, y5', y6⟩ := cells_com s2; simp only [Nat.zero_add] at y0 y1 y2 y3 y4 y5' y6; go_simp <;> (with_reducible rfl)
  try simp only [Act.put, List.setIfInBounds_toArray, List.set_cons_zero, List.set_cons_succ, List.getElem_toArray, List.getElem_cons_succ, List.getElem_cons_zero]
  refine wpAnyT_ready (rs := [1, 3]) (by kernel_rfl) (by simp) ?_
  refine AllReadyT.cons rfl (fun K hK => ?_) (AllReadyT.cons rfl (fun K hK => ?_) AllReadyT.nil)
  · go_simp
    have hbD : Below w4.heap.size w4 w4.drew := (Below.refl _ _).drew
    clear hHeld
    generalize w4.drew = wD at hbD ⊢
    have Y1wD := Lib.hid (Y1w4.out.below hbD (by omega))
    have Y2wD := Lib.hid (Y2w4.out.below hbD (by omega))
    have Y3wD := Lib.hid (Y3w4.out.below hbD (by omega))
    have Y4wD := Lib.hid (Y4w4.out.trans (hbD.mono Y4w4.out.size))
    have y5wD : w.heap.size + 2 < wD.heap.size := Nat.lt_of_lt_of_le y5w4 hbD.size
    clear hbD
    (go_at_call 13; ((refine (list_any N W (HR.out.1.below (Y4wD.out.mono HR.out.2.2)) (HR.out.2.1.below (Y4wD.out.mono HR.out.2.2)) (Nat.le_trans HR.out.2.2 Y4wD.out.size) hn hm).mono ?_); rintro e w5 ⟨vL, rfl, hoL, hbL⟩))
    go_wp2_with fail
    have Y1w5 := Lib.hid (Y1wD.out.below hbL (by omega))
    have Y2w5 := Lib.hid (Y2wD.out.below hbL (by omega))
    have Y3w5 := Lib.hid (Y3wD.out.below hbL (by omega))
    have Y4w5 := Lib.hid (Y4wD.out.trans (hbL.mono Y4wD.out.size))
    have y5w5 : w.heap.size + 2 < w5.heap.size := Nat.lt_of_lt_of_le y5wD hbL.size
    obtain ⟨DL, kL, dL, rfl⟩ := ow_form hoL
    have OL := Lib.hid (hoL.base (show w.heap.size + 3 ≤ wD.heap.size by omega))
    clear hoL hbL
    refine hK.out _ _ (hT _ Y1w5.out Y2w5.out) (fun hHeld => ?_)
    clear hK K
    try simp only [Act.put, List.setIfInBounds_toArray, List.set_cons_zero, List.set_cons_succ, List.getElem_toArray, List.getElem_cons_succ, List.getElem_cons_zero]
    refine wpAnyT_ready (rs := [3]) (by kernel_rfl) (by simp) ?_
    refine AllReadyT.cons rfl (fun K hK => ?_) AllReadyT.nil
    go_simp
    have hbB : Below w5.heap.size w5 (w5.alloc (.cells #[.int .i64 c.id, .int .i64 c.kind, .int .i64 c.tgt, .int .i64 c.spd, .int .i64 c.mode, .int .i64 c.num, .int .i64 c.den] 26)) := ((Below.refl _ _).alloc (Nat.le_refl _) _)
    have NB : Hid (RdC (w5.alloc (.cells #[.int .i64 c.id, .int .i64 c.kind, .int .i64 c.tgt, .int .i64 c.spd, .int .i64 c.mode, .int .i64 c.num, .int .i64 c.den] 26)) (w5.alloc (.cells #[.int .i64 c.id, .int .i64 c.kind, .int .i64 c.tgt, .int .i64 c.spd, .int .i64 c.mode, .int .i64 c.num, .int .i64 c.den] 26)).heap.size (some ⟨w5.heap.size, 0, none⟩) 1 1 [c]) := Lib.hid ((one_row w5 _ c _ rfl).more (by simp))
    generalize (w5.alloc (.cells #[.int .i64 c.id, .int .i64 c.kind, .int .i64 c.tgt, .int .i64 c.spd, .int .i64 c.mode, .int .i64 c.num, .int .i64 c.den] 26)) = w6 at hbB NB ⊢
    have Y1w6 := Lib.hid (Y1w5.out.below hbB (by omega))
    have Y2w6 := Lib.hid (Y2w5.out.below hbB (by omega))
    have Y3w6 := Lib.hid (Y3w5.out.below hbB (by omega))
    have Y4w6 := Lib.hid (Y4w5.out.trans (hbB.mono Y4w5.out.size))
    have y5w6 : w.heap.size + 2 < w6.heap.size := Nat.lt_of_lt_of_le y5w5 hbB.size
    have OL := Lib.hid (OL.out.under hbB)
    clear hbB
    refine hK.out _ _ (hT _ Y1w6.out Y2w6.out) (fun hHeld => ?_)
    clear hK K
    try simp only [Act.put, List.setIfInBounds_toArray, List.set_cons_zero, List.set_cons_succ, List.getElem_toArray, List.getElem_cons_succ, List.getElem_cons_zero]
    refine wpAnyT_ready (rs := [4]) (by kernel_rfl) (by simp) ?_
    refine AllReadyT.cons rfl (fun K hK => ?_) AllReadyT.nil
    refine step_append_row cC_len (by omega) cC_one coms_slice com_info rfl (by omega) w6 rfl (.tmp 36) (.tmp 38) rfl (w.heap.size + 3) (.slice DL kL dL) (N ++ W) rfl OL.out w6.heap.size (some ⟨w5.heap.size, 0, none⟩) 1 1 [c] rfl NB.out (by have := HF.out; simp at *; omega) (by omega) ?_
    intro vM wM hown hg hat
    have hbM : Below (w.heap.size + 3) w6 wM := OL.out.lays (Below.refl _ _) (Nat.le_refl _) (by omega) hg
    have Y1wM := Lib.hid (Y1w6.out.below hbM (by omega))
    have Y2wM := Lib.hid (Y2w6.out.below hbM (by omega))
    have Y3wM := Lib.hid (Y3w6.out.below hbM (by omega))
    have Y4wM := Lib.hid (Y4w6.out.trans (hbM.mono (by omega)))
    have y5wM : w.heap.size + 2 < wM.heap.size := Nat.lt_of_lt_of_le y5w6 hbM.size
    obtain ⟨DM, kM, dM, rfl, hrM⟩ := oc_row hown
    have RM := Lib.hid hrM
    have HKM := Lib.hid hrM.1
    clear hown hg hat hbM hrM OL NB
    refine hK.out _ _ (hT _ Y1wM.out Y2wM.out) (fun hHeld => ?_)
    clear hK K
    try simp only [Act.put, List.setIfInBounds_toArray, List.set_cons_zero, List.set_cons_succ, List.getElem_toArray, List.getElem_cons_succ, List.getElem_cons_zero]
    refine wpAnyT_ready (rs := [5]) (by kernel_rfl) (by simp) ?_
    refine AllReadyT.cons rfl (fun K hK => ?_) AllReadyT.nil
    go_simp
    (go_at_call 19; ((refine (of_any (N ++ W ++ [c]) RM.out (Nat.le_refl _) (by have := HKM.out; have := HF.out; simp at *; omega)).mono ?_); rintro e wO ⟨D1, k1, d1, D2, k2, d2, rfl, hr1, hr2, hbO⟩))
    go_wp2_with fail
    have Y1wO := Lib.hid (Y1wM.out.below hbO (by omega))
    have Y2wO := Lib.hid (Y2wM.out.below hbO (by omega))
    have Y3wO := Lib.hid (Y3wM.out.below hbO (by omega))
    have Y4wO := Lib.hid (Y4wM.out.trans (hbO.mono Y4wM.out.size))
    have y5wO : w.heap.size + 2 < wO.heap.size := Nat.lt_of_lt_of_le y5wM hbO.size
    have Q1 := Lib.hid hr1
    have Q2 := Lib.hid hr2
    have HS4 : Hid (w.heap.size + 2 < wM.heap.size) := Lib.hid y5wM
    clear hbO hr1 hr2 RM
    refine hK.out _ _ (hT _ Y1wO.out Y2wO.out) (fun hHeld => ?_)
    clear hK K
    try simp only [Act.put, List.setIfInBounds_toArray, List.set_cons_zero, List.set_cons_succ, List.getElem_toArray, List.getElem_cons_succ, List.getElem_cons_zero]
    have ⟨z0, zf0⟩ := k.cell_of Y3wO.out (i := 0) rfl
    have ⟨z1, zf1⟩ := k.cell_of Y3wO.out (i := 1) rfl
    refine wpAnyT_ready (rs := [6]) (by kernel_rfl) (by simp) ?_
    refine AllReadyT.spoilt rfl (by kernel_rfl) (fun K hK => ?_) AllReadyT.nil
    go_simp
    refine hK.out _ _ ?_
    clear hK K
    try simp only [Act.put, List.setIfInBounds_toArray, List.set_cons_zero, List.set_cons_succ, List.getElem_toArray, List.getElem_cons_succ, List.getElem_cons_zero]
    refine wpAnyT_ready (rs := [7]) (by kernel_rfl) (by simp) ?_
    refine AllReadyT.spoilt rfl (by kernel_rfl) (fun K hK => ?_) AllReadyT.nil
    go_simp
    refine hK.out _ _ ?_
    clear hK K
    try simp only [Act.put, List.setIfInBounds_toArray, List.set_cons_zero, List.set_cons_succ, List.getElem_toArray, List.getElem_cons_succ, List.getElem_cons_zero]
    refine wpAnyT_ready (rs := [8]) (by kernel_rfl) (by simp) ?_
    refine AllReadyT.spoilt rfl (by kernel_rfl) (fun K hK => ?_) AllReadyT.nil
    go_simp
    refine hK.out _ _ ?_
    clear hK K
    try simp only [Act.put, List.setIfInBounds_toArray, List.set_cons_zero, List.set_cons_succ, List.getElem_toArray, List.getElem_cons_succ, List.getElem_cons_zero]
    refine wpAnyT_done (by kernel_rfl) ?_ _
    go_wp2
    refine bodyPost_ret (v := .tuple #[lnV D1 k1 d1 D2 k2 d2, .slice none 0 0, .int .i64 0]) (by simp [results, Try.results9, go_sem, z0, z1]) rfl ⟨_, _, _, _, _, _, _, _, _, rfl, ow_row (ow_set (ow_set Q1.out HS4.out _) HS4.out _), ow_row (ow_set (ow_set Q2.out HS4.out _) HS4.out _), Rd.none_ _ _ _ _, (Y4wO.out.setCell (by show w.heap.size ≤ w.heap.size + 2; omega) _).setCell (by show w.heap.size ≤ w.heap.size + 2; omega) _⟩
  · skip
    go_simp
    have hbB : Below w4.heap.size w4 (w4.alloc (.cells #[.int .i64 c.id, .int .i64 c.kind, .int .i64 c.tgt, .int .i64 c.spd, .int .i64 c.mode, .int .i64 c.num, .int .i64 c.den] 26)).drew := ((Below.refl _ _).alloc (Nat.le_refl _) _).drew
    have NB : Hid (RdC (w4.alloc (.cells #[.int .i64 c.id, .int .i64 c.kind, .int .i64 c.tgt, .int .i64 c.spd, .int .i64 c.mode, .int .i64 c.num, .int .i64 c.den] 26)).drew (w4.alloc (.cells #[.int .i64 c.id, .int .i64 c.kind, .int .i64 c.tgt, .int .i64 c.spd, .int .i64 c.mode, .int .i64 c.num, .int .i64 c.den] 26)).drew.heap.size (some ⟨w4.heap.size, 0, none⟩) 1 1 [c]) := Lib.hid ((one_row w4 _ c _ rfl).more (by simp))
    generalize (w4.alloc (.cells #[.int .i64 c.id, .int .i64 c.kind, .int .i64 c.tgt, .int .i64 c.spd, .int .i64 c.mode, .int .i64 c.num, .int .i64 c.den] 26)).drew = w5 at hbB NB ⊢
    have Y1w5 := Lib.hid (Y1w4.out.below hbB (by omega))
    have Y2w5 := Lib.hid (Y2w4.out.below hbB (by omega))
    have Y3w5 := Lib.hid (Y3w4.out.below hbB (by omega))
    have Y4w5 := Lib.hid (Y4w4.out.trans (hbB.mono Y4w4.out.size))
    have y5w5 : w.heap.size + 2 < w5.heap.size := Nat.lt_of_lt_of_le y5w4 hbB.size
    clear hbB
    refine hK.out _ _ (hT _ Y1w5.out Y2w5.out) (fun hHeld => ?_)
    clear hK K
    try simp only [Act.put, List.setIfInBounds_toArray, List.set_cons_zero, List.set_cons_succ, List.getElem_toArray, List.getElem_cons_succ, List.getElem_cons_zero]
    refine wpAnyT_ready (rs := [1]) (by kernel_rfl) (by simp) ?_
    refine AllReadyT.cons rfl (fun K hK => ?_) AllReadyT.nil
    go_simp
    (go_at_call 13; ((refine (list_any N W (HR.out.1.below (Y4w5.out.mono HR.out.2.2)) (HR.out.2.1.below (Y4w5.out.mono HR.out.2.2)) (Nat.le_trans HR.out.2.2 Y4w5.out.size) hn hm).mono ?_); rintro e w6 ⟨vL, rfl, hoL, hbL⟩))
    go_wp2_with fail
    have Y1w6 := Lib.hid (Y1w5.out.below hbL (by omega))
    have Y2w6 := Lib.hid (Y2w5.out.below hbL (by omega))
    have Y3w6 := Lib.hid (Y3w5.out.below hbL (by omega))
    have Y4w6 := Lib.hid (Y4w5.out.trans (hbL.mono Y4w5.out.size))
    have y5w6 : w.heap.size + 2 < w6.heap.size := Nat.lt_of_lt_of_le y5w5 hbL.size
    obtain ⟨DL, kL, dL, rfl⟩ := ow_form hoL
    have OL := Lib.hid (hoL.base (show w.heap.size + 3 ≤ w5.heap.size by omega))
    have NB := Lib.hid ((NB.out.below hbL).more hbL.size)
    clear hoL hbL
    refine hK.out _ _ (hT _ Y1w6.out Y2w6.out) (fun hHeld => ?_)
    clear hK K
    try simp only [Act.put, List.setIfInBounds_toArray, List.set_cons_zero, List.set_cons_succ, List.getElem_toArray, List.getElem_cons_succ, List.getElem_cons_zero]
    refine wpAnyT_ready (rs := [4]) (by kernel_rfl) (by simp) ?_
    refine AllReadyT.cons rfl (fun K hK => ?_) AllReadyT.nil
    refine step_append_row cC_len (by omega) cC_one coms_slice com_info rfl (by omega) w6 rfl (.tmp 36) (.tmp 38) rfl (w.heap.size + 3) (.slice DL kL dL) (N ++ W) rfl OL.out w6.heap.size (some ⟨w4.heap.size, 0, none⟩) 1 1 [c] rfl NB.out (by have := HF.out; simp at *; omega) (by omega) ?_
    intro vM wM hown hg hat
    have hbM : Below (w.heap.size + 3) w6 wM := OL.out.lays (Below.refl _ _) (Nat.le_refl _) (by omega) hg
    have Y1wM := Lib.hid (Y1w6.out.below hbM (by omega))
    have Y2wM := Lib.hid (Y2w6.out.below hbM (by omega))
    have Y3wM := Lib.hid (Y3w6.out.below hbM (by omega))
    have Y4wM := Lib.hid (Y4w6.out.trans (hbM.mono (by omega)))
    have y5wM : w.heap.size + 2 < wM.heap.size := Nat.lt_of_lt_of_le y5w6 hbM.size
    obtain ⟨DM, kM, dM, rfl, hrM⟩ := oc_row hown
    have RM := Lib.hid hrM
    have HKM := Lib.hid hrM.1
    clear hown hg hat hbM hrM OL NB
    refine hK.out _ _ (hT _ Y1wM.out Y2wM.out) (fun hHeld => ?_)
    clear hK K
    try simp only [Act.put, List.setIfInBounds_toArray, List.set_cons_zero, List.set_cons_succ, List.getElem_toArray, List.getElem_cons_succ, List.getElem_cons_zero]
    refine wpAnyT_ready (rs := [5]) (by kernel_rfl) (by simp) ?_
    refine AllReadyT.cons rfl (fun K hK => ?_) AllReadyT.nil
    go_simp
    (go_at_call 19; ((refine (of_any (N ++ W ++ [c]) RM.out (Nat.le_refl _) (by have := HKM.out; have := HF.out; simp at *; omega)).mono ?_); rintro e wO ⟨D1, k1, d1, D2, k2, d2, rfl, hr1, hr2, hbO⟩))
    go_wp2_with fail
    have Y1wO := Lib.hid (Y1wM.out.below hbO (by omega))
    have Y2wO := Lib.hid (Y2wM.out.below hbO (by omega))
    have Y3wO := Lib.hid (Y3wM.out.below hbO (by omega))
    have Y4wO := Lib.hid (Y4wM.out.trans (hbO.mono Y4wM.out.size))
    have y5wO : w.heap.size + 2 < wO.heap.size := Nat.lt_of_lt_of_le y5wM hbO.size
    have Q1 := Lib.hid hr1
    have Q2 := Lib.hid hr2
    have HS4 : Hid (w.heap.size + 2 < wM.heap.size) := Lib.hid y5wM
    clear hbO hr1 hr2 RM
    refine hK.out _ _ (hT _ Y1wO.out Y2wO.out) (fun hHeld => ?_)
    clear hK K
    try simp only [Act.put, List.setIfInBounds_toArray, List.set_cons_zero, List.set_cons_succ, List.getElem_toArray, List.getElem_cons_succ, List.getElem_cons_zero]
    have ⟨z0, zf0⟩ := k.cell_of Y3wO.out (i := 0) rfl
    have ⟨z1, zf1⟩ := k.cell_of Y3wO.out (i := 1) rfl
    refine wpAnyT_ready (rs := [6]) (by kernel_rfl) (by simp) ?_
    refine AllReadyT.spoilt rfl (by kernel_rfl) (fun K hK => ?_) AllReadyT.nil
    go_simp
    refine hK.out _ _ ?_
    clear hK K
    try simp only [Act.put, List.setIfInBounds_toArray, List.set_cons_zero, List.set_cons_succ, List.getElem_toArray, List.getElem_cons_succ, List.getElem_cons_zero]
    refine wpAnyT_ready (rs := [7]) (by kernel_rfl) (by simp) ?_
    refine AllReadyT.spoilt rfl (by kernel_rfl) (fun K hK => ?_) AllReadyT.nil
    go_simp
    refine hK.out _ _ ?_
    clear hK K
    try simp only [Act.put, List.setIfInBounds_toArray, List.set_cons_zero, List.set_cons_succ, List.getElem_toArray, List.getElem_cons_succ, List.getElem_cons_zero]
    refine wpAnyT_ready (rs := [8]) (by kernel_rfl) (by simp) ?_
    refine AllReadyT.spoilt rfl (by kernel_rfl) (fun K hK => ?_) AllReadyT.nil
    go_simp
    refine hK.out _ _ ?_
    clear hK K
    try simp only [Act.put, List.setIfInBounds_toArray, List.set_cons_zero, List.set_cons_succ, List.getElem_toArray, List.getElem_cons_succ, List.getElem_cons_zero]
    refine wpAnyT_done (by kernel_rfl) ?_ _
    go_wp2
    refine bodyPost_ret (v := .tuple #[lnV D1 k1 d1 D2 k2 d2, .slice none 0 0, .int .i64 0]) (by simp [results, Try.results9, go_sem, z0, z1]) rfl ⟨_, _, _, _, _, _, _, _, _, rfl, ow_row (ow_set (ow_set Q1.out HS4.out _) HS4.out _), ow_row (ow_set (ow_set Q2.out HS4.out _) HS4.out _), Rd.none_ _ _ _ _, (Y4wO.out.setCell (by show w.heap.size ≤ w.heap.size + 2; omega) _).setCell (by show w.heap.size ≤ w.heap.size + 2; omega) _⟩
end Go.Proofs.Ytnghifbkiipigaa.ln
