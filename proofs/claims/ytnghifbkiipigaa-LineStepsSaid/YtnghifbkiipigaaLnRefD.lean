/- What servitorref12's Of answers; what was in memory is as it was. No condition but that the row is read where it lies. -/
import Derived.Test.YtnghifbkiipigaaLnRefC
import Derived.Test.YtnghifbkiipigaaKOrd
namespace Go.Proofs.Ytnghifbkiipigaa.ln
open Go.ChangeShapes Go.WideShapes Go.ChangeAt Go.RowKit Go.Proofs.Ytnghifbkiipigaa.k Go.Proofs.Ytnghifbkiipigaa.rr
set_option linter.unusedVariables false

/-- a line of its own that a call answers -/
def GotO (N W : List C) (w : World) (e : Ending) (w' : World) : Prop := ∃ A n c A' m c', e = .returned (lnV A n c A' m c') ∧ OwC w' w.heap.size (.slice A n c) N ∧ OwC w' w.heap.size (.slice A' m c') W ∧ Below w.heap.size w w'
theorem take_snoc {α : Type} {L : List α} {j : Nat} {x : α} (h : L[j]? = some x) : L.take (j + 1) = L.take j ++ [x] := by
  have hj : j < L.length := (List.getElem?_eq_some_iff.1 h).1
  have e : L[j] = x := by rw [List.getElem?_eq_getElem hj] at h; injection h
  rw [List.take_succ_eq_append_getElem hj, e]
theorem rest_snoc {α : Type} {L : List α} {j : Nat} {x : α} (h : L[j]? = some x) (h1 : 1 ≤ j) : (L.take (j + 1)).drop 1 = (L.take j).drop 1 ++ [x] := by
  have hj : j < L.length := (List.getElem?_eq_some_iff.1 h).1
  rw [take_snoc h, List.drop_append_of_le_length (by rw [List.length_take]; omega)]
theorem first_snoc {α : Type} {L : List α} {j : Nat} (h1 : 1 ≤ j) : L.take (min (j + 1) 1) = L.take (min j 1) := by rw [Nat.min_eq_right (by omega), Nat.min_eq_right h1]
theorem ow_set {α : Type} {enc : α → List Value} {z : Nat} {t : TypeId} {w : World} {base g i : Nat} {u : Value} {l : List α} (h : Ow enc z t w base u l) (hg : g < base) (x : Value) : Ow enc z t (w.setCell ⟨g, i, none⟩ x) base u l :=
  h.kept (row := some g) ⟨rfl, rfl, rfl, by simp, fun k hk hne2 => Below.heap_setCell w _ x k (fun e => hne2 (by rw [e]))⟩ (by
    cases hu : u.ownBlock with
    | none => exact .inl rfl
    | some b => exact .inr fun e => by injection e with e; have := (h.lt b hu).1; omega)
theorem ow_row {w : World} {base : Nat} {A : Option Addr} {n c : Nat} {l : List C} (h : OwC w base (.slice A n c) l) : RdC w w.heap.size A n c l := by
  obtain ⟨A', c', e, hr⟩ := h.form cC_len
  injection e with e1 e2 e3
  subst e1 e2 e3
  exact hr
theorem ow_form {w : World} {base : Nat} {v : Value} {l : List C} (h : OwC w base v l) : ∃ A n c, v = .slice A n c := by
  obtain ⟨A', c', e, hr⟩ := h.form cC_len
  exact ⟨_, _, _, e⟩
theorem ow_new {w : World} {base : Nat} {u : Value} {l : List C} (h : OwC w base u l) : u.ownBlock ≠ some w.heap.size := fun e => by
  have := (h.lt _ e).2; omega
set_option maxRecDepth 100000 in
set_option maxHeartbeats 4000000 in
theorem of_any (L : List C) {A : Option Addr} {n cap B : Nat} {w : World} (h : RdC w B A n cap L) (hB : B ≤ w.heap.size) (hn : n ≤ 1000) :
    Calls Try.prog 19 #[.slice A n cap] w (GotO (L.take 1) (L.drop 1) w) := by
  have hlen := h.len_le
  have HL := Lib.hid h.1
  have HR := Lib.hid h
  have HBB := Lib.hid hB
  clear h hB
  go_enter Try.func19, Try.ntmps19
  go_upto_region 2 with (fail)
  obtain ⟨x1, x2, x3, x4⟩ := k.boxes2 (w := w) (c1 := #[.slice none 0 0, .slice none 0 0]) (t1 := 24) (c2 := #[.slice none 0 0, .slice none 0 0]) (t2 := 24) (Below.refl _ _)
  generalize (w.alloc (.cells #[.slice none 0 0, .slice none 0 0] 24)).alloc (.cells #[.slice none 0 0, .slice none 0 0] 24) = w2 at x1 x2 x3 x4 ⊢
  have X1 := Lib.hid x1
  have X2 := Lib.hid x2
  have X3 := Lib.hid x3
  clear x1 x2 x3
  go_wp2
  go_loopw [4] (fun i wr => ∃ (j : Nat) (A1 A2 : Option Addr) (n1 c1 n2 c2 : Nat), j ≤ n ∧ i = .int .i64 j ∧ k.Box wr w.heap.size 0 [.slice none 0 0, .slice none 0 0] ∧ k.Box wr (w.heap.size + 1) 0 [.slice A1 n1 c1, .slice A2 n2 c2] ∧ OwC wr (w.heap.size + 2) (.slice A1 n1 c1) (L.take (min j 1)) ∧ OwC wr (w.heap.size + 2) (.slice A2 n2 c2) ((L.take j).drop 1) ∧ (j = 0 → A1 = none ∧ n1 = 0 ∧ c1 = 0 ∧ A2 = none ∧ n2 = 0 ∧ c2 = 0) ∧ ((Value.slice A1 n1 c1).ownBlock = none ∨ (Value.slice A1 n1 c1).ownBlock ≠ (Value.slice A2 n2 c2).ownBlock) ∧ Below w.heap.size w wr ∧ w.heap.size + 1 < wr.heap.size) (fun i _ => n - (intOf i).toNat)
  case atStart => exact ⟨0, none, none, 0, 0, 0, 0, Nat.zero_le _, rfl, X1.out, X2.out, Ow.nil _ _ _ _ _, Ow.nil _ _ _ _ _, fun _ => ⟨rfl, rfl, rfl, rfl, rfl, rfl⟩, .inl rfl, X3.out, x4⟩
  case round =>
    clear X1 X2 X3 x4
    obtain ⟨j, A1, A2, n1, c1, n2, c2, hj, rfl, hz, hx, ho1, ho2, hnil, hap, hb, hs⟩ := hrel
    have HZ := Lib.hid hz
    have HX := Lib.hid hx
    have O1 := Lib.hid ho1
    have O2 := Lib.hid ho2
    have HN := Lib.hid hnil
    have HA := Lib.hid hap
    have HB := Lib.hid hb
    have ⟨b0, bf0⟩ := k.cell_of hx (i := 0) rfl
    have ⟨b1, bf1⟩ := k.cell_of hx (i := 1) rfl
    clear hz hx ho1 ho2 hnil hap hb
    by_cases hlt : j < n
    · obtain ⟨b, o, x, rfl, hb', hx, hr⟩ := (HR.out.below (HB.out.mono HBB.out)).at hlt
      have hbw : b < w.heap.size := Nat.lt_of_lt_of_le hb' HBB.out
      clear hb'
      have HXJ := Lib.hid hx
      have HM : Hid (L.length ≤ 1000) := Lib.hid (by rw [HL.out]; exact hn)
      have hj0 : (0 : Int) ≤ (j : Int) := by omega
      have hj1 : (j : Int) < (n : Int) := by omega
      clear hx
      by_cases hjp : 1 ≤ j
      · have hjb : ((j : Int) == 0) = false := by rw [beq_eq_false_iff_ne]; omega
        go_upto_region 7 with (fail)
        refine wp_region_T (by kernel_rfl) (fun w' => w'.cell? ⟨w.heap.size + 1, 1, none⟩ = some (.slice A2 n2 c2) ∧ w'.rangeAt b (o + j * 7) (cC x)) [9] ⟨b1, hr⟩ (fun hHeld => ?_)
        refine wpAnyT_take (i := 0) (v := ?_) rfl (by kernel_rfl) (by kernel_rfl) (by kernel_rfl) (fun _ _ _ h => h) (Or.inl ⟨by rfl, ?_⟩) (by assumption) ?_
        rotate_left 1
        · intro w hSw; clear hSw; go_simp <;> (with_reducible rfl)
        try simp only [Act.put, List.setIfInBounds_toArray, List.set_cons_zero, List.set_cons_succ, List.getElem_toArray, List.getElem_cons_zero]
        refine wpAnyT_take (i := 1) (v := ?_) rfl (by kernel_rfl) (by kernel_rfl) (by kernel_rfl) (fun _ _ _ h => h) (Or.inl ⟨by rfl, ?_⟩) (by assumption) ?_
        rotate_left 1
        · intro w hSw; obtain ⟨s0, s1⟩ := hSw; go_simp <;> (with_reducible rfl)
        try simp only [Act.put, List.setIfInBounds_toArray, List.set_cons_zero, List.set_cons_succ, List.getElem_toArray, List.getElem_cons_succ, List.getElem_cons_zero]
        refine wpAnyT_take (i := 2) (v := ?_) rfl (by kernel_rfl) (by kernel_rfl) (by kernel_rfl) (fun _ _ _ h => h) (Or.inl ⟨by rfl, ?_⟩) (by assumption) ?_
        rotate_left 1
        · intro w hSw; clear hSw; go_simp <;> (with_reducible rfl)
        try simp only [Act.put, List.setIfInBounds_toArray, List.set_cons_zero, List.set_cons_succ, List.getElem_toArray, List.getElem_cons_succ, List.getElem_cons_zero]
        refine wpAnyT_take (i := 3) (v := ?_) rfl (by kernel_rfl) (by kernel_rfl) (by kernel_rfl) (fun _ _ _ h => h) (Or.inl ⟨by rfl, ?_⟩) (by assumption) ?_
        rotate_left 1
        · intro w hSw; clear hSw; go_simp <;> (with_reducible rfl)
        try simp only [Act.put, List.setIfInBounds_toArray, List.set_cons_zero, List.set_cons_succ, List.getElem_toArray, List.getElem_cons_succ, List.getElem_cons_zero]
        refine wpAnyT_take (i := 4) (v := ?_) rfl (by kernel_rfl) (by kernel_rfl) (by kernel_rfl) (fun _ _ _ h => h) (Or.inl ⟨by rfl, ?_⟩) (by assumption) ?_
        rotate_left 1
        · intro w hSw; clear hSw; go_simp <;> (with_reducible rfl)
        try simp only [Act.put, List.setIfInBounds_toArray, List.set_cons_zero, List.set_cons_succ, List.getElem_toArray, List.getElem_cons_succ, List.getElem_cons_zero]
        refine wpAnyT_take (i := 5) (v := ?_) rfl (by kernel_rfl) (by kernel_rfl) (by kernel_rfl) (fun _ _ _ h => h) (Or.inl ⟨by rfl, ?_⟩) (by assumption) ?_
        rotate_left 1
        · intro w hSw; obtain ⟨s0, s1⟩ := hSw; obtain ⟨y0, y1, y2, y3, y4, y5, y6⟩ := cells_com s1; go_simp <;> (with_reducible rfl)
        try simp only [Act.put, List.setIfInBounds_toArray, List.set_cons_zero, List.set_cons_succ, List.getElem_toArray, List.getElem_cons_succ, List.getElem_cons_zero]
        refine wpAnyT_ready (rs := [6]) (by kernel_rfl) (by simp) ?_
        refine AllReadyT.cons rfl (fun K hK => ?_) AllReadyT.nil
        go_simp
        have hb3 : Below wr.heap.size wr (wr.alloc (.cells #[.int .i64 x.id, .int .i64 x.kind, .int .i64 x.tgt, .int .i64 x.spd, .int .i64 x.mode, .int .i64 x.num, .int .i64 x.den] 26)).drew := ((Below.refl _ _).alloc (Nat.le_refl _) _).drew
        have N3 : Hid (RdC (wr.alloc (.cells #[.int .i64 x.id, .int .i64 x.kind, .int .i64 x.tgt, .int .i64 x.spd, .int .i64 x.mode, .int .i64 x.num, .int .i64 x.den] 26)).drew (wr.heap.size + 1) (some ⟨wr.heap.size, 0, none⟩) 1 1 [x]) := Lib.hid (one_row wr _ x _ rfl)
        have hz3 : wr.heap.size + 1 = (wr.alloc (.cells #[.int .i64 x.id, .int .i64 x.kind, .int .i64 x.tgt, .int .i64 x.spd, .int .i64 x.mode, .int .i64 x.num, .int .i64 x.den] 26)).drew.heap.size := by simp
        have P2 := Lib.hid (O2.out.under hb3)
        have P1 := Lib.hid (O1.out.under hb3)
        generalize (wr.alloc (.cells #[.int .i64 x.id, .int .i64 x.kind, .int .i64 x.tgt, .int .i64 x.spd, .int .i64 x.mode, .int .i64 x.num, .int .i64 x.den] 26)).drew = w3 at hb3 N3 hz3 P1 P2 ⊢
        have s3 : w.heap.size + 1 < w3.heap.size := by omega
        have B3 := Lib.hid (HX.out.below hb3 hs)
        have Z3 := Lib.hid (HZ.out.below hb3 (by omega))
        have H3 := Lib.hid (HB.out.trans (hb3.mono HB.out.size))
        have r3 := range_below hr hb3 (by omega)
        have d0 := (k.cell_of B3.out (i := 1) rfl).1
        clear hb3 O1 O2 HX HZ HB b0 b1 bf0 bf1 hr
        refine hK.out _ _ ⟨d0, r3⟩ (fun hHeld => ?_)
        clear hK K
        try simp only [Act.put, List.setIfInBounds_toArray, List.set_cons_zero, List.set_cons_succ, List.getElem_toArray, List.getElem_cons_succ, List.getElem_cons_zero]
        refine wpAnyT_ready (rs := [7]) (by kernel_rfl) (by simp) ?_
        refine AllReadyT.cons rfl (fun K hK => ?_) AllReadyT.nil
        refine step_append_row cC_len (by omega) cC_one coms_slice com_info rfl (by omega) w3 rfl (.tmp 23) (.tmp 28) rfl (w.heap.size + 2) (.slice A2 n2 c2) ((L.take j).drop 1) rfl P2.out (wr.heap.size + 1) (some ⟨wr.heap.size, 0, none⟩) 1 1 [x] rfl N3.out (by have := HM.out; simp; omega) (by omega) ?_
        intro v6 w6 hown hg hat
        have hb6 : Below (w.heap.size + 2) w3 w6 := P2.out.lays (Below.refl _ _) (Nat.le_refl _) (by omega) hg
        have Q1 : Hid (OwC w6 (w.heap.size + 2) (.slice A1 n1 c1) (L.take (min (j + 1) 1))) := Lib.hid (by rw [first_snoc hjp]; exact P1.out.kept hg HA.out)
        have O6 : Hid (OwC w6 (w.heap.size + 2) v6 ((L.take (j + 1)).drop 1)) := Lib.hid (by rw [rest_snoc HXJ.out hjp]; exact hown)
        have HA6 : Hid ((Value.slice A1 n1 c1).ownBlock = none ∨ (Value.slice A1 n1 c1).ownBlock ≠ v6.ownBlock) := Lib.hid (by rcases HA.out with h | h; exact .inl h; rcases hat with e | e; rw [e]; exact .inr h; rw [e]; exact .inr (ow_new P1.out))
        have s6 : w.heap.size + 1 < w6.heap.size := Nat.lt_of_lt_of_le s3 hb6.size
        have B6 := Lib.hid (B3.out.below hb6 (by omega))
        have Z6 := Lib.hid (Z3.out.below hb6 (by omega))
        have H6 := Lib.hid (H3.out.trans (hb6.mono (by omega)))
        have r6 := range_below r3 hb6 (by omega)
        have ⟨e0, ef0⟩ := k.cell_of B6.out (i := 1) rfl
        obtain ⟨A6, q6, c6, rfl⟩ := ow_form O6.out
        clear hb6 hown hg hat P1 P2 N3 B3 Z3 H3 d0 r3 HA HN
        refine hK.out _ _ ⟨e0, r6⟩ (fun hHeld => ?_)
        clear hK K
        try simp only [Act.put, List.setIfInBounds_toArray, List.set_cons_zero, List.set_cons_succ, List.getElem_toArray, List.getElem_cons_succ, List.getElem_cons_zero]
        refine wpAnyT_take (i := 8) (v := ?_) rfl (by kernel_rfl) (by kernel_rfl) (by kernel_rfl) (fun _ _ _ h => h) (Or.inl ⟨by rfl, ?_⟩) (by assumption) ?_
        rotate_left 1
        · intro w hSw; clear hSw; go_simp <;> (with_reducible rfl)
        try simp only [Act.put, List.setIfInBounds_toArray, List.set_cons_zero, List.set_cons_succ, List.getElem_toArray, List.getElem_cons_succ, List.getElem_cons_zero]
        refine wpAnyT_ready (rs := [9]) (by kernel_rfl) (by simp) ?_
        refine AllReadyT.spoilt rfl (by kernel_rfl) (fun K hK => ?_) AllReadyT.nil
        go_simp
        refine hK.out _ _ ?_
        clear hK K
        try simp only [Act.put, List.setIfInBounds_toArray, List.set_cons_zero, List.set_cons_succ, List.getElem_toArray, List.getElem_cons_succ, List.getElem_cons_zero]
        refine wpAnyT_done (by kernel_rfl) ?_ _
        go_wp2
        go_roundw
        case rel => exact ⟨j + 1, A1, _, n1, c1, _, _, by omega, by go_num, k.Box_aside (show w.heap.size + 1 ≠ w.heap.size by omega) _ Z6.out, k.Box.put B6.out 1 (by simp) _, ow_set Q1.out (by omega) _, ow_set O6.out (by omega) _, fun h => absurd h (by omega), HA6.out, H6.out.setCell (by show w.heap.size ≤ w.heap.size + 1; omega) _, by simpa using s6⟩
        case measure => simp [intOf]; omega
      · have HJ0 := Lib.hid (show j = 0 by omega)
        have hjb : ((j : Int) == 0) = true := by rw [beq_iff_eq]; omega
        clear hjp
        go_upto_region 6 with (fail)
        refine wp_region_T (by kernel_rfl) (fun w' => w'.cell? ⟨w.heap.size + 1, 0, none⟩ = some (.slice A1 n1 c1) ∧ w'.rangeAt b (o + j * 7) (cC x)) [9] ⟨b0, hr⟩ (fun hHeld => ?_)
        refine wpAnyT_take (i := 0) (v := ?_) rfl (by kernel_rfl) (by kernel_rfl) (by kernel_rfl) (fun _ _ _ h => h) (Or.inl ⟨by rfl, ?_⟩) (by assumption) ?_
        rotate_left 1
        · intro w hSw; clear hSw; go_simp <;> (with_reducible rfl)
        try simp only [Act.put, List.setIfInBounds_toArray, List.set_cons_zero, List.set_cons_succ, List.getElem_toArray, List.getElem_cons_zero]
        refine wpAnyT_take (i := 1) (v := ?_) rfl (by kernel_rfl) (by kernel_rfl) (by kernel_rfl) (fun _ _ _ h => h) (Or.inl ⟨by rfl, ?_⟩) (by assumption) ?_
        rotate_left 1
        · intro w hSw; obtain ⟨s0, s1⟩ := hSw; go_simp <;> (with_reducible rfl)
        try simp only [Act.put, List.setIfInBounds_toArray, List.set_cons_zero, List.set_cons_succ, List.getElem_toArray, List.getElem_cons_succ, List.getElem_cons_zero]
        refine wpAnyT_take (i := 2) (v := ?_) rfl (by kernel_rfl) (by kernel_rfl) (by kernel_rfl) (fun _ _ _ h => h) (Or.inl ⟨by rfl, ?_⟩) (by assumption) ?_
        rotate_left 1
        · intro w hSw; clear hSw; go_simp <;> (with_reducible rfl)
        try simp only [Act.put, List.setIfInBounds_toArray, List.set_cons_zero, List.set_cons_succ, List.getElem_toArray, List.getElem_cons_succ, List.getElem_cons_zero]
        refine wpAnyT_take (i := 3) (v := ?_) rfl (by kernel_rfl) (by kernel_rfl) (by kernel_rfl) (fun _ _ _ h => h) (Or.inl ⟨by rfl, ?_⟩) (by assumption) ?_
        rotate_left 1
        · intro w hSw; clear hSw; go_simp <;> (with_reducible rfl)
        try simp only [Act.put, List.setIfInBounds_toArray, List.set_cons_zero, List.set_cons_succ, List.getElem_toArray, List.getElem_cons_succ, List.getElem_cons_zero]
        refine wpAnyT_take (i := 4) (v := ?_) rfl (by kernel_rfl) (by kernel_rfl) (by kernel_rfl) (fun _ _ _ h => h) (Or.inl ⟨by rfl, ?_⟩) (by assumption) ?_
        rotate_left 1
        · intro w hSw; clear hSw; go_simp <;> (with_reducible rfl)
        try simp only [Act.put, List.setIfInBounds_toArray, List.set_cons_zero, List.set_cons_succ, List.getElem_toArray, List.getElem_cons_succ, List.getElem_cons_zero]
        refine wpAnyT_take (i := 5) (v := ?_) rfl (by kernel_rfl) (by kernel_rfl) (by kernel_rfl) (fun _ _ _ h => h) (Or.inl ⟨by rfl, ?_⟩) (by assumption) ?_
        rotate_left 1
        · intro w hSw; obtain ⟨s0, s1⟩ := hSw; obtain ⟨y0, y1, y2, y3, y4, y5, y6⟩ := cells_com s1; go_simp <;> (with_reducible rfl)
        try simp only [Act.put, List.setIfInBounds_toArray, List.set_cons_zero, List.set_cons_succ, List.getElem_toArray, List.getElem_cons_succ, List.getElem_cons_zero]
        refine wpAnyT_ready (rs := [6]) (by kernel_rfl) (by simp) ?_
        refine AllReadyT.cons rfl (fun K hK => ?_) AllReadyT.nil
        go_simp
        have hb3 : Below wr.heap.size wr (wr.alloc (.cells #[.int .i64 x.id, .int .i64 x.kind, .int .i64 x.tgt, .int .i64 x.spd, .int .i64 x.mode, .int .i64 x.num, .int .i64 x.den] 26)).drew := ((Below.refl _ _).alloc (Nat.le_refl _) _).drew
        have N3 : Hid (RdC (wr.alloc (.cells #[.int .i64 x.id, .int .i64 x.kind, .int .i64 x.tgt, .int .i64 x.spd, .int .i64 x.mode, .int .i64 x.num, .int .i64 x.den] 26)).drew (wr.heap.size + 1) (some ⟨wr.heap.size, 0, none⟩) 1 1 [x]) := Lib.hid (one_row wr _ x _ rfl)
        have hz3 : wr.heap.size + 1 = (wr.alloc (.cells #[.int .i64 x.id, .int .i64 x.kind, .int .i64 x.tgt, .int .i64 x.spd, .int .i64 x.mode, .int .i64 x.num, .int .i64 x.den] 26)).drew.heap.size := by simp
        have P1 := Lib.hid (O1.out.under hb3)
        have P2 := Lib.hid (O2.out.under hb3)
        generalize (wr.alloc (.cells #[.int .i64 x.id, .int .i64 x.kind, .int .i64 x.tgt, .int .i64 x.spd, .int .i64 x.mode, .int .i64 x.num, .int .i64 x.den] 26)).drew = w3 at hb3 N3 hz3 P1 P2 ⊢
        have s3 : w.heap.size + 1 < w3.heap.size := by omega
        have B3 := Lib.hid (HX.out.below hb3 hs)
        have Z3 := Lib.hid (HZ.out.below hb3 (by omega))
        have H3 := Lib.hid (HB.out.trans (hb3.mono HB.out.size))
        have r3 := range_below hr hb3 (by omega)
        have d0 := (k.cell_of B3.out (i := 0) rfl).1
        clear hb3 O1 O2 HX HZ HB b0 b1 bf0 bf1 hr
        refine hK.out _ _ ⟨d0, r3⟩ (fun hHeld => ?_)
        clear hK K
        try simp only [Act.put, List.setIfInBounds_toArray, List.set_cons_zero, List.set_cons_succ, List.getElem_toArray, List.getElem_cons_succ, List.getElem_cons_zero]
        refine wpAnyT_ready (rs := [7]) (by kernel_rfl) (by simp) ?_
        refine AllReadyT.cons rfl (fun K hK => ?_) AllReadyT.nil
        refine step_append_row cC_len (by omega) cC_one coms_slice com_info rfl (by omega) w3 rfl (.tmp 14) (.tmp 19) rfl (w.heap.size + 2) (.slice A1 n1 c1) (L.take (min j 1)) rfl P1.out (wr.heap.size + 1) (some ⟨wr.heap.size, 0, none⟩) 1 1 [x] rfl N3.out (by have := HM.out; simp; omega) (by omega) ?_
        intro v6 w6 hown hg hat
        have hb6 : Below (w.heap.size + 2) w3 w6 := P1.out.lays (Below.refl _ _) (Nat.le_refl _) (by omega) hg
        obtain ⟨rfl, rfl, rfl, rfl, rfl, rfl⟩ := HN.out HJ0.out
        have O6 : Hid (OwC w6 (w.heap.size + 2) v6 (L.take (min (j + 1) 1))) := Lib.hid (by rw [show L.take (min (j + 1) 1) = L.take (min j 1) ++ [x] from (by have hx := HXJ.out; have h0 := HJ0.out; subst h0; exact take_snoc hx)]; exact hown)
        have Q2' : Hid (OwC w6 (w.heap.size + 2) (.slice none 0 0) ((L.take (j + 1)).drop 1)) := Lib.hid (by rw [show (L.take (j + 1)).drop 1 = [] from List.drop_eq_nil_of_le (by rw [List.length_take]; have := HJ0.out; omega)]; exact Ow.nil _ _ _ _ _)
        have HA6 : Hid (v6.ownBlock = none ∨ v6.ownBlock ≠ (Value.slice none 0 0).ownBlock) := Lib.hid (by cases hv : v6.ownBlock with | none => exact .inl rfl | some b => exact .inr (by intro e; cases e))
        have s6 : w.heap.size + 1 < w6.heap.size := Nat.lt_of_lt_of_le s3 hb6.size
        have B6 := Lib.hid (B3.out.below hb6 (by omega))
        have Z6 := Lib.hid (Z3.out.below hb6 (by omega))
        have H6 := Lib.hid (H3.out.trans (hb6.mono (by omega)))
        have r6 := range_below r3 hb6 (by omega)
        have ⟨e0, ef0⟩ := k.cell_of B6.out (i := 0) rfl
        obtain ⟨A6, q6, c6, rfl⟩ := ow_form O6.out
        clear hb6 hown hg hat P1 P2 N3 B3 Z3 H3 d0 r3 HA HN
        refine hK.out _ _ ⟨e0, r6⟩ (fun hHeld => ?_)
        clear hK K
        try simp only [Act.put, List.setIfInBounds_toArray, List.set_cons_zero, List.set_cons_succ, List.getElem_toArray, List.getElem_cons_succ, List.getElem_cons_zero]
        refine wpAnyT_take (i := 8) (v := ?_) rfl (by kernel_rfl) (by kernel_rfl) (by kernel_rfl) (fun _ _ _ h => h) (Or.inl ⟨by rfl, ?_⟩) (by assumption) ?_
        rotate_left 1
        · intro w hSw; clear hSw; go_simp <;> (with_reducible rfl)
        try simp only [Act.put, List.setIfInBounds_toArray, List.set_cons_zero, List.set_cons_succ, List.getElem_toArray, List.getElem_cons_succ, List.getElem_cons_zero]
        refine wpAnyT_ready (rs := [9]) (by kernel_rfl) (by simp) ?_
        refine AllReadyT.spoilt rfl (by kernel_rfl) (fun K hK => ?_) AllReadyT.nil
        go_simp
        refine hK.out _ _ ?_
        clear hK K
        try simp only [Act.put, List.setIfInBounds_toArray, List.set_cons_zero, List.set_cons_succ, List.getElem_toArray, List.getElem_cons_succ, List.getElem_cons_zero]
        refine wpAnyT_done (by kernel_rfl) ?_ _
        go_wp2
        go_roundw
        case rel => exact ⟨j + 1, _, none, _, _, 0, 0, by omega, by go_num, k.Box_aside (show w.heap.size + 1 ≠ w.heap.size by omega) _ Z6.out, k.Box.put B6.out 0 (by simp) _, ow_set O6.out (by omega) _, ow_set Q2'.out (by omega) _, fun h => absurd h (by omega), HA6.out, H6.out.setCell (by show w.heap.size ≤ w.heap.size + 1; omega) _, by simpa using s6⟩
        case measure => simp [intOf]; omega
    · have hjl : j = n := by omega
      subst hjl
      have ⟨z0, zf0⟩ := k.cell_of HZ.out (i := 0) rfl
      have ⟨z1, zf1⟩ := k.cell_of HZ.out (i := 1) rfl
      have E1 : L.take (min j 1) = L.take 1 := by rw [← HL.out]; cases L <;> simp
      have E2 : (L.take j).drop 1 = L.drop 1 := by rw [← HL.out, List.take_length]
      rw [E1] at O1
      rw [E2] at O2
      go_wp2
      refine bodyPost_ret (v := lnV A1 n1 c1 A2 n2 c2) (by simp [results, Try.results19, go_sem, z0, z1]) rfl ⟨A1, n1, c1, A2, n2, c2, rfl, (ow_set (ow_set O1.out (by omega) _) (by omega) _).base (by omega), (ow_set (ow_set O2.out (by omega) _) (by omega) _).base (by omega), (HB.out.setCell (Nat.le_refl _) _).setCell (Nat.le_refl _) _⟩
end Go.Proofs.Ytnghifbkiipigaa.ln
