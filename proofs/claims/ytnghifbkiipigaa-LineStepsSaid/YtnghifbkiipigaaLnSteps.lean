/- The walk of the law LineSteps, of rows as they lie: 20 commands at most; it returns true, and what was in memory is as it was. -/
import Derived.Test.YtnghifbkiipigaaLnAwake
import Derived.Test.YtnghifbkiipigaaKOrd
namespace Go.Proofs.Ytnghifbkiipigaa.ln
open Go.ChangeShapes Go.WideShapes Go.ChangeAt Go.RowKit Go.Proofs.Ytnghifbkiipigaa.k Go.Proofs.Ytnghifbkiipigaa.rr
set_option linter.unusedVariables false

theorem ow_ne {w : World} {base g n c m c' : Nat} {A A' : Option Addr} {u : Value} {l : List C} (h : OwC w base u l) (hv : VarL w g A n c A' m c') : u.ownBlock ≠ some g := by
  rcases h.2 with ⟨rfl, _⟩ | ⟨g', cap, cur, rfl, _, hg, _⟩
  · simp [Value.ownBlock]
  · intro he
    have e : g' = g := by simpa [Value.ownBlock] using he
    subst e
    unfold VarL at hv
    rw [hv] at hg
    injection hg with hg
    injection hg with _ ht
    exact absurd ht (by decide)
theorem VarL.grown {w w' : World} {g n c m c' : Nat} {A A' : Option Addr} {row : Option Nat} (h : VarL w g A n c A' m c') (hg : w.grownBy w' row) (ho : row ≠ some g) : VarL w' g A n c A' m c' := (hg.block g h.lt (fun e => ho e.symm)).trans h
/-- a row of the call's own in a block that is known -/
theorem ow_at {w w' : World} {base b n c : Nat} {l l' : List C} {v' : Value} (h : OwC w' base v' l') (hat : v'.ownBlock = (Value.slice (some ⟨b, 0, none⟩) n c).ownBlock ∨ v'.ownBlock = some w.heap.size) :
    ∃ b' n' c', v' = .slice (some ⟨b', 0, none⟩) n' c' ∧ (b' = b ∨ b' = w.heap.size) ∧ b' < w'.heap.size := by
  obtain ⟨b', hv, hb'⟩ : ∃ b', v'.ownBlock = some b' ∧ (b' = b ∨ b' = w.heap.size) := by
    rcases hat with e | e
    · exact ⟨b, e, .inl rfl⟩
    · exact ⟨_, e, .inr rfl⟩
  rcases h.2 with ⟨rfl, _⟩ | ⟨g', cap, cur, rfl, _, hg, _⟩
  · simp [Value.ownBlock] at hv
  · have e : g' = b' := by simpa [Value.ownBlock] using hv
    subst e
    exact ⟨g', _, cap, rfl, hb', (Array.getElem?_eq_some_iff.1 hg).1⟩
set_option maxRecDepth 100000 in
set_option maxHeartbeats 20000000 in
theorem walk_rows (N W : List C) (c : C) {A A' : Option Addr} {n cap m cap' B : Nat} {w : World} (h : RdC w B A n cap N) (h2 : RdC w B A' m cap' W) (hB : B ≤ w.heap.size) (hn : n ≤ 20) (hm : m ≤ 20) :
    Calls Try.prog 3 #[lnV A n cap A' m cap', cV c] w fun e w' => e = .returned (.bool true) ∧ Below w.heap.size w w' := by
  have HK := Lib.hid fun W => awake_any W
  have HS := Lib.hid fun W' => small_any (A := A) (A' := A') (n := n) (cap := cap) (m := m) (cap' := cap') W'
  rw [show smallB n m = true from decide_eq_true ⟨hn, hm⟩] at HS
  have HLN := Lib.hid (show N.length ≤ 20 ∧ W.length ≤ 20 from ⟨by rw [h.1]; exact hn, by rw [h2.1]; exact hm⟩)
  unfold cV
  go_enter Try.func3, Try.ntmps3
  go_upto_region 1 with (fail)
  have x0 : VarL ((w.alloc (.cells #[.slice A n cap, .slice A' m cap'] 24)).alloc (.cells #[.int .i64 c.id, .int .i64 c.kind, .int .i64 c.tgt, .int .i64 c.spd, .int .i64 c.mode, .int .i64 c.num, .int .i64 c.den] 26)) w.heap.size A n cap A' m cap' := (VarL.new w A n cap A' m cap').under ((Below.refl _ _).alloc (Nat.le_refl _) _)
  obtain ⟨_, x2, x3, x4⟩ := k.boxes2 (w := w) (c1 := #[.slice A n cap, .slice A' m cap']) (t1 := 24) (c2 := #[.int .i64 c.id, .int .i64 c.kind, .int .i64 c.tgt, .int .i64 c.spd, .int .i64 c.mode, .int .i64 c.num, .int .i64 c.den]) (t2 := 26) (Below.refl _ _)
  generalize (w.alloc (.cells #[.slice A n cap, .slice A' m cap'] 24)).alloc (.cells #[.int .i64 c.id, .int .i64 c.kind, .int .i64 c.tgt, .int .i64 c.spd, .int .i64 c.mode, .int .i64 c.num, .int .i64 c.den] 26) = w2 at x0 x2 x3 x4 ⊢
  have r1 := (h.below (x3.mono hB)).more (Nat.le_trans hB x3.size)
  have r2 := (h2.below (x3.mono hB)).more (Nat.le_trans hB x3.size)
  have X0 := Lib.hid x0
  have X2 := Lib.hid x2
  have X3 := Lib.hid x3
  have R1 : Hid (RdC w2 w2.heap.size A n cap N) := Lib.hid r1
  have R2 : Hid (RdC w2 w2.heap.size A' m cap' W) := Lib.hid r2
  have ⟨c0, c1, _, _⟩ := x0.cells
  clear x0 x2 x3 r1 r2 h h2 hB
  go_upto_region 5 with (first | (go_at_call 5; ((with_reducible refine (HK.out _).mono ?_); rintro e w3 ⟨rfl, hb⟩; have X0 := Lib.hid (X0.out.under hb); have X2 := Lib.hid (X2.out.below hb x4); have X3 := Lib.hid (X3.out.trans (hb.mono X3.out.size)); have R1 := Lib.hid (rd_under R1.out hb); have R2 := Lib.hid (rd_under R2.out hb); have x4 := Nat.lt_of_lt_of_le x4 hb.size; clear c0 c1; have ⟨c0, c1, _, _⟩ := X0.out.cells; clear hb)) | (go_at_call 6; ((with_reducible refine (HS.out _).mono ?_); rintro e w4 ⟨rfl, hb⟩; have X0 := Lib.hid (X0.out.under hb); have X2 := Lib.hid (X2.out.below hb x4); have X3 := Lib.hid (X3.out.trans (hb.mono X3.out.size)); have R1 := Lib.hid (rd_under R1.out hb); have R2 := Lib.hid (rd_under R2.out hb); have x4 := Nat.lt_of_lt_of_le x4 hb.size; clear c0 c1; have ⟨c0, c1, _, _⟩ := X0.out.cells; clear hb)))
  clear HK HS
  go_cut [5] from 27 to 35 (fun p wx => ∃ g A1 n1 c1 A2 n2 c2, p = .pointer (some ⟨g, 0, none⟩) ∧ VarL wx g A1 n1 c1 A2 n2 c2 ∧ RdC wx wx.heap.size A1 n1 c1 N ∧ RdC wx wx.heap.size A2 n2 c2 W ∧ Below w4.heap.size w4 wx)
  case first =>
    have HB0 : Hid (Below w4.heap.size w4 w4) := Lib.hid (Below.refl _ _)
    have hT : ∀ w', Below w4.heap.size w4 w' → w'.cell? ⟨w.heap.size, 0, none⟩ = some (.slice A n cap) ∧ w'.cell? ⟨w.heap.size, 1, none⟩ = some (.slice A' m cap') := fun w' hb => ⟨(hb.cell (p := ⟨w.heap.size, 0, none⟩) X0.out.lt).trans c0, (hb.cell (p := ⟨w.heap.size, 1, none⟩) X0.out.lt).trans c1⟩
    refine wp_region_T (by kernel_rfl) (fun w' => w'.cell? ⟨w.heap.size, 0, none⟩ = some (.slice A n cap) ∧ w'.cell? ⟨w.heap.size, 1, none⟩ = some (.slice A' m cap')) [10] ⟨c0, c1⟩ (fun hHeld => ?_)
    refine wpAnyT_take (i := 1) (v := ?_) rfl (by kernel_rfl) (by kernel_rfl) (by kernel_rfl) (fun _ _ _ h => h) (Or.inl ⟨by rfl, ?_⟩) (by assumption) ?_
    rotate_left 1
    · intro w hSw; clear hSw; go_simp <;> (with_reducible rfl)
    try simp only [Act.put, List.setIfInBounds_toArray, List.set_cons_zero, List.set_cons_succ, List.getElem_toArray, List.getElem_cons_succ, List.getElem_cons_zero]
    refine wpAnyT_take (i := 2) (v := ?_) rfl (by kernel_rfl) (by kernel_rfl) (by kernel_rfl) (fun _ _ _ h => h) (Or.inl ⟨by rfl, ?_⟩) (by assumption) ?_
    rotate_left 1
    · intro w hSw; obtain ⟨s0, s1⟩ := hSw; go_simp <;> (with_reducible rfl)
    try simp only [Act.put, List.setIfInBounds_toArray, List.set_cons_zero, List.set_cons_succ, List.getElem_toArray, List.getElem_cons_succ, List.getElem_cons_zero]
    refine wpAnyT_take (i := 5) (v := ?_) rfl (by kernel_rfl) (by kernel_rfl) (by kernel_rfl) (fun _ _ _ h => h) (Or.inl ⟨by rfl, ?_⟩) (by assumption) ?_
    rotate_left 1
    · intro w hSw; clear hSw; go_simp <;> (with_reducible rfl)
    try simp only [Act.put, List.setIfInBounds_toArray, List.set_cons_zero, List.set_cons_succ, List.getElem_toArray, List.getElem_cons_succ, List.getElem_cons_zero]
    refine wpAnyT_take (i := 6) (v := ?_) rfl (by kernel_rfl) (by kernel_rfl) (by kernel_rfl) (fun _ _ _ h => h) (Or.inl ⟨by rfl, ?_⟩) (by assumption) ?_
    rotate_left 1
    · intro w hSw; obtain ⟨s0, s1⟩ := hSw; go_simp <;> (with_reducible rfl)
    try simp only [Act.put, List.setIfInBounds_toArray, List.set_cons_zero, List.set_cons_succ, List.getElem_toArray, List.getElem_cons_succ, List.getElem_cons_zero]
    refine wpAnyT_ready (rs := [0, 4, 9]) (by kernel_rfl) (by simp) ?_
    refine AllReadyT.cons rfl (fun K hK => ?_) (AllReadyT.cons rfl (fun K hK => ?_) (AllReadyT.cons rfl (fun K hK => ?_) AllReadyT.nil))
    · skip
      go_simp
      have hb : Below w4.heap.size w4 (w4.alloc (.cells #[] 26)).drew := ((Below.refl _ _).alloc (Nat.le_refl _) _).drew
      have u1z : w4.heap.size < (w4.alloc (.cells #[] 26)).drew.heap.size := by simp
      have nx : OwC (w4.alloc (.cells #[] 26)).drew w4.heap.size (.slice (some ⟨w4.heap.size, 0, none⟩) 0 0) [] := (Ow.empty cC 7 26 w4).base HB0.out.size
      have qB := HB0.out.trans (hb.mono HB0.out.size)
      generalize (w4.alloc (.cells #[] 26)).drew = u1 at hb nx u1z qB ⊢
      have u1B := Lib.hid qB
      have u1o0 := Lib.hid nx
      clear hb nx qB 
      refine hK.out _ _ (hT _ u1B.out) (fun hHeld => ?_)
      clear hK K
      try simp only [Act.put, List.setIfInBounds_toArray, List.set_cons_zero, List.set_cons_succ, List.getElem_toArray, List.getElem_cons_succ, List.getElem_cons_zero]
      refine wpAnyT_ready (rs := [3, 4, 9]) (by kernel_rfl) (by simp) ?_
      refine AllReadyT.cons rfl (fun K hK => ?_) (AllReadyT.cons rfl (fun K hK => ?_) (AllReadyT.cons rfl (fun K hK => ?_) AllReadyT.nil))
      · skip
        refine step_append_row cC_len (by omega) cC_one coms_slice com_info rfl (by omega) u1 rfl (.tmp 27) (.tmp 29) rfl w4.heap.size (.slice (some ⟨w4.heap.size, 0, none⟩) 0 0) [] rfl u1o0.out _ A n cap N rfl (R1.out.below u1B.out) (by have := HLN.out; simp; omega) u1B.out.size ?_
        intro vx u2 hown hg hat
        have hb : Below w4.heap.size u1 u2 := u1o0.out.lays (Below.refl _ _) (Nat.le_refl _) u1B.out.size hg
        have hown : OwC u2 w4.heap.size vx N := by simpa using hown
        have u2z : u1.heap.size ≤ u2.heap.size := hb.size
        have u2B := Lib.hid (u1B.out.trans hb)
        obtain ⟨u2b, u2n, u2c, rfl, u2h, u2l⟩ := ow_at (w := u1) (l := []) hown hat
        have u2o0 := Lib.hid hown
        clear hb hown hg hat
        refine hK.out _ _ (hT _ u2B.out) (fun hHeld => ?_)
        clear hK K
        try simp only [Act.put, List.setIfInBounds_toArray, List.set_cons_zero, List.set_cons_succ, List.getElem_toArray, List.getElem_cons_succ, List.getElem_cons_zero]
        refine wpAnyT_ready (rs := [4, 9]) (by kernel_rfl) (by simp) ?_
        refine AllReadyT.cons rfl (fun K hK => ?_) (AllReadyT.cons rfl (fun K hK => ?_) AllReadyT.nil)
        · skip
          go_simp
          have hb : Below u2.heap.size u2 (u2.alloc (.cells #[] 26)) := ((Below.refl _ _).alloc (Nat.le_refl _) _)
          have u3z : u2.heap.size < (u2.alloc (.cells #[] 26)).heap.size := by simp
          have nx : OwC (u2.alloc (.cells #[] 26)) w4.heap.size (.slice (some ⟨u2.heap.size, 0, none⟩) 0 0) [] := (Ow.empty cC 7 26 u2).base u2B.out.size
          have q0 := u2o0.out.under hb
          have qB := u2B.out.trans (hb.mono u2B.out.size)
          generalize (u2.alloc (.cells #[] 26)) = u3 at hb nx u3z qB q0 ⊢
          have u3o0 := Lib.hid q0
          have u3B := Lib.hid qB
          have u3o4 := Lib.hid nx
          clear hb nx qB q0
          refine hK.out _ _ (hT _ u3B.out) (fun hHeld => ?_)
          clear hK K
          try simp only [Act.put, List.setIfInBounds_toArray, List.set_cons_zero, List.set_cons_succ, List.getElem_toArray, List.getElem_cons_succ, List.getElem_cons_zero]
          refine wpAnyT_ready (rs := [7, 9]) (by kernel_rfl) (by simp) ?_
          refine AllReadyT.cons rfl (fun K hK => ?_) (AllReadyT.cons rfl (fun K hK => ?_) AllReadyT.nil)
          · skip
            refine step_append_row cC_len (by omega) cC_one coms_slice com_info rfl (by omega) u3 rfl (.tmp 31) (.tmp 33) rfl w4.heap.size (.slice (some ⟨u2.heap.size, 0, none⟩) 0 0) [] rfl u3o4.out _ A' m cap' W rfl (R2.out.below u3B.out) (by have := HLN.out; simp; omega) u3B.out.size ?_
            intro vx u4 hown hg hat
            have hb : Below w4.heap.size u3 u4 := u3o4.out.lays (Below.refl _ _) (Nat.le_refl _) u3B.out.size hg
            have hown : OwC u4 w4.heap.size vx W := by simpa using hown
            have u4z : u3.heap.size ≤ u4.heap.size := hb.size
            have u4B := Lib.hid (u3B.out.trans hb)
            have u4o0 : Hid (OwC u4 w4.heap.size (.slice (some ⟨u2b, 0, none⟩) u2n u2c) N) := Lib.hid (u3o0.out.kept hg (.inr (by simp [Value.ownBlock]; omega)))
            obtain ⟨u4b, u4n, u4c, rfl, u4h, u4l⟩ := ow_at (w := u3) (l := []) hown hat
            have u4o4 := Lib.hid hown
            clear hb hown hg hat
            refine hK.out _ _ (hT _ u4B.out) (fun hHeld => ?_)
            clear hK K
            try simp only [Act.put, List.setIfInBounds_toArray, List.set_cons_zero, List.set_cons_succ, List.getElem_toArray, List.getElem_cons_succ, List.getElem_cons_zero]
            refine wpAnyT_take (i := 8) (v := ?_) rfl (by kernel_rfl) (by kernel_rfl) (by kernel_rfl) (fun _ _ _ h => h) (Or.inl ⟨by rfl, ?_⟩) (by assumption) ?_
            rotate_left 1
            · intro w hSw; clear hSw; go_simp <;> (with_reducible rfl)
            try simp only [Act.put, List.setIfInBounds_toArray, List.set_cons_zero, List.set_cons_succ, List.getElem_toArray, List.getElem_cons_succ, List.getElem_cons_zero]
            refine wpAnyT_ready (rs := [9]) (by kernel_rfl) (by simp) ?_
            refine AllReadyT.cons rfl (fun K hK => ?_) AllReadyT.nil
            go_simp
            have hb : Below u4.heap.size u4 (u4.alloc (.cells #[.slice none 0 0, .slice none 0 0] 24)) := ((Below.refl _ _).alloc (Nat.le_refl _) _)
            have u5z : u4.heap.size < (u4.alloc (.cells #[.slice none 0 0, .slice none 0 0] 24)).heap.size := by simp
            have nx : VarL (u4.alloc (.cells #[.slice none 0 0, .slice none 0 0] 24)) u4.heap.size none 0 0 none 0 0 := VarL.new u4 _ _ _ _ _ _
            have q0 := u4o0.out.under hb
            have q4 := u4o4.out.under hb
            have qB := u4B.out.trans (hb.mono u4B.out.size)
            generalize (u4.alloc (.cells #[.slice none 0 0, .slice none 0 0] 24)) = u5 at hb nx u5z qB q0 q4 ⊢
            have u5o0 := Lib.hid q0
            have u5o4 := Lib.hid q4
            have u5B := Lib.hid qB
            have u5v := Lib.hid nx
            clear hb nx qB q0 q4
            refine hK.out _ _ (hT _ u5B.out) (fun hHeld => ?_)
            clear hK K
            try simp only [Act.put, List.setIfInBounds_toArray, List.set_cons_zero, List.set_cons_succ, List.getElem_toArray, List.getElem_cons_succ, List.getElem_cons_zero]
            have ⟨z0, z1, zf0, zf1⟩ := u5v.out.cells
            refine wpAnyT_ready (rs := [10]) (by kernel_rfl) (by simp) ?_
            refine AllReadyT.spoilt rfl (by kernel_rfl) (fun K hK => ?_) AllReadyT.nil
            go_simp
            refine hK.out _ _ ?_
            clear hK K
            try simp only [Act.put, List.setIfInBounds_toArray, List.set_cons_zero, List.set_cons_succ, List.getElem_toArray, List.getElem_cons_succ, List.getElem_cons_zero]
            refine wpAnyT_done (by kernel_rfl) ?_ _
            go_wp2_with fail
            go_meet
            case rel => exact ⟨u4.heap.size, (some ⟨u2b, 0, none⟩), u2n, u2c, (some ⟨u4b, 0, none⟩), u4n, u4c, rfl, u5v.out.set _ _ _ _ _ _, rdc_set u5v.out (ow_row u5o0.out) _ _ _ _ _ _, rdc_set u5v.out (ow_row u5o4.out) _ _ _ _ _ _, (u5B.out.setCell (show w4.heap.size ≤ u4.heap.size by omega) _).setCell (show w4.heap.size ≤ u4.heap.size by omega) _⟩
          · skip
            go_simp
            have hb : Below u3.heap.size u3 (u3.alloc (.cells #[.slice none 0 0, .slice none 0 0] 24)) := ((Below.refl _ _).alloc (Nat.le_refl _) _)
            have u6z : u3.heap.size < (u3.alloc (.cells #[.slice none 0 0, .slice none 0 0] 24)).heap.size := by simp
            have nx : VarL (u3.alloc (.cells #[.slice none 0 0, .slice none 0 0] 24)) u3.heap.size none 0 0 none 0 0 := VarL.new u3 _ _ _ _ _ _
            have q0 := u3o0.out.under hb
            have q4 := u3o4.out.under hb
            have qB := u3B.out.trans (hb.mono u3B.out.size)
            generalize (u3.alloc (.cells #[.slice none 0 0, .slice none 0 0] 24)) = u6 at hb nx u6z qB q0 q4 ⊢
            have u6o0 := Lib.hid q0
            have u6o4 := Lib.hid q4
            have u6B := Lib.hid qB
            have u6v := Lib.hid nx
            clear hb nx qB q0 q4
            refine hK.out _ _ (hT _ u6B.out) (fun hHeld => ?_)
            clear hK K
            try simp only [Act.put, List.setIfInBounds_toArray, List.set_cons_zero, List.set_cons_succ, List.getElem_toArray, List.getElem_cons_succ, List.getElem_cons_zero]
            refine wpAnyT_ready (rs := [7]) (by kernel_rfl) (by simp) ?_
            refine AllReadyT.cons rfl (fun K hK => ?_) AllReadyT.nil
            refine step_append_row cC_len (by omega) cC_one coms_slice com_info rfl (by omega) u6 rfl (.tmp 31) (.tmp 33) rfl w4.heap.size (.slice (some ⟨u2.heap.size, 0, none⟩) 0 0) [] rfl u6o4.out _ A' m cap' W rfl (R2.out.below u6B.out) (by have := HLN.out; simp; omega) u6B.out.size ?_
            intro vx u7 hown hg hat
            have hb : Below w4.heap.size u6 u7 := u6o4.out.lays (Below.refl _ _) (Nat.le_refl _) u6B.out.size hg
            have hown : OwC u7 w4.heap.size vx W := by simpa using hown
            have u7z : u6.heap.size ≤ u7.heap.size := hb.size
            have u7B := Lib.hid (u6B.out.trans hb)
            have u7o0 : Hid (OwC u7 w4.heap.size (.slice (some ⟨u2b, 0, none⟩) u2n u2c) N) := Lib.hid (u6o0.out.kept hg (.inr (by simp [Value.ownBlock]; omega)))
            have u7v := Lib.hid (u6v.out.grown hg (ow_ne u6o4.out u6v.out))
            obtain ⟨u7b, u7n, u7c, rfl, u7h, u7l⟩ := ow_at (w := u6) (l := []) hown hat
            have u7o4 := Lib.hid hown
            clear hb hown hg hat
            refine hK.out _ _ (hT _ u7B.out) (fun hHeld => ?_)
            clear hK K
            try simp only [Act.put, List.setIfInBounds_toArray, List.set_cons_zero, List.set_cons_succ, List.getElem_toArray, List.getElem_cons_succ, List.getElem_cons_zero]
            refine wpAnyT_take (i := 8) (v := ?_) rfl (by kernel_rfl) (by kernel_rfl) (by kernel_rfl) (fun _ _ _ h => h) (Or.inl ⟨by rfl, ?_⟩) (by assumption) ?_
            rotate_left 1
            · intro w hSw; clear hSw; go_simp <;> (with_reducible rfl)
            try simp only [Act.put, List.setIfInBounds_toArray, List.set_cons_zero, List.set_cons_succ, List.getElem_toArray, List.getElem_cons_succ, List.getElem_cons_zero]
            have ⟨z0, z1, zf0, zf1⟩ := u7v.out.cells
            refine wpAnyT_ready (rs := [10]) (by kernel_rfl) (by simp) ?_
            refine AllReadyT.spoilt rfl (by kernel_rfl) (fun K hK => ?_) AllReadyT.nil
            go_simp
            refine hK.out _ _ ?_
            clear hK K
            try simp only [Act.put, List.setIfInBounds_toArray, List.set_cons_zero, List.set_cons_succ, List.getElem_toArray, List.getElem_cons_succ, List.getElem_cons_zero]
            refine wpAnyT_done (by kernel_rfl) ?_ _
            go_wp2_with fail
            go_meet
            case rel => exact ⟨u3.heap.size, (some ⟨u2b, 0, none⟩), u2n, u2c, (some ⟨u7b, 0, none⟩), u7n, u7c, rfl, u7v.out.set _ _ _ _ _ _, rdc_set u7v.out (ow_row u7o0.out) _ _ _ _ _ _, rdc_set u7v.out (ow_row u7o4.out) _ _ _ _ _ _, (u7B.out.setCell (show w4.heap.size ≤ u3.heap.size by omega) _).setCell (show w4.heap.size ≤ u3.heap.size by omega) _⟩
        · skip
          go_simp
          have hb : Below u2.heap.size u2 (u2.alloc (.cells #[.slice none 0 0, .slice none 0 0] 24)) := ((Below.refl _ _).alloc (Nat.le_refl _) _)
          have u8z : u2.heap.size < (u2.alloc (.cells #[.slice none 0 0, .slice none 0 0] 24)).heap.size := by simp
          have nx : VarL (u2.alloc (.cells #[.slice none 0 0, .slice none 0 0] 24)) u2.heap.size none 0 0 none 0 0 := VarL.new u2 _ _ _ _ _ _
          have q0 := u2o0.out.under hb
          have qB := u2B.out.trans (hb.mono u2B.out.size)
          generalize (u2.alloc (.cells #[.slice none 0 0, .slice none 0 0] 24)) = u8 at hb nx u8z qB q0 ⊢
          have u8o0 := Lib.hid q0
          have u8B := Lib.hid qB
          have u8v := Lib.hid nx
          clear hb nx qB q0
          refine hK.out _ _ (hT _ u8B.out) (fun hHeld => ?_)
          clear hK K
          try simp only [Act.put, List.setIfInBounds_toArray, List.set_cons_zero, List.set_cons_succ, List.getElem_toArray, List.getElem_cons_succ, List.getElem_cons_zero]
          refine wpAnyT_ready (rs := [4]) (by kernel_rfl) (by simp) ?_
          refine AllReadyT.cons rfl (fun K hK => ?_) AllReadyT.nil
          go_simp
          have hb : Below u8.heap.size u8 (u8.alloc (.cells #[] 26)) := ((Below.refl _ _).alloc (Nat.le_refl _) _)
          have u9z : u8.heap.size < (u8.alloc (.cells #[] 26)).heap.size := by simp
          have nx : OwC (u8.alloc (.cells #[] 26)) w4.heap.size (.slice (some ⟨u8.heap.size, 0, none⟩) 0 0) [] := (Ow.empty cC 7 26 u8).base u8B.out.size
          have q0 := u8o0.out.under hb
          have qv := u8v.out.under hb
          have qB := u8B.out.trans (hb.mono u8B.out.size)
          generalize (u8.alloc (.cells #[] 26)) = u9 at hb nx u9z qB q0 qv ⊢
          have u9o0 := Lib.hid q0
          have u9v := Lib.hid qv
          have u9B := Lib.hid qB
          have u9o4 := Lib.hid nx
          clear hb nx qB q0 qv
          refine hK.out _ _ (hT _ u9B.out) (fun hHeld => ?_)
          clear hK K
          try simp only [Act.put, List.setIfInBounds_toArray, List.set_cons_zero, List.set_cons_succ, List.getElem_toArray, List.getElem_cons_succ, List.getElem_cons_zero]
          refine wpAnyT_ready (rs := [7]) (by kernel_rfl) (by simp) ?_
          refine AllReadyT.cons rfl (fun K hK => ?_) AllReadyT.nil
          refine step_append_row cC_len (by omega) cC_one coms_slice com_info rfl (by omega) u9 rfl (.tmp 31) (.tmp 33) rfl w4.heap.size (.slice (some ⟨u8.heap.size, 0, none⟩) 0 0) [] rfl u9o4.out _ A' m cap' W rfl (R2.out.below u9B.out) (by have := HLN.out; simp; omega) u9B.out.size ?_
          intro vx u10 hown hg hat
          have hb : Below w4.heap.size u9 u10 := u9o4.out.lays (Below.refl _ _) (Nat.le_refl _) u9B.out.size hg
          have hown : OwC u10 w4.heap.size vx W := by simpa using hown
          have u10z : u9.heap.size ≤ u10.heap.size := hb.size
          have u10B := Lib.hid (u9B.out.trans hb)
          have u10o0 : Hid (OwC u10 w4.heap.size (.slice (some ⟨u2b, 0, none⟩) u2n u2c) N) := Lib.hid (u9o0.out.kept hg (.inr (by simp [Value.ownBlock]; omega)))
          have u10v := Lib.hid (u9v.out.grown hg (ow_ne u9o4.out u9v.out))
          obtain ⟨u10b, u10n, u10c, rfl, u10h, u10l⟩ := ow_at (w := u9) (l := []) hown hat
          have u10o4 := Lib.hid hown
          clear hb hown hg hat
          refine hK.out _ _ (hT _ u10B.out) (fun hHeld => ?_)
          clear hK K
          try simp only [Act.put, List.setIfInBounds_toArray, List.set_cons_zero, List.set_cons_succ, List.getElem_toArray, List.getElem_cons_succ, List.getElem_cons_zero]
          refine wpAnyT_take (i := 8) (v := ?_) rfl (by kernel_rfl) (by kernel_rfl) (by kernel_rfl) (fun _ _ _ h => h) (Or.inl ⟨by rfl, ?_⟩) (by assumption) ?_
          rotate_left 1
          · intro w hSw; clear hSw; go_simp <;> (with_reducible rfl)
          try simp only [Act.put, List.setIfInBounds_toArray, List.set_cons_zero, List.set_cons_succ, List.getElem_toArray, List.getElem_cons_succ, List.getElem_cons_zero]
          have ⟨z0, z1, zf0, zf1⟩ := u10v.out.cells
          refine wpAnyT_ready (rs := [10]) (by kernel_rfl) (by simp) ?_
          refine AllReadyT.spoilt rfl (by kernel_rfl) (fun K hK => ?_) AllReadyT.nil
          go_simp
          refine hK.out _ _ ?_
          clear hK K
          try simp only [Act.put, List.setIfInBounds_toArray, List.set_cons_zero, List.set_cons_succ, List.getElem_toArray, List.getElem_cons_succ, List.getElem_cons_zero]
          refine wpAnyT_done (by kernel_rfl) ?_ _
          go_wp2_with fail
          go_meet
          case rel => exact ⟨u2.heap.size, (some ⟨u2b, 0, none⟩), u2n, u2c, (some ⟨u10b, 0, none⟩), u10n, u10c, rfl, u10v.out.set _ _ _ _ _ _, rdc_set u10v.out (ow_row u10o0.out) _ _ _ _ _ _, rdc_set u10v.out (ow_row u10o4.out) _ _ _ _ _ _, (u10B.out.setCell (show w4.heap.size ≤ u2.heap.size by omega) _).setCell (show w4.heap.size ≤ u2.heap.size by omega) _⟩
      · skip
        go_simp
        have hb : Below u1.heap.size u1 (u1.alloc (.cells #[] 26)) := ((Below.refl _ _).alloc (Nat.le_refl _) _)
        have u11z : u1.heap.size < (u1.alloc (.cells #[] 26)).heap.size := by simp
        have nx : OwC (u1.alloc (.cells #[] 26)) w4.heap.size (.slice (some ⟨u1.heap.size, 0, none⟩) 0 0) [] := (Ow.empty cC 7 26 u1).base u1B.out.size
        have q0 := u1o0.out.under hb
        have qB := u1B.out.trans (hb.mono u1B.out.size)
        generalize (u1.alloc (.cells #[] 26)) = u11 at hb nx u11z qB q0 ⊢
        have u11o0 := Lib.hid q0
        have u11B := Lib.hid qB
        have u11o4 := Lib.hid nx
        clear hb nx qB q0
        refine hK.out _ _ (hT _ u11B.out) (fun hHeld => ?_)
        clear hK K
        try simp only [Act.put, List.setIfInBounds_toArray, List.set_cons_zero, List.set_cons_succ, List.getElem_toArray, List.getElem_cons_succ, List.getElem_cons_zero]
        refine wpAnyT_ready (rs := [3, 9]) (by kernel_rfl) (by simp) ?_
        refine AllReadyT.cons rfl (fun K hK => ?_) (AllReadyT.cons rfl (fun K hK => ?_) AllReadyT.nil)
        · skip
          refine step_append_row cC_len (by omega) cC_one coms_slice com_info rfl (by omega) u11 rfl (.tmp 27) (.tmp 29) rfl w4.heap.size (.slice (some ⟨w4.heap.size, 0, none⟩) 0 0) [] rfl u11o0.out _ A n cap N rfl (R1.out.below u11B.out) (by have := HLN.out; simp; omega) u11B.out.size ?_
          intro vx u12 hown hg hat
          have hb : Below w4.heap.size u11 u12 := u11o0.out.lays (Below.refl _ _) (Nat.le_refl _) u11B.out.size hg
          have hown : OwC u12 w4.heap.size vx N := by simpa using hown
          have u12z : u11.heap.size ≤ u12.heap.size := hb.size
          have u12B := Lib.hid (u11B.out.trans hb)
          have u12o4 : Hid (OwC u12 w4.heap.size (.slice (some ⟨u1.heap.size, 0, none⟩) 0 0) []) := Lib.hid (u11o4.out.kept hg (.inr (by simp [Value.ownBlock]; omega)))
          obtain ⟨u12b, u12n, u12c, rfl, u12h, u12l⟩ := ow_at (w := u11) (l := []) hown hat
          have u12o0 := Lib.hid hown
          clear hb hown hg hat
          refine hK.out _ _ (hT _ u12B.out) (fun hHeld => ?_)
          clear hK K
          try simp only [Act.put, List.setIfInBounds_toArray, List.set_cons_zero, List.set_cons_succ, List.getElem_toArray, List.getElem_cons_succ, List.getElem_cons_zero]
          refine wpAnyT_ready (rs := [7, 9]) (by kernel_rfl) (by simp) ?_
          refine AllReadyT.cons rfl (fun K hK => ?_) (AllReadyT.cons rfl (fun K hK => ?_) AllReadyT.nil)
          · skip
            refine step_append_row cC_len (by omega) cC_one coms_slice com_info rfl (by omega) u12 rfl (.tmp 31) (.tmp 33) rfl w4.heap.size (.slice (some ⟨u1.heap.size, 0, none⟩) 0 0) [] rfl u12o4.out _ A' m cap' W rfl (R2.out.below u12B.out) (by have := HLN.out; simp; omega) u12B.out.size ?_
            intro vx u13 hown hg hat
            have hb : Below w4.heap.size u12 u13 := u12o4.out.lays (Below.refl _ _) (Nat.le_refl _) u12B.out.size hg
            have hown : OwC u13 w4.heap.size vx W := by simpa using hown
            have u13z : u12.heap.size ≤ u13.heap.size := hb.size
            have u13B := Lib.hid (u12B.out.trans hb)
            have u13o0 : Hid (OwC u13 w4.heap.size (.slice (some ⟨u12b, 0, none⟩) u12n u12c) N) := Lib.hid (u12o0.out.kept hg (.inr (by simp [Value.ownBlock]; omega)))
            obtain ⟨u13b, u13n, u13c, rfl, u13h, u13l⟩ := ow_at (w := u12) (l := []) hown hat
            have u13o4 := Lib.hid hown
            clear hb hown hg hat
            refine hK.out _ _ (hT _ u13B.out) (fun hHeld => ?_)
            clear hK K
            try simp only [Act.put, List.setIfInBounds_toArray, List.set_cons_zero, List.set_cons_succ, List.getElem_toArray, List.getElem_cons_succ, List.getElem_cons_zero]
            refine wpAnyT_take (i := 8) (v := ?_) rfl (by kernel_rfl) (by kernel_rfl) (by kernel_rfl) (fun _ _ _ h => h) (Or.inl ⟨by rfl, ?_⟩) (by assumption) ?_
            rotate_left 1
            · intro w hSw; clear hSw; go_simp <;> (with_reducible rfl)
            try simp only [Act.put, List.setIfInBounds_toArray, List.set_cons_zero, List.set_cons_succ, List.getElem_toArray, List.getElem_cons_succ, List.getElem_cons_zero]
            refine wpAnyT_ready (rs := [9]) (by kernel_rfl) (by simp) ?_
            refine AllReadyT.cons rfl (fun K hK => ?_) AllReadyT.nil
            go_simp
            have hb : Below u13.heap.size u13 (u13.alloc (.cells #[.slice none 0 0, .slice none 0 0] 24)) := ((Below.refl _ _).alloc (Nat.le_refl _) _)
            have u14z : u13.heap.size < (u13.alloc (.cells #[.slice none 0 0, .slice none 0 0] 24)).heap.size := by simp
            have nx : VarL (u13.alloc (.cells #[.slice none 0 0, .slice none 0 0] 24)) u13.heap.size none 0 0 none 0 0 := VarL.new u13 _ _ _ _ _ _
            have q0 := u13o0.out.under hb
            have q4 := u13o4.out.under hb
            have qB := u13B.out.trans (hb.mono u13B.out.size)
            generalize (u13.alloc (.cells #[.slice none 0 0, .slice none 0 0] 24)) = u14 at hb nx u14z qB q0 q4 ⊢
            have u14o0 := Lib.hid q0
            have u14o4 := Lib.hid q4
            have u14B := Lib.hid qB
            have u14v := Lib.hid nx
            clear hb nx qB q0 q4
            refine hK.out _ _ (hT _ u14B.out) (fun hHeld => ?_)
            clear hK K
            try simp only [Act.put, List.setIfInBounds_toArray, List.set_cons_zero, List.set_cons_succ, List.getElem_toArray, List.getElem_cons_succ, List.getElem_cons_zero]
            have ⟨z0, z1, zf0, zf1⟩ := u14v.out.cells
            refine wpAnyT_ready (rs := [10]) (by kernel_rfl) (by simp) ?_
            refine AllReadyT.spoilt rfl (by kernel_rfl) (fun K hK => ?_) AllReadyT.nil
            go_simp
            refine hK.out _ _ ?_
            clear hK K
            try simp only [Act.put, List.setIfInBounds_toArray, List.set_cons_zero, List.set_cons_succ, List.getElem_toArray, List.getElem_cons_succ, List.getElem_cons_zero]
            refine wpAnyT_done (by kernel_rfl) ?_ _
            go_wp2_with fail
            go_meet
            case rel => exact ⟨u13.heap.size, (some ⟨u12b, 0, none⟩), u12n, u12c, (some ⟨u13b, 0, none⟩), u13n, u13c, rfl, u14v.out.set _ _ _ _ _ _, rdc_set u14v.out (ow_row u14o0.out) _ _ _ _ _ _, rdc_set u14v.out (ow_row u14o4.out) _ _ _ _ _ _, (u14B.out.setCell (show w4.heap.size ≤ u13.heap.size by omega) _).setCell (show w4.heap.size ≤ u13.heap.size by omega) _⟩
          · skip
            go_simp
            have hb : Below u12.heap.size u12 (u12.alloc (.cells #[.slice none 0 0, .slice none 0 0] 24)) := ((Below.refl _ _).alloc (Nat.le_refl _) _)
            have u15z : u12.heap.size < (u12.alloc (.cells #[.slice none 0 0, .slice none 0 0] 24)).heap.size := by simp
            have nx : VarL (u12.alloc (.cells #[.slice none 0 0, .slice none 0 0] 24)) u12.heap.size none 0 0 none 0 0 := VarL.new u12 _ _ _ _ _ _
            have q0 := u12o0.out.under hb
            have q4 := u12o4.out.under hb
            have qB := u12B.out.trans (hb.mono u12B.out.size)
            generalize (u12.alloc (.cells #[.slice none 0 0, .slice none 0 0] 24)) = u15 at hb nx u15z qB q0 q4 ⊢
            have u15o0 := Lib.hid q0
            have u15o4 := Lib.hid q4
            have u15B := Lib.hid qB
            have u15v := Lib.hid nx
            clear hb nx qB q0 q4
            refine hK.out _ _ (hT _ u15B.out) (fun hHeld => ?_)
            clear hK K
            try simp only [Act.put, List.setIfInBounds_toArray, List.set_cons_zero, List.set_cons_succ, List.getElem_toArray, List.getElem_cons_succ, List.getElem_cons_zero]
            refine wpAnyT_ready (rs := [7]) (by kernel_rfl) (by simp) ?_
            refine AllReadyT.cons rfl (fun K hK => ?_) AllReadyT.nil
            refine step_append_row cC_len (by omega) cC_one coms_slice com_info rfl (by omega) u15 rfl (.tmp 31) (.tmp 33) rfl w4.heap.size (.slice (some ⟨u1.heap.size, 0, none⟩) 0 0) [] rfl u15o4.out _ A' m cap' W rfl (R2.out.below u15B.out) (by have := HLN.out; simp; omega) u15B.out.size ?_
            intro vx u16 hown hg hat
            have hb : Below w4.heap.size u15 u16 := u15o4.out.lays (Below.refl _ _) (Nat.le_refl _) u15B.out.size hg
            have hown : OwC u16 w4.heap.size vx W := by simpa using hown
            have u16z : u15.heap.size ≤ u16.heap.size := hb.size
            have u16B := Lib.hid (u15B.out.trans hb)
            have u16o0 : Hid (OwC u16 w4.heap.size (.slice (some ⟨u12b, 0, none⟩) u12n u12c) N) := Lib.hid (u15o0.out.kept hg (.inr (by simp [Value.ownBlock]; omega)))
            have u16v := Lib.hid (u15v.out.grown hg (ow_ne u15o4.out u15v.out))
            obtain ⟨u16b, u16n, u16c, rfl, u16h, u16l⟩ := ow_at (w := u15) (l := []) hown hat
            have u16o4 := Lib.hid hown
            clear hb hown hg hat
            refine hK.out _ _ (hT _ u16B.out) (fun hHeld => ?_)
            clear hK K
            try simp only [Act.put, List.setIfInBounds_toArray, List.set_cons_zero, List.set_cons_succ, List.getElem_toArray, List.getElem_cons_succ, List.getElem_cons_zero]
            refine wpAnyT_take (i := 8) (v := ?_) rfl (by kernel_rfl) (by kernel_rfl) (by kernel_rfl) (fun _ _ _ h => h) (Or.inl ⟨by rfl, ?_⟩) (by assumption) ?_
            rotate_left 1
            · intro w hSw; clear hSw; go_simp <;> (with_reducible rfl)
            try simp only [Act.put, List.setIfInBounds_toArray, List.set_cons_zero, List.set_cons_succ, List.getElem_toArray, List.getElem_cons_succ, List.getElem_cons_zero]
            have ⟨z0, z1, zf0, zf1⟩ := u16v.out.cells
            refine wpAnyT_ready (rs := [10]) (by kernel_rfl) (by simp) ?_
            refine AllReadyT.spoilt rfl (by kernel_rfl) (fun K hK => ?_) AllReadyT.nil
            go_simp
            refine hK.out _ _ ?_
            clear hK K
            try simp only [Act.put, List.setIfInBounds_toArray, List.set_cons_zero, List.set_cons_succ, List.getElem_toArray, List.getElem_cons_succ, List.getElem_cons_zero]
            refine wpAnyT_done (by kernel_rfl) ?_ _
            go_wp2_with fail
            go_meet
            case rel => exact ⟨u12.heap.size, (some ⟨u12b, 0, none⟩), u12n, u12c, (some ⟨u16b, 0, none⟩), u16n, u16c, rfl, u16v.out.set _ _ _ _ _ _, rdc_set u16v.out (ow_row u16o0.out) _ _ _ _ _ _, rdc_set u16v.out (ow_row u16o4.out) _ _ _ _ _ _, (u16B.out.setCell (show w4.heap.size ≤ u12.heap.size by omega) _).setCell (show w4.heap.size ≤ u12.heap.size by omega) _⟩
        · skip
          go_simp
          have hb : Below u11.heap.size u11 (u11.alloc (.cells #[.slice none 0 0, .slice none 0 0] 24)) := ((Below.refl _ _).alloc (Nat.le_refl _) _)
          have u17z : u11.heap.size < (u11.alloc (.cells #[.slice none 0 0, .slice none 0 0] 24)).heap.size := by simp
          have nx : VarL (u11.alloc (.cells #[.slice none 0 0, .slice none 0 0] 24)) u11.heap.size none 0 0 none 0 0 := VarL.new u11 _ _ _ _ _ _
          have q0 := u11o0.out.under hb
          have q4 := u11o4.out.under hb
          have qB := u11B.out.trans (hb.mono u11B.out.size)
          generalize (u11.alloc (.cells #[.slice none 0 0, .slice none 0 0] 24)) = u17 at hb nx u17z qB q0 q4 ⊢
          have u17o0 := Lib.hid q0
          have u17o4 := Lib.hid q4
          have u17B := Lib.hid qB
          have u17v := Lib.hid nx
          clear hb nx qB q0 q4
          refine hK.out _ _ (hT _ u17B.out) (fun hHeld => ?_)
          clear hK K
          try simp only [Act.put, List.setIfInBounds_toArray, List.set_cons_zero, List.set_cons_succ, List.getElem_toArray, List.getElem_cons_succ, List.getElem_cons_zero]
          refine wpAnyT_ready (rs := [3]) (by kernel_rfl) (by simp) ?_
          refine AllReadyT.cons rfl (fun K hK => ?_) AllReadyT.nil
          refine step_append_row cC_len (by omega) cC_one coms_slice com_info rfl (by omega) u17 rfl (.tmp 27) (.tmp 29) rfl w4.heap.size (.slice (some ⟨w4.heap.size, 0, none⟩) 0 0) [] rfl u17o0.out _ A n cap N rfl (R1.out.below u17B.out) (by have := HLN.out; simp; omega) u17B.out.size ?_
          intro vx u18 hown hg hat
          have hb : Below w4.heap.size u17 u18 := u17o0.out.lays (Below.refl _ _) (Nat.le_refl _) u17B.out.size hg
          have hown : OwC u18 w4.heap.size vx N := by simpa using hown
          have u18z : u17.heap.size ≤ u18.heap.size := hb.size
          have u18B := Lib.hid (u17B.out.trans hb)
          have u18o4 : Hid (OwC u18 w4.heap.size (.slice (some ⟨u1.heap.size, 0, none⟩) 0 0) []) := Lib.hid (u17o4.out.kept hg (.inr (by simp [Value.ownBlock]; omega)))
          have u18v := Lib.hid (u17v.out.grown hg (ow_ne u17o0.out u17v.out))
          obtain ⟨u18b, u18n, u18c, rfl, u18h, u18l⟩ := ow_at (w := u17) (l := []) hown hat
          have u18o0 := Lib.hid hown
          clear hb hown hg hat
          refine hK.out _ _ (hT _ u18B.out) (fun hHeld => ?_)
          clear hK K
          try simp only [Act.put, List.setIfInBounds_toArray, List.set_cons_zero, List.set_cons_succ, List.getElem_toArray, List.getElem_cons_succ, List.getElem_cons_zero]
          refine wpAnyT_ready (rs := [7]) (by kernel_rfl) (by simp) ?_
          refine AllReadyT.cons rfl (fun K hK => ?_) AllReadyT.nil
          refine step_append_row cC_len (by omega) cC_one coms_slice com_info rfl (by omega) u18 rfl (.tmp 31) (.tmp 33) rfl w4.heap.size (.slice (some ⟨u1.heap.size, 0, none⟩) 0 0) [] rfl u18o4.out _ A' m cap' W rfl (R2.out.below u18B.out) (by have := HLN.out; simp; omega) u18B.out.size ?_
          intro vx u19 hown hg hat
          have hb : Below w4.heap.size u18 u19 := u18o4.out.lays (Below.refl _ _) (Nat.le_refl _) u18B.out.size hg
          have hown : OwC u19 w4.heap.size vx W := by simpa using hown
          have u19z : u18.heap.size ≤ u19.heap.size := hb.size
          have u19B := Lib.hid (u18B.out.trans hb)
          have u19o0 : Hid (OwC u19 w4.heap.size (.slice (some ⟨u18b, 0, none⟩) u18n u18c) N) := Lib.hid (u18o0.out.kept hg (.inr (by simp [Value.ownBlock]; omega)))
          have u19v := Lib.hid (u18v.out.grown hg (ow_ne u18o4.out u18v.out))
          obtain ⟨u19b, u19n, u19c, rfl, u19h, u19l⟩ := ow_at (w := u18) (l := []) hown hat
          have u19o4 := Lib.hid hown
          clear hb hown hg hat
          refine hK.out _ _ (hT _ u19B.out) (fun hHeld => ?_)
          clear hK K
          try simp only [Act.put, List.setIfInBounds_toArray, List.set_cons_zero, List.set_cons_succ, List.getElem_toArray, List.getElem_cons_succ, List.getElem_cons_zero]
          refine wpAnyT_take (i := 8) (v := ?_) rfl (by kernel_rfl) (by kernel_rfl) (by kernel_rfl) (fun _ _ _ h => h) (Or.inl ⟨by rfl, ?_⟩) (by assumption) ?_
          rotate_left 1
          · intro w hSw; clear hSw; go_simp <;> (with_reducible rfl)
          try simp only [Act.put, List.setIfInBounds_toArray, List.set_cons_zero, List.set_cons_succ, List.getElem_toArray, List.getElem_cons_succ, List.getElem_cons_zero]
          have ⟨z0, z1, zf0, zf1⟩ := u19v.out.cells
          refine wpAnyT_ready (rs := [10]) (by kernel_rfl) (by simp) ?_
          refine AllReadyT.spoilt rfl (by kernel_rfl) (fun K hK => ?_) AllReadyT.nil
          go_simp
          refine hK.out _ _ ?_
          clear hK K
          try simp only [Act.put, List.setIfInBounds_toArray, List.set_cons_zero, List.set_cons_succ, List.getElem_toArray, List.getElem_cons_succ, List.getElem_cons_zero]
          refine wpAnyT_done (by kernel_rfl) ?_ _
          go_wp2_with fail
          go_meet
          case rel => exact ⟨u11.heap.size, (some ⟨u18b, 0, none⟩), u18n, u18c, (some ⟨u19b, 0, none⟩), u19n, u19c, rfl, u19v.out.set _ _ _ _ _ _, rdc_set u19v.out (ow_row u19o0.out) _ _ _ _ _ _, rdc_set u19v.out (ow_row u19o4.out) _ _ _ _ _ _, (u19B.out.setCell (show w4.heap.size ≤ u11.heap.size by omega) _).setCell (show w4.heap.size ≤ u11.heap.size by omega) _⟩
      · skip
        go_simp
        have hb : Below u1.heap.size u1 (u1.alloc (.cells #[.slice none 0 0, .slice none 0 0] 24)) := ((Below.refl _ _).alloc (Nat.le_refl _) _)
        have u20z : u1.heap.size < (u1.alloc (.cells #[.slice none 0 0, .slice none 0 0] 24)).heap.size := by simp
        have nx : VarL (u1.alloc (.cells #[.slice none 0 0, .slice none 0 0] 24)) u1.heap.size none 0 0 none 0 0 := VarL.new u1 _ _ _ _ _ _
        have q0 := u1o0.out.under hb
        have qB := u1B.out.trans (hb.mono u1B.out.size)
        generalize (u1.alloc (.cells #[.slice none 0 0, .slice none 0 0] 24)) = u20 at hb nx u20z qB q0 ⊢
        have u20o0 := Lib.hid q0
        have u20B := Lib.hid qB
        have u20v := Lib.hid nx
        clear hb nx qB q0
        refine hK.out _ _ (hT _ u20B.out) (fun hHeld => ?_)
        clear hK K
        try simp only [Act.put, List.setIfInBounds_toArray, List.set_cons_zero, List.set_cons_succ, List.getElem_toArray, List.getElem_cons_succ, List.getElem_cons_zero]
        refine wpAnyT_ready (rs := [3, 4]) (by kernel_rfl) (by simp) ?_
        refine AllReadyT.cons rfl (fun K hK => ?_) (AllReadyT.cons rfl (fun K hK => ?_) AllReadyT.nil)
        · skip
          refine step_append_row cC_len (by omega) cC_one coms_slice com_info rfl (by omega) u20 rfl (.tmp 27) (.tmp 29) rfl w4.heap.size (.slice (some ⟨w4.heap.size, 0, none⟩) 0 0) [] rfl u20o0.out _ A n cap N rfl (R1.out.below u20B.out) (by have := HLN.out; simp; omega) u20B.out.size ?_
          intro vx u21 hown hg hat
          have hb : Below w4.heap.size u20 u21 := u20o0.out.lays (Below.refl _ _) (Nat.le_refl _) u20B.out.size hg
          have hown : OwC u21 w4.heap.size vx N := by simpa using hown
          have u21z : u20.heap.size ≤ u21.heap.size := hb.size
          have u21B := Lib.hid (u20B.out.trans hb)
          have u21v := Lib.hid (u20v.out.grown hg (ow_ne u20o0.out u20v.out))
          obtain ⟨u21b, u21n, u21c, rfl, u21h, u21l⟩ := ow_at (w := u20) (l := []) hown hat
          have u21o0 := Lib.hid hown
          clear hb hown hg hat
          refine hK.out _ _ (hT _ u21B.out) (fun hHeld => ?_)
          clear hK K
          try simp only [Act.put, List.setIfInBounds_toArray, List.set_cons_zero, List.set_cons_succ, List.getElem_toArray, List.getElem_cons_succ, List.getElem_cons_zero]
          refine wpAnyT_ready (rs := [4]) (by kernel_rfl) (by simp) ?_
          refine AllReadyT.cons rfl (fun K hK => ?_) AllReadyT.nil
          go_simp
          have hb : Below u21.heap.size u21 (u21.alloc (.cells #[] 26)) := ((Below.refl _ _).alloc (Nat.le_refl _) _)
          have u22z : u21.heap.size < (u21.alloc (.cells #[] 26)).heap.size := by simp
          have nx : OwC (u21.alloc (.cells #[] 26)) w4.heap.size (.slice (some ⟨u21.heap.size, 0, none⟩) 0 0) [] := (Ow.empty cC 7 26 u21).base u21B.out.size
          have q0 := u21o0.out.under hb
          have qv := u21v.out.under hb
          have qB := u21B.out.trans (hb.mono u21B.out.size)
          generalize (u21.alloc (.cells #[] 26)) = u22 at hb nx u22z qB q0 qv ⊢
          have u22o0 := Lib.hid q0
          have u22v := Lib.hid qv
          have u22B := Lib.hid qB
          have u22o4 := Lib.hid nx
          clear hb nx qB q0 qv
          refine hK.out _ _ (hT _ u22B.out) (fun hHeld => ?_)
          clear hK K
          try simp only [Act.put, List.setIfInBounds_toArray, List.set_cons_zero, List.set_cons_succ, List.getElem_toArray, List.getElem_cons_succ, List.getElem_cons_zero]
          refine wpAnyT_ready (rs := [7]) (by kernel_rfl) (by simp) ?_
          refine AllReadyT.cons rfl (fun K hK => ?_) AllReadyT.nil
          refine step_append_row cC_len (by omega) cC_one coms_slice com_info rfl (by omega) u22 rfl (.tmp 31) (.tmp 33) rfl w4.heap.size (.slice (some ⟨u21.heap.size, 0, none⟩) 0 0) [] rfl u22o4.out _ A' m cap' W rfl (R2.out.below u22B.out) (by have := HLN.out; simp; omega) u22B.out.size ?_
          intro vx u23 hown hg hat
          have hb : Below w4.heap.size u22 u23 := u22o4.out.lays (Below.refl _ _) (Nat.le_refl _) u22B.out.size hg
          have hown : OwC u23 w4.heap.size vx W := by simpa using hown
          have u23z : u22.heap.size ≤ u23.heap.size := hb.size
          have u23B := Lib.hid (u22B.out.trans hb)
          have u23o0 : Hid (OwC u23 w4.heap.size (.slice (some ⟨u21b, 0, none⟩) u21n u21c) N) := Lib.hid (u22o0.out.kept hg (.inr (by simp [Value.ownBlock]; omega)))
          have u23v := Lib.hid (u22v.out.grown hg (ow_ne u22o4.out u22v.out))
          obtain ⟨u23b, u23n, u23c, rfl, u23h, u23l⟩ := ow_at (w := u22) (l := []) hown hat
          have u23o4 := Lib.hid hown
          clear hb hown hg hat
          refine hK.out _ _ (hT _ u23B.out) (fun hHeld => ?_)
          clear hK K
          try simp only [Act.put, List.setIfInBounds_toArray, List.set_cons_zero, List.set_cons_succ, List.getElem_toArray, List.getElem_cons_succ, List.getElem_cons_zero]
          refine wpAnyT_take (i := 8) (v := ?_) rfl (by kernel_rfl) (by kernel_rfl) (by kernel_rfl) (fun _ _ _ h => h) (Or.inl ⟨by rfl, ?_⟩) (by assumption) ?_
          rotate_left 1
          · intro w hSw; clear hSw; go_simp <;> (with_reducible rfl)
          try simp only [Act.put, List.setIfInBounds_toArray, List.set_cons_zero, List.set_cons_succ, List.getElem_toArray, List.getElem_cons_succ, List.getElem_cons_zero]
          have ⟨z0, z1, zf0, zf1⟩ := u23v.out.cells
          refine wpAnyT_ready (rs := [10]) (by kernel_rfl) (by simp) ?_
          refine AllReadyT.spoilt rfl (by kernel_rfl) (fun K hK => ?_) AllReadyT.nil
          go_simp
          refine hK.out _ _ ?_
          clear hK K
          try simp only [Act.put, List.setIfInBounds_toArray, List.set_cons_zero, List.set_cons_succ, List.getElem_toArray, List.getElem_cons_succ, List.getElem_cons_zero]
          refine wpAnyT_done (by kernel_rfl) ?_ _
          go_wp2_with fail
          go_meet
          case rel => exact ⟨u1.heap.size, (some ⟨u21b, 0, none⟩), u21n, u21c, (some ⟨u23b, 0, none⟩), u23n, u23c, rfl, u23v.out.set _ _ _ _ _ _, rdc_set u23v.out (ow_row u23o0.out) _ _ _ _ _ _, rdc_set u23v.out (ow_row u23o4.out) _ _ _ _ _ _, (u23B.out.setCell (show w4.heap.size ≤ u1.heap.size by omega) _).setCell (show w4.heap.size ≤ u1.heap.size by omega) _⟩
        · skip
          go_simp
          have hb : Below u20.heap.size u20 (u20.alloc (.cells #[] 26)) := ((Below.refl _ _).alloc (Nat.le_refl _) _)
          have u24z : u20.heap.size < (u20.alloc (.cells #[] 26)).heap.size := by simp
          have nx : OwC (u20.alloc (.cells #[] 26)) w4.heap.size (.slice (some ⟨u20.heap.size, 0, none⟩) 0 0) [] := (Ow.empty cC 7 26 u20).base u20B.out.size
          have q0 := u20o0.out.under hb
          have qv := u20v.out.under hb
          have qB := u20B.out.trans (hb.mono u20B.out.size)
          generalize (u20.alloc (.cells #[] 26)) = u24 at hb nx u24z qB q0 qv ⊢
          have u24o0 := Lib.hid q0
          have u24v := Lib.hid qv
          have u24B := Lib.hid qB
          have u24o4 := Lib.hid nx
          clear hb nx qB q0 qv
          refine hK.out _ _ (hT _ u24B.out) (fun hHeld => ?_)
          clear hK K
          try simp only [Act.put, List.setIfInBounds_toArray, List.set_cons_zero, List.set_cons_succ, List.getElem_toArray, List.getElem_cons_succ, List.getElem_cons_zero]
          refine wpAnyT_ready (rs := [3]) (by kernel_rfl) (by simp) ?_
          refine AllReadyT.cons rfl (fun K hK => ?_) AllReadyT.nil
          refine step_append_row cC_len (by omega) cC_one coms_slice com_info rfl (by omega) u24 rfl (.tmp 27) (.tmp 29) rfl w4.heap.size (.slice (some ⟨w4.heap.size, 0, none⟩) 0 0) [] rfl u24o0.out _ A n cap N rfl (R1.out.below u24B.out) (by have := HLN.out; simp; omega) u24B.out.size ?_
          intro vx u25 hown hg hat
          have hb : Below w4.heap.size u24 u25 := u24o0.out.lays (Below.refl _ _) (Nat.le_refl _) u24B.out.size hg
          have hown : OwC u25 w4.heap.size vx N := by simpa using hown
          have u25z : u24.heap.size ≤ u25.heap.size := hb.size
          have u25B := Lib.hid (u24B.out.trans hb)
          have u25o4 : Hid (OwC u25 w4.heap.size (.slice (some ⟨u20.heap.size, 0, none⟩) 0 0) []) := Lib.hid (u24o4.out.kept hg (.inr (by simp [Value.ownBlock]; omega)))
          have u25v := Lib.hid (u24v.out.grown hg (ow_ne u24o0.out u24v.out))
          obtain ⟨u25b, u25n, u25c, rfl, u25h, u25l⟩ := ow_at (w := u24) (l := []) hown hat
          have u25o0 := Lib.hid hown
          clear hb hown hg hat
          refine hK.out _ _ (hT _ u25B.out) (fun hHeld => ?_)
          clear hK K
          try simp only [Act.put, List.setIfInBounds_toArray, List.set_cons_zero, List.set_cons_succ, List.getElem_toArray, List.getElem_cons_succ, List.getElem_cons_zero]
          refine wpAnyT_ready (rs := [7]) (by kernel_rfl) (by simp) ?_
          refine AllReadyT.cons rfl (fun K hK => ?_) AllReadyT.nil
          refine step_append_row cC_len (by omega) cC_one coms_slice com_info rfl (by omega) u25 rfl (.tmp 31) (.tmp 33) rfl w4.heap.size (.slice (some ⟨u20.heap.size, 0, none⟩) 0 0) [] rfl u25o4.out _ A' m cap' W rfl (R2.out.below u25B.out) (by have := HLN.out; simp; omega) u25B.out.size ?_
          intro vx u26 hown hg hat
          have hb : Below w4.heap.size u25 u26 := u25o4.out.lays (Below.refl _ _) (Nat.le_refl _) u25B.out.size hg
          have hown : OwC u26 w4.heap.size vx W := by simpa using hown
          have u26z : u25.heap.size ≤ u26.heap.size := hb.size
          have u26B := Lib.hid (u25B.out.trans hb)
          have u26o0 : Hid (OwC u26 w4.heap.size (.slice (some ⟨u25b, 0, none⟩) u25n u25c) N) := Lib.hid (u25o0.out.kept hg (.inr (by simp [Value.ownBlock]; omega)))
          have u26v := Lib.hid (u25v.out.grown hg (ow_ne u25o4.out u25v.out))
          obtain ⟨u26b, u26n, u26c, rfl, u26h, u26l⟩ := ow_at (w := u25) (l := []) hown hat
          have u26o4 := Lib.hid hown
          clear hb hown hg hat
          refine hK.out _ _ (hT _ u26B.out) (fun hHeld => ?_)
          clear hK K
          try simp only [Act.put, List.setIfInBounds_toArray, List.set_cons_zero, List.set_cons_succ, List.getElem_toArray, List.getElem_cons_succ, List.getElem_cons_zero]
          refine wpAnyT_take (i := 8) (v := ?_) rfl (by kernel_rfl) (by kernel_rfl) (by kernel_rfl) (fun _ _ _ h => h) (Or.inl ⟨by rfl, ?_⟩) (by assumption) ?_
          rotate_left 1
          · intro w hSw; clear hSw; go_simp <;> (with_reducible rfl)
          try simp only [Act.put, List.setIfInBounds_toArray, List.set_cons_zero, List.set_cons_succ, List.getElem_toArray, List.getElem_cons_succ, List.getElem_cons_zero]
          have ⟨z0, z1, zf0, zf1⟩ := u26v.out.cells
          refine wpAnyT_ready (rs := [10]) (by kernel_rfl) (by simp) ?_
          refine AllReadyT.spoilt rfl (by kernel_rfl) (fun K hK => ?_) AllReadyT.nil
          go_simp
          refine hK.out _ _ ?_
          clear hK K
          try simp only [Act.put, List.setIfInBounds_toArray, List.set_cons_zero, List.set_cons_succ, List.getElem_toArray, List.getElem_cons_succ, List.getElem_cons_zero]
          refine wpAnyT_done (by kernel_rfl) ?_ _
          go_wp2_with fail
          go_meet
          case rel => exact ⟨u1.heap.size, (some ⟨u25b, 0, none⟩), u25n, u25c, (some ⟨u26b, 0, none⟩), u26n, u26c, rfl, u26v.out.set _ _ _ _ _ _, rdc_set u26v.out (ow_row u26o0.out) _ _ _ _ _ _, rdc_set u26v.out (ow_row u26o4.out) _ _ _ _ _ _, (u26B.out.setCell (show w4.heap.size ≤ u1.heap.size by omega) _).setCell (show w4.heap.size ≤ u1.heap.size by omega) _⟩
    · skip
      go_simp
      have hb : Below w4.heap.size w4 (w4.alloc (.cells #[] 26)).drew := ((Below.refl _ _).alloc (Nat.le_refl _) _).drew
      have u27z : w4.heap.size < (w4.alloc (.cells #[] 26)).drew.heap.size := by simp
      have nx : OwC (w4.alloc (.cells #[] 26)).drew w4.heap.size (.slice (some ⟨w4.heap.size, 0, none⟩) 0 0) [] := (Ow.empty cC 7 26 w4).base HB0.out.size
      have qB := HB0.out.trans (hb.mono HB0.out.size)
      generalize (w4.alloc (.cells #[] 26)).drew = u27 at hb nx u27z qB ⊢
      have u27B := Lib.hid qB
      have u27o4 := Lib.hid nx
      clear hb nx qB 
      refine hK.out _ _ (hT _ u27B.out) (fun hHeld => ?_)
      clear hK K
      try simp only [Act.put, List.setIfInBounds_toArray, List.set_cons_zero, List.set_cons_succ, List.getElem_toArray, List.getElem_cons_succ, List.getElem_cons_zero]
      refine wpAnyT_ready (rs := [0, 9]) (by kernel_rfl) (by simp) ?_
      refine AllReadyT.cons rfl (fun K hK => ?_) (AllReadyT.cons rfl (fun K hK => ?_) AllReadyT.nil)
      · skip
        go_simp
        have hb : Below u27.heap.size u27 (u27.alloc (.cells #[] 26)) := ((Below.refl _ _).alloc (Nat.le_refl _) _)
        have u28z : u27.heap.size < (u27.alloc (.cells #[] 26)).heap.size := by simp
        have nx : OwC (u27.alloc (.cells #[] 26)) w4.heap.size (.slice (some ⟨u27.heap.size, 0, none⟩) 0 0) [] := (Ow.empty cC 7 26 u27).base u27B.out.size
        have q4 := u27o4.out.under hb
        have qB := u27B.out.trans (hb.mono u27B.out.size)
        generalize (u27.alloc (.cells #[] 26)) = u28 at hb nx u28z qB q4 ⊢
        have u28o4 := Lib.hid q4
        have u28B := Lib.hid qB
        have u28o0 := Lib.hid nx
        clear hb nx qB q4
        refine hK.out _ _ (hT _ u28B.out) (fun hHeld => ?_)
        clear hK K
        try simp only [Act.put, List.setIfInBounds_toArray, List.set_cons_zero, List.set_cons_succ, List.getElem_toArray, List.getElem_cons_succ, List.getElem_cons_zero]
        refine wpAnyT_ready (rs := [3, 9]) (by kernel_rfl) (by simp) ?_
        refine AllReadyT.cons rfl (fun K hK => ?_) (AllReadyT.cons rfl (fun K hK => ?_) AllReadyT.nil)
        · skip
          refine step_append_row cC_len (by omega) cC_one coms_slice com_info rfl (by omega) u28 rfl (.tmp 27) (.tmp 29) rfl w4.heap.size (.slice (some ⟨u27.heap.size, 0, none⟩) 0 0) [] rfl u28o0.out _ A n cap N rfl (R1.out.below u28B.out) (by have := HLN.out; simp; omega) u28B.out.size ?_
          intro vx u29 hown hg hat
          have hb : Below w4.heap.size u28 u29 := u28o0.out.lays (Below.refl _ _) (Nat.le_refl _) u28B.out.size hg
          have hown : OwC u29 w4.heap.size vx N := by simpa using hown
          have u29z : u28.heap.size ≤ u29.heap.size := hb.size
          have u29B := Lib.hid (u28B.out.trans hb)
          have u29o4 : Hid (OwC u29 w4.heap.size (.slice (some ⟨w4.heap.size, 0, none⟩) 0 0) []) := Lib.hid (u28o4.out.kept hg (.inr (by simp [Value.ownBlock]; omega)))
          obtain ⟨u29b, u29n, u29c, rfl, u29h, u29l⟩ := ow_at (w := u28) (l := []) hown hat
          have u29o0 := Lib.hid hown
          clear hb hown hg hat
          refine hK.out _ _ (hT _ u29B.out) (fun hHeld => ?_)
          clear hK K
          try simp only [Act.put, List.setIfInBounds_toArray, List.set_cons_zero, List.set_cons_succ, List.getElem_toArray, List.getElem_cons_succ, List.getElem_cons_zero]
          refine wpAnyT_ready (rs := [7, 9]) (by kernel_rfl) (by simp) ?_
          refine AllReadyT.cons rfl (fun K hK => ?_) (AllReadyT.cons rfl (fun K hK => ?_) AllReadyT.nil)
          · skip
            refine step_append_row cC_len (by omega) cC_one coms_slice com_info rfl (by omega) u29 rfl (.tmp 31) (.tmp 33) rfl w4.heap.size (.slice (some ⟨w4.heap.size, 0, none⟩) 0 0) [] rfl u29o4.out _ A' m cap' W rfl (R2.out.below u29B.out) (by have := HLN.out; simp; omega) u29B.out.size ?_
            intro vx u30 hown hg hat
            have hb : Below w4.heap.size u29 u30 := u29o4.out.lays (Below.refl _ _) (Nat.le_refl _) u29B.out.size hg
            have hown : OwC u30 w4.heap.size vx W := by simpa using hown
            have u30z : u29.heap.size ≤ u30.heap.size := hb.size
            have u30B := Lib.hid (u29B.out.trans hb)
            have u30o0 : Hid (OwC u30 w4.heap.size (.slice (some ⟨u29b, 0, none⟩) u29n u29c) N) := Lib.hid (u29o0.out.kept hg (.inr (by simp [Value.ownBlock]; omega)))
            obtain ⟨u30b, u30n, u30c, rfl, u30h, u30l⟩ := ow_at (w := u29) (l := []) hown hat
            have u30o4 := Lib.hid hown
            clear hb hown hg hat
            refine hK.out _ _ (hT _ u30B.out) (fun hHeld => ?_)
            clear hK K
            try simp only [Act.put, List.setIfInBounds_toArray, List.set_cons_zero, List.set_cons_succ, List.getElem_toArray, List.getElem_cons_succ, List.getElem_cons_zero]
            refine wpAnyT_take (i := 8) (v := ?_) rfl (by kernel_rfl) (by kernel_rfl) (by kernel_rfl) (fun _ _ _ h => h) (Or.inl ⟨by rfl, ?_⟩) (by assumption) ?_
            rotate_left 1
            · intro w hSw; clear hSw; go_simp <;> (with_reducible rfl)
            try simp only [Act.put, List.setIfInBounds_toArray, List.set_cons_zero, List.set_cons_succ, List.getElem_toArray, List.getElem_cons_succ, List.getElem_cons_zero]
            refine wpAnyT_ready (rs := [9]) (by kernel_rfl) (by simp) ?_
            refine AllReadyT.cons rfl (fun K hK => ?_) AllReadyT.nil
            go_simp
            have hb : Below u30.heap.size u30 (u30.alloc (.cells #[.slice none 0 0, .slice none 0 0] 24)) := ((Below.refl _ _).alloc (Nat.le_refl _) _)
            have u31z : u30.heap.size < (u30.alloc (.cells #[.slice none 0 0, .slice none 0 0] 24)).heap.size := by simp
            have nx : VarL (u30.alloc (.cells #[.slice none 0 0, .slice none 0 0] 24)) u30.heap.size none 0 0 none 0 0 := VarL.new u30 _ _ _ _ _ _
            have q4 := u30o4.out.under hb
            have q0 := u30o0.out.under hb
            have qB := u30B.out.trans (hb.mono u30B.out.size)
            generalize (u30.alloc (.cells #[.slice none 0 0, .slice none 0 0] 24)) = u31 at hb nx u31z qB q4 q0 ⊢
            have u31o4 := Lib.hid q4
            have u31o0 := Lib.hid q0
            have u31B := Lib.hid qB
            have u31v := Lib.hid nx
            clear hb nx qB q4 q0
            refine hK.out _ _ (hT _ u31B.out) (fun hHeld => ?_)
            clear hK K
            try simp only [Act.put, List.setIfInBounds_toArray, List.set_cons_zero, List.set_cons_succ, List.getElem_toArray, List.getElem_cons_succ, List.getElem_cons_zero]
            have ⟨z0, z1, zf0, zf1⟩ := u31v.out.cells
            refine wpAnyT_ready (rs := [10]) (by kernel_rfl) (by simp) ?_
            refine AllReadyT.spoilt rfl (by kernel_rfl) (fun K hK => ?_) AllReadyT.nil
            go_simp
            refine hK.out _ _ ?_
            clear hK K
            try simp only [Act.put, List.setIfInBounds_toArray, List.set_cons_zero, List.set_cons_succ, List.getElem_toArray, List.getElem_cons_succ, List.getElem_cons_zero]
            refine wpAnyT_done (by kernel_rfl) ?_ _
            go_wp2_with fail
            go_meet
            case rel => exact ⟨u30.heap.size, (some ⟨u29b, 0, none⟩), u29n, u29c, (some ⟨u30b, 0, none⟩), u30n, u30c, rfl, u31v.out.set _ _ _ _ _ _, rdc_set u31v.out (ow_row u31o0.out) _ _ _ _ _ _, rdc_set u31v.out (ow_row u31o4.out) _ _ _ _ _ _, (u31B.out.setCell (show w4.heap.size ≤ u30.heap.size by omega) _).setCell (show w4.heap.size ≤ u30.heap.size by omega) _⟩
          · skip
            go_simp
            have hb : Below u29.heap.size u29 (u29.alloc (.cells #[.slice none 0 0, .slice none 0 0] 24)) := ((Below.refl _ _).alloc (Nat.le_refl _) _)
            have u32z : u29.heap.size < (u29.alloc (.cells #[.slice none 0 0, .slice none 0 0] 24)).heap.size := by simp
            have nx : VarL (u29.alloc (.cells #[.slice none 0 0, .slice none 0 0] 24)) u29.heap.size none 0 0 none 0 0 := VarL.new u29 _ _ _ _ _ _
            have q4 := u29o4.out.under hb
            have q0 := u29o0.out.under hb
            have qB := u29B.out.trans (hb.mono u29B.out.size)
            generalize (u29.alloc (.cells #[.slice none 0 0, .slice none 0 0] 24)) = u32 at hb nx u32z qB q4 q0 ⊢
            have u32o4 := Lib.hid q4
            have u32o0 := Lib.hid q0
            have u32B := Lib.hid qB
            have u32v := Lib.hid nx
            clear hb nx qB q4 q0
            refine hK.out _ _ (hT _ u32B.out) (fun hHeld => ?_)
            clear hK K
            try simp only [Act.put, List.setIfInBounds_toArray, List.set_cons_zero, List.set_cons_succ, List.getElem_toArray, List.getElem_cons_succ, List.getElem_cons_zero]
            refine wpAnyT_ready (rs := [7]) (by kernel_rfl) (by simp) ?_
            refine AllReadyT.cons rfl (fun K hK => ?_) AllReadyT.nil
            refine step_append_row cC_len (by omega) cC_one coms_slice com_info rfl (by omega) u32 rfl (.tmp 31) (.tmp 33) rfl w4.heap.size (.slice (some ⟨w4.heap.size, 0, none⟩) 0 0) [] rfl u32o4.out _ A' m cap' W rfl (R2.out.below u32B.out) (by have := HLN.out; simp; omega) u32B.out.size ?_
            intro vx u33 hown hg hat
            have hb : Below w4.heap.size u32 u33 := u32o4.out.lays (Below.refl _ _) (Nat.le_refl _) u32B.out.size hg
            have hown : OwC u33 w4.heap.size vx W := by simpa using hown
            have u33z : u32.heap.size ≤ u33.heap.size := hb.size
            have u33B := Lib.hid (u32B.out.trans hb)
            have u33o0 : Hid (OwC u33 w4.heap.size (.slice (some ⟨u29b, 0, none⟩) u29n u29c) N) := Lib.hid (u32o0.out.kept hg (.inr (by simp [Value.ownBlock]; omega)))
            have u33v := Lib.hid (u32v.out.grown hg (ow_ne u32o4.out u32v.out))
            obtain ⟨u33b, u33n, u33c, rfl, u33h, u33l⟩ := ow_at (w := u32) (l := []) hown hat
            have u33o4 := Lib.hid hown
            clear hb hown hg hat
            refine hK.out _ _ (hT _ u33B.out) (fun hHeld => ?_)
            clear hK K
            try simp only [Act.put, List.setIfInBounds_toArray, List.set_cons_zero, List.set_cons_succ, List.getElem_toArray, List.getElem_cons_succ, List.getElem_cons_zero]
            refine wpAnyT_take (i := 8) (v := ?_) rfl (by kernel_rfl) (by kernel_rfl) (by kernel_rfl) (fun _ _ _ h => h) (Or.inl ⟨by rfl, ?_⟩) (by assumption) ?_
            rotate_left 1
            · intro w hSw; clear hSw; go_simp <;> (with_reducible rfl)
            try simp only [Act.put, List.setIfInBounds_toArray, List.set_cons_zero, List.set_cons_succ, List.getElem_toArray, List.getElem_cons_succ, List.getElem_cons_zero]
            have ⟨z0, z1, zf0, zf1⟩ := u33v.out.cells
            refine wpAnyT_ready (rs := [10]) (by kernel_rfl) (by simp) ?_
            refine AllReadyT.spoilt rfl (by kernel_rfl) (fun K hK => ?_) AllReadyT.nil
            go_simp
            refine hK.out _ _ ?_
            clear hK K
            try simp only [Act.put, List.setIfInBounds_toArray, List.set_cons_zero, List.set_cons_succ, List.getElem_toArray, List.getElem_cons_succ, List.getElem_cons_zero]
            refine wpAnyT_done (by kernel_rfl) ?_ _
            go_wp2_with fail
            go_meet
            case rel => exact ⟨u29.heap.size, (some ⟨u29b, 0, none⟩), u29n, u29c, (some ⟨u33b, 0, none⟩), u33n, u33c, rfl, u33v.out.set _ _ _ _ _ _, rdc_set u33v.out (ow_row u33o0.out) _ _ _ _ _ _, rdc_set u33v.out (ow_row u33o4.out) _ _ _ _ _ _, (u33B.out.setCell (show w4.heap.size ≤ u29.heap.size by omega) _).setCell (show w4.heap.size ≤ u29.heap.size by omega) _⟩
        · skip
          go_simp
          have hb : Below u28.heap.size u28 (u28.alloc (.cells #[.slice none 0 0, .slice none 0 0] 24)) := ((Below.refl _ _).alloc (Nat.le_refl _) _)
          have u34z : u28.heap.size < (u28.alloc (.cells #[.slice none 0 0, .slice none 0 0] 24)).heap.size := by simp
          have nx : VarL (u28.alloc (.cells #[.slice none 0 0, .slice none 0 0] 24)) u28.heap.size none 0 0 none 0 0 := VarL.new u28 _ _ _ _ _ _
          have q4 := u28o4.out.under hb
          have q0 := u28o0.out.under hb
          have qB := u28B.out.trans (hb.mono u28B.out.size)
          generalize (u28.alloc (.cells #[.slice none 0 0, .slice none 0 0] 24)) = u34 at hb nx u34z qB q4 q0 ⊢
          have u34o4 := Lib.hid q4
          have u34o0 := Lib.hid q0
          have u34B := Lib.hid qB
          have u34v := Lib.hid nx
          clear hb nx qB q4 q0
          refine hK.out _ _ (hT _ u34B.out) (fun hHeld => ?_)
          clear hK K
          try simp only [Act.put, List.setIfInBounds_toArray, List.set_cons_zero, List.set_cons_succ, List.getElem_toArray, List.getElem_cons_succ, List.getElem_cons_zero]
          refine wpAnyT_ready (rs := [3]) (by kernel_rfl) (by simp) ?_
          refine AllReadyT.cons rfl (fun K hK => ?_) AllReadyT.nil
          refine step_append_row cC_len (by omega) cC_one coms_slice com_info rfl (by omega) u34 rfl (.tmp 27) (.tmp 29) rfl w4.heap.size (.slice (some ⟨u27.heap.size, 0, none⟩) 0 0) [] rfl u34o0.out _ A n cap N rfl (R1.out.below u34B.out) (by have := HLN.out; simp; omega) u34B.out.size ?_
          intro vx u35 hown hg hat
          have hb : Below w4.heap.size u34 u35 := u34o0.out.lays (Below.refl _ _) (Nat.le_refl _) u34B.out.size hg
          have hown : OwC u35 w4.heap.size vx N := by simpa using hown
          have u35z : u34.heap.size ≤ u35.heap.size := hb.size
          have u35B := Lib.hid (u34B.out.trans hb)
          have u35o4 : Hid (OwC u35 w4.heap.size (.slice (some ⟨w4.heap.size, 0, none⟩) 0 0) []) := Lib.hid (u34o4.out.kept hg (.inr (by simp [Value.ownBlock]; omega)))
          have u35v := Lib.hid (u34v.out.grown hg (ow_ne u34o0.out u34v.out))
          obtain ⟨u35b, u35n, u35c, rfl, u35h, u35l⟩ := ow_at (w := u34) (l := []) hown hat
          have u35o0 := Lib.hid hown
          clear hb hown hg hat
          refine hK.out _ _ (hT _ u35B.out) (fun hHeld => ?_)
          clear hK K
          try simp only [Act.put, List.setIfInBounds_toArray, List.set_cons_zero, List.set_cons_succ, List.getElem_toArray, List.getElem_cons_succ, List.getElem_cons_zero]
          refine wpAnyT_ready (rs := [7]) (by kernel_rfl) (by simp) ?_
          refine AllReadyT.cons rfl (fun K hK => ?_) AllReadyT.nil
          refine step_append_row cC_len (by omega) cC_one coms_slice com_info rfl (by omega) u35 rfl (.tmp 31) (.tmp 33) rfl w4.heap.size (.slice (some ⟨w4.heap.size, 0, none⟩) 0 0) [] rfl u35o4.out _ A' m cap' W rfl (R2.out.below u35B.out) (by have := HLN.out; simp; omega) u35B.out.size ?_
          intro vx u36 hown hg hat
          have hb : Below w4.heap.size u35 u36 := u35o4.out.lays (Below.refl _ _) (Nat.le_refl _) u35B.out.size hg
          have hown : OwC u36 w4.heap.size vx W := by simpa using hown
          have u36z : u35.heap.size ≤ u36.heap.size := hb.size
          have u36B := Lib.hid (u35B.out.trans hb)
          have u36o0 : Hid (OwC u36 w4.heap.size (.slice (some ⟨u35b, 0, none⟩) u35n u35c) N) := Lib.hid (u35o0.out.kept hg (.inr (by simp [Value.ownBlock]; omega)))
          have u36v := Lib.hid (u35v.out.grown hg (ow_ne u35o4.out u35v.out))
          obtain ⟨u36b, u36n, u36c, rfl, u36h, u36l⟩ := ow_at (w := u35) (l := []) hown hat
          have u36o4 := Lib.hid hown
          clear hb hown hg hat
          refine hK.out _ _ (hT _ u36B.out) (fun hHeld => ?_)
          clear hK K
          try simp only [Act.put, List.setIfInBounds_toArray, List.set_cons_zero, List.set_cons_succ, List.getElem_toArray, List.getElem_cons_succ, List.getElem_cons_zero]
          refine wpAnyT_take (i := 8) (v := ?_) rfl (by kernel_rfl) (by kernel_rfl) (by kernel_rfl) (fun _ _ _ h => h) (Or.inl ⟨by rfl, ?_⟩) (by assumption) ?_
          rotate_left 1
          · intro w hSw; clear hSw; go_simp <;> (with_reducible rfl)
          try simp only [Act.put, List.setIfInBounds_toArray, List.set_cons_zero, List.set_cons_succ, List.getElem_toArray, List.getElem_cons_succ, List.getElem_cons_zero]
          have ⟨z0, z1, zf0, zf1⟩ := u36v.out.cells
          refine wpAnyT_ready (rs := [10]) (by kernel_rfl) (by simp) ?_
          refine AllReadyT.spoilt rfl (by kernel_rfl) (fun K hK => ?_) AllReadyT.nil
          go_simp
          refine hK.out _ _ ?_
          clear hK K
          try simp only [Act.put, List.setIfInBounds_toArray, List.set_cons_zero, List.set_cons_succ, List.getElem_toArray, List.getElem_cons_succ, List.getElem_cons_zero]
          refine wpAnyT_done (by kernel_rfl) ?_ _
          go_wp2_with fail
          go_meet
          case rel => exact ⟨u28.heap.size, (some ⟨u35b, 0, none⟩), u35n, u35c, (some ⟨u36b, 0, none⟩), u36n, u36c, rfl, u36v.out.set _ _ _ _ _ _, rdc_set u36v.out (ow_row u36o0.out) _ _ _ _ _ _, rdc_set u36v.out (ow_row u36o4.out) _ _ _ _ _ _, (u36B.out.setCell (show w4.heap.size ≤ u28.heap.size by omega) _).setCell (show w4.heap.size ≤ u28.heap.size by omega) _⟩
      · skip
        go_simp
        have hb : Below u27.heap.size u27 (u27.alloc (.cells #[.slice none 0 0, .slice none 0 0] 24)) := ((Below.refl _ _).alloc (Nat.le_refl _) _)
        have u37z : u27.heap.size < (u27.alloc (.cells #[.slice none 0 0, .slice none 0 0] 24)).heap.size := by simp
        have nx : VarL (u27.alloc (.cells #[.slice none 0 0, .slice none 0 0] 24)) u27.heap.size none 0 0 none 0 0 := VarL.new u27 _ _ _ _ _ _
        have q4 := u27o4.out.under hb
        have qB := u27B.out.trans (hb.mono u27B.out.size)
        generalize (u27.alloc (.cells #[.slice none 0 0, .slice none 0 0] 24)) = u37 at hb nx u37z qB q4 ⊢
        have u37o4 := Lib.hid q4
        have u37B := Lib.hid qB
        have u37v := Lib.hid nx
        clear hb nx qB q4
        refine hK.out _ _ (hT _ u37B.out) (fun hHeld => ?_)
        clear hK K
        try simp only [Act.put, List.setIfInBounds_toArray, List.set_cons_zero, List.set_cons_succ, List.getElem_toArray, List.getElem_cons_succ, List.getElem_cons_zero]
        refine wpAnyT_ready (rs := [0]) (by kernel_rfl) (by simp) ?_
        refine AllReadyT.cons rfl (fun K hK => ?_) AllReadyT.nil
        go_simp
        have hb : Below u37.heap.size u37 (u37.alloc (.cells #[] 26)) := ((Below.refl _ _).alloc (Nat.le_refl _) _)
        have u38z : u37.heap.size < (u37.alloc (.cells #[] 26)).heap.size := by simp
        have nx : OwC (u37.alloc (.cells #[] 26)) w4.heap.size (.slice (some ⟨u37.heap.size, 0, none⟩) 0 0) [] := (Ow.empty cC 7 26 u37).base u37B.out.size
        have q4 := u37o4.out.under hb
        have qv := u37v.out.under hb
        have qB := u37B.out.trans (hb.mono u37B.out.size)
        generalize (u37.alloc (.cells #[] 26)) = u38 at hb nx u38z qB q4 qv ⊢
        have u38o4 := Lib.hid q4
        have u38v := Lib.hid qv
        have u38B := Lib.hid qB
        have u38o0 := Lib.hid nx
        clear hb nx qB q4 qv
        refine hK.out _ _ (hT _ u38B.out) (fun hHeld => ?_)
        clear hK K
        try simp only [Act.put, List.setIfInBounds_toArray, List.set_cons_zero, List.set_cons_succ, List.getElem_toArray, List.getElem_cons_succ, List.getElem_cons_zero]
        refine wpAnyT_ready (rs := [3]) (by kernel_rfl) (by simp) ?_
        refine AllReadyT.cons rfl (fun K hK => ?_) AllReadyT.nil
        refine step_append_row cC_len (by omega) cC_one coms_slice com_info rfl (by omega) u38 rfl (.tmp 27) (.tmp 29) rfl w4.heap.size (.slice (some ⟨u37.heap.size, 0, none⟩) 0 0) [] rfl u38o0.out _ A n cap N rfl (R1.out.below u38B.out) (by have := HLN.out; simp; omega) u38B.out.size ?_
        intro vx u39 hown hg hat
        have hb : Below w4.heap.size u38 u39 := u38o0.out.lays (Below.refl _ _) (Nat.le_refl _) u38B.out.size hg
        have hown : OwC u39 w4.heap.size vx N := by simpa using hown
        have u39z : u38.heap.size ≤ u39.heap.size := hb.size
        have u39B := Lib.hid (u38B.out.trans hb)
        have u39o4 : Hid (OwC u39 w4.heap.size (.slice (some ⟨w4.heap.size, 0, none⟩) 0 0) []) := Lib.hid (u38o4.out.kept hg (.inr (by simp [Value.ownBlock]; omega)))
        have u39v := Lib.hid (u38v.out.grown hg (ow_ne u38o0.out u38v.out))
        obtain ⟨u39b, u39n, u39c, rfl, u39h, u39l⟩ := ow_at (w := u38) (l := []) hown hat
        have u39o0 := Lib.hid hown
        clear hb hown hg hat
        refine hK.out _ _ (hT _ u39B.out) (fun hHeld => ?_)
        clear hK K
        try simp only [Act.put, List.setIfInBounds_toArray, List.set_cons_zero, List.set_cons_succ, List.getElem_toArray, List.getElem_cons_succ, List.getElem_cons_zero]
        refine wpAnyT_ready (rs := [7]) (by kernel_rfl) (by simp) ?_
        refine AllReadyT.cons rfl (fun K hK => ?_) AllReadyT.nil
        refine step_append_row cC_len (by omega) cC_one coms_slice com_info rfl (by omega) u39 rfl (.tmp 31) (.tmp 33) rfl w4.heap.size (.slice (some ⟨w4.heap.size, 0, none⟩) 0 0) [] rfl u39o4.out _ A' m cap' W rfl (R2.out.below u39B.out) (by have := HLN.out; simp; omega) u39B.out.size ?_
        intro vx u40 hown hg hat
        have hb : Below w4.heap.size u39 u40 := u39o4.out.lays (Below.refl _ _) (Nat.le_refl _) u39B.out.size hg
        have hown : OwC u40 w4.heap.size vx W := by simpa using hown
        have u40z : u39.heap.size ≤ u40.heap.size := hb.size
        have u40B := Lib.hid (u39B.out.trans hb)
        have u40o0 : Hid (OwC u40 w4.heap.size (.slice (some ⟨u39b, 0, none⟩) u39n u39c) N) := Lib.hid (u39o0.out.kept hg (.inr (by simp [Value.ownBlock]; omega)))
        have u40v := Lib.hid (u39v.out.grown hg (ow_ne u39o4.out u39v.out))
        obtain ⟨u40b, u40n, u40c, rfl, u40h, u40l⟩ := ow_at (w := u39) (l := []) hown hat
        have u40o4 := Lib.hid hown
        clear hb hown hg hat
        refine hK.out _ _ (hT _ u40B.out) (fun hHeld => ?_)
        clear hK K
        try simp only [Act.put, List.setIfInBounds_toArray, List.set_cons_zero, List.set_cons_succ, List.getElem_toArray, List.getElem_cons_succ, List.getElem_cons_zero]
        refine wpAnyT_take (i := 8) (v := ?_) rfl (by kernel_rfl) (by kernel_rfl) (by kernel_rfl) (fun _ _ _ h => h) (Or.inl ⟨by rfl, ?_⟩) (by assumption) ?_
        rotate_left 1
        · intro w hSw; clear hSw; go_simp <;> (with_reducible rfl)
        try simp only [Act.put, List.setIfInBounds_toArray, List.set_cons_zero, List.set_cons_succ, List.getElem_toArray, List.getElem_cons_succ, List.getElem_cons_zero]
        have ⟨z0, z1, zf0, zf1⟩ := u40v.out.cells
        refine wpAnyT_ready (rs := [10]) (by kernel_rfl) (by simp) ?_
        refine AllReadyT.spoilt rfl (by kernel_rfl) (fun K hK => ?_) AllReadyT.nil
        go_simp
        refine hK.out _ _ ?_
        clear hK K
        try simp only [Act.put, List.setIfInBounds_toArray, List.set_cons_zero, List.set_cons_succ, List.getElem_toArray, List.getElem_cons_succ, List.getElem_cons_zero]
        refine wpAnyT_done (by kernel_rfl) ?_ _
        go_wp2_with fail
        go_meet
        case rel => exact ⟨u27.heap.size, (some ⟨u39b, 0, none⟩), u39n, u39c, (some ⟨u40b, 0, none⟩), u40n, u40c, rfl, u40v.out.set _ _ _ _ _ _, rdc_set u40v.out (ow_row u40o0.out) _ _ _ _ _ _, rdc_set u40v.out (ow_row u40o4.out) _ _ _ _ _ _, (u40B.out.setCell (show w4.heap.size ≤ u27.heap.size by omega) _).setCell (show w4.heap.size ≤ u27.heap.size by omega) _⟩
    · skip
      go_simp
      have hb : Below w4.heap.size w4 (w4.alloc (.cells #[.slice none 0 0, .slice none 0 0] 24)).drew := ((Below.refl _ _).alloc (Nat.le_refl _) _).drew
      have u41z : w4.heap.size < (w4.alloc (.cells #[.slice none 0 0, .slice none 0 0] 24)).drew.heap.size := by simp
      have nx : VarL (w4.alloc (.cells #[.slice none 0 0, .slice none 0 0] 24)).drew w4.heap.size none 0 0 none 0 0 := VarL.new w4 _ _ _ _ _ _
      have qB := HB0.out.trans (hb.mono HB0.out.size)
      generalize (w4.alloc (.cells #[.slice none 0 0, .slice none 0 0] 24)).drew = u41 at hb nx u41z qB ⊢
      have u41B := Lib.hid qB
      have u41v := Lib.hid nx
      clear hb nx qB 
      refine hK.out _ _ (hT _ u41B.out) (fun hHeld => ?_)
      clear hK K
      try simp only [Act.put, List.setIfInBounds_toArray, List.set_cons_zero, List.set_cons_succ, List.getElem_toArray, List.getElem_cons_succ, List.getElem_cons_zero]
      refine wpAnyT_ready (rs := [0, 4]) (by kernel_rfl) (by simp) ?_
      refine AllReadyT.cons rfl (fun K hK => ?_) (AllReadyT.cons rfl (fun K hK => ?_) AllReadyT.nil)
      · skip
        go_simp
        have hb : Below u41.heap.size u41 (u41.alloc (.cells #[] 26)) := ((Below.refl _ _).alloc (Nat.le_refl _) _)
        have u42z : u41.heap.size < (u41.alloc (.cells #[] 26)).heap.size := by simp
        have nx : OwC (u41.alloc (.cells #[] 26)) w4.heap.size (.slice (some ⟨u41.heap.size, 0, none⟩) 0 0) [] := (Ow.empty cC 7 26 u41).base u41B.out.size
        have qv := u41v.out.under hb
        have qB := u41B.out.trans (hb.mono u41B.out.size)
        generalize (u41.alloc (.cells #[] 26)) = u42 at hb nx u42z qB qv ⊢
        have u42v := Lib.hid qv
        have u42B := Lib.hid qB
        have u42o0 := Lib.hid nx
        clear hb nx qB qv
        refine hK.out _ _ (hT _ u42B.out) (fun hHeld => ?_)
        clear hK K
        try simp only [Act.put, List.setIfInBounds_toArray, List.set_cons_zero, List.set_cons_succ, List.getElem_toArray, List.getElem_cons_succ, List.getElem_cons_zero]
        refine wpAnyT_ready (rs := [3, 4]) (by kernel_rfl) (by simp) ?_
        refine AllReadyT.cons rfl (fun K hK => ?_) (AllReadyT.cons rfl (fun K hK => ?_) AllReadyT.nil)
        · skip
          refine step_append_row cC_len (by omega) cC_one coms_slice com_info rfl (by omega) u42 rfl (.tmp 27) (.tmp 29) rfl w4.heap.size (.slice (some ⟨u41.heap.size, 0, none⟩) 0 0) [] rfl u42o0.out _ A n cap N rfl (R1.out.below u42B.out) (by have := HLN.out; simp; omega) u42B.out.size ?_
          intro vx u43 hown hg hat
          have hb : Below w4.heap.size u42 u43 := u42o0.out.lays (Below.refl _ _) (Nat.le_refl _) u42B.out.size hg
          have hown : OwC u43 w4.heap.size vx N := by simpa using hown
          have u43z : u42.heap.size ≤ u43.heap.size := hb.size
          have u43B := Lib.hid (u42B.out.trans hb)
          have u43v := Lib.hid (u42v.out.grown hg (ow_ne u42o0.out u42v.out))
          obtain ⟨u43b, u43n, u43c, rfl, u43h, u43l⟩ := ow_at (w := u42) (l := []) hown hat
          have u43o0 := Lib.hid hown
          clear hb hown hg hat
          refine hK.out _ _ (hT _ u43B.out) (fun hHeld => ?_)
          clear hK K
          try simp only [Act.put, List.setIfInBounds_toArray, List.set_cons_zero, List.set_cons_succ, List.getElem_toArray, List.getElem_cons_succ, List.getElem_cons_zero]
          refine wpAnyT_ready (rs := [4]) (by kernel_rfl) (by simp) ?_
          refine AllReadyT.cons rfl (fun K hK => ?_) AllReadyT.nil
          go_simp
          have hb : Below u43.heap.size u43 (u43.alloc (.cells #[] 26)) := ((Below.refl _ _).alloc (Nat.le_refl _) _)
          have u44z : u43.heap.size < (u43.alloc (.cells #[] 26)).heap.size := by simp
          have nx : OwC (u43.alloc (.cells #[] 26)) w4.heap.size (.slice (some ⟨u43.heap.size, 0, none⟩) 0 0) [] := (Ow.empty cC 7 26 u43).base u43B.out.size
          have q0 := u43o0.out.under hb
          have qv := u43v.out.under hb
          have qB := u43B.out.trans (hb.mono u43B.out.size)
          generalize (u43.alloc (.cells #[] 26)) = u44 at hb nx u44z qB q0 qv ⊢
          have u44o0 := Lib.hid q0
          have u44v := Lib.hid qv
          have u44B := Lib.hid qB
          have u44o4 := Lib.hid nx
          clear hb nx qB q0 qv
          refine hK.out _ _ (hT _ u44B.out) (fun hHeld => ?_)
          clear hK K
          try simp only [Act.put, List.setIfInBounds_toArray, List.set_cons_zero, List.set_cons_succ, List.getElem_toArray, List.getElem_cons_succ, List.getElem_cons_zero]
          refine wpAnyT_ready (rs := [7]) (by kernel_rfl) (by simp) ?_
          refine AllReadyT.cons rfl (fun K hK => ?_) AllReadyT.nil
          refine step_append_row cC_len (by omega) cC_one coms_slice com_info rfl (by omega) u44 rfl (.tmp 31) (.tmp 33) rfl w4.heap.size (.slice (some ⟨u43.heap.size, 0, none⟩) 0 0) [] rfl u44o4.out _ A' m cap' W rfl (R2.out.below u44B.out) (by have := HLN.out; simp; omega) u44B.out.size ?_
          intro vx u45 hown hg hat
          have hb : Below w4.heap.size u44 u45 := u44o4.out.lays (Below.refl _ _) (Nat.le_refl _) u44B.out.size hg
          have hown : OwC u45 w4.heap.size vx W := by simpa using hown
          have u45z : u44.heap.size ≤ u45.heap.size := hb.size
          have u45B := Lib.hid (u44B.out.trans hb)
          have u45o0 : Hid (OwC u45 w4.heap.size (.slice (some ⟨u43b, 0, none⟩) u43n u43c) N) := Lib.hid (u44o0.out.kept hg (.inr (by simp [Value.ownBlock]; omega)))
          have u45v := Lib.hid (u44v.out.grown hg (ow_ne u44o4.out u44v.out))
          obtain ⟨u45b, u45n, u45c, rfl, u45h, u45l⟩ := ow_at (w := u44) (l := []) hown hat
          have u45o4 := Lib.hid hown
          clear hb hown hg hat
          refine hK.out _ _ (hT _ u45B.out) (fun hHeld => ?_)
          clear hK K
          try simp only [Act.put, List.setIfInBounds_toArray, List.set_cons_zero, List.set_cons_succ, List.getElem_toArray, List.getElem_cons_succ, List.getElem_cons_zero]
          refine wpAnyT_take (i := 8) (v := ?_) rfl (by kernel_rfl) (by kernel_rfl) (by kernel_rfl) (fun _ _ _ h => h) (Or.inl ⟨by rfl, ?_⟩) (by assumption) ?_
          rotate_left 1
          · intro w hSw; clear hSw; go_simp <;> (with_reducible rfl)
          try simp only [Act.put, List.setIfInBounds_toArray, List.set_cons_zero, List.set_cons_succ, List.getElem_toArray, List.getElem_cons_succ, List.getElem_cons_zero]
          have ⟨z0, z1, zf0, zf1⟩ := u45v.out.cells
          refine wpAnyT_ready (rs := [10]) (by kernel_rfl) (by simp) ?_
          refine AllReadyT.spoilt rfl (by kernel_rfl) (fun K hK => ?_) AllReadyT.nil
          go_simp
          refine hK.out _ _ ?_
          clear hK K
          try simp only [Act.put, List.setIfInBounds_toArray, List.set_cons_zero, List.set_cons_succ, List.getElem_toArray, List.getElem_cons_succ, List.getElem_cons_zero]
          refine wpAnyT_done (by kernel_rfl) ?_ _
          go_wp2_with fail
          go_meet
          case rel => exact ⟨w4.heap.size, (some ⟨u43b, 0, none⟩), u43n, u43c, (some ⟨u45b, 0, none⟩), u45n, u45c, rfl, u45v.out.set _ _ _ _ _ _, rdc_set u45v.out (ow_row u45o0.out) _ _ _ _ _ _, rdc_set u45v.out (ow_row u45o4.out) _ _ _ _ _ _, (u45B.out.setCell (show w4.heap.size ≤ w4.heap.size by omega) _).setCell (show w4.heap.size ≤ w4.heap.size by omega) _⟩
        · skip
          go_simp
          have hb : Below u42.heap.size u42 (u42.alloc (.cells #[] 26)) := ((Below.refl _ _).alloc (Nat.le_refl _) _)
          have u46z : u42.heap.size < (u42.alloc (.cells #[] 26)).heap.size := by simp
          have nx : OwC (u42.alloc (.cells #[] 26)) w4.heap.size (.slice (some ⟨u42.heap.size, 0, none⟩) 0 0) [] := (Ow.empty cC 7 26 u42).base u42B.out.size
          have q0 := u42o0.out.under hb
          have qv := u42v.out.under hb
          have qB := u42B.out.trans (hb.mono u42B.out.size)
          generalize (u42.alloc (.cells #[] 26)) = u46 at hb nx u46z qB q0 qv ⊢
          have u46o0 := Lib.hid q0
          have u46v := Lib.hid qv
          have u46B := Lib.hid qB
          have u46o4 := Lib.hid nx
          clear hb nx qB q0 qv
          refine hK.out _ _ (hT _ u46B.out) (fun hHeld => ?_)
          clear hK K
          try simp only [Act.put, List.setIfInBounds_toArray, List.set_cons_zero, List.set_cons_succ, List.getElem_toArray, List.getElem_cons_succ, List.getElem_cons_zero]
          refine wpAnyT_ready (rs := [3]) (by kernel_rfl) (by simp) ?_
          refine AllReadyT.cons rfl (fun K hK => ?_) AllReadyT.nil
          refine step_append_row cC_len (by omega) cC_one coms_slice com_info rfl (by omega) u46 rfl (.tmp 27) (.tmp 29) rfl w4.heap.size (.slice (some ⟨u41.heap.size, 0, none⟩) 0 0) [] rfl u46o0.out _ A n cap N rfl (R1.out.below u46B.out) (by have := HLN.out; simp; omega) u46B.out.size ?_
          intro vx u47 hown hg hat
          have hb : Below w4.heap.size u46 u47 := u46o0.out.lays (Below.refl _ _) (Nat.le_refl _) u46B.out.size hg
          have hown : OwC u47 w4.heap.size vx N := by simpa using hown
          have u47z : u46.heap.size ≤ u47.heap.size := hb.size
          have u47B := Lib.hid (u46B.out.trans hb)
          have u47o4 : Hid (OwC u47 w4.heap.size (.slice (some ⟨u42.heap.size, 0, none⟩) 0 0) []) := Lib.hid (u46o4.out.kept hg (.inr (by simp [Value.ownBlock]; omega)))
          have u47v := Lib.hid (u46v.out.grown hg (ow_ne u46o0.out u46v.out))
          obtain ⟨u47b, u47n, u47c, rfl, u47h, u47l⟩ := ow_at (w := u46) (l := []) hown hat
          have u47o0 := Lib.hid hown
          clear hb hown hg hat
          refine hK.out _ _ (hT _ u47B.out) (fun hHeld => ?_)
          clear hK K
          try simp only [Act.put, List.setIfInBounds_toArray, List.set_cons_zero, List.set_cons_succ, List.getElem_toArray, List.getElem_cons_succ, List.getElem_cons_zero]
          refine wpAnyT_ready (rs := [7]) (by kernel_rfl) (by simp) ?_
          refine AllReadyT.cons rfl (fun K hK => ?_) AllReadyT.nil
          refine step_append_row cC_len (by omega) cC_one coms_slice com_info rfl (by omega) u47 rfl (.tmp 31) (.tmp 33) rfl w4.heap.size (.slice (some ⟨u42.heap.size, 0, none⟩) 0 0) [] rfl u47o4.out _ A' m cap' W rfl (R2.out.below u47B.out) (by have := HLN.out; simp; omega) u47B.out.size ?_
          intro vx u48 hown hg hat
          have hb : Below w4.heap.size u47 u48 := u47o4.out.lays (Below.refl _ _) (Nat.le_refl _) u47B.out.size hg
          have hown : OwC u48 w4.heap.size vx W := by simpa using hown
          have u48z : u47.heap.size ≤ u48.heap.size := hb.size
          have u48B := Lib.hid (u47B.out.trans hb)
          have u48o0 : Hid (OwC u48 w4.heap.size (.slice (some ⟨u47b, 0, none⟩) u47n u47c) N) := Lib.hid (u47o0.out.kept hg (.inr (by simp [Value.ownBlock]; omega)))
          have u48v := Lib.hid (u47v.out.grown hg (ow_ne u47o4.out u47v.out))
          obtain ⟨u48b, u48n, u48c, rfl, u48h, u48l⟩ := ow_at (w := u47) (l := []) hown hat
          have u48o4 := Lib.hid hown
          clear hb hown hg hat
          refine hK.out _ _ (hT _ u48B.out) (fun hHeld => ?_)
          clear hK K
          try simp only [Act.put, List.setIfInBounds_toArray, List.set_cons_zero, List.set_cons_succ, List.getElem_toArray, List.getElem_cons_succ, List.getElem_cons_zero]
          refine wpAnyT_take (i := 8) (v := ?_) rfl (by kernel_rfl) (by kernel_rfl) (by kernel_rfl) (fun _ _ _ h => h) (Or.inl ⟨by rfl, ?_⟩) (by assumption) ?_
          rotate_left 1
          · intro w hSw; clear hSw; go_simp <;> (with_reducible rfl)
          try simp only [Act.put, List.setIfInBounds_toArray, List.set_cons_zero, List.set_cons_succ, List.getElem_toArray, List.getElem_cons_succ, List.getElem_cons_zero]
          have ⟨z0, z1, zf0, zf1⟩ := u48v.out.cells
          refine wpAnyT_ready (rs := [10]) (by kernel_rfl) (by simp) ?_
          refine AllReadyT.spoilt rfl (by kernel_rfl) (fun K hK => ?_) AllReadyT.nil
          go_simp
          refine hK.out _ _ ?_
          clear hK K
          try simp only [Act.put, List.setIfInBounds_toArray, List.set_cons_zero, List.set_cons_succ, List.getElem_toArray, List.getElem_cons_succ, List.getElem_cons_zero]
          refine wpAnyT_done (by kernel_rfl) ?_ _
          go_wp2_with fail
          go_meet
          case rel => exact ⟨w4.heap.size, (some ⟨u47b, 0, none⟩), u47n, u47c, (some ⟨u48b, 0, none⟩), u48n, u48c, rfl, u48v.out.set _ _ _ _ _ _, rdc_set u48v.out (ow_row u48o0.out) _ _ _ _ _ _, rdc_set u48v.out (ow_row u48o4.out) _ _ _ _ _ _, (u48B.out.setCell (show w4.heap.size ≤ w4.heap.size by omega) _).setCell (show w4.heap.size ≤ w4.heap.size by omega) _⟩
      · skip
        go_simp
        have hb : Below u41.heap.size u41 (u41.alloc (.cells #[] 26)) := ((Below.refl _ _).alloc (Nat.le_refl _) _)
        have u49z : u41.heap.size < (u41.alloc (.cells #[] 26)).heap.size := by simp
        have nx : OwC (u41.alloc (.cells #[] 26)) w4.heap.size (.slice (some ⟨u41.heap.size, 0, none⟩) 0 0) [] := (Ow.empty cC 7 26 u41).base u41B.out.size
        have qv := u41v.out.under hb
        have qB := u41B.out.trans (hb.mono u41B.out.size)
        generalize (u41.alloc (.cells #[] 26)) = u49 at hb nx u49z qB qv ⊢
        have u49v := Lib.hid qv
        have u49B := Lib.hid qB
        have u49o4 := Lib.hid nx
        clear hb nx qB qv
        refine hK.out _ _ (hT _ u49B.out) (fun hHeld => ?_)
        clear hK K
        try simp only [Act.put, List.setIfInBounds_toArray, List.set_cons_zero, List.set_cons_succ, List.getElem_toArray, List.getElem_cons_succ, List.getElem_cons_zero]
        refine wpAnyT_ready (rs := [0]) (by kernel_rfl) (by simp) ?_
        refine AllReadyT.cons rfl (fun K hK => ?_) AllReadyT.nil
        go_simp
        have hb : Below u49.heap.size u49 (u49.alloc (.cells #[] 26)) := ((Below.refl _ _).alloc (Nat.le_refl _) _)
        have u50z : u49.heap.size < (u49.alloc (.cells #[] 26)).heap.size := by simp
        have nx : OwC (u49.alloc (.cells #[] 26)) w4.heap.size (.slice (some ⟨u49.heap.size, 0, none⟩) 0 0) [] := (Ow.empty cC 7 26 u49).base u49B.out.size
        have q4 := u49o4.out.under hb
        have qv := u49v.out.under hb
        have qB := u49B.out.trans (hb.mono u49B.out.size)
        generalize (u49.alloc (.cells #[] 26)) = u50 at hb nx u50z qB q4 qv ⊢
        have u50o4 := Lib.hid q4
        have u50v := Lib.hid qv
        have u50B := Lib.hid qB
        have u50o0 := Lib.hid nx
        clear hb nx qB q4 qv
        refine hK.out _ _ (hT _ u50B.out) (fun hHeld => ?_)
        clear hK K
        try simp only [Act.put, List.setIfInBounds_toArray, List.set_cons_zero, List.set_cons_succ, List.getElem_toArray, List.getElem_cons_succ, List.getElem_cons_zero]
        refine wpAnyT_ready (rs := [3]) (by kernel_rfl) (by simp) ?_
        refine AllReadyT.cons rfl (fun K hK => ?_) AllReadyT.nil
        refine step_append_row cC_len (by omega) cC_one coms_slice com_info rfl (by omega) u50 rfl (.tmp 27) (.tmp 29) rfl w4.heap.size (.slice (some ⟨u49.heap.size, 0, none⟩) 0 0) [] rfl u50o0.out _ A n cap N rfl (R1.out.below u50B.out) (by have := HLN.out; simp; omega) u50B.out.size ?_
        intro vx u51 hown hg hat
        have hb : Below w4.heap.size u50 u51 := u50o0.out.lays (Below.refl _ _) (Nat.le_refl _) u50B.out.size hg
        have hown : OwC u51 w4.heap.size vx N := by simpa using hown
        have u51z : u50.heap.size ≤ u51.heap.size := hb.size
        have u51B := Lib.hid (u50B.out.trans hb)
        have u51o4 : Hid (OwC u51 w4.heap.size (.slice (some ⟨u41.heap.size, 0, none⟩) 0 0) []) := Lib.hid (u50o4.out.kept hg (.inr (by simp [Value.ownBlock]; omega)))
        have u51v := Lib.hid (u50v.out.grown hg (ow_ne u50o0.out u50v.out))
        obtain ⟨u51b, u51n, u51c, rfl, u51h, u51l⟩ := ow_at (w := u50) (l := []) hown hat
        have u51o0 := Lib.hid hown
        clear hb hown hg hat
        refine hK.out _ _ (hT _ u51B.out) (fun hHeld => ?_)
        clear hK K
        try simp only [Act.put, List.setIfInBounds_toArray, List.set_cons_zero, List.set_cons_succ, List.getElem_toArray, List.getElem_cons_succ, List.getElem_cons_zero]
        refine wpAnyT_ready (rs := [7]) (by kernel_rfl) (by simp) ?_
        refine AllReadyT.cons rfl (fun K hK => ?_) AllReadyT.nil
        refine step_append_row cC_len (by omega) cC_one coms_slice com_info rfl (by omega) u51 rfl (.tmp 31) (.tmp 33) rfl w4.heap.size (.slice (some ⟨u41.heap.size, 0, none⟩) 0 0) [] rfl u51o4.out _ A' m cap' W rfl (R2.out.below u51B.out) (by have := HLN.out; simp; omega) u51B.out.size ?_
        intro vx u52 hown hg hat
        have hb : Below w4.heap.size u51 u52 := u51o4.out.lays (Below.refl _ _) (Nat.le_refl _) u51B.out.size hg
        have hown : OwC u52 w4.heap.size vx W := by simpa using hown
        have u52z : u51.heap.size ≤ u52.heap.size := hb.size
        have u52B := Lib.hid (u51B.out.trans hb)
        have u52o0 : Hid (OwC u52 w4.heap.size (.slice (some ⟨u51b, 0, none⟩) u51n u51c) N) := Lib.hid (u51o0.out.kept hg (.inr (by simp [Value.ownBlock]; omega)))
        have u52v := Lib.hid (u51v.out.grown hg (ow_ne u51o4.out u51v.out))
        obtain ⟨u52b, u52n, u52c, rfl, u52h, u52l⟩ := ow_at (w := u51) (l := []) hown hat
        have u52o4 := Lib.hid hown
        clear hb hown hg hat
        refine hK.out _ _ (hT _ u52B.out) (fun hHeld => ?_)
        clear hK K
        try simp only [Act.put, List.setIfInBounds_toArray, List.set_cons_zero, List.set_cons_succ, List.getElem_toArray, List.getElem_cons_succ, List.getElem_cons_zero]
        refine wpAnyT_take (i := 8) (v := ?_) rfl (by kernel_rfl) (by kernel_rfl) (by kernel_rfl) (fun _ _ _ h => h) (Or.inl ⟨by rfl, ?_⟩) (by assumption) ?_
        rotate_left 1
        · intro w hSw; clear hSw; go_simp <;> (with_reducible rfl)
        try simp only [Act.put, List.setIfInBounds_toArray, List.set_cons_zero, List.set_cons_succ, List.getElem_toArray, List.getElem_cons_succ, List.getElem_cons_zero]
        have ⟨z0, z1, zf0, zf1⟩ := u52v.out.cells
        refine wpAnyT_ready (rs := [10]) (by kernel_rfl) (by simp) ?_
        refine AllReadyT.spoilt rfl (by kernel_rfl) (fun K hK => ?_) AllReadyT.nil
        go_simp
        refine hK.out _ _ ?_
        clear hK K
        try simp only [Act.put, List.setIfInBounds_toArray, List.set_cons_zero, List.set_cons_succ, List.getElem_toArray, List.getElem_cons_succ, List.getElem_cons_zero]
        refine wpAnyT_done (by kernel_rfl) ?_ _
        go_wp2_with fail
        go_meet
        case rel => exact ⟨w4.heap.size, (some ⟨u51b, 0, none⟩), u51n, u51c, (some ⟨u52b, 0, none⟩), u52n, u52c, rfl, u52v.out.set _ _ _ _ _ _, rdc_set u52v.out (ow_row u52o0.out) _ _ _ _ _ _, rdc_set u52v.out (ow_row u52o4.out) _ _ _ _ _ _, (u52B.out.setCell (show w4.heap.size ≤ w4.heap.size by omega) _).setCell (show w4.heap.size ≤ w4.heap.size by omega) _⟩
  case rest =>
    obtain ⟨g5, A5, n5, d5, A6, n6, d6, rfl, hv, hr1, hr2, hb⟩ := hcut
    have V5 := Lib.hid hv
    have M1 := Lib.hid hr1
    have M2 := Lib.hid hr2
    have hm5 : n5 ≤ 20 := by rw [← hr1.1]; exact HLN.out.1
    have hm6 : n6 ≤ 20 := by rw [← hr2.1]; exact HLN.out.2
    clear hv hr1 hr2 c0 c1
    have X0 := Lib.hid (X0.out.under hb)
    have X2 := Lib.hid (X2.out.below hb x4)
    have x4 := Nat.lt_of_lt_of_le x4 hb.size
    have R1 := Lib.hid (rd_under R1.out hb)
    have R2 := Lib.hid (rd_under R2.out hb)
    have X3 := Lib.hid (X3.out.trans (hb.mono X3.out.size))
    clear hb
    have ⟨a0, a1, _, _⟩ := X0.out.cells
    have ⟨b0, b1, _, _⟩ := V5.out.cells
    have X2c0 := (k.cell_of X2.out (i := 0) rfl).1
    have X2c1 := (k.cell_of X2.out (i := 1) rfl).1
    have X2c2 := (k.cell_of X2.out (i := 2) rfl).1
    have X2c3 := (k.cell_of X2.out (i := 3) rfl).1
    have X2c4 := (k.cell_of X2.out (i := 4) rfl).1
    have X2c5 := (k.cell_of X2.out (i := 5) rfl).1
    have X2c6 := (k.cell_of X2.out (i := 6) rfl).1
    obtain ⟨rb, hrb⟩ : ∃ b, rightL N W = b := ⟨_, rfl⟩
    go_upto_region 7 with (go_at_call 7; ((with_reducible refine ((hrb ▸ refright_any N W R1.out R2.out (Nat.le_refl _) (by omega) (by omega))).mono ?_); rintro e v6 ⟨rfl, hb⟩; have X0 := Lib.hid (X0.out.under hb); have V5 := Lib.hid (V5.out.under hb); have X2 := Lib.hid (X2.out.below hb x4); have x4 := Nat.lt_of_lt_of_le x4 hb.size; have R1 := Lib.hid (rd_under R1.out hb); have R2 := Lib.hid (rd_under R2.out hb); have M1 := Lib.hid (rd_under M1.out hb); have M2 := Lib.hid (rd_under M2.out hb); have X3 := Lib.hid (X3.out.trans (hb.mono X3.out.size)); clear a0 a1 b0 b1 X2c0 X2c1 X2c2 X2c3 X2c4 X2c5 X2c6; have ⟨a0, a1, _, _⟩ := X0.out.cells; have ⟨b0, b1, _, _⟩ := V5.out.cells; have X2c0 := (k.cell_of X2.out (i := 0) rfl).1; have X2c1 := (k.cell_of X2.out (i := 1) rfl).1; have X2c2 := (k.cell_of X2.out (i := 2) rfl).1; have X2c3 := (k.cell_of X2.out (i := 3) rfl).1; have X2c4 := (k.cell_of X2.out (i := 4) rfl).1; have X2c5 := (k.cell_of X2.out (i := 5) rfl).1; have X2c6 := (k.cell_of X2.out (i := 6) rfl).1; clear hb))
    obtain ⟨aN, haN⟩ : ∃ x, addN N W c = x := ⟨_, rfl⟩
    obtain ⟨aW, haW⟩ : ∃ x, addW N W c = x := ⟨_, rfl⟩
    obtain ⟨aI, haI⟩ : ∃ x, addI N W c = x := ⟨_, rfl⟩
    obtain ⟨aE, haE⟩ : ∃ x, addE N W c = x := ⟨_, rfl⟩
    have HAdd : Hid (∀ (W' : World) {D : Option Addr} {q d : Nat} {D' : Option Addr} {q' d' : Nat}, RdC W' W'.heap.size D q d N → RdC W' W'.heap.size D' q' d' W → q ≤ 20 → q' ≤ 20 → Calls Try.prog 8 #[.agg #[.slice D q d, .slice D' q' d'], .agg #[.int .i64 c.id, .int .i64 c.kind, .int .i64 c.tgt, .int .i64 c.spd, .int .i64 c.mode, .int .i64 c.num, .int .i64 c.den]] W' (GotA aN aW aI aE W')) := Lib.hid fun W' D q d D' q' d' h1 h2 h3 h4 => by have h := add_any N W c h1 h2 (Nat.le_refl _) (by omega) (by omega); rw [haN, haW, haI, haE] at h; exact h
    have HRef : Hid (∀ (W' : World) {D : Option Addr} {q d : Nat} {D' : Option Addr} {q' d' : Nat}, RdC W' W'.heap.size D q d N → RdC W' W'.heap.size D' q' d' W → q ≤ 20 → q' ≤ 20 → Calls Try.prog 9 #[.agg #[.slice D q d, .slice D' q' d'], .agg #[.int .i64 c.id, .int .i64 c.kind, .int .i64 c.tgt, .int .i64 c.spd, .int .i64 c.mode, .int .i64 c.num, .int .i64 c.den]] W' (GotA aN aW aI aE W')) := Lib.hid fun W' D q d D' q' d' h1 h2 h3 h4 => by have h := refadd_any N W c h1 h2 (Nat.le_refl _) (by omega) (by omega); rw [haN, haW, haI, haE] at h; exact h
    clear haN haW haI haE
    go_upto_region 8 with (go_at_call 8; ((with_reducible refine (HAdd.out _ M1.out M2.out hm5 hm6).mono ?_); rintro e v7 ⟨E1, e1, f1, E2, e2, f2, E3, e3, f3, rfl, hr1, hr2, hr3, hb⟩; have X0 := Lib.hid (X0.out.under hb); have V5 := Lib.hid (V5.out.under hb); have X2 := Lib.hid (X2.out.below hb x4); have x4 := Nat.lt_of_lt_of_le x4 hb.size; have R1 := Lib.hid (rd_under R1.out hb); have R2 := Lib.hid (rd_under R2.out hb); have M1 := Lib.hid (rd_under M1.out hb); have M2 := Lib.hid (rd_under M2.out hb); have X3 := Lib.hid (X3.out.trans (hb.mono X3.out.size)); clear a0 a1 b0 b1 X2c0 X2c1 X2c2 X2c3 X2c4 X2c5 X2c6; have XN := Lib.hid hr1; have XW := Lib.hid hr2; have XI := Lib.hid hr3; clear hr1 hr2 hr3; have ⟨a0, a1, _, _⟩ := X0.out.cells; have ⟨b0, b1, _, _⟩ := V5.out.cells; have X2c0 := (k.cell_of X2.out (i := 0) rfl).1; have X2c1 := (k.cell_of X2.out (i := 1) rfl).1; have X2c2 := (k.cell_of X2.out (i := 2) rfl).1; have X2c3 := (k.cell_of X2.out (i := 3) rfl).1; have X2c4 := (k.cell_of X2.out (i := 4) rfl).1; have X2c5 := (k.cell_of X2.out (i := 5) rfl).1; have X2c6 := (k.cell_of X2.out (i := 6) rfl).1; clear hb))
    have hb : Below v7.heap.size v7 (v7.alloc (.cells #[.slice E1 e1 f1, .slice E2 e2 f2] 24)) := (Below.refl _ _).alloc (Nat.le_refl _) _
    have hv : VarL (v7.alloc (.cells #[.slice E1 e1 f1, .slice E2 e2 f2] 24)) v7.heap.size E1 e1 f1 E2 e2 f2 := VarL.new _ _ _ _ _ _ _
    generalize (v7.alloc (.cells #[.slice E1 e1 f1, .slice E2 e2 f2] 24)) = v8 at hb hv ⊢
    have X0 := Lib.hid (X0.out.under hb)
    have V5 := Lib.hid (V5.out.under hb)
    have X2 := Lib.hid (X2.out.below hb x4)
    have x4 := Nat.lt_of_lt_of_le x4 hb.size
    have R1 := Lib.hid (rd_under R1.out hb)
    have R2 := Lib.hid (rd_under R2.out hb)
    have M1 := Lib.hid (rd_under M1.out hb)
    have M2 := Lib.hid (rd_under M2.out hb)
    have XN := Lib.hid (rd_under XN.out hb)
    have XW := Lib.hid (rd_under XW.out hb)
    have XI := Lib.hid (rd_under XI.out hb)
    have X3 := Lib.hid (X3.out.trans (hb.mono X3.out.size))
    clear a0 a1 b0 b1 X2c0 X2c1 X2c2 X2c3 X2c4 X2c5 X2c6
    have V7 := Lib.hid hv
    have ⟨a0, a1, _, _⟩ := X0.out.cells
    have ⟨b0, b1, _, _⟩ := V5.out.cells
    have ⟨c0, c1, _, _⟩ := V7.out.cells
    have X2c0 := (k.cell_of X2.out (i := 0) rfl).1
    have X2c1 := (k.cell_of X2.out (i := 1) rfl).1
    have X2c2 := (k.cell_of X2.out (i := 2) rfl).1
    have X2c3 := (k.cell_of X2.out (i := 3) rfl).1
    have X2c4 := (k.cell_of X2.out (i := 4) rfl).1
    have X2c5 := (k.cell_of X2.out (i := 5) rfl).1
    have X2c6 := (k.cell_of X2.out (i := 6) rfl).1
    clear hb hv
    go_upto_region 9 with (go_at_call 9; ((with_reducible refine (HRef.out _ R1.out R2.out hn hm).mono ?_); rintro e v9 ⟨F1, h1, i1, F2, h2, i2, F3, h3, i3, rfl, hr1, hr2, hr3, hb⟩; have X0 := Lib.hid (X0.out.under hb); have V5 := Lib.hid (V5.out.under hb); have V7 := Lib.hid (V7.out.under hb); have X2 := Lib.hid (X2.out.below hb x4); have x4 := Nat.lt_of_lt_of_le x4 hb.size; have R1 := Lib.hid (rd_under R1.out hb); have R2 := Lib.hid (rd_under R2.out hb); have M1 := Lib.hid (rd_under M1.out hb); have M2 := Lib.hid (rd_under M2.out hb); have XN := Lib.hid (rd_under XN.out hb); have XW := Lib.hid (rd_under XW.out hb); have XI := Lib.hid (rd_under XI.out hb); have X3 := Lib.hid (X3.out.trans (hb.mono X3.out.size)); clear a0 a1 b0 b1 c0 c1 X2c0 X2c1 X2c2 X2c3 X2c4 X2c5 X2c6; have YN := Lib.hid hr1; have YW := Lib.hid hr2; have YI := Lib.hid hr3; clear hr1 hr2 hr3; have ⟨a0, a1, _, _⟩ := X0.out.cells; have ⟨b0, b1, _, _⟩ := V5.out.cells; have ⟨c0, c1, _, _⟩ := V7.out.cells; have X2c0 := (k.cell_of X2.out (i := 0) rfl).1; have X2c1 := (k.cell_of X2.out (i := 1) rfl).1; have X2c2 := (k.cell_of X2.out (i := 2) rfl).1; have X2c3 := (k.cell_of X2.out (i := 3) rfl).1; have X2c4 := (k.cell_of X2.out (i := 4) rfl).1; have X2c5 := (k.cell_of X2.out (i := 5) rfl).1; have X2c6 := (k.cell_of X2.out (i := 6) rfl).1; clear hb))
    have hb : Below v9.heap.size v9 (v9.alloc (.cells #[.slice F1 h1 i1, .slice F2 h2 i2] 24)) := (Below.refl _ _).alloc (Nat.le_refl _) _
    have hv : VarL (v9.alloc (.cells #[.slice F1 h1 i1, .slice F2 h2 i2] 24)) v9.heap.size F1 h1 i1 F2 h2 i2 := VarL.new _ _ _ _ _ _ _
    generalize (v9.alloc (.cells #[.slice F1 h1 i1, .slice F2 h2 i2] 24)) = v10 at hb hv ⊢
    have X0 := Lib.hid (X0.out.under hb)
    have V5 := Lib.hid (V5.out.under hb)
    have V7 := Lib.hid (V7.out.under hb)
    have X2 := Lib.hid (X2.out.below hb x4)
    have x4 := Nat.lt_of_lt_of_le x4 hb.size
    have R1 := Lib.hid (rd_under R1.out hb)
    have R2 := Lib.hid (rd_under R2.out hb)
    have M1 := Lib.hid (rd_under M1.out hb)
    have M2 := Lib.hid (rd_under M2.out hb)
    have XN := Lib.hid (rd_under XN.out hb)
    have XW := Lib.hid (rd_under XW.out hb)
    have XI := Lib.hid (rd_under XI.out hb)
    have YN := Lib.hid (rd_under YN.out hb)
    have YW := Lib.hid (rd_under YW.out hb)
    have YI := Lib.hid (rd_under YI.out hb)
    have X3 := Lib.hid (X3.out.trans (hb.mono X3.out.size))
    clear a0 a1 b0 b1 c0 c1 X2c0 X2c1 X2c2 X2c3 X2c4 X2c5 X2c6
    have V10 := Lib.hid hv
    have ⟨a0, a1, _, _⟩ := X0.out.cells
    have ⟨b0, b1, _, _⟩ := V5.out.cells
    have ⟨c0, c1, _, _⟩ := V7.out.cells
    have ⟨d0, d1, _, _⟩ := V10.out.cells
    have X2c0 := (k.cell_of X2.out (i := 0) rfl).1
    have X2c1 := (k.cell_of X2.out (i := 1) rfl).1
    have X2c2 := (k.cell_of X2.out (i := 2) rfl).1
    have X2c3 := (k.cell_of X2.out (i := 3) rfl).1
    have X2c4 := (k.cell_of X2.out (i := 4) rfl).1
    have X2c5 := (k.cell_of X2.out (i := 5) rfl).1
    have X2c6 := (k.cell_of X2.out (i := 6) rfl).1
    clear hb hv
    obtain rfl : e1 = h1 := XN.out.1.symm.trans YN.out.1
    obtain rfl : e2 = h2 := XW.out.1.symm.trans YW.out.1
    obtain rfl : e3 = h3 := XI.out.1.symm.trans YI.out.1
    clear HAdd HRef
    go_upto_region 11 with (first | (go_at_call 10; ((with_reducible refine ((hrb ▸ right_any N W M1.out M2.out (Nat.le_refl _) (by omega) (by omega))).mono ?_); rintro e v11 ⟨rfl, hb⟩; have X0 := Lib.hid (X0.out.under hb); have V5 := Lib.hid (V5.out.under hb); have V7 := Lib.hid (V7.out.under hb); have V10 := Lib.hid (V10.out.under hb); have X2 := Lib.hid (X2.out.below hb x4); have x4 := Nat.lt_of_lt_of_le x4 hb.size; have R1 := Lib.hid (rd_under R1.out hb); have R2 := Lib.hid (rd_under R2.out hb); have M1 := Lib.hid (rd_under M1.out hb); have M2 := Lib.hid (rd_under M2.out hb); have XN := Lib.hid (rd_under XN.out hb); have XW := Lib.hid (rd_under XW.out hb); have XI := Lib.hid (rd_under XI.out hb); have YN := Lib.hid (rd_under YN.out hb); have YW := Lib.hid (rd_under YW.out hb); have YI := Lib.hid (rd_under YI.out hb); have X3 := Lib.hid (X3.out.trans (hb.mono X3.out.size)); clear a0 a1 b0 b1 c0 c1 d0 d1 X2c0 X2c1 X2c2 X2c3 X2c4 X2c5 X2c6; have ⟨a0, a1, _, _⟩ := X0.out.cells; have ⟨b0, b1, _, _⟩ := V5.out.cells; have ⟨c0, c1, _, _⟩ := V7.out.cells; have ⟨d0, d1, _, _⟩ := V10.out.cells; have X2c0 := (k.cell_of X2.out (i := 0) rfl).1; have X2c1 := (k.cell_of X2.out (i := 1) rfl).1; have X2c2 := (k.cell_of X2.out (i := 2) rfl).1; have X2c3 := (k.cell_of X2.out (i := 3) rfl).1; have X2c4 := (k.cell_of X2.out (i := 4) rfl).1; have X2c5 := (k.cell_of X2.out (i := 5) rfl).1; have X2c6 := (k.cell_of X2.out (i := 6) rfl).1; clear hb)) | (go_at_call 11; ((with_reducible refine (same_any aN aW XN.out XW.out YN.out YW.out (Nat.le_refl _)).mono ?_); rintro e v12 ⟨rfl, hb⟩; have X0 := Lib.hid (X0.out.under hb); have V5 := Lib.hid (V5.out.under hb); have V7 := Lib.hid (V7.out.under hb); have V10 := Lib.hid (V10.out.under hb); have X2 := Lib.hid (X2.out.below hb x4); have x4 := Nat.lt_of_lt_of_le x4 hb.size; have R1 := Lib.hid (rd_under R1.out hb); have R2 := Lib.hid (rd_under R2.out hb); have M1 := Lib.hid (rd_under M1.out hb); have M2 := Lib.hid (rd_under M2.out hb); have XN := Lib.hid (rd_under XN.out hb); have XW := Lib.hid (rd_under XW.out hb); have XI := Lib.hid (rd_under XI.out hb); have YN := Lib.hid (rd_under YN.out hb); have YW := Lib.hid (rd_under YW.out hb); have YI := Lib.hid (rd_under YI.out hb); have X3 := Lib.hid (X3.out.trans (hb.mono X3.out.size)); clear a0 a1 b0 b1 c0 c1 d0 d1 X2c0 X2c1 X2c2 X2c3 X2c4 X2c5 X2c6; have ⟨a0, a1, _, _⟩ := X0.out.cells; have ⟨b0, b1, _, _⟩ := V5.out.cells; have ⟨c0, c1, _, _⟩ := V7.out.cells; have ⟨d0, d1, _, _⟩ := V10.out.cells; have X2c0 := (k.cell_of X2.out (i := 0) rfl).1; have X2c1 := (k.cell_of X2.out (i := 1) rfl).1; have X2c2 := (k.cell_of X2.out (i := 2) rfl).1; have X2c3 := (k.cell_of X2.out (i := 3) rfl).1; have X2c4 := (k.cell_of X2.out (i := 4) rfl).1; have X2c5 := (k.cell_of X2.out (i := 5) rfl).1; have X2c6 := (k.cell_of X2.out (i := 6) rfl).1; clear hb)) | (go_at_call 12; ((with_reducible refine (sameints_any aI XI.out (Nat.le_refl _) YI.out (Nat.le_refl _)).mono ?_); rintro e v13 ⟨rfl, hb⟩; have X0 := Lib.hid (X0.out.under hb); have V5 := Lib.hid (V5.out.under hb); have V7 := Lib.hid (V7.out.under hb); have V10 := Lib.hid (V10.out.under hb); have X2 := Lib.hid (X2.out.below hb x4); have x4 := Nat.lt_of_lt_of_le x4 hb.size; have R1 := Lib.hid (rd_under R1.out hb); have R2 := Lib.hid (rd_under R2.out hb); have M1 := Lib.hid (rd_under M1.out hb); have M2 := Lib.hid (rd_under M2.out hb); have XN := Lib.hid (rd_under XN.out hb); have XW := Lib.hid (rd_under XW.out hb); have XI := Lib.hid (rd_under XI.out hb); have YN := Lib.hid (rd_under YN.out hb); have YW := Lib.hid (rd_under YW.out hb); have YI := Lib.hid (rd_under YI.out hb); have X3 := Lib.hid (X3.out.trans (hb.mono X3.out.size)); clear a0 a1 b0 b1 c0 c1 d0 d1 X2c0 X2c1 X2c2 X2c3 X2c4 X2c5 X2c6; have ⟨a0, a1, _, _⟩ := X0.out.cells; have ⟨b0, b1, _, _⟩ := V5.out.cells; have ⟨c0, c1, _, _⟩ := V7.out.cells; have ⟨d0, d1, _, _⟩ := V10.out.cells; have X2c0 := (k.cell_of X2.out (i := 0) rfl).1; have X2c1 := (k.cell_of X2.out (i := 1) rfl).1; have X2c2 := (k.cell_of X2.out (i := 2) rfl).1; have X2c3 := (k.cell_of X2.out (i := 3) rfl).1; have X2c4 := (k.cell_of X2.out (i := 4) rfl).1; have X2c5 := (k.cell_of X2.out (i := 5) rfl).1; have X2c6 := (k.cell_of X2.out (i := 6) rfl).1; clear hb)))
    clear a0 a1 b0 b1 c0 c1 d0 d1 X2c0 X2c1 X2c2 X2c3 X2c4 X2c5 X2c6
    have ⟨a0, a1, _, _⟩ := X0.out.cells
    have ⟨b0, b1, _, _⟩ := V5.out.cells
    have ⟨c0, c1, _, _⟩ := V7.out.cells
    have ⟨d0, d1, _, _⟩ := V10.out.cells
    have X2c0 := (k.cell_of X2.out (i := 0) rfl).1
    have X2c1 := (k.cell_of X2.out (i := 1) rfl).1
    have X2c2 := (k.cell_of X2.out (i := 2) rfl).1
    have X2c3 := (k.cell_of X2.out (i := 3) rfl).1
    have X2c4 := (k.cell_of X2.out (i := 4) rfl).1
    have X2c5 := (k.cell_of X2.out (i := 5) rfl).1
    have X2c6 := (k.cell_of X2.out (i := 6) rfl).1
    clear c0 c1 d0 d1 V7 V10 XN XW XI YN YW YI
    go_upto_region 12 with (go_at_call 13; ((with_reducible refine (list_any N W R1.out R2.out (Nat.le_refl _) (by omega) (by omega)).mono ?_); rintro e v14 ⟨vL, rfl, ho, hb⟩; have X0 := Lib.hid (X0.out.under hb); have V5 := Lib.hid (V5.out.under hb); have X2 := Lib.hid (X2.out.below hb x4); have x4 := Nat.lt_of_lt_of_le x4 hb.size; have R1 := Lib.hid (rd_under R1.out hb); have R2 := Lib.hid (rd_under R2.out hb); have M1 := Lib.hid (rd_under M1.out hb); have M2 := Lib.hid (rd_under M2.out hb); have X3 := Lib.hid (X3.out.trans (hb.mono X3.out.size)); clear a0 a1 b0 b1 X2c0 X2c1 X2c2 X2c3 X2c4 X2c5 X2c6; obtain ⟨L13, l13, d13, rfl, hr⟩ := oc_row ho; have AL := Lib.hid hr; clear ho hr; have ⟨a0, a1, _, _⟩ := X0.out.cells; have ⟨b0, b1, _, _⟩ := V5.out.cells; have X2c0 := (k.cell_of X2.out (i := 0) rfl).1; have X2c1 := (k.cell_of X2.out (i := 1) rfl).1; have X2c2 := (k.cell_of X2.out (i := 2) rfl).1; have X2c3 := (k.cell_of X2.out (i := 3) rfl).1; have X2c4 := (k.cell_of X2.out (i := 4) rfl).1; have X2c5 := (k.cell_of X2.out (i := 5) rfl).1; have X2c6 := (k.cell_of X2.out (i := 6) rfl).1; clear hb))
    obtain ⟨eN, heN⟩ : ∃ x, endN N W = x := ⟨_, rfl⟩
    obtain ⟨eW, heW⟩ : ∃ x, endW N W = x := ⟨_, rfl⟩
    obtain ⟨eI, heI⟩ : ∃ x, endI N W = x := ⟨_, rfl⟩
    obtain ⟨kI, hkI⟩ : ∃ x, clearI N W = x := ⟨_, rfl⟩
    obtain ⟨lC, hlC⟩ : ∃ x, lastC N W = x := ⟨_, rfl⟩
    obtain ⟨lB, hlB⟩ : ∃ x, lastB N W = x := ⟨_, rfl⟩
    obtain ⟨nC, hnC⟩ : ∃ x, nextC N W = x := ⟨_, rfl⟩
    obtain ⟨nB, hnB⟩ : ∃ x, nextB N W = x := ⟨_, rfl⟩
    have HEnd : Hid (∀ (W' : World) {D : Option Addr} {q d : Nat} {D' : Option Addr} {q' d' : Nat}, RdC W' W'.heap.size D q d N → RdC W' W'.heap.size D' q' d' W → q ≤ 20 → q' ≤ 20 → Calls Try.prog 14 #[.agg #[.slice D q d, .slice D' q' d']] W' (GotE eN eW eI W')) := Lib.hid fun W' D q d D' q' d' h1 h2 h3 h4 => by have h := end_any N W h1 h2 (Nat.le_refl _) (by omega) (by omega); rw [heN, heW, heI] at h; exact h
    have HClr : Hid (∀ (W' : World) {D : Option Addr} {q d : Nat} {D' : Option Addr} {q' d' : Nat}, RdC W' W'.heap.size D q d N → RdC W' W'.heap.size D' q' d' W → q ≤ 20 → q' ≤ 20 → Calls Try.prog 15 #[.agg #[.slice D q d, .slice D' q' d']] W' (GotI [] [] kI W')) := Lib.hid fun W' D q d D' q' d' h1 h2 h3 h4 => by have h := clear_any N W h1 h2 (Nat.le_refl _) (by omega) (by omega); rw [hkI] at h; exact h
    have HLst : Hid (∀ (W' : World) {D : Option Addr} {q d : Nat} {D' : Option Addr} {q' d' : Nat}, RdC W' W'.heap.size D q d N → RdC W' W'.heap.size D' q' d' W → q ≤ 20 → q' ≤ 20 → Calls Try.prog 16 #[.agg #[.slice D q d, .slice D' q' d']] W' (GotC lC lB W')) := Lib.hid fun W' D q d D' q' d' h1 h2 h3 h4 => by have h := last_any N W h1 h2 (Nat.le_refl _) (by omega) (by omega); rw [hlC, hlB] at h; exact h
    have HNxt : Hid (∀ (W' : World) {D : Option Addr} {q d : Nat} {D' : Option Addr} {q' d' : Nat}, RdC W' W'.heap.size D q d N → RdC W' W'.heap.size D' q' d' W → q ≤ 20 → q' ≤ 20 → Calls Try.prog 17 #[.agg #[.slice D q d, .slice D' q' d']] W' (GotC nC nB W')) := Lib.hid fun W' D q d D' q' d' h1 h2 h3 h4 => by have h := next_any N W h1 h2 (Nat.le_refl _) (by omega) (by omega); rw [hnC, hnB] at h; exact h
    have HQ := Lib.hid (And.intro hrb (And.intro heN (And.intro heW (And.intro heI (And.intro hkI (And.intro hlC (And.intro hlB (And.intro hnC hnB))))))))
    clear hrb heN heW heI hkI hlC hlB hnC hnB
    go_upto_region 13 with (go_at_call 14; ((with_reducible refine (HEnd.out _ M1.out M2.out hm5 hm6).mono ?_); rintro e v15 ⟨E1, e1, f1, E2, e2, f2, rfl, hr1, hr2, hb⟩; have X0 := Lib.hid (X0.out.under hb); have V5 := Lib.hid (V5.out.under hb); have X2 := Lib.hid (X2.out.below hb x4); have x4 := Nat.lt_of_lt_of_le x4 hb.size; have R1 := Lib.hid (rd_under R1.out hb); have R2 := Lib.hid (rd_under R2.out hb); have M1 := Lib.hid (rd_under M1.out hb); have M2 := Lib.hid (rd_under M2.out hb); have AL := Lib.hid (rd_under AL.out hb); have X3 := Lib.hid (X3.out.trans (hb.mono X3.out.size)); clear a0 a1 b0 b1 X2c0 X2c1 X2c2 X2c3 X2c4 X2c5 X2c6; have EN := Lib.hid hr1; have EW := Lib.hid hr2; clear hr1 hr2; have ⟨a0, a1, _, _⟩ := X0.out.cells; have ⟨b0, b1, _, _⟩ := V5.out.cells; have X2c0 := (k.cell_of X2.out (i := 0) rfl).1; have X2c1 := (k.cell_of X2.out (i := 1) rfl).1; have X2c2 := (k.cell_of X2.out (i := 2) rfl).1; have X2c3 := (k.cell_of X2.out (i := 3) rfl).1; have X2c4 := (k.cell_of X2.out (i := 4) rfl).1; have X2c5 := (k.cell_of X2.out (i := 5) rfl).1; have X2c6 := (k.cell_of X2.out (i := 6) rfl).1; clear hb))
    have hb : Below v15.heap.size v15 (v15.alloc (.cells #[.slice E1 e1 f1, .slice E2 e2 f2] 24)) := (Below.refl _ _).alloc (Nat.le_refl _) _
    have hv : VarL (v15.alloc (.cells #[.slice E1 e1 f1, .slice E2 e2 f2] 24)) v15.heap.size E1 e1 f1 E2 e2 f2 := VarL.new _ _ _ _ _ _ _
    generalize (v15.alloc (.cells #[.slice E1 e1 f1, .slice E2 e2 f2] 24)) = v16 at hb hv ⊢
    have X0 := Lib.hid (X0.out.under hb)
    have V5 := Lib.hid (V5.out.under hb)
    have X2 := Lib.hid (X2.out.below hb x4)
    have x4 := Nat.lt_of_lt_of_le x4 hb.size
    have R1 := Lib.hid (rd_under R1.out hb)
    have R2 := Lib.hid (rd_under R2.out hb)
    have M1 := Lib.hid (rd_under M1.out hb)
    have M2 := Lib.hid (rd_under M2.out hb)
    have AL := Lib.hid (rd_under AL.out hb)
    have EN := Lib.hid (rd_under EN.out hb)
    have EW := Lib.hid (rd_under EW.out hb)
    have X3 := Lib.hid (X3.out.trans (hb.mono X3.out.size))
    clear a0 a1 b0 b1 X2c0 X2c1 X2c2 X2c3 X2c4 X2c5 X2c6
    have V14 := Lib.hid hv
    have ⟨a0, a1, _, _⟩ := X0.out.cells
    have ⟨b0, b1, _, _⟩ := V5.out.cells
    have ⟨c0, c1, _, _⟩ := V14.out.cells
    have X2c0 := (k.cell_of X2.out (i := 0) rfl).1
    have X2c1 := (k.cell_of X2.out (i := 1) rfl).1
    have X2c2 := (k.cell_of X2.out (i := 2) rfl).1
    have X2c3 := (k.cell_of X2.out (i := 3) rfl).1
    have X2c4 := (k.cell_of X2.out (i := 4) rfl).1
    have X2c5 := (k.cell_of X2.out (i := 5) rfl).1
    have X2c6 := (k.cell_of X2.out (i := 6) rfl).1
    clear hb hv
    go_upto_region 14 with (go_at_call 15; ((with_reducible refine (HClr.out _ M1.out M2.out hm5 hm6).mono ?_); rintro e v17 ⟨F1, h1, i1, F2, h2, i2, F3, h3, i3, rfl, hr1, hr2, hr3, hb⟩; have X0 := Lib.hid (X0.out.under hb); have V5 := Lib.hid (V5.out.under hb); have V14 := Lib.hid (V14.out.under hb); have X2 := Lib.hid (X2.out.below hb x4); have x4 := Nat.lt_of_lt_of_le x4 hb.size; have R1 := Lib.hid (rd_under R1.out hb); have R2 := Lib.hid (rd_under R2.out hb); have M1 := Lib.hid (rd_under M1.out hb); have M2 := Lib.hid (rd_under M2.out hb); have AL := Lib.hid (rd_under AL.out hb); have EN := Lib.hid (rd_under EN.out hb); have EW := Lib.hid (rd_under EW.out hb); have X3 := Lib.hid (X3.out.trans (hb.mono X3.out.size)); clear a0 a1 b0 b1 c0 c1 X2c0 X2c1 X2c2 X2c3 X2c4 X2c5 X2c6; have KN := Lib.hid hr1; have KW := Lib.hid hr2; have KI := Lib.hid hr3; clear hr1 hr2 hr3; have ⟨a0, a1, _, _⟩ := X0.out.cells; have ⟨b0, b1, _, _⟩ := V5.out.cells; have ⟨c0, c1, _, _⟩ := V14.out.cells; have X2c0 := (k.cell_of X2.out (i := 0) rfl).1; have X2c1 := (k.cell_of X2.out (i := 1) rfl).1; have X2c2 := (k.cell_of X2.out (i := 2) rfl).1; have X2c3 := (k.cell_of X2.out (i := 3) rfl).1; have X2c4 := (k.cell_of X2.out (i := 4) rfl).1; have X2c5 := (k.cell_of X2.out (i := 5) rfl).1; have X2c6 := (k.cell_of X2.out (i := 6) rfl).1; clear hb))
    have hb : Below v17.heap.size v17 (v17.alloc (.cells #[.slice F1 h1 i1, .slice F2 h2 i2] 24)) := (Below.refl _ _).alloc (Nat.le_refl _) _
    have hv : VarL (v17.alloc (.cells #[.slice F1 h1 i1, .slice F2 h2 i2] 24)) v17.heap.size F1 h1 i1 F2 h2 i2 := VarL.new _ _ _ _ _ _ _
    generalize (v17.alloc (.cells #[.slice F1 h1 i1, .slice F2 h2 i2] 24)) = v18 at hb hv ⊢
    have X0 := Lib.hid (X0.out.under hb)
    have V5 := Lib.hid (V5.out.under hb)
    have V14 := Lib.hid (V14.out.under hb)
    have X2 := Lib.hid (X2.out.below hb x4)
    have x4 := Nat.lt_of_lt_of_le x4 hb.size
    have R1 := Lib.hid (rd_under R1.out hb)
    have R2 := Lib.hid (rd_under R2.out hb)
    have M1 := Lib.hid (rd_under M1.out hb)
    have M2 := Lib.hid (rd_under M2.out hb)
    have AL := Lib.hid (rd_under AL.out hb)
    have EN := Lib.hid (rd_under EN.out hb)
    have EW := Lib.hid (rd_under EW.out hb)
    have KN := Lib.hid (rd_under KN.out hb)
    have KW := Lib.hid (rd_under KW.out hb)
    have KI := Lib.hid (rd_under KI.out hb)
    have X3 := Lib.hid (X3.out.trans (hb.mono X3.out.size))
    clear a0 a1 b0 b1 c0 c1 X2c0 X2c1 X2c2 X2c3 X2c4 X2c5 X2c6
    have V16 := Lib.hid hv
    have ⟨a0, a1, _, _⟩ := X0.out.cells
    have ⟨b0, b1, _, _⟩ := V5.out.cells
    have ⟨c0, c1, _, _⟩ := V14.out.cells
    have ⟨d0, d1, _, _⟩ := V16.out.cells
    have X2c0 := (k.cell_of X2.out (i := 0) rfl).1
    have X2c1 := (k.cell_of X2.out (i := 1) rfl).1
    have X2c2 := (k.cell_of X2.out (i := 2) rfl).1
    have X2c3 := (k.cell_of X2.out (i := 3) rfl).1
    have X2c4 := (k.cell_of X2.out (i := 4) rfl).1
    have X2c5 := (k.cell_of X2.out (i := 5) rfl).1
    have X2c6 := (k.cell_of X2.out (i := 6) rfl).1
    clear hb hv
    go_upto_region 15 with (go_at_call 16; ((with_reducible refine (HLst.out _ M1.out M2.out hm5 hm6).mono ?_); rintro e v19 ⟨he, hb⟩; unfold cV at he; subst he; have X0 := Lib.hid (X0.out.under hb); have V5 := Lib.hid (V5.out.under hb); have V14 := Lib.hid (V14.out.under hb); have V16 := Lib.hid (V16.out.under hb); have X2 := Lib.hid (X2.out.below hb x4); have x4 := Nat.lt_of_lt_of_le x4 hb.size; have R1 := Lib.hid (rd_under R1.out hb); have R2 := Lib.hid (rd_under R2.out hb); have M1 := Lib.hid (rd_under M1.out hb); have M2 := Lib.hid (rd_under M2.out hb); have AL := Lib.hid (rd_under AL.out hb); have EN := Lib.hid (rd_under EN.out hb); have EW := Lib.hid (rd_under EW.out hb); have KN := Lib.hid (rd_under KN.out hb); have KW := Lib.hid (rd_under KW.out hb); have KI := Lib.hid (rd_under KI.out hb); have X3 := Lib.hid (X3.out.trans (hb.mono X3.out.size)); clear a0 a1 b0 b1 c0 c1 d0 d1 X2c0 X2c1 X2c2 X2c3 X2c4 X2c5 X2c6; have ⟨a0, a1, _, _⟩ := X0.out.cells; have ⟨b0, b1, _, _⟩ := V5.out.cells; have ⟨c0, c1, _, _⟩ := V14.out.cells; have ⟨d0, d1, _, _⟩ := V16.out.cells; have X2c0 := (k.cell_of X2.out (i := 0) rfl).1; have X2c1 := (k.cell_of X2.out (i := 1) rfl).1; have X2c2 := (k.cell_of X2.out (i := 2) rfl).1; have X2c3 := (k.cell_of X2.out (i := 3) rfl).1; have X2c4 := (k.cell_of X2.out (i := 4) rfl).1; have X2c5 := (k.cell_of X2.out (i := 5) rfl).1; have X2c6 := (k.cell_of X2.out (i := 6) rfl).1; clear hb))
    obtain ⟨hx, hb, hzX18⟩ := k.boxes1 (w := v19) (c1 := #[.int .i64 lC.id, .int .i64 lC.kind, .int .i64 lC.tgt, .int .i64 lC.spd, .int .i64 lC.mode, .int .i64 lC.num, .int .i64 lC.den]) (t1 := 26) (Below.refl _ _)
    generalize (v19.alloc (.cells #[.int .i64 lC.id, .int .i64 lC.kind, .int .i64 lC.tgt, .int .i64 lC.spd, .int .i64 lC.mode, .int .i64 lC.num, .int .i64 lC.den] 26)) = v20 at hb hx hzX18 ⊢
    have X0 := Lib.hid (X0.out.under hb)
    have V5 := Lib.hid (V5.out.under hb)
    have V14 := Lib.hid (V14.out.under hb)
    have V16 := Lib.hid (V16.out.under hb)
    have X2 := Lib.hid (X2.out.below hb x4)
    have x4 := Nat.lt_of_lt_of_le x4 hb.size
    have R1 := Lib.hid (rd_under R1.out hb)
    have R2 := Lib.hid (rd_under R2.out hb)
    have M1 := Lib.hid (rd_under M1.out hb)
    have M2 := Lib.hid (rd_under M2.out hb)
    have AL := Lib.hid (rd_under AL.out hb)
    have EN := Lib.hid (rd_under EN.out hb)
    have EW := Lib.hid (rd_under EW.out hb)
    have KN := Lib.hid (rd_under KN.out hb)
    have KW := Lib.hid (rd_under KW.out hb)
    have KI := Lib.hid (rd_under KI.out hb)
    have X3 := Lib.hid (X3.out.trans (hb.mono X3.out.size))
    clear a0 a1 b0 b1 c0 c1 d0 d1 X2c0 X2c1 X2c2 X2c3 X2c4 X2c5 X2c6
    have X18 := Lib.hid hx
    have ⟨a0, a1, _, _⟩ := X0.out.cells
    have ⟨b0, b1, _, _⟩ := V5.out.cells
    have ⟨c0, c1, _, _⟩ := V14.out.cells
    have ⟨d0, d1, _, _⟩ := V16.out.cells
    have X2c0 := (k.cell_of X2.out (i := 0) rfl).1
    have X2c1 := (k.cell_of X2.out (i := 1) rfl).1
    have X2c2 := (k.cell_of X2.out (i := 2) rfl).1
    have X2c3 := (k.cell_of X2.out (i := 3) rfl).1
    have X2c4 := (k.cell_of X2.out (i := 4) rfl).1
    have X2c5 := (k.cell_of X2.out (i := 5) rfl).1
    have X2c6 := (k.cell_of X2.out (i := 6) rfl).1
    have X18c0 := (k.cell_of X18.out (i := 0) rfl).1
    have X18c1 := (k.cell_of X18.out (i := 1) rfl).1
    have X18c2 := (k.cell_of X18.out (i := 2) rfl).1
    have X18c3 := (k.cell_of X18.out (i := 3) rfl).1
    have X18c4 := (k.cell_of X18.out (i := 4) rfl).1
    have X18c5 := (k.cell_of X18.out (i := 5) rfl).1
    have X18c6 := (k.cell_of X18.out (i := 6) rfl).1
    clear hb hx
    go_upto_region 16 with (go_at_call 17; ((with_reducible refine (HNxt.out _ M1.out M2.out hm5 hm6).mono ?_); rintro e v21 ⟨he, hb⟩; unfold cV at he; subst he; have X0 := Lib.hid (X0.out.under hb); have V5 := Lib.hid (V5.out.under hb); have V14 := Lib.hid (V14.out.under hb); have V16 := Lib.hid (V16.out.under hb); have X2 := Lib.hid (X2.out.below hb x4); have x4 := Nat.lt_of_lt_of_le x4 hb.size; have X18 := Lib.hid (X18.out.below hb hzX18); have hzX18 := Nat.lt_of_lt_of_le hzX18 hb.size; have R1 := Lib.hid (rd_under R1.out hb); have R2 := Lib.hid (rd_under R2.out hb); have M1 := Lib.hid (rd_under M1.out hb); have M2 := Lib.hid (rd_under M2.out hb); have AL := Lib.hid (rd_under AL.out hb); have EN := Lib.hid (rd_under EN.out hb); have EW := Lib.hid (rd_under EW.out hb); have KN := Lib.hid (rd_under KN.out hb); have KW := Lib.hid (rd_under KW.out hb); have KI := Lib.hid (rd_under KI.out hb); have X3 := Lib.hid (X3.out.trans (hb.mono X3.out.size)); clear a0 a1 b0 b1 c0 c1 d0 d1 X2c0 X2c1 X2c2 X2c3 X2c4 X2c5 X2c6 X18c0 X18c1 X18c2 X18c3 X18c4 X18c5 X18c6; have ⟨a0, a1, _, _⟩ := X0.out.cells; have ⟨b0, b1, _, _⟩ := V5.out.cells; have ⟨c0, c1, _, _⟩ := V14.out.cells; have ⟨d0, d1, _, _⟩ := V16.out.cells; have X2c0 := (k.cell_of X2.out (i := 0) rfl).1; have X2c1 := (k.cell_of X2.out (i := 1) rfl).1; have X2c2 := (k.cell_of X2.out (i := 2) rfl).1; have X2c3 := (k.cell_of X2.out (i := 3) rfl).1; have X2c4 := (k.cell_of X2.out (i := 4) rfl).1; have X2c5 := (k.cell_of X2.out (i := 5) rfl).1; have X2c6 := (k.cell_of X2.out (i := 6) rfl).1; have X18c0 := (k.cell_of X18.out (i := 0) rfl).1; have X18c1 := (k.cell_of X18.out (i := 1) rfl).1; have X18c2 := (k.cell_of X18.out (i := 2) rfl).1; have X18c3 := (k.cell_of X18.out (i := 3) rfl).1; have X18c4 := (k.cell_of X18.out (i := 4) rfl).1; have X18c5 := (k.cell_of X18.out (i := 5) rfl).1; have X18c6 := (k.cell_of X18.out (i := 6) rfl).1; clear hb))
    obtain ⟨hx, hb, hzX20⟩ := k.boxes1 (w := v21) (c1 := #[.int .i64 nC.id, .int .i64 nC.kind, .int .i64 nC.tgt, .int .i64 nC.spd, .int .i64 nC.mode, .int .i64 nC.num, .int .i64 nC.den]) (t1 := 26) (Below.refl _ _)
    generalize (v21.alloc (.cells #[.int .i64 nC.id, .int .i64 nC.kind, .int .i64 nC.tgt, .int .i64 nC.spd, .int .i64 nC.mode, .int .i64 nC.num, .int .i64 nC.den] 26)) = v22 at hb hx hzX20 ⊢
    have X0 := Lib.hid (X0.out.under hb)
    have V5 := Lib.hid (V5.out.under hb)
    have V14 := Lib.hid (V14.out.under hb)
    have V16 := Lib.hid (V16.out.under hb)
    have X2 := Lib.hid (X2.out.below hb x4)
    have x4 := Nat.lt_of_lt_of_le x4 hb.size
    have X18 := Lib.hid (X18.out.below hb hzX18)
    have hzX18 := Nat.lt_of_lt_of_le hzX18 hb.size
    have R1 := Lib.hid (rd_under R1.out hb)
    have R2 := Lib.hid (rd_under R2.out hb)
    have M1 := Lib.hid (rd_under M1.out hb)
    have M2 := Lib.hid (rd_under M2.out hb)
    have AL := Lib.hid (rd_under AL.out hb)
    have EN := Lib.hid (rd_under EN.out hb)
    have EW := Lib.hid (rd_under EW.out hb)
    have KN := Lib.hid (rd_under KN.out hb)
    have KW := Lib.hid (rd_under KW.out hb)
    have KI := Lib.hid (rd_under KI.out hb)
    have X3 := Lib.hid (X3.out.trans (hb.mono X3.out.size))
    clear a0 a1 b0 b1 c0 c1 d0 d1 X2c0 X2c1 X2c2 X2c3 X2c4 X2c5 X2c6 X18c0 X18c1 X18c2 X18c3 X18c4 X18c5 X18c6
    have X20 := Lib.hid hx
    have ⟨a0, a1, _, _⟩ := X0.out.cells
    have ⟨b0, b1, _, _⟩ := V5.out.cells
    have ⟨c0, c1, _, _⟩ := V14.out.cells
    have ⟨d0, d1, _, _⟩ := V16.out.cells
    have X2c0 := (k.cell_of X2.out (i := 0) rfl).1
    have X2c1 := (k.cell_of X2.out (i := 1) rfl).1
    have X2c2 := (k.cell_of X2.out (i := 2) rfl).1
    have X2c3 := (k.cell_of X2.out (i := 3) rfl).1
    have X2c4 := (k.cell_of X2.out (i := 4) rfl).1
    have X2c5 := (k.cell_of X2.out (i := 5) rfl).1
    have X2c6 := (k.cell_of X2.out (i := 6) rfl).1
    have X18c0 := (k.cell_of X18.out (i := 0) rfl).1
    have X18c1 := (k.cell_of X18.out (i := 1) rfl).1
    have X18c2 := (k.cell_of X18.out (i := 2) rfl).1
    have X18c3 := (k.cell_of X18.out (i := 3) rfl).1
    have X18c4 := (k.cell_of X18.out (i := 4) rfl).1
    have X18c5 := (k.cell_of X18.out (i := 5) rfl).1
    have X18c6 := (k.cell_of X18.out (i := 6) rfl).1
    have X20c0 := (k.cell_of X20.out (i := 0) rfl).1
    have X20c1 := (k.cell_of X20.out (i := 1) rfl).1
    have X20c2 := (k.cell_of X20.out (i := 2) rfl).1
    have X20c3 := (k.cell_of X20.out (i := 3) rfl).1
    have X20c4 := (k.cell_of X20.out (i := 4) rfl).1
    have X20c5 := (k.cell_of X20.out (i := 5) rfl).1
    have X20c6 := (k.cell_of X20.out (i := 6) rfl).1
    clear hb hx
    clear HEnd HClr HLst HNxt
    by_cases hr : RightL N W
    · by_cases hN : N = []
      · have hW : W = [] := by rcases hr.2.2.2 with h | h; rw [hN] at h; exact absurd h (by simp); exact List.eq_nil_of_length_eq_zero h
        obtain rfl : rb = true := HQ.out.1.symm.trans (right_yes hr)
        have hAll : N ++ W = [] := by rw [hN, hW]; rfl
        obtain rfl : eN = [] := by rw [← HQ.out.2.1]; unfold endN; rw [if_pos hr, hW]; rfl
        obtain rfl : eW = [] := by rw [← HQ.out.2.2.1]; unfold endW; rw [if_pos hr, hW]; rfl
        obtain rfl : eI = 0 := by rw [← HQ.out.2.2.2.1]; unfold endI; rw [if_pos hr, hN]
        obtain rfl : kI = ids (N ++ W) := by rw [← HQ.out.2.2.2.2.1]; unfold clearI; rw [if_pos hr]
        obtain rfl : lB = false := by rw [← HQ.out.2.2.2.2.2.2.1]; exact decide_eq_false fun h => absurd h.2 (by rw [hAll]; decide)
        obtain rfl : nB = false := by rw [← HQ.out.2.2.2.2.2.2.2.2]; exact decide_eq_false fun h => absurd h.2 (by rw [hAll]; decide)
        have hl0 : 0 = l13 := by have := AL.out.1; rw [hAll] at this; exact this
        subst hl0
        obtain rfl : 0 = e1 := EN.out.1
        obtain rfl : 0 = e2 := EW.out.1
        obtain rfl : 0 = h1 := KN.out.1
        obtain rfl : 0 = h2 := KW.out.1
        clear hAll hr hN hW
        obtain rfl : n5 = n := M1.out.1.symm.trans R1.out.1
        obtain rfl : n6 = m := M2.out.1.symm.trans R2.out.1
        go_upto_region 20 with (first | (go_at_call 11; ((with_reducible refine (same_any [] [] KN.out KW.out (Rd.none_ cC 7 _ _) (Rd.none_ cC 7 _ _) (Nat.le_refl _)).mono ?_); rintro e v23 ⟨rfl, hb⟩; have X0 := Lib.hid (X0.out.under hb); have V5 := Lib.hid (V5.out.under hb); have V14 := Lib.hid (V14.out.under hb); have V16 := Lib.hid (V16.out.under hb); have X2 := Lib.hid (X2.out.below hb x4); have x4 := Nat.lt_of_lt_of_le x4 hb.size; have X18 := Lib.hid (X18.out.below hb hzX18); have hzX18 := Nat.lt_of_lt_of_le hzX18 hb.size; have X20 := Lib.hid (X20.out.below hb hzX20); have hzX20 := Nat.lt_of_lt_of_le hzX20 hb.size; have R1 := Lib.hid (rd_under R1.out hb); have R2 := Lib.hid (rd_under R2.out hb); have M1 := Lib.hid (rd_under M1.out hb); have M2 := Lib.hid (rd_under M2.out hb); have AL := Lib.hid (rd_under AL.out hb); have EN := Lib.hid (rd_under EN.out hb); have EW := Lib.hid (rd_under EW.out hb); have KN := Lib.hid (rd_under KN.out hb); have KW := Lib.hid (rd_under KW.out hb); have KI := Lib.hid (rd_under KI.out hb); have X3 := Lib.hid (X3.out.trans (hb.mono X3.out.size)); clear a0 a1 b0 b1 c0 c1 d0 d1 X2c0 X2c1 X2c2 X2c3 X2c4 X2c5 X2c6 X18c0 X18c1 X18c2 X18c3 X18c4 X18c5 X18c6 X20c0 X20c1 X20c2 X20c3 X20c4 X20c5 X20c6; have ⟨a0, a1, _, _⟩ := X0.out.cells; have ⟨b0, b1, _, _⟩ := V5.out.cells; have ⟨c0, c1, _, _⟩ := V14.out.cells; have ⟨d0, d1, _, _⟩ := V16.out.cells; have X2c0 := (k.cell_of X2.out (i := 0) rfl).1; have X2c1 := (k.cell_of X2.out (i := 1) rfl).1; have X2c2 := (k.cell_of X2.out (i := 2) rfl).1; have X2c3 := (k.cell_of X2.out (i := 3) rfl).1; have X2c4 := (k.cell_of X2.out (i := 4) rfl).1; have X2c5 := (k.cell_of X2.out (i := 5) rfl).1; have X2c6 := (k.cell_of X2.out (i := 6) rfl).1; have X18c0 := (k.cell_of X18.out (i := 0) rfl).1; have X18c1 := (k.cell_of X18.out (i := 1) rfl).1; have X18c2 := (k.cell_of X18.out (i := 2) rfl).1; have X18c3 := (k.cell_of X18.out (i := 3) rfl).1; have X18c4 := (k.cell_of X18.out (i := 4) rfl).1; have X18c5 := (k.cell_of X18.out (i := 5) rfl).1; have X18c6 := (k.cell_of X18.out (i := 6) rfl).1; have X20c0 := (k.cell_of X20.out (i := 0) rfl).1; have X20c1 := (k.cell_of X20.out (i := 1) rfl).1; have X20c2 := (k.cell_of X20.out (i := 2) rfl).1; have X20c3 := (k.cell_of X20.out (i := 3) rfl).1; have X20c4 := (k.cell_of X20.out (i := 4) rfl).1; have X20c5 := (k.cell_of X20.out (i := 5) rfl).1; have X20c6 := (k.cell_of X20.out (i := 6) rfl).1; clear hb)) | (go_at_call 18; ((with_reducible refine (ids_any (N ++ W) AL.out (Nat.le_refl _) (by omega)).mono ?_); rintro e v24 ⟨vI, rfl, ho, hb⟩; have X0 := Lib.hid (X0.out.under hb); have V5 := Lib.hid (V5.out.under hb); have V14 := Lib.hid (V14.out.under hb); have V16 := Lib.hid (V16.out.under hb); have X2 := Lib.hid (X2.out.below hb x4); have x4 := Nat.lt_of_lt_of_le x4 hb.size; have X18 := Lib.hid (X18.out.below hb hzX18); have hzX18 := Nat.lt_of_lt_of_le hzX18 hb.size; have X20 := Lib.hid (X20.out.below hb hzX20); have hzX20 := Nat.lt_of_lt_of_le hzX20 hb.size; have R1 := Lib.hid (rd_under R1.out hb); have R2 := Lib.hid (rd_under R2.out hb); have M1 := Lib.hid (rd_under M1.out hb); have M2 := Lib.hid (rd_under M2.out hb); have AL := Lib.hid (rd_under AL.out hb); have EN := Lib.hid (rd_under EN.out hb); have EW := Lib.hid (rd_under EW.out hb); have KN := Lib.hid (rd_under KN.out hb); have KW := Lib.hid (rd_under KW.out hb); have KI := Lib.hid (rd_under KI.out hb); have X3 := Lib.hid (X3.out.trans (hb.mono X3.out.size)); clear a0 a1 b0 b1 c0 c1 d0 d1 X2c0 X2c1 X2c2 X2c3 X2c4 X2c5 X2c6 X18c0 X18c1 X18c2 X18c3 X18c4 X18c5 X18c6 X20c0 X20c1 X20c2 X20c3 X20c4 X20c5 X20c6; obtain ⟨I1, j1, k1, rfl, hr⟩ := oi_row ho; have II := Lib.hid hr; obtain rfl : h3 = j1 := KI.out.1.symm.trans hr.1; clear ho hr; have ⟨a0, a1, _, _⟩ := X0.out.cells; have ⟨b0, b1, _, _⟩ := V5.out.cells; have ⟨c0, c1, _, _⟩ := V14.out.cells; have ⟨d0, d1, _, _⟩ := V16.out.cells; have X2c0 := (k.cell_of X2.out (i := 0) rfl).1; have X2c1 := (k.cell_of X2.out (i := 1) rfl).1; have X2c2 := (k.cell_of X2.out (i := 2) rfl).1; have X2c3 := (k.cell_of X2.out (i := 3) rfl).1; have X2c4 := (k.cell_of X2.out (i := 4) rfl).1; have X2c5 := (k.cell_of X2.out (i := 5) rfl).1; have X2c6 := (k.cell_of X2.out (i := 6) rfl).1; have X18c0 := (k.cell_of X18.out (i := 0) rfl).1; have X18c1 := (k.cell_of X18.out (i := 1) rfl).1; have X18c2 := (k.cell_of X18.out (i := 2) rfl).1; have X18c3 := (k.cell_of X18.out (i := 3) rfl).1; have X18c4 := (k.cell_of X18.out (i := 4) rfl).1; have X18c5 := (k.cell_of X18.out (i := 5) rfl).1; have X18c6 := (k.cell_of X18.out (i := 6) rfl).1; have X20c0 := (k.cell_of X20.out (i := 0) rfl).1; have X20c1 := (k.cell_of X20.out (i := 1) rfl).1; have X20c2 := (k.cell_of X20.out (i := 2) rfl).1; have X20c3 := (k.cell_of X20.out (i := 3) rfl).1; have X20c4 := (k.cell_of X20.out (i := 4) rfl).1; have X20c5 := (k.cell_of X20.out (i := 5) rfl).1; have X20c6 := (k.cell_of X20.out (i := 6) rfl).1; clear hb)) | (go_at_call 12; ((with_reducible refine (sameints_any (ids (N ++ W)) KI.out (Nat.le_refl _) II.out (Nat.le_refl _)).mono ?_); rintro e v25 ⟨rfl, hb⟩; have X0 := Lib.hid (X0.out.under hb); have V5 := Lib.hid (V5.out.under hb); have V14 := Lib.hid (V14.out.under hb); have V16 := Lib.hid (V16.out.under hb); have X2 := Lib.hid (X2.out.below hb x4); have x4 := Nat.lt_of_lt_of_le x4 hb.size; have X18 := Lib.hid (X18.out.below hb hzX18); have hzX18 := Nat.lt_of_lt_of_le hzX18 hb.size; have X20 := Lib.hid (X20.out.below hb hzX20); have hzX20 := Nat.lt_of_lt_of_le hzX20 hb.size; have R1 := Lib.hid (rd_under R1.out hb); have R2 := Lib.hid (rd_under R2.out hb); have M1 := Lib.hid (rd_under M1.out hb); have M2 := Lib.hid (rd_under M2.out hb); have AL := Lib.hid (rd_under AL.out hb); have EN := Lib.hid (rd_under EN.out hb); have EW := Lib.hid (rd_under EW.out hb); have KN := Lib.hid (rd_under KN.out hb); have KW := Lib.hid (rd_under KW.out hb); have KI := Lib.hid (rd_under KI.out hb); have II := Lib.hid (rd_under II.out hb); have X3 := Lib.hid (X3.out.trans (hb.mono X3.out.size)); clear a0 a1 b0 b1 c0 c1 d0 d1 X2c0 X2c1 X2c2 X2c3 X2c4 X2c5 X2c6 X18c0 X18c1 X18c2 X18c3 X18c4 X18c5 X18c6 X20c0 X20c1 X20c2 X20c3 X20c4 X20c5 X20c6; have ⟨a0, a1, _, _⟩ := X0.out.cells; have ⟨b0, b1, _, _⟩ := V5.out.cells; have ⟨c0, c1, _, _⟩ := V14.out.cells; have ⟨d0, d1, _, _⟩ := V16.out.cells; have X2c0 := (k.cell_of X2.out (i := 0) rfl).1; have X2c1 := (k.cell_of X2.out (i := 1) rfl).1; have X2c2 := (k.cell_of X2.out (i := 2) rfl).1; have X2c3 := (k.cell_of X2.out (i := 3) rfl).1; have X2c4 := (k.cell_of X2.out (i := 4) rfl).1; have X2c5 := (k.cell_of X2.out (i := 5) rfl).1; have X2c6 := (k.cell_of X2.out (i := 6) rfl).1; have X18c0 := (k.cell_of X18.out (i := 0) rfl).1; have X18c1 := (k.cell_of X18.out (i := 1) rfl).1; have X18c2 := (k.cell_of X18.out (i := 2) rfl).1; have X18c3 := (k.cell_of X18.out (i := 3) rfl).1; have X18c4 := (k.cell_of X18.out (i := 4) rfl).1; have X18c5 := (k.cell_of X18.out (i := 5) rfl).1; have X18c6 := (k.cell_of X18.out (i := 6) rfl).1; have X20c0 := (k.cell_of X20.out (i := 0) rfl).1; have X20c1 := (k.cell_of X20.out (i := 1) rfl).1; have X20c2 := (k.cell_of X20.out (i := 2) rfl).1; have X20c3 := (k.cell_of X20.out (i := 3) rfl).1; have X20c4 := (k.cell_of X20.out (i := 4) rfl).1; have X20c5 := (k.cell_of X20.out (i := 5) rfl).1; have X20c6 := (k.cell_of X20.out (i := 6) rfl).1; clear hb)) | (go_at_call 11; ((with_reducible refine (same_any N W M1.out M2.out R1.out R2.out (Nat.le_refl _)).mono ?_); rintro e v26 ⟨rfl, hb⟩; have X0 := Lib.hid (X0.out.under hb); have V5 := Lib.hid (V5.out.under hb); have V14 := Lib.hid (V14.out.under hb); have V16 := Lib.hid (V16.out.under hb); have X2 := Lib.hid (X2.out.below hb x4); have x4 := Nat.lt_of_lt_of_le x4 hb.size; have X18 := Lib.hid (X18.out.below hb hzX18); have hzX18 := Nat.lt_of_lt_of_le hzX18 hb.size; have X20 := Lib.hid (X20.out.below hb hzX20); have hzX20 := Nat.lt_of_lt_of_le hzX20 hb.size; have R1 := Lib.hid (rd_under R1.out hb); have R2 := Lib.hid (rd_under R2.out hb); have M1 := Lib.hid (rd_under M1.out hb); have M2 := Lib.hid (rd_under M2.out hb); have AL := Lib.hid (rd_under AL.out hb); have EN := Lib.hid (rd_under EN.out hb); have EW := Lib.hid (rd_under EW.out hb); have KN := Lib.hid (rd_under KN.out hb); have KW := Lib.hid (rd_under KW.out hb); have KI := Lib.hid (rd_under KI.out hb); have II := Lib.hid (rd_under II.out hb); have X3 := Lib.hid (X3.out.trans (hb.mono X3.out.size)); clear a0 a1 b0 b1 c0 c1 d0 d1 X2c0 X2c1 X2c2 X2c3 X2c4 X2c5 X2c6 X18c0 X18c1 X18c2 X18c3 X18c4 X18c5 X18c6 X20c0 X20c1 X20c2 X20c3 X20c4 X20c5 X20c6; have ⟨a0, a1, _, _⟩ := X0.out.cells; have ⟨b0, b1, _, _⟩ := V5.out.cells; have ⟨c0, c1, _, _⟩ := V14.out.cells; have ⟨d0, d1, _, _⟩ := V16.out.cells; have X2c0 := (k.cell_of X2.out (i := 0) rfl).1; have X2c1 := (k.cell_of X2.out (i := 1) rfl).1; have X2c2 := (k.cell_of X2.out (i := 2) rfl).1; have X2c3 := (k.cell_of X2.out (i := 3) rfl).1; have X2c4 := (k.cell_of X2.out (i := 4) rfl).1; have X2c5 := (k.cell_of X2.out (i := 5) rfl).1; have X2c6 := (k.cell_of X2.out (i := 6) rfl).1; have X18c0 := (k.cell_of X18.out (i := 0) rfl).1; have X18c1 := (k.cell_of X18.out (i := 1) rfl).1; have X18c2 := (k.cell_of X18.out (i := 2) rfl).1; have X18c3 := (k.cell_of X18.out (i := 3) rfl).1; have X18c4 := (k.cell_of X18.out (i := 4) rfl).1; have X18c5 := (k.cell_of X18.out (i := 5) rfl).1; have X18c6 := (k.cell_of X18.out (i := 6) rfl).1; have X20c0 := (k.cell_of X20.out (i := 0) rfl).1; have X20c1 := (k.cell_of X20.out (i := 1) rfl).1; have X20c2 := (k.cell_of X20.out (i := 2) rfl).1; have X20c3 := (k.cell_of X20.out (i := 3) rfl).1; have X20c4 := (k.cell_of X20.out (i := 4) rfl).1; have X20c5 := (k.cell_of X20.out (i := 5) rfl).1; have X20c6 := (k.cell_of X20.out (i := 6) rfl).1; clear hb)))
        go_wp2_with (go_at_call 11; ((with_reducible refine (same_any [] [] EN.out EW.out (Rd.none_ cC 7 _ _) (Rd.none_ cC 7 _ _) (Nat.le_refl _)).mono ?_); rintro e v27 ⟨rfl, hb⟩; have X0 := Lib.hid (X0.out.under hb); have V5 := Lib.hid (V5.out.under hb); have V14 := Lib.hid (V14.out.under hb); have V16 := Lib.hid (V16.out.under hb); have X2 := Lib.hid (X2.out.below hb x4); have x4 := Nat.lt_of_lt_of_le x4 hb.size; have X18 := Lib.hid (X18.out.below hb hzX18); have hzX18 := Nat.lt_of_lt_of_le hzX18 hb.size; have X20 := Lib.hid (X20.out.below hb hzX20); have hzX20 := Nat.lt_of_lt_of_le hzX20 hb.size; have R1 := Lib.hid (rd_under R1.out hb); have R2 := Lib.hid (rd_under R2.out hb); have M1 := Lib.hid (rd_under M1.out hb); have M2 := Lib.hid (rd_under M2.out hb); have AL := Lib.hid (rd_under AL.out hb); have EN := Lib.hid (rd_under EN.out hb); have EW := Lib.hid (rd_under EW.out hb); have KN := Lib.hid (rd_under KN.out hb); have KW := Lib.hid (rd_under KW.out hb); have KI := Lib.hid (rd_under KI.out hb); have II := Lib.hid (rd_under II.out hb); have X3 := Lib.hid (X3.out.trans (hb.mono X3.out.size)); clear a0 a1 b0 b1 c0 c1 d0 d1 X2c0 X2c1 X2c2 X2c3 X2c4 X2c5 X2c6 X18c0 X18c1 X18c2 X18c3 X18c4 X18c5 X18c6 X20c0 X20c1 X20c2 X20c3 X20c4 X20c5 X20c6; have ⟨a0, a1, _, _⟩ := X0.out.cells; have ⟨b0, b1, _, _⟩ := V5.out.cells; have ⟨c0, c1, _, _⟩ := V14.out.cells; have ⟨d0, d1, _, _⟩ := V16.out.cells; have X2c0 := (k.cell_of X2.out (i := 0) rfl).1; have X2c1 := (k.cell_of X2.out (i := 1) rfl).1; have X2c2 := (k.cell_of X2.out (i := 2) rfl).1; have X2c3 := (k.cell_of X2.out (i := 3) rfl).1; have X2c4 := (k.cell_of X2.out (i := 4) rfl).1; have X2c5 := (k.cell_of X2.out (i := 5) rfl).1; have X2c6 := (k.cell_of X2.out (i := 6) rfl).1; have X18c0 := (k.cell_of X18.out (i := 0) rfl).1; have X18c1 := (k.cell_of X18.out (i := 1) rfl).1; have X18c2 := (k.cell_of X18.out (i := 2) rfl).1; have X18c3 := (k.cell_of X18.out (i := 3) rfl).1; have X18c4 := (k.cell_of X18.out (i := 4) rfl).1; have X18c5 := (k.cell_of X18.out (i := 5) rfl).1; have X18c6 := (k.cell_of X18.out (i := 6) rfl).1; have X20c0 := (k.cell_of X20.out (i := 0) rfl).1; have X20c1 := (k.cell_of X20.out (i := 1) rfl).1; have X20c2 := (k.cell_of X20.out (i := 2) rfl).1; have X20c3 := (k.cell_of X20.out (i := 3) rfl).1; have X20c4 := (k.cell_of X20.out (i := 4) rfl).1; have X20c5 := (k.cell_of X20.out (i := 5) rfl).1; have X20c6 := (k.cell_of X20.out (i := 6) rfl).1; clear hb))
        go_ret
        exact ⟨rfl, X3.out⟩
      · obtain ⟨x, hNx⟩ : ∃ x, N = [x] := by
          have h1 := hr.2.1
          cases N with
          | nil => exact absurd rfl hN
          | cons y t => cases t with
            | nil => exact ⟨y, rfl⟩
            | cons z t => simp at h1; omega
        obtain rfl : rb = true := HQ.out.1.symm.trans (right_yes hr)
        have hAll : N ++ W = x :: W := by rw [hNx]; rfl
        have hDrop : (N ++ W).drop 1 = W := by rw [hAll]; rfl
        obtain rfl : eN = ((N ++ W).drop 1).take 1 := by rw [← HQ.out.2.1]; unfold endN; rw [if_pos hr, hDrop]
        obtain rfl : eW = ((N ++ W).drop 1).drop 1 := by rw [← HQ.out.2.2.1]; unfold endW; rw [if_pos hr, hDrop]
        obtain rfl : eI = x.id := by rw [← HQ.out.2.2.2.1]; unfold endI; rw [if_pos hr, hNx]
        obtain rfl : kI = ids (N ++ W) := by rw [← HQ.out.2.2.2.2.1]; unfold clearI; rw [if_pos hr]
        obtain rfl : lB = true := by rw [← HQ.out.2.2.2.2.2.2.1]; exact decide_eq_true ⟨hr, by rw [hAll]; simp⟩
        obtain ⟨p, rfl⟩ : ∃ p, l13 = p + 1 := ⟨W.length, by rw [← AL.out.1, hAll]; rfl⟩
        have hpl : (N ++ W).length = p + 1 := AL.out.1
        have hLast : (N ++ W)[p]? = some lC := by
          have e : lC = (N ++ W).getLast?.getD zeroC := by rw [← HQ.out.2.2.2.2.2.1]; unfold lastC; rw [if_pos hr]
          rw [e, List.getLast?_eq_getElem?, hpl, Nat.add_sub_cancel]
          have hlt : p < (N ++ W).length := by omega
          rw [List.getElem?_eq_getElem hlt]; rfl
        have hFst : (N ++ W)[0]? = some x := by rw [hAll]; rfl
        have hNB : nB = decide (1 < p + 1) := by rw [← HQ.out.2.2.2.2.2.2.2.2]; unfold nextB; rw [hpl]; simp [hr]
        have hSnd : 1 < p + 1 → (N ++ W)[1]? = some nC := fun h => by
          have e : nC = W.head?.getD zeroC := by rw [← HQ.out.2.2.2.2.2.2.2.1]; unfold nextC; rw [if_pos hr]
          have hw : W.length = p := by have := hpl; rw [hAll] at this; simpa using this
          rw [e, hAll]
          cases W with
          | nil => simp at hw; omega
          | cons y t => rfl
        obtain rfl : 0 = h1 := KN.out.1
        obtain rfl : 0 = h2 := KW.out.1
        obtain rfl : n5 = n := M1.out.1.symm.trans R1.out.1
        obtain rfl : n6 = m := M2.out.1.symm.trans R2.out.1
        have HF := Lib.hid (And.intro hLast (And.intro hFst hSnd))
        have HE := Lib.hid (And.intro hDrop hpl)
        have hp20 : p + 1 ≤ 40 := by have := HLN.out; have := hpl; rw [List.length_append] at this; omega
        clear hLast hFst hSnd hAll hr hN hNx hDrop hpl
        obtain ⟨b, off, rfl, _, _⟩ := AL.out.2.2.2.2 (Nat.succ_pos p)
        have hcap : p + 1 ≤ d13 := AL.out.2.1
        have i0 : (0 : Int) < (p : Int) + 1 := by omega
        have i2 : ((p : Int) + 1 == 0) = false := by rw [beq_eq_false_iff_ne]; omega
        have i5 : (1 : Int) ≤ (p : Int) + 1 := by omega
        have i6 : (0 : Int) ≤ (p : Int) := by omega
        have i7 : (p : Int) < (p : Int) + 1 := by omega
        by_cases hp1 : 0 < p
        · obtain rfl : nB = true := hNB.trans (decide_eq_true (by omega))
          have i3 : (1 : Int) < (p : Int) + 1 := by omega
          clear hNB
          go_upto_region 22 with (first | (go_at_call 11; ((with_reducible refine (same_any [] [] KN.out KW.out (Rd.none_ cC 7 _ _) (Rd.none_ cC 7 _ _) (Nat.le_refl _)).mono ?_); rintro e v28 ⟨rfl, hb⟩; have X0 := Lib.hid (X0.out.under hb); have V5 := Lib.hid (V5.out.under hb); have V14 := Lib.hid (V14.out.under hb); have V16 := Lib.hid (V16.out.under hb); have X2 := Lib.hid (X2.out.below hb x4); have x4 := Nat.lt_of_lt_of_le x4 hb.size; have X18 := Lib.hid (X18.out.below hb hzX18); have hzX18 := Nat.lt_of_lt_of_le hzX18 hb.size; have X20 := Lib.hid (X20.out.below hb hzX20); have hzX20 := Nat.lt_of_lt_of_le hzX20 hb.size; have R1 := Lib.hid (rd_under R1.out hb); have R2 := Lib.hid (rd_under R2.out hb); have M1 := Lib.hid (rd_under M1.out hb); have M2 := Lib.hid (rd_under M2.out hb); have AL := Lib.hid (rd_under AL.out hb); have EN := Lib.hid (rd_under EN.out hb); have EW := Lib.hid (rd_under EW.out hb); have KN := Lib.hid (rd_under KN.out hb); have KW := Lib.hid (rd_under KW.out hb); have KI := Lib.hid (rd_under KI.out hb); have X3 := Lib.hid (X3.out.trans (hb.mono X3.out.size)); clear a0 a1 b0 b1 c0 c1 d0 d1 X2c0 X2c1 X2c2 X2c3 X2c4 X2c5 X2c6 X18c0 X18c1 X18c2 X18c3 X18c4 X18c5 X18c6 X20c0 X20c1 X20c2 X20c3 X20c4 X20c5 X20c6; have ⟨a0, a1, _, _⟩ := X0.out.cells; have ⟨b0, b1, _, _⟩ := V5.out.cells; have ⟨c0, c1, _, _⟩ := V14.out.cells; have ⟨d0, d1, _, _⟩ := V16.out.cells; have X2c0 := (k.cell_of X2.out (i := 0) rfl).1; have X2c1 := (k.cell_of X2.out (i := 1) rfl).1; have X2c2 := (k.cell_of X2.out (i := 2) rfl).1; have X2c3 := (k.cell_of X2.out (i := 3) rfl).1; have X2c4 := (k.cell_of X2.out (i := 4) rfl).1; have X2c5 := (k.cell_of X2.out (i := 5) rfl).1; have X2c6 := (k.cell_of X2.out (i := 6) rfl).1; have X18c0 := (k.cell_of X18.out (i := 0) rfl).1; have X18c1 := (k.cell_of X18.out (i := 1) rfl).1; have X18c2 := (k.cell_of X18.out (i := 2) rfl).1; have X18c3 := (k.cell_of X18.out (i := 3) rfl).1; have X18c4 := (k.cell_of X18.out (i := 4) rfl).1; have X18c5 := (k.cell_of X18.out (i := 5) rfl).1; have X18c6 := (k.cell_of X18.out (i := 6) rfl).1; have X20c0 := (k.cell_of X20.out (i := 0) rfl).1; have X20c1 := (k.cell_of X20.out (i := 1) rfl).1; have X20c2 := (k.cell_of X20.out (i := 2) rfl).1; have X20c3 := (k.cell_of X20.out (i := 3) rfl).1; have X20c4 := (k.cell_of X20.out (i := 4) rfl).1; have X20c5 := (k.cell_of X20.out (i := 5) rfl).1; have X20c6 := (k.cell_of X20.out (i := 6) rfl).1; clear hb)) | (go_at_call 18; ((with_reducible refine (ids_any (N ++ W) AL.out (Nat.le_refl _) (by omega)).mono ?_); rintro e v29 ⟨vI, rfl, ho, hb⟩; have X0 := Lib.hid (X0.out.under hb); have V5 := Lib.hid (V5.out.under hb); have V14 := Lib.hid (V14.out.under hb); have V16 := Lib.hid (V16.out.under hb); have X2 := Lib.hid (X2.out.below hb x4); have x4 := Nat.lt_of_lt_of_le x4 hb.size; have X18 := Lib.hid (X18.out.below hb hzX18); have hzX18 := Nat.lt_of_lt_of_le hzX18 hb.size; have X20 := Lib.hid (X20.out.below hb hzX20); have hzX20 := Nat.lt_of_lt_of_le hzX20 hb.size; have R1 := Lib.hid (rd_under R1.out hb); have R2 := Lib.hid (rd_under R2.out hb); have M1 := Lib.hid (rd_under M1.out hb); have M2 := Lib.hid (rd_under M2.out hb); have AL := Lib.hid (rd_under AL.out hb); have EN := Lib.hid (rd_under EN.out hb); have EW := Lib.hid (rd_under EW.out hb); have KN := Lib.hid (rd_under KN.out hb); have KW := Lib.hid (rd_under KW.out hb); have KI := Lib.hid (rd_under KI.out hb); have X3 := Lib.hid (X3.out.trans (hb.mono X3.out.size)); clear a0 a1 b0 b1 c0 c1 d0 d1 X2c0 X2c1 X2c2 X2c3 X2c4 X2c5 X2c6 X18c0 X18c1 X18c2 X18c3 X18c4 X18c5 X18c6 X20c0 X20c1 X20c2 X20c3 X20c4 X20c5 X20c6; obtain ⟨I1, j1, k1, rfl, hr⟩ := oi_row ho; have II := Lib.hid hr; obtain rfl : h3 = j1 := KI.out.1.symm.trans hr.1; clear ho hr; have ⟨a0, a1, _, _⟩ := X0.out.cells; have ⟨b0, b1, _, _⟩ := V5.out.cells; have ⟨c0, c1, _, _⟩ := V14.out.cells; have ⟨d0, d1, _, _⟩ := V16.out.cells; have X2c0 := (k.cell_of X2.out (i := 0) rfl).1; have X2c1 := (k.cell_of X2.out (i := 1) rfl).1; have X2c2 := (k.cell_of X2.out (i := 2) rfl).1; have X2c3 := (k.cell_of X2.out (i := 3) rfl).1; have X2c4 := (k.cell_of X2.out (i := 4) rfl).1; have X2c5 := (k.cell_of X2.out (i := 5) rfl).1; have X2c6 := (k.cell_of X2.out (i := 6) rfl).1; have X18c0 := (k.cell_of X18.out (i := 0) rfl).1; have X18c1 := (k.cell_of X18.out (i := 1) rfl).1; have X18c2 := (k.cell_of X18.out (i := 2) rfl).1; have X18c3 := (k.cell_of X18.out (i := 3) rfl).1; have X18c4 := (k.cell_of X18.out (i := 4) rfl).1; have X18c5 := (k.cell_of X18.out (i := 5) rfl).1; have X18c6 := (k.cell_of X18.out (i := 6) rfl).1; have X20c0 := (k.cell_of X20.out (i := 0) rfl).1; have X20c1 := (k.cell_of X20.out (i := 1) rfl).1; have X20c2 := (k.cell_of X20.out (i := 2) rfl).1; have X20c3 := (k.cell_of X20.out (i := 3) rfl).1; have X20c4 := (k.cell_of X20.out (i := 4) rfl).1; have X20c5 := (k.cell_of X20.out (i := 5) rfl).1; have X20c6 := (k.cell_of X20.out (i := 6) rfl).1; clear hb)) | (go_at_call 12; ((with_reducible refine (sameints_any (ids (N ++ W)) KI.out (Nat.le_refl _) II.out (Nat.le_refl _)).mono ?_); rintro e v30 ⟨rfl, hb⟩; have X0 := Lib.hid (X0.out.under hb); have V5 := Lib.hid (V5.out.under hb); have V14 := Lib.hid (V14.out.under hb); have V16 := Lib.hid (V16.out.under hb); have X2 := Lib.hid (X2.out.below hb x4); have x4 := Nat.lt_of_lt_of_le x4 hb.size; have X18 := Lib.hid (X18.out.below hb hzX18); have hzX18 := Nat.lt_of_lt_of_le hzX18 hb.size; have X20 := Lib.hid (X20.out.below hb hzX20); have hzX20 := Nat.lt_of_lt_of_le hzX20 hb.size; have R1 := Lib.hid (rd_under R1.out hb); have R2 := Lib.hid (rd_under R2.out hb); have M1 := Lib.hid (rd_under M1.out hb); have M2 := Lib.hid (rd_under M2.out hb); have AL := Lib.hid (rd_under AL.out hb); have EN := Lib.hid (rd_under EN.out hb); have EW := Lib.hid (rd_under EW.out hb); have KN := Lib.hid (rd_under KN.out hb); have KW := Lib.hid (rd_under KW.out hb); have KI := Lib.hid (rd_under KI.out hb); have II := Lib.hid (rd_under II.out hb); have X3 := Lib.hid (X3.out.trans (hb.mono X3.out.size)); clear a0 a1 b0 b1 c0 c1 d0 d1 X2c0 X2c1 X2c2 X2c3 X2c4 X2c5 X2c6 X18c0 X18c1 X18c2 X18c3 X18c4 X18c5 X18c6 X20c0 X20c1 X20c2 X20c3 X20c4 X20c5 X20c6; have ⟨a0, a1, _, _⟩ := X0.out.cells; have ⟨b0, b1, _, _⟩ := V5.out.cells; have ⟨c0, c1, _, _⟩ := V14.out.cells; have ⟨d0, d1, _, _⟩ := V16.out.cells; have X2c0 := (k.cell_of X2.out (i := 0) rfl).1; have X2c1 := (k.cell_of X2.out (i := 1) rfl).1; have X2c2 := (k.cell_of X2.out (i := 2) rfl).1; have X2c3 := (k.cell_of X2.out (i := 3) rfl).1; have X2c4 := (k.cell_of X2.out (i := 4) rfl).1; have X2c5 := (k.cell_of X2.out (i := 5) rfl).1; have X2c6 := (k.cell_of X2.out (i := 6) rfl).1; have X18c0 := (k.cell_of X18.out (i := 0) rfl).1; have X18c1 := (k.cell_of X18.out (i := 1) rfl).1; have X18c2 := (k.cell_of X18.out (i := 2) rfl).1; have X18c3 := (k.cell_of X18.out (i := 3) rfl).1; have X18c4 := (k.cell_of X18.out (i := 4) rfl).1; have X18c5 := (k.cell_of X18.out (i := 5) rfl).1; have X18c6 := (k.cell_of X18.out (i := 6) rfl).1; have X20c0 := (k.cell_of X20.out (i := 0) rfl).1; have X20c1 := (k.cell_of X20.out (i := 1) rfl).1; have X20c2 := (k.cell_of X20.out (i := 2) rfl).1; have X20c3 := (k.cell_of X20.out (i := 3) rfl).1; have X20c4 := (k.cell_of X20.out (i := 4) rfl).1; have X20c5 := (k.cell_of X20.out (i := 5) rfl).1; have X20c6 := (k.cell_of X20.out (i := 6) rfl).1; clear hb)) | (go_at_call 11; ((with_reducible refine (same_any N W M1.out M2.out R1.out R2.out (Nat.le_refl _)).mono ?_); rintro e v31 ⟨rfl, hb⟩; have X0 := Lib.hid (X0.out.under hb); have V5 := Lib.hid (V5.out.under hb); have V14 := Lib.hid (V14.out.under hb); have V16 := Lib.hid (V16.out.under hb); have X2 := Lib.hid (X2.out.below hb x4); have x4 := Nat.lt_of_lt_of_le x4 hb.size; have X18 := Lib.hid (X18.out.below hb hzX18); have hzX18 := Nat.lt_of_lt_of_le hzX18 hb.size; have X20 := Lib.hid (X20.out.below hb hzX20); have hzX20 := Nat.lt_of_lt_of_le hzX20 hb.size; have R1 := Lib.hid (rd_under R1.out hb); have R2 := Lib.hid (rd_under R2.out hb); have M1 := Lib.hid (rd_under M1.out hb); have M2 := Lib.hid (rd_under M2.out hb); have AL := Lib.hid (rd_under AL.out hb); have EN := Lib.hid (rd_under EN.out hb); have EW := Lib.hid (rd_under EW.out hb); have KN := Lib.hid (rd_under KN.out hb); have KW := Lib.hid (rd_under KW.out hb); have KI := Lib.hid (rd_under KI.out hb); have II := Lib.hid (rd_under II.out hb); have X3 := Lib.hid (X3.out.trans (hb.mono X3.out.size)); clear a0 a1 b0 b1 c0 c1 d0 d1 X2c0 X2c1 X2c2 X2c3 X2c4 X2c5 X2c6 X18c0 X18c1 X18c2 X18c3 X18c4 X18c5 X18c6 X20c0 X20c1 X20c2 X20c3 X20c4 X20c5 X20c6; have ⟨a0, a1, _, _⟩ := X0.out.cells; have ⟨b0, b1, _, _⟩ := V5.out.cells; have ⟨c0, c1, _, _⟩ := V14.out.cells; have ⟨d0, d1, _, _⟩ := V16.out.cells; have X2c0 := (k.cell_of X2.out (i := 0) rfl).1; have X2c1 := (k.cell_of X2.out (i := 1) rfl).1; have X2c2 := (k.cell_of X2.out (i := 2) rfl).1; have X2c3 := (k.cell_of X2.out (i := 3) rfl).1; have X2c4 := (k.cell_of X2.out (i := 4) rfl).1; have X2c5 := (k.cell_of X2.out (i := 5) rfl).1; have X2c6 := (k.cell_of X2.out (i := 6) rfl).1; have X18c0 := (k.cell_of X18.out (i := 0) rfl).1; have X18c1 := (k.cell_of X18.out (i := 1) rfl).1; have X18c2 := (k.cell_of X18.out (i := 2) rfl).1; have X18c3 := (k.cell_of X18.out (i := 3) rfl).1; have X18c4 := (k.cell_of X18.out (i := 4) rfl).1; have X18c5 := (k.cell_of X18.out (i := 5) rfl).1; have X18c6 := (k.cell_of X18.out (i := 6) rfl).1; have X20c0 := (k.cell_of X20.out (i := 0) rfl).1; have X20c1 := (k.cell_of X20.out (i := 1) rfl).1; have X20c2 := (k.cell_of X20.out (i := 2) rfl).1; have X20c3 := (k.cell_of X20.out (i := 3) rfl).1; have X20c4 := (k.cell_of X20.out (i := 4) rfl).1; have X20c5 := (k.cell_of X20.out (i := 5) rfl).1; have X20c6 := (k.cell_of X20.out (i := 6) rfl).1; clear hb)))
          have hd1 : ¬ d13 = 1 := by omega
          obtain ⟨b', off', eL, hbL, hcL⟩ := AL.out.2.2.2.2 (by omega)
          injection eL with eL
          injection eL with eb eo _
          subst eb eo
          have q0 : v31.rangeAt b off (cC x) := by simpa using hcL 0 x HF.out.2.1
          have ⟨k0, _⟩ := cells_com q0
          have ⟨l0, l1, l2, l3, l4, l5, l6⟩ := cells_com (hcL p lC HF.out.1)
          have q1 : v31.rangeAt b (off + 7) (cC nC) := by simpa using hcL 1 nC (HF.out.2.2 (by omega))
          have ⟨n0, n1, n2, n3, n4, n5', n6'⟩ := cells_com q1
          simp only [Nat.add_assoc, Nat.reduceAdd] at n0 n1 n2 n3 n4 n5' n6'
          have RW : Hid (RdC v31 v31.heap.size (some ⟨b, off + 7, none⟩) p (d13 - 1) ((N ++ W).drop 1)) := Lib.hid ⟨by rw [List.length_drop, HE.out.2]; omega, by omega, by have := AL.out.2.2.1; omega, (fun h => by cases h), fun hpos => ⟨b, _, rfl, hbL, fun i y hy => by
            have h := hcL (i + 1) y (by rw [← hy, List.getElem?_drop, Nat.add_comm 1 i])
            rw [show off + (i + 1) * 7 = off + 7 + i * 7 by omega] at h
            exact h⟩⟩
          have hVL := V14.out.lt
          clear hcL
          have i8 : IntKind.i64.wrap (p : Int) = (p : Int) := IntWalk.i64_in _ (by omega)
          refine wp_region_T (by kernel_rfl) (fun w' => Below v31.heap.size v31 w') [] (Below.refl _ _).drew (fun hHeld => ?_)
          refine wpAnyT_take (i := 0) (v := ?_) rfl (by kernel_rfl) (by kernel_rfl) (by kernel_rfl) (fun _ _ _ h => h) (Or.inl ⟨by rfl, ?_⟩) (by assumption) ?_
          rotate_left 1
          · intro w hSw; have s0 := (hSw.cell (p := ⟨v15.heap.size, 0, none⟩) hVL).trans c0; have s1 := (hSw.cell (p := ⟨v15.heap.size, 1, none⟩) hVL).trans c1; clear hSw; go_simp <;> (with_reducible rfl)
          try simp only [Act.put, List.setIfInBounds_toArray, List.set_cons_zero, List.set_cons_succ, List.getElem_toArray, List.getElem_cons_zero]
          refine wpAnyT_take (i := 1) (v := ?_) rfl (by kernel_rfl) (by kernel_rfl) (by kernel_rfl) (fun _ _ _ h => h) (Or.inl ⟨by rfl, ?_⟩) (by assumption) ?_
          rotate_left 1
          · intro w hSw; clear hSw; go_simp <;> (with_reducible rfl)
          try simp only [Act.put, List.setIfInBounds_toArray, List.set_cons_zero, List.set_cons_succ, List.getElem_toArray, List.getElem_cons_succ, List.getElem_cons_zero]
          refine wpAnyT_take (i := 2) (v := ?_) rfl (by kernel_rfl) (by kernel_rfl) (by kernel_rfl) (fun _ _ _ h => h) (Or.inl ⟨by rfl, ?_⟩) (by assumption) ?_
          rotate_left 1
          · intro w hSw; clear hSw; go_simp <;> (with_reducible rfl)
          try simp only [Act.put, List.setIfInBounds_toArray, List.set_cons_zero, List.set_cons_succ, List.getElem_toArray, List.getElem_cons_succ, List.getElem_cons_zero]
          refine wpAnyT_ready (rs := [3]) (by kernel_rfl) (by simp) ?_
          refine AllReadyT.cons rfl (fun K hK => ?_) AllReadyT.nil
          go_simp
          (go_at_call 19; ((refine (of_any ((N ++ W).drop 1) (w := v31.drew) (rd_under RW.out ((Below.refl _ _).drew)) (Nat.le_refl _) (by omega)).mono ?_); rintro e wO ⟨G1, j1, k1, G2, j2, k2, rfl, hr1, hr2, hb0⟩))
          have hb : Below v31.heap.size v31 wO := (Below.refl _ _).drew.trans hb0
          go_wp2_with fail
          have GN := Lib.hid (ow_row hr1)
          have GW := Lib.hid (ow_row hr2)
          have DN := Lib.hid (rd_under EN.out hb)
          have DW := Lib.hid (rd_under EW.out hb)
          obtain rfl : e1 = j1 := DN.out.1.symm.trans GN.out.1
          obtain rfl : e2 = j2 := DW.out.1.symm.trans GW.out.1
          have HbO := Lib.hid hb
          clear hb0 hr1 hr2
          refine hK.out _ _ hb (fun hHeld => ?_)
          clear hK K hb
          try simp only [Act.put, List.setIfInBounds_toArray, List.set_cons_zero, List.set_cons_succ, List.getElem_toArray, List.getElem_cons_succ, List.getElem_cons_zero]
          refine wpAnyT_ready (rs := [4]) (by kernel_rfl) (by simp) ?_
          refine AllReadyT.cons rfl (fun K hK => ?_) AllReadyT.nil
          go_simp
          (go_at_call 11; ((refine (same_any (((N ++ W).drop 1).take 1) (((N ++ W).drop 1).drop 1) DN.out DW.out GN.out GW.out (Nat.le_refl _)).mono ?_); rintro e wS ⟨rfl, hb0⟩))
          have hb : Below v31.heap.size v31 wS := HbO.out.trans (hb0.mono HbO.out.size)
          go_wp2_with fail
          have HbS := Lib.hid hb
          clear hb0
          refine hK.out _ _ hb (fun hHeld => ?_)
          clear hK K hb
          try simp only [Act.put, List.setIfInBounds_toArray, List.set_cons_zero, List.set_cons_succ, List.getElem_toArray, List.getElem_cons_succ, List.getElem_cons_zero]
          refine wpAnyT_take (i := 5) (v := ?_) rfl (by kernel_rfl) (by kernel_rfl) (by kernel_rfl) (fun _ _ _ h => h) (Or.inl ⟨by rfl, ?_⟩) (by assumption) ?_
          rotate_left 1
          · intro w hSw; clear hSw; go_simp <;> (with_reducible rfl)
          try simp only [Act.put, List.setIfInBounds_toArray, List.set_cons_zero, List.set_cons_succ, List.getElem_toArray, List.getElem_cons_succ, List.getElem_cons_zero]
          refine wpAnyT_take (i := 6) (v := ?_) rfl (by kernel_rfl) (by kernel_rfl) (by kernel_rfl) (fun _ _ _ h => h) (Or.inl ⟨by rfl, ?_⟩) (by assumption) ?_
          rotate_left 1
          · intro w hSw; clear hSw; go_simp <;> (with_reducible rfl)
          try simp only [Act.put, List.setIfInBounds_toArray, List.set_cons_zero, List.set_cons_succ, List.getElem_toArray, List.getElem_cons_succ, List.getElem_cons_zero]
          refine wpAnyT_take (i := 7) (v := ?_) rfl (by kernel_rfl) (by kernel_rfl) (by kernel_rfl) (fun _ _ _ h => h) (Or.inl ⟨by rfl, ?_⟩) (by assumption) ?_
          rotate_left 1
          · intro w hSw; clear hSw; go_simp <;> (with_reducible rfl)
          try simp only [Act.put, List.setIfInBounds_toArray, List.set_cons_zero, List.set_cons_succ, List.getElem_toArray, List.getElem_cons_succ, List.getElem_cons_zero]
          refine wpAnyT_take (i := 8) (v := ?_) rfl (by kernel_rfl) (by kernel_rfl) (by kernel_rfl) (fun _ _ _ h => h) (Or.inl ⟨by rfl, ?_⟩) (by assumption) ?_
          rotate_left 1
          · intro w hSw; clear hSw; go_simp <;> (with_reducible rfl)
          try simp only [Act.put, List.setIfInBounds_toArray, List.set_cons_zero, List.set_cons_succ, List.getElem_toArray, List.getElem_cons_succ, List.getElem_cons_zero]
          refine wpAnyT_take (i := 9) (v := ?_) rfl (by kernel_rfl) (by kernel_rfl) (by kernel_rfl) (fun _ _ _ h => h) (Or.inl ⟨by rfl, ?_⟩) (by assumption) ?_
          rotate_left 1
          · intro w hSw; clear hSw; go_simp <;> (with_reducible rfl)
          try simp only [Act.put, List.setIfInBounds_toArray, List.set_cons_zero, List.set_cons_succ, List.getElem_toArray, List.getElem_cons_succ, List.getElem_cons_zero]
          refine wpAnyT_take (i := 10) (v := ?_) rfl (by kernel_rfl) (by kernel_rfl) (by kernel_rfl) (fun _ _ _ h => h) (Or.inl ⟨by rfl, ?_⟩) (by assumption) ?_
          rotate_left 1
          · intro w hSw; have s0 := (hSw.cell (p := ⟨b, off, none⟩) hbL).trans k0; clear hSw; go_simp <;> (with_reducible rfl)
          try simp only [Act.put, List.setIfInBounds_toArray, List.set_cons_zero, List.set_cons_succ, List.getElem_toArray, List.getElem_cons_succ, List.getElem_cons_zero]
          refine wpAnyT_take (i := 11) (v := ?_) rfl (by kernel_rfl) (by kernel_rfl) (by kernel_rfl) (fun _ _ _ h => h) (Or.inl ⟨by rfl, ?_⟩) (by assumption) ?_
          rotate_left 1
          · intro w hSw; clear hSw; go_simp <;> (with_reducible rfl)
          try simp only [Act.put, List.setIfInBounds_toArray, List.set_cons_zero, List.set_cons_succ, List.getElem_toArray, List.getElem_cons_succ, List.getElem_cons_zero]
          refine wpAnyT_take (i := 12) (v := ?_) rfl (by kernel_rfl) (by kernel_rfl) (by kernel_rfl) (fun _ _ _ h => h) (Or.inl ⟨by rfl, ?_⟩) (by assumption) ?_
          rotate_left 1
          · intro w hSw; clear hSw; go_simp <;> (with_reducible rfl)
          try simp only [Act.put, List.setIfInBounds_toArray, List.set_cons_zero, List.set_cons_succ, List.getElem_toArray, List.getElem_cons_succ, List.getElem_cons_zero]
          refine wpAnyT_take (i := 13) (v := ?_) rfl (by kernel_rfl) (by kernel_rfl) (by kernel_rfl) (fun _ _ _ h => h) (Or.inl ⟨by rfl, ?_⟩) (by assumption) ?_
          rotate_left 1
          · intro w hSw; clear hSw; go_simp <;> (with_reducible rfl)
          try simp only [Act.put, List.setIfInBounds_toArray, List.set_cons_zero, List.set_cons_succ, List.getElem_toArray, List.getElem_cons_succ, List.getElem_cons_zero]
          refine wpAnyT_take (i := 14) (v := ?_) rfl (by kernel_rfl) (by kernel_rfl) (by kernel_rfl) (fun _ _ _ h => h) (Or.inl ⟨by rfl, ?_⟩) (by assumption) ?_
          rotate_left 1
          · intro w hSw; have s0 := (hSw.cell (p := ⟨v19.heap.size, 0, none⟩) hzX18).trans X18c0; have s1 := (hSw.cell (p := ⟨v19.heap.size, 1, none⟩) hzX18).trans X18c1; have s2 := (hSw.cell (p := ⟨v19.heap.size, 2, none⟩) hzX18).trans X18c2; have s3 := (hSw.cell (p := ⟨v19.heap.size, 3, none⟩) hzX18).trans X18c3; have s4 := (hSw.cell (p := ⟨v19.heap.size, 4, none⟩) hzX18).trans X18c4; have s5 := (hSw.cell (p := ⟨v19.heap.size, 5, none⟩) hzX18).trans X18c5; have s6 := (hSw.cell (p := ⟨v19.heap.size, 6, none⟩) hzX18).trans X18c6; clear hSw; go_simp <;> (with_reducible rfl)
          try simp only [Act.put, List.setIfInBounds_toArray, List.set_cons_zero, List.set_cons_succ, List.getElem_toArray, List.getElem_cons_succ, List.getElem_cons_zero]
          refine wpAnyT_take (i := 15) (v := ?_) rfl (by kernel_rfl) (by kernel_rfl) (by kernel_rfl) (fun _ _ _ h => h) (Or.inl ⟨by rfl, ?_⟩) (by assumption) ?_
          rotate_left 1
          · intro w hSw; clear hSw; go_simp <;> (with_reducible rfl)
          try simp only [Act.put, List.setIfInBounds_toArray, List.set_cons_zero, List.set_cons_succ, List.getElem_toArray, List.getElem_cons_succ, List.getElem_cons_zero]
          refine wpAnyT_take (i := 16) (v := ?_) rfl (by kernel_rfl) (by kernel_rfl) (by kernel_rfl) (fun _ _ _ h => h) (Or.inl ⟨by rfl, ?_⟩) (by assumption) ?_
          rotate_left 1
          · intro w hSw; clear hSw; go_simp <;> (with_reducible rfl)
          try simp only [Act.put, List.setIfInBounds_toArray, List.set_cons_zero, List.set_cons_succ, List.getElem_toArray, List.getElem_cons_succ, List.getElem_cons_zero]
          refine wpAnyT_take (i := 17) (v := ?_) rfl (by kernel_rfl) (by kernel_rfl) (by kernel_rfl) (fun _ _ _ h => h) (Or.inl ⟨by rfl, ?_⟩) (by assumption) ?_
          rotate_left 1
          · intro w hSw; clear hSw; go_simp <;> (with_reducible rfl)
          try simp only [Act.put, List.setIfInBounds_toArray, List.set_cons_zero, List.set_cons_succ, List.getElem_toArray, List.getElem_cons_succ, List.getElem_cons_zero]
          refine wpAnyT_take (i := 18) (v := ?_) rfl (by kernel_rfl) (by kernel_rfl) (by kernel_rfl) (fun _ _ _ h => h) (Or.inl ⟨by rfl, ?_⟩) (by assumption) ?_
          rotate_left 1
          · intro w hSw; clear hSw; go_simp <;> (with_reducible rfl)
          try simp only [Act.put, List.setIfInBounds_toArray, List.set_cons_zero, List.set_cons_succ, List.getElem_toArray, List.getElem_cons_succ, List.getElem_cons_zero]
          refine wpAnyT_take (i := 19) (v := ?_) rfl (by kernel_rfl) (by kernel_rfl) (by kernel_rfl) (fun _ _ _ h => h) (Or.inl ⟨by rfl, ?_⟩) (by assumption) ?_
          rotate_left 1
          · intro w hSw; clear hSw; go_simp <;> (with_reducible rfl)
          try simp only [Act.put, List.setIfInBounds_toArray, List.set_cons_zero, List.set_cons_succ, List.getElem_toArray, List.getElem_cons_succ, List.getElem_cons_zero]
          refine wpAnyT_take (i := 20) (v := ?_) rfl (by kernel_rfl) (by kernel_rfl) (by kernel_rfl) (fun _ _ _ h => h) (Or.inl ⟨by rfl, ?_⟩) (by assumption) ?_
          rotate_left 1
          · intro w hSw; have s0 := (hSw.cell (p := ⟨b, off + p * 7, none⟩) hbL).trans l0; have s1 := (hSw.cell (p := ⟨b, off + p * 7 + 1, none⟩) hbL).trans l1; have s2 := (hSw.cell (p := ⟨b, off + p * 7 + 2, none⟩) hbL).trans l2; have s3 := (hSw.cell (p := ⟨b, off + p * 7 + 3, none⟩) hbL).trans l3; have s4 := (hSw.cell (p := ⟨b, off + p * 7 + 4, none⟩) hbL).trans l4; have s5 := (hSw.cell (p := ⟨b, off + p * 7 + 5, none⟩) hbL).trans l5; have s6 := (hSw.cell (p := ⟨b, off + p * 7 + 6, none⟩) hbL).trans l6; clear hSw; go_simp <;> (with_reducible rfl)
          try simp only [Act.put, List.setIfInBounds_toArray, List.set_cons_zero, List.set_cons_succ, List.getElem_toArray, List.getElem_cons_succ, List.getElem_cons_zero]
          refine wpAnyT_take (i := 21) (v := ?_) rfl (by kernel_rfl) (by kernel_rfl) (by kernel_rfl) (fun _ _ _ h => h) (Or.inl ⟨by rfl, ?_⟩) (by assumption) ?_
          rotate_left 1
          · intro w hSw; clear hSw; go_simp <;> (with_reducible rfl)
          try simp only [Act.put, List.setIfInBounds_toArray, List.set_cons_zero, List.set_cons_succ, List.getElem_toArray, List.getElem_cons_succ, List.getElem_cons_zero]
          refine wpAnyT_take (i := 22) (v := ?_) rfl (by kernel_rfl) (by kernel_rfl) (by kernel_rfl) (fun _ _ _ h => h) (Or.inl ⟨by rfl, ?_⟩) (by assumption) ?_
          rotate_left 1
          · intro w hSw; clear hSw; go_simp <;> (with_reducible rfl)
          try simp only [Act.put, List.setIfInBounds_toArray, List.set_cons_zero, List.set_cons_succ, List.getElem_toArray, List.getElem_cons_succ, List.getElem_cons_zero]
          refine wpAnyT_take (i := 23) (v := ?_) rfl (by kernel_rfl) (by kernel_rfl) (by kernel_rfl) (fun _ _ _ h => h) (Or.inl ⟨by rfl, ?_⟩) (by assumption) ?_
          rotate_left 1
          · intro w hSw; clear hSw; go_simp <;> (with_reducible rfl)
          try simp only [Act.put, List.setIfInBounds_toArray, List.set_cons_zero, List.set_cons_succ, List.getElem_toArray, List.getElem_cons_succ, List.getElem_cons_zero]
          refine wpAnyT_take (i := 24) (v := ?_) rfl (by kernel_rfl) (by kernel_rfl) (by kernel_rfl) (fun _ _ _ h => h) (Or.inl ⟨by rfl, ?_⟩) (by assumption) ?_
          rotate_left 1
          · intro w hSw; clear hSw; go_simp <;> (with_reducible rfl)
          try simp only [Act.put, List.setIfInBounds_toArray, List.set_cons_zero, List.set_cons_succ, List.getElem_toArray, List.getElem_cons_succ, List.getElem_cons_zero]
          refine wpAnyT_take (i := 25) (v := ?_) rfl (by kernel_rfl) (by kernel_rfl) (by kernel_rfl) (fun _ _ _ h => h) (Or.inl ⟨by rfl, ?_⟩) (by assumption) ?_
          rotate_left 1
          · intro w hSw; clear hSw; go_simp <;> (with_reducible rfl)
          try simp only [Act.put, List.setIfInBounds_toArray, List.set_cons_zero, List.set_cons_succ, List.getElem_toArray, List.getElem_cons_succ, List.getElem_cons_zero]
          refine wpAnyT_take (i := 26) (v := ?_) rfl (by kernel_rfl) (by kernel_rfl) (by kernel_rfl) (fun _ _ _ h => h) (Or.inl ⟨by rfl, ?_⟩) (by assumption) ?_
          rotate_left 1
          · intro w hSw; clear hSw; go_simp <;> (with_reducible rfl)
          try simp only [Act.put, List.setIfInBounds_toArray, List.set_cons_zero, List.set_cons_succ, List.getElem_toArray, List.getElem_cons_succ, List.getElem_cons_zero]
          refine wpAnyT_take (i := 27) (v := ?_) rfl (by kernel_rfl) (by kernel_rfl) (by kernel_rfl) (fun _ _ _ h => h) (Or.inl ⟨by rfl, ?_⟩) (by assumption) ?_
          rotate_left 1
          · intro w hSw; have s0 := (hSw.cell (p := ⟨v21.heap.size, 0, none⟩) hzX20).trans X20c0; have s1 := (hSw.cell (p := ⟨v21.heap.size, 1, none⟩) hzX20).trans X20c1; have s2 := (hSw.cell (p := ⟨v21.heap.size, 2, none⟩) hzX20).trans X20c2; have s3 := (hSw.cell (p := ⟨v21.heap.size, 3, none⟩) hzX20).trans X20c3; have s4 := (hSw.cell (p := ⟨v21.heap.size, 4, none⟩) hzX20).trans X20c4; have s5 := (hSw.cell (p := ⟨v21.heap.size, 5, none⟩) hzX20).trans X20c5; have s6 := (hSw.cell (p := ⟨v21.heap.size, 6, none⟩) hzX20).trans X20c6; clear hSw; go_simp <;> (with_reducible rfl)
          try simp only [Act.put, List.setIfInBounds_toArray, List.set_cons_zero, List.set_cons_succ, List.getElem_toArray, List.getElem_cons_succ, List.getElem_cons_zero]
          refine wpAnyT_take (i := 28) (v := ?_) rfl (by kernel_rfl) (by kernel_rfl) (by kernel_rfl) (fun _ _ _ h => h) (Or.inl ⟨by rfl, ?_⟩) (by assumption) ?_
          rotate_left 1
          · intro w hSw; clear hSw; go_simp <;> (with_reducible rfl)
          try simp only [Act.put, List.setIfInBounds_toArray, List.set_cons_zero, List.set_cons_succ, List.getElem_toArray, List.getElem_cons_succ, List.getElem_cons_zero]
          refine wpAnyT_take (i := 29) (v := ?_) rfl (by kernel_rfl) (by kernel_rfl) (by kernel_rfl) (fun _ _ _ h => h) (Or.inl ⟨by rfl, ?_⟩) (by assumption) ?_
          rotate_left 1
          · intro w hSw; clear hSw; go_simp <;> (with_reducible rfl)
          try simp only [Act.put, List.setIfInBounds_toArray, List.set_cons_zero, List.set_cons_succ, List.getElem_toArray, List.getElem_cons_succ, List.getElem_cons_zero]
          refine wpAnyT_take (i := 30) (v := ?_) rfl (by kernel_rfl) (by kernel_rfl) (by kernel_rfl) (fun _ _ _ h => h) (Or.inl ⟨by rfl, ?_⟩) (by assumption) ?_
          rotate_left 1
          · intro w hSw; have s0 := (hSw.cell (p := ⟨b, off + 7, none⟩) hbL).trans n0; have s1 := (hSw.cell (p := ⟨b, off + 8, none⟩) hbL).trans n1; have s2 := (hSw.cell (p := ⟨b, off + 9, none⟩) hbL).trans n2; have s3 := (hSw.cell (p := ⟨b, off + 10, none⟩) hbL).trans n3; have s4 := (hSw.cell (p := ⟨b, off + 11, none⟩) hbL).trans n4; have s5 := (hSw.cell (p := ⟨b, off + 12, none⟩) hbL).trans n5'; have s6 := (hSw.cell (p := ⟨b, off + 13, none⟩) hbL).trans n6'; clear hSw; go_simp <;> (with_reducible rfl)
          try simp only [Act.put, List.setIfInBounds_toArray, List.set_cons_zero, List.set_cons_succ, List.getElem_toArray, List.getElem_cons_succ, List.getElem_cons_zero]
          refine wpAnyT_take (i := 31) (v := ?_) rfl (by kernel_rfl) (by kernel_rfl) (by kernel_rfl) (fun _ _ _ h => h) (Or.inl ⟨by rfl, ?_⟩) (by assumption) ?_
          rotate_left 1
          · intro w hSw; clear hSw; go_simp <;> (with_reducible rfl)
          try simp only [Act.put, List.setIfInBounds_toArray, List.set_cons_zero, List.set_cons_succ, List.getElem_toArray, List.getElem_cons_succ, List.getElem_cons_zero]
          refine wpAnyT_take (i := 32) (v := ?_) rfl (by kernel_rfl) (by kernel_rfl) (by kernel_rfl) (fun _ _ _ h => h) (Or.inl ⟨by rfl, ?_⟩) (by assumption) ?_
          rotate_left 1
          · intro w hSw; clear hSw; go_simp <;> (with_reducible rfl)
          try simp only [Act.put, List.setIfInBounds_toArray, List.set_cons_zero, List.set_cons_succ, List.getElem_toArray, List.getElem_cons_succ, List.getElem_cons_zero]
          refine wpAnyT_take (i := 33) (v := ?_) rfl (by kernel_rfl) (by kernel_rfl) (by kernel_rfl) (fun _ _ _ h => h) (Or.inl ⟨by rfl, ?_⟩) (by assumption) ?_
          rotate_left 1
          · intro w hSw; clear hSw; go_simp <;> (with_reducible rfl)
          try simp only [Act.put, List.setIfInBounds_toArray, List.set_cons_zero, List.set_cons_succ, List.getElem_toArray, List.getElem_cons_succ, List.getElem_cons_zero]
          refine wpAnyT_take (i := 34) (v := ?_) rfl (by kernel_rfl) (by kernel_rfl) (by kernel_rfl) (fun _ _ _ h => h) (Or.inl ⟨by rfl, ?_⟩) (by assumption) ?_
          rotate_left 1
          · intro w hSw; clear hSw; go_simp <;> (with_reducible rfl)
          try simp only [Act.put, List.setIfInBounds_toArray, List.set_cons_zero, List.set_cons_succ, List.getElem_toArray, List.getElem_cons_succ, List.getElem_cons_zero]
          refine wpAnyT_done (by kernel_rfl) ?_ _
          go_wp2
          go_ret
          exact ⟨rfl, X3.out.trans (HbS.out.mono X3.out.size)⟩
        · obtain rfl : nB = false := hNB.trans (decide_eq_false (by omega))
          have i3 : (p : Int) + 1 ≤ 1 := by omega
          have i4 : decide ((1 : Int) < (p : Int) + 1) = false := decide_eq_false (by omega)
          clear hNB
          go_upto_region 22 with (first | (go_at_call 11; ((with_reducible refine (same_any [] [] KN.out KW.out (Rd.none_ cC 7 _ _) (Rd.none_ cC 7 _ _) (Nat.le_refl _)).mono ?_); rintro e v28 ⟨rfl, hb⟩; have X0 := Lib.hid (X0.out.under hb); have V5 := Lib.hid (V5.out.under hb); have V14 := Lib.hid (V14.out.under hb); have V16 := Lib.hid (V16.out.under hb); have X2 := Lib.hid (X2.out.below hb x4); have x4 := Nat.lt_of_lt_of_le x4 hb.size; have X18 := Lib.hid (X18.out.below hb hzX18); have hzX18 := Nat.lt_of_lt_of_le hzX18 hb.size; have X20 := Lib.hid (X20.out.below hb hzX20); have hzX20 := Nat.lt_of_lt_of_le hzX20 hb.size; have R1 := Lib.hid (rd_under R1.out hb); have R2 := Lib.hid (rd_under R2.out hb); have M1 := Lib.hid (rd_under M1.out hb); have M2 := Lib.hid (rd_under M2.out hb); have AL := Lib.hid (rd_under AL.out hb); have EN := Lib.hid (rd_under EN.out hb); have EW := Lib.hid (rd_under EW.out hb); have KN := Lib.hid (rd_under KN.out hb); have KW := Lib.hid (rd_under KW.out hb); have KI := Lib.hid (rd_under KI.out hb); have X3 := Lib.hid (X3.out.trans (hb.mono X3.out.size)); clear a0 a1 b0 b1 c0 c1 d0 d1 X2c0 X2c1 X2c2 X2c3 X2c4 X2c5 X2c6 X18c0 X18c1 X18c2 X18c3 X18c4 X18c5 X18c6 X20c0 X20c1 X20c2 X20c3 X20c4 X20c5 X20c6; have ⟨a0, a1, _, _⟩ := X0.out.cells; have ⟨b0, b1, _, _⟩ := V5.out.cells; have ⟨c0, c1, _, _⟩ := V14.out.cells; have ⟨d0, d1, _, _⟩ := V16.out.cells; have X2c0 := (k.cell_of X2.out (i := 0) rfl).1; have X2c1 := (k.cell_of X2.out (i := 1) rfl).1; have X2c2 := (k.cell_of X2.out (i := 2) rfl).1; have X2c3 := (k.cell_of X2.out (i := 3) rfl).1; have X2c4 := (k.cell_of X2.out (i := 4) rfl).1; have X2c5 := (k.cell_of X2.out (i := 5) rfl).1; have X2c6 := (k.cell_of X2.out (i := 6) rfl).1; have X18c0 := (k.cell_of X18.out (i := 0) rfl).1; have X18c1 := (k.cell_of X18.out (i := 1) rfl).1; have X18c2 := (k.cell_of X18.out (i := 2) rfl).1; have X18c3 := (k.cell_of X18.out (i := 3) rfl).1; have X18c4 := (k.cell_of X18.out (i := 4) rfl).1; have X18c5 := (k.cell_of X18.out (i := 5) rfl).1; have X18c6 := (k.cell_of X18.out (i := 6) rfl).1; have X20c0 := (k.cell_of X20.out (i := 0) rfl).1; have X20c1 := (k.cell_of X20.out (i := 1) rfl).1; have X20c2 := (k.cell_of X20.out (i := 2) rfl).1; have X20c3 := (k.cell_of X20.out (i := 3) rfl).1; have X20c4 := (k.cell_of X20.out (i := 4) rfl).1; have X20c5 := (k.cell_of X20.out (i := 5) rfl).1; have X20c6 := (k.cell_of X20.out (i := 6) rfl).1; clear hb)) | (go_at_call 18; ((with_reducible refine (ids_any (N ++ W) AL.out (Nat.le_refl _) (by omega)).mono ?_); rintro e v29 ⟨vI, rfl, ho, hb⟩; have X0 := Lib.hid (X0.out.under hb); have V5 := Lib.hid (V5.out.under hb); have V14 := Lib.hid (V14.out.under hb); have V16 := Lib.hid (V16.out.under hb); have X2 := Lib.hid (X2.out.below hb x4); have x4 := Nat.lt_of_lt_of_le x4 hb.size; have X18 := Lib.hid (X18.out.below hb hzX18); have hzX18 := Nat.lt_of_lt_of_le hzX18 hb.size; have X20 := Lib.hid (X20.out.below hb hzX20); have hzX20 := Nat.lt_of_lt_of_le hzX20 hb.size; have R1 := Lib.hid (rd_under R1.out hb); have R2 := Lib.hid (rd_under R2.out hb); have M1 := Lib.hid (rd_under M1.out hb); have M2 := Lib.hid (rd_under M2.out hb); have AL := Lib.hid (rd_under AL.out hb); have EN := Lib.hid (rd_under EN.out hb); have EW := Lib.hid (rd_under EW.out hb); have KN := Lib.hid (rd_under KN.out hb); have KW := Lib.hid (rd_under KW.out hb); have KI := Lib.hid (rd_under KI.out hb); have X3 := Lib.hid (X3.out.trans (hb.mono X3.out.size)); clear a0 a1 b0 b1 c0 c1 d0 d1 X2c0 X2c1 X2c2 X2c3 X2c4 X2c5 X2c6 X18c0 X18c1 X18c2 X18c3 X18c4 X18c5 X18c6 X20c0 X20c1 X20c2 X20c3 X20c4 X20c5 X20c6; obtain ⟨I1, j1, k1, rfl, hr⟩ := oi_row ho; have II := Lib.hid hr; obtain rfl : h3 = j1 := KI.out.1.symm.trans hr.1; clear ho hr; have ⟨a0, a1, _, _⟩ := X0.out.cells; have ⟨b0, b1, _, _⟩ := V5.out.cells; have ⟨c0, c1, _, _⟩ := V14.out.cells; have ⟨d0, d1, _, _⟩ := V16.out.cells; have X2c0 := (k.cell_of X2.out (i := 0) rfl).1; have X2c1 := (k.cell_of X2.out (i := 1) rfl).1; have X2c2 := (k.cell_of X2.out (i := 2) rfl).1; have X2c3 := (k.cell_of X2.out (i := 3) rfl).1; have X2c4 := (k.cell_of X2.out (i := 4) rfl).1; have X2c5 := (k.cell_of X2.out (i := 5) rfl).1; have X2c6 := (k.cell_of X2.out (i := 6) rfl).1; have X18c0 := (k.cell_of X18.out (i := 0) rfl).1; have X18c1 := (k.cell_of X18.out (i := 1) rfl).1; have X18c2 := (k.cell_of X18.out (i := 2) rfl).1; have X18c3 := (k.cell_of X18.out (i := 3) rfl).1; have X18c4 := (k.cell_of X18.out (i := 4) rfl).1; have X18c5 := (k.cell_of X18.out (i := 5) rfl).1; have X18c6 := (k.cell_of X18.out (i := 6) rfl).1; have X20c0 := (k.cell_of X20.out (i := 0) rfl).1; have X20c1 := (k.cell_of X20.out (i := 1) rfl).1; have X20c2 := (k.cell_of X20.out (i := 2) rfl).1; have X20c3 := (k.cell_of X20.out (i := 3) rfl).1; have X20c4 := (k.cell_of X20.out (i := 4) rfl).1; have X20c5 := (k.cell_of X20.out (i := 5) rfl).1; have X20c6 := (k.cell_of X20.out (i := 6) rfl).1; clear hb)) | (go_at_call 12; ((with_reducible refine (sameints_any (ids (N ++ W)) KI.out (Nat.le_refl _) II.out (Nat.le_refl _)).mono ?_); rintro e v30 ⟨rfl, hb⟩; have X0 := Lib.hid (X0.out.under hb); have V5 := Lib.hid (V5.out.under hb); have V14 := Lib.hid (V14.out.under hb); have V16 := Lib.hid (V16.out.under hb); have X2 := Lib.hid (X2.out.below hb x4); have x4 := Nat.lt_of_lt_of_le x4 hb.size; have X18 := Lib.hid (X18.out.below hb hzX18); have hzX18 := Nat.lt_of_lt_of_le hzX18 hb.size; have X20 := Lib.hid (X20.out.below hb hzX20); have hzX20 := Nat.lt_of_lt_of_le hzX20 hb.size; have R1 := Lib.hid (rd_under R1.out hb); have R2 := Lib.hid (rd_under R2.out hb); have M1 := Lib.hid (rd_under M1.out hb); have M2 := Lib.hid (rd_under M2.out hb); have AL := Lib.hid (rd_under AL.out hb); have EN := Lib.hid (rd_under EN.out hb); have EW := Lib.hid (rd_under EW.out hb); have KN := Lib.hid (rd_under KN.out hb); have KW := Lib.hid (rd_under KW.out hb); have KI := Lib.hid (rd_under KI.out hb); have II := Lib.hid (rd_under II.out hb); have X3 := Lib.hid (X3.out.trans (hb.mono X3.out.size)); clear a0 a1 b0 b1 c0 c1 d0 d1 X2c0 X2c1 X2c2 X2c3 X2c4 X2c5 X2c6 X18c0 X18c1 X18c2 X18c3 X18c4 X18c5 X18c6 X20c0 X20c1 X20c2 X20c3 X20c4 X20c5 X20c6; have ⟨a0, a1, _, _⟩ := X0.out.cells; have ⟨b0, b1, _, _⟩ := V5.out.cells; have ⟨c0, c1, _, _⟩ := V14.out.cells; have ⟨d0, d1, _, _⟩ := V16.out.cells; have X2c0 := (k.cell_of X2.out (i := 0) rfl).1; have X2c1 := (k.cell_of X2.out (i := 1) rfl).1; have X2c2 := (k.cell_of X2.out (i := 2) rfl).1; have X2c3 := (k.cell_of X2.out (i := 3) rfl).1; have X2c4 := (k.cell_of X2.out (i := 4) rfl).1; have X2c5 := (k.cell_of X2.out (i := 5) rfl).1; have X2c6 := (k.cell_of X2.out (i := 6) rfl).1; have X18c0 := (k.cell_of X18.out (i := 0) rfl).1; have X18c1 := (k.cell_of X18.out (i := 1) rfl).1; have X18c2 := (k.cell_of X18.out (i := 2) rfl).1; have X18c3 := (k.cell_of X18.out (i := 3) rfl).1; have X18c4 := (k.cell_of X18.out (i := 4) rfl).1; have X18c5 := (k.cell_of X18.out (i := 5) rfl).1; have X18c6 := (k.cell_of X18.out (i := 6) rfl).1; have X20c0 := (k.cell_of X20.out (i := 0) rfl).1; have X20c1 := (k.cell_of X20.out (i := 1) rfl).1; have X20c2 := (k.cell_of X20.out (i := 2) rfl).1; have X20c3 := (k.cell_of X20.out (i := 3) rfl).1; have X20c4 := (k.cell_of X20.out (i := 4) rfl).1; have X20c5 := (k.cell_of X20.out (i := 5) rfl).1; have X20c6 := (k.cell_of X20.out (i := 6) rfl).1; clear hb)) | (go_at_call 11; ((with_reducible refine (same_any N W M1.out M2.out R1.out R2.out (Nat.le_refl _)).mono ?_); rintro e v31 ⟨rfl, hb⟩; have X0 := Lib.hid (X0.out.under hb); have V5 := Lib.hid (V5.out.under hb); have V14 := Lib.hid (V14.out.under hb); have V16 := Lib.hid (V16.out.under hb); have X2 := Lib.hid (X2.out.below hb x4); have x4 := Nat.lt_of_lt_of_le x4 hb.size; have X18 := Lib.hid (X18.out.below hb hzX18); have hzX18 := Nat.lt_of_lt_of_le hzX18 hb.size; have X20 := Lib.hid (X20.out.below hb hzX20); have hzX20 := Nat.lt_of_lt_of_le hzX20 hb.size; have R1 := Lib.hid (rd_under R1.out hb); have R2 := Lib.hid (rd_under R2.out hb); have M1 := Lib.hid (rd_under M1.out hb); have M2 := Lib.hid (rd_under M2.out hb); have AL := Lib.hid (rd_under AL.out hb); have EN := Lib.hid (rd_under EN.out hb); have EW := Lib.hid (rd_under EW.out hb); have KN := Lib.hid (rd_under KN.out hb); have KW := Lib.hid (rd_under KW.out hb); have KI := Lib.hid (rd_under KI.out hb); have II := Lib.hid (rd_under II.out hb); have X3 := Lib.hid (X3.out.trans (hb.mono X3.out.size)); clear a0 a1 b0 b1 c0 c1 d0 d1 X2c0 X2c1 X2c2 X2c3 X2c4 X2c5 X2c6 X18c0 X18c1 X18c2 X18c3 X18c4 X18c5 X18c6 X20c0 X20c1 X20c2 X20c3 X20c4 X20c5 X20c6; have ⟨a0, a1, _, _⟩ := X0.out.cells; have ⟨b0, b1, _, _⟩ := V5.out.cells; have ⟨c0, c1, _, _⟩ := V14.out.cells; have ⟨d0, d1, _, _⟩ := V16.out.cells; have X2c0 := (k.cell_of X2.out (i := 0) rfl).1; have X2c1 := (k.cell_of X2.out (i := 1) rfl).1; have X2c2 := (k.cell_of X2.out (i := 2) rfl).1; have X2c3 := (k.cell_of X2.out (i := 3) rfl).1; have X2c4 := (k.cell_of X2.out (i := 4) rfl).1; have X2c5 := (k.cell_of X2.out (i := 5) rfl).1; have X2c6 := (k.cell_of X2.out (i := 6) rfl).1; have X18c0 := (k.cell_of X18.out (i := 0) rfl).1; have X18c1 := (k.cell_of X18.out (i := 1) rfl).1; have X18c2 := (k.cell_of X18.out (i := 2) rfl).1; have X18c3 := (k.cell_of X18.out (i := 3) rfl).1; have X18c4 := (k.cell_of X18.out (i := 4) rfl).1; have X18c5 := (k.cell_of X18.out (i := 5) rfl).1; have X18c6 := (k.cell_of X18.out (i := 6) rfl).1; have X20c0 := (k.cell_of X20.out (i := 0) rfl).1; have X20c1 := (k.cell_of X20.out (i := 1) rfl).1; have X20c2 := (k.cell_of X20.out (i := 2) rfl).1; have X20c3 := (k.cell_of X20.out (i := 3) rfl).1; have X20c4 := (k.cell_of X20.out (i := 4) rfl).1; have X20c5 := (k.cell_of X20.out (i := 5) rfl).1; have X20c6 := (k.cell_of X20.out (i := 6) rfl).1; clear hb)))
          by_cases hd1 : d13 = 1
          · skip
            obtain rfl : p = 0 := by omega
            subst hd1
            clear i0 i2 i3 i4 i5 i6 i7 hp1 hcap hp20
            obtain ⟨b', off', eL, hbL, hcL⟩ := AL.out.2.2.2.2 (by omega)
            injection eL with eL
            injection eL with eb eo _
            subst eb eo
            have q0 : v31.rangeAt b off (cC x) := by simpa using hcL 0 x HF.out.2.1
            have ⟨k0, _⟩ := cells_com q0
            have q2 : v31.rangeAt b off (cC lC) := by simpa using hcL 0 lC HF.out.1
            have ⟨l0, l1, l2, l3, l4, l5, l6⟩ := cells_com q2
            have RW : Hid (RdC v31 v31.heap.size (some ⟨b, off, none⟩) 0 0 ((N ++ W).drop 1)) := Lib.hid ⟨by rw [List.length_drop, HE.out.2], by omega, by unfold maxLen; omega, (fun h => by cases h), fun hpos => absurd hpos (by omega)⟩
            have hVL := V14.out.lt
            clear hcL
            have i8 : IntKind.i64.wrap 0 = 0 := by decide
            refine wp_region_T (by kernel_rfl) (fun w' => Below v31.heap.size v31 w') [] (Below.refl _ _).drew (fun hHeld => ?_)
            refine wpAnyT_take (i := 0) (v := ?_) rfl (by kernel_rfl) (by kernel_rfl) (by kernel_rfl) (fun _ _ _ h => h) (Or.inl ⟨by rfl, ?_⟩) (by assumption) ?_
            rotate_left 1
            · intro w hSw; have s0 := (hSw.cell (p := ⟨v15.heap.size, 0, none⟩) hVL).trans c0; have s1 := (hSw.cell (p := ⟨v15.heap.size, 1, none⟩) hVL).trans c1; clear hSw; go_simp <;> (with_reducible rfl)
            try simp only [Act.put, List.setIfInBounds_toArray, List.set_cons_zero, List.set_cons_succ, List.getElem_toArray, List.getElem_cons_zero]
            refine wpAnyT_take (i := 1) (v := ?_) rfl (by kernel_rfl) (by kernel_rfl) (by kernel_rfl) (fun _ _ _ h => h) (Or.inl ⟨by rfl, ?_⟩) (by assumption) ?_
            rotate_left 1
            · intro w hSw; clear hSw; go_simp <;> (with_reducible rfl)
            try simp only [Act.put, List.setIfInBounds_toArray, List.set_cons_zero, List.set_cons_succ, List.getElem_toArray, List.getElem_cons_succ, List.getElem_cons_zero]
            refine wpAnyT_take (i := 2) (v := ?_) rfl (by kernel_rfl) (by kernel_rfl) (by kernel_rfl) (fun _ _ _ h => h) (Or.inl ⟨by rfl, ?_⟩) (by assumption) ?_
            rotate_left 1
            · intro w hSw; clear hSw; go_simp <;> (with_reducible rfl)
            try simp only [Act.put, List.setIfInBounds_toArray, List.set_cons_zero, List.set_cons_succ, List.getElem_toArray, List.getElem_cons_succ, List.getElem_cons_zero]
            refine wpAnyT_ready (rs := [3]) (by kernel_rfl) (by simp) ?_
            refine AllReadyT.cons rfl (fun K hK => ?_) AllReadyT.nil
            go_simp
            (go_at_call 19; ((refine (of_any ((N ++ W).drop 1) (w := v31.drew) (rd_under RW.out ((Below.refl _ _).drew)) (Nat.le_refl _) (by omega)).mono ?_); rintro e wO ⟨G1, j1, k1, G2, j2, k2, rfl, hr1, hr2, hb0⟩))
            have hb : Below v31.heap.size v31 wO := (Below.refl _ _).drew.trans hb0
            go_wp2_with fail
            have GN := Lib.hid (ow_row hr1)
            have GW := Lib.hid (ow_row hr2)
            have DN := Lib.hid (rd_under EN.out hb)
            have DW := Lib.hid (rd_under EW.out hb)
            obtain rfl : e1 = j1 := DN.out.1.symm.trans GN.out.1
            obtain rfl : e2 = j2 := DW.out.1.symm.trans GW.out.1
            have HbO := Lib.hid hb
            clear hb0 hr1 hr2
            refine hK.out _ _ hb (fun hHeld => ?_)
            clear hK K hb
            try simp only [Act.put, List.setIfInBounds_toArray, List.set_cons_zero, List.set_cons_succ, List.getElem_toArray, List.getElem_cons_succ, List.getElem_cons_zero]
            refine wpAnyT_ready (rs := [4]) (by kernel_rfl) (by simp) ?_
            refine AllReadyT.cons rfl (fun K hK => ?_) AllReadyT.nil
            go_simp
            (go_at_call 11; ((refine (same_any (((N ++ W).drop 1).take 1) (((N ++ W).drop 1).drop 1) DN.out DW.out GN.out GW.out (Nat.le_refl _)).mono ?_); rintro e wS ⟨rfl, hb0⟩))
            have hb : Below v31.heap.size v31 wS := HbO.out.trans (hb0.mono HbO.out.size)
            go_wp2_with fail
            have HbS := Lib.hid hb
            clear hb0
            refine hK.out _ _ hb (fun hHeld => ?_)
            clear hK K hb
            try simp only [Act.put, List.setIfInBounds_toArray, List.set_cons_zero, List.set_cons_succ, List.getElem_toArray, List.getElem_cons_succ, List.getElem_cons_zero]
            refine wpAnyT_take (i := 5) (v := ?_) rfl (by kernel_rfl) (by kernel_rfl) (by kernel_rfl) (fun _ _ _ h => h) (Or.inl ⟨by rfl, ?_⟩) (by assumption) ?_
            rotate_left 1
            · intro w hSw; clear hSw; go_simp <;> (with_reducible rfl)
            try simp only [Act.put, List.setIfInBounds_toArray, List.set_cons_zero, List.set_cons_succ, List.getElem_toArray, List.getElem_cons_succ, List.getElem_cons_zero]
            refine wpAnyT_take (i := 6) (v := ?_) rfl (by kernel_rfl) (by kernel_rfl) (by kernel_rfl) (fun _ _ _ h => h) (Or.inl ⟨by rfl, ?_⟩) (by assumption) ?_
            rotate_left 1
            · intro w hSw; clear hSw; go_simp <;> (with_reducible rfl)
            try simp only [Act.put, List.setIfInBounds_toArray, List.set_cons_zero, List.set_cons_succ, List.getElem_toArray, List.getElem_cons_succ, List.getElem_cons_zero]
            refine wpAnyT_take (i := 7) (v := ?_) rfl (by kernel_rfl) (by kernel_rfl) (by kernel_rfl) (fun _ _ _ h => h) (Or.inl ⟨by rfl, ?_⟩) (by assumption) ?_
            rotate_left 1
            · intro w hSw; clear hSw; go_simp <;> (with_reducible rfl)
            try simp only [Act.put, List.setIfInBounds_toArray, List.set_cons_zero, List.set_cons_succ, List.getElem_toArray, List.getElem_cons_succ, List.getElem_cons_zero]
            refine wpAnyT_take (i := 8) (v := ?_) rfl (by kernel_rfl) (by kernel_rfl) (by kernel_rfl) (fun _ _ _ h => h) (Or.inl ⟨by rfl, ?_⟩) (by assumption) ?_
            rotate_left 1
            · intro w hSw; clear hSw; go_simp <;> (with_reducible rfl)
            try simp only [Act.put, List.setIfInBounds_toArray, List.set_cons_zero, List.set_cons_succ, List.getElem_toArray, List.getElem_cons_succ, List.getElem_cons_zero]
            refine wpAnyT_take (i := 9) (v := ?_) rfl (by kernel_rfl) (by kernel_rfl) (by kernel_rfl) (fun _ _ _ h => h) (Or.inl ⟨by rfl, ?_⟩) (by assumption) ?_
            rotate_left 1
            · intro w hSw; clear hSw; go_simp <;> (with_reducible rfl)
            try simp only [Act.put, List.setIfInBounds_toArray, List.set_cons_zero, List.set_cons_succ, List.getElem_toArray, List.getElem_cons_succ, List.getElem_cons_zero]
            refine wpAnyT_take (i := 10) (v := ?_) rfl (by kernel_rfl) (by kernel_rfl) (by kernel_rfl) (fun _ _ _ h => h) (Or.inl ⟨by rfl, ?_⟩) (by assumption) ?_
            rotate_left 1
            · intro w hSw; have s0 := (hSw.cell (p := ⟨b, off, none⟩) hbL).trans k0; clear hSw; go_simp <;> (with_reducible rfl)
            try simp only [Act.put, List.setIfInBounds_toArray, List.set_cons_zero, List.set_cons_succ, List.getElem_toArray, List.getElem_cons_succ, List.getElem_cons_zero]
            refine wpAnyT_take (i := 11) (v := ?_) rfl (by kernel_rfl) (by kernel_rfl) (by kernel_rfl) (fun _ _ _ h => h) (Or.inl ⟨by rfl, ?_⟩) (by assumption) ?_
            rotate_left 1
            · intro w hSw; clear hSw; go_simp <;> (with_reducible rfl)
            try simp only [Act.put, List.setIfInBounds_toArray, List.set_cons_zero, List.set_cons_succ, List.getElem_toArray, List.getElem_cons_succ, List.getElem_cons_zero]
            refine wpAnyT_take (i := 12) (v := ?_) rfl (by kernel_rfl) (by kernel_rfl) (by kernel_rfl) (fun _ _ _ h => h) (Or.inl ⟨by rfl, ?_⟩) (by assumption) ?_
            rotate_left 1
            · intro w hSw; clear hSw; go_simp <;> (with_reducible rfl)
            try simp only [Act.put, List.setIfInBounds_toArray, List.set_cons_zero, List.set_cons_succ, List.getElem_toArray, List.getElem_cons_succ, List.getElem_cons_zero]
            refine wpAnyT_take (i := 13) (v := ?_) rfl (by kernel_rfl) (by kernel_rfl) (by kernel_rfl) (fun _ _ _ h => h) (Or.inl ⟨by rfl, ?_⟩) (by assumption) ?_
            rotate_left 1
            · intro w hSw; clear hSw; go_simp <;> (with_reducible rfl)
            try simp only [Act.put, List.setIfInBounds_toArray, List.set_cons_zero, List.set_cons_succ, List.getElem_toArray, List.getElem_cons_succ, List.getElem_cons_zero]
            refine wpAnyT_take (i := 14) (v := ?_) rfl (by kernel_rfl) (by kernel_rfl) (by kernel_rfl) (fun _ _ _ h => h) (Or.inl ⟨by rfl, ?_⟩) (by assumption) ?_
            rotate_left 1
            · intro w hSw; have s0 := (hSw.cell (p := ⟨v19.heap.size, 0, none⟩) hzX18).trans X18c0; have s1 := (hSw.cell (p := ⟨v19.heap.size, 1, none⟩) hzX18).trans X18c1; have s2 := (hSw.cell (p := ⟨v19.heap.size, 2, none⟩) hzX18).trans X18c2; have s3 := (hSw.cell (p := ⟨v19.heap.size, 3, none⟩) hzX18).trans X18c3; have s4 := (hSw.cell (p := ⟨v19.heap.size, 4, none⟩) hzX18).trans X18c4; have s5 := (hSw.cell (p := ⟨v19.heap.size, 5, none⟩) hzX18).trans X18c5; have s6 := (hSw.cell (p := ⟨v19.heap.size, 6, none⟩) hzX18).trans X18c6; clear hSw; go_simp <;> (with_reducible rfl)
            try simp only [Act.put, List.setIfInBounds_toArray, List.set_cons_zero, List.set_cons_succ, List.getElem_toArray, List.getElem_cons_succ, List.getElem_cons_zero]
            refine wpAnyT_take (i := 15) (v := ?_) rfl (by kernel_rfl) (by kernel_rfl) (by kernel_rfl) (fun _ _ _ h => h) (Or.inl ⟨by rfl, ?_⟩) (by assumption) ?_
            rotate_left 1
            · intro w hSw; clear hSw; go_simp <;> (with_reducible rfl)
            try simp only [Act.put, List.setIfInBounds_toArray, List.set_cons_zero, List.set_cons_succ, List.getElem_toArray, List.getElem_cons_succ, List.getElem_cons_zero]
            refine wpAnyT_take (i := 16) (v := ?_) rfl (by kernel_rfl) (by kernel_rfl) (by kernel_rfl) (fun _ _ _ h => h) (Or.inl ⟨by rfl, ?_⟩) (by assumption) ?_
            rotate_left 1
            · intro w hSw; clear hSw; go_simp <;> (with_reducible rfl)
            try simp only [Act.put, List.setIfInBounds_toArray, List.set_cons_zero, List.set_cons_succ, List.getElem_toArray, List.getElem_cons_succ, List.getElem_cons_zero]
            refine wpAnyT_take (i := 17) (v := ?_) rfl (by kernel_rfl) (by kernel_rfl) (by kernel_rfl) (fun _ _ _ h => h) (Or.inl ⟨by rfl, ?_⟩) (by assumption) ?_
            rotate_left 1
            · intro w hSw; clear hSw; go_simp <;> (with_reducible rfl)
            try simp only [Act.put, List.setIfInBounds_toArray, List.set_cons_zero, List.set_cons_succ, List.getElem_toArray, List.getElem_cons_succ, List.getElem_cons_zero]
            refine wpAnyT_take (i := 18) (v := ?_) rfl (by kernel_rfl) (by kernel_rfl) (by kernel_rfl) (fun _ _ _ h => h) (Or.inl ⟨by rfl, ?_⟩) (by assumption) ?_
            rotate_left 1
            · intro w hSw; clear hSw; go_simp <;> (with_reducible rfl)
            try simp only [Act.put, List.setIfInBounds_toArray, List.set_cons_zero, List.set_cons_succ, List.getElem_toArray, List.getElem_cons_succ, List.getElem_cons_zero]
            refine wpAnyT_take (i := 19) (v := ?_) rfl (by kernel_rfl) (by kernel_rfl) (by kernel_rfl) (fun _ _ _ h => h) (Or.inl ⟨by rfl, ?_⟩) (by assumption) ?_
            rotate_left 1
            · intro w hSw; clear hSw; go_simp <;> (with_reducible rfl)
            try simp only [Act.put, List.setIfInBounds_toArray, List.set_cons_zero, List.set_cons_succ, List.getElem_toArray, List.getElem_cons_succ, List.getElem_cons_zero]
            refine wpAnyT_take (i := 20) (v := ?_) rfl (by kernel_rfl) (by kernel_rfl) (by kernel_rfl) (fun _ _ _ h => h) (Or.inl ⟨by rfl, ?_⟩) (by assumption) ?_
            rotate_left 1
            · intro w hSw; have s0 := (hSw.cell (p := ⟨b, off, none⟩) hbL).trans l0; have s1 := (hSw.cell (p := ⟨b, off + 1, none⟩) hbL).trans l1; have s2 := (hSw.cell (p := ⟨b, off + 2, none⟩) hbL).trans l2; have s3 := (hSw.cell (p := ⟨b, off + 3, none⟩) hbL).trans l3; have s4 := (hSw.cell (p := ⟨b, off + 4, none⟩) hbL).trans l4; have s5 := (hSw.cell (p := ⟨b, off + 5, none⟩) hbL).trans l5; have s6 := (hSw.cell (p := ⟨b, off + 6, none⟩) hbL).trans l6; clear hSw; go_simp <;> (with_reducible rfl)
            try simp only [Act.put, List.setIfInBounds_toArray, List.set_cons_zero, List.set_cons_succ, List.getElem_toArray, List.getElem_cons_succ, List.getElem_cons_zero]
            refine wpAnyT_take (i := 21) (v := ?_) rfl (by kernel_rfl) (by kernel_rfl) (by kernel_rfl) (fun _ _ _ h => h) (Or.inl ⟨by rfl, ?_⟩) (by assumption) ?_
            rotate_left 1
            · intro w hSw; clear hSw; go_simp <;> (with_reducible rfl)
            try simp only [Act.put, List.setIfInBounds_toArray, List.set_cons_zero, List.set_cons_succ, List.getElem_toArray, List.getElem_cons_succ, List.getElem_cons_zero]
            refine wpAnyT_take (i := 22) (v := ?_) rfl (by kernel_rfl) (by kernel_rfl) (by kernel_rfl) (fun _ _ _ h => h) (Or.inl ⟨by rfl, ?_⟩) (by assumption) ?_
            rotate_left 1
            · intro w hSw; clear hSw; go_simp <;> (with_reducible rfl)
            try simp only [Act.put, List.setIfInBounds_toArray, List.set_cons_zero, List.set_cons_succ, List.getElem_toArray, List.getElem_cons_succ, List.getElem_cons_zero]
            refine wpAnyT_take (i := 23) (v := ?_) rfl (by kernel_rfl) (by kernel_rfl) (by kernel_rfl) (fun _ _ _ h => h) (Or.inl ⟨by rfl, ?_⟩) (by assumption) ?_
            rotate_left 1
            · intro w hSw; clear hSw; go_simp <;> (with_reducible rfl)
            try simp only [Act.put, List.setIfInBounds_toArray, List.set_cons_zero, List.set_cons_succ, List.getElem_toArray, List.getElem_cons_succ, List.getElem_cons_zero]
            refine wpAnyT_take (i := 24) (v := ?_) rfl (by kernel_rfl) (by kernel_rfl) (by kernel_rfl) (fun _ _ _ h => h) (Or.inl ⟨by rfl, ?_⟩) (by assumption) ?_
            rotate_left 1
            · intro w hSw; clear hSw; go_simp <;> (with_reducible rfl)
            try simp only [Act.put, List.setIfInBounds_toArray, List.set_cons_zero, List.set_cons_succ, List.getElem_toArray, List.getElem_cons_succ, List.getElem_cons_zero]
            refine wpAnyT_take (i := 25) (v := ?_) rfl (by kernel_rfl) (by kernel_rfl) (by kernel_rfl) (fun _ _ _ h => h) (Or.inl ⟨by rfl, ?_⟩) (by assumption) ?_
            rotate_left 1
            · intro w hSw; clear hSw; go_simp <;> (with_reducible rfl)
            try simp only [Act.put, List.setIfInBounds_toArray, List.set_cons_zero, List.set_cons_succ, List.getElem_toArray, List.getElem_cons_succ, List.getElem_cons_zero]
            refine wpAnyT_take (i := 26) (v := ?_) rfl (by kernel_rfl) (by kernel_rfl) (by kernel_rfl) (fun _ _ _ h => h) (Or.inl ⟨by rfl, ?_⟩) (by assumption) ?_
            rotate_left 1
            · intro w hSw; clear hSw; go_simp <;> (with_reducible rfl)
            try simp only [Act.put, List.setIfInBounds_toArray, List.set_cons_zero, List.set_cons_succ, List.getElem_toArray, List.getElem_cons_succ, List.getElem_cons_zero]
            refine wpAnyT_take (i := 27) (v := undef) rfl (by kernel_rfl) (by kernel_rfl) (by kernel_rfl) (fun _ _ _ h => h) (Or.inr ⟨by rfl, rfl⟩) (by assumption) ?_
            try simp only [Act.put, List.setIfInBounds_toArray, List.set_cons_zero, List.set_cons_succ, List.getElem_toArray, List.getElem_cons_succ, List.getElem_cons_zero]
            refine wpAnyT_take (i := 28) (v := undef) rfl (by kernel_rfl) (by kernel_rfl) (by kernel_rfl) (fun _ _ _ h => h) (Or.inr ⟨by rfl, rfl⟩) (by assumption) ?_
            try simp only [Act.put, List.setIfInBounds_toArray, List.set_cons_zero, List.set_cons_succ, List.getElem_toArray, List.getElem_cons_succ, List.getElem_cons_zero]
            refine wpAnyT_take (i := 29) (v := undef) rfl (by kernel_rfl) (by kernel_rfl) (by kernel_rfl) (fun _ _ _ h => h) (Or.inr ⟨by rfl, rfl⟩) (by assumption) ?_
            try simp only [Act.put, List.setIfInBounds_toArray, List.set_cons_zero, List.set_cons_succ, List.getElem_toArray, List.getElem_cons_succ, List.getElem_cons_zero]
            refine wpAnyT_take (i := 30) (v := undef) rfl (by kernel_rfl) (by kernel_rfl) (by kernel_rfl) (fun _ _ _ h => h) (Or.inr ⟨by rfl, rfl⟩) (by assumption) ?_
            try simp only [Act.put, List.setIfInBounds_toArray, List.set_cons_zero, List.set_cons_succ, List.getElem_toArray, List.getElem_cons_succ, List.getElem_cons_zero]
            refine wpAnyT_take (i := 31) (v := undef) rfl (by kernel_rfl) (by kernel_rfl) (by kernel_rfl) (fun _ _ _ h => h) (Or.inr ⟨by rfl, rfl⟩) (by assumption) ?_
            try simp only [Act.put, List.setIfInBounds_toArray, List.set_cons_zero, List.set_cons_succ, List.getElem_toArray, List.getElem_cons_succ, List.getElem_cons_zero]
            refine wpAnyT_take (i := 32) (v := ?_) rfl (by kernel_rfl) (by kernel_rfl) (by kernel_rfl) (fun _ _ _ h => h) (Or.inl ⟨by rfl, ?_⟩) (by assumption) ?_
            rotate_left 1
            · intro w hSw; clear hSw; go_simp <;> (with_reducible rfl)
            try simp only [Act.put, List.setIfInBounds_toArray, List.set_cons_zero, List.set_cons_succ, List.getElem_toArray, List.getElem_cons_succ, List.getElem_cons_zero]
            refine wpAnyT_take (i := 33) (v := ?_) rfl (by kernel_rfl) (by kernel_rfl) (by kernel_rfl) (fun _ _ _ h => h) (Or.inl ⟨by rfl, ?_⟩) (by assumption) ?_
            rotate_left 1
            · intro w hSw; clear hSw; go_simp <;> (with_reducible rfl)
            try simp only [Act.put, List.setIfInBounds_toArray, List.set_cons_zero, List.set_cons_succ, List.getElem_toArray, List.getElem_cons_succ, List.getElem_cons_zero]
            refine wpAnyT_take (i := 34) (v := ?_) rfl (by kernel_rfl) (by kernel_rfl) (by kernel_rfl) (fun _ _ _ h => h) (Or.inl ⟨by rfl, ?_⟩) (by assumption) ?_
            rotate_left 1
            · intro w hSw; clear hSw; go_simp <;> (with_reducible rfl)
            try simp only [Act.put, List.setIfInBounds_toArray, List.set_cons_zero, List.set_cons_succ, List.getElem_toArray, List.getElem_cons_succ, List.getElem_cons_zero]
            refine wpAnyT_done (by kernel_rfl) ?_ _
            go_wp2
            go_ret
            exact ⟨rfl, X3.out.trans (HbS.out.mono X3.out.size)⟩
          · skip
            obtain ⟨b', off', eL, hbL, hcL⟩ := AL.out.2.2.2.2 (by omega)
            injection eL with eL
            injection eL with eb eo _
            subst eb eo
            have q0 : v31.rangeAt b off (cC x) := by simpa using hcL 0 x HF.out.2.1
            have ⟨k0, _⟩ := cells_com q0
            have ⟨l0, l1, l2, l3, l4, l5, l6⟩ := cells_com (hcL p lC HF.out.1)
            have RW : Hid (RdC v31 v31.heap.size (some ⟨b, off + 7, none⟩) p (d13 - 1) ((N ++ W).drop 1)) := Lib.hid ⟨by rw [List.length_drop, HE.out.2]; omega, by omega, by have := AL.out.2.2.1; omega, (fun h => by cases h), fun hpos => ⟨b, _, rfl, hbL, fun i y hy => by
              have h := hcL (i + 1) y (by rw [← hy, List.getElem?_drop, Nat.add_comm 1 i])
              rw [show off + (i + 1) * 7 = off + 7 + i * 7 by omega] at h
              exact h⟩⟩
            have hVL := V14.out.lt
            clear hcL
            have i8 : IntKind.i64.wrap (p : Int) = (p : Int) := IntWalk.i64_in _ (by omega)
            refine wp_region_T (by kernel_rfl) (fun w' => Below v31.heap.size v31 w') [] (Below.refl _ _).drew (fun hHeld => ?_)
            refine wpAnyT_take (i := 0) (v := ?_) rfl (by kernel_rfl) (by kernel_rfl) (by kernel_rfl) (fun _ _ _ h => h) (Or.inl ⟨by rfl, ?_⟩) (by assumption) ?_
            rotate_left 1
            · intro w hSw; have s0 := (hSw.cell (p := ⟨v15.heap.size, 0, none⟩) hVL).trans c0; have s1 := (hSw.cell (p := ⟨v15.heap.size, 1, none⟩) hVL).trans c1; clear hSw; go_simp <;> (with_reducible rfl)
            try simp only [Act.put, List.setIfInBounds_toArray, List.set_cons_zero, List.set_cons_succ, List.getElem_toArray, List.getElem_cons_zero]
            refine wpAnyT_take (i := 1) (v := ?_) rfl (by kernel_rfl) (by kernel_rfl) (by kernel_rfl) (fun _ _ _ h => h) (Or.inl ⟨by rfl, ?_⟩) (by assumption) ?_
            rotate_left 1
            · intro w hSw; clear hSw; go_simp <;> (with_reducible rfl)
            try simp only [Act.put, List.setIfInBounds_toArray, List.set_cons_zero, List.set_cons_succ, List.getElem_toArray, List.getElem_cons_succ, List.getElem_cons_zero]
            refine wpAnyT_take (i := 2) (v := ?_) rfl (by kernel_rfl) (by kernel_rfl) (by kernel_rfl) (fun _ _ _ h => h) (Or.inl ⟨by rfl, ?_⟩) (by assumption) ?_
            rotate_left 1
            · intro w hSw; clear hSw; go_simp <;> (with_reducible rfl)
            try simp only [Act.put, List.setIfInBounds_toArray, List.set_cons_zero, List.set_cons_succ, List.getElem_toArray, List.getElem_cons_succ, List.getElem_cons_zero]
            refine wpAnyT_ready (rs := [3]) (by kernel_rfl) (by simp) ?_
            refine AllReadyT.cons rfl (fun K hK => ?_) AllReadyT.nil
            go_simp
            (go_at_call 19; ((refine (of_any ((N ++ W).drop 1) (w := v31.drew) (rd_under RW.out ((Below.refl _ _).drew)) (Nat.le_refl _) (by omega)).mono ?_); rintro e wO ⟨G1, j1, k1, G2, j2, k2, rfl, hr1, hr2, hb0⟩))
            have hb : Below v31.heap.size v31 wO := (Below.refl _ _).drew.trans hb0
            go_wp2_with fail
            have GN := Lib.hid (ow_row hr1)
            have GW := Lib.hid (ow_row hr2)
            have DN := Lib.hid (rd_under EN.out hb)
            have DW := Lib.hid (rd_under EW.out hb)
            obtain rfl : e1 = j1 := DN.out.1.symm.trans GN.out.1
            obtain rfl : e2 = j2 := DW.out.1.symm.trans GW.out.1
            have HbO := Lib.hid hb
            clear hb0 hr1 hr2
            refine hK.out _ _ hb (fun hHeld => ?_)
            clear hK K hb
            try simp only [Act.put, List.setIfInBounds_toArray, List.set_cons_zero, List.set_cons_succ, List.getElem_toArray, List.getElem_cons_succ, List.getElem_cons_zero]
            refine wpAnyT_ready (rs := [4]) (by kernel_rfl) (by simp) ?_
            refine AllReadyT.cons rfl (fun K hK => ?_) AllReadyT.nil
            go_simp
            (go_at_call 11; ((refine (same_any (((N ++ W).drop 1).take 1) (((N ++ W).drop 1).drop 1) DN.out DW.out GN.out GW.out (Nat.le_refl _)).mono ?_); rintro e wS ⟨rfl, hb0⟩))
            have hb : Below v31.heap.size v31 wS := HbO.out.trans (hb0.mono HbO.out.size)
            go_wp2_with fail
            have HbS := Lib.hid hb
            clear hb0
            refine hK.out _ _ hb (fun hHeld => ?_)
            clear hK K hb
            try simp only [Act.put, List.setIfInBounds_toArray, List.set_cons_zero, List.set_cons_succ, List.getElem_toArray, List.getElem_cons_succ, List.getElem_cons_zero]
            refine wpAnyT_take (i := 5) (v := ?_) rfl (by kernel_rfl) (by kernel_rfl) (by kernel_rfl) (fun _ _ _ h => h) (Or.inl ⟨by rfl, ?_⟩) (by assumption) ?_
            rotate_left 1
            · intro w hSw; clear hSw; go_simp <;> (with_reducible rfl)
            try simp only [Act.put, List.setIfInBounds_toArray, List.set_cons_zero, List.set_cons_succ, List.getElem_toArray, List.getElem_cons_succ, List.getElem_cons_zero]
            refine wpAnyT_take (i := 6) (v := ?_) rfl (by kernel_rfl) (by kernel_rfl) (by kernel_rfl) (fun _ _ _ h => h) (Or.inl ⟨by rfl, ?_⟩) (by assumption) ?_
            rotate_left 1
            · intro w hSw; clear hSw; go_simp <;> (with_reducible rfl)
            try simp only [Act.put, List.setIfInBounds_toArray, List.set_cons_zero, List.set_cons_succ, List.getElem_toArray, List.getElem_cons_succ, List.getElem_cons_zero]
            refine wpAnyT_take (i := 7) (v := ?_) rfl (by kernel_rfl) (by kernel_rfl) (by kernel_rfl) (fun _ _ _ h => h) (Or.inl ⟨by rfl, ?_⟩) (by assumption) ?_
            rotate_left 1
            · intro w hSw; clear hSw; go_simp <;> (with_reducible rfl)
            try simp only [Act.put, List.setIfInBounds_toArray, List.set_cons_zero, List.set_cons_succ, List.getElem_toArray, List.getElem_cons_succ, List.getElem_cons_zero]
            refine wpAnyT_take (i := 8) (v := ?_) rfl (by kernel_rfl) (by kernel_rfl) (by kernel_rfl) (fun _ _ _ h => h) (Or.inl ⟨by rfl, ?_⟩) (by assumption) ?_
            rotate_left 1
            · intro w hSw; clear hSw; go_simp <;> (with_reducible rfl)
            try simp only [Act.put, List.setIfInBounds_toArray, List.set_cons_zero, List.set_cons_succ, List.getElem_toArray, List.getElem_cons_succ, List.getElem_cons_zero]
            refine wpAnyT_take (i := 9) (v := ?_) rfl (by kernel_rfl) (by kernel_rfl) (by kernel_rfl) (fun _ _ _ h => h) (Or.inl ⟨by rfl, ?_⟩) (by assumption) ?_
            rotate_left 1
            · intro w hSw; clear hSw; go_simp <;> (with_reducible rfl)
            try simp only [Act.put, List.setIfInBounds_toArray, List.set_cons_zero, List.set_cons_succ, List.getElem_toArray, List.getElem_cons_succ, List.getElem_cons_zero]
            refine wpAnyT_take (i := 10) (v := ?_) rfl (by kernel_rfl) (by kernel_rfl) (by kernel_rfl) (fun _ _ _ h => h) (Or.inl ⟨by rfl, ?_⟩) (by assumption) ?_
            rotate_left 1
            · intro w hSw; have s0 := (hSw.cell (p := ⟨b, off, none⟩) hbL).trans k0; clear hSw; go_simp <;> (with_reducible rfl)
            try simp only [Act.put, List.setIfInBounds_toArray, List.set_cons_zero, List.set_cons_succ, List.getElem_toArray, List.getElem_cons_succ, List.getElem_cons_zero]
            refine wpAnyT_take (i := 11) (v := ?_) rfl (by kernel_rfl) (by kernel_rfl) (by kernel_rfl) (fun _ _ _ h => h) (Or.inl ⟨by rfl, ?_⟩) (by assumption) ?_
            rotate_left 1
            · intro w hSw; clear hSw; go_simp <;> (with_reducible rfl)
            try simp only [Act.put, List.setIfInBounds_toArray, List.set_cons_zero, List.set_cons_succ, List.getElem_toArray, List.getElem_cons_succ, List.getElem_cons_zero]
            refine wpAnyT_take (i := 12) (v := ?_) rfl (by kernel_rfl) (by kernel_rfl) (by kernel_rfl) (fun _ _ _ h => h) (Or.inl ⟨by rfl, ?_⟩) (by assumption) ?_
            rotate_left 1
            · intro w hSw; clear hSw; go_simp <;> (with_reducible rfl)
            try simp only [Act.put, List.setIfInBounds_toArray, List.set_cons_zero, List.set_cons_succ, List.getElem_toArray, List.getElem_cons_succ, List.getElem_cons_zero]
            refine wpAnyT_take (i := 13) (v := ?_) rfl (by kernel_rfl) (by kernel_rfl) (by kernel_rfl) (fun _ _ _ h => h) (Or.inl ⟨by rfl, ?_⟩) (by assumption) ?_
            rotate_left 1
            · intro w hSw; clear hSw; go_simp <;> (with_reducible rfl)
            try simp only [Act.put, List.setIfInBounds_toArray, List.set_cons_zero, List.set_cons_succ, List.getElem_toArray, List.getElem_cons_succ, List.getElem_cons_zero]
            refine wpAnyT_take (i := 14) (v := ?_) rfl (by kernel_rfl) (by kernel_rfl) (by kernel_rfl) (fun _ _ _ h => h) (Or.inl ⟨by rfl, ?_⟩) (by assumption) ?_
            rotate_left 1
            · intro w hSw; have s0 := (hSw.cell (p := ⟨v19.heap.size, 0, none⟩) hzX18).trans X18c0; have s1 := (hSw.cell (p := ⟨v19.heap.size, 1, none⟩) hzX18).trans X18c1; have s2 := (hSw.cell (p := ⟨v19.heap.size, 2, none⟩) hzX18).trans X18c2; have s3 := (hSw.cell (p := ⟨v19.heap.size, 3, none⟩) hzX18).trans X18c3; have s4 := (hSw.cell (p := ⟨v19.heap.size, 4, none⟩) hzX18).trans X18c4; have s5 := (hSw.cell (p := ⟨v19.heap.size, 5, none⟩) hzX18).trans X18c5; have s6 := (hSw.cell (p := ⟨v19.heap.size, 6, none⟩) hzX18).trans X18c6; clear hSw; go_simp <;> (with_reducible rfl)
            try simp only [Act.put, List.setIfInBounds_toArray, List.set_cons_zero, List.set_cons_succ, List.getElem_toArray, List.getElem_cons_succ, List.getElem_cons_zero]
            refine wpAnyT_take (i := 15) (v := ?_) rfl (by kernel_rfl) (by kernel_rfl) (by kernel_rfl) (fun _ _ _ h => h) (Or.inl ⟨by rfl, ?_⟩) (by assumption) ?_
            rotate_left 1
            · intro w hSw; clear hSw; go_simp <;> (with_reducible rfl)
            try simp only [Act.put, List.setIfInBounds_toArray, List.set_cons_zero, List.set_cons_succ, List.getElem_toArray, List.getElem_cons_succ, List.getElem_cons_zero]
            refine wpAnyT_take (i := 16) (v := ?_) rfl (by kernel_rfl) (by kernel_rfl) (by kernel_rfl) (fun _ _ _ h => h) (Or.inl ⟨by rfl, ?_⟩) (by assumption) ?_
            rotate_left 1
            · intro w hSw; clear hSw; go_simp <;> (with_reducible rfl)
            try simp only [Act.put, List.setIfInBounds_toArray, List.set_cons_zero, List.set_cons_succ, List.getElem_toArray, List.getElem_cons_succ, List.getElem_cons_zero]
            refine wpAnyT_take (i := 17) (v := ?_) rfl (by kernel_rfl) (by kernel_rfl) (by kernel_rfl) (fun _ _ _ h => h) (Or.inl ⟨by rfl, ?_⟩) (by assumption) ?_
            rotate_left 1
            · intro w hSw; clear hSw; go_simp <;> (with_reducible rfl)
            try simp only [Act.put, List.setIfInBounds_toArray, List.set_cons_zero, List.set_cons_succ, List.getElem_toArray, List.getElem_cons_succ, List.getElem_cons_zero]
            refine wpAnyT_take (i := 18) (v := ?_) rfl (by kernel_rfl) (by kernel_rfl) (by kernel_rfl) (fun _ _ _ h => h) (Or.inl ⟨by rfl, ?_⟩) (by assumption) ?_
            rotate_left 1
            · intro w hSw; clear hSw; go_simp <;> (with_reducible rfl)
            try simp only [Act.put, List.setIfInBounds_toArray, List.set_cons_zero, List.set_cons_succ, List.getElem_toArray, List.getElem_cons_succ, List.getElem_cons_zero]
            refine wpAnyT_take (i := 19) (v := ?_) rfl (by kernel_rfl) (by kernel_rfl) (by kernel_rfl) (fun _ _ _ h => h) (Or.inl ⟨by rfl, ?_⟩) (by assumption) ?_
            rotate_left 1
            · intro w hSw; clear hSw; go_simp <;> (with_reducible rfl)
            try simp only [Act.put, List.setIfInBounds_toArray, List.set_cons_zero, List.set_cons_succ, List.getElem_toArray, List.getElem_cons_succ, List.getElem_cons_zero]
            refine wpAnyT_take (i := 20) (v := ?_) rfl (by kernel_rfl) (by kernel_rfl) (by kernel_rfl) (fun _ _ _ h => h) (Or.inl ⟨by rfl, ?_⟩) (by assumption) ?_
            rotate_left 1
            · intro w hSw; have s0 := (hSw.cell (p := ⟨b, off + p * 7, none⟩) hbL).trans l0; have s1 := (hSw.cell (p := ⟨b, off + p * 7 + 1, none⟩) hbL).trans l1; have s2 := (hSw.cell (p := ⟨b, off + p * 7 + 2, none⟩) hbL).trans l2; have s3 := (hSw.cell (p := ⟨b, off + p * 7 + 3, none⟩) hbL).trans l3; have s4 := (hSw.cell (p := ⟨b, off + p * 7 + 4, none⟩) hbL).trans l4; have s5 := (hSw.cell (p := ⟨b, off + p * 7 + 5, none⟩) hbL).trans l5; have s6 := (hSw.cell (p := ⟨b, off + p * 7 + 6, none⟩) hbL).trans l6; clear hSw; go_simp <;> (with_reducible rfl)
            try simp only [Act.put, List.setIfInBounds_toArray, List.set_cons_zero, List.set_cons_succ, List.getElem_toArray, List.getElem_cons_succ, List.getElem_cons_zero]
            refine wpAnyT_take (i := 21) (v := ?_) rfl (by kernel_rfl) (by kernel_rfl) (by kernel_rfl) (fun _ _ _ h => h) (Or.inl ⟨by rfl, ?_⟩) (by assumption) ?_
            rotate_left 1
            · intro w hSw; clear hSw; go_simp <;> (with_reducible rfl)
            try simp only [Act.put, List.setIfInBounds_toArray, List.set_cons_zero, List.set_cons_succ, List.getElem_toArray, List.getElem_cons_succ, List.getElem_cons_zero]
            refine wpAnyT_take (i := 22) (v := ?_) rfl (by kernel_rfl) (by kernel_rfl) (by kernel_rfl) (fun _ _ _ h => h) (Or.inl ⟨by rfl, ?_⟩) (by assumption) ?_
            rotate_left 1
            · intro w hSw; clear hSw; go_simp <;> (with_reducible rfl)
            try simp only [Act.put, List.setIfInBounds_toArray, List.set_cons_zero, List.set_cons_succ, List.getElem_toArray, List.getElem_cons_succ, List.getElem_cons_zero]
            refine wpAnyT_take (i := 23) (v := ?_) rfl (by kernel_rfl) (by kernel_rfl) (by kernel_rfl) (fun _ _ _ h => h) (Or.inl ⟨by rfl, ?_⟩) (by assumption) ?_
            rotate_left 1
            · intro w hSw; clear hSw; go_simp <;> (with_reducible rfl)
            try simp only [Act.put, List.setIfInBounds_toArray, List.set_cons_zero, List.set_cons_succ, List.getElem_toArray, List.getElem_cons_succ, List.getElem_cons_zero]
            refine wpAnyT_take (i := 24) (v := ?_) rfl (by kernel_rfl) (by kernel_rfl) (by kernel_rfl) (fun _ _ _ h => h) (Or.inl ⟨by rfl, ?_⟩) (by assumption) ?_
            rotate_left 1
            · intro w hSw; clear hSw; go_simp <;> (with_reducible rfl)
            try simp only [Act.put, List.setIfInBounds_toArray, List.set_cons_zero, List.set_cons_succ, List.getElem_toArray, List.getElem_cons_succ, List.getElem_cons_zero]
            refine wpAnyT_take (i := 25) (v := ?_) rfl (by kernel_rfl) (by kernel_rfl) (by kernel_rfl) (fun _ _ _ h => h) (Or.inl ⟨by rfl, ?_⟩) (by assumption) ?_
            rotate_left 1
            · intro w hSw; clear hSw; go_simp <;> (with_reducible rfl)
            try simp only [Act.put, List.setIfInBounds_toArray, List.set_cons_zero, List.set_cons_succ, List.getElem_toArray, List.getElem_cons_succ, List.getElem_cons_zero]
            refine wpAnyT_take (i := 26) (v := ?_) rfl (by kernel_rfl) (by kernel_rfl) (by kernel_rfl) (fun _ _ _ h => h) (Or.inl ⟨by rfl, ?_⟩) (by assumption) ?_
            rotate_left 1
            · intro w hSw; clear hSw; go_simp <;> (with_reducible rfl)
            try simp only [Act.put, List.setIfInBounds_toArray, List.set_cons_zero, List.set_cons_succ, List.getElem_toArray, List.getElem_cons_succ, List.getElem_cons_zero]
            refine wpAnyT_take (i := 27) (v := undef) rfl (by kernel_rfl) (by kernel_rfl) (by kernel_rfl) (fun _ _ _ h => h) (Or.inr ⟨by rfl, rfl⟩) (by assumption) ?_
            try simp only [Act.put, List.setIfInBounds_toArray, List.set_cons_zero, List.set_cons_succ, List.getElem_toArray, List.getElem_cons_succ, List.getElem_cons_zero]
            refine wpAnyT_take (i := 28) (v := undef) rfl (by kernel_rfl) (by kernel_rfl) (by kernel_rfl) (fun _ _ _ h => h) (Or.inr ⟨by rfl, rfl⟩) (by assumption) ?_
            try simp only [Act.put, List.setIfInBounds_toArray, List.set_cons_zero, List.set_cons_succ, List.getElem_toArray, List.getElem_cons_succ, List.getElem_cons_zero]
            refine wpAnyT_take (i := 29) (v := undef) rfl (by kernel_rfl) (by kernel_rfl) (by kernel_rfl) (fun _ _ _ h => h) (Or.inr ⟨by rfl, rfl⟩) (by assumption) ?_
            try simp only [Act.put, List.setIfInBounds_toArray, List.set_cons_zero, List.set_cons_succ, List.getElem_toArray, List.getElem_cons_succ, List.getElem_cons_zero]
            refine wpAnyT_take (i := 30) (v := undef) rfl (by kernel_rfl) (by kernel_rfl) (by kernel_rfl) (fun _ _ _ h => h) (Or.inr ⟨by rfl, rfl⟩) (by assumption) ?_
            try simp only [Act.put, List.setIfInBounds_toArray, List.set_cons_zero, List.set_cons_succ, List.getElem_toArray, List.getElem_cons_succ, List.getElem_cons_zero]
            refine wpAnyT_take (i := 31) (v := undef) rfl (by kernel_rfl) (by kernel_rfl) (by kernel_rfl) (fun _ _ _ h => h) (Or.inr ⟨by rfl, rfl⟩) (by assumption) ?_
            try simp only [Act.put, List.setIfInBounds_toArray, List.set_cons_zero, List.set_cons_succ, List.getElem_toArray, List.getElem_cons_succ, List.getElem_cons_zero]
            refine wpAnyT_take (i := 32) (v := ?_) rfl (by kernel_rfl) (by kernel_rfl) (by kernel_rfl) (fun _ _ _ h => h) (Or.inl ⟨by rfl, ?_⟩) (by assumption) ?_
            rotate_left 1
            · intro w hSw; clear hSw; go_simp <;> (with_reducible rfl)
            try simp only [Act.put, List.setIfInBounds_toArray, List.set_cons_zero, List.set_cons_succ, List.getElem_toArray, List.getElem_cons_succ, List.getElem_cons_zero]
            refine wpAnyT_take (i := 33) (v := ?_) rfl (by kernel_rfl) (by kernel_rfl) (by kernel_rfl) (fun _ _ _ h => h) (Or.inl ⟨by rfl, ?_⟩) (by assumption) ?_
            rotate_left 1
            · intro w hSw; clear hSw; go_simp <;> (with_reducible rfl)
            try simp only [Act.put, List.setIfInBounds_toArray, List.set_cons_zero, List.set_cons_succ, List.getElem_toArray, List.getElem_cons_succ, List.getElem_cons_zero]
            refine wpAnyT_take (i := 34) (v := ?_) rfl (by kernel_rfl) (by kernel_rfl) (by kernel_rfl) (fun _ _ _ h => h) (Or.inl ⟨by rfl, ?_⟩) (by assumption) ?_
            rotate_left 1
            · intro w hSw; clear hSw; go_simp <;> (with_reducible rfl)
            try simp only [Act.put, List.setIfInBounds_toArray, List.set_cons_zero, List.set_cons_succ, List.getElem_toArray, List.getElem_cons_succ, List.getElem_cons_zero]
            refine wpAnyT_done (by kernel_rfl) ?_ _
            go_wp2
            go_ret
            exact ⟨rfl, X3.out.trans (HbS.out.mono X3.out.size)⟩
    · obtain rfl : rb = false := HQ.out.1.symm.trans (right_no hr)
      obtain rfl : eN = [] := by rw [← HQ.out.2.1]; unfold endN; rw [if_neg hr]
      obtain rfl : eW = [] := by rw [← HQ.out.2.2.1]; unfold endW; rw [if_neg hr]
      obtain rfl : eI = 0 := by rw [← HQ.out.2.2.2.1]; unfold endI; rw [if_neg hr]
      obtain rfl : kI = [] := by rw [← HQ.out.2.2.2.2.1]; unfold clearI; rw [if_neg hr]
      have hlC : lC = zeroC := by rw [← HQ.out.2.2.2.2.2.1]; unfold lastC; rw [if_neg hr]
      obtain rfl : lB = false := by rw [← HQ.out.2.2.2.2.2.2.1]; exact decide_eq_false fun h => hr h.1
      have hnC : nC = zeroC := by rw [← HQ.out.2.2.2.2.2.2.2.1]; unfold nextC; rw [if_neg hr]
      obtain rfl : nB = false := by rw [← HQ.out.2.2.2.2.2.2.2.2]; exact decide_eq_false fun h => hr h.1
      have qlCid : lC.id = 0 := by rw [hlC]; rfl
      have qlCkind : lC.kind = 0 := by rw [hlC]; rfl
      have qlCtgt : lC.tgt = 0 := by rw [hlC]; rfl
      have qlCspd : lC.spd = 0 := by rw [hlC]; rfl
      have qlCmode : lC.mode = 0 := by rw [hlC]; rfl
      have qlCnum : lC.num = 0 := by rw [hlC]; rfl
      have qlCden : lC.den = 0 := by rw [hlC]; rfl
      have qnCid : nC.id = 0 := by rw [hnC]; rfl
      have qnCkind : nC.kind = 0 := by rw [hnC]; rfl
      have qnCtgt : nC.tgt = 0 := by rw [hnC]; rfl
      have qnCspd : nC.spd = 0 := by rw [hnC]; rfl
      have qnCmode : nC.mode = 0 := by rw [hnC]; rfl
      have qnCnum : nC.num = 0 := by rw [hnC]; rfl
      have qnCden : nC.den = 0 := by rw [hnC]; rfl
      obtain rfl : 0 = e1 := EN.out.1
      obtain rfl : 0 = e2 := EW.out.1
      obtain rfl : 0 = h1 := KN.out.1
      obtain rfl : 0 = h2 := KW.out.1
      obtain rfl : 0 = h3 := KI.out.1
      clear hlC hnC hr
      go_wp2_with (first | (go_at_call 11; ((with_reducible refine (same_any [] [] EN.out EW.out (Rd.none_ cC 7 _ _) (Rd.none_ cC 7 _ _) (Nat.le_refl _)).mono ?_); rintro e v32 ⟨rfl, hb⟩; have X0 := Lib.hid (X0.out.under hb); have V5 := Lib.hid (V5.out.under hb); have V14 := Lib.hid (V14.out.under hb); have V16 := Lib.hid (V16.out.under hb); have X2 := Lib.hid (X2.out.below hb x4); have x4 := Nat.lt_of_lt_of_le x4 hb.size; have X18 := Lib.hid (X18.out.below hb hzX18); have hzX18 := Nat.lt_of_lt_of_le hzX18 hb.size; have X20 := Lib.hid (X20.out.below hb hzX20); have hzX20 := Nat.lt_of_lt_of_le hzX20 hb.size; have R1 := Lib.hid (rd_under R1.out hb); have R2 := Lib.hid (rd_under R2.out hb); have M1 := Lib.hid (rd_under M1.out hb); have M2 := Lib.hid (rd_under M2.out hb); have AL := Lib.hid (rd_under AL.out hb); have EN := Lib.hid (rd_under EN.out hb); have EW := Lib.hid (rd_under EW.out hb); have KN := Lib.hid (rd_under KN.out hb); have KW := Lib.hid (rd_under KW.out hb); have KI := Lib.hid (rd_under KI.out hb); have X3 := Lib.hid (X3.out.trans (hb.mono X3.out.size)); clear a0 a1 b0 b1 c0 c1 d0 d1 X2c0 X2c1 X2c2 X2c3 X2c4 X2c5 X2c6 X18c0 X18c1 X18c2 X18c3 X18c4 X18c5 X18c6 X20c0 X20c1 X20c2 X20c3 X20c4 X20c5 X20c6; have ⟨a0, a1, _, _⟩ := X0.out.cells; have ⟨b0, b1, _, _⟩ := V5.out.cells; have ⟨c0, c1, _, _⟩ := V14.out.cells; have ⟨d0, d1, _, _⟩ := V16.out.cells; have X2c0 := (k.cell_of X2.out (i := 0) rfl).1; have X2c1 := (k.cell_of X2.out (i := 1) rfl).1; have X2c2 := (k.cell_of X2.out (i := 2) rfl).1; have X2c3 := (k.cell_of X2.out (i := 3) rfl).1; have X2c4 := (k.cell_of X2.out (i := 4) rfl).1; have X2c5 := (k.cell_of X2.out (i := 5) rfl).1; have X2c6 := (k.cell_of X2.out (i := 6) rfl).1; have X18c0 := (k.cell_of X18.out (i := 0) rfl).1; have X18c1 := (k.cell_of X18.out (i := 1) rfl).1; have X18c2 := (k.cell_of X18.out (i := 2) rfl).1; have X18c3 := (k.cell_of X18.out (i := 3) rfl).1; have X18c4 := (k.cell_of X18.out (i := 4) rfl).1; have X18c5 := (k.cell_of X18.out (i := 5) rfl).1; have X18c6 := (k.cell_of X18.out (i := 6) rfl).1; have X20c0 := (k.cell_of X20.out (i := 0) rfl).1; have X20c1 := (k.cell_of X20.out (i := 1) rfl).1; have X20c2 := (k.cell_of X20.out (i := 2) rfl).1; have X20c3 := (k.cell_of X20.out (i := 3) rfl).1; have X20c4 := (k.cell_of X20.out (i := 4) rfl).1; have X20c5 := (k.cell_of X20.out (i := 5) rfl).1; have X20c6 := (k.cell_of X20.out (i := 6) rfl).1; clear hb)) | (go_at_call 11; ((with_reducible refine (same_any [] [] KN.out KW.out (Rd.none_ cC 7 _ _) (Rd.none_ cC 7 _ _) (Nat.le_refl _)).mono ?_); rintro e v33 ⟨rfl, hb⟩; have X0 := Lib.hid (X0.out.under hb); have V5 := Lib.hid (V5.out.under hb); have V14 := Lib.hid (V14.out.under hb); have V16 := Lib.hid (V16.out.under hb); have X2 := Lib.hid (X2.out.below hb x4); have x4 := Nat.lt_of_lt_of_le x4 hb.size; have X18 := Lib.hid (X18.out.below hb hzX18); have hzX18 := Nat.lt_of_lt_of_le hzX18 hb.size; have X20 := Lib.hid (X20.out.below hb hzX20); have hzX20 := Nat.lt_of_lt_of_le hzX20 hb.size; have R1 := Lib.hid (rd_under R1.out hb); have R2 := Lib.hid (rd_under R2.out hb); have M1 := Lib.hid (rd_under M1.out hb); have M2 := Lib.hid (rd_under M2.out hb); have AL := Lib.hid (rd_under AL.out hb); have EN := Lib.hid (rd_under EN.out hb); have EW := Lib.hid (rd_under EW.out hb); have KN := Lib.hid (rd_under KN.out hb); have KW := Lib.hid (rd_under KW.out hb); have KI := Lib.hid (rd_under KI.out hb); have X3 := Lib.hid (X3.out.trans (hb.mono X3.out.size)); clear a0 a1 b0 b1 c0 c1 d0 d1 X2c0 X2c1 X2c2 X2c3 X2c4 X2c5 X2c6 X18c0 X18c1 X18c2 X18c3 X18c4 X18c5 X18c6 X20c0 X20c1 X20c2 X20c3 X20c4 X20c5 X20c6; have ⟨a0, a1, _, _⟩ := X0.out.cells; have ⟨b0, b1, _, _⟩ := V5.out.cells; have ⟨c0, c1, _, _⟩ := V14.out.cells; have ⟨d0, d1, _, _⟩ := V16.out.cells; have X2c0 := (k.cell_of X2.out (i := 0) rfl).1; have X2c1 := (k.cell_of X2.out (i := 1) rfl).1; have X2c2 := (k.cell_of X2.out (i := 2) rfl).1; have X2c3 := (k.cell_of X2.out (i := 3) rfl).1; have X2c4 := (k.cell_of X2.out (i := 4) rfl).1; have X2c5 := (k.cell_of X2.out (i := 5) rfl).1; have X2c6 := (k.cell_of X2.out (i := 6) rfl).1; have X18c0 := (k.cell_of X18.out (i := 0) rfl).1; have X18c1 := (k.cell_of X18.out (i := 1) rfl).1; have X18c2 := (k.cell_of X18.out (i := 2) rfl).1; have X18c3 := (k.cell_of X18.out (i := 3) rfl).1; have X18c4 := (k.cell_of X18.out (i := 4) rfl).1; have X18c5 := (k.cell_of X18.out (i := 5) rfl).1; have X18c6 := (k.cell_of X18.out (i := 6) rfl).1; have X20c0 := (k.cell_of X20.out (i := 0) rfl).1; have X20c1 := (k.cell_of X20.out (i := 1) rfl).1; have X20c2 := (k.cell_of X20.out (i := 2) rfl).1; have X20c3 := (k.cell_of X20.out (i := 3) rfl).1; have X20c4 := (k.cell_of X20.out (i := 4) rfl).1; have X20c5 := (k.cell_of X20.out (i := 5) rfl).1; have X20c6 := (k.cell_of X20.out (i := 6) rfl).1; clear hb)))
      go_ret
      exact ⟨rfl, X3.out⟩
end Go.Proofs.Ytnghifbkiipigaa.ln
