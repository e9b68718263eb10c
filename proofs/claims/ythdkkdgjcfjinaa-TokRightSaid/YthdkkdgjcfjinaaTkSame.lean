/- The document's comparison of two rows of signs: true of rows alike, with their places or but for them; what was in memory is as it was. Condition: they are alike. -/
import Derived.Test.YthdkkdgjcfjinaaTkLex
namespace Go.Proofs.Ythdkkdgjcfjinaa.tk
open Go.ChangeShapes Go.WideShapes Go.ChangeAt Go.RowKit Go.Proofs.Ythdkkdgjcfjinaa.k Go.Proofs.Ythdkkdgjcfjinaa.rr
set_option linter.unusedVariables false

/-- two signs alike; p: with their places -/
def Alike (p : Bool) (a b : Tk) : Prop := b.kind = a.kind ∧ b.text = a.text ∧ b.n = a.n ∧ (p = true → b.line = a.line ∧ b.col = a.col)
set_option maxRecDepth 100000 in
set_option maxHeartbeats 8000000 in
theorem same_any (p : Bool) (L M : List Tk) (hlm : L.length = M.length) (ha : ∀ (i : Nat) a b, L[i]? = some a → M[i]? = some b → Alike p a b) {A A' : Option Addr} {n cap cap' : Nat} (w : World) (h1 : rr.Rd tC 5 w w.heap.size A n cap L) (h2 : rr.Rd tC 5 w w.heap.size A' n cap' M) :
    Calls Try.prog 10 #[.slice A n cap, .slice A' n cap', .bool p] w fun e w' => e = .returned (.bool true) ∧ Below w.heap.size w w' := by
  have R1 := Lib.hid h1
  have R2 := Lib.hid h2
  have HA := Lib.hid ha
  have hnl := h1.len_le
  clear h1 h2 ha
  go_enter Try.func10, Try.ntmps10
  go_wp2_with fail
  go_loopw [7] (fun s7 wr => ∃ q : Nat, q ≤ n ∧ s7 = .int .i64 q ∧ rr.Rd tC 5 wr wr.heap.size A n cap L ∧ rr.Rd tC 5 wr wr.heap.size A' n cap' M ∧ Below w.heap.size w wr) (fun i _ => n - (intOf i).toNat)
  case atStart => exact ⟨0, Nat.zero_le _, rfl, R1.out, R2.out, Below.refl _ _⟩
  case round =>
    obtain ⟨q, hq, rfl, hr1, hr2, hb⟩ := hrel
    clear R1 R2
    have R1 := Lib.hid hr1
    have R2 := Lib.hid hr2
    have HB := Lib.hid hb
    clear hr1 hr2 hb
    by_cases hlt : q < n
    · obtain ⟨b1, o1, a, rfl, hb1, hp, hc1⟩ := R1.out.at hlt
      obtain ⟨b2, o2, b, rfl, hb2, hp', hc2⟩ := R2.out.at hlt
      obtain ⟨k1, k2, k3, k4⟩ := HA.out q a b hp hp'
      have a0 := hc1 0 _ rfl
      have a1 := hc1 1 _ rfl
      have a2 := hc1 2 _ rfl
      have a3 := hc1 3 _ rfl
      have a4 := hc1 4 _ rfl
      have d0 := hc2 0 _ rfl
      have d1 := hc2 1 _ rfl
      have d2 := hc2 2 _ rfl
      have d3 := hc2 3 _ rfl
      have d4 := hc2 4 _ rfl
      rw [Nat.add_zero] at a0 d0
      rw [k1] at d0
      rw [k2] at d1
      rw [k3] at d2
      have K4 := Lib.hid k4
      clear hc1 hc2 hp hp' k1 k2 k3 k4
      go_upto_region 6 with (fail)
      generalize hwz : wr = wz at *
      clear hwz
      refine wp_region_T (by kernel_rfl) (fun w' => Below wz.heap.size wz w') [] (Below.refl _ _).drew (fun hHeld => ?_)
      refine wpAnyT_take (i := 0) (v := ?_) rfl (by kernel_rfl) (by kernel_rfl) (by kernel_rfl) (fun _ _ _ h => h) (Or.inl ⟨by rfl, ?_⟩) (by assumption) ?_
      rotate_left 1
      · intro w hSw; clear hSw; go_simp <;> (with_reducible rfl)
      try simp only [Act.put, List.setIfInBounds_toArray, List.set_cons_zero, List.set_cons_succ, List.getElem_toArray, List.getElem_cons_zero]
      refine wpAnyT_take (i := 1) (v := ?_) rfl (by kernel_rfl) (by kernel_rfl) (by kernel_rfl) (fun _ _ _ h => h) (Or.inl ⟨by rfl, ?_⟩) (by assumption) ?_
      rotate_left 1
      · intro w hSw; clear hSw; go_simp <;> (with_reducible rfl)
      try simp only [Act.put, List.setIfInBounds_toArray, List.set_cons_zero, List.set_cons_succ, List.getElem_toArray, List.getElem_cons_succ, List.getElem_cons_zero]
      refine wpAnyT_take (i := 2) (v := ?_) rfl (by kernel_rfl) (by kernel_rfl) (by kernel_rfl) (fun _ _ _ h => h) (Or.inl ⟨by rfl, ?_⟩) (by assumption) ?_
      rotate_left 1
      · intro w hSw; clear hSw; go_simp <;> (with_reducible rfl)
      try simp only [Act.put, List.setIfInBounds_toArray, List.set_cons_zero, List.set_cons_succ, List.getElem_toArray, List.getElem_cons_succ, List.getElem_cons_zero]
      refine wpAnyT_take (i := 3) (v := ?_) rfl (by kernel_rfl) (by kernel_rfl) (by kernel_rfl) (fun _ _ _ h => h) (Or.inl ⟨by rfl, ?_⟩) (by assumption) ?_
      rotate_left 1
      · intro w hSw; have s0 := (hSw.cell (p := ⟨b1, o1 + q * 5, none⟩) hb1).trans a0; have s1 := (hSw.cell (p := ⟨b1, o1 + q * 5 + 1, none⟩) hb1).trans a1; have s2 := (hSw.cell (p := ⟨b1, o1 + q * 5 + 2, none⟩) hb1).trans a2; have s3 := (hSw.cell (p := ⟨b1, o1 + q * 5 + 3, none⟩) hb1).trans a3; have s4 := (hSw.cell (p := ⟨b1, o1 + q * 5 + 4, none⟩) hb1).trans a4; clear hSw; go_simp <;> (with_reducible rfl)
      try simp only [Act.put, List.setIfInBounds_toArray, List.set_cons_zero, List.set_cons_succ, List.getElem_toArray, List.getElem_cons_succ, List.getElem_cons_zero]
      refine wpAnyT_take (i := 4) (v := ?_) rfl (by kernel_rfl) (by kernel_rfl) (by kernel_rfl) (fun _ _ _ h => h) (Or.inl ⟨by rfl, ?_⟩) (by assumption) ?_
      rotate_left 1
      · intro w hSw; clear hSw; go_simp <;> (with_reducible rfl)
      try simp only [Act.put, List.setIfInBounds_toArray, List.set_cons_zero, List.set_cons_succ, List.getElem_toArray, List.getElem_cons_succ, List.getElem_cons_zero]
      refine wpAnyT_take (i := 5) (v := ?_) rfl (by kernel_rfl) (by kernel_rfl) (by kernel_rfl) (fun _ _ _ h => h) (Or.inl ⟨by rfl, ?_⟩) (by assumption) ?_
      rotate_left 1
      · intro w hSw; clear hSw; go_simp <;> (with_reducible rfl)
      try simp only [Act.put, List.setIfInBounds_toArray, List.set_cons_zero, List.set_cons_succ, List.getElem_toArray, List.getElem_cons_succ, List.getElem_cons_zero]
      refine wpAnyT_take (i := 6) (v := ?_) rfl (by kernel_rfl) (by kernel_rfl) (by kernel_rfl) (fun _ _ _ h => h) (Or.inl ⟨by rfl, ?_⟩) (by assumption) ?_
      rotate_left 1
      · intro w hSw; clear hSw; go_simp <;> (with_reducible rfl)
      try simp only [Act.put, List.setIfInBounds_toArray, List.set_cons_zero, List.set_cons_succ, List.getElem_toArray, List.getElem_cons_succ, List.getElem_cons_zero]
      refine wpAnyT_take (i := 7) (v := ?_) rfl (by kernel_rfl) (by kernel_rfl) (by kernel_rfl) (fun _ _ _ h => h) (Or.inl ⟨by rfl, ?_⟩) (by assumption) ?_
      rotate_left 1
      · intro w hSw; have s0 := (hSw.cell (p := ⟨b2, o2 + q * 5, none⟩) hb2).trans d0; have s1 := (hSw.cell (p := ⟨b2, o2 + q * 5 + 1, none⟩) hb2).trans d1; have s2 := (hSw.cell (p := ⟨b2, o2 + q * 5 + 2, none⟩) hb2).trans d2; have s3 := (hSw.cell (p := ⟨b2, o2 + q * 5 + 3, none⟩) hb2).trans d3; have s4 := (hSw.cell (p := ⟨b2, o2 + q * 5 + 4, none⟩) hb2).trans d4; clear hSw; go_simp <;> (with_reducible rfl)
      try simp only [Act.put, List.setIfInBounds_toArray, List.set_cons_zero, List.set_cons_succ, List.getElem_toArray, List.getElem_cons_succ, List.getElem_cons_zero]
      refine wpAnyT_ready (rs := [8, 9]) (by kernel_rfl) (by simp) ?_
      refine AllReadyT.cons rfl (fun K hK => ?_) (AllReadyT.cons rfl (fun K hK => ?_) AllReadyT.nil)
      · go_simp
        have hA : Below wz.heap.size wz (wz.alloc (.cells #[.int .i64 0, .string ⟨#[]⟩, .int .i64 0, .int .i64 0, .int .i64 0] 26)).drew := ((Below.refl _ _).alloc (Nat.le_refl _) _).drew
        refine hK.out _ _ hA (fun hHeld => ?_)
        clear hK K hA
        try simp only [Act.put, List.setIfInBounds_toArray, List.set_cons_zero, List.set_cons_succ, List.getElem_toArray, List.getElem_cons_succ, List.getElem_cons_zero]
        refine wpAnyT_ready (rs := [9]) (by kernel_rfl) (by simp) ?_
        refine AllReadyT.cons rfl (fun K hK => ?_) AllReadyT.nil
        go_simp
        obtain ⟨x1, x2, hb, hz⟩ := boxes2 (Below.refl ((wz.alloc (.cells #[.int .i64 0, .string ⟨#[]⟩, .int .i64 0, .int .i64 0, .int .i64 0] 26)).alloc (.cells #[.int .i64 0, .string ⟨#[]⟩, .int .i64 0, .int .i64 0, .int .i64 0] 26)).heap.size ((wz.alloc (.cells #[.int .i64 0, .string ⟨#[]⟩, .int .i64 0, .int .i64 0, .int .i64 0] 26)).alloc (.cells #[.int .i64 0, .string ⟨#[]⟩, .int .i64 0, .int .i64 0, .int .i64 0] 26)))
        have hB : Below wz.heap.size wz ((wz.alloc (.cells #[.int .i64 0, .string ⟨#[]⟩, .int .i64 0, .int .i64 0, .int .i64 0] 26)).alloc (.cells #[.int .i64 0, .string ⟨#[]⟩, .int .i64 0, .int .i64 0, .int .i64 0] 26)).drew := hb.drew
        have y1 := box_drew x1
        have y2 := box_drew x2
        generalize ((wz.alloc (.cells #[.int .i64 0, .string ⟨#[]⟩, .int .i64 0, .int .i64 0, .int .i64 0] 26)).alloc (.cells #[.int .i64 0, .string ⟨#[]⟩, .int .i64 0, .int .i64 0, .int .i64 0] 26)).drew = w2 at *
        have X1 := Lib.hid y1
        have X2 := Lib.hid y2
        clear x1 x2 hb hz y1 y2
        refine hK.out _ _ hB (fun hHeld => ?_)
        clear hK K
        try simp only [Act.put, List.setIfInBounds_toArray, List.set_cons_zero, List.set_cons_succ, List.getElem_toArray, List.getElem_cons_succ, List.getElem_cons_zero]
        have ⟨e0, ef0, e1, ef1, e2, ef2, e3, ef3, e4, ef4, _⟩ := X1.out
        refine wpAnyT_ready (rs := [10]) (by kernel_rfl) (by simp) ?_
        refine AllReadyT.cons rfl (fun K hK => ?_) AllReadyT.nil
        go_simp
        obtain ⟨x, _, hb⟩ := Box.puts (us := [.int .i64 a.kind, .string ⟨a.text.toArray⟩, .int .i64 a.n, .int .i64 a.line, .int .i64 a.col]) X1.out rfl
        have z := Box_puts_aside (by omega : wz.heap.size ≠ (wz.heap.size + 1)) [.int .i64 a.kind, .string ⟨a.text.toArray⟩, .int .i64 a.n, .int .i64 a.line, .int .i64 a.col] 0 _ X2.out
        have hB := hB.trans (hb wz.heap.size (by omega))
        have X1 := Lib.hid x
        have X2 := Lib.hid z
        clear x z hb e0 ef0 e1 ef1 e2 ef2 e3 ef3 e4 ef4
        have hX : (((((w2.setCell ⟨wz.heap.size, 0, none⟩ (.int .i64 a.kind)).setCell ⟨wz.heap.size, 1, none⟩ (.string ⟨a.text.toArray⟩)).setCell ⟨wz.heap.size, 2, none⟩ (.int .i64 a.n)).setCell ⟨wz.heap.size, 3, none⟩ (.int .i64 a.line)).setCell ⟨wz.heap.size, 4, none⟩ (.int .i64 a.col)) = k.puts w2 wz.heap.size 0 [.int .i64 a.kind, .string ⟨a.text.toArray⟩, .int .i64 a.n, .int .i64 a.line, .int .i64 a.col] := rfl
        rw [← hX] at X1 X2 hB
        clear hX
        generalize (((((w2.setCell ⟨wz.heap.size, 0, none⟩ (.int .i64 a.kind)).setCell ⟨wz.heap.size, 1, none⟩ (.string ⟨a.text.toArray⟩)).setCell ⟨wz.heap.size, 2, none⟩ (.int .i64 a.n)).setCell ⟨wz.heap.size, 3, none⟩ (.int .i64 a.line)).setCell ⟨wz.heap.size, 4, none⟩ (.int .i64 a.col)) = w3 at *
        refine hK.out _ _ hB (fun hHeld => ?_)
        clear hK K
        try simp only [Act.put, List.setIfInBounds_toArray, List.set_cons_zero, List.set_cons_succ, List.getElem_toArray, List.getElem_cons_succ, List.getElem_cons_zero]
        have ⟨e0, ef0, e1, ef1, e2, ef2, e3, ef3, e4, ef4, _⟩ := X2.out
        refine wpAnyT_ready (rs := [11]) (by kernel_rfl) (by simp) ?_
        refine AllReadyT.cons rfl (fun K hK => ?_) AllReadyT.nil
        go_simp
        obtain ⟨x, _, hb⟩ := Box.puts (us := [.int .i64 a.kind, .string ⟨a.text.toArray⟩, .int .i64 a.n, .int .i64 b.line, .int .i64 b.col]) X2.out rfl
        have z := Box_puts_aside (by omega : (wz.heap.size + 1) ≠ wz.heap.size) [.int .i64 a.kind, .string ⟨a.text.toArray⟩, .int .i64 a.n, .int .i64 b.line, .int .i64 b.col] 0 _ X1.out
        have hB := hB.trans (hb wz.heap.size (by omega))
        have X2 := Lib.hid x
        have X1 := Lib.hid z
        clear x z hb e0 ef0 e1 ef1 e2 ef2 e3 ef3 e4 ef4
        have hX : (((((w3.setCell ⟨(wz.heap.size + 1), 0, none⟩ (.int .i64 a.kind)).setCell ⟨(wz.heap.size + 1), 1, none⟩ (.string ⟨a.text.toArray⟩)).setCell ⟨(wz.heap.size + 1), 2, none⟩ (.int .i64 a.n)).setCell ⟨(wz.heap.size + 1), 3, none⟩ (.int .i64 b.line)).setCell ⟨(wz.heap.size + 1), 4, none⟩ (.int .i64 b.col)) = k.puts w3 (wz.heap.size + 1) 0 [.int .i64 a.kind, .string ⟨a.text.toArray⟩, .int .i64 a.n, .int .i64 b.line, .int .i64 b.col] := rfl
        rw [← hX] at X2 X1 hB
        clear hX
        generalize (((((w3.setCell ⟨(wz.heap.size + 1), 0, none⟩ (.int .i64 a.kind)).setCell ⟨(wz.heap.size + 1), 1, none⟩ (.string ⟨a.text.toArray⟩)).setCell ⟨(wz.heap.size + 1), 2, none⟩ (.int .i64 a.n)).setCell ⟨(wz.heap.size + 1), 3, none⟩ (.int .i64 b.line)).setCell ⟨(wz.heap.size + 1), 4, none⟩ (.int .i64 b.col)) = w4 at *
        refine hK.out _ _ hB (fun hHeld => ?_)
        clear hK K
        try simp only [Act.put, List.setIfInBounds_toArray, List.set_cons_zero, List.set_cons_succ, List.getElem_toArray, List.getElem_cons_succ, List.getElem_cons_zero]
        refine wpAnyT_done (by kernel_rfl) ?_ _
        have BB := Lib.hid hB
        clear hHeld hB a0 a1 a2 a3 a4 d0 d1 d2 d3 d4
        cases p
        · have ⟨e0, ef0, e1, ef1, e2, ef2, e3, ef3, e4, ef4, _⟩ := X1.out
          have ⟨f0, ff0, f1, ff1, f2, ff2, f3, ff3, f4, ff4, _⟩ := X2.out
          go_wp2_with fail
          go_roundw
          case rel =>
            have b5 := (((BB.out.setCell (p := ⟨wz.heap.size, 3, none⟩) (Nat.le_refl _) (.int .i64 0)).setCell (p := ⟨wz.heap.size, 4, none⟩) (Nat.le_refl _) (.int .i64 0)).setCell (p := ⟨(wz.heap.size + 1), 3, none⟩) (Nat.le_succ _) (.int .i64 0)).setCell (p := ⟨(wz.heap.size + 1), 4, none⟩) (Nat.le_succ _) (.int .i64 0)
            exact ⟨q + 1, by omega, by go_num, (R1.out.below b5).more b5.size, (R2.out.below b5).more b5.size, HB.out.trans (b5.mono HB.out.size)⟩
          case measure => simp [intOf]; omega
        · obtain ⟨m1, m2⟩ := K4.out rfl
          rw [m1, m2] at X2
          have ⟨e0, ef0, e1, ef1, e2, ef2, e3, ef3, e4, ef4, _⟩ := X1.out
          have ⟨f0, ff0, f1, ff1, f2, ff2, f3, ff3, f4, ff4, _⟩ := X2.out
          clear K4 m1 m2
          go_wp2_with fail
          go_roundw
          case rel => exact ⟨q + 1, by omega, by go_num, (R1.out.below BB.out).more BB.out.size, (R2.out.below BB.out).more BB.out.size, HB.out.trans (BB.out.mono HB.out.size)⟩
          case measure => simp [intOf]; omega
      · go_simp
        have hA : Below wz.heap.size wz (wz.alloc (.cells #[.int .i64 0, .string ⟨#[]⟩, .int .i64 0, .int .i64 0, .int .i64 0] 26)).drew := ((Below.refl _ _).alloc (Nat.le_refl _) _).drew
        refine hK.out _ _ hA (fun hHeld => ?_)
        clear hK K hA
        try simp only [Act.put, List.setIfInBounds_toArray, List.set_cons_zero, List.set_cons_succ, List.getElem_toArray, List.getElem_cons_succ, List.getElem_cons_zero]
        refine wpAnyT_ready (rs := [8]) (by kernel_rfl) (by simp) ?_
        refine AllReadyT.cons rfl (fun K hK => ?_) AllReadyT.nil
        go_simp
        obtain ⟨x1, x2, hb, hz⟩ := boxes2 (Below.refl ((wz.alloc (.cells #[.int .i64 0, .string ⟨#[]⟩, .int .i64 0, .int .i64 0, .int .i64 0] 26)).alloc (.cells #[.int .i64 0, .string ⟨#[]⟩, .int .i64 0, .int .i64 0, .int .i64 0] 26)).heap.size ((wz.alloc (.cells #[.int .i64 0, .string ⟨#[]⟩, .int .i64 0, .int .i64 0, .int .i64 0] 26)).alloc (.cells #[.int .i64 0, .string ⟨#[]⟩, .int .i64 0, .int .i64 0, .int .i64 0] 26)))
        have hB : Below wz.heap.size wz ((wz.alloc (.cells #[.int .i64 0, .string ⟨#[]⟩, .int .i64 0, .int .i64 0, .int .i64 0] 26)).alloc (.cells #[.int .i64 0, .string ⟨#[]⟩, .int .i64 0, .int .i64 0, .int .i64 0] 26)).drew := hb.drew
        have y1 := box_drew x1
        have y2 := box_drew x2
        generalize ((wz.alloc (.cells #[.int .i64 0, .string ⟨#[]⟩, .int .i64 0, .int .i64 0, .int .i64 0] 26)).alloc (.cells #[.int .i64 0, .string ⟨#[]⟩, .int .i64 0, .int .i64 0, .int .i64 0] 26)).drew = w2 at *
        have X1 := Lib.hid y1
        have X2 := Lib.hid y2
        clear x1 x2 hb hz y1 y2
        refine hK.out _ _ hB (fun hHeld => ?_)
        clear hK K
        try simp only [Act.put, List.setIfInBounds_toArray, List.set_cons_zero, List.set_cons_succ, List.getElem_toArray, List.getElem_cons_succ, List.getElem_cons_zero]
        have ⟨e0, ef0, e1, ef1, e2, ef2, e3, ef3, e4, ef4, _⟩ := X2.out
        refine wpAnyT_ready (rs := [10]) (by kernel_rfl) (by simp) ?_
        refine AllReadyT.cons rfl (fun K hK => ?_) AllReadyT.nil
        go_simp
        obtain ⟨x, _, hb⟩ := Box.puts (us := [.int .i64 a.kind, .string ⟨a.text.toArray⟩, .int .i64 a.n, .int .i64 a.line, .int .i64 a.col]) X2.out rfl
        have z := Box_puts_aside (by omega : (wz.heap.size + 1) ≠ wz.heap.size) [.int .i64 a.kind, .string ⟨a.text.toArray⟩, .int .i64 a.n, .int .i64 a.line, .int .i64 a.col] 0 _ X1.out
        have hB := hB.trans (hb wz.heap.size (by omega))
        have X2 := Lib.hid x
        have X1 := Lib.hid z
        clear x z hb e0 ef0 e1 ef1 e2 ef2 e3 ef3 e4 ef4
        have hX : (((((w2.setCell ⟨(wz.heap.size + 1), 0, none⟩ (.int .i64 a.kind)).setCell ⟨(wz.heap.size + 1), 1, none⟩ (.string ⟨a.text.toArray⟩)).setCell ⟨(wz.heap.size + 1), 2, none⟩ (.int .i64 a.n)).setCell ⟨(wz.heap.size + 1), 3, none⟩ (.int .i64 a.line)).setCell ⟨(wz.heap.size + 1), 4, none⟩ (.int .i64 a.col)) = k.puts w2 (wz.heap.size + 1) 0 [.int .i64 a.kind, .string ⟨a.text.toArray⟩, .int .i64 a.n, .int .i64 a.line, .int .i64 a.col] := rfl
        rw [← hX] at X2 X1 hB
        clear hX
        generalize (((((w2.setCell ⟨(wz.heap.size + 1), 0, none⟩ (.int .i64 a.kind)).setCell ⟨(wz.heap.size + 1), 1, none⟩ (.string ⟨a.text.toArray⟩)).setCell ⟨(wz.heap.size + 1), 2, none⟩ (.int .i64 a.n)).setCell ⟨(wz.heap.size + 1), 3, none⟩ (.int .i64 a.line)).setCell ⟨(wz.heap.size + 1), 4, none⟩ (.int .i64 a.col)) = w3 at *
        refine hK.out _ _ hB (fun hHeld => ?_)
        clear hK K
        try simp only [Act.put, List.setIfInBounds_toArray, List.set_cons_zero, List.set_cons_succ, List.getElem_toArray, List.getElem_cons_succ, List.getElem_cons_zero]
        have ⟨e0, ef0, e1, ef1, e2, ef2, e3, ef3, e4, ef4, _⟩ := X1.out
        refine wpAnyT_ready (rs := [11]) (by kernel_rfl) (by simp) ?_
        refine AllReadyT.cons rfl (fun K hK => ?_) AllReadyT.nil
        go_simp
        obtain ⟨x, _, hb⟩ := Box.puts (us := [.int .i64 a.kind, .string ⟨a.text.toArray⟩, .int .i64 a.n, .int .i64 b.line, .int .i64 b.col]) X1.out rfl
        have z := Box_puts_aside (by omega : wz.heap.size ≠ (wz.heap.size + 1)) [.int .i64 a.kind, .string ⟨a.text.toArray⟩, .int .i64 a.n, .int .i64 b.line, .int .i64 b.col] 0 _ X2.out
        have hB := hB.trans (hb wz.heap.size (by omega))
        have X1 := Lib.hid x
        have X2 := Lib.hid z
        clear x z hb e0 ef0 e1 ef1 e2 ef2 e3 ef3 e4 ef4
        have hX : (((((w3.setCell ⟨wz.heap.size, 0, none⟩ (.int .i64 a.kind)).setCell ⟨wz.heap.size, 1, none⟩ (.string ⟨a.text.toArray⟩)).setCell ⟨wz.heap.size, 2, none⟩ (.int .i64 a.n)).setCell ⟨wz.heap.size, 3, none⟩ (.int .i64 b.line)).setCell ⟨wz.heap.size, 4, none⟩ (.int .i64 b.col)) = k.puts w3 wz.heap.size 0 [.int .i64 a.kind, .string ⟨a.text.toArray⟩, .int .i64 a.n, .int .i64 b.line, .int .i64 b.col] := rfl
        rw [← hX] at X1 X2 hB
        clear hX
        generalize (((((w3.setCell ⟨wz.heap.size, 0, none⟩ (.int .i64 a.kind)).setCell ⟨wz.heap.size, 1, none⟩ (.string ⟨a.text.toArray⟩)).setCell ⟨wz.heap.size, 2, none⟩ (.int .i64 a.n)).setCell ⟨wz.heap.size, 3, none⟩ (.int .i64 b.line)).setCell ⟨wz.heap.size, 4, none⟩ (.int .i64 b.col)) = w4 at *
        refine hK.out _ _ hB (fun hHeld => ?_)
        clear hK K
        try simp only [Act.put, List.setIfInBounds_toArray, List.set_cons_zero, List.set_cons_succ, List.getElem_toArray, List.getElem_cons_succ, List.getElem_cons_zero]
        refine wpAnyT_done (by kernel_rfl) ?_ _
        have BB := Lib.hid hB
        clear hHeld hB a0 a1 a2 a3 a4 d0 d1 d2 d3 d4
        cases p
        · have ⟨e0, ef0, e1, ef1, e2, ef2, e3, ef3, e4, ef4, _⟩ := X2.out
          have ⟨f0, ff0, f1, ff1, f2, ff2, f3, ff3, f4, ff4, _⟩ := X1.out
          go_wp2_with fail
          go_roundw
          case rel =>
            have b5 := (((BB.out.setCell (p := ⟨(wz.heap.size + 1), 3, none⟩) (Nat.le_succ _) (.int .i64 0)).setCell (p := ⟨(wz.heap.size + 1), 4, none⟩) (Nat.le_succ _) (.int .i64 0)).setCell (p := ⟨wz.heap.size, 3, none⟩) (Nat.le_refl _) (.int .i64 0)).setCell (p := ⟨wz.heap.size, 4, none⟩) (Nat.le_refl _) (.int .i64 0)
            exact ⟨q + 1, by omega, by go_num, (R1.out.below b5).more b5.size, (R2.out.below b5).more b5.size, HB.out.trans (b5.mono HB.out.size)⟩
          case measure => simp [intOf]; omega
        · obtain ⟨m1, m2⟩ := K4.out rfl
          rw [m1, m2] at X1
          have ⟨e0, ef0, e1, ef1, e2, ef2, e3, ef3, e4, ef4, _⟩ := X2.out
          have ⟨f0, ff0, f1, ff1, f2, ff2, f3, ff3, f4, ff4, _⟩ := X1.out
          clear K4 m1 m2
          go_wp2_with fail
          go_roundw
          case rel => exact ⟨q + 1, by omega, by go_num, (R1.out.below BB.out).more BB.out.size, (R2.out.below BB.out).more BB.out.size, HB.out.trans (BB.out.mono HB.out.size)⟩
          case measure => simp [intOf]; omega
    · have : q = n := by omega
      subst this
      go_wp2_with fail
      go_ret
      exact ⟨rfl, HB.out⟩
end Go.Proofs.Ythdkkdgjcfjinaa.tk
