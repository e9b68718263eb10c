/- What axis' makes, Right, New, Bounds and Out answer; what was in memory is as it was. No condition beyond what each line says. What axis' Right answers; what was in memory is as it was. -/
import Derived.Test.YtijlccblabadaaaGreatV11
import Derived.Test.YtijlccblabadaaaGreatV08
import Derived.Test.YtijlccblabadaaaGreatV07
import Derived.Test.YtijlccblabadaaaGreatV05
import Derived.Test.YtijlccblabadaaaGreatV04
section
namespace Go.Proofs.YtijlccblabadaaaGreat.cx
open Go.ChangeShapes Go.WideShapes Go.ChangeAt Go.RowKit Go.Proofs.YtijlccblabadaaaGreat.k Go.Proofs.YtijlccblabadaaaGreat.rr Go.Proofs.YtijlccblabadaaaGreat.ax
open Go.Proofs.YtijlccblabadaaaGreat.ln (C RdC RdI iC cC cV lnV)
set_option linter.unusedVariables false
set_option maxRecDepth 100000
theorem wide_l {l : Lm} (h : WideL l) : gn.WideL l := ⟨h.V, h.A, h.D, h.lo, h.hi⟩
set_option maxHeartbeats 4000000 in
theorem makes_any (l : Lm) (win homeAt fast creep : Int) (hl : WideL l) {b : Bool} (hb : decide (MadeP l win homeAt fast creep) = b) (w : World) :
  Calls Tryz.prog 24 #[lmV l, .int .i64 win, .int .i64 homeAt, .int .i64 fast, .int .i64 creep] w fun e w' => e = .returned (.bool b) ∧ Below w.heap.size w w' := by
 obtain ⟨x1, x2, x3⟩ := k.boxes1 (w := w) (c1 := lmA l) (t1 := 23) (Below.refl _ _)
 have X1 : Hid (k.Box _ w.heap.size 0 (lmC l)) := lh x1
 have HB := lh x2
 clear x1 x2
 have HV := lh hb
 have fin : ∀ {y : Bool}, decide (MadeP l win homeAt fast creep) = y → Ending.returned (.bool y) = .returned (.bool b) := fun h => by rw [← HV.out, h]
 have CH := fun W => hm.new_any fast creep W
 obtain ⟨en, hen⟩ : ∃ z, hm.newE fast creep = z := ⟨_, rfl⟩
 obtain ⟨hh, hhh⟩ : ∃ z, hm.newH fast creep = z := ⟨_, rfl⟩
 rw [hen, hhh] at CH
 unfold hm.hV at CH
 have CH := lh CH
 have hei : en = 0 ↔ hm.RightH ⟨0, fast, creep, false⟩ := by
  rw [← hen]
  unfold hm.newE
  by_cases h : hm.RightH ⟨0, fast, creep, false⟩
  ·rw [if_pos h]; exact ⟨fun _ => h, fun _ => rfl⟩
  ·rw [if_neg h]; exact ⟨fun h2 => (by omega), fun h2 => absurd h2 h⟩
 obtain ⟨gr, hgr⟩ : ∃ z, gn.rightL l = z := ⟨_, rfl⟩
 have CG := fun W => gn.right_any l (wide_l hl) W
 rw [hgr] at CG
 have CG := lh CG
 obtain ⟨wi, hwi⟩ : ∃ z, decide (1 ≤ win ∧ win ≤ 16) = z := ⟨_, rfl⟩
 have CW := lh fun W => wint_any hwi W
 obtain ⟨wh, hwh⟩ : ∃ z, decide (l.lo ≤ homeAt ∧ homeAt ≤ l.hi) = z := ⟨_, rfl⟩
 have CX := lh fun W => w64_any hwh W
 have HGR := lh hgr
 have HWI := lh hwi
 have HWH := lh hwh
 have HEI := lh hei
 clear hb hen hhh hgr hwi hwh hei hl
 cases gr
 ·skip
  have HF := lh (fin (decide_eq_false fun h => of_decide_eq_false HGR.out h.1))
  clear fin HV HGR HWI HWH HEI
  (try clear he)
  go_enter Tryz.func24, Tryz.ntmps24
  go_upto_region 1 with fail
  generalize w.alloc (.cells (lmA l) 23) = w2 at X1 HB x3 ⊢
  go_upto_region 2 with (go_at_call 48; ((with_reducible refine (CH.out _).mono ?_); rintro e w3 ⟨rfl, hb⟩; have HB := lh (HB.out.trans (hb.mono HB.out.size)); have X1 := lh (X1.out.below hb x3); have x3 := Nat.lt_of_lt_of_le x3 hb.size; clear hb))
  have hwA : Below w3.heap.size w3 (w3.alloc (.cells #[.int .i64 hh.ph, .int .i64 hh.f, .int .i64 hh.c, .bool hh.tu] 33)) := (Below.refl _ _).alloc (Nat.le_refl _) _
  have HB := lh (HB.out.trans (hwA.mono HB.out.size))
  have X1 := lh (X1.out.below hwA x3)
  have x3 := Nat.lt_of_lt_of_le x3 hwA.size
  generalize w3.alloc (.cells #[.int .i64 hh.ph, .int .i64 hh.f, .int .i64 hh.c, .bool hh.tu] 33) = w7 at HB X1 x3 ⊢
  have ⟨c0, c0f⟩ := k.cell_of X1.out (i := 0) rfl
  have ⟨c1, c1f⟩ := k.cell_of X1.out (i := 1) rfl
  have ⟨c2, c2f⟩ := k.cell_of X1.out (i := 2) rfl
  have ⟨c3, c3f⟩ := k.cell_of X1.out (i := 3) rfl
  have ⟨c4, c4f⟩ := k.cell_of X1.out (i := 4) rfl
  go_wp2_with (first | (go_at_call 49; ((with_reducible refine (CG.out _).mono ?_); rintro e w4 ⟨rfl, hb⟩; have HB := lh (HB.out.trans (hb.mono HB.out.size)); have X1 := lh (X1.out.below hb x3); have x3 := Nat.lt_of_lt_of_le x3 hb.size; clear hb c0 c0f c1 c1f c2 c2f c3 c3f c4 c4f; have ⟨c3, c3f⟩ := k.cell_of X1.out (i := 3) rfl; have ⟨c4, c4f⟩ := k.cell_of X1.out (i := 4) rfl)) | (go_at_call 30; ((with_reducible refine (CW.out _).mono ?_); rintro e w5 ⟨rfl, rfl⟩)) | (go_at_call 50; ((with_reducible refine (CX.out _).mono ?_); rintro e w5 ⟨rfl, rfl⟩)))
  go_ret
  exact ⟨HF.out, HB.out⟩
 cases wi
 ·skip
  have HF := lh (fin (decide_eq_false fun h => of_decide_eq_false HWI.out ⟨h.2.1, h.2.2.1⟩))
  clear fin HV HGR HWI HWH HEI
  (try clear he)
  go_enter Tryz.func24, Tryz.ntmps24
  go_upto_region 1 with fail
  generalize w.alloc (.cells (lmA l) 23) = w2 at X1 HB x3 ⊢
  go_upto_region 2 with (go_at_call 48; ((with_reducible refine (CH.out _).mono ?_); rintro e w3 ⟨rfl, hb⟩; have HB := lh (HB.out.trans (hb.mono HB.out.size)); have X1 := lh (X1.out.below hb x3); have x3 := Nat.lt_of_lt_of_le x3 hb.size; clear hb))
  have hwA : Below w3.heap.size w3 (w3.alloc (.cells #[.int .i64 hh.ph, .int .i64 hh.f, .int .i64 hh.c, .bool hh.tu] 33)) := (Below.refl _ _).alloc (Nat.le_refl _) _
  have HB := lh (HB.out.trans (hwA.mono HB.out.size))
  have X1 := lh (X1.out.below hwA x3)
  have x3 := Nat.lt_of_lt_of_le x3 hwA.size
  generalize w3.alloc (.cells #[.int .i64 hh.ph, .int .i64 hh.f, .int .i64 hh.c, .bool hh.tu] 33) = w7 at HB X1 x3 ⊢
  have ⟨c0, c0f⟩ := k.cell_of X1.out (i := 0) rfl
  have ⟨c1, c1f⟩ := k.cell_of X1.out (i := 1) rfl
  have ⟨c2, c2f⟩ := k.cell_of X1.out (i := 2) rfl
  have ⟨c3, c3f⟩ := k.cell_of X1.out (i := 3) rfl
  have ⟨c4, c4f⟩ := k.cell_of X1.out (i := 4) rfl
  go_wp2_with (first | (go_at_call 49; ((with_reducible refine (CG.out _).mono ?_); rintro e w4 ⟨rfl, hb⟩; have HB := lh (HB.out.trans (hb.mono HB.out.size)); have X1 := lh (X1.out.below hb x3); have x3 := Nat.lt_of_lt_of_le x3 hb.size; clear hb c0 c0f c1 c1f c2 c2f c3 c3f c4 c4f; have ⟨c3, c3f⟩ := k.cell_of X1.out (i := 3) rfl; have ⟨c4, c4f⟩ := k.cell_of X1.out (i := 4) rfl)) | (go_at_call 30; ((with_reducible refine (CW.out _).mono ?_); rintro e w5 ⟨rfl, rfl⟩)) | (go_at_call 50; ((with_reducible refine (CX.out _).mono ?_); rintro e w5 ⟨rfl, rfl⟩)))
  go_ret
  exact ⟨HF.out, HB.out⟩
 cases wh
 ·skip
  have HF := lh (fin (decide_eq_false fun h => of_decide_eq_false HWH.out ⟨h.2.2.2.1, h.2.2.2.2.1⟩))
  clear fin HV HGR HWI HWH HEI
  (try clear he)
  go_enter Tryz.func24, Tryz.ntmps24
  go_upto_region 1 with fail
  generalize w.alloc (.cells (lmA l) 23) = w2 at X1 HB x3 ⊢
  go_upto_region 2 with (go_at_call 48; ((with_reducible refine (CH.out _).mono ?_); rintro e w3 ⟨rfl, hb⟩; have HB := lh (HB.out.trans (hb.mono HB.out.size)); have X1 := lh (X1.out.below hb x3); have x3 := Nat.lt_of_lt_of_le x3 hb.size; clear hb))
  have hwA : Below w3.heap.size w3 (w3.alloc (.cells #[.int .i64 hh.ph, .int .i64 hh.f, .int .i64 hh.c, .bool hh.tu] 33)) := (Below.refl _ _).alloc (Nat.le_refl _) _
  have HB := lh (HB.out.trans (hwA.mono HB.out.size))
  have X1 := lh (X1.out.below hwA x3)
  have x3 := Nat.lt_of_lt_of_le x3 hwA.size
  generalize w3.alloc (.cells #[.int .i64 hh.ph, .int .i64 hh.f, .int .i64 hh.c, .bool hh.tu] 33) = w7 at HB X1 x3 ⊢
  have ⟨c0, c0f⟩ := k.cell_of X1.out (i := 0) rfl
  have ⟨c1, c1f⟩ := k.cell_of X1.out (i := 1) rfl
  have ⟨c2, c2f⟩ := k.cell_of X1.out (i := 2) rfl
  have ⟨c3, c3f⟩ := k.cell_of X1.out (i := 3) rfl
  have ⟨c4, c4f⟩ := k.cell_of X1.out (i := 4) rfl
  go_wp2_with (first | (go_at_call 49; ((with_reducible refine (CG.out _).mono ?_); rintro e w4 ⟨rfl, hb⟩; have HB := lh (HB.out.trans (hb.mono HB.out.size)); have X1 := lh (X1.out.below hb x3); have x3 := Nat.lt_of_lt_of_le x3 hb.size; clear hb c0 c0f c1 c1f c2 c2f c3 c3f c4 c4f; have ⟨c3, c3f⟩ := k.cell_of X1.out (i := 3) rfl; have ⟨c4, c4f⟩ := k.cell_of X1.out (i := 4) rfl)) | (go_at_call 30; ((with_reducible refine (CW.out _).mono ?_); rintro e w5 ⟨rfl, rfl⟩)) | (go_at_call 50; ((with_reducible refine (CX.out _).mono ?_); rintro e w5 ⟨rfl, rfl⟩)))
  go_ret
  exact ⟨HF.out, HB.out⟩
 by_cases he : en = 0
 ·have be : (en == 0) = true := by rw [he]; rfl
  have HF := lh (fin (decide_eq_true ⟨of_decide_eq_true HGR.out, (of_decide_eq_true HWI.out).1, (of_decide_eq_true HWI.out).2, (of_decide_eq_true HWH.out).1, (of_decide_eq_true HWH.out).2, HEI.out.1 he⟩))
  clear fin HV HGR HWI HWH HEI
  (try clear he)
  go_enter Tryz.func24, Tryz.ntmps24
  go_upto_region 1 with fail
  generalize w.alloc (.cells (lmA l) 23) = w2 at X1 HB x3 ⊢
  go_upto_region 2 with (go_at_call 48; ((with_reducible refine (CH.out _).mono ?_); rintro e w3 ⟨rfl, hb⟩; have HB := lh (HB.out.trans (hb.mono HB.out.size)); have X1 := lh (X1.out.below hb x3); have x3 := Nat.lt_of_lt_of_le x3 hb.size; clear hb))
  have hwA : Below w3.heap.size w3 (w3.alloc (.cells #[.int .i64 hh.ph, .int .i64 hh.f, .int .i64 hh.c, .bool hh.tu] 33)) := (Below.refl _ _).alloc (Nat.le_refl _) _
  have HB := lh (HB.out.trans (hwA.mono HB.out.size))
  have X1 := lh (X1.out.below hwA x3)
  have x3 := Nat.lt_of_lt_of_le x3 hwA.size
  generalize w3.alloc (.cells #[.int .i64 hh.ph, .int .i64 hh.f, .int .i64 hh.c, .bool hh.tu] 33) = w7 at HB X1 x3 ⊢
  have ⟨c0, c0f⟩ := k.cell_of X1.out (i := 0) rfl
  have ⟨c1, c1f⟩ := k.cell_of X1.out (i := 1) rfl
  have ⟨c2, c2f⟩ := k.cell_of X1.out (i := 2) rfl
  have ⟨c3, c3f⟩ := k.cell_of X1.out (i := 3) rfl
  have ⟨c4, c4f⟩ := k.cell_of X1.out (i := 4) rfl
  go_wp2_with (first | (go_at_call 49; ((with_reducible refine (CG.out _).mono ?_); rintro e w4 ⟨rfl, hb⟩; have HB := lh (HB.out.trans (hb.mono HB.out.size)); have X1 := lh (X1.out.below hb x3); have x3 := Nat.lt_of_lt_of_le x3 hb.size; clear hb c0 c0f c1 c1f c2 c2f c3 c3f c4 c4f; have ⟨c3, c3f⟩ := k.cell_of X1.out (i := 3) rfl; have ⟨c4, c4f⟩ := k.cell_of X1.out (i := 4) rfl)) | (go_at_call 30; ((with_reducible refine (CW.out _).mono ?_); rintro e w5 ⟨rfl, rfl⟩)) | (go_at_call 50; ((with_reducible refine (CX.out _).mono ?_); rintro e w5 ⟨rfl, rfl⟩)))
  go_ret
  exact ⟨HF.out, HB.out⟩
 ·have be : (en == 0) = false := by rw [beq_eq_false_iff_ne]; exact he
  have HF := lh (fin (decide_eq_false fun h => he (HEI.out.2 h.2.2.2.2.2)))
  clear fin HV HGR HWI HWH HEI
  (try clear he)
  go_enter Tryz.func24, Tryz.ntmps24
  go_upto_region 1 with fail
  generalize w.alloc (.cells (lmA l) 23) = w2 at X1 HB x3 ⊢
  go_upto_region 2 with (go_at_call 48; ((with_reducible refine (CH.out _).mono ?_); rintro e w3 ⟨rfl, hb⟩; have HB := lh (HB.out.trans (hb.mono HB.out.size)); have X1 := lh (X1.out.below hb x3); have x3 := Nat.lt_of_lt_of_le x3 hb.size; clear hb))
  have hwA : Below w3.heap.size w3 (w3.alloc (.cells #[.int .i64 hh.ph, .int .i64 hh.f, .int .i64 hh.c, .bool hh.tu] 33)) := (Below.refl _ _).alloc (Nat.le_refl _) _
  have HB := lh (HB.out.trans (hwA.mono HB.out.size))
  have X1 := lh (X1.out.below hwA x3)
  have x3 := Nat.lt_of_lt_of_le x3 hwA.size
  generalize w3.alloc (.cells #[.int .i64 hh.ph, .int .i64 hh.f, .int .i64 hh.c, .bool hh.tu] 33) = w7 at HB X1 x3 ⊢
  have ⟨c0, c0f⟩ := k.cell_of X1.out (i := 0) rfl
  have ⟨c1, c1f⟩ := k.cell_of X1.out (i := 1) rfl
  have ⟨c2, c2f⟩ := k.cell_of X1.out (i := 2) rfl
  have ⟨c3, c3f⟩ := k.cell_of X1.out (i := 3) rfl
  have ⟨c4, c4f⟩ := k.cell_of X1.out (i := 4) rfl
  go_wp2_with (first | (go_at_call 49; ((with_reducible refine (CG.out _).mono ?_); rintro e w4 ⟨rfl, hb⟩; have HB := lh (HB.out.trans (hb.mono HB.out.size)); have X1 := lh (X1.out.below hb x3); have x3 := Nat.lt_of_lt_of_le x3 hb.size; clear hb c0 c0f c1 c1f c2 c2f c3 c3f c4 c4f; have ⟨c3, c3f⟩ := k.cell_of X1.out (i := 3) rfl; have ⟨c4, c4f⟩ := k.cell_of X1.out (i := 4) rfl)) | (go_at_call 30; ((with_reducible refine (CW.out _).mono ?_); rintro e w5 ⟨rfl, rfl⟩)) | (go_at_call 50; ((with_reducible refine (CX.out _).mono ?_); rintro e w5 ⟨rfl, rfl⟩)))
  go_ret
  exact ⟨HF.out, HB.out⟩
theorem right_iff (a : Ax) : RightA a ↔ ((0 ≤ a.st ∧ a.st ≤ 7) ∧ MadeP a.l a.win a.homeAt a.fast a.creep ∧ gn.SafeP (bounds a) a.p a.v ∧ winP a ∧ ln.RightL a.N a.W ∧ LinedP a ∧ (a.st = 2 → hm.RightH a.h) ∧ (0 ≤ a.ov ∧ a.ov ≤ 100) ∧ FarP a.off) := by
 constructor
 ·intro h
  refine ⟨⟨h.st0, h.st7⟩, h.made, h.safe, ⟨⟨?_, ?_, h.rows⟩, h.len, ?_, h.near⟩, h.line, h.lined, h.search, ⟨h.ov0, h.ov1⟩, h.far⟩
  ·have := h.len; have := h.made.2.1; omega
  ·have := h.len; have := h.made.2.2.1; omega
  ·cases hs : a.sm with
   | nil => have h1 := h.len; have h2 := h.made.2.1; rw [hs] at h1; simp at h1; omega
   | cons x t => have := h.newest x (by rw [hs]; rfl); rw [this]; rfl
 ·rintro ⟨h1, h2, h3, h4, h5, h6, h7, h8, h9⟩
  exact ⟨h2, h1.1, h1.2, h4.2.1, h8.1, h8.2, h9, h3, h5, h6, h7, h4.1.2.2, fun x hx => by have := h4.2.2.1; rw [hx] at this; injection this, h4.2.2.2⟩
end Go.Proofs.YtijlccblabadaaaGreat.cx
end
section
namespace Go.Proofs.YtijlccblabadaaaGreat.cx
open Go.ChangeShapes Go.WideShapes Go.ChangeAt Go.RowKit Go.Proofs.YtijlccblabadaaaGreat.k Go.Proofs.YtijlccblabadaaaGreat.rr Go.Proofs.YtijlccblabadaaaGreat.ax
open Go.Proofs.YtijlccblabadaaaGreat.ln (C RdC RdI iC cC cV lnV)
set_option linter.unusedVariables false
set_option maxRecDepth 100000
set_option maxHeartbeats 16000000 in
theorem aright_any (a : Ax) (hw : WideA a) {S N W : Sl} {B : Nat} {w : World} (h : RdA w B a S N W) (hB : B ≤ w.heap.size) {b : Bool} (hb : rightB a = b) :
  Calls Tryz.prog 14 #[axV a S N W] w fun e w' => e = .returned (.bool b) ∧ Below w.heap.size w w' := by
 have yes : RightA a → Ending.returned (.bool true) = .returned (.bool b) := fun h => by rw [← hb, rightB_yes h]
 have no : ¬ RightA a → Ending.returned (.bool false) = .returned (.bool b) := fun h => by rw [← hb, rightB_no h]
 have RI := right_iff a
 obtain ⟨x1, x2, x3⟩ := k.boxes1 (w := w) (c1 := axA a S N W) (t1 := 35) (Below.refl _ _)
 have X1 : Hid (k.Box _ w.heap.size 0 (axC a S N W)) := lh x1
 have HB := lh x2
 clear x1 x2 hb
 obtain ⟨c1, hc1⟩ : ∃ z, decide (0 ≤ a.st ∧ a.st ≤ 7) = z := ⟨_, rfl⟩
 obtain ⟨c2, hc2⟩ : ∃ z, decide (MadeP a.l a.win a.homeAt a.fast a.creep) = z := ⟨_, rfl⟩
 obtain ⟨c3, hc3⟩ : ∃ z, gn.safeP (bounds a) a.p a.v = z := ⟨_, rfl⟩
 obtain ⟨c4, hc4⟩ : ∃ z, @decide (winP a) (Classical.propDecidable _) = z := ⟨_, rfl⟩
 obtain ⟨c5, hc5⟩ : ∃ z, ln.rightL a.N a.W = z := ⟨_, rfl⟩
 obtain ⟨c6, hc6⟩ : ∃ z, lineB a = z := ⟨_, rfl⟩
 obtain ⟨c7, hc7⟩ : ∃ z, hm.rightH a.h = z := ⟨_, rfl⟩
 obtain ⟨c8, hc8⟩ : ∃ z, decide (0 ≤ a.ov ∧ a.ov ≤ 100) = z := ⟨_, rfl⟩
 obtain ⟨c9, hc9⟩ : ∃ z, decide (FarP a.off) = z := ⟨_, rfl⟩
 have K1 := lh fun U => wint_any hc1 U
 have K2 := lh fun U => makes_any a.l a.win a.homeAt a.fast a.creep ⟨hw.V, hw.A, hw.D, hw.lo, hw.hi⟩ hc2 U
 have KB := lh fun U => bounds_any a S N W U
 have K3 : Hid (c2 = true → ∀ U, Calls Tryz.prog 31 #[lmV (bounds a), .agg #[.int .i64 a.p, .int .i64 a.v]] U fun e w' => e = .returned (.bool c3) ∧ Below U.heap.size U w') := lh fun h2 U => by
  have hm := of_decide_eq_true (hc2.trans h2)
  have := gn.safe_any (bounds a) (bounds_right hm.1) a.p a.v hw.p hw.v U
  rw [hc3] at this
  exact this
 have K4 := lh fun (U : World) (hb : Below w.heap.size w U) => window_any a (h.below (hb.mono hB)) (Nat.le_trans hB hb.size) hw.p (b := c4) (by rw [← hc4]; exact (@decide_eq_true_iff _ (Classical.propDecidable _)).symm)
 have K5 := fun (U : World) (hb : Below w.heap.size w U) => ln.right_free a.N a.W (h.N.below (hb.mono hB)) (h.W.below (hb.mono hB)) (Nat.le_trans hB hb.size)
 rw [hc5] at K5
 have K5 := lh K5
 have K6 : Hid (c2 = true → ∀ U, Below w.heap.size w U → Calls Tryz.prog 34 #[axV a S N W] U fun e w' => e = .returned (.bool c6) ∧ Below U.heap.size U w') := lh fun h2 U hb => by
  have hm := of_decide_eq_true (hc2.trans h2)
  exact line_any a (h.below (hb.mono hB)) (Nat.le_trans hB hb.size) (by have := hm.1.1; omega) hm.1.2.1 hc6
 have K7 := fun U => hm.right_any a.h U
 rw [hc7] at K7
 unfold hm.hV at K7
 have K7 := lh K7
 have K8 := lh fun U => wint_any hc8 U
 have K9 := lh fun U => isoff_any hc9 U
 have f3 : c2 = true → (c3 = true ↔ gn.SafeP (bounds a) a.p a.v) := fun h2 => by
  have hm := of_decide_eq_true (hc2.trans h2)
  rw [← hc3]
  unfold gn.safeP
  rw [decide_eq_true_eq]
  exact ⟨fun h => h.2, fun h => ⟨bounds_right hm.1, h⟩⟩
 have f6 : c1 = true → c2 = true → c5 = true → (c6 = true ↔ LinedP a) := fun h1 h2 h5 => by
  have hm := of_decide_eq_true (hc2.trans h2)
  have hs := of_decide_eq_true (hc1.trans h1)
  rw [← hc6]
  exact lined_iff (of_decide_eq_true (hc5.trans h5)) hs.1 hs.2 hm.1.1
 have i1 : c1 = true ↔ (0 ≤ a.st ∧ a.st ≤ 7) := by rw [← hc1]; exact decide_eq_true_iff
 have i2 : c2 = true ↔ MadeP a.l a.win a.homeAt a.fast a.creep := by rw [← hc2]; exact decide_eq_true_iff
 have i4 : c4 = true ↔ winP a := by rw [← hc4]; exact @decide_eq_true_iff _ (Classical.propDecidable _)
 have i5 : c5 = true ↔ ln.RightL a.N a.W := by rw [← hc5]; exact decide_eq_true_iff
 have i7 : c7 = true ↔ hm.RightH a.h := by rw [← hc7]; exact decide_eq_true_iff
 have i8 : c8 = true ↔ (0 ≤ a.ov ∧ a.ov ≤ 100) := by rw [← hc8]; exact decide_eq_true_iff
 have i9 : c9 = true ↔ FarP a.off := by rw [← hc9]; exact decide_eq_true_iff
 have HI := lh (And.intro i1 (And.intro i2 (And.intro f3 (And.intro i4 (And.intro i5 (And.intro f6 (And.intro i7 (And.intro i8 i9))))))))
 have HRI := lh RI
 have HY := lh yes
 have HNO := lh no
 clear i1 i2 f3 i4 i5 f6 i7 i8 i9 RI yes no hc1 hc2 hc3 hc4 hc5 hc6 hc7 hc8 hc9 h hB hw
 go_enter Tryz.func14, Tryz.ntmps14
 go_upto_region 1 with fail
 generalize w.alloc (.cells (axA a S N W) 35) = w2 at X1 HB x3 ⊢
 have ⟨d0, d0f⟩ := k.cell_of X1.out (i := 0) rfl
 have ⟨d1, d1f⟩ := k.cell_of X1.out (i := 1) rfl
 have ⟨d2, d2f⟩ := k.cell_of X1.out (i := 2) rfl
 have ⟨d3, d3f⟩ := k.cell_of X1.out (i := 3) rfl
 have ⟨d4, d4f⟩ := k.cell_of X1.out (i := 4) rfl
 have ⟨d5, d5f⟩ := k.cell_of X1.out (i := 5) rfl
 have ⟨d6, d6f⟩ := k.cell_of X1.out (i := 6) rfl
 have ⟨d7, d7f⟩ := k.cell_of X1.out (i := 7) rfl
 have ⟨d8, d8f⟩ := k.cell_of X1.out (i := 8) rfl
 have ⟨d9, d9f⟩ := k.cell_of X1.out (i := 9) rfl
 have ⟨d10, d10f⟩ := k.cell_of X1.out (i := 10) rfl
 have ⟨d11, d11f⟩ := k.cell_of X1.out (i := 11) rfl
 have ⟨d13, d13f⟩ := k.cell_of X1.out (i := 13) rfl
 have ⟨d14, d14f⟩ := k.cell_of X1.out (i := 14) rfl
 have ⟨d15, d15f⟩ := k.cell_of X1.out (i := 15) rfl
 have ⟨d17, d17f⟩ := k.cell_of X1.out (i := 17) rfl
 have ⟨d18, d18f⟩ := k.cell_of X1.out (i := 18) rfl
 have ⟨d19, d19f⟩ := k.cell_of X1.out (i := 19) rfl
 have ⟨d20, d20f⟩ := k.cell_of X1.out (i := 20) rfl
 have ⟨d21, d21f⟩ := k.cell_of X1.out (i := 21) rfl
 refine wp_region_T (by kernel_rfl) (fun w' => Below w2.heap.size w2 w') [] (Below.refl _ _).drew (fun hHeld => ?_)
 refine tk0 0 rfl ?_ ?_ ?_
 rotate_left
 ·intro; go_simp <;> with_reducible rfl
 try simp only [Act.put, p1, p2, p3, p4, p6]
 refine tk 1 rfl ?_ ?_ ?_
 rotate_left
 ·intro w_ hSw; have q0 := (hSw.cell (p := ⟨w.heap.size, 0, none⟩) x3).trans d0; clear hSw; go_simp <;> (with_reducible rfl)
 try simp only [Act.put, p1, p2, p3, p4, p5, p6]
 refine ry [2] ?_
 refine ar1 rfl fun K hK => ?_
 go_simp
 (go_at_call 30; ((with_reducible refine (K1.out _).mono ?_); rintro e w99 ⟨rfl, rfl⟩))
 go_wp2_with fail
 refine hK.out _ _ hHeld (fun hHeld => ?_)
 clear hK K
 try simp only [Act.put, p1, p2, p3, p4, p5, p6]
 refine tk0 3 rfl ?_ ?_ ?_
 rotate_left
 ·intro; go_simp <;> with_reducible rfl
 try simp only [Act.put, p1, p2, p3, p4, p5, p6]
 cases c1
 ·skip
  refine tks 4 rfl ?_
  try simp only [Act.put, p1, p2, p3, p4, p5, p6]
  refine tks 5 rfl ?_
  try simp only [Act.put, p1, p2, p3, p4, p5, p6]
  refine tks 6 rfl ?_
  try simp only [Act.put, p1, p2, p3, p4, p5, p6]
  refine tks 7 rfl ?_
  try simp only [Act.put, p1, p2, p3, p4, p5, p6]
  refine tks 8 rfl ?_
  try simp only [Act.put, p1, p2, p3, p4, p5, p6]
  refine tks 9 rfl ?_
  try simp only [Act.put, p1, p2, p3, p4, p5, p6]
  refine tks 10 rfl ?_
  try simp only [Act.put, p1, p2, p3, p4, p5, p6]
  refine tks 11 rfl ?_
  try simp only [Act.put, p1, p2, p3, p4, p5, p6]
  refine tks 12 rfl ?_
  try simp only [Act.put, p1, p2, p3, p4, p5, p6]
  refine tks 13 rfl ?_
  try simp only [Act.put, p1, p2, p3, p4, p5, p6]
  refine tks 14 rfl ?_
  try simp only [Act.put, p1, p2, p3, p4, p5, p6]
  refine tk0 15 rfl ?_ ?_ ?_
  rotate_left
  ·intro; go_simp <;> with_reducible rfl
  try simp only [Act.put, p1, p2, p3, p4, p5, p6]
  refine tk0 16 rfl ?_ ?_ ?_
  rotate_left
  ·intro; go_simp <;> with_reducible rfl
  try simp only [Act.put, p1, p2, p3, p4, p5, p6]
  refine tks 17 rfl ?_
  try simp only [Act.put, p1, p2, p3, p4, p5, p6]
  refine tks 18 rfl ?_
  try simp only [Act.put, p1, p2, p3, p4, p5, p6]
  refine tks 19 rfl ?_
  try simp only [Act.put, p1, p2, p3, p4, p5, p6]
  refine tks 20 rfl ?_
  try simp only [Act.put, p1, p2, p3, p4, p5, p6]
  refine tks 21 rfl ?_
  try simp only [Act.put, p1, p2, p3, p4, p5, p6]
  refine tk0 22 rfl ?_ ?_ ?_
  rotate_left
  ·intro; go_simp <;> with_reducible rfl
  try simp only [Act.put, p1, p2, p3, p4, p5, p6]
  refine tk0 23 rfl ?_ ?_ ?_
  rotate_left
  ·intro; go_simp <;> with_reducible rfl
  try simp only [Act.put, p1, p2, p3, p4, p5, p6]
  refine tks 24 rfl ?_
  try simp only [Act.put, p1, p2, p3, p4, p5, p6]
  refine tks 25 rfl ?_
  try simp only [Act.put, p1, p2, p3, p4, p5, p6]
  refine tk0 26 rfl ?_ ?_ ?_
  rotate_left
  ·intro; go_simp <;> with_reducible rfl
  try simp only [Act.put, p1, p2, p3, p4, p5, p6]
  refine tk0 27 rfl ?_ ?_ ?_
  rotate_left
  ·intro; go_simp <;> with_reducible rfl
  try simp only [Act.put, p1, p2, p3, p4, p5, p6]
  refine tks 28 rfl ?_
  try simp only [Act.put, p1, p2, p3, p4, p5, p6]
  refine tks 29 rfl ?_
  try simp only [Act.put, p1, p2, p3, p4, p5, p6]
  refine tks 30 rfl ?_
  try simp only [Act.put, p1, p2, p3, p4, p5, p6]
  refine tk0 31 rfl ?_ ?_ ?_
  rotate_left
  ·intro; go_simp <;> with_reducible rfl
  try simp only [Act.put, p1, p2, p3, p4, p5, p6]
  refine tk0 32 rfl ?_ ?_ ?_
  rotate_left
  ·intro; go_simp <;> with_reducible rfl
  try simp only [Act.put, p1, p2, p3, p4, p5, p6]
  refine tks 33 rfl ?_
  try simp only [Act.put, p1, p2, p3, p4, p5, p6]
  refine tks 34 rfl ?_
  try simp only [Act.put, p1, p2, p3, p4, p5, p6]
  refine tk0 35 rfl ?_ ?_ ?_
  rotate_left
  ·intro; go_simp <;> with_reducible rfl
  try simp only [Act.put, p1, p2, p3, p4, p5, p6]
  refine tk0 36 rfl ?_ ?_ ?_
  rotate_left
  ·intro; go_simp <;> with_reducible rfl
  try simp only [Act.put, p1, p2, p3, p4, p5, p6]
  refine tks 37 rfl ?_
  try simp only [Act.put, p1, p2, p3, p4, p5, p6]
  refine tks 38 rfl ?_
  try simp only [Act.put, p1, p2, p3, p4, p5, p6]
  refine tks 39 rfl ?_
  try simp only [Act.put, p1, p2, p3, p4, p5, p6]
  refine tks 40 rfl ?_
  try simp only [Act.put, p1, p2, p3, p4, p5, p6]
  refine tks 41 rfl ?_
  try simp only [Act.put, p1, p2, p3, p4, p5, p6]
  refine tks 42 rfl ?_
  try simp only [Act.put, p1, p2, p3, p4, p5, p6]
  refine tks 43 rfl ?_
  try simp only [Act.put, p1, p2, p3, p4, p5, p6]
  refine tks 44 rfl ?_
  try simp only [Act.put, p1, p2, p3, p4, p5, p6]
  refine tk0 45 rfl ?_ ?_ ?_
  rotate_left
  ·intro; go_simp <;> with_reducible rfl
  try simp only [Act.put, p1, p2, p3, p4, p5, p6]
  refine tk0 46 rfl ?_ ?_ ?_
  rotate_left
  ·intro; go_simp <;> with_reducible rfl
  try simp only [Act.put, p1, p2, p3, p4, p5, p6]
  refine tks 47 rfl ?_
  try simp only [Act.put, p1, p2, p3, p4, p5, p6]
  refine tks 48 rfl ?_
  try simp only [Act.put, p1, p2, p3, p4, p5, p6]
  refine tks 49 rfl ?_
  try simp only [Act.put, p1, p2, p3, p4, p5, p6]
  refine tk0 50 rfl ?_ ?_ ?_
  rotate_left
  ·intro; go_simp <;> with_reducible rfl
  try simp only [Act.put, p1, p2, p3, p4, p5, p6]
  refine tk0 51 rfl ?_ ?_ ?_
  rotate_left
  ·intro; go_simp <;> with_reducible rfl
  try simp only [Act.put, p1, p2, p3, p4, p5, p6]
  refine tks 52 rfl ?_
  try simp only [Act.put, p1, p2, p3, p4, p5, p6]
  refine tks 53 rfl ?_
  try simp only [Act.put, p1, p2, p3, p4, p5, p6]
  refine tks 54 rfl ?_
  try simp only [Act.put, p1, p2, p3, p4, p5, p6]
  refine tk0 55 rfl ?_ ?_ ?_
  rotate_left
  ·intro; go_simp <;> with_reducible rfl
  try simp only [Act.put, p1, p2, p3, p4, p5, p6]
  refine tk0 56 rfl ?_ ?_ ?_
  rotate_left
  ·intro; go_simp <;> with_reducible rfl
  try simp only [Act.put, p1, p2, p3, p4, p5, p6]
  refine wpAnyT_done (by kernel_rfl) ?_ _
  have HF := lh (HNO.out fun hr => by have hq := HRI.out.1 hr; have hi := HI.out; exact absurd (hi.1.2 hq.1) (by simp))
  clear HI HRI HY HNO
  go_wp2
  go_ret
  exact ⟨HF.out, HB.out.trans ((((Below.refl w2.heap.size w2).drew)).mono HB.out.size)⟩
 refine tk0 4 rfl ?_ ?_ ?_
 rotate_left
 ·intro; go_simp <;> with_reducible rfl
 try simp only [Act.put, p1, p2, p3, p4, p5, p6]
 refine tk 5 rfl ?_ ?_ ?_
 rotate_left
 ·intro w_ hSw; have q0 := (hSw.cell (p := ⟨w.heap.size, 1, none⟩) x3).trans d1; have q1 := (hSw.cell (p := ⟨w.heap.size, 2, none⟩) x3).trans d2; have q2 := (hSw.cell (p := ⟨w.heap.size, 3, none⟩) x3).trans d3; have q3 := (hSw.cell (p := ⟨w.heap.size, 4, none⟩) x3).trans d4; have q4 := (hSw.cell (p := ⟨w.heap.size, 5, none⟩) x3).trans d5; clear hSw; go_simp <;> (with_reducible rfl)
 try simp only [Act.put, p1, p2, p3, p4, p5, p6]
 refine tk0 6 rfl ?_ ?_ ?_
 rotate_left
 ·intro; go_simp <;> with_reducible rfl
 try simp only [Act.put, p1, p2, p3, p4, p5, p6]
 refine tk 7 rfl ?_ ?_ ?_
 rotate_left
 ·intro w_ hSw; have q0 := (hSw.cell (p := ⟨w.heap.size, 6, none⟩) x3).trans d6; clear hSw; go_simp <;> (with_reducible rfl)
 try simp only [Act.put, p1, p2, p3, p4, p5, p6]
 refine tk0 8 rfl ?_ ?_ ?_
 rotate_left
 ·intro; go_simp <;> with_reducible rfl
 try simp only [Act.put, p1, p2, p3, p4, p5, p6]
 refine tk 9 rfl ?_ ?_ ?_
 rotate_left
 ·intro w_ hSw; have q0 := (hSw.cell (p := ⟨w.heap.size, 7, none⟩) x3).trans d7; clear hSw; go_simp <;> (with_reducible rfl)
 try simp only [Act.put, p1, p2, p3, p4, p5, p6]
 refine tk0 10 rfl ?_ ?_ ?_
 rotate_left
 ·intro; go_simp <;> with_reducible rfl
 try simp only [Act.put, p1, p2, p3, p4, p5, p6]
 refine tk 11 rfl ?_ ?_ ?_
 rotate_left
 ·intro w_ hSw; have q0 := (hSw.cell (p := ⟨w.heap.size, 8, none⟩) x3).trans d8; clear hSw; go_simp <;> (with_reducible rfl)
 try simp only [Act.put, p1, p2, p3, p4, p5, p6]
 refine tk0 12 rfl ?_ ?_ ?_
 rotate_left
 ·intro; go_simp <;> with_reducible rfl
 try simp only [Act.put, p1, p2, p3, p4, p5, p6]
 refine tk 13 rfl ?_ ?_ ?_
 rotate_left
 ·intro w_ hSw; have q0 := (hSw.cell (p := ⟨w.heap.size, 9, none⟩) x3).trans d9; clear hSw; go_simp <;> (with_reducible rfl)
 try simp only [Act.put, p1, p2, p3, p4, p5, p6]
 refine ry [14] ?_
 refine ar1 rfl fun K hK => ?_
 go_simp
 (go_at_call 24; ((with_reducible refine (K2.out _).mono ?_); rintro e w101 ⟨rfl, hb0⟩))
 go_wp2_with fail
 have hq1 := (((Below.refl w2.heap.size w2).drew)).trans (hb0.mono (((Below.refl w2.heap.size w2).drew)).size)
 clear hb0
 refine hK.out _ _ hq1 (fun hHeld => ?_)
 clear hK K
 try simp only [Act.put, p1, p2, p3, p4, p5, p6]
 refine tk0 15 rfl ?_ ?_ ?_
 rotate_left
 ·intro; go_simp <;> with_reducible rfl
 try simp only [Act.put, p1, p2, p3, p4, p5, p6]
 refine tk0 16 rfl ?_ ?_ ?_
 rotate_left
 ·intro; go_simp <;> with_reducible rfl
 try simp only [Act.put, p1, p2, p3, p4, p5, p6]
 cases c2
 ·skip
  refine tks 17 rfl ?_
  try simp only [Act.put, p1, p2, p3, p4, p5, p6]
  refine tks 18 rfl ?_
  try simp only [Act.put, p1, p2, p3, p4, p5, p6]
  refine tks 19 rfl ?_
  try simp only [Act.put, p1, p2, p3, p4, p5, p6]
  refine tks 20 rfl ?_
  try simp only [Act.put, p1, p2, p3, p4, p5, p6]
  refine tks 21 rfl ?_
  try simp only [Act.put, p1, p2, p3, p4, p5, p6]
  refine tk0 22 rfl ?_ ?_ ?_
  rotate_left
  ·intro; go_simp <;> with_reducible rfl
  try simp only [Act.put, p1, p2, p3, p4, p5, p6]
  refine tk0 23 rfl ?_ ?_ ?_
  rotate_left
  ·intro; go_simp <;> with_reducible rfl
  try simp only [Act.put, p1, p2, p3, p4, p5, p6]
  refine tks 24 rfl ?_
  try simp only [Act.put, p1, p2, p3, p4, p5, p6]
  refine tks 25 rfl ?_
  try simp only [Act.put, p1, p2, p3, p4, p5, p6]
  refine tk0 26 rfl ?_ ?_ ?_
  rotate_left
  ·intro; go_simp <;> with_reducible rfl
  try simp only [Act.put, p1, p2, p3, p4, p5, p6]
  refine tk0 27 rfl ?_ ?_ ?_
  rotate_left
  ·intro; go_simp <;> with_reducible rfl
  try simp only [Act.put, p1, p2, p3, p4, p5, p6]
  refine tks 28 rfl ?_
  try simp only [Act.put, p1, p2, p3, p4, p5, p6]
  refine tks 29 rfl ?_
  try simp only [Act.put, p1, p2, p3, p4, p5, p6]
  refine tks 30 rfl ?_
  try simp only [Act.put, p1, p2, p3, p4, p5, p6]
  refine tk0 31 rfl ?_ ?_ ?_
  rotate_left
  ·intro; go_simp <;> with_reducible rfl
  try simp only [Act.put, p1, p2, p3, p4, p5, p6]
  refine tk0 32 rfl ?_ ?_ ?_
  rotate_left
  ·intro; go_simp <;> with_reducible rfl
  try simp only [Act.put, p1, p2, p3, p4, p5, p6]
  refine tks 33 rfl ?_
  try simp only [Act.put, p1, p2, p3, p4, p5, p6]
  refine tks 34 rfl ?_
  try simp only [Act.put, p1, p2, p3, p4, p5, p6]
  refine tk0 35 rfl ?_ ?_ ?_
  rotate_left
  ·intro; go_simp <;> with_reducible rfl
  try simp only [Act.put, p1, p2, p3, p4, p5, p6]
  refine tk0 36 rfl ?_ ?_ ?_
  rotate_left
  ·intro; go_simp <;> with_reducible rfl
  try simp only [Act.put, p1, p2, p3, p4, p5, p6]
  refine tks 37 rfl ?_
  try simp only [Act.put, p1, p2, p3, p4, p5, p6]
  refine tks 38 rfl ?_
  try simp only [Act.put, p1, p2, p3, p4, p5, p6]
  refine tks 39 rfl ?_
  try simp only [Act.put, p1, p2, p3, p4, p5, p6]
  refine tks 40 rfl ?_
  try simp only [Act.put, p1, p2, p3, p4, p5, p6]
  refine tks 41 rfl ?_
  try simp only [Act.put, p1, p2, p3, p4, p5, p6]
  refine tks 42 rfl ?_
  try simp only [Act.put, p1, p2, p3, p4, p5, p6]
  refine tks 43 rfl ?_
  try simp only [Act.put, p1, p2, p3, p4, p5, p6]
  refine tks 44 rfl ?_
  try simp only [Act.put, p1, p2, p3, p4, p5, p6]
  refine tk0 45 rfl ?_ ?_ ?_
  rotate_left
  ·intro; go_simp <;> with_reducible rfl
  try simp only [Act.put, p1, p2, p3, p4, p5, p6]
  refine tk0 46 rfl ?_ ?_ ?_
  rotate_left
  ·intro; go_simp <;> with_reducible rfl
  try simp only [Act.put, p1, p2, p3, p4, p5, p6]
  refine tks 47 rfl ?_
  try simp only [Act.put, p1, p2, p3, p4, p5, p6]
  refine tks 48 rfl ?_
  try simp only [Act.put, p1, p2, p3, p4, p5, p6]
  refine tks 49 rfl ?_
  try simp only [Act.put, p1, p2, p3, p4, p5, p6]
  refine tk0 50 rfl ?_ ?_ ?_
  rotate_left
  ·intro; go_simp <;> with_reducible rfl
  try simp only [Act.put, p1, p2, p3, p4, p5, p6]
  refine tk0 51 rfl ?_ ?_ ?_
  rotate_left
  ·intro; go_simp <;> with_reducible rfl
  try simp only [Act.put, p1, p2, p3, p4, p5, p6]
  refine tks 52 rfl ?_
  try simp only [Act.put, p1, p2, p3, p4, p5, p6]
  refine tks 53 rfl ?_
  try simp only [Act.put, p1, p2, p3, p4, p5, p6]
  refine tks 54 rfl ?_
  try simp only [Act.put, p1, p2, p3, p4, p5, p6]
  refine tk0 55 rfl ?_ ?_ ?_
  rotate_left
  ·intro; go_simp <;> with_reducible rfl
  try simp only [Act.put, p1, p2, p3, p4, p5, p6]
  refine tk0 56 rfl ?_ ?_ ?_
  rotate_left
  ·intro; go_simp <;> with_reducible rfl
  try simp only [Act.put, p1, p2, p3, p4, p5, p6]
  refine wpAnyT_done (by kernel_rfl) ?_ _
  have HF := lh (HNO.out fun hr => by have hq := HRI.out.1 hr; have hi := HI.out; exact absurd (hi.2.1.2 hq.2.1) (by simp))
  clear HI HRI HY HNO
  go_wp2
  go_ret
  exact ⟨HF.out, HB.out.trans ((hq1).mono HB.out.size)⟩
 refine tkv 17 rfl (axV a S N W) (by exact m_y_ax X1.out x3 1 rfl rfl rfl) ?_
 try simp only [Act.put, p1, p2, p3, p4, p5, p6]
 refine tk0 19 rfl ?_ ?_ ?_
 rotate_left
 ·intro; go_simp <;> with_reducible rfl
 try simp only [Act.put, p1, p2, p3, p4, p5, p6]
 refine tk 20 rfl ?_ ?_ ?_
 rotate_left
 ·intro w_ hSw; have q0 := (hSw.cell (p := ⟨w.heap.size, 10, none⟩) x3).trans d10; have q1 := (hSw.cell (p := ⟨w.heap.size, 11, none⟩) x3).trans d11; clear hSw; go_simp <;> (with_reducible rfl)
 try simp only [Act.put, p1, p2, p3, p4, p5, p6]
 refine ry [18] ?_
 refine ar1 rfl fun K hK => ?_
 go_simp
 (go_at_call 17; ((with_reducible refine (KB.out _).mono ?_); rintro e w102 ⟨rfl, hb0⟩))
 go_wp2_with fail
 have hq2 := (hq1).trans (hb0.mono (hq1).size)
 clear hb0
 refine hK.out _ _ hq2 (fun hHeld => ?_)
 clear hK K
 try simp only [Act.put, p1, p2, p3, p4, p5, p6]
 refine ry [21] ?_
 refine ar1 rfl fun K hK => ?_
 go_simp
 (go_at_call 31; ((with_reducible refine (K3.out (by first | rfl | trivial) _).mono ?_); rintro e w103 ⟨rfl, hb0⟩))
 go_wp2_with fail
 have hq3 := (hq2).trans (hb0.mono (hq2).size)
 clear hb0
 refine hK.out _ _ hq3 (fun hHeld => ?_)
 clear hK K
 try simp only [Act.put, p1, p2, p3, p4, p5, p6]
 refine tk0 22 rfl ?_ ?_ ?_
 rotate_left
 ·intro; go_simp <;> with_reducible rfl
 try simp only [Act.put, p1, p2, p3, p4, p5, p6]
 refine tk0 23 rfl ?_ ?_ ?_
 rotate_left
 ·intro; go_simp <;> with_reducible rfl
 try simp only [Act.put, p1, p2, p3, p4, p5, p6]
 cases c3
 ·skip
  refine tks 24 rfl ?_
  try simp only [Act.put, p1, p2, p3, p4, p5, p6]
  refine tks 25 rfl ?_
  try simp only [Act.put, p1, p2, p3, p4, p5, p6]
  refine tk0 26 rfl ?_ ?_ ?_
  rotate_left
  ·intro; go_simp <;> with_reducible rfl
  try simp only [Act.put, p1, p2, p3, p4, p5, p6]
  refine tk0 27 rfl ?_ ?_ ?_
  rotate_left
  ·intro; go_simp <;> with_reducible rfl
  try simp only [Act.put, p1, p2, p3, p4, p5, p6]
  refine tks 28 rfl ?_
  try simp only [Act.put, p1, p2, p3, p4, p5, p6]
  refine tks 29 rfl ?_
  try simp only [Act.put, p1, p2, p3, p4, p5, p6]
  refine tks 30 rfl ?_
  try simp only [Act.put, p1, p2, p3, p4, p5, p6]
  refine tk0 31 rfl ?_ ?_ ?_
  rotate_left
  ·intro; go_simp <;> with_reducible rfl
  try simp only [Act.put, p1, p2, p3, p4, p5, p6]
  refine tk0 32 rfl ?_ ?_ ?_
  rotate_left
  ·intro; go_simp <;> with_reducible rfl
  try simp only [Act.put, p1, p2, p3, p4, p5, p6]
  refine tks 33 rfl ?_
  try simp only [Act.put, p1, p2, p3, p4, p5, p6]
  refine tks 34 rfl ?_
  try simp only [Act.put, p1, p2, p3, p4, p5, p6]
  refine tk0 35 rfl ?_ ?_ ?_
  rotate_left
  ·intro; go_simp <;> with_reducible rfl
  try simp only [Act.put, p1, p2, p3, p4, p5, p6]
  refine tk0 36 rfl ?_ ?_ ?_
  rotate_left
  ·intro; go_simp <;> with_reducible rfl
  try simp only [Act.put, p1, p2, p3, p4, p5, p6]
  refine tks 37 rfl ?_
  try simp only [Act.put, p1, p2, p3, p4, p5, p6]
  refine tks 38 rfl ?_
  try simp only [Act.put, p1, p2, p3, p4, p5, p6]
  refine tks 39 rfl ?_
  try simp only [Act.put, p1, p2, p3, p4, p5, p6]
  refine tks 40 rfl ?_
  try simp only [Act.put, p1, p2, p3, p4, p5, p6]
  refine tks 41 rfl ?_
  try simp only [Act.put, p1, p2, p3, p4, p5, p6]
  refine tks 42 rfl ?_
  try simp only [Act.put, p1, p2, p3, p4, p5, p6]
  refine tks 43 rfl ?_
  try simp only [Act.put, p1, p2, p3, p4, p5, p6]
  refine tks 44 rfl ?_
  try simp only [Act.put, p1, p2, p3, p4, p5, p6]
  refine tk0 45 rfl ?_ ?_ ?_
  rotate_left
  ·intro; go_simp <;> with_reducible rfl
  try simp only [Act.put, p1, p2, p3, p4, p5, p6]
  refine tk0 46 rfl ?_ ?_ ?_
  rotate_left
  ·intro; go_simp <;> with_reducible rfl
  try simp only [Act.put, p1, p2, p3, p4, p5, p6]
  refine tks 47 rfl ?_
  try simp only [Act.put, p1, p2, p3, p4, p5, p6]
  refine tks 48 rfl ?_
  try simp only [Act.put, p1, p2, p3, p4, p5, p6]
  refine tks 49 rfl ?_
  try simp only [Act.put, p1, p2, p3, p4, p5, p6]
  refine tk0 50 rfl ?_ ?_ ?_
  rotate_left
  ·intro; go_simp <;> with_reducible rfl
  try simp only [Act.put, p1, p2, p3, p4, p5, p6]
  refine tk0 51 rfl ?_ ?_ ?_
  rotate_left
  ·intro; go_simp <;> with_reducible rfl
  try simp only [Act.put, p1, p2, p3, p4, p5, p6]
  refine tks 52 rfl ?_
  try simp only [Act.put, p1, p2, p3, p4, p5, p6]
  refine tks 53 rfl ?_
  try simp only [Act.put, p1, p2, p3, p4, p5, p6]
  refine tks 54 rfl ?_
  try simp only [Act.put, p1, p2, p3, p4, p5, p6]
  refine tk0 55 rfl ?_ ?_ ?_
  rotate_left
  ·intro; go_simp <;> with_reducible rfl
  try simp only [Act.put, p1, p2, p3, p4, p5, p6]
  refine tk0 56 rfl ?_ ?_ ?_
  rotate_left
  ·intro; go_simp <;> with_reducible rfl
  try simp only [Act.put, p1, p2, p3, p4, p5, p6]
  refine wpAnyT_done (by kernel_rfl) ?_ _
  have HF := lh (HNO.out fun hr => by have hq := HRI.out.1 hr; have hi := HI.out; exact absurd ((hi.2.2.1 (by first | rfl | trivial)).2 hq.2.2.1) (by simp))
  clear HI HRI HY HNO
  go_wp2
  go_ret
  exact ⟨HF.out, HB.out.trans ((hq3).mono HB.out.size)⟩
 refine tkv 24 rfl (axV a S N W) (by exact m_y_ax X1.out x3 1 rfl rfl rfl) ?_
 try simp only [Act.put, p1, p2, p3, p4, p5, p6]
 refine ry [25] ?_
 refine ar1 rfl fun K hK => ?_
 go_simp
 (go_at_call 32; ((with_reducible refine (K4.out _ (HB.out.trans ((hq3).mono HB.out.size))).mono ?_); rintro e w104 ⟨rfl, hb0⟩))
 go_wp2_with fail
 have hq4 := (hq3).trans (hb0.mono (hq3).size)
 clear hb0
 refine hK.out _ _ hq4 (fun hHeld => ?_)
 clear hK K
 try simp only [Act.put, p1, p2, p3, p4, p5, p6]
 refine tk0 26 rfl ?_ ?_ ?_
 rotate_left
 ·intro; go_simp <;> with_reducible rfl
 try simp only [Act.put, p1, p2, p3, p4, p5, p6]
 refine tk0 27 rfl ?_ ?_ ?_
 rotate_left
 ·intro; go_simp <;> with_reducible rfl
 try simp only [Act.put, p1, p2, p3, p4, p5, p6]
 cases c4
 ·skip
  refine tks 28 rfl ?_
  try simp only [Act.put, p1, p2, p3, p4, p5, p6]
  refine tks 29 rfl ?_
  try simp only [Act.put, p1, p2, p3, p4, p5, p6]
  refine tks 30 rfl ?_
  try simp only [Act.put, p1, p2, p3, p4, p5, p6]
  refine tk0 31 rfl ?_ ?_ ?_
  rotate_left
  ·intro; go_simp <;> with_reducible rfl
  try simp only [Act.put, p1, p2, p3, p4, p5, p6]
  refine tk0 32 rfl ?_ ?_ ?_
  rotate_left
  ·intro; go_simp <;> with_reducible rfl
  try simp only [Act.put, p1, p2, p3, p4, p5, p6]
  refine tks 33 rfl ?_
  try simp only [Act.put, p1, p2, p3, p4, p5, p6]
  refine tks 34 rfl ?_
  try simp only [Act.put, p1, p2, p3, p4, p5, p6]
  refine tk0 35 rfl ?_ ?_ ?_
  rotate_left
  ·intro; go_simp <;> with_reducible rfl
  try simp only [Act.put, p1, p2, p3, p4, p5, p6]
  refine tk0 36 rfl ?_ ?_ ?_
  rotate_left
  ·intro; go_simp <;> with_reducible rfl
  try simp only [Act.put, p1, p2, p3, p4, p5, p6]
  refine tks 37 rfl ?_
  try simp only [Act.put, p1, p2, p3, p4, p5, p6]
  refine tks 38 rfl ?_
  try simp only [Act.put, p1, p2, p3, p4, p5, p6]
  refine tks 39 rfl ?_
  try simp only [Act.put, p1, p2, p3, p4, p5, p6]
  refine tks 40 rfl ?_
  try simp only [Act.put, p1, p2, p3, p4, p5, p6]
  refine tks 41 rfl ?_
  try simp only [Act.put, p1, p2, p3, p4, p5, p6]
  refine tks 42 rfl ?_
  try simp only [Act.put, p1, p2, p3, p4, p5, p6]
  refine tks 43 rfl ?_
  try simp only [Act.put, p1, p2, p3, p4, p5, p6]
  refine tks 44 rfl ?_
  try simp only [Act.put, p1, p2, p3, p4, p5, p6]
  refine tk0 45 rfl ?_ ?_ ?_
  rotate_left
  ·intro; go_simp <;> with_reducible rfl
  try simp only [Act.put, p1, p2, p3, p4, p5, p6]
  refine tk0 46 rfl ?_ ?_ ?_
  rotate_left
  ·intro; go_simp <;> with_reducible rfl
  try simp only [Act.put, p1, p2, p3, p4, p5, p6]
  refine tks 47 rfl ?_
  try simp only [Act.put, p1, p2, p3, p4, p5, p6]
  refine tks 48 rfl ?_
  try simp only [Act.put, p1, p2, p3, p4, p5, p6]
  refine tks 49 rfl ?_
  try simp only [Act.put, p1, p2, p3, p4, p5, p6]
  refine tk0 50 rfl ?_ ?_ ?_
  rotate_left
  ·intro; go_simp <;> with_reducible rfl
  try simp only [Act.put, p1, p2, p3, p4, p5, p6]
  refine tk0 51 rfl ?_ ?_ ?_
  rotate_left
  ·intro; go_simp <;> with_reducible rfl
  try simp only [Act.put, p1, p2, p3, p4, p5, p6]
  refine tks 52 rfl ?_
  try simp only [Act.put, p1, p2, p3, p4, p5, p6]
  refine tks 53 rfl ?_
  try simp only [Act.put, p1, p2, p3, p4, p5, p6]
  refine tks 54 rfl ?_
  try simp only [Act.put, p1, p2, p3, p4, p5, p6]
  refine tk0 55 rfl ?_ ?_ ?_
  rotate_left
  ·intro; go_simp <;> with_reducible rfl
  try simp only [Act.put, p1, p2, p3, p4, p5, p6]
  refine tk0 56 rfl ?_ ?_ ?_
  rotate_left
  ·intro; go_simp <;> with_reducible rfl
  try simp only [Act.put, p1, p2, p3, p4, p5, p6]
  refine wpAnyT_done (by kernel_rfl) ?_ _
  have HF := lh (HNO.out fun hr => by have hq := HRI.out.1 hr; have hi := HI.out; exact absurd (hi.2.2.2.1.2 hq.2.2.2.1) (by simp))
  clear HI HRI HY HNO
  go_wp2
  go_ret
  exact ⟨HF.out, HB.out.trans ((hq4).mono HB.out.size)⟩
 refine tk0 28 rfl ?_ ?_ ?_
 rotate_left
 ·intro; go_simp <;> with_reducible rfl
 try simp only [Act.put, p1, p2, p3, p4, p5, p6]
 refine tk 29 rfl ?_ ?_ ?_
 rotate_left
 ·intro w_ hSw; have q0 := (hSw.cell (p := ⟨w.heap.size, 14, none⟩) x3).trans d14; have q1 := (hSw.cell (p := ⟨w.heap.size, 15, none⟩) x3).trans d15; clear hSw; go_simp <;> (with_reducible rfl)
 try simp only [Act.put, p1, p2, p3, p4, p5, p6]
 refine ry [30] ?_
 refine ar1 rfl fun K hK => ?_
 go_simp
 (go_at_call 33; ((with_reducible refine (K5.out _ (HB.out.trans ((hq4).mono HB.out.size))).mono ?_); rintro e w105 ⟨rfl, hb0⟩))
 go_wp2_with fail
 have hq5 := (hq4).trans (hb0.mono (hq4).size)
 clear hb0
 refine hK.out _ _ hq5 (fun hHeld => ?_)
 clear hK K
 try simp only [Act.put, p1, p2, p3, p4, p5, p6]
 refine tk0 31 rfl ?_ ?_ ?_
 rotate_left
 ·intro; go_simp <;> with_reducible rfl
 try simp only [Act.put, p1, p2, p3, p4, p5, p6]
 refine tk0 32 rfl ?_ ?_ ?_
 rotate_left
 ·intro; go_simp <;> with_reducible rfl
 try simp only [Act.put, p1, p2, p3, p4, p5, p6]
 cases c5
 ·skip
  refine tks 33 rfl ?_
  try simp only [Act.put, p1, p2, p3, p4, p5, p6]
  refine tks 34 rfl ?_
  try simp only [Act.put, p1, p2, p3, p4, p5, p6]
  refine tk0 35 rfl ?_ ?_ ?_
  rotate_left
  ·intro; go_simp <;> with_reducible rfl
  try simp only [Act.put, p1, p2, p3, p4, p5, p6]
  refine tk0 36 rfl ?_ ?_ ?_
  rotate_left
  ·intro; go_simp <;> with_reducible rfl
  try simp only [Act.put, p1, p2, p3, p4, p5, p6]
  refine tks 37 rfl ?_
  try simp only [Act.put, p1, p2, p3, p4, p5, p6]
  refine tks 38 rfl ?_
  try simp only [Act.put, p1, p2, p3, p4, p5, p6]
  refine tks 39 rfl ?_
  try simp only [Act.put, p1, p2, p3, p4, p5, p6]
  refine tks 40 rfl ?_
  try simp only [Act.put, p1, p2, p3, p4, p5, p6]
  refine tks 41 rfl ?_
  try simp only [Act.put, p1, p2, p3, p4, p5, p6]
  refine tks 42 rfl ?_
  try simp only [Act.put, p1, p2, p3, p4, p5, p6]
  refine tks 43 rfl ?_
  try simp only [Act.put, p1, p2, p3, p4, p5, p6]
  refine tks 44 rfl ?_
  try simp only [Act.put, p1, p2, p3, p4, p5, p6]
  refine tk0 45 rfl ?_ ?_ ?_
  rotate_left
  ·intro; go_simp <;> with_reducible rfl
  try simp only [Act.put, p1, p2, p3, p4, p5, p6]
  refine tk0 46 rfl ?_ ?_ ?_
  rotate_left
  ·intro; go_simp <;> with_reducible rfl
  try simp only [Act.put, p1, p2, p3, p4, p5, p6]
  refine tks 47 rfl ?_
  try simp only [Act.put, p1, p2, p3, p4, p5, p6]
  refine tks 48 rfl ?_
  try simp only [Act.put, p1, p2, p3, p4, p5, p6]
  refine tks 49 rfl ?_
  try simp only [Act.put, p1, p2, p3, p4, p5, p6]
  refine tk0 50 rfl ?_ ?_ ?_
  rotate_left
  ·intro; go_simp <;> with_reducible rfl
  try simp only [Act.put, p1, p2, p3, p4, p5, p6]
  refine tk0 51 rfl ?_ ?_ ?_
  rotate_left
  ·intro; go_simp <;> with_reducible rfl
  try simp only [Act.put, p1, p2, p3, p4, p5, p6]
  refine tks 52 rfl ?_
  try simp only [Act.put, p1, p2, p3, p4, p5, p6]
  refine tks 53 rfl ?_
  try simp only [Act.put, p1, p2, p3, p4, p5, p6]
  refine tks 54 rfl ?_
  try simp only [Act.put, p1, p2, p3, p4, p5, p6]
  refine tk0 55 rfl ?_ ?_ ?_
  rotate_left
  ·intro; go_simp <;> with_reducible rfl
  try simp only [Act.put, p1, p2, p3, p4, p5, p6]
  refine tk0 56 rfl ?_ ?_ ?_
  rotate_left
  ·intro; go_simp <;> with_reducible rfl
  try simp only [Act.put, p1, p2, p3, p4, p5, p6]
  refine wpAnyT_done (by kernel_rfl) ?_ _
  have HF := lh (HNO.out fun hr => by have hq := HRI.out.1 hr; have hi := HI.out; exact absurd (hi.2.2.2.2.1.2 hq.2.2.2.2.1) (by simp))
  clear HI HRI HY HNO
  go_wp2
  go_ret
  exact ⟨HF.out, HB.out.trans ((hq5).mono HB.out.size)⟩
 refine tkv 33 rfl (axV a S N W) (by exact m_y_ax X1.out x3 1 rfl rfl rfl) ?_
 try simp only [Act.put, p1, p2, p3, p4, p5, p6]
 refine ry [34] ?_
 refine ar1 rfl fun K hK => ?_
 go_simp
 (go_at_call 34; ((with_reducible refine (K6.out (by first | rfl | trivial) _ (HB.out.trans ((hq5).mono HB.out.size))).mono ?_); rintro e w106 ⟨rfl, hb0⟩))
 go_wp2_with fail
 have hq6 := (hq5).trans (hb0.mono (hq5).size)
 clear hb0
 refine hK.out _ _ hq6 (fun hHeld => ?_)
 clear hK K
 try simp only [Act.put, p1, p2, p3, p4, p5, p6]
 refine tk0 35 rfl ?_ ?_ ?_
 rotate_left
 ·intro; go_simp <;> with_reducible rfl
 try simp only [Act.put, p1, p2, p3, p4, p5, p6]
 refine tk0 36 rfl ?_ ?_ ?_
 rotate_left
 ·intro; go_simp <;> with_reducible rfl
 try simp only [Act.put, p1, p2, p3, p4, p5, p6]
 cases c6
 ·skip
  refine tks 37 rfl ?_
  try simp only [Act.put, p1, p2, p3, p4, p5, p6]
  refine tks 38 rfl ?_
  try simp only [Act.put, p1, p2, p3, p4, p5, p6]
  refine tks 39 rfl ?_
  try simp only [Act.put, p1, p2, p3, p4, p5, p6]
  refine tks 40 rfl ?_
  try simp only [Act.put, p1, p2, p3, p4, p5, p6]
  refine tks 41 rfl ?_
  try simp only [Act.put, p1, p2, p3, p4, p5, p6]
  refine tks 42 rfl ?_
  try simp only [Act.put, p1, p2, p3, p4, p5, p6]
  refine tks 43 rfl ?_
  try simp only [Act.put, p1, p2, p3, p4, p5, p6]
  refine tks 44 rfl ?_
  try simp only [Act.put, p1, p2, p3, p4, p5, p6]
  refine tk0 45 rfl ?_ ?_ ?_
  rotate_left
  ·intro; go_simp <;> with_reducible rfl
  try simp only [Act.put, p1, p2, p3, p4, p5, p6]
  refine tk0 46 rfl ?_ ?_ ?_
  rotate_left
  ·intro; go_simp <;> with_reducible rfl
  try simp only [Act.put, p1, p2, p3, p4, p5, p6]
  refine tks 47 rfl ?_
  try simp only [Act.put, p1, p2, p3, p4, p5, p6]
  refine tks 48 rfl ?_
  try simp only [Act.put, p1, p2, p3, p4, p5, p6]
  refine tks 49 rfl ?_
  try simp only [Act.put, p1, p2, p3, p4, p5, p6]
  refine tk0 50 rfl ?_ ?_ ?_
  rotate_left
  ·intro; go_simp <;> with_reducible rfl
  try simp only [Act.put, p1, p2, p3, p4, p5, p6]
  refine tk0 51 rfl ?_ ?_ ?_
  rotate_left
  ·intro; go_simp <;> with_reducible rfl
  try simp only [Act.put, p1, p2, p3, p4, p5, p6]
  refine tks 52 rfl ?_
  try simp only [Act.put, p1, p2, p3, p4, p5, p6]
  refine tks 53 rfl ?_
  try simp only [Act.put, p1, p2, p3, p4, p5, p6]
  refine tks 54 rfl ?_
  try simp only [Act.put, p1, p2, p3, p4, p5, p6]
  refine tk0 55 rfl ?_ ?_ ?_
  rotate_left
  ·intro; go_simp <;> with_reducible rfl
  try simp only [Act.put, p1, p2, p3, p4, p5, p6]
  refine tk0 56 rfl ?_ ?_ ?_
  rotate_left
  ·intro; go_simp <;> with_reducible rfl
  try simp only [Act.put, p1, p2, p3, p4, p5, p6]
  refine wpAnyT_done (by kernel_rfl) ?_ _
  have HF := lh (HNO.out fun hr => by have hq := HRI.out.1 hr; have hi := HI.out; exact absurd ((hi.2.2.2.2.2.1 (by first | rfl | trivial) (by first | rfl | trivial) (by first | rfl | trivial)).2 hq.2.2.2.2.2.1) (by simp))
  clear HI HRI HY HNO
  go_wp2
  go_ret
  exact ⟨HF.out, HB.out.trans ((hq6).mono HB.out.size)⟩
 by_cases h2 : a.st = 2
 ·have b2 : (a.st != 2) = false := by rw [h2]; rfl
  refine tk0 37 rfl ?_ ?_ ?_
  rotate_left
  ·intro; go_simp <;> with_reducible rfl
  try simp only [Act.put, p1, p2, p3, p4, p5, p6]
  refine tk 38 rfl ?_ ?_ ?_
  rotate_left
  ·intro w_ hSw; have q0 := (hSw.cell (p := ⟨w.heap.size, 0, none⟩) x3).trans d0; clear hSw; go_simp <;> (with_reducible rfl)
  try simp only [Act.put, p1, p2, p3, p4, p5, p6]
  refine tk0 39 rfl ?_ ?_ ?_
  rotate_left
  ·intro; go_simp <;> with_reducible rfl
  try simp only [Act.put, p1, p2, p3, p4, p5, p6]
  refine tk0 40 rfl ?_ ?_ ?_
  rotate_left
  ·intro; go_simp <;> with_reducible rfl
  try simp only [Act.put, p1, p2, p3, p4, p5, p6]
  refine tk0 41 rfl ?_ ?_ ?_
  rotate_left
  ·intro; go_simp <;> with_reducible rfl
  try simp only [Act.put, p1, p2, p3, p4, p5, p6]
  refine tk 42 rfl ?_ ?_ ?_
  rotate_left
  ·intro w_ hSw; have q0 := (hSw.cell (p := ⟨w.heap.size, 17, none⟩) x3).trans d17; have q1 := (hSw.cell (p := ⟨w.heap.size, 18, none⟩) x3).trans d18; have q2 := (hSw.cell (p := ⟨w.heap.size, 19, none⟩) x3).trans d19; have q3 := (hSw.cell (p := ⟨w.heap.size, 20, none⟩) x3).trans d20; clear hSw; go_simp <;> (with_reducible rfl)
  try simp only [Act.put, p1, p2, p3, p4, p5, p6]
  refine ry [43] ?_
  refine ar1 rfl fun K hK => ?_
  go_simp
  (go_at_call 35; ((with_reducible refine (K7.out _).mono ?_); rintro e w107 ⟨rfl, hb0⟩))
  go_wp2_with fail
  have hq7 := (hq6).trans (hb0.mono (hq6).size)
  clear hb0
  refine hK.out _ _ hq7 (fun hHeld => ?_)
  clear hK K
  try simp only [Act.put, p1, p2, p3, p4, p5, p6]
  refine tk0 44 rfl ?_ ?_ ?_
  rotate_left
  ·intro; go_simp <;> with_reducible rfl
  try simp only [Act.put, p1, p2, p3, p4, p5, p6]
  refine tk0 45 rfl ?_ ?_ ?_
  rotate_left
  ·intro; go_simp <;> with_reducible rfl
  try simp only [Act.put, p1, p2, p3, p4, p5, p6]
  refine tk0 46 rfl ?_ ?_ ?_
  rotate_left
  ·intro; go_simp <;> with_reducible rfl
  try simp only [Act.put, p1, p2, p3, p4, p5, p6]
  cases c7
  ·skip
   refine tks 47 rfl ?_
   try simp only [Act.put, p1, p2, p3, p4, p5, p6]
   refine tks 48 rfl ?_
   try simp only [Act.put, p1, p2, p3, p4, p5, p6]
   refine tks 49 rfl ?_
   try simp only [Act.put, p1, p2, p3, p4, p5, p6]
   refine tk0 50 rfl ?_ ?_ ?_
   rotate_left
   ·intro; go_simp <;> with_reducible rfl
   try simp only [Act.put, p1, p2, p3, p4, p5, p6]
   refine tk0 51 rfl ?_ ?_ ?_
   rotate_left
   ·intro; go_simp <;> with_reducible rfl
   try simp only [Act.put, p1, p2, p3, p4, p5, p6]
   refine tks 52 rfl ?_
   try simp only [Act.put, p1, p2, p3, p4, p5, p6]
   refine tks 53 rfl ?_
   try simp only [Act.put, p1, p2, p3, p4, p5, p6]
   refine tks 54 rfl ?_
   try simp only [Act.put, p1, p2, p3, p4, p5, p6]
   refine tk0 55 rfl ?_ ?_ ?_
   rotate_left
   ·intro; go_simp <;> with_reducible rfl
   try simp only [Act.put, p1, p2, p3, p4, p5, p6]
   refine tk0 56 rfl ?_ ?_ ?_
   rotate_left
   ·intro; go_simp <;> with_reducible rfl
   try simp only [Act.put, p1, p2, p3, p4, p5, p6]
   refine wpAnyT_done (by kernel_rfl) ?_ _
   have HF := lh (HNO.out fun hr => by have hq := HRI.out.1 hr; have hi := HI.out; exact absurd (hi.2.2.2.2.2.2.1.2 (hq.2.2.2.2.2.2.1 h2)) (by simp))
   clear HI HRI HY HNO
   go_wp2
   go_ret
   exact ⟨HF.out, HB.out.trans ((hq7).mono HB.out.size)⟩
  refine tk0 47 rfl ?_ ?_ ?_
  rotate_left
  ·intro; go_simp <;> with_reducible rfl
  try simp only [Act.put, p1, p2, p3, p4, p5, p6]
  refine tk 48 rfl ?_ ?_ ?_
  rotate_left
  ·intro w_ hSw; have q0 := (hSw.cell (p := ⟨w.heap.size, 21, none⟩) x3).trans d21; clear hSw; go_simp <;> (with_reducible rfl)
  try simp only [Act.put, p1, p2, p3, p4, p5, p6]
  refine ry [49] ?_
  refine ar1 rfl fun K hK => ?_
  go_simp
  (go_at_call 30; ((with_reducible refine (K8.out _).mono ?_); rintro e w99 ⟨rfl, rfl⟩))
  go_wp2_with fail
  refine hK.out _ _ hq7 (fun hHeld => ?_)
  clear hK K
  try simp only [Act.put, p1, p2, p3, p4, p5, p6]
  refine tk0 50 rfl ?_ ?_ ?_
  rotate_left
  ·intro; go_simp <;> with_reducible rfl
  try simp only [Act.put, p1, p2, p3, p4, p5, p6]
  refine tk0 51 rfl ?_ ?_ ?_
  rotate_left
  ·intro; go_simp <;> with_reducible rfl
  try simp only [Act.put, p1, p2, p3, p4, p5, p6]
  cases c8
  ·skip
   refine tks 52 rfl ?_
   try simp only [Act.put, p1, p2, p3, p4, p5, p6]
   refine tks 53 rfl ?_
   try simp only [Act.put, p1, p2, p3, p4, p5, p6]
   refine tks 54 rfl ?_
   try simp only [Act.put, p1, p2, p3, p4, p5, p6]
   refine tk0 55 rfl ?_ ?_ ?_
   rotate_left
   ·intro; go_simp <;> with_reducible rfl
   try simp only [Act.put, p1, p2, p3, p4, p5, p6]
   refine tk0 56 rfl ?_ ?_ ?_
   rotate_left
   ·intro; go_simp <;> with_reducible rfl
   try simp only [Act.put, p1, p2, p3, p4, p5, p6]
   refine wpAnyT_done (by kernel_rfl) ?_ _
   have HF := lh (HNO.out fun hr => by have hq := HRI.out.1 hr; have hi := HI.out; exact absurd (hi.2.2.2.2.2.2.2.1.2 hq.2.2.2.2.2.2.2.1) (by simp))
   clear HI HRI HY HNO
   go_wp2
   go_ret
   exact ⟨HF.out, HB.out.trans ((hq7).mono HB.out.size)⟩
  refine tk0 52 rfl ?_ ?_ ?_
  rotate_left
  ·intro; go_simp <;> with_reducible rfl
  try simp only [Act.put, p1, p2, p3, p4, p5, p6]
  refine tk 53 rfl ?_ ?_ ?_
  rotate_left
  ·intro w_ hSw; have q0 := (hSw.cell (p := ⟨w.heap.size, 13, none⟩) x3).trans d13; clear hSw; go_simp <;> (with_reducible rfl)
  try simp only [Act.put, p1, p2, p3, p4, p5, p6]
  refine ry [54] ?_
  refine ar1 rfl fun K hK => ?_
  go_simp
  (go_at_call 36; ((with_reducible refine (K9.out _).mono ?_); rintro e w99 ⟨rfl, rfl⟩))
  go_wp2_with fail
  refine hK.out _ _ hq7 (fun hHeld => ?_)
  clear hK K
  try simp only [Act.put, p1, p2, p3, p4, p5, p6]
  refine tk0 55 rfl ?_ ?_ ?_
  rotate_left
  ·intro; go_simp <;> with_reducible rfl
  try simp only [Act.put, p1, p2, p3, p4, p5, p6]
  refine tk0 56 rfl ?_ ?_ ?_
  rotate_left
  ·intro; go_simp <;> with_reducible rfl
  try simp only [Act.put, p1, p2, p3, p4, p5, p6]
  cases c9
  ·skip
   refine wpAnyT_done (by kernel_rfl) ?_ _
   have HF := lh (HNO.out fun hr => by have hq := HRI.out.1 hr; have hi := HI.out; exact absurd (hi.2.2.2.2.2.2.2.2.2 hq.2.2.2.2.2.2.2.2) (by simp))
   clear HI HRI HY HNO
   go_wp2
   go_ret
   exact ⟨HF.out, HB.out.trans ((hq7).mono HB.out.size)⟩
  refine wpAnyT_done (by kernel_rfl) ?_ _
  have HF := lh (HY.out (by have hi := HI.out; exact HRI.out.2 ⟨hi.1.1 (by first | rfl | trivial), hi.2.1.1 (by first | rfl | trivial), (hi.2.2.1 (by first | rfl | trivial)).1 (by first | rfl | trivial), hi.2.2.2.1.1 (by first | rfl | trivial), hi.2.2.2.2.1.1 (by first | rfl | trivial), (hi.2.2.2.2.2.1 (by first | rfl | trivial) (by first | rfl | trivial) (by first | rfl | trivial)).1 (by first | rfl | trivial), fun _ => hi.2.2.2.2.2.2.1.1 (by first | rfl | trivial), hi.2.2.2.2.2.2.2.1.1 (by first | rfl | trivial), hi.2.2.2.2.2.2.2.2.1 (by first | rfl | trivial)⟩))
  clear HI HRI HY HNO
  go_wp2
  go_ret
  exact ⟨HF.out, HB.out.trans ((hq7).mono HB.out.size)⟩
 have b2 : (a.st != 2) = true := by rw [bne_iff_ne]; exact h2
 refine tk0 37 rfl ?_ ?_ ?_
 rotate_left
 ·intro; go_simp <;> with_reducible rfl
 try simp only [Act.put, p1, p2, p3, p4, p5, p6]
 refine tk 38 rfl ?_ ?_ ?_
 rotate_left
 ·intro w_ hSw; have q0 := (hSw.cell (p := ⟨w.heap.size, 0, none⟩) x3).trans d0; clear hSw; go_simp <;> (with_reducible rfl)
 try simp only [Act.put, p1, p2, p3, p4, p5, p6]
 refine tk0 39 rfl ?_ ?_ ?_
 rotate_left
 ·intro; go_simp <;> with_reducible rfl
 try simp only [Act.put, p1, p2, p3, p4, p5, p6]
 refine tk0 40 rfl ?_ ?_ ?_
 rotate_left
 ·intro; go_simp <;> with_reducible rfl
 try simp only [Act.put, p1, p2, p3, p4, p5, p6]
 refine tks 41 rfl ?_
 try simp only [Act.put, p1, p2, p3, p4, p5, p6]
 refine tks 42 rfl ?_
 try simp only [Act.put, p1, p2, p3, p4, p5, p6]
 refine tks 43 rfl ?_
 try simp only [Act.put, p1, p2, p3, p4, p5, p6]
 refine tk0 44 rfl ?_ ?_ ?_
 rotate_left
 ·intro; go_simp <;> with_reducible rfl
 try simp only [Act.put, p1, p2, p3, p4, p5, p6]
 refine tk0 45 rfl ?_ ?_ ?_
 rotate_left
 ·intro; go_simp <;> with_reducible rfl
 try simp only [Act.put, p1, p2, p3, p4, p5, p6]
 refine tk0 46 rfl ?_ ?_ ?_
 rotate_left
 ·intro; go_simp <;> with_reducible rfl
 try simp only [Act.put, p1, p2, p3, p4, p5, p6]
 refine tk0 47 rfl ?_ ?_ ?_
 rotate_left
 ·intro; go_simp <;> with_reducible rfl
 try simp only [Act.put, p1, p2, p3, p4, p5, p6]
 refine tk 48 rfl ?_ ?_ ?_
 rotate_left
 ·intro w_ hSw; have q0 := (hSw.cell (p := ⟨w.heap.size, 21, none⟩) x3).trans d21; clear hSw; go_simp <;> (with_reducible rfl)
 try simp only [Act.put, p1, p2, p3, p4, p5, p6]
 refine ry [49] ?_
 refine ar1 rfl fun K hK => ?_
 go_simp
 (go_at_call 30; ((with_reducible refine (K8.out _).mono ?_); rintro e w99 ⟨rfl, rfl⟩))
 go_wp2_with fail
 refine hK.out _ _ hq6 (fun hHeld => ?_)
 clear hK K
 try simp only [Act.put, p1, p2, p3, p4, p5, p6]
 refine tk0 50 rfl ?_ ?_ ?_
 rotate_left
 ·intro; go_simp <;> with_reducible rfl
 try simp only [Act.put, p1, p2, p3, p4, p5, p6]
 refine tk0 51 rfl ?_ ?_ ?_
 rotate_left
 ·intro; go_simp <;> with_reducible rfl
 try simp only [Act.put, p1, p2, p3, p4, p5, p6]
 cases c8
 ·skip
  refine tks 52 rfl ?_
  try simp only [Act.put, p1, p2, p3, p4, p5, p6]
  refine tks 53 rfl ?_
  try simp only [Act.put, p1, p2, p3, p4, p5, p6]
  refine tks 54 rfl ?_
  try simp only [Act.put, p1, p2, p3, p4, p5, p6]
  refine tk0 55 rfl ?_ ?_ ?_
  rotate_left
  ·intro; go_simp <;> with_reducible rfl
  try simp only [Act.put, p1, p2, p3, p4, p5, p6]
  refine tk0 56 rfl ?_ ?_ ?_
  rotate_left
  ·intro; go_simp <;> with_reducible rfl
  try simp only [Act.put, p1, p2, p3, p4, p5, p6]
  refine wpAnyT_done (by kernel_rfl) ?_ _
  have HF := lh (HNO.out fun hr => by have hq := HRI.out.1 hr; have hi := HI.out; exact absurd (hi.2.2.2.2.2.2.2.1.2 hq.2.2.2.2.2.2.2.1) (by simp))
  clear HI HRI HY HNO
  go_wp2
  go_ret
  exact ⟨HF.out, HB.out.trans ((hq6).mono HB.out.size)⟩
 refine tk0 52 rfl ?_ ?_ ?_
 rotate_left
 ·intro; go_simp <;> with_reducible rfl
 try simp only [Act.put, p1, p2, p3, p4, p5, p6]
 refine tk 53 rfl ?_ ?_ ?_
 rotate_left
 ·intro w_ hSw; have q0 := (hSw.cell (p := ⟨w.heap.size, 13, none⟩) x3).trans d13; clear hSw; go_simp <;> (with_reducible rfl)
 try simp only [Act.put, p1, p2, p3, p4, p5, p6]
 refine ry [54] ?_
 refine ar1 rfl fun K hK => ?_
 go_simp
 (go_at_call 36; ((with_reducible refine (K9.out _).mono ?_); rintro e w99 ⟨rfl, rfl⟩))
 go_wp2_with fail
 refine hK.out _ _ hq6 (fun hHeld => ?_)
 clear hK K
 try simp only [Act.put, p1, p2, p3, p4, p5, p6]
 refine tk0 55 rfl ?_ ?_ ?_
 rotate_left
 ·intro; go_simp <;> with_reducible rfl
 try simp only [Act.put, p1, p2, p3, p4, p5, p6]
 refine tk0 56 rfl ?_ ?_ ?_
 rotate_left
 ·intro; go_simp <;> with_reducible rfl
 try simp only [Act.put, p1, p2, p3, p4, p5, p6]
 cases c9
 ·skip
  refine wpAnyT_done (by kernel_rfl) ?_ _
  have HF := lh (HNO.out fun hr => by have hq := HRI.out.1 hr; have hi := HI.out; exact absurd (hi.2.2.2.2.2.2.2.2.2 hq.2.2.2.2.2.2.2.2) (by simp))
  clear HI HRI HY HNO
  go_wp2
  go_ret
  exact ⟨HF.out, HB.out.trans ((hq6).mono HB.out.size)⟩
 refine wpAnyT_done (by kernel_rfl) ?_ _
 have HF := lh (HY.out (by have hi := HI.out; exact HRI.out.2 ⟨hi.1.1 (by first | rfl | trivial), hi.2.1.1 (by first | rfl | trivial), (hi.2.2.1 (by first | rfl | trivial)).1 (by first | rfl | trivial), hi.2.2.2.1.1 (by first | rfl | trivial), hi.2.2.2.2.1.1 (by first | rfl | trivial), (hi.2.2.2.2.2.1 (by first | rfl | trivial) (by first | rfl | trivial) (by first | rfl | trivial)).1 (by first | rfl | trivial), fun h => absurd h h2, hi.2.2.2.2.2.2.2.1.1 (by first | rfl | trivial), hi.2.2.2.2.2.2.2.2.1 (by first | rfl | trivial)⟩))
 clear HI HRI HY HNO
 go_wp2
 go_ret
 exact ⟨HF.out, HB.out.trans ((hq6).mono HB.out.size)⟩
end Go.Proofs.YtijlccblabadaaaGreat.cx
end
