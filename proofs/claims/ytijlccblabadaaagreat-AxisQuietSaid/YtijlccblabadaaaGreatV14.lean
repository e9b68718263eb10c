/- What a cycle's endMove and endStop do. No condition beyond what each line says. What a cycle's homed and endHome do. No condition beyond what each line says. What a cycle's end does; what axis' Out answers. No condition beyond what each line says. -/
import Derived.Test.YtijlccblabadaaaGreatV09
import Derived.Test.YtijlccblabadaaaGreatV16
section
namespace Go.Proofs.YtijlccblabadaaaGreat.cx
open Go.ChangeShapes Go.WideShapes Go.ChangeAt Go.RowKit Go.Proofs.YtijlccblabadaaaGreat.k Go.Proofs.YtijlccblabadaaaGreat.rr Go.Proofs.YtijlccblabadaaaGreat.ax
open Go.Proofs.YtijlccblabadaaaGreat.ln (C RdC RdI iC cC cV lnV)
set_option linter.unusedVariables false
set_option maxRecDepth 100000
section
variable {base g : Nat} {i : In} {L : Sl} {a : Ax} {R : List Rp} {fr pa : Bool} {w : World} {tb : Option Nat}
set_option maxHeartbeats 4000000 in
theorem endstop_any (h : Cyc base g i L tb a R fr pa w) (hr : RightA a) (h3 : a.st = 3) (hR : R.length ≤ 7000) :
  Calls Tryz.prog 79 #[.pointer (some ⟨g, 0, none⟩)] w (Does base g i L tb w (lastA a pa i) (R ++ lastR a pa i) fr pa) := by
 have hm : ¬ MoveEnds a pa := fun h => by have := h.1; omega
 have h2 : ¬ (a.st = 2 ∧ a.h.ph = 4 ∧ StillP a) := fun h => by have := h.1; omega
 have h25 : ¬ (a.st = 2 ∧ a.h.ph = 5) := fun h => by have := h.1; omega
 obtain ⟨sb, hsb⟩ : ∃ b, stillB a = b := ⟨_, rfl⟩
 have hsi := still_iff (right_win hr)
 rw [hsb] at hsi
 have HC := lh h
 obtain ⟨S, N, W, T, h, ht⟩ := h
 have H := lh h
 have hl := h.lt
 have CS := lh (still_any a h.rows (Nat.le_refl _) hsb)
 clear h hsb
 cases sb
 ·have hns := of_decide_eq_false hsi.symm
  have hq : ¬ (a.st = 3 ∧ StillP a) := fun h => hns h.2
  rw [show lastA a pa i = a from by unfold lastA; rw [if_neg hm, if_neg hq, if_neg h2, if_neg h25], show lastR a pa i = [] from by unfold lastR; rw [if_neg hm, if_neg hq, if_neg h2, if_neg h25], List.append_nil]
  clear hm h2 h25 hsi hns hq hr h3
  go_enter Tryz.func79, Tryz.ntmps79
  go_wp2_with (first | ((with_reducible refine m_ax_load H.out.ax 5 ?_ ?_ ?_ ?_); rfl; rfl; rfl; (try simp only [Act.put])) | (go_at_call 89; ((with_reducible refine (CS.out).mono ?_); rintro e w1 ⟨rfl, hb⟩; have HB := lh hb; clear hb)))
  exact end0 rfl rfl ⟨rfl, tb, HC.out.below HB.out, (Fx.refl g tb w).below HB.out⟩
 ·have hys := of_decide_eq_true hsi.symm
  have hq : a.st = 3 ∧ StillP a := ⟨h3, hys⟩
  cases hN : a.N with
  | nil =>
   have hnn : ¬ a.N ≠ [] := fun h => h hN
   have hnn2 : ¬ ([] : List C) ≠ [] := fun h => h rfl
   have CB := lh fun (U : World) (hb : Below w.heap.size w U) => busy_any (HC.out.below hb) (b := false) (by rw [hN]; rfl)
   cases hrl : i.release
   ·rw [show lastA a pa i = a from by unfold lastA; rw [if_neg hm, if_pos hq, if_neg hnn, if_neg (by rw [hrl]; simp)], show lastR a pa i = [] from by unfold lastR; rw [if_neg hm, if_pos hq, if_neg hnn], List.append_nil]
    have ⟨d34, d34f⟩ := k.cell_of H.out.box (i := 34) rfl
    rw [hrl] at d34
    clear hm h2 h25 hsi hys hq hr h3 hN hnn hnn2
    go_enter Tryz.func79, Tryz.ntmps79
    go_wp2_with (first | ((with_reducible refine m_ax_load H.out.ax 5 ?_ ?_ ?_ ?_); rfl; rfl; rfl; (try simp only [Act.put])) | (go_at_call 89; ((with_reducible refine (CS.out).mono ?_); rintro e w1 ⟨rfl, hb⟩; have HB := lh hb; have d34 := (hb.cell (p := ⟨g, 34, none⟩) hl).trans d34; clear hb)) | (go_at_call 112; ((with_reducible refine (CB.out _ HB.out).mono ?_); rintro e w2 ⟨rfl, rfl⟩)))
    exact end0 rfl rfl ⟨rfl, tb, HC.out.below HB.out, (Fx.refl g tb w).below HB.out⟩
   ·rw [show lastA a pa i = goes a 9 from by unfold lastA; rw [if_neg hm, if_pos hq, if_neg hnn, if_pos hrl], show lastR a pa i = [] from by unfold lastR; rw [if_neg hm, if_pos hq, if_neg hnn], List.append_nil]
    have ⟨d34, d34f⟩ := k.cell_of H.out.box (i := 34) rfl
    rw [hrl] at d34
    clear hm h2 h25 hsi hys hq hr h3 hN hnn hnn2
    go_enter Tryz.func79, Tryz.ntmps79
    go_wp2_with (first | ((with_reducible refine m_ax_load H.out.ax 5 ?_ ?_ ?_ ?_); rfl; rfl; rfl; (try simp only [Act.put])) | (go_at_call 89; ((with_reducible refine (CS.out).mono ?_); rintro e w1 ⟨rfl, hb⟩; have HB := lh hb; have d34 := (hb.cell (p := ⟨g, 34, none⟩) hl).trans d34; clear hb)) | (go_at_call 112; ((with_reducible refine (CB.out _ HB.out).mono ?_); rintro e w2 ⟨rfl, rfl⟩)) | (go_at_call 90; fail))
    refine (happen_any (HC.out.below HB.out) 9).mono ?_
    rintro e w3 ⟨rfl, tb3, h3, f3⟩
    go_wp2
    exact end0 rfl rfl ⟨rfl, tb3, h3, ((Fx.refl g tb w).below HB.out).trans f3⟩
  | cons c t =>
   have hnn : a.N ≠ [] := by rw [hN]; simp
   have CB := lh fun (U : World) (hb : Below w.heap.size w U) => busy_any (HC.out.below hb) (b := true) (by rw [hN]; rfl)
   rw [show lastA a pa i = leaves a from by unfold lastA; rw [if_neg hm, if_pos hq, if_pos hnn], show lastR a pa i = [(c.id, 2)] from by unfold lastR; rw [if_neg hm, if_pos hq, if_pos hnn]; unfold idOf; rw [hN]]
   have CL := lh fun (U : World) (hb : Below w.heap.size w U) => leave_some (HC.out.below hb) hr.line hN (by omega) 2
   clear hm h2 h25 hsi hys hq hr h3 hN hnn
   go_enter Tryz.func79, Tryz.ntmps79
   go_wp2_with (first | ((with_reducible refine m_ax_load H.out.ax 5 ?_ ?_ ?_ ?_); rfl; rfl; rfl; (try simp only [Act.put])) | (go_at_call 89; ((with_reducible refine (CS.out).mono ?_); rintro e w1 ⟨rfl, hb⟩; have HB := lh hb; clear hb)) | (go_at_call 112; ((with_reducible refine (CB.out _ HB.out).mono ?_); rintro e w2 ⟨rfl, rfl⟩)) | (go_at_call 91; fail))
   refine (CL.out _ HB.out).mono ?_
   rintro e w3 ⟨rfl, tb3, h3, f3⟩
   go_wp2
   exact end0 rfl rfl ⟨rfl, tb3, h3, ((Fx.refl g tb w).below HB.out).trans f3⟩
theorem move_kind {a : Ax} (hr : RightA a) (h4 : a.st = 4) {c : C} {t : List C} (hN : a.N = c :: t) : c.kind ≠ 1 ↔ c.kind = 5 := by
 have hl := one_lined hr.lined hN
 unfold Lined1 MoveP at hl
 omega
theorem ends_iff {a : Ax} (hr : RightA a) (h4 : a.st = 4) {c : C} {t : List C} (hN : a.N = c :: t) (pa : Bool) : MoveEnds a pa ↔ (pa = true ∨ (stillB a = true ∧ (c.kind = 5 ∨ a.p = c.tgt))) := by
 have hs : stillB a = true ↔ StillP a := by rw [still_iff (right_win hr)]; exact decide_eq_true_iff
 rw [hs]
 unfold MoveEnds
 rw [hN]
 dsimp only
 rw [move_kind hr h4 hN]
 constructor
 ·rintro ⟨_, _, h⟩
  rcases h with h | ⟨h, h'⟩
  ·exact .inl h
  ·exact .inr ⟨h, h'.imp id Eq.symm⟩
 ·intro h
  refine ⟨h4, by simp, ?_⟩
  rcases h with h | ⟨h, h'⟩
  ·exact .inl h
  ·exact .inr ⟨h, h'.imp id Eq.symm⟩
theorem wait_kind {a : Ax} (hr : RightA a) (h4 : a.st = 4) {n : C} {s : List C} (hW : a.W = n :: s) : n.kind = 1 := by
 have hl := hr.lined
 cases hN : a.N with
 | nil => have := none_lined hl hN; omega
 | cons c t =>
  have h := one_lined hl hN
  unfold Lined1 at h
  rw [hW] at h
  rcases h with h | h | h | h | h
  ·exact absurd h.2.1 (by simp)
  ·exact absurd h.2.1 (by simp)
  ·exact absurd h.2.1 (by simp)
  ·exact absurd h.2.1 (by simp)
  ·rcases h.2 with h | h
   ·exact absurd h.2 (by simp)
   ·exact (h.2 n (by simp)).1.1
set_option maxHeartbeats 8000000 in
theorem endmove_any (h : Cyc base g i L tb a R fr pa w) (hr : RightA a) (h4 : a.st = 4) (hR : R.length ≤ 7000) :
  Calls Tryz.prog 78 #[.pointer (some ⟨g, 0, none⟩)] w (Does base g i L tb w (lastA a pa i) (R ++ lastR a pa i) fr pa) := by
 have h3 : ¬ (a.st = 3 ∧ StillP a) := fun h => by have := h.1; omega
 have h2 : ¬ (a.st = 2 ∧ a.h.ph = 4 ∧ StillP a) := fun h => by have := h.1; omega
 have h25 : ¬ (a.st = 2 ∧ a.h.ph = 5) := fun h => by have := h.1; omega
 have hl := hr.lined
 cases hN : a.N with
 | nil => have := none_lined hl hN; omega
 | cons c t =>
  have hei := ends_iff hr h4 hN pa
  obtain ⟨sb, hsb⟩ : ∃ b, stillB a = b := ⟨_, rfl⟩
  rw [hsb] at hei
  have HC := lh h
  have CN := lh (now_any h hN)
  unfold cV at CN
  obtain ⟨S, N, W, T, h0, ht⟩ := h
  have H0 := lh h0
  have hlt := h0.lt
  have CS := lh fun (U : World) (hb : Below w.heap.size w U) => still_any a (h0.below hb).rows (Nat.le_refl _) hsb
  have CL := lh fun (U : World) (hb : Below w.heap.size w U) => leave_some (HC.out.below hb) hr.line hN (by omega) 2
  have no : ¬ MoveEnds a pa → Does base g i L tb w (lastA a pa i) (R ++ lastR a pa i) fr pa = Does base g i L tb w a R fr pa := fun hm => by rw [show lastA a pa i = a from by unfold lastA; rw [if_neg hm, if_neg h3, if_neg h2, if_neg h25], show lastR a pa i = [] from by unfold lastR; rw [if_neg hm, if_neg h3, if_neg h2, if_neg h25], List.append_nil]
  have yes : MoveEnds a pa → Does base g i L tb w (lastA a pa i) (R ++ lastR a pa i) fr pa = Does base g i L tb w (endedA a 10 i.master) (R ++ endedR a) fr pa := fun hm => by rw [show lastA a pa i = endedA a 10 i.master from by unfold lastA; rw [if_pos hm], show lastR a pa i = endedR a from by unfold lastR; rw [if_pos hm]]
  have HNO := lh no
  have HYES := lh yes
  have HEI := lh hei
  have hidO : idOf a = c.id := by unfold idOf; rw [hN]
  have HID := lh hidO
  have HWK := lh fun n s hW => wait_kind hr h4 (n := n) (s := s) hW
  have HRH := lh hr.made.2.2.2.2.2
  have HR := lh hR
  clear no yes hei hidO h3 h2 h25 hl h0 hsb hN hr h4 hR
  have ⟨d40, d40f⟩ := k.cell_of H0.out.box (i := 40) rfl
  have ⟨d10, d10f⟩ := k.cell_of H0.out.box (i := 10) rfl
  cases pa
  rotate_left 1
  ·have HEQ := lh (HYES.out (HEI.out.2 (.inl rfl)))
   clear HNO HYES HEI
   go_enter Tryz.func78, Tryz.ntmps78
   go_upto_region 1 with (go_at_call 100; ((with_reducible refine (CN.out).mono ?_); rintro e w1 ⟨rfl, hb⟩; have B1 := lh hb; clear hb))
   obtain ⟨y1, y2, y3⟩ := k.boxes1 (w := w1) (c1 := cA c) (t1 := 62) (Below.refl _ _)
   have D : Hid (k.Box _ w1.heap.size 0 (cC c)) := lh y1
   have B2 := lh (B1.out.trans (y2.mono B1.out.size))
   clear y1 y2 d40 d40f d10 d10f
   generalize w1.alloc (.cells #[.int .i64 c.id, .int .i64 c.kind, .int .i64 c.tgt, .int .i64 c.spd, .int .i64 c.mode, .int .i64 c.num, .int .i64 c.den] 62) = w2 at D B2 y3 ⊢
   have H2 := lh (H0.out.below B2.out)
   have hl2 := H2.out.lt
   have ⟨d40, d40f⟩ := k.cell_of H2.out.box (i := 40) rfl
   have ⟨d10, d10f⟩ := k.cell_of H2.out.box (i := 10) rfl
   have ⟨k1, k1f⟩ := k.cell_of D.out (i := 1) rfl
   have ⟨k2, k2f⟩ := k.cell_of D.out (i := 2) rfl
   refine wp_region_T (by kernel_rfl) (fun w' => Below w2.heap.size w2 w') [] (Below.refl _ _).drew (fun hHeld => ?_)
   refine tk0 0 rfl ?_ ?_ ?_
   rotate_left
   ·intro; go_simp <;> with_reducible rfl
   try simp only [Act.put, p1, p2, p3, p4, p6]
   refine tk0 1 rfl ?_ ?_ ?_
   rotate_left
   ·intro; go_simp <;> with_reducible rfl
   try simp only [Act.put, p1, p2, p3, p4, p5, p6]
   refine tk0 2 rfl ?_ ?_ ?_
   rotate_left
   ·intro; go_simp <;> with_reducible rfl
   try simp only [Act.put, p1, p2, p3, p4, p5, p6]
   refine tk 3 rfl ?_ ?_ ?_
   rotate_left
   ·intro w_ hSw; have q0 := (hSw.cell (p := ⟨g, 40, none⟩) hl2).trans d40; clear hSw; go_simp <;> (with_reducible rfl)
   try simp only [Act.put, p1, p2, p3, p4, p5, p6]
   refine tk0 4 rfl ?_ ?_ ?_
   rotate_left
   ·intro; go_simp <;> with_reducible rfl
   try simp only [Act.put, p1, p2, p3, p4, p5, p6]
   refine tk0 5 rfl ?_ ?_ ?_
   rotate_left
   ·intro; go_simp <;> with_reducible rfl
   try simp only [Act.put, p1, p2, p3, p4, p5, p6]
   refine tks 6 rfl ?_
   try simp only [Act.put, p1, p2, p3, p4, p5, p6]
   refine tks 7 rfl ?_
   try simp only [Act.put, p1, p2, p3, p4, p5, p6]
   refine tks 8 rfl ?_
   try simp only [Act.put, p1, p2, p3, p4, p5, p6]
   refine tks 9 rfl ?_
   try simp only [Act.put, p1, p2, p3, p4, p5, p6]
   refine tks 10 rfl ?_
   try simp only [Act.put, p1, p2, p3, p4, p5, p6]
   refine tks 11 rfl ?_
   try simp only [Act.put, p1, p2, p3, p4, p5, p6]
   refine tks 12 rfl ?_
   try simp only [Act.put, p1, p2, p3, p4, p5, p6]
   refine tks 13 rfl ?_
   try simp only [Act.put, p1, p2, p3, p4, p5, p6]
   refine tks 14 rfl ?_
   try simp only [Act.put, p1, p2, p3, p4, p5, p6]
   refine tks 15 rfl ?_
   try simp only [Act.put, p1, p2, p3, p4, p5, p6]
   refine tks 16 rfl ?_
   try simp only [Act.put, p1, p2, p3, p4, p5, p6]
   refine tks 17 rfl ?_
   try simp only [Act.put, p1, p2, p3, p4, p5, p6]
   refine tks 18 rfl ?_
   try simp only [Act.put, p1, p2, p3, p4, p5, p6]
   refine tks 19 rfl ?_
   try simp only [Act.put, p1, p2, p3, p4, p5, p6]
   refine tks 20 rfl ?_
   try simp only [Act.put, p1, p2, p3, p4, p5, p6]
   refine tks 21 rfl ?_
   try simp only [Act.put, p1, p2, p3, p4, p5, p6]
   refine tks 22 rfl ?_
   try simp only [Act.put, p1, p2, p3, p4, p5, p6]
   refine tks 23 rfl ?_
   try simp only [Act.put, p1, p2, p3, p4, p5, p6]
   refine tks 24 rfl ?_
   try simp only [Act.put, p1, p2, p3, p4, p5, p6]
   refine tks 25 rfl ?_
   try simp only [Act.put, p1, p2, p3, p4, p5, p6]
   refine tks 26 rfl ?_
   try simp only [Act.put, p1, p2, p3, p4, p5, p6]
   refine tks 27 rfl ?_
   try simp only [Act.put, p1, p2, p3, p4, p5, p6]
   refine tk0 28 rfl ?_ ?_ ?_
   rotate_left
   ·intro; go_simp <;> with_reducible rfl
   try simp only [Act.put, p1, p2, p3, p4, p5, p6]
   refine wpAnyT_done (by kernel_rfl) ?_ _
   have B9 := lh (B2.out.drew)
   go_wp2_with (go_at_call 91; fail)
   refine (CL.out _ B9.out).mono ?_
   rintro e w8 ⟨rfl, tb8, h8, f8⟩
   have FX := lh (((Fx.refl g tb w).below B9.out).trans f8)
   clear f8 CL CS CN
   cases hW : a.W with
   | nil =>
    have CB := lh (busy_any h8 (b := false) (by show (!(a.W.take 1).isEmpty) = false; rw [hW]; rfl))
    have HP := lh (happen_any h8 10)
    have EA : endedA a 10 i.master = goes (leaves a) 10 := by unfold endedA; rw [hW]
    have ER : endedR a = [(c.id, 2)] := by unfold endedR; rw [hW, HID.out]
    have HEA := lh EA
    have HER := lh ER
    clear h8 hW EA ER
    go_wp2_with (first | (go_at_call 112; ((with_reducible refine (CB.out).mono ?_); rintro e w9 ⟨rfl, rfl⟩)) | (go_at_call 90; fail))
    refine HP.out.mono ?_
    rintro e w9 ⟨rfl, tb9, h9, f9⟩
    go_wp2
    refine end0 rfl rfl ?_
    rw [HEQ.out, HEA.out, HER.out]
    exact ⟨rfl, tb9, h9, FX.out.trans f9⟩
   | cons n s =>
    have CB := lh (busy_any h8 (b := true) (by show (!(a.W.take 1).isEmpty) = true; rw [hW]; rfl))
    have hk1 := HWK.out n s hW
    have HP := lh (begin_any h8 (c := n) (t := []) (by show a.W.take 1 = [n]; rw [hW]; rfl) (by rw [hk1]; rfl) HRH.out (by have := HR.out; simp only [List.length_append, List.length_singleton]; omega))
    have EA : endedA a 10 i.master = ax.begun (leaves a) n i.master := by unfold endedA; rw [hW]
    have ER : endedR a = [(c.id, 2)] ++ [(n.id, 1)] := by unfold endedR; rw [hW, HID.out]; rfl
    have HEA := lh EA
    have HER := lh ER
    clear h8 hW EA ER hk1
    go_wp2_with (first | (go_at_call 112; ((with_reducible refine (CB.out).mono ?_); rintro e w9 ⟨rfl, rfl⟩)) | (go_at_call 73; fail))
    refine HP.out.mono ?_
    rintro e w9 ⟨rfl, tb9, h9, f9⟩
    rw [List.append_assoc] at h9
    go_wp2
    refine end0 rfl rfl ?_
    rw [HEQ.out, HEA.out, HER.out]
    exact ⟨rfl, tb9, h9, FX.out.trans f9⟩
  cases sb
  ·have HEQ := lh (HNO.out fun hm => by have := HEI.out.1 hm; simp at this)
   clear HNO HYES HEI
   go_enter Tryz.func78, Tryz.ntmps78
   go_upto_region 1 with (go_at_call 100; ((with_reducible refine (CN.out).mono ?_); rintro e w1 ⟨rfl, hb⟩; have B1 := lh hb; clear hb))
   obtain ⟨y1, y2, y3⟩ := k.boxes1 (w := w1) (c1 := cA c) (t1 := 62) (Below.refl _ _)
   have D : Hid (k.Box _ w1.heap.size 0 (cC c)) := lh y1
   have B2 := lh (B1.out.trans (y2.mono B1.out.size))
   clear y1 y2 d40 d40f d10 d10f
   generalize w1.alloc (.cells #[.int .i64 c.id, .int .i64 c.kind, .int .i64 c.tgt, .int .i64 c.spd, .int .i64 c.mode, .int .i64 c.num, .int .i64 c.den] 62) = w2 at D B2 y3 ⊢
   have H2 := lh (H0.out.below B2.out)
   have hl2 := H2.out.lt
   have ⟨d40, d40f⟩ := k.cell_of H2.out.box (i := 40) rfl
   have ⟨d10, d10f⟩ := k.cell_of H2.out.box (i := 10) rfl
   have ⟨k1, k1f⟩ := k.cell_of D.out (i := 1) rfl
   have ⟨k2, k2f⟩ := k.cell_of D.out (i := 2) rfl
   refine wp_region_T (by kernel_rfl) (fun w' => Below w2.heap.size w2 w') [] (Below.refl _ _).drew (fun hHeld => ?_)
   refine tk0 0 rfl ?_ ?_ ?_
   rotate_left
   ·intro; go_simp <;> with_reducible rfl
   try simp only [Act.put, p1, p2, p3, p4, p6]
   refine tk0 1 rfl ?_ ?_ ?_
   rotate_left
   ·intro; go_simp <;> with_reducible rfl
   try simp only [Act.put, p1, p2, p3, p4, p5, p6]
   refine tk0 2 rfl ?_ ?_ ?_
   rotate_left
   ·intro; go_simp <;> with_reducible rfl
   try simp only [Act.put, p1, p2, p3, p4, p5, p6]
   refine tk 3 rfl ?_ ?_ ?_
   rotate_left
   ·intro w_ hSw; have q0 := (hSw.cell (p := ⟨g, 40, none⟩) hl2).trans d40; clear hSw; go_simp <;> (with_reducible rfl)
   try simp only [Act.put, p1, p2, p3, p4, p5, p6]
   refine tk0 4 rfl ?_ ?_ ?_
   rotate_left
   ·intro; go_simp <;> with_reducible rfl
   try simp only [Act.put, p1, p2, p3, p4, p5, p6]
   refine tk0 5 rfl ?_ ?_ ?_
   rotate_left
   ·intro; go_simp <;> with_reducible rfl
   try simp only [Act.put, p1, p2, p3, p4, p5, p6]
   refine tk0 6 rfl ?_ ?_ ?_
   rotate_left
   ·intro; go_simp <;> with_reducible rfl
   try simp only [Act.put, p1, p2, p3, p4, p5, p6]
   refine tk0 7 rfl ?_ ?_ ?_
   rotate_left
   ·intro; go_simp <;> with_reducible rfl
   try simp only [Act.put, p1, p2, p3, p4, p5, p6]
   refine tk0 8 rfl ?_ ?_ ?_
   rotate_left
   ·intro; go_simp <;> with_reducible rfl
   try simp only [Act.put, p1, p2, p3, p4, p5, p6]
   refine tkv 9 rfl (axV a S N W) (by exact m_y_ax H2.out.ax hl2 13 rfl rfl rfl) ?_
   try simp only [Act.put, p1, p2, p3, p4, p5, p6]
   refine ry [10] ?_
   refine ar1 rfl fun K hK => ?_
   go_simp
   (go_at_call 89; ((with_reducible refine (CS.out _ (B2.out.trans ((Below.refl w2.heap.size w2).drew.mono B2.out.size))).mono ?_); rintro e w5 ⟨rfl, hb0⟩))
   go_wp2_with fail
   have hb5 := ((Below.refl w2.heap.size w2).drew).trans hb0
   clear hb0
   refine hK.out _ _ hb5 (fun hHeld => ?_)
   clear hK K
   try simp only [Act.put, p1, p2, p3, p4, p5, p6]
   refine tk0 11 rfl ?_ ?_ ?_
   rotate_left
   ·intro; go_simp <;> with_reducible rfl
   try simp only [Act.put, p1, p2, p3, p4, p5, p6]
   refine tks 12 rfl ?_
   try simp only [Act.put, p1, p2, p3, p4, p5, p6]
   refine tks 13 rfl ?_
   try simp only [Act.put, p1, p2, p3, p4, p5, p6]
   refine tks 14 rfl ?_
   try simp only [Act.put, p1, p2, p3, p4, p5, p6]
   refine tks 15 rfl ?_
   try simp only [Act.put, p1, p2, p3, p4, p5, p6]
   refine tks 16 rfl ?_
   try simp only [Act.put, p1, p2, p3, p4, p5, p6]
   refine tks 17 rfl ?_
   try simp only [Act.put, p1, p2, p3, p4, p5, p6]
   refine tks 18 rfl ?_
   try simp only [Act.put, p1, p2, p3, p4, p5, p6]
   refine tks 19 rfl ?_
   try simp only [Act.put, p1, p2, p3, p4, p5, p6]
   refine tks 20 rfl ?_
   try simp only [Act.put, p1, p2, p3, p4, p5, p6]
   refine tks 21 rfl ?_
   try simp only [Act.put, p1, p2, p3, p4, p5, p6]
   refine tks 22 rfl ?_
   try simp only [Act.put, p1, p2, p3, p4, p5, p6]
   refine tks 23 rfl ?_
   try simp only [Act.put, p1, p2, p3, p4, p5, p6]
   refine tks 24 rfl ?_
   try simp only [Act.put, p1, p2, p3, p4, p5, p6]
   refine tks 25 rfl ?_
   try simp only [Act.put, p1, p2, p3, p4, p5, p6]
   refine tk0 26 rfl ?_ ?_ ?_
   rotate_left
   ·intro; go_simp <;> with_reducible rfl
   try simp only [Act.put, p1, p2, p3, p4, p5, p6]
   refine tk0 27 rfl ?_ ?_ ?_
   rotate_left
   ·intro; go_simp <;> with_reducible rfl
   try simp only [Act.put, p1, p2, p3, p4, p5, p6]
   refine tk0 28 rfl ?_ ?_ ?_
   rotate_left
   ·intro; go_simp <;> with_reducible rfl
   try simp only [Act.put, p1, p2, p3, p4, p5, p6]
   refine wpAnyT_done (by kernel_rfl) ?_ _
   have B9 := lh (B2.out.trans (hb5.mono B2.out.size))
   go_wp2
   refine ret0 rfl rfl ?_
   rw [HEQ.out]
   exact ⟨rfl, tb, HC.out.below B9.out, (Fx.refl g tb w).below B9.out⟩
  by_cases h5 : c.kind = 5
  ·have b5 : (c.kind == 5) = true := by rw [h5]; rfl
   have HEQ := lh (HYES.out (HEI.out.2 (.inr ⟨rfl, .inl h5⟩)))
   clear HNO HYES HEI h5
   go_enter Tryz.func78, Tryz.ntmps78
   go_upto_region 1 with (go_at_call 100; ((with_reducible refine (CN.out).mono ?_); rintro e w1 ⟨rfl, hb⟩; have B1 := lh hb; clear hb))
   obtain ⟨y1, y2, y3⟩ := k.boxes1 (w := w1) (c1 := cA c) (t1 := 62) (Below.refl _ _)
   have D : Hid (k.Box _ w1.heap.size 0 (cC c)) := lh y1
   have B2 := lh (B1.out.trans (y2.mono B1.out.size))
   clear y1 y2 d40 d40f d10 d10f
   generalize w1.alloc (.cells #[.int .i64 c.id, .int .i64 c.kind, .int .i64 c.tgt, .int .i64 c.spd, .int .i64 c.mode, .int .i64 c.num, .int .i64 c.den] 62) = w2 at D B2 y3 ⊢
   have H2 := lh (H0.out.below B2.out)
   have hl2 := H2.out.lt
   have ⟨d40, d40f⟩ := k.cell_of H2.out.box (i := 40) rfl
   have ⟨d10, d10f⟩ := k.cell_of H2.out.box (i := 10) rfl
   have ⟨k1, k1f⟩ := k.cell_of D.out (i := 1) rfl
   have ⟨k2, k2f⟩ := k.cell_of D.out (i := 2) rfl
   refine wp_region_T (by kernel_rfl) (fun w' => Below w2.heap.size w2 w') [] (Below.refl _ _).drew (fun hHeld => ?_)
   refine tk0 0 rfl ?_ ?_ ?_
   rotate_left
   ·intro; go_simp <;> with_reducible rfl
   try simp only [Act.put, p1, p2, p3, p4, p6]
   refine tk0 1 rfl ?_ ?_ ?_
   rotate_left
   ·intro; go_simp <;> with_reducible rfl
   try simp only [Act.put, p1, p2, p3, p4, p5, p6]
   refine tk0 2 rfl ?_ ?_ ?_
   rotate_left
   ·intro; go_simp <;> with_reducible rfl
   try simp only [Act.put, p1, p2, p3, p4, p5, p6]
   refine tk 3 rfl ?_ ?_ ?_
   rotate_left
   ·intro w_ hSw; have q0 := (hSw.cell (p := ⟨g, 40, none⟩) hl2).trans d40; clear hSw; go_simp <;> (with_reducible rfl)
   try simp only [Act.put, p1, p2, p3, p4, p5, p6]
   refine tk0 4 rfl ?_ ?_ ?_
   rotate_left
   ·intro; go_simp <;> with_reducible rfl
   try simp only [Act.put, p1, p2, p3, p4, p5, p6]
   refine tk0 5 rfl ?_ ?_ ?_
   rotate_left
   ·intro; go_simp <;> with_reducible rfl
   try simp only [Act.put, p1, p2, p3, p4, p5, p6]
   refine tk0 6 rfl ?_ ?_ ?_
   rotate_left
   ·intro; go_simp <;> with_reducible rfl
   try simp only [Act.put, p1, p2, p3, p4, p5, p6]
   refine tk0 7 rfl ?_ ?_ ?_
   rotate_left
   ·intro; go_simp <;> with_reducible rfl
   try simp only [Act.put, p1, p2, p3, p4, p5, p6]
   refine tk0 8 rfl ?_ ?_ ?_
   rotate_left
   ·intro; go_simp <;> with_reducible rfl
   try simp only [Act.put, p1, p2, p3, p4, p5, p6]
   refine tkv 9 rfl (axV a S N W) (by exact m_y_ax H2.out.ax hl2 13 rfl rfl rfl) ?_
   try simp only [Act.put, p1, p2, p3, p4, p5, p6]
   refine ry [10] ?_
   refine ar1 rfl fun K hK => ?_
   go_simp
   (go_at_call 89; ((with_reducible refine (CS.out _ (B2.out.trans ((Below.refl w2.heap.size w2).drew.mono B2.out.size))).mono ?_); rintro e w5 ⟨rfl, hb0⟩))
   go_wp2_with fail
   have hb5 := ((Below.refl w2.heap.size w2).drew).trans hb0
   clear hb0
   refine hK.out _ _ hb5 (fun hHeld => ?_)
   clear hK K
   try simp only [Act.put, p1, p2, p3, p4, p5, p6]
   refine tk0 11 rfl ?_ ?_ ?_
   rotate_left
   ·intro; go_simp <;> with_reducible rfl
   try simp only [Act.put, p1, p2, p3, p4, p5, p6]
   refine tk0 12 rfl ?_ ?_ ?_
   rotate_left
   ·intro; go_simp <;> with_reducible rfl
   try simp only [Act.put, p1, p2, p3, p4, p5, p6]
   refine tk 13 rfl ?_ ?_ ?_
   rotate_left
   ·intro w_ hSw; have q0 := (hSw.cell (p := ⟨w1.heap.size, 1, none⟩) y3).trans k1; clear hSw; go_simp <;> (with_reducible rfl)
   try simp only [Act.put, p1, p2, p3, p4, p5, p6]
   refine tk0 14 rfl ?_ ?_ ?_
   rotate_left
   ·intro; go_simp <;> with_reducible rfl
   try simp only [Act.put, p1, p2, p3, p4, p5, p6]
   refine tk0 15 rfl ?_ ?_ ?_
   rotate_left
   ·intro; go_simp <;> with_reducible rfl
   try simp only [Act.put, p1, p2, p3, p4, p5, p6]
   refine tks 16 rfl ?_
   try simp only [Act.put, p1, p2, p3, p4, p5, p6]
   refine tks 17 rfl ?_
   try simp only [Act.put, p1, p2, p3, p4, p5, p6]
   refine tks 18 rfl ?_
   try simp only [Act.put, p1, p2, p3, p4, p5, p6]
   refine tks 19 rfl ?_
   try simp only [Act.put, p1, p2, p3, p4, p5, p6]
   refine tks 20 rfl ?_
   try simp only [Act.put, p1, p2, p3, p4, p5, p6]
   refine tks 21 rfl ?_
   try simp only [Act.put, p1, p2, p3, p4, p5, p6]
   refine tks 22 rfl ?_
   try simp only [Act.put, p1, p2, p3, p4, p5, p6]
   refine tks 23 rfl ?_
   try simp only [Act.put, p1, p2, p3, p4, p5, p6]
   refine tks 24 rfl ?_
   try simp only [Act.put, p1, p2, p3, p4, p5, p6]
   refine tk0 25 rfl ?_ ?_ ?_
   rotate_left
   ·intro; go_simp <;> with_reducible rfl
   try simp only [Act.put, p1, p2, p3, p4, p5, p6]
   refine tk0 26 rfl ?_ ?_ ?_
   rotate_left
   ·intro; go_simp <;> with_reducible rfl
   try simp only [Act.put, p1, p2, p3, p4, p5, p6]
   refine tk0 27 rfl ?_ ?_ ?_
   rotate_left
   ·intro; go_simp <;> with_reducible rfl
   try simp only [Act.put, p1, p2, p3, p4, p5, p6]
   refine tk0 28 rfl ?_ ?_ ?_
   rotate_left
   ·intro; go_simp <;> with_reducible rfl
   try simp only [Act.put, p1, p2, p3, p4, p5, p6]
   refine wpAnyT_done (by kernel_rfl) ?_ _
   have B9 := lh (B2.out.trans (hb5.mono B2.out.size))
   go_wp2_with (go_at_call 91; fail)
   refine (CL.out _ B9.out).mono ?_
   rintro e w8 ⟨rfl, tb8, h8, f8⟩
   have FX := lh (((Fx.refl g tb w).below B9.out).trans f8)
   clear f8 CL CS CN
   cases hW : a.W with
   | nil =>
    have CB := lh (busy_any h8 (b := false) (by show (!(a.W.take 1).isEmpty) = false; rw [hW]; rfl))
    have HP := lh (happen_any h8 10)
    have EA : endedA a 10 i.master = goes (leaves a) 10 := by unfold endedA; rw [hW]
    have ER : endedR a = [(c.id, 2)] := by unfold endedR; rw [hW, HID.out]
    have HEA := lh EA
    have HER := lh ER
    clear h8 hW EA ER
    go_wp2_with (first | (go_at_call 112; ((with_reducible refine (CB.out).mono ?_); rintro e w9 ⟨rfl, rfl⟩)) | (go_at_call 90; fail))
    refine HP.out.mono ?_
    rintro e w9 ⟨rfl, tb9, h9, f9⟩
    go_wp2
    refine end0 rfl rfl ?_
    rw [HEQ.out, HEA.out, HER.out]
    exact ⟨rfl, tb9, h9, FX.out.trans f9⟩
   | cons n s =>
    have CB := lh (busy_any h8 (b := true) (by show (!(a.W.take 1).isEmpty) = true; rw [hW]; rfl))
    have hk1 := HWK.out n s hW
    have HP := lh (begin_any h8 (c := n) (t := []) (by show a.W.take 1 = [n]; rw [hW]; rfl) (by rw [hk1]; rfl) HRH.out (by have := HR.out; simp only [List.length_append, List.length_singleton]; omega))
    have EA : endedA a 10 i.master = ax.begun (leaves a) n i.master := by unfold endedA; rw [hW]
    have ER : endedR a = [(c.id, 2)] ++ [(n.id, 1)] := by unfold endedR; rw [hW, HID.out]; rfl
    have HEA := lh EA
    have HER := lh ER
    clear h8 hW EA ER hk1
    go_wp2_with (first | (go_at_call 112; ((with_reducible refine (CB.out).mono ?_); rintro e w9 ⟨rfl, rfl⟩)) | (go_at_call 73; fail))
    refine HP.out.mono ?_
    rintro e w9 ⟨rfl, tb9, h9, f9⟩
    rw [List.append_assoc] at h9
    go_wp2
    refine end0 rfl rfl ?_
    rw [HEQ.out, HEA.out, HER.out]
    exact ⟨rfl, tb9, h9, FX.out.trans f9⟩
  have b5 : (c.kind == 5) = false := by rw [beq_eq_false_iff_ne]; exact h5
  by_cases hp : a.p = c.tgt
  ·have bp : (a.p == c.tgt) = true := by rw [hp]; simp
   have HEQ := lh (HYES.out (HEI.out.2 (.inr ⟨rfl, .inr hp⟩)))
   clear HNO HYES HEI h5 hp
   go_enter Tryz.func78, Tryz.ntmps78
   go_upto_region 1 with (go_at_call 100; ((with_reducible refine (CN.out).mono ?_); rintro e w1 ⟨rfl, hb⟩; have B1 := lh hb; clear hb))
   obtain ⟨y1, y2, y3⟩ := k.boxes1 (w := w1) (c1 := cA c) (t1 := 62) (Below.refl _ _)
   have D : Hid (k.Box _ w1.heap.size 0 (cC c)) := lh y1
   have B2 := lh (B1.out.trans (y2.mono B1.out.size))
   clear y1 y2 d40 d40f d10 d10f
   generalize w1.alloc (.cells #[.int .i64 c.id, .int .i64 c.kind, .int .i64 c.tgt, .int .i64 c.spd, .int .i64 c.mode, .int .i64 c.num, .int .i64 c.den] 62) = w2 at D B2 y3 ⊢
   have H2 := lh (H0.out.below B2.out)
   have hl2 := H2.out.lt
   have ⟨d40, d40f⟩ := k.cell_of H2.out.box (i := 40) rfl
   have ⟨d10, d10f⟩ := k.cell_of H2.out.box (i := 10) rfl
   have ⟨k1, k1f⟩ := k.cell_of D.out (i := 1) rfl
   have ⟨k2, k2f⟩ := k.cell_of D.out (i := 2) rfl
   refine wp_region_T (by kernel_rfl) (fun w' => Below w2.heap.size w2 w') [] (Below.refl _ _).drew (fun hHeld => ?_)
   refine tk0 0 rfl ?_ ?_ ?_
   rotate_left
   ·intro; go_simp <;> with_reducible rfl
   try simp only [Act.put, p1, p2, p3, p4, p6]
   refine tk0 1 rfl ?_ ?_ ?_
   rotate_left
   ·intro; go_simp <;> with_reducible rfl
   try simp only [Act.put, p1, p2, p3, p4, p5, p6]
   refine tk0 2 rfl ?_ ?_ ?_
   rotate_left
   ·intro; go_simp <;> with_reducible rfl
   try simp only [Act.put, p1, p2, p3, p4, p5, p6]
   refine tk 3 rfl ?_ ?_ ?_
   rotate_left
   ·intro w_ hSw; have q0 := (hSw.cell (p := ⟨g, 40, none⟩) hl2).trans d40; clear hSw; go_simp <;> (with_reducible rfl)
   try simp only [Act.put, p1, p2, p3, p4, p5, p6]
   refine tk0 4 rfl ?_ ?_ ?_
   rotate_left
   ·intro; go_simp <;> with_reducible rfl
   try simp only [Act.put, p1, p2, p3, p4, p5, p6]
   refine tk0 5 rfl ?_ ?_ ?_
   rotate_left
   ·intro; go_simp <;> with_reducible rfl
   try simp only [Act.put, p1, p2, p3, p4, p5, p6]
   refine tk0 6 rfl ?_ ?_ ?_
   rotate_left
   ·intro; go_simp <;> with_reducible rfl
   try simp only [Act.put, p1, p2, p3, p4, p5, p6]
   refine tk0 7 rfl ?_ ?_ ?_
   rotate_left
   ·intro; go_simp <;> with_reducible rfl
   try simp only [Act.put, p1, p2, p3, p4, p5, p6]
   refine tk0 8 rfl ?_ ?_ ?_
   rotate_left
   ·intro; go_simp <;> with_reducible rfl
   try simp only [Act.put, p1, p2, p3, p4, p5, p6]
   refine tkv 9 rfl (axV a S N W) (by exact m_y_ax H2.out.ax hl2 13 rfl rfl rfl) ?_
   try simp only [Act.put, p1, p2, p3, p4, p5, p6]
   refine ry [10] ?_
   refine ar1 rfl fun K hK => ?_
   go_simp
   (go_at_call 89; ((with_reducible refine (CS.out _ (B2.out.trans ((Below.refl w2.heap.size w2).drew.mono B2.out.size))).mono ?_); rintro e w5 ⟨rfl, hb0⟩))
   go_wp2_with fail
   have hb5 := ((Below.refl w2.heap.size w2).drew).trans hb0
   clear hb0
   refine hK.out _ _ hb5 (fun hHeld => ?_)
   clear hK K
   try simp only [Act.put, p1, p2, p3, p4, p5, p6]
   refine tk0 11 rfl ?_ ?_ ?_
   rotate_left
   ·intro; go_simp <;> with_reducible rfl
   try simp only [Act.put, p1, p2, p3, p4, p5, p6]
   refine tk0 12 rfl ?_ ?_ ?_
   rotate_left
   ·intro; go_simp <;> with_reducible rfl
   try simp only [Act.put, p1, p2, p3, p4, p5, p6]
   refine tk 13 rfl ?_ ?_ ?_
   rotate_left
   ·intro w_ hSw; have q0 := (hSw.cell (p := ⟨w1.heap.size, 1, none⟩) y3).trans k1; clear hSw; go_simp <;> (with_reducible rfl)
   try simp only [Act.put, p1, p2, p3, p4, p5, p6]
   refine tk0 14 rfl ?_ ?_ ?_
   rotate_left
   ·intro; go_simp <;> with_reducible rfl
   try simp only [Act.put, p1, p2, p3, p4, p5, p6]
   refine tk0 15 rfl ?_ ?_ ?_
   rotate_left
   ·intro; go_simp <;> with_reducible rfl
   try simp only [Act.put, p1, p2, p3, p4, p5, p6]
   refine tk0 16 rfl ?_ ?_ ?_
   rotate_left
   ·intro; go_simp <;> with_reducible rfl
   try simp only [Act.put, p1, p2, p3, p4, p5, p6]
   refine tk0 17 rfl ?_ ?_ ?_
   rotate_left
   ·intro; go_simp <;> with_reducible rfl
   try simp only [Act.put, p1, p2, p3, p4, p5, p6]
   refine tk0 18 rfl ?_ ?_ ?_
   rotate_left
   ·intro; go_simp <;> with_reducible rfl
   try simp only [Act.put, p1, p2, p3, p4, p5, p6]
   refine tk0 19 rfl ?_ ?_ ?_
   rotate_left
   ·intro; go_simp <;> with_reducible rfl
   try simp only [Act.put, p1, p2, p3, p4, p5, p6]
   refine tk0 20 rfl ?_ ?_ ?_
   rotate_left
   ·intro; go_simp <;> with_reducible rfl
   try simp only [Act.put, p1, p2, p3, p4, p5, p6]
   refine tk 21 rfl ?_ ?_ ?_
   rotate_left
   ·intro w_ hSw; have q0 := (hSw.cell (p := ⟨g, 10, none⟩) hl2).trans d10; clear hSw; go_simp <;> (with_reducible rfl)
   try simp only [Act.put, p1, p2, p3, p4, p5, p6]
   refine tk0 22 rfl ?_ ?_ ?_
   rotate_left
   ·intro; go_simp <;> with_reducible rfl
   try simp only [Act.put, p1, p2, p3, p4, p5, p6]
   refine tk 23 rfl ?_ ?_ ?_
   rotate_left
   ·intro w_ hSw; have q0 := (hSw.cell (p := ⟨w1.heap.size, 2, none⟩) y3).trans k2; clear hSw; go_simp <;> (with_reducible rfl)
   try simp only [Act.put, p1, p2, p3, p4, p5, p6]
   refine tk0 24 rfl ?_ ?_ ?_
   rotate_left
   ·intro; go_simp <;> with_reducible rfl
   try simp only [Act.put, p1, p2, p3, p4, p5, p6]
   refine tk0 25 rfl ?_ ?_ ?_
   rotate_left
   ·intro; go_simp <;> with_reducible rfl
   try simp only [Act.put, p1, p2, p3, p4, p5, p6]
   refine tk0 26 rfl ?_ ?_ ?_
   rotate_left
   ·intro; go_simp <;> with_reducible rfl
   try simp only [Act.put, p1, p2, p3, p4, p5, p6]
   refine tk0 27 rfl ?_ ?_ ?_
   rotate_left
   ·intro; go_simp <;> with_reducible rfl
   try simp only [Act.put, p1, p2, p3, p4, p5, p6]
   refine tk0 28 rfl ?_ ?_ ?_
   rotate_left
   ·intro; go_simp <;> with_reducible rfl
   try simp only [Act.put, p1, p2, p3, p4, p5, p6]
   refine wpAnyT_done (by kernel_rfl) ?_ _
   have B9 := lh (B2.out.trans (hb5.mono B2.out.size))
   go_wp2_with (go_at_call 91; fail)
   refine (CL.out _ B9.out).mono ?_
   rintro e w8 ⟨rfl, tb8, h8, f8⟩
   have FX := lh (((Fx.refl g tb w).below B9.out).trans f8)
   clear f8 CL CS CN
   cases hW : a.W with
   | nil =>
    have CB := lh (busy_any h8 (b := false) (by show (!(a.W.take 1).isEmpty) = false; rw [hW]; rfl))
    have HP := lh (happen_any h8 10)
    have EA : endedA a 10 i.master = goes (leaves a) 10 := by unfold endedA; rw [hW]
    have ER : endedR a = [(c.id, 2)] := by unfold endedR; rw [hW, HID.out]
    have HEA := lh EA
    have HER := lh ER
    clear h8 hW EA ER
    go_wp2_with (first | (go_at_call 112; ((with_reducible refine (CB.out).mono ?_); rintro e w9 ⟨rfl, rfl⟩)) | (go_at_call 90; fail))
    refine HP.out.mono ?_
    rintro e w9 ⟨rfl, tb9, h9, f9⟩
    go_wp2
    refine end0 rfl rfl ?_
    rw [HEQ.out, HEA.out, HER.out]
    exact ⟨rfl, tb9, h9, FX.out.trans f9⟩
   | cons n s =>
    have CB := lh (busy_any h8 (b := true) (by show (!(a.W.take 1).isEmpty) = true; rw [hW]; rfl))
    have hk1 := HWK.out n s hW
    have HP := lh (begin_any h8 (c := n) (t := []) (by show a.W.take 1 = [n]; rw [hW]; rfl) (by rw [hk1]; rfl) HRH.out (by have := HR.out; simp only [List.length_append, List.length_singleton]; omega))
    have EA : endedA a 10 i.master = ax.begun (leaves a) n i.master := by unfold endedA; rw [hW]
    have ER : endedR a = [(c.id, 2)] ++ [(n.id, 1)] := by unfold endedR; rw [hW, HID.out]; rfl
    have HEA := lh EA
    have HER := lh ER
    clear h8 hW EA ER hk1
    go_wp2_with (first | (go_at_call 112; ((with_reducible refine (CB.out).mono ?_); rintro e w9 ⟨rfl, rfl⟩)) | (go_at_call 73; fail))
    refine HP.out.mono ?_
    rintro e w9 ⟨rfl, tb9, h9, f9⟩
    rw [List.append_assoc] at h9
    go_wp2
    refine end0 rfl rfl ?_
    rw [HEQ.out, HEA.out, HER.out]
    exact ⟨rfl, tb9, h9, FX.out.trans f9⟩
  ·have bp : (a.p == c.tgt) = false := by rw [beq_eq_false_iff_ne]; exact hp
   have HEQ := lh (HNO.out fun hm => by
    rcases HEI.out.1 hm with h | ⟨_, h | h⟩
    ·cases h
    ·exact h5 h
    ·exact hp h)
   clear HNO HYES HEI h5 hp
   go_enter Tryz.func78, Tryz.ntmps78
   go_upto_region 1 with (go_at_call 100; ((with_reducible refine (CN.out).mono ?_); rintro e w1 ⟨rfl, hb⟩; have B1 := lh hb; clear hb))
   obtain ⟨y1, y2, y3⟩ := k.boxes1 (w := w1) (c1 := cA c) (t1 := 62) (Below.refl _ _)
   have D : Hid (k.Box _ w1.heap.size 0 (cC c)) := lh y1
   have B2 := lh (B1.out.trans (y2.mono B1.out.size))
   clear y1 y2 d40 d40f d10 d10f
   generalize w1.alloc (.cells #[.int .i64 c.id, .int .i64 c.kind, .int .i64 c.tgt, .int .i64 c.spd, .int .i64 c.mode, .int .i64 c.num, .int .i64 c.den] 62) = w2 at D B2 y3 ⊢
   have H2 := lh (H0.out.below B2.out)
   have hl2 := H2.out.lt
   have ⟨d40, d40f⟩ := k.cell_of H2.out.box (i := 40) rfl
   have ⟨d10, d10f⟩ := k.cell_of H2.out.box (i := 10) rfl
   have ⟨k1, k1f⟩ := k.cell_of D.out (i := 1) rfl
   have ⟨k2, k2f⟩ := k.cell_of D.out (i := 2) rfl
   refine wp_region_T (by kernel_rfl) (fun w' => Below w2.heap.size w2 w') [] (Below.refl _ _).drew (fun hHeld => ?_)
   refine tk0 0 rfl ?_ ?_ ?_
   rotate_left
   ·intro; go_simp <;> with_reducible rfl
   try simp only [Act.put, p1, p2, p3, p4, p6]
   refine tk0 1 rfl ?_ ?_ ?_
   rotate_left
   ·intro; go_simp <;> with_reducible rfl
   try simp only [Act.put, p1, p2, p3, p4, p5, p6]
   refine tk0 2 rfl ?_ ?_ ?_
   rotate_left
   ·intro; go_simp <;> with_reducible rfl
   try simp only [Act.put, p1, p2, p3, p4, p5, p6]
   refine tk 3 rfl ?_ ?_ ?_
   rotate_left
   ·intro w_ hSw; have q0 := (hSw.cell (p := ⟨g, 40, none⟩) hl2).trans d40; clear hSw; go_simp <;> (with_reducible rfl)
   try simp only [Act.put, p1, p2, p3, p4, p5, p6]
   refine tk0 4 rfl ?_ ?_ ?_
   rotate_left
   ·intro; go_simp <;> with_reducible rfl
   try simp only [Act.put, p1, p2, p3, p4, p5, p6]
   refine tk0 5 rfl ?_ ?_ ?_
   rotate_left
   ·intro; go_simp <;> with_reducible rfl
   try simp only [Act.put, p1, p2, p3, p4, p5, p6]
   refine tk0 6 rfl ?_ ?_ ?_
   rotate_left
   ·intro; go_simp <;> with_reducible rfl
   try simp only [Act.put, p1, p2, p3, p4, p5, p6]
   refine tk0 7 rfl ?_ ?_ ?_
   rotate_left
   ·intro; go_simp <;> with_reducible rfl
   try simp only [Act.put, p1, p2, p3, p4, p5, p6]
   refine tk0 8 rfl ?_ ?_ ?_
   rotate_left
   ·intro; go_simp <;> with_reducible rfl
   try simp only [Act.put, p1, p2, p3, p4, p5, p6]
   refine tkv 9 rfl (axV a S N W) (by exact m_y_ax H2.out.ax hl2 13 rfl rfl rfl) ?_
   try simp only [Act.put, p1, p2, p3, p4, p5, p6]
   refine ry [10] ?_
   refine ar1 rfl fun K hK => ?_
   go_simp
   (go_at_call 89; ((with_reducible refine (CS.out _ (B2.out.trans ((Below.refl w2.heap.size w2).drew.mono B2.out.size))).mono ?_); rintro e w5 ⟨rfl, hb0⟩))
   go_wp2_with fail
   have hb5 := ((Below.refl w2.heap.size w2).drew).trans hb0
   clear hb0
   refine hK.out _ _ hb5 (fun hHeld => ?_)
   clear hK K
   try simp only [Act.put, p1, p2, p3, p4, p5, p6]
   refine tk0 11 rfl ?_ ?_ ?_
   rotate_left
   ·intro; go_simp <;> with_reducible rfl
   try simp only [Act.put, p1, p2, p3, p4, p5, p6]
   refine tk0 12 rfl ?_ ?_ ?_
   rotate_left
   ·intro; go_simp <;> with_reducible rfl
   try simp only [Act.put, p1, p2, p3, p4, p5, p6]
   refine tk 13 rfl ?_ ?_ ?_
   rotate_left
   ·intro w_ hSw; have q0 := (hSw.cell (p := ⟨w1.heap.size, 1, none⟩) y3).trans k1; clear hSw; go_simp <;> (with_reducible rfl)
   try simp only [Act.put, p1, p2, p3, p4, p5, p6]
   refine tk0 14 rfl ?_ ?_ ?_
   rotate_left
   ·intro; go_simp <;> with_reducible rfl
   try simp only [Act.put, p1, p2, p3, p4, p5, p6]
   refine tk0 15 rfl ?_ ?_ ?_
   rotate_left
   ·intro; go_simp <;> with_reducible rfl
   try simp only [Act.put, p1, p2, p3, p4, p5, p6]
   refine tk0 16 rfl ?_ ?_ ?_
   rotate_left
   ·intro; go_simp <;> with_reducible rfl
   try simp only [Act.put, p1, p2, p3, p4, p5, p6]
   refine tk0 17 rfl ?_ ?_ ?_
   rotate_left
   ·intro; go_simp <;> with_reducible rfl
   try simp only [Act.put, p1, p2, p3, p4, p5, p6]
   refine tk0 18 rfl ?_ ?_ ?_
   rotate_left
   ·intro; go_simp <;> with_reducible rfl
   try simp only [Act.put, p1, p2, p3, p4, p5, p6]
   refine tk0 19 rfl ?_ ?_ ?_
   rotate_left
   ·intro; go_simp <;> with_reducible rfl
   try simp only [Act.put, p1, p2, p3, p4, p5, p6]
   refine tk0 20 rfl ?_ ?_ ?_
   rotate_left
   ·intro; go_simp <;> with_reducible rfl
   try simp only [Act.put, p1, p2, p3, p4, p5, p6]
   refine tk 21 rfl ?_ ?_ ?_
   rotate_left
   ·intro w_ hSw; have q0 := (hSw.cell (p := ⟨g, 10, none⟩) hl2).trans d10; clear hSw; go_simp <;> (with_reducible rfl)
   try simp only [Act.put, p1, p2, p3, p4, p5, p6]
   refine tk0 22 rfl ?_ ?_ ?_
   rotate_left
   ·intro; go_simp <;> with_reducible rfl
   try simp only [Act.put, p1, p2, p3, p4, p5, p6]
   refine tk 23 rfl ?_ ?_ ?_
   rotate_left
   ·intro w_ hSw; have q0 := (hSw.cell (p := ⟨w1.heap.size, 2, none⟩) y3).trans k2; clear hSw; go_simp <;> (with_reducible rfl)
   try simp only [Act.put, p1, p2, p3, p4, p5, p6]
   refine tk0 24 rfl ?_ ?_ ?_
   rotate_left
   ·intro; go_simp <;> with_reducible rfl
   try simp only [Act.put, p1, p2, p3, p4, p5, p6]
   refine tk0 25 rfl ?_ ?_ ?_
   rotate_left
   ·intro; go_simp <;> with_reducible rfl
   try simp only [Act.put, p1, p2, p3, p4, p5, p6]
   refine tk0 26 rfl ?_ ?_ ?_
   rotate_left
   ·intro; go_simp <;> with_reducible rfl
   try simp only [Act.put, p1, p2, p3, p4, p5, p6]
   refine tk0 27 rfl ?_ ?_ ?_
   rotate_left
   ·intro; go_simp <;> with_reducible rfl
   try simp only [Act.put, p1, p2, p3, p4, p5, p6]
   refine tk0 28 rfl ?_ ?_ ?_
   rotate_left
   ·intro; go_simp <;> with_reducible rfl
   try simp only [Act.put, p1, p2, p3, p4, p5, p6]
   refine wpAnyT_done (by kernel_rfl) ?_ _
   have B9 := lh (B2.out.trans (hb5.mono B2.out.size))
   go_wp2
   refine ret0 rfl rfl ?_
   rw [HEQ.out]
   exact ⟨rfl, tb, HC.out.below B9.out, (Fx.refl g tb w).below B9.out⟩
end
end Go.Proofs.YtijlccblabadaaaGreat.cx
end
section
namespace Go.Proofs.YtijlccblabadaaaGreat.cx
open Go.ChangeShapes Go.WideShapes Go.ChangeAt Go.RowKit Go.Proofs.YtijlccblabadaaaGreat.k Go.Proofs.YtijlccblabadaaaGreat.rr Go.Proofs.YtijlccblabadaaaGreat.ax
open Go.Proofs.YtijlccblabadaaaGreat.ln (C RdC RdI iC cC cV lnV)
set_option linter.unusedVariables false
set_option maxRecDepth 100000
section
variable {base g : Nat} {i : In} {L : Sl} {a : Ax} {R : List Rp} {fr pa : Bool} {w : World} {tb : Option Nat}
theorem Cy.repushed2 {S N W T : Sl} (h : Cy base g i L a S N W T R fr pa w) {w1 w2 : World} (hb : Below w.heap.size w w1) (ho : Only g w1 w2) {a' : Ax} {S' : Sl} (hS : RdI w1 w1.heap.size S'.A S'.n S'.c a'.sm) (hf : mm.From w S.A S'.A) (hp : 0 < S.n) (h2 : a'.N = a.N) (h3 : a'.W = a.W)
  {fr' pa' : Bool} (hbox : k.Box w2 g 0 (cyC a' S' N W i L T fr' pa')) : Cy base g i L a' S' N W T R fr' pa' w2 :=
 have hl := h.lt
 have hg := h.hg
 have hr := (h.below hb).rows
 (h.below hb).to ho hbox ⟨hS, by rw [h2]; exact hr.N, by rw [h3]; exact hr.W⟩ ⟨off_from hf hp h.off.S hl, h.off.N, h.off.W⟩ (fun q hq => ⟨off_from hf hp (h.new q hq).S (by omega), (h.new q hq).N, (h.new q hq).W⟩)
  fun b hb2 => ⟨off_from hf hp (h.offT b hb2).S (h.tb_lt hb2).2, (h.offT b hb2).N, (h.offT b hb2).W⟩
theorem found_is {a : Ax} (hr : RightA a) (hs : StillP a) : ({ shiftA a a.homeAt with homed := true } : Ax) = found a := by
 have hw := right_win hr
 have hp := place_in hr
 obtain ⟨_, m1, m2, m3, m4, _⟩ := hr.made
 have hl := hr.limits.2.2.2.2.2.2
 have hv : a.v = 0 := hs.2
 have hne : a.sm ≠ [] := fun h => by have := hw.1; rw [h] at this; simp at this
 have hall : ∀ x ∈ a.sm, x = a.p := by
  intro x hx
  rw [hs.1 x hx]
  cases hsm : a.sm with
  | nil => exact absurd hsm hne
  | cons y t => exact hr.newest y (by rw [hsm]; rfl)
 have e1 : mm.shiftW a.sm (a.homeAt - a.p) = full a.win a.homeAt := by
  unfold mm.shiftW
  rw [if_pos ⟨hw, fun x hx => by rw [hall x hx]; unfold mm.inP; omega⟩]
  unfold full
  have hlen : a.win.toNat = a.sm.length := by have := hr.len; omega
  rw [hlen]
  refine List.ext_getElem (by simp) fun n h1 h2 => ?_
  rw [List.getElem_map, List.getElem_replicate, hall _ (List.getElem_mem _)]
  omega
 unfold found stood shiftA homeOff
 rw [e1, hv]
set_option maxHeartbeats 8000000 in
theorem homed_any (h : Cyc base g i L tb a R fr pa w) (hr : RightA a) (h2 : a.st = 2) (hs : StillP a) (hR : R.length ≤ 7000) :
  Calls Tryz.prog 113 #[.pointer (some ⟨g, 0, none⟩)] w (Does base g i L tb w (if FarP (homeOff a) then goes (leaves (found a)) 4 else failed a 5) (R ++ if FarP (homeOff a) then [(idOf a, 2)] else failedR a) fr pa) := by
 obtain ⟨⟨c, t, hN⟩, hW⟩ := home_line hr h2
 have hfe := found_is hr hs
 have hid : idOf a = c.id := by unfold idOf; rw [hN]
 rw [hid]
 have HC := lh h
 obtain ⟨S, N, W, T, h0, ht⟩ := h
 have H0 := lh h0
 have hlt := h0.lt
 have hp := place_in hr
 obtain ⟨_, m1, m2, m3, m4, _⟩ := hr.made
 have hl := hr.limits.2.2.2.2.2.2
 have hf := hr.far
 have hoff : homeOff a = a.off - (a.homeAt - a.p) := rfl
 obtain ⟨fb, hfb⟩ : ∃ z, decide (FarP (a.off - (a.homeAt - a.p))) = z := ⟨_, rfl⟩
 have CSH := lh fun (U : World) (hb : Below w.heap.size w U) => shifted_any a (h0.below hb).rows (Nat.le_refl _) (by have := (right_win hr).2.1; omega) (q := a.homeAt) (d := a.homeAt - a.p) rfl (small (by omega) (by omega)) (small (by omega) (by omega)) (small (by unfold FarP at hf; omega) (by unfold FarP at hf; omega)) hfb
 have HRL := lh hr.line
 have hpS : 0 < S.n := by rw [← h0.rows.S.1]; exact (right_win hr).1
 have HN := lh hN
 have HFE := lh hfe
 have HR := lh hR
 have HST := lh h2
 have HWL := lh hW
 clear hW hN hfe hid hp m1 m2 m3 m4 hl hf hr hs hR h0 h2 hoff
 have ⟨d7, d7f⟩ := k.cell_of H0.out.box (i := 7) rfl
 have HPS := lh hpS
 clear hpS
 cases fb
 ·have hnf : ¬ FarP (homeOff a) := of_decide_eq_false hfb
  rw [if_neg hnf, if_neg hnf]
  clear hnf hfb
  go_enter Tryz.func113, Tryz.ntmps113
  go_upto_region 0 with fail
  refine wp_region_T (by kernel_rfl) (fun w' => Below w.heap.size w w') [] (Below.refl _ _).drew (fun hHeld => ?_)
  refine tk0 0 rfl ?_ ?_ ?_
  rotate_left
  ·intro; go_simp <;> with_reducible rfl
  try simp only [Act.put, p1, p2, p3, p4, p6]
  refine tk0 1 rfl ?_ ?_ ?_
  rotate_left
  ·intro; go_simp <;> with_reducible rfl
  try simp only [Act.put, p1, p2, p3, p4, p5, p6]
  refine tk0 2 rfl ?_ ?_ ?_
  rotate_left
  ·intro; go_simp <;> with_reducible rfl
  try simp only [Act.put, p1, p2, p3, p4, p5, p6]
  refine tkv 3 rfl (axV a S N W) (by exact m_y_ax H0.out.ax hlt 7 rfl rfl rfl) ?_
  try simp only [Act.put, p1, p2, p3, p4, p5, p6]
  refine tk0 4 rfl ?_ ?_ ?_
  rotate_left
  ·intro; go_simp <;> with_reducible rfl
  try simp only [Act.put, p1, p2, p3, p4, p5, p6]
  refine tk0 5 rfl ?_ ?_ ?_
  rotate_left
  ·intro; go_simp <;> with_reducible rfl
  try simp only [Act.put, p1, p2, p3, p4, p5, p6]
  refine tk0 6 rfl ?_ ?_ ?_
  rotate_left
  ·intro; go_simp <;> with_reducible rfl
  try simp only [Act.put, p1, p2, p3, p4, p5, p6]
  refine tk0 7 rfl ?_ ?_ ?_
  rotate_left
  ·intro; go_simp <;> with_reducible rfl
  try simp only [Act.put, p1, p2, p3, p4, p5, p6]
  refine tk 8 rfl ?_ ?_ ?_
  rotate_left
  ·intro w_ hSw; have q0 := (hSw.cell (p := ⟨g, 7, none⟩) hlt).trans d7; clear hSw; go_simp <;> (with_reducible rfl)
  try simp only [Act.put, p1, p2, p3, p4, p5, p6]
  refine ry [9, 13] ?_
  refine AllReadyT.cons rfl (fun K hK => ?_) (AllReadyT.cons rfl (fun K hK => ?_) AllReadyT.nil)
  ·go_simp
   (go_at_call 138; ((with_reducible refine (CSH.out _ ((Below.refl w.heap.size w).drew)).mono ?_); rintro e w5 ⟨S', rfl, hs1, hf1, hb0⟩))
   go_wp2_with fail
   have hb5 := ((Below.refl w.heap.size w).drew).trans hb0
   refine hK.out _ _ hb5 (fun hHeld => ?_)
   clear hK K
   try simp only [Act.put, p1, p2, p3, p4, p5, p6]
   refine tk0 10 rfl ?_ ?_ ?_
   rotate_left
   ·intro; go_simp <;> with_reducible rfl
   try simp only [Act.put, p1, p2, p3, p4, p5, p6]
   refine tk0 11 rfl ?_ ?_ ?_
   rotate_left
   ·intro; go_simp <;> with_reducible rfl
   try simp only [Act.put, p1, p2, p3, p4, p5, p6]
   refine tk0 12 rfl ?_ ?_ ?_
   rotate_left
   ·intro; go_simp <;> with_reducible rfl
   try simp only [Act.put, p1, p2, p3, p4, p5, p6]
   refine ry [13] ?_
   refine ar1 rfl fun K hK => ?_
   go_simp
   go_wp2_with fail
   refine hK.out _ _ (hb5.alloc hb5.size _) (fun hHeld => ?_)
   clear hK K
   try simp only [Act.put, p1, p2, p3, p4, p5, p6]
   refine ry [14] ?_
   refine ar1 rfl fun K hK => ?_
   rw [if_pos (by rfl)]
   refine m_w_new (w := w5) (shiftA a a.homeAt) S' N W 2 15 rfl rfl rfl rfl ?_
   intro w6 x6 hb6 hz6
   have hb7 := hb5.trans (hb6.mono hb5.size)
   refine hK.out _ _ hb7 (fun hHeld => ?_)
   clear hK K
   try simp only [Act.put, p1, p2, p3, p4, p5, p6]
   refine tk0 15 rfl ?_ ?_ ?_
   rotate_left
   ·intro; go_simp <;> with_reducible rfl
   try simp only [Act.put, p1, p2, p3, p4, p5, p6]
   refine wpAnyT_done (by kernel_rfl) ?_ _
   have Y := lh x6
   have B6 := lh hb7
   have RS := lh (rd_past hs1 hb6)
   have FS : Hid (mm.From w S.A S'.A) := lh hf1
   have H6 := lh (H0.out.below hb7)
   clear hs1 hf1 hb0 hb5 x6 hb6 hb7 d7 d7f hHeld CSH
   go_wp2_with (go_at_call 67; fail)
   refine (fail_any (HC.out.below B6.out) HRL.out (by have := HR.out; omega) 5).mono ?_
   rintro e w7 ⟨rfl, tb7, h7, f7⟩
   go_wp2
   exact ret0 rfl rfl ⟨rfl, tb7, h7, ((Fx.refl g tb w).below B6.out).trans f7⟩
  ·go_simp
   go_wp2_with fail
   have hbB := ((Below.refl w.heap.size w).alloc (Nat.le_refl _) (.cells zAx 35)).drew
   refine hK.out _ _ hbB (fun hHeld => ?_)
   clear hK K
   try simp only [Act.put, p1, p2, p3, p4, p5, p6]
   refine ry [9] ?_
   refine ar1 rfl fun K hK => ?_
   go_simp
   (go_at_call 138; ((with_reducible refine (CSH.out _ hbB).mono ?_); rintro e w5 ⟨S', rfl, hs1, hf1, hb0⟩))
   go_wp2_with fail
   obtain ⟨y1, y2, y3⟩ := k.boxes1 (w := w) (c1 := zAx) (t1 := 35) (((Below.refl _ _).drew).trans hb0)
   have hb5 : Below w.heap.size w w5 := y2
   refine hK.out _ _ hb5 (fun hHeld => ?_)
   clear hK K
   try simp only [Act.put, p1, p2, p3, p4, p5, p6]
   refine tk0 10 rfl ?_ ?_ ?_
   rotate_left
   ·intro; go_simp <;> with_reducible rfl
   try simp only [Act.put, p1, p2, p3, p4, p5, p6]
   refine tk0 11 rfl ?_ ?_ ?_
   rotate_left
   ·intro; go_simp <;> with_reducible rfl
   try simp only [Act.put, p1, p2, p3, p4, p5, p6]
   refine tk0 12 rfl ?_ ?_ ?_
   rotate_left
   ·intro; go_simp <;> with_reducible rfl
   try simp only [Act.put, p1, p2, p3, p4, p5, p6]
   refine ry [14] ?_
   refine ar1 rfl fun K hK => ?_
   rw [if_pos (by rfl)]
   refine m_w_old (g := w.heap.size) y1 rfl (shiftA a a.homeAt) S' N W 2 15 rfl rfl rfl rfl ?_
   intro w6 hw6 x6 hb6 ha6 hs6
   have hb7 : Below w.heap.size w w6 := hb5.trans hb6
   have ho6 := (Only.refl w.heap.size w5).sets (axC (shiftA a a.homeAt) S' N W) 0
   rw [hw6] at ho6
   have hoff6 : Off w.heap.size ⟨S'.A, S'.n, S'.c⟩ := off_from (w := (w.alloc (.cells zAx 35)).drew) hf1 HPS.out (by
     intro hn b o x e
     obtain ⟨b2, o2, e2, hb2, _⟩ := H0.out.rows.S.2.2.2.2 hn
     dsimp only at e
     rw [e] at e2
     injection e2 with e2
     injection e2 with e2 _ _
     omega) (by simp [World.drew])
   refine hK.out _ _ hb7 (fun hHeld => ?_)
   clear hK K
   try simp only [Act.put, p1, p2, p3, p4, p5, p6]
   refine tk0 15 rfl ?_ ?_ ?_
   rotate_left
   ·intro; go_simp <;> with_reducible rfl
   try simp only [Act.put, p1, p2, p3, p4, p5, p6]
   refine wpAnyT_done (by kernel_rfl) ?_ _
   have Y := lh x6
   have B6 := lh hb7
   have RS := lh (rd_only hs1 ho6 hoff6)
   have FS : Hid (mm.From w S.A S'.A) := lh (fun b o x e => (hf1 b o x e).imp id (fun h => by simp [World.drew] at h; omega))
   have H6 := lh (H0.out.below hb7)
   clear hs1 hf1 hb0 hb5 x6 hb6 hb7 d7 d7f hHeld CSH hw6 ha6 hs6 ho6 hoff6 y1 y2 y3 hbB
   go_wp2_with (go_at_call 67; fail)
   refine (fail_any (HC.out.below B6.out) HRL.out (by have := HR.out; omega) 5).mono ?_
   rintro e w7 ⟨rfl, tb7, h7, f7⟩
   go_wp2
   exact ret0 rfl rfl ⟨rfl, tb7, h7, ((Fx.refl g tb w).below B6.out).trans f7⟩
 ·have hyf : FarP (homeOff a) := of_decide_eq_true hfb
  rw [if_pos hyf, if_pos hyf]
  clear hyf hfb
  go_enter Tryz.func113, Tryz.ntmps113
  go_upto_region 0 with fail
  refine wp_region_T (by kernel_rfl) (fun w' => Below w.heap.size w w') [] (Below.refl _ _).drew (fun hHeld => ?_)
  refine tk0 0 rfl ?_ ?_ ?_
  rotate_left
  ·intro; go_simp <;> with_reducible rfl
  try simp only [Act.put, p1, p2, p3, p4, p6]
  refine tk0 1 rfl ?_ ?_ ?_
  rotate_left
  ·intro; go_simp <;> with_reducible rfl
  try simp only [Act.put, p1, p2, p3, p4, p5, p6]
  refine tk0 2 rfl ?_ ?_ ?_
  rotate_left
  ·intro; go_simp <;> with_reducible rfl
  try simp only [Act.put, p1, p2, p3, p4, p5, p6]
  refine tkv 3 rfl (axV a S N W) (by exact m_y_ax H0.out.ax hlt 7 rfl rfl rfl) ?_
  try simp only [Act.put, p1, p2, p3, p4, p5, p6]
  refine tk0 4 rfl ?_ ?_ ?_
  rotate_left
  ·intro; go_simp <;> with_reducible rfl
  try simp only [Act.put, p1, p2, p3, p4, p5, p6]
  refine tk0 5 rfl ?_ ?_ ?_
  rotate_left
  ·intro; go_simp <;> with_reducible rfl
  try simp only [Act.put, p1, p2, p3, p4, p5, p6]
  refine tk0 6 rfl ?_ ?_ ?_
  rotate_left
  ·intro; go_simp <;> with_reducible rfl
  try simp only [Act.put, p1, p2, p3, p4, p5, p6]
  refine tk0 7 rfl ?_ ?_ ?_
  rotate_left
  ·intro; go_simp <;> with_reducible rfl
  try simp only [Act.put, p1, p2, p3, p4, p5, p6]
  refine tk 8 rfl ?_ ?_ ?_
  rotate_left
  ·intro w_ hSw; have q0 := (hSw.cell (p := ⟨g, 7, none⟩) hlt).trans d7; clear hSw; go_simp <;> (with_reducible rfl)
  try simp only [Act.put, p1, p2, p3, p4, p5, p6]
  refine ry [9, 13] ?_
  refine AllReadyT.cons rfl (fun K hK => ?_) (AllReadyT.cons rfl (fun K hK => ?_) AllReadyT.nil)
  ·go_simp
   (go_at_call 138; ((with_reducible refine (CSH.out _ ((Below.refl w.heap.size w).drew)).mono ?_); rintro e w5 ⟨S', rfl, hs1, hf1, hb0⟩))
   go_wp2_with fail
   have hb5 := ((Below.refl w.heap.size w).drew).trans hb0
   refine hK.out _ _ hb5 (fun hHeld => ?_)
   clear hK K
   try simp only [Act.put, p1, p2, p3, p4, p5, p6]
   refine tk0 10 rfl ?_ ?_ ?_
   rotate_left
   ·intro; go_simp <;> with_reducible rfl
   try simp only [Act.put, p1, p2, p3, p4, p5, p6]
   refine tk0 11 rfl ?_ ?_ ?_
   rotate_left
   ·intro; go_simp <;> with_reducible rfl
   try simp only [Act.put, p1, p2, p3, p4, p5, p6]
   refine tk0 12 rfl ?_ ?_ ?_
   rotate_left
   ·intro; go_simp <;> with_reducible rfl
   try simp only [Act.put, p1, p2, p3, p4, p5, p6]
   refine ry [13] ?_
   refine ar1 rfl fun K hK => ?_
   go_simp
   go_wp2_with fail
   refine hK.out _ _ (hb5.alloc hb5.size _) (fun hHeld => ?_)
   clear hK K
   try simp only [Act.put, p1, p2, p3, p4, p5, p6]
   refine ry [14] ?_
   refine ar1 rfl fun K hK => ?_
   rw [if_pos (by rfl)]
   refine m_w_new (w := w5) (shiftA a a.homeAt) S' N W 2 15 rfl rfl rfl rfl ?_
   intro w6 x6 hb6 hz6
   have hb7 := hb5.trans (hb6.mono hb5.size)
   refine hK.out _ _ hb7 (fun hHeld => ?_)
   clear hK K
   try simp only [Act.put, p1, p2, p3, p4, p5, p6]
   refine tk0 15 rfl ?_ ?_ ?_
   rotate_left
   ·intro; go_simp <;> with_reducible rfl
   try simp only [Act.put, p1, p2, p3, p4, p5, p6]
   refine wpAnyT_done (by kernel_rfl) ?_ _
   have Y := lh x6
   have B6 := lh hb7
   have RS := lh (rd_past hs1 hb6)
   have FS : Hid (mm.From w S.A S'.A) := lh hf1
   have H6 := lh (H0.out.below hb7)
   clear hs1 hf1 hb0 hb5 x6 hb6 hb7 d7 d7f hHeld CSH
   have hl6 := H6.out.lt
   have ⟨e16, e16f⟩ := k.cell_of H6.out.box (i := 16) rfl
   go_upto_region 4 with (first | ((with_reducible refine m_ax_load Y.out 2 ?_ ?_ ?_ ?_); rfl; rfl; rfl; (try simp only [Act.put])) | ((with_reducible refine m_l_cy H6.out.box (shiftA a a.homeAt) S' N W 24 22 ?_ ?_ ?_ ?_ ?_ ?_); rfl; rfl; rfl; rfl; rfl; intro w7 ho hx; have HO := lh ho; have HX := lh hx; clear ho hx))
   have h7 := H0.out.repushed2 B6.out HO.out (a' := shiftA a a.homeAt) (S' := S') RS.out FS.out HPS.out rfl rfl HX.out
   have H7 := lh h7
   have FX := lh (((Fx.refl g tb w).below B6.out).only HO.out)
   clear h7 HX HO e16 e16f
   have ⟨e16, e16f⟩ := k.cell_of H7.out.box (i := 16) rfl
   go_wp2_with (go_at_call 91; fail)
   have ho := (Only.refl g w7).set 16 (.bool true)
   have h8 := H7.out.as (a' := { shiftA a a.homeAt with homed := true }) ho (k.Box.put H7.out.box 16 (by simp) _) rfl rfl rfl
   rw [HFE.out] at h8
   refine (leave_some (a := found a) ⟨_, _, _, _, h8, ht⟩ HRL.out (c := c) (t := t) HN.out (by have := HR.out; omega) 2).mono ?_
   rintro e w9 ⟨rfl, tb9, h9, f9⟩
   have FX := lh ((FX.out.only ho).trans f9)
   have HP := lh (happen_any h9 4)
   clear h9 f9 h8 ho
   go_wp2_with (go_at_call 90; fail)
   refine HP.out.mono ?_
   rintro e w10 ⟨rfl, tb10, h10, f10⟩
   go_wp2
   exact end0 rfl rfl ⟨rfl, tb10, h10, FX.out.trans f10⟩
  ·go_simp
   go_wp2_with fail
   have hbB := ((Below.refl w.heap.size w).alloc (Nat.le_refl _) (.cells zAx 35)).drew
   refine hK.out _ _ hbB (fun hHeld => ?_)
   clear hK K
   try simp only [Act.put, p1, p2, p3, p4, p5, p6]
   refine ry [9] ?_
   refine ar1 rfl fun K hK => ?_
   go_simp
   (go_at_call 138; ((with_reducible refine (CSH.out _ hbB).mono ?_); rintro e w5 ⟨S', rfl, hs1, hf1, hb0⟩))
   go_wp2_with fail
   obtain ⟨y1, y2, y3⟩ := k.boxes1 (w := w) (c1 := zAx) (t1 := 35) (((Below.refl _ _).drew).trans hb0)
   have hb5 : Below w.heap.size w w5 := y2
   refine hK.out _ _ hb5 (fun hHeld => ?_)
   clear hK K
   try simp only [Act.put, p1, p2, p3, p4, p5, p6]
   refine tk0 10 rfl ?_ ?_ ?_
   rotate_left
   ·intro; go_simp <;> with_reducible rfl
   try simp only [Act.put, p1, p2, p3, p4, p5, p6]
   refine tk0 11 rfl ?_ ?_ ?_
   rotate_left
   ·intro; go_simp <;> with_reducible rfl
   try simp only [Act.put, p1, p2, p3, p4, p5, p6]
   refine tk0 12 rfl ?_ ?_ ?_
   rotate_left
   ·intro; go_simp <;> with_reducible rfl
   try simp only [Act.put, p1, p2, p3, p4, p5, p6]
   refine ry [14] ?_
   refine ar1 rfl fun K hK => ?_
   rw [if_pos (by rfl)]
   refine m_w_old (g := w.heap.size) y1 rfl (shiftA a a.homeAt) S' N W 2 15 rfl rfl rfl rfl ?_
   intro w6 hw6 x6 hb6 ha6 hs6
   have hb7 : Below w.heap.size w w6 := hb5.trans hb6
   have ho6 := (Only.refl w.heap.size w5).sets (axC (shiftA a a.homeAt) S' N W) 0
   rw [hw6] at ho6
   have hoff6 : Off w.heap.size ⟨S'.A, S'.n, S'.c⟩ := off_from (w := (w.alloc (.cells zAx 35)).drew) hf1 HPS.out (by
     intro hn b o x e
     obtain ⟨b2, o2, e2, hb2, _⟩ := H0.out.rows.S.2.2.2.2 hn
     dsimp only at e
     rw [e] at e2
     injection e2 with e2
     injection e2 with e2 _ _
     omega) (by simp [World.drew])
   refine hK.out _ _ hb7 (fun hHeld => ?_)
   clear hK K
   try simp only [Act.put, p1, p2, p3, p4, p5, p6]
   refine tk0 15 rfl ?_ ?_ ?_
   rotate_left
   ·intro; go_simp <;> with_reducible rfl
   try simp only [Act.put, p1, p2, p3, p4, p5, p6]
   refine wpAnyT_done (by kernel_rfl) ?_ _
   have Y := lh x6
   have B6 := lh hb7
   have RS := lh (rd_only hs1 ho6 hoff6)
   have FS : Hid (mm.From w S.A S'.A) := lh (fun b o x e => (hf1 b o x e).imp id (fun h => by simp [World.drew] at h; omega))
   have H6 := lh (H0.out.below hb7)
   clear hs1 hf1 hb0 hb5 x6 hb6 hb7 d7 d7f hHeld CSH hw6 ha6 hs6 ho6 hoff6 y1 y2 y3 hbB
   have hl6 := H6.out.lt
   have ⟨e16, e16f⟩ := k.cell_of H6.out.box (i := 16) rfl
   go_upto_region 4 with (first | ((with_reducible refine m_ax_load Y.out 2 ?_ ?_ ?_ ?_); rfl; rfl; rfl; (try simp only [Act.put])) | ((with_reducible refine m_l_cy H6.out.box (shiftA a a.homeAt) S' N W 24 22 ?_ ?_ ?_ ?_ ?_ ?_); rfl; rfl; rfl; rfl; rfl; intro w7 ho hx; have HO := lh ho; have HX := lh hx; clear ho hx))
   have h7 := H0.out.repushed2 B6.out HO.out (a' := shiftA a a.homeAt) (S' := S') RS.out FS.out HPS.out rfl rfl HX.out
   have H7 := lh h7
   have FX := lh (((Fx.refl g tb w).below B6.out).only HO.out)
   clear h7 HX HO e16 e16f
   have ⟨e16, e16f⟩ := k.cell_of H7.out.box (i := 16) rfl
   go_wp2_with (go_at_call 91; fail)
   have ho := (Only.refl g w7).set 16 (.bool true)
   have h8 := H7.out.as (a' := { shiftA a a.homeAt with homed := true }) ho (k.Box.put H7.out.box 16 (by simp) _) rfl rfl rfl
   rw [HFE.out] at h8
   refine (leave_some (a := found a) ⟨_, _, _, _, h8, ht⟩ HRL.out (c := c) (t := t) HN.out (by have := HR.out; omega) 2).mono ?_
   rintro e w9 ⟨rfl, tb9, h9, f9⟩
   have FX := lh ((FX.out.only ho).trans f9)
   have HP := lh (happen_any h9 4)
   clear h9 f9 h8 ho
   go_wp2_with (go_at_call 90; fail)
   refine HP.out.mono ?_
   rintro e w10 ⟨rfl, tb10, h10, f10⟩
   go_wp2
   exact end0 rfl rfl ⟨rfl, tb10, h10, FX.out.trans f10⟩
set_option maxHeartbeats 8000000 in
theorem endhome_any (h : Cyc base g i L tb a R fr pa w) (hr : RightA a) (h2 : a.st = 2) (hR : R.length ≤ 7000) :
  Calls Tryz.prog 80 #[.pointer (some ⟨g, 0, none⟩)] w (Does base g i L tb w (lastA a pa i) (R ++ lastR a pa i) fr pa) := by
 obtain ⟨⟨c, t, hN⟩, hW⟩ := home_line hr h2
 have hm : ¬ MoveEnds a pa := fun h => by have := h.1; omega
 have h3 : ¬ (a.st = 3 ∧ StillP a) := fun h => by have := h.1; omega
 obtain ⟨sb, hsb⟩ : ∃ b, stillB a = b := ⟨_, rfl⟩
 have hsi := still_iff (right_win hr)
 rw [hsb] at hsi
 have HC := lh h
 obtain ⟨S, N, W, T, h0, ht⟩ := h
 have H0 := lh h0
 have hlt := h0.lt
 have CS := lh (still_any a h0.rows (Nat.le_refl _) hsb)
 have ⟨d17, d17f⟩ := k.cell_of h0.box (i := 17) rfl
 clear h0 hsb
 by_cases h5 : a.h.ph = 5
 ·have b5 : (a.h.ph == 5) = true := by rw [h5]; rfl
  have h4n : ¬ (a.st = 2 ∧ a.h.ph = 4 ∧ StillP a) := fun h => by have := h.2.1; omega
  have h25 : a.st = 2 ∧ a.h.ph = 5 := ⟨h2, h5⟩
  rw [show lastA a pa i = failed a 5 from by unfold lastA; rw [if_neg hm, if_neg h3, if_neg h4n, if_pos h25], show lastR a pa i = failedR a from by unfold lastR; rw [if_neg hm, if_neg h3, if_neg h4n, if_pos h25]]
  have CF := lh (fail_any HC.out hr.line (by omega) 5)
  clear hm h3 h4n h25 h5 hsi hr hR h2 hN hW
  go_enter Tryz.func80, Tryz.ntmps80
  go_wp2_with (go_at_call 67; fail)
  refine CF.out.mono ?_
  rintro e w7 ⟨rfl, hd⟩
  go_wp2
  exact end0 rfl rfl ⟨rfl, hd⟩
 have b5 : (a.h.ph == 5) = false := by rw [beq_eq_false_iff_ne]; exact h5
 have h25 : ¬ (a.st = 2 ∧ a.h.ph = 5) := fun h => h5 h.2
 by_cases h4 : a.h.ph = 4
 ·have b4 : (a.h.ph == 4) = true := by rw [h4]; rfl
  cases sb
  ·have h4n : ¬ (a.st = 2 ∧ a.h.ph = 4 ∧ StillP a) := fun h => of_decide_eq_false hsi.symm h.2.2
   rw [show lastA a pa i = a from by unfold lastA; rw [if_neg hm, if_neg h3, if_neg h4n, if_neg h25], show lastR a pa i = [] from by unfold lastR; rw [if_neg hm, if_neg h3, if_neg h4n, if_neg h25], List.append_nil]
   clear hm h3 h4n h25 h5 h4 hsi hr hR h2 hN hW
   go_enter Tryz.func80, Tryz.ntmps80
   go_wp2_with (first | ((with_reducible refine m_ax_load H0.out.ax 23 ?_ ?_ ?_ ?_); rfl; rfl; rfl; (try simp only [Act.put])) | (go_at_call 89; ((with_reducible refine (CS.out).mono ?_); rintro e w1 ⟨rfl, hb⟩; have HB := lh hb; clear hb)))
   exact end0 rfl rfl ⟨rfl, tb, HC.out.below HB.out, (Fx.refl g tb w).below HB.out⟩
  ·have hy : StillP a := of_decide_eq_true hsi.symm
   have h4y : a.st = 2 ∧ a.h.ph = 4 ∧ StillP a := ⟨h2, h4, hy⟩
   have hnn : a.N ≠ [] := by rw [hN]; simp
   have hfw : (found a).W = [] := hW
   rw [show lastA a pa i = (if FarP (homeOff a) then goes (leaves (found a)) 4 else failed a 5) from by unfold lastA; rw [if_neg hm, if_neg h3, if_pos h4y, if_pos hnn]; unfold endedA; rw [hfw], show lastR a pa i = (if FarP (homeOff a) then [(idOf a, 2)] else failedR a) from by unfold lastR; rw [if_neg hm, if_neg h3, if_pos h4y, if_pos hnn]; unfold endedR; rw [hfw]; rfl]
   have CH := lh fun (U : World) (hb : Below w.heap.size w U) => homed_any (HC.out.below hb) hr h2 hy hR
   generalize hgA : (if FarP (homeOff a) then goes (leaves (found a)) 4 else failed a 5) = ga at CH ⊢
   generalize hgR : (if FarP (homeOff a) then [(idOf a, 2)] else failedR a) = gr at CH ⊢
   clear hm h3 h4y h25 h5 h4 hsi hr hR h2 hN hW hy hnn hfw hgA hgR
   go_enter Tryz.func80, Tryz.ntmps80
   go_wp2_with (first | ((with_reducible refine m_ax_load H0.out.ax 23 ?_ ?_ ?_ ?_); rfl; rfl; rfl; (try simp only [Act.put])) | (go_at_call 89; ((with_reducible refine (CS.out).mono ?_); rintro e w1 ⟨rfl, hb⟩; have HB := lh hb; clear hb)) | (go_at_call 113; fail))
   refine (CH.out _ HB.out).mono ?_
   rintro e w7 ⟨rfl, tb7, h7, f7⟩
   go_wp2
   exact end0 rfl rfl ⟨rfl, tb7, h7, ((Fx.refl g tb w).below HB.out).trans f7⟩
 ·have b4 : (a.h.ph == 4) = false := by rw [beq_eq_false_iff_ne]; exact h4
  have h4n : ¬ (a.st = 2 ∧ a.h.ph = 4 ∧ StillP a) := fun h => h4 h.2.1
  rw [show lastA a pa i = a from by unfold lastA; rw [if_neg hm, if_neg h3, if_neg h4n, if_neg h25], show lastR a pa i = [] from by unfold lastR; rw [if_neg hm, if_neg h3, if_neg h4n, if_neg h25], List.append_nil]
  clear hm h3 h4n h25 h5 h4 hsi hr hR h2 hN hW
  go_enter Tryz.func80, Tryz.ntmps80
  go_wp2
  exact end0 rfl rfl ⟨rfl, Did.of HC.out⟩
end
end Go.Proofs.YtijlccblabadaaaGreat.cx
end
section
namespace Go.Proofs.YtijlccblabadaaaGreat.cx
open Go.ChangeShapes Go.WideShapes Go.ChangeAt Go.RowKit Go.Proofs.YtijlccblabadaaaGreat.k Go.Proofs.YtijlccblabadaaaGreat.rr Go.Proofs.YtijlccblabadaaaGreat.ax
open Go.Proofs.YtijlccblabadaaaGreat.ln (C RdC RdI iC cC cV lnV)
set_option linter.unusedVariables false
set_option maxRecDepth 100000
section
variable {base g : Nat} {i : In} {L : Sl} {a : Ax} {R : List Rp} {fr pa : Bool} {w : World} {tb : Option Nat}
set_option maxHeartbeats 4000000 in
theorem end_any (h : Cyc base g i L tb a R fr pa w) (hr : RightA a) (hR : R.length ≤ 7000) :
  Calls Tryz.prog 46 #[.pointer (some ⟨g, 0, none⟩)] w (Does base g i L tb w (lastA a pa i) (R ++ lastR a pa i) fr pa) := by
 have HC := lh h
 have HD := lh h
 obtain ⟨S, N, W, T, h, ht⟩ := h
 have ⟨d0, d0f⟩ := k.cell_of h.box (i := 0) rfl
 clear h ht
 by_cases h4 : a.st = 4
 ·have b4 : (a.st == 4) = true := by rw [h4]; rfl
  have CM := lh (endmove_any (i := i) HC.out hr h4 hR)
  clear hr hR
  (try clear h4)
  (try clear h3)
  (try clear h2)
  go_enter Tryz.func46, Tryz.ntmps46
  go_wp2_with (go_at_call 78; fail)
  refine CM.out.mono ?_
  rintro e w2 ⟨rfl, hd⟩
  go_wp2
  exact end0 rfl rfl ⟨rfl, hd⟩
 have b4 : (a.st == 4) = false := by rw [beq_eq_false_iff_ne]; exact h4
 by_cases h3 : a.st = 3
 ·have b3 : (a.st == 3) = true := by rw [h3]; rfl
  have CM := lh (endstop_any (i := i) HC.out hr h3 hR)
  clear hr hR
  (try clear h4)
  (try clear h3)
  (try clear h2)
  go_enter Tryz.func46, Tryz.ntmps46
  go_wp2_with (go_at_call 79; fail)
  refine CM.out.mono ?_
  rintro e w2 ⟨rfl, hd⟩
  go_wp2
  exact end0 rfl rfl ⟨rfl, hd⟩
 have b3 : (a.st == 3) = false := by rw [beq_eq_false_iff_ne]; exact h3
 by_cases h2 : a.st = 2
 ·have b2 : (a.st == 2) = true := by rw [h2]; rfl
  have CM := lh (endhome_any (i := i) HC.out hr h2 hR)
  clear hr hR
  (try clear h4)
  (try clear h3)
  (try clear h2)
  go_enter Tryz.func46, Tryz.ntmps46
  go_wp2_with (go_at_call 80; fail)
  refine CM.out.mono ?_
  rintro e w2 ⟨rfl, hd⟩
  go_wp2
  exact end0 rfl rfl ⟨rfl, hd⟩
 have b2 : (a.st == 2) = false := by rw [beq_eq_false_iff_ne]; exact h2
 have m1 : ¬ MoveEnds a pa := fun h => h4 h.1
 have m2 : ¬ (a.st = 3 ∧ StillP a) := fun h => h3 h.1
 have m3 : ¬ (a.st = 2 ∧ a.h.ph = 4 ∧ StillP a) := fun h => h2 h.1
 have m4 : ¬ (a.st = 2 ∧ a.h.ph = 5) := fun h => h2 h.1
 have eA : lastA a pa i = a := by unfold lastA; rw [if_neg m1, if_neg m2, if_neg m3, if_neg m4]
 have eR : R ++ lastR a pa i = R := by unfold lastR; rw [if_neg m1, if_neg m2, if_neg m3, if_neg m4, List.append_nil]
 rw [eA, eR]
 clear eA eR m1 m2 m3 m4 hr hR h4 h3 h2
 go_enter Tryz.func46, Tryz.ntmps46
 go_wp2
 exact end0 rfl rfl ⟨rfl, Did.of HC.out⟩
end
theorem out_room {a : Ax} (hr : RightA a) : IntKind.i64.wrap (a.win * a.off) = a.win * a.off ∧ IntKind.i64.wrap (mm.outW a.sm + a.win * a.off) = mm.outW a.sm + a.win * a.off ∧ mm.outW a.sm + a.win * a.off = outA a := by
 have hw := right_win hr
 have e : mm.outW a.sm = sumOf a.sm := mm.outW_yes hw
 have h0 := hr.made.2.1
 have h1 := hr.made.2.2.1
 obtain ⟨f1, f2⟩ := hr.far
 have m1 : a.win * a.off ≤ 16 * 288230376151711744 := by
  have e1 : a.win * a.off ≤ a.win * 288230376151711744 := Int.mul_le_mul_of_nonneg_left f2 (by omega)
  omega
 have m2 : -(16 * 288230376151711744) ≤ a.win * a.off := by
  have e1 : a.win * (-288230376151711744) ≤ a.win * a.off := Int.mul_le_mul_of_nonneg_left f1 (by omega)
  omega
 have hb := sum_bound (L := a.sm) fun x hx => hw.2.2 x hx
 have hl := hw.2.1
 rw [e]
 exact ⟨by rw [IntKind.wrap_i64]; omega, by rw [IntKind.wrap_i64]; omega, rfl⟩
set_option maxHeartbeats 4000000 in
theorem aout_any (a : Ax) (hr : RightA a) {S N W : Sl} {B : Nat} {w : World} (h : RdA w B a S N W) (hB : B ≤ w.heap.size) :
  Calls Tryz.prog 19 #[axV a S N W] w fun e w' => e = .returned (.int .i64 (outA a)) ∧ Below w.heap.size w w' := by
 have hw := right_win hr
 have hR := lh h.S
 obtain ⟨x1, x2, x3⟩ := k.boxes1 (w := w) (c1 := axA a S N W) (t1 := 35) (Below.refl _ _)
 have X1 : Hid (k.Box _ w.heap.size 0 (axC a S N W)) := lh x1
 have HB := lh x2
 clear x1 x2
 have K1 := lh fun (U : World) (hb : Below w.heap.size w U) => mm.out_any a.sm (win_of (hR.out.below (hb.mono hB))) (Nat.le_trans hB hb.size)
 obtain ⟨h1, h2, h3⟩ := out_room hr
 have q1 : IntKind.i64.wrap (a.win * a.off) = a.win * a.off := h1
 have q2 : IntKind.i64.wrap (mm.outW a.sm + a.win * a.off) = mm.outW a.sm + a.win * a.off := h2
 have HV : Hid (mm.outW a.sm + a.win * a.off = outA a) := lh h3
 clear h1 h2 h3 hw hr h hB
 go_enter Tryz.func19, Tryz.ntmps19
 go_upto_region 1 with fail
 generalize w.alloc (.cells (axA a S N W) 35) = w2 at X1 HB x3 ⊢
 have ⟨d6, d6f⟩ := k.cell_of X1.out (i := 6) rfl
 have ⟨d12, d12f⟩ := k.cell_of X1.out (i := 12) rfl
 have ⟨d13, d13f⟩ := k.cell_of X1.out (i := 13) rfl
 refine wp_region_T (by kernel_rfl) (fun w' => Below w2.heap.size w2 w') [] (Below.refl _ _).drew (fun hHeld => ?_)
 refine tk0 0 rfl ?_ ?_ ?_
 rotate_left
 ·intro; go_simp <;> with_reducible rfl
 try simp only [Act.put, p1, p2, p3, p4, p6]
 refine tk 1 rfl ?_ ?_ ?_
 rotate_left
 ·intro w_ hSw; have q0 := (hSw.cell (p := ⟨w.heap.size, 12, none⟩) x3).trans d12; clear hSw; go_simp <;> (with_reducible rfl)
 try simp only [Act.put, p1, p2, p3, p4, p5, p6]
 refine tk0 3 rfl ?_ ?_ ?_
 rotate_left
 ·intro; go_simp <;> with_reducible rfl
 try simp only [Act.put, p1, p2, p3, p4, p5, p6]
 refine tk 4 rfl ?_ ?_ ?_
 rotate_left
 ·intro w_ hSw; have q0 := (hSw.cell (p := ⟨w.heap.size, 6, none⟩) x3).trans d6; clear hSw; go_simp <;> (with_reducible rfl)
 try simp only [Act.put, p1, p2, p3, p4, p5, p6]
 refine tk0 5 rfl ?_ ?_ ?_
 rotate_left
 ·intro; go_simp <;> with_reducible rfl
 try simp only [Act.put, p1, p2, p3, p4, p5, p6]
 refine tk 6 rfl ?_ ?_ ?_
 rotate_left
 ·intro w_ hSw; have q0 := (hSw.cell (p := ⟨w.heap.size, 13, none⟩) x3).trans d13; clear hSw; go_simp <;> (with_reducible rfl)
 try simp only [Act.put, p1, p2, p3, p4, p5, p6]
 refine tk0 7 rfl ?_ ?_ ?_
 rotate_left
 ·intro; go_simp <;> with_reducible rfl
 try simp only [Act.put, p1, p2, p3, p4, p5, p6]
 refine ry [2] ?_
 refine ar1 rfl fun K hK => ?_
 go_simp
 (go_at_call 40; ((with_reducible refine (K1.out _ (HB.out.trans (((Below.refl w2.heap.size w2).drew).mono HB.out.size))).mono ?_); rintro e w3 ⟨rfl, hb0⟩))
 go_wp2_with fail
 have hb3 := ((Below.refl w2.heap.size w2).drew).trans hb0
 clear hb0
 refine hK.out _ _ hb3 (fun hHeld => ?_)
 clear hK K
 try simp only [Act.put, p1, p2, p3, p4, p5, p6]
 refine tk0 8 rfl ?_ ?_ ?_
 rotate_left
 ·intro; go_simp <;> with_reducible rfl
 try simp only [Act.put, p1, p2, p3, p4, p5, p6]
 refine tk0 9 rfl ?_ ?_ ?_
 rotate_left
 ·intro; go_simp <;> with_reducible rfl
 try simp only [Act.put, p1, p2, p3, p4, p5, p6]
 refine wpAnyT_done (by kernel_rfl) ?_ _
 go_wp2
 go_ret
 exact ⟨by rw [HV.out]; rfl, HB.out.trans (hb3.mono HB.out.size)⟩
end Go.Proofs.YtijlccblabadaaaGreat.cx
end
