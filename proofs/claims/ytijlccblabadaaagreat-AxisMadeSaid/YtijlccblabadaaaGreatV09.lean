/- What a cycle's reset, off, on, turn do. No condition beyond what each line says. What a cycle's on does. No condition beyond what each line says. What a cycle's turn does. No condition beyond what each line says. What a cycle's begin does. No condition beyond what each line says. -/
import Derived.Test.YtijlccblabadaaaGreatV08
import Derived.Test.YtijlccblabadaaaGreatV16
import Derived.Test.YtijlccblabadaaaGreatV07
section
namespace Go.Proofs.YtijlccblabadaaaGreat.cx
open Go.ChangeShapes Go.WideShapes Go.ChangeAt Go.RowKit Go.Proofs.YtijlccblabadaaaGreat.k Go.Proofs.YtijlccblabadaaaGreat.rr Go.Proofs.YtijlccblabadaaaGreat.ax
open Go.Proofs.YtijlccblabadaaaGreat.ln (C RdC RdI iC cC cV lnV)
set_option linter.unusedVariables false
set_option maxRecDepth 100000
theorem cy_store {base g : Nat} {w : World} {a0 : Ax} {S0 N0 W0 : Sl} {i : In} {L T : Sl} {fr pa : Bool} (hb : k.Box w g 0 (cyC a0 S0 N0 W0 i L T fr pa)) (b : Ax) (S N W : Sl) :
  ∃ w', w.setCells g 0 (axC b S N W) = w' ∧ Only g w w' ∧ k.Box w' g 0 (cyC b S N W i L T fr pa) := by
 refine ⟨_, rfl, (Only.refl g w).sets _ 0, ?_⟩
 rw [k.setCells_puts]
 exact box_mid (us := axC b S N W) hb (by simp)
section
variable {ops : Array Oper} {rest : List Oper} {op : Oper} {a : Act} {w : World} {Q : Exit → Act → World → Prop}
theorem m_w_cy {K : Act → World → Prop} {g : Nat} {a0 : Ax} {S0 N0 W0 : Sl} {i : In} {L T : Sl} {fr pa : Bool} (hb : k.Box w g 0 (cyC a0 S0 N0 W0 i L T fr pa)) (b : Ax) (S N W : Sl) (t u : Nat) (ho : op.op = .store 35 (.tmp t) (.tmp u)) (hd : op.dst = none) (hx : a.eval (.tmp t) = .pointer (some ⟨g, 0, none⟩)) (hy : a.eval (.tmp u) = axV b S N W)
  (h : ∀ w', Only g w w' → k.Box w' g 0 (cyC b S N W i L T fr pa) → K a w') : op.wp Tryz.prog a w K Q := by
 obtain ⟨w2, e2, h2, h3⟩ := cy_store (base := 0) hb b S N W
 refine wp_store_mid 35 (.tmp t) (.tmp u) ho g 0 (axA b S N W) hx hy (k.there_of (box_take (us := axC a0 S0 N0 W0) (vs := (cyC a0 S0 N0 W0 i L T fr pa).drop 26) hb) rfl) (by kernel_rfl) (axA_ones _ _ _ _) ?_
 rw [hd]
 show K a (World.setCells _ _ _ (axC b S N W))
 rw [e2]
 exact h w2 h2 h3
theorem m_l_cy {g : Nat} {a0 : Ax} {S0 N0 W0 : Sl} {i : In} {L T : Sl} {fr pa : Bool} (hb : k.Box w g 0 (cyC a0 S0 N0 W0 i L T fr pa)) (b : Ax) (S N W : Sl) (t u : Nat) (ho : op.op = .store 35 (.tmp t) (.tmp u)) (hg : op.guard = none) (hd : op.dst = none) (hx : a.eval (.tmp t) = .pointer (some ⟨g, 0, none⟩)) (hy : a.eval (.tmp u) = axV b S N W)
  (h : ∀ w', Only g w w' → k.Box w' g 0 (cyC b S N W i L T fr pa) → wpList Tryz.prog ops Q rest a w') : wpList Tryz.prog ops Q (op :: rest) a w := by
 obtain ⟨w2, e2, h2, h3⟩ := cy_store (base := 0) hb b S N W
 refine wpList_store_mid hg 35 (.tmp t) (.tmp u) ho g 0 (axA b S N W) hx hy (k.there_of (box_take (us := axC a0 S0 N0 W0) (vs := (cyC a0 S0 N0 W0 i L T fr pa).drop 26) hb) rfl) (by kernel_rfl) (axA_ones _ _ _ _) ?_
 rw [hd]
 show wpList _ _ _ _ a (World.setCells _ _ _ (axC b S N W))
 rw [e2]
 exact h w2 h2 h3
end
section
variable {base g : Nat} {i : In} {L : Sl} {a : Ax} {R : List Rp} {fr pa : Bool} {w : World} {tb : Option Nat}
theorem Cy.restood {S N W T : Sl} (h : Cy base g i L a S N W T R fr pa w) {w1 w2 : World} (hb : Below w.heap.size w w1) (ho : Only g w1 w2) {a' : Ax} {S' : Sl} (hS : RdI w1 w1.heap.size S'.A S'.n S'.c a'.sm) (n1 : ln.New w S'.A) (h2 : a'.N = a.N) (h3 : a'.W = a.W)
  {fr' pa' : Bool} (hbox : k.Box w2 g 0 (cyC a' S' N W i L T fr' pa')) : Cy base g i L a' S' N W T R fr' pa' w2 :=
 have hl := h.lt
 have hg := h.hg
 have hr := (h.below hb).rows
 (h.below hb).to ho hbox ⟨hS, by rw [h2]; exact hr.N, by rw [h3]; exact hr.W⟩ ⟨off_new n1 hl, h.off.N, h.off.W⟩ (fun q hq => ⟨off_new n1 (by omega), (h.new q hq).N, (h.new q hq).W⟩)
  fun b hb2 => ⟨off_new n1 (h.tb_lt hb2).2, (h.offT b hb2).N, (h.offT b hb2).W⟩
set_option maxHeartbeats 4000000 in
theorem off_any (h : Cyc base g i L tb a R fr pa w) (hr : ln.RightL a.N a.W) (h1 : 1 ≤ a.win) (h2 : a.win ≤ 16) (hp : mm.inP a.p) (hR : R.length ≤ 8000) :
  Calls Tryz.prog 69 #[.pointer (some ⟨g, 0, none⟩)] w (Does base g i L tb w (goes (stood { a with N := [], W := [] } a.p) 2) (R ++ told (a.N ++ a.W) 3) fr pa) := by
 have CA := lh fun (W' : World) S N W => at_any (a := { a with N := [], W := [], st := ed.nxS a.st 2 }) h1 h2 hp S N W W'
 have HAB := lh (abort_any h hr (by omega))
 clear h hr h1 h2 hp hR
 have FX := lh (Fx.refl g tb w)
 go_enter Tryz.func69, Tryz.ntmps69
 go_wp2_with (go_at_call 92; fail)
 refine (HAB.out).mono ?_
 rintro e w1 ⟨rfl, tb1, h1, f1⟩
 have FX := lh (FX.out.trans f1)
 clear f1
 have HHP := lh (happen_any h1 2)
 clear h1 HAB
 go_wp2_with (go_at_call 90; fail)
 refine (HHP.out).mono ?_
 rintro e w2 ⟨rfl, tb2, h2, f2⟩
 have FX := lh (FX.out.trans f2)
 clear f2
 obtain ⟨S, N, W, T, h2, ht⟩ := h2
 have H := lh h2
 have hl := h2.lt
 have ⟨d10, d10f⟩ := k.cell_of h2.box (i := 10) rfl
 clear h2 HHP
 go_upto_region 2 with fail
 refine wp_region_T (by kernel_rfl) (fun w' => Below w2.heap.size w2 w') [14] (Below.refl _ _).drew (fun hHeld => ?_)
 refine tk0 0 rfl ?_ ?_ ?_
 rotate_left
 ·intro; go_simp <;> with_reducible rfl
 try simp only [Act.put, p1, p2, p3, p4, p6]
 refine tk0 1 rfl ?_ ?_ ?_
 rotate_left
 ·intro; go_simp <;> with_reducible rfl
 try simp only [Act.put, p1, p2, p3, p4, p5, p6]
 refine tk0 2 rfl ?_ ?_ ?_
 rotate_left
 ·intro; go_simp <;> with_reducible rfl
 try simp only [Act.put, p1, p2, p3, p4, p5, p6]
 refine tk0 3 rfl ?_ ?_ ?_
 rotate_left
 ·intro; go_simp <;> with_reducible rfl
 try simp only [Act.put, p1, p2, p3, p4, p5, p6]
 refine tkv 4 rfl (axV { a with N := [], W := [], st := ed.nxS a.st 2 } S N W) (by exact m_y_ax H.out.ax hl 9 rfl rfl rfl) ?_
 try simp only [Act.put, p1, p2, p3, p4, p5, p6]
 refine tk0 5 rfl ?_ ?_ ?_
 rotate_left
 ·intro; go_simp <;> with_reducible rfl
 try simp only [Act.put, p1, p2, p3, p4, p5, p6]
 refine tk0 6 rfl ?_ ?_ ?_
 rotate_left
 ·intro; go_simp <;> with_reducible rfl
 try simp only [Act.put, p1, p2, p3, p4, p5, p6]
 refine tk0 7 rfl ?_ ?_ ?_
 rotate_left
 ·intro; go_simp <;> with_reducible rfl
 try simp only [Act.put, p1, p2, p3, p4, p5, p6]
 refine tk0 8 rfl ?_ ?_ ?_
 rotate_left
 ·intro; go_simp <;> with_reducible rfl
 try simp only [Act.put, p1, p2, p3, p4, p5, p6]
 refine tk0 9 rfl ?_ ?_ ?_
 rotate_left
 ·intro; go_simp <;> with_reducible rfl
 try simp only [Act.put, p1, p2, p3, p4, p5, p6]
 refine tk 10 rfl ?_ ?_ ?_
 rotate_left
 ·intro w_ hSw; have q0 := (hSw.cell (p := ⟨g, 10, none⟩) hl).trans d10; clear hSw; go_simp <;> (with_reducible rfl)
 try simp only [Act.put, p1, p2, p3, p4, p5, p6]
 refine ry [11] ?_
 refine ar1 rfl fun K hK => ?_
 go_simp
 (go_at_call 25; ((with_reducible refine (CA.out _ S N W).mono ?_); rintro e w3 ⟨S', rfl, hs, hn, hb0⟩))
 go_wp2_with fail
 have hb := ((Below.refl w2.heap.size w2).drew).trans hb0
 have RS := lh hs
 have NS : Hid (ln.New w2 S'.A) := lh hn
 clear hs hn hb0
 refine hK.out _ _ hb (fun hHeld => ?_)
 clear hK K
 try simp only [Act.put, p1, p2, p3, p4, p5, p6]
 refine tk0 12 rfl ?_ ?_ ?_
 rotate_left
 ·intro; go_simp <;> with_reducible rfl
 try simp only [Act.put, p1, p2, p3, p4, p5, p6]
 refine tk0 13 rfl ?_ ?_ ?_
 rotate_left
 ·intro; go_simp <;> with_reducible rfl
 try simp only [Act.put, p1, p2, p3, p4, p5, p6]
 refine ry [14] ?_
 refine AllReadyT.spoilt rfl (by kernel_rfl) (fun K hK => ?_) AllReadyT.nil
 rw [if_pos (by rfl)]
 refine m_w_cy (H.out.below hb).box (stood { a with N := [], W := [], st := ed.nxS a.st 2 } a.p) S' N W 19 17 rfl rfl rfl rfl ?_
 intro w4 ho hx
 have HO := lh ho
 have HX := lh hx
 refine hK.out _ _ ?_
 clear hK K ho hx
 refine wpAnyT_done (by kernel_rfl) ?_ _
 have h5 := H.out.restood hb HO.out RS.out NS.out rfl rfl HX.out
 exact end0 rfl rfl ⟨rfl, tb2, ⟨_, _, _, _, h5, ht⟩, (FX.out.below hb).only HO.out⟩
theorem still_iff {a : Ax} (h : mm.RightW a.sm) : stillB a = decide (StillP a) := by
 unfold stillB mm.restB
 by_cases hs : StillP a
 ·rw [decide_eq_true hs, decide_eq_true hs.2, decide_eq_true ⟨h, fun x hx => by rw [hs.1 x hx]; cases a.sm <;> rfl⟩]; rfl
 ·rw [decide_eq_false hs]
  by_cases hv : a.v = 0
  ·rw [decide_eq_true hv, decide_eq_false fun h2 => hs ⟨fun x hx => by rw [h2.2 x hx]; cases a.sm <;> rfl, hv⟩]; rfl
  ·rw [decide_eq_false hv]; rfl
def resetB (a : Ax) (i : In) : Bool := i.reset && i.op && decide (i.cause = 0) && stillB a
set_option maxHeartbeats 4000000 in
theorem reset_no (h : Cyc base g i L tb a R fr pa w) (hB : resetB a i = false) :
  Calls Tryz.prog 66 #[.pointer (some ⟨g, 0, none⟩)] w (Does base g i L tb w a R fr pa) := by
 obtain ⟨sb, hsb⟩ : ∃ b, stillB a = b := ⟨_, rfl⟩
 have HC := lh h
 obtain ⟨S, N, W, T, h, ht⟩ := h
 have H := lh h
 have hl := h.lt
 have CS := lh (still_any a h.rows (Nat.le_refl _) hsb)
 have ⟨d33, d33f⟩ := k.cell_of h.box (i := 33) rfl
 have ⟨d27, d27f⟩ := k.cell_of h.box (i := 27) rfl
 have ⟨d29, d29f⟩ := k.cell_of h.box (i := 29) rfl
 unfold resetB at hB
 rw [hsb] at hB
 clear h hsb
 cases hrs : i.reset
 ·rw [hrs] at d33
  clear hB
  go_enter Tryz.func66, Tryz.ntmps66
  go_wp2
  exact end0 rfl rfl ⟨rfl, Did.of HC.out⟩
 rw [hrs] at d33 hB
 cases hop : i.op
 ·rw [hop] at d27
  clear hB
  go_enter Tryz.func66, Tryz.ntmps66
  go_wp2
  exact end0 rfl rfl ⟨rfl, Did.of HC.out⟩
 rw [hop] at d27 hB
 by_cases hc : i.cause = 0
 ·have bc : (i.cause == 0) = true := by rw [hc]; rfl
  rw [decide_eq_true hc] at hB
  have hs : sb = false := by simpa using hB
  subst hs
  clear hc hB
  go_enter Tryz.func66, Tryz.ntmps66
  go_wp2_with (first | ((with_reducible refine m_ax_load H.out.ax 25 ?_ ?_ ?_ ?_); rfl; rfl; rfl; (try simp only [Act.put])) | (go_at_call 89; ((with_reducible refine (CS.out).mono ?_); rintro e w1 ⟨rfl, hb⟩; have HB := lh hb; clear hb)))
  exact end0 rfl rfl ⟨rfl, tb, HC.out.below HB.out, (Fx.refl g tb w).below HB.out⟩
 ·have bc : (i.cause == 0) = false := by rw [beq_eq_false_iff_ne]; exact hc
  clear hc hB
  go_enter Tryz.func66, Tryz.ntmps66
  go_wp2
  exact end0 rfl rfl ⟨rfl, Did.of HC.out⟩
set_option maxHeartbeats 4000000 in
theorem reset_yes (h : Cyc base g i L tb a R fr pa w) (hB : resetB a i = true) :
  Calls Tryz.prog 66 #[.pointer (some ⟨g, 0, none⟩)] w (Does base g i L tb w (goes { a with cause := 0 } 12) R true pa) := by
 obtain ⟨sb, hsb⟩ : ∃ b, stillB a = b := ⟨_, rfl⟩
 have HC := lh h
 obtain ⟨S, N, W, T, h, ht⟩ := h
 have H := lh h
 have hl := h.lt
 have CS := lh (still_any a h.rows (Nat.le_refl _) hsb)
 have ⟨d33, d33f⟩ := k.cell_of h.box (i := 33) rfl
 have ⟨d27, d27f⟩ := k.cell_of h.box (i := 27) rfl
 have ⟨d29, d29f⟩ := k.cell_of h.box (i := 29) rfl
 unfold resetB at hB
 rw [hsb] at hB
 clear h hsb
 cases hrs : i.reset
 ·rw [hrs] at hB; cases hB
 rw [hrs] at d33 hB
 cases hop : i.op
 ·rw [hop] at hB; cases hB
 rw [hop] at d27 hB
 by_cases hc : i.cause = 0
 ·have bc : (i.cause == 0) = true := by rw [hc]; rfl
  rw [decide_eq_true hc] at hB
  have hs : sb = true := by simpa using hB
  subst hs
  clear hc hB
  have FX := lh (Fx.refl g tb w)
  go_enter Tryz.func66, Tryz.ntmps66
  go_wp2_with (first | ((with_reducible refine m_ax_load H.out.ax 25 ?_ ?_ ?_ ?_); rfl; rfl; rfl; (try simp only [Act.put])) | (go_at_call 89; ((with_reducible refine (CS.out).mono ?_); rintro e w1 ⟨rfl, hb⟩; have HB := lh hb; clear hb)) | (go_at_call 90; fail))
  refine (happen_any (HC.out.below HB.out) 12).mono ?_
  rintro e w2 ⟨rfl, tb2, h2, f2⟩
  have FX := lh ((FX.out.below HB.out).trans f2)
  clear f2
  obtain ⟨S2, N2, W2, T2, h2, ht2⟩ := h2
  have H2 := lh h2
  have ⟨e24, e24f⟩ := k.cell_of h2.box (i := 24) rfl
  have ⟨e39, e39f⟩ := k.cell_of h2.box (i := 39) rfl
  clear h2
  go_wp2
  have ho := ((Only.refl g w2).set 24 (.int .i64 0)).set 39 (.bool true)
  have h3 := H2.out.as (a' := goes { a with cause := 0 } 12) (fr' := true) ho (k.Box.put (k.Box.put H2.out.box 24 (by simp) _) 39 (by simp) _) rfl rfl rfl
  exact end0 rfl rfl ⟨rfl, tb2, ⟨_, _, _, _, h3, ht2⟩, FX.out.only ho⟩
 ·rw [decide_eq_false hc] at hB; cases hB
end
end Go.Proofs.YtijlccblabadaaaGreat.cx
end
section
namespace Go.Proofs.YtijlccblabadaaaGreat.cx
open Go.ChangeShapes Go.WideShapes Go.ChangeAt Go.RowKit Go.Proofs.YtijlccblabadaaaGreat.k Go.Proofs.YtijlccblabadaaaGreat.rr Go.Proofs.YtijlccblabadaaaGreat.ax
open Go.Proofs.YtijlccblabadaaaGreat.ln (C RdC RdI iC cC cV lnV)
set_option linter.unusedVariables false
set_option maxRecDepth 100000
section
variable {base g : Nat} {i : In} {L : Sl} {a : Ax} {R : List Rp} {fr pa : Bool} {w : World} {tb : Option Nat}
theorem sw_all {a : Ax} (hr : gn.RightL a.l) {x : Int} :
  swPos a x = q.clampV (x - a.off) (-1099511627776) 1099511627776 ∧ swOff a x = x - q.clampV (x - a.off) (-1099511627776) 1099511627776 ∧ (if SwInP a x then a.homed else false) = (a.homed && decide (a.l.lo ≤ x - a.off ∧ x - a.off ≤ a.l.hi)) := by
 have hb := (bounds_right hr).2.2.2.2.2.2
 have hc : b.clamp (x - a.off) (-1099511627776) 1099511627776 = q.clampV (x - a.off) (-1099511627776) 1099511627776 := (b.max_clamp _ _ _ (by omega)).symm
 have hm : ∀ z : Int, -1099511627776 ≤ z → z ≤ 1099511627776 → q.clampV z (-1099511627776) 1099511627776 = z := fun z h1 h2 => by unfold q.clampV; omega
 by_cases hs : SwInP a x
 ·have h1 := hs
  unfold SwInP at h1
  have e := hm (x - a.off) (by omega) (by omega)
  refine ⟨by unfold swPos; rw [if_pos hs, e], by unfold swOff; rw [if_pos hs, e]; omega, ?_⟩
  rw [if_pos hs]
  cases hh : a.homed
  ·rfl
  ·unfold bounds at h1
   rw [hh] at h1
   exact (decide_eq_true h1).symm
 ·refine ⟨by unfold swPos; rw [if_neg hs, hc], by unfold swOff; rw [if_neg hs]; unfold swPos; rw [if_neg hs, hc], ?_⟩
  rw [if_neg hs]
  cases hh : a.homed
  ·rfl
  ·unfold SwInP bounds at hs
   rw [hh] at hs
   exact (decide_eq_false hs).symm
set_option maxHeartbeats 4000000 in
theorem on_no (h : Cyc base g i L tb a R fr pa w) (hl : gn.RightL a.l) (ho : InR a.off) (hi : InR i.actual) (hs : ¬ SwP a i.actual) :
  Calls Tryz.prog 68 #[.pointer (some ⟨g, 0, none⟩)] w (Does base g i L tb w a R fr pa) := by
 have HC := lh h
 obtain ⟨S, N, W, T, h, ht⟩ := h
 have hlt := h.lt
 have ⟨d28, d28f⟩ := k.cell_of h.box (i := 28) rfl
 have ⟨d13, d13f⟩ := k.cell_of h.box (i := 13) rfl
 clear h
 obtain ⟨e1, e2, e3⟩ := sw_all (a := a) hl (x := i.actual)
 have C1 := fun V => q.sub_any i.actual a.off hi.1 hi.2 ho.1 ho.2 V
 by_cases h1 : InR (i.actual - a.off)
 ·rw [show q.subV i.actual a.off = i.actual - a.off from gx.rv_yes h1, show q.subB i.actual a.off = true from gx.rm_yes h1] at C1
  have C1 := lh C1
  obtain ⟨seen, hsn⟩ : ∃ z, i.actual - a.off = z := ⟨_, rfl⟩
  rw [hsn] at C1 e1 e2 h1
  have CC := fun V => q.clamp_any seen (-1099511627776) 1099511627776 V
  have hp : InR (q.clampV seen (-1099511627776) 1099511627776) := by unfold q.clampV; exact small (by omega) (by omega)
  obtain ⟨ps, hps⟩ : ∃ z, q.clampV seen (-1099511627776) 1099511627776 = z := ⟨_, rfl⟩
  rw [hps] at CC e2 hp
  have CC := lh CC
  have C2 := fun V => q.sub_any i.actual ps hi.1 hi.2 hp.1 hp.2 V
  by_cases h2 : InR (i.actual - ps)
  ·rw [show q.subV i.actual ps = i.actual - ps from gx.rv_yes h2, show q.subB i.actual ps = true from gx.rm_yes h2] at C2
   have C2 := lh C2
   have C3 := lh fun V => isoff_any (n := i.actual - ps) (t := false) (decide_eq_false fun hf => hs ⟨by rw [hsn]; exact h1, by rw [e2]; exact h2, by rw [e2]; exact hf⟩) V
   generalize i.actual - ps = of at C2 C3
   clear e1 e2 e3 hsn h1 hps hp h2 hs hi ho hl
   go_enter Tryz.func68, Tryz.ntmps68
   go_upto_region 0 with fail
   refine wp_region_T (by kernel_rfl) (fun w' => Below w.heap.size w w') [] (Below.refl _ _).drew (fun hHeld => ?_)
   refine tk0 0 rfl ?_ ?_ ?_
   rotate_left
   ·intro; go_simp <;> with_reducible rfl
   try simp only [Act.put, p1, p2, p3, p4, p6]
   refine tk0 1 rfl ?_ ?_ ?_
   rotate_left
   ·intro; go_simp <;> with_reducible rfl
   try simp only [Act.put, p1, p2, p3, p4, p5, p6]
   refine tk0 2 rfl ?_ ?_ ?_
   rotate_left
   ·intro; go_simp <;> with_reducible rfl
   try simp only [Act.put, p1, p2, p3, p4, p5, p6]
   refine tk0 3 rfl ?_ ?_ ?_
   rotate_left
   ·intro; go_simp <;> with_reducible rfl
   try simp only [Act.put, p1, p2, p3, p4, p5, p6]
   refine tk 4 rfl ?_ ?_ ?_
   rotate_left
   ·intro w_ hSw; have q0 := (hSw.cell (p := ⟨g, 28, none⟩) hlt).trans d28; clear hSw; go_simp <;> (with_reducible rfl)
   try simp only [Act.put, p1, p2, p3, p4, p5, p6]
   refine tk0 5 rfl ?_ ?_ ?_
   rotate_left
   ·intro; go_simp <;> with_reducible rfl
   try simp only [Act.put, p1, p2, p3, p4, p5, p6]
   refine tk0 6 rfl ?_ ?_ ?_
   rotate_left
   ·intro; go_simp <;> with_reducible rfl
   try simp only [Act.put, p1, p2, p3, p4, p5, p6]
   refine tk0 7 rfl ?_ ?_ ?_
   rotate_left
   ·intro; go_simp <;> with_reducible rfl
   try simp only [Act.put, p1, p2, p3, p4, p5, p6]
   refine tk0 8 rfl ?_ ?_ ?_
   rotate_left
   ·intro; go_simp <;> with_reducible rfl
   try simp only [Act.put, p1, p2, p3, p4, p5, p6]
   refine tk 9 rfl ?_ ?_ ?_
   rotate_left
   ·intro w_ hSw; have q0 := (hSw.cell (p := ⟨g, 13, none⟩) hlt).trans d13; clear hSw; go_simp <;> (with_reducible rfl)
   try simp only [Act.put, p1, p2, p3, p4, p5, p6]
   refine ry [10] ?_
   refine ar1 rfl fun K hK => ?_
   go_simp
   (go_at_call 93; ((with_reducible refine (C1.out _).mono ?_); rintro e w1 ⟨rfl, rfl⟩))
   go_wp2_with fail
   refine hK.out _ _ hHeld (fun hHeld => ?_)
   clear hK K
   try simp only [Act.put, p1, p2, p3, p4, p5, p6]
   refine tk0 11 rfl ?_ ?_ ?_
   rotate_left
   ·intro; go_simp <;> with_reducible rfl
   try simp only [Act.put, p1, p2, p3, p4, p5, p6]
   refine tk0 12 rfl ?_ ?_ ?_
   rotate_left
   ·intro; go_simp <;> with_reducible rfl
   try simp only [Act.put, p1, p2, p3, p4, p5, p6]
   refine tk0 13 rfl ?_ ?_ ?_
   rotate_left
   ·intro; go_simp <;> with_reducible rfl
   try simp only [Act.put, p1, p2, p3, p4, p5, p6]
   refine tk0 14 rfl ?_ ?_ ?_
   rotate_left
   ·intro; go_simp <;> with_reducible rfl
   try simp only [Act.put, p1, p2, p3, p4, p5, p6]
   refine tk0 15 rfl ?_ ?_ ?_
   rotate_left
   ·intro; go_simp <;> with_reducible rfl
   try simp only [Act.put, p1, p2, p3, p4, p5, p6]
   refine wpAnyT_done (by kernel_rfl) ?_ _
   go_wp2_with (first | (go_at_call 93; ((with_reducible refine (C2.out _).mono ?_); rintro e w2 ⟨rfl, rfl⟩)) | (go_at_call 42; ((with_reducible refine (CC.out _).mono ?_); rintro e w2 ⟨rfl, rfl⟩)) | (go_at_call 36; ((with_reducible refine (C3.out _).mono ?_); rintro e w2 ⟨rfl, rfl⟩)))
   exact ret0 rfl rfl ⟨rfl, tb, HC.out.below ((Below.refl w.heap.size w).drew), (Fx.refl g tb w).below ((Below.refl w.heap.size w).drew)⟩
  ·rw [show q.subV i.actual ps = 0 from gx.rv_no h2, show q.subB i.actual ps = false from gx.rm_no h2] at C2
   have C2 := lh C2
   clear e1 e2 e3 hsn h1 hps hp h2 hs hi ho hl
   go_enter Tryz.func68, Tryz.ntmps68
   go_upto_region 0 with fail
   refine wp_region_T (by kernel_rfl) (fun w' => Below w.heap.size w w') [] (Below.refl _ _).drew (fun hHeld => ?_)
   refine tk0 0 rfl ?_ ?_ ?_
   rotate_left
   ·intro; go_simp <;> with_reducible rfl
   try simp only [Act.put, p1, p2, p3, p4, p6]
   refine tk0 1 rfl ?_ ?_ ?_
   rotate_left
   ·intro; go_simp <;> with_reducible rfl
   try simp only [Act.put, p1, p2, p3, p4, p5, p6]
   refine tk0 2 rfl ?_ ?_ ?_
   rotate_left
   ·intro; go_simp <;> with_reducible rfl
   try simp only [Act.put, p1, p2, p3, p4, p5, p6]
   refine tk0 3 rfl ?_ ?_ ?_
   rotate_left
   ·intro; go_simp <;> with_reducible rfl
   try simp only [Act.put, p1, p2, p3, p4, p5, p6]
   refine tk 4 rfl ?_ ?_ ?_
   rotate_left
   ·intro w_ hSw; have q0 := (hSw.cell (p := ⟨g, 28, none⟩) hlt).trans d28; clear hSw; go_simp <;> (with_reducible rfl)
   try simp only [Act.put, p1, p2, p3, p4, p5, p6]
   refine tk0 5 rfl ?_ ?_ ?_
   rotate_left
   ·intro; go_simp <;> with_reducible rfl
   try simp only [Act.put, p1, p2, p3, p4, p5, p6]
   refine tk0 6 rfl ?_ ?_ ?_
   rotate_left
   ·intro; go_simp <;> with_reducible rfl
   try simp only [Act.put, p1, p2, p3, p4, p5, p6]
   refine tk0 7 rfl ?_ ?_ ?_
   rotate_left
   ·intro; go_simp <;> with_reducible rfl
   try simp only [Act.put, p1, p2, p3, p4, p5, p6]
   refine tk0 8 rfl ?_ ?_ ?_
   rotate_left
   ·intro; go_simp <;> with_reducible rfl
   try simp only [Act.put, p1, p2, p3, p4, p5, p6]
   refine tk 9 rfl ?_ ?_ ?_
   rotate_left
   ·intro w_ hSw; have q0 := (hSw.cell (p := ⟨g, 13, none⟩) hlt).trans d13; clear hSw; go_simp <;> (with_reducible rfl)
   try simp only [Act.put, p1, p2, p3, p4, p5, p6]
   refine ry [10] ?_
   refine ar1 rfl fun K hK => ?_
   go_simp
   (go_at_call 93; ((with_reducible refine (C1.out _).mono ?_); rintro e w1 ⟨rfl, rfl⟩))
   go_wp2_with fail
   refine hK.out _ _ hHeld (fun hHeld => ?_)
   clear hK K
   try simp only [Act.put, p1, p2, p3, p4, p5, p6]
   refine tk0 11 rfl ?_ ?_ ?_
   rotate_left
   ·intro; go_simp <;> with_reducible rfl
   try simp only [Act.put, p1, p2, p3, p4, p5, p6]
   refine tk0 12 rfl ?_ ?_ ?_
   rotate_left
   ·intro; go_simp <;> with_reducible rfl
   try simp only [Act.put, p1, p2, p3, p4, p5, p6]
   refine tk0 13 rfl ?_ ?_ ?_
   rotate_left
   ·intro; go_simp <;> with_reducible rfl
   try simp only [Act.put, p1, p2, p3, p4, p5, p6]
   refine tk0 14 rfl ?_ ?_ ?_
   rotate_left
   ·intro; go_simp <;> with_reducible rfl
   try simp only [Act.put, p1, p2, p3, p4, p5, p6]
   refine tk0 15 rfl ?_ ?_ ?_
   rotate_left
   ·intro; go_simp <;> with_reducible rfl
   try simp only [Act.put, p1, p2, p3, p4, p5, p6]
   refine wpAnyT_done (by kernel_rfl) ?_ _
   go_wp2_with (first | (go_at_call 93; ((with_reducible refine (C2.out _).mono ?_); rintro e w2 ⟨rfl, rfl⟩)) | (go_at_call 42; ((with_reducible refine (CC.out _).mono ?_); rintro e w2 ⟨rfl, rfl⟩)))
   exact ret0 rfl rfl ⟨rfl, tb, HC.out.below ((Below.refl w.heap.size w).drew), (Fx.refl g tb w).below ((Below.refl w.heap.size w).drew)⟩
 ·rw [show q.subV i.actual a.off = 0 from gx.rv_no h1, show q.subB i.actual a.off = false from gx.rm_no h1] at C1
  have C1 := lh C1
  clear e1 e2 e3 h1 hs hi ho hl
  go_enter Tryz.func68, Tryz.ntmps68
  go_upto_region 0 with fail
  refine wp_region_T (by kernel_rfl) (fun w' => Below w.heap.size w w') [] (Below.refl _ _).drew (fun hHeld => ?_)
  refine tk0 0 rfl ?_ ?_ ?_
  rotate_left
  ·intro; go_simp <;> with_reducible rfl
  try simp only [Act.put, p1, p2, p3, p4, p6]
  refine tk0 1 rfl ?_ ?_ ?_
  rotate_left
  ·intro; go_simp <;> with_reducible rfl
  try simp only [Act.put, p1, p2, p3, p4, p5, p6]
  refine tk0 2 rfl ?_ ?_ ?_
  rotate_left
  ·intro; go_simp <;> with_reducible rfl
  try simp only [Act.put, p1, p2, p3, p4, p5, p6]
  refine tk0 3 rfl ?_ ?_ ?_
  rotate_left
  ·intro; go_simp <;> with_reducible rfl
  try simp only [Act.put, p1, p2, p3, p4, p5, p6]
  refine tk 4 rfl ?_ ?_ ?_
  rotate_left
  ·intro w_ hSw; have q0 := (hSw.cell (p := ⟨g, 28, none⟩) hlt).trans d28; clear hSw; go_simp <;> (with_reducible rfl)
  try simp only [Act.put, p1, p2, p3, p4, p5, p6]
  refine tk0 5 rfl ?_ ?_ ?_
  rotate_left
  ·intro; go_simp <;> with_reducible rfl
  try simp only [Act.put, p1, p2, p3, p4, p5, p6]
  refine tk0 6 rfl ?_ ?_ ?_
  rotate_left
  ·intro; go_simp <;> with_reducible rfl
  try simp only [Act.put, p1, p2, p3, p4, p5, p6]
  refine tk0 7 rfl ?_ ?_ ?_
  rotate_left
  ·intro; go_simp <;> with_reducible rfl
  try simp only [Act.put, p1, p2, p3, p4, p5, p6]
  refine tk0 8 rfl ?_ ?_ ?_
  rotate_left
  ·intro; go_simp <;> with_reducible rfl
  try simp only [Act.put, p1, p2, p3, p4, p5, p6]
  refine tk 9 rfl ?_ ?_ ?_
  rotate_left
  ·intro w_ hSw; have q0 := (hSw.cell (p := ⟨g, 13, none⟩) hlt).trans d13; clear hSw; go_simp <;> (with_reducible rfl)
  try simp only [Act.put, p1, p2, p3, p4, p5, p6]
  refine ry [10] ?_
  refine ar1 rfl fun K hK => ?_
  go_simp
  (go_at_call 93; ((with_reducible refine (C1.out _).mono ?_); rintro e w1 ⟨rfl, rfl⟩))
  go_wp2_with fail
  refine hK.out _ _ hHeld (fun hHeld => ?_)
  clear hK K
  try simp only [Act.put, p1, p2, p3, p4, p5, p6]
  refine tk0 11 rfl ?_ ?_ ?_
  rotate_left
  ·intro; go_simp <;> with_reducible rfl
  try simp only [Act.put, p1, p2, p3, p4, p5, p6]
  refine tk0 12 rfl ?_ ?_ ?_
  rotate_left
  ·intro; go_simp <;> with_reducible rfl
  try simp only [Act.put, p1, p2, p3, p4, p5, p6]
  refine tk0 13 rfl ?_ ?_ ?_
  rotate_left
  ·intro; go_simp <;> with_reducible rfl
  try simp only [Act.put, p1, p2, p3, p4, p5, p6]
  refine tk0 14 rfl ?_ ?_ ?_
  rotate_left
  ·intro; go_simp <;> with_reducible rfl
  try simp only [Act.put, p1, p2, p3, p4, p5, p6]
  refine tk0 15 rfl ?_ ?_ ?_
  rotate_left
  ·intro; go_simp <;> with_reducible rfl
  try simp only [Act.put, p1, p2, p3, p4, p5, p6]
  refine wpAnyT_done (by kernel_rfl) ?_ _
  go_wp2
  exact ret0 rfl rfl ⟨rfl, tb, HC.out.below ((Below.refl w.heap.size w).drew), (Fx.refl g tb w).below ((Below.refl w.heap.size w).drew)⟩
set_option maxHeartbeats 4000000 in
theorem on_yes (h : Cyc base g i L tb a R fr pa w) (hl : gn.RightL a.l) (hw1 : 1 ≤ a.win) (hw2 : a.win ≤ 16) (ho : InR a.off) (hi : InR i.actual) (hs : SwP a i.actual) :
  Calls Tryz.prog 68 #[.pointer (some ⟨g, 0, none⟩)] w (Does base g i L tb w (switched a i.actual) R true pa) := by
 have HC := lh h
 obtain ⟨S, N, W, T, h, ht⟩ := h
 have hlt := h.lt
 have ⟨d28, d28f⟩ := k.cell_of h.box (i := 28) rfl
 have ⟨d13, d13f⟩ := k.cell_of h.box (i := 13) rfl
 clear h ht
 obtain ⟨e1, e2, e3⟩ := sw_all (a := a) hl (x := i.actual)
 have C1 := fun V => q.sub_any i.actual a.off hi.1 hi.2 ho.1 ho.2 V
 have h1 := hs.1
 rw [show q.subV i.actual a.off = i.actual - a.off from gx.rv_yes h1, show q.subB i.actual a.off = true from gx.rm_yes h1] at C1
 have C1 := lh C1
 obtain ⟨seen, hsn⟩ : ∃ z, i.actual - a.off = z := ⟨_, rfl⟩
 rw [hsn] at C1 e1 e2 e3 h1
 have CC := fun V => q.clamp_any seen (-1099511627776) 1099511627776 V
 have hp : -1099511627776 ≤ q.clampV seen (-1099511627776) 1099511627776 ∧ q.clampV seen (-1099511627776) 1099511627776 ≤ 1099511627776 := by unfold q.clampV; omega
 obtain ⟨ps, hps⟩ : ∃ z, q.clampV seen (-1099511627776) 1099511627776 = z := ⟨_, rfl⟩
 rw [hps] at CC e1 e2 hp
 have CC := lh CC
 have C2 := fun V => q.sub_any i.actual ps hi.1 hi.2 (by omega) (by omega) V
 have h2 : InR (i.actual - ps) := by have := hs.2.1; rwa [e2] at this
 rw [show q.subV i.actual ps = i.actual - ps from gx.rv_yes h2, show q.subB i.actual ps = true from gx.rm_yes h2] at C2
 have C2 := lh C2
 have C3 := lh fun V => isoff_any (n := i.actual - ps) (t := true) (decide_eq_true (by have := hs.2.2; rwa [e2] at this)) V
 have HA : Hid (switched a i.actual = { (stood { a with st := ed.nxS a.st 1 } ps) with homed := a.homed && decide (a.l.lo ≤ seen ∧ seen ≤ a.l.hi), off := i.actual - ps }) := lh (by unfold switched; rw [if_pos hs, e1, e2, e3]; rfl)
 generalize i.actual - ps = of at C2 C3 HA
 have CA := lh fun (W' : World) S N W => at_any { a with st := ed.nxS a.st 1 } hw1 hw2 (p := ps) ⟨by omega, by omega⟩ S N W W'
 obtain ⟨wi, hwi⟩ : ∃ z, decide (a.l.lo ≤ seen ∧ seen ≤ a.l.hi) = z := ⟨_, rfl⟩
 rw [hwi] at HA
 have CW := lh fun V => w64_any hwi V
 clear e1 e2 e3 hsn h1 hps hp h2 hs hi ho hl hwi hw1 hw2
 go_enter Tryz.func68, Tryz.ntmps68
 go_upto_region 0 with fail
 refine wp_region_T (by kernel_rfl) (fun w' => Below w.heap.size w w') [] (Below.refl _ _).drew (fun hHeld => ?_)
 refine tk0 0 rfl ?_ ?_ ?_
 rotate_left
 ·intro; go_simp <;> with_reducible rfl
 try simp only [Act.put, p1, p2, p3, p4, p6]
 refine tk0 1 rfl ?_ ?_ ?_
 rotate_left
 ·intro; go_simp <;> with_reducible rfl
 try simp only [Act.put, p1, p2, p3, p4, p5, p6]
 refine tk0 2 rfl ?_ ?_ ?_
 rotate_left
 ·intro; go_simp <;> with_reducible rfl
 try simp only [Act.put, p1, p2, p3, p4, p5, p6]
 refine tk0 3 rfl ?_ ?_ ?_
 rotate_left
 ·intro; go_simp <;> with_reducible rfl
 try simp only [Act.put, p1, p2, p3, p4, p5, p6]
 refine tk 4 rfl ?_ ?_ ?_
 rotate_left
 ·intro w_ hSw; have q0 := (hSw.cell (p := ⟨g, 28, none⟩) hlt).trans d28; clear hSw; go_simp <;> (with_reducible rfl)
 try simp only [Act.put, p1, p2, p3, p4, p5, p6]
 refine tk0 5 rfl ?_ ?_ ?_
 rotate_left
 ·intro; go_simp <;> with_reducible rfl
 try simp only [Act.put, p1, p2, p3, p4, p5, p6]
 refine tk0 6 rfl ?_ ?_ ?_
 rotate_left
 ·intro; go_simp <;> with_reducible rfl
 try simp only [Act.put, p1, p2, p3, p4, p5, p6]
 refine tk0 7 rfl ?_ ?_ ?_
 rotate_left
 ·intro; go_simp <;> with_reducible rfl
 try simp only [Act.put, p1, p2, p3, p4, p5, p6]
 refine tk0 8 rfl ?_ ?_ ?_
 rotate_left
 ·intro; go_simp <;> with_reducible rfl
 try simp only [Act.put, p1, p2, p3, p4, p5, p6]
 refine tk 9 rfl ?_ ?_ ?_
 rotate_left
 ·intro w_ hSw; have q0 := (hSw.cell (p := ⟨g, 13, none⟩) hlt).trans d13; clear hSw; go_simp <;> (with_reducible rfl)
 try simp only [Act.put, p1, p2, p3, p4, p5, p6]
 refine ry [10] ?_
 refine ar1 rfl fun K hK => ?_
 go_simp
 (go_at_call 93; ((with_reducible refine (C1.out _).mono ?_); rintro e w1 ⟨rfl, rfl⟩))
 go_wp2_with fail
 refine hK.out _ _ hHeld (fun hHeld => ?_)
 clear hK K
 try simp only [Act.put, p1, p2, p3, p4, p5, p6]
 refine tk0 11 rfl ?_ ?_ ?_
 rotate_left
 ·intro; go_simp <;> with_reducible rfl
 try simp only [Act.put, p1, p2, p3, p4, p5, p6]
 refine tk0 12 rfl ?_ ?_ ?_
 rotate_left
 ·intro; go_simp <;> with_reducible rfl
 try simp only [Act.put, p1, p2, p3, p4, p5, p6]
 refine tk0 13 rfl ?_ ?_ ?_
 rotate_left
 ·intro; go_simp <;> with_reducible rfl
 try simp only [Act.put, p1, p2, p3, p4, p5, p6]
 refine tk0 14 rfl ?_ ?_ ?_
 rotate_left
 ·intro; go_simp <;> with_reducible rfl
 try simp only [Act.put, p1, p2, p3, p4, p5, p6]
 refine tk0 15 rfl ?_ ?_ ?_
 rotate_left
 ·intro; go_simp <;> with_reducible rfl
 try simp only [Act.put, p1, p2, p3, p4, p5, p6]
 refine wpAnyT_done (by kernel_rfl) ?_ _
 go_wp2_with (first | (go_at_call 93; ((with_reducible refine (C2.out _).mono ?_); rintro e w2 ⟨rfl, rfl⟩)) | (go_at_call 42; ((with_reducible refine (CC.out _).mono ?_); rintro e w2 ⟨rfl, rfl⟩)) | (go_at_call 36; ((with_reducible refine (C3.out _).mono ?_); rintro e w2 ⟨rfl, rfl⟩)) | (go_at_call 90; fail))
 refine (happen_any (HC.out.below ((Below.refl w.heap.size w).drew)) 1).mono ?_
 rintro e w2 ⟨rfl, tb2, h2, f2⟩
 have FX := lh ((((Fx.refl g tb w).below ((Below.refl w.heap.size w).drew))).trans f2)
 clear f2 HC d28 d28f d13 d13f
 obtain ⟨S2, N2, W2, T2, h2, ht⟩ := h2
 have H := lh h2
 have hl2 := h2.lt
 clear h2
 go_upto_region 7 with (first | ((with_reducible refine m_ax_load H.out.ax 46 ?_ ?_ ?_ ?_); rfl; rfl; rfl; (try simp only [Act.put])) | (go_at_call 25; ((with_reducible refine (CA.out _ S2 N2 W2).mono ?_); rintro e w3 ⟨S', rfl, hs, hn, hb⟩; have RS := lh hs; have NS := lh hn; have HB := lh hb; clear hs hn hb)) | ((with_reducible refine m_l_cy (H.out.below HB.out).box (stood { a with st := ed.nxS a.st 1 } ps) S' N2 W2 51 49 ?_ ?_ ?_ ?_ ?_ ?_); rfl; rfl; rfl; rfl; rfl; intro w4 ho hx; have HO := lh ho; have HX := lh hx; clear ho hx))
 have h4 := H.out.restood HB.out HO.out RS.out NS.out rfl rfl HX.out
 have H4 := lh h4
 have FX := lh ((FX.out.below HB.out).only HO.out)
 have hl4 := h4.lt
 clear h4 H HO RS NS HX HB hl2 CC C1 C2 C3 CA
 have ⟨d16, d16f⟩ := k.cell_of H4.out.box (i := 16) rfl
 have ⟨d4, d4f⟩ := k.cell_of H4.out.box (i := 4) rfl
 have ⟨d5, d5f⟩ := k.cell_of H4.out.box (i := 5) rfl
 have ⟨d13, d13f⟩ := k.cell_of H4.out.box (i := 13) rfl
 have ⟨d39, d39f⟩ := k.cell_of H4.out.box (i := 39) rfl
 obtain ⟨hh, hhh⟩ : ∃ z, a.homed = z := ⟨_, rfl⟩
 rw [hhh] at HA
 have d16 : w4.cell? ⟨g, 16, none⟩ = some (.bool hh) := by rw [← hhh]; exact d16
 have HHH := lh hhh
 clear hhh
 have d4 : w4.cell? ⟨g, 4, none⟩ = some (.int .i64 a.l.lo) := d4
 have d5 : w4.cell? ⟨g, 5, none⟩ = some (.int .i64 a.l.hi) := d5
 cases hh
 ·skip
  refine wp_region_T (by kernel_rfl) (fun w' => Below w4.heap.size w4 w') [25] (Below.refl _ _).drew (fun hHeld => ?_)
  refine tk0 0 rfl ?_ ?_ ?_
  rotate_left
  ·intro; go_simp <;> with_reducible rfl
  try simp only [Act.put, p1, p2, p3, p4, p6]
  refine tk0 1 rfl ?_ ?_ ?_
  rotate_left
  ·intro; go_simp <;> with_reducible rfl
  try simp only [Act.put, p1, p2, p3, p4, p5, p6]
  refine tk0 2 rfl ?_ ?_ ?_
  rotate_left
  ·intro; go_simp <;> with_reducible rfl
  try simp only [Act.put, p1, p2, p3, p4, p5, p6]
  refine tk0 3 rfl ?_ ?_ ?_
  rotate_left
  ·intro; go_simp <;> with_reducible rfl
  try simp only [Act.put, p1, p2, p3, p4, p5, p6]
  refine tk0 4 rfl ?_ ?_ ?_
  rotate_left
  ·intro; go_simp <;> with_reducible rfl
  try simp only [Act.put, p1, p2, p3, p4, p5, p6]
  refine tk 5 rfl ?_ ?_ ?_
  rotate_left
  ·intro w_ hSw; have q0 := (hSw.cell (p := ⟨g, 16, none⟩) hl4).trans d16; clear hSw; go_simp <;> (with_reducible rfl)
  try simp only [Act.put, p1, p2, p3, p4, p5, p6]
  refine tk0 6 rfl ?_ ?_ ?_
  rotate_left
  ·intro; go_simp <;> with_reducible rfl
  try simp only [Act.put, p1, p2, p3, p4, p5, p6]
  refine tks 7 rfl ?_
  try simp only [Act.put, p1, p2, p3, p4, p5, p6]
  refine tks 8 rfl ?_
  try simp only [Act.put, p1, p2, p3, p4, p5, p6]
  refine tks 9 rfl ?_
  try simp only [Act.put, p1, p2, p3, p4, p5, p6]
  refine tks 10 rfl ?_
  try simp only [Act.put, p1, p2, p3, p4, p5, p6]
  refine tks 11 rfl ?_
  try simp only [Act.put, p1, p2, p3, p4, p5, p6]
  refine tks 12 rfl ?_
  try simp only [Act.put, p1, p2, p3, p4, p5, p6]
  refine tks 13 rfl ?_
  try simp only [Act.put, p1, p2, p3, p4, p5, p6]
  refine tks 14 rfl ?_
  try simp only [Act.put, p1, p2, p3, p4, p5, p6]
  refine tks 15 rfl ?_
  try simp only [Act.put, p1, p2, p3, p4, p5, p6]
  refine tks 16 rfl ?_
  try simp only [Act.put, p1, p2, p3, p4, p5, p6]
  refine tks 17 rfl ?_
  try simp only [Act.put, p1, p2, p3, p4, p5, p6]
  refine tks 18 rfl ?_
  try simp only [Act.put, p1, p2, p3, p4, p5, p6]
  refine tks 19 rfl ?_
  try simp only [Act.put, p1, p2, p3, p4, p5, p6]
  refine tks 20 rfl ?_
  try simp only [Act.put, p1, p2, p3, p4, p5, p6]
  refine tk0 21 rfl ?_ ?_ ?_
  rotate_left
  ·intro; go_simp <;> with_reducible rfl
  try simp only [Act.put, p1, p2, p3, p4, p5, p6]
  refine tk0 22 rfl ?_ ?_ ?_
  rotate_left
  ·intro; go_simp <;> with_reducible rfl
  try simp only [Act.put, p1, p2, p3, p4, p5, p6]
  refine tk0 23 rfl ?_ ?_ ?_
  rotate_left
  ·intro; go_simp <;> with_reducible rfl
  try simp only [Act.put, p1, p2, p3, p4, p5, p6]
  refine tk0 24 rfl ?_ ?_ ?_
  rotate_left
  ·intro; go_simp <;> with_reducible rfl
  try simp only [Act.put, p1, p2, p3, p4, p5, p6]
  refine ry [25] ?_
  refine AllReadyT.spoilt rfl (by kernel_rfl) (fun K hK => ?_) AllReadyT.nil
  go_simp
  go_wp2_with fail
  refine hK.out _ _ ?_
  clear hK K
  try simp only [Act.put, p1, p2, p3, p4, p5, p6]
  refine wpAnyT_done (by kernel_rfl) ?_ _
  go_wp2
  have ho := ((((Only.refl g w4).set 16 (.bool false)).set 13 (.int .i64 of)).set 39 (.bool true))
  have h5 := H4.out.as (a' := { (stood { a with st := ed.nxS a.st 1 } ps) with homed := false, off := of }) (fr' := true) ho (k.Box.put (k.Box.put (k.Box.put H4.out.box 16 (by simp) _) 13 (by simp) _) 39 (by simp) _) rfl rfl rfl
  have hb := (Below.refl ((((w4.setCell ⟨g, 16, none⟩ (.bool false)).setCell ⟨g, 13, none⟩ (.int .i64 of)).setCell ⟨g, 39, none⟩ (.bool true))).heap.size ((((w4.setCell ⟨g, 16, none⟩ (.bool false)).setCell ⟨g, 13, none⟩ (.int .i64 of)).setCell ⟨g, 39, none⟩ (.bool true)))).drew
  have HE : switched a i.actual = { (stood { a with st := ed.nxS a.st 1 } ps) with homed := false, off := of } := HA.out.trans rfl
  refine end0 rfl rfl ⟨rfl, tb2, ?_, (FX.out.only ho).below hb⟩
  rw [HE]
  exact ⟨_, _, _, _, h5.below hb, ht⟩
 ·skip
  refine wp_region_T (by kernel_rfl) (fun w' => Below w4.heap.size w4 w') [25] (Below.refl _ _).drew (fun hHeld => ?_)
  refine tk0 0 rfl ?_ ?_ ?_
  rotate_left
  ·intro; go_simp <;> with_reducible rfl
  try simp only [Act.put, p1, p2, p3, p4, p6]
  refine tk0 1 rfl ?_ ?_ ?_
  rotate_left
  ·intro; go_simp <;> with_reducible rfl
  try simp only [Act.put, p1, p2, p3, p4, p5, p6]
  refine tk0 2 rfl ?_ ?_ ?_
  rotate_left
  ·intro; go_simp <;> with_reducible rfl
  try simp only [Act.put, p1, p2, p3, p4, p5, p6]
  refine tk0 3 rfl ?_ ?_ ?_
  rotate_left
  ·intro; go_simp <;> with_reducible rfl
  try simp only [Act.put, p1, p2, p3, p4, p5, p6]
  refine tk0 4 rfl ?_ ?_ ?_
  rotate_left
  ·intro; go_simp <;> with_reducible rfl
  try simp only [Act.put, p1, p2, p3, p4, p5, p6]
  refine tk 5 rfl ?_ ?_ ?_
  rotate_left
  ·intro w_ hSw; have q0 := (hSw.cell (p := ⟨g, 16, none⟩) hl4).trans d16; clear hSw; go_simp <;> (with_reducible rfl)
  try simp only [Act.put, p1, p2, p3, p4, p5, p6]
  refine tk0 6 rfl ?_ ?_ ?_
  rotate_left
  ·intro; go_simp <;> with_reducible rfl
  try simp only [Act.put, p1, p2, p3, p4, p5, p6]
  refine tk0 7 rfl ?_ ?_ ?_
  rotate_left
  ·intro; go_simp <;> with_reducible rfl
  try simp only [Act.put, p1, p2, p3, p4, p5, p6]
  refine tk0 8 rfl ?_ ?_ ?_
  rotate_left
  ·intro; go_simp <;> with_reducible rfl
  try simp only [Act.put, p1, p2, p3, p4, p5, p6]
  refine tk0 9 rfl ?_ ?_ ?_
  rotate_left
  ·intro; go_simp <;> with_reducible rfl
  try simp only [Act.put, p1, p2, p3, p4, p5, p6]
  refine tk0 10 rfl ?_ ?_ ?_
  rotate_left
  ·intro; go_simp <;> with_reducible rfl
  try simp only [Act.put, p1, p2, p3, p4, p5, p6]
  refine tk0 11 rfl ?_ ?_ ?_
  rotate_left
  ·intro; go_simp <;> with_reducible rfl
  try simp only [Act.put, p1, p2, p3, p4, p5, p6]
  refine tk0 12 rfl ?_ ?_ ?_
  rotate_left
  ·intro; go_simp <;> with_reducible rfl
  try simp only [Act.put, p1, p2, p3, p4, p5, p6]
  refine tk 13 rfl ?_ ?_ ?_
  rotate_left
  ·intro w_ hSw; have q0 := (hSw.cell (p := ⟨g, 4, none⟩) hl4).trans d4; clear hSw; go_simp <;> (with_reducible rfl)
  try simp only [Act.put, p1, p2, p3, p4, p5, p6]
  refine tk0 14 rfl ?_ ?_ ?_
  rotate_left
  ·intro; go_simp <;> with_reducible rfl
  try simp only [Act.put, p1, p2, p3, p4, p5, p6]
  refine tk0 15 rfl ?_ ?_ ?_
  rotate_left
  ·intro; go_simp <;> with_reducible rfl
  try simp only [Act.put, p1, p2, p3, p4, p5, p6]
  refine tk0 16 rfl ?_ ?_ ?_
  rotate_left
  ·intro; go_simp <;> with_reducible rfl
  try simp only [Act.put, p1, p2, p3, p4, p5, p6]
  refine tk0 17 rfl ?_ ?_ ?_
  rotate_left
  ·intro; go_simp <;> with_reducible rfl
  try simp only [Act.put, p1, p2, p3, p4, p5, p6]
  refine tk0 18 rfl ?_ ?_ ?_
  rotate_left
  ·intro; go_simp <;> with_reducible rfl
  try simp only [Act.put, p1, p2, p3, p4, p5, p6]
  refine tk 19 rfl ?_ ?_ ?_
  rotate_left
  ·intro w_ hSw; have q0 := (hSw.cell (p := ⟨g, 5, none⟩) hl4).trans d5; clear hSw; go_simp <;> (with_reducible rfl)
  try simp only [Act.put, p1, p2, p3, p4, p5, p6]
  refine ry [20] ?_
  refine ar1 rfl fun K hK => ?_
  go_simp
  (go_at_call 50; ((with_reducible refine (CW.out _).mono ?_); rintro e w5 ⟨rfl, rfl⟩))
  go_wp2_with fail
  refine hK.out _ _ hHeld (fun hHeld => ?_)
  clear hK K
  try simp only [Act.put, p1, p2, p3, p4, p5, p6]
  refine tk0 21 rfl ?_ ?_ ?_
  rotate_left
  ·intro; go_simp <;> with_reducible rfl
  try simp only [Act.put, p1, p2, p3, p4, p5, p6]
  refine tk0 22 rfl ?_ ?_ ?_
  rotate_left
  ·intro; go_simp <;> with_reducible rfl
  try simp only [Act.put, p1, p2, p3, p4, p5, p6]
  refine tk0 23 rfl ?_ ?_ ?_
  rotate_left
  ·intro; go_simp <;> with_reducible rfl
  try simp only [Act.put, p1, p2, p3, p4, p5, p6]
  refine tk0 24 rfl ?_ ?_ ?_
  rotate_left
  ·intro; go_simp <;> with_reducible rfl
  try simp only [Act.put, p1, p2, p3, p4, p5, p6]
  refine ry [25] ?_
  refine AllReadyT.spoilt rfl (by kernel_rfl) (fun K hK => ?_) AllReadyT.nil
  go_simp
  go_wp2_with fail
  refine hK.out _ _ ?_
  clear hK K
  try simp only [Act.put, p1, p2, p3, p4, p5, p6]
  refine wpAnyT_done (by kernel_rfl) ?_ _
  go_wp2
  have ho := ((((Only.refl g w4).set 16 (.bool wi)).set 13 (.int .i64 of)).set 39 (.bool true))
  have h5 := H4.out.as (a' := { (stood { a with st := ed.nxS a.st 1 } ps) with homed := wi, off := of }) (fr' := true) ho (k.Box.put (k.Box.put (k.Box.put H4.out.box 16 (by simp) _) 13 (by simp) _) 39 (by simp) _) rfl rfl rfl
  have hb := (Below.refl ((((w4.setCell ⟨g, 16, none⟩ (.bool wi)).setCell ⟨g, 13, none⟩ (.int .i64 of)).setCell ⟨g, 39, none⟩ (.bool true))).heap.size ((((w4.setCell ⟨g, 16, none⟩ (.bool wi)).setCell ⟨g, 13, none⟩ (.int .i64 of)).setCell ⟨g, 39, none⟩ (.bool true)))).drew
  have HE : switched a i.actual = { (stood { a with st := ed.nxS a.st 1 } ps) with homed := wi, off := of } := HA.out.trans rfl
  refine end0 rfl rfl ⟨rfl, tb2, ?_, (FX.out.only ho).below hb⟩
  rw [HE]
  exact ⟨_, _, _, _, h5.below hb, ht⟩
end
end Go.Proofs.YtijlccblabadaaaGreat.cx
end
section
namespace Go.Proofs.YtijlccblabadaaaGreat.cx
open Go.ChangeShapes Go.WideShapes Go.ChangeAt Go.RowKit Go.Proofs.YtijlccblabadaaaGreat.k Go.Proofs.YtijlccblabadaaaGreat.rr Go.Proofs.YtijlccblabadaaaGreat.ax
open Go.Proofs.YtijlccblabadaaaGreat.ln (C RdC RdI iC cC cV lnV)
set_option linter.unusedVariables false
set_option maxRecDepth 100000
section
variable {base g : Nat} {i : In} {L : Sl} {a : Ax} {R : List Rp} {fr pa : Bool} {w : World} {tb : Option Nat}
structure TurnOk (a : Ax) (i : In) : Prop where
 right : RightA a
 act : InR i.actual
theorem right_win {a : Ax} (h : RightA a) : mm.RightW a.sm := ⟨by have := h.len; have := h.made.2.1; omega, by have := h.len; have := h.made.2.2.1; omega, h.rows⟩
theorem right_pos {a : Ax} (h : RightA a) : mm.inP a.p := by have := place_in h; exact ⟨by omega, by omega⟩
theorem reset_iff {a : Ax} (h : RightA a) (h7 : a.st = 7) (i : In) : resetB a i = decide (causeOf a i = 0 ∧ i.reset = true ∧ i.op = true ∧ StillP a) := by
 have hc : causeOf a i = i.cause := by
  unfold causeOf
  rw [if_neg (by omega), if_pos (.inr h7)]
 rw [hc]
 unfold resetB
 rw [still_iff (right_win h)]
 cases i.reset <;> cases i.op <;> simp
set_option maxHeartbeats 4000000 in
theorem turn_any (h : Cyc base g i L tb a R false pa w) (hr : RightA a) (hi : InR i.actual) (hR : R.length ≤ 7000) :
  Calls Tryz.prog 43 #[.pointer (some ⟨g, 0, none⟩)] w (Does base g i L tb w (firstA a i) (R ++ firstR a i) (firstF a i) pa) := by
 have HC := lh h
 have C0 := lh (cause_any h rfl)
 have ceq := fun h7 : a.st ≠ 7 => cause_eq h7 i
 obtain ⟨cl, hcl⟩ : ∃ z, causeL a i = z := ⟨_, rfl⟩
 rw [hcl] at C0 ceq
 clear hcl
 obtain ⟨S, N, W, T, h, ht⟩ := h
 have ⟨d0, d0f⟩ := k.cell_of h.box (i := 0) rfl
 have ⟨d26, d26f⟩ := k.cell_of h.box (i := 26) rfl
 have ⟨d27, d27f⟩ := k.cell_of h.box (i := 27) rfl
 clear h ht
 by_cases h7 : a.st = 7
 ·have b7 : (a.st == 7) = true := by rw [h7]; rfl
  have hn : ¬ (causeOf a i ≠ 0 ∧ a.st ≠ 7) := fun h => h.2 h7
  have hri := reset_iff hr h7 i
  by_cases hs : resetB a i = true
  ·rw [hs] at hri
   have hy := of_decide_eq_true hri.symm
   have CM := lh (reset_yes HC.out hs)
   have EA : Hid (Does base g i L tb w (firstA a i) (R ++ firstR a i) (firstF a i) pa = Does base g i L tb w (goes { a with cause := 0 } 12) (R) true pa) := lh (by rw [show firstA a i = goes { a with cause := 0 } 12 from by unfold firstA; rw [if_neg hn, if_pos h7, if_pos hy], show firstF a i = true from by unfold firstF; rw [if_neg hn, if_pos h7]; exact decide_eq_true hy, show firstR a i = [] from by unfold firstR; rw [if_neg hn, if_pos h7], List.append_nil])
   rw [EA.out]
   clear EA ceq hr hi hR
   (try clear h7)
   (try clear hc)
   (try clear h0)
   (try clear hs)
   (try clear hn)
   (try clear hri)
   (try clear hy)
   (try clear hz)
   (try clear hq)
   (try clear hcc)
   (try clear hs2)
   (try clear hoff)
   (try clear hst)
   go_enter Tryz.func43, Tryz.ntmps43
   go_wp2_with (first | (go_at_call 65; ((with_reducible refine (C0.out).mono ?_); rintro e w1 ⟨rfl, rfl⟩)) | (go_at_call 66; fail))
   refine CM.out.mono ?_
   rintro e w2 ⟨rfl, hd⟩
   go_wp2
   exact end0 rfl rfl ⟨rfl, hd⟩
  ·have hs2 : resetB a i = false := by simpa using hs
   rw [hs2] at hri
   have hy := of_decide_eq_false hri.symm
   have CM := lh (reset_no HC.out hs2)
   have EA : Hid (Does base g i L tb w (firstA a i) (R ++ firstR a i) (firstF a i) pa = Does base g i L tb w (a) (R) false pa) := lh (by rw [show firstA a i = a from by unfold firstA; rw [if_neg hn, if_pos h7, if_neg hy], show firstF a i = false from by unfold firstF; rw [if_neg hn, if_pos h7]; exact decide_eq_false hy, show firstR a i = [] from by unfold firstR; rw [if_neg hn, if_pos h7], List.append_nil])
   rw [EA.out]
   clear EA ceq hr hi hR
   (try clear h7)
   (try clear hc)
   (try clear h0)
   (try clear hs)
   (try clear hn)
   (try clear hri)
   (try clear hy)
   (try clear hz)
   (try clear hq)
   (try clear hcc)
   (try clear hs2)
   (try clear hoff)
   (try clear hst)
   go_enter Tryz.func43, Tryz.ntmps43
   go_wp2_with (first | (go_at_call 65; ((with_reducible refine (C0.out).mono ?_); rintro e w1 ⟨rfl, rfl⟩)) | (go_at_call 66; fail))
   refine CM.out.mono ?_
   rintro e w2 ⟨rfl, hd⟩
   go_wp2
   exact end0 rfl rfl ⟨rfl, hd⟩
 have b7 : (a.st == 7) = false := by rw [beq_eq_false_iff_ne]; exact h7
 have hcc := ceq h7
 by_cases hc : cl = 0
 ·have bc : (cl != 0) = false := by rw [hc]; rfl
  have hn : ¬ (causeOf a i ≠ 0 ∧ a.st ≠ 7) := fun h => h.1 (hcc.symm.trans hc)
  by_cases h0 : a.st = 0
  ·have b0 : (a.st == 0) = true := by rw [h0]; rfl
   have b0n : (a.st != 0) = false := by rw [h0]; rfl
   have hz : ¬ (a.st ≠ 0 ∧ i.power = false) := fun h => h.1 h0
   cases hp : i.power
   ·rw [hp] at d26
    have hst : ¬ (a.st = 0 ∧ i.power = true ∧ i.op = true) := fun hq => by rw [hp] at hq; exact absurd hq.2.1 (by simp)
    have EA : Hid (Does base g i L tb w (firstA a i) (R ++ firstR a i) (firstF a i) pa = Does base g i L tb w a R false pa) := lh (by rw [show firstA a i = a from by unfold firstA; rw [if_neg hn, if_neg h7, if_neg hz, if_neg hst], show firstF a i = false from by unfold firstF; rw [if_neg hn, if_neg h7, if_neg hz]; exact decide_eq_false (fun hq => hst ⟨hq.1, hq.2.1, hq.2.2.1⟩), show firstR a i = [] from by unfold firstR; rw [if_neg hn, if_neg h7, if_neg hz], List.append_nil])
    rw [EA.out]
    clear EA ceq hr hi hR
    (try clear h7)
    (try clear hc)
    (try clear h0)
    (try clear hs)
    (try clear hn)
    (try clear hri)
    (try clear hy)
    (try clear hz)
    (try clear hq)
    (try clear hcc)
    (try clear hs2)
    (try clear hoff)
    (try clear hst)
    go_enter Tryz.func43, Tryz.ntmps43
    go_wp2_with (go_at_call 65; ((with_reducible refine (C0.out).mono ?_); rintro e w1 ⟨rfl, rfl⟩))
    exact end0 rfl rfl ⟨rfl, Did.of HC.out⟩
   ·rw [hp] at d26
    cases ho : i.op
    ·rw [ho] at d27
     have hst : ¬ (a.st = 0 ∧ i.power = true ∧ i.op = true) := fun hq => by rw [ho] at hq; exact absurd hq.2.2 (by simp)
     have EA : Hid (Does base g i L tb w (firstA a i) (R ++ firstR a i) (firstF a i) pa = Does base g i L tb w a R false pa) := lh (by rw [show firstA a i = a from by unfold firstA; rw [if_neg hn, if_neg h7, if_neg hz, if_neg hst], show firstF a i = false from by unfold firstF; rw [if_neg hn, if_neg h7, if_neg hz]; exact decide_eq_false (fun hq => hst ⟨hq.1, hq.2.1, hq.2.2.1⟩), show firstR a i = [] from by unfold firstR; rw [if_neg hn, if_neg h7, if_neg hz], List.append_nil])
     rw [EA.out]
     clear EA ceq hr hi hR
     (try clear h7)
     (try clear hc)
     (try clear h0)
     (try clear hs)
     (try clear hn)
     (try clear hri)
     (try clear hy)
     (try clear hz)
     (try clear hq)
     (try clear hcc)
     (try clear hs2)
     (try clear hoff)
     (try clear hst)
     go_enter Tryz.func43, Tryz.ntmps43
     go_wp2_with (go_at_call 65; ((with_reducible refine (C0.out).mono ?_); rintro e w1 ⟨rfl, rfl⟩))
     exact end0 rfl rfl ⟨rfl, Did.of HC.out⟩
    ·rw [ho] at d27
     have hq : a.st = 0 ∧ i.power = true ∧ i.op = true := ⟨h0, hp, ho⟩
     have hoff : InR a.off := by have := hr.far; unfold FarP at this; exact small (by omega) (by omega)
     by_cases hs : SwP a i.actual
     ·skip
      have CM := lh (on_yes HC.out hr.limits hr.win1 hr.made.2.2.1 hoff hi hs)
      have EA : Hid (Does base g i L tb w (firstA a i) (R ++ firstR a i) (firstF a i) pa = Does base g i L tb w (switched a i.actual) (R) true pa) := lh (by rw [show firstA a i = switched a i.actual from by unfold firstA; rw [if_neg hn, if_neg h7, if_neg hz, if_pos hq], show firstF a i = true from by unfold firstF; rw [if_neg hn, if_neg h7, if_neg hz]; exact decide_eq_true ⟨hq.1, hq.2.1, hq.2.2, hs⟩, show firstR a i = [] from by unfold firstR; rw [if_neg hn, if_neg h7, if_neg hz], List.append_nil])
      rw [EA.out]
      clear EA ceq hr hi hR
      (try clear h7)
      (try clear hc)
      (try clear h0)
      (try clear hs)
      (try clear hn)
      (try clear hri)
      (try clear hy)
      (try clear hz)
      (try clear hq)
      (try clear hcc)
      (try clear hs2)
      (try clear hoff)
      (try clear hst)
      go_enter Tryz.func43, Tryz.ntmps43
      go_wp2_with (first | (go_at_call 65; ((with_reducible refine (C0.out).mono ?_); rintro e w1 ⟨rfl, rfl⟩)) | (go_at_call 68; fail))
      refine CM.out.mono ?_
      rintro e w2 ⟨rfl, hd⟩
      go_wp2
      exact end0 rfl rfl ⟨rfl, hd⟩
     ·skip
      have CM := lh (on_no HC.out hr.limits hoff hi hs)
      have EA : Hid (Does base g i L tb w (firstA a i) (R ++ firstR a i) (firstF a i) pa = Does base g i L tb w (a) (R) false pa) := lh (by rw [show firstA a i = a from by unfold firstA; rw [if_neg hn, if_neg h7, if_neg hz, if_pos hq]; exact if_neg hs, show firstF a i = false from by unfold firstF; rw [if_neg hn, if_neg h7, if_neg hz]; exact decide_eq_false fun hq => hs hq.2.2.2, show firstR a i = [] from by unfold firstR; rw [if_neg hn, if_neg h7, if_neg hz], List.append_nil])
      rw [EA.out]
      clear EA ceq hr hi hR
      (try clear h7)
      (try clear hc)
      (try clear h0)
      (try clear hs)
      (try clear hn)
      (try clear hri)
      (try clear hy)
      (try clear hz)
      (try clear hq)
      (try clear hcc)
      (try clear hs2)
      (try clear hoff)
      (try clear hst)
      go_enter Tryz.func43, Tryz.ntmps43
      go_wp2_with (first | (go_at_call 65; ((with_reducible refine (C0.out).mono ?_); rintro e w1 ⟨rfl, rfl⟩)) | (go_at_call 68; fail))
      refine CM.out.mono ?_
      rintro e w2 ⟨rfl, hd⟩
      go_wp2
      exact end0 rfl rfl ⟨rfl, hd⟩
  ·have b0 : (a.st == 0) = false := by rw [beq_eq_false_iff_ne]; exact h0
   have b0n : (a.st != 0) = true := by rw [bne_iff_ne]; exact h0
   cases hp : i.power
   ·rw [hp] at d26
    have hz : a.st ≠ 0 ∧ i.power = false := ⟨h0, hp⟩
    have CM := lh (off_any HC.out hr.line hr.win1 hr.made.2.2.1 (right_pos hr) (by omega))
    have EA : Hid (Does base g i L tb w (firstA a i) (R ++ firstR a i) (firstF a i) pa = Does base g i L tb w (goes (stood { a with N := [], W := [] } a.p) 2) (R ++ told (a.N ++ a.W) 3) false pa) := lh (by rw [show firstA a i = goes (stood { a with N := [], W := [] } a.p) 2 from by unfold firstA; rw [if_neg hn, if_neg h7, if_pos hz], show firstF a i = false from by unfold firstF; rw [if_neg hn, if_neg h7, if_pos hz], show firstR a i = told (a.N ++ a.W) 3 from by unfold firstR; rw [if_neg hn, if_neg h7, if_pos hz]])
    rw [EA.out]
    clear EA ceq hr hi hR
    (try clear h7)
    (try clear hc)
    (try clear h0)
    (try clear hs)
    (try clear hn)
    (try clear hri)
    (try clear hy)
    (try clear hz)
    (try clear hq)
    (try clear hcc)
    (try clear hs2)
    (try clear hoff)
    (try clear hst)
    go_enter Tryz.func43, Tryz.ntmps43
    go_wp2_with (first | (go_at_call 65; ((with_reducible refine (C0.out).mono ?_); rintro e w1 ⟨rfl, rfl⟩)) | (go_at_call 69; fail))
    refine CM.out.mono ?_
    rintro e w2 ⟨rfl, hd⟩
    go_wp2
    exact end0 rfl rfl ⟨rfl, hd⟩
   ·rw [hp] at d26
    have hz : ¬ (a.st ≠ 0 ∧ i.power = false) := fun h => by rw [hp] at h; exact absurd h.2 (by simp)
    have hst : ¬ (a.st = 0 ∧ i.power = true ∧ i.op = true) := fun hq => h0 hq.1
    have EA : Hid (Does base g i L tb w (firstA a i) (R ++ firstR a i) (firstF a i) pa = Does base g i L tb w a R false pa) := lh (by rw [show firstA a i = a from by unfold firstA; rw [if_neg hn, if_neg h7, if_neg hz, if_neg hst], show firstF a i = false from by unfold firstF; rw [if_neg hn, if_neg h7, if_neg hz]; exact decide_eq_false (fun hq => hst ⟨hq.1, hq.2.1, hq.2.2.1⟩), show firstR a i = [] from by unfold firstR; rw [if_neg hn, if_neg h7, if_neg hz], List.append_nil])
    rw [EA.out]
    clear EA ceq hr hi hR
    (try clear h7)
    (try clear hc)
    (try clear h0)
    (try clear hs)
    (try clear hn)
    (try clear hri)
    (try clear hy)
    (try clear hz)
    (try clear hq)
    (try clear hcc)
    (try clear hs2)
    (try clear hoff)
    (try clear hst)
    go_enter Tryz.func43, Tryz.ntmps43
    go_wp2_with (go_at_call 65; ((with_reducible refine (C0.out).mono ?_); rintro e w1 ⟨rfl, rfl⟩))
    exact end0 rfl rfl ⟨rfl, Did.of HC.out⟩
 ·have bc : (cl != 0) = true := by rw [bne_iff_ne]; exact hc
  have hn : causeOf a i ≠ 0 ∧ a.st ≠ 7 := ⟨fun h => hc (hcc.trans h), h7⟩
  have CM := lh (fail_any HC.out hr.line (by omega) cl)
  have EA : Hid (Does base g i L tb w (firstA a i) (R ++ firstR a i) (firstF a i) pa = Does base g i L tb w (failed a cl) (R ++ failedR a) false pa) := lh (by rw [show firstA a i = failed a cl from by unfold firstA; rw [if_pos hn, hcc], show firstF a i = false from by unfold firstF; rw [if_pos hn], show firstR a i = failedR a from by unfold firstR; rw [if_pos hn]])
  rw [EA.out]
  clear EA ceq hr hi hR
  (try clear h7)
  (try clear hc)
  (try clear h0)
  (try clear hs)
  (try clear hn)
  (try clear hri)
  (try clear hy)
  (try clear hz)
  (try clear hq)
  (try clear hcc)
  (try clear hs2)
  (try clear hoff)
  (try clear hst)
  go_enter Tryz.func43, Tryz.ntmps43
  go_wp2_with (first | (go_at_call 65; ((with_reducible refine (C0.out).mono ?_); rintro e w1 ⟨rfl, rfl⟩)) | (go_at_call 67; fail))
  refine CM.out.mono ?_
  rintro e w2 ⟨rfl, hd⟩
  go_wp2
  exact end0 rfl rfl ⟨rfl, hd⟩
end
end Go.Proofs.YtijlccblabadaaaGreat.cx
end
section
namespace Go.Proofs.YtijlccblabadaaaGreat.cx
open Go.ChangeShapes Go.WideShapes Go.ChangeAt Go.RowKit Go.Proofs.YtijlccblabadaaaGreat.k Go.Proofs.YtijlccblabadaaaGreat.rr Go.Proofs.YtijlccblabadaaaGreat.ax
open Go.Proofs.YtijlccblabadaaaGreat.ln (C RdC RdI iC cC cV lnV)
set_option linter.unusedVariables false
set_option maxRecDepth 100000
section
variable {base g : Nat} {i : In} {L : Sl} {a : Ax} {R : List Rp} {fr pa : Bool} {w : World} {tb : Option Nat}
set_option maxHeartbeats 4000000 in
theorem begin_any (h : Cyc base g i L tb a R fr pa w) {c : C} {t : List C} (hN : a.N = c :: t) (hk : beginsV c.kind = evOf c.kind) (hf : hm.RightH ⟨0, a.fast, a.creep, false⟩) (hR : R.length ≤ 9000) :
  Calls Tryz.prog 73 #[.pointer (some ⟨g, 0, none⟩)] w (Does base g i L tb w (ax.begun a c i.master) (R ++ [(c.id, 1)]) fr pa) := by
 have HC := lh h
 have hl0 := h.lt
 have CN := lh (now_any h hN)
 unfold cV at CN
 obtain ⟨ev, hev⟩ : ∃ z, evOf c.kind = z := ⟨_, rfl⟩
 rw [hev] at hk
 have CB := lh fun W => begins_any hk W
 have CH := fun W => hm.new_any a.fast a.creep W
 rw [show hm.newH a.fast a.creep = ⟨0, a.fast, a.creep, false⟩ from if_pos hf, show hm.newE a.fast a.creep = 0 from if_pos hf] at CH
 unfold hm.hV at CH
 have CH := lh CH
 have HR := lh hR
 have HEV := lh hev
 clear h hN hk hf hR hev
 by_cases h7 : c.kind = 7
 ·have b7 : (c.kind == 7) = true := by rw [h7]; rfl
  have h8 : ¬ c.kind = 8 := by omega
  have HE : ax.begun a c i.master = { a with st := ed.nxS a.st ev, h := ⟨0, a.fast, a.creep, false⟩, homed := false } := by unfold ax.begun; rw [if_pos h7, if_pos h7, if_neg h8, if_neg h8, if_neg h8, HEV.out]
  rw [HE]
  clear HE HEV h7 h8
  go_enter Tryz.func73, Tryz.ntmps73
  go_wp2_with (first | (go_at_call 100; ((with_reducible refine (CN.out).mono ?_); rintro e w1 ⟨rfl, hb⟩; have B1 := lh hb; clear hb)) | (go_at_call 71; fail))
  have H1 := HC.out.below B1.out
  obtain ⟨y1, y2, y3⟩ := k.boxes1 (w := w1) (c1 := cA c) (t1 := 62) (Below.refl _ _)
  have D1 : k.Box _ w1.heap.size 0 (cC c) := y1
  have ap := H1.apart (Nat.le_refl _)
  have hb1 := B1.out.trans (y2.mono B1.out.size)
  refine (tell_any (HC.out.below hb1) (by have := HR.out; omega) c.id 1).mono ?_
  rintro e w2 ⟨rfl, tb2, h2, f2⟩
  have D2 := lh (f2.box D1 y3 ap)
  have ap2 := f2.ne y3 ap
  have lt2 := Nat.lt_of_lt_of_le y3 f2.fr.size
  have FX := lh (((Fx.refl g tb w).below hb1).trans f2)
  have H2 := lh h2
  clear y1 y2 D1 ap hb1 f2 h2 H1 CN HC B1 y3 hl0
  have ⟨k1, k1f⟩ := k.cell_of D2.out (i := 1) rfl
  go_wp2_with (first | (go_at_call 101; ((with_reducible refine (CB.out _).mono ?_); rintro e w3 ⟨rfl, rfl⟩)) | (go_at_call 90; fail))
  refine (happen_any H2.out ev).mono ?_
  rintro e w3 ⟨rfl, tb3, h3, f3⟩
  have D3 := lh (f3.box D2.out lt2 ap2)
  have FX := lh (FX.out.trans f3)
  obtain ⟨S, N, W, T, h3, ht⟩ := h3
  have H3 := lh h3
  have hl := h3.lt
  clear k1 k1f h3 f3 CB H2 D2 ap2 lt2
  have ⟨k1, k1f⟩ := k.cell_of D3.out (i := 1) rfl
  have ⟨d8, d8f⟩ := k.cell_of H3.out.box (i := 8) rfl
  have ⟨d9, d9f⟩ := k.cell_of H3.out.box (i := 9) rfl
  go_upto_region 5 with fail
  refine wp_region_T (by kernel_rfl) (fun w' => w'.cell? ⟨g, 8, none⟩ = some (.int .i64 a.fast) ∧ w'.cell? ⟨g, 9, none⟩ = some (.int .i64 a.creep)) [] ⟨d8, d9⟩ (fun hHeld => ?_)
  refine tk0 0 rfl ?_ ?_ ?_
  rotate_left
  ·intro; go_simp <;> with_reducible rfl
  try simp only [Act.put, p1, p2, p3, p4, p6]
  refine tk0 1 rfl ?_ ?_ ?_
  rotate_left
  ·intro; go_simp <;> with_reducible rfl
  try simp only [Act.put, p1, p2, p3, p4, p5, p6]
  refine tk0 2 rfl ?_ ?_ ?_
  rotate_left
  ·intro; go_simp <;> with_reducible rfl
  try simp only [Act.put, p1, p2, p3, p4, p5, p6]
  refine tk0 3 rfl ?_ ?_ ?_
  rotate_left
  ·intro; go_simp <;> with_reducible rfl
  try simp only [Act.put, p1, p2, p3, p4, p5, p6]
  refine tk0 4 rfl ?_ ?_ ?_
  rotate_left
  ·intro; go_simp <;> with_reducible rfl
  try simp only [Act.put, p1, p2, p3, p4, p5, p6]
  refine tk 5 rfl ?_ ?_ ?_
  rotate_left
  ·intro w_ hSw; have q0 := hSw.1; clear hSw; go_simp <;> (with_reducible rfl)
  try simp only [Act.put, p1, p2, p3, p4, p5, p6]
  refine tk0 6 rfl ?_ ?_ ?_
  rotate_left
  ·intro; go_simp <;> with_reducible rfl
  try simp only [Act.put, p1, p2, p3, p4, p5, p6]
  refine tk0 7 rfl ?_ ?_ ?_
  rotate_left
  ·intro; go_simp <;> with_reducible rfl
  try simp only [Act.put, p1, p2, p3, p4, p5, p6]
  refine tk0 8 rfl ?_ ?_ ?_
  rotate_left
  ·intro; go_simp <;> with_reducible rfl
  try simp only [Act.put, p1, p2, p3, p4, p5, p6]
  refine tk0 9 rfl ?_ ?_ ?_
  rotate_left
  ·intro; go_simp <;> with_reducible rfl
  try simp only [Act.put, p1, p2, p3, p4, p5, p6]
  refine tk 10 rfl ?_ ?_ ?_
  rotate_left
  ·intro w_ hSw; have q0 := hSw.2; clear hSw; go_simp <;> (with_reducible rfl)
  try simp only [Act.put, p1, p2, p3, p4, p5, p6]
  refine ry [11] ?_
  refine ar1 rfl fun K hK => ?_
  go_simp
  (go_at_call 48; ((with_reducible refine (CH.out _).mono ?_); rintro e w4 ⟨rfl, hb0⟩))
  go_wp2_with fail
  have hb := ((Below.refl w3.heap.size w3).drew).trans hb0
  have t8 := (hb.cell (p := ⟨g, 8, none⟩) hl).trans d8
  have t9 := (hb.cell (p := ⟨g, 9, none⟩) hl).trans d9
  refine hK.out _ _ ⟨t8, t9⟩ (fun hHeld => ?_)
  clear hK K
  try simp only [Act.put, p1, p2, p3, p4, p5, p6]
  refine tk0 12 rfl ?_ ?_ ?_
  rotate_left
  ·intro; go_simp <;> with_reducible rfl
  try simp only [Act.put, p1, p2, p3, p4, p5, p6]
  refine tk0 13 rfl ?_ ?_ ?_
  rotate_left
  ·intro; go_simp <;> with_reducible rfl
  try simp only [Act.put, p1, p2, p3, p4, p5, p6]
  refine tk0 14 rfl ?_ ?_ ?_
  rotate_left
  ·intro; go_simp <;> with_reducible rfl
  try simp only [Act.put, p1, p2, p3, p4, p5, p6]
  refine tk0 15 rfl ?_ ?_ ?_
  rotate_left
  ·intro; go_simp <;> with_reducible rfl
  try simp only [Act.put, p1, p2, p3, p4, p5, p6]
  refine tk0 16 rfl ?_ ?_ ?_
  rotate_left
  ·intro; go_simp <;> with_reducible rfl
  try simp only [Act.put, p1, p2, p3, p4, p5, p6]
  refine tk0 17 rfl ?_ ?_ ?_
  rotate_left
  ·intro; go_simp <;> with_reducible rfl
  try simp only [Act.put, p1, p2, p3, p4, p5, p6]
  have H4 := lh (H3.out.below hb)
  clear d8 d8f d9 d9f k1 k1f
  have ⟨e16, e16f⟩ := k.cell_of H4.out.box (i := 16) rfl
  have ⟨e17, e17f⟩ := k.cell_of H4.out.box (i := 17) rfl
  have ⟨e18, e18f⟩ := k.cell_of H4.out.box (i := 18) rfl
  have ⟨e19, e19f⟩ := k.cell_of H4.out.box (i := 19) rfl
  have ⟨e20, e20f⟩ := k.cell_of H4.out.box (i := 20) rfl
  refine ry [18] ?_
  refine ar1 rfl fun K hK => ?_
  go_simp
  go_wp2_with fail
  refine hK.out _ _ ⟨by simp [go_sem, t8], by simp [go_sem, t9]⟩ (fun hHeld => ?_)
  clear hK K
  try simp only [Act.put, p1, p2, p3, p4, p5, p6]
  refine wpAnyT_done (by kernel_rfl) ?_ _
  go_wp2
  have ho := (((((Only.refl g w4).set 17 (.int .i64 0)).set 18 (.int .i64 a.fast)).set 19 (.int .i64 a.creep)).set 20 (.bool false)).set 16 (.bool false)
  have h5 := H4.out.as (a' := { a with st := ed.nxS a.st ev, h := ⟨0, a.fast, a.creep, false⟩, homed := false }) ho (k.Box.put (k.Box.put (k.Box.put (k.Box.put (k.Box.put H4.out.box 17 (by simp) (.int .i64 0)) 18 (by simp) (.int .i64 a.fast)) 19 (by simp) (.int .i64 a.creep)) 20 (by simp) (.bool false)) 16 (by simp) (.bool false)) rfl rfl rfl
  exact end0 rfl rfl ⟨rfl, tb3, ⟨_, _, _, _, h5, ht⟩, (FX.out.below hb).only ho⟩
 have b7 : (c.kind == 7) = false := by rw [beq_eq_false_iff_ne]; exact h7
 by_cases h8 : c.kind = 8
 ·have b8 : (c.kind == 8) = true := by rw [h8]; rfl
  have HE : ax.begun a c i.master = { a with st := ed.nxS a.st ev, start := a.p, master := i.master, instep := true } := by unfold ax.begun; rw [if_neg h7, if_neg h7, if_pos h8, if_pos h8, if_pos h8, HEV.out]
  rw [HE]
  clear HE HEV h7 h8
  go_enter Tryz.func73, Tryz.ntmps73
  go_wp2_with (first | (go_at_call 100; ((with_reducible refine (CN.out).mono ?_); rintro e w1 ⟨rfl, hb⟩; have B1 := lh hb; clear hb)) | (go_at_call 71; fail))
  have H1 := HC.out.below B1.out
  obtain ⟨y1, y2, y3⟩ := k.boxes1 (w := w1) (c1 := cA c) (t1 := 62) (Below.refl _ _)
  have D1 : k.Box _ w1.heap.size 0 (cC c) := y1
  have ap := H1.apart (Nat.le_refl _)
  have hb1 := B1.out.trans (y2.mono B1.out.size)
  refine (tell_any (HC.out.below hb1) (by have := HR.out; omega) c.id 1).mono ?_
  rintro e w2 ⟨rfl, tb2, h2, f2⟩
  have D2 := lh (f2.box D1 y3 ap)
  have ap2 := f2.ne y3 ap
  have lt2 := Nat.lt_of_lt_of_le y3 f2.fr.size
  have FX := lh (((Fx.refl g tb w).below hb1).trans f2)
  have H2 := lh h2
  clear y1 y2 D1 ap hb1 f2 h2 H1 CN HC B1 y3 hl0
  have ⟨k1, k1f⟩ := k.cell_of D2.out (i := 1) rfl
  go_wp2_with (first | (go_at_call 101; ((with_reducible refine (CB.out _).mono ?_); rintro e w3 ⟨rfl, rfl⟩)) | (go_at_call 90; fail))
  refine (happen_any H2.out ev).mono ?_
  rintro e w3 ⟨rfl, tb3, h3, f3⟩
  have D3 := lh (f3.box D2.out lt2 ap2)
  have FX := lh (FX.out.trans f3)
  obtain ⟨S, N, W, T, h3, ht⟩ := h3
  have H3 := lh h3
  have hl := h3.lt
  clear k1 k1f h3 f3 CB H2 D2 ap2 lt2
  have ⟨k1, k1f⟩ := k.cell_of D3.out (i := 1) rfl
  have ⟨d10, d10f⟩ := k.cell_of H3.out.box (i := 10) rfl
  have ⟨d36, d36f⟩ := k.cell_of H3.out.box (i := 36) rfl
  have ⟨d22, d22f⟩ := k.cell_of H3.out.box (i := 22) rfl
  have ⟨d23, d23f⟩ := k.cell_of H3.out.box (i := 23) rfl
  have ⟨d25, d25f⟩ := k.cell_of H3.out.box (i := 25) rfl
  go_upto_region 8 with fail
  refine wp_region_T (by kernel_rfl) (fun w' => w'.cell? ⟨g, 10, none⟩ = some (.int .i64 a.p) ∧ w'.cell? ⟨g, 36, none⟩ = some (.int .i64 i.master)) [] ⟨d10, d36⟩ (fun hHeld => ?_)
  refine tk0 0 rfl ?_ ?_ ?_
  rotate_left
  ·intro; go_simp <;> with_reducible rfl
  try simp only [Act.put, p1, p2, p3, p4, p6]
  refine tk0 1 rfl ?_ ?_ ?_
  rotate_left
  ·intro; go_simp <;> with_reducible rfl
  try simp only [Act.put, p1, p2, p3, p4, p5, p6]
  refine tk0 2 rfl ?_ ?_ ?_
  rotate_left
  ·intro; go_simp <;> with_reducible rfl
  try simp only [Act.put, p1, p2, p3, p4, p5, p6]
  refine tk0 3 rfl ?_ ?_ ?_
  rotate_left
  ·intro; go_simp <;> with_reducible rfl
  try simp only [Act.put, p1, p2, p3, p4, p5, p6]
  refine tk0 4 rfl ?_ ?_ ?_
  rotate_left
  ·intro; go_simp <;> with_reducible rfl
  try simp only [Act.put, p1, p2, p3, p4, p5, p6]
  refine tk0 5 rfl ?_ ?_ ?_
  rotate_left
  ·intro; go_simp <;> with_reducible rfl
  try simp only [Act.put, p1, p2, p3, p4, p5, p6]
  refine tk0 6 rfl ?_ ?_ ?_
  rotate_left
  ·intro; go_simp <;> with_reducible rfl
  try simp only [Act.put, p1, p2, p3, p4, p5, p6]
  refine tk0 7 rfl ?_ ?_ ?_
  rotate_left
  ·intro; go_simp <;> with_reducible rfl
  try simp only [Act.put, p1, p2, p3, p4, p5, p6]
  refine tk 8 rfl ?_ ?_ ?_
  rotate_left
  ·intro w_ hSw; have q0 := hSw.1; clear hSw; go_simp <;> (with_reducible rfl)
  try simp only [Act.put, p1, p2, p3, p4, p5, p6]
  refine tk0 9 rfl ?_ ?_ ?_
  rotate_left
  ·intro; go_simp <;> with_reducible rfl
  try simp only [Act.put, p1, p2, p3, p4, p5, p6]
  refine tk0 10 rfl ?_ ?_ ?_
  rotate_left
  ·intro; go_simp <;> with_reducible rfl
  try simp only [Act.put, p1, p2, p3, p4, p5, p6]
  refine tk0 11 rfl ?_ ?_ ?_
  rotate_left
  ·intro; go_simp <;> with_reducible rfl
  try simp only [Act.put, p1, p2, p3, p4, p5, p6]
  refine tk0 12 rfl ?_ ?_ ?_
  rotate_left
  ·intro; go_simp <;> with_reducible rfl
  try simp only [Act.put, p1, p2, p3, p4, p5, p6]
  refine tk 13 rfl ?_ ?_ ?_
  rotate_left
  ·intro w_ hSw; have q0 := hSw.2; clear hSw; go_simp <;> (with_reducible rfl)
  try simp only [Act.put, p1, p2, p3, p4, p5, p6]
  refine tk0 14 rfl ?_ ?_ ?_
  rotate_left
  ·intro; go_simp <;> with_reducible rfl
  try simp only [Act.put, p1, p2, p3, p4, p5, p6]
  refine tk0 15 rfl ?_ ?_ ?_
  rotate_left
  ·intro; go_simp <;> with_reducible rfl
  try simp only [Act.put, p1, p2, p3, p4, p5, p6]
  refine tk0 16 rfl ?_ ?_ ?_
  rotate_left
  ·intro; go_simp <;> with_reducible rfl
  try simp only [Act.put, p1, p2, p3, p4, p5, p6]
  refine ry [17] ?_
  refine ar1 rfl fun K hK => ?_
  go_simp
  go_wp2_with fail
  refine hK.out _ _ ⟨by simp [go_sem, d10], by simp [go_sem, d36]⟩ (fun hHeld => ?_)
  clear hK K
  try simp only [Act.put, p1, p2, p3, p4, p5, p6]
  refine tk0 18 rfl ?_ ?_ ?_
  rotate_left
  ·intro; go_simp <;> with_reducible rfl
  try simp only [Act.put, p1, p2, p3, p4, p5, p6]
  refine tk0 19 rfl ?_ ?_ ?_
  rotate_left
  ·intro; go_simp <;> with_reducible rfl
  try simp only [Act.put, p1, p2, p3, p4, p5, p6]
  refine tk0 20 rfl ?_ ?_ ?_
  rotate_left
  ·intro; go_simp <;> with_reducible rfl
  try simp only [Act.put, p1, p2, p3, p4, p5, p6]
  refine ry [21] ?_
  refine ar1 rfl fun K hK => ?_
  go_simp
  go_wp2_with fail
  refine hK.out _ _ ⟨by simp [go_sem, d10], by simp [go_sem, d36]⟩ (fun hHeld => ?_)
  clear hK K
  try simp only [Act.put, p1, p2, p3, p4, p5, p6]
  refine tk0 22 rfl ?_ ?_ ?_
  rotate_left
  ·intro; go_simp <;> with_reducible rfl
  try simp only [Act.put, p1, p2, p3, p4, p5, p6]
  refine tk0 23 rfl ?_ ?_ ?_
  rotate_left
  ·intro; go_simp <;> with_reducible rfl
  try simp only [Act.put, p1, p2, p3, p4, p5, p6]
  refine tk0 24 rfl ?_ ?_ ?_
  rotate_left
  ·intro; go_simp <;> with_reducible rfl
  try simp only [Act.put, p1, p2, p3, p4, p5, p6]
  refine ry [25] ?_
  refine ar1 rfl fun K hK => ?_
  go_simp
  go_wp2_with fail
  refine hK.out _ _ ⟨by simp [go_sem, d10], by simp [go_sem, d36]⟩ (fun hHeld => ?_)
  clear hK K
  try simp only [Act.put, p1, p2, p3, p4, p5, p6]
  refine wpAnyT_done (by kernel_rfl) ?_ _
  go_wp2
  have ho := (((Only.refl g w3).set 22 (.int .i64 a.p)).set 23 (.int .i64 i.master)).set 25 (.bool true)
  have h5 := H3.out.as (a' := { a with st := ed.nxS a.st ev, start := a.p, master := i.master, instep := true }) ho (k.Box.put (k.Box.put (k.Box.put H3.out.box 22 (by simp) (.int .i64 a.p)) 23 (by simp) (.int .i64 i.master)) 25 (by simp) (.bool true)) rfl rfl rfl
  have hb := (Below.refl (((w3.setCell ⟨g, 22, none⟩ (.int .i64 a.p)).setCell ⟨g, 23, none⟩ (.int .i64 i.master)).setCell ⟨g, 25, none⟩ (.bool true)).heap.size (((w3.setCell ⟨g, 22, none⟩ (.int .i64 a.p)).setCell ⟨g, 23, none⟩ (.int .i64 i.master)).setCell ⟨g, 25, none⟩ (.bool true))).drew
  exact end0 rfl rfl ⟨rfl, tb3, ⟨_, _, _, _, h5.below hb, ht⟩, (FX.out.only ho).below hb⟩
 ·have b8 : (c.kind == 8) = false := by rw [beq_eq_false_iff_ne]; exact h8
  have HE : ax.begun a c i.master = { a with st := ed.nxS a.st ev } := by unfold ax.begun; rw [if_neg h7, if_neg h7, if_neg h8, if_neg h8, if_neg h8, HEV.out]
  rw [HE]
  clear HE HEV h7 h8
  go_enter Tryz.func73, Tryz.ntmps73
  go_wp2_with (first | (go_at_call 100; ((with_reducible refine (CN.out).mono ?_); rintro e w1 ⟨rfl, hb⟩; have B1 := lh hb; clear hb)) | (go_at_call 71; fail))
  have H1 := HC.out.below B1.out
  obtain ⟨y1, y2, y3⟩ := k.boxes1 (w := w1) (c1 := cA c) (t1 := 62) (Below.refl _ _)
  have D1 : k.Box _ w1.heap.size 0 (cC c) := y1
  have ap := H1.apart (Nat.le_refl _)
  have hb1 := B1.out.trans (y2.mono B1.out.size)
  refine (tell_any (HC.out.below hb1) (by have := HR.out; omega) c.id 1).mono ?_
  rintro e w2 ⟨rfl, tb2, h2, f2⟩
  have D2 := lh (f2.box D1 y3 ap)
  have ap2 := f2.ne y3 ap
  have lt2 := Nat.lt_of_lt_of_le y3 f2.fr.size
  have FX := lh (((Fx.refl g tb w).below hb1).trans f2)
  have H2 := lh h2
  clear y1 y2 D1 ap hb1 f2 h2 H1 CN HC B1 y3 hl0
  have ⟨k1, k1f⟩ := k.cell_of D2.out (i := 1) rfl
  go_wp2_with (first | (go_at_call 101; ((with_reducible refine (CB.out _).mono ?_); rintro e w3 ⟨rfl, rfl⟩)) | (go_at_call 90; fail))
  refine (happen_any H2.out ev).mono ?_
  rintro e w3 ⟨rfl, tb3, h3, f3⟩
  have D3 := lh (f3.box D2.out lt2 ap2)
  have FX := lh (FX.out.trans f3)
  obtain ⟨S, N, W, T, h3, ht⟩ := h3
  have H3 := lh h3
  have hl := h3.lt
  clear k1 k1f h3 f3 CB H2 D2 ap2 lt2
  have ⟨k1, k1f⟩ := k.cell_of D3.out (i := 1) rfl
  go_wp2
  exact end0 rfl rfl ⟨rfl, tb3, ⟨_, _, _, _, H3.out, ht⟩, FX.out⟩
end
end Go.Proofs.YtijlccblabadaaaGreat.cx
end
