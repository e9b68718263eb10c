/- What servitorref15's Right answers; what was in memory is as it was. No condition but that the rows are read where they lie. -/
import Derived.Test.YtijlccblabadaaaGreatU16
import Derived.Test.YtijlccblabadaaaGreatU02
section
namespace Go.Proofs.YtijlccblabadaaaGreat.ax
set_option maxRecDepth 100000
open Go.ChangeShapes Go.WideShapes Go.ChangeAt Go.RowKit Go.Proofs.YtijlccblabadaaaGreat.k Go.Proofs.YtijlccblabadaaaGreat.rr
open Go.Proofs.YtijlccblabadaaaGreat.ln (C RdC RdI iC iC_len iC_one cC cC_len cells_com OwC oc_row)
set_option linter.unusedVariables false
theorem lined_any (a : Ax) (hl : ln.RightL a.N a.W) (hv : 1 ≤ a.l.V ∧ a.l.V ≤ 1048576) (S N W : Sl) {B : Nat} (w : World) (h : RdC w B N.A N.n N.c a.N) (h2 : RdC w B W.A W.n W.c a.W) (hB : B ≤ w.heap.size) :
  Calls Tryz.prog 39 #[axV a S N W] w fun e w' => e = .returned (.bool (linedB a)) ∧ Below w.heap.size w w' := by
 cases hN : a.N with
 | nil => exact lined_none_any a hl hN S N W w h h2 hB
 | cons c T =>
  have hT := one_of hl hN
  subst hT
  by_cases h4 : a.st = 4
  ·exact lined_moves_any a hl hv c hN h4 S N W w h h2 hB
  ·exact lined_one_any a hl hv c hN h4 S N W w h h2 hB
def RowP (a : Ax) (q : Nat) (x : Int) : Prop := -2199023255552 ≤ x ∧ x ≤ 2199023255552 ∧ (q = 0 → x = a.p) ∧ ∀ y, 0 < q → a.sm[q - 1]? = some y → x - y ≤ 1048576 ∧ y - x ≤ 1048576
theorem near_of : ∀ (L : List Int), (∀ q x y, L[q]? = some x → L[q + 1]? = some y → x - y ≤ 1048576 ∧ y - x ≤ 1048576) → Near L
 | [], _ => trivial
 | [_], _ => trivial
 | x :: y :: L, h => by
  have h1 := h 0 x y rfl rfl
  exact ⟨h1.1, h1.2, near_of (y :: L) fun q u v hu hv => h (q + 1) u v (by simpa using hu) (by simpa using hv)⟩
theorem of_near : ∀ {L : List Int}, Near L → ∀ q x y, L[q]? = some x → L[q + 1]? = some y → x - y ≤ 1048576 ∧ y - x ≤ 1048576
 | [], _, _, _, _, hx, _ => by simp at hx
 | [_], _, _, _, _, _, hy => by simp at hy
 | x :: y :: L, h, 0, u, v, hu, hv => by
  have e1 : x = u := by simpa using hu
  have e2 : y = v := by simpa using hv
  subst e1 e2
  exact ⟨h.1, h.2.1⟩
 | x :: y :: L, h, q + 1, u, v, hu, hv => of_near h.2.2 q u v (by simpa using hu) (by simpa using hv)
theorem rows_of {a : Ax} (h : RightA a) {q : Nat} {x : Int} (hx : a.sm[q]? = some x) : RowP a q x := by
 have h1 := h.rows x (List.mem_of_getElem? hx)
 refine ⟨h1.1, h1.2, fun h0 => ?_, fun y h0 hy => ?_⟩
 ·subst h0
  exact h.newest x (by rw [List.head?_eq_getElem?]; exact hx)
 ·obtain ⟨p, rfl⟩ : ∃ p, q = p + 1 := ⟨q - 1, by omega⟩
  have := of_near h.near p y x (by simpa using hy) hx
  omega
structure HalfA (a : Ax) : Prop where
 made : MadeP a.l a.win a.homeAt a.fast a.creep
 st0 : 0 ≤ a.st
 st7 : a.st ≤ 7
 len : (a.sm.length : Int) = a.win
 ov0 : 0 ≤ a.ov
 ov1 : a.ov ≤ 100
 far : FarP a.off
 safe : gn.SafeP (bounds a) a.p a.v
 line : ln.RightL a.N a.W
 lined : LinedP a
 search : a.st = 2 → hm.RightH a.h
theorem whole_of {a : Ax} (h : HalfA a) (hr : ∀ q x, a.sm[q]? = some x → RowP a q x) : RightA a :=
 { made := h.made, st0 := h.st0, st7 := h.st7, len := h.len, ov0 := h.ov0, ov1 := h.ov1, far := h.far, safe := h.safe, line := h.line, lined := h.lined, search := h.search
   rows := fun x hx => by
    obtain ⟨i, hi, rfl⟩ := List.getElem_of_mem hx
    have := hr i _ (List.getElem?_eq_getElem hi)
    exact ⟨this.1, this.2.1⟩
   newest := fun x hx => (hr 0 x (by rw [← List.head?_eq_getElem?]; exact hx)).2.2.1 rfl
   near := near_of _ fun q x y hx hy => by
    have := (hr (q + 1) y hy).2.2.2 x (by omega) (by simpa using hx)
    omega }
set_option maxRecDepth 100000 in
set_option maxHeartbeats 8000000 in
theorem refright_any (a : Ax) (hp : -9223372036854775808 ≤ a.p ∧ a.p ≤ 9223372036854775807) (hv : -9223372036854775808 ≤ a.v ∧ a.v ≤ 9223372036854775807) (S N W : Sl) {B : Nat} (w : World) (h : RdA w B a S N W) (hB : B ≤ w.heap.size) (hn : N.n ≤ 1000) (hm : W.n ≤ 1000) :
  Calls Tryz.prog 16 #[axV a S N W] w fun e w' => e = .returned (.bool (rightB a)) ∧ Below w.heap.size w w' := by
 obtain ⟨x1, x2, x3⟩ := k.boxes1 (w := w) (c1 := axA a S N W) (t1 := 35) (Below.refl _ _)
 have X1 := lh x1
 have X2 := lh x2
 have HRW := lh (h.S.below (x2.mono hB))
 have hlen := h.S.len_le
 have HSL := lh h.S.1
 have CR := lh fun (W' : World) (hb : Below B w W') => ln.refright_any a.N a.W (h.N.below hb) (h.W.below hb) (Nat.le_trans hB hb.size) hn hm
 have CL := lh fun (W' : World) (hb : Below B w W') (hl : ln.RightL a.N a.W) (hv : 1 ≤ a.l.V ∧ a.l.V ≤ 1048576) => lined_any a hl hv S N W W' (h.N.below hb) (h.W.below hb) (Nat.le_trans hB hb.size)
 have HBB := lh hB
 have HP := lh hp
 have HVV := lh hv
 have NO := lh fun (h : ¬ RightA a) => rightB_no h
 clear x1 x2 h hB hn hm hp hv
 go_enter Tryz.func16, Tryz.ntmps16
 go_upto_region 1 with fail
 generalize w.alloc (.cells (axA a S N W) 35) = w2 at X1 X2 x3 HRW ⊢
 have ⟨q1, _⟩ := k.cell_of X1.out (i := 1) rfl
 have ⟨q2, _⟩ := k.cell_of X1.out (i := 2) rfl
 have ⟨q3, _⟩ := k.cell_of X1.out (i := 3) rfl
 have ⟨q4, _⟩ := k.cell_of X1.out (i := 4) rfl
 have ⟨q5, _⟩ := k.cell_of X1.out (i := 5) rfl
 have ⟨q6, _⟩ := k.cell_of X1.out (i := 6) rfl
 have ⟨q7, _⟩ := k.cell_of X1.out (i := 7) rfl
 have ⟨q8, _⟩ := k.cell_of X1.out (i := 8) rfl
 have ⟨q9, _⟩ := k.cell_of X1.out (i := 9) rfl
 go_wp2_with (go_at_call 11; fail)
 refine (refmade_any a.l a.win a.homeAt a.fast a.creep _).mono ?_
 rintro e w3 ⟨rfl, hb⟩
 have Y1 := lh (X1.out.below hb x3)
 have Y2 := lh (X2.out.trans (hb.mono X2.out.size))
 have y3 : w.heap.size < w3.heap.size := Nat.lt_of_lt_of_le x3 hb.size
 have HR3 := lh (HRW.out.below (hb.mono (Nat.le_trans HBB.out X2.out.size)))
 clear hb X1 X2 x3 HRW q1 q2 q3 q4 q5 q6 q7 q8 q9
 have ⟨q0, _⟩ := k.cell_of Y1.out (i := 0) rfl
 have ⟨q6, _⟩ := k.cell_of Y1.out (i := 6) rfl
 have ⟨q12, _⟩ := k.cell_of Y1.out (i := 12) rfl
 have ⟨q13, _⟩ := k.cell_of Y1.out (i := 13) rfl
 have ⟨q21, _⟩ := k.cell_of Y1.out (i := 21) rfl
 by_cases m1 : MadeP a.l a.win a.homeAt a.fast a.creep
 ·have e1 : madeB a.l a.win a.homeAt a.fast a.creep = true := decide_eq_true m1
  rw [e1]
  have M1 := lh m1
  clear e1 m1
  by_cases s0 : 0 ≤ a.st
  ·have i0 : decide (a.st < 0) = false := decide_eq_false (by omega)
   by_cases s7 : a.st ≤ 7
   ·have i1 : decide (7 < a.st) = false := decide_eq_false (by omega)
    by_cases sl : (S.n : Int) = a.win
    ·have i2 : ((S.n : Int) == a.win) = true := beq_yes sl
     have i2b : ((S.n : Int) != a.win) = false := by rw [bne, i2]; rfl
     have SL := lh sl
     clear sl
     by_cases o0 : 0 ≤ a.ov
     ·have i3 : decide (a.ov < 0) = false := decide_eq_false (by omega)
      by_cases o1 : a.ov ≤ 100
      ·have i4 : decide (100 < a.ov) = false := decide_eq_false (by omega)
       by_cases f0 : -288230376151711744 ≤ a.off
       ·have i5 : decide (a.off < -288230376151711744) = false := decide_eq_false (by omega)
        by_cases f1 : a.off ≤ 288230376151711744
        ·have i6 : decide (288230376151711744 < a.off) = false := decide_eq_false (by omega)
         have HF := lh (show FarP a.off from ⟨f0, f1⟩)
         go_upto_region 3 with fail
         have SR := lh HR3.out
         have Y1w3 := Y1
         have Y2w3 := Y2
         have y3w3 := y3
         clear Y1 Y2 y3 q0 q6 q12 q13 q21
         refine wp_region_T (by kernel_rfl) (fun w' => k.Box w' w.heap.size 0 (axC a S N W)) [] Y1w3.out (fun hHeld => ?_)
         refine wpAnyT_take (i := 0) (v := .agg (axC a S N W).toArray) rfl (by kernel_rfl) (by kernel_rfl) (by kernel_rfl) (fun _ _ _ h => h) (yieldsIf_load_mid rfl 35 (.tmp 1) rfl w.heap.size 0 rfl (axC a S N W) _ (fun w_ h => h.range) rfl rfl (by kernel_rfl)) (by assumption) ?_
         try simp only [Act.put, p1, p2, p3, p4, p6]
         refine tk0 2 rfl ?_ ?_ ?_
         rotate_left
         ·intro; go_simp <;> with_reducible rfl
         try simp only [Act.put, p1, p2, p3, p4, p5, p6]
         refine tk 3 rfl ?_ ?_ ?_
         rotate_left
         ·intro w_ hSw; have ⟨c10, _⟩ := k.cell_of hSw (i := 10) rfl; have ⟨c11, _⟩ := k.cell_of hSw (i := 11) rfl; clear hSw; go_simp <;> (with_reducible rfl)
         try simp only [Act.put, p1, p2, p3, p4, p5, p6]
         have Y1w := lh (show k.Box w3.drew w.heap.size 0 (axC a S N W) from Y1w3.out)
         have Y2w : Hid (Below w.heap.size w w3.drew) := lh (Y2w3.out.trans (Below.refl _ _).drew)
         have y3w : w.heap.size < w3.drew.heap.size := y3w3
         have SRw := lh (SR.out.drewN 1)
         clear Y1w3 Y2w3 y3w3 SR HR3
         refine ry [1] ?_
         refine ar1 rfl fun K hK => ?_
         go_simp
         (go_at_call 18; ((refine (refbounds_any a S N W _).mono ?_); rintro e wb ⟨rfl, hb⟩))
         go_wp2_with fail
         have Y1wb := lh (Y1w.out.below hb y3w)
         have SRwb := lh (SRw.out.below (hb.mono (Nat.le_trans HBB.out Y2w.out.size)))
         have Y2wb := lh (Y2w.out.trans (hb.mono Y2w.out.size))
         have y3wb : w.heap.size < wb.heap.size := Nat.lt_of_lt_of_le y3w hb.size
         clear hb Y1w Y2w SRw y3w
         refine hK.out _ _ Y1wb.out (fun hHeld => ?_)
         clear hK K
         try simp only [Act.put, p1, p2, p3, p4, p5, p6]
         refine ry [4] ?_
         refine ar1 rfl fun K hK => ?_
         go_simp
         (go_at_call 37; ((refine (gn.refsafe_any (bounds a) (bounds_right M1.out.1) a.p a.v HP.out HVV.out _).mono ?_); rintro e ws ⟨rfl, hb⟩))
         go_wp2_with fail
         have Y1ws := lh (Y1wb.out.below hb y3wb)
         have SRws := lh (SRwb.out.below (hb.mono (Nat.le_trans HBB.out Y2wb.out.size)))
         have Y2ws := lh (Y2wb.out.trans (hb.mono Y2wb.out.size))
         have y3ws : w.heap.size < ws.heap.size := Nat.lt_of_lt_of_le y3wb hb.size
         clear hb Y1wb Y2wb SRwb y3wb
         refine hK.out _ _ Y1ws.out (fun hHeld => ?_)
         clear hK K
         try simp only [Act.put, p1, p2, p3, p4, p5, p6]
         by_cases g1 : gn.SafeP (bounds a) a.p a.v
         ·rw [gn.safe_yes (bounds_right M1.out.1) g1]
          have G1 := lh g1
          clear g1
          refine tk0 5 rfl ?_ ?_ ?_
          rotate_left
          ·intro; go_simp <;> with_reducible rfl
          try simp only [Act.put, p1, p2, p3, p4, p5, p6]
          refine tk0 6 rfl ?_ ?_ ?_
          rotate_left
          ·intro; go_simp <;> with_reducible rfl
          try simp only [Act.put, p1, p2, p3, p4, p5, p6]
          refine tk0 7 rfl ?_ ?_ ?_
          rotate_left
          ·intro; go_simp <;> with_reducible rfl
          try simp only [Act.put, p1, p2, p3, p4, p5, p6]
          refine tk 8 rfl ?_ ?_ ?_
          rotate_left
          ·intro w_ hSw; have ⟨c14, _⟩ := k.cell_of hSw (i := 14) rfl; have ⟨c15, _⟩ := k.cell_of hSw (i := 15) rfl; clear hSw; go_simp <;> (with_reducible rfl)
          try simp only [Act.put, p1, p2, p3, p4, p5, p6]
          refine ry [9] ?_
          refine ar1 rfl fun K hK => ?_
          go_simp
          (go_at_call 38; ((refine (CR.out _ (Y2ws.out.mono HBB.out)).mono ?_); rintro e wr ⟨rfl, hb⟩))
          go_wp2_with fail
          have Y1wr := lh (Y1ws.out.below hb y3ws)
          have SRwr := lh (SRws.out.below (hb.mono (Nat.le_trans HBB.out Y2ws.out.size)))
          have Y2wr := lh (Y2ws.out.trans (hb.mono Y2ws.out.size))
          have y3wr : w.heap.size < wr.heap.size := Nat.lt_of_lt_of_le y3ws hb.size
          clear hb Y1ws Y2ws SRws y3ws
          refine hK.out _ _ Y1wr.out (fun hHeld => ?_)
          clear hK K
          try simp only [Act.put, p1, p2, p3, p4, p5, p6]
          by_cases g2 : ln.RightL a.N a.W
          ·rw [ln.right_yes g2]
           have G2 := lh g2
           clear g2
           refine tk0 10 rfl ?_ ?_ ?_
           rotate_left
           ·intro; go_simp <;> with_reducible rfl
           try simp only [Act.put, p1, p2, p3, p4, p5, p6]
           refine tk0 11 rfl ?_ ?_ ?_
           rotate_left
           ·intro; go_simp <;> with_reducible rfl
           try simp only [Act.put, p1, p2, p3, p4, p5, p6]
           refine tk0 12 rfl ?_ ?_ ?_
           rotate_left
           ·intro; go_simp <;> with_reducible rfl
           try simp only [Act.put, p1, p2, p3, p4, p5, p6]
           refine wpAnyT_take (i := 13) (v := .agg (axC a S N W).toArray) rfl (by kernel_rfl) (by kernel_rfl) (by kernel_rfl) (fun _ _ _ h => h) (yieldsIf_load_mid rfl 35 (.tmp 1) rfl w.heap.size 0 rfl (axC a S N W) _ (fun w_ h => h.range) rfl rfl (by kernel_rfl)) (by assumption) ?_
           try simp only [Act.put, p1, p2, p3, p4, p5, p6]
           refine ry [14] ?_
           refine ar1 rfl fun K hK => ?_
           go_simp
           (go_at_call 39; ((refine (CL.out _ (Y2wr.out.mono HBB.out) G2.out ⟨M1.out.1.1, M1.out.1.2.1⟩).mono ?_); rintro e wl ⟨rfl, hb⟩))
           go_wp2_with fail
           have Y1wl := lh (Y1wr.out.below hb y3wr)
           have SRwl := lh (SRwr.out.below (hb.mono (Nat.le_trans HBB.out Y2wr.out.size)))
           have Y2wl := lh (Y2wr.out.trans (hb.mono Y2wr.out.size))
           have y3wl : w.heap.size < wl.heap.size := Nat.lt_of_lt_of_le y3wr hb.size
           clear hb Y1wr Y2wr SRwr y3wr
           refine hK.out _ _ Y1wl.out (fun hHeld => ?_)
           clear hK K
           try simp only [Act.put, p1, p2, p3, p4, p5, p6]
           by_cases g3 : LinedP a
           ·rw [lined_yes g3]
            have G3 := lh g3
            clear g3
            refine tk0 15 rfl ?_ ?_ ?_
            rotate_left
            ·intro; go_simp <;> with_reducible rfl
            try simp only [Act.put, p1, p2, p3, p4, p5, p6]
            refine tk0 16 rfl ?_ ?_ ?_
            rotate_left
            ·intro; go_simp <;> with_reducible rfl
            try simp only [Act.put, p1, p2, p3, p4, p5, p6]
            refine tk0 17 rfl ?_ ?_ ?_
            rotate_left
            ·intro; go_simp <;> with_reducible rfl
            try simp only [Act.put, p1, p2, p3, p4, p5, p6]
            refine tk0 18 rfl ?_ ?_ ?_
            rotate_left
            ·intro; go_simp <;> with_reducible rfl
            try simp only [Act.put, p1, p2, p3, p4, p5, p6]
            refine tk 19 rfl ?_ ?_ ?_
            rotate_left
            ·intro w_ hSw; have ⟨c0, _⟩ := k.cell_of hSw (i := 0) rfl; clear hSw; go_simp <;> (with_reducible rfl)
            try simp only [Act.put, p1, p2, p3, p4, p5, p6]
            by_cases g4 : a.st = 2
            ·have j4 : (a.st == 2) = true := beq_yes g4
             refine tk0 20 rfl ?_ ?_ ?_
             rotate_left
             ·intro; go_simp <;> with_reducible rfl
             try simp only [Act.put, p1, p2, p3, p4, p5, p6]
             refine tk0 21 rfl ?_ ?_ ?_
             rotate_left
             ·intro; go_simp <;> with_reducible rfl
             try simp only [Act.put, p1, p2, p3, p4, p5, p6]
             refine tk0 22 rfl ?_ ?_ ?_
             rotate_left
             ·intro; go_simp <;> with_reducible rfl
             try simp only [Act.put, p1, p2, p3, p4, p5, p6]
             refine tk 23 rfl ?_ ?_ ?_
             rotate_left
             ·intro w_ hSw; have ⟨c17, _⟩ := k.cell_of hSw (i := 17) rfl; have ⟨c18, _⟩ := k.cell_of hSw (i := 18) rfl; have ⟨c19, _⟩ := k.cell_of hSw (i := 19) rfl; have ⟨c20, _⟩ := k.cell_of hSw (i := 20) rfl; clear hSw; go_simp <;> (with_reducible rfl)
             try simp only [Act.put, p1, p2, p3, p4, p5, p6]
             refine ry [24] ?_
             refine ar1 rfl fun K hK => ?_
             go_simp
             (go_at_call 27; ((refine (hm.refright_any a.h _).mono ?_); rintro e wh ⟨rfl, hb⟩))
             go_wp2_with fail
             have Y1wh := lh (Y1wl.out.below hb y3wl)
             have SRwh := lh (SRwl.out.below (hb.mono (Nat.le_trans HBB.out Y2wl.out.size)))
             have Y2wh := lh (Y2wl.out.trans (hb.mono Y2wl.out.size))
             have y3wh : w.heap.size < wh.heap.size := Nat.lt_of_lt_of_le y3wl hb.size
             clear hb Y1wl Y2wl SRwl y3wl
             refine hK.out _ _ Y1wh.out (fun hHeld => ?_)
             clear hK K
             try simp only [Act.put, p1, p2, p3, p4, p5, p6]
             by_cases g5 : hm.RightH a.h
             ·rw [hm.right_yes g5]
              refine tk0 25 rfl ?_ ?_ ?_
              rotate_left
              ·intro; go_simp <;> with_reducible rfl
              try simp only [Act.put, p1, p2, p3, p4, p5, p6]
              refine tk0 26 rfl ?_ ?_ ?_
              rotate_left
              ·intro; go_simp <;> with_reducible rfl
              try simp only [Act.put, p1, p2, p3, p4, p5, p6]
              refine tk0 27 rfl ?_ ?_ ?_
              rotate_left
              ·intro; go_simp <;> with_reducible rfl
              try simp only [Act.put, p1, p2, p3, p4, p5, p6]
              refine wpAnyT_done (by kernel_rfl) ?_ _
              have HH := lh (show HalfA a from ⟨M1.out, s0, s7, by rw [HSL.out]; exact SL.out, o0, o1, HF.out, G1.out, G2.out, G3.out, fun _ => g5⟩)
              go_wp2
              clear i0 i1 i2 i2b i3 i4 i5 i6 s0 s7 o0 o1 f0 f1
              have ⟨c10, _⟩ := k.cell_of Y1wh.out (i := 10) rfl
              have ⟨c12, _⟩ := k.cell_of Y1wh.out (i := 12) rfl
              have RO := lh fun (q : Nat) (x : Int) (hx : a.sm[q]? = some x) (hn : ¬ RowP a q x) => NO.out fun h => hn (rows_of h hx)
              go_loopw [3] (fun i wr => ∃ j : Nat, j ≤ S.n ∧ i = .int .i64 j ∧ (∀ q x, q < j → a.sm[q]? = some x → RowP a q x) ∧ wr = wh) (fun i _ => S.n - (intOf i).toNat)
              case atStart => exact ⟨0, Nat.zero_le _, rfl, fun q x hq => absurd hq (by omega), rfl⟩
              case round =>
               obtain ⟨j, hj, rfl, hT, rfl⟩ := hrel
               have HT := lh hT
               clear hT
               by_cases hlt : j < S.n
               ·obtain ⟨b, o, x, he, hb, hx, hrr⟩ := SRwh.out.at hlt
                have c0 := int_at hrr
                have hj0 : (0 : Int) ≤ (j : Int) := by omega
                have hj1 : (j : Int) < (S.n : Int) := by omega
                have HX := lh hx
                have RX := lh fun hn => RO.out j x hx hn
                rw [he] at c12
                have HE := lh he
                clear hrr hx
                by_cases r0 : -2199023255552 ≤ x
                ·have i0 : decide (x < -2199023255552) = false := decide_eq_false (by omega)
                 by_cases r1 : x ≤ 2199023255552
                 ·have i1 : decide (2199023255552 < x) = false := decide_eq_false (by omega)
                  by_cases r2 : j = 0
                  ·have i2 : ((j : Int) == 0) = true := beq_yes (by omega)
                   have i2b : decide (0 < (j : Int)) = false := decide_eq_false (by omega)
                   have i2c : decide (0 < j) = false := decide_eq_false (by omega)
                   have R2 := lh r2
                   clear r2
                   by_cases r3 : x = a.p
                   ·have i3 : (x == a.p) = true := beq_yes r3
                    have i3b : (x != a.p) = false := by rw [bne, i3]; rfl
                    have RR := lh (show RowP a j x from ⟨r0, r1, fun _ => r3, fun y h0 => absurd h0 (by have := R2.out; omega)⟩)
                    clear r3 he
                    go_wp2
                    go_roundw
                    case rel =>
                     refine ⟨j + 1, by omega, by go_num, fun p y hp hy => ?_, by first | rfl | trivial⟩
                     have e : p = j := by have := R2.out; omega
                     subst e
                     have := ln.rows_same hy HX.out
                     subst this
                     exact RR.out
                    case measure => simp [intOf]; omega
                   ·have i3 : (x == a.p) = false := beq_no r3
                    have i3b : (x != a.p) = true := bne_iff_ne.2 r3
                    have VV := lh (RX.out fun h => r3 (h.2.2.1 R2.out))
                    clear he
                    go_wp2
                    go_ret
                    exact ⟨ret_bool VV.out.symm, Y2wh.out⟩
                  ·have i2 : ((j : Int) == 0) = false := beq_no (by omega)
                   have i2b : (0 : Int) < (j : Int) := by omega
                   obtain ⟨b', o', y, he', hb', hy, hrr'⟩ := SRwh.out.at (i := j - 1) (by omega)
                   rw [he] at he'
                   injection he' with he'
                   injection he' with e1 e2 e3
                   subst e1 e2
                   have c1 := int_at hrr'
                   have i4 : IntKind.i64.wrap ((j : Int) - 1) = ((j - 1 : Nat) : Int) := by rw [IntKind.wrap_i64]; omega
                   have i5 : (0 : Int) ≤ ((j - 1 : Nat) : Int) := by omega
                   have i6 : ((j - 1 : Nat) : Int) < (S.n : Int) := by omega
                   have i6b : j - 1 < S.n := by omega
                   have HY := lh hy
                   have hyr := (HT.out (j - 1) y (by omega) hy)
                   have y0 := hyr.1
                   have y1 := hyr.2.1
                   have i7 : IntKind.i64.wrap (x - y) = x - y := by rw [IntKind.wrap_i64]; omega
                   have i8 : IntKind.i64.wrap (y - x) = y - x := by rw [IntKind.wrap_i64]; omega
                   have R2 := lh r2
                   clear hrr' he hy hyr
                   generalize hjj : j - 1 = jj at i4 i5 i6 i6b c1
                   have HJJ := lh hjj
                   clear hjj
                   by_cases r4 : x - y ≤ 1048576
                   ·have i9 : decide (1048576 < x - y) = false := decide_eq_false (by omega)
                    by_cases r5 : y - x ≤ 1048576
                    ·have i10 : decide (1048576 < y - x) = false := decide_eq_false (by omega)
                     have RR := lh (show RowP a j x from ⟨r0, r1, fun h => absurd h R2.out, fun z _ hz => by
                      have := ln.rows_same hz HY.out
                      subst this
                      exact ⟨r4, r5⟩⟩)
                     go_wp2
                     go_roundw
                     case rel =>
                      refine ⟨j + 1, by omega, by go_num, fun p z hp hz => ?_, by first | rfl | trivial⟩
                      by_cases e : p = j
                      ·subst e
                       have := ln.rows_same hz HX.out
                       subst this
                       exact RR.out
                      ·exact HT.out p z (by omega) hz
                     case measure => simp [intOf]; omega
                    ·have i10 : 1048576 < y - x := by omega
                     have VV := lh (RX.out fun h => r5 (h.2.2.2 y (by have := R2.out; omega) HY.out).2)
                     go_wp2
                     go_ret
                     exact ⟨ret_bool VV.out.symm, Y2wh.out⟩
                   ·have i9 : 1048576 < x - y := by omega
                    have VV := lh (RX.out fun h => r4 (h.2.2.2 y (by have := R2.out; omega) HY.out).1)
                    go_wp2
                    go_ret
                    exact ⟨ret_bool VV.out.symm, Y2wh.out⟩
                 ·have i1 : 2199023255552 < x := by omega
                  have VV := lh (RX.out fun h => r1 h.2.1)
                  clear he
                  go_wp2
                  go_ret
                  exact ⟨ret_bool VV.out.symm, Y2wh.out⟩
                ·have i0 : x < -2199023255552 := by omega
                 have VV := lh (RX.out fun h => r0 h.1)
                 clear he
                 go_wp2
                 go_ret
                 exact ⟨ret_bool VV.out.symm, Y2wh.out⟩
               ·have hjl : j = S.n := by omega
                have VV := lh (rightB_yes (whole_of HH.out fun q x hx => HT.out q x (by rw [hjl, ← HSL.out]; exact (List.getElem?_eq_some_iff.1 hx).1) hx))
                subst hjl
                go_wp2
                go_ret
                exact ⟨ret_bool VV.out.symm, Y2wh.out⟩
             ·rw [hm.right_no g5]
              refine tk0 25 rfl ?_ ?_ ?_
              rotate_left
              ·intro; go_simp <;> with_reducible rfl
              try simp only [Act.put, p1, p2, p3, p4, p5, p6]
              refine tk0 26 rfl ?_ ?_ ?_
              rotate_left
              ·intro; go_simp <;> with_reducible rfl
              try simp only [Act.put, p1, p2, p3, p4, p5, p6]
              refine tk0 27 rfl ?_ ?_ ?_
              rotate_left
              ·intro; go_simp <;> with_reducible rfl
              try simp only [Act.put, p1, p2, p3, p4, p5, p6]
              refine wpAnyT_done (by kernel_rfl) ?_ _
              have VV := lh (NO.out (fun h => g5 (h.search g4)))
              go_wp2
              go_ret
              exact ⟨ret_bool VV.out.symm, Y2wh.out⟩
            ·have j4 : (a.st == 2) = false := beq_no g4
             refine tk0 20 rfl ?_ ?_ ?_
             rotate_left
             ·intro; go_simp <;> with_reducible rfl
             try simp only [Act.put, p1, p2, p3, p4, p5, p6]
             refine tk0 21 rfl ?_ ?_ ?_
             rotate_left
             ·intro; go_simp <;> with_reducible rfl
             try simp only [Act.put, p1, p2, p3, p4, p5, p6]
             refine tks 22 rfl ?_
             try simp only [Act.put, p1, p2, p3, p4, p5, p6]
             refine tks 23 rfl ?_
             try simp only [Act.put, p1, p2, p3, p4, p5, p6]
             refine tks 24 rfl ?_
             try simp only [Act.put, p1, p2, p3, p4, p5, p6]
             refine tks 25 rfl ?_
             try simp only [Act.put, p1, p2, p3, p4, p5, p6]
             refine tk0 26 rfl ?_ ?_ ?_
             rotate_left
             ·intro; go_simp <;> with_reducible rfl
             try simp only [Act.put, p1, p2, p3, p4, p5, p6]
             refine tk0 27 rfl ?_ ?_ ?_
             rotate_left
             ·intro; go_simp <;> with_reducible rfl
             try simp only [Act.put, p1, p2, p3, p4, p5, p6]
             refine wpAnyT_done (by kernel_rfl) ?_ _
             have HH := lh (show HalfA a from ⟨M1.out, s0, s7, by rw [HSL.out]; exact SL.out, o0, o1, HF.out, G1.out, G2.out, G3.out, fun h => absurd h g4⟩)
             go_wp2
             clear i0 i1 i2 i2b i3 i4 i5 i6 s0 s7 o0 o1 f0 f1
             have ⟨c10, _⟩ := k.cell_of Y1wl.out (i := 10) rfl
             have ⟨c12, _⟩ := k.cell_of Y1wl.out (i := 12) rfl
             have RO := lh fun (q : Nat) (x : Int) (hx : a.sm[q]? = some x) (hn : ¬ RowP a q x) => NO.out fun h => hn (rows_of h hx)
             go_loopw [3] (fun i wr => ∃ j : Nat, j ≤ S.n ∧ i = .int .i64 j ∧ (∀ q x, q < j → a.sm[q]? = some x → RowP a q x) ∧ wr = wl) (fun i _ => S.n - (intOf i).toNat)
             case atStart => exact ⟨0, Nat.zero_le _, rfl, fun q x hq => absurd hq (by omega), rfl⟩
             case round =>
              obtain ⟨j, hj, rfl, hT, rfl⟩ := hrel
              have HT := lh hT
              clear hT
              by_cases hlt : j < S.n
              ·obtain ⟨b, o, x, he, hb, hx, hrr⟩ := SRwl.out.at hlt
               have c0 := int_at hrr
               have hj0 : (0 : Int) ≤ (j : Int) := by omega
               have hj1 : (j : Int) < (S.n : Int) := by omega
               have HX := lh hx
               have RX := lh fun hn => RO.out j x hx hn
               rw [he] at c12
               have HE := lh he
               clear hrr hx
               by_cases r0 : -2199023255552 ≤ x
               ·have i0 : decide (x < -2199023255552) = false := decide_eq_false (by omega)
                by_cases r1 : x ≤ 2199023255552
                ·have i1 : decide (2199023255552 < x) = false := decide_eq_false (by omega)
                 by_cases r2 : j = 0
                 ·have i2 : ((j : Int) == 0) = true := beq_yes (by omega)
                  have i2b : decide (0 < (j : Int)) = false := decide_eq_false (by omega)
                  have i2c : decide (0 < j) = false := decide_eq_false (by omega)
                  have R2 := lh r2
                  clear r2
                  by_cases r3 : x = a.p
                  ·have i3 : (x == a.p) = true := beq_yes r3
                   have i3b : (x != a.p) = false := by rw [bne, i3]; rfl
                   have RR := lh (show RowP a j x from ⟨r0, r1, fun _ => r3, fun y h0 => absurd h0 (by have := R2.out; omega)⟩)
                   clear r3 he
                   go_wp2
                   go_roundw
                   case rel =>
                    refine ⟨j + 1, by omega, by go_num, fun p y hp hy => ?_, by first | rfl | trivial⟩
                    have e : p = j := by have := R2.out; omega
                    subst e
                    have := ln.rows_same hy HX.out
                    subst this
                    exact RR.out
                   case measure => simp [intOf]; omega
                  ·have i3 : (x == a.p) = false := beq_no r3
                   have i3b : (x != a.p) = true := bne_iff_ne.2 r3
                   have VV := lh (RX.out fun h => r3 (h.2.2.1 R2.out))
                   clear he
                   go_wp2
                   go_ret
                   exact ⟨ret_bool VV.out.symm, Y2wl.out⟩
                 ·have i2 : ((j : Int) == 0) = false := beq_no (by omega)
                  have i2b : (0 : Int) < (j : Int) := by omega
                  obtain ⟨b', o', y, he', hb', hy, hrr'⟩ := SRwl.out.at (i := j - 1) (by omega)
                  rw [he] at he'
                  injection he' with he'
                  injection he' with e1 e2 e3
                  subst e1 e2
                  have c1 := int_at hrr'
                  have i4 : IntKind.i64.wrap ((j : Int) - 1) = ((j - 1 : Nat) : Int) := by rw [IntKind.wrap_i64]; omega
                  have i5 : (0 : Int) ≤ ((j - 1 : Nat) : Int) := by omega
                  have i6 : ((j - 1 : Nat) : Int) < (S.n : Int) := by omega
                  have i6b : j - 1 < S.n := by omega
                  have HY := lh hy
                  have hyr := (HT.out (j - 1) y (by omega) hy)
                  have y0 := hyr.1
                  have y1 := hyr.2.1
                  have i7 : IntKind.i64.wrap (x - y) = x - y := by rw [IntKind.wrap_i64]; omega
                  have i8 : IntKind.i64.wrap (y - x) = y - x := by rw [IntKind.wrap_i64]; omega
                  have R2 := lh r2
                  clear hrr' he hy hyr
                  generalize hjj : j - 1 = jj at i4 i5 i6 i6b c1
                  have HJJ := lh hjj
                  clear hjj
                  by_cases r4 : x - y ≤ 1048576
                  ·have i9 : decide (1048576 < x - y) = false := decide_eq_false (by omega)
                   by_cases r5 : y - x ≤ 1048576
                   ·have i10 : decide (1048576 < y - x) = false := decide_eq_false (by omega)
                    have RR := lh (show RowP a j x from ⟨r0, r1, fun h => absurd h R2.out, fun z _ hz => by
                     have := ln.rows_same hz HY.out
                     subst this
                     exact ⟨r4, r5⟩⟩)
                    go_wp2
                    go_roundw
                    case rel =>
                     refine ⟨j + 1, by omega, by go_num, fun p z hp hz => ?_, by first | rfl | trivial⟩
                     by_cases e : p = j
                     ·subst e
                      have := ln.rows_same hz HX.out
                      subst this
                      exact RR.out
                     ·exact HT.out p z (by omega) hz
                    case measure => simp [intOf]; omega
                   ·have i10 : 1048576 < y - x := by omega
                    have VV := lh (RX.out fun h => r5 (h.2.2.2 y (by have := R2.out; omega) HY.out).2)
                    go_wp2
                    go_ret
                    exact ⟨ret_bool VV.out.symm, Y2wl.out⟩
                  ·have i9 : 1048576 < x - y := by omega
                   have VV := lh (RX.out fun h => r4 (h.2.2.2 y (by have := R2.out; omega) HY.out).1)
                   go_wp2
                   go_ret
                   exact ⟨ret_bool VV.out.symm, Y2wl.out⟩
                ·have i1 : 2199023255552 < x := by omega
                 have VV := lh (RX.out fun h => r1 h.2.1)
                 clear he
                 go_wp2
                 go_ret
                 exact ⟨ret_bool VV.out.symm, Y2wl.out⟩
               ·have i0 : x < -2199023255552 := by omega
                have VV := lh (RX.out fun h => r0 h.1)
                clear he
                go_wp2
                go_ret
                exact ⟨ret_bool VV.out.symm, Y2wl.out⟩
              ·have hjl : j = S.n := by omega
               have VV := lh (rightB_yes (whole_of HH.out fun q x hx => HT.out q x (by rw [hjl, ← HSL.out]; exact (List.getElem?_eq_some_iff.1 hx).1) hx))
               subst hjl
               go_wp2
               go_ret
               exact ⟨ret_bool VV.out.symm, Y2wl.out⟩
           ·rw [lined_no g3]
            refine tk0 15 rfl ?_ ?_ ?_
            rotate_left
            ·intro; go_simp <;> with_reducible rfl
            try simp only [Act.put, p1, p2, p3, p4, p5, p6]
            refine tk0 16 rfl ?_ ?_ ?_
            rotate_left
            ·intro; go_simp <;> with_reducible rfl
            try simp only [Act.put, p1, p2, p3, p4, p5, p6]
            refine tk0 17 rfl ?_ ?_ ?_
            rotate_left
            ·intro; go_simp <;> with_reducible rfl
            try simp only [Act.put, p1, p2, p3, p4, p5, p6]
            refine tks 18 rfl ?_
            try simp only [Act.put, p1, p2, p3, p4, p5, p6]
            refine tks 19 rfl ?_
            try simp only [Act.put, p1, p2, p3, p4, p5, p6]
            refine tks 20 rfl ?_
            try simp only [Act.put, p1, p2, p3, p4, p5, p6]
            refine tks 21 rfl ?_
            try simp only [Act.put, p1, p2, p3, p4, p5, p6]
            refine tks 22 rfl ?_
            try simp only [Act.put, p1, p2, p3, p4, p5, p6]
            refine tks 23 rfl ?_
            try simp only [Act.put, p1, p2, p3, p4, p5, p6]
            refine tks 24 rfl ?_
            try simp only [Act.put, p1, p2, p3, p4, p5, p6]
            refine tks 25 rfl ?_
            try simp only [Act.put, p1, p2, p3, p4, p5, p6]
            refine tks 26 rfl ?_
            try simp only [Act.put, p1, p2, p3, p4, p5, p6]
            refine tk0 27 rfl ?_ ?_ ?_
            rotate_left
            ·intro; go_simp <;> with_reducible rfl
            try simp only [Act.put, p1, p2, p3, p4, p5, p6]
            refine wpAnyT_done (by kernel_rfl) ?_ _
            have VV := lh (NO.out (fun h => g3 h.lined))
            go_wp2
            go_ret
            exact ⟨ret_bool VV.out.symm, Y2wl.out⟩
          ·rw [ln.right_no g2]
           refine tk0 10 rfl ?_ ?_ ?_
           rotate_left
           ·intro; go_simp <;> with_reducible rfl
           try simp only [Act.put, p1, p2, p3, p4, p5, p6]
           refine tk0 11 rfl ?_ ?_ ?_
           rotate_left
           ·intro; go_simp <;> with_reducible rfl
           try simp only [Act.put, p1, p2, p3, p4, p5, p6]
           refine tk0 12 rfl ?_ ?_ ?_
           rotate_left
           ·intro; go_simp <;> with_reducible rfl
           try simp only [Act.put, p1, p2, p3, p4, p5, p6]
           refine tks 13 rfl ?_
           try simp only [Act.put, p1, p2, p3, p4, p5, p6]
           refine tks 14 rfl ?_
           try simp only [Act.put, p1, p2, p3, p4, p5, p6]
           refine tks 15 rfl ?_
           try simp only [Act.put, p1, p2, p3, p4, p5, p6]
           refine tk0 16 rfl ?_ ?_ ?_
           rotate_left
           ·intro; go_simp <;> with_reducible rfl
           try simp only [Act.put, p1, p2, p3, p4, p5, p6]
           refine tk0 17 rfl ?_ ?_ ?_
           rotate_left
           ·intro; go_simp <;> with_reducible rfl
           try simp only [Act.put, p1, p2, p3, p4, p5, p6]
           refine tks 18 rfl ?_
           try simp only [Act.put, p1, p2, p3, p4, p5, p6]
           refine tks 19 rfl ?_
           try simp only [Act.put, p1, p2, p3, p4, p5, p6]
           refine tks 20 rfl ?_
           try simp only [Act.put, p1, p2, p3, p4, p5, p6]
           refine tks 21 rfl ?_
           try simp only [Act.put, p1, p2, p3, p4, p5, p6]
           refine tks 22 rfl ?_
           try simp only [Act.put, p1, p2, p3, p4, p5, p6]
           refine tks 23 rfl ?_
           try simp only [Act.put, p1, p2, p3, p4, p5, p6]
           refine tks 24 rfl ?_
           try simp only [Act.put, p1, p2, p3, p4, p5, p6]
           refine tks 25 rfl ?_
           try simp only [Act.put, p1, p2, p3, p4, p5, p6]
           refine tks 26 rfl ?_
           try simp only [Act.put, p1, p2, p3, p4, p5, p6]
           refine tk0 27 rfl ?_ ?_ ?_
           rotate_left
           ·intro; go_simp <;> with_reducible rfl
           try simp only [Act.put, p1, p2, p3, p4, p5, p6]
           refine wpAnyT_done (by kernel_rfl) ?_ _
           have VV := lh (NO.out (fun h => g2 h.line))
           go_wp2
           go_ret
           exact ⟨ret_bool VV.out.symm, Y2wr.out⟩
         ·rw [gn.safe_no (fun hh => g1 hh.2)]
          refine tk0 5 rfl ?_ ?_ ?_
          rotate_left
          ·intro; go_simp <;> with_reducible rfl
          try simp only [Act.put, p1, p2, p3, p4, p5, p6]
          refine tk0 6 rfl ?_ ?_ ?_
          rotate_left
          ·intro; go_simp <;> with_reducible rfl
          try simp only [Act.put, p1, p2, p3, p4, p5, p6]
          refine tks 7 rfl ?_
          try simp only [Act.put, p1, p2, p3, p4, p5, p6]
          refine tks 8 rfl ?_
          try simp only [Act.put, p1, p2, p3, p4, p5, p6]
          refine tks 9 rfl ?_
          try simp only [Act.put, p1, p2, p3, p4, p5, p6]
          refine tks 10 rfl ?_
          try simp only [Act.put, p1, p2, p3, p4, p5, p6]
          refine tk0 11 rfl ?_ ?_ ?_
          rotate_left
          ·intro; go_simp <;> with_reducible rfl
          try simp only [Act.put, p1, p2, p3, p4, p5, p6]
          refine tk0 12 rfl ?_ ?_ ?_
          rotate_left
          ·intro; go_simp <;> with_reducible rfl
          try simp only [Act.put, p1, p2, p3, p4, p5, p6]
          refine tks 13 rfl ?_
          try simp only [Act.put, p1, p2, p3, p4, p5, p6]
          refine tks 14 rfl ?_
          try simp only [Act.put, p1, p2, p3, p4, p5, p6]
          refine tks 15 rfl ?_
          try simp only [Act.put, p1, p2, p3, p4, p5, p6]
          refine tk0 16 rfl ?_ ?_ ?_
          rotate_left
          ·intro; go_simp <;> with_reducible rfl
          try simp only [Act.put, p1, p2, p3, p4, p5, p6]
          refine tk0 17 rfl ?_ ?_ ?_
          rotate_left
          ·intro; go_simp <;> with_reducible rfl
          try simp only [Act.put, p1, p2, p3, p4, p5, p6]
          refine tks 18 rfl ?_
          try simp only [Act.put, p1, p2, p3, p4, p5, p6]
          refine tks 19 rfl ?_
          try simp only [Act.put, p1, p2, p3, p4, p5, p6]
          refine tks 20 rfl ?_
          try simp only [Act.put, p1, p2, p3, p4, p5, p6]
          refine tks 21 rfl ?_
          try simp only [Act.put, p1, p2, p3, p4, p5, p6]
          refine tks 22 rfl ?_
          try simp only [Act.put, p1, p2, p3, p4, p5, p6]
          refine tks 23 rfl ?_
          try simp only [Act.put, p1, p2, p3, p4, p5, p6]
          refine tks 24 rfl ?_
          try simp only [Act.put, p1, p2, p3, p4, p5, p6]
          refine tks 25 rfl ?_
          try simp only [Act.put, p1, p2, p3, p4, p5, p6]
          refine tks 26 rfl ?_
          try simp only [Act.put, p1, p2, p3, p4, p5, p6]
          refine tk0 27 rfl ?_ ?_ ?_
          rotate_left
          ·intro; go_simp <;> with_reducible rfl
          try simp only [Act.put, p1, p2, p3, p4, p5, p6]
          refine wpAnyT_done (by kernel_rfl) ?_ _
          have VV := lh (NO.out (fun h => g1 h.safe))
          go_wp2
          go_ret
          exact ⟨ret_bool VV.out.symm, Y2ws.out⟩
        ·have i6 : 288230376151711744 < a.off := by omega
         have VV := lh (NO.out (fun h => f1 h.far.2))
         go_wp2
         go_ret
         exact ⟨ret_bool VV.out.symm, Y2.out⟩
       ·have i5 : a.off < -288230376151711744 := by omega
        have VV := lh (NO.out (fun h => f0 h.far.1))
        go_wp2
        go_ret
        exact ⟨ret_bool VV.out.symm, Y2.out⟩
      ·have i4 : 100 < a.ov := by omega
       have VV := lh (NO.out (fun h => o1 h.ov1))
       go_wp2
       go_ret
       exact ⟨ret_bool VV.out.symm, Y2.out⟩
     ·have i3 : a.ov < 0 := by omega
      have VV := lh (NO.out (fun h => o0 h.ov0))
      go_wp2
      go_ret
      exact ⟨ret_bool VV.out.symm, Y2.out⟩
    ·have i2 : ((S.n : Int) == a.win) = false := beq_no sl
     have i2b : ((S.n : Int) != a.win) = true := bne_iff_ne.2 sl
     have VV := lh (NO.out (fun h => sl (by rw [← HSL.out]; exact h.len)))
     go_wp2
     go_ret
     exact ⟨ret_bool VV.out.symm, Y2.out⟩
   ·have i1 : 7 < a.st := by omega
    have VV := lh (NO.out (fun h => s7 h.st7))
    go_wp2
    go_ret
    exact ⟨ret_bool VV.out.symm, Y2.out⟩
  ·have i0 : a.st < 0 := by omega
   have VV := lh (NO.out (fun h => s0 h.st0))
   go_wp2
   go_ret
   exact ⟨ret_bool VV.out.symm, Y2.out⟩
 ·have e1 : madeB a.l a.win a.homeAt a.fast a.creep = false := decide_eq_false m1
  rw [e1]
  have VV := lh (NO.out (fun h => m1 h.made))
  clear e1 m1
  go_wp2
  go_ret
  exact ⟨ret_bool VV.out.symm, Y2.out⟩
end Go.Proofs.YtijlccblabadaaaGreat.ax
end
