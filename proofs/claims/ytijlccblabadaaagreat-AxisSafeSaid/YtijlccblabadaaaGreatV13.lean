/- What a cycle's toPlace answers; what was in memory is as it was. No condition beyond what each line says. What a cycle's wanted answers, and does. No condition beyond what each line says. What a cycle's advance does. No condition beyond what each line says. -/
import Derived.Test.YtijlccblabadaaaGreatV08
import Derived.Test.YtijlccblabadaaaGreatV05
import Derived.Test.YtijlccblabadaaaGreatV07
import Derived.Test.YtijlccblabadaaaGreatV16
import Derived.Test.YtijlccblabadaaaGreatV09
import Derived.Test.YtijlccblabadaaaGreatV03
section
namespace Go.Proofs.YtijlccblabadaaaGreat.cx
open Go.ChangeShapes Go.WideShapes Go.ChangeAt Go.RowKit Go.Proofs.YtijlccblabadaaaGreat.k Go.Proofs.YtijlccblabadaaaGreat.rr Go.Proofs.YtijlccblabadaaaGreat.ax
open Go.Proofs.YtijlccblabadaaaGreat.ln (C RdC RdI iC cC cV lnV)
set_option linter.unusedVariables false
set_option maxRecDepth 100000
theorem by_same {l : Lm} (hD : 1 ≤ l.D) (p v t u s x : Int) : gn.byV l p v t u s x = gn.byV l p v t (min u x) s x := by
 have key : ∀ (z : Int) (r : Int), min (min (b.vel x) r) (b.passV z (b.vel u) l.D) = min (min (b.vel x) r) (b.passV z (b.vel (min u x)) l.D) := by
  intro z r
  by_cases h : b.vel u ≤ b.vel x
  ·have e : b.vel (min u x) = b.vel u := by
    by_cases hu : u ≤ x
    ·rw [Int.min_eq_left hu]
    ·rw [Int.min_eq_right (by omega)]
     have := b.vel_mono (show x ≤ u by omega)
     omega
   rw [e]
  ·have e : b.vel (min u x) = b.vel x := by
    by_cases hu : u ≤ x
    ·have := b.vel_mono hu
     omega
    ·rw [Int.min_eq_right (by omega)]
   rw [e]
   have h1 := (b.passV_is (s := z) (b.vel_in u).1 (b.vel_in u).2 hD).1
   have h2 := (b.passV_is (s := z) (b.vel_in x).1 (b.vel_in x).2 hD).1
   omega
 unfold gn.byV
 simp only [key]
theorem wide_r {x : Int} (h : InR x) : gn.Wide x := h
theorem spd_in {a : Ax} {c : C} (h1 : -1048576 ≤ c.spd) (h2 : c.spd ≤ 1048576) (h3 : 0 ≤ a.ov) (h4 : a.ov ≤ 100) : -1048576 ≤ spdOf a c ∧ spdOf a c ≤ 1048576 := by
 have hm : -104857600 ≤ c.spd * a.ov ∧ c.spd * a.ov ≤ 104857600 := by
  constructor
  ·have : 0 ≤ (c.spd + 1048576) * a.ov := Int.mul_nonneg (by omega) h3
   have h5 := Int.add_mul c.spd 1048576 a.ov
   omega
  ·have : 0 ≤ (1048576 - c.spd) * a.ov := Int.mul_nonneg (by omega) h3
   have h5 := Int.sub_mul 1048576 c.spd a.ov
   omega
 exact td_in hm.1 hm.2
theorem u_in {c n : C} (h1 : InR c.spd) (h2 : InR n.spd) : InR (uOf c n) := by
 unfold InR at *
 unfold uOf
 split
 ·omega
 ·split
  ·omega
  ·split <;> omega
noncomputable def toPlaceV (a : Ax) (c n : C) : Int := if c.kind = 1 then (if blendsB a a.p then gn.byV (bounds a) a.p a.v c.tgt (uOf c n) n.tgt (spdOf a c) else gn.toV (bounds a) a.p a.v c.tgt (spdOf a c)) else 0
section
variable {base g : Nat} {i : In} {L : Sl} {a : Ax} {R : List Rp} {fr pa : Bool} {w : World} {tb : Option Nat}
set_option maxHeartbeats 8000000 in
theorem toplace_any (h : Cyc base g i L tb a R fr pa w) (hr : RightA a) {c : C} {t : List C} (hN : a.N = c :: t) {n : C} (hn : a.W.head?.getD ln.zeroC = n) (hs1 : c.kind = 1 → 1 ≤ c.spd ∧ c.spd ≤ 1048576 ∧ InR c.tgt) (hs2 : InR n.spd ∧ InR n.tgt) {x : Int} (hx : toPlaceV a c n = x) :
  Calls Tryz.prog 102 #[.pointer (some ⟨g, 0, none⟩)] w fun e w' => e = .returned (.int .i64 x) ∧ Below w.heap.size w w' := by
 have HC := lh h
 have hlt := h.lt
 have CN := lh (now_any h hN)
 unfold cV at CN
 obtain ⟨bl, hbl⟩ : ∃ z, blendsB a a.p = z := ⟨_, rfl⟩
 have CX := lh fun (V : World) (hb : Below w.heap.size w V) => blends_any (h.below hb) hr.line hN a.p hn hbl
 unfold cV at CX
 have HX := lh hx
 obtain ⟨S, N, W, T, h0, ht⟩ := h
 have H0 := lh h0
 have ⟨d10, d10f⟩ := k.cell_of h0.box (i := 10) rfl
 have hbr := bounds_right hr.limits
 have hsf := hr.safe
 have hov0 := hr.ov0
 have hov1 := hr.ov1
 clear h0 ht
 by_cases h1 : c.kind = 1
 ·have b1 : (c.kind != 1) = false := by rw [h1]; rfl
  obtain ⟨s1, s2, s3⟩ := hs1 h1
  have hsp : -1048576 ≤ spdOf a c ∧ spdOf a c ≤ 1048576 := spd_in (by omega) (by omega) hov0 hov1
  obtain ⟨sp, hsp2⟩ : ∃ z, spdOf a c = z := ⟨_, rfl⟩
  rw [hsp2] at hsp
  have PT := lh fun (V : World) (hb : Below w.heap.size w V) => part_any (HC.out.below hb) (v := c.spd) (by omega) (by omega) hov0 hov1 (x := sp) hsp2
  have CB := lh fun V => bounds_any a S N W V
  cases bl
  ·have HV : Hid (gn.toV (bounds a) a.p a.v c.tgt sp = x) := lh (by rw [← HX.out]; unfold toPlaceV; rw [if_pos h1, hbl, hsp2]; rfl)
   have CT := lh fun V => gn.to_ok (bounds a) hbr a.p a.v hsf c.tgt sp (wide_r s3) (wide_r ⟨by omega, by omega⟩) V
   rw [HV.out] at CT
   clear HV HX hsp2 hsp s1 s2 s3 hs1 hs2 h1 hov0 hov1 hr hN hn hbl
   go_enter Tryz.func102, Tryz.ntmps102
   go_upto_region 2 with (go_at_call 100; ((with_reducible refine (CN.out).mono ?_); rintro e w1 ⟨rfl, hb⟩; have B1 := lh hb; have hl1 := Nat.lt_of_lt_of_le hlt hb.size; have d10 := (hb.cell (p := ⟨g, 10, none⟩) hlt).trans d10; clear hb))
   obtain ⟨y1, y2, y3⟩ := k.boxes1 (w := w1) (c1 := cA c) (t1 := 62) (Below.refl _ _)
   have D : Hid (k.Box _ w1.heap.size 0 (cC c)) := lh y1
   have B2 := lh (B1.out.trans (y2.mono B1.out.size))
   have d10 := (y2.cell (p := ⟨g, 10, none⟩) hl1).trans d10
   have hl2 := Nat.lt_of_lt_of_le hl1 y2.size
   clear y1 y2
   generalize w1.alloc (.cells #[.int .i64 c.id, .int .i64 c.kind, .int .i64 c.tgt, .int .i64 c.spd, .int .i64 c.mode, .int .i64 c.num, .int .i64 c.den] 62) = w2 at D B2 d10 hl2 y3 ⊢
   have ⟨k1, k1f⟩ := k.cell_of D.out (i := 1) rfl
   skip
   go_upto_region 7 with (go_at_call 109; ((with_reducible refine (CX.out _ B2.out).mono ?_); rintro e w3 ⟨rfl, hb⟩; have B3 := lh (B2.out.trans (hb.mono B2.out.size)); have D := lh (D.out.below hb y3); have y3 := Nat.lt_of_lt_of_le y3 hb.size; clear hb d10 k1 k1f))
   have hwn := (Below.refl w3.heap.size w3).alloc (Nat.le_refl _) (.cells #[.int .i64 n.id, .int .i64 n.kind, .int .i64 n.tgt, .int .i64 n.spd, .int .i64 n.mode, .int .i64 n.num, .int .i64 n.den] 62)
   obtain ⟨z1, z2, z3⟩ := k.boxes1 (w := w3) (c1 := cA n) (t1 := 62) (Below.refl _ _)
   have E : Hid (k.Box _ w3.heap.size 0 (cC n)) := lh z1
   have D := lh (D.out.below hwn y3)
   have B4 := lh (B3.out.trans (hwn.mono B3.out.size))
   have y4 := Nat.lt_of_lt_of_le y3 hwn.size
   clear z1 z2 hwn
   generalize w3.alloc (.cells #[.int .i64 n.id, .int .i64 n.kind, .int .i64 n.tgt, .int .i64 n.spd, .int .i64 n.mode, .int .i64 n.num, .int .i64 n.den] 62) = w4 at E D B4 y4 z3 ⊢
   have H4 := lh (H0.out.below B4.out)
   have hl4 := H4.out.lt
   have ⟨k0, k0f⟩ := k.cell_of D.out (i := 0) rfl
   have ⟨k1, k1f⟩ := k.cell_of D.out (i := 1) rfl
   have ⟨k2, k2f⟩ := k.cell_of D.out (i := 2) rfl
   have ⟨k3, k3f⟩ := k.cell_of D.out (i := 3) rfl
   have ⟨k4, k4f⟩ := k.cell_of D.out (i := 4) rfl
   have ⟨k5, k5f⟩ := k.cell_of D.out (i := 5) rfl
   have ⟨k6, k6f⟩ := k.cell_of D.out (i := 6) rfl
   have ⟨m0, m0f⟩ := k.cell_of E.out (i := 0) rfl
   have ⟨m1, m1f⟩ := k.cell_of E.out (i := 1) rfl
   have ⟨m2, m2f⟩ := k.cell_of E.out (i := 2) rfl
   have ⟨m3, m3f⟩ := k.cell_of E.out (i := 3) rfl
   have ⟨m4, m4f⟩ := k.cell_of E.out (i := 4) rfl
   have ⟨m5, m5f⟩ := k.cell_of E.out (i := 5) rfl
   have ⟨m6, m6f⟩ := k.cell_of E.out (i := 6) rfl
   have ⟨d10, d10f⟩ := k.cell_of H4.out.box (i := 10) rfl
   have ⟨d11, d11f⟩ := k.cell_of H4.out.box (i := 11) rfl
   refine wp_region_T (by kernel_rfl) (fun w' => Below w4.heap.size w4 w') [] (Below.refl _ _).drew (fun hHeld => ?_)
   refine tk0 0 rfl ?_ ?_ ?_
   rotate_left
   ·intro; go_simp <;> with_reducible rfl
   try simp only [Act.put, p1, p2, p3, p4, p6]
   refine tk0 1 rfl ?_ ?_ ?_
   rotate_left
   ·intro; go_simp <;> with_reducible rfl
   try simp only [Act.put, p1, p2, p3, p4, p5, p6]
   refine tk0 2 rfl ?_ ?_ ?_
   rotate_left
   ·intro; go_simp <;> with_reducible rfl
   try simp only [Act.put, p1, p2, p3, p4, p5, p6]
   refine tkv 3 rfl (axV a S N W) (by exact m_y_ax H4.out.ax hl4 47 rfl rfl rfl) ?_
   try simp only [Act.put, p1, p2, p3, p4, p5, p6]
   refine tk0 5 rfl ?_ ?_ ?_
   rotate_left
   ·intro; go_simp <;> with_reducible rfl
   try simp only [Act.put, p1, p2, p3, p4, p5, p6]
   refine tk0 6 rfl ?_ ?_ ?_
   rotate_left
   ·intro; go_simp <;> with_reducible rfl
   try simp only [Act.put, p1, p2, p3, p4, p5, p6]
   refine tk0 7 rfl ?_ ?_ ?_
   rotate_left
   ·intro; go_simp <;> with_reducible rfl
   try simp only [Act.put, p1, p2, p3, p4, p5, p6]
   refine tk0 8 rfl ?_ ?_ ?_
   rotate_left
   ·intro; go_simp <;> with_reducible rfl
   try simp only [Act.put, p1, p2, p3, p4, p5, p6]
   refine tk 9 rfl ?_ ?_ ?_
   rotate_left
   ·intro w_ hSw; have q0 := (hSw.cell (p := ⟨g, 10, none⟩) hl4).trans d10; have q1 := (hSw.cell (p := ⟨g, 11, none⟩) hl4).trans d11; clear hSw; go_simp <;> (with_reducible rfl)
   try simp only [Act.put, p1, p2, p3, p4, p5, p6]
   refine tk0 10 rfl ?_ ?_ ?_
   rotate_left
   ·intro; go_simp <;> with_reducible rfl
   try simp only [Act.put, p1, p2, p3, p4, p5, p6]
   refine tk 11 rfl ?_ ?_ ?_
   rotate_left
   ·intro w_ hSw; have q0 := (hSw.cell (p := ⟨w1.heap.size, 2, none⟩) y4).trans k2; clear hSw; go_simp <;> (with_reducible rfl)
   try simp only [Act.put, p1, p2, p3, p4, p5, p6]
   refine tk0 12 rfl ?_ ?_ ?_
   rotate_left
   ·intro; go_simp <;> with_reducible rfl
   try simp only [Act.put, p1, p2, p3, p4, p5, p6]
   refine tk0 13 rfl ?_ ?_ ?_
   rotate_left
   ·intro; go_simp <;> with_reducible rfl
   try simp only [Act.put, p1, p2, p3, p4, p5, p6]
   refine tk 14 rfl ?_ ?_ ?_
   rotate_left
   ·intro w_ hSw; have q0 := (hSw.cell (p := ⟨w1.heap.size, 3, none⟩) y4).trans k3; clear hSw; go_simp <;> (with_reducible rfl)
   try simp only [Act.put, p1, p2, p3, p4, p5, p6]
   refine ry [4] ?_
   refine ar1 rfl fun K hK => ?_
   go_simp
   (go_at_call 17; ((with_reducible refine (CB.out _).mono ?_); rintro e w5 ⟨rfl, hb0⟩))
   go_wp2_with fail
   have hb5 := (((Below.refl w4.heap.size w4).drew)).trans (hb0.mono (((Below.refl w4.heap.size w4).drew)).size)
   clear hb0
   refine hK.out _ _ hb5 (fun hHeld => ?_)
   clear hK K
   try simp only [Act.put, p1, p2, p3, p4, p5, p6]
   refine ry [15] ?_
   refine ar1 rfl fun K hK => ?_
   go_simp
   (go_at_call 103; ((with_reducible refine (PT.out _ (B4.out.trans (hb5.mono B4.out.size))).mono ?_); rintro e w6 ⟨rfl, rfl⟩))
   go_wp2_with fail
   refine hK.out _ _ hb5 (fun hHeld => ?_)
   clear hK K
   try simp only [Act.put, p1, p2, p3, p4, p5, p6]
   refine ry [16] ?_
   refine ar1 rfl fun K hK => ?_
   go_simp
   (go_at_call 128; ((with_reducible refine (CT.out _).mono ?_); rintro e w7 ⟨rfl, hb0⟩))
   go_wp2_with fail
   have hb7 := (hb5).trans (hb0.mono (hb5).size)
   clear hb0
   refine hK.out _ _ hb7 (fun hHeld => ?_)
   clear hK K
   try simp only [Act.put, p1, p2, p3, p4, p5, p6]
   refine tk0 17 rfl ?_ ?_ ?_
   rotate_left
   ·intro; go_simp <;> with_reducible rfl
   try simp only [Act.put, p1, p2, p3, p4, p5, p6]
   refine wpAnyT_done (by kernel_rfl) ?_ _
   go_wp2
   go_ret
   exact ⟨rfl, B4.out.trans (hb7.mono B4.out.size)⟩
  ·have HV : Hid (gn.byV (bounds a) a.p a.v c.tgt (uOf c n) n.tgt sp = x) := lh (by rw [← HX.out]; unfold toPlaceV; rw [if_pos h1, hbl, hsp2]; rfl)
   obtain ⟨u, hu⟩ : ∃ z, uOf c n = z := ⟨_, rfl⟩
   have CJ := lh fun V => joint_any c n hu V
   unfold cV at CJ
   have hui : InR u := by rw [← hu]; exact u_in ⟨by omega, by omega⟩ hs2.1
   rw [hu] at HV
   have CT := lh fun V => gn.by_ok (bounds a) hbr a.p a.v hsf c.tgt u n.tgt sp (wide_r s3) (wide_r hui) (wide_r hs2.2) (wide_r ⟨by omega, by omega⟩) V
   rw [HV.out] at CT
   clear HV HX hsp2 hsp s1 s2 s3 hs1 hs2 h1 hov0 hov1 hr hN hn hbl hu hui
   go_enter Tryz.func102, Tryz.ntmps102
   go_upto_region 2 with (go_at_call 100; ((with_reducible refine (CN.out).mono ?_); rintro e w1 ⟨rfl, hb⟩; have B1 := lh hb; have hl1 := Nat.lt_of_lt_of_le hlt hb.size; have d10 := (hb.cell (p := ⟨g, 10, none⟩) hlt).trans d10; clear hb))
   obtain ⟨y1, y2, y3⟩ := k.boxes1 (w := w1) (c1 := cA c) (t1 := 62) (Below.refl _ _)
   have D : Hid (k.Box _ w1.heap.size 0 (cC c)) := lh y1
   have B2 := lh (B1.out.trans (y2.mono B1.out.size))
   have d10 := (y2.cell (p := ⟨g, 10, none⟩) hl1).trans d10
   have hl2 := Nat.lt_of_lt_of_le hl1 y2.size
   clear y1 y2
   generalize w1.alloc (.cells #[.int .i64 c.id, .int .i64 c.kind, .int .i64 c.tgt, .int .i64 c.spd, .int .i64 c.mode, .int .i64 c.num, .int .i64 c.den] 62) = w2 at D B2 d10 hl2 y3 ⊢
   have ⟨k1, k1f⟩ := k.cell_of D.out (i := 1) rfl
   skip
   go_upto_region 6 with (go_at_call 109; ((with_reducible refine (CX.out _ B2.out).mono ?_); rintro e w3 ⟨rfl, hb⟩; have B3 := lh (B2.out.trans (hb.mono B2.out.size)); have D := lh (D.out.below hb y3); have y3 := Nat.lt_of_lt_of_le y3 hb.size; clear hb d10 k1 k1f))
   have hwn := (Below.refl w3.heap.size w3).alloc (Nat.le_refl _) (.cells #[.int .i64 n.id, .int .i64 n.kind, .int .i64 n.tgt, .int .i64 n.spd, .int .i64 n.mode, .int .i64 n.num, .int .i64 n.den] 62)
   obtain ⟨z1, z2, z3⟩ := k.boxes1 (w := w3) (c1 := cA n) (t1 := 62) (Below.refl _ _)
   have E : Hid (k.Box _ w3.heap.size 0 (cC n)) := lh z1
   have D := lh (D.out.below hwn y3)
   have B4 := lh (B3.out.trans (hwn.mono B3.out.size))
   have y4 := Nat.lt_of_lt_of_le y3 hwn.size
   clear z1 z2 hwn
   generalize w3.alloc (.cells #[.int .i64 n.id, .int .i64 n.kind, .int .i64 n.tgt, .int .i64 n.spd, .int .i64 n.mode, .int .i64 n.num, .int .i64 n.den] 62) = w4 at E D B4 y4 z3 ⊢
   have H4 := lh (H0.out.below B4.out)
   have hl4 := H4.out.lt
   have ⟨k0, k0f⟩ := k.cell_of D.out (i := 0) rfl
   have ⟨k1, k1f⟩ := k.cell_of D.out (i := 1) rfl
   have ⟨k2, k2f⟩ := k.cell_of D.out (i := 2) rfl
   have ⟨k3, k3f⟩ := k.cell_of D.out (i := 3) rfl
   have ⟨k4, k4f⟩ := k.cell_of D.out (i := 4) rfl
   have ⟨k5, k5f⟩ := k.cell_of D.out (i := 5) rfl
   have ⟨k6, k6f⟩ := k.cell_of D.out (i := 6) rfl
   have ⟨m0, m0f⟩ := k.cell_of E.out (i := 0) rfl
   have ⟨m1, m1f⟩ := k.cell_of E.out (i := 1) rfl
   have ⟨m2, m2f⟩ := k.cell_of E.out (i := 2) rfl
   have ⟨m3, m3f⟩ := k.cell_of E.out (i := 3) rfl
   have ⟨m4, m4f⟩ := k.cell_of E.out (i := 4) rfl
   have ⟨m5, m5f⟩ := k.cell_of E.out (i := 5) rfl
   have ⟨m6, m6f⟩ := k.cell_of E.out (i := 6) rfl
   have ⟨d10, d10f⟩ := k.cell_of H4.out.box (i := 10) rfl
   have ⟨d11, d11f⟩ := k.cell_of H4.out.box (i := 11) rfl
   refine wp_region_T (by kernel_rfl) (fun w' => Below w4.heap.size w4 w') [] (Below.refl _ _).drew (fun hHeld => ?_)
   refine tk0 0 rfl ?_ ?_ ?_
   rotate_left
   ·intro; go_simp <;> with_reducible rfl
   try simp only [Act.put, p1, p2, p3, p4, p6]
   refine tk0 1 rfl ?_ ?_ ?_
   rotate_left
   ·intro; go_simp <;> with_reducible rfl
   try simp only [Act.put, p1, p2, p3, p4, p5, p6]
   refine tk0 2 rfl ?_ ?_ ?_
   rotate_left
   ·intro; go_simp <;> with_reducible rfl
   try simp only [Act.put, p1, p2, p3, p4, p5, p6]
   refine tkv 3 rfl (axV a S N W) (by exact m_y_ax H4.out.ax hl4 25 rfl rfl rfl) ?_
   try simp only [Act.put, p1, p2, p3, p4, p5, p6]
   refine tk0 5 rfl ?_ ?_ ?_
   rotate_left
   ·intro; go_simp <;> with_reducible rfl
   try simp only [Act.put, p1, p2, p3, p4, p5, p6]
   refine tk0 6 rfl ?_ ?_ ?_
   rotate_left
   ·intro; go_simp <;> with_reducible rfl
   try simp only [Act.put, p1, p2, p3, p4, p5, p6]
   refine tk0 7 rfl ?_ ?_ ?_
   rotate_left
   ·intro; go_simp <;> with_reducible rfl
   try simp only [Act.put, p1, p2, p3, p4, p5, p6]
   refine tk0 8 rfl ?_ ?_ ?_
   rotate_left
   ·intro; go_simp <;> with_reducible rfl
   try simp only [Act.put, p1, p2, p3, p4, p5, p6]
   refine tk 9 rfl ?_ ?_ ?_
   rotate_left
   ·intro w_ hSw; have q0 := (hSw.cell (p := ⟨g, 10, none⟩) hl4).trans d10; have q1 := (hSw.cell (p := ⟨g, 11, none⟩) hl4).trans d11; clear hSw; go_simp <;> (with_reducible rfl)
   try simp only [Act.put, p1, p2, p3, p4, p5, p6]
   refine tk0 10 rfl ?_ ?_ ?_
   rotate_left
   ·intro; go_simp <;> with_reducible rfl
   try simp only [Act.put, p1, p2, p3, p4, p5, p6]
   refine tk 11 rfl ?_ ?_ ?_
   rotate_left
   ·intro w_ hSw; have q0 := (hSw.cell (p := ⟨w1.heap.size, 2, none⟩) y4).trans k2; clear hSw; go_simp <;> (with_reducible rfl)
   try simp only [Act.put, p1, p2, p3, p4, p5, p6]
   refine tk 12 rfl ?_ ?_ ?_
   rotate_left
   ·intro w_ hSw; have q0 := (hSw.cell (p := ⟨w1.heap.size, 0, none⟩) y4).trans k0; have q1 := (hSw.cell (p := ⟨w1.heap.size, 1, none⟩) y4).trans k1; have q2 := (hSw.cell (p := ⟨w1.heap.size, 2, none⟩) y4).trans k2; have q3 := (hSw.cell (p := ⟨w1.heap.size, 3, none⟩) y4).trans k3; have q4 := (hSw.cell (p := ⟨w1.heap.size, 4, none⟩) y4).trans k4; have q5 := (hSw.cell (p := ⟨w1.heap.size, 5, none⟩) y4).trans k5; have q6 := (hSw.cell (p := ⟨w1.heap.size, 6, none⟩) y4).trans k6; clear hSw; go_simp <;> (with_reducible rfl)
   try simp only [Act.put, p1, p2, p3, p4, p5, p6]
   refine tk 13 rfl ?_ ?_ ?_
   rotate_left
   ·intro w_ hSw; have q0 := (hSw.cell (p := ⟨w3.heap.size, 0, none⟩) z3).trans m0; have q1 := (hSw.cell (p := ⟨w3.heap.size, 1, none⟩) z3).trans m1; have q2 := (hSw.cell (p := ⟨w3.heap.size, 2, none⟩) z3).trans m2; have q3 := (hSw.cell (p := ⟨w3.heap.size, 3, none⟩) z3).trans m3; have q4 := (hSw.cell (p := ⟨w3.heap.size, 4, none⟩) z3).trans m4; have q5 := (hSw.cell (p := ⟨w3.heap.size, 5, none⟩) z3).trans m5; have q6 := (hSw.cell (p := ⟨w3.heap.size, 6, none⟩) z3).trans m6; clear hSw; go_simp <;> (with_reducible rfl)
   try simp only [Act.put, p1, p2, p3, p4, p5, p6]
   refine tk0 15 rfl ?_ ?_ ?_
   rotate_left
   ·intro; go_simp <;> with_reducible rfl
   try simp only [Act.put, p1, p2, p3, p4, p5, p6]
   refine tk 16 rfl ?_ ?_ ?_
   rotate_left
   ·intro w_ hSw; have q0 := (hSw.cell (p := ⟨w3.heap.size, 2, none⟩) z3).trans m2; clear hSw; go_simp <;> (with_reducible rfl)
   try simp only [Act.put, p1, p2, p3, p4, p5, p6]
   refine tk0 17 rfl ?_ ?_ ?_
   rotate_left
   ·intro; go_simp <;> with_reducible rfl
   try simp only [Act.put, p1, p2, p3, p4, p5, p6]
   refine tk0 18 rfl ?_ ?_ ?_
   rotate_left
   ·intro; go_simp <;> with_reducible rfl
   try simp only [Act.put, p1, p2, p3, p4, p5, p6]
   refine tk 19 rfl ?_ ?_ ?_
   rotate_left
   ·intro w_ hSw; have q0 := (hSw.cell (p := ⟨w1.heap.size, 3, none⟩) y4).trans k3; clear hSw; go_simp <;> (with_reducible rfl)
   try simp only [Act.put, p1, p2, p3, p4, p5, p6]
   refine ry [4] ?_
   refine ar1 rfl fun K hK => ?_
   go_simp
   (go_at_call 17; ((with_reducible refine (CB.out _).mono ?_); rintro e w5 ⟨rfl, hb0⟩))
   go_wp2_with fail
   have hb5 := (((Below.refl w4.heap.size w4).drew)).trans (hb0.mono (((Below.refl w4.heap.size w4).drew)).size)
   clear hb0
   refine hK.out _ _ hb5 (fun hHeld => ?_)
   clear hK K
   try simp only [Act.put, p1, p2, p3, p4, p5, p6]
   refine ry [14] ?_
   refine ar1 rfl fun K hK => ?_
   go_simp
   (go_at_call 127; ((with_reducible refine (CJ.out _).mono ?_); rintro e w6 ⟨rfl, hb0⟩))
   go_wp2_with fail
   have hb6 := (hb5).trans (hb0.mono (hb5).size)
   clear hb0
   refine hK.out _ _ hb6 (fun hHeld => ?_)
   clear hK K
   try simp only [Act.put, p1, p2, p3, p4, p5, p6]
   refine ry [20] ?_
   refine ar1 rfl fun K hK => ?_
   go_simp
   (go_at_call 103; ((with_reducible refine (PT.out _ (B4.out.trans (hb6.mono B4.out.size))).mono ?_); rintro e w7 ⟨rfl, rfl⟩))
   go_wp2_with fail
   refine hK.out _ _ hb6 (fun hHeld => ?_)
   clear hK K
   try simp only [Act.put, p1, p2, p3, p4, p5, p6]
   refine ry [21] ?_
   refine ar1 rfl fun K hK => ?_
   go_simp
   (go_at_call 126; ((with_reducible refine (CT.out _).mono ?_); rintro e w8 ⟨rfl, hb0⟩))
   go_wp2_with fail
   have hb8 := (hb6).trans (hb0.mono (hb6).size)
   clear hb0
   refine hK.out _ _ hb8 (fun hHeld => ?_)
   clear hK K
   try simp only [Act.put, p1, p2, p3, p4, p5, p6]
   refine tk0 22 rfl ?_ ?_ ?_
   rotate_left
   ·intro; go_simp <;> with_reducible rfl
   try simp only [Act.put, p1, p2, p3, p4, p5, p6]
   refine wpAnyT_done (by kernel_rfl) ?_ _
   go_wp2
   go_ret
   exact ⟨rfl, B4.out.trans (hb8.mono B4.out.size)⟩
 ·have b1 : (c.kind != 1) = true := by rw [bne_iff_ne]; exact h1
  have HV : Hid (0 = x) := lh (by rw [← HX.out]; unfold toPlaceV; rw [if_neg h1])
  clear HX h1 hs1 hs2 hov0 hov1 hr hN hn hbl
  go_enter Tryz.func102, Tryz.ntmps102
  go_upto_region 2 with (go_at_call 100; ((with_reducible refine (CN.out).mono ?_); rintro e w1 ⟨rfl, hb⟩; have B1 := lh hb; have hl1 := Nat.lt_of_lt_of_le hlt hb.size; have d10 := (hb.cell (p := ⟨g, 10, none⟩) hlt).trans d10; clear hb))
  obtain ⟨y1, y2, y3⟩ := k.boxes1 (w := w1) (c1 := cA c) (t1 := 62) (Below.refl _ _)
  have D : Hid (k.Box _ w1.heap.size 0 (cC c)) := lh y1
  have B2 := lh (B1.out.trans (y2.mono B1.out.size))
  have d10 := (y2.cell (p := ⟨g, 10, none⟩) hl1).trans d10
  have hl2 := Nat.lt_of_lt_of_le hl1 y2.size
  clear y1 y2
  generalize w1.alloc (.cells #[.int .i64 c.id, .int .i64 c.kind, .int .i64 c.tgt, .int .i64 c.spd, .int .i64 c.mode, .int .i64 c.num, .int .i64 c.den] 62) = w2 at D B2 d10 hl2 y3 ⊢
  have ⟨k1, k1f⟩ := k.cell_of D.out (i := 1) rfl
  go_wp2
  go_ret
  exact ⟨ret_int HV.out, B2.out⟩
end
end Go.Proofs.YtijlccblabadaaaGreat.cx
end
section
namespace Go.Proofs.YtijlccblabadaaaGreat.cx
open Go.ChangeShapes Go.WideShapes Go.ChangeAt Go.RowKit Go.Proofs.YtijlccblabadaaaGreat.k Go.Proofs.YtijlccblabadaaaGreat.rr Go.Proofs.YtijlccblabadaaaGreat.ax
open Go.Proofs.YtijlccblabadaaaGreat.ln (C RdC RdI iC cC cV lnV)
set_option linter.unusedVariables false
set_option maxRecDepth 100000
theorem field_spd (n : C) (w : World) : (Instr.field 62 (.agg #[.int .i64 n.id, .int .i64 n.kind, .int .i64 n.tgt, .int .i64 n.spd, .int .i64 n.mode, .int .i64 n.num, .int .i64 n.den]) 3).run Tryz.prog w = .ok (.int .i64 n.spd) w := by kernel_rfl
theorem want4 {a : Ax} (hr : RightA a) (h4 : a.st = 4) {c : C} {t : List C} (hN : a.N = c :: t) (i : In) : wantsV a i = toPlaceV a c (a.W.head?.getD ln.zeroC) ∧ wantsA a i = a := by
 have h2 : ¬ a.st = 2 := by omega
 have h5 : ¬ a.st = 5 := by omega
 have h6 : ¬ a.st = 6 := by omega
 refine ⟨?_, by unfold wantsA; rw [if_neg h2, hN]; dsimp only; rw [if_neg h6]⟩
 unfold wantsV toPlaceV
 rw [if_neg h2, hN]
 dsimp only
 rw [if_neg h5, if_neg h6]
 by_cases h1 : c.kind = 1
 ·rw [if_pos ⟨h4, h1⟩, if_pos h1]
  cases hW : a.W with
  | nil =>
   have hb : ¬ ByP a := fun hb => by have := hb.2; rw [hN, hW] at this; exact this
   have hb2 : blendsB a a.p = false := by unfold blendsB; rw [hN, hW]
   rw [if_neg hb, hb2]
   rfl
  | cons n s =>
   by_cases hb : ByP a
   ·have hb1 := hb.2
    rw [hN, hW] at hb1
    dsimp only at hb1
    have hb2 : blendsB a a.p = true := by
     unfold blendsB
     rw [hN, hW]
     dsimp only
     rw [decide_eq_true hb1.2.1, decide_eq_true (show beyP a.p c.tgt n.tgt from hb1.2.2)]
     rfl
    rw [if_pos hb, hb2]
    dsimp only
    rw [if_pos rfl, ← by_same (bounds_right hr.limits).2.2.2.2.1]
    rfl
   ·have hb2 : blendsB a a.p = false := by
     unfold blendsB
     rw [hN, hW]
     dsimp only
     rw [Bool.and_eq_false_iff]
     by_cases hma : 2 ≤ n.mode
     ·right
      exact decide_eq_false fun hbe => hb ⟨h4, by rw [hN, hW]; exact ⟨h1, hma, hbe⟩⟩
     ·left
      exact decide_eq_false hma
    rw [if_neg hb, hb2]
    rfl
 ·rw [if_neg fun h => h1 h.2, if_neg h1]
theorem want_else {a : Ax} (hs : a.st ≠ 2 ∧ a.st ≠ 4 ∧ a.st ≠ 5 ∧ a.st ≠ 6) (i : In) : wantsV a i = 0 ∧ wantsA a i = a := by
 have h2 : ¬ a.st = 2 := by omega
 have h5 : ¬ a.st = 5 := by omega
 have h6 : ¬ a.st = 6 := by omega
 unfold wantsV wantsA
 rw [if_neg h2, if_neg h2]
 cases a.N with
 | nil => exact ⟨rfl, rfl⟩
 | cons c t =>
  dsimp only
  rw [if_neg h5, if_neg h6, if_neg h6, if_neg (fun h => by omega)]
  exact ⟨rfl, rfl⟩
section
variable {base g : Nat} {i : In} {L : Sl} {a : Ax} {R : List Rp} {fr pa : Bool} {w : World} {tb : Option Nat}
set_option maxHeartbeats 8000000 in
theorem want_any (h : Cyc base g i L tb a R fr pa w) (hr : RightA a) (hk : KeepW a) (hma : InR i.master) {V : Int} (hV : wantsV a i = V) {a' : Ax} (hA : wantsA a i = a') :
  Calls Tryz.prog 74 #[.pointer (some ⟨g, 0, none⟩)] w fun e w' => e = .returned (.int .i64 V) ∧ Did base g i L tb w a' R fr pa w' := by
 have HC := lh h
 have hlt := h.lt
 have hlim := hr.limits
 obtain ⟨S, N, W, T, h0, ht⟩ := h
 have H0 := lh h0
 have ⟨d0, d0f⟩ := k.cell_of h0.box (i := 0) rfl
 clear h0
 by_cases h4 : a.st = 4
 ·have b4 : (a.st == 4) = true := by rw [h4]; rfl
  have hl := hr.lined
  cases hN : a.N with
  | nil => have := none_lined hl hN; omega
  | cons c t =>
   have h1l := one_lined hl hN
   obtain ⟨e1, e2⟩ := want4 hr h4 hN i
   rw [hA] at e2
   subst e2
   have hwc : WideC c := hk.cmds c (by rw [hN]; simp)
   have hwn : InR (a'.W.head?.getD ln.zeroC).spd ∧ InR (a'.W.head?.getD ln.zeroC).tgt := by
    cases hW : a'.W with
    | nil => exact ⟨by decide, by decide⟩
    | cons n s => have := hk.cmds n (by rw [hW]; simp); exact ⟨this.spd, this.tgt⟩
   have CT := lh (toplace_any HC.out hr hN rfl (fun hk1 => by unfold Lined1 MoveP at h1l; have := hlim.2.1; exact ⟨by omega, by omega, hwc.tgt⟩) hwn (e1.symm.trans hV))
   clear e1 hV hA hwc hwn h1l hl hN hr hk hlim h4 hma
   go_enter Tryz.func74, Tryz.ntmps74
   go_wp2_with (go_at_call 102; ((with_reducible refine (CT.out).mono ?_); rintro e w1 ⟨rfl, hb⟩; have B1 := lh hb; clear hb))
   go_ret
   exact ⟨rfl, tb, HC.out.below B1.out, (Fx.refl g tb w).below B1.out⟩
 have b4 : (a.st == 4) = false := by rw [beq_eq_false_iff_ne]; exact h4
 by_cases h5 : a.st = 5
 ·have b5 : (a.st == 5) = true := by rw [h5]; rfl
  have hl := hr.lined
  cases hN : a.N with
  | nil => have := none_lined hl hN; omega
  | cons c t =>
   have h1l := one_lined hl hN
   have e1 : wantsV a i = spdOf a c := by unfold wantsV; rw [if_neg (show ¬ a.st = 2 by omega), hN]; dsimp only; rw [if_pos h5]
   have e2 : wantsA a i = a := by unfold wantsA; rw [if_neg (show ¬ a.st = 2 by omega), hN]; dsimp only; rw [if_neg (show ¬ a.st = 6 by omega)]
   rw [hA] at e2
   subst e2
   have CN := lh (now_any HC.out hN)
   unfold cV at CN
   have CP := lh fun (U : World) (hb : Below w.heap.size w U) => part_any (HC.out.below hb) (v := c.spd) (by unfold Lined1 MoveP at h1l; have := hlim.2.1; omega) (by unfold Lined1 MoveP at h1l; have := hlim.2.1; omega) hr.ov0 hr.ov1 (x := V) (e1.symm.trans hV)
   have FS := field_spd c
   clear e1 hV hA h1l hl hN hr hk hlim h5 h4 hma
   go_enter Tryz.func74, Tryz.ntmps74
   go_wp2_with (first | (go_at_call 100; ((with_reducible refine (CN.out).mono ?_); rintro e w1 ⟨rfl, hb⟩; have B1 := lh hb; clear hb)) | (go_at_call 103; ((with_reducible refine (CP.out _ B1.out).mono ?_); rintro e w2 ⟨rfl, rfl⟩)))
   go_ret
   exact ⟨rfl, tb, HC.out.below B1.out, (Fx.refl g tb w).below B1.out⟩
 have b5 : (a.st == 5) = false := by rw [beq_eq_false_iff_ne]; exact h5
 by_cases h6 : a.st = 6
 ·have b6 : (a.st == 6) = true := by rw [h6]; rfl
  have hl := hr.lined
  cases hN : a.N with
  | nil => have := none_lined hl hN; omega
  | cons c t =>
   have e1 : wantsV a i = gx.wantV a.p a.start a.master i.master c.num c.den := by unfold wantsV; rw [if_neg (show ¬ a.st = 2 by omega), hN]; dsimp only; rw [if_neg h5, if_pos h6]
   have e2 : wantsA a i = { a with instep := gx.wantB (bounds a) a.p a.v a.start a.master i.master c.num c.den } := by unfold wantsA; rw [if_neg (show ¬ a.st = 2 by omega), hN]; dsimp only; rw [if_pos h6]
   rw [hA] at e2
   subst e2
   rw [hV] at e1
   have hwc : WideC c := hk.cmds c (by rw [hN]; simp)
   have CN := lh (now_any HC.out hN)
   unfold cV at CN
   have CB := lh fun U => bounds_any a S N W U
   have hbr := bounds_right hlim
   have hpi := place_in hr
   have hvi := hr.safe.2.2
   have CW := fun U => gx.want_any (bounds a).V (bounds a).A (bounds a).D (bounds a).lo (bounds a).hi a.p a.v (small (by have := hbr.1; omega) (by have := hbr.2.1; omega)) (small (by have := hbr.2.2.1; omega) (by have := hbr.2.2.2.1; omega)) (small (by have := hbr.2.2.2.2.1; omega) (by have := hbr.2.2.2.2.2.1; omega)) (small (by have := hbr.2.2.2.2.2.2; omega) (by have := hbr.2.2.2.2.2.2; omega)) (small (by have := hbr.2.2.2.2.2.2; omega) (by have := hbr.2.2.2.2.2.2; omega)) (small (by omega) (by omega)) (small (by omega) (by omega)) a.start a.master i.master c.num c.den hk.start hk.master hma hwc.num hwc.den U
   rw [← e1] at CW
   obtain ⟨ib, hib⟩ : ∃ z, gx.wantB (bounds a) a.p a.v a.start a.master i.master c.num c.den = z := ⟨_, rfl⟩
   rw [show (⟨(bounds a).V, (bounds a).A, (bounds a).D, (bounds a).lo, (bounds a).hi⟩ : Lm) = bounds a from rfl, hib] at CW
   rw [hib]
   have CW := lh CW
   generalize bounds a = lb at CB CW
   clear e1 hV hA hl hN hr hk hlim h6 h5 h4 hma hib hwc hbr hpi hvi
   go_enter Tryz.func74, Tryz.ntmps74
   go_upto_region 8 with (go_at_call 100; ((with_reducible refine (CN.out).mono ?_); rintro e w1 ⟨rfl, hb⟩; have B1 := lh hb; have hl1 := Nat.lt_of_lt_of_le hlt hb.size; clear hb))
   obtain ⟨y1, y2, y3⟩ := k.boxes1 (w := w1) (c1 := cA c) (t1 := 62) (Below.refl _ _)
   have D : Hid (k.Box _ w1.heap.size 0 (cC c)) := lh y1
   have B2 := lh (B1.out.trans (y2.mono B1.out.size))
   clear y1 y2 d0 d0f
   generalize w1.alloc (.cells #[.int .i64 c.id, .int .i64 c.kind, .int .i64 c.tgt, .int .i64 c.spd, .int .i64 c.mode, .int .i64 c.num, .int .i64 c.den] 62) = w2 at D B2 y3 ⊢
   have H2 := lh (H0.out.below B2.out)
   have hl2 := H2.out.lt
   have ⟨k5, k5f⟩ := k.cell_of D.out (i := 5) rfl
   have ⟨k6, k6f⟩ := k.cell_of D.out (i := 6) rfl
   have ⟨d10, d10f⟩ := k.cell_of H2.out.box (i := 10) rfl
   have ⟨d11, d11f⟩ := k.cell_of H2.out.box (i := 11) rfl
   have ⟨d22, d22f⟩ := k.cell_of H2.out.box (i := 22) rfl
   have ⟨d23, d23f⟩ := k.cell_of H2.out.box (i := 23) rfl
   have ⟨d36, d36f⟩ := k.cell_of H2.out.box (i := 36) rfl
   refine wp_region_T (by kernel_rfl) (fun w' => Below w2.heap.size w2 w') [] (Below.refl _ _).drew (fun hHeld => ?_)
   refine tk0 0 rfl ?_ ?_ ?_
   rotate_left
   ·intro; go_simp <;> with_reducible rfl
   try simp only [Act.put, p1, p2, p3, p4, p6]
   refine tk0 1 rfl ?_ ?_ ?_
   rotate_left
   ·intro; go_simp <;> with_reducible rfl
   try simp only [Act.put, p1, p2, p3, p4, p5, p6]
   refine tk0 2 rfl ?_ ?_ ?_
   rotate_left
   ·intro; go_simp <;> with_reducible rfl
   try simp only [Act.put, p1, p2, p3, p4, p5, p6]
   refine tkv 3 rfl (axV a S N W) (by exact m_y_ax H2.out.ax hl2 31 rfl rfl rfl) ?_
   try simp only [Act.put, p1, p2, p3, p4, p5, p6]
   refine tk0 5 rfl ?_ ?_ ?_
   rotate_left
   ·intro; go_simp <;> with_reducible rfl
   try simp only [Act.put, p1, p2, p3, p4, p5, p6]
   refine tk0 6 rfl ?_ ?_ ?_
   rotate_left
   ·intro; go_simp <;> with_reducible rfl
   try simp only [Act.put, p1, p2, p3, p4, p5, p6]
   refine tk0 7 rfl ?_ ?_ ?_
   rotate_left
   ·intro; go_simp <;> with_reducible rfl
   try simp only [Act.put, p1, p2, p3, p4, p5, p6]
   refine tk0 8 rfl ?_ ?_ ?_
   rotate_left
   ·intro; go_simp <;> with_reducible rfl
   try simp only [Act.put, p1, p2, p3, p4, p5, p6]
   refine tk 9 rfl ?_ ?_ ?_
   rotate_left
   ·intro w_ hSw; have q0 := (hSw.cell (p := ⟨g, 10, none⟩) hl2).trans d10; have q1 := (hSw.cell (p := ⟨g, 11, none⟩) hl2).trans d11; clear hSw; go_simp <;> (with_reducible rfl)
   try simp only [Act.put, p1, p2, p3, p4, p5, p6]
   refine tk0 10 rfl ?_ ?_ ?_
   rotate_left
   ·intro; go_simp <;> with_reducible rfl
   try simp only [Act.put, p1, p2, p3, p4, p5, p6]
   refine tk0 11 rfl ?_ ?_ ?_
   rotate_left
   ·intro; go_simp <;> with_reducible rfl
   try simp only [Act.put, p1, p2, p3, p4, p5, p6]
   refine tk0 12 rfl ?_ ?_ ?_
   rotate_left
   ·intro; go_simp <;> with_reducible rfl
   try simp only [Act.put, p1, p2, p3, p4, p5, p6]
   refine tk0 13 rfl ?_ ?_ ?_
   rotate_left
   ·intro; go_simp <;> with_reducible rfl
   try simp only [Act.put, p1, p2, p3, p4, p5, p6]
   refine tk 14 rfl ?_ ?_ ?_
   rotate_left
   ·intro w_ hSw; have q0 := (hSw.cell (p := ⟨g, 22, none⟩) hl2).trans d22; clear hSw; go_simp <;> (with_reducible rfl)
   try simp only [Act.put, p1, p2, p3, p4, p5, p6]
   refine tk0 15 rfl ?_ ?_ ?_
   rotate_left
   ·intro; go_simp <;> with_reducible rfl
   try simp only [Act.put, p1, p2, p3, p4, p5, p6]
   refine tk0 16 rfl ?_ ?_ ?_
   rotate_left
   ·intro; go_simp <;> with_reducible rfl
   try simp only [Act.put, p1, p2, p3, p4, p5, p6]
   refine tk0 17 rfl ?_ ?_ ?_
   rotate_left
   ·intro; go_simp <;> with_reducible rfl
   try simp only [Act.put, p1, p2, p3, p4, p5, p6]
   refine tk0 18 rfl ?_ ?_ ?_
   rotate_left
   ·intro; go_simp <;> with_reducible rfl
   try simp only [Act.put, p1, p2, p3, p4, p5, p6]
   refine tk 19 rfl ?_ ?_ ?_
   rotate_left
   ·intro w_ hSw; have q0 := (hSw.cell (p := ⟨g, 23, none⟩) hl2).trans d23; clear hSw; go_simp <;> (with_reducible rfl)
   try simp only [Act.put, p1, p2, p3, p4, p5, p6]
   refine tk0 20 rfl ?_ ?_ ?_
   rotate_left
   ·intro; go_simp <;> with_reducible rfl
   try simp only [Act.put, p1, p2, p3, p4, p5, p6]
   refine tk0 21 rfl ?_ ?_ ?_
   rotate_left
   ·intro; go_simp <;> with_reducible rfl
   try simp only [Act.put, p1, p2, p3, p4, p5, p6]
   refine tk0 22 rfl ?_ ?_ ?_
   rotate_left
   ·intro; go_simp <;> with_reducible rfl
   try simp only [Act.put, p1, p2, p3, p4, p5, p6]
   refine tk0 23 rfl ?_ ?_ ?_
   rotate_left
   ·intro; go_simp <;> with_reducible rfl
   try simp only [Act.put, p1, p2, p3, p4, p5, p6]
   refine tk 24 rfl ?_ ?_ ?_
   rotate_left
   ·intro w_ hSw; have q0 := (hSw.cell (p := ⟨g, 36, none⟩) hl2).trans d36; clear hSw; go_simp <;> (with_reducible rfl)
   try simp only [Act.put, p1, p2, p3, p4, p5, p6]
   refine tk0 25 rfl ?_ ?_ ?_
   rotate_left
   ·intro; go_simp <;> with_reducible rfl
   try simp only [Act.put, p1, p2, p3, p4, p5, p6]
   refine tk 26 rfl ?_ ?_ ?_
   rotate_left
   ·intro w_ hSw; have q0 := (hSw.cell (p := ⟨w1.heap.size, 5, none⟩) y3).trans k5; clear hSw; go_simp <;> (with_reducible rfl)
   try simp only [Act.put, p1, p2, p3, p4, p5, p6]
   refine tk0 27 rfl ?_ ?_ ?_
   rotate_left
   ·intro; go_simp <;> with_reducible rfl
   try simp only [Act.put, p1, p2, p3, p4, p5, p6]
   refine tk 28 rfl ?_ ?_ ?_
   rotate_left
   ·intro w_ hSw; have q0 := (hSw.cell (p := ⟨w1.heap.size, 6, none⟩) y3).trans k6; clear hSw; go_simp <;> (with_reducible rfl)
   try simp only [Act.put, p1, p2, p3, p4, p5, p6]
   refine ry [4] ?_
   refine ar1 rfl fun K hK => ?_
   go_simp
   (go_at_call 17; ((with_reducible refine (CB.out _).mono ?_); rintro e w5 ⟨rfl, hb0⟩))
   go_wp2_with fail
   have hb5 := (((Below.refl w2.heap.size w2).drew)).trans (hb0.mono (((Below.refl w2.heap.size w2).drew)).size)
   clear hb0
   refine hK.out _ _ hb5 (fun hHeld => ?_)
   clear hK K
   try simp only [Act.put, p1, p2, p3, p4, p5, p6]
   refine ry [29] ?_
   refine ar1 rfl fun K hK => ?_
   go_simp
   (go_at_call 104; ((with_reducible refine (CW.out _).mono ?_); rintro e w6 ⟨rfl, hb0⟩))
   go_wp2_with fail
   have hb6 := (hb5).trans (hb0.mono (hb5).size)
   clear hb0
   refine hK.out _ _ hb6 (fun hHeld => ?_)
   clear hK K
   try simp only [Act.put, p1, p2, p3, p4, p5, p6]
   refine tk0 30 rfl ?_ ?_ ?_
   rotate_left
   ·intro; go_simp <;> with_reducible rfl
   try simp only [Act.put, p1, p2, p3, p4, p5, p6]
   refine tk0 31 rfl ?_ ?_ ?_
   rotate_left
   ·intro; go_simp <;> with_reducible rfl
   try simp only [Act.put, p1, p2, p3, p4, p5, p6]
   refine tk0 32 rfl ?_ ?_ ?_
   rotate_left
   ·intro; go_simp <;> with_reducible rfl
   try simp only [Act.put, p1, p2, p3, p4, p5, p6]
   refine tk0 33 rfl ?_ ?_ ?_
   rotate_left
   ·intro; go_simp <;> with_reducible rfl
   try simp only [Act.put, p1, p2, p3, p4, p5, p6]
   refine tk0 34 rfl ?_ ?_ ?_
   rotate_left
   ·intro; go_simp <;> with_reducible rfl
   try simp only [Act.put, p1, p2, p3, p4, p5, p6]
   refine wpAnyT_done (by kernel_rfl) ?_ _
   have H6 := lh (H2.out.below hb6)
   have B6 := lh (B2.out.trans (hb6.mono B2.out.size))
   clear d10 d10f d11 d11f d22 d22f d23 d23f d36 d36f k5 k5f k6 k6f
   have ⟨e25, e25f⟩ := k.cell_of H6.out.box (i := 25) rfl
   go_wp2
   go_ret
   have ho := (Only.refl g w6).set 25 (.bool ib)
   have h7 := H6.out.as (a' := { a with instep := ib }) ho (k.Box.put H6.out.box 25 (by simp) _) rfl rfl rfl
   exact ⟨rfl, tb, ⟨_, _, _, _, h7, ht⟩, ((Fx.refl g tb w).below B6.out).only ho⟩
 have b6 : (a.st == 6) = false := by rw [beq_eq_false_iff_ne]; exact h6
 by_cases h2 : a.st = 2
 ·have b2 : (a.st == 2) = true := by rw [h2]; rfl
  have hrh := hr.search h2
  obtain ⟨hn, hhn⟩ : ∃ z, hm.stepHN a.h i.home i.plus i.minus (decide (a.v = 0)) = z := ⟨_, rfl⟩
  have e1 : wantsV a i = hm.stepHV a.h i.home i.plus i.minus (decide (a.v = 0)) := by
   unfold wantsV
   rw [if_pos h2]
   by_cases hp : a.h.ph < 4
   ·rw [if_pos hp]; exact (if_pos hrh).symm
   ·rw [if_neg hp, show hm.stepHV a.h i.home i.plus i.minus (decide (a.v = 0)) = hm.stepV a.h i.home i.plus i.minus (decide (a.v = 0)) from if_pos hrh]; exact (hm.step_over (h := a.h) (by omega) _ _ _ _).2.symm
  have e2 : wantsA a i = { a with h := hn } := by
   rw [← hhn]
   unfold wantsA
   rw [if_pos h2]
   by_cases hp : a.h.ph < 4
   ·rw [if_pos hp, show hm.stepHN a.h i.home i.plus i.minus (decide (a.v = 0)) = hm.stepN a.h i.home i.plus i.minus (decide (a.v = 0)) from if_pos hrh]
   ·rw [if_neg hp, show hm.stepHN a.h i.home i.plus i.minus (decide (a.v = 0)) = hm.stepN a.h i.home i.plus i.minus (decide (a.v = 0)) from if_pos hrh, (hm.step_over (h := a.h) (by omega) _ _ _ _).1]
  rw [hA] at e2
  subst e2
  rw [hV] at e1
  obtain ⟨sb, hsb⟩ : ∃ z, decide (a.v = 0) = z := ⟨_, rfl⟩
  have CS := fun U => hm.step_any a.h i.home i.plus i.minus (decide (a.v = 0)) U
  rw [hhn, ← e1, hsb] at CS
  have bv : (a.v == 0) = sb := by rw [← hsb]; rfl
  unfold hm.hV at CS
  have CS := lh CS
  clear e1 hV hA hr hk hlim hrh h2 h4 h5 h6 hhn hma hsb
  go_enter Tryz.func74, Tryz.ntmps74
  go_upto_region 12 with fail
  clear d0 d0f
  have ⟨d17, d17f⟩ := k.cell_of H0.out.box (i := 17) rfl
  have ⟨d18, d18f⟩ := k.cell_of H0.out.box (i := 18) rfl
  have ⟨d19, d19f⟩ := k.cell_of H0.out.box (i := 19) rfl
  have ⟨d20, d20f⟩ := k.cell_of H0.out.box (i := 20) rfl
  have ⟨d32, d32f⟩ := k.cell_of H0.out.box (i := 32) rfl
  have ⟨d30, d30f⟩ := k.cell_of H0.out.box (i := 30) rfl
  have ⟨d31, d31f⟩ := k.cell_of H0.out.box (i := 31) rfl
  have ⟨d11, d11f⟩ := k.cell_of H0.out.box (i := 11) rfl
  refine wp_region_T (by kernel_rfl) (fun w' => Below w.heap.size w w') [] (Below.refl _ _).drew (fun hHeld => ?_)
  refine tk0 0 rfl ?_ ?_ ?_
  rotate_left
  ·intro; go_simp <;> with_reducible rfl
  try simp only [Act.put, p1, p2, p3, p4, p6]
  refine tk0 1 rfl ?_ ?_ ?_
  rotate_left
  ·intro; go_simp <;> with_reducible rfl
  try simp only [Act.put, p1, p2, p3, p4, p5, p6]
  refine tk0 2 rfl ?_ ?_ ?_
  rotate_left
  ·intro; go_simp <;> with_reducible rfl
  try simp only [Act.put, p1, p2, p3, p4, p5, p6]
  refine tk0 3 rfl ?_ ?_ ?_
  rotate_left
  ·intro; go_simp <;> with_reducible rfl
  try simp only [Act.put, p1, p2, p3, p4, p5, p6]
  refine tk 4 rfl ?_ ?_ ?_
  rotate_left
  ·intro w_ hSw; have q0 := (hSw.cell (p := ⟨g, 17, none⟩) hlt).trans d17; have q1 := (hSw.cell (p := ⟨g, 18, none⟩) hlt).trans d18; have q2 := (hSw.cell (p := ⟨g, 19, none⟩) hlt).trans d19; have q3 := (hSw.cell (p := ⟨g, 20, none⟩) hlt).trans d20; clear hSw; go_simp <;> (with_reducible rfl)
  try simp only [Act.put, p1, p2, p3, p4, p5, p6]
  refine tk0 5 rfl ?_ ?_ ?_
  rotate_left
  ·intro; go_simp <;> with_reducible rfl
  try simp only [Act.put, p1, p2, p3, p4, p5, p6]
  refine tk0 6 rfl ?_ ?_ ?_
  rotate_left
  ·intro; go_simp <;> with_reducible rfl
  try simp only [Act.put, p1, p2, p3, p4, p5, p6]
  refine tk0 7 rfl ?_ ?_ ?_
  rotate_left
  ·intro; go_simp <;> with_reducible rfl
  try simp only [Act.put, p1, p2, p3, p4, p5, p6]
  refine tk0 8 rfl ?_ ?_ ?_
  rotate_left
  ·intro; go_simp <;> with_reducible rfl
  try simp only [Act.put, p1, p2, p3, p4, p5, p6]
  refine tk 9 rfl ?_ ?_ ?_
  rotate_left
  ·intro w_ hSw; have q0 := (hSw.cell (p := ⟨g, 32, none⟩) hlt).trans d32; clear hSw; go_simp <;> (with_reducible rfl)
  try simp only [Act.put, p1, p2, p3, p4, p5, p6]
  refine tk0 10 rfl ?_ ?_ ?_
  rotate_left
  ·intro; go_simp <;> with_reducible rfl
  try simp only [Act.put, p1, p2, p3, p4, p5, p6]
  refine tk0 11 rfl ?_ ?_ ?_
  rotate_left
  ·intro; go_simp <;> with_reducible rfl
  try simp only [Act.put, p1, p2, p3, p4, p5, p6]
  refine tk0 12 rfl ?_ ?_ ?_
  rotate_left
  ·intro; go_simp <;> with_reducible rfl
  try simp only [Act.put, p1, p2, p3, p4, p5, p6]
  refine tk0 13 rfl ?_ ?_ ?_
  rotate_left
  ·intro; go_simp <;> with_reducible rfl
  try simp only [Act.put, p1, p2, p3, p4, p5, p6]
  refine tk 14 rfl ?_ ?_ ?_
  rotate_left
  ·intro w_ hSw; have q0 := (hSw.cell (p := ⟨g, 30, none⟩) hlt).trans d30; clear hSw; go_simp <;> (with_reducible rfl)
  try simp only [Act.put, p1, p2, p3, p4, p5, p6]
  refine tk0 15 rfl ?_ ?_ ?_
  rotate_left
  ·intro; go_simp <;> with_reducible rfl
  try simp only [Act.put, p1, p2, p3, p4, p5, p6]
  refine tk0 16 rfl ?_ ?_ ?_
  rotate_left
  ·intro; go_simp <;> with_reducible rfl
  try simp only [Act.put, p1, p2, p3, p4, p5, p6]
  refine tk0 17 rfl ?_ ?_ ?_
  rotate_left
  ·intro; go_simp <;> with_reducible rfl
  try simp only [Act.put, p1, p2, p3, p4, p5, p6]
  refine tk0 18 rfl ?_ ?_ ?_
  rotate_left
  ·intro; go_simp <;> with_reducible rfl
  try simp only [Act.put, p1, p2, p3, p4, p5, p6]
  refine tk 19 rfl ?_ ?_ ?_
  rotate_left
  ·intro w_ hSw; have q0 := (hSw.cell (p := ⟨g, 31, none⟩) hlt).trans d31; clear hSw; go_simp <;> (with_reducible rfl)
  try simp only [Act.put, p1, p2, p3, p4, p5, p6]
  refine tk0 20 rfl ?_ ?_ ?_
  rotate_left
  ·intro; go_simp <;> with_reducible rfl
  try simp only [Act.put, p1, p2, p3, p4, p5, p6]
  refine tk0 21 rfl ?_ ?_ ?_
  rotate_left
  ·intro; go_simp <;> with_reducible rfl
  try simp only [Act.put, p1, p2, p3, p4, p5, p6]
  refine tk0 22 rfl ?_ ?_ ?_
  rotate_left
  ·intro; go_simp <;> with_reducible rfl
  try simp only [Act.put, p1, p2, p3, p4, p5, p6]
  refine tk0 23 rfl ?_ ?_ ?_
  rotate_left
  ·intro; go_simp <;> with_reducible rfl
  try simp only [Act.put, p1, p2, p3, p4, p5, p6]
  refine tk0 24 rfl ?_ ?_ ?_
  rotate_left
  ·intro; go_simp <;> with_reducible rfl
  try simp only [Act.put, p1, p2, p3, p4, p5, p6]
  refine tk 25 rfl ?_ ?_ ?_
  rotate_left
  ·intro w_ hSw; have q0 := (hSw.cell (p := ⟨g, 11, none⟩) hlt).trans d11; clear hSw; go_simp <;> (with_reducible rfl)
  try simp only [Act.put, p1, p2, p3, p4, p5, p6]
  refine tk0 26 rfl ?_ ?_ ?_
  rotate_left
  ·intro; go_simp <;> with_reducible rfl
  try simp only [Act.put, p1, p2, p3, p4, p5, p6]
  refine ry [27, 31] ?_
  refine AllReadyT.cons rfl (fun K hK => ?_) (AllReadyT.cons rfl (fun K hK => ?_) AllReadyT.nil)
  ·skip
   go_simp
   (go_at_call 105; ((with_reducible refine (CS.out _).mono ?_); rintro e w5 ⟨rfl, hb0⟩))
   go_wp2_with fail
   have hb5 := (((Below.refl w.heap.size w).drew)).trans (hb0.mono (((Below.refl w.heap.size w).drew)).size)
   clear hb0
   refine hK.out _ _ hb5 (fun hHeld => ?_)
   clear hK K
   try simp only [Act.put, p1, p2, p3, p4, p5, p6]
   refine tk0 28 rfl ?_ ?_ ?_
   rotate_left
   ·intro; go_simp <;> with_reducible rfl
   try simp only [Act.put, p1, p2, p3, p4, p5, p6]
   refine tk0 29 rfl ?_ ?_ ?_
   rotate_left
   ·intro; go_simp <;> with_reducible rfl
   try simp only [Act.put, p1, p2, p3, p4, p5, p6]
   refine tk0 30 rfl ?_ ?_ ?_
   rotate_left
   ·intro; go_simp <;> with_reducible rfl
   try simp only [Act.put, p1, p2, p3, p4, p5, p6]
   refine ry [31] ?_
   refine ar1 rfl fun K hK => ?_
   go_simp
   go_wp2_with fail
   refine hK.out _ _ (hb5.alloc hb5.size _) (fun hHeld => ?_)
   clear hK K
   try simp only [Act.put, p1, p2, p3, p4, p5, p6]
   refine ry [32] ?_
   refine ar1 rfl fun K hK => ?_
   go_simp
   go_wp2_with fail
   refine hK.out _ _ (by first | exact hb5.alloc hb5.size _ | exact (((hb5.alloc hb5.size _).setCell hb5.size _).setCell hb5.size _)) (fun hHeld => ?_)
   clear hK K
   try simp only [Act.put, p1, p2, p3, p4, p5, p6]
   refine tk0 33 rfl ?_ ?_ ?_
   rotate_left
   ·intro; go_simp <;> with_reducible rfl
   try simp only [Act.put, p1, p2, p3, p4, p5, p6]
   refine wpAnyT_done (by kernel_rfl) ?_ _
   have H5 := lh (H0.out.below hb5)
   have hl5 := H5.out.lt
   clear d17 d17f d18 d18f d19 d19f d20 d20f d32 d32f d30 d30f d31 d31f d11 d11f hHeld
   have ⟨e17, e17f⟩ := k.cell_of H5.out.box (i := 17) rfl
   have ⟨e18, e18f⟩ := k.cell_of H5.out.box (i := 18) rfl
   have ⟨e19, e19f⟩ := k.cell_of H5.out.box (i := 19) rfl
   have ⟨e20, e20f⟩ := k.cell_of H5.out.box (i := 20) rfl
   go_wp2
   go_ret
   have ho := (((((Only.refl g w5).set 17 (.int .i64 hn.ph)).set 18 (.int .i64 hn.f)).set 19 (.int .i64 hn.c)).set 20 (.bool hn.tu))
   have h7 := H5.out.as (a' := { a with h := hn }) ho (k.Box.put (k.Box.put (k.Box.put (k.Box.put H5.out.box 17 (by simp) _) 18 (by simp) _) 19 (by simp) _) 20 (by simp) _) rfl rfl rfl
   have hwA : ∀ U : World, Below U.heap.size U (U.alloc (.cells #[.int .i64 hn.ph, .int .i64 hn.f, .int .i64 hn.c, .bool hn.tu] 33)) := fun U => (Below.refl U.heap.size U).alloc (Nat.le_refl _) _
   exact ⟨rfl, tb, ⟨_, _, _, _, h7.below (hwA _), ht⟩, ((((Fx.refl g tb w).below hb5).only ho).below (hwA _))⟩
  ·go_simp
   go_wp2_with fail
   have hbB := ((Below.refl w.heap.size w).alloc (Nat.le_refl _) (.cells #[.int .i64 0, .int .i64 0, .int .i64 0, .bool false] 33)).drew
   refine hK.out _ _ hbB (fun hHeld => ?_)
   clear hK K
   try simp only [Act.put, p1, p2, p3, p4, p5, p6]
   refine ry [27] ?_
   refine ar1 rfl fun K hK => ?_
   go_simp
   (go_at_call 105; ((with_reducible refine (CS.out _).mono ?_); rintro e w5 ⟨rfl, hb0⟩))
   go_wp2_with fail
   obtain ⟨y1, y2, y3⟩ := k.boxes1 (w := w) (c1 := #[.int .i64 0, .int .i64 0, .int .i64 0, .bool false]) (t1 := 33) (((Below.refl _ _).drew).trans hb0)
   have hb5 : Below w.heap.size w w5 := y2
   have X9 : Hid (k.Box w5 w.heap.size 0 [.int .i64 0, .int .i64 0, .int .i64 0, .bool false]) := lh y1
   refine hK.out _ _ hb5 (fun hHeld => ?_)
   clear hK K
   try simp only [Act.put, p1, p2, p3, p4, p5, p6]
   refine tk0 28 rfl ?_ ?_ ?_
   rotate_left
   ·intro; go_simp <;> with_reducible rfl
   try simp only [Act.put, p1, p2, p3, p4, p5, p6]
   refine tk0 29 rfl ?_ ?_ ?_
   rotate_left
   ·intro; go_simp <;> with_reducible rfl
   try simp only [Act.put, p1, p2, p3, p4, p5, p6]
   refine tk0 30 rfl ?_ ?_ ?_
   rotate_left
   ·intro; go_simp <;> with_reducible rfl
   try simp only [Act.put, p1, p2, p3, p4, p5, p6]
   have ⟨v0, v0f⟩ := k.cell_of X9.out (i := 0) rfl
   have ⟨v1, v1f⟩ := k.cell_of X9.out (i := 1) rfl
   have ⟨v2, v2f⟩ := k.cell_of X9.out (i := 2) rfl
   have ⟨v3, v3f⟩ := k.cell_of X9.out (i := 3) rfl
   refine ry [32] ?_
   refine ar1 rfl fun K hK => ?_
   go_simp
   go_wp2_with fail
   refine hK.out _ _ ((((hb5.setCell (Nat.le_refl _) _).setCell (Nat.le_refl _) _).setCell (Nat.le_refl _) _).setCell (Nat.le_refl _) _) (fun hHeld => ?_)
   clear hK K
   try simp only [Act.put, p1, p2, p3, p4, p5, p6]
   refine tk0 33 rfl ?_ ?_ ?_
   rotate_left
   ·intro; go_simp <;> with_reducible rfl
   try simp only [Act.put, p1, p2, p3, p4, p5, p6]
   refine wpAnyT_done (by kernel_rfl) ?_ _
   have yb : k.Box ((((w5.setCell ⟨w.heap.size, 0, none⟩ (.int .i64 hn.ph)).setCell ⟨w.heap.size, 1, none⟩ (.int .i64 hn.f)).setCell ⟨w.heap.size, 2, none⟩ (.int .i64 hn.c)).setCell ⟨w.heap.size, 3, none⟩ (.bool hn.tu)) w.heap.size 0 [.int .i64 hn.ph, .int .i64 hn.f, .int .i64 hn.c, .bool hn.tu] := k.Box.put (k.Box.put (k.Box.put (k.Box.put X9.out 0 (by simp) _) 1 (by simp) _) 2 (by simp) _) 3 (by simp) _
   have hbv : Below w.heap.size w ((((w5.setCell ⟨w.heap.size, 0, none⟩ (.int .i64 hn.ph)).setCell ⟨w.heap.size, 1, none⟩ (.int .i64 hn.f)).setCell ⟨w.heap.size, 2, none⟩ (.int .i64 hn.c)).setCell ⟨w.heap.size, 3, none⟩ (.bool hn.tu)) := (((hb5.setCell (Nat.le_refl _) _).setCell (Nat.le_refl _) _).setCell (Nat.le_refl _) _).setCell (Nat.le_refl _) _
   generalize ((((w5.setCell ⟨w.heap.size, 0, none⟩ (.int .i64 hn.ph)).setCell ⟨w.heap.size, 1, none⟩ (.int .i64 hn.f)).setCell ⟨w.heap.size, 2, none⟩ (.int .i64 hn.c)).setCell ⟨w.heap.size, 3, none⟩ (.bool hn.tu)) = w6 at yb hbv ⊢
   have H5 := lh (H0.out.below hbv)
   have hl5 := H5.out.lt
   clear d17 d17f d18 d18f d19 d19f d20 d20f d32 d32f d30 d30f d31 d31f d11 d11f hHeld v0 v0f v1 v1f v2 v2f v3 v3f hb0 hb5 hbB y1 y2 X9
   have ⟨e17, e17f⟩ := k.cell_of H5.out.box (i := 17) rfl
   have ⟨e18, e18f⟩ := k.cell_of H5.out.box (i := 18) rfl
   have ⟨e19, e19f⟩ := k.cell_of H5.out.box (i := 19) rfl
   have ⟨e20, e20f⟩ := k.cell_of H5.out.box (i := 20) rfl
   have ⟨v0, v0f⟩ := k.cell_of yb (i := 0) rfl
   have ⟨v1, v1f⟩ := k.cell_of yb (i := 1) rfl
   have ⟨v2, v2f⟩ := k.cell_of yb (i := 2) rfl
   have ⟨v3, v3f⟩ := k.cell_of yb (i := 3) rfl
   have HBV := lh hbv
   clear yb hbv
   go_wp2
   go_ret
   have ho := (((((Only.refl g w6).set 17 (.int .i64 hn.ph)).set 18 (.int .i64 hn.f)).set 19 (.int .i64 hn.c)).set 20 (.bool hn.tu))
   have h7 := H5.out.as (a' := { a with h := hn }) ho (k.Box.put (k.Box.put (k.Box.put (k.Box.put H5.out.box 17 (by simp) _) 18 (by simp) _) 19 (by simp) _) 20 (by simp) _) rfl rfl rfl
   exact ⟨rfl, tb, ⟨_, _, _, _, h7, ht⟩, ((Fx.refl g tb w).below HBV.out).only ho⟩
 have b2 : (a.st == 2) = false := by rw [beq_eq_false_iff_ne]; exact h2
 obtain ⟨e1, e2⟩ := want_else ⟨h2, h4, h5, h6⟩ i
 rw [hA] at e2
 subst e2
 have HV : Hid (0 = V) := lh (e1.symm.trans hV)
 clear e1 hV hA hr hk hlim h2 h4 h5 h6 hma
 go_enter Tryz.func74, Tryz.ntmps74
 go_wp2
 go_ret
 exact ⟨ret_int HV.out, Did.of HC.out⟩
end
end Go.Proofs.YtijlccblabadaaaGreat.cx
end
section
namespace Go.Proofs.YtijlccblabadaaaGreat.cx
open Go.ChangeShapes Go.WideShapes Go.ChangeAt Go.RowKit Go.Proofs.YtijlccblabadaaaGreat.k Go.Proofs.YtijlccblabadaaaGreat.rr Go.Proofs.YtijlccblabadaaaGreat.ax
open Go.Proofs.YtijlccblabadaaaGreat.ln (C RdC RdI iC cC cV lnV)
set_option linter.unusedVariables false
set_option maxRecDepth 100000
theorem passes_by {a : Ax} (hr : RightA a) (h4 : a.st = 4) {c : C} {t : List C} (hN : a.N = c :: t) (q : Int) :
  (blendsB a a.p && decide (gn.sgn q c.tgt ≠ gn.sgn a.p c.tgt)) = decide (passedP a q) := by
 cases hW : a.W with
 | nil =>
  have hb : ¬ passedP a q := fun hb => by have := hb.1.2; rw [hN, hW] at this; exact this
  rw [decide_eq_false hb]
  have hb2 : blendsB a a.p = false := by unfold blendsB; rw [hN, hW]
  rw [hb2]
  rfl
 | cons n s =>
  have hl := one_lined hr.lined hN
  have h1 : c.kind = 1 := by
   unfold Lined1 at hl
   rw [hW] at hl
   rcases hl with h | h | h | h | h
   ·exact absurd h.2.1 (by simp)
   ·exact absurd h.2.1 (by simp)
   ·exact absurd h.2.1 (by simp)
   ·exact absurd h.2.1 (by simp)
   ·rcases h.2 with h | h
    ·exact absurd h.2 (by simp)
    ·exact h.1.1
  have hbl : blendsB a a.p = (decide (2 ≤ n.mode) && decide (beyP a.p c.tgt n.tgt)) := by unfold blendsB; rw [hN, hW]
  rw [hbl, Bool.eq_iff_iff, Bool.and_eq_true, Bool.and_eq_true, decide_eq_true_eq, decide_eq_true_eq, decide_eq_true_eq, decide_eq_true_eq]
  unfold passedP ByP
  rw [hN, hW]
  dsimp only
  unfold beyP gn.sgn
  constructor
  ·rintro ⟨⟨g1, g2⟩, g3⟩
   refine ⟨⟨h4, h1, g1, g2⟩, ?_⟩
   rcases g2 with g2 | g2
   ·left
    refine ⟨g2.1, ?_⟩
    rw [if_pos g2.1] at g3
    by_cases hq : q < c.tgt
    ·rw [if_pos hq] at g3; exact absurd rfl g3
    ·omega
   ·right
    refine ⟨g2.1, ?_⟩
    have hn : ¬ a.p < c.tgt := by omega
    rw [if_neg hn, if_pos g2.1] at g3
    by_cases hq : q < c.tgt
    ·omega
    ·rw [if_neg hq] at g3
     by_cases hq2 : c.tgt < q
     ·rw [if_pos hq2] at g3; exact absurd rfl g3
     ·omega
  ·rintro ⟨⟨_, _, g1, g2⟩, g3⟩
   refine ⟨⟨g1, g2⟩, ?_⟩
   rcases g3 with g3 | g3
   ·have hq : ¬ q < c.tgt := by omega
    rw [if_pos g3.1, if_neg hq]
    split <;> decide
   ·have hn : ¬ a.p < c.tgt := by omega
    have hq : ¬ c.tgt < q := by omega
    rw [if_neg hn, if_pos g3.1]
    by_cases hq2 : q < c.tgt
    ·rw [if_pos hq2]; decide
    ·rw [if_neg hq2, if_neg hq]; decide
theorem blends_same {a b : Ax} (hN : b.N = a.N) (hW : b.W = a.W) (f : Int) : blendsB b f = blendsB a f := by unfold blendsB; rw [hN, hW]
theorem reach_ge (s d : Int) : 0 ≤ b.reachV s d := by
 unfold b.reachV
 split
 ·rename_i h; exact (Classical.choose_spec h).1
 ·omega
theorem pass_ge {s u d : Int} (hu : 0 ≤ u) : 0 ≤ b.passV s u d := by
 unfold b.passV
 split
 ·rename_i h; exact Int.le_trans hu (Classical.choose_spec h).1
 ·omega
theorem to_in (l : Lm) (p v t x : Int) : InR (gn.toV l p v t x) := by
 have h1 := b.vel_in x
 unfold gn.toV InR
 have h2 := reach_ge (b.clamp t l.lo l.hi - p) l.D
 have h3 := reach_ge (p - b.clamp t l.lo l.hi) l.D
 split
 ·omega
 ·split <;> omega
theorem by_in (l : Lm) (p v t u s x : Int) : InR (gn.byV l p v t u s x) := by
 have h1 := b.vel_in x
 have h0 := (b.vel_in u).1
 unfold gn.byV InR
 have h2 := reach_ge (b.clamp s l.lo l.hi - p) l.D
 have h3 := reach_ge (p - b.clamp s l.lo l.hi) l.D
 have h4 := pass_ge (s := b.clamp t l.lo l.hi - p) (d := l.D) h0
 have h5 := pass_ge (s := p - b.clamp t l.lo l.hi) (d := l.D) h0
 split
 ·omega
 ·split <;> omega
theorem wants_in {a : Ax} (hr : RightA a) {i : In} {V : Int} (hV : wantsV a i = V) : InR V := by
 rw [← hV]
 have z : InR 0 := ⟨by omega, by omega⟩
 unfold wantsV
 split
 ·rename_i h2
  have hh := hr.search h2
  obtain ⟨_, _, hf⟩ := hh
  have q1 : InR a.h.f := small (by omega) (by omega)
  have q2 : InR (-a.h.c) := small (by omega) (by omega)
  split
  ·unfold hm.stepV
   split
   ·split
    ·exact z
    ·split
     ·exact z
     ·exact q1
   ·split
    ·split
     ·split
      ·exact z
      ·exact q2
     ·exact z
    ·exact z
  ·exact z
 ·cases hN : a.N with
  | nil => exact z
  | cons c t =>
   have hl := one_lined hr.lined hN
   have hlim := hr.limits.2.1
   dsimp only
   split
   ·rename_i h5
    have hs := spd_in (a := a) (c := c) (by unfold Lined1 MoveP at hl; omega) (by unfold Lined1 MoveP at hl; omega) hr.ov0 hr.ov1
    exact small (by omega) (by omega)
   ·split
    ·unfold gx.wantV
     split
     ·rename_i hw; exact hw.2
     ·exact z
    ·split
     ·split
      ·cases a.W with
       | nil => exact z
       | cons n s => exact by_in _ _ _ _ _ _ _
      ·exact to_in _ _ _ _ _
     ·exact z
theorem ws_all (a : Ax) (i : In) : (wantsA a i).homed = a.homed ∧ (wantsA a i).N = a.N ∧ (wantsA a i).W = a.W := by
 unfold wantsA
 split
 ·exact ⟨rfl, rfl, rfl⟩
 ·split
  ·exact ⟨rfl, rfl, rfl⟩
  ·split <;> exact ⟨rfl, rfl, rfl⟩
theorem ws_homed (a : Ax) (i : In) {a1 : Ax} (h : wantsA a i = a1) : a1.homed = a.homed := by rw [← h]; exact (ws_all a i).1
theorem ws_N (a : Ax) (i : In) {a1 : Ax} (h : wantsA a i = a1) : a1.N = a.N := by rw [← h]; exact (ws_all a i).2.1
theorem ws_W (a : Ax) (i : In) {a1 : Ax} (h : wantsA a i = a1) : a1.W = a.W := by rw [← h]; exact (ws_all a i).2.2
section
variable {base g : Nat} {i : In} {L : Sl} {a : Ax} {R : List Rp} {fr pa : Bool} {w : World} {tb : Option Nat}
theorem Cy.repushed {S N W T : Sl} (h : Cy base g i L a S N W T R fr pa w) {w1 w2 : World} (hb : Below w.heap.size w w1) (ho : Only g w1 w2) {a' : Ax} {S' : Sl} (hS : RdI w1 w1.heap.size S'.A S'.n S'.c a'.sm) (hf : mm.From w S.A S'.A) (hp : 0 < S.n) (h2 : a'.N = a.N) (h3 : a'.W = a.W)
  {fr' pa' : Bool} (hbox : k.Box w2 g 0 (cyC a' S' N W i L T fr' pa')) : Cy base g i L a' S' N W T R fr' pa' w2 :=
 have hl := h.lt
 have hg := h.hg
 have hr := (h.below hb).rows
 (h.below hb).to ho hbox ⟨hS, by rw [h2]; exact hr.N, by rw [h3]; exact hr.W⟩ ⟨off_from hf hp h.off.S hl, h.off.N, h.off.W⟩ (fun q hq => ⟨off_from hf hp (h.new q hq).S (by omega), (h.new q hq).N, (h.new q hq).W⟩)
  fun b hb2 => ⟨off_from hf hp (h.offT b hb2).S (h.tb_lt hb2).2, (h.offT b hb2).N, (h.offT b hb2).W⟩
set_option maxHeartbeats 8000000 in
theorem adv_any (h : Cyc base g i L tb a R fr false w) (hr : RightA a) (hk : KeepW a) (hma : InR i.master) {pb : Bool} (hpb : byB a i = pb) :
  Calls Tryz.prog 45 #[.pointer (some ⟨g, 0, none⟩)] w (Does base g i L tb w (pushed (movedA a i)) R fr pb) := by
 by_cases h0 : a.st = 0
 ·have b0 : (a.st != 0) = false := by rw [h0]; rfl
  have e1 : movedA a i = a := if_pos h0
  have e2 : pb = false := by rw [← hpb]; exact decide_eq_false fun h => h.1 h0
  subst e2
  rw [e1]
  have HPW := lh (right_win hr)
  have HPI := lh (right_pos hr)
  obtain ⟨S5, N5, W5, T5, h5, ht⟩ := h
  have H5 := lh h5
  have ⟨d0, d0f⟩ := k.cell_of h5.box (i := 0) rfl
  clear h5 hpb e1 h0 hr hk hma
  go_enter Tryz.func45, Tryz.ntmps45
  have hsn : 0 < S5.n := by rw [← H5.out.rows.S.1]; exact HPW.out.1
  have hl5 := H5.out.lt
  have CP := lh (fun (U : World) (hb : Below w.heap.size w U) => mm.push_from (a).sm (a).p (Nat.le_trans HPW.out.2.1 (by omega)) (win_of ((H5.out.below hb).rows.S)) (Nat.le_refl _))
  rw [mm.pushW_yes HPW.out HPI.out] at CP
  have ⟨d12, d12f⟩ := k.cell_of H5.out.box (i := 12) rfl
  have ⟨d10, d10f⟩ := k.cell_of H5.out.box (i := 10) rfl
  go_upto_region 5 with fail
  refine wp_region_T (by kernel_rfl) (fun w' => Below w.heap.size w w') [16] (Below.refl _ _).drew (fun hHeld => ?_)
  refine tk0 0 rfl ?_ ?_ ?_
  rotate_left
  ·intro; go_simp <;> with_reducible rfl
  try simp only [Act.put, p1, p2, p3, p4, p6]
  refine tk0 1 rfl ?_ ?_ ?_
  rotate_left
  ·intro; go_simp <;> with_reducible rfl
  try simp only [Act.put, p1, p2, p3, p4, p5, p6]
  refine tk0 2 rfl ?_ ?_ ?_
  rotate_left
  ·intro; go_simp <;> with_reducible rfl
  try simp only [Act.put, p1, p2, p3, p4, p5, p6]
  refine tk0 3 rfl ?_ ?_ ?_
  rotate_left
  ·intro; go_simp <;> with_reducible rfl
  try simp only [Act.put, p1, p2, p3, p4, p5, p6]
  refine tk0 4 rfl ?_ ?_ ?_
  rotate_left
  ·intro; go_simp <;> with_reducible rfl
  try simp only [Act.put, p1, p2, p3, p4, p5, p6]
  refine tk 5 rfl ?_ ?_ ?_
  rotate_left
  ·intro w_ hSw; have q0 := (hSw.cell (p := ⟨g, 12, none⟩) hl5).trans d12; clear hSw; go_simp <;> (with_reducible rfl)
  try simp only [Act.put, p1, p2, p3, p4, p5, p6]
  refine tk0 6 rfl ?_ ?_ ?_
  rotate_left
  ·intro; go_simp <;> with_reducible rfl
  try simp only [Act.put, p1, p2, p3, p4, p5, p6]
  refine tk0 7 rfl ?_ ?_ ?_
  rotate_left
  ·intro; go_simp <;> with_reducible rfl
  try simp only [Act.put, p1, p2, p3, p4, p5, p6]
  refine tk0 8 rfl ?_ ?_ ?_
  rotate_left
  ·intro; go_simp <;> with_reducible rfl
  try simp only [Act.put, p1, p2, p3, p4, p5, p6]
  refine tk0 9 rfl ?_ ?_ ?_
  rotate_left
  ·intro; go_simp <;> with_reducible rfl
  try simp only [Act.put, p1, p2, p3, p4, p5, p6]
  refine tk0 10 rfl ?_ ?_ ?_
  rotate_left
  ·intro; go_simp <;> with_reducible rfl
  try simp only [Act.put, p1, p2, p3, p4, p5, p6]
  refine tk 11 rfl ?_ ?_ ?_
  rotate_left
  ·intro w_ hSw; have q0 := (hSw.cell (p := ⟨g, 10, none⟩) hl5).trans d10; clear hSw; go_simp <;> (with_reducible rfl)
  try simp only [Act.put, p1, p2, p3, p4, p5, p6]
  refine ry [12] ?_
  refine ar1 rfl fun K hK => ?_
  go_simp
  (go_at_call 77; ((with_reducible refine (CP.out _ ((Below.refl _ _).drew)).mono ?_); rintro e w6 ⟨A, n, c, rfl, ⟨hw, hf⟩, hb0⟩))
  go_wp2_with fail
  have hb6 := ((Below.refl w.heap.size w).drew).trans hb0
  refine hK.out _ _ hb6 (fun hHeld => ?_)
  clear hK K
  try simp only [Act.put, p1, p2, p3, p4, p5, p6]
  refine tk0 13 rfl ?_ ?_ ?_
  rotate_left
  ·intro; go_simp <;> with_reducible rfl
  try simp only [Act.put, p1, p2, p3, p4, p5, p6]
  refine tk0 14 rfl ?_ ?_ ?_
  rotate_left
  ·intro; go_simp <;> with_reducible rfl
  try simp only [Act.put, p1, p2, p3, p4, p5, p6]
  refine tk0 15 rfl ?_ ?_ ?_
  rotate_left
  ·intro; go_simp <;> with_reducible rfl
  try simp only [Act.put, p1, p2, p3, p4, p5, p6]
  have RS := lh (of_win hw)
  have FS : Hid (mm.From w S5.A A) := lh hf
  have H6 := lh (H5.out.below hb6)
  clear d12 d12f d10 d10f hw hf hb0
  have ⟨e12, e12f⟩ := k.cell_of H6.out.box (i := 12) rfl
  refine ry [16] ?_
  refine AllReadyT.spoilt rfl (by kernel_rfl) (fun K hK => ?_) AllReadyT.nil
  go_simp
  go_wp2_with fail
  refine hK.out _ _ ?_
  clear hK K
  try simp only [Act.put, p1, p2, p3, p4, p5, p6]
  refine wpAnyT_done (by kernel_rfl) ?_ _
  go_wp2
  have ho := (Only.refl g w6).set 12 (.slice A n c)
  have h7 := H5.out.repushed (a' := pushed (a)) (S' := ⟨A, n, c⟩) hb6 ho (by rw [show (pushed (a)).sm = (a).p :: (a).sm.take ((a).sm.length - 1) by unfold pushed; rw [List.dropLast_eq_take]]; exact RS.out) FS.out hsn rfl rfl (k.Box.put H6.out.box 12 (by simp) _)
  exact end0 rfl rfl ⟨rfl, tb, ⟨_, _, _, _, h7, ht⟩, ((Fx.refl g tb w).below hb6).only ho⟩
 ·have b0 : (a.st != 0) = true := by rw [bne_iff_ne]; exact h0
  obtain ⟨V, hV⟩ : ∃ z, wantsV a i = z := ⟨_, rfl⟩
  obtain ⟨a1, ha1⟩ : ∃ z, wantsA a i = z := ⟨_, rfl⟩
  have CWN := lh (want_any h hr hk hma hV ha1)
  have hws := wants_same a i
  rw [ha1] at hws
  have e1 : movedA a i = { a1 with p := a.p + gn.stepV (bounds a) a.p a.v V, v := gn.stepV (bounds a) a.p a.v V } := by unfold movedA; rw [if_neg h0, ha1, hV]
  have hpr := pushed_right hr i
  have hmb := moved_by hr i
  rw [e1] at hmb hpr
  rw [e1]
  obtain ⟨nv, hnv⟩ : ∃ z, gn.stepV (bounds a) a.p a.v V = z := ⟨_, rfl⟩
  rw [hnv] at e1 hmb hpr ⊢
  have HPW : Hid (mm.RightW ({ a1 with p := a.p + nv, v := nv } : Ax).sm) := lh (by show mm.RightW a1.sm; rw [hws.2.2.2.2.2.2.2.2.1]; exact right_win hr)
  have HPI : Hid (mm.inP ({ a1 with p := a.p + nv, v := nv } : Ax).p) := lh (show mm.inP (a.p + nv) from right_pos hpr)
  have hst : a1.st = a.st := hws.1
  have hp1 : a1.p = a.p := hws.2.2.2.2.2.2.1
  have hv1 : a1.v = a.v := hws.2.2.2.2.2.2.2.1
  have hb1 : bounds a1 = bounds a := by unfold bounds; rw [ws_homed a i ha1, hws.2.1]
  have hN1 : a1.N = a.N := ws_N a i ha1
  have hW1 : a1.W = a.W := ws_W a i ha1
  have CB := lh fun S N W U => bounds_any a1 S N W U
  rw [hb1] at CB
  have CG := lh fun U => gn.step_ok (bounds a) (bounds_right hr.limits) a.p a.v hr.safe V (wide_r (wants_in hr hV)) U
  rw [hnv] at CG
  generalize bounds a = lb at CB CG
  have CPS : ∀ (U : World) (tb2 : Option Nat), Cyc base g i L tb2 { a1 with p := a.p + nv, v := nv } R fr false U → Calls Tryz.prog 76 #[.pointer (some ⟨g, 0, none⟩), .int .i64 a.p] U fun e w' => e = .returned (.bool pb) ∧ Below U.heap.size U w' := by
   intro U tb2 hU
   by_cases h4 : a.st = 4
   ·cases hN : a.N with
    | nil => have := none_lined hr.lined hN; omega
    | cons c t =>
     refine passes_any hU (by show ln.RightL a1.N a1.W; rw [hN1, hW1]; exact hr.line) (c := c) (t := t) (hN1.trans hN) (hst.trans h4) a.p ?_
     have hb : blendsB ({ a1 with p := a.p + nv, v := nv } : Ax) a.p = blendsB a a.p := blends_same hN1 hW1 a.p
     rw [hb]
     show (blendsB a a.p && decide (gn.sgn (a.p + nv) c.tgt ≠ gn.sgn a.p c.tgt)) = pb
     rw [passes_by hr h4 hN, ← hpb]
     unfold byB
     rw [e1]
     exact decide_eq_decide.2 ⟨fun h => ⟨h0, h⟩, fun h => h.2⟩
   ·have e2 : pb = false := by rw [← hpb]; exact decide_eq_false fun h => h4 h.2.1.1
    rw [e2]
    exact (passes_no hU (by show a1.st ≠ 4; rw [hst]; exact h4) a.p).mono fun e w' he => ⟨he.1, he.2 ▸ Below.refl _ _⟩
  have CPS := lh CPS
  have HC := lh h
  have HP1 := lh hp1
  have HV1 := lh hv1
  obtain ⟨S, N, W, T, h1, ht⟩ := h
  have ⟨d0, d0f⟩ := k.cell_of h1.box (i := 0) rfl
  have ⟨d10, d10f⟩ := k.cell_of h1.box (i := 10) rfl
  clear h1 ht hpr hmb e1 hpb hws hst hp1 hv1 hb1 hN1 hW1 hV ha1 hnv h0 hr hk hma
  go_enter Tryz.func45, Tryz.ntmps45
  go_wp2_with (go_at_call 74; fail)
  refine CWN.out.mono ?_
  rintro e w2 ⟨rfl, tb2, h2, f2⟩
  have FX := lh f2
  obtain ⟨S2, N2, W2, T2, h2, ht⟩ := h2
  have H2 := lh h2
  have hl2 := h2.lt
  clear h2 f2 CWN d0 d0f d10 d10f
  have ⟨d10, d10f⟩ := k.cell_of H2.out.box (i := 10) rfl
  have ⟨d11, d11f⟩ := k.cell_of H2.out.box (i := 11) rfl
  rw [HP1.out] at d10
  rw [HV1.out] at d11
  go_upto_region 3 with fail
  refine wp_region_T (by kernel_rfl) (fun w' => Below w2.heap.size w2 w') [16] (Below.refl _ _).drew (fun hHeld => ?_)
  refine tk0 0 rfl ?_ ?_ ?_
  rotate_left
  ·intro; go_simp <;> with_reducible rfl
  try simp only [Act.put, p1, p2, p3, p4, p6]
  refine tk0 1 rfl ?_ ?_ ?_
  rotate_left
  ·intro; go_simp <;> with_reducible rfl
  try simp only [Act.put, p1, p2, p3, p4, p5, p6]
  refine tk0 2 rfl ?_ ?_ ?_
  rotate_left
  ·intro; go_simp <;> with_reducible rfl
  try simp only [Act.put, p1, p2, p3, p4, p5, p6]
  refine tk0 3 rfl ?_ ?_ ?_
  rotate_left
  ·intro; go_simp <;> with_reducible rfl
  try simp only [Act.put, p1, p2, p3, p4, p5, p6]
  refine tkv 4 rfl (axV a1 S2 N2 W2) (by exact m_y_ax H2.out.ax hl2 21 rfl rfl rfl) ?_
  try simp only [Act.put, p1, p2, p3, p4, p5, p6]
  refine tk0 6 rfl ?_ ?_ ?_
  rotate_left
  ·intro; go_simp <;> with_reducible rfl
  try simp only [Act.put, p1, p2, p3, p4, p5, p6]
  refine tk0 7 rfl ?_ ?_ ?_
  rotate_left
  ·intro; go_simp <;> with_reducible rfl
  try simp only [Act.put, p1, p2, p3, p4, p5, p6]
  refine tk0 8 rfl ?_ ?_ ?_
  rotate_left
  ·intro; go_simp <;> with_reducible rfl
  try simp only [Act.put, p1, p2, p3, p4, p5, p6]
  refine tk0 9 rfl ?_ ?_ ?_
  rotate_left
  ·intro; go_simp <;> with_reducible rfl
  try simp only [Act.put, p1, p2, p3, p4, p5, p6]
  refine tk 10 rfl ?_ ?_ ?_
  rotate_left
  ·intro w_ hSw; have q0 := (hSw.cell (p := ⟨g, 10, none⟩) hl2).trans d10; have q1 := (hSw.cell (p := ⟨g, 11, none⟩) hl2).trans d11; clear hSw; go_simp <;> (with_reducible rfl)
  try simp only [Act.put, p1, p2, p3, p4, p5, p6]
  refine tk0 11 rfl ?_ ?_ ?_
  rotate_left
  ·intro; go_simp <;> with_reducible rfl
  try simp only [Act.put, p1, p2, p3, p4, p5, p6]
  refine ry [5] ?_
  refine ar1 rfl fun K hK => ?_
  go_simp
  (go_at_call 17; ((with_reducible refine (CB.out _ _ _ _).mono ?_); rintro e w3 ⟨rfl, hb0⟩))
  go_wp2_with fail
  have hb3 := ((Below.refl w2.heap.size w2).drew).trans hb0
  clear hb0
  refine hK.out _ _ hb3 (fun hHeld => ?_)
  clear hK K
  try simp only [Act.put, p1, p2, p3, p4, p5, p6]
  refine ry [12] ?_
  refine ar1 rfl fun K hK => ?_
  go_simp
  (go_at_call 75; ((with_reducible refine (CG.out _).mono ?_); rintro e w4 ⟨rfl, hb0⟩))
  go_wp2_with fail
  have hb4 := hb3.trans (hb0.mono hb3.size)
  clear hb0
  refine hK.out _ _ hb4 (fun hHeld => ?_)
  clear hK K
  try simp only [Act.put, p1, p2, p3, p4, p5, p6]
  refine tk0 13 rfl ?_ ?_ ?_
  rotate_left
  ·intro; go_simp <;> with_reducible rfl
  try simp only [Act.put, p1, p2, p3, p4, p5, p6]
  refine tk0 14 rfl ?_ ?_ ?_
  rotate_left
  ·intro; go_simp <;> with_reducible rfl
  try simp only [Act.put, p1, p2, p3, p4, p5, p6]
  refine tk0 15 rfl ?_ ?_ ?_
  rotate_left
  ·intro; go_simp <;> with_reducible rfl
  try simp only [Act.put, p1, p2, p3, p4, p5, p6]
  have H4 := lh (H2.out.below hb4)
  clear d10 d10f d11 d11f
  have ⟨e10, e10f⟩ := k.cell_of H4.out.box (i := 10) rfl
  have ⟨e11, e11f⟩ := k.cell_of H4.out.box (i := 11) rfl
  refine ry [16] ?_
  refine AllReadyT.spoilt rfl (by kernel_rfl) (fun K hK => ?_) AllReadyT.nil
  go_simp
  go_wp2_with fail
  refine hK.out _ _ ?_
  clear hK K
  try simp only [Act.put, p1, p2, p3, p4, p5, p6]
  refine wpAnyT_done (by kernel_rfl) ?_ _
  have ho := ((Only.refl g w4).set 10 (.int .i64 (a.p + nv))).set 11 (.int .i64 nv)
  have h5 := H4.out.as (a' := { a1 with p := a.p + nv, v := nv }) ho (k.Box.put (k.Box.put H4.out.box 10 (by simp) _) 11 (by simp) _) rfl rfl rfl
  have FX := lh ((FX.out.below hb4).only ho)
  clear e10 e10f e11 e11f hHeld
  generalize ((w4.setCell ⟨g, 10, none⟩ (.int .i64 (a.p + nv))).setCell ⟨g, 11, none⟩ (.int .i64 nv)) = w5 at h5 FX ⊢
  clear ho hb3 hb4
  have H5 := lh h5
  clear h5
  skip
  have HC5 : Hid (Cyc base g i L tb2 { a1 with p := a.p + nv, v := nv } R fr false w5) := lh ⟨_, _, _, _, H5.out, ht⟩
  have ⟨e40, e40f⟩ := k.cell_of H5.out.box (i := 40) rfl
  go_upto_region 5 with (go_at_call 76; ((with_reducible refine (CPS.out _ _ HC5.out).mono ?_); rintro e w7 ⟨rfl, hb⟩; have H7 := lh (H5.out.below hb); have FX := lh (FX.out.below hb); clear e40 e40f hb; have ⟨e40, e40f⟩ := k.cell_of H7.out.box (i := 40) rfl))
  have ho := (Only.refl g w7).set 40 (.bool pb)
  have h8 := H7.out.as (a' := { a1 with p := a.p + nv, v := nv }) (pa' := pb) ho (k.Box.put H7.out.box 40 (by simp) _) rfl rfl rfl
  have FX := lh (FX.out.only ho)
  clear e40 e40f
  generalize (w7.setCell ⟨g, 40, none⟩ (.bool pb)) = w8 at h8 FX ⊢
  have H5 := lh h8
  clear h8 ho
  have hsn : 0 < S2.n := by rw [← H5.out.rows.S.1]; exact HPW.out.1
  have hl5 := H5.out.lt
  have CP := lh (fun (U : World) (hb : Below w8.heap.size w8 U) => mm.push_from (({ a1 with p := a.p + nv, v := nv } : Ax)).sm (({ a1 with p := a.p + nv, v := nv } : Ax)).p (Nat.le_trans HPW.out.2.1 (by omega)) (win_of ((H5.out.below hb).rows.S)) (Nat.le_refl _))
  rw [mm.pushW_yes HPW.out HPI.out] at CP
  have ⟨d12, d12f⟩ := k.cell_of H5.out.box (i := 12) rfl
  have ⟨d10, d10f⟩ := k.cell_of H5.out.box (i := 10) rfl
  refine wp_region_T (by kernel_rfl) (fun w' => Below w8.heap.size w8 w') [16] (Below.refl _ _).drew (fun hHeld => ?_)
  refine tk0 0 rfl ?_ ?_ ?_
  rotate_left
  ·intro; go_simp <;> with_reducible rfl
  try simp only [Act.put, p1, p2, p3, p4, p6]
  refine tk0 1 rfl ?_ ?_ ?_
  rotate_left
  ·intro; go_simp <;> with_reducible rfl
  try simp only [Act.put, p1, p2, p3, p4, p5, p6]
  refine tk0 2 rfl ?_ ?_ ?_
  rotate_left
  ·intro; go_simp <;> with_reducible rfl
  try simp only [Act.put, p1, p2, p3, p4, p5, p6]
  refine tk0 3 rfl ?_ ?_ ?_
  rotate_left
  ·intro; go_simp <;> with_reducible rfl
  try simp only [Act.put, p1, p2, p3, p4, p5, p6]
  refine tk0 4 rfl ?_ ?_ ?_
  rotate_left
  ·intro; go_simp <;> with_reducible rfl
  try simp only [Act.put, p1, p2, p3, p4, p5, p6]
  refine tk 5 rfl ?_ ?_ ?_
  rotate_left
  ·intro w_ hSw; have q0 := (hSw.cell (p := ⟨g, 12, none⟩) hl5).trans d12; clear hSw; go_simp <;> (with_reducible rfl)
  try simp only [Act.put, p1, p2, p3, p4, p5, p6]
  refine tk0 6 rfl ?_ ?_ ?_
  rotate_left
  ·intro; go_simp <;> with_reducible rfl
  try simp only [Act.put, p1, p2, p3, p4, p5, p6]
  refine tk0 7 rfl ?_ ?_ ?_
  rotate_left
  ·intro; go_simp <;> with_reducible rfl
  try simp only [Act.put, p1, p2, p3, p4, p5, p6]
  refine tk0 8 rfl ?_ ?_ ?_
  rotate_left
  ·intro; go_simp <;> with_reducible rfl
  try simp only [Act.put, p1, p2, p3, p4, p5, p6]
  refine tk0 9 rfl ?_ ?_ ?_
  rotate_left
  ·intro; go_simp <;> with_reducible rfl
  try simp only [Act.put, p1, p2, p3, p4, p5, p6]
  refine tk0 10 rfl ?_ ?_ ?_
  rotate_left
  ·intro; go_simp <;> with_reducible rfl
  try simp only [Act.put, p1, p2, p3, p4, p5, p6]
  refine tk 11 rfl ?_ ?_ ?_
  rotate_left
  ·intro w_ hSw; have q0 := (hSw.cell (p := ⟨g, 10, none⟩) hl5).trans d10; clear hSw; go_simp <;> (with_reducible rfl)
  try simp only [Act.put, p1, p2, p3, p4, p5, p6]
  refine ry [12] ?_
  refine ar1 rfl fun K hK => ?_
  go_simp
  (go_at_call 77; ((with_reducible refine (CP.out _ ((Below.refl _ _).drew)).mono ?_); rintro e w6 ⟨A, n, c, rfl, ⟨hw, hf⟩, hb0⟩))
  go_wp2_with fail
  have hb6 := ((Below.refl w8.heap.size w8).drew).trans hb0
  refine hK.out _ _ hb6 (fun hHeld => ?_)
  clear hK K
  try simp only [Act.put, p1, p2, p3, p4, p5, p6]
  refine tk0 13 rfl ?_ ?_ ?_
  rotate_left
  ·intro; go_simp <;> with_reducible rfl
  try simp only [Act.put, p1, p2, p3, p4, p5, p6]
  refine tk0 14 rfl ?_ ?_ ?_
  rotate_left
  ·intro; go_simp <;> with_reducible rfl
  try simp only [Act.put, p1, p2, p3, p4, p5, p6]
  refine tk0 15 rfl ?_ ?_ ?_
  rotate_left
  ·intro; go_simp <;> with_reducible rfl
  try simp only [Act.put, p1, p2, p3, p4, p5, p6]
  have RS := lh (of_win hw)
  have FS : Hid (mm.From w8 S2.A A) := lh hf
  have H6 := lh (H5.out.below hb6)
  clear d12 d12f d10 d10f hw hf hb0
  have ⟨e12, e12f⟩ := k.cell_of H6.out.box (i := 12) rfl
  refine ry [16] ?_
  refine AllReadyT.spoilt rfl (by kernel_rfl) (fun K hK => ?_) AllReadyT.nil
  go_simp
  go_wp2_with fail
  refine hK.out _ _ ?_
  clear hK K
  try simp only [Act.put, p1, p2, p3, p4, p5, p6]
  refine wpAnyT_done (by kernel_rfl) ?_ _
  go_wp2
  have ho := (Only.refl g w6).set 12 (.slice A n c)
  have h7 := H5.out.repushed (a' := pushed (({ a1 with p := a.p + nv, v := nv } : Ax))) (S' := ⟨A, n, c⟩) hb6 ho (by rw [show (pushed (({ a1 with p := a.p + nv, v := nv } : Ax))).sm = (({ a1 with p := a.p + nv, v := nv } : Ax)).p :: (({ a1 with p := a.p + nv, v := nv } : Ax)).sm.take ((({ a1 with p := a.p + nv, v := nv } : Ax)).sm.length - 1) by unfold pushed; rw [List.dropLast_eq_take]]; exact RS.out) FS.out hsn rfl rfl (k.Box.put H6.out.box 12 (by simp) _)
  exact end0 rfl rfl ⟨rfl, tb2, ⟨_, _, _, _, h7, ht⟩, (FX.out.below hb6).only ho⟩
end
end Go.Proofs.YtijlccblabadaaaGreat.cx
end
