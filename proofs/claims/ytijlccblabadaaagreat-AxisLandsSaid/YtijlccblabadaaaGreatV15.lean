/- What axis' Step answers. No condition beyond what each line says. What axis' New answers. No condition beyond what each line says. What axis' exported functions answer. No condition beyond what each line says. Stage 15's fixed answer. No condition. -/
import Derived.Test.YtijlccblabadaaaGreatV10
import Derived.Test.YtijlccblabadaaaGreatV12
import Derived.Test.YtijlccblabadaaaGreatV14
import Derived.Test.YtijlccblabadaaaGreatV13
import Derived.Test.YtijlccblabadaaaGreatV08
import Derived.Test.YtijlccblabadaaaGreatV06
import Derived.Test.YtijlccblabadaaaGreatU02
section
namespace Go.Proofs.YtijlccblabadaaaGreat.cx
open Go.ChangeShapes Go.WideShapes Go.ChangeAt Go.RowKit Go.Proofs.YtijlccblabadaaaGreat.k Go.Proofs.YtijlccblabadaaaGreat.rr Go.Proofs.YtijlccblabadaaaGreat.ax
open Go.Proofs.YtijlccblabadaaaGreat.ln (C RdC RdI iC cC cV lnV)
set_option linter.unusedVariables false
set_option maxRecDepth 100000
set_option maxHeartbeats 16000000 in
theorem astep_any (a : Ax) (hg : GoodA a) (i : In) (hi : WideI i) {S N W L : Sl} {B : Nat} {w : World} (h : RdA w B a S N W) (hL : RdC w B L.A L.n L.c i.cmds) (hB : B ≤ w.heap.size) (hn : L.n ≤ 20) :
  Calls Tryz.prog 22 #[axV a S N W, inV i L] w (GotS (stepA a i) (stepR a i) S N W L w) := by
 obtain ⟨ov, hov⟩ : ∃ z, b.clamp i.ov 0 100 = z := ⟨_, rfl⟩
 have eO : overA a i = { a with ov := ov } := by unfold overA; rw [hov]
 have hov2 : q.clampV i.ov 0 100 = ov := by rw [← hov]; exact b.max_clamp _ _ _ (by omega)
 have hro := over_right hg.right i
 have hko : KeepW (overA a i) := ⟨hg.keep.ph, hg.keep.f, hg.keep.c, hg.keep.start, hg.keep.master, hg.keep.cause, hg.keep.cmds⟩
 have hr1 := first_right hro i
 have hk1 := keep_first hko hi
 have l1 := first_len hro i
 have CT := fun (g base : Nat) (tb : Option Nat) (U : World) (hc : Cyc base g i L tb (overA a i) [] false false U) => turn_any hc hro hi.actual (by simp)
 have eA : stepA a i = lastA (pushed (movedA (allA i.master (firstF (overA a i) i) i.cmds (firstA (overA a i) i)) i)) (byB (allA i.master (firstF (overA a i) i) i.cmds (firstA (overA a i) i)) i) i := rfl
 have eR : stepR a i = firstR (overA a i) i ++ allR i.master (firstF (overA a i) i) i.cmds (firstA (overA a i) i) ++ lastR (pushed (movedA (allA i.master (firstF (overA a i) i) i.cmds (firstA (overA a i) i)) i)) (byB (allA i.master (firstF (overA a i) i) i.cmds (firstA (overA a i) i)) i) i := rfl
 rw [eO] at CT eA eR hr1 hk1 l1 hro
 generalize firstA { a with ov := ov } i = a1 at CT eA eR hr1 hk1
 generalize firstR { a with ov := ov } i = R1 at CT eR l1
 generalize firstF { a with ov := ov } i = f1 at CT eA eR
 have ha2 : ∀ j, RightA (allA i.master f1 (i.cmds.take j) a1) := fun j => all_right _ _ _ hr1
 have hk2 : ∀ j, KeepW (allA i.master f1 (i.cmds.take j) a1) := fun j => keep_all hi.master _ _ hr1 hk1 fun x hx => hi.cmds x (List.mem_of_mem_take hx)
 have hl2 : ∀ j, j ≤ 20 → (R1 ++ allR i.master f1 (i.cmds.take j) a1).length ≤ 250 := fun j hj => by
  have := all_len i.master f1 (i.cmds.take j) hr1
  have h3 : (i.cmds.take j).length ≤ j := by rw [List.length_take]; omega
  rw [List.length_append]
  omega
 have HI := lh hi
 have HG := lh hg
 have HA2 := lh ha2
 have HK2 := lh hk2
 have HL2 := lh hl2
 simp only [List.nil_append] at CT
 have CT := lh CT
 have HOV := lh hov2
 have HEA := lh eA
 have HER := lh eR
 have HRD := lh h
 have HRL := lh hL
 have HBB := lh hB
 have hlC := hL.len_le
 have hlen : i.cmds.length = L.n := hL.1
 have HLEN := lh hlen
 have CA := lh fun (U : World) (hb : Below w.heap.size w U) => again_any a (h.below (hb.mono hB)) (Nat.le_trans hB hb.size) (by have := hg.right.short; omega) (by have := hg.right.short; omega) (by have := hg.right.short; omega)
 have CR := lh fun (U : World) (hb : Below w.heap.size w U) => aright_any a hg.wide (h.below (hb.mono hB)) (Nat.le_trans hB hb.size) (rightB_yes hg.right)
 clear hov eO hov2 hro hko hr1 hk1 l1 eA eR ha2 hk2 hl2 h hL hB hg hi hlen
 obtain ⟨x1, x2, x3, x4, x5⟩ := k.boxes3 (w := w) (c1 := axA a S N W) (t1 := 35) (c2 := inA i L) (t2 := 46) (c3 := zAx) (t3 := 35) (Below.refl _ _)
 have X1 : Hid (k.Box _ w.heap.size 0 (axC a S N W)) := lh x1
 have X2 : Hid (k.Box _ (w.heap.size + 1) 0 (inL i L)) := lh x2
 have X3 := lh (zbox x3)
 have HB := lh x4
 clear x1 x2 x3 x4
 go_enter Tryz.func22, Tryz.ntmps22
 go_upto_region 1 with fail
 generalize ((w.alloc (.cells (axA a S N W) 35)).alloc (.cells (inA i L) 46)).alloc (.cells zAx 35) = w2 at X1 X2 X3 HB x5 ⊢
 have z1 : w.heap.size < w2.heap.size := by omega
 have z2 : w.heap.size + 1 < w2.heap.size := by omega
 go_cut [6] from 9 to 12 (fun p wx => ∃ gx : Nat, p = .pointer (some ⟨gx, 0, none⟩) ∧ w2.heap.size ≤ gx ∧ Cyc w2.heap.size gx i L none a [] false false wx ∧ Below w2.heap.size w2 wx)
 case first =>
  refine wp_region_T (by kernel_rfl) (fun w' => Below w2.heap.size w2 w') [] (Below.refl _ _).drew (fun hHeld => ?_)
  refine tkv 0 rfl (axV a S N W) (by exact m_y_ax X1.out z1 2 rfl rfl rfl) ?_
  try simp only [Act.put, p1, p2, p3, p4, p6]
  refine tkv 2 rfl (inV i L) (by exact m_y_in X2.out.range z2 3 rfl rfl rfl) ?_
  try simp only [Act.put, p1, p2, p3, p4, p5, p6]
  refine ry [1, 4] ?_
  refine AllReadyT.cons rfl (fun K hK => ?_) (AllReadyT.cons rfl (fun K hK => ?_) AllReadyT.nil)
  ·go_simp
   (go_at_call 41; ((with_reducible refine (CA.out _ HB.out.drew).mono ?_); rintro e w5 ⟨S', N', W', rfl, hr, ⟨n1, n2, n3⟩, hb0⟩))
   go_wp2_with fail
   have hb : Below w2.heap.size w2 w5 := ((Below.refl w2.heap.size w2).drew).trans hb0
   refine hK.out _ _ hb (fun hHeld => ?_)
   clear hK K
   try simp only [Act.put, p1, p2, p3, p4, p5, p6]
   refine tk0 3 rfl ?_ ?_ ?_
   rotate_left
   ·intro; go_simp <;> with_reducible rfl
   try simp only [Act.put, p1, p2, p3, p4, p5, p6]
   refine ry [4] ?_
   refine ar1 rfl fun K hK => ?_
   go_simp
   go_wp2_with fail
   refine hK.out _ _ (hb.alloc hb.size _) (fun hHeld => ?_)
   clear hK K
   try simp only [Act.put, p1, p2, p3, p4, p5, p6]
   refine ry [5] ?_
   refine ar1 rfl fun K hK => ?_
   rw [if_pos (by rfl)]
   refine m_w_cynew (w := w5) a S' N' W' i L 6 12 rfl rfl rfl rfl ?_
   intro w6 x6 hb6 hz6
   have hbw : Below w2.heap.size w2 w6 := hb.trans (hb6.mono hb.size)
   refine hK.out _ _ hbw (fun hHeld => ?_)
   clear hK K
   try simp only [Act.put, p1, p2, p3, p4, p5, p6]
   refine wpAnyT_done (by kernel_rfl) ?_ _
   go_wp2_with fail
   go_meet
   case rel => exact ⟨_, rfl, hb.size, cyc_made hb.size x6 (hr.past hb6) (hr.off (Nat.le_refl _)) (fun q hq => ⟨off_newer (w := w2.drew) n1 hq, off_newer (w := w2.drew) n2 hq, off_newer (w := w2.drew) n3 hq⟩), hbw⟩
  ·go_simp
   go_wp2_with fail
   have ha : Below w2.heap.size w2 (w2.alloc (.cells zCy 77)).drew := ((Below.refl _ _).alloc (Nat.le_refl _) _).drew
   refine hK.out _ _ ha (fun hHeld => ?_)
   clear hK K
   try simp only [Act.put, p1, p2, p3, p4, p5, p6]
   refine ry [1] ?_
   refine ar1 rfl fun K hK => ?_
   go_simp
   (go_at_call 41; ((with_reducible refine (CA.out _ (HB.out.trans (ha.mono HB.out.size))).mono ?_); rintro e w5 ⟨S', N', W', rfl, hr, ⟨n1, n2, n3⟩, hb0⟩))
   go_wp2_with fail
   obtain ⟨y1, y2, y3⟩ := k.boxes1 (w := w2) (c1 := zCy) (t1 := 77) (((Below.refl _ _).drew).trans hb0)
   have hb : Below w2.heap.size w2 w5 := y2
   refine hK.out _ _ hb (fun hHeld => ?_)
   clear hK K
   try simp only [Act.put, p1, p2, p3, p4, p5, p6]
   refine tk0 3 rfl ?_ ?_ ?_
   rotate_left
   ·intro; go_simp <;> with_reducible rfl
   try simp only [Act.put, p1, p2, p3, p4, p5, p6]
   refine ry [5] ?_
   refine ar1 rfl fun K hK => ?_
   rw [if_pos (by rfl)]
   refine m_w_cyold y1 rfl a S' N' W' i L 6 12 rfl rfl rfl rfl ?_
   intro w6 ho6 x6
   have hbw : Below w2.heap.size w2 w6 := hb.trans (ho6.below (Nat.le_refl _))
   have hq : ∀ q, q < w2.heap.size + 1 → OffA q S' N' W' := fun q hq => ⟨off_newer n1 (by simp [World.drew]; omega), off_newer n2 (by simp [World.drew]; omega), off_newer n3 (by simp [World.drew]; omega)⟩
   refine hK.out _ _ hbw (fun hHeld => ?_)
   clear hK K
   try simp only [Act.put, p1, p2, p3, p4, p5, p6]
   refine wpAnyT_done (by kernel_rfl) ?_ _
   go_wp2_with fail
   go_meet
   case rel => exact ⟨_, rfl, Nat.le_refl _, cyc_made (Nat.le_refl _) x6 ⟨rd_only hr.S ho6 (hq _ (by omega)).S, rd_only hr.N ho6 (hq _ (by omega)).N, rd_only hr.W ho6 (hq _ (by omega)).W⟩ (hq _ (by omega)) (fun q h => hq q (by omega)), hbw⟩
 case rest =>
  obtain ⟨gx, rfl, hgx, hc, hb⟩ := hcut
  skip
  have X1 := lh (X1.out.below hb z1)
  have X2 := lh (X2.out.below hb z2)
  have X3 := lh (X3.out.below hb x5)
  have HC := lh hc
  have HB := lh (HB.out.trans (hb.mono HB.out.size))
  have hzx := hb.size
  clear hc hb
  go_wp2_with (first | ((with_reducible refine m_ax_load X1.out 2 ?_ ?_ ?_ ?_); rfl; rfl; rfl; (try simp only [Act.put])) | (go_at_call 14; fail))
  refine (CR.out _ HB.out).mono ?_
  rintro e w3 ⟨rfl, hb⟩
  have X1 := lh (X1.out.below hb (by omega))
  have X2 := lh (X2.out.below hb (by omega))
  have X3 := lh (X3.out.below hb (by omega))
  have HC := lh (HC.out.below hb)
  have HB := lh (HB.out.trans (hb.mono HB.out.size))
  have hz3 := Nat.le_trans hzx hb.size
  clear hb hzx
  obtain ⟨S1, N1, W1, T1, hcy, ht1⟩ := HC.out
  have HCY := lh hcy
  have HT1 := lh ht1
  clear hcy ht1
  have ⟨e9, e9f⟩ := k.cell_of X2.out (i := 9) rfl
  have ⟨d21, d21f⟩ := k.cell_of HCY.out.box (i := 21) rfl
  go_wp2_with (first | (go_at_call 42; ((with_reducible refine (q.clamp_any _ _ _ _).mono ?_); rintro e w4 ⟨rfl, rfl⟩; rw [HOV.out])) | (go_at_call 43; fail))
  have ho := (Only.refl gx w3).set 21 (.int .i64 ov)
  have hc4 : Cyc w2.heap.size gx i L none { a with ov := ov } [] false false _ := ⟨S1, N1, W1, T1, HCY.out.as (a' := { a with ov := ov }) ho (k.Box.put HCY.out.box 21 (by simp) _) rfl rfl rfl, HT1.out⟩
  have hb4 : Below w2.heap.size w3 _ := ho.below hgx
  have HC4 := lh hc4
  have X2 := lh (only_box ho (by omega) X2.out)
  have X3 := lh (only_box ho (by omega) X3.out)
  have HB := lh (HB.out.trans (ho.below (by omega)))
  have hz4 : w2.heap.size ≤ (w3.setCell ⟨gx, 21, none⟩ (.int .i64 ov)).heap.size := by rw [ho.size]; exact hz3
  clear ho hc4 hb4 e9 e9f d21 d21f hz3 HC HCY HT1 X1
  generalize w3.setCell ⟨gx, 21, none⟩ (.int .i64 ov) = w5 at HC4 X2 X3 HB hz4 ⊢
  refine (CT.out _ _ _ _ HC4.out).mono ?_
  rintro e w6 ⟨rfl, tb6, h6, f6⟩
  have HC6 := lh h6
  have hU := f6.under hgx hz4
  have FX := lh f6
  have X2a := lh X2.out
  have X2 := lh (X2.out.below hU (by omega))
  clear h6 f6 CT
  have ⟨e11, e11f⟩ := k.cell_of X2.out (i := 11) rfl
  skip
  go_wp2
  go_loopw [27] (fun q wr => ∃ (j : Nat) (tb' : Option Nat), j ≤ L.n ∧ q = .int .i64 j ∧ Cyc w2.heap.size gx i L tb' (allA i.master f1 (i.cmds.take j) a1) (R1 ++ allR i.master f1 (i.cmds.take j) a1) f1 false wr ∧ Fx gx none w5 tb' wr) (fun q _ => L.n - (intOf q).toNat)
  case atStart => exact ⟨0, tb6, Nat.zero_le _, rfl, by simpa [allA, allR] using HC6.out, FX.out⟩
  case round =>
   obtain ⟨j, tb', hj, rfl, hc, hf⟩ := hrel
   have HC := lh hc
   have HF := lh hf
   have hU := hf.under hgx hz4
   have hzr : w2.heap.size ≤ wr.heap.size := Nat.le_trans hz4 hf.fr.size
   clear hc hf HC6 FX
   by_cases hlt : j < L.n
   ·obtain ⟨b, o, x, he, hb, hx, hr⟩ := ((HRL.out.below (HB.out.mono HBB.out)).below (hU.mono (Nat.le_trans HBB.out (by omega)))).at hlt
    obtain ⟨g0, g1, g2, g3, g4, g5, g6⟩ := ln.cells_com hr
    have hj0 : (0 : Int) ≤ (j : Int) := by omega
    have hj1 : (j : Int) < (L.n : Int) := by omega
    have HX := lh hx
    have HE := lh he
    have CK := lh fun (U : World) (hb : Below wr.heap.size wr U) => take_any (HC.out.below hb) (HA2.out j) x (HI.out.cmds x (List.mem_of_getElem? hx)) (base_in (HA2.out j) (HK2.out j) x) (by have := HL2.out j (by omega); omega)
    clear hr hx hlt
    simp only [he]
    go_upto_region 9 with fail
    clear g0 g1 g2 g3 g4 g5 g6
    obtain ⟨y1, y2, y3⟩ := k.boxes1 (w := wr) (c1 := cA x) (t1 := 62) (Below.refl _ _)
    generalize wr.alloc (.cells (cA x) 62) = wv at y1 y2 y3 ⊢
    have ⟨k0, k0f⟩ := k.cell_of y1 (i := 0) rfl
    have ⟨k1, k1f⟩ := k.cell_of y1 (i := 1) rfl
    have ⟨k2, k2f⟩ := k.cell_of y1 (i := 2) rfl
    have ⟨k3, k3f⟩ := k.cell_of y1 (i := 3) rfl
    have ⟨k4, k4f⟩ := k.cell_of y1 (i := 4) rfl
    have ⟨k5, k5f⟩ := k.cell_of y1 (i := 5) rfl
    have ⟨k6, k6f⟩ := k.cell_of y1 (i := 6) rfl
    have HFV := lh (HF.out.below y2)
    have CK := CK.out _ y2
    unfold cV at CK
    have CK := lh CK
    clear y1 y2
    go_wp2_with (go_at_call 44; ((with_reducible refine (CK.out).mono ?_); rintro e w7 ⟨rfl, tb7, hd, hf2⟩; have HD := lh hd; have HF2 := lh (HFV.out.trans hf2); clear hd hf2))
    go_roundw
    case rel => exact ⟨j + 1, tb7, by omega, by go_num, by rw [take_snoc HX.out, allA_snoc, allR_snoc, ← List.append_assoc]; exact HD.out, HF2.out⟩
    case measure => simp [intOf]; omega
   ·have hjn : j = L.n := by omega
    have HT : Hid (i.cmds.take j = i.cmds) := lh (List.take_of_length_le (by have := HLEN.out; omega))
    have HRA := lh (HA2.out j)
    have HKA := lh (HK2.out j)
    have HLA := lh (HL2.out j (by omega))
    rw [HT.out] at HRA HKA HLA HC
    generalize allA i.master f1 i.cmds a1 = a2 at HRA HKA HC HEA HER
    generalize hR2 : R1 ++ allR i.master f1 i.cmds a1 = R2 at HLA HC HER
    obtain ⟨pb, hpb⟩ : ∃ z, byB a2 i = z := ⟨_, rfl⟩
    rw [hpb] at HEA HER
    go_wp2_with (go_at_call 45; fail)
    refine (adv_any HC.out HRA.out HKA.out HI.out.master hpb).mono ?_
    rintro e w7 ⟨rfl, tb7, h7, f7⟩
    have hrp := pushed_right HRA.out i
    generalize pushed (movedA a2 i) = a3 at h7 hrp HEA HER
    go_wp2_with (go_at_call 46; fail)
    refine (end_any h7 hrp (by have := HLA.out; omega)).mono ?_
    rintro e w8 ⟨rfl, tb8, h8, f8⟩
    generalize lastA a3 pb i = a4 at h8 HEA
    generalize R2 ++ lastR a3 pb i = R4 at h8 HER
    have f9 := (HF.out.trans f7).trans f8
    have hU8 := f9.under hgx hz4
    have X3 := lh (X3.out.below hU8 x5)
    have hz8 := Nat.le_trans hz4 hU8.size
    have HB := lh (HB.out.trans (hU8.mono (by omega)))
    obtain ⟨S4, N4, W4, T4, hc8, ht8⟩ := h8
    have HC8 := lh hc8
    have hz := hc8.lt
    clear f7 h7 hrp ht8 hc8 f8 f9 hU8 HA2 HK2 HL2 HRD HRL CA CR HC HF hU
    have ⟨d38, d38f⟩ := k.cell_of HC8.out.box (i := 38) rfl
    go_upto_region 13 with fail
    have hne : gx ≠ w.heap.size + 2 := by omega
    refine wp_region_T (by kernel_rfl) (fun w' => Fr (w.heap.size + 2) none w8 w') [] (Fr.of_below ((Below.refl _ _).drew)) (fun hHeld => ?_)
    refine tk0 0 rfl ?_ ?_ ?_
    rotate_left
    ·intro; go_simp <;> with_reducible rfl
    try simp only [Act.put, p1, p2, p3, p4, p6]
    refine tkv 1 rfl (axV a4 S4 N4 W4) (by exact m_z_ax HC8.out.ax hz hne 36 rfl rfl rfl) ?_
    try simp only [Act.put, p1, p2, p3, p4, p5, p6]
    refine tk0 2 rfl ?_ ?_ ?_
    rotate_left
    ·intro; go_simp <;> with_reducible rfl
    try simp only [Act.put, p1, p2, p3, p4, p5, p6]
    refine tk 3 rfl ?_ ?_ ?_
    rotate_left
    ·intro w_ hSw; have q0 := hSw.cellat hz hne d38; clear hSw; go_simp <;> (with_reducible rfl)
    try simp only [Act.put, p1, p2, p3, p4, p5, p6]
    refine ry [4] ?_
    refine ar1 rfl fun K hK => ?_
    rw [if_pos (by rfl)]
    refine m_w_old (X3.out.below ((Below.refl w8.heap.size w8).drew) (by omega)) rfl a4 S4 N4 W4 4 37 rfl rfl rfl rfl ?_
    intro w9 hw9 x9 hb9 ha9 hs9
    have ho := (Only.refl (w.heap.size + 2) w8.drew).sets (axC a4 S4 N4 W4) 0
    rw [hw9] at ho
    have X9 := lh x9
    have hT := (Fr.of_below ((Below.refl w8.heap.size w8).drew)).trans (Nx.refl _ _) (Fr.of_only (g := w.heap.size + 2) (tb := none) ho)
    have HO := lh ho
    clear hw9 x9 hb9 ha9 hs9 ho
    refine hK.out _ _ hT (fun hHeld => ?_)
    clear hK K
    try simp only [Act.put, p1, p2, p3, p4, p5, p6]
    refine tk0 5 rfl ?_ ?_ ?_
    rotate_left
    ·intro; go_simp <;> with_reducible rfl
    try simp only [Act.put, p1, p2, p3, p4, p5, p6]
    refine wpAnyT_done (by kernel_rfl) ?_ _
    go_wp2
    have hc := HC8.out.below ((Below.refl w8.heap.size w8).drew)
    have htl := told_lies hc.told
    have hoA := hc.new (w.heap.size + 2) x5
    rw [HEA.out, HER.out]
    refine bodyPost_ret (k.results_cell_tmp rfl rfl (run_loadVar_mid w9 (w.heap.size + 2) 0 35 _ _ X9.out.range rfl rfl (by kernel_rfl))) rfl ⟨S4, N4, W4, T4, rfl, ⟨rd_only hc.rows.S HO.out hoA.S, rd_only hc.rows.N HO.out hoA.N, rd_only hc.rows.W HO.out hoA.W⟩, rd_only htl.1 HO.out (htl.2 _ (by omega)), (HB.out.drew).trans (HO.out.below (by omega)), fun q hq _ _ => ⟨hc.new q (by omega), htl.2 q (by omega)⟩⟩
end Go.Proofs.YtijlccblabadaaaGreat.cx
end
section
namespace Go.Proofs.YtijlccblabadaaaGreat.cx
open Go.ChangeShapes Go.WideShapes Go.ChangeAt Go.RowKit Go.Proofs.YtijlccblabadaaaGreat.k Go.Proofs.YtijlccblabadaaaGreat.rr Go.Proofs.YtijlccblabadaaaGreat.ax
open Go.Proofs.YtijlccblabadaaaGreat.ln (C RdC RdI iC cC cV lnV)
set_option linter.unusedVariables false
set_option maxRecDepth 100000
def rawA (l : Lm) (win homeAt fast creep : Int) : Ax := ⟨0, l, win, homeAt, fast, creep, 0, 0, [], 0, [], [], false, hm.zeroH, 100, 0, 0, 0, false⟩
theorem rd_n (α : Type) (enc : α → List Value) (z : Nat) (w : World) (B : Nat) : Rd enc z w B none 0 0 [] := Rd.none_ _ _ _ _
set_option maxHeartbeats 8000000 in
theorem anew_any (l : Lm) (win homeAt fast creep : Int) (hl : WideL l) (w : World) : Calls Tryz.prog 10 #[lmV l, .int .i64 win, .int .i64 homeAt, .int .i64 fast, .int .i64 creep] w (GotN l win homeAt fast creep w) := by
 obtain ⟨md, hmd⟩ : ∃ z, decide (MadeP l win homeAt fast creep) = z := ⟨_, rfl⟩
 have CK := lh fun U => makes_any l win homeAt fast creep hl hmd U
 obtain ⟨x1, x2, x3, x4⟩ := k.boxes2 (w := w) (c1 := lmA l) (t1 := 23) (c2 := zAx) (t2 := 35) (Below.refl _ _)
 have X1 : Hid (k.Box _ w.heap.size 0 (lmC l)) := lh x1
 have X2 := lh (zbox x2)
 have HB := lh x3
 clear x1 x2 x3
 cases md
 ·have hn := of_decide_eq_false hmd
  unfold GotN
  rw [show newOf l win homeAt fast creep = zeroA from if_neg hn, show newE l win homeAt fast creep = 1 from if_neg hn]
  clear hmd hn hl
  go_enter Tryz.func10, Tryz.ntmps10
  go_upto_region 1 with fail
  generalize (w.alloc (.cells (lmA l) 23)).alloc (.cells zAx 35) = w2 at X1 X2 HB x4 ⊢
  have ⟨c0, c0f⟩ := k.cell_of X1.out (i := 0) rfl
  have ⟨c1, c1f⟩ := k.cell_of X1.out (i := 1) rfl
  have ⟨c2, c2f⟩ := k.cell_of X1.out (i := 2) rfl
  have ⟨c3, c3f⟩ := k.cell_of X1.out (i := 3) rfl
  have ⟨c4, c4f⟩ := k.cell_of X1.out (i := 4) rfl
  go_wp2_with (first | (go_at_call 24; ((with_reducible refine (CK.out _).mono ?_); rintro e w3 ⟨rfl, hb⟩; have HB := lh (HB.out.trans (hb.mono HB.out.size)); have X1 := lh (X1.out.below hb (by omega)); have X2 := lh (X2.out.below hb x4); have x4 := Nat.lt_of_lt_of_le x4 hb.size; clear hb c0 c0f c1 c1f c2 c2f c3 c3f c4 c4f; have ⟨c0, c0f⟩ := k.cell_of X1.out (i := 0) rfl; have ⟨c1, c1f⟩ := k.cell_of X1.out (i := 1) rfl; have ⟨c2, c2f⟩ := k.cell_of X1.out (i := 2) rfl; have ⟨c3, c3f⟩ := k.cell_of X1.out (i := 3) rfl; have ⟨c4, c4f⟩ := k.cell_of X1.out (i := 4) rfl)) | ((with_reducible refine m_ax_old X2.out zeroA nS nS nS 10 20 ?_ ?_ ?_ ?_ ?_ ?_); rfl; rfl; rfl; rfl; rfl; intro w9 hw9 x9 hb9 ha9 hs9; have ho := (Only.refl (w.heap.size + 1) w3).sets (axC zeroA nS nS nS) 0; rw [hw9] at ho; have HO := lh ho; have X9 := lh x9; clear hw9 x9 hb9 ha9 hs9 ho))
  exact bodyPost_ret (k.results_cell_tmp rfl rfl (run_loadVar_mid w9 (w.heap.size + 1) 0 35 _ _ X9.out.range rfl rfl (by kernel_rfl))) rfl ⟨nS, nS, nS, rfl, ⟨rd_n _ _ _ _ _, rd_n _ _ _ _ _, rd_n _ _ _ _ _⟩, HB.out.trans (HO.out.below (by omega))⟩
 ·have hy := of_decide_eq_true hmd
  have CN := lh fun (U : World) => at_any (rawA l win homeAt fast creep) hy.2.1 hy.2.2.1 (p := 0) ⟨by omega, by omega⟩ nS nS nS U
  unfold GotN
  rw [show newOf l win homeAt fast creep = stood (rawA l win homeAt fast creep) 0 from if_pos hy, show newE l win homeAt fast creep = 0 from if_pos hy]
  clear hmd hy hl
  go_enter Tryz.func10, Tryz.ntmps10
  go_upto_region 1 with fail
  generalize (w.alloc (.cells (lmA l) 23)).alloc (.cells zAx 35) = w2 at X1 X2 HB x4 ⊢
  have ⟨c0, c0f⟩ := k.cell_of X1.out (i := 0) rfl
  have ⟨c1, c1f⟩ := k.cell_of X1.out (i := 1) rfl
  have ⟨c2, c2f⟩ := k.cell_of X1.out (i := 2) rfl
  have ⟨c3, c3f⟩ := k.cell_of X1.out (i := 3) rfl
  have ⟨c4, c4f⟩ := k.cell_of X1.out (i := 4) rfl
  go_wp2_with (first | (go_at_call 24; ((with_reducible refine (CK.out _).mono ?_); rintro e w3 ⟨rfl, hb⟩; have HB := lh (HB.out.trans (hb.mono HB.out.size)); have X1 := lh (X1.out.below hb (by omega)); have X2 := lh (X2.out.below hb x4); have x4 := Nat.lt_of_lt_of_le x4 hb.size; clear hb c0 c0f c1 c1f c2 c2f c3 c3f c4 c4f; have ⟨c0, c0f⟩ := k.cell_of X1.out (i := 0) rfl; have ⟨c1, c1f⟩ := k.cell_of X1.out (i := 1) rfl; have ⟨c2, c2f⟩ := k.cell_of X1.out (i := 2) rfl; have ⟨c3, c3f⟩ := k.cell_of X1.out (i := 3) rfl; have ⟨c4, c4f⟩ := k.cell_of X1.out (i := 4) rfl)) | ((with_reducible refine m_ax_new (rawA l win homeAt fast creep) nS nS nS 12 26 ?_ ?_ ?_ ?_ ?_ ?_); rfl; rfl; rfl; rfl; rfl; intro w4 x5 hb5 hz5; have HB := lh (HB.out.trans (hb5.mono HB.out.size)); have X5 := lh x5; have X2 := lh (X2.out.below hb5 x4); have hz4 := x4; clear x5 c0 c0f c1 c1f c2 c2f c3 c3f c4 c4f) | ((with_reducible refine m_ax_load X5.out 12 ?_ ?_ ?_ ?_); rfl; rfl; rfl; (try simp only [Act.put])) | (go_at_call 25; fail))
  refine (CN.out _).mono ?_
  rintro e w6 ⟨S', rfl, hs, hn, hb⟩
  have HS := lh hs
  have X2 := lh (X2.out.below hb (by omega))
  have HB := lh (HB.out.trans (hb.mono HB.out.size))
  have hoff : Off (w.heap.size + 1) S' := fun h b o x e => by have := hn b o x e; omega
  clear hs hn hb CN
  go_wp2_with ((with_reducible refine m_ax_old X2.out (stood (rawA l win homeAt fast creep) 0) S' nS nS 10 28 ?_ ?_ ?_ ?_ ?_ ?_); rfl; rfl; rfl; rfl; rfl; intro w9 hw9 x9 hb9 ha9 hs9; have ho := (Only.refl (w.heap.size + 1) w6).sets (axC (stood (rawA l win homeAt fast creep) 0) S' nS nS) 0; rw [hw9] at ho; have HO := lh ho; have X9 := lh x9; clear hw9 x9 hb9 ha9 hs9 ho)
  exact bodyPost_ret (k.results_cell_tmp rfl rfl (run_loadVar_mid w9 (w.heap.size + 1) 0 35 _ _ X9.out.range rfl rfl (by kernel_rfl))) rfl ⟨S', nS, nS, rfl, ⟨rd_only HS.out HO.out hoff, rd_n _ _ _ _ _, rd_n _ _ _ _ _⟩, HB.out.trans (HO.out.below (by omega))⟩
end Go.Proofs.YtijlccblabadaaaGreat.cx
end
section
namespace Go.Proofs.YtijlccblabadaaaGreat.ax
open Go.ChangeShapes Go.WideShapes Go.ChangeAt Go.RowKit Go.Proofs.YtijlccblabadaaaGreat.k Go.Proofs.YtijlccblabadaaaGreat.rr
open Go.Proofs.YtijlccblabadaaaGreat.ln (C RdC RdI)
set_option linter.unusedVariables false
set_option maxRecDepth 100000
theorem new_any (l : Lm) (win homeAt fast creep : Int) (hl : WideL l) (h1 : InR win) (h2 : InR homeAt) (h3 : InR fast) (h4 : InR creep) (w : World) : Calls Tryz.prog 10 #[lmV l, .int .i64 win, .int .i64 homeAt, .int .i64 fast, .int .i64 creep] w (GotN l win homeAt fast creep w) := cx.anew_any l win homeAt fast creep hl w
theorem right_any (a : Ax) (hw : WideA a) {S N W : Sl} {B : Nat} {w : World} (h : RdA w B a S N W) (hB : B ≤ w.heap.size) : Calls Tryz.prog 14 #[axV a S N W] w fun e w' => e = .returned (.bool (rightB a)) ∧ Below w.heap.size w w' := cx.aright_any a hw h hB rfl
theorem bounds_any (a : Ax) (S N W : Sl) (w : World) : Calls Tryz.prog 17 #[axV a S N W] w fun e w' => e = .returned (lmV (bounds a)) ∧ Below w.heap.size w w' := cx.bounds_any a S N W w
theorem out_any (a : Ax) (g : GoodA a) {S N W : Sl} {B : Nat} {w : World} (h : RdA w B a S N W) (hB : B ≤ w.heap.size) : Calls Tryz.prog 19 #[axV a S N W] w fun e w' => e = .returned (.int .i64 (outA a)) ∧ Below w.heap.size w w' := cx.aout_any a g.right h hB
theorem step_any (a : Ax) (g : GoodA a) (i : In) (hi : WideI i) {S N W L : Sl} {B : Nat} {w : World} (h : RdA w B a S N W) (hL : RdC w B L.A L.n L.c i.cmds) (hB : B ≤ w.heap.size) (hn : L.n ≤ 20) : Calls Tryz.prog 22 #[axV a S N W, inV i L] w (GotS (stepA a i) (stepR a i) S N W L w) := cx.astep_any a g i hi h hL hB hn
end Go.Proofs.YtijlccblabadaaaGreat.ax
end
section
namespace Go.Proofs.YtijlccblabadaaaGreat.ax
set_option maxRecDepth 100000
open Go.ChangeShapes Go.WideShapes Go.ChangeAt Go.RowKit Go.Proofs.YtijlccblabadaaaGreat.k Go.Proofs.YtijlccblabadaaaGreat.rr
open Go.Proofs.YtijlccblabadaaaGreat.ln (C RdC RdI iC iC_len iC_one cC)
set_option linter.unusedVariables false
set_option maxRecDepth 100000 in
set_option maxHeartbeats 4000000 in
theorem awake_any (w : World) : Calls Tryz.prog 9 #[] w fun e w' => e = .returned (.bool true) ∧ Below w.heap.size w w' := by
 have G0 : GoodA fixA0 := new_good fix_made
 have C1 : Hid (∀ W, Calls Tryz.prog 10 #[.agg #[.int .i64 5, .int .i64 2, .int .i64 2, .int .i64 (-100), .int .i64 100], .int .i64 1, .int .i64 0, .int .i64 5, .int .i64 1] W fun e w' => ∃ S N T : Sl, e = .returned (.tuple #[axV fixA0 S N T, .int .i64 0]) ∧ RdA w' w'.heap.size fixA0 S N T ∧ Below W.heap.size W w') := lh fun W => by
  have h := new_any fixL 1 0 5 1 ⟨by decide, by decide, by decide, by decide, by decide⟩ (by decide) (by decide) (by decide) (by decide) W
  have e0 : newOf fixL 1 0 5 1 = fixA0 := if_pos fix_made
  have e1 : newE fixL 1 0 5 1 = 0 := if_pos fix_made
  unfold GotN at h
  rw [e0, e1] at h
  exact h
 have G1 : GoodA fixA1 := by rw [← fix_one]; exact G0.step ⟨by decide, by decide, by decide, by decide, fun x hx => by cases hx⟩
 have C2 : Hid (∀ (W : World) (S N T : Sl), RdA W W.heap.size fixA0 S N T → Calls Tryz.prog 22 #[axV fixA0 S N T, .agg #[.bool true, .bool true, .int .i64 0, .int .i64 0, .bool false, .bool false, .bool false, .bool false, .bool false, .int .i64 100, .int .i64 0, .slice none 0 0]] W (GotS fixA1 (stepR fixA0 fixI1) S N T ⟨none, 0, 0⟩ W)) := lh fun W S N T h => by
  have h2 := step_any fixA0 G0 fixI1 ⟨by decide, by decide, by decide, by decide, fun x hx => by cases hx⟩ (L := ⟨none, 0, 0⟩) h (Rd.none_ _ _ _ _) (Nat.le_refl _) (by decide)
  rw [fix_one] at h2
  exact h2
 have C3 : Hid (∀ (W : World) (S N T : Sl) (A : Option Addr) (n c : Nat), RdA W W.heap.size fixA1 S N T → RdC W W.heap.size A n c [relC 7 20 5] → Calls Tryz.prog 22 #[axV fixA1 S N T, .agg #[.bool true, .bool true, .int .i64 0, .int .i64 0, .bool false, .bool false, .bool false, .bool false, .bool false, .int .i64 100, .int .i64 0, .slice A n c]] W (GotS (stepA fixA1 fixI2) [(7, 1)] S N T ⟨A, n, c⟩ W)) := lh fun W S N T A n c h hL => by
  have h2 := step_any fixA1 G1 fixI2 ⟨by decide, by decide, by decide, by decide, fun x hx => by rw [List.mem_singleton.1 hx]; exact ⟨by decide, by decide, by decide, by decide, by decide, by decide, by decide⟩⟩ (L := ⟨A, n, c⟩) h hL (Nat.le_refl _) (by show n ≤ 20; rw [← hL.1]; decide)
  rw [fix_two.2.2] at h2
  exact h2
 have e3 := fix_two.1
 have e4 := fix_two.2.1
 have e5 : fixA1.st = 1 := rfl
 generalize stepR fixA0 fixI1 = R1 at C2
 generalize stepA fixA1 fixI2 = a2 at C3 e3 e4
 generalize fixA1 = a1 at C2 C3 G1 e5
 generalize fixA0 = a0 at C1 C2 G0
 go_enter Tryz.func9, Tryz.ntmps9
 go_upto_region 2 with (first
  | (go_at_call 10; ((with_reducible refine (C1.out _).mono ?_); rintro e v1 ⟨S1, N1, T1, rfl, hr, hb⟩; have HR := lh hr; have HB := lh hb; clear hr hb))
  | ((with_reducible refine m_ax_new (w := v1) a0 S1 N1 T1 1 8 ?_ ?_ ?_ ?_ ?_ ?_); rfl; rfl; rfl; rfl; rfl; intro w2 x1 hb2 hz2; have X1 := lh x1; have hg1 : w.heap.size ≤ v1.heap.size := HB.out.size; have HB := lh (HB.out.trans (hb2.mono hg1)); have HF := lh (HR.out.off (Nat.le_refl _)); have HR := lh (HR.out.past hb2); clear x1 hb2))
 go_upto_region 3 with (first
  | ((with_reducible refine m_ax_load X1.out 1 ?_ ?_ ?_ ?_); rfl; rfl; rfl; (try simp only [Act.put]))
  | (go_at_call 22; ((with_reducible refine (C2.out w2 S1 N1 T1 HR.out).mono ?_); rintro e w3 ⟨S2, N2, T2, L2, rfl, hr, hl, hb, ho⟩; have HO := lh (ho v1.heap.size hz2 HF.out (fun h => absurd h (Nat.lt_irrefl _))).1; have HR := lh hr; have X1 := lh (X1.out.below hb hz2); have hz2 := Nat.lt_of_lt_of_le hz2 hb.size; have HB := lh (HB.out.trans (hb.mono HB.out.size)); clear hr hl hb ho HF))
  | ((with_reducible refine m_ax_old X1.out a1 S2 N2 T2 1 14 ?_ ?_ ?_ ?_ ?_ ?_); rfl; rfl; rfl; rfl; rfl; intro w4 hw2 x1 hb2 ha2 hs2; have HR := lh (show RdA w4 w4.heap.size a1 S2 N2 T2 by rw [hs2, ← hw2]; exact HR.out.aside HO.out _); have HB := lh (HB.out.trans (hb2.mono hg1)); rw [← hs2] at hz2; clear hw2; have X1 := lh x1; clear x1 hb2 ha2 hs2))
 go_upto_region 4 with (first
  | ((with_reducible refine m_ax_load X1.out 1 ?_ ?_ ?_ ?_); rfl; rfl; rfl; (try simp only [Act.put]))
  | (go_at_call 22; ((with_reducible refine (C3.out (w4.alloc (.cells #[.int .i64 7, .int .i64 2, .int .i64 20, .int .i64 5, .int .i64 0, .int .i64 0, .int .i64 0] 62)) S2 N2 T2 _ _ _ (HR.out.past ((Below.refl _ _).alloc (Nat.le_refl _) _)) ((one_row w4 _ (relC 7 20 5) _ rfl).more (by simp))).mono ?_); rintro e v5 ⟨S3, N3, T3, ⟨A3, n3, k3⟩, rfl, hr, hl, hb, ho⟩; have hb0 : Below w4.heap.size w4 v5 := ((Below.refl _ _).alloc (Nat.le_refl _) _).trans (hb.mono (by simp)); have HL := lh hl; have X1 := lh (X1.out.below hb0 hz2); have hz3 := Nat.lt_of_lt_of_le hz2 hb0.size; have HB := lh (HB.out.trans (hb0.mono HB.out.size)); clear hr hl hb hb0 ho HR HO hz2))
  | ((with_reducible refine m_ax_new (w := v5) a2 S3 N3 T3 3 22 ?_ ?_ ?_ ?_ ?_ ?_); rfl; rfl; rfl; rfl; rfl; intro w6 x1 hb2 hz2; have X3 := lh x1; have X1 := lh (X1.out.below hb2 hz3); have HL := lh (HL.out.below hb2); have HB := lh (HB.out.trans (hb2.mono HB.out.size)); clear x1 hb2))
 obtain ⟨bb, oo, x, eA, hbb, hx, hrg⟩ := HL.out.at (i := 0) (by rw [← HL.out.1]; decide)
 have en : n3 = 1 := HL.out.1.symm
 obtain rfl : x = (7, 1) := by simpa using hx.symm
 skip
 subst eA en
 have r0 := hrg 0 (.int .i64 7) rfl
 have r1 := hrg 1 (.int .i64 1) rfl
 rw [Nat.zero_mul, Nat.add_zero] at r0
 rw [Nat.zero_mul, Nat.add_zero] at r1
 have ⟨c0, _⟩ := k.cell_of X1.out (i := 0) rfl
 have ⟨d0, _⟩ := k.cell_of X3.out (i := 0) rfl
 have ⟨d10, _⟩ := k.cell_of X3.out (i := 10) rfl
 rw [e5] at c0
 rw [e3] at d0
 rw [e4] at d10
 clear hrg hx HL X1 X3
 go_wp2
 go_ret
 exact ⟨rfl, HB.out⟩
end Go.Proofs.YtijlccblabadaaaGreat.ax
end
