/- The landed writer's statements, whole. Conditions: the statement is such that a text could give; what the writer holds stays within 2^47 bytes. -/
import Derived.Test.YtdefgghhkknnpaaGreatDoorShWrV
namespace Go.Proofs.YtdefgghhkknnpaaGreatDoor.sh
open Go.ChangeShapes Go.WideShapes Go.ChangeAt Go.RowKit Go.Proofs.YtdefgghhkknnpaaGreatDoor Go.Proofs.YtdefgghhkknnpaaGreatDoor.k Go.Proofs.YtdefgghhkknnpaaGreatDoor.rr Go.Proofs.YtdefgghhkknnpaaGreatDoor.tk Go.Proofs.YtdefgghhkknnpaaGreatDoor.tr
set_option linter.unusedVariables false
set_option linter.unusedSimpArgs false

theorem oneIf_eq {b : Bool} : (oneIf b = 1 ↔ b = true) ∧ (oneIf b = 0 ↔ b = false) := by cases b <;> decide
theorem stS_mk (op : Int) (nm : Str) (dst val : Ex) (cs : List Ex) (ls : List (List Int)) (fs : List Str) (bs : List (List St)) (ln : Int) : stS (.mk op nm dst val cs ls fs bs ln) = stT op nm (exS dst) (exS val) (exsS cs) ls fs (blksS bs) := by rw [stS]
set_option maxRecDepth 100000 in
set_option maxHeartbeats 16000000 in
theorem stmt_step {N : Nat} (IH : WrB N) : WrS (N + 1) := by
  unfold WrS
  intro x hN hxb hxi h B g l w hK hx hlen
  obtain ⟨xo, xnm, xd, xv, xcs, xls, xfs, xbs, xl⟩ := x
  unfold StAt at hx
  obtain ⟨h1, h2, h3, hD, hV, ⟨CH, hC, hCE⟩, ⟨LH, hL, hLE⟩, hF, BH, hR, hE⟩ := hx
  subst h1 h2 h3
  rw [stB, Bool.and_eq_true] at hxb
  obtain ⟨hok, hrest⟩ := hxb
  simp only [Bool.and_eq_true, Bool.or_eq_true] at hrest
  obtain ⟨hnm, hdb, hvb, hcb, hlb, hfb, hbb⟩ := hrest
  obtain ⟨hli, hbi⟩ := hxi
  rw [stS_mk] at hlen ⊢
  have hNb : SizeOf.sizeOf xbs ≤ N := by simp only [St.mk.sizeOf_spec] at hN; omega
  have hCX : ∀ (x : List St) (q : Nat), xbs[q]? = some x → BlkC x := fun x q hx => IH x (by have := at_size hx; omega) (blksB_at' hbb hx) (inBs_at hbi hx)
  have hpl : noE xd = false → exB xd = true := fun h => by
    rcases hdb with h' | h'
    · rw [h] at h'; cases h'
    · unfold placeB at h'; rw [Bool.and_eq_true] at h'; exact h'.2
  have hvl : noE xv = false → exB xv = true := fun h => by
    rcases hvb with h' | h'
    · rw [h] at h'; cases h'
    · exact h'
  obtain ⟨w1, e1, K1, H1, F1, ng⟩ := hK.box (sC h) 49
  have NG := Lib.hid ng
  have K1 := Lib.hid K1
  have H1 := Lib.hid H1
  have F1 := Lib.hid F1
  have hD1 := hD.below F1.out.1 (Nat.le_refl _)
  have hV1 := hV.below F1.out.1 (Nat.le_refl _)
  obtain ⟨op, nm, hd, hv, s1, s2, s3, s4, ln⟩ := h
  simp only at hok hlen hD hV hC hL hF hR hD1 hV1 ⊢
  unfold stOk at hok
  rcases (show op = 1 ∨ op = 2 ∨ op = 3 ∨ op = 4 ∨ op = 5 ∨ op = 6 ∨ op = 7 ∨ op = 8 ∨ op = 9 ∨ ¬ (1 ≤ op ∧ op ≤ 9) by omega) with rfl | rfl | rfl | rfl | rfl | rfl | rfl | rfl | rfl | hno
  · rw [if_pos rfl] at hok
    simp only [Pt.mk.injEq, decide_eq_true_eq] at hok
    obtain ⟨p1, p2, p3, p4, p5, p6, p7⟩ := hok
    have hd1 := hpl (by simpa using oneIf_eq.1.1 p2)
    have hv1 := hvl (by simpa using oneIf_eq.1.1 p3)
    rw [stT, if_pos rfl] at hlen ⊢
    have hl2 := hlen
    simp only [List.length_append, List.length_cons, List.length_nil] at hl2
    have C1 := Lib.hid (expr_any K1.out hD1 hd1 (by omega))
    have C2 := Lib.hid fun W (hf : Fr B g w W) (hk : Wx B g (l ++ exS xd) W) => around_any (a := [32, 58, 61, 32]) (b := [59, 10]) hk (hV.below hf.1 (Nat.le_refl _)) hv1 (by simp only [List.length_append, List.length_cons, List.length_nil]; omega)
    clear p1 p2 p3 p4 p5 p6 p7 hl2 hd1 hv1
    clear hnm hdb hvb hcb hlb hfb hbb hli hbi hN hNb hD hV hC hCE hL hLE hF hR hE hD1 hV1 hpl hvl hK ng hlen IH hCX
    go_enter Tryz.func63, Tryz.ntmps63
    go_upto_region 1 with (fail)
    subst e1
    generalize w.alloc (.cells (sC ⟨1, nm, hd, hv, s1, s2, s3, s4, ln⟩).toArray 49) = w1 at *
    have c0 := (cell_of H1.out.box (i := 0) rfl).1
    go_wp2_with (first | ((with_reducible refine m_loadR (st_dst H1.out.box) 44 9 ?_ ?_ ?_ ?_ ?_ ?_); rfl; rfl; rfl; rfl; kernel_rfl) | (go_at_call 99; fail))
    refine C1.out.mono ?_
    rintro e w2 ⟨rfl, k9, f9⟩
    have K2 := Lib.hid k9
    have F2 := Lib.hid (F1.out.trans f9)
    have H2 := Lib.hid (H1.out.fr f9 NG.out (by decide))
    clear k9 f9 K1 F1 H1 C1 c0
    go_wp2_with (first | ((with_reducible refine m_loadR (st_val H2.out.box) 44 13 ?_ ?_ ?_ ?_ ?_ ?_); rfl; rfl; rfl; rfl; kernel_rfl) | (go_at_call 100; fail))
    refine (C2.out _ F2.out K2.out).mono ?_
    rintro e w3 ⟨rfl, k9, f9⟩
    have K9 := Lib.hid (show Wx B g (l ++ (exS xd ++ [32, 58, 61, 32] ++ exS xv ++ [59, 10])) w3 by simpa only [List.append_assoc] using k9)
    have F9 := Lib.hid (F2.out.trans f9)
    clear k9 f9
    go_wp2_with fail
    go_end0
    exact ⟨rfl, K9.out, F9.out⟩
  · rw [if_neg (by decide), if_pos rfl] at hok
    simp only [elseB, Bool.or_eq_true, decide_eq_true_eq, Pt.mk.injEq, Bool.and_eq_true] at hok
    have hle : xcs.length ≤ xbs.length := by omega
    rw [stT, if_neg (by decide), if_pos rfl] at hlen ⊢
    have C1 := Lib.hid (choice_any (h := ⟨2, nm, hd, hv, s1, s2, s3, s4, ln⟩) IH K1.out (hC.below F1.out.1 (Nat.le_refl _)) (ExsAt.below F1.out.1 (Nat.le_refl _) hCE) (hR.below F1.out.1 (Nat.le_refl _)) (BlksAt.below F1.out.1 (Nat.le_refl _) hE) hcb hbb hbi hNb hle hlen)
    clear hok hle
    clear hnm hdb hvb hcb hlb hfb hbb hli hbi hN hNb hD hV hC hCE hL hLE hF hR hE hD1 hV1 hpl hvl hK ng hlen IH hCX
    go_enter Tryz.func63, Tryz.ntmps63
    go_upto_region 1 with (fail)
    subst e1
    generalize w.alloc (.cells (sC ⟨2, nm, hd, hv, s1, s2, s3, s4, ln⟩).toArray 49) = w1 at *
    have c0 := (cell_of H1.out.box (i := 0) rfl).1
    go_wp2_with (first | ((with_reducible refine m_load H1.out.box 49 3 ?_ ?_ ?_ ?_ ?_ ?_); rfl; rfl; rfl; rfl; kernel_rfl) | (go_at_call 101; fail))
    refine C1.out.mono ?_
    rintro e w2 ⟨rfl, k9, f9⟩
    have K9 := Lib.hid k9
    have F9 := Lib.hid (F1.out.trans f9)
    clear k9 f9 K1 F1 H1 C1 c0
    go_wp2_with fail
    go_end0
    exact ⟨rfl, K9.out, F9.out⟩
  · rw [if_neg (by decide), if_neg (by decide), if_pos rfl] at hok
    simp only [elseB, Bool.or_eq_true, decide_eq_true_eq, Pt.mk.injEq, Bool.and_eq_true] at hok
    have hle : xls.length ≤ xbs.length := by omega
    have hv1 := hvl (by
      have : oneIf (!noE xv) = 1 := by omega
      simpa using oneIf_eq.1.1 this)
    rw [stT, if_neg (by decide), if_neg (by decide), if_pos rfl] at hlen ⊢
    have C1 := Lib.hid (cases_any (h := ⟨3, nm, hd, hv, s1, s2, s3, s4, ln⟩) IH K1.out hV1 hv1 (hL.below F1.out.1 (Nat.le_refl _)) (LabsAt.below F1.out.1 (Nat.le_refl _) hLE) (hR.below F1.out.1 (Nat.le_refl _)) (BlksAt.below F1.out.1 (Nat.le_refl _) hE) hlb hli hbb hbi hNb hle hlen)
    clear hok hle hv1
    clear hnm hdb hvb hcb hlb hfb hbb hli hbi hN hNb hD hV hC hCE hL hLE hF hR hE hD1 hV1 hpl hvl hK ng hlen IH hCX
    go_enter Tryz.func63, Tryz.ntmps63
    go_upto_region 1 with (fail)
    subst e1
    generalize w.alloc (.cells (sC ⟨3, nm, hd, hv, s1, s2, s3, s4, ln⟩).toArray 49) = w1 at *
    have c0 := (cell_of H1.out.box (i := 0) rfl).1
    go_wp2_with (first | ((with_reducible refine m_load H1.out.box 49 3 ?_ ?_ ?_ ?_ ?_ ?_); rfl; rfl; rfl; rfl; kernel_rfl) | (go_at_call 102; fail))
    refine C1.out.mono ?_
    rintro e w2 ⟨rfl, k9, f9⟩
    have K9 := Lib.hid k9
    have F9 := Lib.hid (F1.out.trans f9)
    clear k9 f9 K1 F1 H1 C1 c0
    go_wp2_with fail
    go_end0
    exact ⟨rfl, K9.out, F9.out⟩
  · rw [if_neg (by decide), if_neg (by decide), if_neg (by decide), if_pos rfl] at hok
    simp only [Pt.mk.injEq, decide_eq_true_eq] at hok
    obtain ⟨p1, p2, p3, p4, p5, p6, p7⟩ := hok
    obtain ⟨b0, rfl⟩ : ∃ b0, xbs = [b0] := by
      match xbs, p7 with
      | [b0], _ => exact ⟨b0, rfl⟩
    have hTT : stT 4 nm (exS xd) (exS xv) (exsS xcs) xls xfs (blksS [b0]) = stT 4 nm [] [] (exsS xcs) [] [] (blksS [b0]) := by
      rw [stT, if_neg (by decide), if_neg (by decide), if_neg (by decide), if_pos rfl, stT, if_neg (by decide), if_neg (by decide), if_neg (by decide), if_pos rfl]
    rw [hTT] at hlen ⊢
    have C1 := Lib.hid (count_any (h := ⟨4, nm, hd, hv, s1, s2, s3, s4, ln⟩) K1.out (hC.below F1.out.1 (Nat.le_refl _)) (ExsAt.below F1.out.1 (Nat.le_refl _) hCE) (hR.below F1.out.1 (Nat.le_refl _)) (BlksAt.below F1.out.1 (Nat.le_refl _) hE) hcb p4 (hCX b0 0 rfl) hlen)
    obtain ⟨T, hT⟩ : ∃ T, stT 4 nm [] [] (exsS xcs) [] [] (blksS [b0]) = T := ⟨_, rfl⟩
    simp only at C1
    rw [hT] at C1 ⊢
    clear p1 p2 p3 p4 p5 p6 p7 hTT hT
    clear hnm hdb hvb hcb hlb hfb hbb hli hbi hN hNb hD hV hC hCE hL hLE hF hR hE hD1 hV1 hpl hvl hK ng hlen IH hCX
    go_enter Tryz.func63, Tryz.ntmps63
    go_upto_region 1 with (fail)
    subst e1
    generalize w.alloc (.cells (sC ⟨4, nm, hd, hv, s1, s2, s3, s4, ln⟩).toArray 49) = w1 at *
    have c0 := (cell_of H1.out.box (i := 0) rfl).1
    go_wp2_with (first | ((with_reducible refine m_load H1.out.box 49 3 ?_ ?_ ?_ ?_ ?_ ?_); rfl; rfl; rfl; rfl; kernel_rfl) | (go_at_call 103; fail))
    refine C1.out.mono ?_
    rintro e w2 ⟨rfl, k9, f9⟩
    have K9 := Lib.hid k9
    have F9 := Lib.hid (F1.out.trans f9)
    clear k9 f9 K1 F1 H1 C1 c0
    go_wp2_with fail
    go_end0
    exact ⟨rfl, K9.out, F9.out⟩
  · rw [if_neg (by decide), if_neg (by decide), if_neg (by decide), if_neg (by decide), if_pos (by decide)] at hok
    simp only [Pt.mk.injEq, decide_eq_true_eq] at hok
    obtain ⟨p1, p2, p3, p4, p5, p6, p7⟩ := hok
    obtain ⟨b0, rfl⟩ : ∃ b0, xbs = [b0] := by
      match xbs, p7 with
      | [b0], _ => exact ⟨b0, rfl⟩
    obtain ⟨A4, m, c4⟩ := s4
    have hRd : Rd slC 1 w B A4 m c4 BH := hR
    obtain rfl : m = 1 := by have := hE.len; have := hRd.1; simp only [List.length_cons, List.length_nil] at *; omega
    obtain ⟨z0, bh, b2, o2, hz0, hza, rfl, hb2, rb⟩ := blk_row hRd hE (q := 0) (by decide)
    obtain rfl : b0 = z0 := by simpa using hz0
    rw [Nat.add_zero] at rb
    have hv1 := hvl (by simpa using oneIf_eq.1.1 p3)
    rw [stT, if_neg (by decide), if_neg (by decide), if_neg (by decide), if_neg (by decide), if_pos rfl] at hlen ⊢
    have hl2 := hlen
    simp only [List.length_append, List.length_cons, List.length_nil, blksS, List.headD_cons] at hl2
    have CB := Lib.hid fun W (hf : Fr B g w W) (l' : Str) (hk : Wx B g l' W) hl => hCX b0 0 rfl bh B g l' W hk (hza.below hf.1 (Nat.le_refl _)) hl
    have RB := Lib.hid fun W (hf : Fr B g w W) => (hf.1.cell (p := ⟨b2, o2, none⟩) hb2).trans rb
    simp only [Sl.v] at CB RB
    rw [show (blksS [b0]).headD [] = stsS b0 by rw [blksS]; rfl]
    have C1 := Lib.hid (around_any (a := [87, 72, 73, 76, 69, 32]) (b := [32, 68, 79, 10]) K1.out hV1 hv1 (by simp only [List.length_append, List.length_cons, List.length_nil]; omega))
    have HL := Lib.hid hl2
    clear p1 p2 p3 p4 p5 p6 p7 hl2 hv1 hz0 hza hb2 rb hRd
    clear hnm hdb hvb hcb hlb hfb hbb hli hbi hN hNb hD hV hC hCE hL hLE hF hR hE hD1 hV1 hpl hvl hK ng hlen IH hCX
    go_enter Tryz.func63, Tryz.ntmps63
    go_upto_region 1 with (fail)
    subst e1
    generalize w.alloc (.cells (sC ⟨5, nm, hd, hv, s1, s2, s3, ⟨some ⟨b2, o2, none⟩, 1, c4⟩, ln⟩).toArray 49) = w1 at *
    have c0 := (cell_of H1.out.box (i := 0) rfl).1
    go_wp2_with (first | ((with_reducible refine m_loadR (st_val H1.out.box) 44 34 ?_ ?_ ?_ ?_ ?_ ?_); rfl; rfl; rfl; rfl; kernel_rfl) | (go_at_call 100; fail))
    refine C1.out.mono ?_
    rintro e w2 ⟨rfl, k9, f9⟩
    have K2 := Lib.hid k9
    have F2 := Lib.hid (F1.out.trans f9)
    have H2 := Lib.hid (H1.out.fr f9 NG.out (by decide))
    clear k9 f9 K1 F1 H1 C1 c0
    have c17 := (cell_of H2.out.box (i := 17) rfl).1
    simp only [Sl.v] at c17
    have a0 := RB.out _ F2.out
    go_wp2_with (go_at_call 38; fail)
    refine (CB.out _ F2.out _ K2.out (by have := HL.out; simp only [List.length_append, List.length_cons, List.length_nil]; omega)).mono ?_
    rintro e w3 ⟨rfl, k9, f9⟩
    have K3 := Lib.hid k9
    have F3 := Lib.hid (F2.out.trans f9)
    have H3 := Lib.hid (H2.out.fr f9 NG.out (by decide))
    clear k9 f9 c17 a0 K2 F2 H2
    go_wp2_with (go_at_call 35; fail)
    refine (put_new [[69, 78, 68, 95, 87, 72, 73, 76, 69, 59, 10]] (t := [69, 78, 68, 95, 87, 72, 73, 76, 69, 59, 10]) rfl K3.out (by decide) (by have := HL.out; simp only [List.length_append, List.length_cons, List.length_nil]; omega)).mono ?_
    rintro e w4 ⟨rfl, k9, f9⟩
    have K9 := Lib.hid (show Wx B g (l ++ ([87, 72, 73, 76, 69, 32] ++ exS xv ++ [32, 68, 79, 10] ++ stsS b0 ++ [69, 78, 68, 95, 87, 72, 73, 76, 69, 59, 10])) w4 by simpa only [List.append_assoc] using k9)
    have F9 := Lib.hid (F3.out.trans f9)
    clear k9 f9
    go_wp2_with fail
    go_end0
    exact ⟨rfl, K9.out, F9.out⟩
  · rw [if_neg (by decide), if_neg (by decide), if_neg (by decide), if_neg (by decide), if_pos (by decide)] at hok
    simp only [Pt.mk.injEq, decide_eq_true_eq] at hok
    obtain ⟨p1, p2, p3, p4, p5, p6, p7⟩ := hok
    obtain ⟨b0, rfl⟩ : ∃ b0, xbs = [b0] := by
      match xbs, p7 with
      | [b0], _ => exact ⟨b0, rfl⟩
    obtain ⟨A4, m, c4⟩ := s4
    have hRd : Rd slC 1 w B A4 m c4 BH := hR
    obtain rfl : m = 1 := by have := hE.len; have := hRd.1; simp only [List.length_cons, List.length_nil] at *; omega
    obtain ⟨z0, bh, b2, o2, hz0, hza, rfl, hb2, rb⟩ := blk_row hRd hE (q := 0) (by decide)
    obtain rfl : b0 = z0 := by simpa using hz0
    rw [Nat.add_zero] at rb
    have hv1 := hvl (by simpa using oneIf_eq.1.1 p3)
    rw [stT, if_neg (by decide), if_neg (by decide), if_neg (by decide), if_neg (by decide), if_neg (by decide), if_pos rfl] at hlen ⊢
    have hl2 := hlen
    simp only [List.length_append, List.length_cons, List.length_nil, blksS, List.headD_cons] at hl2
    have CB := Lib.hid fun W (hf : Fr B g w W) (l' : Str) (hk : Wx B g l' W) hl => hCX b0 0 rfl bh B g l' W hk (hza.below hf.1 (Nat.le_refl _)) hl
    have RB := Lib.hid fun W (hf : Fr B g w W) => (hf.1.cell (p := ⟨b2, o2, none⟩) hb2).trans rb
    simp only [Sl.v] at CB RB
    rw [show (blksS [b0]).headD [] = stsS b0 by rw [blksS]; rfl]
    have C1 := Lib.hid fun W (hf : Fr B g w W) (l' : Str) (hk : Wx B g l' W) hl => around_any (a := [85, 78, 84, 73, 76, 32]) (b := [32, 69, 78, 68, 95, 82, 69, 80, 69, 65, 84, 59, 10]) hk (hV.below hf.1 (Nat.le_refl _)) hv1 hl
    have HL := Lib.hid hl2
    clear p1 p2 p3 p4 p5 p6 p7 hl2 hv1 hz0 hza hb2 rb hRd
    clear hnm hdb hvb hcb hlb hfb hbb hli hbi hN hNb hD hV hC hCE hL hLE hF hR hE hD1 hV1 hpl hvl hK ng hlen IH hCX
    go_enter Tryz.func63, Tryz.ntmps63
    go_upto_region 1 with (fail)
    subst e1
    generalize w.alloc (.cells (sC ⟨6, nm, hd, hv, s1, s2, s3, ⟨some ⟨b2, o2, none⟩, 1, c4⟩, ln⟩).toArray 49) = w1 at *
    have c0 := (cell_of H1.out.box (i := 0) rfl).1
    go_wp2_with (go_at_call 35; fail)
    refine (put_new [[82, 69, 80, 69, 65, 84, 10]] (t := [82, 69, 80, 69, 65, 84, 10]) rfl K1.out (by decide) (by have := HL.out; simp only [List.length_append, List.length_cons, List.length_nil]; omega)).mono ?_
    rintro e w2 ⟨rfl, k9, f9⟩
    have K2 := Lib.hid k9
    have F2 := Lib.hid (F1.out.trans f9)
    have H2 := Lib.hid (H1.out.fr f9 NG.out (by decide))
    clear k9 f9 K1 F1 H1 c0
    have c17 := (cell_of H2.out.box (i := 17) rfl).1
    simp only [Sl.v] at c17
    have a0 := RB.out _ F2.out
    go_wp2_with (go_at_call 38; fail)
    refine (CB.out _ F2.out _ K2.out (by have := HL.out; simp only [List.length_append, List.length_cons, List.length_nil]; omega)).mono ?_
    rintro e w3 ⟨rfl, k9, f9⟩
    have K3 := Lib.hid k9
    have F3 := Lib.hid (F2.out.trans f9)
    have H3 := Lib.hid (H2.out.fr f9 NG.out (by decide))
    clear k9 f9 c17 a0 K2 F2 H2
    go_wp2_with (first | ((with_reducible refine m_loadR (st_val H3.out.box) 44 58 ?_ ?_ ?_ ?_ ?_ ?_); rfl; rfl; rfl; rfl; kernel_rfl) | (go_at_call 100; fail))
    refine (C1.out _ F3.out _ K3.out (by have := HL.out; simp only [List.length_append, List.length_cons, List.length_nil]; omega)).mono ?_
    rintro e w4 ⟨rfl, k9, f9⟩
    have K9 := Lib.hid (show Wx B g (l ++ ([82, 69, 80, 69, 65, 84, 10] ++ stsS b0 ++ [85, 78, 84, 73, 76, 32] ++ exS xv ++ [32, 69, 78, 68, 95, 82, 69, 80, 69, 65, 84, 59, 10])) w4 by simpa only [List.append_assoc] using k9)
    have F9 := Lib.hid (F3.out.trans f9)
    clear k9 f9
    go_wp2_with fail
    go_end0
    exact ⟨rfl, K9.out, F9.out⟩
  · rw [stT, if_neg (by decide), if_neg (by decide), if_neg (by decide), if_neg (by decide), if_neg (by decide), if_neg (by decide), if_pos rfl] at hlen ⊢
    have HL := Lib.hid hlen
    clear hok hnm hdb hvb hcb hlb hfb hbb hli hbi hN hNb hD hV hC hCE hL hLE hF hR hE hD1 hV1 hpl hvl hK ng hlen IH hCX
    go_enter Tryz.func63, Tryz.ntmps63
    go_upto_region 1 with (fail)
    subst e1
    generalize w.alloc (.cells (sC ⟨7, nm, hd, hv, s1, s2, s3, s4, ln⟩).toArray 49) = w1 at *
    have c0 := (cell_of H1.out.box (i := 0) rfl).1
    go_wp2_with (go_at_call 35; fail)
    refine (put_new [[69, 88, 73, 84, 59, 10]] (t := [69, 88, 73, 84, 59, 10]) rfl K1.out (by decide) HL.out).mono ?_
    rintro e w2 ⟨rfl, k9, f9⟩
    have K9 := Lib.hid k9
    have F9 := Lib.hid (F1.out.trans f9)
    clear k9 f9
    go_wp2_with fail
    go_end0
    exact ⟨rfl, K9.out, F9.out⟩
  · rw [stT, if_neg (by decide), if_neg (by decide), if_neg (by decide), if_neg (by decide), if_neg (by decide), if_neg (by decide), if_neg (by decide), if_pos rfl] at hlen ⊢
    have HL := Lib.hid hlen
    clear hok hnm hdb hvb hcb hlb hfb hbb hli hbi hN hNb hD hV hC hCE hL hLE hF hR hE hD1 hV1 hpl hvl hK ng hlen IH hCX
    go_enter Tryz.func63, Tryz.ntmps63
    go_upto_region 1 with (fail)
    subst e1
    generalize w.alloc (.cells (sC ⟨8, nm, hd, hv, s1, s2, s3, s4, ln⟩).toArray 49) = w1 at *
    have c0 := (cell_of H1.out.box (i := 0) rfl).1
    go_wp2_with (go_at_call 35; fail)
    refine (put_new [[82, 69, 84, 85, 82, 78, 59, 10]] (t := [82, 69, 84, 85, 82, 78, 59, 10]) rfl K1.out (by decide) HL.out).mono ?_
    rintro e w2 ⟨rfl, k9, f9⟩
    have K9 := Lib.hid k9
    have F9 := Lib.hid (F1.out.trans f9)
    clear k9 f9
    go_wp2_with fail
    go_end0
    exact ⟨rfl, K9.out, F9.out⟩
  · rw [if_neg (by decide), if_neg (by decide), if_neg (by decide), if_neg (by decide), if_neg (by decide), if_neg (by decide), if_pos rfl] at hok
    simp only [Pt.mk.injEq, decide_eq_true_eq] at hok
    have hle : xfs.length = xcs.length := by omega
    rw [stT, if_neg (by decide), if_neg (by decide), if_neg (by decide), if_neg (by decide), if_neg (by decide), if_neg (by decide), if_neg (by decide), if_neg (by decide)] at hlen ⊢
    have C1 := Lib.hid (call_any (h := ⟨9, nm, hd, hv, s1, s2, s3, s4, ln⟩) K1.out (hC.below F1.out.1 (Nat.le_refl _)) (ExsAt.below F1.out.1 (Nat.le_refl _) hCE) (hF.below F1.out.1 (Nat.le_refl _)) hcb hfb hle hlen)
    clear hok hle
    clear hnm hdb hvb hcb hlb hfb hbb hli hbi hN hNb hD hV hC hCE hL hLE hF hR hE hD1 hV1 hpl hvl hK ng hlen IH hCX
    go_enter Tryz.func63, Tryz.ntmps63
    go_upto_region 1 with (fail)
    subst e1
    generalize w.alloc (.cells (sC ⟨9, nm, hd, hv, s1, s2, s3, s4, ln⟩).toArray 49) = w1 at *
    have c0 := (cell_of H1.out.box (i := 0) rfl).1
    go_wp2_with (first | ((with_reducible refine m_load H1.out.box 49 3 ?_ ?_ ?_ ?_ ?_ ?_); rfl; rfl; rfl; rfl; kernel_rfl) | (go_at_call 104; fail))
    refine C1.out.mono ?_
    rintro e w2 ⟨rfl, k9, f9⟩
    have K9 := Lib.hid k9
    have F9 := Lib.hid (F1.out.trans f9)
    clear k9 f9 K1 F1 H1 C1 c0
    go_wp2_with fail
    go_end0
    exact ⟨rfl, K9.out, F9.out⟩
  · rw [if_neg (by omega), if_neg (by omega), if_neg (by omega), if_neg (by omega), if_neg (by omega), if_neg (by omega), if_neg (by omega)] at hok
    cases hok
theorem wrb_mono {N M : Nat} (h : WrB N) (hm : M ≤ N) : WrB M := fun L hL => h L (Nat.lt_of_lt_of_le hL hm)
theorem stmt_all : ∀ N, WrS N
  | 0 => fun _ h => absurd h (by omega)
  | N + 1 => stmt_step (wrb_mono (block_step (stmt_all N)) (by omega))
/-- a block -/
theorem block_any {L : List St} (hb : stsB L = true) (hi : inSs L) {s : Sl} {B g : Nat} {l : Str} {w : World} (hK : Wx B g l w) (hS : StL w B s L) (hlen : l.length + (stsS L).length ≤ lim) :
    Calls Tryz.prog 38 #[.pointer (some ⟨g, 0, none⟩), s.v] w (Put B g l (stsS L) w) :=
  block_step (stmt_all (SizeOf.sizeOf L)) L (by omega) hb hi s B g l w hK hS hlen
end Go.Proofs.YtdefgghhkknnpaaGreatDoor.sh
