/- The document's words for statements: the given function of them. Conditions: what memory can hold; at most 2^40 parts. -/
import Derived.Test.YtdefgghhkknnpaaGreatDoorV07
namespace Go.Proofs.YtdefgghhkknnpaaGreatDoor.sh
open Go.ChangeShapes Go.WideShapes Go.ChangeAt Go.RowKit Go.Proofs.YtdefgghhkknnpaaGreatDoor Go.Proofs.YtdefgghhkknnpaaGreatDoor.k Go.Proofs.YtdefgghhkknnpaaGreatDoor.rr Go.Proofs.YtdefgghhkknnpaaGreatDoor.tk Go.Proofs.YtdefgghhkknnpaaGreatDoor.tr
set_option linter.unusedVariables false
set_option linter.unusedSimpArgs false

/-- the check of statements up to a size -/
def FiS (N : Nat) : Prop := ∀ L : List St, SizeOf.sizeOf L < N → rSs L → wsS L ≤ big → ∀ (s : Sl) (w : World), StL w w.heap.size s L → Calls Tryz.prog 40 #[s.v] w fun e w' => e = .returned (.bool (stsB L)) ∧ Below w.heap.size w w'
theorem drawn_self (w : World) (n : Nat) : Below w.heap.size w (w.drewN n) := below_drawn (Below.refl _ _) n
theorem cntS_le (op : Int) (c l f : Nat) : (cntS op c l f).2.2.2.1 ≤ c + l + 1 ∧ (cntS op c l f).2.2.2.2 ≤ 1 := by
  unfold cntS
  split <;> (try (constructor <;> simp only <;> omega))
  split <;> (try (constructor <;> simp only <;> omega))
  split <;> (try (constructor <;> simp only <;> omega))
  split <;> (try (constructor <;> simp only <;> omega))
  split <;> (constructor <;> simp only <;> omega)
set_option maxRecDepth 100000 in
set_option maxHeartbeats 40000000 in
theorem fit_s_step {N : Nat} (IH : FiS N) : FiS (N + 1) := by
  intro L hN hre hW s w hx
  obtain ⟨H, hR, hE⟩ := hx
  obtain ⟨A, n0, cap⟩ := s
  have hR : Rd sC 19 w w.heap.size A n0 cap H := hR
  have hnl := hR.len_le
  have hl0 : L.length = n0 := hE.len.symm.trans hR.1
  obtain ⟨R, hRR⟩ : ∃ R, stsB L = R := ⟨_, rfl⟩
  rw [hRR]
  have HRR := Lib.hid hRR
  have R1 := Lib.hid hR
  have E1 := Lib.hid hE
  have HL := Lib.hid hl0
  have HN := Lib.hid (And.intro hN hW)
  have HI := Lib.hid IH
  have HRE := Lib.hid hre
  clear hRR hR hE hl0 hN IH hre hW
  simp only [Sl.v]
  go_enter Tryz.func40, Tryz.ntmps40
  go_upto_region 2 with (fail)
  go_loopw [3] (fun s3 wr => ∃ q : Nat, q ≤ n0 ∧ s3 = .int .i64 q ∧ Below w.heap.size w wr ∧ stsB (L.drop q) = R) (fun i _ => n0 - (intOf i).toNat)
  case atStart => exact ⟨0, Nat.zero_le _, rfl, Below.refl _ _, HRR.out⟩
  case round =>
    obtain ⟨q, hq, rfl, hbw, hd⟩ := hrel
    by_cases hlt : q < n0
    rotate_left
    · obtain rfl : q = n0 := by omega
      have hz : ¬ (q : Int) < q := by omega
      rw [List.drop_of_length_le (by have := HL.out; omega)] at hd
      have HF : Hid (true = R) := Lib.hid hd
      have BB := Lib.hid hbw
      clear hd hbw hlt hq
      go_wp2_with fail
      go_ret
      exact ⟨ret_bool HF.out, BB.out⟩
    have r1 : Rd sC 19 wr wr.heap.size A n0 cap H := (R1.out.below hbw).more hbw.size
    obtain ⟨b1, o1, h, rfl, hb1, hp, hc1⟩ := r1.at hlt
    obtain ⟨x, hxL, hxa⟩ := E1.out.at hp
    have hsz := mem_size hxL
    rw [stsB_step hxL] at hd
    have hrx := rSs_at HRE.out hxL
    have hwx := wsS_mem (List.mem_of_getElem? hxL)
    obtain ⟨xo, xnm, xd, xv, xcs, xls, xfs, xbs, xl⟩ := x
    unfold StAt at hxa
    obtain ⟨h1, h2, h3, h4, h5, h6, ⟨LH, h7, h8⟩, h9, BH, h10, h11⟩ := hxa
    subst h1 h2 h3
    rw [rS] at hrx
    obtain ⟨hr1, hr2, hr3, hr4⟩ := hrx
    have lc : xcs.length = h.conds.l := by obtain ⟨K, a, b⟩ := h6; exact b.len.symm.trans a.1
    have ll : xls.length = h.labels.l := h8.len.symm.trans h7.1
    have lf : xfs.length = h.fields.l := h9.1
    have lb : xbs.length = h.blocks.l := h11.len.symm.trans h10.1
    simp only [St.mk.sizeOf_spec] at hsz
    rw [wS] at hwx
    have hww := HN.out
    unfold big at hww
    have wd := wE_sub h4
    have wv := wE_sub h5
    have wc := wsE_len xcs
    have wl := wL_len xls
    have wb := wsB_len xbs
    rw [stB_fit, lc, ll, lf, lb] at hd
    have NN := Lib.hid fun (W : World) => refname_any ⟨h.name.toArray⟩ W
    rw [sv_list] at NN
    have D1 := Lib.hid fun W (hW : Below w.heap.size w W) => refnone_any (h4.below hW hW.size) (rE_len hr1).1 (rE_len hr1).2 (by omega)
    have V1 := Lib.hid fun W (hW : Below w.heap.size w W) => refnone_any (h5.below hW hW.size) (rE_len hr2).1 (rE_len hr2).2 (by omega)
    have HDX := Lib.hid fun W (hW : Below w.heap.size w W) => (h4.below hW hW.size : ExAt W W.heap.size xd h.dst)
    have HVX := Lib.hid fun W (hW : Below w.heap.size w W) => (h5.below hW hW.size : ExAt W W.heap.size xv h.val)
    have D2 := Lib.hid fun (W : World) (s : Sl) (hx : ExL W W.heap.size s [xd]) => reffit_any (by rw [rEs, rEs]; exact ⟨hr1, trivial⟩) hx
    have V2 := Lib.hid fun (W : World) (s : Sl) (hx : ExL W W.heap.size s [xv]) => reffit_any (by rw [rEs, rEs]; exact ⟨hr2, trivial⟩) hx
    have C2 := Lib.hid fun W (hW : Below w.heap.size w W) => reffit_any hr3 (h6.below hW hW.size)
    rw [show exsB [xd] = exB xd by (rw [exsB, exsB]; simp)] at D2
    rw [show exsB [xv] = exB xv by (rw [exsB, exsB]; simp)] at V2
    have SH := Lib.hid fun W => refshape_any h.op W
    have w1 : IntKind.i64.wrap ((q : Int) + 1) = q + 1 := by rw [IntKind.wrap_i64]; omega
    have HQ : Hid (q + 1 ≤ n0) := Lib.hid hlt
    have HU := Lib.hid hd
    have BB := Lib.hid hbw
    have hci := Lib.hid hc1
    have eo := emp_no h.name _ rfl
    have H9 := Lib.hid h9
    have H7 := Lib.hid (And.intro h7 h8)
    have H10 := Lib.hid (And.intro h10 h11)
    have HNX := Lib.hid (show SizeOf.sizeOf xbs ≤ N ∧ wsB xbs ≤ 1099511627776 ∧ rBs xbs ∧ h.conds.l ≤ 1099511627776 ∧ h.labels.l ≤ 1099511627776 ∧ h.fields.l ≤ 1099511627776 ∧ h.blocks.l ≤ 1099511627776 from ⟨by omega, by omega, hr4, by omega, by omega, by omega, by omega⟩)
    clear hd hbw r1 hp hb1 hc1 hxL hsz hq h4 h5 h6 h7 h8 h9 h10 h11 hr1 hr2 hr3 hr4 hwx hww wd wv wc wl wb lc ll lf lb
    go_upto_region 5 with (first | ((with_reducible refine m_loadR hci.out 49 25 ?_ ?_ ?_ ?_ ?_ ?_); rfl; rfl; rfl; rfl; kernel_rfl) | ((with_reducible refine m_new 49 4 26 ?_ ?_ ?_ (sC h) ?_ ?_ ?_ ?_ (sC_one _) ?_); rfl; rfl; rfl; rfl; rfl; rfl; kernel_rfl; intro wx0 hx hb hz))
    obtain ⟨g, hg⟩ : ∃ g, wr.heap.size = g := ⟨_, rfl⟩
    rw [hg] at hx hz ⊢
    have XX0 := Lib.hid hx
    have BX0 := Lib.hid (BB.out.trans (hb.mono BB.out.size))
    have ZX0 := Lib.hid (show g < wx0.heap.size by omega)
    clear hx hb hz hci BB hg
    have c0 := (cell_of XX0.out (i := 0) rfl).1
    have c1 := (cell_of XX0.out (i := 1) rfl).1
    go_wp2_with (go_at_call 65; fail)
    refine (SH.out _).mono ?_
    rintro e wq ⟨rfl, rfl⟩
    go_upto_region 6 with (fail)
    unfold hasN hasD hasV at HU
    obtain ⟨bn, hbn⟩ : ∃ b, (h.op == 4 || h.op == 9) = b := ⟨_, rfl⟩
    obtain ⟨bd, hbd⟩ : ∃ b, (h.op == 1) = b := ⟨_, rfl⟩
    obtain ⟨bv, hbv⟩ : ∃ b, (h.op == 1 || (h.op == 3 || (h.op == 5 || h.op == 6))) = b := ⟨_, rfl⟩
    rw [hbn, hbv, hbd] at HU ⊢
    clear hbn hbd hbv SH
    simp only [sv] at c1
    generalize (⟨h.name.toArray⟩ : ByteArray) = xs at *
    go_cut [59] from 34 to 59 (fun s59 wx => s59 = .bool (!(inS9 h.op && nameB bn h.name)) ∧ Below w.heap.size w wx ∧ Box wx g 0 (sC h) ∧ g < wx.heap.size)
    case first => as_aux_lemma =>
      clear D1 V1 HDX HVX D2 V2 C2 H9 H7 H10
      by_cases ho1 : h.op < 1
      · have HR := Lib.hid (show inS9 h.op = false by unfold inS9; rw [decide_eq_false (show ¬ 1 ≤ h.op by omega)]; rfl)
        go_wp2_with fail
        go_meet
        exact ⟨by rw [HR.out]; rfl, BX0.out, XX0.out, ZX0.out⟩
      by_cases ho9 : 9 < h.op
      · have HR := Lib.hid (show inS9 h.op = false by unfold inS9; rw [decide_eq_false (show ¬ h.op ≤ 9 by omega)]; simp)
        go_wp2_with fail
        go_meet
        exact ⟨by rw [HR.out]; rfl, BX0.out, XX0.out, ZX0.out⟩
      have HR := Lib.hid (show inS9 h.op = true by unfold inS9; rw [decide_eq_true (show 1 ≤ h.op by omega), decide_eq_true (show h.op ≤ 9 by omega)]; rfl)
      cases bn
      · obtain ⟨u, hu⟩ : ∃ u, (h.name == []) = u := ⟨_, rfl⟩
        rw [hu] at eo
        have HV := Lib.hid hu
        clear hu
        cases u
        · go_wp2_with fail
          go_meet
          exact ⟨by rw [HR.out, nameB, if_neg (by decide), HV.out]; rfl, BX0.out, XX0.out, ZX0.out⟩
        · go_wp2_with fail
          go_meet
          exact ⟨by rw [HR.out, nameB, if_neg (by decide), HV.out]; rfl, BX0.out, XX0.out, ZX0.out⟩
      · go_wp2_with (go_at_call 39; fail)
        refine (NN.out _).mono ?_
        rintro e wy ⟨rfl, hb⟩
        have B1 := Lib.hid (BX0.out.trans (hb.mono BX0.out.size))
        have X1 := Lib.hid (XX0.out.below hb ZX0.out)
        have Z1 := Lib.hid (show g < wy.heap.size by have := ZX0.out; have := hb.size; omega)
        clear hb NN XX0 BX0 ZX0 c0 c1
        obtain ⟨u, hu⟩ : ∃ u, nmB h.name = u := ⟨_, rfl⟩
        rw [hu]
        have HV := Lib.hid hu
        clear hu
        cases u
        · go_wp2_with fail
          go_meet
          exact ⟨by rw [HR.out, nameB, if_pos rfl, HV.out]; rfl, B1.out, X1.out, Z1.out⟩
        · go_wp2_with fail
          go_meet
          exact ⟨by rw [HR.out, nameB, if_pos rfl, HV.out]; rfl, B1.out, X1.out, Z1.out⟩
    case rest =>
      obtain ⟨rfl, hb, hx, hz⟩ := hcut
      clear c0 c1 XX0 BX0 ZX0 eo NN
      have XX0 := Lib.hid hx
      have BX0 := Lib.hid hb
      have ZX0 := Lib.hid hz
      clear hb hx hz
      obtain ⟨u1, hu1⟩ : ∃ u, (inS9 h.op && nameB bn h.name) = u := ⟨_, rfl⟩
      have HU1 : Hid (((u1 && (dstB bd xd && (valB bv xv && (exsB xcs && (cntB (cntS h.op h.conds.l h.labels.l h.fields.l) h.conds.l h.labels.l h.fields.l h.blocks.l && (xfs.all nmB && (xls.all labB && blksB xbs))))))) && stsB (L.drop (q + 1))) = R) := Lib.hid (by rw [← HU.out, ← hu1]; simp only [Bool.and_assoc])
      rw [hu1]
      clear HU
      have HO9 := Lib.hid (show u1 = true → 1 ≤ h.op ∧ h.op ≤ 9 from fun e => by
        rw [e, Bool.and_eq_true] at hu1
        have := hu1.1
        unfold inS9 at this
        simpa using this)
      clear hu1
      cases u1
      · have HF := Lib.hid (show R = false by rw [← HU1.out]; simp)
        go_wp2_with fail
        go_ret
        exact ⟨ret_bool HF.out.symm, BX0.out⟩
      have HOP := Lib.hid (HO9.out rfl)
      clear HO9
      go_upto_region 8 with (fail)
      have c2 := (cell_of XX0.out (i := 2) rfl).1
      go_cut [89] from 60 to 89 (fun s89 wx => s89 = .bool (!(dstB bd xd)) ∧ Below w.heap.size w wx ∧ Box wx g 0 (sC h) ∧ g < wx.heap.size)
      case first => as_aux_lemma =>
        clear V1 V2 HVX C2 H9 H7 H10
        have HPO := Lib.hid (ex_op (HDX.out _ (Below.refl _ _)))
        cases bd
        · go_wp2_with (first | ((with_reducible refine m_loadR (st_dst XX0.out) 44 84 ?_ ?_ ?_ ?_ ?_ ?_); rfl; rfl; rfl; rfl; kernel_rfl) | (go_at_call 67; fail))
          refine (D1.out _ BX0.out).mono ?_
          rintro e wy ⟨rfl, hb⟩
          have B1 := Lib.hid (BX0.out.trans (hb.mono BX0.out.size))
          have X1 := Lib.hid (XX0.out.below hb ZX0.out)
          have Z1 := Lib.hid (show g < wy.heap.size by have := ZX0.out; have := hb.size; omega)
          clear hb XX0 BX0 ZX0 c2
          obtain ⟨u, hu⟩ : ∃ u, noE xd = u := ⟨_, rfl⟩
          rw [hu]
          have HV := Lib.hid hu
          clear hu
          cases u
          · go_wp2_with fail
            go_meet
            exact ⟨by rw [dstB, if_neg (by decide), HV.out]; rfl, B1.out, X1.out, Z1.out⟩
          · go_wp2_with fail
            go_meet
            exact ⟨by rw [dstB, if_neg (by decide), HV.out]; rfl, B1.out, X1.out, Z1.out⟩
        · by_cases h34 : h.dst.op = 3 ∨ h.dst.op = 4
          rotate_left
          · have n3 := neb (show h.dst.op ≠ 3 by omega)
            have n4 := neb (show h.dst.op ≠ 4 by omega)
            have q3 : ¬ h.dst.op = 3 := by omega
            have q4 : ¬ h.dst.op = 4 := by omega
            have HV := Lib.hid (show placeB xd = false by unfold placeB; rw [HPO.out, n3, n4]; rfl)
            go_wp2_with fail
            go_meet
            exact ⟨by rw [dstB, if_pos rfl, HV.out]; rfl, BX0.out, XX0.out, ZX0.out⟩
          · have HV := Lib.hid (show placeB xd = exB xd by
              unfold placeB
              rw [HPO.out]
              rcases h34 with e | e <;> rw [e] <;> rfl)
            rcases h34 with e34 | e34
            all_goals
              go_wp2_with (first | ((with_reducible refine m_loadR (st_dst XX0.out) 44 73 ?_ ?_ ?_ ?_ ?_ ?_); rfl; rfl; rfl; rfl; kernel_rfl) | ((with_reducible refine m_one xd h.dst (fun W hW => HDX.out W (BX0.out.trans (hW.mono BX0.out.size))) 74 ?_ ?_ ?_ ?_); rfl; rfl; rfl; intro w2 hl hb2) | (go_at_call 66; fail))
              have B2 := Lib.hid (BX0.out.trans (hb2.mono BX0.out.size))
              have X2 := Lib.hid (XX0.out.below hb2 ZX0.out)
              have Z2 := Lib.hid (show g < w2.heap.size by have := ZX0.out; have := hb2.size; omega)
              refine (D2.out _ _ hl).mono ?_
              rintro e wy ⟨rfl, hb⟩
              have B1 := Lib.hid (B2.out.trans (hb.mono B2.out.size))
              have X1 := Lib.hid (X2.out.below hb Z2.out)
              have Z1 := Lib.hid (show g < wy.heap.size by have := Z2.out; have := hb.size; omega)
              clear hb hb2 hl XX0 BX0 ZX0 c2 X2 B2 Z2 D2
              obtain ⟨u, hu⟩ : ∃ u, exB xd = u := ⟨_, rfl⟩
              rw [hu]
              have HW := Lib.hid hu
              clear hu
              cases u
              · go_wp2_with fail
                go_meet
                exact ⟨by rw [dstB, if_pos rfl, HV.out, HW.out]; rfl, B1.out, X1.out, Z1.out⟩
              · go_wp2_with fail
                go_meet
                exact ⟨by rw [dstB, if_pos rfl, HV.out, HW.out]; rfl, B1.out, X1.out, Z1.out⟩
      case rest =>
        obtain ⟨rfl, hb, hx, hz⟩ := hcut
        clear c2 XX0 BX0 ZX0 D1 D2 HDX
        have XX0 := Lib.hid hx
        have BX0 := Lib.hid hb
        have ZX0 := Lib.hid hz
        clear hb hx hz
        obtain ⟨u2, hu2⟩ : ∃ u, dstB bd xd = u := ⟨_, rfl⟩
        rw [hu2] at HU1 ⊢
        clear hu2
        cases u2
        · have HF := Lib.hid (show R = false by rw [← HU1.out]; simp)
          go_wp2_with fail
          go_ret
          exact ⟨ret_bool HF.out.symm, BX0.out⟩
        go_upto_region 10 with (fail)
        have c14 := (cell_of XX0.out (i := 14) rfl).1
        simp only [Sl.v] at c14 C2
        go_cut [118] from 90 to 118 (fun s118 wx => s118 = .bool (!(valB bv xv && exsB xcs)) ∧ Below w.heap.size w wx ∧ Box wx g 0 (sC h) ∧ g < wx.heap.size)
        case first => as_aux_lemma =>
          clear H9 H7 H10
          obtain ⟨un, hun⟩ : ∃ u, noE xv = u := ⟨_, rfl⟩
          obtain ⟨ux, hux⟩ : ∃ u, exB xv = u := ⟨_, rfl⟩
          obtain ⟨uc, huc⟩ : ∃ u, exsB xcs = u := ⟨_, rfl⟩
          rw [hun] at V1
          rw [hux] at V2
          rw [huc] at C2
          have HV := Lib.hid (And.intro hun (And.intro hux huc))
          clear hun hux huc
          cases bv
          · go_wp2_with (first | ((with_reducible refine m_loadR (st_val XX0.out) 44 107 ?_ ?_ ?_ ?_ ?_ ?_); rfl; rfl; rfl; rfl; kernel_rfl) | (go_at_call 67; fail))
            refine (V1.out _ BX0.out).mono ?_
            rintro e wy ⟨rfl, hb⟩
            have B1 := Lib.hid (BX0.out.trans (hb.mono BX0.out.size))
            have X1 := Lib.hid (XX0.out.below hb ZX0.out)
            have Z1 := Lib.hid (show g < wy.heap.size by have := ZX0.out; have := hb.size; omega)
            clear hb XX0 BX0 ZX0 c14 V1
            have c14 := (cell_of X1.out (i := 14) rfl).1
            simp only [Sl.v] at c14
            cases un
            · go_wp2_with fail
              go_meet
              exact ⟨by rw [valB, if_neg (by decide), HV.out.1]; rfl, B1.out, X1.out, Z1.out⟩
            · go_wp2_with (go_at_call 66; fail)
              refine (C2.out _ B1.out).mono ?_
              rintro e wz ⟨rfl, hb⟩
              have B2 := Lib.hid (B1.out.trans (hb.mono B1.out.size))
              have X2 := Lib.hid (X1.out.below hb Z1.out)
              have Z2 := Lib.hid (show g < wz.heap.size by have := Z1.out; have := hb.size; omega)
              clear hb X1 B1 Z1 c14 C2
              cases uc
              · go_wp2_with fail
                go_meet
                exact ⟨by rw [valB, if_neg (by decide), HV.out.1, HV.out.2.2]; rfl, B2.out, X2.out, Z2.out⟩
              · go_wp2_with fail
                go_meet
                exact ⟨by rw [valB, if_neg (by decide), HV.out.1, HV.out.2.2]; rfl, B2.out, X2.out, Z2.out⟩
          · go_wp2_with (first | ((with_reducible refine m_loadR (st_val XX0.out) 44 92 ?_ ?_ ?_ ?_ ?_ ?_); rfl; rfl; rfl; rfl; kernel_rfl) | (go_at_call 67; fail))
            refine (V1.out _ BX0.out).mono ?_
            rintro e wy ⟨rfl, hb⟩
            have B1 := Lib.hid (BX0.out.trans (hb.mono BX0.out.size))
            have X1 := Lib.hid (XX0.out.below hb ZX0.out)
            have Z1 := Lib.hid (show g < wy.heap.size by have := ZX0.out; have := hb.size; omega)
            clear hb XX0 BX0 ZX0 c14 V1
            cases un
            rotate_left
            · go_wp2_with fail
              go_meet
              exact ⟨by rw [valB, if_pos rfl, HV.out.1]; rfl, B1.out, X1.out, Z1.out⟩
            · go_wp2_with (first | ((with_reducible refine m_loadR (st_val X1.out) 44 96 ?_ ?_ ?_ ?_ ?_ ?_); rfl; rfl; rfl; rfl; kernel_rfl) | ((with_reducible refine m_one xv h.val (fun W hW => HVX.out W (B1.out.trans (hW.mono B1.out.size))) 97 ?_ ?_ ?_ ?_); rfl; rfl; rfl; intro w2 hl hb2) | (go_at_call 66; fail))
              have B2 := Lib.hid (B1.out.trans (hb2.mono B1.out.size))
              have X2 := Lib.hid (X1.out.below hb2 Z1.out)
              have Z2 := Lib.hid (show g < w2.heap.size by have := Z1.out; have := hb2.size; omega)
              refine (V2.out _ _ hl).mono ?_
              rintro e wz ⟨rfl, hb⟩
              have B3 := Lib.hid (B2.out.trans (hb.mono B2.out.size))
              have X3 := Lib.hid (X2.out.below hb Z2.out)
              have Z3 := Lib.hid (show g < wz.heap.size by have := Z2.out; have := hb.size; omega)
              clear hb hb2 hl X1 B1 Z1 X2 B2 Z2 V2
              have c14 := (cell_of X3.out (i := 14) rfl).1
              simp only [Sl.v] at c14
              cases ux
              · go_wp2_with fail
                go_meet
                exact ⟨by rw [valB, if_pos rfl, HV.out.1, HV.out.2.1]; rfl, B3.out, X3.out, Z3.out⟩
              · go_wp2_with (go_at_call 66; fail)
                refine (C2.out _ B3.out).mono ?_
                rintro e wt ⟨rfl, hb⟩
                have B4 := Lib.hid (B3.out.trans (hb.mono B3.out.size))
                have X4 := Lib.hid (X3.out.below hb Z3.out)
                have Z4 := Lib.hid (show g < wt.heap.size by have := Z3.out; have := hb.size; omega)
                clear hb X3 B3 Z3 c14 C2
                cases uc
                · go_wp2_with fail
                  go_meet
                  exact ⟨by rw [valB, if_pos rfl, HV.out.1, HV.out.2.1, HV.out.2.2]; rfl, B4.out, X4.out, Z4.out⟩
                · go_wp2_with fail
                  go_meet
                  exact ⟨by rw [valB, if_pos rfl, HV.out.1, HV.out.2.1, HV.out.2.2]; rfl, B4.out, X4.out, Z4.out⟩
        case rest =>
          obtain ⟨rfl, hb, hx, hz⟩ := hcut
          clear c14 XX0 BX0 ZX0 V1 V2 HVX C2
          have XX0 := Lib.hid hx
          have BX0 := Lib.hid hb
          have ZX0 := Lib.hid hz
          clear hb hx hz
          obtain ⟨K, hK⟩ : ∃ K, cntS h.op h.conds.l h.labels.l h.fields.l = K := ⟨_, rfl⟩
          rw [hK] at HU1
          obtain ⟨u3, hu3⟩ : ∃ u, (valB bv xv && exsB xcs) = u := ⟨_, rfl⟩
          have HU2 : Hid (((u3 && (cntB K h.conds.l h.labels.l h.fields.l h.blocks.l && (xfs.all nmB && (xls.all labB && blksB xbs)))) && stsB (L.drop (q + 1))) = R) := Lib.hid (by rw [← HU1.out, ← hu3]; simp only [Bool.and_assoc, Bool.true_and])
          rw [hu3]
          clear hu3 HU1
          cases u3
          · have HF := Lib.hid (show R = false by rw [← HU2.out]; simp)
            go_wp2_with fail
            go_ret
            exact ⟨ret_bool HF.out.symm, BX0.out⟩
          have HK := Lib.hid hK
          clear hK
          have c0 := (cell_of XX0.out (i := 0) rfl).1
          have c14 := (cell_of XX0.out (i := 14) rfl).1
          have c15 := (cell_of XX0.out (i := 15) rfl).1
          have c16 := (cell_of XX0.out (i := 16) rfl).1
          have c17 := (cell_of XX0.out (i := 17) rfl).1
          simp only [Sl.v] at c14 c15 c16 c17
          go_upto_block 2 with (fail)
          go_cut [8, 9, 10, 11, 12] from 119 to 151 (fun s8 s9 s10 s11 s12 wx => s8 = .int .i64 (K.1 : Nat) ∧ s9 = .int .i64 (K.2.1 : Nat) ∧ s10 = .int .i64 (K.2.2.1 : Nat) ∧ s11 = .int .i64 (K.2.2.2.1 : Nat) ∧ s12 = .int .i64 (K.2.2.2.2 : Nat) ∧ Below w.heap.size w wx ∧ Box wx g 0 (sC h) ∧ g < wx.heap.size)
          case first => as_aux_lemma =>
            clear H9 H7 H10 HU2
            obtain ⟨op, hop⟩ : ∃ o, h.op = o := ⟨_, rfl⟩
            have HO := HOP.out
            rw [hop] at c0 HO
            obtain ⟨HO1, HO2⟩ := HO
            rcases (show op = 1 ∨ op = 2 ∨ op = 3 ∨ op = 4 ∨ op = 5 ∨ op = 6 ∨ op = 7 ∨ op = 8 ∨ op = 9 by omega) with rfl | rfl | rfl | rfl | rfl | rfl | rfl | rfl | rfl
            all_goals clear HO1 HO2
            · have HJ := Lib.hid (show K = (0, 0, 0, 0, 0) by rw [← HK.out, hop]; rfl)
              clear HK
              go_wp2_with fail
              go_meet
              exact ⟨by rw [HJ.out] <;> rfl, by rw [HJ.out] <;> rfl, by rw [HJ.out] <;> rfl, by rw [HJ.out] <;> rfl, by rw [HJ.out] <;> rfl, BX0.out, XX0.out, ZX0.out⟩
            · have HJ := Lib.hid (show K = (max 1 h.conds.l, 0, 0, max 1 h.conds.l, 1) by rw [← HK.out, hop]; rfl)
              clear HK
              go_upto_region 15 with (fail)
              go_quiet (fail)
              go_wp2_with fail
              go_meet
              exact ⟨by rw [HJ.out]; go_num, by rw [HJ.out] <;> rfl, by rw [HJ.out] <;> rfl, by rw [HJ.out]; go_num, by rw [HJ.out] <;> rfl, below_drawn BX0.out nq, XX0.out.below (drawn_self _ nq) ZX0.out, Nat.lt_of_lt_of_le ZX0.out (drawn_self _ nq).size⟩
            · have HJ := Lib.hid (show K = (0, h.labels.l, 0, h.labels.l, 1) by rw [← HK.out, hop]; rfl)
              clear HK
              go_upto_region 17 with (fail)
              go_quiet (fail)
              go_wp2_with fail
              go_meet
              exact ⟨by rw [HJ.out] <;> rfl, by rw [HJ.out] <;> rfl, by rw [HJ.out] <;> rfl, by rw [HJ.out] <;> rfl, by rw [HJ.out] <;> rfl, below_drawn BX0.out nq, XX0.out.below (drawn_self _ nq) ZX0.out, Nat.lt_of_lt_of_le ZX0.out (drawn_self _ nq).size⟩
            · have HJ := Lib.hid (show K = (3, 0, 0, 1, 0) by rw [← HK.out, hop]; rfl)
              clear HK
              go_wp2_with fail
              go_meet
              exact ⟨by rw [HJ.out] <;> rfl, by rw [HJ.out] <;> rfl, by rw [HJ.out] <;> rfl, by rw [HJ.out] <;> rfl, by rw [HJ.out] <;> rfl, BX0.out, XX0.out, ZX0.out⟩
            · have HJ := Lib.hid (show K = (0, 0, 0, 1, 0) by rw [← HK.out, hop]; rfl)
              clear HK
              go_wp2_with fail
              go_meet
              exact ⟨by rw [HJ.out] <;> rfl, by rw [HJ.out] <;> rfl, by rw [HJ.out] <;> rfl, by rw [HJ.out] <;> rfl, by rw [HJ.out] <;> rfl, BX0.out, XX0.out, ZX0.out⟩
            · have HJ := Lib.hid (show K = (0, 0, 0, 1, 0) by rw [← HK.out, hop]; rfl)
              clear HK
              go_wp2_with fail
              go_meet
              exact ⟨by rw [HJ.out] <;> rfl, by rw [HJ.out] <;> rfl, by rw [HJ.out] <;> rfl, by rw [HJ.out] <;> rfl, by rw [HJ.out] <;> rfl, BX0.out, XX0.out, ZX0.out⟩
            · have HJ := Lib.hid (show K = (0, 0, 0, 0, 0) by rw [← HK.out, hop]; rfl)
              clear HK
              go_wp2_with fail
              go_meet
              exact ⟨by rw [HJ.out] <;> rfl, by rw [HJ.out] <;> rfl, by rw [HJ.out] <;> rfl, by rw [HJ.out] <;> rfl, by rw [HJ.out] <;> rfl, BX0.out, XX0.out, ZX0.out⟩
            · have HJ := Lib.hid (show K = (0, 0, 0, 0, 0) by rw [← HK.out, hop]; rfl)
              clear HK
              go_wp2_with fail
              go_meet
              exact ⟨by rw [HJ.out] <;> rfl, by rw [HJ.out] <;> rfl, by rw [HJ.out] <;> rfl, by rw [HJ.out] <;> rfl, by rw [HJ.out] <;> rfl, BX0.out, XX0.out, ZX0.out⟩
            · have HJ := Lib.hid (show K = (h.fields.l, 0, h.fields.l, 0, 0) by rw [← HK.out, hop]; rfl)
              clear HK
              go_upto_region 24 with (fail)
              go_quiet (fail)
              go_wp2_with fail
              go_meet
              exact ⟨by rw [HJ.out] <;> rfl, by rw [HJ.out] <;> rfl, by rw [HJ.out] <;> rfl, by rw [HJ.out] <;> rfl, by rw [HJ.out] <;> rfl, below_drawn BX0.out nq, XX0.out.below (drawn_self _ nq) ZX0.out, Nat.lt_of_lt_of_le ZX0.out (drawn_self _ nq).size⟩
          case rest =>
            obtain ⟨rfl, rfl, rfl, rfl, rfl, hb, hx, hz⟩ := hcut
            clear XX0 BX0 ZX0 c0 c14 c15 c16 c17
            have XX0 := Lib.hid hx
            have BX0 := Lib.hid hb
            have ZX0 := Lib.hid hz
            clear hb hx hz
            have HKB := Lib.hid (cntS_le h.op h.conds.l h.labels.l h.fields.l)
            rw [HK.out] at HKB
            obtain ⟨k1, k2, k3, k4, k5⟩ := K
            clear HK
            simp only at HKB ⊢
            have w45 : IntKind.i64.wrap ((k4 : Int) + k5) = k4 + k5 := by rw [IntKind.wrap_i64]; have h1 := HKB.out; have h2 := HNX.out; omega
            have w45' : wrap64 ((k4 : Int) + k5) = k4 + k5 := by unfold wrap64; have h1 := HKB.out; have h2 := HNX.out; omega
            clear HKB
            have c14 := (cell_of XX0.out (i := 14) rfl).1
            have c15 := (cell_of XX0.out (i := 15) rfl).1
            have c16 := (cell_of XX0.out (i := 16) rfl).1
            have c17 := (cell_of XX0.out (i := 17) rfl).1
            simp only [Sl.v] at c14 c15 c16 c17
            go_upto_region 25 with (fail)
            go_cut [186] from 152 to 186 (fun s186 wx => s186 = .bool (!(cntB (k1, k2, k3, k4, k5) h.conds.l h.labels.l h.fields.l h.blocks.l)) ∧ Below w.heap.size w wx ∧ Box wx g 0 (sC h) ∧ g < wx.heap.size)
            case first => as_aux_lemma =>
              clear H9 H7 H10 HU2
              by_cases e1 : h.conds.l = k1
              rotate_left
              · have n1 := neb (show (h.conds.l : Int) ≠ k1 by omega)
                have q1 : ¬ (h.conds.l : Int) = k1 := by omega
                have HV := Lib.hid (show cntB (k1, k2, k3, k4, k5) h.conds.l h.labels.l h.fields.l h.blocks.l = false by unfold cntB; rw [beq_eq_false_iff_ne.2 e1]; rfl)
                go_wp2_with fail
                go_meet
                exact ⟨by rw [HV.out]; rfl, BX0.out, XX0.out, ZX0.out⟩
              subst e1
              by_cases e1 : h.labels.l = k2
              rotate_left
              · have n1 := neb (show (h.labels.l : Int) ≠ k2 by omega)
                have q1 : ¬ (h.labels.l : Int) = k2 := by omega
                have HV := Lib.hid (show cntB (h.conds.l, k2, k3, k4, k5) h.conds.l h.labels.l h.fields.l h.blocks.l = false by unfold cntB; rw [beq_eq_false_iff_ne.2 e1, Bool.false_and, Bool.and_false])
                go_wp2_with fail
                go_meet
                exact ⟨by rw [HV.out]; rfl, BX0.out, XX0.out, ZX0.out⟩
              subst e1
              by_cases e1 : h.fields.l = k3
              rotate_left
              · have n1 := neb (show (h.fields.l : Int) ≠ k3 by omega)
                have q1 : ¬ (h.fields.l : Int) = k3 := by omega
                have HV := Lib.hid (show cntB (h.conds.l, h.labels.l, k3, k4, k5) h.conds.l h.labels.l h.fields.l h.blocks.l = false by unfold cntB; rw [beq_eq_false_iff_ne.2 e1, Bool.false_and, Bool.and_false, Bool.and_false])
                go_wp2_with fail
                go_meet
                exact ⟨by rw [HV.out]; rfl, BX0.out, XX0.out, ZX0.out⟩
              subst e1
              by_cases e1 : k4 ≤ h.blocks.l
              rotate_left
              · have q1 : (h.blocks.l : Int) < k4 := by omega
                have HV := Lib.hid (show cntB (h.conds.l, h.labels.l, h.fields.l, k4, k5) h.conds.l h.labels.l h.fields.l h.blocks.l = false by unfold cntB; rw [decide_eq_false e1, Bool.false_and, Bool.and_false, Bool.and_false, Bool.and_false])
                go_wp2_with fail
                go_meet
                exact ⟨by rw [HV.out]; rfl, BX0.out, XX0.out, ZX0.out⟩
              have q1 : ¬ (h.blocks.l : Int) < k4 := by omega
              by_cases e2 : h.blocks.l ≤ k4 + k5
              rotate_left
              · have q2 : (k4 : Int) + k5 < h.blocks.l := by omega
                have HV := Lib.hid (show cntB (h.conds.l, h.labels.l, h.fields.l, k4, k5) h.conds.l h.labels.l h.fields.l h.blocks.l = false by unfold cntB; rw [decide_eq_false e2, Bool.and_false, Bool.and_false, Bool.and_false, Bool.and_false])
                go_wp2_with fail
                go_meet
                exact ⟨by rw [HV.out]; rfl, BX0.out, XX0.out, ZX0.out⟩
              · have q2 : ¬ (k4 : Int) + k5 < h.blocks.l := by omega
                have HV := Lib.hid (show cntB (h.conds.l, h.labels.l, h.fields.l, k4, k5) h.conds.l h.labels.l h.fields.l h.blocks.l = true by unfold cntB; rw [decide_eq_true e1, decide_eq_true e2, beq_self_eq_true, beq_self_eq_true, beq_self_eq_true]; rfl)
                go_wp2_with fail
                go_meet
                exact ⟨by rw [HV.out]; rfl, BX0.out, XX0.out, ZX0.out⟩
            case rest =>
              obtain ⟨rfl, hb, hx, hz⟩ := hcut
              clear XX0 BX0 ZX0 c14 c15 c16 c17 w45 w45'
              have XX0 := Lib.hid hx
              have BX0 := Lib.hid hb
              have ZX0 := Lib.hid hz
              clear hb hx hz
              obtain ⟨u4, hu4⟩ : ∃ u, (cntB (k1, k2, k3, k4, k5) h.conds.l h.labels.l h.fields.l h.blocks.l) = u := ⟨_, rfl⟩
              rw [hu4] at HU2 ⊢
              clear hu4
              cases u4
              · have HF := Lib.hid (show R = false by rw [← HU2.out]; simp)
                go_wp2_with fail
                go_ret
                exact ⟨ret_bool HF.out.symm, BX0.out⟩
              have HU3 : Hid (((xfs.all nmB && (xls.all labB && blksB xbs)) && stsB (L.drop (q + 1))) = R) := Lib.hid (by rw [← HU2.out]; simp only [Bool.true_and])
              clear HU2
              simp only [Bool.not_true]
              go_upto_region 28 with (fail)
              go_loopw [13] (fun s13 wl => ∃ fi : Nat, fi ≤ h.fields.l ∧ s13 = .int .i64 fi ∧ Below w.heap.size w wl ∧ Box wl g 0 (sC h) ∧ g < wl.heap.size ∧ (((xfs.drop fi).all nmB && (xls.all labB && blksB xbs)) && stsB (L.drop (q + 1))) = R) (fun i _ => h.fields.l - (intOf i).toNat)
              case atStart => exact ⟨0, Nat.zero_le _, rfl, BX0.out, XX0.out, ZX0.out, by rw [List.drop_zero]; exact HU3.out⟩
              case round =>
                obtain ⟨fi, hi, rfl, hb, hx, hz, hd⟩ := hrel
                clear XX0 BX0 ZX0 HU3
                have XX0 := Lib.hid hx
                have BX0 := Lib.hid hb
                have ZX0 := Lib.hid hz
                have c16 := (cell_of hx (i := 16) rfl).1
                simp only [Sl.v] at c16
                clear hb hx hz
                by_cases hlt : fi < h.fields.l
                · obtain ⟨b1, o1, a, hA, hb1, hp, hc1⟩ := (show Rd tC1 1 w w.heap.size h.fields.A h.fields.l h.fields.c xfs from H9.out).at hlt
                  have a0 := hc1 0 _ rfl
                  rw [Nat.add_zero, Nat.mul_one] at a0
                  have a0 := (BX0.out.cell (p := ⟨b1, o1 + fi, none⟩) hb1).trans a0
                  rw [hA] at c16
                  have hil : fi < xfs.length := by have := List.getElem?_eq_some_iff.1 hp; exact this.1
                  rw [row_all hil, at_get hp] at hd
                  have NN := Lib.hid fun (W : World) => refname_any ⟨a.toArray⟩ W
                  rw [sv_list] at NN
                  simp only [sv] at a0
                  have w1 := nat_step fi (by have := HNX.out; omega)
                  have hlt' : (fi : Int) < h.fields.l := by omega
                  obtain ⟨u, hu⟩ : ∃ u, nmB a = u := ⟨_, rfl⟩
                  rw [hu] at hd NN
                  have HD := Lib.hid hd
                  have HLT := Lib.hid hlt
                  clear hp hc1 hb1 hA hil hu hd
                  go_wp2_with (go_at_call 39; fail)
                  refine (NN.out _).mono ?_
                  rintro e wy ⟨rfl, hb⟩
                  have B1 := Lib.hid (BX0.out.trans (hb.mono BX0.out.size))
                  have X1 := Lib.hid (XX0.out.below hb ZX0.out)
                  have Z1 := Lib.hid (show g < wy.heap.size by have := ZX0.out; have := hb.size; omega)
                  clear hb NN c16 a0 hlt hlt'
                  cases u
                  · have HF := Lib.hid (show R = false by rw [← HD.out]; simp)
                    go_wp2_with fail
                    go_ret
                    exact ⟨ret_bool HF.out.symm, B1.out⟩
                  · go_wp2_with fail
                    go_roundw
                    case rel => exact ⟨fi + 1, HLT.out, by go_num, B1.out, X1.out, Z1.out, by rw [← HD.out]; rfl⟩
                    case measure => have := HLT.out; simp [intOf]; omega
                · obtain rfl : fi = h.fields.l := by omega
                  have hz : ¬ (h.fields.l : Int) < h.fields.l := by omega
                  have HU4 : Hid (((xls.all labB && blksB xbs) && stsB (L.drop (q + 1))) = R) := Lib.hid (by rw [← hd, List.drop_of_length_le (l := xfs) (by have h := (show Rd tC1 1 w w.heap.size h.fields.A h.fields.l h.fields.c xfs from H9.out).1; omega)]; rfl)
                  clear hd hi hlt H9
                  go_upto_region 33 with (fail)
                  clear c16 hz
                  go_loopw [14] (fun s14 wl => ∃ j : Nat, j ≤ h.labels.l ∧ s14 = .int .i64 j ∧ Below w.heap.size w wl ∧ Box wl g 0 (sC h) ∧ g < wl.heap.size ∧ (((xls.drop j).all labB && blksB xbs) && stsB (L.drop (q + 1))) = R) (fun i _ => h.labels.l - (intOf i).toNat)
                  case atStart => exact ⟨0, Nat.zero_le _, rfl, BX0.out, XX0.out, ZX0.out, by rw [List.drop_zero]; exact HU4.out⟩
                  case round =>
                    obtain ⟨j, hj, rfl, hb, hx, hz, hd⟩ := hrel
                    clear XX0 BX0 ZX0 HU4
                    have XX0 := Lib.hid hx
                    have BX0 := Lib.hid hb
                    have ZX0 := Lib.hid hz
                    have c15 := (cell_of hx (i := 15) rfl).1
                    simp only [Sl.v] at c15
                    clear hb hx hz
                    by_cases hlt : j < h.labels.l
                    · obtain ⟨b1, o1, sl, hA, hb1, hp, hc1⟩ := (show Rd slC 1 w w.heap.size h.labels.A h.labels.l h.labels.c LH from H7.out.1).at hlt
                      obtain ⟨y, hy, hya⟩ := H7.out.2.at hp
                      have a0 := hc1 0 _ rfl
                      rw [Nat.add_zero, Nat.mul_one] at a0
                      obtain ⟨A3, n3, c3⟩ := sl
                      have hya : Rd iC 1 w w.heap.size A3 n3 c3 y := hya
                      have ly : y.length = n3 := hya.1
                      have n3l := hya.len_le
                      simp only [Sl.v] at a0
                      have CA := Lib.hid fun W (hW : Below w.heap.size w W) => (hW.cell (p := ⟨b1, o1 + j, none⟩) hb1).trans a0
                      have a0 := CA.out _ BX0.out
                      rw [hA] at c15
                      have hjl : j < xls.length := by have := List.getElem?_eq_some_iff.1 hy; exact this.1
                      rw [row_all hjl, at_get hy] at hd
                      have HD := Lib.hid hd
                      have HLT := Lib.hid hlt
                      have HA := Lib.hid hA
                      have w1 := nat_step j (by have := HNX.out; omega)
                      have HW1 := Lib.hid w1
                      have hlt' : (j : Int) < h.labels.l := by omega
                      have HYA := Lib.hid (And.intro ly (And.intro n3l hya))
                      clear hp hc1 hb1 hA hjl hd hy hya w1 hlt
                      by_cases h0 : n3 = 0
                      · have HF := Lib.hid (show R = false by rw [← HD.out, show labB y = false by (unfold labB; rw [ly, decide_eq_false (by omega)]; rfl)]; simp)
                        subst h0
                        clear n3l ly
                        go_wp2_with fail
                        go_ret
                        exact ⟨ret_bool HF.out.symm, BX0.out⟩
                      have n0' := neb (show (n3 : Int) ≠ 0 by omega)
                      have q0' : ¬ (n3 : Int) = 0 := by omega
                      obtain ⟨v, hv⟩ : ∃ v, (n3 % 2 == 1) = v := ⟨_, rfl⟩
                      have h2 : ((n3 : Int) % 2 == 1) = v := by
                        rw [← hv, Bool.eq_iff_iff, beq_iff_eq, beq_iff_eq]
                        omega
                      have h3 : (((n3 : Int).tmod 2) == 1) = v := by
                        rw [Int.tmod_eq_emod_of_nonneg (by omega)]
                        exact h2
                      have HV := Lib.hid hv
                      clear hv
                      cases v
                      rotate_left
                      · have HF := Lib.hid (show R = false by
                          rw [← HD.out, show labB y = false by
                            unfold labB
                            have := HV.out
                            rw [beq_iff_eq] at this
                            rw [ly, show (n3 % 2 == 0) = false from beq_eq_false_iff_ne.2 (by omega)]
                            simp]
                          simp)
                        clear n3l ly
                        go_wp2_with fail
                        go_ret
                        exact ⟨ret_bool HF.out.symm, BX0.out⟩
                      have HD2 : Hid (((y.all (fun n => n != -9223372036854775808) && ((xls.drop (j + 1)).all labB && blksB xbs)) && stsB (L.drop (q + 1))) = R) := Lib.hid (by
                        rw [← HD.out]
                        have : labB y = y.all (fun n => n != -9223372036854775808) := by
                          unfold labB
                          have := HV.out
                          rw [beq_eq_false_iff_ne] at this
                          rw [ly, decide_eq_true (by omega : 0 < n3), show (n3 % 2 == 0) = true from beq_iff_eq.2 (by omega)]
                          rfl
                        rw [this]
                        simp only [Bool.and_assoc])
                      clear ly n3l HD
                      go_upto_region 38 with (fail)
                      clear c15 a0 hlt' h0 n0' q0' h3 h2
                      go_loopw [15] (fun s15 wm => ∃ k : Nat, k ≤ n3 ∧ s15 = .int .i64 k ∧ Below w.heap.size w wm ∧ Box wm g 0 (sC h) ∧ g < wm.heap.size ∧ ((((y.drop k).all (fun n => n != -9223372036854775808)) && ((xls.drop (j + 1)).all labB && blksB xbs)) && stsB (L.drop (q + 1))) = R) (fun i _ => n3 - (intOf i).toNat)
                      case atStart => exact ⟨0, Nat.zero_le _, rfl, BX0.out, XX0.out, ZX0.out, by rw [List.drop_zero]; exact HD2.out⟩
                      case round =>
                        obtain ⟨k, hk, rfl, hb, hx, hz, hd⟩ := hrel
                        clear XX0 BX0 ZX0 HD2
                        have XX0 := Lib.hid hx
                        have BX0 := Lib.hid hb
                        have ZX0 := Lib.hid hz
                        have c15 := (cell_of hx (i := 15) rfl).1
                        simp only [Sl.v] at c15
                        have a0 := CA.out _ BX0.out
                        rw [HA.out] at c15
                        have hltj : (j : Int) < h.labels.l := by have := HLT.out; omega
                        clear hb hx hz
                        by_cases hlt : k < n3
                        · obtain ⟨a, ha⟩ : ∃ a, y[k]? = some a := ⟨_, List.getElem?_eq_getElem (by have := HYA.out.1; omega)⟩
                          obtain ⟨b2, o2, hA3, hb2, ca⟩ := row_cell HYA.out.2.2 ha
                          have ca := (BX0.out.cell (p := ⟨b2, o2 + k, none⟩) hb2).trans ca
                          rw [hA3] at a0
                          rw [row_all (by have := HYA.out.1; omega), at_get ha] at hd
                          have HD := Lib.hid hd
                          have HLK := Lib.hid hlt
                          have w1 := nat_step k (by have := HYA.out.2.1; omega)
                          have hltk : (k : Int) < n3 := by omega
                          have n3l := HYA.out.2.1
                          clear hd ha hb2 hA3
                          by_cases e : a = -9223372036854775808
                          · subst e
                            have HF := Lib.hid (show R = false by rw [← HD.out]; rfl)
                            go_wp2_with fail
                            go_ret
                            exact ⟨ret_bool HF.out.symm, BX0.out⟩
                          · have e' := neb e
                            have HF := Lib.hid (show (((y.drop (k + 1)).all (fun n => n != -9223372036854775808) && ((xls.drop (j + 1)).all labB && blksB xbs)) && stsB (L.drop (q + 1))) = R by rw [← HD.out, show (a != -9223372036854775808) = true by (rw [bne, e']; rfl)]; simp only [Bool.and_assoc, Bool.true_and])
                            go_wp2_with fail
                            go_roundw
                            case rel => exact ⟨k + 1, HLK.out, by go_num, BX0.out, XX0.out, ZX0.out, HF.out⟩
                            case measure => have := HLK.out; simp [intOf]; omega
                        · obtain rfl : k = n3 := by omega
                          have hz : ¬ (k : Int) < k := by omega
                          have HD : Hid ((((xls.drop (j + 1)).all labB && blksB xbs) && stsB (L.drop (q + 1))) = R) := Lib.hid (by rw [← hd, List.drop_of_length_le (l := y) (by have := HYA.out.1; omega)]; rfl)
                          have w1 := HW1.out
                          have n3l := HYA.out.2.1
                          clear hd hlt hk
                          go_wp2_with fail
                          go_roundw
                          case rel => exact ⟨j + 1, HLT.out, by go_num, BX0.out, XX0.out, ZX0.out, HD.out⟩
                          case measure => have := HLT.out; simp [intOf]; omega
                    · obtain rfl : j = h.labels.l := by omega
                      have hz : ¬ (h.labels.l : Int) < h.labels.l := by omega
                      have HU5 : Hid ((blksB xbs && stsB (L.drop (q + 1))) = R) := Lib.hid (by rw [← hd, List.drop_of_length_le (l := xls) (by have h := (show Rd slC 1 w w.heap.size h.labels.A h.labels.l h.labels.c LH from H7.out.1).1; have := H7.out.2.len; omega)]; rfl)
                      clear hd hj hlt H7
                      go_upto_region 43 with (fail)
                      clear c15 hz
                      go_loopw [16] (fun s16 wl => ∃ bi : Nat, bi ≤ h.blocks.l ∧ s16 = .int .i64 bi ∧ Below w.heap.size w wl ∧ Box wl g 0 (sC h) ∧ g < wl.heap.size ∧ (blksB (xbs.drop bi) && stsB (L.drop (q + 1))) = R) (fun i _ => h.blocks.l - (intOf i).toNat)
                      case atStart => exact ⟨0, Nat.zero_le _, rfl, BX0.out, XX0.out, ZX0.out, by rw [List.drop_zero]; exact HU5.out⟩
                      case round =>
                        obtain ⟨bi, hi, rfl, hb, hx, hz, hd⟩ := hrel
                        clear XX0 BX0 ZX0 HU5
                        have XX0 := Lib.hid hx
                        have BX0 := Lib.hid hb
                        have ZX0 := Lib.hid hz
                        have c17 := (cell_of hx (i := 17) rfl).1
                        simp only [Sl.v] at c17
                        clear hb hx hz
                        by_cases hlt : bi < h.blocks.l
                        · obtain ⟨b1, o1, sl, hA, hb1, hp, hc1⟩ := (show Rd slC 1 w w.heap.size h.blocks.A h.blocks.l h.blocks.c BH from H10.out.1).at hlt
                          obtain ⟨y, hy, hya⟩ := H10.out.2.at hp
                          have a0 := hc1 0 _ rfl
                          rw [Nat.add_zero, Nat.mul_one] at a0
                          have a0 := (BX0.out.cell (p := ⟨b1, o1 + bi, none⟩) hb1).trans a0
                          rw [hA] at c17
                          have hjl : bi < xbs.length := by have := List.getElem?_eq_some_iff.1 hy; exact this.1
                          rw [blksB_at hjl, at_get hy] at hd
                          have SC := Lib.hid (HI.out y (by have := HNX.out.1; have := mem_size hy; omega) (rBs_at HNX.out.2.2.1 hy) (by have := HNX.out.2.1; have := wsB_mem (List.mem_of_getElem? hy); unfold big; omega) sl _ (StL.below hya BX0.out BX0.out.size))
                          simp only [Sl.v] at a0 SC
                          have w2 := nat_step bi (by have := HNX.out; omega)
                          have hlt' : (bi : Int) < h.blocks.l := by omega
                          obtain ⟨u, hu⟩ : ∃ u, stsB y = u := ⟨_, rfl⟩
                          rw [hu] at hd SC
                          have HD := Lib.hid hd
                          have HLT := Lib.hid hlt
                          clear hp hc1 hb1 hA hjl hu hd hy hya
                          go_wp2_with (go_at_call 40; fail)
                          refine SC.out.mono ?_
                          rintro e wy ⟨rfl, hb⟩
                          have B1 := Lib.hid (BX0.out.trans (hb.mono BX0.out.size))
                          have X1 := Lib.hid (XX0.out.below hb ZX0.out)
                          have Z1 := Lib.hid (show g < wy.heap.size by have := ZX0.out; have := hb.size; omega)
                          clear hb SC c17 a0 hlt hlt'
                          cases u
                          · have HF := Lib.hid (show R = false by rw [← HD.out]; simp)
                            go_wp2_with fail
                            go_ret
                            exact ⟨ret_bool HF.out.symm, B1.out⟩
                          · go_wp2_with fail
                            go_roundw
                            case rel => exact ⟨bi + 1, HLT.out, by go_num, B1.out, X1.out, Z1.out, by rw [← HD.out]; rfl⟩
                            case measure => have := HLT.out; simp [intOf]; omega
                        · obtain rfl : bi = h.blocks.l := by omega
                          have hz : ¬ (h.blocks.l : Int) < h.blocks.l := by omega
                          have HU6 : Hid (stsB (L.drop (q + 1)) = R) := Lib.hid (by rw [← hd, List.drop_of_length_le (l := xbs) (by have h := (show Rd slC 1 w w.heap.size h.blocks.A h.blocks.l h.blocks.c BH from H10.out.1).1; have := H10.out.2.len; omega)]; rfl)
                          clear hd hi hlt H10
                          go_wp2_with fail
                          go_roundw
                          case rel => exact ⟨q + 1, HQ.out, by go_num, BX0.out, HU6.out⟩
                          case measure => have := HQ.out; simp [intOf]; omega
theorem fit_s_all : ∀ N, FiS N
  | 0 => fun _ h => absurd h (by omega)
  | N + 1 => fit_s_step (fit_s_all N)
theorem reffits_any {L : List St} (hr : rSs L) (hW : wsS L ≤ big) {s : Sl} {w : World} (hx : StL w w.heap.size s L) : Calls Tryz.prog 40 #[s.v] w fun e w' => e = .returned (.bool (stsB L)) ∧ Below w.heap.size w w' :=
  fit_s_all (SizeOf.sizeOf L + 1) L (by omega) hr hW s w hx
end Go.Proofs.YtdefgghhkknnpaaGreatDoor.sh
