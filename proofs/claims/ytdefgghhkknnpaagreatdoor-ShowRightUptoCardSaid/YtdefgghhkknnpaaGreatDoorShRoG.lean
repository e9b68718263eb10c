/- The given function's row of a statement: CASE. Conditions: a statement such as a text could give; its text has at most 2^47 bytes. -/
import Derived.Test.YtdefgghhkknnpaaGreatDoorShRoA
namespace Go.Proofs.YtdefgghhkknnpaaGreatDoor.sh
open Go.ChangeShapes Go.WideShapes Go.ChangeAt Go.RowKit Go.Proofs.YtdefgghhkknnpaaGreatDoor Go.Proofs.YtdefgghhkknnpaaGreatDoor.k Go.Proofs.YtdefgghhkknnpaaGreatDoor.rr Go.Proofs.YtdefgghhkknnpaaGreatDoor.tk Go.Proofs.YtdefgghhkknnpaaGreatDoor.tr
set_option linter.unusedVariables false
set_option linter.unusedSimpArgs false

theorem drawn_self' (w : World) (n : Nat) : Below w.heap.size w (w.drewN n) := below_drawn (Below.refl _ _) n
set_option maxRecDepth 100000 in
set_option maxHeartbeats 40000000 in
theorem row_3 {N : Nat} (RW : RoL N) {nm : Str} {dst val : Ex} {cs : List Ex} {ls : List (List Int)} {fs : List Str} {bs : List (List St)} {ln : Int} {h : SH} {w : World} (hx : StAt w w.heap.size (.mk 3 nm dst val cs ls fs bs ln) h) (hN : SizeOf.sizeOf bs ≤ N) (hr : rS (.mk 3 nm dst val cs ls fs bs ln)) (hi : inS (.mk 3 nm dst val cs ls fs bs ln)) (hb : stB (.mk 3 nm dst val cs ls fs bs ln) = true) (hl : (stS (.mk 3 nm dst val cs ls fs bs ln)).length ≤ lim) : Calls Tryz.prog 43 #[.agg (sC h).toArray] w fun e w' => e = .returned (sv (stS (.mk 3 nm dst val cs ls fs bs ln))) ∧ Below w.heap.size w w' := by
  unfold StAt at hx
  obtain ⟨h1, h2, h3, h4, h5, h6, ⟨LH, h7, h8⟩, h9, BH, h10, h11⟩ := hx
  have hop : h.op = 3 := by first | exact h1 | exact h1.symm
  obtain rfl : nm = h.name := by first | exact h2 | exact h2.symm
  rw [stB_fit] at hb
  simp only [Bool.and_eq_true] at hb
  obtain ⟨-, hnm, hd, hv, hc, hcn, hf, hlb, hbl⟩ := hb
  rw [rS] at hr
  obtain ⟨hr1, hr2, hr3, hr4⟩ := hr
  rw [inS] at hi
  obtain ⟨hi1, hi2⟩ := hi
  rw [stS] at hl ⊢
  have lc : cs.length = h.conds.l := by obtain ⟨K, a, b⟩ := h6; exact b.len.symm.trans a.1
  have ll : ls.length = h.labels.l := h8.len.symm.trans h7.1
  have lf : fs.length = h.fields.l := h9.1
  have lb : bs.length = h.blocks.l := h11.len.symm.trans h10.1
  have HB := Lib.hid (al1 w (.cells (sC h).toArray 49))
  have X1 := Lib.hid (Box.new w (sC h).toArray 49)
  have Z1 := Lib.hid (show w.heap.size < (w.alloc (.cells (sC h).toArray 49)).heap.size by simp)
  have hv : (!noE val && exB val) = true := hv
  rw [Bool.and_eq_true] at hv
  have hcn : (_ && (_ && (_ && (decide (ls.length ≤ bs.length) && decide (bs.length ≤ ls.length + 1))))) = true := hcn
  simp only [Bool.and_eq_true, decide_eq_true_eq, beq_iff_eq] at hcn
  have HCN := Lib.hid (show ls.length ≤ bs.length ∧ bs.length ≤ ls.length + 1 by omega)
  rw [show stT 3 h.name (exS dst) (exS val) (exsS cs) ls fs (blksS bs) = [67, 65, 83, 69, 32] ++ exS val ++ [32, 79, 70, 10] ++ caseT ls (blksS bs) ++ [69, 78, 68, 95, 67, 65, 83, 69, 59, 10] from rfl] at hl ⊢
  obtain ⟨U, hU⟩ : ∃ U, [67, 65, 83, 69, 32] ++ exS val ++ [32, 79, 70, 10] ++ caseT ls (blksS bs) = U := ⟨_, rfl⟩
  rw [hU] at hl ⊢
  obtain ⟨T, hT⟩ : ∃ T, U ++ [69, 78, 68, 95, 67, 65, 83, 69, 59, 10] = T := ⟨_, rfl⟩
  rw [hT] at hl ⊢
  have hlim : T.length ≤ 140737488355328 := hl
  have HTT := Lib.hid hT
  have HLM := Lib.hid hlim
  have hla := congrArg List.length hT
  have hlb2 := congrArg List.length hU
  simp only [List.length_append, List.length_cons, List.length_nil] at hla hlb2
  have HUL := Lib.hid (show U.length + 10 ≤ 140737488355328 by omega)
  have HUU := Lib.hid hU
  have SC := Lib.hid fun W (hW : Below w.heap.size w W) => refexpr_any hr2 hv.2 (by unfold lim; omega) (h5.below hW hW.size)
  have nlc : (h.conds.l : Int) ≤ 9223372036854775807 := by obtain ⟨K, a, b⟩ := h6; exact Rd.len_le a
  have nll : (h.labels.l : Int) ≤ 9223372036854775807 := Rd.len_le h7
  have nlf : (h.fields.l : Int) ≤ 9223372036854775807 := Rd.len_le h9
  have nlb : (h.blocks.l : Int) ≤ 9223372036854775807 := Rd.len_le h10
  have NLN := Lib.hid (And.intro nlc (And.intro nll (And.intro nlf nlb)))
  clear nlc nll nlf nlb
  have HN2 := Lib.hid hN
  have HRS := Lib.hid (And.intro hr3 hr4)
  have HIS := Lib.hid (And.intro hi1 hi2)
  have HBS := Lib.hid (And.intro hc (And.intro hf (And.intro hlb hbl)))
  have HLL := Lib.hid (And.intro lc (And.intro ll (And.intro lf lb)))
  have H6 := Lib.hid h6
  have H7 := Lib.hid (And.intro h7 h8)
  have H9 := Lib.hid h9
  have H10 := Lib.hid (And.intro h10 h11)
  have HRW := Lib.hid RW
  unfold sv at SC ⊢
  obtain ⟨U0, hU0⟩ : ∃ U0 : Str, [67, 65, 83, 69, 32] ++ exS val ++ [32, 79, 70, 10] = U0 := ⟨_, rfl⟩
  have HU0 := Lib.hid hU0
  have HCX : Hid ((⟨#[67, 65, 83, 69, 32]⟩ : ByteArray) ++ ⟨(exS val).toArray⟩ ++ ⟨#[32, 79, 70, 10]⟩ = ⟨U0.toArray⟩) := Lib.hid (by
    rw [← hU0, show (⟨#[67, 65, 83, 69, 32]⟩ : ByteArray) = ⟨([67, 65, 83, 69, 32] : Str).toArray⟩ from rfl, show (⟨#[32, 79, 70, 10]⟩ : ByteArray) = ⟨([32, 79, 70, 10] : Str).toArray⟩ from rfl]
    simp only [cat_sv])
  have s_xa : (⟨(exS val).toArray⟩ : ByteArray).size = (exS val).length := sz_sv _
  generalize (⟨(exS val).toArray⟩ : ByteArray) = xa at *
  have q1 : ¬ 9223372036854775807 < 5 + xa.size := by omega
  have q2 : ¬ 9223372036854775807 < 5 + xa.size + 4 := by omega
  clear h1 h2 h3 h4 h5 h6 h7 h8 h9 h10 h11 hnm hd hv hc hcn hf hlb hbl hr1 hr2 hr3 hr4 hi1 hi2 hl lc ll lf lb hN hT hla hlb2 hlim hU RW s_xa hU0
  go_enter Tryz.func43, Tryz.ntmps43
  go_upto_region 2 with (fail)
  generalize w.alloc (.cells (sC h).toArray 49) = w1 at *
  have X1 : Hid (Box w1 w.heap.size 0 (sC h)) := X1
  have c0 := (cell_of X1.out (i := 0) rfl).1
  rw [hop] at c0
  go_wp2_with (first | ((with_reducible refine m_loadR (st_val X1.out) 44 73 ?_ ?_ ?_ ?_ ?_ ?_); rfl; rfl; rfl; rfl; kernel_rfl) | (go_at_call 68; fail))
  refine (SC.out _ HB.out).mono ?_
  rintro e w2 ⟨rfl, hb⟩
  have BX0 := Lib.hid (HB.out.trans (hb.mono HB.out.size))
  have XX0 := Lib.hid (X1.out.below hb Z1.out)
  have ZX0 := Lib.hid (Nat.lt_of_lt_of_le Z1.out hb.size)
  clear hb SC c0 HB X1 Z1
  go_upto_region 19 with (fail)
  rw [HCX.out]
  clear q1 q2 HCX
  go_loopw [3, 6] (fun s3 s6 wr => ∃ (q : Nat) (t1 : Str), q ≤ h.labels.l ∧ s3 = .string ⟨t1.toArray⟩ ∧ s6 = .int .i64 q ∧ Below w.heap.size w wr ∧ Box wr w.heap.size 0 (sC h) ∧ w.heap.size < wr.heap.size ∧ t1 ++ caseT (ls.drop q) (blksS (bs.drop q)) = U) (fun _ i _ => h.labels.l - (intOf i).toNat)
  case atStart => exact ⟨0, U0, Nat.zero_le _, rfl, rfl, BX0.out, XX0.out, ZX0.out, by rw [List.drop_zero, List.drop_zero, ← HU0.out]; exact HUU.out⟩
  case round =>
    obtain ⟨q, t1, hq, rfl, rfl, hb, hx, hz, ht⟩ := hrel
    clear BX0 XX0 ZX0
    have BX0 := Lib.hid hb
    have XX0 := Lib.hid hx
    have ZX0 := Lib.hid hz
    clear hb hx hz
    by_cases hlt : q < h.labels.l
    rotate_left
    · obtain rfl : q = h.labels.l := by omega
      have hz : ¬ (h.labels.l : Int) < h.labels.l := by omega
      rw [List.drop_of_length_le (l := ls) (by have := HLL.out; omega), caseT] at ht
      clear hlt hq
      have hT := HTT.out
      have hla0 := congrArg List.length hT
      simp only [List.length_append, List.length_cons, List.length_nil] at hla0
      have hlim := HLM.out
      have c17 := (cell_of XX0.out (i := 17) rfl).1
      have c15 := (cell_of XX0.out (i := 15) rfl).1
      simp only [Sl.v] at c17 c15
      by_cases hm : h.labels.l < h.blocks.l
      · obtain ⟨y, hyq⟩ : ∃ y, bs[h.labels.l]? = some y := ⟨_, List.getElem?_eq_getElem (by have := HLL.out; omega)⟩
        obtain ⟨b2, o2, bh, hA, hb2, hc2, hbx, -⟩ := blk_nth H10.out.1 H10.out.2 hyq
        rw [blks_at hyq, List.drop_of_length_le (i := h.labels.l + 1) (by have := HLL.out; have := HCN.out; omega), blksS, elseT, elseT, List.append_nil] at ht
        have hla := congrArg List.length ht
        simp only [List.length_append, List.length_cons, List.length_nil] at hla
        have SD := Lib.hid (HRW.out y (by have := mem_size hyq; have := HN2.out; omega) (rBs_at HRS.out.2 hyq) (inBs_at HIS.out.2 hyq) (blksB_at' HBS.out.2.2.2 hyq) (by unfold lim; omega) bh _ (StL.below hbx BX0.out BX0.out.size))
        have cb := (BX0.out.cell (p := ⟨b2, o2 + h.labels.l, none⟩) hb2).trans hc2
        unfold sv at SD
        simp only [Sl.v] at SD cb
        rw [hA] at c17
        have HTX : Hid ((⟨t1.toArray⟩ : ByteArray) ++ (⟨#[69, 76, 83, 69, 10]⟩ ++ ⟨(stsS y).toArray⟩) ++ ⟨#[69, 78, 68, 95, 67, 65, 83, 69, 59, 10]⟩ = ⟨T.toArray⟩) := Lib.hid (by
          rw [← hT, ← ht, show (⟨#[69, 76, 83, 69, 10]⟩ : ByteArray) = ⟨([69, 76, 83, 69, 10] : Str).toArray⟩ from rfl, show (⟨#[69, 78, 68, 95, 67, 65, 83, 69, 59, 10]⟩ : ByteArray) = ⟨([69, 78, 68, 95, 67, 65, 83, 69, 59, 10] : Str).toArray⟩ from rfl]
          simp only [cat_sv, List.append_assoc])
        have s_t : (⟨t1.toArray⟩ : ByteArray).size = t1.length := sz_sv _
        have s_b : (⟨(stsS y).toArray⟩ : ByteArray).size = (stsS y).length := sz_sv _
        generalize (⟨t1.toArray⟩ : ByteArray) = xt at *
        generalize (⟨(stsS y).toArray⟩ : ByteArray) = xb at *
        have q1 : ¬ 9223372036854775807 < 5 + xb.size := by omega
        have q2 : ¬ 9223372036854775807 < xt.size + (5 + xb.size) := by omega
        have q3 : ¬ 9223372036854775807 < xt.size + (5 + xb.size) + 10 := by omega
        have hm' : (h.labels.l : Int) < h.blocks.l := by omega
        clear hT hla0 hla hlim ht s_t s_b hyq hA hb2 hc2 hbx
        go_wp2_with (go_at_call 22; fail)
        refine SD.out.mono ?_
        rintro e w9 ⟨rfl, hb⟩
        have B9 := Lib.hid (BX0.out.trans (hb.mono BX0.out.size))
        clear hb SD
        go_wp2_with fail
        go_ret
        rw [HTX.out]
        exact ⟨rfl, B9.out⟩
      · rw [List.drop_of_length_le (l := bs) (by have := HLL.out; omega), blksS, elseT, List.append_nil] at ht
        have hm' : ¬ (h.labels.l : Int) < h.blocks.l := by omega
        have hla := congrArg List.length ht
        have HTX : Hid ((⟨t1.toArray⟩ : ByteArray) ++ ⟨#[69, 78, 68, 95, 67, 65, 83, 69, 59, 10]⟩ = ⟨T.toArray⟩) := Lib.hid (by
          rw [← hT, ← ht, show (⟨#[69, 78, 68, 95, 67, 65, 83, 69, 59, 10]⟩ : ByteArray) = ⟨([69, 78, 68, 95, 67, 65, 83, 69, 59, 10] : Str).toArray⟩ from rfl]
          simp only [cat_sv, List.append_assoc])
        have s_t : (⟨t1.toArray⟩ : ByteArray).size = t1.length := sz_sv _
        generalize (⟨t1.toArray⟩ : ByteArray) = xt at *
        have q3 : ¬ 9223372036854775807 < xt.size + 10 := by omega
        clear hT hla0 hla hlim ht s_t
        go_wp2_with fail
        go_ret
        rw [HTX.out]
        exact ⟨rfl, BX0.out⟩
    obtain ⟨lb, hlq⟩ : ∃ x, ls[q]? = some x := ⟨_, List.getElem?_eq_getElem (by have := HLL.out; omega)⟩
    obtain ⟨y, hyq⟩ : ∃ y, bs[q]? = some y := ⟨_, List.getElem?_eq_getElem (by have := HLL.out; have := HCN.out; omega)⟩
    obtain ⟨b1, o1, sl, hA1, hb1, hc1, hrow, -⟩ := lab_nth H7.out.1 H7.out.2 hlq
    obtain ⟨b2, o2, bh, hA2, hb2, hc2, hbx, hqb⟩ := blk_nth H10.out.1 H10.out.2 hyq
    obtain ⟨A3, n3, c3⟩ := sl
    have hrow : Rd iC 1 w w.heap.size A3 n3 c3 lb := hrow
    have hll : lb.length = n3 := hrow.1
    have n3l := hrow.len_le
    rw [drop_at hlq, blks_at hyq, caseT] at ht
    simp only [List.headD_cons, List.drop_succ_cons, List.drop_zero] at ht
    have hin : ∀ n ∈ lb, InJ n := fun n hn => HIS.out.1 lb (List.mem_of_getElem? hlq) n hn
    have hlab : lb.length % 2 = 0 := by
      have h9 := HBS.out.2.2.1
      rw [List.all_eq_true] at h9
      have h9 := h9 lb (List.mem_of_getElem? hlq)
      unfold labB at h9
      simp only [Bool.and_eq_true, beq_iff_eq] at h9
      exact h9.2.1
    have hla := congrArg List.length ht
    simp only [List.length_append, List.length_cons, List.length_nil] at hla
    have hlim := HUL.out
    have SD := Lib.hid fun W (hW : Below w.heap.size w W) => HRW.out y (by have := mem_size hyq; have := HN2.out; omega) (rBs_at HRS.out.2 hyq) (inBs_at HIS.out.2 hyq) (blksB_at' HBS.out.2.2.2 hyq) (by unfold lim; omega) bh W (StL.below hbx hW hW.size)
    unfold sv at SD
    simp only [Sl.v] at SD hc1 hc2
    have CA := Lib.hid fun W (hW : Below w.heap.size w W) => (hW.cell (p := ⟨b1, o1 + q, none⟩) hb1).trans hc1
    have CB := Lib.hid fun W (hW : Below w.heap.size w W) => (hW.cell (p := ⟨b2, o2 + q, none⟩) hb2).trans hc2
    obtain ⟨RST, hRST⟩ : ∃ r, stsS y ++ caseT (ls.drop (q + 1)) (blksS (bs.drop (q + 1))) = r := ⟨_, rfl⟩
    have ht : t1 ++ (labT false lb ++ RST) = U := by rw [← hRST]; simpa only [List.append_assoc] using ht
    have HRST := Lib.hid hRST
    have HT1 := Lib.hid ht
    have HROW := Lib.hid hrow
    have HLB := Lib.hid (And.intro hll (And.intro n3l (And.intro hin (show n3 % 2 = 0 by rw [← hll]; exact hlab))))
    have HA := Lib.hid (And.intro hA1 hA2)
    have HBL := Lib.hid (And.intro hb1 hb2)
    have HQB := Lib.hid hqb
    have w1 := nat_step q (by have := NLN.out; omega)
    have HW1 := Lib.hid w1
    have HLT := Lib.hid hlt
    have hlt' : (q : Int) < h.labels.l := by omega
    have c15 := (cell_of XX0.out (i := 15) rfl).1
    simp only [Sl.v] at c15
    clear hlq hyq hA1 hA2 hb1 hb2 hc1 hc2 hrow hll n3l hin hlab hla hlim hbx ht hRST hqb w1 hq
    go_upto_region 22 with (fail)
    clear hlt' c15
    go_loopw [3, 7] (fun s3 s7 wr => ∃ (j : Nat) (t2 : Str), j ≤ n3 ∧ j % 2 = 0 ∧ s3 = .string ⟨t2.toArray⟩ ∧ s7 = .int .i64 j ∧ Below w.heap.size w wr ∧ Box wr w.heap.size 0 (sC h) ∧ w.heap.size < wr.heap.size ∧ t2 ++ (labT (decide (0 < j)) (lb.drop j) ++ RST) = U) (fun _ i _ => n3 - (intOf i).toNat)
    case atStart => exact ⟨0, t1, Nat.zero_le _, rfl, rfl, rfl, BX0.out, XX0.out, ZX0.out, by rw [List.drop_zero]; exact HT1.out⟩
    case round =>
      obtain ⟨j, t2, hj, hj2, rfl, rfl, hb, hx, hz, ht⟩ := hrel
      clear BX0 XX0 ZX0 HT1
      have BX0 := Lib.hid hb
      have XX0 := Lib.hid hx
      have ZX0 := Lib.hid hz
      clear hb hx hz
      have c15 := (cell_of XX0.out (i := 15) rfl).1
      simp only [Sl.v] at c15
      rw [HA.out.1] at c15
      have ca1 := CA.out _ BX0.out
      have hltq : (q : Int) < h.labels.l := by have := HLT.out; omega
      by_cases hlj : j < n3
      rotate_left
      · obtain rfl : j = n3 := by omega
        have hz : ¬ (j : Int) < j := by omega
        have ht : t2 ++ ([58, 10] ++ RST) = U := by
          rw [← ht, List.drop_of_length_le (by have := HLB.out.1; omega)]
          cases decide (0 < j) <;> rfl
        have ht3 : (t2 ++ ([58, 10] ++ stsS y)) ++ caseT (ls.drop (q + 1)) (blksS (bs.drop (q + 1))) = U := by
          rw [← ht, ← HRST.out]
          simp only [List.append_assoc]
        have hla := congrArg List.length ht3
        simp only [List.length_append, List.length_cons, List.length_nil] at hla
        have hlim := HUL.out
        have c17 := (cell_of XX0.out (i := 17) rfl).1
        simp only [Sl.v] at c17
        rw [HA.out.2] at c17
        have cb1 := CB.out _ BX0.out
        have SE := Lib.hid (SD.out _ BX0.out)
        have HTX : Hid ((⟨(t2).toArray⟩ ++ (⟨#[58, 10]⟩ ++ ⟨(stsS y).toArray⟩) : ByteArray) = ⟨(t2 ++ ([58, 10] ++ stsS y)).toArray⟩) := Lib.hid (by
          rw [show (⟨#[58, 10]⟩ : ByteArray) = ⟨([58, 10] : Str).toArray⟩ from rfl]
          simp only [cat_sv, List.append_assoc])
        have s_xt : (⟨(t2).toArray⟩ : ByteArray).size = (t2).length := sz_sv _
        have s_xb : (⟨(stsS y).toArray⟩ : ByteArray).size = (stsS y).length := sz_sv _
        generalize (⟨t2.toArray⟩ : ByteArray) = xt at *
        generalize (⟨(stsS y).toArray⟩ : ByteArray) = xb at *
        have q1 : ¬ 9223372036854775807 < 2 + xb.size := by omega
        have q2 : ¬ 9223372036854775807 < xt.size + (2 + xb.size) := by omega
        have w1 := HW1.out
        have hqb' : (q : Int) < h.blocks.l := by have := HQB.out; omega
        have HT3 := Lib.hid ht3
        have n3l := HLB.out.2.1
        clear ht ht3 hla hlim s_xt s_xb hj hj2 hlj
        go_wp2_with (go_at_call 22; fail)
        refine SE.out.mono ?_
        rintro e w5 ⟨rfl, hb⟩
        have B5 := Lib.hid (BX0.out.trans (hb.mono BX0.out.size))
        have X5 := Lib.hid (XX0.out.below hb ZX0.out)
        have Z5 := Lib.hid (Nat.lt_of_lt_of_le ZX0.out hb.size)
        clear hb SE c15 c17 ca1 cb1
        go_wp2_with fail
        go_roundw
        case rel => exact ⟨q + 1, t2 ++ ([58, 10] ++ stsS y), HLT.out, by rw [HTX.out], by go_num, B5.out, X5.out, Z5.out, HT3.out⟩
        case measure => have := HLT.out; simp [intOf]; omega
      have hj1 : j + 1 < lb.length := by have := HLB.out.1; have := HLB.out.2.2.2; omega
      obtain ⟨a, b, hd, ha, hbq⟩ := drop_two hj1
      have ia := HLB.out.2.2.1 a (List.mem_of_getElem? ha)
      have ib := HLB.out.2.2.1 b (List.mem_of_getElem? hbq)
      obtain ⟨b3, o3, hA3, hb3, ca⟩ := row_cell HROW.out ha
      obtain ⟨b4, o4, hA4, _, cb⟩ := row_cell HROW.out hbq
      rw [hA3] at hA4
      injection hA4 with e3
      injection e3 with e3 e4 _
      subst e3 e4
      rw [hd] at ht
      obtain ⟨sp, hsp⟩ : ∃ sp : Str, (if decide (0 < j) = true then [44, 32] else []) = sp := ⟨_, rfl⟩
      obtain ⟨rg, hrg⟩ : ∃ rg : Str, (if b = a then [] else [46, 46] ++ numS b) = rg := ⟨_, rfl⟩
      have ht2 : (t2 ++ sp ++ numS a ++ rg) ++ (labT (decide (0 < j + 2)) (lb.drop (j + 2)) ++ RST) = U := by
        rw [← ht, labT, hsp, hrg, show decide (0 < j + 2) = true from decide_eq_true (by omega)]
        simp only [List.append_assoc]
      have hla := congrArg List.length ht2
      simp only [List.length_append] at hla
      have hlim := HUL.out
      have NA := Lib.hid fun W => refnum_any a ia W
      have NB := Lib.hid fun W => refnum_any b ib W
      unfold sv at NA NB
      have CC := Lib.hid fun W (hW : Below w.heap.size w W) => And.intro ((hW.cell (p := ⟨b3, o3 + j, none⟩) hb3).trans ca) ((hW.cell (p := ⟨b3, o3 + (j + 1), none⟩) hb3).trans cb)
      have HXA : Hid ((⟨(t2 ++ sp).toArray⟩ : ByteArray) ++ ⟨(numS a).toArray⟩ = ⟨(t2 ++ sp ++ numS a).toArray⟩) := Lib.hid (cat_sv _ _)
      have HXB : Hid (b ≠ a → (⟨(t2 ++ sp ++ numS a).toArray⟩ : ByteArray) ++ (⟨#[46, 46]⟩ ++ ⟨(numS b).toArray⟩) = ⟨(t2 ++ sp ++ numS a ++ rg).toArray⟩) := Lib.hid (fun hne => by
        rw [← hrg, if_neg hne, show (⟨#[46, 46]⟩ : ByteArray) = ⟨([46, 46] : Str).toArray⟩ from rfl]
        simp only [cat_sv, List.append_assoc])
      have HXC : Hid (b = a → (⟨(t2 ++ sp ++ numS a).toArray⟩ : ByteArray) = ⟨(t2 ++ sp ++ numS a ++ rg).toArray⟩) := Lib.hid (fun he => by rw [← hrg, if_pos he, List.append_nil])
      have HCX : Hid ((⟨t2.toArray⟩ : ByteArray) ++ ⟨#[44, 32]⟩ = ⟨(t2 ++ [44, 32]).toArray⟩) := Lib.hid (cat_sv t2 [44, 32])
      have hsl : sp.length ≤ 2 := by rw [← hsp]; split <;> simp
      have hrl : b ≠ a → rg.length = 2 + (numS b).length := fun hne => by rw [← hrg, if_neg hne]; simp; omega
      have z0 : (⟨t2.toArray⟩ : ByteArray).size = t2.length := sz_sv _
      have z1 : (⟨(t2 ++ sp).toArray⟩ : ByteArray).size = t2.length + sp.length := by rw [sz_sv, List.length_append]
      have z2 : (⟨(t2 ++ sp ++ numS a).toArray⟩ : ByteArray).size = t2.length + sp.length + (numS a).length := by rw [sz_sv, List.length_append, List.length_append]
      have z3 : (⟨(numS a).toArray⟩ : ByteArray).size = (numS a).length := sz_sv _
      have z4 : (⟨(numS b).toArray⟩ : ByteArray).size = (numS b).length := sz_sv _
      obtain ⟨x3, hx3⟩ : ∃ y : ByteArray, ⟨(t2 ++ sp ++ numS a ++ rg).toArray⟩ = y := ⟨_, rfl⟩
      obtain ⟨x2, hx2⟩ : ∃ y : ByteArray, ⟨(t2 ++ sp ++ numS a).toArray⟩ = y := ⟨_, rfl⟩
      obtain ⟨x1, hx1⟩ : ∃ y : ByteArray, ⟨(t2 ++ sp).toArray⟩ = y := ⟨_, rfl⟩
      obtain ⟨x0, hx0⟩ : ∃ y : ByteArray, ⟨t2.toArray⟩ = y := ⟨_, rfl⟩
      obtain ⟨xa, hxa⟩ : ∃ y : ByteArray, ⟨(numS a).toArray⟩ = y := ⟨_, rfl⟩
      obtain ⟨xb, hxb⟩ : ∃ y : ByteArray, ⟨(numS b).toArray⟩ = y := ⟨_, rfl⟩
      rw [hx3] at HXB HXC
      rw [hx2] at HXA HXB HXC z2
      rw [hx1] at HXA z1
      rw [hx0] at HCX z0
      rw [hxa] at HXA NA z3
      rw [hxb] at HXB NB z4
      rw [hx0]
      have H0X := Lib.hid (And.intro hx0 (And.intro hx1 hx3))
      have q0 : ¬ 9223372036854775807 < x0.size + 2 := by omega
      have q1 : ¬ 9223372036854775807 < x1.size + xa.size := by omega
      have Q2 : Hid (b ≠ a → ¬ 9223372036854775807 < 2 + xb.size ∧ ¬ 9223372036854775807 < x2.size + (2 + xb.size)) := Lib.hid (fun hne => by have := hrl hne; omega)
      have w3 : wrap64 ((j : Int) + 2) = ((j + 2 : Nat) : Int) := by have := HLB.out.2.1; have := HLB.out.1; unfold wrap64; omega
      have w2 : wrap64 ((j : Int) + 1) = ((j + 1 : Nat) : Int) := by have := HLB.out.2.1; have := HLB.out.1; unfold wrap64; omega
      have w2k : IntKind.i64.wrap ((j : Int) + 1) = ((j + 1 : Nat) : Int) := by have := HLB.out.2.1; have := HLB.out.1; rw [IntKind.wrap_i64]; omega
      have W2K := Lib.hid w2k
      have W32 := Lib.hid (And.intro w3 w2)
      clear w2k
      have hlj' : (j : Int) < n3 := by omega
      have HLJ := Lib.hid (show j < n3 ∧ j + 2 ≤ n3 ∧ (j + 2) % 2 = 0 by have := HLB.out.1; omega)
      have HA3 := Lib.hid hA3
      have HB3 := Lib.hid hb3
      have HT2 := Lib.hid ht2
      have HSP := Lib.hid hsp
      have n3l := HLB.out.2.1
      rw [hA3] at ca1
      obtain ⟨mm, hm⟩ : ∃ m, decide (0 < j) = m := ⟨_, rfl⟩
      have HM := Lib.hid hm
      clear hj1 hd ha hbq ia ib hA3 hb3 ca cb ht ht2 hla hlim hsl hrl z0 z1 z2 z3 z4 hx0 hx1 hx2 hx3 hxa hxb hj hj2 hsp hrg hm w2 w3
      go_upto_region 24 with (fail)
      cases mm
      all_goals
        first
          | (have h0' : ¬ (0 : Int) < j := by have := of_decide_eq_false HM.out; omega
             have HX : Hid (x0 = x1) := Lib.hid (by rw [← H0X.out.1, ← H0X.out.2.1, ← HSP.out, HM.out]; simp))
          | (have h0' : (0 : Int) < j := by have := of_decide_eq_true HM.out; omega
             have HX : Hid (x0 ++ ⟨#[44, 32]⟩ = x1) := Lib.hid (by rw [HCX.out, ← H0X.out.2.1, ← HSP.out, HM.out]; rfl))
        go_upto_region 26 with (fail)
        rw [HX.out]
        clear q0 h0'
        have ⟨ca, cb⟩ := CC.out _ BX0.out
        go_wp2_with (go_at_call 19; fail)
        refine (NA.out _).mono ?_
        rintro e w5 ⟨rfl, rfl⟩
        go_upto_region 27 with (fail)
        clear q1
        have B1L := Lib.hid (show b1 < w5.heap.size by have := BX0.out.size; have := HBL.out.1; omega)
        have B3L := Lib.hid (show b3 < w5.heap.size by have := BX0.out.size; have := HB3.out; omega)
        have C15 := Lib.hid c15
        have CA1 := Lib.hid ca1
        have CCA := Lib.hid ca
        have CCB := Lib.hid cb
        have QQ := Lib.hid (show (q : Int) < h.labels.l ∧ q < h.labels.l ∧ (j : Int) < n3 ∧ j < n3 ∧ (j : Int) + 1 < n3 ∧ j + 1 < n3 ∧ wrap64 ((j : Int) + 1) = ((j + 1 : Nat) : Int) ∧ IntKind.i64.wrap ((j : Int) + 1) = ((j + 1 : Nat) : Int) ∧ ((j + 1 : Nat) : Int) < n3 ∧ (0 : Int) ≤ (j : Int) + 1 by have := HLT.out; have := HLJ.out; have := W32.out.2; exact ⟨by omega, by omega, by omega, by omega, by omega, by omega, this, W2K.out, by omega, by omega⟩)
        clear c15 ca1 ca cb
        refine wp_region_T (by kernel_rfl) (fun w' => Below w5.heap.size w5 w') [] (Below.refl _ _).drew (fun hHeld => ?_)
        have BE7 := Lib.hid (Below.drew (Below.refl w5.heap.size w5))
        generalize w5.drew = w5_ at *
        refine wpAnyT_take (i := 0) (v := ?_) rfl (by kernel_rfl) (by kernel_rfl) (by kernel_rfl) (fun _ _ _ h => h) (Or.inl ⟨by rfl, ?_⟩) (by assumption) ?_
        rotate_left 1
        · intro w_ hSw; clear hSw; have QQ_ := QQ.out; go_simp <;> (with_reducible rfl)
        try simp only [Act.put, List.setIfInBounds_toArray, List.set_cons_zero, List.set_cons_succ, List.getElem_toArray, List.getElem_cons_succ, List.getElem_cons_zero]
        refine wpAnyT_take (i := 1) (v := ?_) rfl (by kernel_rfl) (by kernel_rfl) (by kernel_rfl) (fun _ _ _ h => h) (Or.inl ⟨by rfl, ?_⟩) (by assumption) ?_
        rotate_left 1
        · intro w_ hSw; have hl := (hSw.cell (p := ⟨w.heap.size, 15, none⟩) (by have := ZX0.out; exact this)).trans C15.out; clear hSw; go_simp <;> (with_reducible rfl)
        try simp only [Act.put, List.setIfInBounds_toArray, List.set_cons_zero, List.set_cons_succ, List.getElem_toArray, List.getElem_cons_succ, List.getElem_cons_zero]
        refine wpAnyT_take (i := 2) (v := ?_) rfl (by kernel_rfl) (by kernel_rfl) (by kernel_rfl) (fun _ _ _ h => h) (Or.inl ⟨by rfl, ?_⟩) (by assumption) ?_
        rotate_left 1
        · intro w_ hSw; clear hSw; have QQ_ := QQ.out; go_simp <;> (with_reducible rfl)
        try simp only [Act.put, List.setIfInBounds_toArray, List.set_cons_zero, List.set_cons_succ, List.getElem_toArray, List.getElem_cons_succ, List.getElem_cons_zero]
        refine wpAnyT_take (i := 3) (v := ?_) rfl (by kernel_rfl) (by kernel_rfl) (by kernel_rfl) (fun _ _ _ h => h) (Or.inl ⟨by rfl, ?_⟩) (by assumption) ?_
        rotate_left 1
        · intro w_ hSw; clear hSw; have QQ_ := QQ.out; go_simp <;> (with_reducible rfl)
        try simp only [Act.put, List.setIfInBounds_toArray, List.set_cons_zero, List.set_cons_succ, List.getElem_toArray, List.getElem_cons_succ, List.getElem_cons_zero]
        refine wpAnyT_take (i := 4) (v := ?_) rfl (by kernel_rfl) (by kernel_rfl) (by kernel_rfl) (fun _ _ _ h => h) (Or.inl ⟨by rfl, ?_⟩) (by assumption) ?_
        rotate_left 1
        · intro w_ hSw; have hl := (hSw.cell (p := ⟨b1, o1 + q, none⟩) (by have := B1L.out; exact this)).trans CA1.out; clear hSw; go_simp <;> (with_reducible rfl)
        try simp only [Act.put, List.setIfInBounds_toArray, List.set_cons_zero, List.set_cons_succ, List.getElem_toArray, List.getElem_cons_succ, List.getElem_cons_zero]
        refine wpAnyT_take (i := 5) (v := ?_) rfl (by kernel_rfl) (by kernel_rfl) (by kernel_rfl) (fun _ _ _ h => h) (Or.inl ⟨by rfl, ?_⟩) (by assumption) ?_
        rotate_left 1
        · intro w_ hSw; clear hSw; have QQ_ := QQ.out; go_simp <;> (with_reducible rfl)
        try simp only [Act.put, List.setIfInBounds_toArray, List.set_cons_zero, List.set_cons_succ, List.getElem_toArray, List.getElem_cons_succ, List.getElem_cons_zero]
        refine wpAnyT_take (i := 6) (v := ?_) rfl (by kernel_rfl) (by kernel_rfl) (by kernel_rfl) (fun _ _ _ h => h) (Or.inl ⟨by rfl, ?_⟩) (by assumption) ?_
        rotate_left 1
        · intro w_ hSw; clear hSw; have QQ_ := QQ.out; go_simp <;> (with_reducible rfl)
        try simp only [Act.put, List.setIfInBounds_toArray, List.set_cons_zero, List.set_cons_succ, List.getElem_toArray, List.getElem_cons_succ, List.getElem_cons_zero]
        refine wpAnyT_take (i := 7) (v := ?_) rfl (by kernel_rfl) (by kernel_rfl) (by kernel_rfl) (fun _ _ _ h => h) (Or.inl ⟨by rfl, ?_⟩) (by assumption) ?_
        rotate_left 1
        · intro w_ hSw; have hl := (hSw.cell (p := ⟨b3, o3 + j, none⟩) (by have := B3L.out; exact this)).trans CCA.out; clear hSw; go_simp <;> (with_reducible rfl)
        try simp only [Act.put, List.setIfInBounds_toArray, List.set_cons_zero, List.set_cons_succ, List.getElem_toArray, List.getElem_cons_succ, List.getElem_cons_zero]
        refine wpAnyT_take (i := 8) (v := ?_) rfl (by kernel_rfl) (by kernel_rfl) (by kernel_rfl) (fun _ _ _ h => h) (Or.inl ⟨by rfl, ?_⟩) (by assumption) ?_
        rotate_left 1
        · intro w_ hSw; clear hSw; have QQ_ := QQ.out; go_simp <;> (with_reducible rfl)
        try simp only [Act.put, List.setIfInBounds_toArray, List.set_cons_zero, List.set_cons_succ, List.getElem_toArray, List.getElem_cons_succ, List.getElem_cons_zero]
        refine wpAnyT_take (i := 9) (v := ?_) rfl (by kernel_rfl) (by kernel_rfl) (by kernel_rfl) (fun _ _ _ h => h) (Or.inl ⟨by rfl, ?_⟩) (by assumption) ?_
        rotate_left 1
        · intro w_ hSw; have hl := (hSw.cell (p := ⟨w.heap.size, 15, none⟩) (by have := ZX0.out; exact this)).trans C15.out; clear hSw; go_simp <;> (with_reducible rfl)
        try simp only [Act.put, List.setIfInBounds_toArray, List.set_cons_zero, List.set_cons_succ, List.getElem_toArray, List.getElem_cons_succ, List.getElem_cons_zero]
        refine wpAnyT_take (i := 10) (v := ?_) rfl (by kernel_rfl) (by kernel_rfl) (by kernel_rfl) (fun _ _ _ h => h) (Or.inl ⟨by rfl, ?_⟩) (by assumption) ?_
        rotate_left 1
        · intro w_ hSw; clear hSw; have QQ_ := QQ.out; go_simp <;> (with_reducible rfl)
        try simp only [Act.put, List.setIfInBounds_toArray, List.set_cons_zero, List.set_cons_succ, List.getElem_toArray, List.getElem_cons_succ, List.getElem_cons_zero]
        refine wpAnyT_take (i := 11) (v := ?_) rfl (by kernel_rfl) (by kernel_rfl) (by kernel_rfl) (fun _ _ _ h => h) (Or.inl ⟨by rfl, ?_⟩) (by assumption) ?_
        rotate_left 1
        · intro w_ hSw; clear hSw; have QQ_ := QQ.out; go_simp <;> (with_reducible rfl)
        try simp only [Act.put, List.setIfInBounds_toArray, List.set_cons_zero, List.set_cons_succ, List.getElem_toArray, List.getElem_cons_succ, List.getElem_cons_zero]
        refine wpAnyT_take (i := 12) (v := ?_) rfl (by kernel_rfl) (by kernel_rfl) (by kernel_rfl) (fun _ _ _ h => h) (Or.inl ⟨by rfl, ?_⟩) (by assumption) ?_
        rotate_left 1
        · intro w_ hSw; have hl := (hSw.cell (p := ⟨b1, o1 + q, none⟩) (by have := B1L.out; exact this)).trans CA1.out; clear hSw; go_simp <;> (with_reducible rfl)
        try simp only [Act.put, List.setIfInBounds_toArray, List.set_cons_zero, List.set_cons_succ, List.getElem_toArray, List.getElem_cons_succ, List.getElem_cons_zero]
        refine wpAnyT_take (i := 13) (v := ?_) rfl (by kernel_rfl) (by kernel_rfl) (by kernel_rfl) (fun _ _ _ h => h) (Or.inl ⟨by rfl, ?_⟩) (by assumption) ?_
        rotate_left 1
        · intro w_ hSw; clear hSw; have QQ_ := QQ.out; go_simp <;> (with_reducible rfl)
        try simp only [Act.put, List.setIfInBounds_toArray, List.set_cons_zero, List.set_cons_succ, List.getElem_toArray, List.getElem_cons_succ, List.getElem_cons_zero]
        refine wpAnyT_take (i := 14) (v := ?_) rfl (by kernel_rfl) (by kernel_rfl) (by kernel_rfl) (fun _ _ _ h => h) (Or.inl ⟨by rfl, ?_⟩) (by assumption) ?_
        rotate_left 1
        · intro w_ hSw; clear hSw; have QQ_ := QQ.out; go_simp <;> (with_reducible rfl)
        try simp only [Act.put, List.setIfInBounds_toArray, List.set_cons_zero, List.set_cons_succ, List.getElem_toArray, List.getElem_cons_succ, List.getElem_cons_zero]
        refine wpAnyT_take (i := 15) (v := ?_) rfl (by kernel_rfl) (by kernel_rfl) (by kernel_rfl) (fun _ _ _ h => h) (Or.inl ⟨by rfl, ?_⟩) (by assumption) ?_
        rotate_left 1
        · intro w_ hSw; clear hSw; have QQ_ := QQ.out; go_simp <;> (with_reducible rfl)
        try simp only [Act.put, List.setIfInBounds_toArray, List.set_cons_zero, List.set_cons_succ, List.getElem_toArray, List.getElem_cons_succ, List.getElem_cons_zero]
        refine wpAnyT_take (i := 16) (v := ?_) rfl (by kernel_rfl) (by kernel_rfl) (by kernel_rfl) (fun _ _ _ h => h) (Or.inl ⟨by rfl, ?_⟩) (by assumption) ?_
        rotate_left 1
        · intro w_ hSw; have hl := (hSw.cell (p := ⟨b3, o3 + (j + 1), none⟩) (by have := B3L.out; exact this)).trans CCB.out; clear hSw; go_simp <;> (with_reducible rfl)
        try simp only [Act.put, List.setIfInBounds_toArray, List.set_cons_zero, List.set_cons_succ, List.getElem_toArray, List.getElem_cons_succ, List.getElem_cons_zero]
        refine wpAnyT_take (i := 17) (v := ?_) rfl (by kernel_rfl) (by kernel_rfl) (by kernel_rfl) (fun _ _ _ h => h) (Or.inl ⟨by rfl, ?_⟩) (by assumption) ?_
        rotate_left 1
        · intro w_ hSw; clear hSw; have QQ_ := QQ.out; go_simp <;> (with_reducible rfl)
        try simp only [Act.put, List.setIfInBounds_toArray, List.set_cons_zero, List.set_cons_succ, List.getElem_toArray, List.getElem_cons_succ, List.getElem_cons_zero]
        refine wpAnyT_done (by kernel_rfl) ?_ _
        rw [HXA.out]
        have BD := Lib.hid (BX0.out.trans (BE7.out.mono BX0.out.size))
        have XD := Lib.hid (XX0.out.below BE7.out ZX0.out)
        have ZD := Lib.hid (Nat.lt_of_lt_of_le ZX0.out BE7.out.size)
        have ⟨w3, w2⟩ := W32.out
        clear hHeld
        by_cases hab : b = a
        · have z : (a != b) = false := by rw [hab]; simp
          have HV := Lib.hid (HXC.out hab)
          clear hab
          go_wp2_with fail
          go_roundw
          case rel => exact ⟨j + 2, t2 ++ sp ++ numS a ++ rg, HLJ.out.2.1, HLJ.out.2.2, by rw [HV.out, H0X.out.2.2], by go_num, BD.out, XD.out, ZD.out, HT2.out⟩
          case measure =>
            have hm := Lib.hid (meas2 HLJ.out.1 W32.out.1)
            first | exact hm.out.1 | exact hm.out.2 | (have := HLJ.out; simp [intOf]; omega)
        · have z : (a != b) = true := by rw [bne_iff_ne]; exact fun e => hab e.symm
          have HV := Lib.hid (HXB.out hab)
          have ⟨q2, q3⟩ := Q2.out hab
          have c15 := (cell_of XD.out (i := 15) rfl).1
          simp only [Sl.v] at c15
          rw [HA.out.1] at c15
          have ca1 := CA.out _ BD.out
          rw [HA3.out] at ca1
          have ⟨_, cb⟩ := CC.out _ BD.out
          have w2k := W2K.out
          have hin0 : (0 : Int) ≤ (j : Int) + 1 := by omega
          have hin : (j : Int) + 1 < n3 := by have := HLJ.out.2.1; omega
          have hin2 : ((j + 1 : Nat) : Int) < n3 := by have := HLJ.out.2.1; omega
          clear hab
          go_wp2_with (go_at_call 19; fail)
          refine (NB.out _).mono ?_
          rintro e w6 ⟨rfl, rfl⟩
          go_wp2_with fail
          go_roundw
          case rel => exact ⟨j + 2, t2 ++ sp ++ numS a ++ rg, HLJ.out.2.1, HLJ.out.2.2, by rw [HV.out, H0X.out.2.2], by go_num, BD.out, XD.out, ZD.out, HT2.out⟩
          case measure =>
            have hm := Lib.hid (meas2 HLJ.out.1 W32.out.1)
            first | exact hm.out.1 | exact hm.out.2 | (have := HLJ.out; simp [intOf]; omega)
end Go.Proofs.YtdefgghhkknnpaaGreatDoor.sh
