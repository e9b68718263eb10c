/- The given function's row of a statement: IF. Conditions: a statement such as a text could give; its text has at most 2^47 bytes. -/
import Derived.Test.YtdefgghhkknnpaaGreatDoorShRoA
namespace Go.Proofs.YtdefgghhkknnpaaGreatDoor.sh
open Go.ChangeShapes Go.WideShapes Go.ChangeAt Go.RowKit Go.Proofs.YtdefgghhkknnpaaGreatDoor Go.Proofs.YtdefgghhkknnpaaGreatDoor.k Go.Proofs.YtdefgghhkknnpaaGreatDoor.rr Go.Proofs.YtdefgghhkknnpaaGreatDoor.tk Go.Proofs.YtdefgghhkknnpaaGreatDoor.tr
set_option linter.unusedVariables false
set_option linter.unusedSimpArgs false

def wdS (q : Nat) : Str := if q = 0 then [73, 70, 32] else [69, 76, 83, 73, 70, 32]
theorem wdS_succ (q : Nat) : wdS (q + 1) = [69, 76, 83, 73, 70, 32] := if_neg (by omega)
set_option maxRecDepth 100000 in
set_option maxHeartbeats 40000000 in
theorem row_2 {N : Nat} (RW : RoL N) {nm : Str} {dst val : Ex} {cs : List Ex} {ls : List (List Int)} {fs : List Str} {bs : List (List St)} {ln : Int} {h : SH} {w : World} (hx : StAt w w.heap.size (.mk 2 nm dst val cs ls fs bs ln) h) (hN : SizeOf.sizeOf bs ≤ N) (hr : rS (.mk 2 nm dst val cs ls fs bs ln)) (hi : inS (.mk 2 nm dst val cs ls fs bs ln)) (hb : stB (.mk 2 nm dst val cs ls fs bs ln) = true) (hl : (stS (.mk 2 nm dst val cs ls fs bs ln)).length ≤ lim) : Calls Tryz.prog 43 #[.agg (sC h).toArray] w fun e w' => e = .returned (sv (stS (.mk 2 nm dst val cs ls fs bs ln))) ∧ Below w.heap.size w w' := by
  unfold StAt at hx
  obtain ⟨h1, h2, h3, h4, h5, h6, ⟨LH, h7, h8⟩, h9, BH, h10, h11⟩ := hx
  have hop : h.op = 2 := by first | exact h1 | exact h1.symm
  obtain rfl : nm = h.name := by first | exact h2 | exact h2.symm
  rw [stB_fit] at hb
  simp only [Bool.and_eq_true] at hb
  obtain ⟨-, hnm, hd, hv, hc, hcn, hf, hlb, hbl⟩ := hb
  rw [rS] at hr
  obtain ⟨hr1, hr2, hr3, hr4⟩ := hr
  rw [inS] at hi
  obtain ⟨hi1, hi2⟩ := hi
  rw [stS] at hl ⊢
  have lc : cs.length = h.conds.l := by obtain ⟨K, a, b⟩ := h6; exact b.len.symm.trans a.1
  have ll : ls.length = h.labels.l := h8.len.symm.trans h7.1
  have lf : fs.length = h.fields.l := h9.1
  have lb : bs.length = h.blocks.l := h11.len.symm.trans h10.1
  have HB := Lib.hid (al1 w (.cells (sC h).toArray 49))
  have X1 := Lib.hid (Box.new w (sC h).toArray 49)
  have Z1 := Lib.hid (show w.heap.size < (w.alloc (.cells (sC h).toArray 49)).heap.size by simp)
  have hcn : (cs.length == max 1 cs.length && (_ && (_ && (decide (max 1 cs.length ≤ bs.length) && decide (bs.length ≤ max 1 cs.length + 1))))) = true := hcn
  simp only [Bool.and_eq_true, decide_eq_true_eq, beq_iff_eq] at hcn
  have HCN := Lib.hid (show cs.length ≤ bs.length ∧ bs.length ≤ cs.length + 1 by omega)
  rw [show stT 2 h.name (exS dst) (exS val) (exsS cs) ls fs (blksS bs) = ifT [73, 70, 32] (exsS cs) (blksS bs) ++ [69, 78, 68, 95, 73, 70, 59, 10] from rfl] at hl ⊢
  obtain ⟨U, hU⟩ : ∃ U, ifT [73, 70, 32] (exsS cs) (blksS bs) = U := ⟨_, rfl⟩
  rw [hU] at hl ⊢
  obtain ⟨T, hT⟩ : ∃ T, U ++ [69, 78, 68, 95, 73, 70, 59, 10] = T := ⟨_, rfl⟩
  rw [hT] at hl ⊢
  have hlim : T.length ≤ 140737488355328 := hl
  have HTT := Lib.hid hT
  have HLM := Lib.hid hlim
  have hla := congrArg List.length hT
  simp only [List.length_append, List.length_cons, List.length_nil] at hla
  have HUL := Lib.hid (show U.length + 8 ≤ 140737488355328 by omega)
  have HUU := Lib.hid hU
  have nlc : (h.conds.l : Int) ≤ 9223372036854775807 := by obtain ⟨K, a, b⟩ := h6; exact Rd.len_le a
  have nll : (h.labels.l : Int) ≤ 9223372036854775807 := Rd.len_le h7
  have nlf : (h.fields.l : Int) ≤ 9223372036854775807 := Rd.len_le h9
  have nlb : (h.blocks.l : Int) ≤ 9223372036854775807 := Rd.len_le h10
  have NLN := Lib.hid (And.intro nlc (And.intro nll (And.intro nlf nlb)))
  clear nlc nll nlf nlb
  have HN2 := Lib.hid hN
  have HRS := Lib.hid (And.intro hr3 hr4)
  have HIS := Lib.hid (And.intro hi1 hi2)
  have HBS := Lib.hid (And.intro hc (And.intro hf (And.intro hlb hbl)))
  have HLL := Lib.hid (And.intro lc (And.intro ll (And.intro lf lb)))
  have H6 := Lib.hid h6
  have H7 := Lib.hid (And.intro h7 h8)
  have H9 := Lib.hid h9
  have H10 := Lib.hid (And.intro h10 h11)
  have HRW := Lib.hid RW
  unfold sv
  clear h1 h2 h3 h4 h5 h6 h7 h8 h9 h10 h11 hnm hd hv hc hcn hf hlb hbl hr1 hr2 hr3 hr4 hi1 hi2 hl lc ll lf lb hN hT hla hlim hU RW
  go_enter Tryz.func43, Tryz.ntmps43
  go_upto_region 2 with (fail)
  generalize w.alloc (.cells (sC h).toArray 49) = w1 at *
  have X1 : Hid (Box w1 w.heap.size 0 (sC h)) := X1
  have c0 := (cell_of X1.out (i := 0) rfl).1
  rw [hop] at c0
  go_upto_region 7 with (fail)
  clear c0
  go_loopw [3, 4] (fun s3 s4 wr => ∃ (q : Nat) (t1 : Str), q ≤ h.conds.l ∧ s3 = .string ⟨t1.toArray⟩ ∧ s4 = .int .i64 q ∧ Below w.heap.size w wr ∧ Box wr w.heap.size 0 (sC h) ∧ w.heap.size < wr.heap.size ∧ t1 ++ ifT (wdS q) (exsS (cs.drop q)) (blksS (bs.drop q)) = U) (fun _ i _ => h.conds.l - (intOf i).toNat)
  case atStart => exact ⟨0, [], Nat.zero_le _, rfl, rfl, HB.out, X1.out, Z1.out, by rw [List.drop_zero, List.drop_zero]; exact HUU.out⟩
  case round =>
    obtain ⟨q, t1, hq, rfl, rfl, hb, hx, hz, ht⟩ := hrel
    clear HB X1 Z1
    have BX0 := Lib.hid hb
    have XX0 := Lib.hid hx
    have ZX0 := Lib.hid hz
    clear hb hx hz
    by_cases hlt : q < h.conds.l
    rotate_left
    · obtain rfl : q = h.conds.l := by omega
      have hz : ¬ (h.conds.l : Int) < h.conds.l := by omega
      rw [List.drop_of_length_le (l := cs) (by have := HLL.out; omega), exsS, ifT] at ht
      clear hlt hq
      have hT := HTT.out
      have hla0 := congrArg List.length hT
      simp only [List.length_append, List.length_cons, List.length_nil] at hla0
      have hlim := HLM.out
      have c17 := (cell_of XX0.out (i := 17) rfl).1
      have c14 := (cell_of XX0.out (i := 14) rfl).1
      simp only [Sl.v] at c17 c14
      by_cases hm : h.conds.l < h.blocks.l
      · obtain ⟨y, hyq⟩ : ∃ y, bs[h.conds.l]? = some y := ⟨_, List.getElem?_eq_getElem (by have := HLL.out; omega)⟩
        obtain ⟨b2, o2, bh, hA, hb2, hc2, hbx, -⟩ := blk_nth H10.out.1 H10.out.2 hyq
        rw [blks_at hyq, List.drop_of_length_le (i := h.conds.l + 1) (by have := HLL.out; have := HCN.out; omega), blksS, elseT, elseT, List.append_nil] at ht
        have hla := congrArg List.length ht
        simp only [List.length_append, List.length_cons, List.length_nil] at hla
        have SD := Lib.hid (HRW.out y (by have := mem_size hyq; have := HN2.out; omega) (rBs_at HRS.out.2 hyq) (inBs_at HIS.out.2 hyq) (blksB_at' HBS.out.2.2.2 hyq) (by unfold lim; omega) bh _ (StL.below hbx BX0.out BX0.out.size))
        have cb := (BX0.out.cell (p := ⟨b2, o2 + h.conds.l, none⟩) hb2).trans hc2
        unfold sv at SD
        simp only [Sl.v] at SD cb
        rw [hA] at c17
        have HTX : Hid ((⟨t1.toArray⟩ : ByteArray) ++ (⟨#[69, 76, 83, 69, 10]⟩ ++ ⟨(stsS y).toArray⟩) ++ ⟨#[69, 78, 68, 95, 73, 70, 59, 10]⟩ = ⟨T.toArray⟩) := Lib.hid (by
          rw [← hT, ← ht, show (⟨#[69, 76, 83, 69, 10]⟩ : ByteArray) = ⟨([69, 76, 83, 69, 10] : Str).toArray⟩ from rfl, show (⟨#[69, 78, 68, 95, 73, 70, 59, 10]⟩ : ByteArray) = ⟨([69, 78, 68, 95, 73, 70, 59, 10] : Str).toArray⟩ from rfl]
          simp only [cat_sv, List.append_assoc])
        have s_t : (⟨t1.toArray⟩ : ByteArray).size = t1.length := sz_sv _
        have s_b : (⟨(stsS y).toArray⟩ : ByteArray).size = (stsS y).length := sz_sv _
        generalize (⟨t1.toArray⟩ : ByteArray) = xt at *
        generalize (⟨(stsS y).toArray⟩ : ByteArray) = xb at *
        have q1 : ¬ 9223372036854775807 < 5 + xb.size := by omega
        have q2 : ¬ 9223372036854775807 < xt.size + (5 + xb.size) := by omega
        have q3 : ¬ 9223372036854775807 < xt.size + (5 + xb.size) + 8 := by omega
        have hm' : (h.conds.l : Int) < h.blocks.l := by omega
        clear hT hla0 hla hlim ht s_t s_b hyq hA hb2 hc2 hbx
        go_wp2_with (go_at_call 22; fail)
        refine SD.out.mono ?_
        rintro e w9 ⟨rfl, hb⟩
        have B9 := Lib.hid (BX0.out.trans (hb.mono BX0.out.size))
        clear hb SD
        go_wp2_with fail
        go_ret
        rw [HTX.out]
        exact ⟨rfl, B9.out⟩
      · rw [List.drop_of_length_le (l := bs) (by have := HLL.out; omega), blksS, elseT, List.append_nil] at ht
        have hm' : ¬ (h.conds.l : Int) < h.blocks.l := by omega
        have hla := congrArg List.length ht
        have HTX : Hid ((⟨t1.toArray⟩ : ByteArray) ++ ⟨#[69, 78, 68, 95, 73, 70, 59, 10]⟩ = ⟨T.toArray⟩) := Lib.hid (by
          rw [← hT, ← ht, show (⟨#[69, 78, 68, 95, 73, 70, 59, 10]⟩ : ByteArray) = ⟨([69, 78, 68, 95, 73, 70, 59, 10] : Str).toArray⟩ from rfl]
          simp only [cat_sv, List.append_assoc])
        have s_t : (⟨t1.toArray⟩ : ByteArray).size = t1.length := sz_sv _
        generalize (⟨t1.toArray⟩ : ByteArray) = xt at *
        have q3 : ¬ 9223372036854775807 < xt.size + 8 := by omega
        clear hT hla0 hla hlim ht s_t
        go_wp2_with fail
        go_ret
        rw [HTX.out]
        exact ⟨rfl, BX0.out⟩
    obtain ⟨x, hxq⟩ : ∃ x, cs[q]? = some x := ⟨_, List.getElem?_eq_getElem (by have := HLL.out; omega)⟩
    obtain ⟨y, hyq⟩ : ∃ y, bs[q]? = some y := ⟨_, List.getElem?_eq_getElem (by have := HLL.out; have := HCN.out; omega)⟩
    obtain ⟨b1, o1, k0, hA1, hb1, hg0, hk0, -⟩ := ex_nth H6.out hxq
    obtain ⟨b2, o2, bh, hA2, hb2, hc2, hbx, hqb⟩ := blk_nth H10.out.1 H10.out.2 hyq
    rw [exs_at hxq, blks_at hyq, ifT] at ht
    have ht2 : (t1 ++ (wdS q ++ exS x ++ [32, 84, 72, 69, 78, 10] ++ stsS y)) ++ ifT (wdS (q + 1)) (exsS (cs.drop (q + 1))) (blksS (bs.drop (q + 1))) = U := by
      rw [← ht]
      simp only [List.append_assoc, List.headD_cons, List.drop_succ_cons, List.drop_zero, wdS_succ]
    have hla := congrArg List.length ht2
    simp only [List.length_append, List.length_cons, List.length_nil] at hla
    have hlim := HUL.out
    have SC := Lib.hid fun W (hW : Below w.heap.size w W) => refexpr_any (rEs_at HRS.out.1 hxq) (exsB_at' HBS.out.1 hxq) (by unfold lim; omega) (hk0.below hW hW.size)
    have SD := Lib.hid fun W (hW : Below w.heap.size w W) => HRW.out y (by have := mem_size hyq; have := HN2.out; omega) (rBs_at HRS.out.2 hyq) (inBs_at HIS.out.2 hyq) (blksB_at' HBS.out.2.2.2 hyq) (by unfold lim; omega) bh W (StL.below hbx hW hW.size)
    unfold sv at SC SD
    have BC := (BX0.out.cell (p := ⟨b2, o2 + q, none⟩) hb2).trans hc2
    have C14 := (cell_of XX0.out (i := 14) rfl).1
    have C17 := (cell_of XX0.out (i := 17) rfl).1
    simp only [Sl.v] at C14 C17 SD BC
    have c14 := C14
    rw [hA1] at C14
    rw [hA2] at C17
    have BC := Lib.hid BC
    have C14 := Lib.hid C14
    have C17 := Lib.hid C17
    have RA := Lib.hid (range_below hg0 BX0.out hb1)
    have B1L := Lib.hid (show b1 < wr.heap.size by have := ZX0.out; omega)
    have B2L := Lib.hid (show b2 < wr.heap.size by have := ZX0.out; omega)
    have HTX : Hid ((⟨(t1).toArray⟩ ++ (⟨(wdS q).toArray⟩ ++ ⟨(exS x).toArray⟩ ++ ⟨#[32, 84, 72, 69, 78, 10]⟩ ++ ⟨(stsS y).toArray⟩) : ByteArray) = ⟨(t1 ++ (wdS q ++ exS x ++ [32, 84, 72, 69, 78, 10] ++ stsS y)).toArray⟩) := Lib.hid (by
      rw [show (⟨#[32, 84, 72, 69, 78, 10]⟩ : ByteArray) = ⟨([32, 84, 72, 69, 78, 10] : Str).toArray⟩ from rfl]
      simp only [cat_sv, List.append_assoc])
    have s_xt : (⟨(t1).toArray⟩ : ByteArray).size = (t1).length := sz_sv _
    have s_xw : (⟨(wdS q).toArray⟩ : ByteArray).size = (wdS q).length := sz_sv _
    have s_xa : (⟨(exS x).toArray⟩ : ByteArray).size = (exS x).length := sz_sv _
    have s_xb : (⟨(stsS y).toArray⟩ : ByteArray).size = (stsS y).length := sz_sv _
    obtain ⟨xw, hxw⟩ : ∃ y : ByteArray, ⟨(wdS q).toArray⟩ = y := ⟨_, rfl⟩
    rw [hxw] at HTX s_xw
    have HXW := Lib.hid hxw
    generalize (⟨(exS x).toArray⟩ : ByteArray) = xa at *
    generalize (⟨(stsS y).toArray⟩ : ByteArray) = xb at *
    generalize (⟨t1.toArray⟩ : ByteArray) = xt at *
    have QQ := Lib.hid (show ¬ 9223372036854775807 < xw.size + xa.size ∧ ¬ 9223372036854775807 < xw.size + xa.size + 6 ∧ ¬ 9223372036854775807 < xw.size + xa.size + 6 + xb.size ∧ ¬ 9223372036854775807 < xt.size + (xw.size + xa.size + 6 + xb.size) ∧ q < h.conds.l ∧ q < h.blocks.l ∧ (q : Int) < h.conds.l ∧ (q : Int) < h.blocks.l by omega)
    have w1 := nat_step q (by have := NLN.out; omega)
    have hlt' : (q : Int) < h.conds.l := by omega
    have HW1 := Lib.hid w1
    have HLT := Lib.hid hlt
    have HT2 := Lib.hid ht2
    obtain ⟨mm, hm⟩ : ∃ m, (q == 0) = m := ⟨_, rfl⟩
    have HM := Lib.hid hm
    clear hxq hyq hA1 hA2 hb1 hb2 hc2 hbx hqb hg0 hk0 ht ht2 hla hlim s_xt s_xw s_xa s_xb hxw w1 hq hm
    go_upto_region 9 with (fail)
    clear c14 hlt'
    cases mm
    all_goals
      first
        | (have hq0 : ¬ (q : Int) = 0 := by have := HM.out; rw [beq_eq_false_iff_ne] at this; omega
           have hq1 : ((q : Int) == 0) = false := neb hq0
           have HX : Hid ((⟨#[69, 76, 83, 73, 70, 32]⟩ : ByteArray) = xw) := Lib.hid (by rw [← HXW.out]; have := HM.out; rw [beq_eq_false_iff_ne] at this; rw [wdS, if_neg this]))
        | (have hq0 : (q : Int) = 0 := by have := HM.out; rw [beq_iff_eq] at this; omega
           have hq1 : ((q : Int) == 0) = true := beq_iff_eq.2 hq0
           have HX : Hid ((⟨#[73, 70, 32]⟩ : ByteArray) = xw) := Lib.hid (by rw [← HXW.out]; have := HM.out; rw [beq_iff_eq] at this; rw [wdS, if_pos this])
           clear hq0)
      go_upto_region 12 with (fail)
      rw [HX.out]
      clear hq1
      try clear hq0
      refine wp_region_T (by kernel_rfl) (fun w' => Below wr.heap.size wr w') [] (Below.refl _ _).drew (fun hHeld => ?_)
      have BD := Lib.hid (Below.drew (Below.refl wr.heap.size wr))
      generalize wr.drew = wr_ at *
      refine wpAnyT_take (i := 0) (v := ?_) rfl (by kernel_rfl) (by kernel_rfl) (by kernel_rfl) (fun _ _ _ h => h) (Or.inl ⟨by rfl, ?_⟩) (by assumption) ?_
      rotate_left 1
      · intro w_ hSw; clear hSw; have QQ_ := QQ.out; go_simp <;> (with_reducible rfl)
      try simp only [Act.put, List.setIfInBounds_toArray, List.set_cons_zero, List.set_cons_succ, List.getElem_toArray, List.getElem_cons_succ, List.getElem_cons_zero]
      refine wpAnyT_take (i := 1) (v := ?_) rfl (by kernel_rfl) (by kernel_rfl) (by kernel_rfl) (fun _ _ _ h => h) (Or.inl ⟨by rfl, ?_⟩) (by assumption) ?_
      rotate_left 1
      · intro w_ hSw; clear hSw; have QQ_ := QQ.out; go_simp <;> (with_reducible rfl)
      try simp only [Act.put, List.setIfInBounds_toArray, List.set_cons_zero, List.set_cons_succ, List.getElem_toArray, List.getElem_cons_succ, List.getElem_cons_zero]
      refine wpAnyT_take (i := 2) (v := ?_) rfl (by kernel_rfl) (by kernel_rfl) (by kernel_rfl) (fun _ _ _ h => h) (Or.inl ⟨by rfl, ?_⟩) (by assumption) ?_
      rotate_left 1
      · intro w_ hSw; clear hSw; have QQ_ := QQ.out; go_simp <;> (with_reducible rfl)
      try simp only [Act.put, List.setIfInBounds_toArray, List.set_cons_zero, List.set_cons_succ, List.getElem_toArray, List.getElem_cons_succ, List.getElem_cons_zero]
      refine wpAnyT_take (i := 3) (v := ?_) rfl (by kernel_rfl) (by kernel_rfl) (by kernel_rfl) (fun _ _ _ h => h) (Or.inl ⟨by rfl, ?_⟩) (by assumption) ?_
      rotate_left 1
      · intro w_ hSw; have hl := (hSw.cell (p := ⟨w.heap.size, 14, none⟩) (by have := ZX0.out; exact this)).trans C14.out; clear hSw; go_simp <;> (with_reducible rfl)
      try simp only [Act.put, List.setIfInBounds_toArray, List.set_cons_zero, List.set_cons_succ, List.getElem_toArray, List.getElem_cons_succ, List.getElem_cons_zero]
      refine wpAnyT_take (i := 4) (v := ?_) rfl (by kernel_rfl) (by kernel_rfl) (by kernel_rfl) (fun _ _ _ h => h) (Or.inl ⟨by rfl, ?_⟩) (by assumption) ?_
      rotate_left 1
      · intro w_ hSw; clear hSw; have QQ_ := QQ.out; go_simp <;> (with_reducible rfl)
      try simp only [Act.put, List.setIfInBounds_toArray, List.set_cons_zero, List.set_cons_succ, List.getElem_toArray, List.getElem_cons_succ, List.getElem_cons_zero]
      refine wpAnyT_take (i := 5) (v := ?_) rfl (by kernel_rfl) (by kernel_rfl) (by kernel_rfl) (fun _ _ _ h => h) (Or.inl ⟨by rfl, ?_⟩) (by assumption) ?_
      rotate_left 1
      · intro w_ hSw; clear hSw; have QQ_ := QQ.out; go_simp <;> (with_reducible rfl)
      try simp only [Act.put, List.setIfInBounds_toArray, List.set_cons_zero, List.set_cons_succ, List.getElem_toArray, List.getElem_cons_succ, List.getElem_cons_zero]
      refine wpAnyT_take (i := 6) rfl (by kernel_rfl) (by kernel_rfl) (by kernel_rfl) (fun _ _ _ h => h) (yieldsIf_load_mid (by rfl) 44 (.tmp 38) rfl b1 _ rfl (eC k0) _ (fun _ hb' => range_below RA.out hb' B1L.out) rfl rfl (by kernel_rfl)) (by assumption) ?_
      try simp only [Act.put, List.setIfInBounds_toArray, List.set_cons_zero, List.set_cons_succ, List.getElem_toArray, List.getElem_cons_succ, List.getElem_cons_zero]
      refine wpAnyT_take (i := 10) (v := ?_) rfl (by kernel_rfl) (by kernel_rfl) (by kernel_rfl) (fun _ _ _ h => h) (Or.inl ⟨by rfl, ?_⟩) (by assumption) ?_
      rotate_left 1
      · intro w_ hSw; clear hSw; have QQ_ := QQ.out; go_simp <;> (with_reducible rfl)
      try simp only [Act.put, List.setIfInBounds_toArray, List.set_cons_zero, List.set_cons_succ, List.getElem_toArray, List.getElem_cons_succ, List.getElem_cons_zero]
      refine wpAnyT_take (i := 11) (v := ?_) rfl (by kernel_rfl) (by kernel_rfl) (by kernel_rfl) (fun _ _ _ h => h) (Or.inl ⟨by rfl, ?_⟩) (by assumption) ?_
      rotate_left 1
      · intro w_ hSw; have hl := (hSw.cell (p := ⟨w.heap.size, 17, none⟩) (by have := ZX0.out; exact this)).trans C17.out; clear hSw; go_simp <;> (with_reducible rfl)
      try simp only [Act.put, List.setIfInBounds_toArray, List.set_cons_zero, List.set_cons_succ, List.getElem_toArray, List.getElem_cons_succ, List.getElem_cons_zero]
      refine wpAnyT_take (i := 12) (v := ?_) rfl (by kernel_rfl) (by kernel_rfl) (by kernel_rfl) (fun _ _ _ h => h) (Or.inl ⟨by rfl, ?_⟩) (by assumption) ?_
      rotate_left 1
      · intro w_ hSw; clear hSw; have QQ_ := QQ.out; go_simp <;> (with_reducible rfl)
      try simp only [Act.put, List.setIfInBounds_toArray, List.set_cons_zero, List.set_cons_succ, List.getElem_toArray, List.getElem_cons_succ, List.getElem_cons_zero]
      refine wpAnyT_take (i := 13) (v := ?_) rfl (by kernel_rfl) (by kernel_rfl) (by kernel_rfl) (fun _ _ _ h => h) (Or.inl ⟨by rfl, ?_⟩) (by assumption) ?_
      rotate_left 1
      · intro w_ hSw; clear hSw; have QQ_ := QQ.out; go_simp <;> (with_reducible rfl)
      try simp only [Act.put, List.setIfInBounds_toArray, List.set_cons_zero, List.set_cons_succ, List.getElem_toArray, List.getElem_cons_succ, List.getElem_cons_zero]
      refine wpAnyT_take (i := 14) (v := ?_) rfl (by kernel_rfl) (by kernel_rfl) (by kernel_rfl) (fun _ _ _ h => h) (Or.inl ⟨by rfl, ?_⟩) (by assumption) ?_
      rotate_left 1
      · intro w_ hSw; have hl := (hSw.cell (p := ⟨b2, o2 + q, none⟩) (by have := B2L.out; exact this)).trans BC.out; clear hSw; go_simp <;> (with_reducible rfl)
      try simp only [Act.put, List.setIfInBounds_toArray, List.set_cons_zero, List.set_cons_succ, List.getElem_toArray, List.getElem_cons_succ, List.getElem_cons_zero]
      refine wpAnyT_ready (rs := [7]) (by kernel_rfl) (by simp) ?_
      refine AllReadyT.cons rfl (fun K hK => ?_) AllReadyT.nil
      go_simp
      go_at_call 68
      refine (SC.out _ (BX0.out.trans (BD.out.mono BX0.out.size))).mono ?_
      rintro e bw1 ⟨rfl, hb⟩
      have BB1 := Lib.hid (BD.out.trans (hb.mono BD.out.size))
      clear hb
      go_wp2_with fail
      refine hK _ _ BB1.out (fun hHeld => ?_)
      clear hK K
      try simp only [Act.put, List.setIfInBounds_toArray, List.set_cons_zero, List.set_cons_succ, List.getElem_toArray, List.getElem_cons_succ, List.getElem_cons_zero]
      refine wpAnyT_take (i := 8) (v := ?_) rfl (by kernel_rfl) (by kernel_rfl) (by kernel_rfl) (fun _ _ _ h => h) (Or.inl ⟨by rfl, ?_⟩) (by assumption) ?_
      rotate_left 1
      · intro w_ hSw; clear hSw; have QQ_ := QQ.out; go_simp <;> (with_reducible rfl)
      try simp only [Act.put, List.setIfInBounds_toArray, List.set_cons_zero, List.set_cons_succ, List.getElem_toArray, List.getElem_cons_succ, List.getElem_cons_zero]
      refine wpAnyT_take (i := 9) (v := ?_) rfl (by kernel_rfl) (by kernel_rfl) (by kernel_rfl) (fun _ _ _ h => h) (Or.inl ⟨by rfl, ?_⟩) (by assumption) ?_
      rotate_left 1
      · intro w_ hSw; clear hSw; have QQ_ := QQ.out; go_simp <;> (with_reducible rfl)
      try simp only [Act.put, List.setIfInBounds_toArray, List.set_cons_zero, List.set_cons_succ, List.getElem_toArray, List.getElem_cons_succ, List.getElem_cons_zero]
      refine wpAnyT_ready (rs := [15]) (by kernel_rfl) (by simp) ?_
      refine AllReadyT.cons rfl (fun K hK => ?_) AllReadyT.nil
      go_simp
      go_at_call 22
      refine (SD.out _ (BX0.out.trans (BB1.out.mono BX0.out.size))).mono ?_
      rintro e bw2 ⟨rfl, hb⟩
      have BB2 := Lib.hid (BB1.out.trans (hb.mono BB1.out.size))
      clear hb
      go_wp2_with fail
      refine hK _ _ BB2.out (fun hHeld => ?_)
      clear hK K
      try simp only [Act.put, List.setIfInBounds_toArray, List.set_cons_zero, List.set_cons_succ, List.getElem_toArray, List.getElem_cons_succ, List.getElem_cons_zero]
      refine wpAnyT_take (i := 16) (v := ?_) rfl (by kernel_rfl) (by kernel_rfl) (by kernel_rfl) (fun _ _ _ h => h) (Or.inl ⟨by rfl, ?_⟩) (by assumption) ?_
      rotate_left 1
      · intro w_ hSw; clear hSw; have QQ_ := QQ.out; go_simp <;> (with_reducible rfl)
      try simp only [Act.put, List.setIfInBounds_toArray, List.set_cons_zero, List.set_cons_succ, List.getElem_toArray, List.getElem_cons_succ, List.getElem_cons_zero]
      refine wpAnyT_take (i := 17) (v := ?_) rfl (by kernel_rfl) (by kernel_rfl) (by kernel_rfl) (fun _ _ _ h => h) (Or.inl ⟨by rfl, ?_⟩) (by assumption) ?_
      rotate_left 1
      · intro w_ hSw; clear hSw; have QQ_ := QQ.out; go_simp <;> (with_reducible rfl)
      try simp only [Act.put, List.setIfInBounds_toArray, List.set_cons_zero, List.set_cons_succ, List.getElem_toArray, List.getElem_cons_succ, List.getElem_cons_zero]
      refine wpAnyT_take (i := 18) (v := ?_) rfl (by kernel_rfl) (by kernel_rfl) (by kernel_rfl) (fun _ _ _ h => h) (Or.inl ⟨by rfl, ?_⟩) (by assumption) ?_
      rotate_left 1
      · intro w_ hSw; clear hSw; have QQ_ := QQ.out; go_simp <;> (with_reducible rfl)
      try simp only [Act.put, List.setIfInBounds_toArray, List.set_cons_zero, List.set_cons_succ, List.getElem_toArray, List.getElem_cons_succ, List.getElem_cons_zero]
      refine wpAnyT_done (by kernel_rfl) ?_ _
      have w1 := HW1.out
      have B5 := Lib.hid (BX0.out.trans (BB2.out.mono BX0.out.size))
      have X5 := Lib.hid (XX0.out.below BB2.out ZX0.out)
      have Z5 := Lib.hid (Nat.lt_of_lt_of_le ZX0.out BB2.out.size)
      go_wp2_with fail
      go_roundw
      case rel => exact ⟨q + 1, t1 ++ (wdS q ++ exS x ++ [32, 84, 72, 69, 78, 10] ++ stsS y), HLT.out, by rw [HTX.out], by go_num, B5.out, X5.out, Z5.out, HT2.out⟩
      case measure => have := HLT.out; simp [intOf]; omega
end Go.Proofs.YtdefgghhkknnpaaGreatDoor.sh
