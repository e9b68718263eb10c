/- The given function's row of a statement: WHILE and REPEAT. Conditions: a statement such as a text could give; its text has at most 2^47 bytes. -/
import Derived.Test.YtdefgghhkknnpaaGreatDoorShRoA
namespace Go.Proofs.YtdefgghhkknnpaaGreatDoor.sh
open Go.ChangeShapes Go.WideShapes Go.ChangeAt Go.RowKit Go.Proofs.YtdefgghhkknnpaaGreatDoor Go.Proofs.YtdefgghhkknnpaaGreatDoor.k Go.Proofs.YtdefgghhkknnpaaGreatDoor.rr Go.Proofs.YtdefgghhkknnpaaGreatDoor.tk Go.Proofs.YtdefgghhkknnpaaGreatDoor.tr
set_option linter.unusedVariables false
set_option linter.unusedSimpArgs false

set_option maxRecDepth 100000 in
set_option maxHeartbeats 40000000 in
theorem row_5 {N : Nat} (RW : RoL N) {nm : Str} {dst val : Ex} {cs : List Ex} {ls : List (List Int)} {fs : List Str} {bs : List (List St)} {ln : Int} {h : SH} {w : World} (hx : StAt w w.heap.size (.mk 5 nm dst val cs ls fs bs ln) h) (hN : SizeOf.sizeOf bs ≤ N) (hr : rS (.mk 5 nm dst val cs ls fs bs ln)) (hi : inS (.mk 5 nm dst val cs ls fs bs ln)) (hb : stB (.mk 5 nm dst val cs ls fs bs ln) = true) (hl : (stS (.mk 5 nm dst val cs ls fs bs ln)).length ≤ lim) : Calls Tryz.prog 43 #[.agg (sC h).toArray] w fun e w' => e = .returned (sv (stS (.mk 5 nm dst val cs ls fs bs ln))) ∧ Below w.heap.size w w' := by
  unfold StAt at hx
  obtain ⟨h1, h2, h3, h4, h5, h6, ⟨LH, h7, h8⟩, h9, BH, h10, h11⟩ := hx
  have hop : h.op = 5 := by first | exact h1 | exact h1.symm
  obtain rfl : nm = h.name := by first | exact h2 | exact h2.symm
  rw [stB_fit] at hb
  simp only [Bool.and_eq_true] at hb
  obtain ⟨-, hnm, hd, hv, hc, hcn, hf, hlb, hbl⟩ := hb
  rw [rS] at hr
  obtain ⟨hr1, hr2, hr3, hr4⟩ := hr
  rw [inS] at hi
  obtain ⟨hi1, hi2⟩ := hi
  rw [stS] at hl ⊢
  have lc : cs.length = h.conds.l := by obtain ⟨K, a, b⟩ := h6; exact b.len.symm.trans a.1
  have ll : ls.length = h.labels.l := h8.len.symm.trans h7.1
  have lf : fs.length = h.fields.l := h9.1
  have lb : bs.length = h.blocks.l := h11.len.symm.trans h10.1
  have HB := Lib.hid (al1 w (.cells (sC h).toArray 49))
  have X1 := Lib.hid (Box.new w (sC h).toArray 49)
  have Z1 := Lib.hid (show w.heap.size < (w.alloc (.cells (sC h).toArray 49)).heap.size by simp)
  have hv : (!noE val && exB val) = true := hv
  rw [Bool.and_eq_true] at hv
  have hb1 : bs.length = 1 := by
    have hcn : (_ && (_ && (_ && (decide (1 ≤ bs.length) && decide (bs.length ≤ 1))))) = true := hcn
    simp only [Bool.and_eq_true, decide_eq_true_eq] at hcn
    omega
  obtain ⟨b0, hb0⟩ : ∃ b, bs = [b] := List.length_eq_one_iff.1 hb1
  subst hb0
  obtain ⟨b2, o2, bh, hA, hb2, hc2, hbx, -⟩ := blk_nth h10 h11 (q := 0) rfl
  rw [Nat.add_zero] at hc2
  have hbl1 : h.blocks.l = 1 := by rw [← lb]; rfl
  rw [show stT 5 h.name (exS dst) (exS val) (exsS cs) ls fs (blksS [b0]) = [87, 72, 73, 76, 69, 32] ++ exS val ++ [32, 68, 79, 10] ++ stsS b0 ++ [69, 78, 68, 95, 87, 72, 73, 76, 69, 59, 10] from rfl] at hl ⊢
  obtain ⟨T, hT⟩ : ∃ T, [87, 72, 73, 76, 69, 32] ++ exS val ++ [32, 68, 79, 10] ++ stsS b0 ++ [69, 78, 68, 95, 87, 72, 73, 76, 69, 59, 10] = T := ⟨_, rfl⟩
  rw [hT] at hl ⊢
  have hla := congrArg List.length hT
  simp only [List.length_append, List.length_cons, List.length_nil] at hla
  have hlim : T.length ≤ 140737488355328 := hl
  have SC := Lib.hid fun W (hW : Below w.heap.size w W) => refexpr_any hr2 hv.2 (by unfold lim; omega) (h5.below hW hW.size)
  have SD := Lib.hid fun W (hW : Below w.heap.size w W) => RW b0 (by simp only [List.cons.sizeOf_spec] at hN; omega) (rBs_at hr4 (i := 0) rfl) (inBs_at hi2 (i := 0) rfl) (blksB_at' hbl (i := 0) rfl) (by unfold lim; omega) bh W (StL.below hbx hW hW.size)
  unfold sv at SC SD ⊢
  simp only [Sl.v] at SD hc2
  have HTX : Hid ((⟨#[87, 72, 73, 76, 69, 32]⟩ ++ ⟨(exS val).toArray⟩ ++ ⟨#[32, 68, 79, 10]⟩ ++ ⟨(stsS b0).toArray⟩ ++ ⟨#[69, 78, 68, 95, 87, 72, 73, 76, 69, 59, 10]⟩ : ByteArray) = ⟨T.toArray⟩) := Lib.hid (by
    rw [← hT, show (⟨#[87, 72, 73, 76, 69, 32]⟩ : ByteArray) = ⟨([87, 72, 73, 76, 69, 32] : Str).toArray⟩ from rfl, show (⟨#[32, 68, 79, 10]⟩ : ByteArray) = ⟨([32, 68, 79, 10] : Str).toArray⟩ from rfl, show (⟨#[69, 78, 68, 95, 87, 72, 73, 76, 69, 59, 10]⟩ : ByteArray) = ⟨([69, 78, 68, 95, 87, 72, 73, 76, 69, 59, 10] : Str).toArray⟩ from rfl]
    simp only [cat_sv, List.append_assoc])
  have s_xa : (⟨(exS val).toArray⟩ : ByteArray).size = (exS val).length := sz_sv _
  have s_xb : (⟨(stsS b0).toArray⟩ : ByteArray).size = (stsS b0).length := sz_sv _
  generalize (⟨(exS val).toArray⟩ : ByteArray) = xa at *
  generalize (⟨(stsS b0).toArray⟩ : ByteArray) = xb at *
  have QQ := Lib.hid (show ¬ 9223372036854775807 < 6 + xa.size ∧ ¬ 9223372036854775807 < 6 + xa.size + 4 ∧ ¬ 9223372036854775807 < 6 + xa.size + 4 + xb.size ∧ ¬ 9223372036854775807 < 6 + xa.size + 4 + xb.size + 11 by omega)
  have BC := Lib.hid ((HB.out.cell (p := ⟨b2, o2, none⟩) hb2).trans hc2)
  have B2L := Lib.hid (show b2 < (w.alloc (.cells (sC h).toArray 49)).heap.size by have := Z1.out; omega)
  have HA := Lib.hid (And.intro hA hbl1)
  clear h1 h2 h3 h4 h5 h6 h7 h8 h9 h10 h11 hnm hd hv hc hcn hf hlb hbl hr1 hr2 hr3 hr4 hi1 hi2 hl lc ll lf lb hN hT hla hlim s_xa s_xb RW hA hb2 hc2 hbx hbl1 hb1
  go_enter Tryz.func43, Tryz.ntmps43
  go_upto_region 2 with (fail)
  generalize w.alloc (.cells (sC h).toArray 49) = w1 at *
  have X1 : Hid (Box w1 w.heap.size 0 (sC h)) := X1
  have c0 := (cell_of X1.out (i := 0) rfl).1
  rw [hop] at c0
  go_upto_region 36 with (fail)
  have VAL := Lib.hid (st_val X1.out)
  have C17 := Lib.hid (cell_of X1.out (i := 17) rfl).1
  simp only [Sl.v] at C17
  rw [HA.out.1, HA.out.2] at C17
  clear c0
  refine wp_region_T (by kernel_rfl) (fun w' => Below w1.heap.size w1 w') [] (Below.refl _ _).drew (fun hHeld => ?_)
  have BD := Lib.hid (Below.drew (Below.refl w1.heap.size w1))
  generalize w1.drew = w1_ at *
  refine wpAnyT_take (i := 0) (v := ?_) rfl (by kernel_rfl) (by kernel_rfl) (by kernel_rfl) (fun _ _ _ h => h) (Or.inl ⟨by rfl, ?_⟩) (by assumption) ?_
  rotate_left 1
  · intro w_ hSw; clear hSw; have QQ_ := QQ.out; go_simp <;> (with_reducible rfl)
  try simp only [Act.put, List.setIfInBounds_toArray, List.set_cons_zero, List.set_cons_succ, List.getElem_toArray, List.getElem_cons_succ, List.getElem_cons_zero]
  refine wpAnyT_take (i := 1) rfl (by kernel_rfl) (by kernel_rfl) (by kernel_rfl) (fun _ _ _ h => h) (yieldsIf_load_mid (by rfl) 44 (.tmp 206) rfl w.heap.size _ rfl (eC h.val) _ (fun _ hb' => range_below VAL.out hb' Z1.out) rfl rfl (by kernel_rfl)) (by assumption) ?_
  try simp only [Act.put, List.setIfInBounds_toArray, List.set_cons_zero, List.set_cons_succ, List.getElem_toArray, List.getElem_cons_succ, List.getElem_cons_zero]
  refine wpAnyT_take (i := 5) (v := ?_) rfl (by kernel_rfl) (by kernel_rfl) (by kernel_rfl) (fun _ _ _ h => h) (Or.inl ⟨by rfl, ?_⟩) (by assumption) ?_
  rotate_left 1
  · intro w_ hSw; clear hSw; have QQ_ := QQ.out; go_simp <;> (with_reducible rfl)
  try simp only [Act.put, List.setIfInBounds_toArray, List.set_cons_zero, List.set_cons_succ, List.getElem_toArray, List.getElem_cons_succ, List.getElem_cons_zero]
  refine wpAnyT_take (i := 6) (v := ?_) rfl (by kernel_rfl) (by kernel_rfl) (by kernel_rfl) (fun _ _ _ h => h) (Or.inl ⟨by rfl, ?_⟩) (by assumption) ?_
  rotate_left 1
  · intro w_ hSw; have hl := (hSw.cell (p := ⟨w.heap.size, 17, none⟩) (by have := Z1.out; exact this)).trans C17.out; clear hSw; go_simp <;> (with_reducible rfl)
  try simp only [Act.put, List.setIfInBounds_toArray, List.set_cons_zero, List.set_cons_succ, List.getElem_toArray, List.getElem_cons_succ, List.getElem_cons_zero]
  refine wpAnyT_take (i := 7) (v := ?_) rfl (by kernel_rfl) (by kernel_rfl) (by kernel_rfl) (fun _ _ _ h => h) (Or.inl ⟨by rfl, ?_⟩) (by assumption) ?_
  rotate_left 1
  · intro w_ hSw; clear hSw; have QQ_ := QQ.out; go_simp <;> (with_reducible rfl)
  try simp only [Act.put, List.setIfInBounds_toArray, List.set_cons_zero, List.set_cons_succ, List.getElem_toArray, List.getElem_cons_succ, List.getElem_cons_zero]
  refine wpAnyT_take (i := 8) (v := ?_) rfl (by kernel_rfl) (by kernel_rfl) (by kernel_rfl) (fun _ _ _ h => h) (Or.inl ⟨by rfl, ?_⟩) (by assumption) ?_
  rotate_left 1
  · intro w_ hSw; have hl := (hSw.cell (p := ⟨b2, o2, none⟩) (by have := B2L.out; exact this)).trans BC.out; clear hSw; go_simp <;> (with_reducible rfl)
  try simp only [Act.put, List.setIfInBounds_toArray, List.set_cons_zero, List.set_cons_succ, List.getElem_toArray, List.getElem_cons_succ, List.getElem_cons_zero]
  refine wpAnyT_ready (rs := [2]) (by kernel_rfl) (by simp) ?_
  refine AllReadyT.cons rfl (fun K hK => ?_) AllReadyT.nil
  go_simp
  go_at_call 68
  refine (SC.out _ (HB.out.trans (BD.out.mono HB.out.size))).mono ?_
  rintro e bw1 ⟨rfl, hb⟩
  have BB1 := Lib.hid (BD.out.trans (hb.mono BD.out.size))
  clear hb
  go_wp2_with fail
  refine hK _ _ BB1.out (fun hHeld => ?_)
  clear hK K
  try simp only [Act.put, List.setIfInBounds_toArray, List.set_cons_zero, List.set_cons_succ, List.getElem_toArray, List.getElem_cons_succ, List.getElem_cons_zero]
  refine wpAnyT_take (i := 3) (v := ?_) rfl (by kernel_rfl) (by kernel_rfl) (by kernel_rfl) (fun _ _ _ h => h) (Or.inl ⟨by rfl, ?_⟩) (by assumption) ?_
  rotate_left 1
  · intro w_ hSw; clear hSw; have QQ_ := QQ.out; go_simp <;> (with_reducible rfl)
  try simp only [Act.put, List.setIfInBounds_toArray, List.set_cons_zero, List.set_cons_succ, List.getElem_toArray, List.getElem_cons_succ, List.getElem_cons_zero]
  refine wpAnyT_take (i := 4) (v := ?_) rfl (by kernel_rfl) (by kernel_rfl) (by kernel_rfl) (fun _ _ _ h => h) (Or.inl ⟨by rfl, ?_⟩) (by assumption) ?_
  rotate_left 1
  · intro w_ hSw; clear hSw; have QQ_ := QQ.out; go_simp <;> (with_reducible rfl)
  try simp only [Act.put, List.setIfInBounds_toArray, List.set_cons_zero, List.set_cons_succ, List.getElem_toArray, List.getElem_cons_succ, List.getElem_cons_zero]
  refine wpAnyT_ready (rs := [9]) (by kernel_rfl) (by simp) ?_
  refine AllReadyT.cons rfl (fun K hK => ?_) AllReadyT.nil
  go_simp
  go_at_call 22
  refine (SD.out _ (HB.out.trans (BB1.out.mono HB.out.size))).mono ?_
  rintro e bw2 ⟨rfl, hb⟩
  have BB2 := Lib.hid (BB1.out.trans (hb.mono BB1.out.size))
  clear hb
  go_wp2_with fail
  refine hK _ _ BB2.out (fun hHeld => ?_)
  clear hK K
  try simp only [Act.put, List.setIfInBounds_toArray, List.set_cons_zero, List.set_cons_succ, List.getElem_toArray, List.getElem_cons_succ, List.getElem_cons_zero]
  refine wpAnyT_take (i := 10) (v := ?_) rfl (by kernel_rfl) (by kernel_rfl) (by kernel_rfl) (fun _ _ _ h => h) (Or.inl ⟨by rfl, ?_⟩) (by assumption) ?_
  rotate_left 1
  · intro w_ hSw; clear hSw; have QQ_ := QQ.out; go_simp <;> (with_reducible rfl)
  try simp only [Act.put, List.setIfInBounds_toArray, List.set_cons_zero, List.set_cons_succ, List.getElem_toArray, List.getElem_cons_succ, List.getElem_cons_zero]
  refine wpAnyT_take (i := 11) (v := ?_) rfl (by kernel_rfl) (by kernel_rfl) (by kernel_rfl) (fun _ _ _ h => h) (Or.inl ⟨by rfl, ?_⟩) (by assumption) ?_
  rotate_left 1
  · intro w_ hSw; clear hSw; have QQ_ := QQ.out; go_simp <;> (with_reducible rfl)
  try simp only [Act.put, List.setIfInBounds_toArray, List.set_cons_zero, List.set_cons_succ, List.getElem_toArray, List.getElem_cons_succ, List.getElem_cons_zero]
  refine wpAnyT_take (i := 12) (v := ?_) rfl (by kernel_rfl) (by kernel_rfl) (by kernel_rfl) (fun _ _ _ h => h) (Or.inl ⟨by rfl, ?_⟩) (by assumption) ?_
  rotate_left 1
  · intro w_ hSw; clear hSw; have QQ_ := QQ.out; go_simp <;> (with_reducible rfl)
  try simp only [Act.put, List.setIfInBounds_toArray, List.set_cons_zero, List.set_cons_succ, List.getElem_toArray, List.getElem_cons_succ, List.getElem_cons_zero]
  refine wpAnyT_done (by kernel_rfl) ?_ _
  go_wp2
  go_ret
  rw [HTX.out]
  exact ⟨rfl, HB.out.trans (BB2.out.mono HB.out.size)⟩
set_option maxRecDepth 100000 in
set_option maxHeartbeats 40000000 in
theorem row_6 {N : Nat} (RW : RoL N) {nm : Str} {dst val : Ex} {cs : List Ex} {ls : List (List Int)} {fs : List Str} {bs : List (List St)} {ln : Int} {h : SH} {w : World} (hx : StAt w w.heap.size (.mk 6 nm dst val cs ls fs bs ln) h) (hN : SizeOf.sizeOf bs ≤ N) (hr : rS (.mk 6 nm dst val cs ls fs bs ln)) (hi : inS (.mk 6 nm dst val cs ls fs bs ln)) (hb : stB (.mk 6 nm dst val cs ls fs bs ln) = true) (hl : (stS (.mk 6 nm dst val cs ls fs bs ln)).length ≤ lim) : Calls Tryz.prog 43 #[.agg (sC h).toArray] w fun e w' => e = .returned (sv (stS (.mk 6 nm dst val cs ls fs bs ln))) ∧ Below w.heap.size w w' := by
  unfold StAt at hx
  obtain ⟨h1, h2, h3, h4, h5, h6, ⟨LH, h7, h8⟩, h9, BH, h10, h11⟩ := hx
  have hop : h.op = 6 := by first | exact h1 | exact h1.symm
  obtain rfl : nm = h.name := by first | exact h2 | exact h2.symm
  rw [stB_fit] at hb
  simp only [Bool.and_eq_true] at hb
  obtain ⟨-, hnm, hd, hv, hc, hcn, hf, hlb, hbl⟩ := hb
  rw [rS] at hr
  obtain ⟨hr1, hr2, hr3, hr4⟩ := hr
  rw [inS] at hi
  obtain ⟨hi1, hi2⟩ := hi
  rw [stS] at hl ⊢
  have lc : cs.length = h.conds.l := by obtain ⟨K, a, b⟩ := h6; exact b.len.symm.trans a.1
  have ll : ls.length = h.labels.l := h8.len.symm.trans h7.1
  have lf : fs.length = h.fields.l := h9.1
  have lb : bs.length = h.blocks.l := h11.len.symm.trans h10.1
  have HB := Lib.hid (al1 w (.cells (sC h).toArray 49))
  have X1 := Lib.hid (Box.new w (sC h).toArray 49)
  have Z1 := Lib.hid (show w.heap.size < (w.alloc (.cells (sC h).toArray 49)).heap.size by simp)
  have hv : (!noE val && exB val) = true := hv
  rw [Bool.and_eq_true] at hv
  have hb1 : bs.length = 1 := by
    have hcn : (_ && (_ && (_ && (decide (1 ≤ bs.length) && decide (bs.length ≤ 1))))) = true := hcn
    simp only [Bool.and_eq_true, decide_eq_true_eq] at hcn
    omega
  obtain ⟨b0, hb0⟩ : ∃ b, bs = [b] := List.length_eq_one_iff.1 hb1
  subst hb0
  obtain ⟨b2, o2, bh, hA, hb2, hc2, hbx, -⟩ := blk_nth h10 h11 (q := 0) rfl
  rw [Nat.add_zero] at hc2
  have hbl1 : h.blocks.l = 1 := by rw [← lb]; rfl
  rw [show stT 6 h.name (exS dst) (exS val) (exsS cs) ls fs (blksS [b0]) = [82, 69, 80, 69, 65, 84, 10] ++ stsS b0 ++ [85, 78, 84, 73, 76, 32] ++ exS val ++ [32, 69, 78, 68, 95, 82, 69, 80, 69, 65, 84, 59, 10] from rfl] at hl ⊢
  obtain ⟨T, hT⟩ : ∃ T, [82, 69, 80, 69, 65, 84, 10] ++ stsS b0 ++ [85, 78, 84, 73, 76, 32] ++ exS val ++ [32, 69, 78, 68, 95, 82, 69, 80, 69, 65, 84, 59, 10] = T := ⟨_, rfl⟩
  rw [hT] at hl ⊢
  have hla := congrArg List.length hT
  simp only [List.length_append, List.length_cons, List.length_nil] at hla
  have hlim : T.length ≤ 140737488355328 := hl
  have SC := Lib.hid fun W (hW : Below w.heap.size w W) => refexpr_any hr2 hv.2 (by unfold lim; omega) (h5.below hW hW.size)
  have SD := Lib.hid fun W (hW : Below w.heap.size w W) => RW b0 (by simp only [List.cons.sizeOf_spec] at hN; omega) (rBs_at hr4 (i := 0) rfl) (inBs_at hi2 (i := 0) rfl) (blksB_at' hbl (i := 0) rfl) (by unfold lim; omega) bh W (StL.below hbx hW hW.size)
  unfold sv at SC SD ⊢
  simp only [Sl.v] at SD hc2
  have HTX : Hid ((⟨#[82, 69, 80, 69, 65, 84, 10]⟩ ++ ⟨(stsS b0).toArray⟩ ++ ⟨#[85, 78, 84, 73, 76, 32]⟩ ++ ⟨(exS val).toArray⟩ ++ ⟨#[32, 69, 78, 68, 95, 82, 69, 80, 69, 65, 84, 59, 10]⟩ : ByteArray) = ⟨T.toArray⟩) := Lib.hid (by
    rw [← hT, show (⟨#[82, 69, 80, 69, 65, 84, 10]⟩ : ByteArray) = ⟨([82, 69, 80, 69, 65, 84, 10] : Str).toArray⟩ from rfl, show (⟨#[85, 78, 84, 73, 76, 32]⟩ : ByteArray) = ⟨([85, 78, 84, 73, 76, 32] : Str).toArray⟩ from rfl, show (⟨#[32, 69, 78, 68, 95, 82, 69, 80, 69, 65, 84, 59, 10]⟩ : ByteArray) = ⟨([32, 69, 78, 68, 95, 82, 69, 80, 69, 65, 84, 59, 10] : Str).toArray⟩ from rfl]
    simp only [cat_sv, List.append_assoc])
  have s_xa : (⟨(exS val).toArray⟩ : ByteArray).size = (exS val).length := sz_sv _
  have s_xb : (⟨(stsS b0).toArray⟩ : ByteArray).size = (stsS b0).length := sz_sv _
  generalize (⟨(exS val).toArray⟩ : ByteArray) = xa at *
  generalize (⟨(stsS b0).toArray⟩ : ByteArray) = xb at *
  have QQ := Lib.hid (show ¬ 9223372036854775807 < 7 + xb.size ∧ ¬ 9223372036854775807 < 7 + xb.size + 6 ∧ ¬ 9223372036854775807 < 7 + xb.size + 6 + xa.size ∧ ¬ 9223372036854775807 < 7 + xb.size + 6 + xa.size + 13 by omega)
  have BC := Lib.hid ((HB.out.cell (p := ⟨b2, o2, none⟩) hb2).trans hc2)
  have B2L := Lib.hid (show b2 < (w.alloc (.cells (sC h).toArray 49)).heap.size by have := Z1.out; omega)
  have HA := Lib.hid (And.intro hA hbl1)
  clear h1 h2 h3 h4 h5 h6 h7 h8 h9 h10 h11 hnm hd hv hc hcn hf hlb hbl hr1 hr2 hr3 hr4 hi1 hi2 hl lc ll lf lb hN hT hla hlim s_xa s_xb RW hA hb2 hc2 hbx hbl1 hb1
  go_enter Tryz.func43, Tryz.ntmps43
  go_upto_region 2 with (fail)
  generalize w.alloc (.cells (sC h).toArray 49) = w1 at *
  have X1 : Hid (Box w1 w.heap.size 0 (sC h)) := X1
  have c0 := (cell_of X1.out (i := 0) rfl).1
  rw [hop] at c0
  go_upto_region 38 with (fail)
  have VAL := Lib.hid (st_val X1.out)
  have C17 := Lib.hid (cell_of X1.out (i := 17) rfl).1
  simp only [Sl.v] at C17
  rw [HA.out.1, HA.out.2] at C17
  clear c0
  refine wp_region_T (by kernel_rfl) (fun w' => Below w1.heap.size w1 w') [] (Below.refl _ _).drew (fun hHeld => ?_)
  have BD := Lib.hid (Below.drew (Below.refl w1.heap.size w1))
  generalize w1.drew = w1_ at *
  refine wpAnyT_take (i := 0) (v := ?_) rfl (by kernel_rfl) (by kernel_rfl) (by kernel_rfl) (fun _ _ _ h => h) (Or.inl ⟨by rfl, ?_⟩) (by assumption) ?_
  rotate_left 1
  · intro w_ hSw; clear hSw; have QQ_ := QQ.out; go_simp <;> (with_reducible rfl)
  try simp only [Act.put, List.setIfInBounds_toArray, List.set_cons_zero, List.set_cons_succ, List.getElem_toArray, List.getElem_cons_succ, List.getElem_cons_zero]
  refine wpAnyT_take (i := 1) (v := ?_) rfl (by kernel_rfl) (by kernel_rfl) (by kernel_rfl) (fun _ _ _ h => h) (Or.inl ⟨by rfl, ?_⟩) (by assumption) ?_
  rotate_left 1
  · intro w_ hSw; have hl := (hSw.cell (p := ⟨w.heap.size, 17, none⟩) (by have := Z1.out; exact this)).trans C17.out; clear hSw; go_simp <;> (with_reducible rfl)
  try simp only [Act.put, List.setIfInBounds_toArray, List.set_cons_zero, List.set_cons_succ, List.getElem_toArray, List.getElem_cons_succ, List.getElem_cons_zero]
  refine wpAnyT_take (i := 2) (v := ?_) rfl (by kernel_rfl) (by kernel_rfl) (by kernel_rfl) (fun _ _ _ h => h) (Or.inl ⟨by rfl, ?_⟩) (by assumption) ?_
  rotate_left 1
  · intro w_ hSw; clear hSw; have QQ_ := QQ.out; go_simp <;> (with_reducible rfl)
  try simp only [Act.put, List.setIfInBounds_toArray, List.set_cons_zero, List.set_cons_succ, List.getElem_toArray, List.getElem_cons_succ, List.getElem_cons_zero]
  refine wpAnyT_take (i := 3) (v := ?_) rfl (by kernel_rfl) (by kernel_rfl) (by kernel_rfl) (fun _ _ _ h => h) (Or.inl ⟨by rfl, ?_⟩) (by assumption) ?_
  rotate_left 1
  · intro w_ hSw; have hl := (hSw.cell (p := ⟨b2, o2, none⟩) (by have := B2L.out; exact this)).trans BC.out; clear hSw; go_simp <;> (with_reducible rfl)
  try simp only [Act.put, List.setIfInBounds_toArray, List.set_cons_zero, List.set_cons_succ, List.getElem_toArray, List.getElem_cons_succ, List.getElem_cons_zero]
  refine wpAnyT_take (i := 7) (v := ?_) rfl (by kernel_rfl) (by kernel_rfl) (by kernel_rfl) (fun _ _ _ h => h) (Or.inl ⟨by rfl, ?_⟩) (by assumption) ?_
  rotate_left 1
  · intro w_ hSw; clear hSw; have QQ_ := QQ.out; go_simp <;> (with_reducible rfl)
  try simp only [Act.put, List.setIfInBounds_toArray, List.set_cons_zero, List.set_cons_succ, List.getElem_toArray, List.getElem_cons_succ, List.getElem_cons_zero]
  refine wpAnyT_take (i := 8) rfl (by kernel_rfl) (by kernel_rfl) (by kernel_rfl) (fun _ _ _ h => h) (yieldsIf_load_mid (by rfl) 44 (.tmp 227) rfl w.heap.size _ rfl (eC h.val) _ (fun _ hb' => range_below VAL.out hb' Z1.out) rfl rfl (by kernel_rfl)) (by assumption) ?_
  try simp only [Act.put, List.setIfInBounds_toArray, List.set_cons_zero, List.set_cons_succ, List.getElem_toArray, List.getElem_cons_succ, List.getElem_cons_zero]
  refine wpAnyT_ready (rs := [4]) (by kernel_rfl) (by simp) ?_
  refine AllReadyT.cons rfl (fun K hK => ?_) AllReadyT.nil
  go_simp
  go_at_call 22
  refine (SD.out _ (HB.out.trans (BD.out.mono HB.out.size))).mono ?_
  rintro e bw1 ⟨rfl, hb⟩
  have BB1 := Lib.hid (BD.out.trans (hb.mono BD.out.size))
  clear hb
  go_wp2_with fail
  refine hK _ _ BB1.out (fun hHeld => ?_)
  clear hK K
  try simp only [Act.put, List.setIfInBounds_toArray, List.set_cons_zero, List.set_cons_succ, List.getElem_toArray, List.getElem_cons_succ, List.getElem_cons_zero]
  refine wpAnyT_take (i := 5) (v := ?_) rfl (by kernel_rfl) (by kernel_rfl) (by kernel_rfl) (fun _ _ _ h => h) (Or.inl ⟨by rfl, ?_⟩) (by assumption) ?_
  rotate_left 1
  · intro w_ hSw; clear hSw; have QQ_ := QQ.out; go_simp <;> (with_reducible rfl)
  try simp only [Act.put, List.setIfInBounds_toArray, List.set_cons_zero, List.set_cons_succ, List.getElem_toArray, List.getElem_cons_succ, List.getElem_cons_zero]
  refine wpAnyT_take (i := 6) (v := ?_) rfl (by kernel_rfl) (by kernel_rfl) (by kernel_rfl) (fun _ _ _ h => h) (Or.inl ⟨by rfl, ?_⟩) (by assumption) ?_
  rotate_left 1
  · intro w_ hSw; clear hSw; have QQ_ := QQ.out; go_simp <;> (with_reducible rfl)
  try simp only [Act.put, List.setIfInBounds_toArray, List.set_cons_zero, List.set_cons_succ, List.getElem_toArray, List.getElem_cons_succ, List.getElem_cons_zero]
  refine wpAnyT_ready (rs := [9]) (by kernel_rfl) (by simp) ?_
  refine AllReadyT.cons rfl (fun K hK => ?_) AllReadyT.nil
  go_simp
  go_at_call 68
  refine (SC.out _ (HB.out.trans (BB1.out.mono HB.out.size))).mono ?_
  rintro e bw2 ⟨rfl, hb⟩
  have BB2 := Lib.hid (BB1.out.trans (hb.mono BB1.out.size))
  clear hb
  go_wp2_with fail
  refine hK _ _ BB2.out (fun hHeld => ?_)
  clear hK K
  try simp only [Act.put, List.setIfInBounds_toArray, List.set_cons_zero, List.set_cons_succ, List.getElem_toArray, List.getElem_cons_succ, List.getElem_cons_zero]
  refine wpAnyT_take (i := 10) (v := ?_) rfl (by kernel_rfl) (by kernel_rfl) (by kernel_rfl) (fun _ _ _ h => h) (Or.inl ⟨by rfl, ?_⟩) (by assumption) ?_
  rotate_left 1
  · intro w_ hSw; clear hSw; have QQ_ := QQ.out; go_simp <;> (with_reducible rfl)
  try simp only [Act.put, List.setIfInBounds_toArray, List.set_cons_zero, List.set_cons_succ, List.getElem_toArray, List.getElem_cons_succ, List.getElem_cons_zero]
  refine wpAnyT_take (i := 11) (v := ?_) rfl (by kernel_rfl) (by kernel_rfl) (by kernel_rfl) (fun _ _ _ h => h) (Or.inl ⟨by rfl, ?_⟩) (by assumption) ?_
  rotate_left 1
  · intro w_ hSw; clear hSw; have QQ_ := QQ.out; go_simp <;> (with_reducible rfl)
  try simp only [Act.put, List.setIfInBounds_toArray, List.set_cons_zero, List.set_cons_succ, List.getElem_toArray, List.getElem_cons_succ, List.getElem_cons_zero]
  refine wpAnyT_take (i := 12) (v := ?_) rfl (by kernel_rfl) (by kernel_rfl) (by kernel_rfl) (fun _ _ _ h => h) (Or.inl ⟨by rfl, ?_⟩) (by assumption) ?_
  rotate_left 1
  · intro w_ hSw; clear hSw; have QQ_ := QQ.out; go_simp <;> (with_reducible rfl)
  try simp only [Act.put, List.setIfInBounds_toArray, List.set_cons_zero, List.set_cons_succ, List.getElem_toArray, List.getElem_cons_succ, List.getElem_cons_zero]
  refine wpAnyT_done (by kernel_rfl) ?_ _
  go_wp2
  go_ret
  rw [HTX.out]
  exact ⟨rfl, HB.out.trans (BB2.out.mono HB.out.size)⟩
end Go.Proofs.YtdefgghhkknnpaaGreatDoor.sh
