/- The given function's row of a statement: FOR. Conditions: a statement such as a text could give; its text has at most 2^47 bytes. -/
import Derived.Test.YtdefgghhkknnpaaGreatDoorShRoA
namespace Go.Proofs.YtdefgghhkknnpaaGreatDoor.sh
open Go.ChangeShapes Go.WideShapes Go.ChangeAt Go.RowKit Go.Proofs.YtdefgghhkknnpaaGreatDoor Go.Proofs.YtdefgghhkknnpaaGreatDoor.k Go.Proofs.YtdefgghhkknnpaaGreatDoor.rr Go.Proofs.YtdefgghhkknnpaaGreatDoor.tk Go.Proofs.YtdefgghhkknnpaaGreatDoor.tr
set_option linter.unusedVariables false
set_option linter.unusedSimpArgs false

set_option maxRecDepth 100000 in
set_option maxHeartbeats 40000000 in
theorem row_4 {N : Nat} (RW : RoL N) {nm : Str} {dst val : Ex} {cs : List Ex} {ls : List (List Int)} {fs : List Str} {bs : List (List St)} {ln : Int} {h : SH} {w : World} (hx : StAt w w.heap.size (.mk 4 nm dst val cs ls fs bs ln) h) (hN : SizeOf.sizeOf bs ≤ N) (hr : rS (.mk 4 nm dst val cs ls fs bs ln)) (hi : inS (.mk 4 nm dst val cs ls fs bs ln)) (hb : stB (.mk 4 nm dst val cs ls fs bs ln) = true) (hl : (stS (.mk 4 nm dst val cs ls fs bs ln)).length ≤ lim) : Calls Tryz.prog 43 #[.agg (sC h).toArray] w fun e w' => e = .returned (sv (stS (.mk 4 nm dst val cs ls fs bs ln))) ∧ Below w.heap.size w w' := by
  unfold StAt at hx
  obtain ⟨h1, h2, h3, h4, h5, h6, ⟨LH, h7, h8⟩, h9, BH, h10, h11⟩ := hx
  have hop : h.op = 4 := by first | exact h1 | exact h1.symm
  obtain rfl : nm = h.name := by first | exact h2 | exact h2.symm
  rw [stB_fit] at hb
  simp only [Bool.and_eq_true] at hb
  obtain ⟨-, hnm, hd, hv, hc, hcn, hf, hlb, hbl⟩ := hb
  rw [rS] at hr
  obtain ⟨hr1, hr2, hr3, hr4⟩ := hr
  rw [inS] at hi
  obtain ⟨hi1, hi2⟩ := hi
  rw [stS] at hl ⊢
  have lc : cs.length = h.conds.l := by obtain ⟨K, a, b⟩ := h6; exact b.len.symm.trans a.1
  have ll : ls.length = h.labels.l := h8.len.symm.trans h7.1
  have lf : fs.length = h.fields.l := h9.1
  have lb : bs.length = h.blocks.l := h11.len.symm.trans h10.1
  have HB := Lib.hid (al1 w (.cells (sC h).toArray 49))
  have X1 := Lib.hid (Box.new w (sC h).toArray 49)
  have Z1 := Lib.hid (show w.heap.size < (w.alloc (.cells (sC h).toArray 49)).heap.size by simp)
  have hcn : (cs.length == 3 && (_ && (_ && (decide (1 ≤ bs.length) && decide (bs.length ≤ 1))))) = true := hcn
  simp only [Bool.and_eq_true, decide_eq_true_eq, beq_iff_eq] at hcn
  obtain ⟨b0, hb0⟩ : ∃ b, bs = [b] := List.length_eq_one_iff.1 (by omega)
  subst hb0
  obtain ⟨y0, y1, y2, hcs⟩ : ∃ y0 y1 y2, cs = [y0, y1, y2] := by
    match cs, hcn.1 with
    | [y0, y1, y2], _ => exact ⟨y0, y1, y2, rfl⟩
  subst hcs
  obtain ⟨b2, o2, bh, hA, hb2, hc2, hbx, -⟩ := blk_nth h10 h11 (q := 0) rfl
  rw [Nat.add_zero] at hc2
  obtain ⟨b1, o1, k0, hA1, hb1, hg0, hk0, -⟩ := ex_nth h6 (q := 0) rfl
  obtain ⟨b1', o1', k1, hA1', -, hg1, hk1, -⟩ := ex_nth h6 (q := 1) rfl
  obtain ⟨b1'', o1'', k2, hA1'', -, hg2, hk2, -⟩ := ex_nth h6 (q := 2) rfl
  rw [hA1] at hA1' hA1''
  injection hA1' with e1
  injection e1 with e1 e2 _
  subst e1 e2
  injection hA1'' with e1
  injection e1 with e1 e2 _
  subst e1 e2
  have hbl1 : h.blocks.l = 1 := by rw [← lb]; rfl
  have hcl3 : h.conds.l = 3 := by rw [← lc]; rfl
  rw [show stT 4 h.name (exS dst) (exS val) (exsS [y0, y1, y2]) ls fs (blksS [b0]) = [70, 79, 82, 32] ++ h.name ++ [32, 58, 61, 32] ++ exS y0 ++ [32, 84, 79, 32] ++ exS y1 ++ [32, 66, 89, 32] ++ exS y2 ++ [32, 68, 79, 10] ++ stsS b0 ++ [69, 78, 68, 95, 70, 79, 82, 59, 10] from rfl] at hl ⊢
  obtain ⟨T, hT⟩ : ∃ T, [70, 79, 82, 32] ++ h.name ++ [32, 58, 61, 32] ++ exS y0 ++ [32, 84, 79, 32] ++ exS y1 ++ [32, 66, 89, 32] ++ exS y2 ++ [32, 68, 79, 10] ++ stsS b0 ++ [69, 78, 68, 95, 70, 79, 82, 59, 10] = T := ⟨_, rfl⟩
  rw [hT] at hl ⊢
  have hla := congrArg List.length hT
  simp only [List.length_append, List.length_cons, List.length_nil] at hla
  have hlim : T.length ≤ 140737488355328 := hl
  rw [rEs, rEs, rEs] at hr3
  rw [exsB, exsB, exsB] at hc
  simp only [Bool.and_eq_true] at hc
  have S0 := Lib.hid fun W (hW : Below w.heap.size w W) => refexpr_any hr3.1 hc.1 (by unfold lim; omega) (hk0.below hW hW.size)
  have S1 := Lib.hid fun W (hW : Below w.heap.size w W) => refexpr_any hr3.2.1 hc.2.1 (by unfold lim; omega) (hk1.below hW hW.size)
  have S2 := Lib.hid fun W (hW : Below w.heap.size w W) => refexpr_any hr3.2.2.1 hc.2.2.1 (by unfold lim; omega) (hk2.below hW hW.size)
  have SD := Lib.hid fun W (hW : Below w.heap.size w W) => RW b0 (by simp only [List.cons.sizeOf_spec] at hN; omega) (rBs_at hr4 (i := 0) rfl) (inBs_at hi2 (i := 0) rfl) (blksB_at' hbl (i := 0) rfl) (by unfold lim; omega) bh W (StL.below hbx hW hW.size)
  unfold sv at S0 S1 S2 SD ⊢
  simp only [Sl.v] at SD hc2
  have HTX : Hid ((⟨#[70, 79, 82, 32]⟩ ++ ⟨(h.name).toArray⟩ ++ ⟨#[32, 58, 61, 32]⟩ ++ ⟨(exS y0).toArray⟩ ++ ⟨#[32, 84, 79, 32]⟩ ++ ⟨(exS y1).toArray⟩ ++ ⟨#[32, 66, 89, 32]⟩ ++ ⟨(exS y2).toArray⟩ ++ ⟨#[32, 68, 79, 10]⟩ ++ ⟨(stsS b0).toArray⟩ ++ ⟨#[69, 78, 68, 95, 70, 79, 82, 59, 10]⟩ : ByteArray) = ⟨T.toArray⟩) := Lib.hid (by
    rw [← hT, show (⟨#[70, 79, 82, 32]⟩ : ByteArray) = ⟨([70, 79, 82, 32] : Str).toArray⟩ from rfl, show (⟨#[32, 58, 61, 32]⟩ : ByteArray) = ⟨([32, 58, 61, 32] : Str).toArray⟩ from rfl, show (⟨#[32, 84, 79, 32]⟩ : ByteArray) = ⟨([32, 84, 79, 32] : Str).toArray⟩ from rfl, show (⟨#[32, 66, 89, 32]⟩ : ByteArray) = ⟨([32, 66, 89, 32] : Str).toArray⟩ from rfl, show (⟨#[32, 68, 79, 10]⟩ : ByteArray) = ⟨([32, 68, 79, 10] : Str).toArray⟩ from rfl, show (⟨#[69, 78, 68, 95, 70, 79, 82, 59, 10]⟩ : ByteArray) = ⟨([69, 78, 68, 95, 70, 79, 82, 59, 10] : Str).toArray⟩ from rfl]
    simp only [cat_sv, List.append_assoc])
  have BC := Lib.hid ((HB.out.cell (p := ⟨b2, o2, none⟩) hb2).trans hc2)
  have B2L := Lib.hid (show b2 < (w.alloc (.cells (sC h).toArray 49)).heap.size by have := Z1.out; omega)
  have B1L := Lib.hid (show b1 < (w.alloc (.cells (sC h).toArray 49)).heap.size by have := Z1.out; omega)
  have RA0 := Lib.hid (range_below hg0 HB.out hb1)
  have RA1 := Lib.hid (range_below hg1 HB.out hb1)
  have RA2 := Lib.hid (range_below hg2 HB.out hb1)
  have HA := Lib.hid (And.intro hA (And.intro hbl1 (And.intro hA1 hcl3)))
  have C1 := Lib.hid (cell_of X1.out (i := 1) rfl).1
  simp only [sv] at C1
  have C14 := Lib.hid (cell_of X1.out (i := 14) rfl).1
  have C17 := Lib.hid (cell_of X1.out (i := 17) rfl).1
  simp only [Sl.v] at C14 C17
  rw [HA.out.1, HA.out.2.1] at C17
  rw [HA.out.2.2.1, HA.out.2.2.2] at C14
  have s_xn : (⟨(h.name).toArray⟩ : ByteArray).size = (h.name).length := sz_sv _
  have s_x0 : (⟨(exS y0).toArray⟩ : ByteArray).size = (exS y0).length := sz_sv _
  have s_x1 : (⟨(exS y1).toArray⟩ : ByteArray).size = (exS y1).length := sz_sv _
  have s_x2 : (⟨(exS y2).toArray⟩ : ByteArray).size = (exS y2).length := sz_sv _
  have s_xb : (⟨(stsS b0).toArray⟩ : ByteArray).size = (stsS b0).length := sz_sv _
  generalize (⟨(h.name).toArray⟩ : ByteArray) = xn at *
  generalize (⟨(exS y0).toArray⟩ : ByteArray) = x0 at *
  generalize (⟨(exS y1).toArray⟩ : ByteArray) = x1 at *
  generalize (⟨(exS y2).toArray⟩ : ByteArray) = x2 at *
  generalize (⟨(stsS b0).toArray⟩ : ByteArray) = xb at *
  have QQ := Lib.hid (show ¬ 9223372036854775807 < 4 + xn.size ∧ ¬ 9223372036854775807 < 4 + xn.size + 4 ∧ ¬ 9223372036854775807 < 4 + xn.size + 4 + x0.size ∧ ¬ 9223372036854775807 < 4 + xn.size + 4 + x0.size + 4 ∧ ¬ 9223372036854775807 < 4 + xn.size + 4 + x0.size + 4 + x1.size ∧ ¬ 9223372036854775807 < 4 + xn.size + 4 + x0.size + 4 + x1.size + 4 ∧ ¬ 9223372036854775807 < 4 + xn.size + 4 + x0.size + 4 + x1.size + 4 + x2.size ∧ ¬ 9223372036854775807 < 4 + xn.size + 4 + x0.size + 4 + x1.size + 4 + x2.size + 4 ∧ ¬ 9223372036854775807 < 4 + xn.size + 4 + x0.size + 4 + x1.size + 4 + x2.size + 4 + xb.size ∧ ¬ 9223372036854775807 < 4 + xn.size + 4 + x0.size + 4 + x1.size + 4 + x2.size + 4 + xb.size + 9 by omega)
  clear h1 h2 h3 h4 h5 h6 h7 h8 h9 h10 h11 hnm hd hv hc hcn hf hlb hbl hr1 hr2 hr3 hr4 hi1 hi2 hl lc ll lf lb hN hT hla hlim s_xn s_x0 s_x1 s_x2 s_xb RW hA hb2 hc2 hbx hbl1 hA1 hb1 hg0 hg1 hg2 hk0 hk1 hk2 hcl3
  go_enter Tryz.func43, Tryz.ntmps43
  go_upto_region 2 with (fail)
  generalize w.alloc (.cells (sC h).toArray 49) = w1 at *
  have X1 : Hid (Box w1 w.heap.size 0 (sC h)) := X1
  have c0 := (cell_of X1.out (i := 0) rfl).1
  rw [hop] at c0
  go_upto_region 34 with (fail)
  clear c0
  refine wp_region_T (by kernel_rfl) (fun w' => Below w1.heap.size w1 w') [] (Below.refl _ _).drew (fun hHeld => ?_)
  have BD := Lib.hid (Below.drew (Below.refl w1.heap.size w1))
  generalize w1.drew = w1_ at *
  refine wpAnyT_take (i := 0) (v := ?_) rfl (by kernel_rfl) (by kernel_rfl) (by kernel_rfl) (fun _ _ _ h => h) (Or.inl ⟨by rfl, ?_⟩) (by assumption) ?_
  rotate_left 1
  · intro w_ hSw; clear hSw; have QQ_ := QQ.out; go_simp <;> (with_reducible rfl)
  try simp only [Act.put, List.setIfInBounds_toArray, List.set_cons_zero, List.set_cons_succ, List.getElem_toArray, List.getElem_cons_succ, List.getElem_cons_zero]
  refine wpAnyT_take (i := 1) (v := ?_) rfl (by kernel_rfl) (by kernel_rfl) (by kernel_rfl) (fun _ _ _ h => h) (Or.inl ⟨by rfl, ?_⟩) (by assumption) ?_
  rotate_left 1
  · intro w_ hSw; have hl := (hSw.cell (p := ⟨w.heap.size, 1, none⟩) (by have := Z1.out; exact this)).trans C1.out; clear hSw; go_simp <;> (with_reducible rfl)
  try simp only [Act.put, List.setIfInBounds_toArray, List.set_cons_zero, List.set_cons_succ, List.getElem_toArray, List.getElem_cons_succ, List.getElem_cons_zero]
  refine wpAnyT_take (i := 2) (v := ?_) rfl (by kernel_rfl) (by kernel_rfl) (by kernel_rfl) (fun _ _ _ h => h) (Or.inl ⟨by rfl, ?_⟩) (by assumption) ?_
  rotate_left 1
  · intro w_ hSw; clear hSw; have QQ_ := QQ.out; go_simp <;> (with_reducible rfl)
  try simp only [Act.put, List.setIfInBounds_toArray, List.set_cons_zero, List.set_cons_succ, List.getElem_toArray, List.getElem_cons_succ, List.getElem_cons_zero]
  refine wpAnyT_take (i := 3) (v := ?_) rfl (by kernel_rfl) (by kernel_rfl) (by kernel_rfl) (fun _ _ _ h => h) (Or.inl ⟨by rfl, ?_⟩) (by assumption) ?_
  rotate_left 1
  · intro w_ hSw; clear hSw; have QQ_ := QQ.out; go_simp <;> (with_reducible rfl)
  try simp only [Act.put, List.setIfInBounds_toArray, List.set_cons_zero, List.set_cons_succ, List.getElem_toArray, List.getElem_cons_succ, List.getElem_cons_zero]
  refine wpAnyT_take (i := 4) (v := ?_) rfl (by kernel_rfl) (by kernel_rfl) (by kernel_rfl) (fun _ _ _ h => h) (Or.inl ⟨by rfl, ?_⟩) (by assumption) ?_
  rotate_left 1
  · intro w_ hSw; clear hSw; have QQ_ := QQ.out; go_simp <;> (with_reducible rfl)
  try simp only [Act.put, List.setIfInBounds_toArray, List.set_cons_zero, List.set_cons_succ, List.getElem_toArray, List.getElem_cons_succ, List.getElem_cons_zero]
  refine wpAnyT_take (i := 5) (v := ?_) rfl (by kernel_rfl) (by kernel_rfl) (by kernel_rfl) (fun _ _ _ h => h) (Or.inl ⟨by rfl, ?_⟩) (by assumption) ?_
  rotate_left 1
  · intro w_ hSw; have hl := (hSw.cell (p := ⟨w.heap.size, 14, none⟩) (by have := Z1.out; exact this)).trans C14.out; clear hSw; go_simp <;> (with_reducible rfl)
  try simp only [Act.put, List.setIfInBounds_toArray, List.set_cons_zero, List.set_cons_succ, List.getElem_toArray, List.getElem_cons_succ, List.getElem_cons_zero]
  refine wpAnyT_take (i := 6) (v := ?_) rfl (by kernel_rfl) (by kernel_rfl) (by kernel_rfl) (fun _ _ _ h => h) (Or.inl ⟨by rfl, ?_⟩) (by assumption) ?_
  rotate_left 1
  · intro w_ hSw; clear hSw; have QQ_ := QQ.out; go_simp <;> (with_reducible rfl)
  try simp only [Act.put, List.setIfInBounds_toArray, List.set_cons_zero, List.set_cons_succ, List.getElem_toArray, List.getElem_cons_succ, List.getElem_cons_zero]
  refine wpAnyT_take (i := 7) rfl (by kernel_rfl) (by kernel_rfl) (by kernel_rfl) (fun _ _ _ h => h) (yieldsIf_load_mid (by rfl) 44 (.tmp 178) rfl b1 _ rfl (eC k0) _ (fun _ hb' => range_below RA0.out hb' B1L.out) rfl rfl (by kernel_rfl)) (by assumption) ?_
  try simp only [Act.put, List.setIfInBounds_toArray, List.set_cons_zero, List.set_cons_succ, List.getElem_toArray, List.getElem_cons_succ, List.getElem_cons_zero]
  refine wpAnyT_take (i := 11) (v := ?_) rfl (by kernel_rfl) (by kernel_rfl) (by kernel_rfl) (fun _ _ _ h => h) (Or.inl ⟨by rfl, ?_⟩) (by assumption) ?_
  rotate_left 1
  · intro w_ hSw; clear hSw; have QQ_ := QQ.out; go_simp <;> (with_reducible rfl)
  try simp only [Act.put, List.setIfInBounds_toArray, List.set_cons_zero, List.set_cons_succ, List.getElem_toArray, List.getElem_cons_succ, List.getElem_cons_zero]
  refine wpAnyT_take (i := 12) (v := ?_) rfl (by kernel_rfl) (by kernel_rfl) (by kernel_rfl) (fun _ _ _ h => h) (Or.inl ⟨by rfl, ?_⟩) (by assumption) ?_
  rotate_left 1
  · intro w_ hSw; have hl := (hSw.cell (p := ⟨w.heap.size, 14, none⟩) (by have := Z1.out; exact this)).trans C14.out; clear hSw; go_simp <;> (with_reducible rfl)
  try simp only [Act.put, List.setIfInBounds_toArray, List.set_cons_zero, List.set_cons_succ, List.getElem_toArray, List.getElem_cons_succ, List.getElem_cons_zero]
  refine wpAnyT_take (i := 13) (v := ?_) rfl (by kernel_rfl) (by kernel_rfl) (by kernel_rfl) (fun _ _ _ h => h) (Or.inl ⟨by rfl, ?_⟩) (by assumption) ?_
  rotate_left 1
  · intro w_ hSw; clear hSw; have QQ_ := QQ.out; go_simp <;> (with_reducible rfl)
  try simp only [Act.put, List.setIfInBounds_toArray, List.set_cons_zero, List.set_cons_succ, List.getElem_toArray, List.getElem_cons_succ, List.getElem_cons_zero]
  refine wpAnyT_take (i := 14) rfl (by kernel_rfl) (by kernel_rfl) (by kernel_rfl) (fun _ _ _ h => h) (yieldsIf_load_mid (by rfl) 44 (.tmp 185) rfl b1 _ rfl (eC k1) _ (fun _ hb' => range_below RA1.out hb' B1L.out) rfl rfl (by kernel_rfl)) (by assumption) ?_
  try simp only [Act.put, List.setIfInBounds_toArray, List.set_cons_zero, List.set_cons_succ, List.getElem_toArray, List.getElem_cons_succ, List.getElem_cons_zero]
  refine wpAnyT_take (i := 18) (v := ?_) rfl (by kernel_rfl) (by kernel_rfl) (by kernel_rfl) (fun _ _ _ h => h) (Or.inl ⟨by rfl, ?_⟩) (by assumption) ?_
  rotate_left 1
  · intro w_ hSw; clear hSw; have QQ_ := QQ.out; go_simp <;> (with_reducible rfl)
  try simp only [Act.put, List.setIfInBounds_toArray, List.set_cons_zero, List.set_cons_succ, List.getElem_toArray, List.getElem_cons_succ, List.getElem_cons_zero]
  refine wpAnyT_take (i := 19) (v := ?_) rfl (by kernel_rfl) (by kernel_rfl) (by kernel_rfl) (fun _ _ _ h => h) (Or.inl ⟨by rfl, ?_⟩) (by assumption) ?_
  rotate_left 1
  · intro w_ hSw; have hl := (hSw.cell (p := ⟨w.heap.size, 14, none⟩) (by have := Z1.out; exact this)).trans C14.out; clear hSw; go_simp <;> (with_reducible rfl)
  try simp only [Act.put, List.setIfInBounds_toArray, List.set_cons_zero, List.set_cons_succ, List.getElem_toArray, List.getElem_cons_succ, List.getElem_cons_zero]
  refine wpAnyT_take (i := 20) (v := ?_) rfl (by kernel_rfl) (by kernel_rfl) (by kernel_rfl) (fun _ _ _ h => h) (Or.inl ⟨by rfl, ?_⟩) (by assumption) ?_
  rotate_left 1
  · intro w_ hSw; clear hSw; have QQ_ := QQ.out; go_simp <;> (with_reducible rfl)
  try simp only [Act.put, List.setIfInBounds_toArray, List.set_cons_zero, List.set_cons_succ, List.getElem_toArray, List.getElem_cons_succ, List.getElem_cons_zero]
  refine wpAnyT_take (i := 21) rfl (by kernel_rfl) (by kernel_rfl) (by kernel_rfl) (fun _ _ _ h => h) (yieldsIf_load_mid (by rfl) 44 (.tmp 192) rfl b1 _ rfl (eC k2) _ (fun _ hb' => range_below RA2.out hb' B1L.out) rfl rfl (by kernel_rfl)) (by assumption) ?_
  try simp only [Act.put, List.setIfInBounds_toArray, List.set_cons_zero, List.set_cons_succ, List.getElem_toArray, List.getElem_cons_succ, List.getElem_cons_zero]
  refine wpAnyT_take (i := 25) (v := ?_) rfl (by kernel_rfl) (by kernel_rfl) (by kernel_rfl) (fun _ _ _ h => h) (Or.inl ⟨by rfl, ?_⟩) (by assumption) ?_
  rotate_left 1
  · intro w_ hSw; clear hSw; have QQ_ := QQ.out; go_simp <;> (with_reducible rfl)
  try simp only [Act.put, List.setIfInBounds_toArray, List.set_cons_zero, List.set_cons_succ, List.getElem_toArray, List.getElem_cons_succ, List.getElem_cons_zero]
  refine wpAnyT_take (i := 26) (v := ?_) rfl (by kernel_rfl) (by kernel_rfl) (by kernel_rfl) (fun _ _ _ h => h) (Or.inl ⟨by rfl, ?_⟩) (by assumption) ?_
  rotate_left 1
  · intro w_ hSw; have hl := (hSw.cell (p := ⟨w.heap.size, 17, none⟩) (by have := Z1.out; exact this)).trans C17.out; clear hSw; go_simp <;> (with_reducible rfl)
  try simp only [Act.put, List.setIfInBounds_toArray, List.set_cons_zero, List.set_cons_succ, List.getElem_toArray, List.getElem_cons_succ, List.getElem_cons_zero]
  refine wpAnyT_take (i := 27) (v := ?_) rfl (by kernel_rfl) (by kernel_rfl) (by kernel_rfl) (fun _ _ _ h => h) (Or.inl ⟨by rfl, ?_⟩) (by assumption) ?_
  rotate_left 1
  · intro w_ hSw; clear hSw; have QQ_ := QQ.out; go_simp <;> (with_reducible rfl)
  try simp only [Act.put, List.setIfInBounds_toArray, List.set_cons_zero, List.set_cons_succ, List.getElem_toArray, List.getElem_cons_succ, List.getElem_cons_zero]
  refine wpAnyT_take (i := 28) (v := ?_) rfl (by kernel_rfl) (by kernel_rfl) (by kernel_rfl) (fun _ _ _ h => h) (Or.inl ⟨by rfl, ?_⟩) (by assumption) ?_
  rotate_left 1
  · intro w_ hSw; have hl := (hSw.cell (p := ⟨b2, o2, none⟩) (by have := B2L.out; exact this)).trans BC.out; clear hSw; go_simp <;> (with_reducible rfl)
  try simp only [Act.put, List.setIfInBounds_toArray, List.set_cons_zero, List.set_cons_succ, List.getElem_toArray, List.getElem_cons_succ, List.getElem_cons_zero]
  refine wpAnyT_ready (rs := [8]) (by kernel_rfl) (by simp) ?_
  refine AllReadyT.cons rfl (fun K hK => ?_) AllReadyT.nil
  go_simp
  go_at_call 68
  refine (S0.out _ (HB.out.trans (BD.out.mono HB.out.size))).mono ?_
  rintro e bw1 ⟨rfl, hb⟩
  have BB1 := Lib.hid (BD.out.trans (hb.mono BD.out.size))
  clear hb
  go_wp2_with fail
  refine hK _ _ BB1.out (fun hHeld => ?_)
  clear hK K
  try simp only [Act.put, List.setIfInBounds_toArray, List.set_cons_zero, List.set_cons_succ, List.getElem_toArray, List.getElem_cons_succ, List.getElem_cons_zero]
  refine wpAnyT_take (i := 9) (v := ?_) rfl (by kernel_rfl) (by kernel_rfl) (by kernel_rfl) (fun _ _ _ h => h) (Or.inl ⟨by rfl, ?_⟩) (by assumption) ?_
  rotate_left 1
  · intro w_ hSw; clear hSw; have QQ_ := QQ.out; go_simp <;> (with_reducible rfl)
  try simp only [Act.put, List.setIfInBounds_toArray, List.set_cons_zero, List.set_cons_succ, List.getElem_toArray, List.getElem_cons_succ, List.getElem_cons_zero]
  refine wpAnyT_take (i := 10) (v := ?_) rfl (by kernel_rfl) (by kernel_rfl) (by kernel_rfl) (fun _ _ _ h => h) (Or.inl ⟨by rfl, ?_⟩) (by assumption) ?_
  rotate_left 1
  · intro w_ hSw; clear hSw; have QQ_ := QQ.out; go_simp <;> (with_reducible rfl)
  try simp only [Act.put, List.setIfInBounds_toArray, List.set_cons_zero, List.set_cons_succ, List.getElem_toArray, List.getElem_cons_succ, List.getElem_cons_zero]
  refine wpAnyT_ready (rs := [15]) (by kernel_rfl) (by simp) ?_
  refine AllReadyT.cons rfl (fun K hK => ?_) AllReadyT.nil
  go_simp
  go_at_call 68
  refine (S1.out _ (HB.out.trans (BB1.out.mono HB.out.size))).mono ?_
  rintro e bw2 ⟨rfl, hb⟩
  have BB2 := Lib.hid (BB1.out.trans (hb.mono BB1.out.size))
  clear hb
  go_wp2_with fail
  refine hK _ _ BB2.out (fun hHeld => ?_)
  clear hK K
  try simp only [Act.put, List.setIfInBounds_toArray, List.set_cons_zero, List.set_cons_succ, List.getElem_toArray, List.getElem_cons_succ, List.getElem_cons_zero]
  refine wpAnyT_take (i := 16) (v := ?_) rfl (by kernel_rfl) (by kernel_rfl) (by kernel_rfl) (fun _ _ _ h => h) (Or.inl ⟨by rfl, ?_⟩) (by assumption) ?_
  rotate_left 1
  · intro w_ hSw; clear hSw; have QQ_ := QQ.out; go_simp <;> (with_reducible rfl)
  try simp only [Act.put, List.setIfInBounds_toArray, List.set_cons_zero, List.set_cons_succ, List.getElem_toArray, List.getElem_cons_succ, List.getElem_cons_zero]
  refine wpAnyT_take (i := 17) (v := ?_) rfl (by kernel_rfl) (by kernel_rfl) (by kernel_rfl) (fun _ _ _ h => h) (Or.inl ⟨by rfl, ?_⟩) (by assumption) ?_
  rotate_left 1
  · intro w_ hSw; clear hSw; have QQ_ := QQ.out; go_simp <;> (with_reducible rfl)
  try simp only [Act.put, List.setIfInBounds_toArray, List.set_cons_zero, List.set_cons_succ, List.getElem_toArray, List.getElem_cons_succ, List.getElem_cons_zero]
  refine wpAnyT_ready (rs := [22]) (by kernel_rfl) (by simp) ?_
  refine AllReadyT.cons rfl (fun K hK => ?_) AllReadyT.nil
  go_simp
  go_at_call 68
  refine (S2.out _ (HB.out.trans (BB2.out.mono HB.out.size))).mono ?_
  rintro e bw3 ⟨rfl, hb⟩
  have BB3 := Lib.hid (BB2.out.trans (hb.mono BB2.out.size))
  clear hb
  go_wp2_with fail
  refine hK _ _ BB3.out (fun hHeld => ?_)
  clear hK K
  try simp only [Act.put, List.setIfInBounds_toArray, List.set_cons_zero, List.set_cons_succ, List.getElem_toArray, List.getElem_cons_succ, List.getElem_cons_zero]
  refine wpAnyT_take (i := 23) (v := ?_) rfl (by kernel_rfl) (by kernel_rfl) (by kernel_rfl) (fun _ _ _ h => h) (Or.inl ⟨by rfl, ?_⟩) (by assumption) ?_
  rotate_left 1
  · intro w_ hSw; clear hSw; have QQ_ := QQ.out; go_simp <;> (with_reducible rfl)
  try simp only [Act.put, List.setIfInBounds_toArray, List.set_cons_zero, List.set_cons_succ, List.getElem_toArray, List.getElem_cons_succ, List.getElem_cons_zero]
  refine wpAnyT_take (i := 24) (v := ?_) rfl (by kernel_rfl) (by kernel_rfl) (by kernel_rfl) (fun _ _ _ h => h) (Or.inl ⟨by rfl, ?_⟩) (by assumption) ?_
  rotate_left 1
  · intro w_ hSw; clear hSw; have QQ_ := QQ.out; go_simp <;> (with_reducible rfl)
  try simp only [Act.put, List.setIfInBounds_toArray, List.set_cons_zero, List.set_cons_succ, List.getElem_toArray, List.getElem_cons_succ, List.getElem_cons_zero]
  refine wpAnyT_ready (rs := [29]) (by kernel_rfl) (by simp) ?_
  refine AllReadyT.cons rfl (fun K hK => ?_) AllReadyT.nil
  go_simp
  go_at_call 22
  refine (SD.out _ (HB.out.trans (BB3.out.mono HB.out.size))).mono ?_
  rintro e bw4 ⟨rfl, hb⟩
  have BB4 := Lib.hid (BB3.out.trans (hb.mono BB3.out.size))
  clear hb
  go_wp2_with fail
  refine hK _ _ BB4.out (fun hHeld => ?_)
  clear hK K
  try simp only [Act.put, List.setIfInBounds_toArray, List.set_cons_zero, List.set_cons_succ, List.getElem_toArray, List.getElem_cons_succ, List.getElem_cons_zero]
  refine wpAnyT_take (i := 30) (v := ?_) rfl (by kernel_rfl) (by kernel_rfl) (by kernel_rfl) (fun _ _ _ h => h) (Or.inl ⟨by rfl, ?_⟩) (by assumption) ?_
  rotate_left 1
  · intro w_ hSw; clear hSw; have QQ_ := QQ.out; go_simp <;> (with_reducible rfl)
  try simp only [Act.put, List.setIfInBounds_toArray, List.set_cons_zero, List.set_cons_succ, List.getElem_toArray, List.getElem_cons_succ, List.getElem_cons_zero]
  refine wpAnyT_take (i := 31) (v := ?_) rfl (by kernel_rfl) (by kernel_rfl) (by kernel_rfl) (fun _ _ _ h => h) (Or.inl ⟨by rfl, ?_⟩) (by assumption) ?_
  rotate_left 1
  · intro w_ hSw; clear hSw; have QQ_ := QQ.out; go_simp <;> (with_reducible rfl)
  try simp only [Act.put, List.setIfInBounds_toArray, List.set_cons_zero, List.set_cons_succ, List.getElem_toArray, List.getElem_cons_succ, List.getElem_cons_zero]
  refine wpAnyT_take (i := 32) (v := ?_) rfl (by kernel_rfl) (by kernel_rfl) (by kernel_rfl) (fun _ _ _ h => h) (Or.inl ⟨by rfl, ?_⟩) (by assumption) ?_
  rotate_left 1
  · intro w_ hSw; clear hSw; have QQ_ := QQ.out; go_simp <;> (with_reducible rfl)
  try simp only [Act.put, List.setIfInBounds_toArray, List.set_cons_zero, List.set_cons_succ, List.getElem_toArray, List.getElem_cons_succ, List.getElem_cons_zero]
  refine wpAnyT_done (by kernel_rfl) ?_ _
  go_wp2
  go_ret
  rw [HTX.out]
  exact ⟨rfl, HB.out.trans (BB4.out.mono HB.out.size)⟩
end Go.Proofs.YtdefgghhkknnpaaGreatDoor.sh
