/- The given function's row of a statement: a call. Conditions: a statement such as a text could give; its text has at most 2^47 bytes. -/
import Derived.Test.YtdefgghhkknnpaaGreatDoorShRoA
namespace Go.Proofs.YtdefgghhkknnpaaGreatDoor.sh
open Go.ChangeShapes Go.WideShapes Go.ChangeAt Go.RowKit Go.Proofs.YtdefgghhkknnpaaGreatDoor Go.Proofs.YtdefgghhkknnpaaGreatDoor.k Go.Proofs.YtdefgghhkknnpaaGreatDoor.rr Go.Proofs.YtdefgghhkknnpaaGreatDoor.tk Go.Proofs.YtdefgghhkknnpaaGreatDoor.tr
set_option linter.unusedVariables false
set_option linter.unusedSimpArgs false

set_option maxRecDepth 100000 in
set_option maxHeartbeats 40000000 in
theorem row_9 {N : Nat} (RW : RoL N) {nm : Str} {dst val : Ex} {cs : List Ex} {ls : List (List Int)} {fs : List Str} {bs : List (List St)} {ln : Int} {h : SH} {w : World} (hx : StAt w w.heap.size (.mk 9 nm dst val cs ls fs bs ln) h) (hN : SizeOf.sizeOf bs ≤ N) (hr : rS (.mk 9 nm dst val cs ls fs bs ln)) (hi : inS (.mk 9 nm dst val cs ls fs bs ln)) (hb : stB (.mk 9 nm dst val cs ls fs bs ln) = true) (hl : (stS (.mk 9 nm dst val cs ls fs bs ln)).length ≤ lim) : Calls Tryz.prog 43 #[.agg (sC h).toArray] w fun e w' => e = .returned (sv (stS (.mk 9 nm dst val cs ls fs bs ln))) ∧ Below w.heap.size w w' := by
  unfold StAt at hx
  obtain ⟨h1, h2, h3, h4, h5, h6, ⟨LH, h7, h8⟩, h9, BH, h10, h11⟩ := hx
  have hop : h.op = 9 := by first | exact h1 | exact h1.symm
  obtain rfl : nm = h.name := by first | exact h2 | exact h2.symm
  rw [stB_fit] at hb
  simp only [Bool.and_eq_true] at hb
  obtain ⟨-, hnm, hd, hv, hc, hcn, hf, hlb, hbl⟩ := hb
  rw [rS] at hr
  obtain ⟨hr1, hr2, hr3, hr4⟩ := hr
  rw [inS] at hi
  obtain ⟨hi1, hi2⟩ := hi
  rw [stS] at hl ⊢
  have lc : cs.length = h.conds.l := by obtain ⟨K, a, b⟩ := h6; exact b.len.symm.trans a.1
  have ll : ls.length = h.labels.l := h8.len.symm.trans h7.1
  have lf : fs.length = h.fields.l := h9.1
  have lb : bs.length = h.blocks.l := h11.len.symm.trans h10.1
  have HB := Lib.hid (al1 w (.cells (sC h).toArray 49))
  have X1 := Lib.hid (Box.new w (sC h).toArray 49)
  have Z1 := Lib.hid (show w.heap.size < (w.alloc (.cells (sC h).toArray 49)).heap.size by simp)
  have hnm : nmB h.name = true := hnm
  have hcn : (cs.length == fs.length && _) = true := hcn
  rw [Bool.and_eq_true, beq_iff_eq] at hcn
  have hcl := hcn.1
  rw [show stT 9 h.name (exS dst) (exS val) (exsS cs) ls fs (blksS bs) = h.name ++ [40] ++ argT false fs (exsS cs) ++ [41, 59, 10] from rfl] at hl ⊢
  obtain ⟨U, hU⟩ : ∃ U, argT false fs (exsS cs) = U := ⟨_, rfl⟩
  rw [hU] at hl ⊢
  obtain ⟨T, hT⟩ : ∃ T, h.name ++ [40] ++ U ++ [41, 59, 10] = T := ⟨_, rfl⟩
  rw [hT] at hl ⊢
  have hlim : T.length ≤ 140737488355328 := hl
  have HTT := Lib.hid hT
  have HLM := Lib.hid hlim
  have hla := congrArg List.length hT
  simp only [List.length_append, List.length_cons, List.length_nil] at hla
  have HUL := Lib.hid (show U.length + 4 ≤ 140737488355328 by omega)
  have HUU := Lib.hid hU
  have nlc : (h.conds.l : Int) ≤ 9223372036854775807 := by obtain ⟨K, a, b⟩ := h6; exact Rd.len_le a
  have nll : (h.labels.l : Int) ≤ 9223372036854775807 := Rd.len_le h7
  have nlf : (h.fields.l : Int) ≤ 9223372036854775807 := Rd.len_le h9
  have nlb : (h.blocks.l : Int) ≤ 9223372036854775807 := Rd.len_le h10
  have NLN := Lib.hid (And.intro nlc (And.intro nll (And.intro nlf nlb)))
  clear nlc nll nlf nlb
  have HN2 := Lib.hid hN
  have HRS := Lib.hid (And.intro hr3 hr4)
  have HIS := Lib.hid (And.intro hi1 hi2)
  have HBS := Lib.hid (And.intro hc (And.intro hf (And.intro hlb hbl)))
  have HLL := Lib.hid (And.intro lc (And.intro ll (And.intro lf lb)))
  have H6 := Lib.hid h6
  have H7 := Lib.hid (And.intro h7 h8)
  have H9 := Lib.hid h9
  have H10 := Lib.hid (And.intro h10 h11)
  have HRW := Lib.hid RW
  have HCL := Lib.hid hcl
  unfold sv
  clear h1 h2 h3 h4 h5 h6 h7 h8 h9 h10 h11 hnm hd hv hc hcn hf hlb hbl hr1 hr2 hr3 hr4 hi1 hi2 hl lc ll lf lb hN hT hla hlim hU hcl RW
  go_enter Tryz.func43, Tryz.ntmps43
  go_upto_region 2 with (fail)
  generalize w.alloc (.cells (sC h).toArray 49) = w1 at *
  have X1 : Hid (Box w1 w.heap.size 0 (sC h)) := X1
  have c0 := (cell_of X1.out (i := 0) rfl).1
  rw [hop] at c0
  have hop9 := Lib.hid hop
  go_upto_region 44 with (fail)
  clear c0
  go_loopw [3, 8] (fun s3 s8 wr => ∃ (q : Nat) (t1 : Str), q ≤ h.fields.l ∧ s3 = .string ⟨t1.toArray⟩ ∧ s8 = .int .i64 q ∧ Below w.heap.size w wr ∧ Box wr w.heap.size 0 (sC h) ∧ w.heap.size < wr.heap.size ∧ t1 ++ argT (decide (0 < q)) (fs.drop q) (exsS (cs.drop q)) = U) (fun _ i _ => h.fields.l - (intOf i).toNat)
  case atStart => exact ⟨0, [], Nat.zero_le _, rfl, rfl, HB.out, X1.out, Z1.out, by rw [List.drop_zero, List.drop_zero]; exact HUU.out⟩
  case round =>
    obtain ⟨q, t1, hq, rfl, rfl, hb, hx, hz, ht⟩ := hrel
    clear HB X1 Z1
    have BX0 := Lib.hid hb
    have XX0 := Lib.hid hx
    have ZX0 := Lib.hid hz
    clear hb hx hz
    by_cases hlt : q < h.fields.l
    rotate_left
    · obtain rfl : q = h.fields.l := by omega
      have hz : ¬ (h.fields.l : Int) < h.fields.l := by omega
      rw [List.drop_of_length_le (l := fs) (by have := HLL.out.2.2.1; omega), argT, List.append_nil] at ht
      subst ht
      have c1 := (cell_of XX0.out (i := 1) rfl).1
      have c16 := (cell_of XX0.out (i := 16) rfl).1
      simp only [sv, Sl.v] at c1 c16
      have hT := HTT.out
      have hla := congrArg List.length hT
      simp only [List.length_append, List.length_cons, List.length_nil] at hla
      have hlim := HLM.out
      have HTX : Hid ((((⟨(h.name).toArray⟩ ++ ⟨#[40]⟩) ++ ⟨(t1).toArray⟩) ++ ⟨#[41, 59, 10]⟩ : ByteArray) = ⟨(T).toArray⟩) := Lib.hid (by
        rw [show (⟨#[40]⟩ : ByteArray) = ⟨([40] : Str).toArray⟩ from rfl, show (⟨#[41, 59, 10]⟩ : ByteArray) = ⟨([41, 59, 10] : Str).toArray⟩ from rfl]
        rw [← hT]
        simp only [cat_sv, List.append_assoc])
      have s_xn : (⟨(h.name).toArray⟩ : ByteArray).size = (h.name).length := sz_sv _
      have s_xt : (⟨(t1).toArray⟩ : ByteArray).size = (t1).length := sz_sv _
      generalize (⟨h.name.toArray⟩ : ByteArray) = xn at *
      generalize (⟨t1.toArray⟩ : ByteArray) = xt at *
      have q1 : ¬ 9223372036854775807 < xn.size + 1 := by omega
      have q2 : ¬ 9223372036854775807 < xn.size + 1 + xt.size := by omega
      have q3 : ¬ 9223372036854775807 < xn.size + 1 + xt.size + 3 := by omega
      clear hT hla hlim s_xn s_xt hlt hq
      go_wp2_with fail
      go_ret
      rw [HTX.out]
      exact ⟨rfl, BX0.out⟩
    obtain ⟨f, hfq⟩ : ∃ f, fs[q]? = some f := ⟨_, List.getElem?_eq_getElem (by have := HLL.out.2.2.1; omega)⟩
    obtain ⟨x, hxq⟩ : ∃ x, cs[q]? = some x := ⟨_, List.getElem?_eq_getElem (by have := HLL.out; have := HCL.out; omega)⟩
    obtain ⟨b3, o3, hA3, hb3, hc3, -⟩ := str_nth H9.out hfq
    obtain ⟨b1, o1, k0, hA1, hb1, hg0, hk0, hqc⟩ := ex_nth H6.out hxq
    rw [drop_at hfq, exs_at hxq, argT] at ht
    obtain ⟨sp, hsp⟩ : ∃ sp : Str, (if decide (0 < q) = true then [44, 32] else []) = sp := ⟨_, rfl⟩
    have ht2 : (t1 ++ sp ++ (f ++ [32, 58, 61, 32] ++ exS x)) ++ argT (decide (0 < q + 1)) (fs.drop (q + 1)) (exsS (cs.drop (q + 1))) = U := by
      rw [← ht, hsp, show decide (0 < q + 1) = true from decide_eq_true (by omega)]
      simp only [List.append_assoc, List.headD_cons, List.drop_succ_cons, List.drop_zero]
    have hla := congrArg List.length ht2
    simp only [List.length_append, List.length_cons, List.length_nil] at hla
    have hlim := HUL.out
    have SC := Lib.hid fun W (hW : Below w.heap.size w W) => refexpr_any (rEs_at HRS.out.1 hxq) (exsB_at' HBS.out.1 hxq) (by unfold lim; omega) (hk0.below hW hW.size)
    unfold sv at SC
    have FC := (BX0.out.cell (p := ⟨b3, o3 + q, none⟩) hb3).trans hc3
    unfold sv at FC
    have C14 := (cell_of XX0.out (i := 14) rfl).1
    have C16 := (cell_of XX0.out (i := 16) rfl).1
    simp only [Sl.v] at C14 C16
    rw [hA3] at C16
    rw [hA1] at C14
    have FC := Lib.hid FC
    have c16 := C16
    have C14 := Lib.hid C14
    have C16 := Lib.hid C16
    have RA := Lib.hid (range_below hg0 BX0.out hb1)
    have B1L := Lib.hid (show b1 < wr.heap.size by have := ZX0.out; omega)
    have B3L := Lib.hid (show b3 < wr.heap.size by have := ZX0.out; omega)
    have HTX : Hid ((⟨(t1 ++ sp).toArray⟩ ++ (⟨(f).toArray⟩ ++ ⟨#[32, 58, 61, 32]⟩ ++ ⟨(exS x).toArray⟩) : ByteArray) = ⟨(t1 ++ sp ++ (f ++ [32, 58, 61, 32] ++ exS x)).toArray⟩) := Lib.hid (by
      rw [show (⟨#[32, 58, 61, 32]⟩ : ByteArray) = ⟨([32, 58, 61, 32] : Str).toArray⟩ from rfl]
      simp only [cat_sv, List.append_assoc])
    have s_xt : (⟨(t1 ++ sp).toArray⟩ : ByteArray).size = (t1 ++ sp).length := sz_sv _
    have s_xf : (⟨(f).toArray⟩ : ByteArray).size = (f).length := sz_sv _
    have s_xa : (⟨(exS x).toArray⟩ : ByteArray).size = (exS x).length := sz_sv _
    have s_x0 : (⟨(t1).toArray⟩ : ByteArray).size = (t1).length := sz_sv _
    have s_xs : (t1 ++ sp).length = t1.length + sp.length := List.length_append
    have hsl : sp.length ≤ 2 := by rw [← hsp]; split <;> simp
    have HCX : Hid ((⟨t1.toArray⟩ : ByteArray) ++ ⟨#[44, 32]⟩ = ⟨(t1 ++ [44, 32]).toArray⟩) := Lib.hid (cat_sv t1 [44, 32])
    generalize (⟨f.toArray⟩ : ByteArray) = xf at *
    generalize (⟨(exS x).toArray⟩ : ByteArray) = xa at *
    obtain ⟨xt, hxt⟩ : ∃ y : ByteArray, ⟨(t1 ++ sp).toArray⟩ = y := ⟨_, rfl⟩
    rw [hxt] at HTX s_xt
    have HXT := Lib.hid hxt
    obtain ⟨x0, hx0⟩ : ∃ y : ByteArray, ⟨t1.toArray⟩ = y := ⟨_, rfl⟩
    rw [hx0] at HCX s_x0 ⊢
    have HX0 := Lib.hid hx0
    have q1 : ¬ 9223372036854775807 < x0.size + 2 := by omega
    have QQ := Lib.hid (show ¬ 9223372036854775807 < xf.size + 4 ∧ ¬ 9223372036854775807 < xf.size + 4 + xa.size ∧ ¬ 9223372036854775807 < xt.size + (xf.size + 4 + xa.size) ∧ q < h.fields.l ∧ q < h.conds.l ∧ (q : Int) < h.fields.l ∧ (q : Int) < h.conds.l by omega)
    have w1 := nat_step q (by have := NLN.out; omega)
    have hlt' : (q : Int) < h.fields.l := by omega
    have HW1 := Lib.hid w1
    have HLT := Lib.hid hlt
    have HT2 := Lib.hid ht2
    have HSP := Lib.hid hsp
    clear hfq hxq hA3 hb3 hc3 hA1 hb1 hg0 hk0 hqc ht ht2 hla hlim s_xt s_xf s_xa s_x0 s_xs hsl hxt hx0 w1 hsp hq
    obtain ⟨mm, hm⟩ : ∃ m, decide (0 < q) = m := ⟨_, rfl⟩
    have HM := Lib.hid hm
    clear hm
    go_upto_region 46 with (fail)
    clear c16 hlt'
    cases mm
    all_goals
      first
        | (have h0' : ¬ (0 : Int) < q := by have := of_decide_eq_false HM.out; omega
           have HX : Hid (x0 = xt) := Lib.hid (by rw [← HX0.out, ← HXT.out, ← HSP.out, HM.out]; simp))
        | (have h0' : (0 : Int) < q := by have := of_decide_eq_true HM.out; omega
           have HX : Hid (x0 ++ ⟨#[44, 32]⟩ = xt) := Lib.hid (by rw [HCX.out, ← HXT.out, ← HSP.out, HM.out]; rfl))
      go_upto_region 48 with (fail)
      rw [HX.out]
      clear q1 h0'
      refine wp_region_T (by kernel_rfl) (fun w' => Below wr.heap.size wr w') [] (Below.refl _ _).drew (fun hHeld => ?_)
      have BD := Lib.hid (Below.drew (Below.refl wr.heap.size wr))
      generalize wr.drew = wr_ at *
      refine wpAnyT_take (i := 0) (v := ?_) rfl (by kernel_rfl) (by kernel_rfl) (by kernel_rfl) (fun _ _ _ h => h) (Or.inl ⟨by rfl, ?_⟩) (by assumption) ?_
      rotate_left 1
      · intro w_ hSw; clear hSw; have QQ_ := QQ.out; go_simp <;> (with_reducible rfl)
      try simp only [Act.put, List.setIfInBounds_toArray, List.set_cons_zero, List.set_cons_succ, List.getElem_toArray, List.getElem_cons_succ, List.getElem_cons_zero]
      refine wpAnyT_take (i := 1) (v := ?_) rfl (by kernel_rfl) (by kernel_rfl) (by kernel_rfl) (fun _ _ _ h => h) (Or.inl ⟨by rfl, ?_⟩) (by assumption) ?_
      rotate_left 1
      · intro w_ hSw; clear hSw; have QQ_ := QQ.out; go_simp <;> (with_reducible rfl)
      try simp only [Act.put, List.setIfInBounds_toArray, List.set_cons_zero, List.set_cons_succ, List.getElem_toArray, List.getElem_cons_succ, List.getElem_cons_zero]
      refine wpAnyT_take (i := 2) (v := ?_) rfl (by kernel_rfl) (by kernel_rfl) (by kernel_rfl) (fun _ _ _ h => h) (Or.inl ⟨by rfl, ?_⟩) (by assumption) ?_
      rotate_left 1
      · intro w_ hSw; have hl := (hSw.cell (p := ⟨w.heap.size, 16, none⟩) (by have := ZX0.out; exact this)).trans C16.out; clear hSw; go_simp <;> (with_reducible rfl)
      try simp only [Act.put, List.setIfInBounds_toArray, List.set_cons_zero, List.set_cons_succ, List.getElem_toArray, List.getElem_cons_succ, List.getElem_cons_zero]
      refine wpAnyT_take (i := 3) (v := ?_) rfl (by kernel_rfl) (by kernel_rfl) (by kernel_rfl) (fun _ _ _ h => h) (Or.inl ⟨by rfl, ?_⟩) (by assumption) ?_
      rotate_left 1
      · intro w_ hSw; clear hSw; have QQ_ := QQ.out; go_simp <;> (with_reducible rfl)
      try simp only [Act.put, List.setIfInBounds_toArray, List.set_cons_zero, List.set_cons_succ, List.getElem_toArray, List.getElem_cons_succ, List.getElem_cons_zero]
      refine wpAnyT_take (i := 4) (v := ?_) rfl (by kernel_rfl) (by kernel_rfl) (by kernel_rfl) (fun _ _ _ h => h) (Or.inl ⟨by rfl, ?_⟩) (by assumption) ?_
      rotate_left 1
      · intro w_ hSw; clear hSw; have QQ_ := QQ.out; go_simp <;> (with_reducible rfl)
      try simp only [Act.put, List.setIfInBounds_toArray, List.set_cons_zero, List.set_cons_succ, List.getElem_toArray, List.getElem_cons_succ, List.getElem_cons_zero]
      refine wpAnyT_take (i := 5) (v := ?_) rfl (by kernel_rfl) (by kernel_rfl) (by kernel_rfl) (fun _ _ _ h => h) (Or.inl ⟨by rfl, ?_⟩) (by assumption) ?_
      rotate_left 1
      · intro w_ hSw; have hl := (hSw.cell (p := ⟨b3, o3 + q, none⟩) (by have := B3L.out; exact this)).trans FC.out; clear hSw; go_simp <;> (with_reducible rfl)
      try simp only [Act.put, List.setIfInBounds_toArray, List.set_cons_zero, List.set_cons_succ, List.getElem_toArray, List.getElem_cons_succ, List.getElem_cons_zero]
      refine wpAnyT_take (i := 6) (v := ?_) rfl (by kernel_rfl) (by kernel_rfl) (by kernel_rfl) (fun _ _ _ h => h) (Or.inl ⟨by rfl, ?_⟩) (by assumption) ?_
      rotate_left 1
      · intro w_ hSw; clear hSw; have QQ_ := QQ.out; go_simp <;> (with_reducible rfl)
      try simp only [Act.put, List.setIfInBounds_toArray, List.set_cons_zero, List.set_cons_succ, List.getElem_toArray, List.getElem_cons_succ, List.getElem_cons_zero]
      refine wpAnyT_take (i := 7) (v := ?_) rfl (by kernel_rfl) (by kernel_rfl) (by kernel_rfl) (fun _ _ _ h => h) (Or.inl ⟨by rfl, ?_⟩) (by assumption) ?_
      rotate_left 1
      · intro w_ hSw; clear hSw; have QQ_ := QQ.out; go_simp <;> (with_reducible rfl)
      try simp only [Act.put, List.setIfInBounds_toArray, List.set_cons_zero, List.set_cons_succ, List.getElem_toArray, List.getElem_cons_succ, List.getElem_cons_zero]
      refine wpAnyT_take (i := 8) (v := ?_) rfl (by kernel_rfl) (by kernel_rfl) (by kernel_rfl) (fun _ _ _ h => h) (Or.inl ⟨by rfl, ?_⟩) (by assumption) ?_
      rotate_left 1
      · intro w_ hSw; have hl := (hSw.cell (p := ⟨w.heap.size, 14, none⟩) (by have := ZX0.out; exact this)).trans C14.out; clear hSw; go_simp <;> (with_reducible rfl)
      try simp only [Act.put, List.setIfInBounds_toArray, List.set_cons_zero, List.set_cons_succ, List.getElem_toArray, List.getElem_cons_succ, List.getElem_cons_zero]
      refine wpAnyT_take (i := 9) (v := ?_) rfl (by kernel_rfl) (by kernel_rfl) (by kernel_rfl) (fun _ _ _ h => h) (Or.inl ⟨by rfl, ?_⟩) (by assumption) ?_
      rotate_left 1
      · intro w_ hSw; clear hSw; have QQ_ := QQ.out; go_simp <;> (with_reducible rfl)
      try simp only [Act.put, List.setIfInBounds_toArray, List.set_cons_zero, List.set_cons_succ, List.getElem_toArray, List.getElem_cons_succ, List.getElem_cons_zero]
      refine wpAnyT_take (i := 10) (v := ?_) rfl (by kernel_rfl) (by kernel_rfl) (by kernel_rfl) (fun _ _ _ h => h) (Or.inl ⟨by rfl, ?_⟩) (by assumption) ?_
      rotate_left 1
      · intro w_ hSw; clear hSw; have QQ_ := QQ.out; go_simp <;> (with_reducible rfl)
      try simp only [Act.put, List.setIfInBounds_toArray, List.set_cons_zero, List.set_cons_succ, List.getElem_toArray, List.getElem_cons_succ, List.getElem_cons_zero]
      refine wpAnyT_take (i := 11) rfl (by kernel_rfl) (by kernel_rfl) (by kernel_rfl) (fun _ _ _ h => h) (yieldsIf_load_mid (by rfl) 44 (.tmp 257) rfl b1 _ rfl (eC k0) _ (fun _ hb' => range_below RA.out hb' B1L.out) rfl rfl (by kernel_rfl)) (by assumption) ?_
      try simp only [Act.put, List.setIfInBounds_toArray, List.set_cons_zero, List.set_cons_succ, List.getElem_toArray, List.getElem_cons_succ, List.getElem_cons_zero]
      refine wpAnyT_ready (rs := [12]) (by kernel_rfl) (by simp) ?_
      refine AllReadyT.cons rfl (fun K hK => ?_) AllReadyT.nil
      go_simp
      go_at_call 68
      refine (SC.out _ (BX0.out.trans (BD.out.mono BX0.out.size))).mono ?_
      rintro e bw1 ⟨rfl, hb⟩
      have BB1 := Lib.hid (BD.out.trans (hb.mono BD.out.size))
      clear hb
      go_wp2_with fail
      refine hK _ _ BB1.out (fun hHeld => ?_)
      clear hK K
      try simp only [Act.put, List.setIfInBounds_toArray, List.set_cons_zero, List.set_cons_succ, List.getElem_toArray, List.getElem_cons_succ, List.getElem_cons_zero]
      refine wpAnyT_take (i := 13) (v := ?_) rfl (by kernel_rfl) (by kernel_rfl) (by kernel_rfl) (fun _ _ _ h => h) (Or.inl ⟨by rfl, ?_⟩) (by assumption) ?_
      rotate_left 1
      · intro w_ hSw; clear hSw; have QQ_ := QQ.out; go_simp <;> (with_reducible rfl)
      try simp only [Act.put, List.setIfInBounds_toArray, List.set_cons_zero, List.set_cons_succ, List.getElem_toArray, List.getElem_cons_succ, List.getElem_cons_zero]
      refine wpAnyT_take (i := 14) (v := ?_) rfl (by kernel_rfl) (by kernel_rfl) (by kernel_rfl) (fun _ _ _ h => h) (Or.inl ⟨by rfl, ?_⟩) (by assumption) ?_
      rotate_left 1
      · intro w_ hSw; clear hSw; have QQ_ := QQ.out; go_simp <;> (with_reducible rfl)
      try simp only [Act.put, List.setIfInBounds_toArray, List.set_cons_zero, List.set_cons_succ, List.getElem_toArray, List.getElem_cons_succ, List.getElem_cons_zero]
      refine wpAnyT_take (i := 15) (v := ?_) rfl (by kernel_rfl) (by kernel_rfl) (by kernel_rfl) (fun _ _ _ h => h) (Or.inl ⟨by rfl, ?_⟩) (by assumption) ?_
      rotate_left 1
      · intro w_ hSw; clear hSw; have QQ_ := QQ.out; go_simp <;> (with_reducible rfl)
      try simp only [Act.put, List.setIfInBounds_toArray, List.set_cons_zero, List.set_cons_succ, List.getElem_toArray, List.getElem_cons_succ, List.getElem_cons_zero]
      refine wpAnyT_done (by kernel_rfl) ?_ _
      have w1 := HW1.out
      have B5 := Lib.hid (BX0.out.trans (BB1.out.mono BX0.out.size))
      have X5 := Lib.hid (XX0.out.below BB1.out ZX0.out)
      have Z5 := Lib.hid (Nat.lt_of_lt_of_le ZX0.out BB1.out.size)
      go_wp2_with fail
      go_roundw
      case rel => exact ⟨q + 1, t1 ++ sp ++ (f ++ [32, 58, 61, 32] ++ exS x), HLT.out, by rw [HTX.out], by go_num, B5.out, X5.out, Z5.out, HT2.out⟩
      case measure => have := HLT.out; simp [intOf]; omega
end Go.Proofs.YtdefgghhkknnpaaGreatDoor.sh
