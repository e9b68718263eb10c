/- The landed parser's statements: cases, over what the parts give. Condition: at most 6000 signs. -/
import Derived.Test.YtbcpkhegmbdifaaGreatU18
namespace Go.Proofs.YtbcpkhegmbdifaaGreat.tr
open Go.ChangeShapes Go.WideShapes Go.ChangeAt Go.RowKit Go.Proofs.YtbcpkhegmbdifaaGreat.k Go.Proofs.YtbcpkhegmbdifaaGreat.rr Go.Proofs.YtbcpkhegmbdifaaGreat.tk
set_option linter.unusedVariables false
set_option linter.unusedSimpArgs false

/-- the labels of a block, and the sign behind them -/
def labsP (f : Nat) (r : Sg) : Res (List Int) := (labelsF f r []).bind fun l r' => (need [58] r').bind fun _ r' => .ok l r'
theorem labs_bind {β : Type} (f : Nat) (r : Sg) (G : List Int → Sg → Res β) : ((labelsF f r []).bind fun l r' => (need [58] r').bind fun _ r' => G l r') = (labsP f r).bind G := by
 unfold labsP
 rw [bind_bind]
 congr 1
 funext l r'
 rw [bind_bind]
 rfl
theorem fin_labs {f : Nat} {r : Sg} (h : 20 * r.length + 1 ≤ f) : Fin' r.length (labsP f r) :=
 fin_bind (fin_labels f r [] h) fun x r1 h1 => fin_bind (fin_need (r := r1)) fun _ r2 h2 => fin_ok (by omega)
theorem bs_Lab (s : Sl) (w : World) : (Instr.buildSlice 40 1 #[(0, s.v)]).run Tryz.prog w = .ok (.slice (some ⟨w.heap.size, 0, none⟩) 1 1) (w.alloc (.cells (slC s).toArray 70)) := by kernel_rfl
theorem labsB_len {w : World} {S : Nat → Prop} : ∀ {L : List (List Int)} {H : List Sl}, LabsB w S L H → H.length = L.length
 | [], _, e => by cases e; rfl
 | x :: L, _, ⟨h, H', e, h1, h2⟩ => by rw [e, List.length_cons, List.length_cons, labsB_len h2]
section
variable {r : Sg} {V : Value} {d g : Nat} {w : World}

set_option maxRecDepth 100000 in
set_option maxHeartbeats 4000000 in
theorem cases_any (hP : Par w g r V d) (hr : RowOk r) (hd : d ≤ 32) (hl : r.length ≤ 6000) {f : Nat} (hf : 20 * r.length + 10 ≤ f) (HB : ∀ f1 ends r1, f1 ≤ f → wordsB ends = true → RowOk r1 → r1.length ≤ r.length → 20 * r1.length + 12 ≤ f1 → BCtr Tryz.prog 20 ends (stmtsF f1 d ends r1 []) d r1) (HBC : ∀ f1 r1, f1 ≤ f → RowOk r1 → r1.length ≤ r.length → 20 * r1.length + 12 ≤ f1 → BCtr Tryz.prog 20 [[110, 117, 109, 98, 101, 114], [45], [69, 76, 83, 69], [69, 78, 68, 95, 67, 65, 83, 69]] (blockF f1 d r1 []) d r1) :
  Calls Tryz.prog 70 #[.pointer (some ⟨g, 0, none⟩)] w (Gv g V d w GotW ((expr f d r).bind fun x r' => (need [79, 70] r').bind fun _ r' => caseF f d x r' [] [])) := by
 obtain ⟨R, hR⟩ : ∃ R : Res (Nat → St), ((expr f d r).bind fun x r' => (need [79, 70] r').bind fun _ r' => caseF f d x r' [] []) = R := ⟨_, rfl⟩
 rw [hR]
 have HR := Lib.hid hR
 clear hR
 have HL := Lib.hid hl
 have HF := Lib.hid hf
 have HBB := Lib.hid HB
 have HBCC := Lib.hid HBC
 clear hl hf HB HBC
 have P1 := Lib.hid hP
 have G1 := Lib.hid (gr_refl w (some g))
 have R1 := Lib.hid hr
 have Z1 := Lib.hid (show g < w.heap.size from hP.lt)
 clear hP hr
 go_enter Tryz.func70, Tryz.ntmps70
 go_upto_region 1 with (fail)
 have hb := (Below.refl w.heap.size w).alloc (Nat.le_refl _) (.cells #[.int .i64 0, .string ⟨#[]⟩, .int .i64 0, .int .i64 0, .string ⟨#[]⟩, .string ⟨#[]⟩, .slice none 0 0, .int .i64 0, .int .i64 0, .int .i64 0, .string ⟨#[]⟩, .string ⟨#[]⟩, .slice none 0 0, .int .i64 0, .slice none 0 0, .slice none 0 0, .slice none 0 0, .slice none 0 0, .int .i64 0] 44)
 have hx := Box.new w #[.int .i64 0, .string ⟨#[]⟩, .int .i64 0, .int .i64 0, .string ⟨#[]⟩, .string ⟨#[]⟩, .slice none 0 0, .int .i64 0, .int .i64 0, .int .i64 0, .string ⟨#[]⟩, .string ⟨#[]⟩, .slice none 0 0, .int .i64 0, .slice none 0 0, .slice none 0 0, .slice none 0 0, .slice none 0 0, .int .i64 0] 44
 have hz : (w.alloc (.cells #[.int .i64 0, .string ⟨#[]⟩, .int .i64 0, .int .i64 0, .string ⟨#[]⟩, .string ⟨#[]⟩, .slice none 0 0, .int .i64 0, .int .i64 0, .int .i64 0, .string ⟨#[]⟩, .string ⟨#[]⟩, .slice none 0 0, .int .i64 0, .slice none 0 0, .slice none 0 0, .slice none 0 0, .slice none 0 0, .int .i64 0] 44)).heap.size = w.heap.size + 1 := by simp
 generalize w.alloc (.cells #[.int .i64 0, .string ⟨#[]⟩, .int .i64 0, .int .i64 0, .string ⟨#[]⟩, .string ⟨#[]⟩, .slice none 0 0, .int .i64 0, .int .i64 0, .int .i64 0, .string ⟨#[]⟩, .string ⟨#[]⟩, .slice none 0 0, .int .i64 0, .slice none 0 0, .slice none 0 0, .slice none 0 0, .slice none 0 0, .int .i64 0] 44) = w4 at *
 have hg := gr_of (row := some w.heap.size) hb
 have Z2 := Lib.hid (And.intro hz Z1.out)
 have X3 := Lib.hid hx
 clear hb hx hz
 have P4 := Lib.hid (P1.out.gr hg (by have z := Z1.out; omega))
 clear P1
 have G5 := hgt hg G1 (fun _ => by have z := Z1.out; omega)
 clear G1
 have Z6 := hzz hg Z2
 clear hg
 have FI := Lib.hid (fin_expr (d := d) (f := f) (r := r) (by have z := Z6.out; have := HF.out; omega))
 go_wp2_with (go_at_call 84; fail)
 refine (expr_gets (f := f) (d := d) hd R1.out (by have z := Z6.out; have := HF.out; omega) _ _ _ P4.out).mono ?_
 rintro e w5 hgv
 rcases hp : expr f d r with ⟨x1, r1⟩ | ⟨n9, t9⟩
 rotate_left
 ·rw [hp] at hgv
  obtain ⟨rfl, hg⟩ := hgv
  have hq := HR.out
  rw [hp] at hq
  go_wp2
  exact ⟨rfl, Gv.badOf hq.symm (gr_trans G5.out hg)⟩
 rw [hp] at hgv
 obtain ⟨⟨v9, rfl, hG⟩, hP9, hr9, hg⟩ := hgv
 have hq := HR.out
 rw [hp] at hq
 try rw [bind_okE] at hq
 have HR7 := Lib.hid hq
 clear hq HR
 have P8 := Lib.hid hP9
 have R9 := Lib.hid hr9
 have X10 := hbx hg (by have z := Z6.out; omega) X3
 clear X3
 clear P4
 have G11 := Lib.hid (gr_trans G5.out hg)
 clear G5
 have Z12 := hzz hg Z6
 clear hg hP9 hr9 R1
 obtain ⟨h13, rfl, hE9⟩ := hG
 have E14 := Lib.hid hE9
 clear hE9
 have L16 : Hid (r1.length < r.length) := by
  have := FI.out
  rw [hp] at this
  exact Lib.hid this
 clear FI hp
 have L17 := Lib.hid (show r1.length ≤ r.length by have := L16.out; omega)
 go_upto_region 2 with (first | ((with_reducible refine m_build2 44 0 3 (.const (.int .i64 3)) (.tmp 5) (.int .i64 3) (.agg (eC h13).toArray) (.agg (sC ⟨3, [], ⟨0, 0, [], [], ⟨none, 0, 0⟩, 0⟩, h13, ⟨none, 0, 0⟩, ⟨none, 0, 0⟩, ⟨none, 0, 0⟩, ⟨none, 0, 0⟩, 0⟩).toArray) ?_ ?_ ?_ ?_ (bd_val 3 h13) ?_); rfl; rfl; rfl; rfl) | ((with_reducible refine m_new 44 3 6 ?_ ?_ ?_ (sC ⟨3, [], ⟨0, 0, [], [], ⟨none, 0, 0⟩, 0⟩, h13, ⟨none, 0, 0⟩, ⟨none, 0, 0⟩, ⟨none, 0, 0⟩, ⟨none, 0, 0⟩, 0⟩) ?_ ?_ ?_ ?_ (sC_one _) ?_); rfl; rfl; rfl; rfl; rfl; rfl; kernel_rfl; intro w6 hx hb hz))
 have hg := gr_of (row := some w5.heap.size) hb
 have Z18 := Lib.hid (And.intro hz Z12.out)
 have X19 := Lib.hid hx
 clear hb hx hz
 have X20 := hbx hg (by have z := Z12.out; omega) X10
 clear X10
 have E21 := hkExB hg (by have z := Z12.out; omega) E14
 clear E14
 have P22 := Lib.hid (P8.out.gr hg (by have z := Z12.out; omega))
 clear P8
 have G23 := hgt hg G11 (fun _ => by have z := Z12.out; omega)
 clear G11
 have Z24 := hzz hg Z18
 clear hg
 have L25 := Lib.hid (drop_len r1)
 by_cases hs26 : txt (r1) = [79, 70]
 rotate_left
 ·have hq := HR7.out
  rw [need_badE hs26] at hq
  go_wp2_with (go_at_call 18; fail)
  refine (need_no P22.out R9.out (mt (headS_txt R9.out (by decide) (by decide) (by decide) (by decide)).1 hs26)).mono ?_
  rintro e w7 ⟨rfl, hb⟩
  go_wp2
  exact ⟨rfl, Gv.badOf hq.symm (gr_trans G23.out (gr_of hb))⟩
 have hq := HR7.out
 rw [need_okE hs26, bind_okE] at hq
 have HR27 := Lib.hid hq
 clear hq HR7
 have R28 := Lib.hid (R9.out.drop (txt_kind hs26 (by decide)))
 go_wp2_with (go_at_call 18; fail)
 refine (need_yes P22.out R9.out ((headS_txt R9.out (by decide) (by decide) (by decide) (by decide)).2 hs26)).mono ?_
 rintro e w7 ⟨rfl, hp, hg⟩
 have P29 := Lib.hid hp
 have X30 := hbx hg (by have z := Z24.out; omega) X20
 clear X20
 have X31 := hbx hg (by have z := Z24.out; omega) X19
 clear X19
 have E32 := hkExB hg (by have z := Z24.out; omega) E21
 clear E21
 clear P22
 have G33 := Lib.hid (gr_trans G23.out hg)
 clear G23
 have Z34 := hzz hg Z24
 clear hg hp
 clear R9
 generalize ((r1).drop 1) = r35 at *
 have L36 := Lib.hid (show r35.length ≤ r.length by have := L25.out; have := L17.out; omega)
 have HLE := L36
 go_upto_region 3 with (fail)
 go_loopw [9] (fun _ wr => ∃ (ls : List (List Int)) (bs : List (List St)) (LH BH : List Sl) (Ls Bs : Sl) (r' : Sg) (fc : Nat), caseF fc d x1 r' ls bs = R ∧ 20 * r'.length + 10 ≤ fc ∧ fc ≤ f ∧ ls.length + r'.length ≤ r.length ∧ bs.length + r'.length ≤ r.length ∧ RowOk r' ∧ Par wr g r' V d ∧ Box wr w.heap.size 0 [.int .i64 0, .string ⟨#[]⟩, .int .i64 0, .int .i64 0, .string ⟨#[]⟩, .string ⟨#[]⟩, .slice none 0 0, .int .i64 0, .int .i64 0, .int .i64 0, .string ⟨#[]⟩, .string ⟨#[]⟩, .slice none 0 0, .int .i64 0, .slice none 0 0, .slice none 0 0, .slice none 0 0, .slice none 0 0, .int .i64 0] ∧ Box wr w5.heap.size 0 (sC ⟨3, [], ⟨0, 0, [], [], ⟨none, 0, 0⟩, 0⟩, h13, ⟨none, 0, 0⟩, Ls, ⟨none, 0, 0⟩, Bs, 0⟩) ∧ Ow slC 1 70 wr w7.heap.size (Sl.v Ls) LH ∧ Ow slC 1 24 wr w7.heap.size (Sl.v Bs) BH ∧ LabsB wr (Ny w7.heap.size wr.heap.size [(Sl.v Ls), (Sl.v Bs)]) ls LH ∧ BlksB wr (Ny w7.heap.size wr.heap.size [(Sl.v Ls), (Sl.v Bs)]) bs BH ∧ ExB wr (Nw w4.heap.size w5.heap.size) x1 h13 ∧ w.grownBy wr (some g) ∧ w7.heap.size ≤ wr.heap.size) (fun _ wr => rowLen wr g)
 case atStart => exact ⟨[], [], [], [], ⟨none, 0, 0⟩, ⟨none, 0, 0⟩, r35, f, HR27.out, (by have z := Z34.out; have := HF.out; have := HLE.out; omega), Nat.le_refl _, by simpa using HLE.out, by simpa using HLE.out, R28.out, P29.out, X30.out, X31.out, Ow.nil _ _ _ _ _, Ow.nil _ _ _ _ _, rfl, BlksB.nil, E32.out, G33.out, Nat.le_refl _⟩
 case round =>
  obtain ⟨ls, bs, LH, BH, Ls, Bs, r', fc, hR', hfc, hfc2, hl1, hl2, hr', hP', hX0, hX1, hO1, hO2, hT', hT2, hE', hG', hS'⟩ := hrel
  clear P29 G33 R28 HR27 X30 X31 E32
  have P1 := Lib.hid hP'
  have X1 := Lib.hid hX0
  have X2 := Lib.hid hX1
  have O1 := Lib.hid hO1
  have O2 := Lib.hid hO2
  have OH1 := Lib.hid hO1
  have OH2 := Lib.hid hO2
  have E1 := Lib.hid hT'
  have E2 := Lib.hid hT2
  have E3 := Lib.hid hE'
  have G1 := Lib.hid hG'
  have R1 := Lib.hid hr'
  have HL1 := Lib.hid hl1
  have HL2 := Lib.hid hl2
  have ZS := Lib.hid (And.intro hS' Z34.out)
  have HFC := Lib.hid hfc
  have HFC2 := Lib.hid hfc2
  obtain ⟨f2, rfl⟩ : ∃ k, fc = k + 1 := ⟨fc - 1, by omega⟩
  have HR := Lib.hid hR'
  clear hP' hX0 hX1 hO1 hO2 hT' hT2 hE' hG' hr' hl1 hl2 hS' hfc hfc2 hR'
  have NLEN := Lib.hid P1.out.len
  have HLR := Lib.hid R1.out.len
  by_cases hk : (tr.hd r').kind = 3
  ·skip
   have hq := HR.out
   rw [caseF, if_pos (Or.inl hk)] at hq
   have HR301 := Lib.hid hq
   clear hq HR
   have hh := ((headS_kind R1.out).2.1).2 hk
   have HA := Lib.hid (head_any P1.out R1.out)
   unfold sv at HA
   have q0 : ((⟨(headS (tr.hd (r'))).toArray⟩ : ByteArray).toList == [110, 117, 109, 98, 101, 114]) = true := by rw [ByteArray.toList_eq]; exact (by rw [hh]; rfl)
   generalize (⟨(headS (tr.hd (r'))).toArray⟩ : ByteArray) = XH at *
   go_wp2_with (go_at_call 28; fail)
   refine (HA.out).mono ?_
   rintro e w8 ⟨rfl, hb⟩
   have hg := gr_of (row := some wr.heap.size) hb
   have X302 := hbx hg (by have z := ZS.out; omega) X1
   clear X1
   have X303 := hbx hg (by have z := ZS.out; omega) X2
   clear X2
   have E304 := Lib.hid (LabsB.kept (kept_ny hg (Or.imp_right Or.inl (by have z := ZS.out; omega)) (by have z := ZS.out; omega)) E1.out)
   clear E1
   have E305 := Lib.hid (BlksB.kept (kept_ny hg (Or.imp_right Or.inl (by have z := ZS.out; omega)) (by have z := ZS.out; omega)) E2.out)
   clear E2
   have E306 := hkExB hg (by have z := ZS.out; omega) E3
   clear E3
   have O307 := Lib.hid (Ow.gr O1.out hg (by have z := ZS.out; omega))
   clear O1
   have O308 := Lib.hid (Ow.gr O2.out hg (by have z := ZS.out; omega))
   clear O2
   have P309 := Lib.hid (P1.out.gr hg (by have z := ZS.out; omega))
   clear P1
   have G310 := hgt hg G1 (fun _ => by have z := ZS.out; omega)
   clear G1
   have Z311 := hzz hg ZS
   clear hg hb
   clear HA
   clear hh hk
   have hq := HR301.out
   rw [labs_bind] at hq
   have HR312 := Lib.hid hq
   clear hq HR301
   go_upto_region 4 with (fail)
   refine wp_region_T (by kernel_rfl) (fun w' => Box w' (w5.heap.size) 0 (sC ⟨3, [], ⟨0, 0, [], [], ⟨none, 0, 0⟩, 0⟩, h13, ⟨none, 0, 0⟩, Ls, ⟨none, 0, 0⟩, Bs, 0⟩)) [7] (box_drew X303.out) (fun hHeld => ?_)
   have hb := (Below.refl w8.heap.size w8).drew
   generalize w8.drew = w9 at *
   have hg := gr_of (row := some w8.heap.size) hb
   have X313 := hbx hg (by have z := Z311.out; omega) X302
   clear X302
   have X314 := hbx hg (by have z := Z311.out; omega) X303
   clear X303
   have E315 := Lib.hid (LabsB.kept (kept_ny hg (Or.imp_right Or.inl (by have z := Z311.out; omega)) (by have z := Z311.out; omega)) E304.out)
   clear E304
   have E316 := Lib.hid (BlksB.kept (kept_ny hg (Or.imp_right Or.inl (by have z := Z311.out; omega)) (by have z := Z311.out; omega)) E305.out)
   clear E305
   have E317 := hkExB hg (by have z := Z311.out; omega) E306
   clear E306
   have O318 := Lib.hid (Ow.gr O307.out hg (by have z := Z311.out; omega))
   clear O307
   have O319 := Lib.hid (Ow.gr O308.out hg (by have z := Z311.out; omega))
   clear O308
   have P320 := Lib.hid (P309.out.gr hg (by have z := Z311.out; omega))
   clear P309
   have G321 := hgt hg G310 (fun _ => by have z := Z311.out; omega)
   clear G310
   have Z322 := hzz hg Z311
   clear hg hb
   refine wpAnyT_take (i := 0) (v := ?_) rfl (by kernel_rfl) (by kernel_rfl) (by kernel_rfl) (fun _ _ _ h => h) (Or.inl ⟨by rfl, ?_⟩) (by assumption) ?_
   rotate_left 1
   ·intro w_ hSw; clear hSw; go_simp <;> (with_reducible rfl)
   try simp only [Act.put, List.setIfInBounds_toArray, List.set_cons_zero, List.set_cons_succ, List.getElem_toArray, List.getElem_cons_succ, List.getElem_cons_zero]
   refine wpAnyT_take (i := 1) (v := ?_) rfl (by kernel_rfl) (by kernel_rfl) (by kernel_rfl) (fun _ _ _ h => h) (Or.inl ⟨by rfl, ?_⟩) (by assumption) ?_
   rotate_left 1
   ·intro w_ hSw; obtain ⟨c15, _⟩ := cell_of hSw (i := 15) rfl; go_simp <;> (with_reducible rfl)
   try simp only [Act.put, List.setIfInBounds_toArray, List.set_cons_zero, List.set_cons_succ, List.getElem_toArray, List.getElem_cons_succ, List.getElem_cons_zero]
   refine wpAnyT_take (i := 2) (v := ?_) rfl (by kernel_rfl) (by kernel_rfl) (by kernel_rfl) (fun _ _ _ h => h) (Or.inl ⟨by rfl, ?_⟩) (by assumption) ?_
   rotate_left 1
   ·intro w_ hSw; clear hSw; go_simp <;> (with_reducible rfl)
   try simp only [Act.put, List.setIfInBounds_toArray, List.set_cons_zero, List.set_cons_succ, List.getElem_toArray, List.getElem_cons_succ, List.getElem_cons_zero]
   refine wpAnyT_ready (rs := [3]) (by kernel_rfl) (by simp) ?_
   refine AllReadyT.cons rfl (fun K hK => ?_) AllReadyT.nil
   have FI := Lib.hid (fin_labs (f := f2) (r := r') (by have z := Z322.out; have := HFC.out; have := HFC2.out; have := HLR.out; have := HL1.out; have := HL.out; omega))
   have LC := Lib.hid (fun W (h : Par W g r' V d) => labels_any h R1.out (by have z := Z322.out; have := HFC.out; have := HFC2.out; have := HLR.out; have := HL1.out; have := HL.out; omega) (f := f2) (by have z := Z322.out; have := HFC.out; have := HFC2.out; have := HLR.out; have := HL1.out; have := HL.out; omega))
   have LC : Hid (∀ W, Par W g r' V d → Calls Tryz.prog 85 #[.pointer (some ⟨g, 0, none⟩)] W (Gv g V d W GotL (labsP f2 r'))) := LC
   have HOB323 := Lib.hid (show ∀ q0, (Sl.v Bs).ownBlock = some q0 → q0 < w9.heap.size from fun q0 e0 => (Ow.lt O319.out e0).2)
   go_simp
   go_at_call 85
   refine (LC.out _ P320.out).mono ?_
   rintro e w10 hgv
   rcases hp : labsP f2 r' with ⟨l8, r8⟩ | ⟨n9, t9⟩
   rotate_left
   ·rw [hp] at hgv
    obtain ⟨rfl, hg⟩ := hgv
    have hq := HR312.out
    rw [hp] at hq
    go_wp2
    exact ⟨rfl, Gv.badOf hq.symm (gr_trans G321.out hg)⟩
   rw [hp] at hgv
   obtain ⟨⟨v9, rfl, hG⟩, hP9, hr9, hg⟩ := hgv
   have hq := HR312.out
   rw [hp] at hq
   try rw [bind_okE] at hq
   have HR324 := Lib.hid hq
   clear hq HR312
   have P325 := Lib.hid hP9
   have R326 := Lib.hid hr9
   have X327 := hbx hg (by have z := Z322.out; omega) X313
   clear X313
   have X328 := hbx hg (by have z := Z322.out; omega) X314
   clear X314
   have E329 := Lib.hid (LabsB.kept (kept_ny hg (Or.imp_right Or.inl (by have z := Z322.out; omega)) (by have z := Z322.out; omega)) E315.out)
   clear E315
   have E330 := Lib.hid (BlksB.kept (kept_ny hg (Or.imp_right Or.inl (by have z := Z322.out; omega)) (by have z := Z322.out; omega)) E316.out)
   clear E316
   have E331 := hkExB hg (by have z := Z322.out; omega) E317
   clear E317
   have O332 := Lib.hid (Ow.gr O318.out hg (by have z := Z322.out; omega))
   clear O318
   have O333 := Lib.hid (Ow.gr O319.out hg (by have z := Z322.out; omega))
   clear O319
   clear P320
   have G334 := Lib.hid (gr_trans G321.out hg)
   clear G321
   have Z335 := hzz hg Z322
   clear hg hP9 hr9 R1
   have L8 : Hid (r8.length < r'.length) := by
    have := FI.out
    rw [hp] at this
    exact Lib.hid this
   obtain ⟨s8, rfl, hE9⟩ := hG
   have EL := Lib.hid hE9
   clear FI hp LC hE9
   go_wp2_with fail
   refine hK.out _ _ X328.out (fun hHeld => ?_)
   clear hK K
   try simp only [Act.put, List.setIfInBounds_toArray, List.set_cons_zero, List.set_cons_succ, List.getElem_toArray, List.getElem_cons_succ, List.getElem_cons_zero]
   refine wpAnyT_ready (rs := [4]) (by kernel_rfl) (by simp) ?_
   refine AllReadyT.cons rfl (fun K hK => ?_) AllReadyT.nil
   refine t_slice1 (enc := slC) (z := 1) s8 40 70 20 (Sl.v s8) (slC s8).toArray rfl rfl rfl (bs_Lab s8) rfl ?_
   intro w11 hrb hb1 hz1
   have HRB := Lib.hid hrb
   have HB1 := Lib.hid hb1
   have HZ1 := Lib.hid hz1
   clear hrb hb1 hz1
   have hg := gr_of (row := some w10.heap.size) HB1.out
   have Z336 := Lib.hid (And.intro HZ1.out Z335.out)
   have E337 := HRB
   clear HZ1 HRB
   have X338 := hbx hg (by have z := Z335.out; omega) X327
   clear X327
   have X339 := hbx hg (by have z := Z335.out; omega) X328
   clear X328
   have E340 := Lib.hid (LabsB.kept (kept_ny hg (Or.imp_right Or.inl (by have z := Z335.out; omega)) (by have z := Z335.out; omega)) E329.out)
   clear E329
   have E341 := Lib.hid (BlksB.kept (kept_ny hg (Or.imp_right Or.inl (by have z := Z335.out; omega)) (by have z := Z335.out; omega)) E330.out)
   clear E330
   have E342 := hkExB hg (by have z := Z335.out; omega) E331
   clear E331
   have E343 := hkRB hg (by have z := Z335.out; omega) EL
   clear EL
   have O344 := Lib.hid (Ow.gr O332.out hg (by have z := Z335.out; omega))
   clear O332
   have O345 := Lib.hid (Ow.gr O333.out hg (by have z := Z335.out; omega))
   clear O333
   have P346 := Lib.hid (P325.out.gr hg (by have z := Z335.out; omega))
   clear P325
   have G347 := hgt hg G334 (fun _ => by have z := Z335.out; omega)
   clear G334
   have Z348 := hzz hg Z336
   clear hg HB1
   refine hK.out _ _ X339.out (fun hHeld => ?_)
   clear hK K
   try simp only [Act.put, List.setIfInBounds_toArray, List.set_cons_zero, List.set_cons_succ, List.getElem_toArray, List.getElem_cons_succ, List.getElem_cons_zero]
   have LM := Lib.hid (show LH.length + [s8].length ≤ 20000 by have := labsB_len E340.out; have := HL1.out; have := HL.out; simp only [List.length_cons, List.length_nil]; omega)
   refine wpAnyT_ready (rs := [5]) (by kernel_rfl) (by simp) ?_
   refine AllReadyT.cons rfl (fun K hK => ?_) AllReadyT.nil
   have Z350 := Lib.hid (And.intro (show w7.heap.size ≤ w11.heap.size from (by have z := Z348.out; omega)) Z348.out)
   refine step_append_row slC_len (by decide) slC_one labs_slice lab_info rfl (by decide) _ rfl (.tmp 18) (.tmp 21) rfl w7.heap.size (Sl.v Ls) LH rfl O344.out (w10.heap.size + 1) (some ⟨w10.heap.size, 0, none⟩) 1 1 [s8] rfl (RB.toAt (fun b hb => hb.2) E337.out) LM.out Z350.out.1 ?_
   intro v8 w12 hown hgA hat
   have HOWN := Lib.hid hown
   have HGA := Lib.hid hgA
   have HAT := Lib.hid hat
   clear hown hgA hat
   obtain ⟨S351, hsv⟩ := Ow.sl slC_len HOWN.out
   subst hsv
   obtain ⟨q9, hq1, hq2, hg⟩ := grow_q O344.out (by have z := Z350.out; omega) HGA.out
   have HQ2 := Lib.hid hq2
   have Z352 := Lib.hid (And.intro hq1 Z350.out)
   have Z353 := Lib.hid (And.intro (show q9 < wr.heap.size ∨ w11.heap.size ≤ q9 from hq2.imp (fun e => (Ow.lt OH1.out e).2) id) Z352.out)
   clear hq1 hq2
   have HOB354 := Lib.hid (show ∀ q0, (Sl.v S351).ownBlock = some q0 → q0 < wr.heap.size ∨ w11.heap.size ≤ q0 from fun q0 e0 => HAT.out.elim (fun h => .inl (Ow.lt OH1.out (h.symm.trans e0)).2) (fun h => .inr (by rw [h] at e0; injection e0 with e0; omega)))
   have E355 := Lib.hid (LabsB.kept (kept_ny hg (HQ2.out.elim (fun e => .inr (.inr ⟨(Sl.v Ls), by simp, e⟩)) (fun h => .inr (.inl (by have z := Z353.out; omega)))) (by have z := Z353.out; omega)) E340.out)
   have E356 := Lib.hid (LabsB.kept (ny_ny (O := [(Sl.v Ls), (Sl.v Bs)]) (O' := [(Sl.v S351), (Sl.v Bs)]) (Nat.le_refl _) (Nat.le_refl _) (by
    intro v0 hv0 q0 e0 hq0
    simp only [List.mem_cons, List.not_mem_nil, or_false] at hv0
    rcases hv0 with rfl | rfl
    ·rcases HAT.out with h | h
     ·exact ⟨_, by simp, h.symm.trans e0⟩
     ·rw [h] at e0; injection e0 with e0; exfalso; have z := Z353.out; omega
    ·exact ⟨_, by simp, e0⟩)) E355.out)
   clear E340 E355
   have E357 := Lib.hid (BlksB.kept (kept_ny hg (HQ2.out.elim (fun e => .inr (.inr ⟨(Sl.v Ls), by simp, e⟩)) (fun h => .inr (.inl (by have z := Z353.out; omega)))) (by have z := Z353.out; omega)) E341.out)
   have E358 := Lib.hid (BlksB.kept (ny_ny (O := [(Sl.v Ls), (Sl.v Bs)]) (O' := [(Sl.v S351), (Sl.v Bs)]) (Nat.le_refl _) (Nat.le_refl _) (by
    intro v0 hv0 q0 e0 hq0
    simp only [List.mem_cons, List.not_mem_nil, or_false] at hv0
    rcases hv0 with rfl | rfl
    ·rcases HAT.out with h | h
     ·exact ⟨_, by simp, h.symm.trans e0⟩
     ·rw [h] at e0; injection e0 with e0; exfalso; have z := Z353.out; omega
    ·exact ⟨_, by simp, e0⟩)) E357.out)
   clear E341 E357
   have O359 := Lib.hid (Ow.gr2 O345.out hg (HQ2.out.elim (fun e => Ow.apart O344.out O345.out (by decide) e) (fun h e2 => by have h9 := (Ow.lt O345.out e2).2; have z := Z353.out; omega)))
   clear O345
   have X360 := hbx hg (by have z := Z353.out; omega) X338
   clear X338
   have X361 := hbx hg (by have z := Z353.out; omega) X339
   clear X339
   have E362 := hkExB hg (by have z := Z353.out; omega) E342
   clear E342
   have E363 := hkRB hg (by have z := Z353.out; omega) E343
   clear E343
   have E364 := hkRB hg (by have z := Z353.out; omega) E337
   clear E337
   have P365 := Lib.hid (P346.out.gr hg (by have z := Z353.out; omega))
   clear P346
   have G366 := hgt hg G347 (fun _ => by have z := Z353.out; omega)
   clear G347
   have Z367 := hzz hg Z353
   have O368 := HOWN
   clear hg HOWN HGA HQ2 HAT O344
   refine hK.out _ _ X361.out (fun hHeld => ?_)
   clear hK K
   try simp only [Act.put, List.setIfInBounds_toArray, List.set_cons_zero, List.set_cons_succ, List.getElem_toArray, List.getElem_cons_succ, List.getElem_cons_zero]
   refine wpAnyT_take (i := 6) (v := ?_) rfl (by kernel_rfl) (by kernel_rfl) (by kernel_rfl) (fun _ _ _ h => h) (Or.inl ⟨by rfl, ?_⟩) (by assumption) ?_
   rotate_left 1
   ·intro w_ hSw; clear hSw; go_simp <;> (with_reducible rfl)
   try simp only [Act.put, List.setIfInBounds_toArray, List.set_cons_zero, List.set_cons_succ, List.getElem_toArray, List.getElem_cons_succ, List.getElem_cons_zero]
   refine wpAnyT_ready (rs := [7]) (by kernel_rfl) (by simp) ?_
   refine AllReadyT.spoilt rfl (by kernel_rfl) (fun K hK => ?_) AllReadyT.nil
   refine t_set1 (j := 15) X361.out (show 15 < 19 by decide) 40 23 22 rfl rfl rfl (Sl.v S351) rfl rfl (by first | rfl | (cases S351; rfl)) (by kernel_rfl) ?_
   intro w13 hx hg hs
   have hx : Box w13 (w5.heap.size) 0 (sC ⟨3, [], ⟨0, 0, [], [], ⟨none, 0, 0⟩, 0⟩, h13, ⟨none, 0, 0⟩, S351, ⟨none, 0, 0⟩, Bs, 0⟩) := hx
   have X369 := Lib.hid hx
   have Z370 := Lib.hid (And.intro hs Z367.out)
   clear hx hs X361
   have X371 := hbx hg (by have z := Z367.out; omega) X360
   clear X360
   have E372 := Lib.hid (LabsB.kept (kept_ny hg (Or.imp_right Or.inl (by have z := Z367.out; omega)) (by have z := Z367.out; omega)) E356.out)
   clear E356
   have E373 := Lib.hid (BlksB.kept (kept_ny hg (Or.imp_right Or.inl (by have z := Z367.out; omega)) (by have z := Z367.out; omega)) E358.out)
   clear E358
   have E374 := hkExB hg (by have z := Z367.out; omega) E362
   clear E362
   have E375 := hkRB hg (by have z := Z367.out; omega) E363
   clear E363
   have E376 := hkRB hg (by have z := Z367.out; omega) E364
   clear E364
   have O377 := Lib.hid (Ow.gr O368.out hg (by have z := Z367.out; omega))
   clear O368
   have O378 := Lib.hid (Ow.gr O359.out hg (by have z := Z367.out; omega))
   clear O359
   have P379 := Lib.hid (P365.out.gr hg (by have z := Z367.out; omega))
   clear P365
   have G380 := hgt hg G366 (fun _ => by have z := Z367.out; omega)
   clear G366
   have Z381 := hzz hg Z370
   clear hg
   refine hK.out _ _ ?_
   clear hK K
   try simp only [Act.put, List.setIfInBounds_toArray, List.set_cons_zero, List.set_cons_succ, List.getElem_toArray, List.getElem_cons_succ, List.getElem_cons_zero]
   refine wpAnyT_done (by kernel_rfl) ?_ _
   clear LM
   have EC := Lib.hid (LabsB.snoc (RB.kept (nw_ny (b' := w13.heap.size) (O := [(Sl.v S351), (Sl.v Bs)]) (by have z := Z381.out; omega) (by have z := Z381.out; omega) (by
    intro v0 hv0 q0 e0
    simp only [List.mem_cons, List.not_mem_nil, or_false] at hv0
    rcases hv0 with rfl | rfl
    ·have h9 := HOB354.out q0 e0; have z := Z381.out; omega
    ·have h9 := HOB323.out q0 e0; have z := Z381.out; omega)) E375.out) (LabsB.kept (ny_ny (O := [(Sl.v S351), (Sl.v Bs)]) (O' := [(Sl.v S351), (Sl.v Bs)]) (Nat.le_refl _) (by have z := Z381.out; omega) (fun v hv q e hq => ⟨v, hv, e⟩)) E372.out))
   clear E372 E375
   go_upto_region 5 with (fail)
   refine wp_region_T (by kernel_rfl) (fun w' => Box w' (w5.heap.size) 0 (sC ⟨3, [], ⟨0, 0, [], [], ⟨none, 0, 0⟩, 0⟩, h13, ⟨none, 0, 0⟩, S351, ⟨none, 0, 0⟩, Bs, 0⟩)) [8] (box_drew X369.out) (fun hHeld => ?_)
   have hb := (Below.refl w13.heap.size w13).drew
   generalize w13.drew = w14 at *
   have hg := gr_of (row := some w13.heap.size) hb
   have X382 := hbx hg (by have z := Z381.out; omega) X371
   clear X371
   have X383 := hbx hg (by have z := Z381.out; omega) X369
   clear X369
   have E384 := Lib.hid (BlksB.kept (kept_ny hg (Or.imp_right Or.inl (by have z := Z381.out; omega)) (by have z := Z381.out; omega)) E373.out)
   clear E373
   have E385 := hkExB hg (by have z := Z381.out; omega) E374
   clear E374
   have E386 := hkRB hg (by have z := Z381.out; omega) E376
   clear E376
   have E387 := Lib.hid (LabsB.kept (kept_ny hg (Or.imp_right Or.inl (by have z := Z381.out; omega)) (by have z := Z381.out; omega)) EC.out)
   clear EC
   have O388 := Lib.hid (Ow.gr O377.out hg (by have z := Z381.out; omega))
   clear O377
   have O389 := Lib.hid (Ow.gr O378.out hg (by have z := Z381.out; omega))
   clear O378
   have P390 := Lib.hid (P379.out.gr hg (by have z := Z381.out; omega))
   clear P379
   have G391 := hgt hg G380 (fun _ => by have z := Z381.out; omega)
   clear G380
   have Z392 := hzz hg Z381
   clear hg hb
   refine wpAnyT_take (i := 0) (v := ?_) rfl (by kernel_rfl) (by kernel_rfl) (by kernel_rfl) (fun _ _ _ h => h) (Or.inl ⟨by rfl, ?_⟩) (by assumption) ?_
   rotate_left 1
   ·intro w_ hSw; clear hSw; go_simp <;> (with_reducible rfl)
   try simp only [Act.put, List.setIfInBounds_toArray, List.set_cons_zero, List.set_cons_succ, List.getElem_toArray, List.getElem_cons_succ, List.getElem_cons_zero]
   refine wpAnyT_take (i := 1) (v := ?_) rfl (by kernel_rfl) (by kernel_rfl) (by kernel_rfl) (fun _ _ _ h => h) (Or.inl ⟨by rfl, ?_⟩) (by assumption) ?_
   rotate_left 1
   ·intro w_ hSw; obtain ⟨c17, _⟩ := cell_of hSw (i := 17) rfl; go_simp <;> (with_reducible rfl)
   try simp only [Act.put, List.setIfInBounds_toArray, List.set_cons_zero, List.set_cons_succ, List.getElem_toArray, List.getElem_cons_succ, List.getElem_cons_zero]
   refine wpAnyT_take (i := 2) (v := ?_) rfl (by kernel_rfl) (by kernel_rfl) (by kernel_rfl) (fun _ _ _ h => h) (Or.inl ⟨by rfl, ?_⟩) (by assumption) ?_
   rotate_left 1
   ·intro w_ hSw; clear hSw; go_simp <;> (with_reducible rfl)
   try simp only [Act.put, List.setIfInBounds_toArray, List.set_cons_zero, List.set_cons_succ, List.getElem_toArray, List.getElem_cons_succ, List.getElem_cons_zero]
   refine wpAnyT_ready (rs := [3]) (by kernel_rfl) (by simp) ?_
   refine AllReadyT.cons rfl (fun K hK => ?_) AllReadyT.nil
   go_simp
   have hb := (Below.refl w14.heap.size w14).alloc (Nat.le_refl _) (.cells #[.string ⟨#[110, 117, 109, 98, 101, 114]⟩, .string ⟨#[45]⟩, .string ⟨#[69, 76, 83, 69]⟩, .string ⟨#[69, 78, 68, 95, 67, 65, 83, 69]⟩] 9)
   have hR : RB tC1 1 (w14.alloc (.cells #[.string ⟨#[110, 117, 109, 98, 101, 114]⟩, .string ⟨#[45]⟩, .string ⟨#[69, 76, 83, 69]⟩, .string ⟨#[69, 78, 68, 95, 67, 65, 83, 69]⟩] 9)) (Nw w14.heap.size (w14.heap.size + 1)) ⟨some ⟨w14.heap.size, 0, none⟩, 4, 4⟩ [[110, 117, 109, 98, 101, 114], [45], [69, 76, 83, 69], [69, 78, 68, 95, 67, 65, 83, 69]] := rb_many w14 9 [[110, 117, 109, 98, 101, 114], [45], [69, 76, 83, 69], [69, 78, 68, 95, 67, 65, 83, 69]] #[.string ⟨#[110, 117, 109, 98, 101, 114]⟩, .string ⟨#[45]⟩, .string ⟨#[69, 76, 83, 69]⟩, .string ⟨#[69, 78, 68, 95, 67, 65, 83, 69]⟩] rfl (Nat.le_refl _) (Nat.le_refl _)
   have hz : (w14.alloc (.cells #[.string ⟨#[110, 117, 109, 98, 101, 114]⟩, .string ⟨#[45]⟩, .string ⟨#[69, 76, 83, 69]⟩, .string ⟨#[69, 78, 68, 95, 67, 65, 83, 69]⟩] 9)).heap.size = w14.heap.size + 1 := by simp
   generalize w14.alloc (.cells #[.string ⟨#[110, 117, 109, 98, 101, 114]⟩, .string ⟨#[45]⟩, .string ⟨#[69, 76, 83, 69]⟩, .string ⟨#[69, 78, 68, 95, 67, 65, 83, 69]⟩] 9) = w15 at *
   have hg := gr_of (row := some w14.heap.size) hb
   have HZ1 := Lib.hid hz
   have HRB := Lib.hid hR
   clear hb hR hz
   have Z393 := Lib.hid (And.intro HZ1.out Z392.out)
   have E394 := HRB
   clear HZ1 HRB
   have X395 := hbx hg (by have z := Z392.out; omega) X382
   clear X382
   have X396 := hbx hg (by have z := Z392.out; omega) X383
   clear X383
   have E397 := Lib.hid (BlksB.kept (kept_ny hg (Or.imp_right Or.inl (by have z := Z392.out; omega)) (by have z := Z392.out; omega)) E384.out)
   clear E384
   have E398 := hkExB hg (by have z := Z392.out; omega) E385
   clear E385
   have E399 := hkRB hg (by have z := Z392.out; omega) E386
   clear E386
   have E400 := Lib.hid (LabsB.kept (kept_ny hg (Or.imp_right Or.inl (by have z := Z392.out; omega)) (by have z := Z392.out; omega)) E387.out)
   clear E387
   have O401 := Lib.hid (Ow.gr O388.out hg (by have z := Z392.out; omega))
   clear O388
   have O402 := Lib.hid (Ow.gr O389.out hg (by have z := Z392.out; omega))
   clear O389
   have P403 := Lib.hid (P390.out.gr hg (by have z := Z392.out; omega))
   clear P390
   have G404 := hgt hg G391 (fun _ => by have z := Z392.out; omega)
   clear G391
   have Z405 := hzz hg Z393
   clear hg
   refine hK.out _ _ X396.out (fun hHeld => ?_)
   clear hK K
   try simp only [Act.put, List.setIfInBounds_toArray, List.set_cons_zero, List.set_cons_succ, List.getElem_toArray, List.getElem_cons_succ, List.getElem_cons_zero]
   refine wpAnyT_ready (rs := [4]) (by kernel_rfl) (by simp) ?_
   refine AllReadyT.cons rfl (fun K hK => ?_) AllReadyT.nil
   have FI := Lib.hid ((finS f2).2.2.2.2.2 d r8 [] (by have z := Z381.out; have := HFC.out; have := HFC2.out; have := HLR.out; have := L8.out; have := HL1.out; omega))
   have HOB407 := Lib.hid (show ∀ q0, (Sl.v S351).ownBlock = some q0 → q0 < w15.heap.size from fun q0 e0 => (Ow.lt O401.out e0).2)
   go_simp
   go_at_call 20
   refine (HBCC.out f2 r8 (by have z := Z405.out; have := HFC.out; have := HFC2.out; have := HLR.out; have := L8.out; have := HL1.out; omega) R326.out (by have z := Z405.out; have := HFC.out; have := HFC2.out; have := HLR.out; have := L8.out; have := HL1.out; omega) (by have z := Z405.out; have := HFC.out; have := HFC2.out; have := HLR.out; have := L8.out; have := HL1.out; omega) _ _ _ _ P403.out (by have z := Z405.out; omega) (by have z := Z405.out; omega) E394.out).mono ?_
   rintro e w16 hgv
   rcases hp : blockF f2 d r8 [] with ⟨B8, r9⟩ | ⟨n9, t9⟩
   rotate_left
   ·rw [hp] at hgv
    obtain ⟨rfl, hg⟩ := hgv
    have hq := HR324.out
    rw [hp] at hq
    go_wp2
    exact ⟨rfl, Gv.badOf hq.symm (gr_trans G404.out hg)⟩
   rw [hp] at hgv
   obtain ⟨⟨v9, rfl, hG⟩, hP9, hr9, hg⟩ := hgv
   have hq := HR324.out
   rw [hp] at hq
   try rw [bind_okE] at hq
   have HR408 := Lib.hid hq
   clear hq HR324
   have P409 := Lib.hid hP9
   have R410 := Lib.hid hr9
   have X411 := hbx hg (by have z := Z405.out; omega) X395
   clear X395
   have X412 := hbx hg (by have z := Z405.out; omega) X396
   clear X396
   have E413 := Lib.hid (BlksB.kept (kept_ny hg (Or.imp_right Or.inl (by have z := Z405.out; omega)) (by have z := Z405.out; omega)) E397.out)
   clear E397
   have E414 := hkExB hg (by have z := Z405.out; omega) E398
   clear E398
   have E415 := hkRB hg (by have z := Z405.out; omega) E399
   clear E399
   have E416 := Lib.hid (LabsB.kept (kept_ny hg (Or.imp_right Or.inl (by have z := Z405.out; omega)) (by have z := Z405.out; omega)) E400.out)
   clear E400
   have E417 := hkRB hg (by have z := Z405.out; omega) E394
   clear E394
   have O418 := Lib.hid (Ow.gr O401.out hg (by have z := Z405.out; omega))
   clear O401
   have O419 := Lib.hid (Ow.gr O402.out hg (by have z := Z405.out; omega))
   clear O402
   clear P403
   have G420 := Lib.hid (gr_trans G404.out hg)
   clear G404
   have Z421 := hzz hg Z405
   clear hg hP9 hr9 R326
   obtain ⟨s422, rfl, hE9⟩ := hG
   have E423 := Lib.hid hE9
   clear hE9
   clear E417
   have LB : Hid (r9.length < r8.length + 1) := by
    have := FI.out
    rw [hp] at this
    exact Lib.hid this
   clear FI hp
   go_wp2_with fail
   refine hK.out _ _ X412.out (fun hHeld => ?_)
   clear hK K
   try simp only [Act.put, List.setIfInBounds_toArray, List.set_cons_zero, List.set_cons_succ, List.getElem_toArray, List.getElem_cons_succ, List.getElem_cons_zero]
   refine wpAnyT_ready (rs := [5]) (by kernel_rfl) (by simp) ?_
   refine AllReadyT.cons rfl (fun K hK => ?_) AllReadyT.nil
   refine t_slice1 (enc := slC) (z := 1) s422 42 24 28 (Sl.v s422) (slC s422).toArray rfl rfl rfl (bs_L s422) rfl ?_
   intro w17 hrb hb1 hz1
   have HRB := Lib.hid hrb
   have HB1 := Lib.hid hb1
   have HZ1 := Lib.hid hz1
   clear hrb hb1 hz1
   have hg := gr_of (row := some w16.heap.size) HB1.out
   have Z425 := Lib.hid (And.intro HZ1.out Z421.out)
   have E426 := HRB
   clear HZ1 HRB
   have X427 := hbx hg (by have z := Z421.out; omega) X411
   clear X411
   have X428 := hbx hg (by have z := Z421.out; omega) X412
   clear X412
   have E429 := Lib.hid (BlksB.kept (kept_ny hg (Or.imp_right Or.inl (by have z := Z421.out; omega)) (by have z := Z421.out; omega)) E413.out)
   clear E413
   have E430 := hkExB hg (by have z := Z421.out; omega) E414
   clear E414
   have E431 := hkRB hg (by have z := Z421.out; omega) E415
   clear E415
   have E432 := Lib.hid (LabsB.kept (kept_ny hg (Or.imp_right Or.inl (by have z := Z421.out; omega)) (by have z := Z421.out; omega)) E416.out)
   clear E416
   have E433 := hkStLB hg (by have z := Z421.out; omega) E423
   clear E423
   have O434 := Lib.hid (Ow.gr O418.out hg (by have z := Z421.out; omega))
   clear O418
   have O435 := Lib.hid (Ow.gr O419.out hg (by have z := Z421.out; omega))
   clear O419
   have P436 := Lib.hid (P409.out.gr hg (by have z := Z421.out; omega))
   clear P409
   have G437 := hgt hg G420 (fun _ => by have z := Z421.out; omega)
   clear G420
   have Z438 := hzz hg Z425
   clear hg HB1
   refine hK.out _ _ X428.out (fun hHeld => ?_)
   clear hK K
   try simp only [Act.put, List.setIfInBounds_toArray, List.set_cons_zero, List.set_cons_succ, List.getElem_toArray, List.getElem_cons_succ, List.getElem_cons_zero]
   have LM := Lib.hid (show BH.length + [s422].length ≤ 20000 by have := blksB_len E429.out; have := HL2.out; have := HL.out; simp only [List.length_cons, List.length_nil]; omega)
   refine wpAnyT_ready (rs := [6]) (by kernel_rfl) (by simp) ?_
   refine AllReadyT.cons rfl (fun K hK => ?_) AllReadyT.nil
   have Z440 := Lib.hid (And.intro (show w7.heap.size ≤ w17.heap.size from (by have z := Z438.out; omega)) Z438.out)
   refine step_append_row slC_len (by decide) slC_one blks_slice blk_info rfl (by decide) _ rfl (.tmp 25) (.tmp 29) rfl w7.heap.size (Sl.v Bs) BH rfl O435.out (w16.heap.size + 1) (some ⟨w16.heap.size, 0, none⟩) 1 1 [s422] rfl (RB.toAt (fun b hb => hb.2) E426.out) LM.out Z440.out.1 ?_
   intro v8 w18 hown hgA hat
   have HOWN := Lib.hid hown
   have HGA := Lib.hid hgA
   have HAT := Lib.hid hat
   clear hown hgA hat
   obtain ⟨S441, hsv⟩ := Ow.sl slC_len HOWN.out
   subst hsv
   obtain ⟨q9, hq1, hq2, hg⟩ := grow_q O435.out (by have z := Z440.out; omega) HGA.out
   have HQ2 := Lib.hid hq2
   have Z442 := Lib.hid (And.intro hq1 Z440.out)
   have Z443 := Lib.hid (And.intro (show q9 < wr.heap.size ∨ w17.heap.size ≤ q9 from hq2.imp (fun e => (Ow.lt OH2.out e).2) id) Z442.out)
   clear hq1 hq2
   have HOB444 := Lib.hid (show ∀ q0, (Sl.v S441).ownBlock = some q0 → q0 < wr.heap.size ∨ w17.heap.size ≤ q0 from fun q0 e0 => HAT.out.elim (fun h => .inl (Ow.lt OH2.out (h.symm.trans e0)).2) (fun h => .inr (by rw [h] at e0; injection e0 with e0; omega)))
   have E445 := Lib.hid (BlksB.kept (kept_ny hg (HQ2.out.elim (fun e => .inr (.inr ⟨(Sl.v Bs), by simp, e⟩)) (fun h => .inr (.inl (by have z := Z443.out; omega)))) (by have z := Z443.out; omega)) E429.out)
   have E446 := Lib.hid (BlksB.kept (ny_ny (O := [(Sl.v S351), (Sl.v Bs)]) (O' := [(Sl.v S351), (Sl.v S441)]) (Nat.le_refl _) (Nat.le_refl _) (by
    intro v0 hv0 q0 e0 hq0
    simp only [List.mem_cons, List.not_mem_nil, or_false] at hv0
    rcases hv0 with rfl | rfl
    ·exact ⟨_, by simp, e0⟩
    ·rcases HAT.out with h | h
     ·exact ⟨_, by simp, h.symm.trans e0⟩
     ·rw [h] at e0; injection e0 with e0; exfalso; have z := Z443.out; omega)) E445.out)
   clear E429 E445
   have E447 := Lib.hid (LabsB.kept (kept_ny hg (HQ2.out.elim (fun e => .inr (.inr ⟨(Sl.v Bs), by simp, e⟩)) (fun h => .inr (.inl (by have z := Z443.out; omega)))) (by have z := Z443.out; omega)) E432.out)
   have E448 := Lib.hid (LabsB.kept (ny_ny (O := [(Sl.v S351), (Sl.v Bs)]) (O' := [(Sl.v S351), (Sl.v S441)]) (Nat.le_refl _) (Nat.le_refl _) (by
    intro v0 hv0 q0 e0 hq0
    simp only [List.mem_cons, List.not_mem_nil, or_false] at hv0
    rcases hv0 with rfl | rfl
    ·exact ⟨_, by simp, e0⟩
    ·rcases HAT.out with h | h
     ·exact ⟨_, by simp, h.symm.trans e0⟩
     ·rw [h] at e0; injection e0 with e0; exfalso; have z := Z443.out; omega)) E447.out)
   clear E432 E447
   have O449 := Lib.hid (Ow.gr2 O434.out hg (HQ2.out.elim (fun e => Ow.apart O435.out O434.out (by decide) e) (fun h e2 => by have h9 := (Ow.lt O434.out e2).2; have z := Z443.out; omega)))
   clear O434
   have X450 := hbx hg (by have z := Z443.out; omega) X427
   clear X427
   have X451 := hbx hg (by have z := Z443.out; omega) X428
   clear X428
   have E452 := hkExB hg (by have z := Z443.out; omega) E430
   clear E430
   have E453 := hkRB hg (by have z := Z443.out; omega) E431
   clear E431
   have E454 := hkStLB hg (by have z := Z443.out; omega) E433
   clear E433
   have E455 := hkRB hg (by have z := Z443.out; omega) E426
   clear E426
   have P456 := Lib.hid (P436.out.gr hg (by have z := Z443.out; omega))
   clear P436
   have G457 := hgt hg G437 (fun _ => by have z := Z443.out; omega)
   clear G437
   have Z458 := hzz hg Z443
   have O459 := HOWN
   clear hg HOWN HGA HQ2 HAT O435
   refine hK.out _ _ X451.out (fun hHeld => ?_)
   clear hK K
   try simp only [Act.put, List.setIfInBounds_toArray, List.set_cons_zero, List.set_cons_succ, List.getElem_toArray, List.getElem_cons_succ, List.getElem_cons_zero]
   refine wpAnyT_take (i := 7) (v := ?_) rfl (by kernel_rfl) (by kernel_rfl) (by kernel_rfl) (fun _ _ _ h => h) (Or.inl ⟨by rfl, ?_⟩) (by assumption) ?_
   rotate_left 1
   ·intro w_ hSw; clear hSw; go_simp <;> (with_reducible rfl)
   try simp only [Act.put, List.setIfInBounds_toArray, List.set_cons_zero, List.set_cons_succ, List.getElem_toArray, List.getElem_cons_succ, List.getElem_cons_zero]
   refine wpAnyT_ready (rs := [8]) (by kernel_rfl) (by simp) ?_
   refine AllReadyT.spoilt rfl (by kernel_rfl) (fun K hK => ?_) AllReadyT.nil
   refine t_set1 (j := 17) X451.out (show 17 < 19 by decide) 42 31 30 rfl rfl rfl (Sl.v S441) rfl rfl (by first | rfl | (cases S441; rfl)) (by kernel_rfl) ?_
   intro w19 hx hg hs
   have hx : Box w19 (w5.heap.size) 0 (sC ⟨3, [], ⟨0, 0, [], [], ⟨none, 0, 0⟩, 0⟩, h13, ⟨none, 0, 0⟩, S351, ⟨none, 0, 0⟩, S441, 0⟩) := hx
   have X460 := Lib.hid hx
   have Z461 := Lib.hid (And.intro hs Z458.out)
   clear hx hs X451
   have X462 := hbx hg (by have z := Z458.out; omega) X450
   clear X450
   have E463 := Lib.hid (BlksB.kept (kept_ny hg (Or.imp_right Or.inl (by have z := Z458.out; omega)) (by have z := Z458.out; omega)) E446.out)
   clear E446
   have E464 := hkExB hg (by have z := Z458.out; omega) E452
   clear E452
   have E465 := hkRB hg (by have z := Z458.out; omega) E453
   clear E453
   have E466 := Lib.hid (LabsB.kept (kept_ny hg (Or.imp_right Or.inl (by have z := Z458.out; omega)) (by have z := Z458.out; omega)) E448.out)
   clear E448
   have E467 := hkStLB hg (by have z := Z458.out; omega) E454
   clear E454
   have E468 := hkRB hg (by have z := Z458.out; omega) E455
   clear E455
   have O469 := Lib.hid (Ow.gr O449.out hg (by have z := Z458.out; omega))
   clear O449
   have O470 := Lib.hid (Ow.gr O459.out hg (by have z := Z458.out; omega))
   clear O459
   have P471 := Lib.hid (P456.out.gr hg (by have z := Z458.out; omega))
   clear P456
   have G472 := hgt hg G457 (fun _ => by have z := Z458.out; omega)
   clear G457
   have Z473 := hzz hg Z461
   clear hg
   refine hK.out _ _ ?_
   clear hK K
   try simp only [Act.put, List.setIfInBounds_toArray, List.set_cons_zero, List.set_cons_succ, List.getElem_toArray, List.getElem_cons_succ, List.getElem_cons_zero]
   refine wpAnyT_done (by kernel_rfl) ?_ _
   clear LM
   have EB := Lib.hid (BlksB.snoc (StLB.kept (nw_ny (b' := w19.heap.size) (O := [(Sl.v S351), (Sl.v S441)]) (by have z := Z473.out; omega) (by have z := Z473.out; omega) (by
    intro v0 hv0 q0 e0
    simp only [List.mem_cons, List.not_mem_nil, or_false] at hv0
    rcases hv0 with rfl | rfl
    ·have h9 := HOB407.out q0 e0; have z := Z473.out; omega
    ·have h9 := HOB444.out q0 e0; have z := Z473.out; omega)) E467.out) (BlksB.kept (ny_ny (O := [(Sl.v S351), (Sl.v S441)]) (O' := [(Sl.v S351), (Sl.v S441)]) (Nat.le_refl _) (by have z := Z473.out; omega) (fun v hv q e hq => ⟨v, hv, e⟩)) E463.out))
   clear E463 E467
   go_wp2_with fail
   go_roundw
   case rel => exact ⟨_, _, _, _, _, _, r9, f2, HR408.out, (by have z := Z473.out; have := HFC.out; have := HLR.out; have := L8.out; have := LB.out; have := HL1.out; have := HL2.out; omega), (by have z := Z473.out; have := HFC2.out; omega), (by have z := Z473.out; have := HLR.out; have := L8.out; have := LB.out; have := HL1.out; have := HL2.out; simp only [List.length_append, List.length_cons, List.length_nil]; omega), (by have z := Z473.out; have := HLR.out; have := L8.out; have := LB.out; have := HL1.out; have := HL2.out; simp only [List.length_append, List.length_cons, List.length_nil]; omega), R410.out, P471.out, X462.out, X460.out, O469.out, O470.out, (LabsB.kept (ny_ny (O := [(Sl.v S351), (Sl.v S441)]) (O' := [(Sl.v S351), (Sl.v S441)]) (Nat.le_refl _) (by have z := Z473.out; omega) (fun v hv q e hq => ⟨v, hv, e⟩)) E466.out), (BlksB.kept (ny_ny (O := [(Sl.v S351), (Sl.v S441)]) (O' := [(Sl.v S351), (Sl.v S441)]) (Nat.le_refl _) (by have z := Z473.out; omega) (fun v hv q e hq => ⟨v, hv, e⟩)) EB.out), E464.out, G472.out, (by have z := Z473.out; omega)⟩
   case measure => rw [NLEN.out, P471.out.len]; have z := Z473.out; have := HLR.out; have := L8.out; have := LB.out; have := HL1.out; have := HL2.out; omega
  by_cases hw : txt r' = [45]
  ·skip
   have hq := HR.out
   rw [caseF, if_pos (Or.inr hw)] at hq
   have HR301 := Lib.hid hq
   clear hq HR
   have hh := (headS_txt R1.out (by decide) (by decide) (by decide) (by decide)).2 hw
   have HA := Lib.hid (fun W (h : Par W g r' V d) => head_any h R1.out)
   unfold sv at HA
   have q0 : ((⟨(headS (tr.hd (r'))).toArray⟩ : ByteArray).toList == [110, 117, 109, 98, 101, 114]) = false := by rw [ByteArray.toList_eq]; exact (by rw [hh]; rfl)
   have q1 : ((⟨(headS (tr.hd (r'))).toArray⟩ : ByteArray).toList == [45]) = true := by rw [ByteArray.toList_eq]; exact (by rw [hh]; rfl)
   generalize (⟨(headS (tr.hd (r'))).toArray⟩ : ByteArray) = XH at *
   go_wp2_with (go_at_call 28; fail)
   refine (HA.out _ P1.out).mono ?_
   rintro e w8 ⟨rfl, hb⟩
   have hg := gr_of (row := some wr.heap.size) hb
   have X302 := hbx hg (by have z := ZS.out; omega) X1
   clear X1
   have X303 := hbx hg (by have z := ZS.out; omega) X2
   clear X2
   have E304 := Lib.hid (LabsB.kept (kept_ny hg (Or.imp_right Or.inl (by have z := ZS.out; omega)) (by have z := ZS.out; omega)) E1.out)
   clear E1
   have E305 := Lib.hid (BlksB.kept (kept_ny hg (Or.imp_right Or.inl (by have z := ZS.out; omega)) (by have z := ZS.out; omega)) E2.out)
   clear E2
   have E306 := hkExB hg (by have z := ZS.out; omega) E3
   clear E3
   have O307 := Lib.hid (Ow.gr O1.out hg (by have z := ZS.out; omega))
   clear O1
   have O308 := Lib.hid (Ow.gr O2.out hg (by have z := ZS.out; omega))
   clear O2
   have P309 := Lib.hid (P1.out.gr hg (by have z := ZS.out; omega))
   clear P1
   have G310 := hgt hg G1 (fun _ => by have z := ZS.out; omega)
   clear G1
   have Z311 := hzz hg ZS
   clear hg hb
   go_wp2_with (go_at_call 28; fail)
   refine (HA.out _ P309.out).mono ?_
   rintro e w9 ⟨rfl, hb⟩
   have hg := gr_of (row := some w8.heap.size) hb
   have X312 := hbx hg (by have z := Z311.out; omega) X302
   clear X302
   have X313 := hbx hg (by have z := Z311.out; omega) X303
   clear X303
   have E314 := Lib.hid (LabsB.kept (kept_ny hg (Or.imp_right Or.inl (by have z := Z311.out; omega)) (by have z := Z311.out; omega)) E304.out)
   clear E304
   have E315 := Lib.hid (BlksB.kept (kept_ny hg (Or.imp_right Or.inl (by have z := Z311.out; omega)) (by have z := Z311.out; omega)) E305.out)
   clear E305
   have E316 := hkExB hg (by have z := Z311.out; omega) E306
   clear E306
   have O317 := Lib.hid (Ow.gr O307.out hg (by have z := Z311.out; omega))
   clear O307
   have O318 := Lib.hid (Ow.gr O308.out hg (by have z := Z311.out; omega))
   clear O308
   have P319 := Lib.hid (P309.out.gr hg (by have z := Z311.out; omega))
   clear P309
   have G320 := hgt hg G310 (fun _ => by have z := Z311.out; omega)
   clear G310
   have Z321 := hzz hg Z311
   clear hg hb
   clear HA
   clear hh hw hk
   have hq := HR301.out
   rw [labs_bind] at hq
   have HR322 := Lib.hid hq
   clear hq HR301
   go_upto_region 4 with (fail)
   refine wp_region_T (by kernel_rfl) (fun w' => Box w' (w5.heap.size) 0 (sC ⟨3, [], ⟨0, 0, [], [], ⟨none, 0, 0⟩, 0⟩, h13, ⟨none, 0, 0⟩, Ls, ⟨none, 0, 0⟩, Bs, 0⟩)) [7] (box_drew X313.out) (fun hHeld => ?_)
   have hb := (Below.refl w9.heap.size w9).drew
   generalize w9.drew = w10 at *
   have hg := gr_of (row := some w9.heap.size) hb
   have X323 := hbx hg (by have z := Z321.out; omega) X312
   clear X312
   have X324 := hbx hg (by have z := Z321.out; omega) X313
   clear X313
   have E325 := Lib.hid (LabsB.kept (kept_ny hg (Or.imp_right Or.inl (by have z := Z321.out; omega)) (by have z := Z321.out; omega)) E314.out)
   clear E314
   have E326 := Lib.hid (BlksB.kept (kept_ny hg (Or.imp_right Or.inl (by have z := Z321.out; omega)) (by have z := Z321.out; omega)) E315.out)
   clear E315
   have E327 := hkExB hg (by have z := Z321.out; omega) E316
   clear E316
   have O328 := Lib.hid (Ow.gr O317.out hg (by have z := Z321.out; omega))
   clear O317
   have O329 := Lib.hid (Ow.gr O318.out hg (by have z := Z321.out; omega))
   clear O318
   have P330 := Lib.hid (P319.out.gr hg (by have z := Z321.out; omega))
   clear P319
   have G331 := hgt hg G320 (fun _ => by have z := Z321.out; omega)
   clear G320
   have Z332 := hzz hg Z321
   clear hg hb
   refine wpAnyT_take (i := 0) (v := ?_) rfl (by kernel_rfl) (by kernel_rfl) (by kernel_rfl) (fun _ _ _ h => h) (Or.inl ⟨by rfl, ?_⟩) (by assumption) ?_
   rotate_left 1
   ·intro w_ hSw; clear hSw; go_simp <;> (with_reducible rfl)
   try simp only [Act.put, List.setIfInBounds_toArray, List.set_cons_zero, List.set_cons_succ, List.getElem_toArray, List.getElem_cons_succ, List.getElem_cons_zero]
   refine wpAnyT_take (i := 1) (v := ?_) rfl (by kernel_rfl) (by kernel_rfl) (by kernel_rfl) (fun _ _ _ h => h) (Or.inl ⟨by rfl, ?_⟩) (by assumption) ?_
   rotate_left 1
   ·intro w_ hSw; obtain ⟨c15, _⟩ := cell_of hSw (i := 15) rfl; go_simp <;> (with_reducible rfl)
   try simp only [Act.put, List.setIfInBounds_toArray, List.set_cons_zero, List.set_cons_succ, List.getElem_toArray, List.getElem_cons_succ, List.getElem_cons_zero]
   refine wpAnyT_take (i := 2) (v := ?_) rfl (by kernel_rfl) (by kernel_rfl) (by kernel_rfl) (fun _ _ _ h => h) (Or.inl ⟨by rfl, ?_⟩) (by assumption) ?_
   rotate_left 1
   ·intro w_ hSw; clear hSw; go_simp <;> (with_reducible rfl)
   try simp only [Act.put, List.setIfInBounds_toArray, List.set_cons_zero, List.set_cons_succ, List.getElem_toArray, List.getElem_cons_succ, List.getElem_cons_zero]
   refine wpAnyT_ready (rs := [3]) (by kernel_rfl) (by simp) ?_
   refine AllReadyT.cons rfl (fun K hK => ?_) AllReadyT.nil
   have FI := Lib.hid (fin_labs (f := f2) (r := r') (by have z := Z332.out; have := HFC.out; have := HFC2.out; have := HLR.out; have := HL1.out; have := HL.out; omega))
   have LC := Lib.hid (fun W (h : Par W g r' V d) => labels_any h R1.out (by have z := Z332.out; have := HFC.out; have := HFC2.out; have := HLR.out; have := HL1.out; have := HL.out; omega) (f := f2) (by have z := Z332.out; have := HFC.out; have := HFC2.out; have := HLR.out; have := HL1.out; have := HL.out; omega))
   have LC : Hid (∀ W, Par W g r' V d → Calls Tryz.prog 85 #[.pointer (some ⟨g, 0, none⟩)] W (Gv g V d W GotL (labsP f2 r'))) := LC
   have HOB333 := Lib.hid (show ∀ q0, (Sl.v Bs).ownBlock = some q0 → q0 < w10.heap.size from fun q0 e0 => (Ow.lt O329.out e0).2)
   go_simp
   go_at_call 85
   refine (LC.out _ P330.out).mono ?_
   rintro e w11 hgv
   rcases hp : labsP f2 r' with ⟨l8, r8⟩ | ⟨n9, t9⟩
   rotate_left
   ·rw [hp] at hgv
    obtain ⟨rfl, hg⟩ := hgv
    have hq := HR322.out
    rw [hp] at hq
    go_wp2
    exact ⟨rfl, Gv.badOf hq.symm (gr_trans G331.out hg)⟩
   rw [hp] at hgv
   obtain ⟨⟨v9, rfl, hG⟩, hP9, hr9, hg⟩ := hgv
   have hq := HR322.out
   rw [hp] at hq
   try rw [bind_okE] at hq
   have HR334 := Lib.hid hq
   clear hq HR322
   have P335 := Lib.hid hP9
   have R336 := Lib.hid hr9
   have X337 := hbx hg (by have z := Z332.out; omega) X323
   clear X323
   have X338 := hbx hg (by have z := Z332.out; omega) X324
   clear X324
   have E339 := Lib.hid (LabsB.kept (kept_ny hg (Or.imp_right Or.inl (by have z := Z332.out; omega)) (by have z := Z332.out; omega)) E325.out)
   clear E325
   have E340 := Lib.hid (BlksB.kept (kept_ny hg (Or.imp_right Or.inl (by have z := Z332.out; omega)) (by have z := Z332.out; omega)) E326.out)
   clear E326
   have E341 := hkExB hg (by have z := Z332.out; omega) E327
   clear E327
   have O342 := Lib.hid (Ow.gr O328.out hg (by have z := Z332.out; omega))
   clear O328
   have O343 := Lib.hid (Ow.gr O329.out hg (by have z := Z332.out; omega))
   clear O329
   clear P330
   have G344 := Lib.hid (gr_trans G331.out hg)
   clear G331
   have Z345 := hzz hg Z332
   clear hg hP9 hr9 R1
   have L8 : Hid (r8.length < r'.length) := by
    have := FI.out
    rw [hp] at this
    exact Lib.hid this
   obtain ⟨s8, rfl, hE9⟩ := hG
   have EL := Lib.hid hE9
   clear FI hp LC hE9
   go_wp2_with fail
   refine hK.out _ _ X338.out (fun hHeld => ?_)
   clear hK K
   try simp only [Act.put, List.setIfInBounds_toArray, List.set_cons_zero, List.set_cons_succ, List.getElem_toArray, List.getElem_cons_succ, List.getElem_cons_zero]
   refine wpAnyT_ready (rs := [4]) (by kernel_rfl) (by simp) ?_
   refine AllReadyT.cons rfl (fun K hK => ?_) AllReadyT.nil
   refine t_slice1 (enc := slC) (z := 1) s8 40 70 20 (Sl.v s8) (slC s8).toArray rfl rfl rfl (bs_Lab s8) rfl ?_
   intro w12 hrb hb1 hz1
   have HRB := Lib.hid hrb
   have HB1 := Lib.hid hb1
   have HZ1 := Lib.hid hz1
   clear hrb hb1 hz1
   have hg := gr_of (row := some w11.heap.size) HB1.out
   have Z346 := Lib.hid (And.intro HZ1.out Z345.out)
   have E347 := HRB
   clear HZ1 HRB
   have X348 := hbx hg (by have z := Z345.out; omega) X337
   clear X337
   have X349 := hbx hg (by have z := Z345.out; omega) X338
   clear X338
   have E350 := Lib.hid (LabsB.kept (kept_ny hg (Or.imp_right Or.inl (by have z := Z345.out; omega)) (by have z := Z345.out; omega)) E339.out)
   clear E339
   have E351 := Lib.hid (BlksB.kept (kept_ny hg (Or.imp_right Or.inl (by have z := Z345.out; omega)) (by have z := Z345.out; omega)) E340.out)
   clear E340
   have E352 := hkExB hg (by have z := Z345.out; omega) E341
   clear E341
   have E353 := hkRB hg (by have z := Z345.out; omega) EL
   clear EL
   have O354 := Lib.hid (Ow.gr O342.out hg (by have z := Z345.out; omega))
   clear O342
   have O355 := Lib.hid (Ow.gr O343.out hg (by have z := Z345.out; omega))
   clear O343
   have P356 := Lib.hid (P335.out.gr hg (by have z := Z345.out; omega))
   clear P335
   have G357 := hgt hg G344 (fun _ => by have z := Z345.out; omega)
   clear G344
   have Z358 := hzz hg Z346
   clear hg HB1
   refine hK.out _ _ X349.out (fun hHeld => ?_)
   clear hK K
   try simp only [Act.put, List.setIfInBounds_toArray, List.set_cons_zero, List.set_cons_succ, List.getElem_toArray, List.getElem_cons_succ, List.getElem_cons_zero]
   have LM := Lib.hid (show LH.length + [s8].length ≤ 20000 by have := labsB_len E350.out; have := HL1.out; have := HL.out; simp only [List.length_cons, List.length_nil]; omega)
   refine wpAnyT_ready (rs := [5]) (by kernel_rfl) (by simp) ?_
   refine AllReadyT.cons rfl (fun K hK => ?_) AllReadyT.nil
   have Z360 := Lib.hid (And.intro (show w7.heap.size ≤ w12.heap.size from (by have z := Z358.out; omega)) Z358.out)
   refine step_append_row slC_len (by decide) slC_one labs_slice lab_info rfl (by decide) _ rfl (.tmp 18) (.tmp 21) rfl w7.heap.size (Sl.v Ls) LH rfl O354.out (w11.heap.size + 1) (some ⟨w11.heap.size, 0, none⟩) 1 1 [s8] rfl (RB.toAt (fun b hb => hb.2) E347.out) LM.out Z360.out.1 ?_
   intro v8 w13 hown hgA hat
   have HOWN := Lib.hid hown
   have HGA := Lib.hid hgA
   have HAT := Lib.hid hat
   clear hown hgA hat
   obtain ⟨S361, hsv⟩ := Ow.sl slC_len HOWN.out
   subst hsv
   obtain ⟨q9, hq1, hq2, hg⟩ := grow_q O354.out (by have z := Z360.out; omega) HGA.out
   have HQ2 := Lib.hid hq2
   have Z362 := Lib.hid (And.intro hq1 Z360.out)
   have Z363 := Lib.hid (And.intro (show q9 < wr.heap.size ∨ w12.heap.size ≤ q9 from hq2.imp (fun e => (Ow.lt OH1.out e).2) id) Z362.out)
   clear hq1 hq2
   have HOB364 := Lib.hid (show ∀ q0, (Sl.v S361).ownBlock = some q0 → q0 < wr.heap.size ∨ w12.heap.size ≤ q0 from fun q0 e0 => HAT.out.elim (fun h => .inl (Ow.lt OH1.out (h.symm.trans e0)).2) (fun h => .inr (by rw [h] at e0; injection e0 with e0; omega)))
   have E365 := Lib.hid (LabsB.kept (kept_ny hg (HQ2.out.elim (fun e => .inr (.inr ⟨(Sl.v Ls), by simp, e⟩)) (fun h => .inr (.inl (by have z := Z363.out; omega)))) (by have z := Z363.out; omega)) E350.out)
   have E366 := Lib.hid (LabsB.kept (ny_ny (O := [(Sl.v Ls), (Sl.v Bs)]) (O' := [(Sl.v S361), (Sl.v Bs)]) (Nat.le_refl _) (Nat.le_refl _) (by
    intro v0 hv0 q0 e0 hq0
    simp only [List.mem_cons, List.not_mem_nil, or_false] at hv0
    rcases hv0 with rfl | rfl
    ·rcases HAT.out with h | h
     ·exact ⟨_, by simp, h.symm.trans e0⟩
     ·rw [h] at e0; injection e0 with e0; exfalso; have z := Z363.out; omega
    ·exact ⟨_, by simp, e0⟩)) E365.out)
   clear E350 E365
   have E367 := Lib.hid (BlksB.kept (kept_ny hg (HQ2.out.elim (fun e => .inr (.inr ⟨(Sl.v Ls), by simp, e⟩)) (fun h => .inr (.inl (by have z := Z363.out; omega)))) (by have z := Z363.out; omega)) E351.out)
   have E368 := Lib.hid (BlksB.kept (ny_ny (O := [(Sl.v Ls), (Sl.v Bs)]) (O' := [(Sl.v S361), (Sl.v Bs)]) (Nat.le_refl _) (Nat.le_refl _) (by
    intro v0 hv0 q0 e0 hq0
    simp only [List.mem_cons, List.not_mem_nil, or_false] at hv0
    rcases hv0 with rfl | rfl
    ·rcases HAT.out with h | h
     ·exact ⟨_, by simp, h.symm.trans e0⟩
     ·rw [h] at e0; injection e0 with e0; exfalso; have z := Z363.out; omega
    ·exact ⟨_, by simp, e0⟩)) E367.out)
   clear E351 E367
   have O369 := Lib.hid (Ow.gr2 O355.out hg (HQ2.out.elim (fun e => Ow.apart O354.out O355.out (by decide) e) (fun h e2 => by have h9 := (Ow.lt O355.out e2).2; have z := Z363.out; omega)))
   clear O355
   have X370 := hbx hg (by have z := Z363.out; omega) X348
   clear X348
   have X371 := hbx hg (by have z := Z363.out; omega) X349
   clear X349
   have E372 := hkExB hg (by have z := Z363.out; omega) E352
   clear E352
   have E373 := hkRB hg (by have z := Z363.out; omega) E353
   clear E353
   have E374 := hkRB hg (by have z := Z363.out; omega) E347
   clear E347
   have P375 := Lib.hid (P356.out.gr hg (by have z := Z363.out; omega))
   clear P356
   have G376 := hgt hg G357 (fun _ => by have z := Z363.out; omega)
   clear G357
   have Z377 := hzz hg Z363
   have O378 := HOWN
   clear hg HOWN HGA HQ2 HAT O354
   refine hK.out _ _ X371.out (fun hHeld => ?_)
   clear hK K
   try simp only [Act.put, List.setIfInBounds_toArray, List.set_cons_zero, List.set_cons_succ, List.getElem_toArray, List.getElem_cons_succ, List.getElem_cons_zero]
   refine wpAnyT_take (i := 6) (v := ?_) rfl (by kernel_rfl) (by kernel_rfl) (by kernel_rfl) (fun _ _ _ h => h) (Or.inl ⟨by rfl, ?_⟩) (by assumption) ?_
   rotate_left 1
   ·intro w_ hSw; clear hSw; go_simp <;> (with_reducible rfl)
   try simp only [Act.put, List.setIfInBounds_toArray, List.set_cons_zero, List.set_cons_succ, List.getElem_toArray, List.getElem_cons_succ, List.getElem_cons_zero]
   refine wpAnyT_ready (rs := [7]) (by kernel_rfl) (by simp) ?_
   refine AllReadyT.spoilt rfl (by kernel_rfl) (fun K hK => ?_) AllReadyT.nil
   refine t_set1 (j := 15) X371.out (show 15 < 19 by decide) 40 23 22 rfl rfl rfl (Sl.v S361) rfl rfl (by first | rfl | (cases S361; rfl)) (by kernel_rfl) ?_
   intro w14 hx hg hs
   have hx : Box w14 (w5.heap.size) 0 (sC ⟨3, [], ⟨0, 0, [], [], ⟨none, 0, 0⟩, 0⟩, h13, ⟨none, 0, 0⟩, S361, ⟨none, 0, 0⟩, Bs, 0⟩) := hx
   have X379 := Lib.hid hx
   have Z380 := Lib.hid (And.intro hs Z377.out)
   clear hx hs X371
   have X381 := hbx hg (by have z := Z377.out; omega) X370
   clear X370
   have E382 := Lib.hid (LabsB.kept (kept_ny hg (Or.imp_right Or.inl (by have z := Z377.out; omega)) (by have z := Z377.out; omega)) E366.out)
   clear E366
   have E383 := Lib.hid (BlksB.kept (kept_ny hg (Or.imp_right Or.inl (by have z := Z377.out; omega)) (by have z := Z377.out; omega)) E368.out)
   clear E368
   have E384 := hkExB hg (by have z := Z377.out; omega) E372
   clear E372
   have E385 := hkRB hg (by have z := Z377.out; omega) E373
   clear E373
   have E386 := hkRB hg (by have z := Z377.out; omega) E374
   clear E374
   have O387 := Lib.hid (Ow.gr O378.out hg (by have z := Z377.out; omega))
   clear O378
   have O388 := Lib.hid (Ow.gr O369.out hg (by have z := Z377.out; omega))
   clear O369
   have P389 := Lib.hid (P375.out.gr hg (by have z := Z377.out; omega))
   clear P375
   have G390 := hgt hg G376 (fun _ => by have z := Z377.out; omega)
   clear G376
   have Z391 := hzz hg Z380
   clear hg
   refine hK.out _ _ ?_
   clear hK K
   try simp only [Act.put, List.setIfInBounds_toArray, List.set_cons_zero, List.set_cons_succ, List.getElem_toArray, List.getElem_cons_succ, List.getElem_cons_zero]
   refine wpAnyT_done (by kernel_rfl) ?_ _
   clear LM
   have EC := Lib.hid (LabsB.snoc (RB.kept (nw_ny (b' := w14.heap.size) (O := [(Sl.v S361), (Sl.v Bs)]) (by have z := Z391.out; omega) (by have z := Z391.out; omega) (by
    intro v0 hv0 q0 e0
    simp only [List.mem_cons, List.not_mem_nil, or_false] at hv0
    rcases hv0 with rfl | rfl
    ·have h9 := HOB364.out q0 e0; have z := Z391.out; omega
    ·have h9 := HOB333.out q0 e0; have z := Z391.out; omega)) E385.out) (LabsB.kept (ny_ny (O := [(Sl.v S361), (Sl.v Bs)]) (O' := [(Sl.v S361), (Sl.v Bs)]) (Nat.le_refl _) (by have z := Z391.out; omega) (fun v hv q e hq => ⟨v, hv, e⟩)) E382.out))
   clear E382 E385
   go_upto_region 5 with (fail)
   refine wp_region_T (by kernel_rfl) (fun w' => Box w' (w5.heap.size) 0 (sC ⟨3, [], ⟨0, 0, [], [], ⟨none, 0, 0⟩, 0⟩, h13, ⟨none, 0, 0⟩, S361, ⟨none, 0, 0⟩, Bs, 0⟩)) [8] (box_drew X379.out) (fun hHeld => ?_)
   have hb := (Below.refl w14.heap.size w14).drew
   generalize w14.drew = w15 at *
   have hg := gr_of (row := some w14.heap.size) hb
   have X392 := hbx hg (by have z := Z391.out; omega) X381
   clear X381
   have X393 := hbx hg (by have z := Z391.out; omega) X379
   clear X379
   have E394 := Lib.hid (BlksB.kept (kept_ny hg (Or.imp_right Or.inl (by have z := Z391.out; omega)) (by have z := Z391.out; omega)) E383.out)
   clear E383
   have E395 := hkExB hg (by have z := Z391.out; omega) E384
   clear E384
   have E396 := hkRB hg (by have z := Z391.out; omega) E386
   clear E386
   have E397 := Lib.hid (LabsB.kept (kept_ny hg (Or.imp_right Or.inl (by have z := Z391.out; omega)) (by have z := Z391.out; omega)) EC.out)
   clear EC
   have O398 := Lib.hid (Ow.gr O387.out hg (by have z := Z391.out; omega))
   clear O387
   have O399 := Lib.hid (Ow.gr O388.out hg (by have z := Z391.out; omega))
   clear O388
   have P400 := Lib.hid (P389.out.gr hg (by have z := Z391.out; omega))
   clear P389
   have G401 := hgt hg G390 (fun _ => by have z := Z391.out; omega)
   clear G390
   have Z402 := hzz hg Z391
   clear hg hb
   refine wpAnyT_take (i := 0) (v := ?_) rfl (by kernel_rfl) (by kernel_rfl) (by kernel_rfl) (fun _ _ _ h => h) (Or.inl ⟨by rfl, ?_⟩) (by assumption) ?_
   rotate_left 1
   ·intro w_ hSw; clear hSw; go_simp <;> (with_reducible rfl)
   try simp only [Act.put, List.setIfInBounds_toArray, List.set_cons_zero, List.set_cons_succ, List.getElem_toArray, List.getElem_cons_succ, List.getElem_cons_zero]
   refine wpAnyT_take (i := 1) (v := ?_) rfl (by kernel_rfl) (by kernel_rfl) (by kernel_rfl) (fun _ _ _ h => h) (Or.inl ⟨by rfl, ?_⟩) (by assumption) ?_
   rotate_left 1
   ·intro w_ hSw; obtain ⟨c17, _⟩ := cell_of hSw (i := 17) rfl; go_simp <;> (with_reducible rfl)
   try simp only [Act.put, List.setIfInBounds_toArray, List.set_cons_zero, List.set_cons_succ, List.getElem_toArray, List.getElem_cons_succ, List.getElem_cons_zero]
   refine wpAnyT_take (i := 2) (v := ?_) rfl (by kernel_rfl) (by kernel_rfl) (by kernel_rfl) (fun _ _ _ h => h) (Or.inl ⟨by rfl, ?_⟩) (by assumption) ?_
   rotate_left 1
   ·intro w_ hSw; clear hSw; go_simp <;> (with_reducible rfl)
   try simp only [Act.put, List.setIfInBounds_toArray, List.set_cons_zero, List.set_cons_succ, List.getElem_toArray, List.getElem_cons_succ, List.getElem_cons_zero]
   refine wpAnyT_ready (rs := [3]) (by kernel_rfl) (by simp) ?_
   refine AllReadyT.cons rfl (fun K hK => ?_) AllReadyT.nil
   go_simp
   have hb := (Below.refl w15.heap.size w15).alloc (Nat.le_refl _) (.cells #[.string ⟨#[110, 117, 109, 98, 101, 114]⟩, .string ⟨#[45]⟩, .string ⟨#[69, 76, 83, 69]⟩, .string ⟨#[69, 78, 68, 95, 67, 65, 83, 69]⟩] 9)
   have hR : RB tC1 1 (w15.alloc (.cells #[.string ⟨#[110, 117, 109, 98, 101, 114]⟩, .string ⟨#[45]⟩, .string ⟨#[69, 76, 83, 69]⟩, .string ⟨#[69, 78, 68, 95, 67, 65, 83, 69]⟩] 9)) (Nw w15.heap.size (w15.heap.size + 1)) ⟨some ⟨w15.heap.size, 0, none⟩, 4, 4⟩ [[110, 117, 109, 98, 101, 114], [45], [69, 76, 83, 69], [69, 78, 68, 95, 67, 65, 83, 69]] := rb_many w15 9 [[110, 117, 109, 98, 101, 114], [45], [69, 76, 83, 69], [69, 78, 68, 95, 67, 65, 83, 69]] #[.string ⟨#[110, 117, 109, 98, 101, 114]⟩, .string ⟨#[45]⟩, .string ⟨#[69, 76, 83, 69]⟩, .string ⟨#[69, 78, 68, 95, 67, 65, 83, 69]⟩] rfl (Nat.le_refl _) (Nat.le_refl _)
   have hz : (w15.alloc (.cells #[.string ⟨#[110, 117, 109, 98, 101, 114]⟩, .string ⟨#[45]⟩, .string ⟨#[69, 76, 83, 69]⟩, .string ⟨#[69, 78, 68, 95, 67, 65, 83, 69]⟩] 9)).heap.size = w15.heap.size + 1 := by simp
   generalize w15.alloc (.cells #[.string ⟨#[110, 117, 109, 98, 101, 114]⟩, .string ⟨#[45]⟩, .string ⟨#[69, 76, 83, 69]⟩, .string ⟨#[69, 78, 68, 95, 67, 65, 83, 69]⟩] 9) = w16 at *
   have hg := gr_of (row := some w15.heap.size) hb
   have HZ1 := Lib.hid hz
   have HRB := Lib.hid hR
   clear hb hR hz
   have Z403 := Lib.hid (And.intro HZ1.out Z402.out)
   have E404 := HRB
   clear HZ1 HRB
   have X405 := hbx hg (by have z := Z402.out; omega) X392
   clear X392
   have X406 := hbx hg (by have z := Z402.out; omega) X393
   clear X393
   have E407 := Lib.hid (BlksB.kept (kept_ny hg (Or.imp_right Or.inl (by have z := Z402.out; omega)) (by have z := Z402.out; omega)) E394.out)
   clear E394
   have E408 := hkExB hg (by have z := Z402.out; omega) E395
   clear E395
   have E409 := hkRB hg (by have z := Z402.out; omega) E396
   clear E396
   have E410 := Lib.hid (LabsB.kept (kept_ny hg (Or.imp_right Or.inl (by have z := Z402.out; omega)) (by have z := Z402.out; omega)) E397.out)
   clear E397
   have O411 := Lib.hid (Ow.gr O398.out hg (by have z := Z402.out; omega))
   clear O398
   have O412 := Lib.hid (Ow.gr O399.out hg (by have z := Z402.out; omega))
   clear O399
   have P413 := Lib.hid (P400.out.gr hg (by have z := Z402.out; omega))
   clear P400
   have G414 := hgt hg G401 (fun _ => by have z := Z402.out; omega)
   clear G401
   have Z415 := hzz hg Z403
   clear hg
   refine hK.out _ _ X406.out (fun hHeld => ?_)
   clear hK K
   try simp only [Act.put, List.setIfInBounds_toArray, List.set_cons_zero, List.set_cons_succ, List.getElem_toArray, List.getElem_cons_succ, List.getElem_cons_zero]
   refine wpAnyT_ready (rs := [4]) (by kernel_rfl) (by simp) ?_
   refine AllReadyT.cons rfl (fun K hK => ?_) AllReadyT.nil
   have FI := Lib.hid ((finS f2).2.2.2.2.2 d r8 [] (by have z := Z391.out; have := HFC.out; have := HFC2.out; have := HLR.out; have := L8.out; have := HL1.out; omega))
   have HOB417 := Lib.hid (show ∀ q0, (Sl.v S361).ownBlock = some q0 → q0 < w16.heap.size from fun q0 e0 => (Ow.lt O411.out e0).2)
   go_simp
   go_at_call 20
   refine (HBCC.out f2 r8 (by have z := Z415.out; have := HFC.out; have := HFC2.out; have := HLR.out; have := L8.out; have := HL1.out; omega) R336.out (by have z := Z415.out; have := HFC.out; have := HFC2.out; have := HLR.out; have := L8.out; have := HL1.out; omega) (by have z := Z415.out; have := HFC.out; have := HFC2.out; have := HLR.out; have := L8.out; have := HL1.out; omega) _ _ _ _ P413.out (by have z := Z415.out; omega) (by have z := Z415.out; omega) E404.out).mono ?_
   rintro e w17 hgv
   rcases hp : blockF f2 d r8 [] with ⟨B8, r9⟩ | ⟨n9, t9⟩
   rotate_left
   ·rw [hp] at hgv
    obtain ⟨rfl, hg⟩ := hgv
    have hq := HR334.out
    rw [hp] at hq
    go_wp2
    exact ⟨rfl, Gv.badOf hq.symm (gr_trans G414.out hg)⟩
   rw [hp] at hgv
   obtain ⟨⟨v9, rfl, hG⟩, hP9, hr9, hg⟩ := hgv
   have hq := HR334.out
   rw [hp] at hq
   try rw [bind_okE] at hq
   have HR418 := Lib.hid hq
   clear hq HR334
   have P419 := Lib.hid hP9
   have R420 := Lib.hid hr9
   have X421 := hbx hg (by have z := Z415.out; omega) X405
   clear X405
   have X422 := hbx hg (by have z := Z415.out; omega) X406
   clear X406
   have E423 := Lib.hid (BlksB.kept (kept_ny hg (Or.imp_right Or.inl (by have z := Z415.out; omega)) (by have z := Z415.out; omega)) E407.out)
   clear E407
   have E424 := hkExB hg (by have z := Z415.out; omega) E408
   clear E408
   have E425 := hkRB hg (by have z := Z415.out; omega) E409
   clear E409
   have E426 := Lib.hid (LabsB.kept (kept_ny hg (Or.imp_right Or.inl (by have z := Z415.out; omega)) (by have z := Z415.out; omega)) E410.out)
   clear E410
   have E427 := hkRB hg (by have z := Z415.out; omega) E404
   clear E404
   have O428 := Lib.hid (Ow.gr O411.out hg (by have z := Z415.out; omega))
   clear O411
   have O429 := Lib.hid (Ow.gr O412.out hg (by have z := Z415.out; omega))
   clear O412
   clear P413
   have G430 := Lib.hid (gr_trans G414.out hg)
   clear G414
   have Z431 := hzz hg Z415
   clear hg hP9 hr9 R336
   obtain ⟨s432, rfl, hE9⟩ := hG
   have E433 := Lib.hid hE9
   clear hE9
   clear E427
   have LB : Hid (r9.length < r8.length + 1) := by
    have := FI.out
    rw [hp] at this
    exact Lib.hid this
   clear FI hp
   go_wp2_with fail
   refine hK.out _ _ X422.out (fun hHeld => ?_)
   clear hK K
   try simp only [Act.put, List.setIfInBounds_toArray, List.set_cons_zero, List.set_cons_succ, List.getElem_toArray, List.getElem_cons_succ, List.getElem_cons_zero]
   refine wpAnyT_ready (rs := [5]) (by kernel_rfl) (by simp) ?_
   refine AllReadyT.cons rfl (fun K hK => ?_) AllReadyT.nil
   refine t_slice1 (enc := slC) (z := 1) s432 42 24 28 (Sl.v s432) (slC s432).toArray rfl rfl rfl (bs_L s432) rfl ?_
   intro w18 hrb hb1 hz1
   have HRB := Lib.hid hrb
   have HB1 := Lib.hid hb1
   have HZ1 := Lib.hid hz1
   clear hrb hb1 hz1
   have hg := gr_of (row := some w17.heap.size) HB1.out
   have Z435 := Lib.hid (And.intro HZ1.out Z431.out)
   have E436 := HRB
   clear HZ1 HRB
   have X437 := hbx hg (by have z := Z431.out; omega) X421
   clear X421
   have X438 := hbx hg (by have z := Z431.out; omega) X422
   clear X422
   have E439 := Lib.hid (BlksB.kept (kept_ny hg (Or.imp_right Or.inl (by have z := Z431.out; omega)) (by have z := Z431.out; omega)) E423.out)
   clear E423
   have E440 := hkExB hg (by have z := Z431.out; omega) E424
   clear E424
   have E441 := hkRB hg (by have z := Z431.out; omega) E425
   clear E425
   have E442 := Lib.hid (LabsB.kept (kept_ny hg (Or.imp_right Or.inl (by have z := Z431.out; omega)) (by have z := Z431.out; omega)) E426.out)
   clear E426
   have E443 := hkStLB hg (by have z := Z431.out; omega) E433
   clear E433
   have O444 := Lib.hid (Ow.gr O428.out hg (by have z := Z431.out; omega))
   clear O428
   have O445 := Lib.hid (Ow.gr O429.out hg (by have z := Z431.out; omega))
   clear O429
   have P446 := Lib.hid (P419.out.gr hg (by have z := Z431.out; omega))
   clear P419
   have G447 := hgt hg G430 (fun _ => by have z := Z431.out; omega)
   clear G430
   have Z448 := hzz hg Z435
   clear hg HB1
   refine hK.out _ _ X438.out (fun hHeld => ?_)
   clear hK K
   try simp only [Act.put, List.setIfInBounds_toArray, List.set_cons_zero, List.set_cons_succ, List.getElem_toArray, List.getElem_cons_succ, List.getElem_cons_zero]
   have LM := Lib.hid (show BH.length + [s432].length ≤ 20000 by have := blksB_len E439.out; have := HL2.out; have := HL.out; simp only [List.length_cons, List.length_nil]; omega)
   refine wpAnyT_ready (rs := [6]) (by kernel_rfl) (by simp) ?_
   refine AllReadyT.cons rfl (fun K hK => ?_) AllReadyT.nil
   have Z450 := Lib.hid (And.intro (show w7.heap.size ≤ w18.heap.size from (by have z := Z448.out; omega)) Z448.out)
   refine step_append_row slC_len (by decide) slC_one blks_slice blk_info rfl (by decide) _ rfl (.tmp 25) (.tmp 29) rfl w7.heap.size (Sl.v Bs) BH rfl O445.out (w17.heap.size + 1) (some ⟨w17.heap.size, 0, none⟩) 1 1 [s432] rfl (RB.toAt (fun b hb => hb.2) E436.out) LM.out Z450.out.1 ?_
   intro v8 w19 hown hgA hat
   have HOWN := Lib.hid hown
   have HGA := Lib.hid hgA
   have HAT := Lib.hid hat
   clear hown hgA hat
   obtain ⟨S451, hsv⟩ := Ow.sl slC_len HOWN.out
   subst hsv
   obtain ⟨q9, hq1, hq2, hg⟩ := grow_q O445.out (by have z := Z450.out; omega) HGA.out
   have HQ2 := Lib.hid hq2
   have Z452 := Lib.hid (And.intro hq1 Z450.out)
   have Z453 := Lib.hid (And.intro (show q9 < wr.heap.size ∨ w18.heap.size ≤ q9 from hq2.imp (fun e => (Ow.lt OH2.out e).2) id) Z452.out)
   clear hq1 hq2
   have HOB454 := Lib.hid (show ∀ q0, (Sl.v S451).ownBlock = some q0 → q0 < wr.heap.size ∨ w18.heap.size ≤ q0 from fun q0 e0 => HAT.out.elim (fun h => .inl (Ow.lt OH2.out (h.symm.trans e0)).2) (fun h => .inr (by rw [h] at e0; injection e0 with e0; omega)))
   have E455 := Lib.hid (BlksB.kept (kept_ny hg (HQ2.out.elim (fun e => .inr (.inr ⟨(Sl.v Bs), by simp, e⟩)) (fun h => .inr (.inl (by have z := Z453.out; omega)))) (by have z := Z453.out; omega)) E439.out)
   have E456 := Lib.hid (BlksB.kept (ny_ny (O := [(Sl.v S361), (Sl.v Bs)]) (O' := [(Sl.v S361), (Sl.v S451)]) (Nat.le_refl _) (Nat.le_refl _) (by
    intro v0 hv0 q0 e0 hq0
    simp only [List.mem_cons, List.not_mem_nil, or_false] at hv0
    rcases hv0 with rfl | rfl
    ·exact ⟨_, by simp, e0⟩
    ·rcases HAT.out with h | h
     ·exact ⟨_, by simp, h.symm.trans e0⟩
     ·rw [h] at e0; injection e0 with e0; exfalso; have z := Z453.out; omega)) E455.out)
   clear E439 E455
   have E457 := Lib.hid (LabsB.kept (kept_ny hg (HQ2.out.elim (fun e => .inr (.inr ⟨(Sl.v Bs), by simp, e⟩)) (fun h => .inr (.inl (by have z := Z453.out; omega)))) (by have z := Z453.out; omega)) E442.out)
   have E458 := Lib.hid (LabsB.kept (ny_ny (O := [(Sl.v S361), (Sl.v Bs)]) (O' := [(Sl.v S361), (Sl.v S451)]) (Nat.le_refl _) (Nat.le_refl _) (by
    intro v0 hv0 q0 e0 hq0
    simp only [List.mem_cons, List.not_mem_nil, or_false] at hv0
    rcases hv0 with rfl | rfl
    ·exact ⟨_, by simp, e0⟩
    ·rcases HAT.out with h | h
     ·exact ⟨_, by simp, h.symm.trans e0⟩
     ·rw [h] at e0; injection e0 with e0; exfalso; have z := Z453.out; omega)) E457.out)
   clear E442 E457
   have O459 := Lib.hid (Ow.gr2 O444.out hg (HQ2.out.elim (fun e => Ow.apart O445.out O444.out (by decide) e) (fun h e2 => by have h9 := (Ow.lt O444.out e2).2; have z := Z453.out; omega)))
   clear O444
   have X460 := hbx hg (by have z := Z453.out; omega) X437
   clear X437
   have X461 := hbx hg (by have z := Z453.out; omega) X438
   clear X438
   have E462 := hkExB hg (by have z := Z453.out; omega) E440
   clear E440
   have E463 := hkRB hg (by have z := Z453.out; omega) E441
   clear E441
   have E464 := hkStLB hg (by have z := Z453.out; omega) E443
   clear E443
   have E465 := hkRB hg (by have z := Z453.out; omega) E436
   clear E436
   have P466 := Lib.hid (P446.out.gr hg (by have z := Z453.out; omega))
   clear P446
   have G467 := hgt hg G447 (fun _ => by have z := Z453.out; omega)
   clear G447
   have Z468 := hzz hg Z453
   have O469 := HOWN
   clear hg HOWN HGA HQ2 HAT O445
   refine hK.out _ _ X461.out (fun hHeld => ?_)
   clear hK K
   try simp only [Act.put, List.setIfInBounds_toArray, List.set_cons_zero, List.set_cons_succ, List.getElem_toArray, List.getElem_cons_succ, List.getElem_cons_zero]
   refine wpAnyT_take (i := 7) (v := ?_) rfl (by kernel_rfl) (by kernel_rfl) (by kernel_rfl) (fun _ _ _ h => h) (Or.inl ⟨by rfl, ?_⟩) (by assumption) ?_
   rotate_left 1
   ·intro w_ hSw; clear hSw; go_simp <;> (with_reducible rfl)
   try simp only [Act.put, List.setIfInBounds_toArray, List.set_cons_zero, List.set_cons_succ, List.getElem_toArray, List.getElem_cons_succ, List.getElem_cons_zero]
   refine wpAnyT_ready (rs := [8]) (by kernel_rfl) (by simp) ?_
   refine AllReadyT.spoilt rfl (by kernel_rfl) (fun K hK => ?_) AllReadyT.nil
   refine t_set1 (j := 17) X461.out (show 17 < 19 by decide) 42 31 30 rfl rfl rfl (Sl.v S451) rfl rfl (by first | rfl | (cases S451; rfl)) (by kernel_rfl) ?_
   intro w20 hx hg hs
   have hx : Box w20 (w5.heap.size) 0 (sC ⟨3, [], ⟨0, 0, [], [], ⟨none, 0, 0⟩, 0⟩, h13, ⟨none, 0, 0⟩, S361, ⟨none, 0, 0⟩, S451, 0⟩) := hx
   have X470 := Lib.hid hx
   have Z471 := Lib.hid (And.intro hs Z468.out)
   clear hx hs X461
   have X472 := hbx hg (by have z := Z468.out; omega) X460
   clear X460
   have E473 := Lib.hid (BlksB.kept (kept_ny hg (Or.imp_right Or.inl (by have z := Z468.out; omega)) (by have z := Z468.out; omega)) E456.out)
   clear E456
   have E474 := hkExB hg (by have z := Z468.out; omega) E462
   clear E462
   have E475 := hkRB hg (by have z := Z468.out; omega) E463
   clear E463
   have E476 := Lib.hid (LabsB.kept (kept_ny hg (Or.imp_right Or.inl (by have z := Z468.out; omega)) (by have z := Z468.out; omega)) E458.out)
   clear E458
   have E477 := hkStLB hg (by have z := Z468.out; omega) E464
   clear E464
   have E478 := hkRB hg (by have z := Z468.out; omega) E465
   clear E465
   have O479 := Lib.hid (Ow.gr O459.out hg (by have z := Z468.out; omega))
   clear O459
   have O480 := Lib.hid (Ow.gr O469.out hg (by have z := Z468.out; omega))
   clear O469
   have P481 := Lib.hid (P466.out.gr hg (by have z := Z468.out; omega))
   clear P466
   have G482 := hgt hg G467 (fun _ => by have z := Z468.out; omega)
   clear G467
   have Z483 := hzz hg Z471
   clear hg
   refine hK.out _ _ ?_
   clear hK K
   try simp only [Act.put, List.setIfInBounds_toArray, List.set_cons_zero, List.set_cons_succ, List.getElem_toArray, List.getElem_cons_succ, List.getElem_cons_zero]
   refine wpAnyT_done (by kernel_rfl) ?_ _
   clear LM
   have EB := Lib.hid (BlksB.snoc (StLB.kept (nw_ny (b' := w20.heap.size) (O := [(Sl.v S361), (Sl.v S451)]) (by have z := Z483.out; omega) (by have z := Z483.out; omega) (by
    intro v0 hv0 q0 e0
    simp only [List.mem_cons, List.not_mem_nil, or_false] at hv0
    rcases hv0 with rfl | rfl
    ·have h9 := HOB417.out q0 e0; have z := Z483.out; omega
    ·have h9 := HOB454.out q0 e0; have z := Z483.out; omega)) E477.out) (BlksB.kept (ny_ny (O := [(Sl.v S361), (Sl.v S451)]) (O' := [(Sl.v S361), (Sl.v S451)]) (Nat.le_refl _) (by have z := Z483.out; omega) (fun v hv q e hq => ⟨v, hv, e⟩)) E473.out))
   clear E473 E477
   go_wp2_with fail
   go_roundw
   case rel => exact ⟨_, _, _, _, _, _, r9, f2, HR418.out, (by have z := Z483.out; have := HFC.out; have := HLR.out; have := L8.out; have := LB.out; have := HL1.out; have := HL2.out; omega), (by have z := Z483.out; have := HFC2.out; omega), (by have z := Z483.out; have := HLR.out; have := L8.out; have := LB.out; have := HL1.out; have := HL2.out; simp only [List.length_append, List.length_cons, List.length_nil]; omega), (by have z := Z483.out; have := HLR.out; have := L8.out; have := LB.out; have := HL1.out; have := HL2.out; simp only [List.length_append, List.length_cons, List.length_nil]; omega), R420.out, P481.out, X472.out, X470.out, O479.out, O480.out, (LabsB.kept (ny_ny (O := [(Sl.v S361), (Sl.v S451)]) (O' := [(Sl.v S361), (Sl.v S451)]) (Nat.le_refl _) (by have z := Z483.out; omega) (fun v hv q e hq => ⟨v, hv, e⟩)) E476.out), (BlksB.kept (ny_ny (O := [(Sl.v S361), (Sl.v S451)]) (O' := [(Sl.v S361), (Sl.v S451)]) (Nat.le_refl _) (by have z := Z483.out; omega) (fun v hv q e hq => ⟨v, hv, e⟩)) EB.out), E474.out, G482.out, (by have z := Z483.out; omega)⟩
   case measure => rw [NLEN.out, P481.out.len]; have z := Z483.out; have := HLR.out; have := L8.out; have := LB.out; have := HL1.out; have := HL2.out; omega
  have hq := HR.out
  rw [caseF, if_neg (fun h => h.elim hk hw)] at hq
  have HR301 := Lib.hid hq
  clear hq HR
  have HA := Lib.hid (fun W (h : Par W g r' V d) => head_any h R1.out)
  unfold sv at HA
  have q0 : ((⟨(headS (tr.hd (r'))).toArray⟩ : ByteArray).toList == [110, 117, 109, 98, 101, 114]) = false := by rw [ByteArray.toList_eq]; exact (beq_eq_false_iff_ne.2 (mt ((headS_kind R1.out).2.1).1 hk))
  have q1 : ((⟨(headS (tr.hd (r'))).toArray⟩ : ByteArray).toList == [45]) = false := by rw [ByteArray.toList_eq]; exact beq_eq_false_iff_ne.2 (mt (headS_txt R1.out (by decide) (by decide) (by decide) (by decide)).1 hw)
  generalize (⟨(headS (tr.hd (r'))).toArray⟩ : ByteArray) = XH at *
  go_wp2_with (go_at_call 28; fail)
  refine (HA.out _ P1.out).mono ?_
  rintro e w8 ⟨rfl, hb⟩
  have hg := gr_of (row := some wr.heap.size) hb
  have X302 := hbx hg (by have z := ZS.out; omega) X1
  clear X1
  have X303 := hbx hg (by have z := ZS.out; omega) X2
  clear X2
  have E304 := Lib.hid (LabsB.kept (kept_ny hg (Or.imp_right Or.inl (by have z := ZS.out; omega)) (by have z := ZS.out; omega)) E1.out)
  clear E1
  have E305 := Lib.hid (BlksB.kept (kept_ny hg (Or.imp_right Or.inl (by have z := ZS.out; omega)) (by have z := ZS.out; omega)) E2.out)
  clear E2
  have E306 := hkExB hg (by have z := ZS.out; omega) E3
  clear E3
  have O307 := Lib.hid (Ow.gr O1.out hg (by have z := ZS.out; omega))
  clear O1
  have O308 := Lib.hid (Ow.gr O2.out hg (by have z := ZS.out; omega))
  clear O2
  have P309 := Lib.hid (P1.out.gr hg (by have z := ZS.out; omega))
  clear P1
  have G310 := hgt hg G1 (fun _ => by have z := ZS.out; omega)
  clear G1
  have Z311 := hzz hg ZS
  clear hg hb
  go_wp2_with (go_at_call 28; fail)
  refine (HA.out _ P309.out).mono ?_
  rintro e w9 ⟨rfl, hb⟩
  have hg := gr_of (row := some w8.heap.size) hb
  have X312 := hbx hg (by have z := Z311.out; omega) X302
  clear X302
  have X313 := hbx hg (by have z := Z311.out; omega) X303
  clear X303
  have E314 := Lib.hid (LabsB.kept (kept_ny hg (Or.imp_right Or.inl (by have z := Z311.out; omega)) (by have z := Z311.out; omega)) E304.out)
  clear E304
  have E315 := Lib.hid (BlksB.kept (kept_ny hg (Or.imp_right Or.inl (by have z := Z311.out; omega)) (by have z := Z311.out; omega)) E305.out)
  clear E305
  have E316 := hkExB hg (by have z := Z311.out; omega) E306
  clear E306
  have O317 := Lib.hid (Ow.gr O307.out hg (by have z := Z311.out; omega))
  clear O307
  have O318 := Lib.hid (Ow.gr O308.out hg (by have z := Z311.out; omega))
  clear O308
  have P319 := Lib.hid (P309.out.gr hg (by have z := Z311.out; omega))
  clear P309
  have G320 := hgt hg G310 (fun _ => by have z := Z311.out; omega)
  clear G310
  have Z321 := hzz hg Z311
  clear hg hb
  clear HA
  by_cases hw2 : txt r' = [69, 76, 83, 69]
  ·skip
   have hq := HR301.out
   rw [if_pos hw2] at hq
   simp only [bind_bind, bind_okE] at hq
   have HR322 := Lib.hid hq
   clear hq HR301
   have hl0 := drop_len r'
   have HLD := Lib.hid hl0
   clear hl0
   have R323 := Lib.hid (R1.out.drop (txt_kind hw2 (by decide)))
   go_wp2_with (go_at_call 32; fail)
   refine (take_yes P319.out R1.out ((headS_txt R1.out (by decide) (by decide) (by decide) (by decide)).2 hw2) (txt_kind hw2 (by decide))).mono ?_
   rintro e w10 ⟨rfl, hp, hg⟩
   have P324 := Lib.hid hp
   have X325 := hbx hg (by have z := Z321.out; omega) X312
   clear X312
   have X326 := hbx hg (by have z := Z321.out; omega) X313
   clear X313
   have E327 := Lib.hid (LabsB.kept (kept_ny hg (Or.imp_right Or.inl (by have z := Z321.out; omega)) (by have z := Z321.out; omega)) E314.out)
   clear E314
   have E328 := Lib.hid (BlksB.kept (kept_ny hg (Or.imp_right Or.inl (by have z := Z321.out; omega)) (by have z := Z321.out; omega)) E315.out)
   clear E315
   have E329 := hkExB hg (by have z := Z321.out; omega) E316
   clear E316
   have O330 := Lib.hid (Ow.gr O317.out hg (by have z := Z321.out; omega))
   clear O317
   have O331 := Lib.hid (Ow.gr O318.out hg (by have z := Z321.out; omega))
   clear O318
   clear P319
   have G332 := Lib.hid (gr_trans G320.out hg)
   clear G320
   have Z333 := hzz hg Z321
   clear hg hp
   clear R1
   generalize ((r').drop 1) = r334 at *
   go_upto_region 7 with (fail)
   refine wp_region_T (by kernel_rfl) (fun w' => Box w' (w5.heap.size) 0 (sC ⟨3, [], ⟨0, 0, [], [], ⟨none, 0, 0⟩, 0⟩, h13, ⟨none, 0, 0⟩, Ls, ⟨none, 0, 0⟩, Bs, 0⟩)) [8] (box_drew X326.out) (fun hHeld => ?_)
   have hb := (Below.refl w10.heap.size w10).drew
   generalize w10.drew = w11 at *
   have hg := gr_of (row := some w10.heap.size) hb
   have X335 := hbx hg (by have z := Z333.out; omega) X325
   clear X325
   have X336 := hbx hg (by have z := Z333.out; omega) X326
   clear X326
   have E337 := Lib.hid (LabsB.kept (kept_ny hg (Or.imp_right Or.inl (by have z := Z333.out; omega)) (by have z := Z333.out; omega)) E327.out)
   clear E327
   have E338 := Lib.hid (BlksB.kept (kept_ny hg (Or.imp_right Or.inl (by have z := Z333.out; omega)) (by have z := Z333.out; omega)) E328.out)
   clear E328
   have E339 := hkExB hg (by have z := Z333.out; omega) E329
   clear E329
   have O340 := Lib.hid (Ow.gr O330.out hg (by have z := Z333.out; omega))
   clear O330
   have O341 := Lib.hid (Ow.gr O331.out hg (by have z := Z333.out; omega))
   clear O331
   have P342 := Lib.hid (P324.out.gr hg (by have z := Z333.out; omega))
   clear P324
   have G343 := hgt hg G332 (fun _ => by have z := Z333.out; omega)
   clear G332
   have Z344 := hzz hg Z333
   clear hg hb
   refine wpAnyT_take (i := 0) (v := ?_) rfl (by kernel_rfl) (by kernel_rfl) (by kernel_rfl) (fun _ _ _ h => h) (Or.inl ⟨by rfl, ?_⟩) (by assumption) ?_
   rotate_left 1
   ·intro w_ hSw; clear hSw; go_simp <;> (with_reducible rfl)
   try simp only [Act.put, List.setIfInBounds_toArray, List.set_cons_zero, List.set_cons_succ, List.getElem_toArray, List.getElem_cons_succ, List.getElem_cons_zero]
   refine wpAnyT_take (i := 1) (v := ?_) rfl (by kernel_rfl) (by kernel_rfl) (by kernel_rfl) (fun _ _ _ h => h) (Or.inl ⟨by rfl, ?_⟩) (by assumption) ?_
   rotate_left 1
   ·intro w_ hSw; obtain ⟨c17, _⟩ := cell_of hSw (i := 17) rfl; go_simp <;> (with_reducible rfl)
   try simp only [Act.put, List.setIfInBounds_toArray, List.set_cons_zero, List.set_cons_succ, List.getElem_toArray, List.getElem_cons_succ, List.getElem_cons_zero]
   refine wpAnyT_take (i := 2) (v := ?_) rfl (by kernel_rfl) (by kernel_rfl) (by kernel_rfl) (fun _ _ _ h => h) (Or.inl ⟨by rfl, ?_⟩) (by assumption) ?_
   rotate_left 1
   ·intro w_ hSw; clear hSw; go_simp <;> (with_reducible rfl)
   try simp only [Act.put, List.setIfInBounds_toArray, List.set_cons_zero, List.set_cons_succ, List.getElem_toArray, List.getElem_cons_succ, List.getElem_cons_zero]
   refine wpAnyT_ready (rs := [3]) (by kernel_rfl) (by simp) ?_
   refine AllReadyT.cons rfl (fun K hK => ?_) AllReadyT.nil
   go_simp
   have hb := (Below.refl w11.heap.size w11).alloc (Nat.le_refl _) (.cells #[.string ⟨#[69, 78, 68, 95, 67, 65, 83, 69]⟩] 9)
   have hR : RB tC1 1 (w11.alloc (.cells #[.string ⟨#[69, 78, 68, 95, 67, 65, 83, 69]⟩] 9)) (Nw w11.heap.size (w11.heap.size + 1)) ⟨some ⟨w11.heap.size, 0, none⟩, 1, 1⟩ [[69, 78, 68, 95, 67, 65, 83, 69]] := rb_many w11 9 [[69, 78, 68, 95, 67, 65, 83, 69]] #[.string ⟨#[69, 78, 68, 95, 67, 65, 83, 69]⟩] rfl (Nat.le_refl _) (Nat.le_refl _)
   have hz : (w11.alloc (.cells #[.string ⟨#[69, 78, 68, 95, 67, 65, 83, 69]⟩] 9)).heap.size = w11.heap.size + 1 := by simp
   generalize w11.alloc (.cells #[.string ⟨#[69, 78, 68, 95, 67, 65, 83, 69]⟩] 9) = w12 at *
   have hg := gr_of (row := some w11.heap.size) hb
   have HZ1 := Lib.hid hz
   have HRB := Lib.hid hR
   clear hb hR hz
   have Z345 := Lib.hid (And.intro HZ1.out Z344.out)
   have E346 := HRB
   clear HZ1 HRB
   have X347 := hbx hg (by have z := Z344.out; omega) X335
   clear X335
   have X348 := hbx hg (by have z := Z344.out; omega) X336
   clear X336
   have E349 := Lib.hid (LabsB.kept (kept_ny hg (Or.imp_right Or.inl (by have z := Z344.out; omega)) (by have z := Z344.out; omega)) E337.out)
   clear E337
   have E350 := Lib.hid (BlksB.kept (kept_ny hg (Or.imp_right Or.inl (by have z := Z344.out; omega)) (by have z := Z344.out; omega)) E338.out)
   clear E338
   have E351 := hkExB hg (by have z := Z344.out; omega) E339
   clear E339
   have O352 := Lib.hid (Ow.gr O340.out hg (by have z := Z344.out; omega))
   clear O340
   have O353 := Lib.hid (Ow.gr O341.out hg (by have z := Z344.out; omega))
   clear O341
   have P354 := Lib.hid (P342.out.gr hg (by have z := Z344.out; omega))
   clear P342
   have G355 := hgt hg G343 (fun _ => by have z := Z344.out; omega)
   clear G343
   have Z356 := hzz hg Z345
   clear hg
   refine hK.out _ _ X348.out (fun hHeld => ?_)
   clear hK K
   try simp only [Act.put, List.setIfInBounds_toArray, List.set_cons_zero, List.set_cons_succ, List.getElem_toArray, List.getElem_cons_succ, List.getElem_cons_zero]
   refine wpAnyT_ready (rs := [4]) (by kernel_rfl) (by simp) ?_
   refine AllReadyT.cons rfl (fun K hK => ?_) AllReadyT.nil
   have FI := Lib.hid (fin_stmts (d := d) (f := f2) (r := r334) (ends := [[69, 78, 68, 95, 67, 65, 83, 69]]) (ac := []) (by have z := Z356.out; have := HFC.out; have := HFC2.out; have := HLD.out; have := HLR.out; have := HL1.out; omega))
   have HOB358 := Lib.hid (show ∀ q0, (Sl.v Ls).ownBlock = some q0 → q0 < w12.heap.size from fun q0 e0 => (Ow.lt O352.out e0).2)
   go_simp
   go_at_call 20
   refine (HBB.out f2 [[69, 78, 68, 95, 67, 65, 83, 69]] r334 (by have z := Z356.out; have := HFC.out; have := HFC2.out; have := HLD.out; have := HLR.out; have := HL1.out; omega) (by decide) R323.out (by have z := Z356.out; have := HFC.out; have := HFC2.out; have := HLD.out; have := HLR.out; have := HL1.out; omega) (by have z := Z356.out; have := HFC.out; have := HFC2.out; have := HLD.out; have := HLR.out; have := HL1.out; omega) _ _ _ _ P354.out (by have z := Z356.out; omega) (by have z := Z356.out; omega) E346.out).mono ?_
   rintro e w13 hgv
   rcases hp : stmtsF f2 d [[69, 78, 68, 95, 67, 65, 83, 69]] r334 [] with ⟨B8, r8⟩ | ⟨n9, t9⟩
   rotate_left
   ·rw [hp] at hgv
    obtain ⟨rfl, hg⟩ := hgv
    have hq := HR322.out
    rw [hp] at hq
    go_wp2
    exact ⟨rfl, Gv.badOf hq.symm (gr_trans G355.out hg)⟩
   rw [hp] at hgv
   obtain ⟨⟨v9, rfl, hG⟩, hP9, hr9, hg⟩ := hgv
   have hq := HR322.out
   rw [hp] at hq
   try rw [bind_okE] at hq
   have HR359 := Lib.hid hq
   clear hq HR322
   have P360 := Lib.hid hP9
   have R361 := Lib.hid hr9
   have X362 := hbx hg (by have z := Z356.out; omega) X347
   clear X347
   have X363 := hbx hg (by have z := Z356.out; omega) X348
   clear X348
   have E364 := Lib.hid (LabsB.kept (kept_ny hg (Or.imp_right Or.inl (by have z := Z356.out; omega)) (by have z := Z356.out; omega)) E349.out)
   clear E349
   have E365 := Lib.hid (BlksB.kept (kept_ny hg (Or.imp_right Or.inl (by have z := Z356.out; omega)) (by have z := Z356.out; omega)) E350.out)
   clear E350
   have E366 := hkExB hg (by have z := Z356.out; omega) E351
   clear E351
   have E367 := hkRB hg (by have z := Z356.out; omega) E346
   clear E346
   have O368 := Lib.hid (Ow.gr O352.out hg (by have z := Z356.out; omega))
   clear O352
   have O369 := Lib.hid (Ow.gr O353.out hg (by have z := Z356.out; omega))
   clear O353
   clear P354
   have G370 := Lib.hid (gr_trans G355.out hg)
   clear G355
   have Z371 := hzz hg Z356
   clear hg hP9 hr9 R323
   obtain ⟨s372, rfl, hE9⟩ := hG
   have E373 := Lib.hid hE9
   clear hE9
   clear E367
   have LB : Hid (r8.length < r334.length + 1) := by
    have := FI.out
    rw [hp] at this
    exact Lib.hid this
   clear FI hp
   go_wp2_with fail
   refine hK.out _ _ X363.out (fun hHeld => ?_)
   clear hK K
   try simp only [Act.put, List.setIfInBounds_toArray, List.set_cons_zero, List.set_cons_succ, List.getElem_toArray, List.getElem_cons_succ, List.getElem_cons_zero]
   refine wpAnyT_ready (rs := [5]) (by kernel_rfl) (by simp) ?_
   refine AllReadyT.cons rfl (fun K hK => ?_) AllReadyT.nil
   refine t_slice1 (enc := slC) (z := 1) s372 42 24 38 (Sl.v s372) (slC s372).toArray rfl rfl rfl (bs_L s372) rfl ?_
   intro w14 hrb hb1 hz1
   have HRB := Lib.hid hrb
   have HB1 := Lib.hid hb1
   have HZ1 := Lib.hid hz1
   clear hrb hb1 hz1
   have hg := gr_of (row := some w13.heap.size) HB1.out
   have Z375 := Lib.hid (And.intro HZ1.out Z371.out)
   have E376 := HRB
   clear HZ1 HRB
   have X377 := hbx hg (by have z := Z371.out; omega) X362
   clear X362
   have X378 := hbx hg (by have z := Z371.out; omega) X363
   clear X363
   have E379 := Lib.hid (LabsB.kept (kept_ny hg (Or.imp_right Or.inl (by have z := Z371.out; omega)) (by have z := Z371.out; omega)) E364.out)
   clear E364
   have E380 := Lib.hid (BlksB.kept (kept_ny hg (Or.imp_right Or.inl (by have z := Z371.out; omega)) (by have z := Z371.out; omega)) E365.out)
   clear E365
   have E381 := hkExB hg (by have z := Z371.out; omega) E366
   clear E366
   have E382 := hkStLB hg (by have z := Z371.out; omega) E373
   clear E373
   have O383 := Lib.hid (Ow.gr O368.out hg (by have z := Z371.out; omega))
   clear O368
   have O384 := Lib.hid (Ow.gr O369.out hg (by have z := Z371.out; omega))
   clear O369
   have P385 := Lib.hid (P360.out.gr hg (by have z := Z371.out; omega))
   clear P360
   have G386 := hgt hg G370 (fun _ => by have z := Z371.out; omega)
   clear G370
   have Z387 := hzz hg Z375
   clear hg HB1
   refine hK.out _ _ X378.out (fun hHeld => ?_)
   clear hK K
   try simp only [Act.put, List.setIfInBounds_toArray, List.set_cons_zero, List.set_cons_succ, List.getElem_toArray, List.getElem_cons_succ, List.getElem_cons_zero]
   have LM := Lib.hid (show BH.length + [s372].length ≤ 20000 by have := blksB_len E380.out; have := HL2.out; have := HL.out; simp only [List.length_cons, List.length_nil]; omega)
   refine wpAnyT_ready (rs := [6]) (by kernel_rfl) (by simp) ?_
   refine AllReadyT.cons rfl (fun K hK => ?_) AllReadyT.nil
   have Z389 := Lib.hid (And.intro (show w7.heap.size ≤ w14.heap.size from (by have z := Z387.out; omega)) Z387.out)
   refine step_append_row slC_len (by decide) slC_one blks_slice blk_info rfl (by decide) _ rfl (.tmp 35) (.tmp 39) rfl w7.heap.size (Sl.v Bs) BH rfl O384.out (w13.heap.size + 1) (some ⟨w13.heap.size, 0, none⟩) 1 1 [s372] rfl (RB.toAt (fun b hb => hb.2) E376.out) LM.out Z389.out.1 ?_
   intro v8 w15 hown hgA hat
   have HOWN := Lib.hid hown
   have HGA := Lib.hid hgA
   have HAT := Lib.hid hat
   clear hown hgA hat
   obtain ⟨S390, hsv⟩ := Ow.sl slC_len HOWN.out
   subst hsv
   obtain ⟨q9, hq1, hq2, hg⟩ := grow_q O384.out (by have z := Z389.out; omega) HGA.out
   have HQ2 := Lib.hid hq2
   have Z391 := Lib.hid (And.intro hq1 Z389.out)
   have Z392 := Lib.hid (And.intro (show q9 < wr.heap.size ∨ w14.heap.size ≤ q9 from hq2.imp (fun e => (Ow.lt OH2.out e).2) id) Z391.out)
   clear hq1 hq2
   have HOB393 := Lib.hid (show ∀ q0, (Sl.v S390).ownBlock = some q0 → q0 < wr.heap.size ∨ w14.heap.size ≤ q0 from fun q0 e0 => HAT.out.elim (fun h => .inl (Ow.lt OH2.out (h.symm.trans e0)).2) (fun h => .inr (by rw [h] at e0; injection e0 with e0; omega)))
   have E394 := Lib.hid (LabsB.kept (kept_ny hg (HQ2.out.elim (fun e => .inr (.inr ⟨(Sl.v Bs), by simp, e⟩)) (fun h => .inr (.inl (by have z := Z392.out; omega)))) (by have z := Z392.out; omega)) E379.out)
   have E395 := Lib.hid (LabsB.kept (ny_ny (O := [(Sl.v Ls), (Sl.v Bs)]) (O' := [(Sl.v Ls), (Sl.v S390)]) (Nat.le_refl _) (Nat.le_refl _) (by
    intro v0 hv0 q0 e0 hq0
    simp only [List.mem_cons, List.not_mem_nil, or_false] at hv0
    rcases hv0 with rfl | rfl
    ·exact ⟨_, by simp, e0⟩
    ·rcases HAT.out with h | h
     ·exact ⟨_, by simp, h.symm.trans e0⟩
     ·rw [h] at e0; injection e0 with e0; exfalso; have z := Z392.out; omega)) E394.out)
   clear E379 E394
   have E396 := Lib.hid (BlksB.kept (kept_ny hg (HQ2.out.elim (fun e => .inr (.inr ⟨(Sl.v Bs), by simp, e⟩)) (fun h => .inr (.inl (by have z := Z392.out; omega)))) (by have z := Z392.out; omega)) E380.out)
   have E397 := Lib.hid (BlksB.kept (ny_ny (O := [(Sl.v Ls), (Sl.v Bs)]) (O' := [(Sl.v Ls), (Sl.v S390)]) (Nat.le_refl _) (Nat.le_refl _) (by
    intro v0 hv0 q0 e0 hq0
    simp only [List.mem_cons, List.not_mem_nil, or_false] at hv0
    rcases hv0 with rfl | rfl
    ·exact ⟨_, by simp, e0⟩
    ·rcases HAT.out with h | h
     ·exact ⟨_, by simp, h.symm.trans e0⟩
     ·rw [h] at e0; injection e0 with e0; exfalso; have z := Z392.out; omega)) E396.out)
   clear E380 E396
   have O398 := Lib.hid (Ow.gr2 O383.out hg (HQ2.out.elim (fun e => Ow.apart O384.out O383.out (by decide) e) (fun h e2 => by have h9 := (Ow.lt O383.out e2).2; have z := Z392.out; omega)))
   clear O383
   have X399 := hbx hg (by have z := Z392.out; omega) X377
   clear X377
   have X400 := hbx hg (by have z := Z392.out; omega) X378
   clear X378
   have E401 := hkExB hg (by have z := Z392.out; omega) E381
   clear E381
   have E402 := hkStLB hg (by have z := Z392.out; omega) E382
   clear E382
   have E403 := hkRB hg (by have z := Z392.out; omega) E376
   clear E376
   have P404 := Lib.hid (P385.out.gr hg (by have z := Z392.out; omega))
   clear P385
   have G405 := hgt hg G386 (fun _ => by have z := Z392.out; omega)
   clear G386
   have Z406 := hzz hg Z392
   have O407 := HOWN
   clear hg HOWN HGA HQ2 HAT O384
   refine hK.out _ _ X400.out (fun hHeld => ?_)
   clear hK K
   try simp only [Act.put, List.setIfInBounds_toArray, List.set_cons_zero, List.set_cons_succ, List.getElem_toArray, List.getElem_cons_succ, List.getElem_cons_zero]
   refine wpAnyT_take (i := 7) (v := ?_) rfl (by kernel_rfl) (by kernel_rfl) (by kernel_rfl) (fun _ _ _ h => h) (Or.inl ⟨by rfl, ?_⟩) (by assumption) ?_
   rotate_left 1
   ·intro w_ hSw; clear hSw; go_simp <;> (with_reducible rfl)
   try simp only [Act.put, List.setIfInBounds_toArray, List.set_cons_zero, List.set_cons_succ, List.getElem_toArray, List.getElem_cons_succ, List.getElem_cons_zero]
   refine wpAnyT_ready (rs := [8]) (by kernel_rfl) (by simp) ?_
   refine AllReadyT.spoilt rfl (by kernel_rfl) (fun K hK => ?_) AllReadyT.nil
   refine t_set1 (j := 17) X400.out (show 17 < 19 by decide) 42 41 40 rfl rfl rfl (Sl.v S390) rfl rfl (by first | rfl | (cases S390; rfl)) (by kernel_rfl) ?_
   intro w16 hx hg hs
   have hx : Box w16 (w5.heap.size) 0 (sC ⟨3, [], ⟨0, 0, [], [], ⟨none, 0, 0⟩, 0⟩, h13, ⟨none, 0, 0⟩, Ls, ⟨none, 0, 0⟩, S390, 0⟩) := hx
   have X408 := Lib.hid hx
   have Z409 := Lib.hid (And.intro hs Z406.out)
   clear hx hs X400
   have X410 := hbx hg (by have z := Z406.out; omega) X399
   clear X399
   have E411 := Lib.hid (LabsB.kept (kept_ny hg (Or.imp_right Or.inl (by have z := Z406.out; omega)) (by have z := Z406.out; omega)) E395.out)
   clear E395
   have E412 := Lib.hid (BlksB.kept (kept_ny hg (Or.imp_right Or.inl (by have z := Z406.out; omega)) (by have z := Z406.out; omega)) E397.out)
   clear E397
   have E413 := hkExB hg (by have z := Z406.out; omega) E401
   clear E401
   have E414 := hkStLB hg (by have z := Z406.out; omega) E402
   clear E402
   have E415 := hkRB hg (by have z := Z406.out; omega) E403
   clear E403
   have O416 := Lib.hid (Ow.gr O398.out hg (by have z := Z406.out; omega))
   clear O398
   have O417 := Lib.hid (Ow.gr O407.out hg (by have z := Z406.out; omega))
   clear O407
   have P418 := Lib.hid (P404.out.gr hg (by have z := Z406.out; omega))
   clear P404
   have G419 := hgt hg G405 (fun _ => by have z := Z406.out; omega)
   clear G405
   have Z420 := hzz hg Z409
   clear hg
   refine hK.out _ _ ?_
   clear hK K
   try simp only [Act.put, List.setIfInBounds_toArray, List.set_cons_zero, List.set_cons_succ, List.getElem_toArray, List.getElem_cons_succ, List.getElem_cons_zero]
   refine wpAnyT_done (by kernel_rfl) ?_ _
   clear LM
   by_cases hs421 : txt (r8) = [69, 78, 68, 95, 67, 65, 83, 69]
   rotate_left
   ·have hq := HR359.out
    rw [need_badE hs421] at hq
    go_wp2_with (go_at_call 18; fail)
    refine (need_no P418.out R361.out (mt (headS_txt R361.out (by decide) (by decide) (by decide) (by decide)).1 hs421)).mono ?_
    rintro e w17 ⟨rfl, hb⟩
    go_wp2
    exact ⟨rfl, Gv.badOf hq.symm (gr_trans G419.out (gr_of hb))⟩
   have hq := HR359.out
   rw [need_okE hs421, bind_okE] at hq
   have HR422 := Lib.hid hq
   clear hq HR359
   have R423 := Lib.hid (R361.out.drop (txt_kind hs421 (by decide)))
   go_wp2_with (go_at_call 18; fail)
   refine (need_yes P418.out R361.out ((headS_txt R361.out (by decide) (by decide) (by decide) (by decide)).2 hs421)).mono ?_
   rintro e w17 ⟨rfl, hp, hg⟩
   have P424 := Lib.hid hp
   have X425 := hbx hg (by have z := Z420.out; omega) X410
   clear X410
   have X426 := hbx hg (by have z := Z420.out; omega) X408
   clear X408
   have E427 := Lib.hid (LabsB.kept (kept_ny hg (Or.imp_right Or.inl (by have z := Z420.out; omega)) (by have z := Z420.out; omega)) E411.out)
   clear E411
   have E428 := Lib.hid (BlksB.kept (kept_ny hg (Or.imp_right Or.inl (by have z := Z420.out; omega)) (by have z := Z420.out; omega)) E412.out)
   clear E412
   have E429 := hkExB hg (by have z := Z420.out; omega) E413
   clear E413
   have E430 := hkStLB hg (by have z := Z420.out; omega) E414
   clear E414
   have E431 := hkRB hg (by have z := Z420.out; omega) E415
   clear E415
   have O432 := Lib.hid (Ow.gr O416.out hg (by have z := Z420.out; omega))
   clear O416
   have O433 := Lib.hid (Ow.gr O417.out hg (by have z := Z420.out; omega))
   clear O417
   clear P418
   have G434 := Lib.hid (gr_trans G419.out hg)
   clear G419
   have Z435 := hzz hg Z420
   clear hg hp
   clear R361
   generalize ((r8).drop 1) = r436 at *
   go_wp2_with (first | ((with_reducible refine m_load X426.out 44 3 ?_ ?_ ?_ ?_ ?_ ?_); rfl; rfl; rfl; rfl; kernel_rfl) | ((with_reducible refine m_store X425.out 44 2 44 ?_ ?_ ?_ (sC ⟨3, [], ⟨0, 0, [], [], ⟨none, 0, 0⟩, 0⟩, h13, ⟨none, 0, 0⟩, Ls, ⟨none, 0, 0⟩, S390, 0⟩) ?_ ?_ ?_ ?_ (sC_one _) ?_); rfl; rfl; rfl; rfl; rfl; rfl; kernel_rfl; intro w18 hx hg hs))
   have X437 := Lib.hid hx
   have Z438 := Lib.hid (And.intro hs Z435.out)
   clear hx hs X425
   have X439 := hbx hg (by have z := Z435.out; omega) X426
   clear X426
   have E440 := Lib.hid (LabsB.kept (kept_ny hg (Or.imp_right Or.inl (by have z := Z435.out; omega)) (by have z := Z435.out; omega)) E427.out)
   clear E427
   have E441 := Lib.hid (BlksB.kept (kept_ny hg (Or.imp_right Or.inl (by have z := Z435.out; omega)) (by have z := Z435.out; omega)) E428.out)
   clear E428
   have E442 := hkExB hg (by have z := Z435.out; omega) E429
   clear E429
   have E443 := hkStLB hg (by have z := Z435.out; omega) E430
   clear E430
   have E444 := hkRB hg (by have z := Z435.out; omega) E431
   clear E431
   have O445 := Lib.hid (Ow.gr O432.out hg (by have z := Z435.out; omega))
   clear O432
   have O446 := Lib.hid (Ow.gr O433.out hg (by have z := Z435.out; omega))
   clear O433
   have P447 := Lib.hid (P424.out.gr hg (by have z := Z435.out; omega))
   clear P424
   have G448 := hgt hg G434 (fun _ => by have z := Z435.out; omega)
   clear G434
   have Z449 := hzz hg Z438
   clear hg
   refine bodyPost_ret (k.results_cell rfl rfl (run_loadVar_mid _ w.heap.size 0 44 _ _ X437.out.range rfl rfl (by kernel_rfl))) rfl ?_
   refine Gv.okOf HR422.out.symm ⟨fun _ => rfl, ⟨3, [], ⟨0, 0, [], [], ⟨none, 0, 0⟩, 0⟩, h13, ⟨none, 0, 0⟩, Ls, ⟨none, 0, 0⟩, S390, 0⟩, rfl, ?_⟩ P447.out R423.out G448.out
   unfold StB
   exact ⟨rfl, rfl, rfl, zeroE_B _ _, (ExB.kept (more_nw (by have z := Z449.out; omega) (by have z := Z449.out; omega)) E442.out), ExLB.none_ _ _, ⟨LH, rb_own slC_len O445.out (by have z := Z449.out; omega) (Nat.le_refl _), (LabsB.kept (ny_nw (by have z := Z449.out; omega) (by have z := Z449.out; omega)) E440.out)⟩, RB.none_ _ _ _ _, _, rb_own slC_len O446.out (by have z := Z449.out; omega) (Nat.le_refl _), BlksB.snoc (StLB.kept (more_nw (by have z := Z449.out; omega) (by have z := Z449.out; omega)) E443.out) (BlksB.kept (ny_nw (by have z := Z449.out; omega) (by have z := Z449.out; omega)) E441.out)⟩
  ·skip
   have hq := HR301.out
   rw [if_neg hw2, bind_okE] at hq
   have HR322 := Lib.hid hq
   clear hq HR301
   go_wp2_with (go_at_call 32; fail)
   refine (take_no P319.out R1.out (mt (headS_txt R1.out (by decide) (by decide) (by decide) (by decide)).1 hw2)).mono ?_
   rintro e w10 ⟨rfl, hb⟩
   have hg := gr_of (row := some w9.heap.size) hb
   have X323 := hbx hg (by have z := Z321.out; omega) X312
   clear X312
   have X324 := hbx hg (by have z := Z321.out; omega) X313
   clear X313
   have E325 := Lib.hid (LabsB.kept (kept_ny hg (Or.imp_right Or.inl (by have z := Z321.out; omega)) (by have z := Z321.out; omega)) E314.out)
   clear E314
   have E326 := Lib.hid (BlksB.kept (kept_ny hg (Or.imp_right Or.inl (by have z := Z321.out; omega)) (by have z := Z321.out; omega)) E315.out)
   clear E315
   have E327 := hkExB hg (by have z := Z321.out; omega) E316
   clear E316
   have O328 := Lib.hid (Ow.gr O317.out hg (by have z := Z321.out; omega))
   clear O317
   have O329 := Lib.hid (Ow.gr O318.out hg (by have z := Z321.out; omega))
   clear O318
   have P330 := Lib.hid (P319.out.gr hg (by have z := Z321.out; omega))
   clear P319
   have G331 := hgt hg G320 (fun _ => by have z := Z321.out; omega)
   clear G320
   have Z332 := hzz hg Z321
   clear hg hb
   by_cases hs333 : txt (r') = [69, 78, 68, 95, 67, 65, 83, 69]
   rotate_left
   ·have hq := HR322.out
    rw [need_badE hs333] at hq
    go_wp2_with (go_at_call 18; fail)
    refine (need_no P330.out R1.out (mt (headS_txt R1.out (by decide) (by decide) (by decide) (by decide)).1 hs333)).mono ?_
    rintro e w11 ⟨rfl, hb⟩
    go_wp2
    exact ⟨rfl, Gv.badOf hq.symm (gr_trans G331.out (gr_of hb))⟩
   have hq := HR322.out
   rw [need_okE hs333, bind_okE] at hq
   have HR334 := Lib.hid hq
   clear hq HR322
   have R335 := Lib.hid (R1.out.drop (txt_kind hs333 (by decide)))
   go_wp2_with (go_at_call 18; fail)
   refine (need_yes P330.out R1.out ((headS_txt R1.out (by decide) (by decide) (by decide) (by decide)).2 hs333)).mono ?_
   rintro e w11 ⟨rfl, hp, hg⟩
   have P336 := Lib.hid hp
   have X337 := hbx hg (by have z := Z332.out; omega) X323
   clear X323
   have X338 := hbx hg (by have z := Z332.out; omega) X324
   clear X324
   have E339 := Lib.hid (LabsB.kept (kept_ny hg (Or.imp_right Or.inl (by have z := Z332.out; omega)) (by have z := Z332.out; omega)) E325.out)
   clear E325
   have E340 := Lib.hid (BlksB.kept (kept_ny hg (Or.imp_right Or.inl (by have z := Z332.out; omega)) (by have z := Z332.out; omega)) E326.out)
   clear E326
   have E341 := hkExB hg (by have z := Z332.out; omega) E327
   clear E327
   have O342 := Lib.hid (Ow.gr O328.out hg (by have z := Z332.out; omega))
   clear O328
   have O343 := Lib.hid (Ow.gr O329.out hg (by have z := Z332.out; omega))
   clear O329
   clear P330
   have G344 := Lib.hid (gr_trans G331.out hg)
   clear G331
   have Z345 := hzz hg Z332
   clear hg hp
   clear R1
   generalize ((r').drop 1) = r346 at *
   go_wp2_with (first | ((with_reducible refine m_load X338.out 44 3 ?_ ?_ ?_ ?_ ?_ ?_); rfl; rfl; rfl; rfl; kernel_rfl) | ((with_reducible refine m_store X337.out 44 2 44 ?_ ?_ ?_ (sC ⟨3, [], ⟨0, 0, [], [], ⟨none, 0, 0⟩, 0⟩, h13, ⟨none, 0, 0⟩, Ls, ⟨none, 0, 0⟩, Bs, 0⟩) ?_ ?_ ?_ ?_ (sC_one _) ?_); rfl; rfl; rfl; rfl; rfl; rfl; kernel_rfl; intro w12 hx hg hs))
   have X347 := Lib.hid hx
   have Z348 := Lib.hid (And.intro hs Z345.out)
   clear hx hs X337
   have X349 := hbx hg (by have z := Z345.out; omega) X338
   clear X338
   have E350 := Lib.hid (LabsB.kept (kept_ny hg (Or.imp_right Or.inl (by have z := Z345.out; omega)) (by have z := Z345.out; omega)) E339.out)
   clear E339
   have E351 := Lib.hid (BlksB.kept (kept_ny hg (Or.imp_right Or.inl (by have z := Z345.out; omega)) (by have z := Z345.out; omega)) E340.out)
   clear E340
   have E352 := hkExB hg (by have z := Z345.out; omega) E341
   clear E341
   have O353 := Lib.hid (Ow.gr O342.out hg (by have z := Z345.out; omega))
   clear O342
   have O354 := Lib.hid (Ow.gr O343.out hg (by have z := Z345.out; omega))
   clear O343
   have P355 := Lib.hid (P336.out.gr hg (by have z := Z345.out; omega))
   clear P336
   have G356 := hgt hg G344 (fun _ => by have z := Z345.out; omega)
   clear G344
   have Z357 := hzz hg Z348
   clear hg
   refine bodyPost_ret (k.results_cell rfl rfl (run_loadVar_mid _ w.heap.size 0 44 _ _ X347.out.range rfl rfl (by kernel_rfl))) rfl ?_
   refine Gv.okOf HR334.out.symm ⟨fun _ => rfl, ⟨3, [], ⟨0, 0, [], [], ⟨none, 0, 0⟩, 0⟩, h13, ⟨none, 0, 0⟩, Ls, ⟨none, 0, 0⟩, Bs, 0⟩, rfl, ?_⟩ P355.out R335.out G356.out
   unfold StB
   exact ⟨rfl, rfl, rfl, zeroE_B _ _, (ExB.kept (more_nw (by have z := Z357.out; omega) (by have z := Z357.out; omega)) E352.out), ExLB.none_ _ _, ⟨LH, rb_own slC_len O353.out (by have z := Z357.out; omega) (Nat.le_refl _), (LabsB.kept (ny_nw (by have z := Z357.out; omega) (by have z := Z357.out; omega)) E350.out)⟩, RB.none_ _ _ _ _, _, rb_own slC_len O354.out (by have z := Z357.out; omega) (Nat.le_refl _), (BlksB.kept (ny_nw (by have z := Z357.out; omega) (by have z := Z357.out; omega)) E351.out)⟩
end
end Go.Proofs.YtbcpkhegmbdifaaGreat.tr
