/- The landed parser's statements: choices, over what the parts give. Condition: at most 6000 signs. -/
import Derived.Test.YtbcpkhegmbdifaaGreatU17
namespace Go.Proofs.YtbcpkhegmbdifaaGreat.tr
open Go.ChangeShapes Go.WideShapes Go.ChangeAt Go.RowKit Go.Proofs.YtbcpkhegmbdifaaGreat.k Go.Proofs.YtbcpkhegmbdifaaGreat.rr Go.Proofs.YtbcpkhegmbdifaaGreat.tk
set_option linter.unusedVariables false
set_option linter.unusedSimpArgs false

theorem blksB_len {w : World} {S : Nat → Prop} : ∀ {L : List (List St)} {H : List Sl}, BlksB w S L H → H.length = L.length
 | [], _, e => by
  unfold BlksB at e
  subst e
  rfl
 | x :: L, _, e => by
  unfold BlksB at e
  obtain ⟨g, H', e, h1, h2⟩ := e
  rw [e, List.length_cons, List.length_cons, blksB_len h2]
section
variable {r : Sg} {V : Value} {d g : Nat} {w : World}

set_option maxRecDepth 100000 in
set_option maxHeartbeats 4000000 in
theorem choice_any (hP : Par w g r V d) (hr : RowOk r) (hd : d ≤ 32) (hl : r.length ≤ 6000) {f : Nat} (hf : 20 * r.length + 10 ≤ f) (HB : ∀ f1 ends r1, f1 ≤ f → wordsB ends = true → RowOk r1 → r1.length ≤ r.length → 20 * r1.length + 12 ≤ f1 → BCtr Tryz.prog 20 ends (stmtsF f1 d ends r1 []) d r1) :
  Calls Tryz.prog 69 #[.pointer (some ⟨g, 0, none⟩)] w (Gv g V d w GotW (ifF f d r [] [])) := by
 obtain ⟨R, hR⟩ : ∃ R : Res (Nat → St), (ifF f d r [] []) = R := ⟨_, rfl⟩
 rw [hR]
 have HR := Lib.hid hR
 clear hR
 have HL := Lib.hid hl
 have HF := Lib.hid hf
 have HBB := Lib.hid HB
 clear hl hf HB
 have P1 := Lib.hid hP
 have G1 := Lib.hid (gr_refl w (some g))
 have R1 := Lib.hid hr
 have Z1 := Lib.hid (show g < w.heap.size from hP.lt)
 clear hP hr
 go_enter Tryz.func69, Tryz.ntmps69
 go_upto_region 1 with (fail)
 have hb := (Below.refl w.heap.size w).alloc (Nat.le_refl _) (.cells #[.int .i64 0, .string ⟨#[]⟩, .int .i64 0, .int .i64 0, .string ⟨#[]⟩, .string ⟨#[]⟩, .slice none 0 0, .int .i64 0, .int .i64 0, .int .i64 0, .string ⟨#[]⟩, .string ⟨#[]⟩, .slice none 0 0, .int .i64 0, .slice none 0 0, .slice none 0 0, .slice none 0 0, .slice none 0 0, .int .i64 0] 44)
 have hx := Box.new w #[.int .i64 0, .string ⟨#[]⟩, .int .i64 0, .int .i64 0, .string ⟨#[]⟩, .string ⟨#[]⟩, .slice none 0 0, .int .i64 0, .int .i64 0, .int .i64 0, .string ⟨#[]⟩, .string ⟨#[]⟩, .slice none 0 0, .int .i64 0, .slice none 0 0, .slice none 0 0, .slice none 0 0, .slice none 0 0, .int .i64 0] 44
 have hz : (w.alloc (.cells #[.int .i64 0, .string ⟨#[]⟩, .int .i64 0, .int .i64 0, .string ⟨#[]⟩, .string ⟨#[]⟩, .slice none 0 0, .int .i64 0, .int .i64 0, .int .i64 0, .string ⟨#[]⟩, .string ⟨#[]⟩, .slice none 0 0, .int .i64 0, .slice none 0 0, .slice none 0 0, .slice none 0 0, .slice none 0 0, .int .i64 0] 44)).heap.size = w.heap.size + 1 := by simp
 generalize w.alloc (.cells #[.int .i64 0, .string ⟨#[]⟩, .int .i64 0, .int .i64 0, .string ⟨#[]⟩, .string ⟨#[]⟩, .slice none 0 0, .int .i64 0, .int .i64 0, .int .i64 0, .string ⟨#[]⟩, .string ⟨#[]⟩, .slice none 0 0, .int .i64 0, .slice none 0 0, .slice none 0 0, .slice none 0 0, .slice none 0 0, .int .i64 0] 44) = w4 at *
 have hg := gr_of (row := some w.heap.size) hb
 have Z2 := Lib.hid (And.intro hz Z1.out)
 have X3 := Lib.hid hx
 clear hb hx hz
 have P4 := Lib.hid (P1.out.gr hg (by have z := Z1.out; omega))
 clear P1
 have G5 := hgt hg G1 (fun _ => by have z := Z1.out; omega)
 clear G1
 have Z6 := hzz hg Z2
 clear hg
 go_upto_region 2 with ((with_reducible refine m_new 44 3 5 ?_ ?_ ?_ (sC ⟨2, [], ⟨0, 0, [], [], ⟨none, 0, 0⟩, 0⟩, ⟨0, 0, [], [], ⟨none, 0, 0⟩, 0⟩, ⟨none, 0, 0⟩, ⟨none, 0, 0⟩, ⟨none, 0, 0⟩, ⟨none, 0, 0⟩, 0⟩) ?_ ?_ ?_ ?_ (sC_one _) ?_); rfl; rfl; rfl; rfl; rfl; rfl; kernel_rfl; intro w5 hx hb hz)
 have hg := gr_of (row := some w4.heap.size) hb
 have Z7 := Lib.hid (And.intro hz Z6.out)
 have X8 := Lib.hid hx
 clear hb hx hz
 have X9 := hbx hg (by have z := Z6.out; omega) X3
 clear X3
 have P10 := Lib.hid (P4.out.gr hg (by have z := Z6.out; omega))
 clear P4
 have G11 := hgt hg G5 (fun _ => by have z := Z6.out; omega)
 clear G5
 have Z12 := hzz hg Z7
 clear hg
 go_upto_region 3 with (fail)
 go_loopw [4] (fun s4 wr => ∃ (m : Bool) (cs : List Ex) (bs : List (List St)) (CH : List EH) (BH : List Sl) (Cs Bs : Sl) (r' : Sg) (fc : Nat), s4 = .bool m ∧ (m = true → ifF fc d r' cs bs = R ∧ 20 * r'.length + 10 ≤ fc ∧ fc ≤ f) ∧ (m = false → ((if txt r' = [69, 76, 83, 69] then (stmtsF fc d [[69, 78, 68, 95, 73, 70]] (r'.drop 1) []).bind fun E r' => .ok (bs ++ [E]) r' else .ok bs r').bind fun bs' r' => (need [69, 78, 68, 95, 73, 70] r').bind fun _ r' => .ok (fun ln => St.mk 2 [] zeroE zeroE cs [] [] bs' ln) r') = R ∧ 20 * r'.length + 12 ≤ fc ∧ fc ≤ f) ∧ cs.length + r'.length ≤ r.length ∧ bs.length + r'.length ≤ r.length ∧ RowOk r' ∧ Par wr g r' V d ∧ Box wr w.heap.size 0 [.int .i64 0, .string ⟨#[]⟩, .int .i64 0, .int .i64 0, .string ⟨#[]⟩, .string ⟨#[]⟩, .slice none 0 0, .int .i64 0, .int .i64 0, .int .i64 0, .string ⟨#[]⟩, .string ⟨#[]⟩, .slice none 0 0, .int .i64 0, .slice none 0 0, .slice none 0 0, .slice none 0 0, .slice none 0 0, .int .i64 0] ∧ Box wr w4.heap.size 0 (sC ⟨2, [], ⟨0, 0, [], [], ⟨none, 0, 0⟩, 0⟩, ⟨0, 0, [], [], ⟨none, 0, 0⟩, 0⟩, Cs, ⟨none, 0, 0⟩, ⟨none, 0, 0⟩, Bs, 0⟩) ∧ Ow eC 6 39 wr w5.heap.size (Sl.v Cs) CH ∧ Ow slC 1 24 wr w5.heap.size (Sl.v Bs) BH ∧ ExsB wr (Ny w5.heap.size wr.heap.size [(Sl.v Cs), (Sl.v Bs)]) cs CH ∧ BlksB wr (Ny w5.heap.size wr.heap.size [(Sl.v Cs), (Sl.v Bs)]) bs BH ∧ w.grownBy wr (some g) ∧ w5.heap.size ≤ wr.heap.size) (fun _ wr => rowLen wr g)
 case atStart => exact ⟨true, [], [], [], [], ⟨none, 0, 0⟩, ⟨none, 0, 0⟩, r, f, rfl, fun _ => ⟨HR.out, HF.out, Nat.le_refl _⟩, (fun h => by cases h), by simp, by simp, R1.out, P10.out, X9.out, X8.out, Ow.nil _ _ _ _ _, Ow.nil _ _ _ _ _, rfl, BlksB.nil, G11.out, Nat.le_refl _⟩
 case round =>
  obtain ⟨m, cs, bs, CH, BH, Cs, Bs, r', fc, rfl, hm1, hm2, hl1, hl2, hr', hP', hX0, hX1, hO1, hO2, hT', hT2, hG', hS'⟩ := hrel
  clear P10 G11 R1 HR X9 X8
  have P1 := Lib.hid hP'
  have X1 := Lib.hid hX0
  have X2 := Lib.hid hX1
  have O1 := Lib.hid hO1
  have O2 := Lib.hid hO2
  have OH1 := Lib.hid hO1
  have OH2 := Lib.hid hO2
  have E1 := Lib.hid hT'
  have E2 := Lib.hid hT2
  have G1 := Lib.hid hG'
  have R1 := Lib.hid hr'
  have HL1 := Lib.hid hl1
  have HL2 := Lib.hid hl2
  have ZS := Lib.hid (And.intro hS' Z12.out)
  clear hP' hX0 hX1 hO1 hO2 hT' hT2 hG' hr' hl1 hl2 hS'
  have NLEN := Lib.hid P1.out.len
  have HLR := Lib.hid R1.out.len
  cases m
  ·skip
   obtain ⟨hq, hfc, hfc2⟩ := hm2 rfl
   have HR := Lib.hid hq
   have HFC := Lib.hid hfc
   have HFC2 := Lib.hid hfc2
   clear hm1 hm2 hq hfc hfc2
   by_cases hw : txt r' = [69, 76, 83, 69]
   ·skip
    have hq := HR.out
    rw [if_pos hw] at hq
    simp only [bind_bind, bind_okE] at hq
    have HR301 := Lib.hid hq
    clear hq HR
    have hl0 := drop_len r'
    have HLD := Lib.hid hl0
    clear hl0
    have R302 := Lib.hid (R1.out.drop (txt_kind hw (by decide)))
    go_wp2_with (go_at_call 32; fail)
    refine (take_yes P1.out R1.out ((headS_txt R1.out (by decide) (by decide) (by decide) (by decide)).2 hw) (txt_kind hw (by decide))).mono ?_
    rintro e w6 ⟨rfl, hp, hg⟩
    have P303 := Lib.hid hp
    have X304 := hbx hg (by have z := ZS.out; omega) X1
    clear X1
    have X305 := hbx hg (by have z := ZS.out; omega) X2
    clear X2
    have E306 := Lib.hid (ExsB.kept (kept_ny hg (Or.imp_right Or.inl (by have z := ZS.out; omega)) (by have z := ZS.out; omega)) E1.out)
    clear E1
    have E307 := Lib.hid (BlksB.kept (kept_ny hg (Or.imp_right Or.inl (by have z := ZS.out; omega)) (by have z := ZS.out; omega)) E2.out)
    clear E2
    have O308 := Lib.hid (Ow.gr O1.out hg (by have z := ZS.out; omega))
    clear O1
    have O309 := Lib.hid (Ow.gr O2.out hg (by have z := ZS.out; omega))
    clear O2
    clear P1
    have G310 := Lib.hid (gr_trans G1.out hg)
    clear G1
    have Z311 := hzz hg ZS
    clear hg hp
    clear R1
    generalize ((r').drop 1) = r312 at *
    go_upto_region 9 with (fail)
    refine wp_region_T (by kernel_rfl) (fun w' => Box w' (w4.heap.size) 0 (sC ⟨2, [], ⟨0, 0, [], [], ⟨none, 0, 0⟩, 0⟩, ⟨0, 0, [], [], ⟨none, 0, 0⟩, 0⟩, Cs, ⟨none, 0, 0⟩, ⟨none, 0, 0⟩, Bs, 0⟩)) [8] (box_drew X305.out) (fun hHeld => ?_)
    have hb := (Below.refl w6.heap.size w6).drew
    generalize w6.drew = w7 at *
    have hg := gr_of (row := some w6.heap.size) hb
    have X313 := hbx hg (by have z := Z311.out; omega) X304
    clear X304
    have X314 := hbx hg (by have z := Z311.out; omega) X305
    clear X305
    have E315 := Lib.hid (ExsB.kept (kept_ny hg (Or.imp_right Or.inl (by have z := Z311.out; omega)) (by have z := Z311.out; omega)) E306.out)
    clear E306
    have E316 := Lib.hid (BlksB.kept (kept_ny hg (Or.imp_right Or.inl (by have z := Z311.out; omega)) (by have z := Z311.out; omega)) E307.out)
    clear E307
    have O317 := Lib.hid (Ow.gr O308.out hg (by have z := Z311.out; omega))
    clear O308
    have O318 := Lib.hid (Ow.gr O309.out hg (by have z := Z311.out; omega))
    clear O309
    have P319 := Lib.hid (P303.out.gr hg (by have z := Z311.out; omega))
    clear P303
    have G320 := hgt hg G310 (fun _ => by have z := Z311.out; omega)
    clear G310
    have Z321 := hzz hg Z311
    clear hg hb
    refine wpAnyT_take (i := 0) (v := ?_) rfl (by kernel_rfl) (by kernel_rfl) (by kernel_rfl) (fun _ _ _ h => h) (Or.inl ⟨by rfl, ?_⟩) (by assumption) ?_
    rotate_left 1
    ·intro w_ hSw; clear hSw; go_simp <;> (with_reducible rfl)
    try simp only [Act.put, List.setIfInBounds_toArray, List.set_cons_zero, List.set_cons_succ, List.getElem_toArray, List.getElem_cons_succ, List.getElem_cons_zero]
    refine wpAnyT_take (i := 1) (v := ?_) rfl (by kernel_rfl) (by kernel_rfl) (by kernel_rfl) (fun _ _ _ h => h) (Or.inl ⟨by rfl, ?_⟩) (by assumption) ?_
    rotate_left 1
    ·intro w_ hSw; obtain ⟨c17, _⟩ := cell_of hSw (i := 17) rfl; go_simp <;> (with_reducible rfl)
    try simp only [Act.put, List.setIfInBounds_toArray, List.set_cons_zero, List.set_cons_succ, List.getElem_toArray, List.getElem_cons_succ, List.getElem_cons_zero]
    refine wpAnyT_take (i := 2) (v := ?_) rfl (by kernel_rfl) (by kernel_rfl) (by kernel_rfl) (fun _ _ _ h => h) (Or.inl ⟨by rfl, ?_⟩) (by assumption) ?_
    rotate_left 1
    ·intro w_ hSw; clear hSw; go_simp <;> (with_reducible rfl)
    try simp only [Act.put, List.setIfInBounds_toArray, List.set_cons_zero, List.set_cons_succ, List.getElem_toArray, List.getElem_cons_succ, List.getElem_cons_zero]
    refine wpAnyT_ready (rs := [3]) (by kernel_rfl) (by simp) ?_
    refine AllReadyT.cons rfl (fun K hK => ?_) AllReadyT.nil
    go_simp
    have hb := (Below.refl w7.heap.size w7).alloc (Nat.le_refl _) (.cells #[.string ⟨#[69, 78, 68, 95, 73, 70]⟩] 9)
    have hR : RB tC1 1 (w7.alloc (.cells #[.string ⟨#[69, 78, 68, 95, 73, 70]⟩] 9)) (Nw w7.heap.size (w7.heap.size + 1)) ⟨some ⟨w7.heap.size, 0, none⟩, 1, 1⟩ [[69, 78, 68, 95, 73, 70]] := rb_many w7 9 [[69, 78, 68, 95, 73, 70]] #[.string ⟨#[69, 78, 68, 95, 73, 70]⟩] rfl (Nat.le_refl _) (Nat.le_refl _)
    have hz : (w7.alloc (.cells #[.string ⟨#[69, 78, 68, 95, 73, 70]⟩] 9)).heap.size = w7.heap.size + 1 := by simp
    generalize w7.alloc (.cells #[.string ⟨#[69, 78, 68, 95, 73, 70]⟩] 9) = w8 at *
    have hg := gr_of (row := some w7.heap.size) hb
    have HZ1 := Lib.hid hz
    have HRB := Lib.hid hR
    clear hb hR hz
    have Z322 := Lib.hid (And.intro HZ1.out Z321.out)
    have E323 := HRB
    clear HZ1 HRB
    have X324 := hbx hg (by have z := Z321.out; omega) X313
    clear X313
    have X325 := hbx hg (by have z := Z321.out; omega) X314
    clear X314
    have E326 := Lib.hid (ExsB.kept (kept_ny hg (Or.imp_right Or.inl (by have z := Z321.out; omega)) (by have z := Z321.out; omega)) E315.out)
    clear E315
    have E327 := Lib.hid (BlksB.kept (kept_ny hg (Or.imp_right Or.inl (by have z := Z321.out; omega)) (by have z := Z321.out; omega)) E316.out)
    clear E316
    have O328 := Lib.hid (Ow.gr O317.out hg (by have z := Z321.out; omega))
    clear O317
    have O329 := Lib.hid (Ow.gr O318.out hg (by have z := Z321.out; omega))
    clear O318
    have P330 := Lib.hid (P319.out.gr hg (by have z := Z321.out; omega))
    clear P319
    have G331 := hgt hg G320 (fun _ => by have z := Z321.out; omega)
    clear G320
    have Z332 := hzz hg Z322
    clear hg
    refine hK.out _ _ X325.out (fun hHeld => ?_)
    clear hK K
    try simp only [Act.put, List.setIfInBounds_toArray, List.set_cons_zero, List.set_cons_succ, List.getElem_toArray, List.getElem_cons_succ, List.getElem_cons_zero]
    refine wpAnyT_ready (rs := [4]) (by kernel_rfl) (by simp) ?_
    refine AllReadyT.cons rfl (fun K hK => ?_) AllReadyT.nil
    have FI := Lib.hid (fin_stmts (d := d) (f := fc) (r := r312) (ends := [[69, 78, 68, 95, 73, 70]]) (ac := []) (by have z := Z332.out; have := HFC.out; have := HFC2.out; have := HLD.out; have := HLR.out; have := HL1.out; omega))
    have HOB334 := Lib.hid (show ∀ q0, (Sl.v Cs).ownBlock = some q0 → q0 < w8.heap.size from fun q0 e0 => (Ow.lt O328.out e0).2)
    go_simp
    go_at_call 20
    refine (HBB.out fc [[69, 78, 68, 95, 73, 70]] r312 (by have z := Z332.out; have := HFC.out; have := HFC2.out; have := HLD.out; have := HLR.out; have := HL1.out; omega) (by decide) R302.out (by have z := Z332.out; have := HFC.out; have := HFC2.out; have := HLD.out; have := HLR.out; have := HL1.out; omega) (by have z := Z332.out; have := HFC.out; have := HFC2.out; have := HLD.out; have := HLR.out; have := HL1.out; omega) _ _ _ _ P330.out (by have z := Z332.out; omega) (by have z := Z332.out; omega) E323.out).mono ?_
    rintro e w9 hgv
    rcases hp : stmtsF fc d [[69, 78, 68, 95, 73, 70]] r312 [] with ⟨B8, r8⟩ | ⟨n9, t9⟩
    rotate_left
    ·rw [hp] at hgv
     obtain ⟨rfl, hg⟩ := hgv
     have hq := HR301.out
     rw [hp] at hq
     go_wp2
     exact ⟨rfl, Gv.badOf hq.symm (gr_trans G331.out hg)⟩
    rw [hp] at hgv
    obtain ⟨⟨v9, rfl, hG⟩, hP9, hr9, hg⟩ := hgv
    have hq := HR301.out
    rw [hp] at hq
    try rw [bind_okE] at hq
    have HR335 := Lib.hid hq
    clear hq HR301
    have P336 := Lib.hid hP9
    have R337 := Lib.hid hr9
    have X338 := hbx hg (by have z := Z332.out; omega) X324
    clear X324
    have X339 := hbx hg (by have z := Z332.out; omega) X325
    clear X325
    have E340 := Lib.hid (ExsB.kept (kept_ny hg (Or.imp_right Or.inl (by have z := Z332.out; omega)) (by have z := Z332.out; omega)) E326.out)
    clear E326
    have E341 := Lib.hid (BlksB.kept (kept_ny hg (Or.imp_right Or.inl (by have z := Z332.out; omega)) (by have z := Z332.out; omega)) E327.out)
    clear E327
    have E342 := hkRB hg (by have z := Z332.out; omega) E323
    clear E323
    have O343 := Lib.hid (Ow.gr O328.out hg (by have z := Z332.out; omega))
    clear O328
    have O344 := Lib.hid (Ow.gr O329.out hg (by have z := Z332.out; omega))
    clear O329
    clear P330
    have G345 := Lib.hid (gr_trans G331.out hg)
    clear G331
    have Z346 := hzz hg Z332
    clear hg hP9 hr9 R302
    obtain ⟨s347, rfl, hE9⟩ := hG
    have E348 := Lib.hid hE9
    clear hE9
    clear E342
    have LB : Hid (r8.length < r312.length + 1) := by
     have := FI.out
     rw [hp] at this
     exact Lib.hid this
    clear FI hp
    go_wp2_with fail
    refine hK.out _ _ X339.out (fun hHeld => ?_)
    clear hK K
    try simp only [Act.put, List.setIfInBounds_toArray, List.set_cons_zero, List.set_cons_succ, List.getElem_toArray, List.getElem_cons_succ, List.getElem_cons_zero]
    refine wpAnyT_ready (rs := [5]) (by kernel_rfl) (by simp) ?_
    refine AllReadyT.cons rfl (fun K hK => ?_) AllReadyT.nil
    refine t_slice1 (enc := slC) (z := 1) s347 42 24 32 (Sl.v s347) (slC s347).toArray rfl rfl rfl (bs_L s347) rfl ?_
    intro w10 hrb hb1 hz1
    have HRB := Lib.hid hrb
    have HB1 := Lib.hid hb1
    have HZ1 := Lib.hid hz1
    clear hrb hb1 hz1
    have hg := gr_of (row := some w9.heap.size) HB1.out
    have Z350 := Lib.hid (And.intro HZ1.out Z346.out)
    have E351 := HRB
    clear HZ1 HRB
    have X352 := hbx hg (by have z := Z346.out; omega) X338
    clear X338
    have X353 := hbx hg (by have z := Z346.out; omega) X339
    clear X339
    have E354 := Lib.hid (ExsB.kept (kept_ny hg (Or.imp_right Or.inl (by have z := Z346.out; omega)) (by have z := Z346.out; omega)) E340.out)
    clear E340
    have E355 := Lib.hid (BlksB.kept (kept_ny hg (Or.imp_right Or.inl (by have z := Z346.out; omega)) (by have z := Z346.out; omega)) E341.out)
    clear E341
    have E356 := hkStLB hg (by have z := Z346.out; omega) E348
    clear E348
    have O357 := Lib.hid (Ow.gr O343.out hg (by have z := Z346.out; omega))
    clear O343
    have O358 := Lib.hid (Ow.gr O344.out hg (by have z := Z346.out; omega))
    clear O344
    have P359 := Lib.hid (P336.out.gr hg (by have z := Z346.out; omega))
    clear P336
    have G360 := hgt hg G345 (fun _ => by have z := Z346.out; omega)
    clear G345
    have Z361 := hzz hg Z350
    clear hg HB1
    refine hK.out _ _ X353.out (fun hHeld => ?_)
    clear hK K
    try simp only [Act.put, List.setIfInBounds_toArray, List.set_cons_zero, List.set_cons_succ, List.getElem_toArray, List.getElem_cons_succ, List.getElem_cons_zero]
    have LM := Lib.hid (show BH.length + [s347].length ≤ 20000 by have := blksB_len E355.out; have := HL2.out; have := HL.out; simp only [List.length_cons, List.length_nil]; omega)
    refine wpAnyT_ready (rs := [6]) (by kernel_rfl) (by simp) ?_
    refine AllReadyT.cons rfl (fun K hK => ?_) AllReadyT.nil
    have Z363 := Lib.hid (And.intro (show w5.heap.size ≤ w10.heap.size from (by have z := Z361.out; omega)) Z361.out)
    refine step_append_row slC_len (by decide) slC_one blks_slice blk_info rfl (by decide) _ rfl (.tmp 29) (.tmp 33) rfl w5.heap.size (Sl.v Bs) BH rfl O358.out (w9.heap.size + 1) (some ⟨w9.heap.size, 0, none⟩) 1 1 [s347] rfl (RB.toAt (fun b hb => hb.2) E351.out) LM.out Z363.out.1 ?_
    intro v8 w11 hown hgA hat
    have HOWN := Lib.hid hown
    have HGA := Lib.hid hgA
    have HAT := Lib.hid hat
    clear hown hgA hat
    obtain ⟨S364, hsv⟩ := Ow.sl slC_len HOWN.out
    subst hsv
    obtain ⟨q9, hq1, hq2, hg⟩ := grow_q O358.out (by have z := Z363.out; omega) HGA.out
    have HQ2 := Lib.hid hq2
    have Z365 := Lib.hid (And.intro hq1 Z363.out)
    have Z366 := Lib.hid (And.intro (show q9 < wr.heap.size ∨ w10.heap.size ≤ q9 from hq2.imp (fun e => (Ow.lt OH2.out e).2) id) Z365.out)
    clear hq1 hq2
    have HOB367 := Lib.hid (show ∀ q0, (Sl.v S364).ownBlock = some q0 → q0 < wr.heap.size ∨ w10.heap.size ≤ q0 from fun q0 e0 => HAT.out.elim (fun h => .inl (Ow.lt OH2.out (h.symm.trans e0)).2) (fun h => .inr (by rw [h] at e0; injection e0 with e0; omega)))
    have E368 := Lib.hid (ExsB.kept (kept_ny hg (HQ2.out.elim (fun e => .inr (.inr ⟨(Sl.v Bs), by simp, e⟩)) (fun h => .inr (.inl (by have z := Z366.out; omega)))) (by have z := Z366.out; omega)) E354.out)
    have E369 := Lib.hid (ExsB.kept (ny_ny (O := [(Sl.v Cs), (Sl.v Bs)]) (O' := [(Sl.v Cs), (Sl.v S364)]) (Nat.le_refl _) (Nat.le_refl _) (by
     intro v0 hv0 q0 e0 hq0
     simp only [List.mem_cons, List.not_mem_nil, or_false] at hv0
     rcases hv0 with rfl | rfl
     ·exact ⟨_, by simp, e0⟩
     ·rcases HAT.out with h | h
      ·exact ⟨_, by simp, h.symm.trans e0⟩
      ·rw [h] at e0; injection e0 with e0; exfalso; have z := Z366.out; omega)) E368.out)
    clear E354 E368
    have E370 := Lib.hid (BlksB.kept (kept_ny hg (HQ2.out.elim (fun e => .inr (.inr ⟨(Sl.v Bs), by simp, e⟩)) (fun h => .inr (.inl (by have z := Z366.out; omega)))) (by have z := Z366.out; omega)) E355.out)
    have E371 := Lib.hid (BlksB.kept (ny_ny (O := [(Sl.v Cs), (Sl.v Bs)]) (O' := [(Sl.v Cs), (Sl.v S364)]) (Nat.le_refl _) (Nat.le_refl _) (by
     intro v0 hv0 q0 e0 hq0
     simp only [List.mem_cons, List.not_mem_nil, or_false] at hv0
     rcases hv0 with rfl | rfl
     ·exact ⟨_, by simp, e0⟩
     ·rcases HAT.out with h | h
      ·exact ⟨_, by simp, h.symm.trans e0⟩
      ·rw [h] at e0; injection e0 with e0; exfalso; have z := Z366.out; omega)) E370.out)
    clear E355 E370
    have O372 := Lib.hid (Ow.gr2 O357.out hg (HQ2.out.elim (fun e => Ow.apart O358.out O357.out (by decide) e) (fun h e2 => by have h9 := (Ow.lt O357.out e2).2; have z := Z366.out; omega)))
    clear O357
    have X373 := hbx hg (by have z := Z366.out; omega) X352
    clear X352
    have X374 := hbx hg (by have z := Z366.out; omega) X353
    clear X353
    have E375 := hkStLB hg (by have z := Z366.out; omega) E356
    clear E356
    have E376 := hkRB hg (by have z := Z366.out; omega) E351
    clear E351
    have P377 := Lib.hid (P359.out.gr hg (by have z := Z366.out; omega))
    clear P359
    have G378 := hgt hg G360 (fun _ => by have z := Z366.out; omega)
    clear G360
    have Z379 := hzz hg Z366
    have O380 := HOWN
    clear hg HOWN HGA HQ2 HAT O358
    refine hK.out _ _ X374.out (fun hHeld => ?_)
    clear hK K
    try simp only [Act.put, List.setIfInBounds_toArray, List.set_cons_zero, List.set_cons_succ, List.getElem_toArray, List.getElem_cons_succ, List.getElem_cons_zero]
    refine wpAnyT_take (i := 7) (v := ?_) rfl (by kernel_rfl) (by kernel_rfl) (by kernel_rfl) (fun _ _ _ h => h) (Or.inl ⟨by rfl, ?_⟩) (by assumption) ?_
    rotate_left 1
    ·intro w_ hSw; clear hSw; go_simp <;> (with_reducible rfl)
    try simp only [Act.put, List.setIfInBounds_toArray, List.set_cons_zero, List.set_cons_succ, List.getElem_toArray, List.getElem_cons_succ, List.getElem_cons_zero]
    refine wpAnyT_ready (rs := [8]) (by kernel_rfl) (by simp) ?_
    refine AllReadyT.spoilt rfl (by kernel_rfl) (fun K hK => ?_) AllReadyT.nil
    refine t_set1 (j := 17) X374.out (show 17 < 19 by decide) 42 35 34 rfl rfl rfl (Sl.v S364) rfl rfl (by first | rfl | (cases S364; rfl)) (by kernel_rfl) ?_
    intro w12 hx hg hs
    have hx : Box w12 (w4.heap.size) 0 (sC ⟨2, [], ⟨0, 0, [], [], ⟨none, 0, 0⟩, 0⟩, ⟨0, 0, [], [], ⟨none, 0, 0⟩, 0⟩, Cs, ⟨none, 0, 0⟩, ⟨none, 0, 0⟩, S364, 0⟩) := hx
    have X381 := Lib.hid hx
    have Z382 := Lib.hid (And.intro hs Z379.out)
    clear hx hs X374
    have X383 := hbx hg (by have z := Z379.out; omega) X373
    clear X373
    have E384 := Lib.hid (ExsB.kept (kept_ny hg (Or.imp_right Or.inl (by have z := Z379.out; omega)) (by have z := Z379.out; omega)) E369.out)
    clear E369
    have E385 := Lib.hid (BlksB.kept (kept_ny hg (Or.imp_right Or.inl (by have z := Z379.out; omega)) (by have z := Z379.out; omega)) E371.out)
    clear E371
    have E386 := hkStLB hg (by have z := Z379.out; omega) E375
    clear E375
    have E387 := hkRB hg (by have z := Z379.out; omega) E376
    clear E376
    have O388 := Lib.hid (Ow.gr O372.out hg (by have z := Z379.out; omega))
    clear O372
    have O389 := Lib.hid (Ow.gr O380.out hg (by have z := Z379.out; omega))
    clear O380
    have P390 := Lib.hid (P377.out.gr hg (by have z := Z379.out; omega))
    clear P377
    have G391 := hgt hg G378 (fun _ => by have z := Z379.out; omega)
    clear G378
    have Z392 := hzz hg Z382
    clear hg
    refine hK.out _ _ ?_
    clear hK K
    try simp only [Act.put, List.setIfInBounds_toArray, List.set_cons_zero, List.set_cons_succ, List.getElem_toArray, List.getElem_cons_succ, List.getElem_cons_zero]
    refine wpAnyT_done (by kernel_rfl) ?_ _
    clear LM
    by_cases hs393 : txt (r8) = [69, 78, 68, 95, 73, 70]
    rotate_left
    ·have hq := HR335.out
     rw [need_badE hs393] at hq
     go_wp2_with (go_at_call 18; fail)
     refine (need_no P390.out R337.out (mt (headS_txt R337.out (by decide) (by decide) (by decide) (by decide)).1 hs393)).mono ?_
     rintro e w13 ⟨rfl, hb⟩
     go_wp2
     exact ⟨rfl, Gv.badOf hq.symm (gr_trans G391.out (gr_of hb))⟩
    have hq := HR335.out
    rw [need_okE hs393, bind_okE] at hq
    have HR394 := Lib.hid hq
    clear hq HR335
    have R395 := Lib.hid (R337.out.drop (txt_kind hs393 (by decide)))
    go_wp2_with (go_at_call 18; fail)
    refine (need_yes P390.out R337.out ((headS_txt R337.out (by decide) (by decide) (by decide) (by decide)).2 hs393)).mono ?_
    rintro e w13 ⟨rfl, hp, hg⟩
    have P396 := Lib.hid hp
    have X397 := hbx hg (by have z := Z392.out; omega) X383
    clear X383
    have X398 := hbx hg (by have z := Z392.out; omega) X381
    clear X381
    have E399 := Lib.hid (ExsB.kept (kept_ny hg (Or.imp_right Or.inl (by have z := Z392.out; omega)) (by have z := Z392.out; omega)) E384.out)
    clear E384
    have E400 := Lib.hid (BlksB.kept (kept_ny hg (Or.imp_right Or.inl (by have z := Z392.out; omega)) (by have z := Z392.out; omega)) E385.out)
    clear E385
    have E401 := hkStLB hg (by have z := Z392.out; omega) E386
    clear E386
    have E402 := hkRB hg (by have z := Z392.out; omega) E387
    clear E387
    have O403 := Lib.hid (Ow.gr O388.out hg (by have z := Z392.out; omega))
    clear O388
    have O404 := Lib.hid (Ow.gr O389.out hg (by have z := Z392.out; omega))
    clear O389
    clear P390
    have G405 := Lib.hid (gr_trans G391.out hg)
    clear G391
    have Z406 := hzz hg Z392
    clear hg hp
    clear R337
    generalize ((r8).drop 1) = r407 at *
    go_wp2_with (first | ((with_reducible refine m_load X398.out 44 3 ?_ ?_ ?_ ?_ ?_ ?_); rfl; rfl; rfl; rfl; kernel_rfl) | ((with_reducible refine m_store X397.out 44 2 38 ?_ ?_ ?_ (sC ⟨2, [], ⟨0, 0, [], [], ⟨none, 0, 0⟩, 0⟩, ⟨0, 0, [], [], ⟨none, 0, 0⟩, 0⟩, Cs, ⟨none, 0, 0⟩, ⟨none, 0, 0⟩, S364, 0⟩) ?_ ?_ ?_ ?_ (sC_one _) ?_); rfl; rfl; rfl; rfl; rfl; rfl; kernel_rfl; intro w14 hx hg hs))
    have X408 := Lib.hid hx
    have Z409 := Lib.hid (And.intro hs Z406.out)
    clear hx hs X397
    have X410 := hbx hg (by have z := Z406.out; omega) X398
    clear X398
    have E411 := Lib.hid (ExsB.kept (kept_ny hg (Or.imp_right Or.inl (by have z := Z406.out; omega)) (by have z := Z406.out; omega)) E399.out)
    clear E399
    have E412 := Lib.hid (BlksB.kept (kept_ny hg (Or.imp_right Or.inl (by have z := Z406.out; omega)) (by have z := Z406.out; omega)) E400.out)
    clear E400
    have E413 := hkStLB hg (by have z := Z406.out; omega) E401
    clear E401
    have E414 := hkRB hg (by have z := Z406.out; omega) E402
    clear E402
    have O415 := Lib.hid (Ow.gr O403.out hg (by have z := Z406.out; omega))
    clear O403
    have O416 := Lib.hid (Ow.gr O404.out hg (by have z := Z406.out; omega))
    clear O404
    have P417 := Lib.hid (P396.out.gr hg (by have z := Z406.out; omega))
    clear P396
    have G418 := hgt hg G405 (fun _ => by have z := Z406.out; omega)
    clear G405
    have Z419 := hzz hg Z409
    clear hg
    refine bodyPost_ret (k.results_cell rfl rfl (run_loadVar_mid _ w.heap.size 0 44 _ _ X408.out.range rfl rfl (by kernel_rfl))) rfl ?_
    refine Gv.okOf HR394.out.symm ⟨fun _ => rfl, ⟨2, [], ⟨0, 0, [], [], ⟨none, 0, 0⟩, 0⟩, ⟨0, 0, [], [], ⟨none, 0, 0⟩, 0⟩, Cs, ⟨none, 0, 0⟩, ⟨none, 0, 0⟩, S364, 0⟩, rfl, ?_⟩ P417.out R395.out G418.out
    unfold StB
    exact ⟨rfl, rfl, rfl, zeroE_B _ _, zeroE_B _ _, ⟨CH, rb_own eC_len O415.out (by have z := Z419.out; omega) (Nat.le_refl _), (ExsB.kept (ny_nw (by have z := Z419.out; omega) (by have z := Z419.out; omega)) E411.out)⟩, ⟨[], RB.none_ _ _ _ _, rfl⟩, RB.none_ _ _ _ _, _, rb_own slC_len O416.out (by have z := Z419.out; omega) (Nat.le_refl _), BlksB.snoc (StLB.kept (more_nw (by have z := Z419.out; omega) (by have z := Z419.out; omega)) E413.out) (BlksB.kept (ny_nw (by have z := Z419.out; omega) (by have z := Z419.out; omega)) E412.out)⟩
   ·skip
    have hq := HR.out
    rw [if_neg hw, bind_okE] at hq
    have HR301 := Lib.hid hq
    clear hq HR
    go_wp2_with (go_at_call 32; fail)
    refine (take_no P1.out R1.out (mt (headS_txt R1.out (by decide) (by decide) (by decide) (by decide)).1 hw)).mono ?_
    rintro e w6 ⟨rfl, hb⟩
    have hg := gr_of (row := some wr.heap.size) hb
    have X302 := hbx hg (by have z := ZS.out; omega) X1
    clear X1
    have X303 := hbx hg (by have z := ZS.out; omega) X2
    clear X2
    have E304 := Lib.hid (ExsB.kept (kept_ny hg (Or.imp_right Or.inl (by have z := ZS.out; omega)) (by have z := ZS.out; omega)) E1.out)
    clear E1
    have E305 := Lib.hid (BlksB.kept (kept_ny hg (Or.imp_right Or.inl (by have z := ZS.out; omega)) (by have z := ZS.out; omega)) E2.out)
    clear E2
    have O306 := Lib.hid (Ow.gr O1.out hg (by have z := ZS.out; omega))
    clear O1
    have O307 := Lib.hid (Ow.gr O2.out hg (by have z := ZS.out; omega))
    clear O2
    have P308 := Lib.hid (P1.out.gr hg (by have z := ZS.out; omega))
    clear P1
    have G309 := hgt hg G1 (fun _ => by have z := ZS.out; omega)
    clear G1
    have Z310 := hzz hg ZS
    clear hg hb
    by_cases hs311 : txt (r') = [69, 78, 68, 95, 73, 70]
    rotate_left
    ·have hq := HR301.out
     rw [need_badE hs311] at hq
     go_wp2_with (go_at_call 18; fail)
     refine (need_no P308.out R1.out (mt (headS_txt R1.out (by decide) (by decide) (by decide) (by decide)).1 hs311)).mono ?_
     rintro e w7 ⟨rfl, hb⟩
     go_wp2
     exact ⟨rfl, Gv.badOf hq.symm (gr_trans G309.out (gr_of hb))⟩
    have hq := HR301.out
    rw [need_okE hs311, bind_okE] at hq
    have HR312 := Lib.hid hq
    clear hq HR301
    have R313 := Lib.hid (R1.out.drop (txt_kind hs311 (by decide)))
    go_wp2_with (go_at_call 18; fail)
    refine (need_yes P308.out R1.out ((headS_txt R1.out (by decide) (by decide) (by decide) (by decide)).2 hs311)).mono ?_
    rintro e w7 ⟨rfl, hp, hg⟩
    have P314 := Lib.hid hp
    have X315 := hbx hg (by have z := Z310.out; omega) X302
    clear X302
    have X316 := hbx hg (by have z := Z310.out; omega) X303
    clear X303
    have E317 := Lib.hid (ExsB.kept (kept_ny hg (Or.imp_right Or.inl (by have z := Z310.out; omega)) (by have z := Z310.out; omega)) E304.out)
    clear E304
    have E318 := Lib.hid (BlksB.kept (kept_ny hg (Or.imp_right Or.inl (by have z := Z310.out; omega)) (by have z := Z310.out; omega)) E305.out)
    clear E305
    have O319 := Lib.hid (Ow.gr O306.out hg (by have z := Z310.out; omega))
    clear O306
    have O320 := Lib.hid (Ow.gr O307.out hg (by have z := Z310.out; omega))
    clear O307
    clear P308
    have G321 := Lib.hid (gr_trans G309.out hg)
    clear G309
    have Z322 := hzz hg Z310
    clear hg hp
    clear R1
    generalize ((r').drop 1) = r323 at *
    go_wp2_with (first | ((with_reducible refine m_load X316.out 44 3 ?_ ?_ ?_ ?_ ?_ ?_); rfl; rfl; rfl; rfl; kernel_rfl) | ((with_reducible refine m_store X315.out 44 2 38 ?_ ?_ ?_ (sC ⟨2, [], ⟨0, 0, [], [], ⟨none, 0, 0⟩, 0⟩, ⟨0, 0, [], [], ⟨none, 0, 0⟩, 0⟩, Cs, ⟨none, 0, 0⟩, ⟨none, 0, 0⟩, Bs, 0⟩) ?_ ?_ ?_ ?_ (sC_one _) ?_); rfl; rfl; rfl; rfl; rfl; rfl; kernel_rfl; intro w8 hx hg hs))
    have X324 := Lib.hid hx
    have Z325 := Lib.hid (And.intro hs Z322.out)
    clear hx hs X315
    have X326 := hbx hg (by have z := Z322.out; omega) X316
    clear X316
    have E327 := Lib.hid (ExsB.kept (kept_ny hg (Or.imp_right Or.inl (by have z := Z322.out; omega)) (by have z := Z322.out; omega)) E317.out)
    clear E317
    have E328 := Lib.hid (BlksB.kept (kept_ny hg (Or.imp_right Or.inl (by have z := Z322.out; omega)) (by have z := Z322.out; omega)) E318.out)
    clear E318
    have O329 := Lib.hid (Ow.gr O319.out hg (by have z := Z322.out; omega))
    clear O319
    have O330 := Lib.hid (Ow.gr O320.out hg (by have z := Z322.out; omega))
    clear O320
    have P331 := Lib.hid (P314.out.gr hg (by have z := Z322.out; omega))
    clear P314
    have G332 := hgt hg G321 (fun _ => by have z := Z322.out; omega)
    clear G321
    have Z333 := hzz hg Z325
    clear hg
    refine bodyPost_ret (k.results_cell rfl rfl (run_loadVar_mid _ w.heap.size 0 44 _ _ X324.out.range rfl rfl (by kernel_rfl))) rfl ?_
    refine Gv.okOf HR312.out.symm ⟨fun _ => rfl, ⟨2, [], ⟨0, 0, [], [], ⟨none, 0, 0⟩, 0⟩, ⟨0, 0, [], [], ⟨none, 0, 0⟩, 0⟩, Cs, ⟨none, 0, 0⟩, ⟨none, 0, 0⟩, Bs, 0⟩, rfl, ?_⟩ P331.out R313.out G332.out
    unfold StB
    exact ⟨rfl, rfl, rfl, zeroE_B _ _, zeroE_B _ _, ⟨CH, rb_own eC_len O329.out (by have z := Z333.out; omega) (Nat.le_refl _), (ExsB.kept (ny_nw (by have z := Z333.out; omega) (by have z := Z333.out; omega)) E327.out)⟩, ⟨[], RB.none_ _ _ _ _, rfl⟩, RB.none_ _ _ _ _, _, rb_own slC_len O330.out (by have z := Z333.out; omega) (Nat.le_refl _), (BlksB.kept (ny_nw (by have z := Z333.out; omega) (by have z := Z333.out; omega)) E328.out)⟩
  ·skip
   obtain ⟨hq, hfc, hfc2⟩ := hm1 rfl
   obtain ⟨f2, rfl⟩ : ∃ k, fc = k + 1 := ⟨fc - 1, by omega⟩
   rw [ifF] at hq
   have HR := Lib.hid hq
   have HFC := Lib.hid hfc
   have HFC2 := Lib.hid hfc2
   clear hm1 hm2 hq hfc hfc2
   go_upto_region 5 with (fail)
   refine wp_region_T (by kernel_rfl) (fun w' => Box w' (w4.heap.size) 0 (sC ⟨2, [], ⟨0, 0, [], [], ⟨none, 0, 0⟩, 0⟩, ⟨0, 0, [], [], ⟨none, 0, 0⟩, 0⟩, Cs, ⟨none, 0, 0⟩, ⟨none, 0, 0⟩, Bs, 0⟩)) [7] (box_drew X2.out) (fun hHeld => ?_)
   have hb := (Below.refl wr.heap.size wr).drew
   generalize wr.drew = w6 at *
   have hg := gr_of (row := some wr.heap.size) hb
   have X301 := hbx hg (by have z := ZS.out; omega) X1
   clear X1
   have X302 := hbx hg (by have z := ZS.out; omega) X2
   clear X2
   have E303 := Lib.hid (ExsB.kept (kept_ny hg (Or.imp_right Or.inl (by have z := ZS.out; omega)) (by have z := ZS.out; omega)) E1.out)
   clear E1
   have E304 := Lib.hid (BlksB.kept (kept_ny hg (Or.imp_right Or.inl (by have z := ZS.out; omega)) (by have z := ZS.out; omega)) E2.out)
   clear E2
   have O305 := Lib.hid (Ow.gr O1.out hg (by have z := ZS.out; omega))
   clear O1
   have O306 := Lib.hid (Ow.gr O2.out hg (by have z := ZS.out; omega))
   clear O2
   have P307 := Lib.hid (P1.out.gr hg (by have z := ZS.out; omega))
   clear P1
   have G308 := hgt hg G1 (fun _ => by have z := ZS.out; omega)
   clear G1
   have Z309 := hzz hg ZS
   clear hg hb
   refine wpAnyT_take (i := 0) (v := ?_) rfl (by kernel_rfl) (by kernel_rfl) (by kernel_rfl) (fun _ _ _ h => h) (Or.inl ⟨by rfl, ?_⟩) (by assumption) ?_
   rotate_left 1
   ·intro w_ hSw; clear hSw; go_simp <;> (with_reducible rfl)
   try simp only [Act.put, List.setIfInBounds_toArray, List.set_cons_zero, List.set_cons_succ, List.getElem_toArray, List.getElem_cons_succ, List.getElem_cons_zero]
   refine wpAnyT_take (i := 1) (v := ?_) rfl (by kernel_rfl) (by kernel_rfl) (by kernel_rfl) (fun _ _ _ h => h) (Or.inl ⟨by rfl, ?_⟩) (by assumption) ?_
   rotate_left 1
   ·intro w_ hSw; obtain ⟨c14, _⟩ := cell_of hSw (i := 14) rfl; go_simp <;> (with_reducible rfl)
   try simp only [Act.put, List.setIfInBounds_toArray, List.set_cons_zero, List.set_cons_succ, List.getElem_toArray, List.getElem_cons_succ, List.getElem_cons_zero]
   refine wpAnyT_take (i := 2) (v := ?_) rfl (by kernel_rfl) (by kernel_rfl) (by kernel_rfl) (fun _ _ _ h => h) (Or.inl ⟨by rfl, ?_⟩) (by assumption) ?_
   rotate_left 1
   ·intro w_ hSw; clear hSw; go_simp <;> (with_reducible rfl)
   try simp only [Act.put, List.setIfInBounds_toArray, List.set_cons_zero, List.set_cons_succ, List.getElem_toArray, List.getElem_cons_succ, List.getElem_cons_zero]
   refine wpAnyT_ready (rs := [3]) (by kernel_rfl) (by simp) ?_
   refine AllReadyT.cons rfl (fun K hK => ?_) AllReadyT.nil
   have FI := Lib.hid (fin_expr (d := d) (f := f2) (r := r') (by have z := Z309.out; have := HFC.out; have := HFC2.out; have := HLR.out; omega))
   have HOB310 := Lib.hid (show ∀ q0, (Sl.v Bs).ownBlock = some q0 → q0 < w6.heap.size from fun q0 e0 => (Ow.lt O306.out e0).2)
   go_simp
   go_at_call 84
   refine (expr_gets (f := f2) (d := d) hd R1.out (by have z := Z309.out; have := HFC.out; have := HFC2.out; have := HLR.out; omega) _ _ _ P307.out).mono ?_
   rintro e w7 hgv
   rcases hp : expr f2 d r' with ⟨x8, r8⟩ | ⟨n9, t9⟩
   rotate_left
   ·rw [hp] at hgv
    obtain ⟨rfl, hg⟩ := hgv
    have hq := HR.out
    rw [hp] at hq
    go_wp2
    exact ⟨rfl, Gv.badOf hq.symm (gr_trans G308.out hg)⟩
   rw [hp] at hgv
   obtain ⟨⟨v9, rfl, hG⟩, hP9, hr9, hg⟩ := hgv
   have hq := HR.out
   rw [hp] at hq
   try rw [bind_okE] at hq
   have HR311 := Lib.hid hq
   clear hq HR
   have P312 := Lib.hid hP9
   have R313 := Lib.hid hr9
   have X314 := hbx hg (by have z := Z309.out; omega) X301
   clear X301
   have X315 := hbx hg (by have z := Z309.out; omega) X302
   clear X302
   have E316 := Lib.hid (ExsB.kept (kept_ny hg (Or.imp_right Or.inl (by have z := Z309.out; omega)) (by have z := Z309.out; omega)) E303.out)
   clear E303
   have E317 := Lib.hid (BlksB.kept (kept_ny hg (Or.imp_right Or.inl (by have z := Z309.out; omega)) (by have z := Z309.out; omega)) E304.out)
   clear E304
   have O318 := Lib.hid (Ow.gr O305.out hg (by have z := Z309.out; omega))
   clear O305
   have O319 := Lib.hid (Ow.gr O306.out hg (by have z := Z309.out; omega))
   clear O306
   clear P307
   have G320 := Lib.hid (gr_trans G308.out hg)
   clear G308
   have Z321 := hzz hg Z309
   clear hg hP9 hr9 R1
   obtain ⟨h322, rfl, hE9⟩ := hG
   have E323 := Lib.hid hE9
   clear hE9
   have L8 : Hid (r8.length < r'.length) := by
    have := FI.out
    rw [hp] at this
    exact Lib.hid this
   clear FI hp
   go_wp2_with fail
   refine hK.out _ _ X315.out (fun hHeld => ?_)
   clear hK K
   try simp only [Act.put, List.setIfInBounds_toArray, List.set_cons_zero, List.set_cons_succ, List.getElem_toArray, List.getElem_cons_succ, List.getElem_cons_zero]
   refine wpAnyT_ready (rs := [4]) (by kernel_rfl) (by simp) ?_
   refine AllReadyT.cons rfl (fun K hK => ?_) AllReadyT.nil
   refine t_slice1 (enc := eC) (z := 6) h322 37 39 12 (.agg (eC h322).toArray) (eC h322).toArray rfl rfl rfl (bs_E h322) rfl ?_
   intro w8 hrb hb1 hz1
   have HRB := Lib.hid hrb
   have HB1 := Lib.hid hb1
   have HZ1 := Lib.hid hz1
   clear hrb hb1 hz1
   have hg := gr_of (row := some w7.heap.size) HB1.out
   have Z325 := Lib.hid (And.intro HZ1.out Z321.out)
   have E326 := HRB
   clear HZ1 HRB
   have X327 := hbx hg (by have z := Z321.out; omega) X314
   clear X314
   have X328 := hbx hg (by have z := Z321.out; omega) X315
   clear X315
   have E329 := Lib.hid (ExsB.kept (kept_ny hg (Or.imp_right Or.inl (by have z := Z321.out; omega)) (by have z := Z321.out; omega)) E316.out)
   clear E316
   have E330 := Lib.hid (BlksB.kept (kept_ny hg (Or.imp_right Or.inl (by have z := Z321.out; omega)) (by have z := Z321.out; omega)) E317.out)
   clear E317
   have E331 := hkExB hg (by have z := Z321.out; omega) E323
   clear E323
   have O332 := Lib.hid (Ow.gr O318.out hg (by have z := Z321.out; omega))
   clear O318
   have O333 := Lib.hid (Ow.gr O319.out hg (by have z := Z321.out; omega))
   clear O319
   have P334 := Lib.hid (P312.out.gr hg (by have z := Z321.out; omega))
   clear P312
   have G335 := hgt hg G320 (fun _ => by have z := Z321.out; omega)
   clear G320
   have Z336 := hzz hg Z325
   clear hg HB1
   refine hK.out _ _ X328.out (fun hHeld => ?_)
   clear hK K
   try simp only [Act.put, List.setIfInBounds_toArray, List.set_cons_zero, List.set_cons_succ, List.getElem_toArray, List.getElem_cons_succ, List.getElem_cons_zero]
   have LM := Lib.hid (show CH.length + [h322].length ≤ 20000 by have := exsB_len E329.out; have := HL1.out; have := HL.out; simp only [List.length_cons, List.length_nil]; omega)
   refine wpAnyT_ready (rs := [5]) (by kernel_rfl) (by simp) ?_
   refine AllReadyT.cons rfl (fun K hK => ?_) AllReadyT.nil
   have Z338 := Lib.hid (And.intro (show w5.heap.size ≤ w8.heap.size from (by have z := Z336.out; omega)) Z336.out)
   refine step_append_row eC_len (by decide) eC_one exprs_slice expr_info rfl (by decide) _ rfl (.tmp 10) (.tmp 13) rfl w5.heap.size (Sl.v Cs) CH rfl O332.out (w7.heap.size + 1) (some ⟨w7.heap.size, 0, none⟩) 1 1 [h322] rfl (RB.toAt (fun b hb => hb.2) E326.out) LM.out Z338.out.1 ?_
   intro v8 w9 hown hgA hat
   have HOWN := Lib.hid hown
   have HGA := Lib.hid hgA
   have HAT := Lib.hid hat
   clear hown hgA hat
   obtain ⟨S339, hsv⟩ := Ow.sl eC_len HOWN.out
   subst hsv
   obtain ⟨q9, hq1, hq2, hg⟩ := grow_q O332.out (by have z := Z338.out; omega) HGA.out
   have HQ2 := Lib.hid hq2
   have Z340 := Lib.hid (And.intro hq1 Z338.out)
   have Z341 := Lib.hid (And.intro (show q9 < wr.heap.size ∨ w8.heap.size ≤ q9 from hq2.imp (fun e => (Ow.lt OH1.out e).2) id) Z340.out)
   clear hq1 hq2
   have HOB342 := Lib.hid (show ∀ q0, (Sl.v S339).ownBlock = some q0 → q0 < wr.heap.size ∨ w8.heap.size ≤ q0 from fun q0 e0 => HAT.out.elim (fun h => .inl (Ow.lt OH1.out (h.symm.trans e0)).2) (fun h => .inr (by rw [h] at e0; injection e0 with e0; omega)))
   have E343 := Lib.hid (ExsB.kept (kept_ny hg (HQ2.out.elim (fun e => .inr (.inr ⟨(Sl.v Cs), by simp, e⟩)) (fun h => .inr (.inl (by have z := Z341.out; omega)))) (by have z := Z341.out; omega)) E329.out)
   have E344 := Lib.hid (ExsB.kept (ny_ny (O := [(Sl.v Cs), (Sl.v Bs)]) (O' := [(Sl.v S339), (Sl.v Bs)]) (Nat.le_refl _) (Nat.le_refl _) (by
    intro v0 hv0 q0 e0 hq0
    simp only [List.mem_cons, List.not_mem_nil, or_false] at hv0
    rcases hv0 with rfl | rfl
    ·rcases HAT.out with h | h
     ·exact ⟨_, by simp, h.symm.trans e0⟩
     ·rw [h] at e0; injection e0 with e0; exfalso; have z := Z341.out; omega
    ·exact ⟨_, by simp, e0⟩)) E343.out)
   clear E329 E343
   have E345 := Lib.hid (BlksB.kept (kept_ny hg (HQ2.out.elim (fun e => .inr (.inr ⟨(Sl.v Cs), by simp, e⟩)) (fun h => .inr (.inl (by have z := Z341.out; omega)))) (by have z := Z341.out; omega)) E330.out)
   have E346 := Lib.hid (BlksB.kept (ny_ny (O := [(Sl.v Cs), (Sl.v Bs)]) (O' := [(Sl.v S339), (Sl.v Bs)]) (Nat.le_refl _) (Nat.le_refl _) (by
    intro v0 hv0 q0 e0 hq0
    simp only [List.mem_cons, List.not_mem_nil, or_false] at hv0
    rcases hv0 with rfl | rfl
    ·rcases HAT.out with h | h
     ·exact ⟨_, by simp, h.symm.trans e0⟩
     ·rw [h] at e0; injection e0 with e0; exfalso; have z := Z341.out; omega
    ·exact ⟨_, by simp, e0⟩)) E345.out)
   clear E330 E345
   have O347 := Lib.hid (Ow.gr2 O333.out hg (HQ2.out.elim (fun e => Ow.apart O332.out O333.out (by decide) e) (fun h e2 => by have h9 := (Ow.lt O333.out e2).2; have z := Z341.out; omega)))
   clear O333
   have X348 := hbx hg (by have z := Z341.out; omega) X327
   clear X327
   have X349 := hbx hg (by have z := Z341.out; omega) X328
   clear X328
   have E350 := hkExB hg (by have z := Z341.out; omega) E331
   clear E331
   have E351 := hkRB hg (by have z := Z341.out; omega) E326
   clear E326
   have P352 := Lib.hid (P334.out.gr hg (by have z := Z341.out; omega))
   clear P334
   have G353 := hgt hg G335 (fun _ => by have z := Z341.out; omega)
   clear G335
   have Z354 := hzz hg Z341
   have O355 := HOWN
   clear hg HOWN HGA HQ2 HAT O332
   refine hK.out _ _ X349.out (fun hHeld => ?_)
   clear hK K
   try simp only [Act.put, List.setIfInBounds_toArray, List.set_cons_zero, List.set_cons_succ, List.getElem_toArray, List.getElem_cons_succ, List.getElem_cons_zero]
   refine wpAnyT_take (i := 6) (v := ?_) rfl (by kernel_rfl) (by kernel_rfl) (by kernel_rfl) (fun _ _ _ h => h) (Or.inl ⟨by rfl, ?_⟩) (by assumption) ?_
   rotate_left 1
   ·intro w_ hSw; clear hSw; go_simp <;> (with_reducible rfl)
   try simp only [Act.put, List.setIfInBounds_toArray, List.set_cons_zero, List.set_cons_succ, List.getElem_toArray, List.getElem_cons_succ, List.getElem_cons_zero]
   refine wpAnyT_ready (rs := [7]) (by kernel_rfl) (by simp) ?_
   refine AllReadyT.spoilt rfl (by kernel_rfl) (fun K hK => ?_) AllReadyT.nil
   refine t_set1 (j := 14) X349.out (show 14 < 19 by decide) 37 15 14 rfl rfl rfl (Sl.v S339) rfl rfl (by first | rfl | (cases S339; rfl)) (by kernel_rfl) ?_
   intro w10 hx hg hs
   have hx : Box w10 (w4.heap.size) 0 (sC ⟨2, [], ⟨0, 0, [], [], ⟨none, 0, 0⟩, 0⟩, ⟨0, 0, [], [], ⟨none, 0, 0⟩, 0⟩, S339, ⟨none, 0, 0⟩, ⟨none, 0, 0⟩, Bs, 0⟩) := hx
   have X356 := Lib.hid hx
   have Z357 := Lib.hid (And.intro hs Z354.out)
   clear hx hs X349
   have X358 := hbx hg (by have z := Z354.out; omega) X348
   clear X348
   have E359 := Lib.hid (ExsB.kept (kept_ny hg (Or.imp_right Or.inl (by have z := Z354.out; omega)) (by have z := Z354.out; omega)) E344.out)
   clear E344
   have E360 := Lib.hid (BlksB.kept (kept_ny hg (Or.imp_right Or.inl (by have z := Z354.out; omega)) (by have z := Z354.out; omega)) E346.out)
   clear E346
   have E361 := hkExB hg (by have z := Z354.out; omega) E350
   clear E350
   have E362 := hkRB hg (by have z := Z354.out; omega) E351
   clear E351
   have O363 := Lib.hid (Ow.gr O355.out hg (by have z := Z354.out; omega))
   clear O355
   have O364 := Lib.hid (Ow.gr O347.out hg (by have z := Z354.out; omega))
   clear O347
   have P365 := Lib.hid (P352.out.gr hg (by have z := Z354.out; omega))
   clear P352
   have G366 := hgt hg G353 (fun _ => by have z := Z354.out; omega)
   clear G353
   have Z367 := hzz hg Z357
   clear hg
   refine hK.out _ _ ?_
   clear hK K
   try simp only [Act.put, List.setIfInBounds_toArray, List.set_cons_zero, List.set_cons_succ, List.getElem_toArray, List.getElem_cons_succ, List.getElem_cons_zero]
   refine wpAnyT_done (by kernel_rfl) ?_ _
   clear LM
   have EC := Lib.hid (ExsB.snoc (ExB.kept (nw_ny (b' := w10.heap.size) (O := [(Sl.v S339), (Sl.v Bs)]) (by have z := Z367.out; omega) (by have z := Z367.out; omega) (by
    intro v0 hv0 q0 e0
    simp only [List.mem_cons, List.not_mem_nil, or_false] at hv0
    rcases hv0 with rfl | rfl
    ·have h9 := HOB342.out q0 e0; have z := Z367.out; omega
    ·have h9 := HOB310.out q0 e0; have z := Z367.out; omega)) E361.out) (ExsB.kept (ny_ny (O := [(Sl.v S339), (Sl.v Bs)]) (O' := [(Sl.v S339), (Sl.v Bs)]) (Nat.le_refl _) (by have z := Z367.out; omega) (fun v hv q e hq => ⟨v, hv, e⟩)) E359.out))
   clear E359 E361
   have hl0 := drop_len r8
   have HLD := Lib.hid hl0
   have HLR8 := Lib.hid R313.out.len
   clear hl0
   by_cases hs368 : txt (r8) = [84, 72, 69, 78]
   rotate_left
   ·have hq := HR311.out
    rw [need_badE hs368] at hq
    go_wp2_with (go_at_call 18; fail)
    refine (need_no P365.out R313.out (mt (headS_txt R313.out (by decide) (by decide) (by decide) (by decide)).1 hs368)).mono ?_
    rintro e w11 ⟨rfl, hb⟩
    go_wp2
    exact ⟨rfl, Gv.badOf hq.symm (gr_trans G366.out (gr_of hb))⟩
   have hq := HR311.out
   rw [need_okE hs368, bind_okE] at hq
   have HR369 := Lib.hid hq
   clear hq HR311
   have R370 := Lib.hid (R313.out.drop (txt_kind hs368 (by decide)))
   go_wp2_with (go_at_call 18; fail)
   refine (need_yes P365.out R313.out ((headS_txt R313.out (by decide) (by decide) (by decide) (by decide)).2 hs368)).mono ?_
   rintro e w11 ⟨rfl, hp, hg⟩
   have P371 := Lib.hid hp
   have X372 := hbx hg (by have z := Z367.out; omega) X358
   clear X358
   have X373 := hbx hg (by have z := Z367.out; omega) X356
   clear X356
   have E374 := Lib.hid (BlksB.kept (kept_ny hg (Or.imp_right Or.inl (by have z := Z367.out; omega)) (by have z := Z367.out; omega)) E360.out)
   clear E360
   have E375 := hkRB hg (by have z := Z367.out; omega) E362
   clear E362
   have E376 := Lib.hid (ExsB.kept (kept_ny hg (Or.imp_right Or.inl (by have z := Z367.out; omega)) (by have z := Z367.out; omega)) EC.out)
   clear EC
   have O377 := Lib.hid (Ow.gr O363.out hg (by have z := Z367.out; omega))
   clear O363
   have O378 := Lib.hid (Ow.gr O364.out hg (by have z := Z367.out; omega))
   clear O364
   clear P365
   have G379 := Lib.hid (gr_trans G366.out hg)
   clear G366
   have Z380 := hzz hg Z367
   clear hg hp
   clear R313
   generalize ((r8).drop 1) = r381 at *
   go_upto_region 7 with (fail)
   refine wp_region_T (by kernel_rfl) (fun w' => Box w' (w4.heap.size) 0 (sC ⟨2, [], ⟨0, 0, [], [], ⟨none, 0, 0⟩, 0⟩, ⟨0, 0, [], [], ⟨none, 0, 0⟩, 0⟩, S339, ⟨none, 0, 0⟩, ⟨none, 0, 0⟩, Bs, 0⟩)) [8] (box_drew X373.out) (fun hHeld => ?_)
   have hb := (Below.refl w11.heap.size w11).drew
   generalize w11.drew = w12 at *
   have hg := gr_of (row := some w11.heap.size) hb
   have X382 := hbx hg (by have z := Z380.out; omega) X372
   clear X372
   have X383 := hbx hg (by have z := Z380.out; omega) X373
   clear X373
   have E384 := Lib.hid (BlksB.kept (kept_ny hg (Or.imp_right Or.inl (by have z := Z380.out; omega)) (by have z := Z380.out; omega)) E374.out)
   clear E374
   have E385 := hkRB hg (by have z := Z380.out; omega) E375
   clear E375
   have E386 := Lib.hid (ExsB.kept (kept_ny hg (Or.imp_right Or.inl (by have z := Z380.out; omega)) (by have z := Z380.out; omega)) E376.out)
   clear E376
   have O387 := Lib.hid (Ow.gr O377.out hg (by have z := Z380.out; omega))
   clear O377
   have O388 := Lib.hid (Ow.gr O378.out hg (by have z := Z380.out; omega))
   clear O378
   have P389 := Lib.hid (P371.out.gr hg (by have z := Z380.out; omega))
   clear P371
   have G390 := hgt hg G379 (fun _ => by have z := Z380.out; omega)
   clear G379
   have Z391 := hzz hg Z380
   clear hg hb
   refine wpAnyT_take (i := 0) (v := ?_) rfl (by kernel_rfl) (by kernel_rfl) (by kernel_rfl) (fun _ _ _ h => h) (Or.inl ⟨by rfl, ?_⟩) (by assumption) ?_
   rotate_left 1
   ·intro w_ hSw; clear hSw; go_simp <;> (with_reducible rfl)
   try simp only [Act.put, List.setIfInBounds_toArray, List.set_cons_zero, List.set_cons_succ, List.getElem_toArray, List.getElem_cons_succ, List.getElem_cons_zero]
   refine wpAnyT_take (i := 1) (v := ?_) rfl (by kernel_rfl) (by kernel_rfl) (by kernel_rfl) (fun _ _ _ h => h) (Or.inl ⟨by rfl, ?_⟩) (by assumption) ?_
   rotate_left 1
   ·intro w_ hSw; obtain ⟨c17, _⟩ := cell_of hSw (i := 17) rfl; go_simp <;> (with_reducible rfl)
   try simp only [Act.put, List.setIfInBounds_toArray, List.set_cons_zero, List.set_cons_succ, List.getElem_toArray, List.getElem_cons_succ, List.getElem_cons_zero]
   refine wpAnyT_take (i := 2) (v := ?_) rfl (by kernel_rfl) (by kernel_rfl) (by kernel_rfl) (fun _ _ _ h => h) (Or.inl ⟨by rfl, ?_⟩) (by assumption) ?_
   rotate_left 1
   ·intro w_ hSw; clear hSw; go_simp <;> (with_reducible rfl)
   try simp only [Act.put, List.setIfInBounds_toArray, List.set_cons_zero, List.set_cons_succ, List.getElem_toArray, List.getElem_cons_succ, List.getElem_cons_zero]
   refine wpAnyT_ready (rs := [3]) (by kernel_rfl) (by simp) ?_
   refine AllReadyT.cons rfl (fun K hK => ?_) AllReadyT.nil
   go_simp
   have hb := (Below.refl w12.heap.size w12).alloc (Nat.le_refl _) (.cells #[.string ⟨#[69, 76, 83, 73, 70]⟩, .string ⟨#[69, 76, 83, 69]⟩, .string ⟨#[69, 78, 68, 95, 73, 70]⟩] 9)
   have hR : RB tC1 1 (w12.alloc (.cells #[.string ⟨#[69, 76, 83, 73, 70]⟩, .string ⟨#[69, 76, 83, 69]⟩, .string ⟨#[69, 78, 68, 95, 73, 70]⟩] 9)) (Nw w12.heap.size (w12.heap.size + 1)) ⟨some ⟨w12.heap.size, 0, none⟩, 3, 3⟩ [[69, 76, 83, 73, 70], [69, 76, 83, 69], [69, 78, 68, 95, 73, 70]] := rb_many w12 9 [[69, 76, 83, 73, 70], [69, 76, 83, 69], [69, 78, 68, 95, 73, 70]] #[.string ⟨#[69, 76, 83, 73, 70]⟩, .string ⟨#[69, 76, 83, 69]⟩, .string ⟨#[69, 78, 68, 95, 73, 70]⟩] rfl (Nat.le_refl _) (Nat.le_refl _)
   have hz : (w12.alloc (.cells #[.string ⟨#[69, 76, 83, 73, 70]⟩, .string ⟨#[69, 76, 83, 69]⟩, .string ⟨#[69, 78, 68, 95, 73, 70]⟩] 9)).heap.size = w12.heap.size + 1 := by simp
   generalize w12.alloc (.cells #[.string ⟨#[69, 76, 83, 73, 70]⟩, .string ⟨#[69, 76, 83, 69]⟩, .string ⟨#[69, 78, 68, 95, 73, 70]⟩] 9) = w13 at *
   have hg := gr_of (row := some w12.heap.size) hb
   have HZ1 := Lib.hid hz
   have HRB := Lib.hid hR
   clear hb hR hz
   have Z392 := Lib.hid (And.intro HZ1.out Z391.out)
   have E393 := HRB
   clear HZ1 HRB
   have X394 := hbx hg (by have z := Z391.out; omega) X382
   clear X382
   have X395 := hbx hg (by have z := Z391.out; omega) X383
   clear X383
   have E396 := Lib.hid (BlksB.kept (kept_ny hg (Or.imp_right Or.inl (by have z := Z391.out; omega)) (by have z := Z391.out; omega)) E384.out)
   clear E384
   have E397 := hkRB hg (by have z := Z391.out; omega) E385
   clear E385
   have E398 := Lib.hid (ExsB.kept (kept_ny hg (Or.imp_right Or.inl (by have z := Z391.out; omega)) (by have z := Z391.out; omega)) E386.out)
   clear E386
   have O399 := Lib.hid (Ow.gr O387.out hg (by have z := Z391.out; omega))
   clear O387
   have O400 := Lib.hid (Ow.gr O388.out hg (by have z := Z391.out; omega))
   clear O388
   have P401 := Lib.hid (P389.out.gr hg (by have z := Z391.out; omega))
   clear P389
   have G402 := hgt hg G390 (fun _ => by have z := Z391.out; omega)
   clear G390
   have Z403 := hzz hg Z392
   clear hg
   refine hK.out _ _ X395.out (fun hHeld => ?_)
   clear hK K
   try simp only [Act.put, List.setIfInBounds_toArray, List.set_cons_zero, List.set_cons_succ, List.getElem_toArray, List.getElem_cons_succ, List.getElem_cons_zero]
   refine wpAnyT_ready (rs := [4]) (by kernel_rfl) (by simp) ?_
   refine AllReadyT.cons rfl (fun K hK => ?_) AllReadyT.nil
   have FI := Lib.hid (fin_stmts (d := d) (f := f2) (r := r381) (ends := [[69, 76, 83, 73, 70], [69, 76, 83, 69], [69, 78, 68, 95, 73, 70]]) (ac := []) (by have z := Z403.out; have := HFC.out; have := HFC2.out; have := HLD.out; have := HLR.out; have := L8.out; have := HLR8.out; have := HL1.out; omega))
   have HOB405 := Lib.hid (show ∀ q0, (Sl.v S339).ownBlock = some q0 → q0 < w13.heap.size from fun q0 e0 => (Ow.lt O399.out e0).2)
   go_simp
   go_at_call 20
   refine (HBB.out f2 [[69, 76, 83, 73, 70], [69, 76, 83, 69], [69, 78, 68, 95, 73, 70]] r381 (by have z := Z403.out; have := HFC.out; have := HFC2.out; have := HLD.out; have := HLR.out; have := L8.out; have := HLR8.out; have := HL1.out; omega) (by decide) R370.out (by have z := Z403.out; have := HFC.out; have := HFC2.out; have := HLD.out; have := HLR.out; have := L8.out; have := HLR8.out; have := HL1.out; omega) (by have z := Z403.out; have := HFC.out; have := HFC2.out; have := HLD.out; have := HLR.out; have := L8.out; have := HLR8.out; have := HL1.out; omega) _ _ _ _ P401.out (by have z := Z403.out; omega) (by have z := Z403.out; omega) E393.out).mono ?_
   rintro e w14 hgv
   rcases hp : stmtsF f2 d [[69, 76, 83, 73, 70], [69, 76, 83, 69], [69, 78, 68, 95, 73, 70]] r381 [] with ⟨B8, r9⟩ | ⟨n9, t9⟩
   rotate_left
   ·rw [hp] at hgv
    obtain ⟨rfl, hg⟩ := hgv
    have hq := HR369.out
    rw [hp] at hq
    go_wp2
    exact ⟨rfl, Gv.badOf hq.symm (gr_trans G402.out hg)⟩
   rw [hp] at hgv
   obtain ⟨⟨v9, rfl, hG⟩, hP9, hr9, hg⟩ := hgv
   have hq := HR369.out
   rw [hp] at hq
   try rw [bind_okE] at hq
   have HR406 := Lib.hid hq
   clear hq HR369
   have P407 := Lib.hid hP9
   have R408 := Lib.hid hr9
   have X409 := hbx hg (by have z := Z403.out; omega) X394
   clear X394
   have X410 := hbx hg (by have z := Z403.out; omega) X395
   clear X395
   have E411 := Lib.hid (BlksB.kept (kept_ny hg (Or.imp_right Or.inl (by have z := Z403.out; omega)) (by have z := Z403.out; omega)) E396.out)
   clear E396
   have E412 := hkRB hg (by have z := Z403.out; omega) E397
   clear E397
   have E413 := Lib.hid (ExsB.kept (kept_ny hg (Or.imp_right Or.inl (by have z := Z403.out; omega)) (by have z := Z403.out; omega)) E398.out)
   clear E398
   have E414 := hkRB hg (by have z := Z403.out; omega) E393
   clear E393
   have O415 := Lib.hid (Ow.gr O399.out hg (by have z := Z403.out; omega))
   clear O399
   have O416 := Lib.hid (Ow.gr O400.out hg (by have z := Z403.out; omega))
   clear O400
   clear P401
   have G417 := Lib.hid (gr_trans G402.out hg)
   clear G402
   have Z418 := hzz hg Z403
   clear hg hP9 hr9 R370
   obtain ⟨s419, rfl, hE9⟩ := hG
   have E420 := Lib.hid hE9
   clear hE9
   clear E414
   have LB : Hid (r9.length < r381.length + 1) := by
    have := FI.out
    rw [hp] at this
    exact Lib.hid this
   clear FI hp
   go_wp2_with fail
   refine hK.out _ _ X410.out (fun hHeld => ?_)
   clear hK K
   try simp only [Act.put, List.setIfInBounds_toArray, List.set_cons_zero, List.set_cons_succ, List.getElem_toArray, List.getElem_cons_succ, List.getElem_cons_zero]
   refine wpAnyT_ready (rs := [5]) (by kernel_rfl) (by simp) ?_
   refine AllReadyT.cons rfl (fun K hK => ?_) AllReadyT.nil
   refine t_slice1 (enc := slC) (z := 1) s419 42 24 22 (Sl.v s419) (slC s419).toArray rfl rfl rfl (bs_L s419) rfl ?_
   intro w15 hrb hb1 hz1
   have HRB := Lib.hid hrb
   have HB1 := Lib.hid hb1
   have HZ1 := Lib.hid hz1
   clear hrb hb1 hz1
   have hg := gr_of (row := some w14.heap.size) HB1.out
   have Z422 := Lib.hid (And.intro HZ1.out Z418.out)
   have E423 := HRB
   clear HZ1 HRB
   have X424 := hbx hg (by have z := Z418.out; omega) X409
   clear X409
   have X425 := hbx hg (by have z := Z418.out; omega) X410
   clear X410
   have E426 := Lib.hid (BlksB.kept (kept_ny hg (Or.imp_right Or.inl (by have z := Z418.out; omega)) (by have z := Z418.out; omega)) E411.out)
   clear E411
   have E427 := hkRB hg (by have z := Z418.out; omega) E412
   clear E412
   have E428 := Lib.hid (ExsB.kept (kept_ny hg (Or.imp_right Or.inl (by have z := Z418.out; omega)) (by have z := Z418.out; omega)) E413.out)
   clear E413
   have E429 := hkStLB hg (by have z := Z418.out; omega) E420
   clear E420
   have O430 := Lib.hid (Ow.gr O415.out hg (by have z := Z418.out; omega))
   clear O415
   have O431 := Lib.hid (Ow.gr O416.out hg (by have z := Z418.out; omega))
   clear O416
   have P432 := Lib.hid (P407.out.gr hg (by have z := Z418.out; omega))
   clear P407
   have G433 := hgt hg G417 (fun _ => by have z := Z418.out; omega)
   clear G417
   have Z434 := hzz hg Z422
   clear hg HB1
   refine hK.out _ _ X425.out (fun hHeld => ?_)
   clear hK K
   try simp only [Act.put, List.setIfInBounds_toArray, List.set_cons_zero, List.set_cons_succ, List.getElem_toArray, List.getElem_cons_succ, List.getElem_cons_zero]
   have LM := Lib.hid (show BH.length + [s419].length ≤ 20000 by have := blksB_len E426.out; have := HL2.out; have := HL.out; simp only [List.length_cons, List.length_nil]; omega)
   refine wpAnyT_ready (rs := [6]) (by kernel_rfl) (by simp) ?_
   refine AllReadyT.cons rfl (fun K hK => ?_) AllReadyT.nil
   have Z436 := Lib.hid (And.intro (show w5.heap.size ≤ w15.heap.size from (by have z := Z434.out; omega)) Z434.out)
   refine step_append_row slC_len (by decide) slC_one blks_slice blk_info rfl (by decide) _ rfl (.tmp 19) (.tmp 23) rfl w5.heap.size (Sl.v Bs) BH rfl O431.out (w14.heap.size + 1) (some ⟨w14.heap.size, 0, none⟩) 1 1 [s419] rfl (RB.toAt (fun b hb => hb.2) E423.out) LM.out Z436.out.1 ?_
   intro v8 w16 hown hgA hat
   have HOWN := Lib.hid hown
   have HGA := Lib.hid hgA
   have HAT := Lib.hid hat
   clear hown hgA hat
   obtain ⟨S437, hsv⟩ := Ow.sl slC_len HOWN.out
   subst hsv
   obtain ⟨q9, hq1, hq2, hg⟩ := grow_q O431.out (by have z := Z436.out; omega) HGA.out
   have HQ2 := Lib.hid hq2
   have Z438 := Lib.hid (And.intro hq1 Z436.out)
   have Z439 := Lib.hid (And.intro (show q9 < wr.heap.size ∨ w15.heap.size ≤ q9 from hq2.imp (fun e => (Ow.lt OH2.out e).2) id) Z438.out)
   clear hq1 hq2
   have HOB440 := Lib.hid (show ∀ q0, (Sl.v S437).ownBlock = some q0 → q0 < wr.heap.size ∨ w15.heap.size ≤ q0 from fun q0 e0 => HAT.out.elim (fun h => .inl (Ow.lt OH2.out (h.symm.trans e0)).2) (fun h => .inr (by rw [h] at e0; injection e0 with e0; omega)))
   have E441 := Lib.hid (BlksB.kept (kept_ny hg (HQ2.out.elim (fun e => .inr (.inr ⟨(Sl.v Bs), by simp, e⟩)) (fun h => .inr (.inl (by have z := Z439.out; omega)))) (by have z := Z439.out; omega)) E426.out)
   have E442 := Lib.hid (BlksB.kept (ny_ny (O := [(Sl.v S339), (Sl.v Bs)]) (O' := [(Sl.v S339), (Sl.v S437)]) (Nat.le_refl _) (Nat.le_refl _) (by
    intro v0 hv0 q0 e0 hq0
    simp only [List.mem_cons, List.not_mem_nil, or_false] at hv0
    rcases hv0 with rfl | rfl
    ·exact ⟨_, by simp, e0⟩
    ·rcases HAT.out with h | h
     ·exact ⟨_, by simp, h.symm.trans e0⟩
     ·rw [h] at e0; injection e0 with e0; exfalso; have z := Z439.out; omega)) E441.out)
   clear E426 E441
   have E443 := Lib.hid (ExsB.kept (kept_ny hg (HQ2.out.elim (fun e => .inr (.inr ⟨(Sl.v Bs), by simp, e⟩)) (fun h => .inr (.inl (by have z := Z439.out; omega)))) (by have z := Z439.out; omega)) E428.out)
   have E444 := Lib.hid (ExsB.kept (ny_ny (O := [(Sl.v S339), (Sl.v Bs)]) (O' := [(Sl.v S339), (Sl.v S437)]) (Nat.le_refl _) (Nat.le_refl _) (by
    intro v0 hv0 q0 e0 hq0
    simp only [List.mem_cons, List.not_mem_nil, or_false] at hv0
    rcases hv0 with rfl | rfl
    ·exact ⟨_, by simp, e0⟩
    ·rcases HAT.out with h | h
     ·exact ⟨_, by simp, h.symm.trans e0⟩
     ·rw [h] at e0; injection e0 with e0; exfalso; have z := Z439.out; omega)) E443.out)
   clear E428 E443
   have O445 := Lib.hid (Ow.gr2 O430.out hg (HQ2.out.elim (fun e => Ow.apart O431.out O430.out (by decide) e) (fun h e2 => by have h9 := (Ow.lt O430.out e2).2; have z := Z439.out; omega)))
   clear O430
   have X446 := hbx hg (by have z := Z439.out; omega) X424
   clear X424
   have X447 := hbx hg (by have z := Z439.out; omega) X425
   clear X425
   have E448 := hkRB hg (by have z := Z439.out; omega) E427
   clear E427
   have E449 := hkStLB hg (by have z := Z439.out; omega) E429
   clear E429
   have E450 := hkRB hg (by have z := Z439.out; omega) E423
   clear E423
   have P451 := Lib.hid (P432.out.gr hg (by have z := Z439.out; omega))
   clear P432
   have G452 := hgt hg G433 (fun _ => by have z := Z439.out; omega)
   clear G433
   have Z453 := hzz hg Z439
   have O454 := HOWN
   clear hg HOWN HGA HQ2 HAT O431
   refine hK.out _ _ X447.out (fun hHeld => ?_)
   clear hK K
   try simp only [Act.put, List.setIfInBounds_toArray, List.set_cons_zero, List.set_cons_succ, List.getElem_toArray, List.getElem_cons_succ, List.getElem_cons_zero]
   refine wpAnyT_take (i := 7) (v := ?_) rfl (by kernel_rfl) (by kernel_rfl) (by kernel_rfl) (fun _ _ _ h => h) (Or.inl ⟨by rfl, ?_⟩) (by assumption) ?_
   rotate_left 1
   ·intro w_ hSw; clear hSw; go_simp <;> (with_reducible rfl)
   try simp only [Act.put, List.setIfInBounds_toArray, List.set_cons_zero, List.set_cons_succ, List.getElem_toArray, List.getElem_cons_succ, List.getElem_cons_zero]
   refine wpAnyT_ready (rs := [8]) (by kernel_rfl) (by simp) ?_
   refine AllReadyT.spoilt rfl (by kernel_rfl) (fun K hK => ?_) AllReadyT.nil
   refine t_set1 (j := 17) X447.out (show 17 < 19 by decide) 42 25 24 rfl rfl rfl (Sl.v S437) rfl rfl (by first | rfl | (cases S437; rfl)) (by kernel_rfl) ?_
   intro w17 hx hg hs
   have hx : Box w17 (w4.heap.size) 0 (sC ⟨2, [], ⟨0, 0, [], [], ⟨none, 0, 0⟩, 0⟩, ⟨0, 0, [], [], ⟨none, 0, 0⟩, 0⟩, S339, ⟨none, 0, 0⟩, ⟨none, 0, 0⟩, S437, 0⟩) := hx
   have X455 := Lib.hid hx
   have Z456 := Lib.hid (And.intro hs Z453.out)
   clear hx hs X447
   have X457 := hbx hg (by have z := Z453.out; omega) X446
   clear X446
   have E458 := Lib.hid (BlksB.kept (kept_ny hg (Or.imp_right Or.inl (by have z := Z453.out; omega)) (by have z := Z453.out; omega)) E442.out)
   clear E442
   have E459 := hkRB hg (by have z := Z453.out; omega) E448
   clear E448
   have E460 := Lib.hid (ExsB.kept (kept_ny hg (Or.imp_right Or.inl (by have z := Z453.out; omega)) (by have z := Z453.out; omega)) E444.out)
   clear E444
   have E461 := hkStLB hg (by have z := Z453.out; omega) E449
   clear E449
   have E462 := hkRB hg (by have z := Z453.out; omega) E450
   clear E450
   have O463 := Lib.hid (Ow.gr O445.out hg (by have z := Z453.out; omega))
   clear O445
   have O464 := Lib.hid (Ow.gr O454.out hg (by have z := Z453.out; omega))
   clear O454
   have P465 := Lib.hid (P451.out.gr hg (by have z := Z453.out; omega))
   clear P451
   have G466 := hgt hg G452 (fun _ => by have z := Z453.out; omega)
   clear G452
   have Z467 := hzz hg Z456
   clear hg
   refine hK.out _ _ ?_
   clear hK K
   try simp only [Act.put, List.setIfInBounds_toArray, List.set_cons_zero, List.set_cons_succ, List.getElem_toArray, List.getElem_cons_succ, List.getElem_cons_zero]
   refine wpAnyT_done (by kernel_rfl) ?_ _
   clear LM
   have EB := Lib.hid (BlksB.snoc (StLB.kept (nw_ny (b' := w17.heap.size) (O := [(Sl.v S339), (Sl.v S437)]) (by have z := Z467.out; omega) (by have z := Z467.out; omega) (by
    intro v0 hv0 q0 e0
    simp only [List.mem_cons, List.not_mem_nil, or_false] at hv0
    rcases hv0 with rfl | rfl
    ·have h9 := HOB405.out q0 e0; have z := Z467.out; omega
    ·have h9 := HOB440.out q0 e0; have z := Z467.out; omega)) E461.out) (BlksB.kept (ny_ny (O := [(Sl.v S339), (Sl.v S437)]) (O' := [(Sl.v S339), (Sl.v S437)]) (Nat.le_refl _) (by have z := Z467.out; omega) (fun v hv q e hq => ⟨v, hv, e⟩)) E458.out))
   clear E458 E461
   by_cases hw4 : txt r9 = [69, 76, 83, 73, 70]
   ·skip
    have hq := HR406.out
    rw [if_pos hw4] at hq
    have HR468 := Lib.hid hq
    clear hq HR406
    have hl0 := drop_len r9
    have HLX := Lib.hid hl0
    have HLY := Lib.hid R408.out.len
    clear hl0
    have R469 := Lib.hid (R408.out.drop (txt_kind hw4 (by decide)))
    go_wp2_with (go_at_call 32; fail)
    refine (take_yes P465.out R408.out ((headS_txt R408.out (by decide) (by decide) (by decide) (by decide)).2 hw4) (txt_kind hw4 (by decide))).mono ?_
    rintro e w18 ⟨rfl, hp, hg⟩
    have P470 := Lib.hid hp
    have X471 := hbx hg (by have z := Z467.out; omega) X457
    clear X457
    have X472 := hbx hg (by have z := Z467.out; omega) X455
    clear X455
    have E473 := hkRB hg (by have z := Z467.out; omega) E459
    clear E459
    have E474 := Lib.hid (ExsB.kept (kept_ny hg (Or.imp_right Or.inl (by have z := Z467.out; omega)) (by have z := Z467.out; omega)) E460.out)
    clear E460
    have E475 := hkRB hg (by have z := Z467.out; omega) E462
    clear E462
    have E476 := Lib.hid (BlksB.kept (kept_ny hg (Or.imp_right Or.inl (by have z := Z467.out; omega)) (by have z := Z467.out; omega)) EB.out)
    clear EB
    have O477 := Lib.hid (Ow.gr O463.out hg (by have z := Z467.out; omega))
    clear O463
    have O478 := Lib.hid (Ow.gr O464.out hg (by have z := Z467.out; omega))
    clear O464
    clear P465
    have G479 := Lib.hid (gr_trans G466.out hg)
    clear G466
    have Z480 := hzz hg Z467
    clear hg hp
    clear R408
    generalize ((r9).drop 1) = r481 at *
    go_wp2_with fail
    go_roundw
    case rel => exact ⟨true, _, _, _, _, _, _, _, f2, rfl, fun _ => ⟨HR468.out, (by have z := Z480.out; have := HFC.out; have := HLD.out; have := HLR.out; have := HLR8.out; have := L8.out; have := LB.out; have := HL1.out; have := HL2.out; have := HLX.out; have := HLY.out; omega), (by have z := Z480.out; have := HFC2.out; omega)⟩, (fun h => by cases h), (by have z := Z480.out; have := HLD.out; have := HLR.out; have := HLR8.out; have := L8.out; have := LB.out; have := HL1.out; have := HL2.out; have := HLX.out; have := HLY.out; simp only [List.length_append, List.length_cons, List.length_nil]; omega), (by have z := Z480.out; have := HLD.out; have := HLR.out; have := HLR8.out; have := L8.out; have := LB.out; have := HL1.out; have := HL2.out; have := HLX.out; have := HLY.out; simp only [List.length_append, List.length_cons, List.length_nil]; omega), R469.out, P470.out, X471.out, X472.out, O477.out, O478.out, (ExsB.kept (ny_ny (O := [(Sl.v S339), (Sl.v S437)]) (O' := [(Sl.v S339), (Sl.v S437)]) (Nat.le_refl _) (by have z := Z480.out; omega) (fun v hv q e hq => ⟨v, hv, e⟩)) E474.out), (BlksB.kept (ny_ny (O := [(Sl.v S339), (Sl.v S437)]) (O' := [(Sl.v S339), (Sl.v S437)]) (Nat.le_refl _) (by have z := Z480.out; omega) (fun v hv q e hq => ⟨v, hv, e⟩)) E476.out), G479.out, (by have z := Z480.out; omega)⟩
    case measure => rw [NLEN.out, P470.out.len]; have z := Z480.out; have := HLD.out; have := HLR.out; have := HLR8.out; have := L8.out; have := LB.out; have := HL1.out; have := HL2.out; have := HLX.out; have := HLY.out; omega
   ·skip
    have hq := HR406.out
    rw [if_neg hw4] at hq
    have HR468 := Lib.hid hq
    clear hq HR406
    go_wp2_with (go_at_call 32; fail)
    refine (take_no P465.out R408.out (mt (headS_txt R408.out (by decide) (by decide) (by decide) (by decide)).1 hw4)).mono ?_
    rintro e w18 ⟨rfl, hb⟩
    have hg := gr_of (row := some w17.heap.size) hb
    have X469 := hbx hg (by have z := Z467.out; omega) X457
    clear X457
    have X470 := hbx hg (by have z := Z467.out; omega) X455
    clear X455
    have E471 := hkRB hg (by have z := Z467.out; omega) E459
    clear E459
    have E472 := Lib.hid (ExsB.kept (kept_ny hg (Or.imp_right Or.inl (by have z := Z467.out; omega)) (by have z := Z467.out; omega)) E460.out)
    clear E460
    have E473 := hkRB hg (by have z := Z467.out; omega) E462
    clear E462
    have E474 := Lib.hid (BlksB.kept (kept_ny hg (Or.imp_right Or.inl (by have z := Z467.out; omega)) (by have z := Z467.out; omega)) EB.out)
    clear EB
    have O475 := Lib.hid (Ow.gr O463.out hg (by have z := Z467.out; omega))
    clear O463
    have O476 := Lib.hid (Ow.gr O464.out hg (by have z := Z467.out; omega))
    clear O464
    have P477 := Lib.hid (P465.out.gr hg (by have z := Z467.out; omega))
    clear P465
    have G478 := hgt hg G466 (fun _ => by have z := Z467.out; omega)
    clear G466
    have Z479 := hzz hg Z467
    clear hg hb
    go_wp2_with fail
    go_roundw
    case rel => exact ⟨false, _, _, _, _, _, _, _, f2, rfl, (fun h => by cases h), fun _ => ⟨HR468.out, (by have z := Z479.out; have := HFC.out; have := HLD.out; have := HLR.out; have := HLR8.out; have := L8.out; have := LB.out; have := HL1.out; have := HL2.out; omega), (by have z := Z479.out; have := HFC2.out; omega)⟩, (by have z := Z479.out; have := HLD.out; have := HLR.out; have := HLR8.out; have := L8.out; have := LB.out; have := HL1.out; have := HL2.out; simp only [List.length_append, List.length_cons, List.length_nil]; omega), (by have z := Z479.out; have := HLD.out; have := HLR.out; have := HLR8.out; have := L8.out; have := LB.out; have := HL1.out; have := HL2.out; simp only [List.length_append, List.length_cons, List.length_nil]; omega), R408.out, P477.out, X469.out, X470.out, O475.out, O476.out, (ExsB.kept (ny_ny (O := [(Sl.v S339), (Sl.v S437)]) (O' := [(Sl.v S339), (Sl.v S437)]) (Nat.le_refl _) (by have z := Z479.out; omega) (fun v hv q e hq => ⟨v, hv, e⟩)) E472.out), (BlksB.kept (ny_ny (O := [(Sl.v S339), (Sl.v S437)]) (O' := [(Sl.v S339), (Sl.v S437)]) (Nat.le_refl _) (by have z := Z479.out; omega) (fun v hv q e hq => ⟨v, hv, e⟩)) E474.out), G478.out, (by have z := Z479.out; omega)⟩
    case measure => rw [NLEN.out, P477.out.len]; have z := Z479.out; have := HLD.out; have := HLR.out; have := HLR8.out; have := L8.out; have := LB.out; have := HL1.out; have := HL2.out; omega
end
end Go.Proofs.YtbcpkhegmbdifaaGreat.tr
