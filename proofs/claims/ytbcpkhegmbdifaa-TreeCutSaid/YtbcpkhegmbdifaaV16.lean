/- The landed parser's statements: count, over what the parts give. No condition but what each line says. -/
import Derived.Test.YtbcpkhegmbdifaaV15
namespace Go.Proofs.Ytbcpkhegmbdifaa.tr
open Go.ChangeShapes Go.WideShapes Go.ChangeAt Go.RowKit Go.Proofs.Ytbcpkhegmbdifaa.k Go.Proofs.Ytbcpkhegmbdifaa.rr Go.Proofs.Ytbcpkhegmbdifaa.tk
set_option linter.unusedVariables false

/-- a slice, made -/
theorem rb_list {α : Type} {enc : α → List Value} {z : Nat} (hz : ∀ x, (enc x).length = z) (w : World) (e : TypeId) (L : List α) (cs : Array Value) (hc : cs.toList = L.flatMap enc) {a b : Nat} (ha : a ≤ w.heap.size) (hb : w.heap.size + 1 ≤ b) (hl : L.length ≤ 20 := by decide) : RB enc z (w.alloc (.cells cs e)) (Nw a b) ⟨some ⟨w.heap.size, 0, none⟩, L.length, L.length⟩ L := by
  refine ⟨rfl, Nat.le_refl _, by show L.length ≤ maxLen; unfold maxLen; omega, (fun h => by cases h), fun _ => ⟨_, 0, rfl, ⟨ha, by omega⟩, fun i u hu j v hv => ?_⟩⟩
  have hj : j < z := by have := (List.getElem?_eq_some_iff.1 hv).1; rwa [hz] at this
  rw [World.cell?_alloc_mark]
  have : cs[0 + i * z + j]? = (L.flatMap enc)[i * z + j]? := by rw [← hc, Nat.zero_add]; simp
  rw [this, flat_at enc z hz L i j u hu hj]
  exact hv
section
variable {P : Program} {ops : Array Oper} {rest : List Oper} {op : Oper} {a : Act} {w : World} {Q : Exit → Act → World → Prop}
/-- a slice of three elements is made -/
theorem m_slice3 {α : Type} {enc : α → List Value} {z : Nat} (hz : ∀ x, (enc x).length = z) (x y x3 : α) (ST T u v v3 : Nat) (U V V3 : Value) (cs : Array Value) (ho : op.op = .buildSlice ST 3 #[(0, .tmp u), (1, .tmp v), (2, .tmp v3)]) (hg : op.guard = none) (hy : a.eval (.tmp u) = U) (hy2 : a.eval (.tmp v) = V) (hy3 : a.eval (.tmp v3) = V3)
    (hrun : ∀ w, (Instr.buildSlice ST 3 #[(0, U), (1, V), (2, V3)]).run P w = .ok (.slice (some ⟨w.heap.size, 0, none⟩) 3 3) (w.alloc (.cells cs T))) (hc : cs.toList = [x, y, x3].flatMap enc)
    (h : ∀ w', RB enc z w' (Nw w.heap.size (w.heap.size + 1)) ⟨some ⟨w.heap.size, 0, none⟩, 3, 3⟩ [x, y, x3] → Below w.heap.size w w' → w'.heap.size = w.heap.size + 1 → wpList P ops Q rest (a.put op.dst (.slice (some ⟨w.heap.size, 0, none⟩) 3 3)) w') : wpList P ops Q (op :: rest) a w := by
  refine wpList_plain hg fun K hK => ?_
  unfold Oper.wp execOp
  simp only [ho, List.map_toArray, List.map_cons, List.map_nil, hy, hy2, hy3, hrun, Sem.run_bind, Result.andThen_ok]
  exact hK _ _ (h _ (rb_list hz w T [x, y, x3] cs hc (Nat.le_refl _) (Nat.le_refl _) (show 3 ≤ 20 by decide)) ((Below.refl w.heap.size w).alloc (Nat.le_refl _) _) (by simp))
end
theorem bs_E3 (h h' h3 : EH) (w : World) : (Instr.buildSlice 33 3 #[(0, .agg (eC h).toArray), (1, .agg (eC h').toArray), (2, .agg (eC h3).toArray)]).run Try.prog w = .ok (.slice (some ⟨w.heap.size, 0, none⟩) 3 3) (w.alloc (.cells (eC h ++ (eC h' ++ eC h3)).toArray 35)) := by kernel_rfl
section
variable {r : Sg} {V : Value} {d g : Nat} {w : World}

set_option maxRecDepth 100000 in
set_option maxHeartbeats 4000000 in
theorem count_any (hP : Par w g r V d) (hr : RowOk r) (hd : d ≤ 32) {f : Nat} (hf : 20 * r.length + 12 ≤ f) (HB : ∀ ends r1, wordsB ends = true → RowOk r1 → r1.length ≤ r.length → BCtr Try.prog 20 ends (stmtsF f d ends r1 []) d r1) :
    Calls Try.prog 69 #[.pointer (some ⟨g, 0, none⟩)] w (Gv g V d w GotW ((want 1 r).bind fun t r' => (need [58, 61] r').bind fun _ r' => (expr f d r').bind fun a r' => (need [84, 79] r').bind fun _ r' => (expr f d r').bind fun c r' => (if txt r' = [66, 89] then expr f d (r'.drop 1) else .ok (Ex.mk 1 1 [] [] [] (tr.hd r').line) r').bind fun y r' => (need [68, 79] r').bind fun _ r' => (stmtsF f d [[69, 78, 68, 95, 70, 79, 82]] r' []).bind fun B r' => (need [69, 78, 68, 95, 70, 79, 82] r').bind fun _ r' => .ok (fun ln => St.mk 4 t.text zeroE zeroE [a, c, y] [] [] [B] ln) r')) := by
  obtain ⟨R, hR⟩ : ∃ R : Res (Nat → St), ((want 1 r).bind fun t r' => (need [58, 61] r').bind fun _ r' => (expr f d r').bind fun a r' => (need [84, 79] r').bind fun _ r' => (expr f d r').bind fun c r' => (if txt r' = [66, 89] then expr f d (r'.drop 1) else .ok (Ex.mk 1 1 [] [] [] (tr.hd r').line) r').bind fun y r' => (need [68, 79] r').bind fun _ r' => (stmtsF f d [[69, 78, 68, 95, 70, 79, 82]] r' []).bind fun B r' => (need [69, 78, 68, 95, 70, 79, 82] r').bind fun _ r' => .ok (fun ln => St.mk 4 t.text zeroE zeroE [a, c, y] [] [] [B] ln) r') = R := ⟨_, rfl⟩
  rw [hR]
  have HR := Lib.hid hR
  clear hR
  have HBB := Lib.hid HB
  have HF := Lib.hid hf
  have f1 := tok_f1 (tr.hd r)
  clear HB hf
  have P1 := Lib.hid hP
  have G1 := Lib.hid (gr_refl w (some g))
  have R1 := Lib.hid hr
  have Z1 := Lib.hid (show g < w.heap.size from hP.lt)
  clear hP hr
  go_enter Try.func69, Try.ntmps69
  go_upto_region 1 with (fail)
  have hb := (Below.refl w.heap.size w).alloc (Nat.le_refl _) (.cells #[.int .i64 0, .string ⟨#[]⟩, .int .i64 0, .int .i64 0, .string ⟨#[]⟩, .string ⟨#[]⟩, .slice none 0 0, .int .i64 0, .int .i64 0, .int .i64 0, .string ⟨#[]⟩, .string ⟨#[]⟩, .slice none 0 0, .int .i64 0, .slice none 0 0, .slice none 0 0, .slice none 0 0, .slice none 0 0, .int .i64 0] 40)
  have hx := Box.new w #[.int .i64 0, .string ⟨#[]⟩, .int .i64 0, .int .i64 0, .string ⟨#[]⟩, .string ⟨#[]⟩, .slice none 0 0, .int .i64 0, .int .i64 0, .int .i64 0, .string ⟨#[]⟩, .string ⟨#[]⟩, .slice none 0 0, .int .i64 0, .slice none 0 0, .slice none 0 0, .slice none 0 0, .slice none 0 0, .int .i64 0] 40
  have hz : (w.alloc (.cells #[.int .i64 0, .string ⟨#[]⟩, .int .i64 0, .int .i64 0, .string ⟨#[]⟩, .string ⟨#[]⟩, .slice none 0 0, .int .i64 0, .int .i64 0, .int .i64 0, .string ⟨#[]⟩, .string ⟨#[]⟩, .slice none 0 0, .int .i64 0, .slice none 0 0, .slice none 0 0, .slice none 0 0, .slice none 0 0, .int .i64 0] 40)).heap.size = w.heap.size + 1 := by simp
  generalize w.alloc (.cells #[.int .i64 0, .string ⟨#[]⟩, .int .i64 0, .int .i64 0, .string ⟨#[]⟩, .string ⟨#[]⟩, .slice none 0 0, .int .i64 0, .int .i64 0, .int .i64 0, .string ⟨#[]⟩, .string ⟨#[]⟩, .slice none 0 0, .int .i64 0, .slice none 0 0, .slice none 0 0, .slice none 0 0, .slice none 0 0, .int .i64 0] 40) = w4 at *
  have hg := gr_of (row := some w.heap.size) hb
  have Z2 := Lib.hid (And.intro hz Z1.out)
  have X3 := Lib.hid hx
  clear hb hx hz
  have P4 := Lib.hid (P1.out.gr hg (by have z := Z1.out; omega))
  clear P1
  have G5 := Lib.hid (gr_then G1.out (gr_below hg (by have z := Z1.out; have := G1.out.size; omega) G1.out.size))
  clear G1
  have Z6 := Lib.hid (And.intro (show w.heap.size ≤ w4.heap.size from hg.size) Z2.out)
  clear hg
  have L7 := Lib.hid (drop_len r)
  by_cases hs8 : (tr.hd (r)).kind = 1
  rotate_left
  · have hq := HR.out
    rw [want_badE hs8] at hq
    go_wp2_with (go_at_call 18; fail)
    refine (need_no P4.out R1.out (mt (headS_kind R1.out).1.1 hs8)).mono ?_
    rintro e w5 ⟨rfl, hb⟩
    go_wp2
    exact ⟨rfl, Gv.badOf hq.symm (gr_trans G5.out (gr_of hb))⟩
  have hq := HR.out
  rw [want_okE hs8, bind_okE] at hq
  have HR9 := Lib.hid hq
  clear hq HR
  have R10 := Lib.hid (R1.out.drop (by rw [hs8]; decide))
  go_wp2_with (go_at_call 18; fail)
  refine (need_yes P4.out R1.out ((headS_kind R1.out).1.2 hs8)).mono ?_
  rintro e w5 ⟨rfl, hp, hg⟩
  have P11 := Lib.hid hp
  have X12 := Lib.hid (gr_box hg (by have z := Z6.out; omega) (by have z := Z6.out; omega) X3.out)
  clear X3
  clear P4
  have G13 := Lib.hid (gr_trans G5.out hg)
  clear G5
  have Z14 := Lib.hid (And.intro (show w4.heap.size ≤ w5.heap.size from hg.size) Z6.out)
  clear hg hp
  clear R1
  generalize ((r).drop 1) = r15 at *
  have L16 := Lib.hid (show r15.length ≤ r.length by have := L7.out; omega)
  have L17 := Lib.hid (drop_len r15)
  by_cases hs18 : txt (r15) = [58, 61]
  rotate_left
  · have hq := HR9.out
    rw [need_badE hs18] at hq
    go_wp2_with (go_at_call 18; fail)
    refine (need_no P11.out R10.out (mt (headS_txt R10.out (by decide) (by decide) (by decide) (by decide)).1 hs18)).mono ?_
    rintro e w6 ⟨rfl, hb⟩
    go_wp2
    exact ⟨rfl, Gv.badOf hq.symm (gr_trans G13.out (gr_of hb))⟩
  have hq := HR9.out
  rw [need_okE hs18, bind_okE] at hq
  have HR19 := Lib.hid hq
  clear hq HR9
  have R20 := Lib.hid (R10.out.drop (txt_kind hs18 (by decide)))
  go_wp2_with (go_at_call 18; fail)
  refine (need_yes P11.out R10.out ((headS_txt R10.out (by decide) (by decide) (by decide) (by decide)).2 hs18)).mono ?_
  rintro e w6 ⟨rfl, hp, hg⟩
  have P21 := Lib.hid hp
  have X22 := Lib.hid (gr_box hg (by have z := Z14.out; omega) (by have z := Z14.out; omega) X12.out)
  clear X12
  clear P11
  have G23 := Lib.hid (gr_trans G13.out hg)
  clear G13
  have Z24 := Lib.hid (And.intro (show w5.heap.size ≤ w6.heap.size from hg.size) Z14.out)
  clear hg hp
  clear R10
  generalize ((r15).drop 1) = r25 at *
  have L26 := Lib.hid (show r25.length ≤ r.length by have := L17.out; have := L16.out; omega)
  have FI := Lib.hid (fin_expr (d := d) (f := f) (r := r25) (by have z := Z24.out; have := HF.out; have := L26.out; omega))
  go_wp2_with (go_at_call 82; fail)
  refine (expr_gets (f := f) (d := d) hd R20.out (by have z := Z24.out; have := HF.out; have := L26.out; omega) _ _ _ P21.out).mono ?_
  rintro e w7 hgv
  rcases hp : expr f d r25 with ⟨x1, r1⟩ | ⟨n9, t9⟩
  rotate_left
  · rw [hp] at hgv
    obtain ⟨rfl, hg⟩ := hgv
    have hq := HR19.out
    rw [hp] at hq
    go_wp2
    exact ⟨rfl, Gv.badOf hq.symm (gr_trans G23.out hg)⟩
  rw [hp] at hgv
  obtain ⟨⟨v9, rfl, hG⟩, hP9, hr9, hg⟩ := hgv
  have hq := HR19.out
  rw [hp] at hq
  try rw [bind_okE] at hq
  have HR27 := Lib.hid hq
  clear hq HR19
  have P28 := Lib.hid hP9
  have R29 := Lib.hid hr9
  have X30 := Lib.hid (gr_box hg (by have z := Z24.out; omega) (by have z := Z24.out; omega) X22.out)
  clear X22
  clear P21
  have G31 := Lib.hid (gr_trans G23.out hg)
  clear G23
  have Z32 := Lib.hid (And.intro (show w6.heap.size ≤ w7.heap.size from hg.size) Z24.out)
  clear hg hP9 hr9 R20
  obtain ⟨h33, rfl, hE9⟩ := hG
  have E34 := Lib.hid hE9
  clear hE9
  have L36 : Hid (r1.length < r25.length) := by
    have := FI.out
    rw [hp] at this
    exact Lib.hid this
  clear FI hp
  have L37 := Lib.hid (show r1.length ≤ r.length by have := L36.out; have := L26.out; omega)
  go_upto_region 4 with ((with_reducible refine m_new 35 4 16 ?_ ?_ ?_ (eC h33) ?_ ?_ ?_ ?_ (eC_one _) ?_); rfl; rfl; rfl; rfl; rfl; rfl; kernel_rfl; intro w8 hx hb hz)
  have hg := gr_of (row := some w7.heap.size) hb
  have Z38 := Lib.hid (And.intro hz Z32.out)
  have X39 := Lib.hid hx
  clear hb hx hz
  have X40 := Lib.hid (gr_box hg (by have z := Z32.out; omega) (by have z := Z32.out; omega) X30.out)
  clear X30
  have E41 := Lib.hid (ExB.kept (kept_nw hg (by have z := Z32.out; omega) (by have z := Z32.out; omega) (Nat.le_refl _) (Nat.le_refl _)) E34.out)
  clear E34
  have P42 := Lib.hid (P28.out.gr hg (by have z := Z32.out; omega))
  clear P28
  have G43 := Lib.hid (gr_then G31.out (gr_below hg (by have z := Z32.out; have := G31.out.size; omega) G31.out.size))
  clear G31
  have Z44 := Lib.hid (And.intro (show w7.heap.size ≤ w8.heap.size from hg.size) Z38.out)
  clear hg
  have L45 := Lib.hid (drop_len r1)
  by_cases hs46 : txt (r1) = [84, 79]
  rotate_left
  · have hq := HR27.out
    rw [need_badE hs46] at hq
    go_wp2_with (go_at_call 18; fail)
    refine (need_no P42.out R29.out (mt (headS_txt R29.out (by decide) (by decide) (by decide) (by decide)).1 hs46)).mono ?_
    rintro e w9 ⟨rfl, hb⟩
    go_wp2
    exact ⟨rfl, Gv.badOf hq.symm (gr_trans G43.out (gr_of hb))⟩
  have hq := HR27.out
  rw [need_okE hs46, bind_okE] at hq
  have HR47 := Lib.hid hq
  clear hq HR27
  have R48 := Lib.hid (R29.out.drop (txt_kind hs46 (by decide)))
  go_wp2_with (go_at_call 18; fail)
  refine (need_yes P42.out R29.out ((headS_txt R29.out (by decide) (by decide) (by decide) (by decide)).2 hs46)).mono ?_
  rintro e w9 ⟨rfl, hp, hg⟩
  have P49 := Lib.hid hp
  have X50 := Lib.hid (gr_box hg (by have z := Z44.out; omega) (by have z := Z44.out; omega) X40.out)
  clear X40
  have X51 := Lib.hid (gr_box hg (by have z := Z44.out; omega) (by have z := Z44.out; omega) X39.out)
  clear X39
  have E52 := Lib.hid (ExB.kept (kept_nw hg (by have z := Z44.out; omega) (by have z := Z44.out; omega) (Nat.le_refl _) (Nat.le_refl _)) E41.out)
  clear E41
  clear P42
  have G53 := Lib.hid (gr_trans G43.out hg)
  clear G43
  have Z54 := Lib.hid (And.intro (show w8.heap.size ≤ w9.heap.size from hg.size) Z44.out)
  clear hg hp
  clear R29
  generalize ((r1).drop 1) = r55 at *
  have L56 := Lib.hid (show r55.length ≤ r.length by have := L45.out; have := L37.out; omega)
  have FI := Lib.hid (fin_expr (d := d) (f := f) (r := r55) (by have z := Z54.out; have := HF.out; have := L56.out; omega))
  go_wp2_with (go_at_call 82; fail)
  refine (expr_gets (f := f) (d := d) hd R48.out (by have z := Z54.out; have := HF.out; have := L56.out; omega) _ _ _ P49.out).mono ?_
  rintro e w10 hgv
  rcases hp : expr f d r55 with ⟨x2, r2⟩ | ⟨n9, t9⟩
  rotate_left
  · rw [hp] at hgv
    obtain ⟨rfl, hg⟩ := hgv
    have hq := HR47.out
    rw [hp] at hq
    go_wp2
    exact ⟨rfl, Gv.badOf hq.symm (gr_trans G53.out hg)⟩
  rw [hp] at hgv
  obtain ⟨⟨v9, rfl, hG⟩, hP9, hr9, hg⟩ := hgv
  have hq := HR47.out
  rw [hp] at hq
  try rw [bind_okE] at hq
  have HR57 := Lib.hid hq
  clear hq HR47
  have P58 := Lib.hid hP9
  have R59 := Lib.hid hr9
  have X60 := Lib.hid (gr_box hg (by have z := Z54.out; omega) (by have z := Z54.out; omega) X50.out)
  clear X50
  have X61 := Lib.hid (gr_box hg (by have z := Z54.out; omega) (by have z := Z54.out; omega) X51.out)
  clear X51
  have E62 := Lib.hid (ExB.kept (kept_nw hg (by have z := Z54.out; omega) (by have z := Z54.out; omega) (Nat.le_refl _) (Nat.le_refl _)) E52.out)
  clear E52
  clear P49
  have G63 := Lib.hid (gr_trans G53.out hg)
  clear G53
  have Z64 := Lib.hid (And.intro (show w9.heap.size ≤ w10.heap.size from hg.size) Z54.out)
  clear hg hP9 hr9 R48
  obtain ⟨h65, rfl, hE9⟩ := hG
  have E66 := Lib.hid hE9
  clear hE9
  have L68 : Hid (r2.length < r55.length) := by
    have := FI.out
    rw [hp] at this
    exact Lib.hid this
  clear FI hp
  have L69 := Lib.hid (show r2.length ≤ r.length by have := L68.out; have := L56.out; omega)
  go_upto_region 6 with ((with_reducible refine m_new 35 5 20 ?_ ?_ ?_ (eC h65) ?_ ?_ ?_ ?_ (eC_one _) ?_); rfl; rfl; rfl; rfl; rfl; rfl; kernel_rfl; intro w11 hx hb hz)
  have hg := gr_of (row := some w10.heap.size) hb
  have Z70 := Lib.hid (And.intro hz Z64.out)
  have X71 := Lib.hid hx
  clear hb hx hz
  have X72 := Lib.hid (gr_box hg (by have z := Z64.out; omega) (by have z := Z64.out; omega) X60.out)
  clear X60
  have X73 := Lib.hid (gr_box hg (by have z := Z64.out; omega) (by have z := Z64.out; omega) X61.out)
  clear X61
  have E74 := Lib.hid (ExB.kept (kept_nw hg (by have z := Z64.out; omega) (by have z := Z64.out; omega) (Nat.le_refl _) (Nat.le_refl _)) E62.out)
  clear E62
  have E75 := Lib.hid (ExB.kept (kept_nw hg (by have z := Z64.out; omega) (by have z := Z64.out; omega) (Nat.le_refl _) (Nat.le_refl _)) E66.out)
  clear E66
  have P76 := Lib.hid (P58.out.gr hg (by have z := Z64.out; omega))
  clear P58
  have G77 := Lib.hid (gr_then G63.out (gr_below hg (by have z := Z64.out; have := G63.out.size; omega) G63.out.size))
  clear G63
  have Z78 := Lib.hid (And.intro (show w10.heap.size ≤ w11.heap.size from hg.size) Z70.out)
  clear hg
  go_upto_region 7 with ((with_reducible refine m_new 35 6 21 ?_ ?_ ?_ (eC ⟨1, 1, [], [], ⟨none, 0, 0⟩, 0⟩) ?_ ?_ ?_ ?_ (eC_one _) ?_); rfl; rfl; rfl; rfl; rfl; rfl; kernel_rfl; intro w12 hx hb hz)
  have hg := gr_of (row := some w11.heap.size) hb
  have Z79 := Lib.hid (And.intro hz Z78.out)
  have X80 := Lib.hid hx
  clear hb hx hz
  have X81 := Lib.hid (gr_box hg (by have z := Z78.out; omega) (by have z := Z78.out; omega) X72.out)
  clear X72
  have X82 := Lib.hid (gr_box hg (by have z := Z78.out; omega) (by have z := Z78.out; omega) X73.out)
  clear X73
  have X83 := Lib.hid (gr_box hg (by have z := Z78.out; omega) (by have z := Z78.out; omega) X71.out)
  clear X71
  have E84 := Lib.hid (ExB.kept (kept_nw hg (by have z := Z78.out; omega) (by have z := Z78.out; omega) (Nat.le_refl _) (Nat.le_refl _)) E74.out)
  clear E74
  have E85 := Lib.hid (ExB.kept (kept_nw hg (by have z := Z78.out; omega) (by have z := Z78.out; omega) (Nat.le_refl _) (Nat.le_refl _)) E75.out)
  clear E75
  have P86 := Lib.hid (P76.out.gr hg (by have z := Z78.out; omega))
  clear P76
  have G87 := Lib.hid (gr_then G77.out (gr_below hg (by have z := Z78.out; have := G77.out.size; omega) G77.out.size))
  clear G77
  have Z88 := Lib.hid (And.intro (show w11.heap.size ≤ w12.heap.size from hg.size) Z79.out)
  clear hg
  by_cases hw : txt r2 = [66, 89]
  · skip
    have hq := HR57.out
    rw [if_pos hw] at hq
    have HR89 := Lib.hid hq
    clear hq HR57
    have L90 := Lib.hid (drop_len r2)
    have R91 := Lib.hid (R59.out.drop (txt_kind hw (by decide)))
    go_wp2_with (go_at_call 30; fail)
    refine (take_yes P86.out R59.out ((headS_txt R59.out (by decide) (by decide) (by decide) (by decide)).2 hw) (txt_kind hw (by decide))).mono ?_
    rintro e w13 ⟨rfl, hp, hg⟩
    have P92 := Lib.hid hp
    have X93 := Lib.hid (gr_box hg (by have z := Z88.out; omega) (by have z := Z88.out; omega) X81.out)
    clear X81
    have X94 := Lib.hid (gr_box hg (by have z := Z88.out; omega) (by have z := Z88.out; omega) X82.out)
    clear X82
    have X95 := Lib.hid (gr_box hg (by have z := Z88.out; omega) (by have z := Z88.out; omega) X83.out)
    clear X83
    have X96 := Lib.hid (gr_box hg (by have z := Z88.out; omega) (by have z := Z88.out; omega) X80.out)
    clear X80
    have E97 := Lib.hid (ExB.kept (kept_nw hg (by have z := Z88.out; omega) (by have z := Z88.out; omega) (Nat.le_refl _) (Nat.le_refl _)) E84.out)
    clear E84
    have E98 := Lib.hid (ExB.kept (kept_nw hg (by have z := Z88.out; omega) (by have z := Z88.out; omega) (Nat.le_refl _) (Nat.le_refl _)) E85.out)
    clear E85
    clear P86
    have G99 := Lib.hid (gr_trans G87.out hg)
    clear G87
    have Z100 := Lib.hid (And.intro (show w12.heap.size ≤ w13.heap.size from hg.size) Z88.out)
    clear hg hp
    clear R59
    generalize ((r2).drop 1) = r101 at *
    have L102 := Lib.hid (show r101.length ≤ r.length by have := L90.out; have := L69.out; omega)
    have FI := Lib.hid (fin_expr (d := d) (f := f) (r := r101) (by have z := Z100.out; have := HF.out; have := L102.out; omega))
    go_wp2_with (go_at_call 82; fail)
    refine (expr_gets (f := f) (d := d) hd R91.out (by have z := Z100.out; have := HF.out; have := L102.out; omega) _ _ _ P92.out).mono ?_
    rintro e w14 hgv
    rcases hp : expr f d r101 with ⟨x3, r3⟩ | ⟨n9, t9⟩
    rotate_left
    · rw [hp] at hgv
      obtain ⟨rfl, hg⟩ := hgv
      have hq := HR89.out
      rw [hp] at hq
      go_wp2
      exact ⟨rfl, Gv.badOf hq.symm (gr_trans G99.out hg)⟩
    rw [hp] at hgv
    obtain ⟨⟨v9, rfl, hG⟩, hP9, hr9, hg⟩ := hgv
    have hq := HR89.out
    rw [hp] at hq
    try rw [bind_okE] at hq
    have HR103 := Lib.hid hq
    clear hq HR89
    have P104 := Lib.hid hP9
    have R105 := Lib.hid hr9
    have X106 := Lib.hid (gr_box hg (by have z := Z100.out; omega) (by have z := Z100.out; omega) X93.out)
    clear X93
    have X107 := Lib.hid (gr_box hg (by have z := Z100.out; omega) (by have z := Z100.out; omega) X94.out)
    clear X94
    have X108 := Lib.hid (gr_box hg (by have z := Z100.out; omega) (by have z := Z100.out; omega) X95.out)
    clear X95
    have X109 := Lib.hid (gr_box hg (by have z := Z100.out; omega) (by have z := Z100.out; omega) X96.out)
    clear X96
    have E110 := Lib.hid (ExB.kept (kept_nw hg (by have z := Z100.out; omega) (by have z := Z100.out; omega) (Nat.le_refl _) (Nat.le_refl _)) E97.out)
    clear E97
    have E111 := Lib.hid (ExB.kept (kept_nw hg (by have z := Z100.out; omega) (by have z := Z100.out; omega) (Nat.le_refl _) (Nat.le_refl _)) E98.out)
    clear E98
    clear P92
    have G112 := Lib.hid (gr_trans G99.out hg)
    clear G99
    have Z113 := Lib.hid (And.intro (show w13.heap.size ≤ w14.heap.size from hg.size) Z100.out)
    clear hg hP9 hr9 R91
    obtain ⟨h114, rfl, hE9⟩ := hG
    have E115 := Lib.hid hE9
    clear hE9
    have L117 : Hid (r3.length < r101.length) := by
      have := FI.out
      rw [hp] at this
      exact Lib.hid this
    clear FI hp
    have L118 := Lib.hid (show r3.length ≤ r.length by have := L117.out; have := L102.out; omega)
    go_upto_region 10 with ((with_reducible refine m_store X109.out 35 6 26 ?_ ?_ ?_ (eC h114) ?_ ?_ ?_ ?_ (eC_one _) ?_); rfl; rfl; rfl; rfl; rfl; rfl; kernel_rfl; intro w15 hx hg hs)
    have X119 := Lib.hid hx
    have Z120 := Lib.hid (And.intro hs Z113.out)
    clear hx hs X109
    have X121 := Lib.hid (gr_box hg (by have z := Z113.out; omega) (by have z := Z113.out; omega) X106.out)
    clear X106
    have X122 := Lib.hid (gr_box hg (by have z := Z113.out; omega) (by have z := Z113.out; omega) X107.out)
    clear X107
    have X123 := Lib.hid (gr_box hg (by have z := Z113.out; omega) (by have z := Z113.out; omega) X108.out)
    clear X108
    have E124 := Lib.hid (ExB.kept (kept_nw hg (by have z := Z113.out; omega) (by have z := Z113.out; omega) (Nat.le_refl _) (Nat.le_refl _)) E110.out)
    clear E110
    have E125 := Lib.hid (ExB.kept (kept_nw hg (by have z := Z113.out; omega) (by have z := Z113.out; omega) (Nat.le_refl _) (Nat.le_refl _)) E111.out)
    clear E111
    have E126 := Lib.hid (ExB.kept (kept_nw hg (by have z := Z113.out; omega) (by have z := Z113.out; omega) (Nat.le_refl _) (Nat.le_refl _)) E115.out)
    clear E115
    have P127 := Lib.hid (P104.out.gr hg (by have z := Z113.out; omega))
    clear P104
    have G128 := Lib.hid (gr_then G112.out (gr_below hg (by have z := Z113.out; have := G112.out.size; omega) G112.out.size))
    clear G112
    have Z129 := Lib.hid (And.intro (show w14.heap.size ≤ w15.heap.size from hg.size) Z120.out)
    clear hg
    have L130 := Lib.hid (drop_len r3)
    by_cases hs131 : txt (r3) = [68, 79]
    rotate_left
    · have hq := HR103.out
      rw [need_badE hs131] at hq
      go_wp2_with (go_at_call 18; fail)
      refine (need_no P127.out R105.out (mt (headS_txt R105.out (by decide) (by decide) (by decide) (by decide)).1 hs131)).mono ?_
      rintro e w16 ⟨rfl, hb⟩
      go_wp2
      exact ⟨rfl, Gv.badOf hq.symm (gr_trans G128.out (gr_of hb))⟩
    have hq := HR103.out
    rw [need_okE hs131, bind_okE] at hq
    have HR132 := Lib.hid hq
    clear hq HR103
    have R133 := Lib.hid (R105.out.drop (txt_kind hs131 (by decide)))
    go_wp2_with (go_at_call 18; fail)
    refine (need_yes P127.out R105.out ((headS_txt R105.out (by decide) (by decide) (by decide) (by decide)).2 hs131)).mono ?_
    rintro e w16 ⟨rfl, hp, hg⟩
    have P134 := Lib.hid hp
    have X135 := Lib.hid (gr_box hg (by have z := Z129.out; omega) (by have z := Z129.out; omega) X121.out)
    clear X121
    have X136 := Lib.hid (gr_box hg (by have z := Z129.out; omega) (by have z := Z129.out; omega) X122.out)
    clear X122
    have X137 := Lib.hid (gr_box hg (by have z := Z129.out; omega) (by have z := Z129.out; omega) X123.out)
    clear X123
    have X138 := Lib.hid (gr_box hg (by have z := Z129.out; omega) (by have z := Z129.out; omega) X119.out)
    clear X119
    have E139 := Lib.hid (ExB.kept (kept_nw hg (by have z := Z129.out; omega) (by have z := Z129.out; omega) (Nat.le_refl _) (Nat.le_refl _)) E124.out)
    clear E124
    have E140 := Lib.hid (ExB.kept (kept_nw hg (by have z := Z129.out; omega) (by have z := Z129.out; omega) (Nat.le_refl _) (Nat.le_refl _)) E125.out)
    clear E125
    have E141 := Lib.hid (ExB.kept (kept_nw hg (by have z := Z129.out; omega) (by have z := Z129.out; omega) (Nat.le_refl _) (Nat.le_refl _)) E126.out)
    clear E126
    clear P127
    have G142 := Lib.hid (gr_trans G128.out hg)
    clear G128
    have Z143 := Lib.hid (And.intro (show w15.heap.size ≤ w16.heap.size from hg.size) Z129.out)
    clear hg hp
    clear R105
    generalize ((r3).drop 1) = r144 at *
    have L145 := Lib.hid (show r144.length ≤ r.length by have := L130.out; have := L118.out; omega)
    go_upto_region 11 with ((with_reducible refine m_new 29 8 28 ?_ ?_ ?_ (tC (tr.hd r3)) ?_ ?_ ?_ ?_ (tC_one _) ?_); rfl; rfl; rfl; rfl; rfl; rfl; kernel_rfl; intro w17 hx hb hz)
    have hg := gr_of (row := some w16.heap.size) hb
    have Z146 := Lib.hid (And.intro hz Z143.out)
    have X147 := Lib.hid hx
    clear hb hx hz
    have X148 := Lib.hid (gr_box hg (by have z := Z143.out; omega) (by have z := Z143.out; omega) X135.out)
    clear X135
    have X149 := Lib.hid (gr_box hg (by have z := Z143.out; omega) (by have z := Z143.out; omega) X136.out)
    clear X136
    have X150 := Lib.hid (gr_box hg (by have z := Z143.out; omega) (by have z := Z143.out; omega) X137.out)
    clear X137
    have X151 := Lib.hid (gr_box hg (by have z := Z143.out; omega) (by have z := Z143.out; omega) X138.out)
    clear X138
    have E152 := Lib.hid (ExB.kept (kept_nw hg (by have z := Z143.out; omega) (by have z := Z143.out; omega) (Nat.le_refl _) (Nat.le_refl _)) E139.out)
    clear E139
    have E153 := Lib.hid (ExB.kept (kept_nw hg (by have z := Z143.out; omega) (by have z := Z143.out; omega) (Nat.le_refl _) (Nat.le_refl _)) E140.out)
    clear E140
    have E154 := Lib.hid (ExB.kept (kept_nw hg (by have z := Z143.out; omega) (by have z := Z143.out; omega) (Nat.le_refl _) (Nat.le_refl _)) E141.out)
    clear E141
    have P155 := Lib.hid (P134.out.gr hg (by have z := Z143.out; omega))
    clear P134
    have G156 := Lib.hid (gr_then G142.out (gr_below hg (by have z := Z143.out; have := G142.out.size; omega) G142.out.size))
    clear G142
    have Z157 := Lib.hid (And.intro (show w16.heap.size ≤ w17.heap.size from hg.size) Z146.out)
    clear hg
    have FI := Lib.hid (fin_stmts (d := d) (f := f) (r := r144) (ends := [[69, 78, 68, 95, 70, 79, 82]]) (ac := []) (by have z := Z157.out; have := HF.out; have := L145.out; omega))
    go_wp2_with (go_at_call 20; fail)
    have hb := (Below.refl w17.heap.size w17).alloc (Nat.le_refl _) (.cells #[.string ⟨#[69, 78, 68, 95, 70, 79, 82]⟩] 9)
    have hR : RB tC1 1 (w17.alloc (.cells #[.string ⟨#[69, 78, 68, 95, 70, 79, 82]⟩] 9)) (Nw w17.heap.size (w17.heap.size + 1)) ⟨some ⟨w17.heap.size, 0, none⟩, 1, 1⟩ [[69, 78, 68, 95, 70, 79, 82]] := rb_many w17 9 [[69, 78, 68, 95, 70, 79, 82]] #[.string ⟨#[69, 78, 68, 95, 70, 79, 82]⟩] rfl (Nat.le_refl _) (Nat.le_refl _)
    have hz : (w17.alloc (.cells #[.string ⟨#[69, 78, 68, 95, 70, 79, 82]⟩] 9)).heap.size = w17.heap.size + 1 := by simp
    generalize w17.alloc (.cells #[.string ⟨#[69, 78, 68, 95, 70, 79, 82]⟩] 9) = w18 at *
    have hg := gr_of (row := some w17.heap.size) hb
    have HZ1 := Lib.hid hz
    have HRB := Lib.hid hR
    clear hb hR hz
    have Z158 := Lib.hid (And.intro HZ1.out Z157.out)
    have E159 := HRB
    clear HZ1 HRB
    have X160 := Lib.hid (gr_box hg (by have z := Z157.out; omega) (by have z := Z157.out; omega) X148.out)
    clear X148
    have X161 := Lib.hid (gr_box hg (by have z := Z157.out; omega) (by have z := Z157.out; omega) X149.out)
    clear X149
    have X162 := Lib.hid (gr_box hg (by have z := Z157.out; omega) (by have z := Z157.out; omega) X150.out)
    clear X150
    have X163 := Lib.hid (gr_box hg (by have z := Z157.out; omega) (by have z := Z157.out; omega) X151.out)
    clear X151
    have X164 := Lib.hid (gr_box hg (by have z := Z157.out; omega) (by have z := Z157.out; omega) X147.out)
    clear X147
    have E165 := Lib.hid (ExB.kept (kept_nw hg (by have z := Z157.out; omega) (by have z := Z157.out; omega) (Nat.le_refl _) (Nat.le_refl _)) E152.out)
    clear E152
    have E166 := Lib.hid (ExB.kept (kept_nw hg (by have z := Z157.out; omega) (by have z := Z157.out; omega) (Nat.le_refl _) (Nat.le_refl _)) E153.out)
    clear E153
    have E167 := Lib.hid (ExB.kept (kept_nw hg (by have z := Z157.out; omega) (by have z := Z157.out; omega) (Nat.le_refl _) (Nat.le_refl _)) E154.out)
    clear E154
    have P168 := Lib.hid (P155.out.gr hg (by have z := Z157.out; omega))
    clear P155
    have G169 := Lib.hid (gr_then G156.out (gr_below hg (by have z := Z157.out; have := G156.out.size; omega) G156.out.size))
    clear G156
    have Z170 := Lib.hid (And.intro (show w17.heap.size ≤ w18.heap.size from hg.size) Z158.out)
    clear hg
    refine (HBB.out [[69, 78, 68, 95, 70, 79, 82]] r144 (by decide) R133.out L145.out _ _ _ _ P168.out (by have z := Z170.out; omega) (by have z := Z170.out; omega) E159.out).mono ?_
    rintro e w19 hgv
    rcases hp : stmtsF f d [[69, 78, 68, 95, 70, 79, 82]] r144 [] with ⟨B1, r8⟩ | ⟨n9, t9⟩
    rotate_left
    · rw [hp] at hgv
      obtain ⟨rfl, hg⟩ := hgv
      have hq := HR132.out
      rw [hp] at hq
      go_wp2
      exact ⟨rfl, Gv.badOf hq.symm (gr_trans G169.out hg)⟩
    rw [hp] at hgv
    obtain ⟨⟨v9, rfl, hG⟩, hP9, hr9, hg⟩ := hgv
    have hq := HR132.out
    rw [hp] at hq
    try rw [bind_okE] at hq
    have HR172 := Lib.hid hq
    clear hq HR132
    have P173 := Lib.hid hP9
    have R174 := Lib.hid hr9
    have X175 := Lib.hid (gr_box hg (by have z := Z170.out; omega) (by have z := Z170.out; omega) X160.out)
    clear X160
    have X176 := Lib.hid (gr_box hg (by have z := Z170.out; omega) (by have z := Z170.out; omega) X161.out)
    clear X161
    have X177 := Lib.hid (gr_box hg (by have z := Z170.out; omega) (by have z := Z170.out; omega) X162.out)
    clear X162
    have X178 := Lib.hid (gr_box hg (by have z := Z170.out; omega) (by have z := Z170.out; omega) X163.out)
    clear X163
    have X179 := Lib.hid (gr_box hg (by have z := Z170.out; omega) (by have z := Z170.out; omega) X164.out)
    clear X164
    have E180 := Lib.hid (ExB.kept (kept_nw hg (by have z := Z170.out; omega) (by have z := Z170.out; omega) (Nat.le_refl _) (Nat.le_refl _)) E165.out)
    clear E165
    have E181 := Lib.hid (ExB.kept (kept_nw hg (by have z := Z170.out; omega) (by have z := Z170.out; omega) (Nat.le_refl _) (Nat.le_refl _)) E166.out)
    clear E166
    have E182 := Lib.hid (ExB.kept (kept_nw hg (by have z := Z170.out; omega) (by have z := Z170.out; omega) (Nat.le_refl _) (Nat.le_refl _)) E167.out)
    clear E167
    have E183 := Lib.hid (RB.kept (kept_nw hg (by have z := Z170.out; omega) (by have z := Z170.out; omega) (Nat.le_refl _) (Nat.le_refl _)) E159.out)
    clear E159
    clear P168
    have G184 := Lib.hid (gr_trans G169.out hg)
    clear G169
    have Z185 := Lib.hid (And.intro (show w18.heap.size ≤ w19.heap.size from hg.size) Z170.out)
    clear hg hP9 hr9 R133
    obtain ⟨s186, rfl, hE9⟩ := hG
    have E187 := Lib.hid hE9
    clear hE9
    clear E183
    have L189 : Hid (r8.length < r144.length + 1) := by
      have := FI.out
      rw [hp] at this
      exact Lib.hid this
    clear FI hp
    have L190 := Lib.hid (show r8.length ≤ r.length by have := L189.out; have := L145.out; omega)
    by_cases hs191 : txt (r8) = [69, 78, 68, 95, 70, 79, 82]
    rotate_left
    · have hq := HR172.out
      rw [need_badE hs191] at hq
      go_wp2_with (go_at_call 18; fail)
      refine (need_no P173.out R174.out (mt (headS_txt R174.out (by decide) (by decide) (by decide) (by decide)).1 hs191)).mono ?_
      rintro e w20 ⟨rfl, hb⟩
      go_wp2
      exact ⟨rfl, Gv.badOf hq.symm (gr_trans G184.out (gr_of hb))⟩
    have hq := HR172.out
    rw [need_okE hs191, bind_okE] at hq
    have HR192 := Lib.hid hq
    clear hq HR172
    have R193 := Lib.hid (R174.out.drop (txt_kind hs191 (by decide)))
    go_wp2_with (go_at_call 18; fail)
    refine (need_yes P173.out R174.out ((headS_txt R174.out (by decide) (by decide) (by decide) (by decide)).2 hs191)).mono ?_
    rintro e w20 ⟨rfl, hp, hg⟩
    have P194 := Lib.hid hp
    have X195 := Lib.hid (gr_box hg (by have z := Z185.out; omega) (by have z := Z185.out; omega) X175.out)
    clear X175
    have X196 := Lib.hid (gr_box hg (by have z := Z185.out; omega) (by have z := Z185.out; omega) X176.out)
    clear X176
    have X197 := Lib.hid (gr_box hg (by have z := Z185.out; omega) (by have z := Z185.out; omega) X177.out)
    clear X177
    have X198 := Lib.hid (gr_box hg (by have z := Z185.out; omega) (by have z := Z185.out; omega) X178.out)
    clear X178
    have X199 := Lib.hid (gr_box hg (by have z := Z185.out; omega) (by have z := Z185.out; omega) X179.out)
    clear X179
    have E200 := Lib.hid (ExB.kept (kept_nw hg (by have z := Z185.out; omega) (by have z := Z185.out; omega) (Nat.le_refl _) (Nat.le_refl _)) E180.out)
    clear E180
    have E201 := Lib.hid (ExB.kept (kept_nw hg (by have z := Z185.out; omega) (by have z := Z185.out; omega) (Nat.le_refl _) (Nat.le_refl _)) E181.out)
    clear E181
    have E202 := Lib.hid (ExB.kept (kept_nw hg (by have z := Z185.out; omega) (by have z := Z185.out; omega) (Nat.le_refl _) (Nat.le_refl _)) E182.out)
    clear E182
    have E203 := Lib.hid (StLB.kept (kept_nw hg (by have z := Z185.out; omega) (by have z := Z185.out; omega) (Nat.le_refl _) (Nat.le_refl _)) E187.out)
    clear E187
    clear P173
    have G204 := Lib.hid (gr_trans G184.out hg)
    clear G184
    have Z205 := Lib.hid (And.intro (show w19.heap.size ≤ w20.heap.size from hg.size) Z185.out)
    clear hg hp
    clear R174
    generalize ((r8).drop 1) = r206 at *
    go_wp2_with (first | ((with_reducible refine m_load X196.out 35 4 ?_ ?_ ?_ ?_ ?_ ?_); rfl; rfl; rfl; rfl; kernel_rfl) | ((with_reducible refine m_load X197.out 35 5 ?_ ?_ ?_ ?_ ?_ ?_); rfl; rfl; rfl; rfl; kernel_rfl) | ((with_reducible refine m_load X198.out 35 6 ?_ ?_ ?_ ?_ ?_ ?_); rfl; rfl; rfl; rfl; kernel_rfl) | ((with_reducible refine m_slice3 eC_len h33 h65 h114 33 35 40 41 42 (.agg (eC h33).toArray) (.agg (eC h65).toArray) (.agg (eC h114).toArray) (eC h33 ++ (eC h65 ++ eC h114)).toArray ?_ ?_ ?_ ?_ ?_ (bs_E3 h33 h65 h114) ?_ ?_); rfl; rfl; rfl; rfl; rfl; rfl; intro w21 hrb hb1 hz1; have XR1 := Lib.hid (X195.out.below hb1 (by have z := Z205.out; omega)); have HRB := Lib.hid hrb; have HB1 := Lib.hid hb1; have HZ1 := Lib.hid hz1; clear hrb hb1 hz1) | ((with_reducible refine m_slice1 (enc := slC) (z := 1) s186 38 24 44 (Sl.v s186) (slC s186).toArray ?_ ?_ ?_ (bs_L s186) ?_ ?_); rfl; rfl; rfl; rfl; intro w22 hrb hb1 hz1; have XR2 := Lib.hid (XR1.out.below hb1 (Nat.lt_of_lt_of_le (by have z := Z205.out; omega) HB1.out.size)); have HRBb := Lib.hid hrb; have HB1b := Lib.hid hb1; have HZ1b := Lib.hid hz1; clear hrb hb1 hz1) | ((with_reducible refine m_store XR2.out 40 2 46 ?_ ?_ ?_ (sC ⟨4, (tr.hd (r)).text, ⟨0, 0, [], [], ⟨none, 0, 0⟩, 0⟩, ⟨0, 0, [], [], ⟨none, 0, 0⟩, 0⟩, ⟨some ⟨w20.heap.size, 0, none⟩, 3, 3⟩, ⟨none, 0, 0⟩, ⟨none, 0, 0⟩, ⟨some ⟨w21.heap.size, 0, none⟩, 1, 1⟩, 0⟩) ?_ ?_ ?_ ?_ (sC_one _) ?_); rfl; rfl; rfl; rfl; rfl; rfl; kernel_rfl; intro w23 hx hg hs))
    have HX9 := Lib.hid hx
    have HG9 := Lib.hid hg
    have HS9 := Lib.hid hs
    clear hx hg hs XR1 XR2
    have hg := gr_of (row := some w20.heap.size) HB1.out
    have Z207 := Lib.hid (And.intro HZ1.out Z205.out)
    have E208 := HRB
    clear HZ1 HRB
    have X209 := Lib.hid (gr_box hg (by have z := Z205.out; omega) (by have z := Z205.out; omega) X195.out)
    clear X195
    have X210 := Lib.hid (gr_box hg (by have z := Z205.out; omega) (by have z := Z205.out; omega) X196.out)
    clear X196
    have X211 := Lib.hid (gr_box hg (by have z := Z205.out; omega) (by have z := Z205.out; omega) X197.out)
    clear X197
    have X212 := Lib.hid (gr_box hg (by have z := Z205.out; omega) (by have z := Z205.out; omega) X198.out)
    clear X198
    have X213 := Lib.hid (gr_box hg (by have z := Z205.out; omega) (by have z := Z205.out; omega) X199.out)
    clear X199
    have E214 := Lib.hid (ExB.kept (kept_nw hg (by have z := Z205.out; omega) (by have z := Z205.out; omega) (Nat.le_refl _) (Nat.le_refl _)) E200.out)
    clear E200
    have E215 := Lib.hid (ExB.kept (kept_nw hg (by have z := Z205.out; omega) (by have z := Z205.out; omega) (Nat.le_refl _) (Nat.le_refl _)) E201.out)
    clear E201
    have E216 := Lib.hid (ExB.kept (kept_nw hg (by have z := Z205.out; omega) (by have z := Z205.out; omega) (Nat.le_refl _) (Nat.le_refl _)) E202.out)
    clear E202
    have E217 := Lib.hid (StLB.kept (kept_nw hg (by have z := Z205.out; omega) (by have z := Z205.out; omega) (Nat.le_refl _) (Nat.le_refl _)) E203.out)
    clear E203
    have P218 := Lib.hid (P194.out.gr hg (by have z := Z205.out; omega))
    clear P194
    have G219 := Lib.hid (gr_then G204.out (gr_below hg (by have z := Z205.out; have := G204.out.size; omega) G204.out.size))
    clear G204
    have Z220 := Lib.hid (And.intro (show w20.heap.size ≤ w21.heap.size from hg.size) Z207.out)
    clear hg HB1
    have hg := gr_of (row := some w21.heap.size) HB1b.out
    have Z222 := Lib.hid (And.intro HZ1b.out Z220.out)
    have E223 := HRBb
    clear HZ1b HRBb
    have X224 := Lib.hid (gr_box hg (by have z := Z220.out; omega) (by have z := Z220.out; omega) X209.out)
    clear X209
    have X225 := Lib.hid (gr_box hg (by have z := Z220.out; omega) (by have z := Z220.out; omega) X210.out)
    clear X210
    have X226 := Lib.hid (gr_box hg (by have z := Z220.out; omega) (by have z := Z220.out; omega) X211.out)
    clear X211
    have X227 := Lib.hid (gr_box hg (by have z := Z220.out; omega) (by have z := Z220.out; omega) X212.out)
    clear X212
    have X228 := Lib.hid (gr_box hg (by have z := Z220.out; omega) (by have z := Z220.out; omega) X213.out)
    clear X213
    have E229 := Lib.hid (ExB.kept (kept_nw hg (by have z := Z220.out; omega) (by have z := Z220.out; omega) (Nat.le_refl _) (Nat.le_refl _)) E214.out)
    clear E214
    have E230 := Lib.hid (ExB.kept (kept_nw hg (by have z := Z220.out; omega) (by have z := Z220.out; omega) (Nat.le_refl _) (Nat.le_refl _)) E215.out)
    clear E215
    have E231 := Lib.hid (ExB.kept (kept_nw hg (by have z := Z220.out; omega) (by have z := Z220.out; omega) (Nat.le_refl _) (Nat.le_refl _)) E216.out)
    clear E216
    have E232 := Lib.hid (StLB.kept (kept_nw hg (by have z := Z220.out; omega) (by have z := Z220.out; omega) (Nat.le_refl _) (Nat.le_refl _)) E217.out)
    clear E217
    have E233 := Lib.hid (RB.kept (kept_nw hg (by have z := Z220.out; omega) (by have z := Z220.out; omega) (Nat.le_refl _) (Nat.le_refl _)) E208.out)
    clear E208
    have P234 := Lib.hid (P218.out.gr hg (by have z := Z220.out; omega))
    clear P218
    have G235 := Lib.hid (gr_then G219.out (gr_below hg (by have z := Z220.out; have := G219.out.size; omega) G219.out.size))
    clear G219
    have Z236 := Lib.hid (And.intro (show w21.heap.size ≤ w22.heap.size from hg.size) Z222.out)
    clear hg HB1b
    have hx := HX9.out
    have hg := HG9.out
    have hs := HS9.out
    clear HX9 HG9 HS9
    have X238 := Lib.hid hx
    have Z239 := Lib.hid (And.intro hs Z236.out)
    clear hx hs X224
    have X240 := Lib.hid (gr_box hg (by have z := Z236.out; omega) (by have z := Z236.out; omega) X225.out)
    clear X225
    have X241 := Lib.hid (gr_box hg (by have z := Z236.out; omega) (by have z := Z236.out; omega) X226.out)
    clear X226
    have X242 := Lib.hid (gr_box hg (by have z := Z236.out; omega) (by have z := Z236.out; omega) X227.out)
    clear X227
    have X243 := Lib.hid (gr_box hg (by have z := Z236.out; omega) (by have z := Z236.out; omega) X228.out)
    clear X228
    have E244 := Lib.hid (ExB.kept (kept_nw hg (by have z := Z236.out; omega) (by have z := Z236.out; omega) (Nat.le_refl _) (Nat.le_refl _)) E229.out)
    clear E229
    have E245 := Lib.hid (ExB.kept (kept_nw hg (by have z := Z236.out; omega) (by have z := Z236.out; omega) (Nat.le_refl _) (Nat.le_refl _)) E230.out)
    clear E230
    have E246 := Lib.hid (ExB.kept (kept_nw hg (by have z := Z236.out; omega) (by have z := Z236.out; omega) (Nat.le_refl _) (Nat.le_refl _)) E231.out)
    clear E231
    have E247 := Lib.hid (StLB.kept (kept_nw hg (by have z := Z236.out; omega) (by have z := Z236.out; omega) (Nat.le_refl _) (Nat.le_refl _)) E232.out)
    clear E232
    have E248 := Lib.hid (RB.kept (kept_nw hg (by have z := Z236.out; omega) (by have z := Z236.out; omega) (Nat.le_refl _) (Nat.le_refl _)) E233.out)
    clear E233
    have E249 := Lib.hid (RB.kept (kept_nw hg (by have z := Z236.out; omega) (by have z := Z236.out; omega) (Nat.le_refl _) (Nat.le_refl _)) E223.out)
    clear E223
    have P250 := Lib.hid (P234.out.gr hg (by have z := Z236.out; omega))
    clear P234
    have G251 := Lib.hid (gr_then G235.out (gr_below hg (by have z := Z236.out; have := G235.out.size; omega) G235.out.size))
    clear G235
    have Z252 := Lib.hid (And.intro (show w22.heap.size ≤ w23.heap.size from hg.size) Z239.out)
    clear hg
    refine bodyPost_ret (k.results_cell rfl rfl (run_loadVar_mid _ w.heap.size 0 40 _ _ X238.out.range rfl rfl (by kernel_rfl))) rfl ?_
    refine Gv.okOf HR192.out.symm ⟨fun _ => rfl, ⟨4, (tr.hd (r)).text, ⟨0, 0, [], [], ⟨none, 0, 0⟩, 0⟩, ⟨0, 0, [], [], ⟨none, 0, 0⟩, 0⟩, ⟨some ⟨w20.heap.size, 0, none⟩, 3, 3⟩, ⟨none, 0, 0⟩, ⟨none, 0, 0⟩, ⟨some ⟨w21.heap.size, 0, none⟩, 1, 1⟩, 0⟩, rfl, ?_⟩ P250.out R193.out G251.out
    unfold StB
    exact ⟨rfl, rfl, rfl, zeroE_B _ _, zeroE_B _ _, ⟨[h33, h65, h114], (RB.kept (more_nw (by have z := Z252.out; omega) (by have z := Z252.out; omega)) E248.out), h33, _, rfl, (ExB.kept (more_nw (by have z := Z252.out; omega) (by have z := Z252.out; omega)) E244.out), h65, _, rfl, (ExB.kept (more_nw (by have z := Z252.out; omega) (by have z := Z252.out; omega)) E245.out), h114, _, rfl, (ExB.kept (more_nw (by have z := Z252.out; omega) (by have z := Z252.out; omega)) E246.out), rfl⟩, ⟨[], RB.none_ _ _ _ _, rfl⟩, RB.none_ _ _ _ _, [s186], (RB.kept (more_nw (by have z := Z252.out; omega) (by have z := Z252.out; omega)) E249.out), BlksB.snoc (StLB.kept (more_nw (by have z := Z252.out; omega) (by have z := Z252.out; omega)) E247.out) BlksB.nil⟩
  · skip
    have hq := HR57.out
    rw [if_neg hw, bind_okE] at hq
    have HR89 := Lib.hid hq
    clear hq HR57
    go_wp2_with (go_at_call 30; fail)
    refine (take_no P86.out R59.out (mt (headS_txt R59.out (by decide) (by decide) (by decide) (by decide)).1 hw)).mono ?_
    rintro e w13 ⟨rfl, hb⟩
    have hg := gr_of (row := some w12.heap.size) hb
    have X90 := Lib.hid (gr_box hg (by have z := Z88.out; omega) (by have z := Z88.out; omega) X81.out)
    clear X81
    have X91 := Lib.hid (gr_box hg (by have z := Z88.out; omega) (by have z := Z88.out; omega) X82.out)
    clear X82
    have X92 := Lib.hid (gr_box hg (by have z := Z88.out; omega) (by have z := Z88.out; omega) X83.out)
    clear X83
    have X93 := Lib.hid (gr_box hg (by have z := Z88.out; omega) (by have z := Z88.out; omega) X80.out)
    clear X80
    have E94 := Lib.hid (ExB.kept (kept_nw hg (by have z := Z88.out; omega) (by have z := Z88.out; omega) (Nat.le_refl _) (Nat.le_refl _)) E84.out)
    clear E84
    have E95 := Lib.hid (ExB.kept (kept_nw hg (by have z := Z88.out; omega) (by have z := Z88.out; omega) (Nat.le_refl _) (Nat.le_refl _)) E85.out)
    clear E85
    have P96 := Lib.hid (P86.out.gr hg (by have z := Z88.out; omega))
    clear P86
    have G97 := Lib.hid (gr_then G87.out (gr_below hg (by have z := Z88.out; have := G87.out.size; omega) G87.out.size))
    clear G87
    have Z98 := Lib.hid (And.intro (show w12.heap.size ≤ w13.heap.size from hg.size) Z88.out)
    clear hg hb
    have L99 := Lib.hid (drop_len r2)
    by_cases hs100 : txt (r2) = [68, 79]
    rotate_left
    · have hq := HR89.out
      rw [need_badE hs100] at hq
      go_wp2_with (go_at_call 18; fail)
      refine (need_no P96.out R59.out (mt (headS_txt R59.out (by decide) (by decide) (by decide) (by decide)).1 hs100)).mono ?_
      rintro e w14 ⟨rfl, hb⟩
      go_wp2
      exact ⟨rfl, Gv.badOf hq.symm (gr_trans G97.out (gr_of hb))⟩
    have hq := HR89.out
    rw [need_okE hs100, bind_okE] at hq
    have HR101 := Lib.hid hq
    clear hq HR89
    have R102 := Lib.hid (R59.out.drop (txt_kind hs100 (by decide)))
    go_wp2_with (go_at_call 18; fail)
    refine (need_yes P96.out R59.out ((headS_txt R59.out (by decide) (by decide) (by decide) (by decide)).2 hs100)).mono ?_
    rintro e w14 ⟨rfl, hp, hg⟩
    have P103 := Lib.hid hp
    have X104 := Lib.hid (gr_box hg (by have z := Z98.out; omega) (by have z := Z98.out; omega) X90.out)
    clear X90
    have X105 := Lib.hid (gr_box hg (by have z := Z98.out; omega) (by have z := Z98.out; omega) X91.out)
    clear X91
    have X106 := Lib.hid (gr_box hg (by have z := Z98.out; omega) (by have z := Z98.out; omega) X92.out)
    clear X92
    have X107 := Lib.hid (gr_box hg (by have z := Z98.out; omega) (by have z := Z98.out; omega) X93.out)
    clear X93
    have E108 := Lib.hid (ExB.kept (kept_nw hg (by have z := Z98.out; omega) (by have z := Z98.out; omega) (Nat.le_refl _) (Nat.le_refl _)) E94.out)
    clear E94
    have E109 := Lib.hid (ExB.kept (kept_nw hg (by have z := Z98.out; omega) (by have z := Z98.out; omega) (Nat.le_refl _) (Nat.le_refl _)) E95.out)
    clear E95
    clear P96
    have G110 := Lib.hid (gr_trans G97.out hg)
    clear G97
    have Z111 := Lib.hid (And.intro (show w13.heap.size ≤ w14.heap.size from hg.size) Z98.out)
    clear hg hp
    clear R59
    generalize ((r2).drop 1) = r112 at *
    have L113 := Lib.hid (show r112.length ≤ r.length by have := L99.out; have := L69.out; omega)
    go_upto_region 11 with ((with_reducible refine m_new 29 8 28 ?_ ?_ ?_ (tC (tr.hd r2)) ?_ ?_ ?_ ?_ (tC_one _) ?_); rfl; rfl; rfl; rfl; rfl; rfl; kernel_rfl; intro w15 hx hb hz)
    have hg := gr_of (row := some w14.heap.size) hb
    have Z114 := Lib.hid (And.intro hz Z111.out)
    have X115 := Lib.hid hx
    clear hb hx hz
    have X116 := Lib.hid (gr_box hg (by have z := Z111.out; omega) (by have z := Z111.out; omega) X104.out)
    clear X104
    have X117 := Lib.hid (gr_box hg (by have z := Z111.out; omega) (by have z := Z111.out; omega) X105.out)
    clear X105
    have X118 := Lib.hid (gr_box hg (by have z := Z111.out; omega) (by have z := Z111.out; omega) X106.out)
    clear X106
    have X119 := Lib.hid (gr_box hg (by have z := Z111.out; omega) (by have z := Z111.out; omega) X107.out)
    clear X107
    have E120 := Lib.hid (ExB.kept (kept_nw hg (by have z := Z111.out; omega) (by have z := Z111.out; omega) (Nat.le_refl _) (Nat.le_refl _)) E108.out)
    clear E108
    have E121 := Lib.hid (ExB.kept (kept_nw hg (by have z := Z111.out; omega) (by have z := Z111.out; omega) (Nat.le_refl _) (Nat.le_refl _)) E109.out)
    clear E109
    have P122 := Lib.hid (P103.out.gr hg (by have z := Z111.out; omega))
    clear P103
    have G123 := Lib.hid (gr_then G110.out (gr_below hg (by have z := Z111.out; have := G110.out.size; omega) G110.out.size))
    clear G110
    have Z124 := Lib.hid (And.intro (show w14.heap.size ≤ w15.heap.size from hg.size) Z114.out)
    clear hg
    have ⟨c3, _⟩ := cell_of X115.out (i := 3) rfl
    have ⟨d5, e5⟩ := cell_of X119.out (i := 5) rfl
    go_upto_region 13 with (fail)
    clear c3 d5 e5
    have hg := gr_set w15 (w11.heap.size) 5 (.int .i64 (tr.hd r2).line)
    have hx : Box (w15.setCell ⟨w11.heap.size, 5, none⟩ (.int .i64 (tr.hd r2).line)) (w11.heap.size) 0 (eC ⟨1, 1, [], [], ⟨none, 0, 0⟩, (tr.hd r2).line⟩) := Box.put X119.out 5 (show 5 < 6 by decide) (.int .i64 (tr.hd r2).line)
    have hs : (w15.setCell ⟨w11.heap.size, 5, none⟩ (.int .i64 (tr.hd r2).line)).heap.size = w15.heap.size := set_size _ _ _
    generalize w15.setCell ⟨w11.heap.size, 5, none⟩ (.int .i64 (tr.hd r2).line) = w16 at *
    have X125 := Lib.hid hx
    have Z126 := Lib.hid (And.intro hs Z124.out)
    clear hx hs X119
    have X127 := Lib.hid (gr_box hg (by have z := Z124.out; omega) (by have z := Z124.out; omega) X116.out)
    clear X116
    have X128 := Lib.hid (gr_box hg (by have z := Z124.out; omega) (by have z := Z124.out; omega) X117.out)
    clear X117
    have X129 := Lib.hid (gr_box hg (by have z := Z124.out; omega) (by have z := Z124.out; omega) X118.out)
    clear X118
    have X130 := Lib.hid (gr_box hg (by have z := Z124.out; omega) (by have z := Z124.out; omega) X115.out)
    clear X115
    have E131 := Lib.hid (ExB.kept (kept_nw hg (by have z := Z124.out; omega) (by have z := Z124.out; omega) (Nat.le_refl _) (Nat.le_refl _)) E120.out)
    clear E120
    have E132 := Lib.hid (ExB.kept (kept_nw hg (by have z := Z124.out; omega) (by have z := Z124.out; omega) (Nat.le_refl _) (Nat.le_refl _)) E121.out)
    clear E121
    have P133 := Lib.hid (P122.out.gr hg (by have z := Z124.out; omega))
    clear P122
    have G134 := Lib.hid (gr_then G123.out (gr_below hg (by have z := Z124.out; have := G123.out.size; omega) G123.out.size))
    clear G123
    have Z135 := Lib.hid (And.intro (show w15.heap.size ≤ w16.heap.size from hg.size) Z126.out)
    clear hg
    have FI := Lib.hid (fin_stmts (d := d) (f := f) (r := r112) (ends := [[69, 78, 68, 95, 70, 79, 82]]) (ac := []) (by have z := Z135.out; have := HF.out; have := L113.out; omega))
    go_wp2_with (go_at_call 20; fail)
    have hb := (Below.refl w16.heap.size w16).alloc (Nat.le_refl _) (.cells #[.string ⟨#[69, 78, 68, 95, 70, 79, 82]⟩] 9)
    have hR : RB tC1 1 (w16.alloc (.cells #[.string ⟨#[69, 78, 68, 95, 70, 79, 82]⟩] 9)) (Nw w16.heap.size (w16.heap.size + 1)) ⟨some ⟨w16.heap.size, 0, none⟩, 1, 1⟩ [[69, 78, 68, 95, 70, 79, 82]] := rb_many w16 9 [[69, 78, 68, 95, 70, 79, 82]] #[.string ⟨#[69, 78, 68, 95, 70, 79, 82]⟩] rfl (Nat.le_refl _) (Nat.le_refl _)
    have hz : (w16.alloc (.cells #[.string ⟨#[69, 78, 68, 95, 70, 79, 82]⟩] 9)).heap.size = w16.heap.size + 1 := by simp
    generalize w16.alloc (.cells #[.string ⟨#[69, 78, 68, 95, 70, 79, 82]⟩] 9) = w17 at *
    have hg := gr_of (row := some w16.heap.size) hb
    have HZ1 := Lib.hid hz
    have HRB := Lib.hid hR
    clear hb hR hz
    have Z136 := Lib.hid (And.intro HZ1.out Z135.out)
    have E137 := HRB
    clear HZ1 HRB
    have X138 := Lib.hid (gr_box hg (by have z := Z135.out; omega) (by have z := Z135.out; omega) X127.out)
    clear X127
    have X139 := Lib.hid (gr_box hg (by have z := Z135.out; omega) (by have z := Z135.out; omega) X128.out)
    clear X128
    have X140 := Lib.hid (gr_box hg (by have z := Z135.out; omega) (by have z := Z135.out; omega) X129.out)
    clear X129
    have X141 := Lib.hid (gr_box hg (by have z := Z135.out; omega) (by have z := Z135.out; omega) X125.out)
    clear X125
    have X142 := Lib.hid (gr_box hg (by have z := Z135.out; omega) (by have z := Z135.out; omega) X130.out)
    clear X130
    have E143 := Lib.hid (ExB.kept (kept_nw hg (by have z := Z135.out; omega) (by have z := Z135.out; omega) (Nat.le_refl _) (Nat.le_refl _)) E131.out)
    clear E131
    have E144 := Lib.hid (ExB.kept (kept_nw hg (by have z := Z135.out; omega) (by have z := Z135.out; omega) (Nat.le_refl _) (Nat.le_refl _)) E132.out)
    clear E132
    have P145 := Lib.hid (P133.out.gr hg (by have z := Z135.out; omega))
    clear P133
    have G146 := Lib.hid (gr_then G134.out (gr_below hg (by have z := Z135.out; have := G134.out.size; omega) G134.out.size))
    clear G134
    have Z147 := Lib.hid (And.intro (show w16.heap.size ≤ w17.heap.size from hg.size) Z136.out)
    clear hg
    refine (HBB.out [[69, 78, 68, 95, 70, 79, 82]] r112 (by decide) R102.out L113.out _ _ _ _ P145.out (by have z := Z147.out; omega) (by have z := Z147.out; omega) E137.out).mono ?_
    rintro e w18 hgv
    rcases hp : stmtsF f d [[69, 78, 68, 95, 70, 79, 82]] r112 [] with ⟨B1, r8⟩ | ⟨n9, t9⟩
    rotate_left
    · rw [hp] at hgv
      obtain ⟨rfl, hg⟩ := hgv
      have hq := HR101.out
      rw [hp] at hq
      go_wp2
      exact ⟨rfl, Gv.badOf hq.symm (gr_trans G146.out hg)⟩
    rw [hp] at hgv
    obtain ⟨⟨v9, rfl, hG⟩, hP9, hr9, hg⟩ := hgv
    have hq := HR101.out
    rw [hp] at hq
    try rw [bind_okE] at hq
    have HR149 := Lib.hid hq
    clear hq HR101
    have P150 := Lib.hid hP9
    have R151 := Lib.hid hr9
    have X152 := Lib.hid (gr_box hg (by have z := Z147.out; omega) (by have z := Z147.out; omega) X138.out)
    clear X138
    have X153 := Lib.hid (gr_box hg (by have z := Z147.out; omega) (by have z := Z147.out; omega) X139.out)
    clear X139
    have X154 := Lib.hid (gr_box hg (by have z := Z147.out; omega) (by have z := Z147.out; omega) X140.out)
    clear X140
    have X155 := Lib.hid (gr_box hg (by have z := Z147.out; omega) (by have z := Z147.out; omega) X141.out)
    clear X141
    have X156 := Lib.hid (gr_box hg (by have z := Z147.out; omega) (by have z := Z147.out; omega) X142.out)
    clear X142
    have E157 := Lib.hid (ExB.kept (kept_nw hg (by have z := Z147.out; omega) (by have z := Z147.out; omega) (Nat.le_refl _) (Nat.le_refl _)) E143.out)
    clear E143
    have E158 := Lib.hid (ExB.kept (kept_nw hg (by have z := Z147.out; omega) (by have z := Z147.out; omega) (Nat.le_refl _) (Nat.le_refl _)) E144.out)
    clear E144
    have E159 := Lib.hid (RB.kept (kept_nw hg (by have z := Z147.out; omega) (by have z := Z147.out; omega) (Nat.le_refl _) (Nat.le_refl _)) E137.out)
    clear E137
    clear P145
    have G160 := Lib.hid (gr_trans G146.out hg)
    clear G146
    have Z161 := Lib.hid (And.intro (show w17.heap.size ≤ w18.heap.size from hg.size) Z147.out)
    clear hg hP9 hr9 R102
    obtain ⟨s162, rfl, hE9⟩ := hG
    have E163 := Lib.hid hE9
    clear hE9
    clear E159
    have L165 : Hid (r8.length < r112.length + 1) := by
      have := FI.out
      rw [hp] at this
      exact Lib.hid this
    clear FI hp
    have L166 := Lib.hid (show r8.length ≤ r.length by have := L165.out; have := L113.out; omega)
    by_cases hs167 : txt (r8) = [69, 78, 68, 95, 70, 79, 82]
    rotate_left
    · have hq := HR149.out
      rw [need_badE hs167] at hq
      go_wp2_with (go_at_call 18; fail)
      refine (need_no P150.out R151.out (mt (headS_txt R151.out (by decide) (by decide) (by decide) (by decide)).1 hs167)).mono ?_
      rintro e w19 ⟨rfl, hb⟩
      go_wp2
      exact ⟨rfl, Gv.badOf hq.symm (gr_trans G160.out (gr_of hb))⟩
    have hq := HR149.out
    rw [need_okE hs167, bind_okE] at hq
    have HR168 := Lib.hid hq
    clear hq HR149
    have R169 := Lib.hid (R151.out.drop (txt_kind hs167 (by decide)))
    go_wp2_with (go_at_call 18; fail)
    refine (need_yes P150.out R151.out ((headS_txt R151.out (by decide) (by decide) (by decide) (by decide)).2 hs167)).mono ?_
    rintro e w19 ⟨rfl, hp, hg⟩
    have P170 := Lib.hid hp
    have X171 := Lib.hid (gr_box hg (by have z := Z161.out; omega) (by have z := Z161.out; omega) X152.out)
    clear X152
    have X172 := Lib.hid (gr_box hg (by have z := Z161.out; omega) (by have z := Z161.out; omega) X153.out)
    clear X153
    have X173 := Lib.hid (gr_box hg (by have z := Z161.out; omega) (by have z := Z161.out; omega) X154.out)
    clear X154
    have X174 := Lib.hid (gr_box hg (by have z := Z161.out; omega) (by have z := Z161.out; omega) X155.out)
    clear X155
    have X175 := Lib.hid (gr_box hg (by have z := Z161.out; omega) (by have z := Z161.out; omega) X156.out)
    clear X156
    have E176 := Lib.hid (ExB.kept (kept_nw hg (by have z := Z161.out; omega) (by have z := Z161.out; omega) (Nat.le_refl _) (Nat.le_refl _)) E157.out)
    clear E157
    have E177 := Lib.hid (ExB.kept (kept_nw hg (by have z := Z161.out; omega) (by have z := Z161.out; omega) (Nat.le_refl _) (Nat.le_refl _)) E158.out)
    clear E158
    have E178 := Lib.hid (StLB.kept (kept_nw hg (by have z := Z161.out; omega) (by have z := Z161.out; omega) (Nat.le_refl _) (Nat.le_refl _)) E163.out)
    clear E163
    clear P150
    have G179 := Lib.hid (gr_trans G160.out hg)
    clear G160
    have Z180 := Lib.hid (And.intro (show w18.heap.size ≤ w19.heap.size from hg.size) Z161.out)
    clear hg hp
    clear R151
    generalize ((r8).drop 1) = r181 at *
    go_wp2_with (first | ((with_reducible refine m_load X172.out 35 4 ?_ ?_ ?_ ?_ ?_ ?_); rfl; rfl; rfl; rfl; kernel_rfl) | ((with_reducible refine m_load X173.out 35 5 ?_ ?_ ?_ ?_ ?_ ?_); rfl; rfl; rfl; rfl; kernel_rfl) | ((with_reducible refine m_load X174.out 35 6 ?_ ?_ ?_ ?_ ?_ ?_); rfl; rfl; rfl; rfl; kernel_rfl) | ((with_reducible refine m_slice3 eC_len h33 h65 ⟨1, 1, [], [], ⟨none, 0, 0⟩, (tr.hd r2).line⟩ 33 35 40 41 42 (.agg (eC h33).toArray) (.agg (eC h65).toArray) (.agg (eC ⟨1, 1, [], [], ⟨none, 0, 0⟩, (tr.hd r2).line⟩).toArray) (eC h33 ++ (eC h65 ++ eC ⟨1, 1, [], [], ⟨none, 0, 0⟩, (tr.hd r2).line⟩)).toArray ?_ ?_ ?_ ?_ ?_ (bs_E3 h33 h65 ⟨1, 1, [], [], ⟨none, 0, 0⟩, (tr.hd r2).line⟩) ?_ ?_); rfl; rfl; rfl; rfl; rfl; rfl; intro w20 hrb hb1 hz1; have XR1 := Lib.hid (X171.out.below hb1 (by have z := Z180.out; omega)); have HRB := Lib.hid hrb; have HB1 := Lib.hid hb1; have HZ1 := Lib.hid hz1; clear hrb hb1 hz1) | ((with_reducible refine m_slice1 (enc := slC) (z := 1) s162 38 24 44 (Sl.v s162) (slC s162).toArray ?_ ?_ ?_ (bs_L s162) ?_ ?_); rfl; rfl; rfl; rfl; intro w21 hrb hb1 hz1; have XR2 := Lib.hid (XR1.out.below hb1 (Nat.lt_of_lt_of_le (by have z := Z180.out; omega) HB1.out.size)); have HRBb := Lib.hid hrb; have HB1b := Lib.hid hb1; have HZ1b := Lib.hid hz1; clear hrb hb1 hz1) | ((with_reducible refine m_store XR2.out 40 2 46 ?_ ?_ ?_ (sC ⟨4, (tr.hd (r)).text, ⟨0, 0, [], [], ⟨none, 0, 0⟩, 0⟩, ⟨0, 0, [], [], ⟨none, 0, 0⟩, 0⟩, ⟨some ⟨w19.heap.size, 0, none⟩, 3, 3⟩, ⟨none, 0, 0⟩, ⟨none, 0, 0⟩, ⟨some ⟨w20.heap.size, 0, none⟩, 1, 1⟩, 0⟩) ?_ ?_ ?_ ?_ (sC_one _) ?_); rfl; rfl; rfl; rfl; rfl; rfl; kernel_rfl; intro w22 hx hg hs))
    have HX9 := Lib.hid hx
    have HG9 := Lib.hid hg
    have HS9 := Lib.hid hs
    clear hx hg hs XR1 XR2
    have hg := gr_of (row := some w19.heap.size) HB1.out
    have Z182 := Lib.hid (And.intro HZ1.out Z180.out)
    have E183 := HRB
    clear HZ1 HRB
    have X184 := Lib.hid (gr_box hg (by have z := Z180.out; omega) (by have z := Z180.out; omega) X171.out)
    clear X171
    have X185 := Lib.hid (gr_box hg (by have z := Z180.out; omega) (by have z := Z180.out; omega) X172.out)
    clear X172
    have X186 := Lib.hid (gr_box hg (by have z := Z180.out; omega) (by have z := Z180.out; omega) X173.out)
    clear X173
    have X187 := Lib.hid (gr_box hg (by have z := Z180.out; omega) (by have z := Z180.out; omega) X174.out)
    clear X174
    have X188 := Lib.hid (gr_box hg (by have z := Z180.out; omega) (by have z := Z180.out; omega) X175.out)
    clear X175
    have E189 := Lib.hid (ExB.kept (kept_nw hg (by have z := Z180.out; omega) (by have z := Z180.out; omega) (Nat.le_refl _) (Nat.le_refl _)) E176.out)
    clear E176
    have E190 := Lib.hid (ExB.kept (kept_nw hg (by have z := Z180.out; omega) (by have z := Z180.out; omega) (Nat.le_refl _) (Nat.le_refl _)) E177.out)
    clear E177
    have E191 := Lib.hid (StLB.kept (kept_nw hg (by have z := Z180.out; omega) (by have z := Z180.out; omega) (Nat.le_refl _) (Nat.le_refl _)) E178.out)
    clear E178
    have P192 := Lib.hid (P170.out.gr hg (by have z := Z180.out; omega))
    clear P170
    have G193 := Lib.hid (gr_then G179.out (gr_below hg (by have z := Z180.out; have := G179.out.size; omega) G179.out.size))
    clear G179
    have Z194 := Lib.hid (And.intro (show w19.heap.size ≤ w20.heap.size from hg.size) Z182.out)
    clear hg HB1
    have hg := gr_of (row := some w20.heap.size) HB1b.out
    have Z196 := Lib.hid (And.intro HZ1b.out Z194.out)
    have E197 := HRBb
    clear HZ1b HRBb
    have X198 := Lib.hid (gr_box hg (by have z := Z194.out; omega) (by have z := Z194.out; omega) X184.out)
    clear X184
    have X199 := Lib.hid (gr_box hg (by have z := Z194.out; omega) (by have z := Z194.out; omega) X185.out)
    clear X185
    have X200 := Lib.hid (gr_box hg (by have z := Z194.out; omega) (by have z := Z194.out; omega) X186.out)
    clear X186
    have X201 := Lib.hid (gr_box hg (by have z := Z194.out; omega) (by have z := Z194.out; omega) X187.out)
    clear X187
    have X202 := Lib.hid (gr_box hg (by have z := Z194.out; omega) (by have z := Z194.out; omega) X188.out)
    clear X188
    have E203 := Lib.hid (ExB.kept (kept_nw hg (by have z := Z194.out; omega) (by have z := Z194.out; omega) (Nat.le_refl _) (Nat.le_refl _)) E189.out)
    clear E189
    have E204 := Lib.hid (ExB.kept (kept_nw hg (by have z := Z194.out; omega) (by have z := Z194.out; omega) (Nat.le_refl _) (Nat.le_refl _)) E190.out)
    clear E190
    have E205 := Lib.hid (StLB.kept (kept_nw hg (by have z := Z194.out; omega) (by have z := Z194.out; omega) (Nat.le_refl _) (Nat.le_refl _)) E191.out)
    clear E191
    have E206 := Lib.hid (RB.kept (kept_nw hg (by have z := Z194.out; omega) (by have z := Z194.out; omega) (Nat.le_refl _) (Nat.le_refl _)) E183.out)
    clear E183
    have P207 := Lib.hid (P192.out.gr hg (by have z := Z194.out; omega))
    clear P192
    have G208 := Lib.hid (gr_then G193.out (gr_below hg (by have z := Z194.out; have := G193.out.size; omega) G193.out.size))
    clear G193
    have Z209 := Lib.hid (And.intro (show w20.heap.size ≤ w21.heap.size from hg.size) Z196.out)
    clear hg HB1b
    have hx := HX9.out
    have hg := HG9.out
    have hs := HS9.out
    clear HX9 HG9 HS9
    have X211 := Lib.hid hx
    have Z212 := Lib.hid (And.intro hs Z209.out)
    clear hx hs X198
    have X213 := Lib.hid (gr_box hg (by have z := Z209.out; omega) (by have z := Z209.out; omega) X199.out)
    clear X199
    have X214 := Lib.hid (gr_box hg (by have z := Z209.out; omega) (by have z := Z209.out; omega) X200.out)
    clear X200
    have X215 := Lib.hid (gr_box hg (by have z := Z209.out; omega) (by have z := Z209.out; omega) X201.out)
    clear X201
    have X216 := Lib.hid (gr_box hg (by have z := Z209.out; omega) (by have z := Z209.out; omega) X202.out)
    clear X202
    have E217 := Lib.hid (ExB.kept (kept_nw hg (by have z := Z209.out; omega) (by have z := Z209.out; omega) (Nat.le_refl _) (Nat.le_refl _)) E203.out)
    clear E203
    have E218 := Lib.hid (ExB.kept (kept_nw hg (by have z := Z209.out; omega) (by have z := Z209.out; omega) (Nat.le_refl _) (Nat.le_refl _)) E204.out)
    clear E204
    have E219 := Lib.hid (StLB.kept (kept_nw hg (by have z := Z209.out; omega) (by have z := Z209.out; omega) (Nat.le_refl _) (Nat.le_refl _)) E205.out)
    clear E205
    have E220 := Lib.hid (RB.kept (kept_nw hg (by have z := Z209.out; omega) (by have z := Z209.out; omega) (Nat.le_refl _) (Nat.le_refl _)) E206.out)
    clear E206
    have E221 := Lib.hid (RB.kept (kept_nw hg (by have z := Z209.out; omega) (by have z := Z209.out; omega) (Nat.le_refl _) (Nat.le_refl _)) E197.out)
    clear E197
    have P222 := Lib.hid (P207.out.gr hg (by have z := Z209.out; omega))
    clear P207
    have G223 := Lib.hid (gr_then G208.out (gr_below hg (by have z := Z209.out; have := G208.out.size; omega) G208.out.size))
    clear G208
    have Z224 := Lib.hid (And.intro (show w21.heap.size ≤ w22.heap.size from hg.size) Z212.out)
    clear hg
    refine bodyPost_ret (k.results_cell rfl rfl (run_loadVar_mid _ w.heap.size 0 40 _ _ X211.out.range rfl rfl (by kernel_rfl))) rfl ?_
    refine Gv.okOf HR168.out.symm ⟨fun _ => rfl, ⟨4, (tr.hd (r)).text, ⟨0, 0, [], [], ⟨none, 0, 0⟩, 0⟩, ⟨0, 0, [], [], ⟨none, 0, 0⟩, 0⟩, ⟨some ⟨w19.heap.size, 0, none⟩, 3, 3⟩, ⟨none, 0, 0⟩, ⟨none, 0, 0⟩, ⟨some ⟨w20.heap.size, 0, none⟩, 1, 1⟩, 0⟩, rfl, ?_⟩ P222.out R169.out G223.out
    unfold StB
    exact ⟨rfl, rfl, rfl, zeroE_B _ _, zeroE_B _ _, ⟨[h33, h65, ⟨1, 1, [], [], ⟨none, 0, 0⟩, (tr.hd r2).line⟩], (RB.kept (more_nw (by have z := Z224.out; omega) (by have z := Z224.out; omega)) E220.out), h33, _, rfl, (ExB.kept (more_nw (by have z := Z224.out; omega) (by have z := Z224.out; omega)) E217.out), h65, _, rfl, (ExB.kept (more_nw (by have z := Z224.out; omega) (by have z := Z224.out; omega)) E218.out), ⟨1, 1, [], [], ⟨none, 0, 0⟩, (tr.hd r2).line⟩, _, rfl, ⟨rfl, rfl, rfl, rfl, rfl, [], RB.none_ _ _ _ _, rfl⟩, rfl⟩, ⟨[], RB.none_ _ _ _ _, rfl⟩, RB.none_ _ _ _ _, [s162], (RB.kept (more_nw (by have z := Z224.out; omega) (by have z := Z224.out; omega)) E221.out), BlksB.snoc (StLB.kept (more_nw (by have z := Z224.out; omega) (by have z := Z224.out; omega)) E219.out) BlksB.nil⟩
end
end Go.Proofs.Ytbcpkhegmbdifaa.tr
