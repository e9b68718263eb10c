/- The landed parser's statements: count, over what the parts give. No condition but what each line says. -/
import Derived.Test.YtbcpkhegmbdifaaGreatU15
namespace Go.Proofs.YtbcpkhegmbdifaaGreat.tr
open Go.ChangeShapes Go.WideShapes Go.ChangeAt Go.RowKit Go.Proofs.YtbcpkhegmbdifaaGreat.k Go.Proofs.YtbcpkhegmbdifaaGreat.rr Go.Proofs.YtbcpkhegmbdifaaGreat.tk
set_option linter.unusedVariables false

/-- a slice, made -/
theorem rb_list {α : Type} {enc : α → List Value} {z : Nat} (hz : ∀ x, (enc x).length = z) (w : World) (e : TypeId) (L : List α) (cs : Array Value) (hc : cs.toList = L.flatMap enc) {a b : Nat} (ha : a ≤ w.heap.size) (hb : w.heap.size + 1 ≤ b) (hl : L.length ≤ 20 := by decide) : RB enc z (w.alloc (.cells cs e)) (Nw a b) ⟨some ⟨w.heap.size, 0, none⟩, L.length, L.length⟩ L := by
 refine ⟨rfl, Nat.le_refl _, by show L.length ≤ maxLen; unfold maxLen; omega, (fun h => by cases h), fun _ => ⟨_, 0, rfl, ⟨ha, by omega⟩, fun i u hu j v hv => ?_⟩⟩
 have hj : j < z := by have := (List.getElem?_eq_some_iff.1 hv).1; rwa [hz] at this
 rw [World.cell?_alloc_mark]
 have : cs[0 + i * z + j]? = (L.flatMap enc)[i * z + j]? := by rw [← hc, Nat.zero_add]; simp
 rw [this, flat_at enc z hz L i j u hu hj]
 exact hv
section
variable {P : Program} {ops : Array Oper} {rest : List Oper} {op : Oper} {a : Act} {w : World} {Q : Exit → Act → World → Prop}
/-- a slice of three elements is made -/
theorem m_slice3 {α : Type} {enc : α → List Value} {z : Nat} (hz : ∀ x, (enc x).length = z) (x y x3 : α) (ST T u v v3 : Nat) (U V V3 : Value) (cs : Array Value) (ho : op.op = .buildSlice ST 3 #[(0, .tmp u), (1, .tmp v), (2, .tmp v3)]) (hg : op.guard = none) (hy : a.eval (.tmp u) = U) (hy2 : a.eval (.tmp v) = V) (hy3 : a.eval (.tmp v3) = V3)
  (hrun : ∀ w, (Instr.buildSlice ST 3 #[(0, U), (1, V), (2, V3)]).run P w = .ok (.slice (some ⟨w.heap.size, 0, none⟩) 3 3) (w.alloc (.cells cs T))) (hc : cs.toList = [x, y, x3].flatMap enc)
  (h : ∀ w', RB enc z w' (Nw w.heap.size (w.heap.size + 1)) ⟨some ⟨w.heap.size, 0, none⟩, 3, 3⟩ [x, y, x3] → Below w.heap.size w w' → w'.heap.size = w.heap.size + 1 → wpList P ops Q rest (a.put op.dst (.slice (some ⟨w.heap.size, 0, none⟩) 3 3)) w') : wpList P ops Q (op :: rest) a w := by
 refine wpList_plain hg fun K hK => ?_
 unfold Oper.wp execOp
 simp only [ho, List.map_toArray, List.map_cons, List.map_nil, hy, hy2, hy3, hrun, Sem.run_bind, Result.andThen_ok]
 exact hK _ _ (h _ (rb_list hz w T [x, y, x3] cs hc (Nat.le_refl _) (Nat.le_refl _) (show 3 ≤ 20 by decide)) ((Below.refl w.heap.size w).alloc (Nat.le_refl _) _) (by simp))
end
theorem bs_E3 (h h' h3 : EH) (w : World) : (Instr.buildSlice 37 3 #[(0, .agg (eC h).toArray), (1, .agg (eC h').toArray), (2, .agg (eC h3).toArray)]).run Tryz.prog w = .ok (.slice (some ⟨w.heap.size, 0, none⟩) 3 3) (w.alloc (.cells (eC h ++ (eC h' ++ eC h3)).toArray 39)) := by kernel_rfl
section
variable {r : Sg} {V : Value} {d g : Nat} {w : World}

set_option maxRecDepth 100000 in
set_option maxHeartbeats 4000000 in
theorem count_any (hP : Par w g r V d) (hr : RowOk r) (hd : d ≤ 32) {f : Nat} (hf : 20 * r.length + 12 ≤ f) (HB : ∀ ends r1, wordsB ends = true → RowOk r1 → r1.length ≤ r.length → BCtr Tryz.prog 20 ends (stmtsF f d ends r1 []) d r1) :
  Calls Tryz.prog 71 #[.pointer (some ⟨g, 0, none⟩)] w (Gv g V d w GotW ((want 1 r).bind fun t r' => (need [58, 61] r').bind fun _ r' => (expr f d r').bind fun a r' => (need [84, 79] r').bind fun _ r' => (expr f d r').bind fun c r' => (if txt r' = [66, 89] then expr f d (r'.drop 1) else .ok (Ex.mk 1 1 [] [] [] (tr.hd r').line) r').bind fun y r' => (need [68, 79] r').bind fun _ r' => (stmtsF f d [[69, 78, 68, 95, 70, 79, 82]] r' []).bind fun B r' => (need [69, 78, 68, 95, 70, 79, 82] r').bind fun _ r' => .ok (fun ln => St.mk 4 t.text zeroE zeroE [a, c, y] [] [] [B] ln) r')) := by
 obtain ⟨R, hR⟩ : ∃ R : Res (Nat → St), ((want 1 r).bind fun t r' => (need [58, 61] r').bind fun _ r' => (expr f d r').bind fun a r' => (need [84, 79] r').bind fun _ r' => (expr f d r').bind fun c r' => (if txt r' = [66, 89] then expr f d (r'.drop 1) else .ok (Ex.mk 1 1 [] [] [] (tr.hd r').line) r').bind fun y r' => (need [68, 79] r').bind fun _ r' => (stmtsF f d [[69, 78, 68, 95, 70, 79, 82]] r' []).bind fun B r' => (need [69, 78, 68, 95, 70, 79, 82] r').bind fun _ r' => .ok (fun ln => St.mk 4 t.text zeroE zeroE [a, c, y] [] [] [B] ln) r') = R := ⟨_, rfl⟩
 rw [hR]
 have HR := Lib.hid hR
 clear hR
 have HBB := Lib.hid HB
 have HF := Lib.hid hf
 have f1 := tok_f1 (tr.hd r)
 clear HB hf
 have P1 := Lib.hid hP
 have G1 := Lib.hid (gr_refl w (some g))
 have R1 := Lib.hid hr
 have Z1 := Lib.hid (show g < w.heap.size from hP.lt)
 clear hP hr
 go_enter Tryz.func71, Tryz.ntmps71
 go_upto_region 1 with (fail)
 have hb := (Below.refl w.heap.size w).alloc (Nat.le_refl _) (.cells #[.int .i64 0, .string ⟨#[]⟩, .int .i64 0, .int .i64 0, .string ⟨#[]⟩, .string ⟨#[]⟩, .slice none 0 0, .int .i64 0, .int .i64 0, .int .i64 0, .string ⟨#[]⟩, .string ⟨#[]⟩, .slice none 0 0, .int .i64 0, .slice none 0 0, .slice none 0 0, .slice none 0 0, .slice none 0 0, .int .i64 0] 44)
 have hx := Box.new w #[.int .i64 0, .string ⟨#[]⟩, .int .i64 0, .int .i64 0, .string ⟨#[]⟩, .string ⟨#[]⟩, .slice none 0 0, .int .i64 0, .int .i64 0, .int .i64 0, .string ⟨#[]⟩, .string ⟨#[]⟩, .slice none 0 0, .int .i64 0, .slice none 0 0, .slice none 0 0, .slice none 0 0, .slice none 0 0, .int .i64 0] 44
 have hz : (w.alloc (.cells #[.int .i64 0, .string ⟨#[]⟩, .int .i64 0, .int .i64 0, .string ⟨#[]⟩, .string ⟨#[]⟩, .slice none 0 0, .int .i64 0, .int .i64 0, .int .i64 0, .string ⟨#[]⟩, .string ⟨#[]⟩, .slice none 0 0, .int .i64 0, .slice none 0 0, .slice none 0 0, .slice none 0 0, .slice none 0 0, .int .i64 0] 44)).heap.size = w.heap.size + 1 := by simp
 generalize w.alloc (.cells #[.int .i64 0, .string ⟨#[]⟩, .int .i64 0, .int .i64 0, .string ⟨#[]⟩, .string ⟨#[]⟩, .slice none 0 0, .int .i64 0, .int .i64 0, .int .i64 0, .string ⟨#[]⟩, .string ⟨#[]⟩, .slice none 0 0, .int .i64 0, .slice none 0 0, .slice none 0 0, .slice none 0 0, .slice none 0 0, .int .i64 0] 44) = w4 at *
 have hg := gr_of (row := some w.heap.size) hb
 have Z2 := Lib.hid (And.intro hz Z1.out)
 have X3 := Lib.hid hx
 clear hb hx hz
 have P4 := Lib.hid (P1.out.gr hg (by have z := Z1.out; omega))
 clear P1
 have G5 := hgt hg G1 (fun _ => by have z := Z1.out; omega)
 clear G1
 have Z6 := hzz hg Z2
 clear hg
 have L7 := Lib.hid (drop_len r)
 by_cases hs8 : (tr.hd (r)).kind = 1
 rotate_left
 ·have hq := HR.out
  rw [want_badE hs8] at hq
  go_wp2_with (go_at_call 18; fail)
  refine (need_no P4.out R1.out (mt (headS_kind R1.out).1.1 hs8)).mono ?_
  rintro e w5 ⟨rfl, hb⟩
  go_wp2
  exact ⟨rfl, Gv.badOf hq.symm (gr_trans G5.out (gr_of hb))⟩
 have hq := HR.out
 rw [want_okE hs8, bind_okE] at hq
 have HR9 := Lib.hid hq
 clear hq HR
 have R10 := Lib.hid (R1.out.drop (by rw [hs8]; decide))
 go_wp2_with (go_at_call 18; fail)
 refine (need_yes P4.out R1.out ((headS_kind R1.out).1.2 hs8)).mono ?_
 rintro e w5 ⟨rfl, hp, hg⟩
 have P11 := Lib.hid hp
 have X12 := hbx hg (by have z := Z6.out; omega) X3
 clear X3
 clear P4
 have G13 := Lib.hid (gr_trans G5.out hg)
 clear G5
 have Z14 := hzz hg Z6
 clear hg hp
 clear R1
 generalize ((r).drop 1) = r15 at *
 have L16 := Lib.hid (show r15.length ≤ r.length by have := L7.out; omega)
 have L17 := Lib.hid (drop_len r15)
 by_cases hs18 : txt (r15) = [58, 61]
 rotate_left
 ·have hq := HR9.out
  rw [need_badE hs18] at hq
  go_wp2_with (go_at_call 18; fail)
  refine (need_no P11.out R10.out (mt (headS_txt R10.out (by decide) (by decide) (by decide) (by decide)).1 hs18)).mono ?_
  rintro e w6 ⟨rfl, hb⟩
  go_wp2
  exact ⟨rfl, Gv.badOf hq.symm (gr_trans G13.out (gr_of hb))⟩
 have hq := HR9.out
 rw [need_okE hs18, bind_okE] at hq
 have HR19 := Lib.hid hq
 clear hq HR9
 have R20 := Lib.hid (R10.out.drop (txt_kind hs18 (by decide)))
 go_wp2_with (go_at_call 18; fail)
 refine (need_yes P11.out R10.out ((headS_txt R10.out (by decide) (by decide) (by decide) (by decide)).2 hs18)).mono ?_
 rintro e w6 ⟨rfl, hp, hg⟩
 have P21 := Lib.hid hp
 have X22 := hbx hg (by have z := Z14.out; omega) X12
 clear X12
 clear P11
 have G23 := Lib.hid (gr_trans G13.out hg)
 clear G13
 have Z24 := hzz hg Z14
 clear hg hp
 clear R10
 generalize ((r15).drop 1) = r25 at *
 have L26 := Lib.hid (show r25.length ≤ r.length by have := L17.out; have := L16.out; omega)
 have FI := Lib.hid (fin_expr (d := d) (f := f) (r := r25) (by have z := Z24.out; have := HF.out; have := L26.out; omega))
 go_wp2_with (go_at_call 84; fail)
 refine (expr_gets (f := f) (d := d) hd R20.out (by have z := Z24.out; have := HF.out; have := L26.out; omega) _ _ _ P21.out).mono ?_
 rintro e w7 hgv
 rcases hp : expr f d r25 with ⟨x1, r1⟩ | ⟨n9, t9⟩
 rotate_left
 ·rw [hp] at hgv
  obtain ⟨rfl, hg⟩ := hgv
  have hq := HR19.out
  rw [hp] at hq
  go_wp2
  exact ⟨rfl, Gv.badOf hq.symm (gr_trans G23.out hg)⟩
 rw [hp] at hgv
 obtain ⟨⟨v9, rfl, hG⟩, hP9, hr9, hg⟩ := hgv
 have hq := HR19.out
 rw [hp] at hq
 try rw [bind_okE] at hq
 have HR27 := Lib.hid hq
 clear hq HR19
 have P28 := Lib.hid hP9
 have R29 := Lib.hid hr9
 have X30 := hbx hg (by have z := Z24.out; omega) X22
 clear X22
 clear P21
 have G31 := Lib.hid (gr_trans G23.out hg)
 clear G23
 have Z32 := hzz hg Z24
 clear hg hP9 hr9 R20
 obtain ⟨h33, rfl, hE9⟩ := hG
 have E34 := Lib.hid hE9
 clear hE9
 have L36 : Hid (r1.length < r25.length) := by
  have := FI.out
  rw [hp] at this
  exact Lib.hid this
 clear FI hp
 have L37 := Lib.hid (show r1.length ≤ r.length by have := L36.out; have := L26.out; omega)
 go_upto_region 4 with ((with_reducible refine m_new 39 4 16 ?_ ?_ ?_ (eC h33) ?_ ?_ ?_ ?_ (eC_one _) ?_); rfl; rfl; rfl; rfl; rfl; rfl; kernel_rfl; intro w8 hx hb hz)
 have hg := gr_of (row := some w7.heap.size) hb
 have Z38 := Lib.hid (And.intro hz Z32.out)
 have X39 := Lib.hid hx
 clear hb hx hz
 have X40 := hbx hg (by have z := Z32.out; omega) X30
 clear X30
 have E41 := hkExB hg (by have z := Z32.out; omega) E34
 clear E34
 have P42 := Lib.hid (P28.out.gr hg (by have z := Z32.out; omega))
 clear P28
 have G43 := hgt hg G31 (fun _ => by have z := Z32.out; omega)
 clear G31
 have Z44 := hzz hg Z38
 clear hg
 have L45 := Lib.hid (drop_len r1)
 by_cases hs46 : txt (r1) = [84, 79]
 rotate_left
 ·have hq := HR27.out
  rw [need_badE hs46] at hq
  go_wp2_with (go_at_call 18; fail)
  refine (need_no P42.out R29.out (mt (headS_txt R29.out (by decide) (by decide) (by decide) (by decide)).1 hs46)).mono ?_
  rintro e w9 ⟨rfl, hb⟩
  go_wp2
  exact ⟨rfl, Gv.badOf hq.symm (gr_trans G43.out (gr_of hb))⟩
 have hq := HR27.out
 rw [need_okE hs46, bind_okE] at hq
 have HR47 := Lib.hid hq
 clear hq HR27
 have R48 := Lib.hid (R29.out.drop (txt_kind hs46 (by decide)))
 go_wp2_with (go_at_call 18; fail)
 refine (need_yes P42.out R29.out ((headS_txt R29.out (by decide) (by decide) (by decide) (by decide)).2 hs46)).mono ?_
 rintro e w9 ⟨rfl, hp, hg⟩
 have P49 := Lib.hid hp
 have X50 := hbx hg (by have z := Z44.out; omega) X40
 clear X40
 have X51 := hbx hg (by have z := Z44.out; omega) X39
 clear X39
 have E52 := hkExB hg (by have z := Z44.out; omega) E41
 clear E41
 clear P42
 have G53 := Lib.hid (gr_trans G43.out hg)
 clear G43
 have Z54 := hzz hg Z44
 clear hg hp
 clear R29
 generalize ((r1).drop 1) = r55 at *
 have L56 := Lib.hid (show r55.length ≤ r.length by have := L45.out; have := L37.out; omega)
 have FI := Lib.hid (fin_expr (d := d) (f := f) (r := r55) (by have z := Z54.out; have := HF.out; have := L56.out; omega))
 go_wp2_with (go_at_call 84; fail)
 refine (expr_gets (f := f) (d := d) hd R48.out (by have z := Z54.out; have := HF.out; have := L56.out; omega) _ _ _ P49.out).mono ?_
 rintro e w10 hgv
 rcases hp : expr f d r55 with ⟨x2, r2⟩ | ⟨n9, t9⟩
 rotate_left
 ·rw [hp] at hgv
  obtain ⟨rfl, hg⟩ := hgv
  have hq := HR47.out
  rw [hp] at hq
  go_wp2
  exact ⟨rfl, Gv.badOf hq.symm (gr_trans G53.out hg)⟩
 rw [hp] at hgv
 obtain ⟨⟨v9, rfl, hG⟩, hP9, hr9, hg⟩ := hgv
 have hq := HR47.out
 rw [hp] at hq
 try rw [bind_okE] at hq
 have HR57 := Lib.hid hq
 clear hq HR47
 have P58 := Lib.hid hP9
 have R59 := Lib.hid hr9
 have X60 := hbx hg (by have z := Z54.out; omega) X50
 clear X50
 have X61 := hbx hg (by have z := Z54.out; omega) X51
 clear X51
 have E62 := hkExB hg (by have z := Z54.out; omega) E52
 clear E52
 clear P49
 have G63 := Lib.hid (gr_trans G53.out hg)
 clear G53
 have Z64 := hzz hg Z54
 clear hg hP9 hr9 R48
 obtain ⟨h65, rfl, hE9⟩ := hG
 have E66 := Lib.hid hE9
 clear hE9
 have L68 : Hid (r2.length < r55.length) := by
  have := FI.out
  rw [hp] at this
  exact Lib.hid this
 clear FI hp
 have L69 := Lib.hid (show r2.length ≤ r.length by have := L68.out; have := L56.out; omega)
 go_upto_region 6 with ((with_reducible refine m_new 39 5 20 ?_ ?_ ?_ (eC h65) ?_ ?_ ?_ ?_ (eC_one _) ?_); rfl; rfl; rfl; rfl; rfl; rfl; kernel_rfl; intro w11 hx hb hz)
 have hg := gr_of (row := some w10.heap.size) hb
 have Z70 := Lib.hid (And.intro hz Z64.out)
 have X71 := Lib.hid hx
 clear hb hx hz
 have X72 := hbx hg (by have z := Z64.out; omega) X60
 clear X60
 have X73 := hbx hg (by have z := Z64.out; omega) X61
 clear X61
 have E74 := hkExB hg (by have z := Z64.out; omega) E62
 clear E62
 have E75 := hkExB hg (by have z := Z64.out; omega) E66
 clear E66
 have P76 := Lib.hid (P58.out.gr hg (by have z := Z64.out; omega))
 clear P58
 have G77 := hgt hg G63 (fun _ => by have z := Z64.out; omega)
 clear G63
 have Z78 := hzz hg Z70
 clear hg
 go_upto_region 7 with ((with_reducible refine m_new 39 6 21 ?_ ?_ ?_ (eC ⟨1, 1, [], [], ⟨none, 0, 0⟩, 0⟩) ?_ ?_ ?_ ?_ (eC_one _) ?_); rfl; rfl; rfl; rfl; rfl; rfl; kernel_rfl; intro w12 hx hb hz)
 have hg := gr_of (row := some w11.heap.size) hb
 have Z79 := Lib.hid (And.intro hz Z78.out)
 have X80 := Lib.hid hx
 clear hb hx hz
 have X81 := hbx hg (by have z := Z78.out; omega) X72
 clear X72
 have X82 := hbx hg (by have z := Z78.out; omega) X73
 clear X73
 have X83 := hbx hg (by have z := Z78.out; omega) X71
 clear X71
 have E84 := hkExB hg (by have z := Z78.out; omega) E74
 clear E74
 have E85 := hkExB hg (by have z := Z78.out; omega) E75
 clear E75
 have P86 := Lib.hid (P76.out.gr hg (by have z := Z78.out; omega))
 clear P76
 have G87 := hgt hg G77 (fun _ => by have z := Z78.out; omega)
 clear G77
 have Z88 := hzz hg Z79
 clear hg
 by_cases hw : txt r2 = [66, 89]
 ·skip
  have hq := HR57.out
  rw [if_pos hw] at hq
  have HR89 := Lib.hid hq
  clear hq HR57
  have L90 := Lib.hid (drop_len r2)
  have R91 := Lib.hid (R59.out.drop (txt_kind hw (by decide)))
  go_wp2_with (go_at_call 32; fail)
  refine (take_yes P86.out R59.out ((headS_txt R59.out (by decide) (by decide) (by decide) (by decide)).2 hw) (txt_kind hw (by decide))).mono ?_
  rintro e w13 ⟨rfl, hp, hg⟩
  have P92 := Lib.hid hp
  have X93 := hbx hg (by have z := Z88.out; omega) X81
  clear X81
  have X94 := hbx hg (by have z := Z88.out; omega) X82
  clear X82
  have X95 := hbx hg (by have z := Z88.out; omega) X83
  clear X83
  have X96 := hbx hg (by have z := Z88.out; omega) X80
  clear X80
  have E97 := hkExB hg (by have z := Z88.out; omega) E84
  clear E84
  have E98 := hkExB hg (by have z := Z88.out; omega) E85
  clear E85
  clear P86
  have G99 := Lib.hid (gr_trans G87.out hg)
  clear G87
  have Z100 := hzz hg Z88
  clear hg hp
  clear R59
  generalize ((r2).drop 1) = r101 at *
  have L102 := Lib.hid (show r101.length ≤ r.length by have := L90.out; have := L69.out; omega)
  have FI := Lib.hid (fin_expr (d := d) (f := f) (r := r101) (by have z := Z100.out; have := HF.out; have := L102.out; omega))
  go_wp2_with (go_at_call 84; fail)
  refine (expr_gets (f := f) (d := d) hd R91.out (by have z := Z100.out; have := HF.out; have := L102.out; omega) _ _ _ P92.out).mono ?_
  rintro e w14 hgv
  rcases hp : expr f d r101 with ⟨x3, r3⟩ | ⟨n9, t9⟩
  rotate_left
  ·rw [hp] at hgv
   obtain ⟨rfl, hg⟩ := hgv
   have hq := HR89.out
   rw [hp] at hq
   go_wp2
   exact ⟨rfl, Gv.badOf hq.symm (gr_trans G99.out hg)⟩
  rw [hp] at hgv
  obtain ⟨⟨v9, rfl, hG⟩, hP9, hr9, hg⟩ := hgv
  have hq := HR89.out
  rw [hp] at hq
  try rw [bind_okE] at hq
  have HR103 := Lib.hid hq
  clear hq HR89
  have P104 := Lib.hid hP9
  have R105 := Lib.hid hr9
  have X106 := hbx hg (by have z := Z100.out; omega) X93
  clear X93
  have X107 := hbx hg (by have z := Z100.out; omega) X94
  clear X94
  have X108 := hbx hg (by have z := Z100.out; omega) X95
  clear X95
  have X109 := hbx hg (by have z := Z100.out; omega) X96
  clear X96
  have E110 := hkExB hg (by have z := Z100.out; omega) E97
  clear E97
  have E111 := hkExB hg (by have z := Z100.out; omega) E98
  clear E98
  clear P92
  have G112 := Lib.hid (gr_trans G99.out hg)
  clear G99
  have Z113 := hzz hg Z100
  clear hg hP9 hr9 R91
  obtain ⟨h114, rfl, hE9⟩ := hG
  have E115 := Lib.hid hE9
  clear hE9
  have L117 : Hid (r3.length < r101.length) := by
   have := FI.out
   rw [hp] at this
   exact Lib.hid this
  clear FI hp
  have L118 := Lib.hid (show r3.length ≤ r.length by have := L117.out; have := L102.out; omega)
  go_upto_region 10 with ((with_reducible refine m_store X109.out 39 6 26 ?_ ?_ ?_ (eC h114) ?_ ?_ ?_ ?_ (eC_one _) ?_); rfl; rfl; rfl; rfl; rfl; rfl; kernel_rfl; intro w15 hx hg hs)
  have X119 := Lib.hid hx
  have Z120 := Lib.hid (And.intro hs Z113.out)
  clear hx hs X109
  have X121 := hbx hg (by have z := Z113.out; omega) X106
  clear X106
  have X122 := hbx hg (by have z := Z113.out; omega) X107
  clear X107
  have X123 := hbx hg (by have z := Z113.out; omega) X108
  clear X108
  have E124 := hkExB hg (by have z := Z113.out; omega) E110
  clear E110
  have E125 := hkExB hg (by have z := Z113.out; omega) E111
  clear E111
  have E126 := hkExB hg (by have z := Z113.out; omega) E115
  clear E115
  have P127 := Lib.hid (P104.out.gr hg (by have z := Z113.out; omega))
  clear P104
  have G128 := hgt hg G112 (fun _ => by have z := Z113.out; omega)
  clear G112
  have Z129 := hzz hg Z120
  clear hg
  have L130 := Lib.hid (drop_len r3)
  by_cases hs131 : txt (r3) = [68, 79]
  rotate_left
  ·have hq := HR103.out
   rw [need_badE hs131] at hq
   go_wp2_with (go_at_call 18; fail)
   refine (need_no P127.out R105.out (mt (headS_txt R105.out (by decide) (by decide) (by decide) (by decide)).1 hs131)).mono ?_
   rintro e w16 ⟨rfl, hb⟩
   go_wp2
   exact ⟨rfl, Gv.badOf hq.symm (gr_trans G128.out (gr_of hb))⟩
  have hq := HR103.out
  rw [need_okE hs131, bind_okE] at hq
  have HR132 := Lib.hid hq
  clear hq HR103
  have R133 := Lib.hid (R105.out.drop (txt_kind hs131 (by decide)))
  go_wp2_with (go_at_call 18; fail)
  refine (need_yes P127.out R105.out ((headS_txt R105.out (by decide) (by decide) (by decide) (by decide)).2 hs131)).mono ?_
  rintro e w16 ⟨rfl, hp, hg⟩
  have P134 := Lib.hid hp
  have X135 := hbx hg (by have z := Z129.out; omega) X121
  clear X121
  have X136 := hbx hg (by have z := Z129.out; omega) X122
  clear X122
  have X137 := hbx hg (by have z := Z129.out; omega) X123
  clear X123
  have X138 := hbx hg (by have z := Z129.out; omega) X119
  clear X119
  have E139 := hkExB hg (by have z := Z129.out; omega) E124
  clear E124
  have E140 := hkExB hg (by have z := Z129.out; omega) E125
  clear E125
  have E141 := hkExB hg (by have z := Z129.out; omega) E126
  clear E126
  clear P127
  have G142 := Lib.hid (gr_trans G128.out hg)
  clear G128
  have Z143 := hzz hg Z129
  clear hg hp
  clear R105
  generalize ((r3).drop 1) = r144 at *
  have L145 := Lib.hid (show r144.length ≤ r.length by have := L130.out; have := L118.out; omega)
  go_upto_region 11 with ((with_reducible refine m_new 29 8 28 ?_ ?_ ?_ (tC (tr.hd r3)) ?_ ?_ ?_ ?_ (tC_one _) ?_); rfl; rfl; rfl; rfl; rfl; rfl; kernel_rfl; intro w17 hx hb hz)
  have hg := gr_of (row := some w16.heap.size) hb
  have Z146 := Lib.hid (And.intro hz Z143.out)
  have X147 := Lib.hid hx
  clear hb hx hz
  have X148 := hbx hg (by have z := Z143.out; omega) X135
  clear X135
  have X149 := hbx hg (by have z := Z143.out; omega) X136
  clear X136
  have X150 := hbx hg (by have z := Z143.out; omega) X137
  clear X137
  have X151 := hbx hg (by have z := Z143.out; omega) X138
  clear X138
  have E152 := hkExB hg (by have z := Z143.out; omega) E139
  clear E139
  have E153 := hkExB hg (by have z := Z143.out; omega) E140
  clear E140
  have E154 := hkExB hg (by have z := Z143.out; omega) E141
  clear E141
  have P155 := Lib.hid (P134.out.gr hg (by have z := Z143.out; omega))
  clear P134
  have G156 := hgt hg G142 (fun _ => by have z := Z143.out; omega)
  clear G142
  have Z157 := hzz hg Z146
  clear hg
  have FI := Lib.hid (fin_stmts (d := d) (f := f) (r := r144) (ends := [[69, 78, 68, 95, 70, 79, 82]]) (ac := []) (by have z := Z157.out; have := HF.out; have := L145.out; omega))
  go_wp2_with (go_at_call 20; fail)
  have hb := (Below.refl w17.heap.size w17).alloc (Nat.le_refl _) (.cells #[.string ⟨#[69, 78, 68, 95, 70, 79, 82]⟩] 9)
  have hR : RB tC1 1 (w17.alloc (.cells #[.string ⟨#[69, 78, 68, 95, 70, 79, 82]⟩] 9)) (Nw w17.heap.size (w17.heap.size + 1)) ⟨some ⟨w17.heap.size, 0, none⟩, 1, 1⟩ [[69, 78, 68, 95, 70, 79, 82]] := rb_many w17 9 [[69, 78, 68, 95, 70, 79, 82]] #[.string ⟨#[69, 78, 68, 95, 70, 79, 82]⟩] rfl (Nat.le_refl _) (Nat.le_refl _)
  have hz : (w17.alloc (.cells #[.string ⟨#[69, 78, 68, 95, 70, 79, 82]⟩] 9)).heap.size = w17.heap.size + 1 := by simp
  generalize w17.alloc (.cells #[.string ⟨#[69, 78, 68, 95, 70, 79, 82]⟩] 9) = w18 at *
  have hg := gr_of (row := some w17.heap.size) hb
  have HZ1 := Lib.hid hz
  have HRB := Lib.hid hR
  clear hb hR hz
  have Z158 := Lib.hid (And.intro HZ1.out Z157.out)
  have E159 := HRB
  clear HZ1 HRB
  have X160 := hbx hg (by have z := Z157.out; omega) X148
  clear X148
  have X161 := hbx hg (by have z := Z157.out; omega) X149
  clear X149
  have X162 := hbx hg (by have z := Z157.out; omega) X150
  clear X150
  have X163 := hbx hg (by have z := Z157.out; omega) X151
  clear X151
  have X164 := hbx hg (by have z := Z157.out; omega) X147
  clear X147
  have E165 := hkExB hg (by have z := Z157.out; omega) E152
  clear E152
  have E166 := hkExB hg (by have z := Z157.out; omega) E153
  clear E153
  have E167 := hkExB hg (by have z := Z157.out; omega) E154
  clear E154
  have P168 := Lib.hid (P155.out.gr hg (by have z := Z157.out; omega))
  clear P155
  have G169 := hgt hg G156 (fun _ => by have z := Z157.out; omega)
  clear G156
  have Z170 := hzz hg Z158
  clear hg
  refine (HBB.out [[69, 78, 68, 95, 70, 79, 82]] r144 (by decide) R133.out L145.out _ _ _ _ P168.out (by have z := Z170.out; omega) (by have z := Z170.out; omega) E159.out).mono ?_
  rintro e w19 hgv
  rcases hp : stmtsF f d [[69, 78, 68, 95, 70, 79, 82]] r144 [] with ⟨B1, r8⟩ | ⟨n9, t9⟩
  rotate_left
  ·rw [hp] at hgv
   obtain ⟨rfl, hg⟩ := hgv
   have hq := HR132.out
   rw [hp] at hq
   go_wp2
   exact ⟨rfl, Gv.badOf hq.symm (gr_trans G169.out hg)⟩
  rw [hp] at hgv
  obtain ⟨⟨v9, rfl, hG⟩, hP9, hr9, hg⟩ := hgv
  have hq := HR132.out
  rw [hp] at hq
  try rw [bind_okE] at hq
  have HR172 := Lib.hid hq
  clear hq HR132
  have P173 := Lib.hid hP9
  have R174 := Lib.hid hr9
  have X175 := hbx hg (by have z := Z170.out; omega) X160
  clear X160
  have X176 := hbx hg (by have z := Z170.out; omega) X161
  clear X161
  have X177 := hbx hg (by have z := Z170.out; omega) X162
  clear X162
  have X178 := hbx hg (by have z := Z170.out; omega) X163
  clear X163
  have X179 := hbx hg (by have z := Z170.out; omega) X164
  clear X164
  have E180 := hkExB hg (by have z := Z170.out; omega) E165
  clear E165
  have E181 := hkExB hg (by have z := Z170.out; omega) E166
  clear E166
  have E182 := hkExB hg (by have z := Z170.out; omega) E167
  clear E167
  have E183 := hkRB hg (by have z := Z170.out; omega) E159
  clear E159
  clear P168
  have G184 := Lib.hid (gr_trans G169.out hg)
  clear G169
  have Z185 := hzz hg Z170
  clear hg hP9 hr9 R133
  obtain ⟨s186, rfl, hE9⟩ := hG
  have E187 := Lib.hid hE9
  clear hE9
  clear E183
  have L189 : Hid (r8.length < r144.length + 1) := by
   have := FI.out
   rw [hp] at this
   exact Lib.hid this
  clear FI hp
  have L190 := Lib.hid (show r8.length ≤ r.length by have := L189.out; have := L145.out; omega)
  by_cases hs191 : txt (r8) = [69, 78, 68, 95, 70, 79, 82]
  rotate_left
  ·have hq := HR172.out
   rw [need_badE hs191] at hq
   go_wp2_with (go_at_call 18; fail)
   refine (need_no P173.out R174.out (mt (headS_txt R174.out (by decide) (by decide) (by decide) (by decide)).1 hs191)).mono ?_
   rintro e w20 ⟨rfl, hb⟩
   go_wp2
   exact ⟨rfl, Gv.badOf hq.symm (gr_trans G184.out (gr_of hb))⟩
  have hq := HR172.out
  rw [need_okE hs191, bind_okE] at hq
  have HR192 := Lib.hid hq
  clear hq HR172
  have R193 := Lib.hid (R174.out.drop (txt_kind hs191 (by decide)))
  go_wp2_with (go_at_call 18; fail)
  refine (need_yes P173.out R174.out ((headS_txt R174.out (by decide) (by decide) (by decide) (by decide)).2 hs191)).mono ?_
  rintro e w20 ⟨rfl, hp, hg⟩
  have P194 := Lib.hid hp
  have X195 := hbx hg (by have z := Z185.out; omega) X175
  clear X175
  have X196 := hbx hg (by have z := Z185.out; omega) X176
  clear X176
  have X197 := hbx hg (by have z := Z185.out; omega) X177
  clear X177
  have X198 := hbx hg (by have z := Z185.out; omega) X178
  clear X178
  have X199 := hbx hg (by have z := Z185.out; omega) X179
  clear X179
  have E200 := hkExB hg (by have z := Z185.out; omega) E180
  clear E180
  have E201 := hkExB hg (by have z := Z185.out; omega) E181
  clear E181
  have E202 := hkExB hg (by have z := Z185.out; omega) E182
  clear E182
  have E203 := hkStLB hg (by have z := Z185.out; omega) E187
  clear E187
  clear P173
  have G204 := Lib.hid (gr_trans G184.out hg)
  clear G184
  have Z205 := hzz hg Z185
  clear hg hp
  clear R174
  generalize ((r8).drop 1) = r206 at *
  go_wp2_with (first | ((with_reducible refine m_load X196.out 39 4 ?_ ?_ ?_ ?_ ?_ ?_); rfl; rfl; rfl; rfl; kernel_rfl) | ((with_reducible refine m_load X197.out 39 5 ?_ ?_ ?_ ?_ ?_ ?_); rfl; rfl; rfl; rfl; kernel_rfl) | ((with_reducible refine m_load X198.out 39 6 ?_ ?_ ?_ ?_ ?_ ?_); rfl; rfl; rfl; rfl; kernel_rfl) | ((with_reducible refine m_slice3 eC_len h33 h65 h114 37 39 40 41 42 (.agg (eC h33).toArray) (.agg (eC h65).toArray) (.agg (eC h114).toArray) (eC h33 ++ (eC h65 ++ eC h114)).toArray ?_ ?_ ?_ ?_ ?_ (bs_E3 h33 h65 h114) ?_ ?_); rfl; rfl; rfl; rfl; rfl; rfl; intro w21 hrb hb1 hz1; have XR1 := Lib.hid (X195.out.below hb1 (by have z := Z205.out; omega)); have HRB := Lib.hid hrb; have HB1 := Lib.hid hb1; have HZ1 := Lib.hid hz1; clear hrb hb1 hz1) | ((with_reducible refine m_slice1 (enc := slC) (z := 1) s186 42 24 44 (Sl.v s186) (slC s186).toArray ?_ ?_ ?_ (bs_L s186) ?_ ?_); rfl; rfl; rfl; rfl; intro w22 hrb hb1 hz1; have XR2 := Lib.hid (XR1.out.below hb1 (Nat.lt_of_lt_of_le (by have z := Z205.out; omega) HB1.out.size)); have HRBb := Lib.hid hrb; have HB1b := Lib.hid hb1; have HZ1b := Lib.hid hz1; clear hrb hb1 hz1) | ((with_reducible refine m_store XR2.out 44 2 46 ?_ ?_ ?_ (sC ⟨4, (tr.hd (r)).text, ⟨0, 0, [], [], ⟨none, 0, 0⟩, 0⟩, ⟨0, 0, [], [], ⟨none, 0, 0⟩, 0⟩, ⟨some ⟨w20.heap.size, 0, none⟩, 3, 3⟩, ⟨none, 0, 0⟩, ⟨none, 0, 0⟩, ⟨some ⟨w21.heap.size, 0, none⟩, 1, 1⟩, 0⟩) ?_ ?_ ?_ ?_ (sC_one _) ?_); rfl; rfl; rfl; rfl; rfl; rfl; kernel_rfl; intro w23 hx hg hs))
  have HX9 := Lib.hid hx
  have HG9 := Lib.hid hg
  have HS9 := Lib.hid hs
  clear hx hg hs XR1 XR2
  have hg := gr_of (row := some w20.heap.size) HB1.out
  have Z207 := Lib.hid (And.intro HZ1.out Z205.out)
  have E208 := HRB
  clear HZ1 HRB
  have X209 := hbx hg (by have z := Z205.out; omega) X195
  clear X195
  have X210 := hbx hg (by have z := Z205.out; omega) X196
  clear X196
  have X211 := hbx hg (by have z := Z205.out; omega) X197
  clear X197
  have X212 := hbx hg (by have z := Z205.out; omega) X198
  clear X198
  have X213 := hbx hg (by have z := Z205.out; omega) X199
  clear X199
  have E214 := hkExB hg (by have z := Z205.out; omega) E200
  clear E200
  have E215 := hkExB hg (by have z := Z205.out; omega) E201
  clear E201
  have E216 := hkExB hg (by have z := Z205.out; omega) E202
  clear E202
  have E217 := hkStLB hg (by have z := Z205.out; omega) E203
  clear E203
  have P218 := Lib.hid (P194.out.gr hg (by have z := Z205.out; omega))
  clear P194
  have G219 := hgt hg G204 (fun _ => by have z := Z205.out; omega)
  clear G204
  have Z220 := hzz hg Z207
  clear hg HB1
  have hg := gr_of (row := some w21.heap.size) HB1b.out
  have Z222 := Lib.hid (And.intro HZ1b.out Z220.out)
  have E223 := HRBb
  clear HZ1b HRBb
  have X224 := hbx hg (by have z := Z220.out; omega) X209
  clear X209
  have X225 := hbx hg (by have z := Z220.out; omega) X210
  clear X210
  have X226 := hbx hg (by have z := Z220.out; omega) X211
  clear X211
  have X227 := hbx hg (by have z := Z220.out; omega) X212
  clear X212
  have X228 := hbx hg (by have z := Z220.out; omega) X213
  clear X213
  have E229 := hkExB hg (by have z := Z220.out; omega) E214
  clear E214
  have E230 := hkExB hg (by have z := Z220.out; omega) E215
  clear E215
  have E231 := hkExB hg (by have z := Z220.out; omega) E216
  clear E216
  have E232 := hkStLB hg (by have z := Z220.out; omega) E217
  clear E217
  have E233 := hkRB hg (by have z := Z220.out; omega) E208
  clear E208
  have P234 := Lib.hid (P218.out.gr hg (by have z := Z220.out; omega))
  clear P218
  have G235 := hgt hg G219 (fun _ => by have z := Z220.out; omega)
  clear G219
  have Z236 := hzz hg Z222
  clear hg HB1b
  have hx := HX9.out
  have hg := HG9.out
  have hs := HS9.out
  clear HX9 HG9 HS9
  have X238 := Lib.hid hx
  have Z239 := Lib.hid (And.intro hs Z236.out)
  clear hx hs X224
  have X240 := hbx hg (by have z := Z236.out; omega) X225
  clear X225
  have X241 := hbx hg (by have z := Z236.out; omega) X226
  clear X226
  have X242 := hbx hg (by have z := Z236.out; omega) X227
  clear X227
  have X243 := hbx hg (by have z := Z236.out; omega) X228
  clear X228
  have E244 := hkExB hg (by have z := Z236.out; omega) E229
  clear E229
  have E245 := hkExB hg (by have z := Z236.out; omega) E230
  clear E230
  have E246 := hkExB hg (by have z := Z236.out; omega) E231
  clear E231
  have E247 := hkStLB hg (by have z := Z236.out; omega) E232
  clear E232
  have E248 := hkRB hg (by have z := Z236.out; omega) E233
  clear E233
  have E249 := hkRB hg (by have z := Z236.out; omega) E223
  clear E223
  have P250 := Lib.hid (P234.out.gr hg (by have z := Z236.out; omega))
  clear P234
  have G251 := hgt hg G235 (fun _ => by have z := Z236.out; omega)
  clear G235
  have Z252 := hzz hg Z239
  clear hg
  refine bodyPost_ret (k.results_cell rfl rfl (run_loadVar_mid _ w.heap.size 0 44 _ _ X238.out.range rfl rfl (by kernel_rfl))) rfl ?_
  refine Gv.okOf HR192.out.symm ⟨fun _ => rfl, ⟨4, (tr.hd (r)).text, ⟨0, 0, [], [], ⟨none, 0, 0⟩, 0⟩, ⟨0, 0, [], [], ⟨none, 0, 0⟩, 0⟩, ⟨some ⟨w20.heap.size, 0, none⟩, 3, 3⟩, ⟨none, 0, 0⟩, ⟨none, 0, 0⟩, ⟨some ⟨w21.heap.size, 0, none⟩, 1, 1⟩, 0⟩, rfl, ?_⟩ P250.out R193.out G251.out
  unfold StB
  exact ⟨rfl, rfl, rfl, zeroE_B _ _, zeroE_B _ _, ⟨[h33, h65, h114], (RB.kept (more_nw (by have z := Z252.out; omega) (by have z := Z252.out; omega)) E248.out), h33, _, rfl, (ExB.kept (more_nw (by have z := Z252.out; omega) (by have z := Z252.out; omega)) E244.out), h65, _, rfl, (ExB.kept (more_nw (by have z := Z252.out; omega) (by have z := Z252.out; omega)) E245.out), h114, _, rfl, (ExB.kept (more_nw (by have z := Z252.out; omega) (by have z := Z252.out; omega)) E246.out), rfl⟩, ⟨[], RB.none_ _ _ _ _, rfl⟩, RB.none_ _ _ _ _, [s186], (RB.kept (more_nw (by have z := Z252.out; omega) (by have z := Z252.out; omega)) E249.out), BlksB.snoc (StLB.kept (more_nw (by have z := Z252.out; omega) (by have z := Z252.out; omega)) E247.out) BlksB.nil⟩
 ·skip
  have hq := HR57.out
  rw [if_neg hw, bind_okE] at hq
  have HR89 := Lib.hid hq
  clear hq HR57
  go_wp2_with (go_at_call 32; fail)
  refine (take_no P86.out R59.out (mt (headS_txt R59.out (by decide) (by decide) (by decide) (by decide)).1 hw)).mono ?_
  rintro e w13 ⟨rfl, hb⟩
  have hg := gr_of (row := some w12.heap.size) hb
  have X90 := hbx hg (by have z := Z88.out; omega) X81
  clear X81
  have X91 := hbx hg (by have z := Z88.out; omega) X82
  clear X82
  have X92 := hbx hg (by have z := Z88.out; omega) X83
  clear X83
  have X93 := hbx hg (by have z := Z88.out; omega) X80
  clear X80
  have E94 := hkExB hg (by have z := Z88.out; omega) E84
  clear E84
  have E95 := hkExB hg (by have z := Z88.out; omega) E85
  clear E85
  have P96 := Lib.hid (P86.out.gr hg (by have z := Z88.out; omega))
  clear P86
  have G97 := hgt hg G87 (fun _ => by have z := Z88.out; omega)
  clear G87
  have Z98 := hzz hg Z88
  clear hg hb
  have L99 := Lib.hid (drop_len r2)
  by_cases hs100 : txt (r2) = [68, 79]
  rotate_left
  ·have hq := HR89.out
   rw [need_badE hs100] at hq
   go_wp2_with (go_at_call 18; fail)
   refine (need_no P96.out R59.out (mt (headS_txt R59.out (by decide) (by decide) (by decide) (by decide)).1 hs100)).mono ?_
   rintro e w14 ⟨rfl, hb⟩
   go_wp2
   exact ⟨rfl, Gv.badOf hq.symm (gr_trans G97.out (gr_of hb))⟩
  have hq := HR89.out
  rw [need_okE hs100, bind_okE] at hq
  have HR101 := Lib.hid hq
  clear hq HR89
  have R102 := Lib.hid (R59.out.drop (txt_kind hs100 (by decide)))
  go_wp2_with (go_at_call 18; fail)
  refine (need_yes P96.out R59.out ((headS_txt R59.out (by decide) (by decide) (by decide) (by decide)).2 hs100)).mono ?_
  rintro e w14 ⟨rfl, hp, hg⟩
  have P103 := Lib.hid hp
  have X104 := hbx hg (by have z := Z98.out; omega) X90
  clear X90
  have X105 := hbx hg (by have z := Z98.out; omega) X91
  clear X91
  have X106 := hbx hg (by have z := Z98.out; omega) X92
  clear X92
  have X107 := hbx hg (by have z := Z98.out; omega) X93
  clear X93
  have E108 := hkExB hg (by have z := Z98.out; omega) E94
  clear E94
  have E109 := hkExB hg (by have z := Z98.out; omega) E95
  clear E95
  clear P96
  have G110 := Lib.hid (gr_trans G97.out hg)
  clear G97
  have Z111 := hzz hg Z98
  clear hg hp
  clear R59
  generalize ((r2).drop 1) = r112 at *
  have L113 := Lib.hid (show r112.length ≤ r.length by have := L99.out; have := L69.out; omega)
  go_upto_region 11 with ((with_reducible refine m_new 29 8 28 ?_ ?_ ?_ (tC (tr.hd r2)) ?_ ?_ ?_ ?_ (tC_one _) ?_); rfl; rfl; rfl; rfl; rfl; rfl; kernel_rfl; intro w15 hx hb hz)
  have hg := gr_of (row := some w14.heap.size) hb
  have Z114 := Lib.hid (And.intro hz Z111.out)
  have X115 := Lib.hid hx
  clear hb hx hz
  have X116 := hbx hg (by have z := Z111.out; omega) X104
  clear X104
  have X117 := hbx hg (by have z := Z111.out; omega) X105
  clear X105
  have X118 := hbx hg (by have z := Z111.out; omega) X106
  clear X106
  have X119 := hbx hg (by have z := Z111.out; omega) X107
  clear X107
  have E120 := hkExB hg (by have z := Z111.out; omega) E108
  clear E108
  have E121 := hkExB hg (by have z := Z111.out; omega) E109
  clear E109
  have P122 := Lib.hid (P103.out.gr hg (by have z := Z111.out; omega))
  clear P103
  have G123 := hgt hg G110 (fun _ => by have z := Z111.out; omega)
  clear G110
  have Z124 := hzz hg Z114
  clear hg
  have ⟨c3, _⟩ := cell_of X115.out (i := 3) rfl
  have ⟨d5, e5⟩ := cell_of X119.out (i := 5) rfl
  go_upto_region 13 with (fail)
  clear c3 d5 e5
  have hg := gr_set w15 (w11.heap.size) 5 (.int .i64 (tr.hd r2).line)
  have hx : Box (w15.setCell ⟨w11.heap.size, 5, none⟩ (.int .i64 (tr.hd r2).line)) (w11.heap.size) 0 (eC ⟨1, 1, [], [], ⟨none, 0, 0⟩, (tr.hd r2).line⟩) := Box.put X119.out 5 (show 5 < 6 by decide) (.int .i64 (tr.hd r2).line)
  have hs : (w15.setCell ⟨w11.heap.size, 5, none⟩ (.int .i64 (tr.hd r2).line)).heap.size = w15.heap.size := set_size _ _ _
  generalize w15.setCell ⟨w11.heap.size, 5, none⟩ (.int .i64 (tr.hd r2).line) = w16 at *
  have X125 := Lib.hid hx
  have Z126 := Lib.hid (And.intro hs Z124.out)
  clear hx hs X119
  have X127 := hbx hg (by have z := Z124.out; omega) X116
  clear X116
  have X128 := hbx hg (by have z := Z124.out; omega) X117
  clear X117
  have X129 := hbx hg (by have z := Z124.out; omega) X118
  clear X118
  have X130 := hbx hg (by have z := Z124.out; omega) X115
  clear X115
  have E131 := hkExB hg (by have z := Z124.out; omega) E120
  clear E120
  have E132 := hkExB hg (by have z := Z124.out; omega) E121
  clear E121
  have P133 := Lib.hid (P122.out.gr hg (by have z := Z124.out; omega))
  clear P122
  have G134 := hgt hg G123 (fun _ => by have z := Z124.out; omega)
  clear G123
  have Z135 := hzz hg Z126
  clear hg
  have FI := Lib.hid (fin_stmts (d := d) (f := f) (r := r112) (ends := [[69, 78, 68, 95, 70, 79, 82]]) (ac := []) (by have z := Z135.out; have := HF.out; have := L113.out; omega))
  go_wp2_with (go_at_call 20; fail)
  have hb := (Below.refl w16.heap.size w16).alloc (Nat.le_refl _) (.cells #[.string ⟨#[69, 78, 68, 95, 70, 79, 82]⟩] 9)
  have hR : RB tC1 1 (w16.alloc (.cells #[.string ⟨#[69, 78, 68, 95, 70, 79, 82]⟩] 9)) (Nw w16.heap.size (w16.heap.size + 1)) ⟨some ⟨w16.heap.size, 0, none⟩, 1, 1⟩ [[69, 78, 68, 95, 70, 79, 82]] := rb_many w16 9 [[69, 78, 68, 95, 70, 79, 82]] #[.string ⟨#[69, 78, 68, 95, 70, 79, 82]⟩] rfl (Nat.le_refl _) (Nat.le_refl _)
  have hz : (w16.alloc (.cells #[.string ⟨#[69, 78, 68, 95, 70, 79, 82]⟩] 9)).heap.size = w16.heap.size + 1 := by simp
  generalize w16.alloc (.cells #[.string ⟨#[69, 78, 68, 95, 70, 79, 82]⟩] 9) = w17 at *
  have hg := gr_of (row := some w16.heap.size) hb
  have HZ1 := Lib.hid hz
  have HRB := Lib.hid hR
  clear hb hR hz
  have Z136 := Lib.hid (And.intro HZ1.out Z135.out)
  have E137 := HRB
  clear HZ1 HRB
  have X138 := hbx hg (by have z := Z135.out; omega) X127
  clear X127
  have X139 := hbx hg (by have z := Z135.out; omega) X128
  clear X128
  have X140 := hbx hg (by have z := Z135.out; omega) X129
  clear X129
  have X141 := hbx hg (by have z := Z135.out; omega) X125
  clear X125
  have X142 := hbx hg (by have z := Z135.out; omega) X130
  clear X130
  have E143 := hkExB hg (by have z := Z135.out; omega) E131
  clear E131
  have E144 := hkExB hg (by have z := Z135.out; omega) E132
  clear E132
  have P145 := Lib.hid (P133.out.gr hg (by have z := Z135.out; omega))
  clear P133
  have G146 := hgt hg G134 (fun _ => by have z := Z135.out; omega)
  clear G134
  have Z147 := hzz hg Z136
  clear hg
  refine (HBB.out [[69, 78, 68, 95, 70, 79, 82]] r112 (by decide) R102.out L113.out _ _ _ _ P145.out (by have z := Z147.out; omega) (by have z := Z147.out; omega) E137.out).mono ?_
  rintro e w18 hgv
  rcases hp : stmtsF f d [[69, 78, 68, 95, 70, 79, 82]] r112 [] with ⟨B1, r8⟩ | ⟨n9, t9⟩
  rotate_left
  ·rw [hp] at hgv
   obtain ⟨rfl, hg⟩ := hgv
   have hq := HR101.out
   rw [hp] at hq
   go_wp2
   exact ⟨rfl, Gv.badOf hq.symm (gr_trans G146.out hg)⟩
  rw [hp] at hgv
  obtain ⟨⟨v9, rfl, hG⟩, hP9, hr9, hg⟩ := hgv
  have hq := HR101.out
  rw [hp] at hq
  try rw [bind_okE] at hq
  have HR149 := Lib.hid hq
  clear hq HR101
  have P150 := Lib.hid hP9
  have R151 := Lib.hid hr9
  have X152 := hbx hg (by have z := Z147.out; omega) X138
  clear X138
  have X153 := hbx hg (by have z := Z147.out; omega) X139
  clear X139
  have X154 := hbx hg (by have z := Z147.out; omega) X140
  clear X140
  have X155 := hbx hg (by have z := Z147.out; omega) X141
  clear X141
  have X156 := hbx hg (by have z := Z147.out; omega) X142
  clear X142
  have E157 := hkExB hg (by have z := Z147.out; omega) E143
  clear E143
  have E158 := hkExB hg (by have z := Z147.out; omega) E144
  clear E144
  have E159 := hkRB hg (by have z := Z147.out; omega) E137
  clear E137
  clear P145
  have G160 := Lib.hid (gr_trans G146.out hg)
  clear G146
  have Z161 := hzz hg Z147
  clear hg hP9 hr9 R102
  obtain ⟨s162, rfl, hE9⟩ := hG
  have E163 := Lib.hid hE9
  clear hE9
  clear E159
  have L165 : Hid (r8.length < r112.length + 1) := by
   have := FI.out
   rw [hp] at this
   exact Lib.hid this
  clear FI hp
  have L166 := Lib.hid (show r8.length ≤ r.length by have := L165.out; have := L113.out; omega)
  by_cases hs167 : txt (r8) = [69, 78, 68, 95, 70, 79, 82]
  rotate_left
  ·have hq := HR149.out
   rw [need_badE hs167] at hq
   go_wp2_with (go_at_call 18; fail)
   refine (need_no P150.out R151.out (mt (headS_txt R151.out (by decide) (by decide) (by decide) (by decide)).1 hs167)).mono ?_
   rintro e w19 ⟨rfl, hb⟩
   go_wp2
   exact ⟨rfl, Gv.badOf hq.symm (gr_trans G160.out (gr_of hb))⟩
  have hq := HR149.out
  rw [need_okE hs167, bind_okE] at hq
  have HR168 := Lib.hid hq
  clear hq HR149
  have R169 := Lib.hid (R151.out.drop (txt_kind hs167 (by decide)))
  go_wp2_with (go_at_call 18; fail)
  refine (need_yes P150.out R151.out ((headS_txt R151.out (by decide) (by decide) (by decide) (by decide)).2 hs167)).mono ?_
  rintro e w19 ⟨rfl, hp, hg⟩
  have P170 := Lib.hid hp
  have X171 := hbx hg (by have z := Z161.out; omega) X152
  clear X152
  have X172 := hbx hg (by have z := Z161.out; omega) X153
  clear X153
  have X173 := hbx hg (by have z := Z161.out; omega) X154
  clear X154
  have X174 := hbx hg (by have z := Z161.out; omega) X155
  clear X155
  have X175 := hbx hg (by have z := Z161.out; omega) X156
  clear X156
  have E176 := hkExB hg (by have z := Z161.out; omega) E157
  clear E157
  have E177 := hkExB hg (by have z := Z161.out; omega) E158
  clear E158
  have E178 := hkStLB hg (by have z := Z161.out; omega) E163
  clear E163
  clear P150
  have G179 := Lib.hid (gr_trans G160.out hg)
  clear G160
  have Z180 := hzz hg Z161
  clear hg hp
  clear R151
  generalize ((r8).drop 1) = r181 at *
  go_wp2_with (first | ((with_reducible refine m_load X172.out 39 4 ?_ ?_ ?_ ?_ ?_ ?_); rfl; rfl; rfl; rfl; kernel_rfl) | ((with_reducible refine m_load X173.out 39 5 ?_ ?_ ?_ ?_ ?_ ?_); rfl; rfl; rfl; rfl; kernel_rfl) | ((with_reducible refine m_load X174.out 39 6 ?_ ?_ ?_ ?_ ?_ ?_); rfl; rfl; rfl; rfl; kernel_rfl) | ((with_reducible refine m_slice3 eC_len h33 h65 ⟨1, 1, [], [], ⟨none, 0, 0⟩, (tr.hd r2).line⟩ 37 39 40 41 42 (.agg (eC h33).toArray) (.agg (eC h65).toArray) (.agg (eC ⟨1, 1, [], [], ⟨none, 0, 0⟩, (tr.hd r2).line⟩).toArray) (eC h33 ++ (eC h65 ++ eC ⟨1, 1, [], [], ⟨none, 0, 0⟩, (tr.hd r2).line⟩)).toArray ?_ ?_ ?_ ?_ ?_ (bs_E3 h33 h65 ⟨1, 1, [], [], ⟨none, 0, 0⟩, (tr.hd r2).line⟩) ?_ ?_); rfl; rfl; rfl; rfl; rfl; rfl; intro w20 hrb hb1 hz1; have XR1 := Lib.hid (X171.out.below hb1 (by have z := Z180.out; omega)); have HRB := Lib.hid hrb; have HB1 := Lib.hid hb1; have HZ1 := Lib.hid hz1; clear hrb hb1 hz1) | ((with_reducible refine m_slice1 (enc := slC) (z := 1) s162 42 24 44 (Sl.v s162) (slC s162).toArray ?_ ?_ ?_ (bs_L s162) ?_ ?_); rfl; rfl; rfl; rfl; intro w21 hrb hb1 hz1; have XR2 := Lib.hid (XR1.out.below hb1 (Nat.lt_of_lt_of_le (by have z := Z180.out; omega) HB1.out.size)); have HRBb := Lib.hid hrb; have HB1b := Lib.hid hb1; have HZ1b := Lib.hid hz1; clear hrb hb1 hz1) | ((with_reducible refine m_store XR2.out 44 2 46 ?_ ?_ ?_ (sC ⟨4, (tr.hd (r)).text, ⟨0, 0, [], [], ⟨none, 0, 0⟩, 0⟩, ⟨0, 0, [], [], ⟨none, 0, 0⟩, 0⟩, ⟨some ⟨w19.heap.size, 0, none⟩, 3, 3⟩, ⟨none, 0, 0⟩, ⟨none, 0, 0⟩, ⟨some ⟨w20.heap.size, 0, none⟩, 1, 1⟩, 0⟩) ?_ ?_ ?_ ?_ (sC_one _) ?_); rfl; rfl; rfl; rfl; rfl; rfl; kernel_rfl; intro w22 hx hg hs))
  have HX9 := Lib.hid hx
  have HG9 := Lib.hid hg
  have HS9 := Lib.hid hs
  clear hx hg hs XR1 XR2
  have hg := gr_of (row := some w19.heap.size) HB1.out
  have Z182 := Lib.hid (And.intro HZ1.out Z180.out)
  have E183 := HRB
  clear HZ1 HRB
  have X184 := hbx hg (by have z := Z180.out; omega) X171
  clear X171
  have X185 := hbx hg (by have z := Z180.out; omega) X172
  clear X172
  have X186 := hbx hg (by have z := Z180.out; omega) X173
  clear X173
  have X187 := hbx hg (by have z := Z180.out; omega) X174
  clear X174
  have X188 := hbx hg (by have z := Z180.out; omega) X175
  clear X175
  have E189 := hkExB hg (by have z := Z180.out; omega) E176
  clear E176
  have E190 := hkExB hg (by have z := Z180.out; omega) E177
  clear E177
  have E191 := hkStLB hg (by have z := Z180.out; omega) E178
  clear E178
  have P192 := Lib.hid (P170.out.gr hg (by have z := Z180.out; omega))
  clear P170
  have G193 := hgt hg G179 (fun _ => by have z := Z180.out; omega)
  clear G179
  have Z194 := hzz hg Z182
  clear hg HB1
  have hg := gr_of (row := some w20.heap.size) HB1b.out
  have Z196 := Lib.hid (And.intro HZ1b.out Z194.out)
  have E197 := HRBb
  clear HZ1b HRBb
  have X198 := hbx hg (by have z := Z194.out; omega) X184
  clear X184
  have X199 := hbx hg (by have z := Z194.out; omega) X185
  clear X185
  have X200 := hbx hg (by have z := Z194.out; omega) X186
  clear X186
  have X201 := hbx hg (by have z := Z194.out; omega) X187
  clear X187
  have X202 := hbx hg (by have z := Z194.out; omega) X188
  clear X188
  have E203 := hkExB hg (by have z := Z194.out; omega) E189
  clear E189
  have E204 := hkExB hg (by have z := Z194.out; omega) E190
  clear E190
  have E205 := hkStLB hg (by have z := Z194.out; omega) E191
  clear E191
  have E206 := hkRB hg (by have z := Z194.out; omega) E183
  clear E183
  have P207 := Lib.hid (P192.out.gr hg (by have z := Z194.out; omega))
  clear P192
  have G208 := hgt hg G193 (fun _ => by have z := Z194.out; omega)
  clear G193
  have Z209 := hzz hg Z196
  clear hg HB1b
  have hx := HX9.out
  have hg := HG9.out
  have hs := HS9.out
  clear HX9 HG9 HS9
  have X211 := Lib.hid hx
  have Z212 := Lib.hid (And.intro hs Z209.out)
  clear hx hs X198
  have X213 := hbx hg (by have z := Z209.out; omega) X199
  clear X199
  have X214 := hbx hg (by have z := Z209.out; omega) X200
  clear X200
  have X215 := hbx hg (by have z := Z209.out; omega) X201
  clear X201
  have X216 := hbx hg (by have z := Z209.out; omega) X202
  clear X202
  have E217 := hkExB hg (by have z := Z209.out; omega) E203
  clear E203
  have E218 := hkExB hg (by have z := Z209.out; omega) E204
  clear E204
  have E219 := hkStLB hg (by have z := Z209.out; omega) E205
  clear E205
  have E220 := hkRB hg (by have z := Z209.out; omega) E206
  clear E206
  have E221 := hkRB hg (by have z := Z209.out; omega) E197
  clear E197
  have P222 := Lib.hid (P207.out.gr hg (by have z := Z209.out; omega))
  clear P207
  have G223 := hgt hg G208 (fun _ => by have z := Z209.out; omega)
  clear G208
  have Z224 := hzz hg Z212
  clear hg
  refine bodyPost_ret (k.results_cell rfl rfl (run_loadVar_mid _ w.heap.size 0 44 _ _ X211.out.range rfl rfl (by kernel_rfl))) rfl ?_
  refine Gv.okOf HR168.out.symm ⟨fun _ => rfl, ⟨4, (tr.hd (r)).text, ⟨0, 0, [], [], ⟨none, 0, 0⟩, 0⟩, ⟨0, 0, [], [], ⟨none, 0, 0⟩, 0⟩, ⟨some ⟨w19.heap.size, 0, none⟩, 3, 3⟩, ⟨none, 0, 0⟩, ⟨none, 0, 0⟩, ⟨some ⟨w20.heap.size, 0, none⟩, 1, 1⟩, 0⟩, rfl, ?_⟩ P222.out R169.out G223.out
  unfold StB
  exact ⟨rfl, rfl, rfl, zeroE_B _ _, zeroE_B _ _, ⟨[h33, h65, ⟨1, 1, [], [], ⟨none, 0, 0⟩, (tr.hd r2).line⟩], (RB.kept (more_nw (by have z := Z224.out; omega) (by have z := Z224.out; omega)) E220.out), h33, _, rfl, (ExB.kept (more_nw (by have z := Z224.out; omega) (by have z := Z224.out; omega)) E217.out), h65, _, rfl, (ExB.kept (more_nw (by have z := Z224.out; omega) (by have z := Z224.out; omega)) E218.out), ⟨1, 1, [], [], ⟨none, 0, 0⟩, (tr.hd r2).line⟩, _, rfl, ⟨rfl, rfl, rfl, rfl, rfl, [], RB.none_ _ _ _ _, rfl⟩, rfl⟩, ⟨[], RB.none_ _ _ _ _, rfl⟩, RB.none_ _ _ _ _, [s162], (RB.kept (more_nw (by have z := Z224.out; omega) (by have z := Z224.out; omega)) E221.out), BlksB.snoc (StLB.kept (more_nw (by have z := Z224.out; omega) (by have z := Z224.out; omega)) E219.out) BlksB.nil⟩
end
end Go.Proofs.YtbcpkhegmbdifaaGreat.tr
