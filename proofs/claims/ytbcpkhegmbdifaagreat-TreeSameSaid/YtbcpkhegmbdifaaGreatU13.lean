/- The landed parser's expressions: ofOne and inner, over what the expressions in them give. No condition but what each line says. -/
import Derived.Test.YtbcpkhegmbdifaaGreatU12
namespace Go.Proofs.YtbcpkhegmbdifaaGreat.tr
open Go.ChangeShapes Go.WideShapes Go.ChangeAt Go.RowKit Go.Proofs.YtbcpkhegmbdifaaGreat.k Go.Proofs.YtbcpkhegmbdifaaGreat.rr Go.Proofs.YtbcpkhegmbdifaaGreat.tk
set_option linter.unusedVariables false

section
variable {r : Sg} {V : Value} {d g : Nat} {w : World}
/-- what an expression's method gives at a place, in any world -/
def ECtr (P : Program) (fn : FuncId) (p : Res Ex) (d : Nat) (r : Sg) : Prop := ∀ (V : Value) (g : Nat) (w : World), Par w g r V d → Calls P fn #[.pointer (some ⟨g, 0, none⟩)] w (Gv g V d w GotE p)

set_option maxRecDepth 100000 in
set_option maxHeartbeats 4000000 in
theorem ofOne_any (hP : Par w g r V d) (hr : RowOk r) (hd : d ≤ 32) (hk : (tr.hd r).kind ≠ 0) (o : Int) (f : Nat) (HU : d < 32 → ECtr Tryz.prog 100 (unaryF f (d + 1) (r.drop 1)) (d + 1) (r.drop 1)) :
  Calls Tryz.prog 103 #[.pointer (some ⟨g, 0, none⟩), .int .i64 o] w (Gv g V d w GotE (if 32 < d + 1 then fail 13 r else (unaryF f (d + 1) (r.drop 1)).bind fun x r' => .ok (Ex.mk o 0 [] [] [x] (tr.hd r).line) r')) := by
 obtain ⟨R, hR⟩ : ∃ R : Res Ex, (if 32 < d + 1 then fail 13 r else (unaryF f (d + 1) (r.drop 1)).bind fun x r' => .ok (Ex.mk o 0 [] [] [x] (tr.hd r).line) r') = R := ⟨_, rfl⟩
 rw [hR]
 have HR := Lib.hid hR
 clear hR
 have f3 := tok_f3 (tr.hd r)
 have HUU := Lib.hid HU
 have HK := Lib.hid hk
 clear HU hk
 have P1 := Lib.hid hP
 have G1 := Lib.hid (gr_refl w (some g))
 have R1 := Lib.hid hr
 have Z1 := Lib.hid (show g < w.heap.size from hP.lt)
 clear hP hr
 go_enter Tryz.func103, Tryz.ntmps103
 go_upto_region 1 with (fail)
 have hb := (Below.refl w.heap.size w).alloc (Nat.le_refl _) (.cells #[.int .i64 0, .int .i64 0, .string ⟨#[]⟩, .string ⟨#[]⟩, .slice none 0 0, .int .i64 0] 39)
 have hx := Box.new w #[.int .i64 0, .int .i64 0, .string ⟨#[]⟩, .string ⟨#[]⟩, .slice none 0 0, .int .i64 0] 39
 have hz : (w.alloc (.cells #[.int .i64 0, .int .i64 0, .string ⟨#[]⟩, .string ⟨#[]⟩, .slice none 0 0, .int .i64 0] 39)).heap.size = w.heap.size + 1 := by simp
 generalize w.alloc (.cells #[.int .i64 0, .int .i64 0, .string ⟨#[]⟩, .string ⟨#[]⟩, .slice none 0 0, .int .i64 0] 39) = w4 at *
 have hg := gr_of (row := some w.heap.size) hb
 have Z2 := Lib.hid (And.intro hz Z1.out)
 have X3 := Lib.hid hx
 clear hb hx hz
 have P4 := Lib.hid (P1.out.gr hg (by have z := Z1.out; omega))
 clear P1
 have G5 := hgt hg G1 (fun _ => by have z := Z1.out; omega)
 clear G1
 have Z6 := hzz hg Z2
 clear hg
 by_cases h32 : d = 32
 ·have hq := HR.out
  rw [if_pos (by omega)] at hq
  go_wp2_with (go_at_call 53; fail)
  refine (enter_no P4.out R1.out h32).mono ?_
  rintro e w5 ⟨rfl, hb⟩
  go_wp2
  exact ⟨rfl, Gv.badOf hq.symm (gr_trans G5.out (gr_of hb))⟩
 have hq := HR.out
 rw [if_neg (by omega)] at hq
 have HR7 := Lib.hid hq
 clear hq HR
 go_wp2_with (go_at_call 53; fail)
 refine (enter_yes P4.out (by omega)).mono ?_
 rintro e w5 ⟨rfl, hp, hg⟩
 have P8 := Lib.hid hp
 have X9 := hbx hg (by have z := Z6.out; omega) X3
 clear X3
 clear P4
 have G10 := Lib.hid (gr_trans G5.out hg)
 clear G5
 have Z11 := hzz hg Z6
 clear hg hp
 go_wp2_with (go_at_call 31; fail)
 refine (pass_any P8.out R1.out).mono ?_
 rintro e w6 ⟨rfl, hp, hg⟩
 have P12 := Lib.hid hp
 have X13 := hbx hg (by have z := Z11.out; omega) X9
 clear X9
 clear P8
 have G14 := Lib.hid (gr_trans G10.out hg)
 clear G10
 have Z15 := hzz hg Z11
 clear hg hp
 have R16 := Lib.hid (R1.out.drop HK.out)
 go_wp2_with (go_at_call 100; fail)
 refine (HUU.out (by omega) _ _ _ P12.out).mono ?_
 rintro e w7 hgv
 rcases hp : unaryF f (d + 1) (r.drop 1) with ⟨x1, r1⟩ | ⟨n9, t9⟩
 rotate_left
 ·rw [hp] at hgv
  obtain ⟨rfl, hg⟩ := hgv
  have hq := HR7.out
  rw [hp] at hq
  go_wp2
  exact ⟨rfl, Gv.badOf hq.symm (gr_trans G14.out hg)⟩
 rw [hp] at hgv
 obtain ⟨⟨v9, rfl, hG⟩, hP9, hr9, hg⟩ := hgv
 have hq := HR7.out
 rw [hp] at hq
 try rw [bind_okE] at hq
 have HR17 := Lib.hid hq
 clear hq HR7
 have P18 := Lib.hid hP9
 have R19 := Lib.hid hr9
 have X20 := hbx hg (by have z := Z15.out; omega) X13
 clear X13
 clear P12
 have G21 := Lib.hid (gr_trans G14.out hg)
 clear G14
 have Z22 := hzz hg Z15
 clear hg hP9 hr9 R16
 obtain ⟨h23, rfl, hE9⟩ := hG
 have E24 := Lib.hid hE9
 clear hE9
 go_upto_region 4 with ((with_reducible refine m_slice1 (enc := eC) (z := 6) h23 37 39 14 (.agg (eC h23).toArray) (eC h23).toArray ?_ ?_ ?_ (bs_E h23) ?_ ?_); rfl; rfl; rfl; rfl; intro w8 hrb hb1 hz1; have HRB := Lib.hid hrb; have HB1 := Lib.hid hb1; have HZ1 := Lib.hid hz1; clear hrb hb1 hz1)
 have hg := gr_of (row := some w7.heap.size) HB1.out
 have Z26 := Lib.hid (And.intro HZ1.out Z22.out)
 have E27 := HRB
 clear HZ1 HRB
 have X28 := hbx hg (by have z := Z22.out; omega) X20
 clear X20
 have E29 := hkExB hg (by have z := Z22.out; omega) E24
 clear E24
 have P30 := Lib.hid (P18.out.gr hg (by have z := Z22.out; omega))
 clear P18
 have G31 := hgt hg G21 (fun _ => by have z := Z22.out; omega)
 clear G21
 have Z32 := hzz hg Z26
 clear hg HB1
 have hb := (Below.refl w8.heap.size w8).alloc (Nat.le_refl _) (.cells #[.int .i64 o, .int .i64 0, .string ⟨#[]⟩, .string ⟨#[]⟩, .slice (some ⟨w7.heap.size, 0, none⟩) 1 1, .int .i64 (tr.hd r).line] 39)
 have hx : Box (w8.alloc (.cells #[.int .i64 o, .int .i64 0, .string ⟨#[]⟩, .string ⟨#[]⟩, .slice (some ⟨w7.heap.size, 0, none⟩) 1 1, .int .i64 (tr.hd r).line] 39)) w8.heap.size 0 (eC ⟨o, 0, [], [], ⟨some ⟨w7.heap.size, 0, none⟩, 1, 1⟩, (tr.hd r).line⟩) := Box.new w8 #[.int .i64 o, .int .i64 0, .string ⟨#[]⟩, .string ⟨#[]⟩, .slice (some ⟨w7.heap.size, 0, none⟩) 1 1, .int .i64 (tr.hd r).line] 39
 have hz : (w8.alloc (.cells #[.int .i64 o, .int .i64 0, .string ⟨#[]⟩, .string ⟨#[]⟩, .slice (some ⟨w7.heap.size, 0, none⟩) 1 1, .int .i64 (tr.hd r).line] 39)).heap.size = w8.heap.size + 1 := by simp
 generalize w8.alloc (.cells #[.int .i64 o, .int .i64 0, .string ⟨#[]⟩, .string ⟨#[]⟩, .slice (some ⟨w7.heap.size, 0, none⟩) 1 1, .int .i64 (tr.hd r).line] 39) = w9 at *
 have hg := gr_of (row := some w8.heap.size) hb
 have Z34 := Lib.hid (And.intro hz Z32.out)
 have X35 := Lib.hid hx
 clear hb hx hz
 have X36 := hbx hg (by have z := Z32.out; omega) X28
 clear X28
 have E37 := hkExB hg (by have z := Z32.out; omega) E29
 clear E29
 have E38 := hkRB hg (by have z := Z32.out; omega) E27
 clear E27
 have P39 := Lib.hid (P30.out.gr hg (by have z := Z32.out; omega))
 clear P30
 have G40 := hgt hg G31 (fun _ => by have z := Z32.out; omega)
 clear G31
 have Z41 := hzz hg Z34
 clear hg
 go_wp2_with (go_at_call 55; fail)
 refine (leave_any P39.out (by omega)).mono ?_
 rintro e w10 ⟨rfl, hp, hg⟩
 have P42 := Lib.hid hp
 have X43 := hbx hg (by have z := Z41.out; omega) X36
 clear X36
 have X44 := hbx hg (by have z := Z41.out; omega) X35
 clear X35
 have E45 := hkExB hg (by have z := Z41.out; omega) E37
 clear E37
 have E46 := hkRB hg (by have z := Z41.out; omega) E38
 clear E38
 clear P39
 have G47 := Lib.hid (gr_trans G40.out hg)
 clear G40
 have Z48 := hzz hg Z41
 clear hg hp
 go_wp2_with (first | ((with_reducible refine m_load X44.out 39 6 ?_ ?_ ?_ ?_ ?_ ?_); rfl; rfl; rfl; rfl; kernel_rfl) | ((with_reducible refine m_store X43.out 39 4 20 ?_ ?_ ?_ (eC ⟨o, 0, [], [], ⟨some ⟨w7.heap.size, 0, none⟩, 1, 1⟩, (tr.hd r).line⟩) ?_ ?_ ?_ ?_ (eC_one _) ?_); rfl; rfl; rfl; rfl; rfl; rfl; kernel_rfl; intro w11 hx hg hs))
 have X49 := Lib.hid hx
 have Z50 := Lib.hid (And.intro hs Z48.out)
 clear hx hs X43
 have X51 := hbx hg (by have z := Z48.out; omega) X44
 clear X44
 have E52 := hkExB hg (by have z := Z48.out; omega) E45
 clear E45
 have E53 := hkRB hg (by have z := Z48.out; omega) E46
 clear E46
 have P54 := Lib.hid (P42.out.gr hg (by have z := Z48.out; omega))
 clear P42
 have G55 := hgt hg G47 (fun _ => by have z := Z48.out; omega)
 clear G47
 have Z56 := hzz hg Z50
 clear hg
 refine bodyPost_ret (k.results_cell rfl rfl (run_loadVar_mid _ w.heap.size 0 39 _ _ X49.out.range rfl rfl (by kernel_rfl))) rfl ?_
 exact Gv.okOf HR17.out.symm ⟨⟨o, 0, [], [], ⟨some ⟨w7.heap.size, 0, none⟩, 1, 1⟩, (tr.hd r).line⟩, rfl, rfl, rfl, rfl, rfl, rfl, [h23], (RB.kept (more_nw (by have z := Z56.out; omega) (by have z := Z56.out; omega)) E53.out), h23, [], rfl, (ExB.kept (more_nw (by have z := Z56.out; omega) (by have z := Z56.out; omega)) E52.out), rfl⟩ P54.out R19.out G55.out
set_option maxRecDepth 100000 in
set_option maxHeartbeats 4000000 in
theorem inner_any (hP : Par w g r V d) (hr : RowOk r) (hd : d ≤ 32) {s1 s2 : Str} (h1 : headS (tr.hd r) = s1) (hk : (tr.hd r).kind ≠ 0) (h2 : s2 ≠ nameS ∧ s2 ≠ numS ∧ s2 ≠ endS ∧ s2 ≠ []) (f : Nat) (HE : d < 32 → ECtr Tryz.prog 84 (exprF f (d + 1) 1 (r.drop 1)) (d + 1) (r.drop 1)) :
  Calls Tryz.prog 95 #[.pointer (some ⟨g, 0, none⟩), sv s1, sv s2] w (Gv g V d w GotE (if 32 < d + 1 then fail 13 r else (exprF f (d + 1) 1 (r.drop 1)).bind fun x r' => (need s2 r').bind fun _ r' => .ok x r')) := by
 obtain ⟨R, hR⟩ : ∃ R : Res Ex, (if 32 < d + 1 then fail 13 r else (exprF f (d + 1) 1 (r.drop 1)).bind fun x r' => (need s2 r').bind fun _ r' => .ok x r') = R := ⟨_, rfl⟩
 rw [hR]
 have HR := Lib.hid hR
 clear hR
 have HEE := Lib.hid HE
 have HK := Lib.hid hk
 have H1 := Lib.hid h1
 have H2 := Lib.hid h2
 clear HE hk h1 h2
 have NY := Lib.hid (show ∀ W, Par W g r V (d + 1) → Calls Tryz.prog 18 #[.pointer (some ⟨g, 0, none⟩), sv s1] W fun e w' => e = .returned (.agg (tC (tr.hd r)).toArray) ∧ Par w' g (r.drop 1) V (d + 1) ∧ W.grownBy w' (some g) from fun W h => need_yes h hr H1.out)
 have NW := Lib.hid (show ∀ r1, RowOk r1 → ∀ W, Par W g r1 V (d + 1) → headS (tr.hd r1) = s2 → Calls Tryz.prog 18 #[.pointer (some ⟨g, 0, none⟩), sv s2] W fun e w' => e = .returned (.agg (tC (tr.hd r1)).toArray) ∧ Par w' g (r1.drop 1) V (d + 1) ∧ W.grownBy w' (some g) from fun r1 hr1 W h h2 => need_yes h hr1 h2)
 have NN := Lib.hid (show ∀ r1, RowOk r1 → ∀ W, Par W g r1 V (d + 1) → headS (tr.hd r1) ≠ s2 → Calls Tryz.prog 18 #[.pointer (some ⟨g, 0, none⟩), sv s2] W fun e w' => e = .panicked [{ v := mis 5 (tr.hd r1), recovered := false }] ∧ Below W.heap.size W w' from fun r1 hr1 W h h2 => need_no h hr1 h2)
 unfold sv at *
 generalize (⟨s1.toArray⟩ : ByteArray) = S1 at *
 generalize (⟨s2.toArray⟩ : ByteArray) = S2 at *
 have P1 := Lib.hid hP
 have G1 := Lib.hid (gr_refl w (some g))
 have R1 := Lib.hid hr
 have Z1 := Lib.hid (show g < w.heap.size from hP.lt)
 clear hP hr
 go_enter Tryz.func95, Tryz.ntmps95
 go_upto_region 1 with (fail)
 have hb := (Below.refl w.heap.size w).alloc (Nat.le_refl _) (.cells #[.int .i64 0, .int .i64 0, .string ⟨#[]⟩, .string ⟨#[]⟩, .slice none 0 0, .int .i64 0] 39)
 have hx := Box.new w #[.int .i64 0, .int .i64 0, .string ⟨#[]⟩, .string ⟨#[]⟩, .slice none 0 0, .int .i64 0] 39
 have hz : (w.alloc (.cells #[.int .i64 0, .int .i64 0, .string ⟨#[]⟩, .string ⟨#[]⟩, .slice none 0 0, .int .i64 0] 39)).heap.size = w.heap.size + 1 := by simp
 generalize w.alloc (.cells #[.int .i64 0, .int .i64 0, .string ⟨#[]⟩, .string ⟨#[]⟩, .slice none 0 0, .int .i64 0] 39) = w4 at *
 have hg := gr_of (row := some w.heap.size) hb
 have Z2 := Lib.hid (And.intro hz Z1.out)
 have X3 := Lib.hid hx
 clear hb hx hz
 have P4 := Lib.hid (P1.out.gr hg (by have z := Z1.out; omega))
 clear P1
 have G5 := hgt hg G1 (fun _ => by have z := Z1.out; omega)
 clear G1
 have Z6 := hzz hg Z2
 clear hg
 by_cases h32 : d = 32
 ·have hq := HR.out
  rw [if_pos (by omega)] at hq
  go_wp2_with (go_at_call 53; fail)
  refine (enter_no P4.out R1.out h32).mono ?_
  rintro e w5 ⟨rfl, hb⟩
  go_wp2
  exact ⟨rfl, Gv.badOf hq.symm (gr_trans G5.out (gr_of hb))⟩
 have hq := HR.out
 rw [if_neg (by omega)] at hq
 have HR7 := Lib.hid hq
 clear hq HR
 go_wp2_with (go_at_call 53; fail)
 refine (enter_yes P4.out (by omega)).mono ?_
 rintro e w5 ⟨rfl, hp, hg⟩
 have P8 := Lib.hid hp
 have X9 := hbx hg (by have z := Z6.out; omega) X3
 clear X3
 clear P4
 have G10 := Lib.hid (gr_trans G5.out hg)
 clear G5
 have Z11 := hzz hg Z6
 clear hg hp
 go_wp2_with (go_at_call 18; fail)
 refine (NY.out _ P8.out).mono ?_
 rintro e w6 ⟨rfl, hp, hg⟩
 have P12 := Lib.hid hp
 have X13 := hbx hg (by have z := Z11.out; omega) X9
 clear X9
 clear P8
 have G14 := Lib.hid (gr_trans G10.out hg)
 clear G10
 have Z15 := hzz hg Z11
 clear hg hp
 have R16 := Lib.hid (R1.out.drop HK.out)
 go_wp2_with (go_at_call 84; fail)
 refine (HEE.out (by omega) _ _ _ P12.out).mono ?_
 rintro e w7 hgv
 rcases hp : exprF f (d + 1) 1 (r.drop 1) with ⟨x1, r1⟩ | ⟨n9, t9⟩
 rotate_left
 ·rw [hp] at hgv
  obtain ⟨rfl, hg⟩ := hgv
  have hq := HR7.out
  rw [hp] at hq
  go_wp2
  exact ⟨rfl, Gv.badOf hq.symm (gr_trans G14.out hg)⟩
 rw [hp] at hgv
 obtain ⟨⟨v9, rfl, hG⟩, hP9, hr9, hg⟩ := hgv
 have hq := HR7.out
 rw [hp] at hq
 try rw [bind_okE] at hq
 have HR17 := Lib.hid hq
 clear hq HR7
 have P18 := Lib.hid hP9
 have R19 := Lib.hid hr9
 have X20 := hbx hg (by have z := Z15.out; omega) X13
 clear X13
 clear P12
 have G21 := Lib.hid (gr_trans G14.out hg)
 clear G14
 have Z22 := hzz hg Z15
 clear hg hP9 hr9 R16
 obtain ⟨h23, rfl, hE9⟩ := hG
 have E24 := Lib.hid hE9
 clear hE9
 go_upto_region 4 with ((with_reducible refine m_new 39 7 14 ?_ ?_ ?_ (eC h23) ?_ ?_ ?_ ?_ (eC_one _) ?_); rfl; rfl; rfl; rfl; rfl; rfl; kernel_rfl; intro w8 hx hb hz)
 have hg := gr_of (row := some w7.heap.size) hb
 have Z26 := Lib.hid (And.intro hz Z22.out)
 have X27 := Lib.hid hx
 clear hb hx hz
 have X28 := hbx hg (by have z := Z22.out; omega) X20
 clear X20
 have E29 := hkExB hg (by have z := Z22.out; omega) E24
 clear E24
 have P30 := Lib.hid (P18.out.gr hg (by have z := Z22.out; omega))
 clear P18
 have G31 := hgt hg G21 (fun _ => by have z := Z22.out; omega)
 clear G21
 have Z32 := hzz hg Z26
 clear hg
 by_cases hs33 : txt r1 = s2
 rotate_left
 ·have hq := HR17.out
  rw [need_badE hs33] at hq
  go_wp2_with (go_at_call 18; fail)
  refine (NN.out _ R19.out _ P30.out (mt (headS_txt R19.out H2.out.1 H2.out.2.1 H2.out.2.2.1 H2.out.2.2.2).1 hs33)).mono ?_
  rintro e w9 ⟨rfl, hb⟩
  go_wp2
  exact ⟨rfl, Gv.badOf hq.symm (gr_trans G31.out (gr_of hb))⟩
 have hq := HR17.out
 rw [need_okE hs33, bind_okE] at hq
 have HR34 := Lib.hid hq
 clear hq HR17
 go_wp2_with (go_at_call 18; fail)
 refine (NW.out _ R19.out _ P30.out ((headS_txt R19.out H2.out.1 H2.out.2.1 H2.out.2.2.1 H2.out.2.2.2).2 hs33)).mono ?_
 rintro e w9 ⟨rfl, hp, hg⟩
 have P35 := Lib.hid hp
 have X36 := hbx hg (by have z := Z32.out; omega) X28
 clear X28
 have X37 := hbx hg (by have z := Z32.out; omega) X27
 clear X27
 have E38 := hkExB hg (by have z := Z32.out; omega) E29
 clear E29
 clear P30
 have G39 := Lib.hid (gr_trans G31.out hg)
 clear G31
 have Z40 := hzz hg Z32
 clear hg hp
 have R41 := Lib.hid (R19.out.drop (txt_kind hs33 H2.out.2.2.2))
 go_wp2_with (go_at_call 55; fail)
 refine (leave_any P35.out (by omega)).mono ?_
 rintro e w10 ⟨rfl, hp, hg⟩
 have P42 := Lib.hid hp
 have X43 := hbx hg (by have z := Z40.out; omega) X36
 clear X36
 have X44 := hbx hg (by have z := Z40.out; omega) X37
 clear X37
 have E45 := hkExB hg (by have z := Z40.out; omega) E38
 clear E38
 clear P35
 have G46 := Lib.hid (gr_trans G39.out hg)
 clear G39
 have Z47 := hzz hg Z40
 clear hg hp
 go_wp2_with (first | ((with_reducible refine m_load X44.out 39 7 ?_ ?_ ?_ ?_ ?_ ?_); rfl; rfl; rfl; rfl; kernel_rfl) | ((with_reducible refine m_store X43.out 39 6 20 ?_ ?_ ?_ (eC h23) ?_ ?_ ?_ ?_ (eC_one _) ?_); rfl; rfl; rfl; rfl; rfl; rfl; kernel_rfl; intro w11 hx hg hs))
 have X48 := Lib.hid hx
 have Z49 := Lib.hid (And.intro hs Z47.out)
 clear hx hs X43
 have X50 := hbx hg (by have z := Z47.out; omega) X44
 clear X44
 have E51 := hkExB hg (by have z := Z47.out; omega) E45
 clear E45
 have P52 := Lib.hid (P42.out.gr hg (by have z := Z47.out; omega))
 clear P42
 have G53 := hgt hg G46 (fun _ => by have z := Z47.out; omega)
 clear G46
 have Z54 := hzz hg Z49
 clear hg
 refine bodyPost_ret (k.results_cell rfl rfl (run_loadVar_mid _ w.heap.size 0 39 _ _ X48.out.range rfl rfl (by kernel_rfl))) rfl ?_
 exact Gv.okOf HR34.out.symm ⟨h23, rfl, (ExB.kept (more_nw (by have z := Z54.out; omega) (by have z := Z54.out; omega)) E51.out)⟩ P52.out R41.out G53.out
end
end Go.Proofs.YtbcpkhegmbdifaaGreat.tr
/- The landed parser's expressions: place and read, over what an index gives. No condition but what each line says. -/
namespace Go.Proofs.YtbcpkhegmbdifaaGreat.tr
open Go.ChangeShapes Go.WideShapes Go.ChangeAt Go.RowKit Go.Proofs.YtbcpkhegmbdifaaGreat.k Go.Proofs.YtbcpkhegmbdifaaGreat.rr Go.Proofs.YtbcpkhegmbdifaaGreat.tk
set_option linter.unusedVariables false

/-- a place that may be assigned to -/
def placeF (f d : Nat) (r : Sg) : Res Ex := (want 1 r).bind fun t r' => if txt r' = [91] then (indexF f d r').bind fun x r' => .ok (Ex.mk 4 0 t.text [] [x] t.line) r' else .ok (Ex.mk 3 0 t.text [] [] t.line) r'
/-- a place, or a field -/
def readF (f d : Nat) (r : Sg) : Res Ex := (want 1 r).bind fun t r' => if txt r' = [91] then (indexF f d r').bind fun x r' => .ok (Ex.mk 4 0 t.text [] [x] t.line) r'
 else if txt r' = [46] then (want 1 (r'.drop 1)).bind fun u r' => .ok (Ex.mk 5 0 t.text u.text [] t.line) r' else .ok (Ex.mk 3 0 t.text [] [] t.line) r'
theorem place_cases (f d : Nat) (r : Sg) : (∃ n t, placeF f d r = .bad n t ∧ readF f d r = .bad n t) ∨ (∃ nm x ln r2, placeF f d r = .ok (.mk 4 0 nm [] [x] ln) r2 ∧ readF f d r = .ok (.mk 4 0 nm [] [x] ln) r2) ∨
  ∃ nm ln r2, placeF f d r = .ok (.mk 3 0 nm [] [] ln) r2 ∧ readF f d r = if txt r2 = [46] then (want 1 (r2.drop 1)).bind fun u r' => .ok (Ex.mk 5 0 nm u.text [] ln) r' else .ok (Ex.mk 3 0 nm [] [] ln) r2 := by
 unfold placeF readF
 cases want 1 r with
 | bad n t => exact .inl ⟨n, t, rfl, rfl⟩
 | ok t r' =>
  simp only [bind_okE]
  by_cases h : txt r' = [91]
  ·rw [if_pos h, if_pos h]
   cases indexF f d r' with
   | bad n t => exact .inl ⟨n, t, rfl, rfl⟩
   | ok x r2 => exact .inr (.inl ⟨_, x, _, r2, rfl, rfl⟩)
  ·rw [if_neg h, if_neg h]
   exact .inr (.inr ⟨_, _, _, rfl, rfl⟩)
section
variable {r : Sg} {V : Value} {d g : Nat} {w : World}
/-- what the expression between two signs gives, in any world -/
def ICtr (P : Program) (fn : FuncId) (s1 s2 : Str) (p : Res Ex) (d : Nat) (r : Sg) : Prop := ∀ (V : Value) (g : Nat) (w : World), Par w g r V d → Calls P fn #[.pointer (some ⟨g, 0, none⟩), sv s1, sv s2] w (Gv g V d w GotE p)

set_option maxRecDepth 100000 in
set_option maxHeartbeats 4000000 in
theorem place_any (hP : Par w g r V d) (hr : RowOk r) (f : Nat) (HI : txt (r.drop 1) = [91] → RowOk (r.drop 1) → ICtr Tryz.prog 95 [91] [93] (indexF f d (r.drop 1)) d (r.drop 1)) :
  Calls Tryz.prog 82 #[.pointer (some ⟨g, 0, none⟩)] w (Gv g V d w GotE (placeF f d r)) := by
 obtain ⟨R, hR⟩ : ∃ R : Res Ex, (placeF f d r) = R := ⟨_, rfl⟩
 rw [hR]
 have HR := Lib.hid hR
 clear hR
 have HII := Lib.hid HI
 clear HI
 have P1 := Lib.hid hP
 have G1 := Lib.hid (gr_refl w (some g))
 have R1 := Lib.hid hr
 have Z1 := Lib.hid (show g < w.heap.size from hP.lt)
 clear hP hr
 have hq := HR.out
 unfold placeF at hq
 have HR2 := Lib.hid hq
 clear hq HR
 go_enter Tryz.func82, Tryz.ntmps82
 go_upto_region 1 with (fail)
 have hb := (Below.refl w.heap.size w).alloc (Nat.le_refl _) (.cells #[.int .i64 0, .int .i64 0, .string ⟨#[]⟩, .string ⟨#[]⟩, .slice none 0 0, .int .i64 0] 39)
 have hx := Box.new w #[.int .i64 0, .int .i64 0, .string ⟨#[]⟩, .string ⟨#[]⟩, .slice none 0 0, .int .i64 0] 39
 have hz : (w.alloc (.cells #[.int .i64 0, .int .i64 0, .string ⟨#[]⟩, .string ⟨#[]⟩, .slice none 0 0, .int .i64 0] 39)).heap.size = w.heap.size + 1 := by simp
 generalize w.alloc (.cells #[.int .i64 0, .int .i64 0, .string ⟨#[]⟩, .string ⟨#[]⟩, .slice none 0 0, .int .i64 0] 39) = w4 at *
 have hg := gr_of (row := some w.heap.size) hb
 have Z3 := Lib.hid (And.intro hz Z1.out)
 have X4 := Lib.hid hx
 clear hb hx hz
 have P5 := Lib.hid (P1.out.gr hg (by have z := Z1.out; omega))
 clear P1
 have G6 := hgt hg G1 (fun _ => by have z := Z1.out; omega)
 clear G1
 have Z7 := hzz hg Z3
 clear hg
 by_cases hs8 : (tr.hd (r)).kind = 1
 rotate_left
 ·have hq := HR2.out
  rw [want_badE hs8] at hq
  go_wp2_with (go_at_call 18; fail)
  refine (need_no P5.out R1.out (mt (headS_kind R1.out).1.1 hs8)).mono ?_
  rintro e w5 ⟨rfl, hb⟩
  go_wp2
  exact ⟨rfl, Gv.badOf hq.symm (gr_trans G6.out (gr_of hb))⟩
 have hq := HR2.out
 rw [want_okE hs8, bind_okE] at hq
 have HR9 := Lib.hid hq
 clear hq HR2
 have R10 := Lib.hid (R1.out.drop (by rw [hs8]; decide))
 go_wp2_with (go_at_call 18; fail)
 refine (need_yes P5.out R1.out ((headS_kind R1.out).1.2 hs8)).mono ?_
 rintro e w5 ⟨rfl, hp, hg⟩
 have P11 := Lib.hid hp
 have X12 := hbx hg (by have z := Z7.out; omega) X4
 clear X4
 clear P5
 have G13 := Lib.hid (gr_trans G6.out hg)
 clear G6
 have Z14 := hzz hg Z7
 clear hg hp
 clear R1
 generalize ((r).drop 1) = r15 at *
 go_upto_region 2 with ((with_reducible refine m_new 29 3 6 ?_ ?_ ?_ (tC (tr.hd (r))) ?_ ?_ ?_ ?_ (tC_one _) ?_); rfl; rfl; rfl; rfl; rfl; rfl; kernel_rfl; intro w6 hx hb hz)
 have hg := gr_of (row := some w5.heap.size) hb
 have Z16 := Lib.hid (And.intro hz Z14.out)
 have X17 := Lib.hid hx
 clear hb hx hz
 have X18 := hbx hg (by have z := Z14.out; omega) X12
 clear X12
 have P19 := Lib.hid (P11.out.gr hg (by have z := Z14.out; omega))
 clear P11
 have G20 := hgt hg G13 (fun _ => by have z := Z14.out; omega)
 clear G13
 have Z21 := hzz hg Z16
 clear hg
 have ⟨a0, k0, a1, k1, a2, k2, a3, k3, a4, k4, _⟩ := X17.out
 go_upto_region 3 with (fail)
 clear a0 k0 a1 k1 a2 k2 a3 k3 a4 k4
 have hb := (Below.refl w6.heap.size w6).alloc (Nat.le_refl _) (.cells #[.int .i64 3, .int .i64 0, .string ⟨(tr.hd (r)).text.toArray⟩, .string ⟨#[]⟩, .slice none 0 0, .int .i64 (tr.hd (r)).line] 39)
 have hx : Box (w6.alloc (.cells #[.int .i64 3, .int .i64 0, .string ⟨(tr.hd (r)).text.toArray⟩, .string ⟨#[]⟩, .slice none 0 0, .int .i64 (tr.hd (r)).line] 39)) w6.heap.size 0 (eC ⟨3, 0, (tr.hd (r)).text, [], ⟨none, 0, 0⟩, (tr.hd (r)).line⟩) := Box.new w6 #[.int .i64 3, .int .i64 0, .string ⟨(tr.hd (r)).text.toArray⟩, .string ⟨#[]⟩, .slice none 0 0, .int .i64 (tr.hd (r)).line] 39
 have hz : (w6.alloc (.cells #[.int .i64 3, .int .i64 0, .string ⟨(tr.hd (r)).text.toArray⟩, .string ⟨#[]⟩, .slice none 0 0, .int .i64 (tr.hd (r)).line] 39)).heap.size = w6.heap.size + 1 := by simp
 generalize w6.alloc (.cells #[.int .i64 3, .int .i64 0, .string ⟨(tr.hd (r)).text.toArray⟩, .string ⟨#[]⟩, .slice none 0 0, .int .i64 (tr.hd (r)).line] 39) = w7 at *
 have hg := gr_of (row := some w6.heap.size) hb
 have Z22 := Lib.hid (And.intro hz Z21.out)
 have X23 := Lib.hid hx
 clear hb hx hz
 have X24 := hbx hg (by have z := Z21.out; omega) X18
 clear X18
 have X25 := hbx hg (by have z := Z21.out; omega) X17
 clear X17
 have P26 := Lib.hid (P19.out.gr hg (by have z := Z21.out; omega))
 clear P19
 have G27 := hgt hg G20 (fun _ => by have z := Z21.out; omega)
 clear G20
 have Z28 := hzz hg Z22
 clear hg
 by_cases hw : txt r15 = [91]
 ·skip
  have hq := HR9.out
  rw [if_pos hw] at hq
  have HR29 := Lib.hid hq
  clear hq HR9
  have HA := Lib.hid (head_any P26.out R10.out)
  unfold sv at HA
  have q0 : ((⟨(headS (tr.hd (r15))).toArray⟩ : ByteArray).toList == [91]) = true := by rw [ByteArray.toList_eq]; exact beq_iff_eq.2 ((headS_txt R10.out (by decide) (by decide) (by decide) (by decide)).2 hw)
  generalize (⟨(headS (tr.hd (r15))).toArray⟩ : ByteArray) = XH at *
  go_wp2_with (go_at_call 28; fail)
  refine (HA.out).mono ?_
  rintro e w8 ⟨rfl, hb⟩
  have hg := gr_of (row := some w7.heap.size) hb
  have X30 := hbx hg (by have z := Z28.out; omega) X24
  clear X24
  have X31 := hbx hg (by have z := Z28.out; omega) X25
  clear X25
  have X32 := hbx hg (by have z := Z28.out; omega) X23
  clear X23
  have P33 := Lib.hid (P26.out.gr hg (by have z := Z28.out; omega))
  clear P26
  have G34 := hgt hg G27 (fun _ => by have z := Z28.out; omega)
  clear G27
  have Z35 := hzz hg Z28
  clear hg hb
  clear HA
  have ⟨a0, k0, _⟩ := X32.out
  go_upto_region 5 with (fail)
  clear a0 k0
  have hg := gr_set w8 (w6.heap.size) 0 (.int .i64 4)
  have hx : Box (w8.setCell ⟨w6.heap.size, 0, none⟩ (.int .i64 4)) (w6.heap.size) 0 (eC ⟨4, 0, (tr.hd (r)).text, [], ⟨none, 0, 0⟩, (tr.hd (r)).line⟩) := Box.put X32.out 0 (show 0 < 6 by decide) (.int .i64 4)
  have hs : (w8.setCell ⟨w6.heap.size, 0, none⟩ (.int .i64 4)).heap.size = w8.heap.size := set_size _ _ _
  generalize w8.setCell ⟨w6.heap.size, 0, none⟩ (.int .i64 4) = w9 at *
  have X36 := Lib.hid hx
  have Z37 := Lib.hid (And.intro hs Z35.out)
  clear hx hs X32
  have X38 := hbx hg (by have z := Z35.out; omega) X30
  clear X30
  have X39 := hbx hg (by have z := Z35.out; omega) X31
  clear X31
  have P40 := Lib.hid (P33.out.gr hg (by have z := Z35.out; omega))
  clear P33
  have G41 := hgt hg G34 (fun _ => by have z := Z35.out; omega)
  clear G34
  have Z42 := hzz hg Z37
  clear hg
  go_wp2_with (go_at_call 95; fail)
  refine (HII.out hw R10.out _ _ _ P40.out).mono ?_
  rintro e w10 hgv
  rcases hp : indexF f d r15 with ⟨x1, r1⟩ | ⟨n9, t9⟩
  rotate_left
  ·rw [hp] at hgv
   obtain ⟨rfl, hg⟩ := hgv
   have hq := HR29.out
   rw [hp] at hq
   go_wp2
   exact ⟨rfl, Gv.badOf hq.symm (gr_trans G41.out hg)⟩
  rw [hp] at hgv
  obtain ⟨⟨v9, rfl, hG⟩, hP9, hr9, hg⟩ := hgv
  have hq := HR29.out
  rw [hp] at hq
  try rw [bind_okE] at hq
  have HR43 := Lib.hid hq
  clear hq HR29
  have P44 := Lib.hid hP9
  have R45 := Lib.hid hr9
  have X46 := hbx hg (by have z := Z42.out; omega) X38
  clear X38
  have X47 := hbx hg (by have z := Z42.out; omega) X39
  clear X39
  have X48 := hbx hg (by have z := Z42.out; omega) X36
  clear X36
  clear P40
  have G49 := Lib.hid (gr_trans G41.out hg)
  clear G41
  have Z50 := hzz hg Z42
  clear hg hP9 hr9 R10
  obtain ⟨h51, rfl, hE9⟩ := hG
  have E52 := Lib.hid hE9
  clear hE9
  go_upto_region 6 with ((with_reducible refine m_slice1 (enc := eC) (z := 6) h51 37 39 17 (.agg (eC h51).toArray) (eC h51).toArray ?_ ?_ ?_ (bs_E h51) ?_ ?_); rfl; rfl; rfl; rfl; intro w11 hrb hb1 hz1; have hx9 := X48.out.below hb1 (by have z := Z50.out; omega); have ⟨a0, k0, a1, k1, a2, k2, a3, k3, a4, k4, _⟩ := hx9; have HRB := Lib.hid hrb; have HB1 := Lib.hid hb1; have HZ1 := Lib.hid hz1; clear hrb hb1 hz1)
  have hg := gr_of (row := some w10.heap.size) HB1.out
  have Z54 := Lib.hid (And.intro HZ1.out Z50.out)
  have E55 := HRB
  clear HZ1 HRB
  have X56 := hbx hg (by have z := Z50.out; omega) X46
  clear X46
  have X57 := hbx hg (by have z := Z50.out; omega) X47
  clear X47
  have X58 := hbx hg (by have z := Z50.out; omega) X48
  clear X48
  have E59 := hkExB hg (by have z := Z50.out; omega) E52
  clear E52
  have P60 := Lib.hid (P44.out.gr hg (by have z := Z50.out; omega))
  clear P44
  have G61 := hgt hg G49 (fun _ => by have z := Z50.out; omega)
  clear G49
  have Z62 := hzz hg Z54
  clear hg HB1
  clear a0 k0 a1 k1 a2 k2 a3 k3 a4 k4
  have hg := gr_set w11 (w6.heap.size) 4 (.slice (some ⟨w10.heap.size, 0, none⟩) 1 1)
  have hx : Box (w11.setCell ⟨w6.heap.size, 4, none⟩ (.slice (some ⟨w10.heap.size, 0, none⟩) 1 1)) (w6.heap.size) 0 (eC ⟨4, 0, (tr.hd (r)).text, [], ⟨some ⟨w10.heap.size, 0, none⟩, 1, 1⟩, (tr.hd (r)).line⟩) := Box.put X58.out 4 (show 4 < 6 by decide) (.slice (some ⟨w10.heap.size, 0, none⟩) 1 1)
  have hs : (w11.setCell ⟨w6.heap.size, 4, none⟩ (.slice (some ⟨w10.heap.size, 0, none⟩) 1 1)).heap.size = w11.heap.size := set_size _ _ _
  generalize w11.setCell ⟨w6.heap.size, 4, none⟩ (.slice (some ⟨w10.heap.size, 0, none⟩) 1 1) = w12 at *
  have X64 := Lib.hid hx
  have Z65 := Lib.hid (And.intro hs Z62.out)
  clear hx hs X58
  have X66 := hbx hg (by have z := Z62.out; omega) X56
  clear X56
  have X67 := hbx hg (by have z := Z62.out; omega) X57
  clear X57
  have E68 := hkExB hg (by have z := Z62.out; omega) E59
  clear E59
  have E69 := hkRB hg (by have z := Z62.out; omega) E55
  clear E55
  have P70 := Lib.hid (P60.out.gr hg (by have z := Z62.out; omega))
  clear P60
  have G71 := hgt hg G61 (fun _ => by have z := Z62.out; omega)
  clear G61
  have Z72 := hzz hg Z65
  clear hg
  go_wp2_with (first | ((with_reducible refine m_load X64.out 39 4 ?_ ?_ ?_ ?_ ?_ ?_); rfl; rfl; rfl; rfl; kernel_rfl) | ((with_reducible refine m_store X66.out 39 2 20 ?_ ?_ ?_ (eC ⟨4, 0, (tr.hd (r)).text, [], ⟨some ⟨w10.heap.size, 0, none⟩, 1, 1⟩, (tr.hd (r)).line⟩) ?_ ?_ ?_ ?_ (eC_one _) ?_); rfl; rfl; rfl; rfl; rfl; rfl; kernel_rfl; intro w13 hx hg hs))
  have X73 := Lib.hid hx
  have Z74 := Lib.hid (And.intro hs Z72.out)
  clear hx hs X66
  have X75 := hbx hg (by have z := Z72.out; omega) X67
  clear X67
  have X76 := hbx hg (by have z := Z72.out; omega) X64
  clear X64
  have E77 := hkExB hg (by have z := Z72.out; omega) E68
  clear E68
  have E78 := hkRB hg (by have z := Z72.out; omega) E69
  clear E69
  have P79 := Lib.hid (P70.out.gr hg (by have z := Z72.out; omega))
  clear P70
  have G80 := hgt hg G71 (fun _ => by have z := Z72.out; omega)
  clear G71
  have Z81 := hzz hg Z74
  clear hg
  refine bodyPost_ret (k.results_cell rfl rfl (run_loadVar_mid _ w.heap.size 0 39 _ _ X73.out.range rfl rfl (by kernel_rfl))) rfl ?_
  exact Gv.okOf HR43.out.symm ⟨⟨4, 0, (tr.hd (r)).text, [], ⟨some ⟨w10.heap.size, 0, none⟩, 1, 1⟩, (tr.hd (r)).line⟩, rfl, rfl, rfl, rfl, rfl, rfl, [h51], (RB.kept (more_nw (by have z := Z81.out; omega) (by have z := Z81.out; omega)) E78.out), h51, [], rfl, (ExB.kept (more_nw (by have z := Z81.out; omega) (by have z := Z81.out; omega)) E77.out), rfl⟩ P79.out R45.out G80.out
 ·skip
  have hq := HR9.out
  rw [if_neg hw] at hq
  have HR29 := Lib.hid hq
  clear hq HR9
  have HA := Lib.hid (head_any P26.out R10.out)
  unfold sv at HA
  have q0 : ((⟨(headS (tr.hd (r15))).toArray⟩ : ByteArray).toList == [91]) = false := by rw [ByteArray.toList_eq]; exact beq_eq_false_iff_ne.2 (mt (headS_txt R10.out (by decide) (by decide) (by decide) (by decide)).1 hw)
  generalize (⟨(headS (tr.hd (r15))).toArray⟩ : ByteArray) = XH at *
  go_wp2_with (go_at_call 28; fail)
  refine (HA.out).mono ?_
  rintro e w8 ⟨rfl, hb⟩
  have hg := gr_of (row := some w7.heap.size) hb
  have X30 := hbx hg (by have z := Z28.out; omega) X24
  clear X24
  have X31 := hbx hg (by have z := Z28.out; omega) X25
  clear X25
  have X32 := hbx hg (by have z := Z28.out; omega) X23
  clear X23
  have P33 := Lib.hid (P26.out.gr hg (by have z := Z28.out; omega))
  clear P26
  have G34 := hgt hg G27 (fun _ => by have z := Z28.out; omega)
  clear G27
  have Z35 := hzz hg Z28
  clear hg hb
  clear HA
  go_wp2_with (first | ((with_reducible refine m_load X32.out 39 4 ?_ ?_ ?_ ?_ ?_ ?_); rfl; rfl; rfl; rfl; kernel_rfl) | ((with_reducible refine m_store X30.out 39 2 20 ?_ ?_ ?_ (eC ⟨3, 0, (tr.hd (r)).text, [], ⟨none, 0, 0⟩, (tr.hd (r)).line⟩) ?_ ?_ ?_ ?_ (eC_one _) ?_); rfl; rfl; rfl; rfl; rfl; rfl; kernel_rfl; intro w9 hx hg hs))
  have X36 := Lib.hid hx
  have Z37 := Lib.hid (And.intro hs Z35.out)
  clear hx hs X30
  have X38 := hbx hg (by have z := Z35.out; omega) X31
  clear X31
  have X39 := hbx hg (by have z := Z35.out; omega) X32
  clear X32
  have P40 := Lib.hid (P33.out.gr hg (by have z := Z35.out; omega))
  clear P33
  have G41 := hgt hg G34 (fun _ => by have z := Z35.out; omega)
  clear G34
  have Z42 := hzz hg Z37
  clear hg
  refine bodyPost_ret (k.results_cell rfl rfl (run_loadVar_mid _ w.heap.size 0 39 _ _ X36.out.range rfl rfl (by kernel_rfl))) rfl ?_
  exact Gv.okOf HR29.out.symm ⟨⟨3, 0, (tr.hd (r)).text, [], ⟨none, 0, 0⟩, (tr.hd (r)).line⟩, rfl, rfl, rfl, rfl, rfl, rfl, [], RB.none_ _ _ _ _, rfl⟩ P40.out R10.out G41.out
/-- what an expression's method gives, in any world -/
abbrev PCtr (P : Program) (fn : FuncId) (p : Res Ex) (d : Nat) (r : Sg) : Prop := ECtr P fn p d r
set_option maxRecDepth 100000 in
set_option maxHeartbeats 4000000 in
theorem read_bad (hP : Par w g r V d) (hr : RowOk r) (f : Nat) (HC : ECtr Tryz.prog 82 (placeF f d r) d r) {n : Int} {t : Tk} (hp : placeF f d r = .bad n t) (hq : readF f d r = .bad n t) :
  Calls Tryz.prog 106 #[.pointer (some ⟨g, 0, none⟩)] w (Gv g V d w GotE (readF f d r)) := by
 have HCC := Lib.hid HC
 rw [hp] at HCC
 have HQ := Lib.hid hq
 clear HC hp hq
 have P1 := Lib.hid hP
 have G1 := Lib.hid (gr_refl w (some g))
 have R1 := Lib.hid hr
 have Z1 := Lib.hid (show g < w.heap.size from hP.lt)
 clear hP hr
 go_enter Tryz.func106, Tryz.ntmps106
 go_upto_region 1 with (fail)
 have hb := (Below.refl w.heap.size w).alloc (Nat.le_refl _) (.cells #[.int .i64 0, .int .i64 0, .string ⟨#[]⟩, .string ⟨#[]⟩, .slice none 0 0, .int .i64 0] 39)
 have hx := Box.new w #[.int .i64 0, .int .i64 0, .string ⟨#[]⟩, .string ⟨#[]⟩, .slice none 0 0, .int .i64 0] 39
 have hz : (w.alloc (.cells #[.int .i64 0, .int .i64 0, .string ⟨#[]⟩, .string ⟨#[]⟩, .slice none 0 0, .int .i64 0] 39)).heap.size = w.heap.size + 1 := by simp
 generalize w.alloc (.cells #[.int .i64 0, .int .i64 0, .string ⟨#[]⟩, .string ⟨#[]⟩, .slice none 0 0, .int .i64 0] 39) = w4 at *
 have hg := gr_of (row := some w.heap.size) hb
 have Z2 := Lib.hid (And.intro hz Z1.out)
 have X3 := Lib.hid hx
 clear hb hx hz
 have P4 := Lib.hid (P1.out.gr hg (by have z := Z1.out; omega))
 clear P1
 have G5 := hgt hg G1 (fun _ => by have z := Z1.out; omega)
 clear G1
 have Z6 := hzz hg Z2
 clear hg
 go_wp2_with (go_at_call 82; fail)
 refine (HCC.out _ _ _ P4.out).mono ?_
 rintro e w5 ⟨rfl, hg⟩
 go_wp2
 exact ⟨rfl, Gv.badOf HQ.out (gr_trans G5.out hg)⟩
set_option maxRecDepth 100000 in
set_option maxHeartbeats 4000000 in
theorem read_index (hP : Par w g r V d) (hr : RowOk r) (f : Nat) (HC : ECtr Tryz.prog 82 (placeF f d r) d r) {nm : Str} {x : Ex} {ln : Nat} {r2 : Sg} (hp : placeF f d r = .ok (.mk 4 0 nm [] [x] ln) r2) (hq : readF f d r = .ok (.mk 4 0 nm [] [x] ln) r2) :
  Calls Tryz.prog 106 #[.pointer (some ⟨g, 0, none⟩)] w (Gv g V d w GotE (readF f d r)) := by
 have HCC := Lib.hid HC
 rw [hp] at HCC
 have HQ := Lib.hid hq
 clear HC hp hq
 have P1 := Lib.hid hP
 have G1 := Lib.hid (gr_refl w (some g))
 have R1 := Lib.hid hr
 have Z1 := Lib.hid (show g < w.heap.size from hP.lt)
 clear hP hr
 go_enter Tryz.func106, Tryz.ntmps106
 go_upto_region 1 with (fail)
 have hb := (Below.refl w.heap.size w).alloc (Nat.le_refl _) (.cells #[.int .i64 0, .int .i64 0, .string ⟨#[]⟩, .string ⟨#[]⟩, .slice none 0 0, .int .i64 0] 39)
 have hx := Box.new w #[.int .i64 0, .int .i64 0, .string ⟨#[]⟩, .string ⟨#[]⟩, .slice none 0 0, .int .i64 0] 39
 have hz : (w.alloc (.cells #[.int .i64 0, .int .i64 0, .string ⟨#[]⟩, .string ⟨#[]⟩, .slice none 0 0, .int .i64 0] 39)).heap.size = w.heap.size + 1 := by simp
 generalize w.alloc (.cells #[.int .i64 0, .int .i64 0, .string ⟨#[]⟩, .string ⟨#[]⟩, .slice none 0 0, .int .i64 0] 39) = w4 at *
 have hg := gr_of (row := some w.heap.size) hb
 have Z2 := Lib.hid (And.intro hz Z1.out)
 have X3 := Lib.hid hx
 clear hb hx hz
 have P4 := Lib.hid (P1.out.gr hg (by have z := Z1.out; omega))
 clear P1
 have G5 := hgt hg G1 (fun _ => by have z := Z1.out; omega)
 clear G1
 have Z6 := hzz hg Z2
 clear hg
 go_wp2_with (go_at_call 82; fail)
 refine (HCC.out _ _ _ P4.out).mono ?_
 rintro e w5 ⟨⟨v9, rfl, hG⟩, hP9, hr9, hg⟩
 have P7 := Lib.hid hP9
 have R8 := Lib.hid hr9
 have X9 := hbx hg (by have z := Z6.out; omega) X3
 clear X3
 clear P4
 have G10 := Lib.hid (gr_trans G5.out hg)
 clear G5
 have Z11 := hzz hg Z6
 clear hg hP9 hr9 R1
 obtain ⟨⟨o9, n9, nm9, fd9, ⟨A9, l9, c9⟩, ln9⟩, rfl, rfl, rfl, rfl, rfl, rfl, H9, hRB9, hEx9⟩ := hG
 have E13 := Lib.hid hRB9
 clear hRB9
 obtain ⟨h9, K9, rfl, hx9, rfl⟩ := hEx9
 have E15 := Lib.hid hx9
 clear hx9
 go_upto_region 2 with ((with_reducible refine m_new 39 3 5 ?_ ?_ ?_ (eC ⟨4, 0, nm9, [], ⟨A9, l9, c9⟩, ln9⟩) ?_ ?_ ?_ ?_ (eC_one _) ?_); rfl; rfl; rfl; rfl; rfl; rfl; kernel_rfl; intro w6 hx hb hz)
 have hg := gr_of (row := some w5.heap.size) hb
 have Z17 := Lib.hid (And.intro hz Z11.out)
 have X18 := Lib.hid hx
 clear hb hx hz
 have X19 := hbx hg (by have z := Z11.out; omega) X9
 clear X9
 have E20 := hkRB hg (by have z := Z11.out; omega) E13
 clear E13
 have E21 := hkExB hg (by have z := Z11.out; omega) E15
 clear E15
 have P22 := Lib.hid (P7.out.gr hg (by have z := Z11.out; omega))
 clear P7
 have G23 := hgt hg G10 (fun _ => by have z := Z11.out; omega)
 clear G10
 have Z24 := hzz hg Z17
 clear hg
 have ⟨a0, k0, a1, k1, a2, k2, a3, k3, a4, k4, a5, k5, _⟩ := X18.out
 go_wp2_with (first | ((with_reducible refine m_load X18.out 39 3 ?_ ?_ ?_ ?_ ?_ ?_); rfl; rfl; rfl; rfl; kernel_rfl) | ((with_reducible refine m_store X19.out 39 2 18 ?_ ?_ ?_ (eC ⟨4, 0, nm9, [], ⟨A9, l9, c9⟩, ln9⟩) ?_ ?_ ?_ ?_ (eC_one _) ?_); rfl; rfl; rfl; rfl; rfl; rfl; kernel_rfl; intro w7 hx hg hs))
 clear a0 k0 a1 k1 a2 k2 a3 k3 a4 k4 a5 k5
 have X25 := Lib.hid hx
 have Z26 := Lib.hid (And.intro hs Z24.out)
 clear hx hs X19
 have X27 := hbx hg (by have z := Z24.out; omega) X18
 clear X18
 have E28 := hkRB hg (by have z := Z24.out; omega) E20
 clear E20
 have E29 := hkExB hg (by have z := Z24.out; omega) E21
 clear E21
 have P30 := Lib.hid (P22.out.gr hg (by have z := Z24.out; omega))
 clear P22
 have G31 := hgt hg G23 (fun _ => by have z := Z24.out; omega)
 clear G23
 have Z32 := hzz hg Z26
 clear hg
 refine bodyPost_ret (k.results_cell rfl rfl (run_loadVar_mid _ w.heap.size 0 39 _ _ X25.out.range rfl rfl (by kernel_rfl))) rfl ?_
 exact Gv.okOf HQ.out ⟨⟨4, 0, nm9, [], ⟨A9, l9, c9⟩, ln9⟩, rfl, rfl, rfl, rfl, rfl, rfl, [h9], (RB.kept (more_nw (by have z := Z32.out; omega) (by have z := Z32.out; omega)) E28.out), h9, [], rfl, (ExB.kept (more_nw (by have z := Z32.out; omega) (by have z := Z32.out; omega)) E29.out), rfl⟩ P30.out R8.out G31.out
set_option maxRecDepth 100000 in
set_option maxHeartbeats 4000000 in
theorem read_var (hP : Par w g r V d) (hr : RowOk r) (f : Nat) (HC : ECtr Tryz.prog 82 (placeF f d r) d r) {nm : Str} {ln : Nat} {r2 : Sg} (hp : placeF f d r = .ok (.mk 3 0 nm [] [] ln) r2) (hq : readF f d r = if txt r2 = [46] then (want 1 (r2.drop 1)).bind fun u r' => .ok (Ex.mk 5 0 nm u.text [] ln) r' else .ok (Ex.mk 3 0 nm [] [] ln) r2) :
  Calls Tryz.prog 106 #[.pointer (some ⟨g, 0, none⟩)] w (Gv g V d w GotE (readF f d r)) := by
 have HCC := Lib.hid HC
 rw [hp] at HCC
 generalize readF f d r = R at *
 have HR := Lib.hid hq.symm
 clear HC hp hq
 have P1 := Lib.hid hP
 have G1 := Lib.hid (gr_refl w (some g))
 have R1 := Lib.hid hr
 have Z1 := Lib.hid (show g < w.heap.size from hP.lt)
 clear hP hr
 go_enter Tryz.func106, Tryz.ntmps106
 go_upto_region 1 with (fail)
 have hb := (Below.refl w.heap.size w).alloc (Nat.le_refl _) (.cells #[.int .i64 0, .int .i64 0, .string ⟨#[]⟩, .string ⟨#[]⟩, .slice none 0 0, .int .i64 0] 39)
 have hx := Box.new w #[.int .i64 0, .int .i64 0, .string ⟨#[]⟩, .string ⟨#[]⟩, .slice none 0 0, .int .i64 0] 39
 have hz : (w.alloc (.cells #[.int .i64 0, .int .i64 0, .string ⟨#[]⟩, .string ⟨#[]⟩, .slice none 0 0, .int .i64 0] 39)).heap.size = w.heap.size + 1 := by simp
 generalize w.alloc (.cells #[.int .i64 0, .int .i64 0, .string ⟨#[]⟩, .string ⟨#[]⟩, .slice none 0 0, .int .i64 0] 39) = w4 at *
 have hg := gr_of (row := some w.heap.size) hb
 have Z2 := Lib.hid (And.intro hz Z1.out)
 have X3 := Lib.hid hx
 clear hb hx hz
 have P4 := Lib.hid (P1.out.gr hg (by have z := Z1.out; omega))
 clear P1
 have G5 := hgt hg G1 (fun _ => by have z := Z1.out; omega)
 clear G1
 have Z6 := hzz hg Z2
 clear hg
 go_wp2_with (go_at_call 82; fail)
 refine (HCC.out _ _ _ P4.out).mono ?_
 rintro e w5 ⟨⟨v9, rfl, hG⟩, hP9, hr9, hg⟩
 have P7 := Lib.hid hP9
 have R8 := Lib.hid hr9
 have X9 := hbx hg (by have z := Z6.out; omega) X3
 clear X3
 clear P4
 have G10 := Lib.hid (gr_trans G5.out hg)
 clear G5
 have Z11 := hzz hg Z6
 clear hg hP9 hr9 R1
 obtain ⟨⟨o9, n9, nm9, fd9, ⟨A9, l9, c9⟩, ln9⟩, rfl, rfl, rfl, rfl, rfl, rfl, H9, hRB9, hEx9⟩ := hG
 have E13 := Lib.hid hRB9
 clear hRB9
 obtain rfl : H9 = [] := hEx9
 go_upto_region 2 with ((with_reducible refine m_new 39 3 5 ?_ ?_ ?_ (eC ⟨3, 0, nm9, [], ⟨A9, l9, c9⟩, ln9⟩) ?_ ?_ ?_ ?_ (eC_one _) ?_); rfl; rfl; rfl; rfl; rfl; rfl; kernel_rfl; intro w6 hx hb hz)
 have hg := gr_of (row := some w5.heap.size) hb
 have Z15 := Lib.hid (And.intro hz Z11.out)
 have X16 := Lib.hid hx
 clear hb hx hz
 have X17 := hbx hg (by have z := Z11.out; omega) X9
 clear X9
 have E18 := hkRB hg (by have z := Z11.out; omega) E13
 clear E13
 have P19 := Lib.hid (P7.out.gr hg (by have z := Z11.out; omega))
 clear P7
 have G20 := hgt hg G10 (fun _ => by have z := Z11.out; omega)
 clear G10
 have Z21 := hzz hg Z15
 clear hg
 have ⟨a0, k0, a1, k1, a2, k2, a3, k3, a4, k4, a5, k5, _⟩ := X16.out
 by_cases hw : txt r2 = [46]
 ·skip
  have hq := HR.out
  rw [if_pos hw] at hq
  have HR22 := Lib.hid hq
  clear hq HR
  have R23 := Lib.hid (R8.out.drop (txt_kind hw (by decide)))
  go_wp2_with (go_at_call 32; fail)
  refine (take_yes P19.out R8.out ((headS_txt R8.out (by decide) (by decide) (by decide) (by decide)).2 hw) (txt_kind hw (by decide))).mono ?_
  rintro e w7 ⟨rfl, hp, hg⟩
  have P24 := Lib.hid hp
  have X25 := hbx hg (by have z := Z21.out; omega) X17
  clear X17
  have X26 := hbx hg (by have z := Z21.out; omega) X16
  clear X16
  have E27 := hkRB hg (by have z := Z21.out; omega) E18
  clear E18
  clear P19
  have G28 := Lib.hid (gr_trans G20.out hg)
  clear G20
  have Z29 := hzz hg Z21
  clear hg hp
  clear R8
  generalize ((r2).drop 1) = r30 at *
  clear a0 k0 a1 k1 a2 k2 a3 k3 a4 k4 a5 k5
  have ⟨a0, k0, a1, k1, a2, k2, a3, k3, a4, k4, a5, k5, _⟩ := X26.out
  go_upto_region 4 with (fail)
  clear a0 k0 a1 k1 a2 k2 a3 k3 a4 k4 a5 k5
  have hg := gr_set w7 (w5.heap.size) 0 (.int .i64 5)
  have hx : Box (w7.setCell ⟨w5.heap.size, 0, none⟩ (.int .i64 5)) (w5.heap.size) 0 (eC ⟨5, 0, nm9, [], ⟨A9, l9, c9⟩, ln9⟩) := Box.put X26.out 0 (show 0 < 6 by decide) (.int .i64 5)
  have hs : (w7.setCell ⟨w5.heap.size, 0, none⟩ (.int .i64 5)).heap.size = w7.heap.size := set_size _ _ _
  generalize w7.setCell ⟨w5.heap.size, 0, none⟩ (.int .i64 5) = w8 at *
  have X31 := Lib.hid hx
  have Z32 := Lib.hid (And.intro hs Z29.out)
  clear hx hs X26
  have X33 := hbx hg (by have z := Z29.out; omega) X25
  clear X25
  have E34 := hkRB hg (by have z := Z29.out; omega) E27
  clear E27
  have P35 := Lib.hid (P24.out.gr hg (by have z := Z29.out; omega))
  clear P24
  have G36 := hgt hg G28 (fun _ => by have z := Z29.out; omega)
  clear G28
  have Z37 := hzz hg Z32
  clear hg
  by_cases hs38 : (tr.hd (r30)).kind = 1
  rotate_left
  ·have hq := HR22.out
   rw [want_badE hs38] at hq
   go_wp2_with (go_at_call 18; fail)
   refine (need_no P35.out R23.out (mt (headS_kind R23.out).1.1 hs38)).mono ?_
   rintro e w9 ⟨rfl, hb⟩
   go_wp2
   exact ⟨rfl, Gv.badOf hq.symm (gr_trans G36.out (gr_of hb))⟩
  have hq := HR22.out
  rw [want_okE hs38, bind_okE] at hq
  have HR39 := Lib.hid hq
  clear hq HR22
  have R40 := Lib.hid (R23.out.drop (by rw [hs38]; decide))
  go_wp2_with (go_at_call 18; fail)
  refine (need_yes P35.out R23.out ((headS_kind R23.out).1.2 hs38)).mono ?_
  rintro e w9 ⟨rfl, hp, hg⟩
  have P41 := Lib.hid hp
  have X42 := hbx hg (by have z := Z37.out; omega) X33
  clear X33
  have X43 := hbx hg (by have z := Z37.out; omega) X31
  clear X31
  have E44 := hkRB hg (by have z := Z37.out; omega) E34
  clear E34
  clear P35
  have G45 := Lib.hid (gr_trans G36.out hg)
  clear G36
  have Z46 := hzz hg Z37
  clear hg hp
  clear R23
  generalize ((r30).drop 1) = r47 at *
  have f1 := tok_f1 (tr.hd (r30))
  have ⟨a0, k0, a1, k1, a2, k2, a3, k3, a4, k4, a5, k5, _⟩ := X43.out
  go_upto_region 5 with (fail)
  clear a0 k0 a1 k1 a2 k2 a3 k3 a4 k4 a5 k5
  have hg := gr_set w9 (w5.heap.size) 3 (.string ⟨(tr.hd (r30)).text.toArray⟩)
  have hx : Box (w9.setCell ⟨w5.heap.size, 3, none⟩ (.string ⟨(tr.hd (r30)).text.toArray⟩)) (w5.heap.size) 0 (eC ⟨5, 0, nm9, (tr.hd (r30)).text, ⟨A9, l9, c9⟩, ln9⟩) := Box.put X43.out 3 (show 3 < 6 by decide) (.string ⟨(tr.hd (r30)).text.toArray⟩)
  have hs : (w9.setCell ⟨w5.heap.size, 3, none⟩ (.string ⟨(tr.hd (r30)).text.toArray⟩)).heap.size = w9.heap.size := set_size _ _ _
  generalize w9.setCell ⟨w5.heap.size, 3, none⟩ (.string ⟨(tr.hd (r30)).text.toArray⟩) = w10 at *
  have X48 := Lib.hid hx
  have Z49 := Lib.hid (And.intro hs Z46.out)
  clear hx hs X43
  have X50 := hbx hg (by have z := Z46.out; omega) X42
  clear X42
  have E51 := hkRB hg (by have z := Z46.out; omega) E44
  clear E44
  have P52 := Lib.hid (P41.out.gr hg (by have z := Z46.out; omega))
  clear P41
  have G53 := hgt hg G45 (fun _ => by have z := Z46.out; omega)
  clear G45
  have Z54 := hzz hg Z49
  clear hg
  go_wp2_with (first | ((with_reducible refine m_load X48.out 39 3 ?_ ?_ ?_ ?_ ?_ ?_); rfl; rfl; rfl; rfl; kernel_rfl) | ((with_reducible refine m_store X50.out 39 2 18 ?_ ?_ ?_ (eC ⟨5, 0, nm9, (tr.hd (r30)).text, ⟨A9, l9, c9⟩, ln9⟩) ?_ ?_ ?_ ?_ (eC_one _) ?_); rfl; rfl; rfl; rfl; rfl; rfl; kernel_rfl; intro w11 hx hg hs))
  have X55 := Lib.hid hx
  have Z56 := Lib.hid (And.intro hs Z54.out)
  clear hx hs X50
  have X57 := hbx hg (by have z := Z54.out; omega) X48
  clear X48
  have E58 := hkRB hg (by have z := Z54.out; omega) E51
  clear E51
  have P59 := Lib.hid (P52.out.gr hg (by have z := Z54.out; omega))
  clear P52
  have G60 := hgt hg G53 (fun _ => by have z := Z54.out; omega)
  clear G53
  have Z61 := hzz hg Z56
  clear hg
  refine bodyPost_ret (k.results_cell rfl rfl (run_loadVar_mid _ w.heap.size 0 39 _ _ X55.out.range rfl rfl (by kernel_rfl))) rfl ?_
  exact Gv.okOf HR39.out.symm ⟨⟨5, 0, nm9, (tr.hd (r30)).text, ⟨A9, l9, c9⟩, ln9⟩, rfl, rfl, rfl, rfl, rfl, rfl, [], (RB.kept (more_nw (by have z := Z61.out; omega) (by have z := Z61.out; omega)) E58.out), rfl⟩ P59.out R40.out G60.out
 ·skip
  have hq := HR.out
  rw [if_neg hw] at hq
  have HR22 := Lib.hid hq
  clear hq HR
  go_wp2_with (go_at_call 32; fail)
  refine (take_no P19.out R8.out (mt (headS_txt R8.out (by decide) (by decide) (by decide) (by decide)).1 hw)).mono ?_
  rintro e w7 ⟨rfl, hb⟩
  have hg := gr_of (row := some w6.heap.size) hb
  have X23 := hbx hg (by have z := Z21.out; omega) X17
  clear X17
  have X24 := hbx hg (by have z := Z21.out; omega) X16
  clear X16
  have E25 := hkRB hg (by have z := Z21.out; omega) E18
  clear E18
  have P26 := Lib.hid (P19.out.gr hg (by have z := Z21.out; omega))
  clear P19
  have G27 := hgt hg G20 (fun _ => by have z := Z21.out; omega)
  clear G20
  have Z28 := hzz hg Z21
  clear hg hb
  clear a0 k0 a1 k1 a2 k2 a3 k3 a4 k4 a5 k5
  go_wp2_with (first | ((with_reducible refine m_load X24.out 39 3 ?_ ?_ ?_ ?_ ?_ ?_); rfl; rfl; rfl; rfl; kernel_rfl) | ((with_reducible refine m_store X23.out 39 2 18 ?_ ?_ ?_ (eC ⟨3, 0, nm9, [], ⟨A9, l9, c9⟩, ln9⟩) ?_ ?_ ?_ ?_ (eC_one _) ?_); rfl; rfl; rfl; rfl; rfl; rfl; kernel_rfl; intro w8 hx hg hs))
  have X29 := Lib.hid hx
  have Z30 := Lib.hid (And.intro hs Z28.out)
  clear hx hs X23
  have X31 := hbx hg (by have z := Z28.out; omega) X24
  clear X24
  have E32 := hkRB hg (by have z := Z28.out; omega) E25
  clear E25
  have P33 := Lib.hid (P26.out.gr hg (by have z := Z28.out; omega))
  clear P26
  have G34 := hgt hg G27 (fun _ => by have z := Z28.out; omega)
  clear G27
  have Z35 := hzz hg Z30
  clear hg
  refine bodyPost_ret (k.results_cell rfl rfl (run_loadVar_mid _ w.heap.size 0 39 _ _ X29.out.range rfl rfl (by kernel_rfl))) rfl ?_
  exact Gv.okOf HR22.out.symm ⟨⟨3, 0, nm9, [], ⟨A9, l9, c9⟩, ln9⟩, rfl, rfl, rfl, rfl, rfl, rfl, [], (RB.kept (more_nw (by have z := Z35.out; omega) (by have z := Z35.out; omega)) E32.out), rfl⟩ P33.out R8.out G34.out
theorem read_any (hP : Par w g r V d) (hr : RowOk r) (f : Nat) (HC : ECtr Tryz.prog 82 (placeF f d r) d r)  :
  Calls Tryz.prog 106 #[.pointer (some ⟨g, 0, none⟩)] w (Gv g V d w GotE (readF f d r)) := by
 rcases place_cases f d r with ⟨n, t, h1, h2⟩ | ⟨nm, x, ln, r2, h1, h2⟩ | ⟨nm, ln, r2, h1, h2⟩
 ·exact read_bad hP hr f HC h1 h2
 ·exact read_index hP hr f HC h1 h2
 ·exact read_var hP hr f HC h1 h2
end
end Go.Proofs.YtbcpkhegmbdifaaGreat.tr
