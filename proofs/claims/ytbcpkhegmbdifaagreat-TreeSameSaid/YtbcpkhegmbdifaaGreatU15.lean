/- The landed parser's statements: whether a word is among some. No condition but what each line says. -/
import Derived.Test.YtbcpkhegmbdifaaGreatU14
namespace Go.Proofs.YtbcpkhegmbdifaaGreat.tr
open Go.ChangeShapes Go.WideShapes Go.ChangeAt Go.RowKit Go.Proofs.YtbcpkhegmbdifaaGreat.k Go.Proofs.YtbcpkhegmbdifaaGreat.rr Go.Proofs.YtbcpkhegmbdifaaGreat.tk
set_option linter.unusedVariables false

set_option maxRecDepth 100000 in
set_option maxHeartbeats 4000000 in
theorem index_any (ends : List Str) (s : Str) {B n c : Nat} {A : Option Addr} {w : World} (hE : Rd tC1 1 w B A n c ends) : Calls Tryz.prog 52 #[.slice A n c, sv s] w fun e w' => ∃ i : Int, e = .returned (.int .i64 i) ∧ decide (0 ≤ i) = ends.contains s ∧ w' = w := by
  obtain ⟨R, hR⟩ : ∃ R, ends.contains s = R := ⟨_, rfl⟩
  rw [hR]
  have hnl := hE.len_le
  have hlen := hE.1
  have HE := Lib.hid hE
  have HR := Lib.hid hR
  have EQ := Lib.hid fun x : Str => sv_eq s x
  have LE := Lib.hid hlen
  unfold sv
  obtain ⟨X, hX⟩ : ∃ X, (⟨s.toArray⟩ : ByteArray) = X := ⟨_, rfl⟩
  rw [hX] at EQ ⊢
  clear hE hR hlen hX
  go_enter Tryz.func52, Tryz.ntmps52
  go_upto_region 2 with (fail)
  go_loopw [8] (fun s8 wr => ∃ q : Nat, q ≤ n ∧ s8 = .int .i64 q ∧ (ends.drop q).contains s = R ∧ wr = w) (fun i _ => n - (intOf i).toNat)
  case atStart => exact ⟨0, Nat.zero_le _, rfl, HR.out, rfl⟩
  case round =>
    obtain ⟨q, hq, rfl, hd, rfl⟩ := hrel
    by_cases hlt : q < n
    · obtain ⟨b, off, x, rfl, hb, hx, hc⟩ := HE.out.at hlt
      have hc0 : wr.cell? ⟨b, off + q, none⟩ = some (.string ⟨x.toArray⟩) := by
        have := hc 0 _ rfl
        simpa [sv] using this
      have eq := EQ.out x
      have hdr : ends.drop q = x :: ends.drop (q + 1) := by
        obtain ⟨h1, h2⟩ := List.getElem?_eq_some_iff.1 hx
        rw [List.drop_eq_getElem_cons h1, h2]
      rw [hdr, List.contains_cons] at hd
      have HD := Lib.hid hd
      have hz : (q : Int) < n := by omega
      have w1 : IntKind.i64.wrap ((q : Int) + 1) = q + 1 := by rw [IntKind.wrap_i64]; omega
      obtain ⟨Y, hY⟩ : ∃ Y, (⟨x.toArray⟩ : ByteArray) = Y := ⟨_, rfl⟩
      rw [hY] at hc0 eq
      obtain ⟨u, hu⟩ : ∃ u, (s == x) = u := ⟨_, rfl⟩
      rw [hu] at eq HD
      clear hd hdr hx hc hY hu
      cases u
      · go_wp2_with fail
        go_roundw
        case rel => exact ⟨q + 1, by omega, by go_num, by simpa using HD.out, by first | rfl | trivial⟩
        case measure => simp [intOf]; omega
      · go_wp2_with fail
        go_ret
        exact ⟨q, rfl, by rw [← HD.out]; simp, by first | rfl | trivial⟩
    · have hd0 : ends.drop q = [] := List.drop_eq_nil_of_le (by rw [LE.out]; omega)
      rw [hd0] at hd
      have HD := Lib.hid hd
      have hz : ¬ (q : Int) < n := by omega
      clear hd hd0
      go_wp2_with fail
      go_ret
      exact ⟨-1, rfl, by rw [← HD.out]; simp, by first | rfl | trivial⟩
set_option maxRecDepth 100000 in
set_option maxHeartbeats 4000000 in
theorem contains_any (ends : List Str) (s : Str) {B n c : Nat} {A : Option Addr} {w : World} (hE : Rd tC1 1 w B A n c ends) : Calls Tryz.prog 34 #[.slice A n c, sv s] w fun e w' => e = .returned (.bool (ends.contains s)) ∧ w' = w := by
  have IA := Lib.hid (index_any ends s hE)
  obtain ⟨R, hR⟩ : ∃ R, ends.contains s = R := ⟨_, rfl⟩
  rw [hR] at IA ⊢
  unfold sv at IA ⊢
  generalize (⟨s.toArray⟩ : ByteArray) = X at *
  clear hE hR
  go_enter Tryz.func34, Tryz.ntmps34
  go_wp2_with (go_at_call 52; fail)
  refine IA.out.mono ?_
  rintro e w1 ⟨i, rfl, hi, rfl⟩
  go_wp2
  go_ret
  exact ⟨ret_bool (by rw [← hi]), rfl⟩
end Go.Proofs.YtbcpkhegmbdifaaGreat.tr
/- The landed parser's statements: signed and labels. Condition of labels: at most 6000 signs. -/
namespace Go.Proofs.YtbcpkhegmbdifaaGreat.tr
open Go.ChangeShapes Go.WideShapes Go.ChangeAt Go.RowKit Go.Proofs.YtbcpkhegmbdifaaGreat.k Go.Proofs.YtbcpkhegmbdifaaGreat.rr Go.Proofs.YtbcpkhegmbdifaaGreat.tk
set_option linter.unusedVariables false

def GotI (n : Int) (w w' : World) (v : Value) : Prop := v = .int .i64 n
/-- a row of numbers in new blocks -/
def GotL (l : List Int) (w w' : World) (v : Value) : Prop := ∃ s : Sl, v = s.v ∧ RB iC 1 w' (Nw w.heap.size w'.heap.size) s l
theorem row_n {r : Sg} (h : RowOk r) (hk : (hd r).kind = 3) : 0 ≤ (hd r).n ∧ (hd r).n ≤ 9223372036854775807 := by
 rcases h.hd with h | ⟨h, _⟩ | h | ⟨_, h1, h2⟩
 ·omega
 ·omega
 ·omega
 ·exact ⟨h1, h2⟩
theorem ints_slice : Tryz.prog.underlying 70 = some (.slice 2) := by kernel_rfl
theorem int_info : (Tryz.prog.info? 2).map (fun i => (i.zero, i.size, i.bytes)) = some (some (.int .i64 0), 1, 8) := by kernel_rfl
theorem bs_I2 (a c : Int) (w : World) : (Instr.buildSlice 70 2 #[(0, .int .i64 a), (1, .int .i64 c)]).run Tryz.prog w = .ok (.slice (some ⟨w.heap.size, 0, none⟩) 2 2) (w.alloc (.cells (iC a ++ iC c).toArray 2)) := by kernel_rfl
section
variable {r : Sg} {V : Value} {d g : Nat} {w : World}

set_option maxRecDepth 100000 in
set_option maxHeartbeats 4000000 in
theorem signed_any (hP : Par w g r V d) (hr : RowOk r) : Calls Tryz.prog 81 #[.pointer (some ⟨g, 0, none⟩)] w (Gv g V d w GotI (intg r)) := by
 obtain ⟨R, hR⟩ : ∃ R : Res Int, (intg r) = R := ⟨_, rfl⟩
 rw [hR]
 have HR := Lib.hid hR
 clear hR
 have P1 := Lib.hid hP
 have G1 := Lib.hid (gr_refl w (some g))
 have R1 := Lib.hid hr
 have Z1 := Lib.hid (show g < w.heap.size from hP.lt)
 clear hP hr
 have hq := HR.out
 unfold intg at hq
 have HR2 := Lib.hid hq
 clear hq HR
 go_enter Tryz.func81, Tryz.ntmps81
 by_cases hw : txt r = [45]
 ·skip
  have hq := HR2.out
  rw [if_pos hw] at hq
  have HR3 := Lib.hid hq
  clear hq HR2
  have R4 := Lib.hid (R1.out.drop (txt_kind hw (by decide)))
  go_wp2_with (go_at_call 32; fail)
  refine (take_yes P1.out R1.out ((headS_txt R1.out (by decide) (by decide) (by decide) (by decide)).2 hw) (txt_kind hw (by decide))).mono ?_
  rintro e w4 ⟨rfl, hp, hg⟩
  have P5 := Lib.hid hp
  clear P1
  have G6 := Lib.hid (gr_trans G1.out hg)
  clear G1
  have Z7 := hzz hg Z1
  clear hg hp
  clear R1
  generalize ((r).drop 1) = r8 at *
  have WN := Lib.hid (fun h => row_n R4.out h)
  have f2 := tok_f2 (tr.hd r8)
  by_cases hs9 : (tr.hd (r8)).kind = 3
  rotate_left
  ·have hq := HR3.out
   rw [want_badE hs9] at hq
   go_wp2_with (go_at_call 18; fail)
   refine (need_no P5.out R4.out (mt (headS_kind R4.out).2.1.1 hs9)).mono ?_
   rintro e w5 ⟨rfl, hb⟩
   go_wp2
   exact ⟨rfl, Gv.badOf hq.symm (gr_trans G6.out (gr_of hb))⟩
  have hq := HR3.out
  rw [want_okE hs9, bind_okE] at hq
  have HR10 := Lib.hid hq
  clear hq HR3
  have R11 := Lib.hid (R4.out.drop (by rw [hs9]; decide))
  go_wp2_with (go_at_call 18; fail)
  refine (need_yes P5.out R4.out ((headS_kind R4.out).2.1.2 hs9)).mono ?_
  rintro e w5 ⟨rfl, hp, hg⟩
  have P12 := Lib.hid hp
  clear P5
  have G13 := Lib.hid (gr_trans G6.out hg)
  clear G6
  have Z14 := hzz hg Z7
  clear hg hp
  clear R4
  generalize ((r8).drop 1) = r15 at *
  have wn : IntKind.i64.wrap (-(tr.hd (r8)).n) = -(tr.hd (r8)).n := by rw [IntKind.wrap_i64]; have := WN.out (by assumption); omega
  go_wp2
  go_ret
  exact Gv.okOf HR10.out.symm rfl P12.out R11.out G13.out
 ·skip
  have hq := HR2.out
  rw [if_neg hw] at hq
  have HR3 := Lib.hid hq
  clear hq HR2
  go_wp2_with (go_at_call 32; fail)
  refine (take_no P1.out R1.out (mt (headS_txt R1.out (by decide) (by decide) (by decide) (by decide)).1 hw)).mono ?_
  rintro e w4 ⟨rfl, hb⟩
  have hg := gr_of (row := some w.heap.size) hb
  have P4 := Lib.hid (P1.out.gr hg (by have z := Z1.out; omega))
  clear P1
  have G5 := hgt hg G1 (fun _ => by have z := Z1.out; omega)
  clear G1
  have Z6 := hzz hg Z1
  clear hg hb
  have f2 := tok_f2 (tr.hd r)
  by_cases hs7 : (tr.hd (r)).kind = 3
  rotate_left
  ·have hq := HR3.out
   rw [want_badE hs7] at hq
   go_wp2_with (go_at_call 18; fail)
   refine (need_no P4.out R1.out (mt (headS_kind R1.out).2.1.1 hs7)).mono ?_
   rintro e w5 ⟨rfl, hb⟩
   go_wp2
   exact ⟨rfl, Gv.badOf hq.symm (gr_trans G5.out (gr_of hb))⟩
  have hq := HR3.out
  rw [want_okE hs7, bind_okE] at hq
  have HR8 := Lib.hid hq
  clear hq HR3
  have R9 := Lib.hid (R1.out.drop (by rw [hs7]; decide))
  go_wp2_with (go_at_call 18; fail)
  refine (need_yes P4.out R1.out ((headS_kind R1.out).2.1.2 hs7)).mono ?_
  rintro e w5 ⟨rfl, hp, hg⟩
  have P10 := Lib.hid hp
  clear P4
  have G11 := Lib.hid (gr_trans G5.out hg)
  clear G5
  have Z12 := hzz hg Z6
  clear hg hp
  clear R1
  generalize ((r).drop 1) = r13 at *
  go_wp2
  go_ret
  exact Gv.okOf HR8.out.symm rfl P10.out R9.out G11.out
set_option maxRecDepth 100000 in
set_option maxHeartbeats 4000000 in
theorem labels_any (hP : Par w g r V d) (hr : RowOk r) (hl : r.length ≤ 6000) {f : Nat} (hf : 20 * r.length + 1 ≤ f) : Calls Tryz.prog 85 #[.pointer (some ⟨g, 0, none⟩)] w (Gv g V d w GotL ((labelsF f r []).bind fun l r' => (need [58] r').bind fun _ r' => .ok l r')) := by
 obtain ⟨R, hR⟩ : ∃ R : Res (List Int), ((labelsF f r []).bind fun l r' => (need [58] r').bind fun _ r' => .ok l r') = R := ⟨_, rfl⟩
 rw [hR]
 have HR := Lib.hid hR
 clear hR
 have HL := Lib.hid hl
 have HF := Lib.hid hf
 clear hl hf
 have P1 := Lib.hid hP
 have G1 := Lib.hid (gr_refl w (some g))
 have R1 := Lib.hid hr
 have Z1 := Lib.hid (show g < w.heap.size from hP.lt)
 clear hP hr
 go_enter Tryz.func85, Tryz.ntmps85
 go_upto_region 3 with (fail)
 go_loopw [3, 4] (fun v s4 wr => ∃ (m : Bool) (acc : List Int) (r' : Sg) (fc : Nat), s4 = .bool m ∧ (m = true → (labelsF fc r' acc).bind (fun l r' => (need [58] r').bind fun _ r' => .ok l r') = R ∧ 20 * r'.length + 1 ≤ fc) ∧ (m = false → (need [58] r').bind (fun _ r' => .ok acc r') = R) ∧ acc.length + 2 * r'.length ≤ 2 * r.length ∧ RowOk r' ∧ Par wr g r' V d ∧ Ow iC 1 2 wr w.heap.size v acc ∧ w.grownBy wr (some g)) (fun _ _ wr => rowLen wr g)
 case atStart => exact ⟨true, [], r, f, rfl, fun _ => ⟨HR.out, HF.out⟩, (fun h => by cases h), by simp, R1.out, P1.out, Ow.nil _ _ _ _ _, G1.out⟩
 case round =>
  obtain ⟨m, acc, r', fc, rfl, hm1, hm2, hlen, hr', hP', hO', hG'⟩ := hrel
  clear P1 G1 R1 HR
  have P1 := Lib.hid hP'
  have O1 := Lib.hid hO'
  have G1 := Lib.hid hG'
  have R1 := Lib.hid hr'
  have HLEN := Lib.hid hlen
  have ZS := Lib.hid (And.intro hG'.size Z1.out)
  clear hP' hO' hG' hr' hlen
  have NLEN := Lib.hid P1.out.len
  have OHD := Lib.hid O1.out
  cases m
  ·skip
   have HR := Lib.hid (hm2 rfl)
   clear hm1 hm2
   by_cases hs201 : txt (r') = [58]
   rotate_left
   ·have hq := HR.out
    rw [need_badE hs201] at hq
    go_wp2_with (go_at_call 18; fail)
    refine (need_no P1.out R1.out (mt (headS_txt R1.out (by decide) (by decide) (by decide) (by decide)).1 hs201)).mono ?_
    rintro e w4 ⟨rfl, hb⟩
    go_wp2
    exact ⟨rfl, Gv.badOf hq.symm (gr_trans G1.out (gr_of hb))⟩
   have hq := HR.out
   rw [need_okE hs201, bind_okE] at hq
   have HR202 := Lib.hid hq
   clear hq HR
   have R203 := Lib.hid (R1.out.drop (txt_kind hs201 (by decide)))
   go_wp2_with (go_at_call 18; fail)
   refine (need_yes P1.out R1.out ((headS_txt R1.out (by decide) (by decide) (by decide) (by decide)).2 hs201)).mono ?_
   rintro e w4 ⟨rfl, hp, hg⟩
   have P204 := Lib.hid hp
   have O205 := Lib.hid (Ow.gr O1.out hg (by have z := ZS.out; omega))
   clear O1
   clear P1
   have G206 := Lib.hid (gr_trans G1.out hg)
   clear G1
   have Z207 := hzz hg ZS
   clear hg hp
   clear R1
   generalize ((r').drop 1) = r208 at *
   obtain ⟨⟨A9, l9, c9⟩, hs9⟩ := Ow.sl iC_len O205.out
   subst hs9
   go_wp2
   go_ret
   exact Gv.okOf HR202.out.symm ⟨⟨A9, l9, c9⟩, rfl, rb_own iC_len O205.out (Nat.le_refl _) (Nat.le_refl _)⟩ P204.out R203.out G206.out
  ·skip
   obtain ⟨hq, hfc⟩ := hm1 rfl
   obtain ⟨f2, rfl⟩ : ∃ k, fc = k + 1 := ⟨fc - 1, by omega⟩
   rw [labelsF, bind_bind] at hq
   have HR := Lib.hid hq
   have HFC := Lib.hid hfc
   clear hm1 hm2 hq hfc
   have FI := Lib.hid (fin_intg (r := r'))
   have SG := Lib.hid fun W (h : Par W g r' V d) => signed_any h R1.out
   go_wp2_with (go_at_call 81; fail)
   refine (SG.out _ P1.out).mono ?_
   rintro e w4 hgv
   rcases hp : intg r' with ⟨a1, r1⟩ | ⟨n9, t9⟩
   rotate_left
   ·rw [hp] at hgv
    obtain ⟨rfl, hg⟩ := hgv
    have hq := HR.out
    rw [hp] at hq
    go_wp2
    exact ⟨rfl, Gv.badOf hq.symm (gr_trans G1.out hg)⟩
   rw [hp] at hgv
   obtain ⟨⟨v9, rfl, hG⟩, hP9, hr9, hg⟩ := hgv
   have hq := HR.out
   rw [hp] at hq
   try rw [bind_okE] at hq
   have HR201 := Lib.hid hq
   clear hq HR
   have P202 := Lib.hid hP9
   have R203 := Lib.hid hr9
   have O204 := Lib.hid (Ow.gr O1.out hg (by have z := ZS.out; omega))
   clear O1
   clear P1
   have G205 := Lib.hid (gr_trans G1.out hg)
   clear G1
   have Z206 := hzz hg ZS
   clear hg hP9 hr9 R1
   have L1 : Hid (r1.length < r'.length) := by
    have := FI.out
    rw [hp] at this
    exact Lib.hid this
   obtain rfl := hG
   clear FI hp SG
   by_cases hw : txt r1 = [46, 46]
   ·skip
    have hq := HR201.out
    rw [if_pos hw] at hq
    have HR207 := Lib.hid hq
    clear hq HR201
    have hl1 := drop_len r1
    have HL1 := Lib.hid hl1
    clear hl1
    have R208 := Lib.hid (R203.out.drop (txt_kind hw (by decide)))
    go_wp2_with (go_at_call 32; fail)
    refine (take_yes P202.out R203.out ((headS_txt R203.out (by decide) (by decide) (by decide) (by decide)).2 hw) (txt_kind hw (by decide))).mono ?_
    rintro e w5 ⟨rfl, hp, hg⟩
    have P209 := Lib.hid hp
    have O210 := Lib.hid (Ow.gr O204.out hg (by have z := Z206.out; omega))
    clear O204
    clear P202
    have G211 := Lib.hid (gr_trans G205.out hg)
    clear G205
    have Z212 := hzz hg Z206
    clear hg hp
    clear R203
    generalize ((r1).drop 1) = r213 at *
    have FI := Lib.hid (fin_intg (r := r213))
    have SG := Lib.hid fun W (h : Par W g r213 V d) => signed_any h R208.out
    go_wp2_with (go_at_call 81; fail)
    refine (SG.out _ P209.out).mono ?_
    rintro e w6 hgv
    rcases hp : intg r213 with ⟨c1, r2⟩ | ⟨n9, t9⟩
    rotate_left
    ·rw [hp] at hgv
     obtain ⟨rfl, hg⟩ := hgv
     have hq := HR207.out
     rw [hp] at hq
     go_wp2
     exact ⟨rfl, Gv.badOf hq.symm (gr_trans G211.out hg)⟩
    rw [hp] at hgv
    obtain ⟨⟨v9, rfl, hG⟩, hP9, hr9, hg⟩ := hgv
    have hq := HR207.out
    rw [hp] at hq
    try rw [bind_okE] at hq
    have HR214 := Lib.hid hq
    clear hq HR207
    have P215 := Lib.hid hP9
    have R216 := Lib.hid hr9
    have O217 := Lib.hid (Ow.gr O210.out hg (by have z := Z212.out; omega))
    clear O210
    clear P209
    have G218 := Lib.hid (gr_trans G211.out hg)
    clear G211
    have Z219 := hzz hg Z212
    clear hg hP9 hr9 R208
    have LR : Hid (r2.length < r'.length) := by
     have := FI.out
     rw [hp] at this
     have := L1.out; have := HL1.out
     have h9 : r2.length < r213.length := by assumption
     exact Lib.hid (by omega)
    obtain rfl := hG
    clear FI hp SG HL1
    have LM := Lib.hid (show acc.length + [a1, c1].length ≤ 20000 by have := HLEN.out; have := HL.out; simp; omega)
    have Z220 := Lib.hid (And.intro (show w.heap.size ≤ w6.heap.size from (by have z := Z219.out; omega)) Z219.out)
    go_upto_region 4 with (first | ((with_reducible refine m_slice2 (enc := iC) (z := 1) iC_len a1 c1 70 2 18 19 (.int .i64 a1) (.int .i64 c1) (iC a1 ++ iC c1).toArray ?_ ?_ ?_ ?_ (bs_I2 a1 c1) ?_ ?_); rfl; rfl; rfl; rfl; rfl; intro w7 hrb hb1 hz1; have HRB := Lib.hid hrb; have HB1 := Lib.hid hb1; have HZ1 := Lib.hid hz1; clear hrb hb1 hz1) | (at_builtin; refine wpList_append_row iC_len (by decide) iC_one ints_slice int_info rfl (by decide) _ rfl (.tmp 17) (.tmp 20) rfl w.heap.size u3 acc rfl (O217.out.under HB1.out) (w6.heap.size + 1) (some ⟨w6.heap.size, 0, none⟩) 2 2 [a1, c1] rfl (RB.toAt (fun b hb => hb.2) HRB.out) LM.out (Nat.le_trans Z220.out.1 HB1.out.size) ?_; intro v8 w8 hown hgA hat; have HOWN := Lib.hid hown; have HGA := Lib.hid hgA; have HAT := Lib.hid hat; clear hown hgA hat))
    have hg := gr_of (row := some w6.heap.size) HB1.out
    have Z221 := Lib.hid (And.intro HZ1.out Z220.out)
    have E222 := HRB
    clear HZ1 HRB
    have O223 := Lib.hid (Ow.gr O217.out hg (by have z := Z220.out; omega))
    clear O217
    have P224 := Lib.hid (P215.out.gr hg (by have z := Z220.out; omega))
    clear P215
    have G225 := hgt hg G218 (fun _ => by have z := Z220.out; omega)
    clear G218
    have Z226 := hzz hg Z221
    clear hg HB1
    obtain ⟨v228, hv8⟩ : ∃ x, x = v8 := ⟨_, rfl⟩
    subst hv8
    obtain ⟨q9, hq1, hq2, hg⟩ := grow_q O223.out (by have z := Z226.out; omega) HGA.out
    have HQ2 := Lib.hid hq2
    have Z229 := Lib.hid (And.intro hq1 Z226.out)
    have Z230 := Lib.hid (And.intro (show q9 < wr.heap.size ∨ w7.heap.size ≤ q9 from hq2.imp (fun e => (Ow.lt OHD.out e).2) id) Z229.out)
    clear hq1 hq2
    have HOB231 := Lib.hid (show ∀ q0, v228.ownBlock = some q0 → q0 < wr.heap.size ∨ w7.heap.size ≤ q0 from fun q0 e0 => HAT.out.elim (fun h => .inl (Ow.lt OHD.out (h.symm.trans e0)).2) (fun h => .inr (by rw [h] at e0; injection e0 with e0; omega)))
    have E232 := hkRB hg (by have z := Z230.out; omega) E222
    clear E222
    have P233 := Lib.hid (P224.out.gr hg (by have z := Z230.out; omega))
    clear P224
    have G234 := hgt hg G225 (fun _ => by have z := Z230.out; omega)
    clear G225
    have Z235 := hzz hg Z230
    have O236 := HOWN
    clear hg HOWN HGA HQ2 HAT O223
    by_cases hw4 : txt r2 = [44]
    ·skip
     have hq := HR214.out
     rw [if_pos hw4] at hq
     have HR237 := Lib.hid hq
     clear hq HR214
     have hl0 := drop_len r2
     have HLR := Lib.hid R216.out.len
     have HL0 := Lib.hid hl0
     clear hl0
     have R238 := Lib.hid (R216.out.drop (txt_kind hw4 (by decide)))
     go_wp2_with (go_at_call 32; fail)
     refine (take_yes P233.out R216.out ((headS_txt R216.out (by decide) (by decide) (by decide) (by decide)).2 hw4) (txt_kind hw4 (by decide))).mono ?_
     rintro e w9 ⟨rfl, hp, hg⟩
     have P239 := Lib.hid hp
     have E240 := hkRB hg (by have z := Z235.out; omega) E232
     clear E232
     have O241 := Lib.hid (Ow.gr O236.out hg (by have z := Z235.out; omega))
     clear O236
     clear P233
     have G242 := Lib.hid (gr_trans G234.out hg)
     clear G234
     have Z243 := hzz hg Z235
     clear hg hp
     clear R216
     generalize ((r2).drop 1) = r244 at *
     go_wp2_with fail
     go_roundw
     case rel => exact ⟨true, _, _, f2, rfl, fun _ => ⟨HR237.out, (by have z := Z243.out; have := HL0.out; have := HLR.out; have := HFC.out; have := LR.out; omega)⟩, (fun h => by cases h), (by have z := Z243.out; have := HL0.out; have := HLR.out; have := HLEN.out; have := LR.out; simp only [List.length_append, List.length_cons, List.length_nil]; omega), R238.out, P239.out, O241.out, G242.out⟩
     case measure => rw [NLEN.out, P239.out.len]; have z := Z243.out; have := HL0.out; have := HLR.out; have := LR.out; omega
    ·skip
     have hq := HR214.out
     rw [if_neg hw4, bind_okE] at hq
     have HR237 := Lib.hid hq
     clear hq HR214
     go_wp2_with (go_at_call 32; fail)
     refine (take_no P233.out R216.out (mt (headS_txt R216.out (by decide) (by decide) (by decide) (by decide)).1 hw4)).mono ?_
     rintro e w9 ⟨rfl, hb⟩
     have hg := gr_of (row := some w8.heap.size) hb
     have E238 := hkRB hg (by have z := Z235.out; omega) E232
     clear E232
     have O239 := Lib.hid (Ow.gr O236.out hg (by have z := Z235.out; omega))
     clear O236
     have P240 := Lib.hid (P233.out.gr hg (by have z := Z235.out; omega))
     clear P233
     have G241 := hgt hg G234 (fun _ => by have z := Z235.out; omega)
     clear G234
     have Z242 := hzz hg Z235
     clear hg hb
     go_wp2_with fail
     go_roundw
     case rel => exact ⟨false, _, _, f2, rfl, (fun h => by cases h), fun _ => HR237.out, (by have z := Z242.out; have := HLEN.out; have := LR.out; simp only [List.length_append, List.length_cons, List.length_nil]; omega), R216.out, P240.out, O239.out, G241.out⟩
     case measure => rw [NLEN.out, P240.out.len]; have z := Z242.out; have := LR.out; omega
   ·skip
    have hq := HR201.out
    rw [if_neg hw, bind_okE] at hq
    have HR207 := Lib.hid hq
    clear hq HR201
    go_wp2_with (go_at_call 32; fail)
    refine (take_no P202.out R203.out (mt (headS_txt R203.out (by decide) (by decide) (by decide) (by decide)).1 hw)).mono ?_
    rintro e w5 ⟨rfl, hb⟩
    have hg := gr_of (row := some w4.heap.size) hb
    have O208 := Lib.hid (Ow.gr O204.out hg (by have z := Z206.out; omega))
    clear O204
    have P209 := Lib.hid (P202.out.gr hg (by have z := Z206.out; omega))
    clear P202
    have G210 := hgt hg G205 (fun _ => by have z := Z206.out; omega)
    clear G205
    have Z211 := hzz hg Z206
    clear hg hb
    have LR := L1
    have LM := Lib.hid (show acc.length + [a1, a1].length ≤ 20000 by have := HLEN.out; have := HL.out; simp; omega)
    have Z212 := Lib.hid (And.intro (show w.heap.size ≤ w5.heap.size from (by have z := Z211.out; omega)) Z211.out)
    go_upto_region 4 with (first | ((with_reducible refine m_slice2 (enc := iC) (z := 1) iC_len a1 a1 70 2 18 19 (.int .i64 a1) (.int .i64 a1) (iC a1 ++ iC a1).toArray ?_ ?_ ?_ ?_ (bs_I2 a1 a1) ?_ ?_); rfl; rfl; rfl; rfl; rfl; intro w6 hrb hb1 hz1; have HRB := Lib.hid hrb; have HB1 := Lib.hid hb1; have HZ1 := Lib.hid hz1; clear hrb hb1 hz1) | (at_builtin; refine wpList_append_row iC_len (by decide) iC_one ints_slice int_info rfl (by decide) _ rfl (.tmp 17) (.tmp 20) rfl w.heap.size u3 acc rfl (O208.out.under HB1.out) (w5.heap.size + 1) (some ⟨w5.heap.size, 0, none⟩) 2 2 [a1, a1] rfl (RB.toAt (fun b hb => hb.2) HRB.out) LM.out (Nat.le_trans Z212.out.1 HB1.out.size) ?_; intro v8 w7 hown hgA hat; have HOWN := Lib.hid hown; have HGA := Lib.hid hgA; have HAT := Lib.hid hat; clear hown hgA hat))
    have hg := gr_of (row := some w5.heap.size) HB1.out
    have Z213 := Lib.hid (And.intro HZ1.out Z212.out)
    have E214 := HRB
    clear HZ1 HRB
    have O215 := Lib.hid (Ow.gr O208.out hg (by have z := Z212.out; omega))
    clear O208
    have P216 := Lib.hid (P209.out.gr hg (by have z := Z212.out; omega))
    clear P209
    have G217 := hgt hg G210 (fun _ => by have z := Z212.out; omega)
    clear G210
    have Z218 := hzz hg Z213
    clear hg HB1
    obtain ⟨v220, hv8⟩ : ∃ x, x = v8 := ⟨_, rfl⟩
    subst hv8
    obtain ⟨q9, hq1, hq2, hg⟩ := grow_q O215.out (by have z := Z218.out; omega) HGA.out
    have HQ2 := Lib.hid hq2
    have Z221 := Lib.hid (And.intro hq1 Z218.out)
    have Z222 := Lib.hid (And.intro (show q9 < wr.heap.size ∨ w6.heap.size ≤ q9 from hq2.imp (fun e => (Ow.lt OHD.out e).2) id) Z221.out)
    clear hq1 hq2
    have HOB223 := Lib.hid (show ∀ q0, v220.ownBlock = some q0 → q0 < wr.heap.size ∨ w6.heap.size ≤ q0 from fun q0 e0 => HAT.out.elim (fun h => .inl (Ow.lt OHD.out (h.symm.trans e0)).2) (fun h => .inr (by rw [h] at e0; injection e0 with e0; omega)))
    have E224 := hkRB hg (by have z := Z222.out; omega) E214
    clear E214
    have P225 := Lib.hid (P216.out.gr hg (by have z := Z222.out; omega))
    clear P216
    have G226 := hgt hg G217 (fun _ => by have z := Z222.out; omega)
    clear G217
    have Z227 := hzz hg Z222
    have O228 := HOWN
    clear hg HOWN HGA HQ2 HAT O215
    by_cases hw4 : txt r1 = [44]
    ·skip
     have hq := HR207.out
     rw [if_pos hw4] at hq
     have HR229 := Lib.hid hq
     clear hq HR207
     have hl0 := drop_len r1
     have HLR := Lib.hid R203.out.len
     have HL0 := Lib.hid hl0
     clear hl0
     have R230 := Lib.hid (R203.out.drop (txt_kind hw4 (by decide)))
     go_wp2_with (go_at_call 32; fail)
     refine (take_yes P225.out R203.out ((headS_txt R203.out (by decide) (by decide) (by decide) (by decide)).2 hw4) (txt_kind hw4 (by decide))).mono ?_
     rintro e w8 ⟨rfl, hp, hg⟩
     have P231 := Lib.hid hp
     have E232 := hkRB hg (by have z := Z227.out; omega) E224
     clear E224
     have O233 := Lib.hid (Ow.gr O228.out hg (by have z := Z227.out; omega))
     clear O228
     clear P225
     have G234 := Lib.hid (gr_trans G226.out hg)
     clear G226
     have Z235 := hzz hg Z227
     clear hg hp
     clear R203
     generalize ((r1).drop 1) = r236 at *
     go_wp2_with fail
     go_roundw
     case rel => exact ⟨true, _, _, f2, rfl, fun _ => ⟨HR229.out, (by have z := Z235.out; have := HL0.out; have := HLR.out; have := HFC.out; have := LR.out; omega)⟩, (fun h => by cases h), (by have z := Z235.out; have := HL0.out; have := HLR.out; have := HLEN.out; have := LR.out; simp only [List.length_append, List.length_cons, List.length_nil]; omega), R230.out, P231.out, O233.out, G234.out⟩
     case measure => rw [NLEN.out, P231.out.len]; have z := Z235.out; have := HL0.out; have := HLR.out; have := LR.out; omega
    ·skip
     have hq := HR207.out
     rw [if_neg hw4, bind_okE] at hq
     have HR229 := Lib.hid hq
     clear hq HR207
     go_wp2_with (go_at_call 32; fail)
     refine (take_no P225.out R203.out (mt (headS_txt R203.out (by decide) (by decide) (by decide) (by decide)).1 hw4)).mono ?_
     rintro e w8 ⟨rfl, hb⟩
     have hg := gr_of (row := some w7.heap.size) hb
     have E230 := hkRB hg (by have z := Z227.out; omega) E224
     clear E224
     have O231 := Lib.hid (Ow.gr O228.out hg (by have z := Z227.out; omega))
     clear O228
     have P232 := Lib.hid (P225.out.gr hg (by have z := Z227.out; omega))
     clear P225
     have G233 := hgt hg G226 (fun _ => by have z := Z227.out; omega)
     clear G226
     have Z234 := hzz hg Z227
     clear hg hb
     go_wp2_with fail
     go_roundw
     case rel => exact ⟨false, _, _, f2, rfl, (fun h => by cases h), fun _ => HR229.out, (by have z := Z234.out; have := HLEN.out; have := LR.out; simp only [List.length_append, List.length_cons, List.length_nil]; omega), R203.out, P232.out, O231.out, G233.out⟩
     case measure => rw [NLEN.out, P232.out.len]; have z := Z234.out; have := LR.out; omega
end
end Go.Proofs.YtbcpkhegmbdifaaGreat.tr
/- The landed parser's blocks of statements, over what the statements in them give. Condition: at most 6000 signs. -/
namespace Go.Proofs.YtbcpkhegmbdifaaGreat.tr
open Go.ChangeShapes Go.WideShapes Go.ChangeAt Go.RowKit Go.Proofs.YtbcpkhegmbdifaaGreat.k Go.Proofs.YtbcpkhegmbdifaaGreat.rr Go.Proofs.YtbcpkhegmbdifaaGreat.tk
set_option linter.unusedVariables false

/-- a statement in new blocks -/
def GotS (x : St) (w w' : World) (v : Value) : Prop := ∃ h : SH, v = .agg (sC h).toArray ∧ StB w' (Nw w.heap.size w'.heap.size) x h
/-- statements in new blocks -/
def GotB (l : List St) (w w' : World) (v : Value) : Prop := ∃ s : Sl, v = s.v ∧ StLB w' (Nw w.heap.size w'.heap.size) s l
/-- what a statement's method gives, in any world -/
def SCtr (P : Program) (fn : FuncId) (p : Res St) (d : Nat) (r : Sg) : Prop := ∀ (V : Value) (g : Nat) (w : World), Par w g r V d → Calls P fn #[.pointer (some ⟨g, 0, none⟩)] w (Gv g V d w GotS p)
/-- statements up to a sign -/
def runF (stop : Sg → Bool) : Nat → Nat → Sg → List St → Res (List St)
 | 0, _, r, _ => fail 99 r
 | f + 1, d, r, acc => if stop r = true then .ok acc r else (stmtF f d r).bind fun s r' => runF stop f d r' (acc ++ [s])
theorem stmts_run (ends : List Str) : ∀ (f d : Nat) (r : Sg) (acc : List St), stmtsF f d ends r acc = runF (fun r => oneOf (txt r) ends) f d r acc
 | 0, _, _, _ => by rw [stmtsF, runF]
 | f + 1, d, r, acc => by
  rw [stmtsF, runF]
  congr 2
  funext s r'
  exact stmts_run ends f d r' _
/-- the ends of a block of a CASE -/
def caseEnd (r : Sg) : Bool := decide ((hd r).kind = 3 ∨ oneOf (txt r) [[45], [69, 76, 83, 69], [69, 78, 68, 95, 67, 65, 83, 69]] = true)
theorem block_run : ∀ (f d : Nat) (r : Sg) (acc : List St), blockF f d r acc = runF caseEnd f d r acc
 | 0, _, _, _ => by rw [blockF, runF]
 | f + 1, d, r, acc => by
  rw [blockF, runF]
  have : caseEnd r = true ↔ ((hd r).kind = 3 ∨ oneOf (txt r) [[45], [69, 76, 83, 69], [69, 78, 68, 95, 67, 65, 83, 69]] = true) := by unfold caseEnd; simp
  by_cases h : caseEnd r = true
  ·rw [if_pos (this.1 h), if_pos h]
  ·rw [if_neg (mt this.2 h), if_neg h]
   congr 1
   funext s r'
   exact block_run f d r' _
theorem stsB_len {w : World} {S : Nat → Prop} : ∀ {L : List St} {H : List SH}, StsB w S L H → H.length = L.length
 | [], _, e => by
  unfold StsB at e
  subst e
  rfl
 | x :: L, _, e => by
  unfold StsB at e
  obtain ⟨g, H', e, h1, h2⟩ := e
  rw [e, List.length_cons, List.length_cons, stsB_len h2]
theorem stmts_slice : Tryz.prog.underlying 24 = some (.slice 44) := by kernel_rfl
theorem stmt_info : (Tryz.prog.info? 44).map (fun i => (i.zero, i.size, i.bytes)) = some (some (.agg #[.int .i64 0, .string ⟨#[]⟩, .int .i64 0, .int .i64 0, .string ⟨#[]⟩, .string ⟨#[]⟩, .slice none 0 0, .int .i64 0, .int .i64 0, .int .i64 0, .string ⟨#[]⟩, .string ⟨#[]⟩, .slice none 0 0, .int .i64 0, .slice none 0 0, .slice none 0 0, .slice none 0 0, .slice none 0 0, .int .i64 0]), 19, 288) := by kernel_rfl
theorem bs_S (h : SH) (w : World) : (Instr.buildSlice 24 1 #[(0, .agg (sC h).toArray)]).run Tryz.prog w = .ok (.slice (some ⟨w.heap.size, 0, none⟩) 1 1) (w.alloc (.cells (sC h).toArray 44)) := by kernel_rfl
section
variable {r : Sg} {V : Value} {d g : Nat} {w : World}

set_option maxRecDepth 100000 in
set_option maxHeartbeats 4000000 in
theorem block_any (hP : Par w g r V d) (hr : RowOk r) (hl : r.length ≤ 6000) {f : Nat} (hf : 20 * r.length + 12 ≤ f) (ends : List Str) (stop : Sg → Bool) (hst : ∀ r, RowOk r → ends.contains (headS (tr.hd r)) = stop r) {e n : Nat} (he1 : g < e) (he2 : e < w.heap.size) (hE : RB tC1 1 w (Nw e (e + 1)) ⟨some ⟨e, 0, none⟩, n, n⟩ ends)
  (HS : ∀ f' r', f' < f → r'.length ≤ r.length → RowOk r' → 20 * r'.length + 11 ≤ f' → SCtr Tryz.prog 35 (stmtF f' d r') d r') :
  Calls Tryz.prog 20 #[.pointer (some ⟨g, 0, none⟩), .slice (some ⟨e, 0, none⟩) n n] w (Gv g V d w GotB (runF stop f d r [])) := by
 obtain ⟨R, hR⟩ : ∃ R : Res (List St), (runF stop f d r []) = R := ⟨_, rfl⟩
 rw [hR]
 have HR := Lib.hid hR
 clear hR
 have HL := Lib.hid hl
 have HF := Lib.hid hf
 have HST := Lib.hid hst
 have HSS := Lib.hid HS
 have E1 := Lib.hid hE
 clear hl hf hst HS hE
 have P1 := Lib.hid hP
 have G1 := Lib.hid (gr_refl w (some g))
 have R1 := Lib.hid hr
 have Z1 := Lib.hid (show g < w.heap.size from hP.lt)
 clear hP hr
 have Z2 := Lib.hid (And.intro (show g < e from he1) Z1.out)
 have Z3 := Lib.hid (And.intro (show e < w.heap.size from he2) Z2.out)
 clear he1 he2
 go_enter Tryz.func20, Tryz.ntmps20
 go_upto_region 2 with (fail)
 go_loopw [5] (fun v wr => ∃ (acc : List St) (H : List SH) (r' : Sg) (fc : Nat), runF stop fc d r' acc = R ∧ fc ≤ f ∧ 20 * r'.length + 12 ≤ fc ∧ acc.length + r'.length ≤ r.length ∧ RowOk r' ∧ Par wr g r' V d ∧ RB tC1 1 wr (Nw e (e + 1)) ⟨some ⟨e, 0, none⟩, n, n⟩ ends ∧ Ow sC 19 44 wr w.heap.size v H ∧ StsB wr (Ny w.heap.size wr.heap.size [v]) acc H ∧ w.grownBy wr (some g)) (fun _ wr => rowLen wr g)
 case atStart => exact ⟨[], [], r, f, HR.out, Nat.le_refl _, HF.out, by simp, R1.out, P1.out, E1.out, Ow.nil _ _ _ _ _, StsB.nil, G1.out⟩
 case round =>
  obtain ⟨acc, H, r', fc, hR', hfc, hfu, hlen, hr', hP', hE', hO', hT', hG'⟩ := hrel
  clear P1 G1 R1 HR E1
  have P1 := Lib.hid hP'
  have O1 := Lib.hid hO'
  have OHD := Lib.hid hO'
  have E1 := Lib.hid hE'
  have E2 := Lib.hid hT'
  have G1 := Lib.hid hG'
  have R1 := Lib.hid hr'
  have HLEN := Lib.hid hlen
  have HFU := Lib.hid hfu
  have HFC := Lib.hid hfc
  have ZS := Lib.hid (And.intro hG'.size Z3.out)
  obtain ⟨f2, rfl⟩ : ∃ k, fc = k + 1 := ⟨fc - 1, by omega⟩
  rw [runF] at hR'
  have HR := Lib.hid hR'
  clear hP' hO' hG' hr' hlen hE' hT' hfu hfc hR'
  have NLEN := Lib.hid P1.out.len
  have HA := Lib.hid (head_any P1.out R1.out)
  have CA := Lib.hid fun W (h : Rd tC1 1 W (e + 1) (some ⟨e, 0, none⟩) n n ends) => contains_any ends (headS (tr.hd r')) h
  rw [HST.out r' R1.out] at CA
  unfold sv at HA CA
  generalize (⟨(headS (tr.hd r')).toArray⟩ : ByteArray) = XH at *
  obtain ⟨u, hu⟩ : ∃ u, stop r' = u := ⟨_, rfl⟩
  rw [hu] at CA
  go_wp2_with (go_at_call 28; fail)
  refine (HA.out).mono ?_
  rintro e w4 ⟨rfl, hb⟩
  have hg := gr_of (row := some wr.heap.size) hb
  have E201 := hkRB hg (by have z := ZS.out; omega) E1
  clear E1
  have E202 := Lib.hid (StsB.kept (kept_ny hg (Or.imp_right Or.inl (by have z := ZS.out; omega)) (by have z := ZS.out; omega)) E2.out)
  clear E2
  have O203 := Lib.hid (Ow.gr O1.out hg (by have z := ZS.out; omega))
  clear O1
  have P204 := Lib.hid (P1.out.gr hg (by have z := ZS.out; omega))
  clear P1
  have G205 := hgt hg G1 (fun _ => by have z := ZS.out; omega)
  clear G1
  have Z206 := hzz hg ZS
  clear hg hb
  go_wp2_with (go_at_call 34; fail)
  refine (CA.out _ (RB.toAt (fun b hb => hb.2) E201.out)).mono ?_
  rintro e9 w5 ⟨rfl, rfl⟩
  cases u
  ·skip
   have hq := HR.out
   rw [if_neg (by rw [hu]; decide)] at hq
   have HR207 := Lib.hid hq
   clear hq HR
   have SG := Lib.hid (HSS.out f2 r' (by have := HFC.out; omega) (by have := HLEN.out; omega) R1.out (by have := HFU.out; omega))
   have FI := Lib.hid ((finS f2).2.1 d r' (by have := HFU.out; omega))
   clear hu CA HA
   go_wp2_with (go_at_call 35; fail)
   refine (SG.out _ _ _ P204.out).mono ?_
   rintro e w6 hgv
   rcases hp : stmtF f2 d r' with ⟨x1, r1⟩ | ⟨n9, t9⟩
   rotate_left
   ·rw [hp] at hgv
    obtain ⟨rfl, hg⟩ := hgv
    have hq := HR207.out
    rw [hp] at hq
    go_wp2
    exact ⟨rfl, Gv.badOf hq.symm (gr_trans G205.out hg)⟩
   rw [hp] at hgv
   obtain ⟨⟨v9, rfl, hG⟩, hP9, hr9, hg⟩ := hgv
   have hq := HR207.out
   rw [hp] at hq
   try rw [bind_okE] at hq
   have HR208 := Lib.hid hq
   clear hq HR207
   have P209 := Lib.hid hP9
   have R210 := Lib.hid hr9
   have E211 := hkRB hg (by have z := Z206.out; omega) E201
   clear E201
   have E212 := Lib.hid (StsB.kept (kept_ny hg (Or.imp_right Or.inl (by have z := Z206.out; omega)) (by have z := Z206.out; omega)) E202.out)
   clear E202
   have O213 := Lib.hid (Ow.gr O203.out hg (by have z := Z206.out; omega))
   clear O203
   clear P204
   have G214 := Lib.hid (gr_trans G205.out hg)
   clear G205
   have Z215 := hzz hg Z206
   clear hg hP9 hr9 R1
   have L1 : Hid (r1.length < r'.length) := by
    have := FI.out
    rw [hp] at this
    exact Lib.hid this
   obtain ⟨h1, rfl, hE9⟩ := hG
   have E9 := Lib.hid hE9
   clear FI hp SG hE9
   have LM := Lib.hid (show H.length + [h1].length ≤ 20000 by have := stsB_len E212.out; have := HLEN.out; have := HL.out; simp; omega)
   have Z216 := Lib.hid (And.intro (show w.heap.size ≤ w6.heap.size from (by have z := Z215.out; omega)) Z215.out)
   go_wp2_with (first | ((with_reducible refine m_slice1 (enc := sC) (z := 19) h1 24 44 13 (.agg (sC h1).toArray) (sC h1).toArray ?_ ?_ ?_ (bs_S h1) ?_ ?_); rfl; rfl; rfl; rfl; intro w7 hrb hb1 hz1; have HRB := Lib.hid hrb; have HB1 := Lib.hid hb1; have HZ1 := Lib.hid hz1; clear hrb hb1 hz1) | (at_builtin; refine wpList_append_row sC_len (by decide) sC_one stmts_slice stmt_info rfl (by decide) _ rfl (.tmp 11) (.tmp 14) rfl w.heap.size u5 H rfl (O213.out.under HB1.out) (w6.heap.size + 1) (some ⟨w6.heap.size, 0, none⟩) 1 1 [h1] rfl (RB.toAt (fun b hb => hb.2) HRB.out) LM.out (Nat.le_trans Z216.out.1 HB1.out.size) ?_; intro v8 w8 hown hgA hat; have HOWN := Lib.hid hown; have HGA := Lib.hid hgA; have HAT := Lib.hid hat; clear hown hgA hat))
   have hg := gr_of (row := some w6.heap.size) HB1.out
   have Z217 := Lib.hid (And.intro HZ1.out Z216.out)
   have E218 := HRB
   clear HZ1 HRB
   have E219 := hkRB hg (by have z := Z216.out; omega) E211
   clear E211
   have E220 := Lib.hid (StsB.kept (kept_ny hg (Or.imp_right Or.inl (by have z := Z216.out; omega)) (by have z := Z216.out; omega)) E212.out)
   clear E212
   have E221 := Lib.hid (StB.kept (kept_nw hg (by have z := Z216.out; omega) (by have z := Z216.out; omega) (Nat.le_refl _) (Nat.le_refl _)) E9.out)
   clear E9
   have O222 := Lib.hid (Ow.gr O213.out hg (by have z := Z216.out; omega))
   clear O213
   have P223 := Lib.hid (P209.out.gr hg (by have z := Z216.out; omega))
   clear P209
   have G224 := hgt hg G214 (fun _ => by have z := Z216.out; omega)
   clear G214
   have Z225 := hzz hg Z217
   clear hg HB1
   obtain ⟨v227, hv8⟩ : ∃ x, x = v8 := ⟨_, rfl⟩
   subst hv8
   obtain ⟨q9, hq1, hq2, hg⟩ := grow_q O222.out (by have z := Z225.out; omega) HGA.out
   have HQ2 := Lib.hid hq2
   have Z228 := Lib.hid (And.intro hq1 Z225.out)
   have Z229 := Lib.hid (And.intro (show q9 < wr.heap.size ∨ w7.heap.size ≤ q9 from hq2.imp (fun e => (Ow.lt OHD.out e).2) id) Z228.out)
   clear hq1 hq2
   have HOB230 := Lib.hid (show ∀ q0, v227.ownBlock = some q0 → q0 < wr.heap.size ∨ w7.heap.size ≤ q0 from fun q0 e0 => HAT.out.elim (fun h => .inl (Ow.lt OHD.out (h.symm.trans e0)).2) (fun h => .inr (by rw [h] at e0; injection e0 with e0; omega)))
   have E231 := Lib.hid (StsB.kept (kept_ny hg (HQ2.out.elim (fun e => .inr (.inr ⟨u5, by simp, e⟩)) (fun h => .inr (.inl (by have z := Z229.out; omega)))) (by have z := Z229.out; omega)) E220.out)
   have E232 := Lib.hid (StsB.kept (ny_ny (O := [u5]) (O' := [v227]) (Nat.le_refl _) (Nat.le_refl _) (by
    intro v0 hv0 q0 e0 hq0
    simp only [List.mem_cons, List.not_mem_nil, or_false] at hv0
    subst hv0
    rcases HAT.out with h | h
    ·exact ⟨_, by simp, h.symm.trans e0⟩
    ·rw [h] at e0; injection e0 with e0; exfalso; have z := Z229.out; omega)) E231.out)
   clear E220 E231
   have E233 := hkRB hg (by have z := Z229.out; omega) E219
   clear E219
   have E234 := Lib.hid (StB.kept (kept_nw hg (by have z := Z229.out; omega) (by have z := Z229.out; omega) (Nat.le_refl _) (Nat.le_refl _)) E221.out)
   clear E221
   have E235 := hkRB hg (by have z := Z229.out; omega) E218
   clear E218
   have P236 := Lib.hid (P223.out.gr hg (by have z := Z229.out; omega))
   clear P223
   have G237 := hgt hg G224 (fun _ => by have z := Z229.out; omega)
   clear G224
   have Z238 := hzz hg Z229
   have O239 := HOWN
   clear hg HOWN HGA HQ2 HAT O222
   go_roundw
   case rel => exact ⟨acc ++ [x1], _, r1, f2, HR208.out, (by have z := Z238.out; have := HFC.out; omega), (by have z := Z238.out; have := HFU.out; have := L1.out; omega), (by have z := Z238.out; have := HLEN.out; have := L1.out; simp only [List.length_append, List.length_cons, List.length_nil]; omega), R210.out, P236.out, E233.out, O239.out, StsB.snoc (StB.kept (nw_ny (O := [v227]) (by have z := Z238.out; omega) (by have z := Z238.out; omega) (by
    intro v0 hv0 q0 e0
    simp only [List.mem_cons, List.not_mem_nil, or_false] at hv0
    subst hv0
    have h9 := HOB230.out q0 e0; have z := Z238.out; omega)) E234.out) (StsB.kept (ny_ny (O := [v227]) (O' := [v227]) (Nat.le_refl _) (by have z := Z238.out; omega) (fun v hv q e hq => ⟨v, hv, e⟩)) E232.out), G237.out⟩
   case measure => rw [NLEN.out, P236.out.len]; have z := Z238.out; have := L1.out; omega
  ·skip
   have hq := HR.out
   rw [if_pos hu] at hq
   have HR207 := Lib.hid hq
   clear hq HR
   obtain ⟨s9, hs9⟩ := Ow.sl sC_len O203.out
   subst hs9
   obtain ⟨A9, l9, c9⟩ := s9
   go_wp2
   go_ret
   exact Gv.okOf HR207.out.symm ⟨⟨A9, l9, c9⟩, rfl, H, rb_own sC_len O203.out (Nat.le_refl _) (Nat.le_refl _), (StsB.kept (ny_nw (by have z := Z206.out; omega) (by have z := Z206.out; omega)) E202.out)⟩ P204.out R1.out G205.out
end
end Go.Proofs.YtbcpkhegmbdifaaGreat.tr
/- The landed parser's statements: statement, while, repeat and count, over what the parts give. No condition but what each line says. -/
namespace Go.Proofs.YtbcpkhegmbdifaaGreat.tr
open Go.ChangeShapes Go.WideShapes Go.ChangeAt Go.RowKit Go.Proofs.YtbcpkhegmbdifaaGreat.k Go.Proofs.YtbcpkhegmbdifaaGreat.rr Go.Proofs.YtbcpkhegmbdifaaGreat.tk
set_option linter.unusedVariables false

def setLine : St → Nat → St
 | .mk op nm dst val conds labels fields blocks _, ln => .mk op nm dst val conds labels fields blocks ln
/-- a statement without its line -/
def GotW (s : Nat → St) (w w' : World) (v : Value) : Prop := (∀ ln, s ln = setLine (s 0) ln) ∧ GotS (s 0) w w' v
/-- what a method that gives a statement without its line does, in any world -/
def WCtr (P : Program) (fn : FuncId) (p : Res (Nat → St)) (d : Nat) (r : Sg) : Prop := ∀ (V : Value) (g : Nat) (w : World), Par w g r V d → Calls P fn #[.pointer (some ⟨g, 0, none⟩)] w (Gv g V d w GotW p)
/-- what block gives, in any world -/
def BCtr (P : Program) (fn : FuncId) (ends : List Str) (p : Res (List St)) (d : Nat) (r : Sg) : Prop := ∀ (V : Value) (g : Nat) (w : World) (e : Nat), Par w g r V d → g < e → e < w.heap.size → RB tC1 1 w (Nw e (e + 1)) ⟨some ⟨e, 0, none⟩, ends.length, ends.length⟩ ends →
 Calls P fn #[.pointer (some ⟨g, 0, none⟩), .slice (some ⟨e, 0, none⟩) ends.length ends.length] w (Gv g V d w GotB p)
/-- words that are no kind's -/
def wordsB (ends : List Str) : Bool := ends.all fun e => e != nameS && e != numS && e != endS && e != []
theorem stB_line {w : World} {S : Nat → Prop} {x : St} {h : SH} (hx : StB w S x h) (ln : Nat) : StB w S (setLine x ln) { h with line := ln } := by
 obtain ⟨op, nm, dst, val, conds, labels, fields, blocks, l0⟩ := x
 unfold StB at hx
 show StB w S (.mk op nm dst val conds labels fields blocks ln) _
 unfold StB
 exact ⟨hx.1, hx.2.1, rfl, hx.2.2.2⟩
theorem rb_many (w : World) (e : TypeId) (L : List Str) (cs : Array Value) (hc : cs.toList = L.map sv) {a b : Nat} (ha : a ≤ w.heap.size) (hb : w.heap.size + 1 ≤ b) (hl : L.length ≤ 20 := by decide) : RB tC1 1 (w.alloc (.cells cs e)) (Nw a b) ⟨some ⟨w.heap.size, 0, none⟩, L.length, L.length⟩ L := by
 refine ⟨rfl, Nat.le_refl _, by show L.length ≤ maxLen; unfold maxLen; omega, (fun h => by cases h), fun _ => ⟨_, 0, rfl, ⟨ha, by omega⟩, fun i u hu j v hv => ?_⟩⟩
 have hj : j = 0 := by
  have := (List.getElem?_eq_some_iff.1 hv).1
  rw [tC1_len] at this
  omega
 subst hj
 rw [World.cell?_alloc_mark]
 have hv : sv u = v := by simpa [tC1] using hv
 have : cs[0 + i * 1 + 0]? = (L.map sv)[i]? := by rw [← hc]; simp
 rw [this, List.getElem?_map, hu, ← hv]
 rfl
theorem bs_L (s : Sl) (w : World) : (Instr.buildSlice 42 1 #[(0, s.v)]).run Tryz.prog w = .ok (.slice (some ⟨w.heap.size, 0, none⟩) 1 1) (w.alloc (.cells (slC s).toArray 24)) := by kernel_rfl
theorem bd_val (o : Int) (h : EH) (w : World) : (Instr.build 44 #[(0, .int .i64 o), (3, .agg (eC h).toArray)]).run Tryz.prog w = .ok (.agg (sC ⟨o, [], ⟨0, 0, [], [], ⟨none, 0, 0⟩, 0⟩, h, ⟨none, 0, 0⟩, ⟨none, 0, 0⟩, ⟨none, 0, 0⟩, ⟨none, 0, 0⟩, 0⟩).toArray) w := by kernel_rfl
theorem bd_set (o : Int) (h h' : EH) (w : World) : (Instr.build 44 #[(0, .int .i64 o), (2, .agg (eC h).toArray), (3, .agg (eC h').toArray)]).run Tryz.prog w = .ok (.agg (sC ⟨o, [], h, h', ⟨none, 0, 0⟩, ⟨none, 0, 0⟩, ⟨none, 0, 0⟩, ⟨none, 0, 0⟩, 0⟩).toArray) w := by kernel_rfl
/-- cells one behind the other, from one on -/
def setsL (vs : List Value) : Nat → List Value → List Value
 | _, [] => vs
 | i, u :: us => setsL (vs.set i u) (i + 1) us
theorem box_putsAt {g : Nat} : ∀ (us : List Value) (i : Nat) (vs : List Value) (w : World), Box w g 0 vs → i + us.length ≤ vs.length → Box (k.puts w g i us) g 0 (setsL vs i us)
 | [], _, _, _, h, _ => h
 | u :: us, i, vs, w, h, hl => by
  rw [List.length_cons] at hl
  exact box_putsAt us (i + 1) _ _ (h.put i (by omega) u) (by rw [List.length_set]; omega)
section
variable {P : Program} {ops : Array Oper} {rest : List Oper} {op : Oper} {a : Act} {w : World} {Q : Exit → Act → World → Prop}
/-- a whole value goes into a part of a variable -/
theorem m_storeAt {g o : Nat} {vs : List Value} (hb : k.Box w g 0 vs) (T : TypeId) (t u : Nat) (ho : op.op = .store T (.tmp t) (.tmp u)) (hg : op.guard = none) (hd : op.dst = none) (cs : List Value) (hx : a.eval (.tmp t) = .pointer (some ⟨g, o, none⟩)) (hy : a.eval (.tmp u) = .agg cs.toArray)
  (hl : o + cs.length ≤ vs.length) (hi : (P.info? T).map (·.size) = some cs.length) (h1 : ∀ v ∈ cs, v.oneCell' = true)
  (h : ∀ w', k.Box w' g 0 (setsL vs o cs) → w.grownBy w' (some g) → w'.heap.size = w.heap.size → wpList P ops Q rest a w') : wpList P ops Q (op :: rest) a w := by
 refine wpList_store_mid hg T (.tmp t) (.tmp u) ho g o cs.toArray hx hy ?_ (by rw [List.size_toArray]; exact hi) (all_oneCell_toArray h1) ?_
 ·intro j hj
  rw [List.size_toArray] at hj
  obtain ⟨v, hv⟩ : ∃ v, vs[o + j]? = some v := ⟨_, List.getElem?_eq_getElem (by omega)⟩
  have := cell_of hb hv
  exact ⟨by rw [this.1]; rfl, this.2⟩
 ·rw [hd]
  show wpList _ _ _ _ a (World.setCells _ _ _ cs)
  rw [k.setCells_puts]
  refine h _ (box_putsAt cs o vs w hb hl) (gr_puts cs o w) ?_
  have : ∀ (us : List Value) (o : Nat) (w : World), (k.puts w g o us).heap.size = w.heap.size := by
   intro us
   induction us with
   | nil => intro o w; rfl
   | cons u us ih => intro o w; exact (ih (o + 1) _).trans (set_size _ _ _)
  exact this cs o w
/-- a value is made of two parts -/
theorem m_build2 (T i j : Nat) (x y : Operand) (X Y v : Value) (ho : op.op = .build T #[(i, x), (j, y)]) (hg : op.guard = none) (hx : a.eval x = X) (hy : a.eval y = Y) (hrun : ∀ w, (Instr.build T #[(i, X), (j, Y)]).run P w = .ok v w)
  (h : wpList P ops Q rest (a.put op.dst v) w) : wpList P ops Q (op :: rest) a w := by
 refine wpList_plain hg fun K hK => ?_
 unfold Oper.wp execOp
 simp only [ho, List.map_toArray, List.map_cons, List.map_nil, hx, hy, hrun, Sem.run_bind, Result.andThen_ok]
 exact hK _ _ h
end
section
variable {r : Sg} {V : Value} {d g : Nat} {w : World}

set_option maxRecDepth 100000 in
set_option maxHeartbeats 4000000 in
theorem statement_any (hP : Par w g r V d) (hr : RowOk r) (hd : d ≤ 32) (f : Nat) (HW : d < 32 → WCtr Tryz.prog 54 (whatF f (d + 1) r) (d + 1) r) :
  Calls Tryz.prog 35 #[.pointer (some ⟨g, 0, none⟩)] w (Gv g V d w GotS (stmtF (f + 1) d r)) := by
 obtain ⟨R, hR⟩ : ∃ R : Res St, (stmtF (f + 1) d r) = R := ⟨_, rfl⟩
 rw [hR]
 have HR := Lib.hid hR
 clear hR
 have HWW := Lib.hid HW
 have f3 := tok_f3 (tr.hd r)
 clear HW
 have P1 := Lib.hid hP
 have G1 := Lib.hid (gr_refl w (some g))
 have R1 := Lib.hid hr
 have Z1 := Lib.hid (show g < w.heap.size from hP.lt)
 clear hP hr
 have hq := HR.out
 rw [stmtF] at hq
 have HR2 := Lib.hid hq
 clear hq HR
 go_enter Tryz.func35, Tryz.ntmps35
 go_upto_region 1 with (fail)
 have hb := (Below.refl w.heap.size w).alloc (Nat.le_refl _) (.cells #[.int .i64 0, .string ⟨#[]⟩, .int .i64 0, .int .i64 0, .string ⟨#[]⟩, .string ⟨#[]⟩, .slice none 0 0, .int .i64 0, .int .i64 0, .int .i64 0, .string ⟨#[]⟩, .string ⟨#[]⟩, .slice none 0 0, .int .i64 0, .slice none 0 0, .slice none 0 0, .slice none 0 0, .slice none 0 0, .int .i64 0] 44)
 have hx := Box.new w #[.int .i64 0, .string ⟨#[]⟩, .int .i64 0, .int .i64 0, .string ⟨#[]⟩, .string ⟨#[]⟩, .slice none 0 0, .int .i64 0, .int .i64 0, .int .i64 0, .string ⟨#[]⟩, .string ⟨#[]⟩, .slice none 0 0, .int .i64 0, .slice none 0 0, .slice none 0 0, .slice none 0 0, .slice none 0 0, .int .i64 0] 44
 have hz : (w.alloc (.cells #[.int .i64 0, .string ⟨#[]⟩, .int .i64 0, .int .i64 0, .string ⟨#[]⟩, .string ⟨#[]⟩, .slice none 0 0, .int .i64 0, .int .i64 0, .int .i64 0, .string ⟨#[]⟩, .string ⟨#[]⟩, .slice none 0 0, .int .i64 0, .slice none 0 0, .slice none 0 0, .slice none 0 0, .slice none 0 0, .int .i64 0] 44)).heap.size = w.heap.size + 1 := by simp
 generalize w.alloc (.cells #[.int .i64 0, .string ⟨#[]⟩, .int .i64 0, .int .i64 0, .string ⟨#[]⟩, .string ⟨#[]⟩, .slice none 0 0, .int .i64 0, .int .i64 0, .int .i64 0, .string ⟨#[]⟩, .string ⟨#[]⟩, .slice none 0 0, .int .i64 0, .slice none 0 0, .slice none 0 0, .slice none 0 0, .slice none 0 0, .int .i64 0] 44) = w4 at *
 have hg := gr_of (row := some w.heap.size) hb
 have Z3 := Lib.hid (And.intro hz Z1.out)
 have X4 := Lib.hid hx
 clear hb hx hz
 have P5 := Lib.hid (P1.out.gr hg (by have z := Z1.out; omega))
 clear P1
 have G6 := hgt hg G1 (fun _ => by have z := Z1.out; omega)
 clear G1
 have Z7 := hzz hg Z3
 clear hg
 by_cases h32 : d = 32
 ·have hq := HR2.out
  rw [if_pos (by omega)] at hq
  go_wp2_with (go_at_call 53; fail)
  refine (enter_no P5.out R1.out h32).mono ?_
  rintro e w5 ⟨rfl, hb⟩
  go_wp2
  exact ⟨rfl, Gv.badOf hq.symm (gr_trans G6.out (gr_of hb))⟩
 have hq := HR2.out
 rw [if_neg (by omega)] at hq
 have HR8 := Lib.hid hq
 clear hq HR2
 go_wp2_with (go_at_call 53; fail)
 refine (enter_yes P5.out (by omega)).mono ?_
 rintro e w5 ⟨rfl, hp, hg⟩
 have P9 := Lib.hid hp
 have X10 := hbx hg (by have z := Z7.out; omega) X4
 clear X4
 clear P5
 have G11 := Lib.hid (gr_trans G6.out hg)
 clear G6
 have Z12 := hzz hg Z7
 clear hg hp
 go_wp2_with (go_at_call 30; fail)
 refine (next_any P9.out R1.out).mono ?_
 rintro e w6 ⟨rfl, hb⟩
 have hg := gr_of (row := some w5.heap.size) hb
 have X13 := hbx hg (by have z := Z12.out; omega) X10
 clear X10
 have P14 := Lib.hid (P9.out.gr hg (by have z := Z12.out; omega))
 clear P9
 have G15 := hgt hg G11 (fun _ => by have z := Z12.out; omega)
 clear G11
 have Z16 := hzz hg Z12
 clear hg hb
 go_wp2_with (go_at_call 54; fail)
 refine (HWW.out (by omega) _ _ _ P14.out).mono ?_
 rintro e w7 hgv
 rcases hp : whatF f (d + 1) r with ⟨x1, r1⟩ | ⟨n9, t9⟩
 rotate_left
 ·rw [hp] at hgv
  obtain ⟨rfl, hg⟩ := hgv
  have hq := HR8.out
  rw [hp] at hq
  go_wp2
  exact ⟨rfl, Gv.badOf hq.symm (gr_trans G15.out hg)⟩
 rw [hp] at hgv
 obtain ⟨⟨v9, rfl, hG⟩, hP9, hr9, hg⟩ := hgv
 have hq := HR8.out
 rw [hp] at hq
 try rw [bind_okE] at hq
 have HR17 := Lib.hid hq
 clear hq HR8
 have P18 := Lib.hid hP9
 have R19 := Lib.hid hr9
 have X20 := hbx hg (by have z := Z16.out; omega) X13
 clear X13
 clear P14
 have G21 := Lib.hid (gr_trans G15.out hg)
 clear G15
 have Z22 := hzz hg Z16
 clear hg hP9 hr9 R1
 obtain ⟨hlin, hG⟩ := hG
 have HLIN := Lib.hid hlin
 clear hlin
 obtain ⟨h23, rfl, hE9⟩ := hG
 have E24 := Lib.hid hE9
 clear hE9
 go_upto_region 4 with ((with_reducible refine m_new 44 4 11 ?_ ?_ ?_ (sC h23) ?_ ?_ ?_ ?_ (sC_one _) ?_); rfl; rfl; rfl; rfl; rfl; rfl; kernel_rfl; intro w8 hx hb hz)
 have hg := gr_of (row := some w7.heap.size) hb
 have Z26 := Lib.hid (And.intro hz Z22.out)
 have X27 := Lib.hid hx
 clear hb hx hz
 have X28 := hbx hg (by have z := Z22.out; omega) X20
 clear X20
 have E29 := Lib.hid (StB.kept (kept_nw hg (by have z := Z22.out; omega) (by have z := Z22.out; omega) (Nat.le_refl _) (Nat.le_refl _)) E24.out)
 clear E24
 have P30 := Lib.hid (P18.out.gr hg (by have z := Z22.out; omega))
 clear P18
 have G31 := hgt hg G21 (fun _ => by have z := Z22.out; omega)
 clear G21
 have Z32 := hzz hg Z26
 clear hg
 by_cases hs33 : txt (r1) = [59]
 rotate_left
 ·have hq := HR17.out
  rw [need_badE hs33] at hq
  go_wp2_with (go_at_call 18; fail)
  refine (need_no P30.out R19.out (mt (headS_txt R19.out (by decide) (by decide) (by decide) (by decide)).1 hs33)).mono ?_
  rintro e w9 ⟨rfl, hb⟩
  go_wp2
  exact ⟨rfl, Gv.badOf hq.symm (gr_trans G31.out (gr_of hb))⟩
 have hq := HR17.out
 rw [need_okE hs33, bind_okE] at hq
 have HR34 := Lib.hid hq
 clear hq HR17
 have R35 := Lib.hid (R19.out.drop (txt_kind hs33 (by decide)))
 go_wp2_with (go_at_call 18; fail)
 refine (need_yes P30.out R19.out ((headS_txt R19.out (by decide) (by decide) (by decide) (by decide)).2 hs33)).mono ?_
 rintro e w9 ⟨rfl, hp, hg⟩
 have P36 := Lib.hid hp
 have X37 := hbx hg (by have z := Z32.out; omega) X28
 clear X28
 have X38 := hbx hg (by have z := Z32.out; omega) X27
 clear X27
 have E39 := Lib.hid (StB.kept (kept_nw hg (by have z := Z32.out; omega) (by have z := Z32.out; omega) (Nat.le_refl _) (Nat.le_refl _)) E29.out)
 clear E29
 clear P30
 have G40 := Lib.hid (gr_trans G31.out hg)
 clear G31
 have Z41 := hzz hg Z32
 clear hg hp
 clear R19
 generalize ((r1).drop 1) = r42 at *
 go_wp2_with (go_at_call 55; fail)
 refine (leave_any P36.out (by omega)).mono ?_
 rintro e w10 ⟨rfl, hp, hg⟩
 have P43 := Lib.hid hp
 have X44 := hbx hg (by have z := Z41.out; omega) X37
 clear X37
 have X45 := hbx hg (by have z := Z41.out; omega) X38
 clear X38
 have E46 := Lib.hid (StB.kept (kept_nw hg (by have z := Z41.out; omega) (by have z := Z41.out; omega) (Nat.le_refl _) (Nat.le_refl _)) E39.out)
 clear E39
 clear P36
 have G47 := Lib.hid (gr_trans G40.out hg)
 clear G40
 have Z48 := hzz hg Z41
 clear hg hp
 have ⟨a18, k18⟩ := cell_of X45.out (i := 18) rfl
 go_upto_region 7 with (fail)
 clear a18 k18
 have hg := gr_set w10 (w7.heap.size) 18 (.int .i64 (tr.hd r).line)
 have hx : Box (w10.setCell ⟨w7.heap.size, 18, none⟩ (.int .i64 (tr.hd r).line)) (w7.heap.size) 0 (sC { h23 with line := (tr.hd r).line }) := Box.put X45.out 18 (show 18 < 19 by decide) (.int .i64 (tr.hd r).line)
 have hs : (w10.setCell ⟨w7.heap.size, 18, none⟩ (.int .i64 (tr.hd r).line)).heap.size = w10.heap.size := set_size _ _ _
 generalize w10.setCell ⟨w7.heap.size, 18, none⟩ (.int .i64 (tr.hd r).line) = w11 at *
 have X49 := Lib.hid hx
 have Z50 := Lib.hid (And.intro hs Z48.out)
 clear hx hs X45
 have X51 := hbx hg (by have z := Z48.out; omega) X44
 clear X44
 have E52 := Lib.hid (StB.kept (kept_nw hg (by have z := Z48.out; omega) (by have z := Z48.out; omega) (Nat.le_refl _) (Nat.le_refl _)) E46.out)
 clear E46
 have P53 := Lib.hid (P43.out.gr hg (by have z := Z48.out; omega))
 clear P43
 have G54 := hgt hg G47 (fun _ => by have z := Z48.out; omega)
 clear G47
 have Z55 := hzz hg Z50
 clear hg
 go_wp2_with (first | ((with_reducible refine m_load X49.out 44 4 ?_ ?_ ?_ ?_ ?_ ?_); rfl; rfl; rfl; rfl; kernel_rfl) | ((with_reducible refine m_store X51.out 44 2 18 ?_ ?_ ?_ (sC { h23 with line := (tr.hd r).line }) ?_ ?_ ?_ ?_ (sC_one _) ?_); rfl; rfl; rfl; rfl; rfl; rfl; kernel_rfl; intro w12 hx hg hs))
 have X56 := Lib.hid hx
 have Z57 := Lib.hid (And.intro hs Z55.out)
 clear hx hs X51
 have X58 := hbx hg (by have z := Z55.out; omega) X49
 clear X49
 have E59 := Lib.hid (StB.kept (kept_nw hg (by have z := Z55.out; omega) (by have z := Z55.out; omega) (Nat.le_refl _) (Nat.le_refl _)) E52.out)
 clear E52
 have P60 := Lib.hid (P53.out.gr hg (by have z := Z55.out; omega))
 clear P53
 have G61 := hgt hg G54 (fun _ => by have z := Z55.out; omega)
 clear G54
 have Z62 := hzz hg Z57
 clear hg
 refine bodyPost_ret (k.results_cell rfl rfl (run_loadVar_mid _ w.heap.size 0 44 _ _ X56.out.range rfl rfl (by kernel_rfl))) rfl ?_
 refine Gv.okOf HR34.out.symm ⟨{ h23 with line := (tr.hd r).line }, rfl, ?_⟩ P60.out R35.out G61.out
 rw [HLIN.out]
 exact stB_line (StB.kept (more_nw (by have z := Z62.out; omega) (by have z := Z62.out; omega)) E59.out) _
set_option maxRecDepth 100000 in
set_option maxHeartbeats 4000000 in
theorem while_any (hP : Par w g r V d) (hr : RowOk r) (hd : d ≤ 32) {f : Nat} (hf : 20 * r.length + 12 ≤ f) (HB : ∀ ends r1, wordsB ends = true → RowOk r1 → r1.length ≤ r.length → BCtr Tryz.prog 20 ends (stmtsF f d ends r1 []) d r1) :
  Calls Tryz.prog 72 #[.pointer (some ⟨g, 0, none⟩)] w (Gv g V d w GotW ((expr f d r).bind fun x r' => (need [68, 79] r').bind fun _ r' => (stmtsF f d [[69, 78, 68, 95, 87, 72, 73, 76, 69]] r' []).bind fun B r' => (need [69, 78, 68, 95, 87, 72, 73, 76, 69] r').bind fun _ r' => .ok (fun ln => St.mk 5 [] zeroE x [] [] [] [B] ln) r')) := by
 obtain ⟨R, hR⟩ : ∃ R : Res (Nat → St), ((expr f d r).bind fun x r' => (need [68, 79] r').bind fun _ r' => (stmtsF f d [[69, 78, 68, 95, 87, 72, 73, 76, 69]] r' []).bind fun B r' => (need [69, 78, 68, 95, 87, 72, 73, 76, 69] r').bind fun _ r' => .ok (fun ln => St.mk 5 [] zeroE x [] [] [] [B] ln) r') = R := ⟨_, rfl⟩
 rw [hR]
 have HR := Lib.hid hR
 clear hR
 have HBB := Lib.hid HB
 have HF := Lib.hid hf
 clear HB hf
 have P1 := Lib.hid hP
 have G1 := Lib.hid (gr_refl w (some g))
 have R1 := Lib.hid hr
 have Z1 := Lib.hid (show g < w.heap.size from hP.lt)
 clear hP hr
 go_enter Tryz.func72, Tryz.ntmps72
 go_upto_region 1 with (fail)
 have hb := (Below.refl w.heap.size w).alloc (Nat.le_refl _) (.cells #[.int .i64 0, .string ⟨#[]⟩, .int .i64 0, .int .i64 0, .string ⟨#[]⟩, .string ⟨#[]⟩, .slice none 0 0, .int .i64 0, .int .i64 0, .int .i64 0, .string ⟨#[]⟩, .string ⟨#[]⟩, .slice none 0 0, .int .i64 0, .slice none 0 0, .slice none 0 0, .slice none 0 0, .slice none 0 0, .int .i64 0] 44)
 have hx := Box.new w #[.int .i64 0, .string ⟨#[]⟩, .int .i64 0, .int .i64 0, .string ⟨#[]⟩, .string ⟨#[]⟩, .slice none 0 0, .int .i64 0, .int .i64 0, .int .i64 0, .string ⟨#[]⟩, .string ⟨#[]⟩, .slice none 0 0, .int .i64 0, .slice none 0 0, .slice none 0 0, .slice none 0 0, .slice none 0 0, .int .i64 0] 44
 have hz : (w.alloc (.cells #[.int .i64 0, .string ⟨#[]⟩, .int .i64 0, .int .i64 0, .string ⟨#[]⟩, .string ⟨#[]⟩, .slice none 0 0, .int .i64 0, .int .i64 0, .int .i64 0, .string ⟨#[]⟩, .string ⟨#[]⟩, .slice none 0 0, .int .i64 0, .slice none 0 0, .slice none 0 0, .slice none 0 0, .slice none 0 0, .int .i64 0] 44)).heap.size = w.heap.size + 1 := by simp
 generalize w.alloc (.cells #[.int .i64 0, .string ⟨#[]⟩, .int .i64 0, .int .i64 0, .string ⟨#[]⟩, .string ⟨#[]⟩, .slice none 0 0, .int .i64 0, .int .i64 0, .int .i64 0, .string ⟨#[]⟩, .string ⟨#[]⟩, .slice none 0 0, .int .i64 0, .slice none 0 0, .slice none 0 0, .slice none 0 0, .slice none 0 0, .int .i64 0] 44) = w4 at *
 have hg := gr_of (row := some w.heap.size) hb
 have Z2 := Lib.hid (And.intro hz Z1.out)
 have X3 := Lib.hid hx
 clear hb hx hz
 have P4 := Lib.hid (P1.out.gr hg (by have z := Z1.out; omega))
 clear P1
 have G5 := hgt hg G1 (fun _ => by have z := Z1.out; omega)
 clear G1
 have Z6 := hzz hg Z2
 clear hg
 have FI := Lib.hid (fin_expr (d := d) (f := f) (r := r) (by have z := Z6.out; have := HF.out; omega))
 go_wp2_with (go_at_call 84; fail)
 refine (expr_gets (f := f) (d := d) hd R1.out (by have z := Z6.out; have := HF.out; omega) _ _ _ P4.out).mono ?_
 rintro e w5 hgv
 rcases hp : expr f d r with ⟨x1, r1⟩ | ⟨n9, t9⟩
 rotate_left
 ·rw [hp] at hgv
  obtain ⟨rfl, hg⟩ := hgv
  have hq := HR.out
  rw [hp] at hq
  go_wp2
  exact ⟨rfl, Gv.badOf hq.symm (gr_trans G5.out hg)⟩
 rw [hp] at hgv
 obtain ⟨⟨v9, rfl, hG⟩, hP9, hr9, hg⟩ := hgv
 have hq := HR.out
 rw [hp] at hq
 try rw [bind_okE] at hq
 have HR7 := Lib.hid hq
 clear hq HR
 have P8 := Lib.hid hP9
 have R9 := Lib.hid hr9
 have X10 := hbx hg (by have z := Z6.out; omega) X3
 clear X3
 clear P4
 have G11 := Lib.hid (gr_trans G5.out hg)
 clear G5
 have Z12 := hzz hg Z6
 clear hg hP9 hr9 R1
 obtain ⟨h13, rfl, hE9⟩ := hG
 have E14 := Lib.hid hE9
 clear hE9
 have L16 : Hid (r1.length < r.length) := by
  have := FI.out
  rw [hp] at this
  exact Lib.hid this
 clear FI hp
 have L17 := Lib.hid (show r1.length ≤ r.length by have := L16.out; omega)
 go_upto_region 2 with (first | ((with_reducible refine m_build2 44 0 3 (.const (.int .i64 5)) (.tmp 5) (.int .i64 5) (.agg (eC h13).toArray) (.agg (sC ⟨5, [], ⟨0, 0, [], [], ⟨none, 0, 0⟩, 0⟩, h13, ⟨none, 0, 0⟩, ⟨none, 0, 0⟩, ⟨none, 0, 0⟩, ⟨none, 0, 0⟩, 0⟩).toArray) ?_ ?_ ?_ ?_ (bd_val 5 h13) ?_); rfl; rfl; rfl; rfl) | ((with_reducible refine m_new 44 3 6 ?_ ?_ ?_ (sC ⟨5, [], ⟨0, 0, [], [], ⟨none, 0, 0⟩, 0⟩, h13, ⟨none, 0, 0⟩, ⟨none, 0, 0⟩, ⟨none, 0, 0⟩, ⟨none, 0, 0⟩, 0⟩) ?_ ?_ ?_ ?_ (sC_one _) ?_); rfl; rfl; rfl; rfl; rfl; rfl; kernel_rfl; intro w6 hx hb hz))
 have hg := gr_of (row := some w5.heap.size) hb
 have Z18 := Lib.hid (And.intro hz Z12.out)
 have X19 := Lib.hid hx
 clear hb hx hz
 have X20 := hbx hg (by have z := Z12.out; omega) X10
 clear X10
 have E21 := hkExB hg (by have z := Z12.out; omega) E14
 clear E14
 have P22 := Lib.hid (P8.out.gr hg (by have z := Z12.out; omega))
 clear P8
 have G23 := hgt hg G11 (fun _ => by have z := Z12.out; omega)
 clear G11
 have Z24 := hzz hg Z18
 clear hg
 have L25 := Lib.hid (drop_len r1)
 by_cases hs26 : txt (r1) = [68, 79]
 rotate_left
 ·have hq := HR7.out
  rw [need_badE hs26] at hq
  go_wp2_with (go_at_call 18; fail)
  refine (need_no P22.out R9.out (mt (headS_txt R9.out (by decide) (by decide) (by decide) (by decide)).1 hs26)).mono ?_
  rintro e w7 ⟨rfl, hb⟩
  go_wp2
  exact ⟨rfl, Gv.badOf hq.symm (gr_trans G23.out (gr_of hb))⟩
 have hq := HR7.out
 rw [need_okE hs26, bind_okE] at hq
 have HR27 := Lib.hid hq
 clear hq HR7
 have R28 := Lib.hid (R9.out.drop (txt_kind hs26 (by decide)))
 go_wp2_with (go_at_call 18; fail)
 refine (need_yes P22.out R9.out ((headS_txt R9.out (by decide) (by decide) (by decide) (by decide)).2 hs26)).mono ?_
 rintro e w7 ⟨rfl, hp, hg⟩
 have P29 := Lib.hid hp
 have X30 := hbx hg (by have z := Z24.out; omega) X20
 clear X20
 have X31 := hbx hg (by have z := Z24.out; omega) X19
 clear X19
 have E32 := hkExB hg (by have z := Z24.out; omega) E21
 clear E21
 clear P22
 have G33 := Lib.hid (gr_trans G23.out hg)
 clear G23
 have Z34 := hzz hg Z24
 clear hg hp
 clear R9
 generalize ((r1).drop 1) = r35 at *
 have L36 := Lib.hid (show r35.length ≤ r.length by have := L25.out; have := L17.out; omega)
 have FI := Lib.hid (fin_stmts (d := d) (f := f) (r := r35) (ends := [[69, 78, 68, 95, 87, 72, 73, 76, 69]]) (ac := []) (by have z := Z34.out; have := HF.out; have := L36.out; omega))
 go_wp2_with (go_at_call 20; fail)
 have hb := (Below.refl w7.heap.size w7).alloc (Nat.le_refl _) (.cells #[.string ⟨#[69, 78, 68, 95, 87, 72, 73, 76, 69]⟩] 9)
 have hR : RB tC1 1 (w7.alloc (.cells #[.string ⟨#[69, 78, 68, 95, 87, 72, 73, 76, 69]⟩] 9)) (Nw w7.heap.size (w7.heap.size + 1)) ⟨some ⟨w7.heap.size, 0, none⟩, 1, 1⟩ [[69, 78, 68, 95, 87, 72, 73, 76, 69]] := rb_many w7 9 [[69, 78, 68, 95, 87, 72, 73, 76, 69]] #[.string ⟨#[69, 78, 68, 95, 87, 72, 73, 76, 69]⟩] rfl (Nat.le_refl _) (Nat.le_refl _)
 have hz : (w7.alloc (.cells #[.string ⟨#[69, 78, 68, 95, 87, 72, 73, 76, 69]⟩] 9)).heap.size = w7.heap.size + 1 := by simp
 generalize w7.alloc (.cells #[.string ⟨#[69, 78, 68, 95, 87, 72, 73, 76, 69]⟩] 9) = w8 at *
 have hg := gr_of (row := some w7.heap.size) hb
 have HZ1 := Lib.hid hz
 have HRB := Lib.hid hR
 clear hb hR hz
 have Z37 := Lib.hid (And.intro HZ1.out Z34.out)
 have E38 := HRB
 clear HZ1 HRB
 have X39 := hbx hg (by have z := Z34.out; omega) X30
 clear X30
 have X40 := hbx hg (by have z := Z34.out; omega) X31
 clear X31
 have E41 := hkExB hg (by have z := Z34.out; omega) E32
 clear E32
 have P42 := Lib.hid (P29.out.gr hg (by have z := Z34.out; omega))
 clear P29
 have G43 := hgt hg G33 (fun _ => by have z := Z34.out; omega)
 clear G33
 have Z44 := hzz hg Z37
 clear hg
 refine (HBB.out [[69, 78, 68, 95, 87, 72, 73, 76, 69]] r35 (by decide) R28.out L36.out _ _ _ _ P42.out (by have z := Z44.out; omega) (by have z := Z44.out; omega) E38.out).mono ?_
 rintro e w9 hgv
 rcases hp : stmtsF f d [[69, 78, 68, 95, 87, 72, 73, 76, 69]] r35 [] with ⟨B1, r2⟩ | ⟨n9, t9⟩
 rotate_left
 ·rw [hp] at hgv
  obtain ⟨rfl, hg⟩ := hgv
  have hq := HR27.out
  rw [hp] at hq
  go_wp2
  exact ⟨rfl, Gv.badOf hq.symm (gr_trans G43.out hg)⟩
 rw [hp] at hgv
 obtain ⟨⟨v9, rfl, hG⟩, hP9, hr9, hg⟩ := hgv
 have hq := HR27.out
 rw [hp] at hq
 try rw [bind_okE] at hq
 have HR46 := Lib.hid hq
 clear hq HR27
 have P47 := Lib.hid hP9
 have R48 := Lib.hid hr9
 have X49 := hbx hg (by have z := Z44.out; omega) X39
 clear X39
 have X50 := hbx hg (by have z := Z44.out; omega) X40
 clear X40
 have E51 := hkExB hg (by have z := Z44.out; omega) E41
 clear E41
 have E52 := hkRB hg (by have z := Z44.out; omega) E38
 clear E38
 clear P42
 have G53 := Lib.hid (gr_trans G43.out hg)
 clear G43
 have Z54 := hzz hg Z44
 clear hg hP9 hr9 R28
 obtain ⟨s55, rfl, hE9⟩ := hG
 have E56 := Lib.hid hE9
 clear hE9
 clear E52
 have L58 : Hid (r2.length < r35.length + 1) := by
  have := FI.out
  rw [hp] at this
  exact Lib.hid this
 clear FI hp
 have L59 := Lib.hid (show r2.length ≤ r.length by have := L58.out; have := L36.out; omega)
 go_upto_region 4 with ((with_reducible refine m_slice1 (enc := slC) (z := 1) s55 42 24 11 (Sl.v s55) (slC s55).toArray ?_ ?_ ?_ (bs_L s55) ?_ ?_); rfl; rfl; rfl; rfl; intro w10 hrb hb1 hz1; have HRB := Lib.hid hrb; have HB1 := Lib.hid hb1; have HZ1 := Lib.hid hz1; have ⟨a17, k17⟩ := cell_of (X50.out.below hb1 (by have z := Z54.out; omega)) (i := 17) rfl; clear hrb hb1 hz1)
 clear a17 k17
 have hg := gr_of (row := some w9.heap.size) HB1.out
 have Z60 := Lib.hid (And.intro HZ1.out Z54.out)
 have E61 := HRB
 clear HZ1 HRB
 have X62 := hbx hg (by have z := Z54.out; omega) X49
 clear X49
 have X63 := hbx hg (by have z := Z54.out; omega) X50
 clear X50
 have E64 := hkExB hg (by have z := Z54.out; omega) E51
 clear E51
 have E65 := hkStLB hg (by have z := Z54.out; omega) E56
 clear E56
 have P66 := Lib.hid (P47.out.gr hg (by have z := Z54.out; omega))
 clear P47
 have G67 := hgt hg G53 (fun _ => by have z := Z54.out; omega)
 clear G53
 have Z68 := hzz hg Z60
 clear hg HB1
 have hg := gr_set w10 (w5.heap.size) 17 (.slice (some ⟨w9.heap.size, 0, none⟩) 1 1)
 have hx : Box (w10.setCell ⟨w5.heap.size, 17, none⟩ (.slice (some ⟨w9.heap.size, 0, none⟩) 1 1)) (w5.heap.size) 0 (sC ⟨5, [], ⟨0, 0, [], [], ⟨none, 0, 0⟩, 0⟩, h13, ⟨none, 0, 0⟩, ⟨none, 0, 0⟩, ⟨none, 0, 0⟩, ⟨some ⟨w9.heap.size, 0, none⟩, 1, 1⟩, 0⟩) := Box.put X63.out 17 (show 17 < 19 by decide) (.slice (some ⟨w9.heap.size, 0, none⟩) 1 1)
 have hs : (w10.setCell ⟨w5.heap.size, 17, none⟩ (.slice (some ⟨w9.heap.size, 0, none⟩) 1 1)).heap.size = w10.heap.size := set_size _ _ _
 generalize w10.setCell ⟨w5.heap.size, 17, none⟩ (.slice (some ⟨w9.heap.size, 0, none⟩) 1 1) = w11 at *
 have X70 := Lib.hid hx
 have Z71 := Lib.hid (And.intro hs Z68.out)
 clear hx hs X63
 have X72 := hbx hg (by have z := Z68.out; omega) X62
 clear X62
 have E73 := hkExB hg (by have z := Z68.out; omega) E64
 clear E64
 have E74 := hkStLB hg (by have z := Z68.out; omega) E65
 clear E65
 have E75 := hkRB hg (by have z := Z68.out; omega) E61
 clear E61
 have P76 := Lib.hid (P66.out.gr hg (by have z := Z68.out; omega))
 clear P66
 have G77 := hgt hg G67 (fun _ => by have z := Z68.out; omega)
 clear G67
 have Z78 := hzz hg Z71
 clear hg
 by_cases hs79 : txt (r2) = [69, 78, 68, 95, 87, 72, 73, 76, 69]
 rotate_left
 ·have hq := HR46.out
  rw [need_badE hs79] at hq
  go_wp2_with (go_at_call 18; fail)
  refine (need_no P76.out R48.out (mt (headS_txt R48.out (by decide) (by decide) (by decide) (by decide)).1 hs79)).mono ?_
  rintro e w12 ⟨rfl, hb⟩
  go_wp2
  exact ⟨rfl, Gv.badOf hq.symm (gr_trans G77.out (gr_of hb))⟩
 have hq := HR46.out
 rw [need_okE hs79, bind_okE] at hq
 have HR80 := Lib.hid hq
 clear hq HR46
 have R81 := Lib.hid (R48.out.drop (txt_kind hs79 (by decide)))
 go_wp2_with (go_at_call 18; fail)
 refine (need_yes P76.out R48.out ((headS_txt R48.out (by decide) (by decide) (by decide) (by decide)).2 hs79)).mono ?_
 rintro e w12 ⟨rfl, hp, hg⟩
 have P82 := Lib.hid hp
 have X83 := hbx hg (by have z := Z78.out; omega) X72
 clear X72
 have X84 := hbx hg (by have z := Z78.out; omega) X70
 clear X70
 have E85 := hkExB hg (by have z := Z78.out; omega) E73
 clear E73
 have E86 := hkStLB hg (by have z := Z78.out; omega) E74
 clear E74
 have E87 := hkRB hg (by have z := Z78.out; omega) E75
 clear E75
 clear P76
 have G88 := Lib.hid (gr_trans G77.out hg)
 clear G77
 have Z89 := hzz hg Z78
 clear hg hp
 clear R48
 generalize ((r2).drop 1) = r90 at *
 go_wp2_with (first | ((with_reducible refine m_load X84.out 44 3 ?_ ?_ ?_ ?_ ?_ ?_); rfl; rfl; rfl; rfl; kernel_rfl) | ((with_reducible refine m_store X83.out 44 2 16 ?_ ?_ ?_ (sC ⟨5, [], ⟨0, 0, [], [], ⟨none, 0, 0⟩, 0⟩, h13, ⟨none, 0, 0⟩, ⟨none, 0, 0⟩, ⟨none, 0, 0⟩, ⟨some ⟨w9.heap.size, 0, none⟩, 1, 1⟩, 0⟩) ?_ ?_ ?_ ?_ (sC_one _) ?_); rfl; rfl; rfl; rfl; rfl; rfl; kernel_rfl; intro w13 hx hg hs))
 have X91 := Lib.hid hx
 have Z92 := Lib.hid (And.intro hs Z89.out)
 clear hx hs X83
 have X93 := hbx hg (by have z := Z89.out; omega) X84
 clear X84
 have E94 := hkExB hg (by have z := Z89.out; omega) E85
 clear E85
 have E95 := hkStLB hg (by have z := Z89.out; omega) E86
 clear E86
 have E96 := hkRB hg (by have z := Z89.out; omega) E87
 clear E87
 have P97 := Lib.hid (P82.out.gr hg (by have z := Z89.out; omega))
 clear P82
 have G98 := hgt hg G88 (fun _ => by have z := Z89.out; omega)
 clear G88
 have Z99 := hzz hg Z92
 clear hg
 refine bodyPost_ret (k.results_cell rfl rfl (run_loadVar_mid _ w.heap.size 0 44 _ _ X91.out.range rfl rfl (by kernel_rfl))) rfl ?_
 refine Gv.okOf HR80.out.symm ⟨fun _ => rfl, ⟨5, [], ⟨0, 0, [], [], ⟨none, 0, 0⟩, 0⟩, h13, ⟨none, 0, 0⟩, ⟨none, 0, 0⟩, ⟨none, 0, 0⟩, ⟨some ⟨w9.heap.size, 0, none⟩, 1, 1⟩, 0⟩, rfl, ?_⟩ P97.out R81.out G98.out
 unfold StB
 exact ⟨rfl, rfl, rfl, zeroE_B _ _, (ExB.kept (more_nw (by have z := Z99.out; omega) (by have z := Z99.out; omega)) E94.out), ExLB.none_ _ _, ⟨[], RB.none_ _ _ _ _, rfl⟩, RB.none_ _ _ _ _, [s55], (RB.kept (more_nw (by have z := Z99.out; omega) (by have z := Z99.out; omega)) E96.out), BlksB.snoc (StLB.kept (more_nw (by have z := Z99.out; omega) (by have z := Z99.out; omega)) E95.out) BlksB.nil⟩
set_option maxRecDepth 100000 in
set_option maxHeartbeats 4000000 in
theorem repeat_any (hP : Par w g r V d) (hr : RowOk r) (hd : d ≤ 32) {f : Nat} (hf : 20 * r.length + 12 ≤ f) (HB : ∀ ends r1, wordsB ends = true → RowOk r1 → r1.length ≤ r.length → BCtr Tryz.prog 20 ends (stmtsF f d ends r1 []) d r1) :
  Calls Tryz.prog 73 #[.pointer (some ⟨g, 0, none⟩)] w (Gv g V d w GotW ((stmtsF f d [[85, 78, 84, 73, 76]] r []).bind fun B r' => (need [85, 78, 84, 73, 76] r').bind fun _ r' => (expr f d r').bind fun x r' => (need [69, 78, 68, 95, 82, 69, 80, 69, 65, 84] r').bind fun _ r' => .ok (fun ln => St.mk 6 [] zeroE x [] [] [] [B] ln) r')) := by
 obtain ⟨R, hR⟩ : ∃ R : Res (Nat → St), ((stmtsF f d [[85, 78, 84, 73, 76]] r []).bind fun B r' => (need [85, 78, 84, 73, 76] r').bind fun _ r' => (expr f d r').bind fun x r' => (need [69, 78, 68, 95, 82, 69, 80, 69, 65, 84] r').bind fun _ r' => .ok (fun ln => St.mk 6 [] zeroE x [] [] [] [B] ln) r') = R := ⟨_, rfl⟩
 rw [hR]
 have HR := Lib.hid hR
 clear hR
 have HBB := Lib.hid HB
 have HF := Lib.hid hf
 clear HB hf
 have P1 := Lib.hid hP
 have G1 := Lib.hid (gr_refl w (some g))
 have R1 := Lib.hid hr
 have Z1 := Lib.hid (show g < w.heap.size from hP.lt)
 clear hP hr
 go_enter Tryz.func73, Tryz.ntmps73
 go_upto_region 1 with (fail)
 have hb := (Below.refl w.heap.size w).alloc (Nat.le_refl _) (.cells #[.int .i64 0, .string ⟨#[]⟩, .int .i64 0, .int .i64 0, .string ⟨#[]⟩, .string ⟨#[]⟩, .slice none 0 0, .int .i64 0, .int .i64 0, .int .i64 0, .string ⟨#[]⟩, .string ⟨#[]⟩, .slice none 0 0, .int .i64 0, .slice none 0 0, .slice none 0 0, .slice none 0 0, .slice none 0 0, .int .i64 0] 44)
 have hx := Box.new w #[.int .i64 0, .string ⟨#[]⟩, .int .i64 0, .int .i64 0, .string ⟨#[]⟩, .string ⟨#[]⟩, .slice none 0 0, .int .i64 0, .int .i64 0, .int .i64 0, .string ⟨#[]⟩, .string ⟨#[]⟩, .slice none 0 0, .int .i64 0, .slice none 0 0, .slice none 0 0, .slice none 0 0, .slice none 0 0, .int .i64 0] 44
 have hz : (w.alloc (.cells #[.int .i64 0, .string ⟨#[]⟩, .int .i64 0, .int .i64 0, .string ⟨#[]⟩, .string ⟨#[]⟩, .slice none 0 0, .int .i64 0, .int .i64 0, .int .i64 0, .string ⟨#[]⟩, .string ⟨#[]⟩, .slice none 0 0, .int .i64 0, .slice none 0 0, .slice none 0 0, .slice none 0 0, .slice none 0 0, .int .i64 0] 44)).heap.size = w.heap.size + 1 := by simp
 generalize w.alloc (.cells #[.int .i64 0, .string ⟨#[]⟩, .int .i64 0, .int .i64 0, .string ⟨#[]⟩, .string ⟨#[]⟩, .slice none 0 0, .int .i64 0, .int .i64 0, .int .i64 0, .string ⟨#[]⟩, .string ⟨#[]⟩, .slice none 0 0, .int .i64 0, .slice none 0 0, .slice none 0 0, .slice none 0 0, .slice none 0 0, .int .i64 0] 44) = w4 at *
 have hg := gr_of (row := some w.heap.size) hb
 have Z2 := Lib.hid (And.intro hz Z1.out)
 have X3 := Lib.hid hx
 clear hb hx hz
 have P4 := Lib.hid (P1.out.gr hg (by have z := Z1.out; omega))
 clear P1
 have G5 := hgt hg G1 (fun _ => by have z := Z1.out; omega)
 clear G1
 have Z6 := hzz hg Z2
 clear hg
 have FI := Lib.hid (fin_stmts (d := d) (f := f) (r := r) (ends := [[85, 78, 84, 73, 76]]) (ac := []) (by have z := Z6.out; have := HF.out; omega))
 go_wp2_with (go_at_call 20; fail)
 have hb := (Below.refl w4.heap.size w4).alloc (Nat.le_refl _) (.cells #[.string ⟨#[85, 78, 84, 73, 76]⟩] 9)
 have hR : RB tC1 1 (w4.alloc (.cells #[.string ⟨#[85, 78, 84, 73, 76]⟩] 9)) (Nw w4.heap.size (w4.heap.size + 1)) ⟨some ⟨w4.heap.size, 0, none⟩, 1, 1⟩ [[85, 78, 84, 73, 76]] := rb_many w4 9 [[85, 78, 84, 73, 76]] #[.string ⟨#[85, 78, 84, 73, 76]⟩] rfl (Nat.le_refl _) (Nat.le_refl _)
 have hz : (w4.alloc (.cells #[.string ⟨#[85, 78, 84, 73, 76]⟩] 9)).heap.size = w4.heap.size + 1 := by simp
 generalize w4.alloc (.cells #[.string ⟨#[85, 78, 84, 73, 76]⟩] 9) = w5 at *
 have hg := gr_of (row := some w4.heap.size) hb
 have HZ1 := Lib.hid hz
 have HRB := Lib.hid hR
 clear hb hR hz
 have Z7 := Lib.hid (And.intro HZ1.out Z6.out)
 have E8 := HRB
 clear HZ1 HRB
 have X9 := hbx hg (by have z := Z6.out; omega) X3
 clear X3
 have P10 := Lib.hid (P4.out.gr hg (by have z := Z6.out; omega))
 clear P4
 have G11 := hgt hg G5 (fun _ => by have z := Z6.out; omega)
 clear G5
 have Z12 := hzz hg Z7
 clear hg
 refine (HBB.out [[85, 78, 84, 73, 76]] r (by decide) R1.out (Nat.le_refl _) _ _ _ _ P10.out (by have z := Z12.out; omega) (by have z := Z12.out; omega) E8.out).mono ?_
 rintro e w6 hgv
 rcases hp : stmtsF f d [[85, 78, 84, 73, 76]] r [] with ⟨B1, r1⟩ | ⟨n9, t9⟩
 rotate_left
 ·rw [hp] at hgv
  obtain ⟨rfl, hg⟩ := hgv
  have hq := HR.out
  rw [hp] at hq
  go_wp2
  exact ⟨rfl, Gv.badOf hq.symm (gr_trans G11.out hg)⟩
 rw [hp] at hgv
 obtain ⟨⟨v9, rfl, hG⟩, hP9, hr9, hg⟩ := hgv
 have hq := HR.out
 rw [hp] at hq
 try rw [bind_okE] at hq
 have HR14 := Lib.hid hq
 clear hq HR
 have P15 := Lib.hid hP9
 have R16 := Lib.hid hr9
 have X17 := hbx hg (by have z := Z12.out; omega) X9
 clear X9
 have E18 := hkRB hg (by have z := Z12.out; omega) E8
 clear E8
 clear P10
 have G19 := Lib.hid (gr_trans G11.out hg)
 clear G11
 have Z20 := hzz hg Z12
 clear hg hP9 hr9 R1
 obtain ⟨s21, rfl, hE9⟩ := hG
 have E22 := Lib.hid hE9
 clear hE9
 clear E18
 have L24 : Hid (r1.length < r.length + 1) := by
  have := FI.out
  rw [hp] at this
  exact Lib.hid this
 clear FI hp
 have L25 := Lib.hid (show r1.length ≤ r.length by have := L24.out; omega)
 go_upto_region 2 with (first | ((with_reducible refine m_slice1 (enc := slC) (z := 1) s21 42 24 6 (Sl.v s21) (slC s21).toArray ?_ ?_ ?_ (bs_L s21) ?_ ?_); rfl; rfl; rfl; rfl; intro w7 hrb hb1 hz1; have HRB := Lib.hid hrb; have HB1 := Lib.hid hb1; have HZ1 := Lib.hid hz1; clear hrb hb1 hz1) | ((with_reducible refine m_new 44 3 8 ?_ ?_ ?_ (sC ⟨6, [], ⟨0, 0, [], [], ⟨none, 0, 0⟩, 0⟩, ⟨0, 0, [], [], ⟨none, 0, 0⟩, 0⟩, ⟨none, 0, 0⟩, ⟨none, 0, 0⟩, ⟨none, 0, 0⟩, ⟨some ⟨w6.heap.size, 0, none⟩, 1, 1⟩, 0⟩) ?_ ?_ ?_ ?_ (sC_one _) ?_); rfl; rfl; rfl; rfl; rfl; rfl; kernel_rfl; intro w8 hx hb hz))
 have HX9 := Lib.hid hx
 have HB9 := Lib.hid hb
 have HZ9 := Lib.hid hz
 clear hx hb hz
 have hg := gr_of (row := some w6.heap.size) HB1.out
 have Z26 := Lib.hid (And.intro HZ1.out Z20.out)
 have E27 := HRB
 clear HZ1 HRB
 have X28 := hbx hg (by have z := Z20.out; omega) X17
 clear X17
 have E29 := hkStLB hg (by have z := Z20.out; omega) E22
 clear E22
 have P30 := Lib.hid (P15.out.gr hg (by have z := Z20.out; omega))
 clear P15
 have G31 := hgt hg G19 (fun _ => by have z := Z20.out; omega)
 clear G19
 have Z32 := hzz hg Z26
 clear hg HB1
 have hx := HX9.out
 have hb := HB9.out
 have hz := HZ9.out
 clear HX9 HB9 HZ9
 have hg := gr_of (row := some w7.heap.size) hb
 have Z34 := Lib.hid (And.intro hz Z32.out)
 have X35 := Lib.hid hx
 clear hb hx hz
 have X36 := hbx hg (by have z := Z32.out; omega) X28
 clear X28
 have E37 := hkStLB hg (by have z := Z32.out; omega) E29
 clear E29
 have E38 := hkRB hg (by have z := Z32.out; omega) E27
 clear E27
 have P39 := Lib.hid (P30.out.gr hg (by have z := Z32.out; omega))
 clear P30
 have G40 := hgt hg G31 (fun _ => by have z := Z32.out; omega)
 clear G31
 have Z41 := hzz hg Z34
 clear hg
 have L42 := Lib.hid (drop_len r1)
 by_cases hs43 : txt (r1) = [85, 78, 84, 73, 76]
 rotate_left
 ·have hq := HR14.out
  rw [need_badE hs43] at hq
  go_wp2_with (go_at_call 18; fail)
  refine (need_no P39.out R16.out (mt (headS_txt R16.out (by decide) (by decide) (by decide) (by decide)).1 hs43)).mono ?_
  rintro e w9 ⟨rfl, hb⟩
  go_wp2
  exact ⟨rfl, Gv.badOf hq.symm (gr_trans G40.out (gr_of hb))⟩
 have hq := HR14.out
 rw [need_okE hs43, bind_okE] at hq
 have HR44 := Lib.hid hq
 clear hq HR14
 have R45 := Lib.hid (R16.out.drop (txt_kind hs43 (by decide)))
 go_wp2_with (go_at_call 18; fail)
 refine (need_yes P39.out R16.out ((headS_txt R16.out (by decide) (by decide) (by decide) (by decide)).2 hs43)).mono ?_
 rintro e w9 ⟨rfl, hp, hg⟩
 have P46 := Lib.hid hp
 have X47 := hbx hg (by have z := Z41.out; omega) X36
 clear X36
 have X48 := hbx hg (by have z := Z41.out; omega) X35
 clear X35
 have E49 := hkStLB hg (by have z := Z41.out; omega) E37
 clear E37
 have E50 := hkRB hg (by have z := Z41.out; omega) E38
 clear E38
 clear P39
 have G51 := Lib.hid (gr_trans G40.out hg)
 clear G40
 have Z52 := hzz hg Z41
 clear hg hp
 clear R16
 generalize ((r1).drop 1) = r53 at *
 have L54 := Lib.hid (show r53.length ≤ r.length by have := L42.out; have := L25.out; omega)
 have FI := Lib.hid (fin_expr (d := d) (f := f) (r := r53) (by have z := Z52.out; have := HF.out; have := L54.out; omega))
 go_wp2_with (go_at_call 84; fail)
 refine (expr_gets (f := f) (d := d) hd R45.out (by have z := Z52.out; have := HF.out; have := L54.out; omega) _ _ _ P46.out).mono ?_
 rintro e w10 hgv
 rcases hp : expr f d r53 with ⟨x1, r2⟩ | ⟨n9, t9⟩
 rotate_left
 ·rw [hp] at hgv
  obtain ⟨rfl, hg⟩ := hgv
  have hq := HR44.out
  rw [hp] at hq
  go_wp2
  exact ⟨rfl, Gv.badOf hq.symm (gr_trans G51.out hg)⟩
 rw [hp] at hgv
 obtain ⟨⟨v9, rfl, hG⟩, hP9, hr9, hg⟩ := hgv
 have hq := HR44.out
 rw [hp] at hq
 try rw [bind_okE] at hq
 have HR55 := Lib.hid hq
 clear hq HR44
 have P56 := Lib.hid hP9
 have R57 := Lib.hid hr9
 have X58 := hbx hg (by have z := Z52.out; omega) X47
 clear X47
 have X59 := hbx hg (by have z := Z52.out; omega) X48
 clear X48
 have E60 := hkStLB hg (by have z := Z52.out; omega) E49
 clear E49
 have E61 := hkRB hg (by have z := Z52.out; omega) E50
 clear E50
 clear P46
 have G62 := Lib.hid (gr_trans G51.out hg)
 clear G51
 have Z63 := hzz hg Z52
 clear hg hP9 hr9 R45
 obtain ⟨h64, rfl, hE9⟩ := hG
 have E65 := Lib.hid hE9
 clear hE9
 have L67 : Hid (r2.length < r53.length) := by
  have := FI.out
  rw [hp] at this
  exact Lib.hid this
 clear FI hp
 have L68 := Lib.hid (show r2.length ≤ r.length by have := L67.out; have := L54.out; omega)
 go_upto_region 4 with ((with_reducible refine m_storeAt (o := 8) X59.out 39 13 12 ?_ ?_ ?_ (eC h64) ?_ ?_ ?_ ?_ (eC_one _) ?_); rfl; rfl; rfl; rfl; rfl; (show 8 + 6 ≤ 19; decide); kernel_rfl; intro w11 hx hg hs)
 have hx : Box w11 (w7.heap.size) 0 (sC ⟨6, [], ⟨0, 0, [], [], ⟨none, 0, 0⟩, 0⟩, h64, ⟨none, 0, 0⟩, ⟨none, 0, 0⟩, ⟨none, 0, 0⟩, ⟨some ⟨w6.heap.size, 0, none⟩, 1, 1⟩, 0⟩) := hx
 have X69 := Lib.hid hx
 have Z70 := Lib.hid (And.intro hs Z63.out)
 clear hx hs X59
 have X71 := hbx hg (by have z := Z63.out; omega) X58
 clear X58
 have E72 := hkStLB hg (by have z := Z63.out; omega) E60
 clear E60
 have E73 := hkRB hg (by have z := Z63.out; omega) E61
 clear E61
 have E74 := hkExB hg (by have z := Z63.out; omega) E65
 clear E65
 have P75 := Lib.hid (P56.out.gr hg (by have z := Z63.out; omega))
 clear P56
 have G76 := hgt hg G62 (fun _ => by have z := Z63.out; omega)
 clear G62
 have Z77 := hzz hg Z70
 clear hg
 by_cases hs78 : txt (r2) = [69, 78, 68, 95, 82, 69, 80, 69, 65, 84]
 rotate_left
 ·have hq := HR55.out
  rw [need_badE hs78] at hq
  go_wp2_with (go_at_call 18; fail)
  refine (need_no P75.out R57.out (mt (headS_txt R57.out (by decide) (by decide) (by decide) (by decide)).1 hs78)).mono ?_
  rintro e w12 ⟨rfl, hb⟩
  go_wp2
  exact ⟨rfl, Gv.badOf hq.symm (gr_trans G76.out (gr_of hb))⟩
 have hq := HR55.out
 rw [need_okE hs78, bind_okE] at hq
 have HR79 := Lib.hid hq
 clear hq HR55
 have R80 := Lib.hid (R57.out.drop (txt_kind hs78 (by decide)))
 go_wp2_with (go_at_call 18; fail)
 refine (need_yes P75.out R57.out ((headS_txt R57.out (by decide) (by decide) (by decide) (by decide)).2 hs78)).mono ?_
 rintro e w12 ⟨rfl, hp, hg⟩
 have P81 := Lib.hid hp
 have X82 := hbx hg (by have z := Z77.out; omega) X71
 clear X71
 have X83 := hbx hg (by have z := Z77.out; omega) X69
 clear X69
 have E84 := hkStLB hg (by have z := Z77.out; omega) E72
 clear E72
 have E85 := hkRB hg (by have z := Z77.out; omega) E73
 clear E73
 have E86 := hkExB hg (by have z := Z77.out; omega) E74
 clear E74
 clear P75
 have G87 := Lib.hid (gr_trans G76.out hg)
 clear G76
 have Z88 := hzz hg Z77
 clear hg hp
 clear R57
 generalize ((r2).drop 1) = r89 at *
 go_wp2_with (first | ((with_reducible refine m_load X83.out 44 3 ?_ ?_ ?_ ?_ ?_ ?_); rfl; rfl; rfl; rfl; kernel_rfl) | ((with_reducible refine m_store X82.out 44 2 16 ?_ ?_ ?_ (sC ⟨6, [], ⟨0, 0, [], [], ⟨none, 0, 0⟩, 0⟩, h64, ⟨none, 0, 0⟩, ⟨none, 0, 0⟩, ⟨none, 0, 0⟩, ⟨some ⟨w6.heap.size, 0, none⟩, 1, 1⟩, 0⟩) ?_ ?_ ?_ ?_ (sC_one _) ?_); rfl; rfl; rfl; rfl; rfl; rfl; kernel_rfl; intro w13 hx hg hs))
 have X90 := Lib.hid hx
 have Z91 := Lib.hid (And.intro hs Z88.out)
 clear hx hs X82
 have X92 := hbx hg (by have z := Z88.out; omega) X83
 clear X83
 have E93 := hkStLB hg (by have z := Z88.out; omega) E84
 clear E84
 have E94 := hkRB hg (by have z := Z88.out; omega) E85
 clear E85
 have E95 := hkExB hg (by have z := Z88.out; omega) E86
 clear E86
 have P96 := Lib.hid (P81.out.gr hg (by have z := Z88.out; omega))
 clear P81
 have G97 := hgt hg G87 (fun _ => by have z := Z88.out; omega)
 clear G87
 have Z98 := hzz hg Z91
 clear hg
 refine bodyPost_ret (k.results_cell rfl rfl (run_loadVar_mid _ w.heap.size 0 44 _ _ X90.out.range rfl rfl (by kernel_rfl))) rfl ?_
 refine Gv.okOf HR79.out.symm ⟨fun _ => rfl, ⟨6, [], ⟨0, 0, [], [], ⟨none, 0, 0⟩, 0⟩, h64, ⟨none, 0, 0⟩, ⟨none, 0, 0⟩, ⟨none, 0, 0⟩, ⟨some ⟨w6.heap.size, 0, none⟩, 1, 1⟩, 0⟩, rfl, ?_⟩ P96.out R80.out G97.out
 unfold StB
 exact ⟨rfl, rfl, rfl, zeroE_B _ _, (ExB.kept (more_nw (by have z := Z98.out; omega) (by have z := Z98.out; omega)) E95.out), ExLB.none_ _ _, ⟨[], RB.none_ _ _ _ _, rfl⟩, RB.none_ _ _ _ _, [s21], (RB.kept (more_nw (by have z := Z98.out; omega) (by have z := Z98.out; omega)) E94.out), BlksB.snoc (StLB.kept (more_nw (by have z := Z98.out; omega) (by have z := Z98.out; omega)) E93.out) BlksB.nil⟩
end
end Go.Proofs.YtbcpkhegmbdifaaGreat.tr
