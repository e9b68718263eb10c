/- The landed parser's programs of rows of signs. Condition: at most 6000 signs. -/
import Derived.Test.YtbcpkhegmbdifaaGreatU22
import Derived.Test.YtbcpkhegmbdifaaGreatU02
namespace Go.Proofs.YtbcpkhegmbdifaaGreat.tr
open Go.ChangeShapes Go.WideShapes Go.ChangeAt Go.RowKit Go.Proofs.YtbcpkhegmbdifaaGreat.k Go.Proofs.YtbcpkhegmbdifaaGreat.rr Go.Proofs.YtbcpkhegmbdifaaGreat.tk
set_option linter.unusedVariables false
set_option linter.unusedSimpArgs false

/-- what program gives -/
def GvP (g : Nat) (w : World) (p : Res Pg) (e : Ending) (w' : World) : Prop := match p with
 | .ok x r => (∃ h, e = .returned (.agg (gC h).toArray) ∧ PgB w' (Nw w.heap.size w'.heap.size) x h) ∧ Below g w w'
 | .bad n t => e = .panicked [{ v := mis n t, recovered := false }] ∧ Below g w w'
theorem GvP.badOf {g : Nat} {w w' : World} {p : Res Pg} {n : Int} {t : Tk} (hp : p = .bad n t) (hb : Below g w w') : GvP g w p (.panicked [{ v := mis n t, recovered := false }]) w' := by
 subst hp
 exact ⟨rfl, hb⟩
theorem GvP.okOf {g : Nat} {w w' : World} {p : Res Pg} {x : Pg} {r : Sg} {h : GH} (hp : p = .ok x r) (hb : Below g w w') (hx : PgB w' (Nw w.heap.size w'.heap.size) x h) : GvP g w p (.returned (.agg (gC h).toArray)) w' := by
 subst hp
 exact ⟨⟨h, rfl, hx⟩, hb⟩
theorem gC_one (h : GH) : ∀ u ∈ gC h, u.oneCell' = true := by
 intro u hu
 simp only [gC, List.mem_cons, List.not_mem_nil, or_false] at hu
 rcases hu with rfl | rfl | rfl <;> rfl
/-- a row of the call's own, as a slice in new blocks -/
theorem rb_own2 {α : Type} {enc : α → List Value} {z : Nat} (hz : ∀ x, (enc x).length = z) {w : World} {t : TypeId} {base : Nat} {s : Sl} {L : List α} {a b : Nat} (h : Ow enc z t w base s.v L) (ha : ∀ q, s.v.ownBlock = some q → a ≤ q) (hb : w.heap.size ≤ b) : RB enc z w (Nw a b) s L := by
 obtain ⟨s', e, hr⟩ := RB.own hz h (S := Nw a b) (fun q e => by have := Ow.lt h e; exact ⟨ha q e, by omega⟩)
 obtain ⟨A, l, c⟩ := s
 obtain ⟨A', l', c'⟩ := s'
 simp only [Sl.v, Value.slice.injEq] at e
 obtain ⟨rfl, rfl, rfl⟩ := e
 exact hr
section
variable {r : Sg} {g : Nat} {w : World}

set_option maxRecDepth 100000 in
set_option maxHeartbeats 4000000 in
theorem program_any (hP : Par w g r (.slice none 0 0) 0) (hr : RowOk r) (hl : r.length ≤ 6000) {f : Nat} (hf : 20 * r.length + 12 ≤ f) :
  Calls Tryz.prog 10 #[.pointer (some ⟨g, 0, none⟩)] w (GvP g w (progP f r)) := by
 obtain ⟨R, hR⟩ : ∃ R : Res Pg, (progP f r) = R := ⟨_, rfl⟩
 rw [hR]
 have HR := Lib.hid hR
 clear hR
 have O1 := Lib.hid (Ow.nil vC 8 36 w (g + 1))
 have HL := Lib.hid hl
 have HF := Lib.hid hf
 clear hl hf
 have P1 := Lib.hid hP
 have G1 := Lib.hid (Below.refl g w)
 have R1 := Lib.hid hr
 have Z1 := Lib.hid (show g < w.heap.size from hP.lt)
 clear hP hr
 have hq := HR.out
 unfold progP at hq
 have HR2 := Lib.hid hq
 clear hq HR
 go_enter Tryz.func10, Tryz.ntmps10
 go_upto_region 1 with (fail)
 have hb := (Below.refl w.heap.size w).alloc (Nat.le_refl _) (.cells #[.string ⟨#[]⟩, .slice none 0 0, .slice none 0 0] 26)
 have hx := Box.new w #[.string ⟨#[]⟩, .slice none 0 0, .slice none 0 0] 26
 have hz : (w.alloc (.cells #[.string ⟨#[]⟩, .slice none 0 0, .slice none 0 0] 26)).heap.size = w.heap.size + 1 := by simp
 generalize w.alloc (.cells #[.string ⟨#[]⟩, .slice none 0 0, .slice none 0 0] 26) = w4 at *
 have hg := gr_of (row := some w.heap.size) hb
 have Z3 := Lib.hid (And.intro hz Z1.out)
 have X4 := Lib.hid hx
 clear hb hx hz
 have O5 := Lib.hid (Ow.gr O1.out hg (by have z := Z1.out; omega))
 clear O1
 have P6 := Lib.hid (P1.out.gr hg (by have z := Z1.out; omega))
 clear P1
 have G7 := Lib.hid (G1.out.trans (gr_below hg (by have z := Z1.out; omega) (by have z := Z1.out; omega)))
 clear G1
 have Z8 := hzz hg Z3
 clear hg
 have L9 := Lib.hid (drop_len r)
 by_cases hs10 : txt (r) = [80, 82, 79, 71, 82, 65, 77]
 rotate_left
 ·have hq := HR2.out
  rw [need_badE hs10] at hq
  go_wp2_with (go_at_call 18; fail)
  refine (need_no P6.out R1.out (mt (headS_txt R1.out (by decide) (by decide) (by decide) (by decide)).1 hs10)).mono ?_
  rintro e w5 ⟨rfl, hb⟩
  go_wp2
  exact ⟨rfl, GvP.badOf hq.symm (G7.out.trans (hb.mono (by have z := Z8.out; omega)))⟩
 have hq := HR2.out
 rw [need_okE hs10, bind_okE] at hq
 have HR11 := Lib.hid hq
 clear hq HR2
 have R12 := Lib.hid (R1.out.drop (txt_kind hs10 (by decide)))
 go_wp2_with (go_at_call 18; fail)
 refine (need_yes P6.out R1.out ((headS_txt R1.out (by decide) (by decide) (by decide) (by decide)).2 hs10)).mono ?_
 rintro e w5 ⟨rfl, hp, hg⟩
 have P13 := Lib.hid hp
 have X14 := hbx hg (by have z := Z8.out; omega) X4
 clear X4
 have O15 := Lib.hid (Ow.gr O5.out hg (by have z := Z8.out; omega))
 clear O5
 clear P6
 have G16 := Lib.hid (G7.out.trans (gr_below hg (by have z := Z8.out; omega) (by have z := Z8.out; omega)))
 clear G7
 have Z17 := hzz hg Z8
 clear hg hp
 clear R1
 generalize ((r).drop 1) = r18 at *
 have L19 := Lib.hid (show r18.length ≤ r.length by have := L9.out; omega)
 have f1 := tok_f1 (tr.hd r18)
 have L20 := Lib.hid (drop_len r18)
 by_cases hs21 : (tr.hd (r18)).kind = 1
 rotate_left
 ·have hq := HR11.out
  rw [want_badE hs21] at hq
  go_wp2_with (go_at_call 18; fail)
  refine (need_no P13.out R12.out (mt (headS_kind R12.out).1.1 hs21)).mono ?_
  rintro e w6 ⟨rfl, hb⟩
  go_wp2
  exact ⟨rfl, GvP.badOf hq.symm (G16.out.trans (hb.mono (by have z := Z17.out; omega)))⟩
 have hq := HR11.out
 rw [want_okE hs21, bind_okE] at hq
 have HR22 := Lib.hid hq
 clear hq HR11
 have R23 := Lib.hid (R12.out.drop (by rw [hs21]; decide))
 go_wp2_with (go_at_call 18; fail)
 refine (need_yes P13.out R12.out ((headS_kind R12.out).1.2 hs21)).mono ?_
 rintro e w6 ⟨rfl, hp, hg⟩
 have P24 := Lib.hid hp
 have X25 := hbx hg (by have z := Z17.out; omega) X14
 clear X14
 have O26 := Lib.hid (Ow.gr O15.out hg (by have z := Z17.out; omega))
 clear O15
 clear P13
 have G27 := Lib.hid (G16.out.trans (gr_below hg (by have z := Z17.out; omega) (by have z := Z17.out; omega)))
 clear G16
 have Z28 := hzz hg Z17
 clear hg hp
 clear R12
 generalize ((r18).drop 1) = r29 at *
 have L30 := Lib.hid (show r29.length ≤ r.length by have := L20.out; have := L19.out; omega)
 have hfx : 20 * r29.length + 1 ≤ f := (by have z := Z28.out; have := HF.out; have := L30.out; omega)
 have SA := Lib.hid (sections_any P24.out R23.out O26.out (by decide) hfx)
 have FI := Lib.hid (fin_sects f r29 [] hfx)
 clear hfx
 go_wp2_with (go_at_call 19; fail)
 refine SA.out.mono ?_
 rintro e w7 hgv
 rcases hp : sectsF f r29 [] with ⟨vs1, r5⟩ | ⟨n9, t9⟩
 rotate_left
 ·rw [hp] at hgv
  obtain ⟨rfl, hb⟩ := hgv
  have hq := HR22.out
  rw [hp] at hq
  go_wp2
  exact ⟨rfl, GvP.badOf hq.symm (G27.out.trans (gr_below hb.grown (Nat.le_refl _) (by have z := Z28.out; omega)))⟩
 rw [hp] at hgv
 obtain ⟨rfl, hr9, hb, V5, hlk, hP9, hO9⟩ := hgv
 have hq := HR22.out
 rw [hp, bind_okE] at hq
 have HR31 := Lib.hid hq
 clear hq HR22
 have L5 : Hid (r5.length < r29.length + 1) := by
  have := FI.out
  rw [hp] at this
  exact Lib.hid this
 clear FI hp SA
 have HLK := Lib.hid (show ∀ q, V5.ownBlock = some q → w6.heap.size ≤ q from fun q e => (hlk q e).elim (fun h => by cases h) id)
 clear hlk
 have hg := hb.grown
 have P32 := Lib.hid hP9
 have O33 := Lib.hid hO9
 have R34 := Lib.hid hr9
 clear R23 O26 hP9 hO9 hr9 hb
 have X35 := hbx hg (by have z := Z28.out; omega) X25
 clear X25
 clear P24
 have G36 := Lib.hid (G27.out.trans (gr_below hg (by have z := Z28.out; omega) (by have z := Z28.out; omega)))
 clear G27
 have Z37 := hzz hg Z28
 clear hg
 have L38 := Lib.hid (show r5.length ≤ r.length by have := L5.out; have := L30.out; omega)
 have HS := Lib.hid (show ∀ r1, RowOk r1 → r1.length ≤ 6000 → 20 * r1.length + 12 ≤ f → BCtr Tryz.prog 20 [[69, 78, 68, 95, 80, 82, 79, 71, 82, 65, 77]] (stmtsF f 0 [[69, 78, 68, 95, 80, 82, 79, 71, 82, 65, 77]] r1 []) 0 r1 from fun r1 h1 h2 h3 => block_gets h1 h2 h3 _ (by decide) fun f1 r2 g1 g2 g3 g4 => stmt_all f1 0 r2 (by decide) g3 (by omega) g4)
 have FI := Lib.hid (fin_stmts (d := 0) (f := f) (r := r5) (ends := [[69, 78, 68, 95, 80, 82, 79, 71, 82, 65, 77]]) (ac := []) (by have z := Z37.out; have := HF.out; have := HL.out; have := L38.out; omega))
 go_wp2_with (go_at_call 20; fail)
 have hb := (Below.refl w7.heap.size w7).alloc (Nat.le_refl _) (.cells #[.string ⟨#[69, 78, 68, 95, 80, 82, 79, 71, 82, 65, 77]⟩] 9)
 have hR : RB tC1 1 (w7.alloc (.cells #[.string ⟨#[69, 78, 68, 95, 80, 82, 79, 71, 82, 65, 77]⟩] 9)) (Nw w7.heap.size (w7.heap.size + 1)) ⟨some ⟨w7.heap.size, 0, none⟩, 1, 1⟩ [[69, 78, 68, 95, 80, 82, 79, 71, 82, 65, 77]] := rb_many w7 9 [[69, 78, 68, 95, 80, 82, 79, 71, 82, 65, 77]] #[.string ⟨#[69, 78, 68, 95, 80, 82, 79, 71, 82, 65, 77]⟩] rfl (Nat.le_refl _) (Nat.le_refl _)
 have hz : (w7.alloc (.cells #[.string ⟨#[69, 78, 68, 95, 80, 82, 79, 71, 82, 65, 77]⟩] 9)).heap.size = w7.heap.size + 1 := by simp
 generalize w7.alloc (.cells #[.string ⟨#[69, 78, 68, 95, 80, 82, 79, 71, 82, 65, 77]⟩] 9) = w8 at *
 have hg := gr_of (row := some w7.heap.size) hb
 have HZ1 := Lib.hid hz
 have HRB := Lib.hid hR
 clear hb hR hz
 have Z39 := Lib.hid (And.intro HZ1.out Z37.out)
 have E40 := HRB
 clear HZ1 HRB
 have X41 := hbx hg (by have z := Z37.out; omega) X35
 clear X35
 have O42 := Lib.hid (Ow.gr O33.out hg (by have z := Z37.out; omega))
 clear O33
 have P43 := Lib.hid (P32.out.gr hg (by have z := Z37.out; omega))
 clear P32
 have G44 := Lib.hid (G36.out.trans (gr_below hg (by have z := Z37.out; omega) (by have z := Z37.out; omega)))
 clear G36
 have Z45 := hzz hg Z39
 clear hg
 refine (HS.out r5 R34.out (by have z := Z45.out; have := HF.out; have := HL.out; have := L38.out; omega) (by have z := Z45.out; have := HF.out; have := HL.out; have := L38.out; omega) _ _ _ _ P43.out (by have z := Z45.out; omega) (by have z := Z45.out; omega) E40.out).mono ?_
 rintro e w9 hgv
 rcases hp : stmtsF f 0 [[69, 78, 68, 95, 80, 82, 79, 71, 82, 65, 77]] r5 [] with ⟨B1, r6⟩ | ⟨n9, t9⟩
 rotate_left
 ·rw [hp] at hgv
  obtain ⟨rfl, hg⟩ := hgv
  have hq := HR31.out
  rw [hp] at hq
  go_wp2
  exact ⟨rfl, GvP.badOf hq.symm (G44.out.trans (gr_below hg (Nat.le_refl _) (by have z := Z45.out; omega)))⟩
 rw [hp] at hgv
 obtain ⟨⟨v9, rfl, hG⟩, hP9, hr9, hg⟩ := hgv
 have hq := HR31.out
 rw [hp] at hq
 try rw [bind_okE] at hq
 have HR47 := Lib.hid hq
 clear hq HR31
 have P48 := Lib.hid hP9
 have R49 := Lib.hid hr9
 have X50 := hbx hg (by have z := Z45.out; omega) X41
 clear X41
 have E51 := hkRB hg (by have z := Z45.out; omega) E40
 clear E40
 have O52 := Lib.hid (Ow.gr O42.out hg (by have z := Z45.out; omega))
 clear O42
 clear P43
 have G53 := Lib.hid (G44.out.trans (gr_below hg (by have z := Z45.out; omega) (by have z := Z45.out; omega)))
 clear G44
 have Z54 := hzz hg Z45
 clear hg hP9 hr9 R34
 obtain ⟨s55, rfl, hE9⟩ := hG
 have E56 := Lib.hid hE9
 clear hE9
 clear E51
 clear FI hp HS
 by_cases hs58 : txt (r6) = [69, 78, 68, 95, 80, 82, 79, 71, 82, 65, 77]
 rotate_left
 ·have hq := HR47.out
  rw [need_badE hs58] at hq
  go_wp2_with (go_at_call 18; fail)
  refine (need_no P48.out R49.out (mt (headS_txt R49.out (by decide) (by decide) (by decide) (by decide)).1 hs58)).mono ?_
  rintro e w10 ⟨rfl, hb⟩
  go_wp2
  exact ⟨rfl, GvP.badOf hq.symm (G53.out.trans (hb.mono (by have z := Z54.out; omega)))⟩
 have hq := HR47.out
 rw [need_okE hs58, bind_okE] at hq
 have HR59 := Lib.hid hq
 clear hq HR47
 have R60 := Lib.hid (R49.out.drop (txt_kind hs58 (by decide)))
 go_wp2_with (go_at_call 18; fail)
 refine (need_yes P48.out R49.out ((headS_txt R49.out (by decide) (by decide) (by decide) (by decide)).2 hs58)).mono ?_
 rintro e w10 ⟨rfl, hp, hg⟩
 have P61 := Lib.hid hp
 have X62 := hbx hg (by have z := Z54.out; omega) X50
 clear X50
 have E63 := hkStLB hg (by have z := Z54.out; omega) E56
 clear E56
 have O64 := Lib.hid (Ow.gr O52.out hg (by have z := Z54.out; omega))
 clear O52
 clear P48
 have G65 := Lib.hid (G53.out.trans (gr_below hg (by have z := Z54.out; omega) (by have z := Z54.out; omega)))
 clear G53
 have Z66 := hzz hg Z54
 clear hg hp
 clear R49
 generalize ((r6).drop 1) = r67 at *
 by_cases hk : (tr.hd r67).kind = 0
 rotate_left
 ·have hq := HR59.out
  rw [if_neg hk] at hq
  go_wp2_with (go_at_call 18; fail)
  refine (need_no P61.out R60.out (mt (headS_kind R60.out).2.2.1 hk)).mono ?_
  rintro e w11 ⟨rfl, hb⟩
  go_wp2
  exact ⟨rfl, GvP.badOf hq.symm (G65.out.trans (hb.mono (by have z := Z66.out; omega)))⟩
 have hq := HR59.out
 rw [if_pos hk] at hq
 have HR68 := Lib.hid hq
 clear hq HR59
 go_wp2_with (go_at_call 18; fail)
 refine (need_yes P61.out R60.out ((headS_kind R60.out).2.2.2 hk)).mono ?_
 rintro e w11 ⟨rfl, hp, hg⟩
 have P69 := Lib.hid hp
 have X70 := hbx hg (by have z := Z66.out; omega) X62
 clear X62
 have E71 := hkStLB hg (by have z := Z66.out; omega) E63
 clear E63
 have O72 := Lib.hid (Ow.gr O64.out hg (by have z := Z66.out; omega))
 clear O64
 clear P61
 have G73 := Lib.hid (G65.out.trans (gr_below hg (by have z := Z66.out; omega) (by have z := Z66.out; omega)))
 clear G65
 have Z74 := hzz hg Z66
 clear hg hp
 obtain ⟨A9, cap9, hV5, _⟩ := O72.out.form vC_len
 subst hV5
 obtain ⟨A1, c1, hB1, hR1⟩ := P69.out
 have ⟨a0, k0, a1, k1, a2, k2, _⟩ := hB1
 clear hB1 hR1
 have EV := Lib.hid (rb_own2 (s := ⟨A9, vs1.length, cap9⟩) vC_len O72.out HLK.out (Nat.le_refl _))
 clear O72
 obtain ⟨A8, l8, c8⟩ := s55
 dsimp only [Sl.v]
 go_wp2_with ((with_reducible refine m_store X70.out 26 2 25 ?_ ?_ ?_ (gC ⟨(tr.hd (r18)).text, ⟨A9, vs1.length, cap9⟩, ⟨A8, l8, c8⟩⟩) ?_ ?_ ?_ ?_ (gC_one _) ?_); rfl; rfl; rfl; rfl; rfl; rfl; kernel_rfl; intro w12 hx hg hs)
 clear a0 k0 a1 k1 a2 k2
 have X75 := Lib.hid hx
 have Z76 := Lib.hid (And.intro hs Z74.out)
 clear hx hs X70
 have E77 := hkStLB hg (by have z := Z74.out; omega) E71
 clear E71
 have E78 := hkRB hg (by have z := Z74.out; omega) EV
 clear EV
 have P79 := Lib.hid (P69.out.gr hg (by have z := Z74.out; omega))
 clear P69
 have G80 := Lib.hid (G73.out.trans (gr_below hg (by have z := Z74.out; omega) (by have z := Z74.out; omega)))
 clear G73
 have Z81 := hzz hg Z76
 clear hg
 refine bodyPost_ret (k.results_cell rfl rfl (run_loadVar_mid _ w.heap.size 0 26 _ _ X75.out.range rfl rfl (by kernel_rfl))) rfl ?_
 exact GvP.okOf (h := ⟨(tr.hd (r18)).text, ⟨A9, vs1.length, cap9⟩, ⟨A8, l8, c8⟩⟩) HR68.out.symm G80.out ⟨rfl, RB.kept (more_nw (by have z := Z81.out; omega) (by have z := Z81.out; omega)) E78.out, StLB.kept (more_nw (by have z := Z81.out; omega) (by have z := Z81.out; omega)) E77.out⟩
end
end Go.Proofs.YtbcpkhegmbdifaaGreat.tr
/- The signs of a text are a row that the parser's reader may take. No condition. -/
namespace Go.Proofs.YtbcpkhegmbdifaaGreat.tr
open Go.ChangeShapes Go.WideShapes Go.ChangeAt Go.RowKit Go.Proofs.YtbcpkhegmbdifaaGreat.k Go.Proofs.YtbcpkhegmbdifaaGreat.rr Go.Proofs.YtbcpkhegmbdifaaGreat.tk
set_option linter.unusedVariables false
set_option linter.unusedSimpArgs false

theorem word_ok {l : List UInt8} (h : isWord l = true) : l ≠ nameS ∧ l ≠ numS ∧ l ≠ endS := by
  refine ⟨?_, ?_, ?_⟩ <;> (rintro rfl; revert h; decide)
theorem number_ok {r : List UInt8} (h : (number r).1 = 0) : (number r).2.1 ≤ 9223372036854775807 := by
  unfold number at h ⊢
  simp only at h ⊢
  split at h
  · cases h
  · rename_i h1
    rw [if_neg h1]
    split at h
    · cases h
    · rename_i h2
      rw [if_neg h2]
      show val _ _ ≤ _
      omega
theorem sgn_ok {r : List UInt8} {k : Int} {v n : Nat} (h : sgn r = (0, k, v, n)) (ln cl : Nat) : SgOk ⟨k, r.take n, v, ln, cl⟩ := by
  have hn := sgn_len h
  unfold sgn at h
  cases r with
  | nil => simp at h
  | cons c l =>
    simp only at h
    split at h
    · split at h
      · rename_i hw
        simp only [Prod.mk.injEq, true_and] at h
        obtain ⟨rfl, rfl, rfl⟩ := h
        exact .inl ⟨.inl rfl, word_ok hw⟩
      · split at h
        · simp at h
        · simp only [Prod.mk.injEq, true_and] at h
          obtain ⟨rfl, rfl, rfl⟩ := h
          exact .inr (.inl rfl)
    · rename_i ha
      split at h
      · split at h
        · rename_i hx
          simp only [Prod.mk.injEq, true_and] at h
          obtain ⟨rfl, rfl, rfl⟩ := h
          have := number_ok hx
          refine .inr (.inr ⟨rfl, ?_, ?_⟩)
          · show (0 : Int) ≤ ((number (c :: l)).2.1 : Nat)
            omega
          · show (((number (c :: l)).2.1 : Nat) : Int) ≤ _
            omega
        · simp at h
          exact absurd h.1 (by assumption)
      · split at h
        · simp at h
        · simp only [Prod.mk.injEq, true_and] at h
          obtain ⟨rfl, rfl, rfl⟩ := h
          obtain ⟨m, hm⟩ : ∃ m, signLen (c :: l) = m + 1 := ⟨signLen (c :: l) - 1, by omega⟩
          rw [hm, List.take_succ_cons]
          refine .inl ⟨.inr rfl, ?_, ?_, ?_⟩ <;> (intro e; injection e with e1; subst e1; exact ha (by decide))
theorem row_all : ∀ {A : List Tk} {e : Tk}, (∀ t ∈ A, SgOk t) → e.kind = 0 → RowOk (A ++ [e])
  | [], e, _, he => .inl ⟨rfl, he⟩
  | t :: A, e, h, he => .inr ⟨h t (by simp), row_all (fun u hu => h u (by simp [hu])) he⟩
theorem lexF_ok (s : List UInt8) : ∀ (f : Nat) (r : List UInt8) (acc : List Tk) {M : List Tk} {z : Tk}, (∀ t ∈ acc, SgOk t) → lexF s f r acc = (0, M, z) → RowOk M ∧ M.length ≤ acc.length + r.length + 1
  | 0, r, acc, M, z, _, h => by simp [lexF] at h
  | f + 1, r, acc, M, z, ha, h => by
    rw [lexF] at h
    simp only at h
    have hs := (past_suf r).length_le
    split at h
    · simp at h
    · split at h
      · simp only [Prod.mk.injEq, true_and] at h
        obtain ⟨rfl, _⟩ := h
        exact ⟨row_all ha rfl, by simp⟩
      · split at h
        · rename_i hx
          obtain ⟨⟨x1, k, v, n⟩, hq⟩ : ∃ q, sgn (past r).2 = q := ⟨_, rfl⟩
          have hx : x1 = 0 := by rw [hq] at hx; exact hx
          subst hx
          rw [hq] at h
          have hok := sgn_ok hq (plAt s (past r).2).1 (plAt s (past r).2).2
          have hl := sgn_len hq
          have ih := lexF_ok s f _ _ (fun t ht => by
            rcases List.mem_append.1 ht with ht | ht
            · exact ha t ht
            · simp only [List.mem_cons, List.not_mem_nil, or_false] at ht
              rw [ht]
              exact hok) h
          refine ⟨ih.1, ?_⟩
          have h2 := ih.2
          simp only [List.length_append, List.length_cons, List.length_nil, List.length_drop] at h2
          omega
        · rename_i hx
          simp only [Prod.mk.injEq] at h
          exact absurd h.1 hx
theorem lex_ok {s : List UInt8} (h : (lex s).1 = 0) : RowOk (lex s).2.1 ∧ (lex s).2.1.length ≤ s.length + 1 := by
  obtain ⟨⟨e, M, z⟩, hq⟩ : ∃ q, lex s = q := ⟨_, rfl⟩
  rw [hq] at h ⊢
  have h : e = 0 := h
  subst h
  unfold lex at hq
  split at hq
  · simp at hq
  · have := lexF_ok s _ _ _ (fun t ht => by cases ht) hq
    simpa using this
end Go.Proofs.YtbcpkhegmbdifaaGreat.tr
