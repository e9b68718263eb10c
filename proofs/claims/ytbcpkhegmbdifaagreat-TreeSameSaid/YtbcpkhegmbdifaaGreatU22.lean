/- The landed parser's variables: those of a line get their type and value. No condition but what each line says. -/
import Derived.Test.YtbcpkhegmbdifaaGreatU21
namespace Go.Proofs.YtbcpkhegmbdifaaGreat.tr
open Go.ChangeShapes Go.WideShapes Go.ChangeAt Go.RowKit Go.Proofs.YtbcpkhegmbdifaaGreat.k Go.Proofs.YtbcpkhegmbdifaaGreat.rr Go.Proofs.YtbcpkhegmbdifaaGreat.tk
set_option linter.unusedVariables false
set_option linter.unusedSimpArgs false

theorem type_pos {r r' : Sg} {ty : Int × Bool × Int × Int} (h : typeP r = .ok ty r') : 1 ≤ ty.1 := by
 have hk : ∀ s, kindOf s ≠ 0 → 1 ≤ kindOf s := by
  intro s
  unfold kindOf
  split
  ·rename_i k hk
   have := List.mem_of_find?_eq_some hk
   unfold kinds at this
   simp only [List.mem_cons, List.not_mem_nil, or_false] at this
   rcases this with rfl | rfl | rfl | rfl | rfl | rfl | rfl | rfl | rfl | rfl | rfl | rfl | rfl | rfl | rfl | rfl | rfl | rfl | rfl | rfl | rfl <;> decide
  ·intro h; exact absurd rfl h
 have hs : ∀ q, simpleT q ≠ 0 → 1 ≤ simpleT q := by
  intro q
  unfold simpleT
  split
  ·decide
  ·split
   ·decide
   ·intro h; exact absurd rfl h
 unfold typeP at h
 split at h
 ·rename_i h0
  cases h
  exact hs r h0
 ·split at h
  ·obtain ⟨_, r1, _, h⟩ := bind_ok h
   obtain ⟨lo, r2, _, h⟩ := bind_ok h
   obtain ⟨_, r3, _, h⟩ := bind_ok h
   obtain ⟨hi, r4, _, h⟩ := bind_ok h
   split at h
   ·cases h
   ·obtain ⟨_, r5, _, h⟩ := bind_ok h
    obtain ⟨_, r6, _, h⟩ := bind_ok h
    split at h
    ·rename_i h0
     cases h
     exact hs _ h0
    ·cases h
  ·obtain ⟨t, r1, _, h⟩ := bind_ok h
   split at h
   ·cases h
   ·rename_i h0
    cases h
    exact hk _ h0
section
variable {r : Sg} {V : Value} {d g : Nat} {w : World}

set_option maxRecDepth 100000 in
set_option maxHeartbeats 4000000 in
theorem typed_any {b N cap cap2 : Nat} (hP : Par w g r (.slice (some ⟨b, 0, none⟩) N cap) d) (hr : RowOk r) {vs ns : List Va} (hO : Ow vC 8 36 w (g + 1) (.slice (some ⟨b, 0, none⟩) N cap) (vs ++ ns)) (hlen : vs.length + ns.length ≤ 64) :
  Calls Tryz.prog 51 #[.pointer (some ⟨g, 0, none⟩), .slice (some ⟨b, vs.length * 8, none⟩) ns.length cap2] w (GvV g d (.slice (some ⟨b, 0, none⟩) N cap) w ((typQ r).bind fun x r' => .ok (vs ++ ns.map (updV x.1 x.2)) r')) := by
 obtain ⟨R, hR⟩ : ∃ R : Res (List Va), ((typQ r).bind fun x r' => .ok (vs ++ ns.map (updV x.1 x.2)) r') = R := ⟨_, rfl⟩
 rw [hR]
 have HR := Lib.hid hR
 clear hR
 have O1 := Lib.hid hO
 have HB := Lib.hid (Ow.lt hO (q := b) rfl)
 have OB := Lib.hid (show (Value.slice (some ⟨b, 0, none⟩) N cap).ownBlock = some b from rfl)
 have HLN := Lib.hid hlen
 clear hO hlen
 have P1 := Lib.hid hP
 have G1 := Lib.hid (Fr.refl g (.slice (some ⟨b, 0, none⟩) N cap) w)
 have R1 := Lib.hid hr
 have Z1 := Lib.hid (show g < w.heap.size from hP.lt)
 clear hP hr
 have hq := HR.out
 unfold typQ at hq
 simp only [bind_bind, bind_okE] at hq
 have HR2 := Lib.hid hq
 clear hq HR
 have Z3 := Lib.hid (And.intro (show b < w.heap.size from HB.out.2) Z1.out)
 have Z4 := Lib.hid (And.intro (show g + 1 ≤ b from HB.out.1) Z3.out)
 go_enter Tryz.func51, Tryz.ntmps51
 go_wp2_with (go_at_call 30; fail)
 refine (next_any P1.out R1.out).mono ?_
 rintro e w4 ⟨rfl, hb⟩
 have hg := gr_of (row := some w.heap.size) hb
 have O5 := Lib.hid (Ow.gr2 O1.out hg (by rw [OB.out]; intro e0; injection e0 with e0; have z := Z4.out; omega))
 clear O1
 have P6 := Lib.hid (P1.out.gr hg (by have z := Z4.out; omega))
 clear P1
 have G7 := Lib.hid (G1.out.step hg (.inr (.inr (by have z := Z4.out; omega))))
 clear G1
 have Z8 := hzz hg Z4
 clear hg hb
 go_upto_region 1 with ((with_reducible refine m_new 29 4 11 ?_ ?_ ?_ (tC (tr.hd r)) ?_ ?_ ?_ ?_ (tC_one _) ?_); rfl; rfl; rfl; rfl; rfl; rfl; kernel_rfl; intro w5 hx hb hz)
 have hg := gr_of (row := some w4.heap.size) hb
 have Z9 := Lib.hid (And.intro hz Z8.out)
 have X10 := Lib.hid hx
 clear hb hx hz
 have O11 := Lib.hid (Ow.gr2 O5.out hg (by rw [OB.out]; intro e0; injection e0 with e0; have z := Z8.out; omega))
 clear O5
 have P12 := Lib.hid (P6.out.gr hg (by have z := Z8.out; omega))
 clear P6
 have G13 := Lib.hid (G7.out.step hg (.inr (.inr (by have z := Z8.out; omega))))
 clear G7
 have Z14 := hzz hg Z9
 clear hg
 have KC := Lib.hid fun W (h : Par W g r (.slice (some ⟨b, 0, none⟩) N cap) d) => kind_any h R1.out
 go_wp2_with (go_at_call 66; fail)
 refine (KC.out _ P12.out).mono ?_
 rintro e w6 hgv
 rcases hp : typeP r with ⟨ty, r1⟩ | ⟨n9, t9⟩
 rotate_left
 ·rw [hp] at hgv
  obtain ⟨rfl, hg⟩ := hgv
  have hq := HR2.out
  rw [hp] at hq
  go_wp2
  exact ⟨rfl, GvV.badOf hq.symm (G13.out.step hg (.inl rfl))⟩
 rw [hp] at hgv
 obtain ⟨⟨v9, rfl, hG⟩, hP9, hr9, hg⟩ := hgv
 have hq := HR2.out
 rw [hp] at hq
 try rw [bind_okE] at hq
 have HR15 := Lib.hid hq
 clear hq HR2
 have P16 := Lib.hid hP9
 have R17 := Lib.hid hr9
 have X18 := hbx hg (by have z := Z14.out; omega) X10
 clear X10
 have O19 := Lib.hid (Ow.gr2 O11.out hg (by rw [OB.out]; intro e0; injection e0 with e0; have z := Z14.out; omega))
 clear O11
 clear P12
 have G20 := Lib.hid (G13.out.step hg (.inl rfl))
 clear G13
 have Z21 := hzz hg Z14
 clear hg hP9 hr9 R1
 obtain rfl := hG
 have TP := Lib.hid (type_pos hp)
 clear hp KC
 go_upto_region 2 with ((with_reducible refine m_new 36 5 13 ?_ ?_ ?_ (vC ⟨[], ty.1, 0, ty.2.1, ty.2.2.1, ty.2.2.2, 0, 0⟩) ?_ ?_ ?_ ?_ (vC_one _) ?_); rfl; rfl; rfl; rfl; rfl; rfl; kernel_rfl; intro w7 hx hb hz)
 have hg := gr_of (row := some w6.heap.size) hb
 have Z22 := Lib.hid (And.intro hz Z21.out)
 have X23 := Lib.hid hx
 clear hb hx hz
 have X24 := hbx hg (by have z := Z21.out; omega) X18
 clear X18
 have O25 := Lib.hid (Ow.gr2 O19.out hg (by rw [OB.out]; intro e0; injection e0 with e0; have z := Z21.out; omega))
 clear O19
 have P26 := Lib.hid (P16.out.gr hg (by have z := Z21.out; omega))
 clear P16
 have G27 := Lib.hid (G20.out.step hg (.inr (.inr (by have z := Z21.out; omega))))
 clear G20
 have Z28 := hzz hg Z22
 clear hg
 obtain ⟨ty1, ta, tlo, thi⟩ := ty
 by_cases hw : txt r1 = [58, 61]
 ·skip
  have hq := HR15.out
  rw [if_pos hw] at hq
  simp only [bind_bind] at hq
  have HR29 := Lib.hid hq
  clear hq HR15
  have R30 := Lib.hid (R17.out.drop (txt_kind hw (by decide)))
  go_wp2_with (go_at_call 32; fail)
  refine (take_yes P26.out R17.out ((headS_txt R17.out (by decide) (by decide) (by decide) (by decide)).2 hw) (txt_kind hw (by decide))).mono ?_
  rintro e w8 ⟨rfl, hp, hg⟩
  have P31 := Lib.hid hp
  have X32 := hbx hg (by have z := Z28.out; omega) X24
  clear X24
  have X33 := hbx hg (by have z := Z28.out; omega) X23
  clear X23
  have O34 := Lib.hid (Ow.gr2 O25.out hg (by rw [OB.out]; intro e0; injection e0 with e0; have z := Z28.out; omega))
  clear O25
  clear P26
  have G35 := Lib.hid (G27.out.step hg (.inl rfl))
  clear G27
  have Z36 := hzz hg Z28
  clear hg hp
  clear R17
  generalize ((r1).drop 1) = r37 at *
  have VC := Lib.hid fun W (h : Par W g r37 (.slice (some ⟨b, 0, none⟩) N cap) d) => value_any h R30.out
  go_wp2_with (go_at_call 67; fail)
  refine (VC.out _ P31.out).mono ?_
  rintro e w9 hgv
  rcases hp : valueP r37 with ⟨v1, r2⟩ | ⟨n9, t9⟩
  rotate_left
  ·rw [hp] at hgv
   obtain ⟨rfl, hg⟩ := hgv
   have hq := HR29.out
   rw [hp] at hq
   go_wp2
   exact ⟨rfl, GvV.badOf hq.symm (G35.out.step hg (.inl rfl))⟩
  rw [hp] at hgv
  obtain ⟨⟨v9, rfl, hG⟩, hP9, hr9, hg⟩ := hgv
  have hq := HR29.out
  rw [hp] at hq
  try rw [bind_okE] at hq
  have HR38 := Lib.hid hq
  clear hq HR29
  have P39 := Lib.hid hP9
  have R40 := Lib.hid hr9
  have X41 := hbx hg (by have z := Z36.out; omega) X32
  clear X32
  have X42 := hbx hg (by have z := Z36.out; omega) X33
  clear X33
  have O43 := Lib.hid (Ow.gr2 O34.out hg (by rw [OB.out]; intro e0; injection e0 with e0; have z := Z36.out; omega))
  clear O34
  clear P31
  have G44 := Lib.hid (G35.out.step hg (.inl rfl))
  clear G35
  have Z45 := hzz hg Z36
  clear hg hP9 hr9 R30
  obtain rfl := hG
  obtain ⟨vb, vn⟩ := v1
  clear hp VC
  by_cases hbad : ta = true ∨ 2 < ty1 ∨ (vb = true ∧ ty1 = 1) ∨ (vb = false ∧ ty1 = 2)
  ·skip
   have hq := HR38.out
   rw [if_pos hbad] at hq
   have HR46 := Lib.hid hq
   clear hq HR38
   have hpos := TP.out
   have ⟨c3, _⟩ := cell_of X42.out (i := 3) rfl
   have ⟨c1, _⟩ := cell_of X42.out (i := 1) rfl
   have q1 : ta = false → ((ty1 : Int) != (if vb = true then 2 else 1)) = true := by
    intro ht
    rw [bne_iff_ne]
    have hpos : 1 ≤ ty1 := hpos
    rcases hbad with h | h | ⟨h, h2⟩ | ⟨h, h2⟩
    ·rw [ht] at h; cases h
    ·split <;> omega
    ·rw [h, h2]; decide
    ·rw [h, h2]; decide
   clear hbad hpos
   generalize (if vb = true then (2 : Int) else 1) = kv at *
   cases ta
   ·skip
    have q2 := q1 rfl
    clear q1
    go_wp2_with (first | ((with_reducible refine m_load X41.out 29 4 ?_ ?_ ?_ ?_ ?_ ?_); rfl; rfl; rfl; rfl; kernel_rfl) | (go_at_call 29; fail))
    refine (fail_any 1 (tr.hd r) _).mono ?_
    rintro e wz ⟨rfl, hb⟩
    go_wp2
    exact ⟨rfl, GvV.badOf HR46.out.symm (G44.out.step (gr_of (row := some w9.heap.size) hb) (.inr (.inr (by have z := Z45.out; omega))))⟩
   ·skip
    clear q1
    go_wp2_with (first | ((with_reducible refine m_load X41.out 29 4 ?_ ?_ ?_ ?_ ?_ ?_); rfl; rfl; rfl; rfl; kernel_rfl) | (go_at_call 29; fail))
    refine (fail_any 1 (tr.hd r) _).mono ?_
    rintro e wz ⟨rfl, hb⟩
    go_wp2
    exact ⟨rfl, GvV.badOf HR46.out.symm (G44.out.step (gr_of (row := some w9.heap.size) hb) (.inr (.inr (by have z := Z45.out; omega))))⟩
  ·skip
   have hq := HR38.out
   rw [if_neg hbad] at hq
   simp only [bind_okE] at hq
   have HR46 := Lib.hid hq
   clear hq HR38
   have hpos : 1 ≤ ty1 := TP.out
   obtain rfl : ta = false := by cases ta <;> simp_all
   have ⟨c3, _⟩ := cell_of X42.out (i := 3) rfl
   have ⟨c1, _⟩ := cell_of X42.out (i := 1) rfl
   have ⟨c6, k6⟩ := cell_of X42.out (i := 6) rfl
   have q1 : ((ty1 : Int) != (if vb = true then 2 else 1)) = false := by
    have h1 : ¬ (2 < ty1) := fun h => hbad (.inr (.inl h))
    have h2 : ¬ (vb = true ∧ ty1 = 1) := fun h => hbad (.inr (.inr (.inl h)))
    have h3 : ¬ (vb = false ∧ ty1 = 2) := fun h => hbad (.inr (.inr (.inr h)))
    rw [bne_eq_false_iff_eq]
    cases vb
    ·simp at h3 ⊢; omega
    ·simp at h2 ⊢; omega
   clear hbad hpos
   generalize (if vb = true then (2 : Int) else 1) = kv at *
   go_upto_region 7 with (fail)
   clear c3 c1 c6 k6 q1
   have hg := gr_set w9 (w6.heap.size) 6 (.int .i64 vn)
   have hx : Box (w9.setCell ⟨w6.heap.size, 6, none⟩ (.int .i64 vn)) (w6.heap.size) 0 (vC ⟨[], ty1, 0, false, tlo, thi, vn, 0⟩) := Box.put X42.out 6 (show 6 < 8 by decide) (.int .i64 vn)
   have hs : (w9.setCell ⟨w6.heap.size, 6, none⟩ (.int .i64 vn)).heap.size = w9.heap.size := set_size _ _ _
   generalize w9.setCell ⟨w6.heap.size, 6, none⟩ (.int .i64 vn) = w10 at *
   have X47 := Lib.hid hx
   have Z48 := Lib.hid (And.intro hs Z45.out)
   clear hx hs X42
   have X49 := hbx hg (by have z := Z45.out; omega) X41
   clear X41
   have O50 := Lib.hid (Ow.gr2 O43.out hg (by rw [OB.out]; intro e0; injection e0 with e0; have z := Z45.out; omega))
   clear O43
   have P51 := Lib.hid (P39.out.gr hg (by have z := Z45.out; omega))
   clear P39
   have G52 := Lib.hid (G44.out.step hg (.inr (.inr (by have z := Z45.out; omega))))
   clear G44
   have Z53 := hzz hg Z48
   clear hg
   obtain ⟨ta, hta⟩ : ∃ ta, ta = false := ⟨_, rfl⟩
   skip
   go_upto_region 8 with (fail)
   go_loopw [35] (fun s35 wr => ∃ j : Nat, j ≤ ns.length ∧ s35 = .int .i64 j ∧ Par wr g r2 (.slice (some ⟨b, 0, none⟩) N cap) d ∧ Box wr w6.heap.size 0 (vC ⟨[], ty1, 0, false, tlo, thi, vn, 0⟩) ∧ Ow vC 8 36 wr (g + 1) (.slice (some ⟨b, 0, none⟩) N cap) (vs ++ ((ns.take j).map (updV (ty1, false, tlo, thi) vn) ++ ns.drop j)) ∧ Fr g (.slice (some ⟨b, 0, none⟩) N cap) w wr ∧ w6.heap.size < wr.heap.size) (fun i _ => ns.length - (intOf i).toNat)
   case atStart => exact ⟨0, Nat.zero_le _, rfl, P51.out, X47.out, by simpa using O50.out, G52.out, (by have z := Z53.out; omega)⟩
   case round =>
    obtain ⟨j, hj, rfl, hP', hX', hO', hG', hS'⟩ := hrel
    clear P51 G52 X49 X47 O50
    have P1 := Lib.hid hP'
    have X1 := Lib.hid hX'
    have O1 := Lib.hid hO'
    have G1 := Lib.hid hG'
    have ZS := Lib.hid (And.intro hS' Z53.out)
    clear hP' hX' hO' hG' hS'
    have w1 : IntKind.i64.wrap ((j : Int) + 1) = j + 1 := by rw [IntKind.wrap_i64]; have := HLN.out; omega
    by_cases hlt : j < ns.length
    ·skip
     obtain ⟨x, hx⟩ : ∃ x, ns[j]? = some x := ⟨_, List.getElem?_eq_getElem hlt⟩
     have HX := Lib.hid hx
     have hz : (j : Int) < ns.length := by omega
     clear hx
     have HAT := Lib.hid (show (vs ++ ((ns.take j).map (updV (ty1, false, tlo, thi) vn) ++ ns.drop j))[vs.length + j]? = some x by
      rw [List.getElem?_append_right (Nat.le_add_right _ _), Nat.add_sub_cancel_left, List.getElem?_append_right (by rw [List.length_map, List.length_take]; omega), List.length_map, List.length_take, Nat.min_eq_left (by omega), Nat.sub_self, List.getElem?_drop, Nat.add_zero]
      exact HX.out)
     have HSET := Lib.hid (show (vs ++ ((ns.take j).map (updV (ty1, false, tlo, thi) vn) ++ ns.drop j)).set (vs.length + j) (updV (ty1, false, tlo, thi) vn x) = vs ++ ((ns.take (j + 1)).map (updV (ty1, false, tlo, thi) vn) ++ ns.drop (j + 1)) by
      have hx := HX.out
      obtain ⟨h1, h2⟩ := List.getElem?_eq_some_iff.1 hx
      rw [List.set_append_right _ _ (Nat.le_add_right _ _), Nat.add_sub_cancel_left, List.set_append_right _ _ (by rw [List.length_map, List.length_take]; omega), List.length_map, List.length_take, Nat.min_eq_left (by omega), Nat.sub_self]
      rw [List.drop_eq_getElem_cons h1, List.set_cons_zero, List.take_succ_eq_append_getElem h1, List.map_append, List.append_assoc, h2]
      rfl)
     generalize (vs ++ ((ns.take j).map (updV (ty1, false, tlo, thi) vn) ++ ns.drop j)) = L at *
     go_upto_region 11 with (fail)
     refine wp_region_T (by kernel_rfl) (fun w' => Box w' (w6.heap.size) 0 (vC ⟨[], ty1, 0, false, tlo, thi, vn, 0⟩)) [] (box_drew X1.out) (fun hHeld => ?_)
     have hb := (Below.refl wr.heap.size wr).drew
     generalize wr.drew = w11 at *
     have hg := gr_of (row := some wr.heap.size) hb
     have X301 := hbx hg (by have z := ZS.out; omega) X1
     clear X1
     have O302 := Lib.hid (Ow.gr2 O1.out hg (by rw [OB.out]; intro e0; injection e0 with e0; have z := ZS.out; omega))
     clear O1
     have P303 := Lib.hid (P1.out.gr hg (by have z := ZS.out; omega))
     clear P1
     have G304 := Lib.hid (G1.out.step hg (.inr (.inr (by have z := ZS.out; omega))))
     clear G1
     have Z305 := hzz hg ZS
     clear hg hb
     refine wpAnyT_take (i := 0) (v := ?_) rfl (by kernel_rfl) (by kernel_rfl) (by kernel_rfl) (fun _ _ _ h => h) (Or.inl ⟨by rfl, ?_⟩) (by assumption) ?_
     rotate_left 1
     ·intro w_ hSw; clear hSw; go_simp <;> (with_reducible rfl)
     try simp only [Act.put, List.setIfInBounds_toArray, List.set_cons_zero, List.set_cons_succ, List.getElem_toArray, List.getElem_cons_succ, List.getElem_cons_zero]
     refine wpAnyT_take (i := 5) (v := ?_) rfl (by kernel_rfl) (by kernel_rfl) (by kernel_rfl) (fun _ _ _ h => h) (Or.inl ⟨by rfl, ?_⟩) (by assumption) ?_
     rotate_left 1
     ·intro w_ hSw; clear hSw; go_simp <;> (with_reducible rfl)
     try simp only [Act.put, List.setIfInBounds_toArray, List.set_cons_zero, List.set_cons_succ, List.getElem_toArray, List.getElem_cons_succ, List.getElem_cons_zero]
     refine wpAnyT_take (i := 6) (v := ?_) rfl (by kernel_rfl) (by kernel_rfl) (by kernel_rfl) (fun _ _ _ h => h) (Or.inl ⟨by rfl, ?_⟩) (by assumption) ?_
     rotate_left 1
     ·intro w_ hSw; obtain ⟨c1, _⟩ := cell_of hSw (i := 1) rfl; go_simp <;> (with_reducible rfl)
     try simp only [Act.put, List.setIfInBounds_toArray, List.set_cons_zero, List.set_cons_succ, List.getElem_toArray, List.getElem_cons_succ, List.getElem_cons_zero]
     refine wpAnyT_take (i := 1) (v := ?_) rfl (by kernel_rfl) (by kernel_rfl) (by kernel_rfl) (fun _ _ _ h => h) (Or.inl ⟨by rfl, ?_⟩) (by assumption) ?_
     rotate_left 1
     ·intro w_ hSw; clear hSw; go_simp <;> (with_reducible rfl)
     try simp only [Act.put, List.setIfInBounds_toArray, List.set_cons_zero, List.set_cons_succ, List.getElem_toArray, List.getElem_cons_succ, List.getElem_cons_zero]
     refine wpAnyT_take (i := 2) (v := ?_) rfl (by kernel_rfl) (by kernel_rfl) (by kernel_rfl) (fun _ _ _ h => h) (Or.inl ⟨by rfl, ?_⟩) (by assumption) ?_
     rotate_left 1
     ·intro w_ hSw; clear hSw; go_simp <;> (with_reducible rfl)
     try simp only [Act.put, List.setIfInBounds_toArray, List.set_cons_zero, List.set_cons_succ, List.getElem_toArray, List.getElem_cons_succ, List.getElem_cons_zero]
     refine wpAnyT_take (i := 3) (v := ?_) rfl (by kernel_rfl) (by kernel_rfl) (by kernel_rfl) (fun _ _ _ h => h) (Or.inl ⟨by rfl, ?_⟩) (by assumption) ?_
     rotate_left 1
     ·intro w_ hSw; clear hSw; go_simp <;> (with_reducible rfl)
     try simp only [Act.put, List.setIfInBounds_toArray, List.set_cons_zero, List.set_cons_succ, List.getElem_toArray, List.getElem_cons_succ, List.getElem_cons_zero]
     refine wpAnyT_take (i := 4) (v := ?_) rfl (by kernel_rfl) (by kernel_rfl) (by kernel_rfl) (fun _ _ _ h => h) (Or.inl ⟨by rfl, ?_⟩) (by assumption) ?_
     rotate_left 1
     ·intro w_ hSw; clear hSw; go_simp <;> (with_reducible rfl)
     try simp only [Act.put, List.setIfInBounds_toArray, List.set_cons_zero, List.set_cons_succ, List.getElem_toArray, List.getElem_cons_succ, List.getElem_cons_zero]
     refine wpAnyT_take (i := 7) (v := ?_) rfl (by kernel_rfl) (by kernel_rfl) (by kernel_rfl) (fun _ _ _ h => h) (Or.inl ⟨by rfl, ?_⟩) (by assumption) ?_
     rotate_left 1
     ·intro w_ hSw; clear hSw; go_simp <;> (with_reducible rfl)
     try simp only [Act.put, List.setIfInBounds_toArray, List.set_cons_zero, List.set_cons_succ, List.getElem_toArray, List.getElem_cons_succ, List.getElem_cons_zero]
     refine wpAnyT_take (i := 8) (v := ?_) rfl (by kernel_rfl) (by kernel_rfl) (by kernel_rfl) (fun _ _ _ h => h) (Or.inl ⟨by rfl, ?_⟩) (by assumption) ?_
     rotate_left 1
     ·intro w_ hSw; obtain ⟨c3, _⟩ := cell_of hSw (i := 3) rfl; go_simp <;> (with_reducible rfl)
     try simp only [Act.put, List.setIfInBounds_toArray, List.set_cons_zero, List.set_cons_succ, List.getElem_toArray, List.getElem_cons_succ, List.getElem_cons_zero]
     refine wpAnyT_take (i := 9) (v := ?_) rfl (by kernel_rfl) (by kernel_rfl) (by kernel_rfl) (fun _ _ _ h => h) (Or.inl ⟨by rfl, ?_⟩) (by assumption) ?_
     rotate_left 1
     ·intro w_ hSw; clear hSw; go_simp <;> (with_reducible rfl)
     try simp only [Act.put, List.setIfInBounds_toArray, List.set_cons_zero, List.set_cons_succ, List.getElem_toArray, List.getElem_cons_succ, List.getElem_cons_zero]
     refine wpAnyT_take (i := 10) (v := ?_) rfl (by kernel_rfl) (by kernel_rfl) (by kernel_rfl) (fun _ _ _ h => h) (Or.inl ⟨by rfl, ?_⟩) (by assumption) ?_
     rotate_left 1
     ·intro w_ hSw; obtain ⟨c4, _⟩ := cell_of hSw (i := 4) rfl; go_simp <;> (with_reducible rfl)
     try simp only [Act.put, List.setIfInBounds_toArray, List.set_cons_zero, List.set_cons_succ, List.getElem_toArray, List.getElem_cons_succ, List.getElem_cons_zero]
     refine wpAnyT_take (i := 11) (v := ?_) rfl (by kernel_rfl) (by kernel_rfl) (by kernel_rfl) (fun _ _ _ h => h) (Or.inl ⟨by rfl, ?_⟩) (by assumption) ?_
     rotate_left 1
     ·intro w_ hSw; clear hSw; go_simp <;> (with_reducible rfl)
     try simp only [Act.put, List.setIfInBounds_toArray, List.set_cons_zero, List.set_cons_succ, List.getElem_toArray, List.getElem_cons_succ, List.getElem_cons_zero]
     refine wpAnyT_take (i := 12) (v := ?_) rfl (by kernel_rfl) (by kernel_rfl) (by kernel_rfl) (fun _ _ _ h => h) (Or.inl ⟨by rfl, ?_⟩) (by assumption) ?_
     rotate_left 1
     ·intro w_ hSw; obtain ⟨c5, _⟩ := cell_of hSw (i := 5) rfl; go_simp <;> (with_reducible rfl)
     try simp only [Act.put, List.setIfInBounds_toArray, List.set_cons_zero, List.set_cons_succ, List.getElem_toArray, List.getElem_cons_succ, List.getElem_cons_zero]
     refine wpAnyT_take (i := 13) (v := ?_) rfl (by kernel_rfl) (by kernel_rfl) (by kernel_rfl) (fun _ _ _ h => h) (Or.inl ⟨by rfl, ?_⟩) (by assumption) ?_
     rotate_left 1
     ·intro w_ hSw; clear hSw; go_simp <;> (with_reducible rfl)
     try simp only [Act.put, List.setIfInBounds_toArray, List.set_cons_zero, List.set_cons_succ, List.getElem_toArray, List.getElem_cons_succ, List.getElem_cons_zero]
     refine wpAnyT_take (i := 14) (v := ?_) rfl (by kernel_rfl) (by kernel_rfl) (by kernel_rfl) (fun _ _ _ h => h) (Or.inl ⟨by rfl, ?_⟩) (by assumption) ?_
     rotate_left 1
     ·intro w_ hSw; obtain ⟨c6, _⟩ := cell_of hSw (i := 6) rfl; go_simp <;> (with_reducible rfl)
     try simp only [Act.put, List.setIfInBounds_toArray, List.set_cons_zero, List.set_cons_succ, List.getElem_toArray, List.getElem_cons_succ, List.getElem_cons_zero]
     refine wpAnyT_take (i := 15) (v := ?_) rfl (by kernel_rfl) (by kernel_rfl) (by kernel_rfl) (fun _ _ _ h => h) (Or.inl ⟨by rfl, ?_⟩) (by assumption) ?_
     rotate_left 1
     ·intro w_ hSw; clear hSw; go_simp <;> (with_reducible rfl)
     try simp only [Act.put, List.setIfInBounds_toArray, List.set_cons_zero, List.set_cons_succ, List.getElem_toArray, List.getElem_cons_succ, List.getElem_cons_zero]
     refine wpAnyT_take (i := 16) (v := ?_) rfl (by kernel_rfl) (by kernel_rfl) (by kernel_rfl) (fun _ _ _ h => h) (Or.inl ⟨by rfl, ?_⟩) (by assumption) ?_
     rotate_left 1
     ·intro w_ hSw; clear hSw; go_simp <;> (with_reducible rfl)
     try simp only [Act.put, List.setIfInBounds_toArray, List.set_cons_zero, List.set_cons_succ, List.getElem_toArray, List.getElem_cons_succ, List.getElem_cons_zero]
     refine wpAnyT_ready (rs := [17]) (by kernel_rfl) (by simp) ?_
     refine AllReadyT.cons rfl (fun K hK => ?_) AllReadyT.nil
     refine t_setrow vC_len O302.out (vs.length + j) 1 ({ x with type := ty1 }) (.int .i64 ty1) HAT.out (by decide) rfl (ow_free O302.out) 3 57 47 (vs.length * 8 + j * 8 + 1) (by omega) rfl rfl rfl rfl rfl rfl (by kernel_rfl) ?_
     intro w12 hO hg hs
     have HO := Lib.hid hO
     have HS := Lib.hid hs
     clear hO hs
     have X307 := hbx hg (by have z := Z305.out; omega) X301
     clear X301
     have P308 := Lib.hid (P303.out.gr hg (by have z := Z305.out; omega))
     clear P303
     have G309 := Lib.hid (G304.out.step hg (.inr (.inl rfl)))
     clear G304
     have Z310 := hzz hg Z305
     have Z306 := HS
     clear HS hg
     have O311 := HO
     clear O302 HO
     refine hK.out _ _ X307.out (fun hHeld => ?_)
     clear hK K
     try simp only [Act.put, List.setIfInBounds_toArray, List.set_cons_zero, List.set_cons_succ, List.getElem_toArray, List.getElem_cons_succ, List.getElem_cons_zero]
     refine wpAnyT_take (i := 18) (v := ?_) rfl (by kernel_rfl) (by kernel_rfl) (by kernel_rfl) (fun _ _ _ h => h) (Or.inl ⟨by rfl, ?_⟩) (by assumption) ?_
     rotate_left 1
     ·intro w_ hSw; clear hSw; go_simp <;> (with_reducible rfl)
     try simp only [Act.put, List.setIfInBounds_toArray, List.set_cons_zero, List.set_cons_succ, List.getElem_toArray, List.getElem_cons_succ, List.getElem_cons_zero]
     refine wpAnyT_take (i := 19) (v := ?_) rfl (by kernel_rfl) (by kernel_rfl) (by kernel_rfl) (fun _ _ _ h => h) (Or.inl ⟨by rfl, ?_⟩) (by assumption) ?_
     rotate_left 1
     ·intro w_ hSw; clear hSw; go_simp <;> (with_reducible rfl)
     try simp only [Act.put, List.setIfInBounds_toArray, List.set_cons_zero, List.set_cons_succ, List.getElem_toArray, List.getElem_cons_succ, List.getElem_cons_zero]
     refine wpAnyT_ready (rs := [20]) (by kernel_rfl) (by simp) ?_
     refine AllReadyT.cons rfl (fun K hK => ?_) AllReadyT.nil
     refine t_setrow vC_len O311.out (vs.length + j) 3 ({ ({ x with type := ty1 }) with array := false }) (.bool false) (List.getElem?_set_self (by have := (List.getElem?_eq_some_iff.1 HAT.out).1; simpa using this)) (by decide) rfl (ow_free O311.out) 4 59 49 (vs.length * 8 + j * 8 + 3) (by omega) rfl rfl rfl rfl rfl rfl (by kernel_rfl) ?_
     intro w13 hO hg hs
     have HO := Lib.hid hO
     have HS := Lib.hid hs
     clear hO hs
     have X313 := hbx hg (by have z306 := Z306.out; have z := Z310.out; omega) X307
     clear X307
     have P314 := Lib.hid (P308.out.gr hg (by have z306 := Z306.out; have z := Z310.out; omega))
     clear P308
     have G315 := Lib.hid (G309.out.step hg (.inr (.inl rfl)))
     clear G309
     have Z316 := hzz hg Z310
     have Z312 := HS
     clear HS hg
     have O317 := HO
     clear O311 HO
     refine hK.out _ _ X313.out (fun hHeld => ?_)
     clear hK K
     try simp only [Act.put, List.setIfInBounds_toArray, List.set_cons_zero, List.set_cons_succ, List.getElem_toArray, List.getElem_cons_succ, List.getElem_cons_zero]
     refine wpAnyT_take (i := 21) (v := ?_) rfl (by kernel_rfl) (by kernel_rfl) (by kernel_rfl) (fun _ _ _ h => h) (Or.inl ⟨by rfl, ?_⟩) (by assumption) ?_
     rotate_left 1
     ·intro w_ hSw; clear hSw; go_simp <;> (with_reducible rfl)
     try simp only [Act.put, List.setIfInBounds_toArray, List.set_cons_zero, List.set_cons_succ, List.getElem_toArray, List.getElem_cons_succ, List.getElem_cons_zero]
     refine wpAnyT_take (i := 22) (v := ?_) rfl (by kernel_rfl) (by kernel_rfl) (by kernel_rfl) (fun _ _ _ h => h) (Or.inl ⟨by rfl, ?_⟩) (by assumption) ?_
     rotate_left 1
     ·intro w_ hSw; clear hSw; go_simp <;> (with_reducible rfl)
     try simp only [Act.put, List.setIfInBounds_toArray, List.set_cons_zero, List.set_cons_succ, List.getElem_toArray, List.getElem_cons_succ, List.getElem_cons_zero]
     refine wpAnyT_ready (rs := [23]) (by kernel_rfl) (by simp) ?_
     refine AllReadyT.cons rfl (fun K hK => ?_) AllReadyT.nil
     refine t_setrow vC_len O317.out (vs.length + j) 4 ({ ({ ({ x with type := ty1 }) with array := false }) with lo := tlo }) (.int .i64 tlo) (List.getElem?_set_self (by have := (List.getElem?_eq_some_iff.1 HAT.out).1; simpa using this)) (by decide) rfl (ow_free O317.out) 2 61 51 (vs.length * 8 + j * 8 + 4) (by omega) rfl rfl rfl rfl rfl rfl (by kernel_rfl) ?_
     intro w14 hO hg hs
     have HO := Lib.hid hO
     have HS := Lib.hid hs
     clear hO hs
     have X319 := hbx hg (by have z306 := Z306.out; have z312 := Z312.out; have z := Z316.out; omega) X313
     clear X313
     have P320 := Lib.hid (P314.out.gr hg (by have z306 := Z306.out; have z312 := Z312.out; have z := Z316.out; omega))
     clear P314
     have G321 := Lib.hid (G315.out.step hg (.inr (.inl rfl)))
     clear G315
     have Z322 := hzz hg Z316
     have Z318 := HS
     clear HS hg
     have O323 := HO
     clear O317 HO
     refine hK.out _ _ X319.out (fun hHeld => ?_)
     clear hK K
     try simp only [Act.put, List.setIfInBounds_toArray, List.set_cons_zero, List.set_cons_succ, List.getElem_toArray, List.getElem_cons_succ, List.getElem_cons_zero]
     refine wpAnyT_take (i := 24) (v := ?_) rfl (by kernel_rfl) (by kernel_rfl) (by kernel_rfl) (fun _ _ _ h => h) (Or.inl ⟨by rfl, ?_⟩) (by assumption) ?_
     rotate_left 1
     ·intro w_ hSw; clear hSw; go_simp <;> (with_reducible rfl)
     try simp only [Act.put, List.setIfInBounds_toArray, List.set_cons_zero, List.set_cons_succ, List.getElem_toArray, List.getElem_cons_succ, List.getElem_cons_zero]
     refine wpAnyT_take (i := 25) (v := ?_) rfl (by kernel_rfl) (by kernel_rfl) (by kernel_rfl) (fun _ _ _ h => h) (Or.inl ⟨by rfl, ?_⟩) (by assumption) ?_
     rotate_left 1
     ·intro w_ hSw; clear hSw; go_simp <;> (with_reducible rfl)
     try simp only [Act.put, List.setIfInBounds_toArray, List.set_cons_zero, List.set_cons_succ, List.getElem_toArray, List.getElem_cons_succ, List.getElem_cons_zero]
     refine wpAnyT_ready (rs := [26]) (by kernel_rfl) (by simp) ?_
     refine AllReadyT.cons rfl (fun K hK => ?_) AllReadyT.nil
     refine t_setrow vC_len O323.out (vs.length + j) 5 ({ ({ ({ ({ x with type := ty1 }) with array := false }) with lo := tlo }) with hi := thi }) (.int .i64 thi) (List.getElem?_set_self (by have := (List.getElem?_eq_some_iff.1 HAT.out).1; simpa using this)) (by decide) rfl (ow_free O323.out) 2 63 53 (vs.length * 8 + j * 8 + 5) (by omega) rfl rfl rfl rfl rfl rfl (by kernel_rfl) ?_
     intro w15 hO hg hs
     have HO := Lib.hid hO
     have HS := Lib.hid hs
     clear hO hs
     have X325 := hbx hg (by have z306 := Z306.out; have z312 := Z312.out; have z318 := Z318.out; have z := Z322.out; omega) X319
     clear X319
     have P326 := Lib.hid (P320.out.gr hg (by have z306 := Z306.out; have z312 := Z312.out; have z318 := Z318.out; have z := Z322.out; omega))
     clear P320
     have G327 := Lib.hid (G321.out.step hg (.inr (.inl rfl)))
     clear G321
     have Z328 := hzz hg Z322
     have Z324 := HS
     clear HS hg
     have O329 := HO
     clear O323 HO
     refine hK.out _ _ X325.out (fun hHeld => ?_)
     clear hK K
     try simp only [Act.put, List.setIfInBounds_toArray, List.set_cons_zero, List.set_cons_succ, List.getElem_toArray, List.getElem_cons_succ, List.getElem_cons_zero]
     refine wpAnyT_take (i := 27) (v := ?_) rfl (by kernel_rfl) (by kernel_rfl) (by kernel_rfl) (fun _ _ _ h => h) (Or.inl ⟨by rfl, ?_⟩) (by assumption) ?_
     rotate_left 1
     ·intro w_ hSw; clear hSw; go_simp <;> (with_reducible rfl)
     try simp only [Act.put, List.setIfInBounds_toArray, List.set_cons_zero, List.set_cons_succ, List.getElem_toArray, List.getElem_cons_succ, List.getElem_cons_zero]
     refine wpAnyT_take (i := 28) (v := ?_) rfl (by kernel_rfl) (by kernel_rfl) (by kernel_rfl) (fun _ _ _ h => h) (Or.inl ⟨by rfl, ?_⟩) (by assumption) ?_
     rotate_left 1
     ·intro w_ hSw; clear hSw; go_simp <;> (with_reducible rfl)
     try simp only [Act.put, List.setIfInBounds_toArray, List.set_cons_zero, List.set_cons_succ, List.getElem_toArray, List.getElem_cons_succ, List.getElem_cons_zero]
     refine wpAnyT_ready (rs := [29]) (by kernel_rfl) (by simp) ?_
     refine AllReadyT.cons rfl (fun K hK => ?_) AllReadyT.nil
     refine t_setrow vC_len O329.out (vs.length + j) 6 ({ ({ ({ ({ ({ x with type := ty1 }) with array := false }) with lo := tlo }) with hi := thi }) with init := vn }) (.int .i64 (vn)) (List.getElem?_set_self (by have := (List.getElem?_eq_some_iff.1 HAT.out).1; simpa using this)) (by decide) rfl (ow_free O329.out) 2 65 55 (vs.length * 8 + j * 8 + 6) (by omega) rfl rfl rfl rfl rfl rfl (by kernel_rfl) ?_
     intro w16 hO hg hs
     have HO := Lib.hid hO
     have HS := Lib.hid hs
     clear hO hs
     have X331 := hbx hg (by have z306 := Z306.out; have z312 := Z312.out; have z318 := Z318.out; have z324 := Z324.out; have z := Z328.out; omega) X325
     clear X325
     have P332 := Lib.hid (P326.out.gr hg (by have z306 := Z306.out; have z312 := Z312.out; have z318 := Z318.out; have z324 := Z324.out; have z := Z328.out; omega))
     clear P326
     have G333 := Lib.hid (G327.out.step hg (.inr (.inl rfl)))
     clear G327
     have Z334 := hzz hg Z328
     have Z330 := HS
     clear HS hg
     have O335 := HO
     clear O329 HO
     refine hK.out _ _ X331.out (fun hHeld => ?_)
     clear hK K
     try simp only [Act.put, List.setIfInBounds_toArray, List.set_cons_zero, List.set_cons_succ, List.getElem_toArray, List.getElem_cons_succ, List.getElem_cons_zero]
     refine wpAnyT_done (by kernel_rfl) ?_ _
     have HOF := Lib.hid (show Ow vC 8 36 w16 (g + 1) (.slice (some ⟨b, 0, none⟩) N cap) (L.set (vs.length + j) (updV (ty1, false, tlo, thi) vn x)) by
      have h9 := O335.out
      simp only [List.set_set] at h9
      exact h9)
     rw [HSET.out] at HOF
     go_wp2_with fail
     go_roundw
     case rel => exact ⟨j + 1, by omega, by go_num, P332.out, X331.out, HOF.out, G333.out, (by have z306 := Z306.out; have z312 := Z312.out; have z318 := Z318.out; have z324 := Z324.out; have z330 := Z330.out; have z := Z334.out; omega)⟩
     case measure => simp [intOf]; omega
    ·skip
     have ej : j = ns.length := by omega
     have hz : ¬ (j : Int) < ns.length := by omega
     have HOF := Lib.hid (show Ow vC 8 36 wr (g + 1) (.slice (some ⟨b, 0, none⟩) N cap) (vs ++ ns.map (updV (ty1, false, tlo, thi) vn)) by
      have h9 := O1.out
      rw [ej, List.take_length, List.drop_length, List.append_nil] at h9
      exact h9)
     clear ej O1
     go_wp2_with fail
     refine end0 rfl rfl ?_
     exact GvV.okOf HR46.out.symm R40.out G1.out (LinkV.refl _ _) P1.out HOF.out
 ·skip
  have hq := HR15.out
  rw [if_neg hw] at hq
  simp only [bind_okE] at hq
  have HR29 := Lib.hid hq
  clear hq HR15
  go_wp2_with (go_at_call 32; fail)
  refine (take_no P26.out R17.out (mt (headS_txt R17.out (by decide) (by decide) (by decide) (by decide)).1 hw)).mono ?_
  rintro e w8 ⟨rfl, hb⟩
  have hg := gr_of (row := some w7.heap.size) hb
  have X30 := hbx hg (by have z := Z28.out; omega) X24
  clear X24
  have X31 := hbx hg (by have z := Z28.out; omega) X23
  clear X23
  have O32 := Lib.hid (Ow.gr2 O25.out hg (by rw [OB.out]; intro e0; injection e0 with e0; have z := Z28.out; omega))
  clear O25
  have P33 := Lib.hid (P26.out.gr hg (by have z := Z28.out; omega))
  clear P26
  have G34 := Lib.hid (G27.out.step hg (.inr (.inr (by have z := Z28.out; omega))))
  clear G27
  have Z35 := hzz hg Z28
  clear hg hb
  go_upto_region 8 with (fail)
  go_loopw [35] (fun s35 wr => ∃ j : Nat, j ≤ ns.length ∧ s35 = .int .i64 j ∧ Par wr g r1 (.slice (some ⟨b, 0, none⟩) N cap) d ∧ Box wr w6.heap.size 0 (vC ⟨[], ty1, 0, ta, tlo, thi, 0, 0⟩) ∧ Ow vC 8 36 wr (g + 1) (.slice (some ⟨b, 0, none⟩) N cap) (vs ++ ((ns.take j).map (updV (ty1, ta, tlo, thi) 0) ++ ns.drop j)) ∧ Fr g (.slice (some ⟨b, 0, none⟩) N cap) w wr ∧ w6.heap.size < wr.heap.size) (fun i _ => ns.length - (intOf i).toNat)
  case atStart => exact ⟨0, Nat.zero_le _, rfl, P33.out, X31.out, by simpa using O32.out, G34.out, (by have z := Z35.out; omega)⟩
  case round =>
   obtain ⟨j, hj, rfl, hP', hX', hO', hG', hS'⟩ := hrel
   clear P33 G34 X30 X31 O32
   have P1 := Lib.hid hP'
   have X1 := Lib.hid hX'
   have O1 := Lib.hid hO'
   have G1 := Lib.hid hG'
   have ZS := Lib.hid (And.intro hS' Z35.out)
   clear hP' hX' hO' hG' hS'
   have w1 : IntKind.i64.wrap ((j : Int) + 1) = j + 1 := by rw [IntKind.wrap_i64]; have := HLN.out; omega
   by_cases hlt : j < ns.length
   ·skip
    obtain ⟨x, hx⟩ : ∃ x, ns[j]? = some x := ⟨_, List.getElem?_eq_getElem hlt⟩
    have HX := Lib.hid hx
    have hz : (j : Int) < ns.length := by omega
    clear hx
    have HAT := Lib.hid (show (vs ++ ((ns.take j).map (updV (ty1, ta, tlo, thi) 0) ++ ns.drop j))[vs.length + j]? = some x by
     rw [List.getElem?_append_right (Nat.le_add_right _ _), Nat.add_sub_cancel_left, List.getElem?_append_right (by rw [List.length_map, List.length_take]; omega), List.length_map, List.length_take, Nat.min_eq_left (by omega), Nat.sub_self, List.getElem?_drop, Nat.add_zero]
     exact HX.out)
    have HSET := Lib.hid (show (vs ++ ((ns.take j).map (updV (ty1, ta, tlo, thi) 0) ++ ns.drop j)).set (vs.length + j) (updV (ty1, ta, tlo, thi) 0 x) = vs ++ ((ns.take (j + 1)).map (updV (ty1, ta, tlo, thi) 0) ++ ns.drop (j + 1)) by
     have hx := HX.out
     obtain ⟨h1, h2⟩ := List.getElem?_eq_some_iff.1 hx
     rw [List.set_append_right _ _ (Nat.le_add_right _ _), Nat.add_sub_cancel_left, List.set_append_right _ _ (by rw [List.length_map, List.length_take]; omega), List.length_map, List.length_take, Nat.min_eq_left (by omega), Nat.sub_self]
     rw [List.drop_eq_getElem_cons h1, List.set_cons_zero, List.take_succ_eq_append_getElem h1, List.map_append, List.append_assoc, h2]
     rfl)
    generalize (vs ++ ((ns.take j).map (updV (ty1, ta, tlo, thi) 0) ++ ns.drop j)) = L at *
    go_upto_region 11 with (fail)
    refine wp_region_T (by kernel_rfl) (fun w' => Box w' (w6.heap.size) 0 (vC ⟨[], ty1, 0, ta, tlo, thi, 0, 0⟩)) [] (box_drew X1.out) (fun hHeld => ?_)
    have hb := (Below.refl wr.heap.size wr).drew
    generalize wr.drew = w9 at *
    have hg := gr_of (row := some wr.heap.size) hb
    have X301 := hbx hg (by have z := ZS.out; omega) X1
    clear X1
    have O302 := Lib.hid (Ow.gr2 O1.out hg (by rw [OB.out]; intro e0; injection e0 with e0; have z := ZS.out; omega))
    clear O1
    have P303 := Lib.hid (P1.out.gr hg (by have z := ZS.out; omega))
    clear P1
    have G304 := Lib.hid (G1.out.step hg (.inr (.inr (by have z := ZS.out; omega))))
    clear G1
    have Z305 := hzz hg ZS
    clear hg hb
    refine wpAnyT_take (i := 0) (v := ?_) rfl (by kernel_rfl) (by kernel_rfl) (by kernel_rfl) (fun _ _ _ h => h) (Or.inl ⟨by rfl, ?_⟩) (by assumption) ?_
    rotate_left 1
    ·intro w_ hSw; clear hSw; go_simp <;> (with_reducible rfl)
    try simp only [Act.put, List.setIfInBounds_toArray, List.set_cons_zero, List.set_cons_succ, List.getElem_toArray, List.getElem_cons_succ, List.getElem_cons_zero]
    refine wpAnyT_take (i := 5) (v := ?_) rfl (by kernel_rfl) (by kernel_rfl) (by kernel_rfl) (fun _ _ _ h => h) (Or.inl ⟨by rfl, ?_⟩) (by assumption) ?_
    rotate_left 1
    ·intro w_ hSw; clear hSw; go_simp <;> (with_reducible rfl)
    try simp only [Act.put, List.setIfInBounds_toArray, List.set_cons_zero, List.set_cons_succ, List.getElem_toArray, List.getElem_cons_succ, List.getElem_cons_zero]
    refine wpAnyT_take (i := 6) (v := ?_) rfl (by kernel_rfl) (by kernel_rfl) (by kernel_rfl) (fun _ _ _ h => h) (Or.inl ⟨by rfl, ?_⟩) (by assumption) ?_
    rotate_left 1
    ·intro w_ hSw; obtain ⟨c1, _⟩ := cell_of hSw (i := 1) rfl; go_simp <;> (with_reducible rfl)
    try simp only [Act.put, List.setIfInBounds_toArray, List.set_cons_zero, List.set_cons_succ, List.getElem_toArray, List.getElem_cons_succ, List.getElem_cons_zero]
    refine wpAnyT_take (i := 1) (v := ?_) rfl (by kernel_rfl) (by kernel_rfl) (by kernel_rfl) (fun _ _ _ h => h) (Or.inl ⟨by rfl, ?_⟩) (by assumption) ?_
    rotate_left 1
    ·intro w_ hSw; clear hSw; go_simp <;> (with_reducible rfl)
    try simp only [Act.put, List.setIfInBounds_toArray, List.set_cons_zero, List.set_cons_succ, List.getElem_toArray, List.getElem_cons_succ, List.getElem_cons_zero]
    refine wpAnyT_take (i := 2) (v := ?_) rfl (by kernel_rfl) (by kernel_rfl) (by kernel_rfl) (fun _ _ _ h => h) (Or.inl ⟨by rfl, ?_⟩) (by assumption) ?_
    rotate_left 1
    ·intro w_ hSw; clear hSw; go_simp <;> (with_reducible rfl)
    try simp only [Act.put, List.setIfInBounds_toArray, List.set_cons_zero, List.set_cons_succ, List.getElem_toArray, List.getElem_cons_succ, List.getElem_cons_zero]
    refine wpAnyT_take (i := 3) (v := ?_) rfl (by kernel_rfl) (by kernel_rfl) (by kernel_rfl) (fun _ _ _ h => h) (Or.inl ⟨by rfl, ?_⟩) (by assumption) ?_
    rotate_left 1
    ·intro w_ hSw; clear hSw; go_simp <;> (with_reducible rfl)
    try simp only [Act.put, List.setIfInBounds_toArray, List.set_cons_zero, List.set_cons_succ, List.getElem_toArray, List.getElem_cons_succ, List.getElem_cons_zero]
    refine wpAnyT_take (i := 4) (v := ?_) rfl (by kernel_rfl) (by kernel_rfl) (by kernel_rfl) (fun _ _ _ h => h) (Or.inl ⟨by rfl, ?_⟩) (by assumption) ?_
    rotate_left 1
    ·intro w_ hSw; clear hSw; go_simp <;> (with_reducible rfl)
    try simp only [Act.put, List.setIfInBounds_toArray, List.set_cons_zero, List.set_cons_succ, List.getElem_toArray, List.getElem_cons_succ, List.getElem_cons_zero]
    refine wpAnyT_take (i := 7) (v := ?_) rfl (by kernel_rfl) (by kernel_rfl) (by kernel_rfl) (fun _ _ _ h => h) (Or.inl ⟨by rfl, ?_⟩) (by assumption) ?_
    rotate_left 1
    ·intro w_ hSw; clear hSw; go_simp <;> (with_reducible rfl)
    try simp only [Act.put, List.setIfInBounds_toArray, List.set_cons_zero, List.set_cons_succ, List.getElem_toArray, List.getElem_cons_succ, List.getElem_cons_zero]
    refine wpAnyT_take (i := 8) (v := ?_) rfl (by kernel_rfl) (by kernel_rfl) (by kernel_rfl) (fun _ _ _ h => h) (Or.inl ⟨by rfl, ?_⟩) (by assumption) ?_
    rotate_left 1
    ·intro w_ hSw; obtain ⟨c3, _⟩ := cell_of hSw (i := 3) rfl; go_simp <;> (with_reducible rfl)
    try simp only [Act.put, List.setIfInBounds_toArray, List.set_cons_zero, List.set_cons_succ, List.getElem_toArray, List.getElem_cons_succ, List.getElem_cons_zero]
    refine wpAnyT_take (i := 9) (v := ?_) rfl (by kernel_rfl) (by kernel_rfl) (by kernel_rfl) (fun _ _ _ h => h) (Or.inl ⟨by rfl, ?_⟩) (by assumption) ?_
    rotate_left 1
    ·intro w_ hSw; clear hSw; go_simp <;> (with_reducible rfl)
    try simp only [Act.put, List.setIfInBounds_toArray, List.set_cons_zero, List.set_cons_succ, List.getElem_toArray, List.getElem_cons_succ, List.getElem_cons_zero]
    refine wpAnyT_take (i := 10) (v := ?_) rfl (by kernel_rfl) (by kernel_rfl) (by kernel_rfl) (fun _ _ _ h => h) (Or.inl ⟨by rfl, ?_⟩) (by assumption) ?_
    rotate_left 1
    ·intro w_ hSw; obtain ⟨c4, _⟩ := cell_of hSw (i := 4) rfl; go_simp <;> (with_reducible rfl)
    try simp only [Act.put, List.setIfInBounds_toArray, List.set_cons_zero, List.set_cons_succ, List.getElem_toArray, List.getElem_cons_succ, List.getElem_cons_zero]
    refine wpAnyT_take (i := 11) (v := ?_) rfl (by kernel_rfl) (by kernel_rfl) (by kernel_rfl) (fun _ _ _ h => h) (Or.inl ⟨by rfl, ?_⟩) (by assumption) ?_
    rotate_left 1
    ·intro w_ hSw; clear hSw; go_simp <;> (with_reducible rfl)
    try simp only [Act.put, List.setIfInBounds_toArray, List.set_cons_zero, List.set_cons_succ, List.getElem_toArray, List.getElem_cons_succ, List.getElem_cons_zero]
    refine wpAnyT_take (i := 12) (v := ?_) rfl (by kernel_rfl) (by kernel_rfl) (by kernel_rfl) (fun _ _ _ h => h) (Or.inl ⟨by rfl, ?_⟩) (by assumption) ?_
    rotate_left 1
    ·intro w_ hSw; obtain ⟨c5, _⟩ := cell_of hSw (i := 5) rfl; go_simp <;> (with_reducible rfl)
    try simp only [Act.put, List.setIfInBounds_toArray, List.set_cons_zero, List.set_cons_succ, List.getElem_toArray, List.getElem_cons_succ, List.getElem_cons_zero]
    refine wpAnyT_take (i := 13) (v := ?_) rfl (by kernel_rfl) (by kernel_rfl) (by kernel_rfl) (fun _ _ _ h => h) (Or.inl ⟨by rfl, ?_⟩) (by assumption) ?_
    rotate_left 1
    ·intro w_ hSw; clear hSw; go_simp <;> (with_reducible rfl)
    try simp only [Act.put, List.setIfInBounds_toArray, List.set_cons_zero, List.set_cons_succ, List.getElem_toArray, List.getElem_cons_succ, List.getElem_cons_zero]
    refine wpAnyT_take (i := 14) (v := ?_) rfl (by kernel_rfl) (by kernel_rfl) (by kernel_rfl) (fun _ _ _ h => h) (Or.inl ⟨by rfl, ?_⟩) (by assumption) ?_
    rotate_left 1
    ·intro w_ hSw; obtain ⟨c6, _⟩ := cell_of hSw (i := 6) rfl; go_simp <;> (with_reducible rfl)
    try simp only [Act.put, List.setIfInBounds_toArray, List.set_cons_zero, List.set_cons_succ, List.getElem_toArray, List.getElem_cons_succ, List.getElem_cons_zero]
    refine wpAnyT_take (i := 15) (v := ?_) rfl (by kernel_rfl) (by kernel_rfl) (by kernel_rfl) (fun _ _ _ h => h) (Or.inl ⟨by rfl, ?_⟩) (by assumption) ?_
    rotate_left 1
    ·intro w_ hSw; clear hSw; go_simp <;> (with_reducible rfl)
    try simp only [Act.put, List.setIfInBounds_toArray, List.set_cons_zero, List.set_cons_succ, List.getElem_toArray, List.getElem_cons_succ, List.getElem_cons_zero]
    refine wpAnyT_take (i := 16) (v := ?_) rfl (by kernel_rfl) (by kernel_rfl) (by kernel_rfl) (fun _ _ _ h => h) (Or.inl ⟨by rfl, ?_⟩) (by assumption) ?_
    rotate_left 1
    ·intro w_ hSw; clear hSw; go_simp <;> (with_reducible rfl)
    try simp only [Act.put, List.setIfInBounds_toArray, List.set_cons_zero, List.set_cons_succ, List.getElem_toArray, List.getElem_cons_succ, List.getElem_cons_zero]
    refine wpAnyT_ready (rs := [17]) (by kernel_rfl) (by simp) ?_
    refine AllReadyT.cons rfl (fun K hK => ?_) AllReadyT.nil
    refine t_setrow vC_len O302.out (vs.length + j) 1 ({ x with type := ty1 }) (.int .i64 ty1) HAT.out (by decide) rfl (ow_free O302.out) 3 57 47 (vs.length * 8 + j * 8 + 1) (by omega) rfl rfl rfl rfl rfl rfl (by kernel_rfl) ?_
    intro w10 hO hg hs
    have HO := Lib.hid hO
    have HS := Lib.hid hs
    clear hO hs
    have X307 := hbx hg (by have z := Z305.out; omega) X301
    clear X301
    have P308 := Lib.hid (P303.out.gr hg (by have z := Z305.out; omega))
    clear P303
    have G309 := Lib.hid (G304.out.step hg (.inr (.inl rfl)))
    clear G304
    have Z310 := hzz hg Z305
    have Z306 := HS
    clear HS hg
    have O311 := HO
    clear O302 HO
    refine hK.out _ _ X307.out (fun hHeld => ?_)
    clear hK K
    try simp only [Act.put, List.setIfInBounds_toArray, List.set_cons_zero, List.set_cons_succ, List.getElem_toArray, List.getElem_cons_succ, List.getElem_cons_zero]
    refine wpAnyT_take (i := 18) (v := ?_) rfl (by kernel_rfl) (by kernel_rfl) (by kernel_rfl) (fun _ _ _ h => h) (Or.inl ⟨by rfl, ?_⟩) (by assumption) ?_
    rotate_left 1
    ·intro w_ hSw; clear hSw; go_simp <;> (with_reducible rfl)
    try simp only [Act.put, List.setIfInBounds_toArray, List.set_cons_zero, List.set_cons_succ, List.getElem_toArray, List.getElem_cons_succ, List.getElem_cons_zero]
    refine wpAnyT_take (i := 19) (v := ?_) rfl (by kernel_rfl) (by kernel_rfl) (by kernel_rfl) (fun _ _ _ h => h) (Or.inl ⟨by rfl, ?_⟩) (by assumption) ?_
    rotate_left 1
    ·intro w_ hSw; clear hSw; go_simp <;> (with_reducible rfl)
    try simp only [Act.put, List.setIfInBounds_toArray, List.set_cons_zero, List.set_cons_succ, List.getElem_toArray, List.getElem_cons_succ, List.getElem_cons_zero]
    refine wpAnyT_ready (rs := [20]) (by kernel_rfl) (by simp) ?_
    refine AllReadyT.cons rfl (fun K hK => ?_) AllReadyT.nil
    refine t_setrow vC_len O311.out (vs.length + j) 3 ({ ({ x with type := ty1 }) with array := ta }) (.bool ta) (List.getElem?_set_self (by have := (List.getElem?_eq_some_iff.1 HAT.out).1; simpa using this)) (by decide) rfl (ow_free O311.out) 4 59 49 (vs.length * 8 + j * 8 + 3) (by omega) rfl rfl rfl rfl rfl rfl (by kernel_rfl) ?_
    intro w11 hO hg hs
    have HO := Lib.hid hO
    have HS := Lib.hid hs
    clear hO hs
    have X313 := hbx hg (by have z306 := Z306.out; have z := Z310.out; omega) X307
    clear X307
    have P314 := Lib.hid (P308.out.gr hg (by have z306 := Z306.out; have z := Z310.out; omega))
    clear P308
    have G315 := Lib.hid (G309.out.step hg (.inr (.inl rfl)))
    clear G309
    have Z316 := hzz hg Z310
    have Z312 := HS
    clear HS hg
    have O317 := HO
    clear O311 HO
    refine hK.out _ _ X313.out (fun hHeld => ?_)
    clear hK K
    try simp only [Act.put, List.setIfInBounds_toArray, List.set_cons_zero, List.set_cons_succ, List.getElem_toArray, List.getElem_cons_succ, List.getElem_cons_zero]
    refine wpAnyT_take (i := 21) (v := ?_) rfl (by kernel_rfl) (by kernel_rfl) (by kernel_rfl) (fun _ _ _ h => h) (Or.inl ⟨by rfl, ?_⟩) (by assumption) ?_
    rotate_left 1
    ·intro w_ hSw; clear hSw; go_simp <;> (with_reducible rfl)
    try simp only [Act.put, List.setIfInBounds_toArray, List.set_cons_zero, List.set_cons_succ, List.getElem_toArray, List.getElem_cons_succ, List.getElem_cons_zero]
    refine wpAnyT_take (i := 22) (v := ?_) rfl (by kernel_rfl) (by kernel_rfl) (by kernel_rfl) (fun _ _ _ h => h) (Or.inl ⟨by rfl, ?_⟩) (by assumption) ?_
    rotate_left 1
    ·intro w_ hSw; clear hSw; go_simp <;> (with_reducible rfl)
    try simp only [Act.put, List.setIfInBounds_toArray, List.set_cons_zero, List.set_cons_succ, List.getElem_toArray, List.getElem_cons_succ, List.getElem_cons_zero]
    refine wpAnyT_ready (rs := [23]) (by kernel_rfl) (by simp) ?_
    refine AllReadyT.cons rfl (fun K hK => ?_) AllReadyT.nil
    refine t_setrow vC_len O317.out (vs.length + j) 4 ({ ({ ({ x with type := ty1 }) with array := ta }) with lo := tlo }) (.int .i64 tlo) (List.getElem?_set_self (by have := (List.getElem?_eq_some_iff.1 HAT.out).1; simpa using this)) (by decide) rfl (ow_free O317.out) 2 61 51 (vs.length * 8 + j * 8 + 4) (by omega) rfl rfl rfl rfl rfl rfl (by kernel_rfl) ?_
    intro w12 hO hg hs
    have HO := Lib.hid hO
    have HS := Lib.hid hs
    clear hO hs
    have X319 := hbx hg (by have z306 := Z306.out; have z312 := Z312.out; have z := Z316.out; omega) X313
    clear X313
    have P320 := Lib.hid (P314.out.gr hg (by have z306 := Z306.out; have z312 := Z312.out; have z := Z316.out; omega))
    clear P314
    have G321 := Lib.hid (G315.out.step hg (.inr (.inl rfl)))
    clear G315
    have Z322 := hzz hg Z316
    have Z318 := HS
    clear HS hg
    have O323 := HO
    clear O317 HO
    refine hK.out _ _ X319.out (fun hHeld => ?_)
    clear hK K
    try simp only [Act.put, List.setIfInBounds_toArray, List.set_cons_zero, List.set_cons_succ, List.getElem_toArray, List.getElem_cons_succ, List.getElem_cons_zero]
    refine wpAnyT_take (i := 24) (v := ?_) rfl (by kernel_rfl) (by kernel_rfl) (by kernel_rfl) (fun _ _ _ h => h) (Or.inl ⟨by rfl, ?_⟩) (by assumption) ?_
    rotate_left 1
    ·intro w_ hSw; clear hSw; go_simp <;> (with_reducible rfl)
    try simp only [Act.put, List.setIfInBounds_toArray, List.set_cons_zero, List.set_cons_succ, List.getElem_toArray, List.getElem_cons_succ, List.getElem_cons_zero]
    refine wpAnyT_take (i := 25) (v := ?_) rfl (by kernel_rfl) (by kernel_rfl) (by kernel_rfl) (fun _ _ _ h => h) (Or.inl ⟨by rfl, ?_⟩) (by assumption) ?_
    rotate_left 1
    ·intro w_ hSw; clear hSw; go_simp <;> (with_reducible rfl)
    try simp only [Act.put, List.setIfInBounds_toArray, List.set_cons_zero, List.set_cons_succ, List.getElem_toArray, List.getElem_cons_succ, List.getElem_cons_zero]
    refine wpAnyT_ready (rs := [26]) (by kernel_rfl) (by simp) ?_
    refine AllReadyT.cons rfl (fun K hK => ?_) AllReadyT.nil
    refine t_setrow vC_len O323.out (vs.length + j) 5 ({ ({ ({ ({ x with type := ty1 }) with array := ta }) with lo := tlo }) with hi := thi }) (.int .i64 thi) (List.getElem?_set_self (by have := (List.getElem?_eq_some_iff.1 HAT.out).1; simpa using this)) (by decide) rfl (ow_free O323.out) 2 63 53 (vs.length * 8 + j * 8 + 5) (by omega) rfl rfl rfl rfl rfl rfl (by kernel_rfl) ?_
    intro w13 hO hg hs
    have HO := Lib.hid hO
    have HS := Lib.hid hs
    clear hO hs
    have X325 := hbx hg (by have z306 := Z306.out; have z312 := Z312.out; have z318 := Z318.out; have z := Z322.out; omega) X319
    clear X319
    have P326 := Lib.hid (P320.out.gr hg (by have z306 := Z306.out; have z312 := Z312.out; have z318 := Z318.out; have z := Z322.out; omega))
    clear P320
    have G327 := Lib.hid (G321.out.step hg (.inr (.inl rfl)))
    clear G321
    have Z328 := hzz hg Z322
    have Z324 := HS
    clear HS hg
    have O329 := HO
    clear O323 HO
    refine hK.out _ _ X325.out (fun hHeld => ?_)
    clear hK K
    try simp only [Act.put, List.setIfInBounds_toArray, List.set_cons_zero, List.set_cons_succ, List.getElem_toArray, List.getElem_cons_succ, List.getElem_cons_zero]
    refine wpAnyT_take (i := 27) (v := ?_) rfl (by kernel_rfl) (by kernel_rfl) (by kernel_rfl) (fun _ _ _ h => h) (Or.inl ⟨by rfl, ?_⟩) (by assumption) ?_
    rotate_left 1
    ·intro w_ hSw; clear hSw; go_simp <;> (with_reducible rfl)
    try simp only [Act.put, List.setIfInBounds_toArray, List.set_cons_zero, List.set_cons_succ, List.getElem_toArray, List.getElem_cons_succ, List.getElem_cons_zero]
    refine wpAnyT_take (i := 28) (v := ?_) rfl (by kernel_rfl) (by kernel_rfl) (by kernel_rfl) (fun _ _ _ h => h) (Or.inl ⟨by rfl, ?_⟩) (by assumption) ?_
    rotate_left 1
    ·intro w_ hSw; clear hSw; go_simp <;> (with_reducible rfl)
    try simp only [Act.put, List.setIfInBounds_toArray, List.set_cons_zero, List.set_cons_succ, List.getElem_toArray, List.getElem_cons_succ, List.getElem_cons_zero]
    refine wpAnyT_ready (rs := [29]) (by kernel_rfl) (by simp) ?_
    refine AllReadyT.cons rfl (fun K hK => ?_) AllReadyT.nil
    refine t_setrow vC_len O329.out (vs.length + j) 6 ({ ({ ({ ({ ({ x with type := ty1 }) with array := ta }) with lo := tlo }) with hi := thi }) with init := 0 }) (.int .i64 (0)) (List.getElem?_set_self (by have := (List.getElem?_eq_some_iff.1 HAT.out).1; simpa using this)) (by decide) rfl (ow_free O329.out) 2 65 55 (vs.length * 8 + j * 8 + 6) (by omega) rfl rfl rfl rfl rfl rfl (by kernel_rfl) ?_
    intro w14 hO hg hs
    have HO := Lib.hid hO
    have HS := Lib.hid hs
    clear hO hs
    have X331 := hbx hg (by have z306 := Z306.out; have z312 := Z312.out; have z318 := Z318.out; have z324 := Z324.out; have z := Z328.out; omega) X325
    clear X325
    have P332 := Lib.hid (P326.out.gr hg (by have z306 := Z306.out; have z312 := Z312.out; have z318 := Z318.out; have z324 := Z324.out; have z := Z328.out; omega))
    clear P326
    have G333 := Lib.hid (G327.out.step hg (.inr (.inl rfl)))
    clear G327
    have Z334 := hzz hg Z328
    have Z330 := HS
    clear HS hg
    have O335 := HO
    clear O329 HO
    refine hK.out _ _ X331.out (fun hHeld => ?_)
    clear hK K
    try simp only [Act.put, List.setIfInBounds_toArray, List.set_cons_zero, List.set_cons_succ, List.getElem_toArray, List.getElem_cons_succ, List.getElem_cons_zero]
    refine wpAnyT_done (by kernel_rfl) ?_ _
    have HOF := Lib.hid (show Ow vC 8 36 w14 (g + 1) (.slice (some ⟨b, 0, none⟩) N cap) (L.set (vs.length + j) (updV (ty1, ta, tlo, thi) 0 x)) by
     have h9 := O335.out
     simp only [List.set_set] at h9
     exact h9)
    rw [HSET.out] at HOF
    go_wp2_with fail
    go_roundw
    case rel => exact ⟨j + 1, by omega, by go_num, P332.out, X331.out, HOF.out, G333.out, (by have z306 := Z306.out; have z312 := Z312.out; have z318 := Z318.out; have z324 := Z324.out; have z330 := Z330.out; have z := Z334.out; omega)⟩
    case measure => simp [intOf]; omega
   ·skip
    have ej : j = ns.length := by omega
    have hz : ¬ (j : Int) < ns.length := by omega
    have HOF := Lib.hid (show Ow vC 8 36 wr (g + 1) (.slice (some ⟨b, 0, none⟩) N cap) (vs ++ ns.map (updV (ty1, ta, tlo, thi) 0)) by
     have h9 := O1.out
     rw [ej, List.take_length, List.drop_length, List.append_nil] at h9
     exact h9)
    clear ej O1
    go_wp2_with fail
    refine end0 rfl rfl ?_
    exact GvV.okOf HR29.out.symm R17.out G1.out (LinkV.refl _ _) P1.out HOF.out
end
end Go.Proofs.YtbcpkhegmbdifaaGreat.tr
/- The landed parser's sections of variables. No condition but what each line says. -/
namespace Go.Proofs.YtbcpkhegmbdifaaGreat.tr
open Go.ChangeShapes Go.WideShapes Go.ChangeAt Go.RowKit Go.Proofs.YtbcpkhegmbdifaaGreat.k Go.Proofs.YtbcpkhegmbdifaaGreat.rr Go.Proofs.YtbcpkhegmbdifaaGreat.tk
set_option linter.unusedVariables false
set_option linter.unusedSimpArgs false

theorem typ_bind {β : Type} (r : Sg) (G : (Int × Bool × Int × Int) → Int → Sg → Res β) : ((typeP r).bind fun ty r' =>
 (if txt r' = [58, 61] then (valueP (r'.drop 1)).bind fun v r' =>
   if ty.2.1 = true ∨ 2 < ty.1 ∨ (v.1 = true ∧ ty.1 = 1) ∨ (v.1 = false ∧ ty.1 = 2) then .bad 1 (hd r) else .ok v.2 r'
  else .ok 0 r').bind fun init r' => G ty init r') = (typQ r).bind fun x r' => G x.1 x.2 r' := by
 unfold typQ
 rw [bind_bind]
 congr 1
 funext ty r'
 rw [bind_bind]
 rfl
/-- behind the names of a line -/
def lineK (f : Nat) (sec : Int) (vs : List Va) (ns : List Tk) (r : Sg) : Res (List Va) :=
 (need [58] r).bind fun _ r1 => (typQ r1).bind fun x r' => (need [59] r').bind fun _ r' => linesF f sec r' (vs ++ (ns.map (newV sec)).map (updV x.1 x.2))
theorem lines_step {f : Nat} {sec : Int} {r : Sg} {vs : List Va} (h : txt r ≠ [69, 78, 68, 95, 86, 65, 82]) : linesF (f + 1) sec r vs = (namesF f vs.length r []).bind (lineK f sec vs) := by
 rw [linesF, if_neg h]
 unfold lineP
 rw [bind_bind]
 congr 1
 funext ns r'
 rw [bind_bind]
 unfold lineK
 congr 1
 funext _ r1
 simp only [bind_bind, bind_okE]
 refine (typ_bind r1 (fun ty init r2 => (need [59] r2).bind fun _ r3 => linesF f sec r3 (vs ++ ns.map fun t => (⟨t.text, ty.1, sec, ty.2.1, ty.2.2.1, ty.2.2.2, init, t.line⟩ : Va)))).trans ?_
 congr 1
 funext x r2
 congr 1
 funext _ r3
 rw [List.map_map]
 rfl
theorem names_step {f m : Nat} {r : Sg} {acc : List Tk} : namesF (f + 1) m r acc = (tokP (m + acc.length) r).bind fun t r' => if txt r' = [44] then namesF f m (r'.drop 1) (acc ++ [t]) else .ok (acc ++ [t]) r' := by
 rw [namesF]
 unfold tokP
 by_cases h : 64 < m + acc.length + 1
 ·rw [if_pos h, if_pos h]; rfl
 ·rw [if_neg h, if_neg h]
theorem fin_typQ {r : Sg} : Fin' r.length (typQ r) := by
 unfold typQ
 refine fin_bind fin_type fun ty r1 h1 => ?_
 refine fin_bind (n := r.length) ?_ fun init r2 h2 => fin_ok h2
 split
 ·refine fin_bind fin_value fun v r2 h2 => ?_
  split
  ·exact fin_bad (by decide)
  ·exact fin_ok (by rw [List.length_drop] at h2; omega)
 ·exact fin_ok h1
theorem fin_tok {m : Nat} {r : Sg} : Fin' r.length (tokP m r) := by
 unfold tokP
 split
 ·exact fin_bad (by decide)
 ·exact fin_want (by decide)
theorem tok_len {m : Nat} {r r' : Sg} {t : Tk} (h : tokP m r = .ok t r') : m + 1 ≤ 64 := by
 unfold tokP at h
 split at h
 ·cases h
 ·omega
theorem names_len : ∀ (f m : Nat) (r r' : Sg) (acc ns : List Tk), namesF f m r acc = .ok ns r' → m + ns.length ≤ 64
 | 0, _, _, _, _, _, h => by cases h
 | f + 1, m, r, r', acc, ns, h => by
  rw [names_step] at h
  obtain ⟨t, r1, h1, h⟩ := bind_ok h
  have hm := tok_len h1
  split at h
  ·exact names_len f m _ r' _ ns h
  ·cases h
   rw [List.length_append]
   simp only [List.length_cons, List.length_nil]
   omega
theorem lines_len : ∀ (f : Nat) (sec : Int) (r : Sg) (vs : List Va) {vs' : List Va} {r' : Sg}, vs.length ≤ 64 → linesF f sec r vs = .ok vs' r' → vs'.length ≤ 64
 | 0, _, _, _, _, _, _, h => by cases h
 | f + 1, sec, r, vs, vs', r', hv, h => by
  by_cases hw : txt r = [69, 78, 68, 95, 86, 65, 82]
  ·rw [linesF, if_pos hw] at h
   cases h
   exact hv
  ·rw [lines_step hw] at h
   obtain ⟨ns, r1, h1, h⟩ := bind_ok h
   have hn := names_len _ _ _ _ _ _ h1
   unfold lineK at h
   obtain ⟨_, r2, _, h⟩ := bind_ok h
   obtain ⟨x, r3, _, h⟩ := bind_ok h
   obtain ⟨_, r4, _, h⟩ := bind_ok h
   exact lines_len f sec r4 _ (by rw [List.length_append, List.length_map, List.length_map]; exact hn) h
section
variable {r : Sg} {V : Value} {d g : Nat} {w : World}

set_option maxRecDepth 100000 in
set_option maxHeartbeats 4000000 in
theorem section_any (hP : Par w g r V d) (hr : RowOk r) {vs : List Va} (hO : Ow vC 8 36 w (g + 1) V vs) (hv : vs.length ≤ 64) (sec : Int) {f : Nat} (hf : 20 * r.length + 2 ≤ f) :
  Calls Tryz.prog 33 #[.pointer (some ⟨g, 0, none⟩), .int .i64 sec] w (GvV g d V w (linesF f sec r vs)) := by
 obtain ⟨R, hR⟩ : ∃ R : Res (List Va), (linesF f sec r vs) = R := ⟨_, rfl⟩
 rw [hR]
 have HR := Lib.hid hR
 clear hR
 have O1 := Lib.hid hO
 have HV := Lib.hid hv
 have HF := Lib.hid hf
 clear hO hv hf
 have P1 := Lib.hid hP
 have G1 := Lib.hid (Fr.refl g V w)
 have R1 := Lib.hid hr
 have Z1 := Lib.hid (show g < w.heap.size from hP.lt)
 clear hP hr
 go_enter Tryz.func33, Tryz.ntmps33
 go_wp2_with fail
 go_loopw [4] (fun _ wr => ∃ (vs1 : List Va) (r' : Sg) (fc : Nat) (V1 : Value), linesF fc sec r' vs1 = R ∧ 20 * r'.length + 2 ≤ fc ∧ vs1.length ≤ 64 ∧ RowOk r' ∧ Par wr g r' V1 d ∧ Ow vC 8 36 wr (g + 1) V1 vs1 ∧ Fr g V w wr ∧ LinkV V w V1) (fun _ wr => rowLen wr g)
 case atStart => exact ⟨vs, r, f, V, HR.out, HF.out, HV.out, R1.out, P1.out, O1.out, G1.out, LinkV.refl _ _⟩
 case round =>
  obtain ⟨vs1, r', fc, V1, hR', hfc, hv1, hr', hP', hO', hG', hK'⟩ := hrel
  clear P1 G1 R1 HR O1
  have P1 := Lib.hid hP'
  have O1 := Lib.hid hO'
  have G1 := Lib.hid hG'
  have R1 := Lib.hid hr'
  have HV1 := Lib.hid hv1
  have HFC := Lib.hid hfc
  have LK1 := Lib.hid hK'
  have ZS := Lib.hid (And.intro hG'.size Z1.out)
  have HLR := Lib.hid hr'.len
  obtain ⟨f2, rfl⟩ : ∃ k, fc = k + 1 := ⟨fc - 1, by omega⟩
  have HR := Lib.hid hR'
  clear hP' hO' hG' hK' hr' hv1 hfc hR'
  have NLEN := Lib.hid P1.out.len
  by_cases hw : txt r' = [69, 78, 68, 95, 86, 65, 82]
  ·skip
   have hq := HR.out
   rw [linesF, if_pos hw] at hq
   have HR301 := Lib.hid hq
   clear hq HR
   have R302 := Lib.hid (R1.out.drop (txt_kind hw (by decide)))
   go_wp2_with (go_at_call 32; fail)
   refine (take_yes P1.out R1.out ((headS_txt R1.out (by decide) (by decide) (by decide) (by decide)).2 hw) (txt_kind hw (by decide))).mono ?_
   rintro e w4 ⟨rfl, hp, hg⟩
   have P303 := Lib.hid hp
   have O304 := Lib.hid (Ow.gr O1.out hg (by have z := ZS.out; omega))
   clear O1
   clear P1
   have G305 := Lib.hid (G1.out.step hg (.inl rfl))
   clear G1
   have Z306 := hzz hg ZS
   clear hg hp
   clear R1
   generalize ((r').drop 1) = r307 at *
   go_wp2_with fail
   refine end0 rfl rfl ?_
   exact GvV.okOf HR301.out.symm R302.out G305.out LK1.out P303.out O304.out
  have hq := HR.out
  rw [lines_step hw] at hq
  have HR301 := Lib.hid hq
  clear hq HR
  go_wp2_with (go_at_call 32; fail)
  refine (take_no P1.out R1.out (mt (headS_txt R1.out (by decide) (by decide) (by decide) (by decide)).1 hw)).mono ?_
  rintro e w4 ⟨rfl, hb⟩
  have hg := gr_of (row := some wr.heap.size) hb
  have O302 := Lib.hid (Ow.gr O1.out hg (by have z := ZS.out; omega))
  clear O1
  have P303 := Lib.hid (P1.out.gr hg (by have z := ZS.out; omega))
  clear P1
  have G304 := Lib.hid (G1.out.step hg (.inr (.inr (by have z := ZS.out; omega))))
  clear G1
  have Z305 := hzz hg ZS
  clear hg hb
  obtain ⟨A9, cap9, hV1, hrd⟩ := O302.out.form vC_len
  subst hV1
  have hnl := hrd.len_le
  clear hrd
  obtain ⟨A1, c1, hB1, hR1⟩ := P303.out
  have ⟨a0, k0, a1, k1, a2, k2, _⟩ := hB1
  clear hB1 hR1
  go_upto_region 3 with (fail)
  clear a0 k0 a1 k1 a2 k2
  go_loopw [5] (fun s5 wx => ∃ (m : Bool) (acc : List Tk) (r2 : Sg) (f3 : Nat) (V2 : Value), s5 = .bool m ∧ (m = true → (namesF f3 vs1.length r2 acc).bind (lineK f2 sec vs1) = R ∧ 20 * r2.length + 1 ≤ f3) ∧ (m = false → lineK f2 sec vs1 acc r2 = R ∧ r2.length < r'.length ∧ 1 ≤ acc.length) ∧ r2.length ≤ r'.length ∧ vs1.length + acc.length ≤ 64 ∧ RowOk r2 ∧ Par wx g r2 V2 d ∧ Ow vC 8 36 wx (g + 1) V2 (vs1 ++ acc.map (newV sec)) ∧ Fr g V w wx ∧ LinkV V w V2) (fun _ wx => rowLen wx g)
  case atStart => exact ⟨true, [], r', f2, _, rfl, fun _ => ⟨HR301.out, by have := HFC.out; omega⟩, (fun h => by cases h), Nat.le_refl _, HV1.out, R1.out, P303.out, by simpa using O302.out, G304.out, LK1.out⟩
  case round =>
   obtain ⟨m, acc, r2, f3, V2, rfl, hm1, hm2, hle, hv2, hr', hP', hO', hG', hK'⟩ := hrel
   clear P303 G304 HR301 O302
   have P1 := Lib.hid hP'
   have O1 := Lib.hid hO'
   have G1 := Lib.hid hG'
   have R1 := Lib.hid hr'
   have HV2 := Lib.hid hv2
   have HLE := Lib.hid hle
   have LK2 := Lib.hid hK'
   have ZT := Lib.hid (And.intro hG'.size Z305.out)
   have HLR2 := Lib.hid hr'.len
   clear hP' hO' hG' hK' hr' hv2 hle
   have NLEN2 := Lib.hid P1.out.len
   cases m
   ·skip
    obtain ⟨hq, hlt, hac⟩ := hm2 rfl
    unfold lineK at hq
    have HR := Lib.hid hq
    have HLT := Lib.hid hlt
    have HAC := Lib.hid hac
    clear hm1 hm2 hq hlt hac
    have hl0 := drop_len r2
    have HLD := Lib.hid hl0
    clear hl0
    by_cases hs501 : txt (r2) = [58]
    rotate_left
    ·have hq := HR.out
     rw [need_badE hs501] at hq
     go_wp2_with (go_at_call 18; fail)
     refine (need_no P1.out R1.out (mt (headS_txt R1.out (by decide) (by decide) (by decide) (by decide)).1 hs501)).mono ?_
     rintro e w5 ⟨rfl, hb⟩
     go_wp2
     exact ⟨rfl, GvV.badOf hq.symm (G1.out.step (gr_of (row := some wr.heap.size) hb) (.inr (.inr (by have z := ZT.out; omega))))⟩
    have hq := HR.out
    rw [need_okE hs501, bind_okE] at hq
    have HR502 := Lib.hid hq
    clear hq HR
    have R503 := Lib.hid (R1.out.drop (txt_kind hs501 (by decide)))
    go_wp2_with (go_at_call 18; fail)
    refine (need_yes P1.out R1.out ((headS_txt R1.out (by decide) (by decide) (by decide) (by decide)).2 hs501)).mono ?_
    rintro e w5 ⟨rfl, hp, hg⟩
    have P504 := Lib.hid hp
    have O505 := Lib.hid (Ow.gr O1.out hg (by have z := ZT.out; omega))
    clear O1
    clear P1
    have G506 := Lib.hid (G1.out.step hg (.inl rfl))
    clear G1
    have Z507 := hzz hg ZT
    clear hg hp
    clear R1
    generalize ((r2).drop 1) = r508 at *
    have OL := Lib.hid (show (vs1 ++ acc.map (newV sec)).length = vs1.length + acc.length by rw [List.length_append, List.length_map])
    obtain ⟨s8, hV2⟩ := Ow.sl vC_len O505.out
    obtain ⟨A8, n8, c8⟩ := s8
    have hV2 : V2 = .slice A8 n8 c8 := hV2
    subst hV2
    obtain ⟨A7, cap7, hV7, hrd⟩ := O505.out.form vC_len
    injection hV7 with hA hn hc
    subst hA hc hn
    have hcap := hrd.2.1
    have hmax := hrd.2.2.1
    obtain ⟨b, hb0⟩ : ∃ b, A8 = some ⟨b, 0, none⟩ := by
     have h9 := O505.out.2
     rcases h9 with ⟨h9, h10⟩ | ⟨g9, cap, cur, h9, _⟩
     ·have := OL.out; have := HAC.out; omega
     ·injection h9 with h9; exact ⟨g9, h9⟩
    subst hb0
    rw [OL.out] at hcap
    obtain ⟨A1, c1, hB1, hR1⟩ := P504.out
    have ⟨a0, k0, a1, k1, a2, k2, _⟩ := hB1
    clear hB1 hR1 hrd
    rw [OL.out] at a1
    have PP := P504
    have OO := O505
    rw [OL.out] at PP OO
    clear P504 O505
    obtain ⟨N, hN⟩ : ∃ N, vs1.length + acc.length = N := ⟨_, rfl⟩
    have HNN := Lib.hid hN
    rw [hN] at a1 PP OO hcap
    have q1 : (vs1.length : Int) ≤ N := by omega
    have q2 : ¬ (N : Int) < vs1.length := by omega
    have q3 : ¬ (c8 : Int) = vs1.length := by have := HAC.out; omega
    have q4 : (vs1.length : Int) ≤ c8 := by omega
    have hmax' : c8 ≤ 9223372036854775807 := by unfold maxLen at hmax; omega
    have TY := Lib.hid (typed_any (cap2 := c8 - vs1.length) PP.out R503.out OO.out (by have := HNN.out; have := HV2.out; rw [List.length_map]; omega))
    rw [List.length_map] at TY
    have hN2 : N - vs1.length = acc.length := by have := HNN.out; omega
    clear hN hcap hmax OL
    go_wp2_with (go_at_call 51; fail)
    clear a0 k0 a1 k1 a2 k2 q1 q2 q3 q4
    have FI := Lib.hid (fin_typQ (r := r508))
    refine (TY.out).mono ?_
    rintro e w6 hgv
    rcases hp : typQ r508 with ⟨x5, r5⟩ | ⟨n9, t9⟩
    rotate_left
    ·rw [hp] at hgv
     obtain ⟨rfl, hb⟩ := hgv
     have hq := HR502.out
     rw [hp] at hq
     go_wp2
     exact ⟨rfl, GvV.badOf hq.symm (G506.out.thenV hb LK2.out)⟩
    rw [hp] at hgv
    obtain ⟨rfl, hr9, hb, V5, hlk, hP9, hO9⟩ := hgv
    have hq := HR502.out
    rw [hp, bind_okE] at hq
    have HR509 := Lib.hid hq
    clear hq HR502
    have P510 := Lib.hid hP9
    have O511 := Lib.hid hO9
    have R512 := Lib.hid hr9
    have G513 := Lib.hid (G506.out.thenV hb LK2.out)
    have Z514 := Lib.hid (And.intro (show w.heap.size ≤ w6.heap.size from G513.out.size) Z507.out)
    clear hP9 hO9 hr9 hb PP OO R503 G506
    have LK515 := Lib.hid (LK2.out.trans (by have z := Z507.out; omega) hlk)
    clear hlk
    have L5 : Hid (r5.length < r508.length) := by
     have := FI.out
     rw [hp] at this
     exact Lib.hid this
    clear FI hp TY hN2
    have hl5 := drop_len r5
    have HL5 := Lib.hid hl5
    clear hl5
    by_cases hs516 : txt (r5) = [59]
    rotate_left
    ·have hq := HR509.out
     rw [need_badE hs516] at hq
     go_wp2_with (go_at_call 18; fail)
     refine (need_no P510.out R512.out (mt (headS_txt R512.out (by decide) (by decide) (by decide) (by decide)).1 hs516)).mono ?_
     rintro e w7 ⟨rfl, hb⟩
     go_wp2
     exact ⟨rfl, GvV.badOf hq.symm (G513.out.step (gr_of (row := some w6.heap.size) hb) (.inr (.inr (by have z := Z514.out; omega))))⟩
    have hq := HR509.out
    rw [need_okE hs516, bind_okE] at hq
    have HR517 := Lib.hid hq
    clear hq HR509
    have R518 := Lib.hid (R512.out.drop (txt_kind hs516 (by decide)))
    go_wp2_with (go_at_call 18; fail)
    refine (need_yes P510.out R512.out ((headS_txt R512.out (by decide) (by decide) (by decide) (by decide)).2 hs516)).mono ?_
    rintro e w7 ⟨rfl, hp, hg⟩
    have P519 := Lib.hid hp
    have O520 := Lib.hid (Ow.gr O511.out hg (by have z := Z514.out; omega))
    clear O511
    clear P510
    have G521 := Lib.hid (G513.out.step hg (.inl rfl))
    clear G513
    have Z522 := hzz hg Z514
    clear hg hp
    clear R512
    generalize ((r5).drop 1) = r523 at *
    go_wp2_with fail
    go_roundw
    case rel => exact ⟨_, _, f2, _, HR517.out, (by have z := Z522.out; have := HLT.out; have := HLD.out; have := L5.out; have := HL5.out; have := HLR.out; have := HFC.out; have := HNN.out; have := HV2.out; omega), (by have z := Z522.out; have := HLT.out; have := HLD.out; have := L5.out; have := HL5.out; have := HLR.out; have := HFC.out; have := HNN.out; have := HV2.out; simp only [List.length_append, List.length_map]; omega), R518.out, P519.out, O520.out, G521.out, LK515.out⟩
    case measure => rw [NLEN.out, P519.out.len]; have z := Z522.out; have := HLT.out; have := HLD.out; have := L5.out; have := HL5.out; have := HLR.out; have := HFC.out; have := HNN.out; have := HV2.out; omega
   ·skip
    obtain ⟨hq, hfu⟩ := hm1 rfl
    obtain ⟨f4, rfl⟩ : ∃ k, f3 = k + 1 := ⟨f3 - 1, by omega⟩
    rw [names_step, bind_bind] at hq
    have HR := Lib.hid hq
    have HFU := Lib.hid hfu
    clear hm1 hm2 hq hfu
    have VA := Lib.hid (variable_any P1.out R1.out O1.out (by have := HV2.out; rw [List.length_append, List.length_map]; omega) sec)
    rw [show (vs1 ++ acc.map (newV sec)).length = vs1.length + acc.length by rw [List.length_append, List.length_map]] at VA
    have FI := Lib.hid (fin_tok (m := vs1.length + acc.length) (r := r2))
    go_wp2_with (go_at_call 50; fail)
    refine (VA.out).mono ?_
    rintro e w5 hgv
    rcases hp : tokP (vs1.length + acc.length) r2 with ⟨t5, r5⟩ | ⟨n9, t9⟩
    rotate_left
    ·rw [hp] at hgv
     obtain ⟨rfl, hb⟩ := hgv
     have hq := HR.out
     rw [hp] at hq
     go_wp2
     exact ⟨rfl, GvV.badOf hq.symm (G1.out.thenV hb LK2.out)⟩
    rw [hp] at hgv
    obtain ⟨rfl, hr9, hb, V5, hlk, hP9, hO9⟩ := hgv
    have hq := HR.out
    rw [hp, bind_okE] at hq
    have HR501 := Lib.hid hq
    clear hq HR
    have P502 := Lib.hid hP9
    have O503 := Lib.hid hO9
    have R504 := Lib.hid hr9
    have G505 := Lib.hid (G1.out.thenV hb LK2.out)
    have Z506 := Lib.hid (And.intro (show w.heap.size ≤ w5.heap.size from G505.out.size) ZT.out)
    clear hP9 hO9 hr9 hb P1 O1 R1 G1
    have LK507 := Lib.hid (LK2.out.trans (by have z := ZT.out; omega) hlk)
    clear hlk
    have L5 : Hid (r5.length < r2.length) := by
     have := FI.out
     rw [hp] at this
     exact Lib.hid this
    have HT := Lib.hid (tok_len hp)
    clear FI hp VA
    by_cases hw4 : txt r5 = [44]
    ·skip
     have hq := HR501.out
     rw [if_pos hw4] at hq
     have HR508 := Lib.hid hq
     clear hq HR501
     have hl0 := drop_len r5
     have HLX := Lib.hid hl0
     have HLY := Lib.hid R504.out.len
     clear hl0
     have R509 := Lib.hid (R504.out.drop (txt_kind hw4 (by decide)))
     go_wp2_with (go_at_call 32; fail)
     refine (take_yes P502.out R504.out ((headS_txt R504.out (by decide) (by decide) (by decide) (by decide)).2 hw4) (txt_kind hw4 (by decide))).mono ?_
     rintro e w6 ⟨rfl, hp, hg⟩
     have P510 := Lib.hid hp
     have O511 := Lib.hid (Ow.gr O503.out hg (by have z := Z506.out; omega))
     clear O503
     clear P502
     have G512 := Lib.hid (G505.out.step hg (.inl rfl))
     clear G505
     have Z513 := hzz hg Z506
     clear hg hp
     clear R504
     generalize ((r5).drop 1) = r514 at *
     go_wp2_with fail
     go_roundw
     case rel => exact ⟨true, acc ++ [t5], _, f4, _, rfl, fun _ => ⟨HR508.out, (by have z := Z513.out; have := L5.out; have := HT.out; have := HLE.out; have := HFU.out; have := HLX.out; have := HLY.out; omega)⟩, (fun h => by cases h), (by have z := Z513.out; have := L5.out; have := HT.out; have := HLE.out; have := HFU.out; have := HLX.out; have := HLY.out; omega), (by have z := Z513.out; have := L5.out; have := HT.out; have := HLE.out; have := HFU.out; have := HLX.out; have := HLY.out; simp only [List.length_append, List.length_cons, List.length_nil]; omega), R509.out, P510.out, by rw [List.map_append, ← List.append_assoc]; exact O511.out, G512.out, LK507.out⟩
     case measure => rw [NLEN2.out, P510.out.len]; have z := Z513.out; have := L5.out; have := HT.out; have := HLE.out; have := HFU.out; have := HLX.out; have := HLY.out; omega
    ·skip
     have hq := HR501.out
     rw [if_neg hw4, bind_okE] at hq
     have HR508 := Lib.hid hq
     clear hq HR501
     go_wp2_with (go_at_call 32; fail)
     refine (take_no P502.out R504.out (mt (headS_txt R504.out (by decide) (by decide) (by decide) (by decide)).1 hw4)).mono ?_
     rintro e w6 ⟨rfl, hb⟩
     have hg := gr_of (row := some w5.heap.size) hb
     have O509 := Lib.hid (Ow.gr O503.out hg (by have z := Z506.out; omega))
     clear O503
     have P510 := Lib.hid (P502.out.gr hg (by have z := Z506.out; omega))
     clear P502
     have G511 := Lib.hid (G505.out.step hg (.inr (.inr (by have z := Z506.out; omega))))
     clear G505
     have Z512 := hzz hg Z506
     clear hg hb
     go_wp2_with fail
     go_roundw
     case rel => exact ⟨false, acc ++ [t5], _, f4, _, rfl, (fun h => by cases h), fun _ => ⟨HR508.out, (by have z := Z512.out; have := L5.out; have := HT.out; have := HLE.out; have := HFU.out; omega), by simp⟩, (by have z := Z512.out; have := L5.out; have := HT.out; have := HLE.out; have := HFU.out; omega), (by have z := Z512.out; have := L5.out; have := HT.out; have := HLE.out; have := HFU.out; simp only [List.length_append, List.length_cons, List.length_nil]; omega), R504.out, P510.out, by rw [List.map_append, ← List.append_assoc]; exact O509.out, G511.out, LK507.out⟩
     case measure => rw [NLEN2.out, P510.out.len]; have z := Z512.out; have := L5.out; have := HT.out; have := HLE.out; have := HFU.out; omega
set_option maxRecDepth 100000 in
set_option maxHeartbeats 4000000 in
theorem sections_any (hP : Par w g r V d) (hr : RowOk r) {vs : List Va} (hO : Ow vC 8 36 w (g + 1) V vs) (hv : vs.length ≤ 64) {f : Nat} (hf : 20 * r.length + 1 ≤ f) :
  Calls Tryz.prog 19 #[.pointer (some ⟨g, 0, none⟩)] w (GvV g d V w (sectsF f r vs)) := by
 obtain ⟨R, hR⟩ : ∃ R : Res (List Va), (sectsF f r vs) = R := ⟨_, rfl⟩
 rw [hR]
 have HR := Lib.hid hR
 clear hR
 have O1 := Lib.hid hO
 have HV := Lib.hid hv
 have HF := Lib.hid hf
 clear hO hv hf
 have P1 := Lib.hid hP
 have G1 := Lib.hid (Fr.refl g V w)
 have R1 := Lib.hid hr
 have Z1 := Lib.hid (show g < w.heap.size from hP.lt)
 clear hP hr
 go_enter Tryz.func19, Tryz.ntmps19
 go_wp2_with fail
 go_loopw [3] (fun _ wr => ∃ (vs1 : List Va) (r' : Sg) (fc : Nat) (V1 : Value), sectsF fc r' vs1 = R ∧ 20 * r'.length + 1 ≤ fc ∧ vs1.length ≤ 64 ∧ RowOk r' ∧ Par wr g r' V1 d ∧ Ow vC 8 36 wr (g + 1) V1 vs1 ∧ Fr g V w wr ∧ LinkV V w V1) (fun _ wr => rowLen wr g)
 case atStart => exact ⟨vs, r, f, V, HR.out, HF.out, HV.out, R1.out, P1.out, O1.out, G1.out, LinkV.refl _ _⟩
 case round =>
  obtain ⟨vs1, r', fc, V1, hR', hfc, hv1, hr', hP', hO', hG', hK'⟩ := hrel
  clear P1 G1 R1 HR O1
  have P1 := Lib.hid hP'
  have O1 := Lib.hid hO'
  have G1 := Lib.hid hG'
  have R1 := Lib.hid hr'
  have HV1 := Lib.hid hv1
  have HFC := Lib.hid hfc
  have LK1 := Lib.hid hK'
  have ZS := Lib.hid (And.intro hG'.size Z1.out)
  have HLR := Lib.hid hr'.len
  obtain ⟨f2, rfl⟩ : ∃ k, fc = k + 1 := ⟨fc - 1, by omega⟩
  have HR := Lib.hid hR'
  clear hP' hO' hG' hK' hr' hv1 hfc hR'
  have NLEN := Lib.hid P1.out.len
  have hl0 := drop_len r'
  have HLD := Lib.hid hl0
  clear hl0
  by_cases h0 : txt r' = [86, 65, 82]
  ·skip
   have hq := HR.out
   rw [sectsF, h0, if_neg (by decide), if_neg (by decide), if_pos rfl] at hq
   have HR301 := Lib.hid hq
   clear hq HR
   have R302 := Lib.hid (R1.out.drop (txt_kind h0 (by decide)))
   go_wp2_with (go_at_call 32; fail)
   refine (take_yes P1.out R1.out ((headS_txt R1.out (by decide) (by decide) (by decide) (by decide)).2 h0) (txt_kind h0 (by decide))).mono ?_
   rintro e w4 ⟨rfl, hp, hg⟩
   have P303 := Lib.hid hp
   have O304 := Lib.hid (Ow.gr O1.out hg (by have z := ZS.out; omega))
   clear O1
   clear P1
   have G305 := Lib.hid (G1.out.step hg (.inl rfl))
   clear G1
   have Z306 := hzz hg ZS
   clear hg hp
   clear R1
   generalize ((r').drop 1) = r307 at *
   have hfx : 20 * r307.length + 2 ≤ f2 := (by have z := Z306.out; have := HFC.out; have := HLD.out; have := HLR.out; omega)
   have SA := Lib.hid (section_any P303.out R302.out O304.out HV1.out 0 hfx)
   have FI := Lib.hid (fin_lines f2 0 r307 vs1 hfx)
   clear hfx
   go_wp2_with (go_at_call 33; fail)
   refine (SA.out).mono ?_
   rintro e w5 hgv
   rcases hp : linesF f2 0 r307 vs1 with ⟨vs5, r5⟩ | ⟨n9, t9⟩
   rotate_left
   ·rw [hp] at hgv
    obtain ⟨rfl, hb⟩ := hgv
    have hq := HR301.out
    rw [hp] at hq
    go_wp2
    exact ⟨rfl, GvV.badOf hq.symm (G305.out.thenV hb LK1.out)⟩
   rw [hp] at hgv
   obtain ⟨rfl, hr9, hb, V5, hlk, hP9, hO9⟩ := hgv
   have hq := HR301.out
   rw [hp, bind_okE] at hq
   have HR308 := Lib.hid hq
   clear hq HR301
   have P309 := Lib.hid hP9
   have O310 := Lib.hid hO9
   have R311 := Lib.hid hr9
   have G312 := Lib.hid (G305.out.thenV hb LK1.out)
   have Z313 := Lib.hid (And.intro (show w.heap.size ≤ w5.heap.size from G312.out.size) Z306.out)
   clear hP9 hO9 hr9 hb P303 O304 R302 G305
   have LK314 := Lib.hid (LK1.out.trans (by have z := Z306.out; omega) hlk)
   clear hlk
   have L5 : Hid (r5.length < r307.length) := by
    have := FI.out
    rw [hp] at this
    exact Lib.hid this
   have HV5 := Lib.hid (lines_len _ _ _ _ HV1.out hp)
   clear FI hp SA
   go_wp2_with fail
   go_roundw
   case rel => exact ⟨vs5, r5, f2, V5, HR308.out, (by have z := Z313.out; have := HLD.out; have := L5.out; have := HLR.out; have := HFC.out; omega), HV5.out, R311.out, P309.out, O310.out, G312.out, LK314.out⟩
   case measure => rw [NLEN.out, P309.out.len]; have z := Z313.out; have := HLD.out; have := L5.out; have := HLR.out; have := HFC.out; omega
  go_wp2_with (go_at_call 32; fail)
  refine (take_no P1.out R1.out (mt (headS_txt R1.out (by decide) (by decide) (by decide) (by decide)).1 h0)).mono ?_
  rintro e w4 ⟨rfl, hb⟩
  have hg := gr_of (row := some wr.heap.size) hb
  have O301 := Lib.hid (Ow.gr O1.out hg (by have z := ZS.out; omega))
  clear O1
  have P302 := Lib.hid (P1.out.gr hg (by have z := ZS.out; omega))
  clear P1
  have G303 := Lib.hid (G1.out.step hg (.inr (.inr (by have z := ZS.out; omega))))
  clear G1
  have Z304 := hzz hg ZS
  clear hg hb
  by_cases h1 : txt r' = [86, 65, 82, 95, 73, 78, 80, 85, 84]
  ·skip
   have hq := HR.out
   rw [sectsF, h1, if_pos rfl] at hq
   have HR305 := Lib.hid hq
   clear hq HR
   have R306 := Lib.hid (R1.out.drop (txt_kind h1 (by decide)))
   go_wp2_with (go_at_call 32; fail)
   refine (take_yes P302.out R1.out ((headS_txt R1.out (by decide) (by decide) (by decide) (by decide)).2 h1) (txt_kind h1 (by decide))).mono ?_
   rintro e w5 ⟨rfl, hp, hg⟩
   have P307 := Lib.hid hp
   have O308 := Lib.hid (Ow.gr O301.out hg (by have z := Z304.out; omega))
   clear O301
   clear P302
   have G309 := Lib.hid (G303.out.step hg (.inl rfl))
   clear G303
   have Z310 := hzz hg Z304
   clear hg hp
   clear R1
   generalize ((r').drop 1) = r311 at *
   have hfx : 20 * r311.length + 2 ≤ f2 := (by have z := Z310.out; have := HFC.out; have := HLD.out; have := HLR.out; omega)
   have SA := Lib.hid (section_any P307.out R306.out O308.out HV1.out 1 hfx)
   have FI := Lib.hid (fin_lines f2 1 r311 vs1 hfx)
   clear hfx
   go_wp2_with (go_at_call 33; fail)
   refine (SA.out).mono ?_
   rintro e w6 hgv
   rcases hp : linesF f2 1 r311 vs1 with ⟨vs5, r5⟩ | ⟨n9, t9⟩
   rotate_left
   ·rw [hp] at hgv
    obtain ⟨rfl, hb⟩ := hgv
    have hq := HR305.out
    rw [hp] at hq
    go_wp2
    exact ⟨rfl, GvV.badOf hq.symm (G309.out.thenV hb LK1.out)⟩
   rw [hp] at hgv
   obtain ⟨rfl, hr9, hb, V5, hlk, hP9, hO9⟩ := hgv
   have hq := HR305.out
   rw [hp, bind_okE] at hq
   have HR312 := Lib.hid hq
   clear hq HR305
   have P313 := Lib.hid hP9
   have O314 := Lib.hid hO9
   have R315 := Lib.hid hr9
   have G316 := Lib.hid (G309.out.thenV hb LK1.out)
   have Z317 := Lib.hid (And.intro (show w.heap.size ≤ w6.heap.size from G316.out.size) Z310.out)
   clear hP9 hO9 hr9 hb P307 O308 R306 G309
   have LK318 := Lib.hid (LK1.out.trans (by have z := Z310.out; omega) hlk)
   clear hlk
   have L5 : Hid (r5.length < r311.length) := by
    have := FI.out
    rw [hp] at this
    exact Lib.hid this
   have HV5 := Lib.hid (lines_len _ _ _ _ HV1.out hp)
   clear FI hp SA
   go_wp2_with fail
   go_roundw
   case rel => exact ⟨vs5, r5, f2, V5, HR312.out, (by have z := Z317.out; have := HLD.out; have := L5.out; have := HLR.out; have := HFC.out; omega), HV5.out, R315.out, P313.out, O314.out, G316.out, LK318.out⟩
   case measure => rw [NLEN.out, P313.out.len]; have z := Z317.out; have := HLD.out; have := L5.out; have := HLR.out; have := HFC.out; omega
  go_wp2_with (go_at_call 32; fail)
  refine (take_no P302.out R1.out (mt (headS_txt R1.out (by decide) (by decide) (by decide) (by decide)).1 h1)).mono ?_
  rintro e w5 ⟨rfl, hb⟩
  have hg := gr_of (row := some w4.heap.size) hb
  have O305 := Lib.hid (Ow.gr O301.out hg (by have z := Z304.out; omega))
  clear O301
  have P306 := Lib.hid (P302.out.gr hg (by have z := Z304.out; omega))
  clear P302
  have G307 := Lib.hid (G303.out.step hg (.inr (.inr (by have z := Z304.out; omega))))
  clear G303
  have Z308 := hzz hg Z304
  clear hg hb
  by_cases h2 : txt r' = [86, 65, 82, 95, 79, 85, 84, 80, 85, 84]
  ·skip
   have hq := HR.out
   rw [sectsF, h2, if_neg (by decide), if_pos rfl] at hq
   have HR309 := Lib.hid hq
   clear hq HR
   have R310 := Lib.hid (R1.out.drop (txt_kind h2 (by decide)))
   go_wp2_with (go_at_call 32; fail)
   refine (take_yes P306.out R1.out ((headS_txt R1.out (by decide) (by decide) (by decide) (by decide)).2 h2) (txt_kind h2 (by decide))).mono ?_
   rintro e w6 ⟨rfl, hp, hg⟩
   have P311 := Lib.hid hp
   have O312 := Lib.hid (Ow.gr O305.out hg (by have z := Z308.out; omega))
   clear O305
   clear P306
   have G313 := Lib.hid (G307.out.step hg (.inl rfl))
   clear G307
   have Z314 := hzz hg Z308
   clear hg hp
   clear R1
   generalize ((r').drop 1) = r315 at *
   have hfx : 20 * r315.length + 2 ≤ f2 := (by have z := Z314.out; have := HFC.out; have := HLD.out; have := HLR.out; omega)
   have SA := Lib.hid (section_any P311.out R310.out O312.out HV1.out 2 hfx)
   have FI := Lib.hid (fin_lines f2 2 r315 vs1 hfx)
   clear hfx
   go_wp2_with (go_at_call 33; fail)
   refine (SA.out).mono ?_
   rintro e w7 hgv
   rcases hp : linesF f2 2 r315 vs1 with ⟨vs5, r5⟩ | ⟨n9, t9⟩
   rotate_left
   ·rw [hp] at hgv
    obtain ⟨rfl, hb⟩ := hgv
    have hq := HR309.out
    rw [hp] at hq
    go_wp2
    exact ⟨rfl, GvV.badOf hq.symm (G313.out.thenV hb LK1.out)⟩
   rw [hp] at hgv
   obtain ⟨rfl, hr9, hb, V5, hlk, hP9, hO9⟩ := hgv
   have hq := HR309.out
   rw [hp, bind_okE] at hq
   have HR316 := Lib.hid hq
   clear hq HR309
   have P317 := Lib.hid hP9
   have O318 := Lib.hid hO9
   have R319 := Lib.hid hr9
   have G320 := Lib.hid (G313.out.thenV hb LK1.out)
   have Z321 := Lib.hid (And.intro (show w.heap.size ≤ w7.heap.size from G320.out.size) Z314.out)
   clear hP9 hO9 hr9 hb P311 O312 R310 G313
   have LK322 := Lib.hid (LK1.out.trans (by have z := Z314.out; omega) hlk)
   clear hlk
   have L5 : Hid (r5.length < r315.length) := by
    have := FI.out
    rw [hp] at this
    exact Lib.hid this
   have HV5 := Lib.hid (lines_len _ _ _ _ HV1.out hp)
   clear FI hp SA
   go_wp2_with fail
   go_roundw
   case rel => exact ⟨vs5, r5, f2, V5, HR316.out, (by have z := Z321.out; have := HLD.out; have := L5.out; have := HLR.out; have := HFC.out; omega), HV5.out, R319.out, P317.out, O318.out, G320.out, LK322.out⟩
   case measure => rw [NLEN.out, P317.out.len]; have z := Z321.out; have := HLD.out; have := L5.out; have := HLR.out; have := HFC.out; omega
  go_wp2_with (go_at_call 32; fail)
  refine (take_no P306.out R1.out (mt (headS_txt R1.out (by decide) (by decide) (by decide) (by decide)).1 h2)).mono ?_
  rintro e w6 ⟨rfl, hb⟩
  have hg := gr_of (row := some w5.heap.size) hb
  have O309 := Lib.hid (Ow.gr O305.out hg (by have z := Z308.out; omega))
  clear O305
  have P310 := Lib.hid (P306.out.gr hg (by have z := Z308.out; omega))
  clear P306
  have G311 := Lib.hid (G307.out.step hg (.inr (.inr (by have z := Z308.out; omega))))
  clear G307
  have Z312 := hzz hg Z308
  clear hg hb
  have hq := HR.out
  rw [sectsF, if_neg h1, if_neg h2, if_neg h0] at hq
  have HR313 := Lib.hid hq
  clear hq HR
  go_wp2_with fail
  first | refine end0 rfl rfl ?_ | refine ret0 rfl rfl ?_
  exact GvV.okOf HR313.out.symm R1.out G311.out LK1.out P310.out O309.out
end
end Go.Proofs.YtbcpkhegmbdifaaGreat.tr
