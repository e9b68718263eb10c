/- The reference's comparison of two programs, but for lines: it tells whether they are the same; what was in memory is as it was. No condition. -/
import Derived.Test.YtbcpkhegmbdifaaGreatU27
namespace Go.Proofs.YtbcpkhegmbdifaaGreat.tr
open Go.ChangeShapes Go.WideShapes Go.ChangeAt Go.RowKit Go.Proofs.YtbcpkhegmbdifaaGreat.k Go.Proofs.YtbcpkhegmbdifaaGreat.rr Go.Proofs.YtbcpkhegmbdifaaGreat.tk
set_option linter.unusedVariables false

theorem vasSame_len : ∀ {L M : List Va}, L.length ≠ M.length → vasSame L M = false
 | [], [], h => absurd rfl h
 | [], _ :: _, _ => rfl
 | _ :: _, [], _ => rfl
 | x :: L, y :: M, h => by rw [vasSame, vasSame_len (by simpa using h)]; simp
theorem vasSame_at {L M : List Va} {i : Nat} {x y : Va} (h1 : L[i]? = some x) (h2 : M[i]? = some y) : vasSame (L.drop i) (M.drop i) = (vaSame x y && vasSame (L.drop (i + 1)) (M.drop (i + 1))) := by
 obtain ⟨a1, a2⟩ := List.getElem?_eq_some_iff.1 h1
 obtain ⟨b1, b2⟩ := List.getElem?_eq_some_iff.1 h2
 rw [List.drop_eq_getElem_cons a1, List.drop_eq_getElem_cons b1, vasSame, a2, b2]
theorem vaC_ones (s : ByteArray) (a b : Int) (c : Bool) (d e f g : Int) : ∀ v ∈ [Value.string s, .int .i64 a, .int .i64 b, .bool c, .int .i64 d, .int .i64 e, .int .i64 f, .int .i64 g], v.oneCell' = true := by
 intro v hv
 simp only [List.mem_cons, List.not_mem_nil, or_false] at hv
 rcases hv with rfl | rfl | rfl | rfl | rfl | rfl | rfl | rfl <;> rfl
set_option maxRecDepth 100000 in
set_option maxHeartbeats 8000000 in
theorem rsame_any (p q : Pg) (h h' : GH) (w : World) (hp : PgAt w w.heap.size p h) (hq : PgAt w w.heap.size q h') : Calls Tryz.prog 7 #[.agg (gC h).toArray, .agg (gC h').toArray, .bool false] w fun e w' => e = .returned (.bool (pgSame p q)) ∧ Below w.heap.size w w' := by
 obtain ⟨pn, pv, pb⟩ := p
 obtain ⟨qn, qv, qb⟩ := q
 obtain ⟨xs0', ⟨xvA, xvl, xvc⟩, ⟨xbA, xbl, xbc⟩⟩ := h
 obtain ⟨ys0', ⟨yvA, yvl, yvc⟩, ⟨ybA, ybl, ybc⟩⟩ := h'
 obtain ⟨e1, g1, g2⟩ := hp
 obtain ⟨e2, g3, g4⟩ := hq
 simp only at e1 e2 g1 g2 g3 g4
 subst e1 e2
 simp only [gC, sv, Sl.v]
 have g1 : Rd vC 8 w w.heap.size xvA xvl xvc pv := g1
 have g3 : Rd vC 8 w w.heap.size yvA yvl yvc qv := g3
 obtain ⟨xs0, hxs0⟩ : ∃ z, (⟨xs0'.toArray⟩ : ByteArray) = z := ⟨_, rfl⟩
 obtain ⟨ys0, hys0⟩ : ∃ z, (⟨ys0'.toArray⟩ : ByteArray) = z := ⟨_, rfl⟩
 have t0 := st_eq hxs0 hys0
 rw [hxs0, hys0]
 obtain ⟨R, hR⟩ : ∃ R, pgSame ⟨xs0', pv, pb⟩ ⟨ys0', qv, qb⟩ = R := ⟨_, rfl⟩
 rw [hR]
 unfold pgSame at hR
 simp only at hR
 obtain ⟨u1, hu1⟩ : ∃ u, (xs0' == ys0') = u := ⟨_, rfl⟩
 obtain ⟨u2, hu2⟩ : ∃ u, (xvl == yvl) = u := ⟨_, rfl⟩
 obtain ⟨u3, hu3⟩ : ∃ u, vasSame pv qv = u := ⟨_, rfl⟩
 obtain ⟨u4, hu4⟩ : ∃ u, stsSame pb qb = u := ⟨_, rfl⟩
 have hu3' := hu3
 rw [hu1, hu3, hu4] at hR
 rw [hu1] at t0
 have castB : ∀ a b : Nat, ((a : Int) == (b : Int)) = (a == b) := fun a b => by rw [Bool.eq_iff_iff, beq_iff_eq, beq_iff_eq]; omega
 have v2 : ((xvl : Int) != (yvl : Int)) = !u2 := by rw [bne, castB, hu2]
 have l1 := g1.1
 have l2 := g3.1
 have N2 := Lib.hid (show u2 = false → u3 = false from fun h => by rw [← hu3]; exact vasSame_len (by have := hu2.trans h; rw [beq_eq_false_iff_ne] at this; omega))
 have Y2 := Lib.hid (show u2 = true → xvl = yvl from fun h => by have := hu2.trans h; rw [beq_iff_eq] at this; exact this)
 have HR := Lib.hid hR
 have H3 := Lib.hid hu3
 have bx := g1.len_le
 have by_ := g3.len_le
 have SC := Lib.hid (show ∀ W, Below w.heap.size w W → Calls Tryz.prog 14 #[.slice xbA xbl xbc, .slice ybA ybl ybc, .bool false] W fun e w' => e = .returned (.bool u4) ∧ Below W.heap.size W w' from fun W h => hu4 ▸ rstmts_any _ _ _ (Nat.lt_succ_self _) ⟨xbA, xbl, xbc⟩ ⟨ybA, ybl, ybc⟩ W (StL.below g2 h h.size) (StL.below g4 h h.size))
 have R1 := Lib.hid g1
 have R2 := Lib.hid g3
 have LL := Lib.hid (And.intro l1 l2)
 have x3 := Box.new w #[.string xs0, .slice xvA xvl xvc, .slice xbA xbl xbc] 26
 have x4 := Box.new (w.alloc (.cells #[.string xs0, .slice xvA xvl xvc, .slice xbA xbl xbc] 26)) #[.string ys0, .slice yvA yvl yvc, .slice ybA ybl ybc] 26
 have hb3 := (Below.refl w.heap.size w).alloc (Nat.le_refl _) (.cells #[.string xs0, .slice xvA xvl xvc, .slice xbA xbl xbc] 26)
 have hz3 : (w.alloc (.cells #[.string xs0, .slice xvA xvl xvc, .slice xbA xbl xbc] 26)).heap.size = w.heap.size + 1 := by simp
 have hb4 := (Below.refl (w.alloc (.cells #[.string xs0, .slice xvA xvl xvc, .slice xbA xbl xbc] 26)).heap.size (w.alloc (.cells #[.string xs0, .slice xvA xvl xvc, .slice xbA xbl xbc] 26))).alloc (Nat.le_refl _) (.cells #[.string ys0, .slice yvA yvl yvc, .slice ybA ybl ybc] 26)
 have hz4 : ((w.alloc (.cells #[.string xs0, .slice xvA xvl xvc, .slice xbA xbl xbc] 26)).alloc (.cells #[.string ys0, .slice yvA yvl yvc, .slice ybA ybl ybc] 26)).heap.size = w.heap.size + 2 := by simp
 have y3 := x3.below hb4 (by omega)
 have b34 := hb3.trans (hb4.mono hb3.size)
 rw [hz3] at x4
 have X3 := Lib.hid y3
 have X4 := Lib.hid x4
 have B4 := Lib.hid b34
 have Z4 := Lib.hid hz4
 clear g1 g2 g3 g4 hu1 hu2 hu3 hu3' hu4 hR castB l1 l2 x3 x4 hb3 hz3 hb4 hz4 y3 b34 hxs0 hys0
 go_enter Tryz.func7, Tryz.ntmps7
 go_upto_region 1 with (fail)
 generalize (w.alloc (.cells #[.string xs0, .slice xvA xvl xvc, .slice xbA xbl xbc] 26)).alloc (.cells #[.string ys0, .slice yvA yvl yvc, .slice ybA ybl ybc] 26) = w4 at *
 generalize hg0 : w.heap.size = g0 at X3 X4 Z4 ⊢
 have HG0 := Lib.hid hg0
 clear hg0
 have ⟨a0, _, a1, _, a2, _, _⟩ := X3.out
 have ⟨d0, _, d1, _, d2, _, _⟩ := X4.out
 cases u1
 ·have HR2 := Lib.hid (show R = false by rw [← HR.out]; simp)
  go_wp2_with fail
  go_ret
  exact ⟨ret_bool HR2.out.symm, B4.out⟩
 cases u2
 ·rw [Bool.not_false] at v2
  have HR2 := Lib.hid (show R = false by rw [← HR.out, N2.out rfl]; simp)
  go_wp2_with fail
  go_ret
  exact ⟨ret_bool HR2.out.symm, B4.out⟩
 rw [Bool.not_true] at v2
 obtain rfl := Y2.out rfl
 go_upto_region 4 with (fail)
 clear a0 a1 a2 d0 d1 d2 v2 t0
 go_loopw [7] (fun s7 wr => ∃ q : Nat, q ≤ xvl ∧ s7 = .int .i64 q ∧ Below w4.heap.size w4 wr ∧ vasSame (pv.drop q) (qv.drop q) = u3) (fun i _ => xvl - (intOf i).toNat)
 case atStart => exact ⟨0, Nat.zero_le _, rfl, Below.refl _ _, H3.out⟩
 case round =>
  obtain ⟨q, hq, rfl, hb, hs⟩ := hrel
  have BC := Lib.hid (B4.out.trans (hb.mono B4.out.size))
  have X3r := Lib.hid (X3.out.below hb (by have := Z4.out; omega))
  have X4r := Lib.hid (X4.out.below hb (by have := Z4.out; omega))
  have HB4 := Lib.hid hb
  have Z4r := Lib.hid (show g0 + 1 < wr.heap.size from Nat.lt_of_lt_of_le (by have := Z4.out; omega) hb.size)
  have a1 := (k.cell_of X3r.out (i := 1) rfl).1
  have d1 := (k.cell_of X4r.out (i := 1) rfl).1
  have hs8 := Z4r.out
  have hs7 : g0 < wr.heap.size := by omega
  clear hb
  by_cases hlt : q < xvl
  ·have hr1 := (R1.out.below BC.out).more BC.out.size
   have hr2 := (R2.out.below BC.out).more BC.out.size
   obtain ⟨b1, o1, ⟨xs', xty, xse, xar, xlo, xhi, xin, xln⟩, e1, hb1, hp, hc1⟩ := hr1.at hlt
   obtain ⟨b2, o2, ⟨ys', yty, yse, yar, ylo, yhi, yin, yln⟩, e2, hb2, hp', hc2⟩ := hr2.at hlt
   subst e1
   subst e2
   rw [vasSame_at hp hp'] at hs
   simp only [vC, sv] at hc1 hc2
   unfold vaSame at hs
   simp only at hs
   obtain ⟨xs, hxs⟩ : ∃ z, (⟨xs'.toArray⟩ : ByteArray) = z := ⟨_, rfl⟩
   obtain ⟨ys, hys⟩ : ∃ z, (⟨ys'.toArray⟩ : ByteArray) = z := ⟨_, rfl⟩
   have t1 := st_eq hxs hys
   rw [hxs] at hc1
   rw [hys] at hc2
   obtain ⟨y1, hy1⟩ : ∃ u, (xs' == ys') = u := ⟨_, rfl⟩
   obtain ⟨y2, hy2⟩ : ∃ u, (xty == yty) = u := ⟨_, rfl⟩
   obtain ⟨y3, hy3⟩ : ∃ u, (xse == yse) = u := ⟨_, rfl⟩
   obtain ⟨y4, hy4⟩ : ∃ u, (xar == yar) = u := ⟨_, rfl⟩
   obtain ⟨y5, hy5⟩ : ∃ u, (xlo == ylo) = u := ⟨_, rfl⟩
   obtain ⟨y6, hy6⟩ : ∃ u, (xhi == yhi) = u := ⟨_, rfl⟩
   obtain ⟨y7, hy7⟩ : ∃ u, (xin == yin) = u := ⟨_, rfl⟩
   rw [hy1, hy2, hy3, hy4, hy5, hy6, hy7] at hs
   rw [hy1] at t1
   have HS := Lib.hid hs
   have TY := Lib.hid (And.intro t1 (And.intro hy2 (And.intro hy3 (And.intro hy4 (And.intro hy5 (And.intro hy6 hy7))))))
   clear hr1 hr2 hp hp' hs t1 hxs hys hy1 hy2 hy3 hy4 hy5 hy6 hy7
   go_upto_region 6 with (fail)
   go_cut [8, 9] from 31 to 40 (fun p q wx => ∃ g8 g9 : Nat, p = .pointer (some ⟨g8, 0, none⟩) ∧ q = .pointer (some ⟨g9, 0, none⟩) ∧ Box wx g8 0 [.string xs, .int .i64 xty, .int .i64 xse, .bool xar, .int .i64 xlo, .int .i64 xhi, .int .i64 xin, .int .i64 xln] ∧ Box wx g9 0 [.string ys, .int .i64 yty, .int .i64 yse, .bool yar, .int .i64 ylo, .int .i64 yhi, .int .i64 yin, .int .i64 yln] ∧ g8 ≠ g9 ∧ wr.heap.size ≤ g8 ∧ wr.heap.size ≤ g9 ∧ g8 < wx.heap.size ∧ g9 < wx.heap.size ∧ Below wr.heap.size wr wx)
   case first =>
    refine wp_region_T (by kernel_rfl) (fun w' => Below wr.heap.size wr w') [] (Below.refl _ _).drew (fun hHeld => ?_)
    refine wpAnyT_take (i := 0) (v := ?_) rfl (by kernel_rfl) (by kernel_rfl) (by kernel_rfl) (fun _ _ _ h => h) (Or.inl ⟨by rfl, ?_⟩) (by assumption) ?_
    rotate_left 1
    ·intro w hSw; clear hSw; go_simp <;> (with_reducible rfl)
    try simp only [Act.put, List.setIfInBounds_toArray, List.set_cons_zero, List.set_cons_succ, List.getElem_toArray, List.getElem_cons_zero]
    refine wpAnyT_take (i := 1) (v := ?_) rfl (by kernel_rfl) (by kernel_rfl) (by kernel_rfl) (fun _ _ _ h => h) (Or.inl ⟨by rfl, ?_⟩) (by assumption) ?_
    rotate_left 1
    ·intro w hSw; have s_ := (hSw.cell (p := ⟨g0, 1, none⟩) hs7).trans a1; clear hSw; go_simp <;> (with_reducible rfl)
    try simp only [Act.put, List.setIfInBounds_toArray, List.set_cons_zero, List.set_cons_succ, List.getElem_toArray, List.getElem_cons_succ, List.getElem_cons_zero]
    refine wpAnyT_take (i := 2) (v := ?_) rfl (by kernel_rfl) (by kernel_rfl) (by kernel_rfl) (fun _ _ _ h => h) (Or.inl ⟨by rfl, ?_⟩) (by assumption) ?_
    rotate_left 1
    ·intro w hSw; clear hSw; go_simp <;> (with_reducible rfl)
    try simp only [Act.put, List.setIfInBounds_toArray, List.set_cons_zero, List.set_cons_succ, List.getElem_toArray, List.getElem_cons_succ, List.getElem_cons_zero]
    refine wpAnyT_take (i := 3) (v := ?_) rfl (by kernel_rfl) (by kernel_rfl) (by kernel_rfl) (fun _ _ _ h => h) (Or.inl ⟨by rfl, ?_⟩) (by assumption) ?_
    rotate_left 1
    ·intro w hSw; clear hSw; go_simp <;> (with_reducible rfl)
    try simp only [Act.put, List.setIfInBounds_toArray, List.set_cons_zero, List.set_cons_succ, List.getElem_toArray, List.getElem_cons_succ, List.getElem_cons_zero]
    refine wpAnyT_take (i := 4) rfl (by kernel_rfl) (by kernel_rfl) (by kernel_rfl) (fun _ _ _ h => h) (yieldsIf_load_mid (by rfl) 36 (.tmp 34) rfl b1 (o1 + q * 8) rfl [.string xs, .int .i64 xty, .int .i64 xse, .bool xar, .int .i64 xlo, .int .i64 xhi, .int .i64 xin, .int .i64 xln] _ (fun _ hb' => range_below hc1 hb' hb1) rfl rfl (by kernel_rfl)) (by assumption) ?_
    try simp only [Act.put, List.setIfInBounds_toArray, List.set_cons_zero, List.set_cons_succ, List.getElem_toArray, List.getElem_cons_succ, List.getElem_cons_zero]
    refine wpAnyT_take (i := 5) (v := ?_) rfl (by kernel_rfl) (by kernel_rfl) (by kernel_rfl) (fun _ _ _ h => h) (Or.inl ⟨by rfl, ?_⟩) (by assumption) ?_
    rotate_left 1
    ·intro w hSw; clear hSw; go_simp <;> (with_reducible rfl)
    try simp only [Act.put, List.setIfInBounds_toArray, List.set_cons_zero, List.set_cons_succ, List.getElem_toArray, List.getElem_cons_succ, List.getElem_cons_zero]
    refine wpAnyT_take (i := 6) (v := ?_) rfl (by kernel_rfl) (by kernel_rfl) (by kernel_rfl) (fun _ _ _ h => h) (Or.inl ⟨by rfl, ?_⟩) (by assumption) ?_
    rotate_left 1
    ·intro w hSw; have s_ := (hSw.cell (p := ⟨g0 + 1, 1, none⟩) hs8).trans d1; clear hSw; go_simp <;> (with_reducible rfl)
    try simp only [Act.put, List.setIfInBounds_toArray, List.set_cons_zero, List.set_cons_succ, List.getElem_toArray, List.getElem_cons_succ, List.getElem_cons_zero]
    refine wpAnyT_take (i := 7) (v := ?_) rfl (by kernel_rfl) (by kernel_rfl) (by kernel_rfl) (fun _ _ _ h => h) (Or.inl ⟨by rfl, ?_⟩) (by assumption) ?_
    rotate_left 1
    ·intro w hSw; clear hSw; go_simp <;> (with_reducible rfl)
    try simp only [Act.put, List.setIfInBounds_toArray, List.set_cons_zero, List.set_cons_succ, List.getElem_toArray, List.getElem_cons_succ, List.getElem_cons_zero]
    refine wpAnyT_take (i := 8) (v := ?_) rfl (by kernel_rfl) (by kernel_rfl) (by kernel_rfl) (fun _ _ _ h => h) (Or.inl ⟨by rfl, ?_⟩) (by assumption) ?_
    rotate_left 1
    ·intro w hSw; clear hSw; go_simp <;> (with_reducible rfl)
    try simp only [Act.put, List.setIfInBounds_toArray, List.set_cons_zero, List.set_cons_succ, List.getElem_toArray, List.getElem_cons_succ, List.getElem_cons_zero]
    refine wpAnyT_take (i := 9) rfl (by kernel_rfl) (by kernel_rfl) (by kernel_rfl) (fun _ _ _ h => h) (yieldsIf_load_mid (by rfl) 36 (.tmp 39) rfl b2 (o2 + q * 8) rfl [.string ys, .int .i64 yty, .int .i64 yse, .bool yar, .int .i64 ylo, .int .i64 yhi, .int .i64 yin, .int .i64 yln] _ (fun _ hb' => range_below hc2 hb' hb2) rfl rfl (by kernel_rfl)) (by assumption) ?_
    try simp only [Act.put, List.setIfInBounds_toArray, List.set_cons_zero, List.set_cons_succ, List.getElem_toArray, List.getElem_cons_succ, List.getElem_cons_zero]
    refine wpAnyT_ready (rs := [10, 11]) (by kernel_rfl) (by simp) ?_
    refine AllReadyT.cons rfl (fun K hK => ?_) (AllReadyT.cons rfl (fun K hK => ?_) AllReadyT.nil)
    ·go_simp
     have hA : Below wr.heap.size wr (wr.alloc (.cells #[.string ⟨#[]⟩, .int .i64 0, .int .i64 0, .bool false, .int .i64 0, .int .i64 0, .int .i64 0, .int .i64 0] 36)).drew := ((Below.refl _ _).alloc (Nat.le_refl _) _).drew
     refine hK.out _ _ hA (fun hHeld => ?_)
     clear hK K hA
     try simp only [Act.put, List.setIfInBounds_toArray, List.set_cons_zero, List.set_cons_succ, List.getElem_toArray, List.getElem_cons_succ, List.getElem_cons_zero]
     refine wpAnyT_ready (rs := [11]) (by kernel_rfl) (by simp) ?_
     refine AllReadyT.cons rfl (fun K hK => ?_) AllReadyT.nil
     go_simp
     obtain ⟨x1, x2, hb, hz⟩ := boxes2 (Below.refl ((wr.alloc (.cells #[.string ⟨#[]⟩, .int .i64 0, .int .i64 0, .bool false, .int .i64 0, .int .i64 0, .int .i64 0, .int .i64 0] 36)).alloc (.cells #[.string ⟨#[]⟩, .int .i64 0, .int .i64 0, .bool false, .int .i64 0, .int .i64 0, .int .i64 0, .int .i64 0] 36)).heap.size ((wr.alloc (.cells #[.string ⟨#[]⟩, .int .i64 0, .int .i64 0, .bool false, .int .i64 0, .int .i64 0, .int .i64 0, .int .i64 0] 36)).alloc (.cells #[.string ⟨#[]⟩, .int .i64 0, .int .i64 0, .bool false, .int .i64 0, .int .i64 0, .int .i64 0, .int .i64 0] 36)))
     have hB : Below wr.heap.size wr ((wr.alloc (.cells #[.string ⟨#[]⟩, .int .i64 0, .int .i64 0, .bool false, .int .i64 0, .int .i64 0, .int .i64 0, .int .i64 0] 36)).alloc (.cells #[.string ⟨#[]⟩, .int .i64 0, .int .i64 0, .bool false, .int .i64 0, .int .i64 0, .int .i64 0, .int .i64 0] 36)).drew := hb.drew
     have y1 := sbox_drew x1
     have y2 := sbox_drew x2
     have z2 : wr.heap.size + 1 < ((wr.alloc (.cells #[.string ⟨#[]⟩, .int .i64 0, .int .i64 0, .bool false, .int .i64 0, .int .i64 0, .int .i64 0, .int .i64 0] 36)).alloc (.cells #[.string ⟨#[]⟩, .int .i64 0, .int .i64 0, .bool false, .int .i64 0, .int .i64 0, .int .i64 0, .int .i64 0] 36)).drew.heap.size := hz
     clear x1 x2 hb hz
     generalize ((wr.alloc (.cells #[.string ⟨#[]⟩, .int .i64 0, .int .i64 0, .bool false, .int .i64 0, .int .i64 0, .int .i64 0, .int .i64 0] 36)).alloc (.cells #[.string ⟨#[]⟩, .int .i64 0, .int .i64 0, .bool false, .int .i64 0, .int .i64 0, .int .i64 0, .int .i64 0] 36)).drew = w2 at *
     have X1 := Lib.hid y1
     have X2 := Lib.hid y2
     clear y1 y2
     refine hK.out _ _ hB (fun hHeld => ?_)
     clear hK K hHeld
     try simp only [Act.put, List.setIfInBounds_toArray, List.set_cons_zero, List.set_cons_succ, List.getElem_toArray, List.getElem_cons_succ, List.getElem_cons_zero]
     refine wpAnyT_ready (rs := [12]) (by kernel_rfl) (by simp) ?_
     refine AllReadyT.cons rfl (fun K hK => ?_) AllReadyT.nil
     obtain ⟨w3, hW, x, hz, hb, _⟩ := k.stored (us := [.string xs, .int .i64 xty, .int .i64 xse, .bool xar, .int .i64 xlo, .int .i64 xhi, .int .i64 xin, .int .i64 xln]) X1.out rfl
     have y := aside_stored hW (by omega : wr.heap.size ≠ (wr.heap.size + 1)) X2.out
     refine wp_store_mid 36 (.tmp 8) (.tmp 35) rfl wr.heap.size 0 ([.string xs, .int .i64 xty, .int .i64 xse, .bool xar, .int .i64 xlo, .int .i64 xhi, .int .i64 xin, .int .i64 xln]).toArray rfl rfl (there_of X1.out rfl) (by kernel_rfl) (all_oneCell_toArray (vaC_ones _ _ _ _ _ _ _ _)) ?_
     have hBn := hB.trans (hb wr.heap.size (by omega))
     have z2n : wr.heap.size + 1 < w3.heap.size := by rw [hz]; exact z2
     simp only [hW]
     have X1n := Lib.hid x
     have X2n := Lib.hid y
     clear hb hz hW x y hB z2 X1 X2
     have hB := hBn
     have z2 := z2n
     have X1 := Lib.hid X1n.out
     have X2 := Lib.hid X2n.out
     clear hBn z2n X1n X2n
     refine hK.out _ _ hB (fun hHeld => ?_)
     clear hK K hHeld
     try simp only [Act.put, List.getElem_toArray, List.getElem_cons_succ, List.getElem_cons_zero]
     refine wpAnyT_ready (rs := [13]) (by kernel_rfl) (by simp) ?_
     refine AllReadyT.cons rfl (fun K hK => ?_) AllReadyT.nil
     obtain ⟨w4, hW, x, hz, hb, _⟩ := k.stored (us := [.string ys, .int .i64 yty, .int .i64 yse, .bool yar, .int .i64 ylo, .int .i64 yhi, .int .i64 yin, .int .i64 yln]) X2.out rfl
     have y := aside_stored hW (by omega : (wr.heap.size + 1) ≠ wr.heap.size) X1.out
     refine wp_store_mid 36 (.tmp 9) (.tmp 40) rfl (wr.heap.size + 1) 0 ([.string ys, .int .i64 yty, .int .i64 yse, .bool yar, .int .i64 ylo, .int .i64 yhi, .int .i64 yin, .int .i64 yln]).toArray rfl rfl (there_of X2.out rfl) (by kernel_rfl) (all_oneCell_toArray (vaC_ones _ _ _ _ _ _ _ _)) ?_
     have hBn := hB.trans (hb wr.heap.size (by omega))
     have z2n : wr.heap.size + 1 < w4.heap.size := by rw [hz]; exact z2
     simp only [hW]
     have X2n := Lib.hid x
     have X1n := Lib.hid y
     clear hb hz hW x y hB z2 X1 X2
     have hB := hBn
     have z2 := z2n
     have X1 := Lib.hid X1n.out
     have X2 := Lib.hid X2n.out
     clear hBn z2n X1n X2n
     refine hK.out _ _ hB (fun hHeld => ?_)
     clear hK K hHeld
     try simp only [Act.put, List.getElem_toArray, List.getElem_cons_succ, List.getElem_cons_zero]
     refine wpAnyT_done (by kernel_rfl) ?_ _
     go_wp2_with fail
     go_meet
     case rel => exact ⟨wr.heap.size, (wr.heap.size + 1), rfl, rfl, X1.out, X2.out, by omega, by omega, by omega, by omega, by omega, hB⟩
    ·go_simp
     have hA : Below wr.heap.size wr (wr.alloc (.cells #[.string ⟨#[]⟩, .int .i64 0, .int .i64 0, .bool false, .int .i64 0, .int .i64 0, .int .i64 0, .int .i64 0] 36)).drew := ((Below.refl _ _).alloc (Nat.le_refl _) _).drew
     refine hK.out _ _ hA (fun hHeld => ?_)
     clear hK K hA
     try simp only [Act.put, List.setIfInBounds_toArray, List.set_cons_zero, List.set_cons_succ, List.getElem_toArray, List.getElem_cons_succ, List.getElem_cons_zero]
     refine wpAnyT_ready (rs := [10]) (by kernel_rfl) (by simp) ?_
     refine AllReadyT.cons rfl (fun K hK => ?_) AllReadyT.nil
     go_simp
     obtain ⟨x1, x2, hb, hz⟩ := boxes2 (Below.refl ((wr.alloc (.cells #[.string ⟨#[]⟩, .int .i64 0, .int .i64 0, .bool false, .int .i64 0, .int .i64 0, .int .i64 0, .int .i64 0] 36)).alloc (.cells #[.string ⟨#[]⟩, .int .i64 0, .int .i64 0, .bool false, .int .i64 0, .int .i64 0, .int .i64 0, .int .i64 0] 36)).heap.size ((wr.alloc (.cells #[.string ⟨#[]⟩, .int .i64 0, .int .i64 0, .bool false, .int .i64 0, .int .i64 0, .int .i64 0, .int .i64 0] 36)).alloc (.cells #[.string ⟨#[]⟩, .int .i64 0, .int .i64 0, .bool false, .int .i64 0, .int .i64 0, .int .i64 0, .int .i64 0] 36)))
     have hB : Below wr.heap.size wr ((wr.alloc (.cells #[.string ⟨#[]⟩, .int .i64 0, .int .i64 0, .bool false, .int .i64 0, .int .i64 0, .int .i64 0, .int .i64 0] 36)).alloc (.cells #[.string ⟨#[]⟩, .int .i64 0, .int .i64 0, .bool false, .int .i64 0, .int .i64 0, .int .i64 0, .int .i64 0] 36)).drew := hb.drew
     have y1 := sbox_drew x1
     have y2 := sbox_drew x2
     have z2 : wr.heap.size + 1 < ((wr.alloc (.cells #[.string ⟨#[]⟩, .int .i64 0, .int .i64 0, .bool false, .int .i64 0, .int .i64 0, .int .i64 0, .int .i64 0] 36)).alloc (.cells #[.string ⟨#[]⟩, .int .i64 0, .int .i64 0, .bool false, .int .i64 0, .int .i64 0, .int .i64 0, .int .i64 0] 36)).drew.heap.size := hz
     clear x1 x2 hb hz
     generalize ((wr.alloc (.cells #[.string ⟨#[]⟩, .int .i64 0, .int .i64 0, .bool false, .int .i64 0, .int .i64 0, .int .i64 0, .int .i64 0] 36)).alloc (.cells #[.string ⟨#[]⟩, .int .i64 0, .int .i64 0, .bool false, .int .i64 0, .int .i64 0, .int .i64 0, .int .i64 0] 36)).drew = w2 at *
     have X1 := Lib.hid y1
     have X2 := Lib.hid y2
     clear y1 y2
     refine hK.out _ _ hB (fun hHeld => ?_)
     clear hK K hHeld
     try simp only [Act.put, List.setIfInBounds_toArray, List.set_cons_zero, List.set_cons_succ, List.getElem_toArray, List.getElem_cons_succ, List.getElem_cons_zero]
     refine wpAnyT_ready (rs := [12]) (by kernel_rfl) (by simp) ?_
     refine AllReadyT.cons rfl (fun K hK => ?_) AllReadyT.nil
     obtain ⟨w3, hW, x, hz, hb, _⟩ := k.stored (us := [.string xs, .int .i64 xty, .int .i64 xse, .bool xar, .int .i64 xlo, .int .i64 xhi, .int .i64 xin, .int .i64 xln]) X2.out rfl
     have y := aside_stored hW (by omega : (wr.heap.size + 1) ≠ wr.heap.size) X1.out
     refine wp_store_mid 36 (.tmp 8) (.tmp 35) rfl (wr.heap.size + 1) 0 ([.string xs, .int .i64 xty, .int .i64 xse, .bool xar, .int .i64 xlo, .int .i64 xhi, .int .i64 xin, .int .i64 xln]).toArray rfl rfl (there_of X2.out rfl) (by kernel_rfl) (all_oneCell_toArray (vaC_ones _ _ _ _ _ _ _ _)) ?_
     have hBn := hB.trans (hb wr.heap.size (by omega))
     have z2n : wr.heap.size + 1 < w3.heap.size := by rw [hz]; exact z2
     simp only [hW]
     have X2n := Lib.hid x
     have X1n := Lib.hid y
     clear hb hz hW x y hB z2 X1 X2
     have hB := hBn
     have z2 := z2n
     have X1 := Lib.hid X1n.out
     have X2 := Lib.hid X2n.out
     clear hBn z2n X1n X2n
     refine hK.out _ _ hB (fun hHeld => ?_)
     clear hK K hHeld
     try simp only [Act.put, List.getElem_toArray, List.getElem_cons_succ, List.getElem_cons_zero]
     refine wpAnyT_ready (rs := [13]) (by kernel_rfl) (by simp) ?_
     refine AllReadyT.cons rfl (fun K hK => ?_) AllReadyT.nil
     obtain ⟨w4, hW, x, hz, hb, _⟩ := k.stored (us := [.string ys, .int .i64 yty, .int .i64 yse, .bool yar, .int .i64 ylo, .int .i64 yhi, .int .i64 yin, .int .i64 yln]) X1.out rfl
     have y := aside_stored hW (by omega : wr.heap.size ≠ (wr.heap.size + 1)) X2.out
     refine wp_store_mid 36 (.tmp 9) (.tmp 40) rfl wr.heap.size 0 ([.string ys, .int .i64 yty, .int .i64 yse, .bool yar, .int .i64 ylo, .int .i64 yhi, .int .i64 yin, .int .i64 yln]).toArray rfl rfl (there_of X1.out rfl) (by kernel_rfl) (all_oneCell_toArray (vaC_ones _ _ _ _ _ _ _ _)) ?_
     have hBn := hB.trans (hb wr.heap.size (by omega))
     have z2n : wr.heap.size + 1 < w4.heap.size := by rw [hz]; exact z2
     simp only [hW]
     have X1n := Lib.hid x
     have X2n := Lib.hid y
     clear hb hz hW x y hB z2 X1 X2
     have hB := hBn
     have z2 := z2n
     have X1 := Lib.hid X1n.out
     have X2 := Lib.hid X2n.out
     clear hBn z2n X1n X2n
     refine hK.out _ _ hB (fun hHeld => ?_)
     clear hK K hHeld
     try simp only [Act.put, List.getElem_toArray, List.getElem_cons_succ, List.getElem_cons_zero]
     refine wpAnyT_done (by kernel_rfl) ?_ _
     go_wp2_with fail
     go_meet
     case rel => exact ⟨(wr.heap.size + 1), wr.heap.size, rfl, rfl, X2.out, X1.out, by omega, by omega, by omega, by omega, by omega, hB⟩
   case rest =>
    obtain ⟨g8, g9, rfl, rfl, hx8, hx9, hne, hw8, hw9, hl8, hl9, hBc⟩ := hcut
    obtain ⟨wo, rfl⟩ : ∃ wo : World, wo = wr := ⟨_, rfl⟩
    have X8 := Lib.hid hx8
    have X9 := Lib.hid hx9
    have BCc := Lib.hid (BC.out.trans (hBc.mono BC.out.size))
    have BC4 := Lib.hid (HB4.out.trans (hBc.mono HB4.out.size))
    have hne2 : ¬ g9 = g8 := by omega
    have ⟨c0, f0, c1, f1, c2, f2, c3, f3, c4, f4, c5, f5, c6, f6, c7, f7, _⟩ := X8.out
    have ⟨k0, l0, k1, l1, k2, l2, k3, l3, k4, l4, k5, l5, k6, l6, k7, l7, _⟩ := X9.out
    clear hx8 hx9 hBc a1 d1 hb1 hb2 hc1 hc2
    go_upto_region 9 with (fail)
    have n8 := Box_aside (show g9 ≠ g8 by omega) (i := 7) (.int .i64 0) (X8.out.put 7 (by simp) (.int .i64 0))
    have n9 := (Box_aside (show g8 ≠ g9 by omega) (i := 7) (.int .i64 0) X9.out).put 7 (by simp) (.int .i64 0)
    have b9 := (Below.setCell (p := ⟨g8, 7, none⟩) (Below.refl w4.heap.size wc) (show w4.heap.size ≤ g8 by have := HB4.out.size; omega) (.int .i64 0)).setCell (p := ⟨g9, 7, none⟩) (show w4.heap.size ≤ g9 by have := HB4.out.size; omega) (.int .i64 0)
    have b9w := (Below.setCell (p := ⟨g8, 7, none⟩) (Below.refl w.heap.size wc) (show w.heap.size ≤ g8 by have := BC.out.size; omega) (.int .i64 0)).setCell (p := ⟨g9, 7, none⟩) (show w.heap.size ≤ g9 by have := BC.out.size; omega) (.int .i64 0)
    simp only [List.set_cons_succ, List.set_cons_zero] at n8 n9
    clear X8 X9 c0 f0 c1 f1 c2 f2 c3 f3 c4 f4 c5 f5 c6 f6 c7 f7 k0 l0 k1 l1 k2 l2 k3 l3 k4 l4 k5 l5 k6 l6 k7 l7
    generalize (wc.setCell ⟨g8, 7, none⟩ (.int .i64 0)).setCell ⟨g9, 7, none⟩ (.int .i64 0) = w9 at *
    have B9 := Lib.hid (BCc.out.trans b9w)
    have BB4 := Lib.hid (BC4.out.trans b9)
    have ⟨c0, _, c1, _, c2, _, c3, _, c4, _, c5, _, c6, _, c7, _, _⟩ := n8
    have ⟨k0, _, k1, _, k2, _, k3, _, k4, _, k5, _, k6, _, k7, _, _⟩ := n9
    clear n8 n9 b9 b9w BCc BC4
    obtain ⟨t1, t2, t3, t4, t5, t6, t7⟩ := TY.out
    clear TY
    cases y1
    ·have HR2 := Lib.hid (show R = false by rw [← HR.out, ← HS.out]; simp)
     go_wp2_with fail
     go_ret
     exact ⟨ret_bool HR2.out.symm, B9.out⟩
    cases y2
    ·have HR2 := Lib.hid (show R = false by rw [← HR.out, ← HS.out]; simp)
     go_wp2_with fail
     go_ret
     exact ⟨ret_bool HR2.out.symm, B9.out⟩
    cases y3
    ·have HR2 := Lib.hid (show R = false by rw [← HR.out, ← HS.out]; simp)
     go_wp2_with fail
     go_ret
     exact ⟨ret_bool HR2.out.symm, B9.out⟩
    cases y4
    ·have HR2 := Lib.hid (show R = false by rw [← HR.out, ← HS.out]; simp)
     go_wp2_with fail
     go_ret
     exact ⟨ret_bool HR2.out.symm, B9.out⟩
    cases y5
    ·have HR2 := Lib.hid (show R = false by rw [← HR.out, ← HS.out]; simp)
     go_wp2_with fail
     go_ret
     exact ⟨ret_bool HR2.out.symm, B9.out⟩
    cases y6
    ·have HR2 := Lib.hid (show R = false by rw [← HR.out, ← HS.out]; simp)
     go_wp2_with fail
     go_ret
     exact ⟨ret_bool HR2.out.symm, B9.out⟩
    cases y7
    ·have HR2 := Lib.hid (show R = false by rw [← HR.out, ← HS.out]; simp)
     go_wp2_with fail
     go_ret
     exact ⟨ret_bool HR2.out.symm, B9.out⟩
    have HS3 := Lib.hid (show vasSame (pv.drop (q + 1)) (qv.drop (q + 1)) = u3 by rw [← HS.out]; simp)
    have w1 : IntKind.i64.wrap ((q : Int) + 1) = ((q + 1 : Nat) : Int) := by rw [IntKind.wrap_i64]; omega
    go_wp2_with fail
    go_roundw
    case rel => exact ⟨q + 1, by omega, by go_num, BB4.out, HS3.out⟩
    case measure => simp [intOf]; omega
  ·obtain rfl : q = xvl := by omega
   have hz : ¬ (q : Int) < q := by omega
   rw [List.drop_of_length_le (by rw [LL.out.1]; exact Nat.le_refl _), List.drop_of_length_le (by rw [LL.out.2]; exact Nat.le_refl _)] at hs
   have hs : true = u3 := hs
   subst hs
   have C := Lib.hid (SC.out _ BC.out)
   have HR2 := Lib.hid (show u4 = R by rw [← HR.out]; simp)
   have a2 := (k.cell_of X3r.out (i := 2) rfl).1
   have d2 := (k.cell_of X4r.out (i := 2) rfl).1
   go_wp2_with (go_at_call 14; fail)
   refine C.out.mono ?_
   rintro e w5 ⟨rfl, hb⟩
   have B5 := Lib.hid (BC.out.trans (hb.mono BC.out.size))
   clear hb C SC
   go_wp2_with fail
   go_ret
   exact ⟨ret_bool HR2.out, B5.out⟩
end Go.Proofs.YtbcpkhegmbdifaaGreat.tr
