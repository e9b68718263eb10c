/- The landed parser's statements: assignments, over what the parts give; steps of regions that draw their order. No condition but what each line says. -/
import Derived.Test.YtbcpkhegmbdifaaGreatU16
namespace Go.Proofs.YtbcpkhegmbdifaaGreat.tr
open Go.ChangeShapes Go.WideShapes Go.ChangeAt Go.RowKit Go.Proofs.YtbcpkhegmbdifaaGreat.k Go.Proofs.YtbcpkhegmbdifaaGreat.rr Go.Proofs.YtbcpkhegmbdifaaGreat.tk
set_option linter.unusedVariables false
set_option linter.unusedSimpArgs false

theorem box_drew {w : World} {g : Nat} : ∀ {vs : List Value} {o : Nat}, Box w g o vs → Box w.drew g o vs
 | [], _, _ => trivial
 | v :: vs, o, h => ⟨h.1, h.2.1, box_drew h.2.2⟩
section
variable {P : Program} {ops : Array Oper} {op : Oper} {a : Act} {w : World} {K : Act → World → Prop} {Q : Exit → Act → World → Prop} {E : Prop}
theorem t_wanted (hg : op.guard = none) (h : Oper.wp P op a w K Q) : if Region.wanted op (yielded ops a.tmps) = true then Oper.wp P op a w K Q else E := by
 rw [if_pos (by simp [Region.wanted, hg])]
 exact h
/-- a slice of one element is made -/
theorem t_slice1 {α : Type} {enc : α → List Value} {z : Nat} (x : α) (ST T u : Nat) (V : Value) (cs : Array Value) (ho : op.op = .buildSlice ST 1 #[(0, .tmp u)]) (hg : op.guard = none) (hy : a.eval (.tmp u) = V)
  (hrun : ∀ w, (Instr.buildSlice ST 1 #[(0, V)]).run P w = .ok (.slice (some ⟨w.heap.size, 0, none⟩) 1 1) (w.alloc (.cells cs T))) (hc : cs.toList = enc x)
  (h : ∀ w', RB enc z w' (Nw w.heap.size (w.heap.size + 1)) ⟨some ⟨w.heap.size, 0, none⟩, 1, 1⟩ [x] → Below w.heap.size w w' → w'.heap.size = w.heap.size + 1 → K (a.put op.dst (.slice (some ⟨w.heap.size, 0, none⟩) 1 1)) w') : if Region.wanted op (yielded ops a.tmps) = true then Oper.wp P op a w K Q else E := by
 refine t_wanted hg ?_
 unfold Oper.wp execOp
 simp only [ho, List.map_toArray, List.map_cons, List.map_nil, hy, hrun, Sem.run_bind, Result.andThen_ok]
 exact h _ (rb_one w T x cs hc (Nat.le_refl _) (Nat.le_refl _)) ((Below.refl w.heap.size w).alloc (Nat.le_refl _) _) (by simp)
/-- a value is made of three parts -/
theorem t_build3 (T i j l : Nat) (x y z : Operand) (X Y Z v : Value) (ho : op.op = .build T #[(i, x), (j, y), (l, z)]) (hg : op.guard = none) (hx : a.eval x = X) (hy : a.eval y = Y) (hz : a.eval z = Z) (hrun : ∀ w, (Instr.build T #[(i, X), (j, Y), (l, Z)]).run P w = .ok v w)
  (h : K (a.put op.dst v) w) : if Region.wanted op (yielded ops a.tmps) = true then Oper.wp P op a w K Q else E := by
 refine t_wanted hg ?_
 unfold Oper.wp execOp
 simp only [ho, List.map_toArray, List.map_cons, List.map_nil, hx, hy, hz, hrun, Sem.run_bind, Result.andThen_ok]
 exact h
/-- a whole value goes into a variable -/
theorem t_store {g : Nat} {vs : List Value} (hb : k.Box w g 0 vs) (T : TypeId) (t u : Nat) (ho : op.op = .store T (.tmp t) (.tmp u)) (hg : op.guard = none) (hd : op.dst = none) (cs : List Value) (hx : a.eval (.tmp t) = .pointer (some ⟨g, 0, none⟩)) (hy : a.eval (.tmp u) = .agg cs.toArray)
  (hl : cs.length = vs.length) (hi : (P.info? T).map (·.size) = some cs.length) (h1 : ∀ v ∈ cs, v.oneCell' = true)
  (h : ∀ w', k.Box w' g 0 cs → w.grownBy w' (some g) → w'.heap.size = w.heap.size → K a w') : if Region.wanted op (yielded ops a.tmps) = true then Oper.wp P op a w K Q else E := by
 refine t_wanted hg ?_
 obtain ⟨W, e, hW, hs, _, _⟩ := k.stored (us := cs) hb hl
 refine wp_store_mid T (.tmp t) (.tmp u) ho g 0 cs.toArray hx hy (by rw [List.size_toArray, hl]; exact hb.there) (by rw [List.size_toArray]; exact hi) (all_oneCell_toArray h1) ?_
 rw [hd]
 show K a (World.setCells _ _ _ cs)
 have hgr : w.grownBy (w.setCells g 0 cs) (some g) := by rw [k.setCells_puts]; exact gr_puts cs 0 w
 rw [e] at hgr ⊢
 exact h W hW hgr hs
end
section
variable {r : Sg} {V : Value} {d g : Nat} {w : World}

/-- a statement that begins with a name -/
def namedF (f d : Nat) (r : Sg) : Res (Nat → St) := (want 1 r).bind fun t r' =>
 if txt r' = [40] then
  if txt (r'.drop 1) = [41] then .ok (fun ln => St.mk 9 t.text zeroE zeroE [] [] [] [] ln) (r'.drop 2)
  else (argsF f d (r'.drop 1) [] []).bind fun a r' => (need [41] r').bind fun _ r' => .ok (fun ln => St.mk 9 t.text zeroE zeroE a.2 [] a.1 [] ln) r'
 else (if txt r' = [91] then (indexF f d r').bind fun x r' => .ok (Ex.mk 4 0 t.text [] [x] t.line) r' else .ok (Ex.mk 3 0 t.text [] [] t.line) r').bind fun dst r' =>
  (need [58, 61] r').bind fun _ r' => (expr f d r').bind fun x r' => .ok (fun ln => St.mk 1 [] dst x [] [] [] [] ln) r'
/-- a call, behind its ( -/
def callF (f d : Nat) (nm : Str) (r : Sg) : Res (Nat → St) :=
 if txt r = [41] then .ok (fun ln => St.mk 9 nm zeroE zeroE [] [] [] [] ln) (r.drop 1)
 else (argsF f d r [] []).bind fun a r' => (need [41] r').bind fun _ r' => .ok (fun ln => St.mk 9 nm zeroE zeroE a.2 [] a.1 [] ln) r'
def assignF (f d : Nat) (dst : Ex) (r : Sg) : Res (Nat → St) := (need [58, 61] r).bind fun _ r' => (expr f d r').bind fun x r' => .ok (fun ln => St.mk 1 [] dst x [] [] [] [] ln) r'
theorem named_cases (f d : Nat) (r : Sg) : (∃ n t, placeF f d r = .bad n t ∧ namedF f d r = .bad n t) ∨ (∃ nm x ln r2, placeF f d r = .ok (.mk 4 0 nm [] [x] ln) r2 ∧ namedF f d r = assignF f d (.mk 4 0 nm [] [x] ln) r2) ∨
  ∃ nm ln r2, placeF f d r = .ok (.mk 3 0 nm [] [] ln) r2 ∧ namedF f d r = if txt r2 = [40] then callF f d nm (r2.drop 1) else assignF f d (.mk 3 0 nm [] [] ln) r2 := by
 unfold placeF namedF
 cases want 1 r with
 | bad n t => exact .inl ⟨n, t, rfl, rfl⟩
 | ok t r' =>
  simp only [bind_okE]
  by_cases h : txt r' = [91]
  ·rw [if_pos h, if_neg (show ¬ txt r' = [40] by rw [h]; decide)]
   cases indexF f d r' with
   | bad n t => exact .inl ⟨n, t, rfl, rfl⟩
   | ok x r2 => exact .inr (.inl ⟨_, x, _, r2, rfl, rfl⟩)
  ·rw [if_neg h]
   refine .inr (.inr ⟨_, _, _, rfl, ?_⟩)
   by_cases h4 : txt r' = [40]
   ·rw [if_pos h4, if_pos h4]
    unfold callF
    rw [List.drop_drop]
   ·rw [if_neg h4, if_neg h4]
    rfl
set_option maxRecDepth 100000 in
set_option maxHeartbeats 4000000 in
theorem named_bad (hP : Par w g r V d) (hr : RowOk r) (hd : d ≤ 32) {f : Nat} (hf : 20 * r.length + 9 ≤ f) (HC : ECtr Tryz.prog 82 (placeF f d r) d r) {n : Int} {t : Tk} (hp : placeF f d r = .bad n t) (hq : namedF f d r = .bad n t) :
  Calls Tryz.prog 68 #[.pointer (some ⟨g, 0, none⟩)] w (Gv g V d w GotW (namedF f d r)) := by
 have HCC := Lib.hid HC
 rw [hp] at HCC
 have HQ := Lib.hid hq
 clear HC hp hq
 have P1 := Lib.hid hP
 have G1 := Lib.hid (gr_refl w (some g))
 have R1 := Lib.hid hr
 have Z1 := Lib.hid (show g < w.heap.size from hP.lt)
 clear hP hr
 go_enter Tryz.func68, Tryz.ntmps68
 go_upto_region 1 with (fail)
 have hb := (Below.refl w.heap.size w).alloc (Nat.le_refl _) (.cells #[.int .i64 0, .string ⟨#[]⟩, .int .i64 0, .int .i64 0, .string ⟨#[]⟩, .string ⟨#[]⟩, .slice none 0 0, .int .i64 0, .int .i64 0, .int .i64 0, .string ⟨#[]⟩, .string ⟨#[]⟩, .slice none 0 0, .int .i64 0, .slice none 0 0, .slice none 0 0, .slice none 0 0, .slice none 0 0, .int .i64 0] 44)
 have hx := Box.new w #[.int .i64 0, .string ⟨#[]⟩, .int .i64 0, .int .i64 0, .string ⟨#[]⟩, .string ⟨#[]⟩, .slice none 0 0, .int .i64 0, .int .i64 0, .int .i64 0, .string ⟨#[]⟩, .string ⟨#[]⟩, .slice none 0 0, .int .i64 0, .slice none 0 0, .slice none 0 0, .slice none 0 0, .slice none 0 0, .int .i64 0] 44
 have hz : (w.alloc (.cells #[.int .i64 0, .string ⟨#[]⟩, .int .i64 0, .int .i64 0, .string ⟨#[]⟩, .string ⟨#[]⟩, .slice none 0 0, .int .i64 0, .int .i64 0, .int .i64 0, .string ⟨#[]⟩, .string ⟨#[]⟩, .slice none 0 0, .int .i64 0, .slice none 0 0, .slice none 0 0, .slice none 0 0, .slice none 0 0, .int .i64 0] 44)).heap.size = w.heap.size + 1 := by simp
 generalize w.alloc (.cells #[.int .i64 0, .string ⟨#[]⟩, .int .i64 0, .int .i64 0, .string ⟨#[]⟩, .string ⟨#[]⟩, .slice none 0 0, .int .i64 0, .int .i64 0, .int .i64 0, .string ⟨#[]⟩, .string ⟨#[]⟩, .slice none 0 0, .int .i64 0, .slice none 0 0, .slice none 0 0, .slice none 0 0, .slice none 0 0, .int .i64 0] 44) = w4 at *
 have hg := gr_of (row := some w.heap.size) hb
 have Z2 := Lib.hid (And.intro hz Z1.out)
 have X3 := Lib.hid hx
 clear hb hx hz
 have P4 := Lib.hid (P1.out.gr hg (by have z := Z1.out; omega))
 clear P1
 have G5 := hgt hg G1 (fun _ => by have z := Z1.out; omega)
 clear G1
 have Z6 := hzz hg Z2
 clear hg
 go_wp2_with (go_at_call 82; fail)
 refine (HCC.out _ _ _ P4.out).mono ?_
 rintro e w5 ⟨rfl, hg⟩
 go_wp2
 exact ⟨rfl, Gv.badOf HQ.out (gr_trans G5.out hg)⟩
set_option maxRecDepth 100000 in
set_option maxHeartbeats 4000000 in
theorem named_index (hP : Par w g r V d) (hr : RowOk r) (hd : d ≤ 32) {f : Nat} (hf : 20 * r.length + 9 ≤ f) (HC : ECtr Tryz.prog 82 (placeF f d r) d r) {nm : Str} {x : Ex} {ln : Nat} {r2 : Sg} (hln : r2.length < r.length) (hp : placeF f d r = .ok (.mk 4 0 nm [] [x] ln) r2) (hq : namedF f d r = assignF f d (.mk 4 0 nm [] [x] ln) r2) :
  Calls Tryz.prog 68 #[.pointer (some ⟨g, 0, none⟩)] w (Gv g V d w GotW (namedF f d r)) := by
 have HCC := Lib.hid HC
 rw [hp] at HCC
 generalize namedF f d r = R at *
 unfold assignF at hq
 have HR := Lib.hid hq.symm
 have HF := Lib.hid hf
 have LE0 := Lib.hid (show r2.length ≤ r.length by omega)
 clear HC hp hq hf hln
 have P1 := Lib.hid hP
 have G1 := Lib.hid (gr_refl w (some g))
 have R1 := Lib.hid hr
 have Z1 := Lib.hid (show g < w.heap.size from hP.lt)
 clear hP hr
 go_enter Tryz.func68, Tryz.ntmps68
 go_upto_region 1 with (fail)
 have hb := (Below.refl w.heap.size w).alloc (Nat.le_refl _) (.cells #[.int .i64 0, .string ⟨#[]⟩, .int .i64 0, .int .i64 0, .string ⟨#[]⟩, .string ⟨#[]⟩, .slice none 0 0, .int .i64 0, .int .i64 0, .int .i64 0, .string ⟨#[]⟩, .string ⟨#[]⟩, .slice none 0 0, .int .i64 0, .slice none 0 0, .slice none 0 0, .slice none 0 0, .slice none 0 0, .int .i64 0] 44)
 have hx := Box.new w #[.int .i64 0, .string ⟨#[]⟩, .int .i64 0, .int .i64 0, .string ⟨#[]⟩, .string ⟨#[]⟩, .slice none 0 0, .int .i64 0, .int .i64 0, .int .i64 0, .string ⟨#[]⟩, .string ⟨#[]⟩, .slice none 0 0, .int .i64 0, .slice none 0 0, .slice none 0 0, .slice none 0 0, .slice none 0 0, .int .i64 0] 44
 have hz : (w.alloc (.cells #[.int .i64 0, .string ⟨#[]⟩, .int .i64 0, .int .i64 0, .string ⟨#[]⟩, .string ⟨#[]⟩, .slice none 0 0, .int .i64 0, .int .i64 0, .int .i64 0, .string ⟨#[]⟩, .string ⟨#[]⟩, .slice none 0 0, .int .i64 0, .slice none 0 0, .slice none 0 0, .slice none 0 0, .slice none 0 0, .int .i64 0] 44)).heap.size = w.heap.size + 1 := by simp
 generalize w.alloc (.cells #[.int .i64 0, .string ⟨#[]⟩, .int .i64 0, .int .i64 0, .string ⟨#[]⟩, .string ⟨#[]⟩, .slice none 0 0, .int .i64 0, .int .i64 0, .int .i64 0, .string ⟨#[]⟩, .string ⟨#[]⟩, .slice none 0 0, .int .i64 0, .slice none 0 0, .slice none 0 0, .slice none 0 0, .slice none 0 0, .int .i64 0] 44) = w4 at *
 have hg := gr_of (row := some w.heap.size) hb
 have Z2 := Lib.hid (And.intro hz Z1.out)
 have X3 := Lib.hid hx
 clear hb hx hz
 have P4 := Lib.hid (P1.out.gr hg (by have z := Z1.out; omega))
 clear P1
 have G5 := hgt hg G1 (fun _ => by have z := Z1.out; omega)
 clear G1
 have Z6 := hzz hg Z2
 clear hg
 go_wp2_with (go_at_call 82; fail)
 refine (HCC.out _ _ _ P4.out).mono ?_
 rintro e w5 ⟨⟨v9, rfl, hG⟩, hP9, hr9, hg⟩
 have P7 := Lib.hid hP9
 have R8 := Lib.hid hr9
 have X9 := hbx hg (by have z := Z6.out; omega) X3
 clear X3
 clear P4
 have G10 := Lib.hid (gr_trans G5.out hg)
 clear G5
 have Z11 := hzz hg Z6
 clear hg hP9 hr9 R1
 obtain ⟨⟨o9, n9, nm9, fd9, ⟨A9, l9, c9⟩, ln9⟩, rfl, hE9⟩ := hG
 have HE9 := Lib.hid hE9
 obtain ⟨rfl, rfl, rfl, rfl, rfl, _⟩ := hE9
 go_upto_region 2 with ((with_reducible refine m_new 39 3 5 ?_ ?_ ?_ (eC ⟨4, 0, nm9, [], ⟨A9, l9, c9⟩, ln9⟩) ?_ ?_ ?_ ?_ (eC_one _) ?_); rfl; rfl; rfl; rfl; rfl; rfl; kernel_rfl; intro w6 hx hb hz)
 have hg := gr_of (row := some w5.heap.size) hb
 have Z12 := Lib.hid (And.intro hz Z11.out)
 have X13 := Lib.hid hx
 clear hb hx hz
 have X14 := hbx hg (by have z := Z11.out; omega) X9
 clear X9
 have E15 := hkExB hg (by have z := Z11.out; omega) HE9
 clear HE9
 have P16 := Lib.hid (P7.out.gr hg (by have z := Z11.out; omega))
 clear P7
 have G17 := hgt hg G10 (fun _ => by have z := Z11.out; omega)
 clear G10
 have Z18 := hzz hg Z12
 clear hg
 have ⟨a0, k0, a1, k1, a2, k2, a3, k3, a4, k4, a5, k5, _⟩ := X13.out
 go_upto_region 4 with (fail)
 clear a0 k0 a1 k1 a2 k2 a3 k3 a4 k4 a5 k5
 have L19 := Lib.hid (drop_len r2)
 by_cases hs20 : txt (r2) = [58, 61]
 rotate_left
 ·have hq := HR.out
  rw [need_badE hs20] at hq
  go_wp2_with (go_at_call 18; fail)
  refine (need_no P16.out R8.out (mt (headS_txt R8.out (by decide) (by decide) (by decide) (by decide)).1 hs20)).mono ?_
  rintro e w7 ⟨rfl, hb⟩
  go_wp2
  exact ⟨rfl, Gv.badOf hq.symm (gr_trans G17.out (gr_of hb))⟩
 have hq := HR.out
 rw [need_okE hs20, bind_okE] at hq
 have HR21 := Lib.hid hq
 clear hq HR
 have R22 := Lib.hid (R8.out.drop (txt_kind hs20 (by decide)))
 go_wp2_with (go_at_call 18; fail)
 refine (need_yes P16.out R8.out ((headS_txt R8.out (by decide) (by decide) (by decide) (by decide)).2 hs20)).mono ?_
 rintro e w7 ⟨rfl, hp, hg⟩
 have P23 := Lib.hid hp
 have X24 := hbx hg (by have z := Z18.out; omega) X14
 clear X14
 have X25 := hbx hg (by have z := Z18.out; omega) X13
 clear X13
 have E26 := hkExB hg (by have z := Z18.out; omega) E15
 clear E15
 clear P16
 have G27 := Lib.hid (gr_trans G17.out hg)
 clear G17
 have Z28 := hzz hg Z18
 clear hg hp
 clear R8
 generalize ((r2).drop 1) = r29 at *
 have L30 := Lib.hid (show r29.length ≤ r.length by have := L19.out; have := LE0.out; omega)
 have FI := Lib.hid (fin_expr (d := d) (f := f) (r := r29) (by have z := Z28.out; have := HF.out; have := L30.out; omega))
 go_upto_region 5 with (fail)
 refine wp_region_T (by kernel_rfl) (fun w' => Box w' (w5.heap.size) 0 (eC ⟨4, 0, nm9, [], ⟨A9, l9, c9⟩, ln9⟩)) [] (box_drew X25.out) (fun hHeld => ?_)
 have hb := (Below.refl w7.heap.size w7).drew
 generalize w7.drew = w8 at *
 have hg := gr_of (row := some w7.heap.size) hb
 have X31 := hbx hg (by have z := Z28.out; omega) X24
 clear X24
 have X32 := hbx hg (by have z := Z28.out; omega) X25
 clear X25
 have E33 := hkExB hg (by have z := Z28.out; omega) E26
 clear E26
 have P34 := Lib.hid (P23.out.gr hg (by have z := Z28.out; omega))
 clear P23
 have G35 := hgt hg G27 (fun _ => by have z := Z28.out; omega)
 clear G27
 have Z36 := hzz hg Z28
 clear hg hb
 refine wpAnyT_take (i := 0) (v := .agg (eC ⟨4, 0, nm9, [], ⟨A9, l9, c9⟩, ln9⟩).toArray) rfl (by kernel_rfl) (by kernel_rfl) (by kernel_rfl) (fun _ _ _ h => h) (yieldsIf_load_mid (by rfl) 39 (.tmp 3) rfl (w5.heap.size) 0 rfl (eC ⟨4, 0, nm9, [], ⟨A9, l9, c9⟩, ln9⟩) _ (fun w_ hw_ => Box.range hw_) rfl rfl (by kernel_rfl)) (by assumption) ?_
 try simp only [Act.put, List.setIfInBounds_toArray, List.set_cons_zero, List.set_cons_succ, List.getElem_toArray, List.getElem_cons_succ, List.getElem_cons_zero]
 refine wpAnyT_take (i := 1) (v := ?_) rfl (by kernel_rfl) (by kernel_rfl) (by kernel_rfl) (fun _ _ _ h => h) (Or.inl ⟨by rfl, ?_⟩) (by assumption) ?_
 rotate_left 1
 ·intro w_ hSw; clear hSw; go_simp <;> (with_reducible rfl)
 try simp only [Act.put, List.setIfInBounds_toArray, List.set_cons_zero, List.set_cons_succ, List.getElem_toArray, List.getElem_cons_succ, List.getElem_cons_zero]
 refine wpAnyT_ready (rs := [2]) (by kernel_rfl) (by simp) ?_
 refine AllReadyT.cons rfl (fun K hK => ?_) AllReadyT.nil
 go_simp
 go_at_call 84
 refine (expr_gets (f := f) (d := d) hd R22.out (by have z := Z36.out; have := HF.out; have := L30.out; omega) _ _ _ P34.out).mono ?_
 rintro e w9 hgv
 rcases hp : expr f d r29 with ⟨x8, r8⟩ | ⟨n9, t9⟩
 rotate_left
 ·rw [hp] at hgv
  obtain ⟨rfl, hg⟩ := hgv
  have hq := HR21.out
  rw [hp] at hq
  go_wp2
  exact ⟨rfl, Gv.badOf hq.symm (gr_trans G35.out hg)⟩
 rw [hp] at hgv
 obtain ⟨⟨v9, rfl, hG⟩, hP9, hr9, hg⟩ := hgv
 have hq := HR21.out
 rw [hp] at hq
 try rw [bind_okE] at hq
 have HR37 := Lib.hid hq
 clear hq HR21
 have P38 := Lib.hid hP9
 have R39 := Lib.hid hr9
 have X40 := hbx hg (by have z := Z36.out; omega) X31
 clear X31
 have X41 := hbx hg (by have z := Z36.out; omega) X32
 clear X32
 have E42 := hkExB hg (by have z := Z36.out; omega) E33
 clear E33
 clear P34
 have G43 := Lib.hid (gr_trans G35.out hg)
 clear G35
 have Z44 := hzz hg Z36
 clear hg hP9 hr9 R22
 obtain ⟨h45, rfl, hE9⟩ := hG
 have E46 := Lib.hid hE9
 clear hE9
 clear FI hp
 go_wp2_with fail
 refine hK.out _ _ X41.out (fun hHeld => ?_)
 clear hK K
 try simp only [Act.put, List.setIfInBounds_toArray, List.set_cons_zero, List.set_cons_succ, List.getElem_toArray, List.getElem_cons_succ, List.getElem_cons_zero]
 refine wpAnyT_ready (rs := [3]) (by kernel_rfl) (by simp) ?_
 refine AllReadyT.cons rfl (fun K hK => ?_) AllReadyT.nil
 refine t_build3 44 0 2 3 (.const (.int .i64 1)) (.tmp 19) (.tmp 21) (.int .i64 1) (.agg (eC ⟨4, 0, nm9, [], ⟨A9, l9, c9⟩, ln9⟩).toArray) (.agg (eC h45).toArray) (.agg (sC ⟨1, [], ⟨4, 0, nm9, [], ⟨A9, l9, c9⟩, ln9⟩, h45, ⟨none, 0, 0⟩, ⟨none, 0, 0⟩, ⟨none, 0, 0⟩, ⟨none, 0, 0⟩, 0⟩).toArray) rfl rfl rfl rfl rfl (bd_set 1 ⟨4, 0, nm9, [], ⟨A9, l9, c9⟩, ln9⟩ h45) ?_
 refine hK.out _ _ X41.out (fun hHeld => ?_)
 clear hK K
 try simp only [Act.put, List.setIfInBounds_toArray, List.set_cons_zero, List.set_cons_succ, List.getElem_toArray, List.getElem_cons_succ, List.getElem_cons_zero]
 refine wpAnyT_ready (rs := [4]) (by kernel_rfl) (by simp) ?_
 refine AllReadyT.cons rfl (fun K hK => ?_) AllReadyT.nil
 refine t_store X40.out 44 2 22 rfl rfl rfl (sC ⟨1, [], ⟨4, 0, nm9, [], ⟨A9, l9, c9⟩, ln9⟩, h45, ⟨none, 0, 0⟩, ⟨none, 0, 0⟩, ⟨none, 0, 0⟩, ⟨none, 0, 0⟩, 0⟩) rfl rfl rfl (by kernel_rfl) (sC_one _) ?_
 intro w10 hx hg hs
 have X48 := Lib.hid hx
 have Z49 := Lib.hid (And.intro hs Z44.out)
 clear hx hs X40
 have X50 := hbx hg (by have z := Z44.out; omega) X41
 clear X41
 have E51 := hkExB hg (by have z := Z44.out; omega) E42
 clear E42
 have E52 := hkExB hg (by have z := Z44.out; omega) E46
 clear E46
 have P53 := Lib.hid (P38.out.gr hg (by have z := Z44.out; omega))
 clear P38
 have G54 := hgt hg G43 (fun _ => by have z := Z44.out; omega)
 clear G43
 have Z55 := hzz hg Z49
 clear hg
 refine hK.out _ _ X50.out (fun hHeld => ?_)
 clear hK K
 try simp only [Act.put, List.setIfInBounds_toArray, List.set_cons_zero, List.set_cons_succ, List.getElem_toArray, List.getElem_cons_succ, List.getElem_cons_zero]
 refine wpAnyT_done (by kernel_rfl) ?_ _
 go_wp2
 refine bodyPost_ret (k.results_cell rfl rfl (run_loadVar_mid _ w.heap.size 0 44 _ _ X48.out.range rfl rfl (by kernel_rfl))) rfl ?_
 refine Gv.okOf HR37.out.symm ⟨fun _ => rfl, ⟨1, [], ⟨4, 0, nm9, [], ⟨A9, l9, c9⟩, ln9⟩, h45, ⟨none, 0, 0⟩, ⟨none, 0, 0⟩, ⟨none, 0, 0⟩, ⟨none, 0, 0⟩, 0⟩, rfl, ?_⟩ P53.out R39.out G54.out
 unfold StB
 exact ⟨rfl, rfl, rfl, (ExB.kept (more_nw (by have z := Z55.out; omega) (by have z := Z55.out; omega)) E51.out), (ExB.kept (more_nw (by have z := Z55.out; omega) (by have z := Z55.out; omega)) E52.out), ExLB.none_ _ _, ⟨[], RB.none_ _ _ _ _, rfl⟩, RB.none_ _ _ _ _, [], RB.none_ _ _ _ _, BlksB.nil⟩
set_option maxRecDepth 100000 in
set_option maxHeartbeats 4000000 in
theorem named_var (hP : Par w g r V d) (hr : RowOk r) (hd : d ≤ 32) {f : Nat} (hf : 20 * r.length + 9 ≤ f) (HC : ECtr Tryz.prog 82 (placeF f d r) d r) {nm : Str} {ln : Nat} {r2 : Sg} (hln : r2.length < r.length) (HCA : ∀ nm r1, RowOk r1 → r1.length < r.length → ∀ (V : Value) (g : Nat) (w : World), Par w g r1 V d → Calls Tryz.prog 83 #[.pointer (some ⟨g, 0, none⟩), sv nm] w (Gv g V d w GotW (callF f d nm r1))) (hp : placeF f d r = .ok (.mk 3 0 nm [] [] ln) r2) (hq : namedF f d r = if txt r2 = [40] then callF f d nm (r2.drop 1) else assignF f d (.mk 3 0 nm [] [] ln) r2) :
  Calls Tryz.prog 68 #[.pointer (some ⟨g, 0, none⟩)] w (Gv g V d w GotW (namedF f d r)) := by
 have HCC := Lib.hid HC
 rw [hp] at HCC
 generalize namedF f d r = R at *
 have HR := Lib.hid hq.symm
 have HF := Lib.hid hf
 have HCL := Lib.hid HCA
 have HLN := Lib.hid hln
 have LE0 := Lib.hid (show r2.length ≤ r.length by omega)
 clear HC HCA hp hq hf hln
 have P1 := Lib.hid hP
 have G1 := Lib.hid (gr_refl w (some g))
 have R1 := Lib.hid hr
 have Z1 := Lib.hid (show g < w.heap.size from hP.lt)
 clear hP hr
 go_enter Tryz.func68, Tryz.ntmps68
 go_upto_region 1 with (fail)
 have hb := (Below.refl w.heap.size w).alloc (Nat.le_refl _) (.cells #[.int .i64 0, .string ⟨#[]⟩, .int .i64 0, .int .i64 0, .string ⟨#[]⟩, .string ⟨#[]⟩, .slice none 0 0, .int .i64 0, .int .i64 0, .int .i64 0, .string ⟨#[]⟩, .string ⟨#[]⟩, .slice none 0 0, .int .i64 0, .slice none 0 0, .slice none 0 0, .slice none 0 0, .slice none 0 0, .int .i64 0] 44)
 have hx := Box.new w #[.int .i64 0, .string ⟨#[]⟩, .int .i64 0, .int .i64 0, .string ⟨#[]⟩, .string ⟨#[]⟩, .slice none 0 0, .int .i64 0, .int .i64 0, .int .i64 0, .string ⟨#[]⟩, .string ⟨#[]⟩, .slice none 0 0, .int .i64 0, .slice none 0 0, .slice none 0 0, .slice none 0 0, .slice none 0 0, .int .i64 0] 44
 have hz : (w.alloc (.cells #[.int .i64 0, .string ⟨#[]⟩, .int .i64 0, .int .i64 0, .string ⟨#[]⟩, .string ⟨#[]⟩, .slice none 0 0, .int .i64 0, .int .i64 0, .int .i64 0, .string ⟨#[]⟩, .string ⟨#[]⟩, .slice none 0 0, .int .i64 0, .slice none 0 0, .slice none 0 0, .slice none 0 0, .slice none 0 0, .int .i64 0] 44)).heap.size = w.heap.size + 1 := by simp
 generalize w.alloc (.cells #[.int .i64 0, .string ⟨#[]⟩, .int .i64 0, .int .i64 0, .string ⟨#[]⟩, .string ⟨#[]⟩, .slice none 0 0, .int .i64 0, .int .i64 0, .int .i64 0, .string ⟨#[]⟩, .string ⟨#[]⟩, .slice none 0 0, .int .i64 0, .slice none 0 0, .slice none 0 0, .slice none 0 0, .slice none 0 0, .int .i64 0] 44) = w4 at *
 have hg := gr_of (row := some w.heap.size) hb
 have Z2 := Lib.hid (And.intro hz Z1.out)
 have X3 := Lib.hid hx
 clear hb hx hz
 have P4 := Lib.hid (P1.out.gr hg (by have z := Z1.out; omega))
 clear P1
 have G5 := hgt hg G1 (fun _ => by have z := Z1.out; omega)
 clear G1
 have Z6 := hzz hg Z2
 clear hg
 go_wp2_with (go_at_call 82; fail)
 refine (HCC.out _ _ _ P4.out).mono ?_
 rintro e w5 ⟨⟨v9, rfl, hG⟩, hP9, hr9, hg⟩
 have P7 := Lib.hid hP9
 have R8 := Lib.hid hr9
 have X9 := hbx hg (by have z := Z6.out; omega) X3
 clear X3
 clear P4
 have G10 := Lib.hid (gr_trans G5.out hg)
 clear G5
 have Z11 := hzz hg Z6
 clear hg hP9 hr9 R1
 obtain ⟨⟨o9, n9, nm9, fd9, ⟨A9, l9, c9⟩, ln9⟩, rfl, hE9⟩ := hG
 have HE9 := Lib.hid hE9
 obtain ⟨rfl, rfl, rfl, rfl, rfl, _⟩ := hE9
 go_upto_region 2 with ((with_reducible refine m_new 39 3 5 ?_ ?_ ?_ (eC ⟨3, 0, nm9, [], ⟨A9, l9, c9⟩, ln9⟩) ?_ ?_ ?_ ?_ (eC_one _) ?_); rfl; rfl; rfl; rfl; rfl; rfl; kernel_rfl; intro w6 hx hb hz)
 have hg := gr_of (row := some w5.heap.size) hb
 have Z12 := Lib.hid (And.intro hz Z11.out)
 have X13 := Lib.hid hx
 clear hb hx hz
 have X14 := hbx hg (by have z := Z11.out; omega) X9
 clear X9
 have E15 := hkExB hg (by have z := Z11.out; omega) HE9
 clear HE9
 have P16 := Lib.hid (P7.out.gr hg (by have z := Z11.out; omega))
 clear P7
 have G17 := hgt hg G10 (fun _ => by have z := Z11.out; omega)
 clear G10
 have Z18 := hzz hg Z12
 clear hg
 have ⟨a0, k0, a1, k1, a2, k2, a3, k3, a4, k4, a5, k5, _⟩ := X13.out
 by_cases hw : txt r2 = [40]
 ·skip
  have hq := HR.out
  rw [if_pos hw] at hq
  have HR19 := Lib.hid hq
  clear hq HR
  have L20 := Lib.hid (drop_len r2)
  have R21 := Lib.hid (R8.out.drop (txt_kind hw (by decide)))
  go_wp2_with (go_at_call 32; fail)
  refine (take_yes P16.out R8.out ((headS_txt R8.out (by decide) (by decide) (by decide) (by decide)).2 hw) (txt_kind hw (by decide))).mono ?_
  rintro e w7 ⟨rfl, hp, hg⟩
  have P22 := Lib.hid hp
  have X23 := hbx hg (by have z := Z18.out; omega) X14
  clear X14
  have X24 := hbx hg (by have z := Z18.out; omega) X13
  clear X13
  have E25 := hkExB hg (by have z := Z18.out; omega) E15
  clear E15
  clear P16
  have G26 := Lib.hid (gr_trans G17.out hg)
  clear G17
  have Z27 := hzz hg Z18
  clear hg hp
  clear R8
  generalize ((r2).drop 1) = r28 at *
  have L29 := Lib.hid (show r28.length ≤ r.length by have := L20.out; have := LE0.out; omega)
  clear a0 k0 a1 k1 a2 k2 a3 k3 a4 k4 a5 k5
  have ⟨a0, k0, a1, k1, a2, k2, a3, k3, a4, k4, a5, k5, _⟩ := X24.out
  have CL := HCL.out nm9 r28 R21.out (by have := L20.out; have := HLN.out; omega)
  rw [HR19.out] at CL
  have CLL := Lib.hid CL
  clear CL HR19
  go_wp2_with (go_at_call 83; fail)
  refine (CLL.out _ _ _ P22.out).mono ?_
  rintro e w8 hgv
  rcases R with ⟨x8, r8⟩ | ⟨n9, t9⟩
  rotate_left
  ·skip
   obtain ⟨rfl, hg⟩ := hgv
   go_wp2
   exact ⟨rfl, Gv.badOf rfl (gr_trans G26.out hg)⟩
  obtain ⟨⟨v9, rfl, hG⟩, hP9, hr9, hg⟩ := hgv
  have P30 := Lib.hid hP9
  have R31 := Lib.hid hr9
  have X32 := hbx hg (by have z := Z27.out; omega) X23
  clear X23
  have X33 := hbx hg (by have z := Z27.out; omega) X24
  clear X24
  have E34 := hkExB hg (by have z := Z27.out; omega) E25
  clear E25
  clear P22
  have G35 := Lib.hid (gr_trans G26.out hg)
  clear G26
  have Z36 := hzz hg Z27
  clear hg hP9 hr9 R21
  obtain ⟨hlin, hG⟩ := hG
  have HLIN := Lib.hid hlin
  clear hlin
  obtain ⟨h37, rfl, hE9⟩ := hG
  have E38 := Lib.hid hE9
  clear hE9
  clear a0 k0 a1 k1 a2 k2 a3 k3 a4 k4 a5 k5
  go_wp2_with ((with_reducible refine m_store X32.out 44 2 16 ?_ ?_ ?_ (sC h37) ?_ ?_ ?_ ?_ (sC_one _) ?_); rfl; rfl; rfl; rfl; rfl; rfl; kernel_rfl; intro w9 hx hg hs)
  have X40 := Lib.hid hx
  have Z41 := Lib.hid (And.intro hs Z36.out)
  clear hx hs X32
  have X42 := hbx hg (by have z := Z36.out; omega) X33
  clear X33
  have E43 := hkExB hg (by have z := Z36.out; omega) E34
  clear E34
  have E44 := Lib.hid (StB.kept (kept_nw hg (by have z := Z36.out; omega) (by have z := Z36.out; omega) (Nat.le_refl _) (Nat.le_refl _)) E38.out)
  clear E38
  have P45 := Lib.hid (P30.out.gr hg (by have z := Z36.out; omega))
  clear P30
  have G46 := hgt hg G35 (fun _ => by have z := Z36.out; omega)
  clear G35
  have Z47 := hzz hg Z41
  clear hg
  refine bodyPost_ret (k.results_cell rfl rfl (run_loadVar_mid _ w.heap.size 0 44 _ _ X40.out.range rfl rfl (by kernel_rfl))) rfl ?_
  exact Gv.okOf rfl ⟨HLIN.out, h37, rfl, (StB.kept (more_nw (by have z := Z47.out; omega) (by have z := Z47.out; omega)) E44.out)⟩ P45.out R31.out G46.out
 ·skip
  have hq := HR.out
  rw [if_neg hw] at hq
  unfold assignF at hq
  have HR19 := Lib.hid hq
  clear hq HR
  go_wp2_with (go_at_call 32; fail)
  refine (take_no P16.out R8.out (mt (headS_txt R8.out (by decide) (by decide) (by decide) (by decide)).1 hw)).mono ?_
  rintro e w7 ⟨rfl, hb⟩
  have hg := gr_of (row := some w6.heap.size) hb
  have X20 := hbx hg (by have z := Z18.out; omega) X14
  clear X14
  have X21 := hbx hg (by have z := Z18.out; omega) X13
  clear X13
  have E22 := hkExB hg (by have z := Z18.out; omega) E15
  clear E15
  have P23 := Lib.hid (P16.out.gr hg (by have z := Z18.out; omega))
  clear P16
  have G24 := hgt hg G17 (fun _ => by have z := Z18.out; omega)
  clear G17
  have Z25 := hzz hg Z18
  clear hg hb
  clear a0 k0 a1 k1 a2 k2 a3 k3 a4 k4 a5 k5
  go_upto_region 4 with (fail)
  have L26 := Lib.hid (drop_len r2)
  by_cases hs27 : txt (r2) = [58, 61]
  rotate_left
  ·have hq := HR19.out
   rw [need_badE hs27] at hq
   go_wp2_with (go_at_call 18; fail)
   refine (need_no P23.out R8.out (mt (headS_txt R8.out (by decide) (by decide) (by decide) (by decide)).1 hs27)).mono ?_
   rintro e w8 ⟨rfl, hb⟩
   go_wp2
   exact ⟨rfl, Gv.badOf hq.symm (gr_trans G24.out (gr_of hb))⟩
  have hq := HR19.out
  rw [need_okE hs27, bind_okE] at hq
  have HR28 := Lib.hid hq
  clear hq HR19
  have R29 := Lib.hid (R8.out.drop (txt_kind hs27 (by decide)))
  go_wp2_with (go_at_call 18; fail)
  refine (need_yes P23.out R8.out ((headS_txt R8.out (by decide) (by decide) (by decide) (by decide)).2 hs27)).mono ?_
  rintro e w8 ⟨rfl, hp, hg⟩
  have P30 := Lib.hid hp
  have X31 := hbx hg (by have z := Z25.out; omega) X20
  clear X20
  have X32 := hbx hg (by have z := Z25.out; omega) X21
  clear X21
  have E33 := hkExB hg (by have z := Z25.out; omega) E22
  clear E22
  clear P23
  have G34 := Lib.hid (gr_trans G24.out hg)
  clear G24
  have Z35 := hzz hg Z25
  clear hg hp
  clear R8
  generalize ((r2).drop 1) = r36 at *
  have L37 := Lib.hid (show r36.length ≤ r.length by have := L26.out; have := LE0.out; omega)
  have FI := Lib.hid (fin_expr (d := d) (f := f) (r := r36) (by have z := Z35.out; have := HF.out; have := L37.out; omega))
  go_upto_region 5 with (fail)
  refine wp_region_T (by kernel_rfl) (fun w' => Box w' (w5.heap.size) 0 (eC ⟨3, 0, nm9, [], ⟨A9, l9, c9⟩, ln9⟩)) [] (box_drew X32.out) (fun hHeld => ?_)
  have hb := (Below.refl w8.heap.size w8).drew
  generalize w8.drew = w9 at *
  have hg := gr_of (row := some w8.heap.size) hb
  have X38 := hbx hg (by have z := Z35.out; omega) X31
  clear X31
  have X39 := hbx hg (by have z := Z35.out; omega) X32
  clear X32
  have E40 := hkExB hg (by have z := Z35.out; omega) E33
  clear E33
  have P41 := Lib.hid (P30.out.gr hg (by have z := Z35.out; omega))
  clear P30
  have G42 := hgt hg G34 (fun _ => by have z := Z35.out; omega)
  clear G34
  have Z43 := hzz hg Z35
  clear hg hb
  refine wpAnyT_take (i := 0) (v := .agg (eC ⟨3, 0, nm9, [], ⟨A9, l9, c9⟩, ln9⟩).toArray) rfl (by kernel_rfl) (by kernel_rfl) (by kernel_rfl) (fun _ _ _ h => h) (yieldsIf_load_mid (by rfl) 39 (.tmp 3) rfl (w5.heap.size) 0 rfl (eC ⟨3, 0, nm9, [], ⟨A9, l9, c9⟩, ln9⟩) _ (fun w_ hw_ => Box.range hw_) rfl rfl (by kernel_rfl)) (by assumption) ?_
  try simp only [Act.put, List.setIfInBounds_toArray, List.set_cons_zero, List.set_cons_succ, List.getElem_toArray, List.getElem_cons_succ, List.getElem_cons_zero]
  refine wpAnyT_take (i := 1) (v := ?_) rfl (by kernel_rfl) (by kernel_rfl) (by kernel_rfl) (fun _ _ _ h => h) (Or.inl ⟨by rfl, ?_⟩) (by assumption) ?_
  rotate_left 1
  ·intro w_ hSw; clear hSw; go_simp <;> (with_reducible rfl)
  try simp only [Act.put, List.setIfInBounds_toArray, List.set_cons_zero, List.set_cons_succ, List.getElem_toArray, List.getElem_cons_succ, List.getElem_cons_zero]
  refine wpAnyT_ready (rs := [2]) (by kernel_rfl) (by simp) ?_
  refine AllReadyT.cons rfl (fun K hK => ?_) AllReadyT.nil
  go_simp
  go_at_call 84
  refine (expr_gets (f := f) (d := d) hd R29.out (by have z := Z43.out; have := HF.out; have := L37.out; omega) _ _ _ P41.out).mono ?_
  rintro e w10 hgv
  rcases hp : expr f d r36 with ⟨x8, r8⟩ | ⟨n9, t9⟩
  rotate_left
  ·rw [hp] at hgv
   obtain ⟨rfl, hg⟩ := hgv
   have hq := HR28.out
   rw [hp] at hq
   go_wp2
   exact ⟨rfl, Gv.badOf hq.symm (gr_trans G42.out hg)⟩
  rw [hp] at hgv
  obtain ⟨⟨v9, rfl, hG⟩, hP9, hr9, hg⟩ := hgv
  have hq := HR28.out
  rw [hp] at hq
  try rw [bind_okE] at hq
  have HR44 := Lib.hid hq
  clear hq HR28
  have P45 := Lib.hid hP9
  have R46 := Lib.hid hr9
  have X47 := hbx hg (by have z := Z43.out; omega) X38
  clear X38
  have X48 := hbx hg (by have z := Z43.out; omega) X39
  clear X39
  have E49 := hkExB hg (by have z := Z43.out; omega) E40
  clear E40
  clear P41
  have G50 := Lib.hid (gr_trans G42.out hg)
  clear G42
  have Z51 := hzz hg Z43
  clear hg hP9 hr9 R29
  obtain ⟨h52, rfl, hE9⟩ := hG
  have E53 := Lib.hid hE9
  clear hE9
  clear FI hp
  go_wp2_with fail
  refine hK.out _ _ X48.out (fun hHeld => ?_)
  clear hK K
  try simp only [Act.put, List.setIfInBounds_toArray, List.set_cons_zero, List.set_cons_succ, List.getElem_toArray, List.getElem_cons_succ, List.getElem_cons_zero]
  refine wpAnyT_ready (rs := [3]) (by kernel_rfl) (by simp) ?_
  refine AllReadyT.cons rfl (fun K hK => ?_) AllReadyT.nil
  refine t_build3 44 0 2 3 (.const (.int .i64 1)) (.tmp 19) (.tmp 21) (.int .i64 1) (.agg (eC ⟨3, 0, nm9, [], ⟨A9, l9, c9⟩, ln9⟩).toArray) (.agg (eC h52).toArray) (.agg (sC ⟨1, [], ⟨3, 0, nm9, [], ⟨A9, l9, c9⟩, ln9⟩, h52, ⟨none, 0, 0⟩, ⟨none, 0, 0⟩, ⟨none, 0, 0⟩, ⟨none, 0, 0⟩, 0⟩).toArray) rfl rfl rfl rfl rfl (bd_set 1 ⟨3, 0, nm9, [], ⟨A9, l9, c9⟩, ln9⟩ h52) ?_
  refine hK.out _ _ X48.out (fun hHeld => ?_)
  clear hK K
  try simp only [Act.put, List.setIfInBounds_toArray, List.set_cons_zero, List.set_cons_succ, List.getElem_toArray, List.getElem_cons_succ, List.getElem_cons_zero]
  refine wpAnyT_ready (rs := [4]) (by kernel_rfl) (by simp) ?_
  refine AllReadyT.cons rfl (fun K hK => ?_) AllReadyT.nil
  refine t_store X47.out 44 2 22 rfl rfl rfl (sC ⟨1, [], ⟨3, 0, nm9, [], ⟨A9, l9, c9⟩, ln9⟩, h52, ⟨none, 0, 0⟩, ⟨none, 0, 0⟩, ⟨none, 0, 0⟩, ⟨none, 0, 0⟩, 0⟩) rfl rfl rfl (by kernel_rfl) (sC_one _) ?_
  intro w11 hx hg hs
  have X55 := Lib.hid hx
  have Z56 := Lib.hid (And.intro hs Z51.out)
  clear hx hs X47
  have X57 := hbx hg (by have z := Z51.out; omega) X48
  clear X48
  have E58 := hkExB hg (by have z := Z51.out; omega) E49
  clear E49
  have E59 := hkExB hg (by have z := Z51.out; omega) E53
  clear E53
  have P60 := Lib.hid (P45.out.gr hg (by have z := Z51.out; omega))
  clear P45
  have G61 := hgt hg G50 (fun _ => by have z := Z51.out; omega)
  clear G50
  have Z62 := hzz hg Z56
  clear hg
  refine hK.out _ _ X57.out (fun hHeld => ?_)
  clear hK K
  try simp only [Act.put, List.setIfInBounds_toArray, List.set_cons_zero, List.set_cons_succ, List.getElem_toArray, List.getElem_cons_succ, List.getElem_cons_zero]
  refine wpAnyT_done (by kernel_rfl) ?_ _
  go_wp2
  refine bodyPost_ret (k.results_cell rfl rfl (run_loadVar_mid _ w.heap.size 0 44 _ _ X55.out.range rfl rfl (by kernel_rfl))) rfl ?_
  refine Gv.okOf HR44.out.symm ⟨fun _ => rfl, ⟨1, [], ⟨3, 0, nm9, [], ⟨A9, l9, c9⟩, ln9⟩, h52, ⟨none, 0, 0⟩, ⟨none, 0, 0⟩, ⟨none, 0, 0⟩, ⟨none, 0, 0⟩, 0⟩, rfl, ?_⟩ P60.out R46.out G61.out
  unfold StB
  exact ⟨rfl, rfl, rfl, (ExB.kept (more_nw (by have z := Z62.out; omega) (by have z := Z62.out; omega)) E58.out), (ExB.kept (more_nw (by have z := Z62.out; omega) (by have z := Z62.out; omega)) E59.out), ExLB.none_ _ _, ⟨[], RB.none_ _ _ _ _, rfl⟩, RB.none_ _ _ _ _, [], RB.none_ _ _ _ _, BlksB.nil⟩
end
end Go.Proofs.YtbcpkhegmbdifaaGreat.tr
/- The landed parser's statements: calls of blocks, over what the parts give. Condition: at most 6000 signs. -/
namespace Go.Proofs.YtbcpkhegmbdifaaGreat.tr
open Go.ChangeShapes Go.WideShapes Go.ChangeAt Go.RowKit Go.Proofs.YtbcpkhegmbdifaaGreat.k Go.Proofs.YtbcpkhegmbdifaaGreat.rr Go.Proofs.YtbcpkhegmbdifaaGreat.tk
set_option linter.unusedVariables false
set_option linter.unusedSimpArgs false

theorem exprs_slice : Tryz.prog.underlying 37 = some (.slice 39) := by kernel_rfl
theorem expr_info : (Tryz.prog.info? 39).map (fun i => (i.zero, i.size, i.bytes)) = some (some (.agg #[.int .i64 0, .int .i64 0, .string ⟨#[]⟩, .string ⟨#[]⟩, .slice none 0 0, .int .i64 0]), 6, 80) := by kernel_rfl
theorem strs_slice : Tryz.prog.underlying 41 = some (.slice 9) := by kernel_rfl
theorem str_info : (Tryz.prog.info? 9).map (fun i => (i.zero, i.size, i.bytes)) = some (some (.string ⟨#[]⟩), 1, 16) := by kernel_rfl
theorem blks_slice : Tryz.prog.underlying 42 = some (.slice 24) := by kernel_rfl
theorem blk_info : (Tryz.prog.info? 24).map (fun i => (i.zero, i.size, i.bytes)) = some (some (.slice none 0 0), 1, 24) := by kernel_rfl
theorem labs_slice : Tryz.prog.underlying 40 = some (.slice 70) := by kernel_rfl
theorem lab_info : (Tryz.prog.info? 70).map (fun i => (i.zero, i.size, i.bytes)) = some (some (.slice none 0 0), 1, 24) := by kernel_rfl
theorem bs_T1 (s : Str) (w : World) : (Instr.buildSlice 41 1 #[(0, .string ⟨s.toArray⟩)]).run Tryz.prog w = .ok (.slice (some ⟨w.heap.size, 0, none⟩) 1 1) (w.alloc (.cells (tC1 s).toArray 9)) := by kernel_rfl
theorem exsB_len {w : World} {S : Nat → Prop} : ∀ {L : List Ex} {H : List EH}, ExsB w S L H → H.length = L.length
 | [], _, e => by cases e; rfl
 | x :: L, _, ⟨h, H', e, h1, h2⟩ => by rw [e, List.length_cons, List.length_cons, exsB_len h2]
section
variable {P : Program} {ops : Array Oper} {op : Oper} {a : Act} {w : World} {K : Act → World → Prop} {Q : Exit → Act → World → Prop} {E : Prop}
/-- a value of one cell goes into a part of a variable -/
theorem t_set1 {g j : Nat} {vs : List Value} (hb : k.Box w g 0 vs) (hj : j < vs.length) (T t u : Nat) (ho : op.op = .store T (.tmp t) (.tmp u)) (hg : op.guard = none) (hd : op.dst = none) (v : Value) (hx : a.eval (.tmp t) = .pointer (some ⟨g, j, none⟩)) (hy : a.eval (.tmp u) = v) (h1 : v.oneCell' = true) (hi : (P.info? T).map (·.size) = some 1)
  (h : ∀ w', k.Box w' g 0 (vs.set j v) → w.grownBy w' (some g) → w'.heap.size = w.heap.size → K a w') : if Region.wanted op (yielded ops a.tmps) = true then Oper.wp P op a w K Q else E := by
 refine t_wanted hg ?_
 have hc : v.cells = #[v] := by cases v <;> first | rfl | cases h1
 obtain ⟨u0, hu0⟩ : ∃ u, vs[j]? = some u := ⟨_, List.getElem?_eq_getElem hj⟩
 have hcell := cell_of hb hu0
 have hthere : w.there g j 1 := by
  intro i hi'
  have : i = 0 := by omega
  subst this
  exact ⟨by rw [Nat.add_zero, hcell.1]; rfl, by rw [Nat.add_zero]; exact hcell.2⟩
 have hrun := run_storeCells_cells (P := P) g j [v] 0 w (fun i hi' => by simpa using (hthere i (by simpa using hi')).1) (fun i hi' => by simpa using (hthere i (by simpa using hi')).2) (fun x hx' => by
  simp only [List.mem_cons, List.not_mem_nil, or_false] at hx'
  subst hx'
  exact h1)
 simp only [Nat.add_zero] at hrun
 have hst : (storeVar T ⟨g, j, none⟩ v).run P w = .ok () (w.setCells g j [v]) := by
  cases hq : P.info? T with
  | none => simp [hq] at hi
  | some i =>
   have hs : i.size = 1 := by simpa [hq] using hi
   simp [storeVar, sizeOf, typeInfo, hq, hc, hs, hrun]
 unfold Oper.wp execOp
 simp only [ho, hx, hy, Instr.storeAt, Instr.sureAddr, Sem.run_bind, Sem.run_pure, Result.andThen_ok, hst]
 change K (a.put op.dst undef) _
 rw [hd]
 exact h _ (Box.put hb j hj v) (gr_set w g j v) (set_size _ _ _)
end
section
variable {r : Sg} {V : Value} {d g : Nat} {w : World}

set_option maxRecDepth 100000 in
set_option maxHeartbeats 4000000 in
theorem call_any (hP : Par w g r V d) (hr : RowOk r) (hd : d ≤ 32) (hl : r.length ≤ 6000) {f : Nat} (hf : 20 * r.length + 10 ≤ f) (nm : Str) :
  Calls Tryz.prog 83 #[.pointer (some ⟨g, 0, none⟩), sv nm] w (Gv g V d w GotW (callF f d nm r)) := by
 obtain ⟨R, hR⟩ : ∃ R : Res (Nat → St), (callF f d nm r) = R := ⟨_, rfl⟩
 rw [hR]
 have HR := Lib.hid hR
 clear hR
 have HL := Lib.hid hl
 have HF := Lib.hid hf
 unfold sv
 clear hl hf
 have P1 := Lib.hid hP
 have G1 := Lib.hid (gr_refl w (some g))
 have R1 := Lib.hid hr
 have Z1 := Lib.hid (show g < w.heap.size from hP.lt)
 clear hP hr
 have hq := HR.out
 unfold callF at hq
 have HR2 := Lib.hid hq
 clear hq HR
 go_enter Tryz.func83, Tryz.ntmps83
 go_upto_region 1 with (fail)
 have hb := (Below.refl w.heap.size w).alloc (Nat.le_refl _) (.cells #[.int .i64 0, .string ⟨#[]⟩, .int .i64 0, .int .i64 0, .string ⟨#[]⟩, .string ⟨#[]⟩, .slice none 0 0, .int .i64 0, .int .i64 0, .int .i64 0, .string ⟨#[]⟩, .string ⟨#[]⟩, .slice none 0 0, .int .i64 0, .slice none 0 0, .slice none 0 0, .slice none 0 0, .slice none 0 0, .int .i64 0] 44)
 have hx := Box.new w #[.int .i64 0, .string ⟨#[]⟩, .int .i64 0, .int .i64 0, .string ⟨#[]⟩, .string ⟨#[]⟩, .slice none 0 0, .int .i64 0, .int .i64 0, .int .i64 0, .string ⟨#[]⟩, .string ⟨#[]⟩, .slice none 0 0, .int .i64 0, .slice none 0 0, .slice none 0 0, .slice none 0 0, .slice none 0 0, .int .i64 0] 44
 have hz : (w.alloc (.cells #[.int .i64 0, .string ⟨#[]⟩, .int .i64 0, .int .i64 0, .string ⟨#[]⟩, .string ⟨#[]⟩, .slice none 0 0, .int .i64 0, .int .i64 0, .int .i64 0, .string ⟨#[]⟩, .string ⟨#[]⟩, .slice none 0 0, .int .i64 0, .slice none 0 0, .slice none 0 0, .slice none 0 0, .slice none 0 0, .int .i64 0] 44)).heap.size = w.heap.size + 1 := by simp
 generalize w.alloc (.cells #[.int .i64 0, .string ⟨#[]⟩, .int .i64 0, .int .i64 0, .string ⟨#[]⟩, .string ⟨#[]⟩, .slice none 0 0, .int .i64 0, .int .i64 0, .int .i64 0, .string ⟨#[]⟩, .string ⟨#[]⟩, .slice none 0 0, .int .i64 0, .slice none 0 0, .slice none 0 0, .slice none 0 0, .slice none 0 0, .int .i64 0] 44) = w4 at *
 have hg := gr_of (row := some w.heap.size) hb
 have Z3 := Lib.hid (And.intro hz Z1.out)
 have X4 := Lib.hid hx
 clear hb hx hz
 have P5 := Lib.hid (P1.out.gr hg (by have z := Z1.out; omega))
 clear P1
 have G6 := hgt hg G1 (fun _ => by have z := Z1.out; omega)
 clear G1
 have Z7 := hzz hg Z3
 clear hg
 go_upto_region 2 with ((with_reducible refine m_new 44 5 8 ?_ ?_ ?_ (sC ⟨9, nm, ⟨0, 0, [], [], ⟨none, 0, 0⟩, 0⟩, ⟨0, 0, [], [], ⟨none, 0, 0⟩, 0⟩, ⟨none, 0, 0⟩, ⟨none, 0, 0⟩, ⟨none, 0, 0⟩, ⟨none, 0, 0⟩, 0⟩) ?_ ?_ ?_ ?_ (sC_one _) ?_); rfl; rfl; rfl; rfl; rfl; rfl; kernel_rfl; intro w5 hx hb hz)
 have hg := gr_of (row := some w4.heap.size) hb
 have Z8 := Lib.hid (And.intro hz Z7.out)
 have X9 := Lib.hid hx
 clear hb hx hz
 have X10 := hbx hg (by have z := Z7.out; omega) X4
 clear X4
 have P11 := Lib.hid (P5.out.gr hg (by have z := Z7.out; omega))
 clear P5
 have G12 := hgt hg G6 (fun _ => by have z := Z7.out; omega)
 clear G6
 have Z13 := hzz hg Z8
 clear hg
 by_cases hw : txt r = [41]
 ·skip
  have hq := HR2.out
  rw [if_pos hw] at hq
  have HR14 := Lib.hid hq
  clear hq HR2
  have R15 := Lib.hid (R1.out.drop (txt_kind hw (by decide)))
  go_wp2_with (go_at_call 32; fail)
  refine (take_yes P11.out R1.out ((headS_txt R1.out (by decide) (by decide) (by decide) (by decide)).2 hw) (txt_kind hw (by decide))).mono ?_
  rintro e w6 ⟨rfl, hp, hg⟩
  have P16 := Lib.hid hp
  have X17 := hbx hg (by have z := Z13.out; omega) X10
  clear X10
  have X18 := hbx hg (by have z := Z13.out; omega) X9
  clear X9
  clear P11
  have G19 := Lib.hid (gr_trans G12.out hg)
  clear G12
  have Z20 := hzz hg Z13
  clear hg hp
  clear R1
  generalize ((r).drop 1) = r21 at *
  go_wp2_with (first | ((with_reducible refine m_load X18.out 44 5 ?_ ?_ ?_ ?_ ?_ ?_); rfl; rfl; rfl; rfl; kernel_rfl) | ((with_reducible refine m_store X17.out 44 4 11 ?_ ?_ ?_ (sC ⟨9, nm, ⟨0, 0, [], [], ⟨none, 0, 0⟩, 0⟩, ⟨0, 0, [], [], ⟨none, 0, 0⟩, 0⟩, ⟨none, 0, 0⟩, ⟨none, 0, 0⟩, ⟨none, 0, 0⟩, ⟨none, 0, 0⟩, 0⟩) ?_ ?_ ?_ ?_ (sC_one _) ?_); rfl; rfl; rfl; rfl; rfl; rfl; kernel_rfl; intro w7 hx hg hs))
  have X22 := Lib.hid hx
  have Z23 := Lib.hid (And.intro hs Z20.out)
  clear hx hs X17
  have X24 := hbx hg (by have z := Z20.out; omega) X18
  clear X18
  have P25 := Lib.hid (P16.out.gr hg (by have z := Z20.out; omega))
  clear P16
  have G26 := hgt hg G19 (fun _ => by have z := Z20.out; omega)
  clear G19
  have Z27 := hzz hg Z23
  clear hg
  refine bodyPost_ret (k.results_cell rfl rfl (run_loadVar_mid _ w.heap.size 0 44 _ _ X22.out.range rfl rfl (by kernel_rfl))) rfl ?_
  refine Gv.okOf HR14.out.symm ⟨fun _ => rfl, ⟨9, nm, ⟨0, 0, [], [], ⟨none, 0, 0⟩, 0⟩, ⟨0, 0, [], [], ⟨none, 0, 0⟩, 0⟩, ⟨none, 0, 0⟩, ⟨none, 0, 0⟩, ⟨none, 0, 0⟩, ⟨none, 0, 0⟩, 0⟩, rfl, ?_⟩ P25.out R15.out G26.out
  unfold StB
  exact ⟨rfl, rfl, rfl, zeroE_B _ _, zeroE_B _ _, ExLB.none_ _ _, ⟨[], RB.none_ _ _ _ _, rfl⟩, RB.none_ _ _ _ _, [], RB.none_ _ _ _ _, BlksB.nil⟩
 have hq := HR2.out
 rw [if_neg hw] at hq
 have HR14 := Lib.hid hq
 clear hq HR2
 go_wp2_with (go_at_call 32; fail)
 refine (take_no P11.out R1.out (mt (headS_txt R1.out (by decide) (by decide) (by decide) (by decide)).1 hw)).mono ?_
 rintro e w6 ⟨rfl, hb⟩
 have hg := gr_of (row := some w5.heap.size) hb
 have X15 := hbx hg (by have z := Z13.out; omega) X10
 clear X10
 have X16 := hbx hg (by have z := Z13.out; omega) X9
 clear X9
 have P17 := Lib.hid (P11.out.gr hg (by have z := Z13.out; omega))
 clear P11
 have G18 := hgt hg G12 (fun _ => by have z := Z13.out; omega)
 clear G12
 have Z19 := hzz hg Z13
 clear hg hb
 go_upto_region 5 with (fail)
 go_loopw [6] (fun s6 wr => ∃ (m : Bool) (fs : List Str) (cs : List Ex) (CH : List EH) (Fs Cs : Sl) (r' : Sg) (fc : Nat), s6 = .bool m ∧ (m = true → (argsF fc d r' fs cs).bind (fun a r' => (need [41] r').bind fun _ r' => .ok (fun ln => St.mk 9 nm zeroE zeroE a.2 [] a.1 [] ln) r') = R ∧ 20 * r'.length + 10 ≤ fc ∧ fc ≤ f) ∧ (m = false → (need [41] r').bind (fun _ r' => .ok (fun ln => St.mk 9 nm zeroE zeroE cs [] fs [] ln) r') = R) ∧ fs.length + r'.length ≤ r.length ∧ cs.length + r'.length ≤ r.length ∧ RowOk r' ∧ Par wr g r' V d ∧ Box wr w.heap.size 0 [.int .i64 0, .string ⟨#[]⟩, .int .i64 0, .int .i64 0, .string ⟨#[]⟩, .string ⟨#[]⟩, .slice none 0 0, .int .i64 0, .int .i64 0, .int .i64 0, .string ⟨#[]⟩, .string ⟨#[]⟩, .slice none 0 0, .int .i64 0, .slice none 0 0, .slice none 0 0, .slice none 0 0, .slice none 0 0, .int .i64 0] ∧ Box wr w4.heap.size 0 (sC ⟨9, nm, ⟨0, 0, [], [], ⟨none, 0, 0⟩, 0⟩, ⟨0, 0, [], [], ⟨none, 0, 0⟩, 0⟩, Cs, ⟨none, 0, 0⟩, Fs, ⟨none, 0, 0⟩, 0⟩) ∧ Ow tC1 1 9 wr w6.heap.size (Sl.v Fs) fs ∧ Ow eC 6 39 wr w6.heap.size (Sl.v Cs) CH ∧ ExsB wr (Ny w6.heap.size wr.heap.size [(Sl.v Fs), (Sl.v Cs)]) cs CH ∧ w.grownBy wr (some g) ∧ w6.heap.size ≤ wr.heap.size) (fun _ wr => rowLen wr g)
 case atStart => exact ⟨true, [], [], [], ⟨none, 0, 0⟩, ⟨none, 0, 0⟩, r, f, rfl, fun _ => ⟨HR14.out, HF.out, Nat.le_refl _⟩, (fun h => by cases h), by simp, by simp, R1.out, P17.out, X15.out, X16.out, Ow.nil _ _ _ _ _, Ow.nil _ _ _ _ _, rfl, G18.out, Nat.le_refl _⟩
 case round =>
  obtain ⟨m, fs, cs, CH, Fs, Cs, r', fc, rfl, hm1, hm2, hl1, hl2, hr', hP', hX0, hX1, hO1, hO2, hT', hG', hS'⟩ := hrel
  clear P17 G18 R1 HR14 X15 X16
  have P1 := Lib.hid hP'
  have X1 := Lib.hid hX0
  have X2 := Lib.hid hX1
  have O1 := Lib.hid hO1
  have O2 := Lib.hid hO2
  have OH1 := Lib.hid hO1
  have OH2 := Lib.hid hO2
  have E1 := Lib.hid hT'
  have G1 := Lib.hid hG'
  have R1 := Lib.hid hr'
  have HL1 := Lib.hid hl1
  have HL2 := Lib.hid hl2
  have ZS := Lib.hid (And.intro hS' Z19.out)
  clear hP' hX0 hX1 hO1 hO2 hT' hG' hr' hl1 hl2 hS'
  have NLEN := Lib.hid P1.out.len
  cases m
  ·skip
   have HR := Lib.hid (hm2 rfl)
   clear hm1 hm2
   by_cases hs301 : txt (r') = [41]
   rotate_left
   ·have hq := HR.out
    rw [need_badE hs301] at hq
    go_wp2_with (go_at_call 18; fail)
    refine (need_no P1.out R1.out (mt (headS_txt R1.out (by decide) (by decide) (by decide) (by decide)).1 hs301)).mono ?_
    rintro e w7 ⟨rfl, hb⟩
    go_wp2
    exact ⟨rfl, Gv.badOf hq.symm (gr_trans G1.out (gr_of hb))⟩
   have hq := HR.out
   rw [need_okE hs301, bind_okE] at hq
   have HR302 := Lib.hid hq
   clear hq HR
   have R303 := Lib.hid (R1.out.drop (txt_kind hs301 (by decide)))
   go_wp2_with (go_at_call 18; fail)
   refine (need_yes P1.out R1.out ((headS_txt R1.out (by decide) (by decide) (by decide) (by decide)).2 hs301)).mono ?_
   rintro e w7 ⟨rfl, hp, hg⟩
   have P304 := Lib.hid hp
   have X305 := hbx hg (by have z := ZS.out; omega) X1
   clear X1
   have X306 := hbx hg (by have z := ZS.out; omega) X2
   clear X2
   have E307 := Lib.hid (ExsB.kept (kept_ny hg (Or.imp_right Or.inl (by have z := ZS.out; omega)) (by have z := ZS.out; omega)) E1.out)
   clear E1
   have O308 := Lib.hid (Ow.gr O1.out hg (by have z := ZS.out; omega))
   clear O1
   have O309 := Lib.hid (Ow.gr O2.out hg (by have z := ZS.out; omega))
   clear O2
   clear P1
   have G310 := Lib.hid (gr_trans G1.out hg)
   clear G1
   have Z311 := hzz hg ZS
   clear hg hp
   clear R1
   generalize ((r').drop 1) = r312 at *
   go_wp2_with (first | ((with_reducible refine m_load X306.out 44 5 ?_ ?_ ?_ ?_ ?_ ?_); rfl; rfl; rfl; rfl; kernel_rfl) | ((with_reducible refine m_store X305.out 44 4 34 ?_ ?_ ?_ (sC ⟨9, nm, ⟨0, 0, [], [], ⟨none, 0, 0⟩, 0⟩, ⟨0, 0, [], [], ⟨none, 0, 0⟩, 0⟩, Cs, ⟨none, 0, 0⟩, Fs, ⟨none, 0, 0⟩, 0⟩) ?_ ?_ ?_ ?_ (sC_one _) ?_); rfl; rfl; rfl; rfl; rfl; rfl; kernel_rfl; intro w8 hx hg hs))
   have X313 := Lib.hid hx
   have Z314 := Lib.hid (And.intro hs Z311.out)
   clear hx hs X305
   have X315 := hbx hg (by have z := Z311.out; omega) X306
   clear X306
   have E316 := Lib.hid (ExsB.kept (kept_ny hg (Or.imp_right Or.inl (by have z := Z311.out; omega)) (by have z := Z311.out; omega)) E307.out)
   clear E307
   have O317 := Lib.hid (Ow.gr O308.out hg (by have z := Z311.out; omega))
   clear O308
   have O318 := Lib.hid (Ow.gr O309.out hg (by have z := Z311.out; omega))
   clear O309
   have P319 := Lib.hid (P304.out.gr hg (by have z := Z311.out; omega))
   clear P304
   have G320 := hgt hg G310 (fun _ => by have z := Z311.out; omega)
   clear G310
   have Z321 := hzz hg Z314
   clear hg
   refine bodyPost_ret (k.results_cell rfl rfl (run_loadVar_mid _ w.heap.size 0 44 _ _ X313.out.range rfl rfl (by kernel_rfl))) rfl ?_
   refine Gv.okOf HR302.out.symm ⟨fun _ => rfl, ⟨9, nm, ⟨0, 0, [], [], ⟨none, 0, 0⟩, 0⟩, ⟨0, 0, [], [], ⟨none, 0, 0⟩, 0⟩, Cs, ⟨none, 0, 0⟩, Fs, ⟨none, 0, 0⟩, 0⟩, rfl, ?_⟩ P319.out R303.out G320.out
   unfold StB
   exact ⟨rfl, rfl, rfl, zeroE_B _ _, zeroE_B _ _, ⟨CH, rb_own eC_len O318.out (by have z := Z321.out; omega) (Nat.le_refl _), (ExsB.kept (ny_nw (by have z := Z321.out; omega) (by have z := Z321.out; omega)) E316.out)⟩, ⟨[], RB.none_ _ _ _ _, rfl⟩, rb_own tC1_len O317.out (by have z := Z321.out; omega) (Nat.le_refl _), [], RB.none_ _ _ _ _, BlksB.nil⟩
  ·skip
   obtain ⟨hq, hfc, hfc2⟩ := hm1 rfl
   obtain ⟨f2, rfl⟩ : ∃ k, fc = k + 1 := ⟨fc - 1, by omega⟩
   rw [argsF] at hq
   simp only [bind_bind] at hq
   have HR := Lib.hid hq
   have HFC := Lib.hid hfc
   have HFC2 := Lib.hid hfc2
   clear hm1 hm2 hq hfc hfc2
   go_upto_region 7 with (fail)
   refine wp_region_T (by kernel_rfl) (fun w' => Box w' (w4.heap.size) 0 (sC ⟨9, nm, ⟨0, 0, [], [], ⟨none, 0, 0⟩, 0⟩, ⟨0, 0, [], [], ⟨none, 0, 0⟩, 0⟩, Cs, ⟨none, 0, 0⟩, Fs, ⟨none, 0, 0⟩, 0⟩)) [8] (box_drew X2.out) (fun hHeld => ?_)
   have hb := (Below.refl wr.heap.size wr).drew
   generalize wr.drew = w7 at *
   have hg := gr_of (row := some wr.heap.size) hb
   have X301 := hbx hg (by have z := ZS.out; omega) X1
   clear X1
   have X302 := hbx hg (by have z := ZS.out; omega) X2
   clear X2
   have E303 := Lib.hid (ExsB.kept (kept_ny hg (Or.imp_right Or.inl (by have z := ZS.out; omega)) (by have z := ZS.out; omega)) E1.out)
   clear E1
   have O304 := Lib.hid (Ow.gr O1.out hg (by have z := ZS.out; omega))
   clear O1
   have O305 := Lib.hid (Ow.gr O2.out hg (by have z := ZS.out; omega))
   clear O2
   have P306 := Lib.hid (P1.out.gr hg (by have z := ZS.out; omega))
   clear P1
   have G307 := hgt hg G1 (fun _ => by have z := ZS.out; omega)
   clear G1
   have Z308 := hzz hg ZS
   clear hg hb
   refine wpAnyT_take (i := 0) (v := ?_) rfl (by kernel_rfl) (by kernel_rfl) (by kernel_rfl) (fun _ _ _ h => h) (Or.inl ⟨by rfl, ?_⟩) (by assumption) ?_
   rotate_left 1
   ·intro w_ hSw; clear hSw; go_simp <;> (with_reducible rfl)
   try simp only [Act.put, List.setIfInBounds_toArray, List.set_cons_zero, List.set_cons_succ, List.getElem_toArray, List.getElem_cons_succ, List.getElem_cons_zero]
   refine wpAnyT_take (i := 1) (v := ?_) rfl (by kernel_rfl) (by kernel_rfl) (by kernel_rfl) (fun _ _ _ h => h) (Or.inl ⟨by rfl, ?_⟩) (by assumption) ?_
   rotate_left 1
   ·intro w_ hSw; obtain ⟨c16, _⟩ := cell_of hSw (i := 16) rfl; go_simp <;> (with_reducible rfl)
   try simp only [Act.put, List.setIfInBounds_toArray, List.set_cons_zero, List.set_cons_succ, List.getElem_toArray, List.getElem_cons_succ, List.getElem_cons_zero]
   refine wpAnyT_take (i := 2) (v := ?_) rfl (by kernel_rfl) (by kernel_rfl) (by kernel_rfl) (fun _ _ _ h => h) (Or.inl ⟨by rfl, ?_⟩) (by assumption) ?_
   rotate_left 1
   ·intro w_ hSw; clear hSw; go_simp <;> (with_reducible rfl)
   try simp only [Act.put, List.setIfInBounds_toArray, List.set_cons_zero, List.set_cons_succ, List.getElem_toArray, List.getElem_cons_succ, List.getElem_cons_zero]
   have f1 := tok_f1 (tr.hd r')
   refine wpAnyT_ready (rs := [3]) (by kernel_rfl) (by simp) ?_
   refine AllReadyT.cons rfl (fun K hK => ?_) AllReadyT.nil
   have hl0 := drop_len r'
   have HLD := Lib.hid hl0
   have HLR := Lib.hid R1.out.len
   clear hl0
   by_cases hs309 : (tr.hd (r')).kind = 1
   rotate_left
   ·have hq := HR.out
    rw [want_badE hs309] at hq
    go_simp
    go_at_call 18
    refine (need_no P306.out R1.out (mt (headS_kind R1.out).1.1 hs309)).mono ?_
    rintro e w8 ⟨rfl, hb⟩
    go_wp2
    exact ⟨rfl, Gv.badOf hq.symm (gr_trans G307.out (gr_of hb))⟩
   have hq := HR.out
   rw [want_okE hs309, bind_okE] at hq
   have HR310 := Lib.hid hq
   clear hq HR
   have R311 := Lib.hid (R1.out.drop (by rw [hs309]; decide))
   go_simp
   go_at_call 18
   refine (need_yes P306.out R1.out ((headS_kind R1.out).1.2 hs309)).mono ?_
   rintro e w8 ⟨rfl, hp, hg⟩
   have P312 := Lib.hid hp
   have X313 := hbx hg (by have z := Z308.out; omega) X301
   clear X301
   have X314 := hbx hg (by have z := Z308.out; omega) X302
   clear X302
   have E315 := Lib.hid (ExsB.kept (kept_ny hg (Or.imp_right Or.inl (by have z := Z308.out; omega)) (by have z := Z308.out; omega)) E303.out)
   clear E303
   have O316 := Lib.hid (Ow.gr O304.out hg (by have z := Z308.out; omega))
   clear O304
   have O317 := Lib.hid (Ow.gr O305.out hg (by have z := Z308.out; omega))
   clear O305
   clear P306
   have G318 := Lib.hid (gr_trans G307.out hg)
   clear G307
   have Z319 := hzz hg Z308
   clear hg hp
   clear R1
   generalize ((r').drop 1) = r320 at *
   go_wp2_with fail
   refine hK.out _ _ X314.out (fun hHeld => ?_)
   clear hK K
   try simp only [Act.put, List.setIfInBounds_toArray, List.set_cons_zero, List.set_cons_succ, List.getElem_toArray, List.getElem_cons_succ, List.getElem_cons_zero]
   refine wpAnyT_take (i := 4) (v := ?_) rfl (by kernel_rfl) (by kernel_rfl) (by kernel_rfl) (fun _ _ _ h => h) (Or.inl ⟨by rfl, ?_⟩) (by assumption) ?_
   rotate_left 1
   ·intro w_ hSw; clear hSw; go_simp <;> (with_reducible rfl)
   try simp only [Act.put, List.setIfInBounds_toArray, List.set_cons_zero, List.set_cons_succ, List.getElem_toArray, List.getElem_cons_succ, List.getElem_cons_zero]
   refine wpAnyT_ready (rs := [5]) (by kernel_rfl) (by simp) ?_
   refine AllReadyT.cons rfl (fun K hK => ?_) AllReadyT.nil
   refine t_slice1 (enc := tC1) (z := 1) (tr.hd (r')).text 41 9 19 (.string ⟨(tr.hd (r')).text.toArray⟩) (tC1 (tr.hd (r')).text).toArray rfl rfl rfl (bs_T1 (tr.hd (r')).text) rfl ?_
   intro w9 hrb hb1 hz1
   have HRB := Lib.hid hrb
   have HB1 := Lib.hid hb1
   have HZ1 := Lib.hid hz1
   clear hrb hb1 hz1
   have hg := gr_of (row := some w8.heap.size) HB1.out
   have Z321 := Lib.hid (And.intro HZ1.out Z319.out)
   have E322 := HRB
   clear HZ1 HRB
   have X323 := hbx hg (by have z := Z319.out; omega) X313
   clear X313
   have X324 := hbx hg (by have z := Z319.out; omega) X314
   clear X314
   have E325 := Lib.hid (ExsB.kept (kept_ny hg (Or.imp_right Or.inl (by have z := Z319.out; omega)) (by have z := Z319.out; omega)) E315.out)
   clear E315
   have O326 := Lib.hid (Ow.gr O316.out hg (by have z := Z319.out; omega))
   clear O316
   have O327 := Lib.hid (Ow.gr O317.out hg (by have z := Z319.out; omega))
   clear O317
   have P328 := Lib.hid (P312.out.gr hg (by have z := Z319.out; omega))
   clear P312
   have G329 := hgt hg G318 (fun _ => by have z := Z319.out; omega)
   clear G318
   have Z330 := hzz hg Z321
   clear hg HB1
   refine hK.out _ _ X324.out (fun hHeld => ?_)
   clear hK K
   try simp only [Act.put, List.setIfInBounds_toArray, List.set_cons_zero, List.set_cons_succ, List.getElem_toArray, List.getElem_cons_succ, List.getElem_cons_zero]
   have LM := Lib.hid (show fs.length + [(tr.hd (r')).text].length ≤ 20000 by have := HL1.out; have := HL.out; simp only [List.length_cons, List.length_nil]; omega)
   refine wpAnyT_ready (rs := [6]) (by kernel_rfl) (by simp) ?_
   refine AllReadyT.cons rfl (fun K hK => ?_) AllReadyT.nil
   have Z332 := Lib.hid (And.intro (show w6.heap.size ≤ w9.heap.size from (by have z := Z330.out; omega)) Z330.out)
   refine step_append_row tC1_len (by decide) tC1_one strs_slice str_info rfl (by decide) _ rfl (.tmp 16) (.tmp 20) rfl w6.heap.size (Sl.v Fs) fs rfl O326.out (w8.heap.size + 1) (some ⟨w8.heap.size, 0, none⟩) 1 1 [(tr.hd (r')).text] rfl (RB.toAt (fun b hb => hb.2) E322.out) LM.out Z332.out.1 ?_
   intro v8 w10 hown hgA hat
   have HOWN := Lib.hid hown
   have HGA := Lib.hid hgA
   have HAT := Lib.hid hat
   clear hown hgA hat
   obtain ⟨S333, hsv⟩ := Ow.sl tC1_len HOWN.out
   subst hsv
   obtain ⟨q9, hq1, hq2, hg⟩ := grow_q O326.out (by have z := Z332.out; omega) HGA.out
   have HQ2 := Lib.hid hq2
   have Z334 := Lib.hid (And.intro hq1 Z332.out)
   have Z335 := Lib.hid (And.intro (show q9 < wr.heap.size ∨ w9.heap.size ≤ q9 from hq2.imp (fun e => (Ow.lt OH1.out e).2) id) Z334.out)
   clear hq1 hq2
   have HOB336 := Lib.hid (show ∀ q0, (Sl.v S333).ownBlock = some q0 → q0 < wr.heap.size ∨ w9.heap.size ≤ q0 from fun q0 e0 => HAT.out.elim (fun h => .inl (Ow.lt OH1.out (h.symm.trans e0)).2) (fun h => .inr (by rw [h] at e0; injection e0 with e0; omega)))
   have E337 := Lib.hid (ExsB.kept (kept_ny hg (HQ2.out.elim (fun e => .inr (.inr ⟨(Sl.v Fs), by simp, e⟩)) (fun h => .inr (.inl (by have z := Z335.out; omega)))) (by have z := Z335.out; omega)) E325.out)
   have E338 := Lib.hid (ExsB.kept (ny_ny (O := [(Sl.v Fs), (Sl.v Cs)]) (O' := [(Sl.v S333), (Sl.v Cs)]) (Nat.le_refl _) (Nat.le_refl _) (by
    intro v0 hv0 q0 e0 hq0
    simp only [List.mem_cons, List.not_mem_nil, or_false] at hv0
    rcases hv0 with rfl | rfl
    ·rcases HAT.out with h | h
     ·exact ⟨_, by simp, h.symm.trans e0⟩
     ·rw [h] at e0; injection e0 with e0; exfalso; have z := Z335.out; omega
    ·exact ⟨_, by simp, e0⟩)) E337.out)
   clear E325 E337
   have O339 := Lib.hid (Ow.gr2 O327.out hg (HQ2.out.elim (fun e => Ow.apart O326.out O327.out (by decide) e) (fun h e2 => by have h9 := (Ow.lt O327.out e2).2; have z := Z335.out; omega)))
   clear O327
   have X340 := hbx hg (by have z := Z335.out; omega) X323
   clear X323
   have X341 := hbx hg (by have z := Z335.out; omega) X324
   clear X324
   have E342 := hkRB hg (by have z := Z335.out; omega) E322
   clear E322
   have P343 := Lib.hid (P328.out.gr hg (by have z := Z335.out; omega))
   clear P328
   have G344 := hgt hg G329 (fun _ => by have z := Z335.out; omega)
   clear G329
   have Z345 := hzz hg Z335
   have O346 := HOWN
   clear hg HOWN HGA HQ2 HAT O326
   refine hK.out _ _ X341.out (fun hHeld => ?_)
   clear hK K
   try simp only [Act.put, List.setIfInBounds_toArray, List.set_cons_zero, List.set_cons_succ, List.getElem_toArray, List.getElem_cons_succ, List.getElem_cons_zero]
   refine wpAnyT_take (i := 7) (v := ?_) rfl (by kernel_rfl) (by kernel_rfl) (by kernel_rfl) (fun _ _ _ h => h) (Or.inl ⟨by rfl, ?_⟩) (by assumption) ?_
   rotate_left 1
   ·intro w_ hSw; clear hSw; go_simp <;> (with_reducible rfl)
   try simp only [Act.put, List.setIfInBounds_toArray, List.set_cons_zero, List.set_cons_succ, List.getElem_toArray, List.getElem_cons_succ, List.getElem_cons_zero]
   refine wpAnyT_ready (rs := [8]) (by kernel_rfl) (by simp) ?_
   refine AllReadyT.spoilt rfl (by kernel_rfl) (fun K hK => ?_) AllReadyT.nil
   refine t_set1 (j := 16) X341.out (show 16 < 19 by decide) 41 22 21 rfl rfl rfl (Sl.v S333) rfl rfl (by first | rfl | (cases S333; rfl)) (by kernel_rfl) ?_
   intro w11 hx hg hs
   have hx : Box w11 (w4.heap.size) 0 (sC ⟨9, nm, ⟨0, 0, [], [], ⟨none, 0, 0⟩, 0⟩, ⟨0, 0, [], [], ⟨none, 0, 0⟩, 0⟩, Cs, ⟨none, 0, 0⟩, S333, ⟨none, 0, 0⟩, 0⟩) := hx
   have X347 := Lib.hid hx
   have Z348 := Lib.hid (And.intro hs Z345.out)
   clear hx hs X341
   have X349 := hbx hg (by have z := Z345.out; omega) X340
   clear X340
   have E350 := Lib.hid (ExsB.kept (kept_ny hg (Or.imp_right Or.inl (by have z := Z345.out; omega)) (by have z := Z345.out; omega)) E338.out)
   clear E338
   have E351 := hkRB hg (by have z := Z345.out; omega) E342
   clear E342
   have O352 := Lib.hid (Ow.gr O346.out hg (by have z := Z345.out; omega))
   clear O346
   have O353 := Lib.hid (Ow.gr O339.out hg (by have z := Z345.out; omega))
   clear O339
   have P354 := Lib.hid (P343.out.gr hg (by have z := Z345.out; omega))
   clear P343
   have G355 := hgt hg G344 (fun _ => by have z := Z345.out; omega)
   clear G344
   have Z356 := hzz hg Z348
   clear hg
   refine hK.out _ _ ?_
   clear hK K
   try simp only [Act.put, List.setIfInBounds_toArray, List.set_cons_zero, List.set_cons_succ, List.getElem_toArray, List.getElem_cons_succ, List.getElem_cons_zero]
   refine wpAnyT_done (by kernel_rfl) ?_ _
   clear f1 LM
   have hl0 := drop_len r320
   have HLD2 := Lib.hid hl0
   clear hl0
   by_cases hs357 : txt (r320) = [58, 61]
   rotate_left
   ·have hq := HR310.out
    rw [need_badE hs357] at hq
    go_wp2_with (go_at_call 18; fail)
    refine (need_no P354.out R311.out (mt (headS_txt R311.out (by decide) (by decide) (by decide) (by decide)).1 hs357)).mono ?_
    rintro e w12 ⟨rfl, hb⟩
    go_wp2
    exact ⟨rfl, Gv.badOf hq.symm (gr_trans G355.out (gr_of hb))⟩
   have hq := HR310.out
   rw [need_okE hs357, bind_okE] at hq
   have HR358 := Lib.hid hq
   clear hq HR310
   have R359 := Lib.hid (R311.out.drop (txt_kind hs357 (by decide)))
   go_wp2_with (go_at_call 18; fail)
   refine (need_yes P354.out R311.out ((headS_txt R311.out (by decide) (by decide) (by decide) (by decide)).2 hs357)).mono ?_
   rintro e w12 ⟨rfl, hp, hg⟩
   have P360 := Lib.hid hp
   have X361 := hbx hg (by have z := Z356.out; omega) X349
   clear X349
   have X362 := hbx hg (by have z := Z356.out; omega) X347
   clear X347
   have E363 := Lib.hid (ExsB.kept (kept_ny hg (Or.imp_right Or.inl (by have z := Z356.out; omega)) (by have z := Z356.out; omega)) E350.out)
   clear E350
   have E364 := hkRB hg (by have z := Z356.out; omega) E351
   clear E351
   have O365 := Lib.hid (Ow.gr O352.out hg (by have z := Z356.out; omega))
   clear O352
   have O366 := Lib.hid (Ow.gr O353.out hg (by have z := Z356.out; omega))
   clear O353
   clear P354
   have G367 := Lib.hid (gr_trans G355.out hg)
   clear G355
   have Z368 := hzz hg Z356
   clear hg hp
   clear R311
   generalize ((r320).drop 1) = r369 at *
   go_upto_region 9 with (fail)
   refine wp_region_T (by kernel_rfl) (fun w' => Box w' (w4.heap.size) 0 (sC ⟨9, nm, ⟨0, 0, [], [], ⟨none, 0, 0⟩, 0⟩, ⟨0, 0, [], [], ⟨none, 0, 0⟩, 0⟩, Cs, ⟨none, 0, 0⟩, S333, ⟨none, 0, 0⟩, 0⟩)) [7] (box_drew X362.out) (fun hHeld => ?_)
   have hb := (Below.refl w12.heap.size w12).drew
   generalize w12.drew = w13 at *
   have hg := gr_of (row := some w12.heap.size) hb
   have X370 := hbx hg (by have z := Z368.out; omega) X361
   clear X361
   have X371 := hbx hg (by have z := Z368.out; omega) X362
   clear X362
   have E372 := Lib.hid (ExsB.kept (kept_ny hg (Or.imp_right Or.inl (by have z := Z368.out; omega)) (by have z := Z368.out; omega)) E363.out)
   clear E363
   have E373 := hkRB hg (by have z := Z368.out; omega) E364
   clear E364
   have O374 := Lib.hid (Ow.gr O365.out hg (by have z := Z368.out; omega))
   clear O365
   have O375 := Lib.hid (Ow.gr O366.out hg (by have z := Z368.out; omega))
   clear O366
   have P376 := Lib.hid (P360.out.gr hg (by have z := Z368.out; omega))
   clear P360
   have G377 := hgt hg G367 (fun _ => by have z := Z368.out; omega)
   clear G367
   have Z378 := hzz hg Z368
   clear hg hb
   refine wpAnyT_take (i := 0) (v := ?_) rfl (by kernel_rfl) (by kernel_rfl) (by kernel_rfl) (fun _ _ _ h => h) (Or.inl ⟨by rfl, ?_⟩) (by assumption) ?_
   rotate_left 1
   ·intro w_ hSw; clear hSw; go_simp <;> (with_reducible rfl)
   try simp only [Act.put, List.setIfInBounds_toArray, List.set_cons_zero, List.set_cons_succ, List.getElem_toArray, List.getElem_cons_succ, List.getElem_cons_zero]
   refine wpAnyT_take (i := 1) (v := ?_) rfl (by kernel_rfl) (by kernel_rfl) (by kernel_rfl) (fun _ _ _ h => h) (Or.inl ⟨by rfl, ?_⟩) (by assumption) ?_
   rotate_left 1
   ·intro w_ hSw; obtain ⟨c14, _⟩ := cell_of hSw (i := 14) rfl; go_simp <;> (with_reducible rfl)
   try simp only [Act.put, List.setIfInBounds_toArray, List.set_cons_zero, List.set_cons_succ, List.getElem_toArray, List.getElem_cons_succ, List.getElem_cons_zero]
   refine wpAnyT_take (i := 2) (v := ?_) rfl (by kernel_rfl) (by kernel_rfl) (by kernel_rfl) (fun _ _ _ h => h) (Or.inl ⟨by rfl, ?_⟩) (by assumption) ?_
   rotate_left 1
   ·intro w_ hSw; clear hSw; go_simp <;> (with_reducible rfl)
   try simp only [Act.put, List.setIfInBounds_toArray, List.set_cons_zero, List.set_cons_succ, List.getElem_toArray, List.getElem_cons_succ, List.getElem_cons_zero]
   refine wpAnyT_ready (rs := [3]) (by kernel_rfl) (by simp) ?_
   refine AllReadyT.cons rfl (fun K hK => ?_) AllReadyT.nil
   have FI := Lib.hid (fin_expr (d := d) (f := f2) (r := r369) (by have z := Z378.out; have := HFC.out; have := HLD.out; have := HLD2.out; have := HLR.out; omega))
   have HOB379 := Lib.hid (show ∀ q0, (Sl.v S333).ownBlock = some q0 → q0 < w13.heap.size from fun q0 e0 => (Ow.lt O374.out e0).2)
   go_simp
   go_at_call 84
   refine (expr_gets (f := f2) (d := d) hd R359.out (by have z := Z378.out; have := HFC.out; have := HLD.out; have := HLD2.out; have := HLR.out; omega) _ _ _ P376.out).mono ?_
   rintro e w14 hgv
   rcases hp : expr f2 d r369 with ⟨x8, r8⟩ | ⟨n9, t9⟩
   rotate_left
   ·rw [hp] at hgv
    obtain ⟨rfl, hg⟩ := hgv
    have hq := HR358.out
    rw [hp] at hq
    go_wp2
    exact ⟨rfl, Gv.badOf hq.symm (gr_trans G377.out hg)⟩
   rw [hp] at hgv
   obtain ⟨⟨v9, rfl, hG⟩, hP9, hr9, hg⟩ := hgv
   have hq := HR358.out
   rw [hp] at hq
   try rw [bind_okE] at hq
   have HR380 := Lib.hid hq
   clear hq HR358
   have P381 := Lib.hid hP9
   have R382 := Lib.hid hr9
   have X383 := hbx hg (by have z := Z378.out; omega) X370
   clear X370
   have X384 := hbx hg (by have z := Z378.out; omega) X371
   clear X371
   have E385 := Lib.hid (ExsB.kept (kept_ny hg (Or.imp_right Or.inl (by have z := Z378.out; omega)) (by have z := Z378.out; omega)) E372.out)
   clear E372
   have E386 := hkRB hg (by have z := Z378.out; omega) E373
   clear E373
   have O387 := Lib.hid (Ow.gr O374.out hg (by have z := Z378.out; omega))
   clear O374
   have O388 := Lib.hid (Ow.gr O375.out hg (by have z := Z378.out; omega))
   clear O375
   clear P376
   have G389 := Lib.hid (gr_trans G377.out hg)
   clear G377
   have Z390 := hzz hg Z378
   clear hg hP9 hr9 R359
   obtain ⟨h391, rfl, hE9⟩ := hG
   have E392 := Lib.hid hE9
   clear hE9
   have L8 : Hid (r8.length < r369.length) := by
    have := FI.out
    rw [hp] at this
    exact Lib.hid this
   clear FI hp
   go_wp2_with fail
   refine hK.out _ _ X384.out (fun hHeld => ?_)
   clear hK K
   try simp only [Act.put, List.setIfInBounds_toArray, List.set_cons_zero, List.set_cons_succ, List.getElem_toArray, List.getElem_cons_succ, List.getElem_cons_zero]
   refine wpAnyT_ready (rs := [4]) (by kernel_rfl) (by simp) ?_
   refine AllReadyT.cons rfl (fun K hK => ?_) AllReadyT.nil
   refine t_slice1 (enc := eC) (z := 6) h391 37 39 28 (.agg (eC h391).toArray) (eC h391).toArray rfl rfl rfl (bs_E h391) rfl ?_
   intro w15 hrb hb1 hz1
   have HRB := Lib.hid hrb
   have HB1 := Lib.hid hb1
   have HZ1 := Lib.hid hz1
   clear hrb hb1 hz1
   have hg := gr_of (row := some w14.heap.size) HB1.out
   have Z394 := Lib.hid (And.intro HZ1.out Z390.out)
   have E395 := HRB
   clear HZ1 HRB
   have X396 := hbx hg (by have z := Z390.out; omega) X383
   clear X383
   have X397 := hbx hg (by have z := Z390.out; omega) X384
   clear X384
   have E398 := Lib.hid (ExsB.kept (kept_ny hg (Or.imp_right Or.inl (by have z := Z390.out; omega)) (by have z := Z390.out; omega)) E385.out)
   clear E385
   have E399 := hkRB hg (by have z := Z390.out; omega) E386
   clear E386
   have E400 := hkExB hg (by have z := Z390.out; omega) E392
   clear E392
   have O401 := Lib.hid (Ow.gr O387.out hg (by have z := Z390.out; omega))
   clear O387
   have O402 := Lib.hid (Ow.gr O388.out hg (by have z := Z390.out; omega))
   clear O388
   have P403 := Lib.hid (P381.out.gr hg (by have z := Z390.out; omega))
   clear P381
   have G404 := hgt hg G389 (fun _ => by have z := Z390.out; omega)
   clear G389
   have Z405 := hzz hg Z394
   clear hg HB1
   refine hK.out _ _ X397.out (fun hHeld => ?_)
   clear hK K
   try simp only [Act.put, List.setIfInBounds_toArray, List.set_cons_zero, List.set_cons_succ, List.getElem_toArray, List.getElem_cons_succ, List.getElem_cons_zero]
   have LM := Lib.hid (show CH.length + [h391].length ≤ 20000 by have := exsB_len E398.out; have := HL2.out; have := HL.out; simp only [List.length_cons, List.length_nil]; omega)
   refine wpAnyT_ready (rs := [5]) (by kernel_rfl) (by simp) ?_
   refine AllReadyT.cons rfl (fun K hK => ?_) AllReadyT.nil
   have Z407 := Lib.hid (And.intro (show w6.heap.size ≤ w15.heap.size from (by have z := Z405.out; omega)) Z405.out)
   refine step_append_row eC_len (by decide) eC_one exprs_slice expr_info rfl (by decide) _ rfl (.tmp 26) (.tmp 29) rfl w6.heap.size (Sl.v Cs) CH rfl O402.out (w14.heap.size + 1) (some ⟨w14.heap.size, 0, none⟩) 1 1 [h391] rfl (RB.toAt (fun b hb => hb.2) E395.out) LM.out Z407.out.1 ?_
   intro v8 w16 hown hgA hat
   have HOWN := Lib.hid hown
   have HGA := Lib.hid hgA
   have HAT := Lib.hid hat
   clear hown hgA hat
   obtain ⟨S408, hsv⟩ := Ow.sl eC_len HOWN.out
   subst hsv
   obtain ⟨q9, hq1, hq2, hg⟩ := grow_q O402.out (by have z := Z407.out; omega) HGA.out
   have HQ2 := Lib.hid hq2
   have Z409 := Lib.hid (And.intro hq1 Z407.out)
   have Z410 := Lib.hid (And.intro (show q9 < wr.heap.size ∨ w15.heap.size ≤ q9 from hq2.imp (fun e => (Ow.lt OH2.out e).2) id) Z409.out)
   clear hq1 hq2
   have HOB411 := Lib.hid (show ∀ q0, (Sl.v S408).ownBlock = some q0 → q0 < wr.heap.size ∨ w15.heap.size ≤ q0 from fun q0 e0 => HAT.out.elim (fun h => .inl (Ow.lt OH2.out (h.symm.trans e0)).2) (fun h => .inr (by rw [h] at e0; injection e0 with e0; omega)))
   have E412 := Lib.hid (ExsB.kept (kept_ny hg (HQ2.out.elim (fun e => .inr (.inr ⟨(Sl.v Cs), by simp, e⟩)) (fun h => .inr (.inl (by have z := Z410.out; omega)))) (by have z := Z410.out; omega)) E398.out)
   have E413 := Lib.hid (ExsB.kept (ny_ny (O := [(Sl.v S333), (Sl.v Cs)]) (O' := [(Sl.v S333), (Sl.v S408)]) (Nat.le_refl _) (Nat.le_refl _) (by
    intro v0 hv0 q0 e0 hq0
    simp only [List.mem_cons, List.not_mem_nil, or_false] at hv0
    rcases hv0 with rfl | rfl
    ·exact ⟨_, by simp, e0⟩
    ·rcases HAT.out with h | h
     ·exact ⟨_, by simp, h.symm.trans e0⟩
     ·rw [h] at e0; injection e0 with e0; exfalso; have z := Z410.out; omega)) E412.out)
   clear E398 E412
   have O414 := Lib.hid (Ow.gr2 O401.out hg (HQ2.out.elim (fun e => Ow.apart O402.out O401.out (by decide) e) (fun h e2 => by have h9 := (Ow.lt O401.out e2).2; have z := Z410.out; omega)))
   clear O401
   have X415 := hbx hg (by have z := Z410.out; omega) X396
   clear X396
   have X416 := hbx hg (by have z := Z410.out; omega) X397
   clear X397
   have E417 := hkRB hg (by have z := Z410.out; omega) E399
   clear E399
   have E418 := hkExB hg (by have z := Z410.out; omega) E400
   clear E400
   have E419 := hkRB hg (by have z := Z410.out; omega) E395
   clear E395
   have P420 := Lib.hid (P403.out.gr hg (by have z := Z410.out; omega))
   clear P403
   have G421 := hgt hg G404 (fun _ => by have z := Z410.out; omega)
   clear G404
   have Z422 := hzz hg Z410
   have O423 := HOWN
   clear hg HOWN HGA HQ2 HAT O402
   refine hK.out _ _ X416.out (fun hHeld => ?_)
   clear hK K
   try simp only [Act.put, List.setIfInBounds_toArray, List.set_cons_zero, List.set_cons_succ, List.getElem_toArray, List.getElem_cons_succ, List.getElem_cons_zero]
   refine wpAnyT_take (i := 6) (v := ?_) rfl (by kernel_rfl) (by kernel_rfl) (by kernel_rfl) (fun _ _ _ h => h) (Or.inl ⟨by rfl, ?_⟩) (by assumption) ?_
   rotate_left 1
   ·intro w_ hSw; clear hSw; go_simp <;> (with_reducible rfl)
   try simp only [Act.put, List.setIfInBounds_toArray, List.set_cons_zero, List.set_cons_succ, List.getElem_toArray, List.getElem_cons_succ, List.getElem_cons_zero]
   refine wpAnyT_ready (rs := [7]) (by kernel_rfl) (by simp) ?_
   refine AllReadyT.spoilt rfl (by kernel_rfl) (fun K hK => ?_) AllReadyT.nil
   refine t_set1 (j := 14) X416.out (show 14 < 19 by decide) 37 31 30 rfl rfl rfl (Sl.v S408) rfl rfl (by first | rfl | (cases S408; rfl)) (by kernel_rfl) ?_
   intro w17 hx hg hs
   have hx : Box w17 (w4.heap.size) 0 (sC ⟨9, nm, ⟨0, 0, [], [], ⟨none, 0, 0⟩, 0⟩, ⟨0, 0, [], [], ⟨none, 0, 0⟩, 0⟩, S408, ⟨none, 0, 0⟩, S333, ⟨none, 0, 0⟩, 0⟩) := hx
   have X424 := Lib.hid hx
   have Z425 := Lib.hid (And.intro hs Z422.out)
   clear hx hs X416
   have X426 := hbx hg (by have z := Z422.out; omega) X415
   clear X415
   have E427 := Lib.hid (ExsB.kept (kept_ny hg (Or.imp_right Or.inl (by have z := Z422.out; omega)) (by have z := Z422.out; omega)) E413.out)
   clear E413
   have E428 := hkRB hg (by have z := Z422.out; omega) E417
   clear E417
   have E429 := hkExB hg (by have z := Z422.out; omega) E418
   clear E418
   have E430 := hkRB hg (by have z := Z422.out; omega) E419
   clear E419
   have O431 := Lib.hid (Ow.gr O414.out hg (by have z := Z422.out; omega))
   clear O414
   have O432 := Lib.hid (Ow.gr O423.out hg (by have z := Z422.out; omega))
   clear O423
   have P433 := Lib.hid (P420.out.gr hg (by have z := Z422.out; omega))
   clear P420
   have G434 := hgt hg G421 (fun _ => by have z := Z422.out; omega)
   clear G421
   have Z435 := hzz hg Z425
   clear hg
   refine hK.out _ _ ?_
   clear hK K
   try simp only [Act.put, List.setIfInBounds_toArray, List.set_cons_zero, List.set_cons_succ, List.getElem_toArray, List.getElem_cons_succ, List.getElem_cons_zero]
   refine wpAnyT_done (by kernel_rfl) ?_ _
   by_cases hw4 : txt r8 = [44]
   ·skip
    have hq := HR380.out
    rw [if_pos hw4] at hq
    have HR436 := Lib.hid hq
    clear hq HR380
    have hl0 := drop_len r8
    have HLX := Lib.hid hl0
    have HLY := Lib.hid R382.out.len
    clear hl0
    have R437 := Lib.hid (R382.out.drop (txt_kind hw4 (by decide)))
    go_wp2_with (go_at_call 32; fail)
    refine (take_yes P433.out R382.out ((headS_txt R382.out (by decide) (by decide) (by decide) (by decide)).2 hw4) (txt_kind hw4 (by decide))).mono ?_
    rintro e w18 ⟨rfl, hp, hg⟩
    have P438 := Lib.hid hp
    have X439 := hbx hg (by have z := Z435.out; omega) X426
    clear X426
    have X440 := hbx hg (by have z := Z435.out; omega) X424
    clear X424
    have E441 := Lib.hid (ExsB.kept (kept_ny hg (Or.imp_right Or.inl (by have z := Z435.out; omega)) (by have z := Z435.out; omega)) E427.out)
    clear E427
    have E442 := hkRB hg (by have z := Z435.out; omega) E428
    clear E428
    have E443 := hkExB hg (by have z := Z435.out; omega) E429
    clear E429
    have E444 := hkRB hg (by have z := Z435.out; omega) E430
    clear E430
    have O445 := Lib.hid (Ow.gr O431.out hg (by have z := Z435.out; omega))
    clear O431
    have O446 := Lib.hid (Ow.gr O432.out hg (by have z := Z435.out; omega))
    clear O432
    clear P433
    have G447 := Lib.hid (gr_trans G434.out hg)
    clear G434
    have Z448 := hzz hg Z435
    clear hg hp
    clear R382
    generalize ((r8).drop 1) = r449 at *
    go_wp2_with fail
    go_roundw
    case rel => exact ⟨true, _, _, _, _, _, _, f2, rfl, fun _ => ⟨HR436.out, (by have z := Z448.out; have := HFC.out; have := HLD.out; have := HLD2.out; have := HLR.out; have := L8.out; have := HL1.out; have := HL2.out; have := HLX.out; have := HLY.out; omega), (by have z := Z448.out; have := HFC2.out; omega)⟩, (fun h => by cases h), (by have z := Z448.out; have := HLD.out; have := HLD2.out; have := HLR.out; have := L8.out; have := HL1.out; have := HL2.out; have := HLX.out; have := HLY.out; simp only [List.length_append, List.length_cons, List.length_nil]; omega), (by have z := Z448.out; have := HLD.out; have := HLD2.out; have := HLR.out; have := L8.out; have := HL1.out; have := HL2.out; have := HLX.out; have := HLY.out; simp only [List.length_append, List.length_cons, List.length_nil]; omega), R437.out, P438.out, X439.out, X440.out, O445.out, O446.out, ExsB.snoc (ExB.kept (nw_ny (O := [(Sl.v S333), (Sl.v S408)]) (by have z := Z448.out; omega) (by have z := Z448.out; omega) (by
     intro v0 hv0 q0 e0
     simp only [List.mem_cons, List.not_mem_nil, or_false] at hv0
     rcases hv0 with rfl | rfl
     ·have h9 := HOB379.out q0 e0; have z := Z448.out; omega
     ·have h9 := HOB411.out q0 e0; have z := Z448.out; omega)) E443.out) (ExsB.kept (ny_ny (O := [(Sl.v S333), (Sl.v S408)]) (O' := [(Sl.v S333), (Sl.v S408)]) (Nat.le_refl _) (by have z := Z448.out; omega) (fun v hv q e hq => ⟨v, hv, e⟩)) E441.out), G447.out, (by have z := Z448.out; omega)⟩
    case measure => rw [NLEN.out, P438.out.len]; have z := Z448.out; have := HLD.out; have := HLD2.out; have := HLR.out; have := L8.out; have := HL1.out; have := HL2.out; have := HLX.out; have := HLY.out; omega
   ·skip
    have hq := HR380.out
    rw [if_neg hw4, bind_okE] at hq
    have HR436 := Lib.hid hq
    clear hq HR380
    go_wp2_with (go_at_call 32; fail)
    refine (take_no P433.out R382.out (mt (headS_txt R382.out (by decide) (by decide) (by decide) (by decide)).1 hw4)).mono ?_
    rintro e w18 ⟨rfl, hb⟩
    have hg := gr_of (row := some w17.heap.size) hb
    have X437 := hbx hg (by have z := Z435.out; omega) X426
    clear X426
    have X438 := hbx hg (by have z := Z435.out; omega) X424
    clear X424
    have E439 := Lib.hid (ExsB.kept (kept_ny hg (Or.imp_right Or.inl (by have z := Z435.out; omega)) (by have z := Z435.out; omega)) E427.out)
    clear E427
    have E440 := hkRB hg (by have z := Z435.out; omega) E428
    clear E428
    have E441 := hkExB hg (by have z := Z435.out; omega) E429
    clear E429
    have E442 := hkRB hg (by have z := Z435.out; omega) E430
    clear E430
    have O443 := Lib.hid (Ow.gr O431.out hg (by have z := Z435.out; omega))
    clear O431
    have O444 := Lib.hid (Ow.gr O432.out hg (by have z := Z435.out; omega))
    clear O432
    have P445 := Lib.hid (P433.out.gr hg (by have z := Z435.out; omega))
    clear P433
    have G446 := hgt hg G434 (fun _ => by have z := Z435.out; omega)
    clear G434
    have Z447 := hzz hg Z435
    clear hg hb
    go_wp2_with fail
    go_roundw
    case rel => exact ⟨false, _, _, _, _, _, _, f2, rfl, (fun h => by cases h), fun _ => HR436.out, (by have z := Z447.out; have := HLD.out; have := HLD2.out; have := HLR.out; have := L8.out; have := HL1.out; have := HL2.out; simp only [List.length_append, List.length_cons, List.length_nil]; omega), (by have z := Z447.out; have := HLD.out; have := HLD2.out; have := HLR.out; have := L8.out; have := HL1.out; have := HL2.out; simp only [List.length_append, List.length_cons, List.length_nil]; omega), R382.out, P445.out, X437.out, X438.out, O443.out, O444.out, ExsB.snoc (ExB.kept (nw_ny (O := [(Sl.v S333), (Sl.v S408)]) (by have z := Z447.out; omega) (by have z := Z447.out; omega) (by
     intro v0 hv0 q0 e0
     simp only [List.mem_cons, List.not_mem_nil, or_false] at hv0
     rcases hv0 with rfl | rfl
     ·have h9 := HOB379.out q0 e0; have z := Z447.out; omega
     ·have h9 := HOB411.out q0 e0; have z := Z447.out; omega)) E441.out) (ExsB.kept (ny_ny (O := [(Sl.v S333), (Sl.v S408)]) (O' := [(Sl.v S333), (Sl.v S408)]) (Nat.le_refl _) (by have z := Z447.out; omega) (fun v hv q e hq => ⟨v, hv, e⟩)) E439.out), G446.out, (by have z := Z447.out; omega)⟩
    case measure => rw [NLEN.out, P445.out.len]; have z := Z447.out; have := HLD.out; have := HLD2.out; have := HLR.out; have := L8.out; have := HL1.out; have := HL2.out; omega
end
end Go.Proofs.YtbcpkhegmbdifaaGreat.tr
