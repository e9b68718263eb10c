/- The landed checks of labels, places, statements and blocks. Conditions: the library's variable MaxLen holds some number; the rows have room for one more. -/
import Derived.Test.YtdefgghhkknnpaaGreatDoorV02
import Derived.Test.YtdefgghhkknnpaaGreatDoorV03
namespace Go.Proofs.YtdefgghhkknnpaaGreatDoor.sh
open Go.ChangeShapes Go.WideShapes Go.ChangeAt Go.RowKit Go.Proofs.YtdefgghhkknnpaaGreatDoor.k Go.Proofs.YtdefgghhkknnpaaGreatDoor.rr Go.Proofs.YtdefgghhkknnpaaGreatDoor.tk Go.Proofs.YtdefgghhkknnpaaGreatDoor.tr
set_option linter.unusedVariables false
set_option linter.unusedSimpArgs false

theorem rsub {w : World} {b o : Nat} {L : List Value} (pre mid post : List Value) (hL : L = pre ++ (mid ++ post)) (h : w.rangeAt b o L) : w.rangeAt b (o + pre.length) mid := fun j v hv => by
  have h2 := h (pre.length + j) v (by rw [hL, List.getElem?_append_right (by omega), Nat.add_sub_cancel_left, List.getElem?_append_left ((List.getElem?_eq_some_iff.1 hv).1)]; exact hv)
  rw [← Nat.add_assoc] at h2
  exact h2
theorem st_dst {w : World} {g : Nat} {h : SH} (hb : Box w g 0 (sC h)) : w.rangeAt g 2 (eC h.dst) := rsub [.int .i64 h.op, sv h.name] (eC h.dst) (eC h.val ++ [h.conds.v, h.labels.v, h.fields.v, h.blocks.v, .int .i64 h.line]) rfl hb.range
theorem st_val {w : World} {g : Nat} {h : SH} (hb : Box w g 0 (sC h)) : w.rangeAt g 8 (eC h.val) := rsub ([.int .i64 h.op, sv h.name] ++ eC h.dst) (eC h.val) [h.conds.v, h.labels.v, h.fields.v, h.blocks.v, .int .i64 h.line] rfl hb.range
theorem ints_all {L : List Int} {i : Nat} (h : i < L.length) (f : Int → Bool) : (L.drop i).all f = ((L[i]?.map f).getD false && (L.drop (i + 1)).all f) := by
  rw [List.drop_eq_getElem_cons h, List.all_cons, List.getElem?_eq_getElem h]
  rfl
theorem row_all {α : Type} {L : List α} {i : Nat} (h : i < L.length) (f : α → Bool) : (L.drop i).all f = ((L[i]?.map f).getD false && (L.drop (i + 1)).all f) := by
  rw [List.drop_eq_getElem_cons h, List.all_cons, List.getElem?_eq_getElem h]
  rfl
set_option maxRecDepth 100000 in
set_option maxHeartbeats 4000000 in
theorem rightLabels_any {L : List Int} {s : Sl} {w : World} (h1 : RS iC 1 w w.heap.size s L) : Calls Tryz.prog 93 #[s.v] w fun e w' => e = .returned (.bool (labB L)) ∧ Below w.heap.size w w' := by
  have AL := Lib.hid (all_i h1 (fun i => (L.drop i).all fun n => n != -9223372036854775808) (fun i => (L[i]?.map fun n => n != -9223372036854775808).getD false) _ rfl
    (by show (L.drop s.l).all _ = true; rw [List.drop_of_length_le (by rw [h1.1]; exact Nat.le_refl _)]; rfl) (fun i hi => row_all (by rw [h1.1]; exact hi) _) (fun i x hx W hW => by rw [at_get hx]; exact signed_any x W))
  have hl : L.length = s.l := h1.1
  have hle : (s.l : Int) ≤ 9223372036854775807 := Rd.len_le h1
  unfold labB
  rw [hl]
  rw [show L.drop 0 = L from rfl] at AL
  obtain ⟨A, n, c⟩ := s
  simp only [Sl.v] at AL hle ⊢
  generalize (L.all fun n => n != -9223372036854775808) = u at *
  clear h1 hl
  go_enter Tryz.func93, Tryz.ntmps93
  by_cases h0 : 0 < n
  rotate_left
  · have h0' : ¬ (0 : Int) < n := by omega
    rw [decide_eq_false h0]
    go_wp2
    go_ret
    exact ⟨rfl, Below.refl _ _⟩
  have h0' : (0 : Int) < n := by omega
  rw [decide_eq_true h0]
  obtain ⟨v, hv⟩ : ∃ v, (n % 2 == 0) = v := ⟨_, rfl⟩
  have h2 : ((n : Int) % 2 == 0) = v := by
    rw [← hv, Bool.eq_iff_iff, beq_iff_eq, beq_iff_eq]
    omega
  have h3 : (((n : Int).tmod 2) == 0) = v := by
    rw [Int.tmod_eq_emod_of_nonneg (by omega)]
    exact h2
  rw [hv]
  clear hv h0
  cases v
  · go_wp2
    go_ret
    exact ⟨rfl, Below.refl _ _⟩
  · go_wp2_with (go_at_call 123; fail)
    refine AL.out.mono ?_
    rintro e w2 ⟨rfl, hb⟩
    have B2 := Lib.hid hb
    clear hb AL
    go_wp2_with fail
    go_ret
    exact ⟨rfl, B2.out⟩
set_option maxRecDepth 100000 in
set_option maxHeartbeats 4000000 in
theorem rightPlace_any {x : Ex} {h : EH} {w : World} (hM : MaxL w) (hx : ExAt w w.heap.size x h) : Calls Tryz.prog 89 #[.agg (eC h).toArray] w fun e w' => e = .returned (.bool (placeB x)) ∧ Below w.heap.size w w' := by
  have RX := Lib.hid (fun W (hW : Below w.heap.size w W) => right_e (hM.below hW) (hx.below hW hW.size))
  have ho : opE x = h.op := by
    cases x
    unfold ExAt at hx
    exact hx.1.symm
  unfold placeB
  rw [ho]
  generalize exB x = u at *
  have HB := Lib.hid (al1 w (.cells (eC h).toArray 44))
  have X1 := Lib.hid (Box.new w (eC h).toArray 44)
  clear hM hx ho
  obtain ⟨u1, h1⟩ : ∃ u, (h.op == 3) = u := ⟨_, rfl⟩
  obtain ⟨u2, h2⟩ : ∃ u, (h.op == 4) = u := ⟨_, rfl⟩
  rw [h1, h2]
  have c0 := (cell_of X1.out (i := 0) rfl).1
  go_enter Tryz.func89, Tryz.ntmps89
  go_upto_region 1 with (fail)
  generalize w.alloc (.cells (eC h).toArray 44) = w1 at *
  have RX1 := Lib.hid (RX.out w1 HB.out)
  clear RX
  have X1 : Hid (Box w1 w.heap.size 0 (eC h)) := X1
  cases u1 <;> cases u2
  · go_wp2_with fail
    go_ret
    exact ⟨rfl, HB.out⟩
  all_goals
    go_wp2_with (first | ((with_reducible refine m_load X1.out 44 1 ?_ ?_ ?_ ?_ ?_ ?_); rfl; rfl; rfl; rfl; kernel_rfl) | (go_at_call 90; fail))
    refine RX1.out.mono ?_
    rintro e w2 ⟨rfl, hb⟩
    have B2 := Lib.hid (HB.out.trans (hb.mono HB.out.size))
    clear hb RX1
    go_wp2_with fail
    go_ret
    exact ⟨rfl, B2.out⟩
end Go.Proofs.YtdefgghhkknnpaaGreatDoor.sh

/- The landed count of a statement's parts. No condition but what each line says. -/
namespace Go.Proofs.YtdefgghhkknnpaaGreatDoor.sh
open Go.ChangeShapes Go.WideShapes Go.ChangeAt Go.RowKit Go.Proofs.YtdefgghhkknnpaaGreatDoor.k Go.Proofs.YtdefgghhkknnpaaGreatDoor.rr Go.Proofs.YtdefgghhkknnpaaGreatDoor.tk Go.Proofs.YtdefgghhkknnpaaGreatDoor.tr
set_option linter.unusedVariables false
set_option linter.unusedSimpArgs false

theorem flag {w : World} {g i : Nat} {vs : List Value} (hb : Box w g 0 vs) (hi : i < vs.length) (hv : vs[i]? = some (.int .i64 0)) (u : Bool) :
    ∃ w', (bif u then w.setCell ⟨g, i, none⟩ (.int .i64 1) else w) = w' ∧ Box w' g 0 (vs.set i (.int .i64 (oneIf u))) ∧ (∀ g' vs', g' ≠ g → Box w g' 0 vs' → Box w' g' 0 vs') ∧ (∀ B, B ≤ g → Below B w w') ∧ w'.heap.size = w.heap.size := by
  cases u
  · refine ⟨w, rfl, ?_, fun _ _ _ h => h, fun _ _ => Below.refl _ _, rfl⟩
    have : vs.set i (.int .i64 (oneIf false)) = vs := by
      refine List.ext_getElem? fun j => ?_
      rw [List.getElem?_set]
      split
      · rename_i h
        subst h
        rw [hv]
        rfl
      · rfl
    rw [this]
    exact hb
  · exact ⟨_, rfl, Box.put hb i hi _, fun g' vs' hne h => Box_aside (Ne.symm hne) _ h, fun B hB => (Below.refl _ _).setCell hB _, by simp⟩
def partsS (h : SH) (x y : Bool) : Pt := ⟨oneIf (h.name != []), oneIf (!x), oneIf (!y), h.conds.l, h.labels.l, h.fields.l, h.blocks.l⟩
set_option maxRecDepth 100000 in
set_option maxHeartbeats 8000000 in
theorem partsOf_any {h : SH} {x y : Ex} {w : World} {B : Nat} (hx : ExAt w B x h.dst) (hy : ExAt w B y h.val) (hB : B ≤ w.heap.size) : Calls Tryz.prog 87 #[.agg (sC h).toArray] w fun e w' => e = .returned (.agg (ptC (partsS h (noE x) (noE y))).toArray) ∧ Below w.heap.size w w' := by
  have MX := Lib.hid fun W (hW : Below w.heap.size w W) => missing_any (hx.below (hW.mono hB) (Nat.le_refl _))
  have MY := Lib.hid fun W (hW : Below w.heap.size w W) => missing_any (hy.below (hW.mono hB) (Nat.le_refl _))
  have t1 := str_no h.name _ rfl
  clear hx hy hB
  unfold partsS
  generalize noE x = n1 at *
  generalize noE y = n2 at *
  obtain ⟨op, nm, hd, hv, ⟨A1, l1, c1⟩, ⟨A2, l2, c2⟩, ⟨A3, l3, c3⟩, ⟨A4, l4, c4⟩, ln⟩ := h
  simp only at MX MY t1 ⊢
  have X0 := Lib.hid (Box.new w (sC ⟨op, nm, hd, hv, ⟨A1, l1, c1⟩, ⟨A2, l2, c2⟩, ⟨A3, l3, c3⟩, ⟨A4, l4, c4⟩, ln⟩).toArray 49)
  have Z0 := Lib.hid (show (w.alloc (.cells (sC ⟨op, nm, hd, hv, ⟨A1, l1, c1⟩, ⟨A2, l2, c2⟩, ⟨A3, l3, c3⟩, ⟨A4, l4, c4⟩, ln⟩).toArray 49)).heap.size = w.heap.size + 1 by simp)
  have B0 := Lib.hid (al1 w (.cells (sC ⟨op, nm, hd, hv, ⟨A1, l1, c1⟩, ⟨A2, l2, c2⟩, ⟨A3, l3, c3⟩, ⟨A4, l4, c4⟩, ln⟩).toArray 49))
  have t2 : (nm != []) = !(nm == []) := rfl
  have t3 : ((⟨nm.toArray⟩ : ByteArray).toList != []) = !(nm == []) := by rw [bne, t1]
  rw [t2]
  clear t2
  have t4 : (⟨nm.toArray⟩ : ByteArray).toList.isEmpty = (nm == []) := by
    rw [← t1]
    cases (⟨nm.toArray⟩ : ByteArray).toList <;> rfl
  clear t3
  clear t1
  obtain ⟨LV, hLV⟩ : ∃ L, ptC ⟨oneIf !(nm == []), oneIf !n1, oneIf !n2, l1, l2, l3, l4⟩ = L := ⟨_, rfl⟩
  rw [hLV]
  have hone : ∀ u ∈ LV, u.oneCell' = true := hLV ▸ ptC_one _
  have HO := Lib.hid (And.intro hone (show LV.length = 7 by rw [← hLV]; rfl))
  have HLV := Lib.hid hLV
  clear hLV hone
  go_enter Tryz.func87, Tryz.ntmps87
  go_upto_region 1 with (fail)
  generalize w.alloc (.cells (sC ⟨op, nm, hd, hv, ⟨A1, l1, c1⟩, ⟨A2, l2, c2⟩, ⟨A3, l3, c3⟩, ⟨A4, l4, c4⟩, ln⟩).toArray 49) = w1 at *
  have X0 : Hid (Box w1 w.heap.size 0 (sC ⟨op, nm, hd, hv, ⟨A1, l1, c1⟩, ⟨A2, l2, c2⟩, ⟨A3, l3, c3⟩, ⟨A4, l4, c4⟩, ln⟩)) := X0
  have c14 := (cell_of X0.out (i := 14) rfl).1
  have X1 := Lib.hid (Box.new w1 #[.int .i64 0, .int .i64 0, .int .i64 0, .int .i64 0, .int .i64 0, .int .i64 0, .int .i64 0] 136)
  have hb1 := al1 w1 (.cells #[.int .i64 0, .int .i64 0, .int .i64 0, .int .i64 0, .int .i64 0, .int .i64 0, .int .i64 0] 136)
  have hz1 : (w1.alloc (.cells #[.int .i64 0, .int .i64 0, .int .i64 0, .int .i64 0, .int .i64 0, .int .i64 0, .int .i64 0] 136)).heap.size = w1.heap.size + 1 := by simp
  rw [Z0.out] at hb1 hz1 X1
  generalize w1.alloc (.cells #[.int .i64 0, .int .i64 0, .int .i64 0, .int .i64 0, .int .i64 0, .int .i64 0, .int .i64 0] 136) = w2 at *
  have Y0 := Lib.hid (X0.out.below hb1 (by omega))
  have B1 := Lib.hid (B0.out.trans (hb1.mono (by omega)))
  have Z1 := Lib.hid hz1
  have X1 : Hid (Box w2 (w.heap.size + 1) 0 [.int .i64 0, .int .i64 0, .int .i64 0, .int .i64 0, .int .i64 0, .int .i64 0, .int .i64 0]) := X1
  have hg1 := Z0.out
  clear hb1 hz1 X0 B0 Z0 c14
  have c14 := (cell_of Y0.out (i := 14) rfl).1
  have c15 := (cell_of Y0.out (i := 15) rfl).1
  have c16 := (cell_of Y0.out (i := 16) rfl).1
  have c17 := (cell_of Y0.out (i := 17) rfl).1
  have c1 := (cell_of Y0.out (i := 1) rfl).1
  simp only [Sl.v, sv] at c14 c15 c16 c17 c1
  have hz2 := Z1.out
  go_upto_region 2 with (fail)
  have hx := Box.new w2 #[.int .i64 0, .int .i64 0, .int .i64 0, .int .i64 l1, .int .i64 l2, .int .i64 l3, .int .i64 l4] 136
  have hb := al1 w2 (.cells #[.int .i64 0, .int .i64 0, .int .i64 0, .int .i64 l1, .int .i64 l2, .int .i64 l3, .int .i64 l4] 136)
  have hz : (w2.alloc (.cells #[.int .i64 0, .int .i64 0, .int .i64 0, .int .i64 l1, .int .i64 l2, .int .i64 l3, .int .i64 l4] 136)).heap.size = w2.heap.size + 1 := by simp
  rw [Z1.out] at hb hz hx
  generalize w2.alloc (.cells #[.int .i64 0, .int .i64 0, .int .i64 0, .int .i64 l1, .int .i64 l2, .int .i64 l3, .int .i64 l4] 136) = w3 at *
  obtain ⟨w4, e4, v4, k4, b4, z4⟩ := flag (i := 0) hx (by simp) rfl (!(nm == []))
  have hx : Box w3 (w.heap.size + 1 + 1) 0 [.int .i64 0, .int .i64 0, .int .i64 0, .int .i64 l1, .int .i64 l2, .int .i64 l3, .int .i64 l4] := hx
  have V4 : Hid (Box w4 (w.heap.size + 1 + 1) 0 [.int .i64 (oneIf !(nm == [])), .int .i64 0, .int .i64 0, .int .i64 l1, .int .i64 l2, .int .i64 l3, .int .i64 l4]) := Lib.hid v4
  have Y4 := Lib.hid (k4 _ _ (by omega) (Y0.out.below hb (by omega)))
  have X4 := Lib.hid (k4 _ _ (by omega) (X1.out.below hb (by omega)))
  have B4 := Lib.hid (B1.out.trans ((hb.trans (b4 _ (Nat.le_refl _))).mono (by omega)))
  have Z4 := Lib.hid (z4.trans hz)
  have d1 := (cell_of (Y0.out.below hb (by omega)) (i := 1) rfl).1
  have d0 := cell_of hx (i := 0) rfl
  simp only [sv] at d1
  have ⟨d0, f0⟩ := d0
  clear hx hb hz v4 k4 b4 z4 Y0 X1 B1 Z1 c14 c15 c16 c17 c1 hz2
  generalize (nm == []) = u1 at *
  generalize (⟨nm.toArray⟩ : ByteArray) = xs at *
  cases u1
  all_goals
    have E4 := Lib.hid e4
    clear e4
    go_upto_region 4 with (fail)
    first
      | (have e4 : w3.setCell ⟨w.heap.size + 1 + 1, 0, none⟩ (.int .i64 1) = w4 := E4.out; rw [e4]; clear e4)
      | (have e4 : w3 = w4 := E4.out; subst e4)
    clear E4 d0 f0 d1
    go_wp2_with (first | ((with_reducible refine m_loadR (st_dst Y4.out) 44 21 ?_ ?_ ?_ ?_ ?_ ?_); rfl; rfl; rfl; rfl; kernel_rfl) | (go_at_call 119; fail))
    refine (MX.out _ B4.out).mono ?_
    rintro e w5 ⟨rfl, hb⟩
    have V5 := Lib.hid (V4.out.below hb (by have := Z4.out; omega))
    have Y5 := Lib.hid (Y4.out.below hb (by have := Z4.out; omega))
    have X5 := Lib.hid (X4.out.below hb (by have := Z4.out; omega))
    have B5 := Lib.hid (B4.out.trans (hb.mono B4.out.size))
    have Z5 := Lib.hid (show w.heap.size + 1 + 1 < w5.heap.size by have := Z4.out; have := hb.size; omega)
    clear hb V4 Y4 X4 B4 Z4 MX
    obtain ⟨w6, e6, v6, k6, b6, z6⟩ := flag (i := 1) V5.out (by simp) rfl (!n1)
    have ⟨d0, f0⟩ := cell_of V5.out (i := 1) rfl
    have V6 := Lib.hid v6
    have Y6 := Lib.hid (k6 _ _ (by omega) Y5.out)
    have X6 := Lib.hid (k6 _ _ (by omega) X5.out)
    have B6 := Lib.hid (B5.out.trans (b6 _ (by omega)))
    have Z6 := Lib.hid (show w.heap.size + 1 + 1 < w6.heap.size by have := Z5.out; omega)
    clear v6 k6 b6 z6 V5 Y5 X5 B5 Z5
    cases n1
    all_goals
      have E6 := Lib.hid e6
      clear e6
      go_upto_region 6 with (fail)
      first
        | (have e6 : w5.setCell ⟨w.heap.size + 1 + 1, 1, none⟩ (.int .i64 1) = w6 := E6.out; rw [e6]; clear e6)
        | (have e6 : w5 = w6 := E6.out; subst e6)
      clear E6 d0 f0
      go_wp2_with (first | ((with_reducible refine m_loadR (st_val Y6.out) 44 26 ?_ ?_ ?_ ?_ ?_ ?_); rfl; rfl; rfl; rfl; kernel_rfl) | (go_at_call 119; fail))
      refine (MY.out _ B6.out).mono ?_
      rintro e w7 ⟨rfl, hb⟩
      have V7 := Lib.hid (V6.out.below hb Z6.out)
      have X7 := Lib.hid (X6.out.below hb (by have := Z6.out; omega))
      have B7 := Lib.hid (B6.out.trans (hb.mono B6.out.size))
      have Z7 := Lib.hid (show w.heap.size + 1 + 1 < w7.heap.size by have := Z6.out; have := hb.size; omega)
      clear hb V6 Y6 X6 B6 Z6 MY
      obtain ⟨w8, e8, v8, k8, b8, z8⟩ := flag (i := 2) V7.out (by simp) rfl (!n2)
      have ⟨d0, f0⟩ := cell_of V7.out (i := 2) rfl
      have X8 := Lib.hid (k8 _ _ (by omega) X7.out)
      have B8 := Lib.hid (B7.out.trans (b8 _ (by omega)))
      have Z8 := Lib.hid (show w.heap.size + 1 + 1 < w8.heap.size by have := Z7.out; omega)
      clear k8 b8 z8 V7 X7 B7
      have V8 : Hid (Box w8 (w.heap.size + 1 + 1) 0 LV) := Lib.hid (by rw [← HLV.out]; exact v8)
      clear v8 HLV
      cases n2
      all_goals
        have E8 := Lib.hid e8
        clear e8
        go_upto_region 8 with (fail)
        first
          | (have e8 : w7.setCell ⟨w.heap.size + 1 + 1, 2, none⟩ (.int .i64 1) = w8 := E8.out; rw [e8]; clear e8)
          | (have e8 : w7 = w8 := E8.out; subst e8)
        clear E8 d0 f0
        go_wp2_with (first | ((with_reducible refine m_load V8.out 136 3 ?_ ?_ ?_ ?_ ?_ ?_); rfl; rfl; rfl; rfl; (rw [HO.out.2]; kernel_rfl)) | ((with_reducible refine m_store X8.out 136 2 31 ?_ ?_ ?_ LV ?_ ?_ ?_ ?_ HO.out.1 ?_); rfl; rfl; rfl; rfl; rfl; exact HO.out.2; (rw [HO.out.2]; kernel_rfl); intro w9 hx hg hs))
        refine bodyPost_ret (k.results_cell rfl rfl (run_loadVar_mid _ (w.heap.size + 1) 0 136 _ _ hx.range rfl rfl (by rw [HO.out.2]; kernel_rfl))) rfl ?_
        exact ⟨rfl, B8.out.trans (gr_below hg (by omega) (by have := Z8.out; omega))⟩
end Go.Proofs.YtdefgghhkknnpaaGreatDoor.sh

/- The landed checks of statements and blocks. Conditions: the library's variable MaxLen holds some number; a statement has at most 2^40 parts. -/
namespace Go.Proofs.YtdefgghhkknnpaaGreatDoor.sh
open Go.ChangeShapes Go.WideShapes Go.ChangeAt Go.RowKit Go.Proofs.YtdefgghhkknnpaaGreatDoor.k Go.Proofs.YtdefgghhkknnpaaGreatDoor.rr Go.Proofs.YtdefgghhkknnpaaGreatDoor.tk Go.Proofs.YtdefgghhkknnpaaGreatDoor.tr
set_option linter.unusedVariables false
set_option linter.unusedSimpArgs false

structure Kp (w W : World) (g : Nat) (LX LV : List Value) : Prop where
  x : Box W w.heap.size 0 LX
  v : Box W g 0 LV
  b : Below w.heap.size w W
  z : w.heap.size < W.heap.size ∧ g < W.heap.size
theorem Kp.step {w W W' : World} {g : Nat} {LX LV : List Value} (h : Kp w W g LX LV) (hb : Below W.heap.size W W') : Kp w W' g LX LV :=
  ⟨h.x.below hb h.z.1, h.v.below hb h.z.2, h.b.trans (hb.mono h.b.size), by have := h.z; have := hb.size; omega⟩
theorem oneIf_zero (b : Bool) : (((oneIf (!b) : Nat) : Int) == 0) = b := by cases b <;> rfl
theorem stsB_at {L : List St} {i : Nat} (h : i < L.length) : stsB (L.drop i) = ((L[i]?.map stB).getD false && stsB (L.drop (i + 1))) := by
  rw [List.drop_eq_getElem_cons h, stsB, List.getElem?_eq_getElem h]
  rfl
theorem blksB_at {L : List (List St)} {i : Nat} (h : i < L.length) : blksB (L.drop i) = ((L[i]?.map stsB).getD false && blksB (L.drop (i + 1))) := by
  rw [List.drop_eq_getElem_cons h, blksB, List.getElem?_eq_getElem h]
  rfl
abbrev big : Nat := 1099511627776
/-- the check of statements up to a size -/
def RiS (N : Nat) : Prop := ∀ x : St, SizeOf.sizeOf x < N → wS x ≤ big → ∀ (h : SH) (w : World), MaxL w → StAt w w.heap.size x h → Calls Tryz.prog 57 #[.agg (sC h).toArray] w fun e w' => e = .returned (.bool (stB x)) ∧ Below w.heap.size w w'
set_option maxRecDepth 100000 in
theorem block_right {N : Nat} (IH : RiS N) {L : List St} (hN : SizeOf.sizeOf L ≤ N) (hW : wsS L ≤ big) {s : Sl} {w : World} (hM : MaxL w) (h1 : StL w w.heap.size s L) :
    Calls Tryz.prog 34 #[s.v] w fun e w' => e = .returned (.bool (stsB L)) ∧ Below w.heap.size w w' := by
  have AL := Lib.hid (show Calls Tryz.prog 56 #[s.v, .func (.func 57) #[] #[]] w fun e w' => e = .returned (.bool (stsB L)) ∧ Below w.heap.size w w' from by
    obtain ⟨H, h1, h3⟩ := h1
    have l1 : L.length = s.l := h3.len.symm.trans h1.1
    refine all_s h1 (fun i => stsB (L.drop i)) (fun i => (L[i]?.map stB).getD false) _ rfl ?_ (fun i hi => stsB_at (by omega)) (fun i a ha W hW' => ?_)
    · show stsB (L.drop s.l) = true
      rw [List.drop_of_length_le (by omega)]
      rfl
    · obtain ⟨x, hx, hxa⟩ := h3.at ha
      rw [at_get hx]
      exact IH x (by have := at_size hx; omega) (by have := wsS_mem (List.mem_of_getElem? hx); omega) a W (hM.below hW') (hxa.below hW' hW'.size))
  obtain ⟨A, n, c⟩ := s
  simp only [Sl.v] at AL ⊢
  clear h1 hM
  go_enter Tryz.func34, Tryz.ntmps34
  go_wp2_with (go_at_call 56; fail)
  refine AL.out.mono ?_
  rintro e w2 ⟨rfl, hb⟩
  have B2 := Lib.hid hb
  clear hb AL
  go_wp2_with fail
  go_ret
  exact ⟨rfl, B2.out⟩
theorem blocks_right {N : Nat} (IH : RiS N) {L : List (List St)} (hN : SizeOf.sizeOf L ≤ N) (hW : wsB L ≤ big) {s : Sl} {w : World} (hM : MaxL w) {H : List Sl} (h1 : RS slC 1 w w.heap.size s H) (h3 : BlksAt w w.heap.size L H) :
    Calls Tryz.prog 95 #[s.v, .func (.func 34) #[] #[]] w fun e w' => e = .returned (.bool (blksB L)) ∧ Below w.heap.size w w' := by
  have l1 : L.length = s.l := h3.len.symm.trans h1.1
  refine all_b h1 (fun i => blksB (L.drop i)) (fun i => (L[i]?.map stsB).getD false) _ rfl ?_ (fun i hi => blksB_at (by omega)) (fun i a ha W hW' => ?_)
  · show blksB (L.drop s.l) = true
    rw [List.drop_of_length_le (by omega)]
    rfl
  · obtain ⟨x, hx, hxa⟩ := h3.at ha
    rw [at_get hx]
    exact block_right IH (by have := at_size hx; omega) (by have := wsB_mem (List.mem_of_getElem? hx); omega) (hM.below hW') (StL.below hxa hW' hW'.size)
theorem labels_right {L : List (List Int)} {s : Sl} {w : World} {H : List Sl} (h1 : RS slC 1 w w.heap.size s H) (h3 : LabsAt w w.heap.size L H) :
    Calls Tryz.prog 92 #[s.v, .func (.func 93) #[] #[]] w fun e w' => e = .returned (.bool (L.all labB)) ∧ Below w.heap.size w w' := by
  have l1 : L.length = s.l := h3.len.symm.trans h1.1
  refine all_l h1 (fun i => (L.drop i).all labB) (fun i => (L[i]?.map labB).getD false) _ rfl ?_ (fun i hi => row_all (by omega) _) (fun i a ha W hW' => ?_)
  · show (L.drop s.l).all labB = true
    rw [List.drop_of_length_le (by omega)]
    rfl
  · obtain ⟨x, hx, hxa⟩ := h3.at ha
    rw [at_get hx]
    exact rightLabels_any (hxa.below hW' hW'.size)
theorem names_right {L : List Str} {s : Sl} {w : World} (hM : MaxL w) (h1 : RS tC1 1 w w.heap.size s L) :
    Calls Tryz.prog 94 #[s.v, .func (.func 31) #[] #[]] w fun e w' => e = .returned (.bool (L.all nmB)) ∧ Below w.heap.size w w' := by
  have l1 : L.length = s.l := h1.1
  refine all_n h1 (fun i => (L.drop i).all nmB) (fun i => (L[i]?.map nmB).getD false) _ rfl ?_ (fun i hi => row_all (by omega) _) (fun i a ha W hW' => ?_)
  · show (L.drop s.l).all nmB = true
    rw [List.drop_of_length_le (by omega)]
    rfl
  · rw [at_get ha]
    exact isName_any _ W (hM.below hW')
set_option maxRecDepth 100000 in
set_option maxHeartbeats 16000000 in
theorem right_s_step {N : Nat} (IH : RiS N) : RiS (N + 1) := by
  unfold RiS
  intro x hN hwx h w hM hx
  obtain ⟨xo, xnm, xd, xv, xcs, xls, xfs, xbs, xl⟩ := x
  unfold StAt at hx
  obtain ⟨h1, h2, h3, h4, h5, h6, ⟨LH, h7, h8⟩, h9, BH, h10, h11⟩ := hx
  subst h1 h2 h3
  have PO := Lib.hid fun W (hW : Below w.heap.size w W) => partsOf_any (h := h) (h4.below hW hW.size) (h5.below hW hW.size) (Nat.le_refl _)
  have lc : xcs.length = h.conds.l := by obtain ⟨H, a, b⟩ := h6; exact b.len.symm.trans a.1
  have ll : xls.length = h.labels.l := h8.len.symm.trans h7.1
  have lf : xfs.length = h.fields.l := h9.1
  have lb : xbs.length = h.blocks.l := h11.len.symm.trans h10.1
  simp only [St.mk.sizeOf_spec] at hN
  rw [wS] at hwx
  have wc := wsE_len xcs
  have wl := wL_len xls
  have RP := Lib.hid fun W (hW : Below w.heap.size w W) => rightParts_any h.op (partsS h (noE xd) (noE xv)) (by unfold partsS; simp only; unfold big at hwx; omega) (by unfold partsS; simp only; unfold big at hwx; omega) W
  have C1 := Lib.hid fun W (hW : Below w.heap.size w W) => isName_any ⟨h.name.toArray⟩ W (hM.below hW)
  have C2 := Lib.hid fun W (hW : Below w.heap.size w W) => rightPlace_any (hM.below hW) (h4.below hW hW.size)
  have C3 := Lib.hid fun W (hW : Below w.heap.size w W) => right_e (hM.below hW) (h5.below hW hW.size)
  have C4 := Lib.hid fun W (hW : Below w.heap.size w W) => right_el (hM.below hW) (h6.below hW hW.size)
  have C5 := Lib.hid fun W (hW : Below w.heap.size w W) => labels_right (h7.below hW hW.size) (LabsAt.below hW hW.size h8)
  have C6 := Lib.hid fun W (hW : Below w.heap.size w W) => names_right (hM.below hW) (h9.below hW hW.size)
  have C7 := Lib.hid fun W (hW : Below w.heap.size w W) => blocks_right IH (by omega) (by omega) (hM.below hW) (h10.below hW hW.size) (BlksAt.below hW hW.size h11)
  rw [stB, lc, ll, lf, lb]
  rw [sv_list] at C1
  have HP : Hid ((⟨oneIf (h.name != []), oneIf (!noE xd), oneIf (!noE xv), h.conds.l, h.labels.l, h.fields.l, h.blocks.l⟩ : Pt) = partsS h (noE xd) (noE xv)) := Lib.hid rfl
  rw [HP.out]
  have o1 : (((oneIf (h.name != []) : Nat) : Int) == 0) = (h.name == []) := oneIf_zero _
  have o2 := oneIf_zero (noE xd)
  have o3 := oneIf_zero (noE xv)
  have X0 := Lib.hid (Box.new w (sC h).toArray 49)
  have Z0 := Lib.hid (show (w.alloc (.cells (sC h).toArray 49)).heap.size = w.heap.size + 1 by simp)
  have B0 := Lib.hid (al1 w (.cells (sC h).toArray 49))
  clear hM hN hwx wc wl h4 h5 h6 h7 h8 h9 h10 h11 lc ll lf lb IH HP
  obtain ⟨q0, hq0⟩ : ∃ u, stOk h.op (partsS h (noE xd) (noE xv)) = u := ⟨_, rfl⟩
  rw [hq0] at RP ⊢
  clear hq0
  generalize nmB h.name = u1 at *
  generalize placeB xd = u2 at *
  generalize exB xv = u3 at *
  generalize exsB xcs = u4 at *
  generalize xls.all labB = u5 at *
  generalize xfs.all nmB = u6 at *
  generalize blksB xbs = u7 at *
  unfold partsS at PO RP
  generalize (h.name == []) = v1 at *
  generalize noE xd = v2 at *
  generalize noE xv = v3 at *
  obtain ⟨p1, hp1⟩ : ∃ p, oneIf (h.name != []) = p := ⟨_, rfl⟩
  obtain ⟨p2, hp2⟩ : ∃ p, oneIf (!v2) = p := ⟨_, rfl⟩
  obtain ⟨p3, hp3⟩ : ∃ p, oneIf (!v3) = p := ⟨_, rfl⟩
  rw [hp1] at PO RP o1
  rw [hp2] at PO RP o2
  rw [hp3] at PO RP o3
  clear hp1 hp2 hp3
  obtain ⟨R, hR⟩ : ∃ R, (q0 && ((v1 || u1) && ((v2 || u2) && ((v3 || u3) && (u4 && (u5 && (u6 && u7))))))) = R := ⟨_, rfl⟩
  rw [hR]
  have HR := Lib.hid hR
  clear hR
  simp only [Sl.v] at C4 C5 C6 C7
  go_enter Tryz.func57, Tryz.ntmps57
  go_upto_region 1 with (fail)
  generalize w.alloc (.cells (sC h).toArray 49) = w1 at *
  have X0 : Hid (Box w1 w.heap.size 0 (sC h)) := X0
  go_wp2_with (first | ((with_reducible refine m_load X0.out 49 1 ?_ ?_ ?_ ?_ ?_ ?_); rfl; rfl; rfl; rfl; kernel_rfl) | (go_at_call 87; fail))
  refine (PO.out _ B0.out).mono ?_
  rintro e w2 ⟨rfl, hb⟩
  have X2 := Lib.hid (X0.out.below hb (by have := Z0.out; omega))
  have B2 := Lib.hid (B0.out.trans (hb.mono B0.out.size))
  have Z2 := Lib.hid (show w.heap.size + 1 ≤ w2.heap.size by have := Z0.out; have := hb.size; omega)
  clear hb X0 B0 Z0 PO
  go_upto_region 2 with ((with_reducible refine m_new 136 3 5 ?_ ?_ ?_ (ptC ⟨p1, p2, p3, h.conds.l, h.labels.l, h.fields.l, h.blocks.l⟩) ?_ ?_ ?_ ?_ (ptC_one _) ?_); rfl; rfl; rfl; rfl; rfl; rfl; kernel_rfl; intro w3 hx hb hz)
  have K := Lib.hid (Kp.mk (X2.out.below hb (by have := Z2.out; omega)) hx (B2.out.trans (hb.mono B2.out.size)) (by have := Z2.out; omega) : Kp w w3 w2.heap.size (sC h) _)
  clear hx hb hz X2 B2 Z2
  have ⟨d0, _, d1, _, d2, _, _⟩ := K.out.v
  have c0 := (cell_of K.out.x (i := 0) rfl).1
  have c1 := (cell_of K.out.x (i := 1) rfl).1
  have c14 := (cell_of K.out.x (i := 14) rfl).1
  have c15 := (cell_of K.out.x (i := 15) rfl).1
  have c16 := (cell_of K.out.x (i := 16) rfl).1
  have c17 := (cell_of K.out.x (i := 17) rfl).1
  simp only [Sl.v, sv] at c1 c14 c15 c16 c17
  go_wp2_with (first | ((with_reducible refine m_load K.out.v 136 3 ?_ ?_ ?_ ?_ ?_ ?_); rfl; rfl; rfl; rfl; kernel_rfl) | (go_at_call 88; fail))
  refine (RP.out _ K.out.b).mono ?_
  rintro e w4 ⟨rfl, hb⟩
  have K_ := Lib.hid (K.out.step hb)
  clear d0 d1 d2 c0 c1 c14 c15 c16 c17 hb RP K
  have K := Lib.hid K_.out
  clear K_
  have ⟨d0, _, d1, _, d2, _, _⟩ := K.out.v
  have c0 := (cell_of K.out.x (i := 0) rfl).1
  have c1 := (cell_of K.out.x (i := 1) rfl).1
  have c14 := (cell_of K.out.x (i := 14) rfl).1
  have c15 := (cell_of K.out.x (i := 15) rfl).1
  have c16 := (cell_of K.out.x (i := 16) rfl).1
  have c17 := (cell_of K.out.x (i := 17) rfl).1
  simp only [Sl.v, sv] at c1 c14 c15 c16 c17
  cases q0
  · have HF := Lib.hid (show R = false by rw [← HR.out]; simp)
    go_wp2_with fail
    go_ret
    exact ⟨ret_bool HF.out.symm, K.out.b⟩
  obtain ⟨m1, hm1⟩ : ∃ m : Bool, m = v1 := ⟨_, rfl⟩
  have HM1 := Lib.hid hm1
  clear hm1
  obtain ⟨m2, hm2⟩ : ∃ m : Bool, m = v2 := ⟨_, rfl⟩
  have HM2 := Lib.hid hm2
  clear hm2
  obtain ⟨m3, hm3⟩ : ∃ m : Bool, m = v3 := ⟨_, rfl⟩
  have HM3 := Lib.hid hm3
  clear hm3
  cases v1 <;> cases v2 <;> cases v3
  all_goals
    first
      | (have hq : Hid (m1 = true) := HM1; clear hq)
      | (go_wp2_with (go_at_call 31; fail)
         refine (C1.out _ K.out.b).mono ?_
         rintro e w5 ⟨rfl, hb⟩
         have K_ := Lib.hid (K.out.step hb)
         clear d0 d1 d2 c0 c1 c14 c15 c16 c17 hb C1 K
         have K := Lib.hid K_.out
         clear K_
         have ⟨d0, _, d1, _, d2, _, _⟩ := K.out.v
         have c0 := (cell_of K.out.x (i := 0) rfl).1
         have c1 := (cell_of K.out.x (i := 1) rfl).1
         have c14 := (cell_of K.out.x (i := 14) rfl).1
         have c15 := (cell_of K.out.x (i := 15) rfl).1
         have c16 := (cell_of K.out.x (i := 16) rfl).1
         have c17 := (cell_of K.out.x (i := 17) rfl).1
         simp only [Sl.v, sv] at c1 c14 c15 c16 c17
         cases u1
         · have HF := Lib.hid (show R = false by rw [← HR.out]; simp)
           go_wp2_with fail
           go_ret
           exact ⟨ret_bool HF.out.symm, K.out.b⟩
         skip)
    first
      | (have hq : Hid (m2 = true) := HM2; clear hq)
      | (go_wp2_with (first | ((with_reducible refine m_loadR (st_dst K.out.x) 44 25 ?_ ?_ ?_ ?_ ?_ ?_); rfl; rfl; rfl; rfl; kernel_rfl) | (go_at_call 89; fail))
         refine (C2.out _ K.out.b).mono ?_
         rintro e w6 ⟨rfl, hb⟩
         have K_ := Lib.hid (K.out.step hb)
         clear d0 d1 d2 c0 c1 c14 c15 c16 c17 hb C2 K
         have K := Lib.hid K_.out
         clear K_
         have ⟨d0, _, d1, _, d2, _, _⟩ := K.out.v
         have c0 := (cell_of K.out.x (i := 0) rfl).1
         have c1 := (cell_of K.out.x (i := 1) rfl).1
         have c14 := (cell_of K.out.x (i := 14) rfl).1
         have c15 := (cell_of K.out.x (i := 15) rfl).1
         have c16 := (cell_of K.out.x (i := 16) rfl).1
         have c17 := (cell_of K.out.x (i := 17) rfl).1
         simp only [Sl.v, sv] at c1 c14 c15 c16 c17
         cases u2
         · have HF := Lib.hid (show R = false by rw [← HR.out]; simp)
           go_wp2_with fail
           go_ret
           exact ⟨ret_bool HF.out.symm, K.out.b⟩
         skip)
    first
      | (have hq : Hid (m3 = true) := HM3; clear hq)
      | (go_wp2_with (first | ((with_reducible refine m_loadR (st_val K.out.x) 44 35 ?_ ?_ ?_ ?_ ?_ ?_); rfl; rfl; rfl; rfl; kernel_rfl) | (go_at_call 90; fail))
         refine (C3.out _ K.out.b).mono ?_
         rintro e w7 ⟨rfl, hb⟩
         have K_ := Lib.hid (K.out.step hb)
         clear d0 d1 d2 c0 c1 c14 c15 c16 c17 hb C3 K
         have K := Lib.hid K_.out
         clear K_
         have ⟨d0, _, d1, _, d2, _, _⟩ := K.out.v
         have c0 := (cell_of K.out.x (i := 0) rfl).1
         have c1 := (cell_of K.out.x (i := 1) rfl).1
         have c14 := (cell_of K.out.x (i := 14) rfl).1
         have c15 := (cell_of K.out.x (i := 15) rfl).1
         have c16 := (cell_of K.out.x (i := 16) rfl).1
         have c17 := (cell_of K.out.x (i := 17) rfl).1
         simp only [Sl.v, sv] at c1 c14 c15 c16 c17
         cases u3
         · have HF := Lib.hid (show R = false by rw [← HR.out]; simp)
           go_wp2_with fail
           go_ret
           exact ⟨ret_bool HF.out.symm, K.out.b⟩
         skip)
    go_wp2_with (go_at_call 91; fail)
    refine (C4.out _ K.out.b).mono ?_
    rintro e w8 ⟨rfl, hb⟩
    have K_ := Lib.hid (K.out.step hb)
    clear d0 d1 d2 c0 c1 c14 c15 c16 c17 hb C4 K
    have K := Lib.hid K_.out
    clear K_
    have ⟨d0, _, d1, _, d2, _, _⟩ := K.out.v
    have c0 := (cell_of K.out.x (i := 0) rfl).1
    have c1 := (cell_of K.out.x (i := 1) rfl).1
    have c14 := (cell_of K.out.x (i := 14) rfl).1
    have c15 := (cell_of K.out.x (i := 15) rfl).1
    have c16 := (cell_of K.out.x (i := 16) rfl).1
    have c17 := (cell_of K.out.x (i := 17) rfl).1
    simp only [Sl.v, sv] at c1 c14 c15 c16 c17
    cases u4
    · have HF := Lib.hid (show R = false by rw [← HR.out]; simp)
      go_wp2_with fail
      go_ret
      exact ⟨ret_bool HF.out.symm, K.out.b⟩
    go_wp2_with (go_at_call 92; fail)
    refine (C5.out _ K.out.b).mono ?_
    rintro e w9 ⟨rfl, hb⟩
    have K_ := Lib.hid (K.out.step hb)
    clear d0 d1 d2 c0 c1 c14 c15 c16 c17 hb C5 K
    have K := Lib.hid K_.out
    clear K_
    have ⟨d0, _, d1, _, d2, _, _⟩ := K.out.v
    have c0 := (cell_of K.out.x (i := 0) rfl).1
    have c1 := (cell_of K.out.x (i := 1) rfl).1
    have c14 := (cell_of K.out.x (i := 14) rfl).1
    have c15 := (cell_of K.out.x (i := 15) rfl).1
    have c16 := (cell_of K.out.x (i := 16) rfl).1
    have c17 := (cell_of K.out.x (i := 17) rfl).1
    simp only [Sl.v, sv] at c1 c14 c15 c16 c17
    cases u5
    · have HF := Lib.hid (show R = false by rw [← HR.out]; simp)
      go_wp2_with fail
      go_ret
      exact ⟨ret_bool HF.out.symm, K.out.b⟩
    go_wp2_with (go_at_call 94; fail)
    refine (C6.out _ K.out.b).mono ?_
    rintro e w10 ⟨rfl, hb⟩
    have K_ := Lib.hid (K.out.step hb)
    clear d0 d1 d2 c0 c1 c14 c15 c16 c17 hb C6 K
    have K := Lib.hid K_.out
    clear K_
    have ⟨d0, _, d1, _, d2, _, _⟩ := K.out.v
    have c0 := (cell_of K.out.x (i := 0) rfl).1
    have c1 := (cell_of K.out.x (i := 1) rfl).1
    have c14 := (cell_of K.out.x (i := 14) rfl).1
    have c15 := (cell_of K.out.x (i := 15) rfl).1
    have c16 := (cell_of K.out.x (i := 16) rfl).1
    have c17 := (cell_of K.out.x (i := 17) rfl).1
    simp only [Sl.v, sv] at c1 c14 c15 c16 c17
    cases u6
    · have HF := Lib.hid (show R = false by rw [← HR.out]; simp)
      go_wp2_with fail
      go_ret
      exact ⟨ret_bool HF.out.symm, K.out.b⟩
    go_wp2_with (go_at_call 95; fail)
    refine (C7.out _ K.out.b).mono ?_
    rintro e w11 ⟨rfl, hb⟩
    have K_ := Lib.hid (K.out.step hb)
    clear d0 d1 d2 c0 c1 c14 c15 c16 c17 hb C7 K
    have K := Lib.hid K_.out
    clear K_
    have ⟨d0, _, d1, _, d2, _, _⟩ := K.out.v
    have c0 := (cell_of K.out.x (i := 0) rfl).1
    have c1 := (cell_of K.out.x (i := 1) rfl).1
    have c14 := (cell_of K.out.x (i := 14) rfl).1
    have c15 := (cell_of K.out.x (i := 15) rfl).1
    have c16 := (cell_of K.out.x (i := 16) rfl).1
    have c17 := (cell_of K.out.x (i := 17) rfl).1
    simp only [Sl.v, sv] at c1 c14 c15 c16 c17
    have HF := Lib.hid (show u7 = R by rw [← HR.out]; simp)
    go_wp2_with fail
    go_ret
    exact ⟨ret_bool HF.out, K.out.b⟩
theorem right_s_all : ∀ N, RiS N
  | 0 => fun _ h => absurd h (by omega)
  | N + 1 => right_s_step (right_s_all N)
/-- a block of statements -/
theorem right_sl {L : List St} (hW : wsS L ≤ big) {s : Sl} {w : World} (hM : MaxL w) (h1 : StL w w.heap.size s L) :
    Calls Tryz.prog 34 #[s.v] w fun e w' => e = .returned (.bool (stsB L)) ∧ Below w.heap.size w w' :=
  block_right (right_s_all (SizeOf.sizeOf L)) (Nat.le_refl _) hW hM h1
end Go.Proofs.YtdefgghhkknnpaaGreatDoor.sh
