/- The landed std's rows of pins: those of its inputs, of its outputs, and empty ones for its inner cells; what was in memory is as it was. Condition: the library's table of white space lies as the library lays it. -/
import Derived.Test.YtkfmblebobjgbaaDoorStKind
import Derived.Test.YtkfmblebobjgbaaDoorKZeros
namespace Go.Proofs.YtkfmblebobjgbaaDoor.sd
open Go.ChangeShapes Go.WideShapes Go.ChangeAt Go.RowKit Go.Proofs.YtkfmblebobjgbaaDoor.k Go.Proofs.YtkfmblebobjgbaaDoor.rr
set_option linter.unusedVariables false

def okSh (s : Sh) : Bool := s.ins.data.toList.all (fun b => decide (b.toNat < 128)) && (s.outs.data.toList.all (fun b => decide (b.toNat < 128)) && (decide (s.ins.size < 1000) && (decide (s.outs.size < 1000) && (decide ((Lib.fields s.ins.data.toList).length ≤ 100) && (decide ((Lib.fields s.outs.data.toList).length ≤ 100) && decide (0 ≤ s.inner ∧ s.inner ≤ 2))))))
theorem all_ok : (sh0 :: (shA ++ shM).map (·.2)).all okSh = true := by kernel_rfl
theorem shIn_mem (d : Sh) : ∀ (l : List (Int × Sh)) (n : Int), shIn d l n = d ∨ ∃ r ∈ l, shIn d l n = r.2
  | [], _ => .inl rfl
  | r :: l, n => by
    rw [shIn]
    split
    · exact .inr ⟨r, by simp, rfl⟩
    · rcases shIn_mem d l n with h | ⟨q, hq, h⟩
      · exact .inl h
      · exact .inr ⟨q, by simp [hq], h⟩
theorem shape_ok (n : Int) : okSh (shapeOf n) = true := by
  refine List.all_eq_true.1 all_ok _ ?_
  rcases shIn_mem (motionOf n) shA n with h | ⟨r, hr, h⟩
  · rcases shIn_mem sh0 shM n with h2 | ⟨q, hq, h2⟩
    · rw [show shapeOf n = sh0 from h.trans h2]; simp
    · rw [show shapeOf n = q.2 from h.trans h2]
      exact List.mem_cons_of_mem _ (List.mem_map.2 ⟨q, by simp [hq], rfl⟩)
  · rw [show shapeOf n = r.2 from h]
    exact List.mem_cons_of_mem _ (List.mem_map.2 ⟨r, by simp [hr], rfl⟩)
theorem ascii_of {s : ByteArray} (h : s.data.toList.all (fun b => decide (b.toNat < 128)) = true) : ∀ (j : Nat) b, s.data.toList[j]? = some b → b.toNat < 128 := fun j b hj => of_decide_eq_true (List.all_eq_true.1 h b (List.mem_of_getElem? hj))
def pn0 : Pn := ⟨⟨#[]⟩, 0, false⟩
def insL (n : Int) : List Pn := (Lib.fields (shapeOf n).ins.data.toList).map (pinF true)
def outsL (n : Int) : List Pn := (Lib.fields (shapeOf n).outs.data.toList).map (pinF false)
/-- the pins of a kind, as the landed std tells them -/
def pinsL (n : Int) : List Pn := insL n ++ outsL n ++ List.replicate (shapeOf n).inner.toNat pn0
theorem int_under : Tryd.prog.underlying 3 = some (.int .i64) := by kernel_rfl
set_option maxRecDepth 100000 in
set_option maxHeartbeats 8000000 in
theorem pins_row (n : Int) (w : World) (hL : Laid w) : Calls Tryd.prog 10 #[.int .i64 n] w fun e w' => ∃ v, e = .returned v ∧ Ow pC 3 47 w' w.heap.size v (pinsL n) ∧ Below w.heap.size w w' := by
  have SS := Lib.hid fun W => shape_any n W
  have ok := shape_ok n
  unfold okSh at ok
  simp only [Bool.and_eq_true, decide_eq_true_eq] at ok
  obtain ⟨a1, a2, z1, z2, l1, l2, i1, i2⟩ := ok
  have N1 := Lib.hid fun W h => named_any (shapeOf n).ins true _ rfl l1 (by omega) (ascii_of a1) W h
  have N2 := Lib.hid fun W h => named_any (shapeOf n).outs false _ rfl l2 (by omega) (ascii_of a2) W h
  have LEN : Hid ((insL n).length + (outsL n).length ≤ 20000) := Lib.hid (by unfold insL outsL; rw [List.length_map, List.length_map]; omega)
  have LEM : Hid ((insL n ++ outsL n).length + (shapeOf n).inner.toNat ≤ 10000) := Lib.hid (by have := LEN.out; unfold insL outsL at *; rw [List.length_append, List.length_map, List.length_map]; omega)
  have IN : Hid ((shapeOf n).inner = ((shapeOf n).inner.toNat : Nat)) := Lib.hid (by omega)
  have HL := Lib.hid hL
  rw [show (Lib.fields (shapeOf n).ins.data.toList).map (pinF true) = insL n from rfl] at N1
  rw [show (Lib.fields (shapeOf n).outs.data.toList).map (pinF false) = outsL n from rfl] at N2
  clear a1 a2 z1 z2 l1 l2 i1 i2 hL
  go_enter Tryd.func10, Tryd.ntmps10
  go_upto_region 2 with (go_at_call 21; (with_reducible refine (SS.out _).mono ?_); rintro e w1 ⟨rfl, hb⟩; have B1 := Lib.hid hb; have L1 := Lib.hid (HL.out.below hb); clear hb)
  have x := Box.new w1 #[.string (shapeOf n).name, .string (shapeOf n).ins, .string (shapeOf n).outs, .int .i64 (shapeOf n).inner] 37
  have hbn := (Below.refl w1.heap.size w1).alloc (Nat.le_refl _) (.cells #[.string (shapeOf n).name, .string (shapeOf n).ins, .string (shapeOf n).outs, .int .i64 (shapeOf n).inner] 37)
  have hlt : w1.heap.size < (w1.alloc (.cells #[.string (shapeOf n).name, .string (shapeOf n).ins, .string (shapeOf n).outs, .int .i64 (shapeOf n).inner] 37)).heap.size := by simp
  obtain ⟨w2, hw2⟩ : ∃ W, w1.alloc (.cells #[.string (shapeOf n).name, .string (shapeOf n).ins, .string (shapeOf n).outs, .int .i64 (shapeOf n).inner] 37) = W := ⟨_, rfl⟩
  rw [hw2] at x hlt hbn ⊢
  have L2 : Hid (Laid w2.drew) := Lib.hid (L1.out.below hbn.drew)
  have B2 := Lib.hid (B1.out.trans (hbn.mono B1.out.size))
  obtain ⟨_, _, c1, _, c2, _, c3, _, _⟩ := x
  clear hbn hw2 SS
  refine wp_region_T (by kernel_rfl) (fun w' => World.cell? w' ⟨w1.heap.size, 1, none⟩ = some (.string (shapeOf n).ins) ∧ World.cell? w' ⟨w1.heap.size, 2, none⟩ = some (.string (shapeOf n).outs)) [] ⟨c1, c2⟩ (fun hHeld => ?_)
  refine wpAnyT_take (i := 0) (v := ?_) rfl (by kernel_rfl) (by kernel_rfl) (by kernel_rfl) (fun _ _ _ h => h) (Or.inl ⟨by rfl, ?_⟩) (by assumption) ?_
  rotate_left 1
  · intro w hSw; clear hSw; go_simp <;> (with_reducible rfl)
  try simp only [Act.put, List.setIfInBounds_toArray, List.set_cons_zero, List.set_cons_succ, List.getElem_toArray, List.getElem_cons_zero]
  refine wpAnyT_take (i := 1) (v := ?_) rfl (by kernel_rfl) (by kernel_rfl) (by kernel_rfl) (fun _ _ _ h => h) (Or.inl ⟨by rfl, ?_⟩) (by assumption) ?_
  rotate_left 1
  · intro w hSw; obtain ⟨hs1, hs2⟩ := hSw; go_simp <;> (with_reducible rfl)
  try simp only [Act.put, List.setIfInBounds_toArray, List.set_cons_zero, List.set_cons_succ, List.getElem_toArray, List.getElem_cons_succ, List.getElem_cons_zero]
  refine wpAnyT_take (i := 3) (v := ?_) rfl (by kernel_rfl) (by kernel_rfl) (by kernel_rfl) (fun _ _ _ h => h) (Or.inl ⟨by rfl, ?_⟩) (by assumption) ?_
  rotate_left 1
  · intro w hSw; clear hSw; go_simp <;> (with_reducible rfl)
  try simp only [Act.put, List.setIfInBounds_toArray, List.set_cons_zero, List.set_cons_succ, List.getElem_toArray, List.getElem_cons_succ, List.getElem_cons_zero]
  refine wpAnyT_take (i := 4) (v := ?_) rfl (by kernel_rfl) (by kernel_rfl) (by kernel_rfl) (fun _ _ _ h => h) (Or.inl ⟨by rfl, ?_⟩) (by assumption) ?_
  rotate_left 1
  · intro w hSw; obtain ⟨hs1, hs2⟩ := hSw; go_simp <;> (with_reducible rfl)
  try simp only [Act.put, List.setIfInBounds_toArray, List.set_cons_zero, List.set_cons_succ, List.getElem_toArray, List.getElem_cons_succ, List.getElem_cons_zero]
  refine wpAnyT_ready (rs := [2]) (by kernel_rfl) (by simp) ?_
  refine AllReadyT.cons rfl (fun K hK => ?_) AllReadyT.nil
  go_simp
  (go_at_call 22; ((refine (N1.out _ L2.out).mono ?_); rintro e w3 ⟨v3, rfl, ho, hb0⟩))
  have hb : Below w2.heap.size w2 w3 := ((Below.refl _ _).drew).trans hb0
  have O3 := Lib.hid ho
  have B3 := Lib.hid hb
  have L3 : Hid (Laid w3) := Lib.hid (L2.out.below hb0)
  have d1 := (hb.cell (p := ⟨w1.heap.size, 1, none⟩) hlt).trans c1
  have d2 := (hb.cell (p := ⟨w1.heap.size, 2, none⟩) hlt).trans c2
  have d3 := (hb.cell (p := ⟨w1.heap.size, 3, none⟩) hlt).trans c3
  clear hb hb0 ho
  go_wp2_with fail
  refine hK.out _ _ ⟨d1, d2⟩ (fun hHeld => ?_)
  clear hK K
  try simp only [Act.put, List.setIfInBounds_toArray, List.set_cons_zero, List.set_cons_succ, List.getElem_toArray, List.getElem_cons_succ, List.getElem_cons_zero]
  refine wpAnyT_ready (rs := [5]) (by kernel_rfl) (by simp) ?_
  refine AllReadyT.cons rfl (fun K hK => ?_) AllReadyT.nil
  go_simp
  (go_at_call 22; ((refine (N2.out _ L3.out).mono ?_); rintro e w4 ⟨v4, rfl, ho, hb⟩))
  have O4 := Lib.hid ho
  have P4 := Lib.hid (O3.out.under hb)
  have B4 := Lib.hid (B3.out.trans (hb.mono B3.out.size))
  have f1 := (hb.cell (p := ⟨w1.heap.size, 1, none⟩) (Nat.lt_of_lt_of_le hlt B3.out.size)).trans d1
  have f2 := (hb.cell (p := ⟨w1.heap.size, 2, none⟩) (Nat.lt_of_lt_of_le hlt B3.out.size)).trans d2
  have f3 := (hb.cell (p := ⟨w1.heap.size, 3, none⟩) (Nat.lt_of_lt_of_le hlt B3.out.size)).trans d3
  clear hb ho d1 d2 d3
  go_wp2_with fail
  refine hK.out _ _ ⟨f1, f2⟩ (fun hHeld => ?_)
  clear hK K
  try simp only [Act.put, List.setIfInBounds_toArray, List.set_cons_zero, List.set_cons_succ, List.getElem_toArray, List.getElem_cons_succ, List.getElem_cons_zero]
  obtain ⟨A4, c4, e4, hr4⟩ := O4.out.form pC_len
  subst e4
  have R4 := Lib.hid hr4
  clear hr4
  refine wpAnyT_ready (rs := [6]) (by kernel_rfl) (by simp) ?_
  refine AllReadyT.cons rfl (fun K hK => ?_) AllReadyT.nil
  refine step_append_row pC_len (by omega) pC_one pins_slice pin_info rfl (by omega) w4 rfl (.tmp 9) (.tmp 12) rfl w2.heap.size v3 (insL n) rfl P4.out w4.heap.size A4 _ c4 (outsL n) rfl R4.out LEN.out B4.out.size ?_
  intro v5 w5 hown hg hat
  have O5 := Lib.hid hown
  have B5 := Lib.hid (P4.out.lays B4.out (Nat.le_refl _) (Nat.le_refl _) hg)
  have g1 := (B5.out.cell (p := ⟨w1.heap.size, 1, none⟩) hlt).trans c1
  have g2 := (B5.out.cell (p := ⟨w1.heap.size, 2, none⟩) hlt).trans c2
  have g3 := (B5.out.cell (p := ⟨w1.heap.size, 3, none⟩) hlt).trans c3
  clear hown hg hat
  refine hK.out _ _ ⟨g1, g2⟩ (fun hHeld => ?_)
  clear hK K
  try simp only [Act.put, List.setIfInBounds_toArray, List.set_cons_zero, List.set_cons_succ, List.getElem_toArray, List.getElem_cons_succ, List.getElem_cons_zero]
  refine wpAnyT_take (i := 7) (v := ?_) rfl (by kernel_rfl) (by kernel_rfl) (by kernel_rfl) (fun _ _ _ h => h) (Or.inl ⟨by rfl, ?_⟩) (by assumption) ?_
  rotate_left 1
  · intro w hSw; clear hSw; go_simp <;> (with_reducible rfl)
  try simp only [Act.put, List.setIfInBounds_toArray, List.set_cons_zero, List.set_cons_succ, List.getElem_toArray, List.getElem_cons_succ, List.getElem_cons_zero]
  refine wpAnyT_done (by kernel_rfl) ?_ _
  clear f1 f2 f3 g1 g2 hHeld
  have hz : 0 ≤ (shapeOf n).inner := by have := IN.out; omega
  go_wp2_with (at_builtin; refine wpList_append_zeros pC_len (by omega) pC_one pins_slice int_under pin_info rfl (by omega) pn0 rfl _ rfl (.tmp 14) (.tmp 16) rfl w2.heap.size _ _ rfl O5.out _ _ IN.out rfl LEM.out B5.out.size ?_; intro v6 w6 hown hg; have O6 := Lib.hid hown; have B6 := Lib.hid (O5.out.lays B5.out (Nat.le_refl _) (Nat.le_refl _) hg); clear hown hg)
  go_ret
  exact ⟨_, rfl, O6.out.base B2.out.size, B2.out.trans (B6.out.mono B2.out.size)⟩
end Go.Proofs.YtkfmblebobjgbaaDoor.sd
