/- The landed parser's deferred function: what it makes of a panic. No condition but what each line says. -/
import Derived.Test.YtbcpkhegmbdifaaGreatU23
import Derived.Test.YtbcpkhegmbdifaaGreatU06
import Derived.Defers
import Derived.Recover
import Derived.Test.YtbcpkhegmbdifaaGreatU07
namespace Go.Proofs.YtbcpkhegmbdifaaGreat.tr
open Go.ChangeShapes Go.WideShapes Go.ChangeAt Go.RowKit Go.Proofs.YtbcpkhegmbdifaaGreat.k Go.Proofs.YtbcpkhegmbdifaaGreat.rr Go.Proofs.YtbcpkhegmbdifaaGreat.tk
set_option linter.unusedVariables false
set_option linter.unusedSimpArgs false

/-- a misfit's cells -/
def mC (n : Int) (t : Tk) : List Value := [.int .i64 n, .int .i64 0, .string ⟨#[]⟩, .int .i64 0, .int .i64 t.line, .int .i64 t.col]
theorem ta_yes (n : Int) (l c : Nat) (w : World) : (Instr.typeAssert (.iface 49 (.agg #[.int .i64 n, .int .i64 0, .string ⟨#[]⟩, .int .i64 0, .int .i64 l, .int .i64 c])) 20 49 true).run Tryz.prog w = .ok (.tuple #[.agg #[.int .i64 n, .int .i64 0, .string ⟨#[]⟩, .int .i64 0, .int .i64 l, .int .i64 c], .bool true]) w := by kernel_rfl
theorem ta_no (w : World) : (Instr.typeAssert .nilIface 20 49 true).run Tryz.prog w = .ok (.tuple #[.agg #[.int .i64 0, .int .i64 0, .string ⟨#[]⟩, .int .i64 0, .int .i64 0, .int .i64 0], .bool false]) w := by kernel_rfl
theorem bd_none (w : World) : (Instr.build 26 #[]).run Tryz.prog w = .ok (.agg (gC ⟨[], ⟨none, 0, 0⟩, ⟨none, 0, 0⟩⟩).toArray) w := by kernel_rfl
set_option maxRecDepth 100000 in
set_option maxHeartbeats 4000000 in
theorem catch_any (n : Int) (t : Tk) {g2 g3 g4 : Nat} {v2 v3 v4 : List Value} {w : World} (h2 : Box w g2 0 v2) (h3 : Box w g3 0 v3) (h4 : Box w g4 0 v4) (l2 : v2.length = 3) (l3 : v3.length = 1) (l4 : v4.length = 5) (h23 : g2 ≠ g3) (h24 : g2 ≠ g4) (h34 : g3 ≠ g4) {B : Nat} (b2 : B ≤ g2) (b3 : B ≤ g3) (b4 : B ≤ g4) :
    CallsD Tryz.prog 9 #[.pointer (some ⟨g2, 0, none⟩), .pointer (some ⟨g3, 0, none⟩), .pointer (some ⟨g4, 0, none⟩)] (.panicking [{ v := mis n t, recovered := false }]) w fun e u' w' =>
      e = .returned (.tuple #[]) ∧ u' = .panicking [{ v := mis n t, recovered := true }] ∧ Box w' g2 0 (gC ⟨[], ⟨none, 0, 0⟩, ⟨none, 0, 0⟩⟩) ∧ Box w' g3 0 [.int .i64 n] ∧ Box w' g4 0 (tC ⟨0, [], 0, t.line, t.col⟩) ∧ Below B w w' := by
  refine callsD_of_wpS Tryz.func9 rfl fun c₀ cs hu => ?_
  apply wpS_seq
  apply wpS_region
  simp [wpOpsS, go_sem, recoverD, hu, Tryz.ntmps9, Exit.thenS]
  refine wpS_of_wp ?_
  obtain ⟨M, hM⟩ : ∃ M, mis n t = M := ⟨_, rfl⟩
  rw [hM]
  have ht : (#[Value.pointer (some ⟨g2, 0, none⟩), .pointer (some ⟨g3, 0, none⟩), .pointer (some ⟨g4, 0, none⟩)] ++ ((Array.replicate 18 undef).setIfInBounds 3 M).setIfInBounds 0 M) = #[Value.pointer (some ⟨g2, 0, none⟩), .pointer (some ⟨g3, 0, none⟩), .pointer (some ⟨g4, 0, none⟩), M, undef, undef, M, undef, undef, undef, undef, undef, undef, undef, undef, undef, undef, undef, undef, undef, undef] := rfl
  rw [ht]
  clear ht
  have X2 := Lib.hid h2
  have X3 := Lib.hid h3
  have X4 := Lib.hid h4
  have q2 := lt_of_cell (show w.cell? ⟨g2, 0, none⟩ = some (v2[0]'(by omega)) by cases v2 with | nil => simp at l2 | cons a b => exact h2.1)
  have q3 := lt_of_cell (show w.cell? ⟨g3, 0, none⟩ = some (v3[0]'(by omega)) by cases v3 with | nil => simp at l3 | cons a b => exact h3.1)
  have q4 := lt_of_cell (show w.cell? ⟨g4, 0, none⟩ = some (v4[0]'(by omega)) by cases v4 with | nil => simp at l4 | cons a b => exact h4.1)
  clear h2 h3 h4
  unfold mis at hM
  subst hM
  have ta := ta_yes n t.line t.col
  go_upto_region 3 with (fail)
  have hb := (Below.refl w.heap.size w).alloc (Nat.le_refl _) (.cells #[.int .i64 n, .int .i64 0, .string ⟨#[]⟩, .int .i64 0, .int .i64 t.line, .int .i64 t.col] 49)
  have hx := Box.new w #[.int .i64 n, .int .i64 0, .string ⟨#[]⟩, .int .i64 0, .int .i64 t.line, .int .i64 t.col] 49
  have hz : (w.alloc (.cells #[.int .i64 n, .int .i64 0, .string ⟨#[]⟩, .int .i64 0, .int .i64 t.line, .int .i64 t.col] 49)).heap.size = w.heap.size + 1 := by simp
  generalize w.alloc (.cells #[.int .i64 n, .int .i64 0, .string ⟨#[]⟩, .int .i64 0, .int .i64 t.line, .int .i64 t.col] 49) = w1 at *
  have Y2 := Lib.hid (X2.out.below hb q2)
  have Y3 := Lib.hid (X3.out.below hb q3)
  have Y4 := Lib.hid (X4.out.below hb q4)
  have G1 := Lib.hid (hb.mono (show B ≤ w.heap.size by omega))
  have hx : Box w1 w.heap.size 0 (mC n t) := hx
  have X5 := Lib.hid hx
  clear hb hx X2 X3 X4
  refine wp_region_T (by kernel_rfl) (fun w' => Box w' w.heap.size 0 (mC n t)) [] (box_drew X5.out) (fun hHeld => ?_)
  have hb := (Below.refl w1.heap.size w1).drew
  have hd : w1.drew.heap.size = w1.heap.size := rfl
  generalize w1.drew = w2 at *
  have X2 := Lib.hid (Y2.out.below hb (by omega))
  have X3 := Lib.hid (Y3.out.below hb (by omega))
  have X4 := Lib.hid (Y4.out.below hb (by omega))
  have G2 := Lib.hid (G1.out.trans (hb.mono (show B ≤ w1.heap.size by omega)))
  clear Y2 Y3 Y4 G1 hb
  refine wpAnyT_take (i := 0) (v := .agg (gC ⟨[], ⟨none, 0, 0⟩, ⟨none, 0, 0⟩⟩).toArray) rfl (by kernel_rfl) (by kernel_rfl) (by kernel_rfl) (fun _ _ _ h => h) (Or.inl ⟨by rfl, ?_⟩) (by assumption) ?_
  · intro w_ hSw; clear hSw; kernel_rfl
  try simp only [Act.put, List.setIfInBounds_toArray, List.set_cons_zero, List.set_cons_succ, List.getElem_toArray, List.getElem_cons_succ, List.getElem_cons_zero]
  refine wpAnyT_take (i := 1) (v := ?_) rfl (by kernel_rfl) (by kernel_rfl) (by kernel_rfl) (fun _ _ _ h => h) (Or.inl ⟨by rfl, ?_⟩) (by assumption) ?_
  rotate_left 1
  · intro w_ hSw; clear hSw; go_simp <;> (with_reducible rfl)
  try simp only [Act.put, List.setIfInBounds_toArray, List.set_cons_zero, List.set_cons_succ, List.getElem_toArray, List.getElem_cons_succ, List.getElem_cons_zero]
  refine wpAnyT_take (i := 2) (v := .int .i64 n) rfl (by kernel_rfl) (by kernel_rfl) (by kernel_rfl) (fun _ _ _ h => h) (Or.inl ⟨by rfl, ?_⟩) (by assumption) ?_
  · intro w_ hSw; have hc := hSw.1; clear hSw; go_simp
  try simp only [Act.put, List.setIfInBounds_toArray, List.set_cons_zero, List.set_cons_succ, List.getElem_toArray, List.getElem_cons_succ, List.getElem_cons_zero]
  refine wpAnyT_take (i := 3) (v := ?_) rfl (by kernel_rfl) (by kernel_rfl) (by kernel_rfl) (fun _ _ _ h => h) (Or.inl ⟨by rfl, ?_⟩) (by assumption) ?_
  rotate_left 1
  · intro w_ hSw; clear hSw; go_simp <;> (with_reducible rfl)
  try simp only [Act.put, List.setIfInBounds_toArray, List.set_cons_zero, List.set_cons_succ, List.getElem_toArray, List.getElem_cons_succ, List.getElem_cons_zero]
  refine wpAnyT_take (i := 4) (v := .agg (tC ⟨0, [], 0, t.line, t.col⟩).toArray) rfl (by kernel_rfl) (by kernel_rfl) (by kernel_rfl) (fun _ _ _ h => h) (yieldsIf_load_mid (by rfl) 29 (.tmp 16) rfl w.heap.size 1 rfl (tC ⟨0, [], 0, t.line, t.col⟩) _ (fun w_ hw_ => Box.range (o := 1) hw_.2.2) rfl rfl (by kernel_rfl)) (by assumption) ?_
  try simp only [Act.put, List.setIfInBounds_toArray, List.set_cons_zero, List.set_cons_succ, List.getElem_toArray, List.getElem_cons_succ, List.getElem_cons_zero]
  refine wpAnyT_ready (rs := [5]) (by kernel_rfl) (by simp) ?_
  refine AllReadyT.cons rfl (fun K hK => ?_) AllReadyT.nil
  refine t_store X2.out 26 0 13 rfl rfl rfl (gC ⟨[], ⟨none, 0, 0⟩, ⟨none, 0, 0⟩⟩) rfl rfl l2.symm (by kernel_rfl) (gC_one _) ?_
  intro w3 hx hg hs
  have Y3 := Lib.hid (gr_box hg (by omega) (by omega) X3.out)
  have Y4 := Lib.hid (gr_box hg (by omega) (by omega) X4.out)
  have Y2 := Lib.hid hx
  have Y5 := Lib.hid (gr_box (vs := mC n t) hg (by have := hHeld.1; omega) (by omega) hHeld)
  have G3 := Lib.hid (G2.out.trans (gr_below hg b2 (by have := G2.out.size; omega)))
  clear hx hg G2 X2 X3 X4 hHeld
  refine hK.out _ _ Y5.out (fun hHeld => ?_)
  clear hK K
  try simp only [Act.put, List.setIfInBounds_toArray, List.set_cons_zero, List.set_cons_succ, List.getElem_toArray, List.getElem_cons_succ, List.getElem_cons_zero]
  refine wpAnyT_ready (rs := [6]) (by kernel_rfl) (by simp) ?_
  refine AllReadyT.cons rfl (fun K hK => ?_) AllReadyT.nil
  refine t_set1 Y3.out (show 0 < _ by omega) 27 1 15 rfl rfl rfl (.int .i64 n) rfl rfl rfl (by kernel_rfl) ?_
  intro w4 hx hg hs4
  have X2 := Lib.hid (gr_box hg (by omega) (by omega) Y2.out)
  have X4 := Lib.hid (gr_box hg (by omega) (by omega) Y4.out)
  have X5 := Lib.hid (gr_box (vs := mC n t) hg (by have := hHeld.1; omega) (by omega) hHeld)
  have e3 : v3.set 0 (.int .i64 n) = [.int .i64 n] := by
    match v3, l3 with
    | [a], _ => rfl
  rw [e3] at hx
  have X3 := Lib.hid hx
  have G4 := Lib.hid (G3.out.trans (gr_below hg b3 (by have := G3.out.size; omega)))
  clear hx hg G3 Y2 Y3 Y4 Y5 hHeld e3
  refine hK.out _ _ X5.out (fun hHeld => ?_)
  clear hK K
  try simp only [Act.put, List.setIfInBounds_toArray, List.set_cons_zero, List.set_cons_succ, List.getElem_toArray, List.getElem_cons_succ, List.getElem_cons_zero]
  refine wpAnyT_ready (rs := [7]) (by kernel_rfl) (by simp) ?_
  refine AllReadyT.cons rfl (fun K hK => ?_) AllReadyT.nil
  refine t_store X4.out 29 2 17 rfl rfl rfl (tC ⟨0, [], 0, t.line, t.col⟩) rfl rfl l4.symm (by kernel_rfl) (tC_one _) ?_
  intro w5 hx hg hs5
  have Y2 := Lib.hid (gr_box hg (by omega) (by omega) X2.out)
  have Y3 := Lib.hid (gr_box hg (by omega) (by omega) X3.out)
  have Y5 := Lib.hid (gr_box (vs := mC n t) hg (by have := hHeld.1; omega) (by omega) hHeld)
  have Y4 := Lib.hid hx
  have G5 := Lib.hid (G4.out.trans (gr_below hg b4 (by have := G4.out.size; omega)))
  clear hx hg G4 X2 X3 X4 X5 hHeld
  refine hK.out _ _ Y5.out (fun hHeld => ?_)
  clear hK K
  try simp only [Act.put, List.setIfInBounds_toArray, List.set_cons_zero, List.set_cons_succ, List.getElem_toArray, List.getElem_cons_succ, List.getElem_cons_zero]
  refine wpAnyT_done (by kernel_rfl) ?_ _
  go_wp2
  exact ⟨rfl, _, rfl, _, by simp [results, Tryz.results9], rfl, rfl, Y2.out, Y3.out, Y4.out, G5.out⟩
set_option maxRecDepth 100000 in
set_option maxHeartbeats 4000000 in
theorem catch_idle (a b c : Value) (w : World) :
    CallsD Tryz.prog 9 #[a, b, c] .returning w fun e u' w' => e = .returned (.tuple #[]) ∧ u' = .returning ∧ Below w.heap.size w w' := by
  refine callsD_of_wpS Tryz.func9 rfl fun c₀ cs hu => ?_
  apply wpS_seq
  apply wpS_region
  simp [wpOpsS, go_sem, recoverD, hu, Tryz.ntmps9, Exit.thenS]
  refine wpS_of_wp ?_
  have ht : (#[a, b, c] ++ ((Array.replicate 18 undef).setIfInBounds 3 Value.nilIface).setIfInBounds 0 Value.nilIface) = #[a, b, c, .nilIface, undef, undef, .nilIface, undef, undef, undef, undef, undef, undef, undef, undef, undef, undef, undef, undef, undef, undef] := rfl
  rw [ht]
  clear ht
  have ta := ta_no
  go_wp2
  exact ⟨rfl, .returning, by cases c₀; simp_all, _, by simp [results, Tryz.results9], rfl, rfl, (Below.refl _ _).alloc (Nat.le_refl _) _⟩
end Go.Proofs.YtbcpkhegmbdifaaGreat.tr
/- The landed parser over texts. Conditions: at most 5000 bytes; the longest string's length stays booked. -/
namespace Go.Proofs.YtbcpkhegmbdifaaGreat.tr
open Go.ChangeShapes Go.WideShapes Go.ChangeAt Go.RowKit Go.Proofs.YtbcpkhegmbdifaaGreat.k Go.Proofs.YtbcpkhegmbdifaaGreat.rr Go.Proofs.YtbcpkhegmbdifaaGreat.tk
set_option linter.unusedVariables false
set_option linter.unusedSimpArgs false

/-- what a call gives: the program, the error, its place -/
def GotG (s : ByteArray) (w : World) (e : Ending) (w' : World) : Prop :=
  ∃ h : GH, e = .returned (.tuple #[.agg (gC h).toArray, .int .i64 (parse s.data.toList).2.1, .agg (tC (parse s.data.toList).2.2).toArray]) ∧ PgAt w' w'.heap.size (parse s.data.toList).1 h ∧ Below w.heap.size w w'
theorem three_new (w : World) (c1 c2 c3 : Array Value) (t1 t2 t3 : TypeId) : ∃ W, ((w.alloc (.cells c1 t1)).alloc (.cells c2 t2)).alloc (.cells c3 t3) = W ∧ Box W w.heap.size 0 c1.toList ∧ Box W (w.heap.size + 1) 0 c2.toList ∧ Box W (w.heap.size + 1 + 1) 0 c3.toList ∧ Below w.heap.size w W ∧ W.heap.size = w.heap.size + 1 + 1 + 1 := by
  have z1 : (w.alloc (.cells c1 t1)).heap.size = w.heap.size + 1 := by simp
  have z2 : ((w.alloc (.cells c1 t1)).alloc (.cells c2 t2)).heap.size = w.heap.size + 1 + 1 := by simp
  have b1 := (Below.refl w.heap.size w).alloc (Nat.le_refl _) (.cells c1 t1)
  have b2 := (Below.refl (w.alloc (.cells c1 t1)).heap.size _).alloc (Nat.le_refl _) (.cells c2 t2)
  have b3 := (Below.refl ((w.alloc (.cells c1 t1)).alloc (.cells c2 t2)).heap.size _).alloc (Nat.le_refl _) (.cells c3 t3)
  have x1 := Box.new w c1 t1
  have x2 := Box.new (w.alloc (.cells c1 t1)) c2 t2
  have x3 := Box.new ((w.alloc (.cells c1 t1)).alloc (.cells c2 t2)) c3 t3
  rw [z1] at b2 x2
  rw [z2] at b3 x3
  exact ⟨_, rfl, (x1.below b2 (by omega)).below b3 (by omega), x2.below b3 (by omega), x3, (b1.trans (b2.mono (by omega))).trans (b3.mono (by omega)), by simp⟩
section
variable {P : Program} {ops : Array Oper} {rest : List Oper} {op : Oper} {a : Act} {w : World} {Q : Exit → Act → World → Prop}
/-- a value of one cell goes into a variable of one cell -/
theorem m_set1 {g : Nat} {vs : List Value} (hb : k.Box w g 0 vs) (T t : Nat) (u : Operand) (ho : op.op = .store T (.tmp t) u) (hg : op.guard = none) (hd : op.dst = none) (v : Value) (hx : a.eval (.tmp t) = .pointer (some ⟨g, 0, none⟩)) (hy : a.eval u = v) (hl : vs.length = 1) (h1 : v.oneCell' = true) (hi : (P.info? T).map (·.size) = some 1)
    (h : ∀ w', k.Box w' g 0 [v] → w.grownBy w' (some g) → w'.heap.size = w.heap.size → wpList P ops Q rest a w') : wpList P ops Q (op :: rest) a w := by
  have hc : v.cells = #[v] := by cases v <;> first | rfl | cases h1
  obtain ⟨u0, rfl⟩ : ∃ u0, vs = [u0] := by
    match vs, hl with
    | [u0], _ => exact ⟨u0, rfl⟩
  have hst : (storeVar T ⟨g, 0, none⟩ v).run P w = .ok () (w.setCells g 0 [v]) := by
    have hrun := run_storeCells_cells (P := P) g 0 [v] 0 w (fun i hi' => by
      have : i = 0 := by simpa using hi'
      subst this
      show (w.cell? ⟨g, 0, none⟩).isSome = true
      rw [hb.1]; rfl) (fun i hi' => by
      have : i = 0 := by simpa using hi'
      subst this
      exact hb.2.1) (fun x hx' => by
      simp only [List.mem_cons, List.not_mem_nil, or_false] at hx'
      subst hx'
      exact h1)
    simp only [Nat.add_zero] at hrun
    cases hq : P.info? T with
    | none => simp [hq] at hi
    | some i =>
      have hs : i.size = 1 := by simpa [hq] using hi
      simp [storeVar, sizeOf, typeInfo, hq, hc, hs, hrun]
  refine wpList_plain hg fun K hK => ?_
  unfold Oper.wp execOp
  simp only [ho, hx, hy, Instr.storeAt, Instr.sureAddr, Sem.run_bind, Sem.run_pure, Result.andThen_ok, hst]
  have hput : a.put op.dst undef = a := by rw [hd]; rfl
  refine hK _ _ ?_
  rw [hput]
  exact h _ (Box.put hb 0 (by simp) v) (gr_set w g 0 v) (set_size _ _ _)
end
/-- no panic is left -/
def NoP (Q : Exit → Act → World → Prop) : Exit → Act → World → Prop
  | .panic _, _, _ => False
  | e, a, w => Q e a w
section
variable {P : Program} {ops : Array Oper} {a : Act} {w : World} {Q : Exit → Act → World → Prop} {T : World → Prop} {sp : List Nat}
theorem region_np {c : Code} (h : c.wp P (NoP Q) a w) : c.wp P Q a w := wp_mono h fun e _ _ hq => by
  cases e <;> first | exact hq | exact hq.elim
theorem doneT_np {listed : Array Bool} {md : Region.Mode} (hr : Region.ready md ops listed = []) (h : Q .normal a w) (fuel : Nat) : wpAnyT P md ops (NoP Q) T sp fuel listed a w := wpAnyT_done (Q := NoP Q) hr h fuel
/-- three results in variables -/
theorem results_ccc {fn : Func} {t u c : Tmp} {T U V : TypeId} (h : fn.results = #[.cell t T, .cell u U, .cell c V]) {tmps : Array Value} {w : World} {b b2 b3 : Nat} {v v2 v3 : Value} (ht : tmps.getD t undef = .pointer (some ⟨b, 0, none⟩)) (hu : tmps.getD u undef = .pointer (some ⟨b2, 0, none⟩)) (hc : tmps.getD c undef = .pointer (some ⟨b3, 0, none⟩))
    (hl : (loadVar T ⟨b, 0, none⟩).run P w = .ok v w) (hl2 : (loadVar U ⟨b2, 0, none⟩).run P w = .ok v2 w) (hl3 : (loadVar V ⟨b3, 0, none⟩).run P w = .ok v3 w) : (results fn tmps).run P w = .ok (.tuple #[v, v2, v3]) w := by
  have ha : ∀ b, (asAddr (.pointer (some ⟨b, 0, none⟩)) : Sem Addr) = pure ⟨b, 0, none⟩ := fun _ => rfl
  have h1 : tmps[t]?.getD undef = .pointer (some ⟨b, 0, none⟩) := by rw [← ht]; simp
  have h2 : tmps[u]?.getD undef = .pointer (some ⟨b2, 0, none⟩) := by rw [← hu]; simp
  have h3 : tmps[c]?.getD undef = .pointer (some ⟨b3, 0, none⟩) := by rw [← hc]; simp
  rw [results, h]
  simp [h1, h2, h3, ha, hl, hl2, hl3]
end
theorem pgAt_none (w : World) (B : Nat) : PgAt w B zeroG ⟨[], ⟨none, 0, 0⟩, ⟨none, 0, 0⟩⟩ := ⟨rfl, Rd.none_ _ _ _ _, [], Rd.none_ _ _ _ _, by simp [StsAt, zeroG]⟩
theorem rd_rb {α : Type} {enc : α → List Value} {z : Nat} {w : World} {B n c lo : Nat} {A : Option Addr} {L : List α} (h : Rd enc z w B A n c L) (hq : ∀ q, (Value.slice A n c).ownBlock = some q → lo ≤ q) : RB enc z w (Nw lo B) ⟨A, n, c⟩ L := by
  refine ⟨h.1, h.2.1, h.2.2.1, h.2.2.2.1, fun hn => ?_⟩
  obtain ⟨b, off, e, hb, hc⟩ := h.2.2.2.2 hn
  subst e
  exact ⟨b, off, rfl, ⟨hq b rfl, hb⟩, hc⟩
theorem rc_one (A : Option Addr) (n c : Nat) : ∀ u ∈ [Value.slice A n c, .slice none 0 0, .int .i64 0], u.oneCell' = true := by
  intro u hu
  simp only [List.mem_cons, List.not_mem_nil, or_false] at hu
  rcases hu with rfl | rfl | rfl <;> rfl
theorem bd_tok (w : World) : (Instr.build 29 #[]).run Tryz.prog w = .ok (.agg (tC zeroT).toArray) w := by kernel_rfl
theorem parse_no {s : Str} (h : (lex s).1 ≠ 0) : parse s = (zeroG, (lex s).1, (lex s).2.2) := by
  unfold parse
  rw [if_neg h]
theorem parse_yes {s : Str} (h : (lex s).1 = 0) {p : Pg} {r : Sg} (hp : progP (20 * (lex s).2.1.length + 20) (lex s).2.1 = .ok p r) : parse s = (p, 0, zeroT) := by
  unfold parse
  rw [if_pos h, hp]
theorem parse_mis {s : Str} (h : (lex s).1 = 0) {n : Int} {t : Tk} (hp : progP (20 * (lex s).2.1.length + 20) (lex s).2.1 = .bad n t) : parse s = (zeroG, n, ⟨0, [], 0, t.line, t.col⟩) := by
  unfold parse
  rw [if_pos h, hp]
set_option maxRecDepth 100000 in
set_option maxHeartbeats 4000000 in
theorem parse_any (s : ByteArray) (hs : s.size ≤ 5000) (w : World) (hM : MaxL w) : Calls Tryz.prog 5 #[.string s] w (GotG s w) := by
  obtain ⟨R, hR⟩ : ∃ R, parse s.data.toList = R := ⟨_, rfl⟩
  have HR := Lib.hid hR
  have GOT := Lib.hid (show ∀ e w', (∃ h : GH, e = .returned (.tuple #[.agg (gC h).toArray, .int .i64 R.2.1, .agg (tC R.2.2).toArray]) ∧ PgAt w' w'.heap.size R.1 h ∧ Below w.heap.size w w') → GotG s w e w' from fun e w' h => by subst hR; exact h)
  generalize hGG : GotG s w = GG at *
  clear hGG hR
  have hmf : ∀ (fn : Fn) (first cap : Array Value) (w : World), (Instr.makeFunc fn first cap).run Tryz.prog w = .ok (.func fn first cap) w := fun _ _ _ _ => rfl
  go_enter_defers Tryz.func5, Tryz.ntmps5
  go_upto_region 1 with (fail)
  obtain ⟨w1, e1, x2, x3, x4, b1, z1⟩ := three_new w #[.string ⟨#[]⟩, .slice none 0 0, .slice none 0 0] #[.int .i64 0] #[.int .i64 0, .string ⟨#[]⟩, .int .i64 0, .int .i64 0, .int .i64 0] 26 27 29
  rw [e1]
  clear e1
  have M1 := Lib.hid (hM.below b1)
  have X2 := Lib.hid x2
  have X3 := Lib.hid x3
  have X4 := Lib.hid x4
  have G1 := Lib.hid b1
  have Z1 := Lib.hid z1
  clear x2 x3 x4 b1 z1 hM
  go_wp2_with (go_at_call 8; fail)
  refine (lex_any s (by omega) w1 M1.out).mono ?_
  rintro e w2 ⟨A, n, c, rfl, hrd, hb, hnq⟩
  have HRD := Lib.hid (rd_rb hrd hnq)
  have HN := Lib.hid hrd.1
  clear hrd hnq
  have Y2 := Lib.hid (X2.out.below hb (by have := Z1.out; omega))
  have Y3 := Lib.hid (X3.out.below hb (by have := Z1.out; omega))
  have Y4 := Lib.hid (X4.out.below hb (by have := Z1.out; omega))
  have G2 := Lib.hid (G1.out.trans (hb.mono (by have := Z1.out; omega)))
  have Z2 := Lib.hid (show w.heap.size + 1 + 1 + 1 ≤ w2.heap.size by have := Z1.out; have := hb.size; omega)
  have ZR := Lib.hid Z1.out
  clear hb X2 X3 X4 G1 M1 Z1
  by_cases hl : (lex s.data.toList).1 = 0
  rotate_left
  · have hp := parse_no hl
    rw [HR.out] at hp
    have HP := Lib.hid hp
    have HL := Lib.hid hl
    clear hp
    generalize (lex s.data.toList).1 = n1 at *
    generalize (lex s.data.toList).2.2 = t1 at *
    clear HRD HN HR
    go_upto_region 2 with (first | ((with_reducible refine m_set1 Y3.out 27 3 (.tmp 11) ?_ ?_ ?_ (.int .i64 n1) ?_ ?_ ?_ ?_ ?_ ?_); rfl; rfl; rfl; rfl; rfl; rfl; rfl; kernel_rfl; intro w3 hx3 hg3 hs3; have X4 := Lib.hid (gr_box hg3 (by have := Z2.out; omega) (by omega) Y4.out)) | ((with_reducible refine m_store X4.out 29 4 12 ?_ ?_ ?_ (tC t1) ?_ ?_ ?_ ?_ (tC_one _) ?_); rfl; rfl; rfl; rfl; rfl; rfl; kernel_rfl; intro w4 hx4 hg4 hs4))
    have hs3 : w3.heap.size = w2.heap.size := hs3
    have H4 := Lib.hid hx4
    have H3 := Lib.hid (gr_box hg4 (by have := Z2.out; omega) (by omega) hx3)
    have H2 := Lib.hid (gr_box hg4 (by have := Z2.out; omega) (by omega) (gr_box hg3 (by have := Z2.out; omega) (by omega) Y2.out))
    have G4 := Lib.hid ((G2.out.trans (gr_below hg3 (by omega) (by have := Z2.out; omega))).trans (gr_below hg4 (by omega) (by have := Z2.out; omega)))
    have Z4 := Lib.hid (show w.heap.size + 1 + 1 + 1 ≤ w4.heap.size by have := Z2.out; omega)
    clear hx3 hg3 hx4 hg4 hs3 hs4 Y2 Y3 Y4 X4 G2 Z2
    have hnz := HL.out
    have hc3 := H3.out.1
    go_upto_region 3 with (fail)
    clear hc3 hnz
    refine region_np ?_
    refine wp_region_T (by kernel_rfl) (fun w' => Box w' (w.heap.size + 1) 0 [.int .i64 n1] ∧ Box w' (w.heap.size + 1 + 1) 0 (tC t1)) [] ⟨box_drew H3.out, box_drew H4.out⟩ (fun hHeld => ?_)
    have hb := (Below.refl w4.heap.size w4).drew
    have hz5 : w4.drew.heap.size = w4.heap.size := rfl
    generalize w4.drew = w5 at *
    have X2 := Lib.hid (H2.out.below hb (by have := Z4.out; omega))
    have G5 := Lib.hid (G4.out.trans (hb.mono (by have := Z4.out; omega)))
    have Z5 := Lib.hid (show w.heap.size + 1 + 1 + 1 ≤ w5.heap.size by have := Z4.out; omega)
    clear H2 H3 H4 G4 Z4 hb hz5
    refine wpAnyT_take (i := 0) (v := .agg (gC ⟨[], ⟨none, 0, 0⟩, ⟨none, 0, 0⟩⟩).toArray) rfl (by kernel_rfl) (by kernel_rfl) (by kernel_rfl) (fun _ _ _ h => h) (Or.inl ⟨by rfl, ?_⟩) (by assumption) ?_
    · intro w_ hSw; clear hSw; kernel_rfl
    try simp only [Act.put, List.setIfInBounds_toArray, List.set_cons_zero, List.set_cons_succ, List.getElem_toArray, List.getElem_cons_succ, List.getElem_cons_zero]
    refine wpAnyT_take (i := 1) (v := .int .i64 n1) rfl (by kernel_rfl) (by kernel_rfl) (by kernel_rfl) (fun _ _ _ h => h) (Or.inl ⟨by rfl, ?_⟩) (by assumption) ?_
    · intro w_ hSw; have hc := hSw.1.1; clear hSw; go_simp
    try simp only [Act.put, List.setIfInBounds_toArray, List.set_cons_zero, List.set_cons_succ, List.getElem_toArray, List.getElem_cons_succ, List.getElem_cons_zero]
    refine wpAnyT_take (i := 2) (v := .agg (tC t1).toArray) rfl (by kernel_rfl) (by kernel_rfl) (by kernel_rfl) (fun _ _ _ h => h) (yieldsIf_load_mid (by rfl) 29 (.tmp 4) rfl (w.heap.size + 1 + 1) 0 rfl (tC t1) _ (fun w_ hw_ => Box.range hw_.2) rfl rfl (by kernel_rfl)) (by assumption) ?_
    try simp only [Act.put, List.setIfInBounds_toArray, List.set_cons_zero, List.set_cons_succ, List.getElem_toArray, List.getElem_cons_succ, List.getElem_cons_zero]
    refine wpAnyT_ready (rs := [3]) (by kernel_rfl) (by simp) ?_
    refine AllReadyT.cons rfl (fun K hK => ?_) AllReadyT.nil
    refine t_store X2.out 26 2 15 rfl rfl rfl (gC ⟨[], ⟨none, 0, 0⟩, ⟨none, 0, 0⟩⟩) rfl rfl rfl (by kernel_rfl) (gC_one _) ?_
    intro w6 hx hg hs6
    have Y2 := Lib.hid hx
    have Y34 := Lib.hid (⟨gr_box hg (by have := Z5.out; omega) (by omega) hHeld.1, gr_box hg (by have := Z5.out; omega) (by omega) hHeld.2⟩ : Box w6 (w.heap.size + 1) 0 [.int .i64 n1] ∧ Box w6 (w.heap.size + 1 + 1) 0 (tC t1))
    have G6 := Lib.hid (G5.out.trans (gr_below hg (Nat.le_refl _) (by have := Z5.out; omega)))
    have Z6 := Lib.hid (show w.heap.size + 1 + 1 + 1 ≤ w6.heap.size by have := Z5.out; omega)
    clear hx hg G5 Z5 X2 hHeld hs6
    refine hK.out _ _ Y34.out (fun hHeld => ?_)
    clear hK K
    try simp only [Act.put, List.setIfInBounds_toArray, List.set_cons_zero, List.set_cons_succ, List.getElem_toArray, List.getElem_cons_succ, List.getElem_cons_zero]
    refine wpAnyT_ready (rs := [4]) (by kernel_rfl) (by simp) ?_
    refine AllReadyT.cons rfl (fun K hK => ?_) AllReadyT.nil
    refine t_set1 Y34.out.1 (show 0 < 1 by omega) 27 3 16 rfl rfl rfl (.int .i64 n1) rfl rfl rfl (by kernel_rfl) ?_
    intro w7 hx hg hs7
    have X2 := Lib.hid (gr_box hg (by have := Z6.out; omega) (by omega) Y2.out)
    have X34 := Lib.hid (⟨hx, gr_box hg (by have := Z6.out; omega) (by omega) hHeld.2⟩ : Box w7 (w.heap.size + 1) 0 [.int .i64 n1] ∧ Box w7 (w.heap.size + 1 + 1) 0 (tC t1))
    have G7 := Lib.hid (G6.out.trans (gr_below hg (by omega) (by have := Z6.out; omega)))
    have Z7 := Lib.hid (show w.heap.size + 1 + 1 + 1 ≤ w7.heap.size by have := Z6.out; omega)
    clear hx hg G6 Z6 Y2 Y34 hHeld hs7
    refine hK.out _ _ X34.out (fun hHeld => ?_)
    clear hK K
    try simp only [Act.put, List.setIfInBounds_toArray, List.set_cons_zero, List.set_cons_succ, List.getElem_toArray, List.getElem_cons_succ, List.getElem_cons_zero]
    refine wpAnyT_ready (rs := [5]) (by kernel_rfl) (by simp) ?_
    refine AllReadyT.cons rfl (fun K hK => ?_) AllReadyT.nil
    refine t_store X34.out.2 29 4 17 rfl rfl rfl (tC t1) rfl rfl rfl (by kernel_rfl) (tC_one _) ?_
    intro w8 hx hg hs8
    have Y2 := Lib.hid (gr_box hg (by have := Z7.out; omega) (by omega) X2.out)
    have Y34 := Lib.hid (⟨gr_box hg (by have := Z7.out; omega) (by omega) hHeld.1, hx⟩ : Box w8 (w.heap.size + 1) 0 [.int .i64 n1] ∧ Box w8 (w.heap.size + 1 + 1) 0 (tC t1))
    have G8 := Lib.hid (G7.out.trans (gr_below hg (by omega) (by have := Z7.out; omega)))
    clear hx hg G7 Z7 X2 X34 hHeld hs8
    refine hK.out _ _ Y34.out (fun hHeld => ?_)
    clear hK K
    try simp only [Act.put, List.setIfInBounds_toArray, List.set_cons_zero, List.set_cons_succ, List.getElem_toArray, List.getElem_cons_succ, List.getElem_cons_zero]
    refine doneT_np (by kernel_rfl) ?_ _
    go_wp2
    refine ⟨_, results_ccc (b := w.heap.size) (b2 := w.heap.size + 1) (b3 := w.heap.size + 1 + 1) (v2 := .int .i64 n1) rfl rfl rfl rfl (run_loadVar_mid _ _ 0 26 _ _ Y2.out.range rfl rfl (by kernel_rfl)) (by have hc := Y34.out.1.1; simp [go_sem, hc]) (run_loadVar_mid _ _ 0 29 _ _ Y34.out.2.range rfl rfl (by kernel_rfl)), GOT.out _ _ ?_⟩
    rw [HP.out]
    exact ⟨⟨[], ⟨none, 0, 0⟩, ⟨none, 0, 0⟩⟩, rfl, pgAt_none _ _, G8.out⟩
  have hr := (lex_ok hl).1
  have hln := (lex_ok hl).2
  have hsz : (lex s.data.toList).2.1.length ≤ 5001 := by
    have : s.data.toList.length = s.size := Array.length_toList
    omega
  clear hln
  obtain ⟨L, hL⟩ : ∃ L, (lex s.data.toList).2.1 = L := ⟨_, rfl⟩
  have PY := Lib.hid (fun p r (hp : progP (20 * L.length + 20) L = .ok p r) => HR.out.symm.trans (parse_yes hl (by rw [hL]; exact hp)))
  have PM := Lib.hid (fun n t (hp : progP (20 * L.length + 20) L = .bad n t) => HR.out.symm.trans (parse_mis hl (by rw [hL]; exact hp)))
  rw [hL] at hr hsz
  rw [hL] at HRD HN
  have hn : n = L.length := HN.out.symm
  subst hn
  have HOK := Lib.hid hr
  have HSZ := Lib.hid hsz
  clear hr hsz hL HR HN
  rw [hl]
  clear hl
  generalize (lex s.data.toList).2.2 = t1 at *
  go_upto_region 2 with (first | ((with_reducible refine m_set1 Y3.out 27 3 (.tmp 11) ?_ ?_ ?_ (.int .i64 0) ?_ ?_ ?_ ?_ ?_ ?_); rfl; rfl; rfl; rfl; rfl; rfl; rfl; kernel_rfl; intro w3 hx3 hg3 hs3; have X4 := Lib.hid (gr_box hg3 (by have := Z2.out; omega) (by omega) Y4.out)) | ((with_reducible refine m_store X4.out 29 4 12 ?_ ?_ ?_ (tC t1) ?_ ?_ ?_ ?_ (tC_one _) ?_); rfl; rfl; rfl; rfl; rfl; rfl; kernel_rfl; intro w4 hx4 hg4 hs4))
  have hs3 : w3.heap.size = w2.heap.size := hs3
  have H4 := Lib.hid hx4
  have H3 := Lib.hid (gr_box hg4 (by have := Z2.out; omega) (by omega) hx3)
  have H2 := Lib.hid (gr_box hg4 (by have := Z2.out; omega) (by omega) (gr_box hg3 (by have := Z2.out; omega) (by omega) Y2.out))
  have G4 := Lib.hid ((G2.out.trans (gr_below hg3 (by omega) (by have := Z2.out; omega))).trans (gr_below hg4 (by omega) (by have := Z2.out; omega)))
  have Z4 := Lib.hid (show w.heap.size + 1 + 1 + 1 ≤ w4.heap.size by have := Z2.out; omega)
  have HD := Lib.hid (RB.kept ((kept_nw hg3 (b := w2.heap.size) (a := w1.heap.size) (b' := w2.heap.size) (a' := w1.heap.size) (by have := ZR.out; omega) (Nat.le_refl _) (Nat.le_refl _) (Nat.le_refl _)).trans (kept_nw hg4 (by have := ZR.out; omega) (by omega) (Nat.le_refl _) (Nat.le_refl _))) HRD.out)
  have ZQ := Lib.hid (show w2.heap.size ≤ w4.heap.size by omega)
  clear hx3 hg3 hx4 hg4 hs3 hs4 Y2 Y3 Y4 X4 G2 Z2 HRD ZR
  have hc3 := H3.out.1
  go_upto_region 4 with (fail)
  clear hc3
  go_upto_region 5 with (fail)
  go_upto_region 6 with ((with_reducible refine m_new 52 6 20 ?_ ?_ ?_ [.slice A L.length c, .slice none 0 0, .int .i64 0] ?_ ?_ ?_ ?_ (rc_one _ _ _) ?_); rfl; rfl; rfl; rfl; rfl; rfl; kernel_rfl; intro w5 hx5 hb5 hz5)
  have X2 := Lib.hid (H2.out.below hb5 (by have := Z4.out; omega))
  have X3 := Lib.hid (H3.out.below hb5 (by have := Z4.out; omega))
  have X4 := Lib.hid (H4.out.below hb5 (by have := Z4.out; omega))
  have G5 := Lib.hid (G4.out.trans (hb5.mono (by have := Z4.out; omega)))
  have P5 := Lib.hid (⟨A, c, hx5, RB.toAt (fun b (hb : Nw w1.heap.size w2.heap.size b) => by have := hb.2; have := ZQ.out; omega) (RB.kept (Kept.below hb5 (fun b (hb : Nw w1.heap.size w2.heap.size b) => ⟨by have := hb.2; have := ZQ.out; omega, hb⟩)) HD.out)⟩ : Par w5 w4.heap.size L (.slice none 0 0) 0)
  clear H2 H3 H4 G4 hx5 hb5 HD
  go_wp2_with (go_at_call 10; fail)
  refine (program_any (f := 20 * L.length + 20) P5.out HOK.out (by have := HSZ.out; omega) (by omega)).mono ?_
  rintro e w6 hgv
  rcases hp : progP (20 * L.length + 20) L with ⟨x8, r8⟩ | ⟨n9, t9⟩
  rotate_left
  · rw [hp] at hgv
    obtain ⟨rfl, hb⟩ := hgv
    have HR := PM.out _ _ hp
    have Y2 := Lib.hid (X2.out.below hb (by have := Z4.out; omega))
    have Y3 := Lib.hid (X3.out.below hb (by have := Z4.out; omega))
    have Y4 := Lib.hid (X4.out.below hb (by have := Z4.out; omega))
    have G6 := Lib.hid (G5.out.trans (hb.mono (by have := Z4.out; omega)))
    clear hb hp
    go_wp2
    refine leaves_cons (f := 9) (args := #[.pointer (some ⟨w.heap.size, 0, none⟩), .pointer (some ⟨w.heap.size + 1, 0, none⟩), .pointer (some ⟨w.heap.size + 1 + 1, 0, none⟩)]) (by simp) (by simp [go_sem]) ?_
    refine (catch_any n9 t9 (B := w.heap.size) Y2.out Y3.out Y4.out rfl rfl rfl (by omega) (by omega) (by omega) (by omega) (by omega) (by omega)).mono ?_
    rintro e u' w7 ⟨rfl, rfl, h2, h3, h4, hb7⟩
    show Leaves _ _ _ _ [] .returning _
    refine ⟨_, results_ccc (b := w.heap.size) (b2 := w.heap.size + 1) (b3 := w.heap.size + 1 + 1) (v2 := .int .i64 n9) rfl rfl rfl rfl (run_loadVar_mid _ _ 0 26 _ _ h2.range rfl rfl (by kernel_rfl)) (by have hc := h3.1; simp [go_sem, hc]) (run_loadVar_mid _ _ 0 29 _ _ h4.range rfl rfl (by kernel_rfl)), GOT.out _ _ ?_⟩
    rw [HR]
    exact ⟨⟨[], ⟨none, 0, 0⟩, ⟨none, 0, 0⟩⟩, rfl, pgAt_none _ _, G6.out.trans hb7⟩
  rw [hp] at hgv
  obtain ⟨⟨h8, rfl, hpg⟩, hb⟩ := hgv
  have HR := Lib.hid (PY.out _ _ hp)
  have Y2 := Lib.hid (X2.out.below hb (by have := Z4.out; omega))
  have Y3 := Lib.hid (X3.out.below hb (by have := Z4.out; omega))
  have Y4 := Lib.hid (X4.out.below hb (by have := Z4.out; omega))
  have G6 := Lib.hid (G5.out.trans (hb.mono (by have := Z4.out; omega)))
  have PG := Lib.hid hpg
  have Z6 := Lib.hid (show w.heap.size + 1 + 1 + 1 ≤ w6.heap.size by have := Z4.out; have := hb.size; omega)
  clear hb hp hpg X2 X3 X4 G5 PY PM P5
  have BT := bd_tok
  go_wp2_with (first | ((with_reducible refine m_store Y2.out 26 2 21 ?_ ?_ ?_ (gC h8) ?_ ?_ ?_ ?_ (gC_one _) ?_); rfl; rfl; rfl; rfl; rfl; rfl; kernel_rfl; intro w7 hx7 hg7 hs7; have X3 := Lib.hid (gr_box hg7 (by have := Z6.out; omega) (by omega) Y3.out)) | ((with_reducible refine m_set1 X3.out 27 3 (.const (.int .i64 0)) ?_ ?_ ?_ (.int .i64 0) ?_ ?_ ?_ ?_ ?_ ?_); rfl; rfl; rfl; rfl; rfl; rfl; rfl; kernel_rfl; intro w8 hx8 hg8 hs8; have X4 := Lib.hid (gr_box hg8 (by have := Z6.out; omega) (by omega) (gr_box hg7 (by have := Z6.out; omega) (by omega) Y4.out))) | ((with_reducible refine m_store X4.out 29 4 22 ?_ ?_ ?_ (tC zeroT) ?_ ?_ ?_ ?_ (tC_one _) ?_); rfl; rfl; rfl; rfl; rfl; rfl; kernel_rfl; intro w9 hx9 hg9 hs9))
  clear BT
  have H2 := Lib.hid (gr_box hg9 (by have := Z6.out; omega) (by omega) (gr_box hg8 (by have := Z6.out; omega) (by omega) hx7))
  have H3 := Lib.hid (gr_box hg9 (by have := Z6.out; omega) (by omega) hx8)
  have H4 := Lib.hid hx9
  have K7 := gr_below hg7 (Nat.le_refl w.heap.size) (by have := Z6.out; omega)
  have K8 := gr_below hg8 (show w.heap.size ≤ w.heap.size + 1 by omega) (by have := Z6.out; omega)
  have K9 := gr_below hg9 (show w.heap.size ≤ w.heap.size + 1 + 1 by omega) (by have := Z6.out; omega)
  have G9 := Lib.hid (((G6.out.trans K7).trans K8).trans K9)
  have PG9 := (PG.out.kept (kept_nw hg7 (by have := Z4.out; have := Z6.out; omega) (Nat.le_refl _) (Nat.le_refl _) (Nat.le_refl _))).kept ((kept_nw hg8 (by have := Z4.out; have := Z6.out; omega) (by have := Z4.out; have := Z6.out; omega) (Nat.le_refl _) (Nat.le_refl _)).trans (kept_nw hg9 (by have := Z4.out; have := Z6.out; omega) (by have := Z4.out; have := Z6.out; omega) (Nat.le_refl _) (Nat.le_refl _)))
  have PA := Lib.hid (PgB.toAt (B := w9.heap.size) (fun b (hb : Nw w5.heap.size w6.heap.size b) => by have := hb.2; omega) PG9)
  have Z9 := Lib.hid (show w.heap.size + 1 + 1 + 1 ≤ w9.heap.size by have := Z6.out; omega)
  clear PG9 K7 K8 K9 hg7 hg8 hg9 hs7 hs8 hs9 hx7 hx8 hx9 X3 X4 Y2 Y3 Y4 PG G6 Z6
  refine leaves_cons (f := 9) (args := #[.pointer (some ⟨w.heap.size, 0, none⟩), .pointer (some ⟨w.heap.size + 1, 0, none⟩), .pointer (some ⟨w.heap.size + 1 + 1, 0, none⟩)]) (by simp) (by simp [go_sem]) ?_
  refine (catch_idle _ _ _ _).mono ?_
  rintro e u' w10 ⟨rfl, rfl, hb⟩
  have X2 := H2.out.below hb (by have := Z4.out; have := Z9.out; omega)
  have X3 := H3.out.below hb (by have := Z4.out; have := Z9.out; omega)
  have X4 := H4.out.below hb (by have := Z4.out; have := Z9.out; omega)
  show Leaves _ _ _ _ [] .returning _
  refine ⟨_, results_ccc (b := w.heap.size) (b2 := w.heap.size + 1) (b3 := w.heap.size + 1 + 1) (v2 := .int .i64 0) rfl rfl rfl rfl (run_loadVar_mid _ _ 0 26 _ _ X2.range rfl rfl (by kernel_rfl)) (by have hc := X3.1; simp [go_sem, hc]) (run_loadVar_mid _ _ 0 29 _ _ X4.range rfl rfl (by kernel_rfl)), GOT.out _ _ ?_⟩
  rw [HR.out]
  exact ⟨h8, rfl, PA.out.below hb hb.size, G9.out.trans (hb.mono (by have := Z4.out; have := Z9.out; omega))⟩
end Go.Proofs.YtbcpkhegmbdifaaGreat.tr
/- What the laws' walks take of the landed parser, and the fixed text's program. No condition. -/
namespace Go.Proofs.YtbcpkhegmbdifaaGreat.tr
open Go.ChangeShapes Go.WideShapes Go.ChangeAt Go.RowKit Go.Proofs.YtbcpkhegmbdifaaGreat.k Go.Proofs.YtbcpkhegmbdifaaGreat.rr Go.Proofs.YtbcpkhegmbdifaaGreat.tk
theorem parse_awake : ∃ ty se ar lo hi ln op nm d n nm' fd sub ln' cs ls fs bs l1, parse awakeG = (⟨[112], [⟨[97], ty, se, ar, lo, hi, -3, ln⟩], [.mk op nm d (.mk 8 n nm' fd sub ln') cs ls fs bs l1]⟩, 0, zeroT) :=
  ⟨_, _, _, _, _, _, _, _, _, _, _, _, _, _, _, _, _, _, _, parse_awake0⟩
end Go.Proofs.YtbcpkhegmbdifaaGreat.tr
/- The fixed answer of the layer tree's laws: it is true; what was in memory is as it was. Condition: the library's variable MaxLen holds some number. -/
namespace Go.Proofs.YtbcpkhegmbdifaaGreat.tr
open Go.ChangeShapes Go.WideShapes Go.ChangeAt Go.RowKit Go.Proofs.YtbcpkhegmbdifaaGreat.k Go.Proofs.YtbcpkhegmbdifaaGreat.rr Go.Proofs.YtbcpkhegmbdifaaGreat.tk
set_option linter.unusedVariables false
set_option linter.unusedSimpArgs false

set_option maxRecDepth 100000 in
set_option maxHeartbeats 4000000 in
theorem awake_any (w : World) (hM : MaxL w) : Calls Tryz.prog 4 #[] w fun e w' => e = .returned (.bool true) ∧ Below w.heap.size w w' := by
  have PX := parse_any ⟨awakeG.toArray⟩ (by decide) w hM
  unfold GotG at PX
  obtain ⟨ty, se, ar, lo, hi, ln, op, nm, d, n, nm', fd, sub, ln', cs, ls, fs, bs, l1, hp⟩ := parse_awake
  rw [show (⟨awakeG.toArray⟩ : ByteArray).data.toList = awakeG from rfl, hp] at PX
  simp only at PX
  rw [show (tC zeroT).toArray = #[.int .i64 0, .string ⟨#[]⟩, .int .i64 0, .int .i64 0, .int .i64 0] from rfl] at PX
  rw [show (⟨awakeG.toArray⟩ : ByteArray) = ⟨#[80, 82, 79, 71, 82, 65, 77, 32, 112, 32, 86, 65, 82, 32, 97, 32, 58, 32, 73, 78, 84, 32, 58, 61, 32, 45, 51, 59, 32, 69, 78, 68, 95, 86, 65, 82, 32, 97, 32, 58, 61, 32, 97, 32, 43, 32, 49, 59, 32, 69, 78, 68, 95, 80, 82, 79, 71, 82, 65, 77]⟩ from rfl] at PX
  have PX := Lib.hid PX
  clear hp hM
  go_enter Tryz.func4, Tryz.ntmps4
  go_wp2_with (go_at_call 5; fail)
  with_reducible refine PX.out.mono ?_
  rintro e w1 ⟨h, rfl, ⟨h1, h2, K, h3, h4⟩, hb⟩
  obtain ⟨gn, ⟨VA, vl, vc⟩, ⟨SA, sl, sc⟩⟩ := h
  simp only at h1 h2 h3
  subst h1
  unfold StsAt at h4
  obtain ⟨s, K', rfl, h5, h6⟩ := h4
  unfold StsAt at h6
  subst h6
  unfold StAt at h5
  have e8 := h5.2.2.2.2.1
  unfold ExAt at e8
  have e8 := e8.1
  have g2 : Rd vC 8 w1 w1.heap.size VA vl vc _ := h2
  have g3 : Rd sC 19 w1 w1.heap.size SA sl sc _ := h3
  clear h2 h3 h5
  obtain rfl : 1 = vl := g2.1
  obtain rfl : 1 = sl := g3.1
  obtain ⟨b1, o1, rfl, hb1, hc1⟩ := g2.2.2.2.2 (by omega)
  obtain ⟨b2, o2, rfl, hb2, hc2⟩ := g3.2.2.2.2 (by omega)
  have k1 := g2.2.1
  have k2 := g3.2.1
  have q1 := hc1 0 _ rfl 6 _ rfl
  have q2 := hc2 0 _ rfl 8 _ rfl
  rw [e8] at q2
  rw [Nat.zero_mul, Nat.add_zero] at q1 q2
  have z1 : (1 : Int) ≤ vc := by omega
  have z2 : (1 : Int) ≤ sc := by omega
  have HB := Lib.hid (hb.trans ((((Below.refl w1.heap.size w1).alloc (Nat.le_refl _) (.cells (gC ⟨[112], ⟨some ⟨b1, o1, none⟩, 1, vc⟩, ⟨some ⟨b2, o2, none⟩, 1, sc⟩⟩).toArray 26)).alloc (by simp) (.cells #[.int .i64 0, .string ⟨#[]⟩, .int .i64 0, .int .i64 0, .int .i64 0] 29)).mono hb.size))
  simp only [gC, sv, Sl.v] at HB ⊢
  clear hc1 hc2 g2 g3 e8 hb k1 k2
  go_wp2_with fail
  go_ret
  exact ⟨rfl, HB.out⟩
end Go.Proofs.YtbcpkhegmbdifaaGreat.tr
