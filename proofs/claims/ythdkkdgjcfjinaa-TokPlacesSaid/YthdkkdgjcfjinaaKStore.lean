/- Whole structs stored: the world behind it by a name; blocks above and aside stay. No condition beyond what each line says. -/
import Derived.Test.YthdkkdgjcfjinaaKBase
import Derived.Deep.MidRow
namespace Go.Proofs.Ythdkkdgjcfjinaa.k
open Go.ChangeShapes Go.WideShapes Go.ChangeAt Go.RowKit
set_option linter.unusedVariables false

theorem Box_aside {w : World} {g g' i : Nat} (hne : g' ≠ g) (x : Value) : ∀ {vs : List Value} {o : Nat}, Box w g o vs → Box (w.setCell ⟨g', i, none⟩ x) g o vs
  | [], _, _ => trivial
  | v :: vs, o, h => by
    refine ⟨?_, ?_, Box_aside hne x h.2.2⟩
    · have h2 := h.1
      simp [go_sem, h2]
      try (intro e; exact absurd e.symm hne)
    · have h2 := h.2.1
      simp [go_sem, h2]
/-- cells of blocks from one on stay as they were -/
def Above (lo : Nat) (w w' : World) : Prop := ∀ b o, lo ≤ b → w'.cell? ⟨b, o, none⟩ = w.cell? ⟨b, o, none⟩
theorem Above.refl (lo : Nat) (w : World) : Above lo w w := fun _ _ _ => rfl
theorem Above.trans {lo : Nat} {a b c : World} (h : Above lo a b) (h2 : Above lo b c) : Above lo a c := fun x o hx => (h2 x o hx).trans (h x o hx)
theorem Above.set {lo g i : Nat} {w w' : World} (h : Above lo w w') (hg : g < lo) (x : Value) : Above lo w (w'.setCell ⟨g, i, none⟩ x) := fun b o hb => by
  have hne : ¬ b = g := by omega
  have hne2 : ¬ g = b := by omega
  rw [← h b o hb]
  simp [go_sem]
theorem Above.puts {lo g : Nat} (hg : g < lo) : ∀ {vs : List Value} {o : Nat} {w w' : World}, Above lo w w' → Above lo w (k.puts w' g o vs)
  | [], _, _, _, h => h
  | v :: vs, o, _, _, h => Above.puts hg (vs := vs) (o := o + 1) (h.set hg v)
theorem setCells_puts (g : Nat) : ∀ (vs : List Value) (o : Nat) (w : World), w.setCells g o vs = k.puts w g o vs
  | [], _, _ => rfl
  | v :: vs, o, w => by rw [World.setCells, k.puts, setCells_puts g vs (o + 1)]
theorem Box.there {w : World} {g : Nat} : ∀ {vs : List Value} {o : Nat}, Box w g o vs → w.there g o vs.length
  | [], _, _ => fun j hj => absurd hj (by simp)
  | v :: vs, o, h => fun j hj => by
    cases j with
    | zero => exact ⟨by rw [Nat.add_zero, h.1]; rfl, by rw [Nat.add_zero]; exact h.2.1⟩
    | succ j =>
      have h1 := Box.there h.2.2 j (by simpa using hj)
      rw [show o + 1 + j = o + (j + 1) by omega] at h1
      exact h1
theorem Box.range {w : World} {g : Nat} : ∀ {vs : List Value} {o : Nat}, Box w g o vs → w.rangeAt g o vs
  | [], _, _ => fun j v hv => absurd hv (by simp)
  | u :: vs, o, h => fun j v hv => by
    cases j with
    | zero => rw [Nat.add_zero, h.1]; simpa using hv
    | succ j =>
      have h1 := Box.range h.2.2 j v (by simpa using hv)
      rw [show o + 1 + j = o + (j + 1) by omega] at h1
      exact h1
theorem setCell_before {w : World} {g : Nat} (i : Nat) (x : Value) {vs : List Value} {o : Nat} (hi : i < o) (h : Box w g o vs) : Box (w.setCell ⟨g, i, none⟩ x) g o vs := setCell_box i x hi h
theorem Box.set {w : World} {g : Nat} (x : Value) : ∀ {vs : List Value} {o i : Nat}, Box w g o vs → i < vs.length → Box (w.setCell ⟨g, o + i, none⟩ x) g o (vs.set i x)
  | [], _, _, _, hi => absurd hi (by simp)
  | u :: vs, o, i, h, hi => by
    cases i with
    | zero =>
      have a := h.1
      have b := h.2.1
      refine ⟨?_, ?_, setCell_before o x (by omega) h.2.2⟩ <;> simp [go_sem, a, b]
    | succ i =>
      have a := h.1
      have b := h.2.1
      have hr := Box.set x (vs := vs) (o := o + 1) (i := i) h.2.2 (by simpa using hi)
      rw [show o + 1 + i = o + (i + 1) by omega] at hr
      refine ⟨?_, ?_, hr⟩
      · simp [go_sem, a]
        try (intro e; omega)
      · simp [go_sem, b]
theorem Box.at' {w : World} {g : Nat} : ∀ {vs : List Value} {o i : Nat} {v : Value}, Box w g o vs → vs[i]? = some v → w.cell? ⟨g, o + i, none⟩ = some v ∧ w.frozen? ⟨g, o + i, none⟩ = false
  | [], _, _, _, _, h => by simp at h
  | u :: vs, o, i, v, h, hv => by
    cases i with
    | zero =>
      have e : u = v := by simpa using hv
      rw [Nat.add_zero, ← e]
      exact ⟨h.1, h.2.1⟩
    | succ i =>
      have := Box.at' (i := i) h.2.2 (by simpa using hv)
      rwa [show o + 1 + i = o + (i + 1) by omega] at this
/-- one cell of a block is read -/
theorem cell_of {w : World} {g : Nat} {vs : List Value} (h : Box w g 0 vs) {i : Nat} {v : Value} (hv : vs[i]? = some v) : w.cell? ⟨g, i, none⟩ = some v ∧ w.frozen? ⟨g, i, none⟩ = false := by
  have := Box.at' h hv
  rwa [Nat.zero_add] at this
/-- one cell of a block is written -/
theorem Box.put {w : World} {g : Nat} {vs : List Value} (h : Box w g 0 vs) (i : Nat) (hi : i < vs.length) (x : Value) : Box (w.setCell ⟨g, i, none⟩ x) g 0 (vs.set i x) := by
  have := Box.set x h hi
  rwa [Nat.zero_add] at this
/-- a whole value stored: what lies there then, and what stays -/
theorem stored {w : World} {g : Nat} {us vs : List Value} (h : Box w g 0 vs) (hl : us.length = vs.length) :
    ∃ W, w.setCells g 0 us = W ∧ Box W g 0 us ∧ W.heap.size = w.heap.size ∧ (∀ B, B ≤ g → Below B w W) ∧ ∀ lo, g < lo → Above lo w W := by
  obtain ⟨h1, h2, h3⟩ := Box.puts (us := us) h hl
  exact ⟨k.puts w g 0 us, setCells_puts g us 0 w, h1, h2, h3, fun lo hlo => Above.puts hlo (Above.refl lo w)⟩
theorem results_cell {P : Program} {fn : Func} {t : Tmp} {T : TypeId} (h : fn.results = #[.cell t T]) {tmps : Array Value} {w : World} {b o : Nat} {v : Value} (ht : tmps.getD t undef = .pointer (some ⟨b, o, none⟩))
    (hl : (loadVar T ⟨b, o, none⟩).run P w = .ok v w) : (results fn tmps).run P w = .ok v w := by
  have ha : (asAddr (.pointer (some ⟨b, o, none⟩)) : Sem Addr) = pure ⟨b, o, none⟩ := rfl
  have ht2 : tmps[t]?.getD undef = .pointer (some ⟨b, o, none⟩) := by rw [← ht]; simp
  rw [results, h]
  simp [ht2, ha, hl]
theorem results_cell_tmp {P : Program} {fn : Func} {t u : Tmp} {T : TypeId} (h : fn.results = #[.cell t T, .tmp u]) {tmps : Array Value} {w : World} {b o : Nat} {v : Value} (ht : tmps.getD t undef = .pointer (some ⟨b, o, none⟩))
    (hl : (loadVar T ⟨b, o, none⟩).run P w = .ok v w) : (results fn tmps).run P w = .ok (.tuple #[v, tmps.getD u undef]) w := by
  have ha : (asAddr (.pointer (some ⟨b, o, none⟩)) : Sem Addr) = pure ⟨b, o, none⟩ := rfl
  have ht2 : tmps[t]?.getD undef = .pointer (some ⟨b, o, none⟩) := by rw [← ht]; simp
  rw [results, h]
  simp [ht2, ha, hl]
theorem Box_puts_aside {g g' : Nat} (hne : g' ≠ g) {vs : List Value} {o : Nat} : ∀ (us : List Value) (o' : Nat) (w : World), Box w g o vs → Box (k.puts w g' o' us) g o vs
  | [], _, _, h => h
  | u :: us, o', w, h => Box_puts_aside hne us (o' + 1) _ (Box_aside hne u h)
/-- a block aside of one that was stored into -/
theorem aside_stored {w W : World} {g g' o : Nat} {us vs : List Value} (hW : w.setCells g' 0 us = W) (hne : g' ≠ g) (h : Box w g o vs) : Box W g o vs := by
  rw [← hW, setCells_puts]
  exact Box_puts_aside hne us 0 w h
/-- a whole load that is guarded, where it is wanted -/
theorem load_wanted {P : Program} {ops : Array Oper} {rest : List Oper} {op : Oper} {a : Act} {w : World} {Q : Exit → Act → World → Prop} (hw : Region.wanted op (yielded ops a.tmps) = true) (ty : TypeId) (x : Operand) (ho : op.op = .load ty x)
    (b o : Nat) (hx : a.eval x = .pointer (some ⟨b, o, none⟩)) (cs : List Value) (d : TypeDesc) (hc : w.rangeAt b o cs)
    (hu : P.underlying ty = some d) (hd : d.isRow = true) (hi : (P.info? ty).map (·.size) = some cs.length)
    (h : wpList P ops Q rest (a.put op.dst (.agg cs.toArray)) w) : wpList P ops Q (op :: rest) a w :=
  wpList_step fun K hK => by rw [if_pos hw]; exact wp_load_mid ty x ho b o hx cs d hc hu hd hi (hK _ _ h)
theorem below1 (g : Nat) (w : World) (i : Nat) (x : Value) : Below g w (w.setCell ⟨g, i, none⟩ x) := (Below.refl g w).setCell (Nat.le_refl g) x
theorem below3 (g : Nat) (w : World) (i j l : Nat) (x y z : Value) : Below g w (((w.setCell ⟨g, i, none⟩ x).setCell ⟨g, j, none⟩ y).setCell ⟨g, l, none⟩ z) :=
  ((below1 g w i x).trans (below1 g _ j y)).trans (below1 g _ l z)
theorem there_of {w : World} {g n : Nat} {vs : List Value} (h : Box w g 0 vs) (hl : vs.length = n) : w.there g 0 n := hl ▸ h.there
theorem box16 {w : World} {g : Nat} {x0 x1 x2 x3 x4 x5 x6 x7 x8 x9 x10 x11 x12 x13 x14 x15 : Value} (h : Box w g 0 [x0, x1, x2, x3, x4, x5, x6, x7, x8, x9, x10, x11, x12, x13, x14, x15]) : w.cell? ⟨g, 0, none⟩ = some x0 ∧ w.frozen? ⟨g, 0, none⟩ = false ∧ w.cell? ⟨g, 1, none⟩ = some x1 ∧ w.frozen? ⟨g, 1, none⟩ = false ∧ w.cell? ⟨g, 2, none⟩ = some x2 ∧ w.frozen? ⟨g, 2, none⟩ = false ∧ w.cell? ⟨g, 3, none⟩ = some x3 ∧ w.frozen? ⟨g, 3, none⟩ = false ∧ w.cell? ⟨g, 4, none⟩ = some x4 ∧ w.frozen? ⟨g, 4, none⟩ = false ∧ w.cell? ⟨g, 5, none⟩ = some x5 ∧ w.frozen? ⟨g, 5, none⟩ = false ∧ w.cell? ⟨g, 6, none⟩ = some x6 ∧ w.frozen? ⟨g, 6, none⟩ = false ∧ w.cell? ⟨g, 7, none⟩ = some x7 ∧ w.frozen? ⟨g, 7, none⟩ = false ∧ w.cell? ⟨g, 8, none⟩ = some x8 ∧ w.frozen? ⟨g, 8, none⟩ = false ∧ w.cell? ⟨g, 9, none⟩ = some x9 ∧ w.frozen? ⟨g, 9, none⟩ = false ∧ w.cell? ⟨g, 10, none⟩ = some x10 ∧ w.frozen? ⟨g, 10, none⟩ = false ∧ w.cell? ⟨g, 11, none⟩ = some x11 ∧ w.frozen? ⟨g, 11, none⟩ = false ∧ w.cell? ⟨g, 12, none⟩ = some x12 ∧ w.frozen? ⟨g, 12, none⟩ = false ∧ w.cell? ⟨g, 13, none⟩ = some x13 ∧ w.frozen? ⟨g, 13, none⟩ = false ∧ w.cell? ⟨g, 14, none⟩ = some x14 ∧ w.frozen? ⟨g, 14, none⟩ = false ∧ w.cell? ⟨g, 15, none⟩ = some x15 ∧ w.frozen? ⟨g, 15, none⟩ = false := by
  simp only [Box, Nat.zero_add, Nat.reduceAdd] at h
  obtain ⟨c0, f0, c1, f1, c2, f2, c3, f3, c4, f4, c5, f5, c6, f6, c7, f7, c8, f8, c9, f9, c10, f10, c11, f11, c12, f12, c13, f13, c14, f14, c15, f15, _⟩ := h
  exact ⟨c0, f0, c1, f1, c2, f2, c3, f3, c4, f4, c5, f5, c6, f6, c7, f7, c8, f8, c9, f9, c10, f10, c11, f11, c12, f12, c13, f13, c14, f14, c15, f15⟩
end Go.Proofs.Ythdkkdgjcfjinaa.k
