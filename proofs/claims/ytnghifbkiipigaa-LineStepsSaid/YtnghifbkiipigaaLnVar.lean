/- A variable that holds a line, its block known whole: no row of numbers lies in it. No condition but what each line says. -/
import Derived.Test.YtnghifbkiipigaaLnWords
namespace Go.Proofs.Ytnghifbkiipigaa.ln
open Go.ChangeShapes Go.WideShapes Go.ChangeAt Go.RowKit Go.Proofs.Ytnghifbkiipigaa.k Go.Proofs.Ytnghifbkiipigaa.rr
set_option linter.unusedVariables false

def VarL (w : World) (g : Nat) (A : Option Addr) (n c : Nat) (A' : Option Addr) (m c' : Nat) : Prop := w.heap[g]? = some (.cells #[.slice A n c, .slice A' m c'] 24 (0, 0))
section
variable {w w' : World} {g n c m c' : Nat} {A A' : Option Addr}
theorem VarL.lt (h : VarL w g A n c A' m c') : g < w.heap.size := (Array.getElem?_eq_some_iff.1 h).1
theorem VarL.below {B : Nat} (h : VarL w g A n c A' m c') (hb : Below B w w') (hg : g < B) : VarL w' g A n c A' m c' := (hb.block g hg).trans h
theorem VarL.under (h : VarL w g A n c A' m c') (hb : Below w.heap.size w w') : VarL w' g A n c A' m c' := h.below hb h.lt
theorem VarL.new (w : World) (A : Option Addr) (n c : Nat) (A' : Option Addr) (m c' : Nat) : VarL (w.alloc (.cells #[.slice A n c, .slice A' m c'] 24)) w.heap.size A n c A' m c' := heap_alloc_new w _
theorem VarL.cells (h : VarL w g A n c A' m c') : w.cell? ⟨g, 0, none⟩ = some (.slice A n c) ∧ w.cell? ⟨g, 1, none⟩ = some (.slice A' m c') ∧ w.frozen? ⟨g, 0, none⟩ = false ∧ w.frozen? ⟨g, 1, none⟩ = false := by
  unfold VarL at h
  refine ⟨?_, ?_, ?_, ?_⟩ <;> simp [World.cell?, World.frozen?, h]
theorem VarL.set (h : VarL w g A n c A' m c') (D : Option Addr) (q d : Nat) (D' : Option Addr) (p d' : Nat) : VarL ((w.setCell ⟨g, 0, none⟩ (.slice D q d)).setCell ⟨g, 1, none⟩ (.slice D' p d')) g D q d D' p d' := by
  unfold VarL at *
  simp [World.setCell, Array.getElem?_modify, h]
theorem VarL.aside (h : VarL w g A n c A' m c') {p : Addr} (hp : g ≠ p.block) (u : Value) : VarL (w.setCell p u) g A n c A' m c' := (Below.heap_setCell w p u g hp).trans h
/-- no cell of its block is a number -/
theorem VarL.no_int (h : VarL w g A n c A' m c') {o : Nat} {k : IntKind} {i : Int} (hc : w.cell? ⟨g, o, none⟩ = some (.int k i)) : False := by
  unfold VarL at h
  simp only [World.cell?, h] at hc
  match o, hc with
  | 0, hc => simp at hc
  | 1, hc => simp at hc
  | (q + 2), hc => simp at hc
end
theorem cC_int (x : C) : ∀ u ∈ cC x, ∃ i, u = .int .i64 i := by
  intro u hu
  simp only [cC, List.mem_cons, List.not_mem_nil, or_false] at hu
  rcases hu with rfl | rfl | rfl | rfl | rfl | rfl | rfl <;> exact ⟨_, rfl⟩
theorem iC_int (x : Int) : ∀ u ∈ iC x, ∃ i, u = .int .i64 i := by
  intro u hu
  simp only [iC, List.mem_cons, List.not_mem_nil, or_false] at hu
  exact ⟨x, hu⟩
section
variable {α : Type} {enc : α → List Value} {z : Nat}
/-- a row of numbers stays where a variable's block is written -/
theorem Rd.aside (hz : ∀ x, (enc x).length = z) (hi : ∀ x, ∀ u ∈ enc x, ∃ i, u = .int .i64 i) {w : World} {g n c m c' : Nat} {A A' : Option Addr} (hv : VarL w g A n c A' m c') {D : Option Addr} {q d B : Nat} {L : List α} (h : Rd enc z w B D q d L) (p : Nat) (u : Value) : Rd enc z (w.setCell ⟨g, p, none⟩ u) B D q d L :=
  ⟨h.1, h.2.1, h.2.2.1, h.2.2.2.1, fun hn => by
    obtain ⟨b, off, e, hb, hc⟩ := h.2.2.2.2 hn
    refine ⟨b, off, e, hb, fun i x hx j v hj => ?_⟩
    have h1 := hc i x hx j v hj
    have hne : b ≠ g := fun e2 => by
      subst e2
      obtain ⟨t, rfl⟩ := hi x v (List.mem_of_getElem? hj)
      exact hv.no_int h1
    rw [← h1]
    simp [World.cell?, Below.heap_setCell w ⟨g, p, none⟩ u b hne]⟩
theorem Rd.aside2 (hz : ∀ x, (enc x).length = z) (hi : ∀ x, ∀ u ∈ enc x, ∃ i, u = .int .i64 i) {w : World} {g n c m c' : Nat} {A A' : Option Addr} (hv : VarL w g A n c A' m c') {D : Option Addr} {q d B : Nat} {L : List α} (h : Rd enc z w B D q d L) (E : Option Addr) (r e : Nat) (E' : Option Addr) (r' e' : Nat) : Rd enc z ((w.setCell ⟨g, 0, none⟩ (.slice E r e)).setCell ⟨g, 1, none⟩ (.slice E' r' e')) B D q d L := by
  have hv1 : VarL (w.setCell ⟨g, 0, none⟩ (.slice E r e)) g E r e A' m c' := by
    unfold VarL at *
    simp [World.setCell, Array.getElem?_modify, hv]
  exact Rd.aside hz hi hv1 (Rd.aside hz hi hv h 0 _) 1 _
end
theorem rdc_set {w : World} {g n c m c' : Nat} {A A' : Option Addr} (hv : VarL w g A n c A' m c') {D : Option Addr} {q d : Nat} {L : List C} (h : RdC w w.heap.size D q d L) (E : Option Addr) (r e : Nat) (E' : Option Addr) (r' e' : Nat) : RdC ((w.setCell ⟨g, 0, none⟩ (.slice E r e)).setCell ⟨g, 1, none⟩ (.slice E' r' e')) ((w.setCell ⟨g, 0, none⟩ (.slice E r e)).setCell ⟨g, 1, none⟩ (.slice E' r' e')).heap.size D q d L :=
  (Rd.aside2 cC_len cC_int hv h E r e E' r' e').more (by simp)
theorem rdi_set {w : World} {g n c m c' : Nat} {A A' : Option Addr} (hv : VarL w g A n c A' m c') {D : Option Addr} {q d : Nat} {L : List Int} (h : RdI w w.heap.size D q d L) (E : Option Addr) (r e : Nat) (E' : Option Addr) (r' e' : Nat) : RdI ((w.setCell ⟨g, 0, none⟩ (.slice E r e)).setCell ⟨g, 1, none⟩ (.slice E' r' e')) ((w.setCell ⟨g, 0, none⟩ (.slice E r e)).setCell ⟨g, 1, none⟩ (.slice E' r' e')).heap.size D q d L :=
  (Rd.aside2 iC_len iC_int hv h E r e E' r' e').more (by simp)
theorem rd_under {α : Type} {enc : α → List Value} {z : Nat} {w w' : World} {D : Option Addr} {q d : Nat} {L : List α} (h : Rd enc z w w.heap.size D q d L) (hb : Below w.heap.size w w') : Rd enc z w' w'.heap.size D q d L := (h.below hb).more hb.size
end Go.Proofs.Ytnghifbkiipigaa.ln
