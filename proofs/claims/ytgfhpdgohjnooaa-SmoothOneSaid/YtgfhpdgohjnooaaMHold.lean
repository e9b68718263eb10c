/- A variable that holds a window, beside integers of the call's own that are appended to. No condition but what each line says. -/
import Derived.Test.YtgfhpdgohjnooaaMInts
namespace Go.Proofs.Ytgfhpdgohjnooaa.mm
open Go.ChangeShapes Go.WideShapes Go.ChangeAt Go.RowKit Go.Proofs.Ytgfhpdgohjnooaa.k
set_option linter.unusedVariables false

def OffA (V : Value) (A : Option Addr) : Prop := ∀ b off s, A = some ⟨b, off, s⟩ → V.ownBlock ≠ some b
def Hold (w : World) (V : Value) (g : Nat) (A : Option Addr) (len c : Nat) (L : List Int) : Prop :=
  Win w w.heap.size A len c L ∧ Var w g (.slice A len c) ∧ V.ownBlock ≠ some g ∧ OffA V A
section
variable {w w' : World} {V V' : Value} {g len c : Nat} {A : Option Addr} {L : List Int}
theorem Win.grown {B : Nat} {row : Option Nat} (h : Win w B A len c L) (hB : B ≤ w.heap.size) (hg : w.grownBy w' row) (ho : ∀ b off s, A = some ⟨b, off, s⟩ → row ≠ some b) : Win w' B A len c L :=
  ⟨h.1, h.2.1, h.2.2.1, h.2.2.2.1, fun hn => by
    obtain ⟨b, off, e, hb, hc⟩ := h.2.2.2.2 hn
    exact ⟨b, off, e, hb, fun i hi => (World.cell?_of_block (a := ⟨b, off + i, none⟩) (hg.block b (by omega) (fun e2 => ho b off none e e2.symm))).trans (hc i hi)⟩⟩
theorem Var.grown {v : Value} {row : Option Nat} (h : Var w g v) (hg : w.grownBy w' row) (ho : row ≠ some g) : Var w' g v := by
  have hlt := h.lt
  obtain ⟨t, h⟩ := h
  exact ⟨t, (hg.block g hlt (fun e => ho e.symm)).trans h⟩
theorem grown_size {row : Option Nat} (hg : w.grownBy w' row) : w.heap.size ≤ w'.heap.size := hg.size
theorem Hold.under (h : Hold w V g A len c L) (hb : Below w.heap.size w w') : Hold w' V g A len c L :=
  ⟨(h.1.below hb).more hb.size, h.2.1.under hb, h.2.2⟩
theorem Hold.append (h : Hold w V g A len c L) (hl : 0 < len) (hg : w.grownBy w' V.ownBlock) (hat : V'.ownBlock = V.ownBlock ∨ V'.ownBlock = some w.heap.size) : Hold w' V' g A len c L := by
  refine ⟨(h.1.grown (Nat.le_refl _) hg h.2.2.2).more hg.size, h.2.1.grown hg h.2.2.1, ?_, fun b off s e => ?_⟩
  · rcases hat with e | e
    · rw [e]; exact h.2.2.1
    · rw [e]
      intro e2
      injection e2 with e2
      have := h.2.1.lt
      omega
  · rcases hat with e1 | e1
    · rw [e1]; exact h.2.2.2 b off s e
    · rw [e1]
      intro e2
      injection e2 with e2
      obtain ⟨b2, off2, e3, hb, _⟩ := h.1.2.2.2.2 hl
      rw [e] at e3
      injection e3 with e3
      injection e3 with e3
      omega
theorem Hold.aside {g2 : Nat} {a : Option Addr} {l c2 : Nat} (h : Hold w V g A len c L) (hv : Var w g2 (.slice a l c2)) (hne : g ≠ g2) (x : Value) : Hold (w.setCell ⟨g2, 0, none⟩ x) V g A len c L :=
  ⟨by have := h.1.aside hv x; simpa using this, h.2.1.aside (p := ⟨g2, 0, none⟩) hne x, h.2.2⟩
theorem Hold.laid {a : Option Addr} {l c2 : Nat} (hv : Var w g (.slice a l c2)) (hw : Win w w.heap.size A len c L) (h1 : V.ownBlock ≠ some g) (h2 : OffA V A) : Hold (w.setCell ⟨g, 0, none⟩ (.slice A len c)) V g A len c L :=
  ⟨by have := hw.aside hv (.slice A len c); simpa using this, hv.set _, h1, h2⟩
theorem OwnI.laid {base : Nat} {T : List Int} (h : OwnI w base V T) (hne : V.ownBlock ≠ some g) (x : Value) : OwnI (w.setCell ⟨g, 0, none⟩ x) base V T :=
  h.kept (row := some g) ⟨rfl, rfl, rfl, by simp, fun k hk hne2 => Below.heap_setCell w _ x k (fun e => hne2 (by rw [e]))⟩ (.inr hne)
theorem OwnI.lt_size {base : Nat} {T : List Int} (h : OwnI w base V T) : ∀ b, V.ownBlock = some b → b < w.heap.size := fun b e => (World.ownsRow.lt h b e).2
theorem off_from {A' : Option Addr} {w0 : World} (hf : From w0 A A') (h : OffA V A) (hlt : ∀ b, V.ownBlock = some b → b < w0.heap.size) : OffA V A' := fun b off s e e2 => by
  rcases hf b off s e with ⟨o, s0, e3⟩ | h3
  · exact h b o s0 e3 e2
  · have := hlt b e2; omega
end
end Go.Proofs.Ytgfhpdgohjnooaa.mm
