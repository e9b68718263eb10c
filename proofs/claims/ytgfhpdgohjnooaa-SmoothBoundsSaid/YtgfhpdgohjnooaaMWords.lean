/- What is said of a window: pushed, moved, summed; and the worlds in which windows of a call's own lie. No condition but what each line says. -/
import Derived.Test.YtgfhpdgohjnooaaMWin
namespace Go.Proofs.Ytgfhpdgohjnooaa.mm
open Go.ChangeShapes Go.WideShapes Go.ChangeAt Go.RowKit Go.Proofs.Ytgfhpdgohjnooaa.k
set_option linter.unusedVariables false

def pushW (L : List Int) (p : Int) : List Int := if RightW L ∧ inP p then p :: L.take (L.length - 1) else L
def outW (L : List Int) : Int := if RightW L then L.sum else 0
def restB (L : List Int) : Bool := decide (RightW L ∧ ∀ x ∈ L, x = L.getD 0 0)
def shiftW (L : List Int) (d : Int) : List Int := if RightW L ∧ ∀ x ∈ L, inP (x + d) then L.map (· + d) else L
theorem pushW_yes {L : List Int} {p : Int} (h : RightW L) (hp : inP p) : pushW L p = p :: L.take (L.length - 1) := if_pos ⟨h, hp⟩
theorem pushW_no {L : List Int} {p : Int} (h : ¬ (RightW L ∧ inP p)) : pushW L p = L := if_neg h
theorem outW_yes {L : List Int} (h : RightW L) : outW L = L.sum := if_pos h
theorem outW_no {L : List Int} (h : ¬ RightW L) : outW L = 0 := if_neg h
theorem push_right {L : List Int} {p : Int} (h : RightW L) (hp : inP p) : RightW (p :: L.take (L.length - 1)) := by
  refine ⟨by simp, ?_, fun x hx => ?_⟩
  · have := h.1; have := h.2.1
    rw [List.length_cons, List.length_take]; omega
  · rcases List.mem_cons.1 hx with rfl | hx
    · exact hp
    · exact h.2.2 x (List.mem_of_mem_take hx)
theorem push_len {L : List Int} {p : Int} (h : RightW L) : (p :: L.take (L.length - 1)).length = L.length := by
  have := h.1
  rw [List.length_cons, List.length_take]; omega
theorem rep_right {m : Nat} {p : Int} (h1 : 1 ≤ m) (h2 : m ≤ 16) (hp : inP p) : RightW (List.replicate m p) :=
  ⟨by simpa using h1, by simpa using h2, fun x hx => by rw [List.eq_of_mem_replicate hx]; exact hp⟩

/-- a new window, or none -/
def NewW (w : World) (L : List Int) (err : Int) (e : Ending) (w' : World) : Prop := ∃ A len cap, e = .returned (.tuple #[.agg #[.slice A len cap], .int .i64 err]) ∧ Win w' w'.heap.size A len cap L ∧ Below w.heap.size w w'

/-- a slice lies where another one does, or in a block that is new -/
def From (w : World) (A0 A : Option Addr) : Prop := ∀ b off s, A = some ⟨b, off, s⟩ → (∃ off0 s0, A0 = some ⟨b, off0, s0⟩) ∨ w.heap.size ≤ b
/-- a window that a call answers: as a struct of its own, and where it lies -/
def GotF (w : World) (A0 : Option Addr) (L : List Int) (e : Ending) (w' : World) : Prop := ∃ A len cap, e = .returned (.agg #[.slice A len cap]) ∧ (Win w' w'.heap.size A len cap L ∧ From w A0 A) ∧ Below w.heap.size w w'
def NewF (w : World) (L : List Int) (err : Int) (e : Ending) (w' : World) : Prop := ∃ A len cap, e = .returned (.tuple #[.agg #[.slice A len cap], .int .i64 err]) ∧ (Win w' w'.heap.size A len cap L ∧ From w none A) ∧ Below w.heap.size w w'
theorem GotF.got {w : World} {A0 : Option Addr} {L : List Int} {e : Ending} {w' : World} (h : GotF w A0 L e w') : GotW w L e w' := by
  obtain ⟨A, len, cap, he, ⟨hw, _⟩, hb⟩ := h
  exact ⟨A, len, cap, he, hw, hb⟩
theorem NewF.new {w : World} {L : List Int} {err : Int} {e : Ending} {w' : World} (h : NewF w L err e w') : NewW w L err e w' := by
  obtain ⟨A, len, cap, he, ⟨hw, _⟩, hb⟩ := h
  exact ⟨A, len, cap, he, hw, hb⟩

/-! ### A variable of the call's own: a block of one cell -/
def Var (w : World) (g : Nat) (v : Value) : Prop := ∃ t : TypeId, w.heap[g]? = some (.cells #[v] t (0, 0))
section
variable {w w' : World} {g : Nat} {v : Value}
theorem Var.lt (h : Var w g v) : g < w.heap.size := by
  obtain ⟨t, h⟩ := h
  rcases Nat.lt_or_ge g w.heap.size with hlt | hge
  · exact hlt
  · rw [Array.getElem?_eq_none hge] at h; cases h
theorem Var.cell (h : Var w g v) : w.cell? ⟨g, 0, none⟩ = some v := by
  obtain ⟨t, h⟩ := h
  simp [World.cell?, h]
theorem Var.far (h : Var w g v) (i : Nat) : w.cell? ⟨g, i + 1, none⟩ = none := by
  obtain ⟨t, h⟩ := h
  simp [World.cell?, h]
theorem Var.frozen (h : Var w g v) (i : Nat) : w.frozen? ⟨g, i, none⟩ = false := by
  obtain ⟨t, h⟩ := h
  simp [World.frozen?, h]
theorem Var.below {B : Nat} (h : Var w g v) (hb : Below B w w') (hg : g < B) : Var w' g v := by
  obtain ⟨t, h⟩ := h
  exact ⟨t, (hb.block g hg).trans h⟩
theorem Var.under (h : Var w g v) (hb : Below w.heap.size w w') : Var w' g v := h.below hb h.lt
theorem Var.new (w : World) (v : Value) (t : TypeId) : Var (w.alloc (.cells #[v] t)) w.heap.size v := ⟨t, heap_alloc_new w _⟩
theorem Var.drawn (h : Var w g v) (n : Nat) : Var (w.drewN n) g v := h
theorem Var.set (h : Var w g v) (u : Value) : Var (w.setCell ⟨g, 0, none⟩ u) g u := by
  obtain ⟨t, h⟩ := h
  exact ⟨t, by simp [World.setCell, Array.getElem?_modify, h]⟩
theorem Var.aside (h : Var w g v) {p : Addr} (hp : g ≠ p.block) (u : Value) : Var (w.setCell p u) g v := by
  obtain ⟨t, h⟩ := h
  exact ⟨t, (Below.heap_setCell w p u g hp).trans h⟩
end
theorem Var.drew {w : World} {g : Nat} {v : Value} (h : Var w g v) : Var w.drew g v := h
theorem Win.drew {w : World} {B : Nat} {A : Option Addr} {len cap : Nat} {L : List Int} (h : Win w B A len cap L) : Win w.drew B A len cap L := h
theorem below_drew {B : Nat} {a w : World} (h : Below B a w) : Below B a w.drew := h.drew
/-- a window lies in no such block that holds a slice -/
theorem Win.ne {w : World} {B : Nat} {A : Option Addr} {len cap : Nat} {L : List Int} (h : Win w B A len cap L) {g : Nat} {a : Option Addr} {l c : Nat} (hv : Var w g (.slice a l c)) (hn : 0 < len) :
    ∃ b off, A = some ⟨b, off, none⟩ ∧ b < B ∧ b ≠ g ∧ ∀ i, i < len → w.cell? ⟨b, off + i, none⟩ = some (.int .i64 (L.getD i 0)) := by
  obtain ⟨b, off, e, hB, hc⟩ := h.2.2.2.2 hn
  refine ⟨b, off, e, hB, ?_, hc⟩
  rintro rfl
  have h0 := hc 0 hn
  cases off with
  | zero => rw [show 0 + 0 = 0 from rfl, hv.cell] at h0; cases h0
  | succ n => rw [show n + 1 + 0 = n + 1 from rfl, hv.far] at h0; cases h0
theorem Win.aside {w : World} {B : Nat} {A : Option Addr} {len cap : Nat} {L : List Int} (h : Win w B A len cap L) {g : Nat} {a : Option Addr} {l c : Nat} (hv : Var w g (.slice a l c)) (x : Value) : Win (w.setCell ⟨g, 0, none⟩ x) B A len cap L :=
  ⟨h.1, h.2.1, h.2.2.1, h.2.2.2.1, fun hn => by
    obtain ⟨b, off, e, hB, hne, hc⟩ := h.ne hv hn
    exact ⟨b, off, e, hB, fun i hi => (World.cell?_setCell_far w ⟨g, 0, none⟩ ⟨b, off + i, none⟩ x (Ne.symm hne)).trans (hc i hi)⟩⟩
/-- a variable is made and laid -/
theorem made (w : World) (v : Value) (t : TypeId) : ∃ W, w.alloc (.cells #[v] t) = W ∧ Var W w.heap.size v ∧ Below w.heap.size w W ∧ W.heap.size = w.heap.size + 1 :=
  ⟨_, rfl, Var.new w _ t, (Below.refl _ _).alloc (Nat.le_refl _) _, by simp⟩
/-- a variable is laid anew: what stays -/
theorem laid {w : World} {g : Nat} {a : Option Addr} {l c : Nat} (h : Var w g (.slice a l c)) (v : Value) : ∃ W, w.setCell ⟨g, 0, none⟩ v = W ∧ Var W g v ∧ W.heap.size = w.heap.size ∧ (∀ B, B ≤ g → Below B w W) ∧
    (∀ g' u, g' ≠ g → Var w g' u → Var W g' u) ∧ ∀ B A len cap L, Win w B A len cap L → Win W B A len cap L :=
  ⟨_, rfl, h.set v, by simp, fun B hB => (Below.refl _ _).setCell hB _, fun g' u hne hu => hu.aside hne v, fun B A len cap L hw => hw.aside h v⟩
end Go.Proofs.Ytgfhpdgohjnooaa.mm
