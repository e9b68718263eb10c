/- Plain facts on the table of an axis' states: where what happens leads. No condition beyond what each line says. -/
import Derived.Test.YtcljilfbmodaiaaKBase
namespace Go.Proofs.Ytcljilfbmodaiaa.ed
open Go.ChangeShapes Go.WideShapes Go.ChangeAt Go.RowKit Go.Proofs.Ytcljilfbmodaiaa.k
set_option linter.unusedVariables false

def tabL : List (List Int) := [[1, 9, 9, 9, 9, 9, 9, 9, 9, 9, 7, 9], [9, 0, 2, 9, 4, 5, 6, 3, 9, 9, 7, 9], [9, 0, 9, 1, 9, 9, 9, 3, 9, 9, 7, 9], [9, 0, 9, 9, 9, 9, 9, 9, 1, 9, 7, 9], [9, 0, 9, 9, 4, 5, 6, 3, 9, 1, 7, 9], [9, 0, 9, 9, 4, 5, 6, 3, 9, 1, 7, 9], [9, 0, 9, 9, 4, 5, 6, 3, 9, 1, 7, 9], [9, 0, 9, 9, 9, 9, 9, 9, 9, 9, 7, 1]]
def toI (s ev : Int) : Int := (tabL.getD s.toNat []).getD (ev - 1).toNat 9
def InT (s ev : Int) : Prop := 0 ≤ s ∧ s ≤ 7 ∧ 1 ≤ ev ∧ ev ≤ 12
instance (s ev : Int) : Decidable (InT s ev) := by unfold InT; infer_instance
def nxS (s ev : Int) : Int := if InT s ev then (if toI s ev = 9 then s else toI s ev) else s
def nxB (s ev : Int) : Bool := decide (InT s ev ∧ toI s ev ≠ 9)
def mvB (s : Int) : Bool := decide (s = 2 ∨ s = 4 ∨ s = 5 ∨ s = 6)
def tkB (s : Int) : Bool := decide (s = 1 ∨ s = 4 ∨ s = 5 ∨ s = 6)
theorem eight_of (s : Int) (h0 : 0 ≤ s) (h1 : s ≤ 7) : s = 0 ∨ s = 1 ∨ s = 2 ∨ s = 3 ∨ s = 4 ∨ s = 5 ∨ s = 6 ∨ s = 7 := by omega
theorem twelve_of (e : Int) (h0 : 1 ≤ e) (h1 : e ≤ 12) : e = 1 ∨ e = 2 ∨ e = 3 ∨ e = 4 ∨ e = 5 ∨ e = 6 ∨ e = 7 ∨ e = 8 ∨ e = 9 ∨ e = 10 ∨ e = 11 ∨ e = 12 := by omega
theorem out_of {s ev : Int} (h : ¬ InT s ev) : nxS s ev = s ∧ nxB s ev = false := ⟨if_neg h, decide_eq_false fun h' => h h'.1⟩
/-- what is said of all that the table has, said of each of its places -/
theorem all_in {P : Int → Int → Prop} (h : ∀ i : Fin 8, ∀ j : Fin 12, P (i.val : Int) ((j.val : Int) + 1)) {s ev : Int} (hi : InT s ev) : P s ev := by
  obtain ⟨h0, h1, h2, h3⟩ := hi
  have := h ⟨s.toNat, by omega⟩ ⟨(ev - 1).toNat, by omega⟩
  have e1 : ((s.toNat : Nat) : Int) = s := by omega
  have e2 : (((ev - 1).toNat : Nat) : Int) + 1 = ev := by omega
  simp only [e1, e2] at this
  exact this
theorem shut {s ev : Int} (hi : InT s ev) :
    (0 ≤ nxS s ev ∧ nxS s ev ≤ 7) ∧ (nxB s ev = false → nxS s ev = s) ∧ (s = 7 → nxS s ev = 7 ∨ ev = 12 ∨ ev = 2) ∧ (5 ≤ ev ∧ ev ≤ 7 → nxB s ev = tkB s) ∧ (ev = 11 → nxB s ev = true ∧ nxS s ev = 7) :=
  all_in (P := fun s ev => (0 ≤ nxS s ev ∧ nxS s ev ≤ 7) ∧ (nxB s ev = false → nxS s ev = s) ∧ (s = 7 → nxS s ev = 7 ∨ ev = 12 ∨ ev = 2) ∧ (5 ≤ ev ∧ ev ≤ 7 → nxB s ev = tkB s) ∧ (ev = 11 → nxB s ev = true ∧ nxS s ev = 7)) (by decide +kernel) hi
/-- whether it is switched on, behind what happened -/
def onB (b : Bool) (s ev : Int) : Bool := if nxB s ev = true then (if ev = 1 then true else if ev = 2 then false else if ev = 12 then true else b) else b
theorem shut' {s ev : Int} (h0 : 0 ≤ s) (h1 : s ≤ 7) :
    (0 ≤ nxS s ev ∧ nxS s ev ≤ 7) ∧ (nxB s ev = false → nxS s ev = s) ∧ (s = 7 → nxS s ev = 7 ∨ ev = 12 ∨ ev = 2) ∧ (5 ≤ ev ∧ ev ≤ 7 → nxB s ev = tkB s) ∧ (ev = 11 → nxB s ev = true ∧ nxS s ev = 7) := by
  by_cases hi : InT s ev
  · exact shut hi
  · obtain ⟨e1, e2⟩ := out_of hi
    rw [e1, e2]
    unfold InT at hi
    refine ⟨⟨h0, h1⟩, fun _ => rfl, fun h => .inl h, fun h => absurd hi (by omega), fun h => absurd hi (by omega)⟩
theorem lives {s ev : Int} {b : Bool} (h0 : 0 ≤ s) (h1 : s ≤ 7) (hb : b = true ∨ s = 0 ∨ s = 7) :
    (0 ≤ nxS s ev ∧ nxS s ev ≤ 7) ∧ (onB b s ev = true ∨ nxS s ev = 0 ∨ nxS s ev = 7) ∧ (mvB (nxS s ev) = true → onB b s ev = true) := by
  by_cases hi : InT s ev
  · exact all_in (P := fun s ev => ∀ b : Bool, (b = true ∨ s = 0 ∨ s = 7) → (0 ≤ nxS s ev ∧ nxS s ev ≤ 7) ∧ (onB b s ev = true ∨ nxS s ev = 0 ∨ nxS s ev = 7) ∧ (mvB (nxS s ev) = true → onB b s ev = true)) (by decide +kernel) hi b hb
  · obtain ⟨e1, e2⟩ := out_of hi
    unfold onB
    rw [e1, e2]
    refine ⟨⟨h0, h1⟩, by simpa using hb, fun hm => ?_⟩
    rcases hb with h | h | h
    · simpa using h
    · rw [h] at hm; exact absurd hm (by decide)
    · rw [h] at hm; exact absurd hm (by decide)
end Go.Proofs.Ytcljilfbmodaiaa.ed
