/- Rows of whole numbers as the layer std takes and gives them, and its blocks as functions of their cells. No condition but what each line says. -/
import Derived.Test.YtkfmblebobjgbaaDoorLnRow
import Derived.Test.YtkfmblebobjgbaaDoorKOrd
namespace Go.Proofs.YtkfmblebobjgbaaDoor.sd
open Go.ChangeShapes Go.WideShapes Go.ChangeAt Go.RowKit Go.Proofs.YtkfmblebobjgbaaDoor.k Go.Proofs.YtkfmblebobjgbaaDoor.rr
set_option linter.unusedVariables false

def i1 (x : Int) : List Value := [.int .i64 x]
def InR (x : Int) : Prop := -9223372036854775808 ≤ x ∧ x ≤ 9223372036854775807
/-- a row of whole numbers as it lies in memory -/
abbrev RdI (w : World) (B : Nat) (A : Option Addr) (n cap : Nat) (L : List Int) : Prop := rr.Rd i1 1 w B A n cap L
/-- what a call gives: a row in a new block -/
def GotB (n : Nat) (L : List Int) (w : World) (e : Ending) (w' : World) : Prop :=
  ∃ g cap, e = .returned (.slice (some ⟨g, 0, none⟩) n cap) ∧ w.heap.size ≤ g ∧ g < w'.heap.size ∧ n ≤ cap ∧ cap ≤ maxLen ∧ L.length = n ∧ Box w' g 0 (L.map fun x => .int .i64 x) ∧ Below w.heap.size w w'
theorem box_nth {w : World} {g : Nat} : ∀ {vs : List Value} {o i : Nat} {v : Value}, Box w g o vs → vs[i]? = some v → w.cell? ⟨g, o + i, none⟩ = some v ∧ w.frozen? ⟨g, o + i, none⟩ = false
  | u :: vs, o, 0, v, h, e => by
    have e : u = v := by simpa using e
    subst e
    exact ⟨h.1, h.2.1⟩
  | u :: vs, o, i + 1, v, h, e => by
    have := box_nth (vs := vs) (o := o + 1) (i := i) h.2.2 (by simpa using e)
    rwa [show o + 1 + i = o + (i + 1) by omega] at this
  | [], o, i, v, h, e => by simp at e
theorem rd_box {w : World} {g B n cap : Nat} {L : List Int} (h : Box w g 0 (L.map fun x => .int .i64 x)) (hB : g < B) (hc : n ≤ cap) (hm : cap ≤ maxLen) (hl : L.length = n) : RdI w B (some ⟨g, 0, none⟩) n cap L :=
  ⟨hl, hc, hm, (fun h => by cases h), fun _ => ⟨g, 0, rfl, hB, fun i x hx j u hu => by
    have hj : j = 0 := by
      rcases Nat.lt_or_ge j 1 with h | h
      · omega
      · rw [List.getElem?_eq_none (by simpa [i1] using h)] at hu; cases hu
    subst hj
    have hu : Value.int .i64 x = u := by simpa [i1] using hu
    subst hu
    rw [Nat.mul_one]
    exact (box_nth h (by rw [List.getElem?_map, hx]; rfl)).1⟩⟩
theorem flat_i1 (L : List Int) : L.flatMap i1 = L.map fun x => Value.int .i64 x := by
  induction L with
  | nil => rfl
  | cons x L ih => rw [List.flatMap_cons, ih]; rfl
theorem got_ow {t : TypeId} {L : List Int} {w w' : World} {v : Value} (h : Ow i1 1 t w' w.heap.size v L) (hp : L ≠ []) (hb : Below w.heap.size w w') : GotB L.length L w (.returned v) w' := by
  rcases h.2 with ⟨rfl, h0⟩ | ⟨g, cap, cur, rfl, hB, hg, hle, hmax, hcs, htake⟩
  · exact absurd (List.eq_nil_of_length_eq_zero h0) hp
  · refine ⟨g, cap, rfl, hB, (Array.getElem?_eq_some_iff.1 hg).1, hle, hmax, rfl, Box.at fun i v hv => ?_, hb⟩
    have hl : (L.flatMap i1)[i]? = some v := by rw [List.getElem?_map] at hv; rw [flat_i1, List.getElem?_map, hv]
    have hc := World.ownsRow.cells (g := g) h rfl i v hl
    have e : (Addr.add ⟨g, 0, none⟩ i) = ⟨g, 0 + i, none⟩ := by unfold Addr.add; by_cases h : i = 0 <;> simp [h]
    rw [e] at hc
    refine ⟨hc, ?_⟩
    simp only [World.frozen?, hg]
    simp
def b2 (p : Prop) [Decidable p] : Int := if p then 1 else 0
theorem b2_ne {p : Prop} [Decidable p] : b2 p ≠ 0 ↔ p := by unfold b2; split <;> simp [*]
theorem b2_eq {p : Prop} [Decidable p] : b2 p = 0 ↔ ¬ p := by unfold b2; split <;> simp [*]
def up (et pt : Int) : Int := if et < pt then et + 1 else et
def tonL (i pt et : Int) : List Int := if i = 0 then [i, pt, 0, 0] else [i, pt, b2 (pt ≤ up et pt), up et pt]
def rising (i p r : Int) : Bool := i != 0 && (p == 0 && r == 0)
def tpL (i pt q et p r : Int) : List Int :=
  if rising i p r = true then (if 0 < pt then [i, pt, 1, 1, b2 (i ≠ 0), 1] else [i, pt, 0, 0, b2 (i ≠ 0), 0])
  else if r ≠ 0 then (if et < pt then [i, pt, 1, et + 1, b2 (i ≠ 0), 1] else [i, pt, 0, et, b2 (i ≠ 0), 0])
  else [i, pt, q, et, b2 (i ≠ 0), r]
def cuV (cu r cv p : Int) : Int := if r ≠ 0 then 0 else if cu ≠ 0 ∧ p = 0 ∧ cv ≠ 9223372036854775807 then cv + 1 else cv
def ctuL (cu r pv cv p : Int) : List Int := [cu, r, pv, b2 (pv ≤ cuV cu r cv p), cuV cu r cv p, b2 (cu ≠ 0)]
def rtL (c p : Int) : List Int := [c, b2 (c ≠ 0 ∧ p = 0), b2 (c ≠ 0)]
def ftL (c p : Int) : List Int := [c, b2 (c = 0 ∧ p ≠ 0), b2 (c ≠ 0)]
def srL (s r q : Int) : List Int := [s, r, b2 (s ≠ 0 ∨ (q ≠ 0 ∧ r = 0))]
def rsL (s r q : Int) : List Int := [s, r, b2 ((s ≠ 0 ∨ q ≠ 0) ∧ r = 0)]
end Go.Proofs.YtkfmblebobjgbaaDoor.sd
