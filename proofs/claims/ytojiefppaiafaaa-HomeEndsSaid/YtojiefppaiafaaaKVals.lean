/- A slice of structs of integers and truths as it lies in memory. No condition but what is read. -/
import Derived.Test.YtojiefppaiafaaaKBase
import Derived.Deep.Slices
namespace Go.Proofs.Ytojiefppaiafaaa
open Go.ChangeShapes Go.WideShapes Go.ChangeAt Go.RowKit
set_option linter.unusedVariables false

/-- an integer of that kind, or a truth -/
def okV : Option IntKind → Value → Prop
  | some k, v => ∃ n : Int, v = .int k n ∧ (Lit.int k n).wf = true
  | none, v => ∃ b : Bool, v = .bool b
def okVs : List (Option IntKind) → List Value → Prop
  | [], [] => True
  | k :: ks, v :: vs => okV k v ∧ okVs ks vs
  | _, _ => False
theorem okVs_len : ∀ {ks : List (Option IntKind)} {vs : List Value}, okVs ks vs → vs.length = ks.length
  | [], [], _ => rfl
  | k :: ks, v :: vs, h => by simp [okVs_len h.2]
  | [], v :: vs, h => by cases h
  | k :: ks, [], h => by cases h
/-- a slice of structs as it lies in memory -/
def IsVals (w : World) (ks : List (Option IntKind)) (a : Option Addr) (len cap : Nat) : Prop :=
  (a = none ∧ len = 0 ∧ cap = 0) ∨ ∃ x, a = some x ∧ len ≤ cap ∧ cap ≤ maxLen ∧ ∀ i, i < len → ∃ vs : List Value, okVs ks vs ∧ ∀ (j : Nat) (v : Value), vs[j]? = some v → w.cell? (x.add (i * ks.length + j)) = some v
theorem vals_of {P : Program} {H : Type} {enc : TypeId × Value → H} {w : World} {base : Nat} {held : Bool} {fuel : Nat} {t e : Nat} {ks : List (Option IntKind)} {cs : List Value} {y : DataW H × List MemPlace} (ht : P.underlying t = some (.slice e)) (hc : P.cellsOf e = ks.length)
    (hr : ∀ {fuel : Nat} {cs : List Value} {y : DataW H × List MemPlace}, DataW.trod enc P w base (fun _ => true) held fuel e cs = some y → okVs ks cs)
    (h : DataW.trod enc P w base (fun _ => true) held fuel t cs = some y) : ∃ a l c, cs = [.slice a l c] ∧ IsVals w ks a l c := by
  rcases Go.Deep.open_slice ht h with ⟨hcs, _⟩ | ⟨a, len, cap, m, n, D, Pl, hcs, _, hl, hm, hmm, _, hi⟩
  · exact ⟨none, 0, 0, hcs, .inl ⟨rfl, rfl, rfl⟩⟩
  · refine ⟨some a, len, cap, hcs, .inr ⟨a, rfl, hl, hm, fun i hil => ?_⟩⟩
    obtain ⟨cs', hcells, htrod⟩ := hi i (by rw [hmm]; simp; omega)
    have hx := hr htrod
    obtain ⟨_, hlen, hat⟩ := World.cells?_some hcells
    refine ⟨cs', hx, fun j v hv => ?_⟩
    have hj : j < ks.length := by rw [← okVs_len hx]; exact (List.getElem?_eq_some_iff.1 hv).1
    have h1 := hat j (by rw [hc]; exact hj)
    have e1 : (a.add (i * P.cellsOf e)).add j = a.add (i * ks.length + j) := by
      rw [hc]
      obtain ⟨b, o, s⟩ := a
      unfold Addr.add
      by_cases h0 : i * ks.length = 0 <;> by_cases h2 : j = 0 <;> simp [h0, h2, Nat.add_assoc]
      all_goals (try omega)
    rw [e1] at h1
    rw [h1, hv]
/-- a record's cells, one behind the other -/
theorem IsVals.at {w : World} {ks : List (Option IntKind)} {a : Option Addr} {len cap : Nat} (h : IsVals w ks a len cap) (hf : 0 < ks.length) (hp : 0 < len) :
    ∃ b off, a = some ⟨b, off, none⟩ ∧ b < w.heap.size ∧ len ≤ cap ∧ cap ≤ maxLen ∧ ∀ i, i < len → ∃ vs : List Value, okVs ks vs ∧ ∀ (j : Nat) (v : Value), vs[j]? = some v → w.cell? ⟨b, off + i * ks.length + j, none⟩ = some v := by
  rcases h with ⟨_, h, _⟩ | ⟨x, rfl, hl, hm, hc⟩
  · omega
  · obtain ⟨b, off, spot⟩ := x
    obtain ⟨xs, hx, h0⟩ := hc 0 hp
    have hxl := okVs_len hx
    have h1 := h0 0 (xs[0]'(by omega)) (List.getElem?_eq_getElem (by omega))
    have hspot : spot = none := by simpa [Addr.add] using World.cell?_spot h1
    subst hspot
    have e : ∀ r, (Addr.add ⟨b, off, none⟩ r) = ⟨b, off + r, none⟩ := fun r => by unfold Addr.add; by_cases h : r = 0 <;> simp [h]
    have h2 := h1
    rw [e] at h2
    refine ⟨b, off, rfl, k.lt_of_cell h2, hl, hm, fun i hi => ?_⟩
    obtain ⟨ys, hy, hcell⟩ := hc i hi
    refine ⟨ys, hy, fun j v hv => ?_⟩
    have := hcell j v hv
    rw [e, ← Nat.add_assoc] at this
    exact this
theorem IsVals.len_le {w : World} {ks : List (Option IntKind)} {a : Option Addr} {len cap : Nat} (h : IsVals w ks a len cap) : (len : Int) ≤ 9223372036854775807 := by
  rcases h with ⟨_, h, _⟩ | ⟨x, _, h, h2, _⟩
  · omega
  · unfold maxLen at h2; omega
end Go.Proofs.Ytojiefppaiafaaa
