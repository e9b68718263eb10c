/- A slice of structs of integers as it lies in memory. No condition but what is read. -/
import Derived.Test.YtnghifbkiipigaaKBase
import Derived.Deep.Slices
namespace Go.Proofs.Ytnghifbkiipigaa
open Go.ChangeShapes Go.WideShapes Go.ChangeAt Go.RowKit
set_option linter.unusedVariables false

/-- a slice of structs of f integers as it lies in memory -/
def IsRecs (w : World) (f : Nat) (a : Option Addr) (len cap : Nat) : Prop :=
  (a = none ∧ len = 0 ∧ cap = 0) ∨ ∃ x, a = some x ∧ len ≤ cap ∧ cap ≤ maxLen ∧ ∀ i, i < len → ∃ xs : List Int, xs.length = f ∧ (∀ n ∈ xs, (Lit.int .i64 n).wf = true) ∧ ∀ (j : Nat) (v : Int), xs[j]? = some v → w.cell? (x.add (i * f + j)) = some (.int .i64 v)
/-- how it is read out of what a claim says of its argument -/
theorem recs_of {P : Program} {H : Type} {enc : TypeId × Value → H} {w : World} {base : Nat} {held : Bool} {fuel : Nat} {t e f : Nat} {cs : List Value} {y : DataW H × List MemPlace} (ht : P.underlying t = some (.slice e)) (hc : P.cellsOf e = f)
    (hr : ∀ {fuel : Nat} {cs : List Value} {y : DataW H × List MemPlace}, DataW.trod enc P w base (fun _ => true) held fuel e cs = some y → ∃ xs : List Int, xs.length = f ∧ (∀ n ∈ xs, (Lit.int .i64 n).wf = true) ∧ cs = xs.map fun n => Value.int .i64 n)
    (h : DataW.trod enc P w base (fun _ => true) held fuel t cs = some y) : ∃ a l c, cs = [.slice a l c] ∧ IsRecs w f a l c := by
  rcases Go.Deep.open_slice ht h with ⟨hcs, _⟩ | ⟨a, len, cap, m, n, D, Pl, hcs, _, hl, hm, hmm, _, hi⟩
  · exact ⟨none, 0, 0, hcs, .inl ⟨rfl, rfl, rfl⟩⟩
  · refine ⟨some a, len, cap, hcs, .inr ⟨a, rfl, hl, hm, fun i hil => ?_⟩⟩
    obtain ⟨cs', hcells, htrod⟩ := hi i (by rw [hmm]; simp; omega)
    obtain ⟨xs, hx, hw, rfl⟩ := hr htrod
    obtain ⟨_, hlen, hat⟩ := World.cells?_some hcells
    refine ⟨xs, hx, hw, fun j v hv => ?_⟩
    have hj : j < f := by rw [← hx]; exact (List.getElem?_eq_some_iff.1 hv).1
    have h1 := hat j (by rw [hc]; exact hj)
    have e1 : (a.add (i * P.cellsOf e)).add j = a.add (i * f + j) := by
      rw [hc]
      obtain ⟨b, o, s⟩ := a
      unfold Addr.add
      by_cases h0 : i * f = 0 <;> by_cases h2 : j = 0 <;> simp [h0, h2, Nat.add_assoc]
      all_goals (try omega)
    rw [e1] at h1
    rw [h1, List.getElem?_map, hv]
    rfl
/-- a record's cells, one behind the other -/
theorem IsRecs.at {w : World} {f : Nat} {a : Option Addr} {len cap : Nat} (h : IsRecs w f a len cap) (hf : 0 < f) (hp : 0 < len) :
    ∃ b off, a = some ⟨b, off, none⟩ ∧ b < w.heap.size ∧ len ≤ cap ∧ cap ≤ maxLen ∧ ∀ i, i < len → ∃ xs : List Int, xs.length = f ∧ (∀ n ∈ xs, (Lit.int .i64 n).wf = true) ∧ ∀ (j : Nat) (v : Int), xs[j]? = some v → w.cell? ⟨b, off + i * f + j, none⟩ = some (.int .i64 v) := by
  rcases h with ⟨_, h, _⟩ | ⟨x, rfl, hl, hm, hc⟩
  · omega
  · obtain ⟨b, off, spot⟩ := x
    obtain ⟨xs, hx, _, h0⟩ := hc 0 hp
    have h1 := h0 0 (xs[0]'(by omega)) (List.getElem?_eq_getElem (by omega))
    have hspot : spot = none := by simpa [Addr.add] using World.cell?_spot h1
    subst hspot
    have e : ∀ r, (Addr.add ⟨b, off, none⟩ r) = ⟨b, off + r, none⟩ := fun r => by unfold Addr.add; by_cases h : r = 0 <;> simp [h]
    have h2 := h1
    rw [e] at h2
    refine ⟨b, off, rfl, k.lt_of_cell h2, hl, hm, fun i hi => ?_⟩
    obtain ⟨ys, hy, hw, hcell⟩ := hc i hi
    refine ⟨ys, hy, hw, fun j v hv => ?_⟩
    have := hcell j v hv
    rw [e, ← Nat.add_assoc] at this
    exact this
end Go.Proofs.Ytnghifbkiipigaa
