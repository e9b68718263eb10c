/- A slice of integers of 16 bits as it lies in memory; what speeds add up to. No condition but what each line says. -/
import Derived.Test.YtgfhpdgohjnooaaKBase
namespace Go.Proofs.Ytgfhpdgohjnooaa
open Go.ChangeShapes Go.WideShapes Go.ChangeAt Go.RowKit
def IsRow (k : IntKind) (w : World) (a : Option Addr) (len cap : Nat) (zs : List Int) : Prop :=
  (a = none ∧ len = 0 ∧ cap = 0 ∧ zs = []) ∨
  ∃ x, a = some x ∧ len ≤ cap ∧ cap ≤ maxLen ∧ zs.length = cap ∧ (∀ i, i < zs.length → w.cell? (x.add i) = some (.int k (zs.getD i 0))) ∧ ∀ n ∈ zs, (Lit.int k n).wf = true
theorem IsRow.len {k : IntKind} {w : World} {a : Option Addr} {len cap : Nat} {zs : List Int} (h : IsRow k w a len cap zs) : (len : Int) ≤ 9223372036854775807 := by
  rcases h with ⟨_, h, _⟩ | ⟨x, _, h, h2, _⟩
  · omega
  · unfold maxLen at h2; omega
theorem wf16s {a : Int} (h : (Lit.int .i16 a).wf = true) : -32768 ≤ a ∧ a ≤ 32767 := by
  simp only [Lit.wf, IntKind.min, IntKind.max, IntKind.signed, IntKind.bits, Bool.and_eq_true, decide_eq_true_eq, if_true] at h
  omega
theorem IsRow.at {w : World} {a : Option Addr} {len cap : Nat} {zs : List Int} (h : IsRow .i16 w a len cap zs) (hp : 0 < len) :
    ∃ b off, a = some ⟨b, off, none⟩ ∧ b < w.heap.size ∧ ∀ r, r < len → ∃ x : Int, zs.getD r 0 = x ∧ (-32768 ≤ x ∧ x ≤ 32767) ∧ w.cell? ⟨b, off + r, none⟩ = some (.int .i16 x) := by
  rcases h with ⟨_, h, _⟩ | ⟨x, rfl, hl, hm, hz, hc, hw⟩
  · omega
  · obtain ⟨b, off, spot⟩ := x
    have h0 := hc 0 (by omega)
    have hspot : spot = none := by simpa [Addr.add] using World.cell?_spot h0
    subst hspot
    have e : ∀ r, (Addr.add ⟨b, off, none⟩ r) = ⟨b, off + r, none⟩ := fun r => by unfold Addr.add; by_cases h : r = 0 <;> simp [h]
    rw [e] at h0
    refine ⟨b, off, rfl, k.lt_of_cell h0, fun r hr => ⟨zs.getD r 0, rfl, ?_, ?_⟩⟩
    · refine wf16s (hw _ ?_)
      have hr2 : r < zs.length := by omega
      rw [List.getD_eq_getElem?_getD, List.getElem?_eq_getElem hr2]
      exact List.getElem_mem hr2
    · have := hc r (by omega)
      rwa [e] at this
end Go.Proofs.Ytgfhpdgohjnooaa
