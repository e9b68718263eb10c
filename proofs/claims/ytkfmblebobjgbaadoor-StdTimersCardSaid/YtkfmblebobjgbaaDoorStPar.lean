/- Bytes as they lie in memory, and their two lowest bits. No condition but what each line says. -/
import Derived.Test.YtkfmblebobjgbaaDoorStAwake
import Derived.Test.YtkfmblebobjgbaaDoorIRow
import Derived.Laws.BitsAllLaws
namespace Go.Proofs.YtkfmblebobjgbaaDoor.sd
open Go.ChangeShapes Go.WideShapes Go.ChangeAt Go.RowKit Go.Proofs.YtkfmblebobjgbaaDoor.k Go.Proofs.YtkfmblebobjgbaaDoor.rr Go.Proofs.YtkfmblebobjgbaaDoor
set_option linter.unusedVariables false

theorem len8 {w : World} {a : Option Addr} {len cap : Nat} {zs : List Int} (h : IsRow .u8 w a len cap zs) : (len : Int) ≤ 9223372036854775807 := by
  rcases h with ⟨_, h, _⟩ | ⟨x, _, h, h2, _⟩
  · omega
  · unfold maxLen at h2; omega
theorem at8 {w : World} {a : Option Addr} {len cap : Nat} {zs : List Int} (h : IsRow .u8 w a len cap zs) (hp : 0 < len) :
    ∃ b off, a = some ⟨b, off, none⟩ ∧ b < w.heap.size ∧ len ≤ cap ∧ cap ≤ maxLen ∧ ∀ r, r < len → ∃ x : Int, (0 ≤ x ∧ x ≤ 255) ∧ w.cell? ⟨b, off + r, none⟩ = some (.int .u8 x) := by
  rcases h with ⟨_, h, _⟩ | ⟨x, rfl, hl, hm, hz, hc, hw⟩
  · omega
  · obtain ⟨b, off, spot⟩ := x
    have h0 := hc 0 (by omega)
    have hspot : spot = none := by simpa [Addr.add] using World.cell?_spot h0
    subst hspot
    have e : ∀ r, (Addr.add ⟨b, off, none⟩ r) = ⟨b, off + r, none⟩ := fun r => by unfold Addr.add; by_cases h : r = 0 <;> simp [h]
    rw [e] at h0
    refine ⟨b, off, rfl, k.lt_of_cell h0, hl, hm, fun r hr => ⟨zs.getD r 0, ?_, ?_⟩⟩
    · refine k.wf8 (hw _ ?_)
      have hr2 : r < zs.length := by omega
      rw [List.getD_eq_getElem?_getD, List.getElem?_eq_getElem hr2]
      exact List.getElem_mem hr2
    · have := hc r (by omega)
      rwa [e] at this
theorem low_all : (List.range 256).all (fun n => (bits .and .u8 (n : Int) 1 == 0 || bits .and .u8 (n : Int) 1 == 1) && (bits .and .u8 (n : Int) 2 == 0 || bits .and .u8 (n : Int) 2 == 2)) = true := by kernel_rfl
theorem low {z : Int} (h : 0 ≤ z ∧ z ≤ 255) : (bits .and .u8 z 1 = 0 ∨ bits .and .u8 z 1 = 1) ∧ (bits .and .u8 z 2 = 0 ∨ bits .and .u8 z 2 = 2) := by
  have h1 := List.all_eq_true.1 low_all z.toNat (List.mem_range.2 (by omega))
  rw [show ((z.toNat : Nat) : Int) = z by omega] at h1
  simpa using h1
theorem box_drew {w : World} {g : Nat} : ∀ {vs : List Value} {o : Nat}, Box w g o vs → Box w.drew g o vs
  | [], _, _ => trivial
  | v :: vs, o, h => ⟨h.1, h.2.1, box_drew h.2.2⟩
theorem bit_in {m : Int} (h : m = 0 ∨ m = 1) : InR m := by unfold InR; omega
theorem bit2_in {m : Int} (h : m = 0 ∨ m = 2) : InR m := by unfold InR; omega
theorem wrap_id {n : Int} (h : -9223372036854775808 ≤ n) (h2 : n ≤ 9223372036854775807) : IntKind.i64.wrap n = n := by rw [IntKind.wrap_i64]; omega
def bi (b : Bool) : Int := if b = true then 1 else 0
theorem bi_in (b : Bool) : InR (bi b) := by cases b <;> unfold bi InR <;> simp
theorem b2_bi {p : Prop} [Decidable p] {b : Bool} (h : p ↔ b = true) : b2 p = bi b := by
  unfold b2 bi
  by_cases hp : p
  · rw [if_pos hp, if_pos (h.1 hp)]
  · rw [if_neg hp, if_neg fun hb => hp (h.2 hb)]
end Go.Proofs.YtkfmblebobjgbaaDoor.sd
