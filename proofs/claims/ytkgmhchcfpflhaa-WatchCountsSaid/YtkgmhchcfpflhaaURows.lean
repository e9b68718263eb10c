/- A slice of slices of bytes that came in. No condition but what is read. -/
import Derived.Test.YtkgmhchcfpflhaaUAwake
import Derived.Deep.Matrix
import Derived.Deep.CutRange
namespace Go.Proofs.Ytkgmhchcfpflhaa
open Go.ChangeShapes Go.WideShapes Go.ChangeAt Go.RowKit Go.Proofs.Ytkgmhchcfpflhaa.s
set_option linter.unusedVariables false

/-- a slice of slices as it lies in memory -/
def IsRows (k : IntKind) (w : World) (a : Option Addr) (len cap : Nat) (A : Nat → Option Addr) (L C : Nat → Nat) (Z : Nat → List Int) : Prop :=
  (a = none ∧ len = 0 ∧ cap = 0) ∨ ∃ x, a = some x ∧ len ≤ cap ∧ cap ≤ maxLen ∧ ∀ r, r < cap → w.cell? (x.add r) = some (.slice (A r) (L r) (C r)) ∧ IsRow k w (A r) (L r) (C r) (Z r)
theorem IsRows.row {k : IntKind} {w : World} {a : Option Addr} {len cap : Nat} {A : Nat → Option Addr} {L C : Nat → Nat} {Z : Nat → List Int} (h : IsRows k w a len cap A L C Z) (hp : 0 < len) :
    ∃ b off, a = some ⟨b, off, none⟩ ∧ b < w.heap.size ∧ len ≤ cap ∧ cap ≤ maxLen ∧ ∀ r, r < len → w.cell? ⟨b, off + r, none⟩ = some (.slice (A r) (L r) (C r)) ∧ IsRow k w (A r) (L r) (C r) (Z r) := by
  rcases h with ⟨_, h, _⟩ | ⟨x, rfl, hl, hm, hc⟩
  · omega
  · obtain ⟨b, off, spot⟩ := x
    have h0 := (hc 0 (by omega)).1
    have hspot : spot = none := by simpa [Addr.add] using World.cell?_spot h0
    subst hspot
    have e : ∀ r, (Addr.add ⟨b, off, none⟩ r) = ⟨b, off + r, none⟩ := fun r => by unfold Addr.add; by_cases h : r = 0 <;> simp [h]
    rw [e] at h0
    exact ⟨b, off, rfl, lt_of_cell h0, hl, hm, fun r hr => by have := hc r (by omega); rw [e] at this; exact this⟩
end Go.Proofs.Ytkgmhchcfpflhaa
namespace Go.Proofs.Ytkgmhchcfpflhaa.u
open Go.ChangeShapes Go.WideShapes Go.ChangeAt Go.RowKit Go.Proofs.Ytkgmhchcfpflhaa.s Go.Proofs.Ytkgmhchcfpflhaa.t
set_option linter.unusedVariables false
/-- three cells of a block of the call's own -/
def Box3 (w : World) (g : Nat) (a b c : Int) : Prop :=
  w.cell? ⟨g, 0, none⟩ = some (.int .i64 a) ∧ w.cell? ⟨g, 1, none⟩ = some (.int .i64 b) ∧ w.cell? ⟨g, 2, none⟩ = some (.int .i64 c) ∧
    w.frozen? ⟨g, 0, none⟩ = false ∧ w.frozen? ⟨g, 1, none⟩ = false ∧ w.frozen? ⟨g, 2, none⟩ = false
theorem Box3.below {w w' : World} {g B : Nat} {a b c : Int} (h : Box3 w g a b c) (hb : Below B w w') (hg : g < B) : Box3 w' g a b c := by
  obtain ⟨h0, h1, h2, f0, f1, f2⟩ := h
  exact ⟨(hb.cell (p := ⟨g, 0, none⟩) hg).trans h0, (hb.cell (p := ⟨g, 1, none⟩) hg).trans h1, (hb.cell (p := ⟨g, 2, none⟩) hg).trans h2,
    (hb.frozen (p := ⟨g, 0, none⟩) hg).trans f0, (hb.frozen (p := ⟨g, 1, none⟩) hg).trans f1, (hb.frozen (p := ⟨g, 2, none⟩) hg).trans f2⟩
theorem Box3.put {w : World} {g : Nat} {a b c : Int} (h : Box3 w g a b c) (x y z : Int) :
    ∃ W, (((w.setCell ⟨g, 0, none⟩ (.int .i64 x)).setCell ⟨g, 1, none⟩ (.int .i64 y)).setCell ⟨g, 2, none⟩ (.int .i64 z)) = W ∧ Box3 W g x y z ∧ W.heap.size = w.heap.size ∧ ∀ B, B ≤ g → Below B w W := by
  obtain ⟨h0, h1, h2, f0, f1, f2⟩ := h
  refine ⟨_, rfl, ⟨?_, ?_, ?_, ?_, ?_, ?_⟩, by simp, fun B hB => (((Below.refl _ _).setCell hB _).setCell hB _).setCell hB _⟩ <;> simp [go_sem, h0, h1, h2, f0, f1, f2]
theorem bcell {W w1 : World} (hb : Below W.heap.size W w1) : (∀ b o, b < W.heap.size → w1.cell? ⟨b, o, none⟩ = W.cell? ⟨b, o, none⟩) ∧ (∀ b o, b < W.heap.size → w1.frozen? ⟨b, o, none⟩ = W.frozen? ⟨b, o, none⟩) :=
  ⟨fun b o h => hb.cell (p := ⟨b, o, none⟩) h, fun b o h => hb.frozen (p := ⟨b, o, none⟩) h⟩
/-- what a cycle makes of a watch, whatever came -/
theorem come_either (lim mis last : Int) (h : RightW lim mis last) (l : List (BitVec 8)) (n : Nat) (hn : l.length = n) (hl : l.length ≤ 10000) (A : Option Addr) (cap : Nat) (hcap : n ≤ cap) (hmax : cap ≤ maxLen) (w : World) (hA : Bytes w w.heap.size A l) :
    ∃ (n1 n2 f0 f1 f2 : Int) (ok : Bool), ((ok = true ∧ n1 = 0) ∨ (ok = false ∧ n1 = (if mis < lim then mis + 1 else mis))) ∧ -1 ≤ n2 ∧ n2 ≤ 255 ∧
      ∀ W, Below w.heap.size w W → Calls Try.prog 8 #[.agg #[.int .i64 lim, .int .i64 mis, .int .i64 last], .slice A n cap] W fun e w' => e = .returned (.tuple #[.agg #[.int .i64 lim, .int .i64 n1, .int .i64 n2], .agg #[.int .i64 f0, .int .i64 f1, .int .i64 f2], .bool ok]) ∧ Below W.heap.size W w' := by
  by_cases hc : Counts last l
  · have hS := rS_in signF 127 l
    exact ⟨0, _, _, _, _, true, .inl ⟨rfl, rfl⟩, by omega, hS.2, fun W hb => (come_right lim mis last h l n hn hl _ A cap hcap hmax W (hA.below hb) hb.size).mono fun e w' ⟨h1, h2⟩ => h2.elim (fun x => ⟨x.2, h1⟩) (fun x => absurd hc x.1)⟩
  · exact ⟨_, last, _, _, _, false, .inr ⟨rfl, rfl⟩, h.2.2.2.2.1, h.2.2.2.2.2, fun W hb => (come_right lim mis last h l n hn hl _ A cap hcap hmax W (hA.below hb) hb.size).mono fun e w' ⟨h1, h2⟩ => h2.elim (fun x => absurd x.1 hc) (fun x => ⟨x.2, h1⟩)⟩
end Go.Proofs.Ytkgmhchcfpflhaa.u
