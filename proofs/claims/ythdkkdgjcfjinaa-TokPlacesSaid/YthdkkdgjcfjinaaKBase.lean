/- Cells of a call's own that are known, whatever a call makes behind them. No condition but what each line says. -/
import Derived.Test.YthdkkdgjcfjinaaRows
import Derived.ProofKit
import Derived.OpenShut
import Derived.WalkKit
import Derived.WalkLawsBesides
import Derived.Below
import Derived.ShutString
import Derived.ChangeOld
import Derived.Lib.MinMax
import Derived.Lib.Hide
import Derived.RegionTactic
import Derived.Deep.QuietTactic
import Derived.BigQuiet
import Derived.LoopTactic
import Derived.Deep.Cut
import Derived.Deep.CutRange
import Derived.Deep.RegionHeld3
import Derived.Deep.Grids
import Derived.StillTailTactics
namespace Go.Proofs.Ythdkkdgjcfjinaa.k
open Go.ChangeShapes Go.WideShapes Go.ChangeAt Go.RowKit
set_option linter.unusedVariables false

theorem wf8 {a : Int} (h : (Lit.int .u8 a).wf = true) : 0 ≤ a ∧ a ≤ 255 := by
  simp only [Lit.wf, IntKind.min, IntKind.max, IntKind.signed, IntKind.bits, Bool.and_eq_true] at h
  simp at h
  omega
theorem wf64 {a : Int} (h : (Lit.int .i64 a).wf = true) : -9223372036854775808 ≤ a ∧ a ≤ 9223372036854775807 := by
  simp only [Lit.wf, IntKind.min, IntKind.max, IntKind.signed, IntKind.bits, Bool.and_eq_true, decide_eq_true_eq, if_true] at h
  omega
theorem lt_of_cell {w : World} {b o : Nat} {v : Value} (h : w.cell? ⟨b, o, none⟩ = some v) : b < w.heap.size := by
  rcases Nat.lt_or_ge b w.heap.size with h' | h'
  · exact h'
  · simp [World.cell?, Array.getElem?_eq_none h'] at h
theorem ret_int {k : IntKind} {a b : Int} (h : a = b) : Ending.returned (.int k a) = .returned (.int k b) := by rw [h]
theorem ret_bool {a b : Bool} (h : a = b) : Ending.returned (.bool a) = .returned (.bool b) := by rw [h]

/-- a block's cells from a place on: what they hold; they may be written -/
def Box (w : World) (g : Nat) : Nat → List Value → Prop
  | _, [] => True
  | o, v :: vs => w.cell? ⟨g, o, none⟩ = some v ∧ w.frozen? ⟨g, o, none⟩ = false ∧ Box w g (o + 1) vs
theorem Box.below' {w w' : World} {g B : Nat} (hb : Below B w w') (hg : g < B) : ∀ {vs : List Value} {o : Nat}, Box w g o vs → Box w' g o vs
  | [], _, _ => trivial
  | v :: vs, o, h => ⟨(hb.cell (p := ⟨g, o, none⟩) hg).trans h.1, (hb.frozen (p := ⟨g, o, none⟩) hg).trans h.2.1, Box.below' hb hg h.2.2⟩
theorem Box.below {w w' : World} {g B o : Nat} {vs : List Value} (h : Box w g o vs) (hb : Below B w w') (hg : g < B) : Box w' g o vs := Box.below' hb hg h
theorem Box.drawn {w : World} {g : Nat} (n : Nat) : ∀ {vs : List Value} {o : Nat}, Box w g o vs → Box (w.drewN n) g o vs
  | [], _, _ => trivial
  | v :: vs, o, h => ⟨h.1, h.2.1, Box.drawn n h.2.2⟩
theorem Box.at {w : World} {g : Nat} {o : Nat} {vs : List Value} (h : ∀ i v, vs[i]? = some v → w.cell? ⟨g, o + i, none⟩ = some v ∧ w.frozen? ⟨g, o + i, none⟩ = false) : Box w g o vs := by
  induction vs generalizing o with
  | nil => exact trivial
  | cons v vs ih =>
    refine ⟨(h 0 v rfl).1, (h 0 v rfl).2, ih fun i u hu => ?_⟩
    have := h (i + 1) u (by simpa using hu)
    rwa [show o + (i + 1) = o + 1 + i by omega] at this
theorem Box.new (w : World) (cs : Array Value) (t : TypeId) : Box (w.alloc (.cells cs t)) w.heap.size 0 cs.toList := Box.at fun i v hv => by
  rw [Nat.zero_add]
  refine ⟨(World.cell?_alloc_mark w cs t (0, 0) i).trans (by simpa using hv), ?_⟩
  have h := heap_alloc_new w (.cells cs t)
  simp only [World.frozen?, h]
  simp
/-- values laid one behind the other -/
def puts (w : World) (g : Nat) : Nat → List Value → World
  | _, [] => w
  | o, v :: vs => puts (w.setCell ⟨g, o, none⟩ v) g (o + 1) vs
theorem setCell_box {w : World} {g : Nat} (o : Nat) (x : Value) : ∀ {vs : List Value} {p : Nat}, o < p → Box w g p vs → Box (w.setCell ⟨g, o, none⟩ x) g p vs
  | [], _, _, _ => trivial
  | v :: vs, p, h, hb => by
    refine ⟨?_, ?_, setCell_box o x (by omega) hb.2.2⟩
    · have hne : ¬ p = o := by omega
      have h2 := hb.1
      simp [go_sem, h2]
      try (intro e; omega)
    · have h2 := hb.2.1
      simp [go_sem, h2]
theorem puts_keep {w : World} {g p : Nat} {v : Value} (h : w.cell? ⟨g, p, none⟩ = some v) (hf : w.frozen? ⟨g, p, none⟩ = false) : ∀ (us : List Value) (o : Nat), p < o → (puts w g o us).cell? ⟨g, p, none⟩ = some v ∧ (puts w g o us).frozen? ⟨g, p, none⟩ = false := by
  intro us
  induction us generalizing w with
  | nil => intro o _; exact ⟨h, hf⟩
  | cons u us ih =>
    intro o ho
    refine ih (w := w.setCell ⟨g, o, none⟩ u) ?_ ?_ (o + 1) (by omega)
    · simp [go_sem, h]
      try (intro e; omega)
    · simp [go_sem, hf]
theorem Box.puts {g : Nat} : ∀ {us vs : List Value} {w : World} {o : Nat}, Box w g o vs → us.length = vs.length →
    Box (k.puts w g o us) g o us ∧ (k.puts w g o us).heap.size = w.heap.size ∧ ∀ B, B ≤ g → Below B w (k.puts w g o us)
  | [], _, w, o, _, _ => ⟨trivial, rfl, fun B _ => Below.refl _ _⟩
  | u :: us, [], _, _, _, hl => by simp at hl
  | u :: us, v :: vs, w, o, h, hl => by
    have h1 : (w.setCell ⟨g, o, none⟩ u).cell? ⟨g, o, none⟩ = some u ∧ (w.setCell ⟨g, o, none⟩ u).frozen? ⟨g, o, none⟩ = false := by
      have a := h.1
      have b := h.2.1
      constructor <;> simp [go_sem, a, b]
    obtain ⟨i1, i2, i3⟩ := Box.puts (us := us) (vs := vs) (w := w.setCell ⟨g, o, none⟩ u) (o := o + 1) (setCell_box o u (by omega) h.2.2) (by simpa using hl)
    have h2 := puts_keep h1.1 h1.2 us (o + 1) (by omega)
    refine ⟨⟨h2.1, h2.2, i1⟩, by rw [show k.puts w g o (u :: us) = k.puts (w.setCell ⟨g, o, none⟩ u) g (o + 1) us from rfl, i2]; simp, fun B hB => (((Below.refl _ _).setCell hB _)).trans (i3 B hB)⟩
theorem below_drawn {B : Nat} {a w : World} (h : Below B a w) (n : Nat) : Below B a (w.drewN n) := h.trans ⟨rfl, rfl, rfl, Nat.le_refl _, fun _ _ => rfl⟩
theorem bcell {W w1 : World} (hb : Below W.heap.size W w1) : (∀ b o, b < W.heap.size → w1.cell? ⟨b, o, none⟩ = W.cell? ⟨b, o, none⟩) ∧ (∀ b o, b < W.heap.size → w1.frozen? ⟨b, o, none⟩ = W.frozen? ⟨b, o, none⟩) :=
  ⟨fun b o h => hb.cell (p := ⟨b, o, none⟩) h, fun b o h => hb.frozen (p := ⟨b, o, none⟩) h⟩
/-- a boxed parameter, behind a call -/
theorem new_cell {w w' : World} {cs : Array Value} {t : TypeId} (hb : Below (w.alloc (.cells cs t)).heap.size (w.alloc (.cells cs t)) w') (i : Nat) (h : i < cs.size) : w'.cell? ⟨w.heap.size, i, none⟩ = cs[i]? ∧ w'.frozen? ⟨w.heap.size, i, none⟩ = false := by
  have hl : w.heap.size < (w.alloc (.cells cs t)).heap.size := by simp
  exact ⟨(hb.cell (p := ⟨w.heap.size, i, none⟩) hl).trans (World.cell?_alloc_mark w cs t (0, 0) i), (hb.frozen (p := ⟨w.heap.size, i, none⟩) hl).trans (by
    have h := heap_alloc_new w (.cells cs t)
    simp only [World.frozen?, h]
    simp)⟩
theorem boxes1 {w w' : World} {c1 : Array Value} {t1 : TypeId} (hb : Below (w.alloc (.cells c1 t1)).heap.size (w.alloc (.cells c1 t1)) w') :
    Box w' w.heap.size 0 c1.toList ∧ Below w.heap.size w w' ∧ w.heap.size < w'.heap.size := by
  have hs : (w.alloc (.cells c1 t1)).heap.size = w.heap.size + 1 := by simp
  exact ⟨Box.below' hb (by omega) (Box.new w c1 t1), ((Below.refl _ _).alloc (Nat.le_refl _) _).trans (hb.mono (by omega)), by have := hb.size; omega⟩
theorem boxes2 {w w' : World} {c1 c2 : Array Value} {t1 t2 : TypeId} (hb : Below ((w.alloc (.cells c1 t1)).alloc (.cells c2 t2)).heap.size ((w.alloc (.cells c1 t1)).alloc (.cells c2 t2)) w') :
    Box w' w.heap.size 0 c1.toList ∧ Box w' (w.heap.size + 1) 0 c2.toList ∧ Below w.heap.size w w' ∧ w.heap.size + 1 < w'.heap.size := by
  have hs : (w.alloc (.cells c1 t1)).heap.size = w.heap.size + 1 := by simp
  obtain ⟨b2, h2, s2⟩ := boxes1 hb
  rw [hs] at b2 s2
  obtain ⟨b1, h1, s1⟩ := boxes1 (w := w) (c1 := c1) (t1 := t1) h2
  exact ⟨b1, b2, h1, s2⟩
theorem boxes3 {w w' : World} {c1 c2 c3 : Array Value} {t1 t2 t3 : TypeId} (hb : Below (((w.alloc (.cells c1 t1)).alloc (.cells c2 t2)).alloc (.cells c3 t3)).heap.size (((w.alloc (.cells c1 t1)).alloc (.cells c2 t2)).alloc (.cells c3 t3)) w') :
    Box w' w.heap.size 0 c1.toList ∧ Box w' (w.heap.size + 1) 0 c2.toList ∧ Box w' (w.heap.size + 2) 0 c3.toList ∧ Below w.heap.size w w' ∧ w.heap.size + 2 < w'.heap.size := by
  have hs : ((w.alloc (.cells c1 t1)).alloc (.cells c2 t2)).heap.size = w.heap.size + 2 := by simp
  obtain ⟨b3, h3, s3⟩ := boxes1 hb
  rw [hs] at b3 s3
  obtain ⟨b1, b2, h1, s2⟩ := boxes2 h3
  exact ⟨b1, b2, b3, h1, s3⟩
/-- a slice of truths as it lies in memory -/
def IsTruths (w : World) (a : Option Addr) (len cap : Nat) (V : Nat → Bool) : Prop :=
  (a = none ∧ len = 0 ∧ cap = 0) ∨ ∃ x, a = some x ∧ len ≤ cap ∧ cap ≤ maxLen ∧ ∀ r, r < cap → w.cell? (x.add r) = some (.bool (V r))
theorem IsTruths.row {w : World} {a : Option Addr} {len cap : Nat} {V : Nat → Bool} (h : IsTruths w a len cap V) (hp : 0 < len) :
    ∃ b off, a = some ⟨b, off, none⟩ ∧ b < w.heap.size ∧ len ≤ cap ∧ cap ≤ maxLen ∧ ∀ r, r < len → w.cell? ⟨b, off + r, none⟩ = some (.bool (V r)) := by
  rcases h with ⟨_, h, _⟩ | ⟨x, rfl, hl, hm, hc⟩
  · omega
  · obtain ⟨b, off, spot⟩ := x
    have h0 := hc 0 (by omega)
    have hspot : spot = none := by simpa [Addr.add] using World.cell?_spot h0
    subst hspot
    have e : ∀ r, (Addr.add ⟨b, off, none⟩ r) = ⟨b, off + r, none⟩ := fun r => by unfold Addr.add; by_cases h : r = 0 <;> simp [h]
    rw [e] at h0
    exact ⟨b, off, rfl, lt_of_cell h0, hl, hm, fun r hr => by have := hc r (by omega); rw [e] at this; exact this⟩
theorem IsTruths.len {w : World} {a : Option Addr} {len cap : Nat} {V : Nat → Bool} (h : IsTruths w a len cap V) : (len : Int) ≤ 9223372036854775807 := by
  rcases h with ⟨_, h, _⟩ | ⟨x, _, h, h2, _⟩
  · omega
  · unfold maxLen at h2; omega
end Go.Proofs.Ythdkkdgjcfjinaa.k
