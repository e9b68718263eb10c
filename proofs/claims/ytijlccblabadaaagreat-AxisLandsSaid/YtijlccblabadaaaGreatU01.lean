/- Cells of a call's own that are known, whatever a call makes behind them. No condition but what each line says. Plain facts on ways behind a speed: what they come to, and that they grow with the speed and shrink with the loss. No condition beyond what each line says. Plain facts on generators: the speeds that one may have, what is wanted, and how the way to a place shrinks. No condition beyond what each line says. Plain facts on searches for the home place. No condition beyond what each line says. Plain facts on whole numbers for layer q: what a sum, a difference, a product, a quotient, a rest, a floored quotient and a square root are, and when they have room. No condition. Plain facts on an axis that follows another: where it should be, and what is wanted of it. No condition beyond what each line says. Plain facts on the table of an axis' states: where what happens leads. No condition beyond what each line says. Whole structs stored: the world behind it by a name; blocks above and aside stay. No condition beyond what each line says. Rows whose elements have several cells: as they lie in memory, and those of a call's own, appended to. No condition but what each line says. Plain facts on lines of commands. No condition beyond what each line says. What servitorref12's SameList, SameInts, Same and IDs answer; what was in memory is as it was. No condition but that the rows are read where they lie. A region in whatever order, whose loads are taken first though a later operation of it stores into what they read: what is asked of the world is asked only as long as none of the operations that spoil it has come up. And a region by one invariant. No condition beyond what each line says. What servitorref12's List answers; what was in memory is as it was. No condition but that the rows are read where they lie. What servitorref12's Right answers; what was in memory is as it was. No condition but that the rows are read where they lie. What servitorref12's Of answers; what was in memory is as it was. No condition but that the row is read where it lies. What servitorref12's Add answers; what was in memory is as it was. No condition but that the rows are read where they lie. What is said of layer line's functions, and servitorref12's Add in these words; servitorlaw12's small. No condition beyond what each line says. An axis as layer 15's chapter has it: what it is, when it is right, and what a cycle makes of it. No condition beyond what each line says. -/
import Derived.Test.YtijlccblabadaaaGreatRows
import Derived.ProofKit
import Derived.OpenShut
import Derived.WalkKit
import Derived.WalkLawsBesides
import Derived.Below
import Derived.ShutString
import Derived.ChangeOld
import Derived.Lib.MinMax
import Derived.Lib.Hide
import Derived.RegionTactic
import Derived.Deep.QuietTactic
import Derived.BigQuiet
import Derived.LoopTactic
import Derived.Deep.Cut
import Derived.Deep.CutRange
import Derived.Deep.RegionHeld3
import Derived.Deep.Grids
import Derived.StillTailTactics
import Derived.Laws.BitsAllLaws
import Derived.Deep.MidRow
import Derived.Maps.AppendAt
import Derived.Deep.AppendLies
import Derived.OwnWalk
import Derived.Laws.OwnMore
import Derived.Lib.SmallJoins
import Derived.OrdersHeld
import Derived.Deep.RegionHeld
section
namespace Go.Proofs.YtijlccblabadaaaGreat.k
open Go.ChangeShapes Go.WideShapes Go.ChangeAt Go.RowKit
set_option linter.unusedVariables false
theorem wf8 {a : Int} (h : (Lit.int .u8 a).wf = true) : 0 ≤ a ∧ a ≤ 255 := by
 simp only [Lit.wf, IntKind.min, IntKind.max, IntKind.signed, IntKind.bits, Bool.and_eq_true] at h
 simp at h
 omega
theorem wf64 {a : Int} (h : (Lit.int .i64 a).wf = true) : -9223372036854775808 ≤ a ∧ a ≤ 9223372036854775807 := by
 simp only [Lit.wf, IntKind.min, IntKind.max, IntKind.signed, IntKind.bits, Bool.and_eq_true, decide_eq_true_eq, if_true] at h
 omega
theorem lt_of_cell {w : World} {b o : Nat} {v : Value} (h : w.cell? ⟨b, o, none⟩ = some v) : b < w.heap.size := by
 rcases Nat.lt_or_ge b w.heap.size with h' | h'
 ·exact h'
 ·simp [World.cell?, Array.getElem?_eq_none h'] at h
theorem ret_int {k : IntKind} {a b : Int} (h : a = b) : Ending.returned (.int k a) = .returned (.int k b) := by rw [h]
theorem ret_bool {a b : Bool} (h : a = b) : Ending.returned (.bool a) = .returned (.bool b) := by rw [h]
def Box (w : World) (g : Nat) : Nat → List Value → Prop
 | _, [] => True
 | o, v :: vs => w.cell? ⟨g, o, none⟩ = some v ∧ w.frozen? ⟨g, o, none⟩ = false ∧ Box w g (o + 1) vs
theorem Box.below' {w w' : World} {g B : Nat} (hb : Below B w w') (hg : g < B) : ∀ {vs : List Value} {o : Nat}, Box w g o vs → Box w' g o vs
 | [], _, _ => trivial
 | v :: vs, o, h => ⟨(hb.cell (p := ⟨g, o, none⟩) hg).trans h.1, (hb.frozen (p := ⟨g, o, none⟩) hg).trans h.2.1, Box.below' hb hg h.2.2⟩
theorem Box.below {w w' : World} {g B o : Nat} {vs : List Value} (h : Box w g o vs) (hb : Below B w w') (hg : g < B) : Box w' g o vs := Box.below' hb hg h
theorem Box.drawn {w : World} {g : Nat} (n : Nat) : ∀ {vs : List Value} {o : Nat}, Box w g o vs → Box (w.drewN n) g o vs
 | [], _, _ => trivial
 | v :: vs, o, h => ⟨h.1, h.2.1, Box.drawn n h.2.2⟩
theorem Box.at {w : World} {g : Nat} {o : Nat} {vs : List Value} (h : ∀ i v, vs[i]? = some v → w.cell? ⟨g, o + i, none⟩ = some v ∧ w.frozen? ⟨g, o + i, none⟩ = false) : Box w g o vs := by
 induction vs generalizing o with
 | nil => exact trivial
 | cons v vs ih =>
  refine ⟨(h 0 v rfl).1, (h 0 v rfl).2, ih fun i u hu => ?_⟩
  have := h (i + 1) u (by simpa using hu)
  rwa [show o + (i + 1) = o + 1 + i by omega] at this
theorem Box.new (w : World) (cs : Array Value) (t : TypeId) : Box (w.alloc (.cells cs t)) w.heap.size 0 cs.toList := Box.at fun i v hv => by
 rw [Nat.zero_add]
 refine ⟨(World.cell?_alloc_mark w cs t (0, 0) i).trans (by simpa using hv), ?_⟩
 have h := heap_alloc_new w (.cells cs t)
 simp only [World.frozen?, h]
 simp
def puts (w : World) (g : Nat) : Nat → List Value → World
 | _, [] => w
 | o, v :: vs => puts (w.setCell ⟨g, o, none⟩ v) g (o + 1) vs
theorem setCell_box {w : World} {g : Nat} (o : Nat) (x : Value) : ∀ {vs : List Value} {p : Nat}, o < p → Box w g p vs → Box (w.setCell ⟨g, o, none⟩ x) g p vs
 | [], _, _, _ => trivial
 | v :: vs, p, h, hb => by
  refine ⟨?_, ?_, setCell_box o x (by omega) hb.2.2⟩
  ·have hne : ¬ p = o := by omega
   have h2 := hb.1
   simp [go_sem, h2]
   try (intro e; omega)
  ·have h2 := hb.2.1
   simp [go_sem, h2]
theorem puts_keep {w : World} {g p : Nat} {v : Value} (h : w.cell? ⟨g, p, none⟩ = some v) (hf : w.frozen? ⟨g, p, none⟩ = false) : ∀ (us : List Value) (o : Nat), p < o → (puts w g o us).cell? ⟨g, p, none⟩ = some v ∧ (puts w g o us).frozen? ⟨g, p, none⟩ = false := by
 intro us
 induction us generalizing w with
 | nil => intro o _; exact ⟨h, hf⟩
 | cons u us ih =>
  intro o ho
  refine ih (w := w.setCell ⟨g, o, none⟩ u) ?_ ?_ (o + 1) (by omega)
  ·simp [go_sem, h]
   try (intro e; omega)
  ·simp [go_sem, hf]
theorem Box.puts {g : Nat} : ∀ {us vs : List Value} {w : World} {o : Nat}, Box w g o vs → us.length = vs.length →
  Box (k.puts w g o us) g o us ∧ (k.puts w g o us).heap.size = w.heap.size ∧ ∀ B, B ≤ g → Below B w (k.puts w g o us)
 | [], _, w, o, _, _ => ⟨trivial, rfl, fun B _ => Below.refl _ _⟩
 | u :: us, [], _, _, _, hl => by simp at hl
 | u :: us, v :: vs, w, o, h, hl => by
  have h1 : (w.setCell ⟨g, o, none⟩ u).cell? ⟨g, o, none⟩ = some u ∧ (w.setCell ⟨g, o, none⟩ u).frozen? ⟨g, o, none⟩ = false := by
   have a := h.1
   have b := h.2.1
   constructor <;> simp [go_sem, a, b]
  obtain ⟨i1, i2, i3⟩ := Box.puts (us := us) (vs := vs) (w := w.setCell ⟨g, o, none⟩ u) (o := o + 1) (setCell_box o u (by omega) h.2.2) (by simpa using hl)
  have h2 := puts_keep h1.1 h1.2 us (o + 1) (by omega)
  refine ⟨⟨h2.1, h2.2, i1⟩, by rw [show k.puts w g o (u :: us) = k.puts (w.setCell ⟨g, o, none⟩ u) g (o + 1) us from rfl, i2]; simp, fun B hB => (((Below.refl _ _).setCell hB _)).trans (i3 B hB)⟩
theorem below_drawn {B : Nat} {a w : World} (h : Below B a w) (n : Nat) : Below B a (w.drewN n) := h.trans ⟨rfl, rfl, rfl, Nat.le_refl _, fun _ _ => rfl⟩
theorem bcell {W w1 : World} (hb : Below W.heap.size W w1) : (∀ b o, b < W.heap.size → w1.cell? ⟨b, o, none⟩ = W.cell? ⟨b, o, none⟩) ∧ (∀ b o, b < W.heap.size → w1.frozen? ⟨b, o, none⟩ = W.frozen? ⟨b, o, none⟩) :=
 ⟨fun b o h => hb.cell (p := ⟨b, o, none⟩) h, fun b o h => hb.frozen (p := ⟨b, o, none⟩) h⟩
theorem new_cell {w w' : World} {cs : Array Value} {t : TypeId} (hb : Below (w.alloc (.cells cs t)).heap.size (w.alloc (.cells cs t)) w') (i : Nat) (h : i < cs.size) : w'.cell? ⟨w.heap.size, i, none⟩ = cs[i]? ∧ w'.frozen? ⟨w.heap.size, i, none⟩ = false := by
 have hl : w.heap.size < (w.alloc (.cells cs t)).heap.size := by simp
 exact ⟨(hb.cell (p := ⟨w.heap.size, i, none⟩) hl).trans (World.cell?_alloc_mark w cs t (0, 0) i), (hb.frozen (p := ⟨w.heap.size, i, none⟩) hl).trans (by
  have h := heap_alloc_new w (.cells cs t)
  simp only [World.frozen?, h]
  simp)⟩
theorem boxes1 {w w' : World} {c1 : Array Value} {t1 : TypeId} (hb : Below (w.alloc (.cells c1 t1)).heap.size (w.alloc (.cells c1 t1)) w') :
  Box w' w.heap.size 0 c1.toList ∧ Below w.heap.size w w' ∧ w.heap.size < w'.heap.size := by
 have hs : (w.alloc (.cells c1 t1)).heap.size = w.heap.size + 1 := by simp
 exact ⟨Box.below' hb (by omega) (Box.new w c1 t1), ((Below.refl _ _).alloc (Nat.le_refl _) _).trans (hb.mono (by omega)), by have := hb.size; omega⟩
theorem boxes2 {w w' : World} {c1 c2 : Array Value} {t1 t2 : TypeId} (hb : Below ((w.alloc (.cells c1 t1)).alloc (.cells c2 t2)).heap.size ((w.alloc (.cells c1 t1)).alloc (.cells c2 t2)) w') :
  Box w' w.heap.size 0 c1.toList ∧ Box w' (w.heap.size + 1) 0 c2.toList ∧ Below w.heap.size w w' ∧ w.heap.size + 1 < w'.heap.size := by
 have hs : (w.alloc (.cells c1 t1)).heap.size = w.heap.size + 1 := by simp
 obtain ⟨b2, h2, s2⟩ := boxes1 hb
 rw [hs] at b2 s2
 obtain ⟨b1, h1, s1⟩ := boxes1 (w := w) (c1 := c1) (t1 := t1) h2
 exact ⟨b1, b2, h1, s2⟩
theorem boxes3 {w w' : World} {c1 c2 c3 : Array Value} {t1 t2 t3 : TypeId} (hb : Below (((w.alloc (.cells c1 t1)).alloc (.cells c2 t2)).alloc (.cells c3 t3)).heap.size (((w.alloc (.cells c1 t1)).alloc (.cells c2 t2)).alloc (.cells c3 t3)) w') :
  Box w' w.heap.size 0 c1.toList ∧ Box w' (w.heap.size + 1) 0 c2.toList ∧ Box w' (w.heap.size + 2) 0 c3.toList ∧ Below w.heap.size w w' ∧ w.heap.size + 2 < w'.heap.size := by
 have hs : ((w.alloc (.cells c1 t1)).alloc (.cells c2 t2)).heap.size = w.heap.size + 2 := by simp
 obtain ⟨b3, h3, s3⟩ := boxes1 hb
 rw [hs] at b3 s3
 obtain ⟨b1, b2, h1, s2⟩ := boxes2 h3
 exact ⟨b1, b2, b3, h1, s3⟩
def IsTruths (w : World) (a : Option Addr) (len cap : Nat) (V : Nat → Bool) : Prop :=
 (a = none ∧ len = 0 ∧ cap = 0) ∨ ∃ x, a = some x ∧ len ≤ cap ∧ cap ≤ maxLen ∧ ∀ r, r < cap → w.cell? (x.add r) = some (.bool (V r))
theorem IsTruths.row {w : World} {a : Option Addr} {len cap : Nat} {V : Nat → Bool} (h : IsTruths w a len cap V) (hp : 0 < len) :
  ∃ b off, a = some ⟨b, off, none⟩ ∧ b < w.heap.size ∧ len ≤ cap ∧ cap ≤ maxLen ∧ ∀ r, r < len → w.cell? ⟨b, off + r, none⟩ = some (.bool (V r)) := by
 rcases h with ⟨_, h, _⟩ | ⟨x, rfl, hl, hm, hc⟩
 ·omega
 ·obtain ⟨b, off, spot⟩ := x
  have h0 := hc 0 (by omega)
  have hspot : spot = none := by simpa [Addr.add] using World.cell?_spot h0
  subst hspot
  have e : ∀ r, (Addr.add ⟨b, off, none⟩ r) = ⟨b, off + r, none⟩ := fun r => by unfold Addr.add; by_cases h : r = 0 <;> simp [h]
  rw [e] at h0
  exact ⟨b, off, rfl, lt_of_cell h0, hl, hm, fun r hr => by have := hc r (by omega); rw [e] at this; exact this⟩
theorem IsTruths.len {w : World} {a : Option Addr} {len cap : Nat} {V : Nat → Bool} (h : IsTruths w a len cap V) : (len : Int) ≤ 9223372036854775807 := by
 rcases h with ⟨_, h, _⟩ | ⟨x, _, h, h2, _⟩
 ·omega
 ·unfold maxLen at h2; omega
theorem lh {p : Prop} (h : p) : Go.RowKit.Hid p := h
end Go.Proofs.YtijlccblabadaaaGreat.k
end
section
namespace Go.Proofs.YtijlccblabadaaaGreat.b
open Go.ChangeShapes Go.WideShapes Go.ChangeAt Go.RowKit Go.Proofs.YtijlccblabadaaaGreat.k
set_option linter.unusedVariables false
def clamp (n lo hi : Int) : Int := if n < lo then lo else if hi < n then hi else n
def vel (v : Int) : Int := clamp v 0 1048576
def los (d : Int) : Int := clamp d 1 1048576
def dist (s : Int) : Int := clamp s 0 2199023255552
theorem vel_in (v : Int) : 0 ≤ vel v ∧ vel v ≤ 1048576 := by unfold vel clamp; omega
theorem los_in (v : Int) : 1 ≤ los v ∧ los v ≤ 1048576 := by unfold los clamp; omega
theorem dist_in (v : Int) : 0 ≤ dist v ∧ dist v ≤ 2199023255552 := by unfold dist clamp; omega
theorem vel_of {v : Int} (h0 : 0 ≤ v) (h1 : v ≤ 1048576) : vel v = v := by unfold vel clamp; omega
theorem vel_mono {a b : Int} (h : a ≤ b) : vel a ≤ vel b := by unfold vel clamp; omega
def slowF : Nat → Int → Int → Int → Int
 | 0, _, _, _ => 0
 | n + 1, v, u, d => if u < v - d then (v - d) + slowF n (v - d) u d else 0
def slow (v u d : Int) : Int := slowF (v - u).toNat v u d
theorem slowF_more : ∀ (n : Nat) (v u d : Int), 1 ≤ d → (v - u).toNat ≤ n → slowF n v u d = slow v u d
 | 0, v, u, d, hd, hn => by
  unfold slow
  have : (v - u).toNat = 0 := by omega
  rw [this]
 | n + 1, v, u, d, hd, hn => by
  unfold slow
  cases hm : (v - u).toNat with
  | zero =>
   have h : ¬ u < v - d := by omega
   simp only [slowF]
   rw [if_neg h]
  | succ m =>
   simp only [slowF]
   by_cases h : u < v - d
   ·rw [if_pos h, if_pos h, slowF_more n (v - d) u d hd (by omega), slowF_more m (v - d) u d hd (by omega)]
   ·rw [if_neg h, if_neg h]
termination_by n => n
theorem slow_step (v u d : Int) (hd : 1 ≤ d) : slow v u d = if u < v - d then (v - d) + slow (v - d) u d else 0 := by
 rw [← slowF_more ((v - u).toNat + 1) v u d hd (by omega)]
 simp only [slowF]
 by_cases h : u < v - d
 ·rw [if_pos h, if_pos h, slowF_more _ (v - d) u d hd (by omega)]
 ·rw [if_neg h, if_neg h]
theorem slow_go {v u d : Int} (hd : 1 ≤ d) (h : u < v - d) : slow v u d = (v - d) + slow (v - d) u d := by rw [slow_step v u d hd, if_pos h]
theorem slow_end {v u d : Int} (hd : 1 ≤ d) (h : ¬ u < v - d) : slow v u d = 0 := by rw [slow_step v u d hd, if_neg h]
theorem slow_nonneg (n : Nat) : ∀ (v u d : Int), 0 ≤ u → 1 ≤ d → (v - u).toNat ≤ n → 0 ≤ slow v u d := by
 induction n with
 | zero => intro v u d hu hd hn; rw [slow_end hd (by omega)]; omega
 | succ n ih =>
  intro v u d hu hd hn
  by_cases h : u < v - d
  ·rw [slow_go hd h]
   have := ih (v - d) u d hu hd (by omega)
   omega
  ·rw [slow_end hd h]; omega
theorem slow_pos {v u d : Int} (hu : 0 ≤ u) (hd : 1 ≤ d) : 0 ≤ slow v u d := slow_nonneg _ v u d hu hd (Nat.le_refl _)
theorem slow_mono_n (n : Nat) : ∀ (v v' u d : Int), 0 ≤ u → 1 ≤ d → v ≤ v' → (v - u).toNat ≤ n → slow v u d ≤ slow v' u d := by
 induction n with
 | zero => intro v v' u d hu hd hv hn; rw [slow_end (v := v) hd (by omega)]; exact slow_pos hu hd
 | succ n ih =>
  intro v v' u d hu hd hv hn
  by_cases h : u < v - d
  ·rw [slow_go hd h, slow_go hd (show u < v' - d by omega)]
   have := ih (v - d) (v' - d) u d hu hd (by omega) (by omega)
   omega
  ·rw [slow_end hd h]; exact slow_pos hu hd
theorem slow_mono {v v' u d : Int} (hu : 0 ≤ u) (hd : 1 ≤ d) (h : v ≤ v') : slow v u d ≤ slow v' u d := slow_mono_n _ v v' u d hu hd h (Nat.le_refl _)
theorem slow_sum_n (n : Nat) : ∀ (v u d m : Int), 0 ≤ m → 1 ≤ d → u < v - m * d ∨ m = 0 → v - (m + 1) * d ≤ u → m.toNat ≤ n → 2 * slow v u d = 2 * (m * v) - m * (m + 1) * d := by
 induction n with
 | zero =>
  intro v u d m hm hd h1 h2 hn
  have : m = 0 := by omega
  subst this
  rw [slow_end hd (by omega)]; omega
 | succ n ih =>
  intro v u d m hm hd h1 h2 hn
  by_cases h0 : m = 0
  ·subst h0
   rw [slow_end hd (by omega)]; omega
  ·have e1 : m * d = (m - 1) * d + d := by rw [Int.sub_mul]; omega
   have e2 : (m + 1) * d = (m - 1) * d + d + d := by rw [Int.add_mul, Int.sub_mul]; omega
   have p : 0 ≤ (m - 1) * d := Int.mul_nonneg (by omega) (by omega)
   have hgo : u < v - d := by omega
   rw [slow_go hd hgo]
   have e3 : (m - 1 + 1) * d = (m - 1) * d + d := by rw [Int.add_mul]; omega
   have := ih (v - d) u d (m - 1) (by omega) hd (by
    by_cases h : m = 1
    ·right; omega
    ·left; omega) (by rw [e3]; omega) (by omega)
   have f1 : (m - 1) * (v - d) = m * v - v - (m - 1) * d := by rw [Int.mul_sub, Int.sub_mul]; omega
   have f2 : (m - 1) * (m - 1 + 1) * d = m * ((m - 1) * d) := by rw [show m - 1 + 1 = m by omega, Int.mul_comm (m - 1) m, Int.mul_assoc]
   have f3 : m * (m + 1) * d = m * ((m - 1) * d) + 2 * (m * d) := by
    rw [Int.mul_assoc, e2, Int.mul_add, Int.mul_add]; omega
   have f4 : 2 * ((m - 1) * d) = 2 * (m * d) - 2 * d := by omega
   rw [f1, f2] at this
   rw [f3]
   omega
theorem slow_sum {v u d : Int} (hd : 1 ≤ d) (h : u < v) : 2 * slow v u d = 2 * ((v - u - 1) / d * v) - (v - u - 1) / d * ((v - u - 1) / d + 1) * d := by
 have q := Int.mul_ediv_add_emod (v - u - 1) d
 have r0 := Int.emod_nonneg (v - u - 1) (show d ≠ 0 by omega)
 have r1 := Int.emod_lt_of_pos (v - u - 1) (show 0 < d by omega)
 have m0 : 0 ≤ (v - u - 1) / d := Int.ediv_nonneg (by omega) (by omega)
 generalize (v - u - 1) / d = m at *
 rw [Int.mul_comm d m] at q
 have e : (m + 1) * d = m * d + d := by rw [Int.add_mul]; omega
 exact slow_sum_n _ v u d m m0 hd (.inl (by omega)) (by rw [e]; omega) (Nat.le_refl _)
theorem slow_le_n (n : Nat) : ∀ (v u d : Int), 0 ≤ u → 1 ≤ d → 0 ≤ v → v ≤ 1048576 → (v - u).toNat ≤ n → slow v u d ≤ 1048576 * v := by
 induction n with
 | zero => intro v u d hu hd h0 hv hn; rw [slow_end hd (by omega)]; omega
 | succ n ih =>
  intro v u d hu hd h0 hv hn
  by_cases h : u < v - d
  ·rw [slow_go hd h]
   have := ih (v - d) u d hu hd (by omega) (by omega) (by omega)
   omega
  ·rw [slow_end hd h]; omega
theorem slow_le {v u d : Int} (hu : 0 ≤ u) (hd : 1 ≤ d) (h0 : 0 ≤ v) (hv : v ≤ 1048576) : slow v u d ≤ 1099511627776 := by
 have := slow_le_n _ v u d hu hd h0 hv (Nat.le_refl _)
 omega
def cyc (v d : Int) : Int := (v + d - 1) / d
theorem cyc_end {x d : Int} (hd : 1 ≤ d) (h0 : - d < x) (h1 : x ≤ 0) : cyc x d = 0 := by
 unfold cyc
 exact Int.ediv_eq_zero_of_lt (by omega) (by omega)
theorem cyc_go {x d : Int} (hd : 1 ≤ d) : cyc x d = cyc (x - d) d + 1 := by
 unfold cyc
 rw [show x + d - 1 = x - d + d - 1 + 1 * d by omega, Int.add_mul_ediv_right _ _ (by omega)]
theorem cyc_pos {x d : Int} (hd : 1 ≤ d) (h : 0 ≤ x) : 0 ≤ cyc x d := by unfold cyc; exact Int.ediv_nonneg (by omega) (by omega)
def nextV (u d : Int) : Int := max 0 (u - d)
theorem next_way {u d : Int} (hd : 1 ≤ d) (hu : 0 < u) : nextV u d + slow (nextV u d) 0 d = slow u 0 d := by
 unfold nextV
 by_cases h : 0 < u - d
 ·rw [Int.max_eq_right (by omega), slow_go hd h]
 ·rw [Int.max_eq_left (by omega), slow_end (v := 0) hd (by omega), slow_end (v := u) hd h]; rfl
theorem next_cyc {u d : Int} (hd : 1 ≤ d) (hu : 0 < u) : cyc u d = cyc (nextV u d) d + 1 := by
 rw [cyc_go hd]
 unfold nextV
 by_cases h : 0 < u - d
 ·rw [Int.max_eq_right (by omega)]
 ·rw [Int.max_eq_left (by omega), cyc_end hd (by omega) (by omega), cyc_end hd (by omega) (by omega)]
def IsReach (s d v : Int) : Prop := 0 ≤ v ∧ v ≤ 1048576 ∧ v + slow v 0 d ≤ s ∧ (v = 1048576 ∨ s < v + 1 + slow (v + 1) 0 d)
def IsPass (s u d v : Int) : Prop := u ≤ v ∧ v ≤ 1048576 ∧ (v = u ∨ v + slow v u d ≤ s) ∧ (v = 1048576 ∨ s < v + 1 + slow (v + 1) u d)
theorem reach_top {s d v x : Int} (hd : 1 ≤ d) (h : IsReach s d v) (hx : x ≤ 1048576) (hw : x + slow x 0 d ≤ s) : x ≤ v := by
 obtain ⟨h0, h1, h2, h3⟩ := h
 rcases h3 with h3 | h3
 ·omega
 ·by_cases hle : x ≤ v
  ·exact hle
  ·have := slow_mono (v := v + 1) (v' := x) (u := 0) (by omega) hd (by omega)
   omega
theorem reach_far {s t d v v' : Int} (hd : 1 ≤ d) (hst : s ≤ t) (h : IsReach s d v) (h' : IsReach t d v') : v ≤ v' :=
 reach_top hd h' h.2.1 (Int.le_trans h.2.2.1 hst)
theorem reach_ex (S D : Int) (hS : 0 ≤ S) (hD : 1 ≤ D) : ∀ n : Nat, ∃ v : Int, 0 ≤ v ∧ v ≤ n ∧ v + slow v 0 D ≤ S ∧ (v = n ∨ S < v + 1 + slow (v + 1) 0 D)
 | 0 => ⟨0, by omega, by omega, by rw [slow_end hD (by omega)]; omega, .inl rfl⟩
 | n + 1 => by
  by_cases h : ((n + 1 : Nat) : Int) + slow ((n + 1 : Nat) : Int) 0 D ≤ S
  ·exact ⟨((n + 1 : Nat) : Int), by omega, by omega, h, .inl rfl⟩
  ·obtain ⟨v, h0, h1, h2, h3⟩ := reach_ex S D hS hD n
   refine ⟨v, h0, by omega, h2, .inr ?_⟩
   rcases h3 with h3 | h3
   ·rw [h3]; rw [Int.natCast_add] at h; exact Int.not_le.mp h
   ·exact h3
theorem pass_ex (S U D : Int) (hU : 0 ≤ U) : ∀ n : Nat, ∃ v : Int, U ≤ v ∧ v ≤ U + n ∧ (v = U ∨ v + slow v U D ≤ S) ∧ (v = U + n ∨ S < v + 1 + slow (v + 1) U D)
 | 0 => ⟨U, by omega, by omega, .inl rfl, .inl (by omega)⟩
 | n + 1 => by
  by_cases h : (U + ((n + 1 : Nat) : Int)) + slow (U + ((n + 1 : Nat) : Int)) U D ≤ S
  ·exact ⟨U + ((n + 1 : Nat) : Int), by omega, by omega, .inr h, .inl rfl⟩
  ·obtain ⟨v, h0, h1, h2, h3⟩ := pass_ex S U D hU n
   refine ⟨v, h0, by omega, h2, .inr ?_⟩
   rcases h3 with h3 | h3
   ·rw [h3]; rw [Int.natCast_add, ← Int.add_assoc] at h; exact Int.not_le.mp h
   ·exact h3
open Classical in
noncomputable def reachV (s d : Int) : Int := if h : ∃ v, IsReach s d v then Classical.choose h else 0
open Classical in
noncomputable def passV (s u d : Int) : Int := if h : ∃ v, IsPass s u d v then Classical.choose h else 0
theorem reachV_is {s d : Int} (hs : 0 ≤ s) (hd : 1 ≤ d) : IsReach s d (reachV s d) := by
 have h : ∃ v, IsReach s d v := by
  obtain ⟨v, h0, h1, h2, h3⟩ := reach_ex s d hs hd 1048576
  exact ⟨v, h0, h1, h2, h3⟩
 unfold reachV
 rw [dif_pos h]
 exact Classical.choose_spec h
theorem passV_is {s u d : Int} (hu : 0 ≤ u) (hu2 : u ≤ 1048576) (hd : 1 ≤ d) : IsPass s u d (passV s u d) := by
 have h : ∃ v, IsPass s u d v := by
  obtain ⟨v, h0, h1, h2, h3⟩ := pass_ex s u d hu (1048576 - u).toNat
  exact ⟨v, h0, by omega, h2, by omega⟩
 unfold passV
 rw [dif_pos h]
 exact Classical.choose_spec h
theorem pass_top {s u d v x : Int} (hu : 0 ≤ u) (hd : 1 ≤ d) (h : IsPass s u d v) (hx : x ≤ 1048576) (hux : u ≤ x) (hw : x = u ∨ x + slow x u d ≤ s) : x ≤ v := by
 obtain ⟨h0, h1, h2, h3⟩ := h
 rcases h3 with h3 | h3
 ·omega
 ·by_cases hle : x ≤ v
  ·exact hle
  ·have := slow_mono (v := v + 1) (v' := x) hu hd (by omega)
   omega
end Go.Proofs.YtijlccblabadaaaGreat.b
end
section
namespace Go.Proofs.YtijlccblabadaaaGreat.gn
open Go.ChangeShapes Go.WideShapes Go.ChangeAt Go.RowKit Go.Proofs.YtijlccblabadaaaGreat.k Go.Proofs.YtijlccblabadaaaGreat.b
set_option linter.unusedVariables false
structure L where
 V : Int
 A : Int
 D : Int
 lo : Int
 hi : Int
def RightL (l : L) : Prop := 1 ≤ l.V ∧ l.V ≤ 1048576 ∧ 1 ≤ l.A ∧ l.A ≤ 1048576 ∧ 1 ≤ l.D ∧ l.D ≤ 1048576 ∧ -1099511627776 ≤ l.lo ∧ l.hi ≤ 1099511627776 ∧ l.lo ≤ l.hi
instance (l : L) : Decidable (RightL l) := by unfold RightL; infer_instance
def rightL (l : L) : Bool := decide (RightL l)
def wayOK (l : L) (p v : Int) : Prop := if v < 0 then slow (-v) 0 l.D ≤ p - l.lo else slow v 0 l.D ≤ l.hi - p
instance (l : L) (p v : Int) : Decidable (wayOK l p v) := by unfold wayOK; infer_instance
def SafeP (l : L) (p v : Int) : Prop := l.lo ≤ p ∧ p ≤ l.hi ∧ -1048576 ≤ v ∧ v ≤ 1048576 ∧ wayOK l p v
instance (l : L) (p v : Int) : Decidable (SafeP l p v) := by unfold SafeP; infer_instance
def safeP (l : L) (p v : Int) : Bool := decide (RightL l ∧ SafeP l p v)
theorem right_yes {l : L} (h : RightL l) : rightL l = true := decide_eq_true h
theorem right_no {l : L} (h : ¬ RightL l) : rightL l = false := decide_eq_false h
theorem safe_yes {l : L} {p v : Int} (h : RightL l) (h2 : SafeP l p v) : safeP l p v = true := decide_eq_true ⟨h, h2⟩
theorem safe_no {l : L} {p v : Int} (h : ¬ (RightL l ∧ SafeP l p v)) : safeP l p v = false := decide_eq_false h
noncomputable def hiOf (l : L) (v room : Int) : Int := max (nextV v l.D) (min (min (v + l.A) l.V) (reachV room l.D))
noncomputable def mayLo (l : L) (p v : Int) : Int := if 0 < v then nextV v l.D else -hiOf l (-v) (p - l.lo)
noncomputable def mayHi (l : L) (p v : Int) : Int := if v < 0 then -nextV (-v) l.D else hiOf l v (l.hi - p)
noncomputable def stepV (l : L) (p v want : Int) : Int := clamp want (mayLo l p v) (mayHi l p v)
noncomputable def toV (l : L) (p v t x : Int) : Int :=
 if p < clamp t l.lo l.hi ∧ 0 ≤ v then min (vel x) (reachV (clamp t l.lo l.hi - p) l.D)
 else if clamp t l.lo l.hi < p ∧ v ≤ 0 then -min (vel x) (reachV (p - clamp t l.lo l.hi) l.D) else 0
noncomputable def byV (l : L) (p v t u s x : Int) : Int :=
 if p < clamp t l.lo l.hi ∧ p < clamp s l.lo l.hi ∧ 0 ≤ v then min (min (vel x) (reachV (clamp s l.lo l.hi - p) l.D)) (passV (clamp t l.lo l.hi - p) (vel u) l.D)
 else if clamp t l.lo l.hi < p ∧ clamp s l.lo l.hi < p ∧ v ≤ 0 then -min (min (vel x) (reachV (p - clamp s l.lo l.hi) l.D)) (passV (p - clamp t l.lo l.hi) (vel u) l.D) else 0
theorem clamp_mid {n lo hi : Int} (h : lo ≤ hi) : lo ≤ clamp n lo hi ∧ clamp n lo hi ≤ hi := by unfold clamp; omega
theorem clamp_in {n lo hi : Int} (h1 : lo ≤ n) (h2 : n ≤ hi) : clamp n lo hi = n := by unfold clamp; omega
theorem nextV_in {v d : Int} (h : 0 ≤ v) (hd : 1 ≤ d) : 0 ≤ nextV v d ∧ nextV v d ≤ v ∧ v - d ≤ nextV v d := by unfold nextV; omega
theorem nextV_zero {d : Int} (hd : 1 ≤ d) : nextV 0 d = 0 := by unfold nextV; omega
theorem slow_zero {d : Int} (hd : 1 ≤ d) : slow 0 0 d = 0 := slow_end hd (by omega)
theorem slow_one {d : Int} (hd : 1 ≤ d) : slow 1 0 d = 0 := slow_end hd (by omega)
theorem slow_small {v d : Int} (hd : 1 ≤ d) (h : slow v 0 d ≤ 0) : v ≤ d := by
 rcases Int.lt_or_le d v with hlt | hle
 ·rw [slow_go hd (by omega)] at h
  have := slow_pos (v := v - d) (u := 0) (by omega) hd
  omega
 ·exact hle
theorem fit_le {x y d s : Int} (hd : 1 ≤ d) (h : x ≤ y) (hy : y + slow y 0 d ≤ s) : x + slow x 0 d ≤ s := by
 have := slow_mono (v := x) (v' := y) (u := 0) (by omega) hd h
 omega
theorem next_fit {v d s : Int} (hd : 1 ≤ d) (hv : 0 ≤ v) (h : slow v 0 d ≤ s) : nextV v d + slow (nextV v d) 0 d ≤ s := by
 by_cases h0 : 0 < v
 ·rw [next_way hd h0]; exact h
 ·have e : v = 0 := by omega
  subst e
  rw [nextV_zero hd, slow_zero hd]
  rw [slow_zero hd] at h
  omega
theorem reach_in {s d : Int} (hs : 0 ≤ s) (hd : 1 ≤ d) : 0 ≤ reachV s d ∧ reachV s d ≤ 1048576 ∧ reachV s d + slow (reachV s d) 0 d ≤ s :=
 ⟨(reachV_is hs hd).1, (reachV_is hs hd).2.1, (reachV_is hs hd).2.2.1⟩
theorem reach_ge {s d x : Int} (hs : 0 ≤ s) (hd : 1 ≤ d) (hx : x ≤ 1048576) (h : x + slow x 0 d ≤ s) : x ≤ reachV s d := reach_top hd (reachV_is hs hd) hx h
theorem reach_one {s d : Int} (hs : 1 ≤ s) (hd : 1 ≤ d) : 1 ≤ reachV s d := reach_ge (by omega) hd (by omega) (by rw [slow_one hd]; omega)
theorem reach_more {s t d : Int} (hs : 0 ≤ s) (hd : 1 ≤ d) (h : s ≤ t) : reachV s d ≤ reachV t d := reach_far hd h (reachV_is hs hd) (reachV_is (by omega) hd)
theorem hi_fits {l : L} (hr : RightL l) {v room x : Int} (hv : 0 ≤ v) (h : slow v 0 l.D ≤ room) (hx : x ≤ hiOf l v room) : x + slow x 0 l.D ≤ room := by
 obtain ⟨r1, r2, r3, r4, r5, r6, _⟩ := hr
 have hp := slow_pos (v := v) (u := 0) (by omega) r5
 have hroom : 0 ≤ room := by omega
 unfold hiOf at hx
 by_cases h1 : x ≤ nextV v l.D
 ·exact fit_le r5 h1 (next_fit r5 hv h)
 ·have : x ≤ reachV room l.D := by omega
  exact fit_le r5 this (reach_in hroom r5).2.2
theorem hi_bound {l : L} (hr : RightL l) {v room : Int} (hv : 0 ≤ v) (hv2 : v ≤ 1048576) : hiOf l v room ≤ 1048576 ∧ nextV v l.D ≤ hiOf l v room ∧ (hiOf l v room ≤ v ∨ hiOf l v room ≤ v + l.A) ∧ (hiOf l v room ≤ l.V ∨ hiOf l v room ≤ nextV v l.D) := by
 obtain ⟨r1, r2, r3, r4, r5, r6, _⟩ := hr
 have hn := nextV_in hv r5
 unfold hiOf
 generalize reachV room l.D = rr
 omega
noncomputable def goV (l : L) (v w room : Int) : Int := clamp w (nextV v l.D) (hiOf l v room)
theorem step_up {l : L} (hr : RightL l) {p v w : Int} (hv : 0 ≤ v) (hv2 : v ≤ 1048576) (hw : 0 ≤ w) (hs : SafeP l p v) : stepV l p v w = goV l v w (l.hi - p) := by
 have hb := hi_bound hr (room := l.hi - p) hv hv2
 have hb0 := hi_bound hr (v := 0) (room := p - l.lo) (by omega) (by omega)
 have hn := nextV_in hv hr.2.2.2.2.1
 unfold stepV mayLo mayHi goV
 rw [if_neg (show ¬ v < 0 by omega)]
 by_cases h0 : 0 < v
 ·rw [if_pos h0]
 ·have e : v = 0 := by omega
  subst e
  rw [if_neg h0, nextV_zero hr.2.2.2.2.1]
  rw [nextV_zero hr.2.2.2.2.1] at hb hb0
  rw [show (-0 : Int) = 0 by rfl]
  unfold clamp
  omega
theorem step_down {l : L} (hr : RightL l) {p v w : Int} (hv : v ≤ 0) (hv2 : -1048576 ≤ v) (hw : w ≤ 0) (hs : SafeP l p v) : stepV l p v w = -goV l (-v) (-w) (p - l.lo) := by
 have hb := hi_bound hr (v := -v) (room := p - l.lo) (by omega) (by omega)
 have hb0 := hi_bound hr (v := 0) (room := l.hi - p) (by omega) (by omega)
 have hn := nextV_in (v := -v) (by omega) hr.2.2.2.2.1
 unfold stepV mayLo mayHi goV
 rw [if_neg (by omega)]
 by_cases h0 : v < 0
 ·rw [if_pos h0]
  unfold clamp
  omega
 ·have e : v = 0 := by omega
  subst e
  rw [if_neg h0]
  rw [show (-0 : Int) = 0 by rfl] at *
  rw [nextV_zero hr.2.2.2.2.1] at *
  unfold clamp
  omega
theorem may_le {l : L} (hr : RightL l) {p v : Int} (hs : SafeP l p v) : mayLo l p v ≤ mayHi l p v ∧ -1048576 ≤ mayLo l p v ∧ mayHi l p v ≤ 1048576 := by
 obtain ⟨_, _, h3, h4, _⟩ := hs
 have r5 := hr.2.2.2.2.1
 unfold mayLo mayHi
 by_cases h0 : 0 < v
 ·have hb := hi_bound hr (v := v) (room := l.hi - p) (by omega) (by omega)
  have hn := nextV_in (v := v) (by omega) r5
  rw [if_pos h0, if_neg (by omega)]
  omega
 ·have hb := hi_bound hr (v := -v) (room := p - l.lo) (by omega) (by omega)
  have hn := nextV_in (v := -v) (by omega) r5
  rw [if_neg h0]
  by_cases h1 : v < 0
  ·rw [if_pos h1]; omega
  ·have e : v = 0 := by omega
   subst e
   have hb2 := hi_bound hr (v := 0) (room := l.hi - p) (by omega) (by omega)
   rw [if_neg h1]
   rw [show (-0 : Int) = 0 by rfl] at *
   rw [nextV_zero r5] at *
   omega
theorem safe_up {l : L} {p v : Int} (hs : SafeP l p v) (hv : 0 ≤ v) : slow v 0 l.D ≤ l.hi - p := by
 have := hs.2.2.2.2
 unfold wayOK at this
 rwa [if_neg (by omega)] at this
theorem safe_down {l : L} (hr : RightL l) {p v : Int} (hs : SafeP l p v) (hv : v ≤ 0) : slow (-v) 0 l.D ≤ p - l.lo := by
 have h := hs.2.2.2.2
 unfold wayOK at h
 by_cases h0 : v < 0
 ·rwa [if_pos h0] at h
 ·have e : v = 0 := by omega
  subst e
  rw [show (-0 : Int) = 0 by rfl, slow_zero hr.2.2.2.2.1]
  have := hs.1
  omega
theorem put_up {l : L} (hr : RightL l) {p x : Int} (hp : l.lo ≤ p) (hx : 0 ≤ x) (hx2 : x ≤ 1048576) (h : x + slow x 0 l.D ≤ l.hi - p) : SafeP l (p + x) x := by
 have := slow_pos (v := x) (u := 0) (by omega) hr.2.2.2.2.1
 refine ⟨by omega, by omega, by omega, hx2, ?_⟩
 unfold wayOK
 rw [if_neg (by omega)]
 omega
theorem put_down {l : L} (hr : RightL l) {p x : Int} (hp : p ≤ l.hi) (hx : 0 ≤ x) (hx2 : x ≤ 1048576) (h : x + slow x 0 l.D ≤ p - l.lo) : SafeP l (p - x) (-x) := by
 have := slow_pos (v := x) (u := 0) (by omega) hr.2.2.2.2.1
 refine ⟨by omega, by omega, by omega, by omega, ?_⟩
 unfold wayOK
 by_cases h0 : -x < 0
 ·rw [if_pos h0, show - -x = x by omega]
  omega
 ·have e : x = 0 := by omega
  subst e
  rw [if_neg h0, show (-0 : Int) = 0 by rfl, slow_zero hr.2.2.2.2.1]
  omega
structure Kept (l : L) (p v x : Int) : Prop where
 safe : SafeP l (p + x) x
 more : x - v ≤ max l.A l.D
 less : -(x - v) ≤ max l.A l.D
 turnUp : ¬ (0 < v ∧ x < 0)
 turnDown : ¬ (v < 0 ∧ 0 < x)
 size : max x (-x) ≤ l.V ∨ max x (-x) ≤ max (max v (-v) - l.D) 0
theorem step_kept {l : L} (hr : RightL l) {p v : Int} (hs : SafeP l p v) (w : Int) : Kept l p v (stepV l p v w) := by
 have hml := may_le hr hs
 have hcm := clamp_mid (n := w) hml.1
 have r5 := hr.2.2.2.2.1
 have h3 := hs.2.2.1
 have h4 := hs.2.2.2.1
 unfold stepV
 generalize clamp w (mayLo l p v) (mayHi l p v) = x at hcm
 obtain ⟨c1, c2⟩ := hcm
 unfold mayLo at c1
 unfold mayHi at c2
 by_cases h0 : 0 < v
 ·have hb := hi_bound hr (v := v) (room := l.hi - p) (by omega) (by omega)
  have hn := nextV_in (v := v) (by omega) r5
  rw [if_pos h0] at c1
  rw [if_neg (by omega)] at c2
  have hf := hi_fits hr (by omega) (safe_up hs (by omega)) c2
  refine ⟨put_up hr hs.1 (by omega) (by omega) hf, by omega, by omega, by omega, by omega, ?_⟩
  unfold nextV at *
  omega
 ·rw [if_neg h0] at c1
  have hb := hi_bound hr (v := -v) (room := p - l.lo) (by omega) (by omega)
  have hn := nextV_in (v := -v) (by omega) r5
  by_cases h1 : v < 0
  ·rw [if_pos h1] at c2
   have hf := hi_fits hr (v := -v) (room := p - l.lo) (x := -x) (by omega) (safe_down hr hs (by omega)) (by omega)
   have := put_down hr (p := p) (x := -x) hs.2.1 (by omega) (by omega) hf
   rw [show p - -x = p + x by omega, show - -x = x by omega] at this
   refine ⟨this, by omega, by omega, by omega, by omega, ?_⟩
   unfold nextV at *
   omega
  ·have e : v = 0 := by omega
   subst e
   rw [if_neg h1] at c2
   rw [show (-0 : Int) = 0 by rfl] at *
   have hb2 := hi_bound hr (v := 0) (room := l.hi - p) (by omega) (by omega)
   rw [nextV_zero r5] at *
   by_cases hx : 0 ≤ x
   ·have hf := hi_fits hr (by omega) (safe_up hs (by omega)) c2
    refine ⟨put_up hr hs.1 hx (by omega) hf, by omega, by omega, by omega, by omega, by omega⟩
   ·have hf := hi_fits hr (v := 0) (room := p - l.lo) (x := -x) (by omega) (by have := safe_down hr hs (by omega); rwa [show (-0 : Int) = 0 by rfl] at this) (by omega)
    have := put_down hr (p := p) (x := -x) hs.2.1 (by omega) (by omega) hf
    rw [show p - -x = p + x by omega, show - -x = x by omega] at this
    refine ⟨this, by omega, by omega, by omega, by omega, by omega⟩
theorem stop_up {l : L} (hr : RightL l) {p v : Int} (hs : SafeP l p v) (hv : 0 ≤ v) : stepV l p v 0 = nextV v l.D := by
 have hb := hi_bound hr (v := v) (room := l.hi - p) hv hs.2.2.2.1
 have hn := nextV_in hv hr.2.2.2.2.1
 rw [step_up hr hv hs.2.2.2.1 (by omega) hs]
 unfold goV clamp
 omega
theorem stop_down {l : L} (hr : RightL l) {p v : Int} (hs : SafeP l p v) (hv : v ≤ 0) : stepV l p v 0 = -nextV (-v) l.D := by
 have hb := hi_bound hr (v := -v) (room := p - l.lo) (by omega) (by have := hs.2.2.1; omega)
 have hn := nextV_in (v := -v) (by omega) hr.2.2.2.2.1
 rw [step_down hr hv hs.2.2.1 (by omega) hs]
 unfold goV clamp
 omega
noncomputable def haltP (l : L) (p v : Int) : Int := if v < 0 then p - slow (-v) 0 l.D else p + slow v 0 l.D
def haltN (l : L) (v : Int) : Int := cyc (max v (-v)) l.D
theorem haltN_at {l : L} (hr : RightL l) : haltN l 0 = 0 := by
 have r5 := hr.2.2.2.2.1
 unfold haltN
 rw [show max (0 : Int) (-0) = 0 by decide]
 exact cyc_end r5 (by omega) (by omega)
theorem stand {l : L} (hr : RightL l) {p : Int} (hs : SafeP l p 0) : stepV l p 0 0 = 0 := by
 rw [stop_up hr hs (by omega), nextV_zero hr.2.2.2.2.1]
noncomputable def M1 (d e v : Int) : Int := if slow v 0 d ≤ e then (if e = 0 ∧ v = 0 then 0 else e + 1) else cyc v d + (slow v 0 d - e) + 1
theorem M1_zero {d e : Int} (hd : 1 ≤ d) : M1 d e 0 = M1 d (-e) 0 := by
 have h1 : cyc 0 d = 0 := cyc_end hd (by omega) (by omega)
 unfold M1
 rw [slow_zero hd, h1]
 split <;> split <;> (try split) <;> (try split) <;> omega
theorem M1_in {d e v : Int} (hd : 1 ≤ d) (hv : 0 ≤ v) : 0 ≤ M1 d e v ∧ (M1 d e v ≤ 0 → e = 0 ∧ v = 0) ∧ M1 d e v ≤ cyc v d + 2 + 2 * max e (-e) + slow v 0 d := by
 have hp := slow_pos (v := v) (u := 0) (by omega) hd
 have hc := cyc_pos (x := v) hd hv
 unfold M1
 generalize slow v 0 d = s at *
 generalize cyc v d = c at *
 split
 ·split <;> omega
 ·omega
noncomputable def want1 (l : L) (e s : Int) : Int := if 0 < e then min s (reachV e l.D) else 0
theorem on_way {l : L} (hr : RightL l) {v e room s : Int} (hv : 0 ≤ v) (hv2 : v ≤ 1048576) (he : e ≤ room) (hs : 1 ≤ s) (hon : slow v 0 l.D ≤ e) (h1 : 1 ≤ e) :
  1 ≤ goV l v (want1 l e s) room ∧ goV l v (want1 l e s) room + slow (goV l v (want1 l e s) room) 0 l.D ≤ e ∧ goV l v (want1 l e s) room ≤ max v (min s l.V) := by
 have r5 := hr.2.2.2.2.1
 have hb := hi_bound hr (room := room) hv hv2
 have hn := nextV_in hv r5
 have hre := reach_in (s := e) (by omega) r5
 have hro := reach_one h1 r5
 have hrm := reach_more (s := e) (t := room) (by omega) r5 he
 have hnf := next_fit r5 hv hon
 have hnr := reach_ge (by omega) r5 (by omega) hnf
 have hhi : 1 ≤ hiOf l v room := by
  unfold hiOf
  have := hr.1
  have := hr.2.2.1
  omega
 have hw : want1 l e s = min s (reachV e l.D) := by unfold want1; rw [if_pos (by omega)]
 rw [hw]
 have hx : goV l v (min s (reachV e l.D)) room = max (nextV v l.D) (min (min s (reachV e l.D)) (hiOf l v room)) := by unfold goV clamp; omega
 rw [hx]
 refine ⟨by omega, fit_le r5 (show _ ≤ reachV e l.D by omega) hre.2.2, ?_⟩
 unfold hiOf
 generalize reachV e l.D = r1 at *
 generalize reachV room l.D = r2 at *
 omega
theorem off_way {l : L} (hr : RightL l) {v e room s : Int} (hv : 0 ≤ v) (hv2 : v ≤ 1048576) (hs : 0 ≤ s) (hoff : e < slow v 0 l.D ∨ e ≤ 0) : goV l v (want1 l e s) room = nextV v l.D := by
 have r5 := hr.2.2.2.2.1
 have hb := hi_bound hr (room := room) hv hv2
 have hn := nextV_in hv r5
 have hw : want1 l e s ≤ nextV v l.D := by
  unfold want1
  by_cases h : 0 < e
  ·rw [if_pos h]
   have hre := reach_in (s := e) (by omega) r5
   have hv0 : 0 < v := by
    rcases Int.lt_or_le 0 v with h2 | h2
    ·exact h2
    ·have e0 : v = 0 := by omega
     subst e0
     rw [slow_zero r5] at hoff
     omega
   have hnw := next_way r5 hv0
   rcases Int.lt_or_le (nextV v l.D) (reachV e l.D) with h2 | h2
   ·have := fit_le r5 (Int.le_of_lt h2) hre.2.2
    omega
   ·omega
  ·rw [if_neg h]; omega
 unfold goV clamp
 omega
theorem M1_step {l : L} (hr : RightL l) {v e room s : Int} (hv : 0 ≤ v) (hv2 : v ≤ 1048576) (he : e ≤ room) (hs : 1 ≤ s) (hd : 0 < v ∨ 0 ≤ e) (hnl : ¬ (e = 0 ∧ v = 0)) :
  M1 l.D (e - goV l v (want1 l e s) room) (goV l v (want1 l e s) room) + 1 ≤ M1 l.D e v := by
 have r5 := hr.2.2.2.2.1
 by_cases hon : slow v 0 l.D ≤ e
 ·have hp := slow_pos (v := v) (u := 0) (by omega) r5
  have hM : M1 l.D e v = e + 1 := by unfold M1; rw [if_pos hon, if_neg hnl]
  rw [hM]
  by_cases h1 : 1 ≤ e
  ·obtain ⟨a1, a2, _⟩ := on_way hr hv hv2 he hs hon h1
   generalize goV l v (want1 l e s) room = x at *
   unfold M1
   rw [if_pos (by omega)]
   split <;> omega
  ·have e0 : e = 0 := by omega
   subst e0
   rw [off_way hr hv hv2 (by omega) (.inr (by omega))]
   have hvd := slow_small r5 hon
   have : nextV v l.D = 0 := by unfold nextV; omega
   rw [this]
   unfold M1
   rw [if_pos (by rw [slow_zero r5]; omega), if_pos ⟨by omega, rfl⟩]
   omega
 ·have hv0 : 0 < v := by
   rcases Int.lt_or_le 0 v with h2 | h2
   ·exact h2
   ·have e0 : v = 0 := by omega
    subst e0
    rw [slow_zero r5] at hon
    omega
  rw [off_way hr hv hv2 (by omega) (.inl (by omega))]
  have hM : M1 l.D e v = cyc v l.D + (slow v 0 l.D - e) + 1 := by unfold M1; rw [if_neg hon]
  have hnw := next_way r5 hv0
  have hnc := next_cyc r5 hv0
  rw [hM]
  have hoff2 : ¬ slow (nextV v l.D) 0 l.D ≤ e - nextV v l.D := by omega
  unfold M1
  rw [if_neg hoff2]
  omega
noncomputable def MM (l : L) (t p v : Int) : Int := if 0 ≤ v then M1 l.D (t - p) v else M1 l.D (p - t) (-v)
theorem MM_down {l : L} (hr : RightL l) {t p v : Int} (h : v ≤ 0) : MM l t p v = M1 l.D (p - t) (-v) := by
 unfold MM
 by_cases h0 : 0 ≤ v
 ·have e : v = 0 := by omega
  subst e
  rw [if_pos h0, M1_zero hr.2.2.2.2.1, show (-0 : Int) = 0 by rfl, show -(t - p) = p - t by omega]
 ·rw [if_neg h0]
theorem toV_up {l : L} {p v t x : Int} (h1 : l.lo ≤ t) (h2 : t ≤ l.hi) (hv : 0 < v ∨ (0 ≤ v ∧ p ≤ t)) : toV l p v t x = want1 l (t - p) (vel x) := by
 unfold toV want1
 rw [clamp_in h1 h2]
 by_cases h : p < t
 ·rw [if_pos ⟨h, by omega⟩, if_pos (by omega)]
 ·rw [if_neg (by omega), if_neg (by omega), if_neg (by omega)]
theorem toV_down {l : L} {p v t x : Int} (h1 : l.lo ≤ t) (h2 : t ≤ l.hi) (hv : v < 0 ∨ (v ≤ 0 ∧ t ≤ p)) : toV l p v t x = -want1 l (p - t) (vel x) := by
 unfold toV want1
 rw [clamp_in h1 h2]
 by_cases h : t < p
 ·rw [if_neg (by omega), if_pos ⟨h, by omega⟩, if_pos (by omega)]
 ·rw [if_neg (by omega), if_neg (by omega), if_neg (by omega)]; rfl
theorem want1_pos {l : L} (hr : RightL l) {e s : Int} (hs : 0 ≤ s) : 0 ≤ want1 l e s := by
 unfold want1
 by_cases h : 0 < e
 ·rw [if_pos h]
  have := (reach_in (s := e) (by omega) hr.2.2.2.2.1).1
  omega
 ·rw [if_neg h]; omega
theorem vel_one {x : Int} (h : 1 ≤ x) : 1 ≤ vel x := by unfold vel clamp; omega
theorem goV_in {l : L} (hr : RightL l) {v w room : Int} (hv : 0 ≤ v) (hv2 : v ≤ 1048576) : 0 ≤ goV l v w room := by
 have hb := hi_bound hr (room := room) hv hv2
 have hn := nextV_in hv hr.2.2.2.2.1
 unfold goV clamp
 omega
theorem MM_step {l : L} (hr : RightL l) {p v t x : Int} (hs : SafeP l p v) (h1 : l.lo ≤ t) (h2 : t ≤ l.hi) (hx : 1 ≤ x) (hnl : ¬ (p = t ∧ v = 0)) :
  MM l t (p + stepV l p v (toV l p v t x)) (stepV l p v (toV l p v t x)) + 1 ≤ MM l t p v := by
 have h3 := hs.2.2.1
 have h4 := hs.2.2.2.1
 have hsx := vel_one hx
 by_cases hup : 0 < v ∨ (0 ≤ v ∧ p ≤ t)
 ·rw [toV_up h1 h2 hup, step_up hr (by omega) h4 (want1_pos hr (by omega)) hs]
  have := M1_step hr (v := v) (e := t - p) (room := l.hi - p) (s := vel x) (by omega) h4 (by omega) hsx (by omega) (by omega)
  have hg := goV_in hr (v := v) (w := want1 l (t - p) (vel x)) (room := l.hi - p) (by omega) h4
  generalize goV l v (want1 l (t - p) (vel x)) (l.hi - p) = y at *
  unfold MM
  rw [if_pos hg, if_pos (by omega), show t - (p + y) = t - p - y by omega]
  exact this
 ·have hdn : v < 0 ∨ (v ≤ 0 ∧ t ≤ p) := by omega
  rw [toV_down h1 h2 hdn, step_down hr (by omega) h3 (by have := want1_pos hr (e := p - t) (s := vel x) (by omega); omega) hs, show - -want1 l (p - t) (vel x) = want1 l (p - t) (vel x) by omega]
  have := M1_step hr (v := -v) (e := p - t) (room := p - l.lo) (s := vel x) (by omega) (by omega) (by omega) hsx (by omega) (by omega)
  have hg := goV_in hr (v := -v) (w := want1 l (p - t) (vel x)) (room := p - l.lo) (by omega) (by omega)
  generalize goV l (-v) (want1 l (p - t) (vel x)) (p - l.lo) = y at *
  rw [MM_down hr (by omega), MM_down hr (by omega), show p + -y - t = p - t - y by omega, show - -y = y by omega]
  exact this
theorem MM_in {l : L} (hr : RightL l) {t p v : Int} : 0 ≤ MM l t p v ∧ (MM l t p v ≤ 0 → p = t ∧ v = 0) ∧ MM l t p v ≤ haltN l v + 2 + 2 * max (t - p) (p - t) + slow (max v (-v)) 0 l.D := by
 have r5 := hr.2.2.2.2.1
 unfold MM haltN
 by_cases h : 0 ≤ v
 ·rw [if_pos h, Int.max_eq_left (show -v ≤ v by omega)]
  have := M1_in (e := t - p) r5 h
  omega
 ·rw [if_neg h, Int.max_eq_right (show v ≤ -v by omega)]
  have := M1_in (e := p - t) (v := -v) r5 (by omega)
  omega
theorem to_stand {l : L} (hr : RightL l) {t x : Int} (hs : SafeP l t 0) : stepV l t 0 (toV l t 0 t x) = 0 := by
 rw [toV_up hs.1 hs.2.1 (.inr ⟨by omega, by omega⟩)]
 have : want1 l (t - t) (vel x) = 0 := by unfold want1; rw [if_neg (by omega)]
 rw [this]
 exact stand hr hs
structure Nears (l : L) (t s p v : Int) : Prop where
 safe : SafeP l p v
 cap : max v (-v) ≤ min s l.V
 on : (0 ≤ v ∧ slow v 0 l.D ≤ t - p) ∨ (v ≤ 0 ∧ slow (-v) 0 l.D ≤ p - t)
structure Passes (l : L) (t u s p v : Int) : Prop where
 safe : SafeP l p v
 up : 0 ≤ v
 stops : slow v 0 l.D ≤ s - p
 slows : p < t → slow v u l.D ≤ t - p
 done : t ≤ p → v - l.D ≤ u
theorem pass_in {s u d : Int} (hu : 0 ≤ u) (hu2 : u ≤ 1048576) (hd : 1 ≤ d) : u ≤ passV s u d ∧ passV s u d ≤ 1048576 ∧ (passV s u d = u ∨ passV s u d + slow (passV s u d) u d ≤ s) :=
 ⟨(passV_is hu hu2 hd).1, (passV_is hu hu2 hd).2.1, (passV_is hu hu2 hd).2.2.1⟩
end Go.Proofs.YtijlccblabadaaaGreat.gn
end
section
namespace Go.Proofs.YtijlccblabadaaaGreat.hm
open Go.ChangeShapes Go.WideShapes Go.ChangeAt Go.RowKit Go.Proofs.YtijlccblabadaaaGreat.k
set_option linter.unusedVariables false
structure H where
 ph : Int
 f : Int
 c : Int
 tu : Bool
deriving DecidableEq
def hV (h : H) : Value := .agg #[.int .i64 h.ph, .int .i64 h.f, .int .i64 h.c, .bool h.tu]
def hC (h : H) : List Value := [.int .i64 h.ph, .int .i64 h.f, .int .i64 h.c, .bool h.tu]
def RightH (h : H) : Prop := 0 ≤ h.ph ∧ h.ph ≤ 5 ∧ (0 < h.f ∧ 0 < h.c ∧ h.c ≤ h.f ∧ h.f ≤ 1048576 ∨ h.f < 0 ∧ h.c < 0 ∧ h.f ≤ h.c ∧ -1048576 ≤ h.f)
instance (h : H) : Decidable (RightH h) := by unfold RightH; infer_instance
def rightH (h : H) : Bool := decide (RightH h)
theorem right_yes {h : H} (hr : RightH h) : rightH h = true := decide_eq_true hr
theorem right_no {h : H} (hr : ¬ RightH h) : rightH h = false := decide_eq_false hr
def aheadB (h : H) (plus minus : Bool) : Bool := if h.f < 0 then minus else plus
def behindB (h : H) (plus minus : Bool) : Bool := if h.f < 0 then plus else minus
def stepN (h : H) (home plus minus still : Bool) : H :=
 if h.ph = 0 then (if home then { h with ph := 1 } else if aheadB h plus minus then (if h.tu then { h with ph := 5 } else { h with f := -h.f, c := -h.c, tu := true }) else h)
 else if h.ph = 1 then (if still then { h with ph := 2 } else h)
 else if h.ph = 2 then (if home then (if behindB h plus minus then { h with ph := 5 } else h) else { h with ph := 3 })
 else if h.ph = 3 then (if still then { h with ph := 4 } else h)
 else h
def stepV (h : H) (home plus minus still : Bool) : Int :=
 if h.ph = 0 then (if home then 0 else if aheadB h plus minus then 0 else h.f)
 else if h.ph = 2 then (if home then (if behindB h plus minus then 0 else -h.c) else 0)
 else 0
def stepHN (h : H) (home plus minus still : Bool) : H := if RightH h then stepN h home plus minus still else h
def stepHV (h : H) (home plus minus still : Bool) : Int := if RightH h then stepV h home plus minus still else 0
def overH (h : H) : Bool := !(rightH h) || decide (4 ≤ h.ph)
def zeroH : H := ⟨0, 0, 0, false⟩
def newH (f c : Int) : H := if RightH ⟨0, f, c, false⟩ then ⟨0, f, c, false⟩ else zeroH
def newE (f c : Int) : Int := if RightH ⟨0, f, c, false⟩ then 0 else 1
theorem step_right {h : H} (hr : RightH h) (home plus minus still : Bool) : RightH (stepN h home plus minus still) := by
 obtain ⟨p, f, c, t⟩ := h
 obtain ⟨h1, h2, h3⟩ := hr
 dsimp only at h1 h2 h3
 unfold stepN
 dsimp only
 repeat' split
 all_goals refine ⟨?_, ?_, ?_⟩ <;> (try dsimp only) <;> omega
theorem step_over {h : H} (h4 : 4 ≤ h.ph) (home plus minus still : Bool) : stepN h home plus minus still = h ∧ stepV h home plus minus still = 0 := by
 unfold stepN stepV
 rw [if_neg (by omega), if_neg (by omega), if_neg (by omega), if_neg (by omega), if_neg (by omega), if_neg (by omega)]
 exact ⟨rfl, rfl⟩
end Go.Proofs.YtijlccblabadaaaGreat.hm
end
section
namespace Go.Proofs.YtijlccblabadaaaGreat.q
open Go.RowKit
def rm (z : Int) : Bool := decide (-9223372036854775808 ≤ z ∧ z ≤ 9223372036854775807)
def rv (z : Int) : Int := if rm z = true then z else 0
def addV (a b : Int) : Int := rv (a + b)
def addB (a b : Int) : Bool := rm (a + b)
def subV (a b : Int) : Int := rv (a - b)
def subB (a b : Int) : Bool := rm (a - b)
def mulV (a b : Int) : Int := rv (a * b)
def mulB (a b : Int) : Bool := rm (a * b)
def divV (a b : Int) : Int := if b = 0 then 0 else rv (a.tdiv b)
def divE (a b : Int) : Int := if b = 0 then 3 else if rm (a.tdiv b) = true then 0 else 2
def modV (a b : Int) : Int := if b = 0 then 0 else a.tmod b
def modE (_a b : Int) : Int := if b = 0 then 3 else 0
def mdV (a b c : Int) : Int := if c ≤ 0 then 0 else rv (a * b / c)
def mdE (a b c : Int) : Int := if c = 0 then 3 else if c < 0 then 1 else if rm (a * b / c) = true then 0 else 2
def isq : Nat → Nat
 | 0 => 0
 | n + 1 => if (isq n + 1) * (isq n + 1) ≤ n + 1 then isq n + 1 else isq n
def sqrtV (n : Int) : Int := (isq n.toNat : Nat)
def clampV (n lo hi : Int) : Int := max lo (min n hi)
theorem rm_iff {z : Int} : rm z = true ↔ (-9223372036854775808 ≤ z ∧ z ≤ 9223372036854775807) := by simp [rm]
theorem rv_yes {z : Int} (h : rm z = true) : rv z = z := by simp [rv, h]
theorem rv_no {z : Int} (h : ¬ rm z = true) : rv z = 0 := by simp [rv, h]
theorem i64_of_bv (v : BitVec 64) : (IntKind.i64.wrap (v.toNat : Int) < 0) ↔ v.msb = true := by
 rw [IntKind.wrap_i64, BitVec.msb_eq_decide]
 have := v.isLt
 simp only [decide_eq_true_eq]
 omega
theorem i64_rng (n : Int) : -9223372036854775808 ≤ IntKind.i64.wrap n ∧ IntKind.i64.wrap n ≤ 9223372036854775807 := by
 rw [IntKind.wrap_i64]; omega
theorem msb_of (x : Int) (h1 : -9223372036854775808 ≤ x) (h2 : x ≤ 9223372036854775807) : (BitVec.ofInt 64 x).msb = true ↔ x < 0 := by
 rw [BitVec.msb_eq_toInt, BitVec.toInt_ofInt, decide_eq_true_eq, Int.bmod_def]
 omega
theorem xor_neg (x y : Int) (h1 : -9223372036854775808 ≤ x) (h2 : x ≤ 9223372036854775807) (h3 : -9223372036854775808 ≤ y) (h4 : y ≤ 9223372036854775807) :
  bits .xor .i64 x y < 0 ↔ ¬ (x < 0 ↔ y < 0) := by
 show IntKind.i64.wrap ((BitVec.ofInt 64 x ^^^ BitVec.ofInt 64 y).toNat : Int) < 0 ↔ _
 rw [i64_of_bv, BitVec.msb_xor]
 have a := msb_of x h1 h2
 have b := msb_of y h3 h4
 rw [← a, ← b]
 cases (BitVec.ofInt 64 x).msb <;> cases (BitVec.ofInt 64 y).msb <;> simp
theorem and_neg (x y : Int) (h1 : -9223372036854775808 ≤ x) (h2 : x ≤ 9223372036854775807) (h3 : -9223372036854775808 ≤ y) (h4 : y ≤ 9223372036854775807) :
  bits .and .i64 x y < 0 ↔ (x < 0 ∧ y < 0) := by
 show IntKind.i64.wrap ((BitVec.ofInt 64 x &&& BitVec.ofInt 64 y).toNat : Int) < 0 ↔ _
 rw [i64_of_bv, BitVec.msb_and]
 have a := msb_of x h1 h2
 have b := msb_of y h3 h4
 rw [← a, ← b]
 cases (BitVec.ofInt 64 x).msb <;> cases (BitVec.ofInt 64 y).msb <;> simp
theorem xor_rng (x y : Int) : -9223372036854775808 ≤ bits .xor .i64 x y ∧ bits .xor .i64 x y ≤ 9223372036854775807 := i64_rng _
theorem wrap64_rng (n : Int) : -9223372036854775808 ≤ wrap64 n ∧ wrap64 n ≤ 9223372036854775807 := by unfold wrap64; omega
theorem add_test (a b : Int) (h1 : -9223372036854775808 ≤ a) (h2 : a ≤ 9223372036854775807) (h3 : -9223372036854775808 ≤ b) (h4 : b ≤ 9223372036854775807) :
  bits .and .i64 (bits .xor .i64 a (wrap64 (a + b))) (bits .xor .i64 b (wrap64 (a + b))) < 0 ↔ ¬ rm (a + b) = true := by
 have r := wrap64_rng (a + b)
 have x := xor_rng a (wrap64 (a + b))
 have y := xor_rng b (wrap64 (a + b))
 rw [and_neg _ _ x.1 x.2 y.1 y.2, xor_neg _ _ h1 h2 r.1 r.2, xor_neg _ _ h3 h4 r.1 r.2, rm_iff]
 unfold wrap64
 omega
theorem sub_test (a b : Int) (h1 : -9223372036854775808 ≤ a) (h2 : a ≤ 9223372036854775807) (h3 : -9223372036854775808 ≤ b) (h4 : b ≤ 9223372036854775807) :
  bits .and .i64 (bits .xor .i64 a b) (bits .xor .i64 a (wrap64 (a - b))) < 0 ↔ ¬ rm (a - b) = true := by
 have r := wrap64_rng (a - b)
 have x := xor_rng a (wrap64 (a - b))
 have y := xor_rng a b
 rw [and_neg _ _ y.1 y.2 x.1 x.2, xor_neg _ _ h1 h2 r.1 r.2, xor_neg _ _ h1 h2 h3 h4, rm_iff]
 unfold wrap64
 omega
theorem wrap_add (z : Int) (h : rm z = true) : wrap64 z = z := by
 rw [rm_iff] at h; unfold wrap64; omega
def mag (a : Int) : Nat := a.natAbs
theorem mag_le (a : Int) (h1 : -9223372036854775808 ≤ a) (h2 : a ≤ 9223372036854775807) : mag a ≤ 9223372036854775808 := by unfold mag; omega
theorem mag_neg (a : Int) (h1 : -9223372036854775808 ≤ a) (h : a < 0) : IntKind.u64.wrap (-IntKind.u64.wrap a) = (mag a : Nat) := by
 unfold mag; rw [IntKind.wrap_u64, IntKind.wrap_u64]; omega
def neq (a b : Int) : Bool := !decide (a < 0) == decide (b < 0)
def sgn (m : Nat) (neg : Bool) : Int := if neg = true then -(m : Int) else (m : Int)
theorem sgn_mul (a b : Int) : sgn (mag a * mag b) (neq a b) = a * b := by
 unfold sgn mag neq
 rw [← Int.natAbs_mul]
 by_cases ha : a < 0 <;> by_cases hb : b < 0 <;> simp [ha, hb]
 ·have := Int.mul_nonneg_of_nonpos_of_nonpos (Int.le_of_lt ha) (Int.le_of_lt hb); omega
 ·have := Int.mul_nonpos_of_nonpos_of_nonneg (Int.le_of_lt ha) (Int.not_lt.mp hb); omega
 ·have := Int.mul_nonpos_of_nonneg_of_nonpos (Int.not_lt.mp ha) (Int.le_of_lt hb); omega
 ·have := Int.mul_nonneg (Int.not_lt.mp ha) (Int.not_lt.mp hb); omega
def bitN : Nat → Nat
 | 0 => 0
 | k + 1 => 2 ^ k
theorem floor_pos (P c : Nat) (neg : Bool) (hn : neg = false) : sgn P neg / (c : Int) = ((P / c : Nat) : Int) := by
 subst hn; simp [sgn]
theorem floor_neg0 (P c : Nat) (neg : Bool) (hn : neg = true) (hc : 0 < c) (hr : P % c = 0) : sgn P neg / (c : Int) = -((P / c : Nat) : Int) := by
 subst hn
 have e := Nat.div_add_mod P c
 have e' : (c : Int) * ((P / c : Nat) : Int) = (P : Int) := by rw [← Int.natCast_mul]; omega
 apply Int.ediv_eq_of_eq_mul_right (by omega)
 rw [Int.mul_neg, e']; simp [sgn]
theorem floor_neg1 (P c : Nat) (neg : Bool) (hn : neg = true) (hc : 0 < c) (hr : P % c ≠ 0) : sgn P neg / (c : Int) = -((P / c + 1 : Nat) : Int) := by
 subst hn
 have e := Nat.div_add_mod P c
 have lt := Nat.mod_lt P hc
 have e' : (c : Int) * ((P / c : Nat) : Int) + ((P % c : Nat) : Int) = (P : Int) := by rw [← Int.natCast_mul]; omega
 generalize P / c = Q at *
 generalize P % c = R at *
 refine ((Int.ediv_emod_unique (r := (c : Int) - (R : Int)) (by omega)).mpr ⟨?_, by omega, by omega⟩).1
 have hs : sgn P true = -(P : Int) := rfl
 rw [hs, Int.mul_neg, Int.natCast_add, Int.mul_add]; omega
end Go.Proofs.YtijlccblabadaaaGreat.q
end
section
namespace Go.Proofs.YtijlccblabadaaaGreat.gx
open Go.ChangeShapes Go.WideShapes Go.ChangeAt Go.RowKit Go.Proofs.YtijlccblabadaaaGreat.k Go.Proofs.YtijlccblabadaaaGreat.b Go.Proofs.YtijlccblabadaaaGreat.gn
set_option linter.unusedVariables false
def InR (x : Int) : Prop := -9223372036854775808 ≤ x ∧ x ≤ 9223372036854775807
instance (x : Int) : Decidable (InR x) := by unfold InR; infer_instance
def PlaceP (s f m n d : Int) : Prop := 1 ≤ d ∧ InR (m - f) ∧ InR ((m - f) * n / d) ∧ InR (s + (m - f) * n / d)
instance (s f m n d : Int) : Decidable (PlaceP s f m n d) := by unfold PlaceP; infer_instance
def plB (s f m n d : Int) : Bool := decide (PlaceP s f m n d)
def plV (s f m n d : Int) : Int := if PlaceP s f m n d then s + (m - f) * n / d else 0
theorem plB_yes {s f m n d : Int} (h : PlaceP s f m n d) : plB s f m n d = true := decide_eq_true h
theorem plB_no {s f m n d : Int} (h : ¬ PlaceP s f m n d) : plB s f m n d = false := decide_eq_false h
theorem plV_yes {s f m n d : Int} (h : PlaceP s f m n d) : plV s f m n d = s + (m - f) * n / d := if_pos h
theorem plV_no {s f m n d : Int} (h : ¬ PlaceP s f m n d) : plV s f m n d = 0 := if_neg h
theorem plV_in (s f m n d : Int) : InR (plV s f m n d) := by
 unfold plV
 split
 ·rename_i h; exact h.2.2.2
 ·exact ⟨by omega, by omega⟩
noncomputable def loV (l : L) (p v : Int) : Int := if RightL l ∧ SafeP l p v then mayLo l p v else 0
noncomputable def hiV (l : L) (p v : Int) : Int := if RightL l ∧ SafeP l p v then mayHi l p v else 0
def WantP (p s f m n d : Int) : Prop := PlaceP s f m n d ∧ InR (plV s f m n d - p)
instance (p s f m n d : Int) : Decidable (WantP p s f m n d) := by unfold WantP; infer_instance
def wantV (p s f m n d : Int) : Int := if WantP p s f m n d then plV s f m n d - p else 0
noncomputable def wantB (l : L) (p v s f m n d : Int) : Bool := if WantP p s f m n d then decide (loV l p v ≤ plV s f m n d - p) && decide (plV s f m n d - p ≤ hiV l p v) else false
end Go.Proofs.YtijlccblabadaaaGreat.gx
end
section
namespace Go.Proofs.YtijlccblabadaaaGreat.ed
open Go.ChangeShapes Go.WideShapes Go.ChangeAt Go.RowKit Go.Proofs.YtijlccblabadaaaGreat.k
set_option linter.unusedVariables false
def tabL : List (List Int) := [[1, 9, 9, 9, 9, 9, 9, 9, 9, 9, 7, 9], [9, 0, 2, 9, 4, 5, 6, 3, 9, 9, 7, 9], [9, 0, 9, 1, 9, 9, 9, 3, 9, 9, 7, 9], [9, 0, 9, 9, 9, 9, 9, 9, 1, 9, 7, 9], [9, 0, 9, 9, 4, 5, 6, 3, 9, 1, 7, 9], [9, 0, 9, 9, 4, 5, 6, 3, 9, 1, 7, 9], [9, 0, 9, 9, 4, 5, 6, 3, 9, 1, 7, 9], [9, 0, 9, 9, 9, 9, 9, 9, 9, 9, 7, 1]]
def toI (s ev : Int) : Int := (tabL.getD s.toNat []).getD (ev - 1).toNat 9
def InT (s ev : Int) : Prop := 0 ≤ s ∧ s ≤ 7 ∧ 1 ≤ ev ∧ ev ≤ 12
instance (s ev : Int) : Decidable (InT s ev) := by unfold InT; infer_instance
def nxS (s ev : Int) : Int := if InT s ev then (if toI s ev = 9 then s else toI s ev) else s
def nxB (s ev : Int) : Bool := decide (InT s ev ∧ toI s ev ≠ 9)
def mvB (s : Int) : Bool := decide (s = 2 ∨ s = 4 ∨ s = 5 ∨ s = 6)
def tkB (s : Int) : Bool := decide (s = 1 ∨ s = 4 ∨ s = 5 ∨ s = 6)
theorem eight_of (s : Int) (h0 : 0 ≤ s) (h1 : s ≤ 7) : s = 0 ∨ s = 1 ∨ s = 2 ∨ s = 3 ∨ s = 4 ∨ s = 5 ∨ s = 6 ∨ s = 7 := by omega
theorem out_of {s ev : Int} (h : ¬ InT s ev) : nxS s ev = s ∧ nxB s ev = false := ⟨if_neg h, decide_eq_false fun h' => h h'.1⟩
theorem all_in {P : Int → Int → Prop} (h : ∀ i : Fin 8, ∀ j : Fin 12, P (i.val : Int) ((j.val : Int) + 1)) {s ev : Int} (hi : InT s ev) : P s ev := by
 obtain ⟨h0, h1, h2, h3⟩ := hi
 have := h ⟨s.toNat, by omega⟩ ⟨(ev - 1).toNat, by omega⟩
 have e1 : ((s.toNat : Nat) : Int) = s := by omega
 have e2 : (((ev - 1).toNat : Nat) : Int) + 1 = ev := by omega
 simp only [e1, e2] at this
 exact this
def onB (b : Bool) (s ev : Int) : Bool := if nxB s ev = true then (if ev = 1 then true else if ev = 2 then false else if ev = 12 then true else b) else b
end Go.Proofs.YtijlccblabadaaaGreat.ed
end
section
namespace Go.Proofs.YtijlccblabadaaaGreat.k
open Go.ChangeShapes Go.WideShapes Go.ChangeAt Go.RowKit
set_option linter.unusedVariables false
theorem Box_aside {w : World} {g g' i : Nat} (hne : g' ≠ g) (x : Value) : ∀ {vs : List Value} {o : Nat}, Box w g o vs → Box (w.setCell ⟨g', i, none⟩ x) g o vs
 | [], _, _ => trivial
 | v :: vs, o, h => by
  refine ⟨?_, ?_, Box_aside hne x h.2.2⟩
  ·have h2 := h.1
   simp [go_sem, h2]
   try (intro e; exact absurd e.symm hne)
  ·have h2 := h.2.1
   simp [go_sem, h2]
def Above (lo : Nat) (w w' : World) : Prop := ∀ b o, lo ≤ b → w'.cell? ⟨b, o, none⟩ = w.cell? ⟨b, o, none⟩
theorem Above.refl (lo : Nat) (w : World) : Above lo w w := fun _ _ _ => rfl
theorem Above.set {lo g i : Nat} {w w' : World} (h : Above lo w w') (hg : g < lo) (x : Value) : Above lo w (w'.setCell ⟨g, i, none⟩ x) := fun b o hb => by
 have hne : ¬ b = g := by omega
 have hne2 : ¬ g = b := by omega
 rw [← h b o hb]
 simp [go_sem]
theorem Above.puts {lo g : Nat} (hg : g < lo) : ∀ {vs : List Value} {o : Nat} {w w' : World}, Above lo w w' → Above lo w (k.puts w' g o vs)
 | [], _, _, _, h => h
 | v :: vs, o, _, _, h => Above.puts hg (vs := vs) (o := o + 1) (h.set hg v)
theorem setCells_puts (g : Nat) : ∀ (vs : List Value) (o : Nat) (w : World), w.setCells g o vs = k.puts w g o vs
 | [], _, _ => rfl
 | v :: vs, o, w => by rw [World.setCells, k.puts, setCells_puts g vs (o + 1)]
theorem Box.there {w : World} {g : Nat} : ∀ {vs : List Value} {o : Nat}, Box w g o vs → w.there g o vs.length
 | [], _, _ => fun j hj => absurd hj (by simp)
 | v :: vs, o, h => fun j hj => by
  cases j with
  | zero => exact ⟨by rw [Nat.add_zero, h.1]; rfl, by rw [Nat.add_zero]; exact h.2.1⟩
  | succ j =>
   have h1 := Box.there h.2.2 j (by simpa using hj)
   rw [show o + 1 + j = o + (j + 1) by omega] at h1
   exact h1
theorem Box.range {w : World} {g : Nat} : ∀ {vs : List Value} {o : Nat}, Box w g o vs → w.rangeAt g o vs
 | [], _, _ => fun j v hv => absurd hv (by simp)
 | u :: vs, o, h => fun j v hv => by
  cases j with
  | zero => rw [Nat.add_zero, h.1]; simpa using hv
  | succ j =>
   have h1 := Box.range h.2.2 j v (by simpa using hv)
   rw [show o + 1 + j = o + (j + 1) by omega] at h1
   exact h1
theorem setCell_before {w : World} {g : Nat} (i : Nat) (x : Value) {vs : List Value} {o : Nat} (hi : i < o) (h : Box w g o vs) : Box (w.setCell ⟨g, i, none⟩ x) g o vs := setCell_box i x hi h
theorem Box.set {w : World} {g : Nat} (x : Value) : ∀ {vs : List Value} {o i : Nat}, Box w g o vs → i < vs.length → Box (w.setCell ⟨g, o + i, none⟩ x) g o (vs.set i x)
 | [], _, _, _, hi => absurd hi (by simp)
 | u :: vs, o, i, h, hi => by
  cases i with
  | zero =>
   have a := h.1
   have b := h.2.1
   refine ⟨?_, ?_, setCell_before o x (by omega) h.2.2⟩ <;> simp [go_sem, a, b]
  | succ i =>
   have a := h.1
   have b := h.2.1
   have hr := Box.set x (vs := vs) (o := o + 1) (i := i) h.2.2 (by simpa using hi)
   rw [show o + 1 + i = o + (i + 1) by omega] at hr
   refine ⟨?_, ?_, hr⟩
   ·simp [go_sem, a]
    try (intro e; omega)
   ·simp [go_sem, b]
theorem Box.at' {w : World} {g : Nat} : ∀ {vs : List Value} {o i : Nat} {v : Value}, Box w g o vs → vs[i]? = some v → w.cell? ⟨g, o + i, none⟩ = some v ∧ w.frozen? ⟨g, o + i, none⟩ = false
 | [], _, _, _, _, h => by simp at h
 | u :: vs, o, i, v, h, hv => by
  cases i with
  | zero =>
   have e : u = v := by simpa using hv
   rw [Nat.add_zero, ← e]
   exact ⟨h.1, h.2.1⟩
  | succ i =>
   have := Box.at' (i := i) h.2.2 (by simpa using hv)
   rwa [show o + 1 + i = o + (i + 1) by omega] at this
theorem cell_of {w : World} {g : Nat} {vs : List Value} (h : Box w g 0 vs) {i : Nat} {v : Value} (hv : vs[i]? = some v) : w.cell? ⟨g, i, none⟩ = some v ∧ w.frozen? ⟨g, i, none⟩ = false := by
 have := Box.at' h hv
 rwa [Nat.zero_add] at this
theorem Box.put {w : World} {g : Nat} {vs : List Value} (h : Box w g 0 vs) (i : Nat) (hi : i < vs.length) (x : Value) : Box (w.setCell ⟨g, i, none⟩ x) g 0 (vs.set i x) := by
 have := Box.set x h hi
 rwa [Nat.zero_add] at this
theorem stored {w : World} {g : Nat} {us vs : List Value} (h : Box w g 0 vs) (hl : us.length = vs.length) :
  ∃ W, w.setCells g 0 us = W ∧ Box W g 0 us ∧ W.heap.size = w.heap.size ∧ (∀ B, B ≤ g → Below B w W) ∧ ∀ lo, g < lo → Above lo w W := by
 obtain ⟨h1, h2, h3⟩ := Box.puts (us := us) h hl
 exact ⟨k.puts w g 0 us, setCells_puts g us 0 w, h1, h2, h3, fun lo hlo => Above.puts hlo (Above.refl lo w)⟩
theorem results_cell {P : Program} {fn : Func} {t : Tmp} {T : TypeId} (h : fn.results = #[.cell t T]) {tmps : Array Value} {w : World} {b o : Nat} {v : Value} (ht : tmps.getD t undef = .pointer (some ⟨b, o, none⟩))
  (hl : (loadVar T ⟨b, o, none⟩).run P w = .ok v w) : (results fn tmps).run P w = .ok v w := by
 have ha : (asAddr (.pointer (some ⟨b, o, none⟩)) : Sem Addr) = pure ⟨b, o, none⟩ := rfl
 have ht2 : tmps[t]?.getD undef = .pointer (some ⟨b, o, none⟩) := by rw [← ht]; simp
 rw [results, h]
 simp [ht2, ha, hl]
theorem results_cell_tmp {P : Program} {fn : Func} {t u : Tmp} {T : TypeId} (h : fn.results = #[.cell t T, .tmp u]) {tmps : Array Value} {w : World} {b o : Nat} {v : Value} (ht : tmps.getD t undef = .pointer (some ⟨b, o, none⟩))
  (hl : (loadVar T ⟨b, o, none⟩).run P w = .ok v w) : (results fn tmps).run P w = .ok (.tuple #[v, tmps.getD u undef]) w := by
 have ha : (asAddr (.pointer (some ⟨b, o, none⟩)) : Sem Addr) = pure ⟨b, o, none⟩ := rfl
 have ht2 : tmps[t]?.getD undef = .pointer (some ⟨b, o, none⟩) := by rw [← ht]; simp
 rw [results, h]
 simp [ht2, ha, hl]
theorem Box_puts_aside {g g' : Nat} (hne : g' ≠ g) {vs : List Value} {o : Nat} : ∀ (us : List Value) (o' : Nat) (w : World), Box w g o vs → Box (k.puts w g' o' us) g o vs
 | [], _, _, h => h
 | u :: us, o', w, h => Box_puts_aside hne us (o' + 1) _ (Box_aside hne u h)
theorem aside_stored {w W : World} {g g' o : Nat} {us vs : List Value} (hW : w.setCells g' 0 us = W) (hne : g' ≠ g) (h : Box w g o vs) : Box W g o vs := by
 rw [← hW, setCells_puts]
 exact Box_puts_aside hne us 0 w h
theorem load_wanted {P : Program} {ops : Array Oper} {rest : List Oper} {op : Oper} {a : Act} {w : World} {Q : Exit → Act → World → Prop} (hw : Region.wanted op (yielded ops a.tmps) = true) (ty : TypeId) (x : Operand) (ho : op.op = .load ty x)
  (b o : Nat) (hx : a.eval x = .pointer (some ⟨b, o, none⟩)) (cs : List Value) (d : TypeDesc) (hc : w.rangeAt b o cs)
  (hu : P.underlying ty = some d) (hd : d.isRow = true) (hi : (P.info? ty).map (·.size) = some cs.length)
  (h : wpList P ops Q rest (a.put op.dst (.agg cs.toArray)) w) : wpList P ops Q (op :: rest) a w :=
 wpList_step fun K hK => by rw [if_pos hw]; exact wp_load_mid ty x ho b o hx cs d hc hu hd hi (hK _ _ h)
theorem there_of {w : World} {g n : Nat} {vs : List Value} (h : Box w g 0 vs) (hl : vs.length = n) : w.there g 0 n := hl ▸ h.there
end Go.Proofs.YtijlccblabadaaaGreat.k
end
section
namespace Go.Proofs.YtijlccblabadaaaGreat.rr
open Go.ChangeShapes Go.WideShapes Go.ChangeAt Go.RowKit Go.Joins Go.Proofs.YtijlccblabadaaaGreat.k
set_option linter.unusedVariables false
section
variable {α : Type} (enc : α → List Value) (z : Nat)
theorem flat_len (hz : ∀ x, (enc x).length = z) (L : List α) : (L.flatMap enc).length = L.length * z := by
 induction L with
 | nil => simp
 | cons x L ih => rw [List.flatMap_cons, List.length_append, hz, ih, List.length_cons, Nat.succ_mul, Nat.add_comm]
theorem flat_at (hz : ∀ x, (enc x).length = z) : ∀ (L : List α) (i f : Nat) (x : α), L[i]? = some x → f < z → (L.flatMap enc)[i * z + f]? = (enc x)[f]?
 | [], i, f, x, h, _ => by simp at h
 | y :: L, 0, f, x, h, hf => by
  have e : y = x := by simpa using h
  rw [List.flatMap_cons, Nat.zero_mul, Nat.zero_add, List.getElem?_append_left (by rw [hz]; exact hf), e]
 | y :: L, i + 1, f, x, h, hf => by
  rw [List.flatMap_cons, List.getElem?_append_right (by rw [hz, Nat.succ_mul]; omega), hz, show (i + 1) * z + f - z = i * z + f by rw [Nat.succ_mul]; omega]
  exact flat_at hz L i f x (by simpa using h) hf
theorem flat_inv (hz : ∀ x, (enc x).length = z) (hp : 0 < z) (L : List α) (j : Nat) (u : Value) (h : (L.flatMap enc)[j]? = some u) : ∃ x, L[j / z]? = some x ∧ (enc x)[j % z]? = some u := by
 have hj : j < L.length * z := by
  have h1 : j < (L.flatMap enc).length := (List.getElem?_eq_some_iff.1 h).1
  rwa [flat_len enc z hz] at h1
 have hi : j / z < L.length := (Nat.div_lt_iff_lt_mul hp).2 hj
 refine ⟨L[j / z], List.getElem?_eq_getElem hi, ?_⟩
 rw [← flat_at enc z hz L (j / z) (j % z) _ (List.getElem?_eq_getElem hi) (Nat.mod_lt _ hp), Nat.mul_comm, Nat.div_add_mod, h]
def Rd (w : World) (B : Nat) (A : Option Addr) (n cap : Nat) (L : List α) : Prop :=
 L.length = n ∧ n ≤ cap ∧ cap ≤ maxLen ∧ (A = none → cap = 0) ∧ (0 < n → ∃ b off, A = some ⟨b, off, none⟩ ∧ b < B ∧ ∀ i x, L[i]? = some x → w.rangeAt b (off + i * z) (enc x))
def Ow (t : TypeId) (w : World) (base : Nat) (v : Value) (L : List α) : Prop := w.ownsRow base t z v L.length (L.flatMap enc)
end
section
variable {α : Type} {enc : α → List Value} {z : Nat} {w w' : World} {B : Nat} {A : Option Addr} {n cap : Nat} {L : List α}
theorem range_below {b o : Nat} {vs : List Value} (h : w.rangeAt b o vs) (hb : Below B w w') (hB : b < B) : w'.rangeAt b o vs := fun j v hv => (hb.cell (p := ⟨b, o + j, none⟩) hB).trans (h j v hv)
theorem Rd.below (h : Rd enc z w B A n cap L) (hb : Below B w w') : Rd enc z w' B A n cap L :=
 ⟨h.1, h.2.1, h.2.2.1, h.2.2.2.1, fun hn => by
  obtain ⟨b, off, e, hB, hc⟩ := h.2.2.2.2 hn
  exact ⟨b, off, e, hB, fun i x hx => range_below (hc i x hx) hb hB⟩⟩
theorem Rd.more {B' : Nat} (h : Rd enc z w B A n cap L) (hB : B ≤ B') : Rd enc z w B' A n cap L :=
 ⟨h.1, h.2.1, h.2.2.1, h.2.2.2.1, fun hn => by
  obtain ⟨b, off, e, hb, hc⟩ := h.2.2.2.2 hn
  exact ⟨b, off, e, by omega, hc⟩⟩
theorem Rd.len_le (h : Rd enc z w B A n cap L) : (n : Int) ≤ 9223372036854775807 := by
 have h1 := h.2.1
 have h2 := h.2.2.1
 unfold maxLen at h2
 omega
theorem Rd.at (h : Rd enc z w B A n cap L) {i : Nat} (hi : i < n) : ∃ b off x, A = some ⟨b, off, none⟩ ∧ b < B ∧ L[i]? = some x ∧ w.rangeAt b (off + i * z) (enc x) := by
 obtain ⟨b, off, e, hb, hc⟩ := h.2.2.2.2 (by omega)
 have hl : i < L.length := by rw [h.1]; exact hi
 exact ⟨b, off, L[i], e, hb, List.getElem?_eq_getElem hl, hc i _ (List.getElem?_eq_getElem hl)⟩
theorem Rd.none_ (enc : α → List Value) (z : Nat) (w : World) (B : Nat) : Rd enc z w B none 0 0 [] := ⟨rfl, Nat.le_refl _, by unfold maxLen; omega, fun _ => rfl, fun h => absurd h (by omega)⟩
theorem Rd.drewN (h : Rd enc z w B A n cap L) (q : Nat) : Rd enc z (w.drewN q) B A n cap L := h
variable {t : TypeId} {base : Nat} {v : Value}
theorem Ow.form (hz : ∀ x, (enc x).length = z) (h : Ow enc z t w base v L) : ∃ A cap, v = .slice A L.length cap ∧ Rd enc z w w.heap.size A L.length cap L := by
 rcases h.2 with ⟨rfl, h0⟩ | ⟨g, cap, cur, rfl, hb, hg, hle, hmax, hcs, htake⟩
 ·exact ⟨none, 0, by rw [h0], rfl, by omega, by unfold maxLen; omega, fun _ => rfl, fun hn => absurd hn (by omega)⟩
 ·refine ⟨_, cap, rfl, rfl, hle, hmax, (fun h => by cases h), fun hn => ⟨g, 0, rfl, (Array.getElem?_eq_some_iff.1 hg).1, fun i x hx f u hu => ?_⟩⟩
  have hf : f < z := by have := (List.getElem?_eq_some_iff.1 hu).1; rwa [hz] at this
  have hc := World.ownsRow.cells (g := g) h rfl (i * z + f) u (by rw [flat_at enc z hz L i f x hx hf, hu])
  have e : (Addr.add ⟨g, 0, none⟩ (i * z + f)) = ⟨g, 0 + i * z + f, none⟩ := by
   unfold Addr.add; by_cases h : i * z + f = 0 <;> simp [h]
   omega
  rw [e] at hc
  exact hc
theorem Ow.kept {row : Option Nat} (h : Ow enc z t w base v L) (hg : w.grownBy w' row) (hne : v.ownBlock = none ∨ v.ownBlock ≠ row) : Ow enc z t w' base v L := World.ownsRow.kept h hg hne
theorem Ow.under (hO : Ow enc z t w base v L) (hb : Below w.heap.size w w') : Ow enc z t w' base v L :=
 hO.kept (row := .none) ⟨hb.os, hb.tape, hb.output, hb.size, fun k hk _ => hb.block k hk⟩ (by cases v.ownBlock <;> simp)
theorem Ow.lays {a : World} (hO : Ow enc z t w base v L) (h : Below B a w) (hB : B ≤ base) (hz : B ≤ a.heap.size) (hg : w.grownBy w' v.ownBlock) : Below B a w' :=
 h.grown hg (Nat.le_trans hz h.size) fun b hb => Nat.le_trans hB (hO.lt b hb).1
theorem Ow.nil (enc : α → List Value) (z : Nat) (t : TypeId) (w : World) (base : Nat) : Ow enc z t w base (.slice none 0 0) [] := World.ownsRow_nil _ _ _ _
theorem Ow.empty (enc : α → List Value) (z : Nat) (t : TypeId) (w : World) : Ow enc z t (w.alloc (.cells #[] t)) w.heap.size (.slice (some ⟨w.heap.size, 0, none⟩) 0 0) [] :=
 World.ownsRow_made w #[] 0 (Nat.le_refl _) (by unfold maxLen; omega) (by simp)
end
theorem Ow.base {α : Type} {enc : α → List Value} {z : Nat} {w : World} {t : TypeId} {b b' : Nat} {v : Value} {L : List α} (h : Ow enc z t w b v L) (hb : b' ≤ b) : Ow enc z t w b' v L := ownsRow_le h hb
theorem info_parts {P : Program} {t : TypeId} {zv : Value} {size bytes : Nat} (h : (P.info? t).map (fun i => (i.zero, i.size, i.bytes)) = some (some zv, size, bytes)) : ∃ i, P.info? t = some i ∧ i.zero = some zv ∧ i.size = size ∧ i.bytes = bytes := by
 cases hi : P.info? t with
 | none => rw [hi] at h; cases h
 | some i =>
  rw [hi] at h
  simp only [Option.map_some, Option.some.injEq, Prod.mk.injEq] at h
  exact ⟨i, rfl, h.1, h.2.1, h.2.2⟩
section
variable {P : Program} {α : Type} {enc : α → List Value} {z : Nat}
theorem append_row (hz : ∀ x, (enc x).length = z) (hp : 0 < z) (h1 : ∀ x, ∀ u ∈ enc x, u.oneCell' = true) {t e : TypeId} {zv : Value} {bytes : Nat} (ht : P.underlying t = some (.slice e)) (hi : (P.info? e).map (fun i => (i.zero, i.size, i.bytes)) = some (some zv, z, bytes))
  (hzs : zv.cells.size = z) (hby : bytes ≤ 10000) (w : World) (base ty : Nat) (v : Value) (l : List α) (hown : Ow enc z e w base v l) (B : Nat) (A : Option Addr) (n cap : Nat) (k : List α)
  (hk : Rd enc z w B A n cap k) (hlen : l.length + k.length ≤ 20000) (hbase : base ≤ w.heap.size) :
  ∃ v' w', (Builtin.append_ #[t, t] ty #[v, .slice A n cap]).run P w = .ok v' w' ∧ Ow enc z e w' base v' (l ++ k) ∧ w.grownBy w' v.ownBlock ∧
   (v'.ownBlock = v.ownBlock ∨ v'.ownBlock = some w.heap.size) := by
 obtain ⟨i0, hi0, hz0, hz1, hz2⟩ := info_parts hi
 have hkl := hk.1
 subst hkl
 cases A with
 | none =>
  have h2 := hk.2.2.2.1 rfl
  have h3 : k.length = 0 := by have := hk.2.1; omega
  have hk0 : k = [] := List.eq_nil_of_length_eq_zero h3
  subst hk0 h2
  exact ⟨v, w, run_append_owned_none (P := P) (w := w) base t ty e i0 z ht hi0 v _ _ hown, by simpa using hown, World.grownBy.refl w _, .inl rfl⟩
 | some ad =>
  have hcells : ∀ j u, (k.flatMap enc)[j]? = some u → w.cell? (ad.add j) = some u := by
   intro j u hu
   obtain ⟨x, hx, hu2⟩ := flat_inv enc z hz hp k j u hu
   have hj : 0 < k.length := Nat.lt_of_le_of_lt (Nat.zero_le _) (List.getElem?_eq_some_iff.1 hx).1
   obtain ⟨b, off, e, hb, hc⟩ := hk.2.2.2.2 hj
   injection e with e
   subst e
   have e1 : (Addr.add ⟨b, off, none⟩ j) = ⟨b, off + j / z * z + j % z, none⟩ := by
    have e2 : off + j / z * z + j % z = off + j := by rw [Nat.add_assoc, Nat.mul_comm, Nat.div_add_mod]
    rw [e2]
    unfold Addr.add; by_cases h : j = 0 <;> simp [h]
   rw [e1]
   exact hc _ x hx _ u hu2
  obtain ⟨v', w', hrun, h2, h3, _, h5⟩ := run_append_own_at (P := P) w base t ty e i0 zv z bytes ht hi0 hz0 hz1 hz2 hzs hp v l.length _ hown ad k.length cap _
   (flat_len enc z hz k) hcells (by intro u hu; obtain ⟨x, _, hx⟩ := List.mem_flatMap.1 hu; exact h1 x u hx) (by unfold maxLen; omega) (by
    have : (l.length + k.length) * bytes ≤ 20000 * 10000 := Nat.mul_le_mul hlen hby
    omega) hbase
  refine ⟨v', w', hrun, ?_, h3, h5⟩
  unfold Ow
  rw [List.flatMap_append, List.length_append]
  exact h2
theorem wpList_append_row (hz : ∀ x, (enc x).length = z) (hp : 0 < z) (h1 : ∀ x, ∀ u ∈ enc x, u.oneCell' = true) {t e : TypeId} {zv : Value} {bytes : Nat} (ht : P.underlying t = some (.slice e)) (hi : (P.info? e).map (fun i => (i.zero, i.size, i.bytes)) = some (some zv, z, bytes))
  (hzs : zv.cells.size = z) (hby : bytes ≤ 10000) (w : World) {ops : Array Oper} {rest : List Oper} {o : Oper} {a : Act} {Q : Exit → Act → World → Prop} (hgd : o.guard = none) (s x : Operand)
  (ho : o.op = .call { callee := .builtin .append, args := #[s, x], argTypes := #[t, t] })
  (base : Nat) (v : Value) (l : List α) (hs : a.eval s = v) (hown : Ow enc z e w base v l) (B : Nat) (A : Option Addr) (n cap : Nat) (k : List α) (hx : a.eval x = .slice A n cap)
  (hk : Rd enc z w B A n cap k) (hlen : l.length + k.length ≤ 20000) (hbase : base ≤ w.heap.size)
  (h : ∀ v' w', Ow enc z e w' base v' (l ++ k) → w.grownBy w' v.ownBlock → (v'.ownBlock = v.ownBlock ∨ v'.ownBlock = some w.heap.size) → wpList P ops Q rest (a.put o.dst v') w') :
  wpList P ops Q (o :: rest) a w := by
 refine wpList_plain hgd fun K hK => ?_
 obtain ⟨v', w', hr, h2, h3, h4⟩ := append_row hz hp h1 ht hi hzs hby w base o.type v l hown B A n cap k hk hlen hbase
 unfold Oper.wp execOp
 simp only [ho, resolve, invoke, builtin, Sem.run_bind, Sem.run_pure, Result.andThen_ok, List.map_toArray, List.map_cons, List.map_nil, hs, hx, hr]
 exact hK _ _ (h v' w' h2 h3 h4)
theorem step_append_row (hz : ∀ x, (enc x).length = z) (hp : 0 < z) (h1 : ∀ x, ∀ u ∈ enc x, u.oneCell' = true) {t e : TypeId} {zv : Value} {bytes : Nat} (ht : P.underlying t = some (.slice e)) (hi : (P.info? e).map (fun i => (i.zero, i.size, i.bytes)) = some (some zv, z, bytes))
  (hzs : zv.cells.size = z) (hby : bytes ≤ 10000) (w : World) {ops : Array Oper} {o : Oper} {a : Act} {K : Act → World → Prop} {Q : Exit → Act → World → Prop} {E : Prop} (hgd : o.guard = none) (s x : Operand)
  (ho : o.op = .call { callee := .builtin .append, args := #[s, x], argTypes := #[t, t] })
  (base : Nat) (v : Value) (l : List α) (hs : a.eval s = v) (hown : Ow enc z e w base v l) (B : Nat) (A : Option Addr) (n cap : Nat) (k : List α) (hx : a.eval x = .slice A n cap)
  (hk : Rd enc z w B A n cap k) (hlen : l.length + k.length ≤ 20000) (hbase : base ≤ w.heap.size)
  (h : ∀ v' w', Ow enc z e w' base v' (l ++ k) → w.grownBy w' v.ownBlock → (v'.ownBlock = v.ownBlock ∨ v'.ownBlock = some w.heap.size) → K (a.put o.dst v') w') :
  if Region.wanted o (yielded ops a.tmps) = true then Oper.wp P o a w K Q else E := by
 have hw : Region.wanted o (yielded ops a.tmps) = true := by simp [Region.wanted, hgd]
 rw [if_pos hw]
 obtain ⟨v', w', hr, h2, h3, h4⟩ := append_row hz hp h1 ht hi hzs hby w base o.type v l hown B A n cap k hk hlen hbase
 unfold Oper.wp execOp
 simp only [ho, resolve, invoke, builtin, Sem.run_bind, Sem.run_pure, Result.andThen_ok, List.map_toArray, List.map_cons, List.map_nil, hs, hx, hr]
 exact h v' w' h2 h3 h4
theorem one_row (w : World) (e : TypeId) (x : α) (cs : Array Value) (hc : cs.toList = enc x) : Rd enc z (w.alloc (.cells cs e)) (w.heap.size + 1) (some ⟨w.heap.size, 0, none⟩) 1 1 [x] :=
 ⟨rfl, Nat.le_refl _, by unfold maxLen; omega, (fun h => by cases h), fun _ => ⟨_, 0, rfl, by omega, fun i y hy j u hu => by
  have hi : i = 0 := by
   rcases Nat.lt_or_ge i 1 with h | h
   ·omega
   ·rw [List.getElem?_eq_none (by simpa using h)] at hy; cases hy
  subst hi
  have e1 : x = y := by simpa using hy
  subst e1
  simp only [Nat.zero_mul, Nat.zero_add]
  rw [World.cell?_alloc_mark, ← hu, ← hc]
  simp⟩⟩
end
end Go.Proofs.YtijlccblabadaaaGreat.rr
end
section
namespace Go.Proofs.YtijlccblabadaaaGreat.ln
open Go.ChangeShapes Go.WideShapes Go.ChangeAt Go.RowKit Go.Proofs.YtijlccblabadaaaGreat.k Go.Proofs.YtijlccblabadaaaGreat.rr
set_option linter.unusedVariables false
structure C where
 id : Int
 kind : Int
 tgt : Int
 spd : Int
 mode : Int
 num : Int
 den : Int
deriving DecidableEq
def cC (c : C) : List Value := [.int .i64 c.id, .int .i64 c.kind, .int .i64 c.tgt, .int .i64 c.spd, .int .i64 c.mode, .int .i64 c.num, .int .i64 c.den]
def cV (c : C) : Value := .agg #[.int .i64 c.id, .int .i64 c.kind, .int .i64 c.tgt, .int .i64 c.spd, .int .i64 c.mode, .int .i64 c.num, .int .i64 c.den]
def iC (x : Int) : List Value := [.int .i64 x]
theorem cC_len (c : C) : (cC c).length = 7 := rfl
theorem cC_one (c : C) : ∀ u ∈ cC c, u.oneCell' = true := by
 intro u hu
 simp only [cC, List.mem_cons, List.not_mem_nil, or_false] at hu
 rcases hu with rfl | rfl | rfl | rfl | rfl | rfl | rfl <;> rfl
theorem iC_len (x : Int) : (iC x).length = 1 := rfl
theorem iC_one (x : Int) : ∀ u ∈ iC x, u.oneCell' = true := by
 intro u hu
 simp only [iC, List.mem_cons, List.not_mem_nil, or_false] at hu
 rw [hu]; rfl
abbrev RdC := Rd cC 7
abbrev RdI := Rd iC 1
abbrev OwC := Ow cC 7 62
abbrev OwI := Ow iC 1 3
def OkC (c : C) : Prop := 0 ≤ c.mode ∧ c.mode ≤ 5
instance (c : C) : Decidable (OkC c) := by unfold OkC; infer_instance
def RightL (N W : List C) : Prop := (∀ c ∈ N ++ W, OkC c) ∧ N.length < 2 ∧ W.length < 5 ∧ (N.length = 1 ∨ W.length = 0)
instance (N W : List C) : Decidable (RightL N W) := by unfold RightL; infer_instance
def rightL (N W : List C) : Bool := decide (RightL N W)
theorem right_yes {N W : List C} (h : RightL N W) : rightL N W = true := decide_eq_true h
theorem right_no {N W : List C} (h : ¬ RightL N W) : rightL N W = false := decide_eq_false h
def ids (L : List C) : List Int := L.map (·.id)
theorem com_info : (Tryz.prog.info? 62).map (fun i => (i.zero, i.size, i.bytes)) = some (some (.agg #[.int .i64 0, .int .i64 0, .int .i64 0, .int .i64 0, .int .i64 0, .int .i64 0, .int .i64 0]), 7, 56) := by kernel_rfl
theorem int_info : (Tryz.prog.info? 3).map (fun i => (i.zero, i.size, i.bytes)) = some (some (.int .i64 0), 1, 8) := by kernel_rfl
theorem coms_slice : Tryz.prog.underlying 29 = some (.slice 62) := by kernel_rfl
theorem ints_slice : Tryz.prog.underlying 103 = some (.slice 3) := by kernel_rfl
theorem cells_com {w : World} {b o : Nat} {c : C} (h : w.rangeAt b o (cC c)) : w.cell? ⟨b, o, none⟩ = some (.int .i64 c.id) ∧ w.cell? ⟨b, o + 1, none⟩ = some (.int .i64 c.kind) ∧ w.cell? ⟨b, o + 2, none⟩ = some (.int .i64 c.tgt) ∧ w.cell? ⟨b, o + 3, none⟩ = some (.int .i64 c.spd) ∧ w.cell? ⟨b, o + 4, none⟩ = some (.int .i64 c.mode) ∧ w.cell? ⟨b, o + 5, none⟩ = some (.int .i64 c.num) ∧ w.cell? ⟨b, o + 6, none⟩ = some (.int .i64 c.den) :=
 ⟨h 0 _ rfl, h 1 _ rfl, h 2 _ rfl, h 3 _ rfl, h 4 _ rfl, h 5 _ rfl, h 6 _ rfl⟩
end Go.Proofs.YtijlccblabadaaaGreat.ln
end
section
namespace Go.Proofs.YtijlccblabadaaaGreat.ln
open Go.ChangeShapes Go.WideShapes Go.ChangeAt Go.RowKit Go.Proofs.YtijlccblabadaaaGreat.k Go.Proofs.YtijlccblabadaaaGreat.rr
set_option linter.unusedVariables false
theorem cell_int {w : World} {b o j : Nat} {x : Int} (h : w.rangeAt b (o + j * 1) (iC x)) : w.cell? ⟨b, o + j, none⟩ = some (.int .i64 x) := by
 have := h 0 _ rfl
 rwa [Nat.mul_one, Nat.add_zero] at this
theorem rows_same {α : Type} {L : List α} {i : Nat} {x y : α} (h : L[i]? = some x) (h' : L[i]? = some y) : x = y := by rw [h] at h'; injection h'
set_option maxHeartbeats 1000000 in
theorem samelist_any (L : List C) {A A' : Option Addr} {n cap B cap' B' : Nat} {w : World} (h : RdC w B A n cap L) (hB : B ≤ w.heap.size) (h' : RdC w B' A' n cap' L) (hB' : B' ≤ w.heap.size) :
  Calls Tryz.prog 52 #[.slice A n cap, .slice A' n cap'] w fun e w' => e = .returned (.bool true) ∧ Below w.heap.size w w' := by
 have hlen := h.len_le
 have HW := lh h
 have HW' := lh h'
 clear h h'
 go_enter Tryz.func52, Tryz.ntmps52
 go_wp2
 go_loopw [5] (fun i wr => ∃ j : Nat, j ≤ n ∧ i = .int .i64 j ∧ ∃ q, wr = w.drewN q) (fun i _ => n - (intOf i).toNat)
 case atStart => exact ⟨0, Nat.zero_le _, rfl, 0, rfl⟩
 case round =>
  obtain ⟨j, hj, rfl, q, rfl⟩ := hrel
  by_cases hlt : j < n
  ·obtain ⟨b, o, x, rfl, hb, hx, hr⟩ := HW.out.at hlt
   obtain ⟨b', o', x', rfl, hb', hx', hr'⟩ := HW'.out.at hlt
   have ex := rows_same hx hx'
   subst ex
   obtain ⟨c0, c1, c2, c3, c4, c5, c6⟩ := cells_com hr
   obtain ⟨d0, d1, d2, d3, d4, d5, d6⟩ := cells_com hr'
   have hj0 : (0 : Int) ≤ (j : Int) := by omega
   have hj1 : (j : Int) < (n : Int) := by omega
   clear hr hr' hx hx'
   go_wp2
   go_quiet (fail)
   go_wp2
   go_roundw
   case rel => exact ⟨j + 1, by omega, by go_num, q + nq, (by first | rfl | exact World.drewN_drewN _ _ _)⟩
   case measure => simp [intOf]; omega
  ·have hjl : j = n := by omega
   subst hjl
   go_wp2
   go_ret
   exact ⟨rfl, below_drawn (Below.refl _ _) _⟩
abbrev lnV (A : Option Addr) (n cap : Nat) (A' : Option Addr) (m cap' : Nat) : Value := .agg #[.slice A n cap, .slice A' m cap']
set_option maxHeartbeats 1000000 in
theorem same_any (N M : List C) {A A' D D' : Option Addr} {n cap m cap' dap dap' B : Nat} {w : World} (h : RdC w B A n cap N) (h2 : RdC w B A' m cap' M) (g : RdC w B D n dap N) (g2 : RdC w B D' m dap' M) (hB : B ≤ w.heap.size) :
  Calls Tryz.prog 29 #[lnV A n cap A' m cap', lnV D n dap D' m dap'] w fun e w' => e = .returned (.bool true) ∧ Below w.heap.size w w' := by
 have C1 := lh fun (W : World) (hb : Below B w W) => samelist_any N (h.below hb) (Nat.le_trans hB hb.size) (g.below hb) (Nat.le_trans hB hb.size)
 have C2 := lh fun (W : World) (hb : Below B w W) => samelist_any M (h2.below hb) (Nat.le_trans hB hb.size) (g2.below hb) (Nat.le_trans hB hb.size)
 have HB := lh hB
 clear h h2 g g2 hB
 go_enter Tryz.func29, Tryz.ntmps29
 go_upto_region 1 with fail
 obtain ⟨x1, x2, x3, x4⟩ := k.boxes2 (w := w) (c1 := #[.slice A n cap, .slice A' m cap']) (t1 := 31) (c2 := #[.slice D n dap, .slice D' m dap']) (t2 := 31) (Below.refl _ _)
 generalize (w.alloc (.cells #[.slice A n cap, .slice A' m cap'] 31)).alloc (.cells #[.slice D n dap, .slice D' m dap'] 31) = w2 at x1 x2 x3 x4 ⊢
 have X1 := lh x1
 have X2 := lh x2
 have X3 := lh x3
 have ⟨c0, _⟩ := k.cell_of x1 (i := 0) rfl
 have ⟨c1, _⟩ := k.cell_of x1 (i := 1) rfl
 have ⟨d0, _⟩ := k.cell_of x2 (i := 0) rfl
 have ⟨d1, _⟩ := k.cell_of x2 (i := 1) rfl
 clear x1 x2 x3
 go_wp2_with (first
  | (go_at_call 52; ((with_reducible refine (C1.out w2 (X3.out.mono HB.out)).mono ?_); rintro e w3 ⟨rfl, hb⟩; have X4 := lh (X3.out.trans (hb.mono X3.out.size)); have c1' := (k.cell_of (X1.out.below hb (by omega)) (i := 1) rfl).1; have d1' := (k.cell_of (X2.out.below hb (by omega)) (i := 1) rfl).1; clear hb c0 c1 d0 d1))
  | (go_at_call 52; ((with_reducible refine (C2.out _ (X4.out.mono HB.out)).mono ?_); rintro e w5 ⟨rfl, hb⟩; have X5 := lh (X4.out.trans (hb.mono X4.out.size)); clear hb)))
 go_ret
 exact ⟨rfl, X5.out⟩
theorem ids_succ (L : List C) (j : Nat) (x : C) (h : L[j]? = some x) : ids (L.take (j + 1)) = ids (L.take j) ++ [x.id] := by
 have hj : j < L.length := (List.getElem?_eq_some_iff.1 h).1
 have e : L[j] = x := by rw [List.getElem?_eq_getElem hj] at h; injection h
 unfold ids
 rw [List.take_succ_eq_append_getElem hj, List.map_append, e]
 rfl
theorem ids_len (L : List C) : (ids L).length = L.length := by simp [ids]
end Go.Proofs.YtijlccblabadaaaGreat.ln
end
section
namespace Go.Proofs.YtijlccblabadaaaGreat.k
open Go
set_option linter.unusedVariables false
def fresh (sp : List Nat) (listed : Array Bool) : Bool := sp.all fun k => !listed.getD k false
def waits (md : Region.Mode) (ops : Array Oper) : Nat → Nat → Nat → Bool
 | 0, _, _ => false
 | f + 1, k, i => match ops[k]? with
  | none => false
  | some o => o.after.any fun e => Region.binds md e && (e.on == i || waits md ops f e.on i)
def closed (md : Region.Mode) (ops : Array Oper) (listed : Array Bool) : Prop :=
 ∀ k o, ops[k]? = some o → listed.getD k false = true → ∀ e ∈ o.after, Region.binds md e = true → listed.getD e.on false = true
def closedB (md : Region.Mode) (ops : Array Oper) (listed : Array Bool) : Bool :=
 (List.range ops.size).all fun k => !listed.getD k false || match ops[k]? with
  | none => true
  | some o => o.after.all fun e => !Region.binds md e || listed.getD e.on false
section
variable {P : Program} {ops : Array Oper} {Q : Exit → Act → World → Prop} {md : Region.Mode} {T : World → Prop} {sp : List Nat}
theorem closedB_spec {listed : Array Bool} (h : closedB md ops listed = true) : closed md ops listed := fun k o ho hk e he hb => by
 unfold closedB at h
 rw [List.all_eq_true] at h
 have h1 := h k (List.mem_range.2 (Array.getElem?_eq_some_iff.1 ho).1)
 rw [hk, ho] at h1
 simp only [Bool.not_true, Bool.false_or] at h1
 have h2 := Array.all_eq_true_iff_forall_mem.1 h1 e he
 rw [hb] at h2
 simpa using h2
theorem waits_unlisted {listed : Array Bool} (hc : closed md ops listed) {i : Nat} (hi : listed.getD i false = false) : ∀ (f k : Nat), waits md ops f k i = true → listed.getD k false = false
 | 0, k, h => by cases h
 | f + 1, k, h => by
  unfold waits at h
  split at h
  ·cases h
  ·rename_i o ho
   obtain ⟨e, he, hb⟩ := Array.any_eq_true'.1 h
   rw [Bool.and_eq_true] at hb
   cases hk : listed.getD k false
   ·rfl
   ·have h1 := hc k o ho hk e he hb.1
    have h2 := hb.2
    rw [Bool.or_eq_true, beq_iff_eq] at h2
    rcases h2 with h2 | h2
    ·rw [h2, hi] at h1; cases h1
    ·rw [waits_unlisted hc hi f e.on h2] at h1; cases h1
theorem getD_ft {listed : Array Bool} {i : Nat} (h : listed.getD i true = false) : listed.getD i false = false := by
 rcases Nat.lt_or_ge i listed.size with h' | h'
 ·simp [h'] at h ⊢; exact h
 ·simp [Array.getElem?_eq_none h'] at h
theorem closed_set {listed : Array Bool} (hc : closed md ops listed) {j : Nat} (hj : j ∈ Region.ready md ops listed) : closed md ops (listed.setIfInBounds j true) := fun k o ho hk e he hb => by
 obtain ⟨h0, oj, hoj, hall⟩ := mem_ready.1 hj
 by_cases hkj : j = k
 ·subst hkj
  rw [hoj] at ho
  injection ho with ho
  subst ho
  exact getD_set_true (hall e he hb)
 ·rw [getD_set_ne false hkj] at hk
  exact getD_set_true (hc k o ho hk e he hb)
theorem fresh_set {listed : Array Bool} {i : Nat} (hi : sp.all (fun k => !(k == i)) = true) (h : fresh sp listed = true) : fresh sp (listed.setIfInBounds i true) = true := by
 unfold fresh at *
 rw [List.all_eq_true] at *
 intro k hk
 have h1 := hi k hk
 have h2 := h k hk
 rw [getD_set_ne false (fun e => by subst e; simp at h1)]
 exact h2
def wpAnyT (P : Program) (md : Region.Mode) (ops : Array Oper) (Q : Exit → Act → World → Prop) (T : World → Prop) (sp : List Nat) : Nat → Array Bool → Act → World → Prop
 | 0, listed, a, w => Region.ready md ops listed = [] ∧ Q .normal a w
 | fuel + 1, listed, a, w =>
  (Region.ready md ops listed = [] → Q .normal a w) ∧
  ∀ i ∈ Region.ready md ops listed, wpOp P ops Q i (fun a' w' => (fresh sp (listed.setIfInBounds i true) = true → T w') ∧ wpAnyT P md ops Q T sp fuel (listed.setIfInBounds i true) a' w') a w
theorem wpAny_of_T : ∀ (fuel : Nat) (listed : Array Bool) (a : Act) (w : World), wpAnyT P md ops Q T sp fuel listed a w → wpAny P md ops Q fuel listed a w
 | 0, _, _, _, h => h
 | fuel + 1, _, _, _, h => ⟨h.1, fun i hi => wpOp_mono (fun a' w' h' => wpAny_of_T fuel _ a' w' h'.2) (h.2 i hi)⟩
theorem wpAnyT_first {i : Nat} {oi : Oper} {v : Value} (hi : ops[i]? = some oi) (hsel : ∀ (j : Nat) (o : Oper) cs b, ops[j]? = some o → o.op ≠ .select cs b)
  (hQ : ∀ c a w, Q (.panic c) (a.put oi.dst v) w → Q (.panic c) a w) (hw : ∀ k ∈ sp, ∃ f, waits md ops f k i = true) (hne : sp.all (fun k => !(k == i)) = true) :
  ∀ (fuel : Nat) (listed : Array Bool) (a : Act) (w : World), closed md ops listed →
   (∀ j oj, ops[j]? = some oj → j ≠ i → listed.getD j true = false → (∀ e ∈ oj.after, Region.binds md e = true → e.on ≠ i) → oi.apart ops oj = true) →
   i ∈ Region.ready md ops listed → YieldsIf P ops T oi v a → T w →
   wpAnyT P md ops Q T sp fuel (listed.setIfInBounds i true) (a.put oi.dst v) w → wpAnyT P md ops Q T sp (fuel + 1) listed a w := by
 intro fuel
 induction fuel with
 | zero =>
  intro listed a w _ _ hr hy hT H
  refine ⟨fun h => (by rw [h] at hr; cases hr), fun j hj => ?_⟩
  by_cases hji : j = i
  ·subst hji; exact hy.wpOp hi hT ⟨fun _ => hT, H⟩
  ·have := ready_mono hj hji
   rw [H.1] at this
   cases this
 | succ fuel ih =>
  intro listed a w hcl hfree hr hy hT H
  refine ⟨fun h => (by rw [h] at hr; cases hr), fun j hj => ?_⟩
  by_cases hji : j = i
  ·subst hji; exact hy.wpOp hi hT ⟨fun _ => hT, H⟩
  ·have h1 := H.2 j (ready_mono hj hji)
   obtain ⟨hjun, oj, hoj, hall⟩ := mem_ready.1 hj
   have hiun := (mem_ready.1 hr).1
   have hnot : ∀ e ∈ oj.after, Region.binds md e = true → e.on ≠ i := fun e he hb heq => by
    have h1 := hall e he hb
    rw [heq, getD_ft hiun] at h1
    cases h1
   have h2 := wpOp_putIf hoj (hfree j oj hoj hji hjun hnot) (fun cs b => hsel i oi cs b hi) (fun cs b => hsel j oj cs b hoj) hQ hy h1
   have hfree' : ∀ k ok, ops[k]? = some ok → k ≠ i → (listed.setIfInBounds j true).getD k true = false →
     (∀ e ∈ ok.after, Region.binds md e = true → e.on ≠ i) → oi.apart ops ok = true := fun k ok hk hki hun hno => by
    refine hfree k ok hk hki ?_ hno
    by_cases hjk : j = k
    ·subst hjk; exact hjun
    ·rw [getD_set_ne true hjk] at hun; exact hun
   have hcl' := closed_set hcl hj
   have hi' : (listed.setIfInBounds j true).getD i false = false := by rw [getD_set_ne false hji]; exact getD_ft hiun
   have hfr : fresh sp (listed.setIfInBounds j true) = true := by
    unfold fresh
    rw [List.all_eq_true]
    intro k hk
    obtain ⟨f, hf⟩ := hw k hk
    rw [waits_unlisted hcl' hi' f k hf]
    rfl
   refine wpOp_mono (fun a' w' h3 => ?_) h2
   have h4 := h3.2
   rw [Array.setIfInBounds_comm _ _ (Ne.symm hji)] at h4
   have hT' : T w' := h4.1 (fresh_set hne hfr)
   exact ⟨fun _ => hT', ih (listed.setIfInBounds j true) a' w' hcl' hfree' (ready_mono hr (Ne.symm hji)) h3.1 hT' h4.2⟩
theorem wpAnyT_take {i : Nat} {oi : Oper} {v : Value} {fuel : Nat} {listed : Array Bool} {a : Act} {w : World} (hi : ops[i]? = some oi)
  (hs : Region.noSelect ops = true) (hf : (Region.free md ops listed i && closedB md ops listed && (sp.all fun k => waits md ops ops.size k i && !(k == i))) = true) (hr : (Region.ready md ops listed).contains i = true)
  (hQ : ∀ c a w, Q (.panic c) (a.put oi.dst v) w → Q (.panic c) a w) (hy : YieldsIf P ops T oi v a) (hT : T w)
  (h : wpAnyT P md ops Q T sp fuel (listed.setIfInBounds i true) (a.put oi.dst v) w) : wpAnyT P md ops Q T sp (fuel + 1) listed a w := by
 rw [Bool.and_eq_true, Bool.and_eq_true] at hf
 obtain ⟨⟨h1, h2⟩, h3⟩ := hf
 rw [List.all_eq_true] at h3
 refine wpAnyT_first hi (Region.noSelect_spec hs) hQ (fun k hk => ⟨ops.size, ?_⟩) ?_ fuel listed a w (closedB_spec h2) (Region.free_spec hi h1) (by simpa using hr) hy hT h
 ·have := h3 k hk
  rw [Bool.and_eq_true] at this
  exact this.1
 ·rw [List.all_eq_true]
  intro k hk
  have := h3 k hk
  rw [Bool.and_eq_true] at this
  exact this.2
theorem tk {oi : Oper} {fuel : Nat} {listed : Array Bool} {a : Act} {w : World} (i : Nat) (hi : ops[i]? = some oi) (v : Value) (hy : ∀ w', T w' → (execOp a.eval oi).run P w' = .ok (.value v) w')
  (h : wpAnyT P md ops Q T sp fuel (listed.setIfInBounds i true) (a.put oi.dst v) w) (hs : Region.noSelect ops = true := by kernel_rfl) (hf : (Region.free md ops listed i && closedB md ops listed && (sp.all fun k => waits md ops ops.size k i && !(k == i))) = true := by kernel_rfl)
  (hr : (Region.ready md ops listed).contains i = true := by kernel_rfl) (hw : Region.wanted oi (yielded ops a.tmps) = true := by rfl) (hQ : ∀ c a w, Q (.panic c) (a.put oi.dst v) w → Q (.panic c) a w := by exact fun _ _ _ h => h) (hT : T w := by assumption) :
  wpAnyT P md ops Q T sp (fuel + 1) listed a w := wpAnyT_take hi hs hf hr hQ (Or.inl ⟨hw, hy⟩) hT h
theorem tk0 {oi : Oper} {fuel : Nat} {listed : Array Bool} {a : Act} {w : World} (i : Nat) (hi : ops[i]? = some oi) (v : Value) (hy : ∀ w', (execOp a.eval oi).run P w' = .ok (.value v) w')
  (h : wpAnyT P md ops Q T sp fuel (listed.setIfInBounds i true) (a.put oi.dst v) w) (hs : Region.noSelect ops = true := by kernel_rfl) (hf : (Region.free md ops listed i && closedB md ops listed && (sp.all fun k => waits md ops ops.size k i && !(k == i))) = true := by kernel_rfl)
  (hr : (Region.ready md ops listed).contains i = true := by kernel_rfl) (hw : Region.wanted oi (yielded ops a.tmps) = true := by rfl) (hQ : ∀ c a w, Q (.panic c) (a.put oi.dst v) w → Q (.panic c) a w := by exact fun _ _ _ h => h) (hT : T w := by assumption) :
  wpAnyT P md ops Q T sp (fuel + 1) listed a w := wpAnyT_take hi hs hf hr hQ (Or.inl ⟨hw, fun w' _ => hy w'⟩) hT h
theorem tks {oi : Oper} {fuel : Nat} {listed : Array Bool} {a : Act} {w : World} (i : Nat) (hi : ops[i]? = some oi)
  (h : wpAnyT P md ops Q T sp fuel (listed.setIfInBounds i true) (a.put oi.dst undef) w) (hs : Region.noSelect ops = true := by kernel_rfl) (hf : (Region.free md ops listed i && closedB md ops listed && (sp.all fun k => waits md ops ops.size k i && !(k == i))) = true := by kernel_rfl)
  (hr : (Region.ready md ops listed).contains i = true := by kernel_rfl) (hw : Region.wanted oi (yielded ops a.tmps) = false := by rfl) (hQ : ∀ c a w, Q (.panic c) (a.put oi.dst undef) w → Q (.panic c) a w := by exact fun _ _ _ h => h) (hT : T w := by assumption) :
  wpAnyT P md ops Q T sp (fuel + 1) listed a w := wpAnyT_take hi hs hf hr hQ (Or.inr ⟨hw, rfl⟩) hT h
theorem tkv {oi : Oper} {fuel : Nat} {listed : Array Bool} {a : Act} {w : World} (i : Nat) (hi : ops[i]? = some oi) (v : Value) (hy : YieldsIf P ops T oi v a)
  (h : wpAnyT P md ops Q T sp fuel (listed.setIfInBounds i true) (a.put oi.dst v) w) (hs : Region.noSelect ops = true := by kernel_rfl) (hf : (Region.free md ops listed i && closedB md ops listed && (sp.all fun k => waits md ops ops.size k i && !(k == i))) = true := by kernel_rfl)
  (hr : (Region.ready md ops listed).contains i = true := by kernel_rfl) (hQ : ∀ c a w, Q (.panic c) (a.put oi.dst v) w → Q (.panic c) a w := by exact fun _ _ _ h => h) (hT : T w := by assumption) :
  wpAnyT P md ops Q T sp (fuel + 1) listed a w := wpAnyT_take hi hs hf hr hQ hy hT h
def AllReadyT (P : Program) (md : Region.Mode) (ops : Array Oper) (Q : Exit → Act → World → Prop) (T : World → Prop) (sp : List Nat) (fuel : Nat) (listed : Array Bool) (a : Act) (w : World) (rs : List Nat) : Prop :=
 ∀ i ∈ rs, wpOp P ops Q i (fun a' w' => (fresh sp (listed.setIfInBounds i true) = true → T w') ∧ wpAnyT P md ops Q T sp fuel (listed.setIfInBounds i true) a' w') a w
theorem AllReadyT.nil {fuel : Nat} {listed : Array Bool} {a : Act} {w : World} : AllReadyT P md ops Q T sp fuel listed a w [] := fun _ h => by cases h
theorem AllReadyT.cons {fuel : Nat} {listed : Array Bool} {a : Act} {w : World} {i : Nat} {o : Oper} {rs : List Nat} (ho : ops[i]? = some o)
  (h : ∀ K' : Act → World → Prop, Shut (∀ a w, T w → (T w → wpAnyT P md ops Q T sp fuel (listed.setIfInBounds i true) a w) → K' a w) → if Region.wanted o (yielded ops a.tmps) = true then Oper.wp P o a w K' Q else K' (a.put o.dst undef) w)
  (hs : AllReadyT P md ops Q T sp fuel listed a w rs) : AllReadyT P md ops Q T sp fuel listed a w (i :: rs) := fun j hj => by
 rcases List.mem_cons.1 hj with rfl | hj
 ·exact wpOp_step ho (fun K' hK => h K' (fun a w hT hW => hK a w ⟨fun _ => hT, hW hT⟩))
 ·exact hs j hj
theorem AllReadyT.spoilt {fuel : Nat} {listed : Array Bool} {a : Act} {w : World} {i : Nat} {o : Oper} {rs : List Nat} (ho : ops[i]? = some o) (hf : fresh sp (listed.setIfInBounds i true) = false)
  (h : ∀ K' : Act → World → Prop, Shut (∀ a w, wpAnyT P md ops Q T sp fuel (listed.setIfInBounds i true) a w → K' a w) → if Region.wanted o (yielded ops a.tmps) = true then Oper.wp P o a w K' Q else K' (a.put o.dst undef) w)
  (hs : AllReadyT P md ops Q T sp fuel listed a w rs) : AllReadyT P md ops Q T sp fuel listed a w (i :: rs) := fun j hj => by
 rcases List.mem_cons.1 hj with rfl | hj
 ·exact wpOp_step ho (fun K' hK => h K' (fun a w hW => hK a w ⟨fun h2 => absurd (hf.symm.trans h2) (by simp), hW⟩))
 ·exact hs j hj
theorem wpAnyT_ready {rs : List Nat} {fuel : Nat} {listed : Array Bool} {a : Act} {w : World} (hr : Region.ready md ops listed = rs) (hne : rs ≠ [])
  (h : AllReadyT P md ops Q T sp fuel listed a w rs) : wpAnyT P md ops Q T sp (fuel + 1) listed a w :=
 ⟨fun h0 => absurd (hr ▸ h0) hne, hr ▸ h⟩
theorem ry {fuel : Nat} {listed : Array Bool} {a : Act} {w : World} (rs : List Nat) (h : AllReadyT P md ops Q T sp fuel listed a w rs) (hr : Region.ready md ops listed = rs := by kernel_rfl) (hne : rs ≠ [] := by simp) : wpAnyT P md ops Q T sp (fuel + 1) listed a w := wpAnyT_ready hr hne h
theorem ar1 {fuel : Nat} {listed : Array Bool} {a : Act} {w : World} {i : Nat} {o : Oper} (ho : ops[i]? = some o)
  (h : ∀ K' : Act → World → Prop, Shut (∀ a w, T w → (T w → wpAnyT P md ops Q T sp fuel (listed.setIfInBounds i true) a w) → K' a w) → if Region.wanted o (yielded ops a.tmps) = true then Oper.wp P o a w K' Q else K' (a.put o.dst undef) w) :
  AllReadyT P md ops Q T sp fuel listed a w [i] := AllReadyT.cons ho h AllReadyT.nil
theorem wpAnyT_done {listed : Array Bool} {a : Act} {w : World} (hr : Region.ready md ops listed = []) (h : Q .normal a w) : ∀ fuel, wpAnyT P md ops Q T sp fuel listed a w
 | 0 => ⟨hr, h⟩
 | _ + 1 => ⟨fun _ => h, by rw [hr]; simp⟩
theorem wp_region_T {id : Nat} {a : Act} {w : World} (hm : P.follows .mixedOrders = true) (T : World → Prop) (sp : List Nat) (hT : T w.drew)
  (h : T w.drew → wpAnyT P .any ops Q T sp ops.size (Array.replicate ops.size false) a w.drew) : (Code.region id ops true).wp P Q a w :=
 wp_region_any hm (wpAny_of_T _ _ _ _ (h hT))
def left (n : Nat) (listed : Array Bool) : Nat := (List.range n).countP fun i => !listed.getD i true
end
theorem p1 {α : Type} (l : List α) (i : Nat) (a : α) : l.toArray.setIfInBounds i a = (l.set i a).toArray := List.setIfInBounds_toArray ..
theorem p2 {α : Type} (x : α) (l : List α) (y : α) : (x :: l).set 0 y = y :: l := rfl
theorem p3 {α : Type} (x : α) (l : List α) (n : Nat) (y : α) : (x :: l).set (n + 1) y = x :: l.set n y := rfl
theorem p4 {α : Type} {l : List α} {i : Nat} (h : i < l.toArray.size) : l.toArray[i] = l[i]'(by simpa using h) := rfl
theorem p5 {α : Type} (x : α) (l : List α) (i : Nat) (h : i + 1 < (x :: l).length) : (x :: l)[i + 1] = l[i]'(Nat.lt_of_succ_lt_succ h) := rfl
theorem p6 {α : Type} (x : α) (l : List α) (h : 0 < (x :: l).length) : (x :: l)[0] = x := rfl
end Go.Proofs.YtijlccblabadaaaGreat.k
end
section
namespace Go.Proofs.YtijlccblabadaaaGreat.ln
open Go.ChangeShapes Go.WideShapes Go.ChangeAt Go.RowKit Go.Proofs.YtijlccblabadaaaGreat.k Go.Proofs.YtijlccblabadaaaGreat.rr
set_option linter.unusedVariables false
theorem rows_box {w : World} {B : Nat} {A A' : Option Addr} {n cap m cap' : Nat} {N W : List C} (h : RdC w B A n cap N) (h2 : RdC w B A' m cap' W) (hB : B ≤ w.heap.size) {w2 : World} (hb : Below w.heap.size w w2) : RdC w2 w.heap.size A n cap N ∧ RdC w2 w.heap.size A' m cap' W :=
 ⟨(h.below (hb.mono hB)).more hB, (h2.below (hb.mono hB)).more hB⟩
set_option maxHeartbeats 2000000 in
theorem list_any (N W : List C) {A A' : Option Addr} {n cap m cap' B : Nat} {w : World} (h : RdC w B A n cap N) (h2 : RdC w B A' m cap' W) (hB : B ≤ w.heap.size) (hn : n ≤ 1000) (hm : m ≤ 1000) :
  Calls Tryz.prog 62 #[lnV A n cap A' m cap'] w fun e w' => ∃ v, e = .returned v ∧ OwC w' w.heap.size v (N ++ W) ∧ Below w.heap.size w w' := by
 have HL := lh (show N.length ≤ 1000 ∧ W.length ≤ 1000 from ⟨by rw [h.1]; exact hn, by rw [h2.1]; exact hm⟩)
 go_enter Tryz.func62, Tryz.ntmps62
 go_upto_region 1 with fail
 obtain ⟨x1, x2, x3⟩ := k.boxes1 (w := w) (c1 := #[.slice A n cap, .slice A' m cap']) (t1 := 31) (Below.refl _ _)
 generalize w.alloc (.cells #[.slice A n cap, .slice A' m cap'] 31) = w2 at x1 x2 x3 ⊢
 obtain ⟨r1, r2⟩ := rows_box h h2 hB x2
 have R1 := lh r1
 have R2 := lh r2
 have X2 := lh x2
 have ⟨c0, _⟩ := k.cell_of x1 (i := 0) rfl
 have ⟨c1, _⟩ := k.cell_of x1 (i := 1) rfl
 clear r1 r2 x1 x2 h h2 hB
 refine wp_region_T (by kernel_rfl) (fun w' => w'.cell? ⟨w.heap.size, 0, none⟩ = some (.slice A n cap) ∧ w'.cell? ⟨w.heap.size, 1, none⟩ = some (.slice A' m cap')) [] ⟨c0, c1⟩ (fun hHeld => ?_)
 refine wpAnyT_take (i := 1) (v := ?_) rfl (by kernel_rfl) (by kernel_rfl) (by kernel_rfl) (fun _ _ _ h => h) (Or.inl ⟨by rfl, ?_⟩) (by assumption) ?_
 rotate_left 1
 ·intro w hSw; clear hSw; go_simp <;> (with_reducible rfl)
 try go_simp
 refine wpAnyT_take (i := 2) (v := ?_) rfl (by kernel_rfl) (by kernel_rfl) (by kernel_rfl) (fun _ _ _ h => h) (Or.inl ⟨by rfl, ?_⟩) (by assumption) ?_
 rotate_left 1
 ·intro w hSw; obtain ⟨s0, s1⟩ := hSw; go_simp <;> (with_reducible rfl)
 try go_simp
 refine wpAnyT_take (i := 4) (v := ?_) rfl (by kernel_rfl) (by kernel_rfl) (by kernel_rfl) (fun _ _ _ h => h) (Or.inl ⟨by rfl, ?_⟩) (by assumption) ?_
 rotate_left 1
 ·intro w hSw; clear hSw; go_simp <;> (with_reducible rfl)
 try go_simp
 refine wpAnyT_take (i := 5) (v := ?_) rfl (by kernel_rfl) (by kernel_rfl) (by kernel_rfl) (fun _ _ _ h => h) (Or.inl ⟨by rfl, ?_⟩) (by assumption) ?_
 rotate_left 1
 ·intro w hSw; obtain ⟨s0, s1⟩ := hSw; go_simp <;> (with_reducible rfl)
 try go_simp
 refine ry [0] ?_
 refine ar1 rfl fun K hK => ?_
 go_simp
 have O3 : Hid (OwC (w2.alloc (.cells #[] 62)).drew (w.heap.size + 1) (.slice (some ⟨w2.heap.size, 0, none⟩) 0 0) []) := lh ((Ow.empty cC 7 62 w2).base x3)
 have hb3 : Below w2.heap.size w2 (w2.alloc (.cells #[] 62)).drew := ((Below.refl _ _).alloc (Nat.le_refl _) _).drew
 generalize (w2.alloc (.cells #[] 62)).drew = w3 at O3 hb3 ⊢
 have x4 : w.heap.size < w3.heap.size := Nat.lt_of_lt_of_le x3 hb3.size
 have X3 := lh (X2.out.trans (hb3.mono X2.out.size))
 have S1 := lh (R1.out.below (hb3.mono X2.out.size))
 have S2 := lh (R2.out.below (hb3.mono X2.out.size))
 have d0 := (hb3.cell (p := ⟨w.heap.size, 0, none⟩) x3).trans c0
 have d1 := (hb3.cell (p := ⟨w.heap.size, 1, none⟩) x3).trans c1
 clear hb3 R1 R2
 refine hK.out _ _ ⟨d0, d1⟩ (fun hHeld => ?_)
 clear hK K
 try go_simp
 refine ry [3] ?_
 refine ar1 rfl fun K hK => ?_
 refine step_append_row cC_len (by omega) cC_one coms_slice com_info rfl (by omega) w3 rfl (.tmp 3) (.tmp 5) rfl (w.heap.size + 1) (.slice (some ⟨w2.heap.size, 0, none⟩) 0 0) [] rfl O3.out _ A n cap N rfl S1.out (by have := HL.out.1; simp; omega) x4 ?_
 intro v6 w6 hown hg hat
 have hb6 : Below (w.heap.size + 1) w3 w6 := O3.out.lays (Below.refl _ _) (Nat.le_refl _) x4 hg
 have O6 : Hid (OwC w6 (w.heap.size + 1) v6 N) := lh (by simpa using hown)
 have x6 : w.heap.size < w6.heap.size := Nat.lt_of_lt_of_le x4 hb6.size
 have X6 := lh (X3.out.trans (hb6.mono (Nat.le_succ _)))
 have T2 := lh (S2.out.below (hb6.mono (Nat.le_succ _)))
 have e0 := (hb6.cell (p := ⟨w.heap.size, 0, none⟩) (Nat.lt_succ_self _)).trans d0
 have e1 := (hb6.cell (p := ⟨w.heap.size, 1, none⟩) (Nat.lt_succ_self _)).trans d1
 clear hb6 hown hg hat S1 S2 c0 c1
 refine hK.out _ _ ⟨e0, e1⟩ (fun hHeld => ?_)
 clear hK K
 try go_simp
 refine ry [6] ?_
 refine ar1 rfl fun K hK => ?_
 refine step_append_row cC_len (by omega) cC_one coms_slice com_info rfl (by omega) w6 rfl (.tmp 6) (.tmp 8) rfl (w.heap.size + 1) v6 N rfl O6.out _ A' m cap' W rfl T2.out (by have := HL.out; omega) x6 ?_
 intro v9 w9 hown hg hat
 have hb9 : Below (w.heap.size + 1) w6 w9 := O6.out.lays (Below.refl _ _) (Nat.le_refl _) x6 hg
 have O9 : Hid (OwC w9 (w.heap.size + 1) v9 (N ++ W)) := lh hown
 have X9 := lh (X6.out.trans (hb9.mono (Nat.le_succ _)))
 have x9 : w.heap.size < w9.heap.size := Nat.lt_of_lt_of_le x6 hb9.size
 have f0 := (hb9.cell (p := ⟨w.heap.size, 0, none⟩) (Nat.lt_succ_self _)).trans e0
 have f1 := (hb9.cell (p := ⟨w.heap.size, 1, none⟩) (Nat.lt_succ_self _)).trans e1
 clear hb9 hown hg hat T2 d0 d1 e0 e1
 refine hK.out _ _ ⟨f0, f1⟩ (fun hHeld => ?_)
 clear hK K
 try go_simp
 refine wpAnyT_take (i := 7) (v := ?_) rfl (by kernel_rfl) (by kernel_rfl) (by kernel_rfl) (fun _ _ _ h => h) (Or.inl ⟨by rfl, ?_⟩) (by assumption) ?_
 rotate_left 1
 ·intro w hSw; clear hSw; go_simp <;> (with_reducible rfl)
 try go_simp
 refine wpAnyT_done (by kernel_rfl) ?_ _
 go_wp2
 go_ret
 exact ⟨v9, rfl, O9.out.base (Nat.le_succ _), X9.out⟩
end Go.Proofs.YtijlccblabadaaaGreat.ln
end
section
namespace Go.Proofs.YtijlccblabadaaaGreat.ln
open Go.ChangeShapes Go.WideShapes Go.ChangeAt Go.RowKit Go.Proofs.YtijlccblabadaaaGreat.k Go.Proofs.YtijlccblabadaaaGreat.rr
set_option linter.unusedVariables false
theorem all_rows {L : List C} (h : ∀ q x, q < L.length → L[q]? = some x → OkC x) : ∀ c ∈ L, OkC c := by
 intro c hc
 obtain ⟨i, hi, rfl⟩ := List.getElem_of_mem hc
 exact h i _ hi (List.getElem?_eq_getElem hi)
set_option maxRecDepth 100000 in
set_option maxHeartbeats 4000000 in
theorem refright_any (N W : List C) {A A' : Option Addr} {n cap m cap' B : Nat} {w : World} (h : RdC w B A n cap N) (h2 : RdC w B A' m cap' W) (hB : B ≤ w.heap.size) (hn : n ≤ 1000) (hm : m ≤ 1000) :
  Calls Tryz.prog 38 #[lnV A n cap A' m cap'] w fun e w' => e = .returned (.bool (rightL N W)) ∧ Below w.heap.size w w' := by
 have HNM := lh (show N.length = n ∧ W.length = m from ⟨h.1, h2.1⟩)
 have HL := lh (show N.length ≤ 1000 ∧ W.length ≤ 1000 from ⟨by rw [h.1]; exact hn, by rw [h2.1]; exact hm⟩)
 go_enter Tryz.func38, Tryz.ntmps38
 go_upto_region 1 with fail
 obtain ⟨x1, x2, x3⟩ := k.boxes1 (w := w) (c1 := #[.slice A n cap, .slice A' m cap']) (t1 := 31) (Below.refl _ _)
 generalize w.alloc (.cells #[.slice A n cap, .slice A' m cap'] 31) = w2 at x1 x2 x3 ⊢
 obtain ⟨r1, r2⟩ := rows_box h h2 hB x2
 have R1 := lh r1
 have R2 := lh r2
 have X2 := lh x2
 have ⟨c0, _⟩ := k.cell_of x1 (i := 0) rfl
 have ⟨c1, _⟩ := k.cell_of x1 (i := 1) rfl
 clear r1 r2 x1 x2 h h2 hB
 refine wp_region_T (by kernel_rfl) (fun w' => w'.cell? ⟨w.heap.size, 0, none⟩ = some (.slice A n cap) ∧ w'.cell? ⟨w.heap.size, 1, none⟩ = some (.slice A' m cap')) [] ⟨c0, c1⟩ (fun hHeld => ?_)
 refine wpAnyT_take (i := 1) (v := ?_) rfl (by kernel_rfl) (by kernel_rfl) (by kernel_rfl) (fun _ _ _ h => h) (Or.inl ⟨by rfl, ?_⟩) (by assumption) ?_
 rotate_left 1
 ·intro w hSw; clear hSw; go_simp <;> (with_reducible rfl)
 try go_simp
 refine wpAnyT_take (i := 2) (v := ?_) rfl (by kernel_rfl) (by kernel_rfl) (by kernel_rfl) (fun _ _ _ h => h) (Or.inl ⟨by rfl, ?_⟩) (by assumption) ?_
 rotate_left 1
 ·intro w hSw; obtain ⟨s0, s1⟩ := hSw; go_simp <;> (with_reducible rfl)
 try go_simp
 refine wpAnyT_take (i := 4) (v := ?_) rfl (by kernel_rfl) (by kernel_rfl) (by kernel_rfl) (fun _ _ _ h => h) (Or.inl ⟨by rfl, ?_⟩) (by assumption) ?_
 rotate_left 1
 ·intro w hSw; clear hSw; go_simp <;> (with_reducible rfl)
 try go_simp
 refine wpAnyT_take (i := 5) (v := ?_) rfl (by kernel_rfl) (by kernel_rfl) (by kernel_rfl) (fun _ _ _ h => h) (Or.inl ⟨by rfl, ?_⟩) (by assumption) ?_
 rotate_left 1
 ·intro w hSw; obtain ⟨s0, s1⟩ := hSw; go_simp <;> (with_reducible rfl)
 try go_simp
 refine wpAnyT_take (i := 8) (v := ?_) rfl (by kernel_rfl) (by kernel_rfl) (by kernel_rfl) (fun _ _ _ h => h) (Or.inl ⟨by rfl, ?_⟩) (by assumption) ?_
 rotate_left 1
 ·intro w hSw; clear hSw; go_simp <;> (with_reducible rfl)
 try go_simp
 refine ry [0] ?_
 refine ar1 rfl fun K hK => ?_
 go_simp
 have O3 : Hid (OwC (w2.alloc (.cells #[] 62)).drew (w.heap.size + 1) (.slice (some ⟨w2.heap.size, 0, none⟩) 0 0) []) := lh ((Ow.empty cC 7 62 w2).base x3)
 have hb3 : Below w2.heap.size w2 (w2.alloc (.cells #[] 62)).drew := ((Below.refl _ _).alloc (Nat.le_refl _) _).drew
 generalize (w2.alloc (.cells #[] 62)).drew = w3 at O3 hb3 ⊢
 have x4 : w.heap.size < w3.heap.size := Nat.lt_of_lt_of_le x3 hb3.size
 have X3 := lh (X2.out.trans (hb3.mono X2.out.size))
 have S1 := lh (R1.out.below (hb3.mono X2.out.size))
 have S2 := lh (R2.out.below (hb3.mono X2.out.size))
 have d0 := (hb3.cell (p := ⟨w.heap.size, 0, none⟩) x3).trans c0
 have d1 := (hb3.cell (p := ⟨w.heap.size, 1, none⟩) x3).trans c1
 clear hb3 R1 R2
 refine hK.out _ _ ⟨d0, d1⟩ (fun hHeld => ?_)
 clear hK K
 try go_simp
 refine ry [3] ?_
 refine ar1 rfl fun K hK => ?_
 refine step_append_row cC_len (by omega) cC_one coms_slice com_info rfl (by omega) w3 rfl (.tmp 5) (.tmp 7) rfl (w.heap.size + 1) (.slice (some ⟨w2.heap.size, 0, none⟩) 0 0) [] rfl O3.out _ A n cap N rfl S1.out (by have := HL.out.1; simp; omega) x4 ?_
 intro v6 w6 hown hg hat
 have hb6 : Below (w.heap.size + 1) w3 w6 := O3.out.lays (Below.refl _ _) (Nat.le_refl _) x4 hg
 have O6 : Hid (OwC w6 (w.heap.size + 1) v6 N) := lh (by simpa using hown)
 have x6 : w.heap.size < w6.heap.size := Nat.lt_of_lt_of_le x4 hb6.size
 have X6 := lh (X3.out.trans (hb6.mono (Nat.le_succ _)))
 have T2 := lh (S2.out.below (hb6.mono (Nat.le_succ _)))
 have e0 := (hb6.cell (p := ⟨w.heap.size, 0, none⟩) (Nat.lt_succ_self _)).trans d0
 have e1 := (hb6.cell (p := ⟨w.heap.size, 1, none⟩) (Nat.lt_succ_self _)).trans d1
 clear hb6 hown hg hat S1 S2 c0 c1
 refine hK.out _ _ ⟨e0, e1⟩ (fun hHeld => ?_)
 clear hK K
 try go_simp
 refine ry [6] ?_
 refine ar1 rfl fun K hK => ?_
 refine step_append_row cC_len (by omega) cC_one coms_slice com_info rfl (by omega) w6 rfl (.tmp 8) (.tmp 10) rfl (w.heap.size + 1) v6 N rfl O6.out _ A' m cap' W rfl T2.out (by have := HL.out; omega) x6 ?_
 intro v9 w9 hown hg hat
 have hb9 : Below (w.heap.size + 1) w6 w9 := O6.out.lays (Below.refl _ _) (Nat.le_refl _) x6 hg
 have O9 : Hid (OwC w9 (w.heap.size + 1) v9 (N ++ W)) := lh hown
 have X9 := lh (X6.out.trans (hb9.mono (Nat.le_succ _)))
 have x9 : w.heap.size < w9.heap.size := Nat.lt_of_lt_of_le x6 hb9.size
 have f0 := (hb9.cell (p := ⟨w.heap.size, 0, none⟩) (Nat.lt_succ_self _)).trans e0
 have f1 := (hb9.cell (p := ⟨w.heap.size, 1, none⟩) (Nat.lt_succ_self _)).trans e1
 clear hb9 hown hg hat T2 d0 d1 e0 e1
 refine hK.out _ _ ⟨f0, f1⟩ (fun hHeld => ?_)
 clear hK K
 try go_simp
 obtain ⟨A9, c9, rfl, hr9⟩ := O9.out.form cC_len
 have R9 := lh hr9
 have hlen := hr9.len_le
 have HY : Hid (∀ c, c ∈ N ++ W → ¬ OkC c → rightL N W = false) := lh fun c hc hk => right_no fun hr => hk (hr.1 c hc)
 have HZ : Hid ((∀ q x, q < (N ++ W).length → (N ++ W)[q]? = some x → OkC x) → (rightL N W = decide (n < 2 ∧ m < 5 ∧ (n = 1 ∨ m = 0)))) := lh fun hq => by
  unfold rightL
  rw [decide_eq_decide]
  unfold RightL
  rw [HNM.out.1, HNM.out.2]
  exact ⟨fun h => h.2, fun h => ⟨all_rows hq, h⟩⟩
 have HNK : Hid ((N ++ W).length = n + m) := lh (by rw [List.length_append, HNM.out.1, HNM.out.2])
 clear hr9 O9
 obtain ⟨LL, hLL⟩ : ∃ LL, N ++ W = LL := ⟨_, rfl⟩
 rw [hLL] at R9 HY HZ HNK hlen
 rw [hLL]
 clear hLL
 obtain ⟨KK, hKK⟩ : ∃ KK, LL.length = KK := ⟨_, rfl⟩
 rw [hKK] at R9 HZ HNK hlen
 rw [hKK]
 have HKK := lh hKK
 clear hKK HNM HL
 refine wpAnyT_take (i := 7) (v := ?_) rfl (by kernel_rfl) (by kernel_rfl) (by kernel_rfl) (fun _ _ _ h => h) (Or.inl ⟨by rfl, ?_⟩) (by assumption) ?_
 rotate_left 1
 ·intro w hSw; clear hSw; go_simp <;> (with_reducible rfl)
 try go_simp
 refine wpAnyT_done (by kernel_rfl) ?_ _
 go_wp2
 go_loopw [4, 13] (fun c i wr => ∃ j : Nat, j ≤ KK ∧ i = .int .i64 j ∧ (∀ q x, q < j → LL[q]? = some x → OkC x) ∧ Below w9.heap.size w9 wr) (fun _ i _ => KK - (intOf i).toNat)
 case atStart => exact ⟨0, Nat.zero_le _, rfl, fun q x hq => absurd hq (by omega), Below.refl _ _⟩
 case round =>
  obtain ⟨j, hj, rfl, hT, hb⟩ := hrel
  have HT := lh hT
  have HB := lh hb
  clear hT
  by_cases hlt : j < KK
  ·obtain ⟨b, o, x, rfl, hb', hx, hr⟩ := (R9.out.below hb).at hlt
   obtain ⟨g0, g1, g2, g3, g4, g5, g6⟩ := cells_com hr
   have hj0 : (0 : Int) ≤ (j : Int) := by omega
   have hj1 : (j : Int) < (KK : Int) := by omega
   have hbz := Nat.lt_of_lt_of_le hb' hb.size
   have HX := lh (List.mem_of_getElem? hx)
   have HXJ := lh hx
   clear hr hx hb hb'
   have HB2 : Hid (∀ ob, Below w9.heap.size w9 (wr.alloc ob)) := lh fun ob => HB.out.alloc HB.out.size ob
   by_cases hm0 : x.mode < 0
   ·have HF := lh (HY.out x HX.out fun hk => by have := hk.1; omega)
    go_wp2
    go_ret
    exact ⟨by rw [HF.out]; rfl, X9.out.trans ((HB2.out _).mono X9.out.size)⟩
   ·by_cases hm5 : 5 < x.mode
    ·have HF := lh (HY.out x HX.out fun hk => by have := hk.2; omega)
     go_wp2
     go_ret
     exact ⟨by rw [HF.out]; rfl, X9.out.trans ((HB2.out _).mono X9.out.size)⟩
    ·have HO : Hid (∀ q y, q < j + 1 → LL[q]? = some y → OkC y) := lh fun q y hq hy => by
      by_cases e : q = j
      ·subst e
       have := rows_same hy HXJ.out
       subst this
       exact ⟨by omega, by omega⟩
      ·exact HT.out q y (by omega) hy
     go_wp2
     go_roundw
     case rel => exact ⟨j + 1, by omega, by go_num, HO.out, HB2.out _⟩
     case measure => simp [intOf]; omega
  ·have hjl : j = KK := by omega
   subst hjl
   have HV := lh (HZ.out HT.out)
   have hbz := HB.out.size
   have q0 := (hb.cell (p := ⟨w.heap.size, 0, none⟩) x9).trans f0
   have q1 := (hb.cell (p := ⟨w.heap.size, 1, none⟩) x9).trans f1
   have HE := lh (X9.out.trans (hb.mono X9.out.size))
   clear hb f0 f1
   by_cases k1 : n < 2
   ·have i1 : (n : Int) < 2 := by omega
    by_cases k2 : m < 5
    ·have i2 : (m : Int) < 5 := by omega
     by_cases k3 : n = 1
     ·have i3 : ((n : Int) == 1) = true := by rw [beq_iff_eq]; omega
      have HW := lh (HV.out.trans (decide_eq_true (by omega)))
      go_wp2
      go_ret
      exact ⟨by rw [HW.out]; rfl, HE.out⟩
     ·have i3 : ((n : Int) == 1) = false := by rw [beq_eq_false_iff_ne]; omega
      by_cases k4 : m = 0
      ·have i4 : ((m : Int) == 0) = true := by rw [beq_iff_eq]; omega
       have HW := lh (HV.out.trans (decide_eq_true (by omega)))
       go_wp2
       go_ret
       exact ⟨by rw [HW.out]; rfl, HE.out⟩
      ·have i4 : ((m : Int) == 0) = false := by rw [beq_eq_false_iff_ne]; omega
       have HW := lh (HV.out.trans (decide_eq_false (by omega)))
       go_wp2
       go_ret
       exact ⟨by rw [HW.out]; rfl, HE.out⟩
    ·have i2 : (5 : Int) ≤ (m : Int) := by omega
     have i5 : decide ((m : Int) < 5) = false := decide_eq_false (by omega)
     have HW := lh (HV.out.trans (decide_eq_false (by omega)))
     go_wp2
     go_ret
     exact ⟨by rw [HW.out]; rfl, HE.out⟩
   ·have i1 : (2 : Int) ≤ (n : Int) := by omega
    have i5 : decide ((n : Int) < 2) = false := decide_eq_false (by omega)
    have HW := lh (HV.out.trans (decide_eq_false (by omega)))
    go_wp2
    go_ret
    exact ⟨by rw [HW.out]; rfl, HE.out⟩
end Go.Proofs.YtijlccblabadaaaGreat.ln
end
section
namespace Go.Proofs.YtijlccblabadaaaGreat.ln
open Go.ChangeShapes Go.WideShapes Go.ChangeAt Go.RowKit Go.Proofs.YtijlccblabadaaaGreat.k Go.Proofs.YtijlccblabadaaaGreat.rr
set_option linter.unusedVariables false
def GotO (N W : List C) (w : World) (e : Ending) (w' : World) : Prop := ∃ A n c A' m c', e = .returned (lnV A n c A' m c') ∧ OwC w' w.heap.size (.slice A n c) N ∧ OwC w' w.heap.size (.slice A' m c') W ∧ Below w.heap.size w w'
theorem ow_set {α : Type} {enc : α → List Value} {z : Nat} {t : TypeId} {w : World} {base g i : Nat} {u : Value} {l : List α} (h : Ow enc z t w base u l) (hg : g < base) (x : Value) : Ow enc z t (w.setCell ⟨g, i, none⟩ x) base u l :=
 h.kept (row := some g) ⟨rfl, rfl, rfl, by simp, fun k hk hne2 => Below.heap_setCell w _ x k (fun e => hne2 (by rw [e]))⟩ (by
  cases hu : u.ownBlock with
  | none => exact .inl rfl
  | some b => exact .inr fun e => by injection e with e; have := (h.lt b hu).1; omega)
theorem ow_row {w : World} {base : Nat} {A : Option Addr} {n c : Nat} {l : List C} (h : OwC w base (.slice A n c) l) : RdC w w.heap.size A n c l := by
 obtain ⟨A', c', e, hr⟩ := h.form cC_len
 injection e with e1 e2 e3
 subst e1 e2 e3
 exact hr
theorem ow_form {w : World} {base : Nat} {v : Value} {l : List C} (h : OwC w base v l) : ∃ A n c, v = .slice A n c := by
 obtain ⟨A', c', e, hr⟩ := h.form cC_len
 exact ⟨_, _, _, e⟩
end Go.Proofs.YtijlccblabadaaaGreat.ln
end
section
namespace Go.Proofs.YtijlccblabadaaaGreat.ln
open Go.ChangeShapes Go.WideShapes Go.ChangeAt Go.RowKit Go.Proofs.YtijlccblabadaaaGreat.k Go.Proofs.YtijlccblabadaaaGreat.rr
set_option linter.unusedVariables false
def GotA (N W : List C) (I : List Int) (er : Int) (w : World) (e : Ending) (w' : World) : Prop :=
 ∃ A n c A' m c' D k d, e = .returned (.tuple #[lnV A n c A' m c', .slice D k d, .int .i64 er]) ∧ RdC w' w'.heap.size A n c N ∧ RdC w' w'.heap.size A' m c' W ∧ RdI w' w'.heap.size D k d I ∧ Below w.heap.size w w'
theorem oc_row {w : World} {base : Nat} {v : Value} {l : List C} (h : OwC w base v l) : ∃ A n c, v = .slice A n c ∧ RdC w w.heap.size A n c l := by
 obtain ⟨A', c', e, hr⟩ := h.form cC_len
 exact ⟨_, _, _, e, hr⟩
theorem oi_val {w : World} {base : Nat} {v : Value} {l : List Int} (h : OwI w base v l) : ∃ A n c, v = .slice A n c := by
 obtain ⟨A', c', e, hr⟩ := h.form iC_len
 exact ⟨_, _, _, e⟩
theorem oi_rows {w : World} {base : Nat} {A : Option Addr} {n c : Nat} {l : List Int} (h : OwI w base (.slice A n c) l) : RdI w w.heap.size A n c l := by
 obtain ⟨A', c', e, hr⟩ := h.form iC_len
 injection e with e1 e2 e3
 subst e1 e2 e3
 exact hr
end Go.Proofs.YtijlccblabadaaaGreat.ln
end
section
namespace Go.Proofs.YtijlccblabadaaaGreat.ln
open Go.ChangeShapes Go.WideShapes Go.ChangeAt Go.RowKit Go.Proofs.YtijlccblabadaaaGreat.k Go.Proofs.YtijlccblabadaaaGreat.rr
set_option linter.unusedVariables false
def AddOk (N W : List C) (c : C) : Prop := RightL N W ∧ OkC c
instance (N W : List C) (c : C) : Decidable (AddOk N W c) := by unfold AddOk; infer_instance
def addN (N W : List C) (c : C) : List C := if AddOk N W c then (if c.mode = 0 then [c] else if 4 < (N ++ W).length then [] else (N ++ W ++ [c]).take 1) else []
def addW (N W : List C) (c : C) : List C := if AddOk N W c then (if c.mode = 0 then [] else if 4 < (N ++ W).length then [] else (N ++ W ++ [c]).drop 1) else []
def addI (N W : List C) (c : C) : List Int := if AddOk N W c then (if c.mode = 0 then ids (N ++ W) else []) else []
def addE (N W : List C) (c : C) : Int := if AddOk N W c then (if c.mode = 0 then 0 else if 4 < (N ++ W).length then 8 else 0) else 1
def zeroC : C := ⟨0, 0, 0, 0, 0, 0, 0⟩
def endN (N W : List C) : List C := if RightL N W then W.take 1 else []
def endW (N W : List C) : List C := if RightL N W then W.drop 1 else []
def endI (N W : List C) : Int := if RightL N W then (match N with | [] => 0 | c :: _ => c.id) else 0
def clearI (N W : List C) : List Int := if RightL N W then ids (N ++ W) else []
def lastC (N W : List C) : C := if RightL N W then (N ++ W).getLast?.getD zeroC else zeroC
def lastB (N W : List C) : Bool := decide (RightL N W ∧ 0 < (N ++ W).length)
def nextC (N W : List C) : C := if RightL N W then W.head?.getD zeroC else zeroC
def nextB (N W : List C) : Bool := decide (RightL N W ∧ 1 < (N ++ W).length)
def GotE (N W : List C) (id : Int) (w : World) (e : Ending) (w' : World) : Prop :=
 ∃ A n c A' m c', e = .returned (.tuple #[lnV A n c A' m c', .int .i64 id]) ∧ RdC w' w'.heap.size A n c N ∧ RdC w' w'.heap.size A' m c' W ∧ Below w.heap.size w w'
def GotI (N W : List C) (I : List Int) (w : World) (e : Ending) (w' : World) : Prop :=
 ∃ A n c A' m c' D k d, e = .returned (.tuple #[lnV A n c A' m c', .slice D k d]) ∧ RdC w' w'.heap.size A n c N ∧ RdC w' w'.heap.size A' m c' W ∧ RdI w' w'.heap.size D k d I ∧ Below w.heap.size w w'
def GotC (c : C) (b : Bool) (w : World) (e : Ending) (w' : World) : Prop := e = .returned (.tuple #[cV c, .bool b]) ∧ Below w.heap.size w w'
def smallB (n m : Nat) : Bool := decide (n ≤ 20 ∧ m ≤ 20)
end Go.Proofs.YtijlccblabadaaaGreat.ln
end
section
namespace Go.Proofs.YtijlccblabadaaaGreat.ax
open Go.Proofs.YtijlccblabadaaaGreat.ln (C)
open Go.Proofs.YtijlccblabadaaaGreat.hm (H)
open Go.Proofs.YtijlccblabadaaaGreat.ed (nxS nxB)
set_option linter.unusedVariables false
abbrev Lm := gn.L
structure Ax where
 st : Int
 l : Lm
 win : Int
 homeAt : Int
 fast : Int
 creep : Int
 p : Int
 v : Int
 sm : List Int
 off : Int
 N : List C
 W : List C
 homed : Bool
 h : H
 ov : Int
 start : Int
 master : Int
 cause : Int
 instep : Bool
structure In where
 power : Bool
 op : Bool
 actual : Int
 cause : Int
 plus : Bool
 minus : Bool
 home : Bool
 reset : Bool
 release : Bool
 ov : Int
 master : Int
 cmds : List C
abbrev Rp := Int × Int
def InR (x : Int) : Prop := -9223372036854775808 ≤ x ∧ x ≤ 9223372036854775807
instance (x : Int) : Decidable (InR x) := by unfold InR; infer_instance
def FarP (x : Int) : Prop := -288230376151711744 ≤ x ∧ x ≤ 288230376151711744
instance (x : Int) : Decidable (FarP x) := by unfold FarP; infer_instance
def full (m : Int) (pos : Int) : List Int := List.replicate m.toNat pos
def MadeP (l : Lm) (window homeAt fast creep : Int) : Prop := gn.RightL l ∧ 1 ≤ window ∧ window ≤ 16 ∧ l.lo ≤ homeAt ∧ homeAt ≤ l.hi ∧ hm.RightH ⟨0, fast, creep, false⟩
instance (l : Lm) (window homeAt fast creep : Int) : Decidable (MadeP l window homeAt fast creep) := by unfold MadeP; infer_instance
def newA (l : Lm) (window homeAt fast creep : Int) : Ax := ⟨0, l, window, homeAt, fast, creep, 0, 0, full window 0, 0, [], [], false, hm.zeroH, 100, 0, 0, 0, false⟩
def bounds (a : Ax) : Lm := if a.homed then a.l else ⟨a.l.V, a.l.A, a.l.D, -1099511627776, 1099511627776⟩
def MoveP (a : Ax) (c : C) : Prop := c.kind = 1 ∧ 1 ≤ c.spd ∧ c.spd ≤ a.l.V ∧ (bounds a).lo ≤ c.tgt ∧ c.tgt ≤ (bounds a).hi
instance (a : Ax) (c : C) : Decidable (MoveP a c) := by unfold MoveP; infer_instance
def LinedP (a : Ax) : Prop := match a.N with
 | [] => a.W = [] ∧ (a.st < 2 ∨ a.st = 3 ∨ a.st = 7)
 | c :: _ => (a.st = 2 ∧ a.W = [] ∧ c.kind = 7) ∨ (a.st = 3 ∧ a.W = [] ∧ c.kind = 6) ∨ (a.st = 5 ∧ a.W = [] ∧ c.kind = 4 ∧ c.spd ≠ 0 ∧ c.spd ≤ a.l.V ∧ -a.l.V ≤ c.spd) ∨ (a.st = 6 ∧ a.W = [] ∧ c.kind = 8 ∧ 0 < c.den) ∨
  (a.st = 4 ∧ ((c.kind = 5 ∧ a.W = []) ∨ (MoveP a c ∧ ∀ x ∈ a.W, MoveP a x ∧ 1 ≤ x.mode)))
def Near : List Int → Prop
 | [] => True
 | [_] => True
 | x :: y :: L => x - y ≤ 1048576 ∧ y - x ≤ 1048576 ∧ Near (y :: L)
structure RightA (a : Ax) : Prop where
 made : MadeP a.l a.win a.homeAt a.fast a.creep
 st0 : 0 ≤ a.st
 st7 : a.st ≤ 7
 len : (a.sm.length : Int) = a.win
 ov0 : 0 ≤ a.ov
 ov1 : a.ov ≤ 100
 far : FarP a.off
 safe : gn.SafeP (bounds a) a.p a.v
 line : ln.RightL a.N a.W
 lined : LinedP a
 search : a.st = 2 → hm.RightH a.h
 rows : ∀ x ∈ a.sm, -2199023255552 ≤ x ∧ x ≤ 2199023255552
 newest : ∀ x, a.sm.head? = some x → x = a.p
 near : Near a.sm
def StillP (a : Ax) : Prop := (∀ x ∈ a.sm, x = a.sm.headD 0) ∧ a.v = 0
instance (a : Ax) : Decidable (StillP a) := by unfold StillP; infer_instance
def goes (a : Ax) (e : Int) : Ax := { a with st := nxS a.st e }
def told (L : List C) (what : Int) : List Rp := L.map fun c => (c.id, what)
def toldI (L : List Int) (what : Int) : List Rp := L.map fun i => (i, what)
def failed (a : Ax) (c : Int) : Ax := goes { a with N := [], W := [], cause := c } 11
def failedR (a : Ax) : List Rp := told a.N 4 ++ told a.W 3
def causeOf (a : Ax) (i : In) : Int :=
 if a.st = 0 then (if i.cause = 6 then i.cause else 0)
 else if i.cause ≠ 0 ∨ a.st = 7 then i.cause
 else if i.power = true ∧ i.op = false then 2
 else if a.st ≠ 2 ∧ (i.plus = true ∧ 0 < a.v ∨ i.minus = true ∧ a.v < 0) then 4 else 0
def stood (a : Ax) (pos : Int) : Ax := { a with p := pos, v := 0, sm := full a.win pos }
def SwInP (a : Ax) (actual : Int) : Prop := (bounds a).lo ≤ actual - a.off ∧ actual - a.off ≤ (bounds a).hi
instance (a : Ax) (actual : Int) : Decidable (SwInP a actual) := by unfold SwInP; infer_instance
def swPos (a : Ax) (actual : Int) : Int := if SwInP a actual then actual - a.off else b.clamp (actual - a.off) (-1099511627776) 1099511627776
def swOff (a : Ax) (actual : Int) : Int := if SwInP a actual then a.off else actual - swPos a actual
def SwP (a : Ax) (actual : Int) : Prop := InR (actual - a.off) ∧ InR (swOff a actual) ∧ FarP (swOff a actual)
instance (a : Ax) (actual : Int) : Decidable (SwP a actual) := by unfold SwP; infer_instance
def switched (a : Ax) (actual : Int) : Ax :=
 if SwP a actual then goes (stood { a with homed := if SwInP a actual then a.homed else false, off := swOff a actual } (swPos a actual)) 1 else a
def firstA (a : Ax) (i : In) : Ax :=
 if causeOf a i ≠ 0 ∧ a.st ≠ 7 then failed a (causeOf a i)
 else if a.st = 7 then (if causeOf a i = 0 ∧ i.reset = true ∧ i.op = true ∧ StillP a then goes { a with cause := 0 } 12 else a)
 else if a.st ≠ 0 ∧ i.power = false then goes (stood { a with N := [], W := [] } a.p) 2
 else if a.st = 0 ∧ i.power = true ∧ i.op = true then switched a i.actual else a
def firstR (a : Ax) (i : In) : List Rp :=
 if causeOf a i ≠ 0 ∧ a.st ≠ 7 then failedR a
 else if a.st = 7 then []
 else if a.st ≠ 0 ∧ i.power = false then told (a.N ++ a.W) 3 else []
def firstF (a : Ax) (i : In) : Bool :=
 if causeOf a i ≠ 0 ∧ a.st ≠ 7 then false
 else if a.st = 7 then decide (causeOf a i = 0 ∧ i.reset = true ∧ i.op = true ∧ StillP a)
 else if a.st ≠ 0 ∧ i.power = false then false
 else decide (a.st = 0 ∧ i.power = true ∧ i.op = true ∧ SwP a i.actual)
def takesP (s : Int) : Prop := s = 1 ∨ (4 ≤ s ∧ s ≤ 6)
instance (s : Int) : Decidable (takesP s) := by unfold takesP; infer_instance
def placed (c : C) : Prop := 1 ≤ c.kind ∧ c.kind ≤ 3
instance (c : C) : Decidable (placed c) := by unfold placed; infer_instance
def fromOf (a : Ax) (c : C) : Int := match a.N with
 | [] => a.p
 | n :: _ => if 0 < c.mode then (match (a.N ++ a.W).getLast? with | some x => x.tgt | none => 0) else if c.kind = 3 ∧ placed n then n.tgt else a.p
def placeOf (a : Ax) (c : C) : Int := if c.kind = 1 then c.tgt else fromOf a c + c.tgt
def ModeP (a : Ax) (c : C) : Prop := ln.OkC c ∧ (0 < c.mode → placed c ∧ ∀ n, a.N.head? = some n → placed n)
instance (a : Ax) (c : C) : Decidable (ModeP a c) := by unfold ModeP; cases h : a.N <;> simp <;> infer_instance
def KeptP (a : Ax) (c : C) : Prop := ModeP a c ∧
 ((placed c ∧ takesP a.st ∧ (c.kind = 1 ∨ InR (placeOf a c)) ∧ 1 ≤ c.spd ∧ c.spd ≤ a.l.V ∧ (c.kind = 1 → a.homed = true) ∧ (bounds a).lo ≤ placeOf a c ∧ placeOf a c ≤ (bounds a).hi) ∨
  (c.kind = 4 ∧ takesP a.st ∧ c.spd ≠ 0 ∧ c.spd ≤ a.l.V ∧ -a.l.V ≤ c.spd) ∨ (c.kind = 5 ∧ takesP a.st) ∨ (c.kind = 6 ∧ (takesP a.st ∨ a.st = 2)) ∨ (c.kind = 7 ∧ a.st = 1) ∨ (c.kind = 8 ∧ takesP a.st ∧ 0 < c.den))
instance (a : Ax) (c : C) : Decidable (KeptP a c) := by unfold KeptP; infer_instance
def keptC (a : Ax) (c : C) : C := if placed c then { c with kind := 1, tgt := placeOf a c } else c
def evOf (k : Int) : Int := if k = 1 ∨ k = 5 then 5 else if k = 4 then 6 else if k = 6 then 8 else if k = 7 then 3 else if k = 8 then 7 else 0
def begun (a : Ax) (c : C) (m : Int) : Ax :=
 { a with st := nxS a.st (evOf c.kind), h := if c.kind = 7 then ⟨0, a.fast, a.creep, false⟩ else a.h, homed := if c.kind = 7 then false else a.homed, start := if c.kind = 8 then a.p else a.start, master := if c.kind = 8 then m else a.master, instep := if c.kind = 8 then true else a.instep }
def TakenP (a : Ax) (c : C) (fresh : Bool) : Prop := KeptP a c ∧ fresh = false ∧ ln.addE a.N a.W (keptC a c) = 0
instance (a : Ax) (c : C) (fresh : Bool) : Decidable (TakenP a c fresh) := by unfold TakenP; infer_instance
def lineOf (a : Ax) (c : C) : Ax := { a with N := ln.addN a.N a.W (keptC a c), W := ln.addW a.N a.W (keptC a c) }
def givenA (a : Ax) (c : C) (m : Int) (fresh : Bool) : Ax :=
 if TakenP a c fresh then (if ln.addW a.N a.W (keptC a c) = [] then begun (lineOf a c) (keptC a c) m else lineOf a c) else a
def givenR (a : Ax) (c : C) (fresh : Bool) : List Rp :=
 if TakenP a c fresh then toldI (ln.addI a.N a.W (keptC a c)) 3 ++ (if ln.addW a.N a.W (keptC a c) = [] then [(c.id, 1)] else []) else [(c.id, 5)]
def allA (m : Int) (fresh : Bool) : List C → Ax → Ax
 | [], a => a
 | c :: L, a => allA m fresh L (givenA a c m fresh)
def allR (m : Int) (fresh : Bool) : List C → Ax → List Rp
 | [], _ => []
 | c :: L, a => givenR a c fresh ++ allR m fresh L (givenA a c m fresh)
def ByP (a : Ax) : Prop := a.st = 4 ∧ match a.N, a.W with
 | c :: _, n :: _ => c.kind = 1 ∧ 2 ≤ n.mode ∧ (a.p < c.tgt ∧ c.tgt < n.tgt ∨ c.tgt < a.p ∧ n.tgt < c.tgt)
 | _, _ => False
instance (a : Ax) : Decidable (ByP a) := by unfold ByP; cases a.N <;> cases a.W <;> infer_instance
def spdOf (a : Ax) (c : C) : Int := (c.spd * a.ov).tdiv 100
def uOf (c n : C) : Int := if n.mode = 2 then min c.spd n.spd else if n.mode = 3 then c.spd else if n.mode = 4 then n.spd else max c.spd n.spd
noncomputable def wantsV (a : Ax) (i : In) : Int :=
 if a.st = 2 then (if a.h.ph < 4 then hm.stepV a.h i.home i.plus i.minus (decide (a.v = 0)) else 0)
 else match a.N with
  | [] => 0
  | c :: _ => if a.st = 5 then spdOf a c
   else if a.st = 6 then gx.wantV a.p a.start a.master i.master c.num c.den
   else if a.st = 4 ∧ c.kind = 1 then (if ByP a then (match a.W with | n :: _ => gn.byV (bounds a) a.p a.v c.tgt (min (uOf c n) (spdOf a c)) n.tgt (spdOf a c) | [] => 0) else gn.toV (bounds a) a.p a.v c.tgt (spdOf a c))
   else 0
noncomputable def wantsA (a : Ax) (i : In) : Ax :=
 if a.st = 2 then { a with h := if a.h.ph < 4 then hm.stepN a.h i.home i.plus i.minus (decide (a.v = 0)) else a.h }
 else match a.N with
  | [] => a
  | c :: _ => if a.st = 6 then { a with instep := gx.wantB (bounds a) a.p a.v a.start a.master i.master c.num c.den } else a
noncomputable def movedA (a : Ax) (i : In) : Ax := if a.st = 0 then a else { wantsA a i with p := a.p + gn.stepV (bounds a) a.p a.v (wantsV a i), v := gn.stepV (bounds a) a.p a.v (wantsV a i) }
def passedP (a : Ax) (q : Int) : Prop := ByP a ∧ match a.N with
 | c :: _ => a.p < c.tgt ∧ c.tgt ≤ q ∨ c.tgt < a.p ∧ q ≤ c.tgt
 | [] => False
instance (a : Ax) (q : Int) : Decidable (passedP a q) := by unfold passedP; cases a.N <;> infer_instance
def pushed (a : Ax) : Ax := { a with sm := a.p :: a.sm.dropLast }
def leaves (a : Ax) : Ax := { a with N := a.W.take 1, W := a.W.drop 1 }
def endedA (a : Ax) (e m : Int) : Ax := match a.W with
 | [] => goes (leaves a) e
 | n :: _ => begun (leaves a) n m
def idOf (a : Ax) : Int := match a.N with | c :: _ => c.id | [] => 0
def endedR (a : Ax) : List Rp := (idOf a, 2) :: (match a.W with | [] => [] | n :: _ => [(n.id, 1)])
def homeOff (a : Ax) : Int := a.off - (a.homeAt - a.p)
def found (a : Ax) : Ax := { stood a a.homeAt with off := homeOff a, homed := true }
def MoveEnds (a : Ax) (passed : Bool) : Prop := a.st = 4 ∧ a.N ≠ [] ∧ (passed = true ∨ StillP a ∧ match a.N with | c :: _ => c.kind ≠ 1 ∨ c.tgt = a.p | [] => False)
instance (a : Ax) (passed : Bool) : Decidable (MoveEnds a passed) := by unfold MoveEnds; cases a.N <;> infer_instance
def lastA (a : Ax) (passed : Bool) (i : In) : Ax :=
 if MoveEnds a passed then endedA a 10 i.master
 else if a.st = 3 ∧ StillP a then (if a.N ≠ [] then leaves a else if i.release = true then goes a 9 else a)
 else if a.st = 2 ∧ a.h.ph = 4 ∧ StillP a then (if FarP (homeOff a) then (if a.N ≠ [] then endedA (found a) 4 i.master else goes (found a) 4) else failed a 5)
 else if a.st = 2 ∧ a.h.ph = 5 then failed a 5 else a
def lastR (a : Ax) (passed : Bool) (i : In) : List Rp :=
 if MoveEnds a passed then endedR a
 else if a.st = 3 ∧ StillP a then (if a.N ≠ [] then [(idOf a, 2)] else [])
 else if a.st = 2 ∧ a.h.ph = 4 ∧ StillP a then (if FarP (homeOff a) then (if a.N ≠ [] then endedR (found a) else [(0, 2)]) else failedR a)
 else if a.st = 2 ∧ a.h.ph = 5 then failedR a else []
def overA (a : Ax) (i : In) : Ax := { a with ov := b.clamp i.ov 0 100 }
def preA (a : Ax) (i : In) : Ax := allA i.master (firstF (overA a i) i) i.cmds (firstA (overA a i) i)
def preR (a : Ax) (i : In) : List Rp := firstR (overA a i) i ++ allR i.master (firstF (overA a i) i) i.cmds (firstA (overA a i) i)
noncomputable def byB (a : Ax) (i : In) : Bool := decide (a.st ≠ 0 ∧ passedP a (movedA a i).p)
noncomputable def stepA (a : Ax) (i : In) : Ax := lastA (pushed (movedA (preA a i) i)) (byB (preA a i) i) i
noncomputable def stepR (a : Ax) (i : In) : List Rp := preR a i ++ lastR (pushed (movedA (preA a i) i)) (byB (preA a i) i) i
def sumOf (L : List Int) : Int := L.foldr (· + ·) 0
def outA (a : Ax) : Int := sumOf a.sm + a.win * a.off
end Go.Proofs.YtijlccblabadaaaGreat.ax
end
