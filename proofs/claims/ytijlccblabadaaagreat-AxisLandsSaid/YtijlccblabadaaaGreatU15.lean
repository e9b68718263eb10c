/- A move that is taken by an axis that stands still: cycle by cycle. No condition beyond what each line says. -/
import Derived.Test.YtijlccblabadaaaGreatU02
import Derived.Test.YtijlccblabadaaaGreatX01
section
namespace Go.Proofs.YtijlccblabadaaaGreat.ax
set_option maxRecDepth 100000
open Go.ChangeShapes Go.WideShapes Go.ChangeAt Go.RowKit Go.Proofs.YtijlccblabadaaaGreat.k Go.Proofs.YtijlccblabadaaaGreat.rr
open Go.Proofs.YtijlccblabadaaaGreat.ln (C)
set_option linter.unusedVariables false
def goI : In := ⟨true, true, 0, 0, false, false, false, false, false, 100, 0, []⟩
def firI (id x v : Int) : In := ⟨true, true, 0, 0, false, false, false, false, false, 100, 0, [relC id x v]⟩
theorem goI_go : GoI goI := ⟨rfl, rfl, rfl, rfl, rfl, rfl⟩
theorem firI_go (id x v : Int) : GoI (firI id x v) := ⟨rfl, rfl, rfl, rfl, rfl, rfl⟩
theorem goI_wide : WideI goI := by
 have z : InR 0 := ⟨by omega, by omega⟩
 exact ⟨z, z, ⟨by show (-9223372036854775808 : Int) ≤ 100; omega, by show (100 : Int) ≤ 9223372036854775807; omega⟩, z, fun x hx => by cases hx⟩
theorem firI_wide {id x v : Int} (h1 : InR id) (h2 : InR x) (h3 : InR v) : WideI (firI id x v) := by
 have z : InR 0 := ⟨by omega, by omega⟩
 have t : InR 2 := ⟨by omega, by omega⟩
 exact ⟨z, z, ⟨by show (-9223372036854775808 : Int) ≤ 100; omega, by show (100 : Int) ≤ 9223372036854775807; omega⟩, z, fun y hy => by rw [List.mem_singleton.1 hy]; exact ⟨h1, t, h2, h3, z, z, z⟩⟩
def Fl (id tg : Int) (j : Nat) (n : Ax) : Prop := ∃ c : C, c.id = id ∧ c.tgt = tg ∧ Fly n c ∧ ∃ m : Int, Left n c m ∧ 1 ≤ m ∧ m + j ≤ 2018
def Ld (tg : Int) (n : Ax) : Prop := n.st = 1 ∧ n.p = tg ∧ n.v = 0 ∧ outA n = n.win * (tg + n.off)
structure Lst (id tg : Int) (j : Nat) (n : Ax) (R : List Rp) : Prop where
 good : GoodA n
 le : j ≤ 2018
 st : (Fl id tg j n ∧ (id, (2 : Int)) ∉ R) ∨ (Ld tg n ∧ (id, (2 : Int)) ∈ R)
theorem Lst.next {id tg : Int} {j : Nat} {n : Ax} {R : List Rp} (h : Lst id tg j n R) (hn : (id, (2 : Int)) ∉ R) : Lst id tg (j + 1) (stepA n goI) (stepR n goI) := by
 have hg := h.good.step goI_wide
 rcases h.st with ⟨⟨c, e1, e2, hf, m, hl, h1, h2⟩, _⟩ | ⟨_, hm⟩
 ·rcases fly_step hf goI_go rfl hl h1 with ⟨n', q1, q2, q3, q4, q5⟩ | ⟨q1, n', q2, q3, q4, q5, q6⟩
  ·refine ⟨hg, by omega, .inl ⟨⟨c, e1, e2, q1 ▸ q3, m - 1, q1 ▸ q4, q5, by omega⟩, ?_⟩⟩
   rw [q2]; simp
  ·refine ⟨hg, by omega, .inr ⟨?_, ?_⟩⟩
   ·rw [q2]; exact ⟨q3, by rw [q4, e2], q5, by rw [q6, e2]⟩
   ·rw [q1, e1]; simp
 ·exact absurd hm hn
theorem lst_first {a : Ax} (g : GoodA a) (h1 : a.st = 1) (hv : a.v = 0) {id x v : Int} (i1 : InR id) (i3 : InR v) (hw : -1000 ≤ x ∧ x ≤ 1000) :
  ((∃ R, stepR a (firI id x v) = (id, 5) :: R) ∧ (v < 1 ∨ a.l.V < v ∨ a.p + x < (bounds a).lo ∨ (bounds a).hi < a.p + x)) ∨
  ((∃ R, stepR a (firI id x v) = (id, 1) :: R) ∧ Lst id (a.p + x) 0 (stepA a (firI id x v)) (stepR a (firI id x v))) := by
 have hg := g.step (firI_wide i1 (x := x) ⟨by omega, by omega⟩ i3)
 rcases first_step g.right h1 hv hw (firI_go id x v) rfl with h | ⟨c, e1, e2, ⟨n, q1, q2, q3, q4, q5⟩ | ⟨q1, n, q2, q3, q4, q5, q6⟩⟩
 ·exact .inl h
 ·refine .inr ⟨⟨[], q2⟩, hg, by omega, .inl ⟨⟨c, e1, e2, q1 ▸ q3, 2018, q1 ▸ q4, by omega, by omega⟩, ?_⟩⟩
  rw [q2]; simp
 ·refine .inr ⟨⟨[(id, 2)], q1⟩, hg, by omega, .inr ⟨?_, ?_⟩⟩
  ·rw [q2]; exact ⟨q3, by rw [q4, e2], q5, by rw [q6, e2]⟩
  ·rw [q1]; simp
theorem out_room {a : Ax} (h : RightA a) : -9000000000000000000 ≤ outA a ∧ outA a ≤ 9000000000000000000 := by
 have key : ∀ L : List Int, (∀ x ∈ L, -2199023255552 ≤ x ∧ x ≤ 2199023255552) → -(2199023255552 * (L.length : Int)) ≤ sumOf L ∧ sumOf L ≤ 2199023255552 * (L.length : Int) := fun L => by
  induction L with
  | nil => intro _; exact ⟨by decide, by decide⟩
  | cons x L ih =>
   intro hx
   have h1 := ih fun y hy => hx y (List.mem_cons_of_mem _ hy)
   have h2 := hx x (List.mem_cons_self ..)
   show -(2199023255552 * ((L.length + 1 : Nat) : Int)) ≤ x + sumOf L ∧ x + sumOf L ≤ 2199023255552 * ((L.length + 1 : Nat) : Int)
   omega
 have hk := key a.sm h.rows
 have hl := h.len
 have hw1 := h.win1
 have hw2 := h.made.2.2.1
 obtain ⟨f1, f2⟩ := h.far
 have m1 : a.win * a.off ≤ 16 * 288230376151711744 := by
  have e1 : a.win * a.off ≤ a.win * 288230376151711744 := Int.mul_le_mul_of_nonneg_left f2 (by omega)
  omega
 have m2 : -(16 * 288230376151711744) ≤ a.win * a.off := by
  have e1 : a.win * (-288230376151711744) ≤ a.win * a.off := Int.mul_le_mul_of_nonneg_left f1 (by omega)
  omega
 unfold outA
 omega
theorem rd_cell {α : Type} {enc : α → List Value} {z : Nat} {w : World} {B g : Nat} {s : Sl} {L : List α} (h : Rd enc z w B s.A s.n s.c L) (ho : Off g s) (i : Nat) (x : Value) : Rd enc z (w.setCell ⟨g, i, none⟩ x) B s.A s.n s.c L :=
 ⟨h.1, h.2.1, h.2.2.1, h.2.2.2.1, fun hn => by
  obtain ⟨b, off, e, hB, hc⟩ := h.2.2.2.2 hn
  exact ⟨b, off, e, hB, fun j y hy => (World.rangeAt_setCells_apart (hc j y hy) g i [x] (.inl (ho hn _ _ _ e)) : (w.setCells g i [x]).rangeAt b (off + j * z) (enc y))⟩⟩
theorem RdA.cell {w : World} {B g : Nat} {a : Ax} {S N W : Sl} (h : RdA w B a S N W) (ho : OffA g S N W) (i : Nat) (x : Value) : RdA (w.setCell ⟨g, i, none⟩ x) B a S N W := ⟨rd_cell h.S ho.S i x, rd_cell h.N ho.N i x, rd_cell h.W ho.W i x⟩
end Go.Proofs.YtijlccblabadaaaGreat.ax
end
