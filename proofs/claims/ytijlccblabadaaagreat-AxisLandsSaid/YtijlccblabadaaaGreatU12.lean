/- A slice of structs of integers as it lies in memory. No condition but what is read. A slice of structs of integers, truths and slices of structs of integers as it lies in memory. No condition but what is read. A slice of integers of 64 bits as it lies in memory. No condition but what each line says. An axis, and what comes cycle by cycle, as the laws' arguments lie in memory. No condition but what is read. -/
import Derived.Test.YtijlccblabadaaaGreatU01
import Derived.Deep.Slices
import Derived.Test.YtijlccblabadaaaGreatU02
section
namespace Go.Proofs.YtijlccblabadaaaGreat
set_option maxRecDepth 100000
open Go.ChangeShapes Go.WideShapes Go.ChangeAt Go.RowKit
set_option linter.unusedVariables false
def IsRecs (w : World) (f : Nat) (a : Option Addr) (len cap : Nat) : Prop :=
 (a = none ∧ len = 0 ∧ cap = 0) ∨ ∃ x, a = some x ∧ len ≤ cap ∧ cap ≤ maxLen ∧ ∀ i, i < len → ∃ xs : List Int, xs.length = f ∧ (∀ n ∈ xs, (Lit.int .i64 n).wf = true) ∧ ∀ (j : Nat) (v : Int), xs[j]? = some v → w.cell? (x.add (i * f + j)) = some (.int .i64 v)
theorem recs_of {P : Program} {H : Type} {enc : TypeId × Value → H} {w : World} {base : Nat} {held : Bool} {fuel : Nat} {t e f : Nat} {cs : List Value} {y : DataW H × List MemPlace} (ht : P.underlying t = some (.slice e)) (hc : P.cellsOf e = f)
  (hr : ∀ {fuel : Nat} {cs : List Value} {y : DataW H × List MemPlace}, DataW.trod enc P w base (fun _ => true) held fuel e cs = some y → ∃ xs : List Int, xs.length = f ∧ (∀ n ∈ xs, (Lit.int .i64 n).wf = true) ∧ cs = xs.map fun n => Value.int .i64 n)
  (h : DataW.trod enc P w base (fun _ => true) held fuel t cs = some y) : ∃ a l c, cs = [.slice a l c] ∧ IsRecs w f a l c := by
 rcases Go.Deep.open_slice ht h with ⟨hcs, _⟩ | ⟨a, len, cap, m, n, D, Pl, hcs, _, hl, hm, hmm, _, hi⟩
 ·exact ⟨none, 0, 0, hcs, .inl ⟨rfl, rfl, rfl⟩⟩
 ·refine ⟨some a, len, cap, hcs, .inr ⟨a, rfl, hl, hm, fun i hil => ?_⟩⟩
  obtain ⟨cs', hcells, htrod⟩ := hi i (by rw [hmm]; simp; omega)
  obtain ⟨xs, hx, hw, rfl⟩ := hr htrod
  obtain ⟨_, hlen, hat⟩ := World.cells?_some hcells
  refine ⟨xs, hx, hw, fun j v hv => ?_⟩
  have hj : j < f := by rw [← hx]; exact (List.getElem?_eq_some_iff.1 hv).1
  have h1 := hat j (by rw [hc]; exact hj)
  have e1 : (a.add (i * P.cellsOf e)).add j = a.add (i * f + j) := by
   rw [hc]
   obtain ⟨b, o, s⟩ := a
   unfold Addr.add
   by_cases h0 : i * f = 0 <;> by_cases h2 : j = 0 <;> simp [h0, h2, Nat.add_assoc]
   all_goals (try omega)
  rw [e1] at h1
  rw [h1, List.getElem?_map, hv]
  rfl
theorem IsRecs.at {w : World} {f : Nat} {a : Option Addr} {len cap : Nat} (h : IsRecs w f a len cap) (hf : 0 < f) (hp : 0 < len) :
  ∃ b off, a = some ⟨b, off, none⟩ ∧ b < w.heap.size ∧ len ≤ cap ∧ cap ≤ maxLen ∧ ∀ i, i < len → ∃ xs : List Int, xs.length = f ∧ (∀ n ∈ xs, (Lit.int .i64 n).wf = true) ∧ ∀ (j : Nat) (v : Int), xs[j]? = some v → w.cell? ⟨b, off + i * f + j, none⟩ = some (.int .i64 v) := by
 rcases h with ⟨_, h, _⟩ | ⟨x, rfl, hl, hm, hc⟩
 ·omega
 ·obtain ⟨b, off, spot⟩ := x
  obtain ⟨xs, hx, _, h0⟩ := hc 0 hp
  have h1 := h0 0 (xs[0]'(by omega)) (List.getElem?_eq_getElem (by omega))
  have hspot : spot = none := by simpa [Addr.add] using World.cell?_spot h1
  subst hspot
  have e : ∀ r, (Addr.add ⟨b, off, none⟩ r) = ⟨b, off + r, none⟩ := fun r => by unfold Addr.add; by_cases h : r = 0 <;> simp [h]
  have h2 := h1
  rw [e] at h2
  refine ⟨b, off, rfl, k.lt_of_cell h2, hl, hm, fun i hi => ?_⟩
  obtain ⟨ys, hy, hw, hcell⟩ := hc i hi
  refine ⟨ys, hy, hw, fun j v hv => ?_⟩
  have := hcell j v hv
  rw [e, ← Nat.add_assoc] at this
  exact this
end Go.Proofs.YtijlccblabadaaaGreat
end
section
namespace Go.Proofs.YtijlccblabadaaaGreat
set_option maxRecDepth 100000
open Go.ChangeShapes Go.WideShapes Go.ChangeAt Go.RowKit
set_option linter.unusedVariables false
inductive Kd
 | int (k : IntKind)
 | bool
 | recs (f : Nat)
def okI (w : World) : Kd → Value → Prop
 | .int k, v => ∃ n : Int, v = .int k n ∧ (Lit.int k n).wf = true
 | .bool, v => ∃ b : Bool, v = .bool b
 | .recs f, v => ∃ (a : Option Addr) (l c : Nat), v = .slice a l c ∧ IsRecs w f a l c
def okIs (w : World) : List Kd → List Value → Prop
 | [], [] => True
 | k :: ks, v :: vs => okI w k v ∧ okIs w ks vs
 | _, _ => False
theorem okIs_len {w : World} : ∀ {ks : List Kd} {vs : List Value}, okIs w ks vs → vs.length = ks.length
 | [], [], _ => rfl
 | k :: ks, v :: vs, h => by simp [okIs_len h.2]
 | [], v :: vs, h => by cases h
 | k :: ks, [], h => by cases h
def IsIns (w : World) (ks : List Kd) (a : Option Addr) (len cap : Nat) : Prop :=
 (a = none ∧ len = 0 ∧ cap = 0) ∨ ∃ x, a = some x ∧ len ≤ cap ∧ cap ≤ maxLen ∧ ∀ i, i < len → ∃ vs : List Value, okIs w ks vs ∧ ∀ (j : Nat) (v : Value), vs[j]? = some v → w.cell? (x.add (i * ks.length + j)) = some v
theorem ins_of {P : Program} {H : Type} {enc : TypeId × Value → H} {w : World} {base : Nat} {held : Bool} {fuel : Nat} {t e : Nat} {ks : List Kd} {cs : List Value} {y : DataW H × List MemPlace} (ht : P.underlying t = some (.slice e)) (hc : P.cellsOf e = ks.length)
  (hr : ∀ {fuel : Nat} {cs : List Value} {y : DataW H × List MemPlace}, DataW.trod enc P w base (fun _ => true) held fuel e cs = some y → okIs w ks cs)
  (h : DataW.trod enc P w base (fun _ => true) held fuel t cs = some y) : ∃ a l c, cs = [.slice a l c] ∧ IsIns w ks a l c := by
 rcases Go.Deep.open_slice ht h with ⟨hcs, _⟩ | ⟨a, len, cap, m, n, D, Pl, hcs, _, hl, hm, hmm, _, hi⟩
 ·exact ⟨none, 0, 0, hcs, .inl ⟨rfl, rfl, rfl⟩⟩
 ·refine ⟨some a, len, cap, hcs, .inr ⟨a, rfl, hl, hm, fun i hil => ?_⟩⟩
  obtain ⟨cs', hcells, htrod⟩ := hi i (by rw [hmm]; simp; omega)
  have hx := hr htrod
  obtain ⟨_, hlen, hat⟩ := World.cells?_some hcells
  refine ⟨cs', hx, fun j v hv => ?_⟩
  have hj : j < ks.length := by rw [← okIs_len hx]; exact (List.getElem?_eq_some_iff.1 hv).1
  have h1 := hat j (by rw [hc]; exact hj)
  have e1 : (a.add (i * P.cellsOf e)).add j = a.add (i * ks.length + j) := by
   rw [hc]
   obtain ⟨b, o, s⟩ := a
   unfold Addr.add
   by_cases h0 : i * ks.length = 0 <;> by_cases h2 : j = 0 <;> simp [h0, h2, Nat.add_assoc]
   all_goals (try omega)
  rw [e1] at h1
  rw [h1, hv]
theorem IsIns.at {w : World} {ks : List Kd} {a : Option Addr} {len cap : Nat} (h : IsIns w ks a len cap) (hf : 0 < ks.length) (hp : 0 < len) :
  ∃ b off, a = some ⟨b, off, none⟩ ∧ b < w.heap.size ∧ len ≤ cap ∧ cap ≤ maxLen ∧ ∀ i, i < len → ∃ vs : List Value, okIs w ks vs ∧ ∀ (j : Nat) (v : Value), vs[j]? = some v → w.cell? ⟨b, off + i * ks.length + j, none⟩ = some v := by
 rcases h with ⟨_, h, _⟩ | ⟨x, rfl, hl, hm, hc⟩
 ·omega
 ·obtain ⟨b, off, spot⟩ := x
  obtain ⟨xs, hx, h0⟩ := hc 0 hp
  have hxl := okIs_len hx
  have h1 := h0 0 (xs[0]'(by omega)) (List.getElem?_eq_getElem (by omega))
  have hspot : spot = none := by simpa [Addr.add] using World.cell?_spot h1
  subst hspot
  have e : ∀ r, (Addr.add ⟨b, off, none⟩ r) = ⟨b, off + r, none⟩ := fun r => by unfold Addr.add; by_cases h : r = 0 <;> simp [h]
  have h2 := h1
  rw [e] at h2
  refine ⟨b, off, rfl, k.lt_of_cell h2, hl, hm, fun i hi => ?_⟩
  obtain ⟨ys, hy, hcell⟩ := hc i hi
  refine ⟨ys, hy, fun j v hv => ?_⟩
  have := hcell j v hv
  rw [e, ← Nat.add_assoc] at this
  exact this
theorem IsIns.len_le {w : World} {ks : List Kd} {a : Option Addr} {len cap : Nat} (h : IsIns w ks a len cap) : (len : Int) ≤ 9223372036854775807 := by
 rcases h with ⟨_, h, _⟩ | ⟨x, _, h, h2, _⟩
 ·omega
 ·unfold maxLen at h2; omega
end Go.Proofs.YtijlccblabadaaaGreat
end
section
namespace Go.Proofs.YtijlccblabadaaaGreat
set_option maxRecDepth 100000
open Go.ChangeShapes Go.WideShapes Go.ChangeAt Go.RowKit
def IsRow (k : IntKind) (w : World) (a : Option Addr) (len cap : Nat) (zs : List Int) : Prop :=
 (a = none ∧ len = 0 ∧ cap = 0 ∧ zs = []) ∨
 ∃ x, a = some x ∧ len ≤ cap ∧ cap ≤ maxLen ∧ zs.length = cap ∧ (∀ i, i < zs.length → w.cell? (x.add i) = some (.int k (zs.getD i 0))) ∧ ∀ n ∈ zs, (Lit.int k n).wf = true
theorem IsRow.len {w : World} {a : Option Addr} {len cap : Nat} {zs : List Int} (h : IsRow .i64 w a len cap zs) : (len : Int) ≤ 9223372036854775807 := by
 rcases h with ⟨_, h, _⟩ | ⟨x, _, h, h2, _⟩
 ·omega
 ·unfold maxLen at h2; omega
theorem IsRow.at {w : World} {a : Option Addr} {len cap : Nat} {zs : List Int} (h : IsRow .i64 w a len cap zs) (hp : 0 < len) :
  ∃ b off, a = some ⟨b, off, none⟩ ∧ b < w.heap.size ∧ len ≤ cap ∧ cap ≤ maxLen ∧ ∀ r, r < len → ∃ x : Int, (-9223372036854775808 ≤ x ∧ x ≤ 9223372036854775807) ∧ w.cell? ⟨b, off + r, none⟩ = some (.int .i64 x) := by
 rcases h with ⟨_, h, _⟩ | ⟨x, rfl, hl, hm, hz, hc, hw⟩
 ·omega
 ·obtain ⟨b, off, spot⟩ := x
  have h0 := hc 0 (by omega)
  have hspot : spot = none := by simpa [Addr.add] using World.cell?_spot h0
  subst hspot
  have e : ∀ r, (Addr.add ⟨b, off, none⟩ r) = ⟨b, off + r, none⟩ := fun r => by unfold Addr.add; by_cases h : r = 0 <;> simp [h]
  rw [e] at h0
  refine ⟨b, off, rfl, k.lt_of_cell h0, hl, hm, fun r hr => ⟨zs.getD r 0, ?_, ?_⟩⟩
  ·refine k.wf64 (hw _ ?_)
   have hr2 : r < zs.length := by omega
   rw [List.getD_eq_getElem?_getD, List.getElem?_eq_getElem hr2]
   exact List.getElem_mem hr2
  ·have := hc r (by omega)
   rwa [e] at this
end Go.Proofs.YtijlccblabadaaaGreat
end
section
namespace Go.Proofs.YtijlccblabadaaaGreat.ax
set_option maxRecDepth 100000
open Go.ChangeShapes Go.WideShapes Go.ChangeAt Go.RowKit Go.Proofs.YtijlccblabadaaaGreat.k Go.Proofs.YtijlccblabadaaaGreat.rr Go.Proofs.YtijlccblabadaaaGreat
open Go.Proofs.YtijlccblabadaaaGreat.ln (C RdC RdI cC cC_len iC iC_len)
set_option linter.unusedVariables false
theorem seven_wide (xs : List Int) (h : xs.length = 7) (hw : ∀ n ∈ xs, (Lit.int .i64 n).wf = true) : ∃ c : C, WideC c ∧ ∀ (w : World) (b o : Nat), (∀ (j : Nat) (v : Int), xs[j]? = some v → w.cell? ⟨b, o + j, none⟩ = some (.int .i64 v)) → w.rangeAt b o (cC c) := by
 match xs, h, hw with
 | [x0, x1, x2, x3, x4, x5, x6], _, hw =>
  refine ⟨⟨x0, x1, x2, x3, x4, x5, x6⟩, ⟨wf64 (hw _ (by simp)), wf64 (hw _ (by simp)), wf64 (hw _ (by simp)), wf64 (hw _ (by simp)), wf64 (hw _ (by simp)), wf64 (hw _ (by simp)), wf64 (hw _ (by simp))⟩, fun w b o hc j v hv => ?_⟩
  have hj : j < 7 := by have := (List.getElem?_eq_some_iff.1 hv).1; rwa [cC_len] at this
  rcases (show j = 0 ∨ j = 1 ∨ j = 2 ∨ j = 3 ∨ j = 4 ∨ j = 5 ∨ j = 6 by omega) with rfl | rfl | rfl | rfl | rfl | rfl | rfl
  all_goals
   simp only [cC, List.getElem?_cons_zero, List.getElem?_cons_succ, Option.some.injEq] at hv
   subst hv
   exact hc _ _ rfl
theorem wideC_zero : WideC ⟨0, 0, 0, 0, 0, 0, 0⟩ := by constructor <;> exact ⟨by decide, by decide⟩
theorem rows_wide {w : World} {a : Option Addr} {len cap : Nat} (h : IsRecs w 7 a len cap) : ∃ L, RdC w w.heap.size a len cap L ∧ ∀ x ∈ L, WideC x := by
 by_cases hp : 0 < len
 ·obtain ⟨b, off, rfl, hb, hl, hm, hc⟩ := h.at (by omega) hp
  have h1 : ∀ i, ∃ c : C, WideC c ∧ (i < len → w.rangeAt b (off + i * 7) (cC c)) := fun i => by
   by_cases hi : i < len
   ·obtain ⟨xs, hx, hw, hcell⟩ := hc i hi
    obtain ⟨c, hwc, hcc⟩ := seven_wide xs hx hw
    exact ⟨c, hwc, fun _ => hcc w b (off + i * 7) hcell⟩
   ·exact ⟨⟨0, 0, 0, 0, 0, 0, 0⟩, wideC_zero, fun h => absurd h hi⟩
  obtain ⟨f, hf⟩ := Classical.axiomOfChoice h1
  refine ⟨(List.range len).map f, ⟨by simp, hl, hm, (fun h => by cases h), fun _ => ⟨b, off, rfl, hb, fun i x hx => ?_⟩⟩, fun x hx => ?_⟩
  ·have hi : i < len := by have := (List.getElem?_eq_some_iff.1 hx).1; simpa using this
   have e : f i = x := by simpa [hi] using hx
   rw [← e]
   exact (hf i).2 hi
  ·obtain ⟨i, _, rfl⟩ := List.mem_map.1 hx
   exact (hf i).1
 ·have h0 : len = 0 := by omega
  subst h0
  rcases h with ⟨rfl, _, rfl⟩ | ⟨x, rfl, hl, hm, _⟩
  ·exact ⟨[], Rd.none_ _ _ _ _, fun x hx => by cases hx⟩
  ·exact ⟨[], ⟨rfl, hl, hm, (fun h => by cases h), fun h => absurd h (by omega)⟩, fun x hx => by cases hx⟩
theorem ints_row {w : World} {a : Option Addr} {len cap : Nat} {zs : List Int} (h : IsRow .i64 w a len cap zs) : ∃ L, RdI w w.heap.size a len cap L ∧ ∀ x ∈ L, InR x := by
 by_cases hp : 0 < len
 ·obtain ⟨b, off, rfl, hb, hl, hm, hc⟩ := h.at hp
  have h1 : ∀ i, ∃ c : Int, InR c ∧ (i < len → w.rangeAt b (off + i * 1) (iC c)) := fun i => by
   by_cases hi : i < len
   ·obtain ⟨x, hx, hcell⟩ := hc i hi
    refine ⟨x, hx, fun _ j v hv => ?_⟩
    have hj : j < 1 := by have := (List.getElem?_eq_some_iff.1 hv).1; rwa [iC_len] at this
    obtain rfl : j = 0 := by omega
    simp only [iC, List.getElem?_cons_zero, Option.some.injEq] at hv
    subst hv
    rw [Nat.mul_one]
    exact hcell
   ·exact ⟨0, ⟨by decide, by decide⟩, fun h => absurd h hi⟩
  obtain ⟨f, hf⟩ := Classical.axiomOfChoice h1
  refine ⟨(List.range len).map f, ⟨by simp, hl, hm, (fun h => by cases h), fun _ => ⟨b, off, rfl, hb, fun i x hx => ?_⟩⟩, fun x hx => ?_⟩
  ·have hi : i < len := by have := (List.getElem?_eq_some_iff.1 hx).1; simpa using this
   have e : f i = x := by simpa [hi] using hx
   rw [← e]
   exact (hf i).2 hi
  ·obtain ⟨i, _, rfl⟩ := List.mem_map.1 hx
   exact (hf i).1
 ·have h0 : len = 0 := by omega
  subst h0
  rcases h with ⟨rfl, _, rfl, _⟩ | ⟨x, rfl, hl, hm, _⟩
  ·exact ⟨[], Rd.none_ _ _ _ _, fun x hx => by cases hx⟩
  ·exact ⟨[], ⟨rfl, hl, hm, (fun h => by cases h), fun h => absurd h (by omega)⟩, fun x hx => by cases hx⟩
theorem par_axis (x0 x1 x2 x3 x4 x5 x6 x7 x8 x9 x10 x11 : Int) (x12a : Option Addr) (x12l x12c : Nat) (x12z : List Int) (x13 : Int) (x14a : Option Addr) (x14l x14c : Nat) (x15a : Option Addr) (x15l x15c : Nat) (x16 : Bool) (x17 x18 x19 : Int) (x20 : Bool) (x21 x22 x23 x24 : Int) (x25 : Bool) (w : World)
  (u0 : (Lit.int .i64 x0).wf = true) (u1 : (Lit.int .i64 x1).wf = true) (u2 : (Lit.int .i64 x2).wf = true) (u3 : (Lit.int .i64 x3).wf = true) (u4 : (Lit.int .i64 x4).wf = true) (u5 : (Lit.int .i64 x5).wf = true) (u6 : (Lit.int .i64 x6).wf = true) (u7 : (Lit.int .i64 x7).wf = true) (u8 : (Lit.int .i64 x8).wf = true) (u9 : (Lit.int .i64 x9).wf = true) (u10 : (Lit.int .i64 x10).wf = true) (u11 : (Lit.int .i64 x11).wf = true)
  (u12 : IsRow .i64 w x12a x12l x12c x12z) (u13 : (Lit.int .i64 x13).wf = true) (u14 : IsRecs w 7 x14a x14l x14c) (u15 : IsRecs w 7 x15a x15l x15c) (u17 : (Lit.int .i64 x17).wf = true) (u18 : (Lit.int .i64 x18).wf = true) (u19 : (Lit.int .i64 x19).wf = true) (u21 : (Lit.int .i64 x21).wf = true) (u22 : (Lit.int .i64 x22).wf = true) (u23 : (Lit.int .i64 x23).wf = true) (u24 : (Lit.int .i64 x24).wf = true) :
  ∃ (a : Ax) (S N W : Sl), (.agg #[.int .i64 x0, .int .i64 x1, .int .i64 x2, .int .i64 x3, .int .i64 x4, .int .i64 x5, .int .i64 x6, .int .i64 x7, .int .i64 x8, .int .i64 x9, .int .i64 x10, .int .i64 x11, .slice x12a x12l x12c, .int .i64 x13, .slice x14a x14l x14c, .slice x15a x15l x15c, .bool x16, .int .i64 x17, .int .i64 x18, .int .i64 x19, .bool x20, .int .i64 x21, .int .i64 x22, .int .i64 x23, .int .i64 x24, .bool x25] : Value) = axV a S N W ∧ RdA w w.heap.size a S N W ∧ WideA a := by
 obtain ⟨L, hL, wL⟩ := ints_row u12
 obtain ⟨N, hN, wN⟩ := rows_wide u14
 obtain ⟨W, hW, wW⟩ := rows_wide u15
 refine ⟨⟨x0, ⟨x1, x2, x3, x4, x5⟩, x6, x7, x8, x9, x10, x11, L, x13, N, W, x16, ⟨x17, x18, x19, x20⟩, x21, x22, x23, x24, x25⟩, ⟨x12a, x12l, x12c⟩, ⟨x14a, x14l, x14c⟩, ⟨x15a, x15l, x15c⟩, rfl, ⟨hL, hN, hW⟩, ?_⟩
 exact ⟨wf64 u0, wf64 u1, wf64 u2, wf64 u3, wf64 u4, wf64 u5, wf64 u6, wf64 u7, wf64 u8, wf64 u9, wf64 u10, wf64 u11, wL, wf64 u13, wf64 u21, ⟨wf64 u17, wf64 u18, wf64 u19, wf64 u22, wf64 u23, wf64 u24, fun x hx => (List.mem_append.1 hx).elim (wN x) (wW x)⟩⟩
abbrev IS := In × Sl
def inC (x : IS) : List Value := [.bool x.1.power, .bool x.1.op, .int .i64 x.1.actual, .int .i64 x.1.cause, .bool x.1.plus, .bool x.1.minus, .bool x.1.home, .bool x.1.reset, .bool x.1.release, .int .i64 x.1.ov, .int .i64 x.1.master, .slice x.2.A x.2.n x.2.c]
theorem inC_len (x : IS) : (inC x).length = 12 := rfl
abbrev RdN := Rd inC 12
def OkI (w : World) (x : IS) : Prop := RdC w w.heap.size x.2.A x.2.n x.2.c x.1.cmds ∧ WideI x.1
theorem twelve {w : World} (vs : List Value) (h : okIs w [.bool, .bool, .int .i64, .int .i64, .bool, .bool, .bool, .bool, .bool, .int .i64, .int .i64, .recs 7] vs) : ∃ x : IS, OkI w x ∧ vs = inC x := by
 have hl : vs.length = 12 := okIs_len h
 match vs, hl, h with
 | [v0, v1, v2, v3, v4, v5, v6, v7, v8, v9, v10, v11], _, h =>
  obtain ⟨⟨b0, rfl⟩, ⟨b1, rfl⟩, ⟨n2, rfl, w2⟩, ⟨n3, rfl, w3⟩, ⟨b4, rfl⟩, ⟨b5, rfl⟩, ⟨b6, rfl⟩, ⟨b7, rfl⟩, ⟨b8, rfl⟩, ⟨n9, rfl, w9⟩, ⟨n10, rfl, w10⟩, ⟨a, l, c, rfl, hr⟩, _⟩ := h
  obtain ⟨L, hL, wL⟩ := rows_wide hr
  exact ⟨(⟨b0, b1, n2, n3, b4, b5, b6, b7, b8, n9, n10, L⟩, ⟨a, l, c⟩), ⟨hL, ⟨wf64 w2, wf64 w3, wf64 w9, wf64 w10, wL⟩⟩, rfl⟩
theorem zeroI_ok (w : World) : OkI w (⟨false, false, 0, 0, false, false, false, false, false, 0, 0, []⟩, ⟨none, 0, 0⟩) := ⟨Rd.none_ _ _ _ _, ⟨by decide, by decide⟩, ⟨by decide, by decide⟩, ⟨by decide, by decide⟩, ⟨by decide, by decide⟩, fun x hx => by cases hx⟩
theorem par_ins {w : World} {a : Option Addr} {len cap : Nat} (h : IsIns w [.bool, .bool, .int .i64, .int .i64, .bool, .bool, .bool, .bool, .bool, .int .i64, .int .i64, .recs 7] a len cap) : ∃ L, RdN w w.heap.size a len cap L ∧ ∀ x ∈ L, OkI w x := by
 by_cases hp : 0 < len
 ·obtain ⟨b, off, rfl, hb, hl, hm, hc⟩ := h.at (by decide) hp
  have h1 : ∀ i, ∃ x : IS, OkI w x ∧ (i < len → w.rangeAt b (off + i * 12) (inC x)) := fun i => by
   by_cases hi : i < len
   ·obtain ⟨vs, hv, hcell⟩ := hc i hi
    obtain ⟨x, hx, rfl⟩ := twelve vs hv
    exact ⟨x, hx, fun _ j v hv => hcell j v hv⟩
   ·exact ⟨_, zeroI_ok w, fun h => absurd h hi⟩
  obtain ⟨f, hf⟩ := Classical.axiomOfChoice h1
  refine ⟨(List.range len).map f, ⟨by simp, hl, hm, (fun h => by cases h), fun _ => ⟨b, off, rfl, hb, fun i x hx => ?_⟩⟩, fun x hx => ?_⟩
  ·have hi : i < len := by have := (List.getElem?_eq_some_iff.1 hx).1; simpa using this
   have e : f i = x := by simpa [hi] using hx
   rw [← e]
   exact (hf i).2 hi
  ·obtain ⟨i, _, rfl⟩ := List.mem_map.1 hx
   exact (hf i).1
 ·have h0 : len = 0 := by omega
  subst h0
  rcases h with ⟨rfl, _, rfl⟩ | ⟨x, rfl, hl, hm, _⟩
  ·exact ⟨[], Rd.none_ _ _ _ _, fun x hx => by cases hx⟩
  ·exact ⟨[], ⟨rfl, hl, hm, (fun h => by cases h), fun h => absurd h (by omega)⟩, fun x hx => by cases hx⟩
end Go.Proofs.YtijlccblabadaaaGreat.ax
end
