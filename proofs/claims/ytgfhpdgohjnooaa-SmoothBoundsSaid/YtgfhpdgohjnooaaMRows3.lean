/- Three rows of a call's own beside one that came in: what stays where two of them are written. No condition but what each line says. -/
import Derived.Test.YtgfhpdgohjnooaaMRows2
namespace Go.Proofs.Ytgfhpdgohjnooaa.mm
open Go.ChangeShapes Go.WideShapes Go.ChangeAt Go.RowKit Go.Proofs.Ytgfhpdgohjnooaa.k
set_option linter.unusedVariables false

structure Rows3 (w0 w : World) (g12 g13 g14 r12 r13 r14 len : Nat) (s v12 v13 v14 : Value) (L : List Int) (f13 f14 : Nat → Int) : Prop where
  vs : VarS w w0.heap.size s
  v12 : VarS w g12 v12
  v13 : VarS w g13 v13
  v14 : VarS w g14 v14
  r12 : RowF w r12 len (fun i => L.getD i 0)
  r13 : RowF w r13 len f13
  r14 : RowF w r14 len f14
  bel : Below w0.heap.size w0 w
section
variable {w0 w w' : World} {g12 g13 g14 r12 r13 r14 len : Nat} {s v12 v13 v14 : Value} {L : List Int} {f13 f14 : Nat → Int}
theorem Rows3.under (h : Rows3 w0 w g12 g13 g14 r12 r13 r14 len s v12 v13 v14 L f13 f14) (hb : Below w.heap.size w w') : Rows3 w0 w' g12 g13 g14 r12 r13 r14 len s v12 v13 v14 L f13 f14 :=
  ⟨h.vs.under hb, h.v12.under hb, h.v13.under hb, h.v14.under hb, h.r12.under hb, h.r13.under hb, h.r14.under hb, h.bel.trans (hb.mono h.bel.size)⟩
theorem Rows3.drawn (h : Rows3 w0 w g12 g13 g14 r12 r13 r14 len s v12 v13 v14 L f13 f14) (n : Nat) : Rows3 w0 (w.drewN n) g12 g13 g14 r12 r13 r14 len s v12 v13 v14 L f13 f14 :=
  ⟨h.vs, h.v12, h.v13, h.v14, h.r12, h.r13, h.r14, below_drawn h.bel n⟩
theorem Rows3.drew (h : Rows3 w0 w g12 g13 g14 r12 r13 r14 len s v12 v13 v14 L f13 f14) : Rows3 w0 w.drew g12 g13 g14 r12 r13 r14 len s v12 v13 v14 L f13 f14 :=
  ⟨h.vs, h.v12, h.v13, h.v14, h.r12, h.r13, h.r14, h.bel.drew⟩
theorem Rows3.set13 (h : Rows3 w0 w g12 g13 g14 r12 r13 r14 len s v12 v13 v14 L f13 f14) {i : Nat} (hi : i < len) (x : Int) (h1 : r12 ≠ r13) (h2 : r14 ≠ r13) (h0 : w0.heap.size ≤ r13) :
    Rows3 w0 (w.setCell ⟨r13, i, none⟩ (.int .i64 x)) g12 g13 g14 r12 r13 r14 len s v12 v13 v14 L (fun k => if k = i then x else f13 k) f14 :=
  ⟨h.vs.aside (p := ⟨r13, i, none⟩) (h.r13.ne h.vs) _, h.v12.aside (p := ⟨r13, i, none⟩) (h.r13.ne h.v12) _, h.v13.aside (p := ⟨r13, i, none⟩) (h.r13.ne h.v13) _, h.v14.aside (p := ⟨r13, i, none⟩) (h.r13.ne h.v14) _,
    h.r12.aside (p := ⟨r13, i, none⟩) h1 _, h.r13.set hi x, h.r14.aside (p := ⟨r13, i, none⟩) h2 _, h.bel.setCell h0 _⟩
theorem Rows3.set14 (h : Rows3 w0 w g12 g13 g14 r12 r13 r14 len s v12 v13 v14 L f13 f14) {i : Nat} (hi : i < len) (x : Int) (h1 : r12 ≠ r14) (h2 : r13 ≠ r14) (h0 : w0.heap.size ≤ r14) :
    Rows3 w0 (w.setCell ⟨r14, i, none⟩ (.int .i64 x)) g12 g13 g14 r12 r13 r14 len s v12 v13 v14 L f13 (fun k => if k = i then x else f14 k) :=
  ⟨h.vs.aside (p := ⟨r14, i, none⟩) (h.r14.ne h.vs) _, h.v12.aside (p := ⟨r14, i, none⟩) (h.r14.ne h.v12) _, h.v13.aside (p := ⟨r14, i, none⟩) (h.r14.ne h.v13) _, h.v14.aside (p := ⟨r14, i, none⟩) (h.r14.ne h.v14) _,
    h.r12.aside (p := ⟨r14, i, none⟩) h1 _, h.r13.aside (p := ⟨r14, i, none⟩) h2 _, h.r14.set hi x, h.bel.setCell h0 _⟩
theorem Rows3.cong (h : Rows3 w0 w g12 g13 g14 r12 r13 r14 len s v12 v13 v14 L f13 f14) {f f' : Nat → Int} (e : ∀ i, i < len → f13 i = f i) (e' : ∀ i, i < len → f14 i = f' i) : Rows3 w0 w g12 g13 g14 r12 r13 r14 len s v12 v13 v14 L f f' :=
  ⟨h.vs, h.v12, h.v13, h.v14, h.r12, h.r13.cong e, h.r14.cong e', h.bel⟩
end

/-! ### How the two are written -/
/-- pushed, as far as j -/
def pf (P : Bool) (L : List Int) (j i : Nat) : Int := if P = true ∧ 1 ≤ i ∧ i < j then L.getD (i - 1) 0 else L.getD i 0
/-- moved, as far as j -/
def mf (F : Bool) (d : Int) (L : List Int) (j i : Nat) : Int := if F = true ∧ i < j then L.getD i 0 + d else L.getD i 0
theorem pf_start (P : Bool) (L : List Int) (i : Nat) : pf P L 0 i = L.getD i 0 := by unfold pf; rw [if_neg (by omega)]
theorem mf_start (F : Bool) (d : Int) (L : List Int) (i : Nat) : mf F d L 0 i = L.getD i 0 := by unfold mf; rw [if_neg (by omega)]
theorem pf_step {L : List Int} {j : Nat} (hj : 1 ≤ j) (i : Nat) : (if i = j then L.getD (j - 1) 0 else pf true L j i) = pf true L (j + 1) i := by
  unfold pf
  by_cases e : i = j
  · subst e; rw [if_pos rfl, if_pos ⟨rfl, hj, by omega⟩]
  · rw [if_neg e]
    by_cases h : 1 ≤ i ∧ i < j
    · rw [if_pos ⟨rfl, h⟩, if_pos ⟨rfl, h.1, by omega⟩]
    · rw [if_neg fun c => h c.2, if_neg fun c => h ⟨c.2.1, by omega⟩]
theorem pf_same {P : Bool} {L : List Int} {j : Nat} (h : P = false ∨ j = 0) (i : Nat) : pf P L j i = pf P L (j + 1) i := by
  unfold pf
  rcases h with h | h
  · subst h; rw [if_neg (by simp), if_neg (by simp)]
  · subst h; rw [if_neg (by omega), if_neg (by omega)]
theorem mf_step {d : Int} {L : List Int} {j : Nat} (i : Nat) : (if i = j then L.getD j 0 + d else mf true d L j i) = mf true d L (j + 1) i := by
  unfold mf
  by_cases e : i = j
  · subst e; rw [if_pos rfl, if_pos ⟨rfl, by omega⟩]
  · rw [if_neg e]
    by_cases h : i < j
    · rw [if_pos ⟨rfl, h⟩, if_pos ⟨rfl, by omega⟩]
    · rw [if_neg fun c => h c.2, if_neg fun c => h (by omega)]
theorem mf_same {d : Int} {L : List Int} {j : Nat} (i : Nat) : mf false d L j i = mf false d L (j + 1) i := by
  unfold mf; rw [if_neg (by simp), if_neg (by simp)]
theorem mf_at (F : Bool) (d : Int) (L : List Int) (j : Nat) : mf F d L j j = L.getD j 0 := by unfold mf; rw [if_neg (by omega)]
/-- at the end: the window pushed -/
theorem pf_end {L : List Int} {p : Int} {i : Nat} (hi : i < L.length) : (if i = 0 then p else pf true L L.length i) = (p :: L.take (L.length - 1)).getD i 0 := by
  cases i with
  | zero => rfl
  | succ i =>
    rw [if_neg (by omega)]
    unfold pf
    rw [if_pos ⟨rfl, by omega, hi⟩, List.getD_eq_getElem?_getD, List.getD_eq_getElem?_getD, List.getElem?_cons_succ, List.getElem?_take, if_pos (by omega)]
    rfl
theorem pf_end_no {L : List Int} (n i : Nat) : pf false L n i = L.getD i 0 := by unfold pf; rw [if_neg (by simp)]
theorem mf_end {L : List Int} {d : Int} {i : Nat} (hi : i < L.length) : mf true d L L.length i = (L.map (· + d)).getD i 0 := by
  unfold mf
  rw [if_pos ⟨rfl, hi⟩, List.getD_eq_getElem?_getD, List.getD_eq_getElem?_getD, List.getElem?_map, List.getElem?_eq_getElem hi]
  rfl
theorem mf_end_no {L : List Int} {d : Int} (n i : Nat) : mf false d L n i = L.getD i 0 := by unfold mf; rw [if_neg (by simp)]
theorem all_step {L : List Int} {j : Nat} (f : Int → Bool) (h : j < L.length) : (L.take (j + 1)).all f = ((L.take j).all f && f (L.getD j 0)) := by
  rw [take_snoc L j h, List.all_append]
  simp
theorem sum_step {L : List Int} {j : Nat} (h : j < L.length) : (L.take (j + 1)).sum = (L.take j).sum + L.getD j 0 := by
  rw [take_snoc L j h, List.sum_append]
  simp
theorem sum_inP : ∀ {L : List Int}, (∀ x ∈ L, inP x) → -2199023255552 * (L.length : Int) ≤ L.sum ∧ L.sum ≤ 2199023255552 * (L.length : Int)
  | [], _ => by simp
  | x :: L, h => by
    have h1 := sum_inP fun y hy => h y (List.mem_cons_of_mem x hy)
    have h2 := h x (by simp)
    unfold inP at h2
    rw [List.sum_cons, List.length_cons]
    omega
end Go.Proofs.Ytgfhpdgohjnooaa.mm
