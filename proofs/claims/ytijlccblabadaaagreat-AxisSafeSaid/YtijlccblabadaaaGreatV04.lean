/- What state's Next, Moves and Takes answer, of any state and anything that happens; what was in memory is as it was. No condition. A variable that holds a line, its block known whole: no row of numbers lies in it. No condition but what each line says. What line's modeless and Right and slices.ContainsFunc answer, and IDs; what was in memory is as it was. No condition but that the rows are read where they lie. What line's Right and commands and slices.Grow and slices.Concat answer; what was in memory is as it was. No condition but that the rows are read where they lie. What line's lined answers; what was in memory is as it was. No condition but that the row is read where it lies. What line's Right and commands answer; what was in memory is as it was. No condition but that the rows are read where they lie. Rows that lie in blocks of the call's own; what Add, Clear and End answer, told with that. No condition beyond what each line says. What line's End, Clear, Last and Next answer; what was in memory is as it was. No condition but that the rows are read where they lie. What line's End answers; what was in memory is as it was. No condition but that the rows are read where they lie. What line's Add answers; what was in memory is as it was. No condition but that the rows are read where they lie. -/
import Derived.Test.YtijlccblabadaaaGreatU01
import Derived.Shelf.Abstract
import Derived.Lib.AppendZeros
section
namespace Go.Proofs.YtijlccblabadaaaGreat.ed
open Go.ChangeShapes Go.WideShapes Go.ChangeAt Go.RowKit Go.Proofs.YtijlccblabadaaaGreat.k Go.Proofs.YtijlccblabadaaaGreat.rr
set_option linter.unusedVariables false
def eC (x : Int × Int) : List Value := [.int .i64 x.1, .int .i64 x.2]
def rowE (s : Int) : List (Int × Int) := if s = 0 then [(1, 1), (11, 7)] else if s = 1 then [(2, 0), (3, 2), (5, 4), (6, 5), (7, 6), (8, 3), (11, 7)] else if s = 2 then [(4, 1), (8, 3), (2, 0), (11, 7)] else if s = 3 then [(9, 1), (2, 0), (11, 7)] else if s = 4 then [(10, 1), (5, 4), (6, 5), (7, 6), (8, 3), (2, 0), (11, 7)] else if s = 5 then [(10, 1), (5, 4), (6, 5), (7, 6), (8, 3), (2, 0), (11, 7)] else if s = 6 then [(10, 1), (5, 4), (6, 5), (7, 6), (8, 3), (2, 0), (11, 7)] else if s = 7 then [(12, 1), (2, 0), (11, 7)] else []
theorem rowE_out {s : Int} (h : ¬ (0 ≤ s ∧ s ≤ 7)) : rowE s = [] := by
 unfold rowE
 rw [if_neg (by omega), if_neg (by omega), if_neg (by omega), if_neg (by omega), if_neg (by omega), if_neg (by omega), if_neg (by omega), if_neg (by omega)]
theorem hit {s ev t : Int} (h : (ev, t) ∈ rowE s) : nxS s ev = t ∧ nxB s ev = true := by
 by_cases hs : 0 ≤ s ∧ s ≤ 7
 ·have hall : ∀ i : Fin 8, ∀ x ∈ rowE (i.val : Int), nxS (i.val : Int) x.1 = x.2 ∧ nxB (i.val : Int) x.1 = true := by decide +kernel
  have e1 : ((s.toNat : Nat) : Int) = s := by omega
  have := hall ⟨s.toNat, by omega⟩ (ev, t) (by simp only [e1]; exact h)
  simpa only [e1] using this
 ·rw [rowE_out hs] at h
  cases h
theorem miss {s ev : Int} (h : ∀ x ∈ rowE s, x.1 ≠ ev) : nxS s ev = s ∧ nxB s ev = false := by
 by_cases hi : InT s ev
 ·exact all_in (P := fun s ev => (∀ x ∈ rowE s, x.1 ≠ ev) → nxS s ev = s ∧ nxB s ev = false) (by decide +kernel) hi h
 ·exact out_of hi
theorem rowE_len (s : Int) : (rowE s).length ≤ 7 := by
 by_cases hs : 0 ≤ s ∧ s ≤ 7
 ·have hall : ∀ i : Fin 8, (rowE (i.val : Int)).length ≤ 7 := by decide +kernel
  have e1 : ((s.toNat : Nat) : Int) = s := by omega
  have := hall ⟨s.toNat, by omega⟩
  simpa only [e1] using this
 ·rw [rowE_out hs]; exact Nat.zero_le _
theorem lit_row {α : Type} {enc : α → List Value} {z : Nat} (hz : ∀ x, (enc x).length = z) (w : World) (e : TypeId) (R : List α) (cs : Array Value) (n : Nat) (hn : R.length = n) (hm : n ≤ 1000) (hc : cs.toList = R.flatMap enc) :
  Rd enc z (w.alloc (.cells cs e)) (w.heap.size + 1) (some ⟨w.heap.size, 0, none⟩) n n R :=
 ⟨hn, Nat.le_refl _, by unfold maxLen; omega, (fun h => by cases h), fun _ => ⟨_, 0, rfl, by omega, fun i y hy j u hu => by
  have hj : j < z := by
   have h1 : j < (enc y).length := (List.getElem?_eq_some_iff.1 hu).1
   rwa [hz] at h1
  rw [Nat.zero_add, World.cell?_alloc_mark, ← hu, ← flat_at enc z hz R i j y hy hj, ← hc]
  simp⟩⟩
theorem cells_edge {w : World} {b o : Nat} {x : Int × Int} (h : w.rangeAt b o (eC x)) : w.cell? ⟨b, o, none⟩ = some (.int .i64 x.1) ∧ w.cell? ⟨b, o + 1, none⟩ = some (.int .i64 x.2) :=
 ⟨h 0 _ rfl, h 1 _ rfl⟩
def GotE (R : List (Int × Int)) (w : World) (e : Ending) (w' : World) : Prop := ∃ A n cap, e = .returned (.slice A n cap) ∧ Rd eC 2 w' w'.heap.size A n cap R ∧ Below w.heap.size w w'
set_option maxHeartbeats 1000000 in
theorem edges_any (s : Int) (w : World) : Calls Tryz.prog 47 #[.int .i64 s] w (GotE (rowE s) w) := by
 by_cases hs : 0 ≤ s ∧ s ≤ 7
 ·rcases eight_of s hs.1 hs.2 with rfl | rfl | rfl | rfl | rfl | rfl | rfl | rfl
  ·clear hs
   have HR : Hid (rowE 0 = [(1, 1), (11, 7)]) := lh rfl
   go_enter Tryz.func47, Tryz.ntmps47
   go_wp2
   go_ret
   exact ⟨_, _, _, rfl, by rw [HR.out]; refine Rd.more (lit_row (enc := eC) (z := 2) (fun _ => rfl) w 83 [(1, 1), (11, 7)] #[.int .i64 1, .int .i64 1, .int .i64 11, .int .i64 7] 2 rfl (by omega) rfl) ?_; simp, (Below.refl _ _).alloc (Nat.le_refl _) _⟩
  ·clear hs
   have HR : Hid (rowE 1 = [(2, 0), (3, 2), (5, 4), (6, 5), (7, 6), (8, 3), (11, 7)]) := lh rfl
   go_enter Tryz.func47, Tryz.ntmps47
   go_wp2
   go_ret
   exact ⟨_, _, _, rfl, by rw [HR.out]; refine Rd.more (lit_row (enc := eC) (z := 2) (fun _ => rfl) w 83 [(2, 0), (3, 2), (5, 4), (6, 5), (7, 6), (8, 3), (11, 7)] #[.int .i64 2, .int .i64 0, .int .i64 3, .int .i64 2, .int .i64 5, .int .i64 4, .int .i64 6, .int .i64 5, .int .i64 7, .int .i64 6, .int .i64 8, .int .i64 3, .int .i64 11, .int .i64 7] 7 rfl (by omega) rfl) ?_; simp, (Below.refl _ _).alloc (Nat.le_refl _) _⟩
  ·clear hs
   have HR : Hid (rowE 2 = [(4, 1), (8, 3), (2, 0), (11, 7)]) := lh rfl
   go_enter Tryz.func47, Tryz.ntmps47
   go_wp2
   go_ret
   exact ⟨_, _, _, rfl, by rw [HR.out]; refine Rd.more (lit_row (enc := eC) (z := 2) (fun _ => rfl) w 83 [(4, 1), (8, 3), (2, 0), (11, 7)] #[.int .i64 4, .int .i64 1, .int .i64 8, .int .i64 3, .int .i64 2, .int .i64 0, .int .i64 11, .int .i64 7] 4 rfl (by omega) rfl) ?_; simp, (Below.refl _ _).alloc (Nat.le_refl _) _⟩
  ·clear hs
   have HR : Hid (rowE 3 = [(9, 1), (2, 0), (11, 7)]) := lh rfl
   go_enter Tryz.func47, Tryz.ntmps47
   go_wp2
   go_ret
   exact ⟨_, _, _, rfl, by rw [HR.out]; refine Rd.more (lit_row (enc := eC) (z := 2) (fun _ => rfl) w 83 [(9, 1), (2, 0), (11, 7)] #[.int .i64 9, .int .i64 1, .int .i64 2, .int .i64 0, .int .i64 11, .int .i64 7] 3 rfl (by omega) rfl) ?_; simp, (Below.refl _ _).alloc (Nat.le_refl _) _⟩
  ·clear hs
   have HR : Hid (rowE 4 = [(10, 1), (5, 4), (6, 5), (7, 6), (8, 3), (2, 0), (11, 7)]) := lh rfl
   go_enter Tryz.func47, Tryz.ntmps47
   go_wp2
   go_ret
   exact ⟨_, _, _, rfl, by rw [HR.out]; refine Rd.more (lit_row (enc := eC) (z := 2) (fun _ => rfl) w 83 [(10, 1), (5, 4), (6, 5), (7, 6), (8, 3), (2, 0), (11, 7)] #[.int .i64 10, .int .i64 1, .int .i64 5, .int .i64 4, .int .i64 6, .int .i64 5, .int .i64 7, .int .i64 6, .int .i64 8, .int .i64 3, .int .i64 2, .int .i64 0, .int .i64 11, .int .i64 7] 7 rfl (by omega) rfl) ?_; simp, (Below.refl _ _).alloc (Nat.le_refl _) _⟩
  ·clear hs
   have HR : Hid (rowE 5 = [(10, 1), (5, 4), (6, 5), (7, 6), (8, 3), (2, 0), (11, 7)]) := lh rfl
   go_enter Tryz.func47, Tryz.ntmps47
   go_wp2
   go_ret
   exact ⟨_, _, _, rfl, by rw [HR.out]; refine Rd.more (lit_row (enc := eC) (z := 2) (fun _ => rfl) w 83 [(10, 1), (5, 4), (6, 5), (7, 6), (8, 3), (2, 0), (11, 7)] #[.int .i64 10, .int .i64 1, .int .i64 5, .int .i64 4, .int .i64 6, .int .i64 5, .int .i64 7, .int .i64 6, .int .i64 8, .int .i64 3, .int .i64 2, .int .i64 0, .int .i64 11, .int .i64 7] 7 rfl (by omega) rfl) ?_; simp, (Below.refl _ _).alloc (Nat.le_refl _) _⟩
  ·clear hs
   have HR : Hid (rowE 6 = [(10, 1), (5, 4), (6, 5), (7, 6), (8, 3), (2, 0), (11, 7)]) := lh rfl
   go_enter Tryz.func47, Tryz.ntmps47
   go_wp2
   go_ret
   exact ⟨_, _, _, rfl, by rw [HR.out]; refine Rd.more (lit_row (enc := eC) (z := 2) (fun _ => rfl) w 83 [(10, 1), (5, 4), (6, 5), (7, 6), (8, 3), (2, 0), (11, 7)] #[.int .i64 10, .int .i64 1, .int .i64 5, .int .i64 4, .int .i64 6, .int .i64 5, .int .i64 7, .int .i64 6, .int .i64 8, .int .i64 3, .int .i64 2, .int .i64 0, .int .i64 11, .int .i64 7] 7 rfl (by omega) rfl) ?_; simp, (Below.refl _ _).alloc (Nat.le_refl _) _⟩
  ·clear hs
   have HR : Hid (rowE 7 = [(12, 1), (2, 0), (11, 7)]) := lh rfl
   go_enter Tryz.func47, Tryz.ntmps47
   go_wp2
   go_ret
   exact ⟨_, _, _, rfl, by rw [HR.out]; refine Rd.more (lit_row (enc := eC) (z := 2) (fun _ => rfl) w 83 [(12, 1), (2, 0), (11, 7)] #[.int .i64 12, .int .i64 1, .int .i64 2, .int .i64 0, .int .i64 11, .int .i64 7] 3 rfl (by omega) rfl) ?_; simp, (Below.refl _ _).alloc (Nat.le_refl _) _⟩
 ·have HR : Hid (rowE s = []) := lh (rowE_out hs)
  have q0 : (s == 0) = false := by rw [beq_eq_false_iff_ne]; omega
  have q1 : (s == 1) = false := by rw [beq_eq_false_iff_ne]; omega
  have q2 : (s == 2) = false := by rw [beq_eq_false_iff_ne]; omega
  have q3 : (s == 3) = false := by rw [beq_eq_false_iff_ne]; omega
  have q4 : (s == 4) = false := by rw [beq_eq_false_iff_ne]; omega
  have q5 : (s == 5) = false := by rw [beq_eq_false_iff_ne]; omega
  have q6 : (s == 6) = false := by rw [beq_eq_false_iff_ne]; omega
  have q7 : (s == 7) = false := by rw [beq_eq_false_iff_ne]; omega
  clear hs
  go_enter Tryz.func47, Tryz.ntmps47
  go_wp2
  go_ret
  exact ⟨_, _, _, rfl, by rw [HR.out]; exact Rd.none_ _ _ _ _, Below.refl _ _⟩
theorem ret_nx {a a' : Int} {b b' : Bool} (h : a = a') (h2 : b = b') : Ending.returned (.tuple #[.int .i64 a, .bool b]) = .returned (.tuple #[.int .i64 a', .bool b']) := by rw [h, h2]
set_option maxHeartbeats 1000000 in
theorem next_any (s ev : Int) (w : World) : Calls Tryz.prog 23 #[.int .i64 s, .int .i64 ev] w fun e w' => e = .returned (.tuple #[.int .i64 (nxS s ev), .bool (nxB s ev)]) ∧ Below w.heap.size w w' := by
 have HH := lh fun t h => hit (s := s) (ev := ev) (t := t) h
 have HM := lh fun h => miss (s := s) (ev := ev) h
 have HL := lh (rowE_len s)
 have HE := lh (edges_any s w)
 generalize nxS s ev = S at *
 generalize nxB s ev = B at *
 generalize rowE s = R at *
 go_enter Tryz.func23, Tryz.ntmps23
 go_wp2_with (go_at_call 47; fail)
 refine HE.out.mono ?_
 rintro e w1 ⟨A, n, cap, rfl, hr, hb⟩
 have hlen : (n : Int) ≤ 7 := by have h1 := hr.1; have h2 := HL.out; omega
 have HR := lh hr
 have HB := lh hb
 clear hr hb HE
 go_wp2
 go_loopw [11] (fun i wr => ∃ j : Nat, j ≤ n ∧ i = .int .i64 j ∧ (∀ k, k < j → ∀ x, R[k]? = some x → x.1 ≠ ev) ∧ Below w1.heap.size w1 wr) (fun i _ => n - (intOf i).toNat)
 case atStart => exact ⟨0, Nat.zero_le _, rfl, fun k hk => absurd hk (by omega), Below.refl _ _⟩
 case round =>
  obtain ⟨j, hj, rfl, hno, hb⟩ := hrel
  have HN := lh hno
  by_cases hlt : j < n
  ·obtain ⟨b, o, x, rfl, hb', hx, hr⟩ := (HR.out.below hb).at hlt
   obtain ⟨c0, c1⟩ := cells_edge hr
   have hj0 : (0 : Int) ≤ (j : Int) := by omega
   have hj1 : (j : Int) < (n : Int) := by omega
   have HX := lh hx
   have HBB := lh (HB.out.trans (hb.mono HB.out.size))
   have HZ := lh hb
   clear hr hx hb hno
   by_cases he : x.1 = ev
   ·have HV := lh (HH.out x.2 (by have := List.mem_of_getElem? HX.out; rwa [← he]))
    have hq : (x.1 == ev) = true := by rw [he]; exact beq_self_eq_true ev
    obtain ⟨x1, x2⟩ := x
    dsimp only at *
    subst he
    go_wp2
    go_ret2
    refine ⟨ret_nx HV.out.1.symm HV.out.2.symm, ?_⟩
    exact HBB.out.alloc HBB.out.size _
   ·have HE := lh he
    have hq : (x.1 == ev) = false := by rw [beq_eq_false_iff_ne]; exact he
    clear he
    go_wp2
    go_roundw
    case rel =>
     refine ⟨j + 1, by omega, by go_num, fun k hk y hy => ?_, HZ.out.alloc HZ.out.size _⟩
     rcases Nat.lt_or_ge k j with h | h
     ·exact HN.out k h y hy
     ·have e : k = j := by omega
      subst e
      have e2 : x = y := by have := HX.out; rw [hy] at this; injection this with h; exact h.symm
      rw [← e2]
      exact HE.out
    case measure => simp [intOf]; omega
  ·have hjl : j = n := by omega
   have HV := lh (HM.out fun x hx => by
    obtain ⟨k, hk⟩ := List.mem_iff_getElem?.1 hx
    have hkl : k < R.length := (List.getElem?_eq_some_iff.1 hk).1
    exact hno k (by rw [hjl, ← HR.out.1]; exact hkl) x hk)
   have HBB := lh (HB.out.trans (hb.mono HB.out.size))
   have hj1 : ¬ ((j : Int) < (n : Int)) := by omega
   clear hb hno hjl
   go_wp2
   go_ret2
   exact ⟨ret_nx HV.out.1.symm HV.out.2.symm, HBB.out⟩
theorem takes_any (s : Int) (w : World) : Calls Tryz.prog 120 #[.int .i64 s] w fun e w' => e = .returned (.bool (tkB s)) ∧ Below w.heap.size w w' := by
 by_cases hs : s = 1 ∨ s = 4 ∨ s = 5 ∨ s = 6
 ·have HV : Hid (tkB s = true) := lh (decide_eq_true hs)
  rcases hs with rfl | rfl | rfl | rfl
  all_goals
   go_enter Tryz.func120, Tryz.ntmps120
   go_wp2
   go_ret
   exact ⟨ret_bool HV.out.symm, Below.refl _ _⟩
 ·have HV : Hid (tkB s = false) := lh (decide_eq_false hs)
  have q1 : (s == 1) = false := by rw [beq_eq_false_iff_ne]; omega
  have q4 : (s == 4) = false := by rw [beq_eq_false_iff_ne]; omega
  have q5 : (s == 5) = false := by rw [beq_eq_false_iff_ne]; omega
  have q6 : (s == 6) = false := by rw [beq_eq_false_iff_ne]; omega
  clear hs
  go_enter Tryz.func120, Tryz.ntmps120
  go_wp2
  go_ret
  exact ⟨ret_bool HV.out.symm, Below.refl _ _⟩
end Go.Proofs.YtijlccblabadaaaGreat.ed
end
section
namespace Go.Proofs.YtijlccblabadaaaGreat.ln
open Go.ChangeShapes Go.WideShapes Go.ChangeAt Go.RowKit Go.Proofs.YtijlccblabadaaaGreat.k Go.Proofs.YtijlccblabadaaaGreat.rr
set_option linter.unusedVariables false
def VarL (w : World) (g : Nat) (A : Option Addr) (n c : Nat) (A' : Option Addr) (m c' : Nat) : Prop := w.heap[g]? = some (.cells #[.slice A n c, .slice A' m c'] 31 (0, 0))
section
variable {w w' : World} {g n c m c' : Nat} {A A' : Option Addr}
end
section
variable {α : Type} {enc : α → List Value} {z : Nat}
end
end Go.Proofs.YtijlccblabadaaaGreat.ln
end
section
namespace Go.Proofs.YtijlccblabadaaaGreat.ln
open Go.ChangeShapes Go.WideShapes Go.ChangeAt Go.RowKit Go.Proofs.YtijlccblabadaaaGreat.k Go.Proofs.YtijlccblabadaaaGreat.rr
set_option linter.unusedVariables false
abbrev fnV : Value := .func (.func 57) #[] #[]
def noMode (c : C) : Bool := decide (¬ OkC c)
theorem modeless_any (c : C) (w : World) : Calls Tryz.prog 57 #[cV c] w fun e w' => e = .returned (.bool (noMode c)) ∧ Below w.heap.size w w' := by
 unfold cV
 by_cases h0 : c.mode < 0
 ·have HV : Hid (noMode c = true) := lh (decide_eq_true fun h => by have := h.1; omega)
  go_enter Tryz.func57, Tryz.ntmps57
  go_wp2
  go_ret
  exact ⟨ret_bool HV.out.symm, (Below.refl _ _).alloc (Nat.le_refl _) _⟩
 ·by_cases h5 : 5 < c.mode
  ·have HV : Hid (noMode c = true) := lh (decide_eq_true fun h => by have := h.2; omega)
   go_enter Tryz.func57, Tryz.ntmps57
   go_wp2
   go_ret
   exact ⟨ret_bool HV.out.symm, (Below.refl _ _).alloc (Nat.le_refl _) _⟩
  ·have HV : Hid (noMode c = false) := lh (decide_eq_false fun h => h ⟨by omega, by omega⟩)
   have h1 : decide (5 < c.mode) = false := decide_eq_false h5
   go_enter Tryz.func57, Tryz.ntmps57
   go_wp2
   go_ret
   exact ⟨ret_bool HV.out.symm, (Below.refl _ _).alloc (Nat.le_refl _) _⟩
def anyNo (L : List C) : Bool := L.any noMode
theorem any_hit {L : List C} {j : Nat} {x : C} (h : L[j]? = some x) (hx : noMode x = true) : anyNo L = true := List.any_eq_true.2 ⟨x, List.mem_of_getElem? h, hx⟩
theorem any_miss {L : List C} (h : ∀ q x, q < L.length → L[q]? = some x → noMode x = false) : anyNo L = false := by
 unfold anyNo
 rw [List.any_eq_false]
 intro x hx
 obtain ⟨i, hi, rfl⟩ := List.getElem_of_mem hx
 rw [h i _ hi (List.getElem?_eq_getElem hi)]
 simp
set_option maxHeartbeats 1000000 in
theorem index_any (L : List C) {A : Option Addr} {n cap B : Nat} {w : World} (h : RdC w B A n cap L) (hB : B ≤ w.heap.size) :
  Calls Tryz.prog 84 #[.slice A n cap, fnV] w fun e w' => (∃ r : Int, e = .returned (.int .i64 r) ∧ ((0 ≤ r ∧ anyNo L = true) ∨ (r = -1 ∧ anyNo L = false))) ∧ Below w.heap.size w w' := by
 have hlen := h.len_le
 have HL := lh h.1
 have HR := lh h
 have HBB := lh hB
 have HC := lh fun (x : C) (W : World) => modeless_any x W
 clear h hB
 go_enter Tryz.func84, Tryz.ntmps84
 go_wp2
 go_loopw [5, 8] (fun _ i wr => ∃ j : Nat, j ≤ n ∧ i = .int .i64 j ∧ (∀ q x, q < j → L[q]? = some x → noMode x = false) ∧ Below w.heap.size w wr) (fun _ i _ => n - (intOf i).toNat)
 case atStart => exact ⟨0, Nat.zero_le _, rfl, fun q x hq => absurd hq (by omega), Below.refl _ _⟩
 case round =>
  obtain ⟨j, hj, rfl, hT, hb⟩ := hrel
  have HT := lh hT
  have HBW := lh hb
  clear hT
  by_cases hlt : j < n
  ·obtain ⟨b, o, x, rfl, hb', hx, hr⟩ := (HR.out.below (hb.mono HBB.out)).at hlt
   obtain ⟨g0, g1, g2, g3, g4, g5, g6⟩ := cells_com hr
   have hj0 : (0 : Int) ≤ (j : Int) := by omega
   have hj1 : (j : Int) < (n : Int) := by omega
   have HX := lh hx
   have HN := lh (fun hq : noMode x = true => any_hit hx hq)
   have HCC := HC.out x wr
   unfold cV at HCC
   clear hr hx hb hb'
   cases hq : noMode x with
   | true =>
    rw [hq] at HCC
    replace HCC := lh HCC
    have HA := lh (HN.out hq)
    clear hq
    go_wp2_with ((first | go_at_call 57 | go_at_fn 57); ((with_reducible refine HCC.out.mono ?_); rintro e w1 ⟨rfl, hb1⟩; have HB1 := lh hb1; clear hb1))
    go_ret
    exact ⟨⟨_, rfl, .inl ⟨hj0, HA.out⟩⟩, HBW.out.trans (HB1.out.mono HBW.out.size)⟩
   | false =>
    rw [hq] at HCC
    replace HCC := lh HCC
    have HQ := lh hq
    clear hq
    go_wp2_with ((first | go_at_call 57 | go_at_fn 57); ((with_reducible refine HCC.out.mono ?_); rintro e w1 ⟨rfl, hb1⟩; have HB1 := lh hb1; clear hb1))
    go_roundw
    case rel =>
     refine ⟨j + 1, by omega, by go_num, fun q y hq hy => ?_, HBW.out.trans (HB1.out.mono HBW.out.size)⟩
     by_cases e : q = j
     ·subst e
      have := rows_same hy HX.out
      subst this
      exact HQ.out
     ·exact HT.out q y (by omega) hy
    case measure => simp [intOf]; omega
  ·have hjl : j = n := by omega
   subst hjl
   have HA := lh (any_miss fun q x hq hx => HT.out q x (by rw [← HL.out]; exact hq) hx)
   clear hb
   go_wp2
   go_ret
   exact ⟨⟨_, rfl, .inr ⟨rfl, HA.out⟩⟩, HBW.out⟩
theorem contains_any (L : List C) {A : Option Addr} {n cap B : Nat} {w : World} (h : RdC w B A n cap L) (hB : B ≤ w.heap.size) :
  Calls Tryz.prog 56 #[.slice A n cap, fnV] w fun e w' => e = .returned (.bool (anyNo L)) ∧ Below w.heap.size w w' := by
 have HC := lh (index_any L h hB)
 clear h hB
 go_enter Tryz.func56, Tryz.ntmps56
 go_wp2_with (go_at_call 84; fail)
 refine HC.out.mono ?_
 rintro e w1 ⟨⟨r, rfl, hr⟩, hb⟩
 have HBW := lh hb
 clear hb HC
 rcases hr with ⟨hr, ha⟩ | ⟨rfl, ha⟩
 ·have HA := lh ha
  clear ha
  go_wp2
  go_ret
  exact ⟨ret_bool HA.out.symm, HBW.out⟩
 ·have HA := lh ha
  clear ha
  go_wp2
  go_ret
  exact ⟨ret_bool HA.out.symm, HBW.out⟩
set_option maxHeartbeats 1000000 in
theorem lids_any (L : List C) {A : Option Addr} {n cap B : Nat} {w : World} (h : RdC w B A n cap L) (hB : B ≤ w.heap.size) (hn : n ≤ 10000) :
  Calls Tryz.prog 125 #[.slice A n cap] w fun e w' => ∃ v, e = .returned v ∧ OwI w' w.heap.size v (ids L) ∧ Below w.heap.size w w' := by
 have hlen := h.len_le
 have HL := lh h.1
 have HW := lh h
 have HBB := lh hB
 clear h hB
 go_enter Tryz.func125, Tryz.ntmps125
 go_wp2
 go_loopw [3, 8] (fun v i wr => ∃ j : Nat, j ≤ n ∧ i = .int .i64 j ∧ OwI wr w.heap.size v (ids (L.take j)) ∧ Below w.heap.size w wr) (fun _ i _ => n - (intOf i).toNat)
 case atStart => exact ⟨0, Nat.zero_le _, rfl, Ow.nil _ _ _ _ _, Below.refl _ _⟩
 case round =>
  obtain ⟨j, hj, rfl, hO, hb⟩ := hrel
  have HO := lh hO
  have HB := lh hb
  by_cases hlt : j < n
  ·obtain ⟨b, o, x, rfl, hb', hx, hr⟩ := (HW.out.below (hb.mono HBB.out)).at hlt
   obtain ⟨g0, g1, g2, g3, g4, g5, g6⟩ := cells_com hr
   have hj0 : (0 : Int) ≤ (j : Int) := by omega
   have hj1 : (j : Int) < (n : Int) := by omega
   have HX := lh (ids_succ L j x hx)
   have HZ := lh (hb.size)
   have HM : Hid ((ids (L.take j)).length ≤ 10000) := lh (by rw [ids_len, List.length_take]; omega)
   clear hr hx hO hb
   go_upto_region 5 with fail
   have hb3 : Below wr.heap.size wr (wr.alloc (.cells #[.int .i64 x.id, .int .i64 x.kind, .int .i64 x.tgt, .int .i64 x.spd, .int .i64 x.mode, .int .i64 x.num, .int .i64 x.den] 62)) := (Below.refl _ _).alloc (Nat.le_refl _) _
   have HX3 := Box.new wr #[.int .i64 x.id, .int .i64 x.kind, .int .i64 x.tgt, .int .i64 x.spd, .int .i64 x.mode, .int .i64 x.num, .int .i64 x.den] 62
   generalize wr.alloc (.cells #[.int .i64 x.id, .int .i64 x.kind, .int .i64 x.tgt, .int .i64 x.spd, .int .i64 x.mode, .int .i64 x.num, .int .i64 x.den] 62) = w3 at hb3 HX3 ⊢
   have ⟨c0, _⟩ := k.cell_of HX3 (i := 0) rfl
   have O3 := lh (HO.out.under hb3)
   have B3 := lh (HB.out.trans (hb3.mono HB.out.size))
   clear hb3 HX3 HO HB g0 g1 g2 g3 g4 g5 g6
   go_wp2_with (at_builtin; refine wpList_append_row iC_len (by omega) iC_one ints_slice int_info rfl (by omega) _ rfl (.tmp 12) (.tmp 15) rfl w.heap.size _ (ids (L.take j)) rfl (O3.out.under ((Below.refl _ _).alloc (Nat.le_refl _) _)) (w3.heap.size + 1) (some ⟨w3.heap.size, 0, none⟩) 1 1 [x.id] rfl (one_row w3 _ x.id _ rfl) (by have := HM.out; simp; omega) (Nat.le_trans B3.out.size (by simp)) ?_; intro v1 w1 hown1 hg1 hat1; have O1 := lh hown1; have B1 := lh ((O3.out.under ((Below.refl _ _).alloc (Nat.le_refl _) _)).lays (B3.out.alloc B3.out.size _) (Nat.le_refl _) (Nat.le_refl _) hg1); clear hown1 hg1 hat1)
   go_roundw
   case rel => exact ⟨j + 1, by omega, by go_num, by rw [HX.out]; exact O1.out, B1.out⟩
   case measure => simp [intOf]; omega
  ·have hjl : j = n := by omega
   subst hjl
   clear hO hb
   go_wp2
   go_ret
   exact ⟨_, rfl, by have := HO.out; rwa [List.take_of_length_le (by rw [HL.out]; exact Nat.le_refl _)] at this, HB.out⟩
end Go.Proofs.YtijlccblabadaaaGreat.ln
end
section
namespace Go.Proofs.YtijlccblabadaaaGreat.ln
open Go.ChangeShapes Go.WideShapes Go.ChangeAt Go.RowKit Go.Proofs.YtijlccblabadaaaGreat.k Go.Proofs.YtijlccblabadaaaGreat.rr
set_option linter.unusedVariables false
theorem zeros_row (P : Program) {t tn e : TypeId} {kn : IntKind} {i : TypeInfo} (ht : P.underlying t = some (.slice e)) (htn : P.underlying tn = some (.int kn)) (hi : P.info? e = some i) {zv : Value} (hz : i.zero = some zv) {z : Nat} (hs : i.size = z) (hzs : zv.cells.size = z) (hp : 0 < z) (hb : i.bytes ≤ 1000)
  (w : World) (ty : TypeId) (n : Nat) (hn : 0 < n) (hm : n ≤ 10000) : ∃ cap W, (Builtin.append_ #[t, tn] ty #[.slice none 0 0, .int .i64 n]).run P w = .ok (.slice (some ⟨w.heap.size, 0, none⟩) n cap) W ∧ n ≤ cap ∧ cap ≤ maxLen ∧ (∀ base, base ≤ w.heap.size → W.ownsRow base e z (.slice (some ⟨w.heap.size, 0, none⟩) 0 cap) 0 []) ∧ Below w.heap.size w W := by
 refine ⟨grownCap w n 0 e, w.drew.alloc (.cells (Builtin.zeroCells zv.cells n ++ Builtin.zeroCells zv.cells (grownCap w n 0 e - n)) e), Lib.run_append_nil_zeros w t tn ty e i zv .i64 kn ht htn hi hz n hn (by omega) (by omega) (by
  have : n * i.bytes ≤ 10000 * 1000 := Nat.mul_le_mul hm hb
  omega), grownCap_ge _ _ _ _, grownCap_le_maxLen _ _ _ _ (by unfold maxLen; omega), fun base hbase => ?_, ((Below.refl _ _).drew).alloc (Nat.le_refl _) _⟩
 have hc := grownCap_ge w n 0 e
 exact World.ownsRow_made (w := w.drew) _ _ hbase (grownCap_le_maxLen _ _ _ _ (by unfold maxLen; omega)) (by
  rw [Array.size_append, size_zeroCells, size_zeroCells, hzs, ← Nat.add_mul]
  congr 1
  omega)
theorem int_under : Tryz.prog.underlying 3 = some (.int .i64) := by kernel_rfl
theorem grow_nil (n : Nat) (hm : n ≤ 10000) (w : World) :
  Calls Tryz.prog 154 #[.slice none 0 0, .int .i64 n] w fun e w' => ∃ v, e = .returned v ∧ OwC w' w.heap.size v [] ∧ Below w.heap.size w w' := by
 by_cases h0 : n = 0
 ·subst h0
  go_enter Tryz.func154, Tryz.ntmps154
  go_wp2
  go_ret
  exact ⟨_, rfl, Ow.nil _ _ _ _ _, Below.refl _ _⟩
 ·obtain ⟨i0, hi, hz0, hz1, hz2⟩ := rr.info_parts com_info
  have HZ := lh (zeros_row Tryz.prog coms_slice int_under hi hz0 hz1 rfl (by omega) (by rw [hz2]; omega) w)
  have h1 : (0 : Int) < (n : Int) := by omega
  have h2 : IntKind.i64.wrap (n : Int) = n := by rw [IntKind.wrap_i64]; omega
  have h3 : (n : Int) ≤ 10000 := by omega
  have HN := lh (show 0 < n by omega)
  clear hi hz0 hz1 hz2 h0
  go_enter Tryz.func154, Tryz.ntmps154
  go_upto_region 5 with fail
  obtain ⟨cap, W, hr, hc1, hc2, hown, hb⟩ := HZ.out 29 n HN.out hm
  have hc3 : (n : Int) ≤ (cap : Int) := by omega
  have hc4 : (0 : Int) ≤ (cap : Int) := by omega
  have HO := lh (hown w.heap.size (Nat.le_refl _))
  have HB := lh hb
  have HR := lh hr
  clear hown hb hr HZ
  go_wp2_with (at_builtin; refine Lib.wpList_append_run _ rfl _ _ _ _ rfl _ _ rfl rfl _ _ HR.out ?_)
  go_ret
  exact ⟨_, rfl, HO.out, HB.out⟩
def Two (w : World) (g : Nat) (A : Option Addr) (n cap : Nat) (A' : Option Addr) (m cap' : Nat) : Prop := w.cell? ⟨g, 0, none⟩ = some (.slice A n cap) ∧ w.cell? ⟨g, 1, none⟩ = some (.slice A' m cap')
def sumTo (n m j : Nat) : Int := if j = 0 then 0 else if j = 1 then n else n + m
def catTo (N W : List C) (j : Nat) : List C := if j = 0 then [] else if j = 1 then N else N ++ W
set_option maxHeartbeats 2000000 in
theorem concat_any (N W : List C) {A A' : Option Addr} {n cap m cap' g B : Nat} {w : World} (h : RdC w B A n cap N) (h2 : RdC w B A' m cap' W) (hB : B ≤ w.heap.size) (hg : g < w.heap.size) (ht : Two w g A n cap A' m cap') (hn : n ≤ 1000) (hm : m ≤ 1000) :
  Calls Tryz.prog 146 #[.slice (some ⟨g, 0, none⟩) 2 2] w fun e w' => ∃ v, e = .returned v ∧ OwC w' w.heap.size v (N ++ W) ∧ Below w.heap.size w w' := by
 have HL := lh (show N.length ≤ 1000 ∧ W.length ≤ 1000 from ⟨by rw [h.1]; exact hn, by rw [h2.1]; exact hm⟩)
 have HR1 := lh h
 have HR2 := lh h2
 have HBB := lh hB
 have HT := lh ht
 have hn1 : (n : Int) ≤ 1000 := by omega
 have hm1 : (m : Int) ≤ 1000 := by omega
 have HG := lh hg
 have HGN := lh fun W => grow_nil (n + m) (by omega) W
 clear h h2 hB ht hn hm
 go_enter Tryz.func146, Tryz.ntmps146
 go_wp2
 go_loopw [3, 5, 11] (fun s _ i wr => ∃ j : Nat, j ≤ 2 ∧ i = .int .i64 j ∧ s = .int .i64 (sumTo n m j) ∧ Below w.heap.size w wr) (fun _ _ i _ => 2 - (intOf i).toNat)
 case atStart => exact ⟨0, by omega, rfl, rfl, Below.refl _ _⟩
 case round =>
  obtain ⟨j, hj, rfl, rfl, hb⟩ := hrel
  have HB := lh hb
  have ⟨t0, t1⟩ := HT.out
  have c0 := (hb.cell (p := ⟨g, 0, none⟩) hg).trans t0
  have c1 := (hb.cell (p := ⟨g, 1, none⟩) hg).trans t1
  clear t0 t1 hb
  have h3 : j = 0 ∨ j = 1 ∨ j = 2 := by omega
  rcases h3 with rfl | rfl | rfl
  ·rw [show sumTo n m 0 = 0 from rfl]
   have i0 : IntKind.i64.wrap (0 + (n : Int)) = n := by rw [IntKind.wrap_i64]; omega
   go_wp2
   go_roundw
   case rel => exact ⟨1, by omega, by go_num, by first | rfl | (simp [sumTo]), HB.out⟩
   case measure => simp [intOf]
  ·rw [show sumTo n m 1 = n from rfl]
   have i0 : IntKind.i64.wrap ((n : Int) + (m : Int)) = n + m := by rw [IntKind.wrap_i64]; omega
   have i1 : (0 : Int) ≤ (n : Int) + (m : Int) := by omega
   go_wp2
   go_roundw
   case rel => exact ⟨2, by omega, by go_num, by first | rfl | (simp [sumTo]), HB.out⟩
   case measure => simp [intOf]
  ·rw [show sumTo n m 2 = ((n + m : Nat) : Int) from by simp [sumTo]]
   go_wp2_with (go_at_call 154; fail)
   refine (HGN.out _).mono ?_
   rintro e w1 ⟨v1, rfl, ho, hb1⟩
   obtain ⟨A1, n1, q1, rfl⟩ := ow_form ho
   have O1 := lh (ho.base HB.out.size)
   have B1 := lh (HB.out.trans (hb1.mono HB.out.size))
   clear ho hb1 HB HGN c0 c1
   go_wp2
   go_loopw [6, 8, 27] (fun v _ i wr => ∃ j : Nat, j ≤ 2 ∧ i = .int .i64 j ∧ OwC wr w.heap.size v (catTo N W j) ∧ Below w.heap.size w wr) (fun _ _ i _ => 2 - (intOf i).toNat)
   case atStart => exact ⟨0, by omega, rfl, O1.out, B1.out⟩
   case round =>
    clear O1 B1
    obtain ⟨j, hj, rfl, ho, hb⟩ := hrel
    obtain ⟨A2, n2, q2, rfl⟩ := ow_form ho
    have HO := lh ho
    have HB := lh hb
    have R1 := lh (HR1.out.below (hb.mono HBB.out))
    have R2 := lh (HR2.out.below (hb.mono HBB.out))
    have ⟨t0, t1⟩ := HT.out
    have c0 := (hb.cell (p := ⟨g, 0, none⟩) hg).trans t0
    have c1 := (hb.cell (p := ⟨g, 1, none⟩) hg).trans t1
    clear t0 t1 hb ho
    have h3 : j = 0 ∨ j = 1 ∨ j = 2 := by omega
    rcases h3 with rfl | rfl | rfl
    ·go_wp2_with (at_builtin; refine wpList_append_row cC_len (by omega) cC_one coms_slice com_info rfl (by omega) _ rfl (.tmp 31) (.tmp 32) rfl w.heap.size _ [] rfl HO.out B A n cap N rfl R1.out (by have := HL.out.1; simp; omega) HB.out.size ?_; intro v3 w3 hown hg3 hat; have O3 := lh hown; have B3 := lh (HO.out.lays HB.out (Nat.le_refl _) (Nat.le_refl _) hg3); clear hown hg3 hat)
     go_roundw
     case rel => exact ⟨1, by omega, by go_num, O3.out, B3.out⟩
     case measure => simp [intOf]
    ·go_wp2_with (at_builtin; refine wpList_append_row cC_len (by omega) cC_one coms_slice com_info rfl (by omega) _ rfl (.tmp 31) (.tmp 32) rfl w.heap.size _ N rfl HO.out B A' m cap' W rfl R2.out (by have := HL.out; omega) HB.out.size ?_; intro v3 w3 hown hg3 hat; have O3 := lh hown; have B3 := lh (HO.out.lays HB.out (Nat.le_refl _) (Nat.le_refl _) hg3); clear hown hg3 hat)
     go_roundw
     case rel => exact ⟨2, by omega, by go_num, O3.out, B3.out⟩
     case measure => simp [intOf]
    ·go_wp2
     go_ret
     exact ⟨_, rfl, HO.out, HB.out⟩
end Go.Proofs.YtijlccblabadaaaGreat.ln
end
section
namespace Go.Proofs.YtijlccblabadaaaGreat.ln
open Go.ChangeShapes Go.WideShapes Go.ChangeAt Go.RowKit Go.Proofs.YtijlccblabadaaaGreat.k Go.Proofs.YtijlccblabadaaaGreat.rr
set_option linter.unusedVariables false
theorem cut_rows {α : Type} {enc : α → List Value} {z : Nat} {w : World} {B : Nat} {A : Option Addr} {n cap : Nat} {L : List α} (h : Rd enc z w B A n cap L) (j : Nat) (hj : j ≤ n) :
  (∃ A1 c1, sliced A 0 j cap z = .slice A1 j c1 ∧ Rd enc z w B A1 j c1 (L.take j)) ∧ (∃ A2 c2, sliced A j n cap z = .slice A2 (n - j) c2 ∧ Rd enc z w B A2 (n - j) c2 (L.drop j)) := by
 have hl := h.1
 have hc := h.2.1
 have hm := h.2.2.1
 refine ⟨⟨_, _, rfl, ?_⟩, ⟨_, _, rfl, ?_⟩⟩
 ·refine ⟨by rw [List.length_take]; omega, by omega, by omega, fun e => ?_, fun hp => ?_⟩
  ·cases A with
   | none => have := h.2.2.2.1 rfl; omega
   | some a =>
    by_cases hcj : cap = 0
    ·omega
    ·rw [if_neg hcj] at e; cases e
  ·obtain ⟨b, off, rfl, hb, hx⟩ := h.2.2.2.2 (by omega)
   refine ⟨b, off, ?_, hb, fun i x hi => hx i x ?_⟩
   ·simp [Addr.add]
   ·rw [List.getElem?_take] at hi
    split at hi
    ·exact hi
    ·cases hi
 ·refine ⟨by rw [List.length_drop]; omega, by omega, by omega, fun e => ?_, fun hp => ?_⟩
  ·cases A with
   | none => have := h.2.2.2.1 rfl; omega
   | some a =>
    by_cases hcj : cap = j
    ·omega
    ·rw [if_neg hcj] at e; cases e
  ·obtain ⟨b, off, rfl, hb, hx⟩ := h.2.2.2.2 (by omega)
   refine ⟨b, off + j * z, ?_, hb, fun i x hi => ?_⟩
   ·rw [if_neg (by omega)]
    simp only [Option.map_some, Option.some.injEq]
    unfold Addr.add
    by_cases e : j * z = 0 <;> simp [e]
   ·rw [List.getElem?_drop] at hi
    have := hx _ x hi
    rwa [show off + j * z + i * z = off + (j + i) * z by rw [Nat.add_mul, Nat.add_assoc]]
set_option maxRecDepth 100000 in
set_option maxHeartbeats 4000000 in
theorem lined_any (L : List C) {A : Option Addr} {n cap B : Nat} {w : World} (h : RdC w B A n cap L) (hB : B ≤ w.heap.size) (hn : n ≤ 10000) :
  Calls Tryz.prog 124 #[.slice A n cap] w (GotO (L.take 1) (L.drop 1) w) := by
 have hlen := h.len_le
 have HL := lh (show L.length ≤ 10000 by rw [h.1]; exact hn)
 have hcap := h.2.1
 obtain ⟨F, hF1, hF2, hF3, hF4⟩ : ∃ F : Nat, min (n : Int) 1 = (F : Int) ∧ F ≤ n ∧ L.take F = L.take 1 ∧ L.drop F = L.drop 1 := ⟨min n 1, by omega, by omega, by
  have := h.1
  rcases Nat.lt_or_ge 0 n with h0 | h0
  ·rw [show min n 1 = 1 by omega]
  ·rw [show L = [] from List.eq_nil_of_length_eq_zero (by omega)]; simp, by
  have := h.1
  rcases Nat.lt_or_ge 0 n with h0 | h0
  ·rw [show min n 1 = 1 by omega]
  ·rw [show L = [] from List.eq_nil_of_length_eq_zero (by omega)]; simp⟩
 obtain ⟨⟨A1, c1, e1, k1⟩, ⟨A2, c2, e2, k2⟩⟩ := cut_rows h F hF2
 obtain ⟨n2, hn2⟩ : ∃ n2, n - F = n2 := ⟨_, rfl⟩
 rw [hn2] at e2 k2
 rw [hF3] at k1
 rw [hF4] at k2
 have HT : Hid ((∀ w : World, (Instr.slice 29 (.slice A n cap) none (some (.int .i64 (min (n : Int) 1))) none).run Tryz.prog w = .ok (.slice A1 F c1) w) ∧ ∀ w : World, (Instr.slice 29 (.slice A n cap) (some (.int .i64 (min (n : Int) 1))) none none).run Tryz.prog w = .ok (.slice A2 n2 c2) w) := lh ⟨fun w => by
  rw [run_slice_h w _ A n cap (by kernel_rfl) .i64 _ (by omega) (by omega), hF1, Int.toNat_natCast, e1.symm]
  kernel_rfl, fun w => by
  rw [run_slice_l w _ A n cap (by kernel_rfl) .i64 _ (by omega) (by omega), hF1, Int.toNat_natCast, e2.symm]
  kernel_rfl⟩
 have R1 := lh k1
 have R2 := lh k2
 have HBB := lh hB
 clear h hB e1 e2 k1 k2 hF1 hF2 hF3 hF4 hn2 hcap
 go_enter Tryz.func124, Tryz.ntmps124
 go_upto_region 2 with fail
 obtain ⟨x1, x2, x3⟩ := k.boxes1 (w := w) (c1 := #[.slice none 0 0, .slice none 0 0]) (t1 := 31) (Below.refl _ _)
 generalize w.alloc (.cells #[.slice none 0 0, .slice none 0 0] 31) = w2 at x1 x2 x3 ⊢
 have S1 := lh (R1.out.below (x2.mono HBB.out))
 have S2 := lh (R2.out.below (x2.mono HBB.out))
 have X1 := lh x1
 have X2 := lh x2
 clear R1 R2 x1 x2
 refine wp_region_T (by kernel_rfl) (fun w' => True) [] trivial (fun hHeld => ?_)
 refine tk 0 rfl ?_ ?_ ?_
 rotate_left
 ·intro w_ hSw; clear hSw; skip; go_simp <;> (with_reducible rfl)
 try go_simp
 refine tk 1 rfl ?_ ?_ ?_
 rotate_left
 ·intro w_ hSw; clear hSw; skip; go_simp <;> (with_reducible rfl)
 try go_simp
 refine tk 2 rfl ?_ ?_ ?_
 rotate_left
 ·intro w_ hSw; clear hSw; have hS := HT.out.1; go_simp <;> (with_reducible rfl)
 try go_simp
 refine tk 4 rfl ?_ ?_ ?_
 rotate_left
 ·intro w_ hSw; clear hSw; skip; go_simp <;> (with_reducible rfl)
 try go_simp
 refine tk 5 rfl ?_ ?_ ?_
 rotate_left
 ·intro w_ hSw; clear hSw; skip; go_simp <;> (with_reducible rfl)
 try go_simp
 refine tk 6 rfl ?_ ?_ ?_
 rotate_left
 ·intro w_ hSw; clear hSw; have hS := HT.out.2; go_simp <;> (with_reducible rfl)
 try go_simp
 have x4 : w.heap.size + 1 ≤ w2.drew.heap.size := x3
 refine ry [3] ?_
 refine ar1 rfl fun K hK => ?_
 refine step_append_row cC_len (by omega) cC_one coms_slice com_info rfl (by omega) w2.drew rfl (.const (.slice none 0 0)) (.tmp 9) rfl (w.heap.size + 1) (.slice none 0 0) [] rfl (Ow.nil _ _ _ _ _) B A1 F c1 (L.take 1) rfl (S1.out.drewN 1) (by have := HL.out; simp; omega) x4 ?_
 intro v3 w3 hown hg hat
 have hb3 : Below (w.heap.size + 1) w2 w3 := (show Below (w.heap.size + 1) w2 w2.drew from (Below.refl _ _).drew).trans ((Ow.nil cC 7 62 w2.drew (w.heap.size + 1)).lays (Below.refl _ _) (Nat.le_refl _) x4 hg)
 have O3 : Hid (OwC w3 (w.heap.size + 1) v3 (L.take 1)) := lh hown
 have y3 : w.heap.size + 1 ≤ w3.heap.size := Nat.le_trans x3 hb3.size
 have X3 := lh (X2.out.trans (hb3.mono (Nat.le_succ _)))
 have Y3 := lh (X1.out.below hb3 (Nat.lt_succ_self _))
 have T2 := lh (S2.out.below (hb3.mono (Nat.le_trans HBB.out (Nat.le_succ _))))
 have HA : Hid (v3.ownBlock = none ∨ v3.ownBlock ≠ none) := lh (by cases v3.ownBlock <;> simp)
 clear hb3 hown hg hat S1 S2 X1 X2
 refine hK.out _ _ trivial (fun hHeld => ?_)
 clear hK K
 try go_simp
 refine ry [7] ?_
 refine ar1 rfl fun K hK => ?_
 refine step_append_row cC_len (by omega) cC_one coms_slice com_info rfl (by omega) w3 rfl (.const (.slice none 0 0)) (.tmp 13) rfl (w.heap.size + 1) (.slice none 0 0) [] rfl (Ow.nil _ _ _ _ _) B A2 n2 c2 (L.drop 1) rfl T2.out (by have := HL.out; simp; omega) y3 ?_
 intro v4 w4 hown hg hat
 have hb4 : Below (w.heap.size + 1) w3 w4 := (Ow.nil cC 7 62 w3 (w.heap.size + 1)).lays (Below.refl _ _) (Nat.le_refl _) y3 hg
 have O4 : Hid (OwC w4 (w.heap.size + 1) v4 (L.drop 1)) := lh hown
 have P4 : Hid (OwC w4 (w.heap.size + 1) v3 (L.take 1)) := lh (O3.out.kept hg (by cases h : v3.ownBlock with | none => exact .inl rfl | some g => exact .inr (by simp [Value.ownBlock])))
 have y4 : w.heap.size < w4.heap.size := Nat.lt_of_lt_of_le y3 hb4.size
 have X4 := lh (X3.out.trans (hb4.mono (Nat.le_succ _)))
 have Y4 := lh (Y3.out.below hb4 (Nat.lt_succ_self _))
 clear hb4 hown hg hat T2 O3 X3 Y3 HA
 obtain ⟨B1, m1, d1, rfl⟩ := ow_form P4.out
 obtain ⟨B2, m2, d2, rfl⟩ := ow_form O4.out
 refine hK.out _ _ trivial (fun hHeld => ?_)
 clear hK K
 try go_simp
 refine tk 8 rfl ?_ ?_ ?_
 rotate_left
 ·intro w_ hSw; clear hSw; skip; go_simp <;> (with_reducible rfl)
 try go_simp
 have ⟨b0, bf0⟩ := k.cell_of Y4.out (i := 0) rfl
 have ⟨b1, bf1⟩ := k.cell_of Y4.out (i := 1) rfl
 refine ry [9] ?_
 refine ar1 rfl fun K hK => ?_
 go_simp
 have Z0 := k.Box.put (k.Box.put Y4.out 0 (by simp) (.slice B1 m1 d1)) 1 (by simp) (.slice B2 m2 d2)
 have Q1 := lh (ow_set (i := 1) (ow_set (i := 0) P4.out (Nat.lt_succ_self _) (.slice B1 m1 d1)) (Nat.lt_succ_self _) (.slice B2 m2 d2))
 have Q2 := lh (ow_set (i := 1) (ow_set (i := 0) O4.out (Nat.lt_succ_self _) (.slice B1 m1 d1)) (Nat.lt_succ_self _) (.slice B2 m2 d2))
 have Q3 := lh ((X4.out.setCell (p := ⟨w.heap.size, 0, none⟩) (Nat.le_refl _) (.slice B1 m1 d1)).setCell (p := ⟨w.heap.size, 1, none⟩) (Nat.le_refl _) (.slice B2 m2 d2))
 generalize ((w4.setCell ⟨w.heap.size, 0, none⟩ (.slice B1 m1 d1)).setCell ⟨w.heap.size, 1, none⟩ (.slice B2 m2 d2)) = w5 at Z0 Q1 Q2 Q3 ⊢
 have ZZ := lh Z0
 clear b0 bf0 b1 bf1 Z0 Y4 X4 P4 O4
 refine hK.out _ _ trivial (fun hHeld => ?_)
 clear hK K
 try go_simp
 refine wpAnyT_done (by kernel_rfl) ?_ _
 go_wp2
 refine bodyPost_ret (k.results_cell rfl rfl (run_loadVar_mid w5 w.heap.size 0 31 _ _ ZZ.out.range rfl rfl (by kernel_rfl))) rfl ?_
 exact ⟨_, _, _, _, _, _, rfl, Q1.out.base (Nat.le_succ _), by rw [← List.drop_one]; exact Q2.out.base (Nat.le_succ _), Q3.out⟩
end Go.Proofs.YtijlccblabadaaaGreat.ln
end
section
namespace Go.Proofs.YtijlccblabadaaaGreat.ln
open Go.ChangeShapes Go.WideShapes Go.ChangeAt Go.RowKit Go.Proofs.YtijlccblabadaaaGreat.k Go.Proofs.YtijlccblabadaaaGreat.rr
set_option linter.unusedVariables false
theorem any_iff (L : List C) : anyNo L = false ↔ ∀ c ∈ L, OkC c := by
 unfold anyNo
 rw [List.any_eq_false]
 exact ⟨fun h c hc => by have := h c hc; unfold noMode at this; simpa using this, fun h c hc => by have := h c hc; unfold noMode; simpa using this⟩
def Lens (n m : Nat) : Prop := n ≤ 1 ∧ m ≤ 4 ∧ (n = 1 ∨ m = 0)
theorem right_lens {N W : List C} (h : Lens N.length W.length) : rightL N W = (!anyNo N && !anyNo W) := by
 by_cases hr : RightL N W
 ·rw [right_yes hr, (any_iff N).2 fun c hc => hr.1 c (List.mem_append_left _ hc), (any_iff W).2 fun c hc => hr.1 c (List.mem_append_right _ hc)]
  rfl
 ·rw [right_no hr]
  cases h1 : anyNo N
  ·cases h2 : anyNo W
   ·refine absurd ⟨fun c hc => ?_, ?_, ?_, h.2.2⟩ hr
    ·rcases List.mem_append.1 hc with h | h
     ·exact (any_iff N).1 h1 c h
     ·exact (any_iff W).1 h2 c h
    ·have := h.1; omega
    ·have := h.2.1; omega
   ·rfl
  ·rfl
theorem right_else {N W : List C} (h : ¬ Lens N.length W.length) : rightL N W = false := right_no fun hr => h ⟨by have := hr.2.1; omega, by have := hr.2.2.1; omega, hr.2.2.2⟩
set_option maxHeartbeats 2000000 in
theorem right_free (N W : List C) {A A' : Option Addr} {n cap m cap' B : Nat} {w : World} (h : RdC w B A n cap N) (h2 : RdC w B A' m cap' W) (hB : B ≤ w.heap.size) :
  Calls Tryz.prog 33 #[lnV A n cap A' m cap'] w fun e w' => e = .returned (.bool (rightL N W)) ∧ Below w.heap.size w w' := by
 have hlen1 := h.len_le
 have hlen2 := h2.len_le
 have HNM := lh (show N.length = n ∧ W.length = m from ⟨h.1, h2.1⟩)
 obtain ⟨x1, x2, x3⟩ := k.boxes1 (w := w) (c1 := #[.slice A n cap, .slice A' m cap']) (t1 := 31) (Below.refl _ _)
 have X1 := lh x1
 have X2 := lh x2
 have C1 := lh fun (W' : World) (hb : Below B w W') => contains_any N (h.below hb) (Nat.le_trans hB hb.size)
 have C2 := lh fun (W' : World) (hb : Below B w W') => contains_any W (h2.below hb) (Nat.le_trans hB hb.size)
 have HB := lh hB
 clear h h2 hB x1 x2
 by_cases hl : Lens n m
 ·have HV := lh (right_lens (N := N) (W := W) (by rw [HNM.out.1, HNM.out.2]; exact hl))
  have k1 : (n : Int) ≤ 1 := by have := hl.1; omega
  have k2 : (m : Int) ≤ 4 := by have := hl.2.1; omega
  have k1b : decide (1 < (n : Int)) = false := decide_eq_false (by omega)
  have k2b : decide (4 < (m : Int)) = false := decide_eq_false (by omega)
  have HK : Hid (n = 1 ∨ m = 0) := lh hl.2.2
  clear hl
  have k3 : ((n : Int) == 0) = false ∨ (n = 0 ∧ m = 0) := by
   rcases Nat.lt_or_ge 0 n with h | h
   ·exact .inl (by rw [beq_eq_false_iff_ne]; omega)
   ·exact .inr ⟨by omega, by have := HK.out; omega⟩
  go_enter Tryz.func33, Tryz.ntmps33
  go_upto_region 1 with fail
  generalize w.alloc (.cells #[.slice A n cap, .slice A' m cap'] 31) = w2 at X1 X2 x3 ⊢
  have ⟨c0, _⟩ := k.cell_of X1.out (i := 0) rfl
  have ⟨c1, _⟩ := k.cell_of X1.out (i := 1) rfl
  rcases k3 with k3 | ⟨k3, k4⟩
  ·go_upto_region 3 with fail
   go_wp2_with (go_at_call 56; fail)
   refine (C1.out _ (X2.out.mono HB.out)).mono ?_
   rintro e w3 ⟨rfl, hb⟩
   have X3 := lh (X2.out.trans (hb.mono X2.out.size))
   have ⟨d0, _⟩ := k.cell_of (X1.out.below hb x3) (i := 0) rfl
   have ⟨d1, _⟩ := k.cell_of (X1.out.below hb x3) (i := 1) rfl
   clear hb c0 c1 X1 X2 C1
   cases h1 : anyNo N
   ·rw [h1] at HV
    clear h1
    go_wp2_with (go_at_call 56; fail)
    refine (C2.out _ (X3.out.mono HB.out)).mono ?_
    rintro e w4 ⟨rfl, hb⟩
    have X4 := lh (X3.out.trans (hb.mono X3.out.size))
    clear hb d0 d1 X3 C2
    go_wp2
    go_ret
    exact ⟨ret_bool (by rw [HV.out]; rfl), X4.out⟩
   ·rw [h1] at HV
    clear h1
    go_wp2
    go_ret
    exact ⟨ret_bool (by rw [HV.out]; rfl), X3.out⟩
  ·subst k3 k4
   go_upto_region 3 with fail
   go_wp2_with (go_at_call 56; fail)
   refine (C1.out _ (X2.out.mono HB.out)).mono ?_
   rintro e w3 ⟨rfl, hb⟩
   have X3 := lh (X2.out.trans (hb.mono X2.out.size))
   have ⟨d0, _⟩ := k.cell_of (X1.out.below hb x3) (i := 0) rfl
   have ⟨d1, _⟩ := k.cell_of (X1.out.below hb x3) (i := 1) rfl
   clear hb c0 c1 X1 X2 C1
   cases h1 : anyNo N
   ·rw [h1] at HV
    clear h1
    go_wp2_with (go_at_call 56; fail)
    refine (C2.out _ (X3.out.mono HB.out)).mono ?_
    rintro e w4 ⟨rfl, hb⟩
    have X4 := lh (X3.out.trans (hb.mono X3.out.size))
    clear hb d0 d1 X3 C2
    go_wp2
    go_ret
    exact ⟨ret_bool (by rw [HV.out]; rfl), X4.out⟩
   ·rw [h1] at HV
    clear h1
    go_wp2
    go_ret
    exact ⟨ret_bool (by rw [HV.out]; rfl), X3.out⟩
 ·have HV := lh (right_else (N := N) (W := W) (by rw [HNM.out.1, HNM.out.2]; exact hl))
  have HK : Hid (1 < n ∨ (n ≤ 1 ∧ 4 < m) ∨ (n = 0 ∧ 0 < m ∧ m ≤ 4)) := lh (by unfold Lens at hl; omega)
  clear hl C1 C2
  go_enter Tryz.func33, Tryz.ntmps33
  go_upto_region 1 with fail
  generalize w.alloc (.cells #[.slice A n cap, .slice A' m cap'] 31) = w2 at X1 X2 x3 ⊢
  have ⟨c0, _⟩ := k.cell_of X1.out (i := 0) rfl
  have ⟨c1, _⟩ := k.cell_of X1.out (i := 1) rfl
  rcases HK.out with k1 | ⟨k1, k2⟩ | ⟨k1, k2, k3⟩
  ·have i1 : (1 : Int) < (n : Int) := by omega
   clear k1 HK
   go_wp2
   go_ret
   exact ⟨ret_bool HV.out.symm, X2.out⟩
  ·have i1 : (n : Int) ≤ 1 := by omega
   have i2 : (4 : Int) < (m : Int) := by omega
   have i3 : decide (1 < (n : Int)) = false := decide_eq_false (by omega)
   clear k1 k2 HK
   go_wp2
   go_ret
   exact ⟨ret_bool HV.out.symm, X2.out⟩
  ·subst k1
   have i2 : (m : Int) ≤ 4 := by omega
   have i4 : decide (4 < (m : Int)) = false := decide_eq_false (by omega)
   have i3 : (0 : Int) < (m : Int) := by omega
   clear k2 k3 HK
   go_wp2
   go_ret
   exact ⟨ret_bool HV.out.symm, X2.out⟩
theorem right_any (N W : List C) {A A' : Option Addr} {n cap m cap' B : Nat} {w : World} (h : RdC w B A n cap N) (h2 : RdC w B A' m cap' W) (hB : B ≤ w.heap.size) (hn : n ≤ 1000) (hm : m ≤ 1000) :
  Calls Tryz.prog 33 #[lnV A n cap A' m cap'] w fun e w' => e = .returned (.bool (rightL N W)) ∧ Below w.heap.size w w' :=
 right_free N W h h2 hB
def allL (N W : List C) : List C := if RightL N W then N ++ W else []
theorem all_yes {N W : List C} (h : RightL N W) : allL N W = N ++ W := if_pos h
theorem all_no {N W : List C} (h : ¬ RightL N W) : allL N W = [] := if_neg h
set_option maxHeartbeats 2000000 in
theorem commands_any (N W : List C) {A A' : Option Addr} {n cap m cap' B : Nat} {w : World} (h : RdC w B A n cap N) (h2 : RdC w B A' m cap' W) (hB : B ≤ w.heap.size) (hn : n ≤ 1000) (hm : m ≤ 1000) :
  Calls Tryz.prog 123 #[lnV A n cap A' m cap'] w fun e w' => ∃ v, e = .returned v ∧ OwC w' w.heap.size v (allL N W) ∧ Below w.heap.size w w' := by
 obtain ⟨x1, x2, x3⟩ := k.boxes1 (w := w) (c1 := #[.slice A n cap, .slice A' m cap']) (t1 := 31) (Below.refl _ _)
 have X1 := lh x1
 have X2 := lh x2
 have C1 := lh fun (W' : World) (hb : Below B w W') => right_any N W (h.below hb) (h2.below hb) (Nat.le_trans hB hb.size) hn hm
 have C2 := lh fun (W' : World) (g : Nat) (hb : Below B w W') (hg : g < W'.heap.size) (ht : Two W' g A n cap A' m cap') => concat_any N W (h.below hb) (h2.below hb) (Nat.le_trans hB hb.size) hg ht hn hm
 have HB := lh hB
 clear h h2 hB x1 x2 hn hm
 go_enter Tryz.func123, Tryz.ntmps123
 go_upto_region 1 with fail
 generalize w.alloc (.cells #[.slice A n cap, .slice A' m cap'] 31) = w2 at X1 X2 x3 ⊢
 have ⟨c0, _⟩ := k.cell_of X1.out (i := 0) rfl
 have ⟨c1, _⟩ := k.cell_of X1.out (i := 1) rfl
 go_wp2_with (go_at_call 33; fail)
 refine (C1.out _ (X2.out.mono HB.out)).mono ?_
 rintro e w3 ⟨rfl, hb⟩
 have X3 := lh (X2.out.trans (hb.mono X2.out.size))
 have ⟨d0, _⟩ := k.cell_of (X1.out.below hb x3) (i := 0) rfl
 have ⟨d1, _⟩ := k.cell_of (X1.out.below hb x3) (i := 1) rfl
 clear hb c0 c1 X1 X2 C1 x3
 by_cases hr : RightL N W
 ·have HV := lh (all_yes hr)
  rw [right_yes hr]
  clear hr
  go_wp2_with (go_at_call 146; fail)
  have hb4 := (Below.refl w3.heap.size w3).alloc (Nat.le_refl _) (.cells #[.slice A n cap, .slice A' m cap'] 29)
  have hs : w3.heap.size < (w3.alloc (.cells #[.slice A n cap, .slice A' m cap'] 29)).heap.size := by simp
  refine (C2.out _ w3.heap.size ((X3.out.trans (hb4.mono X3.out.size)).mono HB.out) hs ⟨(World.cell?_alloc_mark _ _ _ _ 0).trans (by simp), (World.cell?_alloc_mark _ _ _ _ 1).trans (by simp)⟩).mono ?_
  rintro e w5 ⟨v, rfl, ho, hb5⟩
  have X5 := lh ((X3.out.trans (hb4.mono X3.out.size)).trans (hb5.mono (Nat.le_trans X3.out.size hb4.size)))
  have HO := lh (ho.base (Nat.le_trans X3.out.size hb4.size))
  clear hb4 hs ho hb5 X3 d0 d1 C2
  go_wp2
  go_ret
  exact ⟨_, rfl, by rw [HV.out]; exact HO.out, X5.out⟩
 ·have HV := lh (all_no hr)
  rw [right_no hr]
  clear hr
  go_wp2
  go_ret
  exact ⟨_, rfl, by rw [HV.out]; exact Ow.nil _ _ _ _ _, X3.out⟩
end Go.Proofs.YtijlccblabadaaaGreat.ln
end
section
namespace Go.Proofs.YtijlccblabadaaaGreat.ln
open Go.ChangeShapes Go.WideShapes Go.ChangeAt Go.RowKit Go.Proofs.YtijlccblabadaaaGreat.k Go.Proofs.YtijlccblabadaaaGreat.rr
set_option linter.unusedVariables false
def New (w : World) (A : Option Addr) : Prop := ∀ b o x, A = some ⟨b, o, x⟩ → w.heap.size ≤ b
theorem new_none (w : World) : New w none := fun _ _ _ h => by cases h
theorem new_of {α : Type} {enc : α → List Value} {z : Nat} {t : TypeId} {w w' : World} {base n c : Nat} {A : Option Addr} {L : List α} (h : Ow enc z t w' base (.slice A n c) L) (hb : w.heap.size ≤ base) : New w A := fun b o x e => by
 rcases h.2 with ⟨h1, _⟩ | ⟨g, cap, cur, h1, h2, _⟩
 ·injection h1 with h1; rw [h1] at e; cases e
 ·injection h1 with h1
  rw [h1] at e
  injection e with e
  injection e with e1
  have := (h.lt g (by rw [h1]; rfl)).1
  omega
def GotAn (N W : List C) (I : List Int) (er : Int) (w : World) (e : Ending) (w' : World) : Prop :=
 ∃ A n c A' m c' D k d, e = .returned (.tuple #[lnV A n c A' m c', .slice D k d, .int .i64 er]) ∧ RdC w' w'.heap.size A n c N ∧ RdC w' w'.heap.size A' m c' W ∧ RdI w' w'.heap.size D k d I ∧ Below w.heap.size w w' ∧ New w A ∧ New w A' ∧ New w D
def GotEn (N W : List C) (id : Int) (w : World) (e : Ending) (w' : World) : Prop :=
 ∃ A n c A' m c', e = .returned (.tuple #[lnV A n c A' m c', .int .i64 id]) ∧ RdC w' w'.heap.size A n c N ∧ RdC w' w'.heap.size A' m c' W ∧ Below w.heap.size w w' ∧ New w A ∧ New w A'
def GotIn (N W : List C) (I : List Int) (w : World) (e : Ending) (w' : World) : Prop :=
 ∃ A n c A' m c' D k d, e = .returned (.tuple #[lnV A n c A' m c', .slice D k d]) ∧ RdC w' w'.heap.size A n c N ∧ RdC w' w'.heap.size A' m c' W ∧ RdI w' w'.heap.size D k d I ∧ Below w.heap.size w w' ∧ New w A ∧ New w A' ∧ New w D
end Go.Proofs.YtijlccblabadaaaGreat.ln
end
section
namespace Go.Proofs.YtijlccblabadaaaGreat.ln
set_option maxRecDepth 100000
open Go.ChangeShapes Go.WideShapes Go.ChangeAt Go.RowKit Go.Proofs.YtijlccblabadaaaGreat.k Go.Proofs.YtijlccblabadaaaGreat.rr
set_option linter.unusedVariables false
theorem right_cases {N W : List C} (h : RightL N W) : (N = [] ∧ W = []) ∨ ∃ c, N = [c] := by
 obtain ⟨_, h1, _, h3⟩ := h
 match N, h1, h3 with
 | [], _, h3 => exact .inl ⟨rfl, List.eq_nil_of_length_eq_zero (by simpa using h3)⟩
 | [c], _, _ => exact .inr ⟨c, rfl⟩
 | _ :: _ :: t, h1, _ => exact absurd h1 (by simp only [List.length_cons]; omega)
theorem end_nil {N W : List C} (h : allL N W = []) : endN N W = [] ∧ endW N W = [] ∧ endI N W = 0 := by
 unfold endN endW endI
 by_cases hr : RightL N W
 ·rw [all_yes hr] at h
  obtain ⟨rfl, rfl⟩ := List.append_eq_nil_iff.1 h
  simp
 ·simp [hr]
theorem end_cons {N W R : List C} {c : C} (h : allL N W = c :: R) : endN N W = R.take 1 ∧ endW N W = R.drop 1 ∧ endI N W = c.id := by
 unfold endN endW endI
 by_cases hr : RightL N W
 ·rw [all_yes hr] at h
  rcases right_cases hr with ⟨rfl, rfl⟩ | ⟨x, rfl⟩
  ·cases h
  ·have h1 : x = c ∧ W = R := by simpa using h
   obtain ⟨rfl, rfl⟩ := h1
   simp [hr]
 ·rw [all_no hr] at h; cases h
theorem clear_all (N W : List C) : clearI N W = ids (allL N W) := by
 unfold clearI allL
 split <;> rfl
theorem last_nil {N W : List C} (h : allL N W = []) : lastC N W = zeroC ∧ lastB N W = false := by
 unfold lastC lastB
 by_cases hr : RightL N W
 ·rw [all_yes hr] at h
  rw [h]
  simp
 ·simp [hr]
theorem last_at {N W : List C} {x : C} {j : Nat} (hl : (allL N W).length = j + 1) (h : (allL N W)[j]? = some x) : lastC N W = x ∧ lastB N W = true := by
 unfold lastC lastB
 by_cases hr : RightL N W
 ·rw [all_yes hr] at h hl
  rw [if_pos hr, List.getLast?_eq_getElem?, hl, Nat.add_sub_cancel, h]
  exact ⟨rfl, decide_eq_true ⟨hr, by omega⟩⟩
 ·rw [all_no hr] at h; simp at h
theorem next_no {N W : List C} (h : (allL N W).length < 2) : nextC N W = zeroC ∧ nextB N W = false := by
 unfold nextC nextB
 by_cases hr : RightL N W
 ·rw [all_yes hr] at h
  rw [if_pos hr]
  refine ⟨?_, decide_eq_false fun h2 => by omega⟩
  rcases right_cases hr with ⟨rfl, rfl⟩ | ⟨x, rfl⟩
  ·rfl
  ·have h1 : W = [] := List.eq_nil_of_length_eq_zero (by simp at h; omega)
   subst h1; rfl
 ·simp [hr]
theorem next_at {N W : List C} {x : C} (h : (allL N W)[1]? = some x) : nextC N W = x ∧ nextB N W = true := by
 unfold nextC nextB
 by_cases hr : RightL N W
 ·rw [all_yes hr] at h
  have hl := (List.getElem?_eq_some_iff.1 h).1
  rw [if_pos hr]
  refine ⟨?_, decide_eq_true ⟨hr, by omega⟩⟩
  rcases right_cases hr with ⟨rfl, rfl⟩ | ⟨y, rfl⟩
  ·simp at h
  ·cases W with
   | nil => simp at h
   | cons z W => simpa using h
 ·rw [all_no hr] at h; simp at h
theorem com_put {w : World} {g : Nat} {vs : List Value} (c : C) (h : k.Box w g 0 vs) (hl : vs.length = 7) : k.Box (k.puts w g 0 (cC c)) g 0 (cC c) ∧ ∀ B, B ≤ g → Below B w (k.puts w g 0 (cC c)) := by
 obtain ⟨h1, _, h3⟩ := k.Box.puts (us := cC c) h (by rw [hl]; rfl)
 exact ⟨h1, h3⟩
set_option maxHeartbeats 2000000 in
theorem clear_own (N W : List C) {A A' : Option Addr} {n cap m cap' B : Nat} {w : World} (h : RdC w B A n cap N) (h2 : RdC w B A' m cap' W) (hB : B ≤ w.heap.size) (hn : n ≤ 1000) (hm : m ≤ 1000) :
  Calls Tryz.prog 119 #[lnV A n cap A' m cap'] w (GotIn [] [] (clearI N W) w) := by
 obtain ⟨x1, x2, x3, x4⟩ := k.boxes2 (w := w) (c1 := #[.slice A n cap, .slice A' m cap']) (t1 := 31) (c2 := #[.slice none 0 0, .slice none 0 0]) (t2 := 31) (Below.refl _ _)
 have X1 := lh x1
 have X2 := lh x2
 have X3 := lh x3
 have C1 := lh fun (W' : World) (hb : Below B w W') => commands_any N W (h.below hb) (h2.below hb) (Nat.le_trans hB hb.size) hn hm
 have HB := lh hB
 have HV := lh (clear_all N W)
 have HL : Hid ((allL N W).length ≤ 10000) := lh (by
  have h3 := h.1
  have h4 := h2.1
  unfold allL
  split
  ·rw [List.length_append]; omega
  ·simp)
 clear h h2 hB x1 x2 x3 hn hm
 generalize allL N W = L at C1 HV HL
 go_enter Tryz.func119, Tryz.ntmps119
 go_upto_region 1 with fail
 generalize (w.alloc (.cells #[.slice A n cap, .slice A' m cap'] 31)).alloc (.cells #[.slice none 0 0, .slice none 0 0] 31) = w2 at X1 X2 X3 x4 ⊢
 have ⟨c0, _⟩ := k.cell_of X1.out (i := 0) rfl
 have ⟨c1, _⟩ := k.cell_of X1.out (i := 1) rfl
 go_wp2_with (go_at_call 123; fail)
 refine (C1.out _ (X3.out.mono HB.out)).mono ?_
 rintro e w3 ⟨v3, rfl, ho, hb⟩
 have Y3 := lh (X3.out.trans (hb.mono X3.out.size))
 have Y2 := lh (X2.out.below hb x4)
 have y4 : w.heap.size + 1 < w3.heap.size := Nat.lt_of_lt_of_le x4 hb.size
 obtain ⟨D, k1, d, rfl⟩ := ow_form ho
 have R3 := lh (ow_row ho)
 clear hb ho c0 c1 X1 X2 X3 x4 C1
 go_wp2_with (go_at_call 125; fail)
 refine (lids_any L R3.out (Nat.le_refl _) (by rw [← R3.out.1]; exact HL.out)).mono ?_
 rintro e w4 ⟨v4, rfl, ho, hb⟩
 have Z3 := lh (Y3.out.trans (hb.mono Y3.out.size))
 have Z2 := lh (Y2.out.below hb y4)
 obtain ⟨D4, k4, d4, rfl⟩ := oi_val ho
 have N4 := lh (new_of (w := w) ho (Nat.le_of_lt (Nat.lt_of_le_of_lt (Nat.le_add_right _ 1) y4)))
 have R4 := lh (oi_rows (ow_set (i := 1) (ow_set (i := 0) ho y4 (.slice none 0 0)) y4 (.slice none 0 0)))
 have ⟨z0, zf0⟩ := k.cell_of Z2.out (i := 0) rfl
 have ⟨z1, zf1⟩ := k.cell_of Z2.out (i := 1) rfl
 clear hb ho Y2 Y3 y4 R3
 go_wp2
 have V := k.Box.put (k.Box.put Z2.out 0 (by simp) (.slice none 0 0)) 1 (by simp) (.slice none 0 0)
 refine bodyPost_ret (k.results_cell_tmp rfl rfl (run_loadVar_mid _ (w.heap.size + 1) 0 31 _ _ V.range rfl rfl (by kernel_rfl))) rfl ⟨none, 0, 0, none, 0, 0, D4, k4, d4, rfl, Rd.none_ _ _ _ _, Rd.none_ _ _ _ _, by rw [HV.out]; exact R4.out, (Z3.out.setCell (by show w.heap.size ≤ w.heap.size + 1; omega) _).setCell (by show w.heap.size ≤ w.heap.size + 1; omega) _, new_none _, new_none _, N4.out⟩
set_option maxHeartbeats 2000000 in
theorem last_any (N W : List C) {A A' : Option Addr} {n cap m cap' B : Nat} {w : World} (h : RdC w B A n cap N) (h2 : RdC w B A' m cap' W) (hB : B ≤ w.heap.size) (hn : n ≤ 1000) (hm : m ≤ 1000) :
  Calls Tryz.prog 145 #[lnV A n cap A' m cap'] w (GotC (lastC N W) (lastB N W) w) := by
 obtain ⟨x1, x2, x3, x4⟩ := k.boxes2 (w := w) (c1 := #[.slice A n cap, .slice A' m cap']) (t1 := 31) (c2 := (cC zeroC).toArray) (t2 := 62) (Below.refl _ _)
 have X1 := lh x1
 have X2 := lh x2
 have X3 := lh x3
 have C1 := lh fun (W' : World) (hb : Below B w W') => commands_any N W (h.below hb) (h2.below hb) (Nat.le_trans hB hb.size) hn hm
 have HB := lh hB
 have HV1 := lh fun h => last_nil (N := N) (W := W) h
 have HV2 := lh fun x j hl h => last_at (N := N) (W := W) (x := x) (j := j) hl h
 clear h h2 hB x1 x2 x3 hn hm
 generalize lastC N W = lc at HV1 HV2 ⊢
 generalize lastB N W = lb at HV1 HV2 ⊢
 generalize allL N W = L at C1 HV1 HV2
 go_enter Tryz.func145, Tryz.ntmps145
 go_upto_region 1 with fail
 rw [show (w.alloc (.cells #[.slice A n cap, .slice A' m cap'] 31)).alloc (.cells #[.int .i64 0, .int .i64 0, .int .i64 0, .int .i64 0, .int .i64 0, .int .i64 0, .int .i64 0] 62) = (w.alloc (.cells #[.slice A n cap, .slice A' m cap'] 31)).alloc (.cells (cC zeroC).toArray 62) from rfl]
 generalize (w.alloc (.cells #[.slice A n cap, .slice A' m cap'] 31)).alloc (.cells (cC zeroC).toArray 62) = w2 at X1 X2 X3 x4 ⊢
 have ⟨c0, _⟩ := k.cell_of X1.out (i := 0) rfl
 have ⟨c1, _⟩ := k.cell_of X1.out (i := 1) rfl
 go_wp2_with (go_at_call 123; fail)
 refine (C1.out _ (X3.out.mono HB.out)).mono ?_
 rintro e w3 ⟨v3, rfl, ho, hb⟩
 have Y3 := lh (X3.out.trans (hb.mono X3.out.size))
 have Y2 := lh (X2.out.below hb x4)
 obtain ⟨D, k1, d, rfl⟩ := ow_form ho
 have R3 := lh (ow_row ho)
 have hlen := R3.out.len_le
 clear hb ho c0 c1 X1 X2 X3 x4 C1
 have ⟨c0, f0, c1, f1, c2, f2, c3, f3, c4, f4, c5, f5, c6, f6, _⟩ := Y2.out
 by_cases h0 : k1 = 0
 ·subst h0
  obtain ⟨rfl, rfl⟩ := HV1.out (List.eq_nil_of_length_eq_zero R3.out.1)
  obtain ⟨P1, P2⟩ := com_put zeroC Y2.out rfl
  have Q1 := lh P1
  have Q2 := lh (Y3.out.trans (P2 _ (show w.heap.size ≤ w.heap.size + 1 by omega)))
  clear P1 P2 R3 Y2 Y3 HV1 HV2
  go_wp2
  refine bodyPost_ret (k.results_cell_tmp rfl rfl (run_loadVar_mid (k.puts w3 (w.heap.size + 1) 0 (cC zeroC)) (w.heap.size + 1) 0 62 _ _ Q1.out.range rfl rfl (by kernel_rfl))) rfl ⟨rfl, Q2.out⟩
 ·obtain ⟨b, o, x, rfl, hb', hx, hr⟩ := R3.out.at (i := k1 - 1) (by omega)
  obtain ⟨rfl, rfl⟩ := HV2.out x (k1 - 1) (by rw [R3.out.1]; omega) hx
  obtain ⟨g0, g1, g2, g3, g4, g5, g6⟩ := cells_com hr
  have i0 : ((k1 : Int) == 0) = false := by rw [beq_eq_false_iff_ne]; omega
  have i1 : IntKind.i64.wrap ((k1 : Int) - 1) = ((k1 - 1 : Nat) : Int) := by rw [IntKind.wrap_i64]; omega
  have i2 : ((k1 - 1 : Nat) : Int) < (k1 : Int) := by omega
  have i3 : (0 : Int) ≤ ((k1 - 1 : Nat) : Int) := by omega
  obtain ⟨P1, P2⟩ := com_put lc Y2.out rfl
  have Q1 := lh P1
  have Q2 := lh (Y3.out.trans (P2 _ (show w.heap.size ≤ w.heap.size + 1 by omega)))
  clear P1 P2 R3 Y2 Y3 HV1 HV2 hx hr h0
  generalize k1 - 1 = j at i1 i2 i3 g0 g1 g2 g3 g4 g5 g6
  go_wp2
  refine bodyPost_ret (k.results_cell_tmp rfl rfl (run_loadVar_mid (k.puts w3 (w.heap.size + 1) 0 (cC lc)) (w.heap.size + 1) 0 62 _ _ Q1.out.range rfl rfl (by kernel_rfl))) rfl ⟨rfl, Q2.out⟩
set_option maxHeartbeats 2000000 in
theorem next_any (N W : List C) {A A' : Option Addr} {n cap m cap' B : Nat} {w : World} (h : RdC w B A n cap N) (h2 : RdC w B A' m cap' W) (hB : B ≤ w.heap.size) (hn : n ≤ 1000) (hm : m ≤ 1000) :
  Calls Tryz.prog 135 #[lnV A n cap A' m cap'] w (GotC (nextC N W) (nextB N W) w) := by
 obtain ⟨x1, x2, x3, x4⟩ := k.boxes2 (w := w) (c1 := #[.slice A n cap, .slice A' m cap']) (t1 := 31) (c2 := (cC zeroC).toArray) (t2 := 62) (Below.refl _ _)
 have X1 := lh x1
 have X2 := lh x2
 have X3 := lh x3
 have C1 := lh fun (W' : World) (hb : Below B w W') => commands_any N W (h.below hb) (h2.below hb) (Nat.le_trans hB hb.size) hn hm
 have HB := lh hB
 have HV1 := lh fun h => next_no (N := N) (W := W) h
 have HV2 := lh fun x h => next_at (N := N) (W := W) (x := x) h
 clear h h2 hB x1 x2 x3 hn hm
 generalize nextC N W = lc at HV1 HV2 ⊢
 generalize nextB N W = lb at HV1 HV2 ⊢
 generalize allL N W = L at C1 HV1 HV2
 go_enter Tryz.func135, Tryz.ntmps135
 go_upto_region 1 with fail
 rw [show (w.alloc (.cells #[.slice A n cap, .slice A' m cap'] 31)).alloc (.cells #[.int .i64 0, .int .i64 0, .int .i64 0, .int .i64 0, .int .i64 0, .int .i64 0, .int .i64 0] 62) = (w.alloc (.cells #[.slice A n cap, .slice A' m cap'] 31)).alloc (.cells (cC zeroC).toArray 62) from rfl]
 generalize (w.alloc (.cells #[.slice A n cap, .slice A' m cap'] 31)).alloc (.cells (cC zeroC).toArray 62) = w2 at X1 X2 X3 x4 ⊢
 have ⟨c0, _⟩ := k.cell_of X1.out (i := 0) rfl
 have ⟨c1, _⟩ := k.cell_of X1.out (i := 1) rfl
 go_wp2_with (go_at_call 123; fail)
 refine (C1.out _ (X3.out.mono HB.out)).mono ?_
 rintro e w3 ⟨v3, rfl, ho, hb⟩
 have Y3 := lh (X3.out.trans (hb.mono X3.out.size))
 have Y2 := lh (X2.out.below hb x4)
 obtain ⟨D, k1, d, rfl⟩ := ow_form ho
 have R3 := lh (ow_row ho)
 have hlen := R3.out.len_le
 clear hb ho c0 c1 X1 X2 X3 x4 C1
 have ⟨c0, f0, c1, f1, c2, f2, c3, f3, c4, f4, c5, f5, c6, f6, _⟩ := Y2.out
 by_cases h0 : k1 < 2
 ·have i0 : (k1 : Int) < 2 := by omega
  obtain ⟨rfl, rfl⟩ := HV1.out (by rw [R3.out.1]; exact h0)
  obtain ⟨P1, P2⟩ := com_put zeroC Y2.out rfl
  have Q1 := lh P1
  have Q2 := lh (Y3.out.trans (P2 _ (show w.heap.size ≤ w.heap.size + 1 by omega)))
  clear P1 P2 R3 Y2 Y3 HV1 HV2 h0
  go_wp2
  refine bodyPost_ret (k.results_cell_tmp rfl rfl (run_loadVar_mid (k.puts w3 (w.heap.size + 1) 0 (cC zeroC)) (w.heap.size + 1) 0 62 _ _ Q1.out.range rfl rfl (by kernel_rfl))) rfl ⟨rfl, Q2.out⟩
 ·obtain ⟨b, o, x, rfl, hb', hx, hr⟩ := R3.out.at (i := 1) (by omega)
  obtain ⟨rfl, rfl⟩ := HV2.out x hx
  rw [Nat.one_mul] at hr
  obtain ⟨g0, g1, g2, g3, g4, g5, g6⟩ := cells_com hr
  have i0 : decide ((k1 : Int) < 2) = false := decide_eq_false (by omega)
  have i1 : (1 : Int) < (k1 : Int) := by omega
  have i2 : (2 : Int) ≤ (k1 : Int) := by omega
  obtain ⟨P1, P2⟩ := com_put lc Y2.out rfl
  have Q1 := lh P1
  have Q2 := lh (Y3.out.trans (P2 _ (show w.heap.size ≤ w.heap.size + 1 by omega)))
  clear P1 P2 R3 Y2 Y3 HV1 HV2 hx hr h0
  go_wp2
  refine bodyPost_ret (k.results_cell_tmp rfl rfl (run_loadVar_mid (k.puts w3 (w.heap.size + 1) 0 (cC lc)) (w.heap.size + 1) 0 62 _ _ Q1.out.range rfl rfl (by kernel_rfl))) rfl ⟨rfl, Q2.out⟩
end Go.Proofs.YtijlccblabadaaaGreat.ln
end
section
namespace Go.Proofs.YtijlccblabadaaaGreat.ln
set_option maxRecDepth 100000
open Go.ChangeShapes Go.WideShapes Go.ChangeAt Go.RowKit Go.Proofs.YtijlccblabadaaaGreat.k Go.Proofs.YtijlccblabadaaaGreat.rr
set_option linter.unusedVariables false
set_option maxRecDepth 100000 in
set_option maxHeartbeats 4000000 in
theorem end_own (N W : List C) {A A' : Option Addr} {n cap m cap' B : Nat} {w : World} (h : RdC w B A n cap N) (h2 : RdC w B A' m cap' W) (hB : B ≤ w.heap.size) (hn : n ≤ 1000) (hm : m ≤ 1000) :
  Calls Tryz.prog 118 #[lnV A n cap A' m cap'] w (GotEn (endN N W) (endW N W) (endI N W) w) := by
 obtain ⟨x1, x2, x3, x4⟩ := k.boxes2 (w := w) (c1 := #[.slice A n cap, .slice A' m cap']) (t1 := 31) (c2 := #[.slice none 0 0, .slice none 0 0]) (t2 := 31) (Below.refl _ _)
 have X1 := lh x1
 have X2 := lh x2
 have X3 := lh x3
 have C1 := lh fun (W' : World) (hb : Below B w W') => commands_any N W (h.below hb) (h2.below hb) (Nat.le_trans hB hb.size) hn hm
 have HB := lh hB
 have HV1 := lh fun h => end_nil (N := N) (W := W) h
 have HV2 := lh fun c R h => end_cons (N := N) (W := W) (c := c) (R := R) h
 have HL : Hid ((allL N W).length ≤ 2000) := lh (by
  have h3 := h.1
  have h4 := h2.1
  unfold allL
  split
  ·rw [List.length_append]; omega
  ·simp)
 clear h h2 hB x1 x2 x3 hn hm
 generalize endN N W = eN at HV1 HV2 ⊢
 generalize endW N W = eW at HV1 HV2 ⊢
 generalize endI N W = eI at HV1 HV2 ⊢
 generalize allL N W = L at C1 HV1 HV2 HL
 go_enter Tryz.func118, Tryz.ntmps118
 go_upto_region 1 with fail
 generalize (w.alloc (.cells #[.slice A n cap, .slice A' m cap'] 31)).alloc (.cells #[.slice none 0 0, .slice none 0 0] 31) = w2 at X1 X2 X3 x4 ⊢
 have ⟨c0, _⟩ := k.cell_of X1.out (i := 0) rfl
 have ⟨c1, _⟩ := k.cell_of X1.out (i := 1) rfl
 go_wp2_with (go_at_call 123; fail)
 refine (C1.out _ (X3.out.mono HB.out)).mono ?_
 rintro e w3 ⟨v3, rfl, ho, hb⟩
 have Y3 := lh (X3.out.trans (hb.mono X3.out.size))
 have Y2 := lh (X2.out.below hb x4)
 have y4 : w.heap.size + 1 < w3.heap.size := Nat.lt_of_lt_of_le x4 hb.size
 obtain ⟨D, k1, d, rfl⟩ := ow_form ho
 have R3 := lh (ow_row ho)
 have HOB := lh fun g hg => (ho.lt g hg).1
 have x5 := x4
 clear hb ho c0 c1 X1 X2 X3 x4 C1
 have hlen := R3.out.len_le
 have ⟨z0, zf0⟩ := k.cell_of Y2.out (i := 0) rfl
 have ⟨z1, zf1⟩ := k.cell_of Y2.out (i := 1) rfl
 cases L with
 | nil =>
  have h0 : k1 = 0 := R3.out.1.symm
  subst h0
  obtain ⟨rfl, rfl, rfl⟩ := HV1.out rfl
  clear R3 HV1 HV2
  go_wp2
  have V := k.Box.put (k.Box.put Y2.out 0 (by simp) (.slice none 0 0)) 1 (by simp) (.slice none 0 0)
  refine bodyPost_ret (k.results_cell_tmp rfl rfl (run_loadVar_mid _ (w.heap.size + 1) 0 31 _ _ V.range rfl rfl (by kernel_rfl))) rfl ⟨none, 0, 0, none, 0, 0, rfl, Rd.none_ _ _ _ _, Rd.none_ _ _ _ _, (Y3.out.setCell (by show w.heap.size ≤ w.heap.size + 1; omega) _).setCell (by show w.heap.size ≤ w.heap.size + 1; omega) _, new_none _, new_none _⟩
 | cons c R =>
  obtain ⟨rfl, rfl, rfl⟩ := HV2.out c R rfl
  have hk : k1 = R.length + 1 := R3.out.1.symm
  have i0 : ((k1 : Int) == 0) = false := by rw [beq_eq_false_iff_ne]; omega
  have i1 : (0 : Int) < (k1 : Int) := by omega
  have i3 : 0 < k1 := by omega
  have i2 : (1 : Int) ≤ (k1 : Int) := by omega
  obtain ⟨b, o, x, e0, hb', hx, hr⟩ := R3.out.at (i := 0) (by omega)
  have ex : c = x := by simpa using hx
  subst ex
  rw [Nat.zero_mul, Nat.add_zero] at hr
  have g0 := (cells_com hr).1
  obtain ⟨_, ⟨A2, c2, e2, k2⟩⟩ := cut_rows R3.out 1 (by omega)
  obtain ⟨n2, hn2⟩ : ∃ n2, k1 - 1 = n2 := ⟨_, rfl⟩
  rw [hn2] at e2 k2
  have HT : Hid (∀ w : World, (Instr.slice 29 (.slice D k1 d) (some (.int .i64 1)) none none).run Tryz.prog w = .ok (.slice A2 n2 c2) w) := lh fun w => by
   rw [run_slice_l w _ D k1 d (by kernel_rfl) .i64 1 (by omega) (by omega), show (1 : Int).toNat = 1 from rfl, e2.symm]
   kernel_rfl
  subst e0
  have R2 : Hid (RdC w3 w3.heap.size A2 n2 c2 R) := lh k2
  have HN2 : Hid (n2 ≤ 2000) := lh (by have := HL.out; simp at this; omega)
  have HR0 := lh hb'
  clear hx hr e2 k2 hn2 R3 HV1 HV2 HL hk hb'
  go_upto_region 4 with fail
  refine wp_region_T (by kernel_rfl) (fun w' => w'.cell? ⟨b, o, none⟩ = some (.int .i64 c.id)) [] g0 (fun hHeld => ?_)
  refine tk0 0 rfl ?_ ?_ ?_
  rotate_left
  ·intro; go_simp <;> with_reducible rfl
  try go_simp
  refine tk 1 rfl ?_ ?_ ?_
  rotate_left
  ·intro w_ hSw; clear hSw; have hS := HT.out; go_simp <;> (with_reducible rfl)
  try go_simp
  refine tk0 3 rfl ?_ ?_ ?_
  rotate_left
  ·intro; go_simp <;> with_reducible rfl
  try go_simp
  refine tk0 4 rfl ?_ ?_ ?_
  rotate_left
  ·intro; go_simp <;> with_reducible rfl
  try go_simp
  refine tk0 5 rfl ?_ ?_ ?_
  rotate_left
  ·intro; go_simp <;> with_reducible rfl
  try go_simp
  refine tk 6 rfl ?_ ?_ ?_
  rotate_left
  ·intro w_ hSw; have hS := hSw; go_simp <;> (with_reducible rfl)
  try go_simp
  refine ry [2] ?_
  refine ar1 rfl fun K hK => ?_
  go_simp
  (go_at_call 124; ((refine (lined_any R (R2.out.drewN 1) (Nat.le_refl _) (Nat.le_trans HN2.out (by omega))).mono ?_); rintro e w4 ⟨D1, k1', d1, D2, k2', d2, rfl, hr1, hr2, hb⟩))
  go_wp2_with fail
  have g1 : w4.cell? ⟨b, o, none⟩ = some (.int .i64 c.id) := (hb.cell (p := ⟨b, o, none⟩) HR0.out).trans hHeld
  have hb4 : Below w3.heap.size w3 w4 := (show Below w3.heap.size w3 w3.drew from (Below.refl _ _).drew).trans hb
  have Z3 := lh (Y3.out.trans (hb4.mono Y3.out.size))
  have Z2 := lh (Y2.out.below hb4 y4)
  have y5 : w.heap.size + 1 < w4.heap.size := Nat.lt_of_lt_of_le y4 hb4.size
  have N1 := lh (new_of (w := w) hr1 (Nat.le_of_lt (Nat.lt_of_le_of_lt (Nat.le_add_right _ 1) (show w.heap.size + 1 < w3.drew.heap.size from y4))))
  have N2 := lh (new_of (w := w) hr2 (Nat.le_of_lt (Nat.lt_of_le_of_lt (Nat.le_add_right _ 1) (show w.heap.size + 1 < w3.drew.heap.size from y4))))
  have Q1 := lh (ow_row (ow_set (i := 1) (ow_set (i := 0) hr1 (show w.heap.size + 1 < w3.drew.heap.size from y4) (.slice D1 k1' d1)) (show w.heap.size + 1 < w3.drew.heap.size from y4) (.slice D2 k2' d2)))
  have Q2 := lh (ow_row (ow_set (i := 1) (ow_set (i := 0) hr2 (show w.heap.size + 1 < w3.drew.heap.size from y4) (.slice D1 k1' d1)) (show w.heap.size + 1 < w3.drew.heap.size from y4) (.slice D2 k2' d2)))
  have V := lh (k.Box.put (k.Box.put Z2.out 0 (by simp) (.slice D1 k1' d1)) 1 (by simp) (.slice D2 k2' d2))
  have hne : w.heap.size + 2 ≤ b := by have := HOB.out b rfl; omega
  clear hb hb4 hr1 hr2 Y2 Y3
  refine hK.out _ _ g1 (fun hHeld => ?_)
  clear hK K
  try go_simp
  have ⟨y0, yf0⟩ := k.cell_of Z2.out (i := 0) rfl
  have ⟨y1, yf1⟩ := k.cell_of Z2.out (i := 1) rfl
  refine ry [7] ?_
  refine ar1 rfl fun K hK => ?_
  go_simp
  refine hK.out _ _ ((((Above.refl (w.heap.size + 2) w4).set (i := 0) (Nat.lt_succ_self _) (.slice D1 k1' d1)).set (i := 1) (Nat.lt_succ_self _) (.slice D2 k2' d2) b o hne).trans g1) (fun hHeld => ?_)
  clear hK K
  try go_simp
  refine tk0 8 rfl ?_ ?_ ?_
  rotate_left
  ·intro; go_simp <;> with_reducible rfl
  try go_simp
  refine wpAnyT_done (by kernel_rfl) ?_ _
  go_wp2
  refine bodyPost_ret (k.results_cell_tmp rfl rfl (run_loadVar_mid _ (w.heap.size + 1) 0 31 _ _ V.out.range rfl rfl (by kernel_rfl))) rfl ⟨_, _, _, _, _, _, rfl, Q1.out, Q2.out, (Z3.out.setCell (by show w.heap.size ≤ w.heap.size + 1; omega) _).setCell (by show w.heap.size ≤ w.heap.size + 1; omega) _, N1.out, N2.out⟩
end Go.Proofs.YtijlccblabadaaaGreat.ln
end
section
namespace Go.Proofs.YtijlccblabadaaaGreat.ln
set_option maxRecDepth 100000
open Go.ChangeShapes Go.WideShapes Go.ChangeAt Go.RowKit Go.Proofs.YtijlccblabadaaaGreat.k Go.Proofs.YtijlccblabadaaaGreat.rr
set_option linter.unusedVariables false
theorem add_no {N W : List C} {c : C} (h : ¬ AddOk N W c) : addN N W c = [] ∧ addW N W c = [] ∧ addI N W c = [] ∧ addE N W c = 1 := by
 unfold addN addW addI addE
 simp only [if_neg h]
 exact ⟨trivial, trivial, trivial, trivial⟩
theorem add_now {N W : List C} {c : C} (h : AddOk N W c) (h0 : c.mode = 0) : addN N W c = [c] ∧ addW N W c = [] ∧ addI N W c = ids (allL N W) ∧ addE N W c = 0 := by
 unfold addN addW addI addE
 rw [all_yes h.1]
 simp only [if_pos h, if_pos h0]
 exact ⟨trivial, trivial, trivial, trivial⟩
theorem full_iff {N W : List C} (h : RightL N W) : 4 < (N ++ W).length ↔ W.length = 4 := by
 have h1 := h.2.1
 have h2 := h.2.2.1
 have h3 := h.2.2.2
 rw [List.length_append]
 omega
theorem add_full {N W : List C} {c : C} (h : AddOk N W c) (h0 : c.mode ≠ 0) (h4 : W.length = 4) : addN N W c = [] ∧ addW N W c = [] ∧ addI N W c = [] ∧ addE N W c = 8 := by
 unfold addN addW addI addE
 have h5 := (full_iff h.1).2 h4
 simp only [if_pos h, if_neg h0, if_pos h5]
 exact ⟨trivial, trivial, trivial, trivial⟩
theorem add_more {N W : List C} {c : C} (h : AddOk N W c) (h0 : c.mode ≠ 0) (h4 : W.length ≠ 4) : addN N W c = (allL N W ++ [c]).take 1 ∧ addW N W c = (allL N W ++ [c]).drop 1 ∧ addI N W c = [] ∧ addE N W c = 0 := by
 unfold addN addW addI addE
 have h5 : ¬ 4 < (N ++ W).length := fun h5 => h4 ((full_iff h.1).1 h5)
 simp only [if_pos h, if_neg h0, if_neg h5, all_yes h.1]
 exact ⟨trivial, trivial, trivial, trivial⟩
theorem all_len {N W : List C} (h1 : N.length ≤ 1000) (h2 : W.length ≤ 1000) : (allL N W).length ≤ 2000 := by
 by_cases hr : RightL N W
 ·rw [all_yes hr, List.length_append]; omega
 ·rw [all_no hr]; simp
set_option maxRecDepth 100000 in
set_option maxHeartbeats 4000000 in
theorem add_wrong (N W : List C) (c : C) {A A' : Option Addr} {n cap m cap' B : Nat} {w : World} (h : RdC w B A n cap N) (h2 : RdC w B A' m cap' W) (hB : B ≤ w.heap.size) (hn : n ≤ 1000) (hm : m ≤ 1000) (hr : ¬ RightL N W) :
  Calls Tryz.prog 99 #[lnV A n cap A' m cap', cV c] w (GotAn [] [] [] 1 w) := by
 obtain ⟨x1, x2, x3, x4, x5⟩ := k.boxes3 (w := w) (c1 := #[.slice A n cap, .slice A' m cap']) (t1 := 31) (c2 := #[.int .i64 c.id, .int .i64 c.kind, .int .i64 c.tgt, .int .i64 c.spd, .int .i64 c.mode, .int .i64 c.num, .int .i64 c.den]) (t2 := 62) (c3 := #[.slice none 0 0, .slice none 0 0]) (t3 := 31) (Below.refl _ _)
 have X1 := lh x1
 have X2 := lh x2
 have X3 := lh x3
 have X4 := lh x4
 have CR := lh fun (W' : World) (hb : Below B w W') => right_any N W (h.below hb) (h2.below hb) (Nat.le_trans hB hb.size) hn hm
 have CM := lh fun (W' : World) => modeless_any c W'
 unfold cV at CM
 have CC := lh fun (W' : World) (hb : Below B w W') => commands_any N W (h.below hb) (h2.below hb) (Nat.le_trans hB hb.size) hn hm
 have HB := lh hB
 have hlen2 := h2.len_le
 have HL := lh (all_len (N := N) (W := W) (by rw [h.1]; exact hn) (by rw [h2.1]; exact hm))
 have h0 : rightL N W = false := right_no hr
 clear h h2 hB x1 x2 x3 x4 hn hm
 unfold cV
 go_enter Tryz.func99, Tryz.ntmps99
 go_upto_region 1 with fail
 generalize ((w.alloc (.cells #[.slice A n cap, .slice A' m cap'] 31)).alloc (.cells #[.int .i64 c.id, .int .i64 c.kind, .int .i64 c.tgt, .int .i64 c.spd, .int .i64 c.mode, .int .i64 c.num, .int .i64 c.den] 62)).alloc (.cells #[.slice none 0 0, .slice none 0 0] 31) = w2 at X1 X2 X3 X4 x5 ⊢
 have ⟨c0, _⟩ := k.cell_of X1.out (i := 0) rfl
 have ⟨c1, _⟩ := k.cell_of X1.out (i := 1) rfl
 go_wp2_with (go_at_call 33; fail)
 refine (CR.out _ (X4.out.mono HB.out)).mono ?_
 rintro e w3 ⟨rfl, hb⟩
 have Y1 := lh (X1.out.below hb (by omega))
 have Y2 := lh (X2.out.below hb (by omega))
 have Y3 := lh (X3.out.below hb (by omega))
 have Y4 := lh (X4.out.trans (hb.mono (by omega)))
 have y5 : w.heap.size + 2 < w3.heap.size := Nat.lt_of_lt_of_le x5 hb.size
 rw [h0]
 clear hb c0 c1 X1 X2 X3 X4 x5 CR CC CM
 have ⟨c0, _⟩ := k.cell_of Y1.out (i := 0) rfl
 have ⟨c1, _⟩ := k.cell_of Y1.out (i := 1) rfl
 have ⟨m0, _⟩ := k.cell_of Y2.out (i := 0) rfl
 have ⟨m1, _⟩ := k.cell_of Y2.out (i := 1) rfl
 have ⟨m2, _⟩ := k.cell_of Y2.out (i := 2) rfl
 have ⟨m3, _⟩ := k.cell_of Y2.out (i := 3) rfl
 have ⟨m4, _⟩ := k.cell_of Y2.out (i := 4) rfl
 have ⟨m5, _⟩ := k.cell_of Y2.out (i := 5) rfl
 have ⟨m6, _⟩ := k.cell_of Y2.out (i := 6) rfl
 have ⟨z0, zf0⟩ := k.cell_of Y3.out (i := 0) rfl
 have ⟨z1, zf1⟩ := k.cell_of Y3.out (i := 1) rfl
 go_wp2
 refine bodyPost_ret (v := .tuple #[.agg #[.slice none 0 0, .slice none 0 0], .slice none 0 0, .int .i64 1]) (by simp [results, Tryz.results99, go_sem, z0, z1]) rfl ⟨_, _, _, _, _, _, _, _, _, rfl, Rd.none_ _ _ _ _, Rd.none_ _ _ _ _, Rd.none_ _ _ _ _, (Y4.out.setCell (by show w.heap.size ≤ w.heap.size + 2; omega) _).setCell (by show w.heap.size ≤ w.heap.size + 2; omega) _, new_none _, new_none _, new_none _⟩
set_option maxRecDepth 100000 in
set_option maxHeartbeats 4000000 in
theorem add_modeless (N W : List C) (c : C) {A A' : Option Addr} {n cap m cap' B : Nat} {w : World} (h : RdC w B A n cap N) (h2 : RdC w B A' m cap' W) (hB : B ≤ w.heap.size) (hn : n ≤ 1000) (hm : m ≤ 1000) (hr : RightL N W) (hk : ¬ OkC c) :
  Calls Tryz.prog 99 #[lnV A n cap A' m cap', cV c] w (GotAn [] [] [] 1 w) := by
 obtain ⟨x1, x2, x3, x4, x5⟩ := k.boxes3 (w := w) (c1 := #[.slice A n cap, .slice A' m cap']) (t1 := 31) (c2 := #[.int .i64 c.id, .int .i64 c.kind, .int .i64 c.tgt, .int .i64 c.spd, .int .i64 c.mode, .int .i64 c.num, .int .i64 c.den]) (t2 := 62) (c3 := #[.slice none 0 0, .slice none 0 0]) (t3 := 31) (Below.refl _ _)
 have X1 := lh x1
 have X2 := lh x2
 have X3 := lh x3
 have X4 := lh x4
 have CR := lh fun (W' : World) (hb : Below B w W') => right_any N W (h.below hb) (h2.below hb) (Nat.le_trans hB hb.size) hn hm
 have CM := lh fun (W' : World) => modeless_any c W'
 unfold cV at CM
 have CC := lh fun (W' : World) (hb : Below B w W') => commands_any N W (h.below hb) (h2.below hb) (Nat.le_trans hB hb.size) hn hm
 have HB := lh hB
 have hlen2 := h2.len_le
 have HL := lh (all_len (N := N) (W := W) (by rw [h.1]; exact hn) (by rw [h2.1]; exact hm))
 have h0 : rightL N W = true := right_yes hr
 have hc0 : noMode c = true := decide_eq_true hk
 clear h h2 hB x1 x2 x3 x4 hn hm
 unfold cV
 go_enter Tryz.func99, Tryz.ntmps99
 go_upto_region 1 with fail
 generalize ((w.alloc (.cells #[.slice A n cap, .slice A' m cap'] 31)).alloc (.cells #[.int .i64 c.id, .int .i64 c.kind, .int .i64 c.tgt, .int .i64 c.spd, .int .i64 c.mode, .int .i64 c.num, .int .i64 c.den] 62)).alloc (.cells #[.slice none 0 0, .slice none 0 0] 31) = w2 at X1 X2 X3 X4 x5 ⊢
 have ⟨c0, _⟩ := k.cell_of X1.out (i := 0) rfl
 have ⟨c1, _⟩ := k.cell_of X1.out (i := 1) rfl
 go_wp2_with (go_at_call 33; fail)
 refine (CR.out _ (X4.out.mono HB.out)).mono ?_
 rintro e w3 ⟨rfl, hb⟩
 have Y1 := lh (X1.out.below hb (by omega))
 have Y2 := lh (X2.out.below hb (by omega))
 have Y3 := lh (X3.out.below hb (by omega))
 have Y4 := lh (X4.out.trans (hb.mono (by omega)))
 have y5 : w.heap.size + 2 < w3.heap.size := Nat.lt_of_lt_of_le x5 hb.size
 rw [h0]
 clear hb c0 c1 X1 X2 X3 X4 x5 CR
 have ⟨c0, _⟩ := k.cell_of Y1.out (i := 0) rfl
 have ⟨c1, _⟩ := k.cell_of Y1.out (i := 1) rfl
 have ⟨m0, _⟩ := k.cell_of Y2.out (i := 0) rfl
 have ⟨m1, _⟩ := k.cell_of Y2.out (i := 1) rfl
 have ⟨m2, _⟩ := k.cell_of Y2.out (i := 2) rfl
 have ⟨m3, _⟩ := k.cell_of Y2.out (i := 3) rfl
 have ⟨m4, _⟩ := k.cell_of Y2.out (i := 4) rfl
 have ⟨m5, _⟩ := k.cell_of Y2.out (i := 5) rfl
 have ⟨m6, _⟩ := k.cell_of Y2.out (i := 6) rfl
 have ⟨z0, zf0⟩ := k.cell_of Y3.out (i := 0) rfl
 have ⟨z1, zf1⟩ := k.cell_of Y3.out (i := 1) rfl
 go_wp2_with (go_at_call 57; fail)
 refine (CM.out _).mono ?_
 rintro e w4 ⟨rfl, hb⟩
 rw [hc0]
 have Z1 := lh (Y1.out.below hb (by omega))
 have Z2 := lh (Y2.out.below hb (by omega))
 have Z3 := lh (Y3.out.below hb (by omega))
 have Z4 := lh (Y4.out.trans (hb.mono (by omega)))
 have z5 : w.heap.size + 2 < w4.heap.size := Nat.lt_of_lt_of_le y5 hb.size
 clear hb Y1 Y2 Y3 Y4 y5 CM c0 c1 m0 m1 m2 m3 m4 m5 m6 z0 zf0 z1 zf1
 have ⟨c0, _⟩ := k.cell_of Z1.out (i := 0) rfl
 have ⟨c1, _⟩ := k.cell_of Z1.out (i := 1) rfl
 have ⟨m0, _⟩ := k.cell_of Z2.out (i := 0) rfl
 have ⟨m1, _⟩ := k.cell_of Z2.out (i := 1) rfl
 have ⟨m2, _⟩ := k.cell_of Z2.out (i := 2) rfl
 have ⟨m3, _⟩ := k.cell_of Z2.out (i := 3) rfl
 have ⟨m4, _⟩ := k.cell_of Z2.out (i := 4) rfl
 have ⟨m5, _⟩ := k.cell_of Z2.out (i := 5) rfl
 have ⟨m6, _⟩ := k.cell_of Z2.out (i := 6) rfl
 have ⟨z0, zf0⟩ := k.cell_of Z3.out (i := 0) rfl
 have ⟨z1, zf1⟩ := k.cell_of Z3.out (i := 1) rfl
 go_wp2
 refine bodyPost_ret (v := .tuple #[.agg #[.slice none 0 0, .slice none 0 0], .slice none 0 0, .int .i64 1]) (by simp [results, Tryz.results99, go_sem, z0, z1]) rfl ⟨_, _, _, _, _, _, _, _, _, rfl, Rd.none_ _ _ _ _, Rd.none_ _ _ _ _, Rd.none_ _ _ _ _, (Z4.out.setCell (by show w.heap.size ≤ w.heap.size + 2; omega) _).setCell (by show w.heap.size ≤ w.heap.size + 2; omega) _, new_none _, new_none _, new_none _⟩
set_option maxRecDepth 100000 in
set_option maxHeartbeats 4000000 in
theorem add_abort (N W : List C) (c : C) {A A' : Option Addr} {n cap m cap' B : Nat} {w : World} (h : RdC w B A n cap N) (h2 : RdC w B A' m cap' W) (hB : B ≤ w.heap.size) (hn : n ≤ 1000) (hm : m ≤ 1000) (hr : RightL N W) (hk : OkC c) (hz : c.mode = 0) :
  Calls Tryz.prog 99 #[lnV A n cap A' m cap', cV c] w (GotAn [c] [] (ids (allL N W)) 0 w) := by
 obtain ⟨x1, x2, x3, x4, x5⟩ := k.boxes3 (w := w) (c1 := #[.slice A n cap, .slice A' m cap']) (t1 := 31) (c2 := #[.int .i64 c.id, .int .i64 c.kind, .int .i64 c.tgt, .int .i64 c.spd, .int .i64 c.mode, .int .i64 c.num, .int .i64 c.den]) (t2 := 62) (c3 := #[.slice none 0 0, .slice none 0 0]) (t3 := 31) (Below.refl _ _)
 have X1 := lh x1
 have X2 := lh x2
 have X3 := lh x3
 have X4 := lh x4
 have CR := lh fun (W' : World) (hb : Below B w W') => right_any N W (h.below hb) (h2.below hb) (Nat.le_trans hB hb.size) hn hm
 have CM := lh fun (W' : World) => modeless_any c W'
 unfold cV at CM
 have CC := lh fun (W' : World) (hb : Below B w W') => commands_any N W (h.below hb) (h2.below hb) (Nat.le_trans hB hb.size) hn hm
 have HB := lh hB
 have hlen2 := h2.len_le
 have HL := lh (all_len (N := N) (W := W) (by rw [h.1]; exact hn) (by rw [h2.1]; exact hm))
 have h0 : rightL N W = true := right_yes hr
 have hc0 : noMode c = false := decide_eq_false (fun h => h hk)
 have hq0 : (c.mode == 0) = true := by rw [hz]; rfl
 clear hz hk hr
 clear h h2 hB x1 x2 x3 x4 hn hm
 unfold cV
 go_enter Tryz.func99, Tryz.ntmps99
 go_upto_region 1 with fail
 generalize ((w.alloc (.cells #[.slice A n cap, .slice A' m cap'] 31)).alloc (.cells #[.int .i64 c.id, .int .i64 c.kind, .int .i64 c.tgt, .int .i64 c.spd, .int .i64 c.mode, .int .i64 c.num, .int .i64 c.den] 62)).alloc (.cells #[.slice none 0 0, .slice none 0 0] 31) = w2 at X1 X2 X3 X4 x5 ⊢
 have ⟨c0, _⟩ := k.cell_of X1.out (i := 0) rfl
 have ⟨c1, _⟩ := k.cell_of X1.out (i := 1) rfl
 go_wp2_with (go_at_call 33; fail)
 refine (CR.out _ (X4.out.mono HB.out)).mono ?_
 rintro e w3 ⟨rfl, hb⟩
 have Y1 := lh (X1.out.below hb (by omega))
 have Y2 := lh (X2.out.below hb (by omega))
 have Y3 := lh (X3.out.below hb (by omega))
 have Y4 := lh (X4.out.trans (hb.mono (by omega)))
 have y5 : w.heap.size + 2 < w3.heap.size := Nat.lt_of_lt_of_le x5 hb.size
 rw [h0]
 clear hb c0 c1 X1 X2 X3 X4 x5 CR
 have ⟨c0, _⟩ := k.cell_of Y1.out (i := 0) rfl
 have ⟨c1, _⟩ := k.cell_of Y1.out (i := 1) rfl
 have ⟨m0, _⟩ := k.cell_of Y2.out (i := 0) rfl
 have ⟨m1, _⟩ := k.cell_of Y2.out (i := 1) rfl
 have ⟨m2, _⟩ := k.cell_of Y2.out (i := 2) rfl
 have ⟨m3, _⟩ := k.cell_of Y2.out (i := 3) rfl
 have ⟨m4, _⟩ := k.cell_of Y2.out (i := 4) rfl
 have ⟨m5, _⟩ := k.cell_of Y2.out (i := 5) rfl
 have ⟨m6, _⟩ := k.cell_of Y2.out (i := 6) rfl
 have ⟨z0, zf0⟩ := k.cell_of Y3.out (i := 0) rfl
 have ⟨z1, zf1⟩ := k.cell_of Y3.out (i := 1) rfl
 go_wp2_with (go_at_call 57; fail)
 refine (CM.out _).mono ?_
 rintro e w4 ⟨rfl, hb⟩
 rw [hc0]
 have Z1 := lh (Y1.out.below hb (by omega))
 have Z2 := lh (Y2.out.below hb (by omega))
 have Z3 := lh (Y3.out.below hb (by omega))
 have Z4 := lh (Y4.out.trans (hb.mono (by omega)))
 have z5 : w.heap.size + 2 < w4.heap.size := Nat.lt_of_lt_of_le y5 hb.size
 clear hb Y1 Y2 Y3 Y4 y5 CM c0 c1 m0 m1 m2 m3 m4 m5 m6 z0 zf0 z1 zf1
 have ⟨c0, _⟩ := k.cell_of Z1.out (i := 0) rfl
 have ⟨c1, _⟩ := k.cell_of Z1.out (i := 1) rfl
 have ⟨m0, _⟩ := k.cell_of Z2.out (i := 0) rfl
 have ⟨m1, _⟩ := k.cell_of Z2.out (i := 1) rfl
 have ⟨m2, _⟩ := k.cell_of Z2.out (i := 2) rfl
 have ⟨m3, _⟩ := k.cell_of Z2.out (i := 3) rfl
 have ⟨m4, _⟩ := k.cell_of Z2.out (i := 4) rfl
 have ⟨m5, _⟩ := k.cell_of Z2.out (i := 5) rfl
 have ⟨m6, _⟩ := k.cell_of Z2.out (i := 6) rfl
 have ⟨z0, zf0⟩ := k.cell_of Z3.out (i := 0) rfl
 have ⟨z1, zf1⟩ := k.cell_of Z3.out (i := 1) rfl
 go_wp2_with (go_at_call 123; fail)
 refine (CC.out _ (Z4.out.mono HB.out)).mono ?_
 rintro e w5 ⟨v5, rfl, ho, hb⟩
 have HO := lh ho
 have Y1 := lh (Z1.out.below hb (by omega))
 have Y2 := lh (Z2.out.below hb (by omega))
 have Y3 := lh (Z3.out.below hb (by omega))
 have Y4 := lh (Z4.out.trans (hb.mono (by omega)))
 have y5 : w.heap.size + 2 < w5.heap.size := Nat.lt_of_lt_of_le z5 hb.size
 have S45 := lh hb.size
 obtain ⟨D, k1, d, rfl⟩ := ow_form ho
 clear hb ho Z1 Z2 Z3 Z4 c0 c1 m0 m1 m2 m3 m4 m5 m6 z0 zf0 z1 zf1 CC
 have ⟨c0, _⟩ := k.cell_of Y1.out (i := 0) rfl
 have ⟨c1, _⟩ := k.cell_of Y1.out (i := 1) rfl
 have ⟨m0, _⟩ := k.cell_of Y2.out (i := 0) rfl
 have ⟨m1, _⟩ := k.cell_of Y2.out (i := 1) rfl
 have ⟨m2, _⟩ := k.cell_of Y2.out (i := 2) rfl
 have ⟨m3, _⟩ := k.cell_of Y2.out (i := 3) rfl
 have ⟨m4, _⟩ := k.cell_of Y2.out (i := 4) rfl
 have ⟨m5, _⟩ := k.cell_of Y2.out (i := 5) rfl
 have ⟨m6, _⟩ := k.cell_of Y2.out (i := 6) rfl
 have ⟨z0, zf0⟩ := k.cell_of Y3.out (i := 0) rfl
 have ⟨z1, zf1⟩ := k.cell_of Y3.out (i := 1) rfl
 go_wp2_with (go_at_call 124; fail)
 have hb6 := (Below.refl w5.heap.size w5).alloc (Nat.le_refl _) (.cells #[.int .i64 c.id, .int .i64 c.kind, .int .i64 c.tgt, .int .i64 c.spd, .int .i64 c.mode, .int .i64 c.num, .int .i64 c.den] 62)
 have hrow := (one_row (enc := cC) (z := 7) w5 62 c #[.int .i64 c.id, .int .i64 c.kind, .int .i64 c.tgt, .int .i64 c.spd, .int .i64 c.mode, .int .i64 c.num, .int .i64 c.den] rfl)
 have hs6 : w5.heap.size + 1 ≤ (w5.alloc (.cells #[.int .i64 c.id, .int .i64 c.kind, .int .i64 c.tgt, .int .i64 c.spd, .int .i64 c.mode, .int .i64 c.num, .int .i64 c.den] 62)).heap.size := by simp
 generalize w5.alloc (.cells #[.int .i64 c.id, .int .i64 c.kind, .int .i64 c.tgt, .int .i64 c.spd, .int .i64 c.mode, .int .i64 c.num, .int .i64 c.den] 62) = w6 at hb6 hrow hs6 ⊢
 refine (lined_any [c] hrow hs6 (by omega)).mono ?_
 rintro e w7 ⟨D1, k1', d1, D2, k2', d2, rfl, hr1, hr2, hb7⟩
 have hb := hb6.trans (hb7.mono hb6.size)
 have Z1 := lh (Y1.out.below hb (by omega))
 have Z2 := lh (Y2.out.below hb (by omega))
 have Z3 := lh (Y3.out.below hb (by omega))
 have Z4 := lh (Y4.out.trans (hb.mono (by omega)))
 have z6 : w.heap.size + 2 < w7.heap.size := Nat.lt_of_lt_of_le y5 hb.size
 have s6 : w.heap.size + 2 < w6.heap.size := by omega
 have R5 := lh ((ow_row HO.out).below hb)
 have HLR := lh (ow_row HO.out).1
 have S7 := lh hb7.size
 have P1 := lh hr1
 have P2 := lh hr2
 have hs5 := hb.size
 clear hb hb6 hb7 hr1 hr2 hrow hs6 Y1 Y2 Y3 Y4 c0 c1 m0 m1 m2 m3 m4 m5 m6 z0 zf0 z1 zf1
 have ⟨c0, _⟩ := k.cell_of Z1.out (i := 0) rfl
 have ⟨c1, _⟩ := k.cell_of Z1.out (i := 1) rfl
 have ⟨m0, _⟩ := k.cell_of Z2.out (i := 0) rfl
 have ⟨m1, _⟩ := k.cell_of Z2.out (i := 1) rfl
 have ⟨m2, _⟩ := k.cell_of Z2.out (i := 2) rfl
 have ⟨m3, _⟩ := k.cell_of Z2.out (i := 3) rfl
 have ⟨m4, _⟩ := k.cell_of Z2.out (i := 4) rfl
 have ⟨m5, _⟩ := k.cell_of Z2.out (i := 5) rfl
 have ⟨m6, _⟩ := k.cell_of Z2.out (i := 6) rfl
 have ⟨z0, zf0⟩ := k.cell_of Z3.out (i := 0) rfl
 have ⟨z1, zf1⟩ := k.cell_of Z3.out (i := 1) rfl
 go_wp2_with (go_at_call 125; fail)
 refine (lids_any (allL N W) R5.out hs5 (by rw [← HLR.out]; exact Nat.le_trans HL.out (by omega))).mono ?_
 rintro e w8 ⟨v8, rfl, ho8, hb⟩
 have Y1 := lh (Z1.out.below hb (by omega))
 have Y2 := lh (Z2.out.below hb (by omega))
 have Y3 := lh (Z3.out.below hb (by omega))
 have Y4 := lh (Z4.out.trans (hb.mono (by omega)))
 have y8 : w.heap.size + 2 < w8.heap.size := Nat.lt_of_lt_of_le z6 hb.size
 obtain ⟨D4, k4, d4, rfl⟩ := oi_val ho8
 have N1 := lh (new_of (w := w) P1.out (Nat.le_of_lt (Nat.lt_of_le_of_lt (Nat.le_add_right _ 2) s6)))
 have N2 := lh (new_of (w := w) P2.out (Nat.le_of_lt (Nat.lt_of_le_of_lt (Nat.le_add_right _ 2) s6)))
 have N4 := lh (new_of (w := w) ho8 (Nat.le_of_lt (Nat.lt_of_le_of_lt (Nat.le_add_right _ 2) z6)))
 have Q1 := lh (ow_row (ow_set (i := 1) (ow_set (i := 0) (P1.out.under hb) s6 (.slice D1 k1' d1)) s6 (.slice D2 k2' d2)))
 have Q2 := lh (ow_row (ow_set (i := 1) (ow_set (i := 0) (P2.out.under hb) s6 (.slice D1 k1' d1)) s6 (.slice D2 k2' d2)))
 have Q4 := lh (oi_rows (ow_set (i := 1) (ow_set (i := 0) ho8 z6 (.slice D1 k1' d1)) z6 (.slice D2 k2' d2)))
 clear hb ho8 P1 P2 R5 Z1 Z2 Z3 Z4 c0 c1 m0 m1 m2 m3 m4 m5 m6 z0 zf0 z1 zf1
 have ⟨c0, _⟩ := k.cell_of Y1.out (i := 0) rfl
 have ⟨c1, _⟩ := k.cell_of Y1.out (i := 1) rfl
 have ⟨m0, _⟩ := k.cell_of Y2.out (i := 0) rfl
 have ⟨m1, _⟩ := k.cell_of Y2.out (i := 1) rfl
 have ⟨m2, _⟩ := k.cell_of Y2.out (i := 2) rfl
 have ⟨m3, _⟩ := k.cell_of Y2.out (i := 3) rfl
 have ⟨m4, _⟩ := k.cell_of Y2.out (i := 4) rfl
 have ⟨m5, _⟩ := k.cell_of Y2.out (i := 5) rfl
 have ⟨m6, _⟩ := k.cell_of Y2.out (i := 6) rfl
 have ⟨z0, zf0⟩ := k.cell_of Y3.out (i := 0) rfl
 have ⟨z1, zf1⟩ := k.cell_of Y3.out (i := 1) rfl
 go_wp2
 refine bodyPost_ret (v := .tuple #[lnV D1 k1' d1 D2 k2' d2, .slice D4 k4 d4, .int .i64 0]) (by simp [results, Tryz.results99, go_sem, z0, z1]) rfl ⟨_, _, _, _, _, _, _, _, _, rfl, Q1.out, Q2.out, Q4.out, (Y4.out.setCell (by show w.heap.size ≤ w.heap.size + 2; omega) _).setCell (by show w.heap.size ≤ w.heap.size + 2; omega) _, N1.out, N2.out, N4.out⟩
set_option maxRecDepth 100000 in
set_option maxHeartbeats 4000000 in
theorem add_filled (N W : List C) (c : C) {A A' : Option Addr} {n cap m cap' B : Nat} {w : World} (h : RdC w B A n cap N) (h2 : RdC w B A' m cap' W) (hB : B ≤ w.heap.size) (hn : n ≤ 1000) (hm : m ≤ 1000) (hr : RightL N W) (hk : OkC c) (hz : c.mode ≠ 0) (h4 : m = 4) :
  Calls Tryz.prog 99 #[lnV A n cap A' m cap', cV c] w (GotAn [] [] [] 8 w) := by
 obtain ⟨x1, x2, x3, x4, x5⟩ := k.boxes3 (w := w) (c1 := #[.slice A n cap, .slice A' m cap']) (t1 := 31) (c2 := #[.int .i64 c.id, .int .i64 c.kind, .int .i64 c.tgt, .int .i64 c.spd, .int .i64 c.mode, .int .i64 c.num, .int .i64 c.den]) (t2 := 62) (c3 := #[.slice none 0 0, .slice none 0 0]) (t3 := 31) (Below.refl _ _)
 have X1 := lh x1
 have X2 := lh x2
 have X3 := lh x3
 have X4 := lh x4
 have CR := lh fun (W' : World) (hb : Below B w W') => right_any N W (h.below hb) (h2.below hb) (Nat.le_trans hB hb.size) hn hm
 have CM := lh fun (W' : World) => modeless_any c W'
 unfold cV at CM
 have CC := lh fun (W' : World) (hb : Below B w W') => commands_any N W (h.below hb) (h2.below hb) (Nat.le_trans hB hb.size) hn hm
 have HB := lh hB
 have hlen2 := h2.len_le
 have HL := lh (all_len (N := N) (W := W) (by rw [h.1]; exact hn) (by rw [h2.1]; exact hm))
 have h0 : rightL N W = true := right_yes hr
 have hc0 : noMode c = false := decide_eq_false (fun h => h hk)
 have hq0 : (c.mode == 0) = false := by rw [beq_eq_false_iff_ne]; exact hz
 have hq4 : ((m : Int) == 4) = true := by rw [h4]; rfl
 clear h4 hz hk hr
 clear h h2 hB x1 x2 x3 x4 hn hm
 unfold cV
 go_enter Tryz.func99, Tryz.ntmps99
 go_upto_region 1 with fail
 generalize ((w.alloc (.cells #[.slice A n cap, .slice A' m cap'] 31)).alloc (.cells #[.int .i64 c.id, .int .i64 c.kind, .int .i64 c.tgt, .int .i64 c.spd, .int .i64 c.mode, .int .i64 c.num, .int .i64 c.den] 62)).alloc (.cells #[.slice none 0 0, .slice none 0 0] 31) = w2 at X1 X2 X3 X4 x5 ⊢
 have ⟨c0, _⟩ := k.cell_of X1.out (i := 0) rfl
 have ⟨c1, _⟩ := k.cell_of X1.out (i := 1) rfl
 go_wp2_with (go_at_call 33; fail)
 refine (CR.out _ (X4.out.mono HB.out)).mono ?_
 rintro e w3 ⟨rfl, hb⟩
 have Y1 := lh (X1.out.below hb (by omega))
 have Y2 := lh (X2.out.below hb (by omega))
 have Y3 := lh (X3.out.below hb (by omega))
 have Y4 := lh (X4.out.trans (hb.mono (by omega)))
 have y5 : w.heap.size + 2 < w3.heap.size := Nat.lt_of_lt_of_le x5 hb.size
 rw [h0]
 clear hb c0 c1 X1 X2 X3 X4 x5 CR
 have ⟨c0, _⟩ := k.cell_of Y1.out (i := 0) rfl
 have ⟨c1, _⟩ := k.cell_of Y1.out (i := 1) rfl
 have ⟨m0, _⟩ := k.cell_of Y2.out (i := 0) rfl
 have ⟨m1, _⟩ := k.cell_of Y2.out (i := 1) rfl
 have ⟨m2, _⟩ := k.cell_of Y2.out (i := 2) rfl
 have ⟨m3, _⟩ := k.cell_of Y2.out (i := 3) rfl
 have ⟨m4, _⟩ := k.cell_of Y2.out (i := 4) rfl
 have ⟨m5, _⟩ := k.cell_of Y2.out (i := 5) rfl
 have ⟨m6, _⟩ := k.cell_of Y2.out (i := 6) rfl
 have ⟨z0, zf0⟩ := k.cell_of Y3.out (i := 0) rfl
 have ⟨z1, zf1⟩ := k.cell_of Y3.out (i := 1) rfl
 go_wp2_with (go_at_call 57; fail)
 refine (CM.out _).mono ?_
 rintro e w4 ⟨rfl, hb⟩
 rw [hc0]
 have Z1 := lh (Y1.out.below hb (by omega))
 have Z2 := lh (Y2.out.below hb (by omega))
 have Z3 := lh (Y3.out.below hb (by omega))
 have Z4 := lh (Y4.out.trans (hb.mono (by omega)))
 have z5 : w.heap.size + 2 < w4.heap.size := Nat.lt_of_lt_of_le y5 hb.size
 clear hb Y1 Y2 Y3 Y4 y5 CM c0 c1 m0 m1 m2 m3 m4 m5 m6 z0 zf0 z1 zf1
 have ⟨c0, _⟩ := k.cell_of Z1.out (i := 0) rfl
 have ⟨c1, _⟩ := k.cell_of Z1.out (i := 1) rfl
 have ⟨m0, _⟩ := k.cell_of Z2.out (i := 0) rfl
 have ⟨m1, _⟩ := k.cell_of Z2.out (i := 1) rfl
 have ⟨m2, _⟩ := k.cell_of Z2.out (i := 2) rfl
 have ⟨m3, _⟩ := k.cell_of Z2.out (i := 3) rfl
 have ⟨m4, _⟩ := k.cell_of Z2.out (i := 4) rfl
 have ⟨m5, _⟩ := k.cell_of Z2.out (i := 5) rfl
 have ⟨m6, _⟩ := k.cell_of Z2.out (i := 6) rfl
 have ⟨z0, zf0⟩ := k.cell_of Z3.out (i := 0) rfl
 have ⟨z1, zf1⟩ := k.cell_of Z3.out (i := 1) rfl
 go_wp2_with (go_at_call 123; fail)
 refine (CC.out _ (Z4.out.mono HB.out)).mono ?_
 rintro e w5 ⟨v5, rfl, ho, hb⟩
 have HO := lh ho
 have Y1 := lh (Z1.out.below hb (by omega))
 have Y2 := lh (Z2.out.below hb (by omega))
 have Y3 := lh (Z3.out.below hb (by omega))
 have Y4 := lh (Z4.out.trans (hb.mono (by omega)))
 have y5 : w.heap.size + 2 < w5.heap.size := Nat.lt_of_lt_of_le z5 hb.size
 have S45 := lh hb.size
 obtain ⟨D, k1, d, rfl⟩ := ow_form ho
 clear hb ho Z1 Z2 Z3 Z4 c0 c1 m0 m1 m2 m3 m4 m5 m6 z0 zf0 z1 zf1 CC
 have ⟨c0, _⟩ := k.cell_of Y1.out (i := 0) rfl
 have ⟨c1, _⟩ := k.cell_of Y1.out (i := 1) rfl
 have ⟨m0, _⟩ := k.cell_of Y2.out (i := 0) rfl
 have ⟨m1, _⟩ := k.cell_of Y2.out (i := 1) rfl
 have ⟨m2, _⟩ := k.cell_of Y2.out (i := 2) rfl
 have ⟨m3, _⟩ := k.cell_of Y2.out (i := 3) rfl
 have ⟨m4, _⟩ := k.cell_of Y2.out (i := 4) rfl
 have ⟨m5, _⟩ := k.cell_of Y2.out (i := 5) rfl
 have ⟨m6, _⟩ := k.cell_of Y2.out (i := 6) rfl
 have ⟨z0, zf0⟩ := k.cell_of Y3.out (i := 0) rfl
 have ⟨z1, zf1⟩ := k.cell_of Y3.out (i := 1) rfl
 clear HO
 go_wp2
 refine bodyPost_ret (v := .tuple #[.agg #[.slice none 0 0, .slice none 0 0], .slice none 0 0, .int .i64 8]) (by simp [results, Tryz.results99, go_sem, z0, z1]) rfl ⟨_, _, _, _, _, _, _, _, _, rfl, Rd.none_ _ _ _ _, Rd.none_ _ _ _ _, Rd.none_ _ _ _ _, (Y4.out.setCell (by show w.heap.size ≤ w.heap.size + 2; omega) _).setCell (by show w.heap.size ≤ w.heap.size + 2; omega) _, new_none _, new_none _, new_none _⟩
set_option maxRecDepth 100000 in
set_option maxHeartbeats 4000000 in
theorem add_behind (N W : List C) (c : C) {A A' : Option Addr} {n cap m cap' B : Nat} {w : World} (h : RdC w B A n cap N) (h2 : RdC w B A' m cap' W) (hB : B ≤ w.heap.size) (hn : n ≤ 1000) (hm : m ≤ 1000) (hr : RightL N W) (hk : OkC c) (hz : c.mode ≠ 0) (h4 : m ≠ 4) :
  Calls Tryz.prog 99 #[lnV A n cap A' m cap', cV c] w (GotAn ((allL N W ++ [c]).take 1) ((allL N W ++ [c]).drop 1) [] 0 w) := by
 obtain ⟨x1, x2, x3, x4, x5⟩ := k.boxes3 (w := w) (c1 := #[.slice A n cap, .slice A' m cap']) (t1 := 31) (c2 := #[.int .i64 c.id, .int .i64 c.kind, .int .i64 c.tgt, .int .i64 c.spd, .int .i64 c.mode, .int .i64 c.num, .int .i64 c.den]) (t2 := 62) (c3 := #[.slice none 0 0, .slice none 0 0]) (t3 := 31) (Below.refl _ _)
 have X1 := lh x1
 have X2 := lh x2
 have X3 := lh x3
 have X4 := lh x4
 have CR := lh fun (W' : World) (hb : Below B w W') => right_any N W (h.below hb) (h2.below hb) (Nat.le_trans hB hb.size) hn hm
 have CM := lh fun (W' : World) => modeless_any c W'
 unfold cV at CM
 have CC := lh fun (W' : World) (hb : Below B w W') => commands_any N W (h.below hb) (h2.below hb) (Nat.le_trans hB hb.size) hn hm
 have HB := lh hB
 have hlen2 := h2.len_le
 have HL := lh (all_len (N := N) (W := W) (by rw [h.1]; exact hn) (by rw [h2.1]; exact hm))
 have h0 : rightL N W = true := right_yes hr
 have hc0 : noMode c = false := decide_eq_false (fun h => h hk)
 have hq0 : (c.mode == 0) = false := by rw [beq_eq_false_iff_ne]; exact hz
 have hq4 : ((m : Int) == 4) = false := by rw [beq_eq_false_iff_ne]; omega
 clear h4 hz hk hr
 clear h h2 hB x1 x2 x3 x4 hn hm
 unfold cV
 go_enter Tryz.func99, Tryz.ntmps99
 go_upto_region 1 with fail
 generalize ((w.alloc (.cells #[.slice A n cap, .slice A' m cap'] 31)).alloc (.cells #[.int .i64 c.id, .int .i64 c.kind, .int .i64 c.tgt, .int .i64 c.spd, .int .i64 c.mode, .int .i64 c.num, .int .i64 c.den] 62)).alloc (.cells #[.slice none 0 0, .slice none 0 0] 31) = w2 at X1 X2 X3 X4 x5 ⊢
 have ⟨c0, _⟩ := k.cell_of X1.out (i := 0) rfl
 have ⟨c1, _⟩ := k.cell_of X1.out (i := 1) rfl
 go_wp2_with (go_at_call 33; fail)
 refine (CR.out _ (X4.out.mono HB.out)).mono ?_
 rintro e w3 ⟨rfl, hb⟩
 have Y1 := lh (X1.out.below hb (by omega))
 have Y2 := lh (X2.out.below hb (by omega))
 have Y3 := lh (X3.out.below hb (by omega))
 have Y4 := lh (X4.out.trans (hb.mono (by omega)))
 have y5 : w.heap.size + 2 < w3.heap.size := Nat.lt_of_lt_of_le x5 hb.size
 rw [h0]
 clear hb c0 c1 X1 X2 X3 X4 x5 CR
 have ⟨c0, _⟩ := k.cell_of Y1.out (i := 0) rfl
 have ⟨c1, _⟩ := k.cell_of Y1.out (i := 1) rfl
 have ⟨m0, _⟩ := k.cell_of Y2.out (i := 0) rfl
 have ⟨m1, _⟩ := k.cell_of Y2.out (i := 1) rfl
 have ⟨m2, _⟩ := k.cell_of Y2.out (i := 2) rfl
 have ⟨m3, _⟩ := k.cell_of Y2.out (i := 3) rfl
 have ⟨m4, _⟩ := k.cell_of Y2.out (i := 4) rfl
 have ⟨m5, _⟩ := k.cell_of Y2.out (i := 5) rfl
 have ⟨m6, _⟩ := k.cell_of Y2.out (i := 6) rfl
 have ⟨z0, zf0⟩ := k.cell_of Y3.out (i := 0) rfl
 have ⟨z1, zf1⟩ := k.cell_of Y3.out (i := 1) rfl
 go_wp2_with (go_at_call 57; fail)
 refine (CM.out _).mono ?_
 rintro e w4 ⟨rfl, hb⟩
 rw [hc0]
 have Z1 := lh (Y1.out.below hb (by omega))
 have Z2 := lh (Y2.out.below hb (by omega))
 have Z3 := lh (Y3.out.below hb (by omega))
 have Z4 := lh (Y4.out.trans (hb.mono (by omega)))
 have z5 : w.heap.size + 2 < w4.heap.size := Nat.lt_of_lt_of_le y5 hb.size
 clear hb Y1 Y2 Y3 Y4 y5 CM c0 c1 m0 m1 m2 m3 m4 m5 m6 z0 zf0 z1 zf1
 have ⟨c0, _⟩ := k.cell_of Z1.out (i := 0) rfl
 have ⟨c1, _⟩ := k.cell_of Z1.out (i := 1) rfl
 have ⟨m0, _⟩ := k.cell_of Z2.out (i := 0) rfl
 have ⟨m1, _⟩ := k.cell_of Z2.out (i := 1) rfl
 have ⟨m2, _⟩ := k.cell_of Z2.out (i := 2) rfl
 have ⟨m3, _⟩ := k.cell_of Z2.out (i := 3) rfl
 have ⟨m4, _⟩ := k.cell_of Z2.out (i := 4) rfl
 have ⟨m5, _⟩ := k.cell_of Z2.out (i := 5) rfl
 have ⟨m6, _⟩ := k.cell_of Z2.out (i := 6) rfl
 have ⟨z0, zf0⟩ := k.cell_of Z3.out (i := 0) rfl
 have ⟨z1, zf1⟩ := k.cell_of Z3.out (i := 1) rfl
 go_wp2_with (go_at_call 123; fail)
 refine (CC.out _ (Z4.out.mono HB.out)).mono ?_
 rintro e w5 ⟨v5, rfl, ho, hb⟩
 have HO := lh ho
 have Y1 := lh (Z1.out.below hb (by omega))
 have Y2 := lh (Z2.out.below hb (by omega))
 have Y3 := lh (Z3.out.below hb (by omega))
 have Y4 := lh (Z4.out.trans (hb.mono (by omega)))
 have y5 : w.heap.size + 2 < w5.heap.size := Nat.lt_of_lt_of_le z5 hb.size
 have S45 := lh hb.size
 obtain ⟨D, k1, d, rfl⟩ := ow_form ho
 clear hb ho Z1 Z2 Z3 Z4 c0 c1 m0 m1 m2 m3 m4 m5 m6 z0 zf0 z1 zf1 CC
 have ⟨c0, _⟩ := k.cell_of Y1.out (i := 0) rfl
 have ⟨c1, _⟩ := k.cell_of Y1.out (i := 1) rfl
 have ⟨m0, _⟩ := k.cell_of Y2.out (i := 0) rfl
 have ⟨m1, _⟩ := k.cell_of Y2.out (i := 1) rfl
 have ⟨m2, _⟩ := k.cell_of Y2.out (i := 2) rfl
 have ⟨m3, _⟩ := k.cell_of Y2.out (i := 3) rfl
 have ⟨m4, _⟩ := k.cell_of Y2.out (i := 4) rfl
 have ⟨m5, _⟩ := k.cell_of Y2.out (i := 5) rfl
 have ⟨m6, _⟩ := k.cell_of Y2.out (i := 6) rfl
 have ⟨z0, zf0⟩ := k.cell_of Y3.out (i := 0) rfl
 have ⟨z1, zf1⟩ := k.cell_of Y3.out (i := 1) rfl
 have hbA := (Below.refl w5.heap.size w5).alloc (Nat.le_refl _) (.cells #[.int .i64 c.id, .int .i64 c.kind, .int .i64 c.tgt, .int .i64 c.spd, .int .i64 c.mode, .int .i64 c.num, .int .i64 c.den] 62)
 have OA := lh (HO.out.under hbA)
 have SA := lh (Nat.le_trans S45.out hbA.size)
 have BA := lh hbA
 clear hbA
 go_wp2_with (first | (at_builtin; refine wpList_append_row cC_len (by omega) cC_one coms_slice com_info rfl (by omega) _ rfl (.tmp 31) (.tmp 33) rfl w4.heap.size _ (allL N W) rfl OA.out (w5.heap.size + 1) (some ⟨w5.heap.size, 0, none⟩) 1 1 [c] rfl (one_row w5 _ c _ rfl) (by have := HL.out; simp; omega) SA.out ?_; intro v7 w7 hown hg hat; have O7 := lh hown; have B7 := lh (OA.out.lays (BA.out.mono S45.out) (Nat.le_refl _) S45.out hg); clear hown hg hat) | (go_at_call 124; fail))
 obtain ⟨D7, k7, d7, rfl⟩ := ow_form O7.out
 have hb := B7.out
 have Z1 := lh (Y1.out.below hb (by omega))
 have Z2 := lh (Y2.out.below hb (by omega))
 have Z3 := lh (Y3.out.below hb (by omega))
 have Z4 := lh (Y4.out.trans (hb.mono (by omega)))
 have z7 : w.heap.size + 2 < w7.heap.size := Nat.lt_of_lt_of_le y5 hb.size
 have R7 := lh (ow_row O7.out)
 have HK7 : Hid (k7 ≤ 10000) := lh (by have h1 := R7.out.1; have h2 := HL.out; rw [List.length_append, List.length_singleton] at h1; omega)
 clear hb B7 O7 OA BA SA HO Y1 Y2 Y3 Y4 c0 c1 m0 m1 m2 m3 m4 m5 m6 z0 zf0 z1 zf1
 refine (lined_any (allL N W ++ [c]) R7.out (Nat.le_refl _) HK7.out).mono ?_
 rintro e w8 ⟨D1, k1', d1, D2, k2', d2, rfl, hr1, hr2, hb⟩
 have Y1 := lh (Z1.out.below hb (by omega))
 have Y2 := lh (Z2.out.below hb (by omega))
 have Y3 := lh (Z3.out.below hb (by omega))
 have Y4 := lh (Z4.out.trans (hb.mono (by omega)))
 have y8 : w.heap.size + 2 < w8.heap.size := Nat.lt_of_lt_of_le z7 hb.size
 have N1 := lh (new_of (w := w) hr1 (Nat.le_of_lt (Nat.lt_of_le_of_lt (Nat.le_add_right _ 2) z7)))
 have N2 := lh (new_of (w := w) hr2 (Nat.le_of_lt (Nat.lt_of_le_of_lt (Nat.le_add_right _ 2) z7)))
 have Q1 := lh (ow_row (ow_set (i := 1) (ow_set (i := 0) hr1 z7 (.slice D1 k1' d1)) z7 (.slice D2 k2' d2)))
 have Q2 := lh (ow_row (ow_set (i := 1) (ow_set (i := 0) hr2 z7 (.slice D1 k1' d1)) z7 (.slice D2 k2' d2)))
 clear hb hr1 hr2 R7 Z1 Z2 Z3 Z4
 have ⟨c0, _⟩ := k.cell_of Y1.out (i := 0) rfl
 have ⟨c1, _⟩ := k.cell_of Y1.out (i := 1) rfl
 have ⟨m0, _⟩ := k.cell_of Y2.out (i := 0) rfl
 have ⟨m1, _⟩ := k.cell_of Y2.out (i := 1) rfl
 have ⟨m2, _⟩ := k.cell_of Y2.out (i := 2) rfl
 have ⟨m3, _⟩ := k.cell_of Y2.out (i := 3) rfl
 have ⟨m4, _⟩ := k.cell_of Y2.out (i := 4) rfl
 have ⟨m5, _⟩ := k.cell_of Y2.out (i := 5) rfl
 have ⟨m6, _⟩ := k.cell_of Y2.out (i := 6) rfl
 have ⟨z0, zf0⟩ := k.cell_of Y3.out (i := 0) rfl
 have ⟨z1, zf1⟩ := k.cell_of Y3.out (i := 1) rfl
 go_wp2
 refine bodyPost_ret (v := .tuple #[lnV D1 k1' d1 D2 k2' d2, .slice none 0 0, .int .i64 0]) (by simp [results, Tryz.results99, go_sem, z0, z1]) rfl ⟨_, _, _, _, _, _, _, _, _, rfl, Q1.out, Q2.out, Rd.none_ _ _ _ _, (Y4.out.setCell (by show w.heap.size ≤ w.heap.size + 2; omega) _).setCell (by show w.heap.size ≤ w.heap.size + 2; omega) _, N1.out, N2.out, new_none _⟩
theorem add_own (N W : List C) (c : C) {A A' : Option Addr} {n cap m cap' B : Nat} {w : World} (h : RdC w B A n cap N) (h2 : RdC w B A' m cap' W) (hB : B ≤ w.heap.size) (hn : n ≤ 1000) (hm : m ≤ 1000) :
  Calls Tryz.prog 99 #[lnV A n cap A' m cap', cV c] w (GotAn (addN N W c) (addW N W c) (addI N W c) (addE N W c) w) := by
 by_cases hr : RightL N W
 ·by_cases hk : OkC c
  ·by_cases h0 : c.mode = 0
   ·obtain ⟨e1, e2, e3, e4⟩ := add_now (N := N) (W := W) ⟨hr, hk⟩ h0
    rw [e1, e2, e3, e4]
    exact add_abort N W c h h2 hB hn hm hr hk h0
   ·by_cases h4 : m = 4
    ·obtain ⟨e1, e2, e3, e4⟩ := add_full (N := N) (W := W) ⟨hr, hk⟩ h0 (by rw [h2.1]; exact h4)
     rw [e1, e2, e3, e4]
     exact add_filled N W c h h2 hB hn hm hr hk h0 h4
    ·obtain ⟨e1, e2, e3, e4⟩ := add_more (N := N) (W := W) ⟨hr, hk⟩ h0 (by rw [h2.1]; exact h4)
     rw [e1, e2, e3, e4]
     exact add_behind N W c h h2 hB hn hm hr hk h0 h4
  ·obtain ⟨e1, e2, e3, e4⟩ := add_no (N := N) (W := W) (c := c) fun h => hk h.2
   rw [e1, e2, e3, e4]
   exact add_modeless N W c h h2 hB hn hm hr hk
 ·obtain ⟨e1, e2, e3, e4⟩ := add_no (N := N) (W := W) (c := c) fun h => hr h.1
  rw [e1, e2, e3, e4]
  exact add_wrong N W c h h2 hB hn hm hr
end Go.Proofs.YtijlccblabadaaaGreat.ln
end
