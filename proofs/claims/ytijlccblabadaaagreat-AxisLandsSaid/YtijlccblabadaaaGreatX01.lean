/- What a right axis' drive is told moves by no more than it may; its state goes by one edge or stays. No condition beyond what each line says. An axis in ErrorStop, an axis to which nothing comes, and an axis whose place is moved. No condition beyond what each line says. A move that is taken by an axis that stands still lands at its place, if nothing else comes. No condition beyond what each line says. -/
import Derived.Test.YtijlccblabadaaaGreatU02
section
namespace Go.Proofs.YtijlccblabadaaaGreat.ax
open Go.Proofs.YtijlccblabadaaaGreat.ln (C)
open Go.Proofs.YtijlccblabadaaaGreat.hm (H)
open Go.Proofs.YtijlccblabadaaaGreat.ed (nxS nxB)
set_option linter.unusedVariables false
theorem sum_shift : ∀ (L : List Int) (q : Int), Near (q :: L) → sumOf ((q :: L).dropLast) - sumOf L ≤ L.length * 1048576 ∧ sumOf L - sumOf ((q :: L).dropLast) ≤ L.length * 1048576
 | [], _, _ => by simp [sumOf]
 | [x], q, h => by
  obtain ⟨h1, h2, _⟩ := h
  simp only [sumOf, List.dropLast, List.foldr_cons, List.foldr_nil, List.length_cons, List.length_nil]
  omega
 | x :: y :: T, q, h => by
  obtain ⟨h1, h2, h3⟩ := h
  have ih := sum_shift (y :: T) x h3
  have e1 : sumOf ((q :: x :: y :: T).dropLast) = q + sumOf ((x :: y :: T).dropLast) := rfl
  have e2 : sumOf (x :: y :: T) = x + sumOf (y :: T) := rfl
  rw [e1, e2, List.length_cons]
  omega
theorem near_cons {q p : Int} (h1 : q - p ≤ 1048576) (h2 : p - q ≤ 1048576) : ∀ {L : List Int}, (∀ x, L.head? = some x → x = p) → Near L → Near (q :: L)
 | [], _, _ => trivial
 | x :: T, hp, h => by
  have e := hp x rfl
  subst e
  exact ⟨h1, h2, h⟩
theorem out_pushed {a : Ax} (h : RightA a) (i : In) : outA (pushed (movedA a i)) - outA a ≤ a.win * 1048576 ∧ outA a - outA (pushed (movedA a i)) ≤ a.win * 1048576 := by
 have hm := moved_to a i
 obtain ⟨_, d1, d2⟩ := moved_by h i
 have hn := near_cons d1 d2 h.newest h.near
 obtain ⟨s1, s2⟩ := sum_shift a.sm _ hn
 have hlen := h.len
 have hw := h.win1
 have e : outA (pushed (movedA a i)) = sumOf (((movedA a i).p :: a.sm).dropLast) + a.win * a.off := by
  unfold outA pushed
  dsimp only
  rw [hm.sm, hm.win, hm.off]
  cases hs : a.sm with
  | nil => rw [hs] at hlen; simp at hlen; omega
  | cons x T => rfl
 rw [e]
 unfold outA
 rw [hlen] at s1 s2
 omega
theorem out_ended (a : Ax) (e m : Int) : outA (endedA a e m) = outA a := by
 unfold endedA
 split <;> rfl
theorem out_found {a : Ax} (h : RightA a) (hs : StillP a) : outA (found a) = outA a := by
 have hlen := h.len
 have hw := h.win1
 have hall : ∀ x ∈ a.sm, x = a.p := fun x hx => by
  have h1 := hs.1 x hx
  cases hsm : a.sm with
  | nil => rw [hsm] at hx; cases hx
  | cons y T =>
   rw [hsm] at h1
   rw [h1]
   exact h.newest y (by rw [hsm]; rfl)
 have e1 : sumOf a.sm = a.win * a.p := by rw [sum_same hall, hlen]
 have e2 : sumOf (full a.win a.homeAt) = a.win * a.homeAt := by unfold full; rw [sum_rep, show ((a.win.toNat : Nat) : Int) = a.win by omega]
 show sumOf (full a.win a.homeAt) + a.win * (a.off - (a.homeAt - a.p)) = sumOf a.sm + a.win * a.off
 rw [e1, e2, Int.mul_sub, Int.mul_sub]
 omega
theorem out_last {a : Ax} (h : RightA a) (passed : Bool) (i : In) : outA (lastA a passed i) = outA a := by
 unfold lastA
 split
 ·exact out_ended _ _ _
 ·split
  ·split
   ·rfl
   ·split <;> rfl
  ·split
   ·rename_i h2
    split
    ·split
     ·rw [out_ended]; exact out_found h h2.2.2
     ·exact out_found h h2.2.2
    ·rfl
   ·split <;> rfl
theorem all_same (m : Int) (fresh : Bool) : ∀ (L : List C) (a : Ax), (allA m fresh L a).sm = a.sm ∧ (allA m fresh L a).off = a.off ∧ (allA m fresh L a).win = a.win ∧ (allA m fresh L a).p = a.p ∧ (allA m fresh L a).v = a.v
 | [], a => ⟨rfl, rfl, rfl, rfl, rfl⟩
 | c :: L, a => by
  obtain ⟨h1, h2, h3, h4, h5⟩ := all_same m fresh L (givenA a c m fresh)
  obtain ⟨g1, g2, g3, g4, g5⟩ := given_same a c m fresh
  show (allA m fresh L (givenA a c m fresh)).sm = a.sm ∧ (allA m fresh L (givenA a c m fresh)).off = a.off ∧ (allA m fresh L (givenA a c m fresh)).win = a.win ∧ (allA m fresh L (givenA a c m fresh)).p = a.p ∧ (allA m fresh L (givenA a c m fresh)).v = a.v
  exact ⟨h1.trans g1, h2.trans g2, h3.trans g3, h4.trans g4, h5.trans g5⟩
theorem Tr.trans {s t u : Int} (h : Tr s t) (h2 : Tr t u) : Tr s u := by unfold Tr at *; omega
theorem given_st {a : Ax} (h : RightA a) (c : C) (m : Int) (fresh : Bool) : givenA a c m fresh = a ∨ (Tr a.st (givenA a c m fresh).st ∧ (givenA a c m fresh).N ≠ [] ∧ a.st ≠ 0 ∧ a.st ≠ 7 ∧ fresh = false) := by
 unfold givenA
 split
 ·rename_i ht
  refine .inr ?_
  obtain ⟨hk, hf, he⟩ := ht
  obtain ⟨hl, ho, hadd⟩ := add_ok he
  have hb := begins_of hk
  have hst : a.st ≠ 0 ∧ a.st ≠ 7 := by
   rcases hb with ⟨q, _⟩ | ⟨_, q, _⟩ | ⟨_, q | q⟩ | ⟨_, q⟩ | ⟨_, q, _⟩
   ·unfold takesP at q; omega
   ·unfold takesP at q; omega
   ·unfold takesP at q; omega
   ·omega
   ·omega
   ·unfold takesP at q; omega
  have hbeg : Tr a.st (nxS a.st (evOf (keptC a c).kind)) := by
   rcases hb with ⟨q, hm | hm⟩ | ⟨hm, q, _⟩ | ⟨hm, q⟩ | ⟨hm, q⟩ | ⟨hm, q, _⟩
   ·rw [show evOf (keptC a c).kind = 5 by rw [hm.1]; rfl, nx5 q]; unfold takesP at q; unfold Tr; omega
   ·rw [show evOf (keptC a c).kind = 5 by rw [hm]; rfl, nx5 q]; unfold takesP at q; unfold Tr; omega
   ·rw [show evOf (keptC a c).kind = 6 by rw [hm]; rfl, nx6 q]; unfold takesP at q; unfold Tr; omega
   ·rw [show evOf (keptC a c).kind = 8 by rw [hm]; rfl, nx8 q]; unfold takesP at q; unfold Tr; omega
   ·rw [show evOf (keptC a c).kind = 3 by rw [hm]; rfl, show nxS a.st 3 = 2 by rw [q]; rfl]; unfold Tr; omega
   ·rw [show evOf (keptC a c).kind = 7 by rw [hm]; rfl, nx7 q]; unfold takesP at q; unfold Tr; omega
  have hne : ln.addN a.N a.W (keptC a c) ≠ [] := by
   rcases hadd with ⟨_, e1, _⟩ | ⟨_, _, e1, _⟩
   ·rw [e1]; simp
   ·rw [e1]; cases a.N <;> cases a.W <;> simp
  split
  ·exact ⟨hbeg, hne, hst.1, hst.2, hf⟩
  ·exact ⟨.inl rfl, hne, hst.1, hst.2, hf⟩
 ·exact .inl rfl
theorem all_st (m : Int) (fresh : Bool) : ∀ (L : List C) {a : Ax}, RightA a → allA m fresh L a = a ∨ (Tr a.st (allA m fresh L a).st ∧ (allA m fresh L a).N ≠ [] ∧ a.st ≠ 0 ∧ a.st ≠ 7 ∧ fresh = false)
 | [], a, _ => .inl rfl
 | c :: L, a, h => by
  show allA m fresh L (givenA a c m fresh) = a ∨ (Tr a.st (allA m fresh L (givenA a c m fresh)).st ∧ (allA m fresh L (givenA a c m fresh)).N ≠ [] ∧ a.st ≠ 0 ∧ a.st ≠ 7 ∧ fresh = false)
  have ih := all_st m fresh L (given_right h c m fresh)
  rcases given_st h c m fresh with e | ⟨t1, n1, s1, s2, f⟩
  ·rw [e] at ih ⊢; exact ih
  ·rcases ih with e | ⟨t2, n2, _⟩
   ·rw [e]; exact .inr ⟨t1, n1, s1, s2, f⟩
   ·exact .inr ⟨t1.trans t2, n2, s1, s2, f⟩
theorem edge_err {s : Int} (h0 : 0 ≤ s) (h7 : s ≤ 7) : EdgeP s 7 := by
 refine .inr ⟨11, by omega, by omega, ?_, nx11 h0 h7⟩
 rcases ed.eight_of s h0 h7 with rfl | rfl | rfl | rfl | rfl | rfl | rfl | rfl <;> rfl
theorem edge_off {s : Int} (h0 : 1 ≤ s) (h7 : s ≤ 7) : EdgeP s 0 := by
 refine .inr ⟨2, by omega, by omega, ?_, nx2 (by omega) h7⟩
 rcases ed.eight_of s (by omega) h7 with rfl | rfl | rfl | rfl | rfl | rfl | rfl | rfl
 ·omega
 all_goals rfl
theorem edge_tr {s t : Int} (h : Tr s t) : EdgeP s t := by
 have aux : ∀ (s t e : Int), 1 ≤ e → e ≤ 12 → nxB s e = true → nxS s e = t → EdgeP s t := fun s t e h1 h2 h3 h4 => .inr ⟨e, h1, h2, h3, h4⟩
 unfold Tr at h
 rcases h with h | ⟨rfl, h1, h2⟩ | ⟨h1, h2, h3, h4⟩ | ⟨rfl, rfl⟩
 ·exact .inl h
 ·have : t = 2 ∨ t = 3 ∨ t = 4 ∨ t = 5 ∨ t = 6 := by omega
  rcases this with rfl | rfl | rfl | rfl | rfl
  ·exact aux 1 2 3 (by omega) (by omega) rfl rfl
  ·exact aux 1 3 8 (by omega) (by omega) rfl rfl
  ·exact aux 1 4 5 (by omega) (by omega) rfl rfl
  ·exact aux 1 5 6 (by omega) (by omega) rfl rfl
  ·exact aux 1 6 7 (by omega) (by omega) rfl rfl
 ·have hs : s = 4 ∨ s = 5 ∨ s = 6 := by omega
  have ht : t = 3 ∨ t = 4 ∨ t = 5 ∨ t = 6 := by omega
  rcases hs with rfl | rfl | rfl <;> rcases ht with rfl | rfl | rfl | rfl
  all_goals first
   | exact aux _ 3 8 (by omega) (by omega) rfl rfl
   | exact aux _ 4 5 (by omega) (by omega) rfl rfl
   | exact aux _ 5 6 (by omega) (by omega) rfl rfl
   | exact aux _ 6 7 (by omega) (by omega) rfl rfl
 ·exact aux 2 3 8 (by omega) (by omega) rfl rfl
theorem first_is {a : Ax} (h : RightA a) (i : In) :
  (firstA a i = failed a (causeOf a i) ∧ firstF a i = false ∧ (firstA a i).st = 7 ∧ a.st ≠ 7) ∨ (firstA a i = goes { a with cause := 0 } 12 ∧ firstF a i = true ∧ a.st = 7 ∧ (firstA a i).st = 1) ∨
  (firstA a i = goes (stood { a with N := [], W := [] } a.p) 2 ∧ firstF a i = false ∧ a.st ≠ 0 ∧ (firstA a i).st = 0) ∨ (firstF a i = true ∧ a.st = 0 ∧ (firstA a i).st = 1) ∨ (firstA a i = a ∧ firstF a i = false) := by
 unfold firstA firstF
 by_cases hc : causeOf a i ≠ 0 ∧ a.st ≠ 7
 ·simp only [if_pos hc]
  exact .inl ⟨trivial, trivial, nx11 h.st0 h.st7, hc.2⟩
 ·simp only [if_neg hc]
  by_cases h7 : a.st = 7
  ·simp only [if_pos h7]
   by_cases hr : causeOf a i = 0 ∧ i.reset = true ∧ i.op = true ∧ StillP a
   ·simp only [if_pos hr]
    exact .inr (.inl ⟨trivial, decide_eq_true hr, h7, by show nxS a.st 12 = 1; rw [h7]; rfl⟩)
   ·simp only [if_neg hr]
    exact .inr (.inr (.inr (.inr ⟨trivial, decide_eq_false hr⟩)))
  ·simp only [if_neg h7]
   by_cases ho : a.st ≠ 0 ∧ i.power = false
   ·simp only [if_pos ho]
    exact .inr (.inr (.inl ⟨trivial, trivial, ho.1, nx2 h.st0 h.st7⟩))
   ·simp only [if_neg ho]
    by_cases hs : a.st = 0 ∧ i.power = true ∧ i.op = true
    ·simp only [if_pos hs]
     unfold switched
     by_cases hw : SwP a i.actual
     ·simp only [if_pos hw]
      exact .inr (.inr (.inr (.inl ⟨decide_eq_true ⟨hs.1, hs.2.1, hs.2.2, hw⟩, hs.1, by show nxS a.st 1 = 1; rw [hs.1]; rfl⟩)))
     ·simp only [if_neg hw]
      exact .inr (.inr (.inr (.inr ⟨trivial, decide_eq_false fun h => hw h.2.2.2⟩)))
    ·simp only [if_neg hs]
     exact .inr (.inr (.inr (.inr ⟨trivial, decide_eq_false fun h => hs ⟨h.1, h.2.1, h.2.2.1⟩⟩)))
theorem pre_is {a : Ax} (h : RightA a) (i : In) :
  ((preA a i).st = 7 ∧ (preA a i).sm = a.sm ∧ (preA a i).off = a.off ∧ (preA a i).win = a.win ∧ a.st ≠ 7) ∨ ((preA a i).st = 1 ∧ a.st = 7 ∧ (preA a i).sm = a.sm ∧ (preA a i).off = a.off ∧ (preA a i).win = a.win) ∨
  ((preA a i).st = 0 ∧ a.st ≠ 0) ∨ ((preA a i).st = 1 ∧ a.st = 0) ∨
  (Tr a.st (preA a i).st ∧ ((preA a i).st = 3 → a.st = 3 ∨ (preA a i).N ≠ []) ∧ (a.st = 0 → preA a i = overA a i) ∧ (preA a i).sm = a.sm ∧ (preA a i).off = a.off ∧ (preA a i).win = a.win) := by
 have ho := over_right h i
 have hf := first_right ho i
 have ha := all_st i.master (firstF (overA a i) i) i.cmds hf
 obtain ⟨s1, s2, s3, s4, s5⟩ := all_same i.master (firstF (overA a i) i) i.cmds (firstA (overA a i) i)
 have hp : preA a i = allA i.master (firstF (overA a i) i) i.cmds (firstA (overA a i) i) := rfl
 rw [hp]
 rcases first_is ho i with ⟨e, f, hs, h7⟩ | ⟨e, f, h7, hs⟩ | ⟨e, f, h0, hs⟩ | ⟨f, h0, hs⟩ | ⟨e, f⟩
 ·refine .inl ?_
  rcases ha with e2 | ⟨_, _, _, n7, _⟩
  ·rw [s1, s2, s3, e2]
   exact ⟨hs, by rw [e]; rfl, by rw [e]; rfl, by rw [e]; rfl, h7⟩
  ·exact absurd hs n7
 ·refine .inr (.inl ?_)
  rcases ha with e2 | ⟨_, _, _, _, n7⟩
  ·rw [s1, s2, s3, e2]
   exact ⟨hs, h7, by rw [e]; rfl, by rw [e]; rfl, by rw [e]; rfl⟩
  ·rw [f] at n7; cases n7
 ·refine .inr (.inr (.inl ?_))
  rcases ha with e2 | ⟨_, _, n0, _⟩
  ·rw [e2]; exact ⟨hs, h0⟩
  ·exact absurd hs n0
 ·refine .inr (.inr (.inr (.inl ?_)))
  rcases ha with e2 | ⟨_, _, _, _, n7⟩
  ·rw [e2]; exact ⟨hs, h0⟩
  ·rw [f] at n7; cases n7
 ·refine .inr (.inr (.inr (.inr ?_)))
  rw [s1, s2, s3]
  rw [e] at ha ⊢
  rcases ha with e2 | ⟨t, n, n0, _, _⟩
  ·rw [e2]
   exact ⟨.inl rfl, fun h3 => .inl h3, fun _ => rfl, rfl, rfl, rfl⟩
  ·exact ⟨t, fun _ => .inr n, fun h0 => absurd h0 n0, rfl, rfl, rfl⟩
theorem last_st {a : Ax} (h : RightA a) (passed : Bool) (i : In) : (lastA a passed i).st = a.st ∨ (a.st = 4 ∧ (lastA a passed i).st = 1) ∨ (a.st = 3 ∧ a.N = [] ∧ (lastA a passed i).st = 1) ∨ (a.st = 2 ∧ ((lastA a passed i).st = 1 ∨ (lastA a passed i).st = 7)) := by
 unfold lastA
 split
 ·rename_i hm
  obtain ⟨h4, hN, _⟩ := hm
  unfold endedA
  cases hW : a.W with
  | nil => exact .inr (.inl ⟨h4, by show nxS a.st 10 = 1; rw [h4]; rfl⟩)
  | cons n R =>
   have hr := h.lined
   cases hc : a.N with
   | nil => exact absurd hc hN
   | cons c T =>
    refine .inl ?_
    show nxS a.st (evOf n.kind) = a.st
    have hk : n.kind = 1 := by
     rcases one_lined hr hc with ⟨q, _⟩ | ⟨q, _⟩ | ⟨q, _⟩ | ⟨q, _⟩ | ⟨_, ⟨_, q⟩ | ⟨_, q⟩⟩
     ·omega
     ·omega
     ·omega
     ·omega
     ·rw [hW] at q; cases q
     ·exact (q n (by rw [hW]; exact List.mem_cons_self)).1.1
    rw [h4, hk]; rfl
 ·split
  ·rename_i h3
   split
   ·exact .inl rfl
   ·rename_i hN
    split
    ·exact .inr (.inr (.inl ⟨h3.1, Classical.byContradiction hN, by show nxS a.st 9 = 1; rw [h3.1]; rfl⟩))
    ·exact .inl rfl
  ·split
   ·rename_i h2
    refine .inr (.inr (.inr ⟨h2.1, ?_⟩))
    obtain ⟨_, hW⟩ := home_line h h2.1
    split
    ·split
     ·refine .inl ?_
      unfold endedA
      rw [show (found a).W = [] from hW]
      show nxS a.st 4 = 1; rw [h2.1]; rfl
     ·exact .inl (by show nxS a.st 4 = 1; rw [h2.1]; rfl)
    ·exact .inr (nx11 h.st0 h.st7)
   ·split
    ·rename_i h2
     exact .inr (.inr (.inr ⟨h2.1, .inr (nx11 h.st0 h.st7)⟩))
    ·exact .inl rfl
theorem last_zero {a : Ax} (h0 : a.st = 0) (passed : Bool) (i : In) : lastA a passed i = a := by
 unfold lastA
 rw [if_neg (fun h => by have := h.1; omega), if_neg (fun h => by have := h.1; omega), if_neg (fun h => by have := h.1; omega), if_neg (fun h => by have := h.1; omega)]
theorem push_st (a : Ax) (i : In) : (pushed (movedA a i)).st = a.st ∧ (pushed (movedA a i)).N = a.N := ⟨(moved_to a i).st, (moved_to a i).N⟩
theorem step_edge {a : Ax} (h : RightA a) (i : In) : EdgeP a.st (stepA a i).st := by
 have hp := pre_right h i
 have hl := last_st (pushed_right hp i) (byB (preA a i) i) i
 rw [(push_st (preA a i) i).1, (push_st (preA a i) i).2] at hl
 have e : (stepA a i).st = (lastA (pushed (movedA (preA a i) i)) (byB (preA a i) i) i).st := rfl
 rw [e]
 have h0 := h.st0
 have h7 := h.st7
 have aux : ∀ (s t e : Int), 1 ≤ e → e ≤ 12 → nxB s e = true → nxS s e = t → EdgeP s t := fun s t e h1 h2 h3 h4 => .inr ⟨e, h1, h2, h3, h4⟩
 generalize (lastA (pushed (movedA (preA a i) i)) (byB (preA a i) i) i).st = t at hl ⊢
 rcases pre_is h i with ⟨hs, _⟩ | ⟨hs, h1, _⟩ | ⟨hs, h1⟩ | ⟨hs, h1⟩ | ⟨ht, h3, _⟩
 ·have e : t = 7 := by rcases hl with q | ⟨q, _⟩ | ⟨q, _⟩ | ⟨q, _⟩ <;> omega
  rw [e]; exact edge_err h0 h7
 ·have e : t = 1 := by rcases hl with q | ⟨q, _⟩ | ⟨q, _⟩ | ⟨q, _⟩ <;> omega
  rw [e, h1]; exact aux 7 1 12 (by omega) (by omega) rfl rfl
 ·have e : t = 0 := by rcases hl with q | ⟨q, _⟩ | ⟨q, _⟩ | ⟨q, _⟩ <;> omega
  rw [e]; exact edge_off (by omega) h7
 ·have e : t = 1 := by rcases hl with q | ⟨q, _⟩ | ⟨q, _⟩ | ⟨q, _⟩ <;> omega
  rw [e, h1]; exact aux 0 1 1 (by omega) (by omega) rfl rfl
 ·rcases hl with q | ⟨q, r⟩ | ⟨q, q2, r⟩ | ⟨q, r | r⟩
  ·rw [q]; exact edge_tr ht
  ·rw [r]
   unfold Tr at ht
   have : a.st = 1 ∨ a.st = 4 ∨ a.st = 5 ∨ a.st = 6 := by omega
   rcases this with e | e | e | e
   ·rw [e]; exact .inl rfl
   ·rw [e]; exact aux 4 1 10 (by omega) (by omega) rfl rfl
   ·rw [e]; exact aux 5 1 10 (by omega) (by omega) rfl rfl
   ·rw [e]; exact aux 6 1 10 (by omega) (by omega) rfl rfl
  ·rw [r]
   rcases h3 q with e | e
   ·rw [e]; exact aux 3 1 9 (by omega) (by omega) rfl rfl
   ·exact absurd q2 e
  ·rw [r]
   unfold Tr at ht
   have : a.st = 1 ∨ a.st = 2 := by omega
   rcases this with e | e
   ·rw [e]; exact .inl rfl
   ·rw [e]; exact aux 2 1 4 (by omega) (by omega) rfl rfl
  ·rw [r]; exact edge_err h0 h7
theorem step_out {a : Ax} (h : RightA a) (i : In) (hs : (stepA a i).st = 0 ↔ a.st = 0) : outA (stepA a i) - outA a ≤ a.win * 1048576 ∧ outA a - outA (stepA a i) ≤ a.win * 1048576 := by
 have hp := pre_right h i
 have hpp := pushed_right hp i
 have hl := last_st hpp (byB (preA a i) i) i
 rw [(push_st (preA a i) i).1] at hl
 have e : (stepA a i).st = (lastA (pushed (movedA (preA a i) i)) (byB (preA a i) i) i).st := rfl
 rw [e] at hs
 have eo : outA (stepA a i) = outA (pushed (movedA (preA a i) i)) := out_last hpp _ i
 have ho := out_pushed hp i
 have key : (preA a i).sm = a.sm → (preA a i).off = a.off → (preA a i).win = a.win → outA (stepA a i) - outA a ≤ a.win * 1048576 ∧ outA a - outA (stepA a i) ≤ a.win * 1048576 := fun e1 e2 e3 => by
  have e4 : outA (preA a i) = outA a := by unfold outA; rw [e1, e2, e3]
  rw [eo, ← e3, ← e4]
  exact ho
 rcases pre_is h i with ⟨_, e1, e2, e3, _⟩ | ⟨_, _, e1, e2, e3⟩ | ⟨q, q2⟩ | ⟨q, q2⟩ | ⟨_, _, _, e1, e2, e3⟩
 ·exact key e1 e2 e3
 ·exact key e1 e2 e3
 ·exfalso
  have : (lastA (pushed (movedA (preA a i) i)) (byB (preA a i) i) i).st = 0 := by rcases hl with r | ⟨r, _⟩ | ⟨r, _⟩ | ⟨r, _⟩ <;> omega
  exact q2 (hs.1 this)
 ·exfalso
  have := hs.2 q2
  rcases hl with r | ⟨r, _⟩ | ⟨r, _⟩ | ⟨r, _⟩ <;> omega
 ·exact key e1 e2 e3
theorem step_off {a : Ax} (h : RightA a) (i : In) (h0 : a.st = 0) (hs : (stepA a i).st = 0) : (stepA a i).p = a.p ∧ (stepA a i).v = a.v := by
 have hp := pre_right h i
 have hpp := pushed_right hp i
 have hl := last_st hpp (byB (preA a i) i) i
 rw [(push_st (preA a i) i).1] at hl
 have e : (stepA a i).st = (lastA (pushed (movedA (preA a i) i)) (byB (preA a i) i) i).st := rfl
 rw [e] at hs
 rcases pre_is h i with ⟨q, _⟩ | ⟨_, q, _⟩ | ⟨q, q2⟩ | ⟨q, q2⟩ | ⟨_, _, q, _⟩
 ·rcases hl with r | ⟨r, _⟩ | ⟨r, _⟩ | ⟨r, _⟩ <;> omega
 ·omega
 ·omega
 ·rcases hl with r | ⟨r, _⟩ | ⟨r, _⟩ | ⟨r, _⟩ <;> omega
 ·have q := q h0
  have hst : (preA a i).st = 0 := by rw [q]; exact h0
  unfold stepA
  rw [last_zero (by rw [(push_st (preA a i) i).1]; exact hst)]
  unfold pushed movedA
  rw [if_pos hst, q]
  exact ⟨rfl, rfl⟩
end Go.Proofs.YtijlccblabadaaaGreat.ax
end
section
namespace Go.Proofs.YtijlccblabadaaaGreat.ax
open Go.Proofs.YtijlccblabadaaaGreat.ln (C)
open Go.Proofs.YtijlccblabadaaaGreat.hm (H)
open Go.Proofs.YtijlccblabadaaaGreat.ed (nxS nxB)
set_option linter.unusedVariables false
theorem taken_st {a : Ax} {c : C} {fresh : Bool} (h : TakenP a c fresh) : a.st ≠ 0 ∧ a.st ≠ 7 ∧ fresh = false := by
 obtain ⟨hk, hf, _⟩ := h
 refine ⟨?_, ?_, hf⟩ <;>
 ·rcases begins_of hk with ⟨q, _⟩ | ⟨_, q, _⟩ | ⟨_, q | q⟩ | ⟨_, q⟩ | ⟨_, q, _⟩
  ·unfold takesP at q; omega
  ·unfold takesP at q; omega
  ·unfold takesP at q; omega
  ·omega
  ·omega
  ·unfold takesP at q; omega
theorem refused_all (m : Int) {fresh : Bool} {a : Ax} (h : ∀ c, ¬ TakenP a c fresh) : ∀ L : List C, allA m fresh L a = a ∧ allR m fresh L a = L.map fun c => (c.id, 5)
 | [] => ⟨rfl, rfl⟩
 | c :: L => by
  have e : givenA a c m fresh = a := if_neg (h c)
  have e2 : givenR a c fresh = [(c.id, 5)] := if_neg (h c)
  obtain ⟨h1, h2⟩ := refused_all m h L
  refine ⟨?_, ?_⟩
  ·show allA m fresh L (givenA a c m fresh) = a
   rw [e]; exact h1
  ·show givenR a c fresh ++ allR m fresh L (givenA a c m fresh) = _
   rw [e, e2, h2]; rfl
theorem slows {a : Ax} (h : RightA a) : max (gn.stepV (bounds a) a.p a.v 0) (-gn.stepV (bounds a) a.p a.v 0) ≤ max (max a.v (-a.v) - a.l.D) 0 := by
 have hr := bounds_right h.limits
 have hD := (bounds_D a).1
 by_cases hv : 0 ≤ a.v
 ·rw [gn.stop_up hr h.safe hv, hD]
  unfold b.nextV; omega
 ·rw [gn.stop_down hr h.safe (by omega), hD]
  unfold b.nextV; omega
theorem err_first {a : Ax} (h : RightA a) (h0 : a.st ≠ 0) {i : In} (hc : i.cause ≠ 0) (hi : i.cmds = []) :
  (stepA a i).st = 7 ∧ (a.st ≠ 7 → (stepA a i).cause = i.cause ∧ (stepR a i).length = a.N.length + a.W.length ∧ (stepA a i).N = []) := by
 have hco : causeOf (overA a i) i = i.cause := by
  unfold causeOf
  rw [if_neg (show ¬ (overA a i).st = 0 from h0), if_pos (.inl hc)]
 by_cases h7 : a.st = 7
 ·refine ⟨?_, fun h => absurd h7 h⟩
  have e1 : firstA (overA a i) i = overA a i := by
   unfold firstA
   rw [if_neg (fun hh => hh.2 h7), if_pos (show (overA a i).st = 7 from h7), if_neg (fun hh => hc (by rw [← hco]; exact hh.1))]
  have e2 : preA a i = overA a i := by unfold preA; rw [hi, e1]; rfl
  unfold stepA
  rw [e2]
  have es : (pushed (movedA (overA a i) i)).st = 7 := by rw [(push_st _ _).1]; exact h7
  rw [(last_same (by omega) (by omega) (by omega) _ _).1]
  exact es
 ·have e1 : firstA (overA a i) i = failed (overA a i) i.cause := by
   unfold firstA
   rw [if_pos ⟨by rw [hco]; exact hc, h7⟩, hco]
  have e3 : firstR (overA a i) i = failedR (overA a i) := by
   unfold firstR
   rw [if_pos ⟨by rw [hco]; exact hc, h7⟩]
  have e2 : preA a i = failed (overA a i) i.cause := by unfold preA; rw [hi, e1]; rfl
  have e4 : preR a i = failedR (overA a i) := by unfold preR; rw [hi, e3]; show failedR (overA a i) ++ [] = _; rw [List.append_nil]
  have es : (failed (overA a i) i.cause).st = 7 := nx11 h.st0 h.st7
  have ep : (pushed (movedA (failed (overA a i) i.cause) i)).st = 7 := by rw [(push_st _ _).1]; exact es
  obtain ⟨l1, l2⟩ := last_same (a := pushed (movedA (failed (overA a i) i.cause) i)) (by omega) (by omega) (by omega) (byB (failed (overA a i) i.cause) i) i
  have em := moved_none (a := failed (overA a i) i.cause) (by omega) (by omega) rfl i
  unfold stepA stepR
  rw [e2, l1, e4, l2]
  refine ⟨ep, fun _ => ⟨?_, ?_, ?_⟩⟩
  ·rw [em]; rfl
  ·rw [List.append_nil]; unfold failedR told; rw [List.length_append, List.length_map, List.length_map]; rfl
  ·rw [em]; rfl
theorem err_next {a : Ax} (h : RightA a) (h7 : a.st = 7) (i : In) :
  ((stepA a i).st ≠ 7 → (stepA a i).st = 1 ∧ i.reset = true ∧ i.op = true ∧ i.cause = 0 ∧ a.v = 0) ∧
  ((stepA a i).st = 7 → max (stepA a i).v (-(stepA a i).v) ≤ max (max a.v (-a.v) - a.l.D) 0 ∧ (∀ r ∈ stepR a i, r.2 = 5) ∧ (stepA a i).N = [] ∧ (stepA a i).l = a.l) := by
 have ho := over_right h i
 have hco : causeOf (overA a i) i = i.cause := by
  unfold causeOf
  rw [if_neg (show ¬ (overA a i).st = 0 by show ¬ a.st = 0; omega), if_pos (.inr h7)]
 by_cases hr : causeOf (overA a i) i = 0 ∧ i.reset = true ∧ i.op = true ∧ StillP (overA a i)
 ·have e1 : firstA (overA a i) i = goes { overA a i with cause := 0 } 12 := by
   unfold firstA
   rw [if_neg (fun hh => hh.2 h7), if_pos (show (overA a i).st = 7 from h7), if_pos hr]
  have ef : firstF (overA a i) i = true := by
   unfold firstF
   rw [if_neg (fun hh => hh.2 h7), if_pos (show (overA a i).st = 7 from h7)]
   exact decide_eq_true hr
  have es : (goes { overA a i with cause := 0 } 12).st = 1 := by show nxS a.st 12 = 1; rw [h7]; rfl
  have e2 : preA a i = goes { overA a i with cause := 0 } 12 := by
   unfold preA
   rw [ef, e1]
   exact (refused_all _ (fun c hc => by have := (taken_st hc).2.2; cases this) _).1
  have ep : (pushed (movedA (goes { overA a i with cause := 0 } 12) i)).st = 1 := by rw [(push_st _ _).1]; exact es
  have e3 : (stepA a i).st = 1 := by
   unfold stepA
   rw [e2, (last_same (by omega) (by omega) (by omega) _ _).1]
   exact ep
  exact ⟨fun _ => ⟨e3, hr.2.1, hr.2.2.1, by rw [← hco]; exact hr.1, hr.2.2.2.2⟩, fun h => by omega⟩
 ·have e1 : firstA (overA a i) i = overA a i := by
   unfold firstA
   rw [if_neg (fun hh => hh.2 h7), if_pos (show (overA a i).st = 7 from h7), if_neg hr]
  have e4 : firstR (overA a i) i = [] := by
   unfold firstR
   rw [if_neg (fun hh => hh.2 h7), if_pos (show (overA a i).st = 7 from h7)]
  obtain ⟨q1, q2⟩ := refused_all i.master (a := overA a i) (fresh := firstF (overA a i) i) (fun c hc => (taken_st hc).2.1 h7) i.cmds
  have e2 : preA a i = overA a i := by unfold preA; rw [e1]; exact q1
  have e5 : preR a i = i.cmds.map fun c => (c.id, 5) := by unfold preR; rw [e4, e1, q2]; rfl
  have es : (overA a i).st = 7 := h7
  have hN : (overA a i).N = [] := (h.none (.inr (.inr h7))).1
  have ep : (pushed (movedA (overA a i) i)).st = 7 := by rw [(push_st _ _).1]; exact h7
  obtain ⟨l1, l2⟩ := last_same (a := pushed (movedA (overA a i) i)) (by omega) (by omega) (by omega) (byB (overA a i) i) i
  have em := moved_none (a := overA a i) (by omega) (by omega) hN i
  have e6 : stepA a i = pushed (movedA (overA a i) i) := by unfold stepA; rw [e2, l1]
  have e7 : stepR a i = i.cmds.map fun c => (c.id, 5) := by unfold stepR; rw [e2, l2, e5, List.append_nil]
  refine ⟨fun h => absurd (by rw [e6]; exact ep) h, fun _ => ⟨?_, ?_, ?_, ?_⟩⟩
  ·rw [e6, em]; exact slows ho
  ·rw [e7]; intro r hr; obtain ⟨c, _, rfl⟩ := List.mem_map.1 hr; rfl
  ·rw [e6, em]; exact hN
  ·rw [e6, em]; rfl
theorem Lead.push {L : List Int} {p : Int} {k : Nat} (h : Lead L p k) (hl : 0 < L.length) : Lead (p :: L.dropLast) p (k + 1) := fun j hj hjl => by
 rw [List.length_cons, List.length_dropLast] at hjl
 cases j with
 | zero => rfl
 | succ j =>
  rw [List.getElem?_cons_succ, List.getElem?_dropLast, if_pos (by omega)]
  exact h j (by omega) (by omega)
theorem Lead.all {L : List Int} {p : Int} {k : Nat} (h : Lead L p k) (hk : L.length ≤ k) : ∀ x ∈ L, x = p := fun x hx => by
 obtain ⟨j, hj, rfl⟩ := List.getElem_of_mem hx
 have := h j (by omega) hj
 rw [List.getElem?_eq_getElem hj] at this
 injection this
theorem push_all {L : List Int} {p : Int} (h : ∀ x ∈ L, x = p) (hl : 0 < L.length) : p :: L.dropLast = L := by
 have e : L = List.replicate L.length p := List.eq_replicate_iff.2 ⟨rfl, h⟩
 rw [e]
 obtain ⟨n, hn⟩ : ∃ n, L.length = n + 1 := ⟨L.length - 1, by omega⟩
 rw [hn, List.dropLast_replicate, Nat.add_sub_cancel]; rfl
theorem over_same {a : Ax} (h : RightA a) {i : In} (hi : i.ov = a.ov) : overA a i = a := by
 have e : b.clamp i.ov 0 100 = a.ov := by rw [hi]; exact gn.clamp_in h.ov0 h.ov1
 unfold overA
 rw [e]
theorem quiet_pre {a : Ax} (h : RightA a) (h0 : a.st ≠ 0) (h7 : a.st ≠ 7) {i : In} (hi : QuietI a i) (hs : a.st = 2 ∨ ¬ (i.plus = true ∧ 0 < a.v ∨ i.minus = true ∧ a.v < 0)) : preA a i = a ∧ preR a i = [] := by
 have hco : causeOf a i = 0 := by
  unfold causeOf
  rw [if_neg h0, if_neg (by rw [hi.cause]; omega), if_neg (by rw [hi.op]; simp), if_neg (fun hh => hs.elim (fun q => hh.1 q) (fun q => q hh.2))]
 have e1 : firstA a i = a := by
  unfold firstA
  rw [if_neg (fun hh => hh.1 hco), if_neg h7, if_neg (by rw [hi.power]; simp), if_neg (fun hh => h0 hh.1)]
 have e2 : firstR a i = [] := by
  unfold firstR
  rw [if_neg (fun hh => hh.1 hco), if_neg h7, if_neg (by rw [hi.power]; simp)]
 unfold preA preR
 rw [over_same h hi.ov, hi.cmds, e1, e2]
 exact ⟨rfl, rfl⟩
theorem quiet_step {a : Ax} (h : RightA a) (h1 : a.st = 1) (hv : a.v = 0) {i : In} (hi : QuietI a i) : stepA a i = pushed a ∧ stepR a i = [] := by
 obtain ⟨p1, p2⟩ := quiet_pre h (by omega) (by omega) hi (.inr (by omega))
 have hN := (h.none (.inr (.inl h1))).1
 have e0 : gn.stepV (bounds a) a.p a.v 0 = 0 := by
  have hs := h.safe
  rw [hv] at hs ⊢
  exact gn.stand (bounds_right h.limits) hs
 have em : movedA a i = a := by
  rw [moved_none (by omega) (by omega) hN, e0, Int.add_zero]
  cases a
  simp at hv
  rw [hv]
 have es : (pushed a).st = 1 := h1
 unfold stepA stepR
 rw [p1, p2, em, (last_same (by omega) (by omega) (by omega) _ _).1, (last_same (by omega) (by omega) (by omega) _ _).2]
 exact ⟨rfl, rfl⟩
theorem pushed_self {a : Ax} (h : RightA a) (hl : Lead a.sm a.p 16) : pushed a = a := by
 have h1 := h.len
 have h2 := h.made.2.2.1
 have h3 := h.win1
 unfold pushed
 rw [push_all (hl.all (by omega)) (by omega)]
end Go.Proofs.YtijlccblabadaaaGreat.ax
end
section
namespace Go.Proofs.YtijlccblabadaaaGreat.ax
open Go.Proofs.YtijlccblabadaaaGreat.ln (C)
open Go.Proofs.YtijlccblabadaaaGreat.hm (H)
open Go.Proofs.YtijlccblabadaaaGreat.ed (nxS nxB)
set_option linter.unusedVariables false
theorem Fly.move {a : Ax} {c : C} (h : Fly a c) : MoveP a c := by
 rcases one_lined h.right.lined h.N with ⟨q, _⟩ | ⟨q, _⟩ | ⟨q, _⟩ | ⟨q, _⟩ | ⟨_, ⟨q, _⟩ | ⟨q, _⟩⟩
 ·have := h.st; omega
 ·have := h.st; omega
 ·have := h.st; omega
 ·have := h.st; omega
 ·have := h.kind; omega
 ·exact q
theorem Left.pos {a : Ax} {c : C} {m : Int} (h : Fly a c) (hl : Left a c m) (hn : ¬ (StillP a ∧ a.p = c.tgt)) : 1 ≤ m := by
 rcases hl with ⟨h1, h2, k, h3, h4⟩ | ⟨h1, h2⟩
 ·have hlen := h.right.len
  have hw := h.right.made.2.2.1
  rcases Int.lt_or_le 0 m with hm | hm
  ·omega
  ·refine absurd ⟨⟨fun x hx => ?_, h2⟩, h1⟩ hn
   have hall := h3.all (by omega)
   rw [hall x hx]
   cases hs : a.sm with
   | nil => rw [hs] at hx; cases hx
   | cons y T =>
    show c.tgt = y
    exact (hall y (by rw [hs]; exact List.mem_cons_self)).symm
 ·have := (gn.MM_in (bounds_right h.right.limits) (t := c.tgt) (p := a.p) (v := a.v)).1
  omega
theorem fly_pushed {a : Ax} {c : C} (h : Fly a c) (i : In) {m : Int} (hl : Left a c m) (hm : 1 ≤ m) : Fly (pushed (movedA a i)) c ∧ Left (pushed (movedA a i)) c (m - 1) := by
 have em := fly_moved h i
 have hp := pushed_right h.right i
 have hmv := h.move
 have hr := bounds_right h.right.limits
 have hs := h.right.safe
 have hw := h.right.made.2.2.1
 have hlen := h.right.len
 have hw1 := h.right.win1
 refine ⟨⟨hp, by rw [em]; exact h.st, by rw [em]; exact h.N, by rw [em]; exact h.W, h.kind, by rw [em]; exact h.ov⟩, ?_⟩
 have hb : bounds (pushed (movedA a i)) = bounds a := by rw [em]; rfl
 have ep : (pushed (movedA a i)).p = a.p + gn.stepV (bounds a) a.p a.v (gn.toV (bounds a) a.p a.v c.tgt c.spd) := by rw [em]; rfl
 have ev : (pushed (movedA a i)).v = gn.stepV (bounds a) a.p a.v (gn.toV (bounds a) a.p a.v c.tgt c.spd) := by rw [em]; rfl
 have es : (pushed (movedA a i)).sm = (pushed (movedA a i)).p :: a.sm.dropLast := by rw [em]; rfl
 rcases hl with ⟨h1, h2, k, h3, h4⟩ | ⟨h1, h2⟩
 ·have e0 : gn.stepV (bounds a) a.p a.v (gn.toV (bounds a) a.p a.v c.tgt c.spd) = 0 := by
   rw [h1, h2] at hs ⊢
   exact gn.to_stand hr hs
  rw [e0, Int.add_zero] at ep
  rw [e0] at ev
  refine .inl ⟨by rw [ep, h1], ev, k + 1, ?_, by omega⟩
  rw [es, ep, h1]
  exact h3.push (by omega)
 ·have hstep := gn.MM_step hr hs hmv.2.2.2.1 hmv.2.2.2.2 hmv.2.1 h1
  rw [← ep, ← ev] at hstep
  by_cases hd : (pushed (movedA a i)).p = c.tgt ∧ (pushed (movedA a i)).v = 0
  ·refine .inl ⟨hd.1, hd.2, 1, ?_, ?_⟩
   ·intro j hj hjl
    have : j = 0 := by omega
    subst this
    rw [es, hd.1]; rfl
   ·have := (gn.MM_in hr (t := c.tgt) (p := (pushed (movedA a i)).p) (v := (pushed (movedA a i)).v)).1
    have h17 : (17 : Int) ≤ m - 1 + 1 := by omega
    omega
  ·refine .inr ⟨hd, ?_⟩
   rw [hb]; omega
theorem fly_cycle {a : Ax} {c : C} (h : Fly a c) (i : In) {m : Int} (hl : Left a c m) (hm : 1 ≤ m) :
  (∃ n, lastA (pushed (movedA a i)) (byB a i) i = n ∧ lastR (pushed (movedA a i)) (byB a i) i = [] ∧ Fly n c ∧ Left n c (m - 1) ∧ 1 ≤ m - 1 ∧ n.win = a.win ∧ n.off = a.off) ∨
  (lastR (pushed (movedA a i)) (byB a i) i = [(c.id, 2)] ∧ ∃ n, lastA (pushed (movedA a i)) (byB a i) i = n ∧ n.st = 1 ∧ n.p = c.tgt ∧ n.v = 0 ∧ outA n = n.win * (c.tgt + n.off)) := by
 obtain ⟨f, l⟩ := fly_pushed h i hl hm
 have hmt := moved_to a i
 rw [fly_by h i]
 rcases fly_last f i with ⟨e1, e2, e3⟩ | ⟨e2, s1, s2, s3, s4, s5, s6⟩
 ·exact .inl ⟨_, rfl, e2, by rw [e1]; exact f, by rw [e1]; exact l, Left.pos f l e3, by rw [e1]; exact hmt.win, by rw [e1]; exact hmt.off⟩
 ·exact .inr ⟨e2, _, rfl, s1, s2, s3, by rw [s4, s5, s6]⟩
theorem fly_pre {a : Ax} {c : C} (h : Fly a c) {i : In} (hi : GoI i) (hc : i.cmds = []) : preA a i = a ∧ preR a i = [] :=
 quiet_pre h.right (by have := h.st; omega) (by have := h.st; omega) ⟨hi.power, hi.op, hi.cause, by rw [hi.ov, h.ov], hc⟩ (.inr (by rw [hi.plus, hi.minus]; simp))
theorem fly_step {a : Ax} {c : C} (h : Fly a c) {i : In} (hi : GoI i) (hc : i.cmds = []) {m : Int} (hl : Left a c m) (hm : 1 ≤ m) :
  (∃ n, stepA a i = n ∧ stepR a i = [] ∧ Fly n c ∧ Left n c (m - 1) ∧ 1 ≤ m - 1) ∨ (stepR a i = [(c.id, 2)] ∧ ∃ n, stepA a i = n ∧ n.st = 1 ∧ n.p = c.tgt ∧ n.v = 0 ∧ outA n = n.win * (c.tgt + n.off)) := by
 obtain ⟨p1, p2⟩ := fly_pre h hi hc
 unfold stepA stepR
 rw [p1, p2]
 rcases fly_cycle h i hl hm with ⟨n, h1, h2, h3, h4, h5, _⟩ | ⟨h1, n, h2⟩
 ·exact .inl ⟨n, h1, by rw [h2]; rfl, h3, h4, h5⟩
 ·exact .inr ⟨by rw [h1]; rfl, n, h2⟩
theorem first_step {a : Ax} (h : RightA a) (h1 : a.st = 1) (hv : a.v = 0) {id way speed : Int} (hw : -1000 ≤ way ∧ way ≤ 1000) {i : In} (hi : GoI i) (hc : i.cmds = [relC id way speed]) :
  ((∃ R, stepR a i = (id, 5) :: R) ∧ (speed < 1 ∨ a.l.V < speed ∨ a.p + way < (bounds a).lo ∨ (bounds a).hi < a.p + way)) ∨
  (∃ c : C, c.id = id ∧ c.tgt = a.p + way ∧
   ((∃ n, stepA a i = n ∧ stepR a i = [(id, 1)] ∧ Fly n c ∧ Left n c 2018 ∧ n.win = a.win) ∨ (stepR a i = [(id, 1), (id, 2)] ∧ ∃ n, stepA a i = n ∧ n.st = 1 ∧ n.p = c.tgt ∧ n.v = 0 ∧ outA n = n.win * (c.tgt + n.off)))) := by
 have ho := over_right h i
 obtain ⟨hN, hW⟩ := h.none (.inr (.inl h1))
 have hov : (overA a i).ov = 100 := by show b.clamp i.ov 0 100 = 100; rw [hi.ov]; rfl
 have hco : causeOf (overA a i) i = 0 := by
  unfold causeOf
  rw [if_neg (show ¬ (overA a i).st = 0 by show ¬ a.st = 0; omega), if_neg (by rw [hi.cause]; show ¬ ((0 : Int) ≠ 0 ∨ a.st = 7); omega), if_neg (by rw [hi.op]; simp), if_neg (by rw [hi.plus, hi.minus]; simp)]
 have e1 : firstA (overA a i) i = overA a i := by
  unfold firstA
  rw [if_neg (fun hh => hh.1 hco), if_neg (show ¬ (overA a i).st = 7 by show ¬ a.st = 7; omega), if_neg (by rw [hi.power]; simp), if_neg (fun hh => by have : a.st = 0 := hh.1; omega)]
 have e2 : firstR (overA a i) i = [] := by
  unfold firstR
  rw [if_neg (fun hh => hh.1 hco), if_neg (show ¬ (overA a i).st = 7 by show ¬ a.st = 7; omega), if_neg (by rw [hi.power]; simp)]
 have e3 : firstF (overA a i) i = false := by
  unfold firstF
  rw [if_neg (fun hh => hh.1 hco), if_neg (show ¬ (overA a i).st = 7 by show ¬ a.st = 7; omega), if_neg (by rw [hi.power]; simp)]
  exact decide_eq_false fun hh => by have : a.st = 0 := hh.1; omega
 have ep : preA a i = givenA (overA a i) (relC id way speed) i.master false := by unfold preA; rw [e1, e3, hc]; rfl
 have er : preR a i = givenR (overA a i) (relC id way speed) false := by unfold preR; rw [e1, e2, e3, hc]; show [] ++ (givenR _ _ _ ++ []) = _; rw [List.append_nil]; rfl
 have hk : keptC (overA a i) (relC id way speed) = ⟨id, 1, a.p + way, speed, 0, 0, 0⟩ := by
  unfold keptC
  rw [if_pos (show placed (relC id way speed) by unfold placed relC; dsimp only; omega)]
  have : placeOf (overA a i) (relC id way speed) = a.p + way := by
   unfold placeOf fromOf
   rw [if_neg (by unfold relC; dsimp only; omega), show (overA a i).N = [] from hN]; rfl
  rw [this]; rfl
 have hb := bounds_in h.limits
 have hs := h.safe
 by_cases ht : TakenP (overA a i) (relC id way speed) false
 ·refine .inr ⟨⟨id, 1, a.p + way, speed, 0, 0, 0⟩, rfl, rfl, ?_⟩
  have hgr := given_right ho (relC id way speed) i.master false
  obtain ⟨_, _, hadd⟩ := add_ok ht.2.2
  rw [hk] at hadd
  have haN : ln.addN (overA a i).N (overA a i).W ⟨id, 1, a.p + way, speed, 0, 0, 0⟩ = [⟨id, 1, a.p + way, speed, 0, 0, 0⟩] ∧ ln.addW (overA a i).N (overA a i).W ⟨id, 1, a.p + way, speed, 0, 0, 0⟩ = [] := by
   rcases hadd with ⟨_, q1, q2⟩ | ⟨q, _⟩
   ·exact ⟨q1, q2⟩
   ·exact absurd rfl q
  have haI : ln.addI (overA a i).N (overA a i).W ⟨id, 1, a.p + way, speed, 0, 0, 0⟩ = [] := by
   unfold ln.addI
   rw [show (overA a i).N = [] from hN, show (overA a i).W = [] from hW]
   split
   ·split <;> rfl
   ·rfl
  have eg : givenA (overA a i) (relC id way speed) i.master false = begun (lineOf (overA a i) (relC id way speed)) ⟨id, 1, a.p + way, speed, 0, 0, 0⟩ i.master := by
   unfold givenA
   rw [if_pos ht, hk, if_pos haN.2]
  have egr : givenR (overA a i) (relC id way speed) false = [(id, 1)] := by
   unfold givenR
   rw [if_pos ht, hk, if_pos haN.2, haI]; rfl
  have eN : (givenA (overA a i) (relC id way speed) i.master false).N = [⟨id, 1, a.p + way, speed, 0, 0, 0⟩] := by
   rw [eg]; show ln.addN _ _ (keptC _ _) = _; rw [hk]; exact haN.1
  have eW : (givenA (overA a i) (relC id way speed) i.master false).W = [] := by
   rw [eg]; show ln.addW _ _ (keptC _ _) = _; rw [hk]; exact haN.2
  have est : (givenA (overA a i) (relC id way speed) i.master false).st = 4 := by
   rw [eg]; show nxS a.st (evOf 1) = 4; rw [h1]; rfl
  have eov : (givenA (overA a i) (relC id way speed) i.master false).ov = 100 := by rw [eg]; exact hov
  obtain ⟨g1, g2, g3, g4, g5⟩ := given_same (overA a i) (relC id way speed) i.master false
  have hf : Fly (givenA (overA a i) (relC id way speed) i.master false) ⟨id, 1, a.p + way, speed, 0, 0, 0⟩ := ⟨hgr, est, eN, eW, rfl, eov⟩
  have ebd : bounds (givenA (overA a i) (relC id way speed) i.master false) = bounds a := by rw [eg]; rfl
  have hl : Left (givenA (overA a i) (relC id way speed) i.master false) ⟨id, 1, a.p + way, speed, 0, 0, 0⟩ 2019 := by
   by_cases hz : way = 0
   ·refine .inl ⟨?_, by rw [g5]; exact hv, 0, fun j hj => absurd hj (by omega), by omega⟩
    rw [g4]; show a.p = a.p + way; omega
   ·refine .inr ⟨fun q => ?_, ?_⟩
    ·have q1 := q.1
     rw [g4] at q1
     have q2 : a.p = a.p + way := q1
     omega
    ·rw [ebd, g4, g5]
     show gn.MM (bounds a) (a.p + way) a.p a.v + 17 ≤ 2019
     have hM := (gn.MM_in (bounds_right h.limits) (t := a.p + way) (p := a.p) (v := a.v)).2.2
     rw [hv] at hM ⊢
     rw [gn.haltN_at (bounds_right h.limits), show max (0 : Int) (-0) = 0 by decide, gn.slow_zero (bounds_right h.limits).2.2.2.2.1] at hM
     omega
  unfold stepA stepR
  rw [ep, er, egr]
  rcases fly_cycle hf i hl (by omega) with ⟨n, q1, q2, q3, q4, q5, q6, q7⟩ | ⟨q1, n, q2⟩
  ·exact .inl ⟨n, q1, by rw [q2]; rfl, q3, q4, by rw [q6, g3]; rfl⟩
  ·exact .inr ⟨by rw [q1]; rfl, n, q2⟩
 ·refine .inl ⟨⟨lastR (pushed (movedA (preA a i) i)) (byB (preA a i) i) i, ?_⟩, ?_⟩
  ·unfold stepR
   rw [er]
   unfold givenR
   rw [if_neg ht]; rfl
  ·refine Classical.byContradiction fun hn => ht ?_
   have hpl : placeOf (overA a i) (relC id way speed) = a.p + way := by
    unfold placeOf fromOf
    rw [if_neg (by unfold relC; dsimp only; omega), show (overA a i).N = [] from hN]; rfl
   have hsp : (relC id way speed).spd = speed := rfl
   have h3 := hs.1
   have h4 := hs.2.1
   refine ⟨⟨⟨⟨by show (0 : Int) ≤ 0; omega, by show (0 : Int) ≤ 5; omega⟩, fun q => absurd q (by show ¬ (0 : Int) < 0; omega)⟩, .inl ⟨by unfold placed relC; dsimp only; omega, .inl h1, .inr ?_, by rw [hsp]; omega, by rw [hsp]; show speed ≤ a.l.V; omega, fun q => absurd q (by show ¬ (2 : Int) = 1; omega), ?_, ?_⟩⟩, rfl, ?_⟩
   ·rw [hpl]; unfold InR; omega
   ·rw [hpl]; show (bounds a).lo ≤ a.p + way; omega
   ·rw [hpl]; show a.p + way ≤ (bounds a).hi; omega
   ·rw [hk]
    unfold ln.addE
    rw [if_pos ⟨ho.line, by show (0 : Int) ≤ 0; omega, by show (0 : Int) ≤ 5; omega⟩, if_pos rfl]
end Go.Proofs.YtijlccblabadaaaGreat.ax
end
