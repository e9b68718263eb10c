/- What the landed std's blocks do to their cells, in place. Condition: the cells are whole numbers of 64 bits. -/
import Derived.Test.YtkfmblebobjgbaaDoorStClone
namespace Go.Proofs.YtkfmblebobjgbaaDoor.sd
open Go.ChangeShapes Go.WideShapes Go.ChangeAt Go.RowKit Go.Proofs.YtkfmblebobjgbaaDoor.k Go.Proofs.YtkfmblebobjgbaaDoor.rr
set_option linter.unusedVariables false

theorem results_no {P : Program} {fn : Func} (h : fn.results = #[]) (tmps : Array Value) (w : World) : (results fn tmps).run P w = .ok (.tuple #[]) w := by
  rw [results, h]
  simp
theorem end0 {P : Program} {fn : Func} {Q : Ending → World → Prop} {a : Act} {w : World} (hr : fn.results = #[]) (hd : a.defers = []) (hQ : Q (.returned (.tuple #[])) w) : bodyPost P fn Q .normal a w := bodyPost_end (results_no hr _ _) hd hQ
theorem ret0 {P : Program} {fn : Func} {Q : Ending → World → Prop} {a : Act} {w : World} (hr : fn.results = #[]) (hd : a.defers = []) (hQ : Q (.returned (.tuple #[])) w) : bodyPost P fn Q .ret a w := bodyPost_ret (results_no hr _ _) hd hQ
def vI (L : List Int) : List Value := L.map fun x => .int .i64 x
/-- a call that turns a block's cells in place, and gives nothing back -/
def Turns (g : Nat) (L : List Int) (w : World) (e : Ending) (w' : World) : Prop := e = .returned (.tuple #[]) ∧ Box w' g 0 (vI L) ∧ ∀ B, B ≤ g → Below B w w'
theorem b2_yes {p : Prop} [Decidable p] (h : p) : b2 p = 1 := by unfold b2; rw [if_pos h]
theorem b2_no {p : Prop} [Decidable p] (h : ¬ p) : b2 p = 0 := by unfold b2; rw [if_neg h]
theorem ne_yes {x : Int} (h : x ≠ 0) : (x != 0) = true := by rw [bne_iff_ne]; exact h

set_option maxHeartbeats 8000000 in
theorem ton_in (i pt q et : Int) {g cap : Nat} {w : World} (hx0 : Box w g 0 (vI [i, pt, q, et])) (hc : 4 ≤ cap) (h2 : InR pt) (h4 : InR et) : Calls Tryd.prog 11 #[.slice (some ⟨g, 0, none⟩) 4 cap] w (Turns g (tonL i pt et) w) := by
  have TT := Lib.hid fun y W => truth_any y W
  have LL := Lib.hid fun y W => laid_any y W
  have UU := Lib.hid fun y m h1 h2 W => up_any y m h1 h2 W
  have X := Lib.hid hx0
  obtain ⟨c0, f0⟩ : w.cell? ⟨g, 0, none⟩ = some (.int .i64 i) ∧ w.frozen? ⟨g, 0, none⟩ = false := k.cell_of hx0 (i := 0) rfl
  obtain ⟨c1, f1⟩ : w.cell? ⟨g, 1, none⟩ = some (.int .i64 pt) ∧ w.frozen? ⟨g, 1, none⟩ = false := k.cell_of hx0 (i := 1) rfl
  obtain ⟨c2, f2⟩ : w.cell? ⟨g, 2, none⟩ = some (.int .i64 q) ∧ w.frozen? ⟨g, 2, none⟩ = false := k.cell_of hx0 (i := 2) rfl
  obtain ⟨c3, f3⟩ : w.cell? ⟨g, 3, none⟩ = some (.int .i64 et) ∧ w.frozen? ⟨g, 3, none⟩ = false := k.cell_of hx0 (i := 3) rfl
  clear hx0
  unfold tonL
  by_cases hi : i = 0
  · subst hi
    rw [if_pos rfl]
    go_enter Tryd.func11, Tryd.ntmps11
    go_wp2
    go_quiet ((go_at_call 23; with_reducible exact Calls.quiet_of_same ((TT.out _ _).mono fun _ _ h => ⟨h.1, h.2.symm⟩)))
    go_wp2_with (first | (go_at_call 23; (with_reducible refine (TT.out _ _).mono ?_); rintro e w1 ⟨rfl, rfl⟩) | (go_at_call 25; (with_reducible refine (LL.out _ _).mono ?_); rintro e w1 ⟨rfl, rfl⟩) | (go_at_call 24; (with_reducible refine (UU.out _ _ _ _ _).mono ?_); rintro e w1 ⟨rfl, rfl⟩))
    refine ret0 rfl rfl ?_
    exact ⟨rfl, (((X.out.drawn _).put 2 (by simp [vI]) _).put 3 (by simp [vI]) _), fun B hB => (((below_drawn (Below.refl _ _) _).setCell hB _).setCell hB _)⟩
  · rw [if_neg hi]
    have hx := ne_yes hi
    have UE : Hid (∀ W, Calls Tryd.prog 24 #[.int .i64 et, .int .i64 pt] W fun e w' => e = .returned (.int .i64 (up et pt)) ∧ W = w') := Lib.hid (UU.out et pt h4 h2)
    obtain ⟨U, hU⟩ : ∃ U, up et pt = U := ⟨_, rfl⟩
    rw [hU] at UE ⊢
    clear hU UU h2 h4 hi
    by_cases hq : pt ≤ U
    · rw [b2_yes hq]
      go_enter Tryd.func11, Tryd.ntmps11
      go_wp2
      go_quiet ((go_at_call 23; with_reducible exact Calls.quiet_of_same ((TT.out _ _).mono fun _ _ h => ⟨h.1, h.2.symm⟩)))
      go_wp2_with (first | (go_at_call 23; (with_reducible refine (TT.out _ _).mono ?_); rintro e w1 ⟨rfl, rfl⟩) | (go_at_call 25; (with_reducible refine (LL.out _ _).mono ?_); rintro e w1 ⟨rfl, rfl⟩) | (go_at_call 24; (with_reducible refine (UE.out _).mono ?_); rintro e w1 ⟨rfl, rfl⟩))
      refine end0 rfl rfl ?_
      exact ⟨rfl, (((X.out.drawn _).put 3 (by simp [vI]) _).put 2 (by simp [vI]) _), fun B hB => (((below_drawn (Below.refl _ _) _).setCell hB _).setCell hB _)⟩
    · rw [b2_no hq]
      go_enter Tryd.func11, Tryd.ntmps11
      go_wp2
      go_quiet ((go_at_call 23; with_reducible exact Calls.quiet_of_same ((TT.out _ _).mono fun _ _ h => ⟨h.1, h.2.symm⟩)))
      go_wp2_with (first | (go_at_call 23; (with_reducible refine (TT.out _ _).mono ?_); rintro e w1 ⟨rfl, rfl⟩) | (go_at_call 25; (with_reducible refine (LL.out _ _).mono ?_); rintro e w1 ⟨rfl, rfl⟩) | (go_at_call 24; (with_reducible refine (UE.out _).mono ?_); rintro e w1 ⟨rfl, rfl⟩))
      refine end0 rfl rfl ?_
      exact ⟨rfl, (((X.out.drawn _).put 3 (by simp [vI]) _).put 2 (by simp [vI]) _), fun B hB => (((below_drawn (Below.refl _ _) _).setCell hB _).setCell hB _)⟩
set_option maxHeartbeats 8000000 in
theorem rt_in (y q p : Int) {g cap : Nat} {w : World} (hx0 : Box w g 0 (vI [y, q, p])) (hc : 3 ≤ cap) : Calls Tryd.prog 16 #[.slice (some ⟨g, 0, none⟩) 3 cap] w (Turns g (rtL y p) w) := by
  have TT := Lib.hid fun y W => truth_any y W
  have LL := Lib.hid fun y W => laid_any y W
  have UU := Lib.hid fun y m h1 h2 W => up_any y m h1 h2 W
  have X := Lib.hid hx0
  obtain ⟨c0, f0⟩ : w.cell? ⟨g, 0, none⟩ = some (.int .i64 y) ∧ w.frozen? ⟨g, 0, none⟩ = false := k.cell_of hx0 (i := 0) rfl
  obtain ⟨c1, f1⟩ : w.cell? ⟨g, 1, none⟩ = some (.int .i64 q) ∧ w.frozen? ⟨g, 1, none⟩ = false := k.cell_of hx0 (i := 1) rfl
  obtain ⟨c2, f2⟩ : w.cell? ⟨g, 2, none⟩ = some (.int .i64 p) ∧ w.frozen? ⟨g, 2, none⟩ = false := k.cell_of hx0 (i := 2) rfl
  clear hx0
  by_cases hi : y = 0
  · subst hi
    rw [show rtL 0 p = [0, 0, 0] from by unfold rtL; rw [b2_no (by simp), b2_no (by simp)]]
    go_enter Tryd.func16, Tryd.ntmps16
    go_wp2
    go_quiet ((go_at_call 23; with_reducible exact Calls.quiet_of_same ((TT.out _ _).mono fun _ _ h => ⟨h.1, h.2.symm⟩)))
    go_wp2_with (first | (go_at_call 23; (with_reducible refine (TT.out _ _).mono ?_); rintro e w1 ⟨rfl, rfl⟩) | (go_at_call 25; (with_reducible refine (LL.out _ _).mono ?_); rintro e w1 ⟨rfl, rfl⟩) | (go_at_call 24; (with_reducible refine (UU.out _ _ _ _ _).mono ?_); rintro e w1 ⟨rfl, rfl⟩))
    refine end0 rfl rfl ?_
    exact ⟨rfl, (((X.out.drawn _).put 1 (by simp [vI]) _).put 2 (by simp [vI]) _), fun B hB => (((below_drawn (Below.refl _ _) _).setCell hB _).setCell hB _)⟩
  · have hix := ne_yes hi
    by_cases hp : p = 0
    · subst hp
      rw [show rtL y 0 = [y, 1, 1] from by unfold rtL; rw [b2_yes ⟨hi, rfl⟩, b2_yes hi]]
      go_enter Tryd.func16, Tryd.ntmps16
      go_wp2
      go_quiet ((go_at_call 23; with_reducible exact Calls.quiet_of_same ((TT.out _ _).mono fun _ _ h => ⟨h.1, h.2.symm⟩)))
      go_wp2_with (first | (go_at_call 23; (with_reducible refine (TT.out _ _).mono ?_); rintro e w1 ⟨rfl, rfl⟩) | (go_at_call 25; (with_reducible refine (LL.out _ _).mono ?_); rintro e w1 ⟨rfl, rfl⟩) | (go_at_call 24; (with_reducible refine (UU.out _ _ _ _ _).mono ?_); rintro e w1 ⟨rfl, rfl⟩))
      refine end0 rfl rfl ?_
      exact ⟨rfl, (((X.out.drawn _).put 1 (by simp [vI]) _).put 2 (by simp [vI]) _), fun B hB => (((below_drawn (Below.refl _ _) _).setCell hB _).setCell hB _)⟩
    · have hpx := ne_yes hp
      rw [show rtL y p = [y, 0, 1] from by unfold rtL; rw [b2_no (fun h => hp h.2), b2_yes hi]]
      go_enter Tryd.func16, Tryd.ntmps16
      go_wp2
      go_quiet ((go_at_call 23; with_reducible exact Calls.quiet_of_same ((TT.out _ _).mono fun _ _ h => ⟨h.1, h.2.symm⟩)))
      go_wp2_with (first | (go_at_call 23; (with_reducible refine (TT.out _ _).mono ?_); rintro e w1 ⟨rfl, rfl⟩) | (go_at_call 25; (with_reducible refine (LL.out _ _).mono ?_); rintro e w1 ⟨rfl, rfl⟩) | (go_at_call 24; (with_reducible refine (UU.out _ _ _ _ _).mono ?_); rintro e w1 ⟨rfl, rfl⟩))
      refine end0 rfl rfl ?_
      exact ⟨rfl, (((X.out.drawn _).put 1 (by simp [vI]) _).put 2 (by simp [vI]) _), fun B hB => (((below_drawn (Below.refl _ _) _).setCell hB _).setCell hB _)⟩
set_option maxHeartbeats 8000000 in
theorem ft_in (y q p : Int) {g cap : Nat} {w : World} (hx0 : Box w g 0 (vI [y, q, p])) (hc : 3 ≤ cap) : Calls Tryd.prog 17 #[.slice (some ⟨g, 0, none⟩) 3 cap] w (Turns g (ftL y p) w) := by
  have TT := Lib.hid fun y W => truth_any y W
  have LL := Lib.hid fun y W => laid_any y W
  have UU := Lib.hid fun y m h1 h2 W => up_any y m h1 h2 W
  have X := Lib.hid hx0
  obtain ⟨c0, f0⟩ : w.cell? ⟨g, 0, none⟩ = some (.int .i64 y) ∧ w.frozen? ⟨g, 0, none⟩ = false := k.cell_of hx0 (i := 0) rfl
  obtain ⟨c1, f1⟩ : w.cell? ⟨g, 1, none⟩ = some (.int .i64 q) ∧ w.frozen? ⟨g, 1, none⟩ = false := k.cell_of hx0 (i := 1) rfl
  obtain ⟨c2, f2⟩ : w.cell? ⟨g, 2, none⟩ = some (.int .i64 p) ∧ w.frozen? ⟨g, 2, none⟩ = false := k.cell_of hx0 (i := 2) rfl
  clear hx0
  by_cases hp : p = 0
  · subst hp
    by_cases hi : y = 0
    · subst hi
      rw [show ftL 0 0 = [0, 0, 0] from by unfold ftL; rw [b2_no (fun h => h.2 rfl), b2_no (by simp)]]
      go_enter Tryd.func17, Tryd.ntmps17
      go_wp2
      go_quiet ((go_at_call 23; with_reducible exact Calls.quiet_of_same ((TT.out _ _).mono fun _ _ h => ⟨h.1, h.2.symm⟩)))
      go_wp2_with (first | (go_at_call 23; (with_reducible refine (TT.out _ _).mono ?_); rintro e w1 ⟨rfl, rfl⟩) | (go_at_call 25; (with_reducible refine (LL.out _ _).mono ?_); rintro e w1 ⟨rfl, rfl⟩) | (go_at_call 24; (with_reducible refine (UU.out _ _ _ _ _).mono ?_); rintro e w1 ⟨rfl, rfl⟩))
      refine end0 rfl rfl ?_
      exact ⟨rfl, (((X.out.drawn _).put 1 (by simp [vI]) _).put 2 (by simp [vI]) _), fun B hB => (((below_drawn (Below.refl _ _) _).setCell hB _).setCell hB _)⟩
    · have hix := ne_yes hi
      rw [show ftL y 0 = [y, 0, 1] from by unfold ftL; rw [b2_no (fun h => h.2 rfl), b2_yes hi]]
      go_enter Tryd.func17, Tryd.ntmps17
      go_wp2
      go_quiet ((go_at_call 23; with_reducible exact Calls.quiet_of_same ((TT.out _ _).mono fun _ _ h => ⟨h.1, h.2.symm⟩)))
      go_wp2_with (first | (go_at_call 23; (with_reducible refine (TT.out _ _).mono ?_); rintro e w1 ⟨rfl, rfl⟩) | (go_at_call 25; (with_reducible refine (LL.out _ _).mono ?_); rintro e w1 ⟨rfl, rfl⟩) | (go_at_call 24; (with_reducible refine (UU.out _ _ _ _ _).mono ?_); rintro e w1 ⟨rfl, rfl⟩))
      refine end0 rfl rfl ?_
      exact ⟨rfl, (((X.out.drawn _).put 1 (by simp [vI]) _).put 2 (by simp [vI]) _), fun B hB => (((below_drawn (Below.refl _ _) _).setCell hB _).setCell hB _)⟩
  · have hpx := ne_yes hp
    by_cases hi : y = 0
    · subst hi
      rw [show ftL 0 p = [0, 1, 0] from by unfold ftL; rw [b2_yes ⟨rfl, hp⟩, b2_no (by simp)]]
      go_enter Tryd.func17, Tryd.ntmps17
      go_wp2
      go_quiet ((go_at_call 23; with_reducible exact Calls.quiet_of_same ((TT.out _ _).mono fun _ _ h => ⟨h.1, h.2.symm⟩)))
      go_wp2_with (first | (go_at_call 23; (with_reducible refine (TT.out _ _).mono ?_); rintro e w1 ⟨rfl, rfl⟩) | (go_at_call 25; (with_reducible refine (LL.out _ _).mono ?_); rintro e w1 ⟨rfl, rfl⟩) | (go_at_call 24; (with_reducible refine (UU.out _ _ _ _ _).mono ?_); rintro e w1 ⟨rfl, rfl⟩))
      refine end0 rfl rfl ?_
      exact ⟨rfl, (((X.out.drawn _).put 1 (by simp [vI]) _).put 2 (by simp [vI]) _), fun B hB => (((below_drawn (Below.refl _ _) _).setCell hB _).setCell hB _)⟩
    · have hix := ne_yes hi
      rw [show ftL y p = [y, 0, 1] from by unfold ftL; rw [b2_no (fun h => hi h.1), b2_yes hi]]
      go_enter Tryd.func17, Tryd.ntmps17
      go_wp2
      go_quiet ((go_at_call 23; with_reducible exact Calls.quiet_of_same ((TT.out _ _).mono fun _ _ h => ⟨h.1, h.2.symm⟩)))
      go_wp2_with (first | (go_at_call 23; (with_reducible refine (TT.out _ _).mono ?_); rintro e w1 ⟨rfl, rfl⟩) | (go_at_call 25; (with_reducible refine (LL.out _ _).mono ?_); rintro e w1 ⟨rfl, rfl⟩) | (go_at_call 24; (with_reducible refine (UU.out _ _ _ _ _).mono ?_); rintro e w1 ⟨rfl, rfl⟩))
      refine end0 rfl rfl ?_
      exact ⟨rfl, (((X.out.drawn _).put 1 (by simp [vI]) _).put 2 (by simp [vI]) _), fun B hB => (((below_drawn (Below.refl _ _) _).setCell hB _).setCell hB _)⟩
set_option maxHeartbeats 8000000 in
theorem sr_in (s r q : Int) {g cap : Nat} {w : World} (hx0 : Box w g 0 (vI [s, r, q])) (hc : 3 ≤ cap) : Calls Tryd.prog 18 #[.slice (some ⟨g, 0, none⟩) 3 cap] w (Turns g (srL s r q) w) := by
  have TT := Lib.hid fun y W => truth_any y W
  have LL := Lib.hid fun y W => laid_any y W
  have UU := Lib.hid fun y m h1 h2 W => up_any y m h1 h2 W
  have X := Lib.hid hx0
  obtain ⟨c0, f0⟩ : w.cell? ⟨g, 0, none⟩ = some (.int .i64 s) ∧ w.frozen? ⟨g, 0, none⟩ = false := k.cell_of hx0 (i := 0) rfl
  obtain ⟨c1, f1⟩ : w.cell? ⟨g, 1, none⟩ = some (.int .i64 r) ∧ w.frozen? ⟨g, 1, none⟩ = false := k.cell_of hx0 (i := 1) rfl
  obtain ⟨c2, f2⟩ : w.cell? ⟨g, 2, none⟩ = some (.int .i64 q) ∧ w.frozen? ⟨g, 2, none⟩ = false := k.cell_of hx0 (i := 2) rfl
  clear hx0
  by_cases hs : s = 0
  · subst hs
    by_cases hq : q = 0
    · subst hq
      rw [show srL 0 r 0 = [0, r, 0] from by unfold srL; rw [b2_no (by simp)]]
      go_enter Tryd.func18, Tryd.ntmps18
      go_wp2
      go_quiet ((go_at_call 23; with_reducible exact Calls.quiet_of_same ((TT.out _ _).mono fun _ _ h => ⟨h.1, h.2.symm⟩)))
      go_wp2_with (first | (go_at_call 23; (with_reducible refine (TT.out _ _).mono ?_); rintro e w1 ⟨rfl, rfl⟩) | (go_at_call 25; (with_reducible refine (LL.out _ _).mono ?_); rintro e w1 ⟨rfl, rfl⟩) | (go_at_call 24; (with_reducible refine (UU.out _ _ _ _ _).mono ?_); rintro e w1 ⟨rfl, rfl⟩))
      refine end0 rfl rfl ?_
      exact ⟨rfl, ((X.out.drawn _).put 2 (by simp [vI]) _), fun B hB => ((below_drawn (Below.refl _ _) _).setCell hB _)⟩
    · have hqx := ne_yes hq
      by_cases hr : r = 0
      · subst hr
        rw [show srL 0 0 q = [0, 0, 1] from by unfold srL; rw [b2_yes (.inr ⟨hq, rfl⟩)]]
        go_enter Tryd.func18, Tryd.ntmps18
        go_wp2
        go_quiet ((go_at_call 23; with_reducible exact Calls.quiet_of_same ((TT.out _ _).mono fun _ _ h => ⟨h.1, h.2.symm⟩)))
        go_wp2_with (first | (go_at_call 23; (with_reducible refine (TT.out _ _).mono ?_); rintro e w1 ⟨rfl, rfl⟩) | (go_at_call 25; (with_reducible refine (LL.out _ _).mono ?_); rintro e w1 ⟨rfl, rfl⟩) | (go_at_call 24; (with_reducible refine (UU.out _ _ _ _ _).mono ?_); rintro e w1 ⟨rfl, rfl⟩))
        refine end0 rfl rfl ?_
        exact ⟨rfl, ((X.out.drawn _).put 2 (by simp [vI]) _), fun B hB => ((below_drawn (Below.refl _ _) _).setCell hB _)⟩
      · have hrx := ne_yes hr
        rw [show srL 0 r q = [0, r, 0] from by unfold srL; rw [b2_no (fun h => h.elim (fun h => h rfl) (fun h => hr h.2))]]
        go_enter Tryd.func18, Tryd.ntmps18
        go_wp2
        go_quiet ((go_at_call 23; with_reducible exact Calls.quiet_of_same ((TT.out _ _).mono fun _ _ h => ⟨h.1, h.2.symm⟩)))
        go_wp2_with (first | (go_at_call 23; (with_reducible refine (TT.out _ _).mono ?_); rintro e w1 ⟨rfl, rfl⟩) | (go_at_call 25; (with_reducible refine (LL.out _ _).mono ?_); rintro e w1 ⟨rfl, rfl⟩) | (go_at_call 24; (with_reducible refine (UU.out _ _ _ _ _).mono ?_); rintro e w1 ⟨rfl, rfl⟩))
        refine end0 rfl rfl ?_
        exact ⟨rfl, ((X.out.drawn _).put 2 (by simp [vI]) _), fun B hB => ((below_drawn (Below.refl _ _) _).setCell hB _)⟩
  · have hsx := ne_yes hs
    rw [show srL s r q = [s, r, 1] from by unfold srL; rw [b2_yes (.inl hs)]]
    go_enter Tryd.func18, Tryd.ntmps18
    go_wp2
    go_quiet ((go_at_call 23; with_reducible exact Calls.quiet_of_same ((TT.out _ _).mono fun _ _ h => ⟨h.1, h.2.symm⟩)))
    go_wp2_with (first | (go_at_call 23; (with_reducible refine (TT.out _ _).mono ?_); rintro e w1 ⟨rfl, rfl⟩) | (go_at_call 25; (with_reducible refine (LL.out _ _).mono ?_); rintro e w1 ⟨rfl, rfl⟩) | (go_at_call 24; (with_reducible refine (UU.out _ _ _ _ _).mono ?_); rintro e w1 ⟨rfl, rfl⟩))
    refine end0 rfl rfl ?_
    exact ⟨rfl, ((X.out.drawn _).put 2 (by simp [vI]) _), fun B hB => ((below_drawn (Below.refl _ _) _).setCell hB _)⟩
set_option maxHeartbeats 8000000 in
theorem rs_in (s r q : Int) {g cap : Nat} {w : World} (hx0 : Box w g 0 (vI [s, r, q])) (hc : 3 ≤ cap) : Calls Tryd.prog 19 #[.slice (some ⟨g, 0, none⟩) 3 cap] w (Turns g (rsL s r q) w) := by
  have TT := Lib.hid fun y W => truth_any y W
  have LL := Lib.hid fun y W => laid_any y W
  have UU := Lib.hid fun y m h1 h2 W => up_any y m h1 h2 W
  have X := Lib.hid hx0
  obtain ⟨c0, f0⟩ : w.cell? ⟨g, 0, none⟩ = some (.int .i64 s) ∧ w.frozen? ⟨g, 0, none⟩ = false := k.cell_of hx0 (i := 0) rfl
  obtain ⟨c1, f1⟩ : w.cell? ⟨g, 1, none⟩ = some (.int .i64 r) ∧ w.frozen? ⟨g, 1, none⟩ = false := k.cell_of hx0 (i := 1) rfl
  obtain ⟨c2, f2⟩ : w.cell? ⟨g, 2, none⟩ = some (.int .i64 q) ∧ w.frozen? ⟨g, 2, none⟩ = false := k.cell_of hx0 (i := 2) rfl
  clear hx0
  by_cases hr : r = 0
  · subst hr
    by_cases hq : q = 0
    · subst hq
      by_cases hs : s = 0
      · subst hs
        rw [show rsL 0 0 0 = [0, 0, 0] from by unfold rsL; rw [b2_no (by simp)]]
        go_enter Tryd.func19, Tryd.ntmps19
        go_wp2
        go_quiet ((go_at_call 23; with_reducible exact Calls.quiet_of_same ((TT.out _ _).mono fun _ _ h => ⟨h.1, h.2.symm⟩)))
        go_wp2_with (first | (go_at_call 23; (with_reducible refine (TT.out _ _).mono ?_); rintro e w1 ⟨rfl, rfl⟩) | (go_at_call 25; (with_reducible refine (LL.out _ _).mono ?_); rintro e w1 ⟨rfl, rfl⟩) | (go_at_call 24; (with_reducible refine (UU.out _ _ _ _ _).mono ?_); rintro e w1 ⟨rfl, rfl⟩))
        refine end0 rfl rfl ?_
        exact ⟨rfl, ((X.out.drawn _).put 2 (by simp [vI]) _), fun B hB => ((below_drawn (Below.refl _ _) _).setCell hB _)⟩
      · have hsx := ne_yes hs
        rw [show rsL s 0 0 = [s, 0, 1] from by unfold rsL; rw [b2_yes ⟨.inl hs, rfl⟩]]
        go_enter Tryd.func19, Tryd.ntmps19
        go_wp2
        go_quiet ((go_at_call 23; with_reducible exact Calls.quiet_of_same ((TT.out _ _).mono fun _ _ h => ⟨h.1, h.2.symm⟩)))
        go_wp2_with (first | (go_at_call 23; (with_reducible refine (TT.out _ _).mono ?_); rintro e w1 ⟨rfl, rfl⟩) | (go_at_call 25; (with_reducible refine (LL.out _ _).mono ?_); rintro e w1 ⟨rfl, rfl⟩) | (go_at_call 24; (with_reducible refine (UU.out _ _ _ _ _).mono ?_); rintro e w1 ⟨rfl, rfl⟩))
        refine end0 rfl rfl ?_
        exact ⟨rfl, ((X.out.drawn _).put 2 (by simp [vI]) _), fun B hB => ((below_drawn (Below.refl _ _) _).setCell hB _)⟩
    · have hqx := ne_yes hq
      rw [show rsL s 0 q = [s, 0, 1] from by unfold rsL; rw [b2_yes ⟨.inr hq, rfl⟩]]
      go_enter Tryd.func19, Tryd.ntmps19
      go_wp2
      go_quiet ((go_at_call 23; with_reducible exact Calls.quiet_of_same ((TT.out _ _).mono fun _ _ h => ⟨h.1, h.2.symm⟩)))
      go_wp2_with (first | (go_at_call 23; (with_reducible refine (TT.out _ _).mono ?_); rintro e w1 ⟨rfl, rfl⟩) | (go_at_call 25; (with_reducible refine (LL.out _ _).mono ?_); rintro e w1 ⟨rfl, rfl⟩) | (go_at_call 24; (with_reducible refine (UU.out _ _ _ _ _).mono ?_); rintro e w1 ⟨rfl, rfl⟩))
      refine end0 rfl rfl ?_
      exact ⟨rfl, ((X.out.drawn _).put 2 (by simp [vI]) _), fun B hB => ((below_drawn (Below.refl _ _) _).setCell hB _)⟩
  · have hrx := ne_yes hr
    rw [show rsL s r q = [s, r, 0] from by unfold rsL; rw [b2_no (fun h => hr h.2)]]
    go_enter Tryd.func19, Tryd.ntmps19
    go_wp2
    go_quiet ((go_at_call 23; with_reducible exact Calls.quiet_of_same ((TT.out _ _).mono fun _ _ h => ⟨h.1, h.2.symm⟩)))
    go_wp2_with (first | (go_at_call 23; (with_reducible refine (TT.out _ _).mono ?_); rintro e w1 ⟨rfl, rfl⟩) | (go_at_call 25; (with_reducible refine (LL.out _ _).mono ?_); rintro e w1 ⟨rfl, rfl⟩) | (go_at_call 24; (with_reducible refine (UU.out _ _ _ _ _).mono ?_); rintro e w1 ⟨rfl, rfl⟩))
    refine end0 rfl rfl ?_
    exact ⟨rfl, ((X.out.drawn _).put 2 (by simp [vI]) _), fun B hB => ((below_drawn (Below.refl _ _) _).setCell hB _)⟩
set_option maxHeartbeats 8000000 in
theorem tp_in (i pt q et p r : Int) {g cap : Nat} {w : World} (hx0 : Box w g 0 (vI [i, pt, q, et, p, r])) (hc : 6 ≤ cap) (h2 : InR pt) (h4 : InR et) : Calls Tryd.prog 13 #[.slice (some ⟨g, 0, none⟩) 6 cap] w (Turns g (tpL i pt q et p r) w) := by
  have TT := Lib.hid fun y W => truth_any y W
  have LL := Lib.hid fun y W => laid_any y W
  have UU := Lib.hid fun y m h1 h2 W => up_any y m h1 h2 W
  have X := Lib.hid hx0
  obtain ⟨c0, f0⟩ : w.cell? ⟨g, 0, none⟩ = some (.int .i64 i) ∧ w.frozen? ⟨g, 0, none⟩ = false := k.cell_of hx0 (i := 0) rfl
  obtain ⟨c1, f1⟩ : w.cell? ⟨g, 1, none⟩ = some (.int .i64 pt) ∧ w.frozen? ⟨g, 1, none⟩ = false := k.cell_of hx0 (i := 1) rfl
  obtain ⟨c2, f2⟩ : w.cell? ⟨g, 2, none⟩ = some (.int .i64 q) ∧ w.frozen? ⟨g, 2, none⟩ = false := k.cell_of hx0 (i := 2) rfl
  obtain ⟨c3, f3⟩ : w.cell? ⟨g, 3, none⟩ = some (.int .i64 et) ∧ w.frozen? ⟨g, 3, none⟩ = false := k.cell_of hx0 (i := 3) rfl
  obtain ⟨c4, f4⟩ : w.cell? ⟨g, 4, none⟩ = some (.int .i64 p) ∧ w.frozen? ⟨g, 4, none⟩ = false := k.cell_of hx0 (i := 4) rfl
  obtain ⟨c5, f5⟩ : w.cell? ⟨g, 5, none⟩ = some (.int .i64 r) ∧ w.frozen? ⟨g, 5, none⟩ = false := k.cell_of hx0 (i := 5) rfl
  clear hx0
  unfold InR at h2 h4
  by_cases hi : i = 0
  · subst hi
    by_cases hr : r = 0
    · subst hr
      rw [show tpL 0 pt q et p 0 = [0, pt, q, et, 0, 0] from by unfold tpL rising; simp [*, b2]]
      clear h2 h4 UU
      go_enter Tryd.func13, Tryd.ntmps13
      go_wp2
      go_quiet ((go_at_call 23; with_reducible exact Calls.quiet_of_same ((TT.out _ _).mono fun _ _ h => ⟨h.1, h.2.symm⟩)))
      go_wp2_with (first | (go_at_call 23; (with_reducible refine (TT.out _ _).mono ?_); rintro e w1 ⟨rfl, rfl⟩) | (go_at_call 25; (with_reducible refine (LL.out _ _).mono ?_); rintro e w1 ⟨rfl, rfl⟩) | (go_at_call 24; (with_reducible refine (UU.out _ _ _ _ _).mono ?_); rintro e w1 ⟨rfl, rfl⟩))
      refine end0 rfl rfl ?_
      exact ⟨rfl, ((X.out.drawn _).put 4 (by simp [vI]) _), fun B hB => ((below_drawn (Below.refl _ _) _).setCell hB _)⟩
    · have hrx := ne_yes hr
      by_cases hq : et < pt
      · rw [show tpL 0 pt q et p r = [0, pt, 1, et + 1, 0, 1] from by unfold tpL rising; simp [*, b2]]
        have UE : Hid (∀ W, Calls Tryd.prog 24 #[.int .i64 et, .int .i64 pt] W fun e w' => e = .returned (.int .i64 (et + 1)) ∧ W = w') := Lib.hid fun W => by have h := UU.out (et) (pt) (by constructor <;> omega) (by constructor <;> omega) W; rwa [show up (et) (pt) = et + 1 from by unfold up; rw [if_pos hq]] at h
        clear h2 h4 UU
        go_enter Tryd.func13, Tryd.ntmps13
        go_wp2
        go_quiet ((go_at_call 23; with_reducible exact Calls.quiet_of_same ((TT.out _ _).mono fun _ _ h => ⟨h.1, h.2.symm⟩)))
        go_wp2_with (first | (go_at_call 23; (with_reducible refine (TT.out _ _).mono ?_); rintro e w1 ⟨rfl, rfl⟩) | (go_at_call 25; (with_reducible refine (LL.out _ _).mono ?_); rintro e w1 ⟨rfl, rfl⟩) | (go_at_call 24; (with_reducible refine (UE.out _).mono ?_); rintro e w1 ⟨rfl, rfl⟩))
        refine end0 rfl rfl ?_
        exact ⟨rfl, (((((X.out.drawn _).put 3 (by simp [vI]) _).put 2 (by simp [vI]) _).put 5 (by simp [vI]) _).put 4 (by simp [vI]) _), fun B hB => (((((below_drawn (Below.refl _ _) _).setCell hB _).setCell hB _).setCell hB _).setCell hB _)⟩
      · rw [show tpL 0 pt q et p r = [0, pt, 0, et, 0, 0] from by unfold tpL rising; simp [*, b2]]
        have UE : Hid (∀ W, Calls Tryd.prog 24 #[.int .i64 et, .int .i64 pt] W fun e w' => e = .returned (.int .i64 (et)) ∧ W = w') := Lib.hid fun W => by have h := UU.out (et) (pt) (by constructor <;> omega) (by constructor <;> omega) W; rwa [show up (et) (pt) = et from by unfold up; rw [if_neg hq]] at h
        clear h2 h4 UU
        go_enter Tryd.func13, Tryd.ntmps13
        go_wp2
        go_quiet ((go_at_call 23; with_reducible exact Calls.quiet_of_same ((TT.out _ _).mono fun _ _ h => ⟨h.1, h.2.symm⟩)))
        go_wp2_with (first | (go_at_call 23; (with_reducible refine (TT.out _ _).mono ?_); rintro e w1 ⟨rfl, rfl⟩) | (go_at_call 25; (with_reducible refine (LL.out _ _).mono ?_); rintro e w1 ⟨rfl, rfl⟩) | (go_at_call 24; (with_reducible refine (UE.out _).mono ?_); rintro e w1 ⟨rfl, rfl⟩))
        refine end0 rfl rfl ?_
        exact ⟨rfl, (((((X.out.drawn _).put 3 (by simp [vI]) _).put 2 (by simp [vI]) _).put 5 (by simp [vI]) _).put 4 (by simp [vI]) _), fun B hB => (((((below_drawn (Below.refl _ _) _).setCell hB _).setCell hB _).setCell hB _).setCell hB _)⟩
  · have hix := ne_yes hi
    by_cases hp : p = 0
    · subst hp
      by_cases hr : r = 0
      · subst hr
        by_cases hq : 0 < pt
        · rw [show tpL i pt q et 0 0 = [i, pt, 1, 1, 1, 1] from by unfold tpL rising; simp [*, b2]]
          have UE : Hid (∀ W, Calls Tryd.prog 24 #[.int .i64 0, .int .i64 pt] W fun e w' => e = .returned (.int .i64 (1)) ∧ W = w') := Lib.hid fun W => by have h := UU.out (0) (pt) (by constructor <;> omega) (by constructor <;> omega) W; rwa [show up (0) (pt) = 1 from by unfold up; rw [if_pos hq]; rfl] at h
          clear h2 h4 UU
          go_enter Tryd.func13, Tryd.ntmps13
          go_wp2
          go_quiet ((go_at_call 23; with_reducible exact Calls.quiet_of_same ((TT.out _ _).mono fun _ _ h => ⟨h.1, h.2.symm⟩)))
          go_wp2_with (first | (go_at_call 23; (with_reducible refine (TT.out _ _).mono ?_); rintro e w1 ⟨rfl, rfl⟩) | (go_at_call 25; (with_reducible refine (LL.out _ _).mono ?_); rintro e w1 ⟨rfl, rfl⟩) | (go_at_call 24; (with_reducible refine (UE.out _).mono ?_); rintro e w1 ⟨rfl, rfl⟩))
          refine end0 rfl rfl ?_
          exact ⟨rfl, (((((((X.out.drawn _).put 5 (by simp [vI]) _).put 3 (by simp [vI]) _).put 3 (by simp [vI]) _).put 2 (by simp [vI]) _).put 5 (by simp [vI]) _).put 4 (by simp [vI]) _), fun B hB => (((((((below_drawn (Below.refl _ _) _).setCell hB _).setCell hB _).setCell hB _).setCell hB _).setCell hB _).setCell hB _)⟩
        · rw [show tpL i pt q et 0 0 = [i, pt, 0, 0, 1, 0] from by unfold tpL rising; simp [*, b2]]
          have UE : Hid (∀ W, Calls Tryd.prog 24 #[.int .i64 0, .int .i64 pt] W fun e w' => e = .returned (.int .i64 (0)) ∧ W = w') := Lib.hid fun W => by have h := UU.out (0) (pt) (by constructor <;> omega) (by constructor <;> omega) W; rwa [show up (0) (pt) = 0 from by unfold up; rw [if_neg hq]] at h
          clear h2 h4 UU
          go_enter Tryd.func13, Tryd.ntmps13
          go_wp2
          go_quiet ((go_at_call 23; with_reducible exact Calls.quiet_of_same ((TT.out _ _).mono fun _ _ h => ⟨h.1, h.2.symm⟩)))
          go_wp2_with (first | (go_at_call 23; (with_reducible refine (TT.out _ _).mono ?_); rintro e w1 ⟨rfl, rfl⟩) | (go_at_call 25; (with_reducible refine (LL.out _ _).mono ?_); rintro e w1 ⟨rfl, rfl⟩) | (go_at_call 24; (with_reducible refine (UE.out _).mono ?_); rintro e w1 ⟨rfl, rfl⟩))
          refine end0 rfl rfl ?_
          exact ⟨rfl, (((((((X.out.drawn _).put 5 (by simp [vI]) _).put 3 (by simp [vI]) _).put 3 (by simp [vI]) _).put 2 (by simp [vI]) _).put 5 (by simp [vI]) _).put 4 (by simp [vI]) _), fun B hB => (((((((below_drawn (Below.refl _ _) _).setCell hB _).setCell hB _).setCell hB _).setCell hB _).setCell hB _).setCell hB _)⟩
      · have hrx := ne_yes hr
        by_cases hq : et < pt
        · rw [show tpL i pt q et 0 r = [i, pt, 1, et + 1, 1, 1] from by unfold tpL rising; simp [*, b2]]
          have UE : Hid (∀ W, Calls Tryd.prog 24 #[.int .i64 et, .int .i64 pt] W fun e w' => e = .returned (.int .i64 (et + 1)) ∧ W = w') := Lib.hid fun W => by have h := UU.out (et) (pt) (by constructor <;> omega) (by constructor <;> omega) W; rwa [show up (et) (pt) = et + 1 from by unfold up; rw [if_pos hq]] at h
          clear h2 h4 UU
          go_enter Tryd.func13, Tryd.ntmps13
          go_wp2
          go_quiet ((go_at_call 23; with_reducible exact Calls.quiet_of_same ((TT.out _ _).mono fun _ _ h => ⟨h.1, h.2.symm⟩)))
          go_wp2_with (first | (go_at_call 23; (with_reducible refine (TT.out _ _).mono ?_); rintro e w1 ⟨rfl, rfl⟩) | (go_at_call 25; (with_reducible refine (LL.out _ _).mono ?_); rintro e w1 ⟨rfl, rfl⟩) | (go_at_call 24; (with_reducible refine (UE.out _).mono ?_); rintro e w1 ⟨rfl, rfl⟩))
          refine end0 rfl rfl ?_
          exact ⟨rfl, (((((X.out.drawn _).put 3 (by simp [vI]) _).put 2 (by simp [vI]) _).put 5 (by simp [vI]) _).put 4 (by simp [vI]) _), fun B hB => (((((below_drawn (Below.refl _ _) _).setCell hB _).setCell hB _).setCell hB _).setCell hB _)⟩
        · rw [show tpL i pt q et 0 r = [i, pt, 0, et, 1, 0] from by unfold tpL rising; simp [*, b2]]
          have UE : Hid (∀ W, Calls Tryd.prog 24 #[.int .i64 et, .int .i64 pt] W fun e w' => e = .returned (.int .i64 (et)) ∧ W = w') := Lib.hid fun W => by have h := UU.out (et) (pt) (by constructor <;> omega) (by constructor <;> omega) W; rwa [show up (et) (pt) = et from by unfold up; rw [if_neg hq]] at h
          clear h2 h4 UU
          go_enter Tryd.func13, Tryd.ntmps13
          go_wp2
          go_quiet ((go_at_call 23; with_reducible exact Calls.quiet_of_same ((TT.out _ _).mono fun _ _ h => ⟨h.1, h.2.symm⟩)))
          go_wp2_with (first | (go_at_call 23; (with_reducible refine (TT.out _ _).mono ?_); rintro e w1 ⟨rfl, rfl⟩) | (go_at_call 25; (with_reducible refine (LL.out _ _).mono ?_); rintro e w1 ⟨rfl, rfl⟩) | (go_at_call 24; (with_reducible refine (UE.out _).mono ?_); rintro e w1 ⟨rfl, rfl⟩))
          refine end0 rfl rfl ?_
          exact ⟨rfl, (((((X.out.drawn _).put 3 (by simp [vI]) _).put 2 (by simp [vI]) _).put 5 (by simp [vI]) _).put 4 (by simp [vI]) _), fun B hB => (((((below_drawn (Below.refl _ _) _).setCell hB _).setCell hB _).setCell hB _).setCell hB _)⟩
    · have hpx := ne_yes hp
      by_cases hr : r = 0
      · subst hr
        rw [show tpL i pt q et p 0 = [i, pt, q, et, 1, 0] from by unfold tpL rising; simp [*, b2]]
        clear h2 h4 UU
        go_enter Tryd.func13, Tryd.ntmps13
        go_wp2
        go_quiet ((go_at_call 23; with_reducible exact Calls.quiet_of_same ((TT.out _ _).mono fun _ _ h => ⟨h.1, h.2.symm⟩)))
        go_wp2_with (first | (go_at_call 23; (with_reducible refine (TT.out _ _).mono ?_); rintro e w1 ⟨rfl, rfl⟩) | (go_at_call 25; (with_reducible refine (LL.out _ _).mono ?_); rintro e w1 ⟨rfl, rfl⟩) | (go_at_call 24; (with_reducible refine (UU.out _ _ _ _ _).mono ?_); rintro e w1 ⟨rfl, rfl⟩))
        refine end0 rfl rfl ?_
        exact ⟨rfl, ((X.out.drawn _).put 4 (by simp [vI]) _), fun B hB => ((below_drawn (Below.refl _ _) _).setCell hB _)⟩
      · have hrx := ne_yes hr
        by_cases hq : et < pt
        · rw [show tpL i pt q et p r = [i, pt, 1, et + 1, 1, 1] from by unfold tpL rising; simp [*, b2]]
          have UE : Hid (∀ W, Calls Tryd.prog 24 #[.int .i64 et, .int .i64 pt] W fun e w' => e = .returned (.int .i64 (et + 1)) ∧ W = w') := Lib.hid fun W => by have h := UU.out (et) (pt) (by constructor <;> omega) (by constructor <;> omega) W; rwa [show up (et) (pt) = et + 1 from by unfold up; rw [if_pos hq]] at h
          clear h2 h4 UU
          go_enter Tryd.func13, Tryd.ntmps13
          go_wp2
          go_quiet ((go_at_call 23; with_reducible exact Calls.quiet_of_same ((TT.out _ _).mono fun _ _ h => ⟨h.1, h.2.symm⟩)))
          go_wp2_with (first | (go_at_call 23; (with_reducible refine (TT.out _ _).mono ?_); rintro e w1 ⟨rfl, rfl⟩) | (go_at_call 25; (with_reducible refine (LL.out _ _).mono ?_); rintro e w1 ⟨rfl, rfl⟩) | (go_at_call 24; (with_reducible refine (UE.out _).mono ?_); rintro e w1 ⟨rfl, rfl⟩))
          refine end0 rfl rfl ?_
          exact ⟨rfl, (((((X.out.drawn _).put 3 (by simp [vI]) _).put 2 (by simp [vI]) _).put 5 (by simp [vI]) _).put 4 (by simp [vI]) _), fun B hB => (((((below_drawn (Below.refl _ _) _).setCell hB _).setCell hB _).setCell hB _).setCell hB _)⟩
        · rw [show tpL i pt q et p r = [i, pt, 0, et, 1, 0] from by unfold tpL rising; simp [*, b2]]
          have UE : Hid (∀ W, Calls Tryd.prog 24 #[.int .i64 et, .int .i64 pt] W fun e w' => e = .returned (.int .i64 (et)) ∧ W = w') := Lib.hid fun W => by have h := UU.out (et) (pt) (by constructor <;> omega) (by constructor <;> omega) W; rwa [show up (et) (pt) = et from by unfold up; rw [if_neg hq]] at h
          clear h2 h4 UU
          go_enter Tryd.func13, Tryd.ntmps13
          go_wp2
          go_quiet ((go_at_call 23; with_reducible exact Calls.quiet_of_same ((TT.out _ _).mono fun _ _ h => ⟨h.1, h.2.symm⟩)))
          go_wp2_with (first | (go_at_call 23; (with_reducible refine (TT.out _ _).mono ?_); rintro e w1 ⟨rfl, rfl⟩) | (go_at_call 25; (with_reducible refine (LL.out _ _).mono ?_); rintro e w1 ⟨rfl, rfl⟩) | (go_at_call 24; (with_reducible refine (UE.out _).mono ?_); rintro e w1 ⟨rfl, rfl⟩))
          refine end0 rfl rfl ?_
          exact ⟨rfl, (((((X.out.drawn _).put 3 (by simp [vI]) _).put 2 (by simp [vI]) _).put 5 (by simp [vI]) _).put 4 (by simp [vI]) _), fun B hB => (((((below_drawn (Below.refl _ _) _).setCell hB _).setCell hB _).setCell hB _).setCell hB _)⟩
theorem cu_up {u cv : Int} (hu : u ≠ 0) (h : cv ≤ 9223372036854775807) : cuV u 0 cv 0 = up cv 9223372036854775807 := by
  unfold cuV up
  by_cases hc : cv = 9223372036854775807
  · subst hc; simp
  · rw [if_neg (by simp), if_pos ⟨hu, rfl, hc⟩, if_pos (by omega)]
set_option maxHeartbeats 8000000 in
theorem ctu_in (u r pv q cv p : Int) {g cap : Nat} {w : World} (hx0 : Box w g 0 (vI [u, r, pv, q, cv, p])) (hc : 6 ≤ cap) (h5 : InR cv) : Calls Tryd.prog 14 #[.slice (some ⟨g, 0, none⟩) 6 cap] w (Turns g (ctuL u r pv cv p) w) := by
  have TT := Lib.hid fun y W => truth_any y W
  have LL := Lib.hid fun y W => laid_any y W
  have UU := Lib.hid fun y m h1 h2 W => up_any y m h1 h2 W
  have X := Lib.hid hx0
  obtain ⟨c0, f0⟩ : w.cell? ⟨g, 0, none⟩ = some (.int .i64 u) ∧ w.frozen? ⟨g, 0, none⟩ = false := k.cell_of hx0 (i := 0) rfl
  obtain ⟨c1, f1⟩ : w.cell? ⟨g, 1, none⟩ = some (.int .i64 r) ∧ w.frozen? ⟨g, 1, none⟩ = false := k.cell_of hx0 (i := 1) rfl
  obtain ⟨c2, f2⟩ : w.cell? ⟨g, 2, none⟩ = some (.int .i64 pv) ∧ w.frozen? ⟨g, 2, none⟩ = false := k.cell_of hx0 (i := 2) rfl
  obtain ⟨c3, f3⟩ : w.cell? ⟨g, 3, none⟩ = some (.int .i64 q) ∧ w.frozen? ⟨g, 3, none⟩ = false := k.cell_of hx0 (i := 3) rfl
  obtain ⟨c4, f4⟩ : w.cell? ⟨g, 4, none⟩ = some (.int .i64 cv) ∧ w.frozen? ⟨g, 4, none⟩ = false := k.cell_of hx0 (i := 4) rfl
  obtain ⟨c5, f5⟩ : w.cell? ⟨g, 5, none⟩ = some (.int .i64 p) ∧ w.frozen? ⟨g, 5, none⟩ = false := k.cell_of hx0 (i := 5) rfl
  clear hx0
  unfold InR at h5
  by_cases hr : r = 0
  · subst hr
    by_cases hi : u = 0
    · subst hi
      by_cases hq : pv ≤ cv
      · unfold ctuL
        rw [show cuV 0 0 cv p = cv from by unfold cuV; simp [*], b2_yes hq, b2_no (by simp)]
        go_enter Tryd.func14, Tryd.ntmps14
        go_wp2
        go_quiet ((go_at_call 23; with_reducible exact Calls.quiet_of_same ((TT.out _ _).mono fun _ _ h => ⟨h.1, h.2.symm⟩)))
        go_wp2_with (first | (go_at_call 23; (with_reducible refine (TT.out _ _).mono ?_); rintro e w1 ⟨rfl, rfl⟩) | (go_at_call 25; (with_reducible refine (LL.out _ _).mono ?_); rintro e w1 ⟨rfl, rfl⟩) | (go_at_call 24; (with_reducible refine (UU.out _ _ _ _ _).mono ?_); rintro e w1 ⟨rfl, rfl⟩))
        refine end0 rfl rfl ?_
        exact ⟨rfl, (((X.out.drawn _).put 3 (by simp [vI]) _).put 5 (by simp [vI]) _), fun B hB => (((below_drawn (Below.refl _ _) _).setCell hB _).setCell hB _)⟩
      · unfold ctuL
        rw [show cuV 0 0 cv p = cv from by unfold cuV; simp [*], b2_no hq, b2_no (by simp)]
        go_enter Tryd.func14, Tryd.ntmps14
        go_wp2
        go_quiet ((go_at_call 23; with_reducible exact Calls.quiet_of_same ((TT.out _ _).mono fun _ _ h => ⟨h.1, h.2.symm⟩)))
        go_wp2_with (first | (go_at_call 23; (with_reducible refine (TT.out _ _).mono ?_); rintro e w1 ⟨rfl, rfl⟩) | (go_at_call 25; (with_reducible refine (LL.out _ _).mono ?_); rintro e w1 ⟨rfl, rfl⟩) | (go_at_call 24; (with_reducible refine (UU.out _ _ _ _ _).mono ?_); rintro e w1 ⟨rfl, rfl⟩))
        refine end0 rfl rfl ?_
        exact ⟨rfl, (((X.out.drawn _).put 3 (by simp [vI]) _).put 5 (by simp [vI]) _), fun B hB => (((below_drawn (Below.refl _ _) _).setCell hB _).setCell hB _)⟩
    · have hix := ne_yes hi
      by_cases hp : p = 0
      · subst hp
        obtain ⟨U, hU⟩ : ∃ U, up cv 9223372036854775807 = U := ⟨_, rfl⟩
        have UE : Hid (∀ W, Calls Tryd.prog 24 #[.int .i64 cv, .int .i64 9223372036854775807] W fun e w' => e = .returned (.int .i64 U) ∧ W = w') := Lib.hid fun W => by have h := UU.out cv 9223372036854775807 (by constructor <;> omega) (by constructor <;> omega) W; rwa [hU] at h
        have HV : Hid (cuV u 0 cv 0 = U) := Lib.hid ((cu_up hi h5.2).trans hU)
        clear hU UU h5
        by_cases hq : pv ≤ U
        · unfold ctuL
          rw [show cuV u 0 cv 0 = U from by exact HV.out, b2_yes hq, b2_yes (by assumption)]
          go_enter Tryd.func14, Tryd.ntmps14
          go_wp2
          go_quiet ((go_at_call 23; with_reducible exact Calls.quiet_of_same ((TT.out _ _).mono fun _ _ h => ⟨h.1, h.2.symm⟩)))
          go_wp2_with (first | (go_at_call 23; (with_reducible refine (TT.out _ _).mono ?_); rintro e w1 ⟨rfl, rfl⟩) | (go_at_call 25; (with_reducible refine (LL.out _ _).mono ?_); rintro e w1 ⟨rfl, rfl⟩) | (go_at_call 24; (with_reducible refine (UE.out _).mono ?_); rintro e w1 ⟨rfl, rfl⟩))
          refine end0 rfl rfl ?_
          exact ⟨rfl, ((((X.out.drawn _).put 4 (by simp [vI]) _).put 3 (by simp [vI]) _).put 5 (by simp [vI]) _), fun B hB => ((((below_drawn (Below.refl _ _) _).setCell hB _).setCell hB _).setCell hB _)⟩
        · unfold ctuL
          rw [show cuV u 0 cv 0 = U from by exact HV.out, b2_no hq, b2_yes (by assumption)]
          go_enter Tryd.func14, Tryd.ntmps14
          go_wp2
          go_quiet ((go_at_call 23; with_reducible exact Calls.quiet_of_same ((TT.out _ _).mono fun _ _ h => ⟨h.1, h.2.symm⟩)))
          go_wp2_with (first | (go_at_call 23; (with_reducible refine (TT.out _ _).mono ?_); rintro e w1 ⟨rfl, rfl⟩) | (go_at_call 25; (with_reducible refine (LL.out _ _).mono ?_); rintro e w1 ⟨rfl, rfl⟩) | (go_at_call 24; (with_reducible refine (UE.out _).mono ?_); rintro e w1 ⟨rfl, rfl⟩))
          refine end0 rfl rfl ?_
          exact ⟨rfl, ((((X.out.drawn _).put 4 (by simp [vI]) _).put 3 (by simp [vI]) _).put 5 (by simp [vI]) _), fun B hB => ((((below_drawn (Below.refl _ _) _).setCell hB _).setCell hB _).setCell hB _)⟩
      · have hpx := ne_yes hp
        by_cases hq : pv ≤ cv
        · unfold ctuL
          rw [show cuV u 0 cv p = cv from by unfold cuV; simp [*], b2_yes hq, b2_yes (by assumption)]
          go_enter Tryd.func14, Tryd.ntmps14
          go_wp2
          go_quiet ((go_at_call 23; with_reducible exact Calls.quiet_of_same ((TT.out _ _).mono fun _ _ h => ⟨h.1, h.2.symm⟩)))
          go_wp2_with (first | (go_at_call 23; (with_reducible refine (TT.out _ _).mono ?_); rintro e w1 ⟨rfl, rfl⟩) | (go_at_call 25; (with_reducible refine (LL.out _ _).mono ?_); rintro e w1 ⟨rfl, rfl⟩) | (go_at_call 24; (with_reducible refine (UU.out _ _ _ _ _).mono ?_); rintro e w1 ⟨rfl, rfl⟩))
          refine end0 rfl rfl ?_
          exact ⟨rfl, (((X.out.drawn _).put 3 (by simp [vI]) _).put 5 (by simp [vI]) _), fun B hB => (((below_drawn (Below.refl _ _) _).setCell hB _).setCell hB _)⟩
        · unfold ctuL
          rw [show cuV u 0 cv p = cv from by unfold cuV; simp [*], b2_no hq, b2_yes (by assumption)]
          go_enter Tryd.func14, Tryd.ntmps14
          go_wp2
          go_quiet ((go_at_call 23; with_reducible exact Calls.quiet_of_same ((TT.out _ _).mono fun _ _ h => ⟨h.1, h.2.symm⟩)))
          go_wp2_with (first | (go_at_call 23; (with_reducible refine (TT.out _ _).mono ?_); rintro e w1 ⟨rfl, rfl⟩) | (go_at_call 25; (with_reducible refine (LL.out _ _).mono ?_); rintro e w1 ⟨rfl, rfl⟩) | (go_at_call 24; (with_reducible refine (UU.out _ _ _ _ _).mono ?_); rintro e w1 ⟨rfl, rfl⟩))
          refine end0 rfl rfl ?_
          exact ⟨rfl, (((X.out.drawn _).put 3 (by simp [vI]) _).put 5 (by simp [vI]) _), fun B hB => (((below_drawn (Below.refl _ _) _).setCell hB _).setCell hB _)⟩
  · have hrx := ne_yes hr
    by_cases hi : u = 0
    · subst hi
      by_cases hq : pv ≤ 0
      · unfold ctuL
        rw [show cuV 0 r cv p = 0 from by unfold cuV; simp [*], b2_yes hq, b2_no (by simp)]
        go_enter Tryd.func14, Tryd.ntmps14
        go_wp2
        go_quiet ((go_at_call 23; with_reducible exact Calls.quiet_of_same ((TT.out _ _).mono fun _ _ h => ⟨h.1, h.2.symm⟩)))
        go_wp2_with (first | (go_at_call 23; (with_reducible refine (TT.out _ _).mono ?_); rintro e w1 ⟨rfl, rfl⟩) | (go_at_call 25; (with_reducible refine (LL.out _ _).mono ?_); rintro e w1 ⟨rfl, rfl⟩) | (go_at_call 24; (with_reducible refine (UU.out _ _ _ _ _).mono ?_); rintro e w1 ⟨rfl, rfl⟩))
        refine end0 rfl rfl ?_
        exact ⟨rfl, ((((X.out.drawn _).put 4 (by simp [vI]) _).put 3 (by simp [vI]) _).put 5 (by simp [vI]) _), fun B hB => ((((below_drawn (Below.refl _ _) _).setCell hB _).setCell hB _).setCell hB _)⟩
      · unfold ctuL
        rw [show cuV 0 r cv p = 0 from by unfold cuV; simp [*], b2_no hq, b2_no (by simp)]
        go_enter Tryd.func14, Tryd.ntmps14
        go_wp2
        go_quiet ((go_at_call 23; with_reducible exact Calls.quiet_of_same ((TT.out _ _).mono fun _ _ h => ⟨h.1, h.2.symm⟩)))
        go_wp2_with (first | (go_at_call 23; (with_reducible refine (TT.out _ _).mono ?_); rintro e w1 ⟨rfl, rfl⟩) | (go_at_call 25; (with_reducible refine (LL.out _ _).mono ?_); rintro e w1 ⟨rfl, rfl⟩) | (go_at_call 24; (with_reducible refine (UU.out _ _ _ _ _).mono ?_); rintro e w1 ⟨rfl, rfl⟩))
        refine end0 rfl rfl ?_
        exact ⟨rfl, ((((X.out.drawn _).put 4 (by simp [vI]) _).put 3 (by simp [vI]) _).put 5 (by simp [vI]) _), fun B hB => ((((below_drawn (Below.refl _ _) _).setCell hB _).setCell hB _).setCell hB _)⟩
    · have hix := ne_yes hi
      by_cases hq : pv ≤ 0
      · unfold ctuL
        rw [show cuV u r cv p = 0 from by unfold cuV; simp [*], b2_yes hq, b2_yes (by assumption)]
        go_enter Tryd.func14, Tryd.ntmps14
        go_wp2
        go_quiet ((go_at_call 23; with_reducible exact Calls.quiet_of_same ((TT.out _ _).mono fun _ _ h => ⟨h.1, h.2.symm⟩)))
        go_wp2_with (first | (go_at_call 23; (with_reducible refine (TT.out _ _).mono ?_); rintro e w1 ⟨rfl, rfl⟩) | (go_at_call 25; (with_reducible refine (LL.out _ _).mono ?_); rintro e w1 ⟨rfl, rfl⟩) | (go_at_call 24; (with_reducible refine (UU.out _ _ _ _ _).mono ?_); rintro e w1 ⟨rfl, rfl⟩))
        refine end0 rfl rfl ?_
        exact ⟨rfl, ((((X.out.drawn _).put 4 (by simp [vI]) _).put 3 (by simp [vI]) _).put 5 (by simp [vI]) _), fun B hB => ((((below_drawn (Below.refl _ _) _).setCell hB _).setCell hB _).setCell hB _)⟩
      · unfold ctuL
        rw [show cuV u r cv p = 0 from by unfold cuV; simp [*], b2_no hq, b2_yes (by assumption)]
        go_enter Tryd.func14, Tryd.ntmps14
        go_wp2
        go_quiet ((go_at_call 23; with_reducible exact Calls.quiet_of_same ((TT.out _ _).mono fun _ _ h => ⟨h.1, h.2.symm⟩)))
        go_wp2_with (first | (go_at_call 23; (with_reducible refine (TT.out _ _).mono ?_); rintro e w1 ⟨rfl, rfl⟩) | (go_at_call 25; (with_reducible refine (LL.out _ _).mono ?_); rintro e w1 ⟨rfl, rfl⟩) | (go_at_call 24; (with_reducible refine (UU.out _ _ _ _ _).mono ?_); rintro e w1 ⟨rfl, rfl⟩))
        refine end0 rfl rfl ?_
        exact ⟨rfl, ((((X.out.drawn _).put 4 (by simp [vI]) _).put 3 (by simp [vI]) _).put 5 (by simp [vI]) _), fun B hB => ((((below_drawn (Below.refl _ _) _).setCell hB _).setCell hB _).setCell hB _)⟩
end Go.Proofs.YtkfmblebobjgbaaDoor.sd
