/- What line's Right and commands answer; what was in memory is as it was. No condition but that the rows are read where they lie. -/
import Derived.Test.YtnghifbkiipigaaLnLineC
namespace Go.Proofs.Ytnghifbkiipigaa.ln
open Go.ChangeShapes Go.WideShapes Go.ChangeAt Go.RowKit Go.Proofs.Ytnghifbkiipigaa.k Go.Proofs.Ytnghifbkiipigaa.rr
set_option linter.unusedVariables false

theorem any_iff (L : List C) : anyNo L = false ↔ ∀ c ∈ L, OkC c := by
  unfold anyNo
  rw [List.any_eq_false]
  exact ⟨fun h c hc => by have := h c hc; unfold noMode at this; simpa using this, fun h c hc => by have := h c hc; unfold noMode; simpa using this⟩
/-- of right lengths -/
def Lens (n m : Nat) : Prop := n ≤ 1 ∧ m ≤ 4 ∧ (n = 1 ∨ m = 0)
theorem right_lens {N W : List C} (h : Lens N.length W.length) : rightL N W = (!anyNo N && !anyNo W) := by
  by_cases hr : RightL N W
  · rw [right_yes hr, (any_iff N).2 fun c hc => hr.1 c (List.mem_append_left _ hc), (any_iff W).2 fun c hc => hr.1 c (List.mem_append_right _ hc)]
    rfl
  · rw [right_no hr]
    cases h1 : anyNo N
    · cases h2 : anyNo W
      · refine absurd ⟨fun c hc => ?_, ?_, ?_, h.2.2⟩ hr
        · rcases List.mem_append.1 hc with h | h
          · exact (any_iff N).1 h1 c h
          · exact (any_iff W).1 h2 c h
        · have := h.1; omega
        · have := h.2.1; omega
      · rfl
    · rfl
theorem right_else {N W : List C} (h : ¬ Lens N.length W.length) : rightL N W = false := right_no fun hr => h ⟨by have := hr.2.1; omega, by have := hr.2.2.1; omega, hr.2.2.2⟩
set_option maxHeartbeats 2000000 in
theorem right_any (N W : List C) {A A' : Option Addr} {n cap m cap' B : Nat} {w : World} (h : RdC w B A n cap N) (h2 : RdC w B A' m cap' W) (hB : B ≤ w.heap.size) (hn : n ≤ 1000) (hm : m ≤ 1000) :
    Calls Try.prog 10 #[lnV A n cap A' m cap'] w fun e w' => e = .returned (.bool (rightL N W)) ∧ Below w.heap.size w w' := by
  have hlen1 := h.len_le
  have hlen2 := h2.len_le
  have HNM := Lib.hid (show N.length = n ∧ W.length = m from ⟨h.1, h2.1⟩)
  obtain ⟨x1, x2, x3⟩ := k.boxes1 (w := w) (c1 := #[.slice A n cap, .slice A' m cap']) (t1 := 24) (Below.refl _ _)
  have X1 := Lib.hid x1
  have X2 := Lib.hid x2
  have C1 := Lib.hid fun (W' : World) (hb : Below B w W') => contains_any N (h.below hb) (Nat.le_trans hB hb.size)
  have C2 := Lib.hid fun (W' : World) (hb : Below B w W') => contains_any W (h2.below hb) (Nat.le_trans hB hb.size)
  have HB := Lib.hid hB
  clear h h2 hB x1 x2
  by_cases hl : Lens n m
  · have HV := Lib.hid (right_lens (N := N) (W := W) (by rw [HNM.out.1, HNM.out.2]; exact hl))
    have k1 : (n : Int) ≤ 1 := by have := hl.1; omega
    have k2 : (m : Int) ≤ 4 := by have := hl.2.1; omega
    have k1b : decide (1 < (n : Int)) = false := decide_eq_false (by omega)
    have k2b : decide (4 < (m : Int)) = false := decide_eq_false (by omega)
    have HK : Hid (n = 1 ∨ m = 0) := Lib.hid hl.2.2
    clear hl
    have k3 : ((n : Int) == 0) = false ∨ (n = 0 ∧ m = 0) := by
      rcases Nat.lt_or_ge 0 n with h | h
      · exact .inl (by rw [beq_eq_false_iff_ne]; omega)
      · exact .inr ⟨by omega, by have := HK.out; omega⟩
    go_enter Try.func10, Try.ntmps10
    go_upto_region 1 with (fail)
    generalize w.alloc (.cells #[.slice A n cap, .slice A' m cap'] 24) = w2 at X1 X2 x3 ⊢
    have ⟨c0, _⟩ := k.cell_of X1.out (i := 0) rfl
    have ⟨c1, _⟩ := k.cell_of X1.out (i := 1) rfl
    rcases k3 with k3 | ⟨k3, k4⟩
    · go_upto_region 3 with (fail)
      go_wp2_with (go_at_call 24; fail)
      refine (C1.out _ (X2.out.mono HB.out)).mono ?_
      rintro e w3 ⟨rfl, hb⟩
      have X3 := Lib.hid (X2.out.trans (hb.mono X2.out.size))
      have ⟨d0, _⟩ := k.cell_of (X1.out.below hb x3) (i := 0) rfl
      have ⟨d1, _⟩ := k.cell_of (X1.out.below hb x3) (i := 1) rfl
      clear hb c0 c1 X1 X2 C1
      cases h1 : anyNo N
      · rw [h1] at HV
        clear h1
        go_wp2_with (go_at_call 24; fail)
        refine (C2.out _ (X3.out.mono HB.out)).mono ?_
        rintro e w4 ⟨rfl, hb⟩
        have X4 := Lib.hid (X3.out.trans (hb.mono X3.out.size))
        clear hb d0 d1 X3 C2
        go_wp2
        go_ret
        exact ⟨ret_bool (by rw [HV.out]; rfl), X4.out⟩
      · rw [h1] at HV
        clear h1
        go_wp2
        go_ret
        exact ⟨ret_bool (by rw [HV.out]; rfl), X3.out⟩
    · subst k3 k4
      go_upto_region 3 with (fail)
      go_wp2_with (go_at_call 24; fail)
      refine (C1.out _ (X2.out.mono HB.out)).mono ?_
      rintro e w3 ⟨rfl, hb⟩
      have X3 := Lib.hid (X2.out.trans (hb.mono X2.out.size))
      have ⟨d0, _⟩ := k.cell_of (X1.out.below hb x3) (i := 0) rfl
      have ⟨d1, _⟩ := k.cell_of (X1.out.below hb x3) (i := 1) rfl
      clear hb c0 c1 X1 X2 C1
      cases h1 : anyNo N
      · rw [h1] at HV
        clear h1
        go_wp2_with (go_at_call 24; fail)
        refine (C2.out _ (X3.out.mono HB.out)).mono ?_
        rintro e w4 ⟨rfl, hb⟩
        have X4 := Lib.hid (X3.out.trans (hb.mono X3.out.size))
        clear hb d0 d1 X3 C2
        go_wp2
        go_ret
        exact ⟨ret_bool (by rw [HV.out]; rfl), X4.out⟩
      · rw [h1] at HV
        clear h1
        go_wp2
        go_ret
        exact ⟨ret_bool (by rw [HV.out]; rfl), X3.out⟩
  · have HV := Lib.hid (right_else (N := N) (W := W) (by rw [HNM.out.1, HNM.out.2]; exact hl))
    have HK : Hid (1 < n ∨ (n ≤ 1 ∧ 4 < m) ∨ (n = 0 ∧ 0 < m ∧ m ≤ 4)) := Lib.hid (by unfold Lens at hl; omega)
    clear hl C1 C2
    go_enter Try.func10, Try.ntmps10
    go_upto_region 1 with (fail)
    generalize w.alloc (.cells #[.slice A n cap, .slice A' m cap'] 24) = w2 at X1 X2 x3 ⊢
    have ⟨c0, _⟩ := k.cell_of X1.out (i := 0) rfl
    have ⟨c1, _⟩ := k.cell_of X1.out (i := 1) rfl
    rcases HK.out with k1 | ⟨k1, k2⟩ | ⟨k1, k2, k3⟩
    · have i1 : (1 : Int) < (n : Int) := by omega
      clear k1 HK
      go_wp2
      go_ret
      exact ⟨ret_bool HV.out.symm, X2.out⟩
    · have i1 : (n : Int) ≤ 1 := by omega
      have i2 : (4 : Int) < (m : Int) := by omega
      have i3 : decide (1 < (n : Int)) = false := decide_eq_false (by omega)
      clear k1 k2 HK
      go_wp2
      go_ret
      exact ⟨ret_bool HV.out.symm, X2.out⟩
    · subst k1
      have i2 : (m : Int) ≤ 4 := by omega
      have i4 : decide (4 < (m : Int)) = false := decide_eq_false (by omega)
      have i3 : (0 : Int) < (m : Int) := by omega
      clear k2 k3 HK
      go_wp2
      go_ret
      exact ⟨ret_bool HV.out.symm, X2.out⟩
/-- a right line's commands in one row -/
def allL (N W : List C) : List C := if RightL N W then N ++ W else []
theorem all_yes {N W : List C} (h : RightL N W) : allL N W = N ++ W := if_pos h
theorem all_no {N W : List C} (h : ¬ RightL N W) : allL N W = [] := if_neg h
set_option maxHeartbeats 2000000 in
theorem commands_any (N W : List C) {A A' : Option Addr} {n cap m cap' B : Nat} {w : World} (h : RdC w B A n cap N) (h2 : RdC w B A' m cap' W) (hB : B ≤ w.heap.size) (hn : n ≤ 1000) (hm : m ≤ 1000) :
    Calls Try.prog 21 #[lnV A n cap A' m cap'] w fun e w' => ∃ v, e = .returned v ∧ OwC w' w.heap.size v (allL N W) ∧ Below w.heap.size w w' := by
  obtain ⟨x1, x2, x3⟩ := k.boxes1 (w := w) (c1 := #[.slice A n cap, .slice A' m cap']) (t1 := 24) (Below.refl _ _)
  have X1 := Lib.hid x1
  have X2 := Lib.hid x2
  have C1 := Lib.hid fun (W' : World) (hb : Below B w W') => right_any N W (h.below hb) (h2.below hb) (Nat.le_trans hB hb.size) hn hm
  have C2 := Lib.hid fun (W' : World) (g : Nat) (hb : Below B w W') (hg : g < W'.heap.size) (ht : Two W' g A n cap A' m cap') => concat_any N W (h.below hb) (h2.below hb) (Nat.le_trans hB hb.size) hg ht hn hm
  have HB := Lib.hid hB
  clear h h2 hB x1 x2 hn hm
  go_enter Try.func21, Try.ntmps21
  go_upto_region 1 with (fail)
  generalize w.alloc (.cells #[.slice A n cap, .slice A' m cap'] 24) = w2 at X1 X2 x3 ⊢
  have ⟨c0, _⟩ := k.cell_of X1.out (i := 0) rfl
  have ⟨c1, _⟩ := k.cell_of X1.out (i := 1) rfl
  go_wp2_with (go_at_call 10; fail)
  refine (C1.out _ (X2.out.mono HB.out)).mono ?_
  rintro e w3 ⟨rfl, hb⟩
  have X3 := Lib.hid (X2.out.trans (hb.mono X2.out.size))
  have ⟨d0, _⟩ := k.cell_of (X1.out.below hb x3) (i := 0) rfl
  have ⟨d1, _⟩ := k.cell_of (X1.out.below hb x3) (i := 1) rfl
  clear hb c0 c1 X1 X2 C1 x3
  by_cases hr : RightL N W
  · have HV := Lib.hid (all_yes hr)
    rw [right_yes hr]
    clear hr
    go_wp2_with (go_at_call 26; fail)
    have hb4 := (Below.refl w3.heap.size w3).alloc (Nat.le_refl _) (.cells #[.slice A n cap, .slice A' m cap'] 22)
    have hs : w3.heap.size < (w3.alloc (.cells #[.slice A n cap, .slice A' m cap'] 22)).heap.size := by simp
    refine (C2.out _ w3.heap.size ((X3.out.trans (hb4.mono X3.out.size)).mono HB.out) hs ⟨(World.cell?_alloc_mark _ _ _ _ 0).trans (by simp), (World.cell?_alloc_mark _ _ _ _ 1).trans (by simp)⟩).mono ?_
    rintro e w5 ⟨v, rfl, ho, hb5⟩
    have X5 := Lib.hid ((X3.out.trans (hb4.mono X3.out.size)).trans (hb5.mono (Nat.le_trans X3.out.size hb4.size)))
    have HO := Lib.hid (ho.base (Nat.le_trans X3.out.size hb4.size))
    clear hb4 hs ho hb5 X3 d0 d1 C2
    go_wp2
    go_ret
    exact ⟨_, rfl, by rw [HV.out]; exact HO.out, X5.out⟩
  · have HV := Lib.hid (all_no hr)
    rw [right_no hr]
    clear hr
    go_wp2
    go_ret
    exact ⟨_, rfl, by rw [HV.out]; exact Ow.nil _ _ _ _ _, X3.out⟩
end Go.Proofs.Ytnghifbkiipigaa.ln
