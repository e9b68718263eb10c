/- The fixed answer of the layer std's laws: it is true; what was in memory is as it was. Condition: the library's table of white space lies as the library lays it. -/
import Derived.Test.YtkfmblebobjgbaaDoorStStd
namespace Go.Proofs.YtkfmblebobjgbaaDoor.sd
open Go.ChangeShapes Go.WideShapes Go.ChangeAt Go.RowKit Go.Proofs.YtkfmblebobjgbaaDoor.k Go.Proofs.YtkfmblebobjgbaaDoor.rr
set_option linter.unusedVariables false

theorem inr {x : Int} (h : -9223372036854775808 ≤ x ∧ x ≤ 9223372036854775807) : InR x := h
set_option maxHeartbeats 4000000 in
theorem awake_any (w : World) (hL : Laid w) : Calls Tryd.prog 6 #[] w fun e w' => e = .returned (.bool true) ∧ Below w.heap.size w w' := by
  have L0 := Lib.hid hL
  have S1 : Hid (Calls Tryd.prog 7 #[.int .i64 10, .slice (some ⟨w.heap.size, 0, none⟩) 4 4] (w.alloc (.cells #[.int .i64 1, .int .i64 2, .int .i64 0, .int .i64 0] 2)) (GotB 4 [1, 2, 0, 1] _)) := Lib.hid (step_ton 1 2 0 0 (rd_box (n := 4) (w := w.alloc (.cells #[.int .i64 1, .int .i64 2, .int .i64 0, .int .i64 0] 2)) (g := w.heap.size) (B := w.heap.size + 1) (cap := 4) (L := [1, 2, 0, 0]) (Box.new w _ _) (by omega) (Nat.le_refl _) (by unfold maxLen; omega) rfl) (by simp) (inr (by omega)) (inr (by omega)) (inr (by omega)) (inr (by omega)) (hL.below ((Below.refl _ _).alloc (Nat.le_refl _) _)))
  clear hL
  have KK := Lib.hid fun W => kind_any ⟨#[77, 67, 95, 83, 116, 111, 112]⟩ W
  have hk : kindS ⟨#[77, 67, 95, 83, 116, 111, 112]⟩ = 22 := by kernel_rfl
  rw [hk] at KK
  go_enter Tryd.func6, Tryd.ntmps6
  go_wp2_with (go_at_call 7; fail)
  with_reducible refine (S1.out).mono ?_
  rintro e w1 ⟨g1, c1, rfl, hg1, hz1, hc1, hm1, _, x1, hb1⟩
  have S2 : Hid (Calls Tryd.prog 7 #[.int .i64 10, .slice (some ⟨g1, 0, none⟩) 4 c1] w1 (GotB 4 [1, 2, 1, 2] _)) := Lib.hid (step_ton 1 2 0 1 (rd_box (n := 4) (w := w1) (g := g1) (B := w1.heap.size) (cap := c1) (L := [1, 2, 0, 1]) x1 hz1 hc1 hm1 rfl) (Nat.le_refl _) (inr (by omega)) (inr (by omega)) (inr (by omega)) (inr (by omega)) (L0.out.below (((Below.refl _ _).alloc (Nat.le_refl _) _).trans (hb1.mono (by simp)))))
  have B1 := Lib.hid hb1
  clear hb1 x1 hc1 hm1 hg1 hz1
  go_wp2_with (go_at_call 7; fail)
  with_reducible refine (S2.out).mono ?_
  rintro e w2 ⟨g2, c2, rfl, hg2, hz2, hc2, hm2, _, x2, hb2⟩
  have B2 := Lib.hid (((Below.refl _ _).alloc (Nat.le_refl _) _).trans ((B1.out.mono (by simp)).trans (hb2.mono (Nat.le_trans (by simp) B1.out.size))))
  clear hb2
  obtain ⟨a0, _, a1, _, a2, _, a3, _, _⟩ := x2
  go_wp2_with (go_at_call 8; (with_reducible refine (KK.out _).mono ?_); rintro e w3 ⟨rfl, hb3⟩; have B3 := Lib.hid (B2.out.trans (hb3.mono B2.out.size)); clear hb3)
  go_ret
  exact ⟨rfl, B3.out⟩
end Go.Proofs.YtkfmblebobjgbaaDoor.sd
