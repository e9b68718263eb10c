/- What smooth's New answers: a window in memory of its own, or none; and all of smooth's words. No condition beyond what each line says. -/
import Derived.Test.YtgfhpdgohjnooaaMSmoothF
namespace Go.Proofs.Ytgfhpdgohjnooaa.mm
open Go.ChangeShapes Go.WideShapes Go.ChangeAt Go.RowKit Go.Proofs.Ytgfhpdgohjnooaa.k
set_option linter.unusedVariables false

set_option maxHeartbeats 2000000 in
theorem new_from {m p : Int} (h1 : 1 ≤ m) (h2 : m ≤ 16) (hp : inP p) (w : World) : Calls Try.prog 9 #[.int .i64 m, .int .i64 p] w (NewF w (List.replicate m.toNat p) 0) := by
  obtain ⟨w1, e1, V1, b1, z1⟩ := boxed w (.slice none 0 0)
  obtain ⟨w2, e2, W2, b2, z2⟩ : ∃ W, w1.alloc (.cells #[.int .i64 p] 2) = W ∧ Win W (w1.heap.size + 1) (some ⟨w1.heap.size, 0, none⟩) 1 1 [p] ∧ Below w1.heap.size w1 W ∧ W.heap.size = w1.heap.size + 1 := ⟨_, rfl, one_int w1 _ p, (Below.refl _ _).alloc (Nat.le_refl _) _, by simp⟩
  have X1 := Lib.hid (V1.under b2)
  have HB := Lib.hid (b1.trans (b2.mono b1.size))
  have P := Lib.hid fun W => iplace_yes hp W
  have hC := repeat_one p h1 h2 W2 (by omega)
  rw [z1] at hC
  have C := Lib.hid hC
  clear hC
  have g1 : ¬ m < 1 := by omega
  have g2 : ¬ 16 < m := by omega
  have hd : w.heap.size < w1.heap.size := by omega
  clear hp V1 b1 b2 W2
  have HC := Lib.hid C.out
  clear C
  generalize m.toNat = M at *
  obtain ⟨LR, hLR⟩ : ∃ LR, List.replicate M p = LR := ⟨_, rfl⟩
  rw [hLR] at HC ⊢
  clear hLR
  go_enter Try.func9, Try.ntmps9
  go_wp2_with (go_at_call 18; fail)
  refine (P.out _).mono ?_
  rintro e w1' ⟨rfl, rfl⟩
  go_wp2_with (go_at_call 19; fail)
  refine HC.out.mono ?_
  rintro e w3 ⟨A3, l3, rfl, hN, hb⟩
  obtain ⟨wz, ez, VZ, hz, hNz⟩ := put_result (X1.out.under hb) (.slice A3 M l3)
  have hcz := (X1.out.under hb).var.cell
  have hfz := (X1.out.under hb).var.frozen 0
  have HBz := Lib.hid ((HB.out.trans (hb.mono HB.out.size)).trans (hz _ (Nat.le_refl _)))
  have HNz := Lib.hid (hNz (hN.from HB.out.size))
  clear hz hNz hb hN
  go_wp2
  refine bodyPost_ret (k.results_cell_tmp rfl rfl (run_loadVar_mid wz w.heap.size 0 24 _ _ VZ.range rfl rfl (by kernel_rfl))) rfl ?_
  exact ⟨A3, _, l3, rfl, ⟨HNz.out.1, HNz.out.2.1⟩, HBz.out⟩
set_option maxHeartbeats 2000000 in
theorem new_no {m p : Int} (h : ¬ (1 ≤ m ∧ m ≤ 16 ∧ inP p)) (w : World) : Calls Try.prog 9 #[.int .i64 m, .int .i64 p] w (NewW w [] 1) := by
  have P := Lib.hid fun W => iplace_any p W
  by_cases h1 : m < 1
  · clear h
    obtain ⟨w1, e1, V1, b1, z1⟩ := boxed w (.slice none 0 0)
    obtain ⟨wz, ez, VZ, hz, hNz⟩ := put_result V1 (.slice none 0 0)
    have hcz := V1.var.cell
    have hfz := V1.var.frozen 0
    have HBz := Lib.hid (b1.trans (hz _ (Nat.le_refl _)))
    have hd : w.heap.size < w1.heap.size := by omega
    clear hz hNz b1 V1
    go_enter Try.func9, Try.ntmps9
    go_wp2_with (go_at_call 18; ((with_reducible refine (P.out _).mono ?_); rintro e w' ⟨rfl, rfl⟩))
    refine bodyPost_ret (k.results_cell_tmp rfl rfl (run_loadVar_mid wz w.heap.size 0 24 _ _ VZ.range rfl rfl (by kernel_rfl))) rfl ?_
    exact ⟨none, 0, 0, rfl, Win.none_ _ _, HBz.out⟩
  · by_cases h2 : 16 < m
    · clear h
      obtain ⟨w1, e1, V1, b1, z1⟩ := boxed w (.slice none 0 0)
      obtain ⟨wz, ez, VZ, hz, hNz⟩ := put_result V1 (.slice none 0 0)
      have hcz := V1.var.cell
      have hfz := V1.var.frozen 0
      have HBz := Lib.hid (b1.trans (hz _ (Nat.le_refl _)))
      have hd : w.heap.size < w1.heap.size := by omega
      clear hz hNz b1 V1
      go_enter Try.func9, Try.ntmps9
      go_wp2_with (go_at_call 18; ((with_reducible refine (P.out _).mono ?_); rintro e w' ⟨rfl, rfl⟩))
      refine bodyPost_ret (k.results_cell_tmp rfl rfl (run_loadVar_mid wz w.heap.size 0 24 _ _ VZ.range rfl rfl (by kernel_rfl))) rfl ?_
      exact ⟨none, 0, 0, rfl, Win.none_ _ _, HBz.out⟩
    · have hp : ¬ inP p := fun hp => h ⟨by omega, by omega, hp⟩
      have P := Lib.hid fun W => iplace_no hp W
      clear h hp
      obtain ⟨w1, e1, V1, b1, z1⟩ := boxed w (.slice none 0 0)
      obtain ⟨wz, ez, VZ, hz, hNz⟩ := put_result V1 (.slice none 0 0)
      have hcz := V1.var.cell
      have hfz := V1.var.frozen 0
      have HBz := Lib.hid (b1.trans (hz _ (Nat.le_refl _)))
      have hd : w.heap.size < w1.heap.size := by omega
      clear hz hNz b1 V1
      go_enter Try.func9, Try.ntmps9
      go_wp2_with (go_at_call 18; ((with_reducible refine (P.out _).mono ?_); rintro e w' ⟨rfl, rfl⟩))
      refine bodyPost_ret (k.results_cell_tmp rfl rfl (run_loadVar_mid wz w.heap.size 0 24 _ _ VZ.range rfl rfl (by kernel_rfl))) rfl ?_
      exact ⟨none, 0, 0, rfl, Win.none_ _ _, HBz.out⟩
end Go.Proofs.Ytgfhpdgohjnooaa.mm
