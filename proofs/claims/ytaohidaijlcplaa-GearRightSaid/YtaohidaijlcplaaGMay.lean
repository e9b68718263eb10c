/- What servitorref09's May answers, of right limits and a safe generator; what was in memory is as it was. No condition beyond that. -/
import Derived.Test.YtaohidaijlcplaaGTurn
namespace Go.Proofs.Ytaohidaijlcplaa.gn
open Go.ChangeShapes Go.WideShapes Go.ChangeAt Go.RowKit Go.Proofs.Ytaohidaijlcplaa.k Go.Proofs.Ytaohidaijlcplaa.b Go.Proofs.Ytaohidaijlcplaa
set_option linter.unusedVariables false

/-- a region of quiet operations with a forced end, its world by a name -/
theorem still_named {id : Nat} {Q : Exit → Act → World → Prop} {a : Act} {w : World} {l : List Oper} (n : Nat) (hB : Region.lexTailB .any l.toArray n = true)
    (h : ∀ w2 : World, (∀ p, w2.cell? p = w.cell? p) → (∀ p, w2.frozen? p = w.frozen? p) → (∀ B, Below B w w2) → wpStill Try.prog l.toArray w2 (fun a' => wpList Try.prog l.toArray Q (l.drop n) a' w2) (l.take n) a) : (Code.region id l.toArray true).wp Try.prog Q a w :=
  wp_region_still_tail n (by kernel_rfl) hB (h _ (fun _ => rfl) (fun _ => rfl) (fun _ => (Below.refl _ _).drew))
theorem reach_still {S D X : Int} (s0 : 0 ≤ S) (s1 : S ≤ 2199023255552) (d0 : 1 ≤ D) (d1 : D ≤ 1048576) (h : reachV S D = X) (W : World) :
    Calls Try.prog 45 #[.int .i64 S, .int .i64 D] W fun e w'' => e = .returned (.int .i64 X) ∧ w'' = W :=
  (refreach_any S D s0 s1 d0 d1 W).mono fun _ _ hh => ⟨by rw [hh.1, h], hh.2.symm⟩
theorem ret_two {a a' b b' : Int} (h : a = a') (h2 : b = b') : Ending.returned (.tuple #[.int .i64 a, .int .i64 b]) = .returned (.tuple #[.int .i64 a', .int .i64 b']) := by rw [h, h2]
theorem may_zero {l : L} (hr : RightL l) {p : Int} (h1 : l.lo ≤ p) (h2 : p ≤ l.hi) : mayLo l p 0 = -(min (min l.A l.V) (reachV (p - l.lo) l.D)) ∧ mayHi l p 0 = min (min (0 + l.A) l.V) (reachV (l.hi - p) l.D) := by
  obtain ⟨r1, r2, r3, r4, r5, r6, _⟩ := hr
  have a1 := (reach_in (s := p - l.lo) (by omega) r5).1
  have a2 := (reach_in (s := l.hi - p) (by omega) r5).1
  unfold mayLo mayHi hiOf
  rw [if_neg (by omega), if_neg (by omega), show (-0 : Int) = 0 by rfl, nextV_zero r5]
  omega
theorem may_pos {l : L} {p v : Int} (h : 0 < v) : mayLo l p v = nextV v l.D ∧ mayHi l p v = max (nextV v l.D) (min (min (v + l.A) l.V) (reachV (l.hi - p) l.D)) := by
  unfold mayLo mayHi hiOf
  rw [if_pos h, if_neg (by omega)]
  exact ⟨rfl, rfl⟩
set_option maxRecDepth 100000 in
set_option maxHeartbeats 4000000 in
theorem refmay_up (l : L) (hr : RightL l) (p v : Int) (hs : SafeP l p v) (hv : 0 ≤ v) (w : World) :
    Calls Try.prog 23 #[.agg #[.int .i64 l.V, .int .i64 l.A, .int .i64 l.D, .int .i64 l.lo, .int .i64 l.hi], .agg #[.int .i64 p, .int .i64 v]] w fun e w' =>
      e = .returned (.tuple #[.int .i64 (mayLo l p v), .int .i64 (mayHi l p v)]) ∧ Below w.heap.size w w' := by
  have hz := fun (h : v = 0) => may_zero hr (p := p) hs.1 hs.2.1
  have hp := fun (h : 0 < v) => may_pos (l := l) (p := p) (v := v) h
  obtain ⟨V, A, D, lo, hi⟩ := l
  obtain ⟨r1, r2, r3, r4, r5, r6, r7, r8, r9⟩ := hr
  obtain ⟨s1, s2, s3, s4, _⟩ := hs
  dsimp only at r1 r2 r3 r4 r5 r6 r7 r8 r9 s1 s2 hz hp ⊢
  obtain ⟨R1, hR1⟩ : ∃ R1, reachV (hi - p) D = R1 := ⟨_, rfl⟩
  have b1 := reach_in (s := hi - p) (by omega) r5
  have C1 := Lib.hid fun W => reach_still (by omega) (by omega) r5 r6 hR1 W
  rw [hR1] at b1 hz hp
  have b10 := b1.1
  have b11 := b1.2.1
  clear b1 hR1
  by_cases h0 : 0 < v
  · have hp := hp h0
    obtain ⟨M, hM⟩ : ∃ M, min (min (v + A) V) R1 = M := ⟨_, rfl⟩
    rw [hM] at hp
    have HM := Lib.hid hM
    have HP := Lib.hid hp
    have hvb : (v == 0) = false := by rw [beq_eq_false_iff_ne]; omega
    have hMb : 0 ≤ M ∧ M ≤ 1048576 := by omega
    have hM0 := hMb.1
    have hM1 := hMb.2
    clear hp hz hM hMb
    go_enter Try.func23, Try.ntmps23
    go_upto_region 1 with (fail)
    obtain ⟨x1, x2, x3, x4⟩ := k.boxes2 (w := w) (c1 := #[.int .i64 V, .int .i64 A, .int .i64 D, .int .i64 lo, .int .i64 hi]) (t1 := 23) (c2 := #[.int .i64 p, .int .i64 v]) (t2 := 25) (Below.refl _ _)
    generalize (w.alloc (.cells #[.int .i64 V, .int .i64 A, .int .i64 D, .int .i64 lo, .int .i64 hi] 23)).alloc (.cells #[.int .i64 p, .int .i64 v] 25) = w2 at x1 x2 x3 x4 ⊢
    have X3 := Lib.hid x3
    obtain ⟨lc0, _, lc1, _, lc2, _, lc3, _, lc4, _, _⟩ := x1
    obtain ⟨gc0, _, gc1, _, _⟩ := x2
    clear x3
    go_upto_region 4 with (fail)
    have e1 : IntKind.i64.wrap (hi - p) = hi - p := IntWalk.i64_in _ (by omega)
    have e2 : IntKind.i64.wrap (v + A) = v + A := IntWalk.i64_in _ (by omega)
    refine still_named 15 (by kernel_rfl) ?_
    intro w4 hc4 hf4 hb4
    rw [← hc4] at lc0 lc1 lc2 lc3 lc4 gc0 gc1
    have X5q := Lib.hid (X3.out.trans (hb4 _))
    have z5q : w.heap.size + 1 < w4.heap.size := Nat.lt_of_lt_of_le x4 (hb4 0).size
    clear hc4 hf4 hb4 X3
    simp only [List.take_succ_cons, List.take_zero, List.drop_succ_cons, List.drop_zero]
    repeat still_step
    refine wpStill_step (fun K hK => ?_)
    go_simp
    refine ⟨.int .i64 R1, C1.out w4, hK _ ?_⟩
    clear hK K
    refine wpStill_nil ?_
    clear e1 e2
    go_wp2_with (go_at_call 44; fail)
    have ha : Below w4.heap.size w4 (w4.alloc (.cells #[.int .i64 (v + A), .int .i64 V, .int .i64 R1] 2)) := (Below.refl _ _).alloc (Nat.le_refl _) _
    obtain ⟨a0, _, a1, _, a2, _, _⟩ := k.Box.new w4 #[.int .i64 (v + A), .int .i64 V, .int .i64 R1] 2
    have ld0 := (ha.cell (p := ⟨w.heap.size, 0, none⟩) (show w.heap.size < w4.heap.size by omega)).trans lc0
    have ld1 := (ha.cell (p := ⟨w.heap.size, 1, none⟩) (show w.heap.size < w4.heap.size by omega)).trans lc1
    have ld2 := (ha.cell (p := ⟨w.heap.size, 2, none⟩) (show w.heap.size < w4.heap.size by omega)).trans lc2
    have ld3 := (ha.cell (p := ⟨w.heap.size, 3, none⟩) (show w.heap.size < w4.heap.size by omega)).trans lc3
    have ld4 := (ha.cell (p := ⟨w.heap.size, 4, none⟩) (show w.heap.size < w4.heap.size by omega)).trans lc4
    have gd0 := (ha.cell (p := ⟨w.heap.size + 1, 0, none⟩) (show w.heap.size + 1 < w4.heap.size by omega)).trans gc0
    have gd1 := (ha.cell (p := ⟨w.heap.size + 1, 1, none⟩) (show w.heap.size + 1 < w4.heap.size by omega)).trans gc1
    have X5 := Lib.hid (X5q.out.trans (ha.mono X5q.out.size))
    have z5 : w.heap.size + 1 < (w4.alloc (.cells #[.int .i64 (v + A), .int .i64 V, .int .i64 R1] 2)).heap.size := Nat.lt_of_lt_of_le z5q ha.size
    refine (least3_any _ _ _ M HM.out w4.heap.size _ a0 a1 a2).mono ?_
    generalize w4.alloc (.cells #[.int .i64 (v + A), .int .i64 V, .int .i64 R1] 2) = w5 at ld0 ld1 ld2 ld3 ld4 gd0 gd1 X5 z5 ⊢
    rintro e w' ⟨rfl, rfl⟩
    clear ha a0 a1 a2 lc0 lc1 lc2 lc3 lc4 gc0 gc1
    have lc0 := ld0
    have lc1 := ld1
    have lc2 := ld2
    have lc3 := ld3
    have lc4 := ld4
    have gc0 := gd0
    have gc1 := gd1
    clear ld0 ld1 ld2 ld3 ld4 gd0 gd1 X5q z5q
    by_cases q1 : v - D < 0
    · by_cases q2 : M < 0
      · omega
      · go_wp2
        go_ret2
        exact ⟨ret_two (by rw [HP.out.1]; unfold nextV; omega) (by rw [HP.out.2]; unfold nextV; omega), X5.out⟩
    · by_cases q2 : M < v - D
      · go_wp2
        go_ret2
        exact ⟨ret_two (by rw [HP.out.1]; unfold nextV; omega) (by rw [HP.out.2]; unfold nextV; omega), X5.out⟩
      · go_wp2
        go_ret2
        exact ⟨ret_two (by rw [HP.out.1]; unfold nextV; omega) (by rw [HP.out.2]; unfold nextV; omega), X5.out⟩
  · have e : v = 0 := by omega
    subst e
    have hz := hz rfl
    obtain ⟨M, hM⟩ : ∃ M, min (min (0 + A) V) R1 = M := ⟨_, rfl⟩
    rw [hM] at hz
    rw [Int.zero_add] at hM
    have HM := Lib.hid hM
    obtain ⟨R0, hR0⟩ : ∃ R0, reachV (p - lo) D = R0 := ⟨_, rfl⟩
    have b0 := reach_in (s := p - lo) (by omega) r5
    have C0 := Lib.hid fun W => reach_still (by omega) (by omega) r5 r6 hR0 W
    rw [hR0] at b0 hz
    obtain ⟨N, hN⟩ : ∃ N, min (min A V) R0 = N := ⟨_, rfl⟩
    rw [hN] at hz
    have HN := Lib.hid hN
    have HP := Lib.hid hz
    have hMb : 0 ≤ M ∧ M ≤ 1048576 := by omega
    have hM0 := hMb.1
    have hM1 := hMb.2
    have hNb : 0 ≤ N ∧ N ≤ 1048576 := by omega
    have hN0 := hNb.1
    have hN1 := hNb.2
    clear hp hz hM hMb hN hNb hR0 b0
    go_enter Try.func23, Try.ntmps23
    go_upto_region 1 with (fail)
    obtain ⟨x1, x2, x3, x4⟩ := k.boxes2 (w := w) (c1 := #[.int .i64 V, .int .i64 A, .int .i64 D, .int .i64 lo, .int .i64 hi]) (t1 := 23) (c2 := #[.int .i64 p, .int .i64 0]) (t2 := 25) (Below.refl _ _)
    generalize (w.alloc (.cells #[.int .i64 V, .int .i64 A, .int .i64 D, .int .i64 lo, .int .i64 hi] 23)).alloc (.cells #[.int .i64 p, .int .i64 0] 25) = w2 at x1 x2 x3 x4 ⊢
    have X3 := Lib.hid x3
    obtain ⟨lc0, _, lc1, _, lc2, _, lc3, _, lc4, _, _⟩ := x1
    obtain ⟨gc0, _, gc1, _, _⟩ := x2
    clear x3
    go_upto_region 4 with (fail)
    have e1 : IntKind.i64.wrap (hi - p) = hi - p := IntWalk.i64_in _ (by omega)
    refine still_named 15 (by kernel_rfl) ?_
    intro w4 hc4 hf4 hb4
    rw [← hc4] at lc0 lc1 lc2 lc3 lc4 gc0 gc1
    have X5q := Lib.hid (X3.out.trans (hb4 _))
    have z5q : w.heap.size + 1 < w4.heap.size := Nat.lt_of_lt_of_le x4 (hb4 0).size
    clear hc4 hf4 hb4 X3
    simp only [List.take_succ_cons, List.take_zero, List.drop_succ_cons, List.drop_zero]
    repeat still_step
    refine wpStill_step (fun K hK => ?_)
    go_simp
    refine ⟨.int .i64 R1, C1.out w4, hK _ ?_⟩
    clear hK K
    refine wpStill_nil ?_
    clear e1
    go_wp2_with (go_at_call 44; fail)
    have ha : Below w4.heap.size w4 (w4.alloc (.cells #[.int .i64 A, .int .i64 V, .int .i64 R1] 2)) := (Below.refl _ _).alloc (Nat.le_refl _) _
    obtain ⟨a0, _, a1, _, a2, _, _⟩ := k.Box.new w4 #[.int .i64 A, .int .i64 V, .int .i64 R1] 2
    have ld0 := (ha.cell (p := ⟨w.heap.size, 0, none⟩) (show w.heap.size < w4.heap.size by omega)).trans lc0
    have ld1 := (ha.cell (p := ⟨w.heap.size, 1, none⟩) (show w.heap.size < w4.heap.size by omega)).trans lc1
    have ld2 := (ha.cell (p := ⟨w.heap.size, 2, none⟩) (show w.heap.size < w4.heap.size by omega)).trans lc2
    have ld3 := (ha.cell (p := ⟨w.heap.size, 3, none⟩) (show w.heap.size < w4.heap.size by omega)).trans lc3
    have ld4 := (ha.cell (p := ⟨w.heap.size, 4, none⟩) (show w.heap.size < w4.heap.size by omega)).trans lc4
    have gd0 := (ha.cell (p := ⟨w.heap.size + 1, 0, none⟩) (show w.heap.size + 1 < w4.heap.size by omega)).trans gc0
    have gd1 := (ha.cell (p := ⟨w.heap.size + 1, 1, none⟩) (show w.heap.size + 1 < w4.heap.size by omega)).trans gc1
    have X5 := Lib.hid (X5q.out.trans (ha.mono X5q.out.size))
    have z5 : w.heap.size + 1 < (w4.alloc (.cells #[.int .i64 A, .int .i64 V, .int .i64 R1] 2)).heap.size := Nat.lt_of_lt_of_le z5q ha.size
    refine (least3_any _ _ _ M HM.out w4.heap.size _ a0 a1 a2).mono ?_
    generalize w4.alloc (.cells #[.int .i64 A, .int .i64 V, .int .i64 R1] 2) = w5 at ld0 ld1 ld2 ld3 ld4 gd0 gd1 X5 z5 ⊢
    rintro e w' ⟨rfl, rfl⟩
    clear ha a0 a1 a2 lc0 lc1 lc2 lc3 lc4 gc0 gc1
    have lc0 := ld0
    have lc1 := ld1
    have lc2 := ld2
    have lc3 := ld3
    have lc4 := ld4
    have gc0 := gd0
    have gc1 := gd1
    clear ld0 ld1 ld2 ld3 ld4 gd0 gd1 X5q z5q
    go_upto_region 6 with (fail)
    have e3 : IntKind.i64.wrap (p - lo) = p - lo := IntWalk.i64_in _ (by omega)
    have e4 : IntKind.i64.wrap (-N) = -N := IntWalk.i64_in _ (by omega)
    go_region_held3 (fun w' => w'.cell? ⟨w.heap.size, 0, none⟩ = some (.int .i64 V) ∧ w'.cell? ⟨w.heap.size, 1, none⟩ = some (.int .i64 A) ∧ w'.cell? ⟨w.heap.size, 2, none⟩ = some (.int .i64 D) ∧ w'.cell? ⟨w.heap.size, 3, none⟩ = some (.int .i64 lo) ∧ w'.cell? ⟨w.heap.size, 4, none⟩ = some (.int .i64 hi) ∧ w'.cell? ⟨w.heap.size + 1, 0, none⟩ = some (.int .i64 p) ∧ w'.cell? ⟨w.heap.size + 1, 1, none⟩ = some (.int .i64 0))
      (go_keep)
      (first
        | (go_at_call 45; ((with_reducible refine (C0.out _).mono ?_); rintro e w6 ⟨rfl, rfl⟩))
        | (go_at_call 44; ((refine (least3_any A V R0 N HN.out _ _ (by simp [go_sem]) (by simp [go_sem]) (by simp [go_sem])).mono ?_); rintro e w6 ⟨rfl, rfl⟩))
        | fail)
    all_goals
      clear e3 e4
      go_wp2
      go_ret2
      exact ⟨ret_two (by rw [HP.out.1]) (by rw [HP.out.2]), (X5.out.alloc X5.out.size _).drew⟩
end Go.Proofs.Ytaohidaijlcplaa.gn
