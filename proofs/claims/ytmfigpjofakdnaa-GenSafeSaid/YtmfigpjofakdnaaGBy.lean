/- What servitorref09's By answers, of right limits and a safe generator; what was in memory is as it was. No condition beyond that. -/
import Derived.Test.YtmfigpjofakdnaaGTo
namespace Go.Proofs.Ytmfigpjofakdnaa.gn
open Go.ChangeShapes Go.WideShapes Go.ChangeAt Go.RowKit Go.Proofs.Ytmfigpjofakdnaa.k Go.Proofs.Ytmfigpjofakdnaa.b Go.Proofs.Ytmfigpjofakdnaa
set_option linter.unusedVariables false

set_option maxHeartbeats 4000000 in
theorem refby_up (l : L) (hr : RightL l) (p v t u s x : Int) (hs : SafeP l p v) (h : p ≤ clamp t l.lo l.hi) (w : World) :
    Calls Try.prog 22 #[.agg #[.int .i64 l.V, .int .i64 l.A, .int .i64 l.D, .int .i64 l.lo, .int .i64 l.hi], .agg #[.int .i64 p, .int .i64 v], .int .i64 t, .int .i64 u, .int .i64 s, .int .i64 x] w fun e w' =>
      e = .returned (.int .i64 (byV l p v t u s x)) ∧ Below w.heap.size w w' := by
  have hz := by_zero (v := v) (u := u) (s := s) (x := x) h
  have hm := fun (a : p < clamp t l.lo l.hi) (c : p < clamp s l.lo l.hi) (b : 0 ≤ v) => by_more (u := u) (x := x) a c b
  have hcs := clamp_mid (n := s) hr.2.2.2.2.2.2.2.2
  have hlh := hr.2.2.2.2.2.2.2.2
  have hct := clamp_mid (n := t) hlh
  have hp1 := hs.1
  have hp2 := hs.2.1
  obtain ⟨_, _, _, _, q5, q6, q7, q8, _⟩ := hr
  obtain ⟨V, A, D, lo, hi⟩ := l
  dsimp only at *
  have cb := fun W => between_still (n := t) (lo := lo) (hi := hi) rfl W
  have cs := fun W => between_still (n := s) (lo := lo) (hi := hi) rfl W
  generalize clamp t lo hi = T at *
  generalize clamp s lo hi = S at *
  have CB := Lib.hid cb
  have CS := Lib.hid cs
  clear cb cs
  by_cases h1 : T = p
  · have HV := Lib.hid (hz (.inl h1))
    clear hz hm hs
    subst h1
    have hTT : (T == T) = true := by simp
    go_enter Try.func22, Try.ntmps22
    go_upto_region 1 with (fail)
    obtain ⟨x1, x2, x3, x4⟩ := k.boxes2 (w := w) (c1 := #[.int .i64 V, .int .i64 A, .int .i64 D, .int .i64 lo, .int .i64 hi]) (t1 := 23) (c2 := #[.int .i64 T, .int .i64 v]) (t2 := 25) (Below.refl _ _)
    generalize (w.alloc (.cells #[.int .i64 V, .int .i64 A, .int .i64 D, .int .i64 lo, .int .i64 hi] 23)).alloc (.cells #[.int .i64 T, .int .i64 v] 25) = w2 at x1 x2 x3 x4 ⊢
    have X3 := Lib.hid x3
    obtain ⟨lc0, _, lc1, _, lc2, _, lc3, _, lc4, _, _⟩ := x1
    obtain ⟨gc0, _, gc1, _, _⟩ := x2
    clear x3
    refine still_named 12 (by kernel_rfl) ?_
    intro w3 hc4 hf4 hb4
    rw [← hc4] at lc0 lc1 lc2 lc3 lc4 gc0 gc1
    have X5 := Lib.hid (X3.out.trans (hb4 _))
    clear hc4 hf4 hb4 X3
    have X3 := Lib.hid X5.out
    clear X5
    simp only [List.take_succ_cons, List.take_zero, List.drop_succ_cons, List.drop_zero]
    repeat still_step
    refine wpStill_step (fun K hK => ?_)
    go_simp
    refine ⟨.int .i64 T, CB.out w3, hK _ ?_⟩
    clear hK K
    repeat still_step
    refine wpStill_step (fun K hK => ?_)
    go_simp
    refine ⟨.int .i64 S, CS.out w3, hK _ ?_⟩
    clear hK K
    refine wpStill_nil ?_
    go_wp2
    go_ret
    exact ⟨ret_int HV.out.symm, X3.out⟩
  · have hTb : (T == p) = false := by rw [beq_eq_false_iff_ne]; exact h1
    by_cases h3 : S ≤ p
    · have HV := Lib.hid (hz (.inr (.inl h3)))
      clear hz hm h1 hs
      go_enter Try.func22, Try.ntmps22
      go_upto_region 1 with (fail)
      obtain ⟨x1, x2, x3, x4⟩ := k.boxes2 (w := w) (c1 := #[.int .i64 V, .int .i64 A, .int .i64 D, .int .i64 lo, .int .i64 hi]) (t1 := 23) (c2 := #[.int .i64 p, .int .i64 v]) (t2 := 25) (Below.refl _ _)
      generalize (w.alloc (.cells #[.int .i64 V, .int .i64 A, .int .i64 D, .int .i64 lo, .int .i64 hi] 23)).alloc (.cells #[.int .i64 p, .int .i64 v] 25) = w2 at x1 x2 x3 x4 ⊢
      have X3 := Lib.hid x3
      obtain ⟨lc0, _, lc1, _, lc2, _, lc3, _, lc4, _, _⟩ := x1
      obtain ⟨gc0, _, gc1, _, _⟩ := x2
      clear x3
      refine still_named 12 (by kernel_rfl) ?_
      intro w3 hc4 hf4 hb4
      rw [← hc4] at lc0 lc1 lc2 lc3 lc4 gc0 gc1
      have X5 := Lib.hid (X3.out.trans (hb4 _))
      clear hc4 hf4 hb4 X3
      have X3 := Lib.hid X5.out
      clear X5
      simp only [List.take_succ_cons, List.take_zero, List.drop_succ_cons, List.drop_zero]
      repeat still_step
      refine wpStill_step (fun K hK => ?_)
      go_simp
      refine ⟨.int .i64 T, CB.out w3, hK _ ?_⟩
      clear hK K
      repeat still_step
      refine wpStill_step (fun K hK => ?_)
      go_simp
      refine ⟨.int .i64 S, CS.out w3, hK _ ?_⟩
      clear hK K
      refine wpStill_nil ?_
      go_wp2
      go_ret
      exact ⟨ret_int HV.out.symm, X3.out⟩
    · have hSb : decide (S ≤ p) = false := decide_eq_false h3
      by_cases h2 : v < 0
      · have HV := Lib.hid (hz (.inr (.inr h2)))
        clear hz hm h1 hs
        go_enter Try.func22, Try.ntmps22
        go_upto_region 1 with (fail)
        obtain ⟨x1, x2, x3, x4⟩ := k.boxes2 (w := w) (c1 := #[.int .i64 V, .int .i64 A, .int .i64 D, .int .i64 lo, .int .i64 hi]) (t1 := 23) (c2 := #[.int .i64 p, .int .i64 v]) (t2 := 25) (Below.refl _ _)
        generalize (w.alloc (.cells #[.int .i64 V, .int .i64 A, .int .i64 D, .int .i64 lo, .int .i64 hi] 23)).alloc (.cells #[.int .i64 p, .int .i64 v] 25) = w2 at x1 x2 x3 x4 ⊢
        have X3 := Lib.hid x3
        obtain ⟨lc0, _, lc1, _, lc2, _, lc3, _, lc4, _, _⟩ := x1
        obtain ⟨gc0, _, gc1, _, _⟩ := x2
        clear x3
        refine still_named 12 (by kernel_rfl) ?_
        intro w3 hc4 hf4 hb4
        rw [← hc4] at lc0 lc1 lc2 lc3 lc4 gc0 gc1
        have X5 := Lib.hid (X3.out.trans (hb4 _))
        clear hc4 hf4 hb4 X3
        have X3 := Lib.hid X5.out
        clear X5
        simp only [List.take_succ_cons, List.take_zero, List.drop_succ_cons, List.drop_zero]
        repeat still_step
        refine wpStill_step (fun K hK => ?_)
        go_simp
        refine ⟨.int .i64 T, CB.out w3, hK _ ?_⟩
        clear hK K
        repeat still_step
        refine wpStill_step (fun K hK => ?_)
        go_simp
        refine ⟨.int .i64 S, CS.out w3, hK _ ?_⟩
        clear hK K
        refine wpStill_nil ?_
        go_wp2
        go_ret
        exact ⟨ret_int HV.out.symm, X3.out⟩
      · have h4 : p < T := by omega
        have h6 : p < S := by omega
        have h5 := hm h4 h6 (by omega)
        have b1 := reach_in (s := S - p) (by omega) q5
        have b2 := vel_in x
        have b3 := vel_in u
        have b4 := pass_in (s := T - p) b3.1 b3.2 q5
        obtain ⟨R, hR⟩ : ∃ R, reachV (S - p) D = R := ⟨_, rfl⟩
        obtain ⟨X, hX⟩ : ∃ X, vel x = X := ⟨_, rfl⟩
        obtain ⟨U, hU⟩ : ∃ U, vel u = U := ⟨_, rfl⟩
        have CR := Lib.hid fun W => reach_still (by omega) (by omega) q5 q6 hR W
        have CV := Lib.hid fun W => vel_still hX W
        have CU := Lib.hid fun W => vel_still hU W
        rw [hR] at h5 b1
        rw [hX] at h5 b2
        rw [hU] at h5 b3 b4
        obtain ⟨P, hP⟩ : ∃ P, passV (T - p) U D = P := ⟨_, rfl⟩
        have CP := Lib.hid fun W => pass_still (by omega) (by omega) b3.1 b3.2 q5 q6 hP W
        rw [hP] at h5 b4
        obtain ⟨M, hM⟩ : ∃ M, min (min X R) P = M := ⟨_, rfl⟩
        rw [hM] at h5
        have HM := Lib.hid hM
        have HV := Lib.hid h5
        have b10 := b1.1
        have b11 := b1.2.1
        have b40 := b4.1
        have b41 := b4.2.1
        have b30 := b3.1
        clear hz hm hR hX hU hP hM h5 b1 b4 h1 hs
        go_enter Try.func22, Try.ntmps22
        go_upto_region 1 with (fail)
        obtain ⟨x1, x2, x3, x4⟩ := k.boxes2 (w := w) (c1 := #[.int .i64 V, .int .i64 A, .int .i64 D, .int .i64 lo, .int .i64 hi]) (t1 := 23) (c2 := #[.int .i64 p, .int .i64 v]) (t2 := 25) (Below.refl _ _)
        generalize (w.alloc (.cells #[.int .i64 V, .int .i64 A, .int .i64 D, .int .i64 lo, .int .i64 hi] 23)).alloc (.cells #[.int .i64 p, .int .i64 v] 25) = w2 at x1 x2 x3 x4 ⊢
        have X3 := Lib.hid x3
        obtain ⟨lc0, _, lc1, _, lc2, _, lc3, _, lc4, _, _⟩ := x1
        obtain ⟨gc0, _, gc1, _, _⟩ := x2
        clear x3
        refine still_named 12 (by kernel_rfl) ?_
        intro w3 hc4 hf4 hb4
        rw [← hc4] at lc0 lc1 lc2 lc3 lc4 gc0 gc1
        have X5 := Lib.hid (X3.out.trans (hb4 _))
        clear hc4 hf4 hb4 X3
        have X3 := Lib.hid X5.out
        clear X5
        simp only [List.take_succ_cons, List.take_zero, List.drop_succ_cons, List.drop_zero]
        repeat still_step
        refine wpStill_step (fun K hK => ?_)
        go_simp
        refine ⟨.int .i64 T, CB.out w3, hK _ ?_⟩
        clear hK K
        repeat still_step
        refine wpStill_step (fun K hK => ?_)
        go_simp
        refine ⟨.int .i64 S, CS.out w3, hK _ ?_⟩
        clear hK K
        refine wpStill_nil ?_
        go_upto_region 7 with (fail)
        have e1 : IntKind.i64.wrap (S - p) = S - p := IntWalk.i64_in _ (by omega)
        have e2 : IntKind.i64.wrap (T - p) = T - p := IntWalk.i64_in _ (by omega)
        refine still_named 18 (by kernel_rfl) ?_
        intro w4 hc4 hf4 hb4
        rw [← hc4] at lc0 lc1 lc2 lc3 lc4 gc0 gc1
        have X4 := Lib.hid (X3.out.trans (hb4 _))
        clear hc4 hf4 hb4 X3
        simp only [List.take_succ_cons, List.take_zero, List.drop_succ_cons, List.drop_zero]
        repeat still_step
        refine wpStill_step (fun K hK => ?_)
        go_simp
        refine ⟨.int .i64 X, CV.out w4, hK _ ?_⟩
        clear hK K
        repeat still_step
        refine wpStill_step (fun K hK => ?_)
        go_simp
        refine ⟨.int .i64 R, CR.out w4, hK _ ?_⟩
        clear hK K
        repeat still_step
        refine wpStill_step (fun K hK => ?_)
        go_simp
        refine ⟨.int .i64 U, CU.out w4, hK _ ?_⟩
        clear hK K
        repeat still_step
        refine wpStill_step (fun K hK => ?_)
        go_simp
        refine ⟨.int .i64 P, CP.out w4, hK _ ?_⟩
        clear hK K
        refine wpStill_nil ?_
        clear e1 e2
        go_wp2_with (go_at_call 36; ((refine (least3_any X R P M HM.out _ _ (by simp [go_sem]) (by simp [go_sem]) (by simp [go_sem])).mono ?_); rintro e w6 ⟨rfl, rfl⟩))
        go_ret
        exact ⟨ret_int HV.out.symm, X4.out.alloc X4.out.size _⟩
set_option maxHeartbeats 4000000 in
theorem refby_any (l : L) (hr : RightL l) (p v t u s x : Int) (hs : SafeP l p v) (w : World) :
    Calls Try.prog 22 #[.agg #[.int .i64 l.V, .int .i64 l.A, .int .i64 l.D, .int .i64 l.lo, .int .i64 l.hi], .agg #[.int .i64 p, .int .i64 v], .int .i64 t, .int .i64 u, .int .i64 s, .int .i64 x] w fun e w' =>
      e = .returned (.int .i64 (byV l p v t u s x)) ∧ Below w.heap.size w w' := by
  by_cases h : p ≤ clamp t l.lo l.hi
  · exact refby_up l hr p v t u s x hs h w
  · have ht := by_turn hr (v := v) (u := u) (s := s) (x := x) (show clamp t l.lo l.hi < p by omega)
    have hlh := hr.2.2.2.2.2.2.2.2
    have hct := clamp_mid (n := t) hlh
    have hcs := clamp_mid (n := s) hlh
    have e : clamp (-clamp t l.lo l.hi) (turnL l).lo (turnL l).hi = -clamp t l.lo l.hi := clamp_turn hlh hct.1 hct.2
    have hC := fun W => refby_up (turnL l) (turn_right hr) (-p) (-v) (-clamp t l.lo l.hi) u (-clamp s l.lo l.hi) x (turn_safe hr hs) (by rw [e]; omega) W
    have hi2 := by_in (turn_right hr) (v := -v) (t := -clamp t l.lo l.hi) (u := u) (s := -clamp s l.lo l.hi) (x := x) (turn_safe hr hs).1 (turn_safe hr hs).2.1
    have hT := fun W => turned_any l.V l.A l.D l.lo l.hi p v (by obtain ⟨_, _, _, _, _, _, _, _, _⟩ := hr; omega) (by obtain ⟨_, _, _, _, _, _, _, _, _⟩ := hr; omega) (by obtain ⟨_, _, _, _, _, _, _, _, _⟩ := hr; have := hs.1; have := hs.2.1; omega) (by have := hs.2.2.1; have := hs.2.2.2.1; omega) W
    generalize byV (turnL l) (-p) (-v) (-clamp t l.lo l.hi) u (-clamp s l.lo l.hi) x = Y at *
    unfold turnL at hC
    dsimp only at hC
    have HT := Lib.hid hT
    have HC := Lib.hid hC
    have HV := Lib.hid ht
    obtain ⟨y1, y2⟩ := hi2
    obtain ⟨_, _, _, _, _, _, q7, q8, _⟩ := hr
    clear hC hT ht e hs
    have cb := fun W => between_still (n := t) (lo := l.lo) (hi := l.hi) rfl W
    have cs := fun W => between_still (n := s) (lo := l.lo) (hi := l.hi) rfl W
    generalize clamp t l.lo l.hi = T at *
    generalize clamp s l.lo l.hi = S at *
    have CB := Lib.hid cb
    have CS := Lib.hid cs
    clear cb cs
    obtain ⟨V, A, D, lo, hi⟩ := l
    dsimp only at *
    go_enter Try.func22, Try.ntmps22
    go_upto_region 1 with (fail)
    obtain ⟨x1, x2, x3, x4⟩ := k.boxes2 (w := w) (c1 := #[.int .i64 V, .int .i64 A, .int .i64 D, .int .i64 lo, .int .i64 hi]) (t1 := 23) (c2 := #[.int .i64 p, .int .i64 v]) (t2 := 25) (Below.refl _ _)
    generalize (w.alloc (.cells #[.int .i64 V, .int .i64 A, .int .i64 D, .int .i64 lo, .int .i64 hi] 23)).alloc (.cells #[.int .i64 p, .int .i64 v] 25) = w2 at x1 x2 x3 x4 ⊢
    have X3 := Lib.hid x3
    obtain ⟨lc0, _, lc1, _, lc2, _, lc3, _, lc4, _, _⟩ := x1
    obtain ⟨gc0, _, gc1, _, _⟩ := x2
    clear x3
    refine still_named 12 (by kernel_rfl) ?_
    intro w3 hc4 hf4 hb4
    rw [← hc4] at lc0 lc1 lc2 lc3 lc4 gc0 gc1
    have X5 := Lib.hid (X3.out.trans (hb4 _))
    clear hc4 hf4 hb4 X3
    have X3 := Lib.hid X5.out
    clear X5
    simp only [List.take_succ_cons, List.take_zero, List.drop_succ_cons, List.drop_zero]
    repeat still_step
    refine wpStill_step (fun K hK => ?_)
    go_simp
    refine ⟨.int .i64 T, CB.out w3, hK _ ?_⟩
    clear hK K
    repeat still_step
    refine wpStill_step (fun K hK => ?_)
    go_simp
    refine ⟨.int .i64 S, CS.out w3, hK _ ?_⟩
    clear hK K
    refine wpStill_nil ?_
    go_wp2_with (first
      | (go_at_call 35; ((with_reducible refine (HT.out _).mono ?_); rintro e w5 ⟨rfl, hb⟩; have H5 := Lib.hid (X3.out.trans (hb.mono X3.out.size)); clear hb))
      | (go_at_call 22; ((with_reducible refine (HC.out _).mono ?_); rintro e w6 ⟨rfl, hb⟩; have H6 := Lib.hid (H5.out.trans ((k.boxes2 hb).2.2.1.mono H5.out.size)); clear hb)))
    go_ret
    exact ⟨ret_int HV.out.symm, H6.out⟩
end Go.Proofs.Ytmfigpjofakdnaa.gn
