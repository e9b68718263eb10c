/- What servitorref09's To and By answer, of right limits and a safe generator; what was in memory is as it was. No condition beyond that. -/
import Derived.Test.YtmfigpjofakdnaaGStep
namespace Go.Proofs.Ytmfigpjofakdnaa.gn
open Go.ChangeShapes Go.WideShapes Go.ChangeAt Go.RowKit Go.Proofs.Ytmfigpjofakdnaa.k Go.Proofs.Ytmfigpjofakdnaa.b Go.Proofs.Ytmfigpjofakdnaa
set_option linter.unusedVariables false

theorem vel_still {s X : Int} (h : vel s = X) (W : World) : Calls Try.prog 39 #[.int .i64 s] W fun e w'' => e = .returned (.int .i64 X) ∧ w'' = W :=
  (refvel_any s W).mono fun _ _ hh => ⟨by rw [hh.1, h], hh.2.symm⟩
theorem pass_still {S U D X : Int} (s0 : 0 ≤ S) (s1 : S ≤ 2199023255552) (u0 : 0 ≤ U) (u1 : U ≤ 1048576) (d0 : 1 ≤ D) (d1 : D ≤ 1048576) (h : passV S U D = X) (W : World) :
    Calls Try.prog 40 #[.int .i64 S, .int .i64 U, .int .i64 D] W fun e w'' => e = .returned (.int .i64 X) ∧ w'' = W :=
  (refpass_any S U D s0 s1 u0 u1 d0 d1 W).mono fun _ _ hh => ⟨by rw [hh.1, h], hh.2.symm⟩
theorem between_still {n lo hi X : Int} (h : clamp n lo hi = X) (W : World) : Calls Try.prog 38 #[.int .i64 n, .int .i64 lo, .int .i64 hi] W fun e w'' => e = .returned (.int .i64 X) ∧ w'' = W :=
  (between_any n lo hi W).mono fun _ _ hh => ⟨by rw [hh.1, h], hh.2.symm⟩
theorem to_zero {l : L} {p v t x : Int} (h : p ≤ clamp t l.lo l.hi) (h2 : clamp t l.lo l.hi = p ∨ v < 0) : toV l p v t x = 0 := by
  unfold toV
  rw [if_neg (by omega), if_neg (by omega)]
theorem to_more {l : L} {p v t x : Int} (h : p < clamp t l.lo l.hi) (h2 : 0 ≤ v) : toV l p v t x = min (vel x) (reachV (clamp t l.lo l.hi - p) l.D) := by
  unfold toV
  rw [if_pos ⟨h, h2⟩]
theorem clamp_turn {n lo hi : Int} (h : lo ≤ hi) (h1 : lo ≤ n) (h2 : n ≤ hi) : clamp (-n) (-hi) (-lo) = -n := by unfold clamp; omega
theorem to_turn {l : L} (hr : RightL l) {p v t x : Int} (h : clamp t l.lo l.hi < p) : toV l p v t x = -toV (turnL l) (-p) (-v) (-clamp t l.lo l.hi) x := by
  have hlh := hr.2.2.2.2.2.2.2.2
  have hc := clamp_mid (n := t) hlh
  have e : clamp (-clamp t l.lo l.hi) (turnL l).lo (turnL l).hi = -clamp t l.lo l.hi := clamp_turn hlh hc.1 hc.2
  unfold toV
  rw [e]
  generalize clamp t l.lo l.hi = T at *
  rw [if_neg (show ¬ (p < T ∧ 0 ≤ v) by omega), if_neg (show ¬ (-T < -p ∧ -v ≤ 0) by omega)]
  by_cases hv : v ≤ 0
  · rw [if_pos ⟨h, hv⟩, if_pos ⟨by omega, by omega⟩, show -T - -p = p - T by omega]
    rfl
  · rw [if_neg (by omega), if_neg (by omega)]; rfl
theorem to_in {l : L} (hr : RightL l) {p v t x : Int} (h1 : l.lo ≤ p) (h2 : p ≤ l.hi) : -1048576 ≤ toV l p v t x ∧ toV l p v t x ≤ 1048576 := by
  have hv := vel_in x
  have hc := clamp_mid (n := t) hr.2.2.2.2.2.2.2.2
  unfold toV
  generalize clamp t l.lo l.hi = T at *
  by_cases a : p < T ∧ 0 ≤ v
  · rw [if_pos a]
    have := reach_in (s := T - p) (by omega) hr.2.2.2.2.1
    omega
  · rw [if_neg a]
    by_cases b : T < p ∧ v ≤ 0
    · rw [if_pos b]
      have := reach_in (s := p - T) (by omega) hr.2.2.2.2.1
      omega
    · rw [if_neg b]; omega
theorem by_zero {l : L} {p v t u s x : Int} (h : p ≤ clamp t l.lo l.hi) (h2 : clamp t l.lo l.hi = p ∨ clamp s l.lo l.hi ≤ p ∨ v < 0) : byV l p v t u s x = 0 := by
  unfold byV
  rw [if_neg (by omega), if_neg (by omega)]
theorem by_more {l : L} {p v t u s x : Int} (h : p < clamp t l.lo l.hi) (h1 : p < clamp s l.lo l.hi) (h2 : 0 ≤ v) :
    byV l p v t u s x = min (min (vel x) (reachV (clamp s l.lo l.hi - p) l.D)) (passV (clamp t l.lo l.hi - p) (vel u) l.D) := by
  unfold byV
  rw [if_pos ⟨h, h1, h2⟩]
theorem by_turn {l : L} (hr : RightL l) {p v t u s x : Int} (h : clamp t l.lo l.hi < p) : byV l p v t u s x = -byV (turnL l) (-p) (-v) (-clamp t l.lo l.hi) u (-clamp s l.lo l.hi) x := by
  have hlh := hr.2.2.2.2.2.2.2.2
  have hc := clamp_mid (n := t) hlh
  have hcs := clamp_mid (n := s) hlh
  have e : clamp (-clamp t l.lo l.hi) (turnL l).lo (turnL l).hi = -clamp t l.lo l.hi := clamp_turn hlh hc.1 hc.2
  have e2 : clamp (-clamp s l.lo l.hi) (turnL l).lo (turnL l).hi = -clamp s l.lo l.hi := clamp_turn hlh hcs.1 hcs.2
  unfold byV
  rw [e, e2]
  generalize clamp t l.lo l.hi = T at *
  generalize clamp s l.lo l.hi = S at *
  rw [if_neg (show ¬ (p < T ∧ p < S ∧ 0 ≤ v) by omega), if_neg (show ¬ (-T < -p ∧ -S < -p ∧ -v ≤ 0) by omega)]
  by_cases hv : S < p ∧ v ≤ 0
  · rw [if_pos ⟨h, hv.1, hv.2⟩, if_pos ⟨by omega, by omega, by omega⟩, show -T - -p = p - T by omega, show -S - -p = p - S by omega]
    rfl
  · rw [if_neg (by omega), if_neg (by omega)]; rfl
theorem by_in {l : L} (hr : RightL l) {p v t u s x : Int} (h1 : l.lo ≤ p) (h2 : p ≤ l.hi) : -1048576 ≤ byV l p v t u s x ∧ byV l p v t u s x ≤ 1048576 := by
  have hv := vel_in x
  have hu := vel_in u
  have hc := clamp_mid (n := t) hr.2.2.2.2.2.2.2.2
  have hcs := clamp_mid (n := s) hr.2.2.2.2.2.2.2.2
  unfold byV
  generalize clamp t l.lo l.hi = T at *
  generalize clamp s l.lo l.hi = S at *
  by_cases a : p < T ∧ p < S ∧ 0 ≤ v
  · rw [if_pos a]
    have := reach_in (s := S - p) (by omega) hr.2.2.2.2.1
    have := pass_in (s := T - p) hu.1 hu.2 hr.2.2.2.2.1
    omega
  · rw [if_neg a]
    by_cases b : T < p ∧ S < p ∧ v ≤ 0
    · rw [if_pos b]
      have := reach_in (s := p - S) (by omega) hr.2.2.2.2.1
      have := pass_in (s := p - T) hu.1 hu.2 hr.2.2.2.2.1
      omega
    · rw [if_neg b]; omega
set_option maxHeartbeats 4000000 in
theorem refto_up (l : L) (hr : RightL l) (p v t x : Int) (hs : SafeP l p v) (h : p ≤ clamp t l.lo l.hi) (w : World) :
    Calls Try.prog 21 #[.agg #[.int .i64 l.V, .int .i64 l.A, .int .i64 l.D, .int .i64 l.lo, .int .i64 l.hi], .agg #[.int .i64 p, .int .i64 v], .int .i64 t, .int .i64 x] w fun e w' =>
      e = .returned (.int .i64 (toV l p v t x)) ∧ Below w.heap.size w w' := by
  have hz := to_zero (v := v) (x := x) h
  have hm := fun (a : p < clamp t l.lo l.hi) (b : 0 ≤ v) => to_more (x := x) a b
  have hlh := hr.2.2.2.2.2.2.2.2
  have hct := clamp_mid (n := t) hlh
  have hp1 := hs.1
  have hp2 := hs.2.1
  obtain ⟨_, _, _, _, q5, q6, q7, q8, _⟩ := hr
  obtain ⟨V, A, D, lo, hi⟩ := l
  dsimp only at *
  have CB := Lib.hid fun W => between_any t lo hi W
  generalize clamp t lo hi = T at *
  by_cases h1 : T = p
  · have HV := Lib.hid (hz (.inl h1))
    clear hz hm hs
    subst h1
    have hTT : (T == T) = true := by simp
    have h1 : True := trivial
    go_enter Try.func21, Try.ntmps21
    go_upto_region 1 with (fail)
    obtain ⟨x1, x2, x3, x4⟩ := k.boxes2 (w := w) (c1 := #[.int .i64 V, .int .i64 A, .int .i64 D, .int .i64 lo, .int .i64 hi]) (t1 := 23) (c2 := #[.int .i64 T, .int .i64 v]) (t2 := 25) (Below.refl _ _)
    generalize (w.alloc (.cells #[.int .i64 V, .int .i64 A, .int .i64 D, .int .i64 lo, .int .i64 hi] 23)).alloc (.cells #[.int .i64 T, .int .i64 v] 25) = w2 at x1 x2 x3 x4 ⊢
    have X3 := Lib.hid x3
    obtain ⟨lc0, _, lc1, _, lc2, _, lc3, _, lc4, _, _⟩ := x1
    obtain ⟨gc0, _, gc1, _, _⟩ := x2
    clear x3
    go_wp2_with (go_at_call 38; ((with_reducible refine (CB.out _).mono ?_); rintro e w3 ⟨rfl, rfl⟩))
    go_ret
    exact ⟨ret_int HV.out.symm, X3.out⟩
  · have hTb : (T == p) = false := by rw [beq_eq_false_iff_ne]; exact h1
    by_cases h2 : v < 0
    · have HV := Lib.hid (hz (.inr h2))
      clear hz hm h1 hs
      go_enter Try.func21, Try.ntmps21
      go_upto_region 1 with (fail)
      obtain ⟨x1, x2, x3, x4⟩ := k.boxes2 (w := w) (c1 := #[.int .i64 V, .int .i64 A, .int .i64 D, .int .i64 lo, .int .i64 hi]) (t1 := 23) (c2 := #[.int .i64 p, .int .i64 v]) (t2 := 25) (Below.refl _ _)
      generalize (w.alloc (.cells #[.int .i64 V, .int .i64 A, .int .i64 D, .int .i64 lo, .int .i64 hi] 23)).alloc (.cells #[.int .i64 p, .int .i64 v] 25) = w2 at x1 x2 x3 x4 ⊢
      have X3 := Lib.hid x3
      obtain ⟨lc0, _, lc1, _, lc2, _, lc3, _, lc4, _, _⟩ := x1
      obtain ⟨gc0, _, gc1, _, _⟩ := x2
      clear x3
      go_wp2_with (go_at_call 38; ((with_reducible refine (CB.out _).mono ?_); rintro e w3 ⟨rfl, rfl⟩))
      go_ret
      exact ⟨ret_int HV.out.symm, X3.out⟩
    · have h4 : p < T := by omega
      have h5 := hm h4 (by omega)
      have b1 := reach_in (s := T - p) (by omega) q5
      have b2 := vel_in x
      obtain ⟨R, hR⟩ : ∃ R, reachV (T - p) D = R := ⟨_, rfl⟩
      obtain ⟨X, hX⟩ : ∃ X, vel x = X := ⟨_, rfl⟩
      have CR := Lib.hid fun W => reach_still (by omega) (by omega) q5 q6 hR W
      have CV := Lib.hid fun W => vel_still hX W
      rw [hR] at h5 b1
      rw [hX] at h5 b2
      obtain ⟨M, hM⟩ : ∃ M, min X R = M := ⟨_, rfl⟩
      rw [hM] at h5
      have HM := Lib.hid hM
      have HV := Lib.hid h5
      have b10 := b1.1
      have b11 := b1.2.1
      clear hz hm hR hX hM h5 b1 h1 hs
      go_enter Try.func21, Try.ntmps21
      go_upto_region 1 with (fail)
      obtain ⟨x1, x2, x3, x4⟩ := k.boxes2 (w := w) (c1 := #[.int .i64 V, .int .i64 A, .int .i64 D, .int .i64 lo, .int .i64 hi]) (t1 := 23) (c2 := #[.int .i64 p, .int .i64 v]) (t2 := 25) (Below.refl _ _)
      generalize (w.alloc (.cells #[.int .i64 V, .int .i64 A, .int .i64 D, .int .i64 lo, .int .i64 hi] 23)).alloc (.cells #[.int .i64 p, .int .i64 v] 25) = w2 at x1 x2 x3 x4 ⊢
      have X3 := Lib.hid x3
      obtain ⟨lc0, _, lc1, _, lc2, _, lc3, _, lc4, _, _⟩ := x1
      obtain ⟨gc0, _, gc1, _, _⟩ := x2
      clear x3
      go_upto_region 7 with (go_at_call 38; ((with_reducible refine (CB.out _).mono ?_); rintro e w3 ⟨rfl, rfl⟩))
      have e1 : IntKind.i64.wrap (T - p) = T - p := IntWalk.i64_in _ (by omega)
      refine still_named 9 (by kernel_rfl) ?_
      intro w4 hc4 hf4 hb4
      rw [← hc4] at lc0 lc1 lc2 lc3 lc4 gc0 gc1
      have X4 := Lib.hid (X3.out.trans (hb4 _))
      clear hc4 hf4 hb4 X3
      simp only [List.take_succ_cons, List.take_zero, List.drop_succ_cons, List.drop_zero]
      repeat still_step
      refine wpStill_step (fun K hK => ?_)
      go_simp
      refine ⟨.int .i64 X, CV.out w4, hK _ ?_⟩
      clear hK K
      repeat still_step
      refine wpStill_step (fun K hK => ?_)
      go_simp
      refine ⟨.int .i64 R, CR.out w4, hK _ ?_⟩
      clear hK K
      refine wpStill_nil ?_
      clear e1
      go_wp2_with (go_at_call 36; ((refine (least2_any X R M HM.out _ _ (by simp [go_sem]) (by simp [go_sem])).mono ?_); rintro e w6 ⟨rfl, rfl⟩))
      go_ret
      exact ⟨ret_int HV.out.symm, X4.out.alloc X4.out.size _⟩
set_option maxHeartbeats 4000000 in
theorem refto_any (l : L) (hr : RightL l) (p v t x : Int) (hs : SafeP l p v) (w : World) :
    Calls Try.prog 21 #[.agg #[.int .i64 l.V, .int .i64 l.A, .int .i64 l.D, .int .i64 l.lo, .int .i64 l.hi], .agg #[.int .i64 p, .int .i64 v], .int .i64 t, .int .i64 x] w fun e w' =>
      e = .returned (.int .i64 (toV l p v t x)) ∧ Below w.heap.size w w' := by
  by_cases h : p ≤ clamp t l.lo l.hi
  · exact refto_up l hr p v t x hs h w
  · have ht := to_turn hr (v := v) (x := x) (show clamp t l.lo l.hi < p by omega)
    have hlh := hr.2.2.2.2.2.2.2.2
    have hct := clamp_mid (n := t) hlh
    have e : clamp (-clamp t l.lo l.hi) (turnL l).lo (turnL l).hi = -clamp t l.lo l.hi := clamp_turn hlh hct.1 hct.2
    have hC := fun W => refto_up (turnL l) (turn_right hr) (-p) (-v) (-clamp t l.lo l.hi) x (turn_safe hr hs) (by rw [e]; omega) W
    have hi2 := to_in (turn_right hr) (v := -v) (t := -clamp t l.lo l.hi) (x := x) (turn_safe hr hs).1 (turn_safe hr hs).2.1
    have hT := fun W => turned_any l.V l.A l.D l.lo l.hi p v (by obtain ⟨_, _, _, _, _, _, _, _, _⟩ := hr; omega) (by obtain ⟨_, _, _, _, _, _, _, _, _⟩ := hr; omega) (by obtain ⟨_, _, _, _, _, _, _, _, _⟩ := hr; have := hs.1; have := hs.2.1; omega) (by have := hs.2.2.1; have := hs.2.2.2.1; omega) W
    generalize toV (turnL l) (-p) (-v) (-clamp t l.lo l.hi) x = Y at *
    unfold turnL at hC
    dsimp only at hC
    have HT := Lib.hid hT
    have HC := Lib.hid hC
    have HV := Lib.hid ht
    have CB := Lib.hid fun W => between_any t l.lo l.hi W
    obtain ⟨y1, y2⟩ := hi2
    obtain ⟨_, _, _, _, _, _, q7, q8, _⟩ := hr
    clear hC hT ht e hs
    generalize clamp t l.lo l.hi = T at *
    obtain ⟨V, A, D, lo, hi⟩ := l
    dsimp only at *
    go_enter Try.func21, Try.ntmps21
    go_upto_region 1 with (fail)
    obtain ⟨x1, x2, x3, x4⟩ := k.boxes2 (w := w) (c1 := #[.int .i64 V, .int .i64 A, .int .i64 D, .int .i64 lo, .int .i64 hi]) (t1 := 23) (c2 := #[.int .i64 p, .int .i64 v]) (t2 := 25) (Below.refl _ _)
    generalize (w.alloc (.cells #[.int .i64 V, .int .i64 A, .int .i64 D, .int .i64 lo, .int .i64 hi] 23)).alloc (.cells #[.int .i64 p, .int .i64 v] 25) = w2 at x1 x2 x3 x4 ⊢
    have X3 := Lib.hid x3
    obtain ⟨lc0, _, lc1, _, lc2, _, lc3, _, lc4, _, _⟩ := x1
    obtain ⟨gc0, _, gc1, _, _⟩ := x2
    clear x3
    go_wp2_with (first
      | (go_at_call 38; ((with_reducible refine (CB.out _).mono ?_); rintro e w3 ⟨rfl, rfl⟩))
      | (go_at_call 35; ((with_reducible refine (HT.out _).mono ?_); rintro e w5 ⟨rfl, hb⟩; have H5 := Lib.hid (X3.out.trans (hb.mono X3.out.size)); clear hb))
      | (go_at_call 21; ((with_reducible refine (HC.out _).mono ?_); rintro e w6 ⟨rfl, hb⟩; have H6 := Lib.hid (H5.out.trans ((k.boxes2 hb).2.2.1.mono H5.out.size)); clear hb)))
    go_ret
    exact ⟨ret_int HV.out.symm, H6.out⟩
end Go.Proofs.Ytmfigpjofakdnaa.gn
