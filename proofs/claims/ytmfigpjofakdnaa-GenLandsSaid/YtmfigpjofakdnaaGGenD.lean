/- What layer gen's By answers, of any limits and any generator; what was in memory is as it was. No condition but what each line says. -/
import Derived.Test.YtmfigpjofakdnaaGGenC
namespace Go.Proofs.Ytmfigpjofakdnaa.gn
open Go.ChangeShapes Go.WideShapes Go.ChangeAt Go.RowKit Go.Proofs.Ytmfigpjofakdnaa.k Go.Proofs.Ytmfigpjofakdnaa.b
set_option linter.unusedVariables false

set_option maxHeartbeats 4000000 in
theorem to_no' {V A D lo hi p v : Int} (hl : WideL ⟨V, A, D, lo, hi⟩) (hp : Wide p) (hv : Wide v) (h : ¬ (RightL ⟨V, A, D, lo, hi⟩ ∧ SafeP ⟨V, A, D, lo, hi⟩ p v)) (t x : Int) (w : World) :
    Calls Try.prog 16 #[.agg #[.int .i64 V, .int .i64 A, .int .i64 D, .int .i64 lo, .int .i64 hi], .agg #[.int .i64 p, .int .i64 v], .int .i64 t, .int .i64 x] w fun e w' => e = .returned (.int .i64 0) ∧ Below w.heap.size w w' := by
  have CG := Lib.hid fun W => goes_any hl hp hv (safe_no h) W
  clear hl hp hv h
  go_enter Try.func16, Try.ntmps16
  go_wp2_with (go_at_call 26; ((with_reducible refine (CG.out _).mono ?_); rintro e w2 ⟨rfl, hb⟩; obtain ⟨x1, x2, x3, x4⟩ := k.boxes2 hb; have X2 := Lib.hid x1; have Y2 := Lib.hid x2; have H2 := Lib.hid x3; obtain ⟨lc0, _, lc1, _, lc2, _, lc3, _, lc4, _, _⟩ := x1; obtain ⟨gc0, _, gc1, _, _⟩ := x2; clear hb x3))
  go_ret
  exact ⟨rfl, H2.out⟩
set_option maxHeartbeats 4000000 in
theorem by_no' {V A D lo hi p v : Int} (hl : WideL ⟨V, A, D, lo, hi⟩) (hp : Wide p) (hv : Wide v) (h : ¬ (RightL ⟨V, A, D, lo, hi⟩ ∧ SafeP ⟨V, A, D, lo, hi⟩ p v)) (t u s x : Int) (w : World) :
    Calls Try.prog 17 #[.agg #[.int .i64 V, .int .i64 A, .int .i64 D, .int .i64 lo, .int .i64 hi], .agg #[.int .i64 p, .int .i64 v], .int .i64 t, .int .i64 u, .int .i64 s, .int .i64 x] w fun e w' => e = .returned (.int .i64 0) ∧ Below w.heap.size w w' := by
  have CG := Lib.hid fun W => goes_any hl hp hv (safe_no h) W
  clear hl hp hv h
  go_enter Try.func17, Try.ntmps17
  go_wp2_with (go_at_call 26; ((with_reducible refine (CG.out _).mono ?_); rintro e w2 ⟨rfl, hb⟩; obtain ⟨x1, x2, x3, x4⟩ := k.boxes2 hb; have X2 := Lib.hid x1; have Y2 := Lib.hid x2; have H2 := Lib.hid x3; obtain ⟨lc0, _, lc1, _, lc2, _, lc3, _, lc4, _, _⟩ := x1; obtain ⟨gc0, _, gc1, _, _⟩ := x2; clear hb x3))
  go_ret
  exact ⟨rfl, H2.out⟩
theorem near_quiet {n lo hi x : Int} (h : lo ≤ hi) (hx : clamp n lo hi = x) (W : World) (q : Nat) : Calls Try.prog 29 #[.int .i64 n, .int .i64 lo, .int .i64 hi] (W.drewN q) fun e w'' => e = .returned (.int .i64 x) ∧ ∃ m, w'' = W.drewN m :=
  (near_is h hx (W.drewN q)).mono fun _ _ hh => ⟨hh.1, q, hh.2.symm⟩
theorem not_up {a b : Int} (h : b ≤ a) : (sgn a b != 1) = true := by rw [bne, sgn_not_up h]; rfl
theorem not_down {a b : Int} (h : a ≤ b) : (sgn a b != -1) = true := by rw [bne, sgn_not_down h]; rfl
set_option maxHeartbeats 4000000 in
theorem by_is {V A D lo hi p v t u s x X : Int} (hr : RightL ⟨V, A, D, lo, hi⟩) (hs : SafeP ⟨V, A, D, lo, hi⟩ p v) (hX : byV ⟨V, A, D, lo, hi⟩ p v t u s x = X) (w : World) :
    Calls Try.prog 17 #[.agg #[.int .i64 V, .int .i64 A, .int .i64 D, .int .i64 lo, .int .i64 hi], .agg #[.int .i64 p, .int .i64 v], .int .i64 t, .int .i64 u, .int .i64 s, .int .i64 x] w fun e w' => e = .returned (.int .i64 X) ∧ Below w.heap.size w w' := by
  have hw := wide_safe hr hs
  have CG := Lib.hid fun W => goes_any (wide_right hr) hw.1 hw.2 (safe_yes hr hs) W
  clear hw
  have hlh := hr.2.2.2.2.2.2.2.2
  dsimp only at hlh
  obtain ⟨T, hT⟩ : ∃ T, clamp t lo hi = T := ⟨_, rfl⟩
  have hTb := clamp_mid (n := t) hlh
  rw [hT] at hTb
  obtain ⟨S, hS⟩ : ∃ S, clamp s lo hi = S := ⟨_, rfl⟩
  have hSb := clamp_mid (n := s) hlh
  rw [hS] at hSb
  have HT := Lib.hid hT
  have HS := Lib.hid hS
  have HLH := Lib.hid hlh
  obtain ⟨Y, hV⟩ : ∃ Y, vel x = Y := ⟨_, rfl⟩
  have hVb := vel_in x
  rw [hV] at hVb
  have CV := Lib.hid fun W => vel_is hV W
  obtain ⟨U, hU⟩ : ∃ U, vel u = U := ⟨_, rfl⟩
  have hUb := vel_in u
  rw [hU] at hUb
  have CU := Lib.hid fun W => vel_is hU W
  obtain ⟨r1, r2, r3, r4, r5, r6, r7, r8, r9⟩ := hr
  obtain ⟨s1, s2, s3, s4, s5⟩ := hs
  dsimp only at r1 r2 r3 r4 r5 r6 r7 r8 r9 s1 s2
  clear s5
  by_cases h1 : p < T
  · by_cases h4 : S ≤ p
    · have HX : Hid (0 = X) := Lib.hid (by rw [← hX]; unfold byV; dsimp only; rw [hT, hS]; rw [if_neg (by omega), if_neg (by omega)])
      have CS := Lib.hid fun W => toward_is (sgn_up h1) W
      obtain ⟨q, hq⟩ : ∃ q, sgn p S = q := ⟨_, rfl⟩
      have hq' := not_up h4
      rw [hq] at hq'
      have CQ := Lib.hid fun W => toward_is hq W
      clear hq
      clear hX hT hS hTb hSb hVb hUb hU hV hlh
      go_enter Try.func17, Try.ntmps17
      go_wp2_with (go_at_call 26; ((with_reducible refine (CG.out _).mono ?_); rintro e w2 ⟨rfl, hb⟩; obtain ⟨x1, x2, x3, x4⟩ := k.boxes2 hb; have X2 := Lib.hid x1; have Y2 := Lib.hid x2; have H2 := Lib.hid x3; obtain ⟨lc0, _, lc1, _, lc2, _, lc3, _, lc4, _, _⟩ := x1; obtain ⟨gc0, _, gc1, _, _⟩ := x2; clear hb x3))
      go_quiet (first | (go_at_call 29; with_reducible exact near_quiet HLH.out HT.out _ _) | (go_at_call 29; with_reducible exact near_quiet HLH.out HS.out _ _))
      rename_i nq
      clear HT HS
      have X3 := Lib.hid (X2.out.drawn nq)
      have Y3 := Lib.hid (Y2.out.drawn nq)
      have H3 := Lib.hid (below_drawn H2.out nq)
      have z3 : w.heap.size + 1 < (w2.drewN nq).heap.size := by simpa using x4
      clear lc0 lc1 lc2 lc3 lc4 gc0 gc1
      generalize w2.drewN nq = w3 at X3 Y3 H3 z3 ⊢
      obtain ⟨lc0, _, lc1, _, lc2, _, lc3, _, lc4, _, _⟩ := X3.out; obtain ⟨gc0, _, gc1, _, _⟩ := Y3.out
      go_wp2_with (first | (go_at_call 30; ((with_reducible refine (CU.out _).mono ?_); rintro e w9 ⟨rfl, rfl⟩)) | (go_at_call 30; ((with_reducible refine (CV.out _).mono ?_); rintro e w9 ⟨rfl, rfl⟩)) | (go_at_call 31; ((with_reducible refine (CS.out _).mono ?_); rintro e w9 ⟨rfl, rfl⟩)) | (go_at_call 31; ((with_reducible refine (CQ.out _).mono ?_); rintro e w9 ⟨rfl, rfl⟩)))
      go_ret
      exact ⟨ret_int HX.out, H3.out⟩
    · by_cases h2 : v < 0
      · have HX : Hid (0 = X) := Lib.hid (by rw [← hX]; unfold byV; dsimp only; rw [hT, hS]; rw [if_neg (by omega), if_neg (by omega)])
        have CS := Lib.hid fun W => toward_is (sgn_up h1) W
        have CQ := Lib.hid fun W => toward_is (sgn_up (a := p) (b := S) (by omega)) W
        have CZ := Lib.hid fun W => toward_is (sgn_down h2) W
        clear hX hT hS hTb hSb hVb hUb hU hV hlh
        go_enter Try.func17, Try.ntmps17
        go_wp2_with (go_at_call 26; ((with_reducible refine (CG.out _).mono ?_); rintro e w2 ⟨rfl, hb⟩; obtain ⟨x1, x2, x3, x4⟩ := k.boxes2 hb; have X2 := Lib.hid x1; have Y2 := Lib.hid x2; have H2 := Lib.hid x3; obtain ⟨lc0, _, lc1, _, lc2, _, lc3, _, lc4, _, _⟩ := x1; obtain ⟨gc0, _, gc1, _, _⟩ := x2; clear hb x3))
        go_quiet (first | (go_at_call 29; with_reducible exact near_quiet HLH.out HT.out _ _) | (go_at_call 29; with_reducible exact near_quiet HLH.out HS.out _ _))
        rename_i nq
        clear HT HS
        have X3 := Lib.hid (X2.out.drawn nq)
        have Y3 := Lib.hid (Y2.out.drawn nq)
        have H3 := Lib.hid (below_drawn H2.out nq)
        have z3 : w.heap.size + 1 < (w2.drewN nq).heap.size := by simpa using x4
        clear lc0 lc1 lc2 lc3 lc4 gc0 gc1
        generalize w2.drewN nq = w3 at X3 Y3 H3 z3 ⊢
        obtain ⟨lc0, _, lc1, _, lc2, _, lc3, _, lc4, _, _⟩ := X3.out; obtain ⟨gc0, _, gc1, _, _⟩ := Y3.out
        go_wp2_with (first | (go_at_call 30; ((with_reducible refine (CU.out _).mono ?_); rintro e w9 ⟨rfl, rfl⟩)) | (go_at_call 30; ((with_reducible refine (CV.out _).mono ?_); rintro e w9 ⟨rfl, rfl⟩)) | (go_at_call 31; ((with_reducible refine (CS.out _).mono ?_); rintro e w9 ⟨rfl, rfl⟩)) | (go_at_call 31; ((with_reducible refine (CQ.out _).mono ?_); rintro e w9 ⟨rfl, rfl⟩)) | (go_at_call 31; ((with_reducible refine (CZ.out _).mono ?_); rintro e w9 ⟨rfl, rfl⟩)))
        go_ret
        exact ⟨ret_int HX.out, H3.out⟩
      · have HX : Hid (min (min Y (reachV (S - p) D)) (passV (T - p) U D) = X) := Lib.hid (by rw [← hX]; unfold byV; dsimp only; rw [hT, hS, hV, hU]; rw [if_pos ⟨by omega, by omega, by omega⟩])
        have b0 := reach_in (s := S - p) (d := D) (by omega) r5
        have b1 := pass_in (s := T - p) (u := U) (d := D) (by omega) (by omega) r5
        have H := fun W => reach_any (S - p) D W
        rw [dist_of (show 0 ≤ S - p by omega) (show S - p ≤ 2199023255552 by omega), los_of9 r5 r6] at H
        have CR := Lib.hid H
        clear H
        have H := fun W => pass_any (T - p) U D W
        rw [dist_of (show 0 ≤ T - p by omega) (show T - p ≤ 2199023255552 by omega), los_of9 r5 r6, vel_of (show 0 ≤ U by omega) (show U ≤ 1048576 by omega)] at H
        have CP := Lib.hid H
        clear H
        obtain ⟨R, hR⟩ : ∃ R, reachV (S - p) D = R := ⟨_, rfl⟩
        obtain ⟨P, hP⟩ : ∃ P, passV (T - p) U D = P := ⟨_, rfl⟩
        rw [hR] at HX b0 CR
        rw [hP] at HX b1 CP
        clear hR hP hX hT hS hU hV hlh
        have e1 : IntKind.i64.wrap (T - p) = T - p := IntWalk.i64_in _ (by omega)
        have e2 : IntKind.i64.wrap (S - p) = S - p := IntWalk.i64_in _ (by omega)
        have e3 : IntKind.i64.wrap (1 * (T - p)) = T - p := by rw [IntWalk.i64_in _ (by omega)]; omega
        have e4 : IntKind.i64.wrap (1 * (S - p)) = S - p := by rw [IntWalk.i64_in _ (by omega)]; omega
        have hYR : 0 ≤ Y ∧ Y ≤ 1048576 ∧ 0 ≤ R ∧ R ≤ 1048576 ∧ 0 ≤ P ∧ P ≤ 1048576 := by omega
        have HB := Lib.hid hYR
        clear b0 b1 hTb hSb hVb hUb hYR
        have CS := Lib.hid fun W => toward_is (sgn_up (a := p) (b := T) (by omega)) W
        have CQ := Lib.hid fun W => toward_is (sgn_up (a := p) (b := S) (by omega)) W
        obtain ⟨z, hz⟩ : ∃ z, sgn 0 v = z := ⟨_, rfl⟩
        have hz' := sgn_not_down (a := 0) (b := v) (by omega)
        rw [hz] at hz'
        have CZ := Lib.hid fun W => toward_is hz W
        clear hz
        go_enter Try.func17, Try.ntmps17
        go_wp2_with (go_at_call 26; ((with_reducible refine (CG.out _).mono ?_); rintro e w2 ⟨rfl, hb⟩; obtain ⟨x1, x2, x3, x4⟩ := k.boxes2 hb; have X2 := Lib.hid x1; have Y2 := Lib.hid x2; have H2 := Lib.hid x3; obtain ⟨lc0, _, lc1, _, lc2, _, lc3, _, lc4, _, _⟩ := x1; obtain ⟨gc0, _, gc1, _, _⟩ := x2; clear hb x3))
        go_quiet (first | (go_at_call 29; with_reducible exact near_quiet HLH.out HT.out _ _) | (go_at_call 29; with_reducible exact near_quiet HLH.out HS.out _ _))
        rename_i nq
        clear HT HS
        have X3 := Lib.hid (X2.out.drawn nq)
        have Y3 := Lib.hid (Y2.out.drawn nq)
        have H3 := Lib.hid (below_drawn H2.out nq)
        have z3 : w.heap.size + 1 < (w2.drewN nq).heap.size := by simpa using x4
        clear lc0 lc1 lc2 lc3 lc4 gc0 gc1
        generalize w2.drewN nq = w3 at X3 Y3 H3 z3 ⊢
        obtain ⟨lc0, _, lc1, _, lc2, _, lc3, _, lc4, _, _⟩ := X3.out; obtain ⟨gc0, _, gc1, _, _⟩ := Y3.out
        go_upto_region 8 with (first | (go_at_call 30; ((with_reducible refine (CU.out _).mono ?_); rintro e w9 ⟨rfl, rfl⟩)) | (go_at_call 30; ((with_reducible refine (CV.out _).mono ?_); rintro e w9 ⟨rfl, rfl⟩)) | (go_at_call 31; ((with_reducible refine (CS.out _).mono ?_); rintro e w9 ⟨rfl, rfl⟩)) | (go_at_call 31; ((with_reducible refine (CQ.out _).mono ?_); rintro e w9 ⟨rfl, rfl⟩)) | (go_at_call 31; ((with_reducible refine (CZ.out _).mono ?_); rintro e w9 ⟨rfl, rfl⟩)))
        go_region_held3 (fun w' => w'.cell? ⟨w.heap.size, 2, none⟩ = some (.int .i64 D) ∧ w'.cell? ⟨w.heap.size + 1, 0, none⟩ = some (.int .i64 p))
          (go_keep)
          (first
            | (go_at_call 32; ((with_reducible refine (CR.out _).mono ?_); rintro e w6 ⟨rfl, hb6⟩; (first | (have X9 := Lib.hid (X8.out.below hb6 (by omega)); have Y9 := Lib.hid (Y8.out.below hb6 (by omega)); have H9 := Lib.hid (H8.out.trans (hb6.mono H8.out.size)); clear hb6; obtain ⟨lc0, _, lc1, _, lc2, _, _⟩ := X9.out; obtain ⟨gc0, _, gc1, _, _⟩ := Y9.out) | (have hb := ((Below.refl w3.heap.size w3).drew).trans hb6; have X8 := Lib.hid (X3.out.below hb (by omega)); have Y8 := Lib.hid (Y3.out.below hb (by omega)); have H8 := Lib.hid (H3.out.trans (hb.mono H3.out.size)); have z8 : w.heap.size + 1 < w6.heap.size := Nat.lt_of_lt_of_le z3 hb.size; clear hb hb6; obtain ⟨lc0, _, lc1, _, lc2, _, _⟩ := X8.out; obtain ⟨gc0, _, gc1, _, _⟩ := Y8.out))))
            | (go_at_call 33; ((with_reducible refine (CP.out _).mono ?_); rintro e w7 ⟨rfl, hb6⟩; (first | (have X9 := Lib.hid (X8.out.below hb6 (by omega)); have Y9 := Lib.hid (Y8.out.below hb6 (by omega)); have H9 := Lib.hid (H8.out.trans (hb6.mono H8.out.size)); clear hb6; obtain ⟨lc0, _, lc1, _, lc2, _, _⟩ := X9.out; obtain ⟨gc0, _, gc1, _, _⟩ := Y9.out) | (have hb := ((Below.refl w3.heap.size w3).drew).trans hb6; have X8 := Lib.hid (X3.out.below hb (by omega)); have Y8 := Lib.hid (Y3.out.below hb (by omega)); have H8 := Lib.hid (H3.out.trans (hb.mono H3.out.size)); have z8 : w.heap.size + 1 < w7.heap.size := Nat.lt_of_lt_of_le z3 hb.size; clear hb hb6; obtain ⟨lc0, _, lc1, _, lc2, _, _⟩ := X8.out; obtain ⟨gc0, _, gc1, _, _⟩ := Y8.out))))
            | fail)
        all_goals go_wp2
        all_goals go_ret
        all_goals exact ⟨ret_int (by have := HX.out; have := HB.out; first | omega | (rw [IntWalk.wrap64_in _ (by omega)]; omega) | (rw [IntWalk.i64_in _ (by omega)]; omega)), H9.out⟩
  · by_cases h3 : T < p
    · by_cases h4 : p ≤ S
      · have HX : Hid (0 = X) := Lib.hid (by rw [← hX]; unfold byV; dsimp only; rw [hT, hS]; rw [if_neg (by omega), if_neg (by omega)])
        have CS := Lib.hid fun W => toward_is (sgn_down h3) W
        obtain ⟨q, hq⟩ : ∃ q, sgn p S = q := ⟨_, rfl⟩
        have hq' := not_down h4
        rw [hq] at hq'
        have CQ := Lib.hid fun W => toward_is hq W
        clear hq
        clear hX hT hS hTb hSb hVb hUb hU hV hlh
        go_enter Try.func17, Try.ntmps17
        go_wp2_with (go_at_call 26; ((with_reducible refine (CG.out _).mono ?_); rintro e w2 ⟨rfl, hb⟩; obtain ⟨x1, x2, x3, x4⟩ := k.boxes2 hb; have X2 := Lib.hid x1; have Y2 := Lib.hid x2; have H2 := Lib.hid x3; obtain ⟨lc0, _, lc1, _, lc2, _, lc3, _, lc4, _, _⟩ := x1; obtain ⟨gc0, _, gc1, _, _⟩ := x2; clear hb x3))
        go_quiet (first | (go_at_call 29; with_reducible exact near_quiet HLH.out HT.out _ _) | (go_at_call 29; with_reducible exact near_quiet HLH.out HS.out _ _))
        rename_i nq
        clear HT HS
        have X3 := Lib.hid (X2.out.drawn nq)
        have Y3 := Lib.hid (Y2.out.drawn nq)
        have H3 := Lib.hid (below_drawn H2.out nq)
        have z3 : w.heap.size + 1 < (w2.drewN nq).heap.size := by simpa using x4
        clear lc0 lc1 lc2 lc3 lc4 gc0 gc1
        generalize w2.drewN nq = w3 at X3 Y3 H3 z3 ⊢
        obtain ⟨lc0, _, lc1, _, lc2, _, lc3, _, lc4, _, _⟩ := X3.out; obtain ⟨gc0, _, gc1, _, _⟩ := Y3.out
        go_wp2_with (first | (go_at_call 30; ((with_reducible refine (CU.out _).mono ?_); rintro e w9 ⟨rfl, rfl⟩)) | (go_at_call 30; ((with_reducible refine (CV.out _).mono ?_); rintro e w9 ⟨rfl, rfl⟩)) | (go_at_call 31; ((with_reducible refine (CS.out _).mono ?_); rintro e w9 ⟨rfl, rfl⟩)) | (go_at_call 31; ((with_reducible refine (CQ.out _).mono ?_); rintro e w9 ⟨rfl, rfl⟩)))
        go_ret
        exact ⟨ret_int HX.out, H3.out⟩
      · by_cases h2 : 0 < v
        · have HX : Hid (0 = X) := Lib.hid (by rw [← hX]; unfold byV; dsimp only; rw [hT, hS]; rw [if_neg (by omega), if_neg (by omega)])
          have CS := Lib.hid fun W => toward_is (sgn_down h3) W
          have CQ := Lib.hid fun W => toward_is (sgn_down (a := p) (b := S) (by omega)) W
          have CZ := Lib.hid fun W => toward_is (sgn_up h2) W
          clear hX hT hS hTb hSb hVb hUb hU hV hlh
          go_enter Try.func17, Try.ntmps17
          go_wp2_with (go_at_call 26; ((with_reducible refine (CG.out _).mono ?_); rintro e w2 ⟨rfl, hb⟩; obtain ⟨x1, x2, x3, x4⟩ := k.boxes2 hb; have X2 := Lib.hid x1; have Y2 := Lib.hid x2; have H2 := Lib.hid x3; obtain ⟨lc0, _, lc1, _, lc2, _, lc3, _, lc4, _, _⟩ := x1; obtain ⟨gc0, _, gc1, _, _⟩ := x2; clear hb x3))
          go_quiet (first | (go_at_call 29; with_reducible exact near_quiet HLH.out HT.out _ _) | (go_at_call 29; with_reducible exact near_quiet HLH.out HS.out _ _))
          rename_i nq
          clear HT HS
          have X3 := Lib.hid (X2.out.drawn nq)
          have Y3 := Lib.hid (Y2.out.drawn nq)
          have H3 := Lib.hid (below_drawn H2.out nq)
          have z3 : w.heap.size + 1 < (w2.drewN nq).heap.size := by simpa using x4
          clear lc0 lc1 lc2 lc3 lc4 gc0 gc1
          generalize w2.drewN nq = w3 at X3 Y3 H3 z3 ⊢
          obtain ⟨lc0, _, lc1, _, lc2, _, lc3, _, lc4, _, _⟩ := X3.out; obtain ⟨gc0, _, gc1, _, _⟩ := Y3.out
          go_wp2_with (first | (go_at_call 30; ((with_reducible refine (CU.out _).mono ?_); rintro e w9 ⟨rfl, rfl⟩)) | (go_at_call 30; ((with_reducible refine (CV.out _).mono ?_); rintro e w9 ⟨rfl, rfl⟩)) | (go_at_call 31; ((with_reducible refine (CS.out _).mono ?_); rintro e w9 ⟨rfl, rfl⟩)) | (go_at_call 31; ((with_reducible refine (CQ.out _).mono ?_); rintro e w9 ⟨rfl, rfl⟩)) | (go_at_call 31; ((with_reducible refine (CZ.out _).mono ?_); rintro e w9 ⟨rfl, rfl⟩)))
          go_ret
          exact ⟨ret_int HX.out, H3.out⟩
        · have HX : Hid (-(min (min Y (reachV (p - S) D)) (passV (p - T) U D)) = X) := Lib.hid (by rw [← hX]; unfold byV; dsimp only; rw [hT, hS, hV, hU]; rw [if_neg (by omega), if_pos ⟨by omega, by omega, by omega⟩])
          have b0 := reach_in (s := p - S) (d := D) (by omega) r5
          have b1 := pass_in (s := p - T) (u := U) (d := D) (by omega) (by omega) r5
          have H := fun W => reach_any (p - S) D W
          rw [dist_of (show 0 ≤ p - S by omega) (show p - S ≤ 2199023255552 by omega), los_of9 r5 r6] at H
          have CR := Lib.hid H
          clear H
          have H := fun W => pass_any (p - T) U D W
          rw [dist_of (show 0 ≤ p - T by omega) (show p - T ≤ 2199023255552 by omega), los_of9 r5 r6, vel_of (show 0 ≤ U by omega) (show U ≤ 1048576 by omega)] at H
          have CP := Lib.hid H
          clear H
          obtain ⟨R, hR⟩ : ∃ R, reachV (p - S) D = R := ⟨_, rfl⟩
          obtain ⟨P, hP⟩ : ∃ P, passV (p - T) U D = P := ⟨_, rfl⟩
          rw [hR] at HX b0 CR
          rw [hP] at HX b1 CP
          clear hR hP hX hT hS hU hV hlh
          have e1 : IntKind.i64.wrap (T - p) = T - p := IntWalk.i64_in _ (by omega)
          have e2 : IntKind.i64.wrap (S - p) = S - p := IntWalk.i64_in _ (by omega)
          have e3 : IntKind.i64.wrap (-1 * (T - p)) = p - T := by rw [IntWalk.i64_in _ (by omega)]; omega
          have e4 : IntKind.i64.wrap (-1 * (S - p)) = p - S := by rw [IntWalk.i64_in _ (by omega)]; omega
          have e5 : -(T - p) = p - T := by omega
          have e6 : -(S - p) = p - S := by omega
          have e7 : IntKind.i64.wrap (p - T) = p - T := IntWalk.i64_in _ (by omega)
          have e8 : IntKind.i64.wrap (p - S) = p - S := IntWalk.i64_in _ (by omega)
          have hYR : 0 ≤ Y ∧ Y ≤ 1048576 ∧ 0 ≤ R ∧ R ≤ 1048576 ∧ 0 ≤ P ∧ P ≤ 1048576 := by omega
          have HB := Lib.hid hYR
          clear b0 b1 hTb hSb hVb hUb hYR
          have CS := Lib.hid fun W => toward_is (sgn_down (a := p) (b := T) (by omega)) W
          have CQ := Lib.hid fun W => toward_is (sgn_down (a := p) (b := S) (by omega)) W
          obtain ⟨z, hz⟩ : ∃ z, sgn 0 v = z := ⟨_, rfl⟩
          have hz' := sgn_not_up (a := 0) (b := v) (by omega)
          rw [hz] at hz'
          have CZ := Lib.hid fun W => toward_is hz W
          clear hz
          go_enter Try.func17, Try.ntmps17
          go_wp2_with (go_at_call 26; ((with_reducible refine (CG.out _).mono ?_); rintro e w2 ⟨rfl, hb⟩; obtain ⟨x1, x2, x3, x4⟩ := k.boxes2 hb; have X2 := Lib.hid x1; have Y2 := Lib.hid x2; have H2 := Lib.hid x3; obtain ⟨lc0, _, lc1, _, lc2, _, lc3, _, lc4, _, _⟩ := x1; obtain ⟨gc0, _, gc1, _, _⟩ := x2; clear hb x3))
          go_quiet (first | (go_at_call 29; with_reducible exact near_quiet HLH.out HT.out _ _) | (go_at_call 29; with_reducible exact near_quiet HLH.out HS.out _ _))
          rename_i nq
          clear HT HS
          have X3 := Lib.hid (X2.out.drawn nq)
          have Y3 := Lib.hid (Y2.out.drawn nq)
          have H3 := Lib.hid (below_drawn H2.out nq)
          have z3 : w.heap.size + 1 < (w2.drewN nq).heap.size := by simpa using x4
          clear lc0 lc1 lc2 lc3 lc4 gc0 gc1
          generalize w2.drewN nq = w3 at X3 Y3 H3 z3 ⊢
          obtain ⟨lc0, _, lc1, _, lc2, _, lc3, _, lc4, _, _⟩ := X3.out; obtain ⟨gc0, _, gc1, _, _⟩ := Y3.out
          go_upto_region 8 with (first | (go_at_call 30; ((with_reducible refine (CU.out _).mono ?_); rintro e w9 ⟨rfl, rfl⟩)) | (go_at_call 30; ((with_reducible refine (CV.out _).mono ?_); rintro e w9 ⟨rfl, rfl⟩)) | (go_at_call 31; ((with_reducible refine (CS.out _).mono ?_); rintro e w9 ⟨rfl, rfl⟩)) | (go_at_call 31; ((with_reducible refine (CQ.out _).mono ?_); rintro e w9 ⟨rfl, rfl⟩)) | (go_at_call 31; ((with_reducible refine (CZ.out _).mono ?_); rintro e w9 ⟨rfl, rfl⟩)))
          go_region_held3 (fun w' => w'.cell? ⟨w.heap.size, 2, none⟩ = some (.int .i64 D) ∧ w'.cell? ⟨w.heap.size + 1, 0, none⟩ = some (.int .i64 p))
            (go_keep)
            (first
              | (go_at_call 32; ((with_reducible refine (CR.out _).mono ?_); rintro e w6 ⟨rfl, hb6⟩; (first | (have X9 := Lib.hid (X8.out.below hb6 (by omega)); have Y9 := Lib.hid (Y8.out.below hb6 (by omega)); have H9 := Lib.hid (H8.out.trans (hb6.mono H8.out.size)); clear hb6; obtain ⟨lc0, _, lc1, _, lc2, _, _⟩ := X9.out; obtain ⟨gc0, _, gc1, _, _⟩ := Y9.out) | (have hb := ((Below.refl w3.heap.size w3).drew).trans hb6; have X8 := Lib.hid (X3.out.below hb (by omega)); have Y8 := Lib.hid (Y3.out.below hb (by omega)); have H8 := Lib.hid (H3.out.trans (hb.mono H3.out.size)); have z8 : w.heap.size + 1 < w6.heap.size := Nat.lt_of_lt_of_le z3 hb.size; clear hb hb6; obtain ⟨lc0, _, lc1, _, lc2, _, _⟩ := X8.out; obtain ⟨gc0, _, gc1, _, _⟩ := Y8.out))))
              | (go_at_call 33; ((with_reducible refine (CP.out _).mono ?_); rintro e w7 ⟨rfl, hb6⟩; (first | (have X9 := Lib.hid (X8.out.below hb6 (by omega)); have Y9 := Lib.hid (Y8.out.below hb6 (by omega)); have H9 := Lib.hid (H8.out.trans (hb6.mono H8.out.size)); clear hb6; obtain ⟨lc0, _, lc1, _, lc2, _, _⟩ := X9.out; obtain ⟨gc0, _, gc1, _, _⟩ := Y9.out) | (have hb := ((Below.refl w3.heap.size w3).drew).trans hb6; have X8 := Lib.hid (X3.out.below hb (by omega)); have Y8 := Lib.hid (Y3.out.below hb (by omega)); have H8 := Lib.hid (H3.out.trans (hb.mono H3.out.size)); have z8 : w.heap.size + 1 < w7.heap.size := Nat.lt_of_lt_of_le z3 hb.size; clear hb hb6; obtain ⟨lc0, _, lc1, _, lc2, _, _⟩ := X8.out; obtain ⟨gc0, _, gc1, _, _⟩ := Y8.out))))
              | fail)
          all_goals go_wp2
          all_goals go_ret
          all_goals exact ⟨ret_int (by have := HX.out; have := HB.out; first | omega | (rw [IntWalk.wrap64_in _ (by omega)]; omega) | (rw [IntWalk.i64_in _ (by omega)]; omega)), H9.out⟩
    · have e : T = p := by omega
      have HX : Hid (0 = X) := Lib.hid (by rw [← hX]; unfold byV; dsimp only; rw [hT, hS]; rw [if_neg (by omega), if_neg (by omega)])
      have CS : Hid (∀ W, Calls Try.prog 31 #[.int .i64 p, .int .i64 T] W fun e w' => e = .returned (.int .i64 0) ∧ W = w') := Lib.hid fun W => toward_is (by rw [e]; exact sgn_same p) W
      clear e h1 h3
      clear hX hT hS hTb hSb hVb hUb hU hV hlh
      go_enter Try.func17, Try.ntmps17
      go_wp2_with (go_at_call 26; ((with_reducible refine (CG.out _).mono ?_); rintro e w2 ⟨rfl, hb⟩; obtain ⟨x1, x2, x3, x4⟩ := k.boxes2 hb; have X2 := Lib.hid x1; have Y2 := Lib.hid x2; have H2 := Lib.hid x3; obtain ⟨lc0, _, lc1, _, lc2, _, lc3, _, lc4, _, _⟩ := x1; obtain ⟨gc0, _, gc1, _, _⟩ := x2; clear hb x3))
      go_quiet (first | (go_at_call 29; with_reducible exact near_quiet HLH.out HT.out _ _) | (go_at_call 29; with_reducible exact near_quiet HLH.out HS.out _ _))
      rename_i nq
      clear HT HS
      have X3 := Lib.hid (X2.out.drawn nq)
      have Y3 := Lib.hid (Y2.out.drawn nq)
      have H3 := Lib.hid (below_drawn H2.out nq)
      have z3 : w.heap.size + 1 < (w2.drewN nq).heap.size := by simpa using x4
      clear lc0 lc1 lc2 lc3 lc4 gc0 gc1
      generalize w2.drewN nq = w3 at X3 Y3 H3 z3 ⊢
      obtain ⟨lc0, _, lc1, _, lc2, _, lc3, _, lc4, _, _⟩ := X3.out; obtain ⟨gc0, _, gc1, _, _⟩ := Y3.out
      go_wp2_with (first | (go_at_call 30; ((with_reducible refine (CU.out _).mono ?_); rintro e w9 ⟨rfl, rfl⟩)) | (go_at_call 30; ((with_reducible refine (CV.out _).mono ?_); rintro e w9 ⟨rfl, rfl⟩)) | (go_at_call 31; ((with_reducible refine (CS.out _).mono ?_); rintro e w9 ⟨rfl, rfl⟩)))
      go_ret
      exact ⟨ret_int HX.out, H3.out⟩
end Go.Proofs.Ytmfigpjofakdnaa.gn
