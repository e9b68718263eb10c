/- What layer gen's To and By answer, of any limits and any generator; what was in memory is as it was. No condition but what each line says. -/
import Derived.Test.YtmfigpjofakdnaaGGenB
namespace Go.Proofs.Ytmfigpjofakdnaa.gn
open Go.ChangeShapes Go.WideShapes Go.ChangeAt Go.RowKit Go.Proofs.Ytmfigpjofakdnaa.k Go.Proofs.Ytmfigpjofakdnaa.b
set_option linter.unusedVariables false

theorem sgn_up {a b : Int} (h : a < b) : sgn a b = 1 := by unfold sgn; rw [if_pos h]
theorem sgn_same (a : Int) : sgn a a = 0 := by unfold sgn; rw [if_neg (by omega), if_neg (by omega)]
theorem sgn_down {a b : Int} (h : b < a) : sgn a b = -1 := by unfold sgn; rw [if_neg (by omega), if_pos h]
theorem sgn_not_down {a b : Int} (h : a ≤ b) : (sgn a b == -1) = false := by
  unfold sgn
  by_cases h1 : a < b
  · rw [if_pos h1]; rfl
  · rw [if_neg h1, if_neg (by omega)]; rfl
theorem sgn_not_up {a b : Int} (h : b ≤ a) : (sgn a b == 1) = false := by
  unfold sgn
  rw [if_neg (by omega)]
  by_cases h1 : b < a
  · rw [if_pos h1]; rfl
  · rw [if_neg h1]; rfl
set_option maxHeartbeats 4000000 in
theorem to_is {V A D lo hi p v t x X : Int} (hr : RightL ⟨V, A, D, lo, hi⟩) (hs : SafeP ⟨V, A, D, lo, hi⟩ p v) (hX : toV ⟨V, A, D, lo, hi⟩ p v t x = X) (w : World) :
    Calls Try.prog 16 #[.agg #[.int .i64 V, .int .i64 A, .int .i64 D, .int .i64 lo, .int .i64 hi], .agg #[.int .i64 p, .int .i64 v], .int .i64 t, .int .i64 x] w fun e w' => e = .returned (.int .i64 X) ∧ Below w.heap.size w w' := by
  have hw := wide_safe hr hs
  have CG := Lib.hid fun W => goes_any (wide_right hr) hw.1 hw.2 (safe_yes hr hs) W
  clear hw
  have hlh := hr.2.2.2.2.2.2.2.2
  dsimp only at hlh
  obtain ⟨T, hT⟩ : ∃ T, clamp t lo hi = T := ⟨_, rfl⟩
  have hTb := clamp_mid (n := t) hlh
  rw [hT] at hTb
  have CT := Lib.hid fun W => near_is hlh hT W
  obtain ⟨Y, hV⟩ : ∃ Y, vel x = Y := ⟨_, rfl⟩
  have hVb := vel_in x
  rw [hV] at hVb
  have CV := Lib.hid fun W => vel_is hV W
  obtain ⟨r1, r2, r3, r4, r5, r6, r7, r8, r9⟩ := hr
  obtain ⟨s1, s2, s3, s4, s5⟩ := hs
  dsimp only at r1 r2 r3 r4 r5 r6 r7 r8 r9 s1 s2
  clear s5
  clear hlh
  by_cases h1 : p < T
  · by_cases h2 : v < 0
    · have HX : Hid (0 = X) := Lib.hid (by rw [← hX]; unfold toV; dsimp only; rw [hT]; rw [if_neg (by omega), if_neg (by omega)])
      have CS := Lib.hid fun W => toward_is (sgn_up h1) W
      have CZ := Lib.hid fun W => toward_is (sgn_down h2) W
      clear hX hT hTb hVb
      go_enter Try.func16, Try.ntmps16
      go_wp2_with (first | (go_at_call 26; ((with_reducible refine (CG.out _).mono ?_); rintro e w2 ⟨rfl, hb⟩; obtain ⟨x1, x2, x3, x4⟩ := k.boxes2 hb; have X2 := Lib.hid x1; have Y2 := Lib.hid x2; have H2 := Lib.hid x3; obtain ⟨lc0, _, lc1, _, lc2, _, lc3, _, lc4, _, _⟩ := x1; obtain ⟨gc0, _, gc1, _, _⟩ := x2; clear hb x3)) | (go_at_call 29; ((with_reducible refine (CT.out _).mono ?_); rintro e w9 ⟨rfl, rfl⟩)) | (go_at_call 30; ((with_reducible refine (CV.out _).mono ?_); rintro e w9 ⟨rfl, rfl⟩)) | (go_at_call 31; ((with_reducible refine (CS.out _).mono ?_); rintro e w9 ⟨rfl, rfl⟩)) | (go_at_call 31; ((with_reducible refine (CZ.out _).mono ?_); rintro e w9 ⟨rfl, rfl⟩)))
      go_ret
      exact ⟨ret_int HX.out, H2.out⟩
    · have HX : Hid (min Y (reachV (T - p) D) = X) := Lib.hid (by rw [← hX]; unfold toV; dsimp only; rw [hT, hV]; rw [if_pos ⟨by omega, by omega⟩])
      have b0 := reach_in (s := T - p) (d := D) (by omega) r5
      have H := fun W => reach_any (T - p) D W
      rw [dist_of (show 0 ≤ T - p by omega) (show T - p ≤ 2199023255552 by omega), los_of9 r5 r6] at H
      have CR := Lib.hid H
      clear H
      obtain ⟨R, hR⟩ : ∃ R, reachV (T - p) D = R := ⟨_, rfl⟩
      rw [hR] at HX b0 CR
      clear hR hX hT
      obtain ⟨M, hM⟩ : ∃ M, min Y R = M := ⟨_, rfl⟩
      rw [hM] at HX
      have hMb : -1048576 ≤ M ∧ M ≤ 1048576 := by omega
      have e1 : IntKind.i64.wrap (T - p) = T - p := IntWalk.i64_in _ (by omega)
      have HM := Lib.hid hM
      clear b0 hM hTb hVb
      have CS := Lib.hid fun W => toward_is (sgn_up (a := p) (b := T) (by omega)) W
      obtain ⟨z, hz⟩ : ∃ z, sgn 0 v = z := ⟨_, rfl⟩
      have hzz := sgn_not_down (a := 0) (b := v) (by omega)
      rw [hz] at hzz
      have CZ := Lib.hid fun W => toward_is hz W
      clear hz
      go_enter Try.func16, Try.ntmps16
      go_wp2_with (first | (go_at_call 26; ((with_reducible refine (CG.out _).mono ?_); rintro e w2 ⟨rfl, hb⟩; obtain ⟨x1, x2, x3, x4⟩ := k.boxes2 hb; have X2 := Lib.hid x1; have Y2 := Lib.hid x2; have H2 := Lib.hid x3; obtain ⟨lc0, _, lc1, _, lc2, _, lc3, _, lc4, _, _⟩ := x1; obtain ⟨gc0, _, gc1, _, _⟩ := x2; clear hb x3)) | (go_at_call 29; ((with_reducible refine (CT.out _).mono ?_); rintro e w9 ⟨rfl, rfl⟩)) | (go_at_call 30; ((with_reducible refine (CV.out _).mono ?_); rintro e w9 ⟨rfl, rfl⟩)) | (go_at_call 31; ((with_reducible refine (CS.out _).mono ?_); rintro e w9 ⟨rfl, rfl⟩)) | (go_at_call 31; ((with_reducible refine (CZ.out _).mono ?_); rintro e w9 ⟨rfl, rfl⟩)) | (go_at_call 32; ((with_reducible refine (CR.out _).mono ?_); rintro e w3 ⟨rfl, hb⟩; have H3 := Lib.hid (H2.out.trans (hb.mono H2.out.size)); clear hb)))
      go_ret
      exact ⟨ret_int (by have := HX.out; have := HM.out; rw [IntWalk.wrap64_in _ (by omega)]; omega), H3.out⟩
  · by_cases h3 : T < p
    · by_cases h2 : 0 < v
      · have HX : Hid (0 = X) := Lib.hid (by rw [← hX]; unfold toV; dsimp only; rw [hT]; rw [if_neg (by omega), if_neg (by omega)])
        have CS := Lib.hid fun W => toward_is (sgn_down h3) W
        have CZ := Lib.hid fun W => toward_is (sgn_up h2) W
        clear hX hT hTb hVb
        go_enter Try.func16, Try.ntmps16
        go_wp2_with (first | (go_at_call 26; ((with_reducible refine (CG.out _).mono ?_); rintro e w2 ⟨rfl, hb⟩; obtain ⟨x1, x2, x3, x4⟩ := k.boxes2 hb; have X2 := Lib.hid x1; have Y2 := Lib.hid x2; have H2 := Lib.hid x3; obtain ⟨lc0, _, lc1, _, lc2, _, lc3, _, lc4, _, _⟩ := x1; obtain ⟨gc0, _, gc1, _, _⟩ := x2; clear hb x3)) | (go_at_call 29; ((with_reducible refine (CT.out _).mono ?_); rintro e w9 ⟨rfl, rfl⟩)) | (go_at_call 30; ((with_reducible refine (CV.out _).mono ?_); rintro e w9 ⟨rfl, rfl⟩)) | (go_at_call 31; ((with_reducible refine (CS.out _).mono ?_); rintro e w9 ⟨rfl, rfl⟩)) | (go_at_call 31; ((with_reducible refine (CZ.out _).mono ?_); rintro e w9 ⟨rfl, rfl⟩)))
        go_ret
        exact ⟨ret_int HX.out, H2.out⟩
      · have HX : Hid (-(min Y (reachV (p - T) D)) = X) := Lib.hid (by rw [← hX]; unfold toV; dsimp only; rw [hT, hV]; rw [if_neg (by omega), if_pos ⟨by omega, by omega⟩])
        have b0 := reach_in (s := p - T) (d := D) (by omega) r5
        have H := fun W => reach_any (p - T) D W
        rw [dist_of (show 0 ≤ p - T by omega) (show p - T ≤ 2199023255552 by omega), los_of9 r5 r6] at H
        have CR := Lib.hid H
        clear H
        obtain ⟨R, hR⟩ : ∃ R, reachV (p - T) D = R := ⟨_, rfl⟩
        rw [hR] at HX b0 CR
        clear hR hX hT
        obtain ⟨M, hM⟩ : ∃ M, min Y R = M := ⟨_, rfl⟩
        rw [hM] at HX
        have hMb : -1048576 ≤ M ∧ M ≤ 1048576 := by omega
        have e1 : IntKind.i64.wrap (T - p) = T - p := IntWalk.i64_in _ (by omega)
        have HM := Lib.hid hM
        have en : -(T - p) = p - T := by omega
        have e6 : wrap64 (p - T) = p - T := IntWalk.wrap64_in _ (by omega)
        clear b0 hM hTb hVb
        have CS := Lib.hid fun W => toward_is (sgn_down (a := p) (b := T) (by omega)) W
        obtain ⟨z, hz⟩ : ∃ z, sgn 0 v = z := ⟨_, rfl⟩
        have hzz := sgn_not_up (a := 0) (b := v) (by omega)
        rw [hz] at hzz
        have CZ := Lib.hid fun W => toward_is hz W
        clear hz
        go_enter Try.func16, Try.ntmps16
        go_wp2_with (first | (go_at_call 26; ((with_reducible refine (CG.out _).mono ?_); rintro e w2 ⟨rfl, hb⟩; obtain ⟨x1, x2, x3, x4⟩ := k.boxes2 hb; have X2 := Lib.hid x1; have Y2 := Lib.hid x2; have H2 := Lib.hid x3; obtain ⟨lc0, _, lc1, _, lc2, _, lc3, _, lc4, _, _⟩ := x1; obtain ⟨gc0, _, gc1, _, _⟩ := x2; clear hb x3)) | (go_at_call 29; ((with_reducible refine (CT.out _).mono ?_); rintro e w9 ⟨rfl, rfl⟩)) | (go_at_call 30; ((with_reducible refine (CV.out _).mono ?_); rintro e w9 ⟨rfl, rfl⟩)) | (go_at_call 31; ((with_reducible refine (CS.out _).mono ?_); rintro e w9 ⟨rfl, rfl⟩)) | (go_at_call 31; ((with_reducible refine (CZ.out _).mono ?_); rintro e w9 ⟨rfl, rfl⟩)) | (go_at_call 32; ((with_reducible refine (CR.out _).mono ?_); rintro e w3 ⟨rfl, hb⟩; have H3 := Lib.hid (H2.out.trans (hb.mono H2.out.size)); clear hb)))
        go_ret
        exact ⟨ret_int (by have := HX.out; have := HM.out; rw [IntWalk.wrap64_in _ (by omega)]; omega), H3.out⟩
    · have e : T = p := by omega
      have HX : Hid (0 = X) := Lib.hid (by rw [← hX]; unfold toV; dsimp only; rw [hT]; rw [if_neg (by omega), if_neg (by omega)])
      have CS : Hid (∀ W, Calls Try.prog 31 #[.int .i64 p, .int .i64 T] W fun e w' => e = .returned (.int .i64 0) ∧ W = w') := Lib.hid fun W => toward_is (by rw [e]; exact sgn_same p) W
      clear e h1 h3
      clear hX hT hTb hVb
      go_enter Try.func16, Try.ntmps16
      go_wp2_with (first | (go_at_call 26; ((with_reducible refine (CG.out _).mono ?_); rintro e w2 ⟨rfl, hb⟩; obtain ⟨x1, x2, x3, x4⟩ := k.boxes2 hb; have X2 := Lib.hid x1; have Y2 := Lib.hid x2; have H2 := Lib.hid x3; obtain ⟨lc0, _, lc1, _, lc2, _, lc3, _, lc4, _, _⟩ := x1; obtain ⟨gc0, _, gc1, _, _⟩ := x2; clear hb x3)) | (go_at_call 29; ((with_reducible refine (CT.out _).mono ?_); rintro e w9 ⟨rfl, rfl⟩)) | (go_at_call 30; ((with_reducible refine (CV.out _).mono ?_); rintro e w9 ⟨rfl, rfl⟩)) | (go_at_call 31; ((with_reducible refine (CS.out _).mono ?_); rintro e w9 ⟨rfl, rfl⟩)))
      go_ret
      exact ⟨ret_int HX.out, H2.out⟩
end Go.Proofs.Ytmfigpjofakdnaa.gn
