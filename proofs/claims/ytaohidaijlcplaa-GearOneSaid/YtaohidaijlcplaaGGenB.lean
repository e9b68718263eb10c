/- What layer gen's May and Step answer, of any limits and any generator; what was in memory is as it was. No condition but what each line says. -/
import Derived.Test.YtaohidaijlcplaaGGenA
import Derived.Test.YtaohidaijlcplaaBBrake
namespace Go.Proofs.Ytaohidaijlcplaa.gn
open Go.ChangeShapes Go.WideShapes Go.ChangeAt Go.RowKit Go.Proofs.Ytaohidaijlcplaa.k Go.Proofs.Ytaohidaijlcplaa.b
set_option linter.unusedVariables false

theorem two_eq {a a' b b' : Int} (h : a = a') (h2 : b = b') : Ending.returned (.tuple #[.int .i64 a, .int .i64 b]) = .returned (.tuple #[.int .i64 a', .int .i64 b']) := by rw [h, h2]
theorem dist_of {s : Int} (h0 : 0 ≤ s) (h1 : s ≤ 2199023255552) : dist s = s := by unfold dist clamp; omega
theorem wide_right {l : L} (h : RightL l) : WideL l := by
  obtain ⟨_, _, _, _, _, _, _, _, _⟩ := h
  constructor <;> unfold Wide <;> omega
theorem wide_safe {l : L} (h : RightL l) {p v : Int} (hs : SafeP l p v) : Wide p ∧ Wide v := by
  obtain ⟨_, _, _, _, _, _, _, _, _⟩ := h
  obtain ⟨_, _, _, _, _⟩ := hs
  unfold Wide
  omega
set_option maxHeartbeats 4000000 in
theorem ahead_any {V A D lo hi v room x y : Int} (hr : RightL ⟨V, A, D, lo, hi⟩) (v0 : 0 ≤ v) (v1 : v ≤ 1048576) (s0 : 0 ≤ room) (s1 : room ≤ 2199023255552) (hx : nextV v D = x) (hy : hiOf ⟨V, A, D, lo, hi⟩ v room = y) (w : World) :
    Calls Try.prog 41 #[.agg #[.int .i64 V, .int .i64 A, .int .i64 D, .int .i64 lo, .int .i64 hi], .int .i64 v, .int .i64 room] w fun e w' => e = .returned (.tuple #[.int .i64 x, .int .i64 y]) ∧ Below w.heap.size w w' := by
  obtain ⟨r1, r2, r3, r4, r5, r6, r7, r8, r9⟩ := hr
  dsimp only at r1 r2 r3 r4 r5 r6 r7 r8 r9
  have H := fun W => reach_any room D W
  rw [dist_of s0 s1, los_of9 r5 r6] at H
  have HR := Lib.hid H
  clear H
  have b0 := reach_in (s := room) (d := D) s0 r5
  have nx := nextV_in v0 r5
  unfold hiOf at hy
  dsimp only at hy
  rw [hx] at hy nx
  generalize reachV room D = R at *
  have ex : max (v - D) 0 = x := by rw [← hx]; unfold nextV; omega
  clear hx
  have e1 : IntKind.i64.wrap (v - D) = v - D := IntWalk.i64_in _ (by omega)
  have e2 : IntKind.i64.wrap (v + A) = v + A := IntWalk.i64_in _ (by omega)
  have HY := Lib.hid hy
  clear hy
  go_enter Try.func41, Try.ntmps41
  go_upto_region 2 with (fail)
  obtain ⟨x1, x2, x3⟩ := k.boxes1 (w := w) (c1 := #[.int .i64 V, .int .i64 A, .int .i64 D, .int .i64 lo, .int .i64 hi]) (t1 := 23) (Below.refl _ _)
  generalize w.alloc (.cells #[.int .i64 V, .int .i64 A, .int .i64 D, .int .i64 lo, .int .i64 hi] 23) = w2 at x1 x2 x3 ⊢
  have X3 := Lib.hid x2
  have B3 := Lib.hid x1
  obtain ⟨lc0, _, lc1, _, lc2, _, lc3, _, lc4, _, _⟩ := x1
  clear x2
  go_region_held3 (fun w' => w'.cell? ⟨w.heap.size, 0, none⟩ = some (.int .i64 V) ∧ w'.cell? ⟨w.heap.size, 1, none⟩ = some (.int .i64 A) ∧ w'.cell? ⟨w.heap.size, 2, none⟩ = some (.int .i64 D))
    (go_keep)
    (first
      | (go_at_call 50; ((with_reducible refine (HR.out _).mono ?_); rintro e w6 ⟨rfl, hb6⟩; have hb : Below w2.heap.size w2 w6 := ((Below.refl _ _).drew).trans hb6; obtain ⟨dc0, _, dc1, _, dc2, _, _⟩ := B3.out.below hb x3; have X4 := Lib.hid (X3.out.trans (hb.mono X3.out.size)); clear hb hb6))
      | fail)
  all_goals go_wp2
  all_goals go_ret2
  all_goals exact ⟨two_eq rfl (by have := HY.out; omega), X4.out⟩
set_option maxHeartbeats 4000000 in
theorem may_is {V A D lo hi p v x y : Int} (hr : RightL ⟨V, A, D, lo, hi⟩) (hs : SafeP ⟨V, A, D, lo, hi⟩ p v) (hx : mayLo ⟨V, A, D, lo, hi⟩ p v = x) (hy : mayHi ⟨V, A, D, lo, hi⟩ p v = y) (w : World) :
    Calls Try.prog 20 #[.agg #[.int .i64 V, .int .i64 A, .int .i64 D, .int .i64 lo, .int .i64 hi], .agg #[.int .i64 p, .int .i64 v]] w fun e w' => e = .returned (.tuple #[.int .i64 x, .int .i64 y]) ∧ Below w.heap.size w w' := by
  have hw := wide_safe hr hs
  have CG := Lib.hid fun W => goes_any (wide_right hr) hw.1 hw.2 (safe_yes hr hs) W
  clear hw
  have hmm := may_le hr hs
  rw [hx, hy] at hmm
  have HRL := Lib.hid hr
  obtain ⟨r1, r2, r3, r4, r5, r6, r7, r8, r9⟩ := hr
  obtain ⟨s1, s2, s3, s4, s5⟩ := hs
  dsimp only at r1 r2 r3 r4 r5 r6 r7 r8 r9 s1 s2
  unfold mayLo at hx
  unfold mayHi at hy
  dsimp only at hx hy
  by_cases h1 : 0 < v
  · rw [if_pos h1] at hx
    rw [if_neg (show ¬ v < 0 by omega)] at hy
    have CA := Lib.hid fun W => ahead_any HRL.out (room := hi - p) (by omega) (by omega) (by omega) (by omega) hx hy W
    clear hx hy hmm s5
    have e1 : IntKind.i64.wrap (hi - p) = hi - p := IntWalk.i64_in _ (by omega)
    go_enter Try.func20, Try.ntmps20
    go_wp2_with (first | (go_at_call 26; ((with_reducible refine (CG.out _).mono ?_); rintro e w2 ⟨rfl, hb⟩; obtain ⟨x1, x2, x3, x4⟩ := k.boxes2 hb; have X2 := Lib.hid x1; have Y2 := Lib.hid x2; have H2 := Lib.hid x3; obtain ⟨lc0, _, lc1, _, lc2, _, lc3, _, lc4, _, _⟩ := x1; obtain ⟨gc0, _, gc1, _, _⟩ := x2; clear hb x3)) | (go_at_call 41; ((with_reducible refine (CA.out _).mono ?_); rintro e w3 ⟨rfl, hb⟩; have X3 := Lib.hid (X2.out.below hb (by omega)); have Y3 := Lib.hid (Y2.out.below hb (by omega)); have H3 := Lib.hid (H2.out.trans (hb.mono H2.out.size)); have z3 : w.heap.size + 1 < w3.heap.size := Nat.lt_of_lt_of_le x4 hb.size; clear lc0 lc1 lc2 lc3 lc4 gc0 gc1; obtain ⟨lc0, _, lc1, _, lc2, _, lc3, _, lc4, _, _⟩ := X3.out; obtain ⟨gc0, _, gc1, _, _⟩ := Y3.out; clear hb)))
    go_ret2
    exact ⟨rfl, H3.out⟩
  · rw [if_neg h1] at hx
    by_cases h2 : v < 0
    · rw [if_pos h2] at hy
      obtain ⟨a, ha⟩ : ∃ a, nextV (-v) D = a := ⟨_, rfl⟩
      obtain ⟨b, hb⟩ : ∃ b, hiOf ⟨V, A, D, lo, hi⟩ (-v) (p - lo) = b := ⟨_, rfl⟩
      have CA := Lib.hid fun W => ahead_any HRL.out (room := p - lo) (by omega) (by omega) (by omega) (by omega) ha hb W
      rw [hb] at hx
      rw [ha] at hy
      clear ha hb s5
      have e1 : IntKind.i64.wrap (p - lo) = p - lo := IntWalk.i64_in _ (by omega)
      have e2 : IntKind.i64.wrap (-v) = -v := IntWalk.i64_in _ (by omega)
      have e3 : IntKind.i64.wrap (-a) = -a := IntWalk.i64_in _ (by omega)
      have e4 : IntKind.i64.wrap (-b) = -b := IntWalk.i64_in _ (by omega)
      have HX := Lib.hid (And.intro hx hy)
      clear hx hy hmm
      go_enter Try.func20, Try.ntmps20
      go_wp2_with (first | (go_at_call 26; ((with_reducible refine (CG.out _).mono ?_); rintro e w2 ⟨rfl, hb⟩; obtain ⟨x1, x2, x3, x4⟩ := k.boxes2 hb; have X2 := Lib.hid x1; have Y2 := Lib.hid x2; have H2 := Lib.hid x3; obtain ⟨lc0, _, lc1, _, lc2, _, lc3, _, lc4, _, _⟩ := x1; obtain ⟨gc0, _, gc1, _, _⟩ := x2; clear hb x3)) | (go_at_call 41; ((with_reducible refine (CA.out _).mono ?_); rintro e w3 ⟨rfl, hb⟩; have X3 := Lib.hid (X2.out.below hb (by omega)); have Y3 := Lib.hid (Y2.out.below hb (by omega)); have H3 := Lib.hid (H2.out.trans (hb.mono H2.out.size)); have z3 : w.heap.size + 1 < w3.heap.size := Nat.lt_of_lt_of_le x4 hb.size; clear lc0 lc1 lc2 lc3 lc4 gc0 gc1; obtain ⟨lc0, _, lc1, _, lc2, _, lc3, _, lc4, _, _⟩ := X3.out; obtain ⟨gc0, _, gc1, _, _⟩ := Y3.out; clear hb)))
      go_ret2
      exact ⟨two_eq HX.out.1 HX.out.2, H3.out⟩
    · have e : v = 0 := by omega
      rw [if_neg h2] at hy
      rw [e] at hx hy
      rw [show -(0 : Int) = 0 from rfl] at hx
      have ez : nextV 0 D = 0 := nextV_zero r5
      obtain ⟨b, hb⟩ : ∃ b, hiOf ⟨V, A, D, lo, hi⟩ 0 (p - lo) = b := ⟨_, rfl⟩
      have CA := Lib.hid fun W => ahead_any HRL.out (room := hi - p) (by omega) (by omega) (by omega) (by omega) ez hy W
      have CB := Lib.hid fun W => ahead_any HRL.out (room := p - lo) (by omega) (by omega) (by omega) (by omega) ez hb W
      rw [hb] at hx
      clear ez hb hy s5 e
      have e1 : IntKind.i64.wrap (p - lo) = p - lo := IntWalk.i64_in _ (by omega)
      have e2 : IntKind.i64.wrap (hi - p) = hi - p := IntWalk.i64_in _ (by omega)
      have e4 : IntKind.i64.wrap (-b) = -b := IntWalk.i64_in _ (by omega)
      have HX := Lib.hid hx
      clear hx hmm
      go_enter Try.func20, Try.ntmps20
      go_wp2_with (first | (go_at_call 26; ((with_reducible refine (CG.out _).mono ?_); rintro e w2 ⟨rfl, hb⟩; obtain ⟨x1, x2, x3, x4⟩ := k.boxes2 hb; have X2 := Lib.hid x1; have Y2 := Lib.hid x2; have H2 := Lib.hid x3; obtain ⟨lc0, _, lc1, _, lc2, _, lc3, _, lc4, _, _⟩ := x1; obtain ⟨gc0, _, gc1, _, _⟩ := x2; clear hb x3)) | (go_at_call 41; ((with_reducible refine (CA.out _).mono ?_); rintro e w3 ⟨rfl, hb⟩; have X3 := Lib.hid (X2.out.below hb (by omega)); have Y3 := Lib.hid (Y2.out.below hb (by omega)); have H3 := Lib.hid (H2.out.trans (hb.mono H2.out.size)); have z3 : w.heap.size + 1 < w3.heap.size := Nat.lt_of_lt_of_le x4 hb.size; clear lc0 lc1 lc2 lc3 lc4 gc0 gc1; obtain ⟨lc0, _, lc1, _, lc2, _, lc3, _, lc4, _, _⟩ := X3.out; obtain ⟨gc0, _, gc1, _, _⟩ := Y3.out; clear hb)) | (go_at_call 41; ((with_reducible refine (CB.out _).mono ?_); rintro e w4 ⟨rfl, hb⟩; have X4 := Lib.hid (X3.out.below hb (by omega)); have Y4 := Lib.hid (Y3.out.below hb (by omega)); have H4 := Lib.hid (H3.out.trans (hb.mono H3.out.size)); have z4 : w.heap.size + 1 < w4.heap.size := Nat.lt_of_lt_of_le z3 hb.size; clear lc0 lc1 lc2 lc3 lc4 gc0 gc1; obtain ⟨lc0, _, lc1, _, lc2, _, lc3, _, lc4, _, _⟩ := X4.out; obtain ⟨gc0, _, gc1, _, _⟩ := Y4.out; clear hb)))
      go_ret2
      exact ⟨two_eq HX.out rfl, H4.out⟩
set_option maxHeartbeats 4000000 in
theorem may_no' {V A D lo hi p v : Int} (hl : WideL ⟨V, A, D, lo, hi⟩) (hp : Wide p) (hv : Wide v) (h : ¬ (RightL ⟨V, A, D, lo, hi⟩ ∧ SafeP ⟨V, A, D, lo, hi⟩ p v)) (w : World) :
    Calls Try.prog 20 #[.agg #[.int .i64 V, .int .i64 A, .int .i64 D, .int .i64 lo, .int .i64 hi], .agg #[.int .i64 p, .int .i64 v]] w fun e w' => e = .returned (.tuple #[.int .i64 0, .int .i64 0]) ∧ Below w.heap.size w w' := by
  have CG := Lib.hid fun W => goes_any hl hp hv (safe_no h) W
  clear hl hp hv h
  go_enter Try.func20, Try.ntmps20
  go_wp2_with (go_at_call 26; ((with_reducible refine (CG.out _).mono ?_); rintro e w2 ⟨rfl, hb⟩; obtain ⟨x1, x2, x3, x4⟩ := k.boxes2 hb; have X2 := Lib.hid x1; have Y2 := Lib.hid x2; have H2 := Lib.hid x3; obtain ⟨lc0, _, lc1, _, lc2, _, lc3, _, lc4, _, _⟩ := x1; obtain ⟨gc0, _, gc1, _, _⟩ := x2; clear hb x3))
  go_ret2
  exact ⟨rfl, H2.out⟩
set_option maxHeartbeats 4000000 in
theorem step_is {V A D lo hi p v x X : Int} (hr : RightL ⟨V, A, D, lo, hi⟩) (hs : SafeP ⟨V, A, D, lo, hi⟩ p v) (hX : stepV ⟨V, A, D, lo, hi⟩ p v x = X) (w : World) :
    Calls Try.prog 13 #[.agg #[.int .i64 V, .int .i64 A, .int .i64 D, .int .i64 lo, .int .i64 hi], .agg #[.int .i64 p, .int .i64 v], .int .i64 x] w fun e w' => e = .returned (.agg #[.int .i64 (p + X), .int .i64 X]) ∧ Below w.heap.size w w' := by
  have hw := wide_safe hr hs
  have CG := Lib.hid fun W => goes_any (wide_right hr) hw.1 hw.2 (safe_yes hr hs) W
  clear hw
  have hmm := may_le hr hs
  obtain ⟨a, ha⟩ : ∃ a, mayLo ⟨V, A, D, lo, hi⟩ p v = a := ⟨_, rfl⟩
  obtain ⟨b, hb⟩ : ∃ b, mayHi ⟨V, A, D, lo, hi⟩ p v = b := ⟨_, rfl⟩
  have CM := Lib.hid fun W => may_is hr hs ha hb W
  unfold stepV at hX
  rw [ha, hb] at hX hmm
  have CN := Lib.hid fun W => near_is hmm.1 hX W
  have hXb := clamp_mid (n := x) hmm.1
  rw [hX] at hXb
  obtain ⟨r1, r2, r3, r4, r5, r6, r7, r8, r9⟩ := hr
  obtain ⟨s1, s2, s3, s4, s5⟩ := hs
  dsimp only at r1 r2 r3 r4 r5 r6 r7 r8 r9 s1 s2
  clear ha hb hX s5
  have e1 : IntKind.i64.wrap (p + X) = p + X := IntWalk.i64_in _ (by omega)
  go_enter Try.func13, Try.ntmps13
  go_wp2_with (first | (go_at_call 26; ((with_reducible refine (CG.out _).mono ?_); rintro e w2 ⟨rfl, hb⟩; obtain ⟨x1, x2, x5, x3, x4⟩ := k.boxes3 hb; have X2 := Lib.hid x1; have Y2 := Lib.hid x2; have R2 := Lib.hid x5; have H2 := Lib.hid x3; obtain ⟨lc0, _, lc1, _, lc2, _, lc3, _, lc4, _, _⟩ := x1; obtain ⟨gc0, _, gc1, _, _⟩ := x2; obtain ⟨rc0, rf0, rc1, rf1, _⟩ := x5; clear hb x3)) | (go_at_call 20; ((with_reducible refine (CM.out _).mono ?_); rintro e w3 ⟨rfl, hb⟩; have X3 := Lib.hid (X2.out.below hb (by omega)); have Y3 := Lib.hid (Y2.out.below hb (by omega)); have R3 := Lib.hid (R2.out.below hb (by omega)); have H3 := Lib.hid (H2.out.trans (hb.mono H2.out.size)); have z3 : w.heap.size + 2 < w3.heap.size := Nat.lt_of_lt_of_le x4 hb.size; clear lc0 lc1 lc2 lc3 lc4 gc0 gc1 rc0 rf0 rc1 rf1; obtain ⟨lc0, _, lc1, _, lc2, _, lc3, _, lc4, _, _⟩ := X3.out; obtain ⟨gc0, _, gc1, _, _⟩ := Y3.out; obtain ⟨rc0, rf0, rc1, rf1, _⟩ := R3.out; clear hb)) | (go_at_call 27; ((with_reducible refine (CN.out _).mono ?_); rintro e w9 ⟨rfl, rfl⟩)))
  refine bodyPost_ret (v := .agg #[.int .i64 (p + X), .int .i64 X]) (by simp [results, Try.results13, go_sem, rc0, rc1]) rfl ⟨rfl, ?_⟩
  repeat (first | with_reducible exact H3.out | (with_reducible refine Below.setCell ?_ ?_ _; rotate_left 1; focus (first | (simp; done) | (simp; omega) | omega)))
set_option maxHeartbeats 4000000 in
theorem step_no' {V A D lo hi p v : Int} (hl : WideL ⟨V, A, D, lo, hi⟩) (hp : Wide p) (hv : Wide v) (h : ¬ (RightL ⟨V, A, D, lo, hi⟩ ∧ SafeP ⟨V, A, D, lo, hi⟩ p v)) (x : Int) (w : World) :
    Calls Try.prog 13 #[.agg #[.int .i64 V, .int .i64 A, .int .i64 D, .int .i64 lo, .int .i64 hi], .agg #[.int .i64 p, .int .i64 v], .int .i64 x] w fun e w' => e = .returned (.agg #[.int .i64 p, .int .i64 v]) ∧ Below w.heap.size w w' := by
  have CG := Lib.hid fun W => goes_any hl hp hv (safe_no h) W
  clear hl hp hv h
  go_enter Try.func13, Try.ntmps13
  go_wp2_with (go_at_call 26; ((with_reducible refine (CG.out _).mono ?_); rintro e w2 ⟨rfl, hb⟩; obtain ⟨x1, x2, x5, x3, x4⟩ := k.boxes3 hb; have X2 := Lib.hid x1; have Y2 := Lib.hid x2; have R2 := Lib.hid x5; have H2 := Lib.hid x3; obtain ⟨lc0, _, lc1, _, lc2, _, lc3, _, lc4, _, _⟩ := x1; obtain ⟨gc0, _, gc1, _, _⟩ := x2; obtain ⟨rc0, rf0, rc1, rf1, _⟩ := x5; clear hb x3))
  refine bodyPost_ret (v := .agg #[.int .i64 p, .int .i64 v]) (by simp [results, Try.results13, go_sem, rc0, rc1]) rfl ⟨rfl, ?_⟩
  repeat (first | with_reducible exact H2.out | (with_reducible refine Below.setCell ?_ ?_ _; rotate_left 1; focus (first | (simp; done) | (simp; omega) | omega)))
end Go.Proofs.Ytaohidaijlcplaa.gn
