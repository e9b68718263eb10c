/- What servitorref09's May (either way) and Step answer, of right limits and a safe generator; what was in memory is as it was. No condition beyond that. -/
import Derived.Test.YtmfigpjofakdnaaGMay
namespace Go.Proofs.Ytmfigpjofakdnaa.gn
open Go.ChangeShapes Go.WideShapes Go.ChangeAt Go.RowKit Go.Proofs.Ytmfigpjofakdnaa.k Go.Proofs.Ytmfigpjofakdnaa.b Go.Proofs.Ytmfigpjofakdnaa
set_option linter.unusedVariables false

theorem may_turn {l : L} {p v : Int} (h : v < 0) : mayLo l p v = -mayHi (turnL l) (-p) (-v) ∧ mayHi l p v = -mayLo (turnL l) (-p) (-v) := by
  unfold mayLo mayHi
  rw [if_neg (show ¬ 0 < v by omega), if_neg (show ¬ -v < 0 by omega), if_pos h, if_pos (show 0 < -v by omega)]
  refine ⟨?_, rfl⟩
  show -hiOf l (-v) (p - l.lo) = -hiOf (turnL l) (-v) (-l.lo - -p)
  rw [show -l.lo - -p = p - l.lo by omega]
  rfl
set_option maxHeartbeats 2000000 in
theorem refmay_down (l : L) (hr : RightL l) (p v : Int) (hs : SafeP l p v) (hv : v < 0) (w : World) :
    Calls Try.prog 19 #[.agg #[.int .i64 l.V, .int .i64 l.A, .int .i64 l.D, .int .i64 l.lo, .int .i64 l.hi], .agg #[.int .i64 p, .int .i64 v]] w fun e w' =>
      e = .returned (.tuple #[.int .i64 (mayLo l p v), .int .i64 (mayHi l p v)]) ∧ Below w.heap.size w w' := by
  have hC := fun W => refmay_up (turnL l) (turn_right hr) (-p) (-v) (turn_safe hr hs) (by omega) W
  have hm := may_le (turn_right hr) (turn_safe hr hs)
  have ht := may_turn (l := l) (p := p) hv
  have hT := fun W => turned_any l.V l.A l.D l.lo l.hi p v (by obtain ⟨_, _, _, _, _, _, _, _, _⟩ := hr; omega) (by obtain ⟨_, _, _, _, _, _, _, _, _⟩ := hr; omega) (by obtain ⟨_, _, _, _, _, _, _, _, _⟩ := hr; have := hs.1; have := hs.2.1; omega) (by have := hs.2.2.1; have := hs.2.2.2.1; omega) W
  unfold turnL at hC
  dsimp only at hC
  change ∀ W, Calls _ _ _ _ fun e w' => e = .returned (.tuple #[.int .i64 (mayLo (turnL l) (-p) (-v)), .int .i64 (mayHi (turnL l) (-p) (-v))]) ∧ _ at hC
  generalize mayLo (turnL l) (-p) (-v) = a at *
  generalize mayHi (turnL l) (-p) (-v) = b at *
  have HT := Lib.hid hT
  have HC := Lib.hid hC
  have HV := Lib.hid ht
  obtain ⟨m1, m2, m3⟩ := hm
  obtain ⟨V, A, D, lo, hi⟩ := l
  dsimp only at HT HC ⊢
  clear hC hT ht hr hs
  go_enter Try.func19, Try.ntmps19
  go_wp2_with (first
    | (go_at_call 35; ((with_reducible refine (HT.out _).mono ?_); rintro e w1 ⟨rfl, hb⟩; have H1 := Lib.hid (k.boxes2 hb).2.2.1; clear hb))
    | (go_at_call 19; ((with_reducible refine (HC.out _).mono ?_); rintro e w2 ⟨rfl, hb⟩; have H2 := Lib.hid (H1.out.trans (hb.mono H1.out.size)); clear hb)))
  go_ret2
  exact ⟨ret_two HV.out.1.symm HV.out.2.symm, H2.out⟩
theorem refmay_any (l : L) (hr : RightL l) (p v : Int) (hs : SafeP l p v) (w : World) :
    Calls Try.prog 19 #[.agg #[.int .i64 l.V, .int .i64 l.A, .int .i64 l.D, .int .i64 l.lo, .int .i64 l.hi], .agg #[.int .i64 p, .int .i64 v]] w fun e w' =>
      e = .returned (.tuple #[.int .i64 (mayLo l p v), .int .i64 (mayHi l p v)]) ∧ Below w.heap.size w w' := by
  by_cases h : v < 0
  · exact refmay_down l hr p v hs h w
  · exact refmay_up l hr p v hs (by omega) w
set_option maxHeartbeats 2000000 in
theorem refstep_any (l : L) (hr : RightL l) (p v x : Int) (hs : SafeP l p v) (w : World) :
    Calls Try.prog 20 #[.agg #[.int .i64 l.V, .int .i64 l.A, .int .i64 l.D, .int .i64 l.lo, .int .i64 l.hi], .agg #[.int .i64 p, .int .i64 v], .int .i64 x] w fun e w' =>
      e = .returned (.agg #[.int .i64 (p + stepV l p v x), .int .i64 (stepV l p v x)]) ∧ Below w.heap.size w w' := by
  have hC := fun W => refmay_any l hr p v hs W
  have hm := may_le hr hs
  have p1 : -1099511627776 ≤ p ∧ p ≤ 1099511627776 := by obtain ⟨_, _, _, _, _, _, _, _, _⟩ := hr; have := hs.1; have := hs.2.1; omega
  obtain ⟨X, hX⟩ : ∃ X, stepV l p v x = X := ⟨_, rfl⟩
  rw [hX]
  unfold stepV clamp at hX
  generalize mayLo l p v = a at *
  generalize mayHi l p v = b at *
  obtain ⟨m1, m2, m3⟩ := hm
  obtain ⟨p1, p2⟩ := p1
  have HC := Lib.hid hC
  obtain ⟨V, A, D, lo, hi⟩ := l
  dsimp only at HC ⊢
  clear hC hr hs
  by_cases h1 : x < a
  · have hXX : X = a := by rw [if_pos h1] at hX; exact hX.symm
    subst hXX
    have h2 : ¬ b < X := by omega
    clear hX
    go_enter Try.func20, Try.ntmps20
    go_wp2_with (go_at_call 19; ((with_reducible refine (HC.out _).mono ?_); rintro e w1 ⟨rfl, hb⟩; obtain ⟨x1, x2, x3, x4, x5⟩ := k.boxes3 hb; have H1 := Lib.hid x4; obtain ⟨gc0, _, gc1, _, _⟩ := x2; obtain ⟨rc0, rf0, rc1, rf1, _⟩ := x3; clear hb x1 x4))
    refine bodyPost_ret (v := .agg #[.int .i64 (p + X), .int .i64 X]) (by simp [results, Try.results20, go_sem, rc0, rc1]) rfl ⟨rfl, ?_⟩
    repeat (first | with_reducible exact H1.out | (with_reducible refine Below.setCell ?_ ?_ _; rotate_left 1; focus (first | (simp; done) | (simp; omega) | omega)))
  · by_cases h2 : b < x
    · have hXX : X = b := by rw [if_neg h1, if_pos h2] at hX; exact hX.symm
      subst hXX
      clear hX
      go_enter Try.func20, Try.ntmps20
      go_wp2_with (go_at_call 19; ((with_reducible refine (HC.out _).mono ?_); rintro e w1 ⟨rfl, hb⟩; obtain ⟨x1, x2, x3, x4, x5⟩ := k.boxes3 hb; have H1 := Lib.hid x4; obtain ⟨gc0, _, gc1, _, _⟩ := x2; obtain ⟨rc0, rf0, rc1, rf1, _⟩ := x3; clear hb x1 x4))
      refine bodyPost_ret (v := .agg #[.int .i64 (p + X), .int .i64 X]) (by simp [results, Try.results20, go_sem, rc0, rc1]) rfl ⟨rfl, ?_⟩
      repeat (first | with_reducible exact H1.out | (with_reducible refine Below.setCell ?_ ?_ _; rotate_left 1; focus (first | (simp; done) | (simp; omega) | omega)))
    · have hXX : X = x := by rw [if_neg h1, if_neg h2] at hX; exact hX.symm
      subst hXX
      clear hX
      go_enter Try.func20, Try.ntmps20
      go_wp2_with (go_at_call 19; ((with_reducible refine (HC.out _).mono ?_); rintro e w1 ⟨rfl, hb⟩; obtain ⟨x1, x2, x3, x4, x5⟩ := k.boxes3 hb; have H1 := Lib.hid x4; obtain ⟨gc0, _, gc1, _, _⟩ := x2; obtain ⟨rc0, rf0, rc1, rf1, _⟩ := x3; clear hb x1 x4))
      refine bodyPost_ret (v := .agg #[.int .i64 (p + X), .int .i64 X]) (by simp [results, Try.results20, go_sem, rc0, rc1]) rfl ⟨rfl, ?_⟩
      repeat (first | with_reducible exact H1.out | (with_reducible refine Below.setCell ?_ ?_ _; rotate_left 1; focus (first | (simp; done) | (simp; omega) | omega)))
end Go.Proofs.Ytmfigpjofakdnaa.gn
