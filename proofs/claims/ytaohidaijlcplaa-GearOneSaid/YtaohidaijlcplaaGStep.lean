/- What servitorref09's May (either way) and Step answer, of right limits and a safe generator; what was in memory is as it was. No condition beyond that. -/
import Derived.Test.YtaohidaijlcplaaGMay
namespace Go.Proofs.Ytaohidaijlcplaa.gn
open Go.ChangeShapes Go.WideShapes Go.ChangeAt Go.RowKit Go.Proofs.Ytaohidaijlcplaa.k Go.Proofs.Ytaohidaijlcplaa.b Go.Proofs.Ytaohidaijlcplaa
set_option linter.unusedVariables false

theorem may_turn {l : L} {p v : Int} (h : v < 0) : mayLo l p v = -mayHi (turnL l) (-p) (-v) ∧ mayHi l p v = -mayLo (turnL l) (-p) (-v) := by
  unfold mayLo mayHi
  rw [if_neg (show ¬ 0 < v by omega), if_neg (show ¬ -v < 0 by omega), if_pos h, if_pos (show 0 < -v by omega)]
  refine ⟨?_, rfl⟩
  show -hiOf l (-v) (p - l.lo) = -hiOf (turnL l) (-v) (-l.lo - -p)
  rw [show -l.lo - -p = p - l.lo by omega]
  rfl
set_option maxHeartbeats 2000000 in
theorem refmay_down (l : L) (hr : RightL l) (p v : Int) (hs : SafeP l p v) (hv : v < 0) (w : World) :
    Calls Try.prog 23 #[.agg #[.int .i64 l.V, .int .i64 l.A, .int .i64 l.D, .int .i64 l.lo, .int .i64 l.hi], .agg #[.int .i64 p, .int .i64 v]] w fun e w' =>
      e = .returned (.tuple #[.int .i64 (mayLo l p v), .int .i64 (mayHi l p v)]) ∧ Below w.heap.size w w' := by
  have hC := fun W => refmay_up (turnL l) (turn_right hr) (-p) (-v) (turn_safe hr hs) (by omega) W
  have hm := may_le (turn_right hr) (turn_safe hr hs)
  have ht := may_turn (l := l) (p := p) hv
  have hT := fun W => turned_any l.V l.A l.D l.lo l.hi p v (by obtain ⟨_, _, _, _, _, _, _, _, _⟩ := hr; omega) (by obtain ⟨_, _, _, _, _, _, _, _, _⟩ := hr; omega) (by obtain ⟨_, _, _, _, _, _, _, _, _⟩ := hr; have := hs.1; have := hs.2.1; omega) (by have := hs.2.2.1; have := hs.2.2.2.1; omega) W
  unfold turnL at hC
  dsimp only at hC
  change ∀ W, Calls _ _ _ _ fun e w' => e = .returned (.tuple #[.int .i64 (mayLo (turnL l) (-p) (-v)), .int .i64 (mayHi (turnL l) (-p) (-v))]) ∧ _ at hC
  generalize mayLo (turnL l) (-p) (-v) = a at *
  generalize mayHi (turnL l) (-p) (-v) = b at *
  have HT := Lib.hid hT
  have HC := Lib.hid hC
  have HV := Lib.hid ht
  obtain ⟨m1, m2, m3⟩ := hm
  obtain ⟨V, A, D, lo, hi⟩ := l
  dsimp only at HT HC ⊢
  clear hC hT ht hr hs
  go_enter Try.func23, Try.ntmps23
  go_wp2_with (first
    | (go_at_call 43; ((with_reducible refine (HT.out _).mono ?_); rintro e w1 ⟨rfl, hb⟩; have H1 := Lib.hid (k.boxes2 hb).2.2.1; clear hb))
    | (go_at_call 23; ((with_reducible refine (HC.out _).mono ?_); rintro e w2 ⟨rfl, hb⟩; have H2 := Lib.hid (H1.out.trans (hb.mono H1.out.size)); clear hb)))
  go_ret2
  exact ⟨ret_two HV.out.1.symm HV.out.2.symm, H2.out⟩
theorem refmay_any (l : L) (hr : RightL l) (p v : Int) (hs : SafeP l p v) (w : World) :
    Calls Try.prog 23 #[.agg #[.int .i64 l.V, .int .i64 l.A, .int .i64 l.D, .int .i64 l.lo, .int .i64 l.hi], .agg #[.int .i64 p, .int .i64 v]] w fun e w' =>
      e = .returned (.tuple #[.int .i64 (mayLo l p v), .int .i64 (mayHi l p v)]) ∧ Below w.heap.size w w' := by
  by_cases h : v < 0
  · exact refmay_down l hr p v hs h w
  · exact refmay_up l hr p v hs (by omega) w
end Go.Proofs.Ytaohidaijlcplaa.gn
