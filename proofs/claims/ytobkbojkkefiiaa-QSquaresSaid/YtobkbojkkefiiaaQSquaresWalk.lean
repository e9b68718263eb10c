/- The law QSquares answers true for every number: the square of a root is not above its number, that of the next one is. -/
import Derived.Test.YtobkbojkkefiiaaQAwake
namespace Go.Proofs.Ytobkbojkkefiiaa.qSquares
open Go.ChangeShapes Go.WideShapes Go.ChangeAt Go.RowKit Go.Proofs.Ytobkbojkkefiiaa.q
set_option linter.unusedVariables false

theorem sq_facts (n : Int) (h0 : 0 ≤ n) (h2 : n ≤ 9223372036854775807) : 0 ≤ sqrtV n ∧ sqrtV n ≤ 3037000499 ∧ mulB (sqrtV n) (sqrtV n) = true ∧ mulV (sqrtV n) (sqrtV n) ≤ n ∧
    (mulB (sqrtV n + 1) (sqrtV n + 1) = true → n < mulV (sqrtV n + 1) (sqrtV n + 1)) := by
  have a := isq_le n.toNat
  have b := isq_lt n.toNat
  have c := isq_bound (n := n.toNat) (by omega)
  unfold sqrtV mulB mulV
  generalize isq n.toNat = r at *
  have e1 : (r : Int) * (r : Int) = ((r * r : Nat) : Int) := (Int.natCast_mul r r).symm
  have e2 : ((r : Int) + 1) * ((r : Int) + 1) = (((r + 1) * (r + 1) : Nat) : Int) := by rw [Int.natCast_mul]; rfl
  rw [e1, e2]
  generalize r * r = s at *
  generalize (r + 1) * (r + 1) = t at *
  have hs : rm (s : Int) = true := by rw [rm_iff]; omega
  refine ⟨by omega, by omega, hs, by rw [rv_yes hs]; omega, fun ht => by rw [rv_yes ht]; omega⟩

theorem walk (a0 : Int) (w0 : (Lit.int .i64 a0).wf = true) (w : World) :
    Calls Try.prog 7 #[.int .i64 a0] w fun e w' => e = .returned (.bool true) ∧ Grown w w' := by
  obtain ⟨h1, h2⟩ := wf64 w0
  clear w0
  have cs := fun (w : World) => sqrt_any a0 h1 h2 w
  by_cases hn : a0 < 0
  · have e : sqrtV a0 = 0 := by
      unfold sqrtV; rw [show a0.toNat = 0 by omega]; rfl
    rw [e] at cs
    clear e
    go_enter Try.func7, Try.ntmps7
    go_wp2_with (first | (go_at_call 9; with_reducible refine (awake_any _).mono ?_; rintro e w' ⟨rfl, kd, rfl⟩) | (go_at_call 22; with_reducible refine (cs _).mono ?_; rintro e w' ⟨rfl, rfl⟩))
    go_ret
    exact ⟨rfl, grown_drewN _ _⟩
  · obtain ⟨f1, f2, f3, f4, f5⟩ := sq_facts a0 (by omega) h2
    generalize sqrtV a0 = r at *
    have c1 := fun (w : World) => mul_any r r (by omega) (by omega) (by omega) (by omega) w
    have c2 := fun (w : World) => mul_any (r + 1) (r + 1) (by omega) (by omega) (by omega) (by omega) w
    rw [f3] at c1
    clear f3
    generalize mulV r r = s at *
    generalize mulV (r + 1) (r + 1) = t at *
    generalize mulB (r + 1) (r + 1) = b at *
    cases b
    · clear f5
      go_enter Try.func7, Try.ntmps7
      go_wp2_with (first | (go_at_call 9; with_reducible refine (awake_any _).mono ?_; rintro e w' ⟨rfl, kd, rfl⟩) | (go_at_call 22; with_reducible refine (cs _).mono ?_; rintro e w' ⟨rfl, rfl⟩) | (go_at_call 14; with_reducible refine (c1 _).mono ?_; rintro e w' ⟨rfl, rfl⟩) | (go_at_call 14; with_reducible refine (c2 _).mono ?_; rintro e w' ⟨rfl, rfl⟩))
      go_ret
      exact ⟨rfl, grown_drewN _ _⟩
    · have f6 := f5 rfl
      clear f5
      go_enter Try.func7, Try.ntmps7
      go_wp2_with (first | (go_at_call 9; with_reducible refine (awake_any _).mono ?_; rintro e w' ⟨rfl, kd, rfl⟩) | (go_at_call 22; with_reducible refine (cs _).mono ?_; rintro e w' ⟨rfl, rfl⟩) | (go_at_call 14; with_reducible refine (c1 _).mono ?_; rintro e w' ⟨rfl, rfl⟩) | (go_at_call 14; with_reducible refine (c2 _).mono ?_; rintro e w' ⟨rfl, rfl⟩))
      go_ret
      exact ⟨rfl, grown_drewN _ _⟩
end Go.Proofs.Ytobkbojkkefiiaa.qSquares
