/- The given function's rows of statements. Conditions: statements such as a text could give; their text has at most 2^47 bytes. -/
import Derived.Test.YtdefgghhkknnpaaGreatDoorShRoB
import Derived.Test.YtdefgghhkknnpaaGreatDoorShRoC
import Derived.Test.YtdefgghhkknnpaaGreatDoorShRoD
import Derived.Test.YtdefgghhkknnpaaGreatDoorShRoE
import Derived.Test.YtdefgghhkknnpaaGreatDoorShRoF
import Derived.Test.YtdefgghhkknnpaaGreatDoorShRoG
namespace Go.Proofs.YtdefgghhkknnpaaGreatDoor.sh
open Go.ChangeShapes Go.WideShapes Go.ChangeAt Go.RowKit Go.Proofs.YtdefgghhkknnpaaGreatDoor Go.Proofs.YtdefgghhkknnpaaGreatDoor.k Go.Proofs.YtdefgghhkknnpaaGreatDoor.rr Go.Proofs.YtdefgghhkknnpaaGreatDoor.tk Go.Proofs.YtdefgghhkknnpaaGreatDoor.tr
set_option linter.unusedVariables false
set_option linter.unusedSimpArgs false

theorem row_step {N : Nat} (IH : RoS N) : RoS (N + 1) := by
  intro x hN hr hi hb hl h w hx
  obtain ⟨op, nm, dst, val, cs, ls, fs, bs, ln⟩ := x
  have hs : SizeOf.sizeOf bs ≤ N := by simp only [St.mk.sizeOf_spec] at hN; omega
  have ho : inS9 op = true := by
    have h2 := hb
    rw [stB_fit, Bool.and_eq_true] at h2
    exact h2.1
  unfold inS9 at ho
  simp only [Bool.and_eq_true, decide_eq_true_eq] at ho
  have RW := rows_of IH
  rcases (show op = 1 ∨ op = 2 ∨ op = 3 ∨ op = 4 ∨ op = 5 ∨ op = 6 ∨ op = 7 ∨ op = 8 ∨ op = 9 by omega) with rfl | rfl | rfl | rfl | rfl | rfl | rfl | rfl | rfl
  · exact row_1 RW hx hs hr hi hb hl
  · exact row_2 RW hx hs hr hi hb hl
  · exact row_3 RW hx hs hr hi hb hl
  · exact row_4 RW hx hs hr hi hb hl
  · exact row_5 RW hx hs hr hi hb hl
  · exact row_6 RW hx hs hr hi hb hl
  · exact row_7 RW hx hs hr hi hb hl
  · exact row_8 RW hx hs hr hi hb hl
  · exact row_9 RW hx hs hr hi hb hl
theorem row_all_any : ∀ N, RoS N
  | 0 => fun _ h => absurd h (by omega)
  | N + 1 => row_step (row_all_any N)
theorem refrows_any {L : List St} (hr : rSs L) (hi : inSs L) (hb : stsB L = true) (hl : (stsS L).length ≤ lim) {s : Sl} {w : World} (hx : StL w w.heap.size s L) : Calls Tryz.prog 22 #[s.v] w fun e w' => e = .returned (sv (stsS L)) ∧ Below w.heap.size w w' :=
  rows_of (row_all_any _) L (Nat.le_refl _) hr hi hb hl s w hx
end Go.Proofs.YtdefgghhkknnpaaGreatDoor.sh
