/- What layer frame's PutSet answers. No condition beside the kinds' own bounds. -/
import Derived.Test.YtdfgjfojneoljaaTPutP
namespace Go.Proofs.Ytdfgjfojneoljaa.t
open Go.ChangeShapes Go.WideShapes Go.ChangeAt Go.RowKit Go.Proofs.Ytdfgjfojneoljaa.s
set_option linter.unusedVariables false

theorem set_new (sq wd : BitVec 8) (p : Int) (hm : v8 wd ≤ 7) (w : World) :
    Calls Try.prog 30 #[.agg #[.int .i64 (v8 sq), .int .i64 (v8 wd), .int .i64 p]] w (PutNew signS sq wd p w) := by
  have c1 := fun W => prog_put_new signS sq wd 7 p hm W
  rw [signS_val] at c1
  have HC := Lib.hid c1
  clear c1
  go_enter Try.func30, Try.ntmps30
  go_wp2_with (go_at_call 43; ((with_reducible refine (HC.out _).mono ?_); rintro e w' ⟨A, cap, rfl, hB, h1, h2, hb, hn⟩))
  go_ret2
  exact ⟨A, cap, rfl, hB, h1, h2, ((Below.refl _ _).alloc (Nat.le_refl _) _).trans (hb.mono (by simp)), hn.mono (by simp)⟩
theorem set_yes (sq wd : BitVec 8) (p : Int) (hm : v8 wd ≤ 7) (w : World) :
    Calls Try.prog 30 #[.agg #[.int .i64 (v8 sq), .int .i64 (v8 wd), .int .i64 p]] w (PutYes signS sq wd p w) :=
  (set_new sq wd p hm w).mono fun _ _ h => h.yes
theorem set_no (seq word p : Int) (h : seq < 0 ∨ 255 < seq ∨ word < 0 ∨ 7 < word) (w : World) :
    Calls Try.prog 30 #[.agg #[.int .i64 seq, .int .i64 word, .int .i64 p]] w (PutNo w) := by
  have c1 := fun W => prog_put_no signS 7 seq word p h W
  rw [signS_val] at c1
  have HC := Lib.hid c1
  clear c1 h
  go_enter Try.func30, Try.ntmps30
  go_wp2_with (go_at_call 43; ((with_reducible refine (HC.out _).mono ?_); rintro e w' ⟨A, cap, rfl, h2, hb⟩))
  go_ret2
  exact ⟨A, cap, rfl, h2, ((Below.refl _ _).alloc (Nat.le_refl _) _).trans (hb.mono (by simp))⟩
end Go.Proofs.Ytdfgjfojneoljaa.t
