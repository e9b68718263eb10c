/- What servitorref02's Copy answers: the same bytes in a block of the call's own. No condition but their number. -/
import Derived.Test.YtbecbiglinkijaaSBytes
namespace Go.Proofs.Ytbecbiglinkijaa.s
open Go.ChangeShapes Go.WideShapes Go.ChangeAt Go.RowKit
set_option linter.unusedVariables false

theorem empty_own (w : World) : Own (w.alloc (.cells #[] 5)) w.heap.size (.slice (some ⟨w.heap.size, 0, none⟩) 0 0) [] :=
  World.ownsRow_made w #[] 0 (Nat.le_refl _) (by unfold maxLen; omega) rfl

set_option maxHeartbeats 400000 in
/-- what servitorref02's Copy answers: the same bytes in a block of the call's own -/
theorem copy_any (l : List (BitVec 8)) (n : Nat) (hn : l.length = n) (hl : l.length ≤ 10000) (B : Nat) (A : Option Addr) (cap : Nat) (W : World) (h : Bytes W B A l) (hB : B ≤ W.heap.size) (hnil : A = none → l.length = 0 ∧ cap = 0) :
    Calls Try.prog 15 #[.slice A n cap] W fun e w' => ∃ v, e = .returned v ∧ Own w' W.heap.size v l ∧ Below W.heap.size W w' := by
  have hO := Lib.hid (empty_own W)
  have HA := Lib.hid (h.below ((Below.refl B W).alloc hB (.cells #[] 5)))
  have HL := Lib.hid hl
  have HN := Lib.hid hn
  have HX := Lib.hid hnil
  clear h hl hn hnil
  go_enter Try.func15, Try.ntmps15
  go_wp2_with (at_builtin; refine wpList_append_bytes _ rfl (.tmp 3) (.tmp 4) rfl W.heap.size _ [] rfl hO.out B A n cap l HN.out rfl HA.out HX.out (by have := HL.out; simp; omega) (by simp) ?_; intro v1 w1 hown1 hg1 hat1; have HW := Lib.hid hown1; have HG := Lib.hid hg1; clear hown1 hg1 hat1)
  go_ret
  exact ⟨v1, rfl, by simpa using HW.out, ((Below.refl _ _).alloc (Nat.le_refl _) _).grown HG.out (by simp) (by intro k hk; cases hk; exact Nat.le_refl _)⟩
end Go.Proofs.Ytbecbiglinkijaa.s
