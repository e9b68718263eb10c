/- What the document's functions of single bytes give. No condition but what each line says. -/
import Derived.Test.YthdkkdgjcfjinaaTkSpec
import Derived.Lib.Bytes
namespace Go.Proofs.Ythdkkdgjcfjinaa.tk
open Go.ChangeShapes Go.WideShapes Go.ChangeAt Go.RowKit Go.Proofs.Ythdkkdgjcfjinaa.k Go.Proofs.Ythdkkdgjcfjinaa.rr
set_option linter.unusedVariables false

theorem numB_iff (c : UInt8) : numB c = true ↔ 48 ≤ (c.toNat : Int) ∧ (c.toNat : Int) ≤ 57 := by
  unfold numB
  rw [Bool.and_eq_true, decide_eq_true_iff, decide_eq_true_iff, UInt8.le_iff_toNat_le, UInt8.le_iff_toNat_le]
  simp
  omega
theorem alphaB_iff (c : UInt8) : alphaB c = true ↔ (65 ≤ (c.toNat : Int) ∧ (c.toNat : Int) ≤ 90) ∨ (97 ≤ (c.toNat : Int) ∧ (c.toNat : Int) ≤ 122) := by
  unfold alphaB
  rw [Bool.or_eq_true, Bool.and_eq_true, Bool.and_eq_true, decide_eq_true_iff, decide_eq_true_iff, decide_eq_true_iff, decide_eq_true_iff, UInt8.le_iff_toNat_le, UInt8.le_iff_toNat_le, UInt8.le_iff_toNat_le, UInt8.le_iff_toNat_le]
  simp
  omega
theorem num_any (c : UInt8) (w : World) : Calls Try.prog 20 #[.int .u8 c.toNat] w fun e w' => e = .returned (.bool (numB c)) ∧ w = w' := by
  have hc : (c.toNat : Int) < 256 := by have := c.toNat_lt; omega
  have hi := numB_iff c
  generalize numB c = b at hi ⊢
  generalize (c.toNat : Int) = x at hc hi ⊢
  have HI := Lib.hid hi
  clear hi
  go_enter Try.func20, Try.ntmps20
  go_wp2
  all_goals
    go_ret
    refine ⟨ret_bool ?_, rfl⟩
    have hi := HI.out
    cases b <;> simp at hi ⊢ <;> omega
theorem alpha_any (c : UInt8) (w : World) : Calls Try.prog 18 #[.int .u8 c.toNat] w fun e w' => e = .returned (.bool (alphaB c)) ∧ w = w' := by
  have hc : (c.toNat : Int) < 256 := by have := c.toNat_lt; omega
  have hi := alphaB_iff c
  generalize alphaB c = b at hi ⊢
  generalize (c.toNat : Int) = x at hc hi ⊢
  have HI := Lib.hid hi
  clear hi
  go_enter Try.func18, Try.ntmps18
  go_wp2
  all_goals
    go_ret
    refine ⟨ret_bool ?_, rfl⟩
    have hi := HI.out
    cases b <;> simp at hi ⊢ <;> omega
theorem u8_eq (c : UInt8) (n : Nat) (hn : n < 256) : ((c.toNat : Int) == (n : Int)) = (c == UInt8.ofNat n) := by
  rw [Bool.eq_iff_iff, beq_iff_eq, beq_iff_eq]
  constructor
  · intro h
    rw [← show c.toNat = n by omega]
    simp
  · rintro rfl
    rw [UInt8.toNat_ofNat']
    simp
    omega
theorem body_any (c : UInt8) (w : World) : Calls Try.prog 19 #[.int .u8 c.toNat] w fun e w' => e = .returned (.bool (bodyB c)) ∧ w = w' := by
  have AA := Lib.hid fun W => alpha_any c W
  have NN := Lib.hid fun W => num_any c W
  have hu := u8_eq c 95 (by omega)
  unfold bodyB
  rw [show (95 : UInt8) = UInt8.ofNat 95 from rfl, ← hu]
  clear hu
  go_enter Try.func19, Try.ntmps19
  go_wp2_with (first | (go_at_call 18; (with_reducible refine (AA.out _).mono ?_); rintro e w1 ⟨rfl, rfl⟩) | (go_at_call 20; (with_reducible refine (NN.out _).mono ?_); rintro e w1 ⟨rfl, rfl⟩))
  all_goals
    go_ret
    refine ⟨ret_bool ?_, rfl⟩
    simp_all
end Go.Proofs.Ythdkkdgjcfjinaa.tk
