/- What the landed tok's functions of bytes, words and signs give, in the document's words. Condition: a text has at most 20000 bytes. -/
import Derived.Test.YthdkkdgjcfjinaaTkShelf
namespace Go.Proofs.Ythdkkdgjcfjinaa.tk
open Go.ChangeShapes Go.WideShapes Go.ChangeAt Go.RowKit Go.Proofs.Ythdkkdgjcfjinaa.k Go.Proofs.Ythdkkdgjcfjinaa.rr
set_option linter.unusedVariables false

theorem isDigit_any (c : UInt8) (w : World) : Calls Try.prog 32 #[.int .u8 c.toNat] w fun e w' => e = .returned (.bool (numB c)) ∧ w = w' := by
  have hc : (c.toNat : Int) < 256 := by have := c.toNat_lt; omega
  have hi := numB_iff c
  generalize numB c = b at hi ⊢
  generalize (c.toNat : Int) = x at hc hi ⊢
  have HI := Lib.hid hi
  clear hi
  go_enter Try.func32, Try.ntmps32
  go_wp2
  all_goals
    go_ret
    refine ⟨ret_bool ?_, rfl⟩
    have hi := HI.out
    cases b <;> simp at hi ⊢ <;> omega
theorem isLetter_any (c : UInt8) (w : World) : Calls Try.prog 30 #[.int .u8 c.toNat] w fun e w' => e = .returned (.bool (alphaB c)) ∧ w = w' := by
  have hc : (c.toNat : Int) < 256 := by have := c.toNat_lt; omega
  have hi := alphaB_iff c
  generalize alphaB c = b at hi ⊢
  generalize (c.toNat : Int) = x at hc hi ⊢
  have HI := Lib.hid hi
  clear hi
  go_enter Try.func30, Try.ntmps30
  go_wp2
  all_goals
    go_ret
    refine ⟨ret_bool ?_, rfl⟩
    have hi := HI.out
    cases b <;> simp at hi ⊢ <;> omega
theorem inName_any (c : UInt8) (w : World) : Calls Try.prog 39 #[.int .u8 c.toNat] w fun e w' => e = .returned (.bool (bodyB c)) ∧ w = w' := by
  have AA := Lib.hid fun W => isLetter_any c W
  have NN := Lib.hid fun W => isDigit_any c W
  have hu := u8_eq c 95 (by omega)
  unfold bodyB
  rw [show (95 : UInt8) = UInt8.ofNat 95 from rfl, ← hu]
  clear hu
  go_enter Try.func39, Try.ntmps39
  go_wp2_with (first | (go_at_call 30; (with_reducible refine (AA.out _).mono ?_); rintro e w1 ⟨rfl, rfl⟩) | (go_at_call 32; (with_reducible refine (NN.out _).mono ?_); rintro e w1 ⟨rfl, rfl⟩))
  all_goals
    go_ret
    refine ⟨ret_bool ?_, rfl⟩
    simp_all
/-- a digit's value, 16 of what is none -/
def digT (c : UInt8) : Nat := if numB c = true then c.toNat - 48 else if 65 ≤ c ∧ c ≤ 70 then c.toNat - 55 else 16
theorem digT_le (c : UInt8) : digT c ≤ 16 := by
  unfold digT
  split
  · rename_i h; have := num_byte h; omega
  · split
    · rename_i h
      have := h.2
      rw [UInt8.le_iff_toNat_le] at this
      have h3 : (70 : UInt8).toNat = 70 := rfl
      omega
    · omega
theorem digT_lt {c : UInt8} {b : Nat} (hb : b ≤ 16) (h : digT c < b) : digV c = digT c := by
  unfold digT digV at *
  split
  · rfl
  · rename_i h1
    rw [if_neg h1] at h
    split
    · rfl
    · rename_i h2
      rw [if_neg h2] at h
      omega
theorem digV_lt {c : UInt8} {b : Nat} (hb : b ≤ 16) : digT c < b ↔ digV c < b := by
  constructor
  · intro h; rw [digT_lt hb h]; exact h
  · intro h
    unfold digT digV at *
    split
    · rename_i h1; rw [if_pos h1] at h; exact h
    · rename_i h1
      rw [if_neg h1] at h
      split
      · rename_i h2; rw [if_pos h2] at h; exact h
      · rename_i h2; rw [if_neg h2] at h; omega
set_option maxHeartbeats 1000000 in
theorem tdigit_any (c : UInt8) (w : World) : Calls Try.prog 42 #[.int .u8 c.toNat] w fun e w' => e = .returned (.int .i64 (digT c)) ∧ w = w' := by
  have hc : (c.toNat : Int) < 256 := by have := c.toNat_lt; omega
  have NN := Lib.hid fun W => isDigit_any c W
  unfold digT
  cases hn : numB c
  · rw [if_neg (by simp)]
    have h65 : (65 ≤ c ∧ c ≤ 70) ↔ (65 ≤ (c.toNat : Int) ∧ (c.toNat : Int) ≤ 70) := by rw [UInt8.le_iff_toNat_le, UInt8.le_iff_toNat_le]; simp; omega
    rw [hn] at NN
    by_cases h : 65 ≤ c ∧ c ≤ 70
    · rw [if_pos h]
      have h2 := h65.1 h
      obtain ⟨v, hv⟩ : ∃ v : Nat, c.toNat - 55 = v + 10 := ⟨c.toNat - 65, by omega⟩
      have hz : (c.toNat : Int) = v + 65 := by omega
      have a1 : (v : Int) ≤ 5 := by omega
      have w1 : IntKind.u8.wrap (v : Int) = v := by rw [IntKind.wrap_u8]; omega
      have w2 : IntKind.i64.wrap (v : Int) = v := by rw [IntKind.wrap_i64]; omega
      have w3 : IntKind.i64.wrap ((v : Int) + 10) = v + 10 := by rw [IntKind.wrap_i64]; omega
      have a2 : 65 ≤ (v : Int) + 65 := by omega
      have a3 : (v : Int) + 65 ≤ 70 := by omega
      rw [hv]
      rw [hz] at NN ⊢
      clear h2 h65 h hv hz hn hc
      go_enter Try.func42, Try.ntmps42
      go_wp2_with (go_at_call 32; (with_reducible refine (NN.out _).mono ?_); rintro e w1 ⟨rfl, rfl⟩)
      go_ret
      exact ⟨by simp, rfl⟩
    · rw [if_neg h]
      have h2 := fun h3 => h (h65.2 h3)
      generalize (c.toNat : Int) = z at *
      have a2 : 65 ≤ z → ¬ z ≤ 70 := fun h3 h4 => h2 ⟨h3, h4⟩
      clear h2 h65 h hn
      by_cases a3 : 65 ≤ z
      · have a4 := a2 a3
        clear a2
        go_enter Try.func42, Try.ntmps42
        go_wp2_with (go_at_call 32; (with_reducible refine (NN.out _).mono ?_); rintro e w1 ⟨rfl, rfl⟩)
        go_ret
        exact ⟨by simp, rfl⟩
      · clear a2
        go_enter Try.func42, Try.ntmps42
        go_wp2_with (go_at_call 32; (with_reducible refine (NN.out _).mono ?_); rintro e w1 ⟨rfl, rfl⟩)
        go_ret
        exact ⟨by simp, rfl⟩
  · rw [if_pos rfl]
    have h2 := (numB_iff c).1 hn
    rw [hn] at NN
    obtain ⟨v, hv⟩ : ∃ v : Nat, c.toNat - 48 = v := ⟨_, rfl⟩
    have hz := Lib.hid (show (v : Int) = (c.toNat : Int) - 48 by omega)
    rw [hv]
    clear hv hn
    generalize (c.toNat : Int) = z at *
    obtain ⟨h3, h4⟩ := h2
    have w1 : IntKind.u8.wrap (z - 48) = z - 48 := by rw [IntKind.wrap_u8]; omega
    have w2 : IntKind.i64.wrap (z - 48) = z - 48 := by rw [IntKind.wrap_i64]; omega
    clear h3 h4
    go_enter Try.func42, Try.ntmps42
    go_wp2_with (go_at_call 32; (with_reducible refine (NN.out _).mono ?_); rintro e w1 ⟨rfl, rfl⟩)
    go_ret
    exact ⟨by rw [hz.out]; rfl, rfl⟩
theorem str_beq (s : ByteArray) (l : List UInt8) : (s.toList == l) = (s.data.toList == l) := by rw [ByteArray.toList_eq]
theorem str_beq2 (s t : ByteArray) : (s.toList == t.toList) = (s.data.toList == t.data.toList) := by rw [ByteArray.toList_eq, ByteArray.toList_eq]
set_option maxRecDepth 100000 in
set_option maxHeartbeats 4000000 in
theorem isword_any (s : ByteArray) (w : World) : Calls Try.prog 11 #[.string s] w fun e w' => e = .returned (.bool (isWord s.data.toList)) ∧ w = w' := by
  have HW : isWord s.data.toList = words.any fun l => s.data.toList == l := by
    unfold isWord
    congr 1
    funext l
    exact BEq.comm
  obtain ⟨b0, h0⟩ : ∃ b, (s.data.toList == [80, 82, 79, 71, 82, 65, 77]) = b := ⟨_, rfl⟩
  have e0 : (s.toList == [80, 82, 79, 71, 82, 65, 77]) = b0 := by rw [str_beq]; exact h0
  obtain ⟨b1, h1⟩ : ∃ b, (s.data.toList == [69, 78, 68, 95, 80, 82, 79, 71, 82, 65, 77]) = b := ⟨_, rfl⟩
  have e1 : (s.toList == [69, 78, 68, 95, 80, 82, 79, 71, 82, 65, 77]) = b1 := by rw [str_beq]; exact h1
  obtain ⟨b2, h2⟩ : ∃ b, (s.data.toList == [86, 65, 82]) = b := ⟨_, rfl⟩
  have e2 : (s.toList == [86, 65, 82]) = b2 := by rw [str_beq]; exact h2
  obtain ⟨b3, h3⟩ : ∃ b, (s.data.toList == [86, 65, 82, 95, 73, 78, 80, 85, 84]) = b := ⟨_, rfl⟩
  have e3 : (s.toList == [86, 65, 82, 95, 73, 78, 80, 85, 84]) = b3 := by rw [str_beq]; exact h3
  obtain ⟨b4, h4⟩ : ∃ b, (s.data.toList == [86, 65, 82, 95, 79, 85, 84, 80, 85, 84]) = b := ⟨_, rfl⟩
  have e4 : (s.toList == [86, 65, 82, 95, 79, 85, 84, 80, 85, 84]) = b4 := by rw [str_beq]; exact h4
  obtain ⟨b5, h5⟩ : ∃ b, (s.data.toList == [69, 78, 68, 95, 86, 65, 82]) = b := ⟨_, rfl⟩
  have e5 : (s.toList == [69, 78, 68, 95, 86, 65, 82]) = b5 := by rw [str_beq]; exact h5
  obtain ⟨b6, h6⟩ : ∃ b, (s.data.toList == [73, 78, 84]) = b := ⟨_, rfl⟩
  have e6 : (s.toList == [73, 78, 84]) = b6 := by rw [str_beq]; exact h6
  obtain ⟨b7, h7⟩ : ∃ b, (s.data.toList == [66, 79, 79, 76]) = b := ⟨_, rfl⟩
  have e7 : (s.toList == [66, 79, 79, 76]) = b7 := by rw [str_beq]; exact h7
  obtain ⟨b8, h8⟩ : ∃ b, (s.data.toList == [65, 82, 82, 65, 89]) = b := ⟨_, rfl⟩
  have e8 : (s.toList == [65, 82, 82, 65, 89]) = b8 := by rw [str_beq]; exact h8
  obtain ⟨b9, h9⟩ : ∃ b, (s.data.toList == [79, 70]) = b := ⟨_, rfl⟩
  have e9 : (s.toList == [79, 70]) = b9 := by rw [str_beq]; exact h9
  obtain ⟨b10, h10⟩ : ∃ b, (s.data.toList == [84, 82, 85, 69]) = b := ⟨_, rfl⟩
  have e10 : (s.toList == [84, 82, 85, 69]) = b10 := by rw [str_beq]; exact h10
  obtain ⟨b11, h11⟩ : ∃ b, (s.data.toList == [70, 65, 76, 83, 69]) = b := ⟨_, rfl⟩
  have e11 : (s.toList == [70, 65, 76, 83, 69]) = b11 := by rw [str_beq]; exact h11
  obtain ⟨b12, h12⟩ : ∃ b, (s.data.toList == [73, 70]) = b := ⟨_, rfl⟩
  have e12 : (s.toList == [73, 70]) = b12 := by rw [str_beq]; exact h12
  obtain ⟨b13, h13⟩ : ∃ b, (s.data.toList == [84, 72, 69, 78]) = b := ⟨_, rfl⟩
  have e13 : (s.toList == [84, 72, 69, 78]) = b13 := by rw [str_beq]; exact h13
  obtain ⟨b14, h14⟩ : ∃ b, (s.data.toList == [69, 76, 83, 73, 70]) = b := ⟨_, rfl⟩
  have e14 : (s.toList == [69, 76, 83, 73, 70]) = b14 := by rw [str_beq]; exact h14
  obtain ⟨b15, h15⟩ : ∃ b, (s.data.toList == [69, 76, 83, 69]) = b := ⟨_, rfl⟩
  have e15 : (s.toList == [69, 76, 83, 69]) = b15 := by rw [str_beq]; exact h15
  obtain ⟨b16, h16⟩ : ∃ b, (s.data.toList == [69, 78, 68, 95, 73, 70]) = b := ⟨_, rfl⟩
  have e16 : (s.toList == [69, 78, 68, 95, 73, 70]) = b16 := by rw [str_beq]; exact h16
  obtain ⟨b17, h17⟩ : ∃ b, (s.data.toList == [67, 65, 83, 69]) = b := ⟨_, rfl⟩
  have e17 : (s.toList == [67, 65, 83, 69]) = b17 := by rw [str_beq]; exact h17
  obtain ⟨b18, h18⟩ : ∃ b, (s.data.toList == [69, 78, 68, 95, 67, 65, 83, 69]) = b := ⟨_, rfl⟩
  have e18 : (s.toList == [69, 78, 68, 95, 67, 65, 83, 69]) = b18 := by rw [str_beq]; exact h18
  obtain ⟨b19, h19⟩ : ∃ b, (s.data.toList == [70, 79, 82]) = b := ⟨_, rfl⟩
  have e19 : (s.toList == [70, 79, 82]) = b19 := by rw [str_beq]; exact h19
  obtain ⟨b20, h20⟩ : ∃ b, (s.data.toList == [84, 79]) = b := ⟨_, rfl⟩
  have e20 : (s.toList == [84, 79]) = b20 := by rw [str_beq]; exact h20
  obtain ⟨b21, h21⟩ : ∃ b, (s.data.toList == [66, 89]) = b := ⟨_, rfl⟩
  have e21 : (s.toList == [66, 89]) = b21 := by rw [str_beq]; exact h21
  obtain ⟨b22, h22⟩ : ∃ b, (s.data.toList == [68, 79]) = b := ⟨_, rfl⟩
  have e22 : (s.toList == [68, 79]) = b22 := by rw [str_beq]; exact h22
  obtain ⟨b23, h23⟩ : ∃ b, (s.data.toList == [69, 78, 68, 95, 70, 79, 82]) = b := ⟨_, rfl⟩
  have e23 : (s.toList == [69, 78, 68, 95, 70, 79, 82]) = b23 := by rw [str_beq]; exact h23
  obtain ⟨b24, h24⟩ : ∃ b, (s.data.toList == [87, 72, 73, 76, 69]) = b := ⟨_, rfl⟩
  have e24 : (s.toList == [87, 72, 73, 76, 69]) = b24 := by rw [str_beq]; exact h24
  obtain ⟨b25, h25⟩ : ∃ b, (s.data.toList == [69, 78, 68, 95, 87, 72, 73, 76, 69]) = b := ⟨_, rfl⟩
  have e25 : (s.toList == [69, 78, 68, 95, 87, 72, 73, 76, 69]) = b25 := by rw [str_beq]; exact h25
  obtain ⟨b26, h26⟩ : ∃ b, (s.data.toList == [82, 69, 80, 69, 65, 84]) = b := ⟨_, rfl⟩
  have e26 : (s.toList == [82, 69, 80, 69, 65, 84]) = b26 := by rw [str_beq]; exact h26
  obtain ⟨b27, h27⟩ : ∃ b, (s.data.toList == [85, 78, 84, 73, 76]) = b := ⟨_, rfl⟩
  have e27 : (s.toList == [85, 78, 84, 73, 76]) = b27 := by rw [str_beq]; exact h27
  obtain ⟨b28, h28⟩ : ∃ b, (s.data.toList == [69, 78, 68, 95, 82, 69, 80, 69, 65, 84]) = b := ⟨_, rfl⟩
  have e28 : (s.toList == [69, 78, 68, 95, 82, 69, 80, 69, 65, 84]) = b28 := by rw [str_beq]; exact h28
  obtain ⟨b29, h29⟩ : ∃ b, (s.data.toList == [69, 88, 73, 84]) = b := ⟨_, rfl⟩
  have e29 : (s.toList == [69, 88, 73, 84]) = b29 := by rw [str_beq]; exact h29
  obtain ⟨b30, h30⟩ : ∃ b, (s.data.toList == [82, 69, 84, 85, 82, 78]) = b := ⟨_, rfl⟩
  have e30 : (s.toList == [82, 69, 84, 85, 82, 78]) = b30 := by rw [str_beq]; exact h30
  obtain ⟨b31, h31⟩ : ∃ b, (s.data.toList == [65, 78, 68]) = b := ⟨_, rfl⟩
  have e31 : (s.toList == [65, 78, 68]) = b31 := by rw [str_beq]; exact h31
  obtain ⟨b32, h32⟩ : ∃ b, (s.data.toList == [79, 82]) = b := ⟨_, rfl⟩
  have e32 : (s.toList == [79, 82]) = b32 := by rw [str_beq]; exact h32
  obtain ⟨b33, h33⟩ : ∃ b, (s.data.toList == [88, 79, 82]) = b := ⟨_, rfl⟩
  have e33 : (s.toList == [88, 79, 82]) = b33 := by rw [str_beq]; exact h33
  obtain ⟨b34, h34⟩ : ∃ b, (s.data.toList == [78, 79, 84]) = b := ⟨_, rfl⟩
  have e34 : (s.toList == [78, 79, 84]) = b34 := by rw [str_beq]; exact h34
  obtain ⟨b35, h35⟩ : ∃ b, (s.data.toList == [77, 79, 68]) = b := ⟨_, rfl⟩
  have e35 : (s.toList == [77, 79, 68]) = b35 := by rw [str_beq]; exact h35
  simp only [words, List.any_cons, List.any_nil, Bool.or_false, h0, h1, h2, h3, h4, h5, h6, h7, h8, h9, h10, h11, h12, h13, h14, h15, h16, h17, h18, h19, h20, h21, h22, h23, h24, h25, h26, h27, h28, h29, h30, h31, h32, h33, h34, h35] at HW
  have HI := Lib.hid HW
  clear HW h0 h1 h2 h3 h4 h5 h6 h7 h8 h9 h10 h11 h12 h13 h14 h15 h16 h17 h18 h19 h20 h21 h22 h23 h24 h25 h26 h27 h28 h29 h30 h31 h32 h33 h34 h35
  go_enter Try.func11, Try.ntmps11
  go_wp2
  all_goals
    go_ret
    refine ⟨ret_bool ?_, rfl⟩
    rw [HI.out]
    clear HI e0 e1 e2 e3 e4 e5 e6 e7 e8 e9 e10 e11 e12 e13 e14 e15 e16 e17 e18 e19 e20 e21 e22 e23 e24 e25 e26 e27 e28 e29 e30 e31 e32 e33 e34 e35
    simp_all
end Go.Proofs.Ythdkkdgjcfjinaa.tk
