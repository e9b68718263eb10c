/- Two bytes at a place, and a digit's value, as the document's functions tell them. No condition but what each line says. -/
import Derived.Test.YthdkkdgjcfjinaaTkBytes
namespace Go.Proofs.Ythdkkdgjcfjinaa.tk
open Go.ChangeShapes Go.WideShapes Go.ChangeAt Go.RowKit Go.Proofs.Ythdkkdgjcfjinaa.k Go.Proofs.Ythdkkdgjcfjinaa.rr
set_option linter.unusedVariables false

/-- what is left of a text from a place on -/
def dr (s : ByteArray) (n : Nat) : List UInt8 := s.data.toList.drop n
theorem size_len (s : ByteArray) : s.data.toList.length = s.size := (Lib.size_eq s).symm
theorem dr_len (s : ByteArray) (n : Nat) : (dr s n).length = s.size - n := by unfold dr; rw [List.length_drop, size_len]
theorem dr_at {s : ByteArray} {n : Nat} (h : n < s.size) : dr s n = s[n] :: dr s (n + 1) := by
  have h2 : n < s.data.toList.length := by rw [size_len]; exact h
  unfold dr
  rw [List.drop_eq_getElem_cons h2]
  rfl
theorem two_cons (x y : UInt8) (l : List UInt8) (a b : UInt8) : two (x :: y :: l) a b = (x == a && y == b) := rfl
theorem dr_end {s : ByteArray} {n : Nat} (h : s.size ≤ n) : dr s n = [] := List.eq_nil_of_length_eq_zero (by rw [dr_len]; omega)
theorem dr_drop (s : ByteArray) (n m : Nat) : (dr s n).drop m = dr s (n + m) := by unfold dr; rw [List.drop_drop]
theorem eq8 (x a : UInt8) : ((x.toNat : Int) == (a.toNat : Int)) = (x == a) := by
  rw [Bool.eq_iff_iff, beq_iff_eq, beq_iff_eq]
  constructor
  · intro h
    exact UInt8.toNat_inj.1 (by omega)
  · rintro rfl
    rfl
theorem two_any (s : ByteArray) (hs : s.size ≤ 20000) (n : Nat) (hn : n ≤ s.size) (a b : UInt8) (w : World) : Calls Try.prog 26 #[.string s, .int .i64 n, .int .u8 a.toNat, .int .u8 b.toNat] w fun e w' => e = .returned (.bool (two (dr s n) a b)) ∧ w = w' := by
  by_cases h : n + 1 < s.size
  · obtain ⟨x, hx⟩ : ∃ x : UInt8, s[n] = x := ⟨_, rfl⟩
    obtain ⟨y, hy⟩ : ∃ y : UInt8, s[n + 1] = y := ⟨_, rfl⟩
    rw [dr_at (show n < s.size by omega), dr_at h, hx, hy]
    rw [two_cons, ← eq8, ← eq8]
    have h1 : (n : Int) + 1 < s.size := by omega
    have h2 : (n : Int) < s.size := by omega
    have hw : IntKind.i64.wrap ((n : Int) + 1) = n + 1 := by rw [IntKind.wrap_i64]; omega
    go_enter Try.func26, Try.ntmps26
    go_wp2
    all_goals
      go_ret
      refine ⟨ret_bool ?_, rfl⟩
      simp_all
  · have hf : two (dr s n) a b = false := by
      have hl := dr_len s n
      match dr s n, hl with
      | [], _ => rfl
      | [_], _ => rfl
      | _ :: _ :: l, hl => simp at hl; omega
    rw [hf]
    have h1 : ¬ ((n : Int) + 1 < s.size) := by omega
    have hw : IntKind.i64.wrap ((n : Int) + 1) = n + 1 := by rw [IntKind.wrap_i64]; omega
    go_enter Try.func26, Try.ntmps26
    go_wp2
    go_ret
    exact ⟨rfl, rfl⟩
theorem num_byte {c : UInt8} (h : numB c = true) : 48 ≤ c.toNat ∧ c.toNat ≤ 57 := by have := (numB_iff c).1 h; omega
/-- a digit's value, 99 of what is none -/
def digV (c : UInt8) : Nat := if numB c = true then c.toNat - 48 else if 65 ≤ c ∧ c ≤ 70 then c.toNat - 55 else 99
set_option maxHeartbeats 1000000 in
theorem digit_any (c : UInt8) (b : Nat) (hb : b ≤ 16) (w : World) : Calls Try.prog 27 #[.int .u8 c.toNat, .int .u64 b] w fun e w' => e = .returned (.tuple #[.int .u64 (digV c), .bool (decide (digV c < b))]) ∧ w = w' := by
  have hc : (c.toNat : Int) < 256 := by have := c.toNat_lt; omega
  have NN := Lib.hid fun W => num_any c W
  unfold digV
  have fin : ∀ v : Nat, ((.bool (decide ((v : Int) < (b : Int)))) : Value) = .bool (decide (v < b)) := fun v => by congr 1; simp
  cases hn : numB c
  · rw [if_neg (by simp)]
    have h65 : (65 ≤ c ∧ c ≤ 70) ↔ (65 ≤ (c.toNat : Int) ∧ (c.toNat : Int) ≤ 70) := by rw [UInt8.le_iff_toNat_le, UInt8.le_iff_toNat_le]; simp; omega
    rw [hn] at NN
    by_cases h : 65 ≤ c ∧ c ≤ 70
    · rw [if_pos h]
      have h2 := h65.1 h
      obtain ⟨v, hv⟩ : ∃ v : Nat, c.toNat - 55 = v + 10 := ⟨c.toNat - 65, by omega⟩
      have hz : (c.toNat : Int) = v + 65 := by omega
      have a1 : (v : Int) ≤ 5 := by omega
      have w1 : IntKind.u8.wrap (v : Int) = v := by rw [IntKind.wrap_u8]; omega
      have w2 : IntKind.u64.wrap (v : Int) = v := by rw [IntKind.wrap_u64]; omega
      have w3 : IntKind.u64.wrap ((v : Int) + 10) = v + 10 := by rw [IntKind.wrap_u64]; omega
      have a2 : 65 ≤ (v : Int) + 65 := by omega
      have a3 : (v : Int) + 65 ≤ 70 := by omega
      have F := fin (v + 10)
      rw [hv]
      rw [hz] at NN ⊢
      clear h2 h65 h hv hz hn hc fin
      go_enter Try.func27, Try.ntmps27
      go_wp2_with (go_at_call 20; (with_reducible refine (NN.out _).mono ?_); rintro e w1 ⟨rfl, rfl⟩)
      go_ret2
      exact ⟨by rw [← F]; simp, rfl⟩
    · rw [if_neg h]
      have h2 := fun h3 => h (h65.2 h3)
      have F := fin 99
      generalize (c.toNat : Int) = z at *
      have a2 : 65 ≤ z → ¬ z ≤ 70 := fun h3 h4 => h2 ⟨h3, h4⟩
      clear h2 h65 h hn fin
      by_cases a3 : 65 ≤ z
      · have a4 := a2 a3
        clear a2
        go_enter Try.func27, Try.ntmps27
        go_wp2_with (go_at_call 20; (with_reducible refine (NN.out _).mono ?_); rintro e w1 ⟨rfl, rfl⟩)
        go_ret2
        exact ⟨by rw [← F]; simp, rfl⟩
      · clear a2
        go_enter Try.func27, Try.ntmps27
        go_wp2_with (go_at_call 20; (with_reducible refine (NN.out _).mono ?_); rintro e w1 ⟨rfl, rfl⟩)
        go_ret2
        exact ⟨by rw [← F]; simp, rfl⟩
  · rw [if_pos rfl]
    have h2 := (numB_iff c).1 hn
    rw [hn] at NN
    obtain ⟨v, hv⟩ : ∃ v : Nat, c.toNat - 48 = v := ⟨_, rfl⟩
    have hz := Lib.hid (show (v : Int) = (c.toNat : Int) - 48 by omega)
    have F := Lib.hid (fin v)
    rw [hv]
    clear hv hn fin
    generalize (c.toNat : Int) = z at *
    obtain ⟨h3, h4⟩ := h2
    have w1 : IntKind.u8.wrap (z - 48) = z - 48 := by rw [IntKind.wrap_u8]; omega
    have w2 : IntKind.u64.wrap (z - 48) = z - 48 := by rw [IntKind.wrap_u64]; omega
    have a2 : ¬ 65 ≤ z := by omega
    clear h3 h4
    go_enter Try.func27, Try.ntmps27
    go_wp2_with (go_at_call 20; (with_reducible refine (NN.out _).mono ?_); rintro e w1 ⟨rfl, rfl⟩)
    go_ret2
    exact ⟨by rw [← F.out, hz.out]; rfl, rfl⟩
end Go.Proofs.Ythdkkdgjcfjinaa.tk
