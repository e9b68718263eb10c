/- Plain facts on frames: their bytes, what is read of bytes, and that no frame with a change within two bytes has a sum that fits. No condition beyond what each line says. -/
import Derived.Test.YtdfgjfojneoljaaSMath
import Derived.RowKit
namespace Go.Proofs.Ytdfgjfojneoljaa.t
open Go.RowKit Go.Proofs.Ytdfgjfojneoljaa.s
set_option linter.unusedVariables false

/-! ### Numbers as bytes, the highest first -/
def be (l : List (BitVec 8)) : Int := l.foldl (fun n c => n * 256 + v8 c) 0
theorem be_snoc (l : List (BitVec 8)) (c : BitVec 8) : be (l ++ [c]) = be l * 256 + v8 c := by unfold be; rw [List.foldl_append]; rfl
theorem be_in (l : List (BitVec 8)) : 0 ≤ be l ∧ be l < 256 ^ l.length := by
  have key : ∀ r : List (BitVec 8), 0 ≤ be r.reverse ∧ be r.reverse < 256 ^ r.reverse.length := by
    intro r
    induction r with
    | nil => exact ⟨by decide, by decide⟩
    | cons c r ih =>
      rw [List.reverse_cons, be_snoc, List.length_append, List.length_singleton, Int.pow_succ]
      have := v8_in c
      omega
  have := key l.reverse
  rw [List.reverse_reverse] at this
  exact this
/-- the byte of a number at a place -/
def byteAt (n : Int) (j : Nat) : BitVec 8 := BitVec.ofInt 8 (n / 256 ^ j)
theorem byteAt_val (n : Int) (j : Nat) : v8 (byteAt n j) = n / 256 ^ j % 256 := by
  unfold byteAt v8; rw [BitVec.toNat_ofInt]; omega
def be8 (n : Int) : List (BitVec 8) := [byteAt n 7, byteAt n 6, byteAt n 5, byteAt n 4, byteAt n 3, byteAt n 2, byteAt n 1, byteAt n 0]
theorem be8_getD (n : Int) (i : Nat) (h : i < 8) : (be8 n).getD i 0 = byteAt n (7 - i) := by
  have : i = 0 ∨ i = 1 ∨ i = 2 ∨ i = 3 ∨ i = 4 ∨ i = 5 ∨ i = 6 ∨ i = 7 := by omega
  rcases this with rfl | rfl | rfl | rfl | rfl | rfl | rfl | rfl <;> rfl
theorem byte_up (n : Int) (j : Nat) : n / 256 ^ (j + 1) = n / 256 ^ j / 256 := by
  rw [Int.pow_succ, Int.ediv_ediv_of_nonneg (Int.pow_nonneg (by omega))]
theorem be_be8 (n : Int) (h0 : 0 ≤ n) (h1 : n < 18446744073709551616) : be (be8 n) = n := by
  unfold be be8
  simp only [List.foldl_cons, List.foldl_nil, byteAt_val]
  have e : ∀ j : Nat, n / 256 ^ (j + 1) = n / 256 ^ j / 256 := fun j => by
    rw [Int.pow_succ, Int.ediv_ediv_of_nonneg (Int.pow_nonneg (by omega))]
  rw [show (7 : Nat) = 6 + 1 from rfl, e 6, show (6 : Nat) = 5 + 1 from rfl, e 5, show (5 : Nat) = 4 + 1 from rfl, e 4, show (4 : Nat) = 3 + 1 from rfl, e 3, show (3 : Nat) = 2 + 1 from rfl, e 2, show (2 : Nat) = 1 + 1 from rfl, e 1, show (1 : Nat) = 0 + 1 from rfl, e 0, Int.pow_zero, Int.ediv_one]
  omega

/-! ### The sum's two bytes -/
def hi (s : BitVec 16) : BitVec 8 := (s >>> 8).setWidth 8
def lo (s : BitVec 16) : BitVec 8 := s.setWidth 8
theorem hi_val (s : BitVec 16) : v8 (hi s) = v16 s / 256 := by
  have := s.isLt
  unfold hi v8 v16
  rw [BitVec.toNat_setWidth, BitVec.toNat_ushiftRight, Nat.shiftRight_eq_div_pow]
  omega
theorem lo_val (s : BitVec 16) : v8 (lo s) = v16 s % 256 := by
  unfold lo v8 v16
  rw [BitVec.toNat_setWidth]
  omega
theorem fits_iff (s : BitVec 16) (h l : BitVec 8) : v16 s = v8 h * 256 + v8 l ↔ h = hi s ∧ l = lo s := by
  have a := v8_in h
  have b := v8_in l
  have c := v16_in s
  constructor
  · intro e
    exact ⟨v8_inj (by rw [hi_val]; omega), v8_inj (by rw [lo_val]; omega)⟩
  · rintro ⟨rfl, rfl⟩
    rw [hi_val, lo_val]; omega
theorem ups_of_zero : ∀ n, ups n 0#16 = 0#16
  | 0 => rfl
  | n + 1 => by rw [ups, ups_of_zero n]; rfl
/-- a sum's two bytes behind it leave nothing of it -/
theorem rest_iff (s : BitVec 16) (h l : BitVec 8) : goV s [h, l] = 0 ↔ h = hi s ∧ l = lo s := by
  have low : ∀ x : BitVec 8, ups 8 (x.setWidth 16) = wide x := by
    have : ∀ x : Fin 256, ups 8 ((BitVec.ofFin x : BitVec 8).setWidth 16) = wide (BitVec.ofFin x) := by decide +kernel
    intro x; exact this x.toFin
  have parts : s = wide (hi s) ^^^ (lo s).setWidth 16 := by
    apply BitVec.eq_of_getLsbD_eq
    intro i hi2
    simp [wide, hi, lo]
    by_cases h8 : i < 8
    · simp [h8, hi2]
    · have e : 8 + (i - 8) = i := by omega
      have e2 : i - 8 < 16 := by omega
      have e3 : i - 8 < 8 := by omega
      simp [h8, hi2, e, e2, e3]
  have e : goV s [h, l] = ups 8 (ups 8 (wide (hi s) ^^^ wide h) ^^^ (wide (lo s) ^^^ wide l)) := by
    show ups 8 (ups 8 (s ^^^ wide h) ^^^ wide l) = _
    congr 1
    conv => lhs; rw [parts]
    rw [show wide (hi s) ^^^ (lo s).setWidth 16 ^^^ wide h = (wide (hi s) ^^^ wide h) ^^^ (lo s).setWidth 16 from xor_left _ _ _, ups_xor, low, BitVec.xor_assoc]
  constructor
  · intro hz
    have h2 := ups_zero 8 _ (e.symm.trans hz)
    have h3 := xor_eq_zero h2
    rw [← wide_xor, ← wide_xor] at h3
    have h4 := burst_low _ _ h3
    rw [h4] at h3
    have h5 : wide (lo s ^^^ l) = 0 := by rw [← h3]; decide
    exact ⟨(xor_eq_zero h4).symm, (xor_eq_zero (wide_zero h5)).symm⟩
  · rintro ⟨rfl, rfl⟩
    rw [e, BitVec.xor_self, BitVec.xor_self, BitVec.xor_zero, ups_of_zero, ups_of_zero]; rfl

/-! ### Frames -/
def body (sign seq word : BitVec 8) (n : Int) : List (BitVec 8) := [sign, seq, word] ++ be8 n
def frameV (sign seq word : BitVec 8) (n : Int) : List (BitVec 8) := body sign seq word n ++ [hi (goV first (body sign seq word n)), lo (goV first (body sign seq word n))]
theorem body_length (sign seq word : BitVec 8) (n : Int) : (body sign seq word n).length = 11 := by simp [body, be8]
theorem frame_length (sign seq word : BitVec 8) (n : Int) : (frameV sign seq word n).length = 13 := by
  unfold frameV; rw [List.length_append, body_length]; rfl
theorem frame_rest (sign seq word : BitVec 8) (n : Int) : goV first (frameV sign seq word n) = 0 := by
  unfold frameV; rw [goV_append, rest_iff]; exact ⟨rfl, rfl⟩
/-- do the last two of thirteen bytes fit the sum of the rest? -/
def Fits (l : List (BitVec 8)) : Prop := v16 (goV first (l.take 11)) = v8 (l.getD 11 0) * 256 + v8 (l.getD 12 0)
theorem fits_rest {l : List (BitVec 8)} (h : l.length = 13) : Fits l ↔ goV first l = 0 := by
  unfold Fits
  rw [fits_iff, ← rest_iff, ← goV_append]
  have : l.take 11 ++ [l.getD 11 0, l.getD 12 0] = l := by
    apply List.ext_getElem?
    intro i
    by_cases h1 : i < 11
    · rw [List.getElem?_append_left (by rw [List.length_take]; omega), List.getElem?_take, if_pos h1]
    · have e : (l.take 11).length = 11 := by rw [List.length_take]; omega
      rw [List.getElem?_append_right (by omega), e]
      have : i = 11 ∨ i = 12 ∨ 13 ≤ i := by omega
      rcases this with rfl | rfl | h3
      · simp [List.getD_eq_getElem?_getD, h]
      · simp [List.getD_eq_getElem?_getD, h]
      · rw [List.getElem?_eq_none (by simp; omega), List.getElem?_eq_none (by omega)]
  rw [this]

/-! ### What is read -/
open Classical in
noncomputable def rE (sign : BitVec 8) (most : Int) (l : List (BitVec 8)) : Int :=
  if l.length < 13 then 4 else if 13 < l.length then 13 else if ¬ Fits l then 6 else if l.getD 0 0 ≠ sign ∨ most < v8 (l.getD 2 0) then 5 else 0
noncomputable def rS (sign : BitVec 8) (most : Int) (l : List (BitVec 8)) : Int := if rE sign most l = 0 then v8 (l.getD 1 0) else 0
noncomputable def rW (sign : BitVec 8) (most : Int) (l : List (BitVec 8)) : Int := if rE sign most l = 0 then v8 (l.getD 2 0) else 0
noncomputable def rP (sign : BitVec 8) (most : Int) (l : List (BitVec 8)) : Int := if rE sign most l = 0 then wrap64 (be ((l.drop 3).take 8)) else 0
theorem rE_short {sign : BitVec 8} {most : Int} {l : List (BitVec 8)} (h : l.length < 13) : rE sign most l = 4 := by unfold rE; rw [if_pos h]
theorem rE_long {sign : BitVec 8} {most : Int} {l : List (BitVec 8)} (h : 13 < l.length) : rE sign most l = 13 := by unfold rE; rw [if_neg (by omega), if_pos h]
theorem rE_sum {sign : BitVec 8} {most : Int} {l : List (BitVec 8)} (h : l.length = 13) (h2 : ¬ Fits l) : rE sign most l = 6 := by unfold rE; rw [if_neg (by omega), if_neg (by omega), if_pos h2]
theorem rE_form {sign : BitVec 8} {most : Int} {l : List (BitVec 8)} (h : l.length = 13) (h2 : Fits l) (h3 : l.getD 0 0 ≠ sign ∨ most < v8 (l.getD 2 0)) : rE sign most l = 5 := by
  unfold rE; rw [if_neg (by omega), if_neg (by omega), if_neg (by simpa using h2), if_pos h3]
theorem rE_ok {sign : BitVec 8} {most : Int} {l : List (BitVec 8)} (h : l.length = 13) (h2 : Fits l) (h3 : ¬ (l.getD 0 0 ≠ sign ∨ most < v8 (l.getD 2 0))) : rE sign most l = 0 := by
  unfold rE; rw [if_neg (by omega), if_neg (by omega), if_neg (by simpa using h2), if_neg h3]
theorem r_no {sign : BitVec 8} {most : Int} {l : List (BitVec 8)} (h : rE sign most l ≠ 0) : rS sign most l = 0 ∧ rW sign most l = 0 ∧ rP sign most l = 0 := by
  unfold rS rW rP; rw [if_neg h, if_neg h, if_neg h]; exact ⟨rfl, rfl, rfl⟩
theorem r_yes {sign : BitVec 8} {most : Int} {l : List (BitVec 8)} (h : rE sign most l = 0) : rS sign most l = v8 (l.getD 1 0) ∧ rW sign most l = v8 (l.getD 2 0) ∧ rP sign most l = wrap64 (be ((l.drop 3).take 8)) := by
  unfold rS rW rP; rw [if_pos h, if_pos h, if_pos h]; exact ⟨rfl, rfl, rfl⟩
end Go.Proofs.Ytdfgjfojneoljaa.t
