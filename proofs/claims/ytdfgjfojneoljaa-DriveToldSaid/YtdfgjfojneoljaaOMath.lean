/- Plain facts on status words, control words and drives' states. No condition beyond what each line says. -/
import Derived.Test.YtdfgjfojneoljaaKBase
import Derived.Laws.BitsAllLaws
namespace Go.Proofs.Ytdfgjfojneoljaa.o
open Go.ChangeShapes Go.WideShapes Go.ChangeAt Go.RowKit Go.Proofs.Ytdfgjfojneoljaa.k
set_option linter.unusedVariables false

/-- a number's lowest four bits are all that a mask of these sees -/
theorem and_low (n K : Int) (h0 : 0 ≤ K) (h1 : K < 16) : bits .and .i64 n K = bits .and .i64 (n % 16) K := by
  have hk : (BitVec.ofInt 64 K).toNat = K.toNat := by rw [BitVec.toNat_ofInt]; omega
  have key : (BitVec.ofInt 64 n &&& BitVec.ofInt 64 K).toNat = (BitVec.ofInt 64 (n % 16) &&& BitVec.ofInt 64 K).toNat := by
    rw [BitVec.toNat_and, BitVec.toNat_and, hk]
    have hlt : K.toNat < 2 ^ 4 := by omega
    have e : ∀ x : Nat, x &&& K.toNat = (x % 16) &&& K.toNat := fun x => by
      have h := Nat.and_mod_two_pow (a := x) (b := K.toNat) (n := 4)
      rw [Nat.mod_eq_of_lt hlt] at h
      rw [← h, Nat.mod_eq_of_lt (Nat.lt_of_le_of_lt Nat.and_le_right hlt)]
    rw [e, e (BitVec.ofInt 64 (n % 16)).toNat]
    congr 1
    rw [BitVec.toNat_ofInt, BitVec.toNat_ofInt]
    omega
  exact congrArg (fun x : Nat => IntKind.i64.wrap (x : Int)) key
/-- other bits laid beside the lowest four leave these -/
theorem or_high (s m : Int) (h0 : 0 ≤ s) (h1 : s < 16) : bits .or .i64 s (bits .andNot .i64 m 15) % 16 = s ∧ -9223372036854775808 ≤ bits .or .i64 s (bits .andNot .i64 m 15) ∧ bits .or .i64 s (bits .andNot .i64 m 15) ≤ 9223372036854775807 := by
  obtain ⟨x, hx⟩ : ∃ x, bits .andNot .i64 m 15 = x := ⟨_, rfl⟩
  have hx16 : x % 16 = 0 := by
    rw [← hx]
    show IntKind.i64.wrap ((BitVec.ofInt 64 m &&& ~~~BitVec.ofInt 64 15).toNat : Nat) % 16 = 0
    have e : (BitVec.ofInt 64 m &&& ~~~BitVec.ofInt 64 15).toNat % 16 = 0 := by
      rw [BitVec.toNat_and]
      have h := Nat.and_mod_two_pow (a := (BitVec.ofInt 64 m).toNat) (b := (~~~BitVec.ofInt 64 15).toNat) (n := 4)
      have h2 : (~~~BitVec.ofInt 64 15).toNat % 2 ^ 4 = 0 := by decide
      rw [h2, Nat.and_zero] at h
      exact h
    rw [IntKind.wrap_i64]
    omega
  rw [hx]
  have e : (BitVec.ofInt 64 s ||| BitVec.ofInt 64 x).toNat % 16 = s.toNat := by
    rw [BitVec.toNat_or]
    have h := Nat.or_mod_two_pow (a := (BitVec.ofInt 64 s).toNat) (b := (BitVec.ofInt 64 x).toNat) (n := 4)
    have a : (BitVec.ofInt 64 s).toNat % 2 ^ 4 = s.toNat := by rw [BitVec.toNat_ofInt]; omega
    have b : (BitVec.ofInt 64 x).toNat % 2 ^ 4 = 0 := by rw [BitVec.toNat_ofInt]; omega
    rw [a, b, Nat.or_zero] at h
    exact h
  show IntKind.i64.wrap ((BitVec.ofInt 64 s ||| BitVec.ofInt 64 x).toNat : Nat) % 16 = s ∧ _ ≤ IntKind.i64.wrap ((BitVec.ofInt 64 s ||| BitVec.ofInt 64 x).toNat : Nat) ∧ IntKind.i64.wrap ((BitVec.ofInt 64 s ||| BitVec.ofInt 64 x).toNat : Nat) ≤ _
  have hlt := (BitVec.ofInt 64 s ||| BitVec.ofInt 64 x).isLt
  rw [IntKind.wrap_i64]
  omega
theorem low16 (s : Int) : s % 16 = 0 ∨ s % 16 = 1 ∨ s % 16 = 2 ∨ s % 16 = 3 ∨ s % 16 = 4 ∨ s % 16 = 5 ∨ s % 16 = 6 ∨ s % 16 = 7 ∨ s % 16 = 8 ∨ s % 16 = 9 ∨ s % 16 = 10 ∨ s % 16 = 11 ∨ s % 16 = 12 ∨ s % 16 = 13 ∨ s % 16 = 14 ∨ s % 16 = 15 := by omega
theorem low8 (s : Int) : (s % 16 = 0 ∨ s % 16 = 8) ∨ (s % 16 = 1 ∨ s % 16 = 9) ∨ (s % 16 = 2 ∨ s % 16 = 10) ∨ (s % 16 = 3 ∨ s % 16 = 11) ∨ (s % 16 = 4 ∨ s % 16 = 12) ∨ (s % 16 = 5 ∨ s % 16 = 13) ∨ (s % 16 = 6 ∨ s % 16 = 14) ∨ (s % 16 = 7 ∨ s % 16 = 15) := by omega
def five (x : Int) : Prop := 0 ≤ x ∧ x ≤ 4
theorem five_of (x : Int) (h0 : 0 ≤ x) (h1 : x ≤ 4) : x = 0 ∨ x = 1 ∨ x = 2 ∨ x = 3 ∨ x = 4 := by omega

/-! ### What the four functions answer -/
def st (s : Int) : Int := if 8 ≤ s % 16 then 4 else if s % 16 = 7 then 3 else if s % 16 = 3 then 2 else if s % 2 = 1 then 1 else 0
def stat (x : Int) : Int := if x = 1 then 1 else if x = 2 then 3 else if x = 3 then 7 else if x = 4 then 8 else 0
def ctl (x : Int) (want clear : Bool) : Int := if x = 4 then (if clear then 4 else 0) else if want = false then 0 else if x = 0 ∨ x = 1 then 1 else if x = 2 ∨ x = 3 then 3 else 0
def nxt (x c : Int) : Int := if x < 0 ∨ 4 < x then 0 else if x = 4 then (if 4 ≤ c % 8 then 0 else 4) else if c % 2 = 0 ∨ x = 0 then 1 else if x = 1 ∨ c % 4 < 2 then 2 else 3
theorem st_low {s : Int} (k : Int) (h : s % 16 = k) : st s = st k := by unfold st; omega
theorem nxt_low {c : Int} (x k : Int) (h : c % 16 = k) : nxt x c = nxt x k := by unfold nxt; omega
end Go.Proofs.Ytdfgjfojneoljaa.o
