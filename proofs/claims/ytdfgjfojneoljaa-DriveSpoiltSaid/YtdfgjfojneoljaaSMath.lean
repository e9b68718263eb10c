/- Plain facts on the register of 16 bits: what a place up makes of it, what a byte makes of it, that laying texts over one another lays their sums over one another, and that no change within two bytes leaves the sum as it was. No condition beyond what each line says. -/
import Derived.Laws.BitsAllLaws
import Derived.Lib.Hide
namespace Go.Proofs.Ytdfgjfojneoljaa.s
set_option linter.unusedVariables false

/-- the register one place up, held against a 0 -/
def up (s : BitVec 16) : BitVec 16 := if s.msb then s <<< 1 ^^^ 0x1021#16 else s <<< 1
/-- so many places up -/
def ups : Nat → BitVec 16 → BitVec 16
  | 0, s => s
  | n + 1, s => up (ups n s)
/-- a byte at the register's upper half -/
def wide (c : BitVec 8) : BitVec 16 := c.setWidth 16 <<< 8
/-- the register behind a byte -/
def byteV (s : BitVec 16) (c : BitVec 8) : BitVec 16 := ups 8 (s ^^^ wide c)
/-- the register behind bytes -/
def goV (s : BitVec 16) (l : List (BitVec 8)) : BitVec 16 := l.foldl byteV s
/-- the register one place up, held against a bit -/
def turn (s : BitVec 16) (t : Bool) : BitVec 16 := if s.msb != t then s <<< 1 ^^^ 0x1021#16 else s <<< 1
/-- so many of a byte's bits, the highest first -/
def turns (c : BitVec 8) : Nat → BitVec 16 → BitVec 16
  | 0, s => s
  | n + 1, s => turn (turns c n s) (c.getLsbD (7 - n))

theorem xor_twice (a p : BitVec 16) : (a ^^^ p) ^^^ p = a := by
  rw [BitVec.xor_assoc]; simp
theorem xor_left (a b p : BitVec 16) : (a ^^^ p) ^^^ b = (a ^^^ b) ^^^ p := by
  ext i hi; simp only [BitVec.getElem_xor]; cases a[i] <;> cases b[i] <;> cases p[i] <;> rfl
theorem xor_right (a b p : BitVec 16) : a ^^^ (b ^^^ p) = (a ^^^ b) ^^^ p := by
  ext i hi; simp only [BitVec.getElem_xor]; cases a[i] <;> cases b[i] <;> cases p[i] <;> rfl
theorem xor_eq_zero {n : Nat} {a b : BitVec n} (h : a ^^^ b = 0) : a = b := by
  have : a ^^^ b ^^^ b = 0 ^^^ b := by rw [h]
  simpa [BitVec.xor_assoc] using this

theorem up_xor (a b : BitVec 16) : up (a ^^^ b) = up a ^^^ up b := by
  unfold up
  rw [BitVec.msb_xor, BitVec.shiftLeft_xor_distrib]
  cases a.msb <;> cases b.msb <;> simp [xor_left, xor_right, xor_twice]
theorem ups_xor (n : Nat) (a b : BitVec 16) : ups n (a ^^^ b) = ups n a ^^^ ups n b := by
  induction n with
  | zero => rfl
  | succ n ih => simp only [ups, ih, up_xor]
theorem wide_xor (c d : BitVec 8) : wide (c ^^^ d) = wide c ^^^ wide d := by
  unfold wide; rw [BitVec.setWidth_xor, BitVec.shiftLeft_xor_distrib]
theorem up_zero (s : BitVec 16) (h : up s = 0) : s = 0 := by
  unfold up at h
  have hm : s.msb = false := by
    rcases Bool.eq_false_or_eq_true s.msb with e | e
    · rw [e] at h
      have := congrArg (fun x : BitVec 16 => x.getLsbD 0) h
      simp at this
    · exact e
  rw [hm] at h
  simp only [Bool.false_eq_true, if_false] at h
  apply BitVec.eq_of_getLsbD_eq
  intro i hi
  by_cases h15 : i = 15
  · subst h15
    rw [BitVec.msb_eq_getLsbD_last] at hm
    simpa using hm
  · have := congrArg (fun x : BitVec 16 => x.getLsbD (i + 1)) h
    simp at this
    simpa using this (by omega)
theorem ups_zero (n : Nat) (s : BitVec 16) (h : ups n s = 0) : s = 0 := by
  induction n with
  | zero => exact h
  | succ n ih => exact ih (up_zero _ h)
theorem ups_inj (n : Nat) {a b : BitVec 16} (h : ups n a = ups n b) : a = b := by
  apply xor_eq_zero
  apply ups_zero n
  rw [ups_xor, h]; simp
theorem byteV_inj {a b : BitVec 16} (c : BitVec 8) (h : byteV a c = byteV b c) : a = b := by
  have := ups_inj 8 h
  have e : a ^^^ wide c ^^^ wide c = b ^^^ wide c ^^^ wide c := by rw [this]
  simpa [BitVec.xor_assoc] using e
theorem goV_inj (l : List (BitVec 8)) : ∀ {a b : BitVec 16}, goV a l = goV b l → a = b := by
  induction l with
  | nil => intro a b h; exact h
  | cons c l ih => intro a b h; exact byteV_inj c (ih h)
theorem goV_append (s : BitVec 16) (a b : List (BitVec 8)) : goV s (a ++ b) = goV (goV s a) b := List.foldl_append
theorem goV_snoc (s : BitVec 16) (a : List (BitVec 8)) (c : BitVec 8) : goV s (a ++ [c]) = byteV (goV s a) c := by rw [goV_append]; rfl

/-- eight places up, a byte at the upper half leaves something at the lower half, unless it is 0 -/
theorem burst_low : ∀ c : BitVec 8, ∀ d : BitVec 8, ups 8 (wide c) = wide d → c = 0 := by
  have key : ∀ c : Fin 256, (ups 8 (wide (BitVec.ofFin c))).setWidth 8 = 0#8 → c = 0 := by decide +kernel
  intro c d h
  have h2 : (ups 8 (wide c)).setWidth 8 = 0#8 := by
    rw [h]; unfold wide
    apply BitVec.eq_of_getLsbD_eq
    intro i hi
    simp
    try omega
  have := key c.toFin h2
  cases c
  simp at this
  subst this
  rfl
theorem wide_zero {d : BitVec 8} (h : wide d = 0) : d = 0 := by
  apply BitVec.eq_of_getLsbD_eq
  intro i hi
  have := congrArg (fun x : BitVec 16 => x.getLsbD (i + 8)) h
  simp [wide] at this
  simpa using this (by omega) (by omega)
/-- no change within two bytes leaves the register as it was -/
theorem burst (s : BitVec 16) (x y c d : BitVec 8) (h : byteV (byteV s x) y = byteV (byteV s (x ^^^ c)) (y ^^^ d)) : c = 0 ∧ d = 0 := by
  have h1 := ups_inj 8 h
  unfold byteV at h1
  rw [wide_xor, wide_xor, ← BitVec.xor_assoc s, ups_xor 8 (s ^^^ wide x)] at h1
  have h2 : ups 8 (wide c) = wide d := by
    apply xor_eq_zero
    have e : (ups 8 (s ^^^ wide x) ^^^ wide y) ^^^ (ups 8 (s ^^^ wide x) ^^^ ups 8 (wide c) ^^^ (wide y ^^^ wide d)) = 0 := by rw [← h1]; simp
    rw [← e]
    ext i hi
    simp
    cases (ups 8 (s ^^^ wide x))[i] <;> cases (ups 8 (wide c))[i] <;> cases (wide y)[i] <;> cases (wide d)[i] <;> rfl
  have h3 := burst_low c d h2
  subst h3
  refine ⟨rfl, wide_zero ?_⟩
  rw [← h2]
  decide
/-- no change within two bytes of a text leaves its sum as it was -/
theorem burst_text (s : BitVec 16) (a b : List (BitVec 8)) (x y c d : BitVec 8) (h : goV s (a ++ [x, y] ++ b) = goV s (a ++ [x ^^^ c, y ^^^ d] ++ b)) : c = 0 ∧ d = 0 := by
  rw [goV_append, goV_append, goV_append, goV_append] at h
  exact burst (goV s a) x y c d (goV_inj b h)
/-- laid over one another -/
theorem byteV_over (s1 s2 s3 : BitVec 16) (x1 x2 x3 : BitVec 8) : byteV (s1 ^^^ s2 ^^^ s3) (x1 ^^^ x2 ^^^ x3) = byteV s1 x1 ^^^ byteV s2 x2 ^^^ byteV s3 x3 := by
  unfold byteV
  rw [wide_xor, wide_xor, ← ups_xor, ← ups_xor]
  congr 1
  ext i hi
  simp
  cases s1[i] <;> cases s2[i] <;> cases s3[i] <;> cases (wide x1)[i] <;> cases (wide x2)[i] <;> cases (wide x3)[i] <;> rfl
/-- three texts of one length, byte by byte -/
def over (a b c : List (BitVec 8)) (n : Nat) : List (BitVec 8) := (List.range n).map fun i => a.getD i 0 ^^^ b.getD i 0 ^^^ c.getD i 0
theorem over_succ (a b c : List (BitVec 8)) (n : Nat) : over a b c (n + 1) = over a b c n ++ [a.getD n 0 ^^^ b.getD n 0 ^^^ c.getD n 0] := by
  unfold over; rw [List.range_succ, List.map_append]; rfl
theorem take_snocD (a : List (BitVec 8)) (n : Nat) (h : n < a.length) : a.take (n + 1) = a.take n ++ [a.getD n 0] := by
  rw [List.take_succ_eq_append_getElem h]; simp [List.getD_eq_getElem?_getD, h]
theorem goV_over (s1 s2 s3 : BitVec 16) (a b c : List (BitVec 8)) (n : Nat) (ha : n ≤ a.length) (hb : n ≤ b.length) (hc : n ≤ c.length) :
    goV (s1 ^^^ s2 ^^^ s3) (over a b c n) = goV s1 (a.take n) ^^^ goV s2 (b.take n) ^^^ goV s3 (c.take n) := by
  induction n with
  | zero => simp [over, goV]
  | succ n ih =>
    rw [over_succ, goV_snoc, ih (by omega) (by omega) (by omega), take_snocD a n (by omega), take_snocD b n (by omega), take_snocD c n (by omega), goV_snoc, goV_snoc, goV_snoc, byteV_over]

/-- the byte's bits one by one, or all at once -/
theorem turns_ups (c : BitVec 8) (s : BitVec 16) : ∀ n, n ≤ 8 → ups n (s ^^^ wide c) = turns c n s ^^^ wide c <<< n
  | 0, _ => by simp [ups, turns]
  | n + 1, h => by
    have ih := turns_ups c s n (by omega)
    have hm : (wide c <<< n).msb = c.getLsbD (7 - n) := by
      rw [BitVec.msb_eq_getLsbD_last]
      simp [wide]
      have h1 : ¬ 15 - n < 8 := by omega
      have h2 : ¬ 15 < n := by omega
      simp [show 15 - n - 8 = 7 - n by omega, h1, h2]
    simp only [ups, turns]
    rw [ih, up_xor]
    unfold up turn
    rw [hm, show wide c <<< (n + 1) = wide c <<< n <<< 1 by rw [← BitVec.shiftLeft_add]]
    cases (turns c n s).msb <;> cases c.getLsbD (7 - n) <;> simp [xor_left, xor_right, xor_twice]
theorem turns_all (c : BitVec 8) (s : BitVec 16) : turns c 8 s = byteV s c := by
  have h := turns_ups c s 8 (by omega)
  have hz : wide c <<< 8 = 0 := by
    apply BitVec.eq_of_getLsbD_eq
    intro i hi
    simp [wide]
    try omega
  rw [hz] at h
  unfold byteV
  rw [h]; simp

/-! ### In the model's own numbers -/
def v16 (s : BitVec 16) : Int := (s.toNat : Int)
def v8 (c : BitVec 8) : Int := (c.toNat : Int)
theorem v16_in (s : BitVec 16) : 0 ≤ v16 s ∧ v16 s ≤ 65535 := by have := s.isLt; unfold v16; omega
theorem v8_in (c : BitVec 8) : 0 ≤ v8 c ∧ v8 c ≤ 255 := by have := c.isLt; unfold v8; omega
theorem v16_inj {a b : BitVec 16} (h : v16 a = v16 b) : a = b := by
  unfold v16 at h; exact BitVec.eq_of_toNat_eq (by omega)
theorem v8_inj {a b : BitVec 8} (h : v8 a = v8 b) : a = b := by
  unfold v8 at h; exact BitVec.eq_of_toNat_eq (by omega)
theorem v16_of (n : Int) (h1 : 0 ≤ n) (h2 : n ≤ 65535) : v16 (BitVec.ofInt 16 n) = n := by
  unfold v16; rw [BitVec.toNat_ofInt]; omega
theorem v8_of (n : Int) (h1 : 0 ≤ n) (h2 : n ≤ 255) : v8 (BitVec.ofInt 8 n) = n := by
  unfold v8; rw [BitVec.toNat_ofInt]; omega
theorem xor16 (a b : BitVec 16) : bits .xor .u16 (v16 a) (v16 b) = v16 (a ^^^ b) := by
  have := a.isLt
  have := b.isLt
  unfold v16
  rw [u16_xor_nat _ _ (by omega) (by omega), BitVec.toNat_xor]
theorem xor8 (a b : BitVec 8) : bits .xor .u8 (v8 a) (v8 b) = v8 (a ^^^ b) := by
  have := a.isLt
  have := b.isLt
  unfold v8
  rw [u8_xor_nat _ _ (by omega) (by omega), BitVec.toNat_xor]
theorem top_mask (s : BitVec 16) : bits .and .u16 (v16 s) 32768 = if s.msb then 32768 else 0 := by
  have hs := s.isLt
  unfold v16
  rw [show (32768 : Int) = ((32768 : Nat) : Int) from rfl, u16_and_nat _ _ (by omega) (by omega)]
  have e : s.toNat &&& 32768 = (s &&& 32768#16).toNat := by simp
  rw [e]
  have e2 : s &&& 32768#16 = if s.msb then 32768#16 else 0#16 := by
    apply BitVec.eq_of_getLsbD_eq
    intro i hi
    rw [BitVec.msb_eq_getLsbD_last]
    have hc : i = 15 ∨ i < 15 := by omega
    rcases hc with rfl | hc
    · simp; cases s[15] <;> decide
    · have : (32768#16).getLsbD i = false := by
        rw [show 32768#16 = BitVec.twoPow 16 15 from rfl, BitVec.getLsbD_twoPow]; simp; omega
      rw [BitVec.getLsbD_and, this]
      cases s.getLsbD (16 - 1) <;> simp [this]
  rw [e2]
  cases s.msb <;> rfl
theorem shl_one (s : BitVec 16) : IntKind.u16.wrap (v16 s * 2) = v16 (s <<< 1) := by
  unfold v16
  rw [IntKind.wrap_u16]
  simp [BitVec.toNat_shiftLeft, Nat.shiftLeft_eq]
theorem xor_poly (s : BitVec 16) : bits .xor .u16 (v16 s) 4129 = v16 (s ^^^ 0x1021#16) := xor16 s 0x1021#16
theorem wide_val (c : BitVec 8) : v8 c * 256 = v16 (wide c) := by
  have hc := c.isLt
  unfold wide v8 v16
  rw [BitVec.toNat_shiftLeft, BitVec.toNat_setWidth, Nat.shiftLeft_eq]
  omega
theorem xor_wide (s : BitVec 16) (c : BitVec 8) : bits .xor .u16 (v16 s) (v8 c * 256) = v16 (s ^^^ wide c) := by
  rw [wide_val, xor16]
theorem up_yes {s : BitVec 16} (h : s.msb = true) : up s = s <<< 1 ^^^ 0x1021#16 := by unfold up; rw [if_pos h]
theorem up_no {s : BitVec 16} (h : s.msb = false) : up s = s <<< 1 := by unfold up; rw [if_neg (by rw [h]; decide)]
def first : BitVec 16 := 0xffff#16
theorem first_val : v16 first = 65535 := rfl
/-- the nine bytes of the chapter's example -/
def nine : List (BitVec 8) := [49, 50, 51, 52, 53, 54, 55, 56, 57]
theorem nine_sum : goV first nine = 0x29b1#16 := by decide +kernel
end Go.Proofs.Ytdfgjfojneoljaa.s
