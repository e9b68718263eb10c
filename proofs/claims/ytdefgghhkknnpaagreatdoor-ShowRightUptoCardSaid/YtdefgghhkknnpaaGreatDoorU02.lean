/- Signs of a text, by the document's words, as functions of lists of bytes. No condition. -/
import Derived.Test.YtdefgghhkknnpaaGreatDoorU01
import Derived.Lib.Bytes
import Derived.Lib.SlBytesConst
import Derived.Lib.Strings
namespace Go.Proofs.YtdefgghhkknnpaaGreatDoor.tk
open Go.ChangeShapes Go.WideShapes Go.ChangeAt Go.RowKit Go.Proofs.YtdefgghhkknnpaaGreatDoor.k Go.Proofs.YtdefgghhkknnpaaGreatDoor.rr
set_option linter.unusedVariables false
set_option linter.unusedSimpArgs false

/-- a sign: its kind, its text, its number, its place -/
structure Tk where
  kind : Int
  text : List UInt8
  n : Int
  line : Nat
  col : Nat
def tC (t : Tk) : List Value := [.int .i64 t.kind, .string ⟨t.text.toArray⟩, .int .i64 t.n, .int .i64 t.line, .int .i64 t.col]
theorem tC_len (t : Tk) : (tC t).length = 5 := rfl
theorem tC_one (t : Tk) : ∀ u ∈ tC t, u.oneCell' = true := by
  intro u hu
  simp only [tC, List.mem_cons, List.not_mem_nil, or_false] at hu
  rcases hu with rfl | rfl | rfl | rfl | rfl <;> rfl
/-- the place behind a byte -/
def stepP (p : Nat × Nat) (b : UInt8) : Nat × Nat := if b = 10 then (p.1 + 1, 1) else (p.1, p.2 + 1)
def plc (l : List UInt8) : Nat × Nat := l.foldl stepP (1, 1)
/-- the place of what is left, r, in the whole, s -/
def plAt (s r : List UInt8) : Nat × Nat := plc (s.take (s.length - r.length))
def alphaB (c : UInt8) : Bool := (65 ≤ c && c ≤ 90) || (97 ≤ c && c ≤ 122)
def numB (c : UInt8) : Bool := 48 ≤ c && c ≤ 57
def bodyB (c : UInt8) : Bool := alphaB c || (numB c || c == 95)
def bodyLen : List UInt8 → Nat
  | [] => 0
  | c :: l => if bodyB c = true then bodyLen l + 1 else 0
def two : List UInt8 → UInt8 → UInt8 → Bool
  | x :: y :: _, a, b => x == a && y == b
  | _, _, _ => false
def lineRest : List UInt8 → List UInt8
  | [] => []
  | c :: l => if c = 10 then c :: l else lineRest l
def endRest : List UInt8 → Option (List UInt8)
  | [] => none
  | c :: l => if two (c :: l) 42 41 = true then some (l.drop 1) else endRest l
/-- past what parts signs; false: a remark without its end -/
def pastF : Nat → List UInt8 → Bool × List UInt8
  | 0, r => (true, r)
  | f + 1, [] => (true, [])
  | f + 1, c :: l =>
    if c = 32 ∨ c = 10 ∨ c = 9 then pastF f l
    else if two (c :: l) 47 47 = true then pastF f (lineRest l)
    else if two (c :: l) 40 42 = true then
      match endRest (l.drop 1) with
      | some r => pastF f r
      | none => (false, c :: l)
    else (true, c :: l)
def past (r : List UInt8) : Bool × List UInt8 := pastF (r.length + 1) r
def words : List (List UInt8) := [
    [80, 82, 79, 71, 82, 65, 77],
    [69, 78, 68, 95, 80, 82, 79, 71, 82, 65, 77],
    [86, 65, 82],
    [86, 65, 82, 95, 73, 78, 80, 85, 84],
    [86, 65, 82, 95, 79, 85, 84, 80, 85, 84],
    [69, 78, 68, 95, 86, 65, 82],
    [73, 78, 84],
    [66, 79, 79, 76],
    [65, 82, 82, 65, 89],
    [79, 70],
    [84, 82, 85, 69],
    [70, 65, 76, 83, 69],
    [73, 70],
    [84, 72, 69, 78],
    [69, 76, 83, 73, 70],
    [69, 76, 83, 69],
    [69, 78, 68, 95, 73, 70],
    [67, 65, 83, 69],
    [69, 78, 68, 95, 67, 65, 83, 69],
    [70, 79, 82],
    [84, 79],
    [66, 89],
    [68, 79],
    [69, 78, 68, 95, 70, 79, 82],
    [87, 72, 73, 76, 69],
    [69, 78, 68, 95, 87, 72, 73, 76, 69],
    [82, 69, 80, 69, 65, 84],
    [85, 78, 84, 73, 76],
    [69, 78, 68, 95, 82, 69, 80, 69, 65, 84],
    [69, 88, 73, 84],
    [82, 69, 84, 85, 82, 78],
    [65, 78, 68],
    [79, 82],
    [88, 79, 82],
    [78, 79, 84],
    [77, 79, 68]]
def isWord (l : List UInt8) : Bool := words.any fun w => w == l
def dig (c : UInt8) (b : Nat) : Option Nat :=
  let d := if numB c = true then c.toNat - 48 else if 65 ≤ c ∧ c ≤ 70 then c.toNat - 55 else 99
  if d < b then some d else none
def digs (b : Nat) : List UInt8 → List Nat
  | [] => []
  | c :: l => match dig c b with
    | some d => d :: digs b l
    | none => []
def val (b : Nat) (ds : List Nat) : Nat := ds.foldl (fun n d => n * b + d) 0
/-- the base, and how many bytes tell it -/
def baseOf (r : List UInt8) : Nat × Nat := if two r 50 35 = true then (2, 2) else if two r 56 35 = true then (8, 2) else if (two r 49 54 && two (r.drop 1) 54 35) = true then (16, 3) else (10, 0)
def stuck : List UInt8 → Bool
  | [] => false
  | c :: _ => bodyB c || c == 35
/-- a number: the error, its value, how long it is -/
def number (r : List UInt8) : Int × Nat × Nat :=
  let b := baseOf r
  let ds := digs b.1 (r.drop b.2)
  let e := b.2 + ds.length
  if ds.isEmpty || stuck (r.drop e) then (5, 0, e) else if 9223372036854775807 < val b.1 ds then (2, 0, e) else (0, val b.1 ds, e)
def singles : List UInt8 := [43, 45, 42, 47, 40, 41, 91, 93, 46, 44, 59, 58, 60, 62, 61]
def signLen (r : List UInt8) : Nat :=
  if (two r 58 61 || (two r 60 61 || (two r 62 61 || (two r 60 62 || two r 46 46)))) = true then 2
  else match r with
    | c :: _ => if singles.contains c = true then 1 else 0
    | [] => 0
/-- a sign at the beginning: the error, the kind, the number, how long it is -/
def sgn (r : List UInt8) : Int × Int × Nat × Nat :=
  match r with
  | [] => (5, 0, 0, 0)
  | c :: l =>
    if alphaB c = true then
      let e := bodyLen (c :: l)
      if isWord (r.take e) = true then (0, 2, 0, e) else if 16 < e then (9, 0, 0, 0) else (0, 1, 0, e)
    else if numB c = true then
      let x := number (c :: l)
      if x.1 = 0 then (0, 3, x.2.1, x.2.2) else (x.1, 0, 0, 0)
    else
      let e := signLen (c :: l)
      if e = 0 then (5, 0, 0, 0) else (0, 4, 0, e)
/-- a place alone -/
def atP (p : Nat × Nat) : Tk := ⟨0, [], 0, p.1, p.2⟩
def zeroT : Tk := ⟨0, [], 0, 0, 0⟩
/-- the signs from r on, in the whole s, behind those that there are -/
def lexF (s : List UInt8) : Nat → List UInt8 → List Tk → Int × List Tk × Tk
  | 0, _, _ => (5, [], zeroT)
  | f + 1, r, acc =>
    let p := past r
    if p.1 = false then (5, [], atP (plAt s p.2))
    else if p.2 = [] then (0, acc ++ [atP (plAt s [])], zeroT)
    else
      let x := sgn p.2
      if x.1 = 0 then lexF s f (p.2.drop x.2.2.2) (acc ++ [⟨x.2.1, p.2.take x.2.2.2, x.2.2.1, (plAt s p.2).1, (plAt s p.2).2⟩]) else (x.1, [], atP (plAt s p.2))
/-- the error, the signs, the place of the error -/
def lex (s : List UInt8) : Int × List Tk × Tk := if 16384 < s.length then (13, [], atP (1, 1)) else lexF s (s.length + 1) s []
/-- the fixed answer's text -/
def awakeT : List UInt8 := [97, 58, 61, 49, 54, 35, 70, 70, 59]
theorem lex_awake : lex awakeT = (0, [⟨1, [97], 0, 1, 1⟩, ⟨4, [58, 61], 0, 1, 2⟩, ⟨3, [49, 54, 35, 70, 70], 255, 1, 4⟩, ⟨4, [59], 0, 1, 9⟩, ⟨0, [], 0, 1, 10⟩], zeroT) := by kernel_rfl
end Go.Proofs.YtdefgghhkknnpaaGreatDoor.tk
/- What the document's functions of single bytes give. No condition but what each line says. -/
namespace Go.Proofs.YtdefgghhkknnpaaGreatDoor.tk
open Go.ChangeShapes Go.WideShapes Go.ChangeAt Go.RowKit Go.Proofs.YtdefgghhkknnpaaGreatDoor.k Go.Proofs.YtdefgghhkknnpaaGreatDoor.rr
set_option linter.unusedVariables false
set_option linter.unusedSimpArgs false

theorem numB_iff (c : UInt8) : numB c = true ↔ 48 ≤ (c.toNat : Int) ∧ (c.toNat : Int) ≤ 57 := by
  unfold numB
  rw [Bool.and_eq_true, decide_eq_true_iff, decide_eq_true_iff, UInt8.le_iff_toNat_le, UInt8.le_iff_toNat_le]
  simp
  omega
theorem alphaB_iff (c : UInt8) : alphaB c = true ↔ (65 ≤ (c.toNat : Int) ∧ (c.toNat : Int) ≤ 90) ∨ (97 ≤ (c.toNat : Int) ∧ (c.toNat : Int) ≤ 122) := by
  unfold alphaB
  rw [Bool.or_eq_true, Bool.and_eq_true, Bool.and_eq_true, decide_eq_true_iff, decide_eq_true_iff, decide_eq_true_iff, decide_eq_true_iff, UInt8.le_iff_toNat_le, UInt8.le_iff_toNat_le, UInt8.le_iff_toNat_le, UInt8.le_iff_toNat_le]
  simp
  omega
theorem u8_eq (c : UInt8) (n : Nat) (hn : n < 256) : ((c.toNat : Int) == (n : Int)) = (c == UInt8.ofNat n) := by
  rw [Bool.eq_iff_iff, beq_iff_eq, beq_iff_eq]
  constructor
  · intro h
    rw [← show c.toNat = n by omega]
    simp
  · rintro rfl
    rw [UInt8.toNat_ofNat']
    simp
    omega
end Go.Proofs.YtdefgghhkknnpaaGreatDoor.tk
/- Two bytes at a place, and a digit's value, as the document's functions tell them. No condition but what each line says. -/
namespace Go.Proofs.YtdefgghhkknnpaaGreatDoor.tk
open Go.ChangeShapes Go.WideShapes Go.ChangeAt Go.RowKit Go.Proofs.YtdefgghhkknnpaaGreatDoor.k Go.Proofs.YtdefgghhkknnpaaGreatDoor.rr
set_option linter.unusedVariables false
set_option linter.unusedSimpArgs false

/-- what is left of a text from a place on -/
def dr (s : ByteArray) (n : Nat) : List UInt8 := s.data.toList.drop n
theorem size_len (s : ByteArray) : s.data.toList.length = s.size := (Lib.size_eq s).symm
theorem dr_len (s : ByteArray) (n : Nat) : (dr s n).length = s.size - n := by unfold dr; rw [List.length_drop, size_len]
theorem dr_at {s : ByteArray} {n : Nat} (h : n < s.size) : dr s n = s[n] :: dr s (n + 1) := by
  have h2 : n < s.data.toList.length := by rw [size_len]; exact h
  unfold dr
  rw [List.drop_eq_getElem_cons h2]
  rfl
theorem two_cons (x y : UInt8) (l : List UInt8) (a b : UInt8) : two (x :: y :: l) a b = (x == a && y == b) := rfl
theorem dr_end {s : ByteArray} {n : Nat} (h : s.size ≤ n) : dr s n = [] := List.eq_nil_of_length_eq_zero (by rw [dr_len]; omega)
theorem dr_drop (s : ByteArray) (n m : Nat) : (dr s n).drop m = dr s (n + m) := by unfold dr; rw [List.drop_drop]
theorem eq8 (x a : UInt8) : ((x.toNat : Int) == (a.toNat : Int)) = (x == a) := by
  rw [Bool.eq_iff_iff, beq_iff_eq, beq_iff_eq]
  constructor
  · intro h
    exact UInt8.toNat_inj.1 (by omega)
  · rintro rfl
    rfl
theorem num_byte {c : UInt8} (h : numB c = true) : 48 ≤ c.toNat ∧ c.toNat ≤ 57 := by have := (numB_iff c).1 h; omega
/-- a digit's value, 99 of what is none -/
def digV (c : UInt8) : Nat := if numB c = true then c.toNat - 48 else if 65 ≤ c ∧ c ≤ 70 then c.toNat - 55 else 99
end Go.Proofs.YtdefgghhkknnpaaGreatDoor.tk
/- The place of a byte, as the document's function tells it. Condition: the text has at most 60000 bytes. -/
namespace Go.Proofs.YtdefgghhkknnpaaGreatDoor.tk
open Go.ChangeShapes Go.WideShapes Go.ChangeAt Go.RowKit Go.Proofs.YtdefgghhkknnpaaGreatDoor.k Go.Proofs.YtdefgghhkknnpaaGreatDoor.rr
set_option linter.unusedVariables false
set_option linter.unusedSimpArgs false

theorem foldl_le : ∀ (l : List UInt8) (p : Nat × Nat), (l.foldl stepP p).1 ≤ l.length + p.1 ∧ (l.foldl stepP p).2 ≤ l.length + max p.2 1 ∧ p.1 ≤ (l.foldl stepP p).1
  | [], p => ⟨by simp, by simp; omega, by simp⟩
  | c :: l, p => by
    have h := foldl_le l (stepP p c)
    rw [List.foldl_cons, List.length_cons]
    unfold stepP at *
    split at h <;> simp at h ⊢ <;> rename_i hc <;> simp [hc] at h ⊢ <;> omega
theorem plc_le (l : List UInt8) : (plc l).1 ≤ l.length + 1 ∧ (plc l).2 ≤ l.length + 1 := by
  have := foldl_le l (1, 1)
  unfold plc
  simp at this
  omega
theorem plc_take {s : ByteArray} {n : Nat} (h : n < s.size) : plc (s.data.toList.take (n + 1)) = stepP (plc (s.data.toList.take n)) s[n] := by
  unfold plc
  have h2 : n < s.data.toList.length := by rw [size_len]; exact h
  rw [List.take_succ_eq_append_getElem h2, List.foldl_append]
  rfl
/-- the place of the byte at n -/
def plS (s : ByteArray) (n : Nat) : Nat × Nat := plc (s.data.toList.take n)
theorem plS_le (s : ByteArray) (n : Nat) : (plS s n).1 ≤ n + 1 ∧ (plS s n).2 ≤ n + 1 := by
  have h := plc_le (s.data.toList.take n)
  have h2 := List.length_take_le n s.data.toList
  unfold plS
  omega
theorem plS_at (s : ByteArray) {n : Nat} (h : n ≤ s.size) : plAt s.data.toList (dr s n) = plS s n := by
  unfold plAt plS
  rw [dr_len, size_len, show s.size - (s.size - n) = n by omega]
end Go.Proofs.YtdefgghhkknnpaaGreatDoor.tk
/- What parts signs, as the document's function passes it. Condition: the text has at most 60000 bytes. -/
namespace Go.Proofs.YtdefgghhkknnpaaGreatDoor.tk
open Go.ChangeShapes Go.WideShapes Go.ChangeAt Go.RowKit Go.Proofs.YtdefgghhkknnpaaGreatDoor.k Go.Proofs.YtdefgghhkknnpaaGreatDoor.rr
set_option linter.unusedVariables false
set_option linter.unusedSimpArgs false

theorem lineRest_suf : ∀ (l : List UInt8), lineRest l <:+ l
  | [] => List.suffix_refl _
  | c :: l => by
    rw [lineRest]
    split
    · exact List.suffix_refl _
    · exact (lineRest_suf l).trans (List.suffix_cons c l)
theorem endRest_suf : ∀ (l r : List UInt8), endRest l = some r → r <:+ l
  | [], r, h => by cases h
  | c :: l, r, h => by
    rw [endRest] at h
    split at h
    · cases h
      exact (List.drop_suffix 1 l).trans (List.suffix_cons c l)
    · exact (endRest_suf l r h).trans (List.suffix_cons c l)
theorem pastF_suf : ∀ (f : Nat) (r : List UInt8), (pastF f r).2 <:+ r
  | 0, r => List.suffix_refl _
  | f + 1, [] => List.suffix_refl _
  | f + 1, c :: l => by
    rw [pastF]
    split
    · exact (pastF_suf f l).trans (List.suffix_cons c l)
    · split
      · exact ((pastF_suf f _).trans (lineRest_suf l)).trans (List.suffix_cons c l)
      · split
        · split
          · rename_i r h
            exact (((pastF_suf f r).trans (endRest_suf _ _ h)).trans (List.drop_suffix 1 l)).trans (List.suffix_cons c l)
          · exact List.suffix_refl _
        · exact List.suffix_refl _
/-- where it ends -/
def pastN (s : ByteArray) (n : Nat) : Nat := s.size - (past (dr s n)).2.length
theorem suf_dr {s : ByteArray} {n : Nat} {r : List UInt8} (h : r <:+ dr s n) (hn : n ≤ s.size) : r = dr s (s.size - r.length) ∧ n ≤ s.size - r.length ∧ s.size - r.length ≤ s.size := by
  have hl := h.length_le
  rw [dr_len] at hl
  refine ⟨?_, by omega, by omega⟩
  have h2 := List.suffix_iff_eq_drop.1 h
  rw [dr_len, dr_drop, show n + (s.size - n - r.length) = s.size - r.length by omega] at h2
  exact h2
theorem pastN_dr {s : ByteArray} {n : Nat} (hn : n ≤ s.size) : (past (dr s n)).2 = dr s (pastN s n) ∧ n ≤ pastN s n ∧ pastN s n ≤ s.size := suf_dr (pastF_suf _ _) hn
theorem two_len {s : ByteArray} {n : Nat} {a b : UInt8} (h : two (dr s n) a b = true) : n + 1 < s.size := by
  have hl := dr_len s n
  match dr s n, hl, h with
  | [], _, h => cases h
  | [_], _, h => cases h
  | _ :: _ :: l, hl, _ => simp at hl; omega
theorem eq8n (x : UInt8) (m : Nat) (hm : m < 256) : ((x.toNat : Int) == (m : Int)) = (x == UInt8.ofNat m) := u8_eq x m hm
end Go.Proofs.YtdefgghhkknnpaaGreatDoor.tk
/- The words, as the document's function knows them. No condition. -/
namespace Go.Proofs.YtdefgghhkknnpaaGreatDoor.tk
open Go.ChangeShapes Go.WideShapes Go.ChangeAt Go.RowKit Go.Proofs.YtdefgghhkknnpaaGreatDoor.k Go.Proofs.YtdefgghhkknnpaaGreatDoor.rr
set_option linter.unusedVariables false
set_option linter.unusedSimpArgs false

theorem bytes_beq (l : List UInt8) (s : ByteArray) : ((⟨l.toArray⟩ : ByteArray).toList == s.toList) = (l == s.data.toList) := by
  rw [ByteArray.toList_eq, ByteArray.toList_eq]
theorem words_len : words.length = 36 := rfl
end Go.Proofs.YtdefgghhkknnpaaGreatDoor.tk
/- The signs that are no names and no numbers, as the document's function knows them. Condition: the text has at most 60000 bytes. -/
namespace Go.Proofs.YtdefgghhkknnpaaGreatDoor.tk
open Go.ChangeShapes Go.WideShapes Go.ChangeAt Go.RowKit Go.Proofs.YtdefgghhkknnpaaGreatDoor.k Go.Proofs.YtdefgghhkknnpaaGreatDoor.rr
set_option linter.unusedVariables false
set_option linter.unusedSimpArgs false

theorem singles_len : singles.length = 15 := rfl
end Go.Proofs.YtdefgghhkknnpaaGreatDoor.tk
/- A number, as the document's function reads it. Conditions: the text has at most 60000 bytes; it is asked at one of them. -/
namespace Go.Proofs.YtdefgghhkknnpaaGreatDoor.tk
open Go.ChangeShapes Go.WideShapes Go.ChangeAt Go.RowKit Go.Proofs.YtdefgghhkknnpaaGreatDoor.k Go.Proofs.YtdefgghhkknnpaaGreatDoor.rr
set_option linter.unusedVariables false
set_option linter.unusedSimpArgs false

theorem dig_eq (c : UInt8) (b : Nat) : dig c b = if digV c < b then some (digV c) else none := rfl
theorem digs_yes {c : UInt8} {b : Nat} (h : digV c < b) (l : List UInt8) : digs b (c :: l) = digV c :: digs b l := by rw [digs, dig_eq, if_pos h]
theorem digs_no {c : UInt8} {b : Nat} (h : ¬ digV c < b) (l : List UInt8) : digs b (c :: l) = [] := by rw [digs, dig_eq, if_neg h]
theorem val_snoc (b : Nat) (l : List Nat) (d : Nat) : val b (l ++ [d]) = val b l * b + d := by unfold val; rw [List.foldl_append]; rfl
theorem ov1 {v b d : Nat} (hb : 1 ≤ b) (h : 9223372036854775807 < v) : 9223372036854775807 < v * b + d := Nat.lt_of_lt_of_le h (Nat.le_trans (Nat.le_mul_of_pos_right v hb) (Nat.le_add_right _ _))
theorem ov2 {v b d : Nat} (hb : 1 ≤ b) (hd : d ≤ 99) (h : (9223372036854775807 - d) / b < v) : 9223372036854775807 < v * b + d := by
  have := (Nat.div_lt_iff_lt_mul hb).1 h
  omega
theorem ov3 {v b d : Nat} (hb : 1 ≤ b) (hd : d ≤ 99) (h : ¬ (9223372036854775807 - d) / b < v) : v * b + d ≤ 9223372036854775807 := by
  have := (Nat.le_div_iff_mul_le hb).1 (Nat.le_of_not_lt h)
  omega
theorem digV_le (c : UInt8) : digV c ≤ 99 := by
  unfold digV
  split
  · have := c.toNat_lt; rename_i h; have := num_byte h; omega
  · split
    · rename_i h h2
      have h3 := UInt8.le_iff_toNat_le.1 h2.2
      simp at h3
      omega
    · omega
/-- how far a number's digits have been read -/
structure Rd1 (b : Nat) (D : List Nat) (rest : List Nat) (q v : Nat) (so ov : Bool) : Prop where
  le : q ≤ D.length
  drp : D.drop q = rest
  hso : so = decide (0 < q)
  hov : ov = decide (9223372036854775807 < val b (D.take q))
  hv : ov = false → v = val b (D.take q)
  mx : v ≤ 9223372036854775807
theorem Rd1.start (b : Nat) (D : List Nat) : Rd1 b D D 0 0 false false := ⟨Nat.zero_le _, rfl, rfl, rfl, fun _ => rfl, by omega⟩
theorem Rd1.take1 {b : Nat} {D rest : List Nat} {q v d : Nat} {so ov : Bool} (h : Rd1 b D (d :: rest) q v so ov) : q + 1 ≤ D.length ∧ D.drop (q + 1) = rest ∧ val b (D.take (q + 1)) = val b (D.take q) * b + d := by
  have h1 : q < D.length := by
    have := congrArg List.length h.drp
    rw [List.length_drop, List.length_cons] at this
    omega
  have h2 := List.drop_eq_getElem_cons h1
  rw [h.drp] at h2
  injection h2 with h3 h4
  refine ⟨h1, h4.symm, ?_⟩
  rw [List.take_succ_eq_append_getElem h1, val_snoc, ← h3]
theorem Rd1.over {b : Nat} {D rest : List Nat} {q v d : Nat} {so ov : Bool} (h : Rd1 b D (d :: rest) q v so ov) (hb : 1 ≤ b) (hd : d ≤ 99) (hv : (9223372036854775807 - d) / b < v) : Rd1 b D rest (q + 1) v true true := by
  obtain ⟨h1, h2, h3⟩ := h.take1
  refine ⟨h1, h2, by simp, ?_, (fun h => by cases h), h.mx⟩
  rw [h3]
  symm
  rw [decide_eq_true_iff]
  cases hov : ov
  · rw [← h.hv hov]
    exact ov2 hb hd hv
  · have := h.hov
    rw [hov] at this
    exact ov1 hb (of_decide_eq_true this.symm)
theorem Rd1.more {b : Nat} {D rest : List Nat} {q v d : Nat} {so ov : Bool} (h : Rd1 b D (d :: rest) q v so ov) (hb : 1 ≤ b) (hd : d ≤ 99) (hv : ¬ (9223372036854775807 - d) / b < v) : Rd1 b D rest (q + 1) (v * b + d) true ov := by
  obtain ⟨h1, h2, h3⟩ := h.take1
  refine ⟨h1, h2, by simp, ?_, fun hov => by rw [h3, ← h.hv hov], ov3 hb hd hv⟩
  rw [h3]
  cases hov : ov
  · symm
    rw [decide_eq_false_iff_not, ← h.hv hov]
    have := ov3 hb hd hv
    omega
  · symm
    rw [decide_eq_true_iff]
    have := h.hov
    rw [hov] at this
    exact ov1 hb (of_decide_eq_true this.symm)
theorem Rd1.end {b : Nat} {D : List Nat} {q v : Nat} {so ov : Bool} (h : Rd1 b D [] q v so ov) : q = D.length ∧ so = !D.isEmpty ∧ ov = decide (9223372036854775807 < val b D) ∧ (ov = false → v = val b D) := by
  have h1 : q = D.length := by
    have h2 := h.drp
    rw [List.drop_eq_nil_iff] at h2
    have := h.le
    omega
  have h3 : D.take q = D := by rw [h1, List.take_length]
  refine ⟨h1, ?_, by rw [h.hov, h3], fun hov => by rw [h.hv hov, h3]⟩
  rw [h.hso, h1]
  cases D <;> simp
theorem num_eq (r : List UInt8) (b h : Nat) (D : List Nat) (hb : baseOf r = (b, h)) (hD : digs b (r.drop h) = D) :
    number r = if (D.isEmpty || stuck (r.drop (h + D.length))) = true then (5, 0, h + D.length) else if 9223372036854775807 < val b D then (2, 0, h + D.length) else (0, val b D, h + D.length) := by
  unfold number
  rw [hb]
  simp only
  rw [hD]
end Go.Proofs.YtdefgghhkknnpaaGreatDoor.tk
/- The signs of a text, as the document's function gives them. Condition: the text has at most 60000 bytes. -/
namespace Go.Proofs.YtdefgghhkknnpaaGreatDoor.tk
open Go.ChangeShapes Go.WideShapes Go.ChangeAt Go.RowKit Go.Proofs.YtdefgghhkknnpaaGreatDoor.k Go.Proofs.YtdefgghhkknnpaaGreatDoor.rr
set_option linter.unusedVariables false
set_option linter.unusedSimpArgs false

theorem results_ttc {P : Program} {fn : Func} {t u c : Tmp} {T : TypeId} (h : fn.results = #[.tmp t, .tmp u, .cell c T]) {tmps : Array Value} {w : World} {b o : Nat} {v : Value} (ht : tmps.getD c undef = .pointer (some ⟨b, o, none⟩))
    (hl : (loadVar T ⟨b, o, none⟩).run P w = .ok v w) : (results fn tmps).run P w = .ok (.tuple #[tmps.getD t undef, tmps.getD u undef, v]) w := by
  have ha : (asAddr (.pointer (some ⟨b, o, none⟩)) : Sem Addr) = pure ⟨b, o, none⟩ := rfl
  have ht2 : tmps[c]?.getD undef = .pointer (some ⟨b, o, none⟩) := by rw [← ht]; simp
  rw [results, h]
  simp [ht2, ha, hl]
theorem tok_info : (Tryz.prog.info? 34).map (fun i => (i.zero, i.size, i.bytes)) = some (some (.agg #[.int .i64 0, .string ⟨#[]⟩, .int .i64 0, .int .i64 0, .int .i64 0]), 5, 48) := by kernel_rfl
theorem toks_slice : Tryz.prog.underlying 65 = some (.slice 34) := by kernel_rfl
/-- what a call gives: the row of signs, the error, its place -/
def GotL (s : ByteArray) (w : World) (e : Ending) (w' : World) : Prop :=
  ∃ A n c, e = .returned (.tuple #[.slice A n c, .int .i64 (lex s.data.toList).1, .agg (tC (lex s.data.toList).2.2).toArray]) ∧ rr.Rd tC 5 w' w'.heap.size A n c (lex s.data.toList).2.1 ∧ Below w.heap.size w w'
section
variable {s r : List UInt8} {f : Nat} {acc : List Tk}
theorem lexF_bad (h : (past r).1 = false) : lexF s (f + 1) r acc = (5, [], atP (plAt s (past r).2)) := by rw [lexF]; simp only [h, if_true]
theorem lexF_end (h : (past r).1 = true) (h2 : (past r).2 = []) : lexF s (f + 1) r acc = (0, acc ++ [atP (plAt s [])], zeroT) := by
  rw [lexF]
  simp only [h, h2, if_true, Bool.true_eq_false, if_false]
theorem lexF_err (h : (past r).1 = true) (h2 : (past r).2 ≠ []) (h3 : (sgn (past r).2).1 ≠ 0) : lexF s (f + 1) r acc = ((sgn (past r).2).1, [], atP (plAt s (past r).2)) := by
  rw [lexF]
  simp only [h, h2, h3, Bool.true_eq_false, if_false]
theorem lexF_tok (h : (past r).1 = true) (h2 : (past r).2 ≠ []) (h3 : (sgn (past r).2).1 = 0) : lexF s (f + 1) r acc = lexF s f ((past r).2.drop (sgn (past r).2).2.2.2) (acc ++ [⟨(sgn (past r).2).2.1, (past r).2.take (sgn (past r).2).2.2.2, (sgn (past r).2).2.2.1, (plAt s (past r).2).1, (plAt s (past r).2).2⟩]) := by
  rw [lexF]
  simp only [h, h2, h3, if_true, Bool.true_eq_false, if_false]
end
theorem extract_dr (s : ByteArray) (a b : Nat) : s.extract a b = ⟨((dr s a).take (b - a)).toArray⟩ := by
  apply ByteArray.ext
  apply Array.toList_inj.1
  rw [Lib.extract_data]
  rfl
theorem bodyLen_le : ∀ (l : List UInt8), bodyLen l ≤ l.length
  | [] => Nat.le_refl _
  | c :: l => by
    have := bodyLen_le l
    rw [bodyLen, List.length_cons]
    split <;> omega
theorem form_above {α : Type} {enc : α → List Value} {z : Nat} (hlz : ∀ x, (enc x).length = z) {t : TypeId} {w W : World} {base : Nat} {v : Value} {L : List α} (h : rr.Ow enc z t w base v L) (ha : Above base w W) (hs : W.heap.size = w.heap.size) :
    ∃ A cap, v = .slice A L.length cap ∧ rr.Rd enc z W W.heap.size A L.length cap L := by
  have h0 := h
  rcases h0.2 with ⟨rfl, h1⟩ | ⟨g, cap, cur, rfl, hbg, hg, hnc, hcm, _, _⟩
  · have hL : L = [] := List.eq_nil_of_length_eq_zero h1
    subst hL
    exact ⟨none, 0, rfl, Rd.none_ _ _ _ _⟩
  · refine ⟨_, cap, rfl, rfl, hnc, hcm, (fun h => by cases h), fun hp => ⟨g, 0, rfl, ?_, fun i x hx j u hu => ?_⟩⟩
    · rw [hs]
      exact (Array.getElem?_eq_some_iff.1 hg).1
    · have hj : j < z := by rw [← hlz x]; exact (List.getElem?_eq_some_iff.1 hu).1
      have hc := World.ownsRow.cells (g := g) h rfl (i * z + j) u (by rw [flat_at enc z hlz L i j x hx hj, hu])
      have e : (Addr.add ⟨g, 0, none⟩ (i * z + j)) = ⟨g, 0 + i * z + j, none⟩ := by unfold Addr.add; by_cases h : i * z + j = 0 <;> simp [h]; omega
      rw [e] at hc
      rw [ha g _ hbg]
      exact hc
theorem box_drew {w : World} {g : Nat} : ∀ {vs : List Value} {o : Nat}, Box w g o vs → Box w.drew g o vs
  | [], _, _ => trivial
  | v :: vs, o, h => ⟨h.1, h.2.1, box_drew h.2.2⟩
section
variable {x : UInt8} {l : List UInt8}
theorem sgn_num {v n : Nat} (h1 : alphaB x = false) (h2 : numB x = true) (h3 : number (x :: l) = (0, v, n)) : sgn (x :: l) = (0, 3, v, n) := by
  unfold sgn
  simp only [h1, h2, h3, Bool.false_eq_true, if_true, if_false]
theorem sgn_nume {e : Int} {v n : Nat} (h1 : alphaB x = false) (h2 : numB x = true) (h3 : number (x :: l) = (e, v, n)) (h4 : e ≠ 0) : sgn (x :: l) = (e, 0, 0, 0) := by
  unfold sgn
  simp only [h1, h2, h3, h4, Bool.false_eq_true, if_true, if_false]
theorem sgn_sign (h1 : alphaB x = false) (h2 : numB x = false) (h3 : signLen (x :: l) ≠ 0) : sgn (x :: l) = (0, 4, 0, signLen (x :: l)) := by
  unfold sgn
  simp only [h1, h2, h3, Bool.false_eq_true, if_false]
theorem sgn_none (h1 : alphaB x = false) (h2 : numB x = false) (h3 : signLen (x :: l) = 0) : sgn (x :: l) = (5, 0, 0, 0) := by
  unfold sgn
  simp only [h1, h2, h3, Bool.false_eq_true, if_true, if_false]
theorem sgn_word (h1 : alphaB x = true) (h2 : isWord ((x :: l).take (bodyLen (x :: l))) = true) : sgn (x :: l) = (0, 2, 0, bodyLen (x :: l)) := by
  unfold sgn
  simp only [h1, h2, if_true]
theorem sgn_long (h1 : alphaB x = true) (h2 : isWord ((x :: l).take (bodyLen (x :: l))) = false) (h3 : 16 < bodyLen (x :: l)) : sgn (x :: l) = (9, 0, 0, 0) := by
  unfold sgn
  simp only [h1, h2, h3, Bool.false_eq_true, if_true, if_false]
theorem sgn_name (h1 : alphaB x = true) (h2 : isWord ((x :: l).take (bodyLen (x :: l))) = false) (h3 : ¬ 16 < bodyLen (x :: l)) : sgn (x :: l) = (0, 1, 0, bodyLen (x :: l)) := by
  unfold sgn
  simp only [h1, h2, h3, Bool.false_eq_true, if_true, if_false]
end
theorem signLen_le (r : List UInt8) : signLen r ≤ r.length ∧ signLen r ≤ 2 := by
  unfold signLen
  match r with
  | [] => simp [two]
  | [a] => simp only [two, Bool.or_self, Bool.false_eq_true, if_false]; split <;> simp
  | a :: b :: l => split <;> (try split) <;> (try split) <;> simp
theorem digs_len (b : Nat) : ∀ (l : List UInt8), (digs b l).length ≤ l.length
  | [] => Nat.le_refl _
  | c :: l => by
    have := digs_len b l
    rw [digs]
    split <;> simp <;> omega
theorem base_len (r : List UInt8) : (baseOf r).2 ≤ r.length := by
  unfold baseOf
  split
  · rename_i h
    match r, h with
    | _ :: _ :: l, _ => simp
  · split
    · rename_i h
      match r, h with
      | _ :: _ :: l, _ => simp
    · split
      · rename_i h
        match r, h with
        | _ :: _ :: _ :: l, _ => simp
        | [_, _], h => simp [two] at h
        | [_], h => simp [two] at h
        | [], h => simp [two] at h
      · exact Nat.zero_le _
theorem number_len {r : List UInt8} {e : Int} {v n : Nat} (h : number r = (e, v, n)) : n ≤ r.length ∧ (e = 0 → 1 ≤ n) := by
  unfold number at h
  have h1 := digs_len (baseOf r).1 (r.drop (baseOf r).2)
  have h2 := base_len r
  rw [List.length_drop] at h1
  simp only at h
  split at h
  · cases h
    exact ⟨by omega, fun h => by cases h⟩
  · rename_i h3
    have h4 : digs (baseOf r).1 (r.drop (baseOf r).2) ≠ [] := by
      intro e
      rw [e] at h3
      simp at h3
    have h5 : 1 ≤ (digs (baseOf r).1 (r.drop (baseOf r).2)).length := by
      rcases Nat.eq_zero_or_pos (digs (baseOf r).1 (r.drop (baseOf r).2)).length with h | h
      · exact absurd (List.eq_nil_of_length_eq_zero h) h4
      · exact h
    split at h <;> cases h <;> exact ⟨by omega, fun _ => by omega⟩
theorem alpha_body {c : UInt8} (h : alphaB c = true) : bodyB c = true := by unfold bodyB; rw [h]; rfl
end Go.Proofs.YtdefgghhkknnpaaGreatDoor.tk
/- Where the signs of a text stand: one behind the other, each where its text is. No condition but what each line says. -/
namespace Go.Proofs.YtdefgghhkknnpaaGreatDoor.tk
open Go.ChangeShapes Go.WideShapes Go.ChangeAt Go.RowKit Go.Proofs.YtdefgghhkknnpaaGreatDoor.k Go.Proofs.YtdefgghhkknnpaaGreatDoor.rr
set_option linter.unusedVariables false
set_option linter.unusedSimpArgs false

/-- signs from a byte on, one behind the other; the last is the end's -/
def Placed (s : List UInt8) : Nat → List Tk → Prop
  | _, [] => False
  | o, t :: l => ∃ p, o ≤ p ∧ p ≤ s.length ∧ (t.line, t.col) = plc (s.take p) ∧ (s.drop p).take t.text.length = t.text ∧ p + t.text.length ≤ s.length ∧ ((l = [] ∧ t.kind = 0 ∧ p = s.length) ∨ Placed s (p + 1) l)
theorem Placed.mono {s : List UInt8} {o o' : Nat} : ∀ {M : List Tk}, Placed s o M → o' ≤ o → Placed s o' M
  | [], h, _ => h
  | t :: l, ⟨p, h1, h2⟩, h => ⟨p, by omega, h2⟩
theorem plc_pos (l : List UInt8) : 1 ≤ (plc l).1 ∧ 1 ≤ (plc l).2 := by
  have : ∀ (l : List UInt8) (p : Nat × Nat), 1 ≤ p.1 → 1 ≤ p.2 → 1 ≤ (l.foldl stepP p).1 ∧ 1 ≤ (l.foldl stepP p).2 := by
    intro l
    induction l with
    | nil => intro p h1 h2; exact ⟨h1, h2⟩
    | cons c l ih =>
      intro p h1 h2
      rw [List.foldl_cons]
      refine ih _ ?_ ?_ <;> unfold stepP <;> split <;> simp <;> omega
  exact this l (1, 1) (by simp) (by simp)
theorem plc_next {s : List UInt8} {p : Nat} (h : p < s.length) : plc (s.take (p + 1)) = stepP (plc (s.take p)) s[p] := by
  unfold plc
  rw [List.take_succ_eq_append_getElem h, List.foldl_append]
  rfl
theorem plc_grows {s : List UInt8} {i : Nat} : ∀ d, i + d ≤ s.length → (plc (s.take i)).1 < (plc (s.take (i + d))).1 ∨ ((plc (s.take (i + d))).1 = (plc (s.take i)).1 ∧ (plc (s.take (i + d))).2 = (plc (s.take i)).2 + d)
  | 0, _ => .inr ⟨rfl, rfl⟩
  | d + 1, h => by
    have ih := plc_grows (s := s) (i := i) d (by omega)
    rw [show i + (d + 1) = i + d + 1 by omega, plc_next (by omega)]
    unfold stepP
    split
    · left
      rcases ih with h | h <;> simp <;> omega
    · rcases ih with h | h
      · left; exact h
      · right
        simp
        omega
theorem plc_inj {s : List UInt8} {i p : Nat} (hip : i ≤ p) (hp : p ≤ s.length) (h : plc (s.take p) = plc (s.take i)) : p = i := by
  have := plc_grows (s := s) (i := i) (p - i) (by omega)
  rw [show i + (p - i) = p by omega, h] at this
  omega
theorem sgn_len {r : List UInt8} {k : Int} {v n : Nat} (h : sgn r = (0, k, v, n)) : 1 ≤ n ∧ n ≤ r.length := by
  match r, h with
  | [], h => simp [sgn] at h
  | c :: l, h =>
    unfold sgn at h
    simp only at h
    split at h
    · rename_i hal
      have h1 := bodyLen_le (c :: l)
      have h2 : 1 ≤ bodyLen (c :: l) := by rw [bodyLen, if_pos (alpha_body hal)]; omega
      split at h
      · cases h; exact ⟨h2, h1⟩
      · split at h
        · cases h
        · cases h; exact ⟨h2, h1⟩
    · split at h
      · obtain ⟨⟨e, v', n'⟩, hx⟩ : ∃ q, number (c :: l) = q := ⟨_, rfl⟩
        rw [hx] at h
        have h1 := number_len hx
        simp only at h
        split at h
        · rename_i he
          cases h
          exact ⟨h1.2 he, h1.1⟩
        · rename_i he
          cases h
          exact absurd rfl he
      · have h1 := signLen_le (c :: l)
        split at h
        · cases h
        · cases h; exact ⟨by omega, h1.1⟩
theorem past_suf (r : List UInt8) : (past r).2 <:+ r := pastF_suf _ _
theorem lexF_placed (s : List UInt8) : ∀ (f o : Nat) (acc : List Tk) (er : Int) (M : List Tk) (z : Tk), o ≤ s.length → s.length - o < f → lexF s f (s.drop o) acc = (er, M, z) →
    (er = 0 → ∃ M', M = acc ++ M' ∧ Placed s o M' ∧ z = zeroT) ∧ (er ≠ 0 → M = [] ∧ z = ⟨0, [], 0, z.line, z.col⟩ ∧ 1 ≤ z.line ∧ 1 ≤ z.col)
  | 0, o, acc, er, M, z, ho, hf, h => by omega
  | f + 1, o, acc, er, M, z, ho, hf, h => by
    have hsuf := past_suf (s.drop o)
    have hle := hsuf.length_le
    rw [List.length_drop] at hle
    obtain ⟨p, hp, hop⟩ : ∃ p, (past (s.drop o)).2 = s.drop p ∧ (o ≤ p ∧ p ≤ s.length) := by
      have h2 := List.suffix_iff_eq_drop.1 hsuf
      rw [List.drop_drop, List.length_drop] at h2
      exact ⟨_, h2, by omega, by omega⟩
    have hpl : plAt s (s.drop p) = plc (s.take p) := by
      unfold plAt
      rw [List.length_drop, show s.length - (s.length - p) = p by omega]
    have hpos := plc_pos (s.take p)
    cases hok : (past (s.drop o)).1
    · rw [lexF_bad hok, hp, hpl] at h
      cases h
      exact ⟨(fun h => absurd h (by decide)), fun _ => ⟨rfl, rfl, hpos⟩⟩
    · by_cases hend : p = s.length
      · have h0 : (past (s.drop o)).2 = [] := by rw [hp, hend, List.drop_length]
        have hpl2 : plAt s [] = plc (s.take p) := by rw [← hpl, hend, List.drop_length]
        rw [lexF_end hok h0, hpl2] at h
        cases h
        exact ⟨fun _ => ⟨[atP (plc (s.take p))], rfl, (show Placed s o [atP (plc (s.take p))] from ⟨p, hop.1, hop.2, rfl, rfl, by simp [atP]; omega, .inl ⟨rfl, rfl, hend⟩⟩), rfl⟩, fun h => absurd rfl h⟩
      · have h0 : (past (s.drop o)).2 ≠ [] := by
          rw [hp]
          intro e
          have := congrArg List.length e
          rw [List.length_drop] at this
          simp at this
          omega
        obtain ⟨⟨e, k, v, n⟩, hsg⟩ : ∃ q, sgn (s.drop p) = q := ⟨_, rfl⟩
        by_cases he : e = 0
        · subst he
          have hn := sgn_len hsg
          rw [List.length_drop] at hn
          rw [lexF_tok hok h0 (by rw [hp, hsg]), hp, hsg, hpl] at h
          simp only at h
          rw [List.drop_drop] at h
          have ih := lexF_placed s f (p + n) _ er M z (by omega) (by omega) h
          refine ⟨fun h => ?_, ih.2⟩
          obtain ⟨M', h1, h2, h3⟩ := ih.1 h
          refine ⟨⟨k, (s.drop p).take n, v, (plc (s.take p)).1, (plc (s.take p)).2⟩ :: M', by rw [h1, List.append_assoc]; rfl, ⟨p, hop.1, hop.2, rfl, ?_, ?_, .inr (h2.mono (by omega))⟩, h3⟩
          · simp only [List.length_take, List.length_drop]
            rw [Nat.min_eq_left hn.2]
          · simp only [List.length_take, List.length_drop]
            omega
        · rw [lexF_err hok h0 (by rw [hp, hsg]; exact he), hp, hsg, hpl] at h
          cases h
          exact ⟨fun h => absurd h he, fun _ => ⟨rfl, rfl, hpos⟩⟩
theorem lex_placed {s : List UInt8} {er : Int} {M : List Tk} {z : Tk} (h : lex s = (er, M, z)) : (er = 0 → Placed s 0 M ∧ z = zeroT) ∧ (er ≠ 0 → M = [] ∧ z = ⟨0, [], 0, z.line, z.col⟩ ∧ 1 ≤ z.line ∧ 1 ≤ z.col) := by
  unfold lex at h
  split at h
  · cases h
    exact ⟨(fun h => absurd h (by decide)), fun _ => ⟨rfl, rfl, by simp [atP], by simp [atP]⟩⟩
  · have := lexF_placed s (s.length + 1) 0 [] er M z (Nat.zero_le _) (by omega) (by rw [List.drop_zero]; exact h)
    refine ⟨fun he => ?_, this.2⟩
    obtain ⟨M', h1, h2, h3⟩ := this.1 he
    rw [List.nil_append] at h1
    subst h1
    exact ⟨h2, h3⟩
theorem Placed.last {s : List UInt8} : ∀ {M : List Tk} {o : Nat}, Placed s o M → ∃ t, M[M.length - 1]? = some t ∧ t.kind = 0
  | [], o, h => h.elim
  | [t], o, ⟨p, _, _, _, _, _, h⟩ => ⟨t, rfl, h.elim (fun h => h.2.1) (fun h => h.elim)⟩
  | t :: u :: l, o, ⟨p, _, _, _, _, _, h⟩ => by
    rcases h with ⟨h, _⟩ | h
    · cases h
    · obtain ⟨t', h1, h2⟩ := h.last
      exact ⟨t', by simpa using h1, h2⟩
end Go.Proofs.YtdefgghhkknnpaaGreatDoor.tk
