/- Signs of a text, by the document's words, as functions of lists of bytes. No condition. -/
import Derived.Test.YthdkkdgjcfjinaaLnRow
import Derived.Test.YthdkkdgjcfjinaaKOrd
namespace Go.Proofs.Ythdkkdgjcfjinaa.tk
open Go.ChangeShapes Go.WideShapes Go.ChangeAt Go.RowKit Go.Proofs.Ythdkkdgjcfjinaa.k Go.Proofs.Ythdkkdgjcfjinaa.rr
set_option linter.unusedVariables false

/-- a sign: its kind, its text, its number, its place -/
structure Tk where
  kind : Int
  text : List UInt8
  n : Int
  line : Nat
  col : Nat
def tC (t : Tk) : List Value := [.int .i64 t.kind, .string ⟨t.text.toArray⟩, .int .i64 t.n, .int .i64 t.line, .int .i64 t.col]
theorem tC_len (t : Tk) : (tC t).length = 5 := rfl
theorem tC_one (t : Tk) : ∀ u ∈ tC t, u.oneCell' = true := by
  intro u hu
  simp only [tC, List.mem_cons, List.not_mem_nil, or_false] at hu
  rcases hu with rfl | rfl | rfl | rfl | rfl <;> rfl
/-- the place behind a byte -/
def stepP (p : Nat × Nat) (b : UInt8) : Nat × Nat := if b = 10 then (p.1 + 1, 1) else (p.1, p.2 + 1)
def plc (l : List UInt8) : Nat × Nat := l.foldl stepP (1, 1)
/-- the place of what is left, r, in the whole, s -/
def plAt (s r : List UInt8) : Nat × Nat := plc (s.take (s.length - r.length))
def alphaB (c : UInt8) : Bool := (65 ≤ c && c ≤ 90) || (97 ≤ c && c ≤ 122)
def numB (c : UInt8) : Bool := 48 ≤ c && c ≤ 57
def bodyB (c : UInt8) : Bool := alphaB c || (numB c || c == 95)
def bodyLen : List UInt8 → Nat
  | [] => 0
  | c :: l => if bodyB c = true then bodyLen l + 1 else 0
def two : List UInt8 → UInt8 → UInt8 → Bool
  | x :: y :: _, a, b => x == a && y == b
  | _, _, _ => false
def lineRest : List UInt8 → List UInt8
  | [] => []
  | c :: l => if c = 10 then c :: l else lineRest l
def endRest : List UInt8 → Option (List UInt8)
  | [] => none
  | c :: l => if two (c :: l) 42 41 = true then some (l.drop 1) else endRest l
/-- past what parts signs; false: a remark without its end -/
def pastF : Nat → List UInt8 → Bool × List UInt8
  | 0, r => (true, r)
  | f + 1, [] => (true, [])
  | f + 1, c :: l =>
    if c = 32 ∨ c = 10 ∨ c = 9 then pastF f l
    else if two (c :: l) 47 47 = true then pastF f (lineRest l)
    else if two (c :: l) 40 42 = true then
      match endRest (l.drop 1) with
      | some r => pastF f r
      | none => (false, c :: l)
    else (true, c :: l)
def past (r : List UInt8) : Bool × List UInt8 := pastF (r.length + 1) r
def words : List (List UInt8) := [
    [80, 82, 79, 71, 82, 65, 77],
    [69, 78, 68, 95, 80, 82, 79, 71, 82, 65, 77],
    [86, 65, 82],
    [86, 65, 82, 95, 73, 78, 80, 85, 84],
    [86, 65, 82, 95, 79, 85, 84, 80, 85, 84],
    [69, 78, 68, 95, 86, 65, 82],
    [73, 78, 84],
    [66, 79, 79, 76],
    [65, 82, 82, 65, 89],
    [79, 70],
    [84, 82, 85, 69],
    [70, 65, 76, 83, 69],
    [73, 70],
    [84, 72, 69, 78],
    [69, 76, 83, 73, 70],
    [69, 76, 83, 69],
    [69, 78, 68, 95, 73, 70],
    [67, 65, 83, 69],
    [69, 78, 68, 95, 67, 65, 83, 69],
    [70, 79, 82],
    [84, 79],
    [66, 89],
    [68, 79],
    [69, 78, 68, 95, 70, 79, 82],
    [87, 72, 73, 76, 69],
    [69, 78, 68, 95, 87, 72, 73, 76, 69],
    [82, 69, 80, 69, 65, 84],
    [85, 78, 84, 73, 76],
    [69, 78, 68, 95, 82, 69, 80, 69, 65, 84],
    [69, 88, 73, 84],
    [82, 69, 84, 85, 82, 78],
    [65, 78, 68],
    [79, 82],
    [88, 79, 82],
    [78, 79, 84],
    [77, 79, 68]]
def isWord (l : List UInt8) : Bool := words.any fun w => w == l
def dig (c : UInt8) (b : Nat) : Option Nat :=
  let d := if numB c = true then c.toNat - 48 else if 65 ≤ c ∧ c ≤ 70 then c.toNat - 55 else 99
  if d < b then some d else none
def digs (b : Nat) : List UInt8 → List Nat
  | [] => []
  | c :: l => match dig c b with
    | some d => d :: digs b l
    | none => []
def val (b : Nat) (ds : List Nat) : Nat := ds.foldl (fun n d => n * b + d) 0
/-- the base, and how many bytes tell it -/
def baseOf (r : List UInt8) : Nat × Nat := if two r 50 35 = true then (2, 2) else if two r 56 35 = true then (8, 2) else if (two r 49 54 && two (r.drop 1) 54 35) = true then (16, 3) else (10, 0)
def stuck : List UInt8 → Bool
  | [] => false
  | c :: _ => bodyB c || c == 35
/-- a number: the error, its value, how long it is -/
def number (r : List UInt8) : Int × Nat × Nat :=
  let b := baseOf r
  let ds := digs b.1 (r.drop b.2)
  let e := b.2 + ds.length
  if ds.isEmpty || stuck (r.drop e) then (5, 0, e) else if 9223372036854775807 < val b.1 ds then (2, 0, e) else (0, val b.1 ds, e)
def singles : List UInt8 := [43, 45, 42, 47, 40, 41, 91, 93, 46, 44, 59, 58, 60, 62, 61]
def signLen (r : List UInt8) : Nat :=
  if (two r 58 61 || (two r 60 61 || (two r 62 61 || (two r 60 62 || two r 46 46)))) = true then 2
  else match r with
    | c :: _ => if singles.contains c = true then 1 else 0
    | [] => 0
/-- a sign at the beginning: the error, the kind, the number, how long it is -/
def sgn (r : List UInt8) : Int × Int × Nat × Nat :=
  match r with
  | [] => (5, 0, 0, 0)
  | c :: l =>
    if alphaB c = true then
      let e := bodyLen (c :: l)
      if isWord (r.take e) = true then (0, 2, 0, e) else if 16 < e then (9, 0, 0, 0) else (0, 1, 0, e)
    else if numB c = true then
      let x := number (c :: l)
      if x.1 = 0 then (0, 3, x.2.1, x.2.2) else (x.1, 0, 0, 0)
    else
      let e := signLen (c :: l)
      if e = 0 then (5, 0, 0, 0) else (0, 4, 0, e)
/-- a place alone -/
def atP (p : Nat × Nat) : Tk := ⟨0, [], 0, p.1, p.2⟩
def zeroT : Tk := ⟨0, [], 0, 0, 0⟩
/-- the signs from r on, in the whole s, behind those that there are -/
def lexF (s : List UInt8) : Nat → List UInt8 → List Tk → Int × List Tk × Tk
  | 0, _, _ => (5, [], zeroT)
  | f + 1, r, acc =>
    let p := past r
    if p.1 = false then (5, [], atP (plAt s p.2))
    else if p.2 = [] then (0, acc ++ [atP (plAt s [])], zeroT)
    else
      let x := sgn p.2
      if x.1 = 0 then lexF s f (p.2.drop x.2.2.2) (acc ++ [⟨x.2.1, p.2.take x.2.2.2, x.2.2.1, (plAt s p.2).1, (plAt s p.2).2⟩]) else (x.1, [], atP (plAt s p.2))
/-- the error, the signs, the place of the error -/
def lex (s : List UInt8) : Int × List Tk × Tk := if 16384 < s.length then (13, [], atP (1, 1)) else lexF s (s.length + 1) s []
/-- the fixed answer's text -/
def awakeT : List UInt8 := [97, 58, 61, 49, 54, 35, 70, 70, 59]
theorem lex_awake : lex awakeT = (0, [⟨1, [97], 0, 1, 1⟩, ⟨4, [58, 61], 0, 1, 2⟩, ⟨3, [49, 54, 35, 70, 70], 255, 1, 4⟩, ⟨4, [59], 0, 1, 9⟩, ⟨0, [], 0, 1, 10⟩], zeroT) := by kernel_rfl
end Go.Proofs.Ythdkkdgjcfjinaa.tk
