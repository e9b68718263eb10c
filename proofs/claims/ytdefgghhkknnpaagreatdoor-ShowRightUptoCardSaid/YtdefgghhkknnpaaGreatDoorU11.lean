/- Rows of whole numbers as the layer std takes and gives them, and its blocks as functions of their cells. No condition but what each line says. -/
import Derived.Test.YtdefgghhkknnpaaGreatDoorU01
namespace Go.Proofs.YtdefgghhkknnpaaGreatDoor.sd
open Go.ChangeShapes Go.WideShapes Go.ChangeAt Go.RowKit Go.Proofs.YtdefgghhkknnpaaGreatDoor.k Go.Proofs.YtdefgghhkknnpaaGreatDoor.rr
set_option linter.unusedVariables false
set_option linter.unusedSimpArgs false

def i1 (x : Int) : List Value := [.int .i64 x]
def InR (x : Int) : Prop := -9223372036854775808 ≤ x ∧ x ≤ 9223372036854775807
/-- a row of whole numbers as it lies in memory -/
abbrev RdI (w : World) (B : Nat) (A : Option Addr) (n cap : Nat) (L : List Int) : Prop := rr.Rd i1 1 w B A n cap L
/-- what a call gives: a row in a new block -/
def GotB (n : Nat) (L : List Int) (w : World) (e : Ending) (w' : World) : Prop :=
  ∃ g cap, e = .returned (.slice (some ⟨g, 0, none⟩) n cap) ∧ w.heap.size ≤ g ∧ g < w'.heap.size ∧ n ≤ cap ∧ cap ≤ maxLen ∧ L.length = n ∧ Box w' g 0 (L.map fun x => .int .i64 x) ∧ Below w.heap.size w w'
theorem box_nth {w : World} {g : Nat} : ∀ {vs : List Value} {o i : Nat} {v : Value}, Box w g o vs → vs[i]? = some v → w.cell? ⟨g, o + i, none⟩ = some v ∧ w.frozen? ⟨g, o + i, none⟩ = false
  | u :: vs, o, 0, v, h, e => by
    have e : u = v := by simpa using e
    subst e
    exact ⟨h.1, h.2.1⟩
  | u :: vs, o, i + 1, v, h, e => by
    have := box_nth (vs := vs) (o := o + 1) (i := i) h.2.2 (by simpa using e)
    rwa [show o + 1 + i = o + (i + 1) by omega] at this
  | [], o, i, v, h, e => by simp at e
theorem rd_box {w : World} {g B n cap : Nat} {L : List Int} (h : Box w g 0 (L.map fun x => .int .i64 x)) (hB : g < B) (hc : n ≤ cap) (hm : cap ≤ maxLen) (hl : L.length = n) : RdI w B (some ⟨g, 0, none⟩) n cap L :=
  ⟨hl, hc, hm, (fun h => by cases h), fun _ => ⟨g, 0, rfl, hB, fun i x hx j u hu => by
    have hj : j = 0 := by
      rcases Nat.lt_or_ge j 1 with h | h
      · omega
      · rw [List.getElem?_eq_none (by simpa [i1] using h)] at hu; cases hu
    subst hj
    have hu : Value.int .i64 x = u := by simpa [i1] using hu
    subst hu
    rw [Nat.mul_one]
    exact (box_nth h (by rw [List.getElem?_map, hx]; rfl)).1⟩⟩
theorem flat_i1 (L : List Int) : L.flatMap i1 = L.map fun x => Value.int .i64 x := by
  induction L with
  | nil => rfl
  | cons x L ih => rw [List.flatMap_cons, ih]; rfl
theorem got_ow {t : TypeId} {L : List Int} {w w' : World} {v : Value} (h : Ow i1 1 t w' w.heap.size v L) (hp : L ≠ []) (hb : Below w.heap.size w w') : GotB L.length L w (.returned v) w' := by
  rcases h.2 with ⟨rfl, h0⟩ | ⟨g, cap, cur, rfl, hB, hg, hle, hmax, hcs, htake⟩
  · exact absurd (List.eq_nil_of_length_eq_zero h0) hp
  · refine ⟨g, cap, rfl, hB, (Array.getElem?_eq_some_iff.1 hg).1, hle, hmax, rfl, Box.at fun i v hv => ?_, hb⟩
    have hl : (L.flatMap i1)[i]? = some v := by rw [List.getElem?_map] at hv; rw [flat_i1, List.getElem?_map, hv]
    have hc := World.ownsRow.cells (g := g) h rfl i v hl
    have e : (Addr.add ⟨g, 0, none⟩ i) = ⟨g, 0 + i, none⟩ := by unfold Addr.add; by_cases h : i = 0 <;> simp [h]
    rw [e] at hc
    refine ⟨hc, ?_⟩
    simp only [World.frozen?, hg]
    simp
def b2 (p : Prop) [Decidable p] : Int := if p then 1 else 0
theorem b2_ne {p : Prop} [Decidable p] : b2 p ≠ 0 ↔ p := by unfold b2; split <;> simp [*]
theorem b2_eq {p : Prop} [Decidable p] : b2 p = 0 ↔ ¬ p := by unfold b2; split <;> simp [*]
def up (et pt : Int) : Int := if et < pt then et + 1 else et
def tonL (i pt et : Int) : List Int := if i = 0 then [i, pt, 0, 0] else [i, pt, b2 (pt ≤ up et pt), up et pt]
def rising (i p r : Int) : Bool := i != 0 && (p == 0 && r == 0)
def tpL (i pt q et p r : Int) : List Int :=
  if rising i p r = true then (if 0 < pt then [i, pt, 1, 1, b2 (i ≠ 0), 1] else [i, pt, 0, 0, b2 (i ≠ 0), 0])
  else if r ≠ 0 then (if et < pt then [i, pt, 1, et + 1, b2 (i ≠ 0), 1] else [i, pt, 0, et, b2 (i ≠ 0), 0])
  else [i, pt, q, et, b2 (i ≠ 0), r]
def cuV (cu r cv p : Int) : Int := if r ≠ 0 then 0 else if cu ≠ 0 ∧ p = 0 ∧ cv ≠ 9223372036854775807 then cv + 1 else cv
def ctuL (cu r pv cv p : Int) : List Int := [cu, r, pv, b2 (pv ≤ cuV cu r cv p), cuV cu r cv p, b2 (cu ≠ 0)]
def rtL (c p : Int) : List Int := [c, b2 (c ≠ 0 ∧ p = 0), b2 (c ≠ 0)]
def ftL (c p : Int) : List Int := [c, b2 (c = 0 ∧ p ≠ 0), b2 (c ≠ 0)]
def srL (s r q : Int) : List Int := [s, r, b2 (s ≠ 0 ∨ (q ≠ 0 ∧ r = 0))]
def rsL (s r q : Int) : List Int := [s, r, b2 ((s ≠ 0 ∨ q ≠ 0) ∧ r = 0)]
end Go.Proofs.YtdefgghhkknnpaaGreatDoor.sd
/- The table of the layer std: of each kind its name and its pins; what is read off it. No condition. -/
namespace Go.Proofs.YtdefgghhkknnpaaGreatDoor.sd
open Go.ChangeShapes Go.WideShapes Go.ChangeAt Go.RowKit Go.Proofs.YtdefgghhkknnpaaGreatDoor.k Go.Proofs.YtdefgghhkknnpaaGreatDoor.rr
set_option linter.unusedVariables false
set_option linter.unusedSimpArgs false

/-- a row of the table: the kind, its name, its pins' letters, the names of those that have one -/
structure Rw where
  kind : Int
  name : ByteArray
  pins : ByteArray
  its : List ByteArray
def table : List Rw := [
    ⟨10, ⟨#[84, 79, 78]⟩, ⟨#[105, 73, 111, 79]⟩, [⟨#[73, 78]⟩, ⟨#[80, 84]⟩, ⟨#[81]⟩, ⟨#[69, 84]⟩]⟩,
    ⟨11, ⟨#[84, 79, 70]⟩, ⟨#[105, 73, 111, 79]⟩, [⟨#[73, 78]⟩, ⟨#[80, 84]⟩, ⟨#[81]⟩, ⟨#[69, 84]⟩]⟩,
    ⟨12, ⟨#[84, 80]⟩, ⟨#[105, 73, 111, 79, 46, 46]⟩, [⟨#[73, 78]⟩, ⟨#[80, 84]⟩, ⟨#[81]⟩, ⟨#[69, 84]⟩]⟩,
    ⟨13, ⟨#[67, 84, 85]⟩, ⟨#[105, 105, 73, 111, 79, 46]⟩, [⟨#[67, 85]⟩, ⟨#[82]⟩, ⟨#[80, 86]⟩, ⟨#[81]⟩, ⟨#[67, 86]⟩]⟩,
    ⟨14, ⟨#[67, 84, 68]⟩, ⟨#[105, 105, 73, 111, 79, 46]⟩, [⟨#[67, 68]⟩, ⟨#[76, 68]⟩, ⟨#[80, 86]⟩, ⟨#[81]⟩, ⟨#[67, 86]⟩]⟩,
    ⟨15, ⟨#[82, 95, 84, 82, 73, 71]⟩, ⟨#[105, 111, 46]⟩, [⟨#[67, 76, 75]⟩, ⟨#[81]⟩]⟩,
    ⟨16, ⟨#[70, 95, 84, 82, 73, 71]⟩, ⟨#[105, 111, 46]⟩, [⟨#[67, 76, 75]⟩, ⟨#[81]⟩]⟩,
    ⟨17, ⟨#[83, 82]⟩, ⟨#[105, 105, 111]⟩, [⟨#[83, 49]⟩, ⟨#[82]⟩, ⟨#[81, 49]⟩]⟩,
    ⟨18, ⟨#[82, 83]⟩, ⟨#[105, 105, 111]⟩, [⟨#[83]⟩, ⟨#[82, 49]⟩, ⟨#[81, 49]⟩]⟩,
    ⟨20, ⟨#[77, 67, 95, 80, 111, 119, 101, 114]⟩, ⟨#[73, 105, 111, 111]⟩, [⟨#[65, 120, 105, 115]⟩, ⟨#[69, 110, 97, 98, 108, 101]⟩, ⟨#[83, 116, 97, 116, 117, 115]⟩, ⟨#[69, 114, 114, 111, 114]⟩]⟩,
    ⟨21, ⟨#[77, 67, 95, 72, 111, 109, 101]⟩, ⟨#[73, 105, 111, 111, 111, 111, 111, 46, 46]⟩, [⟨#[65, 120, 105, 115]⟩, ⟨#[69, 120, 101, 99, 117, 116, 101]⟩, ⟨#[68, 111, 110, 101]⟩, ⟨#[66, 117, 115, 121]⟩, ⟨#[65, 99, 116, 105, 118, 101]⟩, ⟨#[67, 111, 109, 109, 97, 110, 100, 65, 98, 111, 114, 116, 101, 100]⟩, ⟨#[69, 114, 114, 111, 114]⟩]⟩,
    ⟨22, ⟨#[77, 67, 95, 83, 116, 111, 112]⟩, ⟨#[73, 105, 111, 111, 111, 111, 111, 46, 46]⟩, [⟨#[65, 120, 105, 115]⟩, ⟨#[69, 120, 101, 99, 117, 116, 101]⟩, ⟨#[68, 111, 110, 101]⟩, ⟨#[66, 117, 115, 121]⟩, ⟨#[65, 99, 116, 105, 118, 101]⟩, ⟨#[67, 111, 109, 109, 97, 110, 100, 65, 98, 111, 114, 116, 101, 100]⟩, ⟨#[69, 114, 114, 111, 114]⟩]⟩,
    ⟨23, ⟨#[77, 67, 95, 72, 97, 108, 116]⟩, ⟨#[73, 105, 111, 111, 111, 111, 111, 46, 46]⟩, [⟨#[65, 120, 105, 115]⟩, ⟨#[69, 120, 101, 99, 117, 116, 101]⟩, ⟨#[68, 111, 110, 101]⟩, ⟨#[66, 117, 115, 121]⟩, ⟨#[65, 99, 116, 105, 118, 101]⟩, ⟨#[67, 111, 109, 109, 97, 110, 100, 65, 98, 111, 114, 116, 101, 100]⟩, ⟨#[69, 114, 114, 111, 114]⟩]⟩,
    ⟨24, ⟨#[77, 67, 95, 77, 111, 118, 101, 65, 98, 115, 111, 108, 117, 116, 101]⟩, ⟨#[73, 105, 73, 73, 73, 111, 111, 111, 111, 111, 46, 46]⟩, [⟨#[65, 120, 105, 115]⟩, ⟨#[69, 120, 101, 99, 117, 116, 101]⟩, ⟨#[80, 111, 115, 105, 116, 105, 111, 110]⟩, ⟨#[86, 101, 108, 111, 99, 105, 116, 121]⟩, ⟨#[66, 117, 102, 102, 101, 114, 77, 111, 100, 101]⟩, ⟨#[68, 111, 110, 101]⟩, ⟨#[66, 117, 115, 121]⟩, ⟨#[65, 99, 116, 105, 118, 101]⟩, ⟨#[67, 111, 109, 109, 97, 110, 100, 65, 98, 111, 114, 116, 101, 100]⟩, ⟨#[69, 114, 114, 111, 114]⟩]⟩,
    ⟨25, ⟨#[77, 67, 95, 77, 111, 118, 101, 82, 101, 108, 97, 116, 105, 118, 101]⟩, ⟨#[73, 105, 73, 73, 73, 111, 111, 111, 111, 111, 46, 46]⟩, [⟨#[65, 120, 105, 115]⟩, ⟨#[69, 120, 101, 99, 117, 116, 101]⟩, ⟨#[68, 105, 115, 116, 97, 110, 99, 101]⟩, ⟨#[86, 101, 108, 111, 99, 105, 116, 121]⟩, ⟨#[66, 117, 102, 102, 101, 114, 77, 111, 100, 101]⟩, ⟨#[68, 111, 110, 101]⟩, ⟨#[66, 117, 115, 121]⟩, ⟨#[65, 99, 116, 105, 118, 101]⟩, ⟨#[67, 111, 109, 109, 97, 110, 100, 65, 98, 111, 114, 116, 101, 100]⟩, ⟨#[69, 114, 114, 111, 114]⟩]⟩,
    ⟨26, ⟨#[77, 67, 95, 77, 111, 118, 101, 65, 100, 100, 105, 116, 105, 118, 101]⟩, ⟨#[73, 105, 73, 73, 73, 111, 111, 111, 111, 111, 46, 46]⟩, [⟨#[65, 120, 105, 115]⟩, ⟨#[69, 120, 101, 99, 117, 116, 101]⟩, ⟨#[68, 105, 115, 116, 97, 110, 99, 101]⟩, ⟨#[86, 101, 108, 111, 99, 105, 116, 121]⟩, ⟨#[66, 117, 102, 102, 101, 114, 77, 111, 100, 101]⟩, ⟨#[68, 111, 110, 101]⟩, ⟨#[66, 117, 115, 121]⟩, ⟨#[65, 99, 116, 105, 118, 101]⟩, ⟨#[67, 111, 109, 109, 97, 110, 100, 65, 98, 111, 114, 116, 101, 100]⟩, ⟨#[69, 114, 114, 111, 114]⟩]⟩,
    ⟨27, ⟨#[77, 67, 95, 77, 111, 118, 101, 86, 101, 108, 111, 99, 105, 116, 121]⟩, ⟨#[73, 105, 73, 111, 111, 111, 111, 111, 46, 46]⟩, [⟨#[65, 120, 105, 115]⟩, ⟨#[69, 120, 101, 99, 117, 116, 101]⟩, ⟨#[86, 101, 108, 111, 99, 105, 116, 121]⟩, ⟨#[73, 110, 86, 101, 108, 111, 99, 105, 116, 121]⟩, ⟨#[66, 117, 115, 121]⟩, ⟨#[65, 99, 116, 105, 118, 101]⟩, ⟨#[67, 111, 109, 109, 97, 110, 100, 65, 98, 111, 114, 116, 101, 100]⟩, ⟨#[69, 114, 114, 111, 114]⟩]⟩,
    ⟨28, ⟨#[77, 67, 95, 71, 101, 97, 114, 73, 110]⟩, ⟨#[73, 105, 73, 73, 73, 111, 111, 111, 111, 111, 46, 46]⟩, [⟨#[65, 120, 105, 115]⟩, ⟨#[69, 120, 101, 99, 117, 116, 101]⟩, ⟨#[77, 97, 115, 116, 101, 114]⟩, ⟨#[78, 117, 109, 101, 114, 97, 116, 111, 114]⟩, ⟨#[68, 101, 110, 111, 109, 105, 110, 97, 116, 111, 114]⟩, ⟨#[73, 110, 71, 101, 97, 114]⟩, ⟨#[66, 117, 115, 121]⟩, ⟨#[65, 99, 116, 105, 118, 101]⟩, ⟨#[67, 111, 109, 109, 97, 110, 100, 65, 98, 111, 114, 116, 101, 100]⟩, ⟨#[69, 114, 114, 111, 114]⟩]⟩,
    ⟨29, ⟨#[77, 67, 95, 82, 101, 115, 101, 116]⟩, ⟨#[73, 105, 111, 111, 46]⟩, [⟨#[65, 120, 105, 115]⟩, ⟨#[69, 120, 101, 99, 117, 116, 101]⟩, ⟨#[68, 111, 110, 101]⟩, ⟨#[69, 114, 114, 111, 114]⟩]⟩,
    ⟨30, ⟨#[77, 67, 95, 83, 101, 116, 80, 111, 115, 105, 116, 105, 111, 110]⟩, ⟨#[73, 105, 73, 111, 111, 46]⟩, [⟨#[65, 120, 105, 115]⟩, ⟨#[69, 120, 101, 99, 117, 116, 101]⟩, ⟨#[80, 111, 115, 105, 116, 105, 111, 110]⟩, ⟨#[68, 111, 110, 101]⟩, ⟨#[69, 114, 114, 111, 114]⟩]⟩,
    ⟨31, ⟨#[77, 67, 95, 83, 101, 116, 79, 118, 101, 114, 114, 105, 100, 101]⟩, ⟨#[73, 105, 73, 111]⟩, [⟨#[65, 120, 105, 115]⟩, ⟨#[69, 110, 97, 98, 108, 101]⟩, ⟨#[80, 101, 114, 99, 101, 110, 116]⟩, ⟨#[69, 110, 97, 98, 108, 101, 100]⟩]⟩]
def nameIn : List Rw → Int → ByteArray
  | [], _ => ⟨#[]⟩
  | r :: l, k => if r.kind = k then r.name else nameIn l k
def kindIn : List Rw → ByteArray → Int
  | [], _ => 0
  | r :: l, s => if r.name = s then r.kind else kindIn l s
/-- a pin: its name, its type, whether it is an input -/
structure Pn where
  name : ByteArray
  type : Int
  inp : Bool
def pC (p : Pn) : List Value := [.string p.name, .int .i64 p.type, .bool p.inp]
/-- pin number i of a row: c its letter -/
def pinAt (its : List ByteArray) (i : Nat) (c : UInt8) : Pn := ⟨if c = 46 then ⟨#[]⟩ else its.getD i ⟨#[]⟩, if c = 105 ∨ c = 111 then 2 else 1, c = 105 ∨ c = 73⟩
def pinsFrom (its : List ByteArray) : Nat → List UInt8 → List Pn
  | _, [] => []
  | i, c :: l => pinAt its i c :: pinsFrom its (i + 1) l
def pinsIn : List Rw → Int → List Pn
  | [], _ => []
  | r :: l, k => if r.kind = k then pinsFrom r.its 0 r.pins.data.toList else pinsIn l k
def nameOf (k : Int) : ByteArray := nameIn table k
def kindOf (s : ByteArray) : Int := kindIn table s
def pinsOf (k : Int) : List Pn := pinsIn table k
/-- what a call gives: a row of pins, in a new block or none -/
def GotP (L : List Pn) (w : World) (e : Ending) (w' : World) : Prop :=
  ∃ A c, e = .returned (.slice A L.length c) ∧ rr.Rd pC 3 w' w'.heap.size A L.length c L ∧ Below w.heap.size w w'
end Go.Proofs.YtdefgghhkknnpaaGreatDoor.sd
/- The landed std's shapes, names and kinds: what they give for any kind and any name. No condition. -/
namespace Go.Proofs.YtdefgghhkknnpaaGreatDoor.sd
open Go.ChangeShapes Go.WideShapes Go.ChangeAt Go.RowKit Go.Proofs.YtdefgghhkknnpaaGreatDoor.k Go.Proofs.YtdefgghhkknnpaaGreatDoor.rr
set_option linter.unusedVariables false
set_option linter.unusedSimpArgs false

/-- a kind's name, its inputs' names, its outputs' names, how many inner cells it has -/
structure Sh where
  name : ByteArray
  ins : ByteArray
  outs : ByteArray
  inner : Int
def shA : List (Int × Sh) := [
    (10, ⟨⟨#[84, 79, 78]⟩, ⟨#[73, 78, 32, 80, 84]⟩, ⟨#[81, 32, 69, 84]⟩, 0⟩),
    (11, ⟨⟨#[84, 79, 70]⟩, ⟨#[73, 78, 32, 80, 84]⟩, ⟨#[81, 32, 69, 84]⟩, 0⟩),
    (12, ⟨⟨#[84, 80]⟩, ⟨#[73, 78, 32, 80, 84]⟩, ⟨#[81, 32, 69, 84]⟩, 2⟩),
    (13, ⟨⟨#[67, 84, 85]⟩, ⟨#[67, 85, 32, 82, 32, 80, 86]⟩, ⟨#[81, 32, 67, 86]⟩, 1⟩),
    (14, ⟨⟨#[67, 84, 68]⟩, ⟨#[67, 68, 32, 76, 68, 32, 80, 86]⟩, ⟨#[81, 32, 67, 86]⟩, 1⟩),
    (15, ⟨⟨#[82, 95, 84, 82, 73, 71]⟩, ⟨#[67, 76, 75]⟩, ⟨#[81]⟩, 1⟩),
    (16, ⟨⟨#[70, 95, 84, 82, 73, 71]⟩, ⟨#[67, 76, 75]⟩, ⟨#[81]⟩, 1⟩),
    (17, ⟨⟨#[83, 82]⟩, ⟨#[83, 49, 32, 82]⟩, ⟨#[81, 49]⟩, 0⟩),
    (18, ⟨⟨#[82, 83]⟩, ⟨#[83, 32, 82, 49]⟩, ⟨#[81, 49]⟩, 0⟩)]
def shM : List (Int × Sh) := [
    (20, ⟨⟨#[77, 67, 95, 80, 111, 119, 101, 114]⟩, ⟨#[65, 120, 105, 115, 32, 69, 110, 97, 98, 108, 101]⟩, ⟨#[83, 116, 97, 116, 117, 115, 32, 69, 114, 114, 111, 114]⟩, 0⟩),
    (21, ⟨⟨#[77, 67, 95, 72, 111, 109, 101]⟩, ⟨#[65, 120, 105, 115, 32, 69, 120, 101, 99, 117, 116, 101]⟩, ⟨#[68, 111, 110, 101, 32, 66, 117, 115, 121, 32, 65, 99, 116, 105, 118, 101, 32, 67, 111, 109, 109, 97, 110, 100, 65, 98, 111, 114, 116, 101, 100, 32, 69, 114, 114, 111, 114]⟩, 2⟩),
    (22, ⟨⟨#[77, 67, 95, 83, 116, 111, 112]⟩, ⟨#[65, 120, 105, 115, 32, 69, 120, 101, 99, 117, 116, 101]⟩, ⟨#[68, 111, 110, 101, 32, 66, 117, 115, 121, 32, 65, 99, 116, 105, 118, 101, 32, 67, 111, 109, 109, 97, 110, 100, 65, 98, 111, 114, 116, 101, 100, 32, 69, 114, 114, 111, 114]⟩, 2⟩),
    (23, ⟨⟨#[77, 67, 95, 72, 97, 108, 116]⟩, ⟨#[65, 120, 105, 115, 32, 69, 120, 101, 99, 117, 116, 101]⟩, ⟨#[68, 111, 110, 101, 32, 66, 117, 115, 121, 32, 65, 99, 116, 105, 118, 101, 32, 67, 111, 109, 109, 97, 110, 100, 65, 98, 111, 114, 116, 101, 100, 32, 69, 114, 114, 111, 114]⟩, 2⟩),
    (24, ⟨⟨#[77, 67, 95, 77, 111, 118, 101, 65, 98, 115, 111, 108, 117, 116, 101]⟩, ⟨#[65, 120, 105, 115, 32, 69, 120, 101, 99, 117, 116, 101, 32, 80, 111, 115, 105, 116, 105, 111, 110, 32, 86, 101, 108, 111, 99, 105, 116, 121, 32, 66, 117, 102, 102, 101, 114, 77, 111, 100, 101]⟩, ⟨#[68, 111, 110, 101, 32, 66, 117, 115, 121, 32, 65, 99, 116, 105, 118, 101, 32, 67, 111, 109, 109, 97, 110, 100, 65, 98, 111, 114, 116, 101, 100, 32, 69, 114, 114, 111, 114]⟩, 2⟩),
    (25, ⟨⟨#[77, 67, 95, 77, 111, 118, 101, 82, 101, 108, 97, 116, 105, 118, 101]⟩, ⟨#[65, 120, 105, 115, 32, 69, 120, 101, 99, 117, 116, 101, 32, 68, 105, 115, 116, 97, 110, 99, 101, 32, 86, 101, 108, 111, 99, 105, 116, 121, 32, 66, 117, 102, 102, 101, 114, 77, 111, 100, 101]⟩, ⟨#[68, 111, 110, 101, 32, 66, 117, 115, 121, 32, 65, 99, 116, 105, 118, 101, 32, 67, 111, 109, 109, 97, 110, 100, 65, 98, 111, 114, 116, 101, 100, 32, 69, 114, 114, 111, 114]⟩, 2⟩),
    (26, ⟨⟨#[77, 67, 95, 77, 111, 118, 101, 65, 100, 100, 105, 116, 105, 118, 101]⟩, ⟨#[65, 120, 105, 115, 32, 69, 120, 101, 99, 117, 116, 101, 32, 68, 105, 115, 116, 97, 110, 99, 101, 32, 86, 101, 108, 111, 99, 105, 116, 121, 32, 66, 117, 102, 102, 101, 114, 77, 111, 100, 101]⟩, ⟨#[68, 111, 110, 101, 32, 66, 117, 115, 121, 32, 65, 99, 116, 105, 118, 101, 32, 67, 111, 109, 109, 97, 110, 100, 65, 98, 111, 114, 116, 101, 100, 32, 69, 114, 114, 111, 114]⟩, 2⟩),
    (27, ⟨⟨#[77, 67, 95, 77, 111, 118, 101, 86, 101, 108, 111, 99, 105, 116, 121]⟩, ⟨#[65, 120, 105, 115, 32, 69, 120, 101, 99, 117, 116, 101, 32, 86, 101, 108, 111, 99, 105, 116, 121]⟩, ⟨#[73, 110, 86, 101, 108, 111, 99, 105, 116, 121, 32, 66, 117, 115, 121, 32, 65, 99, 116, 105, 118, 101, 32, 67, 111, 109, 109, 97, 110, 100, 65, 98, 111, 114, 116, 101, 100, 32, 69, 114, 114, 111, 114]⟩, 2⟩),
    (28, ⟨⟨#[77, 67, 95, 71, 101, 97, 114, 73, 110]⟩, ⟨#[65, 120, 105, 115, 32, 69, 120, 101, 99, 117, 116, 101, 32, 77, 97, 115, 116, 101, 114, 32, 78, 117, 109, 101, 114, 97, 116, 111, 114, 32, 68, 101, 110, 111, 109, 105, 110, 97, 116, 111, 114]⟩, ⟨#[73, 110, 71, 101, 97, 114, 32, 66, 117, 115, 121, 32, 65, 99, 116, 105, 118, 101, 32, 67, 111, 109, 109, 97, 110, 100, 65, 98, 111, 114, 116, 101, 100, 32, 69, 114, 114, 111, 114]⟩, 2⟩),
    (29, ⟨⟨#[77, 67, 95, 82, 101, 115, 101, 116]⟩, ⟨#[65, 120, 105, 115, 32, 69, 120, 101, 99, 117, 116, 101]⟩, ⟨#[68, 111, 110, 101, 32, 69, 114, 114, 111, 114]⟩, 1⟩),
    (30, ⟨⟨#[77, 67, 95, 83, 101, 116, 80, 111, 115, 105, 116, 105, 111, 110]⟩, ⟨#[65, 120, 105, 115, 32, 69, 120, 101, 99, 117, 116, 101, 32, 80, 111, 115, 105, 116, 105, 111, 110]⟩, ⟨#[68, 111, 110, 101, 32, 69, 114, 114, 111, 114]⟩, 1⟩),
    (31, ⟨⟨#[77, 67, 95, 83, 101, 116, 79, 118, 101, 114, 114, 105, 100, 101]⟩, ⟨#[65, 120, 105, 115, 32, 69, 110, 97, 98, 108, 101, 32, 80, 101, 114, 99, 101, 110, 116]⟩, ⟨#[69, 110, 97, 98, 108, 101, 100]⟩, 0⟩)]
def shIn (d : Sh) : List (Int × Sh) → Int → Sh
  | [], _ => d
  | r :: l, k => if (k == r.1) = true then r.2 else shIn d l k
def sh0 : Sh := ⟨⟨#[]⟩, ⟨#[]⟩, ⟨#[]⟩, 0⟩
def motionOf (k : Int) : Sh := shIn sh0 shM k
def shapeOf (k : Int) : Sh := shIn (motionOf k) shA k
set_option maxRecDepth 100000 in
set_option maxHeartbeats 4000000 in
theorem motion_any (n : Int) (w : World) : Calls Tryz.prog 126 #[.int .i64 n] w fun e w' => e = .returned (.agg #[.string (motionOf n).name, .string (motionOf n).ins, .string (motionOf n).outs, .int .i64 (motionOf n).inner]) ∧ Below w.heap.size w w' := by
  go_enter Tryz.func126, Tryz.ntmps126
  go_wp2
  all_goals
    refine bodyPost_ret (k.results_cell rfl rfl (run_loadVar_mid _ w.heap.size 0 146 _ _ (Box.new w _ _).range rfl rfl (by kernel_rfl))) rfl ?_
    refine ⟨?_, (Below.refl _ _).alloc (Nat.le_refl _) _⟩
    simp [motionOf, shIn, shM, sh0, *]
set_option maxRecDepth 100000 in
set_option maxHeartbeats 4000000 in
theorem shape_any (n : Int) (w : World) : Calls Tryz.prog 98 #[.int .i64 n] w fun e w' => e = .returned (.agg #[.string (shapeOf n).name, .string (shapeOf n).ins, .string (shapeOf n).outs, .int .i64 (shapeOf n).inner]) ∧ Below w.heap.size w w' := by
  have MM := Lib.hid fun W => motion_any n W
  go_enter Tryz.func98, Tryz.ntmps98
  go_wp2_with (go_at_call 126; fail)
  all_goals first
    | (refine bodyPost_ret (k.results_cell rfl rfl (run_loadVar_mid _ w.heap.size 0 146 _ _ (Box.new w _ _).range rfl rfl (by kernel_rfl))) rfl ?_
       refine ⟨?_, (Below.refl _ _).alloc (Nat.le_refl _) _⟩
       simp [shapeOf, shIn, shA, *]
       done)
    | skip
  with_reducible refine (MM.out _).mono ?_
  rintro e w1 ⟨rfl, hb⟩
  obtain ⟨x, hB, _⟩ := boxes1 hb
  obtain ⟨y, z, hB2⟩ := Box.puts (us := [.string (motionOf n).name, .string (motionOf n).ins, .string (motionOf n).outs, .int .i64 (motionOf n).inner]) x rfl
  have HB := Lib.hid (hB.trans (hB2 _ (Nat.le_refl _)))
  have HY := Lib.hid y
  obtain ⟨c0, f0, c1, f1, c2, f2, c3, f3, _⟩ := x
  clear hb hB y z hB2
  go_wp2
  refine bodyPost_ret (k.results_cell rfl rfl (run_loadVar_mid _ w.heap.size 0 146 _ _ HY.out.range rfl rfl (by kernel_rfl))) rfl ?_
  refine ⟨?_, HB.out⟩
  simp [shapeOf, shIn, shA, *]
theorem sh_field (s : Sh) (w : World) : (Instr.field 146 (.agg #[.string s.name, .string s.ins, .string s.outs, .int .i64 s.inner]) 0).run Tryz.prog w = .ok (.string s.name) w := by kernel_rfl
theorem name_of (n : Int) (w : World) : Calls Tryz.prog 62 #[.int .i64 n] w fun e w' => e = .returned (.string (shapeOf n).name) ∧ Below w.heap.size w w' := by
  have SS := Lib.hid fun W => shape_any n W
  go_enter Tryz.func62, Tryz.ntmps62
  go_wp2_with (go_at_call 98; (with_reducible refine (SS.out _).mono ?_); rintro e w1 ⟨rfl, hb⟩; have HB := Lib.hid hb; have q0 := sh_field (shapeOf n) w1; clear hb)
  go_ret
  exact ⟨rfl, HB.out⟩
end Go.Proofs.YtdefgghhkknnpaaGreatDoor.sd
/- The landed std's kind of a name: the first kind whose name it is. No condition. -/
namespace Go.Proofs.YtdefgghhkknnpaaGreatDoor.sd
open Go.ChangeShapes Go.WideShapes Go.ChangeAt Go.RowKit Go.Proofs.YtdefgghhkknnpaaGreatDoor.k Go.Proofs.YtdefgghhkknnpaaGreatDoor.rr
set_option linter.unusedVariables false
set_option linter.unusedSimpArgs false

theorem bytes_ne {a b : ByteArray} (h : a ≠ b) : (a.toList == b.toList) = false := by
  rw [beq_eq_false_iff_ne]
  intro e
  rw [ByteArray.toList_eq, ByteArray.toList_eq] at e
  exact h (ByteArray.ext (Array.toList_inj.1 e))
def kindFrom (s : ByteArray) : Nat → Int → Int
  | 0, _ => 0
  | m + 1, n => if (shapeOf n).name = s then n else kindFrom s m (n + 1)
/-- the kind of a name -/
def kindS (s : ByteArray) : Int := if s = ⟨#[]⟩ then 0 else kindFrom s 22 10
set_option maxHeartbeats 4000000 in
theorem kind_any (s : ByteArray) (w : World) : Calls Tryz.prog 177 #[.string s] w fun e w' => e = .returned (.int .i64 (kindS s)) ∧ Below w.heap.size w w' := by
  have NN := Lib.hid fun n W => name_of n W
  by_cases hs : s = ⟨#[]⟩
  · subst hs
    have hq : ((⟨#[]⟩ : ByteArray).toList == []) = true := by kernel_rfl
    go_enter Tryz.func177, Tryz.ntmps177
    go_wp2_with fail
    go_ret
    exact ⟨rfl, Below.refl _ _⟩
  · have hq : (s.toList == []) = false := by
      have := bytes_ne hs
      rwa [show (⟨#[]⟩ : ByteArray).toList = [] by rw [ByteArray.toList_eq]] at this
    have HK := Lib.hid (show kindS s = kindFrom s 22 10 from if_neg hs)
    go_enter Tryz.func177, Tryz.ntmps177
    go_wp2_with fail
    go_loopw [3] (fun s3 wq => ∃ (m : Nat) (q : Int), q = 32 - m ∧ m ≤ 22 ∧ s3 = .int .i64 q ∧ kindFrom s m q = kindFrom s 22 10 ∧ Below w.heap.size w wq) (fun i _ => 32 - (intOf i).toNat)
    case atStart => exact ⟨22, 10, rfl, Nat.le_refl _, rfl, rfl, Below.refl _ _⟩
    case round =>
      obtain ⟨m, q, hq2, hm, rfl, hk, hB⟩ := hrel
      have HB := Lib.hid hB
      clear hB
      cases m with
      | zero =>
        have hz : ¬ (q ≤ 31) := by omega
        have HE := Lib.hid hk
        clear hk hq2
        go_wp2_with fail
        go_ret
        refine ⟨ret_int ?_, HB.out⟩
        rw [HK.out, ← HE.out]
        rfl
      | succ m =>
        have hz : q ≤ 31 := by omega
        have hn1 : -100 ≤ q := by omega
        have HQ := Lib.hid hq2
        clear hq2
        rw [kindFrom] at hk
        by_cases he : (shapeOf q).name = s
        · rw [if_pos he] at hk
          have HE := Lib.hid hk
          have h2 : ((shapeOf q).name.toList == s.toList) = true := by rw [he]; simp
          clear hk he
          go_wp2_with (go_at_call 62; (with_reducible refine (NN.out _ _).mono ?_); rintro e w1 ⟨rfl, hb⟩; have HB1 := Lib.hid (HB.out.trans (hb.mono HB.out.size)); clear hb)
          go_ret
          refine ⟨ret_int ?_, HB1.out⟩
          rw [HK.out, ← HE.out]
        · rw [if_neg he] at hk
          have HE := Lib.hid hk
          have h2 := bytes_ne he
          clear hk he
          go_wp2_with (go_at_call 62; (with_reducible refine (NN.out _ _).mono ?_); rintro e w1 ⟨rfl, hb⟩; have HB1 := Lib.hid (HB.out.trans (hb.mono HB.out.size)); clear hb)
          go_roundw
          case rel => exact ⟨m, q + 1, by have := HQ.out; omega, by omega, by go_num, HE.out, HB1.out⟩
          case measure => have := HQ.out; simp [intOf]; omega
end Go.Proofs.YtdefgghhkknnpaaGreatDoor.sd
