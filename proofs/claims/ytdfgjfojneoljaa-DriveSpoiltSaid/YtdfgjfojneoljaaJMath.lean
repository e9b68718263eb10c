/- Plain facts on drives: what they are, which are right, and what a cycle makes of them. No condition beyond what each line says. -/
import Derived.Test.YtdfgjfojneoljaaURef
import Derived.Test.YtdfgjfojneoljaaVMath
import Derived.Test.YtdfgjfojneoljaaOMath
namespace Go.Proofs.Ytdfgjfojneoljaa.j
open Go.ChangeShapes Go.WideShapes Go.ChangeAt Go.RowKit Go.Proofs.Ytdfgjfojneoljaa.s Go.Proofs.Ytdfgjfojneoljaa.t
set_option linter.unusedVariables false

/-- what is known of a drive: its state; watch; the switches at the upper end, at the lower one, and of the home place; its place; is that known; its number -/
structure D where
  st : Int
  lim : Int
  mis : Int
  last : Int
  pc : Int
  pv : Bool
  po : Int
  mc : Int
  mv : Bool
  mo : Int
  hc : Int
  hv : Bool
  ho : Int
  act : Int
  kn : Bool
  sq : Int
def cellsD (d : D) : List Value := [.int .i64 d.st, .int .i64 d.lim, .int .i64 d.mis, .int .i64 d.last, .int .i64 d.pc, .bool d.pv, .int .i64 d.po, .int .i64 d.mc, .bool d.mv, .int .i64 d.mo, .int .i64 d.hc, .bool d.hv, .int .i64 d.ho, .int .i64 d.act, .bool d.kn, .int .i64 d.sq]
def dV (d : D) : Value := .agg #[.int .i64 d.st, .int .i64 d.lim, .int .i64 d.mis, .int .i64 d.last, .int .i64 d.pc, .bool d.pv, .int .i64 d.po, .int .i64 d.mc, .bool d.mv, .int .i64 d.mo, .int .i64 d.hc, .bool d.hv, .int .i64 d.ho, .int .i64 d.act, .bool d.kn, .int .i64 d.sq]
def noD : D := ⟨0, 0, 0, 0, 0, false, 0, 0, false, 0, 0, false, 0, 0, false, 0⟩
def newD (lim c : Int) : D := ⟨0, lim, 0, -1, c, false, 0, c, false, 0, c, false, 0, 0, false, 0⟩
def WideD (d : D) : Prop := (-9223372036854775808 ≤ d.pc ∧ d.pc ≤ 9223372036854775807) ∧ (-9223372036854775808 ≤ d.mc ∧ d.mc ≤ 9223372036854775807) ∧ (-9223372036854775808 ≤ d.hc ∧ d.hc ≤ 9223372036854775807)
def RightD (d : D) : Prop := v.RightB d.pc d.po ∧ v.RightB d.mc d.mo ∧ d.mc = d.pc ∧ v.RightB d.hc d.ho ∧ d.hc = d.pc ∧ 0 ≤ d.st ∧ d.st ≤ 4 ∧ 0 ≤ d.sq ∧ d.sq ≤ 255 ∧ u.RightW d.lim d.mis d.last ∧ (d.kn = true ∨ d.act = 0)
instance (d : D) : Decidable (RightD d) := by unfold RightD; infer_instance
def rightD (d : D) : Bool := decide (RightD d)
theorem right_yes {d : D} (h : RightD d) : rightD d = true := decide_eq_true h
theorem right_no {d : D} (h : ¬ RightD d) : rightD d = false := decide_eq_false h
/-- does a frame count? -/
noncomputable def cnt (last : Int) (l : List (BitVec 8)) : Bool := @decide (u.Counts last l) (Classical.propDecidable _)
theorem cnt_yes {last : Int} {l : List (BitVec 8)} (h : u.Counts last l) : cnt last l = true := by unfold cnt; simp [h]
theorem cnt_no {last : Int} {l : List (BitVec 8)} (h : ¬ u.Counts last l) : cnt last l = false := by unfold cnt; simp [h]
/-- is a bit of a status word set? -/
def bitS (x k : Int) : Bool := decide (x / k % 2 = 1)
/-- the drive behind a cycle in which a frame counted: its number, word and place -/
noncomputable def tookD (d : D) (S X P : Int) : D := { st := o.st X, lim := d.lim, mis := 0, last := S, pc := d.pc, pv := v.stepV d.pc d.pv d.po (bitS X 16), po := v.stepO d.pc d.pv d.po (bitS X 16), mc := d.mc, mv := v.stepV d.mc d.mv d.mo (bitS X 32), mo := v.stepO d.mc d.mv d.mo (bitS X 32), hc := d.hc, hv := v.stepV d.hc d.hv d.ho (bitS X 64), ho := v.stepO d.hc d.hv d.ho (bitS X 64), act := P, kn := true, sq := d.sq }
def missedD (d : D) : D := { d with mis := if d.mis < d.lim then d.mis + 1 else d.mis }
noncomputable def comeD (d : D) (l : List (BitVec 8)) : D := if cnt d.last l = true then tookD d (rS signF 127 l) (rW signF 127 l) (rP signF 127 l) else missedD d
def tellD (d : D) : D := { d with sq := if d.sq + 1 = 256 then 0 else d.sq + 1 }
theorem come_yes {d : D} {l : List (BitVec 8)} (h : cnt d.last l = true) : comeD d l = tookD d (rS signF 127 l) (rW signF 127 l) (rP signF 127 l) := by unfold comeD; rw [if_pos h]
theorem come_no {d : D} {l : List (BitVec 8)} (h : cnt d.last l = false) : comeD d l = missedD d := by unfold comeD; rw [if_neg (by rw [h]; simp)]
theorem rW_in (l : List (BitVec 8)) : 0 ≤ rW signF 127 l ∧ rW signF 127 l ≤ 255 := by
  unfold rW
  split
  · exact v8_in _
  · omega
end Go.Proofs.Ytdfgjfojneoljaa.j
