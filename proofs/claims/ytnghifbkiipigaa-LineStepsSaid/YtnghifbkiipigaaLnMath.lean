/- Plain facts on lines of commands. No condition beyond what each line says. -/
import Derived.Test.YtnghifbkiipigaaLnRow
namespace Go.Proofs.Ytnghifbkiipigaa.ln
open Go.ChangeShapes Go.WideShapes Go.ChangeAt Go.RowKit Go.Proofs.Ytnghifbkiipigaa.k Go.Proofs.Ytnghifbkiipigaa.rr
set_option linter.unusedVariables false

/-- a command -/
structure C where
  id : Int
  kind : Int
  tgt : Int
  spd : Int
  mode : Int
  num : Int
  den : Int
deriving DecidableEq
def cC (c : C) : List Value := [.int .i64 c.id, .int .i64 c.kind, .int .i64 c.tgt, .int .i64 c.spd, .int .i64 c.mode, .int .i64 c.num, .int .i64 c.den]
def cV (c : C) : Value := .agg #[.int .i64 c.id, .int .i64 c.kind, .int .i64 c.tgt, .int .i64 c.spd, .int .i64 c.mode, .int .i64 c.num, .int .i64 c.den]
def iC (x : Int) : List Value := [.int .i64 x]
theorem cC_len (c : C) : (cC c).length = 7 := rfl
theorem cC_one (c : C) : ∀ u ∈ cC c, u.oneCell' = true := by
  intro u hu
  simp only [cC, List.mem_cons, List.not_mem_nil, or_false] at hu
  rcases hu with rfl | rfl | rfl | rfl | rfl | rfl | rfl <;> rfl
theorem iC_len (x : Int) : (iC x).length = 1 := rfl
theorem iC_one (x : Int) : ∀ u ∈ iC x, u.oneCell' = true := by
  intro u hu
  simp only [iC, List.mem_cons, List.not_mem_nil, or_false] at hu
  rw [hu]; rfl
/-- commands, integers, as they lie in memory -/
abbrev RdC := Rd cC 7
abbrev RdI := Rd iC 1
abbrev OwC := Ow cC 7 26
abbrev OwI := Ow iC 1 3
def OkC (c : C) : Prop := 0 ≤ c.mode ∧ c.mode ≤ 5
instance (c : C) : Decidable (OkC c) := by unfold OkC; infer_instance
def RightL (N W : List C) : Prop := (∀ c ∈ N ++ W, OkC c) ∧ N.length < 2 ∧ W.length < 5 ∧ (N.length = 1 ∨ W.length = 0)
instance (N W : List C) : Decidable (RightL N W) := by unfold RightL; infer_instance
def rightL (N W : List C) : Bool := decide (RightL N W)
theorem right_yes {N W : List C} (h : RightL N W) : rightL N W = true := decide_eq_true h
theorem right_no {N W : List C} (h : ¬ RightL N W) : rightL N W = false := decide_eq_false h
def ids (L : List C) : List Int := L.map (·.id)
theorem com_info : (Try.prog.info? 26).map (fun i => (i.zero, i.size, i.bytes)) = some (some (.agg #[.int .i64 0, .int .i64 0, .int .i64 0, .int .i64 0, .int .i64 0, .int .i64 0, .int .i64 0]), 7, 56) := by kernel_rfl
theorem int_info : (Try.prog.info? 3).map (fun i => (i.zero, i.size, i.bytes)) = some (some (.int .i64 0), 1, 8) := by kernel_rfl
theorem coms_slice : Try.prog.underlying 22 = some (.slice 26) := by kernel_rfl
theorem ints_slice : Try.prog.underlying 29 = some (.slice 3) := by kernel_rfl
/-- a command's cells, one by one -/
theorem cells_com {w : World} {b o : Nat} {c : C} (h : w.rangeAt b o (cC c)) : w.cell? ⟨b, o, none⟩ = some (.int .i64 c.id) ∧ w.cell? ⟨b, o + 1, none⟩ = some (.int .i64 c.kind) ∧ w.cell? ⟨b, o + 2, none⟩ = some (.int .i64 c.tgt) ∧ w.cell? ⟨b, o + 3, none⟩ = some (.int .i64 c.spd) ∧ w.cell? ⟨b, o + 4, none⟩ = some (.int .i64 c.mode) ∧ w.cell? ⟨b, o + 5, none⟩ = some (.int .i64 c.num) ∧ w.cell? ⟨b, o + 6, none⟩ = some (.int .i64 c.den) :=
  ⟨h 0 _ rfl, h 1 _ rfl, h 2 _ rfl, h 3 _ rfl, h 4 _ rfl, h 5 _ rfl, h 6 _ rfl⟩
end Go.Proofs.Ytnghifbkiipigaa.ln
