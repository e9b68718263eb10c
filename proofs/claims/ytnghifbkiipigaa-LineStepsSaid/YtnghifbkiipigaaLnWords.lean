/- What is said of layer line's functions, and servitorref12's Add in these words; servitorlaw12's small. No condition beyond what each line says. -/
import Derived.Test.YtnghifbkiipigaaLnRefE
namespace Go.Proofs.Ytnghifbkiipigaa.ln
open Go.ChangeShapes Go.WideShapes Go.ChangeAt Go.RowKit Go.Proofs.Ytnghifbkiipigaa.k Go.Proofs.Ytnghifbkiipigaa.rr
set_option linter.unusedVariables false

def AddOk (N W : List C) (c : C) : Prop := RightL N W ∧ OkC c
instance (N W : List C) (c : C) : Decidable (AddOk N W c) := by unfold AddOk; infer_instance
/-- what Add answers: the commands under way, those that wait, the numbers that are told, the error -/
def addN (N W : List C) (c : C) : List C := if AddOk N W c then (if c.mode = 0 then [c] else if 4 < (N ++ W).length then [] else (N ++ W ++ [c]).take 1) else []
def addW (N W : List C) (c : C) : List C := if AddOk N W c then (if c.mode = 0 then [] else if 4 < (N ++ W).length then [] else (N ++ W ++ [c]).drop 1) else []
def addI (N W : List C) (c : C) : List Int := if AddOk N W c then (if c.mode = 0 then ids (N ++ W) else []) else []
def addE (N W : List C) (c : C) : Int := if AddOk N W c then (if c.mode = 0 then 0 else if 4 < (N ++ W).length then 8 else 0) else 1
theorem refadd_any (N W : List C) (c : C) {A A' : Option Addr} {n cap m cap' B : Nat} {w : World} (h : RdC w B A n cap N) (h2 : RdC w B A' m cap' W) (hB : B ≤ w.heap.size) (hn : n ≤ 1000) (hm : m ≤ 1000) :
    Calls Try.prog 9 #[lnV A n cap A' m cap', cV c] w (GotA (addN N W c) (addW N W c) (addI N W c) (addE N W c) w) := by
  unfold addN addW addI addE
  by_cases hk : AddOk N W c
  · simp only [if_pos hk]
    by_cases h0 : c.mode = 0
    · simp only [if_pos h0]
      exact refadd_now N W c h h2 hB hn hm hk.1 h0
    · simp only [if_neg h0]
      by_cases h4 : 4 < (N ++ W).length
      · simp only [if_pos h4]
        exact refadd_full N W c h h2 hB hn hm hk.1 hk.2 h0 h4
      · simp only [if_neg h4]
        exact refadd_more N W c h h2 hB hn hm hk.1 hk.2 h0 (by omega)
  · simp only [if_neg hk]
    exact refadd_bad N W c h h2 hB hn hm hk
def zeroC : C := ⟨0, 0, 0, 0, 0, 0, 0⟩
/-- what End answers -/
def endN (N W : List C) : List C := if RightL N W then W.take 1 else []
def endW (N W : List C) : List C := if RightL N W then W.drop 1 else []
def endI (N W : List C) : Int := if RightL N W then (match N with | [] => 0 | c :: _ => c.id) else 0
/-- what Clear answers -/
def clearI (N W : List C) : List Int := if RightL N W then ids (N ++ W) else []
/-- what Last and Next answer -/
def lastC (N W : List C) : C := if RightL N W then (N ++ W).getLast?.getD zeroC else zeroC
def lastB (N W : List C) : Bool := decide (RightL N W ∧ 0 < (N ++ W).length)
def nextC (N W : List C) : C := if RightL N W then W.head?.getD zeroC else zeroC
def nextB (N W : List C) : Bool := decide (RightL N W ∧ 1 < (N ++ W).length)
def GotE (N W : List C) (id : Int) (w : World) (e : Ending) (w' : World) : Prop :=
  ∃ A n c A' m c', e = .returned (.tuple #[lnV A n c A' m c', .int .i64 id]) ∧ RdC w' w'.heap.size A n c N ∧ RdC w' w'.heap.size A' m c' W ∧ Below w.heap.size w w'
def GotI (N W : List C) (I : List Int) (w : World) (e : Ending) (w' : World) : Prop :=
  ∃ A n c A' m c' D k d, e = .returned (.tuple #[lnV A n c A' m c', .slice D k d]) ∧ RdC w' w'.heap.size A n c N ∧ RdC w' w'.heap.size A' m c' W ∧ RdI w' w'.heap.size D k d I ∧ Below w.heap.size w w'
def GotC (c : C) (b : Bool) (w : World) (e : Ending) (w' : World) : Prop := e = .returned (.tuple #[cV c, .bool b]) ∧ Below w.heap.size w w'
def smallB (n m : Nat) : Bool := decide (n ≤ 20 ∧ m ≤ 20)
theorem small_any {A A' : Option Addr} {n cap m cap' : Nat} (w : World) :
    Calls Try.prog 6 #[lnV A n cap A' m cap'] w fun e w' => e = .returned (.bool (smallB n m)) ∧ Below w.heap.size w w' := by
  by_cases h1 : n ≤ 20
  · by_cases h2 : m ≤ 20
    · have HV : Hid (smallB n m = true) := Lib.hid (decide_eq_true ⟨h1, h2⟩)
      have i1 : (n : Int) ≤ 20 := by omega
      have i2 : (m : Int) ≤ 20 := by omega
      clear h1 h2
      go_enter Try.func6, Try.ntmps6
      go_wp2
      go_ret
      exact ⟨ret_bool HV.out.symm, (Below.refl _ _).alloc (Nat.le_refl _) _⟩
    · have HV : Hid (smallB n m = false) := Lib.hid (decide_eq_false fun h => h2 h.2)
      have i1 : (n : Int) ≤ 20 := by omega
      have i2 : decide ((m : Int) ≤ 20) = false := decide_eq_false (by omega)
      have i3 : (20 : Int) < (m : Int) := by omega
      clear h1 h2
      go_enter Try.func6, Try.ntmps6
      go_wp2
      go_ret
      exact ⟨ret_bool HV.out.symm, (Below.refl _ _).alloc (Nat.le_refl _) _⟩
  · have HV : Hid (smallB n m = false) := Lib.hid (decide_eq_false fun h => h1 h.1)
    have i2 : decide ((n : Int) ≤ 20) = false := decide_eq_false (by omega)
    have i3 : (20 : Int) < (n : Int) := by omega
    clear h1
    go_enter Try.func6, Try.ntmps6
    go_wp2
    go_ret
    exact ⟨ret_bool HV.out.symm, (Below.refl _ _).alloc (Nat.le_refl _) _⟩
end Go.Proofs.Ytnghifbkiipigaa.ln
