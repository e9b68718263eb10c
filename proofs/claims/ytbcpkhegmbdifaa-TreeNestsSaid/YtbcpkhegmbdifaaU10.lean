/- What the document's parser gives of expressions in parentheses, and behind NOT. No condition. -/
import Derived.Test.YtbcpkhegmbdifaaU07
namespace Go.Proofs.Ytbcpkhegmbdifaa.tr
open Go.ChangeShapes Go.WideShapes Go.ChangeAt Go.RowKit Go.Proofs.Ytbcpkhegmbdifaa.k Go.Proofs.Ytbcpkhegmbdifaa.rr Go.Proofs.Ytbcpkhegmbdifaa.tk
set_option linter.unusedVariables false

def rep : Nat → Str → Str
  | 0, _ => []
  | k + 1, o => rep k o ++ o
def nestText (k : Nat) (o c : Str) : Str := ([80, 82, 79, 71, 82, 65, 77, 32, 112, 32, 97, 32, 58, 61, 32] ++ ((rep k o ++ [97]) ++ rep k c)) ++ [59, 32, 69, 78, 68, 95, 80, 82, 79, 71, 82, 65, 77]
/-- so many NOT ahead of the variable a -/
def Tow : Nat → Ex → Prop
  | 0, x => ∃ n fd sub ln, x = .mk 3 n [97] fd sub ln
  | k + 1, x => ∃ n nm fd y ln, x = .mk 7 n nm fd [y] ln ∧ Tow k y
def towB : Nat → Ex → Bool
  | 0, .mk op _ nm _ _ _ => op == 3 && nm == [97]
  | k + 1, .mk op _ _ _ [y] _ => op == 7 && towB k y
  | _, _ => false
theorem tow_of : ∀ {k : Nat} {x : Ex}, towB k x = true → Tow k x
  | 0, .mk op n nm fd sub ln, h => by
    rw [towB, Bool.and_eq_true, beq_iff_eq, beq_iff_eq] at h
    obtain ⟨rfl, rfl⟩ := h
    exact ⟨n, fd, sub, ln, rfl⟩
  | k + 1, .mk op n nm fd [y] ln, h => by
    rw [towB, Bool.and_eq_true, beq_iff_eq] at h
    obtain ⟨rfl, h⟩ := h
    exact ⟨n, nm, fd, y, ln, rfl, tow_of h⟩
  | k + 1, .mk op n nm fd [] ln, h => by simp [towB] at h
  | k + 1, .mk op n nm fd (_ :: _ :: _) ln, h => by simp [towB] at h
def deepB (c : Nat) (p : Pg × Int × Tk) : Bool := p.2.1 == 13 && (p.2.2.line == 1 && p.2.2.col == c)
def okB (k : Nat) (p : Pg × Int × Tk) : Bool := p.2.1 == 0 && (match p.1.body with
  | [.mk _ _ _ x _ _ _ _ _] => towB k x
  | _ => false)
theorem deep_of {c : Nat} {p : Pg × Int × Tk} (h : deepB c p = true) : ∃ G tk, p = (G, 13, tk) ∧ tk.line = 1 ∧ tk.col = c := by
  obtain ⟨G, e, t⟩ := p
  simp only [deepB, Bool.and_eq_true, beq_iff_eq] at h
  obtain ⟨rfl, h1, h2⟩ := h
  exact ⟨G, t, rfl, h1, h2⟩
theorem ok_of {k : Nat} {p : Pg × Int × Tk} (h : okB k p = true) : ∃ gn vs op nm d X cs ls fs bs l1 tk, p = (⟨gn, vs, [.mk op nm d X cs ls fs bs l1]⟩, 0, tk) ∧ Tow k X := by
  obtain ⟨⟨gn, vs, body⟩, e, t⟩ := p
  simp only [okB, Bool.and_eq_true, beq_iff_eq] at h
  obtain ⟨rfl, h⟩ := h
  match body, h with
  | [.mk op nm d x cs ls fs bs l1], h => exact ⟨gn, vs, op, nm, d, x, cs, ls, fs, bs, l1, t, rfl, tow_of h⟩
set_option maxRecDepth 1000000 in
theorem nests_deep : ((List.range 8).all fun k => deepB 47 (parse (nestText (k + 32) [40] [41])) && deepB 140 (parse (nestText (k + 32) [78, 79, 84, 32] []))) = true := by kernel_rfl
set_option maxRecDepth 1000000 in
theorem nests_ok : ((List.range 32).all fun k => okB 0 (parse (nestText k [40] [41])) && okB k (parse (nestText k [78, 79, 84, 32] []))) = true := by kernel_rfl
theorem nest_deep {k : Nat} (h : 32 ≤ k) (h2 : k < 40) : (∃ G tk, parse (nestText k [40] [41]) = (G, 13, tk) ∧ tk.line = 1 ∧ tk.col = 47) ∧ (∃ G tk, parse (nestText k [78, 79, 84, 32] []) = (G, 13, tk) ∧ tk.line = 1 ∧ tk.col = 140) := by
  have := List.all_eq_true.1 nests_deep (k - 32) (List.mem_range.2 (by omega))
  rw [Bool.and_eq_true, show k - 32 + 32 = k by omega] at this
  exact ⟨deep_of this.1, deep_of this.2⟩
theorem nest_ok {k : Nat} (h : k < 32) : (∃ gn vs op nm d X cs ls fs bs l1 tk, parse (nestText k [40] [41]) = (⟨gn, vs, [.mk op nm d X cs ls fs bs l1]⟩, 0, tk) ∧ Tow 0 X) ∧ (∃ gn vs op nm d X cs ls fs bs l1 tk, parse (nestText k [78, 79, 84, 32] []) = (⟨gn, vs, [.mk op nm d X cs ls fs bs l1]⟩, 0, tk) ∧ Tow k X) := by
  have := List.all_eq_true.1 nests_ok k (List.mem_range.2 h)
  rw [Bool.and_eq_true] at this
  exact ⟨ok_of this.1, ok_of this.2⟩
end Go.Proofs.Ytbcpkhegmbdifaa.tr
