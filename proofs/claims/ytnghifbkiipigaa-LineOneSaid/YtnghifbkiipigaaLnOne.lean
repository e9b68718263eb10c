/- Plain facts for the law LineOne: the commands of a line bear the numbers behind those that are gone, one behind the other; what a step makes of it. No condition beyond what each line says. -/
import Derived.Test.YtnghifbkiipigaaLnWords
namespace Go.Proofs.Ytnghifbkiipigaa.ln
open Go.ChangeShapes Go.WideShapes Go.ChangeAt Go.RowKit Go.Proofs.Ytnghifbkiipigaa.k Go.Proofs.Ytnghifbkiipigaa.rr
set_option linter.unusedVariables false

/-- the numbers behind g, n of them -/
def seqI (g n : Nat) : List Int := (List.range n).map fun (i : Nat) => ((g + i + 1 : Nat) : Int)
theorem seq_len (g n : Nat) : (seqI g n).length = n := by simp [seqI]
theorem seq_zero (g : Nat) : seqI g 0 = [] := rfl
theorem seq_snoc (g n : Nat) : seqI g (n + 1) = seqI g n ++ [((g + n + 1 : Nat) : Int)] := by
  unfold seqI
  rw [List.range_succ, List.map_append]
  rfl
theorem seq_cons (g n : Nat) : seqI g (n + 1) = ((g + 1 : Nat) : Int) :: seqI (g + 1) n := by
  unfold seqI
  rw [List.range_succ_eq_map, List.map_cons, List.map_map]
  congr 1
  apply List.map_congr_left
  intro i _
  show ((g + (i + 1) + 1 : Nat) : Int) = ((g + 1 + i + 1 : Nat) : Int)
  congr 1
  omega
theorem seq_at {g n i : Nat} (h : i < n) : (seqI g n)[i]? = some ((g + i + 1 : Nat) : Int) := by
  unfold seqI
  simp [h]
/-- what holds ahead of each step: g are gone, t were taken -/
def InvL (N W : List C) (g t : Nat) : Prop := RightL N W ∧ ids (N ++ W) = seqI g (N ++ W).length ∧ g + (N ++ W).length = t
theorem inv_start : InvL [] [] 0 0 := ⟨by decide, rfl, rfl⟩
def cmd (t : Nat) (m : Int) : C := ⟨((t + 1 : Nat) : Int), 0, 0, 0, m, 0, 0⟩
theorem ids_app (a b : List C) : ids (a ++ b) = ids a ++ ids b := by simp [ids]
theorem ids_len' (L : List C) : (ids L).length = L.length := by simp [ids]
/-- all that is under way or waits is gone, a new one is alone -/
theorem inv_now {N W : List C} {g t : Nat} (h : InvL N W g t) : InvL [cmd t 0] [] t (t + 1) ∧ ids (N ++ W) = seqI g (N ++ W).length ∧ g + (N ++ W).length = t := by
  refine ⟨⟨?_, ?_, rfl⟩, h.2.1, h.2.2⟩
  · refine ⟨fun c hc => ?_, by simp, by simp, .inl rfl⟩
    have : c = cmd t 0 := by simpa using hc
    rw [this]
    exact ⟨by show (0 : Int) ≤ 0; omega, by show (0 : Int) ≤ 5; omega⟩
  · rfl
theorem inv_more {N W : List C} {g t : Nat} {m : Int} (h : InvL N W g t) (h0 : 0 ≤ m) (h5 : m ≤ 5) (hl : (N ++ W).length ≤ 4) :
    InvL ((N ++ W ++ [cmd t m]).take 1) ((N ++ W ++ [cmd t m]).drop 1) g (t + 1) := by
  obtain ⟨hr, hi, ht⟩ := h
  have e : (N ++ W ++ [cmd t m]).take 1 ++ (N ++ W ++ [cmd t m]).drop 1 = N ++ W ++ [cmd t m] := List.take_append_drop _ _
  have hlen : (N ++ W ++ [cmd t m]).length = (N ++ W).length + 1 := by rw [List.length_append]; rfl
  refine ⟨⟨fun c hc => ?_, ?_, ?_, ?_⟩, ?_, ?_⟩
  · rw [e] at hc
    rcases List.mem_append.1 hc with hc | hc
    · exact hr.1 c hc
    · have : c = cmd t m := by simpa using hc
      rw [this]
      exact ⟨h0, h5⟩
  · rw [List.length_take]; omega
  · rw [List.length_drop, hlen]; omega
  · left
    rw [List.length_take, hlen]; omega
  · rw [e, ids_app, hi, hlen, seq_snoc]
    congr 1
    show [((t + 1 : Nat) : Int)] = _
    rw [← ht]
  · rw [e, hlen]; omega
theorem inv_end {N W : List C} {g t : Nat} {x : C} (h : InvL N W g t) (hN : N = [x]) : InvL (W.take 1) (W.drop 1) (g + 1) t ∧ x.id = ((g + 1 : Nat) : Int) := by
  obtain ⟨hr, hi, ht⟩ := h
  subst hN
  have e : W.take 1 ++ W.drop 1 = W := List.take_append_drop _ _
  have hl : ([x] ++ W).length = W.length + 1 := by simp
  rw [hl, seq_cons] at hi
  have hi2 : x.id :: ids W = ((g + 1 : Nat) : Int) :: seqI (g + 1) W.length := hi
  injection hi2 with h1 h2
  refine ⟨⟨⟨fun c hc => ?_, ?_, ?_, ?_⟩, ?_, ?_⟩, h1⟩
  · rw [e] at hc
    exact hr.1 c (List.mem_append_right _ hc)
  · rw [List.length_take]; omega
  · have := hr.2.2.1; rw [List.length_drop]; omega
  · rcases Nat.eq_zero_or_pos W.length with h0 | h0
    · right; rw [List.length_drop]; omega
    · left; rw [List.length_take]; omega
  · rw [e]; exact h2
  · rw [e]; rw [hl] at ht; omega
theorem inv_clear {N W : List C} {g t : Nat} (h : InvL N W g t) : InvL [] [] t t ∧ ids (N ++ W) = seqI g (N ++ W).length ∧ g + (N ++ W).length = t := ⟨⟨by decide, rfl, rfl⟩, h.2.1, h.2.2⟩
theorem right_len {N W : List C} (h : RightL N W) : N = [] ∧ W = [] ∨ ∃ x, N = [x] := by
  obtain ⟨_, h1, _, h3⟩ := h
  match N, h1, h3 with
  | [], _, h3 =>
    left
    rcases h3 with h | h
    · simp at h
    · exact ⟨rfl, List.eq_nil_of_length_eq_zero h⟩
  | [x], _, _ => exact .inr ⟨x, rfl⟩
  | x :: y :: t, h1, _ => simp at h1; omega
end Go.Proofs.Ytnghifbkiipigaa.ln
