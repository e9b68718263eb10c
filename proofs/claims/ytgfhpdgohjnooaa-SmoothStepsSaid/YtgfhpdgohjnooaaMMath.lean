/- Plain facts on windows of places: a setpoint is a sum of the last places; how it moves, how that changes, and how that changes in turn. No condition beyond what each line says. -/
import Derived.Test.YtgfhpdgohjnooaaKBase
namespace Go.Proofs.Ytgfhpdgohjnooaa.mm
open Go.ChangeShapes Go.WideShapes Go.ChangeAt Go.RowKit Go.Proofs.Ytgfhpdgohjnooaa.k
set_option linter.unusedVariables false

/-- the sum of the first m -/
def sm (f : Nat → Int) : Nat → Int
  | 0 => 0
  | m + 1 => sm f m + f m
theorem sm_sub (f g : Nat → Int) : ∀ m, sm f m - sm g m = sm (fun k => f k - g k) m
  | 0 => by simp [sm]
  | m + 1 => by
    have := sm_sub f g m
    simp only [sm]
    omega
theorem sm_same {f g : Nat → Int} : ∀ {m : Nat}, (∀ k, k < m → f k = g k) → sm f m = sm g m
  | 0, _ => rfl
  | m + 1, h => by
    simp only [sm]
    rw [sm_same fun k hk => h k (by omega), h m (by omega)]
theorem sm_le {f : Nat → Int} {c : Int} : ∀ {m : Nat}, (∀ k, k < m → f k ≤ c) → sm f m ≤ m * c
  | 0, _ => by simp [sm]
  | m + 1, h => by
    have h1 := sm_le (f := f) (c := c) (m := m) fun k hk => h k (by omega)
    have h2 := h m (by omega)
    simp only [sm]
    rw [show ((m + 1 : Nat) : Int) * c = m * c + c by rw [Int.natCast_add, Int.add_mul]; simp]
    omega
theorem sm_ge {f : Nat → Int} {c : Int} : ∀ {m : Nat}, (∀ k, k < m → c ≤ f k) → m * c ≤ sm f m
  | 0, _ => by simp [sm]
  | m + 1, h => by
    have h1 := sm_ge (f := f) (c := c) (m := m) fun k hk => h k (by omega)
    have h2 := h m (by omega)
    simp only [sm]
    rw [show ((m + 1 : Nat) : Int) * c = m * c + c by rw [Int.natCast_add, Int.add_mul]; simp]
    omega
theorem sm_const {f : Nat → Int} {c : Int} {m : Nat} (h : ∀ k, k < m → f k = c) : sm f m = m * c := by
  have h1 := sm_le (c := c) fun k hk => Int.le_of_eq (h k hk)
  have h2 := sm_ge (c := c) fun k hk => Int.le_of_eq (h k hk).symm
  omega
/-- what is left of a row of differences -/
theorem sm_tele (f : Nat → Int) (i : Nat) : ∀ m, sm (fun k => f (i - k) - f (i - 1 - k)) m = f i - f (i - m)
  | 0 => by simp [sm]
  | m + 1 => by
    have := sm_tele f i m
    simp only [sm]
    rw [show i - 1 - m = i - (m + 1) by omega]
    omega
/-- the setpoint in cycle i: the sum of the last m places (the first one, from before it began) -/
def out (p : Nat → Int) (m i : Nat) : Int := sm (fun k => p (i - k)) m
/-- a difference to the cycle ahead of it -/
def df (p : Nat → Int) (i : Nat) : Int := p i - p (i - 1)
def gn (p : Nat → Int) (i : Nat) : Int := df p i - df p (i - 1)
theorem df_zero (p : Nat → Int) : df p 0 = 0 := by unfold df; simp
theorem gn_zero (p : Nat → Int) : gn p 0 = 0 := by unfold gn; simp
/-- how the setpoint moves -/
theorem out_moves (p : Nat → Int) (m i : Nat) : out p m i - out p m (i - 1) = sm (fun k => df p (i - k)) m := by
  unfold out
  rw [sm_sub]
  refine sm_same fun k hk => ?_
  unfold df
  rw [show i - k - 1 = i - 1 - k by omega]
/-- how that changes -/
theorem out_gains (p : Nat → Int) (m i : Nat) : (out p m i - out p m (i - 1)) - (out p m (i - 1) - out p m (i - 1 - 1)) = sm (fun k => gn p (i - k)) m := by
  rw [out_moves, out_moves, sm_sub]
  refine sm_same fun k hk => ?_
  unfold gn
  rw [show i - k - 1 = i - 1 - k by omega]
theorem out_gains' (p : Nat → Int) (m i : Nat) : (out p m i - out p m (i - 1)) - (out p m (i - 1) - out p m (i - 1 - 1)) = df p i - df p (i - m) := by
  rw [out_moves, out_moves, sm_sub, ← sm_tele (df p) i m]
/-- and how that changes in turn -/
theorem out_jerks (p : Nat → Int) (m i : Nat) :
    ((out p m i - out p m (i - 1)) - (out p m (i - 1) - out p m (i - 1 - 1))) - ((out p m (i - 1) - out p m (i - 1 - 1)) - (out p m (i - 1 - 1) - out p m (i - 1 - 1 - 1))) = gn p i - gn p (i - m) := by
  rw [out_gains', out_gains']
  unfold gn
  rw [show i - m - 1 = i - 1 - m by omega]
  omega
theorem moves_in {p : Nat → Int} {m i : Nat} {c : Int} (h : ∀ j, j ≤ i → df p j ≤ c ∧ -df p j ≤ c) : out p m i - out p m (i - 1) ≤ m * c ∧ -(out p m i - out p m (i - 1)) ≤ m * c := by
  rw [out_moves]
  have h1 := sm_le (f := fun k => df p (i - k)) (c := c) (m := m) fun k _ => (h (i - k) (by omega)).1
  have h2 := sm_ge (f := fun k => df p (i - k)) (c := -c) (m := m) fun k _ => by have := (h (i - k) (by omega)).2; show -c ≤ df p (i - k); omega
  rw [Int.mul_neg] at h2
  omega
theorem gains_in {p : Nat → Int} {m i : Nat} {c : Int} (h : ∀ j, j ≤ i → gn p j ≤ c ∧ -gn p j ≤ c) :
    (out p m i - out p m (i - 1)) - (out p m (i - 1) - out p m (i - 1 - 1)) ≤ m * c ∧ -((out p m i - out p m (i - 1)) - (out p m (i - 1) - out p m (i - 1 - 1))) ≤ m * c := by
  rw [out_gains]
  have h1 := sm_le (f := fun k => gn p (i - k)) (c := c) (m := m) fun k _ => (h (i - k) (by omega)).1
  have h2 := sm_ge (f := fun k => gn p (i - k)) (c := -c) (m := m) fun k _ => by have := (h (i - k) (by omega)).2; show -c ≤ gn p (i - k); omega
  rw [Int.mul_neg] at h2
  omega
theorem jerks_in {p : Nat → Int} {m i : Nat} {c : Int} (h : ∀ j, j ≤ i → gn p j ≤ c ∧ -gn p j ≤ c) :
    ((out p m i - out p m (i - 1)) - (out p m (i - 1) - out p m (i - 1 - 1))) - ((out p m (i - 1) - out p m (i - 1 - 1)) - (out p m (i - 1 - 1) - out p m (i - 1 - 1 - 1))) ≤ 2 * c ∧
    ((out p m (i - 1) - out p m (i - 1 - 1)) - (out p m (i - 1 - 1) - out p m (i - 1 - 1 - 1))) - ((out p m i - out p m (i - 1)) - (out p m (i - 1) - out p m (i - 1 - 1))) ≤ 2 * c := by
  have e := out_jerks p m i
  have h1 := h i (Nat.le_refl _)
  have h2 := h (i - m) (by omega)
  omega
theorem out_between {p : Nat → Int} {m i : Nat} {lo hi : Int} (h : ∀ k, k < m → lo ≤ p (i - k) ∧ p (i - k) ≤ hi) : m * lo ≤ out p m i ∧ out p m i ≤ m * hi :=
  ⟨sm_ge fun k hk => (h k hk).1, sm_le fun k hk => (h k hk).2⟩
/-- a window as a list, the newest place first, and one pushed -/
def win (p : Nat → Int) (m i : Nat) : List Int := (List.range m).map fun k => p (i - k)
theorem win_len (p : Nat → Int) (m i : Nat) : (win p m i).length = m := by simp [win]
theorem win_at (p : Nat → Int) (m i k : Nat) (h : k < m) : (win p m i).getD k 0 = p (i - k) := by
  unfold win
  rw [List.getD_eq_getElem?_getD, List.getElem?_map, List.getElem?_range h]
  rfl
theorem win_push (p : Nat → Int) (m i : Nat) : win p (m + 1) (i + 1) = p (i + 1) :: (win p (m + 1) i).take m := by
  apply List.ext_getElem?
  intro j
  unfold win
  cases j with
  | zero => simp
  | succ j =>
    rw [List.getElem?_cons_succ, List.getElem?_map, List.getElem?_take]
    by_cases h : j < m
    · rw [if_pos h, List.getElem?_map, List.getElem?_range (by omega), List.getElem?_range (by omega)]
      simp only [Option.map_some]
      rw [show i + 1 - (j + 1) = i - j by omega]
    · rw [if_neg h, List.getElem?_eq_none (by simp; omega)]
      rfl
theorem win_sum (p : Nat → Int) (i : Nat) : ∀ m, (win p m i).sum = out p m i
  | 0 => by simp [win, out, sm]
  | m + 1 => by
    have := win_sum p i m
    unfold win out at *
    rw [List.range_succ, List.map_append, List.sum_append, this]
    simp [sm]
end Go.Proofs.Ytgfhpdgohjnooaa.mm
