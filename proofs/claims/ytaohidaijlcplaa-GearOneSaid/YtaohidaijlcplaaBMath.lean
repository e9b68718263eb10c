/- Plain facts on ways behind a speed: what they come to, and that they grow with the speed and shrink with the loss. No condition beyond what each line says. -/
import Derived.Test.YtaohidaijlcplaaKBase
namespace Go.Proofs.Ytaohidaijlcplaa.b
open Go.ChangeShapes Go.WideShapes Go.ChangeAt Go.RowKit Go.Proofs.Ytaohidaijlcplaa.k
set_option linter.unusedVariables false

/-! ### A number within two -/
def clamp (n lo hi : Int) : Int := if n < lo then lo else if hi < n then hi else n
def vel (v : Int) : Int := clamp v 0 1048576
def los (d : Int) : Int := clamp d 1 1048576
def dist (s : Int) : Int := clamp s 0 2199023255552
theorem vel_in (v : Int) : 0 ≤ vel v ∧ vel v ≤ 1048576 := by unfold vel clamp; omega
theorem los_in (v : Int) : 1 ≤ los v ∧ los v ≤ 1048576 := by unfold los clamp; omega
theorem dist_in (v : Int) : 0 ≤ dist v ∧ dist v ≤ 2199023255552 := by unfold dist clamp; omega
theorem vel_of {v : Int} (h0 : 0 ≤ v) (h1 : v ≤ 1048576) : vel v = v := by unfold vel clamp; omega
theorem vel_mono {a b : Int} (h : a ≤ b) : vel a ≤ vel b := by unfold vel clamp; omega
theorem los_mono {a b : Int} (h : a ≤ b) : los a ≤ los b := by unfold los clamp; omega
theorem dist_mono {a b : Int} (h : a ≤ b) : dist a ≤ dist b := by unfold dist clamp; omega

/-! ### The way behind v, down to u -/
def slowF : Nat → Int → Int → Int → Int
  | 0, _, _, _ => 0
  | n + 1, v, u, d => if u < v - d then (v - d) + slowF n (v - d) u d else 0
def slow (v u d : Int) : Int := slowF (v - u).toNat v u d
theorem slowF_more : ∀ (n : Nat) (v u d : Int), 1 ≤ d → (v - u).toNat ≤ n → slowF n v u d = slow v u d
  | 0, v, u, d, hd, hn => by
    unfold slow
    have : (v - u).toNat = 0 := by omega
    rw [this]
  | n + 1, v, u, d, hd, hn => by
    unfold slow
    cases hm : (v - u).toNat with
    | zero =>
      have h : ¬ u < v - d := by omega
      simp only [slowF]
      rw [if_neg h]
    | succ m =>
      simp only [slowF]
      by_cases h : u < v - d
      · rw [if_pos h, if_pos h, slowF_more n (v - d) u d hd (by omega), slowF_more m (v - d) u d hd (by omega)]
      · rw [if_neg h, if_neg h]
termination_by n => n
theorem slow_step (v u d : Int) (hd : 1 ≤ d) : slow v u d = if u < v - d then (v - d) + slow (v - d) u d else 0 := by
  rw [← slowF_more ((v - u).toNat + 1) v u d hd (by omega)]
  simp only [slowF]
  by_cases h : u < v - d
  · rw [if_pos h, if_pos h, slowF_more _ (v - d) u d hd (by omega)]
  · rw [if_neg h, if_neg h]
theorem slow_go {v u d : Int} (hd : 1 ≤ d) (h : u < v - d) : slow v u d = (v - d) + slow (v - d) u d := by rw [slow_step v u d hd, if_pos h]
theorem slow_end {v u d : Int} (hd : 1 ≤ d) (h : ¬ u < v - d) : slow v u d = 0 := by rw [slow_step v u d hd, if_neg h]
theorem slow_nonneg (n : Nat) : ∀ (v u d : Int), 0 ≤ u → 1 ≤ d → (v - u).toNat ≤ n → 0 ≤ slow v u d := by
  induction n with
  | zero => intro v u d hu hd hn; rw [slow_end hd (by omega)]; omega
  | succ n ih =>
    intro v u d hu hd hn
    by_cases h : u < v - d
    · rw [slow_go hd h]
      have := ih (v - d) u d hu hd (by omega)
      omega
    · rw [slow_end hd h]; omega
theorem slow_pos {v u d : Int} (hu : 0 ≤ u) (hd : 1 ≤ d) : 0 ≤ slow v u d := slow_nonneg _ v u d hu hd (Nat.le_refl _)
theorem slow_mono_n (n : Nat) : ∀ (v v' u d : Int), 0 ≤ u → 1 ≤ d → v ≤ v' → (v - u).toNat ≤ n → slow v u d ≤ slow v' u d := by
  induction n with
  | zero => intro v v' u d hu hd hv hn; rw [slow_end (v := v) hd (by omega)]; exact slow_pos hu hd
  | succ n ih =>
    intro v v' u d hu hd hv hn
    by_cases h : u < v - d
    · rw [slow_go hd h, slow_go hd (show u < v' - d by omega)]
      have := ih (v - d) (v' - d) u d hu hd (by omega) (by omega)
      omega
    · rw [slow_end hd h]; exact slow_pos hu hd
theorem slow_mono {v v' u d : Int} (hu : 0 ≤ u) (hd : 1 ≤ d) (h : v ≤ v') : slow v u d ≤ slow v' u d := slow_mono_n _ v v' u d hu hd h (Nat.le_refl _)
theorem slow_to_n (n : Nat) : ∀ (v u u' d : Int), 0 ≤ u → 1 ≤ d → u ≤ u' → (v - u).toNat ≤ n → slow v u' d ≤ slow v u d := by
  induction n with
  | zero => intro v u u' d hu hd hv hn; rw [slow_end (u := u') hd (by omega)]; exact slow_pos hu hd
  | succ n ih =>
    intro v u u' d hu hd hv hn
    by_cases h : u' < v - d
    · rw [slow_go hd h, slow_go (u := u) hd (show u < v - d by omega)]
      have := ih (v - d) u u' d hu hd hv (by omega)
      omega
    · rw [slow_end hd h]; exact slow_pos hu hd
theorem slow_to {v u u' d : Int} (hu : 0 ≤ u) (hd : 1 ≤ d) (h : u ≤ u') : slow v u' d ≤ slow v u d := slow_to_n _ v u u' d hu hd h (Nat.le_refl _)
theorem slow_loss_n (n : Nat) : ∀ (v u c d : Int), 0 ≤ u → 1 ≤ c → c ≤ d → (v - u).toNat ≤ n → slow v u d ≤ slow v u c := by
  induction n with
  | zero => intro v u c d hu hc hcd hn; rw [slow_end (d := d) (by omega) (by omega)]; exact slow_pos hu hc
  | succ n ih =>
    intro v u c d hu hc hcd hn
    by_cases h : u < v - d
    · rw [slow_go (by omega) h, slow_go hc (show u < v - c by omega)]
      have h1 := ih (v - d) u c d hu hc hcd (by omega)
      have h2 := slow_mono (v := v - d) (v' := v - c) hu hc (by omega)
      omega
    · rw [slow_end (by omega) h]; exact slow_pos hu hc
theorem slow_loss {v u c d : Int} (hu : 0 ≤ u) (hc : 1 ≤ c) (h : c ≤ d) : slow v u d ≤ slow v u c := slow_loss_n _ v u c d hu hc h (Nat.le_refl _)

/-! ### The sum of the row -/
/-- the row's sum, doubled -/
theorem slow_sum_n (n : Nat) : ∀ (v u d m : Int), 0 ≤ m → 1 ≤ d → u < v - m * d ∨ m = 0 → v - (m + 1) * d ≤ u → m.toNat ≤ n → 2 * slow v u d = 2 * (m * v) - m * (m + 1) * d := by
  induction n with
  | zero =>
    intro v u d m hm hd h1 h2 hn
    have : m = 0 := by omega
    subst this
    rw [slow_end hd (by omega)]; omega
  | succ n ih =>
    intro v u d m hm hd h1 h2 hn
    by_cases h0 : m = 0
    · subst h0
      rw [slow_end hd (by omega)]; omega
    · have e1 : m * d = (m - 1) * d + d := by rw [Int.sub_mul]; omega
      have e2 : (m + 1) * d = (m - 1) * d + d + d := by rw [Int.add_mul, Int.sub_mul]; omega
      have p : 0 ≤ (m - 1) * d := Int.mul_nonneg (by omega) (by omega)
      have hgo : u < v - d := by omega
      rw [slow_go hd hgo]
      have e3 : (m - 1 + 1) * d = (m - 1) * d + d := by rw [Int.add_mul]; omega
      have := ih (v - d) u d (m - 1) (by omega) hd (by
        by_cases h : m = 1
        · right; omega
        · left; omega) (by rw [e3]; omega) (by omega)
      have f1 : (m - 1) * (v - d) = m * v - v - (m - 1) * d := by rw [Int.mul_sub, Int.sub_mul]; omega
      have f2 : (m - 1) * (m - 1 + 1) * d = m * ((m - 1) * d) := by rw [show m - 1 + 1 = m by omega, Int.mul_comm (m - 1) m, Int.mul_assoc]
      have f3 : m * (m + 1) * d = m * ((m - 1) * d) + 2 * (m * d) := by
        rw [Int.mul_assoc, e2, Int.mul_add, Int.mul_add]; omega
      have f4 : 2 * ((m - 1) * d) = 2 * (m * d) - 2 * d := by omega
      rw [f1, f2] at this
      rw [f3]
      omega
theorem slow_sum {v u d : Int} (hd : 1 ≤ d) (h : u < v) : 2 * slow v u d = 2 * ((v - u - 1) / d * v) - (v - u - 1) / d * ((v - u - 1) / d + 1) * d := by
  have q := Int.mul_ediv_add_emod (v - u - 1) d
  have r0 := Int.emod_nonneg (v - u - 1) (show d ≠ 0 by omega)
  have r1 := Int.emod_lt_of_pos (v - u - 1) (show 0 < d by omega)
  have m0 : 0 ≤ (v - u - 1) / d := Int.ediv_nonneg (by omega) (by omega)
  generalize (v - u - 1) / d = m at *
  rw [Int.mul_comm d m] at q
  have e : (m + 1) * d = m * d + d := by rw [Int.add_mul]; omega
  exact slow_sum_n _ v u d m m0 hd (.inl (by omega)) (by rw [e]; omega) (Nat.le_refl _)
theorem slow_le_n (n : Nat) : ∀ (v u d : Int), 0 ≤ u → 1 ≤ d → 0 ≤ v → v ≤ 1048576 → (v - u).toNat ≤ n → slow v u d ≤ 1048576 * v := by
  induction n with
  | zero => intro v u d hu hd h0 hv hn; rw [slow_end hd (by omega)]; omega
  | succ n ih =>
    intro v u d hu hd h0 hv hn
    by_cases h : u < v - d
    · rw [slow_go hd h]
      have := ih (v - d) u d hu hd (by omega) (by omega) (by omega)
      omega
    · rw [slow_end hd h]; omega
theorem slow_le {v u d : Int} (hu : 0 ≤ u) (hd : 1 ≤ d) (h0 : 0 ≤ v) (hv : v ≤ 1048576) : slow v u d ≤ 1099511627776 := by
  have := slow_le_n _ v u d hu hd h0 hv (Nat.le_refl _)
  omega
/-- how many cycles -/
def cyc (v d : Int) : Int := (v + d - 1) / d
theorem cyc_end {x d : Int} (hd : 1 ≤ d) (h0 : - d < x) (h1 : x ≤ 0) : cyc x d = 0 := by
  unfold cyc
  exact Int.ediv_eq_zero_of_lt (by omega) (by omega)
theorem cyc_go {x d : Int} (hd : 1 ≤ d) : cyc x d = cyc (x - d) d + 1 := by
  unfold cyc
  rw [show x + d - 1 = x - d + d - 1 + 1 * d by omega, Int.add_mul_ediv_right _ _ (by omega)]
theorem cyc_pos {x d : Int} (hd : 1 ≤ d) (h : 0 ≤ x) : 0 ≤ cyc x d := by unfold cyc; exact Int.ediv_nonneg (by omega) (by omega)
theorem cyc_le {x d : Int} (hd : 1 ≤ d) (h0 : 0 ≤ x) (h1 : x ≤ 1048576) : cyc x d ≤ 1048576 := by
  unfold cyc
  have : (x + d - 1) / d ≤ x := by
    by_cases hx : x = 0
    · subst hx; rw [Int.ediv_eq_zero_of_lt (by omega) (by omega)]; omega
    · have := Int.ediv_lt_of_lt_mul (a := x + d - 1) (b := x + 1) (c := d) (by omega) (by
        rw [Int.add_mul]
        have : x * 1 ≤ x * d := Int.mul_le_mul_of_nonneg_left hd h0
        omega)
      omega
  omega
/-- one cycle of a halt: what is left of the way, and of the cycles -/
def nextV (u d : Int) : Int := max 0 (u - d)
theorem next_way {u d : Int} (hd : 1 ≤ d) (hu : 0 < u) : nextV u d + slow (nextV u d) 0 d = slow u 0 d := by
  unfold nextV
  by_cases h : 0 < u - d
  · rw [Int.max_eq_right (by omega), slow_go hd h]
  · rw [Int.max_eq_left (by omega), slow_end (v := 0) hd (by omega), slow_end (v := u) hd h]; rfl
theorem next_cyc {u d : Int} (hd : 1 ≤ d) (hu : 0 < u) : cyc u d = cyc (nextV u d) d + 1 := by
  rw [cyc_go hd]
  unfold nextV
  by_cases h : 0 < u - d
  · rw [Int.max_eq_right (by omega)]
  · rw [Int.max_eq_left (by omega), cyc_end hd (by omega) (by omega), cyc_end hd (by omega) (by omega)]
/-! ### The greatest speeds -/
def IsReach (s d v : Int) : Prop := 0 ≤ v ∧ v ≤ 1048576 ∧ v + slow v 0 d ≤ s ∧ (v = 1048576 ∨ s < v + 1 + slow (v + 1) 0 d)
def IsPass (s u d v : Int) : Prop := u ≤ v ∧ v ≤ 1048576 ∧ (v = u ∨ v + slow v u d ≤ s) ∧ (v = 1048576 ∨ s < v + 1 + slow (v + 1) u d)
theorem reach_top {s d v x : Int} (hd : 1 ≤ d) (h : IsReach s d v) (hx : x ≤ 1048576) (hw : x + slow x 0 d ≤ s) : x ≤ v := by
  obtain ⟨h0, h1, h2, h3⟩ := h
  rcases h3 with h3 | h3
  · omega
  · by_cases hle : x ≤ v
    · exact hle
    · have := slow_mono (v := v + 1) (v' := x) (u := 0) (by omega) hd (by omega)
      omega
theorem reach_far {s t d v v' : Int} (hd : 1 ≤ d) (hst : s ≤ t) (h : IsReach s d v) (h' : IsReach t d v') : v ≤ v' :=
  reach_top hd h' h.2.1 (Int.le_trans h.2.2.1 hst)
theorem reach_loss {s c d v v' : Int} (hc : 1 ≤ c) (hcd : c ≤ d) (h : IsReach s c v) (h' : IsReach s d v') : v ≤ v' := by
  have := slow_loss (v := v) (u := 0) (by omega) hc hcd
  exact reach_top (by omega) h' h.2.1 (by have := h.2.2.1; omega)
theorem reach_ex (S D : Int) (hS : 0 ≤ S) (hD : 1 ≤ D) : ∀ n : Nat, ∃ v : Int, 0 ≤ v ∧ v ≤ n ∧ v + slow v 0 D ≤ S ∧ (v = n ∨ S < v + 1 + slow (v + 1) 0 D)
  | 0 => ⟨0, by omega, by omega, by rw [slow_end hD (by omega)]; omega, .inl rfl⟩
  | n + 1 => by
    by_cases h : ((n + 1 : Nat) : Int) + slow ((n + 1 : Nat) : Int) 0 D ≤ S
    · exact ⟨((n + 1 : Nat) : Int), by omega, by omega, h, .inl rfl⟩
    · obtain ⟨v, h0, h1, h2, h3⟩ := reach_ex S D hS hD n
      refine ⟨v, h0, by omega, h2, .inr ?_⟩
      rcases h3 with h3 | h3
      · rw [h3]; rw [Int.natCast_add] at h; exact Int.not_le.mp h
      · exact h3
theorem pass_ex (S U D : Int) (hU : 0 ≤ U) : ∀ n : Nat, ∃ v : Int, U ≤ v ∧ v ≤ U + n ∧ (v = U ∨ v + slow v U D ≤ S) ∧ (v = U + n ∨ S < v + 1 + slow (v + 1) U D)
  | 0 => ⟨U, by omega, by omega, .inl rfl, .inl (by omega)⟩
  | n + 1 => by
    by_cases h : (U + ((n + 1 : Nat) : Int)) + slow (U + ((n + 1 : Nat) : Int)) U D ≤ S
    · exact ⟨U + ((n + 1 : Nat) : Int), by omega, by omega, .inr h, .inl rfl⟩
    · obtain ⟨v, h0, h1, h2, h3⟩ := pass_ex S U D hU n
      refine ⟨v, h0, by omega, h2, .inr ?_⟩
      rcases h3 with h3 | h3
      · rw [h3]; rw [Int.natCast_add, ← Int.add_assoc] at h; exact Int.not_le.mp h
      · exact h3
open Classical in
noncomputable def reachV (s d : Int) : Int := if h : ∃ v, IsReach s d v then Classical.choose h else 0
open Classical in
noncomputable def passV (s u d : Int) : Int := if h : ∃ v, IsPass s u d v then Classical.choose h else 0
theorem reachV_is {s d : Int} (hs : 0 ≤ s) (hd : 1 ≤ d) : IsReach s d (reachV s d) := by
  have h : ∃ v, IsReach s d v := by
    obtain ⟨v, h0, h1, h2, h3⟩ := reach_ex s d hs hd 1048576
    exact ⟨v, h0, h1, h2, h3⟩
  unfold reachV
  rw [dif_pos h]
  exact Classical.choose_spec h
theorem passV_is {s u d : Int} (hu : 0 ≤ u) (hu2 : u ≤ 1048576) (hd : 1 ≤ d) : IsPass s u d (passV s u d) := by
  have h : ∃ v, IsPass s u d v := by
    obtain ⟨v, h0, h1, h2, h3⟩ := pass_ex s u d hu (1048576 - u).toNat
    exact ⟨v, h0, by omega, h2, by omega⟩
  unfold passV
  rw [dif_pos h]
  exact Classical.choose_spec h
theorem reachV_of {s d v : Int} (hd : 1 ≤ d) (h : IsReach s d v) : reachV s d = v := by
  have hs : 0 ≤ s := by
    have := slow_pos (v := v) (u := 0) (by omega) hd
    have := h.1
    have := h.2.2.1
    omega
  have h2 := reachV_is hs hd
  have a := reach_far hd (Int.le_refl s) h h2
  have b := reach_far hd (Int.le_refl s) h2 h
  omega
theorem pass_top {s u d v x : Int} (hu : 0 ≤ u) (hd : 1 ≤ d) (h : IsPass s u d v) (hx : x ≤ 1048576) (hux : u ≤ x) (hw : x = u ∨ x + slow x u d ≤ s) : x ≤ v := by
  obtain ⟨h0, h1, h2, h3⟩ := h
  rcases h3 with h3 | h3
  · omega
  · by_cases hle : x ≤ v
    · exact hle
    · have := slow_mono (v := v + 1) (v' := x) hu hd (by omega)
      omega
theorem passV_of {s u d v : Int} (hu : 0 ≤ u) (hu2 : u ≤ 1048576) (hd : 1 ≤ d) (h : IsPass s u d v) : passV s u d = v := by
  have h2 := passV_is (s := s) hu hu2 hd
  have a := pass_top hu hd h h2.2.1 h2.1 h2.2.2.1
  have b := pass_top hu hd h2 h.2.1 h.1 h.2.2.1
  omega
end Go.Proofs.Ytaohidaijlcplaa.b
