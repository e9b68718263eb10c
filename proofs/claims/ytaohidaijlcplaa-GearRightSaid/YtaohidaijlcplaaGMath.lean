/- Plain facts on generators: the speeds that one may have, what is wanted, and how the way to a place shrinks. No condition beyond what each line says. -/
import Derived.Test.YtaohidaijlcplaaBMath
namespace Go.Proofs.Ytaohidaijlcplaa.gn
open Go.ChangeShapes Go.WideShapes Go.ChangeAt Go.RowKit Go.Proofs.Ytaohidaijlcplaa.k Go.Proofs.Ytaohidaijlcplaa.b
set_option linter.unusedVariables false

structure L where
  V : Int
  A : Int
  D : Int
  lo : Int
  hi : Int
def RightL (l : L) : Prop := 1 ≤ l.V ∧ l.V ≤ 1048576 ∧ 1 ≤ l.A ∧ l.A ≤ 1048576 ∧ 1 ≤ l.D ∧ l.D ≤ 1048576 ∧ -1099511627776 ≤ l.lo ∧ l.hi ≤ 1099511627776 ∧ l.lo ≤ l.hi
instance (l : L) : Decidable (RightL l) := by unfold RightL; infer_instance
def rightL (l : L) : Bool := decide (RightL l)
def wayOK (l : L) (p v : Int) : Prop := if v < 0 then slow (-v) 0 l.D ≤ p - l.lo else slow v 0 l.D ≤ l.hi - p
instance (l : L) (p v : Int) : Decidable (wayOK l p v) := by unfold wayOK; infer_instance
def SafeP (l : L) (p v : Int) : Prop := l.lo ≤ p ∧ p ≤ l.hi ∧ -1048576 ≤ v ∧ v ≤ 1048576 ∧ wayOK l p v
instance (l : L) (p v : Int) : Decidable (SafeP l p v) := by unfold SafeP; infer_instance
def safeP (l : L) (p v : Int) : Bool := decide (RightL l ∧ SafeP l p v)
theorem right_yes {l : L} (h : RightL l) : rightL l = true := decide_eq_true h
theorem right_no {l : L} (h : ¬ RightL l) : rightL l = false := decide_eq_false h
theorem safe_yes {l : L} {p v : Int} (h : RightL l) (h2 : SafeP l p v) : safeP l p v = true := decide_eq_true ⟨h, h2⟩
theorem safe_no {l : L} {p v : Int} (h : ¬ (RightL l ∧ SafeP l p v)) : safeP l p v = false := decide_eq_false h

/-! ### The speeds that it may have -/
/-- the greatest speed, one way -/
noncomputable def hiOf (l : L) (v room : Int) : Int := max (nextV v l.D) (min (min (v + l.A) l.V) (reachV room l.D))
noncomputable def mayLo (l : L) (p v : Int) : Int := if 0 < v then nextV v l.D else -hiOf l (-v) (p - l.lo)
noncomputable def mayHi (l : L) (p v : Int) : Int := if v < 0 then -nextV (-v) l.D else hiOf l v (l.hi - p)
noncomputable def stepV (l : L) (p v want : Int) : Int := clamp want (mayLo l p v) (mayHi l p v)
noncomputable def toV (l : L) (p v t x : Int) : Int :=
  if p < clamp t l.lo l.hi ∧ 0 ≤ v then min (vel x) (reachV (clamp t l.lo l.hi - p) l.D)
  else if clamp t l.lo l.hi < p ∧ v ≤ 0 then -min (vel x) (reachV (p - clamp t l.lo l.hi) l.D) else 0
noncomputable def byV (l : L) (p v t u s x : Int) : Int :=
  if p < clamp t l.lo l.hi ∧ p < clamp s l.lo l.hi ∧ 0 ≤ v then min (min (vel x) (reachV (clamp s l.lo l.hi - p) l.D)) (passV (clamp t l.lo l.hi - p) (vel u) l.D)
  else if clamp t l.lo l.hi < p ∧ clamp s l.lo l.hi < p ∧ v ≤ 0 then -min (min (vel x) (reachV (p - clamp s l.lo l.hi) l.D)) (passV (p - clamp t l.lo l.hi) (vel u) l.D) else 0
theorem clamp_mid {n lo hi : Int} (h : lo ≤ hi) : lo ≤ clamp n lo hi ∧ clamp n lo hi ≤ hi := by unfold clamp; omega
theorem clamp_in {n lo hi : Int} (h1 : lo ≤ n) (h2 : n ≤ hi) : clamp n lo hi = n := by unfold clamp; omega
theorem nextV_in {v d : Int} (h : 0 ≤ v) (hd : 1 ≤ d) : 0 ≤ nextV v d ∧ nextV v d ≤ v ∧ v - d ≤ nextV v d := by unfold nextV; omega
theorem nextV_zero {d : Int} (hd : 1 ≤ d) : nextV 0 d = 0 := by unfold nextV; omega
theorem slow_zero {d : Int} (hd : 1 ≤ d) : slow 0 0 d = 0 := slow_end hd (by omega)
theorem slow_one {d : Int} (hd : 1 ≤ d) : slow 1 0 d = 0 := slow_end hd (by omega)
theorem slow_small {v d : Int} (hd : 1 ≤ d) (h : slow v 0 d ≤ 0) : v ≤ d := by
  rcases Int.lt_or_le d v with hlt | hle
  · rw [slow_go hd (by omega)] at h
    have := slow_pos (v := v - d) (u := 0) (by omega) hd
    omega
  · exact hle
/-- a lesser speed fits where a greater one does -/
theorem fit_le {x y d s : Int} (hd : 1 ≤ d) (h : x ≤ y) (hy : y + slow y 0 d ≤ s) : x + slow x 0 d ≤ s := by
  have := slow_mono (v := x) (v' := y) (u := 0) (by omega) hd h
  omega
theorem next_fit {v d s : Int} (hd : 1 ≤ d) (hv : 0 ≤ v) (h : slow v 0 d ≤ s) : nextV v d + slow (nextV v d) 0 d ≤ s := by
  by_cases h0 : 0 < v
  · rw [next_way hd h0]; exact h
  · have e : v = 0 := by omega
    subst e
    rw [nextV_zero hd, slow_zero hd]
    rw [slow_zero hd] at h
    omega
theorem reach_in {s d : Int} (hs : 0 ≤ s) (hd : 1 ≤ d) : 0 ≤ reachV s d ∧ reachV s d ≤ 1048576 ∧ reachV s d + slow (reachV s d) 0 d ≤ s :=
  ⟨(reachV_is hs hd).1, (reachV_is hs hd).2.1, (reachV_is hs hd).2.2.1⟩
theorem reach_ge {s d x : Int} (hs : 0 ≤ s) (hd : 1 ≤ d) (hx : x ≤ 1048576) (h : x + slow x 0 d ≤ s) : x ≤ reachV s d := reach_top hd (reachV_is hs hd) hx h
theorem reach_one {s d : Int} (hs : 1 ≤ s) (hd : 1 ≤ d) : 1 ≤ reachV s d := reach_ge (by omega) hd (by omega) (by rw [slow_one hd]; omega)
theorem reach_more {s t d : Int} (hs : 0 ≤ s) (hd : 1 ≤ d) (h : s ≤ t) : reachV s d ≤ reachV t d := reach_far hd h (reachV_is hs hd) (reachV_is (by omega) hd)
theorem hi_fits {l : L} (hr : RightL l) {v room x : Int} (hv : 0 ≤ v) (h : slow v 0 l.D ≤ room) (hx : x ≤ hiOf l v room) : x + slow x 0 l.D ≤ room := by
  obtain ⟨r1, r2, r3, r4, r5, r6, _⟩ := hr
  have hp := slow_pos (v := v) (u := 0) (by omega) r5
  have hroom : 0 ≤ room := by omega
  unfold hiOf at hx
  by_cases h1 : x ≤ nextV v l.D
  · exact fit_le r5 h1 (next_fit r5 hv h)
  · have : x ≤ reachV room l.D := by omega
    exact fit_le r5 this (reach_in hroom r5).2.2
theorem hi_bound {l : L} (hr : RightL l) {v room : Int} (hv : 0 ≤ v) (hv2 : v ≤ 1048576) : hiOf l v room ≤ 1048576 ∧ nextV v l.D ≤ hiOf l v room ∧ (hiOf l v room ≤ v ∨ hiOf l v room ≤ v + l.A) ∧ (hiOf l v room ≤ l.V ∨ hiOf l v room ≤ nextV v l.D) := by
  obtain ⟨r1, r2, r3, r4, r5, r6, _⟩ := hr
  have hn := nextV_in hv r5
  unfold hiOf
  generalize reachV room l.D = rr
  omega
/-- one way: for a speed that is not below 0, and a wish that isn't -/
noncomputable def goV (l : L) (v w room : Int) : Int := clamp w (nextV v l.D) (hiOf l v room)
theorem step_up {l : L} (hr : RightL l) {p v w : Int} (hv : 0 ≤ v) (hv2 : v ≤ 1048576) (hw : 0 ≤ w) (hs : SafeP l p v) : stepV l p v w = goV l v w (l.hi - p) := by
  have hb := hi_bound hr (room := l.hi - p) hv hv2
  have hb0 := hi_bound hr (v := 0) (room := p - l.lo) (by omega) (by omega)
  have hn := nextV_in hv hr.2.2.2.2.1
  unfold stepV mayLo mayHi goV
  rw [if_neg (show ¬ v < 0 by omega)]
  by_cases h0 : 0 < v
  · rw [if_pos h0]
  · have e : v = 0 := by omega
    subst e
    rw [if_neg h0, nextV_zero hr.2.2.2.2.1]
    rw [nextV_zero hr.2.2.2.2.1] at hb hb0
    rw [show (-0 : Int) = 0 by rfl]
    unfold clamp
    omega
theorem step_down {l : L} (hr : RightL l) {p v w : Int} (hv : v ≤ 0) (hv2 : -1048576 ≤ v) (hw : w ≤ 0) (hs : SafeP l p v) : stepV l p v w = -goV l (-v) (-w) (p - l.lo) := by
  have hb := hi_bound hr (v := -v) (room := p - l.lo) (by omega) (by omega)
  have hb0 := hi_bound hr (v := 0) (room := l.hi - p) (by omega) (by omega)
  have hn := nextV_in (v := -v) (by omega) hr.2.2.2.2.1
  unfold stepV mayLo mayHi goV
  rw [if_neg (by omega)]
  by_cases h0 : v < 0
  · rw [if_pos h0]
    unfold clamp
    omega
  · have e : v = 0 := by omega
    subst e
    rw [if_neg h0]
    rw [show (-0 : Int) = 0 by rfl] at *
    rw [nextV_zero hr.2.2.2.2.1] at *
    unfold clamp
    omega
theorem may_le {l : L} (hr : RightL l) {p v : Int} (hs : SafeP l p v) : mayLo l p v ≤ mayHi l p v ∧ -1048576 ≤ mayLo l p v ∧ mayHi l p v ≤ 1048576 := by
  obtain ⟨_, _, h3, h4, _⟩ := hs
  have r5 := hr.2.2.2.2.1
  unfold mayLo mayHi
  by_cases h0 : 0 < v
  · have hb := hi_bound hr (v := v) (room := l.hi - p) (by omega) (by omega)
    have hn := nextV_in (v := v) (by omega) r5
    rw [if_pos h0, if_neg (by omega)]
    omega
  · have hb := hi_bound hr (v := -v) (room := p - l.lo) (by omega) (by omega)
    have hn := nextV_in (v := -v) (by omega) r5
    rw [if_neg h0]
    by_cases h1 : v < 0
    · rw [if_pos h1]; omega
    · have e : v = 0 := by omega
      subst e
      have hb2 := hi_bound hr (v := 0) (room := l.hi - p) (by omega) (by omega)
      rw [if_neg h1]
      rw [show (-0 : Int) = 0 by rfl] at *
      rw [nextV_zero r5] at *
      omega
theorem safe_up {l : L} {p v : Int} (hs : SafeP l p v) (hv : 0 ≤ v) : slow v 0 l.D ≤ l.hi - p := by
  have := hs.2.2.2.2
  unfold wayOK at this
  rwa [if_neg (by omega)] at this
theorem safe_down {l : L} (hr : RightL l) {p v : Int} (hs : SafeP l p v) (hv : v ≤ 0) : slow (-v) 0 l.D ≤ p - l.lo := by
  have h := hs.2.2.2.2
  unfold wayOK at h
  by_cases h0 : v < 0
  · rwa [if_pos h0] at h
  · have e : v = 0 := by omega
    subst e
    rw [show (-0 : Int) = 0 by rfl, slow_zero hr.2.2.2.2.1]
    have := hs.1
    omega
/-- a step upwards is safe -/
theorem put_up {l : L} (hr : RightL l) {p x : Int} (hp : l.lo ≤ p) (hx : 0 ≤ x) (hx2 : x ≤ 1048576) (h : x + slow x 0 l.D ≤ l.hi - p) : SafeP l (p + x) x := by
  have := slow_pos (v := x) (u := 0) (by omega) hr.2.2.2.2.1
  refine ⟨by omega, by omega, by omega, hx2, ?_⟩
  unfold wayOK
  rw [if_neg (by omega)]
  omega
theorem put_down {l : L} (hr : RightL l) {p x : Int} (hp : p ≤ l.hi) (hx : 0 ≤ x) (hx2 : x ≤ 1048576) (h : x + slow x 0 l.D ≤ p - l.lo) : SafeP l (p - x) (-x) := by
  have := slow_pos (v := x) (u := 0) (by omega) hr.2.2.2.2.1
  refine ⟨by omega, by omega, by omega, by omega, ?_⟩
  unfold wayOK
  by_cases h0 : -x < 0
  · rw [if_pos h0, show - -x = x by omega]
    omega
  · have e : x = 0 := by omega
    subst e
    rw [if_neg h0, show (-0 : Int) = 0 by rfl, slow_zero hr.2.2.2.2.1]
    omega
/-- GenSafe's step: any wish -/
structure Kept (l : L) (p v x : Int) : Prop where
  safe : SafeP l (p + x) x
  more : x - v ≤ max l.A l.D
  less : -(x - v) ≤ max l.A l.D
  turnUp : ¬ (0 < v ∧ x < 0)
  turnDown : ¬ (v < 0 ∧ 0 < x)
  size : max x (-x) ≤ l.V ∨ max x (-x) ≤ max (max v (-v) - l.D) 0
theorem step_kept {l : L} (hr : RightL l) {p v : Int} (hs : SafeP l p v) (w : Int) : Kept l p v (stepV l p v w) := by
  have hml := may_le hr hs
  have hcm := clamp_mid (n := w) hml.1
  have r5 := hr.2.2.2.2.1
  have h3 := hs.2.2.1
  have h4 := hs.2.2.2.1
  unfold stepV
  generalize clamp w (mayLo l p v) (mayHi l p v) = x at hcm
  obtain ⟨c1, c2⟩ := hcm
  unfold mayLo at c1
  unfold mayHi at c2
  by_cases h0 : 0 < v
  · have hb := hi_bound hr (v := v) (room := l.hi - p) (by omega) (by omega)
    have hn := nextV_in (v := v) (by omega) r5
    rw [if_pos h0] at c1
    rw [if_neg (by omega)] at c2
    have hf := hi_fits hr (by omega) (safe_up hs (by omega)) c2
    refine ⟨put_up hr hs.1 (by omega) (by omega) hf, by omega, by omega, by omega, by omega, ?_⟩
    unfold nextV at *
    omega
  · rw [if_neg h0] at c1
    have hb := hi_bound hr (v := -v) (room := p - l.lo) (by omega) (by omega)
    have hn := nextV_in (v := -v) (by omega) r5
    by_cases h1 : v < 0
    · rw [if_pos h1] at c2
      have hf := hi_fits hr (v := -v) (room := p - l.lo) (x := -x) (by omega) (safe_down hr hs (by omega)) (by omega)
      have := put_down hr (p := p) (x := -x) hs.2.1 (by omega) (by omega) hf
      rw [show p - -x = p + x by omega, show - -x = x by omega] at this
      refine ⟨this, by omega, by omega, by omega, by omega, ?_⟩
      unfold nextV at *
      omega
    · have e : v = 0 := by omega
      subst e
      rw [if_neg h1] at c2
      rw [show (-0 : Int) = 0 by rfl] at *
      have hb2 := hi_bound hr (v := 0) (room := l.hi - p) (by omega) (by omega)
      rw [nextV_zero r5] at *
      by_cases hx : 0 ≤ x
      · have hf := hi_fits hr (by omega) (safe_up hs (by omega)) c2
        refine ⟨put_up hr hs.1 hx (by omega) hf, by omega, by omega, by omega, by omega, by omega⟩
      · have hf := hi_fits hr (v := 0) (room := p - l.lo) (x := -x) (by omega) (by have := safe_down hr hs (by omega); rwa [show (-0 : Int) = 0 by rfl] at this) (by omega)
        have := put_down hr (p := p) (x := -x) hs.2.1 (by omega) (by omega) hf
        rw [show p - -x = p + x by omega, show - -x = x by omega] at this
        refine ⟨this, by omega, by omega, by omega, by omega, by omega⟩
/-! ### A halt -/
theorem stop_up {l : L} (hr : RightL l) {p v : Int} (hs : SafeP l p v) (hv : 0 ≤ v) : stepV l p v 0 = nextV v l.D := by
  have hb := hi_bound hr (v := v) (room := l.hi - p) hv hs.2.2.2.1
  have hn := nextV_in hv hr.2.2.2.2.1
  rw [step_up hr hv hs.2.2.2.1 (by omega) hs]
  unfold goV clamp
  omega
theorem stop_down {l : L} (hr : RightL l) {p v : Int} (hs : SafeP l p v) (hv : v ≤ 0) : stepV l p v 0 = -nextV (-v) l.D := by
  have hb := hi_bound hr (v := -v) (room := p - l.lo) (by omega) (by have := hs.2.2.1; omega)
  have hn := nextV_in (v := -v) (by omega) hr.2.2.2.2.1
  rw [step_down hr hv hs.2.2.1 (by omega) hs]
  unfold goV clamp
  omega
/-- what is left of a halt: the place where it ends, the cycles -/
noncomputable def haltP (l : L) (p v : Int) : Int := if v < 0 then p - slow (-v) 0 l.D else p + slow v 0 l.D
def haltN (l : L) (v : Int) : Int := cyc (max v (-v)) l.D
theorem halt_step {l : L} (hr : RightL l) {p v : Int} (hs : SafeP l p v) (hv : v ≠ 0) :
    haltP l (p + stepV l p v 0) (stepV l p v 0) = haltP l p v ∧ haltN l v = haltN l (stepV l p v 0) + 1 := by
  have r5 := hr.2.2.2.2.1
  by_cases h0 : 0 < v
  · rw [stop_up hr hs (by omega)]
    have hn := nextV_in (v := v) (by omega) r5
    have hw := next_way (u := v) r5 h0
    have hc := next_cyc (u := v) r5 h0
    unfold haltP haltN
    rw [if_neg (by omega), if_neg (by omega), Int.max_eq_left (by omega), Int.max_eq_left (by omega)]
    exact ⟨by omega, hc⟩
  · rw [stop_down hr hs (by omega)]
    have hn := nextV_in (v := -v) (by omega) r5
    have hw := next_way (u := -v) r5 (by omega)
    have hc := next_cyc (u := -v) r5 (by omega)
    unfold haltP haltN
    rw [if_pos (show v < 0 by omega), Int.max_eq_right (show v ≤ -v by omega), Int.max_eq_right (show -nextV (-v) l.D ≤ - -nextV (-v) l.D by omega), show - -nextV (-v) l.D = nextV (-v) l.D by omega]
    refine ⟨?_, hc⟩
    by_cases hz : -nextV (-v) l.D < 0
    · rw [if_pos hz]; omega
    · rw [if_neg hz]
      have e : nextV (-v) l.D = 0 := by omega
      rw [e, slow_zero r5] at hw
      rw [e, show (-0 : Int) = 0 by rfl, slow_zero r5]
      omega
theorem haltN_zero {l : L} (hr : RightL l) {v : Int} (h : haltN l v ≤ 0) : v = 0 := by
  have r5 := hr.2.2.2.2.1
  unfold haltN at h
  rcases Int.lt_or_le 0 (max v (-v)) with h0 | h0
  · rw [next_cyc r5 h0] at h
    have hn := nextV_in (v := max v (-v)) (by omega) r5
    have := cyc_pos (x := nextV (max v (-v)) l.D) r5 hn.1
    omega
  · omega
theorem haltN_pos {l : L} (hr : RightL l) (v : Int) : 0 ≤ haltN l v := cyc_pos hr.2.2.2.2.1 (by omega)
theorem haltN_at {l : L} (hr : RightL l) : haltN l 0 = 0 := by
  have r5 := hr.2.2.2.2.1
  unfold haltN
  rw [show max (0 : Int) (-0) = 0 by decide]
  exact cyc_end r5 (by omega) (by omega)
theorem haltP_at {l : L} (hr : RightL l) (p : Int) : haltP l p 0 = p := by
  unfold haltP
  rw [if_neg (by omega), slow_zero hr.2.2.2.2.1]
  omega
theorem stand {l : L} (hr : RightL l) {p : Int} (hs : SafeP l p 0) : stepV l p 0 0 = 0 := by
  rw [stop_up hr hs (by omega), nextV_zero hr.2.2.2.2.1]
/-! ### To a place -/
/-- one way: the way left e, the speed v; how many steps it takes at most -/
noncomputable def M1 (d e v : Int) : Int := if slow v 0 d ≤ e then (if e = 0 ∧ v = 0 then 0 else e + 1) else cyc v d + (slow v 0 d - e) + 1
theorem M1_zero {d e : Int} (hd : 1 ≤ d) : M1 d e 0 = M1 d (-e) 0 := by
  have h1 : cyc 0 d = 0 := cyc_end hd (by omega) (by omega)
  unfold M1
  rw [slow_zero hd, h1]
  split <;> split <;> (try split) <;> (try split) <;> omega
theorem M1_in {d e v : Int} (hd : 1 ≤ d) (hv : 0 ≤ v) : 0 ≤ M1 d e v ∧ (M1 d e v ≤ 0 → e = 0 ∧ v = 0) ∧ M1 d e v ≤ cyc v d + 2 + 2 * max e (-e) + slow v 0 d := by
  have hp := slow_pos (v := v) (u := 0) (by omega) hd
  have hc := cyc_pos (x := v) hd hv
  unfold M1
  generalize slow v 0 d = s at *
  generalize cyc v d = c at *
  split
  · split <;> omega
  · omega
/-- what is wanted, one way -/
noncomputable def want1 (l : L) (e s : Int) : Int := if 0 < e then min s (reachV e l.D) else 0
/-- on the way to a place: where a step leads -/
theorem on_way {l : L} (hr : RightL l) {v e room s : Int} (hv : 0 ≤ v) (hv2 : v ≤ 1048576) (he : e ≤ room) (hs : 1 ≤ s) (hon : slow v 0 l.D ≤ e) (h1 : 1 ≤ e) :
    1 ≤ goV l v (want1 l e s) room ∧ goV l v (want1 l e s) room + slow (goV l v (want1 l e s) room) 0 l.D ≤ e ∧ goV l v (want1 l e s) room ≤ max v (min s l.V) := by
  have r5 := hr.2.2.2.2.1
  have hb := hi_bound hr (room := room) hv hv2
  have hn := nextV_in hv r5
  have hre := reach_in (s := e) (by omega) r5
  have hro := reach_one h1 r5
  have hrm := reach_more (s := e) (t := room) (by omega) r5 he
  have hnf := next_fit r5 hv hon
  have hnr := reach_ge (by omega) r5 (by omega) hnf
  have hhi : 1 ≤ hiOf l v room := by
    unfold hiOf
    have := hr.1
    have := hr.2.2.1
    omega
  have hw : want1 l e s = min s (reachV e l.D) := by unfold want1; rw [if_pos (by omega)]
  rw [hw]
  have hx : goV l v (min s (reachV e l.D)) room = max (nextV v l.D) (min (min s (reachV e l.D)) (hiOf l v room)) := by unfold goV clamp; omega
  rw [hx]
  refine ⟨by omega, fit_le r5 (show _ ≤ reachV e l.D by omega) hre.2.2, ?_⟩
  unfold hiOf
  generalize reachV e l.D = r1 at *
  generalize reachV room l.D = r2 at *
  omega
/-- off the way: it brakes -/
theorem off_way {l : L} (hr : RightL l) {v e room s : Int} (hv : 0 ≤ v) (hv2 : v ≤ 1048576) (hs : 0 ≤ s) (hoff : e < slow v 0 l.D ∨ e ≤ 0) : goV l v (want1 l e s) room = nextV v l.D := by
  have r5 := hr.2.2.2.2.1
  have hb := hi_bound hr (room := room) hv hv2
  have hn := nextV_in hv r5
  have hw : want1 l e s ≤ nextV v l.D := by
    unfold want1
    by_cases h : 0 < e
    · rw [if_pos h]
      have hre := reach_in (s := e) (by omega) r5
      have hv0 : 0 < v := by
        rcases Int.lt_or_le 0 v with h2 | h2
        · exact h2
        · have e0 : v = 0 := by omega
          subst e0
          rw [slow_zero r5] at hoff
          omega
      have hnw := next_way r5 hv0
      rcases Int.lt_or_le (nextV v l.D) (reachV e l.D) with h2 | h2
      · have := fit_le r5 (Int.le_of_lt h2) hre.2.2
        omega
      · omega
    · rw [if_neg h]; omega
  unfold goV clamp
  omega
theorem M1_step {l : L} (hr : RightL l) {v e room s : Int} (hv : 0 ≤ v) (hv2 : v ≤ 1048576) (he : e ≤ room) (hs : 1 ≤ s) (hd : 0 < v ∨ 0 ≤ e) (hnl : ¬ (e = 0 ∧ v = 0)) :
    M1 l.D (e - goV l v (want1 l e s) room) (goV l v (want1 l e s) room) + 1 ≤ M1 l.D e v := by
  have r5 := hr.2.2.2.2.1
  by_cases hon : slow v 0 l.D ≤ e
  · have hp := slow_pos (v := v) (u := 0) (by omega) r5
    have hM : M1 l.D e v = e + 1 := by unfold M1; rw [if_pos hon, if_neg hnl]
    rw [hM]
    by_cases h1 : 1 ≤ e
    · obtain ⟨a1, a2, _⟩ := on_way hr hv hv2 he hs hon h1
      generalize goV l v (want1 l e s) room = x at *
      unfold M1
      rw [if_pos (by omega)]
      split <;> omega
    · have e0 : e = 0 := by omega
      subst e0
      rw [off_way hr hv hv2 (by omega) (.inr (by omega))]
      have hvd := slow_small r5 hon
      have : nextV v l.D = 0 := by unfold nextV; omega
      rw [this]
      unfold M1
      rw [if_pos (by rw [slow_zero r5]; omega), if_pos ⟨by omega, rfl⟩]
      omega
  · have hv0 : 0 < v := by
      rcases Int.lt_or_le 0 v with h2 | h2
      · exact h2
      · have e0 : v = 0 := by omega
        subst e0
        rw [slow_zero r5] at hon
        omega
    rw [off_way hr hv hv2 (by omega) (.inl (by omega))]
    have hM : M1 l.D e v = cyc v l.D + (slow v 0 l.D - e) + 1 := by unfold M1; rw [if_neg hon]
    have hnw := next_way r5 hv0
    have hnc := next_cyc r5 hv0
    rw [hM]
    have hoff2 : ¬ slow (nextV v l.D) 0 l.D ≤ e - nextV v l.D := by omega
    unfold M1
    rw [if_neg hoff2]
    omega
/-- both ways -/
noncomputable def MM (l : L) (t p v : Int) : Int := if 0 ≤ v then M1 l.D (t - p) v else M1 l.D (p - t) (-v)
theorem MM_down {l : L} (hr : RightL l) {t p v : Int} (h : v ≤ 0) : MM l t p v = M1 l.D (p - t) (-v) := by
  unfold MM
  by_cases h0 : 0 ≤ v
  · have e : v = 0 := by omega
    subst e
    rw [if_pos h0, M1_zero hr.2.2.2.2.1, show (-0 : Int) = 0 by rfl, show -(t - p) = p - t by omega]
  · rw [if_neg h0]
theorem toV_up {l : L} {p v t x : Int} (h1 : l.lo ≤ t) (h2 : t ≤ l.hi) (hv : 0 < v ∨ (0 ≤ v ∧ p ≤ t)) : toV l p v t x = want1 l (t - p) (vel x) := by
  unfold toV want1
  rw [clamp_in h1 h2]
  by_cases h : p < t
  · rw [if_pos ⟨h, by omega⟩, if_pos (by omega)]
  · rw [if_neg (by omega), if_neg (by omega), if_neg (by omega)]
theorem toV_down {l : L} {p v t x : Int} (h1 : l.lo ≤ t) (h2 : t ≤ l.hi) (hv : v < 0 ∨ (v ≤ 0 ∧ t ≤ p)) : toV l p v t x = -want1 l (p - t) (vel x) := by
  unfold toV want1
  rw [clamp_in h1 h2]
  by_cases h : t < p
  · rw [if_neg (by omega), if_pos ⟨h, by omega⟩, if_pos (by omega)]
  · rw [if_neg (by omega), if_neg (by omega), if_neg (by omega)]; rfl
theorem want1_pos {l : L} (hr : RightL l) {e s : Int} (hs : 0 ≤ s) : 0 ≤ want1 l e s := by
  unfold want1
  by_cases h : 0 < e
  · rw [if_pos h]
    have := (reach_in (s := e) (by omega) hr.2.2.2.2.1).1
    omega
  · rw [if_neg h]; omega
theorem vel_one {x : Int} (h : 1 ≤ x) : 1 ≤ vel x := by unfold vel clamp; omega
theorem goV_in {l : L} (hr : RightL l) {v w room : Int} (hv : 0 ≤ v) (hv2 : v ≤ 1048576) : 0 ≤ goV l v w room := by
  have hb := hi_bound hr (room := room) hv hv2
  have hn := nextV_in hv hr.2.2.2.2.1
  unfold goV clamp
  omega
theorem MM_step {l : L} (hr : RightL l) {p v t x : Int} (hs : SafeP l p v) (h1 : l.lo ≤ t) (h2 : t ≤ l.hi) (hx : 1 ≤ x) (hnl : ¬ (p = t ∧ v = 0)) :
    MM l t (p + stepV l p v (toV l p v t x)) (stepV l p v (toV l p v t x)) + 1 ≤ MM l t p v := by
  have h3 := hs.2.2.1
  have h4 := hs.2.2.2.1
  have hsx := vel_one hx
  by_cases hup : 0 < v ∨ (0 ≤ v ∧ p ≤ t)
  · rw [toV_up h1 h2 hup, step_up hr (by omega) h4 (want1_pos hr (by omega)) hs]
    have := M1_step hr (v := v) (e := t - p) (room := l.hi - p) (s := vel x) (by omega) h4 (by omega) hsx (by omega) (by omega)
    have hg := goV_in hr (v := v) (w := want1 l (t - p) (vel x)) (room := l.hi - p) (by omega) h4
    generalize goV l v (want1 l (t - p) (vel x)) (l.hi - p) = y at *
    unfold MM
    rw [if_pos hg, if_pos (by omega), show t - (p + y) = t - p - y by omega]
    exact this
  · have hdn : v < 0 ∨ (v ≤ 0 ∧ t ≤ p) := by omega
    rw [toV_down h1 h2 hdn, step_down hr (by omega) h3 (by have := want1_pos hr (e := p - t) (s := vel x) (by omega); omega) hs, show - -want1 l (p - t) (vel x) = want1 l (p - t) (vel x) by omega]
    have := M1_step hr (v := -v) (e := p - t) (room := p - l.lo) (s := vel x) (by omega) (by omega) (by omega) hsx (by omega) (by omega)
    have hg := goV_in hr (v := -v) (w := want1 l (p - t) (vel x)) (room := p - l.lo) (by omega) (by omega)
    generalize goV l (-v) (want1 l (p - t) (vel x)) (p - l.lo) = y at *
    rw [MM_down hr (by omega), MM_down hr (by omega), show p + -y - t = p - t - y by omega, show - -y = y by omega]
    exact this
theorem MM_in {l : L} (hr : RightL l) {t p v : Int} : 0 ≤ MM l t p v ∧ (MM l t p v ≤ 0 → p = t ∧ v = 0) ∧ MM l t p v ≤ haltN l v + 2 + 2 * max (t - p) (p - t) + slow (max v (-v)) 0 l.D := by
  have r5 := hr.2.2.2.2.1
  unfold MM haltN
  by_cases h : 0 ≤ v
  · rw [if_pos h, Int.max_eq_left (show -v ≤ v by omega)]
    have := M1_in (e := t - p) r5 h
    omega
  · rw [if_neg h, Int.max_eq_right (show v ≤ -v by omega)]
    have := M1_in (e := p - t) (v := -v) r5 (by omega)
    omega
theorem to_stand {l : L} (hr : RightL l) {t x : Int} (hs : SafeP l t 0) : stepV l t 0 (toV l t 0 t x) = 0 := by
  rw [toV_up hs.1 hs.2.1 (.inr ⟨by omega, by omega⟩)]
  have : want1 l (t - t) (vel x) = 0 := by unfold want1; rw [if_neg (by omega)]
  rw [this]
  exact stand hr hs
/-! ### From a standstill to a place, step by step nearer -/
structure Nears (l : L) (t s p v : Int) : Prop where
  safe : SafeP l p v
  cap : max v (-v) ≤ min s l.V
  on : (0 ≤ v ∧ slow v 0 l.D ≤ t - p) ∨ (v ≤ 0 ∧ slow (-v) 0 l.D ≤ p - t)
theorem near_step {l : L} (hr : RightL l) {p v t x : Int} (h : Nears l t (vel x) p v) (h1 : l.lo ≤ t) (h2 : t ≤ l.hi) (hx : 1 ≤ x) (hne : p ≠ t) :
    Nears l t (vel x) (p + stepV l p v (toV l p v t x)) (stepV l p v (toV l p v t x)) ∧ max (t - (p + stepV l p v (toV l p v t x))) (p + stepV l p v (toV l p v t x) - t) + 1 ≤ max (t - p) (p - t) ∧
      (p < t → p ≤ p + stepV l p v (toV l p v t x) ∧ p + stepV l p v (toV l p v t x) ≤ t) ∧ (t < p → t ≤ p + stepV l p v (toV l p v t x) ∧ p + stepV l p v (toV l p v t x) ≤ p) := by
  obtain ⟨hs, hc, hon⟩ := h
  have h3 := hs.2.2.1
  have h4 := hs.2.2.2.1
  have hsx := vel_one hx
  have r5 := hr.2.2.2.2.1
  have hk := (step_kept hr hs (toV l p v t x)).safe
  have q1 := slow_pos (v := v) (u := 0) (by omega) r5
  have q2 := slow_pos (v := -v) (u := 0) (by omega) r5
  rcases Int.lt_or_le p t with hlt | hle
  · have hv : 0 ≤ v ∧ slow v 0 l.D ≤ t - p := by
      rcases hon with h | h
      · exact h
      · omega
    have ew : toV l p v t x = want1 l (t - p) (vel x) := toV_up h1 h2 (.inr ⟨hv.1, by omega⟩)
    have es := step_up hr hv.1 h4 (want1_pos hr (e := t - p) (s := vel x) (by omega)) hs
    obtain ⟨a1, a2, a3⟩ := on_way hr (v := v) (e := t - p) (room := l.hi - p) (s := vel x) hv.1 h4 (by omega) hsx hv.2 (by omega)
    rw [ew, es] at hk ⊢
    generalize goV l v (want1 l (t - p) (vel x)) (l.hi - p) = y at *
    have q3 := slow_pos (v := y) (u := 0) (by omega) r5
    refine ⟨⟨hk, by omega, .inl ⟨by omega, by omega⟩⟩, by omega, by omega, by omega⟩
  · have hv : v ≤ 0 ∧ slow (-v) 0 l.D ≤ p - t := by
      rcases hon with h | h
      · omega
      · exact h
    have ew : toV l p v t x = -want1 l (p - t) (vel x) := toV_down h1 h2 (.inr ⟨hv.1, by omega⟩)
    have es := step_down hr hv.1 h3 (w := -want1 l (p - t) (vel x)) (by have := want1_pos hr (e := p - t) (s := vel x) (by omega); omega) hs
    rw [show - -want1 l (p - t) (vel x) = want1 l (p - t) (vel x) by omega] at es
    obtain ⟨a1, a2, a3⟩ := on_way hr (v := -v) (e := p - t) (room := p - l.lo) (s := vel x) (by omega) (by omega) (by omega) hsx hv.2 (by omega)
    rw [ew, es] at hk ⊢
    generalize goV l (-v) (want1 l (p - t) (vel x)) (p - l.lo) = y at *
    have q3 := slow_pos (v := y) (u := 0) (by omega) r5
    refine ⟨⟨hk, by omega, .inr ⟨by omega, by rw [show - -y = y by omega]; omega⟩⟩, by omega, by omega, by omega⟩
/-! ### By a place -/
structure Passes (l : L) (t u s p v : Int) : Prop where
  safe : SafeP l p v
  up : 0 ≤ v
  stops : slow v 0 l.D ≤ s - p
  slows : p < t → slow v u l.D ≤ t - p
  done : t ≤ p → v - l.D ≤ u
theorem pass_in {s u d : Int} (hu : 0 ≤ u) (hu2 : u ≤ 1048576) (hd : 1 ≤ d) : u ≤ passV s u d ∧ passV s u d ≤ 1048576 ∧ (passV s u d = u ∨ passV s u d + slow (passV s u d) u d ≤ s) :=
  ⟨(passV_is hu hu2 hd).1, (passV_is hu hu2 hd).2.1, (passV_is hu hu2 hd).2.2.1⟩
theorem passes_step {l : L} (hr : RightL l) {p v t u s x : Int} (hu : 1 ≤ vel u) (h : Passes l t (vel u) s p v) (hp : p < t) (hts : t ≤ s) (hsh : s ≤ l.hi) (hx : 1 ≤ x) :
    Passes l t (vel u) s (p + stepV l p v (byV l p v t u s x)) (stepV l p v (byV l p v t u s x)) ∧ p < p + stepV l p v (byV l p v t u s x) ∧ p + stepV l p v (byV l p v t u s x) ≤ s ∧
      (t ≤ p + stepV l p v (byV l p v t u s x) → stepV l p v (byV l p v t u s x) ≤ max (vel u) (t - p)) := by
  obtain ⟨hs, hv, hst, hsl, hdn⟩ := h
  have h3 := hs.2.2.1
  have h4 := hs.2.2.2.1
  have r5 := hr.2.2.2.2.1
  have hsx := vel_one hx
  have hu2 := (vel_in u).2
  have hsl := hsl hp
  have eb : byV l p v t u s x = min (min (vel x) (reachV (s - p) l.D)) (passV (t - p) (vel u) l.D) := by
    unfold byV
    rw [clamp_in (show l.lo ≤ t by have := hs.1; omega) (show t ≤ l.hi by omega), clamp_in (show l.lo ≤ s by have := hs.1; omega) hsh, if_pos ⟨hp, by omega, hv⟩]
  have hk := (step_kept hr hs (byV l p v t u s x)).safe
  have hpi := pass_in (s := t - p) (u := vel u) (by omega) hu2 r5
  have hre := reach_in (s := s - p) (by omega) r5
  have hro := reach_one (s := s - p) (by omega) r5
  have hrm := reach_more (s := s - p) (t := l.hi - p) (by omega) r5 (by omega)
  have hn := nextV_in hv r5
  have hnf := next_fit r5 hv hst
  have hnr := reach_ge (by omega) r5 (by omega) hnf
  have hnp : nextV v l.D ≤ passV (t - p) (vel u) l.D := by
    rcases Int.lt_or_le (vel u) (nextV v l.D) with hlt | hle
    · refine pass_top (by omega) r5 (passV_is (by omega) hu2 r5) (by omega) (by omega) (.inr ?_)
      have e : nextV v l.D = v - l.D := by unfold nextV at *; omega
      rw [e] at hlt ⊢
      rwa [slow_go r5 hlt] at hsl
    · omega
  have hhi : 1 ≤ hiOf l v (l.hi - p) := by
    unfold hiOf
    have := hr.1
    have := hr.2.2.1
    omega
  have hb := hi_bound hr (v := v) (room := l.hi - p) hv h4
  have es : stepV l p v (byV l p v t u s x) = max (nextV v l.D) (min (byV l p v t u s x) (hiOf l v (l.hi - p))) := by
    rw [step_up hr hv h4 (by rw [eb]; omega) hs]
    unfold goV clamp
    omega
  have y1 : 1 ≤ stepV l p v (byV l p v t u s x) := by rw [es, eb]; omega
  have y2 : stepV l p v (byV l p v t u s x) ≤ reachV (s - p) l.D := by rw [es, eb]; omega
  have y3 : stepV l p v (byV l p v t u s x) ≤ passV (t - p) (vel u) l.D := by rw [es, eb]; omega
  generalize stepV l p v (byV l p v t u s x) = y at *
  have f1 := fit_le r5 y2 hre.2.2
  have q3 := slow_pos (v := y) (u := 0) (by omega) r5
  have q4 := slow_pos (v := y) (u := vel u) (by omega) r5
  have f2 : y ≤ vel u ∨ y + slow y (vel u) l.D ≤ t - p := by
    rcases Int.lt_or_le (vel u) y with hlt | hle
    · right
      have hm := slow_mono (u := vel u) (by omega) r5 y3
      rcases hpi.2.2 with h | h
      · omega
      · omega
    · exact .inl hle
  refine ⟨⟨hk, by omega, by omega, fun hlt => ?_, fun hge => ?_⟩, by omega, by omega, fun hge => by omega⟩
  · rcases f2 with h | h
    · rw [slow_end r5 (by omega)]; omega
    · omega
  · rcases f2 with h | h
    · omega
    · rcases Int.lt_or_le (vel u) (y - l.D) with hlt | hle
      · rw [slow_go r5 hlt] at h q4
        have := slow_pos (v := y - l.D) (u := vel u) (by omega) r5
        omega
      · exact hle
end Go.Proofs.Ytaohidaijlcplaa.gn
