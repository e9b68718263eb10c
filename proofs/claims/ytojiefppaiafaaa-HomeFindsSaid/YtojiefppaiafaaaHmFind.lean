/- Plain facts for the law HomeFinds: what a search and its generator do, cycle by cycle, where no end shows and the switch shows from one place on. No condition beyond what each line says. -/
import Derived.Test.YtojiefppaiafaaaHmMath
import Derived.Test.YtojiefppaiafaaaGMath
namespace Go.Proofs.Ytojiefppaiafaaa.hm
open Go.ChangeShapes Go.WideShapes Go.ChangeAt Go.RowKit Go.Proofs.Ytojiefppaiafaaa.k Go.Proofs.Ytojiefppaiafaaa.b Go.Proofs.Ytojiefppaiafaaa.gn
set_option linter.unusedVariables false

/-- what holds of the numbers that the search has all the time -/
structure Ways (l : L) (T F C : Int) : Prop where
  right : RightL l
  lo : l.lo = -1073741824
  hi : l.hi = 1073741824
  D3 : 3 ≤ l.D
  V3 : 3 ≤ l.V
  C1 : 1 ≤ C
  CF : C ≤ F
  F60 : F ≤ 60
  T0 : -32768 ≤ T
  T1 : T ≤ 32767
/-- where the search is, by its phase: K cycles are left at most -/
def Find (l : L) (T F C : Int) (ph p v K : Int) : Prop :=
  (ph = 0 ∧ 0 ≤ v ∧ v ≤ 60 ∧ v ≤ l.V ∧ -32768 ≤ p ∧ p ≤ T + 60 ∧ 3000 ≤ K ∧ T - p + 3000 ≤ K)
  ∨ (ph = 1 ∧ 0 ≤ v ∧ v ≤ 60 ∧ v ≤ l.V ∧ T ≤ p ∧ p + slow v 0 l.D ≤ T + 700 ∧ v + 2800 ≤ K)
  ∨ (ph = 2 ∧ v ≤ 0 ∧ -C ≤ v ∧ -l.V ≤ v ∧ T - C ≤ p ∧ p ≤ T + 700 ∧ 2000 ≤ K ∧ p - T + 2001 ≤ K)
  ∨ (ph = 3 ∧ v ≤ 0 ∧ -C ≤ v ∧ p < T ∧ T - C - slow C 0 l.D ≤ p - slow (-v) 0 l.D ∧ -v + 1000 ≤ K)
  ∨ (ph = 4 ∧ v = 0 ∧ p < T ∧ T - C - slow C 0 l.D ≤ p ∧ 0 ≤ K)
theorem slow60 {v d : Int} (hd : 3 ≤ d) (h0 : 0 ≤ v) (h1 : v ≤ 60) : 0 ≤ slow v 0 d ∧ slow v 0 d ≤ 570 := by
  refine ⟨slow_pos (by omega) (by omega), ?_⟩
  have a := slow_loss (v := v) (u := 0) (c := 3) (d := d) (by omega) (by omega) hd
  have b := slow_mono (v := v) (v' := 60) (u := 0) (d := 3) (by omega) (by omega) h1
  have c : slow 60 0 3 = 570 := by decide +kernel
  omega
theorem find_place {l : L} {T F C ph p v K : Int} (hw : Ways l T F C) (h : Find l T F C ph p v K) : -40000 ≤ p ∧ p ≤ 40000 ∧ -60 ≤ v ∧ v ≤ 60 := by
  obtain ⟨_, _, _, d3, v3, c1, cf, f6, t0, t1⟩ := hw
  have sc := slow60 d3 (show 0 ≤ C by omega) (by omega)
  rcases h with ⟨_, h1, h2, h3, h4, h5, _, _⟩ | ⟨_, h1, h2, h3, h4, h5, _⟩ | ⟨_, h1, h2, h3, h4, h5, _, _⟩ | ⟨_, h1, h2, h3, h4, _⟩ | ⟨_, h1, h2, h3, _⟩
  · omega
  · have := slow60 d3 h1 h2; omega
  · omega
  · have := slow60 d3 (show 0 ≤ -v by omega) (by omega); omega
  · omega
theorem find_safe {l : L} {T F C ph p v K : Int} (hw : Ways l T F C) (h : Find l T F C ph p v K) : SafeP l p v := by
  obtain ⟨h1, h2, h3, h4⟩ := find_place hw h
  have hl := hw.lo
  have hh := hw.hi
  refine ⟨by omega, by omega, by omega, by omega, ?_⟩
  unfold wayOK
  split
  · have := slow60 hw.D3 (show 0 ≤ -v by omega) (by omega); omega
  · have := slow60 hw.D3 (show 0 ≤ v by omega) (by omega); omega
/-- a step towards a speed, with room enough -/
theorem go_room {l : L} {T F C : Int} (hw : Ways l T F C) {v x room : Int} (hv : 0 ≤ v) (hv2 : v ≤ 60) (hvV : v ≤ l.V) (hx : 1 ≤ x) (hx2 : x ≤ 60) (hr : 1000 ≤ room) :
    1 ≤ goV l v x room ∧ goV l v x room ≤ 60 ∧ goV l v x room ≤ l.V ∧ goV l v x room ≤ max x v := by
  have hr1 := hw.right
  have d3 := hw.D3
  have v3 := hw.V3
  have a1 := hr1.2.2.1
  have hre : 60 ≤ reachV room l.D := reach_ge (by omega) (by omega) (by omega) (by have := slow60 d3 (show (0 : Int) ≤ 60 by omega) (by omega); omega)
  have hn := nextV_in hv (show 1 ≤ l.D by omega)
  unfold goV hiOf clamp
  generalize reachV room l.D = r at *
  generalize nextV v l.D = n at *
  omega
theorem find_step {l : L} {T F C ph p v K : Int} (hw : Ways l T F C) (h : Find l T F C ph p v K) (h4 : ph < 4) :
    ∃ ph', hm.stepN ⟨ph, F, C, false⟩ (decide (T ≤ p)) false false (decide (v = 0)) = ⟨ph', F, C, false⟩ ∧
      Find l T F C ph' (p + gn.stepV l p v (hm.stepV ⟨ph, F, C, false⟩ (decide (T ≤ p)) false false (decide (v = 0)))) (gn.stepV l p v (hm.stepV ⟨ph, F, C, false⟩ (decide (T ≤ p)) false false (decide (v = 0)))) (K - 1) := by
  have hs := find_safe hw h
  have hp := find_place hw h
  obtain ⟨hr, hlo, hhi, d3, v3, c1, cf, f6, t0, t1⟩ := id hw
  have hf : ¬ F < 0 := by omega
  rcases h with ⟨rfl, h1, h2, h3, h5, h6, h7, h8⟩ | ⟨rfl, h1, h2, h3, h5, h6, h7⟩ | ⟨rfl, h1, h2, h3, h5, h6, h7, h8⟩ | ⟨rfl, h1, h2, h3, h5, h6⟩ | ⟨rfl, _⟩
  · by_cases hT : T ≤ p
    · rw [decide_eq_true hT]
      refine ⟨1, rfl, .inr (.inl ?_)⟩
      rw [show hm.stepV ⟨0, F, C, false⟩ true false false (decide (v = 0)) = 0 from rfl, stop_up hr hs h1]
      have hn := nextV_in h1 (show 1 ≤ l.D by omega)
      have sv := slow60 d3 h1 h2
      have e : nextV v l.D + slow (nextV v l.D) 0 l.D ≤ slow v 0 l.D := next_fit (by omega) h1 (Int.le_refl _)
      exact ⟨rfl, by omega, by omega, by omega, by omega, by omega, by omega⟩
    · rw [decide_eq_false hT]
      refine ⟨0, by simp [hm.stepN, aheadB, hf], .inl ?_⟩
      rw [show hm.stepV ⟨0, F, C, false⟩ false false false (decide (v = 0)) = F by simp [hm.stepV, aheadB, hf], step_up hr h1 (by omega) (by omega) hs]
      have hg := go_room hw h1 h2 h3 (show 1 ≤ F by omega) f6 (show 1000 ≤ l.hi - p by omega)
      exact ⟨rfl, by omega, by omega, by omega, by omega, by omega, by omega, by omega⟩
  · rw [show hm.stepV ⟨1, F, C, false⟩ (decide (T ≤ p)) false false (decide (v = 0)) = 0 from rfl, stop_up hr hs h1]
    by_cases hv : v = 0
    · subst hv
      rw [nextV_zero (by omega)]
      refine ⟨2, rfl, .inr (.inr (.inl ?_))⟩
      rw [slow_zero (by omega)] at h6
      exact ⟨rfl, by omega, by omega, by omega, by omega, by omega, by omega, by omega⟩
    · rw [decide_eq_false hv]
      refine ⟨1, rfl, .inr (.inl ?_)⟩
      have hn := nextV_in h1 (show 1 ≤ l.D by omega)
      have hn2 : nextV v l.D ≤ v - 1 := by unfold nextV; omega
      have e : nextV v l.D + slow (nextV v l.D) 0 l.D ≤ slow v 0 l.D := next_fit (by omega) h1 (Int.le_refl _)
      exact ⟨rfl, by omega, by omega, by omega, by omega, by omega, by omega⟩
  · by_cases hT : T ≤ p
    · rw [decide_eq_true hT]
      refine ⟨2, by simp [hm.stepN, behindB, hf], .inr (.inr (.inl ?_))⟩
      rw [show hm.stepV ⟨2, F, C, false⟩ true false false (decide (v = 0)) = -C by simp [hm.stepV, behindB, hf], step_down hr h1 (by omega) (by omega) hs]
      have hg := go_room hw (v := -v) (show 0 ≤ -v by omega) (by omega) (by omega) (show 1 ≤ -(-C) by omega) (by omega) (show 1000 ≤ p - l.lo by omega)
      generalize goV l (-v) (-(-C)) (p - l.lo) = g at *
      exact ⟨rfl, by omega, by omega, by omega, by omega, by omega, by omega, by omega⟩
    · rw [decide_eq_false hT]
      refine ⟨3, rfl, .inr (.inr (.inr (.inl ?_)))⟩
      rw [show hm.stepV ⟨2, F, C, false⟩ false false false (decide (v = 0)) = 0 from rfl, stop_down hr hs h1]
      have hn := nextV_in (v := -v) (show 0 ≤ -v by omega) (show 1 ≤ l.D by omega)
      have e : nextV (-v) l.D + slow (nextV (-v) l.D) 0 l.D ≤ slow (-v) 0 l.D := next_fit (by omega) (by omega) (Int.le_refl _)
      have m := slow_mono (v := -v) (v' := C) (u := 0) (d := l.D) (by omega) (by omega) (by omega)
      generalize nextV (-v) l.D = g at *
      rw [Int.neg_neg]
      exact ⟨rfl, by omega, by omega, by omega, by omega, by omega⟩
  · rw [show hm.stepV ⟨3, F, C, false⟩ (decide (T ≤ p)) false false (decide (v = 0)) = 0 from rfl, stop_down hr hs h1]
    by_cases hv : v = 0
    · subst hv
      rw [show nextV (-0) l.D = 0 from nextV_zero (by omega)]
      refine ⟨4, rfl, .inr (.inr (.inr (.inr ?_)))⟩
      rw [show slow (-0) 0 l.D = 0 from slow_zero (by omega)] at h5
      exact ⟨rfl, by omega, by omega, by omega, by omega⟩
    · rw [decide_eq_false hv]
      refine ⟨3, rfl, .inr (.inr (.inr (.inl ?_)))⟩
      have hn := nextV_in (v := -v) (show 0 ≤ -v by omega) (show 1 ≤ l.D by omega)
      have hn2 : nextV (-v) l.D ≤ -v - 1 := by unfold nextV; omega
      have e : nextV (-v) l.D + slow (nextV (-v) l.D) 0 l.D ≤ slow (-v) 0 l.D := next_fit (by omega) (by omega) (Int.le_refl _)
      generalize nextV (-v) l.D = g at *
      rw [Int.neg_neg]
      exact ⟨rfl, by omega, by omega, by omega, by omega, by omega⟩
  · omega
theorem find_start {l : L} {T F C at_ : Int} (hw : Ways l T F C) (h0 : -32768 ≤ at_) (h1 : at_ ≤ T) (h2 : T - at_ ≤ 1500) : Find l T F C 0 at_ 0 6000 := by
  have := hw.V3
  exact .inl ⟨rfl, by omega, by omega, by omega, by omega, by omega, by omega, by omega⟩
theorem find_left {l : L} {T F C ph p v K : Int} (hw : Ways l T F C) (h : Find l T F C ph p v K) (h4 : ph < 4) : 1000 ≤ K := by
  have := hw.C1
  have := find_place hw h
  rcases h with ⟨rfl, h1⟩ | ⟨rfl, h1⟩ | ⟨rfl, h1⟩ | ⟨rfl, h1⟩ | ⟨rfl, h1⟩ <;> omega
theorem find_end {l : L} {T F C ph p v K : Int} (h : Find l T F C ph p v K) (h4 : 4 ≤ ph) : ph = 4 ∧ v = 0 ∧ p < T ∧ T - C - slow C 0 l.D ≤ p := by
  rcases h with ⟨rfl, h1⟩ | ⟨rfl, h1⟩ | ⟨rfl, h1⟩ | ⟨rfl, h1⟩ | ⟨rfl, h1⟩ <;> first | omega | exact ⟨rfl, h1.1, h1.2.1, h1.2.2.1⟩
theorem find_phase {l : L} {T F C ph p v K : Int} (hw : Ways l T F C) (h : Find l T F C ph p v K) : RightH ⟨ph, F, C, false⟩ := by
  have := hw.C1
  have := hw.CF
  have := hw.F60
  have hp : 0 ≤ ph ∧ ph ≤ 5 := by rcases h with ⟨rfl, h1⟩ | ⟨rfl, h1⟩ | ⟨rfl, h1⟩ | ⟨rfl, h1⟩ | ⟨rfl, h1⟩ <;> omega
  exact ⟨hp.1, hp.2, .inl ⟨by show 0 < F; omega, by show 0 < C; omega, by show C ≤ F; omega, by show F ≤ 1048576; omega⟩⟩
end Go.Proofs.Ytojiefppaiafaaa.hm
