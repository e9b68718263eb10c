/- Plain facts on an axis that follows another: where it should be, and what is wanted of it. No condition beyond what each line says. -/
import Derived.Test.YtaohidaijlcplaaQMath
import Derived.Test.YtaohidaijlcplaaGMath
namespace Go.Proofs.Ytaohidaijlcplaa.gx
open Go.ChangeShapes Go.WideShapes Go.ChangeAt Go.RowKit Go.Proofs.Ytaohidaijlcplaa.k Go.Proofs.Ytaohidaijlcplaa.b Go.Proofs.Ytaohidaijlcplaa.gn
set_option linter.unusedVariables false

def InR (x : Int) : Prop := -9223372036854775808 ≤ x ∧ x ≤ 9223372036854775807
instance (x : Int) : Decidable (InR x) := by unfold InR; infer_instance
/-- is there a place where it should be? -/
def PlaceP (s f m n d : Int) : Prop := 1 ≤ d ∧ InR (m - f) ∧ InR ((m - f) * n / d) ∧ InR (s + (m - f) * n / d)
instance (s f m n d : Int) : Decidable (PlaceP s f m n d) := by unfold PlaceP; infer_instance
def plB (s f m n d : Int) : Bool := decide (PlaceP s f m n d)
def plV (s f m n d : Int) : Int := if PlaceP s f m n d then s + (m - f) * n / d else 0
theorem plB_yes {s f m n d : Int} (h : PlaceP s f m n d) : plB s f m n d = true := decide_eq_true h
theorem plB_no {s f m n d : Int} (h : ¬ PlaceP s f m n d) : plB s f m n d = false := decide_eq_false h
theorem plV_yes {s f m n d : Int} (h : PlaceP s f m n d) : plV s f m n d = s + (m - f) * n / d := if_pos h
theorem plV_no {s f m n d : Int} (h : ¬ PlaceP s f m n d) : plV s f m n d = 0 := if_neg h
theorem plV_in (s f m n d : Int) : InR (plV s f m n d) := by
  unfold plV
  split
  · rename_i h; exact h.2.2.2
  · exact ⟨by omega, by omega⟩
/-- the speeds that it may have; none but 0 of limits that are not right, or a generator that is not safe -/
noncomputable def loV (l : L) (p v : Int) : Int := if RightL l ∧ SafeP l p v then mayLo l p v else 0
noncomputable def hiV (l : L) (p v : Int) : Int := if RightL l ∧ SafeP l p v then mayHi l p v else 0
/-- is there a speed that is wanted? -/
def WantP (p s f m n d : Int) : Prop := PlaceP s f m n d ∧ InR (plV s f m n d - p)
instance (p s f m n d : Int) : Decidable (WantP p s f m n d) := by unfold WantP; infer_instance
def wantV (p s f m n d : Int) : Int := if WantP p s f m n d then plV s f m n d - p else 0
noncomputable def wantB (l : L) (p v s f m n d : Int) : Bool := if WantP p s f m n d then decide (loV l p v ≤ plV s f m n d - p) && decide (plV s f m n d - p ≤ hiV l p v) else false
theorem wantV_in (p s f m n d : Int) : InR (wantV p s f m n d) := by
  unfold wantV
  split
  · rename_i h; exact h.2
  · exact ⟨by omega, by omega⟩
/-- it may have the speed: it comes to where it should be; it may not: it does not -/
theorem want_step {l : L} (hr : RightL l) {p v : Int} (hs : SafeP l p v) (s f m n d : Int) :
    (wantB l p v s f m n d = true → plB s f m n d = true ∧ p + stepV l p v (wantV p s f m n d) = plV s f m n d) ∧
    (wantB l p v s f m n d = false → plB s f m n d = true → p + stepV l p v (wantV p s f m n d) ≠ plV s f m n d) := by
  have hm := may_le hr hs
  have hlo : loV l p v = mayLo l p v := if_pos ⟨hr, hs⟩
  have hhi : hiV l p v = mayHi l p v := if_pos ⟨hr, hs⟩
  have hc := clamp_mid (n := wantV p s f m n d) hm.1
  have hl := hr.2.2.2.2.2.2
  unfold stepV
  by_cases hw : WantP p s f m n d
  · have e1 : wantV p s f m n d = plV s f m n d - p := if_pos hw
    have e2 : wantB l p v s f m n d = (decide (loV l p v ≤ plV s f m n d - p) && decide (plV s f m n d - p ≤ hiV l p v)) := if_pos hw
    rw [hlo, hhi] at e2
    rw [e1, e2]
    refine ⟨fun h => ?_, fun h _ => ?_⟩
    · rw [Bool.and_eq_true] at h
      have a := of_decide_eq_true h.1
      have b := of_decide_eq_true h.2
      refine ⟨plB_yes hw.1, ?_⟩
      rw [clamp_in a b]; omega
    · have hn : ¬ (mayLo l p v ≤ plV s f m n d - p ∧ plV s f m n d - p ≤ mayHi l p v) := fun hh => by
        rw [decide_eq_true hh.1, decide_eq_true hh.2] at h
        cases h
      unfold clamp
      omega
  · have e2 : wantB l p v s f m n d = false := if_neg hw
    rw [e2]
    refine ⟨fun h => (by cases h), fun _ hp => ?_⟩
    have hp2 : PlaceP s f m n d := of_decide_eq_true hp
    have hx : ¬ InR (plV s f m n d - p) := fun h => hw ⟨hp2, h⟩
    have hq := hs.1
    have hq2 := hs.2.1
    have hin := plV_in s f m n d
    unfold InR at hx hin
    omega
/-! ### Ways of one to one, and of nothing -/
theorem place_one {s f b : Int} (hs : -1152921504606846976 ≤ s ∧ s ≤ 1152921504606846976) (hb : -2147483648 ≤ b ∧ b ≤ 2147483647) {d : Int} (hd : 1 ≤ d) :
    plB s f (f + b) d d = true ∧ plV s f (f + b) d d = s + b := by
  have e : (f + b - f) * d / d = b := by
    rw [show f + b - f = b by omega]
    exact Int.mul_ediv_cancel b (by omega)
  have h : PlaceP s f (f + b) d d := by
    refine ⟨hd, ⟨by omega, by omega⟩, ?_, ?_⟩ <;> rw [e] <;> exact ⟨by omega, by omega⟩
  exact ⟨plB_yes h, by rw [plV_yes h, e]⟩
theorem place_none {s f b : Int} (hs : -1152921504606846976 ≤ s ∧ s ≤ 1152921504606846976) (hb : -2147483648 ≤ b ∧ b ≤ 2147483647) {d : Int} (hd : 1 ≤ d) :
    plB s f (f + b) 0 d = true ∧ plV s f (f + b) 0 d = s := by
  have e : (f + b - f) * 0 / d = 0 := by rw [Int.mul_zero, Int.zero_ediv]
  have h : PlaceP s f (f + b) 0 d := by
    refine ⟨hd, ⟨by omega, by omega⟩, ?_, ?_⟩ <;> rw [e] <;> exact ⟨by omega, by omega⟩
  exact ⟨plB_yes h, by rw [plV_yes h, e]; omega⟩
end Go.Proofs.Ytaohidaijlcplaa.gx
