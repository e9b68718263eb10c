/- What layer home's functions answer; what was in memory is as it was. No condition but what each line says. -/
import Derived.Test.YtijlccblabadaaaGreatU01
section
namespace Go.Proofs.YtijlccblabadaaaGreat.hm
open Go.ChangeShapes Go.WideShapes Go.ChangeAt Go.RowKit Go.Proofs.YtijlccblabadaaaGreat.k
set_option linter.unusedVariables false
def seekN (h : H) (home e : Bool) : H := if home then { h with ph := 1 } else if e then (if h.tu then { h with ph := 5 } else { h with f := -h.f, c := -h.c, tu := true }) else h
def seekV (h : H) (home e : Bool) : Int := if home then 0 else if e then 0 else h.f
def leaveN (h : H) (home e : Bool) : H := if home then (if e then { h with ph := 5 } else h) else { h with ph := 3 }
def leaveV (h : H) (home e : Bool) : Int := if home then (if e then 0 else -h.c) else 0
def restN (h : H) (still : Bool) (n : Int) : H := if still then { h with ph := n } else h
theorem ahead_is {v : Int} {plus minus x : Bool} (hx : (if v < 0 then minus else plus) = x) (w : World) : Calls Tryz.prog 131 #[.int .i64 v, .bool plus, .bool minus] w fun e w' => e = .returned (.bool x) ∧ w = w' := by
 by_cases h : v < 0
 ·rw [if_pos h] at hx
  subst hx
  go_enter Tryz.func131, Tryz.ntmps131
  go_wp2
  go_ret
  exact ⟨rfl, rfl⟩
 ·rw [if_neg h] at hx
  subst hx
  have hb : decide (v < 0) = false := decide_eq_false h
  go_enter Tryz.func131, Tryz.ntmps131
  go_wp2
  go_ret
  exact ⟨rfl, rfl⟩
theorem right_any (h : H) (w : World) : Calls Tryz.prog 35 #[hV h] w fun e w' => e = .returned (.bool (rightH h)) ∧ Below w.heap.size w w' := by
 obtain ⟨p, f, c, t⟩ := h
 unfold hV
 dsimp only
 by_cases h1 : p < 0
 ·have h1b : decide (p < 0) = true := decide_eq_true (by omega)
  have HV : Hid (rightH ⟨p, f, c, t⟩ = false) := lh (right_no fun h => by unfold RightH at h; dsimp only at h; omega)
  go_enter Tryz.func35, Tryz.ntmps35
  go_wp2
  go_ret
  exact ⟨ret_bool HV.out.symm, (by repeat (first | with_reducible exact Below.refl _ _ | with_reducible exact HB.out | (with_reducible refine Below.drew ?_) | (with_reducible refine Below.setCell ?_ ?_ _; rotate_left 1; focus (first | (simp; done) | (simp; omega) | omega)) | (with_reducible refine Below.alloc ?_ ?_ _; rotate_left 1; focus (first | (simp; done) | (simp; omega)))))⟩
 ·have h1b : decide (p < 0) = false := decide_eq_false (by omega)
  by_cases h2 : 5 < p
  ·have h2b : decide (5 < p) = true := decide_eq_true (by omega)
   have HV : Hid (rightH ⟨p, f, c, t⟩ = false) := lh (right_no fun h => by unfold RightH at h; dsimp only at h; omega)
   go_enter Tryz.func35, Tryz.ntmps35
   go_wp2
   go_ret
   exact ⟨ret_bool HV.out.symm, (by repeat (first | with_reducible exact Below.refl _ _ | with_reducible exact HB.out | (with_reducible refine Below.drew ?_) | (with_reducible refine Below.setCell ?_ ?_ _; rotate_left 1; focus (first | (simp; done) | (simp; omega) | omega)) | (with_reducible refine Below.alloc ?_ ?_ _; rotate_left 1; focus (first | (simp; done) | (simp; omega)))))⟩
  ·have h2b : decide (5 < p) = false := decide_eq_false (by omega)
   by_cases h3 : f < 0
   ·have h3b : decide (f < 0) = true := decide_eq_true (by omega)
    by_cases h4 : -1048576 ≤ f
    ·have h4b : decide (-1048576 ≤ f) = true := decide_eq_true (by omega)
     by_cases h5 : f ≤ c
     ·have h5b : decide (f ≤ c) = true := decide_eq_true (by omega)
      by_cases h6 : c < 0
      ·have h6b : decide (c < 0) = true := decide_eq_true (by omega)
       have HV : Hid (rightH ⟨p, f, c, t⟩ = true) := lh (right_yes (by unfold RightH; dsimp only; omega))
       go_enter Tryz.func35, Tryz.ntmps35
       go_wp2
       go_ret
       exact ⟨ret_bool HV.out.symm, (by repeat (first | with_reducible exact Below.refl _ _ | with_reducible exact HB.out | (with_reducible refine Below.drew ?_) | (with_reducible refine Below.setCell ?_ ?_ _; rotate_left 1; focus (first | (simp; done) | (simp; omega) | omega)) | (with_reducible refine Below.alloc ?_ ?_ _; rotate_left 1; focus (first | (simp; done) | (simp; omega)))))⟩
      ·have h6b : decide (c < 0) = false := decide_eq_false (by omega)
       have HV : Hid (rightH ⟨p, f, c, t⟩ = false) := lh (right_no fun h => by unfold RightH at h; dsimp only at h; omega)
       go_enter Tryz.func35, Tryz.ntmps35
       go_wp2
       go_ret
       exact ⟨ret_bool HV.out.symm, (by repeat (first | with_reducible exact Below.refl _ _ | with_reducible exact HB.out | (with_reducible refine Below.drew ?_) | (with_reducible refine Below.setCell ?_ ?_ _; rotate_left 1; focus (first | (simp; done) | (simp; omega) | omega)) | (with_reducible refine Below.alloc ?_ ?_ _; rotate_left 1; focus (first | (simp; done) | (simp; omega)))))⟩
     ·have h5b : decide (f ≤ c) = false := decide_eq_false (by omega)
      have HV : Hid (rightH ⟨p, f, c, t⟩ = false) := lh (right_no fun h => by unfold RightH at h; dsimp only at h; omega)
      go_enter Tryz.func35, Tryz.ntmps35
      go_wp2
      go_ret
      exact ⟨ret_bool HV.out.symm, (by repeat (first | with_reducible exact Below.refl _ _ | with_reducible exact HB.out | (with_reducible refine Below.drew ?_) | (with_reducible refine Below.setCell ?_ ?_ _; rotate_left 1; focus (first | (simp; done) | (simp; omega) | omega)) | (with_reducible refine Below.alloc ?_ ?_ _; rotate_left 1; focus (first | (simp; done) | (simp; omega)))))⟩
    ·have h4b : decide (-1048576 ≤ f) = false := decide_eq_false (by omega)
     have HV : Hid (rightH ⟨p, f, c, t⟩ = false) := lh (right_no fun h => by unfold RightH at h; dsimp only at h; omega)
     go_enter Tryz.func35, Tryz.ntmps35
     go_wp2
     go_ret
     exact ⟨ret_bool HV.out.symm, (by repeat (first | with_reducible exact Below.refl _ _ | with_reducible exact HB.out | (with_reducible refine Below.drew ?_) | (with_reducible refine Below.setCell ?_ ?_ _; rotate_left 1; focus (first | (simp; done) | (simp; omega) | omega)) | (with_reducible refine Below.alloc ?_ ?_ _; rotate_left 1; focus (first | (simp; done) | (simp; omega)))))⟩
   ·have h3b : decide (f < 0) = false := decide_eq_false (by omega)
    by_cases h4 : 0 < c
    ·have h4b : decide (0 < c) = true := decide_eq_true (by omega)
     by_cases h5 : c ≤ f
     ·have h5b : decide (c ≤ f) = true := decide_eq_true (by omega)
      by_cases h6 : f ≤ 1048576
      ·have h6b : decide (f ≤ 1048576) = true := decide_eq_true (by omega)
       have HV : Hid (rightH ⟨p, f, c, t⟩ = true) := lh (right_yes (by unfold RightH; dsimp only; omega))
       go_enter Tryz.func35, Tryz.ntmps35
       go_wp2
       go_ret
       exact ⟨ret_bool HV.out.symm, (by repeat (first | with_reducible exact Below.refl _ _ | with_reducible exact HB.out | (with_reducible refine Below.drew ?_) | (with_reducible refine Below.setCell ?_ ?_ _; rotate_left 1; focus (first | (simp; done) | (simp; omega) | omega)) | (with_reducible refine Below.alloc ?_ ?_ _; rotate_left 1; focus (first | (simp; done) | (simp; omega)))))⟩
      ·have h6b : decide (f ≤ 1048576) = false := decide_eq_false (by omega)
       have HV : Hid (rightH ⟨p, f, c, t⟩ = false) := lh (right_no fun h => by unfold RightH at h; dsimp only at h; omega)
       go_enter Tryz.func35, Tryz.ntmps35
       go_wp2
       go_ret
       exact ⟨ret_bool HV.out.symm, (by repeat (first | with_reducible exact Below.refl _ _ | with_reducible exact HB.out | (with_reducible refine Below.drew ?_) | (with_reducible refine Below.setCell ?_ ?_ _; rotate_left 1; focus (first | (simp; done) | (simp; omega) | omega)) | (with_reducible refine Below.alloc ?_ ?_ _; rotate_left 1; focus (first | (simp; done) | (simp; omega)))))⟩
     ·have h5b : decide (c ≤ f) = false := decide_eq_false (by omega)
      have HV : Hid (rightH ⟨p, f, c, t⟩ = false) := lh (right_no fun h => by unfold RightH at h; dsimp only at h; omega)
      go_enter Tryz.func35, Tryz.ntmps35
      go_wp2
      go_ret
      exact ⟨ret_bool HV.out.symm, (by repeat (first | with_reducible exact Below.refl _ _ | with_reducible exact HB.out | (with_reducible refine Below.drew ?_) | (with_reducible refine Below.setCell ?_ ?_ _; rotate_left 1; focus (first | (simp; done) | (simp; omega) | omega)) | (with_reducible refine Below.alloc ?_ ?_ _; rotate_left 1; focus (first | (simp; done) | (simp; omega)))))⟩
    ·have h4b : decide (0 < c) = false := decide_eq_false (by omega)
     have HV : Hid (rightH ⟨p, f, c, t⟩ = false) := lh (right_no fun h => by unfold RightH at h; dsimp only at h; omega)
     go_enter Tryz.func35, Tryz.ntmps35
     go_wp2
     go_ret
     exact ⟨ret_bool HV.out.symm, (by repeat (first | with_reducible exact Below.refl _ _ | with_reducible exact HB.out | (with_reducible refine Below.drew ?_) | (with_reducible refine Below.setCell ?_ ?_ _; rotate_left 1; focus (first | (simp; done) | (simp; omega) | omega)) | (with_reducible refine Below.alloc ?_ ?_ _; rotate_left 1; focus (first | (simp; done) | (simp; omega)))))⟩
set_option maxHeartbeats 4000000 in
theorem seek_is {p f c : Int} {t home e : Bool} (hf0 : -1048576 ≤ f) (hf1 : f ≤ 1048576) (hc0 : -1048576 ≤ c) (hc1 : c ≤ 1048576) {x : H} {v : Int} (hx : seekN ⟨p, f, c, t⟩ home e = x) (hv : seekV ⟨p, f, c, t⟩ home e = v) (w : World) :
  Calls Tryz.prog 130 #[.agg #[.int .i64 p, .int .i64 f, .int .i64 c, .bool t], .bool home, .bool e] w fun e w' => e = .returned (.tuple #[hV x, .int .i64 v]) ∧ Below w.heap.size w w' := by
 cases home
 ·cases e
  ·subst hx hv
   unfold hV
   show Calls _ _ _ _ fun e w' => e = .returned (.tuple #[.agg #[.int .i64 p, .int .i64 f, .int .i64 c, .bool t], .int .i64 f]) ∧ _
   go_enter Tryz.func130, Tryz.ntmps130
   go_wp2
   go_region
   all_goals
    go_wp2
    exact bodyPost_ret (v := .tuple #[.agg #[.int .i64 p, .int .i64 f, .int .i64 c, .bool t], .int .i64 f]) (by simp [results, Tryz.results130, go_sem]) rfl ⟨rfl, (by repeat (first | with_reducible exact Below.refl _ _ | with_reducible exact HB.out | (with_reducible refine Below.drew ?_) | (with_reducible refine Below.setCell ?_ ?_ _; rotate_left 1; focus (first | (simp; done) | (simp; omega) | omega)) | (with_reducible refine Below.alloc ?_ ?_ _; rotate_left 1; focus (first | (simp; done) | (simp; omega)))))⟩
  ·cases t
   ·subst hx hv
    unfold hV
    have ef : IntKind.i64.wrap (-f) = -f := IntWalk.i64_in _ (by omega)
    have ec : IntKind.i64.wrap (-c) = -c := IntWalk.i64_in _ (by omega)
    show Calls _ _ _ _ fun e w' => e = .returned (.tuple #[.agg #[.int .i64 p, .int .i64 (-f), .int .i64 (-c), .bool true], .int .i64 0]) ∧ _
    go_enter Tryz.func130, Tryz.ntmps130
    go_wp2
    exact bodyPost_ret (v := .tuple #[.agg #[.int .i64 p, .int .i64 (-f), .int .i64 (-c), .bool true], .int .i64 0]) (by simp [results, Tryz.results130, go_sem]) rfl ⟨rfl, (by repeat (first | with_reducible exact Below.refl _ _ | with_reducible exact HB.out | (with_reducible refine Below.drew ?_) | (with_reducible refine Below.setCell ?_ ?_ _; rotate_left 1; focus (first | (simp; done) | (simp; omega) | omega)) | (with_reducible refine Below.alloc ?_ ?_ _; rotate_left 1; focus (first | (simp; done) | (simp; omega)))))⟩
   ·subst hx hv
    unfold hV
    show Calls _ _ _ _ fun e w' => e = .returned (.tuple #[.agg #[.int .i64 5, .int .i64 f, .int .i64 c, .bool true], .int .i64 0]) ∧ _
    go_enter Tryz.func130, Tryz.ntmps130
    go_wp2
    exact bodyPost_ret (v := .tuple #[.agg #[.int .i64 5, .int .i64 f, .int .i64 c, .bool true], .int .i64 0]) (by simp [results, Tryz.results130, go_sem]) rfl ⟨rfl, (by repeat (first | with_reducible exact Below.refl _ _ | with_reducible exact HB.out | (with_reducible refine Below.drew ?_) | (with_reducible refine Below.setCell ?_ ?_ _; rotate_left 1; focus (first | (simp; done) | (simp; omega) | omega)) | (with_reducible refine Below.alloc ?_ ?_ _; rotate_left 1; focus (first | (simp; done) | (simp; omega)))))⟩
 ·subst hx hv
  unfold hV
  show Calls _ _ _ _ fun e w' => e = .returned (.tuple #[.agg #[.int .i64 1, .int .i64 f, .int .i64 c, .bool t], .int .i64 0]) ∧ _
  go_enter Tryz.func130, Tryz.ntmps130
  go_wp2
  exact bodyPost_ret (v := .tuple #[.agg #[.int .i64 1, .int .i64 f, .int .i64 c, .bool t], .int .i64 0]) (by simp [results, Tryz.results130, go_sem]) rfl ⟨rfl, (by repeat (first | with_reducible exact Below.refl _ _ | with_reducible exact HB.out | (with_reducible refine Below.drew ?_) | (with_reducible refine Below.setCell ?_ ?_ _; rotate_left 1; focus (first | (simp; done) | (simp; omega) | omega)) | (with_reducible refine Below.alloc ?_ ?_ _; rotate_left 1; focus (first | (simp; done) | (simp; omega)))))⟩
set_option maxHeartbeats 4000000 in
theorem leave_is {p f c : Int} {t home e : Bool} (hf0 : -1048576 ≤ f) (hf1 : f ≤ 1048576) (hc0 : -1048576 ≤ c) (hc1 : c ≤ 1048576) {x : H} {v : Int} (hx : leaveN ⟨p, f, c, t⟩ home e = x) (hv : leaveV ⟨p, f, c, t⟩ home e = v) (w : World) :
  Calls Tryz.prog 133 #[.agg #[.int .i64 p, .int .i64 f, .int .i64 c, .bool t], .bool home, .bool e] w fun e w' => e = .returned (.tuple #[hV x, .int .i64 v]) ∧ Below w.heap.size w w' := by
 cases home
 ·subst hx hv
  unfold hV
  show Calls _ _ _ _ fun e w' => e = .returned (.tuple #[.agg #[.int .i64 3, .int .i64 f, .int .i64 c, .bool t], .int .i64 0]) ∧ _
  go_enter Tryz.func133, Tryz.ntmps133
  go_wp2
  exact bodyPost_ret (v := .tuple #[.agg #[.int .i64 3, .int .i64 f, .int .i64 c, .bool t], .int .i64 0]) (by simp [results, Tryz.results133, go_sem]) rfl ⟨rfl, (by repeat (first | with_reducible exact Below.refl _ _ | with_reducible exact HB.out | (with_reducible refine Below.drew ?_) | (with_reducible refine Below.setCell ?_ ?_ _; rotate_left 1; focus (first | (simp; done) | (simp; omega) | omega)) | (with_reducible refine Below.alloc ?_ ?_ _; rotate_left 1; focus (first | (simp; done) | (simp; omega)))))⟩
 ·cases e
  ·subst hx hv
   unfold hV
   have ef : IntKind.i64.wrap (-f) = -f := IntWalk.i64_in _ (by omega)
   have ec : IntKind.i64.wrap (-c) = -c := IntWalk.i64_in _ (by omega)
   show Calls _ _ _ _ fun e w' => e = .returned (.tuple #[.agg #[.int .i64 p, .int .i64 f, .int .i64 c, .bool t], .int .i64 (-c)]) ∧ _
   go_enter Tryz.func133, Tryz.ntmps133
   go_wp2
   go_region
   all_goals
    go_wp2
    exact bodyPost_ret (v := .tuple #[.agg #[.int .i64 p, .int .i64 f, .int .i64 c, .bool t], .int .i64 (-c)]) (by simp [results, Tryz.results133, go_sem]) rfl ⟨rfl, (by repeat (first | with_reducible exact Below.refl _ _ | with_reducible exact HB.out | (with_reducible refine Below.drew ?_) | (with_reducible refine Below.setCell ?_ ?_ _; rotate_left 1; focus (first | (simp; done) | (simp; omega) | omega)) | (with_reducible refine Below.alloc ?_ ?_ _; rotate_left 1; focus (first | (simp; done) | (simp; omega)))))⟩
  ·subst hx hv
   unfold hV
   show Calls _ _ _ _ fun e w' => e = .returned (.tuple #[.agg #[.int .i64 5, .int .i64 f, .int .i64 c, .bool t], .int .i64 0]) ∧ _
   go_enter Tryz.func133, Tryz.ntmps133
   go_wp2
   exact bodyPost_ret (v := .tuple #[.agg #[.int .i64 5, .int .i64 f, .int .i64 c, .bool t], .int .i64 0]) (by simp [results, Tryz.results133, go_sem]) rfl ⟨rfl, (by repeat (first | with_reducible exact Below.refl _ _ | with_reducible exact HB.out | (with_reducible refine Below.drew ?_) | (with_reducible refine Below.setCell ?_ ?_ _; rotate_left 1; focus (first | (simp; done) | (simp; omega) | omega)) | (with_reducible refine Below.alloc ?_ ?_ _; rotate_left 1; focus (first | (simp; done) | (simp; omega)))))⟩
theorem rest_is {p f c n : Int} {t still : Bool} {x : H} (hx : restN ⟨p, f, c, t⟩ still n = x) (w : World) :
  Calls Tryz.prog 132 #[.agg #[.int .i64 p, .int .i64 f, .int .i64 c, .bool t], .bool still, .int .i64 n] w fun e w' => e = .returned (hV x) ∧ Below w.heap.size w w' := by
 cases still
 ·subst hx
  unfold hV
  show Calls _ _ _ _ fun e w' => e = .returned (.agg #[.int .i64 p, .int .i64 f, .int .i64 c, .bool t]) ∧ _
  go_enter Tryz.func132, Tryz.ntmps132
  go_wp2
  exact bodyPost_ret (v := .agg #[.int .i64 p, .int .i64 f, .int .i64 c, .bool t]) (by simp [results, Tryz.results132, go_sem]) rfl ⟨rfl, (by repeat (first | with_reducible exact Below.refl _ _ | with_reducible exact HB.out | (with_reducible refine Below.drew ?_) | (with_reducible refine Below.setCell ?_ ?_ _; rotate_left 1; focus (first | (simp; done) | (simp; omega) | omega)) | (with_reducible refine Below.alloc ?_ ?_ _; rotate_left 1; focus (first | (simp; done) | (simp; omega)))))⟩
 ·subst hx
  unfold hV
  show Calls _ _ _ _ fun e w' => e = .returned (.agg #[.int .i64 n, .int .i64 f, .int .i64 c, .bool t]) ∧ _
  go_enter Tryz.func132, Tryz.ntmps132
  go_wp2
  exact bodyPost_ret (v := .agg #[.int .i64 n, .int .i64 f, .int .i64 c, .bool t]) (by simp [results, Tryz.results132, go_sem]) rfl ⟨rfl, (by repeat (first | with_reducible exact Below.refl _ _ | with_reducible exact HB.out | (with_reducible refine Below.drew ?_) | (with_reducible refine Below.setCell ?_ ?_ _; rotate_left 1; focus (first | (simp; done) | (simp; omega) | omega)) | (with_reducible refine Below.alloc ?_ ?_ _; rotate_left 1; focus (first | (simp; done) | (simp; omega)))))⟩
theorem stepN_of {p f c : Int} {t home plus minus still : Bool} (hr : RightH ⟨p, f, c, t⟩) : stepHN ⟨p, f, c, t⟩ home plus minus still = stepN ⟨p, f, c, t⟩ home plus minus still ∧ stepHV ⟨p, f, c, t⟩ home plus minus still = stepV ⟨p, f, c, t⟩ home plus minus still := ⟨if_pos hr, if_pos hr⟩
theorem step0 (f c : Int) (t home plus minus still : Bool) : stepN ⟨0, f, c, t⟩ home plus minus still = seekN ⟨0, f, c, t⟩ home (if f < 0 then minus else plus) ∧ stepV ⟨0, f, c, t⟩ home plus minus still = seekV ⟨0, f, c, t⟩ home (if f < 0 then minus else plus) := ⟨rfl, rfl⟩
theorem step2 {f c : Int} (h : (f < 0 ∧ c < 0) ∨ (0 < f ∧ 0 < c)) (t home plus minus still : Bool) : stepN ⟨2, f, c, t⟩ home plus minus still = leaveN ⟨2, f, c, t⟩ home (if -c < 0 then minus else plus) ∧ stepV ⟨2, f, c, t⟩ home plus minus still = leaveV ⟨2, f, c, t⟩ home (if -c < 0 then minus else plus) := by
 have e : behindB ⟨2, f, c, t⟩ plus minus = if -c < 0 then minus else plus := by
  unfold behindB
  rcases h with h | h
  ·rw [if_pos h.1, if_neg (by omega)]
  ·rw [if_neg (by show ¬ f < 0; omega), if_pos (by omega)]
 unfold stepN stepV leaveN leaveV
 rw [e]
 exact ⟨rfl, rfl⟩
theorem step13 (f c : Int) (t home plus minus still : Bool) : (stepN ⟨1, f, c, t⟩ home plus minus still = restN ⟨1, f, c, t⟩ still 2 ∧ stepV ⟨1, f, c, t⟩ home plus minus still = 0) ∧ (stepN ⟨3, f, c, t⟩ home plus minus still = restN ⟨3, f, c, t⟩ still 4 ∧ stepV ⟨3, f, c, t⟩ home plus minus still = 0) := ⟨⟨rfl, rfl⟩, ⟨rfl, rfl⟩⟩
set_option maxRecDepth 100000 in
set_option maxHeartbeats 4000000 in
theorem step_wrong {p f c : Int} {t home plus minus still : Bool} (hr : ¬ RightH ⟨p, f, c, t⟩) (w : World) :
  Calls Tryz.prog 105 #[.agg #[.int .i64 p, .int .i64 f, .int .i64 c, .bool t], .bool home, .bool plus, .bool minus, .bool still] w fun e w' => e = .returned (.tuple #[.agg #[.int .i64 p, .int .i64 f, .int .i64 c, .bool t], .int .i64 0]) ∧ Below w.heap.size w w' := by
 have CR := lh fun W => right_any ⟨p, f, c, t⟩ W
 rw [right_no hr] at CR
 unfold hV at CR
 dsimp only at CR
 clear hr
 obtain ⟨x1, x2, x3, x4⟩ := k.boxes2 (w := w) (c1 := #[.int .i64 p, .int .i64 f, .int .i64 c, .bool t]) (t1 := 33) (c2 := #[.int .i64 0, .int .i64 0, .int .i64 0, .bool false]) (t2 := 33) (Below.refl _ _)
 have X1 := lh x1
 have X2 := lh x2
 have HB := lh x3
 clear x1 x2 x3
 go_enter Tryz.func105, Tryz.ntmps105
 go_upto_region 1 with fail
 generalize (w.alloc (.cells #[.int .i64 p, .int .i64 f, .int .i64 c, .bool t] 33)).alloc (.cells #[.int .i64 0, .int .i64 0, .int .i64 0, .bool false] 33) = w2 at X1 X2 HB x4 ⊢
 have ⟨c0, cf0⟩ := k.cell_of X1.out (i := 0) rfl
 have ⟨c1, cf1⟩ := k.cell_of X1.out (i := 1) rfl
 have ⟨c2, cf2⟩ := k.cell_of X1.out (i := 2) rfl
 have ⟨c3, cf3⟩ := k.cell_of X1.out (i := 3) rfl
 go_wp2_with (go_at_call 35; fail)
 refine (CR.out _).mono ?_
 rintro e w3 ⟨rfl, hb⟩
 clear c0 cf0 c1 cf1 c2 cf2 c3 cf3
 have X1 := lh (X1.out.below hb (by omega))
 have X2 := lh (X2.out.below hb x4)
 have HB := lh (HB.out.trans (hb.mono HB.out.size))
 have x4 := Nat.lt_of_lt_of_le x4 hb.size
 clear hb
 have ⟨c0, cf0⟩ := k.cell_of X1.out (i := 0) rfl
 have ⟨c1, cf1⟩ := k.cell_of X1.out (i := 1) rfl
 have ⟨c2, cf2⟩ := k.cell_of X1.out (i := 2) rfl
 have ⟨c3, cf3⟩ := k.cell_of X1.out (i := 3) rfl
 have ⟨z0, zf0⟩ := k.cell_of X2.out (i := 0) rfl
 have ⟨z1, zf1⟩ := k.cell_of X2.out (i := 1) rfl
 have ⟨z2, zf2⟩ := k.cell_of X2.out (i := 2) rfl
 have ⟨z3, zf3⟩ := k.cell_of X2.out (i := 3) rfl
 go_wp2
 exact bodyPost_ret (v := .tuple #[.agg #[.int .i64 p, .int .i64 f, .int .i64 c, .bool t], .int .i64 0]) (by simp [results, Tryz.results105, go_sem, z0, z1, z2, z3]) rfl ⟨rfl, (by repeat (first | with_reducible exact Below.refl _ _ | with_reducible exact HB.out | (with_reducible refine Below.drew ?_) | (with_reducible refine Below.setCell ?_ ?_ _; rotate_left 1; focus (first | (simp; done) | (simp; omega) | omega)) | (with_reducible refine Below.alloc ?_ ?_ _; rotate_left 1; focus (first | (simp; done) | (simp; omega)))))⟩
set_option maxRecDepth 100000 in
set_option maxHeartbeats 4000000 in
theorem step_over4 {f c : Int} {t home plus minus still : Bool} (hr : RightH ⟨4, f, c, t⟩) (w : World) :
  Calls Tryz.prog 105 #[.agg #[.int .i64 4, .int .i64 f, .int .i64 c, .bool t], .bool home, .bool plus, .bool minus, .bool still] w fun e w' => e = .returned (.tuple #[.agg #[.int .i64 4, .int .i64 f, .int .i64 c, .bool t], .int .i64 0]) ∧ Below w.heap.size w w' := by
 have CR := lh fun W => right_any ⟨4, f, c, t⟩ W
 rw [right_yes hr] at CR
 unfold hV at CR
 dsimp only at CR
 clear hr
 obtain ⟨x1, x2, x3, x4⟩ := k.boxes2 (w := w) (c1 := #[.int .i64 4, .int .i64 f, .int .i64 c, .bool t]) (t1 := 33) (c2 := #[.int .i64 0, .int .i64 0, .int .i64 0, .bool false]) (t2 := 33) (Below.refl _ _)
 have X1 := lh x1
 have X2 := lh x2
 have HB := lh x3
 clear x1 x2 x3
 go_enter Tryz.func105, Tryz.ntmps105
 go_upto_region 1 with fail
 generalize (w.alloc (.cells #[.int .i64 4, .int .i64 f, .int .i64 c, .bool t] 33)).alloc (.cells #[.int .i64 0, .int .i64 0, .int .i64 0, .bool false] 33) = w2 at X1 X2 HB x4 ⊢
 have ⟨c0, cf0⟩ := k.cell_of X1.out (i := 0) rfl
 have ⟨c1, cf1⟩ := k.cell_of X1.out (i := 1) rfl
 have ⟨c2, cf2⟩ := k.cell_of X1.out (i := 2) rfl
 have ⟨c3, cf3⟩ := k.cell_of X1.out (i := 3) rfl
 go_wp2_with (go_at_call 35; fail)
 refine (CR.out _).mono ?_
 rintro e w3 ⟨rfl, hb⟩
 clear c0 cf0 c1 cf1 c2 cf2 c3 cf3
 have X1 := lh (X1.out.below hb (by omega))
 have X2 := lh (X2.out.below hb x4)
 have HB := lh (HB.out.trans (hb.mono HB.out.size))
 have x4 := Nat.lt_of_lt_of_le x4 hb.size
 clear hb
 have ⟨c0, cf0⟩ := k.cell_of X1.out (i := 0) rfl
 have ⟨c1, cf1⟩ := k.cell_of X1.out (i := 1) rfl
 have ⟨c2, cf2⟩ := k.cell_of X1.out (i := 2) rfl
 have ⟨c3, cf3⟩ := k.cell_of X1.out (i := 3) rfl
 have ⟨z0, zf0⟩ := k.cell_of X2.out (i := 0) rfl
 have ⟨z1, zf1⟩ := k.cell_of X2.out (i := 1) rfl
 have ⟨z2, zf2⟩ := k.cell_of X2.out (i := 2) rfl
 have ⟨z3, zf3⟩ := k.cell_of X2.out (i := 3) rfl
 go_wp2
 exact bodyPost_ret (v := .tuple #[.agg #[.int .i64 4, .int .i64 f, .int .i64 c, .bool t], .int .i64 0]) (by simp [results, Tryz.results105, go_sem, z0, z1, z2, z3]) rfl ⟨rfl, (by repeat (first | with_reducible exact Below.refl _ _ | with_reducible exact HB.out | (with_reducible refine Below.drew ?_) | (with_reducible refine Below.setCell ?_ ?_ _; rotate_left 1; focus (first | (simp; done) | (simp; omega) | omega)) | (with_reducible refine Below.alloc ?_ ?_ _; rotate_left 1; focus (first | (simp; done) | (simp; omega)))))⟩
set_option maxRecDepth 100000 in
set_option maxHeartbeats 4000000 in
theorem step_over5 {f c : Int} {t home plus minus still : Bool} (hr : RightH ⟨5, f, c, t⟩) (w : World) :
  Calls Tryz.prog 105 #[.agg #[.int .i64 5, .int .i64 f, .int .i64 c, .bool t], .bool home, .bool plus, .bool minus, .bool still] w fun e w' => e = .returned (.tuple #[.agg #[.int .i64 5, .int .i64 f, .int .i64 c, .bool t], .int .i64 0]) ∧ Below w.heap.size w w' := by
 have CR := lh fun W => right_any ⟨5, f, c, t⟩ W
 rw [right_yes hr] at CR
 unfold hV at CR
 dsimp only at CR
 clear hr
 obtain ⟨x1, x2, x3, x4⟩ := k.boxes2 (w := w) (c1 := #[.int .i64 5, .int .i64 f, .int .i64 c, .bool t]) (t1 := 33) (c2 := #[.int .i64 0, .int .i64 0, .int .i64 0, .bool false]) (t2 := 33) (Below.refl _ _)
 have X1 := lh x1
 have X2 := lh x2
 have HB := lh x3
 clear x1 x2 x3
 go_enter Tryz.func105, Tryz.ntmps105
 go_upto_region 1 with fail
 generalize (w.alloc (.cells #[.int .i64 5, .int .i64 f, .int .i64 c, .bool t] 33)).alloc (.cells #[.int .i64 0, .int .i64 0, .int .i64 0, .bool false] 33) = w2 at X1 X2 HB x4 ⊢
 have ⟨c0, cf0⟩ := k.cell_of X1.out (i := 0) rfl
 have ⟨c1, cf1⟩ := k.cell_of X1.out (i := 1) rfl
 have ⟨c2, cf2⟩ := k.cell_of X1.out (i := 2) rfl
 have ⟨c3, cf3⟩ := k.cell_of X1.out (i := 3) rfl
 go_wp2_with (go_at_call 35; fail)
 refine (CR.out _).mono ?_
 rintro e w3 ⟨rfl, hb⟩
 clear c0 cf0 c1 cf1 c2 cf2 c3 cf3
 have X1 := lh (X1.out.below hb (by omega))
 have X2 := lh (X2.out.below hb x4)
 have HB := lh (HB.out.trans (hb.mono HB.out.size))
 have x4 := Nat.lt_of_lt_of_le x4 hb.size
 clear hb
 have ⟨c0, cf0⟩ := k.cell_of X1.out (i := 0) rfl
 have ⟨c1, cf1⟩ := k.cell_of X1.out (i := 1) rfl
 have ⟨c2, cf2⟩ := k.cell_of X1.out (i := 2) rfl
 have ⟨c3, cf3⟩ := k.cell_of X1.out (i := 3) rfl
 have ⟨z0, zf0⟩ := k.cell_of X2.out (i := 0) rfl
 have ⟨z1, zf1⟩ := k.cell_of X2.out (i := 1) rfl
 have ⟨z2, zf2⟩ := k.cell_of X2.out (i := 2) rfl
 have ⟨z3, zf3⟩ := k.cell_of X2.out (i := 3) rfl
 go_wp2
 exact bodyPost_ret (v := .tuple #[.agg #[.int .i64 5, .int .i64 f, .int .i64 c, .bool t], .int .i64 0]) (by simp [results, Tryz.results105, go_sem, z0, z1, z2, z3]) rfl ⟨rfl, (by repeat (first | with_reducible exact Below.refl _ _ | with_reducible exact HB.out | (with_reducible refine Below.drew ?_) | (with_reducible refine Below.setCell ?_ ?_ _; rotate_left 1; focus (first | (simp; done) | (simp; omega) | omega)) | (with_reducible refine Below.alloc ?_ ?_ _; rotate_left 1; focus (first | (simp; done) | (simp; omega)))))⟩
set_option maxRecDepth 100000 in
set_option maxHeartbeats 4000000 in
theorem step_rest1 {f c : Int} {t home plus minus still : Bool} (hr : RightH ⟨1, f, c, t⟩) {p' f' c' : Int} {t' : Bool} (hx : restN ⟨1, f, c, t⟩ still 2 = ⟨p', f', c', t'⟩) (w : World) :
  Calls Tryz.prog 105 #[.agg #[.int .i64 1, .int .i64 f, .int .i64 c, .bool t], .bool home, .bool plus, .bool minus, .bool still] w fun e w' => e = .returned (.tuple #[.agg #[.int .i64 p', .int .i64 f', .int .i64 c', .bool t'], .int .i64 0]) ∧ Below w.heap.size w w' := by
 have CS := lh fun W => rest_is hx W
 unfold hV at CS
 dsimp only at CS
 clear hx
 have CR := lh fun W => right_any ⟨1, f, c, t⟩ W
 rw [right_yes hr] at CR
 unfold hV at CR
 dsimp only at CR
 clear hr
 obtain ⟨x1, x2, x3, x4⟩ := k.boxes2 (w := w) (c1 := #[.int .i64 1, .int .i64 f, .int .i64 c, .bool t]) (t1 := 33) (c2 := #[.int .i64 0, .int .i64 0, .int .i64 0, .bool false]) (t2 := 33) (Below.refl _ _)
 have X1 := lh x1
 have X2 := lh x2
 have HB := lh x3
 clear x1 x2 x3
 go_enter Tryz.func105, Tryz.ntmps105
 go_upto_region 1 with fail
 generalize (w.alloc (.cells #[.int .i64 1, .int .i64 f, .int .i64 c, .bool t] 33)).alloc (.cells #[.int .i64 0, .int .i64 0, .int .i64 0, .bool false] 33) = w2 at X1 X2 HB x4 ⊢
 have ⟨c0, cf0⟩ := k.cell_of X1.out (i := 0) rfl
 have ⟨c1, cf1⟩ := k.cell_of X1.out (i := 1) rfl
 have ⟨c2, cf2⟩ := k.cell_of X1.out (i := 2) rfl
 have ⟨c3, cf3⟩ := k.cell_of X1.out (i := 3) rfl
 go_wp2_with (go_at_call 35; fail)
 refine (CR.out _).mono ?_
 rintro e w3 ⟨rfl, hb⟩
 clear c0 cf0 c1 cf1 c2 cf2 c3 cf3
 have X1 := lh (X1.out.below hb (by omega))
 have X2 := lh (X2.out.below hb x4)
 have HB := lh (HB.out.trans (hb.mono HB.out.size))
 have x4 := Nat.lt_of_lt_of_le x4 hb.size
 clear hb
 have ⟨c0, cf0⟩ := k.cell_of X1.out (i := 0) rfl
 have ⟨c1, cf1⟩ := k.cell_of X1.out (i := 1) rfl
 have ⟨c2, cf2⟩ := k.cell_of X1.out (i := 2) rfl
 have ⟨c3, cf3⟩ := k.cell_of X1.out (i := 3) rfl
 go_wp2_with (go_at_call 132; fail)
 refine (CS.out _).mono ?_
 rintro e w4 ⟨rfl, hb⟩
 clear c0 cf0 c1 cf1 c2 cf2 c3 cf3
 have X1 := lh (X1.out.below hb (by omega))
 have X2 := lh (X2.out.below hb x4)
 have HB := lh (HB.out.trans (hb.mono HB.out.size))
 have x4 := Nat.lt_of_lt_of_le x4 hb.size
 clear hb
 have ⟨c0, cf0⟩ := k.cell_of X1.out (i := 0) rfl
 have ⟨c1, cf1⟩ := k.cell_of X1.out (i := 1) rfl
 have ⟨c2, cf2⟩ := k.cell_of X1.out (i := 2) rfl
 have ⟨c3, cf3⟩ := k.cell_of X1.out (i := 3) rfl
 have ⟨z0, zf0⟩ := k.cell_of X2.out (i := 0) rfl
 have ⟨z1, zf1⟩ := k.cell_of X2.out (i := 1) rfl
 have ⟨z2, zf2⟩ := k.cell_of X2.out (i := 2) rfl
 have ⟨z3, zf3⟩ := k.cell_of X2.out (i := 3) rfl
 go_wp2
 exact bodyPost_ret (v := .tuple #[.agg #[.int .i64 p', .int .i64 f', .int .i64 c', .bool t'], .int .i64 0]) (by simp [results, Tryz.results105, go_sem, z0, z1, z2, z3]) rfl ⟨rfl, (by repeat (first | with_reducible exact Below.refl _ _ | with_reducible exact HB.out | (with_reducible refine Below.drew ?_) | (with_reducible refine Below.setCell ?_ ?_ _; rotate_left 1; focus (first | (simp; done) | (simp; omega) | omega)) | (with_reducible refine Below.alloc ?_ ?_ _; rotate_left 1; focus (first | (simp; done) | (simp; omega)))))⟩
set_option maxRecDepth 100000 in
set_option maxHeartbeats 4000000 in
theorem step_rest3 {f c : Int} {t home plus minus still : Bool} (hr : RightH ⟨3, f, c, t⟩) {p' f' c' : Int} {t' : Bool} (hx : restN ⟨3, f, c, t⟩ still 4 = ⟨p', f', c', t'⟩) (w : World) :
  Calls Tryz.prog 105 #[.agg #[.int .i64 3, .int .i64 f, .int .i64 c, .bool t], .bool home, .bool plus, .bool minus, .bool still] w fun e w' => e = .returned (.tuple #[.agg #[.int .i64 p', .int .i64 f', .int .i64 c', .bool t'], .int .i64 0]) ∧ Below w.heap.size w w' := by
 have CS := lh fun W => rest_is hx W
 unfold hV at CS
 dsimp only at CS
 clear hx
 have CR := lh fun W => right_any ⟨3, f, c, t⟩ W
 rw [right_yes hr] at CR
 unfold hV at CR
 dsimp only at CR
 clear hr
 obtain ⟨x1, x2, x3, x4⟩ := k.boxes2 (w := w) (c1 := #[.int .i64 3, .int .i64 f, .int .i64 c, .bool t]) (t1 := 33) (c2 := #[.int .i64 0, .int .i64 0, .int .i64 0, .bool false]) (t2 := 33) (Below.refl _ _)
 have X1 := lh x1
 have X2 := lh x2
 have HB := lh x3
 clear x1 x2 x3
 go_enter Tryz.func105, Tryz.ntmps105
 go_upto_region 1 with fail
 generalize (w.alloc (.cells #[.int .i64 3, .int .i64 f, .int .i64 c, .bool t] 33)).alloc (.cells #[.int .i64 0, .int .i64 0, .int .i64 0, .bool false] 33) = w2 at X1 X2 HB x4 ⊢
 have ⟨c0, cf0⟩ := k.cell_of X1.out (i := 0) rfl
 have ⟨c1, cf1⟩ := k.cell_of X1.out (i := 1) rfl
 have ⟨c2, cf2⟩ := k.cell_of X1.out (i := 2) rfl
 have ⟨c3, cf3⟩ := k.cell_of X1.out (i := 3) rfl
 go_wp2_with (go_at_call 35; fail)
 refine (CR.out _).mono ?_
 rintro e w3 ⟨rfl, hb⟩
 clear c0 cf0 c1 cf1 c2 cf2 c3 cf3
 have X1 := lh (X1.out.below hb (by omega))
 have X2 := lh (X2.out.below hb x4)
 have HB := lh (HB.out.trans (hb.mono HB.out.size))
 have x4 := Nat.lt_of_lt_of_le x4 hb.size
 clear hb
 have ⟨c0, cf0⟩ := k.cell_of X1.out (i := 0) rfl
 have ⟨c1, cf1⟩ := k.cell_of X1.out (i := 1) rfl
 have ⟨c2, cf2⟩ := k.cell_of X1.out (i := 2) rfl
 have ⟨c3, cf3⟩ := k.cell_of X1.out (i := 3) rfl
 go_wp2_with (go_at_call 132; fail)
 refine (CS.out _).mono ?_
 rintro e w4 ⟨rfl, hb⟩
 clear c0 cf0 c1 cf1 c2 cf2 c3 cf3
 have X1 := lh (X1.out.below hb (by omega))
 have X2 := lh (X2.out.below hb x4)
 have HB := lh (HB.out.trans (hb.mono HB.out.size))
 have x4 := Nat.lt_of_lt_of_le x4 hb.size
 clear hb
 have ⟨c0, cf0⟩ := k.cell_of X1.out (i := 0) rfl
 have ⟨c1, cf1⟩ := k.cell_of X1.out (i := 1) rfl
 have ⟨c2, cf2⟩ := k.cell_of X1.out (i := 2) rfl
 have ⟨c3, cf3⟩ := k.cell_of X1.out (i := 3) rfl
 have ⟨z0, zf0⟩ := k.cell_of X2.out (i := 0) rfl
 have ⟨z1, zf1⟩ := k.cell_of X2.out (i := 1) rfl
 have ⟨z2, zf2⟩ := k.cell_of X2.out (i := 2) rfl
 have ⟨z3, zf3⟩ := k.cell_of X2.out (i := 3) rfl
 go_wp2
 exact bodyPost_ret (v := .tuple #[.agg #[.int .i64 p', .int .i64 f', .int .i64 c', .bool t'], .int .i64 0]) (by simp [results, Tryz.results105, go_sem, z0, z1, z2, z3]) rfl ⟨rfl, (by repeat (first | with_reducible exact Below.refl _ _ | with_reducible exact HB.out | (with_reducible refine Below.drew ?_) | (with_reducible refine Below.setCell ?_ ?_ _; rotate_left 1; focus (first | (simp; done) | (simp; omega) | omega)) | (with_reducible refine Below.alloc ?_ ?_ _; rotate_left 1; focus (first | (simp; done) | (simp; omega)))))⟩
set_option maxRecDepth 100000 in
set_option maxHeartbeats 4000000 in
theorem step_seek {f c : Int} {t home plus minus still : Bool} (hr : RightH ⟨0, f, c, t⟩) (hb1 : -1048576 ≤ f) (hb2 : f ≤ 1048576) (hb3 : -1048576 ≤ c) (hb4 : c ≤ 1048576) {e : Bool} (he : (if f < 0 then minus else plus) = e) {p' f' c' v : Int} {t' : Bool} (hx : seekN ⟨0, f, c, t⟩ home e = ⟨p', f', c', t'⟩) (hv : seekV ⟨0, f, c, t⟩ home e = v) (w : World) :
  Calls Tryz.prog 105 #[.agg #[.int .i64 0, .int .i64 f, .int .i64 c, .bool t], .bool home, .bool plus, .bool minus, .bool still] w fun e w' => e = .returned (.tuple #[.agg #[.int .i64 p', .int .i64 f', .int .i64 c', .bool t'], .int .i64 v]) ∧ Below w.heap.size w w' := by
 have CS := lh fun W => seek_is hb1 hb2 hb3 hb4 hx hv W
 unfold hV at CS
 dsimp only at CS
 have CA := lh fun W => ahead_is (v := f) he W
 clear hx hv he
 have CR := lh fun W => right_any ⟨0, f, c, t⟩ W
 rw [right_yes hr] at CR
 unfold hV at CR
 dsimp only at CR
 clear hr
 obtain ⟨x1, x2, x3, x4⟩ := k.boxes2 (w := w) (c1 := #[.int .i64 0, .int .i64 f, .int .i64 c, .bool t]) (t1 := 33) (c2 := #[.int .i64 0, .int .i64 0, .int .i64 0, .bool false]) (t2 := 33) (Below.refl _ _)
 have X1 := lh x1
 have X2 := lh x2
 have HB := lh x3
 clear x1 x2 x3
 go_enter Tryz.func105, Tryz.ntmps105
 go_upto_region 1 with fail
 generalize (w.alloc (.cells #[.int .i64 0, .int .i64 f, .int .i64 c, .bool t] 33)).alloc (.cells #[.int .i64 0, .int .i64 0, .int .i64 0, .bool false] 33) = w2 at X1 X2 HB x4 ⊢
 have ⟨c0, cf0⟩ := k.cell_of X1.out (i := 0) rfl
 have ⟨c1, cf1⟩ := k.cell_of X1.out (i := 1) rfl
 have ⟨c2, cf2⟩ := k.cell_of X1.out (i := 2) rfl
 have ⟨c3, cf3⟩ := k.cell_of X1.out (i := 3) rfl
 go_wp2_with (go_at_call 35; fail)
 refine (CR.out _).mono ?_
 rintro e w3 ⟨rfl, hb⟩
 clear c0 cf0 c1 cf1 c2 cf2 c3 cf3
 have X1 := lh (X1.out.below hb (by omega))
 have X2 := lh (X2.out.below hb x4)
 have HB := lh (HB.out.trans (hb.mono HB.out.size))
 have x4 := Nat.lt_of_lt_of_le x4 hb.size
 clear hb
 have ⟨c0, cf0⟩ := k.cell_of X1.out (i := 0) rfl
 have ⟨c1, cf1⟩ := k.cell_of X1.out (i := 1) rfl
 have ⟨c2, cf2⟩ := k.cell_of X1.out (i := 2) rfl
 have ⟨c3, cf3⟩ := k.cell_of X1.out (i := 3) rfl
 go_upto_region 5 with fail
 refine wp_region_T (by kernel_rfl) (fun w' => k.Box w' w.heap.size 0 [.int .i64 0, .int .i64 f, .int .i64 c, .bool t]) [] X1.out (fun hHeld => ?_)
 have X1' := X1.out
 clear c0 cf0 c1 cf1 c2 cf2 c3 cf3
 refine tk 0 rfl ?_ ?_ ?_
 rotate_left
 ·intro w_ hSw; obtain ⟨c0, _, c1, _, c2, _, c3, _, _⟩ := hSw; go_simp <;> (with_reducible rfl)
 try go_simp
 refine tk 1 rfl ?_ ?_ ?_
 rotate_left
 ·intro w_ hSw; obtain ⟨c0, _, c1, _, c2, _, c3, _, _⟩ := hSw; go_simp <;> (with_reducible rfl)
 try go_simp
 refine tk 2 rfl ?_ ?_ ?_
 rotate_left
 ·intro w_ hSw; obtain ⟨c0, _, c1, _, c2, _, c3, _, _⟩ := hSw; go_simp <;> (with_reducible rfl)
 try go_simp
 refine tk 3 rfl ?_ ?_ ?_
 rotate_left
 ·intro w_ hSw; obtain ⟨c0, _, c1, _, c2, _, c3, _, _⟩ := hSw; go_simp <;> (with_reducible rfl)
 try go_simp
 refine tk 4 rfl ?_ ?_ ?_
 rotate_left
 ·intro w_ hSw; obtain ⟨c0, _, c1, _, c2, _, c3, _, _⟩ := hSw; go_simp <;> (with_reducible rfl)
 try go_simp
 refine tk 5 rfl ?_ ?_ ?_
 rotate_left
 ·intro w_ hSw; obtain ⟨c0, _, c1, _, c2, _, c3, _, _⟩ := hSw; go_simp <;> (with_reducible rfl)
 try go_simp
 refine ry [6] ?_
 refine ar1 rfl fun K hK => ?_
 go_simp
 (go_at_call 131; ((with_reducible refine (CA.out _).mono ?_); rintro e w4 ⟨rfl, rfl⟩))
 go_wp2_with fail
 refine hK.out _ _ X1' (fun hHeld => ?_)
 clear hK K
 try go_simp
 refine ry [7] ?_
 refine ar1 rfl fun K hK => ?_
 go_simp
 (go_at_call 130; ((with_reducible refine (CS.out _).mono ?_); rintro e w4 ⟨rfl, hb0⟩))
 go_wp2_with fail
 have hb : Below w3.heap.size w3 w4 := ((Below.refl _ _).drew).trans hb0
 have Y1 := X1.out.below hb (by omega)
 have Y2 := X2.out.below hb x4
 have HY := lh (HB.out.trans (hb.mono HB.out.size))
 have y4 := Nat.lt_of_lt_of_le x4 hb.size
 clear hb0 hb
 refine hK.out _ _ Y1 (fun hHeld => ?_)
 clear hK K
 try go_simp
 refine tk0 8 rfl ?_ ?_ ?_
 rotate_left
 ·intro; go_simp <;> with_reducible rfl
 try go_simp
 refine tk0 9 rfl ?_ ?_ ?_
 rotate_left
 ·intro; go_simp <;> with_reducible rfl
 try go_simp
 refine ry [10] ?_
 refine ar1 rfl fun K hK => ?_
 obtain ⟨W1, hW1, i1, i2, i3, i5⟩ := k.stored (us := [.int .i64 p', .int .i64 f', .int .i64 c', .bool t']) Y2 rfl
 rw [if_pos (by rfl)]
 refine wp_store_mid 33 (.tmp 10) (.tmp 28) rfl (w.heap.size + 1) 0 #[.int .i64 p', .int .i64 f', .int .i64 c', .bool t'] rfl rfl (k.there_of Y2 rfl) (by kernel_rfl) (by simp [Value.oneCell']) ?_
 change K _ (World.setCells _ _ _ [.int .i64 p', .int .i64 f', .int .i64 c', .bool t'])
 rw [hW1]
 have Z2 := lh i1
 have HZ := lh (HY.out.trans (i3 w.heap.size (by omega)))
 have Z1 := k.aside_stored hW1 (show w.heap.size + 1 ≠ w.heap.size by omega) Y1
 clear hW1 i1 i2 i3 i5 Y2 HY
 refine hK.out _ _ Z1 (fun hHeld => ?_)
 clear hK K
 try simp only [Act.put, List.getElem_toArray, List.getElem_cons_succ, List.getElem_cons_zero]
 refine tk0 11 rfl ?_ ?_ ?_
 rotate_left
 ·intro; go_simp <;> with_reducible rfl
 try go_simp
 refine wpAnyT_done (by kernel_rfl) ?_ _
 have ⟨z0, zf0⟩ := k.cell_of Z2.out (i := 0) rfl
 have ⟨z1, zf1⟩ := k.cell_of Z2.out (i := 1) rfl
 have ⟨z2, zf2⟩ := k.cell_of Z2.out (i := 2) rfl
 have ⟨z3, zf3⟩ := k.cell_of Z2.out (i := 3) rfl
 go_wp2
 exact bodyPost_ret (v := .tuple #[.agg #[.int .i64 p', .int .i64 f', .int .i64 c', .bool t'], .int .i64 v]) (by simp [results, Tryz.results105, go_sem, z0, z1, z2, z3]) rfl ⟨rfl, HZ.out⟩
set_option maxRecDepth 100000 in
set_option maxHeartbeats 4000000 in
theorem step_leave {f c : Int} {t home plus minus still : Bool} (hr : RightH ⟨2, f, c, t⟩) (hb1 : -1048576 ≤ f) (hb2 : f ≤ 1048576) (hb3 : -1048576 ≤ c) (hb4 : c ≤ 1048576) {e : Bool} (he : (if -c < 0 then minus else plus) = e) {p' f' c' v : Int} {t' : Bool} (hx : leaveN ⟨2, f, c, t⟩ home e = ⟨p', f', c', t'⟩) (hv : leaveV ⟨2, f, c, t⟩ home e = v) (w : World) :
  Calls Tryz.prog 105 #[.agg #[.int .i64 2, .int .i64 f, .int .i64 c, .bool t], .bool home, .bool plus, .bool minus, .bool still] w fun e w' => e = .returned (.tuple #[.agg #[.int .i64 p', .int .i64 f', .int .i64 c', .bool t'], .int .i64 v]) ∧ Below w.heap.size w w' := by
 have CS := lh fun W => leave_is hb1 hb2 hb3 hb4 hx hv W
 unfold hV at CS
 dsimp only at CS
 have CA := lh fun W => ahead_is (v := -c) he W
 clear hx hv he
 have CR := lh fun W => right_any ⟨2, f, c, t⟩ W
 rw [right_yes hr] at CR
 unfold hV at CR
 dsimp only at CR
 clear hr
 have ec : IntKind.i64.wrap (-c) = -c := IntWalk.i64_in _ (by omega)
 obtain ⟨x1, x2, x3, x4⟩ := k.boxes2 (w := w) (c1 := #[.int .i64 2, .int .i64 f, .int .i64 c, .bool t]) (t1 := 33) (c2 := #[.int .i64 0, .int .i64 0, .int .i64 0, .bool false]) (t2 := 33) (Below.refl _ _)
 have X1 := lh x1
 have X2 := lh x2
 have HB := lh x3
 clear x1 x2 x3
 go_enter Tryz.func105, Tryz.ntmps105
 go_upto_region 1 with fail
 generalize (w.alloc (.cells #[.int .i64 2, .int .i64 f, .int .i64 c, .bool t] 33)).alloc (.cells #[.int .i64 0, .int .i64 0, .int .i64 0, .bool false] 33) = w2 at X1 X2 HB x4 ⊢
 have ⟨c0, cf0⟩ := k.cell_of X1.out (i := 0) rfl
 have ⟨c1, cf1⟩ := k.cell_of X1.out (i := 1) rfl
 have ⟨c2, cf2⟩ := k.cell_of X1.out (i := 2) rfl
 have ⟨c3, cf3⟩ := k.cell_of X1.out (i := 3) rfl
 go_wp2_with (go_at_call 35; fail)
 refine (CR.out _).mono ?_
 rintro e w3 ⟨rfl, hb⟩
 clear c0 cf0 c1 cf1 c2 cf2 c3 cf3
 have X1 := lh (X1.out.below hb (by omega))
 have X2 := lh (X2.out.below hb x4)
 have HB := lh (HB.out.trans (hb.mono HB.out.size))
 have x4 := Nat.lt_of_lt_of_le x4 hb.size
 clear hb
 have ⟨c0, cf0⟩ := k.cell_of X1.out (i := 0) rfl
 have ⟨c1, cf1⟩ := k.cell_of X1.out (i := 1) rfl
 have ⟨c2, cf2⟩ := k.cell_of X1.out (i := 2) rfl
 have ⟨c3, cf3⟩ := k.cell_of X1.out (i := 3) rfl
 go_upto_region 9 with fail
 refine wp_region_T (by kernel_rfl) (fun w' => k.Box w' w.heap.size 0 [.int .i64 2, .int .i64 f, .int .i64 c, .bool t]) [] X1.out (fun hHeld => ?_)
 have X1' := X1.out
 clear c0 cf0 c1 cf1 c2 cf2 c3 cf3
 refine tk 0 rfl ?_ ?_ ?_
 rotate_left
 ·intro w_ hSw; obtain ⟨c0, _, c1, _, c2, _, c3, _, _⟩ := hSw; go_simp <;> (with_reducible rfl)
 try go_simp
 refine tk 1 rfl ?_ ?_ ?_
 rotate_left
 ·intro w_ hSw; obtain ⟨c0, _, c1, _, c2, _, c3, _, _⟩ := hSw; go_simp <;> (with_reducible rfl)
 try go_simp
 refine tk 2 rfl ?_ ?_ ?_
 rotate_left
 ·intro w_ hSw; obtain ⟨c0, _, c1, _, c2, _, c3, _, _⟩ := hSw; go_simp <;> (with_reducible rfl)
 try go_simp
 refine tk 3 rfl ?_ ?_ ?_
 rotate_left
 ·intro w_ hSw; obtain ⟨c0, _, c1, _, c2, _, c3, _, _⟩ := hSw; go_simp <;> (with_reducible rfl)
 try go_simp
 refine tk 4 rfl ?_ ?_ ?_
 rotate_left
 ·intro w_ hSw; obtain ⟨c0, _, c1, _, c2, _, c3, _, _⟩ := hSw; go_simp <;> (with_reducible rfl)
 try go_simp
 refine tk 5 rfl ?_ ?_ ?_
 rotate_left
 ·intro w_ hSw; obtain ⟨c0, _, c1, _, c2, _, c3, _, _⟩ := hSw; go_simp <;> (with_reducible rfl)
 try go_simp
 refine tk 6 rfl ?_ ?_ ?_
 rotate_left
 ·intro w_ hSw; obtain ⟨c0, _, c1, _, c2, _, c3, _, _⟩ := hSw; go_simp <;> (with_reducible rfl)
 try go_simp
 refine ry [7] ?_
 refine ar1 rfl fun K hK => ?_
 go_simp
 (go_at_call 131; ((with_reducible refine (CA.out _).mono ?_); rintro e w4 ⟨rfl, rfl⟩))
 go_wp2_with fail
 refine hK.out _ _ X1' (fun hHeld => ?_)
 clear hK K
 try go_simp
 refine ry [8] ?_
 refine ar1 rfl fun K hK => ?_
 go_simp
 (go_at_call 133; ((with_reducible refine (CS.out _).mono ?_); rintro e w4 ⟨rfl, hb0⟩))
 go_wp2_with fail
 have hb : Below w3.heap.size w3 w4 := ((Below.refl _ _).drew).trans hb0
 have Y1 := X1.out.below hb (by omega)
 have Y2 := X2.out.below hb x4
 have HY := lh (HB.out.trans (hb.mono HB.out.size))
 have y4 := Nat.lt_of_lt_of_le x4 hb.size
 clear hb0 hb
 refine hK.out _ _ Y1 (fun hHeld => ?_)
 clear hK K
 try go_simp
 refine tk0 9 rfl ?_ ?_ ?_
 rotate_left
 ·intro; go_simp <;> with_reducible rfl
 try go_simp
 refine tk0 10 rfl ?_ ?_ ?_
 rotate_left
 ·intro; go_simp <;> with_reducible rfl
 try go_simp
 refine ry [11] ?_
 refine ar1 rfl fun K hK => ?_
 obtain ⟨W1, hW1, i1, i2, i3, i5⟩ := k.stored (us := [.int .i64 p', .int .i64 f', .int .i64 c', .bool t']) Y2 rfl
 rw [if_pos (by rfl)]
 refine wp_store_mid 33 (.tmp 10) (.tmp 46) rfl (w.heap.size + 1) 0 #[.int .i64 p', .int .i64 f', .int .i64 c', .bool t'] rfl rfl (k.there_of Y2 rfl) (by kernel_rfl) (by simp [Value.oneCell']) ?_
 change K _ (World.setCells _ _ _ [.int .i64 p', .int .i64 f', .int .i64 c', .bool t'])
 rw [hW1]
 have Z2 := lh i1
 have HZ := lh (HY.out.trans (i3 w.heap.size (by omega)))
 have Z1 := k.aside_stored hW1 (show w.heap.size + 1 ≠ w.heap.size by omega) Y1
 clear hW1 i1 i2 i3 i5 Y2 HY
 refine hK.out _ _ Z1 (fun hHeld => ?_)
 clear hK K
 try simp only [Act.put, List.getElem_toArray, List.getElem_cons_succ, List.getElem_cons_zero]
 refine tk0 12 rfl ?_ ?_ ?_
 rotate_left
 ·intro; go_simp <;> with_reducible rfl
 try go_simp
 refine wpAnyT_done (by kernel_rfl) ?_ _
 have ⟨z0, zf0⟩ := k.cell_of Z2.out (i := 0) rfl
 have ⟨z1, zf1⟩ := k.cell_of Z2.out (i := 1) rfl
 have ⟨z2, zf2⟩ := k.cell_of Z2.out (i := 2) rfl
 have ⟨z3, zf3⟩ := k.cell_of Z2.out (i := 3) rfl
 go_wp2
 exact bodyPost_ret (v := .tuple #[.agg #[.int .i64 p', .int .i64 f', .int .i64 c', .bool t'], .int .i64 v]) (by simp [results, Tryz.results105, go_sem, z0, z1, z2, z3]) rfl ⟨rfl, HZ.out⟩
theorem step_any (h : H) (home plus minus still : Bool) (w : World) : Calls Tryz.prog 105 #[hV h, .bool home, .bool plus, .bool minus, .bool still] w fun e w' => e = .returned (.tuple #[hV (stepHN h home plus minus still), .int .i64 (stepHV h home plus minus still)]) ∧ Below w.heap.size w w' := by
 obtain ⟨p, f, c, t⟩ := h
 by_cases hr : RightH ⟨p, f, c, t⟩
 ·rcases (show p = 0 ∨ p = 1 ∨ p = 2 ∨ p = 3 ∨ p = 4 ∨ p = 5 by obtain ⟨h0, h5, _⟩ := hr; dsimp only at h0 h5; omega) with rfl | rfl | rfl | rfl | rfl | rfl
  ·obtain ⟨e1, e2⟩ := stepN_of (home := home) (plus := plus) (minus := minus) (still := still) hr
   rw [e1, e2]
   obtain ⟨e3, e4⟩ := step0 f c t home plus minus still
   rw [e3, e4]
   rcases hx : seekN ⟨0, f, c, t⟩ home (if f < 0 then minus else plus) with ⟨p', f', c', t'⟩
   exact step_seek hr (by obtain ⟨_, _, h⟩ := hr; dsimp only at h; omega) (by obtain ⟨_, _, h⟩ := hr; dsimp only at h; omega) (by obtain ⟨_, _, h⟩ := hr; dsimp only at h; omega) (by obtain ⟨_, _, h⟩ := hr; dsimp only at h; omega) rfl hx rfl w
  ·obtain ⟨e1, e2⟩ := stepN_of (home := home) (plus := plus) (minus := minus) (still := still) hr
   rw [e1, e2]
   obtain ⟨e3, e4⟩ := (step13 f c t home plus minus still).1
   rw [e3, e4]
   rcases hx : restN ⟨1, f, c, t⟩ still 2 with ⟨p', f', c', t'⟩
   exact step_rest1 hr hx w
  ·obtain ⟨e1, e2⟩ := stepN_of (home := home) (plus := plus) (minus := minus) (still := still) hr
   rw [e1, e2]
   obtain ⟨e3, e4⟩ := step2 (f := f) (c := c) (by obtain ⟨_, _, h⟩ := hr; dsimp only at h; omega) t home plus minus still
   rw [e3, e4]
   rcases hx : leaveN ⟨2, f, c, t⟩ home (if -c < 0 then minus else plus) with ⟨p', f', c', t'⟩
   exact step_leave hr (by obtain ⟨_, _, h⟩ := hr; dsimp only at h; omega) (by obtain ⟨_, _, h⟩ := hr; dsimp only at h; omega) (by obtain ⟨_, _, h⟩ := hr; dsimp only at h; omega) (by obtain ⟨_, _, h⟩ := hr; dsimp only at h; omega) rfl hx rfl w
  ·obtain ⟨e1, e2⟩ := stepN_of (home := home) (plus := plus) (minus := minus) (still := still) hr
   rw [e1, e2]
   obtain ⟨e3, e4⟩ := (step13 f c t home plus minus still).2
   rw [e3, e4]
   rcases hx : restN ⟨3, f, c, t⟩ still 4 with ⟨p', f', c', t'⟩
   exact step_rest3 hr hx w
  ·obtain ⟨e1, e2⟩ := stepN_of (home := home) (plus := plus) (minus := minus) (still := still) hr
   rw [e1, e2]
   obtain ⟨e3, e4⟩ := step_over (h := ⟨4, f, c, t⟩) (show (4 : Int) ≤ 4 by omega) home plus minus still
   rw [e3, e4]
   exact step_over4 hr w
  ·obtain ⟨e1, e2⟩ := stepN_of (home := home) (plus := plus) (minus := minus) (still := still) hr
   rw [e1, e2]
   obtain ⟨e3, e4⟩ := step_over (h := ⟨5, f, c, t⟩) (show (4 : Int) ≤ 5 by omega) home plus minus still
   rw [e3, e4]
   exact step_over5 hr w
 ·rw [show stepHN ⟨p, f, c, t⟩ home plus minus still = ⟨p, f, c, t⟩ from if_neg hr, show stepHV ⟨p, f, c, t⟩ home plus minus still = 0 from if_neg hr]
  exact step_wrong hr w
set_option maxRecDepth 100000 in
set_option maxHeartbeats 4000000 in
theorem new_any (f c : Int) (w : World) : Calls Tryz.prog 48 #[.int .i64 f, .int .i64 c] w fun e w' => e = .returned (.tuple #[hV (newH f c), .int .i64 (newE f c)]) ∧ Below w.heap.size w w' := by
 by_cases hr : RightH ⟨0, f, c, false⟩
 ·have CR := lh fun W => right_any ⟨0, f, c, false⟩ W
  rw [right_yes hr] at CR
  have e1 : newH f c = ⟨0, f, c, false⟩ := if_pos hr
  have e2 : newE f c = 0 := if_pos hr
  rw [e1, e2]
  unfold hV at CR ⊢
  dsimp only at CR ⊢
  clear hr e1 e2
  obtain ⟨x1, x2, x3, x4⟩ := k.boxes2 (w := w) (c1 := #[.int .i64 0, .int .i64 0, .int .i64 0, .bool false]) (t1 := 33) (c2 := #[.int .i64 0, .int .i64 f, .int .i64 c, .bool false]) (t2 := 33) (Below.refl _ _)
  have X1 := lh x2
  have X2 := lh x1
  have HB := lh x3
  clear x1 x2 x3
  go_enter Tryz.func48, Tryz.ntmps48
  go_upto_region 2 with fail
  generalize (w.alloc (.cells #[.int .i64 0, .int .i64 0, .int .i64 0, .bool false] 33)).alloc (.cells #[.int .i64 0, .int .i64 f, .int .i64 c, .bool false] 33) = w2 at X1 X2 HB x4 ⊢
  have ⟨c0, cf0⟩ := k.cell_of X1.out (i := 0) rfl
  have ⟨c1, cf1⟩ := k.cell_of X1.out (i := 1) rfl
  have ⟨c2, cf2⟩ := k.cell_of X1.out (i := 2) rfl
  have ⟨c3, cf3⟩ := k.cell_of X1.out (i := 3) rfl
  go_wp2_with (go_at_call 35; fail)
  refine (CR.out _).mono ?_
  rintro e w3 ⟨rfl, hb⟩
  clear c0 cf0 c1 cf1 c2 cf2 c3 cf3
  have X1 := lh (X1.out.below hb x4)
  have X2 := lh (X2.out.below hb (by omega))
  have HB := lh (HB.out.trans (hb.mono HB.out.size))
  clear hb
  have ⟨c0, cf0⟩ := k.cell_of X1.out (i := 0) rfl
  have ⟨c1, cf1⟩ := k.cell_of X1.out (i := 1) rfl
  have ⟨c2, cf2⟩ := k.cell_of X1.out (i := 2) rfl
  have ⟨c3, cf3⟩ := k.cell_of X1.out (i := 3) rfl
  have ⟨z0, zf0⟩ := k.cell_of X2.out (i := 0) rfl
  have ⟨z1, zf1⟩ := k.cell_of X2.out (i := 1) rfl
  have ⟨z2, zf2⟩ := k.cell_of X2.out (i := 2) rfl
  have ⟨z3, zf3⟩ := k.cell_of X2.out (i := 3) rfl
  go_wp2
  exact bodyPost_ret (v := .tuple #[.agg #[.int .i64 0, .int .i64 f, .int .i64 c, .bool false], .int .i64 0]) (by simp [results, Tryz.results48, go_sem, z0, z1, z2, z3]) rfl ⟨rfl, (by repeat (first | with_reducible exact Below.refl _ _ | with_reducible exact HB.out | (with_reducible refine Below.drew ?_) | (with_reducible refine Below.setCell ?_ ?_ _; rotate_left 1; focus (first | (simp; done) | (simp; omega) | omega)) | (with_reducible refine Below.alloc ?_ ?_ _; rotate_left 1; focus (first | (simp; done) | (simp; omega)))))⟩
 ·have CR := lh fun W => right_any ⟨0, f, c, false⟩ W
  rw [right_no hr] at CR
  have e1 : newH f c = ⟨0, 0, 0, false⟩ := if_neg hr
  have e2 : newE f c = 1 := if_neg hr
  rw [e1, e2]
  unfold hV at CR ⊢
  dsimp only at CR ⊢
  clear hr e1 e2
  obtain ⟨x1, x2, x3, x4⟩ := k.boxes2 (w := w) (c1 := #[.int .i64 0, .int .i64 0, .int .i64 0, .bool false]) (t1 := 33) (c2 := #[.int .i64 0, .int .i64 f, .int .i64 c, .bool false]) (t2 := 33) (Below.refl _ _)
  have X1 := lh x2
  have X2 := lh x1
  have HB := lh x3
  clear x1 x2 x3
  go_enter Tryz.func48, Tryz.ntmps48
  go_upto_region 2 with fail
  generalize (w.alloc (.cells #[.int .i64 0, .int .i64 0, .int .i64 0, .bool false] 33)).alloc (.cells #[.int .i64 0, .int .i64 f, .int .i64 c, .bool false] 33) = w2 at X1 X2 HB x4 ⊢
  have ⟨c0, cf0⟩ := k.cell_of X1.out (i := 0) rfl
  have ⟨c1, cf1⟩ := k.cell_of X1.out (i := 1) rfl
  have ⟨c2, cf2⟩ := k.cell_of X1.out (i := 2) rfl
  have ⟨c3, cf3⟩ := k.cell_of X1.out (i := 3) rfl
  go_wp2_with (go_at_call 35; fail)
  refine (CR.out _).mono ?_
  rintro e w3 ⟨rfl, hb⟩
  clear c0 cf0 c1 cf1 c2 cf2 c3 cf3
  have X1 := lh (X1.out.below hb x4)
  have X2 := lh (X2.out.below hb (by omega))
  have HB := lh (HB.out.trans (hb.mono HB.out.size))
  clear hb
  have ⟨c0, cf0⟩ := k.cell_of X1.out (i := 0) rfl
  have ⟨c1, cf1⟩ := k.cell_of X1.out (i := 1) rfl
  have ⟨c2, cf2⟩ := k.cell_of X1.out (i := 2) rfl
  have ⟨c3, cf3⟩ := k.cell_of X1.out (i := 3) rfl
  have ⟨z0, zf0⟩ := k.cell_of X2.out (i := 0) rfl
  have ⟨z1, zf1⟩ := k.cell_of X2.out (i := 1) rfl
  have ⟨z2, zf2⟩ := k.cell_of X2.out (i := 2) rfl
  have ⟨z3, zf3⟩ := k.cell_of X2.out (i := 3) rfl
  go_wp2
  exact bodyPost_ret (v := .tuple #[.agg #[.int .i64 0, .int .i64 0, .int .i64 0, .bool false], .int .i64 1]) (by simp [results, Tryz.results48, go_sem, z0, z1, z2, z3]) rfl ⟨rfl, (by repeat (first | with_reducible exact Below.refl _ _ | with_reducible exact HB.out | (with_reducible refine Below.drew ?_) | (with_reducible refine Below.setCell ?_ ?_ _; rotate_left 1; focus (first | (simp; done) | (simp; omega) | omega)) | (with_reducible refine Below.alloc ?_ ?_ _; rotate_left 1; focus (first | (simp; done) | (simp; omega)))))⟩
end Go.Proofs.YtijlccblabadaaaGreat.hm
end
