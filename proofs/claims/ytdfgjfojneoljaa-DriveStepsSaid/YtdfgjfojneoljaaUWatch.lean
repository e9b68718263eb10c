/- What layer watch's New, Right, Come and Over answer, of any watch and any bytes; what was in memory is as it was. No condition but that the bytes are read where they lie. -/
import Derived.Test.YtdfgjfojneoljaaURef
import Derived.Test.YtdfgjfojneoljaaTFeedR
import Derived.Test.YtdfgjfojneoljaaKBase
namespace Go.Proofs.Ytdfgjfojneoljaa.u
open Go.ChangeShapes Go.WideShapes Go.ChangeAt Go.RowKit Go.Proofs.Ytdfgjfojneoljaa.s Go.Proofs.Ytdfgjfojneoljaa.t
set_option linter.unusedVariables false

def inB (n lo hi : Int) : Bool := decide (lo ≤ n ∧ n ≤ hi)
theorem inB_yes {n lo hi : Int} (h : lo ≤ n ∧ n ≤ hi) : inB n lo hi = true := decide_eq_true h
theorem inB_no {n lo hi : Int} (h : ¬ (lo ≤ n ∧ n ≤ hi)) : inB n lo hi = false := decide_eq_false h
theorem within_any (n lo hi : Int) (w : World) :
    Calls Try.prog 39 #[.int .i64 n, .int .i64 lo, .int .i64 hi] w fun e w' => e = .returned (.bool (inB n lo hi)) ∧ w = w' := by
  by_cases h1 : lo ≤ n
  · by_cases h2 : n ≤ hi
    · have HV := Lib.hid (inB_yes (n := n) (lo := lo) (hi := hi) ⟨h1, h2⟩)
      go_enter Try.func39, Try.ntmps39
      go_wp2
      go_ret
      exact ⟨by rw [HV.out]; rfl, rfl⟩
    · have HV := Lib.hid (inB_no (n := n) (lo := lo) (hi := hi) (fun h => h2 h.2))
      go_enter Try.func39, Try.ntmps39
      go_wp2
      go_ret
      exact ⟨by rw [HV.out]; rfl, rfl⟩
  · have HV := Lib.hid (inB_no (n := n) (lo := lo) (hi := hi) (fun h => h1 h.1))
    go_enter Try.func39, Try.ntmps39
    go_wp2
    go_ret
    exact ⟨by rw [HV.out]; rfl, rfl⟩
theorem within_is {n lo hi : Int} {b : Bool} (h : inB n lo hi = b) (w : World) :
    Calls Try.prog 39 #[.int .i64 n, .int .i64 lo, .int .i64 hi] w fun e w' => e = .returned (.bool b) ∧ w = w' := by
  have h1 := within_any n lo hi w
  rw [h] at h1
  exact h1
theorem right_box (lim mis last : Int) (w : World) :
    Calls Try.prog 24 #[.agg #[.int .i64 lim, .int .i64 mis, .int .i64 last]] w fun e w' => e = .returned (.bool (rightW lim mis last)) ∧ BoxW w lim mis last = w' := by
  by_cases h1 : 1 ≤ lim ∧ lim ≤ 100
  · have C1 := Lib.hid fun W => within_is (inB_yes h1) W
    by_cases h2 : 0 ≤ mis ∧ mis ≤ lim
    · have C2 := Lib.hid fun W => within_is (inB_yes h2) W
      by_cases h3 : -1 ≤ last ∧ last ≤ 255
      · have C3 := Lib.hid fun W => within_is (inB_yes h3) W
        have HV := Lib.hid (right_yes (lim := lim) (mis := mis) (last := last) ⟨h1.1, h1.2, h2.1, h2.2, h3.1, h3.2⟩)
        clear h1 h2 h3
        go_enter Try.func24, Try.ntmps24
        go_wp2_with (go_at_call 39; (first | with_reducible refine (C1.out _).mono ?_ | with_reducible refine (C2.out _).mono ?_ | with_reducible refine (C3.out _).mono ?_); rintro e w1 ⟨rfl, rfl⟩)
        go_ret
        exact ⟨by rw [HV.out]; rfl, rfl⟩
      · have C3 := Lib.hid fun W => within_is (inB_no h3) W
        have HV := Lib.hid (right_no (lim := lim) (mis := mis) (last := last) fun h => h3 ⟨h.2.2.2.2.1, h.2.2.2.2.2⟩)
        clear h1 h2 h3
        go_enter Try.func24, Try.ntmps24
        go_wp2_with (go_at_call 39; (first | with_reducible refine (C1.out _).mono ?_ | with_reducible refine (C2.out _).mono ?_ | with_reducible refine (C3.out _).mono ?_); rintro e w1 ⟨rfl, rfl⟩)
        go_ret
        exact ⟨by rw [HV.out]; rfl, rfl⟩
    · have C2 := Lib.hid fun W => within_is (inB_no h2) W
      have HV := Lib.hid (right_no (lim := lim) (mis := mis) (last := last) fun h => h2 ⟨h.2.2.1, h.2.2.2.1⟩)
      clear h1 h2
      go_enter Try.func24, Try.ntmps24
      go_wp2_with (go_at_call 39; (first | with_reducible refine (C1.out _).mono ?_ | with_reducible refine (C2.out _).mono ?_); rintro e w1 ⟨rfl, rfl⟩)
      go_ret
      exact ⟨by rw [HV.out]; rfl, rfl⟩
  · have C1 := Lib.hid fun W => within_is (inB_no h1) W
    have HV := Lib.hid (right_no (lim := lim) (mis := mis) (last := last) fun h => h1 ⟨h.1, h.2.1⟩)
    clear h1
    go_enter Try.func24, Try.ntmps24
    go_wp2_with (go_at_call 39; (with_reducible refine (C1.out _).mono ?_); rintro e w1 ⟨rfl, rfl⟩)
    go_ret
    exact ⟨by rw [HV.out]; rfl, rfl⟩
theorem right_is {lim mis last : Int} {b : Bool} (h : rightW lim mis last = b) (w : World) :
    Calls Try.prog 24 #[.agg #[.int .i64 lim, .int .i64 mis, .int .i64 last]] w fun e w' => e = .returned (.bool b) ∧ BoxW w lim mis last = w' := by
  have h1 := right_box lim mis last w
  rw [h] at h1
  exact h1
def newB (S last : Int) : Bool := decide (last = -1 ∨ (0 ≤ last ∧ 1 ≤ (S - last) % 256 ∧ (S - last) % 256 < 128))
theorem right_any (lim mis last : Int) (w : World) :
    Calls Try.prog 24 #[.agg #[.int .i64 lim, .int .i64 mis, .int .i64 last]] w fun e w' => e = .returned (.bool (rightW lim mis last)) ∧ Below w.heap.size w w' :=
  (right_box lim mis last w).mono fun e w' ⟨he, hw⟩ => ⟨he, by rw [← hw]; exact (Below.refl _ _).alloc (Nat.le_refl _) _⟩
theorem newB_iff {S last : Int} : newB S last = true ↔ Newer S last 128 := by unfold newB Newer; exact decide_eq_true_iff
theorem newer_any (S last : Int) (hS : 0 ≤ S ∧ S ≤ 255) (hl : -1 ≤ last ∧ last ≤ 255) (w : World) :
    Calls Try.prog 41 #[.int .i64 S, .int .i64 last] w fun e w' => e = .returned (.bool (newB S last)) ∧ w = w' := by
  by_cases h0 : last = -1
  · have hq : (last == -1) = true := by rw [h0]; rfl
    have HV : Hid (newB S last = true) := Lib.hid (newB_iff.2 (.inl h0))
    clear h0
    go_enter Try.func41, Try.ntmps41
    go_wp2
    go_ret
    exact ⟨by rw [HV.out]; rfl, rfl⟩
  · have hq : (last == -1) = false := by rw [beq_eq_false_iff_ne]; exact h0
    have hl0 : 0 ≤ last := by omega
    have hd : Newer S last 128 ↔ 1 ≤ (S - last) % 256 ∧ (S - last) % 256 ≤ 127 := by unfold Newer; omega
    have HV : Hid (newB S last = inB ((S - last) % 256) 1 127) := Lib.hid (by rw [Bool.eq_iff_iff, newB_iff, hd]; unfold inB; exact decide_eq_true_iff.symm)
    have C := Lib.hid fun W => within_any ((S - last) % 256) 1 127 W
    clear h0 hd
    obtain ⟨b, hb⟩ : ∃ b, inB ((S - last) % 256) 1 127 = b := ⟨_, rfl⟩
    rw [hb] at HV C
    clear hb
    go_enter Try.func41, Try.ntmps41
    go_wp2_with (go_at_call 39; ((with_reducible refine (C.out _).mono ?_); rintro e w1 ⟨rfl, rfl⟩))
    go_ret
    exact ⟨by rw [HV.out]; rfl, rfl⟩

theorem new_yes (lim : Int) (h1 : 1 ≤ lim) (h2 : lim ≤ 100) (w : World) :
    Calls Try.prog 19 #[.int .i64 lim] w fun e w' => e = .returned (.tuple #[.agg #[.int .i64 lim, .int .i64 0, .int .i64 (-1)], .int .i64 0]) ∧ Below w.heap.size w w' := by
  have C := Lib.hid fun W => right_is (right_yes (lim := lim) (mis := 0) (last := -1) ⟨h1, h2, by omega, by omega, by omega, by omega⟩) W
  clear h1 h2
  go_enter Try.func19, Try.ntmps19
  go_wp2_with (go_at_call 24; ((with_reducible refine (C.out _).mono ?_); rintro e w1 ⟨rfl, rfl⟩; unfold BoxW))
  refine bodyPost_ret (v := .tuple #[.agg #[.int .i64 lim, .int .i64 0, .int .i64 (-1)], .int .i64 0]) (by simp [results, Try.results19, go_sem]) rfl ⟨rfl, ?_⟩
  repeat (first | with_reducible exact Below.refl _ _ | (with_reducible refine Below.setCell ?_ (by simp) _) | (with_reducible refine Below.alloc ?_ ?_ _; rotate_left 1; focus (first | omega | (simp; done) | (simp; omega))))
theorem new_no (lim : Int) (h : lim < 1 ∨ 100 < lim) (w : World) :
    Calls Try.prog 19 #[.int .i64 lim] w fun e w' => e = .returned (.tuple #[.agg #[.int .i64 0, .int .i64 0, .int .i64 0], .int .i64 1]) ∧ Below w.heap.size w w' := by
  have C := Lib.hid fun W => right_is (right_no (lim := lim) (mis := 0) (last := -1) fun h' => by have h1 := h'.1; have h2 := h'.2.1; omega) W
  clear h
  go_enter Try.func19, Try.ntmps19
  go_wp2_with (go_at_call 24; ((with_reducible refine (C.out _).mono ?_); rintro e w1 ⟨rfl, rfl⟩; unfold BoxW))
  refine bodyPost_ret (v := .tuple #[.agg #[.int .i64 0, .int .i64 0, .int .i64 0], .int .i64 1]) (by simp [results, Try.results19, go_sem]) rfl ⟨rfl, ?_⟩
  repeat (first | with_reducible exact Below.refl _ _ | (with_reducible refine Below.setCell ?_ (by simp) _) | (with_reducible refine Below.alloc ?_ ?_ _; rotate_left 1; focus (first | omega | (simp; done) | (simp; omega))))
def overW (lim mis last : Int) : Bool := decide (¬ RightW lim mis last ∨ mis = lim)
theorem over_any (lim mis last : Int) (w : World) :
    Calls Try.prog 32 #[.agg #[.int .i64 lim, .int .i64 mis, .int .i64 last]] w fun e w' => e = .returned (.bool (overW lim mis last)) ∧ Below w.heap.size w w' := by
  by_cases h : RightW lim mis last
  · have HC := Lib.hid fun W => right_is (right_yes h) W
    have HV : Hid (overW lim mis last = decide (mis = lim)) := Lib.hid (by unfold overW; simp [h])
    clear h
    by_cases hml : mis = lim
    · have hq : (mis == lim) = true := by rw [hml]; simp
      have HM := Lib.hid (HV.out.trans (decide_eq_true hml))
      clear hml
      go_enter Try.func32, Try.ntmps32
      go_wp2_with (go_at_call 24; ((with_reducible refine (HC.out _).mono ?_); rintro e w1 ⟨rfl, rfl⟩; unfold BoxW))
      go_ret
      exact ⟨by rw [HM.out]; rfl, ((Below.refl _ _).alloc (Nat.le_refl _) _).alloc (by simp) _⟩
    · have hq : (mis == lim) = false := by rw [beq_eq_false_iff_ne]; exact hml
      have HM := Lib.hid (HV.out.trans (decide_eq_false hml))
      clear hml
      go_enter Try.func32, Try.ntmps32
      go_wp2_with (go_at_call 24; ((with_reducible refine (HC.out _).mono ?_); rintro e w1 ⟨rfl, rfl⟩; unfold BoxW))
      go_ret
      exact ⟨by rw [HM.out]; rfl, ((Below.refl _ _).alloc (Nat.le_refl _) _).alloc (by simp) _⟩
  · have HC := Lib.hid fun W => right_is (right_no h) W
    have HV : Hid (overW lim mis last = true) := Lib.hid (by unfold overW; simp [h])
    clear h
    go_enter Try.func32, Try.ntmps32
    go_wp2_with (go_at_call 24; ((with_reducible refine (HC.out _).mono ?_); rintro e w1 ⟨rfl, rfl⟩; unfold BoxW))
    go_ret
    exact ⟨by rw [HV.out]; rfl, ((Below.refl _ _).alloc (Nat.le_refl _) _).alloc (by simp) _⟩
theorem come_bad (lim mis last : Int) (h : ¬ RightW lim mis last) (A : Option Addr) (n cap : Nat) (w : World) :
    Calls Try.prog 26 #[.agg #[.int .i64 lim, .int .i64 mis, .int .i64 last], .slice A n cap] w fun e w' =>
      e = .returned (.tuple #[.agg #[.int .i64 0, .int .i64 0, .int .i64 0], .agg #[.int .i64 0, .int .i64 0, .int .i64 0], .bool false]) ∧ Below w.heap.size w w' := by
  have HC := Lib.hid fun W => right_is (right_no h) W
  clear h
  go_enter Try.func26, Try.ntmps26
  go_wp2_with (go_at_call 24; ((with_reducible refine (HC.out _).mono ?_); rintro e w1 ⟨rfl, rfl⟩; unfold BoxW))
  refine bodyPost_ret (v := .tuple #[.agg #[.int .i64 0, .int .i64 0, .int .i64 0], .agg #[.int .i64 0, .int .i64 0, .int .i64 0], .bool false]) (by simp [results, Try.results26, go_sem]) rfl ⟨rfl, ?_⟩
  repeat (first | with_reducible exact Below.refl _ _ | (with_reducible refine Below.setCell ?_ (by simp) _) | (with_reducible refine Below.alloc ?_ ?_ _; rotate_left 1; focus (first | omega | (simp; done) | (simp; omega))))

set_option maxHeartbeats 1000000 in
theorem come_right (lim mis last : Int) (h : RightW lim mis last) (l : List (BitVec 8)) (n : Nat) (hn : l.length = n) (hl : l.length ≤ 10000) (B : Nat) (A : Option Addr) (cap : Nat) (hcap : n ≤ cap) (hmax : cap ≤ maxLen) (w : World) (hA : Bytes w B A l) (hB : B ≤ w.heap.size) :
    Calls Try.prog 26 #[.agg #[.int .i64 lim, .int .i64 mis, .int .i64 last], .slice A n cap] w (ComePost lim mis last l w) := by
  have C1 := Lib.hid fun W => right_is (right_yes h) W
  have c2 := fun (W : World) (hb : Below B w W) => rfeed_any l n hn hl B A cap hcap hmax W (hA.below hb) (Nat.le_trans hB hb.size)
  have HR := Lib.hid c2
  have HB := Lib.hid hB
  have hS := rS_in signF 127 l
  obtain ⟨g1, g2, g3, g4, g5, g6⟩ := h
  have N := Lib.hid fun W => newer_any (rS signF 127 l) last hS ⟨g5, g6⟩ W
  clear c2 hn hl hcap hmax hA hB
  have HP : Hid (∀ e w', Below w.heap.size w w' → Counts last l → e = .returned (.tuple #[.agg #[.int .i64 lim, .int .i64 0, .int .i64 (rS signF 127 l)], .agg #[.int .i64 (rS signF 127 l), .int .i64 (rW signF 127 l), .int .i64 (rP signF 127 l)], .bool true]) → ComePost lim mis last l w e w') := Lib.hid fun e w' hb hc he => ⟨hb, .inl ⟨hc, he⟩⟩
  have HQ : Hid (∀ e w', Below w.heap.size w w' → ¬ Counts last l → e = .returned (.tuple #[.agg #[.int .i64 lim, .int .i64 (if mis < lim then mis + 1 else mis), .int .i64 last], .agg #[.int .i64 0, .int .i64 0, .int .i64 0], .bool false]) → ComePost lim mis last l w e w') := Lib.hid fun e w' hb hc he => ⟨hb, .inr ⟨hc, he⟩⟩
  have HD : Hid (Counts last l ↔ rE signF 127 l = 0 ∧ newB (rS signF 127 l) last = true) := Lib.hid (by unfold Counts; rw [newB_iff])
  obtain ⟨S, eS⟩ : ∃ S, rS signF 127 l = S := ⟨_, rfl⟩
  obtain ⟨X, eX⟩ : ∃ X, rW signF 127 l = X := ⟨_, rfl⟩
  obtain ⟨P, eP⟩ : ∃ P, rP signF 127 l = P := ⟨_, rfl⟩
  obtain ⟨E, eE⟩ : ∃ E, rE signF 127 l = E := ⟨_, rfl⟩
  obtain ⟨b, eb⟩ : ∃ b, newB (rS signF 127 l) last = b := ⟨_, rfl⟩
  rw [eb] at HD N
  rw [eE] at HD
  rw [eS] at N
  rw [eS, eX, eP] at HP
  clear hS
  have HV := Lib.hid (And.intro eS (And.intro eX (And.intro eP eE)))
  clear eS eX eP eE eb
  by_cases hE0 : E = 0
  · have hq : (E != 0) = false := by rw [hE0]; rfl
    have HE := Lib.hid hE0
    clear hE0
    cases b
    · go_enter Try.func26, Try.ntmps26
      go_wp2_with (first
        | (go_at_call 24; ((with_reducible refine (C1.out _).mono ?_); rintro e w1 ⟨rfl, rfl⟩; unfold BoxW))
        | (go_at_call 41; ((with_reducible refine (N.out _).mono ?_); rintro e w1 ⟨rfl, rfl⟩))
        | (go_at_call 40; fail))
      refine (HR.out _ (by repeat (first | exact Below.refl _ _ | (refine Below.alloc ?_ (by first | exact HB.out | (simp; have := HB.out; omega)) _)))).mono ?_
      rintro e w3 ⟨he, hb⟩
      rw [HV.out.1, HV.out.2.1, HV.out.2.2.1, HV.out.2.2.2] at he; subst he
      have k00 : w3.cell? ⟨w.heap.size, 0, none⟩ = some (.int .i64 lim) := (hb.cell (p := ⟨w.heap.size, 0, none⟩) (by simp; try omega)).trans (by simp [go_sem])
      have z00 : w3.frozen? ⟨w.heap.size, 0, none⟩ = false := (hb.frozen (p := ⟨w.heap.size, 0, none⟩) (by simp; try omega)).trans (by simp [go_sem])
      have k01 : w3.cell? ⟨w.heap.size, 1, none⟩ = some (.int .i64 mis) := (hb.cell (p := ⟨w.heap.size, 1, none⟩) (by simp; try omega)).trans (by simp [go_sem])
      have z01 : w3.frozen? ⟨w.heap.size, 1, none⟩ = false := (hb.frozen (p := ⟨w.heap.size, 1, none⟩) (by simp; try omega)).trans (by simp [go_sem])
      have k02 : w3.cell? ⟨w.heap.size, 2, none⟩ = some (.int .i64 last) := (hb.cell (p := ⟨w.heap.size, 2, none⟩) (by simp; try omega)).trans (by simp [go_sem])
      have z02 : w3.frozen? ⟨w.heap.size, 2, none⟩ = false := (hb.frozen (p := ⟨w.heap.size, 2, none⟩) (by simp; try omega)).trans (by simp [go_sem])
      have k10 : w3.cell? ⟨w.heap.size + 1, 0, none⟩ = some (.int .i64 0) := (hb.cell (p := ⟨w.heap.size + 1, 0, none⟩) (by simp; try omega)).trans (by simp [go_sem])
      have z10 : w3.frozen? ⟨w.heap.size + 1, 0, none⟩ = false := (hb.frozen (p := ⟨w.heap.size + 1, 0, none⟩) (by simp; try omega)).trans (by simp [go_sem])
      have k11 : w3.cell? ⟨w.heap.size + 1, 1, none⟩ = some (.int .i64 0) := (hb.cell (p := ⟨w.heap.size + 1, 1, none⟩) (by simp; try omega)).trans (by simp [go_sem])
      have z11 : w3.frozen? ⟨w.heap.size + 1, 1, none⟩ = false := (hb.frozen (p := ⟨w.heap.size + 1, 1, none⟩) (by simp; try omega)).trans (by simp [go_sem])
      have k12 : w3.cell? ⟨w.heap.size + 1, 2, none⟩ = some (.int .i64 0) := (hb.cell (p := ⟨w.heap.size + 1, 2, none⟩) (by simp; try omega)).trans (by simp [go_sem])
      have z12 : w3.frozen? ⟨w.heap.size + 1, 2, none⟩ = false := (hb.frozen (p := ⟨w.heap.size + 1, 2, none⟩) (by simp; try omega)).trans (by simp [go_sem])
      have k20 : w3.cell? ⟨w.heap.size + 1 + 1, 0, none⟩ = some (.int .i64 0) := (hb.cell (p := ⟨w.heap.size + 1 + 1, 0, none⟩) (by simp; try omega)).trans (by simp [go_sem])
      have z20 : w3.frozen? ⟨w.heap.size + 1 + 1, 0, none⟩ = false := (hb.frozen (p := ⟨w.heap.size + 1 + 1, 0, none⟩) (by simp; try omega)).trans (by simp [go_sem])
      have k21 : w3.cell? ⟨w.heap.size + 1 + 1, 1, none⟩ = some (.int .i64 0) := (hb.cell (p := ⟨w.heap.size + 1 + 1, 1, none⟩) (by simp; try omega)).trans (by simp [go_sem])
      have z21 : w3.frozen? ⟨w.heap.size + 1 + 1, 1, none⟩ = false := (hb.frozen (p := ⟨w.heap.size + 1 + 1, 1, none⟩) (by simp; try omega)).trans (by simp [go_sem])
      have k22 : w3.cell? ⟨w.heap.size + 1 + 1, 2, none⟩ = some (.int .i64 0) := (hb.cell (p := ⟨w.heap.size + 1 + 1, 2, none⟩) (by simp; try omega)).trans (by simp [go_sem])
      have z22 : w3.frozen? ⟨w.heap.size + 1 + 1, 2, none⟩ = false := (hb.frozen (p := ⟨w.heap.size + 1 + 1, 2, none⟩) (by simp; try omega)).trans (by simp [go_sem])
      have hz := hb.size
      simp at hz
      have hz0 : w.heap.size < w3.heap.size := by omega
      have hz1 : w.heap.size + 1 < w3.heap.size := by omega
      have hz2 : w.heap.size + 1 + 1 < w3.heap.size := by omega
      clear hz
      have HB3 := Lib.hid hb
      clear hb
      go_wp2_with (first
        | (go_at_call 41; ((with_reducible refine (N.out _).mono ?_); rintro e w1 ⟨rfl, rfl⟩)))
      have HF : Hid (Below w.heap.size w w3) := Lib.hid (Below.trans (by repeat (first | exact Below.refl _ _ | (with_reducible refine Below.alloc ?_ ?_ _; rotate_left 1; focus (first | omega | (simp; done) | (simp; omega))))) (HB3.out.mono (by simp; try omega)))
      have j10 : (w3.setCell ⟨w.heap.size, 1, none⟩ (.int .i64 (min (mis + 1) lim))).cell? ⟨w.heap.size + 1, 0, none⟩ = some (.int .i64 0) := by simp [go_sem, k10]
      have j11 : (w3.setCell ⟨w.heap.size, 1, none⟩ (.int .i64 (min (mis + 1) lim))).cell? ⟨w.heap.size + 1, 1, none⟩ = some (.int .i64 0) := by simp [go_sem, k11]
      have j12 : (w3.setCell ⟨w.heap.size, 1, none⟩ (.int .i64 (min (mis + 1) lim))).cell? ⟨w.heap.size + 1, 2, none⟩ = some (.int .i64 0) := by simp [go_sem, k12]
      have j20 : (w3.setCell ⟨w.heap.size, 1, none⟩ (.int .i64 (min (mis + 1) lim))).cell? ⟨w.heap.size + 1 + 1, 0, none⟩ = some (.int .i64 0) := by simp [go_sem, k20]
      have j21 : (w3.setCell ⟨w.heap.size, 1, none⟩ (.int .i64 (min (mis + 1) lim))).cell? ⟨w.heap.size + 1 + 1, 1, none⟩ = some (.int .i64 0) := by simp [go_sem, k21]
      have j22 : (w3.setCell ⟨w.heap.size, 1, none⟩ (.int .i64 (min (mis + 1) lim))).cell? ⟨w.heap.size + 1 + 1, 2, none⟩ = some (.int .i64 0) := by simp [go_sem, k22]
      obtain ⟨W, hW, r0, r1, r2, r3, r4, r5, hsz, hbel⟩ := put33 (w := w3.setCell ⟨w.heap.size, 1, none⟩ (.int .i64 (min (mis + 1) lim))) (g := w.heap.size + 1) (h := w.heap.size + 1 + 1) (by omega) j10 j11 j12 j20 j21 j22 (.int .i64 lim) (.int .i64 (min (mis + 1) lim)) (.int .i64 last) (.int .i64 0) (.int .i64 0) (.int .i64 0)
      rw [hW]
      have hsz2 : w3.heap.size = W.heap.size := by rw [hsz]; simp
      have hz3 : w.heap.size + 1 < W.heap.size := by omega
      have hz4 : w.heap.size + 1 + 1 < W.heap.size := by omega
      refine bodyPost_ret (v := .tuple #[.agg #[.int .i64 lim, .int .i64 (min (mis + 1) lim), .int .i64 last], .agg #[.int .i64 0, .int .i64 0, .int .i64 0], .bool false]) (by simp [results, Try.results26, go_sem, r0, r1, r2, r3, r4, r5, hz3, hz4]) rfl (HQ.out _ _ (((HF.out.setCell (Nat.le_refl _) _).trans (hbel _ (by omega) (by omega))).alloc (by omega) _) (fun hc => absurd (HD.out.1 hc).2 (by simp)) (by rw [show (min (mis + 1) lim) = (if mis < lim then mis + 1 else mis) from by split <;> omega]))
    · go_enter Try.func26, Try.ntmps26
      go_wp2_with (first
        | (go_at_call 24; ((with_reducible refine (C1.out _).mono ?_); rintro e w1 ⟨rfl, rfl⟩; unfold BoxW))
        | (go_at_call 41; ((with_reducible refine (N.out _).mono ?_); rintro e w1 ⟨rfl, rfl⟩))
        | (go_at_call 40; fail))
      refine (HR.out _ (by repeat (first | exact Below.refl _ _ | (refine Below.alloc ?_ (by first | exact HB.out | (simp; have := HB.out; omega)) _)))).mono ?_
      rintro e w3 ⟨he, hb⟩
      rw [HV.out.1, HV.out.2.1, HV.out.2.2.1, HV.out.2.2.2] at he; subst he
      have k00 : w3.cell? ⟨w.heap.size, 0, none⟩ = some (.int .i64 lim) := (hb.cell (p := ⟨w.heap.size, 0, none⟩) (by simp; try omega)).trans (by simp [go_sem])
      have z00 : w3.frozen? ⟨w.heap.size, 0, none⟩ = false := (hb.frozen (p := ⟨w.heap.size, 0, none⟩) (by simp; try omega)).trans (by simp [go_sem])
      have k01 : w3.cell? ⟨w.heap.size, 1, none⟩ = some (.int .i64 mis) := (hb.cell (p := ⟨w.heap.size, 1, none⟩) (by simp; try omega)).trans (by simp [go_sem])
      have z01 : w3.frozen? ⟨w.heap.size, 1, none⟩ = false := (hb.frozen (p := ⟨w.heap.size, 1, none⟩) (by simp; try omega)).trans (by simp [go_sem])
      have k02 : w3.cell? ⟨w.heap.size, 2, none⟩ = some (.int .i64 last) := (hb.cell (p := ⟨w.heap.size, 2, none⟩) (by simp; try omega)).trans (by simp [go_sem])
      have z02 : w3.frozen? ⟨w.heap.size, 2, none⟩ = false := (hb.frozen (p := ⟨w.heap.size, 2, none⟩) (by simp; try omega)).trans (by simp [go_sem])
      have k10 : w3.cell? ⟨w.heap.size + 1, 0, none⟩ = some (.int .i64 0) := (hb.cell (p := ⟨w.heap.size + 1, 0, none⟩) (by simp; try omega)).trans (by simp [go_sem])
      have z10 : w3.frozen? ⟨w.heap.size + 1, 0, none⟩ = false := (hb.frozen (p := ⟨w.heap.size + 1, 0, none⟩) (by simp; try omega)).trans (by simp [go_sem])
      have k11 : w3.cell? ⟨w.heap.size + 1, 1, none⟩ = some (.int .i64 0) := (hb.cell (p := ⟨w.heap.size + 1, 1, none⟩) (by simp; try omega)).trans (by simp [go_sem])
      have z11 : w3.frozen? ⟨w.heap.size + 1, 1, none⟩ = false := (hb.frozen (p := ⟨w.heap.size + 1, 1, none⟩) (by simp; try omega)).trans (by simp [go_sem])
      have k12 : w3.cell? ⟨w.heap.size + 1, 2, none⟩ = some (.int .i64 0) := (hb.cell (p := ⟨w.heap.size + 1, 2, none⟩) (by simp; try omega)).trans (by simp [go_sem])
      have z12 : w3.frozen? ⟨w.heap.size + 1, 2, none⟩ = false := (hb.frozen (p := ⟨w.heap.size + 1, 2, none⟩) (by simp; try omega)).trans (by simp [go_sem])
      have k20 : w3.cell? ⟨w.heap.size + 1 + 1, 0, none⟩ = some (.int .i64 0) := (hb.cell (p := ⟨w.heap.size + 1 + 1, 0, none⟩) (by simp; try omega)).trans (by simp [go_sem])
      have z20 : w3.frozen? ⟨w.heap.size + 1 + 1, 0, none⟩ = false := (hb.frozen (p := ⟨w.heap.size + 1 + 1, 0, none⟩) (by simp; try omega)).trans (by simp [go_sem])
      have k21 : w3.cell? ⟨w.heap.size + 1 + 1, 1, none⟩ = some (.int .i64 0) := (hb.cell (p := ⟨w.heap.size + 1 + 1, 1, none⟩) (by simp; try omega)).trans (by simp [go_sem])
      have z21 : w3.frozen? ⟨w.heap.size + 1 + 1, 1, none⟩ = false := (hb.frozen (p := ⟨w.heap.size + 1 + 1, 1, none⟩) (by simp; try omega)).trans (by simp [go_sem])
      have k22 : w3.cell? ⟨w.heap.size + 1 + 1, 2, none⟩ = some (.int .i64 0) := (hb.cell (p := ⟨w.heap.size + 1 + 1, 2, none⟩) (by simp; try omega)).trans (by simp [go_sem])
      have z22 : w3.frozen? ⟨w.heap.size + 1 + 1, 2, none⟩ = false := (hb.frozen (p := ⟨w.heap.size + 1 + 1, 2, none⟩) (by simp; try omega)).trans (by simp [go_sem])
      have hz := hb.size
      simp at hz
      have hz0 : w.heap.size < w3.heap.size := by omega
      have hz1 : w.heap.size + 1 < w3.heap.size := by omega
      have hz2 : w.heap.size + 1 + 1 < w3.heap.size := by omega
      clear hz
      have HB3 := Lib.hid hb
      clear hb
      go_wp2_with (first
        | (go_at_call 41; ((with_reducible refine (N.out _).mono ?_); rintro e w1 ⟨rfl, rfl⟩)))
      have HF : Hid (Below w.heap.size w w3) := Lib.hid (Below.trans (by repeat (first | exact Below.refl _ _ | (with_reducible refine Below.alloc ?_ ?_ _; rotate_left 1; focus (first | omega | (simp; done) | (simp; omega))))) (HB3.out.mono (by simp; try omega)))
      go_region
      go_wp2
      go_region
      go_wp2
      have j10 : ((w3.setCell ⟨w.heap.size, 1, none⟩ (.int .i64 0)).setCell ⟨w.heap.size, 2, none⟩ (.int .i64 S)).cell? ⟨w.heap.size + 1, 0, none⟩ = some (.int .i64 0) := by simp [go_sem, k10]
      have j11 : ((w3.setCell ⟨w.heap.size, 1, none⟩ (.int .i64 0)).setCell ⟨w.heap.size, 2, none⟩ (.int .i64 S)).cell? ⟨w.heap.size + 1, 1, none⟩ = some (.int .i64 0) := by simp [go_sem, k11]
      have j12 : ((w3.setCell ⟨w.heap.size, 1, none⟩ (.int .i64 0)).setCell ⟨w.heap.size, 2, none⟩ (.int .i64 S)).cell? ⟨w.heap.size + 1, 2, none⟩ = some (.int .i64 0) := by simp [go_sem, k12]
      have j20 : ((w3.setCell ⟨w.heap.size, 1, none⟩ (.int .i64 0)).setCell ⟨w.heap.size, 2, none⟩ (.int .i64 S)).cell? ⟨w.heap.size + 1 + 1, 0, none⟩ = some (.int .i64 0) := by simp [go_sem, k20]
      have j21 : ((w3.setCell ⟨w.heap.size, 1, none⟩ (.int .i64 0)).setCell ⟨w.heap.size, 2, none⟩ (.int .i64 S)).cell? ⟨w.heap.size + 1 + 1, 1, none⟩ = some (.int .i64 0) := by simp [go_sem, k21]
      have j22 : ((w3.setCell ⟨w.heap.size, 1, none⟩ (.int .i64 0)).setCell ⟨w.heap.size, 2, none⟩ (.int .i64 S)).cell? ⟨w.heap.size + 1 + 1, 2, none⟩ = some (.int .i64 0) := by simp [go_sem, k22]
      obtain ⟨W, hW, r0, r1, r2, r3, r4, r5, hsz, hbel⟩ := put33 (w := ((w3.setCell ⟨w.heap.size, 1, none⟩ (.int .i64 0)).setCell ⟨w.heap.size, 2, none⟩ (.int .i64 S))) (g := w.heap.size + 1) (h := w.heap.size + 1 + 1) (by omega) j10 j11 j12 j20 j21 j22 (.int .i64 lim) (.int .i64 0) (.int .i64 S) (.int .i64 S) (.int .i64 X) (.int .i64 P)
      rw [hW]
      have hsz2 : w3.heap.size = W.heap.size := by rw [hsz]; simp
      have hz3 : w.heap.size + 1 < W.heap.size := by omega
      have hz4 : w.heap.size + 1 + 1 < W.heap.size := by omega
      refine bodyPost_ret (v := .tuple #[.agg #[.int .i64 lim, .int .i64 0, .int .i64 S], .agg #[.int .i64 S, .int .i64 X, .int .i64 P], .bool true]) (by simp [results, Try.results26, go_sem, r0, r1, r2, r3, r4, r5, hz3, hz4]) rfl (HP.out _ _ (k.below_drawn ((((HF.out.setCell (Nat.le_refl _) _).setCell (Nat.le_refl _) _).trans (hbel _ (by omega) (by omega))).alloc (by omega) _) 2) (HD.out.2 ⟨HE.out, by simp⟩) rfl)
  · have hq : (E != 0) = true := by rw [bne_iff_ne]; exact hE0
    have HE := Lib.hid hE0
    clear hE0
    go_enter Try.func26, Try.ntmps26
    go_wp2_with (first
      | (go_at_call 24; ((with_reducible refine (C1.out _).mono ?_); rintro e w1 ⟨rfl, rfl⟩; unfold BoxW))
      | (go_at_call 41; ((with_reducible refine (N.out _).mono ?_); rintro e w1 ⟨rfl, rfl⟩))
      | (go_at_call 40; fail))
    refine (HR.out _ (by repeat (first | exact Below.refl _ _ | (refine Below.alloc ?_ (by first | exact HB.out | (simp; have := HB.out; omega)) _)))).mono ?_
    rintro e w3 ⟨he, hb⟩
    rw [HV.out.1, HV.out.2.1, HV.out.2.2.1, HV.out.2.2.2] at he; subst he
    have k00 : w3.cell? ⟨w.heap.size, 0, none⟩ = some (.int .i64 lim) := (hb.cell (p := ⟨w.heap.size, 0, none⟩) (by simp; try omega)).trans (by simp [go_sem])
    have z00 : w3.frozen? ⟨w.heap.size, 0, none⟩ = false := (hb.frozen (p := ⟨w.heap.size, 0, none⟩) (by simp; try omega)).trans (by simp [go_sem])
    have k01 : w3.cell? ⟨w.heap.size, 1, none⟩ = some (.int .i64 mis) := (hb.cell (p := ⟨w.heap.size, 1, none⟩) (by simp; try omega)).trans (by simp [go_sem])
    have z01 : w3.frozen? ⟨w.heap.size, 1, none⟩ = false := (hb.frozen (p := ⟨w.heap.size, 1, none⟩) (by simp; try omega)).trans (by simp [go_sem])
    have k02 : w3.cell? ⟨w.heap.size, 2, none⟩ = some (.int .i64 last) := (hb.cell (p := ⟨w.heap.size, 2, none⟩) (by simp; try omega)).trans (by simp [go_sem])
    have z02 : w3.frozen? ⟨w.heap.size, 2, none⟩ = false := (hb.frozen (p := ⟨w.heap.size, 2, none⟩) (by simp; try omega)).trans (by simp [go_sem])
    have k10 : w3.cell? ⟨w.heap.size + 1, 0, none⟩ = some (.int .i64 0) := (hb.cell (p := ⟨w.heap.size + 1, 0, none⟩) (by simp; try omega)).trans (by simp [go_sem])
    have z10 : w3.frozen? ⟨w.heap.size + 1, 0, none⟩ = false := (hb.frozen (p := ⟨w.heap.size + 1, 0, none⟩) (by simp; try omega)).trans (by simp [go_sem])
    have k11 : w3.cell? ⟨w.heap.size + 1, 1, none⟩ = some (.int .i64 0) := (hb.cell (p := ⟨w.heap.size + 1, 1, none⟩) (by simp; try omega)).trans (by simp [go_sem])
    have z11 : w3.frozen? ⟨w.heap.size + 1, 1, none⟩ = false := (hb.frozen (p := ⟨w.heap.size + 1, 1, none⟩) (by simp; try omega)).trans (by simp [go_sem])
    have k12 : w3.cell? ⟨w.heap.size + 1, 2, none⟩ = some (.int .i64 0) := (hb.cell (p := ⟨w.heap.size + 1, 2, none⟩) (by simp; try omega)).trans (by simp [go_sem])
    have z12 : w3.frozen? ⟨w.heap.size + 1, 2, none⟩ = false := (hb.frozen (p := ⟨w.heap.size + 1, 2, none⟩) (by simp; try omega)).trans (by simp [go_sem])
    have k20 : w3.cell? ⟨w.heap.size + 1 + 1, 0, none⟩ = some (.int .i64 0) := (hb.cell (p := ⟨w.heap.size + 1 + 1, 0, none⟩) (by simp; try omega)).trans (by simp [go_sem])
    have z20 : w3.frozen? ⟨w.heap.size + 1 + 1, 0, none⟩ = false := (hb.frozen (p := ⟨w.heap.size + 1 + 1, 0, none⟩) (by simp; try omega)).trans (by simp [go_sem])
    have k21 : w3.cell? ⟨w.heap.size + 1 + 1, 1, none⟩ = some (.int .i64 0) := (hb.cell (p := ⟨w.heap.size + 1 + 1, 1, none⟩) (by simp; try omega)).trans (by simp [go_sem])
    have z21 : w3.frozen? ⟨w.heap.size + 1 + 1, 1, none⟩ = false := (hb.frozen (p := ⟨w.heap.size + 1 + 1, 1, none⟩) (by simp; try omega)).trans (by simp [go_sem])
    have k22 : w3.cell? ⟨w.heap.size + 1 + 1, 2, none⟩ = some (.int .i64 0) := (hb.cell (p := ⟨w.heap.size + 1 + 1, 2, none⟩) (by simp; try omega)).trans (by simp [go_sem])
    have z22 : w3.frozen? ⟨w.heap.size + 1 + 1, 2, none⟩ = false := (hb.frozen (p := ⟨w.heap.size + 1 + 1, 2, none⟩) (by simp; try omega)).trans (by simp [go_sem])
    have hz := hb.size
    simp at hz
    have hz0 : w.heap.size < w3.heap.size := by omega
    have hz1 : w.heap.size + 1 < w3.heap.size := by omega
    have hz2 : w.heap.size + 1 + 1 < w3.heap.size := by omega
    clear hz
    have HB3 := Lib.hid hb
    clear hb
    go_wp2
    have HF : Hid (Below w.heap.size w w3) := Lib.hid (Below.trans (by repeat (first | exact Below.refl _ _ | (with_reducible refine Below.alloc ?_ ?_ _; rotate_left 1; focus (first | omega | (simp; done) | (simp; omega))))) (HB3.out.mono (by simp; try omega)))
    have j10 : (w3.setCell ⟨w.heap.size, 1, none⟩ (.int .i64 (min (mis + 1) lim))).cell? ⟨w.heap.size + 1, 0, none⟩ = some (.int .i64 0) := by simp [go_sem, k10]
    have j11 : (w3.setCell ⟨w.heap.size, 1, none⟩ (.int .i64 (min (mis + 1) lim))).cell? ⟨w.heap.size + 1, 1, none⟩ = some (.int .i64 0) := by simp [go_sem, k11]
    have j12 : (w3.setCell ⟨w.heap.size, 1, none⟩ (.int .i64 (min (mis + 1) lim))).cell? ⟨w.heap.size + 1, 2, none⟩ = some (.int .i64 0) := by simp [go_sem, k12]
    have j20 : (w3.setCell ⟨w.heap.size, 1, none⟩ (.int .i64 (min (mis + 1) lim))).cell? ⟨w.heap.size + 1 + 1, 0, none⟩ = some (.int .i64 0) := by simp [go_sem, k20]
    have j21 : (w3.setCell ⟨w.heap.size, 1, none⟩ (.int .i64 (min (mis + 1) lim))).cell? ⟨w.heap.size + 1 + 1, 1, none⟩ = some (.int .i64 0) := by simp [go_sem, k21]
    have j22 : (w3.setCell ⟨w.heap.size, 1, none⟩ (.int .i64 (min (mis + 1) lim))).cell? ⟨w.heap.size + 1 + 1, 2, none⟩ = some (.int .i64 0) := by simp [go_sem, k22]
    obtain ⟨W, hW, r0, r1, r2, r3, r4, r5, hsz, hbel⟩ := put33 (w := w3.setCell ⟨w.heap.size, 1, none⟩ (.int .i64 (min (mis + 1) lim))) (g := w.heap.size + 1) (h := w.heap.size + 1 + 1) (by omega) j10 j11 j12 j20 j21 j22 (.int .i64 lim) (.int .i64 (min (mis + 1) lim)) (.int .i64 last) (.int .i64 0) (.int .i64 0) (.int .i64 0)
    rw [hW]
    have hsz2 : w3.heap.size = W.heap.size := by rw [hsz]; simp
    have hz3 : w.heap.size + 1 < W.heap.size := by omega
    have hz4 : w.heap.size + 1 + 1 < W.heap.size := by omega
    refine bodyPost_ret (v := .tuple #[.agg #[.int .i64 lim, .int .i64 (min (mis + 1) lim), .int .i64 last], .agg #[.int .i64 0, .int .i64 0, .int .i64 0], .bool false]) (by simp [results, Try.results26, go_sem, r0, r1, r2, r3, r4, r5, hz3, hz4]) rfl (HQ.out _ _ (((HF.out.setCell (Nat.le_refl _) _).trans (hbel _ (by omega) (by omega))).alloc (by omega) _) (fun hc => HE.out (HD.out.1 hc).1) (by rw [show (min (mis + 1) lim) = (if mis < lim then mis + 1 else mis) from by split <;> omega]))
end Go.Proofs.Ytdfgjfojneoljaa.u
