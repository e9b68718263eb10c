/- The walk of the law WordUp: any state, a fault that may be cleared or not, however many cycles: it returns true, and the world stays as it was. -/
import Derived.Test.YthegbkgojheoiaaOAwake
namespace Go.Proofs.Ythegbkgojheoiaa.wordUp
open Go.ChangeShapes Go.WideShapes Go.ChangeAt Go.RowKit Go.Proofs.Ythegbkgojheoiaa.k Go.Proofs.Ythegbkgojheoiaa.o Go.Proofs.Ythegbkgojheoiaa
set_option linter.unusedVariables false

def UpAt (x : Int) (k : Nat) (u : Int) : Prop := 0 ≤ u ∧ u ≤ 4 ∧ ((k = 0 ∧ u = x) ∨ (1 ≤ k ∧ u ≤ 3 ∧ ((k : Int) - 1 ≤ u ∨ u = 3)))
def DnAt (x : Int) (clear : Bool) (k : Nat) (d : Int) : Prop :=
  (k = 0 ∧ d = x) ∨ (1 ≤ k ∧ ((x = 4 ∧ clear = false ∧ d = 4) ∨ (¬ (x = 4 ∧ clear = false) ∧ (d = 1 ∨ (x = 4 ∧ k = 1 ∧ d = 0)))))
theorem up_val (u : Int) (h0 : 0 ≤ u) (h4 : u ≤ 4) : nxt u (ctl u true true) = if u = 4 then 0 else if u = 3 then 3 else u + 1 := by
  rcases five_of u h0 h4 with rfl | rfl | rfl | rfl | rfl <;> decide
theorem up_step {x : Int} {k : Nat} {u : Int} (h : UpAt x k u) : UpAt x (k + 1) (nxt u (ctl u true true)) := by
  obtain ⟨h0, h4, h⟩ := h
  rw [up_val u h0 h4]
  unfold UpAt
  omega
theorem dn_val (d : Int) (clear : Bool) (h0 : 0 ≤ d) (h4 : d ≤ 4) : nxt d (ctl d false clear) = if d = 4 then (if clear = false then 4 else 0) else 1 := by
  rcases five_of d h0 h4 with rfl | rfl | rfl | rfl | rfl <;> cases clear <;> decide
theorem dn_step {x : Int} {clear : Bool} {k : Nat} {d : Int} (hx0 : 0 ≤ x) (hx4 : x ≤ 4) (h : DnAt x clear k d) : DnAt x clear (k + 1) (nxt d (ctl d false clear)) := by
  have hd : 0 ≤ d ∧ d ≤ 4 := by unfold DnAt at h; omega
  rw [dn_val d clear hd.1 hd.2]
  unfold DnAt at *
  cases clear <;> simp at * <;> omega

set_option maxRecDepth 100000 in
set_option maxHeartbeats 2000000 in
theorem walk (x : Int) (clear : Bool) (m : Int) (w : World) (h0 : (Lit.int .i64 x).wf = true) (h1 : (Lit.int .u8 m).wf = true) :
    Calls Try.prog 5 #[.int .i64 x, .bool clear, .int .u8 m] w fun e w' => e = .returned (.bool true) ∧ Below w.heap.size w w' := by
  have hm := wf8 h1
  clear h0 h1
  have HK := Lib.hid fun W => awake_any W
  by_cases g0 : 0 ≤ x
  · by_cases g4 : x ≤ 4
    · have hm0 := Int.emod_nonneg m (show (60 : Int) ≠ 0 by decide)
      have hm2 := Int.emod_lt_of_pos m (show (0 : Int) < 60 by decide)
      by_cases hx : x = 4
      · subst hx
        cases clear
        · go_enter Try.func5, Try.ntmps5
          go_wp2_with (first
            | (go_at_call 6; ((with_reducible refine (HK.out _).mono ?_); rintro e w1 ⟨rfl, rfl⟩)))
          go_loop [7, 8, 9] (fun a b i => ∃ (k : Nat) (u d : Int), (k : Int) ≤ m % 60 ∧ i = .int .i64 k ∧ a = .int .i64 u ∧ b = .int .i64 d ∧ UpAt 4 k u ∧ DnAt 4 false k d) (fun _ _ i => (m % 60 - intOf i).toNat)
          case atStart => exact ⟨0, 4, 4, by omega, rfl, rfl, rfl, ⟨by omega, by omega, .inl ⟨rfl, rfl⟩⟩, .inl ⟨rfl, rfl⟩⟩
          case round =>
            obtain ⟨k, u, d, hk, rfl, rfl, rfl, hU, hD⟩ := hrel
            by_cases hlt : (k : Int) < m % 60
            · have C1 := Lib.hid fun W => control_any u true true W
              have N1 := Lib.hid fun W => next_any u (ctl u true true) W
              have C2 := Lib.hid fun W => control_any d false false W
              have N2 := Lib.hid fun W => next_any d (ctl d false false) W
              have hU' := up_step hU
              have hD' := dn_step (by omega) (by omega) hD
              clear hU hD
              generalize nxt u (ctl u true true) = u2 at *
              generalize nxt d (ctl d false false) = d2 at *
              generalize ctl u true true = c1 at *
              generalize ctl d false false = c2 at *
              have HU := Lib.hid hU'
              have HD := Lib.hid hD'
              have hu : (3 ≤ (k : Int) ∧ u2 = 3) ∨ ((k : Int) < 3 ∧ (u2 == 4) = false) := by
                rw [beq_eq_false_iff_ne]; unfold UpAt at hU'; omega
              have hd : d2 = 4 := by unfold DnAt at hD'; simp at hD'; omega
              subst hd
              clear hU' hD'
              rcases hu with ⟨hk3, rfl⟩ | ⟨hk3, hu4⟩
              all_goals
                go_wp2_with (first
                  | (go_at_call 11; ((with_reducible refine (C1.out _).mono ?_); rintro e w1 ⟨rfl, rfl⟩))
                  | (go_at_call 11; ((with_reducible refine (C2.out _).mono ?_); rintro e w1 ⟨rfl, rfl⟩))
                  | (go_at_call 13; ((with_reducible refine (N1.out _).mono ?_); rintro e w1 ⟨rfl, rfl⟩))
                  | (go_at_call 13; ((with_reducible refine (N2.out _).mono ?_); rintro e w1 ⟨rfl, rfl⟩)))
                go_round
                case rel => exact ⟨k + 1, _, _, by omega, by go_num, rfl, rfl, HU.out, HD.out⟩
                case measure => simp [intOf]; omega
            · clear hU hD
              go_wp2
              go_ret
              exact ⟨rfl, Below.refl _ _⟩
        · go_enter Try.func5, Try.ntmps5
          go_wp2_with (first
            | (go_at_call 6; ((with_reducible refine (HK.out _).mono ?_); rintro e w1 ⟨rfl, rfl⟩)))
          go_loop [7, 8, 9] (fun a b i => ∃ (k : Nat) (u d : Int), (k : Int) ≤ m % 60 ∧ i = .int .i64 k ∧ a = .int .i64 u ∧ b = .int .i64 d ∧ UpAt 4 k u ∧ DnAt 4 true k d) (fun _ _ i => (m % 60 - intOf i).toNat)
          case atStart => exact ⟨0, 4, 4, by omega, rfl, rfl, rfl, ⟨by omega, by omega, .inl ⟨rfl, rfl⟩⟩, .inl ⟨rfl, rfl⟩⟩
          case round =>
            obtain ⟨k, u, d, hk, rfl, rfl, rfl, hU, hD⟩ := hrel
            by_cases hlt : (k : Int) < m % 60
            · have C1 := Lib.hid fun W => control_any u true true W
              have N1 := Lib.hid fun W => next_any u (ctl u true true) W
              have C2 := Lib.hid fun W => control_any d false true W
              have N2 := Lib.hid fun W => next_any d (ctl d false true) W
              have hU' := up_step hU
              have hD' := dn_step (by omega) (by omega) hD
              clear hU hD
              generalize nxt u (ctl u true true) = u2 at *
              generalize nxt d (ctl d false true) = d2 at *
              generalize ctl u true true = c1 at *
              generalize ctl d false true = c2 at *
              have HU := Lib.hid hU'
              have HD := Lib.hid hD'
              have hu : (3 ≤ (k : Int) ∧ u2 = 3) ∨ ((k : Int) < 3 ∧ (u2 == 4) = false) := by
                rw [beq_eq_false_iff_ne]; unfold UpAt at hU'; omega
              have hd : (((k : Int) == 0) = true ∧ d2 = 0) ∨ (d2 = 1) := by
                rw [beq_iff_eq]; unfold DnAt at hD'; simp at hD'; omega
              clear hU' hD'
              rcases hd with ⟨hkb, rfl⟩ | rfl <;> rcases hu with ⟨hk3, rfl⟩ | ⟨hk3, hu4⟩
              all_goals
                go_wp2_with (first
                  | (go_at_call 11; ((with_reducible refine (C1.out _).mono ?_); rintro e w1 ⟨rfl, rfl⟩))
                  | (go_at_call 11; ((with_reducible refine (C2.out _).mono ?_); rintro e w1 ⟨rfl, rfl⟩))
                  | (go_at_call 13; ((with_reducible refine (N1.out _).mono ?_); rintro e w1 ⟨rfl, rfl⟩))
                  | (go_at_call 13; ((with_reducible refine (N2.out _).mono ?_); rintro e w1 ⟨rfl, rfl⟩)))
                go_round
                case rel => exact ⟨k + 1, _, _, by omega, by go_num, rfl, rfl, HU.out, HD.out⟩
                case measure => simp [intOf]; omega
            · clear hU hD
              go_wp2
              go_ret
              exact ⟨rfl, Below.refl _ _⟩
      · have hxb : (x == 4) = false := by rw [beq_eq_false_iff_ne]; exact hx
        go_enter Try.func5, Try.ntmps5
        go_wp2_with (first
          | (go_at_call 6; ((with_reducible refine (HK.out _).mono ?_); rintro e w1 ⟨rfl, rfl⟩)))
        go_loop [7, 8, 9] (fun a b i => ∃ (k : Nat) (u d : Int), (k : Int) ≤ m % 60 ∧ i = .int .i64 k ∧ a = .int .i64 u ∧ b = .int .i64 d ∧ UpAt x k u ∧ DnAt x clear k d) (fun _ _ i => (m % 60 - intOf i).toNat)
        case atStart => exact ⟨0, x, x, by omega, rfl, rfl, rfl, ⟨by omega, by omega, .inl ⟨rfl, rfl⟩⟩, .inl ⟨rfl, rfl⟩⟩
        case round =>
          obtain ⟨k, u, d, hk, rfl, rfl, rfl, hU, hD⟩ := hrel
          by_cases hlt : (k : Int) < m % 60
          · have C1 := Lib.hid fun W => control_any u true true W
            have N1 := Lib.hid fun W => next_any u (ctl u true true) W
            have C2 := Lib.hid fun W => control_any d false clear W
            have N2 := Lib.hid fun W => next_any d (ctl d false clear) W
            have hU' := up_step hU
            have hD' := dn_step (by omega) (by omega) hD
            clear hU hD
            generalize nxt u (ctl u true true) = u2 at *
            generalize nxt d (ctl d false clear) = d2 at *
            generalize ctl u true true = c1 at *
            generalize ctl d false clear = c2 at *
            have HU := Lib.hid hU'
            have HD := Lib.hid hD'
            have hu : (3 ≤ (k : Int) ∧ u2 = 3) ∨ ((k : Int) < 3 ∧ (u2 == 4) = false) := by
              rw [beq_eq_false_iff_ne]; unfold UpAt at hU'; omega
            have hd : d2 = 1 := by unfold DnAt at hD'; omega
            subst hd
            clear hU' hD'
            rcases hu with ⟨hk3, rfl⟩ | ⟨hk3, hu4⟩
            all_goals
              go_wp2_with (first
                | (go_at_call 11; ((with_reducible refine (C1.out _).mono ?_); rintro e w1 ⟨rfl, rfl⟩))
                | (go_at_call 11; ((with_reducible refine (C2.out _).mono ?_); rintro e w1 ⟨rfl, rfl⟩))
                | (go_at_call 13; ((with_reducible refine (N1.out _).mono ?_); rintro e w1 ⟨rfl, rfl⟩))
                | (go_at_call 13; ((with_reducible refine (N2.out _).mono ?_); rintro e w1 ⟨rfl, rfl⟩)))
              go_round
              case rel => exact ⟨k + 1, _, _, by omega, by go_num, rfl, rfl, HU.out, HD.out⟩
              case measure => simp [intOf]; omega
          · clear hU hD
            go_wp2
            go_ret
            exact ⟨rfl, Below.refl _ _⟩
    · go_enter Try.func5, Try.ntmps5
      go_wp2_with (first
        | (go_at_call 6; ((with_reducible refine (HK.out _).mono ?_); rintro e w1 ⟨rfl, rfl⟩)))
      go_ret
      exact ⟨rfl, Below.refl _ _⟩
  · go_enter Try.func5, Try.ntmps5
    go_wp2_with (first
      | (go_at_call 6; ((with_reducible refine (HK.out _).mono ?_); rintro e w1 ⟨rfl, rfl⟩)))
    go_ret
    exact ⟨rfl, Below.refl _ _⟩
end Go.Proofs.Ythegbkgojheoiaa.wordUp
