/- What servitorref09's between, way, reach and pass answer, and servitorref08's Vel; the world stays as it was. No condition beyond what each line says. -/
import Derived.Test.YtaohidaijlcplaaGMath
namespace Go.Proofs.Ytaohidaijlcplaa.gn
open Go.ChangeShapes Go.WideShapes Go.ChangeAt Go.RowKit Go.Proofs.Ytaohidaijlcplaa.k Go.Proofs.Ytaohidaijlcplaa.b
set_option linter.unusedVariables false

/-- the row's sum, as the reference reckons it -/
theorem slow_ref {V U D : Int} (hd : 1 ≤ D) (hd2 : D ≤ 1048576) (hu : 0 ≤ U) (h : U < V) (hV : V ≤ 1048576) :
    ∃ m, (V - U - 1) / D = m ∧ 0 ≤ m ∧ m ≤ 1048576 ∧ 0 ≤ m * V ∧ m * V ≤ 1099511627776 ∧ 0 ≤ D * m ∧ D * m ≤ 1048576 ∧ 0 ≤ D * m * (m + 1) ∧ D * m * (m + 1) ≤ 1099512676352 ∧ m * V - D * m * (m + 1) / 2 = slow V U D := by
  have hs := slow_sum hd h
  have q := Int.mul_ediv_add_emod (V - U - 1) D
  have r0 := Int.emod_nonneg (V - U - 1) (show D ≠ 0 by omega)
  have m0 : 0 ≤ (V - U - 1) / D := Int.ediv_nonneg (by omega) (by omega)
  have hp := slow_pos (v := V) hu hd
  refine ⟨(V - U - 1) / D, rfl, m0, ?_⟩
  generalize (V - U - 1) / D = m at *
  have hmD : m * 1 ≤ D * m := by rw [Int.mul_comm D m]; exact Int.mul_le_mul_of_nonneg_left hd m0
  have hm : m ≤ 1048576 := by omega
  have h1 : 0 ≤ m * V := Int.mul_nonneg m0 (by omega)
  have h2 : m * V ≤ 1048576 * 1048576 := Int.mul_le_mul hm hV (by omega) (by omega)
  have h3 : 0 ≤ D * m := Int.mul_nonneg (by omega) m0
  have h4 : D * m ≤ 1048576 := by omega
  have h5 : 0 ≤ D * m * (m + 1) := Int.mul_nonneg h3 (by omega)
  have h6 : D * m * (m + 1) ≤ 1048576 * 1048577 := Int.mul_le_mul h4 (by omega) (by omega) (by omega)
  have e : m * (m + 1) * D = D * m * (m + 1) := by rw [Int.mul_comm (m * (m + 1)) D, Int.mul_assoc]
  rw [e] at hs
  generalize D * m * (m + 1) = p at *
  refine ⟨hm, h1, by omega, h3, h4, h5, by omega, by omega⟩
theorem refway_any (v D : Int) (v0 : 0 ≤ v) (v1 : v ≤ 1048576) (d0 : 1 ≤ D) (d1 : D ≤ 1048576) (w : World) : Calls Try.prog 42 #[.int .i64 v, .int .i64 D] w fun e w' => e = .returned (.int .i64 (slow v 0 D)) ∧ w = w' := by
  have hne : ¬ D = 0 := by omega
  have hdb : (D == 0) = false := by rw [beq_eq_false_iff_ne]; exact hne
  by_cases h : 0 < v
  · obtain ⟨m, e1, m0, m1, m2, m3, m4, m5, m6, m7, e2⟩ := slow_ref d0 d1 (Int.le_refl 0) h v1
    rw [show v - 0 - 1 = v - 1 by omega] at e1
    have HE := Lib.hid e2
    clear e2
    go_enter Try.func42, Try.ntmps42
    go_wp2
    go_ret
    exact ⟨ret_int HE.out, rfl⟩
  · have e : v = 0 := by omega
    subst e
    have HE := Lib.hid (slow_zero d0)
    go_enter Try.func42, Try.ntmps42
    go_wp2
    go_ret
    exact ⟨ret_int (by rw [HE.out]), rfl⟩
/-- a search bit by bit -/
theorem bits_half {b : Int} {k : Nat} (h : b = 2 ^ k) : (b / 2 = 0 ∧ k = 0) ∨ ∃ j, k = j + 1 ∧ b / 2 = 2 ^ j := by
  cases k with
  | zero => left; subst h; exact ⟨by decide, rfl⟩
  | succ j => right; refine ⟨j, rfl, ?_⟩; rw [h, Int.pow_succ]; omega
def Halves (b : Int) : Prop := b = 0 ∨ ∃ k : Nat, b = 2 ^ k
theorem halves_half {b : Int} (h : Halves b) (hb : 0 < b) : Halves (b / 2) ∧ (b / 2 = 0 → b = 1) ∧ (0 < b / 2 → 2 * (b / 2) = b) := by
  rcases h with h | ⟨k, h⟩
  · omega
  · rcases bits_half h with ⟨h1, h2⟩ | ⟨j, h1, h2⟩
    · refine ⟨.inl h1, fun _ => by rw [h, h2]; rfl, fun h3 => by omega⟩
    · refine ⟨.inr ⟨j, h2⟩, fun h3 => ?_, fun _ => ?_⟩
      · have : (0 : Int) < 2 ^ j := Int.pow_pos (by decide)
        omega
      · rw [h2, h, h1, Int.pow_succ]; omega
theorem halves_top : Halves 1048576 := .inr ⟨20, by decide⟩
def fit9 (s d x : Int) : Bool := decide (x + slow x 0 d ≤ s)
theorem fit9_iff {s d x : Int} (hs : 0 ≤ s) (hd : 1 ≤ d) (hx : x ≤ 1048576) : fit9 s d x = true ↔ x ≤ reachV s d := by
  unfold fit9
  rw [decide_eq_true_iff]
  constructor
  · exact reach_ge hs hd hx
  · exact fun h => fit_le hd h (reach_in hs hd).2.2
set_option maxHeartbeats 1000000 in
theorem refreach_any (S D : Int) (s0 : 0 ≤ S) (s1 : S ≤ 2199023255552) (d0 : 1 ≤ D) (d1 : D ≤ 1048576) (w : World) : Calls Try.prog 45 #[.int .i64 S, .int .i64 D] w fun e w' => e = .returned (.int .i64 (reachV S D)) ∧ w = w' := by
  have HW := Lib.hid fun (v : Int) (v0 : 0 ≤ v) (v1 : v ≤ 1048576) W => refway_any v D v0 v1 d0 d1 W
  have hri := reach_in s0 d0
  have HF := Lib.hid fun (x : Int) (hx : x ≤ 1048576) => fit9_iff s0 d0 hx
  obtain ⟨R, hR⟩ : ∃ R, reachV S D = R := ⟨_, rfl⟩
  rw [hR] at hri ⊢
  rw [hR] at HF
  have r0 := hri.1
  have r1 := hri.2.1
  clear hR hri
  go_enter Try.func45, Try.ntmps45
  go_wp2
  go_loop [5, 6] (fun a b => ∃ x y : Int, a = .int .i64 x ∧ b = .int .i64 y ∧ 0 ≤ x ∧ x ≤ R ∧ 0 ≤ y ∧ y ≤ 1048576 ∧ Halves y ∧ (y = 0 → R = x) ∧ (0 < y → R < x + 2 * y)) (fun _ b => (intOf b).toNat)
  case atStart => exact ⟨0, 1048576, rfl, rfl, by omega, by omega, by omega, by omega, halves_top, by omega, by omega⟩
  case round =>
    obtain ⟨x, y, rfl, rfl, x0, x1, y0, y1, hy, hz, hp⟩ := hrel
    by_cases hlt : 0 < y
    · have hh := halves_half hy hlt
      have HH := Lib.hid hh.1
      have h2 := hh.2.1
      have h3 := hh.2.2
      have hp := hp hlt
      clear hz hh hy
      by_cases hm : x + y ≤ 1048576
      · have hsp := slow_pos (v := x + y) (u := 0) (by omega) d0
        have hsl := slow_le (u := 0) (d := D) (by omega) d0 (show 0 ≤ x + y by omega) hm
        have C := Lib.hid fun W => HW.out (x + y) (by omega) hm W
        obtain ⟨X, hX⟩ : ∃ X, slow (x + y) 0 D = X := ⟨_, rfl⟩
        have hff := HF.out (x + y) hm
        unfold fit9 at hff
        rw [hX] at hsp hsl hff
        rw [hX] at C
        clear hX
        by_cases hf : x + y + X ≤ S
        · have hle : x + y ≤ R := hff.mp (decide_eq_true hf)
          clear hff
          have HD := Lib.hid (And.intro h2 h3)
          clear h2 h3
          go_wp2_with (go_at_call 42; ((with_reducible refine (C.out _).mono ?_); rintro e w1 ⟨rfl, rfl⟩))
          go_round
          case rel => exact ⟨x + y, y / 2, rfl, rfl, by omega, hle, by omega, by omega, HH.out, fun h => by have := HD.out.1 h; omega, fun h => by have := HD.out.2 h; omega⟩
          case measure => simp [intOf]; omega
        · have hle : R < x + y := by
            rcases Int.lt_or_le R (x + y) with h | h
            · exact h
            · exact absurd (of_decide_eq_true (hff.mpr h)) hf
          clear hff
          have HD := Lib.hid (And.intro h2 h3)
          clear h2 h3
          go_wp2_with (go_at_call 42; ((with_reducible refine (C.out _).mono ?_); rintro e w1 ⟨rfl, rfl⟩))
          go_round
          case rel => exact ⟨x, y / 2, rfl, rfl, by omega, x1, by omega, by omega, HH.out, fun h => by have := HD.out.1 h; omega, fun h => by have := HD.out.2 h; omega⟩
          case measure => simp [intOf]; omega
      · have HD := Lib.hid (And.intro h2 h3)
        clear h2 h3
        go_wp2
        go_round
        case rel => exact ⟨x, y / 2, rfl, rfl, by omega, x1, by omega, by omega, HH.out, fun h => by have := HD.out.1 h; omega, fun h => by have := HD.out.2 h; omega⟩
        case measure => simp [intOf]; omega
    · have HV : Hid (R = x) := Lib.hid (hz (by omega))
      clear hz hp hy
      go_wp2
      go_ret
      exact ⟨ret_int HV.out.symm, rfl⟩
end Go.Proofs.Ytaohidaijlcplaa.gn
