/- What servitorref09's pass, least, turned, Right, Safe, May and Step answer; what was in memory is as it was. No condition beyond what each line says. -/
import Derived.Test.YtmfigpjofakdnaaGRef
namespace Go.Proofs.Ytmfigpjofakdnaa.gn
open Go.ChangeShapes Go.WideShapes Go.ChangeAt Go.RowKit Go.Proofs.Ytmfigpjofakdnaa.k Go.Proofs.Ytmfigpjofakdnaa.b
set_option linter.unusedVariables false

def fitP (s u d x : Int) : Prop := x ≤ u ∨ x + slow x u d ≤ s
theorem fitP_iff {s u d x : Int} (hu : 0 ≤ u) (hu2 : u ≤ 1048576) (hd : 1 ≤ d) (hx : x ≤ 1048576) : fitP s u d x ↔ x ≤ passV s u d := by
  have hi := pass_in (s := s) hu hu2 hd
  unfold fitP
  constructor
  · intro h
    rcases Int.lt_or_le u x with hl | hl
    · refine pass_top hu hd (passV_is hu hu2 hd) hx (by omega) (.inr ?_)
      rcases h with h | h
      · omega
      · exact h
    · omega
  · intro h
    rcases Int.lt_or_le u x with hl | hl
    · right
      have hm := slow_mono (u := u) hu hd h
      rcases hi.2.2 with h2 | h2
      · omega
      · omega
    · exact .inl hl
set_option maxHeartbeats 2000000 in
theorem refpass_any (S U D : Int) (s0 : 0 ≤ S) (s1 : S ≤ 2199023255552) (u0 : 0 ≤ U) (u1 : U ≤ 1048576) (d0 : 1 ≤ D) (d1 : D ≤ 1048576) (w : World) : Calls Try.prog 40 #[.int .i64 S, .int .i64 U, .int .i64 D] w fun e w' => e = .returned (.int .i64 (passV S U D)) ∧ w = w' := by
  have hri := pass_in (s := S) u0 u1 d0
  have HF := Lib.hid fun (x : Int) (hx : x ≤ 1048576) => fitP_iff (s := S) u0 u1 d0 hx
  have HSR := Lib.hid fun (V : Int) (h : U < V) (hV : V ≤ 1048576) => slow_ref d0 d1 u0 h hV
  have hne : ¬ D = 0 := by omega
  have hdb : (D == 0) = false := by rw [beq_eq_false_iff_ne]; exact hne
  obtain ⟨R, hR⟩ : ∃ R, passV S U D = R := ⟨_, rfl⟩
  rw [hR] at hri ⊢
  rw [hR] at HF
  have r0 : 0 ≤ R := by omega
  have r1 := hri.2.1
  clear hR hri
  go_enter Try.func40, Try.ntmps40
  go_wp2
  go_loop [7, 8] (fun a b => ∃ x y : Int, a = .int .i64 x ∧ b = .int .i64 y ∧ 0 ≤ x ∧ x ≤ R ∧ 0 ≤ y ∧ y ≤ 1048576 ∧ Halves y ∧ (y = 0 → R = x) ∧ (0 < y → R < x + 2 * y)) (fun _ b => (intOf b).toNat)
  case atStart => exact ⟨0, 1048576, rfl, rfl, by omega, by omega, by omega, by omega, halves_top, by omega, by omega⟩
  case round =>
    obtain ⟨x, y, rfl, rfl, x0, x1, y0, y1, hy, hz, hp⟩ := hrel
    by_cases hlt : 0 < y
    · have hh := halves_half hy hlt
      have HH := Lib.hid hh.1
      have h2 := hh.2.1
      have h3 := hh.2.2
      have hp := hp hlt
      clear hz hh hy
      by_cases hm : x + y ≤ 1048576
      · have hff := HF.out (x + y) hm
        by_cases hxu : x + y ≤ U
        · have hle : x + y ≤ R := hff.mp (.inl hxu)
          clear hff
          have HD := Lib.hid (And.intro h2 h3)
          clear h2 h3
          go_wp2
          go_round
          case rel => exact ⟨x + y, y / 2, rfl, rfl, by omega, hle, by omega, by omega, HH.out, fun h => by have := HD.out.1 h; omega, fun h => by have := HD.out.2 h; omega⟩
          case measure => simp [intOf]; omega
        · obtain ⟨m, e1, m0, m1, m2, m3, m4, m5, m6, m7, e2⟩ := HSR.out (x + y) (by omega) hm
          by_cases hf : x + y + m * (x + y) - D * m * (m + 1) / 2 ≤ S
          · have hle : x + y ≤ R := hff.mp (.inr (by omega))
            clear hff e2
            have HD := Lib.hid (And.intro h2 h3)
            clear h2 h3
            go_wp2
            go_round
            case rel => exact ⟨x + y, y / 2, rfl, rfl, by omega, hle, by omega, by omega, HH.out, fun h => by have := HD.out.1 h; omega, fun h => by have := HD.out.2 h; omega⟩
            case measure => simp [intOf]; omega
          · have hle : R < x + y := by
              rcases Int.lt_or_le R (x + y) with h | h
              · exact h
              · rcases hff.mpr h with h4 | h4
                · omega
                · omega
            clear hff e2
            have HD := Lib.hid (And.intro h2 h3)
            clear h2 h3
            go_wp2
            go_round
            case rel => exact ⟨x, y / 2, rfl, rfl, by omega, x1, by omega, by omega, HH.out, fun h => by have := HD.out.1 h; omega, fun h => by have := HD.out.2 h; omega⟩
            case measure => simp [intOf]; omega
      · have HD := Lib.hid (And.intro h2 h3)
        clear h2 h3
        go_wp2
        go_round
        case rel => exact ⟨x, y / 2, rfl, rfl, by omega, x1, by omega, by omega, HH.out, fun h => by have := HD.out.1 h; omega, fun h => by have := HD.out.2 h; omega⟩
        case measure => simp [intOf]; omega
    · have HV : Hid (R = x) := Lib.hid (hz (by omega))
      clear hz hp hy
      go_wp2
      go_ret
      exact ⟨ret_int HV.out.symm, rfl⟩
theorem least3_any (a b c m : Int) (hm : min (min a b) c = m) (g : Nat) (w : World) (h0 : w.cell? ⟨g, 0, none⟩ = some (.int .i64 a)) (h1 : w.cell? ⟨g, 1, none⟩ = some (.int .i64 b)) (h2 : w.cell? ⟨g, 2, none⟩ = some (.int .i64 c)) :
    Calls Try.prog 36 #[.slice (some ⟨g, 0, none⟩) 3 3] w fun e w' => e = .returned (.int .i64 m) ∧ w = w' := by
  have HM := Lib.hid hm
  clear hm
  by_cases q1 : b < a
  · by_cases q2 : c < b
    · go_enter Try.func36, Try.ntmps36
      go_wp2
      refine wp_loop_rounds 4 ?_
      iterate 4 (rw [rounds_succ]; go_wp2)
      go_ret
      exact ⟨ret_int (by have := HM.out; omega), rfl⟩
    · go_enter Try.func36, Try.ntmps36
      go_wp2
      refine wp_loop_rounds 4 ?_
      iterate 4 (rw [rounds_succ]; go_wp2)
      go_ret
      exact ⟨ret_int (by have := HM.out; omega), rfl⟩
  · by_cases q2 : c < a
    · go_enter Try.func36, Try.ntmps36
      go_wp2
      refine wp_loop_rounds 4 ?_
      iterate 4 (rw [rounds_succ]; go_wp2)
      go_ret
      exact ⟨ret_int (by have := HM.out; omega), rfl⟩
    · go_enter Try.func36, Try.ntmps36
      go_wp2
      refine wp_loop_rounds 4 ?_
      iterate 4 (rw [rounds_succ]; go_wp2)
      go_ret
      exact ⟨ret_int (by have := HM.out; omega), rfl⟩
theorem least2_any (a b m : Int) (hm : min a b = m) (g : Nat) (w : World) (h0 : w.cell? ⟨g, 0, none⟩ = some (.int .i64 a)) (h1 : w.cell? ⟨g, 1, none⟩ = some (.int .i64 b)) :
    Calls Try.prog 36 #[.slice (some ⟨g, 0, none⟩) 2 2] w fun e w' => e = .returned (.int .i64 m) ∧ w = w' := by
  have HM := Lib.hid hm
  clear hm
  by_cases q1 : b < a
  · go_enter Try.func36, Try.ntmps36
    go_wp2
    refine wp_loop_rounds 3 ?_
    iterate 3 (rw [rounds_succ]; go_wp2)
    go_ret
    exact ⟨ret_int (by have := HM.out; omega), rfl⟩
  · go_enter Try.func36, Try.ntmps36
    go_wp2
    refine wp_loop_rounds 3 ?_
    iterate 3 (rw [rounds_succ]; go_wp2)
    go_ret
    exact ⟨ret_int (by have := HM.out; omega), rfl⟩
end Go.Proofs.Ytmfigpjofakdnaa.gn
