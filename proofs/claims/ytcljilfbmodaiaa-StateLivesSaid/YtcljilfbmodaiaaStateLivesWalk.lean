/- The walk of the law StateLives: whatever happens: it returns true, and what was in memory is as it was. -/
import Derived.Test.YtcljilfbmodaiaaEdAwake
import Derived.Test.YtcljilfbmodaiaaIRow
namespace Go.Proofs.Ytcljilfbmodaiaa.stateLives
open Go.ChangeShapes Go.WideShapes Go.ChangeAt Go.RowKit Go.Proofs.Ytcljilfbmodaiaa.k Go.Proofs.Ytcljilfbmodaiaa.ed Go.Proofs.Ytcljilfbmodaiaa
set_option linter.unusedVariables false

set_option maxRecDepth 100000 in
set_option maxHeartbeats 2000000 in
theorem walk (a : Option Addr) (len cap : Nat) (zs : List Int) (w : World) (w0 : IsRow .i64 w a len cap zs) :
    Calls Try.prog 5 #[.slice a len cap] w fun e w' => e = .returned (.bool true) ∧ Below w.heap.size w w' := by
  have hlen := w0.len
  have W0 := Lib.hid w0
  clear w0
  have HK := Lib.hid fun W => awake_any W
  have HB := Lib.hid (Below.refl w.heap.size w)
  go_enter Try.func5, Try.ntmps5
  go_wp2_with (go_at_call 6; ((with_reducible refine (HK.out _).mono ?_); rintro e w1 ⟨rfl, hb⟩; have HB := Lib.hid (HB.out.trans (hb.mono HB.out.size)); clear hb))
  clear HK
  go_loopw [3, 4, 5] (fun s on i wr => ∃ (k : Nat) (x : Int) (b : Bool), k ≤ len ∧ k ≤ 300 ∧ i = .int .i64 k ∧ s = .int .i64 x ∧ on = .bool b ∧ 0 ≤ x ∧ x ≤ 7 ∧ (b = true ∨ x = 0 ∨ x = 7) ∧ Below w.heap.size w wr) (fun _ _ i _ => len - (intOf i).toNat)
  case atStart => exact ⟨0, 0, false, Nat.zero_le _, by omega, rfl, rfl, rfl, by omega, by omega, .inr (.inl rfl), HB.out⟩
  case round =>
    clear HB
    obtain ⟨k, x, b, hk, hk3, rfl, rfl, rfl, hx0, hx7, hxb, hb⟩ := hrel
    have HB := Lib.hid hb
    clear hb
    by_cases hlt : k < len
    · by_cases hlt3 : k < 300
      · obtain ⟨g, off, rfl, hg, _, _, hrow⟩ := W0.out.at (by omega)
        obtain ⟨ev, _, hck0⟩ := hrow k hlt
        have hgr : g < wr.heap.size := Nat.lt_of_lt_of_le hg HB.out.size
        have hck : wr.cell? ⟨g, off + k, none⟩ = some (.int .i64 ev) := (HB.out.cell (p := ⟨g, off + k, none⟩) hg).trans hck0
        have hk0 : (0 : Int) ≤ (k : Int) := by omega
        have hk1 : (k : Int) < (len : Int) := by omega
        have hk2 : (k : Int) < 300 := by omega
        clear hrow hck0 hg
        obtain ⟨f1, f2, f3⟩ := lives (ev := ev) hx0 hx7 hxb
        have HN := Lib.hid fun W => next_any x ev W
        have HM := Lib.hid fun W => moves_any (nxS x ev) W
        unfold onB at f2 f3
        generalize nxS x ev = n at *
        generalize nxB x ev = ok at *
        generalize mvB n = m at *
        obtain ⟨n0, n7⟩ := f1
        clear hxb hx0 hx7
        cases ok
        · simp only [Bool.false_eq_true, if_false] at f2 f3
          cases m
          · skip
            have F2 : Hid (b = true ∨ n = 0 ∨ n = 7) := Lib.hid (by simpa using f2)
            clear f2 f3
            go_wp2_with (first | (go_at_call 7; ((with_reducible refine (HN.out _).mono ?_); rintro e w1 ⟨rfl, hb⟩; have hc1 := (hb.cell (p := ⟨g, off + k, none⟩) hgr).trans hck; have HB := Lib.hid (HB.out.trans (hb.mono HB.out.size)); clear hb hck)) | (go_at_call 9; ((with_reducible refine (HM.out _).mono ?_); rintro e w1 ⟨rfl, hb⟩; have HB := Lib.hid (HB.out.trans (hb.mono HB.out.size)); clear hb)))
            go_roundw
            case rel => exact ⟨k + 1, n, _, by omega, by omega, by go_num, rfl, rfl, n0, n7, F2.out, HB.out⟩
            case measure => simp [intOf]; omega
          · obtain rfl : b = true := f3 rfl
            clear f2 f3
            go_wp2_with (first | (go_at_call 7; ((with_reducible refine (HN.out _).mono ?_); rintro e w1 ⟨rfl, hb⟩; have hc1 := (hb.cell (p := ⟨g, off + k, none⟩) hgr).trans hck; have HB := Lib.hid (HB.out.trans (hb.mono HB.out.size)); clear hb hck)) | (go_at_call 9; ((with_reducible refine (HM.out _).mono ?_); rintro e w1 ⟨rfl, hb⟩; have HB := Lib.hid (HB.out.trans (hb.mono HB.out.size)); clear hb)))
            go_roundw
            case rel => exact ⟨k + 1, n, _, by omega, by omega, by go_num, rfl, rfl, n0, n7, .inl rfl, HB.out⟩
            case measure => simp [intOf]; omega
        · simp only [if_true] at f2 f3
          by_cases e1 : ev = 1
          · subst e1
            simp only [if_true] at f2 f3
            cases m
            · skip
              clear f2 f3
              go_wp2_with (first | (go_at_call 7; ((with_reducible refine (HN.out _).mono ?_); rintro e w1 ⟨rfl, hb⟩; have hc1 := (hb.cell (p := ⟨g, off + k, none⟩) hgr).trans hck; have HB := Lib.hid (HB.out.trans (hb.mono HB.out.size)); clear hb hck)) | (go_at_call 9; ((with_reducible refine (HM.out _).mono ?_); rintro e w1 ⟨rfl, hb⟩; have HB := Lib.hid (HB.out.trans (hb.mono HB.out.size)); clear hb)))
              go_roundw
              case rel => exact ⟨k + 1, n, _, by omega, by omega, by go_num, rfl, rfl, n0, n7, .inl rfl, HB.out⟩
              case measure => simp [intOf]; omega
            · skip
              clear f2 f3
              go_wp2_with (first | (go_at_call 7; ((with_reducible refine (HN.out _).mono ?_); rintro e w1 ⟨rfl, hb⟩; have hc1 := (hb.cell (p := ⟨g, off + k, none⟩) hgr).trans hck; have HB := Lib.hid (HB.out.trans (hb.mono HB.out.size)); clear hb hck)) | (go_at_call 9; ((with_reducible refine (HM.out _).mono ?_); rintro e w1 ⟨rfl, hb⟩; have HB := Lib.hid (HB.out.trans (hb.mono HB.out.size)); clear hb)))
              go_roundw
              case rel => exact ⟨k + 1, n, _, by omega, by omega, by go_num, rfl, rfl, n0, n7, .inl rfl, HB.out⟩
              case measure => simp [intOf]; omega
          · have q1 : (ev == 1) = false := by rw [beq_eq_false_iff_ne]; exact e1
            rw [if_neg e1] at f2 f3
            by_cases e2 : ev = 2
            · subst e2
              simp only [if_true] at f2 f3
              cases m
              · skip
                have F2 : Hid (false = true ∨ n = 0 ∨ n = 7) := Lib.hid (by simpa using f2)
                clear f2 f3
                go_wp2_with (first | (go_at_call 7; ((with_reducible refine (HN.out _).mono ?_); rintro e w1 ⟨rfl, hb⟩; have hc1 := (hb.cell (p := ⟨g, off + k, none⟩) hgr).trans hck; have HB := Lib.hid (HB.out.trans (hb.mono HB.out.size)); clear hb hck)) | (go_at_call 9; ((with_reducible refine (HM.out _).mono ?_); rintro e w1 ⟨rfl, hb⟩; have HB := Lib.hid (HB.out.trans (hb.mono HB.out.size)); clear hb)))
                go_roundw
                case rel => exact ⟨k + 1, n, _, by omega, by omega, by go_num, rfl, rfl, n0, n7, F2.out, HB.out⟩
                case measure => simp [intOf]; omega
              · exact absurd (f3 rfl) (by simp)
            · have q2 : (ev == 2) = false := by rw [beq_eq_false_iff_ne]; exact e2
              rw [if_neg e2] at f2 f3
              by_cases e3 : ev = 12
              · subst e3
                simp only [if_true] at f2 f3
                cases m
                · skip
                  clear f2 f3
                  go_wp2_with (first | (go_at_call 7; ((with_reducible refine (HN.out _).mono ?_); rintro e w1 ⟨rfl, hb⟩; have hc1 := (hb.cell (p := ⟨g, off + k, none⟩) hgr).trans hck; have HB := Lib.hid (HB.out.trans (hb.mono HB.out.size)); clear hb hck)) | (go_at_call 9; ((with_reducible refine (HM.out _).mono ?_); rintro e w1 ⟨rfl, hb⟩; have HB := Lib.hid (HB.out.trans (hb.mono HB.out.size)); clear hb)))
                  go_roundw
                  case rel => exact ⟨k + 1, n, _, by omega, by omega, by go_num, rfl, rfl, n0, n7, .inl rfl, HB.out⟩
                  case measure => simp [intOf]; omega
                · skip
                  clear f2 f3
                  go_wp2_with (first | (go_at_call 7; ((with_reducible refine (HN.out _).mono ?_); rintro e w1 ⟨rfl, hb⟩; have hc1 := (hb.cell (p := ⟨g, off + k, none⟩) hgr).trans hck; have HB := Lib.hid (HB.out.trans (hb.mono HB.out.size)); clear hb hck)) | (go_at_call 9; ((with_reducible refine (HM.out _).mono ?_); rintro e w1 ⟨rfl, hb⟩; have HB := Lib.hid (HB.out.trans (hb.mono HB.out.size)); clear hb)))
                  go_roundw
                  case rel => exact ⟨k + 1, n, _, by omega, by omega, by go_num, rfl, rfl, n0, n7, .inl rfl, HB.out⟩
                  case measure => simp [intOf]; omega
              · have q3 : (ev == 12) = false := by rw [beq_eq_false_iff_ne]; exact e3
                rw [if_neg e3] at f2 f3
                cases m
                · skip
                  have F2 : Hid (b = true ∨ n = 0 ∨ n = 7) := Lib.hid (by simpa using f2)
                  clear f2 f3
                  go_wp2_with (first | (go_at_call 7; ((with_reducible refine (HN.out _).mono ?_); rintro e w1 ⟨rfl, hb⟩; have hc1 := (hb.cell (p := ⟨g, off + k, none⟩) hgr).trans hck; have HB := Lib.hid (HB.out.trans (hb.mono HB.out.size)); clear hb hck)) | (go_at_call 9; ((with_reducible refine (HM.out _).mono ?_); rintro e w1 ⟨rfl, hb⟩; have HB := Lib.hid (HB.out.trans (hb.mono HB.out.size)); clear hb)))
                  go_roundw
                  case rel => exact ⟨k + 1, n, _, by omega, by omega, by go_num, rfl, rfl, n0, n7, F2.out, HB.out⟩
                  case measure => simp [intOf]; omega
                · obtain rfl : b = true := f3 rfl
                  clear f2 f3
                  go_wp2_with (first | (go_at_call 7; ((with_reducible refine (HN.out _).mono ?_); rintro e w1 ⟨rfl, hb⟩; have hc1 := (hb.cell (p := ⟨g, off + k, none⟩) hgr).trans hck; have HB := Lib.hid (HB.out.trans (hb.mono HB.out.size)); clear hb hck)) | (go_at_call 9; ((with_reducible refine (HM.out _).mono ?_); rintro e w1 ⟨rfl, hb⟩; have HB := Lib.hid (HB.out.trans (hb.mono HB.out.size)); clear hb)))
                  go_roundw
                  case rel => exact ⟨k + 1, n, _, by omega, by omega, by go_num, rfl, rfl, n0, n7, .inl rfl, HB.out⟩
                  case measure => simp [intOf]; omega
      · have hk2 : (300 : Int) ≤ (k : Int) := by omega
        have hk1 : (k : Int) < (len : Int) := by omega
        clear hxb
        go_wp2
        go_ret
        exact ⟨rfl, HB.out⟩
    · have hk1 : (len : Int) ≤ (k : Int) := by omega
      clear hxb
      go_wp2
      go_ret
      exact ⟨rfl, HB.out⟩
end Go.Proofs.Ytcljilfbmodaiaa.stateLives
