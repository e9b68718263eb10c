/- The walk of the law StateShut: any state, whatever happens: it returns true, and what was in memory is as it was. -/
import Derived.Test.YtcljilfbmodaiaaEdAwake
namespace Go.Proofs.Ytcljilfbmodaiaa.stateShut
open Go.ChangeShapes Go.WideShapes Go.ChangeAt Go.RowKit Go.Proofs.Ytcljilfbmodaiaa.k Go.Proofs.Ytcljilfbmodaiaa.ed Go.Proofs.Ytcljilfbmodaiaa
set_option linter.unusedVariables false

set_option maxHeartbeats 2000000 in
theorem walk (s ev : Int) (w : World) (h0 : (Lit.int .i64 s).wf = true) (h1 : (Lit.int .i64 ev).wf = true) :
    Calls Try.prog 4 #[.int .i64 s, .int .i64 ev] w fun e w' => e = .returned (.bool true) ∧ Below w.heap.size w w' := by
  clear h0 h1
  have HK := Lib.hid fun W => awake_any W
  have HB := Lib.hid (Below.refl w.heap.size w)
  have HN := Lib.hid fun W => next_any s ev W
  have HT := Lib.hid fun W => takes_any s W
  by_cases hs : 0 ≤ s ∧ s ≤ 7
  · obtain ⟨f1, f2, f3, f4, f5⟩ := shut' (ev := ev) hs.1 hs.2
    obtain ⟨t0, t7⟩ := hs
    generalize nxS s ev = n at *
    generalize nxB s ev = ok at *
    generalize tkB s = tk at *
    obtain ⟨n0, n7⟩ := f1
    by_cases hs7 : s = 7
    · by_cases hn7 : n = 7
      · subst hs7
        first | subst hn7 | skip
        by_cases g5 : 5 ≤ ev
        · by_cases g7 : ev ≤ 7
          · have q11 : (ev == 11) = false := by rw [beq_eq_false_iff_ne]; omega
            have hk := f4 ⟨g5, g7⟩
            subst hk
            clear f3 f4 f5
            cases ok
            · have hn := f2 rfl
              first | subst hn | skip
              clear f2
              go_enter Try.func4, Try.ntmps4
              go_wp2_with (first | (go_at_call 6; ((with_reducible refine (HK.out _).mono ?_); rintro e w1 ⟨rfl, hb⟩; have HB := Lib.hid (HB.out.trans (hb.mono HB.out.size)); clear hb)) | (go_at_call 7; ((with_reducible refine (HN.out _).mono ?_); rintro e w1 ⟨rfl, hb⟩; have HB := Lib.hid (HB.out.trans (hb.mono HB.out.size)); clear hb)) | (go_at_call 10; ((with_reducible refine (HT.out _).mono ?_); rintro e w1 ⟨rfl, hb⟩; have HB := Lib.hid (HB.out.trans (hb.mono HB.out.size)); clear hb)))
              go_ret
              exact ⟨rfl, HB.out⟩
            · clear f2
              go_enter Try.func4, Try.ntmps4
              go_wp2_with (first | (go_at_call 6; ((with_reducible refine (HK.out _).mono ?_); rintro e w1 ⟨rfl, hb⟩; have HB := Lib.hid (HB.out.trans (hb.mono HB.out.size)); clear hb)) | (go_at_call 7; ((with_reducible refine (HN.out _).mono ?_); rintro e w1 ⟨rfl, hb⟩; have HB := Lib.hid (HB.out.trans (hb.mono HB.out.size)); clear hb)) | (go_at_call 10; ((with_reducible refine (HT.out _).mono ?_); rintro e w1 ⟨rfl, hb⟩; have HB := Lib.hid (HB.out.trans (hb.mono HB.out.size)); clear hb)))
              go_ret
              exact ⟨rfl, HB.out⟩
          · by_cases g11 : ev = 11
            · obtain ⟨rfl, h7⟩ := f5 g11
              first | subst h7 | skip
              subst g11
              clear f2 f3 f4 f5 g5 g7
              go_enter Try.func4, Try.ntmps4
              go_wp2_with (first | (go_at_call 6; ((with_reducible refine (HK.out _).mono ?_); rintro e w1 ⟨rfl, hb⟩; have HB := Lib.hid (HB.out.trans (hb.mono HB.out.size)); clear hb)) | (go_at_call 7; ((with_reducible refine (HN.out _).mono ?_); rintro e w1 ⟨rfl, hb⟩; have HB := Lib.hid (HB.out.trans (hb.mono HB.out.size)); clear hb)) | (go_at_call 10; ((with_reducible refine (HT.out _).mono ?_); rintro e w1 ⟨rfl, hb⟩; have HB := Lib.hid (HB.out.trans (hb.mono HB.out.size)); clear hb)))
              go_ret
              exact ⟨rfl, HB.out⟩
            · have q11 : (ev == 11) = false := by rw [beq_eq_false_iff_ne]; exact g11
              clear f3 f4 f5
              cases ok
              · have hn := f2 rfl
                first | subst hn | skip
                clear f2
                go_enter Try.func4, Try.ntmps4
                go_wp2_with (first | (go_at_call 6; ((with_reducible refine (HK.out _).mono ?_); rintro e w1 ⟨rfl, hb⟩; have HB := Lib.hid (HB.out.trans (hb.mono HB.out.size)); clear hb)) | (go_at_call 7; ((with_reducible refine (HN.out _).mono ?_); rintro e w1 ⟨rfl, hb⟩; have HB := Lib.hid (HB.out.trans (hb.mono HB.out.size)); clear hb)) | (go_at_call 10; ((with_reducible refine (HT.out _).mono ?_); rintro e w1 ⟨rfl, hb⟩; have HB := Lib.hid (HB.out.trans (hb.mono HB.out.size)); clear hb)))
                go_ret
                exact ⟨rfl, HB.out⟩
              · clear f2
                go_enter Try.func4, Try.ntmps4
                go_wp2_with (first | (go_at_call 6; ((with_reducible refine (HK.out _).mono ?_); rintro e w1 ⟨rfl, hb⟩; have HB := Lib.hid (HB.out.trans (hb.mono HB.out.size)); clear hb)) | (go_at_call 7; ((with_reducible refine (HN.out _).mono ?_); rintro e w1 ⟨rfl, hb⟩; have HB := Lib.hid (HB.out.trans (hb.mono HB.out.size)); clear hb)) | (go_at_call 10; ((with_reducible refine (HT.out _).mono ?_); rintro e w1 ⟨rfl, hb⟩; have HB := Lib.hid (HB.out.trans (hb.mono HB.out.size)); clear hb)))
                go_ret
                exact ⟨rfl, HB.out⟩
        · have q11 : (ev == 11) = false := by rw [beq_eq_false_iff_ne]; omega
          clear f3 f4 f5
          cases ok
          · have hn := f2 rfl
            first | subst hn | skip
            clear f2
            go_enter Try.func4, Try.ntmps4
            go_wp2_with (first | (go_at_call 6; ((with_reducible refine (HK.out _).mono ?_); rintro e w1 ⟨rfl, hb⟩; have HB := Lib.hid (HB.out.trans (hb.mono HB.out.size)); clear hb)) | (go_at_call 7; ((with_reducible refine (HN.out _).mono ?_); rintro e w1 ⟨rfl, hb⟩; have HB := Lib.hid (HB.out.trans (hb.mono HB.out.size)); clear hb)) | (go_at_call 10; ((with_reducible refine (HT.out _).mono ?_); rintro e w1 ⟨rfl, hb⟩; have HB := Lib.hid (HB.out.trans (hb.mono HB.out.size)); clear hb)))
            go_ret
            exact ⟨rfl, HB.out⟩
          · clear f2
            go_enter Try.func4, Try.ntmps4
            go_wp2_with (first | (go_at_call 6; ((with_reducible refine (HK.out _).mono ?_); rintro e w1 ⟨rfl, hb⟩; have HB := Lib.hid (HB.out.trans (hb.mono HB.out.size)); clear hb)) | (go_at_call 7; ((with_reducible refine (HN.out _).mono ?_); rintro e w1 ⟨rfl, hb⟩; have HB := Lib.hid (HB.out.trans (hb.mono HB.out.size)); clear hb)) | (go_at_call 10; ((with_reducible refine (HT.out _).mono ?_); rintro e w1 ⟨rfl, hb⟩; have HB := Lib.hid (HB.out.trans (hb.mono HB.out.size)); clear hb)))
            go_ret
            exact ⟨rfl, HB.out⟩
      · have qn : (n != 7) = true := by rw [bne_iff_ne]; exact hn7
        have q7 : (n == 7) = false := by rw [beq_eq_false_iff_ne]; exact hn7
        have hok : ok = true := by cases ok; exact absurd ((f2 rfl).trans hs7) hn7; rfl
        by_cases g12 : ev = 12
        · subst g12
          first | subst hs7 | skip
          first | subst hok | skip
          clear f2 f3 f4 f5 hn7
          go_enter Try.func4, Try.ntmps4
          go_wp2_with (first | (go_at_call 6; ((with_reducible refine (HK.out _).mono ?_); rintro e w1 ⟨rfl, hb⟩; have HB := Lib.hid (HB.out.trans (hb.mono HB.out.size)); clear hb)) | (go_at_call 7; ((with_reducible refine (HN.out _).mono ?_); rintro e w1 ⟨rfl, hb⟩; have HB := Lib.hid (HB.out.trans (hb.mono HB.out.size)); clear hb)) | (go_at_call 10; ((with_reducible refine (HT.out _).mono ?_); rintro e w1 ⟨rfl, hb⟩; have HB := Lib.hid (HB.out.trans (hb.mono HB.out.size)); clear hb)))
          go_ret
          exact ⟨rfl, HB.out⟩
        · have q12 : (ev != 12) = true := by rw [bne_iff_ne]; exact g12
          have g2 : ev = 2 := by rcases f3 hs7 with h | h | h; exact absurd h hn7; exact absurd h g12; exact h
          subst g2
          first | subst hs7 | skip
          first | subst hok | skip
          clear f2 f3 f4 f5 hn7 g12
          go_enter Try.func4, Try.ntmps4
          go_wp2_with (first | (go_at_call 6; ((with_reducible refine (HK.out _).mono ?_); rintro e w1 ⟨rfl, hb⟩; have HB := Lib.hid (HB.out.trans (hb.mono HB.out.size)); clear hb)) | (go_at_call 7; ((with_reducible refine (HN.out _).mono ?_); rintro e w1 ⟨rfl, hb⟩; have HB := Lib.hid (HB.out.trans (hb.mono HB.out.size)); clear hb)) | (go_at_call 10; ((with_reducible refine (HT.out _).mono ?_); rintro e w1 ⟨rfl, hb⟩; have HB := Lib.hid (HB.out.trans (hb.mono HB.out.size)); clear hb)))
          go_ret
          exact ⟨rfl, HB.out⟩
    · have qs : (s == 7) = false := by rw [beq_eq_false_iff_ne]; exact hs7
      by_cases g5 : 5 ≤ ev
      · by_cases g7 : ev ≤ 7
        · have q11 : (ev == 11) = false := by rw [beq_eq_false_iff_ne]; omega
          have hk := f4 ⟨g5, g7⟩
          subst hk
          clear f3 f4 f5
          cases ok
          · have hn := f2 rfl
            first | subst hn | skip
            clear f2
            go_enter Try.func4, Try.ntmps4
            go_wp2_with (first | (go_at_call 6; ((with_reducible refine (HK.out _).mono ?_); rintro e w1 ⟨rfl, hb⟩; have HB := Lib.hid (HB.out.trans (hb.mono HB.out.size)); clear hb)) | (go_at_call 7; ((with_reducible refine (HN.out _).mono ?_); rintro e w1 ⟨rfl, hb⟩; have HB := Lib.hid (HB.out.trans (hb.mono HB.out.size)); clear hb)) | (go_at_call 10; ((with_reducible refine (HT.out _).mono ?_); rintro e w1 ⟨rfl, hb⟩; have HB := Lib.hid (HB.out.trans (hb.mono HB.out.size)); clear hb)))
            go_ret
            exact ⟨rfl, HB.out⟩
          · clear f2
            go_enter Try.func4, Try.ntmps4
            go_wp2_with (first | (go_at_call 6; ((with_reducible refine (HK.out _).mono ?_); rintro e w1 ⟨rfl, hb⟩; have HB := Lib.hid (HB.out.trans (hb.mono HB.out.size)); clear hb)) | (go_at_call 7; ((with_reducible refine (HN.out _).mono ?_); rintro e w1 ⟨rfl, hb⟩; have HB := Lib.hid (HB.out.trans (hb.mono HB.out.size)); clear hb)) | (go_at_call 10; ((with_reducible refine (HT.out _).mono ?_); rintro e w1 ⟨rfl, hb⟩; have HB := Lib.hid (HB.out.trans (hb.mono HB.out.size)); clear hb)))
            go_ret
            exact ⟨rfl, HB.out⟩
        · by_cases g11 : ev = 11
          · obtain ⟨rfl, h7⟩ := f5 g11
            first | subst h7 | skip
            subst g11
            clear f2 f3 f4 f5 g5 g7
            go_enter Try.func4, Try.ntmps4
            go_wp2_with (first | (go_at_call 6; ((with_reducible refine (HK.out _).mono ?_); rintro e w1 ⟨rfl, hb⟩; have HB := Lib.hid (HB.out.trans (hb.mono HB.out.size)); clear hb)) | (go_at_call 7; ((with_reducible refine (HN.out _).mono ?_); rintro e w1 ⟨rfl, hb⟩; have HB := Lib.hid (HB.out.trans (hb.mono HB.out.size)); clear hb)) | (go_at_call 10; ((with_reducible refine (HT.out _).mono ?_); rintro e w1 ⟨rfl, hb⟩; have HB := Lib.hid (HB.out.trans (hb.mono HB.out.size)); clear hb)))
            go_ret
            exact ⟨rfl, HB.out⟩
          · have q11 : (ev == 11) = false := by rw [beq_eq_false_iff_ne]; exact g11
            clear f3 f4 f5
            cases ok
            · have hn := f2 rfl
              first | subst hn | skip
              clear f2
              go_enter Try.func4, Try.ntmps4
              go_wp2_with (first | (go_at_call 6; ((with_reducible refine (HK.out _).mono ?_); rintro e w1 ⟨rfl, hb⟩; have HB := Lib.hid (HB.out.trans (hb.mono HB.out.size)); clear hb)) | (go_at_call 7; ((with_reducible refine (HN.out _).mono ?_); rintro e w1 ⟨rfl, hb⟩; have HB := Lib.hid (HB.out.trans (hb.mono HB.out.size)); clear hb)) | (go_at_call 10; ((with_reducible refine (HT.out _).mono ?_); rintro e w1 ⟨rfl, hb⟩; have HB := Lib.hid (HB.out.trans (hb.mono HB.out.size)); clear hb)))
              go_ret
              exact ⟨rfl, HB.out⟩
            · clear f2
              go_enter Try.func4, Try.ntmps4
              go_wp2_with (first | (go_at_call 6; ((with_reducible refine (HK.out _).mono ?_); rintro e w1 ⟨rfl, hb⟩; have HB := Lib.hid (HB.out.trans (hb.mono HB.out.size)); clear hb)) | (go_at_call 7; ((with_reducible refine (HN.out _).mono ?_); rintro e w1 ⟨rfl, hb⟩; have HB := Lib.hid (HB.out.trans (hb.mono HB.out.size)); clear hb)) | (go_at_call 10; ((with_reducible refine (HT.out _).mono ?_); rintro e w1 ⟨rfl, hb⟩; have HB := Lib.hid (HB.out.trans (hb.mono HB.out.size)); clear hb)))
              go_ret
              exact ⟨rfl, HB.out⟩
      · have q11 : (ev == 11) = false := by rw [beq_eq_false_iff_ne]; omega
        clear f3 f4 f5
        cases ok
        · have hn := f2 rfl
          first | subst hn | skip
          clear f2
          go_enter Try.func4, Try.ntmps4
          go_wp2_with (first | (go_at_call 6; ((with_reducible refine (HK.out _).mono ?_); rintro e w1 ⟨rfl, hb⟩; have HB := Lib.hid (HB.out.trans (hb.mono HB.out.size)); clear hb)) | (go_at_call 7; ((with_reducible refine (HN.out _).mono ?_); rintro e w1 ⟨rfl, hb⟩; have HB := Lib.hid (HB.out.trans (hb.mono HB.out.size)); clear hb)) | (go_at_call 10; ((with_reducible refine (HT.out _).mono ?_); rintro e w1 ⟨rfl, hb⟩; have HB := Lib.hid (HB.out.trans (hb.mono HB.out.size)); clear hb)))
          go_ret
          exact ⟨rfl, HB.out⟩
        · clear f2
          go_enter Try.func4, Try.ntmps4
          go_wp2_with (first | (go_at_call 6; ((with_reducible refine (HK.out _).mono ?_); rintro e w1 ⟨rfl, hb⟩; have HB := Lib.hid (HB.out.trans (hb.mono HB.out.size)); clear hb)) | (go_at_call 7; ((with_reducible refine (HN.out _).mono ?_); rintro e w1 ⟨rfl, hb⟩; have HB := Lib.hid (HB.out.trans (hb.mono HB.out.size)); clear hb)) | (go_at_call 10; ((with_reducible refine (HT.out _).mono ?_); rintro e w1 ⟨rfl, hb⟩; have HB := Lib.hid (HB.out.trans (hb.mono HB.out.size)); clear hb)))
          go_ret
          exact ⟨rfl, HB.out⟩
  · have e := out_of (s := s) (ev := ev) fun h => hs ⟨h.1, h.2.1⟩
    rw [e.1, e.2] at HN
    clear e HT
    by_cases g0 : s < 0
    · clear hs
      go_enter Try.func4, Try.ntmps4
      go_wp2_with (first | (go_at_call 6; ((with_reducible refine (HK.out _).mono ?_); rintro e w1 ⟨rfl, hb⟩; have HB := Lib.hid (HB.out.trans (hb.mono HB.out.size)); clear hb)) | (go_at_call 7; ((with_reducible refine (HN.out _).mono ?_); rintro e w1 ⟨rfl, hb⟩; have HB := Lib.hid (HB.out.trans (hb.mono HB.out.size)); clear hb)))
      go_ret
      exact ⟨rfl, HB.out⟩
    · have g7 : 7 < s := by omega
      clear hs
      go_enter Try.func4, Try.ntmps4
      go_wp2_with (first | (go_at_call 6; ((with_reducible refine (HK.out _).mono ?_); rintro e w1 ⟨rfl, hb⟩; have HB := Lib.hid (HB.out.trans (hb.mono HB.out.size)); clear hb)) | (go_at_call 7; ((with_reducible refine (HN.out _).mono ?_); rintro e w1 ⟨rfl, hb⟩; have HB := Lib.hid (HB.out.trans (hb.mono HB.out.size)); clear hb)))
      go_ret
      exact ⟨rfl, HB.out⟩
end Go.Proofs.Ytcljilfbmodaiaa.stateShut
