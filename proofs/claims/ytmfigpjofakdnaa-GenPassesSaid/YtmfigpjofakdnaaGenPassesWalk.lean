/- The walk of the law GenPasses: any limits, any generator, any places and speeds: it returns true, and what was in memory is as it was. -/
import Derived.Test.YtmfigpjofakdnaaGAwake
import Derived.Test.YtmfigpjofakdnaaIRow
namespace Go.Proofs.Ytmfigpjofakdnaa.genPasses
open Go.ChangeShapes Go.WideShapes Go.ChangeAt Go.RowKit Go.Proofs.Ytmfigpjofakdnaa.k Go.Proofs.Ytmfigpjofakdnaa.b Go.Proofs.Ytmfigpjofakdnaa.gn Go.Proofs.Ytmfigpjofakdnaa
set_option linter.unusedVariables false

theorem wide {a : Int} (h : (Lit.int .i64 a).wf = true) : Wide a := k.wf64 h
theorem vel_min {u : Int} (h : 1 ≤ u) : vel u = min u 1048576 := by unfold vel clamp; omega
set_option maxRecDepth 100000 in
set_option maxHeartbeats 8000000 in
theorem walk (V A D lo hi : Int) (p v t u s x : Int) (w : World) (u0 : (Lit.int .i64 V).wf = true) (u1 : (Lit.int .i64 A).wf = true) (u2 : (Lit.int .i64 D).wf = true) (u3 : (Lit.int .i64 lo).wf = true) (u4 : (Lit.int .i64 hi).wf = true) (g0 : (Lit.int .i64 p).wf = true) (g1 : (Lit.int .i64 v).wf = true) (g2 : (Lit.int .i64 t).wf = true) (g3 : (Lit.int .i64 u).wf = true) (g4 : (Lit.int .i64 s).wf = true) (g5 : (Lit.int .i64 x).wf = true) :
    Calls Try.prog 7 #[.agg #[.int .i64 V, .int .i64 A, .int .i64 D, .int .i64 lo, .int .i64 hi], .agg #[.int .i64 p, .int .i64 v], .int .i64 t, .int .i64 u, .int .i64 s, .int .i64 x] w fun e w' => e = .returned (.bool true) ∧ Below w.heap.size w w' := by
  have hL : WideL ⟨V, A, D, lo, hi⟩ := ⟨wide u0, wide u1, wide u2, wide u3, wide u4⟩
  have HK := Lib.hid fun W => awake_any W
  have hp := wide g0
  have hv := wide g1
  have ht := wide g2
  have hu := wide g3
  have hs0 := wide g4
  have hx := wide g5
  clear u0 u1 u2 u3 u4 g0 g1 g2 g3 g4 g5
  have hR := fun W => right_any ⟨V, A, D, lo, hi⟩ hL W
  have hS := fun (hr : RightL ⟨V, A, D, lo, hi⟩) W => safe_any ⟨V, A, D, lo, hi⟩ hr p v hp hv W
  dsimp only at hR hS
  by_cases hr : RightL ⟨V, A, D, lo, hi⟩
  · rw [right_yes hr] at hR
    replace hS := hS hr
    have HR := Lib.hid hR
    clear hR
    by_cases hs : SafeP ⟨V, A, D, lo, hi⟩ p v
    · rw [safe_yes hr hs] at hS
      have HS := Lib.hid hS
      have HQ := Lib.hid hs
      clear hS
      have HRR := Lib.hid hr
      obtain ⟨r1, r2, r3, r4, r5, r6, r7, r8, r9⟩ := hr
      have ⟨s1, s2, s3, s4, _⟩ := hs
      dsimp only at r1 r2 r3 r4 r5 r6 r7 r8 r9 s1 s2
      clear hs
      by_cases c0 : v = 0
      · subst c0
        by_cases c1 : t ≤ p
        · go_enter Try.func7, Try.ntmps7
          go_wp2_with (first | (go_at_call 9; ((with_reducible refine (HK.out _).mono ?_); rintro e w2 ⟨rfl, hb⟩; obtain ⟨x1, x2, x3, x4⟩ := _root_.Go.Proofs.Ytmfigpjofakdnaa.k.boxes2 hb; have X2 := Lib.hid x1; have Y2 := Lib.hid x2; have H2 := Lib.hid x3; obtain ⟨lc0, _, lc1, _, lc2, _, lc3, _, lc4, _, _⟩ := x1; obtain ⟨gc0, _, gc1, _, _⟩ := x2; clear hb x3)) | (go_at_call 11; ((with_reducible refine (HR.out _).mono ?_); rintro e w3 ⟨rfl, hb⟩; have X3 := Lib.hid (X2.out.below hb (by omega)); have Y3 := Lib.hid (Y2.out.below hb (by omega)); have H3 := Lib.hid (H2.out.trans (hb.mono H2.out.size)); have z3 : w.heap.size + 1 < w3.heap.size := Nat.lt_of_lt_of_le x4 hb.size; clear lc0 lc1 lc2 lc3 lc4 gc0 gc1; obtain ⟨lc0, _, lc1, _, lc2, _, lc3, _, lc4, _, _⟩ := X3.out; obtain ⟨gc0, _, gc1, _, _⟩ := Y3.out; clear hb)) | (go_at_call 18; ((with_reducible refine (HS.out _).mono ?_); rintro e w4 ⟨rfl, hb⟩; have X4 := Lib.hid (X3.out.below hb (by omega)); have Y4 := Lib.hid (Y3.out.below hb (by omega)); have H4 := Lib.hid (H3.out.trans (hb.mono H3.out.size)); have z4 : w.heap.size + 1 < w4.heap.size := Nat.lt_of_lt_of_le z3 hb.size; clear lc0 lc1 lc2 lc3 lc4 gc0 gc1; obtain ⟨lc0, _, lc1, _, lc2, _, lc3, _, lc4, _, _⟩ := X4.out; obtain ⟨gc0, _, gc1, _, _⟩ := Y4.out; clear hb)))
          go_ret
          exact ⟨rfl, H4.out⟩
        by_cases c2 : s < t
        · go_enter Try.func7, Try.ntmps7
          go_wp2_with (first | (go_at_call 9; ((with_reducible refine (HK.out _).mono ?_); rintro e w2 ⟨rfl, hb⟩; obtain ⟨x1, x2, x3, x4⟩ := _root_.Go.Proofs.Ytmfigpjofakdnaa.k.boxes2 hb; have X2 := Lib.hid x1; have Y2 := Lib.hid x2; have H2 := Lib.hid x3; obtain ⟨lc0, _, lc1, _, lc2, _, lc3, _, lc4, _, _⟩ := x1; obtain ⟨gc0, _, gc1, _, _⟩ := x2; clear hb x3)) | (go_at_call 11; ((with_reducible refine (HR.out _).mono ?_); rintro e w3 ⟨rfl, hb⟩; have X3 := Lib.hid (X2.out.below hb (by omega)); have Y3 := Lib.hid (Y2.out.below hb (by omega)); have H3 := Lib.hid (H2.out.trans (hb.mono H2.out.size)); have z3 : w.heap.size + 1 < w3.heap.size := Nat.lt_of_lt_of_le x4 hb.size; clear lc0 lc1 lc2 lc3 lc4 gc0 gc1; obtain ⟨lc0, _, lc1, _, lc2, _, lc3, _, lc4, _, _⟩ := X3.out; obtain ⟨gc0, _, gc1, _, _⟩ := Y3.out; clear hb)) | (go_at_call 18; ((with_reducible refine (HS.out _).mono ?_); rintro e w4 ⟨rfl, hb⟩; have X4 := Lib.hid (X3.out.below hb (by omega)); have Y4 := Lib.hid (Y3.out.below hb (by omega)); have H4 := Lib.hid (H3.out.trans (hb.mono H3.out.size)); have z4 : w.heap.size + 1 < w4.heap.size := Nat.lt_of_lt_of_le z3 hb.size; clear lc0 lc1 lc2 lc3 lc4 gc0 gc1; obtain ⟨lc0, _, lc1, _, lc2, _, lc3, _, lc4, _, _⟩ := X4.out; obtain ⟨gc0, _, gc1, _, _⟩ := Y4.out; clear hb)))
          go_ret
          exact ⟨rfl, H4.out⟩
        by_cases c3 : hi < s
        · go_enter Try.func7, Try.ntmps7
          go_wp2_with (first | (go_at_call 9; ((with_reducible refine (HK.out _).mono ?_); rintro e w2 ⟨rfl, hb⟩; obtain ⟨x1, x2, x3, x4⟩ := _root_.Go.Proofs.Ytmfigpjofakdnaa.k.boxes2 hb; have X2 := Lib.hid x1; have Y2 := Lib.hid x2; have H2 := Lib.hid x3; obtain ⟨lc0, _, lc1, _, lc2, _, lc3, _, lc4, _, _⟩ := x1; obtain ⟨gc0, _, gc1, _, _⟩ := x2; clear hb x3)) | (go_at_call 11; ((with_reducible refine (HR.out _).mono ?_); rintro e w3 ⟨rfl, hb⟩; have X3 := Lib.hid (X2.out.below hb (by omega)); have Y3 := Lib.hid (Y2.out.below hb (by omega)); have H3 := Lib.hid (H2.out.trans (hb.mono H2.out.size)); have z3 : w.heap.size + 1 < w3.heap.size := Nat.lt_of_lt_of_le x4 hb.size; clear lc0 lc1 lc2 lc3 lc4 gc0 gc1; obtain ⟨lc0, _, lc1, _, lc2, _, lc3, _, lc4, _, _⟩ := X3.out; obtain ⟨gc0, _, gc1, _, _⟩ := Y3.out; clear hb)) | (go_at_call 18; ((with_reducible refine (HS.out _).mono ?_); rintro e w4 ⟨rfl, hb⟩; have X4 := Lib.hid (X3.out.below hb (by omega)); have Y4 := Lib.hid (Y3.out.below hb (by omega)); have H4 := Lib.hid (H3.out.trans (hb.mono H3.out.size)); have z4 : w.heap.size + 1 < w4.heap.size := Nat.lt_of_lt_of_le z3 hb.size; clear lc0 lc1 lc2 lc3 lc4 gc0 gc1; obtain ⟨lc0, _, lc1, _, lc2, _, lc3, _, lc4, _, _⟩ := X4.out; obtain ⟨gc0, _, gc1, _, _⟩ := Y4.out; clear hb)))
          go_ret
          exact ⟨rfl, H4.out⟩
        by_cases c4 : 1500 < t - p
        · go_enter Try.func7, Try.ntmps7
          go_wp2_with (first | (go_at_call 9; ((with_reducible refine (HK.out _).mono ?_); rintro e w2 ⟨rfl, hb⟩; obtain ⟨x1, x2, x3, x4⟩ := _root_.Go.Proofs.Ytmfigpjofakdnaa.k.boxes2 hb; have X2 := Lib.hid x1; have Y2 := Lib.hid x2; have H2 := Lib.hid x3; obtain ⟨lc0, _, lc1, _, lc2, _, lc3, _, lc4, _, _⟩ := x1; obtain ⟨gc0, _, gc1, _, _⟩ := x2; clear hb x3)) | (go_at_call 11; ((with_reducible refine (HR.out _).mono ?_); rintro e w3 ⟨rfl, hb⟩; have X3 := Lib.hid (X2.out.below hb (by omega)); have Y3 := Lib.hid (Y2.out.below hb (by omega)); have H3 := Lib.hid (H2.out.trans (hb.mono H2.out.size)); have z3 : w.heap.size + 1 < w3.heap.size := Nat.lt_of_lt_of_le x4 hb.size; clear lc0 lc1 lc2 lc3 lc4 gc0 gc1; obtain ⟨lc0, _, lc1, _, lc2, _, lc3, _, lc4, _, _⟩ := X3.out; obtain ⟨gc0, _, gc1, _, _⟩ := Y3.out; clear hb)) | (go_at_call 18; ((with_reducible refine (HS.out _).mono ?_); rintro e w4 ⟨rfl, hb⟩; have X4 := Lib.hid (X3.out.below hb (by omega)); have Y4 := Lib.hid (Y3.out.below hb (by omega)); have H4 := Lib.hid (H3.out.trans (hb.mono H3.out.size)); have z4 : w.heap.size + 1 < w4.heap.size := Nat.lt_of_lt_of_le z3 hb.size; clear lc0 lc1 lc2 lc3 lc4 gc0 gc1; obtain ⟨lc0, _, lc1, _, lc2, _, lc3, _, lc4, _, _⟩ := X4.out; obtain ⟨gc0, _, gc1, _, _⟩ := Y4.out; clear hb)))
          go_ret
          exact ⟨rfl, H4.out⟩
        by_cases c5 : u < 1
        · go_enter Try.func7, Try.ntmps7
          go_wp2_with (first | (go_at_call 9; ((with_reducible refine (HK.out _).mono ?_); rintro e w2 ⟨rfl, hb⟩; obtain ⟨x1, x2, x3, x4⟩ := _root_.Go.Proofs.Ytmfigpjofakdnaa.k.boxes2 hb; have X2 := Lib.hid x1; have Y2 := Lib.hid x2; have H2 := Lib.hid x3; obtain ⟨lc0, _, lc1, _, lc2, _, lc3, _, lc4, _, _⟩ := x1; obtain ⟨gc0, _, gc1, _, _⟩ := x2; clear hb x3)) | (go_at_call 11; ((with_reducible refine (HR.out _).mono ?_); rintro e w3 ⟨rfl, hb⟩; have X3 := Lib.hid (X2.out.below hb (by omega)); have Y3 := Lib.hid (Y2.out.below hb (by omega)); have H3 := Lib.hid (H2.out.trans (hb.mono H2.out.size)); have z3 : w.heap.size + 1 < w3.heap.size := Nat.lt_of_lt_of_le x4 hb.size; clear lc0 lc1 lc2 lc3 lc4 gc0 gc1; obtain ⟨lc0, _, lc1, _, lc2, _, lc3, _, lc4, _, _⟩ := X3.out; obtain ⟨gc0, _, gc1, _, _⟩ := Y3.out; clear hb)) | (go_at_call 18; ((with_reducible refine (HS.out _).mono ?_); rintro e w4 ⟨rfl, hb⟩; have X4 := Lib.hid (X3.out.below hb (by omega)); have Y4 := Lib.hid (Y3.out.below hb (by omega)); have H4 := Lib.hid (H3.out.trans (hb.mono H3.out.size)); have z4 : w.heap.size + 1 < w4.heap.size := Nat.lt_of_lt_of_le z3 hb.size; clear lc0 lc1 lc2 lc3 lc4 gc0 gc1; obtain ⟨lc0, _, lc1, _, lc2, _, lc3, _, lc4, _, _⟩ := X4.out; obtain ⟨gc0, _, gc1, _, _⟩ := Y4.out; clear hb)))
          go_ret
          exact ⟨rfl, H4.out⟩
        by_cases c6 : x < 1
        · go_enter Try.func7, Try.ntmps7
          go_wp2_with (first | (go_at_call 9; ((with_reducible refine (HK.out _).mono ?_); rintro e w2 ⟨rfl, hb⟩; obtain ⟨x1, x2, x3, x4⟩ := _root_.Go.Proofs.Ytmfigpjofakdnaa.k.boxes2 hb; have X2 := Lib.hid x1; have Y2 := Lib.hid x2; have H2 := Lib.hid x3; obtain ⟨lc0, _, lc1, _, lc2, _, lc3, _, lc4, _, _⟩ := x1; obtain ⟨gc0, _, gc1, _, _⟩ := x2; clear hb x3)) | (go_at_call 11; ((with_reducible refine (HR.out _).mono ?_); rintro e w3 ⟨rfl, hb⟩; have X3 := Lib.hid (X2.out.below hb (by omega)); have Y3 := Lib.hid (Y2.out.below hb (by omega)); have H3 := Lib.hid (H2.out.trans (hb.mono H2.out.size)); have z3 : w.heap.size + 1 < w3.heap.size := Nat.lt_of_lt_of_le x4 hb.size; clear lc0 lc1 lc2 lc3 lc4 gc0 gc1; obtain ⟨lc0, _, lc1, _, lc2, _, lc3, _, lc4, _, _⟩ := X3.out; obtain ⟨gc0, _, gc1, _, _⟩ := Y3.out; clear hb)) | (go_at_call 18; ((with_reducible refine (HS.out _).mono ?_); rintro e w4 ⟨rfl, hb⟩; have X4 := Lib.hid (X3.out.below hb (by omega)); have Y4 := Lib.hid (Y3.out.below hb (by omega)); have H4 := Lib.hid (H3.out.trans (hb.mono H3.out.size)); have z4 : w.heap.size + 1 < w4.heap.size := Nat.lt_of_lt_of_le z3 hb.size; clear lc0 lc1 lc2 lc3 lc4 gc0 gc1; obtain ⟨lc0, _, lc1, _, lc2, _, lc3, _, lc4, _, _⟩ := X4.out; obtain ⟨gc0, _, gc1, _, _⟩ := Y4.out; clear hb)))
          go_ret
          exact ⟨rfl, H4.out⟩
        have e1 : p < t := by omega
        have e2 : t ≤ s := by omega
        have e3 : s ≤ hi := by omega
        have e4 : t - p ≤ 1500 := by omega
        have e5 : 1 ≤ u := by omega
        have e6 : 1 ≤ x := by omega
        have f1 : decide (t ≤ p) = false := decide_eq_false c1
        have f3 : decide (hi < s) = false := decide_eq_false c3
        have f2 : decide (s < t) = false := decide_eq_false c2
        clear c1 c2 c3 c4 c5 c6
        have hvu := vel_min e5
        have hvu1 : 1 ≤ vel u := vel_one e5
        have hP : Passes ⟨V, A, D, lo, hi⟩ t (vel u) s p 0 := ⟨HQ.out, Int.le_refl 0, by rw [slow_zero r5]; omega, fun _ => by rw [slow_end r5 (by omega)]; omega, fun h => by omega⟩
        have HP := Lib.hid hP
        have HVU := Lib.hid hvu
        have HVU1 := Lib.hid hvu1
        clear hP hvu hvu1
        go_enter Try.func7, Try.ntmps7
        go_wp2_with (first | (go_at_call 9; ((with_reducible refine (HK.out _).mono ?_); rintro e w2 ⟨rfl, hb⟩; obtain ⟨x1, x2, x3, x4⟩ := _root_.Go.Proofs.Ytmfigpjofakdnaa.k.boxes2 hb; have X2 := Lib.hid x1; have Y2 := Lib.hid x2; have H2 := Lib.hid x3; obtain ⟨lc0, _, lc1, _, lc2, _, lc3, _, lc4, _, _⟩ := x1; obtain ⟨gc0, _, gc1, _, _⟩ := x2; clear hb x3)) | (go_at_call 11; ((with_reducible refine (HR.out _).mono ?_); rintro e w3 ⟨rfl, hb⟩; have X3 := Lib.hid (X2.out.below hb (by omega)); have Y3 := Lib.hid (Y2.out.below hb (by omega)); have H3 := Lib.hid (H2.out.trans (hb.mono H2.out.size)); have z3 : w.heap.size + 1 < w3.heap.size := Nat.lt_of_lt_of_le x4 hb.size; clear lc0 lc1 lc2 lc3 lc4 gc0 gc1; obtain ⟨lc0, _, lc1, _, lc2, _, lc3, _, lc4, _, _⟩ := X3.out; obtain ⟨gc0, _, gc1, _, _⟩ := Y3.out; clear hb)) | (go_at_call 18; ((with_reducible refine (HS.out _).mono ?_); rintro e w4 ⟨rfl, hb⟩; have X4 := Lib.hid (X3.out.below hb (by omega)); have Y4 := Lib.hid (Y3.out.below hb (by omega)); have H4 := Lib.hid (H3.out.trans (hb.mono H3.out.size)); have z4 : w.heap.size + 1 < w4.heap.size := Nat.lt_of_lt_of_le z3 hb.size; clear lc0 lc1 lc2 lc3 lc4 gc0 gc1; obtain ⟨lc0, _, lc1, _, lc2, _, lc3, _, lc4, _, _⟩ := X4.out; obtain ⟨gc0, _, gc1, _, _⟩ := Y4.out; clear hb)))
        go_loopw [13] (fun i wr => ∃ (q p' v : Int), i = .int .i64 q ∧ 0 ≤ q ∧ q ≤ 2000 ∧ p + q ≤ p' ∧ (q ≤ 1500 ∨ t ≤ p') ∧ Passes ⟨V, A, D, lo, hi⟩ t (vel u) s p' v ∧ _root_.Go.Proofs.Ytmfigpjofakdnaa.k.Box wr w.heap.size 0 [.int .i64 V, .int .i64 A, .int .i64 D, .int .i64 lo, .int .i64 hi] ∧ _root_.Go.Proofs.Ytmfigpjofakdnaa.k.Box wr (w.heap.size + 1) 0 [.int .i64 p', .int .i64 v] ∧ Below w.heap.size w wr ∧ w.heap.size + 1 < wr.heap.size) (fun i _ => (3000 - intOf i).toNat)
        case atStart => exact ⟨0, p, 0, rfl, by omega, by omega, by omega, .inl (by omega), HP.out, X4.out, Y4.out, H4.out, z4⟩
        case round =>
          obtain ⟨q, p', v', rfl, q0, q4, hpq, hq15, hPP, y1, y2, y3, y4⟩ := hrel
          clear X2 Y2 H2 X3 Y3 H3 X4 Y4 H4 HQ HS HR HK HP lc0 lc1 lc2 lc3 lc4 gc0 gc1 hp hv
          have X := Lib.hid y1
          have Y := Lib.hid y2
          have H := Lib.hid y3
          clear y1 y2 y3
          obtain ⟨gc0, gf0, gc1, gf1, _⟩ := Y.out
          obtain ⟨lc0, _, lc1, _, lc2, _, lc3, _, lc4, _, _⟩ := X.out
          have hsP := hPP.safe
          have ⟨m1, m2, m3, m4, _⟩ := hsP
          have m5 := hPP.up
          dsimp only at m1 m2
          by_cases hlt : p' < t
          · have hq5 : q ≤ 1500 := by omega
            have hq6 : q < 3000 := by omega
            obtain ⟨n0, n1, n2, n3⟩ := passes_step HRR.out HVU1.out hPP hlt e2 e3 e6
            have hby := fun W => by_ok ⟨V, A, D, lo, hi⟩ HRR.out p' v' hsP t u s x ht hu hs0 hx W
            have hbi := by_in HRR.out (v := v') (t := t) (u := u) (s := s) (x := x) hsP.1 hsP.2.1
            obtain ⟨z, hz⟩ : ∃ z, byV ⟨V, A, D, lo, hi⟩ p' v' t u s x = z := ⟨_, rfl⟩
            rw [hz] at hby hbi n0 n1 n2 n3
            have hst := fun W => step_ok ⟨V, A, D, lo, hi⟩ HRR.out p' v' hsP z (by unfold Wide; omega) W
            obtain ⟨y, hy⟩ : ∃ y, stepV ⟨V, A, D, lo, hi⟩ p' v' z = y := ⟨_, rfl⟩
            rw [hy] at hst n0 n1 n2 n3
            dsimp only at hby hst
            rw [HVU.out] at n3
            have k1 := n0.safe.2.2.2.1
            have k2 := n0.safe.2.1
            dsimp only at k2
            have HN0 := Lib.hid n0
            have HN3 := Lib.hid n3
            have HT := Lib.hid hby
            have HST := Lib.hid hst
            clear hby hbi hst hz hy n0 n3 hPP hsP
            go_upto_region 8 with (fail)
            clear gc0 gf0 gc1 gf1 lc0 lc1 lc2 lc3 lc4
            go_cut [14] from 63 to 112 (fun q8 wx => ∃ gx : Nat, q8 = .pointer (some ⟨gx, 0, none⟩) ∧ _root_.Go.Proofs.Ytmfigpjofakdnaa.k.Box wx gx 0 [.int .i64 (p' + y), .int .i64 y] ∧ _root_.Go.Proofs.Ytmfigpjofakdnaa.k.Box wx w.heap.size 0 [.int .i64 V, .int .i64 A, .int .i64 D, .int .i64 lo, .int .i64 hi] ∧ _root_.Go.Proofs.Ytmfigpjofakdnaa.k.Box wx (w.heap.size + 1) 0 [.int .i64 p', .int .i64 v'] ∧ Below w.heap.size w wx ∧ (w.heap.size + 1) < gx ∧ gx < wx.heap.size)
            case first =>
              refine wp_region_held_drew (S := (fun w' => World.rangeAt w' w.heap.size 0 [.int .i64 V, .int .i64 A, .int .i64 D, .int .i64 lo, .int .i64 hi] ∧ World.rangeAt w' (w.heap.size + 1) 0 [.int .i64 p', .int .i64 v'])) (by kernel_rfl) ⟨X.out.range, Y.out.range⟩ (fun hHeld => ?_)
              refine wpAnyH_take (i := 0) rfl (by kernel_rfl) (by kernel_rfl) (by kernel_rfl) (fun _ _ _ h => h) (yieldsIf_load_mid (by rfl) 23 (.tmp 6) rfl w.heap.size 0 rfl [.int .i64 V, .int .i64 A, .int .i64 D, .int .i64 lo, .int .i64 hi] _ (fun _ h => h.1) rfl rfl (by kernel_rfl)) (by assumption) ?_
              try simp only [Act.put, List.setIfInBounds_toArray, List.set_cons_zero, List.set_cons_succ, List.getElem_toArray, List.getElem_cons_zero]
              refine wpAnyH_take (i := 1) rfl (by kernel_rfl) (by kernel_rfl) (by kernel_rfl) (fun _ _ _ h => h) (yieldsIf_load_mid (by rfl) 25 (.tmp 7) rfl (w.heap.size + 1) 0 rfl [.int .i64 p', .int .i64 v'] _ (fun _ h => h.2) rfl rfl (by kernel_rfl)) (by assumption) ?_
              try simp only [Act.put, List.setIfInBounds_toArray, List.set_cons_zero, List.set_cons_succ, List.getElem_toArray, List.getElem_cons_succ, List.getElem_cons_zero]
              refine wpAnyH_take (i := 2) rfl (by kernel_rfl) (by kernel_rfl) (by kernel_rfl) (fun _ _ _ h => h) (yieldsIf_load_mid (by rfl) 23 (.tmp 6) rfl w.heap.size 0 rfl [.int .i64 V, .int .i64 A, .int .i64 D, .int .i64 lo, .int .i64 hi] _ (fun _ h => h.1) rfl rfl (by kernel_rfl)) (by assumption) ?_
              try simp only [Act.put, List.setIfInBounds_toArray, List.set_cons_zero, List.set_cons_succ, List.getElem_toArray, List.getElem_cons_succ, List.getElem_cons_zero]
              refine wpAnyH_take (i := 3) rfl (by kernel_rfl) (by kernel_rfl) (by kernel_rfl) (fun _ _ _ h => h) (yieldsIf_load_mid (by rfl) 25 (.tmp 7) rfl (w.heap.size + 1) 0 rfl [.int .i64 p', .int .i64 v'] _ (fun _ h => h.2) rfl rfl (by kernel_rfl)) (by assumption) ?_
              try simp only [Act.put, List.setIfInBounds_toArray, List.set_cons_zero, List.set_cons_succ, List.getElem_toArray, List.getElem_cons_succ, List.getElem_cons_zero]
              refine wpAnyH_take (i := 4) (v := ?_) rfl (by kernel_rfl) (by kernel_rfl) (by kernel_rfl) (fun _ _ _ h => h) (Or.inl ⟨by rfl, ?_⟩) (by assumption) ?_
              rotate_left 1
              · intro w hSw; clear hSw; go_simp <;> (with_reducible rfl)
              try simp only [Act.put, List.setIfInBounds_toArray, List.set_cons_zero, List.set_cons_succ, List.getElem_toArray, List.getElem_cons_succ, List.getElem_cons_zero]
              refine wpAnyH_take (i := 5) (v := ?_) rfl (by kernel_rfl) (by kernel_rfl) (by kernel_rfl) (fun _ _ _ h => h) (Or.inl ⟨by rfl, ?_⟩) (by assumption) ?_
              rotate_left 1
              · intro w hSw; clear hSw; go_simp <;> (with_reducible rfl)
              try simp only [Act.put, List.setIfInBounds_toArray, List.set_cons_zero, List.set_cons_succ, List.getElem_toArray, List.getElem_cons_succ, List.getElem_cons_zero]
              refine wpAnyH_take (i := 6) (v := ?_) rfl (by kernel_rfl) (by kernel_rfl) (by kernel_rfl) (fun _ _ _ h => h) (Or.inl ⟨by rfl, ?_⟩) (by assumption) ?_
              rotate_left 1
              · intro w hSw; clear hSw; go_simp <;> (with_reducible rfl)
              try simp only [Act.put, List.setIfInBounds_toArray, List.set_cons_zero, List.set_cons_succ, List.getElem_toArray, List.getElem_cons_succ, List.getElem_cons_zero]
              refine wpAnyH_take (i := 7) (v := ?_) rfl (by kernel_rfl) (by kernel_rfl) (by kernel_rfl) (fun _ _ _ h => h) (Or.inl ⟨by rfl, ?_⟩) (by assumption) ?_
              rotate_left 1
              · intro w hSw; clear hSw; go_simp <;> (with_reducible rfl)
              try simp only [Act.put, List.setIfInBounds_toArray, List.set_cons_zero, List.set_cons_succ, List.getElem_toArray, List.getElem_cons_succ, List.getElem_cons_zero]
              refine wpAnyH_ready (rs := [8, 10]) (by kernel_rfl) (by simp) ?_
              refine AllReadyH.cons rfl (fun K hK => ?_) (AllReadyH.cons rfl (fun K hK => ?_) AllReadyH.nil)
              · go_simp
                (go_at_call 17; (refine (HT.out _).mono ?_); rintro e w5 ⟨rfl, hb0⟩)
                have hb : Below wr.heap.size wr w5 := ((Below.refl _ _).drew).trans hb0
                have A1 := Lib.hid (X.out.below hb (by omega))
                have A2 := Lib.hid (Y.out.below hb (by omega))
                have A4 := Lib.hid (H.out.trans (hb.mono H.out.size))
                have a5 : (w.heap.size + 1) < w5.heap.size := Nat.lt_of_lt_of_le y4 hb.size
                clear hb
                clear hb0
                go_wp2_with fail
                refine hK.out _ _ ⟨A1.out.range, A2.out.range⟩ (fun hHeld => ?_)
                clear hK K
                try simp only [Act.put, List.setIfInBounds_toArray, List.set_cons_zero, List.set_cons_succ, List.getElem_toArray, List.getElem_cons_succ, List.getElem_cons_zero]
                refine wpAnyH_ready (rs := [9, 10]) (by kernel_rfl) (by simp) ?_
                refine AllReadyH.cons rfl (fun K hK => ?_) (AllReadyH.cons rfl (fun K hK => ?_) AllReadyH.nil)
                · go_simp
                  (go_at_call 15; (refine (HST.out _).mono ?_); rintro e w6 ⟨rfl, hb⟩)
                  have B1 := A1.out.below hb (by omega)
                  have B2 := A2.out.below hb (by omega)
                  have B4 := A4.out.trans (hb.mono (by omega))
                  have b5 : (w.heap.size + 1) < w6.heap.size := Nat.lt_of_lt_of_le a5 hb.size
                  clear hb
                  go_wp2_with fail
                  refine hK.out _ _ ⟨B1.range, B2.range⟩ (fun hHeld => ?_)
                  clear hK K
                  try simp only [Act.put, List.setIfInBounds_toArray, List.set_cons_zero, List.set_cons_succ, List.getElem_toArray, List.getElem_cons_succ, List.getElem_cons_zero]
                  refine wpAnyH_ready (rs := [10]) (by kernel_rfl) (by simp) ?_
                  refine AllReadyH.cons rfl (fun K hK => ?_) AllReadyH.nil
                  go_simp
                  have ha : Below w6.heap.size w6 (w6.alloc (.cells #[.int .i64 0, .int .i64 0] 25)) := (Below.refl _ _).alloc (Nat.le_refl _) _
                  have C1 := B1.below ha (by omega)
                  have C2 := B2.below ha (by omega)
                  have C4 := B4.trans (ha.mono (by omega))
                  refine hK.out _ _ ⟨C1.range, C2.range⟩ (fun hHeld => ?_)
                  have n6 := _root_.Go.Proofs.Ytmfigpjofakdnaa.k.Box.new w6 #[.int .i64 0, .int .i64 0] 25
                  have z6 : w6.heap.size < (w6.alloc (.cells #[.int .i64 0, .int .i64 0] 25)).heap.size := by simp
                  clear B1 B2 B4
                  have B1 := C1
                  have B2 := C2
                  have B4 := C4
                  clear C1 C2 C4
                  generalize w6.alloc (.cells #[.int .i64 0, .int .i64 0] 25) = w7 at B1 B2 B4 n6 z6 ⊢
                  have z7 : (w.heap.size + 1) < w6.heap.size := b5
                  generalize w6.heap.size = gx at n6 z6 z7 ⊢
                  clear hK K ha
                  try simp only [Act.put, List.setIfInBounds_toArray, List.set_cons_zero, List.set_cons_succ, List.getElem_toArray, List.getElem_cons_succ, List.getElem_cons_zero]
                  refine wpAnyH_ready (rs := [11]) (by kernel_rfl) (by simp) ?_
                  refine AllReadyH.cons rfl (fun K hK => ?_) AllReadyH.nil
                  rw [if_pos (by rfl)]
                  obtain ⟨W, hW, h1, h2, h3, h5⟩ := _root_.Go.Proofs.Ytmfigpjofakdnaa.k.stored (us := [.int .i64 (p' + y), .int .i64 y]) n6 rfl
                  refine wp_store_mid 25 (.tmp 14) (.tmp 82) rfl gx 0 #[.int .i64 (p' + y), .int .i64 y] rfl rfl (_root_.Go.Proofs.Ytmfigpjofakdnaa.k.there_of n6 rfl) (by kernel_rfl) (by simp [Value.oneCell']) ?_
                  change K _ (World.setCells _ _ _ [.int .i64 (p' + y), .int .i64 y])
                  rw [hW]
                  have bW := h3 gx (Nat.le_refl _)
                  have X7 := B1.below bW (by omega)
                  have Y7 := B2.below bW (by omega)
                  have H7 := B4.trans (h3 _ (by omega))
                  refine hK.out _ _ ⟨X7.range, Y7.range⟩ (fun hHeld => ?_)
                  have z8 : gx < W.heap.size := by omega
                  clear hK K hW h2 h3 h5
                  try simp only [Act.put, List.getElem_toArray, List.getElem_cons_succ, List.getElem_cons_zero]
                  refine wpAnyH_done (by kernel_rfl) ?_ _
                  go_wp2_with fail
                  go_meet
                  case rel => exact ⟨gx, rfl, h1, X7, Y7, H7, z7, z8⟩
                · go_simp
                  have ha : Below w5.heap.size w5 (w5.alloc (.cells #[.int .i64 0, .int .i64 0] 25)) := (Below.refl _ _).alloc (Nat.le_refl _) _
                  have C1 := A1.out.below ha (by omega)
                  have C2 := A2.out.below ha (by omega)
                  have C4 := A4.out.trans (ha.mono A4.out.size)
                  refine hK.out _ _ ⟨C1.range, C2.range⟩ (fun hHeld => ?_)
                  have n5 := _root_.Go.Proofs.Ytmfigpjofakdnaa.k.Box.new w5 #[.int .i64 0, .int .i64 0] 25
                  have z6 : w5.heap.size < (w5.alloc (.cells #[.int .i64 0, .int .i64 0] 25)).heap.size := by simp
                  generalize w5.alloc (.cells #[.int .i64 0, .int .i64 0] 25) = w7 at C1 C2 C4 n5 z6 ⊢
                  have z7 : (w.heap.size + 1) < w5.heap.size := a5
                  generalize w5.heap.size = gx at n5 z6 z7 ⊢
                  have c5 : (w.heap.size + 1) < w7.heap.size := by omega
                  have hs7 : w.heap.size ≤ w7.heap.size := C4.size
                  clear hK K ha
                  try simp only [Act.put, List.setIfInBounds_toArray, List.set_cons_zero, List.set_cons_succ, List.getElem_toArray, List.getElem_cons_succ, List.getElem_cons_zero]
                  refine wpAnyH_ready (rs := [9]) (by kernel_rfl) (by simp) ?_
                  refine AllReadyH.cons rfl (fun K hK => ?_) AllReadyH.nil
                  go_simp
                  (go_at_call 15; (refine (HST.out _).mono ?_); rintro e w6 ⟨rfl, hb⟩)
                  have B1 := C1.below hb (by omega)
                  have B2 := C2.below hb (by omega)
                  have B4 := C4.trans (hb.mono (by omega))
                  have b5 : (w.heap.size + 1) < w6.heap.size := Nat.lt_of_lt_of_le c5 hb.size
                  have n6 := n5.below hb z6
                  have z9 := Nat.lt_of_lt_of_le z6 hb.size
                  clear hb
                  go_wp2_with fail
                  refine hK.out _ _ ⟨B1.range, B2.range⟩ (fun hHeld => ?_)
                  clear hK K
                  try simp only [Act.put, List.setIfInBounds_toArray, List.set_cons_zero, List.set_cons_succ, List.getElem_toArray, List.getElem_cons_succ, List.getElem_cons_zero]
                  refine wpAnyH_ready (rs := [11]) (by kernel_rfl) (by simp) ?_
                  refine AllReadyH.cons rfl (fun K hK => ?_) AllReadyH.nil
                  rw [if_pos (by rfl)]
                  obtain ⟨W, hW, h1, h2, h3, h5⟩ := _root_.Go.Proofs.Ytmfigpjofakdnaa.k.stored (us := [.int .i64 (p' + y), .int .i64 y]) n6 rfl
                  refine wp_store_mid 25 (.tmp 14) (.tmp 82) rfl gx 0 #[.int .i64 (p' + y), .int .i64 y] rfl rfl (_root_.Go.Proofs.Ytmfigpjofakdnaa.k.there_of n6 rfl) (by kernel_rfl) (by simp [Value.oneCell']) ?_
                  change K _ (World.setCells _ _ _ [.int .i64 (p' + y), .int .i64 y])
                  rw [hW]
                  have bW := h3 gx (Nat.le_refl _)
                  have X7 := B1.below bW (by omega)
                  have Y7 := B2.below bW (by omega)
                  have H7 := B4.trans (h3 _ (by omega))
                  refine hK.out _ _ ⟨X7.range, Y7.range⟩ (fun hHeld => ?_)
                  have z8 : gx < W.heap.size := by omega
                  clear hK K hW h2 h3 h5
                  try simp only [Act.put, List.getElem_toArray, List.getElem_cons_succ, List.getElem_cons_zero]
                  refine wpAnyH_done (by kernel_rfl) ?_ _
                  go_wp2_with fail
                  go_meet
                  case rel => exact ⟨gx, rfl, h1, X7, Y7, H7, z7, z8⟩
              · go_simp
                have ha : Below wr.heap.size wr ((wr.alloc (.cells #[.int .i64 0, .int .i64 0] 25)).drew) := ((Below.refl _ _).alloc (Nat.le_refl _) _).drew
                refine hK.out _ _ ⟨(X.out.below ha (by omega)).range, (Y.out.below ha (by omega)).range⟩ (fun hHeld => ?_)
                clear hK K
                try simp only [Act.put, List.setIfInBounds_toArray, List.set_cons_zero, List.set_cons_succ, List.getElem_toArray, List.getElem_cons_succ, List.getElem_cons_zero]
                refine wpAnyH_ready (rs := [8]) (by kernel_rfl) (by simp) ?_
                refine AllReadyH.cons rfl (fun K hK => ?_) AllReadyH.nil
                go_simp
                (go_at_call 17; (refine (HT.out _).mono ?_); rintro e w5 ⟨rfl, hb0⟩)
                have hb : Below wr.heap.size wr w5 := ha.trans (hb0.mono ha.size)
                have A1 := Lib.hid (X.out.below hb (by omega))
                have A2 := Lib.hid (Y.out.below hb (by omega))
                have A4 := Lib.hid (H.out.trans (hb.mono H.out.size))
                have a5 : (w.heap.size + 1) < w5.heap.size := Nat.lt_of_lt_of_le y4 hb.size
                have n5 : _root_.Go.Proofs.Ytmfigpjofakdnaa.k.Box w5 wr.heap.size 0 [.int .i64 0, .int .i64 0] := (_root_.Go.Proofs.Ytmfigpjofakdnaa.k.Box.new wr #[.int .i64 0, .int .i64 0] 25).below ((Below.refl _ _).drew.trans hb0) (by simp)
                have z6 : wr.heap.size < w5.heap.size := by have := hb0.size; simp at this; omega
                have z7 : (w.heap.size + 1) < wr.heap.size := y4
                clear hb0 ha
                obtain ⟨gx, hgx⟩ : ∃ gx, wr.heap.size = gx := ⟨_, rfl⟩
                rw [hgx] at n5 z6 z7 ⊢
                clear hgx
                go_wp2_with fail
                refine hK.out _ _ ⟨A1.out.range, A2.out.range⟩ (fun hHeld => ?_)
                clear hK K
                try simp only [Act.put, List.setIfInBounds_toArray, List.set_cons_zero, List.set_cons_succ, List.getElem_toArray, List.getElem_cons_succ, List.getElem_cons_zero]
                refine wpAnyH_ready (rs := [9]) (by kernel_rfl) (by simp) ?_
                refine AllReadyH.cons rfl (fun K hK => ?_) AllReadyH.nil
                go_simp
                (go_at_call 15; (refine (HST.out _).mono ?_); rintro e w6 ⟨rfl, hb⟩)
                have B1 := A1.out.below hb (by omega)
                have B2 := A2.out.below hb (by omega)
                have B4 := A4.out.trans (hb.mono (by omega))
                have b5 : (w.heap.size + 1) < w6.heap.size := Nat.lt_of_lt_of_le a5 hb.size
                have n6 := n5.below hb z6
                have z9 := Nat.lt_of_lt_of_le z6 hb.size
                clear hb
                go_wp2_with fail
                refine hK.out _ _ ⟨B1.range, B2.range⟩ (fun hHeld => ?_)
                clear hK K
                try simp only [Act.put, List.setIfInBounds_toArray, List.set_cons_zero, List.set_cons_succ, List.getElem_toArray, List.getElem_cons_succ, List.getElem_cons_zero]
                refine wpAnyH_ready (rs := [11]) (by kernel_rfl) (by simp) ?_
                refine AllReadyH.cons rfl (fun K hK => ?_) AllReadyH.nil
                rw [if_pos (by rfl)]
                obtain ⟨W, hW, h1, h2, h3, h5⟩ := _root_.Go.Proofs.Ytmfigpjofakdnaa.k.stored (us := [.int .i64 (p' + y), .int .i64 y]) n6 rfl
                refine wp_store_mid 25 (.tmp 14) (.tmp 82) rfl gx 0 #[.int .i64 (p' + y), .int .i64 y] rfl rfl (_root_.Go.Proofs.Ytmfigpjofakdnaa.k.there_of n6 rfl) (by kernel_rfl) (by simp [Value.oneCell']) ?_
                change K _ (World.setCells _ _ _ [.int .i64 (p' + y), .int .i64 y])
                rw [hW]
                have bW := h3 gx (Nat.le_refl _)
                have X7 := B1.below bW (by omega)
                have Y7 := B2.below bW (by omega)
                have H7 := B4.trans (h3 _ (by omega))
                refine hK.out _ _ ⟨X7.range, Y7.range⟩ (fun hHeld => ?_)
                have z8 : gx < W.heap.size := by omega
                clear hK K hW h2 h3 h5
                try simp only [Act.put, List.getElem_toArray, List.getElem_cons_succ, List.getElem_cons_zero]
                refine wpAnyH_done (by kernel_rfl) ?_ _
                go_wp2_with fail
                go_meet
                case rel => exact ⟨gx, rfl, h1, X7, Y7, H7, z7, z8⟩
            case rest =>
              obtain ⟨gx, rfl, j1, j2, j3, j4, j5, j6⟩ := hcut
              have X9 := Lib.hid j2
              have Y9 := Lib.hid j3
              have H9 := Lib.hid j4
              obtain ⟨lc0, _, lc1, _, lc2, _, lc3, _, lc4, _, _⟩ := j2
              obtain ⟨gc0, gf0, gc1, gf1, _⟩ := j3
              obtain ⟨nc0, _, nc1, _, _⟩ := j1
              clear j4 X Y H
              have d1 : decide (p' + y ≤ p') = false := decide_eq_false (by omega)
              have d1b : decide (y ≤ 0) = false := decide_eq_false (by omega)
              have d2 : decide (s < p' + y) = false := decide_eq_false (by omega)
              by_cases hge : t ≤ p' + y
              · have d3 : decide (max (min u 1048576) (t - p') < y) = false := decide_eq_false (by have := HN3.out hge; omega)
                go_wp2
                go_roundw
                case rel => exact ⟨q + 1, p' + y, y, rfl, by omega, by omega, by omega, .inr hge, HN0.out, _root_.Go.Proofs.Ytmfigpjofakdnaa.k.Box_aside (by omega) _ (_root_.Go.Proofs.Ytmfigpjofakdnaa.k.Box_aside (by omega) _ X9.out), (Y9.out.put 0 (by simp) _).put 1 (by simp) _, ((H9.out).setCell (by simp) _).setCell (by simp) _, by simp; omega⟩
                case measure => simp [intOf]; omega
              · have d3 : decide (t ≤ p' + y) = false := decide_eq_false hge
                go_wp2
                go_roundw
                case rel => exact ⟨q + 1, p' + y, y, rfl, by omega, by omega, by omega, .inl (by omega), HN0.out, _root_.Go.Proofs.Ytmfigpjofakdnaa.k.Box_aside (by omega) _ (_root_.Go.Proofs.Ytmfigpjofakdnaa.k.Box_aside (by omega) _ X9.out), (Y9.out.put 0 (by simp) _).put 1 (by simp) _, ((H9.out).setCell (by simp) _).setCell (by simp) _, by simp; omega⟩
                case measure => simp [intOf]; omega
          · have hd := hPP.done (by omega)
            rw [HVU.out] at hd
            dsimp only at hd
            have d1 : decide (v' - D ≤ min u 1048576) = true := decide_eq_true hd
            have d2 : decide (p' < t) = false := decide_eq_false hlt
            have d3 : t ≤ p' := by omega
            have hq6 : q < 3000 := by omega
            clear hPP hsP
            go_wp2
            go_ret
            exact ⟨rfl, H.out⟩
      · have c0b : (v != 0) = true := by simpa using c0
        go_enter Try.func7, Try.ntmps7
        go_wp2_with (first | (go_at_call 9; ((with_reducible refine (HK.out _).mono ?_); rintro e w2 ⟨rfl, hb⟩; obtain ⟨x1, x2, x3, x4⟩ := _root_.Go.Proofs.Ytmfigpjofakdnaa.k.boxes2 hb; have X2 := Lib.hid x1; have Y2 := Lib.hid x2; have H2 := Lib.hid x3; obtain ⟨lc0, _, lc1, _, lc2, _, lc3, _, lc4, _, _⟩ := x1; obtain ⟨gc0, _, gc1, _, _⟩ := x2; clear hb x3)) | (go_at_call 11; ((with_reducible refine (HR.out _).mono ?_); rintro e w3 ⟨rfl, hb⟩; have X3 := Lib.hid (X2.out.below hb (by omega)); have Y3 := Lib.hid (Y2.out.below hb (by omega)); have H3 := Lib.hid (H2.out.trans (hb.mono H2.out.size)); have z3 : w.heap.size + 1 < w3.heap.size := Nat.lt_of_lt_of_le x4 hb.size; clear lc0 lc1 lc2 lc3 lc4 gc0 gc1; obtain ⟨lc0, _, lc1, _, lc2, _, lc3, _, lc4, _, _⟩ := X3.out; obtain ⟨gc0, _, gc1, _, _⟩ := Y3.out; clear hb)) | (go_at_call 18; ((with_reducible refine (HS.out _).mono ?_); rintro e w4 ⟨rfl, hb⟩; have X4 := Lib.hid (X3.out.below hb (by omega)); have Y4 := Lib.hid (Y3.out.below hb (by omega)); have H4 := Lib.hid (H3.out.trans (hb.mono H3.out.size)); have z4 : w.heap.size + 1 < w4.heap.size := Nat.lt_of_lt_of_le z3 hb.size; clear lc0 lc1 lc2 lc3 lc4 gc0 gc1; obtain ⟨lc0, _, lc1, _, lc2, _, lc3, _, lc4, _, _⟩ := X4.out; obtain ⟨gc0, _, gc1, _, _⟩ := Y4.out; clear hb)))
        go_ret
        exact ⟨rfl, H4.out⟩
    · rw [safe_no (fun h => hs h.2)] at hS
      have HS := Lib.hid hS
      clear hS hs hr
      go_enter Try.func7, Try.ntmps7
      go_wp2_with (first | (go_at_call 9; ((with_reducible refine (HK.out _).mono ?_); rintro e w2 ⟨rfl, hb⟩; obtain ⟨x1, x2, x3, x4⟩ := _root_.Go.Proofs.Ytmfigpjofakdnaa.k.boxes2 hb; have X2 := Lib.hid x1; have Y2 := Lib.hid x2; have H2 := Lib.hid x3; obtain ⟨lc0, _, lc1, _, lc2, _, lc3, _, lc4, _, _⟩ := x1; obtain ⟨gc0, _, gc1, _, _⟩ := x2; clear hb x3)) | (go_at_call 11; ((with_reducible refine (HR.out _).mono ?_); rintro e w3 ⟨rfl, hb⟩; have X3 := Lib.hid (X2.out.below hb (by omega)); have Y3 := Lib.hid (Y2.out.below hb (by omega)); have H3 := Lib.hid (H2.out.trans (hb.mono H2.out.size)); have z3 : w.heap.size + 1 < w3.heap.size := Nat.lt_of_lt_of_le x4 hb.size; clear lc0 lc1 lc2 lc3 lc4 gc0 gc1; obtain ⟨lc0, _, lc1, _, lc2, _, lc3, _, lc4, _, _⟩ := X3.out; obtain ⟨gc0, _, gc1, _, _⟩ := Y3.out; clear hb)) | (go_at_call 18; ((with_reducible refine (HS.out _).mono ?_); rintro e w4 ⟨rfl, hb⟩; have X4 := Lib.hid (X3.out.below hb (by omega)); have Y4 := Lib.hid (Y3.out.below hb (by omega)); have H4 := Lib.hid (H3.out.trans (hb.mono H3.out.size)); have z4 : w.heap.size + 1 < w4.heap.size := Nat.lt_of_lt_of_le z3 hb.size; clear lc0 lc1 lc2 lc3 lc4 gc0 gc1; clear hb)))
      go_ret
      exact ⟨rfl, H4.out⟩
  · rw [right_no hr] at hR
    have HR := Lib.hid hR
    clear hR hS hr
    go_enter Try.func7, Try.ntmps7
    go_wp2_with (first | (go_at_call 9; ((with_reducible refine (HK.out _).mono ?_); rintro e w2 ⟨rfl, hb⟩; obtain ⟨x1, x2, x3, x4⟩ := _root_.Go.Proofs.Ytmfigpjofakdnaa.k.boxes2 hb; have X2 := Lib.hid x1; have Y2 := Lib.hid x2; have H2 := Lib.hid x3; obtain ⟨lc0, _, lc1, _, lc2, _, lc3, _, lc4, _, _⟩ := x1; obtain ⟨gc0, _, gc1, _, _⟩ := x2; clear hb x3)) | (go_at_call 11; ((with_reducible refine (HR.out _).mono ?_); rintro e w3 ⟨rfl, hb⟩; have X3 := Lib.hid (X2.out.below hb (by omega)); have Y3 := Lib.hid (Y2.out.below hb (by omega)); have H3 := Lib.hid (H2.out.trans (hb.mono H2.out.size)); have z3 : w.heap.size + 1 < w3.heap.size := Nat.lt_of_lt_of_le x4 hb.size; clear lc0 lc1 lc2 lc3 lc4 gc0 gc1; obtain ⟨lc0, _, lc1, _, lc2, _, lc3, _, lc4, _, _⟩ := X3.out; obtain ⟨gc0, _, gc1, _, _⟩ := Y3.out; clear hb)))
    go_ret
    exact ⟨rfl, H3.out⟩
end Go.Proofs.Ytmfigpjofakdnaa.genPasses
