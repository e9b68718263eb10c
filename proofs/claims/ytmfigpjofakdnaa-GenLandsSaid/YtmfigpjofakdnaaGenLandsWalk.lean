/- The walk of the law GenLands: any limits, any generator, any place and speed: it returns true, and what was in memory is as it was. -/
import Derived.Test.YtmfigpjofakdnaaGAwake
import Derived.Test.YtmfigpjofakdnaaIRow
namespace Go.Proofs.Ytmfigpjofakdnaa.genLands
open Go.ChangeShapes Go.WideShapes Go.ChangeAt Go.RowKit Go.Proofs.Ytmfigpjofakdnaa.k Go.Proofs.Ytmfigpjofakdnaa.b Go.Proofs.Ytmfigpjofakdnaa.gn Go.Proofs.Ytmfigpjofakdnaa
set_option linter.unusedVariables false

theorem wide {a : Int} (h : (Lit.int .i64 a).wf = true) : Wide a := k.wf64 h
set_option maxRecDepth 100000 in
set_option maxHeartbeats 8000000 in
theorem walk (V A D lo hi : Int) (p v t x : Int) (w : World) (u0 : (Lit.int .i64 V).wf = true) (u1 : (Lit.int .i64 A).wf = true) (u2 : (Lit.int .i64 D).wf = true) (u3 : (Lit.int .i64 lo).wf = true) (u4 : (Lit.int .i64 hi).wf = true) (g0 : (Lit.int .i64 p).wf = true) (g1 : (Lit.int .i64 v).wf = true) (g2 : (Lit.int .i64 t).wf = true) (g3 : (Lit.int .i64 x).wf = true) :
    Calls Try.prog 6 #[.agg #[.int .i64 V, .int .i64 A, .int .i64 D, .int .i64 lo, .int .i64 hi], .agg #[.int .i64 p, .int .i64 v], .int .i64 t, .int .i64 x] w fun e w' => e = .returned (.bool true) ∧ Below w.heap.size w w' := by
  have hL : WideL ⟨V, A, D, lo, hi⟩ := ⟨wide u0, wide u1, wide u2, wide u3, wide u4⟩
  have HK := Lib.hid fun W => awake_any W
  have hp := wide g0
  have hv := wide g1
  have ht := wide g2
  have hx := wide g3
  clear u0 u1 u2 u3 u4 g0 g1 g2 g3
  have hR := fun W => right_any ⟨V, A, D, lo, hi⟩ hL W
  have hS := fun (hr : RightL ⟨V, A, D, lo, hi⟩) W => safe_any ⟨V, A, D, lo, hi⟩ hr p v hp hv W
  dsimp only at hR hS
  by_cases hr : RightL ⟨V, A, D, lo, hi⟩
  · rw [right_yes hr] at hR
    replace hS := hS hr
    have HR := Lib.hid hR
    clear hR
    by_cases hs : SafeP ⟨V, A, D, lo, hi⟩ p v
    · rw [safe_yes hr hs] at hS
      have HS := Lib.hid hS
      have HQ := Lib.hid hs
      clear hS
      have HRR := Lib.hid hr
      obtain ⟨r1, r2, r3, r4, r5, r6, r7, r8, r9⟩ := hr
      have ⟨s1, s2, s3, s4, _⟩ := hs
      dsimp only at r1 r2 r3 r4 r5 r6 r7 r8 r9 s1 s2
      clear hs
      by_cases t1 : x < 1
      · go_enter Try.func6, Try.ntmps6
        go_wp2_with (first | (go_at_call 9; ((with_reducible refine (HK.out _).mono ?_); rintro e w2 ⟨rfl, hb⟩; obtain ⟨x1, x2, x3, x4⟩ := _root_.Go.Proofs.Ytmfigpjofakdnaa.k.boxes2 hb; have X2 := Lib.hid x1; have Y2 := Lib.hid x2; have H2 := Lib.hid x3; obtain ⟨lc0, _, lc1, _, lc2, _, lc3, _, lc4, _, _⟩ := x1; obtain ⟨gc0, _, gc1, _, _⟩ := x2; clear hb x3)) | (go_at_call 11; ((with_reducible refine (HR.out _).mono ?_); rintro e w3 ⟨rfl, hb⟩; have X3 := Lib.hid (X2.out.below hb (by omega)); have Y3 := Lib.hid (Y2.out.below hb (by omega)); have H3 := Lib.hid (H2.out.trans (hb.mono H2.out.size)); have z3 : w.heap.size + 1 < w3.heap.size := Nat.lt_of_lt_of_le x4 hb.size; clear lc0 lc1 lc2 lc3 lc4 gc0 gc1; obtain ⟨lc0, _, lc1, _, lc2, _, lc3, _, lc4, _, _⟩ := X3.out; obtain ⟨gc0, _, gc1, _, _⟩ := Y3.out; clear hb)) | (go_at_call 18; ((with_reducible refine (HS.out _).mono ?_); rintro e w4 ⟨rfl, hb⟩; have X4 := Lib.hid (X3.out.below hb (by omega)); have Y4 := Lib.hid (Y3.out.below hb (by omega)); have H4 := Lib.hid (H3.out.trans (hb.mono H3.out.size)); have z4 : w.heap.size + 1 < w4.heap.size := Nat.lt_of_lt_of_le z3 hb.size; clear lc0 lc1 lc2 lc3 lc4 gc0 gc1; obtain ⟨lc0, _, lc1, _, lc2, _, lc3, _, lc4, _, _⟩ := X4.out; obtain ⟨gc0, _, gc1, _, _⟩ := Y4.out; clear hb)) | (go_at_call 24; ((with_reducible refine (HW.out _).mono ?_); rintro e w5 ⟨rfl, hb⟩; have X5 := Lib.hid (X4.out.below hb (by omega)); have Y5 := Lib.hid (Y4.out.below hb (by omega)); have H5 := Lib.hid (H4.out.trans (hb.mono H4.out.size)); have z5 : w.heap.size + 1 < w5.heap.size := Nat.lt_of_lt_of_le z4 hb.size; clear lc0 lc1 lc2 lc3 lc4 gc0 gc1; obtain ⟨lc0, _, lc1, _, lc2, _, lc3, _, lc4, _, _⟩ := X5.out; obtain ⟨gc0, _, gc1, _, _⟩ := Y5.out; clear hb)) | (go_at_call 23; ((with_reducible refine (HC.out _).mono ?_); rintro e w6 ⟨rfl, hb⟩; have X6 := Lib.hid (X5.out.below hb (by omega)); have Y6 := Lib.hid (Y5.out.below hb (by omega)); have H6 := Lib.hid (H5.out.trans (hb.mono H5.out.size)); have z6 : w.heap.size + 1 < w6.heap.size := Nat.lt_of_lt_of_le z5 hb.size; clear lc0 lc1 lc2 lc3 lc4 gc0 gc1; obtain ⟨lc0, _, lc1, _, lc2, _, lc3, _, lc4, _, _⟩ := X6.out; obtain ⟨gc0, _, gc1, _, _⟩ := Y6.out; clear hb)))
        go_ret
        exact ⟨rfl, H4.out⟩
      by_cases t2 : t < lo
      · go_enter Try.func6, Try.ntmps6
        go_wp2_with (first | (go_at_call 9; ((with_reducible refine (HK.out _).mono ?_); rintro e w2 ⟨rfl, hb⟩; obtain ⟨x1, x2, x3, x4⟩ := _root_.Go.Proofs.Ytmfigpjofakdnaa.k.boxes2 hb; have X2 := Lib.hid x1; have Y2 := Lib.hid x2; have H2 := Lib.hid x3; obtain ⟨lc0, _, lc1, _, lc2, _, lc3, _, lc4, _, _⟩ := x1; obtain ⟨gc0, _, gc1, _, _⟩ := x2; clear hb x3)) | (go_at_call 11; ((with_reducible refine (HR.out _).mono ?_); rintro e w3 ⟨rfl, hb⟩; have X3 := Lib.hid (X2.out.below hb (by omega)); have Y3 := Lib.hid (Y2.out.below hb (by omega)); have H3 := Lib.hid (H2.out.trans (hb.mono H2.out.size)); have z3 : w.heap.size + 1 < w3.heap.size := Nat.lt_of_lt_of_le x4 hb.size; clear lc0 lc1 lc2 lc3 lc4 gc0 gc1; obtain ⟨lc0, _, lc1, _, lc2, _, lc3, _, lc4, _, _⟩ := X3.out; obtain ⟨gc0, _, gc1, _, _⟩ := Y3.out; clear hb)) | (go_at_call 18; ((with_reducible refine (HS.out _).mono ?_); rintro e w4 ⟨rfl, hb⟩; have X4 := Lib.hid (X3.out.below hb (by omega)); have Y4 := Lib.hid (Y3.out.below hb (by omega)); have H4 := Lib.hid (H3.out.trans (hb.mono H3.out.size)); have z4 : w.heap.size + 1 < w4.heap.size := Nat.lt_of_lt_of_le z3 hb.size; clear lc0 lc1 lc2 lc3 lc4 gc0 gc1; obtain ⟨lc0, _, lc1, _, lc2, _, lc3, _, lc4, _, _⟩ := X4.out; obtain ⟨gc0, _, gc1, _, _⟩ := Y4.out; clear hb)) | (go_at_call 24; ((with_reducible refine (HW.out _).mono ?_); rintro e w5 ⟨rfl, hb⟩; have X5 := Lib.hid (X4.out.below hb (by omega)); have Y5 := Lib.hid (Y4.out.below hb (by omega)); have H5 := Lib.hid (H4.out.trans (hb.mono H4.out.size)); have z5 : w.heap.size + 1 < w5.heap.size := Nat.lt_of_lt_of_le z4 hb.size; clear lc0 lc1 lc2 lc3 lc4 gc0 gc1; obtain ⟨lc0, _, lc1, _, lc2, _, lc3, _, lc4, _, _⟩ := X5.out; obtain ⟨gc0, _, gc1, _, _⟩ := Y5.out; clear hb)) | (go_at_call 23; ((with_reducible refine (HC.out _).mono ?_); rintro e w6 ⟨rfl, hb⟩; have X6 := Lib.hid (X5.out.below hb (by omega)); have Y6 := Lib.hid (Y5.out.below hb (by omega)); have H6 := Lib.hid (H5.out.trans (hb.mono H5.out.size)); have z6 : w.heap.size + 1 < w6.heap.size := Nat.lt_of_lt_of_le z5 hb.size; clear lc0 lc1 lc2 lc3 lc4 gc0 gc1; obtain ⟨lc0, _, lc1, _, lc2, _, lc3, _, lc4, _, _⟩ := X6.out; obtain ⟨gc0, _, gc1, _, _⟩ := Y6.out; clear hb)))
        go_ret
        exact ⟨rfl, H4.out⟩
      by_cases t3 : hi < t
      · go_enter Try.func6, Try.ntmps6
        go_wp2_with (first | (go_at_call 9; ((with_reducible refine (HK.out _).mono ?_); rintro e w2 ⟨rfl, hb⟩; obtain ⟨x1, x2, x3, x4⟩ := _root_.Go.Proofs.Ytmfigpjofakdnaa.k.boxes2 hb; have X2 := Lib.hid x1; have Y2 := Lib.hid x2; have H2 := Lib.hid x3; obtain ⟨lc0, _, lc1, _, lc2, _, lc3, _, lc4, _, _⟩ := x1; obtain ⟨gc0, _, gc1, _, _⟩ := x2; clear hb x3)) | (go_at_call 11; ((with_reducible refine (HR.out _).mono ?_); rintro e w3 ⟨rfl, hb⟩; have X3 := Lib.hid (X2.out.below hb (by omega)); have Y3 := Lib.hid (Y2.out.below hb (by omega)); have H3 := Lib.hid (H2.out.trans (hb.mono H2.out.size)); have z3 : w.heap.size + 1 < w3.heap.size := Nat.lt_of_lt_of_le x4 hb.size; clear lc0 lc1 lc2 lc3 lc4 gc0 gc1; obtain ⟨lc0, _, lc1, _, lc2, _, lc3, _, lc4, _, _⟩ := X3.out; obtain ⟨gc0, _, gc1, _, _⟩ := Y3.out; clear hb)) | (go_at_call 18; ((with_reducible refine (HS.out _).mono ?_); rintro e w4 ⟨rfl, hb⟩; have X4 := Lib.hid (X3.out.below hb (by omega)); have Y4 := Lib.hid (Y3.out.below hb (by omega)); have H4 := Lib.hid (H3.out.trans (hb.mono H3.out.size)); have z4 : w.heap.size + 1 < w4.heap.size := Nat.lt_of_lt_of_le z3 hb.size; clear lc0 lc1 lc2 lc3 lc4 gc0 gc1; obtain ⟨lc0, _, lc1, _, lc2, _, lc3, _, lc4, _, _⟩ := X4.out; obtain ⟨gc0, _, gc1, _, _⟩ := Y4.out; clear hb)) | (go_at_call 24; ((with_reducible refine (HW.out _).mono ?_); rintro e w5 ⟨rfl, hb⟩; have X5 := Lib.hid (X4.out.below hb (by omega)); have Y5 := Lib.hid (Y4.out.below hb (by omega)); have H5 := Lib.hid (H4.out.trans (hb.mono H4.out.size)); have z5 : w.heap.size + 1 < w5.heap.size := Nat.lt_of_lt_of_le z4 hb.size; clear lc0 lc1 lc2 lc3 lc4 gc0 gc1; obtain ⟨lc0, _, lc1, _, lc2, _, lc3, _, lc4, _, _⟩ := X5.out; obtain ⟨gc0, _, gc1, _, _⟩ := Y5.out; clear hb)) | (go_at_call 23; ((with_reducible refine (HC.out _).mono ?_); rintro e w6 ⟨rfl, hb⟩; have X6 := Lib.hid (X5.out.below hb (by omega)); have Y6 := Lib.hid (Y5.out.below hb (by omega)); have H6 := Lib.hid (H5.out.trans (hb.mono H5.out.size)); have z6 : w.heap.size + 1 < w6.heap.size := Nat.lt_of_lt_of_le z5 hb.size; clear lc0 lc1 lc2 lc3 lc4 gc0 gc1; obtain ⟨lc0, _, lc1, _, lc2, _, lc3, _, lc4, _, _⟩ := X6.out; obtain ⟨gc0, _, gc1, _, _⟩ := Y6.out; clear hb)))
        go_ret
        exact ⟨rfl, H4.out⟩
      have t1' : 1 ≤ x := by omega
      have t2' : lo ≤ t := by omega
      have t3' : t ≤ hi := by omega
      have d3 : decide (hi < t) = false := decide_eq_false t3
      clear t1 t2 t3
      have hu0 : 0 ≤ max v (-v) := by omega
      have hu1 : max v (-v) ≤ 1048576 := by omega
      have hc := fun W => b.cycles_any (max v (-v)) D W
      have hw := fun W => b.way_any (max v (-v)) D W
      rw [vel_of hu0 hu1, show los D = D from by unfold los clamp; omega] at hc hw
      have hcb := cyc_le (x := max v (-v)) r5 hu0 hu1
      have hcp := cyc_pos (x := max v (-v)) r5 hu0
      have hsl := slow_le (u := 0) (d := D) (by omega) r5 hu0 hu1
      have hsp := slow_pos (v := max v (-v)) (u := 0) (by omega) r5
      have hM := (MM_in HRR.out (t := t) (p := p) (v := v)).2.2
      change MM _ _ _ _ ≤ cyc (max v (-v)) D + 2 + 2 * max (t - p) (p - t) + slow (max v (-v)) 0 D at hM
      obtain ⟨N, eN⟩ : ∃ N, cyc (max v (-v)) D = N := ⟨_, rfl⟩
      rw [eN] at hc hM hcb hcp
      obtain ⟨Y, eY⟩ : ∃ Y, slow (max v (-v)) 0 D = Y := ⟨_, rfl⟩
      rw [eY] at hw hM hsl hsp
      have hF0 : 0 ≤ max (t - p) (p - t) := by omega
      have hF1 : max (t - p) (p - t) ≤ 2199023255552 := by omega
      have HC := Lib.hid hc
      have HW := Lib.hid hw
      have HM := Lib.hid hM
      clear hc hw hM eN eY
      by_cases b1 : 1000 < max (t - p) (p - t)
      · go_enter Try.func6, Try.ntmps6
        go_wp2_with (first | (go_at_call 9; ((with_reducible refine (HK.out _).mono ?_); rintro e w2 ⟨rfl, hb⟩; obtain ⟨x1, x2, x3, x4⟩ := _root_.Go.Proofs.Ytmfigpjofakdnaa.k.boxes2 hb; have X2 := Lib.hid x1; have Y2 := Lib.hid x2; have H2 := Lib.hid x3; obtain ⟨lc0, _, lc1, _, lc2, _, lc3, _, lc4, _, _⟩ := x1; obtain ⟨gc0, _, gc1, _, _⟩ := x2; clear hb x3)) | (go_at_call 11; ((with_reducible refine (HR.out _).mono ?_); rintro e w3 ⟨rfl, hb⟩; have X3 := Lib.hid (X2.out.below hb (by omega)); have Y3 := Lib.hid (Y2.out.below hb (by omega)); have H3 := Lib.hid (H2.out.trans (hb.mono H2.out.size)); have z3 : w.heap.size + 1 < w3.heap.size := Nat.lt_of_lt_of_le x4 hb.size; clear lc0 lc1 lc2 lc3 lc4 gc0 gc1; obtain ⟨lc0, _, lc1, _, lc2, _, lc3, _, lc4, _, _⟩ := X3.out; obtain ⟨gc0, _, gc1, _, _⟩ := Y3.out; clear hb)) | (go_at_call 18; ((with_reducible refine (HS.out _).mono ?_); rintro e w4 ⟨rfl, hb⟩; have X4 := Lib.hid (X3.out.below hb (by omega)); have Y4 := Lib.hid (Y3.out.below hb (by omega)); have H4 := Lib.hid (H3.out.trans (hb.mono H3.out.size)); have z4 : w.heap.size + 1 < w4.heap.size := Nat.lt_of_lt_of_le z3 hb.size; clear lc0 lc1 lc2 lc3 lc4 gc0 gc1; obtain ⟨lc0, _, lc1, _, lc2, _, lc3, _, lc4, _, _⟩ := X4.out; obtain ⟨gc0, _, gc1, _, _⟩ := Y4.out; clear hb)) | (go_at_call 24; ((with_reducible refine (HW.out _).mono ?_); rintro e w5 ⟨rfl, hb⟩; have X5 := Lib.hid (X4.out.below hb (by omega)); have Y5 := Lib.hid (Y4.out.below hb (by omega)); have H5 := Lib.hid (H4.out.trans (hb.mono H4.out.size)); have z5 : w.heap.size + 1 < w5.heap.size := Nat.lt_of_lt_of_le z4 hb.size; clear lc0 lc1 lc2 lc3 lc4 gc0 gc1; obtain ⟨lc0, _, lc1, _, lc2, _, lc3, _, lc4, _, _⟩ := X5.out; obtain ⟨gc0, _, gc1, _, _⟩ := Y5.out; clear hb)) | (go_at_call 23; ((with_reducible refine (HC.out _).mono ?_); rintro e w6 ⟨rfl, hb⟩; have X6 := Lib.hid (X5.out.below hb (by omega)); have Y6 := Lib.hid (Y5.out.below hb (by omega)); have H6 := Lib.hid (H5.out.trans (hb.mono H5.out.size)); have z6 : w.heap.size + 1 < w6.heap.size := Nat.lt_of_lt_of_le z5 hb.size; clear lc0 lc1 lc2 lc3 lc4 gc0 gc1; obtain ⟨lc0, _, lc1, _, lc2, _, lc3, _, lc4, _, _⟩ := X6.out; obtain ⟨gc0, _, gc1, _, _⟩ := Y6.out; clear hb)))
        go_ret
        exact ⟨rfl, H5.out⟩
      by_cases b2 : 500 < Y
      · go_enter Try.func6, Try.ntmps6
        go_wp2_with (first | (go_at_call 9; ((with_reducible refine (HK.out _).mono ?_); rintro e w2 ⟨rfl, hb⟩; obtain ⟨x1, x2, x3, x4⟩ := _root_.Go.Proofs.Ytmfigpjofakdnaa.k.boxes2 hb; have X2 := Lib.hid x1; have Y2 := Lib.hid x2; have H2 := Lib.hid x3; obtain ⟨lc0, _, lc1, _, lc2, _, lc3, _, lc4, _, _⟩ := x1; obtain ⟨gc0, _, gc1, _, _⟩ := x2; clear hb x3)) | (go_at_call 11; ((with_reducible refine (HR.out _).mono ?_); rintro e w3 ⟨rfl, hb⟩; have X3 := Lib.hid (X2.out.below hb (by omega)); have Y3 := Lib.hid (Y2.out.below hb (by omega)); have H3 := Lib.hid (H2.out.trans (hb.mono H2.out.size)); have z3 : w.heap.size + 1 < w3.heap.size := Nat.lt_of_lt_of_le x4 hb.size; clear lc0 lc1 lc2 lc3 lc4 gc0 gc1; obtain ⟨lc0, _, lc1, _, lc2, _, lc3, _, lc4, _, _⟩ := X3.out; obtain ⟨gc0, _, gc1, _, _⟩ := Y3.out; clear hb)) | (go_at_call 18; ((with_reducible refine (HS.out _).mono ?_); rintro e w4 ⟨rfl, hb⟩; have X4 := Lib.hid (X3.out.below hb (by omega)); have Y4 := Lib.hid (Y3.out.below hb (by omega)); have H4 := Lib.hid (H3.out.trans (hb.mono H3.out.size)); have z4 : w.heap.size + 1 < w4.heap.size := Nat.lt_of_lt_of_le z3 hb.size; clear lc0 lc1 lc2 lc3 lc4 gc0 gc1; obtain ⟨lc0, _, lc1, _, lc2, _, lc3, _, lc4, _, _⟩ := X4.out; obtain ⟨gc0, _, gc1, _, _⟩ := Y4.out; clear hb)) | (go_at_call 24; ((with_reducible refine (HW.out _).mono ?_); rintro e w5 ⟨rfl, hb⟩; have X5 := Lib.hid (X4.out.below hb (by omega)); have Y5 := Lib.hid (Y4.out.below hb (by omega)); have H5 := Lib.hid (H4.out.trans (hb.mono H4.out.size)); have z5 : w.heap.size + 1 < w5.heap.size := Nat.lt_of_lt_of_le z4 hb.size; clear lc0 lc1 lc2 lc3 lc4 gc0 gc1; obtain ⟨lc0, _, lc1, _, lc2, _, lc3, _, lc4, _, _⟩ := X5.out; obtain ⟨gc0, _, gc1, _, _⟩ := Y5.out; clear hb)) | (go_at_call 23; ((with_reducible refine (HC.out _).mono ?_); rintro e w6 ⟨rfl, hb⟩; have X6 := Lib.hid (X5.out.below hb (by omega)); have Y6 := Lib.hid (Y5.out.below hb (by omega)); have H6 := Lib.hid (H5.out.trans (hb.mono H5.out.size)); have z6 : w.heap.size + 1 < w6.heap.size := Nat.lt_of_lt_of_le z5 hb.size; clear lc0 lc1 lc2 lc3 lc4 gc0 gc1; obtain ⟨lc0, _, lc1, _, lc2, _, lc3, _, lc4, _, _⟩ := X6.out; obtain ⟨gc0, _, gc1, _, _⟩ := Y6.out; clear hb)))
        go_ret
        exact ⟨rfl, H5.out⟩
      by_cases b3 : 300 < N
      · go_enter Try.func6, Try.ntmps6
        go_wp2_with (first | (go_at_call 9; ((with_reducible refine (HK.out _).mono ?_); rintro e w2 ⟨rfl, hb⟩; obtain ⟨x1, x2, x3, x4⟩ := _root_.Go.Proofs.Ytmfigpjofakdnaa.k.boxes2 hb; have X2 := Lib.hid x1; have Y2 := Lib.hid x2; have H2 := Lib.hid x3; obtain ⟨lc0, _, lc1, _, lc2, _, lc3, _, lc4, _, _⟩ := x1; obtain ⟨gc0, _, gc1, _, _⟩ := x2; clear hb x3)) | (go_at_call 11; ((with_reducible refine (HR.out _).mono ?_); rintro e w3 ⟨rfl, hb⟩; have X3 := Lib.hid (X2.out.below hb (by omega)); have Y3 := Lib.hid (Y2.out.below hb (by omega)); have H3 := Lib.hid (H2.out.trans (hb.mono H2.out.size)); have z3 : w.heap.size + 1 < w3.heap.size := Nat.lt_of_lt_of_le x4 hb.size; clear lc0 lc1 lc2 lc3 lc4 gc0 gc1; obtain ⟨lc0, _, lc1, _, lc2, _, lc3, _, lc4, _, _⟩ := X3.out; obtain ⟨gc0, _, gc1, _, _⟩ := Y3.out; clear hb)) | (go_at_call 18; ((with_reducible refine (HS.out _).mono ?_); rintro e w4 ⟨rfl, hb⟩; have X4 := Lib.hid (X3.out.below hb (by omega)); have Y4 := Lib.hid (Y3.out.below hb (by omega)); have H4 := Lib.hid (H3.out.trans (hb.mono H3.out.size)); have z4 : w.heap.size + 1 < w4.heap.size := Nat.lt_of_lt_of_le z3 hb.size; clear lc0 lc1 lc2 lc3 lc4 gc0 gc1; obtain ⟨lc0, _, lc1, _, lc2, _, lc3, _, lc4, _, _⟩ := X4.out; obtain ⟨gc0, _, gc1, _, _⟩ := Y4.out; clear hb)) | (go_at_call 24; ((with_reducible refine (HW.out _).mono ?_); rintro e w5 ⟨rfl, hb⟩; have X5 := Lib.hid (X4.out.below hb (by omega)); have Y5 := Lib.hid (Y4.out.below hb (by omega)); have H5 := Lib.hid (H4.out.trans (hb.mono H4.out.size)); have z5 : w.heap.size + 1 < w5.heap.size := Nat.lt_of_lt_of_le z4 hb.size; clear lc0 lc1 lc2 lc3 lc4 gc0 gc1; obtain ⟨lc0, _, lc1, _, lc2, _, lc3, _, lc4, _, _⟩ := X5.out; obtain ⟨gc0, _, gc1, _, _⟩ := Y5.out; clear hb)) | (go_at_call 23; ((with_reducible refine (HC.out _).mono ?_); rintro e w6 ⟨rfl, hb⟩; have X6 := Lib.hid (X5.out.below hb (by omega)); have Y6 := Lib.hid (Y5.out.below hb (by omega)); have H6 := Lib.hid (H5.out.trans (hb.mono H5.out.size)); have z6 : w.heap.size + 1 < w6.heap.size := Nat.lt_of_lt_of_le z5 hb.size; clear lc0 lc1 lc2 lc3 lc4 gc0 gc1; obtain ⟨lc0, _, lc1, _, lc2, _, lc3, _, lc4, _, _⟩ := X6.out; obtain ⟨gc0, _, gc1, _, _⟩ := Y6.out; clear hb)))
        go_ret
        exact ⟨rfl, H6.out⟩
      obtain ⟨F, eF⟩ : ∃ F, max (t - p) (p - t) = F := ⟨_, rfl⟩
      rw [eF] at hF0 hF1 b1
      obtain ⟨M0, eM⟩ : ∃ M0, N + 2 + 2 * F + Y = M0 := ⟨_, rfl⟩
      have HM0 : Hid (MM ⟨V, A, D, lo, hi⟩ t p v ≤ M0) := Lib.hid (by have := HM.out; rw [eF, eM] at this; exact this)
      have hM1 : M0 ≤ 10000 := by omega
      have hM2 : 0 ≤ M0 := by omega
      go_enter Try.func6, Try.ntmps6
      go_wp2_with (first | (go_at_call 9; ((with_reducible refine (HK.out _).mono ?_); rintro e w2 ⟨rfl, hb⟩; obtain ⟨x1, x2, x3, x4⟩ := _root_.Go.Proofs.Ytmfigpjofakdnaa.k.boxes2 hb; have X2 := Lib.hid x1; have Y2 := Lib.hid x2; have H2 := Lib.hid x3; obtain ⟨lc0, _, lc1, _, lc2, _, lc3, _, lc4, _, _⟩ := x1; obtain ⟨gc0, _, gc1, _, _⟩ := x2; clear hb x3)) | (go_at_call 11; ((with_reducible refine (HR.out _).mono ?_); rintro e w3 ⟨rfl, hb⟩; have X3 := Lib.hid (X2.out.below hb (by omega)); have Y3 := Lib.hid (Y2.out.below hb (by omega)); have H3 := Lib.hid (H2.out.trans (hb.mono H2.out.size)); have z3 : w.heap.size + 1 < w3.heap.size := Nat.lt_of_lt_of_le x4 hb.size; clear lc0 lc1 lc2 lc3 lc4 gc0 gc1; obtain ⟨lc0, _, lc1, _, lc2, _, lc3, _, lc4, _, _⟩ := X3.out; obtain ⟨gc0, _, gc1, _, _⟩ := Y3.out; clear hb)) | (go_at_call 18; ((with_reducible refine (HS.out _).mono ?_); rintro e w4 ⟨rfl, hb⟩; have X4 := Lib.hid (X3.out.below hb (by omega)); have Y4 := Lib.hid (Y3.out.below hb (by omega)); have H4 := Lib.hid (H3.out.trans (hb.mono H3.out.size)); have z4 : w.heap.size + 1 < w4.heap.size := Nat.lt_of_lt_of_le z3 hb.size; clear lc0 lc1 lc2 lc3 lc4 gc0 gc1; obtain ⟨lc0, _, lc1, _, lc2, _, lc3, _, lc4, _, _⟩ := X4.out; obtain ⟨gc0, _, gc1, _, _⟩ := Y4.out; clear hb)) | (go_at_call 24; ((with_reducible refine (HW.out _).mono ?_); rintro e w5 ⟨rfl, hb⟩; have X5 := Lib.hid (X4.out.below hb (by omega)); have Y5 := Lib.hid (Y4.out.below hb (by omega)); have H5 := Lib.hid (H4.out.trans (hb.mono H4.out.size)); have z5 : w.heap.size + 1 < w5.heap.size := Nat.lt_of_lt_of_le z4 hb.size; clear lc0 lc1 lc2 lc3 lc4 gc0 gc1; obtain ⟨lc0, _, lc1, _, lc2, _, lc3, _, lc4, _, _⟩ := X5.out; obtain ⟨gc0, _, gc1, _, _⟩ := Y5.out; clear hb)) | (go_at_call 23; ((with_reducible refine (HC.out _).mono ?_); rintro e w6 ⟨rfl, hb⟩; have X6 := Lib.hid (X5.out.below hb (by omega)); have Y6 := Lib.hid (Y5.out.below hb (by omega)); have H6 := Lib.hid (H5.out.trans (hb.mono H5.out.size)); have z6 : w.heap.size + 1 < w6.heap.size := Nat.lt_of_lt_of_le z5 hb.size; clear lc0 lc1 lc2 lc3 lc4 gc0 gc1; obtain ⟨lc0, _, lc1, _, lc2, _, lc3, _, lc4, _, _⟩ := X6.out; obtain ⟨gc0, _, gc1, _, _⟩ := Y6.out; clear hb)) | (go_at_call 23; ((with_reducible refine (HC.out _).mono ?_); rintro e w7 ⟨rfl, hb⟩; have X7 := Lib.hid (X6.out.below hb (by omega)); have Y7 := Lib.hid (Y6.out.below hb (by omega)); have H7 := Lib.hid (H6.out.trans (hb.mono H6.out.size)); have z7 : w.heap.size + 1 < w7.heap.size := Nat.lt_of_lt_of_le z6 hb.size; clear lc0 lc1 lc2 lc3 lc4 gc0 gc1; obtain ⟨lc0, _, lc1, _, lc2, _, lc3, _, lc4, _, _⟩ := X7.out; obtain ⟨gc0, _, gc1, _, _⟩ := Y7.out; clear hb)))
      go_loopw [13] (fun i wr => ∃ (q p v : Int), i = .int .i64 q ∧ 0 ≤ q ∧ q ≤ M0 ∧ SafeP ⟨V, A, D, lo, hi⟩ p v ∧ q + MM ⟨V, A, D, lo, hi⟩ t p v ≤ M0 ∧ _root_.Go.Proofs.Ytmfigpjofakdnaa.k.Box wr w.heap.size 0 [.int .i64 V, .int .i64 A, .int .i64 D, .int .i64 lo, .int .i64 hi] ∧ _root_.Go.Proofs.Ytmfigpjofakdnaa.k.Box wr (w.heap.size + 1) 0 [.int .i64 p, .int .i64 v] ∧ Below w.heap.size w wr ∧ w.heap.size + 1 < wr.heap.size) (fun i _ => (M0 - intOf i).toNat)
      case atStart => exact ⟨0, p, v, rfl, by omega, by omega, HQ.out, by have := HM0.out; omega, X7.out, Y7.out, H7.out, z7⟩
      case round =>
        obtain ⟨q, p', v', rfl, q0, q4, hsP, hn, y1, y2, y3, y4⟩ := hrel
        clear X2 Y2 H2 X3 Y3 H3 X4 Y4 H4 X5 Y5 H5 X6 Y6 H6 X7 Y7 H7 HQ HS HR HK HC HW HM HM0 lc0 lc1 lc2 lc3 lc4 gc0 gc1 hp hv eF eM
        have X := Lib.hid y1
        have Y_ := Lib.hid y2
        have H := Lib.hid y3
        clear y1 y2 y3
        have ⟨m1, m2, m3, m4, _⟩ := hsP
        dsimp only at m1 m2
        by_cases hlt : q < M0
        · by_cases hld : p' = t ∧ v' = 0
          · obtain ⟨e1, e2⟩ := hld
            subst e2
            subst p'
            have hl := fun W => landed_any t 0 t W
            rw [show landB t 0 t = true from decide_eq_true ⟨rfl, rfl⟩] at hl
            have HLY := Lib.hid hl
            have hto := fun W => to_ok ⟨V, A, D, lo, hi⟩ HRR.out t 0 hsP t x ht hx W
            have hti := to_in HRR.out (v := 0) (t := t) (x := x) hsP.1 hsP.2.1
            have hss := to_stand HRR.out (x := x) hsP
            obtain ⟨y, hy⟩ : ∃ y, toV ⟨V, A, D, lo, hi⟩ t 0 t x = y := ⟨_, rfl⟩
            rw [hy] at hto hti hss
            have hst := fun W => step_ok ⟨V, A, D, lo, hi⟩ HRR.out t 0 hsP y (by unfold Wide; omega) W
            rw [hss, Int.add_zero] at hst
            dsimp only at hto hst
            have HT := Lib.hid hto
            have HST := Lib.hid hst
            clear hl hto hti hss hst hy hsP hn
            obtain ⟨gc0, _, gc1, _, _⟩ := Y_.out
            go_upto_region 15 with (go_at_call 12; ((with_reducible refine (HLY.out _).mono ?_); rintro e w8 ⟨rfl, hb⟩; have X8 := Lib.hid (X.out.below hb (by omega)); have Y8 := Lib.hid (Y_.out.below hb (by omega)); have H8 := Lib.hid (H.out.trans (hb.mono H.out.size)); have z8 := Nat.lt_of_lt_of_le y4 hb.size; clear hb))
            refine wp_region_held_drew (S := (fun w' => World.rangeAt w' w.heap.size 0 [.int .i64 V, .int .i64 A, .int .i64 D, .int .i64 lo, .int .i64 hi] ∧ World.rangeAt w' (w.heap.size + 1) 0 [.int .i64 t, .int .i64 0])) (by kernel_rfl) ⟨X8.out.range, Y8.out.range⟩ (fun hHeld => ?_)
            refine wpAnyH_take (i := 0) rfl (by kernel_rfl) (by kernel_rfl) (by kernel_rfl) (fun _ _ _ h => h) (yieldsIf_load_mid (by rfl) 25 (.tmp 5) rfl (w.heap.size + 1) 0 rfl [.int .i64 t, .int .i64 0] _ (fun _ h => h.2) rfl rfl (by kernel_rfl)) (by assumption) ?_
            try simp only [Act.put, List.setIfInBounds_toArray, List.set_cons_zero, List.set_cons_succ, List.getElem_toArray, List.getElem_cons_zero]
            refine wpAnyH_take (i := 1) (v := ?_) rfl (by kernel_rfl) (by kernel_rfl) (by kernel_rfl) (fun _ _ _ h => h) (Or.inl ⟨by rfl, ?_⟩) (by assumption) ?_
            rotate_left 1
            · intro w hSw; clear hSw; go_simp <;> (with_reducible rfl)
            try simp only [Act.put, List.setIfInBounds_toArray, List.set_cons_zero, List.set_cons_succ, List.getElem_toArray, List.getElem_cons_succ, List.getElem_cons_zero]
            refine wpAnyH_ready (rs := [2]) (by kernel_rfl) (by simp) ?_
            refine AllReadyH.cons rfl (fun K hK => ?_) AllReadyH.nil
            go_simp
            (go_at_call 12; (refine (HLY.out _).mono ?_); rintro e w20 ⟨rfl, hb0⟩)
            have hb : Below w8.heap.size w8 w20 := ((Below.refl _ _).drew).trans hb0
            have X20 := Lib.hid (X8.out.below hb (by omega))
            have Y20 := Lib.hid (Y8.out.below hb (by omega))
            have H20 := Lib.hid (H8.out.trans (hb.mono H8.out.size))
            have z20 := Nat.lt_of_lt_of_le z8 hb.size
            clear hb hb0
            go_wp2_with fail
            refine hK.out _ _ ⟨X20.out.range, Y20.out.range⟩ (fun hHeld => ?_)
            clear hK K
            try simp only [Act.put, List.setIfInBounds_toArray, List.set_cons_zero, List.set_cons_succ, List.getElem_toArray, List.getElem_cons_succ, List.getElem_cons_zero]
            refine wpAnyH_take (i := 3) (v := ?_) rfl (by kernel_rfl) (by kernel_rfl) (by kernel_rfl) (fun _ _ _ h => h) (Or.inl ⟨by rfl, ?_⟩) (by assumption) ?_
            rotate_left 1
            · intro w hSw; clear hSw; go_simp <;> (with_reducible rfl)
            try simp only [Act.put, List.setIfInBounds_toArray, List.set_cons_zero, List.set_cons_succ, List.getElem_toArray, List.getElem_cons_succ, List.getElem_cons_zero]
            refine wpAnyH_take (i := 4) rfl (by kernel_rfl) (by kernel_rfl) (by kernel_rfl) (fun _ _ _ h => h) (yieldsIf_load_mid (by rfl) 23 (.tmp 4) rfl w.heap.size 0 rfl [.int .i64 V, .int .i64 A, .int .i64 D, .int .i64 lo, .int .i64 hi] _ (fun _ h => h.1) rfl rfl (by kernel_rfl)) (by assumption) ?_
            try simp only [Act.put, List.setIfInBounds_toArray, List.set_cons_zero, List.set_cons_succ, List.getElem_toArray, List.getElem_cons_succ, List.getElem_cons_zero]
            refine wpAnyH_take (i := 5) rfl (by kernel_rfl) (by kernel_rfl) (by kernel_rfl) (fun _ _ _ h => h) (yieldsIf_load_mid (by rfl) 25 (.tmp 5) rfl (w.heap.size + 1) 0 rfl [.int .i64 t, .int .i64 0] _ (fun _ h => h.2) rfl rfl (by kernel_rfl)) (by assumption) ?_
            try simp only [Act.put, List.setIfInBounds_toArray, List.set_cons_zero, List.set_cons_succ, List.getElem_toArray, List.getElem_cons_succ, List.getElem_cons_zero]
            refine wpAnyH_take (i := 6) rfl (by kernel_rfl) (by kernel_rfl) (by kernel_rfl) (fun _ _ _ h => h) (yieldsIf_load_mid (by rfl) 23 (.tmp 4) rfl w.heap.size 0 rfl [.int .i64 V, .int .i64 A, .int .i64 D, .int .i64 lo, .int .i64 hi] _ (fun _ h => h.1) rfl rfl (by kernel_rfl)) (by assumption) ?_
            try simp only [Act.put, List.setIfInBounds_toArray, List.set_cons_zero, List.set_cons_succ, List.getElem_toArray, List.getElem_cons_succ, List.getElem_cons_zero]
            refine wpAnyH_take (i := 7) rfl (by kernel_rfl) (by kernel_rfl) (by kernel_rfl) (fun _ _ _ h => h) (yieldsIf_load_mid (by rfl) 25 (.tmp 5) rfl (w.heap.size + 1) 0 rfl [.int .i64 t, .int .i64 0] _ (fun _ h => h.2) rfl rfl (by kernel_rfl)) (by assumption) ?_
            try simp only [Act.put, List.setIfInBounds_toArray, List.set_cons_zero, List.set_cons_succ, List.getElem_toArray, List.getElem_cons_succ, List.getElem_cons_zero]
            refine wpAnyH_take (i := 8) (v := ?_) rfl (by kernel_rfl) (by kernel_rfl) (by kernel_rfl) (fun _ _ _ h => h) (Or.inl ⟨by rfl, ?_⟩) (by assumption) ?_
            rotate_left 1
            · intro w hSw; clear hSw; go_simp <;> (with_reducible rfl)
            try simp only [Act.put, List.setIfInBounds_toArray, List.set_cons_zero, List.set_cons_succ, List.getElem_toArray, List.getElem_cons_succ, List.getElem_cons_zero]
            refine wpAnyH_take (i := 9) (v := ?_) rfl (by kernel_rfl) (by kernel_rfl) (by kernel_rfl) (fun _ _ _ h => h) (Or.inl ⟨by rfl, ?_⟩) (by assumption) ?_
            rotate_left 1
            · intro w hSw; clear hSw; go_simp <;> (with_reducible rfl)
            try simp only [Act.put, List.setIfInBounds_toArray, List.set_cons_zero, List.set_cons_succ, List.getElem_toArray, List.getElem_cons_succ, List.getElem_cons_zero]
            refine wpAnyH_take (i := 12) rfl (by kernel_rfl) (by kernel_rfl) (by kernel_rfl) (fun _ _ _ h => h) (yieldsIf_load_mid (by rfl) 25 (.tmp 5) rfl (w.heap.size + 1) 0 rfl [.int .i64 t, .int .i64 0] _ (fun _ h => h.2) rfl rfl (by kernel_rfl)) (by assumption) ?_
            try simp only [Act.put, List.setIfInBounds_toArray, List.set_cons_zero, List.set_cons_succ, List.getElem_toArray, List.getElem_cons_succ, List.getElem_cons_zero]
            refine wpAnyH_ready (rs := [10]) (by kernel_rfl) (by simp) ?_
            refine AllReadyH.cons rfl (fun K hK => ?_) AllReadyH.nil
            go_simp
            (go_at_call 16; (refine (HT.out _).mono ?_); rintro e w21 ⟨rfl, hb⟩)
            have X21 := Lib.hid (X20.out.below hb (by omega))
            have Y21 := Lib.hid (Y20.out.below hb (by omega))
            have H21 := Lib.hid (H20.out.trans (hb.mono H20.out.size))
            have z21 := Nat.lt_of_lt_of_le z20 hb.size
            clear hb
            go_wp2_with fail
            refine hK.out _ _ ⟨X21.out.range, Y21.out.range⟩ (fun hHeld => ?_)
            clear hK K
            try simp only [Act.put, List.setIfInBounds_toArray, List.set_cons_zero, List.set_cons_succ, List.getElem_toArray, List.getElem_cons_succ, List.getElem_cons_zero]
            refine wpAnyH_ready (rs := [11]) (by kernel_rfl) (by simp) ?_
            refine AllReadyH.cons rfl (fun K hK => ?_) AllReadyH.nil
            go_simp
            (go_at_call 15; (refine (HST.out _).mono ?_); rintro e w22 ⟨rfl, hb⟩)
            have X22 := X21.out.below hb (by omega)
            have Y22 := Y21.out.below hb (by omega)
            have H22 := Lib.hid (H21.out.trans (hb.mono H21.out.size))
            clear hb
            go_wp2_with fail
            refine hK.out _ _ ⟨X22.range, Y22.range⟩ (fun hHeld => ?_)
            clear hK K
            try simp only [Act.put, List.setIfInBounds_toArray, List.set_cons_zero, List.set_cons_succ, List.getElem_toArray, List.getElem_cons_succ, List.getElem_cons_zero]
            refine wpAnyH_take (i := 13) (v := ?_) rfl (by kernel_rfl) (by kernel_rfl) (by kernel_rfl) (fun _ _ _ h => h) (Or.inl ⟨by rfl, ?_⟩) (by assumption) ?_
            rotate_left 1
            · intro w hSw; clear hSw; go_simp <;> (with_reducible rfl)
            try simp only [Act.put, List.setIfInBounds_toArray, List.set_cons_zero, List.set_cons_succ, List.getElem_toArray, List.getElem_cons_succ, List.getElem_cons_zero]
            refine wpAnyH_take (i := 14) (v := ?_) rfl (by kernel_rfl) (by kernel_rfl) (by kernel_rfl) (fun _ _ _ h => h) (Or.inl ⟨by rfl, ?_⟩) (by assumption) ?_
            rotate_left 1
            · intro w hSw; clear hSw; go_simp <;> (with_reducible rfl)
            try simp only [Act.put, List.setIfInBounds_toArray, List.set_cons_zero, List.set_cons_succ, List.getElem_toArray, List.getElem_cons_succ, List.getElem_cons_zero]
            refine wpAnyH_take (i := 15) (v := ?_) rfl (by kernel_rfl) (by kernel_rfl) (by kernel_rfl) (fun _ _ _ h => h) (Or.inl ⟨by rfl, ?_⟩) (by assumption) ?_
            rotate_left 1
            · intro w hSw; clear hSw; go_simp <;> (with_reducible rfl)
            try simp only [Act.put, List.setIfInBounds_toArray, List.set_cons_zero, List.set_cons_succ, List.getElem_toArray, List.getElem_cons_succ, List.getElem_cons_zero]
            refine wpAnyH_done (by kernel_rfl) ?_ _
            go_wp2
            go_ret
            exact ⟨rfl, H22.out⟩
          · have hmm := MM_step HRR.out hsP t2' t3' t1' hld
            have hto := fun W => to_ok ⟨V, A, D, lo, hi⟩ HRR.out p' v' hsP t x ht hx W
            have hti := to_in HRR.out (v := v') (t := t) (x := x) hsP.1 hsP.2.1
            obtain ⟨y, hy⟩ : ∃ y, toV ⟨V, A, D, lo, hi⟩ p' v' t x = y := ⟨_, rfl⟩
            rw [hy] at hto hti hmm
            have hst := fun W => step_ok ⟨V, A, D, lo, hi⟩ HRR.out p' v' hsP y (by unfold Wide; omega) W
            have hk := (step_kept HRR.out hsP y).safe
            obtain ⟨s, hs⟩ : ∃ s, stepV ⟨V, A, D, lo, hi⟩ p' v' y = s := ⟨_, rfl⟩
            rw [hs] at hst hk hmm
            dsimp only at hto hst
            have HT := Lib.hid hto
            have HST := Lib.hid hst
            have HKS := Lib.hid hk
            have HMM := Lib.hid (And.intro hmm hn)
            have hmin := (MM_in HRR.out (t := t) (p := p' + s) (v := s)).1
            have hq1 : q + 1 ≤ M0 := by omega
            have hl := fun W => landed_any p' v' t W
            rw [show landB p' v' t = false from decide_eq_false hld] at hl
            have HLN := Lib.hid hl
            clear hto hti hst hk hmm hn hs hy hl hld hsP hmin
            obtain ⟨gc0, _, gc1, _, _⟩ := Y_.out
            go_upto_region 14 with (go_at_call 12; ((with_reducible refine (HLN.out _).mono ?_); rintro e wr ⟨rfl, hb⟩; have X9 := Lib.hid (X.out.below hb (by omega)); have Y9 := Lib.hid (Y_.out.below hb (by omega)); have H9 := Lib.hid (H.out.trans (hb.mono H.out.size)); have z9 := Nat.lt_of_lt_of_le y4 hb.size; clear hb))
            clear gc0 gc1
            refine wp_region_held_drew (S := (fun w' => World.rangeAt w' w.heap.size 0 [.int .i64 V, .int .i64 A, .int .i64 D, .int .i64 lo, .int .i64 hi])) (by kernel_rfl) X9.out.range (fun hHeld => ?_)
            refine wpAnyH_take (i := 0) rfl (by kernel_rfl) (by kernel_rfl) (by kernel_rfl) (fun _ _ _ h => h) (yieldsIf_load_mid (by rfl) 23 (.tmp 4) rfl w.heap.size 0 rfl [.int .i64 V, .int .i64 A, .int .i64 D, .int .i64 lo, .int .i64 hi] _ (fun _ h => h) rfl rfl (by kernel_rfl)) (by assumption) ?_
            try simp only [Act.put, List.setIfInBounds_toArray, List.set_cons_zero, List.set_cons_succ, List.getElem_toArray, List.getElem_cons_zero]
            refine wpAnyH_take (i := 2) rfl (by kernel_rfl) (by kernel_rfl) (by kernel_rfl) (fun _ _ _ h => h) (yieldsIf_load_mid (by rfl) 23 (.tmp 4) rfl w.heap.size 0 rfl [.int .i64 V, .int .i64 A, .int .i64 D, .int .i64 lo, .int .i64 hi] _ (fun _ h => h) rfl rfl (by kernel_rfl)) (by assumption) ?_
            try simp only [Act.put, List.setIfInBounds_toArray, List.set_cons_zero, List.set_cons_succ, List.getElem_toArray, List.getElem_cons_succ, List.getElem_cons_zero]
            refine wpAnyH_take (i := 4) (v := ?_) rfl (by kernel_rfl) (by kernel_rfl) (by kernel_rfl) (fun _ _ _ h => h) (Or.inl ⟨by rfl, ?_⟩) (by assumption) ?_
            rotate_left 1
            · intro w hSw; clear hSw; go_simp <;> (with_reducible rfl)
            try simp only [Act.put, List.setIfInBounds_toArray, List.set_cons_zero, List.set_cons_succ, List.getElem_toArray, List.getElem_cons_succ, List.getElem_cons_zero]
            refine wpAnyH_take (i := 5) (v := ?_) rfl (by kernel_rfl) (by kernel_rfl) (by kernel_rfl) (fun _ _ _ h => h) (Or.inl ⟨by rfl, ?_⟩) (by assumption) ?_
            rotate_left 1
            · intro w hSw; clear hSw; go_simp <;> (with_reducible rfl)
            try simp only [Act.put, List.setIfInBounds_toArray, List.set_cons_zero, List.set_cons_succ, List.getElem_toArray, List.getElem_cons_succ, List.getElem_cons_zero]
            refine wpAnyH_ready (rs := [1, 3]) (by kernel_rfl) (by simp) ?_
            refine AllReadyH.cons rfl (fun K hK => ?_) (AllReadyH.cons rfl (fun K hK => ?_) AllReadyH.nil)
            · rw [if_pos (by rfl)]
              refine wp_load_mid 25 (.tmp 5) rfl (w.heap.size + 1) 0 rfl [.int .i64 p', .int .i64 v'] _ Y9.out.range rfl rfl (by kernel_rfl) ?_
              refine hK.out _ _ X9.out.range (fun hHeld => ?_)
              clear hK K
              try simp only [Act.put, List.setIfInBounds_toArray, List.set_cons_zero, List.set_cons_succ, List.getElem_toArray, List.getElem_cons_succ, List.getElem_cons_zero]
              refine wpAnyH_ready (rs := [3]) (by kernel_rfl) (by simp) ?_
              refine AllReadyH.cons rfl (fun K hK => ?_) AllReadyH.nil
              rw [if_pos (by rfl)]
              refine wp_load_mid 25 (.tmp 5) rfl (w.heap.size + 1) 0 rfl [.int .i64 p', .int .i64 v'] _ Y9.out.range rfl rfl (by kernel_rfl) ?_
              refine hK.out _ _ X9.out.range (fun hHeld => ?_)
              clear hK K
              try simp only [Act.put, List.setIfInBounds_toArray, List.set_cons_zero, List.set_cons_succ, List.getElem_toArray, List.getElem_cons_succ, List.getElem_cons_zero]
              refine wpAnyH_ready (rs := [6]) (by kernel_rfl) (by simp) ?_
              refine AllReadyH.cons rfl (fun K hK => ?_) AllReadyH.nil
              go_simp
              (go_at_call 16; (refine (HT.out _).mono ?_); rintro e w5 ⟨rfl, hb0⟩)
              have hb : Below wr.heap.size wr w5 := ((Below.refl _ _).drew).trans hb0
              have A1 := Lib.hid (X9.out.below hb (by omega))
              have A2 := Lib.hid (Y9.out.below hb (by omega))
              have A4 := Lib.hid (H9.out.trans (hb.mono H9.out.size))
              have a5 : w.heap.size + 1 < w5.heap.size := Nat.lt_of_lt_of_le z9 hb.size
              clear hb hb0
              go_wp2_with fail
              refine hK.out _ _ A1.out.range (fun hHeld => ?_)
              clear hK K
              try simp only [Act.put, List.setIfInBounds_toArray, List.set_cons_zero, List.set_cons_succ, List.getElem_toArray, List.getElem_cons_succ, List.getElem_cons_zero]
              refine wpAnyH_ready (rs := [7]) (by kernel_rfl) (by simp) ?_
              refine AllReadyH.cons rfl (fun K hK => ?_) AllReadyH.nil
              go_simp
              (go_at_call 15; (refine (HST.out _).mono ?_); rintro e w6 ⟨rfl, hb⟩)
              have B1 := Lib.hid (A1.out.below hb (by omega))
              have B2 := Lib.hid (A2.out.below hb (by omega))
              have B4 := Lib.hid (A4.out.trans (hb.mono A4.out.size))
              have b5 : w.heap.size + 1 < w6.heap.size := Nat.lt_of_lt_of_le a5 hb.size
              clear hb
              go_wp2_with fail
              refine hK.out _ _ B1.out.range (fun hHeld => ?_)
              clear hK K
              try simp only [Act.put, List.setIfInBounds_toArray, List.set_cons_zero, List.set_cons_succ, List.getElem_toArray, List.getElem_cons_succ, List.getElem_cons_zero]
              refine wpAnyH_ready (rs := [8]) (by kernel_rfl) (by simp) ?_
              refine AllReadyH.cons rfl (fun K hK => ?_) AllReadyH.nil
              rw [if_pos (by rfl)]
              obtain ⟨W, hW, h1, h2, h3, h5⟩ := _root_.Go.Proofs.Ytmfigpjofakdnaa.k.stored (us := [.int .i64 (p' + s), .int .i64 s]) B2.out rfl
              refine wp_store_mid 25 (.tmp 5) (.tmp 101) rfl (w.heap.size + 1) 0 #[.int .i64 (p' + s), .int .i64 s] rfl rfl (_root_.Go.Proofs.Ytmfigpjofakdnaa.k.there_of B2.out rfl) (by kernel_rfl) (by simp [Value.oneCell']) ?_
              change K _ (World.setCells _ _ _ [.int .i64 (p' + s), .int .i64 s])
              rw [hW]
              have hbw : Below w.heap.size w W := B4.out.trans (h3 _ (by omega))
              have c1 := B1.out.below (h3 (w.heap.size + 1) (by omega)) (by omega)
              have hz : w.heap.size + 1 < W.heap.size := by omega
              refine hK.out _ _ c1.range (fun hHeld => ?_)
              clear hK K hW h3 h5
              try simp only [Act.put, List.getElem_toArray, List.getElem_cons_succ, List.getElem_cons_zero]
              refine wpAnyH_done (by kernel_rfl) ?_ _
              have C1 := Lib.hid c1
              have C2 := Lib.hid h1
              have C4 := Lib.hid hbw
              clear c1 h1 hbw hHeld
              go_wp2
              go_roundw
              case rel => exact ⟨q + 1, p' + s, s, rfl, by omega, hq1, HKS.out, by have := HMM.out.1; have := HMM.out.2; omega, C1.out, C2.out, C4.out, hz⟩
              case measure => simp [intOf]; omega
            · rw [if_pos (by rfl)]
              refine wp_load_mid 25 (.tmp 5) rfl (w.heap.size + 1) 0 rfl [.int .i64 p', .int .i64 v'] _ Y9.out.range rfl rfl (by kernel_rfl) ?_
              refine hK.out _ _ X9.out.range (fun hHeld => ?_)
              clear hK K
              try simp only [Act.put, List.setIfInBounds_toArray, List.set_cons_zero, List.set_cons_succ, List.getElem_toArray, List.getElem_cons_succ, List.getElem_cons_zero]
              refine wpAnyH_ready (rs := [1, 6]) (by kernel_rfl) (by simp) ?_
              refine AllReadyH.cons rfl (fun K hK => ?_) (AllReadyH.cons rfl (fun K hK => ?_) AllReadyH.nil)
              · rw [if_pos (by rfl)]
                refine wp_load_mid 25 (.tmp 5) rfl (w.heap.size + 1) 0 rfl [.int .i64 p', .int .i64 v'] _ Y9.out.range rfl rfl (by kernel_rfl) ?_
                refine hK.out _ _ X9.out.range (fun hHeld => ?_)
                clear hK K
                try simp only [Act.put, List.setIfInBounds_toArray, List.set_cons_zero, List.set_cons_succ, List.getElem_toArray, List.getElem_cons_succ, List.getElem_cons_zero]
                refine wpAnyH_ready (rs := [6]) (by kernel_rfl) (by simp) ?_
                refine AllReadyH.cons rfl (fun K hK => ?_) AllReadyH.nil
                go_simp
                (go_at_call 16; (refine (HT.out _).mono ?_); rintro e w5 ⟨rfl, hb0⟩)
                have hb : Below wr.heap.size wr w5 := ((Below.refl _ _).drew).trans hb0
                have A1 := Lib.hid (X9.out.below hb (by omega))
                have A2 := Lib.hid (Y9.out.below hb (by omega))
                have A4 := Lib.hid (H9.out.trans (hb.mono H9.out.size))
                have a5 : w.heap.size + 1 < w5.heap.size := Nat.lt_of_lt_of_le z9 hb.size
                clear hb hb0
                go_wp2_with fail
                refine hK.out _ _ A1.out.range (fun hHeld => ?_)
                clear hK K
                try simp only [Act.put, List.setIfInBounds_toArray, List.set_cons_zero, List.set_cons_succ, List.getElem_toArray, List.getElem_cons_succ, List.getElem_cons_zero]
                refine wpAnyH_ready (rs := [7]) (by kernel_rfl) (by simp) ?_
                refine AllReadyH.cons rfl (fun K hK => ?_) AllReadyH.nil
                go_simp
                (go_at_call 15; (refine (HST.out _).mono ?_); rintro e w6 ⟨rfl, hb⟩)
                have B1 := Lib.hid (A1.out.below hb (by omega))
                have B2 := Lib.hid (A2.out.below hb (by omega))
                have B4 := Lib.hid (A4.out.trans (hb.mono A4.out.size))
                have b5 : w.heap.size + 1 < w6.heap.size := Nat.lt_of_lt_of_le a5 hb.size
                clear hb
                go_wp2_with fail
                refine hK.out _ _ B1.out.range (fun hHeld => ?_)
                clear hK K
                try simp only [Act.put, List.setIfInBounds_toArray, List.set_cons_zero, List.set_cons_succ, List.getElem_toArray, List.getElem_cons_succ, List.getElem_cons_zero]
                refine wpAnyH_ready (rs := [8]) (by kernel_rfl) (by simp) ?_
                refine AllReadyH.cons rfl (fun K hK => ?_) AllReadyH.nil
                rw [if_pos (by rfl)]
                obtain ⟨W, hW, h1, h2, h3, h5⟩ := _root_.Go.Proofs.Ytmfigpjofakdnaa.k.stored (us := [.int .i64 (p' + s), .int .i64 s]) B2.out rfl
                refine wp_store_mid 25 (.tmp 5) (.tmp 101) rfl (w.heap.size + 1) 0 #[.int .i64 (p' + s), .int .i64 s] rfl rfl (_root_.Go.Proofs.Ytmfigpjofakdnaa.k.there_of B2.out rfl) (by kernel_rfl) (by simp [Value.oneCell']) ?_
                change K _ (World.setCells _ _ _ [.int .i64 (p' + s), .int .i64 s])
                rw [hW]
                have hbw : Below w.heap.size w W := B4.out.trans (h3 _ (by omega))
                have c1 := B1.out.below (h3 (w.heap.size + 1) (by omega)) (by omega)
                have hz : w.heap.size + 1 < W.heap.size := by omega
                refine hK.out _ _ c1.range (fun hHeld => ?_)
                clear hK K hW h3 h5
                try simp only [Act.put, List.getElem_toArray, List.getElem_cons_succ, List.getElem_cons_zero]
                refine wpAnyH_done (by kernel_rfl) ?_ _
                have C1 := Lib.hid c1
                have C2 := Lib.hid h1
                have C4 := Lib.hid hbw
                clear c1 h1 hbw hHeld
                go_wp2
                go_roundw
                case rel => exact ⟨q + 1, p' + s, s, rfl, by omega, hq1, HKS.out, by have := HMM.out.1; have := HMM.out.2; omega, C1.out, C2.out, C4.out, hz⟩
                case measure => simp [intOf]; omega
              · go_simp
                (go_at_call 16; (refine (HT.out _).mono ?_); rintro e w5 ⟨rfl, hb0⟩)
                have hb : Below wr.heap.size wr w5 := ((Below.refl _ _).drew).trans hb0
                have A1 := Lib.hid (X9.out.below hb (by omega))
                have A2 := Lib.hid (Y9.out.below hb (by omega))
                have A4 := Lib.hid (H9.out.trans (hb.mono H9.out.size))
                have a5 : w.heap.size + 1 < w5.heap.size := Nat.lt_of_lt_of_le z9 hb.size
                clear hb hb0
                go_wp2_with fail
                refine hK.out _ _ A1.out.range (fun hHeld => ?_)
                clear hK K
                try simp only [Act.put, List.setIfInBounds_toArray, List.set_cons_zero, List.set_cons_succ, List.getElem_toArray, List.getElem_cons_succ, List.getElem_cons_zero]
                refine wpAnyH_ready (rs := [1]) (by kernel_rfl) (by simp) ?_
                refine AllReadyH.cons rfl (fun K hK => ?_) AllReadyH.nil
                rw [if_pos (by rfl)]
                refine wp_load_mid 25 (.tmp 5) rfl (w.heap.size + 1) 0 rfl [.int .i64 p', .int .i64 v'] _ A2.out.range rfl rfl (by kernel_rfl) ?_
                refine hK.out _ _ A1.out.range (fun hHeld => ?_)
                clear hK K
                try simp only [Act.put, List.setIfInBounds_toArray, List.set_cons_zero, List.set_cons_succ, List.getElem_toArray, List.getElem_cons_succ, List.getElem_cons_zero]
                refine wpAnyH_ready (rs := [7]) (by kernel_rfl) (by simp) ?_
                refine AllReadyH.cons rfl (fun K hK => ?_) AllReadyH.nil
                go_simp
                (go_at_call 15; (refine (HST.out _).mono ?_); rintro e w6 ⟨rfl, hb⟩)
                have B1 := Lib.hid (A1.out.below hb (by omega))
                have B2 := Lib.hid (A2.out.below hb (by omega))
                have B4 := Lib.hid (A4.out.trans (hb.mono A4.out.size))
                have b5 : w.heap.size + 1 < w6.heap.size := Nat.lt_of_lt_of_le a5 hb.size
                clear hb
                go_wp2_with fail
                refine hK.out _ _ B1.out.range (fun hHeld => ?_)
                clear hK K
                try simp only [Act.put, List.setIfInBounds_toArray, List.set_cons_zero, List.set_cons_succ, List.getElem_toArray, List.getElem_cons_succ, List.getElem_cons_zero]
                refine wpAnyH_ready (rs := [8]) (by kernel_rfl) (by simp) ?_
                refine AllReadyH.cons rfl (fun K hK => ?_) AllReadyH.nil
                rw [if_pos (by rfl)]
                obtain ⟨W, hW, h1, h2, h3, h5⟩ := _root_.Go.Proofs.Ytmfigpjofakdnaa.k.stored (us := [.int .i64 (p' + s), .int .i64 s]) B2.out rfl
                refine wp_store_mid 25 (.tmp 5) (.tmp 101) rfl (w.heap.size + 1) 0 #[.int .i64 (p' + s), .int .i64 s] rfl rfl (_root_.Go.Proofs.Ytmfigpjofakdnaa.k.there_of B2.out rfl) (by kernel_rfl) (by simp [Value.oneCell']) ?_
                change K _ (World.setCells _ _ _ [.int .i64 (p' + s), .int .i64 s])
                rw [hW]
                have hbw : Below w.heap.size w W := B4.out.trans (h3 _ (by omega))
                have c1 := B1.out.below (h3 (w.heap.size + 1) (by omega)) (by omega)
                have hz : w.heap.size + 1 < W.heap.size := by omega
                refine hK.out _ _ c1.range (fun hHeld => ?_)
                clear hK K hW h3 h5
                try simp only [Act.put, List.getElem_toArray, List.getElem_cons_succ, List.getElem_cons_zero]
                refine wpAnyH_done (by kernel_rfl) ?_ _
                have C1 := Lib.hid c1
                have C2 := Lib.hid h1
                have C4 := Lib.hid hbw
                clear c1 h1 hbw hHeld
                go_wp2
                go_roundw
                case rel => exact ⟨q + 1, p' + s, s, rfl, by omega, hq1, HKS.out, by have := HMM.out.1; have := HMM.out.2; omega, C1.out, C2.out, C4.out, hz⟩
                case measure => simp [intOf]; omega
        · have hmi := (MM_in HRR.out (t := t) (p := p') (v := v')).2.1 (by omega)
          obtain ⟨e1, e2⟩ := hmi
          subst e2
          subst p'
          have d9 : decide (q < M0) = false := decide_eq_false hlt
          have hl := fun W => landed_any t 0 t W
          rw [show landB t 0 t = true from decide_eq_true ⟨rfl, rfl⟩] at hl
          have HLY := Lib.hid hl
          have hto := fun W => to_ok ⟨V, A, D, lo, hi⟩ HRR.out t 0 hsP t x ht hx W
          have hti := to_in HRR.out (v := 0) (t := t) (x := x) hsP.1 hsP.2.1
          have hss := to_stand HRR.out (x := x) hsP
          obtain ⟨y, hy⟩ : ∃ y, toV ⟨V, A, D, lo, hi⟩ t 0 t x = y := ⟨_, rfl⟩
          rw [hy] at hto hti hss
          have hst := fun W => step_ok ⟨V, A, D, lo, hi⟩ HRR.out t 0 hsP y (by unfold Wide; omega) W
          rw [hss, Int.add_zero] at hst
          dsimp only at hto hst
          have HT := Lib.hid hto
          have HST := Lib.hid hst
          clear hl hto hti hss hst hy hsP hn
          go_upto_region 15 with (fail)
          refine wp_region_held_drew (S := (fun w' => World.rangeAt w' w.heap.size 0 [.int .i64 V, .int .i64 A, .int .i64 D, .int .i64 lo, .int .i64 hi] ∧ World.rangeAt w' (w.heap.size + 1) 0 [.int .i64 t, .int .i64 0])) (by kernel_rfl) ⟨X.out.range, Y_.out.range⟩ (fun hHeld => ?_)
          refine wpAnyH_take (i := 0) rfl (by kernel_rfl) (by kernel_rfl) (by kernel_rfl) (fun _ _ _ h => h) (yieldsIf_load_mid (by rfl) 25 (.tmp 5) rfl (w.heap.size + 1) 0 rfl [.int .i64 t, .int .i64 0] _ (fun _ h => h.2) rfl rfl (by kernel_rfl)) (by assumption) ?_
          try simp only [Act.put, List.setIfInBounds_toArray, List.set_cons_zero, List.set_cons_succ, List.getElem_toArray, List.getElem_cons_zero]
          refine wpAnyH_take (i := 1) (v := ?_) rfl (by kernel_rfl) (by kernel_rfl) (by kernel_rfl) (fun _ _ _ h => h) (Or.inl ⟨by rfl, ?_⟩) (by assumption) ?_
          rotate_left 1
          · intro w hSw; clear hSw; go_simp <;> (with_reducible rfl)
          try simp only [Act.put, List.setIfInBounds_toArray, List.set_cons_zero, List.set_cons_succ, List.getElem_toArray, List.getElem_cons_succ, List.getElem_cons_zero]
          refine wpAnyH_ready (rs := [2]) (by kernel_rfl) (by simp) ?_
          refine AllReadyH.cons rfl (fun K hK => ?_) AllReadyH.nil
          go_simp
          (go_at_call 12; (refine (HLY.out _).mono ?_); rintro e w20 ⟨rfl, hb0⟩)
          have hb : Below wr.heap.size wr w20 := ((Below.refl _ _).drew).trans hb0
          have X20 := Lib.hid (X.out.below hb (by omega))
          have Y20 := Lib.hid (Y_.out.below hb (by omega))
          have H20 := Lib.hid (H.out.trans (hb.mono H.out.size))
          have z20 := Nat.lt_of_lt_of_le y4 hb.size
          clear hb hb0
          go_wp2_with fail
          refine hK.out _ _ ⟨X20.out.range, Y20.out.range⟩ (fun hHeld => ?_)
          clear hK K
          try simp only [Act.put, List.setIfInBounds_toArray, List.set_cons_zero, List.set_cons_succ, List.getElem_toArray, List.getElem_cons_succ, List.getElem_cons_zero]
          refine wpAnyH_take (i := 3) (v := ?_) rfl (by kernel_rfl) (by kernel_rfl) (by kernel_rfl) (fun _ _ _ h => h) (Or.inl ⟨by rfl, ?_⟩) (by assumption) ?_
          rotate_left 1
          · intro w hSw; clear hSw; go_simp <;> (with_reducible rfl)
          try simp only [Act.put, List.setIfInBounds_toArray, List.set_cons_zero, List.set_cons_succ, List.getElem_toArray, List.getElem_cons_succ, List.getElem_cons_zero]
          refine wpAnyH_take (i := 4) rfl (by kernel_rfl) (by kernel_rfl) (by kernel_rfl) (fun _ _ _ h => h) (yieldsIf_load_mid (by rfl) 23 (.tmp 4) rfl w.heap.size 0 rfl [.int .i64 V, .int .i64 A, .int .i64 D, .int .i64 lo, .int .i64 hi] _ (fun _ h => h.1) rfl rfl (by kernel_rfl)) (by assumption) ?_
          try simp only [Act.put, List.setIfInBounds_toArray, List.set_cons_zero, List.set_cons_succ, List.getElem_toArray, List.getElem_cons_succ, List.getElem_cons_zero]
          refine wpAnyH_take (i := 5) rfl (by kernel_rfl) (by kernel_rfl) (by kernel_rfl) (fun _ _ _ h => h) (yieldsIf_load_mid (by rfl) 25 (.tmp 5) rfl (w.heap.size + 1) 0 rfl [.int .i64 t, .int .i64 0] _ (fun _ h => h.2) rfl rfl (by kernel_rfl)) (by assumption) ?_
          try simp only [Act.put, List.setIfInBounds_toArray, List.set_cons_zero, List.set_cons_succ, List.getElem_toArray, List.getElem_cons_succ, List.getElem_cons_zero]
          refine wpAnyH_take (i := 6) rfl (by kernel_rfl) (by kernel_rfl) (by kernel_rfl) (fun _ _ _ h => h) (yieldsIf_load_mid (by rfl) 23 (.tmp 4) rfl w.heap.size 0 rfl [.int .i64 V, .int .i64 A, .int .i64 D, .int .i64 lo, .int .i64 hi] _ (fun _ h => h.1) rfl rfl (by kernel_rfl)) (by assumption) ?_
          try simp only [Act.put, List.setIfInBounds_toArray, List.set_cons_zero, List.set_cons_succ, List.getElem_toArray, List.getElem_cons_succ, List.getElem_cons_zero]
          refine wpAnyH_take (i := 7) rfl (by kernel_rfl) (by kernel_rfl) (by kernel_rfl) (fun _ _ _ h => h) (yieldsIf_load_mid (by rfl) 25 (.tmp 5) rfl (w.heap.size + 1) 0 rfl [.int .i64 t, .int .i64 0] _ (fun _ h => h.2) rfl rfl (by kernel_rfl)) (by assumption) ?_
          try simp only [Act.put, List.setIfInBounds_toArray, List.set_cons_zero, List.set_cons_succ, List.getElem_toArray, List.getElem_cons_succ, List.getElem_cons_zero]
          refine wpAnyH_take (i := 8) (v := ?_) rfl (by kernel_rfl) (by kernel_rfl) (by kernel_rfl) (fun _ _ _ h => h) (Or.inl ⟨by rfl, ?_⟩) (by assumption) ?_
          rotate_left 1
          · intro w hSw; clear hSw; go_simp <;> (with_reducible rfl)
          try simp only [Act.put, List.setIfInBounds_toArray, List.set_cons_zero, List.set_cons_succ, List.getElem_toArray, List.getElem_cons_succ, List.getElem_cons_zero]
          refine wpAnyH_take (i := 9) (v := ?_) rfl (by kernel_rfl) (by kernel_rfl) (by kernel_rfl) (fun _ _ _ h => h) (Or.inl ⟨by rfl, ?_⟩) (by assumption) ?_
          rotate_left 1
          · intro w hSw; clear hSw; go_simp <;> (with_reducible rfl)
          try simp only [Act.put, List.setIfInBounds_toArray, List.set_cons_zero, List.set_cons_succ, List.getElem_toArray, List.getElem_cons_succ, List.getElem_cons_zero]
          refine wpAnyH_take (i := 12) rfl (by kernel_rfl) (by kernel_rfl) (by kernel_rfl) (fun _ _ _ h => h) (yieldsIf_load_mid (by rfl) 25 (.tmp 5) rfl (w.heap.size + 1) 0 rfl [.int .i64 t, .int .i64 0] _ (fun _ h => h.2) rfl rfl (by kernel_rfl)) (by assumption) ?_
          try simp only [Act.put, List.setIfInBounds_toArray, List.set_cons_zero, List.set_cons_succ, List.getElem_toArray, List.getElem_cons_succ, List.getElem_cons_zero]
          refine wpAnyH_ready (rs := [10]) (by kernel_rfl) (by simp) ?_
          refine AllReadyH.cons rfl (fun K hK => ?_) AllReadyH.nil
          go_simp
          (go_at_call 16; (refine (HT.out _).mono ?_); rintro e w21 ⟨rfl, hb⟩)
          have X21 := Lib.hid (X20.out.below hb (by omega))
          have Y21 := Lib.hid (Y20.out.below hb (by omega))
          have H21 := Lib.hid (H20.out.trans (hb.mono H20.out.size))
          have z21 := Nat.lt_of_lt_of_le z20 hb.size
          clear hb
          go_wp2_with fail
          refine hK.out _ _ ⟨X21.out.range, Y21.out.range⟩ (fun hHeld => ?_)
          clear hK K
          try simp only [Act.put, List.setIfInBounds_toArray, List.set_cons_zero, List.set_cons_succ, List.getElem_toArray, List.getElem_cons_succ, List.getElem_cons_zero]
          refine wpAnyH_ready (rs := [11]) (by kernel_rfl) (by simp) ?_
          refine AllReadyH.cons rfl (fun K hK => ?_) AllReadyH.nil
          go_simp
          (go_at_call 15; (refine (HST.out _).mono ?_); rintro e w22 ⟨rfl, hb⟩)
          have X22 := X21.out.below hb (by omega)
          have Y22 := Y21.out.below hb (by omega)
          have H22 := Lib.hid (H21.out.trans (hb.mono H21.out.size))
          clear hb
          go_wp2_with fail
          refine hK.out _ _ ⟨X22.range, Y22.range⟩ (fun hHeld => ?_)
          clear hK K
          try simp only [Act.put, List.setIfInBounds_toArray, List.set_cons_zero, List.set_cons_succ, List.getElem_toArray, List.getElem_cons_succ, List.getElem_cons_zero]
          refine wpAnyH_take (i := 13) (v := ?_) rfl (by kernel_rfl) (by kernel_rfl) (by kernel_rfl) (fun _ _ _ h => h) (Or.inl ⟨by rfl, ?_⟩) (by assumption) ?_
          rotate_left 1
          · intro w hSw; clear hSw; go_simp <;> (with_reducible rfl)
          try simp only [Act.put, List.setIfInBounds_toArray, List.set_cons_zero, List.set_cons_succ, List.getElem_toArray, List.getElem_cons_succ, List.getElem_cons_zero]
          refine wpAnyH_take (i := 14) (v := ?_) rfl (by kernel_rfl) (by kernel_rfl) (by kernel_rfl) (fun _ _ _ h => h) (Or.inl ⟨by rfl, ?_⟩) (by assumption) ?_
          rotate_left 1
          · intro w hSw; clear hSw; go_simp <;> (with_reducible rfl)
          try simp only [Act.put, List.setIfInBounds_toArray, List.set_cons_zero, List.set_cons_succ, List.getElem_toArray, List.getElem_cons_succ, List.getElem_cons_zero]
          refine wpAnyH_take (i := 15) (v := ?_) rfl (by kernel_rfl) (by kernel_rfl) (by kernel_rfl) (fun _ _ _ h => h) (Or.inl ⟨by rfl, ?_⟩) (by assumption) ?_
          rotate_left 1
          · intro w hSw; clear hSw; go_simp <;> (with_reducible rfl)
          try simp only [Act.put, List.setIfInBounds_toArray, List.set_cons_zero, List.set_cons_succ, List.getElem_toArray, List.getElem_cons_succ, List.getElem_cons_zero]
          refine wpAnyH_done (by kernel_rfl) ?_ _
          go_wp2
          go_ret
          exact ⟨rfl, H22.out⟩
    · rw [safe_no (fun h => hs h.2)] at hS
      have HS := Lib.hid hS
      clear hS hs hr
      go_enter Try.func6, Try.ntmps6
      go_wp2_with (first | (go_at_call 9; ((with_reducible refine (HK.out _).mono ?_); rintro e w2 ⟨rfl, hb⟩; obtain ⟨x1, x2, x3, x4⟩ := _root_.Go.Proofs.Ytmfigpjofakdnaa.k.boxes2 hb; have X2 := Lib.hid x1; have Y2 := Lib.hid x2; have H2 := Lib.hid x3; obtain ⟨lc0, _, lc1, _, lc2, _, lc3, _, lc4, _, _⟩ := x1; obtain ⟨gc0, _, gc1, _, _⟩ := x2; clear hb x3)) | (go_at_call 11; ((with_reducible refine (HR.out _).mono ?_); rintro e w3 ⟨rfl, hb⟩; have X3 := Lib.hid (X2.out.below hb (by omega)); have Y3 := Lib.hid (Y2.out.below hb (by omega)); have H3 := Lib.hid (H2.out.trans (hb.mono H2.out.size)); have z3 : w.heap.size + 1 < w3.heap.size := Nat.lt_of_lt_of_le x4 hb.size; clear lc0 lc1 lc2 lc3 lc4 gc0 gc1; obtain ⟨lc0, _, lc1, _, lc2, _, lc3, _, lc4, _, _⟩ := X3.out; obtain ⟨gc0, _, gc1, _, _⟩ := Y3.out; clear hb)) | (go_at_call 18; ((with_reducible refine (HS.out _).mono ?_); rintro e w4 ⟨rfl, hb⟩; have X4 := Lib.hid (X3.out.below hb (by omega)); have Y4 := Lib.hid (Y3.out.below hb (by omega)); have H4 := Lib.hid (H3.out.trans (hb.mono H3.out.size)); have z4 : w.heap.size + 1 < w4.heap.size := Nat.lt_of_lt_of_le z3 hb.size; clear lc0 lc1 lc2 lc3 lc4 gc0 gc1; clear hb)))
      go_ret
      exact ⟨rfl, H4.out⟩
  · rw [right_no hr] at hR
    have HR := Lib.hid hR
    clear hR hS hr
    go_enter Try.func6, Try.ntmps6
    go_wp2_with (first | (go_at_call 9; ((with_reducible refine (HK.out _).mono ?_); rintro e w2 ⟨rfl, hb⟩; obtain ⟨x1, x2, x3, x4⟩ := _root_.Go.Proofs.Ytmfigpjofakdnaa.k.boxes2 hb; have X2 := Lib.hid x1; have Y2 := Lib.hid x2; have H2 := Lib.hid x3; obtain ⟨lc0, _, lc1, _, lc2, _, lc3, _, lc4, _, _⟩ := x1; obtain ⟨gc0, _, gc1, _, _⟩ := x2; clear hb x3)) | (go_at_call 11; ((with_reducible refine (HR.out _).mono ?_); rintro e w3 ⟨rfl, hb⟩; have X3 := Lib.hid (X2.out.below hb (by omega)); have Y3 := Lib.hid (Y2.out.below hb (by omega)); have H3 := Lib.hid (H2.out.trans (hb.mono H2.out.size)); have z3 : w.heap.size + 1 < w3.heap.size := Nat.lt_of_lt_of_le x4 hb.size; clear lc0 lc1 lc2 lc3 lc4 gc0 gc1; obtain ⟨lc0, _, lc1, _, lc2, _, lc3, _, lc4, _, _⟩ := X3.out; obtain ⟨gc0, _, gc1, _, _⟩ := Y3.out; clear hb)))
    go_ret
    exact ⟨rfl, H3.out⟩
end Go.Proofs.Ytmfigpjofakdnaa.genLands
