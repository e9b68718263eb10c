/- The walk of the law GenBetween: any limits, any two places, any speed: it returns true, and what was in memory is as it was. -/
import Derived.Test.YtmfigpjofakdnaaGAwake
import Derived.Test.YtmfigpjofakdnaaIRow
namespace Go.Proofs.Ytmfigpjofakdnaa.genBetween
open Go.ChangeShapes Go.WideShapes Go.ChangeAt Go.RowKit Go.Proofs.Ytmfigpjofakdnaa.k Go.Proofs.Ytmfigpjofakdnaa.b Go.Proofs.Ytmfigpjofakdnaa.gn Go.Proofs.Ytmfigpjofakdnaa
set_option linter.unusedVariables false

theorem wide {a : Int} (h : (Lit.int .i64 a).wf = true) : Wide a := k.wf64 h
theorem vel_le {x : Int} (h : 1 ≤ x) : vel x ≤ x := by unfold vel clamp; omega
set_option maxRecDepth 100000 in
set_option maxHeartbeats 8000000 in
theorem walk (V A D lo hi : Int) (p t x : Int) (w : World) (u0 : (Lit.int .i64 V).wf = true) (u1 : (Lit.int .i64 A).wf = true) (u2 : (Lit.int .i64 D).wf = true) (u3 : (Lit.int .i64 lo).wf = true) (u4 : (Lit.int .i64 hi).wf = true) (g0 : (Lit.int .i64 p).wf = true) (g1 : (Lit.int .i64 t).wf = true) (g2 : (Lit.int .i64 x).wf = true) :
    Calls Try.prog 8 #[.agg #[.int .i64 V, .int .i64 A, .int .i64 D, .int .i64 lo, .int .i64 hi], .int .i64 p, .int .i64 t, .int .i64 x] w fun e w' => e = .returned (.bool true) ∧ Below w.heap.size w w' := by
  have hL : WideL ⟨V, A, D, lo, hi⟩ := ⟨wide u0, wide u1, wide u2, wide u3, wide u4⟩
  have HK := Lib.hid fun W => awake_any W
  have hp := wide g0
  have ht := wide g1
  have hx := wide g2
  clear u0 u1 u2 u3 u4 g0 g1 g2
  have hR := fun W => right_any ⟨V, A, D, lo, hi⟩ hL W
  have hS := fun (hr : RightL ⟨V, A, D, lo, hi⟩) W => safe_any ⟨V, A, D, lo, hi⟩ hr p 0 hp (by unfold Wide; omega) W
  dsimp only at hR hS
  by_cases hr : RightL ⟨V, A, D, lo, hi⟩
  · rw [right_yes hr] at hR
    replace hS := hS hr
    have HR := Lib.hid hR
    clear hR
    by_cases hs : SafeP ⟨V, A, D, lo, hi⟩ p 0
    · rw [safe_yes hr hs] at hS
      have HS := Lib.hid hS
      have HQ := Lib.hid hs
      clear hS
      have HRR := Lib.hid hr
      obtain ⟨r1, r2, r3, r4, r5, r6, r7, r8, r9⟩ := hr
      have ⟨s1, s2, _, _, _⟩ := hs
      dsimp only at r1 r2 r3 r4 r5 r6 r7 r8 r9 s1 s2
      clear hs
      by_cases c1 : x < 1
      · go_enter Try.func8, Try.ntmps8
        go_upto_region 4 with ((go_at_call 9; ((with_reducible refine (HK.out _).mono ?_); rintro e w1 ⟨rfl, hb⟩; obtain ⟨x1, x2, x3⟩ := _root_.Go.Proofs.Ytmfigpjofakdnaa.k.boxes1 hb; have X1 := Lib.hid x1; have H1 := Lib.hid x2; clear hb x1 x2)))
        have ha : Below w1.heap.size w1 (w1.alloc (.cells #[.int .i64 p, .int .i64 0] 25)) := (Below.refl _ _).alloc (Nat.le_refl _) _
        have y2 := _root_.Go.Proofs.Ytmfigpjofakdnaa.k.Box.new w1 #[.int .i64 p, .int .i64 0] 25
        have zz : w1.heap.size < (w1.alloc (.cells #[.int .i64 p, .int .i64 0] 25)).heap.size := by simp
        have xx := X1.out.below ha x3
        have hh := H1.out.trans (ha.mono H1.out.size)
        generalize w1.alloc (.cells #[.int .i64 p, .int .i64 0] 25) = w2 at y2 zz xx hh ⊢
        obtain ⟨gg, hgg⟩ : ∃ gg, w1.heap.size = gg := ⟨_, rfl⟩
        rw [hgg] at y2 zz x3 ⊢
        clear hgg ha X1 H1
        have X2 := Lib.hid xx
        have Y2 : Hid (_root_.Go.Proofs.Ytmfigpjofakdnaa.k.Box w2 gg 0 [.int .i64 p, .int .i64 0]) := Lib.hid y2
        have H2 := Lib.hid hh
        obtain ⟨lc0, _, lc1, _, lc2, _, lc3, _, lc4, _, _⟩ := xx
        obtain ⟨gc0, _, gc1, _, _⟩ := y2
        clear hh
        go_wp2_with (first | (go_at_call 11; ((with_reducible refine (HR.out _).mono ?_); rintro e w3 ⟨rfl, hb⟩; have X3 := Lib.hid (X2.out.below hb (by omega)); have Y3 := Lib.hid (Y2.out.below hb (by omega)); have H3 := Lib.hid (H2.out.trans (hb.mono H2.out.size)); have z3 : gg < w3.heap.size := Nat.lt_of_lt_of_le zz hb.size; clear lc0 lc1 lc2 lc3 lc4 gc0 gc1; obtain ⟨lc0, _, lc1, _, lc2, _, lc3, _, lc4, _, _⟩ := X3.out; obtain ⟨gc0, _, gc1, _, _⟩ := Y3.out; clear hb)) | (go_at_call 18; ((with_reducible refine (HS.out _).mono ?_); rintro e w4 ⟨rfl, hb⟩; have X4 := Lib.hid (X3.out.below hb (by omega)); have Y4 := Lib.hid (Y3.out.below hb (by omega)); have H4 := Lib.hid (H3.out.trans (hb.mono H3.out.size)); have z4 : gg < w4.heap.size := Nat.lt_of_lt_of_le z3 hb.size; clear lc0 lc1 lc2 lc3 lc4 gc0 gc1; obtain ⟨lc0, _, lc1, _, lc2, _, lc3, _, lc4, _, _⟩ := X4.out; obtain ⟨gc0, _, gc1, _, _⟩ := Y4.out; clear hb)))
        go_ret
        exact ⟨rfl, H4.out⟩
      by_cases c2 : t < lo
      · go_enter Try.func8, Try.ntmps8
        go_upto_region 4 with ((go_at_call 9; ((with_reducible refine (HK.out _).mono ?_); rintro e w1 ⟨rfl, hb⟩; obtain ⟨x1, x2, x3⟩ := _root_.Go.Proofs.Ytmfigpjofakdnaa.k.boxes1 hb; have X1 := Lib.hid x1; have H1 := Lib.hid x2; clear hb x1 x2)))
        have ha : Below w1.heap.size w1 (w1.alloc (.cells #[.int .i64 p, .int .i64 0] 25)) := (Below.refl _ _).alloc (Nat.le_refl _) _
        have y2 := _root_.Go.Proofs.Ytmfigpjofakdnaa.k.Box.new w1 #[.int .i64 p, .int .i64 0] 25
        have zz : w1.heap.size < (w1.alloc (.cells #[.int .i64 p, .int .i64 0] 25)).heap.size := by simp
        have xx := X1.out.below ha x3
        have hh := H1.out.trans (ha.mono H1.out.size)
        generalize w1.alloc (.cells #[.int .i64 p, .int .i64 0] 25) = w2 at y2 zz xx hh ⊢
        obtain ⟨gg, hgg⟩ : ∃ gg, w1.heap.size = gg := ⟨_, rfl⟩
        rw [hgg] at y2 zz x3 ⊢
        clear hgg ha X1 H1
        have X2 := Lib.hid xx
        have Y2 : Hid (_root_.Go.Proofs.Ytmfigpjofakdnaa.k.Box w2 gg 0 [.int .i64 p, .int .i64 0]) := Lib.hid y2
        have H2 := Lib.hid hh
        obtain ⟨lc0, _, lc1, _, lc2, _, lc3, _, lc4, _, _⟩ := xx
        obtain ⟨gc0, _, gc1, _, _⟩ := y2
        clear hh
        go_wp2_with (first | (go_at_call 11; ((with_reducible refine (HR.out _).mono ?_); rintro e w3 ⟨rfl, hb⟩; have X3 := Lib.hid (X2.out.below hb (by omega)); have Y3 := Lib.hid (Y2.out.below hb (by omega)); have H3 := Lib.hid (H2.out.trans (hb.mono H2.out.size)); have z3 : gg < w3.heap.size := Nat.lt_of_lt_of_le zz hb.size; clear lc0 lc1 lc2 lc3 lc4 gc0 gc1; obtain ⟨lc0, _, lc1, _, lc2, _, lc3, _, lc4, _, _⟩ := X3.out; obtain ⟨gc0, _, gc1, _, _⟩ := Y3.out; clear hb)) | (go_at_call 18; ((with_reducible refine (HS.out _).mono ?_); rintro e w4 ⟨rfl, hb⟩; have X4 := Lib.hid (X3.out.below hb (by omega)); have Y4 := Lib.hid (Y3.out.below hb (by omega)); have H4 := Lib.hid (H3.out.trans (hb.mono H3.out.size)); have z4 : gg < w4.heap.size := Nat.lt_of_lt_of_le z3 hb.size; clear lc0 lc1 lc2 lc3 lc4 gc0 gc1; obtain ⟨lc0, _, lc1, _, lc2, _, lc3, _, lc4, _, _⟩ := X4.out; obtain ⟨gc0, _, gc1, _, _⟩ := Y4.out; clear hb)))
        go_ret
        exact ⟨rfl, H4.out⟩
      by_cases c3 : hi < t
      · go_enter Try.func8, Try.ntmps8
        go_upto_region 4 with ((go_at_call 9; ((with_reducible refine (HK.out _).mono ?_); rintro e w1 ⟨rfl, hb⟩; obtain ⟨x1, x2, x3⟩ := _root_.Go.Proofs.Ytmfigpjofakdnaa.k.boxes1 hb; have X1 := Lib.hid x1; have H1 := Lib.hid x2; clear hb x1 x2)))
        have ha : Below w1.heap.size w1 (w1.alloc (.cells #[.int .i64 p, .int .i64 0] 25)) := (Below.refl _ _).alloc (Nat.le_refl _) _
        have y2 := _root_.Go.Proofs.Ytmfigpjofakdnaa.k.Box.new w1 #[.int .i64 p, .int .i64 0] 25
        have zz : w1.heap.size < (w1.alloc (.cells #[.int .i64 p, .int .i64 0] 25)).heap.size := by simp
        have xx := X1.out.below ha x3
        have hh := H1.out.trans (ha.mono H1.out.size)
        generalize w1.alloc (.cells #[.int .i64 p, .int .i64 0] 25) = w2 at y2 zz xx hh ⊢
        obtain ⟨gg, hgg⟩ : ∃ gg, w1.heap.size = gg := ⟨_, rfl⟩
        rw [hgg] at y2 zz x3 ⊢
        clear hgg ha X1 H1
        have X2 := Lib.hid xx
        have Y2 : Hid (_root_.Go.Proofs.Ytmfigpjofakdnaa.k.Box w2 gg 0 [.int .i64 p, .int .i64 0]) := Lib.hid y2
        have H2 := Lib.hid hh
        obtain ⟨lc0, _, lc1, _, lc2, _, lc3, _, lc4, _, _⟩ := xx
        obtain ⟨gc0, _, gc1, _, _⟩ := y2
        clear hh
        go_wp2_with (first | (go_at_call 11; ((with_reducible refine (HR.out _).mono ?_); rintro e w3 ⟨rfl, hb⟩; have X3 := Lib.hid (X2.out.below hb (by omega)); have Y3 := Lib.hid (Y2.out.below hb (by omega)); have H3 := Lib.hid (H2.out.trans (hb.mono H2.out.size)); have z3 : gg < w3.heap.size := Nat.lt_of_lt_of_le zz hb.size; clear lc0 lc1 lc2 lc3 lc4 gc0 gc1; obtain ⟨lc0, _, lc1, _, lc2, _, lc3, _, lc4, _, _⟩ := X3.out; obtain ⟨gc0, _, gc1, _, _⟩ := Y3.out; clear hb)) | (go_at_call 18; ((with_reducible refine (HS.out _).mono ?_); rintro e w4 ⟨rfl, hb⟩; have X4 := Lib.hid (X3.out.below hb (by omega)); have Y4 := Lib.hid (Y3.out.below hb (by omega)); have H4 := Lib.hid (H3.out.trans (hb.mono H3.out.size)); have z4 : gg < w4.heap.size := Nat.lt_of_lt_of_le z3 hb.size; clear lc0 lc1 lc2 lc3 lc4 gc0 gc1; obtain ⟨lc0, _, lc1, _, lc2, _, lc3, _, lc4, _, _⟩ := X4.out; obtain ⟨gc0, _, gc1, _, _⟩ := Y4.out; clear hb)))
        go_ret
        exact ⟨rfl, H4.out⟩
      by_cases c4 : 1000 < t - p
      · go_enter Try.func8, Try.ntmps8
        go_upto_region 4 with ((go_at_call 9; ((with_reducible refine (HK.out _).mono ?_); rintro e w1 ⟨rfl, hb⟩; obtain ⟨x1, x2, x3⟩ := _root_.Go.Proofs.Ytmfigpjofakdnaa.k.boxes1 hb; have X1 := Lib.hid x1; have H1 := Lib.hid x2; clear hb x1 x2)))
        have ha : Below w1.heap.size w1 (w1.alloc (.cells #[.int .i64 p, .int .i64 0] 25)) := (Below.refl _ _).alloc (Nat.le_refl _) _
        have y2 := _root_.Go.Proofs.Ytmfigpjofakdnaa.k.Box.new w1 #[.int .i64 p, .int .i64 0] 25
        have zz : w1.heap.size < (w1.alloc (.cells #[.int .i64 p, .int .i64 0] 25)).heap.size := by simp
        have xx := X1.out.below ha x3
        have hh := H1.out.trans (ha.mono H1.out.size)
        generalize w1.alloc (.cells #[.int .i64 p, .int .i64 0] 25) = w2 at y2 zz xx hh ⊢
        obtain ⟨gg, hgg⟩ : ∃ gg, w1.heap.size = gg := ⟨_, rfl⟩
        rw [hgg] at y2 zz x3 ⊢
        clear hgg ha X1 H1
        have X2 := Lib.hid xx
        have Y2 : Hid (_root_.Go.Proofs.Ytmfigpjofakdnaa.k.Box w2 gg 0 [.int .i64 p, .int .i64 0]) := Lib.hid y2
        have H2 := Lib.hid hh
        obtain ⟨lc0, _, lc1, _, lc2, _, lc3, _, lc4, _, _⟩ := xx
        obtain ⟨gc0, _, gc1, _, _⟩ := y2
        clear hh
        go_wp2_with (first | (go_at_call 11; ((with_reducible refine (HR.out _).mono ?_); rintro e w3 ⟨rfl, hb⟩; have X3 := Lib.hid (X2.out.below hb (by omega)); have Y3 := Lib.hid (Y2.out.below hb (by omega)); have H3 := Lib.hid (H2.out.trans (hb.mono H2.out.size)); have z3 : gg < w3.heap.size := Nat.lt_of_lt_of_le zz hb.size; clear lc0 lc1 lc2 lc3 lc4 gc0 gc1; obtain ⟨lc0, _, lc1, _, lc2, _, lc3, _, lc4, _, _⟩ := X3.out; obtain ⟨gc0, _, gc1, _, _⟩ := Y3.out; clear hb)) | (go_at_call 18; ((with_reducible refine (HS.out _).mono ?_); rintro e w4 ⟨rfl, hb⟩; have X4 := Lib.hid (X3.out.below hb (by omega)); have Y4 := Lib.hid (Y3.out.below hb (by omega)); have H4 := Lib.hid (H3.out.trans (hb.mono H3.out.size)); have z4 : gg < w4.heap.size := Nat.lt_of_lt_of_le z3 hb.size; clear lc0 lc1 lc2 lc3 lc4 gc0 gc1; obtain ⟨lc0, _, lc1, _, lc2, _, lc3, _, lc4, _, _⟩ := X4.out; obtain ⟨gc0, _, gc1, _, _⟩ := Y4.out; clear hb)))
        go_ret
        exact ⟨rfl, H4.out⟩
      by_cases c5 : 1000 < p - t
      · go_enter Try.func8, Try.ntmps8
        go_upto_region 4 with ((go_at_call 9; ((with_reducible refine (HK.out _).mono ?_); rintro e w1 ⟨rfl, hb⟩; obtain ⟨x1, x2, x3⟩ := _root_.Go.Proofs.Ytmfigpjofakdnaa.k.boxes1 hb; have X1 := Lib.hid x1; have H1 := Lib.hid x2; clear hb x1 x2)))
        have ha : Below w1.heap.size w1 (w1.alloc (.cells #[.int .i64 p, .int .i64 0] 25)) := (Below.refl _ _).alloc (Nat.le_refl _) _
        have y2 := _root_.Go.Proofs.Ytmfigpjofakdnaa.k.Box.new w1 #[.int .i64 p, .int .i64 0] 25
        have zz : w1.heap.size < (w1.alloc (.cells #[.int .i64 p, .int .i64 0] 25)).heap.size := by simp
        have xx := X1.out.below ha x3
        have hh := H1.out.trans (ha.mono H1.out.size)
        generalize w1.alloc (.cells #[.int .i64 p, .int .i64 0] 25) = w2 at y2 zz xx hh ⊢
        obtain ⟨gg, hgg⟩ : ∃ gg, w1.heap.size = gg := ⟨_, rfl⟩
        rw [hgg] at y2 zz x3 ⊢
        clear hgg ha X1 H1
        have X2 := Lib.hid xx
        have Y2 : Hid (_root_.Go.Proofs.Ytmfigpjofakdnaa.k.Box w2 gg 0 [.int .i64 p, .int .i64 0]) := Lib.hid y2
        have H2 := Lib.hid hh
        obtain ⟨lc0, _, lc1, _, lc2, _, lc3, _, lc4, _, _⟩ := xx
        obtain ⟨gc0, _, gc1, _, _⟩ := y2
        clear hh
        go_wp2_with (first | (go_at_call 11; ((with_reducible refine (HR.out _).mono ?_); rintro e w3 ⟨rfl, hb⟩; have X3 := Lib.hid (X2.out.below hb (by omega)); have Y3 := Lib.hid (Y2.out.below hb (by omega)); have H3 := Lib.hid (H2.out.trans (hb.mono H2.out.size)); have z3 : gg < w3.heap.size := Nat.lt_of_lt_of_le zz hb.size; clear lc0 lc1 lc2 lc3 lc4 gc0 gc1; obtain ⟨lc0, _, lc1, _, lc2, _, lc3, _, lc4, _, _⟩ := X3.out; obtain ⟨gc0, _, gc1, _, _⟩ := Y3.out; clear hb)) | (go_at_call 18; ((with_reducible refine (HS.out _).mono ?_); rintro e w4 ⟨rfl, hb⟩; have X4 := Lib.hid (X3.out.below hb (by omega)); have Y4 := Lib.hid (Y3.out.below hb (by omega)); have H4 := Lib.hid (H3.out.trans (hb.mono H3.out.size)); have z4 : gg < w4.heap.size := Nat.lt_of_lt_of_le z3 hb.size; clear lc0 lc1 lc2 lc3 lc4 gc0 gc1; obtain ⟨lc0, _, lc1, _, lc2, _, lc3, _, lc4, _, _⟩ := X4.out; obtain ⟨gc0, _, gc1, _, _⟩ := Y4.out; clear hb)))
        go_ret
        exact ⟨rfl, H4.out⟩
      have e1 : 1 ≤ x := by omega
      have e2 : lo ≤ t := by omega
      have e3 : t ≤ hi := by omega
      have e4 : t - p ≤ 1000 := by omega
      have e5 : p - t ≤ 1000 := by omega
      have f3 : decide (hi < t) = false := decide_eq_false c3
      clear c1 c2 c3 c4 c5
      have hvl := vel_le e1
      have hN : Nears ⟨V, A, D, lo, hi⟩ t (vel x) p 0 := ⟨HQ.out, by have := vel_one e1; show max (0 : Int) (-0) ≤ min (vel x) V; omega, by rcases Int.lt_or_le t p with h | h; exact .inr ⟨by omega, by rw [show (-0 : Int) = 0 by rfl, slow_zero r5]; omega⟩; exact .inl ⟨by omega, by rw [slow_zero r5]; omega⟩⟩
      have HN := Lib.hid hN
      have HVL := Lib.hid hvl
      clear hN hvl
      go_enter Try.func8, Try.ntmps8
      go_upto_region 4 with ((go_at_call 9; ((with_reducible refine (HK.out _).mono ?_); rintro e w1 ⟨rfl, hb⟩; obtain ⟨x1, x2, x3⟩ := _root_.Go.Proofs.Ytmfigpjofakdnaa.k.boxes1 hb; have X1 := Lib.hid x1; have H1 := Lib.hid x2; clear hb x1 x2)))
      have ha : Below w1.heap.size w1 (w1.alloc (.cells #[.int .i64 p, .int .i64 0] 25)) := (Below.refl _ _).alloc (Nat.le_refl _) _
      have y2 := _root_.Go.Proofs.Ytmfigpjofakdnaa.k.Box.new w1 #[.int .i64 p, .int .i64 0] 25
      have zz : w1.heap.size < (w1.alloc (.cells #[.int .i64 p, .int .i64 0] 25)).heap.size := by simp
      have xx := X1.out.below ha x3
      have hh := H1.out.trans (ha.mono H1.out.size)
      generalize w1.alloc (.cells #[.int .i64 p, .int .i64 0] 25) = w2 at y2 zz xx hh ⊢
      obtain ⟨gg, hgg⟩ : ∃ gg, w1.heap.size = gg := ⟨_, rfl⟩
      rw [hgg] at y2 zz x3 ⊢
      clear hgg ha X1 H1
      have X2 := Lib.hid xx
      have Y2 : Hid (_root_.Go.Proofs.Ytmfigpjofakdnaa.k.Box w2 gg 0 [.int .i64 p, .int .i64 0]) := Lib.hid y2
      have H2 := Lib.hid hh
      obtain ⟨lc0, _, lc1, _, lc2, _, lc3, _, lc4, _, _⟩ := xx
      obtain ⟨gc0, _, gc1, _, _⟩ := y2
      clear hh
      go_wp2_with (first | (go_at_call 11; ((with_reducible refine (HR.out _).mono ?_); rintro e w3 ⟨rfl, hb⟩; have X3 := Lib.hid (X2.out.below hb (by omega)); have Y3 := Lib.hid (Y2.out.below hb (by omega)); have H3 := Lib.hid (H2.out.trans (hb.mono H2.out.size)); have z3 : gg < w3.heap.size := Nat.lt_of_lt_of_le zz hb.size; clear lc0 lc1 lc2 lc3 lc4 gc0 gc1; obtain ⟨lc0, _, lc1, _, lc2, _, lc3, _, lc4, _, _⟩ := X3.out; obtain ⟨gc0, _, gc1, _, _⟩ := Y3.out; clear hb)) | (go_at_call 18; ((with_reducible refine (HS.out _).mono ?_); rintro e w4 ⟨rfl, hb⟩; have X4 := Lib.hid (X3.out.below hb (by omega)); have Y4 := Lib.hid (Y3.out.below hb (by omega)); have H4 := Lib.hid (H3.out.trans (hb.mono H3.out.size)); have z4 : gg < w4.heap.size := Nat.lt_of_lt_of_le z3 hb.size; clear lc0 lc1 lc2 lc3 lc4 gc0 gc1; obtain ⟨lc0, _, lc1, _, lc2, _, lc3, _, lc4, _, _⟩ := X4.out; obtain ⟨gc0, _, gc1, _, _⟩ := Y4.out; clear hb)))
      go_loopw [10] (fun i wr => ∃ (q p' v : Int), i = .int .i64 q ∧ 0 ≤ q ∧ q + max (t - p') (p' - t) ≤ 1000 ∧ (p ≤ t → p ≤ p' ∧ p' ≤ t) ∧ (t ≤ p → t ≤ p' ∧ p' ≤ p) ∧ Nears ⟨V, A, D, lo, hi⟩ t (vel x) p' v ∧ _root_.Go.Proofs.Ytmfigpjofakdnaa.k.Box wr w.heap.size 0 [.int .i64 V, .int .i64 A, .int .i64 D, .int .i64 lo, .int .i64 hi] ∧ _root_.Go.Proofs.Ytmfigpjofakdnaa.k.Box wr gg 0 [.int .i64 p', .int .i64 v] ∧ Below w.heap.size w wr ∧ gg < wr.heap.size) (fun i _ => (3000 - intOf i).toNat)
      case atStart => exact ⟨0, p, 0, rfl, by omega, by omega, by omega, by omega, HN.out, X4.out, Y4.out, H4.out, z4⟩
      case round =>
        obtain ⟨q, p', v', rfl, q0, q4, hb1, hb2, hPP, y1, y2, y3, y4⟩ := hrel
        clear X2 Y2 H2 X3 Y3 H3 X4 Y4 H4 HQ HS HR HK HN lc0 lc1 lc2 lc3 lc4 gc0 gc1 hp
        have X := Lib.hid y1
        have Y := Lib.hid y2
        have H := Lib.hid y3
        have hgw : w.heap.size < gg := x3
        clear y1 y2 y3
        obtain ⟨gc0, gf0, gc1, gf1, _⟩ := Y.out
        obtain ⟨lc0, _, lc1, _, lc2, _, lc3, _, lc4, _, _⟩ := X.out
        have hsP := hPP.safe
        have ⟨m1, m2, m3, m4, _⟩ := hsP
        dsimp only at m1 m2
        have hq6 : q < 1500 := by omega
        by_cases hne : p' = t
        · subst hne
          clear hPP hsP hb1 hb2 q4
          go_wp2
          go_ret
          exact ⟨rfl, H.out⟩
        · have hneb : (p' != t) = true := by simpa using hne
          obtain ⟨n0, n1, n2, n3⟩ := near_step HRR.out hPP e2 e3 e1 hne
          have hto := fun W => to_ok ⟨V, A, D, lo, hi⟩ HRR.out p' v' hsP t x ht hx W
          have hti := to_in HRR.out (v := v') (t := t) (x := x) hsP.1 hsP.2.1
          obtain ⟨z, hz⟩ : ∃ z, toV ⟨V, A, D, lo, hi⟩ p' v' t x = z := ⟨_, rfl⟩
          rw [hz] at hto hti n0 n1 n2 n3
          have hst := fun W => step_ok ⟨V, A, D, lo, hi⟩ HRR.out p' v' hsP z (by unfold Wide; omega) W
          obtain ⟨y, hy⟩ : ∃ y, stepV ⟨V, A, D, lo, hi⟩ p' v' z = y := ⟨_, rfl⟩
          rw [hy] at hst n0 n1 n2 n3
          dsimp only at hto hst
          have k1 := n0.safe.2.2.2.1
          have k0 := n0.safe.2.2.1
          have k2 := n0.safe.2.1
          have k3 := n0.safe.1
          have k4 := n0.cap
          dsimp only at k2 k3 k4
          have k5 := HVL.out
          have j1 : min p t ≤ p' + y := by omega
          have j2 : p' + y ≤ max p t := by omega
          have j3 : max y (-y) ≤ min x V := by omega
          have i1 : p ≤ t → p ≤ p' + y ∧ p' + y ≤ t := fun a => by have := hb1 a; omega
          have i2 : t ≤ p → t ≤ p' + y ∧ p' + y ≤ p := fun a => by have := hb2 a; omega
          have HI := Lib.hid (And.intro i1 i2)
          have HN0 := Lib.hid n0
          have HN1 := Lib.hid n1
          have HT := Lib.hid hto
          have HST := Lib.hid hst
          have hq7 : q + 1 + max (t - (p' + y)) (p' + y - t) ≤ 1000 := by omega
          have HQ7 := Lib.hid hq7
          clear hto hti hst hz hy n0 n1 n2 n3 hPP hsP hb1 hb2 i1 i2 hne k4 k5 hq7 q4
          go_upto_region 9 with (fail)
          clear gc0 gf0 gc1 gf1 lc0 lc1 lc2 lc3 lc4
          go_cut [11] from 55 to 123 (fun q8 wx => ∃ gx : Nat, q8 = .pointer (some ⟨gx, 0, none⟩) ∧ _root_.Go.Proofs.Ytmfigpjofakdnaa.k.Box wx gx 0 [.int .i64 (p' + y), .int .i64 y] ∧ _root_.Go.Proofs.Ytmfigpjofakdnaa.k.Box wx w.heap.size 0 [.int .i64 V, .int .i64 A, .int .i64 D, .int .i64 lo, .int .i64 hi] ∧ _root_.Go.Proofs.Ytmfigpjofakdnaa.k.Box wx gg 0 [.int .i64 p', .int .i64 v'] ∧ Below w.heap.size w wx ∧ gg < gx ∧ gx < wx.heap.size)
          case first =>
            refine wp_region_held_drew (S := (fun w' => World.rangeAt w' w.heap.size 0 [.int .i64 V, .int .i64 A, .int .i64 D, .int .i64 lo, .int .i64 hi] ∧ World.rangeAt w' gg 0 [.int .i64 p', .int .i64 v'])) (by kernel_rfl) ⟨X.out.range, Y.out.range⟩ (fun hHeld => ?_)
            refine wpAnyH_take (i := 0) rfl (by kernel_rfl) (by kernel_rfl) (by kernel_rfl) (fun _ _ _ h => h) (yieldsIf_load_mid (by rfl) 23 (.tmp 4) rfl w.heap.size 0 rfl [.int .i64 V, .int .i64 A, .int .i64 D, .int .i64 lo, .int .i64 hi] _ (fun _ h => h.1) rfl rfl (by kernel_rfl)) (by assumption) ?_
            try simp only [Act.put, List.setIfInBounds_toArray, List.set_cons_zero, List.set_cons_succ, List.getElem_toArray, List.getElem_cons_zero]
            refine wpAnyH_take (i := 1) rfl (by kernel_rfl) (by kernel_rfl) (by kernel_rfl) (fun _ _ _ h => h) (yieldsIf_load_mid (by rfl) 25 (.tmp 9) rfl gg 0 rfl [.int .i64 p', .int .i64 v'] _ (fun _ h => h.2) rfl rfl (by kernel_rfl)) (by assumption) ?_
            try simp only [Act.put, List.setIfInBounds_toArray, List.set_cons_zero, List.set_cons_succ, List.getElem_toArray, List.getElem_cons_succ, List.getElem_cons_zero]
            refine wpAnyH_take (i := 2) rfl (by kernel_rfl) (by kernel_rfl) (by kernel_rfl) (fun _ _ _ h => h) (yieldsIf_load_mid (by rfl) 23 (.tmp 4) rfl w.heap.size 0 rfl [.int .i64 V, .int .i64 A, .int .i64 D, .int .i64 lo, .int .i64 hi] _ (fun _ h => h.1) rfl rfl (by kernel_rfl)) (by assumption) ?_
            try simp only [Act.put, List.setIfInBounds_toArray, List.set_cons_zero, List.set_cons_succ, List.getElem_toArray, List.getElem_cons_succ, List.getElem_cons_zero]
            refine wpAnyH_take (i := 3) rfl (by kernel_rfl) (by kernel_rfl) (by kernel_rfl) (fun _ _ _ h => h) (yieldsIf_load_mid (by rfl) 25 (.tmp 9) rfl gg 0 rfl [.int .i64 p', .int .i64 v'] _ (fun _ h => h.2) rfl rfl (by kernel_rfl)) (by assumption) ?_
            try simp only [Act.put, List.setIfInBounds_toArray, List.set_cons_zero, List.set_cons_succ, List.getElem_toArray, List.getElem_cons_succ, List.getElem_cons_zero]
            refine wpAnyH_take (i := 4) (v := ?_) rfl (by kernel_rfl) (by kernel_rfl) (by kernel_rfl) (fun _ _ _ h => h) (Or.inl ⟨by rfl, ?_⟩) (by assumption) ?_
            rotate_left 1
            · intro w hSw; clear hSw; go_simp <;> (with_reducible rfl)
            try simp only [Act.put, List.setIfInBounds_toArray, List.set_cons_zero, List.set_cons_succ, List.getElem_toArray, List.getElem_cons_succ, List.getElem_cons_zero]
            refine wpAnyH_take (i := 5) (v := ?_) rfl (by kernel_rfl) (by kernel_rfl) (by kernel_rfl) (fun _ _ _ h => h) (Or.inl ⟨by rfl, ?_⟩) (by assumption) ?_
            rotate_left 1
            · intro w hSw; clear hSw; go_simp <;> (with_reducible rfl)
            try simp only [Act.put, List.setIfInBounds_toArray, List.set_cons_zero, List.set_cons_succ, List.getElem_toArray, List.getElem_cons_succ, List.getElem_cons_zero]
            refine wpAnyH_ready (rs := [6, 8]) (by kernel_rfl) (by simp) ?_
            refine AllReadyH.cons rfl (fun K hK => ?_) (AllReadyH.cons rfl (fun K hK => ?_) AllReadyH.nil)
            · go_simp
              (go_at_call 16; (refine (HT.out _).mono ?_); rintro e w5 ⟨rfl, hb0⟩)
              have hb : Below wr.heap.size wr w5 := ((Below.refl _ _).drew).trans hb0
              have A1 := Lib.hid (X.out.below hb (by omega))
              have A2 := Lib.hid (Y.out.below hb (by omega))
              have A4 := Lib.hid (H.out.trans (hb.mono H.out.size))
              have a5 : gg < w5.heap.size := Nat.lt_of_lt_of_le y4 hb.size
              clear hb
              clear hb0
              go_wp2_with fail
              refine hK.out _ _ ⟨A1.out.range, A2.out.range⟩ (fun hHeld => ?_)
              clear hK K
              try simp only [Act.put, List.setIfInBounds_toArray, List.set_cons_zero, List.set_cons_succ, List.getElem_toArray, List.getElem_cons_succ, List.getElem_cons_zero]
              refine wpAnyH_ready (rs := [7, 8]) (by kernel_rfl) (by simp) ?_
              refine AllReadyH.cons rfl (fun K hK => ?_) (AllReadyH.cons rfl (fun K hK => ?_) AllReadyH.nil)
              · go_simp
                (go_at_call 15; (refine (HST.out _).mono ?_); rintro e w6 ⟨rfl, hb⟩)
                have B1 := A1.out.below hb (by omega)
                have B2 := A2.out.below hb (by omega)
                have B4 := A4.out.trans (hb.mono (by omega))
                have b5 : gg < w6.heap.size := Nat.lt_of_lt_of_le a5 hb.size
                clear hb
                go_wp2_with fail
                refine hK.out _ _ ⟨B1.range, B2.range⟩ (fun hHeld => ?_)
                clear hK K
                try simp only [Act.put, List.setIfInBounds_toArray, List.set_cons_zero, List.set_cons_succ, List.getElem_toArray, List.getElem_cons_succ, List.getElem_cons_zero]
                refine wpAnyH_ready (rs := [8]) (by kernel_rfl) (by simp) ?_
                refine AllReadyH.cons rfl (fun K hK => ?_) AllReadyH.nil
                go_simp
                have ha : Below w6.heap.size w6 (w6.alloc (.cells #[.int .i64 0, .int .i64 0] 25)) := (Below.refl _ _).alloc (Nat.le_refl _) _
                have C1 := B1.below ha (by omega)
                have C2 := B2.below ha (by omega)
                have C4 := B4.trans (ha.mono (by omega))
                refine hK.out _ _ ⟨C1.range, C2.range⟩ (fun hHeld => ?_)
                have n6 := _root_.Go.Proofs.Ytmfigpjofakdnaa.k.Box.new w6 #[.int .i64 0, .int .i64 0] 25
                have z6 : w6.heap.size < (w6.alloc (.cells #[.int .i64 0, .int .i64 0] 25)).heap.size := by simp
                clear B1 B2 B4
                have B1 := C1
                have B2 := C2
                have B4 := C4
                clear C1 C2 C4
                generalize w6.alloc (.cells #[.int .i64 0, .int .i64 0] 25) = w7 at B1 B2 B4 n6 z6 ⊢
                have z7 : gg < w6.heap.size := b5
                generalize w6.heap.size = gx at n6 z6 z7 ⊢
                clear hK K ha
                try simp only [Act.put, List.setIfInBounds_toArray, List.set_cons_zero, List.set_cons_succ, List.getElem_toArray, List.getElem_cons_succ, List.getElem_cons_zero]
                refine wpAnyH_ready (rs := [9]) (by kernel_rfl) (by simp) ?_
                refine AllReadyH.cons rfl (fun K hK => ?_) AllReadyH.nil
                rw [if_pos (by rfl)]
                obtain ⟨W, hW, h1, h2, h3, h5⟩ := _root_.Go.Proofs.Ytmfigpjofakdnaa.k.stored (us := [.int .i64 (p' + y), .int .i64 y]) n6 rfl
                refine wp_store_mid 25 (.tmp 11) (.tmp 72) rfl gx 0 #[.int .i64 (p' + y), .int .i64 y] rfl rfl (_root_.Go.Proofs.Ytmfigpjofakdnaa.k.there_of n6 rfl) (by kernel_rfl) (by simp [Value.oneCell']) ?_
                change K _ (World.setCells _ _ _ [.int .i64 (p' + y), .int .i64 y])
                rw [hW]
                have bW := h3 gx (Nat.le_refl _)
                have X7 := B1.below bW (by omega)
                have Y7 := B2.below bW (by omega)
                have H7 := B4.trans (h3 _ (by omega))
                refine hK.out _ _ ⟨X7.range, Y7.range⟩ (fun hHeld => ?_)
                have z8 : gx < W.heap.size := by omega
                clear hK K hW h2 h3 h5
                try simp only [Act.put, List.getElem_toArray, List.getElem_cons_succ, List.getElem_cons_zero]
                refine wpAnyH_done (by kernel_rfl) ?_ _
                go_wp2_with fail
                go_meet
                case rel => exact ⟨gx, rfl, h1, X7, Y7, H7, z7, z8⟩
              · go_simp
                have ha : Below w5.heap.size w5 (w5.alloc (.cells #[.int .i64 0, .int .i64 0] 25)) := (Below.refl _ _).alloc (Nat.le_refl _) _
                have C1 := A1.out.below ha (by omega)
                have C2 := A2.out.below ha (by omega)
                have C4 := A4.out.trans (ha.mono A4.out.size)
                refine hK.out _ _ ⟨C1.range, C2.range⟩ (fun hHeld => ?_)
                have n5 := _root_.Go.Proofs.Ytmfigpjofakdnaa.k.Box.new w5 #[.int .i64 0, .int .i64 0] 25
                have z6 : w5.heap.size < (w5.alloc (.cells #[.int .i64 0, .int .i64 0] 25)).heap.size := by simp
                generalize w5.alloc (.cells #[.int .i64 0, .int .i64 0] 25) = w7 at C1 C2 C4 n5 z6 ⊢
                have z7 : gg < w5.heap.size := a5
                generalize w5.heap.size = gx at n5 z6 z7 ⊢
                have c5 : gg < w7.heap.size := by omega
                have hs7 : w.heap.size ≤ w7.heap.size := C4.size
                clear hK K ha
                try simp only [Act.put, List.setIfInBounds_toArray, List.set_cons_zero, List.set_cons_succ, List.getElem_toArray, List.getElem_cons_succ, List.getElem_cons_zero]
                refine wpAnyH_ready (rs := [7]) (by kernel_rfl) (by simp) ?_
                refine AllReadyH.cons rfl (fun K hK => ?_) AllReadyH.nil
                go_simp
                (go_at_call 15; (refine (HST.out _).mono ?_); rintro e w6 ⟨rfl, hb⟩)
                have B1 := C1.below hb (by omega)
                have B2 := C2.below hb (by omega)
                have B4 := C4.trans (hb.mono (by omega))
                have b5 : gg < w6.heap.size := Nat.lt_of_lt_of_le c5 hb.size
                have n6 := n5.below hb z6
                have z9 := Nat.lt_of_lt_of_le z6 hb.size
                clear hb
                go_wp2_with fail
                refine hK.out _ _ ⟨B1.range, B2.range⟩ (fun hHeld => ?_)
                clear hK K
                try simp only [Act.put, List.setIfInBounds_toArray, List.set_cons_zero, List.set_cons_succ, List.getElem_toArray, List.getElem_cons_succ, List.getElem_cons_zero]
                refine wpAnyH_ready (rs := [9]) (by kernel_rfl) (by simp) ?_
                refine AllReadyH.cons rfl (fun K hK => ?_) AllReadyH.nil
                rw [if_pos (by rfl)]
                obtain ⟨W, hW, h1, h2, h3, h5⟩ := _root_.Go.Proofs.Ytmfigpjofakdnaa.k.stored (us := [.int .i64 (p' + y), .int .i64 y]) n6 rfl
                refine wp_store_mid 25 (.tmp 11) (.tmp 72) rfl gx 0 #[.int .i64 (p' + y), .int .i64 y] rfl rfl (_root_.Go.Proofs.Ytmfigpjofakdnaa.k.there_of n6 rfl) (by kernel_rfl) (by simp [Value.oneCell']) ?_
                change K _ (World.setCells _ _ _ [.int .i64 (p' + y), .int .i64 y])
                rw [hW]
                have bW := h3 gx (Nat.le_refl _)
                have X7 := B1.below bW (by omega)
                have Y7 := B2.below bW (by omega)
                have H7 := B4.trans (h3 _ (by omega))
                refine hK.out _ _ ⟨X7.range, Y7.range⟩ (fun hHeld => ?_)
                have z8 : gx < W.heap.size := by omega
                clear hK K hW h2 h3 h5
                try simp only [Act.put, List.getElem_toArray, List.getElem_cons_succ, List.getElem_cons_zero]
                refine wpAnyH_done (by kernel_rfl) ?_ _
                go_wp2_with fail
                go_meet
                case rel => exact ⟨gx, rfl, h1, X7, Y7, H7, z7, z8⟩
            · go_simp
              have ha : Below wr.heap.size wr ((wr.alloc (.cells #[.int .i64 0, .int .i64 0] 25)).drew) := ((Below.refl _ _).alloc (Nat.le_refl _) _).drew
              refine hK.out _ _ ⟨(X.out.below ha (by omega)).range, (Y.out.below ha (by omega)).range⟩ (fun hHeld => ?_)
              clear hK K
              try simp only [Act.put, List.setIfInBounds_toArray, List.set_cons_zero, List.set_cons_succ, List.getElem_toArray, List.getElem_cons_succ, List.getElem_cons_zero]
              refine wpAnyH_ready (rs := [6]) (by kernel_rfl) (by simp) ?_
              refine AllReadyH.cons rfl (fun K hK => ?_) AllReadyH.nil
              go_simp
              (go_at_call 16; (refine (HT.out _).mono ?_); rintro e w5 ⟨rfl, hb0⟩)
              have hb : Below wr.heap.size wr w5 := ha.trans (hb0.mono ha.size)
              have A1 := Lib.hid (X.out.below hb (by omega))
              have A2 := Lib.hid (Y.out.below hb (by omega))
              have A4 := Lib.hid (H.out.trans (hb.mono H.out.size))
              have a5 : gg < w5.heap.size := Nat.lt_of_lt_of_le y4 hb.size
              have n5 : _root_.Go.Proofs.Ytmfigpjofakdnaa.k.Box w5 wr.heap.size 0 [.int .i64 0, .int .i64 0] := (_root_.Go.Proofs.Ytmfigpjofakdnaa.k.Box.new wr #[.int .i64 0, .int .i64 0] 25).below ((Below.refl _ _).drew.trans hb0) (by simp)
              have z6 : wr.heap.size < w5.heap.size := by have := hb0.size; simp at this; omega
              have z7 : gg < wr.heap.size := y4
              clear hb0 ha
              obtain ⟨gx, hgx⟩ : ∃ gx, wr.heap.size = gx := ⟨_, rfl⟩
              rw [hgx] at n5 z6 z7 ⊢
              clear hgx
              go_wp2_with fail
              refine hK.out _ _ ⟨A1.out.range, A2.out.range⟩ (fun hHeld => ?_)
              clear hK K
              try simp only [Act.put, List.setIfInBounds_toArray, List.set_cons_zero, List.set_cons_succ, List.getElem_toArray, List.getElem_cons_succ, List.getElem_cons_zero]
              refine wpAnyH_ready (rs := [7]) (by kernel_rfl) (by simp) ?_
              refine AllReadyH.cons rfl (fun K hK => ?_) AllReadyH.nil
              go_simp
              (go_at_call 15; (refine (HST.out _).mono ?_); rintro e w6 ⟨rfl, hb⟩)
              have B1 := A1.out.below hb (by omega)
              have B2 := A2.out.below hb (by omega)
              have B4 := A4.out.trans (hb.mono (by omega))
              have b5 : gg < w6.heap.size := Nat.lt_of_lt_of_le a5 hb.size
              have n6 := n5.below hb z6
              have z9 := Nat.lt_of_lt_of_le z6 hb.size
              clear hb
              go_wp2_with fail
              refine hK.out _ _ ⟨B1.range, B2.range⟩ (fun hHeld => ?_)
              clear hK K
              try simp only [Act.put, List.setIfInBounds_toArray, List.set_cons_zero, List.set_cons_succ, List.getElem_toArray, List.getElem_cons_succ, List.getElem_cons_zero]
              refine wpAnyH_ready (rs := [9]) (by kernel_rfl) (by simp) ?_
              refine AllReadyH.cons rfl (fun K hK => ?_) AllReadyH.nil
              rw [if_pos (by rfl)]
              obtain ⟨W, hW, h1, h2, h3, h5⟩ := _root_.Go.Proofs.Ytmfigpjofakdnaa.k.stored (us := [.int .i64 (p' + y), .int .i64 y]) n6 rfl
              refine wp_store_mid 25 (.tmp 11) (.tmp 72) rfl gx 0 #[.int .i64 (p' + y), .int .i64 y] rfl rfl (_root_.Go.Proofs.Ytmfigpjofakdnaa.k.there_of n6 rfl) (by kernel_rfl) (by simp [Value.oneCell']) ?_
              change K _ (World.setCells _ _ _ [.int .i64 (p' + y), .int .i64 y])
              rw [hW]
              have bW := h3 gx (Nat.le_refl _)
              have X7 := B1.below bW (by omega)
              have Y7 := B2.below bW (by omega)
              have H7 := B4.trans (h3 _ (by omega))
              refine hK.out _ _ ⟨X7.range, Y7.range⟩ (fun hHeld => ?_)
              have z8 : gx < W.heap.size := by omega
              clear hK K hW h2 h3 h5
              try simp only [Act.put, List.getElem_toArray, List.getElem_cons_succ, List.getElem_cons_zero]
              refine wpAnyH_done (by kernel_rfl) ?_ _
              go_wp2_with fail
              go_meet
              case rel => exact ⟨gx, rfl, h1, X7, Y7, H7, z7, z8⟩
          case rest =>
            obtain ⟨gx, rfl, o1, o2, o3, o4, o5, o6⟩ := hcut
            have X9 := Lib.hid o2
            have Y9 := Lib.hid o3
            have H9 := Lib.hid o4
            obtain ⟨lc0, _, lc1, _, lc2, _, lc3, _, lc4, _, _⟩ := o2
            obtain ⟨gc0, gf0, gc1, gf1, _⟩ := o3
            obtain ⟨nc0, _, nc1, _, _⟩ := o1
            clear o4 X Y H
            have w1 : IntKind.i64.wrap (t - p') = t - p' := IntWalk.i64_in _ (by omega)
            have w2 : IntKind.i64.wrap (p' - t) = p' - t := IntWalk.i64_in _ (by omega)
            have w3 : IntKind.i64.wrap (t - (p' + y)) = t - (p' + y) := IntWalk.i64_in _ (by omega)
            have w4 : IntKind.i64.wrap (p' + y - t) = p' + y - t := IntWalk.i64_in _ (by omega)
            go_upto_region 10 with (fail)
            go_quiet (fail)
            clear w1 w2 w3 w4
            have d1 : decide (max (t - p') (p' - t) ≤ max (t - (p' + y)) (p' + y - t)) = false := decide_eq_false (by have := HN1.out; omega)
            have d2 : decide (p' + y < min p t) = false := decide_eq_false (by omega)
            have d3 : decide (max p t < p' + y) = false := decide_eq_false (by omega)
            have d4 : decide (min x V < max y (-y)) = false := decide_eq_false (by omega)
            go_wp2
            go_roundw
            case rel => exact ⟨q + 1, p' + y, y, rfl, by omega, HQ7.out, HI.out.1, HI.out.2, HN0.out, _root_.Go.Proofs.Ytmfigpjofakdnaa.k.Box_aside (by omega) _ (_root_.Go.Proofs.Ytmfigpjofakdnaa.k.Box_aside (by omega) _ (X9.out.drawn _)), ((Y9.out.drawn _).put 0 (by simp) _).put 1 (by simp) _, ((_root_.Go.Proofs.Ytmfigpjofakdnaa.k.below_drawn H9.out _).setCell (Nat.le_of_lt hgw) _).setCell (Nat.le_of_lt hgw) _, by simp; omega⟩
            case measure => simp [intOf]; omega
    · rw [safe_no (fun h => hs h.2)] at hS
      have HS := Lib.hid hS
      clear hS hs hr
      go_enter Try.func8, Try.ntmps8
      go_upto_region 4 with ((go_at_call 9; ((with_reducible refine (HK.out _).mono ?_); rintro e w1 ⟨rfl, hb⟩; obtain ⟨x1, x2, x3⟩ := _root_.Go.Proofs.Ytmfigpjofakdnaa.k.boxes1 hb; have X1 := Lib.hid x1; have H1 := Lib.hid x2; clear hb x1 x2)))
      have ha : Below w1.heap.size w1 (w1.alloc (.cells #[.int .i64 p, .int .i64 0] 25)) := (Below.refl _ _).alloc (Nat.le_refl _) _
      have y2 := _root_.Go.Proofs.Ytmfigpjofakdnaa.k.Box.new w1 #[.int .i64 p, .int .i64 0] 25
      have zz : w1.heap.size < (w1.alloc (.cells #[.int .i64 p, .int .i64 0] 25)).heap.size := by simp
      have xx := X1.out.below ha x3
      have hh := H1.out.trans (ha.mono H1.out.size)
      generalize w1.alloc (.cells #[.int .i64 p, .int .i64 0] 25) = w2 at y2 zz xx hh ⊢
      obtain ⟨gg, hgg⟩ : ∃ gg, w1.heap.size = gg := ⟨_, rfl⟩
      rw [hgg] at y2 zz x3 ⊢
      clear hgg ha X1 H1
      have X2 := Lib.hid xx
      have Y2 : Hid (_root_.Go.Proofs.Ytmfigpjofakdnaa.k.Box w2 gg 0 [.int .i64 p, .int .i64 0]) := Lib.hid y2
      have H2 := Lib.hid hh
      obtain ⟨lc0, _, lc1, _, lc2, _, lc3, _, lc4, _, _⟩ := xx
      obtain ⟨gc0, _, gc1, _, _⟩ := y2
      clear hh
      go_wp2_with (first | (go_at_call 11; ((with_reducible refine (HR.out _).mono ?_); rintro e w3 ⟨rfl, hb⟩; have X3 := Lib.hid (X2.out.below hb (by omega)); have Y3 := Lib.hid (Y2.out.below hb (by omega)); have H3 := Lib.hid (H2.out.trans (hb.mono H2.out.size)); have z3 : gg < w3.heap.size := Nat.lt_of_lt_of_le zz hb.size; clear lc0 lc1 lc2 lc3 lc4 gc0 gc1; obtain ⟨lc0, _, lc1, _, lc2, _, lc3, _, lc4, _, _⟩ := X3.out; obtain ⟨gc0, _, gc1, _, _⟩ := Y3.out; clear hb)) | (go_at_call 18; ((with_reducible refine (HS.out _).mono ?_); rintro e w4 ⟨rfl, hb⟩; have X4 := Lib.hid (X3.out.below hb (by omega)); have Y4 := Lib.hid (Y3.out.below hb (by omega)); have H4 := Lib.hid (H3.out.trans (hb.mono H3.out.size)); have z4 : gg < w4.heap.size := Nat.lt_of_lt_of_le z3 hb.size; clear lc0 lc1 lc2 lc3 lc4 gc0 gc1; obtain ⟨lc0, _, lc1, _, lc2, _, lc3, _, lc4, _, _⟩ := X4.out; obtain ⟨gc0, _, gc1, _, _⟩ := Y4.out; clear hb)))
      go_ret
      exact ⟨rfl, H4.out⟩
  · rw [right_no hr] at hR
    have HR := Lib.hid hR
    clear hR hS hr
    go_enter Try.func8, Try.ntmps8
    go_upto_region 4 with ((go_at_call 9; ((with_reducible refine (HK.out _).mono ?_); rintro e w1 ⟨rfl, hb⟩; obtain ⟨x1, x2, x3⟩ := _root_.Go.Proofs.Ytmfigpjofakdnaa.k.boxes1 hb; have X1 := Lib.hid x1; have H1 := Lib.hid x2; clear hb x1 x2)))
    have ha : Below w1.heap.size w1 (w1.alloc (.cells #[.int .i64 p, .int .i64 0] 25)) := (Below.refl _ _).alloc (Nat.le_refl _) _
    have y2 := _root_.Go.Proofs.Ytmfigpjofakdnaa.k.Box.new w1 #[.int .i64 p, .int .i64 0] 25
    have zz : w1.heap.size < (w1.alloc (.cells #[.int .i64 p, .int .i64 0] 25)).heap.size := by simp
    have xx := X1.out.below ha x3
    have hh := H1.out.trans (ha.mono H1.out.size)
    generalize w1.alloc (.cells #[.int .i64 p, .int .i64 0] 25) = w2 at y2 zz xx hh ⊢
    obtain ⟨gg, hgg⟩ : ∃ gg, w1.heap.size = gg := ⟨_, rfl⟩
    rw [hgg] at y2 zz x3 ⊢
    clear hgg ha X1 H1
    have X2 := Lib.hid xx
    have Y2 : Hid (_root_.Go.Proofs.Ytmfigpjofakdnaa.k.Box w2 gg 0 [.int .i64 p, .int .i64 0]) := Lib.hid y2
    have H2 := Lib.hid hh
    obtain ⟨lc0, _, lc1, _, lc2, _, lc3, _, lc4, _, _⟩ := xx
    obtain ⟨gc0, _, gc1, _, _⟩ := y2
    clear hh
    go_wp2_with ((go_at_call 11; ((with_reducible refine (HR.out _).mono ?_); rintro e w3 ⟨rfl, hb⟩; have X3 := Lib.hid (X2.out.below hb (by omega)); have Y3 := Lib.hid (Y2.out.below hb (by omega)); have H3 := Lib.hid (H2.out.trans (hb.mono H2.out.size)); have z3 : gg < w3.heap.size := Nat.lt_of_lt_of_le zz hb.size; clear lc0 lc1 lc2 lc3 lc4 gc0 gc1; obtain ⟨lc0, _, lc1, _, lc2, _, lc3, _, lc4, _, _⟩ := X3.out; obtain ⟨gc0, _, gc1, _, _⟩ := Y3.out; clear hb)))
    go_ret
    exact ⟨rfl, H3.out⟩
end Go.Proofs.Ytmfigpjofakdnaa.genBetween
