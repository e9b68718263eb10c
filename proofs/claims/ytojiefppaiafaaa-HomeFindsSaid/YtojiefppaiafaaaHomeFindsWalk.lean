/- The walk of the law HomeFinds: any limits, any places and any speeds: it returns true, and what was in memory is as it was. -/
import Derived.Test.YtojiefppaiafaaaHmAwake
import Derived.Test.YtojiefppaiafaaaHmFind
import Derived.Test.YtojiefppaiafaaaHGen
import Derived.Test.YtojiefppaiafaaaKOrd
namespace Go.Proofs.Ytojiefppaiafaaa.homeFinds
open Go.ChangeShapes Go.WideShapes Go.ChangeAt Go.RowKit Go.Proofs.Ytojiefppaiafaaa.k Go.Proofs.Ytojiefppaiafaaa.b Go.Proofs.Ytojiefppaiafaaa.hm Go.Proofs.Ytojiefppaiafaaa
set_option linter.unusedVariables false
theorem wf16 {a : Int} (h : (Lit.int .i16 a).wf = true) : -32768 ≤ a ∧ a ≤ 32767 := by
  simp only [Lit.wf, IntKind.min, IntKind.max, IntKind.signed, IntKind.bits, Bool.and_eq_true, decide_eq_true_eq, if_true] at h
  omega
/-- the way to a halt from a slow speed -/
theorem creeps_any (v d : Int) (v0 : 0 ≤ v) (v1 : v ≤ 60) (d0 : 1 ≤ d) (d1 : d ≤ 1048576) (w : World) : Calls Try.prog 15 #[.int .i64 v, .int .i64 d] w fun e w' => e = .returned (.int .i64 (slow v 0 d)) ∧ w = w' := by
  have HP := Lib.hid (slow_le_n v.toNat v 0 d (by omega) d0 v0 (by omega) (by omega))
  go_enter Try.func15, Try.ntmps15
  go_wp2
  go_loop [0, 5] (fun s0 s5 => ∃ x s : Int, s0 = .int .i64 x ∧ s5 = .int .i64 s ∧ 0 ≤ x ∧ x ≤ v ∧ 0 ≤ s ∧ s + slow x 0 d = slow v 0 d) (fun s0 _ => (intOf s0).toNat)
  case atStart => exact ⟨v, 0, rfl, rfl, v0, Int.le_refl _, Int.le_refl _, by omega⟩
  case round =>
    obtain ⟨x, s, rfl, rfl, hx0, hxv, hs0, hs⟩ := hrel
    have hsx := slow_pos (v := x) (u := 0) (by omega) d0
    have hb : s ≤ 1048576 * 60 := by have := HP.out; omega
    by_cases hd : d < x
    · have e := slow_go (v := x) (u := 0) d0 (by omega)
      have HS := Lib.hid (show s + (x - d) + slow (x - d) 0 d = slow v 0 d by omega)
      clear hs hsx e
      go_wp2
      go_round
      case measure => simp [intOf]; omega
      case rel => exact ⟨x - d, s + (x - d), rfl, rfl, by omega, by omega, by omega, HS.out⟩
    · have hdb : decide (d < x) = false := decide_eq_false hd
      have e := slow_end (v := x) (u := 0) d0 (by omega)
      have HS := Lib.hid (show s = slow v 0 d by omega)
      clear hs hsx e
      go_wp2
      go_ret
      exact ⟨ret_int HS.out, rfl⟩
theorem creeps_quiet (v d Y : Int) (v0 : 0 ≤ v) (v1 : v ≤ 60) (d0 : 1 ≤ d) (d1 : d ≤ 1048576) (h : slow v 0 d = Y) (W : World) (q : Nat) : Calls Try.prog 15 #[.int .i64 v, .int .i64 d] (W.drewN q) fun e w'' => e = .returned (.int .i64 Y) ∧ ∃ m, w'' = W.drewN m :=
  (creeps_any v d v0 v1 d0 d1 (W.drewN q)).mono fun _ _ hh => ⟨by rw [hh.1, h], q, hh.2.symm⟩
set_option maxRecDepth 100000 in
set_option maxHeartbeats 8000000 in
theorem walk (V A D lo hi at_ T F C : Int) (w : World) (w0 : (Lit.int .i64 V).wf = true) (w1 : (Lit.int .i64 A).wf = true) (w2 : (Lit.int .i64 D).wf = true) (w3 : (Lit.int .i64 lo).wf = true) (w4 : (Lit.int .i64 hi).wf = true) (w5 : (Lit.int .i16 at_).wf = true) (w6 : (Lit.int .i16 T).wf = true) (w7 : (Lit.int .u8 F).wf = true) (w8 : (Lit.int .u8 C).wf = true) :
    Calls Try.prog 5 #[.agg #[.int .i64 V, .int .i64 A, .int .i64 D, .int .i64 lo, .int .i64 hi], .int .i16 at_, .int .i16 T, .int .u8 F, .int .u8 C] w fun e w' => e = .returned (.bool true) ∧ Below w.heap.size w w' := by
  have hV := wf64 w0
  have hA := wf64 w1
  have hD := wf64 w2
  obtain ⟨a0, a1⟩ := wf16 w5
  obtain ⟨t0, t1⟩ := wf16 w6
  obtain ⟨f0, f1⟩ := wf8 w7
  obtain ⟨c0, c1⟩ := wf8 w8
  clear w0 w1 w2 w3 w4 w5 w6 w7 w8
  have HK := Lib.hid fun W => awake_any W
  have HL : Hid (∀ W, Calls Try.prog 13 #[.agg #[.int .i64 V, .int .i64 A, .int .i64 D, .int .i64 (-1073741824), .int .i64 1073741824]] W fun e w' => e = .returned (.bool (gn.rightL ⟨V, A, D, -1073741824, 1073741824⟩)) ∧ Below W.heap.size W w') := Lib.hid fun W => gn.right_any ⟨V, A, D, -1073741824, 1073741824⟩ ⟨hV, hA, hD, ⟨by show (-9223372036854775808 : Int) ≤ -1073741824; omega, by show (-1073741824 : Int) ≤ 9223372036854775807; omega⟩, ⟨by show (-9223372036854775808 : Int) ≤ 1073741824; omega, by show (1073741824 : Int) ≤ 9223372036854775807; omega⟩⟩ W
  clear hV hA hD
  by_cases hn : RightH ⟨0, F, C, false⟩
  · skip
    have HN : Hid (∀ W, Calls Try.prog 7 #[.int .i64 F, .int .i64 C] W fun e w' => e = .returned (.tuple #[.agg #[.int .i64 0, .int .i64 F, .int .i64 C, .bool false], .int .i64 0]) ∧ Below W.heap.size W w') := Lib.hid fun W => by have h := new_any F C W; rw [show newH F C = ⟨0, F, C, false⟩ from if_pos hn, show newE F C = 0 from if_pos hn] at h; exact h
    by_cases hl : gn.RightL ⟨V, A, D, -1073741824, 1073741824⟩
    · rw [gn.right_yes hl] at HL
      by_cases h60 : F ≤ 60
      · have h60b : decide (60 < F) = false := decide_eq_false (by omega)
        by_cases hD3 : 3 ≤ D
        · have hD3b : decide (D < 3) = false := decide_eq_false (by omega)
          by_cases hV3 : 3 ≤ V
          · have hV3b : decide (V < 3) = false := decide_eq_false (by omega)
            by_cases hat : at_ ≤ T
            · have hatb : decide (T < at_) = false := decide_eq_false (by omega)
              by_cases hway : T - at_ ≤ 1500
              · have hwayb : decide (1500 < T - at_) = false := decide_eq_false (by omega)
                have hw : Ways ⟨V, A, D, -1073741824, 1073741824⟩ T F C := ⟨hl, rfl, rfl, hD3, hV3, by have := hn.2.2; dsimp only at this; omega, by have := hn.2.2; dsimp only at this; omega, h60, t0, t1⟩
                have c2 : 1 ≤ C ∧ C ≤ 60 := ⟨hw.C1, by have := hw.CF; omega⟩
                have d2 : D ≤ 1048576 := hl.2.2.2.2.2.1
                have HW := Lib.hid hw
                have HS0 := Lib.hid (find_start hw a0 hat hway)
                clear hn hl hw
                go_enter Try.func5, Try.ntmps5
                go_upto_region 3 with (go_at_call 6; ((with_reducible refine (HK.out _).mono ?_); rintro e v1 ⟨rfl, hb⟩; obtain ⟨hx0, hbb, hz0⟩ := k.boxes1 hb; have X5 := Lib.hid hx0; have HB := Lib.hid hbb; clear hbb hx0; have X5c0 := (k.cell_of X5.out (i := 0) rfl).1; have X5c1 := (k.cell_of X5.out (i := 1) rfl).1; have X5c2 := (k.cell_of X5.out (i := 2) rfl).1; have X5c3 := (k.cell_of X5.out (i := 3) rfl).1; have X5c4 := (k.cell_of X5.out (i := 4) rfl).1; clear hb))
                clear X5c0 X5c1 X5c2 X5c3 X5c4
                have ⟨X5c0, X5f0⟩ := k.cell_of X5.out (i := 0) rfl
                have ⟨X5c1, X5f1⟩ := k.cell_of X5.out (i := 1) rfl
                have ⟨X5c2, X5f2⟩ := k.cell_of X5.out (i := 2) rfl
                have ⟨X5c3, X5f3⟩ := k.cell_of X5.out (i := 3) rfl
                have ⟨X5c4, X5f4⟩ := k.cell_of X5.out (i := 4) rfl
                go_upto_region 4 with (fail)
                clear X5c0 X5f0 X5c1 X5f1 X5c2 X5f2 X5c3 X5f3 X5c4 X5f4
                have hx : k.Box ((v1.setCell ⟨w.heap.size, 3, none⟩ (.int .i64 (-1073741824))).setCell ⟨w.heap.size, 4, none⟩ (.int .i64 1073741824)) w.heap.size 0 [.int .i64 V, .int .i64 A, .int .i64 D, .int .i64 (-1073741824), .int .i64 1073741824] := (X5.out.put 3 (by show 3 < 5; omega) (.int .i64 (-1073741824))).put 4 (by show 4 < 5; omega) (.int .i64 1073741824)
                have hb := (HB.out.setCell (Nat.le_refl w.heap.size) (p := ⟨w.heap.size, 3, none⟩) (.int .i64 (-1073741824))).setCell (Nat.le_refl w.heap.size) (p := ⟨w.heap.size, 4, none⟩) (.int .i64 1073741824)
                have hz : w.heap.size < ((v1.setCell ⟨w.heap.size, 3, none⟩ (.int .i64 (-1073741824))).setCell ⟨w.heap.size, 4, none⟩ (.int .i64 1073741824)).heap.size := by simpa using hz0
                generalize ((v1.setCell ⟨w.heap.size, 3, none⟩ (.int .i64 (-1073741824))).setCell ⟨w.heap.size, 4, none⟩ (.int .i64 1073741824)) = v2 at hx hb hz ⊢
                clear X5 HB hz0
                have X5 := Lib.hid hx
                have HB := Lib.hid hb
                have hz0 := hz
                clear hx hb hz
                have X5c0 := (k.cell_of X5.out (i := 0) rfl).1
                have X5c1 := (k.cell_of X5.out (i := 1) rfl).1
                have X5c2 := (k.cell_of X5.out (i := 2) rfl).1
                have X5c3 := (k.cell_of X5.out (i := 3) rfl).1
                have X5c4 := (k.cell_of X5.out (i := 4) rfl).1
                go_upto_region 5 with (go_at_call 7; ((with_reducible refine (HN.out _).mono ?_); rintro e v3 ⟨rfl, hb⟩; have X5 := Lib.hid (X5.out.below hb hz0); have hz0 := Nat.lt_of_lt_of_le hz0 hb.size; have HB := Lib.hid (HB.out.trans (hb.mono HB.out.size)); clear X5c0 X5c1 X5c2 X5c3 X5c4; have X5c0 := (k.cell_of X5.out (i := 0) rfl).1; have X5c1 := (k.cell_of X5.out (i := 1) rfl).1; have X5c2 := (k.cell_of X5.out (i := 2) rfl).1; have X5c3 := (k.cell_of X5.out (i := 3) rfl).1; have X5c4 := (k.cell_of X5.out (i := 4) rfl).1; clear hb))
                have hgeX11 : w.heap.size < v3.heap.size := hz0
                obtain ⟨hx, hb, hzX11⟩ := k.boxes1 (w := v3) (c1 := #[.int .i64 0, .int .i64 F, .int .i64 C, .bool false]) (t1 := 23) (Below.refl _ _)
                generalize (v3.alloc (.cells #[.int .i64 0, .int .i64 F, .int .i64 C, .bool false] 23)) = v4 at hb hx hzX11 ⊢
                have X5 := Lib.hid (X5.out.below hb hz0)
                have hz0 := Nat.lt_of_lt_of_le hz0 hb.size
                have HB := Lib.hid (HB.out.trans (hb.mono HB.out.size))
                clear X5c0 X5c1 X5c2 X5c3 X5c4
                obtain ⟨gX11, hgX11⟩ : ∃ g, v3.heap.size = g := ⟨_, rfl⟩
                rw [hgX11] at hx hzX11 hgeX11 ⊢
                skip
                have X11 := Lib.hid hx
                have X5c0 := (k.cell_of X5.out (i := 0) rfl).1
                have X5c1 := (k.cell_of X5.out (i := 1) rfl).1
                have X5c2 := (k.cell_of X5.out (i := 2) rfl).1
                have X5c3 := (k.cell_of X5.out (i := 3) rfl).1
                have X5c4 := (k.cell_of X5.out (i := 4) rfl).1
                have X11c0 := (k.cell_of X11.out (i := 0) rfl).1
                have X11c1 := (k.cell_of X11.out (i := 1) rfl).1
                have X11c2 := (k.cell_of X11.out (i := 2) rfl).1
                have X11c3 := (k.cell_of X11.out (i := 3) rfl).1
                clear hb hx hgX11
                go_upto_region 8 with (go_at_call 13; ((with_reducible refine (HL.out _).mono ?_); rintro e v5 ⟨rfl, hb⟩; have X5 := Lib.hid (X5.out.below hb hz0); have X11 := Lib.hid (X11.out.below hb hzX11); have hz0 := Nat.lt_of_lt_of_le hz0 hb.size; have hzX11 := Nat.lt_of_lt_of_le hzX11 hb.size; have HB := Lib.hid (HB.out.trans (hb.mono HB.out.size)); clear X5c0 X5c1 X5c2 X5c3 X5c4 X11c0 X11c1 X11c2 X11c3; have X5c0 := (k.cell_of X5.out (i := 0) rfl).1; have X5c1 := (k.cell_of X5.out (i := 1) rfl).1; have X5c2 := (k.cell_of X5.out (i := 2) rfl).1; have X5c3 := (k.cell_of X5.out (i := 3) rfl).1; have X5c4 := (k.cell_of X5.out (i := 4) rfl).1; have X11c0 := (k.cell_of X11.out (i := 0) rfl).1; have X11c1 := (k.cell_of X11.out (i := 1) rfl).1; have X11c2 := (k.cell_of X11.out (i := 2) rfl).1; have X11c3 := (k.cell_of X11.out (i := 3) rfl).1; clear hb))
                have hgeX13 : gX11 < v5.heap.size := hzX11
                obtain ⟨hx, hb, hzX13⟩ := k.boxes1 (w := v5) (c1 := #[.int .i64 at_, .int .i64 0]) (t1 := 41) (Below.refl _ _)
                generalize (v5.alloc (.cells #[.int .i64 at_, .int .i64 0] 41)) = v6 at hb hx hzX13 ⊢
                have X5 := Lib.hid (X5.out.below hb hz0)
                have X11 := Lib.hid (X11.out.below hb hzX11)
                have hz0 := Nat.lt_of_lt_of_le hz0 hb.size
                have hzX11 := Nat.lt_of_lt_of_le hzX11 hb.size
                have HB := Lib.hid (HB.out.trans (hb.mono HB.out.size))
                clear X5c0 X5c1 X5c2 X5c3 X5c4 X11c0 X11c1 X11c2 X11c3
                obtain ⟨gX13, hgX13⟩ : ∃ g, v5.heap.size = g := ⟨_, rfl⟩
                rw [hgX13] at hx hzX13 hgeX13 ⊢
                skip
                have X13 := Lib.hid hx
                have X5c0 := (k.cell_of X5.out (i := 0) rfl).1
                have X5c1 := (k.cell_of X5.out (i := 1) rfl).1
                have X5c2 := (k.cell_of X5.out (i := 2) rfl).1
                have X5c3 := (k.cell_of X5.out (i := 3) rfl).1
                have X5c4 := (k.cell_of X5.out (i := 4) rfl).1
                have X11c0 := (k.cell_of X11.out (i := 0) rfl).1
                have X11c1 := (k.cell_of X11.out (i := 1) rfl).1
                have X11c2 := (k.cell_of X11.out (i := 2) rfl).1
                have X11c3 := (k.cell_of X11.out (i := 3) rfl).1
                have X13c0 := (k.cell_of X13.out (i := 0) rfl).1
                have X13c1 := (k.cell_of X13.out (i := 1) rfl).1
                clear hb hx hgX13
                clear X5c0 X5c1 X5c2 X5c3 X5c4 X11c0 X11c1 X11c2 X11c3 X13c0 X13c1
                go_wp2
                have gw11 : w.heap.size < gX11 := hgeX11
                have gw13 : gX11 < gX13 := hgeX13
                go_loopw [14] (fun s14 wr => ∃ (q : Int) (ph p v : Int), 0 ≤ q ∧ s14 = .int .i64 q ∧ Find ⟨V, A, D, -1073741824, 1073741824⟩ T F C ph p v (6000 - q) ∧ k.Box wr w.heap.size 0 [.int .i64 V, .int .i64 A, .int .i64 D, .int .i64 (-1073741824), .int .i64 1073741824] ∧ k.Box wr gX11 0 [.int .i64 ph, .int .i64 F, .int .i64 C, .bool false] ∧ k.Box wr gX13 0 [.int .i64 p, .int .i64 v] ∧ Below w.heap.size w wr ∧ w.heap.size < wr.heap.size ∧ gX11 < wr.heap.size ∧ gX13 < wr.heap.size) (fun s14 _ => (6000 - intOf s14).toNat)
                case atStart => exact ⟨0, 0, at_, 0, Int.le_refl _, rfl, HS0.out, X5.out, X11.out, X13.out, HB.out, hz0, hzX11, hzX13⟩
                case round =>
                  clear X5 X11 X13 HB HS0 hz0 hzX11 hzX13
                  obtain ⟨q, ph, p, v, hq, rfl, hF, hx5, hx11, hx13, hb, hz0, hzX11, hzX13⟩ := hrel
                  have X5 := Lib.hid hx5
                  have X11 := Lib.hid hx11
                  have X13 := Lib.hid hx13
                  have HB := Lib.hid hb
                  clear hx5 hx11 hx13 hb
                  have hph := find_phase HW.out hF
                  have hpl := find_place HW.out hF
                  have HO : Hid (∀ W, Calls Try.prog 11 #[.agg #[.int .i64 ph, .int .i64 F, .int .i64 C, .bool false]] W fun e w' => e = .returned (.bool (decide (4 ≤ ph))) ∧ Below W.heap.size W w') := Lib.hid fun W => by have h9 := over_any ⟨ph, F, C, false⟩ W; rw [show overH ⟨ph, F, C, false⟩ = decide (4 ≤ ph) from by unfold overH; rw [right_yes hph]; rfl] at h9; exact h9
                  by_cases h4 : ph < 4
                  · skip
                    have hK := find_left HW.out hF h4
                    have hq6 : q < 6000 := by omega
                    rw [show decide (4 ≤ ph) = false from decide_eq_false (by omega)] at HO
                    obtain ⟨ph2, hn2, hF2⟩ := find_step HW.out hF h4
                    have hs := find_safe HW.out hF
                    have hst := fun W => step_any ⟨ph, F, C, false⟩ (decide (T ≤ p)) false false (decide (v = 0)) W
                    rw [show stepHN ⟨ph, F, C, false⟩ (decide (T ≤ p)) false false (decide (v = 0)) = ⟨ph2, F, C, false⟩ from (if_pos hph).trans hn2, show stepHV ⟨ph, F, C, false⟩ (decide (T ≤ p)) false false (decide (v = 0)) = hm.stepV ⟨ph, F, C, false⟩ (decide (T ≤ p)) false false (decide (v = 0)) from if_pos hph] at hst
                    have hspd := step_speed hph (decide (T ≤ p)) false false (decide (v = 0))
                    dsimp only at hspd
                    generalize hm.stepV ⟨ph, F, C, false⟩ (decide (T ≤ p)) false false (decide (v = 0)) = y at hst hF2 hspd
                    have hgs := fun W => gn.step_ok ⟨V, A, D, -1073741824, 1073741824⟩ HW.out.right p v hs y ⟨by omega, by omega⟩ W
                    generalize gn.stepV ⟨V, A, D, -1073741824, 1073741824⟩ p v y = v2 at hgs hF2
                    generalize p + v2 = p2 at hgs hF2
                    unfold hV at hst
                    dsimp only at hst hgs
                    have vb : decide (v = 0) = (v == 0) := by rw [Bool.eq_iff_iff]; simp
                    rw [vb] at hst
                    clear vb
                    have HT := Lib.hid hst
                    have HG := Lib.hid hgs
                    have HF2 := Lib.hid hF2
                    clear hst hgs hF2 hF hph hn2 hs hspd hK
                    have X5c0 := (k.cell_of X5.out (i := 0) rfl).1
                    have X5c1 := (k.cell_of X5.out (i := 1) rfl).1
                    have X5c2 := (k.cell_of X5.out (i := 2) rfl).1
                    have X5c3 := (k.cell_of X5.out (i := 3) rfl).1
                    have X5c4 := (k.cell_of X5.out (i := 4) rfl).1
                    have X11c0 := (k.cell_of X11.out (i := 0) rfl).1
                    have X11c1 := (k.cell_of X11.out (i := 1) rfl).1
                    have X11c2 := (k.cell_of X11.out (i := 2) rfl).1
                    have X11c3 := (k.cell_of X11.out (i := 3) rfl).1
                    have X13c0 := (k.cell_of X13.out (i := 0) rfl).1
                    have X13c1 := (k.cell_of X13.out (i := 1) rfl).1
                    go_upto_region 12 with (first | (go_at_call 11; ((with_reducible refine (HO.out _).mono ?_); rintro e v31 ⟨rfl, hb⟩; have X5 := Lib.hid (X5.out.below hb hz0); have X11 := Lib.hid (X11.out.below hb hzX11); have X13 := Lib.hid (X13.out.below hb hzX13); have hz0 := Nat.lt_of_lt_of_le hz0 hb.size; have hzX11 := Nat.lt_of_lt_of_le hzX11 hb.size; have hzX13 := Nat.lt_of_lt_of_le hzX13 hb.size; have HB := Lib.hid (HB.out.trans (hb.mono HB.out.size)); clear X5c0 X5c1 X5c2 X5c3 X5c4 X11c0 X11c1 X11c2 X11c3 X13c0 X13c1; have X5c0 := (k.cell_of X5.out (i := 0) rfl).1; have X5c1 := (k.cell_of X5.out (i := 1) rfl).1; have X5c2 := (k.cell_of X5.out (i := 2) rfl).1; have X5c3 := (k.cell_of X5.out (i := 3) rfl).1; have X5c4 := (k.cell_of X5.out (i := 4) rfl).1; have X11c0 := (k.cell_of X11.out (i := 0) rfl).1; have X11c1 := (k.cell_of X11.out (i := 1) rfl).1; have X11c2 := (k.cell_of X11.out (i := 2) rfl).1; have X11c3 := (k.cell_of X11.out (i := 3) rfl).1; have X13c0 := (k.cell_of X13.out (i := 0) rfl).1; have X13c1 := (k.cell_of X13.out (i := 1) rfl).1; clear hb)) | (go_at_call 9; ((with_reducible refine (HT.out _).mono ?_); rintro e v32 ⟨rfl, hb⟩; have X5 := Lib.hid (X5.out.below hb hz0); have X11 := Lib.hid (X11.out.below hb hzX11); have X13 := Lib.hid (X13.out.below hb hzX13); have hz0 := Nat.lt_of_lt_of_le hz0 hb.size; have hzX11 := Nat.lt_of_lt_of_le hzX11 hb.size; have hzX13 := Nat.lt_of_lt_of_le hzX13 hb.size; have HB := Lib.hid (HB.out.trans (hb.mono HB.out.size)); clear X5c0 X5c1 X5c2 X5c3 X5c4 X11c0 X11c1 X11c2 X11c3 X13c0 X13c1; have X5c0 := (k.cell_of X5.out (i := 0) rfl).1; have X5c1 := (k.cell_of X5.out (i := 1) rfl).1; have X5c2 := (k.cell_of X5.out (i := 2) rfl).1; have X5c3 := (k.cell_of X5.out (i := 3) rfl).1; have X5c4 := (k.cell_of X5.out (i := 4) rfl).1; have X11c0 := (k.cell_of X11.out (i := 0) rfl).1; have X11c1 := (k.cell_of X11.out (i := 1) rfl).1; have X11c2 := (k.cell_of X11.out (i := 2) rfl).1; have X11c3 := (k.cell_of X11.out (i := 3) rfl).1; have X13c0 := (k.cell_of X13.out (i := 0) rfl).1; have X13c1 := (k.cell_of X13.out (i := 1) rfl).1; clear hb)))
                    have hgeX15 : gX13 < v32.heap.size := hzX13
                    obtain ⟨hx, hb, hzX15⟩ := k.boxes1 (w := v32) (c1 := #[.int .i64 ph2, .int .i64 F, .int .i64 C, .bool false]) (t1 := 23) (Below.refl _ _)
                    generalize (v32.alloc (.cells #[.int .i64 ph2, .int .i64 F, .int .i64 C, .bool false] 23)) = v33 at hb hx hzX15 ⊢
                    have X5 := Lib.hid (X5.out.below hb hz0)
                    have X11 := Lib.hid (X11.out.below hb hzX11)
                    have X13 := Lib.hid (X13.out.below hb hzX13)
                    have hz0 := Nat.lt_of_lt_of_le hz0 hb.size
                    have hzX11 := Nat.lt_of_lt_of_le hzX11 hb.size
                    have hzX13 := Nat.lt_of_lt_of_le hzX13 hb.size
                    have HB := Lib.hid (HB.out.trans (hb.mono HB.out.size))
                    clear X5c0 X5c1 X5c2 X5c3 X5c4 X11c0 X11c1 X11c2 X11c3 X13c0 X13c1
                    obtain ⟨gX15, hgX15⟩ : ∃ g, v32.heap.size = g := ⟨_, rfl⟩
                    rw [hgX15] at hx hzX15 hgeX15 ⊢
                    skip
                    have X15 := Lib.hid hx
                    have X5c0 := (k.cell_of X5.out (i := 0) rfl).1
                    have X5c1 := (k.cell_of X5.out (i := 1) rfl).1
                    have X5c2 := (k.cell_of X5.out (i := 2) rfl).1
                    have X5c3 := (k.cell_of X5.out (i := 3) rfl).1
                    have X5c4 := (k.cell_of X5.out (i := 4) rfl).1
                    have X11c0 := (k.cell_of X11.out (i := 0) rfl).1
                    have X11c1 := (k.cell_of X11.out (i := 1) rfl).1
                    have X11c2 := (k.cell_of X11.out (i := 2) rfl).1
                    have X11c3 := (k.cell_of X11.out (i := 3) rfl).1
                    have X13c0 := (k.cell_of X13.out (i := 0) rfl).1
                    have X13c1 := (k.cell_of X13.out (i := 1) rfl).1
                    have X15c0 := (k.cell_of X15.out (i := 0) rfl).1
                    have X15c1 := (k.cell_of X15.out (i := 1) rfl).1
                    have X15c2 := (k.cell_of X15.out (i := 2) rfl).1
                    have X15c3 := (k.cell_of X15.out (i := 3) rfl).1
                    clear hb hx hgX15
                    refine wp_region_T (by kernel_rfl) (fun w' => Below v33.heap.size v33 w') [5, 6] (Below.refl _ _).drew (fun hHeld => ?_)
                    refine wpAnyT_take (i := 0) (v := ?_) rfl (by kernel_rfl) (by kernel_rfl) (by kernel_rfl) (fun _ _ _ h => h) (Or.inl ⟨by rfl, ?_⟩) (by assumption) ?_
                    rotate_left 1
                    · intro w_ hSw; have zX150 := (hSw.cell (p := ⟨gX15, 0, none⟩) hzX15).trans X15c0; have zX151 := (hSw.cell (p := ⟨gX15, 1, none⟩) hzX15).trans X15c1; have zX152 := (hSw.cell (p := ⟨gX15, 2, none⟩) hzX15).trans X15c2; have zX153 := (hSw.cell (p := ⟨gX15, 3, none⟩) hzX15).trans X15c3; clear hSw; go_simp <;> (with_reducible rfl)
                    try simp only [Act.put, List.setIfInBounds_toArray, List.set_cons_zero, List.set_cons_succ, List.getElem_toArray, List.getElem_cons_zero]
                    refine wpAnyT_take (i := 1) (v := ?_) rfl (by kernel_rfl) (by kernel_rfl) (by kernel_rfl) (fun _ _ _ h => h) (Or.inl ⟨by rfl, ?_⟩) (by assumption) ?_
                    rotate_left 1
                    · intro w_ hSw; have zX50 := (hSw.cell (p := ⟨w.heap.size, 0, none⟩) hz0).trans X5c0; have zX51 := (hSw.cell (p := ⟨w.heap.size, 1, none⟩) hz0).trans X5c1; have zX52 := (hSw.cell (p := ⟨w.heap.size, 2, none⟩) hz0).trans X5c2; have zX53 := (hSw.cell (p := ⟨w.heap.size, 3, none⟩) hz0).trans X5c3; have zX54 := (hSw.cell (p := ⟨w.heap.size, 4, none⟩) hz0).trans X5c4; clear hSw; go_simp <;> (with_reducible rfl)
                    try simp only [Act.put, List.setIfInBounds_toArray, List.set_cons_zero, List.set_cons_succ, List.getElem_toArray, List.getElem_cons_succ, List.getElem_cons_zero]
                    refine wpAnyT_take (i := 2) (v := ?_) rfl (by kernel_rfl) (by kernel_rfl) (by kernel_rfl) (fun _ _ _ h => h) (Or.inl ⟨by rfl, ?_⟩) (by assumption) ?_
                    rotate_left 1
                    · intro w_ hSw; have zX130 := (hSw.cell (p := ⟨gX13, 0, none⟩) hzX13).trans X13c0; have zX131 := (hSw.cell (p := ⟨gX13, 1, none⟩) hzX13).trans X13c1; clear hSw; go_simp <;> (with_reducible rfl)
                    try simp only [Act.put, List.setIfInBounds_toArray, List.set_cons_zero, List.set_cons_succ, List.getElem_toArray, List.getElem_cons_succ, List.getElem_cons_zero]
                    refine wpAnyT_take (i := 3) (v := ?_) rfl (by kernel_rfl) (by kernel_rfl) (by kernel_rfl) (fun _ _ _ h => h) (Or.inl ⟨by rfl, ?_⟩) (by assumption) ?_
                    rotate_left 1
                    · intro w_ hSw; clear hSw; go_simp <;> (with_reducible rfl)
                    try simp only [Act.put, List.setIfInBounds_toArray, List.set_cons_zero, List.set_cons_succ, List.getElem_toArray, List.getElem_cons_succ, List.getElem_cons_zero]
                    refine wpAnyT_ready (rs := [4]) (by kernel_rfl) (by simp) ?_
                    refine AllReadyT.cons rfl (fun K hK => ?_) AllReadyT.nil
                    go_simp
                    (go_at_call 14; ((with_reducible refine (HG.out _).mono ?_); rintro e u1 ⟨rfl, hb0⟩))
                    have hb1 : Below v33.heap.size v33 u1 := ((Below.refl _ _).drew).trans hb0
                    clear hb0
                    go_wp2_with fail
                    refine hK.out _ _ hb1 (fun hHeld => ?_)
                    clear hK K
                    try simp only [Act.put, List.setIfInBounds_toArray, List.set_cons_zero, List.set_cons_succ, List.getElem_toArray, List.getElem_cons_succ, List.getElem_cons_zero]
                    clear X5c0 X5c1 X5c2 X5c3 X5c4 X11c0 X11c1 X11c2 X11c3 X13c0 X13c1 X15c0 X15c1 X15c2 X15c3
                    have Y5 := X5.out.below hb1 hz0
                    have Y11 := X11.out.below hb1 hzX11
                    have Y13 := X13.out.below hb1 hzX13
                    have HY := HB.out.trans (hb1.mono HB.out.size)
                    have m11 := Nat.lt_of_lt_of_le hzX11 hb1.size
                    have m13 := Nat.lt_of_lt_of_le hzX13 hb1.size
                    have m5 := Nat.lt_of_lt_of_le hz0 hb1.size
                    refine wpAnyT_ready (rs := [5]) (by kernel_rfl) (by simp) ?_
                    refine AllReadyT.spoilt rfl (by kernel_rfl) (fun K hK => ?_) AllReadyT.nil
                    obtain ⟨W1, hW1, i1, i2, i3, i5⟩ := k.stored (us := [.int .i64 ph2, .int .i64 F, .int .i64 C, .bool false]) Y11 rfl
                    rw [if_pos (by rfl)]
                    refine wp_store_mid 23 (.tmp 11) (.tmp 88) rfl gX11 0 #[.int .i64 ph2, .int .i64 F, .int .i64 C, .bool false] rfl rfl (k.there_of Y11 rfl) (by kernel_rfl) (by simp [Value.oneCell']) ?_
                    change K _ (World.setCells _ _ _ [.int .i64 ph2, .int .i64 F, .int .i64 C, .bool false])
                    rw [hW1]
                    have Z5 := k.aside_stored hW1 (show gX11 ≠ w.heap.size by omega) Y5
                    have Z13 := k.aside_stored hW1 (show gX11 ≠ gX13 by omega) Y13
                    have HZ := HY.trans (i3 w.heap.size (by omega))
                    refine hK.out _ _ ?_
                    clear hK K
                    try simp only [Act.put, List.getElem_toArray, List.getElem_cons_succ, List.getElem_cons_zero]
                    refine wpAnyT_ready (rs := [6]) (by kernel_rfl) (by simp) ?_
                    refine AllReadyT.spoilt rfl (by kernel_rfl) (fun K hK => ?_) AllReadyT.nil
                    obtain ⟨W2, hW2, j1, j2, j3, j5⟩ := k.stored (us := [.int .i64 p2, .int .i64 v2]) Z13 rfl
                    rw [if_pos (by rfl)]
                    refine wp_store_mid 41 (.tmp 13) (.tmp 92) rfl gX13 0 #[.int .i64 p2, .int .i64 v2] rfl rfl (k.there_of Z13 rfl) (by kernel_rfl) (by simp [Value.oneCell']) ?_
                    change K _ (World.setCells _ _ _ [.int .i64 p2, .int .i64 v2])
                    rw [hW2]
                    have V5 := k.aside_stored hW2 (show gX13 ≠ w.heap.size by omega) Z5
                    have V11 := k.aside_stored hW2 (show gX13 ≠ gX11 by omega) i1
                    have HV := HZ.trans (j3 w.heap.size (by omega))
                    have s2 : W2.heap.size = u1.heap.size := by omega
                    refine hK.out _ _ ?_
                    clear hK K hW1 hW2
                    try simp only [Act.put, List.getElem_toArray, List.getElem_cons_succ, List.getElem_cons_zero]
                    refine wpAnyT_done (by kernel_rfl) ?_ _
                    go_wp2_with fail
                    go_roundw
                    case measure => simp [intOf]; omega
                    case rel => exact ⟨q + 1, ph2, p2, v2, by omega, rfl, (show 6000 - q - 1 = 6000 - (q + 1) by omega) ▸ HF2.out, V5, V11, j1, HV, by omega, by omega, by omega⟩
                  · skip
                    obtain ⟨rfl, rfl, hpT, hfin⟩ := find_end hF (by omega)
                    obtain ⟨Y, hY⟩ : ∃ Y, slow C 0 D = Y := ⟨_, rfl⟩
                    have hYb := slow60 hD3 (show 0 ≤ C by omega) c2.2
                    dsimp only at hfin
                    rw [hY] at hYb hfin
                    have HY := Lib.hid hY
                    clear hY
                    rw [show decide (4 ≤ (4 : Int)) = true from rfl] at HO
                    clear hF hph
                    have e1 : IntKind.i64.wrap (T - C) = T - C := IntWalk.i64_in _ (by omega)
                    have e2 : IntKind.i64.wrap (T - C - Y) = T - C - Y := IntWalk.i64_in _ (by omega)
                    have e3 : decide (p < T) = true := decide_eq_true hpT
                    have e4 : decide (T - C - Y ≤ p) = true := decide_eq_true hfin
                    by_cases hq6 : q < 6000
                    · have hq6b : decide (q < 6000) = true := decide_eq_true hq6
                      have X5c0 := (k.cell_of X5.out (i := 0) rfl).1
                      have X5c1 := (k.cell_of X5.out (i := 1) rfl).1
                      have X5c2 := (k.cell_of X5.out (i := 2) rfl).1
                      have X5c3 := (k.cell_of X5.out (i := 3) rfl).1
                      have X5c4 := (k.cell_of X5.out (i := 4) rfl).1
                      have X11c0 := (k.cell_of X11.out (i := 0) rfl).1
                      have X11c1 := (k.cell_of X11.out (i := 1) rfl).1
                      have X11c2 := (k.cell_of X11.out (i := 2) rfl).1
                      have X11c3 := (k.cell_of X11.out (i := 3) rfl).1
                      have X13c0 := (k.cell_of X13.out (i := 0) rfl).1
                      have X13c1 := (k.cell_of X13.out (i := 1) rfl).1
                      go_upto_region 13 with (go_at_call 11; ((with_reducible refine (HO.out _).mono ?_); rintro e v31 ⟨rfl, hb⟩; have X5 := Lib.hid (X5.out.below hb hz0); have X11 := Lib.hid (X11.out.below hb hzX11); have X13 := Lib.hid (X13.out.below hb hzX13); have hz0 := Nat.lt_of_lt_of_le hz0 hb.size; have hzX11 := Nat.lt_of_lt_of_le hzX11 hb.size; have hzX13 := Nat.lt_of_lt_of_le hzX13 hb.size; have HB := Lib.hid (HB.out.trans (hb.mono HB.out.size)); clear X5c0 X5c1 X5c2 X5c3 X5c4 X11c0 X11c1 X11c2 X11c3 X13c0 X13c1; have X5c0 := (k.cell_of X5.out (i := 0) rfl).1; have X5c1 := (k.cell_of X5.out (i := 1) rfl).1; have X5c2 := (k.cell_of X5.out (i := 2) rfl).1; have X5c3 := (k.cell_of X5.out (i := 3) rfl).1; have X5c4 := (k.cell_of X5.out (i := 4) rfl).1; have X11c0 := (k.cell_of X11.out (i := 0) rfl).1; have X11c1 := (k.cell_of X11.out (i := 1) rfl).1; have X11c2 := (k.cell_of X11.out (i := 2) rfl).1; have X11c3 := (k.cell_of X11.out (i := 3) rfl).1; have X13c0 := (k.cell_of X13.out (i := 0) rfl).1; have X13c1 := (k.cell_of X13.out (i := 1) rfl).1; clear hb))
                      go_quiet ((go_at_call 15; with_reducible exact creeps_quiet _ _ _ (by omega) c2.2 (by omega) d2 HY.out _ _))
                      go_wp2
                      go_ret
                      exact ⟨rfl, below_drawn HB.out _⟩
                    · have hq6b : decide (q < 6000) = false := decide_eq_false hq6
                      have X5c0 := (k.cell_of X5.out (i := 0) rfl).1
                      have X5c1 := (k.cell_of X5.out (i := 1) rfl).1
                      have X5c2 := (k.cell_of X5.out (i := 2) rfl).1
                      have X5c3 := (k.cell_of X5.out (i := 3) rfl).1
                      have X5c4 := (k.cell_of X5.out (i := 4) rfl).1
                      have X11c0 := (k.cell_of X11.out (i := 0) rfl).1
                      have X11c1 := (k.cell_of X11.out (i := 1) rfl).1
                      have X11c2 := (k.cell_of X11.out (i := 2) rfl).1
                      have X11c3 := (k.cell_of X11.out (i := 3) rfl).1
                      have X13c0 := (k.cell_of X13.out (i := 0) rfl).1
                      have X13c1 := (k.cell_of X13.out (i := 1) rfl).1
                      go_upto_region 13 with (fail)
                      go_quiet ((go_at_call 15; with_reducible exact creeps_quiet _ _ _ (by omega) c2.2 (by omega) d2 HY.out _ _))
                      go_wp2
                      go_ret
                      exact ⟨rfl, below_drawn HB.out _⟩
              · have hwayb : decide (1500 < T - at_) = true := decide_eq_true (by omega)
                go_enter Try.func5, Try.ntmps5
                go_upto_region 3 with (go_at_call 6; ((with_reducible refine (HK.out _).mono ?_); rintro e v1 ⟨rfl, hb⟩; obtain ⟨hx0, hbb, hz0⟩ := k.boxes1 hb; have X5 := Lib.hid hx0; have HB := Lib.hid hbb; clear hbb hx0; have X5c0 := (k.cell_of X5.out (i := 0) rfl).1; have X5c1 := (k.cell_of X5.out (i := 1) rfl).1; have X5c2 := (k.cell_of X5.out (i := 2) rfl).1; have X5c3 := (k.cell_of X5.out (i := 3) rfl).1; have X5c4 := (k.cell_of X5.out (i := 4) rfl).1; clear hb))
                clear X5c0 X5c1 X5c2 X5c3 X5c4
                have ⟨X5c0, X5f0⟩ := k.cell_of X5.out (i := 0) rfl
                have ⟨X5c1, X5f1⟩ := k.cell_of X5.out (i := 1) rfl
                have ⟨X5c2, X5f2⟩ := k.cell_of X5.out (i := 2) rfl
                have ⟨X5c3, X5f3⟩ := k.cell_of X5.out (i := 3) rfl
                have ⟨X5c4, X5f4⟩ := k.cell_of X5.out (i := 4) rfl
                go_upto_region 4 with (fail)
                clear X5c0 X5f0 X5c1 X5f1 X5c2 X5f2 X5c3 X5f3 X5c4 X5f4
                have hx : k.Box ((v1.setCell ⟨w.heap.size, 3, none⟩ (.int .i64 (-1073741824))).setCell ⟨w.heap.size, 4, none⟩ (.int .i64 1073741824)) w.heap.size 0 [.int .i64 V, .int .i64 A, .int .i64 D, .int .i64 (-1073741824), .int .i64 1073741824] := (X5.out.put 3 (by show 3 < 5; omega) (.int .i64 (-1073741824))).put 4 (by show 4 < 5; omega) (.int .i64 1073741824)
                have hb := (HB.out.setCell (Nat.le_refl w.heap.size) (p := ⟨w.heap.size, 3, none⟩) (.int .i64 (-1073741824))).setCell (Nat.le_refl w.heap.size) (p := ⟨w.heap.size, 4, none⟩) (.int .i64 1073741824)
                have hz : w.heap.size < ((v1.setCell ⟨w.heap.size, 3, none⟩ (.int .i64 (-1073741824))).setCell ⟨w.heap.size, 4, none⟩ (.int .i64 1073741824)).heap.size := by simpa using hz0
                generalize ((v1.setCell ⟨w.heap.size, 3, none⟩ (.int .i64 (-1073741824))).setCell ⟨w.heap.size, 4, none⟩ (.int .i64 1073741824)) = v2 at hx hb hz ⊢
                clear X5 HB hz0
                have X5 := Lib.hid hx
                have HB := Lib.hid hb
                have hz0 := hz
                clear hx hb hz
                have X5c0 := (k.cell_of X5.out (i := 0) rfl).1
                have X5c1 := (k.cell_of X5.out (i := 1) rfl).1
                have X5c2 := (k.cell_of X5.out (i := 2) rfl).1
                have X5c3 := (k.cell_of X5.out (i := 3) rfl).1
                have X5c4 := (k.cell_of X5.out (i := 4) rfl).1
                go_upto_region 5 with (go_at_call 7; ((with_reducible refine (HN.out _).mono ?_); rintro e v3 ⟨rfl, hb⟩; have X5 := Lib.hid (X5.out.below hb hz0); have hz0 := Nat.lt_of_lt_of_le hz0 hb.size; have HB := Lib.hid (HB.out.trans (hb.mono HB.out.size)); clear X5c0 X5c1 X5c2 X5c3 X5c4; have X5c0 := (k.cell_of X5.out (i := 0) rfl).1; have X5c1 := (k.cell_of X5.out (i := 1) rfl).1; have X5c2 := (k.cell_of X5.out (i := 2) rfl).1; have X5c3 := (k.cell_of X5.out (i := 3) rfl).1; have X5c4 := (k.cell_of X5.out (i := 4) rfl).1; clear hb))
                have hgeX11 : w.heap.size < v3.heap.size := hz0
                obtain ⟨hx, hb, hzX11⟩ := k.boxes1 (w := v3) (c1 := #[.int .i64 0, .int .i64 F, .int .i64 C, .bool false]) (t1 := 23) (Below.refl _ _)
                generalize (v3.alloc (.cells #[.int .i64 0, .int .i64 F, .int .i64 C, .bool false] 23)) = v4 at hb hx hzX11 ⊢
                have X5 := Lib.hid (X5.out.below hb hz0)
                have hz0 := Nat.lt_of_lt_of_le hz0 hb.size
                have HB := Lib.hid (HB.out.trans (hb.mono HB.out.size))
                clear X5c0 X5c1 X5c2 X5c3 X5c4
                obtain ⟨gX11, hgX11⟩ : ∃ g, v3.heap.size = g := ⟨_, rfl⟩
                rw [hgX11] at hx hzX11 hgeX11 ⊢
                skip
                have X11 := Lib.hid hx
                have X5c0 := (k.cell_of X5.out (i := 0) rfl).1
                have X5c1 := (k.cell_of X5.out (i := 1) rfl).1
                have X5c2 := (k.cell_of X5.out (i := 2) rfl).1
                have X5c3 := (k.cell_of X5.out (i := 3) rfl).1
                have X5c4 := (k.cell_of X5.out (i := 4) rfl).1
                have X11c0 := (k.cell_of X11.out (i := 0) rfl).1
                have X11c1 := (k.cell_of X11.out (i := 1) rfl).1
                have X11c2 := (k.cell_of X11.out (i := 2) rfl).1
                have X11c3 := (k.cell_of X11.out (i := 3) rfl).1
                clear hb hx hgX11
                go_wp2_with (go_at_call 13; ((with_reducible refine (HL.out _).mono ?_); rintro e v5 ⟨rfl, hb⟩; have X5 := Lib.hid (X5.out.below hb hz0); have X11 := Lib.hid (X11.out.below hb hzX11); have hz0 := Nat.lt_of_lt_of_le hz0 hb.size; have hzX11 := Nat.lt_of_lt_of_le hzX11 hb.size; have HB := Lib.hid (HB.out.trans (hb.mono HB.out.size)); clear X5c0 X5c1 X5c2 X5c3 X5c4 X11c0 X11c1 X11c2 X11c3; have X5c0 := (k.cell_of X5.out (i := 0) rfl).1; have X5c1 := (k.cell_of X5.out (i := 1) rfl).1; have X5c2 := (k.cell_of X5.out (i := 2) rfl).1; have X5c3 := (k.cell_of X5.out (i := 3) rfl).1; have X5c4 := (k.cell_of X5.out (i := 4) rfl).1; have X11c0 := (k.cell_of X11.out (i := 0) rfl).1; have X11c1 := (k.cell_of X11.out (i := 1) rfl).1; have X11c2 := (k.cell_of X11.out (i := 2) rfl).1; have X11c3 := (k.cell_of X11.out (i := 3) rfl).1; clear hb))
                go_ret
                exact ⟨rfl, HB.out⟩
            · have hatb : decide (T < at_) = true := decide_eq_true (by omega)
              go_enter Try.func5, Try.ntmps5
              go_upto_region 3 with (go_at_call 6; ((with_reducible refine (HK.out _).mono ?_); rintro e v1 ⟨rfl, hb⟩; obtain ⟨hx0, hbb, hz0⟩ := k.boxes1 hb; have X5 := Lib.hid hx0; have HB := Lib.hid hbb; clear hbb hx0; have X5c0 := (k.cell_of X5.out (i := 0) rfl).1; have X5c1 := (k.cell_of X5.out (i := 1) rfl).1; have X5c2 := (k.cell_of X5.out (i := 2) rfl).1; have X5c3 := (k.cell_of X5.out (i := 3) rfl).1; have X5c4 := (k.cell_of X5.out (i := 4) rfl).1; clear hb))
              clear X5c0 X5c1 X5c2 X5c3 X5c4
              have ⟨X5c0, X5f0⟩ := k.cell_of X5.out (i := 0) rfl
              have ⟨X5c1, X5f1⟩ := k.cell_of X5.out (i := 1) rfl
              have ⟨X5c2, X5f2⟩ := k.cell_of X5.out (i := 2) rfl
              have ⟨X5c3, X5f3⟩ := k.cell_of X5.out (i := 3) rfl
              have ⟨X5c4, X5f4⟩ := k.cell_of X5.out (i := 4) rfl
              go_upto_region 4 with (fail)
              clear X5c0 X5f0 X5c1 X5f1 X5c2 X5f2 X5c3 X5f3 X5c4 X5f4
              have hx : k.Box ((v1.setCell ⟨w.heap.size, 3, none⟩ (.int .i64 (-1073741824))).setCell ⟨w.heap.size, 4, none⟩ (.int .i64 1073741824)) w.heap.size 0 [.int .i64 V, .int .i64 A, .int .i64 D, .int .i64 (-1073741824), .int .i64 1073741824] := (X5.out.put 3 (by show 3 < 5; omega) (.int .i64 (-1073741824))).put 4 (by show 4 < 5; omega) (.int .i64 1073741824)
              have hb := (HB.out.setCell (Nat.le_refl w.heap.size) (p := ⟨w.heap.size, 3, none⟩) (.int .i64 (-1073741824))).setCell (Nat.le_refl w.heap.size) (p := ⟨w.heap.size, 4, none⟩) (.int .i64 1073741824)
              have hz : w.heap.size < ((v1.setCell ⟨w.heap.size, 3, none⟩ (.int .i64 (-1073741824))).setCell ⟨w.heap.size, 4, none⟩ (.int .i64 1073741824)).heap.size := by simpa using hz0
              generalize ((v1.setCell ⟨w.heap.size, 3, none⟩ (.int .i64 (-1073741824))).setCell ⟨w.heap.size, 4, none⟩ (.int .i64 1073741824)) = v2 at hx hb hz ⊢
              clear X5 HB hz0
              have X5 := Lib.hid hx
              have HB := Lib.hid hb
              have hz0 := hz
              clear hx hb hz
              have X5c0 := (k.cell_of X5.out (i := 0) rfl).1
              have X5c1 := (k.cell_of X5.out (i := 1) rfl).1
              have X5c2 := (k.cell_of X5.out (i := 2) rfl).1
              have X5c3 := (k.cell_of X5.out (i := 3) rfl).1
              have X5c4 := (k.cell_of X5.out (i := 4) rfl).1
              go_upto_region 5 with (go_at_call 7; ((with_reducible refine (HN.out _).mono ?_); rintro e v3 ⟨rfl, hb⟩; have X5 := Lib.hid (X5.out.below hb hz0); have hz0 := Nat.lt_of_lt_of_le hz0 hb.size; have HB := Lib.hid (HB.out.trans (hb.mono HB.out.size)); clear X5c0 X5c1 X5c2 X5c3 X5c4; have X5c0 := (k.cell_of X5.out (i := 0) rfl).1; have X5c1 := (k.cell_of X5.out (i := 1) rfl).1; have X5c2 := (k.cell_of X5.out (i := 2) rfl).1; have X5c3 := (k.cell_of X5.out (i := 3) rfl).1; have X5c4 := (k.cell_of X5.out (i := 4) rfl).1; clear hb))
              have hgeX11 : w.heap.size < v3.heap.size := hz0
              obtain ⟨hx, hb, hzX11⟩ := k.boxes1 (w := v3) (c1 := #[.int .i64 0, .int .i64 F, .int .i64 C, .bool false]) (t1 := 23) (Below.refl _ _)
              generalize (v3.alloc (.cells #[.int .i64 0, .int .i64 F, .int .i64 C, .bool false] 23)) = v4 at hb hx hzX11 ⊢
              have X5 := Lib.hid (X5.out.below hb hz0)
              have hz0 := Nat.lt_of_lt_of_le hz0 hb.size
              have HB := Lib.hid (HB.out.trans (hb.mono HB.out.size))
              clear X5c0 X5c1 X5c2 X5c3 X5c4
              obtain ⟨gX11, hgX11⟩ : ∃ g, v3.heap.size = g := ⟨_, rfl⟩
              rw [hgX11] at hx hzX11 hgeX11 ⊢
              skip
              have X11 := Lib.hid hx
              have X5c0 := (k.cell_of X5.out (i := 0) rfl).1
              have X5c1 := (k.cell_of X5.out (i := 1) rfl).1
              have X5c2 := (k.cell_of X5.out (i := 2) rfl).1
              have X5c3 := (k.cell_of X5.out (i := 3) rfl).1
              have X5c4 := (k.cell_of X5.out (i := 4) rfl).1
              have X11c0 := (k.cell_of X11.out (i := 0) rfl).1
              have X11c1 := (k.cell_of X11.out (i := 1) rfl).1
              have X11c2 := (k.cell_of X11.out (i := 2) rfl).1
              have X11c3 := (k.cell_of X11.out (i := 3) rfl).1
              clear hb hx hgX11
              go_wp2_with (go_at_call 13; ((with_reducible refine (HL.out _).mono ?_); rintro e v5 ⟨rfl, hb⟩; have X5 := Lib.hid (X5.out.below hb hz0); have X11 := Lib.hid (X11.out.below hb hzX11); have hz0 := Nat.lt_of_lt_of_le hz0 hb.size; have hzX11 := Nat.lt_of_lt_of_le hzX11 hb.size; have HB := Lib.hid (HB.out.trans (hb.mono HB.out.size)); clear X5c0 X5c1 X5c2 X5c3 X5c4 X11c0 X11c1 X11c2 X11c3; have X5c0 := (k.cell_of X5.out (i := 0) rfl).1; have X5c1 := (k.cell_of X5.out (i := 1) rfl).1; have X5c2 := (k.cell_of X5.out (i := 2) rfl).1; have X5c3 := (k.cell_of X5.out (i := 3) rfl).1; have X5c4 := (k.cell_of X5.out (i := 4) rfl).1; have X11c0 := (k.cell_of X11.out (i := 0) rfl).1; have X11c1 := (k.cell_of X11.out (i := 1) rfl).1; have X11c2 := (k.cell_of X11.out (i := 2) rfl).1; have X11c3 := (k.cell_of X11.out (i := 3) rfl).1; clear hb))
              go_ret
              exact ⟨rfl, HB.out⟩
          · have hV3b : decide (V < 3) = true := decide_eq_true (by omega)
            go_enter Try.func5, Try.ntmps5
            go_upto_region 3 with (go_at_call 6; ((with_reducible refine (HK.out _).mono ?_); rintro e v1 ⟨rfl, hb⟩; obtain ⟨hx0, hbb, hz0⟩ := k.boxes1 hb; have X5 := Lib.hid hx0; have HB := Lib.hid hbb; clear hbb hx0; have X5c0 := (k.cell_of X5.out (i := 0) rfl).1; have X5c1 := (k.cell_of X5.out (i := 1) rfl).1; have X5c2 := (k.cell_of X5.out (i := 2) rfl).1; have X5c3 := (k.cell_of X5.out (i := 3) rfl).1; have X5c4 := (k.cell_of X5.out (i := 4) rfl).1; clear hb))
            clear X5c0 X5c1 X5c2 X5c3 X5c4
            have ⟨X5c0, X5f0⟩ := k.cell_of X5.out (i := 0) rfl
            have ⟨X5c1, X5f1⟩ := k.cell_of X5.out (i := 1) rfl
            have ⟨X5c2, X5f2⟩ := k.cell_of X5.out (i := 2) rfl
            have ⟨X5c3, X5f3⟩ := k.cell_of X5.out (i := 3) rfl
            have ⟨X5c4, X5f4⟩ := k.cell_of X5.out (i := 4) rfl
            go_upto_region 4 with (fail)
            clear X5c0 X5f0 X5c1 X5f1 X5c2 X5f2 X5c3 X5f3 X5c4 X5f4
            have hx : k.Box ((v1.setCell ⟨w.heap.size, 3, none⟩ (.int .i64 (-1073741824))).setCell ⟨w.heap.size, 4, none⟩ (.int .i64 1073741824)) w.heap.size 0 [.int .i64 V, .int .i64 A, .int .i64 D, .int .i64 (-1073741824), .int .i64 1073741824] := (X5.out.put 3 (by show 3 < 5; omega) (.int .i64 (-1073741824))).put 4 (by show 4 < 5; omega) (.int .i64 1073741824)
            have hb := (HB.out.setCell (Nat.le_refl w.heap.size) (p := ⟨w.heap.size, 3, none⟩) (.int .i64 (-1073741824))).setCell (Nat.le_refl w.heap.size) (p := ⟨w.heap.size, 4, none⟩) (.int .i64 1073741824)
            have hz : w.heap.size < ((v1.setCell ⟨w.heap.size, 3, none⟩ (.int .i64 (-1073741824))).setCell ⟨w.heap.size, 4, none⟩ (.int .i64 1073741824)).heap.size := by simpa using hz0
            generalize ((v1.setCell ⟨w.heap.size, 3, none⟩ (.int .i64 (-1073741824))).setCell ⟨w.heap.size, 4, none⟩ (.int .i64 1073741824)) = v2 at hx hb hz ⊢
            clear X5 HB hz0
            have X5 := Lib.hid hx
            have HB := Lib.hid hb
            have hz0 := hz
            clear hx hb hz
            have X5c0 := (k.cell_of X5.out (i := 0) rfl).1
            have X5c1 := (k.cell_of X5.out (i := 1) rfl).1
            have X5c2 := (k.cell_of X5.out (i := 2) rfl).1
            have X5c3 := (k.cell_of X5.out (i := 3) rfl).1
            have X5c4 := (k.cell_of X5.out (i := 4) rfl).1
            go_upto_region 5 with (go_at_call 7; ((with_reducible refine (HN.out _).mono ?_); rintro e v3 ⟨rfl, hb⟩; have X5 := Lib.hid (X5.out.below hb hz0); have hz0 := Nat.lt_of_lt_of_le hz0 hb.size; have HB := Lib.hid (HB.out.trans (hb.mono HB.out.size)); clear X5c0 X5c1 X5c2 X5c3 X5c4; have X5c0 := (k.cell_of X5.out (i := 0) rfl).1; have X5c1 := (k.cell_of X5.out (i := 1) rfl).1; have X5c2 := (k.cell_of X5.out (i := 2) rfl).1; have X5c3 := (k.cell_of X5.out (i := 3) rfl).1; have X5c4 := (k.cell_of X5.out (i := 4) rfl).1; clear hb))
            have hgeX11 : w.heap.size < v3.heap.size := hz0
            obtain ⟨hx, hb, hzX11⟩ := k.boxes1 (w := v3) (c1 := #[.int .i64 0, .int .i64 F, .int .i64 C, .bool false]) (t1 := 23) (Below.refl _ _)
            generalize (v3.alloc (.cells #[.int .i64 0, .int .i64 F, .int .i64 C, .bool false] 23)) = v4 at hb hx hzX11 ⊢
            have X5 := Lib.hid (X5.out.below hb hz0)
            have hz0 := Nat.lt_of_lt_of_le hz0 hb.size
            have HB := Lib.hid (HB.out.trans (hb.mono HB.out.size))
            clear X5c0 X5c1 X5c2 X5c3 X5c4
            obtain ⟨gX11, hgX11⟩ : ∃ g, v3.heap.size = g := ⟨_, rfl⟩
            rw [hgX11] at hx hzX11 hgeX11 ⊢
            skip
            have X11 := Lib.hid hx
            have X5c0 := (k.cell_of X5.out (i := 0) rfl).1
            have X5c1 := (k.cell_of X5.out (i := 1) rfl).1
            have X5c2 := (k.cell_of X5.out (i := 2) rfl).1
            have X5c3 := (k.cell_of X5.out (i := 3) rfl).1
            have X5c4 := (k.cell_of X5.out (i := 4) rfl).1
            have X11c0 := (k.cell_of X11.out (i := 0) rfl).1
            have X11c1 := (k.cell_of X11.out (i := 1) rfl).1
            have X11c2 := (k.cell_of X11.out (i := 2) rfl).1
            have X11c3 := (k.cell_of X11.out (i := 3) rfl).1
            clear hb hx hgX11
            go_wp2_with (go_at_call 13; ((with_reducible refine (HL.out _).mono ?_); rintro e v5 ⟨rfl, hb⟩; have X5 := Lib.hid (X5.out.below hb hz0); have X11 := Lib.hid (X11.out.below hb hzX11); have hz0 := Nat.lt_of_lt_of_le hz0 hb.size; have hzX11 := Nat.lt_of_lt_of_le hzX11 hb.size; have HB := Lib.hid (HB.out.trans (hb.mono HB.out.size)); clear X5c0 X5c1 X5c2 X5c3 X5c4 X11c0 X11c1 X11c2 X11c3; have X5c0 := (k.cell_of X5.out (i := 0) rfl).1; have X5c1 := (k.cell_of X5.out (i := 1) rfl).1; have X5c2 := (k.cell_of X5.out (i := 2) rfl).1; have X5c3 := (k.cell_of X5.out (i := 3) rfl).1; have X5c4 := (k.cell_of X5.out (i := 4) rfl).1; have X11c0 := (k.cell_of X11.out (i := 0) rfl).1; have X11c1 := (k.cell_of X11.out (i := 1) rfl).1; have X11c2 := (k.cell_of X11.out (i := 2) rfl).1; have X11c3 := (k.cell_of X11.out (i := 3) rfl).1; clear hb))
            go_ret
            exact ⟨rfl, HB.out⟩
        · have hD3b : decide (D < 3) = true := decide_eq_true (by omega)
          go_enter Try.func5, Try.ntmps5
          go_upto_region 3 with (go_at_call 6; ((with_reducible refine (HK.out _).mono ?_); rintro e v1 ⟨rfl, hb⟩; obtain ⟨hx0, hbb, hz0⟩ := k.boxes1 hb; have X5 := Lib.hid hx0; have HB := Lib.hid hbb; clear hbb hx0; have X5c0 := (k.cell_of X5.out (i := 0) rfl).1; have X5c1 := (k.cell_of X5.out (i := 1) rfl).1; have X5c2 := (k.cell_of X5.out (i := 2) rfl).1; have X5c3 := (k.cell_of X5.out (i := 3) rfl).1; have X5c4 := (k.cell_of X5.out (i := 4) rfl).1; clear hb))
          clear X5c0 X5c1 X5c2 X5c3 X5c4
          have ⟨X5c0, X5f0⟩ := k.cell_of X5.out (i := 0) rfl
          have ⟨X5c1, X5f1⟩ := k.cell_of X5.out (i := 1) rfl
          have ⟨X5c2, X5f2⟩ := k.cell_of X5.out (i := 2) rfl
          have ⟨X5c3, X5f3⟩ := k.cell_of X5.out (i := 3) rfl
          have ⟨X5c4, X5f4⟩ := k.cell_of X5.out (i := 4) rfl
          go_upto_region 4 with (fail)
          clear X5c0 X5f0 X5c1 X5f1 X5c2 X5f2 X5c3 X5f3 X5c4 X5f4
          have hx : k.Box ((v1.setCell ⟨w.heap.size, 3, none⟩ (.int .i64 (-1073741824))).setCell ⟨w.heap.size, 4, none⟩ (.int .i64 1073741824)) w.heap.size 0 [.int .i64 V, .int .i64 A, .int .i64 D, .int .i64 (-1073741824), .int .i64 1073741824] := (X5.out.put 3 (by show 3 < 5; omega) (.int .i64 (-1073741824))).put 4 (by show 4 < 5; omega) (.int .i64 1073741824)
          have hb := (HB.out.setCell (Nat.le_refl w.heap.size) (p := ⟨w.heap.size, 3, none⟩) (.int .i64 (-1073741824))).setCell (Nat.le_refl w.heap.size) (p := ⟨w.heap.size, 4, none⟩) (.int .i64 1073741824)
          have hz : w.heap.size < ((v1.setCell ⟨w.heap.size, 3, none⟩ (.int .i64 (-1073741824))).setCell ⟨w.heap.size, 4, none⟩ (.int .i64 1073741824)).heap.size := by simpa using hz0
          generalize ((v1.setCell ⟨w.heap.size, 3, none⟩ (.int .i64 (-1073741824))).setCell ⟨w.heap.size, 4, none⟩ (.int .i64 1073741824)) = v2 at hx hb hz ⊢
          clear X5 HB hz0
          have X5 := Lib.hid hx
          have HB := Lib.hid hb
          have hz0 := hz
          clear hx hb hz
          have X5c0 := (k.cell_of X5.out (i := 0) rfl).1
          have X5c1 := (k.cell_of X5.out (i := 1) rfl).1
          have X5c2 := (k.cell_of X5.out (i := 2) rfl).1
          have X5c3 := (k.cell_of X5.out (i := 3) rfl).1
          have X5c4 := (k.cell_of X5.out (i := 4) rfl).1
          go_upto_region 5 with (go_at_call 7; ((with_reducible refine (HN.out _).mono ?_); rintro e v3 ⟨rfl, hb⟩; have X5 := Lib.hid (X5.out.below hb hz0); have hz0 := Nat.lt_of_lt_of_le hz0 hb.size; have HB := Lib.hid (HB.out.trans (hb.mono HB.out.size)); clear X5c0 X5c1 X5c2 X5c3 X5c4; have X5c0 := (k.cell_of X5.out (i := 0) rfl).1; have X5c1 := (k.cell_of X5.out (i := 1) rfl).1; have X5c2 := (k.cell_of X5.out (i := 2) rfl).1; have X5c3 := (k.cell_of X5.out (i := 3) rfl).1; have X5c4 := (k.cell_of X5.out (i := 4) rfl).1; clear hb))
          have hgeX11 : w.heap.size < v3.heap.size := hz0
          obtain ⟨hx, hb, hzX11⟩ := k.boxes1 (w := v3) (c1 := #[.int .i64 0, .int .i64 F, .int .i64 C, .bool false]) (t1 := 23) (Below.refl _ _)
          generalize (v3.alloc (.cells #[.int .i64 0, .int .i64 F, .int .i64 C, .bool false] 23)) = v4 at hb hx hzX11 ⊢
          have X5 := Lib.hid (X5.out.below hb hz0)
          have hz0 := Nat.lt_of_lt_of_le hz0 hb.size
          have HB := Lib.hid (HB.out.trans (hb.mono HB.out.size))
          clear X5c0 X5c1 X5c2 X5c3 X5c4
          obtain ⟨gX11, hgX11⟩ : ∃ g, v3.heap.size = g := ⟨_, rfl⟩
          rw [hgX11] at hx hzX11 hgeX11 ⊢
          skip
          have X11 := Lib.hid hx
          have X5c0 := (k.cell_of X5.out (i := 0) rfl).1
          have X5c1 := (k.cell_of X5.out (i := 1) rfl).1
          have X5c2 := (k.cell_of X5.out (i := 2) rfl).1
          have X5c3 := (k.cell_of X5.out (i := 3) rfl).1
          have X5c4 := (k.cell_of X5.out (i := 4) rfl).1
          have X11c0 := (k.cell_of X11.out (i := 0) rfl).1
          have X11c1 := (k.cell_of X11.out (i := 1) rfl).1
          have X11c2 := (k.cell_of X11.out (i := 2) rfl).1
          have X11c3 := (k.cell_of X11.out (i := 3) rfl).1
          clear hb hx hgX11
          go_wp2_with (go_at_call 13; ((with_reducible refine (HL.out _).mono ?_); rintro e v5 ⟨rfl, hb⟩; have X5 := Lib.hid (X5.out.below hb hz0); have X11 := Lib.hid (X11.out.below hb hzX11); have hz0 := Nat.lt_of_lt_of_le hz0 hb.size; have hzX11 := Nat.lt_of_lt_of_le hzX11 hb.size; have HB := Lib.hid (HB.out.trans (hb.mono HB.out.size)); clear X5c0 X5c1 X5c2 X5c3 X5c4 X11c0 X11c1 X11c2 X11c3; have X5c0 := (k.cell_of X5.out (i := 0) rfl).1; have X5c1 := (k.cell_of X5.out (i := 1) rfl).1; have X5c2 := (k.cell_of X5.out (i := 2) rfl).1; have X5c3 := (k.cell_of X5.out (i := 3) rfl).1; have X5c4 := (k.cell_of X5.out (i := 4) rfl).1; have X11c0 := (k.cell_of X11.out (i := 0) rfl).1; have X11c1 := (k.cell_of X11.out (i := 1) rfl).1; have X11c2 := (k.cell_of X11.out (i := 2) rfl).1; have X11c3 := (k.cell_of X11.out (i := 3) rfl).1; clear hb))
          go_ret
          exact ⟨rfl, HB.out⟩
      · have h60b : decide (60 < F) = true := decide_eq_true (by omega)
        go_enter Try.func5, Try.ntmps5
        go_upto_region 3 with (go_at_call 6; ((with_reducible refine (HK.out _).mono ?_); rintro e v1 ⟨rfl, hb⟩; obtain ⟨hx0, hbb, hz0⟩ := k.boxes1 hb; have X5 := Lib.hid hx0; have HB := Lib.hid hbb; clear hbb hx0; have X5c0 := (k.cell_of X5.out (i := 0) rfl).1; have X5c1 := (k.cell_of X5.out (i := 1) rfl).1; have X5c2 := (k.cell_of X5.out (i := 2) rfl).1; have X5c3 := (k.cell_of X5.out (i := 3) rfl).1; have X5c4 := (k.cell_of X5.out (i := 4) rfl).1; clear hb))
        clear X5c0 X5c1 X5c2 X5c3 X5c4
        have ⟨X5c0, X5f0⟩ := k.cell_of X5.out (i := 0) rfl
        have ⟨X5c1, X5f1⟩ := k.cell_of X5.out (i := 1) rfl
        have ⟨X5c2, X5f2⟩ := k.cell_of X5.out (i := 2) rfl
        have ⟨X5c3, X5f3⟩ := k.cell_of X5.out (i := 3) rfl
        have ⟨X5c4, X5f4⟩ := k.cell_of X5.out (i := 4) rfl
        go_upto_region 4 with (fail)
        clear X5c0 X5f0 X5c1 X5f1 X5c2 X5f2 X5c3 X5f3 X5c4 X5f4
        have hx : k.Box ((v1.setCell ⟨w.heap.size, 3, none⟩ (.int .i64 (-1073741824))).setCell ⟨w.heap.size, 4, none⟩ (.int .i64 1073741824)) w.heap.size 0 [.int .i64 V, .int .i64 A, .int .i64 D, .int .i64 (-1073741824), .int .i64 1073741824] := (X5.out.put 3 (by show 3 < 5; omega) (.int .i64 (-1073741824))).put 4 (by show 4 < 5; omega) (.int .i64 1073741824)
        have hb := (HB.out.setCell (Nat.le_refl w.heap.size) (p := ⟨w.heap.size, 3, none⟩) (.int .i64 (-1073741824))).setCell (Nat.le_refl w.heap.size) (p := ⟨w.heap.size, 4, none⟩) (.int .i64 1073741824)
        have hz : w.heap.size < ((v1.setCell ⟨w.heap.size, 3, none⟩ (.int .i64 (-1073741824))).setCell ⟨w.heap.size, 4, none⟩ (.int .i64 1073741824)).heap.size := by simpa using hz0
        generalize ((v1.setCell ⟨w.heap.size, 3, none⟩ (.int .i64 (-1073741824))).setCell ⟨w.heap.size, 4, none⟩ (.int .i64 1073741824)) = v2 at hx hb hz ⊢
        clear X5 HB hz0
        have X5 := Lib.hid hx
        have HB := Lib.hid hb
        have hz0 := hz
        clear hx hb hz
        have X5c0 := (k.cell_of X5.out (i := 0) rfl).1
        have X5c1 := (k.cell_of X5.out (i := 1) rfl).1
        have X5c2 := (k.cell_of X5.out (i := 2) rfl).1
        have X5c3 := (k.cell_of X5.out (i := 3) rfl).1
        have X5c4 := (k.cell_of X5.out (i := 4) rfl).1
        go_upto_region 5 with (go_at_call 7; ((with_reducible refine (HN.out _).mono ?_); rintro e v3 ⟨rfl, hb⟩; have X5 := Lib.hid (X5.out.below hb hz0); have hz0 := Nat.lt_of_lt_of_le hz0 hb.size; have HB := Lib.hid (HB.out.trans (hb.mono HB.out.size)); clear X5c0 X5c1 X5c2 X5c3 X5c4; have X5c0 := (k.cell_of X5.out (i := 0) rfl).1; have X5c1 := (k.cell_of X5.out (i := 1) rfl).1; have X5c2 := (k.cell_of X5.out (i := 2) rfl).1; have X5c3 := (k.cell_of X5.out (i := 3) rfl).1; have X5c4 := (k.cell_of X5.out (i := 4) rfl).1; clear hb))
        have hgeX11 : w.heap.size < v3.heap.size := hz0
        obtain ⟨hx, hb, hzX11⟩ := k.boxes1 (w := v3) (c1 := #[.int .i64 0, .int .i64 F, .int .i64 C, .bool false]) (t1 := 23) (Below.refl _ _)
        generalize (v3.alloc (.cells #[.int .i64 0, .int .i64 F, .int .i64 C, .bool false] 23)) = v4 at hb hx hzX11 ⊢
        have X5 := Lib.hid (X5.out.below hb hz0)
        have hz0 := Nat.lt_of_lt_of_le hz0 hb.size
        have HB := Lib.hid (HB.out.trans (hb.mono HB.out.size))
        clear X5c0 X5c1 X5c2 X5c3 X5c4
        obtain ⟨gX11, hgX11⟩ : ∃ g, v3.heap.size = g := ⟨_, rfl⟩
        rw [hgX11] at hx hzX11 hgeX11 ⊢
        skip
        have X11 := Lib.hid hx
        have X5c0 := (k.cell_of X5.out (i := 0) rfl).1
        have X5c1 := (k.cell_of X5.out (i := 1) rfl).1
        have X5c2 := (k.cell_of X5.out (i := 2) rfl).1
        have X5c3 := (k.cell_of X5.out (i := 3) rfl).1
        have X5c4 := (k.cell_of X5.out (i := 4) rfl).1
        have X11c0 := (k.cell_of X11.out (i := 0) rfl).1
        have X11c1 := (k.cell_of X11.out (i := 1) rfl).1
        have X11c2 := (k.cell_of X11.out (i := 2) rfl).1
        have X11c3 := (k.cell_of X11.out (i := 3) rfl).1
        clear hb hx hgX11
        go_wp2_with (go_at_call 13; ((with_reducible refine (HL.out _).mono ?_); rintro e v5 ⟨rfl, hb⟩; have X5 := Lib.hid (X5.out.below hb hz0); have X11 := Lib.hid (X11.out.below hb hzX11); have hz0 := Nat.lt_of_lt_of_le hz0 hb.size; have hzX11 := Nat.lt_of_lt_of_le hzX11 hb.size; have HB := Lib.hid (HB.out.trans (hb.mono HB.out.size)); clear X5c0 X5c1 X5c2 X5c3 X5c4 X11c0 X11c1 X11c2 X11c3; have X5c0 := (k.cell_of X5.out (i := 0) rfl).1; have X5c1 := (k.cell_of X5.out (i := 1) rfl).1; have X5c2 := (k.cell_of X5.out (i := 2) rfl).1; have X5c3 := (k.cell_of X5.out (i := 3) rfl).1; have X5c4 := (k.cell_of X5.out (i := 4) rfl).1; have X11c0 := (k.cell_of X11.out (i := 0) rfl).1; have X11c1 := (k.cell_of X11.out (i := 1) rfl).1; have X11c2 := (k.cell_of X11.out (i := 2) rfl).1; have X11c3 := (k.cell_of X11.out (i := 3) rfl).1; clear hb))
        go_ret
        exact ⟨rfl, HB.out⟩
    · rw [gn.right_no hl] at HL
      go_enter Try.func5, Try.ntmps5
      go_upto_region 3 with (go_at_call 6; ((with_reducible refine (HK.out _).mono ?_); rintro e v1 ⟨rfl, hb⟩; obtain ⟨hx0, hbb, hz0⟩ := k.boxes1 hb; have X5 := Lib.hid hx0; have HB := Lib.hid hbb; clear hbb hx0; have X5c0 := (k.cell_of X5.out (i := 0) rfl).1; have X5c1 := (k.cell_of X5.out (i := 1) rfl).1; have X5c2 := (k.cell_of X5.out (i := 2) rfl).1; have X5c3 := (k.cell_of X5.out (i := 3) rfl).1; have X5c4 := (k.cell_of X5.out (i := 4) rfl).1; clear hb))
      clear X5c0 X5c1 X5c2 X5c3 X5c4
      have ⟨X5c0, X5f0⟩ := k.cell_of X5.out (i := 0) rfl
      have ⟨X5c1, X5f1⟩ := k.cell_of X5.out (i := 1) rfl
      have ⟨X5c2, X5f2⟩ := k.cell_of X5.out (i := 2) rfl
      have ⟨X5c3, X5f3⟩ := k.cell_of X5.out (i := 3) rfl
      have ⟨X5c4, X5f4⟩ := k.cell_of X5.out (i := 4) rfl
      go_upto_region 4 with (fail)
      clear X5c0 X5f0 X5c1 X5f1 X5c2 X5f2 X5c3 X5f3 X5c4 X5f4
      have hx : k.Box ((v1.setCell ⟨w.heap.size, 3, none⟩ (.int .i64 (-1073741824))).setCell ⟨w.heap.size, 4, none⟩ (.int .i64 1073741824)) w.heap.size 0 [.int .i64 V, .int .i64 A, .int .i64 D, .int .i64 (-1073741824), .int .i64 1073741824] := (X5.out.put 3 (by show 3 < 5; omega) (.int .i64 (-1073741824))).put 4 (by show 4 < 5; omega) (.int .i64 1073741824)
      have hb := (HB.out.setCell (Nat.le_refl w.heap.size) (p := ⟨w.heap.size, 3, none⟩) (.int .i64 (-1073741824))).setCell (Nat.le_refl w.heap.size) (p := ⟨w.heap.size, 4, none⟩) (.int .i64 1073741824)
      have hz : w.heap.size < ((v1.setCell ⟨w.heap.size, 3, none⟩ (.int .i64 (-1073741824))).setCell ⟨w.heap.size, 4, none⟩ (.int .i64 1073741824)).heap.size := by simpa using hz0
      generalize ((v1.setCell ⟨w.heap.size, 3, none⟩ (.int .i64 (-1073741824))).setCell ⟨w.heap.size, 4, none⟩ (.int .i64 1073741824)) = v2 at hx hb hz ⊢
      clear X5 HB hz0
      have X5 := Lib.hid hx
      have HB := Lib.hid hb
      have hz0 := hz
      clear hx hb hz
      have X5c0 := (k.cell_of X5.out (i := 0) rfl).1
      have X5c1 := (k.cell_of X5.out (i := 1) rfl).1
      have X5c2 := (k.cell_of X5.out (i := 2) rfl).1
      have X5c3 := (k.cell_of X5.out (i := 3) rfl).1
      have X5c4 := (k.cell_of X5.out (i := 4) rfl).1
      go_upto_region 5 with (go_at_call 7; ((with_reducible refine (HN.out _).mono ?_); rintro e v3 ⟨rfl, hb⟩; have X5 := Lib.hid (X5.out.below hb hz0); have hz0 := Nat.lt_of_lt_of_le hz0 hb.size; have HB := Lib.hid (HB.out.trans (hb.mono HB.out.size)); clear X5c0 X5c1 X5c2 X5c3 X5c4; have X5c0 := (k.cell_of X5.out (i := 0) rfl).1; have X5c1 := (k.cell_of X5.out (i := 1) rfl).1; have X5c2 := (k.cell_of X5.out (i := 2) rfl).1; have X5c3 := (k.cell_of X5.out (i := 3) rfl).1; have X5c4 := (k.cell_of X5.out (i := 4) rfl).1; clear hb))
      have hgeX11 : w.heap.size < v3.heap.size := hz0
      obtain ⟨hx, hb, hzX11⟩ := k.boxes1 (w := v3) (c1 := #[.int .i64 0, .int .i64 F, .int .i64 C, .bool false]) (t1 := 23) (Below.refl _ _)
      generalize (v3.alloc (.cells #[.int .i64 0, .int .i64 F, .int .i64 C, .bool false] 23)) = v4 at hb hx hzX11 ⊢
      have X5 := Lib.hid (X5.out.below hb hz0)
      have hz0 := Nat.lt_of_lt_of_le hz0 hb.size
      have HB := Lib.hid (HB.out.trans (hb.mono HB.out.size))
      clear X5c0 X5c1 X5c2 X5c3 X5c4
      obtain ⟨gX11, hgX11⟩ : ∃ g, v3.heap.size = g := ⟨_, rfl⟩
      rw [hgX11] at hx hzX11 hgeX11 ⊢
      skip
      have X11 := Lib.hid hx
      have X5c0 := (k.cell_of X5.out (i := 0) rfl).1
      have X5c1 := (k.cell_of X5.out (i := 1) rfl).1
      have X5c2 := (k.cell_of X5.out (i := 2) rfl).1
      have X5c3 := (k.cell_of X5.out (i := 3) rfl).1
      have X5c4 := (k.cell_of X5.out (i := 4) rfl).1
      have X11c0 := (k.cell_of X11.out (i := 0) rfl).1
      have X11c1 := (k.cell_of X11.out (i := 1) rfl).1
      have X11c2 := (k.cell_of X11.out (i := 2) rfl).1
      have X11c3 := (k.cell_of X11.out (i := 3) rfl).1
      clear hb hx hgX11
      go_wp2_with (go_at_call 13; ((with_reducible refine (HL.out _).mono ?_); rintro e v5 ⟨rfl, hb⟩; have X5 := Lib.hid (X5.out.below hb hz0); have X11 := Lib.hid (X11.out.below hb hzX11); have hz0 := Nat.lt_of_lt_of_le hz0 hb.size; have hzX11 := Nat.lt_of_lt_of_le hzX11 hb.size; have HB := Lib.hid (HB.out.trans (hb.mono HB.out.size)); clear X5c0 X5c1 X5c2 X5c3 X5c4 X11c0 X11c1 X11c2 X11c3; have X5c0 := (k.cell_of X5.out (i := 0) rfl).1; have X5c1 := (k.cell_of X5.out (i := 1) rfl).1; have X5c2 := (k.cell_of X5.out (i := 2) rfl).1; have X5c3 := (k.cell_of X5.out (i := 3) rfl).1; have X5c4 := (k.cell_of X5.out (i := 4) rfl).1; have X11c0 := (k.cell_of X11.out (i := 0) rfl).1; have X11c1 := (k.cell_of X11.out (i := 1) rfl).1; have X11c2 := (k.cell_of X11.out (i := 2) rfl).1; have X11c3 := (k.cell_of X11.out (i := 3) rfl).1; clear hb))
      go_ret
      exact ⟨rfl, HB.out⟩
  · skip
    have HN : Hid (∀ W, Calls Try.prog 7 #[.int .i64 F, .int .i64 C] W fun e w' => e = .returned (.tuple #[.agg #[.int .i64 0, .int .i64 0, .int .i64 0, .bool false], .int .i64 1]) ∧ Below W.heap.size W w') := Lib.hid fun W => by have h := new_any F C W; rw [show newH F C = zeroH from if_neg hn, show newE F C = 1 from if_neg hn] at h; exact h
    go_enter Try.func5, Try.ntmps5
    go_upto_region 3 with (go_at_call 6; ((with_reducible refine (HK.out _).mono ?_); rintro e v1 ⟨rfl, hb⟩; obtain ⟨hx0, hbb, hz0⟩ := k.boxes1 hb; have X5 := Lib.hid hx0; have HB := Lib.hid hbb; clear hbb hx0; have X5c0 := (k.cell_of X5.out (i := 0) rfl).1; have X5c1 := (k.cell_of X5.out (i := 1) rfl).1; have X5c2 := (k.cell_of X5.out (i := 2) rfl).1; have X5c3 := (k.cell_of X5.out (i := 3) rfl).1; have X5c4 := (k.cell_of X5.out (i := 4) rfl).1; clear hb))
    clear X5c0 X5c1 X5c2 X5c3 X5c4
    have ⟨X5c0, X5f0⟩ := k.cell_of X5.out (i := 0) rfl
    have ⟨X5c1, X5f1⟩ := k.cell_of X5.out (i := 1) rfl
    have ⟨X5c2, X5f2⟩ := k.cell_of X5.out (i := 2) rfl
    have ⟨X5c3, X5f3⟩ := k.cell_of X5.out (i := 3) rfl
    have ⟨X5c4, X5f4⟩ := k.cell_of X5.out (i := 4) rfl
    go_upto_region 4 with (fail)
    clear X5c0 X5f0 X5c1 X5f1 X5c2 X5f2 X5c3 X5f3 X5c4 X5f4
    have hx : k.Box ((v1.setCell ⟨w.heap.size, 3, none⟩ (.int .i64 (-1073741824))).setCell ⟨w.heap.size, 4, none⟩ (.int .i64 1073741824)) w.heap.size 0 [.int .i64 V, .int .i64 A, .int .i64 D, .int .i64 (-1073741824), .int .i64 1073741824] := (X5.out.put 3 (by show 3 < 5; omega) (.int .i64 (-1073741824))).put 4 (by show 4 < 5; omega) (.int .i64 1073741824)
    have hb := (HB.out.setCell (Nat.le_refl w.heap.size) (p := ⟨w.heap.size, 3, none⟩) (.int .i64 (-1073741824))).setCell (Nat.le_refl w.heap.size) (p := ⟨w.heap.size, 4, none⟩) (.int .i64 1073741824)
    have hz : w.heap.size < ((v1.setCell ⟨w.heap.size, 3, none⟩ (.int .i64 (-1073741824))).setCell ⟨w.heap.size, 4, none⟩ (.int .i64 1073741824)).heap.size := by simpa using hz0
    generalize ((v1.setCell ⟨w.heap.size, 3, none⟩ (.int .i64 (-1073741824))).setCell ⟨w.heap.size, 4, none⟩ (.int .i64 1073741824)) = v2 at hx hb hz ⊢
    clear X5 HB hz0
    have X5 := Lib.hid hx
    have HB := Lib.hid hb
    have hz0 := hz
    clear hx hb hz
    have X5c0 := (k.cell_of X5.out (i := 0) rfl).1
    have X5c1 := (k.cell_of X5.out (i := 1) rfl).1
    have X5c2 := (k.cell_of X5.out (i := 2) rfl).1
    have X5c3 := (k.cell_of X5.out (i := 3) rfl).1
    have X5c4 := (k.cell_of X5.out (i := 4) rfl).1
    go_upto_region 5 with (go_at_call 7; ((with_reducible refine (HN.out _).mono ?_); rintro e v3 ⟨rfl, hb⟩; have X5 := Lib.hid (X5.out.below hb hz0); have hz0 := Nat.lt_of_lt_of_le hz0 hb.size; have HB := Lib.hid (HB.out.trans (hb.mono HB.out.size)); clear X5c0 X5c1 X5c2 X5c3 X5c4; have X5c0 := (k.cell_of X5.out (i := 0) rfl).1; have X5c1 := (k.cell_of X5.out (i := 1) rfl).1; have X5c2 := (k.cell_of X5.out (i := 2) rfl).1; have X5c3 := (k.cell_of X5.out (i := 3) rfl).1; have X5c4 := (k.cell_of X5.out (i := 4) rfl).1; clear hb))
    have hgeX11 : w.heap.size < v3.heap.size := hz0
    obtain ⟨hx, hb, hzX11⟩ := k.boxes1 (w := v3) (c1 := #[.int .i64 0, .int .i64 0, .int .i64 0, .bool false]) (t1 := 23) (Below.refl _ _)
    generalize (v3.alloc (.cells #[.int .i64 0, .int .i64 0, .int .i64 0, .bool false] 23)) = v4 at hb hx hzX11 ⊢
    have X5 := Lib.hid (X5.out.below hb hz0)
    have hz0 := Nat.lt_of_lt_of_le hz0 hb.size
    have HB := Lib.hid (HB.out.trans (hb.mono HB.out.size))
    clear X5c0 X5c1 X5c2 X5c3 X5c4
    obtain ⟨gX11, hgX11⟩ : ∃ g, v3.heap.size = g := ⟨_, rfl⟩
    rw [hgX11] at hx hzX11 hgeX11 ⊢
    skip
    have X11 := Lib.hid hx
    have X5c0 := (k.cell_of X5.out (i := 0) rfl).1
    have X5c1 := (k.cell_of X5.out (i := 1) rfl).1
    have X5c2 := (k.cell_of X5.out (i := 2) rfl).1
    have X5c3 := (k.cell_of X5.out (i := 3) rfl).1
    have X5c4 := (k.cell_of X5.out (i := 4) rfl).1
    have X11c0 := (k.cell_of X11.out (i := 0) rfl).1
    have X11c1 := (k.cell_of X11.out (i := 1) rfl).1
    have X11c2 := (k.cell_of X11.out (i := 2) rfl).1
    have X11c3 := (k.cell_of X11.out (i := 3) rfl).1
    clear hb hx hgX11
    go_wp2_with (go_at_call 13; ((with_reducible refine (HL.out _).mono ?_); rintro e v5 ⟨rfl, hb⟩; have X5 := Lib.hid (X5.out.below hb hz0); have X11 := Lib.hid (X11.out.below hb hzX11); have hz0 := Nat.lt_of_lt_of_le hz0 hb.size; have hzX11 := Nat.lt_of_lt_of_le hzX11 hb.size; have HB := Lib.hid (HB.out.trans (hb.mono HB.out.size)); clear X5c0 X5c1 X5c2 X5c3 X5c4 X11c0 X11c1 X11c2 X11c3; have X5c0 := (k.cell_of X5.out (i := 0) rfl).1; have X5c1 := (k.cell_of X5.out (i := 1) rfl).1; have X5c2 := (k.cell_of X5.out (i := 2) rfl).1; have X5c3 := (k.cell_of X5.out (i := 3) rfl).1; have X5c4 := (k.cell_of X5.out (i := 4) rfl).1; have X11c0 := (k.cell_of X11.out (i := 0) rfl).1; have X11c1 := (k.cell_of X11.out (i := 1) rfl).1; have X11c2 := (k.cell_of X11.out (i := 2) rfl).1; have X11c3 := (k.cell_of X11.out (i := 3) rfl).1; clear hb))
    go_ret
    exact ⟨rfl, HB.out⟩
end Go.Proofs.Ytojiefppaiafaaa.homeFinds
