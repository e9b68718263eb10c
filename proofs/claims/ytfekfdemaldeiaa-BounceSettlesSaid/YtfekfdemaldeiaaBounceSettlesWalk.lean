/- The walk of the law BounceSettles: any count, any value, whatever is shown: it returns true, and what was in memory is as it was. -/
import Derived.Test.YtfekfdemaldeiaaVAwake
namespace Go.Proofs.Ytfekfdemaldeiaa.bounceSettles
open Go.ChangeShapes Go.WideShapes Go.ChangeAt Go.RowKit Go.Proofs.Ytfekfdemaldeiaa.k Go.Proofs.Ytfekfdemaldeiaa.v Go.Proofs.Ytfekfdemaldeiaa
set_option linter.unusedVariables false

set_option maxRecDepth 100000 in
set_option maxHeartbeats 4000000 in
theorem walk (c : Int) (v : Bool) (a : Option Addr) (len cap : Nat) (V : Nat → Bool) (w : World) (hc : (Lit.int .i64 c).wf = true) (hV : IsTruths w a len cap V) :
    Calls Try.prog 4 #[.int .i64 c, .bool v, .slice a len cap] w fun e w' => e = .returned (.bool true) ∧ Below w.heap.size w w' := by
  have hi := wf64 hc
  have W1 := Lib.hid hV
  have hlen := hV.len
  clear hc hV
  have HK := Lib.hid fun W => awake_any W
  by_cases hl : 1 ≤ c ∧ c ≤ 20
  · obtain ⟨l1, l2⟩ := hl
    have HN := Lib.hid fun W => new_yes c v l1 l2 W
    go_enter Try.func4, Try.ntmps4
    go_wp2_with (first
      | (go_at_call 6; ((with_reducible refine (HK.out _).mono ?_); rintro e w2 ⟨rfl, hb⟩; have HB2 := Lib.hid hb; clear hb))
      | (go_at_call 7; ((with_reducible refine (HN.out _).mono ?_); rintro e w3 ⟨rfl, hb⟩; have HB3 := Lib.hid (HB2.out.trans (hb.mono HB2.out.size)); clear hb)))
    have hg : w.heap.size ≤ w3.heap.size := HB3.out.size
    have H0 : Hid (Box (w3.alloc (.cells #[.int .i64 c, .bool v, .int .i64 0] 23)) w3.heap.size 0 [.int .i64 c, .bool v, .int .i64 0] ∧ Below w.heap.size w (w3.alloc (.cells #[.int .i64 c, .bool v, .int .i64 0] 23)) ∧ w3.heap.size < (w3.alloc (.cells #[.int .i64 c, .bool v, .int .i64 0] 23)).heap.size) :=
      Lib.hid ⟨Box.new w3 _ _, HB3.out.alloc hg _, by simp⟩
    clear HB2 HB3 HN HK
    generalize w3.heap.size = g at *
    go_loopw [9, 10] (fun r i wr => ∃ (k : Nat) (x : Bool) (y : Int), k ≤ len ∧ k ≤ 300 ∧ i = .int .i64 k ∧ r = .int .i64 y ∧ RightB c y ∧ Box wr g 0 [.int .i64 c, .bool x, .int .i64 y] ∧ Below w.heap.size w wr ∧ g < wr.heap.size) (fun _ i _ => len - (intOf i).toNat)
    case atStart => exact ⟨0, v, 0, Nat.zero_le _, by omega, rfl, rfl, ⟨l1, l2, by omega, by omega⟩, H0.out.1, H0.out.2.1, H0.out.2.2⟩
    case round =>
      clear H0
      obtain ⟨k, x, y, hk, hk3, rfl, rfl, hry, hY, hb, hgw⟩ := hrel
      have HY := Lib.hid hY
      have HB := Lib.hid hb
      have hry2 := hry.2.2
      clear hb hY
      by_cases hlt : k < len
      · by_cases hlt3 : k < 300
        · obtain ⟨b, off, rfl, hbw, hcap, hcm, hrow⟩ := W1.out.row (by omega)
          have hck : wr.cell? ⟨b, off + k, none⟩ = some (.bool (V k)) := (HB.out.cell (p := ⟨b, off + k, none⟩) hbw).trans (hrow k hlt)
          clear hrow
          generalize V k = s at *
          have hst := fun W => step_ok c x y s hry W
          have hbwr : b < wr.heap.size := Nat.lt_of_lt_of_le hbw HB.out.size
          have b1 : b < wr.heap.size + 1 := by omega
          have g1 : g < wr.heap.size + 1 := by omega
          have ne00 : ¬ g = wr.heap.size := by omega
          have en00 : ¬ wr.heap.size = g := by omega
          have ne10 : ¬ b = wr.heap.size := by omega
          have en10 : ¬ wr.heap.size = b := by omega
          by_cases hs : s = x
          · subst hs
            obtain ⟨e1, e2⟩ := step_same (c := c) (o := y) (rfl : s = s)
            rw [e1, e2] at hst
            have HSR := step_right (v := s) (s := s) hry
            rw [e2] at HSR
            have S1 := Lib.hid hst
            have hrn := fun W => right_any c (s) (0) W
            rw [right_yes HSR] at hrn
            have RN := Lib.hid hrn
            have HSR := Lib.hid HSR
            clear hst hrn e1 e2 hry
            have hcz : (0 == c) = false := by rw [beq_eq_false_iff_ne]; omega
            obtain ⟨c0, f0, c1, f1, c2, f2, _⟩ := HY.out
            go_upto_region 10 with (fail)
            go_quiet (fail)
            go_upto_region 13 with (fail)
            go_cut [11] from 22 to 72 (fun p wx => ∃ gx : Nat, p = .pointer (some ⟨gx, 0, none⟩) ∧ Box wx gx 0 [.int .i64 c, .bool (s), .int .i64 (0)] ∧ Box wx g 0 [.int .i64 c, .bool s, .int .i64 y] ∧ gx ≠ g ∧ Below w.heap.size w wx ∧ g < wx.heap.size ∧ gx < wx.heap.size)
            case first =>
              go_region_held3 (fun w' => w'.cell? ⟨g, 0, none⟩ = some (.int .i64 c) ∧ w'.cell? ⟨g, 1, none⟩ = some (.bool s) ∧ w'.cell? ⟨g, 2, none⟩ = some (.int .i64 y) ∧ w'.cell? ⟨b, off + k, none⟩ = some (.bool s))
                (go_keep)
                ((go_at_call 9; refine (S1.out _).mono ?_; rintro e w5 ⟨rfl, hb5⟩; have H5 : Below wr.heap.size wr w5 := (Below.trans (by repeat (first | with_reducible exact Below.refl _ _ | with_reducible refine Below.drew ?_ | with_reducible refine below_drawn ?_ _ | refine Below.alloc ?_ (by simp <;> omega) _)) (hb5.mono (by simp <;> omega))); obtain ⟨hc5, hf5⟩ := bcell hb5; have hz5 := hb5.size; (try ((with_reducible have mm := boxes1 hb5); obtain ⟨mm, _⟩ := mm; have mm := (show Box w5 wr.heap.size 0 [.int .i64 0, .bool false, .int .i64 0] from mm); obtain ⟨ma0, na0, ma1, na1, ma2, na2, _⟩ := mm)); simp at hz5; (try (by_cases qa : wr.heap.size < w5.heap.size; rotate_left; focus (exfalso; omega))); clear hc5 hf5; have me00 : ¬ g = w5.heap.size := (by omega); have em00 : ¬ w5.heap.size = g := (by omega); have lt00 : g < w5.heap.size := (by omega); have me10 : ¬ b = w5.heap.size := (by omega); have em10 : ¬ w5.heap.size = b := (by omega); have lt10 : b < w5.heap.size := (by omega); have k0 := (H5.cell (p := ⟨g, 0, none⟩) hgw).trans c0; have k1 := (H5.cell (p := ⟨g, 1, none⟩) hgw).trans c1; have k2 := (H5.cell (p := ⟨g, 2, none⟩) hgw).trans c2; have k3 := (H5.cell (p := ⟨b, off + k, none⟩) (Nat.lt_of_lt_of_le hbw HB.out.size)).trans hck))
              all_goals
                go_wp2_with fail
                go_meet
                case rel =>
                  refine ⟨_, rfl, ?_, HY.out.below (B := wr.heap.size) ?_ hgw, ?_, HB.out.trans (Below.mono ?_ HB.out.size), ?_, ?_⟩
                  · unfold Box Box Box Box; refine ⟨?_, ?_, ?_, ?_, ?_, ?_, trivial⟩
                    · first | (simp [go_sem]; done) | (simp [go_sem, *]; done)
                    · first | (simp [go_sem]; done) | (simp [go_sem, *]; done)
                    · first | (simp [go_sem]; done) | (simp [go_sem, *]; done)
                    · first | (simp [go_sem]; done) | (simp [go_sem, *]; done)
                    · first | (simp [go_sem]; done) | (simp [go_sem, *]; done)
                    · first | (simp [go_sem]; done) | (simp [go_sem, *]; done)
                  · (repeat (first | with_reducible exact H5 | with_reducible refine below_drawn ?_ _ | with_reducible refine Below.drew ?_ | (with_reducible refine Below.alloc ?_ ?_ _; rotate_left 1; focus (first | (simp; done) | (simp; omega) | omega)) | (with_reducible refine Below.setCell ?_ ?_ _; rotate_left 1; focus (first | (simp; done) | (simp; omega) | omega))))
                  · first | assumption | omega
                  · (repeat (first | with_reducible exact H5 | with_reducible refine below_drawn ?_ _ | with_reducible refine Below.drew ?_ | (with_reducible refine Below.alloc ?_ ?_ _; rotate_left 1; focus (first | (simp; done) | (simp; omega) | omega)) | (with_reducible refine Below.setCell ?_ ?_ _; rotate_left 1; focus (first | (simp; done) | (simp; omega) | omega))))
                  · first | (simp; done) | (simp; omega)
                  · first | (simp; done) | (simp; omega)
            case rest =>
              obtain ⟨gx, rfl, hX, hG, hne, hBc, hgc, hxc⟩ := hcut
              have HX := Lib.hid hX
              have HG := Lib.hid hG
              have HBC := Lib.hid hBc
              clear hBc c0 c1 c2 f0 f1 f2 hck HB HY
              obtain ⟨x0, xz0, x1, xz1, x2, xz2, _⟩ := hX
              obtain ⟨c0, f0, c1, f1, c2, f2, _⟩ := hG
              go_wp2_with (go_at_call 8; ((with_reducible refine (RN.out _).mono ?_); rintro e w7 ⟨rfl, hb7⟩; have HB7 := Lib.hid hb7; have HX7 := Lib.hid (HX.out.below hb7 hxc); have HG7 := Lib.hid (HG.out.below hb7 hgc); have s7 := hb7.size; clear hb7 x0 xz0 x1 xz1 x2 xz2 c0 f0 c1 f1 c2 f2; obtain ⟨x0, xz0, x1, xz1, x2, xz2, _⟩ := HX7.out; obtain ⟨c0, f0, c1, f1, c2, f2, _⟩ := HG7.out))
              go_roundw
              case rel =>
                obtain ⟨h1, h2, h3⟩ := HG7.out.puts (us := [.int .i64 c, .bool (s), .int .i64 (0)]) rfl
                have h4 := h3 w.heap.size hg
                exact ⟨k + 1, _, _, by omega, by omega, by go_num, rfl, HSR.out, h1, HBC.out.trans ((HB7.out.mono HBC.out.size).trans h4), Nat.lt_of_lt_of_le (Nat.lt_of_lt_of_le hgc s7) (Nat.le_of_eq h2.symm)⟩
              case measure => simp [intOf]; omega
          · by_cases ho : y + 1 = c
            · obtain ⟨e1, e2⟩ := step_full (c := c) (o := y) (s := s) (v := x) hs ho
              rw [e1, e2] at hst
              have HSR := step_right (v := x) (s := s) hry
              rw [e2] at HSR
              have S1 := Lib.hid hst
              have hrn := fun W => right_any c (s) (0) W
              rw [right_yes HSR] at hrn
              have RN := Lib.hid hrn
              have HSR := Lib.hid HSR
              clear hst hrn e1 e2 hry
              have hb1 : (s != x) = true := by rw [bne_iff_ne]; exact hs
              have hb2 : (s == x) = false := by rw [beq_eq_false_iff_ne]; exact hs
              have hcz : (y + 1 == c) = true := by rw [ho]; simp
              clear hs
              obtain ⟨c0, f0, c1, f1, c2, f2, _⟩ := HY.out
              go_upto_region 10 with (fail)
              go_quiet (fail)
              go_upto_region 13 with (fail)
              go_cut [11] from 22 to 72 (fun p wx => ∃ gx : Nat, p = .pointer (some ⟨gx, 0, none⟩) ∧ Box wx gx 0 [.int .i64 c, .bool (s), .int .i64 (0)] ∧ Box wx g 0 [.int .i64 c, .bool x, .int .i64 y] ∧ gx ≠ g ∧ Below w.heap.size w wx ∧ g < wx.heap.size ∧ gx < wx.heap.size)
              case first =>
                go_region_held3 (fun w' => w'.cell? ⟨g, 0, none⟩ = some (.int .i64 c) ∧ w'.cell? ⟨g, 1, none⟩ = some (.bool x) ∧ w'.cell? ⟨g, 2, none⟩ = some (.int .i64 y) ∧ w'.cell? ⟨b, off + k, none⟩ = some (.bool s))
                  (go_keep)
                  ((go_at_call 9; refine (S1.out _).mono ?_; rintro e w5 ⟨rfl, hb5⟩; have H5 : Below wr.heap.size wr w5 := (Below.trans (by repeat (first | with_reducible exact Below.refl _ _ | with_reducible refine Below.drew ?_ | with_reducible refine below_drawn ?_ _ | refine Below.alloc ?_ (by simp <;> omega) _)) (hb5.mono (by simp <;> omega))); obtain ⟨hc5, hf5⟩ := bcell hb5; have hz5 := hb5.size; (try ((with_reducible have mm := boxes1 hb5); obtain ⟨mm, _⟩ := mm; have mm := (show Box w5 wr.heap.size 0 [.int .i64 0, .bool false, .int .i64 0] from mm); obtain ⟨ma0, na0, ma1, na1, ma2, na2, _⟩ := mm)); simp at hz5; (try (by_cases qa : wr.heap.size < w5.heap.size; rotate_left; focus (exfalso; omega))); clear hc5 hf5; have me00 : ¬ g = w5.heap.size := (by omega); have em00 : ¬ w5.heap.size = g := (by omega); have lt00 : g < w5.heap.size := (by omega); have me10 : ¬ b = w5.heap.size := (by omega); have em10 : ¬ w5.heap.size = b := (by omega); have lt10 : b < w5.heap.size := (by omega); have k0 := (H5.cell (p := ⟨g, 0, none⟩) hgw).trans c0; have k1 := (H5.cell (p := ⟨g, 1, none⟩) hgw).trans c1; have k2 := (H5.cell (p := ⟨g, 2, none⟩) hgw).trans c2; have k3 := (H5.cell (p := ⟨b, off + k, none⟩) (Nat.lt_of_lt_of_le hbw HB.out.size)).trans hck))
                all_goals
                  go_wp2_with fail
                  go_meet
                  case rel =>
                    refine ⟨_, rfl, ?_, HY.out.below (B := wr.heap.size) ?_ hgw, ?_, HB.out.trans (Below.mono ?_ HB.out.size), ?_, ?_⟩
                    · unfold Box Box Box Box; refine ⟨?_, ?_, ?_, ?_, ?_, ?_, trivial⟩
                      · first | (simp [go_sem]; done) | (simp [go_sem, *]; done)
                      · first | (simp [go_sem]; done) | (simp [go_sem, *]; done)
                      · first | (simp [go_sem]; done) | (simp [go_sem, *]; done)
                      · first | (simp [go_sem]; done) | (simp [go_sem, *]; done)
                      · first | (simp [go_sem]; done) | (simp [go_sem, *]; done)
                      · first | (simp [go_sem]; done) | (simp [go_sem, *]; done)
                    · (repeat (first | with_reducible exact H5 | with_reducible refine below_drawn ?_ _ | with_reducible refine Below.drew ?_ | (with_reducible refine Below.alloc ?_ ?_ _; rotate_left 1; focus (first | (simp; done) | (simp; omega) | omega)) | (with_reducible refine Below.setCell ?_ ?_ _; rotate_left 1; focus (first | (simp; done) | (simp; omega) | omega))))
                    · first | assumption | omega
                    · (repeat (first | with_reducible exact H5 | with_reducible refine below_drawn ?_ _ | with_reducible refine Below.drew ?_ | (with_reducible refine Below.alloc ?_ ?_ _; rotate_left 1; focus (first | (simp; done) | (simp; omega) | omega)) | (with_reducible refine Below.setCell ?_ ?_ _; rotate_left 1; focus (first | (simp; done) | (simp; omega) | omega))))
                    · first | (simp; done) | (simp; omega)
                    · first | (simp; done) | (simp; omega)
              case rest =>
                obtain ⟨gx, rfl, hX, hG, hne, hBc, hgc, hxc⟩ := hcut
                have HX := Lib.hid hX
                have HG := Lib.hid hG
                have HBC := Lib.hid hBc
                clear hBc c0 c1 c2 f0 f1 f2 hck HB HY
                obtain ⟨x0, xz0, x1, xz1, x2, xz2, _⟩ := hX
                obtain ⟨c0, f0, c1, f1, c2, f2, _⟩ := hG
                go_wp2_with (go_at_call 8; ((with_reducible refine (RN.out _).mono ?_); rintro e w7 ⟨rfl, hb7⟩; have HB7 := Lib.hid hb7; have HX7 := Lib.hid (HX.out.below hb7 hxc); have HG7 := Lib.hid (HG.out.below hb7 hgc); have s7 := hb7.size; clear hb7 x0 xz0 x1 xz1 x2 xz2 c0 f0 c1 f1 c2 f2; obtain ⟨x0, xz0, x1, xz1, x2, xz2, _⟩ := HX7.out; obtain ⟨c0, f0, c1, f1, c2, f2, _⟩ := HG7.out))
                go_roundw
                case rel =>
                  obtain ⟨h1, h2, h3⟩ := HG7.out.puts (us := [.int .i64 c, .bool (s), .int .i64 (0)]) rfl
                  have h4 := h3 w.heap.size hg
                  exact ⟨k + 1, _, _, by omega, by omega, by go_num, rfl, HSR.out, h1, HBC.out.trans ((HB7.out.mono HBC.out.size).trans h4), Nat.lt_of_lt_of_le (Nat.lt_of_lt_of_le hgc s7) (Nat.le_of_eq h2.symm)⟩
                case measure => simp [intOf]; omega
            · obtain ⟨e1, e2⟩ := step_more (c := c) (o := y) (s := s) (v := x) hs ho
              rw [e1, e2] at hst
              have HSR := step_right (v := x) (s := s) hry
              rw [e2] at HSR
              have S1 := Lib.hid hst
              have hrn := fun W => right_any c (x) (y + 1) W
              rw [right_yes HSR] at hrn
              have RN := Lib.hid hrn
              have HSR := Lib.hid HSR
              clear hst hrn e1 e2 hry
              have hb1 : (s != x) = true := by rw [bne_iff_ne]; exact hs
              have hb2 : (s == x) = false := by rw [beq_eq_false_iff_ne]; exact hs
              have hcz : (y + 1 == c) = false := by rw [beq_eq_false_iff_ne]; exact ho
              clear hs ho
              obtain ⟨c0, f0, c1, f1, c2, f2, _⟩ := HY.out
              go_upto_region 10 with (fail)
              go_quiet (fail)
              go_upto_region 13 with (fail)
              go_cut [11] from 22 to 72 (fun p wx => ∃ gx : Nat, p = .pointer (some ⟨gx, 0, none⟩) ∧ Box wx gx 0 [.int .i64 c, .bool (x), .int .i64 (y + 1)] ∧ Box wx g 0 [.int .i64 c, .bool x, .int .i64 y] ∧ gx ≠ g ∧ Below w.heap.size w wx ∧ g < wx.heap.size ∧ gx < wx.heap.size)
              case first =>
                go_region_held3 (fun w' => w'.cell? ⟨g, 0, none⟩ = some (.int .i64 c) ∧ w'.cell? ⟨g, 1, none⟩ = some (.bool x) ∧ w'.cell? ⟨g, 2, none⟩ = some (.int .i64 y) ∧ w'.cell? ⟨b, off + k, none⟩ = some (.bool s))
                  (go_keep)
                  ((go_at_call 9; refine (S1.out _).mono ?_; rintro e w5 ⟨rfl, hb5⟩; have H5 : Below wr.heap.size wr w5 := (Below.trans (by repeat (first | with_reducible exact Below.refl _ _ | with_reducible refine Below.drew ?_ | with_reducible refine below_drawn ?_ _ | refine Below.alloc ?_ (by simp <;> omega) _)) (hb5.mono (by simp <;> omega))); obtain ⟨hc5, hf5⟩ := bcell hb5; have hz5 := hb5.size; (try ((with_reducible have mm := boxes1 hb5); obtain ⟨mm, _⟩ := mm; have mm := (show Box w5 wr.heap.size 0 [.int .i64 0, .bool false, .int .i64 0] from mm); obtain ⟨ma0, na0, ma1, na1, ma2, na2, _⟩ := mm)); simp at hz5; (try (by_cases qa : wr.heap.size < w5.heap.size; rotate_left; focus (exfalso; omega))); clear hc5 hf5; have me00 : ¬ g = w5.heap.size := (by omega); have em00 : ¬ w5.heap.size = g := (by omega); have lt00 : g < w5.heap.size := (by omega); have me10 : ¬ b = w5.heap.size := (by omega); have em10 : ¬ w5.heap.size = b := (by omega); have lt10 : b < w5.heap.size := (by omega); have k0 := (H5.cell (p := ⟨g, 0, none⟩) hgw).trans c0; have k1 := (H5.cell (p := ⟨g, 1, none⟩) hgw).trans c1; have k2 := (H5.cell (p := ⟨g, 2, none⟩) hgw).trans c2; have k3 := (H5.cell (p := ⟨b, off + k, none⟩) (Nat.lt_of_lt_of_le hbw HB.out.size)).trans hck))
                all_goals
                  go_wp2_with fail
                  go_meet
                  case rel =>
                    refine ⟨_, rfl, ?_, HY.out.below (B := wr.heap.size) ?_ hgw, ?_, HB.out.trans (Below.mono ?_ HB.out.size), ?_, ?_⟩
                    · unfold Box Box Box Box; refine ⟨?_, ?_, ?_, ?_, ?_, ?_, trivial⟩
                      · first | (simp [go_sem]; done) | (simp [go_sem, *]; done)
                      · first | (simp [go_sem]; done) | (simp [go_sem, *]; done)
                      · first | (simp [go_sem]; done) | (simp [go_sem, *]; done)
                      · first | (simp [go_sem]; done) | (simp [go_sem, *]; done)
                      · first | (simp [go_sem]; done) | (simp [go_sem, *]; done)
                      · first | (simp [go_sem]; done) | (simp [go_sem, *]; done)
                    · (repeat (first | with_reducible exact H5 | with_reducible refine below_drawn ?_ _ | with_reducible refine Below.drew ?_ | (with_reducible refine Below.alloc ?_ ?_ _; rotate_left 1; focus (first | (simp; done) | (simp; omega) | omega)) | (with_reducible refine Below.setCell ?_ ?_ _; rotate_left 1; focus (first | (simp; done) | (simp; omega) | omega))))
                    · first | assumption | omega
                    · (repeat (first | with_reducible exact H5 | with_reducible refine below_drawn ?_ _ | with_reducible refine Below.drew ?_ | (with_reducible refine Below.alloc ?_ ?_ _; rotate_left 1; focus (first | (simp; done) | (simp; omega) | omega)) | (with_reducible refine Below.setCell ?_ ?_ _; rotate_left 1; focus (first | (simp; done) | (simp; omega) | omega))))
                    · first | (simp; done) | (simp; omega)
                    · first | (simp; done) | (simp; omega)
              case rest =>
                obtain ⟨gx, rfl, hX, hG, hne, hBc, hgc, hxc⟩ := hcut
                have HX := Lib.hid hX
                have HG := Lib.hid hG
                have HBC := Lib.hid hBc
                clear hBc c0 c1 c2 f0 f1 f2 hck HB HY
                obtain ⟨x0, xz0, x1, xz1, x2, xz2, _⟩ := hX
                obtain ⟨c0, f0, c1, f1, c2, f2, _⟩ := hG
                go_wp2_with (go_at_call 8; ((with_reducible refine (RN.out _).mono ?_); rintro e w7 ⟨rfl, hb7⟩; have HB7 := Lib.hid hb7; have HX7 := Lib.hid (HX.out.below hb7 hxc); have HG7 := Lib.hid (HG.out.below hb7 hgc); have s7 := hb7.size; clear hb7 x0 xz0 x1 xz1 x2 xz2 c0 f0 c1 f1 c2 f2; obtain ⟨x0, xz0, x1, xz1, x2, xz2, _⟩ := HX7.out; obtain ⟨c0, f0, c1, f1, c2, f2, _⟩ := HG7.out))
                go_roundw
                case rel =>
                  obtain ⟨h1, h2, h3⟩ := HG7.out.puts (us := [.int .i64 c, .bool (x), .int .i64 (y + 1)]) rfl
                  have h4 := h3 w.heap.size hg
                  exact ⟨k + 1, _, _, by omega, by omega, by go_num, rfl, HSR.out, h1, HBC.out.trans ((HB7.out.mono HBC.out.size).trans h4), Nat.lt_of_lt_of_le (Nat.lt_of_lt_of_le hgc s7) (Nat.le_of_eq h2.symm)⟩
                case measure => simp [intOf]; omega
        · have : k = 300 := by omega
          subst this
          clear hry
          go_wp2
          go_ret
          exact ⟨rfl, HB.out⟩
      · have : k = len := by omega
        subst this
        clear hry
        go_wp2
        go_ret
        exact ⟨rfl, HB.out⟩
  · have HN := Lib.hid fun W => new_no c v (by omega) W
    go_enter Try.func4, Try.ntmps4
    go_wp2_with (first
      | (go_at_call 6; ((with_reducible refine (HK.out _).mono ?_); rintro e w2 ⟨rfl, hb⟩; have HB2 := Lib.hid hb; clear hb))
      | (go_at_call 7; ((with_reducible refine (HN.out _).mono ?_); rintro e w3 ⟨rfl, hb⟩; have HB3 := Lib.hid (HB2.out.trans (hb.mono HB2.out.size)); clear hb)))
    go_ret
    exact ⟨rfl, HB3.out.alloc HB3.out.size _⟩
end Go.Proofs.Ytfekfdemaldeiaa.bounceSettles
