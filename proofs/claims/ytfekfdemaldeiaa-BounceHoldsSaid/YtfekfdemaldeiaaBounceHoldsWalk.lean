/- The walk of the law BounceHolds: any switch, whatever it is shown: it returns true, and what was in memory is as it was. -/
import Derived.Test.YtfekfdemaldeiaaVAwake
namespace Go.Proofs.Ytfekfdemaldeiaa.bounceHolds
open Go.ChangeShapes Go.WideShapes Go.ChangeAt Go.RowKit Go.Proofs.Ytfekfdemaldeiaa.k Go.Proofs.Ytfekfdemaldeiaa.v Go.Proofs.Ytfekfdemaldeiaa
set_option linter.unusedVariables false

def Near (s : Bool) (k : Nat) (v : Bool) (o : Int) : Prop := (v = s ∧ o = 0) ∨ (v ≠ s ∧ (k : Int) ≤ o) ∨ k = 0
theorem near_step {s : Bool} {k : Nat} {v : Bool} {o c : Int} (hr : RightB c o) (h : Near s k v o) : Near s (k + 1) (stepV c v o s) (stepO c v o s) := by
  unfold Near at *
  obtain ⟨r1, r2, r3, r4⟩ := hr
  by_cases hs : s = v
  · obtain ⟨a, b⟩ := step_same (c := c) (o := o) hs
    rw [a, b]; exact .inl ⟨hs.symm, rfl⟩
  · by_cases ho : o + 1 = c
    · obtain ⟨a, b⟩ := step_full hs ho
      rw [a, b]; exact .inl ⟨rfl, rfl⟩
    · obtain ⟨a, b⟩ := step_more hs ho
      rw [a, b]
      refine .inr (.inl ⟨fun e => hs e.symm, ?_⟩)
      rcases h with ⟨e, _⟩ | ⟨_, h⟩ | h
      · exact absurd e.symm hs
      · omega
      · omega

set_option maxHeartbeats 1000000 in
theorem walk (c : Int) (v : Bool) (o : Int) (s : Bool) (m : Int) (w : World) (hc : (Lit.int .i64 c).wf = true) (ho : (Lit.int .i64 o).wf = true) (hm : (Lit.int .u8 m).wf = true) :
    Calls Try.prog 5 #[.agg #[.int .i64 c, .bool v, .int .i64 o], .bool s, .int .u8 m] w fun e w' => e = .returned (.bool true) ∧ Below w.heap.size w w' := by
  have hi := wf8 hm
  clear hc ho hm
  have HK := Lib.hid fun W => awake_any W
  have h1 := fun W => right_any c v o W
  by_cases hr : RightB c o
  · rw [right_yes hr] at h1
    have HR := Lib.hid h1
    have HRR := Lib.hid hr
    obtain ⟨r1, r2, r3, r4⟩ := hr
    clear h1
    go_enter Try.func5, Try.ntmps5
    go_wp2_with (first
      | (go_at_call 6; ((with_reducible refine (HK.out _).mono ?_); rintro e w1 ⟨rfl, hb⟩; obtain ⟨bx, hW, hz1⟩ := boxes1 hb; have HB1 := Lib.hid hW; have X1 := Lib.hid bx; obtain ⟨c0, f0, c1, f1, c2, f2, _⟩ := bx; clear hb hW))
      | (go_at_call 8; ((with_reducible refine (HR.out _).mono ?_); rintro e w2 ⟨rfl, hb⟩; have HB2 := Lib.hid (HB1.out.trans (hb.mono HB1.out.size)); have X2 := Lib.hid (X1.out.below hb hz1); have hz2 := hb.size; clear c0 f0 c1 f1 c2 f2; obtain ⟨c0, f0, c1, f1, c2, f2, _⟩ := X2.out; clear hb)))
    have hg : w.heap.size < w2.heap.size := by omega
    have H0 : Hid (Box (w2.alloc (.cells #[.int .i64 c, .bool v, .int .i64 o] 23)) w.heap.size 0 [.int .i64 c, .bool v, .int .i64 o] ∧ Box (w2.alloc (.cells #[.int .i64 c, .bool v, .int .i64 o] 23)) w2.heap.size 0 [.int .i64 c, .bool v, .int .i64 o] ∧
        Below w.heap.size w (w2.alloc (.cells #[.int .i64 c, .bool v, .int .i64 o] 23)) ∧ w2.heap.size < (w2.alloc (.cells #[.int .i64 c, .bool v, .int .i64 o] 23)).heap.size) :=
      Lib.hid ⟨X2.out.below ((Below.refl w2.heap.size w2).alloc (Nat.le_refl _) _) hg, Box.new w2 _ _, HB2.out.alloc HB2.out.size _, by simp⟩
    clear c0 f0 c1 f1 c2 f2 X1 X2 HB1 HB2 HK HR
    generalize hgg : w2.heap.size = g at *
    clear hgg
    go_loopw [8] (fun i wr => ∃ (k : Nat) (x : Bool) (y : Int), (k : Int) ≤ c ∧ i = .int .i64 k ∧ RightB c y ∧ Near s k x y ∧ Box wr w.heap.size 0 [.int .i64 c, .bool v, .int .i64 o] ∧ Box wr g 0 [.int .i64 c, .bool x, .int .i64 y] ∧ Below w.heap.size w wr ∧ g < wr.heap.size) (fun i _ => (c - intOf i).toNat)
    case atStart => exact ⟨0, v, o, by omega, rfl, HRR.out, .inr (.inr rfl), H0.out.1, H0.out.2.1, H0.out.2.2.1, H0.out.2.2.2⟩
    case round =>
      clear H0
      obtain ⟨k, x, y, hk, rfl, hry, hnear, hX, hY, hb, hgw⟩ := hrel
      have HX := Lib.hid hX
      have HY := Lib.hid hY
      have HB := Lib.hid hb
      have HRY := Lib.hid hry
      obtain ⟨p0, q0, p1, q1, p2, q2, _⟩ := hX
      obtain ⟨c0, f0, c1, f1, c2, f2, _⟩ := hY
      clear hb
      by_cases hlt : (k : Int) < c
      · have S1 := Lib.hid fun W => step_ok c x y s hry W
        have HN := Lib.hid (near_step hry hnear)
        have HS := Lib.hid (step_right (v := x) (s := s) hry)
        clear hry hnear
        generalize stepV c x y s = x2 at *
        generalize stepO c x y s = y2 at *
        go_wp2_with (go_at_call 9; ((with_reducible refine (S1.out _).mono ?_); rintro e w3 ⟨rfl, hb⟩; have HX3 := Lib.hid (HX.out.below hb (Nat.lt_trans hg hgw)); have HY3 := Lib.hid (HY.out.below hb hgw); have hz3 := hb.size; have HB3 := Lib.hid (HB.out.trans (hb.mono HB.out.size)); clear hb p0 q0 p1 q1 p2 q2 c0 f0 c1 f1 c2 f2; obtain ⟨p0, q0, p1, q1, p2, q2, _⟩ := HX3.out; obtain ⟨c0, f0, c1, f1, c2, f2, _⟩ := HY3.out))
        go_roundw
        case rel =>
          obtain ⟨h1, h2, h3⟩ := HY3.out.puts (us := [.int .i64 c, .bool x2, .int .i64 y2]) rfl
          have h4 := h3 g (Nat.le_refl _)
          exact ⟨k + 1, x2, y2, by omega, by go_num, HS.out, HN.out, HX3.out.below h4 hg, h1, HB3.out.trans (h4.mono (by omega)), Nat.lt_of_lt_of_le (Nat.lt_of_lt_of_le hgw hz3) (Nat.le_of_eq h2.symm)⟩
        case measure => simp [intOf]; omega
      · have hset : x = s ∧ y = 0 := by
          obtain ⟨a1, a2, a3, a4⟩ := hry
          rcases hnear with h | ⟨_, h⟩ | h
          · exact h
          · omega
          · omega
        obtain ⟨rfl, rfl⟩ := hset
        have hm := Int.emod_nonneg m (show (50 : Int) ≠ 0 by decide)
        have hm2 := Int.emod_lt_of_pos m (show (0 : Int) < 50 by decide)
        clear hnear hry c0 f0 c1 f1 c2 f2
        go_wp2
        clear p0 q0 p1 q1 p2 q2 HX
        go_loopw [9] (fun i wr => ∃ k : Nat, (k : Int) ≤ m % 50 ∧ i = .int .i64 k ∧ Box wr g 0 [.int .i64 c, .bool x, .int .i64 0] ∧ Below w.heap.size w wr ∧ g < wr.heap.size) (fun i _ => (m % 50 - intOf i).toNat)
        case atStart => exact ⟨0, by omega, rfl, HY.out, HB.out, hgw⟩
        case round =>
          clear HY HB hgw
          obtain ⟨j, hj, rfl, hY, hb, hgw⟩ := hrel
          have HY := Lib.hid hY
          have HB := Lib.hid hb
          obtain ⟨c0, f0, c1, f1, c2, f2, _⟩ := hY
          clear hb
          by_cases hlt : (j : Int) < m % 50
          · have hst := fun W => step_ok c x 0 x HRY.out W
            have e := step_same (c := c) (o := 0) (rfl : x = x)
            rw [e.1, e.2] at hst
            have S1 := Lib.hid hst
            clear hst e
            go_wp2_with (go_at_call 9; ((with_reducible refine (S1.out _).mono ?_); rintro e w3 ⟨rfl, hb⟩; have HY3 := Lib.hid (HY.out.below hb hgw); have hz3 := hb.size; have HB3 := Lib.hid (HB.out.trans (hb.mono HB.out.size)); clear hb c0 f0 c1 f1 c2 f2; obtain ⟨c0, f0, c1, f1, c2, f2, _⟩ := HY3.out))
            go_roundw
            case rel =>
              obtain ⟨h1, h2, h3⟩ := HY3.out.puts (us := [.int .i64 c, .bool x, .int .i64 0]) rfl
              have h4 := h3 g (Nat.le_refl _)
              exact ⟨j + 1, by omega, by go_num, h1, HB3.out.trans (h4.mono (by omega)), Nat.lt_of_lt_of_le (Nat.lt_of_lt_of_le hgw hz3) (Nat.le_of_eq h2.symm)⟩
            case measure => simp [intOf]; omega
          · go_wp2
            go_ret
            exact ⟨rfl, HB.out⟩
  · rw [right_no hr] at h1
    have HR := Lib.hid h1
    clear h1 hr
    go_enter Try.func5, Try.ntmps5
    go_wp2_with (first
      | (go_at_call 6; ((with_reducible refine (HK.out _).mono ?_); rintro e w1 ⟨rfl, hb⟩; obtain ⟨bx, hW, hz1⟩ := boxes1 hb; have HB1 := Lib.hid hW; have X1 := Lib.hid bx; obtain ⟨c0, f0, c1, f1, c2, f2, _⟩ := bx; clear hb hW))
      | (go_at_call 8; ((with_reducible refine (HR.out _).mono ?_); rintro e w2 ⟨rfl, hb⟩; have HB2 := Lib.hid (HB1.out.trans (hb.mono HB1.out.size)); clear hb)))
    go_ret
    exact ⟨rfl, HB2.out⟩
end Go.Proofs.Ytfekfdemaldeiaa.bounceHolds
