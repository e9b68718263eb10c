/- The walk of the law HomeEnds: any speeds, whatever the switches show, cycle by cycle: it returns true, and what was in memory is as it was. -/
import Derived.Test.YtojiefppaiafaaaHmAwake
import Derived.Test.YtojiefppaiafaaaKVals
namespace Go.Proofs.Ytojiefppaiafaaa.homeEnds
open Go.ChangeShapes Go.WideShapes Go.ChangeAt Go.RowKit Go.Proofs.Ytojiefppaiafaaa.k Go.Proofs.Ytojiefppaiafaaa.hm Go.Proofs.Ytojiefppaiafaaa
set_option linter.unusedVariables false

/-- what was shown by then: the home switch, ahead of the phases behind the first one; its end, ahead of the later ones -/
def Flags (p : Int) (sh lf : Bool) : Prop := (1 ≤ p → p ≤ 4 → sh = true) ∧ (3 ≤ p → p ≤ 4 → lf = true)
theorem flags_step {h : H} (hr : RightH h) {sh lf : Bool} (i : Flags h.ph sh lf) (home plus minus still : Bool) : Flags (stepN h home plus minus still).ph (sh || home) (lf || (sh && !home)) := by
  obtain ⟨p, f, c, t⟩ := h
  obtain ⟨h1, h2, h3⟩ := hr
  obtain ⟨i1, i2⟩ := i
  dsimp only at h1 h2 h3 i1 i2
  have hp : p = 0 ∨ p = 1 ∨ p = 2 ∨ p = 3 ∨ p = 4 ∨ p = 5 := by omega
  clear h1 h2 h3
  unfold Flags
  constructor
  · intro a b
    cases sh
    · cases home
      · exfalso
        rcases hp with rfl | rfl | rfl | rfl | rfl | rfl
        · revert a b; unfold stepN; dsimp only; repeat' split
          all_goals (first | (intro a; exact absurd a (by decide)) | (intro a b; exact absurd b (by decide)) | (intro a b; simp_all))
        all_goals first | exact absurd (i1 (by decide) (by decide)) (by decide) | (revert a b; intro a b; exact absurd b (by simp [stepN]))
      · rfl
    · rfl
  · intro a b
    cases lf
    · have hs : sh = true ∧ home = false := by
        rcases hp with rfl | rfl | rfl | rfl | rfl | rfl
        · exfalso; revert a b; unfold stepN; dsimp only; repeat' split
          all_goals (first | (intro a; exact absurd a (by decide)) | (intro a b; exact absurd b (by decide)) | (intro a b; simp_all))
        · exfalso; revert a b; unfold stepN; dsimp only; repeat' split
          all_goals (first | (intro a; exact absurd a (by decide)) | (intro a b; exact absurd b (by decide)) | (intro a b; simp_all))
        · refine ⟨i1 (by decide) (by decide), ?_⟩
          cases home
          · rfl
          · exfalso; revert a b; unfold stepN; dsimp only; repeat' split
            all_goals (first | (intro a; exact absurd a (by decide)) | (intro a b; exact absurd b (by decide)) | (intro a b; simp_all))
        · exact absurd (i2 (by decide) (by decide)) (by decide)
        · exact absurd (i2 (by decide) (by decide)) (by decide)
        · exact absurd b (by simp [stepN])
      rw [hs.1, hs.2]; rfl
    · rfl
theorem four {vs : List Value} (h : okVs [none, none, none, none] vs) : ∃ b0 b1 b2 b3 : Bool, vs = [.bool b0, .bool b1, .bool b2, .bool b3] := by
  match vs, h with
  | [v0, v1, v2, v3], h =>
    obtain ⟨⟨b0, rfl⟩, ⟨b1, rfl⟩, ⟨b2, rfl⟩, ⟨b3, rfl⟩, _⟩ := h
    exact ⟨b0, b1, b2, b3, rfl⟩
set_option maxRecDepth 100000 in
set_option maxHeartbeats 8000000 in
theorem walk (x0 x1 : Int) (a2 : Option Addr) (len cap : Nat) (w : World) (w0 : (Lit.int .i64 x0).wf = true) (w1 : (Lit.int .i64 x1).wf = true) (u2 : IsVals w [none, none, none, none] a2 len cap) :
    Calls Try.prog 4 #[.int .i64 x0, .int .i64 x1, .slice a2 len cap] w fun e w' => e = .returned (.bool true) ∧ Below w.heap.size w w' := by
  have hlen := u2.len_le
  have U := Lib.hid u2
  clear w0 w1 u2
  have HK := Lib.hid fun W => awake_any W
  by_cases hn : RightH ⟨0, x0, x1, false⟩
  · skip
    have HN : Hid (∀  W, Calls Try.prog 7 #[.int .i64 x0, .int .i64 x1] W fun e w' => e = .returned (.tuple #[.agg #[.int .i64 0, .int .i64 x0, .int .i64 x1, .bool false], .int .i64 0]) ∧ Below W.heap.size W w') := Lib.hid fun  W => by have h := new_any x0 x1 W; rw [show newH x0 x1 = ⟨0, x0, x1, false⟩ from if_pos hn, show newE x0 x1 = 0 from if_pos hn] at h; exact h
    have HS : Hid (∀ (h : H) (hr : RightH h) (b0 b1 b2 b3 : Bool) W, Calls Try.prog 9 #[.agg #[.int .i64 h.ph, .int .i64 h.f, .int .i64 h.c, .bool h.tu], .bool b0, .bool b1, .bool b2, .bool b3] W fun e w' => e = .returned (.tuple #[hV (stepN h b0 b1 b2 b3), .int .i64 (stepV h b0 b1 b2 b3)]) ∧ Below W.heap.size W w') := Lib.hid fun h hr b0 b1 b2 b3 W => by have h9 := step_any h b0 b1 b2 b3 W; rw [show stepHN h b0 b1 b2 b3 = stepN h b0 b1 b2 b3 from if_pos hr, show stepHV h b0 b1 b2 b3 = stepV h b0 b1 b2 b3 from if_pos hr] at h9; exact h9
    have HP : Hid (∀ (h : H) (hr : RightH h) W, Calls Try.prog 10 #[.agg #[.int .i64 h.ph, .int .i64 h.f, .int .i64 h.c, .bool h.tu]] W fun e w' => e = .returned (.bool true) ∧ Below W.heap.size W w') := Lib.hid fun h hr W => by have h9 := right_any h W; rw [right_yes hr] at h9; exact h9
    have HO : Hid (∀ (h : H) (hr : RightH h) W, Calls Try.prog 11 #[.agg #[.int .i64 h.ph, .int .i64 h.f, .int .i64 h.c, .bool h.tu]] W fun e w' => e = .returned (.bool (decide (4 ≤ h.ph))) ∧ Below W.heap.size W w') := Lib.hid fun h hr W => by have h9 := over_any h W; rw [show overH h = decide (4 ≤ h.ph) from by unfold overH; rw [right_yes hr]; rfl] at h9; exact h9
    obtain ⟨M, hM⟩ : ∃ M, max x0 (-x0) = M := ⟨_, rfl⟩
    have hMb : M ≤ 1048576 := by have := hn.2.2; dsimp only at this; omega
    have hx0 : -1048576 ≤ x0 ∧ x0 ≤ 1048576 := by omega
    have HR0 := Lib.hid hn
    clear hn
    go_enter Try.func4, Try.ntmps4
    go_upto_region 3 with (go_at_call 6; ((with_reducible refine (HK.out _).mono ?_); rintro e v1 ⟨rfl, hb⟩; have HB := Lib.hid hb; skip; clear hb))
    go_upto_region 4 with (go_at_call 7; ((with_reducible refine (HN.out _).mono ?_); rintro e v2 ⟨rfl, hb⟩; have HB := Lib.hid (HB.out.trans (hb.mono HB.out.size)); skip; skip; clear hb))
    have hge : w.heap.size ≤ v2.heap.size := HB.out.size
    obtain ⟨hx, hb, hzX7⟩ := k.boxes1 (w := v2) (c1 := #[.int .i64 0, .int .i64 x0, .int .i64 x1, .bool false]) (t1 := 23) (Below.refl _ _)
    generalize (v2.alloc (.cells #[.int .i64 0, .int .i64 x0, .int .i64 x1, .bool false] 23)) = v3 at hb hx hzX7 ⊢
    have HB := Lib.hid (HB.out.trans (hb.mono HB.out.size))
    skip
    obtain ⟨gX7, hgX7⟩ : ∃ g, v2.heap.size = g := ⟨_, rfl⟩
    rw [hgX7] at hx hzX7 hge ⊢
    skip
    have X7 := Lib.hid hx
    have X7c0 := (k.cell_of X7.out (i := 0) rfl).1
    have X7c1 := (k.cell_of X7.out (i := 1) rfl).1
    have X7c2 := (k.cell_of X7.out (i := 2) rfl).1
    have X7c3 := (k.cell_of X7.out (i := 3) rfl).1
    clear hb hx hgX7
    clear X7c0 X7c1 X7c2 X7c3
    go_wp2
    skip
    have gw : w.heap.size ≤ gX7 := hge
    go_loopw [9, 10, 11, 13] (fun s9 s10 s11 s13 wr => ∃ (q : Nat) (h : H) (sh lf : Bool) (tn : Nat), q ≤ len ∧ q ≤ 300 ∧ s13 = .int .i64 q ∧ s9 = .bool sh ∧ s10 = .bool lf ∧ s11 = .int .i64 tn ∧ RightH h ∧ max h.f (-h.f) = M ∧ tn = (if h.tu then 1 else 0) ∧ Flags h.ph sh lf ∧ k.Box wr gX7 0 (hC h) ∧ Below w.heap.size w wr ∧ gX7 < wr.heap.size) (fun _ _ _ s13 _ => len - (intOf s13).toNat)
    case atStart => exact ⟨0, ⟨0, x0, x1, false⟩, false, false, 0, Nat.zero_le _, by omega, rfl, rfl, rfl, rfl, HR0.out, hM, rfl, ⟨fun h => absurd h (by show ¬ (1 : Int) ≤ 0; omega), fun h => absurd h (by show ¬ (3 : Int) ≤ 0; omega)⟩, X7.out, HB.out, hzX7⟩
    case round =>
      clear X7 HB hzX7 HR0 hM hx0
      obtain ⟨q, ⟨p, f, c, t⟩, sh, lf, tn, hq, hq2, rfl, rfl, rfl, rfl, hR, hz, htn, hfl, hX, hB, hzX7⟩ := hrel
      unfold hC at hX
      dsimp only at hX hz htn hfl
      have HTN := Lib.hid htn
      clear htn
      have X7 := Lib.hid hX
      have HB := Lib.hid hB
      clear hX hB
      by_cases hlt : q < len
      · by_cases hlt2 : q < 300
        · obtain ⟨b, off, rfl, hbw, hcap, hcm, hrow⟩ := U.out.at (by decide) (by omega)
          obtain ⟨vs, hvs, hcc⟩ := hrow q hlt
          obtain ⟨b0, b1, b2, b3, rfl⟩ := four hvs
          have d0 := (HB.out.cell (p := ⟨b, off + q * 4, none⟩) hbw).trans (hcc 0 _ rfl)
          have d1 := (HB.out.cell (p := ⟨b, off + q * 4 + 1, none⟩) hbw).trans (hcc 1 _ rfl)
          have d2 := (HB.out.cell (p := ⟨b, off + q * 4 + 2, none⟩) hbw).trans (hcc 2 _ rfl)
          have d3 := (HB.out.cell (p := ⟨b, off + q * 4 + 3, none⟩) hbw).trans (hcc 3 _ rfl)
          skip
          clear hcc hvs hrow
          have i0 : (q : Int) < (len : Int) := by omega
          have i1 : (q : Int) < 300 := by omega
          have hbr : b < wr.heap.size := Nat.lt_of_lt_of_le hbw HB.out.size
          obtain ⟨n, hn⟩ : ∃ n, stepN ⟨p, f, c, t⟩ b0 b1 b2 b3 = n := ⟨_, rfl⟩
          obtain ⟨y, hy⟩ : ∃ y, stepV ⟨p, f, c, t⟩ b0 b1 b2 b3 = y := ⟨_, rfl⟩
          have e1 := step_right hR b0 b1 b2 b3
          have e2 := step_size (h := ⟨p, f, c, t⟩) b0 b1 b2 b3
          have e3 := step_phase hR b0 b1 b2 b3
          have e4 := step_speed hR b0 b1 b2 b3
          have e5 := step_turned (h := ⟨p, f, c, t⟩) b0 b1 b2 b3
          have e6 := flags_step hR hfl b0 b1 b2 b3
          have e7 := fun h4 => step_over (h := ⟨p, f, c, t⟩) h4 b0 b1 b2 b3
          have hst := HS.out _ hR b0 b1 b2 b3
          rw [hn] at e1 e2 e3 e5 e6 e7 hst
          rw [hy] at e4 e7 hst
          obtain ⟨n0, n1, n2, n3⟩ := n
          unfold hV at hst
          dsimp only at e2 e3 e4 e5 e7 hst
          rw [hz] at e2 e4
          have HT := Lib.hid hst
          have hpo := fun W => HO.out _ hR W
          have hpn := fun W => HP.out _ e1 W
          dsimp only at hpo hpn
          have HO1 := Lib.hid hpo
          have HP1 := Lib.hid hpn
          have HR1 := Lib.hid e1
          clear hst hpo hpn e1 hn hy hfl hR
          obtain ⟨s9, h9⟩ : ∃ s, (sh || b0) = s := ⟨_, rfl⟩
          obtain ⟨s10, h10⟩ : ∃ s, (lf || (sh && !b0)) = s := ⟨_, rfl⟩
          rw [h9, h10] at e6
          have E6 := Lib.hid e6
          have E7 := Lib.hid e7
          have E2 := Lib.hid e2
          obtain ⟨y0, y1⟩ := e4
          clear e6 e7 e2
          go_upto_region 13 with (fail)
          have hge : w.heap.size ≤ wr.heap.size := HB.out.size
          obtain ⟨hx, hb, hzX14⟩ := k.boxes1 (w := wr) (c1 := #[.bool b0, .bool b1, .bool b2, .bool b3]) (t1 := 34) (Below.refl _ _)
          generalize (wr.alloc (.cells #[.bool b0, .bool b1, .bool b2, .bool b3] 34)) = v21 at hb hx hzX14 ⊢
          have X7 := Lib.hid (X7.out.below hb hzX7)
          have hzX7 := Nat.lt_of_lt_of_le hzX7 hb.size
          have HB := Lib.hid (HB.out.trans (hb.mono HB.out.size))
          skip
          obtain ⟨gX14, hgX14⟩ : ∃ g, wr.heap.size = g := ⟨_, rfl⟩
          rw [hgX14] at hx hzX14 hge ⊢
          skip
          have X14 := Lib.hid hx
          have X7c0 := (k.cell_of X7.out (i := 0) rfl).1
          have X7c1 := (k.cell_of X7.out (i := 1) rfl).1
          have X7c2 := (k.cell_of X7.out (i := 2) rfl).1
          have X7c3 := (k.cell_of X7.out (i := 3) rfl).1
          have X14c0 := (k.cell_of X14.out (i := 0) rfl).1
          have X14c1 := (k.cell_of X14.out (i := 1) rfl).1
          have X14c2 := (k.cell_of X14.out (i := 2) rfl).1
          have X14c3 := (k.cell_of X14.out (i := 3) rfl).1
          clear hb hx hgX14
          clear d0 d1 d2 d3
          go_cut [10] from 31 to 138 (fun p10 wx => p10 = .bool s10 ∧ v21 = wx)
          case first =>
            cases lf
            · skip
              cases sh
              · skip
                cases b0
                · skip
                  simp at h10
                  subst h10
                  go_wp2
                  go_meet
                  case rel => exact ⟨rfl, rfl⟩
                · skip
                  simp at h10
                  subst h10
                  go_wp2
                  go_meet
                  case rel => exact ⟨rfl, rfl⟩
              · skip
                cases b0
                · skip
                  simp at h10
                  subst h10
                  go_wp2
                  go_meet
                  case rel => exact ⟨rfl, rfl⟩
                · skip
                  simp at h10
                  subst h10
                  go_wp2
                  go_meet
                  case rel => exact ⟨rfl, rfl⟩
            · skip
              cases sh
              · skip
                cases b0
                · skip
                  simp at h10
                  subst h10
                  go_wp2
                  go_meet
                  case rel => exact ⟨rfl, rfl⟩
                · skip
                  simp at h10
                  subst h10
                  go_wp2
                  go_meet
                  case rel => exact ⟨rfl, rfl⟩
              · skip
                cases b0
                · skip
                  simp at h10
                  subst h10
                  go_wp2
                  go_meet
                  case rel => exact ⟨rfl, rfl⟩
                · skip
                  simp at h10
                  subst h10
                  go_wp2
                  go_meet
                  case rel => exact ⟨rfl, rfl⟩
          case rest =>
            obtain ⟨rfl, rfl⟩ := hcut
            clear h10
            go_upto_region 14 with (fail)
            go_cut [9] from 31 to 138 (fun p9 wx => p9 = .bool s9 ∧ v21 = wx)
            case first =>
              cases sh
              · skip
                cases b0
                · skip
                  simp at h9
                  subst h9
                  go_wp2
                  go_meet
                  case rel => exact ⟨rfl, rfl⟩
                · skip
                  simp at h9
                  subst h9
                  go_wp2
                  go_meet
                  case rel => exact ⟨rfl, rfl⟩
              · skip
                cases b0
                · skip
                  simp at h9
                  subst h9
                  go_wp2
                  go_meet
                  case rel => exact ⟨rfl, rfl⟩
                · skip
                  simp at h9
                  subst h9
                  go_wp2
                  go_meet
                  case rel => exact ⟨rfl, rfl⟩
            case rest =>
              obtain ⟨rfl, rfl⟩ := hcut
              clear h9
              go_upto_region 16 with (go_at_call 9; ((with_reducible refine (HT.out _).mono ?_); rintro e v22 ⟨rfl, hb⟩; have X7 := Lib.hid (X7.out.below hb hzX7); have X14 := Lib.hid (X14.out.below hb hzX14); have hzX7 := Nat.lt_of_lt_of_le hzX7 hb.size; have hzX14 := Nat.lt_of_lt_of_le hzX14 hb.size; have HB := Lib.hid (HB.out.trans (hb.mono HB.out.size)); clear X7c0 X7c1 X7c2 X7c3 X14c0 X14c1 X14c2 X14c3; have X7c0 := (k.cell_of X7.out (i := 0) rfl).1; have X7c1 := (k.cell_of X7.out (i := 1) rfl).1; have X7c2 := (k.cell_of X7.out (i := 2) rfl).1; have X7c3 := (k.cell_of X7.out (i := 3) rfl).1; have X14c0 := (k.cell_of X14.out (i := 0) rfl).1; have X14c1 := (k.cell_of X14.out (i := 1) rfl).1; have X14c2 := (k.cell_of X14.out (i := 2) rfl).1; have X14c3 := (k.cell_of X14.out (i := 3) rfl).1; clear hb))
              have hge : w.heap.size ≤ v22.heap.size := HB.out.size
              obtain ⟨hx, hb, hzX15⟩ := k.boxes1 (w := v22) (c1 := #[.int .i64 n0, .int .i64 n1, .int .i64 n2, .bool n3]) (t1 := 23) (Below.refl _ _)
              generalize (v22.alloc (.cells #[.int .i64 n0, .int .i64 n1, .int .i64 n2, .bool n3] 23)) = v23 at hb hx hzX15 ⊢
              have X7 := Lib.hid (X7.out.below hb hzX7)
              have X14 := Lib.hid (X14.out.below hb hzX14)
              have hzX7 := Nat.lt_of_lt_of_le hzX7 hb.size
              have hzX14 := Nat.lt_of_lt_of_le hzX14 hb.size
              have HB := Lib.hid (HB.out.trans (hb.mono HB.out.size))
              clear X7c0 X7c1 X7c2 X7c3 X14c0 X14c1 X14c2 X14c3
              obtain ⟨gX15, hgX15⟩ : ∃ g, v22.heap.size = g := ⟨_, rfl⟩
              rw [hgX15] at hx hzX15 hge ⊢
              skip
              have X15 := Lib.hid hx
              have X7c0 := (k.cell_of X7.out (i := 0) rfl).1
              have X7c1 := (k.cell_of X7.out (i := 1) rfl).1
              have X7c2 := (k.cell_of X7.out (i := 2) rfl).1
              have X7c3 := (k.cell_of X7.out (i := 3) rfl).1
              have X14c0 := (k.cell_of X14.out (i := 0) rfl).1
              have X14c1 := (k.cell_of X14.out (i := 1) rfl).1
              have X14c2 := (k.cell_of X14.out (i := 2) rfl).1
              have X14c3 := (k.cell_of X14.out (i := 3) rfl).1
              have X15c0 := (k.cell_of X15.out (i := 0) rfl).1
              have X15c1 := (k.cell_of X15.out (i := 1) rfl).1
              have X15c2 := (k.cell_of X15.out (i := 2) rfl).1
              have X15c3 := (k.cell_of X15.out (i := 3) rfl).1
              clear hb hx hgX15
              clear HT HS HP HO
              clear X7c0 X7c1 X7c2 X7c3 X14c0 X14c1 X14c2 X14c3 X15c0 X15c1 X15c2 X15c3
              clear X14
              have X7c0 := (k.cell_of X7.out (i := 0) rfl).1
              have X7c1 := (k.cell_of X7.out (i := 1) rfl).1
              have X7c2 := (k.cell_of X7.out (i := 2) rfl).1
              have X7c3 := (k.cell_of X7.out (i := 3) rfl).1
              have X15c0 := (k.cell_of X15.out (i := 0) rfl).1
              have X15c1 := (k.cell_of X15.out (i := 1) rfl).1
              have X15c2 := (k.cell_of X15.out (i := 2) rfl).1
              have X15c3 := (k.cell_of X15.out (i := 3) rfl).1
              skip
              have hyM : decide (M < y) = false := decide_eq_false (by omega)
              have hyN : decide (M < -y) = false := decide_eq_false (by omega)
              have hpl : decide (n0 < p) = false := decide_eq_false (by omega)
              by_cases h4 : 4 ≤ p
              · have h4b : decide (4 ≤ p) = true := decide_eq_true h4
                by_cases hn4 : n0 = 4
                · skip
                  have hn4b : (n0 == 4) = true := by rw [hn4]; rfl
                  obtain rfl : s9 = true := E6.out.1 (by show (1 : Int) ≤ n0; omega) (by show n0 ≤ 4; omega)
                  obtain rfl : s10 = true := E6.out.2 (by show (3 : Int) ≤ n0; omega) (by show n0 ≤ 4; omega)
                  clear hn4
                  cases t
                  · skip
                    obtain rfl : n3 = false := by have := (E7.out h4).1; injection this
                    have htn2 : tn = 0 := HTN.out
                    subst htn2
                    clear HTN
                    clear X7c0 X7c1 X7c2 X7c3 X15c0 X15c1 X15c2 X15c3
                    have ⟨q7, q8⟩ := E7.out h4
                    injection q7 with q0 q1 q2 q3
                    subst q0 q1 q2
                    clear q3 h4b
                    have h4b : decide (4 ≤ n0) = true := decide_eq_true h4
                    obtain rfl : y = 0 := q8
                    have X7c0 := (k.cell_of X7.out (i := 0) rfl).1
                    have X7c1 := (k.cell_of X7.out (i := 1) rfl).1
                    have X7c2 := (k.cell_of X7.out (i := 2) rfl).1
                    have X7c3 := (k.cell_of X7.out (i := 3) rfl).1
                    have X15c0 := (k.cell_of X15.out (i := 0) rfl).1
                    have X15c1 := (k.cell_of X15.out (i := 1) rfl).1
                    have X15c2 := (k.cell_of X15.out (i := 2) rfl).1
                    have X15c3 := (k.cell_of X15.out (i := 3) rfl).1
                    go_upto_region 20 with (first | (go_at_call 10; ((with_reducible refine (HP1.out _).mono ?_); rintro e v24 ⟨rfl, hb⟩; have X7 := Lib.hid (X7.out.below hb hzX7); have X15 := Lib.hid (X15.out.below hb hzX15); have hzX7 := Nat.lt_of_lt_of_le hzX7 hb.size; have hzX15 := Nat.lt_of_lt_of_le hzX15 hb.size; have HB := Lib.hid (HB.out.trans (hb.mono HB.out.size)); clear X7c0 X7c1 X7c2 X7c3 X15c0 X15c1 X15c2 X15c3; have X7c0 := (k.cell_of X7.out (i := 0) rfl).1; have X7c1 := (k.cell_of X7.out (i := 1) rfl).1; have X7c2 := (k.cell_of X7.out (i := 2) rfl).1; have X7c3 := (k.cell_of X7.out (i := 3) rfl).1; have X15c0 := (k.cell_of X15.out (i := 0) rfl).1; have X15c1 := (k.cell_of X15.out (i := 1) rfl).1; have X15c2 := (k.cell_of X15.out (i := 2) rfl).1; have X15c3 := (k.cell_of X15.out (i := 3) rfl).1; clear hb)) | (go_at_call 11; ((with_reducible refine (HO1.out _).mono ?_); rintro e v25 ⟨rfl, hb⟩; have X7 := Lib.hid (X7.out.below hb hzX7); have X15 := Lib.hid (X15.out.below hb hzX15); have hzX7 := Nat.lt_of_lt_of_le hzX7 hb.size; have hzX15 := Nat.lt_of_lt_of_le hzX15 hb.size; have HB := Lib.hid (HB.out.trans (hb.mono HB.out.size)); clear X7c0 X7c1 X7c2 X7c3 X15c0 X15c1 X15c2 X15c3; have X7c0 := (k.cell_of X7.out (i := 0) rfl).1; have X7c1 := (k.cell_of X7.out (i := 1) rfl).1; have X7c2 := (k.cell_of X7.out (i := 2) rfl).1; have X7c3 := (k.cell_of X7.out (i := 3) rfl).1; have X15c0 := (k.cell_of X15.out (i := 0) rfl).1; have X15c1 := (k.cell_of X15.out (i := 1) rfl).1; have X15c2 := (k.cell_of X15.out (i := 2) rfl).1; have X15c3 := (k.cell_of X15.out (i := 3) rfl).1; clear hb)))
                    clear X7c0 X7c1 X7c2 X7c3 X15c0 X15c1 X15c2 X15c3
                    obtain ⟨a0, f0, a1, f1, a2, f2, a3, f3, _⟩ := X7.out
                    obtain ⟨k0, _, k1, _, k2, _, k3, _, _⟩ := X15.out
                    go_wp2
                    obtain ⟨r1, r2, r3⟩ := X7.out.puts (us := [.int .i64 n0, .int .i64 n1, .int .i64 n2, .bool false]) rfl
                    have gx : gX7 < (k.puts v25 gX7 0 [.int .i64 n0, .int .i64 n1, .int .i64 n2, .bool false]).heap.size := by rw [r2]; exact hzX7
                    go_roundw
                    case measure => simp [intOf]; omega
                    case rel => exact ⟨q + 1, ⟨n0, n1, n2, false⟩, true, true, 0, hlt, by omega, rfl, rfl, rfl, rfl, HR1.out, E2.out, rfl, E6.out, r1, HB.out.trans (r3 w.heap.size gw), gx⟩
                  · skip
                    obtain rfl : n3 = true := by have := (E7.out h4).1; injection this
                    have htn2 : tn = 1 := HTN.out
                    subst htn2
                    clear HTN
                    clear X7c0 X7c1 X7c2 X7c3 X15c0 X15c1 X15c2 X15c3
                    have ⟨q7, q8⟩ := E7.out h4
                    injection q7 with q0 q1 q2 q3
                    subst q0 q1 q2
                    clear q3 h4b
                    have h4b : decide (4 ≤ n0) = true := decide_eq_true h4
                    obtain rfl : y = 0 := q8
                    have X7c0 := (k.cell_of X7.out (i := 0) rfl).1
                    have X7c1 := (k.cell_of X7.out (i := 1) rfl).1
                    have X7c2 := (k.cell_of X7.out (i := 2) rfl).1
                    have X7c3 := (k.cell_of X7.out (i := 3) rfl).1
                    have X15c0 := (k.cell_of X15.out (i := 0) rfl).1
                    have X15c1 := (k.cell_of X15.out (i := 1) rfl).1
                    have X15c2 := (k.cell_of X15.out (i := 2) rfl).1
                    have X15c3 := (k.cell_of X15.out (i := 3) rfl).1
                    go_upto_region 20 with (first | (go_at_call 10; ((with_reducible refine (HP1.out _).mono ?_); rintro e v24 ⟨rfl, hb⟩; have X7 := Lib.hid (X7.out.below hb hzX7); have X15 := Lib.hid (X15.out.below hb hzX15); have hzX7 := Nat.lt_of_lt_of_le hzX7 hb.size; have hzX15 := Nat.lt_of_lt_of_le hzX15 hb.size; have HB := Lib.hid (HB.out.trans (hb.mono HB.out.size)); clear X7c0 X7c1 X7c2 X7c3 X15c0 X15c1 X15c2 X15c3; have X7c0 := (k.cell_of X7.out (i := 0) rfl).1; have X7c1 := (k.cell_of X7.out (i := 1) rfl).1; have X7c2 := (k.cell_of X7.out (i := 2) rfl).1; have X7c3 := (k.cell_of X7.out (i := 3) rfl).1; have X15c0 := (k.cell_of X15.out (i := 0) rfl).1; have X15c1 := (k.cell_of X15.out (i := 1) rfl).1; have X15c2 := (k.cell_of X15.out (i := 2) rfl).1; have X15c3 := (k.cell_of X15.out (i := 3) rfl).1; clear hb)) | (go_at_call 11; ((with_reducible refine (HO1.out _).mono ?_); rintro e v25 ⟨rfl, hb⟩; have X7 := Lib.hid (X7.out.below hb hzX7); have X15 := Lib.hid (X15.out.below hb hzX15); have hzX7 := Nat.lt_of_lt_of_le hzX7 hb.size; have hzX15 := Nat.lt_of_lt_of_le hzX15 hb.size; have HB := Lib.hid (HB.out.trans (hb.mono HB.out.size)); clear X7c0 X7c1 X7c2 X7c3 X15c0 X15c1 X15c2 X15c3; have X7c0 := (k.cell_of X7.out (i := 0) rfl).1; have X7c1 := (k.cell_of X7.out (i := 1) rfl).1; have X7c2 := (k.cell_of X7.out (i := 2) rfl).1; have X7c3 := (k.cell_of X7.out (i := 3) rfl).1; have X15c0 := (k.cell_of X15.out (i := 0) rfl).1; have X15c1 := (k.cell_of X15.out (i := 1) rfl).1; have X15c2 := (k.cell_of X15.out (i := 2) rfl).1; have X15c3 := (k.cell_of X15.out (i := 3) rfl).1; clear hb)))
                    clear X7c0 X7c1 X7c2 X7c3 X15c0 X15c1 X15c2 X15c3
                    obtain ⟨a0, f0, a1, f1, a2, f2, a3, f3, _⟩ := X7.out
                    obtain ⟨k0, _, k1, _, k2, _, k3, _, _⟩ := X15.out
                    go_wp2
                    obtain ⟨r1, r2, r3⟩ := X7.out.puts (us := [.int .i64 n0, .int .i64 n1, .int .i64 n2, .bool true]) rfl
                    have gx : gX7 < (k.puts v25 gX7 0 [.int .i64 n0, .int .i64 n1, .int .i64 n2, .bool true]).heap.size := by rw [r2]; exact hzX7
                    go_roundw
                    case measure => simp [intOf]; omega
                    case rel => exact ⟨q + 1, ⟨n0, n1, n2, true⟩, true, true, 1, hlt, by omega, rfl, rfl, rfl, rfl, HR1.out, E2.out, rfl, E6.out, r1, HB.out.trans (r3 w.heap.size gw), gx⟩
                · skip
                  have hn4b : (n0 == 4) = false := by rw [beq_eq_false_iff_ne]; exact hn4
                  cases t
                  · skip
                    obtain rfl : n3 = false := by have := (E7.out h4).1; injection this
                    have htn2 : tn = 0 := HTN.out
                    subst htn2
                    clear HTN
                    clear X7c0 X7c1 X7c2 X7c3 X15c0 X15c1 X15c2 X15c3
                    have ⟨q7, q8⟩ := E7.out h4
                    injection q7 with q0 q1 q2 q3
                    subst q0 q1 q2
                    clear q3 h4b
                    have h4b : decide (4 ≤ n0) = true := decide_eq_true h4
                    obtain rfl : y = 0 := q8
                    have X7c0 := (k.cell_of X7.out (i := 0) rfl).1
                    have X7c1 := (k.cell_of X7.out (i := 1) rfl).1
                    have X7c2 := (k.cell_of X7.out (i := 2) rfl).1
                    have X7c3 := (k.cell_of X7.out (i := 3) rfl).1
                    have X15c0 := (k.cell_of X15.out (i := 0) rfl).1
                    have X15c1 := (k.cell_of X15.out (i := 1) rfl).1
                    have X15c2 := (k.cell_of X15.out (i := 2) rfl).1
                    have X15c3 := (k.cell_of X15.out (i := 3) rfl).1
                    go_upto_region 20 with (first | (go_at_call 10; ((with_reducible refine (HP1.out _).mono ?_); rintro e v24 ⟨rfl, hb⟩; have X7 := Lib.hid (X7.out.below hb hzX7); have X15 := Lib.hid (X15.out.below hb hzX15); have hzX7 := Nat.lt_of_lt_of_le hzX7 hb.size; have hzX15 := Nat.lt_of_lt_of_le hzX15 hb.size; have HB := Lib.hid (HB.out.trans (hb.mono HB.out.size)); clear X7c0 X7c1 X7c2 X7c3 X15c0 X15c1 X15c2 X15c3; have X7c0 := (k.cell_of X7.out (i := 0) rfl).1; have X7c1 := (k.cell_of X7.out (i := 1) rfl).1; have X7c2 := (k.cell_of X7.out (i := 2) rfl).1; have X7c3 := (k.cell_of X7.out (i := 3) rfl).1; have X15c0 := (k.cell_of X15.out (i := 0) rfl).1; have X15c1 := (k.cell_of X15.out (i := 1) rfl).1; have X15c2 := (k.cell_of X15.out (i := 2) rfl).1; have X15c3 := (k.cell_of X15.out (i := 3) rfl).1; clear hb)) | (go_at_call 11; ((with_reducible refine (HO1.out _).mono ?_); rintro e v25 ⟨rfl, hb⟩; have X7 := Lib.hid (X7.out.below hb hzX7); have X15 := Lib.hid (X15.out.below hb hzX15); have hzX7 := Nat.lt_of_lt_of_le hzX7 hb.size; have hzX15 := Nat.lt_of_lt_of_le hzX15 hb.size; have HB := Lib.hid (HB.out.trans (hb.mono HB.out.size)); clear X7c0 X7c1 X7c2 X7c3 X15c0 X15c1 X15c2 X15c3; have X7c0 := (k.cell_of X7.out (i := 0) rfl).1; have X7c1 := (k.cell_of X7.out (i := 1) rfl).1; have X7c2 := (k.cell_of X7.out (i := 2) rfl).1; have X7c3 := (k.cell_of X7.out (i := 3) rfl).1; have X15c0 := (k.cell_of X15.out (i := 0) rfl).1; have X15c1 := (k.cell_of X15.out (i := 1) rfl).1; have X15c2 := (k.cell_of X15.out (i := 2) rfl).1; have X15c3 := (k.cell_of X15.out (i := 3) rfl).1; clear hb)))
                    clear X7c0 X7c1 X7c2 X7c3 X15c0 X15c1 X15c2 X15c3
                    obtain ⟨a0, f0, a1, f1, a2, f2, a3, f3, _⟩ := X7.out
                    obtain ⟨k0, _, k1, _, k2, _, k3, _, _⟩ := X15.out
                    go_wp2
                    obtain ⟨r1, r2, r3⟩ := X7.out.puts (us := [.int .i64 n0, .int .i64 n1, .int .i64 n2, .bool false]) rfl
                    have gx : gX7 < (k.puts v25 gX7 0 [.int .i64 n0, .int .i64 n1, .int .i64 n2, .bool false]).heap.size := by rw [r2]; exact hzX7
                    go_roundw
                    case measure => simp [intOf]; omega
                    case rel => exact ⟨q + 1, ⟨n0, n1, n2, false⟩, s9, s10, 0, hlt, by omega, rfl, rfl, rfl, rfl, HR1.out, E2.out, rfl, E6.out, r1, HB.out.trans (r3 w.heap.size gw), gx⟩
                  · skip
                    obtain rfl : n3 = true := by have := (E7.out h4).1; injection this
                    have htn2 : tn = 1 := HTN.out
                    subst htn2
                    clear HTN
                    clear X7c0 X7c1 X7c2 X7c3 X15c0 X15c1 X15c2 X15c3
                    have ⟨q7, q8⟩ := E7.out h4
                    injection q7 with q0 q1 q2 q3
                    subst q0 q1 q2
                    clear q3 h4b
                    have h4b : decide (4 ≤ n0) = true := decide_eq_true h4
                    obtain rfl : y = 0 := q8
                    have X7c0 := (k.cell_of X7.out (i := 0) rfl).1
                    have X7c1 := (k.cell_of X7.out (i := 1) rfl).1
                    have X7c2 := (k.cell_of X7.out (i := 2) rfl).1
                    have X7c3 := (k.cell_of X7.out (i := 3) rfl).1
                    have X15c0 := (k.cell_of X15.out (i := 0) rfl).1
                    have X15c1 := (k.cell_of X15.out (i := 1) rfl).1
                    have X15c2 := (k.cell_of X15.out (i := 2) rfl).1
                    have X15c3 := (k.cell_of X15.out (i := 3) rfl).1
                    go_upto_region 20 with (first | (go_at_call 10; ((with_reducible refine (HP1.out _).mono ?_); rintro e v24 ⟨rfl, hb⟩; have X7 := Lib.hid (X7.out.below hb hzX7); have X15 := Lib.hid (X15.out.below hb hzX15); have hzX7 := Nat.lt_of_lt_of_le hzX7 hb.size; have hzX15 := Nat.lt_of_lt_of_le hzX15 hb.size; have HB := Lib.hid (HB.out.trans (hb.mono HB.out.size)); clear X7c0 X7c1 X7c2 X7c3 X15c0 X15c1 X15c2 X15c3; have X7c0 := (k.cell_of X7.out (i := 0) rfl).1; have X7c1 := (k.cell_of X7.out (i := 1) rfl).1; have X7c2 := (k.cell_of X7.out (i := 2) rfl).1; have X7c3 := (k.cell_of X7.out (i := 3) rfl).1; have X15c0 := (k.cell_of X15.out (i := 0) rfl).1; have X15c1 := (k.cell_of X15.out (i := 1) rfl).1; have X15c2 := (k.cell_of X15.out (i := 2) rfl).1; have X15c3 := (k.cell_of X15.out (i := 3) rfl).1; clear hb)) | (go_at_call 11; ((with_reducible refine (HO1.out _).mono ?_); rintro e v25 ⟨rfl, hb⟩; have X7 := Lib.hid (X7.out.below hb hzX7); have X15 := Lib.hid (X15.out.below hb hzX15); have hzX7 := Nat.lt_of_lt_of_le hzX7 hb.size; have hzX15 := Nat.lt_of_lt_of_le hzX15 hb.size; have HB := Lib.hid (HB.out.trans (hb.mono HB.out.size)); clear X7c0 X7c1 X7c2 X7c3 X15c0 X15c1 X15c2 X15c3; have X7c0 := (k.cell_of X7.out (i := 0) rfl).1; have X7c1 := (k.cell_of X7.out (i := 1) rfl).1; have X7c2 := (k.cell_of X7.out (i := 2) rfl).1; have X7c3 := (k.cell_of X7.out (i := 3) rfl).1; have X15c0 := (k.cell_of X15.out (i := 0) rfl).1; have X15c1 := (k.cell_of X15.out (i := 1) rfl).1; have X15c2 := (k.cell_of X15.out (i := 2) rfl).1; have X15c3 := (k.cell_of X15.out (i := 3) rfl).1; clear hb)))
                    clear X7c0 X7c1 X7c2 X7c3 X15c0 X15c1 X15c2 X15c3
                    obtain ⟨a0, f0, a1, f1, a2, f2, a3, f3, _⟩ := X7.out
                    obtain ⟨k0, _, k1, _, k2, _, k3, _, _⟩ := X15.out
                    go_wp2
                    obtain ⟨r1, r2, r3⟩ := X7.out.puts (us := [.int .i64 n0, .int .i64 n1, .int .i64 n2, .bool true]) rfl
                    have gx : gX7 < (k.puts v25 gX7 0 [.int .i64 n0, .int .i64 n1, .int .i64 n2, .bool true]).heap.size := by rw [r2]; exact hzX7
                    go_roundw
                    case measure => simp [intOf]; omega
                    case rel => exact ⟨q + 1, ⟨n0, n1, n2, true⟩, s9, s10, 1, hlt, by omega, rfl, rfl, rfl, rfl, HR1.out, E2.out, rfl, E6.out, r1, HB.out.trans (r3 w.heap.size gw), gx⟩
              · have h4b : decide (4 ≤ p) = false := decide_eq_false h4
                by_cases hn4 : n0 = 4
                · skip
                  have hn4b : (n0 == 4) = true := by rw [hn4]; rfl
                  obtain rfl : s9 = true := E6.out.1 (by show (1 : Int) ≤ n0; omega) (by show n0 ≤ 4; omega)
                  obtain rfl : s10 = true := E6.out.2 (by show (3 : Int) ≤ n0; omega) (by show n0 ≤ 4; omega)
                  clear hn4
                  cases t
                  · skip
                    have htn2 : tn = 0 := HTN.out
                    subst htn2
                    clear HTN
                    cases n3
                    · skip
                      clear X7c0 X7c1 X7c2 X7c3 X15c0 X15c1 X15c2 X15c3
                      have X7c0 := (k.cell_of X7.out (i := 0) rfl).1
                      have X7c1 := (k.cell_of X7.out (i := 1) rfl).1
                      have X7c2 := (k.cell_of X7.out (i := 2) rfl).1
                      have X7c3 := (k.cell_of X7.out (i := 3) rfl).1
                      have X15c0 := (k.cell_of X15.out (i := 0) rfl).1
                      have X15c1 := (k.cell_of X15.out (i := 1) rfl).1
                      have X15c2 := (k.cell_of X15.out (i := 2) rfl).1
                      have X15c3 := (k.cell_of X15.out (i := 3) rfl).1
                      go_upto_region 20 with (first | (go_at_call 10; ((with_reducible refine (HP1.out _).mono ?_); rintro e v24 ⟨rfl, hb⟩; have X7 := Lib.hid (X7.out.below hb hzX7); have X15 := Lib.hid (X15.out.below hb hzX15); have hzX7 := Nat.lt_of_lt_of_le hzX7 hb.size; have hzX15 := Nat.lt_of_lt_of_le hzX15 hb.size; have HB := Lib.hid (HB.out.trans (hb.mono HB.out.size)); clear X7c0 X7c1 X7c2 X7c3 X15c0 X15c1 X15c2 X15c3; have X7c0 := (k.cell_of X7.out (i := 0) rfl).1; have X7c1 := (k.cell_of X7.out (i := 1) rfl).1; have X7c2 := (k.cell_of X7.out (i := 2) rfl).1; have X7c3 := (k.cell_of X7.out (i := 3) rfl).1; have X15c0 := (k.cell_of X15.out (i := 0) rfl).1; have X15c1 := (k.cell_of X15.out (i := 1) rfl).1; have X15c2 := (k.cell_of X15.out (i := 2) rfl).1; have X15c3 := (k.cell_of X15.out (i := 3) rfl).1; clear hb)) | (go_at_call 11; ((with_reducible refine (HO1.out _).mono ?_); rintro e v25 ⟨rfl, hb⟩; have X7 := Lib.hid (X7.out.below hb hzX7); have X15 := Lib.hid (X15.out.below hb hzX15); have hzX7 := Nat.lt_of_lt_of_le hzX7 hb.size; have hzX15 := Nat.lt_of_lt_of_le hzX15 hb.size; have HB := Lib.hid (HB.out.trans (hb.mono HB.out.size)); clear X7c0 X7c1 X7c2 X7c3 X15c0 X15c1 X15c2 X15c3; have X7c0 := (k.cell_of X7.out (i := 0) rfl).1; have X7c1 := (k.cell_of X7.out (i := 1) rfl).1; have X7c2 := (k.cell_of X7.out (i := 2) rfl).1; have X7c3 := (k.cell_of X7.out (i := 3) rfl).1; have X15c0 := (k.cell_of X15.out (i := 0) rfl).1; have X15c1 := (k.cell_of X15.out (i := 1) rfl).1; have X15c2 := (k.cell_of X15.out (i := 2) rfl).1; have X15c3 := (k.cell_of X15.out (i := 3) rfl).1; clear hb)))
                      clear X7c0 X7c1 X7c2 X7c3 X15c0 X15c1 X15c2 X15c3
                      obtain ⟨a0, f0, a1, f1, a2, f2, a3, f3, _⟩ := X7.out
                      obtain ⟨k0, _, k1, _, k2, _, k3, _, _⟩ := X15.out
                      go_wp2
                      obtain ⟨r1, r2, r3⟩ := X7.out.puts (us := [.int .i64 n0, .int .i64 n1, .int .i64 n2, .bool false]) rfl
                      have gx : gX7 < (k.puts v25 gX7 0 [.int .i64 n0, .int .i64 n1, .int .i64 n2, .bool false]).heap.size := by rw [r2]; exact hzX7
                      go_roundw
                      case measure => simp [intOf]; omega
                      case rel => exact ⟨q + 1, ⟨n0, n1, n2, false⟩, true, true, 0, hlt, by omega, rfl, rfl, rfl, rfl, HR1.out, E2.out, rfl, E6.out, r1, HB.out.trans (r3 w.heap.size gw), gx⟩
                    · skip
                      clear X7c0 X7c1 X7c2 X7c3 X15c0 X15c1 X15c2 X15c3
                      have X7c0 := (k.cell_of X7.out (i := 0) rfl).1
                      have X7c1 := (k.cell_of X7.out (i := 1) rfl).1
                      have X7c2 := (k.cell_of X7.out (i := 2) rfl).1
                      have X7c3 := (k.cell_of X7.out (i := 3) rfl).1
                      have X15c0 := (k.cell_of X15.out (i := 0) rfl).1
                      have X15c1 := (k.cell_of X15.out (i := 1) rfl).1
                      have X15c2 := (k.cell_of X15.out (i := 2) rfl).1
                      have X15c3 := (k.cell_of X15.out (i := 3) rfl).1
                      go_upto_region 20 with (first | (go_at_call 10; ((with_reducible refine (HP1.out _).mono ?_); rintro e v24 ⟨rfl, hb⟩; have X7 := Lib.hid (X7.out.below hb hzX7); have X15 := Lib.hid (X15.out.below hb hzX15); have hzX7 := Nat.lt_of_lt_of_le hzX7 hb.size; have hzX15 := Nat.lt_of_lt_of_le hzX15 hb.size; have HB := Lib.hid (HB.out.trans (hb.mono HB.out.size)); clear X7c0 X7c1 X7c2 X7c3 X15c0 X15c1 X15c2 X15c3; have X7c0 := (k.cell_of X7.out (i := 0) rfl).1; have X7c1 := (k.cell_of X7.out (i := 1) rfl).1; have X7c2 := (k.cell_of X7.out (i := 2) rfl).1; have X7c3 := (k.cell_of X7.out (i := 3) rfl).1; have X15c0 := (k.cell_of X15.out (i := 0) rfl).1; have X15c1 := (k.cell_of X15.out (i := 1) rfl).1; have X15c2 := (k.cell_of X15.out (i := 2) rfl).1; have X15c3 := (k.cell_of X15.out (i := 3) rfl).1; clear hb)) | (go_at_call 11; ((with_reducible refine (HO1.out _).mono ?_); rintro e v25 ⟨rfl, hb⟩; have X7 := Lib.hid (X7.out.below hb hzX7); have X15 := Lib.hid (X15.out.below hb hzX15); have hzX7 := Nat.lt_of_lt_of_le hzX7 hb.size; have hzX15 := Nat.lt_of_lt_of_le hzX15 hb.size; have HB := Lib.hid (HB.out.trans (hb.mono HB.out.size)); clear X7c0 X7c1 X7c2 X7c3 X15c0 X15c1 X15c2 X15c3; have X7c0 := (k.cell_of X7.out (i := 0) rfl).1; have X7c1 := (k.cell_of X7.out (i := 1) rfl).1; have X7c2 := (k.cell_of X7.out (i := 2) rfl).1; have X7c3 := (k.cell_of X7.out (i := 3) rfl).1; have X15c0 := (k.cell_of X15.out (i := 0) rfl).1; have X15c1 := (k.cell_of X15.out (i := 1) rfl).1; have X15c2 := (k.cell_of X15.out (i := 2) rfl).1; have X15c3 := (k.cell_of X15.out (i := 3) rfl).1; clear hb)))
                      clear X7c0 X7c1 X7c2 X7c3 X15c0 X15c1 X15c2 X15c3
                      obtain ⟨a0, f0, a1, f1, a2, f2, a3, f3, _⟩ := X7.out
                      obtain ⟨k0, _, k1, _, k2, _, k3, _, _⟩ := X15.out
                      go_wp2
                      obtain ⟨r1, r2, r3⟩ := X7.out.puts (us := [.int .i64 n0, .int .i64 n1, .int .i64 n2, .bool true]) rfl
                      have gx : gX7 < (k.puts v25 gX7 0 [.int .i64 n0, .int .i64 n1, .int .i64 n2, .bool true]).heap.size := by rw [r2]; exact hzX7
                      go_roundw
                      case measure => simp [intOf]; omega
                      case rel => exact ⟨q + 1, ⟨n0, n1, n2, true⟩, true, true, 1, hlt, by omega, rfl, rfl, rfl, rfl, HR1.out, E2.out, rfl, E6.out, r1, HB.out.trans (r3 w.heap.size gw), gx⟩
                  · skip
                    have htn2 : tn = 1 := HTN.out
                    subst htn2
                    clear HTN
                    obtain rfl : n3 = true := e5 rfl
                    clear X7c0 X7c1 X7c2 X7c3 X15c0 X15c1 X15c2 X15c3
                    have X7c0 := (k.cell_of X7.out (i := 0) rfl).1
                    have X7c1 := (k.cell_of X7.out (i := 1) rfl).1
                    have X7c2 := (k.cell_of X7.out (i := 2) rfl).1
                    have X7c3 := (k.cell_of X7.out (i := 3) rfl).1
                    have X15c0 := (k.cell_of X15.out (i := 0) rfl).1
                    have X15c1 := (k.cell_of X15.out (i := 1) rfl).1
                    have X15c2 := (k.cell_of X15.out (i := 2) rfl).1
                    have X15c3 := (k.cell_of X15.out (i := 3) rfl).1
                    go_upto_region 20 with (first | (go_at_call 10; ((with_reducible refine (HP1.out _).mono ?_); rintro e v24 ⟨rfl, hb⟩; have X7 := Lib.hid (X7.out.below hb hzX7); have X15 := Lib.hid (X15.out.below hb hzX15); have hzX7 := Nat.lt_of_lt_of_le hzX7 hb.size; have hzX15 := Nat.lt_of_lt_of_le hzX15 hb.size; have HB := Lib.hid (HB.out.trans (hb.mono HB.out.size)); clear X7c0 X7c1 X7c2 X7c3 X15c0 X15c1 X15c2 X15c3; have X7c0 := (k.cell_of X7.out (i := 0) rfl).1; have X7c1 := (k.cell_of X7.out (i := 1) rfl).1; have X7c2 := (k.cell_of X7.out (i := 2) rfl).1; have X7c3 := (k.cell_of X7.out (i := 3) rfl).1; have X15c0 := (k.cell_of X15.out (i := 0) rfl).1; have X15c1 := (k.cell_of X15.out (i := 1) rfl).1; have X15c2 := (k.cell_of X15.out (i := 2) rfl).1; have X15c3 := (k.cell_of X15.out (i := 3) rfl).1; clear hb)) | (go_at_call 11; ((with_reducible refine (HO1.out _).mono ?_); rintro e v25 ⟨rfl, hb⟩; have X7 := Lib.hid (X7.out.below hb hzX7); have X15 := Lib.hid (X15.out.below hb hzX15); have hzX7 := Nat.lt_of_lt_of_le hzX7 hb.size; have hzX15 := Nat.lt_of_lt_of_le hzX15 hb.size; have HB := Lib.hid (HB.out.trans (hb.mono HB.out.size)); clear X7c0 X7c1 X7c2 X7c3 X15c0 X15c1 X15c2 X15c3; have X7c0 := (k.cell_of X7.out (i := 0) rfl).1; have X7c1 := (k.cell_of X7.out (i := 1) rfl).1; have X7c2 := (k.cell_of X7.out (i := 2) rfl).1; have X7c3 := (k.cell_of X7.out (i := 3) rfl).1; have X15c0 := (k.cell_of X15.out (i := 0) rfl).1; have X15c1 := (k.cell_of X15.out (i := 1) rfl).1; have X15c2 := (k.cell_of X15.out (i := 2) rfl).1; have X15c3 := (k.cell_of X15.out (i := 3) rfl).1; clear hb)))
                    clear X7c0 X7c1 X7c2 X7c3 X15c0 X15c1 X15c2 X15c3
                    obtain ⟨a0, f0, a1, f1, a2, f2, a3, f3, _⟩ := X7.out
                    obtain ⟨k0, _, k1, _, k2, _, k3, _, _⟩ := X15.out
                    go_wp2
                    obtain ⟨r1, r2, r3⟩ := X7.out.puts (us := [.int .i64 n0, .int .i64 n1, .int .i64 n2, .bool true]) rfl
                    have gx : gX7 < (k.puts v25 gX7 0 [.int .i64 n0, .int .i64 n1, .int .i64 n2, .bool true]).heap.size := by rw [r2]; exact hzX7
                    go_roundw
                    case measure => simp [intOf]; omega
                    case rel => exact ⟨q + 1, ⟨n0, n1, n2, true⟩, true, true, 1, hlt, by omega, rfl, rfl, rfl, rfl, HR1.out, E2.out, rfl, E6.out, r1, HB.out.trans (r3 w.heap.size gw), gx⟩
                · skip
                  have hn4b : (n0 == 4) = false := by rw [beq_eq_false_iff_ne]; exact hn4
                  cases t
                  · skip
                    have htn2 : tn = 0 := HTN.out
                    subst htn2
                    clear HTN
                    cases n3
                    · skip
                      clear X7c0 X7c1 X7c2 X7c3 X15c0 X15c1 X15c2 X15c3
                      have X7c0 := (k.cell_of X7.out (i := 0) rfl).1
                      have X7c1 := (k.cell_of X7.out (i := 1) rfl).1
                      have X7c2 := (k.cell_of X7.out (i := 2) rfl).1
                      have X7c3 := (k.cell_of X7.out (i := 3) rfl).1
                      have X15c0 := (k.cell_of X15.out (i := 0) rfl).1
                      have X15c1 := (k.cell_of X15.out (i := 1) rfl).1
                      have X15c2 := (k.cell_of X15.out (i := 2) rfl).1
                      have X15c3 := (k.cell_of X15.out (i := 3) rfl).1
                      go_upto_region 20 with (first | (go_at_call 10; ((with_reducible refine (HP1.out _).mono ?_); rintro e v24 ⟨rfl, hb⟩; have X7 := Lib.hid (X7.out.below hb hzX7); have X15 := Lib.hid (X15.out.below hb hzX15); have hzX7 := Nat.lt_of_lt_of_le hzX7 hb.size; have hzX15 := Nat.lt_of_lt_of_le hzX15 hb.size; have HB := Lib.hid (HB.out.trans (hb.mono HB.out.size)); clear X7c0 X7c1 X7c2 X7c3 X15c0 X15c1 X15c2 X15c3; have X7c0 := (k.cell_of X7.out (i := 0) rfl).1; have X7c1 := (k.cell_of X7.out (i := 1) rfl).1; have X7c2 := (k.cell_of X7.out (i := 2) rfl).1; have X7c3 := (k.cell_of X7.out (i := 3) rfl).1; have X15c0 := (k.cell_of X15.out (i := 0) rfl).1; have X15c1 := (k.cell_of X15.out (i := 1) rfl).1; have X15c2 := (k.cell_of X15.out (i := 2) rfl).1; have X15c3 := (k.cell_of X15.out (i := 3) rfl).1; clear hb)) | (go_at_call 11; ((with_reducible refine (HO1.out _).mono ?_); rintro e v25 ⟨rfl, hb⟩; have X7 := Lib.hid (X7.out.below hb hzX7); have X15 := Lib.hid (X15.out.below hb hzX15); have hzX7 := Nat.lt_of_lt_of_le hzX7 hb.size; have hzX15 := Nat.lt_of_lt_of_le hzX15 hb.size; have HB := Lib.hid (HB.out.trans (hb.mono HB.out.size)); clear X7c0 X7c1 X7c2 X7c3 X15c0 X15c1 X15c2 X15c3; have X7c0 := (k.cell_of X7.out (i := 0) rfl).1; have X7c1 := (k.cell_of X7.out (i := 1) rfl).1; have X7c2 := (k.cell_of X7.out (i := 2) rfl).1; have X7c3 := (k.cell_of X7.out (i := 3) rfl).1; have X15c0 := (k.cell_of X15.out (i := 0) rfl).1; have X15c1 := (k.cell_of X15.out (i := 1) rfl).1; have X15c2 := (k.cell_of X15.out (i := 2) rfl).1; have X15c3 := (k.cell_of X15.out (i := 3) rfl).1; clear hb)))
                      clear X7c0 X7c1 X7c2 X7c3 X15c0 X15c1 X15c2 X15c3
                      obtain ⟨a0, f0, a1, f1, a2, f2, a3, f3, _⟩ := X7.out
                      obtain ⟨k0, _, k1, _, k2, _, k3, _, _⟩ := X15.out
                      go_wp2
                      obtain ⟨r1, r2, r3⟩ := X7.out.puts (us := [.int .i64 n0, .int .i64 n1, .int .i64 n2, .bool false]) rfl
                      have gx : gX7 < (k.puts v25 gX7 0 [.int .i64 n0, .int .i64 n1, .int .i64 n2, .bool false]).heap.size := by rw [r2]; exact hzX7
                      go_roundw
                      case measure => simp [intOf]; omega
                      case rel => exact ⟨q + 1, ⟨n0, n1, n2, false⟩, s9, s10, 0, hlt, by omega, rfl, rfl, rfl, rfl, HR1.out, E2.out, rfl, E6.out, r1, HB.out.trans (r3 w.heap.size gw), gx⟩
                    · skip
                      clear X7c0 X7c1 X7c2 X7c3 X15c0 X15c1 X15c2 X15c3
                      have X7c0 := (k.cell_of X7.out (i := 0) rfl).1
                      have X7c1 := (k.cell_of X7.out (i := 1) rfl).1
                      have X7c2 := (k.cell_of X7.out (i := 2) rfl).1
                      have X7c3 := (k.cell_of X7.out (i := 3) rfl).1
                      have X15c0 := (k.cell_of X15.out (i := 0) rfl).1
                      have X15c1 := (k.cell_of X15.out (i := 1) rfl).1
                      have X15c2 := (k.cell_of X15.out (i := 2) rfl).1
                      have X15c3 := (k.cell_of X15.out (i := 3) rfl).1
                      go_upto_region 20 with (first | (go_at_call 10; ((with_reducible refine (HP1.out _).mono ?_); rintro e v24 ⟨rfl, hb⟩; have X7 := Lib.hid (X7.out.below hb hzX7); have X15 := Lib.hid (X15.out.below hb hzX15); have hzX7 := Nat.lt_of_lt_of_le hzX7 hb.size; have hzX15 := Nat.lt_of_lt_of_le hzX15 hb.size; have HB := Lib.hid (HB.out.trans (hb.mono HB.out.size)); clear X7c0 X7c1 X7c2 X7c3 X15c0 X15c1 X15c2 X15c3; have X7c0 := (k.cell_of X7.out (i := 0) rfl).1; have X7c1 := (k.cell_of X7.out (i := 1) rfl).1; have X7c2 := (k.cell_of X7.out (i := 2) rfl).1; have X7c3 := (k.cell_of X7.out (i := 3) rfl).1; have X15c0 := (k.cell_of X15.out (i := 0) rfl).1; have X15c1 := (k.cell_of X15.out (i := 1) rfl).1; have X15c2 := (k.cell_of X15.out (i := 2) rfl).1; have X15c3 := (k.cell_of X15.out (i := 3) rfl).1; clear hb)) | (go_at_call 11; ((with_reducible refine (HO1.out _).mono ?_); rintro e v25 ⟨rfl, hb⟩; have X7 := Lib.hid (X7.out.below hb hzX7); have X15 := Lib.hid (X15.out.below hb hzX15); have hzX7 := Nat.lt_of_lt_of_le hzX7 hb.size; have hzX15 := Nat.lt_of_lt_of_le hzX15 hb.size; have HB := Lib.hid (HB.out.trans (hb.mono HB.out.size)); clear X7c0 X7c1 X7c2 X7c3 X15c0 X15c1 X15c2 X15c3; have X7c0 := (k.cell_of X7.out (i := 0) rfl).1; have X7c1 := (k.cell_of X7.out (i := 1) rfl).1; have X7c2 := (k.cell_of X7.out (i := 2) rfl).1; have X7c3 := (k.cell_of X7.out (i := 3) rfl).1; have X15c0 := (k.cell_of X15.out (i := 0) rfl).1; have X15c1 := (k.cell_of X15.out (i := 1) rfl).1; have X15c2 := (k.cell_of X15.out (i := 2) rfl).1; have X15c3 := (k.cell_of X15.out (i := 3) rfl).1; clear hb)))
                      clear X7c0 X7c1 X7c2 X7c3 X15c0 X15c1 X15c2 X15c3
                      obtain ⟨a0, f0, a1, f1, a2, f2, a3, f3, _⟩ := X7.out
                      obtain ⟨k0, _, k1, _, k2, _, k3, _, _⟩ := X15.out
                      go_wp2
                      obtain ⟨r1, r2, r3⟩ := X7.out.puts (us := [.int .i64 n0, .int .i64 n1, .int .i64 n2, .bool true]) rfl
                      have gx : gX7 < (k.puts v25 gX7 0 [.int .i64 n0, .int .i64 n1, .int .i64 n2, .bool true]).heap.size := by rw [r2]; exact hzX7
                      go_roundw
                      case measure => simp [intOf]; omega
                      case rel => exact ⟨q + 1, ⟨n0, n1, n2, true⟩, s9, s10, 1, hlt, by omega, rfl, rfl, rfl, rfl, HR1.out, E2.out, rfl, E6.out, r1, HB.out.trans (r3 w.heap.size gw), gx⟩
                  · skip
                    have htn2 : tn = 1 := HTN.out
                    subst htn2
                    clear HTN
                    obtain rfl : n3 = true := e5 rfl
                    clear X7c0 X7c1 X7c2 X7c3 X15c0 X15c1 X15c2 X15c3
                    have X7c0 := (k.cell_of X7.out (i := 0) rfl).1
                    have X7c1 := (k.cell_of X7.out (i := 1) rfl).1
                    have X7c2 := (k.cell_of X7.out (i := 2) rfl).1
                    have X7c3 := (k.cell_of X7.out (i := 3) rfl).1
                    have X15c0 := (k.cell_of X15.out (i := 0) rfl).1
                    have X15c1 := (k.cell_of X15.out (i := 1) rfl).1
                    have X15c2 := (k.cell_of X15.out (i := 2) rfl).1
                    have X15c3 := (k.cell_of X15.out (i := 3) rfl).1
                    go_upto_region 20 with (first | (go_at_call 10; ((with_reducible refine (HP1.out _).mono ?_); rintro e v24 ⟨rfl, hb⟩; have X7 := Lib.hid (X7.out.below hb hzX7); have X15 := Lib.hid (X15.out.below hb hzX15); have hzX7 := Nat.lt_of_lt_of_le hzX7 hb.size; have hzX15 := Nat.lt_of_lt_of_le hzX15 hb.size; have HB := Lib.hid (HB.out.trans (hb.mono HB.out.size)); clear X7c0 X7c1 X7c2 X7c3 X15c0 X15c1 X15c2 X15c3; have X7c0 := (k.cell_of X7.out (i := 0) rfl).1; have X7c1 := (k.cell_of X7.out (i := 1) rfl).1; have X7c2 := (k.cell_of X7.out (i := 2) rfl).1; have X7c3 := (k.cell_of X7.out (i := 3) rfl).1; have X15c0 := (k.cell_of X15.out (i := 0) rfl).1; have X15c1 := (k.cell_of X15.out (i := 1) rfl).1; have X15c2 := (k.cell_of X15.out (i := 2) rfl).1; have X15c3 := (k.cell_of X15.out (i := 3) rfl).1; clear hb)) | (go_at_call 11; ((with_reducible refine (HO1.out _).mono ?_); rintro e v25 ⟨rfl, hb⟩; have X7 := Lib.hid (X7.out.below hb hzX7); have X15 := Lib.hid (X15.out.below hb hzX15); have hzX7 := Nat.lt_of_lt_of_le hzX7 hb.size; have hzX15 := Nat.lt_of_lt_of_le hzX15 hb.size; have HB := Lib.hid (HB.out.trans (hb.mono HB.out.size)); clear X7c0 X7c1 X7c2 X7c3 X15c0 X15c1 X15c2 X15c3; have X7c0 := (k.cell_of X7.out (i := 0) rfl).1; have X7c1 := (k.cell_of X7.out (i := 1) rfl).1; have X7c2 := (k.cell_of X7.out (i := 2) rfl).1; have X7c3 := (k.cell_of X7.out (i := 3) rfl).1; have X15c0 := (k.cell_of X15.out (i := 0) rfl).1; have X15c1 := (k.cell_of X15.out (i := 1) rfl).1; have X15c2 := (k.cell_of X15.out (i := 2) rfl).1; have X15c3 := (k.cell_of X15.out (i := 3) rfl).1; clear hb)))
                    clear X7c0 X7c1 X7c2 X7c3 X15c0 X15c1 X15c2 X15c3
                    obtain ⟨a0, f0, a1, f1, a2, f2, a3, f3, _⟩ := X7.out
                    obtain ⟨k0, _, k1, _, k2, _, k3, _, _⟩ := X15.out
                    go_wp2
                    obtain ⟨r1, r2, r3⟩ := X7.out.puts (us := [.int .i64 n0, .int .i64 n1, .int .i64 n2, .bool true]) rfl
                    have gx : gX7 < (k.puts v25 gX7 0 [.int .i64 n0, .int .i64 n1, .int .i64 n2, .bool true]).heap.size := by rw [r2]; exact hzX7
                    go_roundw
                    case measure => simp [intOf]; omega
                    case rel => exact ⟨q + 1, ⟨n0, n1, n2, true⟩, s9, s10, 1, hlt, by omega, rfl, rfl, rfl, rfl, HR1.out, E2.out, rfl, E6.out, r1, HB.out.trans (r3 w.heap.size gw), gx⟩
        · have h300 : decide ((q : Int) < 300) = false := decide_eq_false (by omega)
          have i0 : (q : Int) < (len : Int) := by omega
          go_wp2
          go_ret
          exact ⟨rfl, HB.out⟩
      · have i0 : decide ((q : Int) < (len : Int)) = false := decide_eq_false (by omega)
        go_wp2
        go_ret
        exact ⟨rfl, HB.out⟩
  · skip
    have HN : Hid (∀  W, Calls Try.prog 7 #[.int .i64 x0, .int .i64 x1] W fun e w' => e = .returned (.tuple #[.agg #[.int .i64 0, .int .i64 0, .int .i64 0, .bool false], .int .i64 1]) ∧ Below W.heap.size W w') := Lib.hid fun  W => by have h := new_any x0 x1 W; rw [show newH x0 x1 = zeroH from if_neg hn, show newE x0 x1 = 1 from if_neg hn] at h; exact h
    clear hn U
    go_enter Try.func4, Try.ntmps4
    go_upto_region 3 with (go_at_call 6; ((with_reducible refine (HK.out _).mono ?_); rintro e v1 ⟨rfl, hb⟩; have HB := Lib.hid hb; skip; clear hb))
    go_upto_region 4 with (go_at_call 7; ((with_reducible refine (HN.out _).mono ?_); rintro e v2 ⟨rfl, hb⟩; have HB := Lib.hid (HB.out.trans (hb.mono HB.out.size)); skip; skip; clear hb))
    have hge : w.heap.size ≤ v2.heap.size := HB.out.size
    obtain ⟨hx, hb, hzX7⟩ := k.boxes1 (w := v2) (c1 := #[.int .i64 0, .int .i64 0, .int .i64 0, .bool false]) (t1 := 23) (Below.refl _ _)
    generalize (v2.alloc (.cells #[.int .i64 0, .int .i64 0, .int .i64 0, .bool false] 23)) = v3 at hb hx hzX7 ⊢
    have HB := Lib.hid (HB.out.trans (hb.mono HB.out.size))
    skip
    obtain ⟨gX7, hgX7⟩ : ∃ g, v2.heap.size = g := ⟨_, rfl⟩
    rw [hgX7] at hx hzX7 hge ⊢
    skip
    have X7 := Lib.hid hx
    have X7c0 := (k.cell_of X7.out (i := 0) rfl).1
    have X7c1 := (k.cell_of X7.out (i := 1) rfl).1
    have X7c2 := (k.cell_of X7.out (i := 2) rfl).1
    have X7c3 := (k.cell_of X7.out (i := 3) rfl).1
    clear hb hx hgX7
    go_wp2
    go_ret
    exact ⟨rfl, HB.out⟩
end Go.Proofs.Ytojiefppaiafaaa.homeEnds
