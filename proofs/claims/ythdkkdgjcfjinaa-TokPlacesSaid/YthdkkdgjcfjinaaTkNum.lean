/- A number, as the document's function reads it. Conditions: the text has at most 20000 bytes; it is asked at one of them. -/
import Derived.Test.YthdkkdgjcfjinaaTkSign
namespace Go.Proofs.Ythdkkdgjcfjinaa.tk
open Go.ChangeShapes Go.WideShapes Go.ChangeAt Go.RowKit Go.Proofs.Ythdkkdgjcfjinaa.k Go.Proofs.Ythdkkdgjcfjinaa.rr
set_option linter.unusedVariables false

theorem dig_eq (c : UInt8) (b : Nat) : dig c b = if digV c < b then some (digV c) else none := rfl
theorem digs_yes {c : UInt8} {b : Nat} (h : digV c < b) (l : List UInt8) : digs b (c :: l) = digV c :: digs b l := by rw [digs, dig_eq, if_pos h]
theorem digs_no {c : UInt8} {b : Nat} (h : ¬ digV c < b) (l : List UInt8) : digs b (c :: l) = [] := by rw [digs, dig_eq, if_neg h]
theorem val_snoc (b : Nat) (l : List Nat) (d : Nat) : val b (l ++ [d]) = val b l * b + d := by unfold val; rw [List.foldl_append]; rfl
theorem ov1 {v b d : Nat} (hb : 1 ≤ b) (h : 9223372036854775807 < v) : 9223372036854775807 < v * b + d := Nat.lt_of_lt_of_le h (Nat.le_trans (Nat.le_mul_of_pos_right v hb) (Nat.le_add_right _ _))
theorem ov2 {v b d : Nat} (hb : 1 ≤ b) (hd : d ≤ 99) (h : (9223372036854775807 - d) / b < v) : 9223372036854775807 < v * b + d := by
  have := (Nat.div_lt_iff_lt_mul hb).1 h
  omega
theorem ov3 {v b d : Nat} (hb : 1 ≤ b) (hd : d ≤ 99) (h : ¬ (9223372036854775807 - d) / b < v) : v * b + d ≤ 9223372036854775807 := by
  have := (Nat.le_div_iff_mul_le hb).1 (Nat.le_of_not_lt h)
  omega
theorem digV_le (c : UInt8) : digV c ≤ 99 := by
  unfold digV
  split
  · have := c.toNat_lt; rename_i h; have := num_byte h; omega
  · split
    · rename_i h h2
      have h3 := UInt8.le_iff_toNat_le.1 h2.2
      simp at h3
      omega
    · omega
/-- how far a number's digits have been read -/
structure Rd1 (b : Nat) (D : List Nat) (rest : List Nat) (q v : Nat) (so ov : Bool) : Prop where
  le : q ≤ D.length
  drp : D.drop q = rest
  hso : so = decide (0 < q)
  hov : ov = decide (9223372036854775807 < val b (D.take q))
  hv : ov = false → v = val b (D.take q)
  mx : v ≤ 9223372036854775807
theorem Rd1.start (b : Nat) (D : List Nat) : Rd1 b D D 0 0 false false := ⟨Nat.zero_le _, rfl, rfl, rfl, fun _ => rfl, by omega⟩
theorem Rd1.take1 {b : Nat} {D rest : List Nat} {q v d : Nat} {so ov : Bool} (h : Rd1 b D (d :: rest) q v so ov) : q + 1 ≤ D.length ∧ D.drop (q + 1) = rest ∧ val b (D.take (q + 1)) = val b (D.take q) * b + d := by
  have h1 : q < D.length := by
    have := congrArg List.length h.drp
    rw [List.length_drop, List.length_cons] at this
    omega
  have h2 := List.drop_eq_getElem_cons h1
  rw [h.drp] at h2
  injection h2 with h3 h4
  refine ⟨h1, h4.symm, ?_⟩
  rw [List.take_succ_eq_append_getElem h1, val_snoc, ← h3]
theorem Rd1.over {b : Nat} {D rest : List Nat} {q v d : Nat} {so ov : Bool} (h : Rd1 b D (d :: rest) q v so ov) (hb : 1 ≤ b) (hd : d ≤ 99) (hv : (9223372036854775807 - d) / b < v) : Rd1 b D rest (q + 1) v true true := by
  obtain ⟨h1, h2, h3⟩ := h.take1
  refine ⟨h1, h2, by simp, ?_, (fun h => by cases h), h.mx⟩
  rw [h3]
  symm
  rw [decide_eq_true_iff]
  cases hov : ov
  · rw [← h.hv hov]
    exact ov2 hb hd hv
  · have := h.hov
    rw [hov] at this
    exact ov1 hb (of_decide_eq_true this.symm)
theorem Rd1.more {b : Nat} {D rest : List Nat} {q v d : Nat} {so ov : Bool} (h : Rd1 b D (d :: rest) q v so ov) (hb : 1 ≤ b) (hd : d ≤ 99) (hv : ¬ (9223372036854775807 - d) / b < v) : Rd1 b D rest (q + 1) (v * b + d) true ov := by
  obtain ⟨h1, h2, h3⟩ := h.take1
  refine ⟨h1, h2, by simp, ?_, fun hov => by rw [h3, ← h.hv hov], ov3 hb hd hv⟩
  rw [h3]
  cases hov : ov
  · symm
    rw [decide_eq_false_iff_not, ← h.hv hov]
    have := ov3 hb hd hv
    omega
  · symm
    rw [decide_eq_true_iff]
    have := h.hov
    rw [hov] at this
    exact ov1 hb (of_decide_eq_true this.symm)
theorem Rd1.end {b : Nat} {D : List Nat} {q v : Nat} {so ov : Bool} (h : Rd1 b D [] q v so ov) : q = D.length ∧ so = !D.isEmpty ∧ ov = decide (9223372036854775807 < val b D) ∧ (ov = false → v = val b D) := by
  have h1 : q = D.length := by
    have h2 := h.drp
    rw [List.drop_eq_nil_iff] at h2
    have := h.le
    omega
  have h3 : D.take q = D := by rw [h1, List.take_length]
  refine ⟨h1, ?_, by rw [h.hov, h3], fun hov => by rw [h.hv hov, h3]⟩
  rw [h.hso, h1]
  cases D <;> simp
theorem num_eq (r : List UInt8) (b h : Nat) (D : List Nat) (hb : baseOf r = (b, h)) (hD : digs b (r.drop h) = D) :
    number r = if (D.isEmpty || stuck (r.drop (h + D.length))) = true then (5, 0, h + D.length) else if 9223372036854775807 < val b D then (2, 0, h + D.length) else (0, val b D, h + D.length) := by
  unfold number
  rw [hb]
  simp only
  rw [hD]
set_option maxRecDepth 100000 in
set_option maxHeartbeats 8000000 in
theorem number_any (s : ByteArray) (hs : s.size ≤ 20000) (n : Nat) (hn : n < s.size) (w : World) : Calls Try.prog 21 #[.string s, .int .i64 n] w fun e w' => e = .returned (.tuple #[.int .i64 ((n + (number (dr s n)).2.2 : Nat) : Int), .int .i64 (number (dr s n)).2.1, .int .i64 (number (dr s n)).1]) ∧ w = w' := by
  have TW := Lib.hid fun m h a b W => two_any s hs m h a b W
  have HS := Lib.hid hs
  obtain ⟨t1, ht1⟩ : ∃ t, two (dr s n) 50 35 = t := ⟨_, rfl⟩
  obtain ⟨t2, ht2⟩ : ∃ t, two (dr s n) 56 35 = t := ⟨_, rfl⟩
  obtain ⟨t3, ht3⟩ : ∃ t, two (dr s n) 49 54 = t := ⟨_, rfl⟩
  have T1 : Hid (∀ W, Calls Try.prog 26 #[.string s, .int .i64 n, .int .u8 50, .int .u8 35] W fun e w' => e = .returned (.bool t1) ∧ W = w') := Lib.hid fun W => ht1 ▸ TW.out n (Nat.le_of_lt hn) 50 35 W
  have T2 : Hid (∀ W, Calls Try.prog 26 #[.string s, .int .i64 n, .int .u8 56, .int .u8 35] W fun e w' => e = .returned (.bool t2) ∧ W = w') := Lib.hid fun W => ht2 ▸ TW.out n (Nat.le_of_lt hn) 56 35 W
  have T3 : Hid (∀ W, Calls Try.prog 26 #[.string s, .int .i64 n, .int .u8 49, .int .u8 54] W fun e w' => e = .returned (.bool t3) ∧ W = w') := Lib.hid fun W => ht3 ▸ TW.out n (Nat.le_of_lt hn) 49 54 W
  have hz0 : (n : Int) < s.size := by omega
  have w2 : IntKind.i64.wrap ((n : Int) + 2) = n + 2 := by rw [IntKind.wrap_i64]; omega
  have w3 : IntKind.i64.wrap ((n : Int) + 3) = n + 3 := by rw [IntKind.wrap_i64]; omega
  cases t1
  · cases t2
    · cases t3
      · have h2 := hn
        have HBO : Hid (baseOf (dr s n) = (10, 0)) := Lib.hid (by unfold baseOf; rw [ht1, if_neg (by simp), ht2, if_neg (by simp), ht3, if_neg (by simp)])
        have hm : n + 0 ≤ s.size := by omega
        obtain ⟨D, hD⟩ : ∃ D, digs 10 (dr s (n + 0)) = D := ⟨_, rfl⟩
        have HD := Lib.hid hD
        have NE := Lib.hid (num_eq (dr s n) 10 0 D HBO.out (by rw [dr_drop]; exact hD))
        rw [dr_drop] at NE
        have HM := Lib.hid hm
        clear hD ht1 ht2 ht3 TW
        go_enter Try.func21, Try.ntmps21
        go_upto_region 10 with (first | (go_at_call 26; (with_reducible refine (T1.out _).mono ?_); rintro e w1 ⟨rfl, rfl⟩) | (go_at_call 26; (with_reducible refine (T2.out _).mono ?_); rintro e w1 ⟨rfl, rfl⟩) | (go_at_call 26; (with_reducible refine (T3.out _).mono ?_); rintro e w1 ⟨rfl, rfl⟩))
        clear w2 w3 hz0
        go_loopw [1, 8, 9, 10] (fun s1 s8 s9 s10 wr => ∃ (q v : Nat) (so ov : Bool), n + 0 + q ≤ s.size ∧ s1 = .int .i64 ((n + 0 + q : Nat) : Int) ∧ s8 = .int .u64 v ∧ s9 = .bool so ∧ s10 = .bool ov ∧ Rd1 10 D (digs 10 (dr s (n + 0 + q))) q v so ov ∧ w = wr) (fun i _ _ _ _ => s.size - (intOf i).toNat)
        case atStart => exact ⟨0, 0, false, false, hm, by simp, rfl, rfl, rfl, HD.out ▸ Rd1.start 10 _, rfl⟩
        case round =>
          obtain ⟨q, v, so, ov, hq, rfl, rfl, rfl, rfl, hR, rfl⟩ := hrel
          clear T1 T2 T3
          have HS1 := HS.out
          obtain ⟨a, ha⟩ : ∃ a, n + 0 + q = a := ⟨_, rfl⟩
          have HA := Lib.hid ha
          rw [ha] at hq hR ⊢
          clear ha
          by_cases hlt : a < s.size
          · obtain ⟨x, hx⟩ : ∃ x : UInt8, s[a] = x := ⟨_, rfl⟩
            have hd := dr_at hlt
            rw [hx] at hd
            have hz : (a : Int) < s.size := by omega
            have w1 : IntKind.i64.wrap ((a : Int) + 1) = a + 1 := by rw [IntKind.wrap_i64]; omega
            have DD : Hid (∀ W, Calls Try.prog 27 #[.int .u8 x.toNat, .int .u64 10] W fun e w' => e = .returned (.tuple #[.int .u64 (digV x), .bool (decide (digV x < 10))]) ∧ W = w') := Lib.hid fun W => digit_any x 10 (by omega) W
            have BB := Lib.hid fun W => body_any x W
            have HV := digV_le x
            rw [hd] at hR
            by_cases hdg : digV x < 10
            · rw [digs_yes hdg] at hR
              have hdt : decide (digV x < 10) = true := decide_eq_true hdg
              rw [hdt] at DD
              generalize digV x = d at *
              by_cases hov : (9223372036854775807 - d) / 10 < v
              · have R2 := Lib.hid (hR.over (by omega) HV hov)
                have u1 : IntKind.u64.wrap (9223372036854775807 - (d : Int)) = 9223372036854775807 - d := by rw [IntKind.wrap_u64]; omega
                clear hR hd hdg hdt
                go_wp2_with (first | (go_at_call 27; (with_reducible refine (DD.out _).mono ?_); rintro e w1 ⟨rfl, rfl⟩) | (go_at_call 19; (with_reducible refine (BB.out _).mono ?_); rintro e w1 ⟨rfl, rfl⟩))
                go_roundw
                case rel =>
                  have e : n + 0 + (q + 1) = a + 1 := by have := HA.out; omega
                  exact ⟨q + 1, v, true, true, by rw [e]; omega, by rw [e]; go_num, rfl, rfl, rfl, by rw [e]; exact R2.out, trivial⟩
                case measure => simp [intOf]; omega
              · have hmx := ov3 (b := 10) (by omega) HV hov
                have R2 := Lib.hid (hR.more (by omega) HV hov)
                have u1 : IntKind.u64.wrap (9223372036854775807 - (d : Int)) = 9223372036854775807 - d := by rw [IntKind.wrap_u64]; omega
                have u2 : IntKind.u64.wrap ((v : Int) * 10) = v * 10 := by rw [IntKind.wrap_u64]; omega
                have u3 : IntKind.u64.wrap ((v : Int) * 10 + d) = v * 10 + d := by rw [IntKind.wrap_u64]; omega
                clear hR hd hdg hdt hmx
                go_wp2_with (first | (go_at_call 27; (with_reducible refine (DD.out _).mono ?_); rintro e w1 ⟨rfl, rfl⟩) | (go_at_call 19; (with_reducible refine (BB.out _).mono ?_); rintro e w1 ⟨rfl, rfl⟩))
                go_roundw
                case rel =>
                  have e : n + 0 + (q + 1) = a + 1 := by have := HA.out; omega
                  exact ⟨q + 1, v * 10 + d, true, ov, by rw [e]; omega, by rw [e]; go_num, by congr 1, rfl, rfl, by rw [e]; exact R2.out, trivial⟩
                case measure => simp [intOf]; omega
            · rw [digs_no hdg] at hR
              obtain ⟨g1, g2, g3, g4⟩ := hR.end
              have hdt : decide (digV x < 10) = false := decide_eq_false hdg
              rw [hdt] at DD
              have hvm := hR.mx
              have NE2 := NE.out
              rw [← g1, show n + (0 + q) = a by have := HA.out; omega, hd, show stuck (x :: dr s (a + 1)) = (bodyB x || x == 35) from rfl] at NE2
              have e35 := eq8 x 35
              rw [show ((35 : UInt8).toNat : Int) = 35 from rfl] at e35
              have u4 : IntKind.i64.wrap (v : Int) = v := by rw [IntKind.wrap_i64]; omega
              obtain ⟨bb, hbb⟩ : ∃ t, bodyB x = t := ⟨_, rfl⟩
              obtain ⟨b35, hb35⟩ : ∃ t, (x == 35) = t := ⟨_, rfl⟩
              rw [hbb] at NE2 BB
              rw [hb35] at NE2 e35
              have G2 := g2
              clear hR hd hdg hdt hvm NE hbb hb35 g2
              cases hde : D.isEmpty
              · rw [hde] at NE2 G2
                cases bb
                · cases b35
                  · cases ov
                    · have g5 := g4 rfl
                      have g6 : ¬ 9223372036854775807 < val 10 D := of_decide_eq_false g3.symm
                      rw [if_neg (by simp), if_neg g6, ← g5] at NE2
                      have N2 := Lib.hid NE2
                      clear NE2 g1 g3 g4 hde g5 g6
                      simp only [Bool.not_false] at G2
                      subst G2
                      go_wp2_with (first | (go_at_call 27; (with_reducible refine (DD.out _).mono ?_); rintro e w1 ⟨rfl, rfl⟩) | (go_at_call 19; (with_reducible refine (BB.out _).mono ?_); rintro e w1 ⟨rfl, rfl⟩))
                      go_ret3
                      refine ⟨?_, rfl⟩
                      rw [N2.out]
                      exact congrArg (fun z : Int => Ending.returned (.tuple #[.int .i64 z, .int .i64 _, .int .i64 _])) (show (a : Int) = ((n + (0 + q) : Nat) : Int) by have := HA.out; omega)
                    · have g6 : 9223372036854775807 < val 10 D := of_decide_eq_true g3.symm
                      rw [if_neg (by simp), if_pos g6] at NE2
                      have N2 := Lib.hid NE2
                      clear NE2 g1 g3 g4 hde
                      simp only [Bool.not_false] at G2
                      subst G2
                      go_wp2_with (first | (go_at_call 27; (with_reducible refine (DD.out _).mono ?_); rintro e w1 ⟨rfl, rfl⟩) | (go_at_call 19; (with_reducible refine (BB.out _).mono ?_); rintro e w1 ⟨rfl, rfl⟩))
                      go_ret3
                      refine ⟨?_, rfl⟩
                      rw [N2.out]
                      exact congrArg (fun z : Int => Ending.returned (.tuple #[.int .i64 z, .int .i64 _, .int .i64 _])) (show (a : Int) = ((n + (0 + q) : Nat) : Int) by have := HA.out; omega)
                  · rw [if_pos (by simp)] at NE2
                    have N2 := Lib.hid NE2
                    clear NE2 g1 g3 g4 hde
                    simp only [Bool.not_false] at G2
                    subst G2
                    go_wp2_with (first | (go_at_call 27; (with_reducible refine (DD.out _).mono ?_); rintro e w1 ⟨rfl, rfl⟩) | (go_at_call 19; (with_reducible refine (BB.out _).mono ?_); rintro e w1 ⟨rfl, rfl⟩))
                    go_ret3
                    refine ⟨?_, rfl⟩
                    rw [N2.out]
                    exact congrArg (fun z : Int => Ending.returned (.tuple #[.int .i64 z, .int .i64 _, .int .i64 _])) (show (a : Int) = ((n + (0 + q) : Nat) : Int) by have := HA.out; omega)
                · rw [if_pos (by simp)] at NE2
                  have N2 := Lib.hid NE2
                  clear NE2 g1 g3 g4 hde
                  simp only [Bool.not_false] at G2
                  subst G2
                  go_wp2_with (first | (go_at_call 27; (with_reducible refine (DD.out _).mono ?_); rintro e w1 ⟨rfl, rfl⟩) | (go_at_call 19; (with_reducible refine (BB.out _).mono ?_); rintro e w1 ⟨rfl, rfl⟩))
                  go_ret3
                  refine ⟨?_, rfl⟩
                  rw [N2.out]
                  exact congrArg (fun z : Int => Ending.returned (.tuple #[.int .i64 z, .int .i64 _, .int .i64 _])) (show (a : Int) = ((n + (0 + q) : Nat) : Int) by have := HA.out; omega)
              · rw [hde, if_pos (by simp)] at NE2
                rw [hde] at G2
                have N2 := Lib.hid NE2
                clear NE2 g1 g3 g4 hde
                simp only [Bool.not_true] at G2
                subst G2
                go_wp2_with (first | (go_at_call 27; (with_reducible refine (DD.out _).mono ?_); rintro e w1 ⟨rfl, rfl⟩) | (go_at_call 19; (with_reducible refine (BB.out _).mono ?_); rintro e w1 ⟨rfl, rfl⟩))
                go_ret3
                refine ⟨?_, rfl⟩
                rw [N2.out]
                exact congrArg (fun z : Int => Ending.returned (.tuple #[.int .i64 z, .int .i64 _, .int .i64 _])) (show (a : Int) = ((n + (0 + q) : Nat) : Int) by have := HA.out; omega)
          · have hae : a = s.size := by omega
            have hz : ¬ ((a : Int) < s.size) := by omega
            rw [show dr s a = [] from dr_end (by omega), show digs 10 [] = [] from rfl] at hR
            obtain ⟨g1, g2, g3, g4⟩ := hR.end
            have hvm := hR.mx
            have NE2 := NE.out
            rw [← g1, show n + (0 + q) = a by have := HA.out; omega, show dr s a = [] from dr_end (by omega), show stuck [] = false from rfl] at NE2
            have u4 : IntKind.i64.wrap (v : Int) = v := by rw [IntKind.wrap_i64]; omega
            have G2 := g2
            clear hR hvm NE g2 hae hlt
            cases hde : D.isEmpty
            · rw [hde] at NE2 G2
              cases ov
              · have g5 := g4 rfl
                have g6 : ¬ 9223372036854775807 < val 10 D := of_decide_eq_false g3.symm
                rw [if_neg (by simp), if_neg g6, ← g5] at NE2
                have N2 := Lib.hid NE2
                clear NE2 g1 g3 g4 hde g5 g6
                simp only [Bool.not_false] at G2
                subst G2
                go_wp2_with (first | (go_at_call 27; (with_reducible refine (DD.out _).mono ?_); rintro e w1 ⟨rfl, rfl⟩) | (go_at_call 19; (with_reducible refine (BB.out _).mono ?_); rintro e w1 ⟨rfl, rfl⟩))
                go_ret3
                refine ⟨?_, rfl⟩
                rw [N2.out]
                exact congrArg (fun z : Int => Ending.returned (.tuple #[.int .i64 z, .int .i64 _, .int .i64 _])) (show (a : Int) = ((n + (0 + q) : Nat) : Int) by have := HA.out; omega)
              · have g6 : 9223372036854775807 < val 10 D := of_decide_eq_true g3.symm
                rw [if_neg (by simp), if_pos g6] at NE2
                have N2 := Lib.hid NE2
                clear NE2 g1 g3 g4 hde
                simp only [Bool.not_false] at G2
                subst G2
                go_wp2_with (first | (go_at_call 27; (with_reducible refine (DD.out _).mono ?_); rintro e w1 ⟨rfl, rfl⟩) | (go_at_call 19; (with_reducible refine (BB.out _).mono ?_); rintro e w1 ⟨rfl, rfl⟩))
                go_ret3
                refine ⟨?_, rfl⟩
                rw [N2.out]
                exact congrArg (fun z : Int => Ending.returned (.tuple #[.int .i64 z, .int .i64 _, .int .i64 _])) (show (a : Int) = ((n + (0 + q) : Nat) : Int) by have := HA.out; omega)
            · rw [hde, if_pos (by simp)] at NE2
              rw [hde] at G2
              have N2 := Lib.hid NE2
              clear NE2 g1 g3 g4 hde
              simp only [Bool.not_true] at G2
              subst G2
              go_wp2_with (first | (go_at_call 27; (with_reducible refine (DD.out _).mono ?_); rintro e w1 ⟨rfl, rfl⟩) | (go_at_call 19; (with_reducible refine (BB.out _).mono ?_); rintro e w1 ⟨rfl, rfl⟩))
              go_ret3
              refine ⟨?_, rfl⟩
              rw [N2.out]
              exact congrArg (fun z : Int => Ending.returned (.tuple #[.int .i64 z, .int .i64 _, .int .i64 _])) (show (a : Int) = ((n + (0 + q) : Nat) : Int) by have := HA.out; omega)
      · have h3 := two_len ht3
        by_cases h4 : n + 2 < s.size
        · obtain ⟨y, hy⟩ : ∃ y : UInt8, s[n + 2] = y := ⟨_, rfl⟩
          have h16 : two ((dr s n).drop 1) 54 35 = (y == 35) := by
            have hd0 := dr_at hn
            have hd1 := dr_at h3
            have hd2 := dr_at h4
            rw [hd0, hd1, two_cons] at ht3
            rw [dr_drop, hd1, hd2, two_cons, hy]
            rw [Bool.and_eq_true] at ht3
            rw [ht3.2]
            rfl
          have h5 : (n : Int) + 2 < s.size := by omega
          have e35y := eq8 y 35
          rw [show ((35 : UInt8).toNat : Int) = 35 from rfl] at e35y
          obtain ⟨t4, ht4⟩ : ∃ t, (y == 35) = t := ⟨_, rfl⟩
          rw [ht4] at h16 e35y
          cases t4
          · have h2 := hn
            have HBO : Hid (baseOf (dr s n) = (10, 0)) := Lib.hid (by unfold baseOf; rw [ht1, if_neg (by simp), ht2, if_neg (by simp), ht3, h16, if_neg (by simp)])
            have hm : n + 0 ≤ s.size := by omega
            obtain ⟨D, hD⟩ : ∃ D, digs 10 (dr s (n + 0)) = D := ⟨_, rfl⟩
            have HD := Lib.hid hD
            have NE := Lib.hid (num_eq (dr s n) 10 0 D HBO.out (by rw [dr_drop]; exact hD))
            rw [dr_drop] at NE
            have HM := Lib.hid hm
            clear hD ht1 ht2 ht3 TW
            go_enter Try.func21, Try.ntmps21
            go_upto_region 10 with (first | (go_at_call 26; (with_reducible refine (T1.out _).mono ?_); rintro e w1 ⟨rfl, rfl⟩) | (go_at_call 26; (with_reducible refine (T2.out _).mono ?_); rintro e w1 ⟨rfl, rfl⟩) | (go_at_call 26; (with_reducible refine (T3.out _).mono ?_); rintro e w1 ⟨rfl, rfl⟩))
            clear w2 w3 hz0
            go_loopw [1, 8, 9, 10] (fun s1 s8 s9 s10 wr => ∃ (q v : Nat) (so ov : Bool), n + 0 + q ≤ s.size ∧ s1 = .int .i64 ((n + 0 + q : Nat) : Int) ∧ s8 = .int .u64 v ∧ s9 = .bool so ∧ s10 = .bool ov ∧ Rd1 10 D (digs 10 (dr s (n + 0 + q))) q v so ov ∧ w = wr) (fun i _ _ _ _ => s.size - (intOf i).toNat)
            case atStart => exact ⟨0, 0, false, false, hm, by simp, rfl, rfl, rfl, HD.out ▸ Rd1.start 10 _, rfl⟩
            case round =>
              obtain ⟨q, v, so, ov, hq, rfl, rfl, rfl, rfl, hR, rfl⟩ := hrel
              clear T1 T2 T3
              have HS1 := HS.out
              obtain ⟨a, ha⟩ : ∃ a, n + 0 + q = a := ⟨_, rfl⟩
              have HA := Lib.hid ha
              rw [ha] at hq hR ⊢
              clear ha
              by_cases hlt : a < s.size
              · obtain ⟨x, hx⟩ : ∃ x : UInt8, s[a] = x := ⟨_, rfl⟩
                have hd := dr_at hlt
                rw [hx] at hd
                have hz : (a : Int) < s.size := by omega
                have w1 : IntKind.i64.wrap ((a : Int) + 1) = a + 1 := by rw [IntKind.wrap_i64]; omega
                have DD : Hid (∀ W, Calls Try.prog 27 #[.int .u8 x.toNat, .int .u64 10] W fun e w' => e = .returned (.tuple #[.int .u64 (digV x), .bool (decide (digV x < 10))]) ∧ W = w') := Lib.hid fun W => digit_any x 10 (by omega) W
                have BB := Lib.hid fun W => body_any x W
                have HV := digV_le x
                rw [hd] at hR
                by_cases hdg : digV x < 10
                · rw [digs_yes hdg] at hR
                  have hdt : decide (digV x < 10) = true := decide_eq_true hdg
                  rw [hdt] at DD
                  generalize digV x = d at *
                  by_cases hov : (9223372036854775807 - d) / 10 < v
                  · have R2 := Lib.hid (hR.over (by omega) HV hov)
                    have u1 : IntKind.u64.wrap (9223372036854775807 - (d : Int)) = 9223372036854775807 - d := by rw [IntKind.wrap_u64]; omega
                    clear hR hd hdg hdt
                    go_wp2_with (first | (go_at_call 27; (with_reducible refine (DD.out _).mono ?_); rintro e w1 ⟨rfl, rfl⟩) | (go_at_call 19; (with_reducible refine (BB.out _).mono ?_); rintro e w1 ⟨rfl, rfl⟩))
                    go_roundw
                    case rel =>
                      have e : n + 0 + (q + 1) = a + 1 := by have := HA.out; omega
                      exact ⟨q + 1, v, true, true, by rw [e]; omega, by rw [e]; go_num, rfl, rfl, rfl, by rw [e]; exact R2.out, trivial⟩
                    case measure => simp [intOf]; omega
                  · have hmx := ov3 (b := 10) (by omega) HV hov
                    have R2 := Lib.hid (hR.more (by omega) HV hov)
                    have u1 : IntKind.u64.wrap (9223372036854775807 - (d : Int)) = 9223372036854775807 - d := by rw [IntKind.wrap_u64]; omega
                    have u2 : IntKind.u64.wrap ((v : Int) * 10) = v * 10 := by rw [IntKind.wrap_u64]; omega
                    have u3 : IntKind.u64.wrap ((v : Int) * 10 + d) = v * 10 + d := by rw [IntKind.wrap_u64]; omega
                    clear hR hd hdg hdt hmx
                    go_wp2_with (first | (go_at_call 27; (with_reducible refine (DD.out _).mono ?_); rintro e w1 ⟨rfl, rfl⟩) | (go_at_call 19; (with_reducible refine (BB.out _).mono ?_); rintro e w1 ⟨rfl, rfl⟩))
                    go_roundw
                    case rel =>
                      have e : n + 0 + (q + 1) = a + 1 := by have := HA.out; omega
                      exact ⟨q + 1, v * 10 + d, true, ov, by rw [e]; omega, by rw [e]; go_num, by congr 1, rfl, rfl, by rw [e]; exact R2.out, trivial⟩
                    case measure => simp [intOf]; omega
                · rw [digs_no hdg] at hR
                  obtain ⟨g1, g2, g3, g4⟩ := hR.end
                  have hdt : decide (digV x < 10) = false := decide_eq_false hdg
                  rw [hdt] at DD
                  have hvm := hR.mx
                  have NE2 := NE.out
                  rw [← g1, show n + (0 + q) = a by have := HA.out; omega, hd, show stuck (x :: dr s (a + 1)) = (bodyB x || x == 35) from rfl] at NE2
                  have e35 := eq8 x 35
                  rw [show ((35 : UInt8).toNat : Int) = 35 from rfl] at e35
                  have u4 : IntKind.i64.wrap (v : Int) = v := by rw [IntKind.wrap_i64]; omega
                  obtain ⟨bb, hbb⟩ : ∃ t, bodyB x = t := ⟨_, rfl⟩
                  obtain ⟨b35, hb35⟩ : ∃ t, (x == 35) = t := ⟨_, rfl⟩
                  rw [hbb] at NE2 BB
                  rw [hb35] at NE2 e35
                  have G2 := g2
                  clear hR hd hdg hdt hvm NE hbb hb35 g2
                  cases hde : D.isEmpty
                  · rw [hde] at NE2 G2
                    cases bb
                    · cases b35
                      · cases ov
                        · have g5 := g4 rfl
                          have g6 : ¬ 9223372036854775807 < val 10 D := of_decide_eq_false g3.symm
                          rw [if_neg (by simp), if_neg g6, ← g5] at NE2
                          have N2 := Lib.hid NE2
                          clear NE2 g1 g3 g4 hde g5 g6
                          simp only [Bool.not_false] at G2
                          subst G2
                          go_wp2_with (first | (go_at_call 27; (with_reducible refine (DD.out _).mono ?_); rintro e w1 ⟨rfl, rfl⟩) | (go_at_call 19; (with_reducible refine (BB.out _).mono ?_); rintro e w1 ⟨rfl, rfl⟩))
                          go_ret3
                          refine ⟨?_, rfl⟩
                          rw [N2.out]
                          exact congrArg (fun z : Int => Ending.returned (.tuple #[.int .i64 z, .int .i64 _, .int .i64 _])) (show (a : Int) = ((n + (0 + q) : Nat) : Int) by have := HA.out; omega)
                        · have g6 : 9223372036854775807 < val 10 D := of_decide_eq_true g3.symm
                          rw [if_neg (by simp), if_pos g6] at NE2
                          have N2 := Lib.hid NE2
                          clear NE2 g1 g3 g4 hde
                          simp only [Bool.not_false] at G2
                          subst G2
                          go_wp2_with (first | (go_at_call 27; (with_reducible refine (DD.out _).mono ?_); rintro e w1 ⟨rfl, rfl⟩) | (go_at_call 19; (with_reducible refine (BB.out _).mono ?_); rintro e w1 ⟨rfl, rfl⟩))
                          go_ret3
                          refine ⟨?_, rfl⟩
                          rw [N2.out]
                          exact congrArg (fun z : Int => Ending.returned (.tuple #[.int .i64 z, .int .i64 _, .int .i64 _])) (show (a : Int) = ((n + (0 + q) : Nat) : Int) by have := HA.out; omega)
                      · rw [if_pos (by simp)] at NE2
                        have N2 := Lib.hid NE2
                        clear NE2 g1 g3 g4 hde
                        simp only [Bool.not_false] at G2
                        subst G2
                        go_wp2_with (first | (go_at_call 27; (with_reducible refine (DD.out _).mono ?_); rintro e w1 ⟨rfl, rfl⟩) | (go_at_call 19; (with_reducible refine (BB.out _).mono ?_); rintro e w1 ⟨rfl, rfl⟩))
                        go_ret3
                        refine ⟨?_, rfl⟩
                        rw [N2.out]
                        exact congrArg (fun z : Int => Ending.returned (.tuple #[.int .i64 z, .int .i64 _, .int .i64 _])) (show (a : Int) = ((n + (0 + q) : Nat) : Int) by have := HA.out; omega)
                    · rw [if_pos (by simp)] at NE2
                      have N2 := Lib.hid NE2
                      clear NE2 g1 g3 g4 hde
                      simp only [Bool.not_false] at G2
                      subst G2
                      go_wp2_with (first | (go_at_call 27; (with_reducible refine (DD.out _).mono ?_); rintro e w1 ⟨rfl, rfl⟩) | (go_at_call 19; (with_reducible refine (BB.out _).mono ?_); rintro e w1 ⟨rfl, rfl⟩))
                      go_ret3
                      refine ⟨?_, rfl⟩
                      rw [N2.out]
                      exact congrArg (fun z : Int => Ending.returned (.tuple #[.int .i64 z, .int .i64 _, .int .i64 _])) (show (a : Int) = ((n + (0 + q) : Nat) : Int) by have := HA.out; omega)
                  · rw [hde, if_pos (by simp)] at NE2
                    rw [hde] at G2
                    have N2 := Lib.hid NE2
                    clear NE2 g1 g3 g4 hde
                    simp only [Bool.not_true] at G2
                    subst G2
                    go_wp2_with (first | (go_at_call 27; (with_reducible refine (DD.out _).mono ?_); rintro e w1 ⟨rfl, rfl⟩) | (go_at_call 19; (with_reducible refine (BB.out _).mono ?_); rintro e w1 ⟨rfl, rfl⟩))
                    go_ret3
                    refine ⟨?_, rfl⟩
                    rw [N2.out]
                    exact congrArg (fun z : Int => Ending.returned (.tuple #[.int .i64 z, .int .i64 _, .int .i64 _])) (show (a : Int) = ((n + (0 + q) : Nat) : Int) by have := HA.out; omega)
              · have hae : a = s.size := by omega
                have hz : ¬ ((a : Int) < s.size) := by omega
                rw [show dr s a = [] from dr_end (by omega), show digs 10 [] = [] from rfl] at hR
                obtain ⟨g1, g2, g3, g4⟩ := hR.end
                have hvm := hR.mx
                have NE2 := NE.out
                rw [← g1, show n + (0 + q) = a by have := HA.out; omega, show dr s a = [] from dr_end (by omega), show stuck [] = false from rfl] at NE2
                have u4 : IntKind.i64.wrap (v : Int) = v := by rw [IntKind.wrap_i64]; omega
                have G2 := g2
                clear hR hvm NE g2 hae hlt
                cases hde : D.isEmpty
                · rw [hde] at NE2 G2
                  cases ov
                  · have g5 := g4 rfl
                    have g6 : ¬ 9223372036854775807 < val 10 D := of_decide_eq_false g3.symm
                    rw [if_neg (by simp), if_neg g6, ← g5] at NE2
                    have N2 := Lib.hid NE2
                    clear NE2 g1 g3 g4 hde g5 g6
                    simp only [Bool.not_false] at G2
                    subst G2
                    go_wp2_with (first | (go_at_call 27; (with_reducible refine (DD.out _).mono ?_); rintro e w1 ⟨rfl, rfl⟩) | (go_at_call 19; (with_reducible refine (BB.out _).mono ?_); rintro e w1 ⟨rfl, rfl⟩))
                    go_ret3
                    refine ⟨?_, rfl⟩
                    rw [N2.out]
                    exact congrArg (fun z : Int => Ending.returned (.tuple #[.int .i64 z, .int .i64 _, .int .i64 _])) (show (a : Int) = ((n + (0 + q) : Nat) : Int) by have := HA.out; omega)
                  · have g6 : 9223372036854775807 < val 10 D := of_decide_eq_true g3.symm
                    rw [if_neg (by simp), if_pos g6] at NE2
                    have N2 := Lib.hid NE2
                    clear NE2 g1 g3 g4 hde
                    simp only [Bool.not_false] at G2
                    subst G2
                    go_wp2_with (first | (go_at_call 27; (with_reducible refine (DD.out _).mono ?_); rintro e w1 ⟨rfl, rfl⟩) | (go_at_call 19; (with_reducible refine (BB.out _).mono ?_); rintro e w1 ⟨rfl, rfl⟩))
                    go_ret3
                    refine ⟨?_, rfl⟩
                    rw [N2.out]
                    exact congrArg (fun z : Int => Ending.returned (.tuple #[.int .i64 z, .int .i64 _, .int .i64 _])) (show (a : Int) = ((n + (0 + q) : Nat) : Int) by have := HA.out; omega)
                · rw [hde, if_pos (by simp)] at NE2
                  rw [hde] at G2
                  have N2 := Lib.hid NE2
                  clear NE2 g1 g3 g4 hde
                  simp only [Bool.not_true] at G2
                  subst G2
                  go_wp2_with (first | (go_at_call 27; (with_reducible refine (DD.out _).mono ?_); rintro e w1 ⟨rfl, rfl⟩) | (go_at_call 19; (with_reducible refine (BB.out _).mono ?_); rintro e w1 ⟨rfl, rfl⟩))
                  go_ret3
                  refine ⟨?_, rfl⟩
                  rw [N2.out]
                  exact congrArg (fun z : Int => Ending.returned (.tuple #[.int .i64 z, .int .i64 _, .int .i64 _])) (show (a : Int) = ((n + (0 + q) : Nat) : Int) by have := HA.out; omega)
          · have h2 := h4
            have HBO : Hid (baseOf (dr s n) = (16, 3)) := Lib.hid (by unfold baseOf; rw [ht1, if_neg (by simp), ht2, if_neg (by simp), ht3, h16, if_pos (by simp)])
            have hm : n + 3 ≤ s.size := by omega
            obtain ⟨D, hD⟩ : ∃ D, digs 16 (dr s (n + 3)) = D := ⟨_, rfl⟩
            have HD := Lib.hid hD
            have NE := Lib.hid (num_eq (dr s n) 16 3 D HBO.out (by rw [dr_drop]; exact hD))
            rw [dr_drop] at NE
            have HM := Lib.hid hm
            clear hD ht1 ht2 ht3 TW
            go_enter Try.func21, Try.ntmps21
            go_upto_region 10 with (first | (go_at_call 26; (with_reducible refine (T1.out _).mono ?_); rintro e w1 ⟨rfl, rfl⟩) | (go_at_call 26; (with_reducible refine (T2.out _).mono ?_); rintro e w1 ⟨rfl, rfl⟩) | (go_at_call 26; (with_reducible refine (T3.out _).mono ?_); rintro e w1 ⟨rfl, rfl⟩))
            clear w2 w3 hz0
            go_loopw [1, 8, 9, 10] (fun s1 s8 s9 s10 wr => ∃ (q v : Nat) (so ov : Bool), n + 3 + q ≤ s.size ∧ s1 = .int .i64 ((n + 3 + q : Nat) : Int) ∧ s8 = .int .u64 v ∧ s9 = .bool so ∧ s10 = .bool ov ∧ Rd1 16 D (digs 16 (dr s (n + 3 + q))) q v so ov ∧ w = wr) (fun i _ _ _ _ => s.size - (intOf i).toNat)
            case atStart => exact ⟨0, 0, false, false, hm, by simp, rfl, rfl, rfl, HD.out ▸ Rd1.start 16 _, rfl⟩
            case round =>
              obtain ⟨q, v, so, ov, hq, rfl, rfl, rfl, rfl, hR, rfl⟩ := hrel
              clear T1 T2 T3
              have HS1 := HS.out
              obtain ⟨a, ha⟩ : ∃ a, n + 3 + q = a := ⟨_, rfl⟩
              have HA := Lib.hid ha
              rw [ha] at hq hR ⊢
              clear ha
              by_cases hlt : a < s.size
              · obtain ⟨x, hx⟩ : ∃ x : UInt8, s[a] = x := ⟨_, rfl⟩
                have hd := dr_at hlt
                rw [hx] at hd
                have hz : (a : Int) < s.size := by omega
                have w1 : IntKind.i64.wrap ((a : Int) + 1) = a + 1 := by rw [IntKind.wrap_i64]; omega
                have DD : Hid (∀ W, Calls Try.prog 27 #[.int .u8 x.toNat, .int .u64 16] W fun e w' => e = .returned (.tuple #[.int .u64 (digV x), .bool (decide (digV x < 16))]) ∧ W = w') := Lib.hid fun W => digit_any x 16 (by omega) W
                have BB := Lib.hid fun W => body_any x W
                have HV := digV_le x
                rw [hd] at hR
                by_cases hdg : digV x < 16
                · rw [digs_yes hdg] at hR
                  have hdt : decide (digV x < 16) = true := decide_eq_true hdg
                  rw [hdt] at DD
                  generalize digV x = d at *
                  by_cases hov : (9223372036854775807 - d) / 16 < v
                  · have R2 := Lib.hid (hR.over (by omega) HV hov)
                    have u1 : IntKind.u64.wrap (9223372036854775807 - (d : Int)) = 9223372036854775807 - d := by rw [IntKind.wrap_u64]; omega
                    clear hR hd hdg hdt
                    go_wp2_with (first | (go_at_call 27; (with_reducible refine (DD.out _).mono ?_); rintro e w1 ⟨rfl, rfl⟩) | (go_at_call 19; (with_reducible refine (BB.out _).mono ?_); rintro e w1 ⟨rfl, rfl⟩))
                    go_roundw
                    case rel =>
                      have e : n + 3 + (q + 1) = a + 1 := by have := HA.out; omega
                      exact ⟨q + 1, v, true, true, by rw [e]; omega, by rw [e]; go_num, rfl, rfl, rfl, by rw [e]; exact R2.out, trivial⟩
                    case measure => simp [intOf]; omega
                  · have hmx := ov3 (b := 16) (by omega) HV hov
                    have R2 := Lib.hid (hR.more (by omega) HV hov)
                    have u1 : IntKind.u64.wrap (9223372036854775807 - (d : Int)) = 9223372036854775807 - d := by rw [IntKind.wrap_u64]; omega
                    have u2 : IntKind.u64.wrap ((v : Int) * 16) = v * 16 := by rw [IntKind.wrap_u64]; omega
                    have u3 : IntKind.u64.wrap ((v : Int) * 16 + d) = v * 16 + d := by rw [IntKind.wrap_u64]; omega
                    clear hR hd hdg hdt hmx
                    go_wp2_with (first | (go_at_call 27; (with_reducible refine (DD.out _).mono ?_); rintro e w1 ⟨rfl, rfl⟩) | (go_at_call 19; (with_reducible refine (BB.out _).mono ?_); rintro e w1 ⟨rfl, rfl⟩))
                    go_roundw
                    case rel =>
                      have e : n + 3 + (q + 1) = a + 1 := by have := HA.out; omega
                      exact ⟨q + 1, v * 16 + d, true, ov, by rw [e]; omega, by rw [e]; go_num, by congr 1, rfl, rfl, by rw [e]; exact R2.out, trivial⟩
                    case measure => simp [intOf]; omega
                · rw [digs_no hdg] at hR
                  obtain ⟨g1, g2, g3, g4⟩ := hR.end
                  have hdt : decide (digV x < 16) = false := decide_eq_false hdg
                  rw [hdt] at DD
                  have hvm := hR.mx
                  have NE2 := NE.out
                  rw [← g1, show n + (3 + q) = a by have := HA.out; omega, hd, show stuck (x :: dr s (a + 1)) = (bodyB x || x == 35) from rfl] at NE2
                  have e35 := eq8 x 35
                  rw [show ((35 : UInt8).toNat : Int) = 35 from rfl] at e35
                  have u4 : IntKind.i64.wrap (v : Int) = v := by rw [IntKind.wrap_i64]; omega
                  obtain ⟨bb, hbb⟩ : ∃ t, bodyB x = t := ⟨_, rfl⟩
                  obtain ⟨b35, hb35⟩ : ∃ t, (x == 35) = t := ⟨_, rfl⟩
                  rw [hbb] at NE2 BB
                  rw [hb35] at NE2 e35
                  have G2 := g2
                  clear hR hd hdg hdt hvm NE hbb hb35 g2
                  cases hde : D.isEmpty
                  · rw [hde] at NE2 G2
                    cases bb
                    · cases b35
                      · cases ov
                        · have g5 := g4 rfl
                          have g6 : ¬ 9223372036854775807 < val 16 D := of_decide_eq_false g3.symm
                          rw [if_neg (by simp), if_neg g6, ← g5] at NE2
                          have N2 := Lib.hid NE2
                          clear NE2 g1 g3 g4 hde g5 g6
                          simp only [Bool.not_false] at G2
                          subst G2
                          go_wp2_with (first | (go_at_call 27; (with_reducible refine (DD.out _).mono ?_); rintro e w1 ⟨rfl, rfl⟩) | (go_at_call 19; (with_reducible refine (BB.out _).mono ?_); rintro e w1 ⟨rfl, rfl⟩))
                          go_ret3
                          refine ⟨?_, rfl⟩
                          rw [N2.out]
                          exact congrArg (fun z : Int => Ending.returned (.tuple #[.int .i64 z, .int .i64 _, .int .i64 _])) (show (a : Int) = ((n + (3 + q) : Nat) : Int) by have := HA.out; omega)
                        · have g6 : 9223372036854775807 < val 16 D := of_decide_eq_true g3.symm
                          rw [if_neg (by simp), if_pos g6] at NE2
                          have N2 := Lib.hid NE2
                          clear NE2 g1 g3 g4 hde
                          simp only [Bool.not_false] at G2
                          subst G2
                          go_wp2_with (first | (go_at_call 27; (with_reducible refine (DD.out _).mono ?_); rintro e w1 ⟨rfl, rfl⟩) | (go_at_call 19; (with_reducible refine (BB.out _).mono ?_); rintro e w1 ⟨rfl, rfl⟩))
                          go_ret3
                          refine ⟨?_, rfl⟩
                          rw [N2.out]
                          exact congrArg (fun z : Int => Ending.returned (.tuple #[.int .i64 z, .int .i64 _, .int .i64 _])) (show (a : Int) = ((n + (3 + q) : Nat) : Int) by have := HA.out; omega)
                      · rw [if_pos (by simp)] at NE2
                        have N2 := Lib.hid NE2
                        clear NE2 g1 g3 g4 hde
                        simp only [Bool.not_false] at G2
                        subst G2
                        go_wp2_with (first | (go_at_call 27; (with_reducible refine (DD.out _).mono ?_); rintro e w1 ⟨rfl, rfl⟩) | (go_at_call 19; (with_reducible refine (BB.out _).mono ?_); rintro e w1 ⟨rfl, rfl⟩))
                        go_ret3
                        refine ⟨?_, rfl⟩
                        rw [N2.out]
                        exact congrArg (fun z : Int => Ending.returned (.tuple #[.int .i64 z, .int .i64 _, .int .i64 _])) (show (a : Int) = ((n + (3 + q) : Nat) : Int) by have := HA.out; omega)
                    · rw [if_pos (by simp)] at NE2
                      have N2 := Lib.hid NE2
                      clear NE2 g1 g3 g4 hde
                      simp only [Bool.not_false] at G2
                      subst G2
                      go_wp2_with (first | (go_at_call 27; (with_reducible refine (DD.out _).mono ?_); rintro e w1 ⟨rfl, rfl⟩) | (go_at_call 19; (with_reducible refine (BB.out _).mono ?_); rintro e w1 ⟨rfl, rfl⟩))
                      go_ret3
                      refine ⟨?_, rfl⟩
                      rw [N2.out]
                      exact congrArg (fun z : Int => Ending.returned (.tuple #[.int .i64 z, .int .i64 _, .int .i64 _])) (show (a : Int) = ((n + (3 + q) : Nat) : Int) by have := HA.out; omega)
                  · rw [hde, if_pos (by simp)] at NE2
                    rw [hde] at G2
                    have N2 := Lib.hid NE2
                    clear NE2 g1 g3 g4 hde
                    simp only [Bool.not_true] at G2
                    subst G2
                    go_wp2_with (first | (go_at_call 27; (with_reducible refine (DD.out _).mono ?_); rintro e w1 ⟨rfl, rfl⟩) | (go_at_call 19; (with_reducible refine (BB.out _).mono ?_); rintro e w1 ⟨rfl, rfl⟩))
                    go_ret3
                    refine ⟨?_, rfl⟩
                    rw [N2.out]
                    exact congrArg (fun z : Int => Ending.returned (.tuple #[.int .i64 z, .int .i64 _, .int .i64 _])) (show (a : Int) = ((n + (3 + q) : Nat) : Int) by have := HA.out; omega)
              · have hae : a = s.size := by omega
                have hz : ¬ ((a : Int) < s.size) := by omega
                rw [show dr s a = [] from dr_end (by omega), show digs 16 [] = [] from rfl] at hR
                obtain ⟨g1, g2, g3, g4⟩ := hR.end
                have hvm := hR.mx
                have NE2 := NE.out
                rw [← g1, show n + (3 + q) = a by have := HA.out; omega, show dr s a = [] from dr_end (by omega), show stuck [] = false from rfl] at NE2
                have u4 : IntKind.i64.wrap (v : Int) = v := by rw [IntKind.wrap_i64]; omega
                have G2 := g2
                clear hR hvm NE g2 hae hlt
                cases hde : D.isEmpty
                · rw [hde] at NE2 G2
                  cases ov
                  · have g5 := g4 rfl
                    have g6 : ¬ 9223372036854775807 < val 16 D := of_decide_eq_false g3.symm
                    rw [if_neg (by simp), if_neg g6, ← g5] at NE2
                    have N2 := Lib.hid NE2
                    clear NE2 g1 g3 g4 hde g5 g6
                    simp only [Bool.not_false] at G2
                    subst G2
                    go_wp2_with (first | (go_at_call 27; (with_reducible refine (DD.out _).mono ?_); rintro e w1 ⟨rfl, rfl⟩) | (go_at_call 19; (with_reducible refine (BB.out _).mono ?_); rintro e w1 ⟨rfl, rfl⟩))
                    go_ret3
                    refine ⟨?_, rfl⟩
                    rw [N2.out]
                    exact congrArg (fun z : Int => Ending.returned (.tuple #[.int .i64 z, .int .i64 _, .int .i64 _])) (show (a : Int) = ((n + (3 + q) : Nat) : Int) by have := HA.out; omega)
                  · have g6 : 9223372036854775807 < val 16 D := of_decide_eq_true g3.symm
                    rw [if_neg (by simp), if_pos g6] at NE2
                    have N2 := Lib.hid NE2
                    clear NE2 g1 g3 g4 hde
                    simp only [Bool.not_false] at G2
                    subst G2
                    go_wp2_with (first | (go_at_call 27; (with_reducible refine (DD.out _).mono ?_); rintro e w1 ⟨rfl, rfl⟩) | (go_at_call 19; (with_reducible refine (BB.out _).mono ?_); rintro e w1 ⟨rfl, rfl⟩))
                    go_ret3
                    refine ⟨?_, rfl⟩
                    rw [N2.out]
                    exact congrArg (fun z : Int => Ending.returned (.tuple #[.int .i64 z, .int .i64 _, .int .i64 _])) (show (a : Int) = ((n + (3 + q) : Nat) : Int) by have := HA.out; omega)
                · rw [hde, if_pos (by simp)] at NE2
                  rw [hde] at G2
                  have N2 := Lib.hid NE2
                  clear NE2 g1 g3 g4 hde
                  simp only [Bool.not_true] at G2
                  subst G2
                  go_wp2_with (first | (go_at_call 27; (with_reducible refine (DD.out _).mono ?_); rintro e w1 ⟨rfl, rfl⟩) | (go_at_call 19; (with_reducible refine (BB.out _).mono ?_); rintro e w1 ⟨rfl, rfl⟩))
                  go_ret3
                  refine ⟨?_, rfl⟩
                  rw [N2.out]
                  exact congrArg (fun z : Int => Ending.returned (.tuple #[.int .i64 z, .int .i64 _, .int .i64 _])) (show (a : Int) = ((n + (3 + q) : Nat) : Int) by have := HA.out; omega)
        · have h16 : two ((dr s n).drop 1) 54 35 = false := by
            cases hq : two ((dr s n).drop 1) 54 35
            · rfl
            · rw [dr_drop] at hq
              exact absurd (two_len hq) (by omega)
          have h5 : ¬ ((n : Int) + 2 < s.size) := by omega
          have h2 := hn
          have HBO : Hid (baseOf (dr s n) = (10, 0)) := Lib.hid (by unfold baseOf; rw [ht1, if_neg (by simp), ht2, if_neg (by simp), ht3, h16, if_neg (by simp)])
          have hm : n + 0 ≤ s.size := by omega
          obtain ⟨D, hD⟩ : ∃ D, digs 10 (dr s (n + 0)) = D := ⟨_, rfl⟩
          have HD := Lib.hid hD
          have NE := Lib.hid (num_eq (dr s n) 10 0 D HBO.out (by rw [dr_drop]; exact hD))
          rw [dr_drop] at NE
          have HM := Lib.hid hm
          clear hD ht1 ht2 ht3 TW
          go_enter Try.func21, Try.ntmps21
          go_upto_region 10 with (first | (go_at_call 26; (with_reducible refine (T1.out _).mono ?_); rintro e w1 ⟨rfl, rfl⟩) | (go_at_call 26; (with_reducible refine (T2.out _).mono ?_); rintro e w1 ⟨rfl, rfl⟩) | (go_at_call 26; (with_reducible refine (T3.out _).mono ?_); rintro e w1 ⟨rfl, rfl⟩))
          clear w2 w3 hz0
          go_loopw [1, 8, 9, 10] (fun s1 s8 s9 s10 wr => ∃ (q v : Nat) (so ov : Bool), n + 0 + q ≤ s.size ∧ s1 = .int .i64 ((n + 0 + q : Nat) : Int) ∧ s8 = .int .u64 v ∧ s9 = .bool so ∧ s10 = .bool ov ∧ Rd1 10 D (digs 10 (dr s (n + 0 + q))) q v so ov ∧ w = wr) (fun i _ _ _ _ => s.size - (intOf i).toNat)
          case atStart => exact ⟨0, 0, false, false, hm, by simp, rfl, rfl, rfl, HD.out ▸ Rd1.start 10 _, rfl⟩
          case round =>
            obtain ⟨q, v, so, ov, hq, rfl, rfl, rfl, rfl, hR, rfl⟩ := hrel
            clear T1 T2 T3
            have HS1 := HS.out
            obtain ⟨a, ha⟩ : ∃ a, n + 0 + q = a := ⟨_, rfl⟩
            have HA := Lib.hid ha
            rw [ha] at hq hR ⊢
            clear ha
            by_cases hlt : a < s.size
            · obtain ⟨x, hx⟩ : ∃ x : UInt8, s[a] = x := ⟨_, rfl⟩
              have hd := dr_at hlt
              rw [hx] at hd
              have hz : (a : Int) < s.size := by omega
              have w1 : IntKind.i64.wrap ((a : Int) + 1) = a + 1 := by rw [IntKind.wrap_i64]; omega
              have DD : Hid (∀ W, Calls Try.prog 27 #[.int .u8 x.toNat, .int .u64 10] W fun e w' => e = .returned (.tuple #[.int .u64 (digV x), .bool (decide (digV x < 10))]) ∧ W = w') := Lib.hid fun W => digit_any x 10 (by omega) W
              have BB := Lib.hid fun W => body_any x W
              have HV := digV_le x
              rw [hd] at hR
              by_cases hdg : digV x < 10
              · rw [digs_yes hdg] at hR
                have hdt : decide (digV x < 10) = true := decide_eq_true hdg
                rw [hdt] at DD
                generalize digV x = d at *
                by_cases hov : (9223372036854775807 - d) / 10 < v
                · have R2 := Lib.hid (hR.over (by omega) HV hov)
                  have u1 : IntKind.u64.wrap (9223372036854775807 - (d : Int)) = 9223372036854775807 - d := by rw [IntKind.wrap_u64]; omega
                  clear hR hd hdg hdt
                  go_wp2_with (first | (go_at_call 27; (with_reducible refine (DD.out _).mono ?_); rintro e w1 ⟨rfl, rfl⟩) | (go_at_call 19; (with_reducible refine (BB.out _).mono ?_); rintro e w1 ⟨rfl, rfl⟩))
                  go_roundw
                  case rel =>
                    have e : n + 0 + (q + 1) = a + 1 := by have := HA.out; omega
                    exact ⟨q + 1, v, true, true, by rw [e]; omega, by rw [e]; go_num, rfl, rfl, rfl, by rw [e]; exact R2.out, trivial⟩
                  case measure => simp [intOf]; omega
                · have hmx := ov3 (b := 10) (by omega) HV hov
                  have R2 := Lib.hid (hR.more (by omega) HV hov)
                  have u1 : IntKind.u64.wrap (9223372036854775807 - (d : Int)) = 9223372036854775807 - d := by rw [IntKind.wrap_u64]; omega
                  have u2 : IntKind.u64.wrap ((v : Int) * 10) = v * 10 := by rw [IntKind.wrap_u64]; omega
                  have u3 : IntKind.u64.wrap ((v : Int) * 10 + d) = v * 10 + d := by rw [IntKind.wrap_u64]; omega
                  clear hR hd hdg hdt hmx
                  go_wp2_with (first | (go_at_call 27; (with_reducible refine (DD.out _).mono ?_); rintro e w1 ⟨rfl, rfl⟩) | (go_at_call 19; (with_reducible refine (BB.out _).mono ?_); rintro e w1 ⟨rfl, rfl⟩))
                  go_roundw
                  case rel =>
                    have e : n + 0 + (q + 1) = a + 1 := by have := HA.out; omega
                    exact ⟨q + 1, v * 10 + d, true, ov, by rw [e]; omega, by rw [e]; go_num, by congr 1, rfl, rfl, by rw [e]; exact R2.out, trivial⟩
                  case measure => simp [intOf]; omega
              · rw [digs_no hdg] at hR
                obtain ⟨g1, g2, g3, g4⟩ := hR.end
                have hdt : decide (digV x < 10) = false := decide_eq_false hdg
                rw [hdt] at DD
                have hvm := hR.mx
                have NE2 := NE.out
                rw [← g1, show n + (0 + q) = a by have := HA.out; omega, hd, show stuck (x :: dr s (a + 1)) = (bodyB x || x == 35) from rfl] at NE2
                have e35 := eq8 x 35
                rw [show ((35 : UInt8).toNat : Int) = 35 from rfl] at e35
                have u4 : IntKind.i64.wrap (v : Int) = v := by rw [IntKind.wrap_i64]; omega
                obtain ⟨bb, hbb⟩ : ∃ t, bodyB x = t := ⟨_, rfl⟩
                obtain ⟨b35, hb35⟩ : ∃ t, (x == 35) = t := ⟨_, rfl⟩
                rw [hbb] at NE2 BB
                rw [hb35] at NE2 e35
                have G2 := g2
                clear hR hd hdg hdt hvm NE hbb hb35 g2
                cases hde : D.isEmpty
                · rw [hde] at NE2 G2
                  cases bb
                  · cases b35
                    · cases ov
                      · have g5 := g4 rfl
                        have g6 : ¬ 9223372036854775807 < val 10 D := of_decide_eq_false g3.symm
                        rw [if_neg (by simp), if_neg g6, ← g5] at NE2
                        have N2 := Lib.hid NE2
                        clear NE2 g1 g3 g4 hde g5 g6
                        simp only [Bool.not_false] at G2
                        subst G2
                        go_wp2_with (first | (go_at_call 27; (with_reducible refine (DD.out _).mono ?_); rintro e w1 ⟨rfl, rfl⟩) | (go_at_call 19; (with_reducible refine (BB.out _).mono ?_); rintro e w1 ⟨rfl, rfl⟩))
                        go_ret3
                        refine ⟨?_, rfl⟩
                        rw [N2.out]
                        exact congrArg (fun z : Int => Ending.returned (.tuple #[.int .i64 z, .int .i64 _, .int .i64 _])) (show (a : Int) = ((n + (0 + q) : Nat) : Int) by have := HA.out; omega)
                      · have g6 : 9223372036854775807 < val 10 D := of_decide_eq_true g3.symm
                        rw [if_neg (by simp), if_pos g6] at NE2
                        have N2 := Lib.hid NE2
                        clear NE2 g1 g3 g4 hde
                        simp only [Bool.not_false] at G2
                        subst G2
                        go_wp2_with (first | (go_at_call 27; (with_reducible refine (DD.out _).mono ?_); rintro e w1 ⟨rfl, rfl⟩) | (go_at_call 19; (with_reducible refine (BB.out _).mono ?_); rintro e w1 ⟨rfl, rfl⟩))
                        go_ret3
                        refine ⟨?_, rfl⟩
                        rw [N2.out]
                        exact congrArg (fun z : Int => Ending.returned (.tuple #[.int .i64 z, .int .i64 _, .int .i64 _])) (show (a : Int) = ((n + (0 + q) : Nat) : Int) by have := HA.out; omega)
                    · rw [if_pos (by simp)] at NE2
                      have N2 := Lib.hid NE2
                      clear NE2 g1 g3 g4 hde
                      simp only [Bool.not_false] at G2
                      subst G2
                      go_wp2_with (first | (go_at_call 27; (with_reducible refine (DD.out _).mono ?_); rintro e w1 ⟨rfl, rfl⟩) | (go_at_call 19; (with_reducible refine (BB.out _).mono ?_); rintro e w1 ⟨rfl, rfl⟩))
                      go_ret3
                      refine ⟨?_, rfl⟩
                      rw [N2.out]
                      exact congrArg (fun z : Int => Ending.returned (.tuple #[.int .i64 z, .int .i64 _, .int .i64 _])) (show (a : Int) = ((n + (0 + q) : Nat) : Int) by have := HA.out; omega)
                  · rw [if_pos (by simp)] at NE2
                    have N2 := Lib.hid NE2
                    clear NE2 g1 g3 g4 hde
                    simp only [Bool.not_false] at G2
                    subst G2
                    go_wp2_with (first | (go_at_call 27; (with_reducible refine (DD.out _).mono ?_); rintro e w1 ⟨rfl, rfl⟩) | (go_at_call 19; (with_reducible refine (BB.out _).mono ?_); rintro e w1 ⟨rfl, rfl⟩))
                    go_ret3
                    refine ⟨?_, rfl⟩
                    rw [N2.out]
                    exact congrArg (fun z : Int => Ending.returned (.tuple #[.int .i64 z, .int .i64 _, .int .i64 _])) (show (a : Int) = ((n + (0 + q) : Nat) : Int) by have := HA.out; omega)
                · rw [hde, if_pos (by simp)] at NE2
                  rw [hde] at G2
                  have N2 := Lib.hid NE2
                  clear NE2 g1 g3 g4 hde
                  simp only [Bool.not_true] at G2
                  subst G2
                  go_wp2_with (first | (go_at_call 27; (with_reducible refine (DD.out _).mono ?_); rintro e w1 ⟨rfl, rfl⟩) | (go_at_call 19; (with_reducible refine (BB.out _).mono ?_); rintro e w1 ⟨rfl, rfl⟩))
                  go_ret3
                  refine ⟨?_, rfl⟩
                  rw [N2.out]
                  exact congrArg (fun z : Int => Ending.returned (.tuple #[.int .i64 z, .int .i64 _, .int .i64 _])) (show (a : Int) = ((n + (0 + q) : Nat) : Int) by have := HA.out; omega)
            · have hae : a = s.size := by omega
              have hz : ¬ ((a : Int) < s.size) := by omega
              rw [show dr s a = [] from dr_end (by omega), show digs 10 [] = [] from rfl] at hR
              obtain ⟨g1, g2, g3, g4⟩ := hR.end
              have hvm := hR.mx
              have NE2 := NE.out
              rw [← g1, show n + (0 + q) = a by have := HA.out; omega, show dr s a = [] from dr_end (by omega), show stuck [] = false from rfl] at NE2
              have u4 : IntKind.i64.wrap (v : Int) = v := by rw [IntKind.wrap_i64]; omega
              have G2 := g2
              clear hR hvm NE g2 hae hlt
              cases hde : D.isEmpty
              · rw [hde] at NE2 G2
                cases ov
                · have g5 := g4 rfl
                  have g6 : ¬ 9223372036854775807 < val 10 D := of_decide_eq_false g3.symm
                  rw [if_neg (by simp), if_neg g6, ← g5] at NE2
                  have N2 := Lib.hid NE2
                  clear NE2 g1 g3 g4 hde g5 g6
                  simp only [Bool.not_false] at G2
                  subst G2
                  go_wp2_with (first | (go_at_call 27; (with_reducible refine (DD.out _).mono ?_); rintro e w1 ⟨rfl, rfl⟩) | (go_at_call 19; (with_reducible refine (BB.out _).mono ?_); rintro e w1 ⟨rfl, rfl⟩))
                  go_ret3
                  refine ⟨?_, rfl⟩
                  rw [N2.out]
                  exact congrArg (fun z : Int => Ending.returned (.tuple #[.int .i64 z, .int .i64 _, .int .i64 _])) (show (a : Int) = ((n + (0 + q) : Nat) : Int) by have := HA.out; omega)
                · have g6 : 9223372036854775807 < val 10 D := of_decide_eq_true g3.symm
                  rw [if_neg (by simp), if_pos g6] at NE2
                  have N2 := Lib.hid NE2
                  clear NE2 g1 g3 g4 hde
                  simp only [Bool.not_false] at G2
                  subst G2
                  go_wp2_with (first | (go_at_call 27; (with_reducible refine (DD.out _).mono ?_); rintro e w1 ⟨rfl, rfl⟩) | (go_at_call 19; (with_reducible refine (BB.out _).mono ?_); rintro e w1 ⟨rfl, rfl⟩))
                  go_ret3
                  refine ⟨?_, rfl⟩
                  rw [N2.out]
                  exact congrArg (fun z : Int => Ending.returned (.tuple #[.int .i64 z, .int .i64 _, .int .i64 _])) (show (a : Int) = ((n + (0 + q) : Nat) : Int) by have := HA.out; omega)
              · rw [hde, if_pos (by simp)] at NE2
                rw [hde] at G2
                have N2 := Lib.hid NE2
                clear NE2 g1 g3 g4 hde
                simp only [Bool.not_true] at G2
                subst G2
                go_wp2_with (first | (go_at_call 27; (with_reducible refine (DD.out _).mono ?_); rintro e w1 ⟨rfl, rfl⟩) | (go_at_call 19; (with_reducible refine (BB.out _).mono ?_); rintro e w1 ⟨rfl, rfl⟩))
                go_ret3
                refine ⟨?_, rfl⟩
                rw [N2.out]
                exact congrArg (fun z : Int => Ending.returned (.tuple #[.int .i64 z, .int .i64 _, .int .i64 _])) (show (a : Int) = ((n + (0 + q) : Nat) : Int) by have := HA.out; omega)
    · have h2 := two_len ht2
      have HBO : Hid (baseOf (dr s n) = (8, 2)) := Lib.hid (by unfold baseOf; rw [ht1, if_neg (by simp), ht2, if_pos rfl])
      have hm : n + 2 ≤ s.size := by omega
      obtain ⟨D, hD⟩ : ∃ D, digs 8 (dr s (n + 2)) = D := ⟨_, rfl⟩
      have HD := Lib.hid hD
      have NE := Lib.hid (num_eq (dr s n) 8 2 D HBO.out (by rw [dr_drop]; exact hD))
      rw [dr_drop] at NE
      have HM := Lib.hid hm
      clear hD ht1 ht2 ht3 TW
      go_enter Try.func21, Try.ntmps21
      go_upto_region 10 with (first | (go_at_call 26; (with_reducible refine (T1.out _).mono ?_); rintro e w1 ⟨rfl, rfl⟩) | (go_at_call 26; (with_reducible refine (T2.out _).mono ?_); rintro e w1 ⟨rfl, rfl⟩) | (go_at_call 26; (with_reducible refine (T3.out _).mono ?_); rintro e w1 ⟨rfl, rfl⟩))
      clear w2 w3 hz0
      go_loopw [1, 8, 9, 10] (fun s1 s8 s9 s10 wr => ∃ (q v : Nat) (so ov : Bool), n + 2 + q ≤ s.size ∧ s1 = .int .i64 ((n + 2 + q : Nat) : Int) ∧ s8 = .int .u64 v ∧ s9 = .bool so ∧ s10 = .bool ov ∧ Rd1 8 D (digs 8 (dr s (n + 2 + q))) q v so ov ∧ w = wr) (fun i _ _ _ _ => s.size - (intOf i).toNat)
      case atStart => exact ⟨0, 0, false, false, hm, by simp, rfl, rfl, rfl, HD.out ▸ Rd1.start 8 _, rfl⟩
      case round =>
        obtain ⟨q, v, so, ov, hq, rfl, rfl, rfl, rfl, hR, rfl⟩ := hrel
        clear T1 T2 T3
        have HS1 := HS.out
        obtain ⟨a, ha⟩ : ∃ a, n + 2 + q = a := ⟨_, rfl⟩
        have HA := Lib.hid ha
        rw [ha] at hq hR ⊢
        clear ha
        by_cases hlt : a < s.size
        · obtain ⟨x, hx⟩ : ∃ x : UInt8, s[a] = x := ⟨_, rfl⟩
          have hd := dr_at hlt
          rw [hx] at hd
          have hz : (a : Int) < s.size := by omega
          have w1 : IntKind.i64.wrap ((a : Int) + 1) = a + 1 := by rw [IntKind.wrap_i64]; omega
          have DD : Hid (∀ W, Calls Try.prog 27 #[.int .u8 x.toNat, .int .u64 8] W fun e w' => e = .returned (.tuple #[.int .u64 (digV x), .bool (decide (digV x < 8))]) ∧ W = w') := Lib.hid fun W => digit_any x 8 (by omega) W
          have BB := Lib.hid fun W => body_any x W
          have HV := digV_le x
          rw [hd] at hR
          by_cases hdg : digV x < 8
          · rw [digs_yes hdg] at hR
            have hdt : decide (digV x < 8) = true := decide_eq_true hdg
            rw [hdt] at DD
            generalize digV x = d at *
            by_cases hov : (9223372036854775807 - d) / 8 < v
            · have R2 := Lib.hid (hR.over (by omega) HV hov)
              have u1 : IntKind.u64.wrap (9223372036854775807 - (d : Int)) = 9223372036854775807 - d := by rw [IntKind.wrap_u64]; omega
              clear hR hd hdg hdt
              go_wp2_with (first | (go_at_call 27; (with_reducible refine (DD.out _).mono ?_); rintro e w1 ⟨rfl, rfl⟩) | (go_at_call 19; (with_reducible refine (BB.out _).mono ?_); rintro e w1 ⟨rfl, rfl⟩))
              go_roundw
              case rel =>
                have e : n + 2 + (q + 1) = a + 1 := by have := HA.out; omega
                exact ⟨q + 1, v, true, true, by rw [e]; omega, by rw [e]; go_num, rfl, rfl, rfl, by rw [e]; exact R2.out, trivial⟩
              case measure => simp [intOf]; omega
            · have hmx := ov3 (b := 8) (by omega) HV hov
              have R2 := Lib.hid (hR.more (by omega) HV hov)
              have u1 : IntKind.u64.wrap (9223372036854775807 - (d : Int)) = 9223372036854775807 - d := by rw [IntKind.wrap_u64]; omega
              have u2 : IntKind.u64.wrap ((v : Int) * 8) = v * 8 := by rw [IntKind.wrap_u64]; omega
              have u3 : IntKind.u64.wrap ((v : Int) * 8 + d) = v * 8 + d := by rw [IntKind.wrap_u64]; omega
              clear hR hd hdg hdt hmx
              go_wp2_with (first | (go_at_call 27; (with_reducible refine (DD.out _).mono ?_); rintro e w1 ⟨rfl, rfl⟩) | (go_at_call 19; (with_reducible refine (BB.out _).mono ?_); rintro e w1 ⟨rfl, rfl⟩))
              go_roundw
              case rel =>
                have e : n + 2 + (q + 1) = a + 1 := by have := HA.out; omega
                exact ⟨q + 1, v * 8 + d, true, ov, by rw [e]; omega, by rw [e]; go_num, by congr 1, rfl, rfl, by rw [e]; exact R2.out, trivial⟩
              case measure => simp [intOf]; omega
          · rw [digs_no hdg] at hR
            obtain ⟨g1, g2, g3, g4⟩ := hR.end
            have hdt : decide (digV x < 8) = false := decide_eq_false hdg
            rw [hdt] at DD
            have hvm := hR.mx
            have NE2 := NE.out
            rw [← g1, show n + (2 + q) = a by have := HA.out; omega, hd, show stuck (x :: dr s (a + 1)) = (bodyB x || x == 35) from rfl] at NE2
            have e35 := eq8 x 35
            rw [show ((35 : UInt8).toNat : Int) = 35 from rfl] at e35
            have u4 : IntKind.i64.wrap (v : Int) = v := by rw [IntKind.wrap_i64]; omega
            obtain ⟨bb, hbb⟩ : ∃ t, bodyB x = t := ⟨_, rfl⟩
            obtain ⟨b35, hb35⟩ : ∃ t, (x == 35) = t := ⟨_, rfl⟩
            rw [hbb] at NE2 BB
            rw [hb35] at NE2 e35
            have G2 := g2
            clear hR hd hdg hdt hvm NE hbb hb35 g2
            cases hde : D.isEmpty
            · rw [hde] at NE2 G2
              cases bb
              · cases b35
                · cases ov
                  · have g5 := g4 rfl
                    have g6 : ¬ 9223372036854775807 < val 8 D := of_decide_eq_false g3.symm
                    rw [if_neg (by simp), if_neg g6, ← g5] at NE2
                    have N2 := Lib.hid NE2
                    clear NE2 g1 g3 g4 hde g5 g6
                    simp only [Bool.not_false] at G2
                    subst G2
                    go_wp2_with (first | (go_at_call 27; (with_reducible refine (DD.out _).mono ?_); rintro e w1 ⟨rfl, rfl⟩) | (go_at_call 19; (with_reducible refine (BB.out _).mono ?_); rintro e w1 ⟨rfl, rfl⟩))
                    go_ret3
                    refine ⟨?_, rfl⟩
                    rw [N2.out]
                    exact congrArg (fun z : Int => Ending.returned (.tuple #[.int .i64 z, .int .i64 _, .int .i64 _])) (show (a : Int) = ((n + (2 + q) : Nat) : Int) by have := HA.out; omega)
                  · have g6 : 9223372036854775807 < val 8 D := of_decide_eq_true g3.symm
                    rw [if_neg (by simp), if_pos g6] at NE2
                    have N2 := Lib.hid NE2
                    clear NE2 g1 g3 g4 hde
                    simp only [Bool.not_false] at G2
                    subst G2
                    go_wp2_with (first | (go_at_call 27; (with_reducible refine (DD.out _).mono ?_); rintro e w1 ⟨rfl, rfl⟩) | (go_at_call 19; (with_reducible refine (BB.out _).mono ?_); rintro e w1 ⟨rfl, rfl⟩))
                    go_ret3
                    refine ⟨?_, rfl⟩
                    rw [N2.out]
                    exact congrArg (fun z : Int => Ending.returned (.tuple #[.int .i64 z, .int .i64 _, .int .i64 _])) (show (a : Int) = ((n + (2 + q) : Nat) : Int) by have := HA.out; omega)
                · rw [if_pos (by simp)] at NE2
                  have N2 := Lib.hid NE2
                  clear NE2 g1 g3 g4 hde
                  simp only [Bool.not_false] at G2
                  subst G2
                  go_wp2_with (first | (go_at_call 27; (with_reducible refine (DD.out _).mono ?_); rintro e w1 ⟨rfl, rfl⟩) | (go_at_call 19; (with_reducible refine (BB.out _).mono ?_); rintro e w1 ⟨rfl, rfl⟩))
                  go_ret3
                  refine ⟨?_, rfl⟩
                  rw [N2.out]
                  exact congrArg (fun z : Int => Ending.returned (.tuple #[.int .i64 z, .int .i64 _, .int .i64 _])) (show (a : Int) = ((n + (2 + q) : Nat) : Int) by have := HA.out; omega)
              · rw [if_pos (by simp)] at NE2
                have N2 := Lib.hid NE2
                clear NE2 g1 g3 g4 hde
                simp only [Bool.not_false] at G2
                subst G2
                go_wp2_with (first | (go_at_call 27; (with_reducible refine (DD.out _).mono ?_); rintro e w1 ⟨rfl, rfl⟩) | (go_at_call 19; (with_reducible refine (BB.out _).mono ?_); rintro e w1 ⟨rfl, rfl⟩))
                go_ret3
                refine ⟨?_, rfl⟩
                rw [N2.out]
                exact congrArg (fun z : Int => Ending.returned (.tuple #[.int .i64 z, .int .i64 _, .int .i64 _])) (show (a : Int) = ((n + (2 + q) : Nat) : Int) by have := HA.out; omega)
            · rw [hde, if_pos (by simp)] at NE2
              rw [hde] at G2
              have N2 := Lib.hid NE2
              clear NE2 g1 g3 g4 hde
              simp only [Bool.not_true] at G2
              subst G2
              go_wp2_with (first | (go_at_call 27; (with_reducible refine (DD.out _).mono ?_); rintro e w1 ⟨rfl, rfl⟩) | (go_at_call 19; (with_reducible refine (BB.out _).mono ?_); rintro e w1 ⟨rfl, rfl⟩))
              go_ret3
              refine ⟨?_, rfl⟩
              rw [N2.out]
              exact congrArg (fun z : Int => Ending.returned (.tuple #[.int .i64 z, .int .i64 _, .int .i64 _])) (show (a : Int) = ((n + (2 + q) : Nat) : Int) by have := HA.out; omega)
        · have hae : a = s.size := by omega
          have hz : ¬ ((a : Int) < s.size) := by omega
          rw [show dr s a = [] from dr_end (by omega), show digs 8 [] = [] from rfl] at hR
          obtain ⟨g1, g2, g3, g4⟩ := hR.end
          have hvm := hR.mx
          have NE2 := NE.out
          rw [← g1, show n + (2 + q) = a by have := HA.out; omega, show dr s a = [] from dr_end (by omega), show stuck [] = false from rfl] at NE2
          have u4 : IntKind.i64.wrap (v : Int) = v := by rw [IntKind.wrap_i64]; omega
          have G2 := g2
          clear hR hvm NE g2 hae hlt
          cases hde : D.isEmpty
          · rw [hde] at NE2 G2
            cases ov
            · have g5 := g4 rfl
              have g6 : ¬ 9223372036854775807 < val 8 D := of_decide_eq_false g3.symm
              rw [if_neg (by simp), if_neg g6, ← g5] at NE2
              have N2 := Lib.hid NE2
              clear NE2 g1 g3 g4 hde g5 g6
              simp only [Bool.not_false] at G2
              subst G2
              go_wp2_with (first | (go_at_call 27; (with_reducible refine (DD.out _).mono ?_); rintro e w1 ⟨rfl, rfl⟩) | (go_at_call 19; (with_reducible refine (BB.out _).mono ?_); rintro e w1 ⟨rfl, rfl⟩))
              go_ret3
              refine ⟨?_, rfl⟩
              rw [N2.out]
              exact congrArg (fun z : Int => Ending.returned (.tuple #[.int .i64 z, .int .i64 _, .int .i64 _])) (show (a : Int) = ((n + (2 + q) : Nat) : Int) by have := HA.out; omega)
            · have g6 : 9223372036854775807 < val 8 D := of_decide_eq_true g3.symm
              rw [if_neg (by simp), if_pos g6] at NE2
              have N2 := Lib.hid NE2
              clear NE2 g1 g3 g4 hde
              simp only [Bool.not_false] at G2
              subst G2
              go_wp2_with (first | (go_at_call 27; (with_reducible refine (DD.out _).mono ?_); rintro e w1 ⟨rfl, rfl⟩) | (go_at_call 19; (with_reducible refine (BB.out _).mono ?_); rintro e w1 ⟨rfl, rfl⟩))
              go_ret3
              refine ⟨?_, rfl⟩
              rw [N2.out]
              exact congrArg (fun z : Int => Ending.returned (.tuple #[.int .i64 z, .int .i64 _, .int .i64 _])) (show (a : Int) = ((n + (2 + q) : Nat) : Int) by have := HA.out; omega)
          · rw [hde, if_pos (by simp)] at NE2
            rw [hde] at G2
            have N2 := Lib.hid NE2
            clear NE2 g1 g3 g4 hde
            simp only [Bool.not_true] at G2
            subst G2
            go_wp2_with (first | (go_at_call 27; (with_reducible refine (DD.out _).mono ?_); rintro e w1 ⟨rfl, rfl⟩) | (go_at_call 19; (with_reducible refine (BB.out _).mono ?_); rintro e w1 ⟨rfl, rfl⟩))
            go_ret3
            refine ⟨?_, rfl⟩
            rw [N2.out]
            exact congrArg (fun z : Int => Ending.returned (.tuple #[.int .i64 z, .int .i64 _, .int .i64 _])) (show (a : Int) = ((n + (2 + q) : Nat) : Int) by have := HA.out; omega)
  · have h2 := two_len ht1
    have HBO : Hid (baseOf (dr s n) = (2, 2)) := Lib.hid (by unfold baseOf; rw [ht1, if_pos rfl])
    have hm : n + 2 ≤ s.size := by omega
    obtain ⟨D, hD⟩ : ∃ D, digs 2 (dr s (n + 2)) = D := ⟨_, rfl⟩
    have HD := Lib.hid hD
    have NE := Lib.hid (num_eq (dr s n) 2 2 D HBO.out (by rw [dr_drop]; exact hD))
    rw [dr_drop] at NE
    have HM := Lib.hid hm
    clear hD ht1 ht2 ht3 TW
    go_enter Try.func21, Try.ntmps21
    go_upto_region 10 with (first | (go_at_call 26; (with_reducible refine (T1.out _).mono ?_); rintro e w1 ⟨rfl, rfl⟩) | (go_at_call 26; (with_reducible refine (T2.out _).mono ?_); rintro e w1 ⟨rfl, rfl⟩) | (go_at_call 26; (with_reducible refine (T3.out _).mono ?_); rintro e w1 ⟨rfl, rfl⟩))
    clear w2 w3 hz0
    go_loopw [1, 8, 9, 10] (fun s1 s8 s9 s10 wr => ∃ (q v : Nat) (so ov : Bool), n + 2 + q ≤ s.size ∧ s1 = .int .i64 ((n + 2 + q : Nat) : Int) ∧ s8 = .int .u64 v ∧ s9 = .bool so ∧ s10 = .bool ov ∧ Rd1 2 D (digs 2 (dr s (n + 2 + q))) q v so ov ∧ w = wr) (fun i _ _ _ _ => s.size - (intOf i).toNat)
    case atStart => exact ⟨0, 0, false, false, hm, by simp, rfl, rfl, rfl, HD.out ▸ Rd1.start 2 _, rfl⟩
    case round =>
      obtain ⟨q, v, so, ov, hq, rfl, rfl, rfl, rfl, hR, rfl⟩ := hrel
      clear T1 T2 T3
      have HS1 := HS.out
      obtain ⟨a, ha⟩ : ∃ a, n + 2 + q = a := ⟨_, rfl⟩
      have HA := Lib.hid ha
      rw [ha] at hq hR ⊢
      clear ha
      by_cases hlt : a < s.size
      · obtain ⟨x, hx⟩ : ∃ x : UInt8, s[a] = x := ⟨_, rfl⟩
        have hd := dr_at hlt
        rw [hx] at hd
        have hz : (a : Int) < s.size := by omega
        have w1 : IntKind.i64.wrap ((a : Int) + 1) = a + 1 := by rw [IntKind.wrap_i64]; omega
        have DD : Hid (∀ W, Calls Try.prog 27 #[.int .u8 x.toNat, .int .u64 2] W fun e w' => e = .returned (.tuple #[.int .u64 (digV x), .bool (decide (digV x < 2))]) ∧ W = w') := Lib.hid fun W => digit_any x 2 (by omega) W
        have BB := Lib.hid fun W => body_any x W
        have HV := digV_le x
        rw [hd] at hR
        by_cases hdg : digV x < 2
        · rw [digs_yes hdg] at hR
          have hdt : decide (digV x < 2) = true := decide_eq_true hdg
          rw [hdt] at DD
          generalize digV x = d at *
          by_cases hov : (9223372036854775807 - d) / 2 < v
          · have R2 := Lib.hid (hR.over (by omega) HV hov)
            have u1 : IntKind.u64.wrap (9223372036854775807 - (d : Int)) = 9223372036854775807 - d := by rw [IntKind.wrap_u64]; omega
            clear hR hd hdg hdt
            go_wp2_with (first | (go_at_call 27; (with_reducible refine (DD.out _).mono ?_); rintro e w1 ⟨rfl, rfl⟩) | (go_at_call 19; (with_reducible refine (BB.out _).mono ?_); rintro e w1 ⟨rfl, rfl⟩))
            go_roundw
            case rel =>
              have e : n + 2 + (q + 1) = a + 1 := by have := HA.out; omega
              exact ⟨q + 1, v, true, true, by rw [e]; omega, by rw [e]; go_num, rfl, rfl, rfl, by rw [e]; exact R2.out, trivial⟩
            case measure => simp [intOf]; omega
          · have hmx := ov3 (b := 2) (by omega) HV hov
            have R2 := Lib.hid (hR.more (by omega) HV hov)
            have u1 : IntKind.u64.wrap (9223372036854775807 - (d : Int)) = 9223372036854775807 - d := by rw [IntKind.wrap_u64]; omega
            have u2 : IntKind.u64.wrap ((v : Int) * 2) = v * 2 := by rw [IntKind.wrap_u64]; omega
            have u3 : IntKind.u64.wrap ((v : Int) * 2 + d) = v * 2 + d := by rw [IntKind.wrap_u64]; omega
            clear hR hd hdg hdt hmx
            go_wp2_with (first | (go_at_call 27; (with_reducible refine (DD.out _).mono ?_); rintro e w1 ⟨rfl, rfl⟩) | (go_at_call 19; (with_reducible refine (BB.out _).mono ?_); rintro e w1 ⟨rfl, rfl⟩))
            go_roundw
            case rel =>
              have e : n + 2 + (q + 1) = a + 1 := by have := HA.out; omega
              exact ⟨q + 1, v * 2 + d, true, ov, by rw [e]; omega, by rw [e]; go_num, by congr 1, rfl, rfl, by rw [e]; exact R2.out, trivial⟩
            case measure => simp [intOf]; omega
        · rw [digs_no hdg] at hR
          obtain ⟨g1, g2, g3, g4⟩ := hR.end
          have hdt : decide (digV x < 2) = false := decide_eq_false hdg
          rw [hdt] at DD
          have hvm := hR.mx
          have NE2 := NE.out
          rw [← g1, show n + (2 + q) = a by have := HA.out; omega, hd, show stuck (x :: dr s (a + 1)) = (bodyB x || x == 35) from rfl] at NE2
          have e35 := eq8 x 35
          rw [show ((35 : UInt8).toNat : Int) = 35 from rfl] at e35
          have u4 : IntKind.i64.wrap (v : Int) = v := by rw [IntKind.wrap_i64]; omega
          obtain ⟨bb, hbb⟩ : ∃ t, bodyB x = t := ⟨_, rfl⟩
          obtain ⟨b35, hb35⟩ : ∃ t, (x == 35) = t := ⟨_, rfl⟩
          rw [hbb] at NE2 BB
          rw [hb35] at NE2 e35
          have G2 := g2
          clear hR hd hdg hdt hvm NE hbb hb35 g2
          cases hde : D.isEmpty
          · rw [hde] at NE2 G2
            cases bb
            · cases b35
              · cases ov
                · have g5 := g4 rfl
                  have g6 : ¬ 9223372036854775807 < val 2 D := of_decide_eq_false g3.symm
                  rw [if_neg (by simp), if_neg g6, ← g5] at NE2
                  have N2 := Lib.hid NE2
                  clear NE2 g1 g3 g4 hde g5 g6
                  simp only [Bool.not_false] at G2
                  subst G2
                  go_wp2_with (first | (go_at_call 27; (with_reducible refine (DD.out _).mono ?_); rintro e w1 ⟨rfl, rfl⟩) | (go_at_call 19; (with_reducible refine (BB.out _).mono ?_); rintro e w1 ⟨rfl, rfl⟩))
                  go_ret3
                  refine ⟨?_, rfl⟩
                  rw [N2.out]
                  exact congrArg (fun z : Int => Ending.returned (.tuple #[.int .i64 z, .int .i64 _, .int .i64 _])) (show (a : Int) = ((n + (2 + q) : Nat) : Int) by have := HA.out; omega)
                · have g6 : 9223372036854775807 < val 2 D := of_decide_eq_true g3.symm
                  rw [if_neg (by simp), if_pos g6] at NE2
                  have N2 := Lib.hid NE2
                  clear NE2 g1 g3 g4 hde
                  simp only [Bool.not_false] at G2
                  subst G2
                  go_wp2_with (first | (go_at_call 27; (with_reducible refine (DD.out _).mono ?_); rintro e w1 ⟨rfl, rfl⟩) | (go_at_call 19; (with_reducible refine (BB.out _).mono ?_); rintro e w1 ⟨rfl, rfl⟩))
                  go_ret3
                  refine ⟨?_, rfl⟩
                  rw [N2.out]
                  exact congrArg (fun z : Int => Ending.returned (.tuple #[.int .i64 z, .int .i64 _, .int .i64 _])) (show (a : Int) = ((n + (2 + q) : Nat) : Int) by have := HA.out; omega)
              · rw [if_pos (by simp)] at NE2
                have N2 := Lib.hid NE2
                clear NE2 g1 g3 g4 hde
                simp only [Bool.not_false] at G2
                subst G2
                go_wp2_with (first | (go_at_call 27; (with_reducible refine (DD.out _).mono ?_); rintro e w1 ⟨rfl, rfl⟩) | (go_at_call 19; (with_reducible refine (BB.out _).mono ?_); rintro e w1 ⟨rfl, rfl⟩))
                go_ret3
                refine ⟨?_, rfl⟩
                rw [N2.out]
                exact congrArg (fun z : Int => Ending.returned (.tuple #[.int .i64 z, .int .i64 _, .int .i64 _])) (show (a : Int) = ((n + (2 + q) : Nat) : Int) by have := HA.out; omega)
            · rw [if_pos (by simp)] at NE2
              have N2 := Lib.hid NE2
              clear NE2 g1 g3 g4 hde
              simp only [Bool.not_false] at G2
              subst G2
              go_wp2_with (first | (go_at_call 27; (with_reducible refine (DD.out _).mono ?_); rintro e w1 ⟨rfl, rfl⟩) | (go_at_call 19; (with_reducible refine (BB.out _).mono ?_); rintro e w1 ⟨rfl, rfl⟩))
              go_ret3
              refine ⟨?_, rfl⟩
              rw [N2.out]
              exact congrArg (fun z : Int => Ending.returned (.tuple #[.int .i64 z, .int .i64 _, .int .i64 _])) (show (a : Int) = ((n + (2 + q) : Nat) : Int) by have := HA.out; omega)
          · rw [hde, if_pos (by simp)] at NE2
            rw [hde] at G2
            have N2 := Lib.hid NE2
            clear NE2 g1 g3 g4 hde
            simp only [Bool.not_true] at G2
            subst G2
            go_wp2_with (first | (go_at_call 27; (with_reducible refine (DD.out _).mono ?_); rintro e w1 ⟨rfl, rfl⟩) | (go_at_call 19; (with_reducible refine (BB.out _).mono ?_); rintro e w1 ⟨rfl, rfl⟩))
            go_ret3
            refine ⟨?_, rfl⟩
            rw [N2.out]
            exact congrArg (fun z : Int => Ending.returned (.tuple #[.int .i64 z, .int .i64 _, .int .i64 _])) (show (a : Int) = ((n + (2 + q) : Nat) : Int) by have := HA.out; omega)
      · have hae : a = s.size := by omega
        have hz : ¬ ((a : Int) < s.size) := by omega
        rw [show dr s a = [] from dr_end (by omega), show digs 2 [] = [] from rfl] at hR
        obtain ⟨g1, g2, g3, g4⟩ := hR.end
        have hvm := hR.mx
        have NE2 := NE.out
        rw [← g1, show n + (2 + q) = a by have := HA.out; omega, show dr s a = [] from dr_end (by omega), show stuck [] = false from rfl] at NE2
        have u4 : IntKind.i64.wrap (v : Int) = v := by rw [IntKind.wrap_i64]; omega
        have G2 := g2
        clear hR hvm NE g2 hae hlt
        cases hde : D.isEmpty
        · rw [hde] at NE2 G2
          cases ov
          · have g5 := g4 rfl
            have g6 : ¬ 9223372036854775807 < val 2 D := of_decide_eq_false g3.symm
            rw [if_neg (by simp), if_neg g6, ← g5] at NE2
            have N2 := Lib.hid NE2
            clear NE2 g1 g3 g4 hde g5 g6
            simp only [Bool.not_false] at G2
            subst G2
            go_wp2_with (first | (go_at_call 27; (with_reducible refine (DD.out _).mono ?_); rintro e w1 ⟨rfl, rfl⟩) | (go_at_call 19; (with_reducible refine (BB.out _).mono ?_); rintro e w1 ⟨rfl, rfl⟩))
            go_ret3
            refine ⟨?_, rfl⟩
            rw [N2.out]
            exact congrArg (fun z : Int => Ending.returned (.tuple #[.int .i64 z, .int .i64 _, .int .i64 _])) (show (a : Int) = ((n + (2 + q) : Nat) : Int) by have := HA.out; omega)
          · have g6 : 9223372036854775807 < val 2 D := of_decide_eq_true g3.symm
            rw [if_neg (by simp), if_pos g6] at NE2
            have N2 := Lib.hid NE2
            clear NE2 g1 g3 g4 hde
            simp only [Bool.not_false] at G2
            subst G2
            go_wp2_with (first | (go_at_call 27; (with_reducible refine (DD.out _).mono ?_); rintro e w1 ⟨rfl, rfl⟩) | (go_at_call 19; (with_reducible refine (BB.out _).mono ?_); rintro e w1 ⟨rfl, rfl⟩))
            go_ret3
            refine ⟨?_, rfl⟩
            rw [N2.out]
            exact congrArg (fun z : Int => Ending.returned (.tuple #[.int .i64 z, .int .i64 _, .int .i64 _])) (show (a : Int) = ((n + (2 + q) : Nat) : Int) by have := HA.out; omega)
        · rw [hde, if_pos (by simp)] at NE2
          rw [hde] at G2
          have N2 := Lib.hid NE2
          clear NE2 g1 g3 g4 hde
          simp only [Bool.not_true] at G2
          subst G2
          go_wp2_with (first | (go_at_call 27; (with_reducible refine (DD.out _).mono ?_); rintro e w1 ⟨rfl, rfl⟩) | (go_at_call 19; (with_reducible refine (BB.out _).mono ?_); rintro e w1 ⟨rfl, rfl⟩))
          go_ret3
          refine ⟨?_, rfl⟩
          rw [N2.out]
          exact congrArg (fun z : Int => Ending.returned (.tuple #[.int .i64 z, .int .i64 _, .int .i64 _])) (show (a : Int) = ((n + (2 + q) : Nat) : Int) by have := HA.out; omega)
end Go.Proofs.Ythdkkdgjcfjinaa.tk
