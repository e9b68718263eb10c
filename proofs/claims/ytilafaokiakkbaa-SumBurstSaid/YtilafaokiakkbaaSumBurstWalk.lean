/- The walk of the law SumBurst: for any two texts, any two bytes between them and any change of these it returns true, and what was in memory is as it was. -/
import Derived.Test.YtilafaokiakkbaaSOwn
namespace Go.Proofs.Ytilafaokiakkbaa.sumBurst
open Go.ChangeShapes Go.WideShapes Go.ChangeAt Go.RowKit Go.Proofs.Ytilafaokiakkbaa.s Go.Proofs.Ytilafaokiakkbaa
set_option linter.unusedVariables false

theorem v8_zero (c : BitVec 8) (h : c = 0) : (v8 c == 0) = true := by subst h; rfl
theorem v8_not (c : BitVec 8) (h : c ≠ 0) : (v8 c == 0) = false := by
  rw [beq_eq_false_iff_ne]
  intro e
  exact h (v8_inj (e.trans (show (0 : Int) = v8 0 from rfl)))
/-- what the tests see: both sums alike or not, the first change nothing or not, the second nothing or not -/
theorem tests (a b : List (BitVec 8)) (x y c d : BitVec 8) : ∃ Y : BitVec 16, goV first (a ++ [x ^^^ c, y ^^^ d] ++ b) = Y ∧
    (((v16 (goV first (a ++ [x, y] ++ b)) == v16 Y) = true ∧ (v8 c == 0) = true ∧ (v8 d == 0) = true) ∨
     ((v16 (goV first (a ++ [x, y] ++ b)) == v16 Y) = false ∧ (v8 c == 0) = true ∧ (v8 d == 0) = false) ∨
     ((v16 (goV first (a ++ [x, y] ++ b)) == v16 Y) = false ∧ (v8 c == 0) = false)) := by
  refine ⟨_, rfl, ?_⟩
  have key : ¬ (c = 0 ∧ d = 0) → (v16 (goV first (a ++ [x, y] ++ b)) == v16 (goV first (a ++ [x ^^^ c, y ^^^ d] ++ b))) = false := fun h => by
    rw [beq_eq_false_iff_ne]
    intro e
    exact h (burst_text first a b x y c d (v16_inj e))
  by_cases hc : c = 0
  · by_cases hd : d = 0
    · refine .inl ⟨?_, v8_zero c hc, v8_zero d hd⟩
      subst hc hd
      simp
    · exact .inr (.inl ⟨key fun h => hd h.2, v8_zero c hc, v8_not d hd⟩)
  · exact .inr (.inr ⟨key fun h => hc h.1, v8_not c hc⟩)

set_option maxHeartbeats 1000000 in
theorem walk (a0 : Option Addr) (len0 cap0 : Nat) (z0 : List Int) (a1 : Int) (a2 : Int) (a3 : Option Addr) (len3 cap3 : Nat) (z3 : List Int) (a4 : Int) (a5 : Int) (w : World) (w0 : IsRow .u8 w a0 len0 cap0 z0) (w1 : (Lit.int .u8 a1).wf = true) (w2 : (Lit.int .u8 a2).wf = true) (w3 : IsRow .u8 w a3 len3 cap3 z3) (w4 : (Lit.int .u8 a4).wf = true) (w5 : (Lit.int .u8 a5).wf = true) :
    Calls Try.prog 5 #[.slice a0 len0 cap0, .int .u8 a1, .int .u8 a2, .slice a3 len3 cap3, .int .u8 a4, .int .u8 a5] w fun e w' => e = .returned (.bool true) ∧ Below w.heap.size w w' := by
  obtain ⟨l1, rfl, hB1, hcap1, hmax1, hnil1, hspot1⟩ := bytes_of w0
  obtain ⟨l2, rfl, hB2, hcap2, hmax2, hnil2, hspot2⟩ := bytes_of w3
  obtain ⟨x, rfl⟩ := isByte w1
  obtain ⟨y, rfl⟩ := isByte w2
  obtain ⟨c, rfl⟩ := isByte w4
  obtain ⟨d, rfl⟩ := isByte w5
  unfold maxLen at hmax1 hmax2
  clear w0 w1 w2 w3 w4 w5
  obtain ⟨k1, e1, hn1, hm1, hC1⟩ := cut_of l1 2000 2000 rfl hB1
  obtain ⟨k2, e2, hn2, hm2, hC2⟩ := cut_of l2 2000 2000 rfl hB2
  have HX1 : Hid (a0 = none → k1.length = 0 ∧ cap0 = 0) := Lib.hid fun h => ⟨by have := (hnil1 h).1; omega, (hnil1 h).2⟩
  have HX2 : Hid (a3 = none → k2.length = 0 ∧ cap3 = 0) := Lib.hid fun h => ⟨by have := (hnil2 h).1; omega, (hnil2 h).2⟩
  have HM : Hid (k1.length ≤ 10000 ∧ k2.length ≤ 10000 ∧ k1.length + k2.length ≤ 4000) := Lib.hid (by omega)
  have HN1 := Lib.hid hn1
  have HN2 := Lib.hid hn2
  have HC1 := Lib.hid hC1
  have HC2 := Lib.hid hC2
  clear hB1 hB2 e1 e2 hspot1 hspot2 hnil1 hnil2 hn1 hn2 hC1 hC2 hm1 hm2
  generalize l1.length = L1 at *
  generalize l2.length = L2 at *
  obtain ⟨Y, hY, hT⟩ := tests k1 k2 x y c d
  obtain ⟨X, hX⟩ : ∃ X, goV first (k1 ++ [x, y] ++ k2) = X := ⟨_, rfl⟩
  rw [hX] at hT
  have HX := Lib.hid hX
  have HY := Lib.hid hY
  have HLm : Hid ((k1 ++ [x, y] ++ k2).length ≤ 10000) := Lib.hid (by have := HM.out; simp; omega)
  have HLn : Hid ((k1 ++ [x ^^^ c, y ^^^ d] ++ k2).length ≤ 10000) := Lib.hid (by have := HM.out; simp; omega)
  have hx1 := xor8 x c
  have hx2 := xor8 y d
  clear hX hY
  have HT := Lib.hid hT
  clear hT
  go_enter Try.func5, Try.ntmps5
  go_wp2_with (go_at_call 7; ((with_reducible refine (awake_any _).mono ?_); rintro e w1 ⟨rfl, hb1⟩; have HB1 := Lib.hid hb1; clear hb1))
  go_quiet (fail)
  have HB1' := Lib.hid (below_drewN HB1.out nq)
  go_wp2_with (first
    | (go_at_call 12; ((with_reducible refine (copy_any k1 _ HN1.out HM.out.1 w.heap.size a0 _ _ (HC1.out.below (below_drewN HB1.out _)) (below_drewN HB1.out _).size HX1.out).mono ?_); rintro e w2 ⟨v2, rfl, hO2, hb2⟩; have HO2 := Lib.hid hO2; have HB2 := Lib.hid (HB1'.out.trans (hb2.mono HB1'.out.size)); have hz2 := Lib.hid hb2.size; clear hO2 hb2))
    | (at_builtin; refine wpList_append_bytes _ rfl (.tmp 28) (.tmp 31) rfl _ _ k1 rfl (HO2.out.new _) (w2.heap.size + 1) (some ⟨w2.heap.size, 0, none⟩) 2 2 [x, y] rfl rfl (pair_bytes w2 _ x y) (by intro h; cases h) (by have := HM.out; simp; omega) (Nat.le_trans hz2.out (by simp)) ?_; intro v3 w3 hown3 hg3 hat3; have HW3 := Lib.hid hown3; have HB3 := Lib.hid ((HO2.out.new _).lays (HB2.out.alloc HB2.out.size _) HB1'.out.size (Nat.le_refl _) hg3); have hz3 := Lib.hid (Nat.le_trans (Nat.le_trans hz2.out (by simp)) hg3.size); clear hown3 hg3 hat3)
    | (at_builtin; refine wpList_append_bytes _ rfl (.tmp 32) (.tmp 33) rfl _ _ (k1 ++ [x, y]) rfl HW3.out w.heap.size a3 _ _ k2 HN2.out rfl (HC2.out.below HB3.out) HX2.out (by have := HM.out; simp; omega) hz3.out ?_; intro v4 w4 hown4 hg4 hat4; have HW4 := Lib.hid hown4; have HB4 := Lib.hid (HW3.out.lays HB3.out HB1'.out.size (Nat.le_refl _) hg4); clear hown4 hg4 hat4)
    | (go_at_call 12; ((with_reducible refine (copy_any k1 _ HN1.out HM.out.1 w.heap.size a0 _ _ (HC1.out.below HB4.out) HB4.out.size HX1.out).mono ?_); rintro e w5 ⟨v5, rfl, hO5, hb5⟩; have HO5 := Lib.hid hO5; have HB5 := Lib.hid hb5; clear hO5 hb5))
    | (at_builtin; refine wpList_append_bytes _ rfl (.tmp 36) (.tmp 43) rfl _ _ k1 rfl (HO5.out.new _) (w5.heap.size + 1) (some ⟨w5.heap.size, 0, none⟩) 2 2 [x ^^^ c, y ^^^ d] rfl rfl (pair_bytes w5 _ (x ^^^ c) (y ^^^ d)) (by intro h; cases h) (by have := HM.out; simp; omega) (Nat.le_trans HB5.out.size (by simp)) ?_; intro v6 w6 hown6 hg6 hat6; have HW6 := Lib.hid hown6; have HB6 := Lib.hid ((HO5.out.new _).lays (HB5.out.alloc HB5.out.size _) (Nat.le_refl _) (Nat.le_refl _) hg6); clear hown6 hg6 hat6)
    | (at_builtin; refine wpList_append_bytes _ rfl (.tmp 44) (.tmp 45) rfl _ _ (k1 ++ [x ^^^ c, y ^^^ d]) rfl HW6.out w.heap.size a3 _ _ k2 HN2.out rfl (HC2.out.below (HB4.out.trans (HB6.out.mono HB4.out.size))) HX2.out (by have := HM.out; simp; omega) HB6.out.size ?_; intro v7 w7 hown7 hg7 hat7; have HW7 := Lib.hid hown7; have HB7 := Lib.hid (HW6.out.lays HB6.out (Nat.le_refl _) (Nat.le_refl _) hg7); clear hown7 hg7 hat7))
  obtain ⟨A4, c4, rfl, hB4, hc4, hm4, hX4⟩ := HW4.out.form
  obtain ⟨A7, c7, rfl, hB7, hc7, hm7, hX7⟩ := HW7.out.form
  have HBm := Lib.hid (hB4.below HB7.out)
  have HBn := Lib.hid hB7
  clear hB4 hc4 hm4 hX4 hB7 hc7 hm7 hX7 HW4 HW7 HW6 HW3 HO5 HO2
  generalize k1 ++ [x, y] ++ k2 = m at *
  generalize k1 ++ [x ^^^ c, y ^^^ d] ++ k2 = n at *
  obtain ⟨nm, hnm⟩ : ∃ nm, m.length = nm := ⟨_, rfl⟩
  obtain ⟨nn, hnn⟩ : ∃ nn, n.length = nn := ⟨_, rfl⟩
  have HNm := Lib.hid hnm
  have HNn := Lib.hid hnn
  rw [hnm, hnn]
  clear hnm hnn hx1 hx2
  have HF := Lib.hid (HB4.out.trans (HB7.out.mono HB4.out.size))
  rcases HT.out with ⟨t1, t2, t3⟩ | ⟨t1, t2, t3⟩ | ⟨t1, t2⟩
  all_goals
    go_wp2_with (first
      | (go_at_call 8; ((with_reducible refine (of_e HX.out HNm.out HLm.out HBm.out _).mono ?_); rintro e w' ⟨rfl, rfl⟩))
      | (go_at_call 8; ((with_reducible refine (of_e HY.out HNn.out HLn.out HBn.out _).mono ?_); rintro e w' ⟨rfl, rfl⟩)))
    go_ret
    exact ⟨rfl, HF.out⟩
end Go.Proofs.Ytilafaokiakkbaa.sumBurst
