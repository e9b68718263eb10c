/- The walk of the law FrameSpoilt: for anything that a drive tells, any place, any two bytes and any bytes behind it returns true, and what was in memory is as it was. -/
import Derived.Test.YtbecbiglinkijaaTSpoil
namespace Go.Proofs.Ytbecbiglinkijaa.frameSpoilt
open Go.ChangeShapes Go.WideShapes Go.ChangeAt Go.RowKit Go.Proofs.Ytbecbiglinkijaa.s Go.Proofs.Ytbecbiglinkijaa.t Go.Proofs.Ytbecbiglinkijaa
set_option linter.unusedVariables false

set_option maxHeartbeats 2000000 in
theorem walk (f0 f1 f2 : Int) (a1 : Int) (a2 : Int) (a3 : Int) (a4 : Option Addr) (len4 cap4 : Nat) (z4 : List Int) (w : World) (x0 : (Lit.int .i64 f0).wf = true) (x1 : (Lit.int .i64 f1).wf = true) (x2 : (Lit.int .i64 f2).wf = true) (w1 : (Lit.int .i64 a1).wf = true) (w2 : (Lit.int .u8 a2).wf = true) (w3 : (Lit.int .u8 a3).wf = true) (w4 : IsRow .u8 w a4 len4 cap4 z4) :
    Calls Try.prog 6 #[.agg #[.int .i64 f0, .int .i64 f1, .int .i64 f2], .int .i64 a1, .int .u8 a2, .int .u8 a3, .slice a4 len4 cap4] w fun e w' => e = .returned (.bool true) ∧ Below w.heap.size w w' := by
  have hplace := wf64 x2
  obtain ⟨x, rfl⟩ := isByte w2
  obtain ⟨y, rfl⟩ := isByte w3
  obtain ⟨l4, rfl, hB4, hcap4, hmax4, hnil4, hspot4⟩ := bytes_of w4
  have hat := wf64 w1
  clear x0 x1 x2 w1 w2 w3 w4 hspot4
  rcases put_cases 127 f0 f1 (by decide) with h1 | ⟨sq1, wd1, rfl, rfl, hm1⟩
  · have P1 := Lib.hid fun W => feed_no f0 f1 f2 h1 W
    clear h1 hB4 hnil4 hcap4
    go_enter Try.func6, Try.ntmps6
    go_wp2_with (first
      | (go_at_call 7; ((with_reducible refine (awake_any _).mono ?_); rintro e w1 ⟨rfl, hb1⟩; have HB1 := Lib.hid hb1; have ⟨c1, _, hz⟩ := boxes1 hb1; clear hb1))
      | (go_at_call 8; ((with_reducible refine (P1.out _).mono ?_); rintro e w2 ⟨A2, cap2, rfl, _, hb2⟩; have HB2 := Lib.hid (boxes1 (HB1.out.trans (hb2.mono HB1.out.size))).2.1; clear c1 hb2)))
    go_ret
    exact ⟨rfl, HB2.out⟩
  · have P1 := Lib.hid fun W => feed_yes sq1 wd1 f2 hm1 W
    by_cases hin : a1 < 0 ∨ 13 ≤ a1
    · clear hB4 hnil4 hcap4
      by_cases hneg : a1 < 0
      all_goals
        go_enter Try.func6, Try.ntmps6
        go_wp2_with (first
          | (go_at_call 7; ((with_reducible refine (awake_any _).mono ?_); rintro e w1 ⟨rfl, hb1⟩; have HB1 := Lib.hid hb1; have ⟨c1, _, hz⟩ := boxes1 hb1; clear hb1))
          | (go_at_call 8; ((with_reducible refine (P1.out _).mono ?_); rintro e w2 ⟨A2, cap2, rfl, _, _, _, hb2⟩; have HB2 := Lib.hid (boxes1 (HB1.out.trans (hb2.mono HB1.out.size))).2.1; clear c1 hb2)))
        go_ret
        exact ⟨rfl, HB2.out⟩
    · obtain ⟨k, rfl⟩ : ∃ k : Nat, a1 = (k : Int) := ⟨a1.toNat, by omega⟩
      have hk0 : (0 : Int) ≤ (k : Int) := by omega
      have hk12 : (k : Int) ≤ 12 := by omega
      have hkN : k ≤ 12 := by omega
      clear hin hat
      obtain ⟨L, hL⟩ : ∃ L, frameV signF sq1 wd1 (place64 f2) = L := ⟨_, rfl⟩
      have hl : L.length = 13 := by rw [← hL, frame_length]
      have hf : Fits L := by rw [← hL]; exact frame_fits _ _ _ _
      have hr : rE signF 127 L = 0 := by rw [← hL]; exact (read_back signF sq1 wd1 127 f2 hm1 hplace.1 hplace.2).1
      have HL := Lib.hid hL
      have HLL := Lib.hid hl
      have HM : Hid (L.length ≤ 10000) := Lib.hid (by omega)
      have hs4 : rE signF 127 (L.take k) = 4 := rE_short (by rw [List.length_take]; omega)
      obtain ⟨q0, q1, q2, rq⟩ := read_as (L.take k) 4 hs4 k (by rw [List.length_take]; omega) (by rw [List.length_take]; omega)
      have RQ := Lib.hid rq
      clear rq
      have H4 := Lib.hid hB4
      obtain ⟨K, hK, hKn, hKm, hKB⟩ := cut_of l4 40 40 rfl hB4
      have HKN := Lib.hid hKn
      have HKB := Lib.hid hKB
      have HKX : Hid (a4 = none → K.length = 0 ∧ cap4 = 0) := Lib.hid fun h => ⟨by have := (hnil4 h).1; omega, (hnil4 h).2⟩
      obtain ⟨M, hM⟩ : ∃ M, L ++ K = M := ⟨_, rfl⟩
      obtain ⟨nM, hnM⟩ : ∃ n, M.length = n := ⟨_, rfl⟩
      have hML : M.length = 13 + K.length := by rw [← hM, List.length_append, hl]
      obtain ⟨E3, hE3⟩ : ∃ E, rE signF 127 M = E := ⟨_, rfl⟩
      have HT3 : Hid (l4.length ≠ 0 → E3 = 13) := Lib.hid fun h => by rw [← hE3]; exact rE_long (by omega)
      obtain ⟨m0, m1, m2, rm⟩ := read_as M E3 hE3 nM hnM (by omega)
      have RM := Lib.hid rm
      have HMM := Lib.hid hM
      have HNM := Lib.hid hnM
      have HKM : Hid (L.length + K.length ≤ 20000) := Lib.hid (by omega)
      clear hplace hm1 hL hs4 hB4 hK hKn hKm hKB hM hnM hML hE3 rm hnil4
      generalize l4.length = L4 at *
      by_cases hk : k < 12
      · have HE := Lib.hid (spoil_pair signF 127 L hl hf hr k hk x y)
        obtain ⟨E, hE⟩ : ∃ E, (if x = 0 ∧ y = 0 then (0 : Int) else 6) = E := ⟨_, rfl⟩
        obtain ⟨p, hp⟩ : ∃ p, L.getD k 0 = p := ⟨_, rfl⟩
        obtain ⟨q, hq⟩ : ∃ q, L.getD (k + 1) 0 = q := ⟨_, rfl⟩
        have HE2 := HE.out
        rw [hp, hq, hE] at HE2
        have hl2 : ((L.set k (p ^^^ x)).set (k + 1) (q ^^^ y)).length = 13 := by simp [hl]
        obtain ⟨r0, r1, r2, rr⟩ := read_as _ E HE2 13 hl2 (by omega)
        have RR := Lib.hid rr
        clear rr
        have HP := Lib.hid hp
        have HQ := Lib.hid hq
        have HEE := Lib.hid hE
        have hx1 := xor8 p x
        have hx2 := xor8 q y
        have HL2 := Lib.hid hl2
        clear HE HE2 hp hq hE hl2 hl hf hr
        have hk1 : (k : Int) < 12 := by omega
        go_enter Try.func6, Try.ntmps6
        go_upto_region 7 with (first
          | (go_at_call 7; ((with_reducible refine (awake_any _).mono ?_); rintro e w1 ⟨rfl, hb1⟩; have HB1 := Lib.hid hb1; have ⟨c1, _, hz⟩ := boxes1 hb1; clear hb1))
          | (go_at_call 8; ((with_reducible refine (P1.out _).mono ?_); rintro e w2 ⟨A2, cap2, rfl, hB2, hca, hma, hb2⟩; rw [HL.out] at hB2; have BY2 := Lib.hid hB2; have CA := Lib.hid (And.intro hca hma); have HX : Hid (A2 = none → L.length = 0 ∧ cap2 = 0) := Lib.hid (fun h => by obtain ⟨b, o, e, _⟩ := hB2 (by have := HLL.out; omega); rw [h] at e; cases e); have HB2 := Lib.hid (boxes1 (HB1.out.trans (hb2.mono HB1.out.size))).2.1; clear c1 hz hb2 hB2 hca hma))
          | (go_at_call 15; ((with_reducible refine (copy_any L 13 HLL.out HM.out _ A2 cap2 _ BY2.out (Nat.le_refl _) HX.out).mono ?_); rintro e w3 ⟨v3, rfl, hO3, hb3⟩; have HO3 := Lib.hid hO3; have HB3 := Lib.hid hb3; clear hO3 hb3)))
        obtain ⟨g, c3, rfl, hg1, hg2, hA3, hc3, hm3⟩ := own_arr HO3.out (by have := HLL.out; omega)
        rw [HLL.out] at hA3 hc3 ⊢
        have p1 : w3.cell? ⟨g, k, none⟩ = some (.int .u8 (v8 p)) := by rw [← HP.out]; exact (hA3 k (by omega)).1
        have p3 : w3.cell? ⟨g, k + 1, none⟩ = some (.int .u8 (v8 q)) := by rw [← HQ.out]; exact (hA3 (k + 1) (by omega)).1
        have p2 := (hA3 k (by omega)).2
        have p4 := (hA3 (k + 1) (by omega)).2
        obtain ⟨w4, e4, hA4, b4, _⟩ := hA3.put k (by omega) (.int .u8 (v8 (p ^^^ x)))
        obtain ⟨w5, e5, hA5, b5, _⟩ := hA4.put (k + 1) (by omega) (.int .u8 (v8 (q ^^^ y)))
        have HW5 := Lib.hid (show (w3.setCell ⟨g, k, none⟩ (.int .u8 (v8 (p ^^^ x)))).setCell ⟨g, k + 1, none⟩ (.int .u8 (v8 (q ^^^ y))) = w5 by rw [e4, e5])
        have HB5 : Hid (Below w2.heap.size w2 w5) := Lib.hid (HB3.out.trans ((b4 _ hg1).trans (b5 _ hg1)))
        have BY5 : Hid (Bytes w5 w5.heap.size (some ⟨g, 0, none⟩) ((L.set k (p ^^^ x)).set (k + 1) (q ^^^ y))) := Lib.hid (hA5.bytes _ (by rw [HL2.out]; exact Nat.le_refl _) (fun i hi => by
          have hl := HLL.out
          rw [getD_set _ _ _ _ (by rw [List.length_set]; omega), getD_set _ _ _ _ (by omega)]
          by_cases e1 : i = k + 1
          · rw [if_pos e1, if_pos e1]
          · rw [if_neg e1, if_neg e1]
            by_cases e2 : i = k
            · rw [if_pos e2, if_pos e2]
            · rw [if_neg e2, if_neg e2]) (by have := (b4 0 (Nat.zero_le _)).size; have := (b5 0 (Nat.zero_le _)).size; omega))
        have HC3 := Lib.hid (And.intro hc3 hm3)
        clear hA3 hA4 hA5 b4 b5 e4 e5 hc3 hm3
        go_upto_region 11 with (fail)
        rw [HW5.out]
        clear p1 p2 p3 p4 hx1 hx2 HW5
        have hkc : k ≤ cap2 := by have := CA.out.1; omega
        have hkc2 : (k : Int) ≤ (cap2 : Int) := by omega
        go_upto_region 13 with (first
          | (go_at_call 12; ((with_reducible refine (RR.out _ _ c3 HC3.out.1 HC3.out.2 w5 BY5.out (Nat.le_refl _)).mono ?_); rintro e w6 ⟨rfl, hb⟩; have HB6 := Lib.hid (HB5.out.trans (hb.mono HB5.out.size)); clear hb))
          | (go_at_call 12; ((with_reducible refine (RQ.out _ A2 cap2 (by have := CA.out.1; omega) CA.out.2 _ ((BY2.out.take k).below (HB6.out.trans (by repeat (first | exact Below.refl _ _ | (refine Below.setCell ?_ HB6.out.size _) | (refine Below.alloc ?_ HB6.out.size _))))) (by simp; have := HB6.out.size; omega)).mono ?_); rintro e w7 ⟨rfl, hb⟩; have HB7 := Lib.hid (after HB6.out (by repeat (first | exact Below.refl _ _ | (refine Below.setCell ?_ HB6.out.size _) | (refine Below.alloc ?_ HB6.out.size _))) hb); clear hb)))
        rcases spoil_cases x y E HEE.out with ⟨rfl, t1, t2⟩ | ⟨rfl, t1, t2⟩ | ⟨rfl, t1⟩
        all_goals
          clear HEE
          have hmin0 : (0 : Int) ≤ min (L4 : Int) 40 := by omega
          have hmin1 : min (L4 : Int) 40 ≤ (cap4 : Int) := by omega
          have hmin2 : (min (L4 : Int) 40).toNat ≤ cap4 := by omega
          go_upto_region 15 with (fail)
          go_region_held3 (fun _ => True) (trivial)
            (first
              | (go_at_call 15; refine (copy_any L 13 HLL.out HM.out w2.heap.size A2 cap2 _ (BY2.out.below (HB7.out.alloc HB7.out.size _).drew) (Nat.le_trans HB7.out.size (by simp)) HX.out).mono ?_; rintro e w9 ⟨v9, rfl, hO9, hb9⟩; have HO9 := Lib.hid hO9; have HB9 := Lib.hid (after HB7.out ((Below.refl _ _).alloc HB7.out.size _).drew hb9); have Z9 := Lib.hid hb9.size; clear hO9 hb9)
              | (refine step_append_bytes _ (by rfl) _ _ (by rfl) _ v9 L (by rfl) HO9.out w.heap.size a4 _ cap4 K HKN.out (by rfl) (HKB.out.below (HB2.out.trans (HB9.out.mono HB2.out.size))) HKX.out HKM.out Z9.out ?_; intro v10 w10 hO10 hg10 hat10; rw [HMM.out] at hO10; obtain ⟨A10, c10, rfl, hB10, hc10, hm10, _⟩ := hO10.form; rw [HNM.out] at hc10 ⊢; have BY10 := Lib.hid hB10; have C10 := Lib.hid (And.intro hc10 hm10); have HB10 := Lib.hid (HO9.out.lays HB9.out (Nat.le_trans HB7.out.size (by simp)) (Nat.le_refl _) hg10); clear hO10 hg10 hat10 hB10 hc10 hm10)
              | (go_at_call 12; refine (RM.out _ A10 c10 C10.out.1 C10.out.2 _ BY10.out (Nat.le_refl _)).mono ?_; rintro e w11 ⟨rfl, hb11⟩; have HB11 := Lib.hid (after HB10.out (Below.refl _ _) hb11); clear hb11))
          all_goals
            have HF := Lib.hid (HB2.out.trans (HB11.out.mono HB2.out.size))
            clear hmin0 hmin1 hmin2
            by_cases h0 : L4 = 0
            · have t9 : ((L4 : Int) == 0) = true := by subst h0; rfl
              clear h0
              go_wp2
              go_ret
              exact ⟨rfl, HF.out⟩
            · have e13 := HT3.out h0
              subst e13
              have t9 : ((L4 : Int) == 0) = false := by rw [beq_eq_false_iff_ne]; omega
              clear h0
              go_wp2
              go_ret
              exact ⟨rfl, HF.out⟩
      · have hke : k = 12 := by omega
        have HE := Lib.hid (show rE signF 127 (L.set k (L.getD k 0 ^^^ x)) = if x = 0 then 0 else 6 by rw [hke]; exact spoil_last signF 127 L hl hf hr x)
        obtain ⟨E, hE⟩ : ∃ E, (if x = 0 then (0 : Int) else 6) = E := ⟨_, rfl⟩
        obtain ⟨p, hp⟩ : ∃ p, L.getD k 0 = p := ⟨_, rfl⟩
        have HE2 := HE.out
        rw [hp, hE] at HE2
        have hl2 : (L.set k (p ^^^ x)).length = 13 := by simp [hl]
        obtain ⟨r0, r1, r2, rr⟩ := read_as _ E HE2 13 hl2 (by omega)
        have RR := Lib.hid rr
        clear rr
        have HP := Lib.hid hp
        have HEE := Lib.hid hE
        have hx1 := xor8 p x
        have HL2 := Lib.hid hl2
        clear HE HE2 hp hE hl2 hl hf hr hke
        have hk1 : (12 : Int) ≤ (k : Int) := by omega
        go_enter Try.func6, Try.ntmps6
        go_upto_region 7 with (first
          | (go_at_call 7; ((with_reducible refine (awake_any _).mono ?_); rintro e w1 ⟨rfl, hb1⟩; have HB1 := Lib.hid hb1; have ⟨c1, _, hz⟩ := boxes1 hb1; clear hb1))
          | (go_at_call 8; ((with_reducible refine (P1.out _).mono ?_); rintro e w2 ⟨A2, cap2, rfl, hB2, hca, hma, hb2⟩; rw [HL.out] at hB2; have BY2 := Lib.hid hB2; have CA := Lib.hid (And.intro hca hma); have HX : Hid (A2 = none → L.length = 0 ∧ cap2 = 0) := Lib.hid (fun h => by obtain ⟨b, o, e, _⟩ := hB2 (by have := HLL.out; omega); rw [h] at e; cases e); have HB2 := Lib.hid (boxes1 (HB1.out.trans (hb2.mono HB1.out.size))).2.1; clear c1 hz hb2 hB2 hca hma))
          | (go_at_call 15; ((with_reducible refine (copy_any L 13 HLL.out HM.out _ A2 cap2 _ BY2.out (Nat.le_refl _) HX.out).mono ?_); rintro e w3 ⟨v3, rfl, hO3, hb3⟩; have HO3 := Lib.hid hO3; have HB3 := Lib.hid hb3; clear hO3 hb3)))
        obtain ⟨g, c3, rfl, hg1, hg2, hA3, hc3, hm3⟩ := own_arr HO3.out (by have := HLL.out; omega)
        rw [HLL.out] at hA3 hc3 ⊢
        have p1 : w3.cell? ⟨g, k, none⟩ = some (.int .u8 (v8 p)) := by rw [← HP.out]; exact (hA3 k (by omega)).1
        have p2 := (hA3 k (by omega)).2
        obtain ⟨w4, e4, hA4, b4, _⟩ := hA3.put k (by omega) (.int .u8 (v8 (p ^^^ x)))
        have HW5 := Lib.hid e4
        have HB5 : Hid (Below w2.heap.size w2 w4) := Lib.hid (HB3.out.trans (b4 _ hg1))
        have BY5 : Hid (Bytes w4 w4.heap.size (some ⟨g, 0, none⟩) (L.set k (p ^^^ x))) := Lib.hid (hA4.bytes _ (by rw [HL2.out]; exact Nat.le_refl _) (fun i hi => by
          have hl := HLL.out
          rw [getD_set _ _ _ _ (by omega)]
          by_cases e2 : i = k
          · rw [if_pos e2, if_pos e2]
          · rw [if_neg e2, if_neg e2]) (by have := (b4 0 (Nat.zero_le _)).size; omega))
        have HC3 := Lib.hid (And.intro hc3 hm3)
        clear hA3 hA4 b4 e4 hc3 hm3
        go_upto_region 11 with (fail)
        rw [HW5.out]
        clear p1 p2 hx1 HW5
        have hkc : k ≤ cap2 := by have := CA.out.1; omega
        have hkc2 : (k : Int) ≤ (cap2 : Int) := by omega
        go_upto_region 13 with (first
          | (go_at_call 12; ((with_reducible refine (RR.out _ _ c3 HC3.out.1 HC3.out.2 w4 BY5.out (Nat.le_refl _)).mono ?_); rintro e w6 ⟨rfl, hb⟩; have HB6 := Lib.hid (HB5.out.trans (hb.mono HB5.out.size)); clear hb))
          | (go_at_call 12; ((with_reducible refine (RQ.out _ A2 cap2 (by have := CA.out.1; omega) CA.out.2 _ ((BY2.out.take k).below (HB6.out.trans (by repeat (first | exact Below.refl _ _ | (refine Below.setCell ?_ HB6.out.size _) | (refine Below.alloc ?_ HB6.out.size _))))) (by simp; have := HB6.out.size; omega)).mono ?_); rintro e w7 ⟨rfl, hb⟩; have HB7 := Lib.hid (after HB6.out (by repeat (first | exact Below.refl _ _ | (refine Below.setCell ?_ HB6.out.size _) | (refine Below.alloc ?_ HB6.out.size _))) hb); clear hb)))
        rcases spoil_case x E HEE.out with ⟨rfl, t1⟩ | ⟨rfl, t1⟩
        all_goals
          clear HEE
          have hmin0 : (0 : Int) ≤ min (L4 : Int) 40 := by omega
          have hmin1 : min (L4 : Int) 40 ≤ (cap4 : Int) := by omega
          have hmin2 : (min (L4 : Int) 40).toNat ≤ cap4 := by omega
          go_upto_region 15 with (fail)
          go_region_held3 (fun _ => True) (trivial)
            (first
              | (go_at_call 15; refine (copy_any L 13 HLL.out HM.out w2.heap.size A2 cap2 _ (BY2.out.below (HB7.out.alloc HB7.out.size _).drew) (Nat.le_trans HB7.out.size (by simp)) HX.out).mono ?_; rintro e w9 ⟨v9, rfl, hO9, hb9⟩; have HO9 := Lib.hid hO9; have HB9 := Lib.hid (after HB7.out ((Below.refl _ _).alloc HB7.out.size _).drew hb9); have Z9 := Lib.hid hb9.size; clear hO9 hb9)
              | (refine step_append_bytes _ (by rfl) _ _ (by rfl) _ v9 L (by rfl) HO9.out w.heap.size a4 _ cap4 K HKN.out (by rfl) (HKB.out.below (HB2.out.trans (HB9.out.mono HB2.out.size))) HKX.out HKM.out Z9.out ?_; intro v10 w10 hO10 hg10 hat10; rw [HMM.out] at hO10; obtain ⟨A10, c10, rfl, hB10, hc10, hm10, _⟩ := hO10.form; rw [HNM.out] at hc10 ⊢; have BY10 := Lib.hid hB10; have C10 := Lib.hid (And.intro hc10 hm10); have HB10 := Lib.hid (HO9.out.lays HB9.out (Nat.le_trans HB7.out.size (by simp)) (Nat.le_refl _) hg10); clear hO10 hg10 hat10 hB10 hc10 hm10)
              | (go_at_call 12; refine (RM.out _ A10 c10 C10.out.1 C10.out.2 _ BY10.out (Nat.le_refl _)).mono ?_; rintro e w11 ⟨rfl, hb11⟩; have HB11 := Lib.hid (after HB10.out (Below.refl _ _) hb11); clear hb11))
          all_goals
            have HF := Lib.hid (HB2.out.trans (HB11.out.mono HB2.out.size))
            clear hmin0 hmin1 hmin2
            by_cases h0 : L4 = 0
            · have t9 : ((L4 : Int) == 0) = true := by subst h0; rfl
              clear h0
              go_wp2
              go_ret
              exact ⟨rfl, HF.out⟩
            · have e13 := HT3.out h0
              subst e13
              have t9 : ((L4 : Int) == 0) = false := by rw [beq_eq_false_iff_ne]; omega
              clear h0
              go_wp2
              go_ret
              exact ⟨rfl, HF.out⟩
end Go.Proofs.Ytbecbiglinkijaa.frameSpoilt
