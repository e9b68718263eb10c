/- What servitorref01's MulDiv answers, for all numbers of 64 bits: the product by the third number, rounded down, where it has room; else the document's error. -/
import Derived.Test.YtaohidaijlcplaaRDiv
namespace Go.Proofs.Ytaohidaijlcplaa.r
open Go.ChangeShapes Go.WideShapes Go.ChangeAt Go.RowKit Go.Proofs.Ytaohidaijlcplaa.q
set_option linter.unusedVariables false

set_option maxRecDepth 100000 in
set_option maxHeartbeats 4000000 in
theorem rmuldiv_any (a b c : Int) (h1 : -9223372036854775808 ≤ a) (h2 : a ≤ 9223372036854775807) (h3 : -9223372036854775808 ≤ b) (h4 : b ≤ 9223372036854775807) (h5 : -9223372036854775808 ≤ c) (h6 : c ≤ 9223372036854775807) (w : World) :
    Calls Try.prog 18 #[.int .i64 a, .int .i64 b, .int .i64 c] w fun e w' => e = .returned (.tuple #[.int .i64 (mdV a b c), .int .i64 (mdE a b c)]) ∧ Below w.heap.size w w' := by
  by_cases c0 : c = 0
  · subst c0
    have hv : Hid (mdV a b 0 = 0 ∧ mdE a b 0 = 3) := Lib.hid ⟨rfl, rfl⟩
    go_enter Try.func18, Try.ntmps18
    go_wp2
    go_ret2
    exact ⟨ret2_int hv.out.1.symm hv.out.2.symm, Below.refl _ _⟩
  · by_cases cn : c < 0
    · have hv : Hid (mdV a b c = 0 ∧ mdE a b c = 1) := Lib.hid (by
        unfold mdV mdE; rw [if_pos (by omega), if_neg c0, if_pos cn]; exact ⟨rfl, rfl⟩)
      go_enter Try.func18, Try.ntmps18
      go_wp2
      go_ret2
      exact ⟨ret2_int hv.out.1.symm hv.out.2.symm, Below.refl _ _⟩
    · have cp : 0 < c := by omega
      have ma := mag_le a h1 h2
      have mb := mag_le b h3 h4
      have ec : ((mag c : Nat) : Int) = c := by unfold mag; omega
      have ecn : mag c = c.toNat := by unfold mag; omega
      obtain ⟨a0, a1, la, ea, d1⟩ := of_ex a h1 h2
      obtain ⟨b0, b1, lb, eb, d2⟩ := of_ex b h3 h4
      obtain ⟨e0, e1, le, ee, d3⟩ := of_ex c h5 h6
      have dt := fun (w : World) => times_any (ma := decide (a < 0)) (mb := decide (b < 0)) la lb w
      rw [ea, eb] at dt
      have hcd : decide (c < 0) = false := decide_eq_false cn
      rw [hcd] at d3
      have HF := Lib.hid (floor_any a b c cp)
      have HI := Lib.hid (md_in a b c cp)
      have eP : ((mag a : Nat) : Int) * ((mag b : Nat) : Int) = ((mag a * mag b : Nat) : Int) := (Int.natCast_mul _ _).symm
      rw [eP] at dt
      have hP : mag a * mag b ≤ 9223372036854775808 * 9223372036854775808 := Nat.mul_le_mul ma mb
      have hng : neq a b = (!decide (a < 0) == decide (b < 0)) := rfl
      rw [hng] at HF
      -- the quotient, whatever the product's four parts are
      have c3 := fun (p0 p1 p2 p3 : Int) (lp : Lim p0 p1 p2 p3) (ep : val p0 p1 p2 p3 = ((mag a * mag b : Nat) : Int)) (w : World) => by_any (ma := (!decide (a < 0) == decide (b < 0))) (mb := false) lp le (by rw [ee]; omega) (by rw [ee]; omega) w
      clear la lb ea eb eP hng hcd ma mb
      generalize decide (a < 0) = sa at *
      generalize decide (b < 0) = sb at *
      generalize hneg : (!sa == sb) = neg at *
      go_enter Try.func18, Try.ntmps18
      go_wp2_with (go_at_call 35; fail)
      refine (d1 _).mono ?_
      rintro e w1 ⟨rfl, rfl⟩
      go_wp2_with (go_at_call 35; fail)
      refine (d2 _).mono ?_
      rintro e w1 ⟨rfl, rfl⟩
      go_wp2_with (go_at_call 37; fail)
      refine (dt _).mono ?_
      rintro e w2 ⟨vp, rfl, ⟨p0, p1, p2, p3, rfl, lp, ep⟩, hb2⟩
      have K2 : Below w.heap.size w w2 := (below2' _ _ _).trans (hb2.mono (by simp; omega))
      have c4 := fun (w : World) => c3 p0 p1 p2 p3 lp ep w
      rw [ep, ee] at c4
      have K2s := K2.size
      clear hb2 c3 d1 d2 dt lp ep le ee
      go_upto_region 6 with (fail)
      go_cut [9, 10] from 13 (fun p q wx => ∃ (B9 B10 : Nat) (n0 n1 n2 n3 r0 r1 r2 r3 : Int), p = .pointer (some ⟨B9, 0, none⟩) ∧ q = .pointer (some ⟨B10, 0, none⟩) ∧ w2.heap.size < B9 ∧ w2.heap.size < B10 ∧ B9 ≠ B10 ∧
        Blk wx B9 (.int .u64 n0) (.int .u64 n1) (.int .u64 n2) (.int .u64 n3) (.bool false) ∧ Blk wx B10 (.int .u64 r0) (.int .u64 r1) (.int .u64 r2) (.int .u64 r3) (.bool false) ∧ wx.cell? ⟨w2.heap.size, 4, none⟩ = some (.bool neg) ∧
        Lim n0 n1 n2 n3 ∧ val n0 n1 n2 n3 = ((mag a * mag b / mag c : Nat) : Int) ∧ Lim r0 r1 r2 r3 ∧ val r0 r1 r2 r3 = ((mag a * mag b % mag c : Nat) : Int) ∧ Below w.heap.size w wx ∧ B9 < wx.heap.size ∧ B10 < wx.heap.size)
      case first =>
        simp only [Int.toNat_natCast] at c4
        clear HF HI hP ec ecn
        go_region_held3 (fun w' => w'.cell? ⟨w2.heap.size, 0, none⟩ = some (.int .u64 p0) ∧ w'.cell? ⟨w2.heap.size, 1, none⟩ = some (.int .u64 p1) ∧ w'.cell? ⟨w2.heap.size, 2, none⟩ = some (.int .u64 p2) ∧ w'.cell? ⟨w2.heap.size, 3, none⟩ = some (.int .u64 p3) ∧ w'.cell? ⟨w2.heap.size, 4, none⟩ = some (.bool neg)) (first | (refine ⟨?_, ?_, ?_, ?_, ?_⟩ <;> (simp [go_sem]; done)) | (refine ⟨?_, ?_, ?_, ?_, ?_⟩ <;> (simp [go_sem, *]; done))) (first
        | (go_at_call 35; refine (d3 _).mono ?_; (rintro e w3 ⟨rfl, rfl⟩))
        | (go_at_call 38; refine (c4 _).mono ?_; (rintro e w3 ⟨v1, v2, rfl, ⟨n0, n1, n2, n3, rfl, ln, en⟩, ⟨r0, r1, r2, r3, rfl, lr, er⟩, hb3⟩); (obtain ⟨hc3, hf3⟩ := bcell hb3); (have hz3 : w2.heap.size < w3.heap.size := by ((have := hb3.size); simp at this; omega)); (have hz3b : w2.heap.size < w3.heap.size + 1 := by omega); (have KB : Below w.heap.size w w3 := by ((refine Below.trans (K2.trans (Below.mono ?_ K2s)) (hb3.mono ?_)); rotate_left; (first | (simp; omega) | (simp; done)); (first | (with_reducible exact below2' _ _ _) | (with_reducible exact bel3 _ _ _ _) | (with_reducible exact bel4 _ _ _ _ _) | (with_reducible exact (below2' _ _ _).drew) | (with_reducible exact (bel3 _ _ _ _).drew) | (with_reducible exact (bel4 _ _ _ _ _).drew) | (with_reducible exact below_drewN (below2' _ _ _) _) | (with_reducible exact below_drewN (bel3 _ _ _ _) _) | (with_reducible exact below_drewN (bel4 _ _ _ _ _) _)))); (have hy3 := hb3.size); (simp at hy3); (try (by_cases z1a : w2.heap.size + 1 < w3.heap.size; rotate_left; focus (exfalso; omega))); (try (by_cases z1b : w2.heap.size + 1 < w3.heap.size + 1; rotate_left; focus (exfalso; omega))); (try (by_cases z2a : w2.heap.size + 1 + 1 < w3.heap.size; rotate_left; focus (exfalso; omega))); (try (by_cases z2b : w2.heap.size + 1 + 1 < w3.heap.size + 1; rotate_left; focus (exfalso; omega))); (try (by_cases z3a : w2.heap.size + 1 + 1 + 1 < w3.heap.size; rotate_left; focus (exfalso; omega))); (try (by_cases z3b : w2.heap.size + 1 + 1 + 1 < w3.heap.size + 1; rotate_left; focus (exfalso; omega)))))
        all_goals
          go_wp2_with fail
          go_meet
          refine ⟨_, _, n0, n1, n2, n3, r0, r1, r2, r3, rfl, rfl, ?_, ?_, ?_, ?_, ?_, ?_, ln, en, lr, er, ?_, ?_, ?_⟩
          · omega
          · omega
          · omega
          · constructor <;> (try intro o) <;> first | (simp [go_sem]; done) | (simp [go_sem, *]; done)
          · constructor <;> (try intro o) <;> first | (simp [go_sem]; done) | (simp [go_sem, *]; done)
          · first | (simp [go_sem]; done) | (simp [go_sem, *]; done)
          · repeat (first | (with_reducible exact KB) | (with_reducible refine below_drewN ?_ _) | (with_reducible refine Below.drew ?_) | ((with_reducible refine Below.alloc ?_ ?_ _); rotate_left; (first | omega | (simp; done) | (simp; omega))) | ((with_reducible refine Below.setCell ?_ ?_ _); rotate_left; (first | omega | (simp; done) | (simp; omega))))
          · first | omega | (simp; done) | (simp; omega)
          · first | omega | (simp; done) | (simp; omega)
      case rest =>
        obtain ⟨B9, B10, n0, n1, n2, n3, r0, r1, r2, r3, rfl, rfl, l9, l10, hne, hN, hR, hx4, ln, en, lr, er, KW, z9, z10⟩ := hcut
        have HF1 := HF.out
        rw [← ecn] at HF1
        have KWs := KW.size
        cases neg
        · have HS : Hid (sgn (mag a * mag b / mag c) false = a * b / c) := Lib.hid (by rw [HF1]; rfl)
          have IN : IsW ((mag a * mag b / mag c : Nat) : Int) false (.agg #[.int .u64 n0, .int .u64 n1, .int .u64 n2, .int .u64 n3, .bool false]) := ⟨_, _, _, _, rfl, ln, en⟩
          have c5 := fun (w : World) => room_any IN w
          rw [Int.toNat_natCast] at c5
          obtain ⟨x0, x1, x2, x3, x4, x5⟩ := hN
          clear HF1 IN c4 d3 hR ln en lr er ecn ec hP
          generalize mag a * mag b / mag c = n at *
          go_wp2_with (go_at_call 33; fail)
          by_cases ok : sgB n false = true
          · have yy := Lib.hid ((HI.out n false HS.out).1 ok)
            rw [ok] at c5
            clear HI HF ok
            generalize sgV n false = V at *
            refine (c5 _).mono ?_
            rintro e w9 ⟨rfl, hb9⟩
            have K9 : Hid (Below w.heap.size w w9) := Lib.hid ((KW.setCell (p := ⟨B9, 4, none⟩) (by show w.heap.size ≤ B9; omega) _).trans (hb9.mono (by simp; omega)))
            clear hb9 c5
            go_wp2
            go_ret2
            exact ⟨ret2_int yy.out.1.symm yy.out.2.symm, K9.out⟩
          · have okf : sgB n false = false := Bool.eq_false_iff.mpr ok
            have yy := Lib.hid ((HI.out n false HS.out).2 okf)
            rw [okf] at c5
            clear HI HF ok okf
            generalize sgV n false = V at *
            refine (c5 _).mono ?_
            rintro e w9 ⟨rfl, hb9⟩
            have K9 : Hid (Below w.heap.size w w9) := Lib.hid ((KW.setCell (p := ⟨B9, 4, none⟩) (by show w.heap.size ≤ B9; omega) _).trans (hb9.mono (by simp; omega)))
            clear hb9 c5
            go_wp2
            go_ret2
            exact ⟨ret2_int yy.out.1.symm yy.out.2.symm, K9.out⟩
        · have IR : IsW ((mag a * mag b % mag c : Nat) : Int) false (.agg #[.int .u64 r0, .int .u64 r1, .int .u64 r2, .int .u64 r3, .bool false]) := ⟨_, _, _, _, rfl, lr, er⟩
          have cz := fun (w : World) => zero_any IR w
          have IN : IsW ((mag a * mag b / mag c : Nat) : Int) true (.agg #[.int .u64 n0, .int .u64 n1, .int .u64 n2, .int .u64 n3, .bool true]) := ⟨_, _, _, _, rfl, ln, en⟩
          have hN' := hN
          have hR' := hR
          obtain ⟨x0, x1, x2, x3, x4, x5⟩ := hN'
          obtain ⟨y0, y1, y2, y3, y4, y5⟩ := hR'
          by_cases hr : mag a * mag b % mag c = 0
          · have HS : Hid (sgn (mag a * mag b / mag c) true = a * b / c) := Lib.hid (by rw [HF1, if_pos rfl, if_pos hr]; rfl)
            have c5 := fun (w : World) => room_any IN w
            rw [Int.toNat_natCast] at c5
            have hd : decide (((mag a * mag b % mag c : Nat) : Int) = 0) = true := decide_eq_true (by omega)
            rw [hd] at cz
            clear HF1 IN IR c4 d3 ln en lr er ecn ec hP hd hr
            generalize mag a * mag b / mag c = n at *
            go_wp2_with (go_at_call 39; fail)
            obtain ⟨w4, e4, z4, k4, o4, p4⟩ := Blk.put wc B9 4 (.bool true)
            rw [e4]
            have N4 := p4 _ _ _ _ _ hN
            have K4 : Below w.heap.size w w4 := KW.trans (k4 _ (by omega))
            clear x0 x1 x2 x3 x4 x5 y0 y1 y2 y3 y4 y5 e4 k4 o4 p4
            refine (cz _).mono ?_
            rintro e w5 ⟨rfl, hb5⟩
            have N5 : Blk w5 B9 (.int .u64 n0) (.int .u64 n1) (.int .u64 n2) (.int .u64 n3) (.bool true) := N4.pass hb5 (by omega)
            have K5 : Below w.heap.size w w5 := K4.trans (hb5.mono (by omega))
            have K5s := K5.size
            clear hb5 N4 K4 hN hR cz
            obtain ⟨x0, x1, x2, x3, x4, x5⟩ := N5
            go_wp2_with (go_at_call 33; fail)
            by_cases ok : sgB n true = true
            · have yy := Lib.hid ((HI.out n true HS.out).1 ok)
              rw [ok] at c5
              clear HI HF ok
              generalize sgV n true = V at *
              refine (c5 _).mono ?_
              rintro e w9 ⟨rfl, hb9⟩
              have K9 : Hid (Below w.heap.size w w9) := Lib.hid (K5.trans (hb9.mono (by omega)))
              clear hb9 c5
              go_wp2
              go_ret2
              exact ⟨ret2_int yy.out.1.symm yy.out.2.symm, K9.out⟩
            · have okf : sgB n true = false := Bool.eq_false_iff.mpr ok
              have yy := Lib.hid ((HI.out n true HS.out).2 okf)
              rw [okf] at c5
              clear HI HF ok okf
              generalize sgV n true = V at *
              refine (c5 _).mono ?_
              rintro e w9 ⟨rfl, hb9⟩
              have K9 : Hid (Below w.heap.size w w9) := Lib.hid (K5.trans (hb9.mono (by omega)))
              clear hb9 c5
              go_wp2
              go_ret2
              exact ⟨ret2_int yy.out.1.symm yy.out.2.symm, K9.out⟩
          · have HS : Hid (sgn (mag a * mag b / mag c + 1) true = a * b / c) := Lib.hid (by rw [HF1, if_pos rfl, if_neg hr]; rfl)
            have I1 : IsW 1 false (.agg #[.int .u64 1, .int .u64 0, .int .u64 0, .int .u64 0, .bool false]) := ⟨_, _, _, _, rfl, by constructor <;> omega, by unfold val; omega⟩
            have hlt : mag a * mag b / mag c ≤ mag a * mag b := Nat.div_le_self _ _
            have cs := fun (w : World) => sum_any IN I1 (by unfold top; omega) w
            have hd : decide (((mag a * mag b % mag c : Nat) : Int) = 0) = false := decide_eq_false (by omega)
            rw [hd] at cz
            clear HF1 IN I1 IR c4 d3 ln en lr er ecn ec hP hd hr hlt
            generalize mag a * mag b / mag c = n at *
            go_wp2_with (go_at_call 39; fail)
            obtain ⟨w4, e4, z4, k4, o4, p4⟩ := Blk.put wc B9 4 (.bool true)
            rw [e4]
            have N4 := p4 _ _ _ _ _ hN
            have K4 : Below w.heap.size w w4 := KW.trans (k4 _ (by omega))
            clear x0 x1 x2 x3 x4 x5 y0 y1 y2 y3 y4 y5 e4 k4 o4 p4
            refine (cz _).mono ?_
            rintro e w5 ⟨rfl, hb5⟩
            have N5 : Blk w5 B9 (.int .u64 n0) (.int .u64 n1) (.int .u64 n2) (.int .u64 n3) (.bool true) := N4.pass hb5 (by omega)
            have K5 : Below w.heap.size w w5 := K4.trans (hb5.mono (by omega))
            have K5s := K5.size
            have z5 : B9 < w5.heap.size := by have := hb5.size; omega
            clear hb5 N4 K4 hN hR cz
            have N5' := N5
            obtain ⟨x0, x1, x2, x3, x4, x5⟩ := N5'
            go_wp2_with (go_at_call 40; fail)
            refine (cs _).mono ?_
            rintro e w6 ⟨v, rfl, ⟨s0, s1, s2, s3, rfl, ls, es⟩, hb6⟩
            have N6 := N5.pass hb6 z5
            have K6 : Below w.heap.size w w6 := K5.trans (hb6.mono (by omega))
            have K6s := K6.size
            have c5 := fun (w : World) => room_any (⟨_, _, _, _, rfl, ls, es⟩ : IsW _ true (.agg #[.int .u64 s0, .int .u64 s1, .int .u64 s2, .int .u64 s3, .bool true])) w
            rw [show ((n : Int) + 1).toNat = n + 1 by omega] at c5
            clear x0 x1 x2 x3 x4 x5 N5 K5 hb6 cs ls es
            have N6' := N6
            obtain ⟨x0, x1, x2, x3, x4, x5⟩ := N6'
            go_upto_region 10 with (fail)
            obtain ⟨w7, e7, z7, k7, o7, N7⟩ := Blk.put5 w6 B9 (.int .u64 s0) (.int .u64 s1) (.int .u64 s2) (.int .u64 s3) (.bool true) N6
            rw [e7]
            have K7 : Below w.heap.size w w7 := K6.trans (k7 _ (by omega))
            have K7s := K7.size
            clear x0 x1 x2 x3 x4 x5 e7 k7 o7 N6 K6
            have N7' := N7
            obtain ⟨x0, x1, x2, x3, x4, x5⟩ := N7'
            go_wp2_with (go_at_call 33; fail)
            obtain ⟨w8, e8, z8, k8, o8, p8⟩ := Blk.put w7 B9 4 (.bool true)
            rw [e8]
            have K8 : Below w.heap.size w w8 := K7.trans (k8 _ (by omega))
            have K8s := K8.size
            clear x0 x1 x2 x3 x4 x5 e8 k8 o8 p8 N7 K7
            by_cases ok : sgB (n + 1) true = true
            · have yy := Lib.hid ((HI.out (n + 1) true HS.out).1 ok)
              rw [ok] at c5
              clear HI HF ok
              generalize sgV (n + 1) true = V at *
              refine (c5 _).mono ?_
              rintro e w9 ⟨rfl, hb9⟩
              have K9 : Hid (Below w.heap.size w w9) := Lib.hid (K8.trans (hb9.mono (by omega)))
              clear hb9 c5
              go_wp2
              go_ret2
              exact ⟨ret2_int yy.out.1.symm yy.out.2.symm, K9.out⟩
            · have okf : sgB (n + 1) true = false := Bool.eq_false_iff.mpr ok
              have yy := Lib.hid ((HI.out (n + 1) true HS.out).2 okf)
              rw [okf] at c5
              clear HI HF ok okf
              generalize sgV (n + 1) true = V at *
              refine (c5 _).mono ?_
              rintro e w9 ⟨rfl, hb9⟩
              have K9 : Hid (Below w.heap.size w w9) := Lib.hid (K8.trans (hb9.mono (by omega)))
              clear hb9 c5
              go_wp2
              go_ret2
              exact ⟨ret2_int yy.out.1.symm yy.out.2.symm, K9.out⟩
end Go.Proofs.Ytaohidaijlcplaa.r
