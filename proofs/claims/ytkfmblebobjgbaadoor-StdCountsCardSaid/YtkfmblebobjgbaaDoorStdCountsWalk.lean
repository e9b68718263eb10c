/- The walk of the law StdCounts: whatever is told, call by call: it returns true, and what was in memory is as it was. -/
import Derived.Test.YtkfmblebobjgbaaDoorStPar
namespace Go.Proofs.YtkfmblebobjgbaaDoor.stdCounts
open Go.ChangeShapes Go.WideShapes Go.ChangeAt Go.RowKit Go.Proofs.YtkfmblebobjgbaaDoor.k Go.Proofs.YtkfmblebobjgbaaDoor.rr Go.Proofs.YtkfmblebobjgbaaDoor.sd Go.Proofs.YtkfmblebobjgbaaDoor
set_option linter.unusedVariables false

def nextN (s r x : Bool) (n : Int) : Int := if r = true then 0 else if (s && !x) = true then n + 1 else n
theorem ctu_next {m1 m2 pv n : Int} {s r x : Bool} (h1 : m1 = 0 ∨ m1 = 1) (h2 : m2 = 0 ∨ m2 = 2) (es : (m1 == 1) = s) (er : (m2 == 2) = r) (hn : 0 ≤ n ∧ n ≤ 300) : ctuL m1 m2 pv n (bi x) = [m1, m2, pv, bi (decide (pv ≤ nextN s r x n)), nextN s r x n, bi s] := by
  subst es er
  have e : cuV m1 m2 n (bi x) = nextN (m1 == 1) (m2 == 2) x n := by
    unfold cuV nextN
    have hne : n ≠ 9223372036854775807 := by omega
    rcases h1 with rfl | rfl <;> rcases h2 with rfl | rfl <;> cases x <;> simp [bi, hne]
  have f1 : b2 (pv ≤ nextN (m1 == 1) (m2 == 2) x n) = bi (decide (pv ≤ nextN (m1 == 1) (m2 == 2) x n)) := b2_bi (by simp)
  have f2 : b2 (m1 ≠ 0) = bi (m1 == 1) := b2_bi (by rcases h1 with rfl | rfl <;> simp)
  unfold ctuL
  rw [e, f1, f2]
theorem rt_next {m1 : Int} {s x : Bool} (h1 : m1 = 0 ∨ m1 = 1) (es : (m1 == 1) = s) : rtL m1 (bi x) = [m1, bi (s && !x), bi s] := by
  subst es
  unfold rtL
  rw [b2_bi (b := m1 == 1 && !x), b2_bi (b := m1 == 1)]
  all_goals rcases h1 with rfl | rfl <;> cases x <;> simp [bi]
theorem ft_next {m1 : Int} {s x : Bool} (h1 : m1 = 0 ∨ m1 = 1) (es : (m1 == 1) = s) : ftL m1 (bi x) = [m1, bi (!s && x), bi s] := by
  subst es
  unfold ftL
  rw [b2_bi (b := !(m1 == 1) && x), b2_bi (b := m1 == 1)]
  all_goals rcases h1 with rfl | rfl <;> cases x <;> simp [bi]
theorem next_in {n : Int} {s r x : Bool} {q : Nat} (hn : 0 ≤ n ∧ n ≤ q) : 0 ≤ nextN s r x n ∧ nextN s r x n ≤ ((q + 1 : Nat) : Int) := by
  unfold nextN
  repeat' split
  all_goals omega
set_option maxRecDepth 100000 in
set_option maxHeartbeats 8000000 in
theorem walk (pv : Int) (a : Option Addr) (len cap : Nat) (zs : List Int) (w : World) (hp : (Lit.int .i64 pv).wf = true) (hV : IsRow .u8 w a len cap zs) (hL : Laid w) :
    Calls Tryd.prog 4 #[.int .i64 pv, .slice a len cap] w fun e w' => e = .returned (.bool true) ∧ Below w.heap.size w w' := by
  have W1 := Lib.hid hV
  have hlen := len8 hV
  have HP := Lib.hid (wf64 hp)
  clear hV hp
  have HK := Lib.hid (awake_any w hL)
  have LD := Lib.hid hL
  clear hL
  go_enter Tryd.func4, Tryd.ntmps4
  go_upto_region 3 with (go_at_call 6; ((with_reducible refine (HK.out).mono ?_); rintro e w2 ⟨rfl, hb⟩; have HB := Lib.hid hb; clear hb HK))
  obtain ⟨x1, x2, x3, hb, hz⟩ := boxes3 (Below.refl (((w2.alloc (.cells #[.int .i64 0, .int .i64 0, .int .i64 pv, .int .i64 0, .int .i64 0, .int .i64 0] 2)).alloc (.cells #[.int .i64 0, .int .i64 0, .int .i64 0] 2)).alloc (.cells #[.int .i64 0, .int .i64 0, .int .i64 0] 2)).heap.size (((w2.alloc (.cells #[.int .i64 0, .int .i64 0, .int .i64 pv, .int .i64 0, .int .i64 0, .int .i64 0] 2)).alloc (.cells #[.int .i64 0, .int .i64 0, .int .i64 0] 2)).alloc (.cells #[.int .i64 0, .int .i64 0, .int .i64 0] 2)))
  have hs := HB.out.size
  have HX1 := Lib.hid x1
  have HX2 := Lib.hid x2
  have HX3 := Lib.hid x3
  have HZ := Lib.hid hz
  have HB2 := Lib.hid (HB.out.trans (hb.mono hs))
  clear x1 x2 x3 hb hz
  go_upto_region 4 with (fail)
  generalize (((w2.alloc (.cells #[.int .i64 0, .int .i64 0, .int .i64 pv, .int .i64 0, .int .i64 0, .int .i64 0] 2)).alloc (.cells #[.int .i64 0, .int .i64 0, .int .i64 0] 2)).alloc (.cells #[.int .i64 0, .int .i64 0, .int .i64 0] 2)) = w3 at *
  go_wp2_with fail
  go_loopw [5, 6, 7, 8, 9, 10] (fun s5 s6 s7 s8 s9 s10 wr => ∃ (q : Nat) (g1 c1 g2 c2 g3 c3 : Nat) (a1 b1 q1 a2 b2 a3 b3 n : Int) (x : Bool), q ≤ len ∧ q ≤ 300 ∧ s5 = .slice (some ⟨g1, 0, none⟩) 6 c1 ∧ s6 = .slice (some ⟨g2, 0, none⟩) 3 c2 ∧ s7 = .slice (some ⟨g3, 0, none⟩) 3 c3 ∧ s8 = .int .i64 n ∧ s9 = .bool x ∧ s10 = .int .i64 q ∧ Box wr g1 0 [.int .i64 a1, .int .i64 b1, .int .i64 pv, .int .i64 q1, .int .i64 n, .int .i64 (bi x)] ∧ Box wr g2 0 [.int .i64 a2, .int .i64 b2, .int .i64 (bi x)] ∧ Box wr g3 0 [.int .i64 a3, .int .i64 b3, .int .i64 (bi x)] ∧ (InR q1 ∧ InR b2 ∧ InR b3) ∧ (0 ≤ n ∧ n ≤ q) ∧ (g1 ≠ g2 ∧ g1 ≠ g3 ∧ g2 ≠ g3) ∧ (w.heap.size ≤ g1 ∧ w.heap.size ≤ g2 ∧ w.heap.size ≤ g3) ∧ (g1 < wr.heap.size ∧ g2 < wr.heap.size ∧ g3 < wr.heap.size) ∧ (6 ≤ c1 ∧ c1 ≤ maxLen) ∧ (3 ≤ c2 ∧ c2 ≤ maxLen) ∧ (3 ≤ c3 ∧ c3 ≤ maxLen) ∧ Below w.heap.size w wr) (fun _ _ _ _ _ i _ => (301 - intOf i).toNat)
  case atStart =>
    have hz := HZ.out
    exact ⟨0, w2.heap.size, 6, w2.heap.size + 1, 3, w2.heap.size + 2, 3, 0, 0, 0, 0, 0, 0, 0, 0, false, Nat.zero_le _, by omega, rfl, rfl, rfl, rfl, rfl, rfl, HX1.out, HX2.out, HX3.out, ⟨bi_in false, bi_in false, bi_in false⟩, ⟨by omega, by omega⟩, ⟨by omega, by omega, by omega⟩, ⟨hs, by omega, by omega⟩, ⟨by omega, by omega, hz⟩, ⟨by omega, by unfold maxLen; omega⟩, ⟨by omega, by unfold maxLen; omega⟩, ⟨by omega, by unfold maxLen; omega⟩, HB2.out⟩
  case round =>
    obtain ⟨q, g1, c1, g2, c2, g3, c3, a1, b1, q1, a2, b2, a3, b3, n, x, hq, hq3, rfl, rfl, rfl, rfl, rfl, rfl, hX1, hX2, hX3, hi, hn, hne, hg, hz, hc1, hc2, hc3, hb⟩ := hrel
    clear HX1 HX2 HX3 HZ HB2 HB hs
    have HX1 := Lib.hid hX1
    have HX2 := Lib.hid hX2
    have HX3 := Lib.hid hX3
    have HB := Lib.hid hb
    have HI := Lib.hid hi
    have HC1 := Lib.hid hc1
    have HC2 := Lib.hid hc2
    have HC3 := Lib.hid hc3
    have HG := Lib.hid hg
    have HZ := Lib.hid hz
    obtain ⟨ne12, ne13, ne23⟩ := hne
    have HN := Lib.hid hn
    clear hX1 hX2 hX3 hb hi hc1 hc2 hc3 hg hz hn
    by_cases hlt : q < len
    · by_cases hlt3 : q < 300
      · obtain ⟨b, off, rfl, hbw, hcap, hcm, hrow⟩ := at8 W1.out (by omega)
        obtain ⟨z, hz, hz0⟩ := hrow q hlt
        have hck : wr.cell? ⟨b, off + q, none⟩ = some (.int .u8 z) := (HB.out.cell (p := ⟨b, off + q, none⟩) hbw).trans hz0
        clear hrow hz0
        obtain ⟨l1, l2⟩ := low hz
        obtain ⟨m1, e1⟩ : ∃ m, bits .and .u8 z 1 = m := ⟨_, rfl⟩
        obtain ⟨m2, e2⟩ : ∃ m, bits .and .u8 z 2 = m := ⟨_, rfl⟩
        rw [e1] at l1
        rw [e2] at l2
        have k1 : IntKind.i64.wrap m1 = m1 := by rcases l1 with rfl | rfl <;> rfl
        have k2 : IntKind.i64.wrap m2 = m2 := by rcases l2 with rfl | rfl <;> rfl
        have L1 := Lib.hid l1
        have L2 := Lib.hid l2
        clear l1 l2 hz
        go_upto_region 9 with (fail)
        go_quiet (fail)
        go_upto_region 10 with (fail)
        obtain ⟨na, hna⟩ : ∃ t, nq = t := ⟨_, rfl⟩
        rw [hna]
        clear hna
        go_quiet (fail)
        go_upto_region 11 with (fail)
        obtain ⟨yy, ey⟩ : ∃ W, (wr.drewN na).drewN nq = W := ⟨_, rfl⟩
        have X1 : Hid (Box yy g1 0 [.int .i64 a1, .int .i64 b1, .int .i64 pv, .int .i64 q1, .int .i64 n, .int .i64 (bi x)]) := Lib.hid (ey ▸ (HX1.out.drawn na).drawn nq)
        have X2 : Hid (Box yy g2 0 [.int .i64 a2, .int .i64 b2, .int .i64 (bi x)]) := Lib.hid (ey ▸ (HX2.out.drawn na).drawn nq)
        have X3 : Hid (Box yy g3 0 [.int .i64 a3, .int .i64 b3, .int .i64 (bi x)]) := Lib.hid (ey ▸ (HX3.out.drawn na).drawn nq)
        have HB1 : Hid (Below w.heap.size w yy) := Lib.hid (ey ▸ below_drawn (below_drawn HB.out na) nq)
        have Z : Hid (g1 < yy.heap.size ∧ g2 < yy.heap.size ∧ g3 < yy.heap.size) := Lib.hid (by subst ey; exact HZ.out)
        rw [ey]
        clear ey hck HX1 HX2 HX3 HB HZ
        obtain ⟨s, es⟩ : ∃ s, (m1 == 1) = s := ⟨_, rfl⟩
        obtain ⟨r, er⟩ : ∃ r, (m2 == 2) = r := ⟨_, rfl⟩
        rw [es, er]
        have hd : decide ((q : Int) < 300) = true := by simp; omega
        rw [hd]
        have ES := Lib.hid es
        have ER := Lib.hid er
        clear es er hd e1 e2
        have wn : IntKind.i64.wrap (n + 1) = n + 1 := wrap_id (by have := HN.out; omega) (by have := HN.out; omega)
        have N1 : Hid (ctuL m1 m2 pv n (bi x) = [m1, m2, pv, (bi (decide (pv ≤ nextN s r x n))), (nextN s r x n), (bi s)]) := Lib.hid (ctu_next L1.out L2.out ES.out ER.out (by have := HN.out; omega))
        have N2 : Hid (rtL m1 (bi x) = [m1, bi (s && !x), bi s]) := Lib.hid (rt_next L1.out ES.out)
        have N3 : Hid (ftL m1 (bi x) = [m1, bi (!s && x), bi s]) := Lib.hid (ft_next L1.out ES.out)
        have NI := Lib.hid (next_in (s := s) (r := r) (x := x) HN.out)
        clear ES ER
        cases s <;> cases r <;> cases x
        all_goals
          have ⟨a0, f0⟩ := cell_of X1.out (i := 0) rfl
          have ⟨a1', f1⟩ := cell_of X1.out (i := 1) rfl
          have ⟨a2', f2⟩ := cell_of X2.out (i := 0) rfl
          have ⟨a3', f3⟩ := cell_of X3.out (i := 0) rfl
          go_upto_region 16 with (fail)
          obtain ⟨y4, e4⟩ : ∃ W, ((((yy.setCell ⟨g1, 0, none⟩ (.int .i64 m1)).setCell ⟨g1, 1, none⟩ (.int .i64 m2)).setCell ⟨g2, 0, none⟩ (.int .i64 m1)).setCell ⟨g3, 0, none⟩ (.int .i64 m1)) = W := ⟨_, rfl⟩
          rw [e4]
          have Y1 : Hid (Box y4 g1 0 [.int .i64 m1, .int .i64 m2, .int .i64 pv, .int .i64 q1, .int .i64 n, .int .i64 (bi _)]) := Lib.hid (e4 ▸ Box_aside (Ne.symm ne13) _ (Box_aside (Ne.symm ne12) _ ((X1.out.put 0 (by simp) (.int .i64 m1)).put 1 (by simp) (.int .i64 m2))))
          have Y2 : Hid (Box y4 g2 0 [.int .i64 m1, .int .i64 b2, .int .i64 (bi _)]) := Lib.hid (e4 ▸ Box_aside (Ne.symm ne23) _ ((Box_aside ne12 _ (Box_aside ne12 _ X2.out)).put 0 (by simp) (.int .i64 m1)))
          have Y3 : Hid (Box y4 g3 0 [.int .i64 m1, .int .i64 b3, .int .i64 (bi _)]) := Lib.hid (e4 ▸ (Box_aside ne23 _ (Box_aside ne13 _ (Box_aside ne13 _ X3.out))).put 0 (by simp) (.int .i64 m1))
          have HB4 : Hid (Below w.heap.size w y4) := Lib.hid (e4 ▸ (((HB1.out.setCell HG.out.1 _).setCell HG.out.1 _).setCell HG.out.2.1 _).setCell HG.out.2.2 _)
          have Z4 : Hid (g1 < y4.heap.size ∧ g2 < y4.heap.size ∧ g3 < y4.heap.size) := Lib.hid (by rw [← e4]; simpa using Z.out)
          clear e4 a0 f0 a1' f1 a2' f2 a3' f3 X1 X2 X3 HB1 Z
          have S1 := step_ctu m1 m2 pv q1 n (bi _) (rd_box (n := 6) (L := [m1, m2, pv, q1, n, bi _]) Y1.out Z4.out.1 HC1.out.1 HC1.out.2 rfl) (Nat.le_refl _) (bit_in L1.out) (bit2_in L2.out) HP.out HI.out.1 (show InR n from by have := HN.out; unfold InR; omega) (bi_in _) (LD.out.below HB4.out)
          rw [N1.out] at S1
          have S1 := Lib.hid S1
          go_wp2_with (go_at_call 7; fail)
          with_reducible refine (S1.out).mono ?_
          rintro e y5 ⟨h1, d1, rfl, hh1, hz5, hd1, hdm1, _, xx1, hb5⟩
          have P1 := Lib.hid xx1
          have Y2 := Lib.hid (Y2.out.below hb5 Z4.out.2.1)
          have Y3 := Lib.hid (Y3.out.below hb5 Z4.out.2.2)
          have HB5 := Lib.hid (HB4.out.trans (hb5.mono HB4.out.size))
          have D1 := Lib.hid (⟨hd1, hdm1⟩ : 6 ≤ d1 ∧ d1 ≤ maxLen)
          have N5 := Lib.hid (⟨Nat.le_trans HB4.out.size hh1, hz5⟩ : w.heap.size ≤ h1 ∧ h1 < y5.heap.size)
          have Z5 : Hid (g2 < y5.heap.size ∧ g3 < y5.heap.size) := Lib.hid ⟨Nat.lt_of_lt_of_le Z4.out.2.1 hb5.size, Nat.lt_of_lt_of_le Z4.out.2.2 hb5.size⟩
          clear xx1 hb5 hh1 hz5 hd1 hdm1 S1
          have S2 := step_rt m1 b2 (bi _) (rd_box (n := 3) (L := [m1, b2, bi _]) Y2.out Z5.out.1 HC2.out.1 HC2.out.2 rfl) (Nat.le_refl _) (bit_in L1.out) HI.out.2.1 (bi_in _) (LD.out.below HB5.out)
          rw [N2.out] at S2
          have S2 := Lib.hid S2
          go_wp2_with (go_at_call 7; fail)
          with_reducible refine (S2.out).mono ?_
          rintro e y6 ⟨h2, d2, rfl, hh2, hz6, hd2, hdm2, _, xx2, hb6⟩
          have P1 := Lib.hid (P1.out.below hb6 N5.out.2)
          have P2 := Lib.hid xx2
          have Y3 := Lib.hid (Y3.out.below hb6 Z5.out.2)
          have HB6 := Lib.hid (HB5.out.trans (hb6.mono HB5.out.size))
          have D2 := Lib.hid (⟨hd2, hdm2⟩ : 3 ≤ d2 ∧ d2 ≤ maxLen)
          have N6 := Lib.hid (⟨Nat.lt_of_lt_of_le N5.out.2 hh2, hz6, hb6.size⟩ : h1 < h2 ∧ h2 < y6.heap.size ∧ y5.heap.size ≤ y6.heap.size)
          have Z6 : Hid (g3 < y6.heap.size) := Lib.hid (Nat.lt_of_lt_of_le Z5.out.2 hb6.size)
          clear xx2 hb6 hh2 hz6 hd2 hdm2 S2
          have S3 := step_ft m1 b3 (bi _) (rd_box (n := 3) (L := [m1, b3, bi _]) Y3.out Z6.out HC3.out.1 HC3.out.2 rfl) (Nat.le_refl _) (bit_in L1.out) HI.out.2.2 (bi_in _) (LD.out.below HB6.out)
          rw [N3.out] at S3
          have S3 := Lib.hid S3
          go_wp2_with (go_at_call 7; fail)
          with_reducible refine (S3.out).mono ?_
          rintro e y7 ⟨h3, d3, rfl, hh3, hz7, hd3, hdm3, _, xx3, hb7⟩
          have P1 := Lib.hid (P1.out.below hb7 (Nat.lt_of_lt_of_le N5.out.2 N6.out.2.2))
          have P2 := Lib.hid (P2.out.below hb7 N6.out.2.1)
          have P3 := Lib.hid xx3
          have HB7 := Lib.hid (HB6.out.trans (hb7.mono HB6.out.size))
          have D3 := Lib.hid (⟨hd3, hdm3⟩ : 3 ≤ d3 ∧ d3 ≤ maxLen)
          have N7 := Lib.hid (⟨Nat.lt_of_lt_of_le N6.out.2.1 hh3, hz7⟩ : h2 < h3 ∧ h3 < y7.heap.size)
          clear xx3 hb7 hh3 hz7 hd3 hdm3 S3 N1 N2 N3
          go_upto_region 17 with (fail)
          have t0 := (cell_of P1.out (i := 4) rfl).1
          have t1 := (cell_of P1.out (i := 3) rfl).1
          have t2 := (cell_of P2.out (i := 1) rfl).1
          have t3 := (cell_of P3.out (i := 1) rfl).1
          simp [nextN, bi] at t0 t1 t2 t3
          split at t1
          all_goals
            go_wp2_with fail
            go_roundw
            case rel =>
              have n1 := N5.out
              have n2 := N6.out
              have n3 := N7.out
              have n0 := NI.out
              exact ⟨q + 1, h1, d1, h2, d2, h3, d3, _, _, _, _, _, _, _, _, _, by omega, by omega, rfl, rfl, rfl, rfl, rfl, by go_num, P1.out, P2.out, P3.out, ⟨bi_in _, bi_in _, bi_in _⟩, n0, ⟨by omega, by omega, by omega⟩, ⟨by omega, by omega, by omega⟩, ⟨by omega, by omega, by omega⟩, D1.out, D2.out, D3.out, HB7.out⟩
            case measure => simp [intOf]; omega
      · have : q = 300 := by omega
        subst this
        go_wp2
        go_ret
        exact ⟨rfl, HB.out⟩
    · have : q = len := by omega
      subst this
      go_wp2
      go_ret
      exact ⟨rfl, HB.out⟩
end Go.Proofs.YtkfmblebobjgbaaDoor.stdCounts
