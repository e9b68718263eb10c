/- The walk of the law StdTimers: any time, whatever is told, call by call: it returns true, and what was in memory is as it was. -/
import Derived.Test.YtkfmblebobjgbaaDoorStPar
namespace Go.Proofs.YtkfmblebobjgbaaDoor.stdTimers
open Go.ChangeShapes Go.WideShapes Go.ChangeAt Go.RowKit Go.Proofs.YtkfmblebobjgbaaDoor.k Go.Proofs.YtkfmblebobjgbaaDoor.rr Go.Proofs.YtkfmblebobjgbaaDoor.sd Go.Proofs.YtkfmblebobjgbaaDoor
set_option linter.unusedVariables false

def nextR (s : Bool) (r : Int) : Int := if s = true then r + 1 else 0
def nextL (s x y : Bool) (pt l : Int) : Int := if (s && !x && !y) = true then pt else l
def nextE (s x y : Bool) (pt e : Int) : Int := if (s && !x && !y) = true then (if 0 < pt then 1 else 0) else if y = true then (if e < pt then e + 1 else e) else e
theorem ton_next {pt r : Int} {s : Bool} (hp : 0 ≤ pt) (hr : 0 ≤ r) : tonL (bi s) pt (min r pt) = [bi s, pt, bi (s && decide (pt ≤ nextR s r)), min (nextR s r) pt] := by
  cases s
  · have e : min (0 : Int) pt = 0 := by omega
    simp [tonL, bi, nextR, e]
  · have e : up (min r pt) pt = min (r + 1) pt := by unfold up; split <;> omega
    have f : b2 (pt ≤ up (min r pt) pt) = bi (true && decide (pt ≤ nextR true r)) := b2_bi (by rw [e]; simp [nextR]; omega)
    have g : nextR true r = r + 1 := rfl
    unfold tonL
    rw [f, e, g, if_neg (by simp [bi])]
theorem tp_next {pt e l : Int} {s x y : Bool} (hp : 0 ≤ pt) (hl : l = if y = true then pt - e else 0) (he : e ≤ pt ∨ y = false) : tpL (bi s) pt (bi y) e (bi x) (bi y) = [bi s, pt, bi (decide (0 < nextL s x y pt l)), nextE s x y pt e, bi s, bi (decide (0 < nextL s x y pt l))] := by
  have f : b2 (bi s ≠ 0) = bi s := b2_bi (by cases s <;> simp [bi])
  unfold tpL
  rw [f]
  have hr : rising (bi s) (bi x) (bi y) = (s && !x && !y) := by cases s <;> cases x <;> cases y <;> rfl
  rw [hr]
  unfold nextL nextE
  cases hc : (s && !x && !y)
  · cases y
    · have hl0 : l = 0 := by simpa using hl
      subst hl0
      simp [bi]
    · have hl0 : l = pt - e := by simpa using hl
      subst hl0
      by_cases h : e < pt
      · have h2 : 0 < pt - e := by omega
        simp [bi, h]
      · have h2 : ¬ 0 < pt - e := by omega
        simp [bi, h]
  · by_cases h : 0 < pt
    · simp [bi, h]
    · have h0 : pt = 0 := by omega
      subst h0
      simp [bi]
theorem left_next {pt e l : Int} {s x y : Bool} (hp : 0 ≤ pt ∧ pt ≤ 255) (hl : l = if y = true then pt - e else 0) (he : 0 ≤ e ∧ e ≤ 255) (h2 : e ≤ pt ∨ y = false) :
    (0 ≤ nextE s x y pt e ∧ nextE s x y pt e ≤ 255) ∧ (nextE s x y pt e ≤ pt ∨ decide (0 < nextL s x y pt l) = false) ∧ (0 ≤ nextL s x y pt l ∧ nextL s x y pt l ≤ 255) ∧ max (nextL s x y pt l - 1) 0 = if decide (0 < nextL s x y pt l) = true then pt - nextE s x y pt e else 0 := by
  unfold nextE nextL
  cases hc : (s && !x && !y)
  · cases y
    · have hl0 : l = 0 := by simpa using hl
      subst hl0
      simp
      omega
    · have hl0 : l = pt - e := by simpa using hl
      subst hl0
      have h3 : e ≤ pt := by simpa using h2
      by_cases h : e < pt
      · have h4 : 0 < pt - e := by omega
        simp [h]
        omega
      · have h4 : ¬ 0 < pt - e := by omega
        simp [h]
        omega
  · by_cases h : 0 < pt
    · simp [h]
      omega
    · have h0 : pt = 0 := by omega
      subst h0
      simp
      omega
set_option maxRecDepth 100000 in
set_option maxHeartbeats 8000000 in
theorem walk (pt : Int) (a : Option Addr) (len cap : Nat) (V : Nat → Bool) (w : World) (hp : (Lit.int .u8 pt).wf = true) (hV : IsTruths w a len cap V) (hL : Laid w) :
    Calls Tryd.prog 3 #[.int .u8 pt, .slice a len cap] w fun e w' => e = .returned (.bool true) ∧ Below w.heap.size w w' := by
  have W1 := Lib.hid hV
  have hlen := hV.len
  have hp := k.wf8 hp
  have HP := Lib.hid hp
  have pw : IntKind.i64.wrap pt = pt := wrap_id (by omega) (by omega)
  clear hV hp
  have HK := Lib.hid (awake_any w hL)
  have LD := Lib.hid hL
  clear hL
  go_enter Tryd.func3, Tryd.ntmps3
  go_upto_region 3 with (go_at_call 6; ((with_reducible refine (HK.out).mono ?_); rintro e w2 ⟨rfl, hb⟩; have HB := Lib.hid hb; clear hb HK))
  obtain ⟨x1, x2, hb, hz⟩ := boxes2 (Below.refl ((w2.alloc (.cells #[.int .i64 0, .int .i64 pt, .int .i64 0, .int .i64 0] 2)).alloc (.cells #[.int .i64 0, .int .i64 pt, .int .i64 0, .int .i64 0, .int .i64 0, .int .i64 0] 2)).heap.size ((w2.alloc (.cells #[.int .i64 0, .int .i64 pt, .int .i64 0, .int .i64 0] 2)).alloc (.cells #[.int .i64 0, .int .i64 pt, .int .i64 0, .int .i64 0, .int .i64 0, .int .i64 0] 2)))
  have hs := HB.out.size
  have HX1 := Lib.hid x1
  have HX2 := Lib.hid x2
  have HZ := Lib.hid hz
  have HB2 := Lib.hid (HB.out.trans (hb.mono hs))
  clear x1 x2 hb hz
  go_upto_region 4 with (fail)
  generalize ((w2.alloc (.cells #[.int .i64 0, .int .i64 pt, .int .i64 0, .int .i64 0] 2)).alloc (.cells #[.int .i64 0, .int .i64 pt, .int .i64 0, .int .i64 0, .int .i64 0, .int .i64 0] 2)) = w3 at *
  go_wp2_with fail
  go_loopw [5, 6, 7, 8, 9, 10, 11] (fun s5 s6 s7 s8 s9 s10 s11 wr => ∃ (q : Nat) (g1 c1 g2 c2 : Nat) (a1 q1 a2 e r l : Int) (x y : Bool), q ≤ len ∧ q ≤ 300 ∧ s5 = .slice (some ⟨g1, 0, none⟩) 4 c1 ∧ s6 = .slice (some ⟨g2, 0, none⟩) 6 c2 ∧ s7 = .int .i64 r ∧ s8 = .int .i64 l ∧ s9 = .bool x ∧ s10 = .bool y ∧ s11 = .int .i64 q ∧ Box wr g1 0 [.int .i64 a1, .int .i64 pt, .int .i64 q1, .int .i64 (min r pt)] ∧ Box wr g2 0 [.int .i64 a2, .int .i64 pt, .int .i64 (bi y), .int .i64 e, .int .i64 (bi x), .int .i64 (bi y)] ∧ InR q1 ∧ (0 ≤ r ∧ r ≤ q) ∧ (l = if y = true then pt - e else 0) ∧ (0 ≤ e ∧ e ≤ 255) ∧ (e ≤ pt ∨ y = false) ∧ g1 ≠ g2 ∧ (w.heap.size ≤ g1 ∧ w.heap.size ≤ g2) ∧ (g1 < wr.heap.size ∧ g2 < wr.heap.size) ∧ (4 ≤ c1 ∧ c1 ≤ maxLen) ∧ (6 ≤ c2 ∧ c2 ≤ maxLen) ∧ Below w.heap.size w wr) (fun _ _ _ _ _ _ i _ => (301 - intOf i).toNat)
  case atStart =>
    have hz := HZ.out
    have hm : min (0 : Int) pt = 0 := by have := HP.out; omega
    exact ⟨0, w2.heap.size, 4, w2.heap.size + 1, 6, 0, 0, 0, 0, 0, 0, false, false, Nat.zero_le _, by omega, rfl, rfl, rfl, rfl, rfl, rfl, rfl, (by rw [hm]; exact HX1.out), HX2.out, bi_in false, ⟨by omega, by omega⟩, rfl, ⟨by omega, by omega⟩, Or.inr rfl, by omega, ⟨hs, by omega⟩, ⟨by omega, hz⟩, ⟨by omega, by unfold maxLen; omega⟩, ⟨by omega, by unfold maxLen; omega⟩, HB2.out⟩
  case round =>
    obtain ⟨q, g1, c1, g2, c2, a1, q1, a2, e, r, l, x, y, hq, hq3, rfl, rfl, rfl, rfl, rfl, rfl, rfl, hX1, hX2, hi, hr, hl, he, hey, hne, hg, hz, hc1, hc2, hb⟩ := hrel
    clear HX1 HX2 HZ HB2 HB hs
    have HX1 := Lib.hid hX1
    have HX2 := Lib.hid hX2
    have HB := Lib.hid hb
    have HI := Lib.hid hi
    have HC1 := Lib.hid hc1
    have HC2 := Lib.hid hc2
    have HG := Lib.hid hg
    have HZ := Lib.hid hz
    have HR := Lib.hid hr
    have HE := Lib.hid he
    clear hX1 hX2 hb hi hc1 hc2 hg hz hr he
    by_cases hlt : q < len
    · by_cases hlt3 : q < 300
      · obtain ⟨b, off, rfl, hbw, hcap, hcm, hrow⟩ := W1.out.row (by omega)
        have hck : wr.cell? ⟨b, off + q, none⟩ = some (.bool (V q)) := (HB.out.cell (p := ⟨b, off + q, none⟩) hbw).trans (hrow q hlt)
        clear hrow
        generalize V q = s at *
        have N1 : Hid (tonL (bi s) pt (min r pt) = [bi s, pt, bi (s && decide (pt ≤ nextR s r)), min (nextR s r) pt]) := Lib.hid (ton_next HP.out.1 HR.out.1)
        have N2 : Hid (tpL (bi s) pt (bi y) e (bi x) (bi y) = [bi s, pt, bi (decide (0 < nextL s x y pt l)), nextE s x y pt e, bi s, bi (decide (0 < nextL s x y pt l))]) := Lib.hid (tp_next HP.out.1 hl hey)
        have N3 := Lib.hid (left_next (s := s) (x := x) HP.out hl HE.out hey)
        have L0 : Hid (0 ≤ l ∧ l ≤ 255) := Lib.hid (by rw [hl]; cases y <;> simp <;> first | omega | (have := HP.out; have := HE.out; simp at hey; omega))
        have HL := Lib.hid hl
        clear hl hey
        have wr1 : IntKind.i64.wrap (r + 1) = r + 1 := wrap_id (by have := HR.out; omega) (by have := HR.out; omega)
        have wl1 : IntKind.i64.wrap (l - 1) = l - 1 := wrap_id (by have := L0.out; omega) (by have := L0.out; omega)
        have wp1 : IntKind.i64.wrap (pt - 1) = pt - 1 := wrap_id (by have := HP.out; omega) (by have := HP.out; omega)
        have ⟨a0, f0⟩ := cell_of HX1.out (i := 0) rfl
        have ⟨a0', f1⟩ := cell_of HX2.out (i := 0) rfl
        cases s <;> cases x <;> cases y
        · go_upto_region 17 with (fail)
          obtain ⟨y4, e4⟩ : ∃ W, ((wr.setCell ⟨g1, 0, none⟩ (.int .i64 0)).setCell ⟨g2, 0, none⟩ (.int .i64 0)) = W := ⟨_, rfl⟩
          rw [e4]
          have Y1 : Hid (Box y4 g1 0 [.int .i64 (bi false), .int .i64 pt, .int .i64 q1, .int .i64 (min r pt)]) := Lib.hid (e4 ▸ Box_aside (Ne.symm hne) _ (HX1.out.put 0 (by simp) (.int .i64 0)))
          have Y2 : Hid (Box y4 g2 0 [.int .i64 (bi false), .int .i64 pt, .int .i64 (bi false), .int .i64 e, .int .i64 (bi false), .int .i64 (bi false)]) := Lib.hid (e4 ▸ (Box_aside hne _ HX2.out).put 0 (by simp) (.int .i64 0))
          have HB4 : Hid (Below w.heap.size w y4) := Lib.hid (e4 ▸ (HB.out.setCell HG.out.1 _).setCell HG.out.2 _)
          have Z4 : Hid (g1 < y4.heap.size ∧ g2 < y4.heap.size) := Lib.hid (by rw [← e4]; simpa using HZ.out)
          have hck4 : y4.cell? ⟨b, off + q, none⟩ = some (.bool false) := (HB4.out.cell (p := ⟨b, off + q, none⟩) hbw).trans ((HB.out.cell (p := ⟨b, off + q, none⟩) hbw).symm.trans hck)
          clear e4 a0 f0 a0' f1 HX1 HX2 HB HZ hck
          have S1 := step_ton (bi false) pt q1 (min r pt) (rd_box (n := 4) (L := [bi false, pt, q1, min r pt]) Y1.out Z4.out.1 HC1.out.1 HC1.out.2 rfl) (Nat.le_refl _) (bi_in _) (show InR pt from by have := HP.out; unfold InR; omega) HI.out (show InR (min r pt) from by have := HP.out; have := HR.out; unfold InR; omega) (LD.out.below HB4.out)
          rw [N1.out] at S1
          have S1 := Lib.hid S1
          go_wp2_with (go_at_call 7; fail)
          with_reducible refine (S1.out).mono ?_
          rintro e y5 ⟨h1, d1, rfl, hh1, hz5, hd1, hdm1, _, xx1, hb5⟩
          have P1 := Lib.hid xx1
          have Y2 := Lib.hid (Y2.out.below hb5 Z4.out.2)
          have HB5 := Lib.hid (HB4.out.trans (hb5.mono HB4.out.size))
          have D1 := Lib.hid (⟨hd1, hdm1⟩ : 4 ≤ d1 ∧ d1 ≤ maxLen)
          have N5 := Lib.hid (⟨Nat.le_trans HB4.out.size hh1, hz5⟩ : w.heap.size ≤ h1 ∧ h1 < y5.heap.size)
          have Z5 : Hid (g2 < y5.heap.size) := Lib.hid (Nat.lt_of_lt_of_le Z4.out.2 hb5.size)
          clear xx1 hb5 hh1 hz5 hd1 hdm1 S1
          have S2 := step_tp (bi false) pt (bi false) e (bi false) (bi false) (rd_box (n := 6) (L := [bi false, pt, bi false, e, bi false, bi false]) Y2.out Z5.out HC2.out.1 HC2.out.2 rfl) (Nat.le_refl _) (bi_in _) (show InR pt from by have := HP.out; unfold InR; omega) (bi_in _) (show InR e from by have := HE.out; unfold InR; omega) (bi_in _) (bi_in _) (LD.out.below HB5.out)
          rw [N2.out] at S2
          have S2 := Lib.hid S2
          go_wp2_with (go_at_call 7; fail)
          with_reducible refine (S2.out).mono ?_
          rintro e y6 ⟨h2, d2, rfl, hh2, hz6, hd2, hdm2, _, xx2, hb6⟩
          have P1 := Lib.hid (P1.out.below hb6 N5.out.2)
          have P2 := Lib.hid xx2
          have HB6 := Lib.hid (HB5.out.trans (hb6.mono HB5.out.size))
          have D2 := Lib.hid (⟨hd2, hdm2⟩ : 6 ≤ d2 ∧ d2 ≤ maxLen)
          have N6 := Lib.hid (⟨Nat.lt_of_lt_of_le N5.out.2 hh2, hz6⟩ : h1 < h2 ∧ h2 < y6.heap.size)
          have hck6 : y6.cell? ⟨b, off + q, none⟩ = some (.bool false) := (HB6.out.cell (p := ⟨b, off + q, none⟩) hbw).trans ((HB4.out.cell (p := ⟨b, off + q, none⟩) hbw).symm.trans hck4)
          clear xx2 hb6 hh2 hz6 hd2 hdm2 S2 N1 N2 Y1 Y2 HB4 HB5 hck4
          go_upto_region 18 with (fail)
          have N3 := N3.out
          have hl0 : l = 0 := by simpa using HL.out
          subst hl0
          · have hd : decide (0 < nextL false false false pt 0) = false := by simp [nextL]
            rw [hd] at P2 N3
            have hz0 : ((0 : Int) == 0) = true := by rfl
            have t2 := (cell_of P2.out (i := 2) rfl).1
            simp [bi] at t2
            have t1 : y6.cell? ⟨h1, 2, none⟩ = some (.int .i64 0) := by rw [(cell_of P1.out (i := 2) rfl).1]; simp [bi]
            go_quiet (fail)
            go_wp2_with fail
            go_roundw
            case rel =>
              have n1 := N5.out
              have n2 := N6.out
              have hr := HR.out
              exact ⟨q + 1, h1, d1, h2, d2, _, _, _, _, _, _, _, _, by omega, by omega, rfl, rfl, rfl, rfl, rfl, rfl, by go_num, P1.out.drawn nq, P2.out.drawn nq, bi_in _, ⟨by omega, by omega⟩, N3.2.2.2, N3.1, N3.2.1, by omega, ⟨by omega, by omega⟩, ⟨(by show h1 < y6.heap.size; omega), (by show h2 < y6.heap.size; omega)⟩, D1.out, D2.out, below_drawn HB6.out nq⟩
            case measure => simp [intOf]; omega
        · go_upto_region 17 with (fail)
          obtain ⟨y4, e4⟩ : ∃ W, ((wr.setCell ⟨g1, 0, none⟩ (.int .i64 0)).setCell ⟨g2, 0, none⟩ (.int .i64 0)) = W := ⟨_, rfl⟩
          rw [e4]
          have Y1 : Hid (Box y4 g1 0 [.int .i64 (bi false), .int .i64 pt, .int .i64 q1, .int .i64 (min r pt)]) := Lib.hid (e4 ▸ Box_aside (Ne.symm hne) _ (HX1.out.put 0 (by simp) (.int .i64 0)))
          have Y2 : Hid (Box y4 g2 0 [.int .i64 (bi false), .int .i64 pt, .int .i64 (bi true), .int .i64 e, .int .i64 (bi false), .int .i64 (bi true)]) := Lib.hid (e4 ▸ (Box_aside hne _ HX2.out).put 0 (by simp) (.int .i64 0))
          have HB4 : Hid (Below w.heap.size w y4) := Lib.hid (e4 ▸ (HB.out.setCell HG.out.1 _).setCell HG.out.2 _)
          have Z4 : Hid (g1 < y4.heap.size ∧ g2 < y4.heap.size) := Lib.hid (by rw [← e4]; simpa using HZ.out)
          have hck4 : y4.cell? ⟨b, off + q, none⟩ = some (.bool false) := (HB4.out.cell (p := ⟨b, off + q, none⟩) hbw).trans ((HB.out.cell (p := ⟨b, off + q, none⟩) hbw).symm.trans hck)
          clear e4 a0 f0 a0' f1 HX1 HX2 HB HZ hck
          have S1 := step_ton (bi false) pt q1 (min r pt) (rd_box (n := 4) (L := [bi false, pt, q1, min r pt]) Y1.out Z4.out.1 HC1.out.1 HC1.out.2 rfl) (Nat.le_refl _) (bi_in _) (show InR pt from by have := HP.out; unfold InR; omega) HI.out (show InR (min r pt) from by have := HP.out; have := HR.out; unfold InR; omega) (LD.out.below HB4.out)
          rw [N1.out] at S1
          have S1 := Lib.hid S1
          go_wp2_with (go_at_call 7; fail)
          with_reducible refine (S1.out).mono ?_
          rintro e y5 ⟨h1, d1, rfl, hh1, hz5, hd1, hdm1, _, xx1, hb5⟩
          have P1 := Lib.hid xx1
          have Y2 := Lib.hid (Y2.out.below hb5 Z4.out.2)
          have HB5 := Lib.hid (HB4.out.trans (hb5.mono HB4.out.size))
          have D1 := Lib.hid (⟨hd1, hdm1⟩ : 4 ≤ d1 ∧ d1 ≤ maxLen)
          have N5 := Lib.hid (⟨Nat.le_trans HB4.out.size hh1, hz5⟩ : w.heap.size ≤ h1 ∧ h1 < y5.heap.size)
          have Z5 : Hid (g2 < y5.heap.size) := Lib.hid (Nat.lt_of_lt_of_le Z4.out.2 hb5.size)
          clear xx1 hb5 hh1 hz5 hd1 hdm1 S1
          have S2 := step_tp (bi false) pt (bi true) e (bi false) (bi true) (rd_box (n := 6) (L := [bi false, pt, bi true, e, bi false, bi true]) Y2.out Z5.out HC2.out.1 HC2.out.2 rfl) (Nat.le_refl _) (bi_in _) (show InR pt from by have := HP.out; unfold InR; omega) (bi_in _) (show InR e from by have := HE.out; unfold InR; omega) (bi_in _) (bi_in _) (LD.out.below HB5.out)
          rw [N2.out] at S2
          have S2 := Lib.hid S2
          go_wp2_with (go_at_call 7; fail)
          with_reducible refine (S2.out).mono ?_
          rintro e y6 ⟨h2, d2, rfl, hh2, hz6, hd2, hdm2, _, xx2, hb6⟩
          have P1 := Lib.hid (P1.out.below hb6 N5.out.2)
          have P2 := Lib.hid xx2
          have HB6 := Lib.hid (HB5.out.trans (hb6.mono HB5.out.size))
          have D2 := Lib.hid (⟨hd2, hdm2⟩ : 6 ≤ d2 ∧ d2 ≤ maxLen)
          have N6 := Lib.hid (⟨Nat.lt_of_lt_of_le N5.out.2 hh2, hz6⟩ : h1 < h2 ∧ h2 < y6.heap.size)
          have hck6 : y6.cell? ⟨b, off + q, none⟩ = some (.bool false) := (HB6.out.cell (p := ⟨b, off + q, none⟩) hbw).trans ((HB4.out.cell (p := ⟨b, off + q, none⟩) hbw).symm.trans hck4)
          clear xx2 hb6 hh2 hz6 hd2 hdm2 S2 N1 N2 Y1 Y2 HB4 HB5 hck4
          go_upto_region 18 with (fail)
          have N3 := N3.out
          by_cases h0 : 0 < l
          · have hd : decide (0 < nextL false false true pt l) = true := by simp [nextL]; omega
            rw [hd] at P2 N3
            have hz0 : (l == 0) = false := by rw [beq_eq_false_iff_ne]; omega
            have t2 := (cell_of P2.out (i := 2) rfl).1
            simp [bi] at t2
            have t1 : y6.cell? ⟨h1, 2, none⟩ = some (.int .i64 0) := by rw [(cell_of P1.out (i := 2) rfl).1]; simp [bi]
            go_quiet (fail)
            go_wp2_with fail
            go_roundw
            case rel =>
              have n1 := N5.out
              have n2 := N6.out
              have hr := HR.out
              exact ⟨q + 1, h1, d1, h2, d2, _, _, _, _, _, _, _, _, by omega, by omega, rfl, rfl, rfl, rfl, rfl, rfl, by go_num, P1.out.drawn nq, P2.out.drawn nq, bi_in _, ⟨by omega, by omega⟩, N3.2.2.2, N3.1, N3.2.1, by omega, ⟨by omega, by omega⟩, ⟨(by show h1 < y6.heap.size; omega), (by show h2 < y6.heap.size; omega)⟩, D1.out, D2.out, below_drawn HB6.out nq⟩
            case measure => simp [intOf]; omega
          · have hd : decide (0 < nextL false false true pt l) = false := by simp [nextL]; omega
            rw [hd] at P2 N3
            have hz0 : (l == 0) = true := by have := L0.out; rw [beq_iff_eq]; omega
            have t2 := (cell_of P2.out (i := 2) rfl).1
            simp [bi] at t2
            have t1 : y6.cell? ⟨h1, 2, none⟩ = some (.int .i64 0) := by rw [(cell_of P1.out (i := 2) rfl).1]; simp [bi]
            go_quiet (fail)
            go_wp2_with fail
            go_roundw
            case rel =>
              have n1 := N5.out
              have n2 := N6.out
              have hr := HR.out
              exact ⟨q + 1, h1, d1, h2, d2, _, _, _, _, _, _, _, _, by omega, by omega, rfl, rfl, rfl, rfl, rfl, rfl, by go_num, P1.out.drawn nq, P2.out.drawn nq, bi_in _, ⟨by omega, by omega⟩, N3.2.2.2, N3.1, N3.2.1, by omega, ⟨by omega, by omega⟩, ⟨(by show h1 < y6.heap.size; omega), (by show h2 < y6.heap.size; omega)⟩, D1.out, D2.out, below_drawn HB6.out nq⟩
            case measure => simp [intOf]; omega
        · go_upto_region 17 with (fail)
          obtain ⟨y4, e4⟩ : ∃ W, ((wr.setCell ⟨g1, 0, none⟩ (.int .i64 0)).setCell ⟨g2, 0, none⟩ (.int .i64 0)) = W := ⟨_, rfl⟩
          rw [e4]
          have Y1 : Hid (Box y4 g1 0 [.int .i64 (bi false), .int .i64 pt, .int .i64 q1, .int .i64 (min r pt)]) := Lib.hid (e4 ▸ Box_aside (Ne.symm hne) _ (HX1.out.put 0 (by simp) (.int .i64 0)))
          have Y2 : Hid (Box y4 g2 0 [.int .i64 (bi false), .int .i64 pt, .int .i64 (bi false), .int .i64 e, .int .i64 (bi true), .int .i64 (bi false)]) := Lib.hid (e4 ▸ (Box_aside hne _ HX2.out).put 0 (by simp) (.int .i64 0))
          have HB4 : Hid (Below w.heap.size w y4) := Lib.hid (e4 ▸ (HB.out.setCell HG.out.1 _).setCell HG.out.2 _)
          have Z4 : Hid (g1 < y4.heap.size ∧ g2 < y4.heap.size) := Lib.hid (by rw [← e4]; simpa using HZ.out)
          have hck4 : y4.cell? ⟨b, off + q, none⟩ = some (.bool false) := (HB4.out.cell (p := ⟨b, off + q, none⟩) hbw).trans ((HB.out.cell (p := ⟨b, off + q, none⟩) hbw).symm.trans hck)
          clear e4 a0 f0 a0' f1 HX1 HX2 HB HZ hck
          have S1 := step_ton (bi false) pt q1 (min r pt) (rd_box (n := 4) (L := [bi false, pt, q1, min r pt]) Y1.out Z4.out.1 HC1.out.1 HC1.out.2 rfl) (Nat.le_refl _) (bi_in _) (show InR pt from by have := HP.out; unfold InR; omega) HI.out (show InR (min r pt) from by have := HP.out; have := HR.out; unfold InR; omega) (LD.out.below HB4.out)
          rw [N1.out] at S1
          have S1 := Lib.hid S1
          go_wp2_with (go_at_call 7; fail)
          with_reducible refine (S1.out).mono ?_
          rintro e y5 ⟨h1, d1, rfl, hh1, hz5, hd1, hdm1, _, xx1, hb5⟩
          have P1 := Lib.hid xx1
          have Y2 := Lib.hid (Y2.out.below hb5 Z4.out.2)
          have HB5 := Lib.hid (HB4.out.trans (hb5.mono HB4.out.size))
          have D1 := Lib.hid (⟨hd1, hdm1⟩ : 4 ≤ d1 ∧ d1 ≤ maxLen)
          have N5 := Lib.hid (⟨Nat.le_trans HB4.out.size hh1, hz5⟩ : w.heap.size ≤ h1 ∧ h1 < y5.heap.size)
          have Z5 : Hid (g2 < y5.heap.size) := Lib.hid (Nat.lt_of_lt_of_le Z4.out.2 hb5.size)
          clear xx1 hb5 hh1 hz5 hd1 hdm1 S1
          have S2 := step_tp (bi false) pt (bi false) e (bi true) (bi false) (rd_box (n := 6) (L := [bi false, pt, bi false, e, bi true, bi false]) Y2.out Z5.out HC2.out.1 HC2.out.2 rfl) (Nat.le_refl _) (bi_in _) (show InR pt from by have := HP.out; unfold InR; omega) (bi_in _) (show InR e from by have := HE.out; unfold InR; omega) (bi_in _) (bi_in _) (LD.out.below HB5.out)
          rw [N2.out] at S2
          have S2 := Lib.hid S2
          go_wp2_with (go_at_call 7; fail)
          with_reducible refine (S2.out).mono ?_
          rintro e y6 ⟨h2, d2, rfl, hh2, hz6, hd2, hdm2, _, xx2, hb6⟩
          have P1 := Lib.hid (P1.out.below hb6 N5.out.2)
          have P2 := Lib.hid xx2
          have HB6 := Lib.hid (HB5.out.trans (hb6.mono HB5.out.size))
          have D2 := Lib.hid (⟨hd2, hdm2⟩ : 6 ≤ d2 ∧ d2 ≤ maxLen)
          have N6 := Lib.hid (⟨Nat.lt_of_lt_of_le N5.out.2 hh2, hz6⟩ : h1 < h2 ∧ h2 < y6.heap.size)
          have hck6 : y6.cell? ⟨b, off + q, none⟩ = some (.bool false) := (HB6.out.cell (p := ⟨b, off + q, none⟩) hbw).trans ((HB4.out.cell (p := ⟨b, off + q, none⟩) hbw).symm.trans hck4)
          clear xx2 hb6 hh2 hz6 hd2 hdm2 S2 N1 N2 Y1 Y2 HB4 HB5 hck4
          go_upto_region 18 with (fail)
          have N3 := N3.out
          have hl0 : l = 0 := by simpa using HL.out
          subst hl0
          · have hd : decide (0 < nextL false true false pt 0) = false := by simp [nextL]
            rw [hd] at P2 N3
            have hz0 : ((0 : Int) == 0) = true := by rfl
            have t2 := (cell_of P2.out (i := 2) rfl).1
            simp [bi] at t2
            have t1 : y6.cell? ⟨h1, 2, none⟩ = some (.int .i64 0) := by rw [(cell_of P1.out (i := 2) rfl).1]; simp [bi]
            go_quiet (fail)
            go_wp2_with fail
            go_roundw
            case rel =>
              have n1 := N5.out
              have n2 := N6.out
              have hr := HR.out
              exact ⟨q + 1, h1, d1, h2, d2, _, _, _, _, _, _, _, _, by omega, by omega, rfl, rfl, rfl, rfl, rfl, rfl, by go_num, P1.out.drawn nq, P2.out.drawn nq, bi_in _, ⟨by omega, by omega⟩, N3.2.2.2, N3.1, N3.2.1, by omega, ⟨by omega, by omega⟩, ⟨(by show h1 < y6.heap.size; omega), (by show h2 < y6.heap.size; omega)⟩, D1.out, D2.out, below_drawn HB6.out nq⟩
            case measure => simp [intOf]; omega
        · go_upto_region 17 with (fail)
          obtain ⟨y4, e4⟩ : ∃ W, ((wr.setCell ⟨g1, 0, none⟩ (.int .i64 0)).setCell ⟨g2, 0, none⟩ (.int .i64 0)) = W := ⟨_, rfl⟩
          rw [e4]
          have Y1 : Hid (Box y4 g1 0 [.int .i64 (bi false), .int .i64 pt, .int .i64 q1, .int .i64 (min r pt)]) := Lib.hid (e4 ▸ Box_aside (Ne.symm hne) _ (HX1.out.put 0 (by simp) (.int .i64 0)))
          have Y2 : Hid (Box y4 g2 0 [.int .i64 (bi false), .int .i64 pt, .int .i64 (bi true), .int .i64 e, .int .i64 (bi true), .int .i64 (bi true)]) := Lib.hid (e4 ▸ (Box_aside hne _ HX2.out).put 0 (by simp) (.int .i64 0))
          have HB4 : Hid (Below w.heap.size w y4) := Lib.hid (e4 ▸ (HB.out.setCell HG.out.1 _).setCell HG.out.2 _)
          have Z4 : Hid (g1 < y4.heap.size ∧ g2 < y4.heap.size) := Lib.hid (by rw [← e4]; simpa using HZ.out)
          have hck4 : y4.cell? ⟨b, off + q, none⟩ = some (.bool false) := (HB4.out.cell (p := ⟨b, off + q, none⟩) hbw).trans ((HB.out.cell (p := ⟨b, off + q, none⟩) hbw).symm.trans hck)
          clear e4 a0 f0 a0' f1 HX1 HX2 HB HZ hck
          have S1 := step_ton (bi false) pt q1 (min r pt) (rd_box (n := 4) (L := [bi false, pt, q1, min r pt]) Y1.out Z4.out.1 HC1.out.1 HC1.out.2 rfl) (Nat.le_refl _) (bi_in _) (show InR pt from by have := HP.out; unfold InR; omega) HI.out (show InR (min r pt) from by have := HP.out; have := HR.out; unfold InR; omega) (LD.out.below HB4.out)
          rw [N1.out] at S1
          have S1 := Lib.hid S1
          go_wp2_with (go_at_call 7; fail)
          with_reducible refine (S1.out).mono ?_
          rintro e y5 ⟨h1, d1, rfl, hh1, hz5, hd1, hdm1, _, xx1, hb5⟩
          have P1 := Lib.hid xx1
          have Y2 := Lib.hid (Y2.out.below hb5 Z4.out.2)
          have HB5 := Lib.hid (HB4.out.trans (hb5.mono HB4.out.size))
          have D1 := Lib.hid (⟨hd1, hdm1⟩ : 4 ≤ d1 ∧ d1 ≤ maxLen)
          have N5 := Lib.hid (⟨Nat.le_trans HB4.out.size hh1, hz5⟩ : w.heap.size ≤ h1 ∧ h1 < y5.heap.size)
          have Z5 : Hid (g2 < y5.heap.size) := Lib.hid (Nat.lt_of_lt_of_le Z4.out.2 hb5.size)
          clear xx1 hb5 hh1 hz5 hd1 hdm1 S1
          have S2 := step_tp (bi false) pt (bi true) e (bi true) (bi true) (rd_box (n := 6) (L := [bi false, pt, bi true, e, bi true, bi true]) Y2.out Z5.out HC2.out.1 HC2.out.2 rfl) (Nat.le_refl _) (bi_in _) (show InR pt from by have := HP.out; unfold InR; omega) (bi_in _) (show InR e from by have := HE.out; unfold InR; omega) (bi_in _) (bi_in _) (LD.out.below HB5.out)
          rw [N2.out] at S2
          have S2 := Lib.hid S2
          go_wp2_with (go_at_call 7; fail)
          with_reducible refine (S2.out).mono ?_
          rintro e y6 ⟨h2, d2, rfl, hh2, hz6, hd2, hdm2, _, xx2, hb6⟩
          have P1 := Lib.hid (P1.out.below hb6 N5.out.2)
          have P2 := Lib.hid xx2
          have HB6 := Lib.hid (HB5.out.trans (hb6.mono HB5.out.size))
          have D2 := Lib.hid (⟨hd2, hdm2⟩ : 6 ≤ d2 ∧ d2 ≤ maxLen)
          have N6 := Lib.hid (⟨Nat.lt_of_lt_of_le N5.out.2 hh2, hz6⟩ : h1 < h2 ∧ h2 < y6.heap.size)
          have hck6 : y6.cell? ⟨b, off + q, none⟩ = some (.bool false) := (HB6.out.cell (p := ⟨b, off + q, none⟩) hbw).trans ((HB4.out.cell (p := ⟨b, off + q, none⟩) hbw).symm.trans hck4)
          clear xx2 hb6 hh2 hz6 hd2 hdm2 S2 N1 N2 Y1 Y2 HB4 HB5 hck4
          go_upto_region 18 with (fail)
          have N3 := N3.out
          by_cases h0 : 0 < l
          · have hd : decide (0 < nextL false true true pt l) = true := by simp [nextL]; omega
            rw [hd] at P2 N3
            have hz0 : (l == 0) = false := by rw [beq_eq_false_iff_ne]; omega
            have t2 := (cell_of P2.out (i := 2) rfl).1
            simp [bi] at t2
            have t1 : y6.cell? ⟨h1, 2, none⟩ = some (.int .i64 0) := by rw [(cell_of P1.out (i := 2) rfl).1]; simp [bi]
            go_quiet (fail)
            go_wp2_with fail
            go_roundw
            case rel =>
              have n1 := N5.out
              have n2 := N6.out
              have hr := HR.out
              exact ⟨q + 1, h1, d1, h2, d2, _, _, _, _, _, _, _, _, by omega, by omega, rfl, rfl, rfl, rfl, rfl, rfl, by go_num, P1.out.drawn nq, P2.out.drawn nq, bi_in _, ⟨by omega, by omega⟩, N3.2.2.2, N3.1, N3.2.1, by omega, ⟨by omega, by omega⟩, ⟨(by show h1 < y6.heap.size; omega), (by show h2 < y6.heap.size; omega)⟩, D1.out, D2.out, below_drawn HB6.out nq⟩
            case measure => simp [intOf]; omega
          · have hd : decide (0 < nextL false true true pt l) = false := by simp [nextL]; omega
            rw [hd] at P2 N3
            have hz0 : (l == 0) = true := by have := L0.out; rw [beq_iff_eq]; omega
            have t2 := (cell_of P2.out (i := 2) rfl).1
            simp [bi] at t2
            have t1 : y6.cell? ⟨h1, 2, none⟩ = some (.int .i64 0) := by rw [(cell_of P1.out (i := 2) rfl).1]; simp [bi]
            go_quiet (fail)
            go_wp2_with fail
            go_roundw
            case rel =>
              have n1 := N5.out
              have n2 := N6.out
              have hr := HR.out
              exact ⟨q + 1, h1, d1, h2, d2, _, _, _, _, _, _, _, _, by omega, by omega, rfl, rfl, rfl, rfl, rfl, rfl, by go_num, P1.out.drawn nq, P2.out.drawn nq, bi_in _, ⟨by omega, by omega⟩, N3.2.2.2, N3.1, N3.2.1, by omega, ⟨by omega, by omega⟩, ⟨(by show h1 < y6.heap.size; omega), (by show h2 < y6.heap.size; omega)⟩, D1.out, D2.out, below_drawn HB6.out nq⟩
            case measure => simp [intOf]; omega
        · go_upto_region 17 with (fail)
          obtain ⟨y4, e4⟩ : ∃ W, ((wr.setCell ⟨g1, 0, none⟩ (.int .i64 1)).setCell ⟨g2, 0, none⟩ (.int .i64 1)) = W := ⟨_, rfl⟩
          rw [e4]
          have Y1 : Hid (Box y4 g1 0 [.int .i64 (bi true), .int .i64 pt, .int .i64 q1, .int .i64 (min r pt)]) := Lib.hid (e4 ▸ Box_aside (Ne.symm hne) _ (HX1.out.put 0 (by simp) (.int .i64 1)))
          have Y2 : Hid (Box y4 g2 0 [.int .i64 (bi true), .int .i64 pt, .int .i64 (bi false), .int .i64 e, .int .i64 (bi false), .int .i64 (bi false)]) := Lib.hid (e4 ▸ (Box_aside hne _ HX2.out).put 0 (by simp) (.int .i64 1))
          have HB4 : Hid (Below w.heap.size w y4) := Lib.hid (e4 ▸ (HB.out.setCell HG.out.1 _).setCell HG.out.2 _)
          have Z4 : Hid (g1 < y4.heap.size ∧ g2 < y4.heap.size) := Lib.hid (by rw [← e4]; simpa using HZ.out)
          have hck4 : y4.cell? ⟨b, off + q, none⟩ = some (.bool true) := (HB4.out.cell (p := ⟨b, off + q, none⟩) hbw).trans ((HB.out.cell (p := ⟨b, off + q, none⟩) hbw).symm.trans hck)
          clear e4 a0 f0 a0' f1 HX1 HX2 HB HZ hck
          have S1 := step_ton (bi true) pt q1 (min r pt) (rd_box (n := 4) (L := [bi true, pt, q1, min r pt]) Y1.out Z4.out.1 HC1.out.1 HC1.out.2 rfl) (Nat.le_refl _) (bi_in _) (show InR pt from by have := HP.out; unfold InR; omega) HI.out (show InR (min r pt) from by have := HP.out; have := HR.out; unfold InR; omega) (LD.out.below HB4.out)
          rw [N1.out] at S1
          have S1 := Lib.hid S1
          go_wp2_with (go_at_call 7; fail)
          with_reducible refine (S1.out).mono ?_
          rintro e y5 ⟨h1, d1, rfl, hh1, hz5, hd1, hdm1, _, xx1, hb5⟩
          have P1 := Lib.hid xx1
          have Y2 := Lib.hid (Y2.out.below hb5 Z4.out.2)
          have HB5 := Lib.hid (HB4.out.trans (hb5.mono HB4.out.size))
          have D1 := Lib.hid (⟨hd1, hdm1⟩ : 4 ≤ d1 ∧ d1 ≤ maxLen)
          have N5 := Lib.hid (⟨Nat.le_trans HB4.out.size hh1, hz5⟩ : w.heap.size ≤ h1 ∧ h1 < y5.heap.size)
          have Z5 : Hid (g2 < y5.heap.size) := Lib.hid (Nat.lt_of_lt_of_le Z4.out.2 hb5.size)
          clear xx1 hb5 hh1 hz5 hd1 hdm1 S1
          have S2 := step_tp (bi true) pt (bi false) e (bi false) (bi false) (rd_box (n := 6) (L := [bi true, pt, bi false, e, bi false, bi false]) Y2.out Z5.out HC2.out.1 HC2.out.2 rfl) (Nat.le_refl _) (bi_in _) (show InR pt from by have := HP.out; unfold InR; omega) (bi_in _) (show InR e from by have := HE.out; unfold InR; omega) (bi_in _) (bi_in _) (LD.out.below HB5.out)
          rw [N2.out] at S2
          have S2 := Lib.hid S2
          go_wp2_with (go_at_call 7; fail)
          with_reducible refine (S2.out).mono ?_
          rintro e y6 ⟨h2, d2, rfl, hh2, hz6, hd2, hdm2, _, xx2, hb6⟩
          have P1 := Lib.hid (P1.out.below hb6 N5.out.2)
          have P2 := Lib.hid xx2
          have HB6 := Lib.hid (HB5.out.trans (hb6.mono HB5.out.size))
          have D2 := Lib.hid (⟨hd2, hdm2⟩ : 6 ≤ d2 ∧ d2 ≤ maxLen)
          have N6 := Lib.hid (⟨Nat.lt_of_lt_of_le N5.out.2 hh2, hz6⟩ : h1 < h2 ∧ h2 < y6.heap.size)
          have hck6 : y6.cell? ⟨b, off + q, none⟩ = some (.bool true) := (HB6.out.cell (p := ⟨b, off + q, none⟩) hbw).trans ((HB4.out.cell (p := ⟨b, off + q, none⟩) hbw).symm.trans hck4)
          clear xx2 hb6 hh2 hz6 hd2 hdm2 S2 N1 N2 Y1 Y2 HB4 HB5 hck4
          go_upto_region 18 with (fail)
          have N3 := N3.out
          by_cases h0 : 0 < pt
          · have hd : decide (0 < nextL true false false pt l) = true := by simp [nextL]; omega
            rw [hd] at P2 N3
            have hz0 : (pt == 0) = false := by rw [beq_eq_false_iff_ne]; omega
            have t2 := (cell_of P2.out (i := 2) rfl).1
            simp [bi] at t2
            by_cases hq1 : pt ≤ r + 1
            · have t1 : y6.cell? ⟨h1, 2, none⟩ = some (.int .i64 1) := by rw [(cell_of P1.out (i := 2) rfl).1]; simp [bi, nextR, hq1]
              go_quiet (fail)
              go_wp2_with fail
              go_roundw
              case rel =>
                have n1 := N5.out
                have n2 := N6.out
                have hr := HR.out
                exact ⟨q + 1, h1, d1, h2, d2, _, _, _, _, _, _, _, _, by omega, by omega, rfl, rfl, rfl, rfl, rfl, rfl, by go_num, P1.out.drawn nq, P2.out.drawn nq, bi_in _, ⟨by omega, by omega⟩, N3.2.2.2, N3.1, N3.2.1, by omega, ⟨by omega, by omega⟩, ⟨(by show h1 < y6.heap.size; omega), (by show h2 < y6.heap.size; omega)⟩, D1.out, D2.out, below_drawn HB6.out nq⟩
              case measure => simp [intOf]; omega
            · have t1 : y6.cell? ⟨h1, 2, none⟩ = some (.int .i64 0) := by rw [(cell_of P1.out (i := 2) rfl).1]; simp [bi, nextR, hq1]
              go_quiet (fail)
              go_wp2_with fail
              go_roundw
              case rel =>
                have n1 := N5.out
                have n2 := N6.out
                have hr := HR.out
                exact ⟨q + 1, h1, d1, h2, d2, _, _, _, _, _, _, _, _, by omega, by omega, rfl, rfl, rfl, rfl, rfl, rfl, by go_num, P1.out.drawn nq, P2.out.drawn nq, bi_in _, ⟨by omega, by omega⟩, N3.2.2.2, N3.1, N3.2.1, by omega, ⟨by omega, by omega⟩, ⟨(by show h1 < y6.heap.size; omega), (by show h2 < y6.heap.size; omega)⟩, D1.out, D2.out, below_drawn HB6.out nq⟩
              case measure => simp [intOf]; omega
          · have hd : decide (0 < nextL true false false pt l) = false := by simp [nextL]; omega
            rw [hd] at P2 N3
            have hz0 : (pt == 0) = true := by have := HP.out; rw [beq_iff_eq]; omega
            have t2 := (cell_of P2.out (i := 2) rfl).1
            simp [bi] at t2
            by_cases hq1 : pt ≤ r + 1
            · have t1 : y6.cell? ⟨h1, 2, none⟩ = some (.int .i64 1) := by rw [(cell_of P1.out (i := 2) rfl).1]; simp [bi, nextR, hq1]
              go_quiet (fail)
              go_wp2_with fail
              go_roundw
              case rel =>
                have n1 := N5.out
                have n2 := N6.out
                have hr := HR.out
                exact ⟨q + 1, h1, d1, h2, d2, _, _, _, _, _, _, _, _, by omega, by omega, rfl, rfl, rfl, rfl, rfl, rfl, by go_num, P1.out.drawn nq, P2.out.drawn nq, bi_in _, ⟨by omega, by omega⟩, N3.2.2.2, N3.1, N3.2.1, by omega, ⟨by omega, by omega⟩, ⟨(by show h1 < y6.heap.size; omega), (by show h2 < y6.heap.size; omega)⟩, D1.out, D2.out, below_drawn HB6.out nq⟩
              case measure => simp [intOf]; omega
            · have t1 : y6.cell? ⟨h1, 2, none⟩ = some (.int .i64 0) := by rw [(cell_of P1.out (i := 2) rfl).1]; simp [bi, nextR, hq1]
              go_quiet (fail)
              go_wp2_with fail
              go_roundw
              case rel =>
                have n1 := N5.out
                have n2 := N6.out
                have hr := HR.out
                exact ⟨q + 1, h1, d1, h2, d2, _, _, _, _, _, _, _, _, by omega, by omega, rfl, rfl, rfl, rfl, rfl, rfl, by go_num, P1.out.drawn nq, P2.out.drawn nq, bi_in _, ⟨by omega, by omega⟩, N3.2.2.2, N3.1, N3.2.1, by omega, ⟨by omega, by omega⟩, ⟨(by show h1 < y6.heap.size; omega), (by show h2 < y6.heap.size; omega)⟩, D1.out, D2.out, below_drawn HB6.out nq⟩
              case measure => simp [intOf]; omega
        · go_upto_region 17 with (fail)
          obtain ⟨y4, e4⟩ : ∃ W, ((wr.setCell ⟨g1, 0, none⟩ (.int .i64 1)).setCell ⟨g2, 0, none⟩ (.int .i64 1)) = W := ⟨_, rfl⟩
          rw [e4]
          have Y1 : Hid (Box y4 g1 0 [.int .i64 (bi true), .int .i64 pt, .int .i64 q1, .int .i64 (min r pt)]) := Lib.hid (e4 ▸ Box_aside (Ne.symm hne) _ (HX1.out.put 0 (by simp) (.int .i64 1)))
          have Y2 : Hid (Box y4 g2 0 [.int .i64 (bi true), .int .i64 pt, .int .i64 (bi true), .int .i64 e, .int .i64 (bi false), .int .i64 (bi true)]) := Lib.hid (e4 ▸ (Box_aside hne _ HX2.out).put 0 (by simp) (.int .i64 1))
          have HB4 : Hid (Below w.heap.size w y4) := Lib.hid (e4 ▸ (HB.out.setCell HG.out.1 _).setCell HG.out.2 _)
          have Z4 : Hid (g1 < y4.heap.size ∧ g2 < y4.heap.size) := Lib.hid (by rw [← e4]; simpa using HZ.out)
          have hck4 : y4.cell? ⟨b, off + q, none⟩ = some (.bool true) := (HB4.out.cell (p := ⟨b, off + q, none⟩) hbw).trans ((HB.out.cell (p := ⟨b, off + q, none⟩) hbw).symm.trans hck)
          clear e4 a0 f0 a0' f1 HX1 HX2 HB HZ hck
          have S1 := step_ton (bi true) pt q1 (min r pt) (rd_box (n := 4) (L := [bi true, pt, q1, min r pt]) Y1.out Z4.out.1 HC1.out.1 HC1.out.2 rfl) (Nat.le_refl _) (bi_in _) (show InR pt from by have := HP.out; unfold InR; omega) HI.out (show InR (min r pt) from by have := HP.out; have := HR.out; unfold InR; omega) (LD.out.below HB4.out)
          rw [N1.out] at S1
          have S1 := Lib.hid S1
          go_wp2_with (go_at_call 7; fail)
          with_reducible refine (S1.out).mono ?_
          rintro e y5 ⟨h1, d1, rfl, hh1, hz5, hd1, hdm1, _, xx1, hb5⟩
          have P1 := Lib.hid xx1
          have Y2 := Lib.hid (Y2.out.below hb5 Z4.out.2)
          have HB5 := Lib.hid (HB4.out.trans (hb5.mono HB4.out.size))
          have D1 := Lib.hid (⟨hd1, hdm1⟩ : 4 ≤ d1 ∧ d1 ≤ maxLen)
          have N5 := Lib.hid (⟨Nat.le_trans HB4.out.size hh1, hz5⟩ : w.heap.size ≤ h1 ∧ h1 < y5.heap.size)
          have Z5 : Hid (g2 < y5.heap.size) := Lib.hid (Nat.lt_of_lt_of_le Z4.out.2 hb5.size)
          clear xx1 hb5 hh1 hz5 hd1 hdm1 S1
          have S2 := step_tp (bi true) pt (bi true) e (bi false) (bi true) (rd_box (n := 6) (L := [bi true, pt, bi true, e, bi false, bi true]) Y2.out Z5.out HC2.out.1 HC2.out.2 rfl) (Nat.le_refl _) (bi_in _) (show InR pt from by have := HP.out; unfold InR; omega) (bi_in _) (show InR e from by have := HE.out; unfold InR; omega) (bi_in _) (bi_in _) (LD.out.below HB5.out)
          rw [N2.out] at S2
          have S2 := Lib.hid S2
          go_wp2_with (go_at_call 7; fail)
          with_reducible refine (S2.out).mono ?_
          rintro e y6 ⟨h2, d2, rfl, hh2, hz6, hd2, hdm2, _, xx2, hb6⟩
          have P1 := Lib.hid (P1.out.below hb6 N5.out.2)
          have P2 := Lib.hid xx2
          have HB6 := Lib.hid (HB5.out.trans (hb6.mono HB5.out.size))
          have D2 := Lib.hid (⟨hd2, hdm2⟩ : 6 ≤ d2 ∧ d2 ≤ maxLen)
          have N6 := Lib.hid (⟨Nat.lt_of_lt_of_le N5.out.2 hh2, hz6⟩ : h1 < h2 ∧ h2 < y6.heap.size)
          have hck6 : y6.cell? ⟨b, off + q, none⟩ = some (.bool true) := (HB6.out.cell (p := ⟨b, off + q, none⟩) hbw).trans ((HB4.out.cell (p := ⟨b, off + q, none⟩) hbw).symm.trans hck4)
          clear xx2 hb6 hh2 hz6 hd2 hdm2 S2 N1 N2 Y1 Y2 HB4 HB5 hck4
          go_upto_region 18 with (fail)
          have N3 := N3.out
          by_cases h0 : 0 < l
          · have hd : decide (0 < nextL true false true pt l) = true := by simp [nextL]; omega
            rw [hd] at P2 N3
            have hz0 : (l == 0) = false := by rw [beq_eq_false_iff_ne]; omega
            have t2 := (cell_of P2.out (i := 2) rfl).1
            simp [bi] at t2
            by_cases hq1 : pt ≤ r + 1
            · have t1 : y6.cell? ⟨h1, 2, none⟩ = some (.int .i64 1) := by rw [(cell_of P1.out (i := 2) rfl).1]; simp [bi, nextR, hq1]
              go_quiet (fail)
              go_wp2_with fail
              go_roundw
              case rel =>
                have n1 := N5.out
                have n2 := N6.out
                have hr := HR.out
                exact ⟨q + 1, h1, d1, h2, d2, _, _, _, _, _, _, _, _, by omega, by omega, rfl, rfl, rfl, rfl, rfl, rfl, by go_num, P1.out.drawn nq, P2.out.drawn nq, bi_in _, ⟨by omega, by omega⟩, N3.2.2.2, N3.1, N3.2.1, by omega, ⟨by omega, by omega⟩, ⟨(by show h1 < y6.heap.size; omega), (by show h2 < y6.heap.size; omega)⟩, D1.out, D2.out, below_drawn HB6.out nq⟩
              case measure => simp [intOf]; omega
            · have t1 : y6.cell? ⟨h1, 2, none⟩ = some (.int .i64 0) := by rw [(cell_of P1.out (i := 2) rfl).1]; simp [bi, nextR, hq1]
              go_quiet (fail)
              go_wp2_with fail
              go_roundw
              case rel =>
                have n1 := N5.out
                have n2 := N6.out
                have hr := HR.out
                exact ⟨q + 1, h1, d1, h2, d2, _, _, _, _, _, _, _, _, by omega, by omega, rfl, rfl, rfl, rfl, rfl, rfl, by go_num, P1.out.drawn nq, P2.out.drawn nq, bi_in _, ⟨by omega, by omega⟩, N3.2.2.2, N3.1, N3.2.1, by omega, ⟨by omega, by omega⟩, ⟨(by show h1 < y6.heap.size; omega), (by show h2 < y6.heap.size; omega)⟩, D1.out, D2.out, below_drawn HB6.out nq⟩
              case measure => simp [intOf]; omega
          · have hd : decide (0 < nextL true false true pt l) = false := by simp [nextL]; omega
            rw [hd] at P2 N3
            have hz0 : (l == 0) = true := by have := L0.out; rw [beq_iff_eq]; omega
            have t2 := (cell_of P2.out (i := 2) rfl).1
            simp [bi] at t2
            by_cases hq1 : pt ≤ r + 1
            · have t1 : y6.cell? ⟨h1, 2, none⟩ = some (.int .i64 1) := by rw [(cell_of P1.out (i := 2) rfl).1]; simp [bi, nextR, hq1]
              go_quiet (fail)
              go_wp2_with fail
              go_roundw
              case rel =>
                have n1 := N5.out
                have n2 := N6.out
                have hr := HR.out
                exact ⟨q + 1, h1, d1, h2, d2, _, _, _, _, _, _, _, _, by omega, by omega, rfl, rfl, rfl, rfl, rfl, rfl, by go_num, P1.out.drawn nq, P2.out.drawn nq, bi_in _, ⟨by omega, by omega⟩, N3.2.2.2, N3.1, N3.2.1, by omega, ⟨by omega, by omega⟩, ⟨(by show h1 < y6.heap.size; omega), (by show h2 < y6.heap.size; omega)⟩, D1.out, D2.out, below_drawn HB6.out nq⟩
              case measure => simp [intOf]; omega
            · have t1 : y6.cell? ⟨h1, 2, none⟩ = some (.int .i64 0) := by rw [(cell_of P1.out (i := 2) rfl).1]; simp [bi, nextR, hq1]
              go_quiet (fail)
              go_wp2_with fail
              go_roundw
              case rel =>
                have n1 := N5.out
                have n2 := N6.out
                have hr := HR.out
                exact ⟨q + 1, h1, d1, h2, d2, _, _, _, _, _, _, _, _, by omega, by omega, rfl, rfl, rfl, rfl, rfl, rfl, by go_num, P1.out.drawn nq, P2.out.drawn nq, bi_in _, ⟨by omega, by omega⟩, N3.2.2.2, N3.1, N3.2.1, by omega, ⟨by omega, by omega⟩, ⟨(by show h1 < y6.heap.size; omega), (by show h2 < y6.heap.size; omega)⟩, D1.out, D2.out, below_drawn HB6.out nq⟩
              case measure => simp [intOf]; omega
        · go_upto_region 17 with (fail)
          obtain ⟨y4, e4⟩ : ∃ W, ((wr.setCell ⟨g1, 0, none⟩ (.int .i64 1)).setCell ⟨g2, 0, none⟩ (.int .i64 1)) = W := ⟨_, rfl⟩
          rw [e4]
          have Y1 : Hid (Box y4 g1 0 [.int .i64 (bi true), .int .i64 pt, .int .i64 q1, .int .i64 (min r pt)]) := Lib.hid (e4 ▸ Box_aside (Ne.symm hne) _ (HX1.out.put 0 (by simp) (.int .i64 1)))
          have Y2 : Hid (Box y4 g2 0 [.int .i64 (bi true), .int .i64 pt, .int .i64 (bi false), .int .i64 e, .int .i64 (bi true), .int .i64 (bi false)]) := Lib.hid (e4 ▸ (Box_aside hne _ HX2.out).put 0 (by simp) (.int .i64 1))
          have HB4 : Hid (Below w.heap.size w y4) := Lib.hid (e4 ▸ (HB.out.setCell HG.out.1 _).setCell HG.out.2 _)
          have Z4 : Hid (g1 < y4.heap.size ∧ g2 < y4.heap.size) := Lib.hid (by rw [← e4]; simpa using HZ.out)
          have hck4 : y4.cell? ⟨b, off + q, none⟩ = some (.bool true) := (HB4.out.cell (p := ⟨b, off + q, none⟩) hbw).trans ((HB.out.cell (p := ⟨b, off + q, none⟩) hbw).symm.trans hck)
          clear e4 a0 f0 a0' f1 HX1 HX2 HB HZ hck
          have S1 := step_ton (bi true) pt q1 (min r pt) (rd_box (n := 4) (L := [bi true, pt, q1, min r pt]) Y1.out Z4.out.1 HC1.out.1 HC1.out.2 rfl) (Nat.le_refl _) (bi_in _) (show InR pt from by have := HP.out; unfold InR; omega) HI.out (show InR (min r pt) from by have := HP.out; have := HR.out; unfold InR; omega) (LD.out.below HB4.out)
          rw [N1.out] at S1
          have S1 := Lib.hid S1
          go_wp2_with (go_at_call 7; fail)
          with_reducible refine (S1.out).mono ?_
          rintro e y5 ⟨h1, d1, rfl, hh1, hz5, hd1, hdm1, _, xx1, hb5⟩
          have P1 := Lib.hid xx1
          have Y2 := Lib.hid (Y2.out.below hb5 Z4.out.2)
          have HB5 := Lib.hid (HB4.out.trans (hb5.mono HB4.out.size))
          have D1 := Lib.hid (⟨hd1, hdm1⟩ : 4 ≤ d1 ∧ d1 ≤ maxLen)
          have N5 := Lib.hid (⟨Nat.le_trans HB4.out.size hh1, hz5⟩ : w.heap.size ≤ h1 ∧ h1 < y5.heap.size)
          have Z5 : Hid (g2 < y5.heap.size) := Lib.hid (Nat.lt_of_lt_of_le Z4.out.2 hb5.size)
          clear xx1 hb5 hh1 hz5 hd1 hdm1 S1
          have S2 := step_tp (bi true) pt (bi false) e (bi true) (bi false) (rd_box (n := 6) (L := [bi true, pt, bi false, e, bi true, bi false]) Y2.out Z5.out HC2.out.1 HC2.out.2 rfl) (Nat.le_refl _) (bi_in _) (show InR pt from by have := HP.out; unfold InR; omega) (bi_in _) (show InR e from by have := HE.out; unfold InR; omega) (bi_in _) (bi_in _) (LD.out.below HB5.out)
          rw [N2.out] at S2
          have S2 := Lib.hid S2
          go_wp2_with (go_at_call 7; fail)
          with_reducible refine (S2.out).mono ?_
          rintro e y6 ⟨h2, d2, rfl, hh2, hz6, hd2, hdm2, _, xx2, hb6⟩
          have P1 := Lib.hid (P1.out.below hb6 N5.out.2)
          have P2 := Lib.hid xx2
          have HB6 := Lib.hid (HB5.out.trans (hb6.mono HB5.out.size))
          have D2 := Lib.hid (⟨hd2, hdm2⟩ : 6 ≤ d2 ∧ d2 ≤ maxLen)
          have N6 := Lib.hid (⟨Nat.lt_of_lt_of_le N5.out.2 hh2, hz6⟩ : h1 < h2 ∧ h2 < y6.heap.size)
          have hck6 : y6.cell? ⟨b, off + q, none⟩ = some (.bool true) := (HB6.out.cell (p := ⟨b, off + q, none⟩) hbw).trans ((HB4.out.cell (p := ⟨b, off + q, none⟩) hbw).symm.trans hck4)
          clear xx2 hb6 hh2 hz6 hd2 hdm2 S2 N1 N2 Y1 Y2 HB4 HB5 hck4
          go_upto_region 18 with (fail)
          have N3 := N3.out
          have hl0 : l = 0 := by simpa using HL.out
          subst hl0
          · have hd : decide (0 < nextL true true false pt 0) = false := by simp [nextL]
            rw [hd] at P2 N3
            have hz0 : ((0 : Int) == 0) = true := by rfl
            have t2 := (cell_of P2.out (i := 2) rfl).1
            simp [bi] at t2
            by_cases hq1 : pt ≤ r + 1
            · have t1 : y6.cell? ⟨h1, 2, none⟩ = some (.int .i64 1) := by rw [(cell_of P1.out (i := 2) rfl).1]; simp [bi, nextR, hq1]
              go_quiet (fail)
              go_wp2_with fail
              go_roundw
              case rel =>
                have n1 := N5.out
                have n2 := N6.out
                have hr := HR.out
                exact ⟨q + 1, h1, d1, h2, d2, _, _, _, _, _, _, _, _, by omega, by omega, rfl, rfl, rfl, rfl, rfl, rfl, by go_num, P1.out.drawn nq, P2.out.drawn nq, bi_in _, ⟨by omega, by omega⟩, N3.2.2.2, N3.1, N3.2.1, by omega, ⟨by omega, by omega⟩, ⟨(by show h1 < y6.heap.size; omega), (by show h2 < y6.heap.size; omega)⟩, D1.out, D2.out, below_drawn HB6.out nq⟩
              case measure => simp [intOf]; omega
            · have t1 : y6.cell? ⟨h1, 2, none⟩ = some (.int .i64 0) := by rw [(cell_of P1.out (i := 2) rfl).1]; simp [bi, nextR, hq1]
              go_quiet (fail)
              go_wp2_with fail
              go_roundw
              case rel =>
                have n1 := N5.out
                have n2 := N6.out
                have hr := HR.out
                exact ⟨q + 1, h1, d1, h2, d2, _, _, _, _, _, _, _, _, by omega, by omega, rfl, rfl, rfl, rfl, rfl, rfl, by go_num, P1.out.drawn nq, P2.out.drawn nq, bi_in _, ⟨by omega, by omega⟩, N3.2.2.2, N3.1, N3.2.1, by omega, ⟨by omega, by omega⟩, ⟨(by show h1 < y6.heap.size; omega), (by show h2 < y6.heap.size; omega)⟩, D1.out, D2.out, below_drawn HB6.out nq⟩
              case measure => simp [intOf]; omega
        · go_upto_region 17 with (fail)
          obtain ⟨y4, e4⟩ : ∃ W, ((wr.setCell ⟨g1, 0, none⟩ (.int .i64 1)).setCell ⟨g2, 0, none⟩ (.int .i64 1)) = W := ⟨_, rfl⟩
          rw [e4]
          have Y1 : Hid (Box y4 g1 0 [.int .i64 (bi true), .int .i64 pt, .int .i64 q1, .int .i64 (min r pt)]) := Lib.hid (e4 ▸ Box_aside (Ne.symm hne) _ (HX1.out.put 0 (by simp) (.int .i64 1)))
          have Y2 : Hid (Box y4 g2 0 [.int .i64 (bi true), .int .i64 pt, .int .i64 (bi true), .int .i64 e, .int .i64 (bi true), .int .i64 (bi true)]) := Lib.hid (e4 ▸ (Box_aside hne _ HX2.out).put 0 (by simp) (.int .i64 1))
          have HB4 : Hid (Below w.heap.size w y4) := Lib.hid (e4 ▸ (HB.out.setCell HG.out.1 _).setCell HG.out.2 _)
          have Z4 : Hid (g1 < y4.heap.size ∧ g2 < y4.heap.size) := Lib.hid (by rw [← e4]; simpa using HZ.out)
          have hck4 : y4.cell? ⟨b, off + q, none⟩ = some (.bool true) := (HB4.out.cell (p := ⟨b, off + q, none⟩) hbw).trans ((HB.out.cell (p := ⟨b, off + q, none⟩) hbw).symm.trans hck)
          clear e4 a0 f0 a0' f1 HX1 HX2 HB HZ hck
          have S1 := step_ton (bi true) pt q1 (min r pt) (rd_box (n := 4) (L := [bi true, pt, q1, min r pt]) Y1.out Z4.out.1 HC1.out.1 HC1.out.2 rfl) (Nat.le_refl _) (bi_in _) (show InR pt from by have := HP.out; unfold InR; omega) HI.out (show InR (min r pt) from by have := HP.out; have := HR.out; unfold InR; omega) (LD.out.below HB4.out)
          rw [N1.out] at S1
          have S1 := Lib.hid S1
          go_wp2_with (go_at_call 7; fail)
          with_reducible refine (S1.out).mono ?_
          rintro e y5 ⟨h1, d1, rfl, hh1, hz5, hd1, hdm1, _, xx1, hb5⟩
          have P1 := Lib.hid xx1
          have Y2 := Lib.hid (Y2.out.below hb5 Z4.out.2)
          have HB5 := Lib.hid (HB4.out.trans (hb5.mono HB4.out.size))
          have D1 := Lib.hid (⟨hd1, hdm1⟩ : 4 ≤ d1 ∧ d1 ≤ maxLen)
          have N5 := Lib.hid (⟨Nat.le_trans HB4.out.size hh1, hz5⟩ : w.heap.size ≤ h1 ∧ h1 < y5.heap.size)
          have Z5 : Hid (g2 < y5.heap.size) := Lib.hid (Nat.lt_of_lt_of_le Z4.out.2 hb5.size)
          clear xx1 hb5 hh1 hz5 hd1 hdm1 S1
          have S2 := step_tp (bi true) pt (bi true) e (bi true) (bi true) (rd_box (n := 6) (L := [bi true, pt, bi true, e, bi true, bi true]) Y2.out Z5.out HC2.out.1 HC2.out.2 rfl) (Nat.le_refl _) (bi_in _) (show InR pt from by have := HP.out; unfold InR; omega) (bi_in _) (show InR e from by have := HE.out; unfold InR; omega) (bi_in _) (bi_in _) (LD.out.below HB5.out)
          rw [N2.out] at S2
          have S2 := Lib.hid S2
          go_wp2_with (go_at_call 7; fail)
          with_reducible refine (S2.out).mono ?_
          rintro e y6 ⟨h2, d2, rfl, hh2, hz6, hd2, hdm2, _, xx2, hb6⟩
          have P1 := Lib.hid (P1.out.below hb6 N5.out.2)
          have P2 := Lib.hid xx2
          have HB6 := Lib.hid (HB5.out.trans (hb6.mono HB5.out.size))
          have D2 := Lib.hid (⟨hd2, hdm2⟩ : 6 ≤ d2 ∧ d2 ≤ maxLen)
          have N6 := Lib.hid (⟨Nat.lt_of_lt_of_le N5.out.2 hh2, hz6⟩ : h1 < h2 ∧ h2 < y6.heap.size)
          have hck6 : y6.cell? ⟨b, off + q, none⟩ = some (.bool true) := (HB6.out.cell (p := ⟨b, off + q, none⟩) hbw).trans ((HB4.out.cell (p := ⟨b, off + q, none⟩) hbw).symm.trans hck4)
          clear xx2 hb6 hh2 hz6 hd2 hdm2 S2 N1 N2 Y1 Y2 HB4 HB5 hck4
          go_upto_region 18 with (fail)
          have N3 := N3.out
          by_cases h0 : 0 < l
          · have hd : decide (0 < nextL true true true pt l) = true := by simp [nextL]; omega
            rw [hd] at P2 N3
            have hz0 : (l == 0) = false := by rw [beq_eq_false_iff_ne]; omega
            have t2 := (cell_of P2.out (i := 2) rfl).1
            simp [bi] at t2
            by_cases hq1 : pt ≤ r + 1
            · have t1 : y6.cell? ⟨h1, 2, none⟩ = some (.int .i64 1) := by rw [(cell_of P1.out (i := 2) rfl).1]; simp [bi, nextR, hq1]
              go_quiet (fail)
              go_wp2_with fail
              go_roundw
              case rel =>
                have n1 := N5.out
                have n2 := N6.out
                have hr := HR.out
                exact ⟨q + 1, h1, d1, h2, d2, _, _, _, _, _, _, _, _, by omega, by omega, rfl, rfl, rfl, rfl, rfl, rfl, by go_num, P1.out.drawn nq, P2.out.drawn nq, bi_in _, ⟨by omega, by omega⟩, N3.2.2.2, N3.1, N3.2.1, by omega, ⟨by omega, by omega⟩, ⟨(by show h1 < y6.heap.size; omega), (by show h2 < y6.heap.size; omega)⟩, D1.out, D2.out, below_drawn HB6.out nq⟩
              case measure => simp [intOf]; omega
            · have t1 : y6.cell? ⟨h1, 2, none⟩ = some (.int .i64 0) := by rw [(cell_of P1.out (i := 2) rfl).1]; simp [bi, nextR, hq1]
              go_quiet (fail)
              go_wp2_with fail
              go_roundw
              case rel =>
                have n1 := N5.out
                have n2 := N6.out
                have hr := HR.out
                exact ⟨q + 1, h1, d1, h2, d2, _, _, _, _, _, _, _, _, by omega, by omega, rfl, rfl, rfl, rfl, rfl, rfl, by go_num, P1.out.drawn nq, P2.out.drawn nq, bi_in _, ⟨by omega, by omega⟩, N3.2.2.2, N3.1, N3.2.1, by omega, ⟨by omega, by omega⟩, ⟨(by show h1 < y6.heap.size; omega), (by show h2 < y6.heap.size; omega)⟩, D1.out, D2.out, below_drawn HB6.out nq⟩
              case measure => simp [intOf]; omega
          · have hd : decide (0 < nextL true true true pt l) = false := by simp [nextL]; omega
            rw [hd] at P2 N3
            have hz0 : (l == 0) = true := by have := L0.out; rw [beq_iff_eq]; omega
            have t2 := (cell_of P2.out (i := 2) rfl).1
            simp [bi] at t2
            by_cases hq1 : pt ≤ r + 1
            · have t1 : y6.cell? ⟨h1, 2, none⟩ = some (.int .i64 1) := by rw [(cell_of P1.out (i := 2) rfl).1]; simp [bi, nextR, hq1]
              go_quiet (fail)
              go_wp2_with fail
              go_roundw
              case rel =>
                have n1 := N5.out
                have n2 := N6.out
                have hr := HR.out
                exact ⟨q + 1, h1, d1, h2, d2, _, _, _, _, _, _, _, _, by omega, by omega, rfl, rfl, rfl, rfl, rfl, rfl, by go_num, P1.out.drawn nq, P2.out.drawn nq, bi_in _, ⟨by omega, by omega⟩, N3.2.2.2, N3.1, N3.2.1, by omega, ⟨by omega, by omega⟩, ⟨(by show h1 < y6.heap.size; omega), (by show h2 < y6.heap.size; omega)⟩, D1.out, D2.out, below_drawn HB6.out nq⟩
              case measure => simp [intOf]; omega
            · have t1 : y6.cell? ⟨h1, 2, none⟩ = some (.int .i64 0) := by rw [(cell_of P1.out (i := 2) rfl).1]; simp [bi, nextR, hq1]
              go_quiet (fail)
              go_wp2_with fail
              go_roundw
              case rel =>
                have n1 := N5.out
                have n2 := N6.out
                have hr := HR.out
                exact ⟨q + 1, h1, d1, h2, d2, _, _, _, _, _, _, _, _, by omega, by omega, rfl, rfl, rfl, rfl, rfl, rfl, by go_num, P1.out.drawn nq, P2.out.drawn nq, bi_in _, ⟨by omega, by omega⟩, N3.2.2.2, N3.1, N3.2.1, by omega, ⟨by omega, by omega⟩, ⟨(by show h1 < y6.heap.size; omega), (by show h2 < y6.heap.size; omega)⟩, D1.out, D2.out, below_drawn HB6.out nq⟩
              case measure => simp [intOf]; omega
      · have : q = 300 := by omega
        subst this
        clear hl hey
        go_wp2
        go_ret
        exact ⟨rfl, HB.out⟩
    · have : q = len := by omega
      subst this
      clear hl hey
      go_wp2
      go_ret
      exact ⟨rfl, HB.out⟩
end Go.Proofs.YtkfmblebobjgbaaDoor.stdTimers
