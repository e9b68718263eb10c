/- What the landed std's Step gives of seven of its blocks: their cells behind the call, in a new block; what was in memory is as it was. Conditions: the cells are whole numbers of 64 bits, and the library's table of white space lies as the library lays it. -/
import Derived.Test.YtkfmblebobjgbaaDoorStPins
import Derived.Test.YtkfmblebobjgbaaDoorStSteps
namespace Go.Proofs.YtkfmblebobjgbaaDoor.sd
open Go.ChangeShapes Go.WideShapes Go.ChangeAt Go.RowKit Go.Proofs.YtkfmblebobjgbaaDoor.k Go.Proofs.YtkfmblebobjgbaaDoor.rr
set_option linter.unusedVariables false

theorem pins_len (k n : Int) (m : Nat) (hl : (pinsL k).length = m) (W : World) (hL : Laid W) : Calls Tryd.prog 10 #[.int .i64 k] W fun e w' => ∃ A c, e = .returned (.slice A m c) ∧ Below W.heap.size W w' := by
  refine (pins_row k W hL).mono ?_
  rintro e w' ⟨v, rfl, ho, hb⟩
  obtain ⟨A, c, rfl, _⟩ := ho.form pC_len
  rw [hl]
  exact ⟨A, c, rfl, hb⟩
section
variable {w : World} {B : Nat} {A : Option Addr} {c : Nat}

set_option maxHeartbeats 4000000 in
theorem step_ton (i pt q et : Int) (h : RdI w B A 4 c [i, pt, q, et]) (hB : B ≤ w.heap.size) (h1 : InR i) (h2 : InR pt) (h3 : InR q) (h4 : InR et) (hL : Laid w) : Calls Tryd.prog 7 #[.int .i64 10, .slice A 4 c] w (GotB 4 (tonL i pt et) w) := by
  have CC := Lib.hid (clone_row _ h hB (by omega) (by omega))
  have PP := Lib.hid fun W hL => pins_len 10 0 4 (by kernel_rfl) W hL
  have HL := Lib.hid hL
  have FF := Lib.hid fun g cap W xb hc => ton_in i pt q et (g := g) (cap := cap) (w := W) xb hc h2 h4
  clear h hB hL h1 h2 h3 h4
  go_enter Tryd.func7, Tryd.ntmps7
  go_wp2_with (first
    | (go_at_call 9; (with_reducible refine (CC.out).mono ?_); rintro e w1 ⟨g1, c1, rfl, hg1, hz1, hc1, hm1, hl1, x1, hb1⟩; have B1 := Lib.hid hb1; have X1 := Lib.hid x1; have L1 := Lib.hid (HL.out.below hb1); have G1 := Lib.hid hg1; have Z1 := Lib.hid hz1; have M1 := Lib.hid (And.intro hc1 hm1); clear hb1 x1 hg1 hz1 hc1 hm1 hl1)
    | (go_at_call 10; (with_reducible refine (PP.out _ L1.out).mono ?_); rintro e w2 ⟨A2, c2, rfl, hb2⟩; have X2 := Lib.hid (X1.out.below hb2 Z1.out); have B2 := Lib.hid (B1.out.trans (hb2.mono B1.out.size)); have Z2 := Lib.hid (Nat.lt_of_lt_of_le Z1.out hb2.size); clear hb2)
    | (go_at_call 11; (with_reducible refine (FF.out _ _ _ X2.out M1.out.1).mono ?_); rintro e w3 ⟨rfl, x3, hb3⟩; have X3 := Lib.hid x3; have B3 := Lib.hid (B2.out.trans (hb3 _ G1.out)); have Z3 := Lib.hid (Nat.lt_of_lt_of_le Z2.out (hb3 _ (Nat.le_refl _)).size); clear x3 hb3))
  go_ret
  exact ⟨g1, c1, rfl, G1.out, Z3.out, M1.out.1, M1.out.2, by unfold tonL; split <;> rfl, X3.out, B3.out⟩
set_option maxHeartbeats 4000000 in
theorem step_tp (i pt q et p r : Int) (h : RdI w B A 6 c [i, pt, q, et, p, r]) (hB : B ≤ w.heap.size) (h1 : InR i) (h2 : InR pt) (h3 : InR q) (h4 : InR et) (h5 : InR p) (h6 : InR r) (hL : Laid w) : Calls Tryd.prog 7 #[.int .i64 12, .slice A 6 c] w (GotB 6 (tpL i pt q et p r) w) := by
  have CC := Lib.hid (clone_row _ h hB (by omega) (by omega))
  have PP := Lib.hid fun W hL => pins_len 12 0 6 (by kernel_rfl) W hL
  have HL := Lib.hid hL
  have FF := Lib.hid fun g cap W xb hc => tp_in i pt q et p r (g := g) (cap := cap) (w := W) xb hc h2 h4
  clear h hB hL h1 h2 h3 h4 h5 h6
  go_enter Tryd.func7, Tryd.ntmps7
  go_wp2_with (first
    | (go_at_call 9; (with_reducible refine (CC.out).mono ?_); rintro e w1 ⟨g1, c1, rfl, hg1, hz1, hc1, hm1, hl1, x1, hb1⟩; have B1 := Lib.hid hb1; have X1 := Lib.hid x1; have L1 := Lib.hid (HL.out.below hb1); have G1 := Lib.hid hg1; have Z1 := Lib.hid hz1; have M1 := Lib.hid (And.intro hc1 hm1); clear hb1 x1 hg1 hz1 hc1 hm1 hl1)
    | (go_at_call 10; (with_reducible refine (PP.out _ L1.out).mono ?_); rintro e w2 ⟨A2, c2, rfl, hb2⟩; have X2 := Lib.hid (X1.out.below hb2 Z1.out); have B2 := Lib.hid (B1.out.trans (hb2.mono B1.out.size)); have Z2 := Lib.hid (Nat.lt_of_lt_of_le Z1.out hb2.size); clear hb2)
    | (go_at_call 13; (with_reducible refine (FF.out _ _ _ X2.out M1.out.1).mono ?_); rintro e w3 ⟨rfl, x3, hb3⟩; have X3 := Lib.hid x3; have B3 := Lib.hid (B2.out.trans (hb3 _ G1.out)); have Z3 := Lib.hid (Nat.lt_of_lt_of_le Z2.out (hb3 _ (Nat.le_refl _)).size); clear x3 hb3))
  go_ret
  exact ⟨g1, c1, rfl, G1.out, Z3.out, M1.out.1, M1.out.2, by unfold tpL; split <;> (split <;> (try split) <;> rfl), X3.out, B3.out⟩
set_option maxHeartbeats 4000000 in
theorem step_ctu (u r pv q cv p : Int) (h : RdI w B A 6 c [u, r, pv, q, cv, p]) (hB : B ≤ w.heap.size) (h1 : InR u) (h2 : InR r) (h3 : InR pv) (h4 : InR q) (h5 : InR cv) (h6 : InR p) (hL : Laid w) : Calls Tryd.prog 7 #[.int .i64 13, .slice A 6 c] w (GotB 6 (ctuL u r pv cv p) w) := by
  have CC := Lib.hid (clone_row _ h hB (by omega) (by omega))
  have PP := Lib.hid fun W hL => pins_len 13 0 6 (by kernel_rfl) W hL
  have HL := Lib.hid hL
  have FF := Lib.hid fun g cap W xb hc => ctu_in u r pv q cv p (g := g) (cap := cap) (w := W) xb hc h5
  clear h hB hL h1 h2 h3 h4 h5 h6
  go_enter Tryd.func7, Tryd.ntmps7
  go_wp2_with (first
    | (go_at_call 9; (with_reducible refine (CC.out).mono ?_); rintro e w1 ⟨g1, c1, rfl, hg1, hz1, hc1, hm1, hl1, x1, hb1⟩; have B1 := Lib.hid hb1; have X1 := Lib.hid x1; have L1 := Lib.hid (HL.out.below hb1); have G1 := Lib.hid hg1; have Z1 := Lib.hid hz1; have M1 := Lib.hid (And.intro hc1 hm1); clear hb1 x1 hg1 hz1 hc1 hm1 hl1)
    | (go_at_call 10; (with_reducible refine (PP.out _ L1.out).mono ?_); rintro e w2 ⟨A2, c2, rfl, hb2⟩; have X2 := Lib.hid (X1.out.below hb2 Z1.out); have B2 := Lib.hid (B1.out.trans (hb2.mono B1.out.size)); have Z2 := Lib.hid (Nat.lt_of_lt_of_le Z1.out hb2.size); clear hb2)
    | (go_at_call 14; (with_reducible refine (FF.out _ _ _ X2.out M1.out.1).mono ?_); rintro e w3 ⟨rfl, x3, hb3⟩; have X3 := Lib.hid x3; have B3 := Lib.hid (B2.out.trans (hb3 _ G1.out)); have Z3 := Lib.hid (Nat.lt_of_lt_of_le Z2.out (hb3 _ (Nat.le_refl _)).size); clear x3 hb3))
  go_ret
  exact ⟨g1, c1, rfl, G1.out, Z3.out, M1.out.1, M1.out.2, by rfl, X3.out, B3.out⟩
set_option maxHeartbeats 4000000 in
theorem step_rt (x q p : Int) (h : RdI w B A 3 c [x, q, p]) (hB : B ≤ w.heap.size) (h1 : InR x) (h2 : InR q) (h3 : InR p) (hL : Laid w) : Calls Tryd.prog 7 #[.int .i64 15, .slice A 3 c] w (GotB 3 (rtL x p) w) := by
  have CC := Lib.hid (clone_row _ h hB (by omega) (by omega))
  have PP := Lib.hid fun W hL => pins_len 15 0 3 (by kernel_rfl) W hL
  have HL := Lib.hid hL
  have FF := Lib.hid fun g cap W xb hc => rt_in x q p (g := g) (cap := cap) (w := W) xb hc
  clear h hB hL h1 h2 h3
  go_enter Tryd.func7, Tryd.ntmps7
  go_wp2_with (first
    | (go_at_call 9; (with_reducible refine (CC.out).mono ?_); rintro e w1 ⟨g1, c1, rfl, hg1, hz1, hc1, hm1, hl1, x1, hb1⟩; have B1 := Lib.hid hb1; have X1 := Lib.hid x1; have L1 := Lib.hid (HL.out.below hb1); have G1 := Lib.hid hg1; have Z1 := Lib.hid hz1; have M1 := Lib.hid (And.intro hc1 hm1); clear hb1 x1 hg1 hz1 hc1 hm1 hl1)
    | (go_at_call 10; (with_reducible refine (PP.out _ L1.out).mono ?_); rintro e w2 ⟨A2, c2, rfl, hb2⟩; have X2 := Lib.hid (X1.out.below hb2 Z1.out); have B2 := Lib.hid (B1.out.trans (hb2.mono B1.out.size)); have Z2 := Lib.hid (Nat.lt_of_lt_of_le Z1.out hb2.size); clear hb2)
    | (go_at_call 16; (with_reducible refine (FF.out _ _ _ X2.out M1.out.1).mono ?_); rintro e w3 ⟨rfl, x3, hb3⟩; have X3 := Lib.hid x3; have B3 := Lib.hid (B2.out.trans (hb3 _ G1.out)); have Z3 := Lib.hid (Nat.lt_of_lt_of_le Z2.out (hb3 _ (Nat.le_refl _)).size); clear x3 hb3))
  go_ret
  exact ⟨g1, c1, rfl, G1.out, Z3.out, M1.out.1, M1.out.2, by rfl, X3.out, B3.out⟩
set_option maxHeartbeats 4000000 in
theorem step_ft (x q p : Int) (h : RdI w B A 3 c [x, q, p]) (hB : B ≤ w.heap.size) (h1 : InR x) (h2 : InR q) (h3 : InR p) (hL : Laid w) : Calls Tryd.prog 7 #[.int .i64 16, .slice A 3 c] w (GotB 3 (ftL x p) w) := by
  have CC := Lib.hid (clone_row _ h hB (by omega) (by omega))
  have PP := Lib.hid fun W hL => pins_len 16 0 3 (by kernel_rfl) W hL
  have HL := Lib.hid hL
  have FF := Lib.hid fun g cap W xb hc => ft_in x q p (g := g) (cap := cap) (w := W) xb hc
  clear h hB hL h1 h2 h3
  go_enter Tryd.func7, Tryd.ntmps7
  go_wp2_with (first
    | (go_at_call 9; (with_reducible refine (CC.out).mono ?_); rintro e w1 ⟨g1, c1, rfl, hg1, hz1, hc1, hm1, hl1, x1, hb1⟩; have B1 := Lib.hid hb1; have X1 := Lib.hid x1; have L1 := Lib.hid (HL.out.below hb1); have G1 := Lib.hid hg1; have Z1 := Lib.hid hz1; have M1 := Lib.hid (And.intro hc1 hm1); clear hb1 x1 hg1 hz1 hc1 hm1 hl1)
    | (go_at_call 10; (with_reducible refine (PP.out _ L1.out).mono ?_); rintro e w2 ⟨A2, c2, rfl, hb2⟩; have X2 := Lib.hid (X1.out.below hb2 Z1.out); have B2 := Lib.hid (B1.out.trans (hb2.mono B1.out.size)); have Z2 := Lib.hid (Nat.lt_of_lt_of_le Z1.out hb2.size); clear hb2)
    | (go_at_call 17; (with_reducible refine (FF.out _ _ _ X2.out M1.out.1).mono ?_); rintro e w3 ⟨rfl, x3, hb3⟩; have X3 := Lib.hid x3; have B3 := Lib.hid (B2.out.trans (hb3 _ G1.out)); have Z3 := Lib.hid (Nat.lt_of_lt_of_le Z2.out (hb3 _ (Nat.le_refl _)).size); clear x3 hb3))
  go_ret
  exact ⟨g1, c1, rfl, G1.out, Z3.out, M1.out.1, M1.out.2, by rfl, X3.out, B3.out⟩
set_option maxHeartbeats 4000000 in
theorem step_sr (s r q : Int) (h : RdI w B A 3 c [s, r, q]) (hB : B ≤ w.heap.size) (h1 : InR s) (h2 : InR r) (h3 : InR q) (hL : Laid w) : Calls Tryd.prog 7 #[.int .i64 17, .slice A 3 c] w (GotB 3 (srL s r q) w) := by
  have CC := Lib.hid (clone_row _ h hB (by omega) (by omega))
  have PP := Lib.hid fun W hL => pins_len 17 0 3 (by kernel_rfl) W hL
  have HL := Lib.hid hL
  have FF := Lib.hid fun g cap W xb hc => sr_in s r q (g := g) (cap := cap) (w := W) xb hc
  clear h hB hL h1 h2 h3
  go_enter Tryd.func7, Tryd.ntmps7
  go_wp2_with (first
    | (go_at_call 9; (with_reducible refine (CC.out).mono ?_); rintro e w1 ⟨g1, c1, rfl, hg1, hz1, hc1, hm1, hl1, x1, hb1⟩; have B1 := Lib.hid hb1; have X1 := Lib.hid x1; have L1 := Lib.hid (HL.out.below hb1); have G1 := Lib.hid hg1; have Z1 := Lib.hid hz1; have M1 := Lib.hid (And.intro hc1 hm1); clear hb1 x1 hg1 hz1 hc1 hm1 hl1)
    | (go_at_call 10; (with_reducible refine (PP.out _ L1.out).mono ?_); rintro e w2 ⟨A2, c2, rfl, hb2⟩; have X2 := Lib.hid (X1.out.below hb2 Z1.out); have B2 := Lib.hid (B1.out.trans (hb2.mono B1.out.size)); have Z2 := Lib.hid (Nat.lt_of_lt_of_le Z1.out hb2.size); clear hb2)
    | (go_at_call 18; (with_reducible refine (FF.out _ _ _ X2.out M1.out.1).mono ?_); rintro e w3 ⟨rfl, x3, hb3⟩; have X3 := Lib.hid x3; have B3 := Lib.hid (B2.out.trans (hb3 _ G1.out)); have Z3 := Lib.hid (Nat.lt_of_lt_of_le Z2.out (hb3 _ (Nat.le_refl _)).size); clear x3 hb3))
  go_ret
  exact ⟨g1, c1, rfl, G1.out, Z3.out, M1.out.1, M1.out.2, by rfl, X3.out, B3.out⟩
set_option maxHeartbeats 4000000 in
theorem step_rs (s r q : Int) (h : RdI w B A 3 c [s, r, q]) (hB : B ≤ w.heap.size) (h1 : InR s) (h2 : InR r) (h3 : InR q) (hL : Laid w) : Calls Tryd.prog 7 #[.int .i64 18, .slice A 3 c] w (GotB 3 (rsL s r q) w) := by
  have CC := Lib.hid (clone_row _ h hB (by omega) (by omega))
  have PP := Lib.hid fun W hL => pins_len 18 0 3 (by kernel_rfl) W hL
  have HL := Lib.hid hL
  have FF := Lib.hid fun g cap W xb hc => rs_in s r q (g := g) (cap := cap) (w := W) xb hc
  clear h hB hL h1 h2 h3
  go_enter Tryd.func7, Tryd.ntmps7
  go_wp2_with (first
    | (go_at_call 9; (with_reducible refine (CC.out).mono ?_); rintro e w1 ⟨g1, c1, rfl, hg1, hz1, hc1, hm1, hl1, x1, hb1⟩; have B1 := Lib.hid hb1; have X1 := Lib.hid x1; have L1 := Lib.hid (HL.out.below hb1); have G1 := Lib.hid hg1; have Z1 := Lib.hid hz1; have M1 := Lib.hid (And.intro hc1 hm1); clear hb1 x1 hg1 hz1 hc1 hm1 hl1)
    | (go_at_call 10; (with_reducible refine (PP.out _ L1.out).mono ?_); rintro e w2 ⟨A2, c2, rfl, hb2⟩; have X2 := Lib.hid (X1.out.below hb2 Z1.out); have B2 := Lib.hid (B1.out.trans (hb2.mono B1.out.size)); have Z2 := Lib.hid (Nat.lt_of_lt_of_le Z1.out hb2.size); clear hb2)
    | (go_at_call 19; (with_reducible refine (FF.out _ _ _ X2.out M1.out.1).mono ?_); rintro e w3 ⟨rfl, x3, hb3⟩; have X3 := Lib.hid x3; have B3 := Lib.hid (B2.out.trans (hb3 _ G1.out)); have Z3 := Lib.hid (Nat.lt_of_lt_of_le Z2.out (hb3 _ (Nat.le_refl _)).size); clear x3 hb3))
  go_ret
  exact ⟨g1, c1, rfl, G1.out, Z3.out, M1.out.1, M1.out.2, by rfl, X3.out, B3.out⟩
end
end Go.Proofs.YtkfmblebobjgbaaDoor.sd
