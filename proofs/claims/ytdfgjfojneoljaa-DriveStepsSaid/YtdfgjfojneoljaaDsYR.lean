/- Stage 7's law DriveSteps, a drive that is right, a new one that may be. No condition but what each line says. -/
import Derived.Test.YtdfgjfojneoljaaDsBase
namespace Go.Proofs.Ytdfgjfojneoljaa.driveSteps
open Go.ChangeShapes Go.WideShapes Go.ChangeAt Go.RowKit Go.Proofs.Ytdfgjfojneoljaa.s Go.Proofs.Ytdfgjfojneoljaa.t Go.Proofs.Ytdfgjfojneoljaa.j Go.Proofs.Ytdfgjfojneoljaa
set_option linter.unusedVariables false
set_option maxRecDepth 100000 in
set_option maxHeartbeats 8000000 in
theorem yesR (a0 a1 : Int) (st lim mis last pc : Int) (pv : Bool) (po mc : Int) (mv : Bool) (mo hc : Int) (hv : Bool) (ho act : Int) (kn : Bool) (sq : Int) (a : Option Addr) (len cap : Nat) (hlc : len ≤ cap) (hcm : cap ≤ 9223372036854775807) (want clr : Bool) (p : Int) (w : World) (z : Nat) (hz : (min (len : Int) 40).toNat = z) (en0 : Int) (en1 : Int) (en2 : Int) (en3 : Int) (en4 : Int) (en5 : Bool) (en6 : Int) (en7 : Int) (en8 : Bool) (en9 : Int) (en10 : Int) (en11 : Bool) (en12 : Int) (en13 : Int) (en14 : Bool) (en15 : Int) (ey0 : Int) (ey1 : Int) (ey2 : Int) (ey3 : Int) (ey4 : Int) (ey5 : Bool) (ey6 : Int) (ey7 : Int) (ey8 : Bool) (ey9 : Int) (ey10 : Int) (ey11 : Bool) (ey12 : Int) (ey13 : Int) (ey14 : Bool) (ey15 : Int) (tb : List (BitVec 8)) (htb : tb.length = 13)
    (hC : ∀ W, Below w.heap.size w W → Calls Try.prog 11 #[.agg #[.int .i64 st, .int .i64 lim, .int .i64 mis, .int .i64 last, .int .i64 pc, .bool pv, .int .i64 po, .int .i64 mc, .bool mv, .int .i64 mo, .int .i64 hc, .bool hv, .int .i64 ho, .int .i64 act, .bool kn, .int .i64 sq], .slice a z cap] W fun e w' => e = .returned (.agg #[.int .i64 en0, .int .i64 en1, .int .i64 en2, .int .i64 en3, .int .i64 en4, .bool en5, .int .i64 en6, .int .i64 en7, .bool en8, .int .i64 en9, .int .i64 en10, .bool en11, .int .i64 en12, .int .i64 en13, .bool en14, .int .i64 en15]) ∧ Below W.heap.size W w')
    (hCr : ∀ W, Below w.heap.size w W → Calls Try.prog 15 #[.agg #[.int .i64 st, .int .i64 lim, .int .i64 mis, .int .i64 last, .int .i64 pc, .bool pv, .int .i64 po, .int .i64 mc, .bool mv, .int .i64 mo, .int .i64 hc, .bool hv, .int .i64 ho, .int .i64 act, .bool kn, .int .i64 sq], .slice a z cap] W fun e w' => e = .returned (.agg #[.int .i64 en0, .int .i64 en1, .int .i64 en2, .int .i64 en3, .int .i64 en4, .bool en5, .int .i64 en6, .int .i64 en7, .bool en8, .int .i64 en9, .int .i64 en10, .bool en11, .int .i64 en12, .int .i64 en13, .bool en14, .int .i64 en15]) ∧ Below W.heap.size W w')
    (hT : ∀ W, Calls Try.prog 12 #[.agg #[.int .i64 st, .int .i64 lim, .int .i64 mis, .int .i64 last, .int .i64 pc, .bool pv, .int .i64 po, .int .i64 mc, .bool mv, .int .i64 mo, .int .i64 hc, .bool hv, .int .i64 ho, .int .i64 act, .bool kn, .int .i64 sq], .bool want, .bool clr, .int .i64 p] W (ToldSo [.int .i64 ey0, .int .i64 ey1, .int .i64 ey2, .int .i64 ey3, .int .i64 ey4, .bool ey5, .int .i64 ey6, .int .i64 ey7, .bool ey8, .int .i64 ey9, .int .i64 ey10, .bool ey11, .int .i64 ey12, .int .i64 ey13, .bool ey14, .int .i64 ey15] tb W))
    (hTr : ∀ W, Calls Try.prog 14 #[.agg #[.int .i64 st, .int .i64 lim, .int .i64 mis, .int .i64 last, .int .i64 pc, .bool pv, .int .i64 po, .int .i64 mc, .bool mv, .int .i64 mo, .int .i64 hc, .bool hv, .int .i64 ho, .int .i64 act, .bool kn, .int .i64 sq], .bool want, .bool clr, .int .i64 p] W (ToldSo [.int .i64 ey0, .int .i64 ey1, .int .i64 ey2, .int .i64 ey3, .int .i64 ey4, .bool ey5, .int .i64 ey6, .int .i64 ey7, .bool ey8, .int .i64 ey9, .int .i64 ey10, .bool ey11, .int .i64 ey12, .int .i64 ey13, .bool ey14, .int .i64 ey15] tb W))
    (hR : ∀ W, Calls Try.prog 10 #[.agg #[.int .i64 st, .int .i64 lim, .int .i64 mis, .int .i64 last, .int .i64 pc, .bool pv, .int .i64 po, .int .i64 mc, .bool mv, .int .i64 mo, .int .i64 hc, .bool hv, .int .i64 ho, .int .i64 act, .bool kn, .int .i64 sq]] W fun e w' => e = .returned (.bool true) ∧ Below W.heap.size W w')
    (hRr : ∀ W, Calls Try.prog 9 #[.agg #[.int .i64 st, .int .i64 lim, .int .i64 mis, .int .i64 last, .int .i64 pc, .bool pv, .int .i64 po, .int .i64 mc, .bool mv, .int .i64 mo, .int .i64 hc, .bool hv, .int .i64 ho, .int .i64 act, .bool kn, .int .i64 sq]] W fun e w' => e = .returned (.bool true) ∧ Below W.heap.size W w')
    (hL : ∀ W, Calls Try.prog 13 #[.agg #[.int .i64 st, .int .i64 lim, .int .i64 mis, .int .i64 last, .int .i64 pc, .bool pv, .int .i64 po, .int .i64 mc, .bool mv, .int .i64 mo, .int .i64 hc, .bool hv, .int .i64 ho, .int .i64 act, .bool kn, .int .i64 sq]] W fun e w' => e = .returned (.bool (mis == lim)) ∧ Below W.heap.size W w') (hok : 1 ≤ a0 ∧ a0 ≤ 100 ∧ 1 ≤ a1 ∧ a1 ≤ 20) : Calls Try.prog 3 #[.int .i64 a0, .int .i64 a1, .agg #[.int .i64 st, .int .i64 lim, .int .i64 mis, .int .i64 last, .int .i64 pc, .bool pv, .int .i64 po, .int .i64 mc, .bool mv, .int .i64 mo, .int .i64 hc, .bool hv, .int .i64 ho, .int .i64 act, .bool kn, .int .i64 sq], .slice a len cap, .bool want, .bool clr, .int .i64 p] w fun e w' => e = .returned (.bool true) ∧ Below w.heap.size w w' := by
  have HK := Lib.hid fun W => awake_any W
  obtain ⟨l1, l2, l3, l4⟩ := hok
  have HN := Lib.hid fun W => new_yes a0 a1 l1 l2 l3 l4 W
  unfold newD dV at HN
  dsimp only at HN
  have HC := Lib.hid hC
  have HCr := Lib.hid hCr
  have HR := Lib.hid hR
  have HRr := Lib.hid hRr
  have HL := Lib.hid hL
  have HS := Lib.hid fun (B B' : Nat) (A A' : Option Addr) (cap cap' : Nat) (W : World) (h : Bytes W B A tb) (h' : Bytes W B' A' tb) => same_self tb htb B B' A A' cap cap' W h h'
  have HT := Lib.hid hT
  have HTr := Lib.hid hTr
  unfold ToldSo at HT HTr
  clear hC hCr hR hRr hL hT hTr htb
  go_enter Try.func3, Try.ntmps3
  go_upto_region 4 with (go_at_call 7; ((with_reducible refine (HK.out _).mono ?_); rintro e w2 ⟨rfl, hb⟩; obtain ⟨x1, x2, x3⟩ := k.boxes1 hb; have X2 := Lib.hid x1; have H2 := Lib.hid x2; clear hb x1 x2))
  clear hz
  go_upto_region 5 with (go_at_call 8; ((with_reducible refine (HN.out _).mono ?_); rintro e w3 ⟨rfl, hb⟩; have X3 := Lib.hid (X2.out.below hb x3); have H3 := Lib.hid (H2.out.trans (hb.mono H2.out.size)); have z3 := Nat.lt_of_lt_of_le x3 hb.size; clear hb x3))
  have ha : Below w3.heap.size w3 (w3.alloc (.cells #[.int .i64 0, .int .i64 a0, .int .i64 0, .int .i64 (-1), .int .i64 a1, .bool false, .int .i64 0, .int .i64 a1, .bool false, .int .i64 0, .int .i64 a1, .bool false, .int .i64 0, .int .i64 0, .bool false, .int .i64 0] 27)) := (Below.refl _ _).alloc (Nat.le_refl _) _
  have m4 := k.Box.new w3 #[.int .i64 0, .int .i64 a0, .int .i64 0, .int .i64 (-1), .int .i64 a1, .bool false, .int .i64 0, .int .i64 a1, .bool false, .int .i64 0, .int .i64 a1, .bool false, .int .i64 0, .int .i64 0, .bool false, .int .i64 0] 27
  have x4 := X3.out.below ha z3
  have b4 := H3.out.trans (ha.mono H3.out.size)
  have z4 : w3.heap.size < (w3.alloc (.cells #[.int .i64 0, .int .i64 a0, .int .i64 0, .int .i64 (-1), .int .i64 a1, .bool false, .int .i64 0, .int .i64 a1, .bool false, .int .i64 0, .int .i64 a1, .bool false, .int .i64 0, .int .i64 0, .bool false, .int .i64 0] 27)).heap.size := by simp
  generalize w3.alloc (.cells #[.int .i64 0, .int .i64 a0, .int .i64 0, .int .i64 (-1), .int .i64 a1, .bool false, .int .i64 0, .int .i64 a1, .bool false, .int .i64 0, .int .i64 a1, .bool false, .int .i64 0, .int .i64 0, .bool false, .int .i64 0] 27) = w4 at m4 x4 b4 z4 ⊢
  have M4 : Hid (k.Box w4 w3.heap.size 0 [.int .i64 0, .int .i64 a0, .int .i64 0, .int .i64 (-1), .int .i64 a1, .bool false, .int .i64 0, .int .i64 a1, .bool false, .int .i64 0, .int .i64 a1, .bool false, .int .i64 0, .int .i64 0, .bool false, .int .i64 0]) := Lib.hid m4
  have X4 := Lib.hid x4
  have H4 := Lib.hid b4
  clear ha m4 x4 b4 X2 H2 X3 H3 HK HN
  go_upto_region 9 with (fail)
  have ha : Below w4.heap.size w4 (w4.alloc (.cells #[.int .i64 a1, .bool false, .int .i64 0] 25)) := (Below.refl _ _).alloc (Nat.le_refl _) _
  have s5 := k.Box.new w4 #[.int .i64 a1, .bool false, .int .i64 0] 25
  have z5 : w4.heap.size < (w4.alloc (.cells #[.int .i64 a1, .bool false, .int .i64 0] 25)).heap.size := by simp
  have m5 := M4.out.below ha z4
  have x5 := X4.out.below ha (by omega)
  have b5 := H4.out.trans (ha.mono H4.out.size)
  generalize w4.alloc (.cells #[.int .i64 a1, .bool false, .int .i64 0] 25) = w5 at s5 z5 m5 x5 b5 ⊢
  have M5 : Hid (k.Box w5 w3.heap.size 0 [.int .i64 0, .int .i64 a0, .int .i64 0, .int .i64 (-1), .int .i64 a1, .bool false, .int .i64 0, .int .i64 a1, .bool false, .int .i64 0, .int .i64 a1, .bool false, .int .i64 0, .int .i64 0, .bool false, .int .i64 0]) := Lib.hid m5
  have X5 := Lib.hid x5
  have H5 := Lib.hid b5
  have ⟨sc0, sf0⟩ := k.cell_of s5 (i := 0) rfl
  have ⟨sc1, sf1⟩ := k.cell_of s5 (i := 1) rfl
  have ⟨sc2, sf2⟩ := k.cell_of s5 (i := 2) rfl
  clear ha s5 m5 x5 b5 X4 H4 M4 sf0 sf1 sf2
  go_upto_region 11 with (((with_reducible refine k.load_wanted ?gwN1 27 (.tmp 15) ?goN1 w3.heap.size 0 ?gxN1 [.int .i64 0, .int .i64 a0, .int .i64 0, .int .i64 (-1), .int .i64 a1, .bool false, .int .i64 0, .int .i64 a1, .bool false, .int .i64 0, .int .i64 a1, .bool false, .int .i64 0, .int .i64 0, .bool false, .int .i64 0] ?gqN1 M5.out.range ?guN1 ?gdN1 ?giN1 ?ghN1); (case goN1 => rfl); (case gwN1 => rfl); (case gxN1 => rfl); (case guN1 => rfl); (case gdN1 => rfl); (case giN1 => kernel_rfl)))
  have Z5 : w.heap.size < w5.heap.size := by omega
  go_upto_region 15 with (first
    | (((with_reducible refine k.load_wanted ?gwN2 27 (.tmp 9) ?goN2 w.heap.size 0 ?gxN2 [.int .i64 st, .int .i64 lim, .int .i64 mis, .int .i64 last, .int .i64 pc, .bool pv, .int .i64 po, .int .i64 mc, .bool mv, .int .i64 mo, .int .i64 hc, .bool hv, .int .i64 ho, .int .i64 act, .bool kn, .int .i64 sq] ?gqN2 X5.out.range ?guN2 ?gdN2 ?giN2 ?ghN2); (case goN2 => rfl); (case gwN2 => rfl); (case gxN2 => rfl); (case guN2 => rfl); (case gdN2 => rfl); (case giN2 => kernel_rfl)))
    | (((with_reducible refine k.load_wanted ?gwN3 27 (.tmp 9) ?goN3 w.heap.size 0 ?gxN3 [.int .i64 st, .int .i64 lim, .int .i64 mis, .int .i64 last, .int .i64 pc, .bool pv, .int .i64 po, .int .i64 mc, .bool mv, .int .i64 mo, .int .i64 hc, .bool hv, .int .i64 ho, .int .i64 act, .bool kn, .int .i64 sq] ?gqN3 X6.out.range ?guN3 ?gdN3 ?giN3 ?ghN3); (case goN3 => rfl); (case gwN3 => rfl); (case gxN3 => rfl); (case guN3 => rfl); (case gdN3 => rfl); (case giN3 => kernel_rfl)))
    | (((with_reducible refine k.load_wanted ?gwN4 27 (.tmp 9) ?goN4 w.heap.size 0 ?gxN4 [.int .i64 st, .int .i64 lim, .int .i64 mis, .int .i64 last, .int .i64 pc, .bool pv, .int .i64 po, .int .i64 mc, .bool mv, .int .i64 mo, .int .i64 hc, .bool hv, .int .i64 ho, .int .i64 act, .bool kn, .int .i64 sq] ?gqN4 X7.out.range ?guN4 ?gdN4 ?giN4 ?ghN4); (case goN4 => rfl); (case gwN4 => rfl); (case gxN4 => rfl); (case guN4 => rfl); (case gdN4 => rfl); (case giN4 => kernel_rfl)))
    | (go_at_call 9; ((with_reducible refine (HRr.out _).mono ?_); rintro e w6 ⟨rfl, hb⟩; have X6 := Lib.hid (X5.out.below hb (by omega)); have H6 := Lib.hid (H5.out.trans (hb.mono H5.out.size)); have Z6 : w5.heap.size ≤ w6.heap.size := hb.size; clear hb))
    | (go_at_call 10; ((with_reducible refine (HR.out _).mono ?_); rintro e w7 ⟨rfl, hb⟩; have X7 := Lib.hid (X6.out.below hb (by omega)); have H7 := Lib.hid (H6.out.trans (hb.mono H6.out.size)); have Z7 : w6.heap.size ≤ w7.heap.size := hb.size; clear hb))
    | (go_at_call 11; ((with_reducible refine (HC.out _ H7.out).mono ?_); rintro e w8 ⟨rfl, hb⟩; have X8 := Lib.hid (X7.out.below hb (by omega)); have H8 := Lib.hid (H7.out.trans (hb.mono H7.out.size)); have Z8 : w7.heap.size ≤ w8.heap.size := hb.size; clear hb)))
  have ha : Below w8.heap.size w8 (w8.alloc (.cells #[.int .i64 en0, .int .i64 en1, .int .i64 en2, .int .i64 en3, .int .i64 en4, .bool en5, .int .i64 en6, .int .i64 en7, .bool en8, .int .i64 en9, .int .i64 en10, .bool en11, .int .i64 en12, .int .i64 en13, .bool en14, .int .i64 en15] 27)) := (Below.refl _ _).alloc (Nat.le_refl _) _
  have n9 := k.Box.new w8 #[.int .i64 en0, .int .i64 en1, .int .i64 en2, .int .i64 en3, .int .i64 en4, .bool en5, .int .i64 en6, .int .i64 en7, .bool en8, .int .i64 en9, .int .i64 en10, .bool en11, .int .i64 en12, .int .i64 en13, .bool en14, .int .i64 en15] 27
  have Z9 : w8.heap.size < (w8.alloc (.cells #[.int .i64 en0, .int .i64 en1, .int .i64 en2, .int .i64 en3, .int .i64 en4, .bool en5, .int .i64 en6, .int .i64 en7, .bool en8, .int .i64 en9, .int .i64 en10, .bool en11, .int .i64 en12, .int .i64 en13, .bool en14, .int .i64 en15] 27)).heap.size := by simp
  have qX := X8.out.below ha (by omega)
  have qH := H8.out.trans (ha.mono H8.out.size)
  generalize w8.alloc (.cells #[.int .i64 en0, .int .i64 en1, .int .i64 en2, .int .i64 en3, .int .i64 en4, .bool en5, .int .i64 en6, .int .i64 en7, .bool en8, .int .i64 en9, .int .i64 en10, .bool en11, .int .i64 en12, .int .i64 en13, .bool en14, .int .i64 en15] 27) = w9 at n9 Z9 qX qH ha ⊢
  have N9 : Hid (k.Box w9 w8.heap.size 0 [.int .i64 en0, .int .i64 en1, .int .i64 en2, .int .i64 en3, .int .i64 en4, .bool en5, .int .i64 en6, .int .i64 en7, .bool en8, .int .i64 en9, .int .i64 en10, .bool en11, .int .i64 en12, .int .i64 en13, .bool en14, .int .i64 en15]) := Lib.hid n9
  have X9 := Lib.hid qX
  have H9 := Lib.hid qH
  have A9 := Lib.hid ha
  clear ha n9 qH qX
  clear X5 H5 X6 H6 X7 H7 X8 H8 A9
  go_upto_region 16 with (first
    | (((with_reducible refine k.load_wanted ?gwN5 27 (.tmp 9) ?goN5 w.heap.size 0 ?gxN5 [.int .i64 st, .int .i64 lim, .int .i64 mis, .int .i64 last, .int .i64 pc, .bool pv, .int .i64 po, .int .i64 mc, .bool mv, .int .i64 mo, .int .i64 hc, .bool hv, .int .i64 ho, .int .i64 act, .bool kn, .int .i64 sq] ?gqN5 X9.out.range ?guN5 ?gdN5 ?giN5 ?ghN5); (case goN5 => rfl); (case gwN5 => rfl); (case gxN5 => rfl); (case guN5 => rfl); (case gdN5 => rfl); (case giN5 => kernel_rfl)))
    | (go_at_call 12; ((with_reducible refine (HT.out _).mono ?_); rintro e w10 ⟨A1, cap1, rfl, hB, h1, h2, hb⟩; have X10 := Lib.hid (X9.out.below hb (by omega)); have N10 := Lib.hid (N9.out.below hb (by omega)); have H10 := Lib.hid (H9.out.trans (hb.mono H9.out.size)); have Z10 : w9.heap.size ≤ w10.heap.size := hb.size; have P10 := Lib.hid (And.intro hB (And.intro h1 h2)); clear hb hB h1 h2)))
  have ha : Below w10.heap.size w10 (w10.alloc (.cells #[.int .i64 ey0, .int .i64 ey1, .int .i64 ey2, .int .i64 ey3, .int .i64 ey4, .bool ey5, .int .i64 ey6, .int .i64 ey7, .bool ey8, .int .i64 ey9, .int .i64 ey10, .bool ey11, .int .i64 ey12, .int .i64 ey13, .bool ey14, .int .i64 ey15] 27)) := (Below.refl _ _).alloc (Nat.le_refl _) _
  have n9 := k.Box.new w10 #[.int .i64 ey0, .int .i64 ey1, .int .i64 ey2, .int .i64 ey3, .int .i64 ey4, .bool ey5, .int .i64 ey6, .int .i64 ey7, .bool ey8, .int .i64 ey9, .int .i64 ey10, .bool ey11, .int .i64 ey12, .int .i64 ey13, .bool ey14, .int .i64 ey15] 27
  have Z11 : w10.heap.size < (w10.alloc (.cells #[.int .i64 ey0, .int .i64 ey1, .int .i64 ey2, .int .i64 ey3, .int .i64 ey4, .bool ey5, .int .i64 ey6, .int .i64 ey7, .bool ey8, .int .i64 ey9, .int .i64 ey10, .bool ey11, .int .i64 ey12, .int .i64 ey13, .bool ey14, .int .i64 ey15] 27)).heap.size := by simp
  have qX := X10.out.below ha (by omega)
  have qN := N10.out.below ha (by omega)
  have qH := H10.out.trans (ha.mono H10.out.size)
  generalize w10.alloc (.cells #[.int .i64 ey0, .int .i64 ey1, .int .i64 ey2, .int .i64 ey3, .int .i64 ey4, .bool ey5, .int .i64 ey6, .int .i64 ey7, .bool ey8, .int .i64 ey9, .int .i64 ey10, .bool ey11, .int .i64 ey12, .int .i64 ey13, .bool ey14, .int .i64 ey15] 27) = w11 at n9 Z11 qX qN qH ha ⊢
  have Y11 : Hid (k.Box w11 w10.heap.size 0 [.int .i64 ey0, .int .i64 ey1, .int .i64 ey2, .int .i64 ey3, .int .i64 ey4, .bool ey5, .int .i64 ey6, .int .i64 ey7, .bool ey8, .int .i64 ey9, .int .i64 ey10, .bool ey11, .int .i64 ey12, .int .i64 ey13, .bool ey14, .int .i64 ey15]) := Lib.hid n9
  have X11 := Lib.hid qX
  have N11 := Lib.hid qN
  have H11 := Lib.hid qH
  have A11 := Lib.hid ha
  clear ha n9 qH qX qN
  have P11 := Lib.hid (P10.out.1.below A11.out)
  have C11 := P10.out.2
  clear X9 H9 N9 X10 H10 N10 P10 A11
  go_upto_region 19 with (first
    | (((with_reducible refine k.load_wanted ?gwN6 27 (.tmp 9) ?goN6 w.heap.size 0 ?gxN6 [.int .i64 st, .int .i64 lim, .int .i64 mis, .int .i64 last, .int .i64 pc, .bool pv, .int .i64 po, .int .i64 mc, .bool mv, .int .i64 mo, .int .i64 hc, .bool hv, .int .i64 ho, .int .i64 act, .bool kn, .int .i64 sq] ?gqN6 X11.out.range ?guN6 ?gdN6 ?giN6 ?ghN6); (case goN6 => rfl); (case gwN6 => rfl); (case gxN6 => rfl); (case guN6 => rfl); (case gdN6 => rfl); (case giN6 => kernel_rfl)))
    | (go_at_call 14; ((with_reducible refine (HTr.out _).mono ?_); rintro e w12 ⟨A2, cap2, rfl, hB, h1, h2, hb⟩; have X12 := Lib.hid (X11.out.below hb (by omega)); have N12 := Lib.hid (N11.out.below hb (by omega)); have Y12 := Lib.hid (Y11.out.below hb (by omega)); have H12 := Lib.hid (H11.out.trans (hb.mono H11.out.size)); have Z12 : w11.heap.size ≤ w12.heap.size := hb.size; have P12 := Lib.hid (P11.out.below (hb.mono (Nat.le_of_lt Z11))); have Q12 := Lib.hid (And.intro hB (And.intro h1 h2)); clear hb hB h1 h2)))
  have ha : Below w12.heap.size w12 (w12.alloc (.cells #[.int .i64 ey0, .int .i64 ey1, .int .i64 ey2, .int .i64 ey3, .int .i64 ey4, .bool ey5, .int .i64 ey6, .int .i64 ey7, .bool ey8, .int .i64 ey9, .int .i64 ey10, .bool ey11, .int .i64 ey12, .int .i64 ey13, .bool ey14, .int .i64 ey15] 27)) := (Below.refl _ _).alloc (Nat.le_refl _) _
  have n9 := k.Box.new w12 #[.int .i64 ey0, .int .i64 ey1, .int .i64 ey2, .int .i64 ey3, .int .i64 ey4, .bool ey5, .int .i64 ey6, .int .i64 ey7, .bool ey8, .int .i64 ey9, .int .i64 ey10, .bool ey11, .int .i64 ey12, .int .i64 ey13, .bool ey14, .int .i64 ey15] 27
  have Z13 : w12.heap.size < (w12.alloc (.cells #[.int .i64 ey0, .int .i64 ey1, .int .i64 ey2, .int .i64 ey3, .int .i64 ey4, .bool ey5, .int .i64 ey6, .int .i64 ey7, .bool ey8, .int .i64 ey9, .int .i64 ey10, .bool ey11, .int .i64 ey12, .int .i64 ey13, .bool ey14, .int .i64 ey15] 27)).heap.size := by simp
  have qX := X12.out.below ha (by omega)
  have qN := N12.out.below ha (by omega)
  have qY := Y12.out.below ha (by omega)
  have qH := H12.out.trans (ha.mono H12.out.size)
  generalize w12.alloc (.cells #[.int .i64 ey0, .int .i64 ey1, .int .i64 ey2, .int .i64 ey3, .int .i64 ey4, .bool ey5, .int .i64 ey6, .int .i64 ey7, .bool ey8, .int .i64 ey9, .int .i64 ey10, .bool ey11, .int .i64 ey12, .int .i64 ey13, .bool ey14, .int .i64 ey15] 27) = w13 at n9 Z13 qX qN qY qH ha ⊢
  have V13 : Hid (k.Box w13 w12.heap.size 0 [.int .i64 ey0, .int .i64 ey1, .int .i64 ey2, .int .i64 ey3, .int .i64 ey4, .bool ey5, .int .i64 ey6, .int .i64 ey7, .bool ey8, .int .i64 ey9, .int .i64 ey10, .bool ey11, .int .i64 ey12, .int .i64 ey13, .bool ey14, .int .i64 ey15]) := Lib.hid n9
  have X13 := Lib.hid qX
  have N13 := Lib.hid qN
  have Y13 := Lib.hid qY
  have H13 := Lib.hid qH
  have A13 := Lib.hid ha
  clear ha n9 qH qX qN qY
  have P13 := Lib.hid (P12.out.below (A13.out.mono (by omega)))
  have Q13 := Lib.hid (Q12.out.1.below A13.out)
  have C13 := Q12.out.2
  clear X11 H11 N11 Y11 X12 H12 N12 Y12 P11 P12 Q12 A13
  refine wp_region_held_drew (S := (fun w' => World.rangeAt w' w8.heap.size 0 [.int .i64 en0, .int .i64 en1, .int .i64 en2, .int .i64 en3, .int .i64 en4, .bool en5, .int .i64 en6, .int .i64 en7, .bool en8, .int .i64 en9, .int .i64 en10, .bool en11, .int .i64 en12, .int .i64 en13, .bool en14, .int .i64 en15] ∧ World.rangeAt w' w.heap.size 0 [.int .i64 st, .int .i64 lim, .int .i64 mis, .int .i64 last, .int .i64 pc, .bool pv, .int .i64 po, .int .i64 mc, .bool mv, .int .i64 mo, .int .i64 hc, .bool hv, .int .i64 ho, .int .i64 act, .bool kn, .int .i64 sq] ∧ World.rangeAt w' w10.heap.size 0 [.int .i64 ey0, .int .i64 ey1, .int .i64 ey2, .int .i64 ey3, .int .i64 ey4, .bool ey5, .int .i64 ey6, .int .i64 ey7, .bool ey8, .int .i64 ey9, .int .i64 ey10, .bool ey11, .int .i64 ey12, .int .i64 ey13, .bool ey14, .int .i64 ey15] ∧ World.rangeAt w' w12.heap.size 0 [.int .i64 ey0, .int .i64 ey1, .int .i64 ey2, .int .i64 ey3, .int .i64 ey4, .bool ey5, .int .i64 ey6, .int .i64 ey7, .bool ey8, .int .i64 ey9, .int .i64 ey10, .bool ey11, .int .i64 ey12, .int .i64 ey13, .bool ey14, .int .i64 ey15] ∧ World.cell? w' ⟨w.heap.size, 1, none⟩ = some (.int .i64 lim) ∧ World.cell? w' ⟨w.heap.size, 2, none⟩ = some (.int .i64 mis))) (by kernel_rfl) ⟨N13.out.range, X13.out.range, Y13.out.range, V13.out.range, (k.cell_of X13.out (i := 1) rfl).1, (k.cell_of X13.out (i := 2) rfl).1⟩ (fun hHeld => ?_)
  refine wpAnyH_take (i := 0) rfl (by kernel_rfl) (by kernel_rfl) (by kernel_rfl) (fun _ _ _ h => h) (yieldsIf_load_mid (by rfl) 27 (.tmp 20) rfl w8.heap.size 0 rfl [.int .i64 en0, .int .i64 en1, .int .i64 en2, .int .i64 en3, .int .i64 en4, .bool en5, .int .i64 en6, .int .i64 en7, .bool en8, .int .i64 en9, .int .i64 en10, .bool en11, .int .i64 en12, .int .i64 en13, .bool en14, .int .i64 en15] _ (fun _ h => h.1) rfl rfl (by kernel_rfl)) (by assumption) ?_
  try simp only [Act.put, List.setIfInBounds_toArray, List.set_cons_zero, List.set_cons_succ, List.getElem_toArray, List.getElem_cons_zero]
  refine wpAnyH_take (i := 1) rfl (by kernel_rfl) (by kernel_rfl) (by kernel_rfl) (fun _ _ _ h => h) (yieldsIf_load_mid (by rfl) 27 (.tmp 9) rfl w.heap.size 0 rfl [.int .i64 st, .int .i64 lim, .int .i64 mis, .int .i64 last, .int .i64 pc, .bool pv, .int .i64 po, .int .i64 mc, .bool mv, .int .i64 mo, .int .i64 hc, .bool hv, .int .i64 ho, .int .i64 act, .bool kn, .int .i64 sq] _ (fun _ h => h.2.1) rfl rfl (by kernel_rfl)) (by assumption) ?_
  try simp only [Act.put, List.setIfInBounds_toArray, List.set_cons_zero, List.set_cons_succ, List.getElem_toArray, List.getElem_cons_succ, List.getElem_cons_zero]
  refine wpAnyH_take (i := 2) (v := ?_) rfl (by kernel_rfl) (by kernel_rfl) (by kernel_rfl) (fun _ _ _ h => h) (Or.inl ⟨by rfl, ?_⟩) (by assumption) ?_
  rotate_left 1
  · intro w hSw; obtain ⟨_, _, _, _, hs1, hs2⟩ := hSw; go_simp <;> (with_reducible rfl)
  try simp only [Act.put, List.setIfInBounds_toArray, List.set_cons_zero, List.set_cons_succ, List.getElem_toArray, List.getElem_cons_succ, List.getElem_cons_zero]
  refine wpAnyH_ready (rs := [3]) (by kernel_rfl) (by simp) ?_
  refine AllReadyH.cons rfl (fun K hK => ?_) AllReadyH.nil
  go_simp
  (go_at_call 15; (refine (HCr.out _ (H13.out.trans (((Below.refl w13.heap.size w13).drew).mono (by omega)))).mono ?_); rintro e w14 ⟨rfl, hb0⟩)
  have hb : Below w13.heap.size w13 w14 := ((Below.refl _ _).drew).trans hb0
  have X14 := Lib.hid (X13.out.below hb (by omega))
  have N14 := Lib.hid (N13.out.below hb (by omega))
  have Y14 := Lib.hid (Y13.out.below hb (by omega))
  have V14 := Lib.hid (V13.out.below hb (by omega))
  have H14 := Lib.hid (H13.out.trans (hb.mono (by omega)))
  have Z14 : w13.heap.size ≤ (w14).heap.size := hb.size
  have P14 := Lib.hid (P13.out.below (hb.mono (by omega))); have Q14 := Lib.hid (Q13.out.below (hb.mono (by omega)))
  clear hb
  go_wp2_with fail
  refine hK.out _ _ ⟨N14.out.range, X14.out.range, Y14.out.range, V14.out.range, (k.cell_of X14.out (i := 1) rfl).1, (k.cell_of X14.out (i := 2) rfl).1⟩ (fun hHeld => ?_)
  clear hK K
  try simp only [Act.put, List.setIfInBounds_toArray, List.set_cons_zero, List.set_cons_succ, List.getElem_toArray, List.getElem_cons_succ, List.getElem_cons_zero]
  refine wpAnyH_take (i := 4) (v := ?_) rfl (by kernel_rfl) (by kernel_rfl) (by kernel_rfl) (fun _ _ _ h => h) (Or.inl ⟨by rfl, ?_⟩) (by assumption) ?_
  rotate_left 1
  · intro w hSw; obtain ⟨_, _, _, _, hs1, hs2⟩ := hSw; go_simp <;> (with_reducible rfl)
  try simp only [Act.put, List.setIfInBounds_toArray, List.set_cons_zero, List.set_cons_succ, List.getElem_toArray, List.getElem_cons_succ, List.getElem_cons_zero]
  refine wpAnyH_take (i := 5) (v := ?_) rfl (by kernel_rfl) (by kernel_rfl) (by kernel_rfl) (fun _ _ _ h => h) (Or.inl ⟨by rfl, ?_⟩) (by assumption) ?_
  rotate_left 1
  · intro w hSw; obtain ⟨_, _, _, _, hs1, hs2⟩ := hSw; go_simp <;> (with_reducible rfl)
  try simp only [Act.put, List.setIfInBounds_toArray, List.set_cons_zero, List.set_cons_succ, List.getElem_toArray, List.getElem_cons_succ, List.getElem_cons_zero]
  refine wpAnyH_take (i := 6) rfl (by kernel_rfl) (by kernel_rfl) (by kernel_rfl) (fun _ _ _ h => h) (yieldsIf_load_mid (by rfl) 27 (.tmp 21) rfl w10.heap.size 0 rfl [.int .i64 ey0, .int .i64 ey1, .int .i64 ey2, .int .i64 ey3, .int .i64 ey4, .bool ey5, .int .i64 ey6, .int .i64 ey7, .bool ey8, .int .i64 ey9, .int .i64 ey10, .bool ey11, .int .i64 ey12, .int .i64 ey13, .bool ey14, .int .i64 ey15] _ (fun _ h => h.2.2.1) rfl rfl (by kernel_rfl)) (by assumption) ?_
  try simp only [Act.put, List.setIfInBounds_toArray, List.set_cons_zero, List.set_cons_succ, List.getElem_toArray, List.getElem_cons_succ, List.getElem_cons_zero]
  refine wpAnyH_take (i := 7) rfl (by kernel_rfl) (by kernel_rfl) (by kernel_rfl) (fun _ _ _ h => h) (yieldsIf_load_mid (by rfl) 27 (.tmp 23) rfl w12.heap.size 0 rfl [.int .i64 ey0, .int .i64 ey1, .int .i64 ey2, .int .i64 ey3, .int .i64 ey4, .bool ey5, .int .i64 ey6, .int .i64 ey7, .bool ey8, .int .i64 ey9, .int .i64 ey10, .bool ey11, .int .i64 ey12, .int .i64 ey13, .bool ey14, .int .i64 ey15] _ (fun _ h => h.2.2.2.1) rfl rfl (by kernel_rfl)) (by assumption) ?_
  try simp only [Act.put, List.setIfInBounds_toArray, List.set_cons_zero, List.set_cons_succ, List.getElem_toArray, List.getElem_cons_succ, List.getElem_cons_zero]
  refine wpAnyH_take (i := 8) (v := ?_) rfl (by kernel_rfl) (by kernel_rfl) (by kernel_rfl) (fun _ _ _ h => h) (Or.inl ⟨by rfl, ?_⟩) (by assumption) ?_
  rotate_left 1
  · intro w hSw; obtain ⟨_, _, _, _, hs1, hs2⟩ := hSw; go_simp <;> (with_reducible rfl)
  try simp only [Act.put, List.setIfInBounds_toArray, List.set_cons_zero, List.set_cons_succ, List.getElem_toArray, List.getElem_cons_succ, List.getElem_cons_zero]
  refine wpAnyH_take (i := 9) (v := ?_) rfl (by kernel_rfl) (by kernel_rfl) (by kernel_rfl) (fun _ _ _ h => h) (Or.inl ⟨by rfl, ?_⟩) (by assumption) ?_
  rotate_left 1
  · intro w hSw; obtain ⟨_, _, _, _, hs1, hs2⟩ := hSw; go_simp <;> (with_reducible rfl)
  try simp only [Act.put, List.setIfInBounds_toArray, List.set_cons_zero, List.set_cons_succ, List.getElem_toArray, List.getElem_cons_succ, List.getElem_cons_zero]
  refine wpAnyH_take (i := 10) (v := ?_) rfl (by kernel_rfl) (by kernel_rfl) (by kernel_rfl) (fun _ _ _ h => h) (Or.inl ⟨by rfl, ?_⟩) (by assumption) ?_
  rotate_left 1
  · intro w hSw; obtain ⟨_, _, _, _, hs1, hs2⟩ := hSw; go_simp <;> (with_reducible rfl)
  try simp only [Act.put, List.setIfInBounds_toArray, List.set_cons_zero, List.set_cons_succ, List.getElem_toArray, List.getElem_cons_succ, List.getElem_cons_zero]
  refine wpAnyH_take (i := 11) (v := ?_) rfl (by kernel_rfl) (by kernel_rfl) (by kernel_rfl) (fun _ _ _ h => h) (Or.inl ⟨by rfl, ?_⟩) (by assumption) ?_
  rotate_left 1
  · intro w hSw; obtain ⟨_, _, _, _, hs1, hs2⟩ := hSw; go_simp <;> (with_reducible rfl)
  try simp only [Act.put, List.setIfInBounds_toArray, List.set_cons_zero, List.set_cons_succ, List.getElem_toArray, List.getElem_cons_succ, List.getElem_cons_zero]
  refine wpAnyH_take (i := 12) (v := ?_) rfl (by kernel_rfl) (by kernel_rfl) (by kernel_rfl) (fun _ _ _ h => h) (Or.inl ⟨by rfl, ?_⟩) (by assumption) ?_
  rotate_left 1
  · intro w hSw; obtain ⟨_, _, _, _, hs1, hs2⟩ := hSw; go_simp <;> (with_reducible rfl)
  try simp only [Act.put, List.setIfInBounds_toArray, List.set_cons_zero, List.set_cons_succ, List.getElem_toArray, List.getElem_cons_succ, List.getElem_cons_zero]
  refine wpAnyH_ready (rs := [13]) (by kernel_rfl) (by simp) ?_
  refine AllReadyH.cons rfl (fun K hK => ?_) AllReadyH.nil
  go_simp
  (go_at_call 16; (refine (HS.out _ _ _ _ _ _ _ P14.out Q14.out).mono ?_); rintro e w15 ⟨rfl, q15, rfl⟩)
  have hb : Below w14.heap.size w14 (w14.drewN q15) := k.below_drawn (Below.refl _ _) q15
  have X15 := Lib.hid (X14.out.below hb (by omega))
  have N15 := Lib.hid (N14.out.below hb (by omega))
  have Y15 := Lib.hid (Y14.out.below hb (by omega))
  have V15 := Lib.hid (V14.out.below hb (by omega))
  have H15 := Lib.hid (H14.out.trans (hb.mono (by omega)))
  have Z15 : w14.heap.size ≤ ((w14.drewN q15)).heap.size := hb.size
  clear hb
  go_wp2_with fail
  refine hK.out _ _ ⟨N15.out.range, X15.out.range, Y15.out.range, V15.out.range, (k.cell_of X15.out (i := 1) rfl).1, (k.cell_of X15.out (i := 2) rfl).1⟩ (fun hHeld => ?_)
  clear hK K
  try simp only [Act.put, List.setIfInBounds_toArray, List.set_cons_zero, List.set_cons_succ, List.getElem_toArray, List.getElem_cons_succ, List.getElem_cons_zero]
  refine wpAnyH_take (i := 14) (v := ?_) rfl (by kernel_rfl) (by kernel_rfl) (by kernel_rfl) (fun _ _ _ h => h) (Or.inl ⟨by rfl, ?_⟩) (by assumption) ?_
  rotate_left 1
  · intro w hSw; obtain ⟨_, _, _, _, hs1, hs2⟩ := hSw; go_simp <;> (with_reducible rfl)
  try simp only [Act.put, List.setIfInBounds_toArray, List.set_cons_zero, List.set_cons_succ, List.getElem_toArray, List.getElem_cons_succ, List.getElem_cons_zero]
  refine wpAnyH_take (i := 15) (v := ?_) rfl (by kernel_rfl) (by kernel_rfl) (by kernel_rfl) (fun _ _ _ h => h) (Or.inl ⟨by rfl, ?_⟩) (by assumption) ?_
  rotate_left 1
  · intro w hSw; obtain ⟨_, _, _, _, hs1, hs2⟩ := hSw; go_simp <;> (with_reducible rfl)
  try simp only [Act.put, List.setIfInBounds_toArray, List.set_cons_zero, List.set_cons_succ, List.getElem_toArray, List.getElem_cons_succ, List.getElem_cons_zero]
  refine wpAnyH_take (i := 16) rfl (by kernel_rfl) (by kernel_rfl) (by kernel_rfl) (fun _ _ _ h => h) (yieldsIf_load_mid (by rfl) 27 (.tmp 9) rfl w.heap.size 0 rfl [.int .i64 st, .int .i64 lim, .int .i64 mis, .int .i64 last, .int .i64 pc, .bool pv, .int .i64 po, .int .i64 mc, .bool mv, .int .i64 mo, .int .i64 hc, .bool hv, .int .i64 ho, .int .i64 act, .bool kn, .int .i64 sq] _ (fun _ h => h.2.1) rfl rfl (by kernel_rfl)) (by assumption) ?_
  try simp only [Act.put, List.setIfInBounds_toArray, List.set_cons_zero, List.set_cons_succ, List.getElem_toArray, List.getElem_cons_succ, List.getElem_cons_zero]
  refine wpAnyH_take (i := 18) (v := ?_) rfl (by kernel_rfl) (by kernel_rfl) (by kernel_rfl) (fun _ _ _ h => h) (Or.inl ⟨by rfl, ?_⟩) (by assumption) ?_
  rotate_left 1
  · intro w hSw; obtain ⟨_, _, _, _, hs1, hs2⟩ := hSw; go_simp <;> (with_reducible rfl)
  try simp only [Act.put, List.setIfInBounds_toArray, List.set_cons_zero, List.set_cons_succ, List.getElem_toArray, List.getElem_cons_succ, List.getElem_cons_zero]
  refine wpAnyH_take (i := 19) (v := ?_) rfl (by kernel_rfl) (by kernel_rfl) (by kernel_rfl) (fun _ _ _ h => h) (Or.inl ⟨by rfl, ?_⟩) (by assumption) ?_
  rotate_left 1
  · intro w hSw; obtain ⟨_, _, _, _, hs1, hs2⟩ := hSw; go_simp <;> (with_reducible rfl)
  try simp only [Act.put, List.setIfInBounds_toArray, List.set_cons_zero, List.set_cons_succ, List.getElem_toArray, List.getElem_cons_succ, List.getElem_cons_zero]
  refine wpAnyH_take (i := 20) (v := ?_) rfl (by kernel_rfl) (by kernel_rfl) (by kernel_rfl) (fun _ _ _ h => h) (Or.inl ⟨by rfl, ?_⟩) (by assumption) ?_
  rotate_left 1
  · intro w hSw; obtain ⟨_, _, _, _, hs1, hs2⟩ := hSw; go_simp <;> (with_reducible rfl)
  try simp only [Act.put, List.setIfInBounds_toArray, List.set_cons_zero, List.set_cons_succ, List.getElem_toArray, List.getElem_cons_succ, List.getElem_cons_zero]
  refine wpAnyH_take (i := 21) (v := ?_) rfl (by kernel_rfl) (by kernel_rfl) (by kernel_rfl) (fun _ _ _ h => h) (Or.inl ⟨by rfl, ?_⟩) (by assumption) ?_
  rotate_left 1
  · intro w hSw; obtain ⟨_, _, _, _, hs1, hs2⟩ := hSw; go_simp <;> (with_reducible rfl)
  try simp only [Act.put, List.setIfInBounds_toArray, List.set_cons_zero, List.set_cons_succ, List.getElem_toArray, List.getElem_cons_succ, List.getElem_cons_zero]
  refine wpAnyH_take (i := 22) (v := ?_) rfl (by kernel_rfl) (by kernel_rfl) (by kernel_rfl) (fun _ _ _ h => h) (Or.inl ⟨by rfl, ?_⟩) (by assumption) ?_
  rotate_left 1
  · intro w hSw; obtain ⟨_, _, _, _, hs1, hs2⟩ := hSw; go_simp <;> (with_reducible rfl)
  try simp only [Act.put, List.setIfInBounds_toArray, List.set_cons_zero, List.set_cons_succ, List.getElem_toArray, List.getElem_cons_succ, List.getElem_cons_zero]
  refine wpAnyH_take (i := 23) (v := ?_) rfl (by kernel_rfl) (by kernel_rfl) (by kernel_rfl) (fun _ _ _ h => h) (Or.inl ⟨by rfl, ?_⟩) (by assumption) ?_
  rotate_left 1
  · intro w hSw; obtain ⟨_, _, _, _, hs1, hs2⟩ := hSw; go_simp <;> (with_reducible rfl)
  try simp only [Act.put, List.setIfInBounds_toArray, List.set_cons_zero, List.set_cons_succ, List.getElem_toArray, List.getElem_cons_succ, List.getElem_cons_zero]
  refine wpAnyH_take (i := 24) (v := ?_) rfl (by kernel_rfl) (by kernel_rfl) (by kernel_rfl) (fun _ _ _ h => h) (Or.inl ⟨by rfl, ?_⟩) (by assumption) ?_
  rotate_left 1
  · intro w hSw; obtain ⟨_, _, _, _, hs1, hs2⟩ := hSw; go_simp <;> (with_reducible rfl)
  try simp only [Act.put, List.setIfInBounds_toArray, List.set_cons_zero, List.set_cons_succ, List.getElem_toArray, List.getElem_cons_succ, List.getElem_cons_zero]
  refine wpAnyH_ready (rs := [17]) (by kernel_rfl) (by simp) ?_
  refine AllReadyH.cons rfl (fun K hK => ?_) AllReadyH.nil
  go_simp
  (go_at_call 13; (refine (HL.out _).mono ?_); rintro e w16 ⟨rfl, hb0⟩)
  have hb : Below w14.heap.size w14 w16 := (k.below_drawn (Below.refl _ _) q15).trans (hb0.mono (by simp))
  have X16 := Lib.hid (X14.out.below hb (by omega))
  have N16 := Lib.hid (N14.out.below hb (by omega))
  have Y16 := Lib.hid (Y14.out.below hb (by omega))
  have V16 := Lib.hid (V14.out.below hb (by omega))
  have H16 := Lib.hid (H14.out.trans (hb.mono (by omega)))
  have Z16 : w14.heap.size ≤ (w16).heap.size := hb.size
  clear hb
  go_wp2_with fail
  refine hK.out _ _ ⟨N16.out.range, X16.out.range, Y16.out.range, V16.out.range, (k.cell_of X16.out (i := 1) rfl).1, (k.cell_of X16.out (i := 2) rfl).1⟩ (fun hHeld => ?_)
  clear hK K
  try simp only [Act.put, List.setIfInBounds_toArray, List.set_cons_zero, List.set_cons_succ, List.getElem_toArray, List.getElem_cons_succ, List.getElem_cons_zero]
  refine wpAnyH_take (i := 25) (v := ?_) rfl (by kernel_rfl) (by kernel_rfl) (by kernel_rfl) (fun _ _ _ h => h) (Or.inl ⟨by rfl, ?_⟩) (by assumption) ?_
  rotate_left 1
  · intro w hSw; obtain ⟨_, _, _, _, hs1, hs2⟩ := hSw; go_simp <;> (with_reducible rfl)
  try simp only [Act.put, List.setIfInBounds_toArray, List.set_cons_zero, List.set_cons_succ, List.getElem_toArray, List.getElem_cons_succ, List.getElem_cons_zero]
  refine wpAnyH_take (i := 26) (v := ?_) rfl (by kernel_rfl) (by kernel_rfl) (by kernel_rfl) (fun _ _ _ h => h) (Or.inl ⟨by rfl, ?_⟩) (by assumption) ?_
  rotate_left 1
  · intro w hSw; obtain ⟨_, _, _, _, hs1, hs2⟩ := hSw; go_simp <;> (with_reducible rfl)
  try simp only [Act.put, List.setIfInBounds_toArray, List.set_cons_zero, List.set_cons_succ, List.getElem_toArray, List.getElem_cons_succ, List.getElem_cons_zero]
  refine wpAnyH_take (i := 27) (v := ?_) rfl (by kernel_rfl) (by kernel_rfl) (by kernel_rfl) (fun _ _ _ h => h) (Or.inl ⟨by rfl, ?_⟩) (by assumption) ?_
  rotate_left 1
  · intro w hSw; obtain ⟨_, _, _, _, hs1, hs2⟩ := hSw; go_simp <;> (with_reducible rfl)
  try simp only [Act.put, List.setIfInBounds_toArray, List.set_cons_zero, List.set_cons_succ, List.getElem_toArray, List.getElem_cons_succ, List.getElem_cons_zero]
  refine wpAnyH_done (by kernel_rfl) ?_ _
  go_wp2
  go_ret
  exact ⟨rfl, H16.out⟩
end Go.Proofs.Ytdfgjfojneoljaa.driveSteps
