/- Stage 7's law DriveSteps, a drive that is not right, a new one that may not be. No condition but what each line says. -/
import Derived.Test.YtdfgjfojneoljaaDsBase
namespace Go.Proofs.Ytdfgjfojneoljaa.driveSteps
open Go.ChangeShapes Go.WideShapes Go.ChangeAt Go.RowKit Go.Proofs.Ytdfgjfojneoljaa.s Go.Proofs.Ytdfgjfojneoljaa.t Go.Proofs.Ytdfgjfojneoljaa.j Go.Proofs.Ytdfgjfojneoljaa
set_option linter.unusedVariables false
set_option maxRecDepth 100000 in
set_option maxHeartbeats 8000000 in
theorem noB (a0 a1 : Int) (st lim mis last pc : Int) (pv : Bool) (po mc : Int) (mv : Bool) (mo hc : Int) (hv : Bool) (ho act : Int) (kn : Bool) (sq : Int) (a : Option Addr) (len cap : Nat) (hlc : len ≤ cap) (hcm : cap ≤ 9223372036854775807) (want clr : Bool) (p : Int) (w : World) (z : Nat) (hz : (min (len : Int) 40).toNat = z)
    (hC : ∀ W, Calls Try.prog 11 #[.agg #[.int .i64 st, .int .i64 lim, .int .i64 mis, .int .i64 last, .int .i64 pc, .bool pv, .int .i64 po, .int .i64 mc, .bool mv, .int .i64 mo, .int .i64 hc, .bool hv, .int .i64 ho, .int .i64 act, .bool kn, .int .i64 sq], .slice a z cap] W fun e w' => e = .returned (.agg #[.int .i64 0, .int .i64 0, .int .i64 0, .int .i64 0, .int .i64 0, .bool false, .int .i64 0, .int .i64 0, .bool false, .int .i64 0, .int .i64 0, .bool false, .int .i64 0, .int .i64 0, .bool false, .int .i64 0]) ∧ Below W.heap.size W w')
    (hT : ∀ W, Calls Try.prog 12 #[.agg #[.int .i64 st, .int .i64 lim, .int .i64 mis, .int .i64 last, .int .i64 pc, .bool pv, .int .i64 po, .int .i64 mc, .bool mv, .int .i64 mo, .int .i64 hc, .bool hv, .int .i64 ho, .int .i64 act, .bool kn, .int .i64 sq], .bool want, .bool clr, .int .i64 p] W (ToldNo W))
    (hR : ∀ W, Calls Try.prog 10 #[.agg #[.int .i64 st, .int .i64 lim, .int .i64 mis, .int .i64 last, .int .i64 pc, .bool pv, .int .i64 po, .int .i64 mc, .bool mv, .int .i64 mo, .int .i64 hc, .bool hv, .int .i64 ho, .int .i64 act, .bool kn, .int .i64 sq]] W fun e w' => e = .returned (.bool false) ∧ Below W.heap.size W w')
    (hRr : ∀ W, Calls Try.prog 9 #[.agg #[.int .i64 st, .int .i64 lim, .int .i64 mis, .int .i64 last, .int .i64 pc, .bool pv, .int .i64 po, .int .i64 mc, .bool mv, .int .i64 mo, .int .i64 hc, .bool hv, .int .i64 ho, .int .i64 act, .bool kn, .int .i64 sq]] W fun e w' => e = .returned (.bool false) ∧ Below W.heap.size W w')
    (hL : ∀ W, Calls Try.prog 13 #[.agg #[.int .i64 st, .int .i64 lim, .int .i64 mis, .int .i64 last, .int .i64 pc, .bool pv, .int .i64 po, .int .i64 mc, .bool mv, .int .i64 mo, .int .i64 hc, .bool hv, .int .i64 ho, .int .i64 act, .bool kn, .int .i64 sq]] W fun e w' => e = .returned (.bool true) ∧ Below W.heap.size W w') (hno : a0 < 1 ∨ 100 < a0 ∨ a1 < 1 ∨ 20 < a1) : Calls Try.prog 3 #[.int .i64 a0, .int .i64 a1, .agg #[.int .i64 st, .int .i64 lim, .int .i64 mis, .int .i64 last, .int .i64 pc, .bool pv, .int .i64 po, .int .i64 mc, .bool mv, .int .i64 mo, .int .i64 hc, .bool hv, .int .i64 ho, .int .i64 act, .bool kn, .int .i64 sq], .slice a len cap, .bool want, .bool clr, .int .i64 p] w fun e w' => e = .returned (.bool true) ∧ Below w.heap.size w w' := by
  have HK := Lib.hid fun W => awake_any W
  have HN := Lib.hid fun W => new_no a0 a1 hno W
  unfold noD dV at HN
  dsimp only at HN
  have HC := Lib.hid hC
  have HR := Lib.hid hR
  have HRr := Lib.hid hRr
  have HL := Lib.hid hL
  have HT := Lib.hid hT
  unfold ToldNo at HT
  clear hC hR hRr hL hT
  go_enter Try.func3, Try.ntmps3
  go_upto_region 4 with (go_at_call 7; ((with_reducible refine (HK.out _).mono ?_); rintro e w2 ⟨rfl, hb⟩; obtain ⟨x1, x2, x3⟩ := k.boxes1 hb; have X2 := Lib.hid x1; have H2 := Lib.hid x2; clear hb x1 x2))
  clear hz
  go_upto_region 5 with (go_at_call 8; ((with_reducible refine (HN.out _).mono ?_); rintro e w3 ⟨rfl, hb⟩; have X3 := Lib.hid (X2.out.below hb x3); have H3 := Lib.hid (H2.out.trans (hb.mono H2.out.size)); have z3 := Nat.lt_of_lt_of_le x3 hb.size; clear hb x3))
  have ha : Below w3.heap.size w3 (w3.alloc (.cells #[.int .i64 0, .int .i64 0, .int .i64 0, .int .i64 0, .int .i64 0, .bool false, .int .i64 0, .int .i64 0, .bool false, .int .i64 0, .int .i64 0, .bool false, .int .i64 0, .int .i64 0, .bool false, .int .i64 0] 27)) := (Below.refl _ _).alloc (Nat.le_refl _) _
  have m4 := k.Box.new w3 #[.int .i64 0, .int .i64 0, .int .i64 0, .int .i64 0, .int .i64 0, .bool false, .int .i64 0, .int .i64 0, .bool false, .int .i64 0, .int .i64 0, .bool false, .int .i64 0, .int .i64 0, .bool false, .int .i64 0] 27
  have x4 := X3.out.below ha z3
  have b4 := H3.out.trans (ha.mono H3.out.size)
  have z4 : w3.heap.size < (w3.alloc (.cells #[.int .i64 0, .int .i64 0, .int .i64 0, .int .i64 0, .int .i64 0, .bool false, .int .i64 0, .int .i64 0, .bool false, .int .i64 0, .int .i64 0, .bool false, .int .i64 0, .int .i64 0, .bool false, .int .i64 0] 27)).heap.size := by simp
  generalize w3.alloc (.cells #[.int .i64 0, .int .i64 0, .int .i64 0, .int .i64 0, .int .i64 0, .bool false, .int .i64 0, .int .i64 0, .bool false, .int .i64 0, .int .i64 0, .bool false, .int .i64 0, .int .i64 0, .bool false, .int .i64 0] 27) = w4 at m4 x4 b4 z4 ⊢
  have M4 : Hid (k.Box w4 w3.heap.size 0 [.int .i64 0, .int .i64 0, .int .i64 0, .int .i64 0, .int .i64 0, .bool false, .int .i64 0, .int .i64 0, .bool false, .int .i64 0, .int .i64 0, .bool false, .int .i64 0, .int .i64 0, .bool false, .int .i64 0]) := Lib.hid m4
  have X4 := Lib.hid x4
  have H4 := Lib.hid b4
  clear ha m4 x4 b4 X2 H2 X3 H3 HK HN
  go_cut [17] from 38 to 51 (fun q wx => q = .bool false ∧ wx = w4)
  case first =>
    by_cases h1 : a0 < 1
    · go_wp2_with fail
      go_meet
      case rel => exact ⟨rfl, rfl⟩
    · by_cases h2 : 100 < a0
      · go_wp2_with fail
        go_meet
        case rel => exact ⟨rfl, rfl⟩
      · by_cases h3 : a1 < 1
        · go_wp2_with fail
          go_meet
          case rel => exact ⟨rfl, rfl⟩
        · have h4 : decide (a1 ≤ 20) = false := decide_eq_false (by omega)
          go_wp2_with fail
          go_meet
          case rel => exact ⟨rfl, rfl⟩
  case rest =>
    obtain ⟨rfl, rfl⟩ := hcut
    go_upto_region 11 with (((with_reducible refine k.load_wanted ?gwN1 27 (.tmp 15) ?goN1 w3.heap.size 0 ?gxN1 [.int .i64 0, .int .i64 0, .int .i64 0, .int .i64 0, .int .i64 0, .bool false, .int .i64 0, .int .i64 0, .bool false, .int .i64 0, .int .i64 0, .bool false, .int .i64 0, .int .i64 0, .bool false, .int .i64 0] ?gqN1 M4.out.range ?guN1 ?gdN1 ?giN1 ?ghN1); (case goN1 => rfl); (case gwN1 => rfl); (case gxN1 => rfl); (case guN1 => rfl); (case gdN1 => rfl); (case giN1 => kernel_rfl)))
    have ha : Below wc.heap.size wc (wc.alloc (.cells #[.int .i64 a1, .bool false, .int .i64 0] 25)) := (Below.refl _ _).alloc (Nat.le_refl _) _
    have z5 : wc.heap.size < (wc.alloc (.cells #[.int .i64 a1, .bool false, .int .i64 0] 25)).heap.size := by simp
    have x5 := X4.out.below ha (by omega)
    have b5 := H4.out.trans (ha.mono H4.out.size)
    generalize wc.alloc (.cells #[.int .i64 a1, .bool false, .int .i64 0] 25) = w5 at z5 x5 b5 ⊢
    have X5 := Lib.hid x5
    have H5 := Lib.hid b5
    clear ha x5 b5 X4 H4 M4
    have Z5 : w.heap.size < w5.heap.size := by omega
    go_upto_region 15 with (first
    | (((with_reducible refine k.load_wanted ?gwN2 27 (.tmp 9) ?goN2 w.heap.size 0 ?gxN2 [.int .i64 st, .int .i64 lim, .int .i64 mis, .int .i64 last, .int .i64 pc, .bool pv, .int .i64 po, .int .i64 mc, .bool mv, .int .i64 mo, .int .i64 hc, .bool hv, .int .i64 ho, .int .i64 act, .bool kn, .int .i64 sq] ?gqN2 X5.out.range ?guN2 ?gdN2 ?giN2 ?ghN2); (case goN2 => rfl); (case gwN2 => rfl); (case gxN2 => rfl); (case guN2 => rfl); (case gdN2 => rfl); (case giN2 => kernel_rfl)))
    | (((with_reducible refine k.load_wanted ?gwN3 27 (.tmp 9) ?goN3 w.heap.size 0 ?gxN3 [.int .i64 st, .int .i64 lim, .int .i64 mis, .int .i64 last, .int .i64 pc, .bool pv, .int .i64 po, .int .i64 mc, .bool mv, .int .i64 mo, .int .i64 hc, .bool hv, .int .i64 ho, .int .i64 act, .bool kn, .int .i64 sq] ?gqN3 X6.out.range ?guN3 ?gdN3 ?giN3 ?ghN3); (case goN3 => rfl); (case gwN3 => rfl); (case gxN3 => rfl); (case guN3 => rfl); (case gdN3 => rfl); (case giN3 => kernel_rfl)))
    | (((with_reducible refine k.load_wanted ?gwN4 27 (.tmp 9) ?goN4 w.heap.size 0 ?gxN4 [.int .i64 st, .int .i64 lim, .int .i64 mis, .int .i64 last, .int .i64 pc, .bool pv, .int .i64 po, .int .i64 mc, .bool mv, .int .i64 mo, .int .i64 hc, .bool hv, .int .i64 ho, .int .i64 act, .bool kn, .int .i64 sq] ?gqN4 X7.out.range ?guN4 ?gdN4 ?giN4 ?ghN4); (case goN4 => rfl); (case gwN4 => rfl); (case gxN4 => rfl); (case guN4 => rfl); (case gdN4 => rfl); (case giN4 => kernel_rfl)))
    | (go_at_call 9; ((with_reducible refine (HRr.out _).mono ?_); rintro e w6 ⟨rfl, hb⟩; have X6 := Lib.hid (X5.out.below hb (by omega)); have H6 := Lib.hid (H5.out.trans (hb.mono H5.out.size)); have Z6 : w5.heap.size ≤ w6.heap.size := hb.size; clear hb))
    | (go_at_call 10; ((with_reducible refine (HR.out _).mono ?_); rintro e w7 ⟨rfl, hb⟩; have X7 := Lib.hid (X6.out.below hb (by omega)); have H7 := Lib.hid (H6.out.trans (hb.mono H6.out.size)); have Z7 : w6.heap.size ≤ w7.heap.size := hb.size; clear hb))
    | (go_at_call 11; ((with_reducible refine (HC.out _).mono ?_); rintro e w8 ⟨rfl, hb⟩; have X8 := Lib.hid (X7.out.below hb (by omega)); have H8 := Lib.hid (H7.out.trans (hb.mono H7.out.size)); have Z8 : w7.heap.size ≤ w8.heap.size := hb.size; clear hb)))
    have ha : Below w8.heap.size w8 (w8.alloc (.cells #[.int .i64 0, .int .i64 0, .int .i64 0, .int .i64 0, .int .i64 0, .bool false, .int .i64 0, .int .i64 0, .bool false, .int .i64 0, .int .i64 0, .bool false, .int .i64 0, .int .i64 0, .bool false, .int .i64 0] 27)) := (Below.refl _ _).alloc (Nat.le_refl _) _
    have n9 := k.Box.new w8 #[.int .i64 0, .int .i64 0, .int .i64 0, .int .i64 0, .int .i64 0, .bool false, .int .i64 0, .int .i64 0, .bool false, .int .i64 0, .int .i64 0, .bool false, .int .i64 0, .int .i64 0, .bool false, .int .i64 0] 27
    have Z9 : w8.heap.size < (w8.alloc (.cells #[.int .i64 0, .int .i64 0, .int .i64 0, .int .i64 0, .int .i64 0, .bool false, .int .i64 0, .int .i64 0, .bool false, .int .i64 0, .int .i64 0, .bool false, .int .i64 0, .int .i64 0, .bool false, .int .i64 0] 27)).heap.size := by simp
    have qX := X8.out.below ha (by omega)
    have qH := H8.out.trans (ha.mono H8.out.size)
    generalize w8.alloc (.cells #[.int .i64 0, .int .i64 0, .int .i64 0, .int .i64 0, .int .i64 0, .bool false, .int .i64 0, .int .i64 0, .bool false, .int .i64 0, .int .i64 0, .bool false, .int .i64 0, .int .i64 0, .bool false, .int .i64 0] 27) = w9 at n9 Z9 qX qH ⊢
    have N9 : Hid (k.Box w9 w8.heap.size 0 [.int .i64 0, .int .i64 0, .int .i64 0, .int .i64 0, .int .i64 0, .bool false, .int .i64 0, .int .i64 0, .bool false, .int .i64 0, .int .i64 0, .bool false, .int .i64 0, .int .i64 0, .bool false, .int .i64 0]) := Lib.hid n9
    have X9 := Lib.hid qX
    have H9 := Lib.hid qH
    clear ha n9 qH qX
    clear X5 H5 X6 H6 X7 H7 X8 H8
    go_upto_region 16 with (first
    | (((with_reducible refine k.load_wanted ?gwN5 27 (.tmp 9) ?goN5 w.heap.size 0 ?gxN5 [.int .i64 st, .int .i64 lim, .int .i64 mis, .int .i64 last, .int .i64 pc, .bool pv, .int .i64 po, .int .i64 mc, .bool mv, .int .i64 mo, .int .i64 hc, .bool hv, .int .i64 ho, .int .i64 act, .bool kn, .int .i64 sq] ?gqN5 X9.out.range ?guN5 ?gdN5 ?giN5 ?ghN5); (case goN5 => rfl); (case gwN5 => rfl); (case gxN5 => rfl); (case guN5 => rfl); (case gdN5 => rfl); (case giN5 => kernel_rfl)))
    | (go_at_call 12; ((with_reducible refine (HT.out _).mono ?_); rintro e w10 ⟨A1, cap1, rfl, hb⟩; have X10 := Lib.hid (X9.out.below hb (by omega)); have N10 := Lib.hid (N9.out.below hb (by omega)); have H10 := Lib.hid (H9.out.trans (hb.mono H9.out.size)); have Z10 : w9.heap.size ≤ w10.heap.size := hb.size; clear hb)))
    have ha : Below w10.heap.size w10 (w10.alloc (.cells #[.int .i64 0, .int .i64 0, .int .i64 0, .int .i64 0, .int .i64 0, .bool false, .int .i64 0, .int .i64 0, .bool false, .int .i64 0, .int .i64 0, .bool false, .int .i64 0, .int .i64 0, .bool false, .int .i64 0] 27)) := (Below.refl _ _).alloc (Nat.le_refl _) _
    have n9 := k.Box.new w10 #[.int .i64 0, .int .i64 0, .int .i64 0, .int .i64 0, .int .i64 0, .bool false, .int .i64 0, .int .i64 0, .bool false, .int .i64 0, .int .i64 0, .bool false, .int .i64 0, .int .i64 0, .bool false, .int .i64 0] 27
    have Z11 : w10.heap.size < (w10.alloc (.cells #[.int .i64 0, .int .i64 0, .int .i64 0, .int .i64 0, .int .i64 0, .bool false, .int .i64 0, .int .i64 0, .bool false, .int .i64 0, .int .i64 0, .bool false, .int .i64 0, .int .i64 0, .bool false, .int .i64 0] 27)).heap.size := by simp
    have qX := X10.out.below ha (by omega)
    have qN := N10.out.below ha (by omega)
    have qH := H10.out.trans (ha.mono H10.out.size)
    generalize w10.alloc (.cells #[.int .i64 0, .int .i64 0, .int .i64 0, .int .i64 0, .int .i64 0, .bool false, .int .i64 0, .int .i64 0, .bool false, .int .i64 0, .int .i64 0, .bool false, .int .i64 0, .int .i64 0, .bool false, .int .i64 0] 27) = w11 at n9 Z11 qX qN qH ⊢
    have Y11 : Hid (k.Box w11 w10.heap.size 0 [.int .i64 0, .int .i64 0, .int .i64 0, .int .i64 0, .int .i64 0, .bool false, .int .i64 0, .int .i64 0, .bool false, .int .i64 0, .int .i64 0, .bool false, .int .i64 0, .int .i64 0, .bool false, .int .i64 0]) := Lib.hid n9
    have X11 := Lib.hid qX
    have N11 := Lib.hid qN
    have H11 := Lib.hid qH
    clear ha n9 qH qX qN
    clear X9 H9 N9 X10 H10 N10
    go_wp2_with (first
    | (((with_reducible refine k.load_wanted ?gwN6 27 (.tmp 20) ?goN6 w8.heap.size 0 ?gxN6 [.int .i64 0, .int .i64 0, .int .i64 0, .int .i64 0, .int .i64 0, .bool false, .int .i64 0, .int .i64 0, .bool false, .int .i64 0, .int .i64 0, .bool false, .int .i64 0, .int .i64 0, .bool false, .int .i64 0] ?gqN6 N11.out.range ?guN6 ?gdN6 ?giN6 ?ghN6); (case goN6 => rfl); (case gwN6 => rfl); (case gxN6 => rfl); (case guN6 => rfl); (case gdN6 => rfl); (case giN6 => kernel_rfl)))
    | (((with_reducible refine k.load_wanted ?gwN7 27 (.tmp 21) ?goN7 w10.heap.size 0 ?gxN7 [.int .i64 0, .int .i64 0, .int .i64 0, .int .i64 0, .int .i64 0, .bool false, .int .i64 0, .int .i64 0, .bool false, .int .i64 0, .int .i64 0, .bool false, .int .i64 0, .int .i64 0, .bool false, .int .i64 0] ?gqN7 Y11.out.range ?guN7 ?gdN7 ?giN7 ?ghN7); (case goN7 => rfl); (case gwN7 => rfl); (case gxN7 => rfl); (case guN7 => rfl); (case gdN7 => rfl); (case giN7 => kernel_rfl)))
    | (((with_reducible refine k.load_wanted ?gwN8 27 (.tmp 9) ?goN8 w.heap.size 0 ?gxN8 [.int .i64 st, .int .i64 lim, .int .i64 mis, .int .i64 last, .int .i64 pc, .bool pv, .int .i64 po, .int .i64 mc, .bool mv, .int .i64 mo, .int .i64 hc, .bool hv, .int .i64 ho, .int .i64 act, .bool kn, .int .i64 sq] ?gqN8 X11.out.range ?guN8 ?gdN8 ?giN8 ?ghN8); (case goN8 => rfl); (case gwN8 => rfl); (case gxN8 => rfl); (case guN8 => rfl); (case gdN8 => rfl); (case giN8 => kernel_rfl)))
    | (go_at_call 13; ((with_reducible refine (HL.out _).mono ?_); rintro e w12 ⟨rfl, hb⟩; have H12 := Lib.hid (H11.out.trans (hb.mono H11.out.size)); clear hb)))
    go_ret
    exact ⟨rfl, H12.out⟩
end Go.Proofs.Ytdfgjfojneoljaa.driveSteps
