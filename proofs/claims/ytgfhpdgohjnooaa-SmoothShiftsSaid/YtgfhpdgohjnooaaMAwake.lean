/- Stage 10's fixed answer: the chapter's example. No condition. -/
import Derived.Test.YtgfhpdgohjnooaaMCalls
namespace Go.Proofs.Ytgfhpdgohjnooaa.mm
open Go.ChangeShapes Go.WideShapes Go.ChangeAt Go.RowKit Go.Proofs.Ytgfhpdgohjnooaa.k
set_option linter.unusedVariables false

set_option maxHeartbeats 1000000 in
theorem awake_any (w : World) : Calls Try.prog 8 #[] w fun e w' => e = .returned (.bool true) ∧ Below w.heap.size w w' := by
  have hN := fun W => new_yes (m := 2) (p := 5) (by omega) (by omega) (by decide) W
  rw [show List.replicate (2 : Int).toNat (5 : Int) = [5, 5] by decide] at hN
  have HN := Lib.hid hN
  clear hN
  have P1 := Lib.hid fun (W : World) (B : Nat) (A : Option Addr) (len cap : Nat) (h : Win W B A len cap [5, 5]) (hB : B ≤ W.heap.size) => (show pushW [5, 5] 7 = [7, 5] by decide) ▸ push_any [5, 5] 7 (by decide) h hB
  have P2 := Lib.hid fun (W : World) (B : Nat) (A : Option Addr) (len cap : Nat) (h : Win W B A len cap [7, 5]) (hB : B ≤ W.heap.size) => (show pushW [7, 5] 7 = [7, 7] by decide) ▸ push_any [7, 5] 7 (by decide) h hB
  have O1 := Lib.hid fun (W : World) (B : Nat) (A : Option Addr) (len cap : Nat) (h : Win W B A len cap [7, 5]) (hB : B ≤ W.heap.size) => (show outW [7, 5] = 12 by decide) ▸ out_any [7, 5] h hB
  have O2 := Lib.hid fun (W : World) (B : Nat) (A : Option Addr) (len cap : Nat) (h : Win W B A len cap [7, 7]) (hB : B ≤ W.heap.size) => (show outW [7, 7] = 14 by decide) ▸ out_any [7, 7] h hB
  have R1 := Lib.hid fun (W : World) (B : Nat) (A : Option Addr) (len cap : Nat) (h : Win W B A len cap [7, 5]) (hB : B ≤ W.heap.size) => (show restB [7, 5] = false by decide) ▸ rest_any [7, 5] h hB
  have R2 := Lib.hid fun (W : World) (B : Nat) (A : Option Addr) (len cap : Nat) (h : Win W B A len cap [7, 7]) (hB : B ≤ W.heap.size) => (show restB [7, 7] = true by decide) ▸ rest_any [7, 7] h hB
  go_enter Try.func8, Try.ntmps8
  go_wp2_with (first
    | (go_at_call 9; ((with_reducible refine (HN.out _).mono ?_); rintro e w1 ⟨A1, l1, c1, rfl, hW1, hb⟩; have W1 := Lib.hid hW1; have H1 := Lib.hid hb; clear hW1 hb))
    | (go_at_call 15; fail))
  obtain ⟨x2, e2, v2, b2, z2⟩ := made w1 (.slice A1 l1 c1) 24
  rw [e2]
  have W2 := Lib.hid (W1.out.below b2)
  have H2 := Lib.hid (H1.out.trans (b2.mono H1.out.size))
  clear e2 W1 b2
  refine (P1.out _ _ _ _ _ W2.out (by omega)).mono ?_
  rintro e w3 ⟨A3, l3, c3, rfl, hW3, hb⟩
  have v3 := v2.under hb
  have H3 := Lib.hid (H2.out.trans (hb.mono H2.out.size))
  obtain ⟨x4, e4, v4, z4, b4, o4, k4⟩ := laid v3 (.slice A3 l3 c3)
  have hc := v3.cell
  have hf := v3.frozen 0
  have W4 := Lib.hid (k4 _ _ _ _ _ hW3)
  have E4 := Lib.hid e4
  clear hb hW3 e4
  go_wp2_with (go_at_call 15; fail)
  rw [E4.out]
  have H4 := Lib.hid (H3.out.trans (b4 w.heap.size (by have := H1.out.size; omega)))
  refine (P2.out _ _ _ _ _ W4.out (by omega)).mono ?_
  rintro e w5 ⟨A5, l5, c5, rfl, hW5, hb⟩
  obtain ⟨x6, e6, v6, b6, z6⟩ := made w5 (.slice A5 l5 c5) 24
  have V6 := (v4.under hb).under b6
  have u6 := V6.lt
  have W6 := Lib.hid ((W4.out.below (hb.mono (by omega))).below (b6.mono (by have := hb.size; omega)))
  have Y6 := Lib.hid (hW5.below b6)
  have H6 := Lib.hid ((H4.out.trans (hb.mono H4.out.size)).trans (b6.mono (by have := H4.out.size; have := hb.size; omega)))
  have E6 := Lib.hid e6
  have L6 := Lib.hid (show w3.heap.size ≤ x6.heap.size by have := hb.size; omega)
  clear hc hf
  have hc := (v4.under hb).cell
  have hz : w1.heap.size < w5.heap.size := by have := (v4.under hb).lt; omega
  clear hb hW5 e6 v4 v3 v2 k4 o4 b4 W4 H4 H3 H2
  go_wp2_with (go_at_call 17; fail)
  rw [E6.out]
  refine (O1.out _ _ _ _ _ W6.out L6.out).mono ?_
  rintro e w7 ⟨rfl, hb7⟩
  have V7 := V6.under hb7
  have v7 := v6.under hb7
  have W7 := Lib.hid (W6.out.below (hb7.mono L6.out))
  have Y7 := Lib.hid (Y6.out.below (hb7.mono (by omega)))
  have H7 := Lib.hid (H6.out.trans (hb7.mono H6.out.size))
  have L7 := Lib.hid (And.intro (Nat.le_trans L6.out hb7.size) (show w5.heap.size ≤ w7.heap.size by have := hb7.size; omega))
  clear hb7 hc
  have hc := V7.cell
  have hd := v7.cell
  go_wp2_with (go_at_call 17; fail)
  refine (O2.out _ _ _ _ _ Y7.out L7.out.2).mono ?_
  rintro e w8 ⟨rfl, hb8⟩
  have V8 := V7.under hb8
  have v8 := v7.under hb8
  have W8 := Lib.hid (W7.out.below (hb8.mono L7.out.1))
  have Y8 := Lib.hid (Y7.out.below (hb8.mono L7.out.2))
  have H8 := Lib.hid (H7.out.trans (hb8.mono H7.out.size))
  have L8 := Lib.hid (And.intro (Nat.le_trans L7.out.1 hb8.size) (Nat.le_trans L7.out.2 hb8.size))
  clear hb8 hc hd
  have hc := V8.cell
  have hd := v8.cell
  go_wp2_with (go_at_call 11; fail)
  refine (R2.out _ _ _ _ _ Y8.out L8.out.2).mono ?_
  rintro e w9 ⟨rfl, hb9⟩
  have V9 := V8.under hb9
  have W9 := Lib.hid (W8.out.below (hb9.mono L8.out.1))
  have H9 := Lib.hid (H8.out.trans (hb9.mono H8.out.size))
  have L9 := Lib.hid (Nat.le_trans L8.out.1 hb9.size)
  clear hb9 hc hd
  have hc := V9.cell
  go_wp2_with (go_at_call 11; fail)
  refine (R1.out _ _ _ _ _ W9.out L9.out).mono ?_
  rintro e wa ⟨rfl, hba⟩
  have Ha := Lib.hid (H9.out.trans (hba.mono H9.out.size))
  clear hba hc
  go_wp2
  go_ret
  exact ⟨rfl, Ha.out⟩
end Go.Proofs.Ytgfhpdgohjnooaa.mm
