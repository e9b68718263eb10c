/- The walk of the law SumPieces: for every register and any two texts it returns true, and what was in memory is as it was. -/
import Derived.Test.YtilafaokiakkbaaSOwn
namespace Go.Proofs.Ytilafaokiakkbaa.sumPieces
open Go.ChangeShapes Go.WideShapes Go.ChangeAt Go.RowKit Go.Proofs.Ytilafaokiakkbaa.s Go.Proofs.Ytilafaokiakkbaa
set_option linter.unusedVariables false

set_option maxHeartbeats 1000000 in
theorem walk (a0 : Int) (a1 : Option Addr) (len1 cap1 : Nat) (z1 : List Int) (a2 : Option Addr) (len2 cap2 : Nat) (z2 : List Int) (w : World) (w0 : (Lit.int .u16 a0).wf = true) (w1 : IsRow .u8 w a1 len1 cap1 z1) (w2 : IsRow .u8 w a2 len2 cap2 z2) :
    Calls Try.prog 4 #[.int .u16 a0, .slice a1 len1 cap1, .slice a2 len2 cap2] w fun e w' => e = .returned (.bool true) ∧ Below w.heap.size w w' := by
  obtain ⟨s, rfl⟩ := isReg w0
  obtain ⟨l1, rfl, hB1, hcap1, hmax1, hnil1, hspot1⟩ := bytes_of w1
  obtain ⟨l2, rfl, hB2, hcap2, hmax2, hnil2, hspot2⟩ := bytes_of w2
  unfold maxLen at hmax1 hmax2
  have hs := v16_in s
  clear w0 w1 w2
  obtain ⟨k1, e1, hn1, hm1, hC1⟩ := cut_of l1 2000 2000 rfl hB1
  obtain ⟨k2, e2, hn2, hm2, hC2⟩ := cut_of l2 2000 2000 rfl hB2
  have HX1 : Hid (a1 = none → k1.length = 0 ∧ cap1 = 0) := Lib.hid fun h => ⟨by have := (hnil1 h).1; omega, (hnil1 h).2⟩
  have HX2 : Hid (a2 = none → k2.length = 0 ∧ cap2 = 0) := Lib.hid fun h => ⟨by have := (hnil2 h).1; omega, (hnil2 h).2⟩
  have HM : Hid (k1.length ≤ 10000 ∧ k2.length ≤ 10000 ∧ k1.length + k2.length ≤ 4000) := Lib.hid (by omega)
  have HN1 := Lib.hid hn1
  have HN2 := Lib.hid hn2
  have HC1 := Lib.hid hC1
  have HC2 := Lib.hid hC2
  clear hB1 hB2 e1 e2 hspot1 hspot2 hnil1 hnil2 hn1 hn2 hC1 hC2 hm1 hm2
  generalize l1.length = L1 at *
  generalize l2.length = L2 at *
  obtain ⟨k, hk⟩ : ∃ k, k1 ++ k2 = k := ⟨_, rfl⟩
  have HK := Lib.hid hk
  have HKL : Hid (k.length ≤ 10000) := Lib.hid (by have := HM.out; rw [← hk, List.length_append]; omega)
  have HEO : Hid (goV first k = goV (goV first k1) k2) := Lib.hid (by rw [← goV_append, hk])
  have HEG : Hid (goV s k = goV (goV s k1) k2) := Lib.hid (by rw [← goV_append, hk])
  clear hk
  go_enter Try.func4, Try.ntmps4
  go_wp2_with (go_at_call 7; ((with_reducible refine (awake_any _).mono ?_); rintro e w1 ⟨rfl, hb1⟩; have HB1 := Lib.hid hb1; clear hb1))
  go_quiet (fail)
  go_wp2_with (first
    | (go_at_call 12; ((with_reducible refine (copy_any k1 _ HN1.out HM.out.1 w.heap.size a1 _ _ (HC1.out.below (below_drewN HB1.out _)) (below_drewN HB1.out _).size HX1.out).mono ?_); rintro e w2 ⟨v2, rfl, hO2, hb2⟩; have HO2 := Lib.hid hO2; have HB2 := Lib.hid ((below_drewN HB1.out nq).trans (hb2.mono (below_drewN HB1.out nq).size)); have hz2 := Lib.hid hb2.size; clear hO2 hb2))
    | (at_builtin; refine wpList_append_bytes _ rfl (.tmp 21) (.tmp 22) rfl _ _ k1 rfl HO2.out w.heap.size a2 _ _ k2 HN2.out rfl (HC2.out.below HB2.out) HX2.out (by have := HM.out; omega) hz2.out ?_; intro v3 w3 hown3 hg3 hat3; have HW3 := Lib.hid hown3; have HG3 := Lib.hid hg3; clear hown3 hg3 hat3))
  obtain ⟨A3, c3, rfl, hB3, hc3, hm3, hX3⟩ := HW3.out.form
  rw [HK.out] at hB3 hc3 ⊢
  have HB3 := Lib.hid hB3
  have HW1 := Lib.hid ((HB2.out.grown HG3.out HB2.out.size (by have := HO2.out.lt; intro b hb; have := (HO2.out.lt b hb).1; exact Nat.le_trans HB1.out.size this)))
  obtain ⟨n3, hn3⟩ : ∃ n3, k.length = n3 := ⟨_, rfl⟩
  have HN3 := Lib.hid hn3
  rw [hn3] at hc3 ⊢
  clear hB3 hm3 hX3 hn3
  go_wp2_with (first
    | (go_at_call 8; ((with_reducible refine (of_n HN1.out HM.out.1 (HC1.out.below HW1.out) _).mono ?_); rintro e w' ⟨rfl, rfl⟩))
    | (go_at_call 8; ((with_reducible refine (of_e HEO.out HN3.out HKL.out HB3.out _).mono ?_); rintro e w' ⟨rfl, rfl⟩))
    | (go_at_call 10; ((with_reducible refine (go_n s HN1.out HM.out.1 (HC1.out.below HW1.out) _).mono ?_); rintro e w' ⟨rfl, rfl⟩))
    | (go_at_call 10; ((with_reducible refine (go_n _ HN2.out HM.out.2.1 (HC2.out.below HW1.out) _).mono ?_); rintro e w' ⟨rfl, rfl⟩))
    | (go_at_call 10; ((with_reducible refine (go_e s HEG.out HN3.out HKL.out HB3.out _).mono ?_); rintro e w' ⟨rfl, rfl⟩)))
  go_ret
  exact ⟨rfl, HW1.out⟩
end Go.Proofs.Ytilafaokiakkbaa.sumPieces
