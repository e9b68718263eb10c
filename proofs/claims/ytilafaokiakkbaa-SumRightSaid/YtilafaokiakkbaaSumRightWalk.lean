/- The walk of the law SumRight: for every register and any bytes it returns true, and what was in memory is as it was. -/
import Derived.Test.YtilafaokiakkbaaSRow
namespace Go.Proofs.Ytilafaokiakkbaa.sumRight
open Go.ChangeShapes Go.WideShapes Go.ChangeAt Go.RowKit Go.Proofs.Ytilafaokiakkbaa.s Go.Proofs.Ytilafaokiakkbaa
set_option linter.unusedVariables false

set_option maxHeartbeats 400000 in
theorem walk (a0 : Int) (a1 : Option Addr) (len1 cap1 : Nat) (z1 : List Int) (w : World) (w0 : (Lit.int .u16 a0).wf = true) (w1 : IsRow .u8 w a1 len1 cap1 z1) :
    Calls Try.prog 3 #[.int .u16 a0, .slice a1 len1 cap1] w fun e w' => e = .returned (.bool true) ∧ Below w.heap.size w w' := by
  obtain ⟨s, rfl⟩ := isReg w0
  obtain ⟨l, rfl, hB, hcap, hmax, hnil, hspot⟩ := bytes_of w1
  unfold maxLen at hmax
  have hs := v16_in s
  clear w0 w1 hnil hspot
  obtain ⟨l', e', hn, hn2, hB'⟩ := cut_of l 2000 2000 rfl hB
  have HN := Lib.hid hn
  have HB := Lib.hid hB'
  have HL : Hid (l'.length ≤ 10000) := Lib.hid (by omega)
  clear hB e' hn hB' hn2
  generalize l.length = L at *
  have hr1 := v16_in (goV s l')
  have hr2 := v16_in (goV first l')
  go_enter Try.func3, Try.ntmps3
  go_wp2_with (first
    | (go_at_call 7; ((with_reducible refine (awake_any _).mono ?_); rintro e w1 ⟨rfl, hb1⟩; have HB1 := Lib.hid hb1; have hz1 := hb1.size; clear hb1))
    | (go_at_call 8; ((with_reducible refine (of_n HN.out HL.out (HB.out.below HB1.out) _).mono ?_); rintro e w' ⟨rfl, rfl⟩))
    | (go_at_call 9; ((with_reducible refine (refof_n HN.out HL.out (HB.out.below HB1.out) hz1 _).mono ?_); rintro e w2 ⟨rfl, hb2⟩; have HB2 := Lib.hid (HB1.out.trans (hb2.mono hz1)); have hz2 := HB2.out.size; clear hb2))
    | (go_at_call 10; ((with_reducible refine (go_n s HN.out HL.out (HB.out.below HB2.out) _).mono ?_); rintro e w' ⟨rfl, rfl⟩))
    | (go_at_call 11; ((with_reducible refine (ref_n s HN.out HL.out (HB.out.below HB2.out) hz2 _).mono ?_); rintro e w3 ⟨rfl, hb3⟩; have HB3 := Lib.hid (HB2.out.trans (hb3.mono hz2)); clear hb3)))
  go_ret
  exact ⟨rfl, HB3.out⟩
end Go.Proofs.Ytilafaokiakkbaa.sumRight
