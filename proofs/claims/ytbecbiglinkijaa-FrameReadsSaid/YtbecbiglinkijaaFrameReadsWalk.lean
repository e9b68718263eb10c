/- The walk of the law FrameReads: for any bytes it returns true, and what was in memory is as it was. -/
import Derived.Test.YtbecbiglinkijaaTAwake
namespace Go.Proofs.Ytbecbiglinkijaa.frameReads
open Go.ChangeShapes Go.WideShapes Go.ChangeAt Go.RowKit Go.Proofs.Ytbecbiglinkijaa.s Go.Proofs.Ytbecbiglinkijaa.t Go.Proofs.Ytbecbiglinkijaa
set_option linter.unusedVariables false

set_option maxHeartbeats 1000000 in
theorem walk (a0 : Option Addr) (len0 cap0 : Nat) (z0 : List Int) (w : World) (w0 : IsRow .u8 w a0 len0 cap0 z0) :
    Calls Try.prog 4 #[.slice a0 len0 cap0] w fun e w' => e = .returned (.bool true) ∧ Below w.heap.size w w' := by
  obtain ⟨l0, rfl, hB0, hcap0, hmax0, hnil0, hspot0⟩ := bytes_of w0
  clear w0 hspot0
  obtain ⟨k, e0, hn, hm, hC⟩ := cut_of l0 40 40 rfl hB0
  have HN := Lib.hid hn
  have HC := Lib.hid hC
  have HM : Hid (k.length ≤ 10000) := Lib.hid (by omega)
  have HP : Hid ((min (l0.length : Int) 40).toNat ≤ cap0) := Lib.hid (by omega)
  have HX := Lib.hid hmax0
  unfold maxLen at hmax0
  clear hB0 hnil0 e0 hn hm hC
  generalize l0.length = L0 at *
  have rF := fun (W : World) (hb : Below w.heap.size w W) => rfeed_any k _ HN.out HM.out _ a0 cap0 HP.out HX.out W (HC.out.below hb) hb.size
  have rS := fun (W : World) (hb : Below w.heap.size w W) => rset_any k _ HN.out HM.out _ a0 cap0 HP.out HX.out W (HC.out.below hb) hb.size
  have qF := fun (W : World) (hb : Below w.heap.size w W) => read_any signF 127 k _ HN.out HM.out _ a0 cap0 HP.out HX.out W (HC.out.below hb) hb.size
  have qS := fun (W : World) (hb : Below w.heap.size w W) => read_any signS 7 k _ HN.out HM.out _ a0 cap0 HP.out HX.out W (HC.out.below hb) hb.size
  rw [signF_val] at qF
  rw [signS_val] at qS
  have RF := Lib.hid rF
  have RS := Lib.hid rS
  have QF := Lib.hid qF
  have QS := Lib.hid qS
  clear rF rS qF qS
  go_enter Try.func4, Try.ntmps4
  go_wp2_with (first
    | (go_at_call 7; ((with_reducible refine (awake_any _).mono ?_); rintro e w1 ⟨rfl, hb1⟩; have HB1 := Lib.hid hb1; clear hb1))
    | (go_at_call 12; ((with_reducible refine (RF.out _ HB1.out).mono ?_); rintro e w2 ⟨rfl, hb2⟩; have HB2 := Lib.hid (HB1.out.trans (hb2.mono HB1.out.size)); clear hb2))
    | (go_at_call 13; ((with_reducible refine (QF.out _ (by repeat (first | exact HB2.out | (refine Below.setCell ?_ HB2.out.size _) | (refine Below.alloc ?_ HB2.out.size _)))).mono ?_); rintro e w3 ⟨rfl, hb3⟩; have k0 : w3.cell? ⟨w2.heap.size, 0, none⟩ = some (.int .i64 (rS signF 127 k)) := (hb3.cell (p := ⟨w2.heap.size, 0, none⟩) (by simp)).trans (by simp [go_sem]); have k1 : w3.cell? ⟨w2.heap.size, 1, none⟩ = some (.int .i64 (rW signF 127 k)) := (hb3.cell (p := ⟨w2.heap.size, 1, none⟩) (by simp)).trans (by simp [go_sem]); have k2 : w3.cell? ⟨w2.heap.size, 2, none⟩ = some (.int .i64 (rP signF 127 k)) := (hb3.cell (p := ⟨w2.heap.size, 2, none⟩) (by simp)).trans (by simp [go_sem]); have HB3 : Hid (Below w.heap.size w w3) := Lib.hid (Below.trans (by repeat (first | exact HB2.out | (refine Below.setCell ?_ HB2.out.size _) | (refine Below.alloc ?_ HB2.out.size _))) (hb3.mono (by simp; have := HB2.out.size; omega))); clear hb3))
    | (go_at_call 14; ((with_reducible refine (RS.out _ HB3.out).mono ?_); rintro e w4 ⟨rfl, hb4⟩; have HB4 := Lib.hid (HB3.out.trans (hb4.mono HB3.out.size)); clear hb4 k0 k1 k2))
    | (go_at_call 13; ((with_reducible refine (QS.out _ (by repeat (first | exact HB4.out | (refine Below.setCell ?_ HB4.out.size _) | (refine Below.alloc ?_ HB4.out.size _)))).mono ?_); rintro e w5 ⟨rfl, hb5⟩; have j0 : w5.cell? ⟨w4.heap.size, 0, none⟩ = some (.int .i64 (rS signS 7 k)) := (hb5.cell (p := ⟨w4.heap.size, 0, none⟩) (by simp)).trans (by simp [go_sem]); have j1 : w5.cell? ⟨w4.heap.size, 1, none⟩ = some (.int .i64 (rW signS 7 k)) := (hb5.cell (p := ⟨w4.heap.size, 1, none⟩) (by simp)).trans (by simp [go_sem]); have j2 : w5.cell? ⟨w4.heap.size, 2, none⟩ = some (.int .i64 (rP signS 7 k)) := (hb5.cell (p := ⟨w4.heap.size, 2, none⟩) (by simp)).trans (by simp [go_sem]); have HB5 : Hid (Below w.heap.size w w5) := Lib.hid (Below.trans (by repeat (first | exact HB4.out | (refine Below.setCell ?_ HB4.out.size _) | (refine Below.alloc ?_ HB4.out.size _))) (hb5.mono (by simp; have := HB4.out.size; omega))); clear hb5)))
  go_ret
  exact ⟨rfl, HB5.out⟩
end Go.Proofs.Ytbecbiglinkijaa.frameReads
