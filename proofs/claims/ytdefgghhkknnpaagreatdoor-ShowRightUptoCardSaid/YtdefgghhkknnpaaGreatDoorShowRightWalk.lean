/- The law ShowRight, over any program in memory: it is true. Conditions: the library's variable MaxLen holds some number, its table of powers of ten lies as it lays it; what memory can hold; at most 2^40 parts; a text of at most 2^47 bytes. -/
import Derived.Test.YtdefgghhkknnpaaGreatDoorShAw
import Derived.Test.YtdefgghhkknnpaaGreatDoorShRs
import Derived.Test.YtdefgghhkknnpaaGreatDoorShSzU
namespace Go.Proofs.YtdefgghhkknnpaaGreatDoor.sh
open Go.ChangeShapes Go.WideShapes Go.ChangeAt Go.RowKit Go.Proofs.YtdefgghhkknnpaaGreatDoor Go.Proofs.YtdefgghhkknnpaaGreatDoor.k Go.Proofs.YtdefgghhkknnpaaGreatDoor.rr Go.Proofs.YtdefgghhkknnpaaGreatDoor.tk Go.Proofs.YtdefgghhkknnpaaGreatDoor.tr
set_option linter.unusedVariables false
set_option linter.unusedSimpArgs false

set_option maxRecDepth 100000 in
set_option maxHeartbeats 8000000 in
theorem right_walk {p : Pg} {h : GH} {w : World} (hM : MaxL w) (hL : Laid w) (hp : PgAt w w.heap.size p h) (hin : inP p) (hr : rSs p.body) (hW : wsS p.body ≤ big) (hV : p.vars.length ≤ 1099511627776) (hlen : pgB p = true → (pgS p).length ≤ lim) :
    Calls Tryz.prog 3 #[.agg (gC h).toArray] w fun e w' => e = .returned (.bool true) ∧ Below w.heap.size w w' := by
  have AW := Lib.hid fun W (hb : Below w.heap.size w W) => awake_any W (hM.below hb) (hL.below hb)
  have SC := Lib.hid fun W (hb : Below w.heap.size w W) => refshort_any (PgAt.below hp hb hb.size) (show wsS p.body ≤ 1099511627776 from hW) hV
  have SX := Lib.hid fun W (hb : Below w.heap.size w W) => show_any (hM.below hb) (hL.below hb) (PgAt.below hp hb hb.size) hin hW hlen
  have SY := Lib.hid fun W (hb : Below w.heap.size w W) => refshow_any (PgAt.below hp hb hb.size) hin hr hW hlen
  obtain ⟨R, hR⟩ : ∃ R, showP p = R := ⟨_, rfl⟩
  rw [hR] at SX SY
  obtain ⟨r1, r2⟩ := R
  simp only [sv] at SX SY
  generalize (⟨r1.toArray⟩ : ByteArray) = xs at *
  generalize shortB p = us at *
  have HB := Lib.hid (al1 w (.cells (gC h).toArray 25))
  have X1 := Lib.hid (Box.new w (gC h).toArray 25)
  have Z1 := Lib.hid (show w.heap.size < (w.alloc (.cells (gC h).toArray 25)).heap.size by simp)
  clear hM hL hp hin hr hW hV hlen hR
  go_enter Tryz.func3, Tryz.ntmps3
  go_upto_region 1 with (fail)
  generalize w.alloc (.cells (gC h).toArray 25) = w1 at *
  have X1 : Hid (Box w1 w.heap.size 0 (gC h)) := X1
  go_wp2_with (go_at_call 6; fail)
  refine (AW.out _ HB.out).mono ?_
  rintro e w2 ⟨rfl, hb⟩
  have B2 := Lib.hid (HB.out.trans (hb.mono HB.out.size))
  have X2 := Lib.hid (X1.out.below hb Z1.out)
  have Z2 := Lib.hid (Nat.lt_of_lt_of_le Z1.out hb.size)
  clear hb X1 HB Z1 AW
  go_wp2_with (first | ((with_reducible refine m_load X2.out 25 1 ?_ ?_ ?_ ?_ ?_ ?_); rfl; rfl; rfl; rfl; kernel_rfl) | (go_at_call 7; fail))
  refine (SC.out _ B2.out).mono ?_
  rintro e w3 ⟨rfl, hb⟩
  have B3 := Lib.hid (B2.out.trans (hb.mono B2.out.size))
  have X3 := Lib.hid (X2.out.below hb Z2.out)
  have Z3 := Lib.hid (Nat.lt_of_lt_of_le Z2.out hb.size)
  clear hb X2 B2 Z2 SC
  cases us
  · go_wp2_with fail
    go_ret
    exact ⟨rfl, B3.out⟩
  go_wp2_with (first | ((with_reducible refine m_load X3.out 25 1 ?_ ?_ ?_ ?_ ?_ ?_); rfl; rfl; rfl; rfl; kernel_rfl) | (go_at_call 8; fail))
  refine (SX.out _ B3.out).mono ?_
  rintro e w4 ⟨rfl, hb⟩
  have B4 := Lib.hid (B3.out.trans (hb.mono B3.out.size))
  have X4 := Lib.hid (X3.out.below hb Z3.out)
  have Z4 := Lib.hid (Nat.lt_of_lt_of_le Z3.out hb.size)
  clear hb X3 B3 Z3 SX
  go_wp2_with (first | ((with_reducible refine m_load X4.out 25 1 ?_ ?_ ?_ ?_ ?_ ?_); rfl; rfl; rfl; rfl; kernel_rfl) | (go_at_call 9; fail))
  refine (SY.out _ B4.out).mono ?_
  rintro e w5 ⟨rfl, hb⟩
  have B5 := Lib.hid (B4.out.trans (hb.mono B4.out.size))
  clear hb X4 B4 Z4 SY
  go_wp2_with fail
  go_ret
  exact ⟨rfl, B5.out⟩
end Go.Proofs.YtdefgghhkknnpaaGreatDoor.sh
