/- The fixed answer of the layer show's laws: it is true; what was in memory is as it was. Conditions: the library's variable MaxLen holds some number, its table of powers of ten lies as it lays it. -/
import Derived.Test.YtdefgghhkknnpaaGreatDoorShWrY
namespace Go.Proofs.YtdefgghhkknnpaaGreatDoor.sh
open Go.ChangeShapes Go.WideShapes Go.ChangeAt Go.RowKit Go.Proofs.YtdefgghhkknnpaaGreatDoor Go.Proofs.YtdefgghhkknnpaaGreatDoor.k Go.Proofs.YtdefgghhkknnpaaGreatDoor.rr Go.Proofs.YtdefgghhkknnpaaGreatDoor.tk Go.Proofs.YtdefgghhkknnpaaGreatDoor.tr
set_option linter.unusedVariables false
set_option linter.unusedSimpArgs false

theorem bs_SA (h : SH) (w : World) : (Instr.buildSlice 23 1 #[(0, .agg (sC h).toArray)]).run Tryz.prog w = .ok (.slice (some ⟨w.heap.size, 0, none⟩) 1 1) (w.alloc (.cells (sC h).toArray 49)) := by kernel_rfl
def awT : Str := [80, 82, 79, 71, 82, 65, 77, 32, 112, 10, 97, 32, 58, 61, 32, 40, 49, 32, 43, 32, 40, 45, 98, 41, 41, 59, 10, 69, 78, 68, 95, 80, 82, 79, 71, 82, 65, 77, 10]
theorem awake_pgS : pgS awakeP = awT := by kernel_rfl
theorem awake_show : showP awakeP = (awT, 0) := by kernel_rfl
def hB : EH := ⟨3, 0, [98], [], ⟨none, 0, 0⟩, 0⟩
def h1 : EH := ⟨1, 1, [], [], ⟨none, 0, 0⟩, 0⟩
def hN (g : Nat) : EH := ⟨6, 0, [], [], ⟨some ⟨g, 0, none⟩, 1, 1⟩, 0⟩
def hA : EH := ⟨3, 0, [97], [], ⟨none, 0, 0⟩, 0⟩
def hP (g : Nat) : EH := ⟨8, 0, [], [], ⟨some ⟨g, 0, none⟩, 2, 2⟩, 0⟩
def hS (g : Nat) : SH := ⟨1, [], hA, hP g, ⟨none, 0, 0⟩, ⟨none, 0, 0⟩, ⟨none, 0, 0⟩, ⟨none, 0, 0⟩, 0⟩
theorem nil_rs {α : Type} {enc : α → List Value} {z : Nat} {w : World} {B : Nat} : RS enc z w B ⟨none, 0, 0⟩ [] := ⟨rfl, Nat.le_refl _, (by show 0 ≤ maxLen; unfold maxLen; omega), fun _ => rfl, fun h => absurd h (by decide)⟩
set_option maxRecDepth 100000 in
set_option maxHeartbeats 8000000 in
theorem awake_any (w : World) (hM : MaxL w) (hL : Laid w) : Calls Tryz.prog 6 #[] w fun e w' => e = .returned (.bool true) ∧ Below w.heap.size w w' := by
  go_enter Tryz.func6, Tryz.ntmps6
  go_upto_region 2 with (first | ((with_reducible refine m_slice1 (enc := eC) (z := 6) hB 42 44 5 (.agg (eC hB).toArray) (eC hB).toArray ?_ ?_ ?_ (bs_E hB) ?_ ?_); rfl; rfl; rfl; rfl; intro w1 hrb hb1 hz1; have RB1 := Lib.hid hrb; have B1 := Lib.hid hb1; have Z1 := Lib.hid hz1; clear hrb hb1 hz1) | ((with_reducible refine m_slice2 eC_len h1 (hN w.heap.size) 42 44 4 7 (.agg (eC h1).toArray) (.agg (eC (hN w.heap.size)).toArray) (eC h1 ++ eC (hN w.heap.size)).toArray ?_ ?_ ?_ ?_ (bs_E2 h1 (hN w.heap.size)) ?_ ?_); rfl; rfl; rfl; rfl; rfl; intro w2 hrb hb1 hz1; have RB2 := Lib.hid hrb; have B2 := Lib.hid hb1; have Z2 := Lib.hid hz1; clear hrb hb1 hz1) | ((with_reducible refine m_new 44 1 9 ?_ ?_ ?_ (eC (hP w1.heap.size)) ?_ ?_ ?_ ?_ (eC_one _) ?_); rfl; rfl; rfl; rfl; rfl; rfl; kernel_rfl; intro w3 hx hb hz; have X3 := Lib.hid hx; have B3 := Lib.hid hb; have Z3 := Lib.hid hz; clear hx hb hz))
  have X4 : Hid (Box w3 w2.heap.size 0 [.int .i64 8, .int .i64 0, .string ⟨#[]⟩, .string ⟨#[]⟩, .slice (some ⟨w1.heap.size, 0, none⟩) 2 2, .int .i64 0]) := X3
  go_wp2_with (first | ((with_reducible refine m_load X4.out 44 1 ?_ ?_ ?_ ?_ ?_ ?_); rfl; rfl; rfl; rfl; kernel_rfl) | ((with_reducible refine m_slice1 (enc := sC) (z := 19) (hS w1.heap.size) 23 49 13 (.agg (sC (hS w1.heap.size)).toArray) (sC (hS w1.heap.size)).toArray ?_ ?_ ?_ (bs_SA _) ?_ ?_); rfl; rfl; rfl; rfl; intro w4 hrb hb1 hz1; have RB4 := Lib.hid hrb; have B4 := Lib.hid hb1; have Z4 := Lib.hid hz1; clear hrb hb1 hz1) | (go_at_call 8; fail))
  have s1 := B1.out.size
  have s2 := B2.out.size
  have s3 := B3.out.size
  have s4 := B4.out.size
  have BA := Lib.hid (((B1.out.trans (B2.out.mono s1)).trans (B3.out.mono (Nat.le_trans s1 s2))).trans (B4.out.mono (Nat.le_trans s1 (Nat.le_trans s2 s3))))
  have hp : PgAt w4 w4.heap.size awakeP ⟨[112], ⟨none, 0, 0⟩, ⟨some ⟨w3.heap.size, 0, none⟩, 1, 1⟩⟩ := by
    have z1 := Z1.out
    have z2 := Z2.out
    have z3 := Z3.out
    have z4 := Z4.out
    have q14 := (B2.out.trans (B3.out.mono s2)).trans (B4.out.mono (Nat.le_trans s2 s3))
    have q24 := B3.out.trans (B4.out.mono s3)
    have e1 : RS eC 6 w4 w4.heap.size ⟨some ⟨w.heap.size, 0, none⟩, 1, 1⟩ [hB] := (RS.below (RB1.out.toAt (B := w1.heap.size) (fun b hb => by rw [z1]; exact hb.2)) q14 q14.size)
    have e2 : RS eC 6 w4 w4.heap.size ⟨some ⟨w1.heap.size, 0, none⟩, 2, 2⟩ [h1, hN w.heap.size] := (RS.below (RB2.out.toAt (B := w2.heap.size) (fun b hb => by rw [z2]; exact hb.2)) q24 q24.size)
    have e4 : RS sC 19 w4 w4.heap.size ⟨some ⟨w3.heap.size, 0, none⟩, 1, 1⟩ [hS w1.heap.size] := RB4.out.toAt (B := w4.heap.size) (fun b hb => by rw [z4]; exact hb.2)
    have n0 : RS eC 6 w4 w4.heap.size ⟨none, 0, 0⟩ [] := nil_rs
    refine ⟨rfl, nil_rs, [hS w1.heap.size], e4, hS w1.heap.size, [], rfl, ?_, rfl⟩
    refine ⟨rfl, rfl, rfl, ⟨rfl, rfl, rfl, rfl, rfl, [], n0, rfl⟩, ⟨rfl, rfl, rfl, rfl, rfl, [h1, hN w.heap.size], e2, h1, [hN w.heap.size], rfl, ⟨rfl, rfl, rfl, rfl, rfl, [], n0, rfl⟩, hN w.heap.size, [], rfl, ⟨rfl, rfl, rfl, rfl, rfl, [hB], e1, hB, [], rfl, ⟨rfl, rfl, rfl, rfl, rfl, [], n0, rfl⟩, rfl⟩, rfl⟩, ⟨[], n0, rfl⟩, ⟨[], nil_rs, rfl⟩, nil_rs, ⟨[], nil_rs, rfl⟩⟩
  have SX := show_any (hM.below BA.out) (hL.below BA.out) hp (by constructor; (intro v hv; cases hv); exact ⟨⟨(by intro l hl; cases hl), trivial⟩, trivial⟩) (by decide) (fun _ => by rw [awake_pgS]; decide)
  rw [awake_show] at SX
  have SX := Lib.hid SX
  simp only [sv] at SX
  clear hp s1 s2 s3 s4 RB1 RB2 RB4 X3 X4
  refine SX.out.mono ?_
  rintro e w9 ⟨rfl, hb⟩
  have B9 := Lib.hid (BA.out.trans (hb.mono BA.out.size))
  clear hb SX BA
  unfold awT
  go_wp2_with fail
  go_ret
  exact ⟨rfl, B9.out⟩
end Go.Proofs.YtdefgghhkknnpaaGreatDoor.sh
