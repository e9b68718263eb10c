/- What line's Right and commands and slices.Grow and slices.Concat answer; what was in memory is as it was. No condition but that the rows are read where they lie. -/
import Derived.Test.YtnghifbkiipigaaLnLineA
import Derived.Lib.AppendZeros
namespace Go.Proofs.Ytnghifbkiipigaa.ln
open Go.ChangeShapes Go.WideShapes Go.ChangeAt Go.RowKit Go.Proofs.Ytnghifbkiipigaa.k Go.Proofs.Ytnghifbkiipigaa.rr
set_option linter.unusedVariables false

theorem zeros_row (P : Program) {t tn e : TypeId} {kn : IntKind} {i : TypeInfo} (ht : P.underlying t = some (.slice e)) (htn : P.underlying tn = some (.int kn)) (hi : P.info? e = some i) {zv : Value} (hz : i.zero = some zv) {z : Nat} (hs : i.size = z) (hzs : zv.cells.size = z) (hp : 0 < z) (hb : i.bytes ≤ 1000)
    (w : World) (ty : TypeId) (n : Nat) (hn : 0 < n) (hm : n ≤ 10000) : ∃ cap W, (Builtin.append_ #[t, tn] ty #[.slice none 0 0, .int .i64 n]).run P w = .ok (.slice (some ⟨w.heap.size, 0, none⟩) n cap) W ∧ n ≤ cap ∧ cap ≤ maxLen ∧ (∀ base, base ≤ w.heap.size → W.ownsRow base e z (.slice (some ⟨w.heap.size, 0, none⟩) 0 cap) 0 []) ∧ Below w.heap.size w W := by
  refine ⟨grownCap w n 0 e, w.drew.alloc (.cells (Builtin.zeroCells zv.cells n ++ Builtin.zeroCells zv.cells (grownCap w n 0 e - n)) e), Lib.run_append_nil_zeros w t tn ty e i zv .i64 kn ht htn hi hz n hn (by omega) (by omega) (by
    have : n * i.bytes ≤ 10000 * 1000 := Nat.mul_le_mul hm hb
    omega), grownCap_ge _ _ _ _, grownCap_le_maxLen _ _ _ _ (by unfold maxLen; omega), fun base hbase => ?_, ((Below.refl _ _).drew).alloc (Nat.le_refl _) _⟩
  have hc := grownCap_ge w n 0 e
  exact World.ownsRow_made (w := w.drew) _ _ hbase (grownCap_le_maxLen _ _ _ _ (by unfold maxLen; omega)) (by
    rw [Array.size_append, size_zeroCells, size_zeroCells, hzs, ← Nat.add_mul]
    congr 1
    omega)
theorem int_under : Try.prog.underlying 3 = some (.int .i64) := by kernel_rfl
theorem grow_nil (n : Nat) (hm : n ≤ 10000) (w : World) :
    Calls Try.prog 28 #[.slice none 0 0, .int .i64 n] w fun e w' => ∃ v, e = .returned v ∧ OwC w' w.heap.size v [] ∧ Below w.heap.size w w' := by
  by_cases h0 : n = 0
  · subst h0
    go_enter Try.func28, Try.ntmps28
    go_wp2
    go_ret
    exact ⟨_, rfl, Ow.nil _ _ _ _ _, Below.refl _ _⟩
  · obtain ⟨i0, hi, hz0, hz1, hz2⟩ := rr.info_parts com_info
    have HZ := Lib.hid (zeros_row Try.prog coms_slice int_under hi hz0 hz1 rfl (by omega) (by rw [hz2]; omega) w)
    have h1 : (0 : Int) < (n : Int) := by omega
    have h2 : IntKind.i64.wrap (n : Int) = n := by rw [IntKind.wrap_i64]; omega
    have h3 : (n : Int) ≤ 10000 := by omega
    have HN := Lib.hid (show 0 < n by omega)
    clear hi hz0 hz1 hz2 h0
    go_enter Try.func28, Try.ntmps28
    go_upto_region 5 with (fail)
    obtain ⟨cap, W, hr, hc1, hc2, hown, hb⟩ := HZ.out 22 n HN.out hm
    have hc3 : (n : Int) ≤ (cap : Int) := by omega
    have hc4 : (0 : Int) ≤ (cap : Int) := by omega
    have HO := Lib.hid (hown w.heap.size (Nat.le_refl _))
    have HB := Lib.hid hb
    have HR := Lib.hid hr
    clear hown hb hr HZ
    go_wp2_with (at_builtin; refine Lib.wpList_append_run _ rfl _ _ _ _ rfl _ _ rfl rfl _ _ HR.out ?_)
    go_ret
    exact ⟨_, rfl, HO.out, HB.out⟩
/-- two slices in a block -/
def Two (w : World) (g : Nat) (A : Option Addr) (n cap : Nat) (A' : Option Addr) (m cap' : Nat) : Prop := w.cell? ⟨g, 0, none⟩ = some (.slice A n cap) ∧ w.cell? ⟨g, 1, none⟩ = some (.slice A' m cap')
def sumTo (n m j : Nat) : Int := if j = 0 then 0 else if j = 1 then n else n + m
def catTo (N W : List C) (j : Nat) : List C := if j = 0 then [] else if j = 1 then N else N ++ W
set_option maxHeartbeats 2000000 in
theorem concat_any (N W : List C) {A A' : Option Addr} {n cap m cap' g B : Nat} {w : World} (h : RdC w B A n cap N) (h2 : RdC w B A' m cap' W) (hB : B ≤ w.heap.size) (hg : g < w.heap.size) (ht : Two w g A n cap A' m cap') (hn : n ≤ 1000) (hm : m ≤ 1000) :
    Calls Try.prog 26 #[.slice (some ⟨g, 0, none⟩) 2 2] w fun e w' => ∃ v, e = .returned v ∧ OwC w' w.heap.size v (N ++ W) ∧ Below w.heap.size w w' := by
  have HL := Lib.hid (show N.length ≤ 1000 ∧ W.length ≤ 1000 from ⟨by rw [h.1]; exact hn, by rw [h2.1]; exact hm⟩)
  have HR1 := Lib.hid h
  have HR2 := Lib.hid h2
  have HBB := Lib.hid hB
  have HT := Lib.hid ht
  have hn1 : (n : Int) ≤ 1000 := by omega
  have hm1 : (m : Int) ≤ 1000 := by omega
  have HG := Lib.hid hg
  have HGN := Lib.hid fun W => grow_nil (n + m) (by omega) W
  clear h h2 hB ht hn hm
  go_enter Try.func26, Try.ntmps26
  go_wp2
  go_loopw [3, 5, 11] (fun s _ i wr => ∃ j : Nat, j ≤ 2 ∧ i = .int .i64 j ∧ s = .int .i64 (sumTo n m j) ∧ Below w.heap.size w wr) (fun _ _ i _ => 2 - (intOf i).toNat)
  case atStart => exact ⟨0, by omega, rfl, rfl, Below.refl _ _⟩
  case round =>
    obtain ⟨j, hj, rfl, rfl, hb⟩ := hrel
    have HB := Lib.hid hb
    have ⟨t0, t1⟩ := HT.out
    have c0 := (hb.cell (p := ⟨g, 0, none⟩) hg).trans t0
    have c1 := (hb.cell (p := ⟨g, 1, none⟩) hg).trans t1
    clear t0 t1 hb
    have h3 : j = 0 ∨ j = 1 ∨ j = 2 := by omega
    rcases h3 with rfl | rfl | rfl
    · rw [show sumTo n m 0 = 0 from rfl]
      have i0 : IntKind.i64.wrap (0 + (n : Int)) = n := by rw [IntKind.wrap_i64]; omega
      go_wp2
      go_roundw
      case rel => exact ⟨1, by omega, by go_num, by first | rfl | (simp [sumTo]), HB.out⟩
      case measure => simp [intOf]
    · rw [show sumTo n m 1 = n from rfl]
      have i0 : IntKind.i64.wrap ((n : Int) + (m : Int)) = n + m := by rw [IntKind.wrap_i64]; omega
      have i1 : (0 : Int) ≤ (n : Int) + (m : Int) := by omega
      go_wp2
      go_roundw
      case rel => exact ⟨2, by omega, by go_num, by first | rfl | (simp [sumTo]), HB.out⟩
      case measure => simp [intOf]
    · rw [show sumTo n m 2 = ((n + m : Nat) : Int) from by simp [sumTo]]
      go_wp2_with (go_at_call 28; fail)
      refine (HGN.out _).mono ?_
      rintro e w1 ⟨v1, rfl, ho, hb1⟩
      obtain ⟨A1, n1, q1, rfl⟩ := ow_form ho
      have O1 := Lib.hid (ho.base HB.out.size)
      have B1 := Lib.hid (HB.out.trans (hb1.mono HB.out.size))
      clear ho hb1 HB HGN c0 c1
      go_wp2
      go_loopw [6, 8, 27] (fun v _ i wr => ∃ j : Nat, j ≤ 2 ∧ i = .int .i64 j ∧ OwC wr w.heap.size v (catTo N W j) ∧ Below w.heap.size w wr) (fun _ _ i _ => 2 - (intOf i).toNat)
      case atStart => exact ⟨0, by omega, rfl, O1.out, B1.out⟩
      case round =>
        clear O1 B1
        obtain ⟨j, hj, rfl, ho, hb⟩ := hrel
        obtain ⟨A2, n2, q2, rfl⟩ := ow_form ho
        have HO := Lib.hid ho
        have HB := Lib.hid hb
        have R1 := Lib.hid (HR1.out.below (hb.mono HBB.out))
        have R2 := Lib.hid (HR2.out.below (hb.mono HBB.out))
        have ⟨t0, t1⟩ := HT.out
        have c0 := (hb.cell (p := ⟨g, 0, none⟩) hg).trans t0
        have c1 := (hb.cell (p := ⟨g, 1, none⟩) hg).trans t1
        clear t0 t1 hb ho
        have h3 : j = 0 ∨ j = 1 ∨ j = 2 := by omega
        rcases h3 with rfl | rfl | rfl
        · go_wp2_with (at_builtin; refine wpList_append_row cC_len (by omega) cC_one coms_slice com_info rfl (by omega) _ rfl (.tmp 31) (.tmp 32) rfl w.heap.size _ [] rfl HO.out B A n cap N rfl R1.out (by have := HL.out.1; simp; omega) HB.out.size ?_; intro v3 w3 hown hg3 hat; have O3 := Lib.hid hown; have B3 := Lib.hid (HO.out.lays HB.out (Nat.le_refl _) (Nat.le_refl _) hg3); clear hown hg3 hat)
          go_roundw
          case rel => exact ⟨1, by omega, by go_num, O3.out, B3.out⟩
          case measure => simp [intOf]
        · go_wp2_with (at_builtin; refine wpList_append_row cC_len (by omega) cC_one coms_slice com_info rfl (by omega) _ rfl (.tmp 31) (.tmp 32) rfl w.heap.size _ N rfl HO.out B A' m cap' W rfl R2.out (by have := HL.out; omega) HB.out.size ?_; intro v3 w3 hown hg3 hat; have O3 := Lib.hid hown; have B3 := Lib.hid (HO.out.lays HB.out (Nat.le_refl _) (Nat.le_refl _) hg3); clear hown hg3 hat)
          go_roundw
          case rel => exact ⟨2, by omega, by go_num, O3.out, B3.out⟩
          case measure => simp [intOf]
        · go_wp2
          go_ret
          exact ⟨_, rfl, HO.out, HB.out⟩
end Go.Proofs.Ytnghifbkiipigaa.ln
