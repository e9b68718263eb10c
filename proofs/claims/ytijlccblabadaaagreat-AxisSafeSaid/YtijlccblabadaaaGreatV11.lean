/- What axis.alone and rightMoves' two functions answer; what slices.ContainsFunc answers of these; what was in memory is as it was. No condition beyond what each line says. What axis.rightMoves and rightLine answer; what was in memory is as it was. No condition beyond what each line says. What axis.rightWindow answers; what was in memory is as it was. No condition beyond what each line says. -/
import Derived.Test.YtijlccblabadaaaGreatV08
import Derived.Test.YtijlccblabadaaaGreatU02
import Derived.Test.YtijlccblabadaaaGreatV04
import Derived.Shelf.Abstract
import Derived.Test.YtijlccblabadaaaGreatV03
section
namespace Go.Proofs.YtijlccblabadaaaGreat.cx
open Go.ChangeShapes Go.WideShapes Go.ChangeAt Go.RowKit Go.Proofs.YtijlccblabadaaaGreat.k Go.Proofs.YtijlccblabadaaaGreat.rr Go.Proofs.YtijlccblabadaaaGreat.ax
open Go.Proofs.YtijlccblabadaaaGreat.ln (C RdC RdI iC cC cV lnV)
set_option linter.unusedVariables false
set_option maxRecDepth 100000
def aloneB (N W : List C) (q : Int) : Bool := match N, W with
 | [c], [] => decide (c.kind = q)
 | _, _ => false
theorem alone_no {N W : List C} {q : Int} (h : N.length ≠ 1 ∨ W.length ≠ 0) : aloneB N W q = false := by
 unfold aloneB
 split
 ·simp at h
 ·rfl
set_option maxHeartbeats 4000000 in
theorem alone_any (N W : List C) {A A' : Option Addr} {n cap m cap' B : Nat} {w : World} (h : RdC w B A n cap N) (h2 : RdC w B A' m cap' W) (hB : B ≤ w.heap.size) {q : Int} {b : Bool} (hb : aloneB N W q = b) :
  Calls Tryz.prog 58 #[lnV A n cap A' m cap', .int .i64 q] w fun e w' => e = .returned (.bool b) ∧ Below w.heap.size w w' := by
 obtain ⟨x1, x2, x3⟩ := k.boxes1 (w := w) (c1 := #[.slice A n cap, .slice A' m cap']) (t1 := 31) (Below.refl _ _)
 have HB := lh x2
 have HV := lh hb
 have fin : ∀ {y : Bool}, aloneB N W q = y → Ending.returned (.bool y) = .returned (.bool b) := fun h => by rw [← HV.out, h]
 have hln := h.1
 have hlm := h2.1
 have H := lh (h.below (x2.mono hB))
 have X := lh x1
 clear x1 x2 hb h2
 by_cases h1 : n = 1
 ·have b1 : ((n : Int) == 1) = true := by rw [h1]; rfl
  by_cases h0 : m = 0
  ·have b0 : ((m : Int) == 0) = true := by rw [h0]; rfl
   obtain ⟨bb, off, c, rfl, hbb, hx, hr⟩ := h.at (i := 0) (by omega)
   have e : N = [c] := by
    rcases N with _ | ⟨y, _ | ⟨z, t⟩⟩
    ·simp at hln; omega
    ·simp at hx; rw [hx]
    ·simp at hln; omega
   have e2 : W = [] := List.eq_nil_of_length_eq_zero (by omega)
   have hv : aloneB N W q = decide (c.kind = q) := by rw [e, e2]; rfl
   rw [Nat.zero_mul, Nat.add_zero] at hr
   have hn0 : (0 : Int) < (n : Int) := by omega
   by_cases hk : c.kind = q
   ·have bk : (c.kind == q) = true := by rw [hk]; simp
    have HF := lh (fin (hv.trans (decide_eq_true hk)))
    have hr2 := lh (range_below hr (HB.out.mono hB) hbb)
    clear h fin HV hv e e2 hx hr hk hln hlm h1 h0 H
    go_enter Tryz.func58, Tryz.ntmps58
    go_upto_region 1 with fail
    generalize w.alloc (.cells #[.slice (some ⟨bb, off, none⟩) n cap, .slice A' m cap'] 31) = w2 at X HB x3 hr2 ⊢
    have ⟨d0, d0f⟩ := k.cell_of X.out (i := 0) rfl
    have ⟨d1, d1f⟩ := k.cell_of X.out (i := 1) rfl
    have c1 := hr2.out 1 _ rfl
    clear hr2
    go_wp2
    go_ret
    exact ⟨HF.out, HB.out⟩
   ·have bk : (c.kind == q) = false := by rw [beq_eq_false_iff_ne]; exact hk
    have HF := lh (fin (hv.trans (decide_eq_false hk)))
    have hr2 := lh (range_below hr (HB.out.mono hB) hbb)
    clear h fin HV hv e e2 hx hr hk hln hlm h1 h0 H
    go_enter Tryz.func58, Tryz.ntmps58
    go_upto_region 1 with fail
    generalize w.alloc (.cells #[.slice (some ⟨bb, off, none⟩) n cap, .slice A' m cap'] 31) = w2 at X HB x3 hr2 ⊢
    have ⟨d0, d0f⟩ := k.cell_of X.out (i := 0) rfl
    have ⟨d1, d1f⟩ := k.cell_of X.out (i := 1) rfl
    have c1 := hr2.out 1 _ rfl
    clear hr2
    go_wp2
    go_ret
    exact ⟨HF.out, HB.out⟩
  ·have b0 : ((m : Int) == 0) = false := by rw [beq_eq_false_iff_ne]; omega
   have HF := lh (fin (alone_no (.inr (by omega))))
   clear h fin HV hln hlm h1 h0
   go_enter Tryz.func58, Tryz.ntmps58
   go_upto_region 1 with fail
   generalize w.alloc (.cells #[.slice A n cap, .slice A' m cap'] 31) = w2 at X HB H x3 ⊢
   have ⟨d0, d0f⟩ := k.cell_of X.out (i := 0) rfl
   have ⟨d1, d1f⟩ := k.cell_of X.out (i := 1) rfl
   go_wp2
   go_ret
   exact ⟨HF.out, HB.out⟩
 ·have b1 : ((n : Int) == 1) = false := by rw [beq_eq_false_iff_ne]; omega
  have HF := lh (fin (alone_no (.inl (by omega))))
  clear h fin HV hln hlm h1
  go_enter Tryz.func58, Tryz.ntmps58
  go_upto_region 1 with fail
  generalize w.alloc (.cells #[.slice A n cap, .slice A' m cap'] 31) = w2 at X HB H x3 ⊢
  have ⟨d0, d0f⟩ := k.cell_of X.out (i := 0) rfl
  have ⟨d1, d1f⟩ := k.cell_of X.out (i := 1) rfl
  go_wp2
  go_ret
  exact ⟨HF.out, HB.out⟩
def wrongB (a : Ax) (c : C) : Bool := !(decide (c.kind = 1) && decide (1 ≤ c.spd ∧ c.spd ≤ a.l.V) && inB a c.tgt)
def abB (c : C) : Bool := decide (c.mode = 0)
set_option maxHeartbeats 4000000 in
theorem wrong_any (a : Ax) {S N W : Sl} {v : Nat} {w : World} (hb : k.Box w v 0 (axC a S N W)) (c : C) {t : Bool} (ht : wrongB a c = t) :
  Calls Tryz.prog 85 #[cV c, .pointer (some ⟨v, 0, none⟩)] w fun e w' => e = .returned (.bool t) ∧ Below w.heap.size w w' := by
 have hv := k.lt_of_cell hb.1
 obtain ⟨x1, x2, x3⟩ := k.boxes1 (w := w) (c1 := cA c) (t1 := 62) (Below.refl _ _)
 have X : Hid (k.Box _ w.heap.size 0 (cC c)) := lh x1
 have HB := lh x2
 have HA := lh (hb.below x2 hv)
 have HV := lh ht
 have fin : ∀ {y : Bool}, wrongB a c = y → Ending.returned (.bool y) = .returned (.bool t) := fun h => by rw [← HV.out, h]
 obtain ⟨wi, hwi⟩ : ∃ z, decide (1 ≤ c.spd ∧ c.spd ≤ a.l.V) = z := ⟨_, rfl⟩
 obtain ⟨ib, hib⟩ : ∃ z, inB a c.tgt = z := ⟨_, rfl⟩
 have CW := lh fun V => w64_any hwi V
 have CI := lh fun V => isplace_any a S N W hib V
 have HW := lh hwi
 have HI := lh hib
 clear ht hb x1 x2 hwi hib
 by_cases h1 : c.kind = 1
 ·have b1 : (c.kind != 1) = false := by rw [h1]; rfl
  cases wi
  ·skip
   have HF := lh (fin (show wrongB a c = true from by unfold wrongB; rw [HW.out, decide_eq_true h1]; rfl))
   clear fin HV HW HI
   (try clear h1)
   unfold cV
   go_enter Tryz.func85, Tryz.ntmps85
   go_upto_region 1 with fail
   generalize w.alloc (.cells (cA c) 62) = w2 at X HB HA x3 ⊢
   have ⟨c1, c1f⟩ := k.cell_of X.out (i := 1) rfl
   have ⟨c2, c2f⟩ := k.cell_of X.out (i := 2) rfl
   have ⟨c3, c3f⟩ := k.cell_of X.out (i := 3) rfl
   have ⟨d1, d1f⟩ := k.cell_of HA.out (i := 1) rfl
   go_wp2_with (first | (go_at_call 50; ((with_reducible refine (CW.out _).mono ?_); rintro e w4 ⟨rfl, rfl⟩)))
   go_ret
   exact ⟨HF.out, HB.out⟩
  ·cases ib
   ·skip
    have HF := lh (fin (show wrongB a c = true from by unfold wrongB; rw [HW.out, HI.out, decide_eq_true h1]; rfl))
    clear fin HV HW HI
    (try clear h1)
    unfold cV
    go_enter Tryz.func85, Tryz.ntmps85
    go_upto_region 1 with fail
    generalize w.alloc (.cells (cA c) 62) = w2 at X HB HA x3 ⊢
    have ⟨c1, c1f⟩ := k.cell_of X.out (i := 1) rfl
    have ⟨c2, c2f⟩ := k.cell_of X.out (i := 2) rfl
    have ⟨c3, c3f⟩ := k.cell_of X.out (i := 3) rfl
    have ⟨d1, d1f⟩ := k.cell_of HA.out (i := 1) rfl
    go_wp2_with (first | (go_at_call 50; ((with_reducible refine (CW.out _).mono ?_); rintro e w4 ⟨rfl, rfl⟩)) | ((with_reducible refine m_ax_load HA.out 1 ?_ ?_ ?_ ?_); rfl; rfl; rfl; (try simp only [Act.put])) | (go_at_call 86; ((with_reducible refine (CI.out _).mono ?_); rintro e w5 ⟨rfl, hb⟩; have HB := lh (HB.out.trans (hb.mono HB.out.size)); clear hb)))
    go_ret
    exact ⟨HF.out, HB.out⟩
   ·skip
    have HF := lh (fin (show wrongB a c = false from by unfold wrongB; rw [HW.out, HI.out, decide_eq_true h1]; rfl))
    clear fin HV HW HI
    (try clear h1)
    unfold cV
    go_enter Tryz.func85, Tryz.ntmps85
    go_upto_region 1 with fail
    generalize w.alloc (.cells (cA c) 62) = w2 at X HB HA x3 ⊢
    have ⟨c1, c1f⟩ := k.cell_of X.out (i := 1) rfl
    have ⟨c2, c2f⟩ := k.cell_of X.out (i := 2) rfl
    have ⟨c3, c3f⟩ := k.cell_of X.out (i := 3) rfl
    have ⟨d1, d1f⟩ := k.cell_of HA.out (i := 1) rfl
    go_wp2_with (first | (go_at_call 50; ((with_reducible refine (CW.out _).mono ?_); rintro e w4 ⟨rfl, rfl⟩)) | ((with_reducible refine m_ax_load HA.out 1 ?_ ?_ ?_ ?_); rfl; rfl; rfl; (try simp only [Act.put])) | (go_at_call 86; ((with_reducible refine (CI.out _).mono ?_); rintro e w5 ⟨rfl, hb⟩; have HB := lh (HB.out.trans (hb.mono HB.out.size)); clear hb)))
    go_ret
    exact ⟨HF.out, HB.out⟩
 ·have b1 : (c.kind != 1) = true := by rw [bne_iff_ne]; exact h1
  have HF := lh (fin (show wrongB a c = true from by unfold wrongB; rw [decide_eq_false h1]; rfl))
  clear fin HV HW HI
  (try clear h1)
  unfold cV
  go_enter Tryz.func85, Tryz.ntmps85
  go_upto_region 1 with fail
  generalize w.alloc (.cells (cA c) 62) = w2 at X HB HA x3 ⊢
  have ⟨c1, c1f⟩ := k.cell_of X.out (i := 1) rfl
  have ⟨c2, c2f⟩ := k.cell_of X.out (i := 2) rfl
  have ⟨c3, c3f⟩ := k.cell_of X.out (i := 3) rfl
  have ⟨d1, d1f⟩ := k.cell_of HA.out (i := 1) rfl
  go_wp2
  go_ret
  exact ⟨HF.out, HB.out⟩
theorem aborts_any (c : C) (w : World) :
  Calls Tryz.prog 87 #[cV c] w fun e w' => e = .returned (.bool (abB c)) ∧ Below w.heap.size w w' := by
 obtain ⟨x1, x2, x3⟩ := k.boxes1 (w := w) (c1 := cA c) (t1 := 62) (Below.refl _ _)
 have X : Hid (k.Box _ w.heap.size 0 (cC c)) := lh x1
 have HB := lh x2
 clear x1 x2
 unfold cV
 go_enter Tryz.func87, Tryz.ntmps87
 go_upto_region 1 with fail
 generalize w.alloc (.cells (cA c) 62) = w2 at X HB x3 ⊢
 have ⟨c4, c4f⟩ := k.cell_of X.out (i := 4) rfl
 go_wp2
 go_ret
 exact ⟨ret_bool (by unfold abB; rfl), HB.out⟩
set_option maxHeartbeats 2000000 in
theorem index_wrong (L : List C) (a : Ax) {S N W : Sl} {v : Nat} {A : Option Addr} {n cap B : Nat} {w : World} (hbx : k.Box w v 0 (axC a S N W)) (h : RdC w B A n cap L) (hB : B ≤ w.heap.size) :
  Calls Tryz.prog 84 #[.slice A n cap, (.func (.func 85) #[] #[.pointer (some ⟨v, 0, none⟩)])] w fun e w' => (∃ r : Int, e = .returned (.int .i64 r) ∧ ((0 ≤ r ∧ L.any (wrongB a) = true) ∨ (r = -1 ∧ L.any (wrongB a) = false))) ∧ Below w.heap.size w w' := by
 have hlen := h.len_le
 have HL := lh h.1
 have HR := lh h
 have HBB := lh hB
 have HC := lh fun (x : C) (W : World) (hbW : Below w.heap.size w W) => wrong_any a (hbx.below hbW (k.lt_of_cell hbx.1)) x rfl
 clear h hB hbx
 go_enter Tryz.func84, Tryz.ntmps84
 go_wp2
 go_loopw [5, 8] (fun _ i wr => ∃ j : Nat, j ≤ n ∧ i = .int .i64 j ∧ (∀ q x, q < j → L[q]? = some x → (wrongB a) x = false) ∧ Below w.heap.size w wr) (fun _ i _ => n - (intOf i).toNat)
 case atStart => exact ⟨0, Nat.zero_le _, rfl, fun q x hq => absurd hq (by omega), Below.refl _ _⟩
 case round =>
  obtain ⟨j, hj, rfl, hT, hb⟩ := hrel
  have HT := lh hT
  have HBW := lh hb
  clear hT
  by_cases hlt : j < n
  ·obtain ⟨b, o, x, rfl, hb', hx, hr⟩ := (HR.out.below (hb.mono HBB.out)).at hlt
   obtain ⟨g0, g1, g2, g3, g4, g5, g6⟩ := ln.cells_com hr
   have hj0 : (0 : Int) ≤ (j : Int) := by omega
   have hj1 : (j : Int) < (n : Int) := by omega
   have HX := lh hx
   have HN := lh (fun hq : (wrongB a) x = true => List.any_eq_true.2 ⟨x, List.mem_of_getElem? hx, hq⟩)
   have HCC := HC.out x wr HBW.out
   unfold cV at HCC
   clear hr hx hb hb'
   cases hq : (wrongB a) x with
   | true =>
    rw [hq] at HCC
    replace HCC := lh HCC
    have HA := lh (HN.out hq)
    clear hq
    go_wp2_with ((first | go_at_call 85 | go_at_fn 85); ((with_reducible refine HCC.out.mono ?_); rintro e w1 ⟨rfl, hb1⟩; have HB1 := lh hb1; clear hb1))
    go_ret
    exact ⟨⟨_, rfl, .inl ⟨hj0, HA.out⟩⟩, HBW.out.trans (HB1.out.mono HBW.out.size)⟩
   | false =>
    rw [hq] at HCC
    replace HCC := lh HCC
    have HQ := lh hq
    clear hq
    go_wp2_with ((first | go_at_call 85 | go_at_fn 85); ((with_reducible refine HCC.out.mono ?_); rintro e w1 ⟨rfl, hb1⟩; have HB1 := lh hb1; clear hb1))
    go_roundw
    case rel =>
     refine ⟨j + 1, by omega, by go_num, fun q y hq hy => ?_, HBW.out.trans (HB1.out.mono HBW.out.size)⟩
     by_cases e : q = j
     ·subst e
      have := ln.rows_same hy HX.out
      subst this
      exact HQ.out
     ·exact HT.out q y (by omega) hy
    case measure => simp [intOf]; omega
  ·have hjl : j = n := by omega
   subst hjl
   have HA : Hid (L.any (wrongB a) = false) := lh (by
    rw [List.any_eq_false]
    intro x hx
    obtain ⟨q, hq, hq2⟩ := List.mem_iff_getElem.1 hx
    have := HT.out q x (by rw [← HL.out]; exact hq) (by rw [List.getElem?_eq_getElem hq, hq2])
    rw [this]; simp)
   clear hb
   go_wp2
   go_ret
   exact ⟨⟨_, rfl, .inr ⟨rfl, HA.out⟩⟩, HBW.out⟩
set_option maxHeartbeats 2000000 in
theorem contains_wrong (L : List C) (a : Ax) {S N W : Sl} {v : Nat} {A : Option Addr} {n cap B : Nat} {w : World} (hbx : k.Box w v 0 (axC a S N W)) (h : RdC w B A n cap L) (hB : B ≤ w.heap.size) :
  Calls Tryz.prog 56 #[.slice A n cap, (.func (.func 85) #[] #[.pointer (some ⟨v, 0, none⟩)])] w fun e w' => e = .returned (.bool (L.any (wrongB a))) ∧ Below w.heap.size w w' := by
 have HC := lh (index_wrong L a hbx h hB)
 clear h hB hbx
 go_enter Tryz.func56, Tryz.ntmps56
 go_wp2_with (go_at_call 84; fail)
 refine HC.out.mono ?_
 rintro e w1 ⟨⟨r, rfl, hr⟩, hb⟩
 have HBW := lh hb
 clear hb HC
 rcases hr with ⟨hr, ha⟩ | ⟨rfl, ha⟩
 ·have HA := lh ha
  clear ha
  go_wp2
  go_ret
  exact ⟨ret_bool HA.out.symm, HBW.out⟩
 ·have HA := lh ha
  clear ha
  go_wp2
  go_ret
  exact ⟨ret_bool HA.out.symm, HBW.out⟩
set_option maxHeartbeats 2000000 in
theorem index_abort (L : List C)  {A : Option Addr} {n cap B : Nat} {w : World} (h : RdC w B A n cap L) (hB : B ≤ w.heap.size) :
  Calls Tryz.prog 84 #[.slice A n cap, (.func (.func 87) #[] #[])] w fun e w' => (∃ r : Int, e = .returned (.int .i64 r) ∧ ((0 ≤ r ∧ L.any abB = true) ∨ (r = -1 ∧ L.any abB = false))) ∧ Below w.heap.size w w' := by
 have hlen := h.len_le
 have HL := lh h.1
 have HR := lh h
 have HBB := lh hB
 have HC := lh fun (x : C) (W : World) (hbW : Below w.heap.size w W) => aborts_any x W
 clear h hB
 go_enter Tryz.func84, Tryz.ntmps84
 go_wp2
 go_loopw [5, 8] (fun _ i wr => ∃ j : Nat, j ≤ n ∧ i = .int .i64 j ∧ (∀ q x, q < j → L[q]? = some x → abB x = false) ∧ Below w.heap.size w wr) (fun _ i _ => n - (intOf i).toNat)
 case atStart => exact ⟨0, Nat.zero_le _, rfl, fun q x hq => absurd hq (by omega), Below.refl _ _⟩
 case round =>
  obtain ⟨j, hj, rfl, hT, hb⟩ := hrel
  have HT := lh hT
  have HBW := lh hb
  clear hT
  by_cases hlt : j < n
  ·obtain ⟨b, o, x, rfl, hb', hx, hr⟩ := (HR.out.below (hb.mono HBB.out)).at hlt
   obtain ⟨g0, g1, g2, g3, g4, g5, g6⟩ := ln.cells_com hr
   have hj0 : (0 : Int) ≤ (j : Int) := by omega
   have hj1 : (j : Int) < (n : Int) := by omega
   have HX := lh hx
   have HN := lh (fun hq : abB x = true => List.any_eq_true.2 ⟨x, List.mem_of_getElem? hx, hq⟩)
   have HCC := HC.out x wr HBW.out
   unfold cV at HCC
   clear hr hx hb hb'
   cases hq : abB x with
   | true =>
    rw [hq] at HCC
    replace HCC := lh HCC
    have HA := lh (HN.out hq)
    clear hq
    go_wp2_with ((first | go_at_call 87 | go_at_fn 87); ((with_reducible refine HCC.out.mono ?_); rintro e w1 ⟨rfl, hb1⟩; have HB1 := lh hb1; clear hb1))
    go_ret
    exact ⟨⟨_, rfl, .inl ⟨hj0, HA.out⟩⟩, HBW.out.trans (HB1.out.mono HBW.out.size)⟩
   | false =>
    rw [hq] at HCC
    replace HCC := lh HCC
    have HQ := lh hq
    clear hq
    go_wp2_with ((first | go_at_call 87 | go_at_fn 87); ((with_reducible refine HCC.out.mono ?_); rintro e w1 ⟨rfl, hb1⟩; have HB1 := lh hb1; clear hb1))
    go_roundw
    case rel =>
     refine ⟨j + 1, by omega, by go_num, fun q y hq hy => ?_, HBW.out.trans (HB1.out.mono HBW.out.size)⟩
     by_cases e : q = j
     ·subst e
      have := ln.rows_same hy HX.out
      subst this
      exact HQ.out
     ·exact HT.out q y (by omega) hy
    case measure => simp [intOf]; omega
  ·have hjl : j = n := by omega
   subst hjl
   have HA : Hid (L.any abB = false) := lh (by
    rw [List.any_eq_false]
    intro x hx
    obtain ⟨q, hq, hq2⟩ := List.mem_iff_getElem.1 hx
    have := HT.out q x (by rw [← HL.out]; exact hq) (by rw [List.getElem?_eq_getElem hq, hq2])
    rw [this]; simp)
   clear hb
   go_wp2
   go_ret
   exact ⟨⟨_, rfl, .inr ⟨rfl, HA.out⟩⟩, HBW.out⟩
set_option maxHeartbeats 2000000 in
theorem contains_abort (L : List C)  {A : Option Addr} {n cap B : Nat} {w : World} (h : RdC w B A n cap L) (hB : B ≤ w.heap.size) :
  Calls Tryz.prog 56 #[.slice A n cap, (.func (.func 87) #[] #[])] w fun e w' => e = .returned (.bool (L.any abB)) ∧ Below w.heap.size w w' := by
 have HC := lh (index_abort L  h hB)
 clear h hB
 go_enter Tryz.func56, Tryz.ntmps56
 go_wp2_with (go_at_call 84; fail)
 refine HC.out.mono ?_
 rintro e w1 ⟨⟨r, rfl, hr⟩, hb⟩
 have HBW := lh hb
 clear hb HC
 rcases hr with ⟨hr, ha⟩ | ⟨rfl, ha⟩
 ·have HA := lh ha
  clear ha
  go_wp2
  go_ret
  exact ⟨ret_bool HA.out.symm, HBW.out⟩
 ·have HA := lh ha
  clear ha
  go_wp2
  go_ret
  exact ⟨ret_bool HA.out.symm, HBW.out⟩
end Go.Proofs.YtijlccblabadaaaGreat.cx
end
section
namespace Go.Proofs.YtijlccblabadaaaGreat.cx
open Go.ChangeShapes Go.WideShapes Go.ChangeAt Go.RowKit Go.Proofs.YtijlccblabadaaaGreat.k Go.Proofs.YtijlccblabadaaaGreat.rr Go.Proofs.YtijlccblabadaaaGreat.ax
open Go.Proofs.YtijlccblabadaaaGreat.ln (C RdC RdI iC cC cV lnV)
set_option linter.unusedVariables false
set_option maxRecDepth 100000
def movesB (a : Ax) : Bool := decide (a.N.length = 1) && !a.N.any (wrongB a) && !a.W.any (wrongB a) && !a.W.any abB
def lineB (a : Ax) : Bool := if a.st = 2 then aloneB a.N a.W 7 else if a.st = 3 then (a.N.isEmpty || aloneB a.N a.W 6) else if a.st = 4 then (aloneB a.N a.W 5 || movesB a) else if a.st = 5 then (aloneB a.N a.W 4 && (match a.N with | c :: _ => velB a c.spd | [] => false)) else if a.st = 6 then (aloneB a.N a.W 8 && (match a.N with | c :: _ => decide (0 < c.den) | [] => false)) else a.N.isEmpty
theorem alone_iff {N W : List C} {q : Int} : aloneB N W q = true ↔ ∃ c, N = [c] ∧ W = [] ∧ c.kind = q := by
 unfold aloneB
 split
 ·rw [decide_eq_true_eq]
  constructor
  ·intro h; exact ⟨_, rfl, rfl, h⟩
  ·rintro ⟨c, h1, _, h3⟩
   injection h1 with h1 _
   rw [h1]; exact h3
 ·rename_i hn
  constructor
  ·intro h; cases h
  ·rintro ⟨c, h1, h2, _⟩
   exact absurd h2 (hn c h1)
theorem wrong_iff {a : Ax} {c : C} : wrongB a c = false ↔ MoveP a c := by
 unfold wrongB inB MoveP
 rw [Bool.not_eq_false', Bool.and_eq_true, Bool.and_eq_true, decide_eq_true_eq, decide_eq_true_eq, decide_eq_true_eq]
 constructor
 ·rintro ⟨⟨h1, h2, h3⟩, h4, h5⟩; exact ⟨h1, h2, h3, h4, h5⟩
 ·rintro ⟨h1, h2, h3, h4, h5⟩; exact ⟨⟨h1, h2, h3⟩, h4, h5⟩
theorem moves_iff {a : Ax} (hl : ln.RightL a.N a.W) : movesB a = true ↔ ∃ c, a.N = [c] ∧ MoveP a c ∧ ∀ x ∈ a.W, MoveP a x ∧ 1 ≤ x.mode := by
 unfold movesB
 rw [Bool.and_eq_true, Bool.and_eq_true, Bool.and_eq_true, decide_eq_true_eq, Bool.not_eq_true', Bool.not_eq_true', Bool.not_eq_true', List.any_eq_false, List.any_eq_false, List.any_eq_false]
 constructor
 ·rintro ⟨⟨⟨h1, h2⟩, h3⟩, h4⟩
  obtain ⟨c, hc⟩ := List.length_eq_one_iff.1 h1
  refine ⟨c, hc, wrong_iff.1 (by have := h2 c (by rw [hc]; simp); simpa using this), fun x hx => ⟨wrong_iff.1 (by have := h3 x hx; simpa using this), ?_⟩⟩
  have h5 := h4 x hx
  have h6 := (hl.1 x (List.mem_append_right _ hx)).1
  unfold abB at h5
  rw [decide_eq_true_eq] at h5
  omega
 ·rintro ⟨c, hc, h1, h2⟩
  refine ⟨⟨⟨by rw [hc]; rfl, fun x hx => ?_⟩, fun x hx => ?_⟩, fun x hx => ?_⟩
  ·rw [hc] at hx
   have e : x = c := by simpa using hx
   rw [e, wrong_iff.2 h1]; simp
  ·rw [wrong_iff.2 (h2 x hx).1]; simp
  ·have := (h2 x hx).2
   unfold abB
   rw [decide_eq_true_eq]
   omega
theorem lined_iff {a : Ax} (hl : ln.RightL a.N a.W) (h0 : 0 ≤ a.st) (h7 : a.st ≤ 7) (hV : 1 ≤ a.l.V) : lineB a = true ↔ LinedP a := by
 have hv : ∀ n, velB a n = true ↔ n ≠ 0 ∧ n ≤ a.l.V ∧ -a.l.V ≤ n := fun n => by unfold velB; rw [decide_eq_true_eq]; omega
 unfold lineB LinedP
 cases hN : a.N with
 | nil =>
  have hW : a.W = [] := by
   rcases hl.2.2.2 with h | h
   ·rw [hN] at h; cases h
   ·exact List.eq_nil_of_length_eq_zero h
  have hm : movesB a = false := by
   cases h : movesB a
   ·rfl
   ·obtain ⟨c, hc, _⟩ := (moves_iff hl).1 h; rw [hN] at hc; cases hc
  have ha : ∀ q, aloneB [] a.W q = false := fun q => rfl
  rw [hm, ha, ha, ha, ha, ha]
  dsimp only
  by_cases g2 : a.st = 2
  ·rw [if_pos g2]; simp; intro _; omega
  rw [if_neg g2]
  by_cases g3 : a.st = 3
  ·rw [if_pos g3]; simp; exact ⟨hW, by omega⟩
  rw [if_neg g3]
  by_cases g4 : a.st = 4
  ·rw [if_pos g4]; simp; intro _; omega
  rw [if_neg g4]
  by_cases g5 : a.st = 5
  ·rw [if_pos g5]; simp; intro _; omega
  rw [if_neg g5]
  by_cases g6 : a.st = 6
  ·rw [if_pos g6]; simp; intro _; omega
  rw [if_neg g6]
  simp
  exact ⟨hW, by omega⟩
 | cons c t =>
  have ht : t = [] := one_of hl hN
  subst ht
  have ha : ∀ q, aloneB [c] a.W q = true ↔ a.W = [] ∧ c.kind = q := fun q => by
   rw [alone_iff]
   constructor
   ·rintro ⟨d, e, h1, h2⟩
    injection e with e _
    rw [e]; exact ⟨h1, h2⟩
   ·rintro ⟨h1, h2⟩; exact ⟨c, rfl, h1, h2⟩
  have hmv : movesB a = true ↔ MoveP a c ∧ ∀ x ∈ a.W, MoveP a x ∧ 1 ≤ x.mode := by
   rw [moves_iff hl]
   constructor
   ·rintro ⟨d, e, h1, h2⟩
    rw [hN] at e
    injection e with e _
    rw [e]; exact ⟨h1, h2⟩
   ·rintro ⟨h1, h2⟩; exact ⟨c, hN, h1, h2⟩
  dsimp only
  by_cases g2 : a.st = 2
  ·rw [if_pos g2, ha]
   constructor
   ·intro h; exact .inl ⟨g2, h⟩
   ·rintro (h | h | h | h | h)
    ·exact h.2
    all_goals omega
  rw [if_neg g2]
  by_cases g3 : a.st = 3
  ·rw [if_pos g3, Bool.or_eq_true, ha]
   constructor
   ·rintro (h | h)
    ·cases h
    ·exact .inr (.inl ⟨g3, h⟩)
   ·rintro (h | h | h | h | h)
    ·omega
    ·exact .inr h.2
    all_goals omega
  rw [if_neg g3]
  by_cases g4 : a.st = 4
  ·rw [if_pos g4, Bool.or_eq_true, ha, hmv]
   constructor
   ·rintro (h | h)
    ·exact .inr (.inr (.inr (.inr ⟨g4, .inl ⟨h.2, h.1⟩⟩)))
    ·exact .inr (.inr (.inr (.inr ⟨g4, .inr h⟩)))
   ·rintro (h | h | h | h | h)
    ·omega
    ·omega
    ·omega
    ·omega
    ·rcases h.2 with h | h
     ·exact .inl ⟨h.2, h.1⟩
     ·exact .inr h
  rw [if_neg g4]
  by_cases g5 : a.st = 5
  ·rw [if_pos g5, Bool.and_eq_true, ha, hv]
   constructor
   ·rintro ⟨⟨h1, h2⟩, h3⟩; exact .inr (.inr (.inl ⟨g5, h1, h2, h3⟩))
   ·rintro (h | h | h | h | h)
    ·omega
    ·omega
    ·exact ⟨⟨h.2.1, h.2.2.1⟩, h.2.2.2⟩
    ·omega
    ·omega
  rw [if_neg g5]
  by_cases g6 : a.st = 6
  ·rw [if_pos g6, Bool.and_eq_true, ha, decide_eq_true_eq]
   constructor
   ·rintro ⟨⟨h1, h2⟩, h3⟩; exact .inr (.inr (.inr (.inl ⟨g6, h1, h2, h3⟩)))
   ·rintro (h | h | h | h | h)
    ·omega
    ·omega
    ·omega
    ·exact ⟨⟨h.2.1, h.2.2.1⟩, h.2.2.2⟩
    ·omega
  rw [if_neg g6]
  constructor
  ·intro h; cases h
  ·rintro (h | h | h | h | h) <;> omega
set_option maxHeartbeats 4000000 in
theorem moves_any (a : Ax) {S N W : Sl} {B : Nat} {w : World} (h : RdA w B a S N W) (hB : B ≤ w.heap.size) {b : Bool} (hb : movesB a = b) :
  Calls Tryz.prog 59 #[axV a S N W] w fun e w' => e = .returned (.bool b) ∧ Below w.heap.size w w' := by
 obtain ⟨p, hp⟩ : ∃ z, a.N.any (wrongB a) = z := ⟨_, rfl⟩
 obtain ⟨q, hq⟩ : ∃ z, a.W.any (wrongB a) = z := ⟨_, rfl⟩
 obtain ⟨r, hr⟩ : ∃ z, a.W.any abB = z := ⟨_, rfl⟩
 obtain ⟨x1, x2, x3⟩ := k.boxes1 (w := w) (c1 := axA a S N W) (t1 := 35) (Below.refl _ _)
 have X1 : Hid (k.Box _ w.heap.size 0 (axC a S N W)) := lh x1
 have HB := lh x2
 clear x1 x2
 have CN := fun (U : World) (hb : Below w.heap.size w U) (hx : k.Box U w.heap.size 0 (axC a S N W)) => contains_wrong a.N a hx (h.N.below (hb.mono hB)) (Nat.le_trans hB hb.size)
 have CW := fun (U : World) (hb : Below w.heap.size w U) (hx : k.Box U w.heap.size 0 (axC a S N W)) => contains_wrong a.W a hx (h.W.below (hb.mono hB)) (Nat.le_trans hB hb.size)
 have CA := fun (U : World) (hb : Below w.heap.size w U) => contains_abort a.W (h.W.below (hb.mono hB)) (Nat.le_trans hB hb.size)
 rw [hp] at CN
 rw [hq] at CW
 rw [hr] at CA
 have CN := lh CN
 have CW := lh CW
 have CA := lh CA
 have HV : Hid ((decide (a.N.length = 1) && !p && !q && !r) = b) := lh (by rw [← hb, movesB, hp, hq, hr])
 have hln := h.N.1
 clear hp hq hr hb h hB
 have fin : ∀ {y : Bool}, (decide (a.N.length = 1) && !p && !q && !r) = y → Ending.returned (.bool y) = .returned (.bool b) := fun h => by rw [← HV.out, h]
 by_cases h1 : a.N.length = 1
 ·have b1 : ((N.n : Int) == 1) = true := by rw [show N.n = 1 by omega]; rfl
  cases p
  ·cases q
   ·cases r
    ·skip
     have HF := lh (fin (show _ = true by rw [decide_eq_true h1]; rfl))
     clear fin HV hln h1
     go_enter Tryz.func59, Tryz.ntmps59
     go_upto_region 1 with fail
     generalize w.alloc (.cells (axA a S N W) 35) = w2 at X1 HB x3 ⊢
     have ⟨d14, d14f⟩ := k.cell_of X1.out (i := 14) rfl
     have ⟨d15, d15f⟩ := k.cell_of X1.out (i := 15) rfl
     go_wp2_with (first | (go_at_call 56; ((with_reducible refine (CA.out _ HB.out).mono ?_); rintro e w5 ⟨rfl, hb⟩; have HB := lh (HB.out.trans (hb.mono HB.out.size)); have X1 := lh (X1.out.below hb x3); have x3 := Nat.lt_of_lt_of_le x3 hb.size; clear hb d14 d14f d15 d15f; have ⟨d14, d14f⟩ := k.cell_of X1.out (i := 14) rfl; have ⟨d15, d15f⟩ := k.cell_of X1.out (i := 15) rfl)) | (go_at_call 56; ((with_reducible refine (CN.out _ HB.out X1.out).mono ?_); rintro e w5 ⟨rfl, hb⟩; have HB := lh (HB.out.trans (hb.mono HB.out.size)); have X1 := lh (X1.out.below hb x3); have x3 := Nat.lt_of_lt_of_le x3 hb.size; clear hb d14 d14f d15 d15f; have ⟨d14, d14f⟩ := k.cell_of X1.out (i := 14) rfl; have ⟨d15, d15f⟩ := k.cell_of X1.out (i := 15) rfl)) | (go_at_call 56; ((with_reducible refine (CW.out _ HB.out X1.out).mono ?_); rintro e w5 ⟨rfl, hb⟩; have HB := lh (HB.out.trans (hb.mono HB.out.size)); have X1 := lh (X1.out.below hb x3); have x3 := Nat.lt_of_lt_of_le x3 hb.size; clear hb d14 d14f d15 d15f; have ⟨d14, d14f⟩ := k.cell_of X1.out (i := 14) rfl; have ⟨d15, d15f⟩ := k.cell_of X1.out (i := 15) rfl)))
     go_ret
     exact ⟨HF.out, HB.out⟩
    ·skip
     have HF := lh (fin (show _ = false by rw [decide_eq_true h1]; rfl))
     clear fin HV hln h1
     go_enter Tryz.func59, Tryz.ntmps59
     go_upto_region 1 with fail
     generalize w.alloc (.cells (axA a S N W) 35) = w2 at X1 HB x3 ⊢
     have ⟨d14, d14f⟩ := k.cell_of X1.out (i := 14) rfl
     have ⟨d15, d15f⟩ := k.cell_of X1.out (i := 15) rfl
     go_wp2_with (first | (go_at_call 56; ((with_reducible refine (CA.out _ HB.out).mono ?_); rintro e w5 ⟨rfl, hb⟩; have HB := lh (HB.out.trans (hb.mono HB.out.size)); have X1 := lh (X1.out.below hb x3); have x3 := Nat.lt_of_lt_of_le x3 hb.size; clear hb d14 d14f d15 d15f; have ⟨d14, d14f⟩ := k.cell_of X1.out (i := 14) rfl; have ⟨d15, d15f⟩ := k.cell_of X1.out (i := 15) rfl)) | (go_at_call 56; ((with_reducible refine (CN.out _ HB.out X1.out).mono ?_); rintro e w5 ⟨rfl, hb⟩; have HB := lh (HB.out.trans (hb.mono HB.out.size)); have X1 := lh (X1.out.below hb x3); have x3 := Nat.lt_of_lt_of_le x3 hb.size; clear hb d14 d14f d15 d15f; have ⟨d14, d14f⟩ := k.cell_of X1.out (i := 14) rfl; have ⟨d15, d15f⟩ := k.cell_of X1.out (i := 15) rfl)) | (go_at_call 56; ((with_reducible refine (CW.out _ HB.out X1.out).mono ?_); rintro e w5 ⟨rfl, hb⟩; have HB := lh (HB.out.trans (hb.mono HB.out.size)); have X1 := lh (X1.out.below hb x3); have x3 := Nat.lt_of_lt_of_le x3 hb.size; clear hb d14 d14f d15 d15f; have ⟨d14, d14f⟩ := k.cell_of X1.out (i := 14) rfl; have ⟨d15, d15f⟩ := k.cell_of X1.out (i := 15) rfl)))
     go_ret
     exact ⟨HF.out, HB.out⟩
   ·skip
    have HF := lh (fin (show _ = false by rw [decide_eq_true h1]; rfl))
    clear fin HV hln h1
    go_enter Tryz.func59, Tryz.ntmps59
    go_upto_region 1 with fail
    generalize w.alloc (.cells (axA a S N W) 35) = w2 at X1 HB x3 ⊢
    have ⟨d14, d14f⟩ := k.cell_of X1.out (i := 14) rfl
    have ⟨d15, d15f⟩ := k.cell_of X1.out (i := 15) rfl
    go_wp2_with (first | (go_at_call 56; ((with_reducible refine (CA.out _ HB.out).mono ?_); rintro e w5 ⟨rfl, hb⟩; have HB := lh (HB.out.trans (hb.mono HB.out.size)); have X1 := lh (X1.out.below hb x3); have x3 := Nat.lt_of_lt_of_le x3 hb.size; clear hb d14 d14f d15 d15f; have ⟨d14, d14f⟩ := k.cell_of X1.out (i := 14) rfl; have ⟨d15, d15f⟩ := k.cell_of X1.out (i := 15) rfl)) | (go_at_call 56; ((with_reducible refine (CN.out _ HB.out X1.out).mono ?_); rintro e w5 ⟨rfl, hb⟩; have HB := lh (HB.out.trans (hb.mono HB.out.size)); have X1 := lh (X1.out.below hb x3); have x3 := Nat.lt_of_lt_of_le x3 hb.size; clear hb d14 d14f d15 d15f; have ⟨d14, d14f⟩ := k.cell_of X1.out (i := 14) rfl; have ⟨d15, d15f⟩ := k.cell_of X1.out (i := 15) rfl)) | (go_at_call 56; ((with_reducible refine (CW.out _ HB.out X1.out).mono ?_); rintro e w5 ⟨rfl, hb⟩; have HB := lh (HB.out.trans (hb.mono HB.out.size)); have X1 := lh (X1.out.below hb x3); have x3 := Nat.lt_of_lt_of_le x3 hb.size; clear hb d14 d14f d15 d15f; have ⟨d14, d14f⟩ := k.cell_of X1.out (i := 14) rfl; have ⟨d15, d15f⟩ := k.cell_of X1.out (i := 15) rfl)))
    go_ret
    exact ⟨HF.out, HB.out⟩
  ·skip
   have HF := lh (fin (show _ = false by rw [decide_eq_true h1]; rfl))
   clear fin HV hln h1
   go_enter Tryz.func59, Tryz.ntmps59
   go_upto_region 1 with fail
   generalize w.alloc (.cells (axA a S N W) 35) = w2 at X1 HB x3 ⊢
   have ⟨d14, d14f⟩ := k.cell_of X1.out (i := 14) rfl
   have ⟨d15, d15f⟩ := k.cell_of X1.out (i := 15) rfl
   go_wp2_with (first | (go_at_call 56; ((with_reducible refine (CA.out _ HB.out).mono ?_); rintro e w5 ⟨rfl, hb⟩; have HB := lh (HB.out.trans (hb.mono HB.out.size)); have X1 := lh (X1.out.below hb x3); have x3 := Nat.lt_of_lt_of_le x3 hb.size; clear hb d14 d14f d15 d15f; have ⟨d14, d14f⟩ := k.cell_of X1.out (i := 14) rfl; have ⟨d15, d15f⟩ := k.cell_of X1.out (i := 15) rfl)) | (go_at_call 56; ((with_reducible refine (CN.out _ HB.out X1.out).mono ?_); rintro e w5 ⟨rfl, hb⟩; have HB := lh (HB.out.trans (hb.mono HB.out.size)); have X1 := lh (X1.out.below hb x3); have x3 := Nat.lt_of_lt_of_le x3 hb.size; clear hb d14 d14f d15 d15f; have ⟨d14, d14f⟩ := k.cell_of X1.out (i := 14) rfl; have ⟨d15, d15f⟩ := k.cell_of X1.out (i := 15) rfl)) | (go_at_call 56; ((with_reducible refine (CW.out _ HB.out X1.out).mono ?_); rintro e w5 ⟨rfl, hb⟩; have HB := lh (HB.out.trans (hb.mono HB.out.size)); have X1 := lh (X1.out.below hb x3); have x3 := Nat.lt_of_lt_of_le x3 hb.size; clear hb d14 d14f d15 d15f; have ⟨d14, d14f⟩ := k.cell_of X1.out (i := 14) rfl; have ⟨d15, d15f⟩ := k.cell_of X1.out (i := 15) rfl)))
   go_ret
   exact ⟨HF.out, HB.out⟩
 ·have b1 : ((N.n : Int) == 1) = false := by rw [beq_eq_false_iff_ne]; omega
  have HF := lh (fin (show _ = false by rw [decide_eq_false h1]; rfl))
  clear fin HV hln h1
  go_enter Tryz.func59, Tryz.ntmps59
  go_upto_region 1 with fail
  generalize w.alloc (.cells (axA a S N W) 35) = w2 at X1 HB x3 ⊢
  have ⟨d14, d14f⟩ := k.cell_of X1.out (i := 14) rfl
  have ⟨d15, d15f⟩ := k.cell_of X1.out (i := 15) rfl
  go_wp2
  go_ret
  exact ⟨HF.out, HB.out⟩
set_option maxHeartbeats 8000000 in
theorem line_any (a : Ax) {S N W : Sl} {B : Nat} {w : World} (h : RdA w B a S N W) (hB : B ≤ w.heap.size) (hv0 : 0 ≤ a.l.V) (hv1 : a.l.V ≤ 1048576) {b : Bool} (hb : lineB a = b) :
  Calls Tryz.prog 34 #[axV a S N W] w fun e w' => e = .returned (.bool b) ∧ Below w.heap.size w w' := by
 have HV := lh hb
 have fin : ∀ {y : Bool}, lineB a = y → Ending.returned (.bool y) = .returned (.bool b) := fun h => by rw [← HV.out, h]
 obtain ⟨x1, x2, x3⟩ := k.boxes1 (w := w) (c1 := axA a S N W) (t1 := 35) (Below.refl _ _)
 have X1 : Hid (k.Box _ w.heap.size 0 (axC a S N W)) := lh x1
 have HB := lh x2
 clear x1 x2
 have CA := lh fun (U : World) (hb : Below w.heap.size w U) (q : Int) => alone_any a.N a.W (h.N.below (hb.mono hB)) (h.W.below (hb.mono hB)) (Nat.le_trans hB hb.size) (q := q) rfl
 obtain ⟨mv, hmv⟩ : ∃ z, movesB a = z := ⟨_, rfl⟩
 have CM := lh fun (U : World) (hb : Below w.heap.size w U) => moves_any a (h.below (hb.mono hB)) (Nat.le_trans hB hb.size) hmv
 have HR := lh h
 have HBB := lh hB
 have hln := h.N.1
 have HM := lh hmv
 clear hb h hB hmv
 by_cases h2 : a.st = 2
 ·have s2 : (a.st == 2) = true := by rw [h2]; rfl
  obtain ⟨al, hal⟩ : ∃ z, aloneB a.N a.W 7 = z := ⟨_, rfl⟩
  have CQ := lh fun (U : World) (hb : Below w.heap.size w U) => CA.out U hb 7
  rw [hal] at CQ
  have HF := lh (fin (show lineB a = al from by unfold lineB; rw [if_pos h2, hal]))
  clear fin HV
  (try clear hal)
  (try clear hN)
  (try clear hv0 hv1)
  (try clear h2)
  (try clear h3)
  (try clear h4)
  (try clear h5)
  (try clear h6)
  go_enter Tryz.func34, Tryz.ntmps34
  go_upto_region 1 with fail
  generalize w.alloc (.cells (axA a S N W) 35) = w2 at X1 HB x3 ⊢
  have ⟨d0, d0f⟩ := k.cell_of X1.out (i := 0) rfl
  have ⟨d14, d14f⟩ := k.cell_of X1.out (i := 14) rfl
  have ⟨d15, d15f⟩ := k.cell_of X1.out (i := 15) rfl
  go_wp2_with (go_at_call 58; ((with_reducible refine (CQ.out _ HB.out).mono ?_); rintro e w5 ⟨rfl, hb⟩; have HB := lh (HB.out.trans (hb.mono HB.out.size)); have X1 := lh (X1.out.below hb x3); have x3 := Nat.lt_of_lt_of_le x3 hb.size; clear hb d0 d0f d14 d14f d15 d15f; have ⟨d14, d14f⟩ := k.cell_of X1.out (i := 14) rfl; have ⟨d15, d15f⟩ := k.cell_of X1.out (i := 15) rfl))
  go_ret
  exact ⟨HF.out, HB.out⟩
 have s2 : (a.st == 2) = false := by rw [beq_eq_false_iff_ne]; exact h2
 by_cases h3 : a.st = 3
 ·have s3 : (a.st == 3) = true := by rw [h3]; rfl
  cases hN : a.N with
  | nil =>
   have n0 : ((N.n : Int) == 0) = true := by rw [show N.n = 0 by rw [hN] at hln; simpa using hln.symm]; rfl
   clear hln
   have HF := lh (fin (show lineB a = true from by unfold lineB; rw [if_neg h2, if_pos h3, hN]; rfl))
   clear fin HV
   (try clear hal)
   (try clear hN)
   (try clear hv0 hv1)
   (try clear h2)
   (try clear h3)
   (try clear h4)
   (try clear h5)
   (try clear h6)
   go_enter Tryz.func34, Tryz.ntmps34
   go_upto_region 1 with fail
   generalize w.alloc (.cells (axA a S N W) 35) = w2 at X1 HB x3 ⊢
   have ⟨d0, d0f⟩ := k.cell_of X1.out (i := 0) rfl
   have ⟨d14, d14f⟩ := k.cell_of X1.out (i := 14) rfl
   have ⟨d15, d15f⟩ := k.cell_of X1.out (i := 15) rfl
   go_wp2
   go_ret
   exact ⟨HF.out, HB.out⟩
  | cons c t =>
   have n0 : ((N.n : Int) == 0) = false := by rw [beq_eq_false_iff_ne]; rw [hN] at hln; simp at hln; omega
   clear hln
   obtain ⟨al, hal⟩ : ∃ z, aloneB a.N a.W 6 = z := ⟨_, rfl⟩
   have CQ := lh fun (U : World) (hb : Below w.heap.size w U) => CA.out U hb 6
   rw [hal] at CQ
   have HF := lh (fin (show lineB a = al from by unfold lineB; rw [if_neg h2, if_pos h3, hal, hN]; rfl))
   clear fin HV
   (try clear hal)
   (try clear hN)
   (try clear hv0 hv1)
   (try clear h2)
   (try clear h3)
   (try clear h4)
   (try clear h5)
   (try clear h6)
   go_enter Tryz.func34, Tryz.ntmps34
   go_upto_region 1 with fail
   generalize w.alloc (.cells (axA a S N W) 35) = w2 at X1 HB x3 ⊢
   have ⟨d0, d0f⟩ := k.cell_of X1.out (i := 0) rfl
   have ⟨d14, d14f⟩ := k.cell_of X1.out (i := 14) rfl
   have ⟨d15, d15f⟩ := k.cell_of X1.out (i := 15) rfl
   go_wp2_with (go_at_call 58; ((with_reducible refine (CQ.out _ HB.out).mono ?_); rintro e w5 ⟨rfl, hb⟩; have HB := lh (HB.out.trans (hb.mono HB.out.size)); have X1 := lh (X1.out.below hb x3); have x3 := Nat.lt_of_lt_of_le x3 hb.size; clear hb d0 d0f d14 d14f d15 d15f; have ⟨d14, d14f⟩ := k.cell_of X1.out (i := 14) rfl; have ⟨d15, d15f⟩ := k.cell_of X1.out (i := 15) rfl))
   go_ret
   exact ⟨HF.out, HB.out⟩
 have s3 : (a.st == 3) = false := by rw [beq_eq_false_iff_ne]; exact h3
 by_cases h4 : a.st = 4
 ·have s4 : (a.st == 4) = true := by rw [h4]; rfl
  obtain ⟨al, hal⟩ : ∃ z, aloneB a.N a.W 5 = z := ⟨_, rfl⟩
  have CQ := lh fun (U : World) (hb : Below w.heap.size w U) => CA.out U hb 5
  rw [hal] at CQ
  clear hln
  cases al
  ·skip
   have HF := lh (fin (show lineB a = mv from by unfold lineB; rw [if_neg h2, if_neg h3, if_pos h4, hal, HM.out]; rfl))
   clear fin HV
   (try clear hal)
   (try clear hN)
   (try clear hv0 hv1)
   (try clear h2)
   (try clear h3)
   (try clear h4)
   (try clear h5)
   (try clear h6)
   go_enter Tryz.func34, Tryz.ntmps34
   go_upto_region 1 with fail
   generalize w.alloc (.cells (axA a S N W) 35) = w2 at X1 HB x3 ⊢
   have ⟨d0, d0f⟩ := k.cell_of X1.out (i := 0) rfl
   have ⟨d14, d14f⟩ := k.cell_of X1.out (i := 14) rfl
   have ⟨d15, d15f⟩ := k.cell_of X1.out (i := 15) rfl
   go_wp2_with (first | (go_at_call 58; ((with_reducible refine (CQ.out _ HB.out).mono ?_); rintro e w5 ⟨rfl, hb⟩; have HB := lh (HB.out.trans (hb.mono HB.out.size)); have X1 := lh (X1.out.below hb x3); have x3 := Nat.lt_of_lt_of_le x3 hb.size; clear hb d0 d0f d14 d14f d15 d15f; have ⟨d14, d14f⟩ := k.cell_of X1.out (i := 14) rfl; have ⟨d15, d15f⟩ := k.cell_of X1.out (i := 15) rfl)) | ((with_reducible refine m_ax_load X1.out 1 ?_ ?_ ?_ ?_); rfl; rfl; rfl; (try simp only [Act.put])) | (go_at_call 59; ((with_reducible refine (CM.out _ HB.out).mono ?_); rintro e w6 ⟨rfl, hb⟩; have HB := lh (HB.out.trans (hb.mono HB.out.size)); clear hb)))
   go_ret
   exact ⟨HF.out, HB.out⟩
  ·skip
   have HF := lh (fin (show lineB a = true from by unfold lineB; rw [if_neg h2, if_neg h3, if_pos h4, hal]; rfl))
   clear fin HV
   (try clear hal)
   (try clear hN)
   (try clear hv0 hv1)
   (try clear h2)
   (try clear h3)
   (try clear h4)
   (try clear h5)
   (try clear h6)
   go_enter Tryz.func34, Tryz.ntmps34
   go_upto_region 1 with fail
   generalize w.alloc (.cells (axA a S N W) 35) = w2 at X1 HB x3 ⊢
   have ⟨d0, d0f⟩ := k.cell_of X1.out (i := 0) rfl
   have ⟨d14, d14f⟩ := k.cell_of X1.out (i := 14) rfl
   have ⟨d15, d15f⟩ := k.cell_of X1.out (i := 15) rfl
   go_wp2_with (first | (go_at_call 58; ((with_reducible refine (CQ.out _ HB.out).mono ?_); rintro e w5 ⟨rfl, hb⟩; have HB := lh (HB.out.trans (hb.mono HB.out.size)); have X1 := lh (X1.out.below hb x3); have x3 := Nat.lt_of_lt_of_le x3 hb.size; clear hb d0 d0f d14 d14f d15 d15f; have ⟨d14, d14f⟩ := k.cell_of X1.out (i := 14) rfl; have ⟨d15, d15f⟩ := k.cell_of X1.out (i := 15) rfl)) | ((with_reducible refine m_ax_load X1.out 1 ?_ ?_ ?_ ?_); rfl; rfl; rfl; (try simp only [Act.put])) | (go_at_call 59; ((with_reducible refine (CM.out _ HB.out).mono ?_); rintro e w6 ⟨rfl, hb⟩; have HB := lh (HB.out.trans (hb.mono HB.out.size)); clear hb)))
   go_ret
   exact ⟨HF.out, HB.out⟩
 have s4 : (a.st == 4) = false := by rw [beq_eq_false_iff_ne]; exact h4
 by_cases h5 : a.st = 5
 ·have s5 : (a.st == 5) = true := by rw [h5]; rfl
  obtain ⟨al, hal⟩ : ∃ z, aloneB a.N a.W 4 = z := ⟨_, rfl⟩
  have CQ := lh fun (U : World) (hb : Below w.heap.size w U) => CA.out U hb 4
  rw [hal] at CQ
  cases al
  ·skip
   have HF := lh (fin (show lineB a = false from by unfold lineB; rw [if_neg h2, if_neg h3, if_neg h4, if_pos h5, hal]; rfl))
   clear fin HV
   (try clear hal)
   (try clear hN)
   (try clear hv0 hv1)
   (try clear h2)
   (try clear h3)
   (try clear h4)
   (try clear h5)
   (try clear h6)
   clear hln
   go_enter Tryz.func34, Tryz.ntmps34
   go_upto_region 1 with fail
   generalize w.alloc (.cells (axA a S N W) 35) = w2 at X1 HB x3 ⊢
   have ⟨d0, d0f⟩ := k.cell_of X1.out (i := 0) rfl
   have ⟨d14, d14f⟩ := k.cell_of X1.out (i := 14) rfl
   have ⟨d15, d15f⟩ := k.cell_of X1.out (i := 15) rfl
   go_upto_region 9 with fail
   refine wp_region_T (by kernel_rfl) (fun w' => Below w2.heap.size w2 w') [] (Below.refl _ _).drew (fun hHeld => ?_)
   refine tk0 0 rfl ?_ ?_ ?_
   rotate_left
   ·intro; go_simp <;> with_reducible rfl
   try simp only [Act.put, p1, p2, p3, p4, p6]
   refine tk 1 rfl ?_ ?_ ?_
   rotate_left
   ·intro w_ hSw; have q0 := (hSw.cell (p := ⟨w.heap.size, 14, none⟩) x3).trans d14; have q1 := (hSw.cell (p := ⟨w.heap.size, 15, none⟩) x3).trans d15; clear hSw; go_simp <;> (with_reducible rfl)
   try simp only [Act.put, p1, p2, p3, p4, p5, p6]
   refine ry [2] ?_
   refine ar1 rfl fun K hK => ?_
   go_simp
   (go_at_call 58; ((with_reducible refine (CQ.out _ HB.out.drew).mono ?_); rintro e w5 ⟨rfl, hb0⟩))
   go_wp2_with fail
   have hb5 := ((Below.refl w2.heap.size w2).drew).trans hb0
   clear hb0
   refine hK.out _ _ hb5 (fun hHeld => ?_)
   clear hK K
   try simp only [Act.put, p1, p2, p3, p4, p5, p6]
   refine tk0 3 rfl ?_ ?_ ?_
   rotate_left
   ·intro; go_simp <;> with_reducible rfl
   try simp only [Act.put, p1, p2, p3, p4, p5, p6]
   refine tks 4 rfl ?_
   try simp only [Act.put, p1, p2, p3, p4, p5, p6]
   refine tks 5 rfl ?_
   try simp only [Act.put, p1, p2, p3, p4, p5, p6]
   refine tks 6 rfl ?_
   try simp only [Act.put, p1, p2, p3, p4, p5, p6]
   refine tks 7 rfl ?_
   try simp only [Act.put, p1, p2, p3, p4, p5, p6]
   refine tks 8 rfl ?_
   try simp only [Act.put, p1, p2, p3, p4, p5, p6]
   refine tks 9 rfl ?_
   try simp only [Act.put, p1, p2, p3, p4, p5, p6]
   refine tks 10 rfl ?_
   try simp only [Act.put, p1, p2, p3, p4, p5, p6]
   refine tks 11 rfl ?_
   try simp only [Act.put, p1, p2, p3, p4, p5, p6]
   refine tk0 12 rfl ?_ ?_ ?_
   rotate_left
   ·intro; go_simp <;> with_reducible rfl
   try simp only [Act.put, p1, p2, p3, p4, p5, p6]
   refine tk0 13 rfl ?_ ?_ ?_
   rotate_left
   ·intro; go_simp <;> with_reducible rfl
   try simp only [Act.put, p1, p2, p3, p4, p5, p6]
   refine wpAnyT_done (by kernel_rfl) ?_ _
   go_wp2
   go_ret
   exact ⟨HF.out, HB.out.trans (hb5.mono HB.out.size)⟩
  ·obtain ⟨c, hN, hW0, hk⟩ := alone_iff.1 hal
   obtain ⟨ve, hve⟩ : ∃ z, velB a c.spd = z := ⟨_, rfl⟩
   have CV := lh fun U => isvel_any a hv0 hv1 S N W hve U
   obtain ⟨bn, on, x, eA, hbn, hx, hrng⟩ := HR.out.N.at (i := 0) (by rw [hN] at hln; simp at hln; omega)
   have ex : c = x := by rw [hN] at hx; simpa using hx
   subst ex
   rw [Nat.zero_mul, Nat.add_zero] at hrng
   have HRG := lh hrng
   have hn0 : (0 : Int) < (N.n : Int) := by rw [hN] at hln; simp at hln; omega
   have hn0n : 0 < N.n := by omega
   have HEA := lh eA
   have HBN := lh hbn
   have HF := lh (fin (show lineB a = ve from by unfold lineB; rw [if_neg h2, if_neg h3, if_neg h4, if_pos h5, hal, hN]; dsimp only; rw [hve]; rfl))
   clear fin HV
   (try clear hal)
   (try clear hN)
   (try clear hv0 hv1)
   (try clear h2)
   (try clear h3)
   (try clear h4)
   (try clear h5)
   (try clear h6)
   clear hve hW0 hk hx hrng eA hbn hln
   go_enter Tryz.func34, Tryz.ntmps34
   go_upto_region 1 with fail
   generalize w.alloc (.cells (axA a S N W) 35) = w2 at X1 HB x3 ⊢
   have ⟨d0, d0f⟩ := k.cell_of X1.out (i := 0) rfl
   have ⟨d14, d14f⟩ := k.cell_of X1.out (i := 14) rfl
   have ⟨d15, d15f⟩ := k.cell_of X1.out (i := 15) rfl
   rw [HEA.out] at d14
   have r3 := (range_below HRG.out (HB.out.mono HBB.out) HBN.out) 3 _ rfl
   have lbn : bn < w2.heap.size := by have := HBN.out; have := HBB.out; omega
   go_upto_region 9 with fail
   refine wp_region_T (by kernel_rfl) (fun w' => Below w2.heap.size w2 w') [] (Below.refl _ _).drew (fun hHeld => ?_)
   refine tk0 0 rfl ?_ ?_ ?_
   rotate_left
   ·intro; go_simp <;> with_reducible rfl
   try simp only [Act.put, p1, p2, p3, p4, p6]
   refine tk 1 rfl ?_ ?_ ?_
   rotate_left
   ·intro w_ hSw; have q0 := (hSw.cell (p := ⟨w.heap.size, 14, none⟩) x3).trans d14; have q1 := (hSw.cell (p := ⟨w.heap.size, 15, none⟩) x3).trans d15; clear hSw; go_simp <;> (with_reducible rfl)
   try simp only [Act.put, p1, p2, p3, p4, p5, p6]
   refine ry [2] ?_
   refine ar1 rfl fun K hK => ?_
   go_simp
   (go_at_call 58; (have CQ2 := (CQ.out _ HB.out.drew); rw [HEA.out] at CQ2; (with_reducible refine (CQ2).mono ?_); rintro e w5 ⟨rfl, hb0⟩))
   go_wp2_with fail
   have hb5 := ((Below.refl w2.heap.size w2).drew).trans hb0
   clear hb0
   refine hK.out _ _ hb5 (fun hHeld => ?_)
   clear hK K
   try simp only [Act.put, p1, p2, p3, p4, p5, p6]
   refine tk0 3 rfl ?_ ?_ ?_
   rotate_left
   ·intro; go_simp <;> with_reducible rfl
   try simp only [Act.put, p1, p2, p3, p4, p5, p6]
   skip
   refine tkv 4 rfl (axV a S N W) (by exact m_y_ax X1.out x3 1 rfl rfl rfl) ?_
   try simp only [Act.put, p1, p2, p3, p4, p5, p6]
   refine tk0 5 rfl ?_ ?_ ?_
   rotate_left
   ·intro; go_simp <;> with_reducible rfl
   try simp only [Act.put, p1, p2, p3, p4, p5, p6]
   refine tk0 6 rfl ?_ ?_ ?_
   rotate_left
   ·intro; go_simp <;> with_reducible rfl
   try simp only [Act.put, p1, p2, p3, p4, p5, p6]
   refine tk 7 rfl ?_ ?_ ?_
   rotate_left
   ·intro w_ hSw; have q0 := (hSw.cell (p := ⟨w.heap.size, 14, none⟩) x3).trans d14; clear hSw; go_simp <;> (with_reducible rfl)
   try simp only [Act.put, p1, p2, p3, p4, p5, p6]
   refine tk0 8 rfl ?_ ?_ ?_
   rotate_left
   ·intro; go_simp <;> with_reducible rfl
   try simp only [Act.put, p1, p2, p3, p4, p5, p6]
   refine tk0 9 rfl ?_ ?_ ?_
   rotate_left
   ·intro; go_simp <;> with_reducible rfl
   try simp only [Act.put, p1, p2, p3, p4, p5, p6]
   refine tk 10 rfl ?_ ?_ ?_
   rotate_left
   ·intro w_ hSw; have q0 := (hSw.cell (p := ⟨bn, on + 3, none⟩) lbn).trans r3; clear hSw; go_simp <;> (with_reducible rfl)
   try simp only [Act.put, p1, p2, p3, p4, p5, p6]
   refine ry [11] ?_
   refine ar1 rfl fun K hK => ?_
   go_simp
   (go_at_call 60; ((with_reducible refine (CV.out _).mono ?_); rintro e w6 ⟨rfl, hb0⟩))
   go_wp2_with fail
   have hb6 := hb5.trans (hb0.mono hb5.size)
   clear hb0
   refine hK.out _ _ hb6 (fun hHeld => ?_)
   clear hK K
   try simp only [Act.put, p1, p2, p3, p4, p5, p6]
   refine tk0 12 rfl ?_ ?_ ?_
   rotate_left
   ·intro; go_simp <;> with_reducible rfl
   try simp only [Act.put, p1, p2, p3, p4, p5, p6]
   refine tk0 13 rfl ?_ ?_ ?_
   rotate_left
   ·intro; go_simp <;> with_reducible rfl
   try simp only [Act.put, p1, p2, p3, p4, p5, p6]
   refine wpAnyT_done (by kernel_rfl) ?_ _
   go_wp2
   go_ret
   exact ⟨HF.out, HB.out.trans (hb6.mono HB.out.size)⟩
 have s5 : (a.st == 5) = false := by rw [beq_eq_false_iff_ne]; exact h5
 by_cases h6 : a.st = 6
 ·have s6 : (a.st == 6) = true := by rw [h6]; rfl
  obtain ⟨al, hal⟩ : ∃ z, aloneB a.N a.W 8 = z := ⟨_, rfl⟩
  have CQ := lh fun (U : World) (hb : Below w.heap.size w U) => CA.out U hb 8
  rw [hal] at CQ
  cases al
  ·skip
   have HF := lh (fin (show lineB a = false from by unfold lineB; rw [if_neg h2, if_neg h3, if_neg h4, if_neg h5, if_pos h6, hal]; rfl))
   clear fin HV
   (try clear hal)
   (try clear hN)
   (try clear hv0 hv1)
   (try clear h2)
   (try clear h3)
   (try clear h4)
   (try clear h5)
   (try clear h6)
   clear hln
   go_enter Tryz.func34, Tryz.ntmps34
   go_upto_region 1 with fail
   generalize w.alloc (.cells (axA a S N W) 35) = w2 at X1 HB x3 ⊢
   have ⟨d0, d0f⟩ := k.cell_of X1.out (i := 0) rfl
   have ⟨d14, d14f⟩ := k.cell_of X1.out (i := 14) rfl
   have ⟨d15, d15f⟩ := k.cell_of X1.out (i := 15) rfl
   go_wp2_with (go_at_call 58; ((with_reducible refine (CQ.out _ HB.out).mono ?_); rintro e w5 ⟨rfl, hb⟩; have HB := lh (HB.out.trans (hb.mono HB.out.size)); have X1 := lh (X1.out.below hb x3); have x3 := Nat.lt_of_lt_of_le x3 hb.size; clear hb d0 d0f d14 d14f d15 d15f; have ⟨d14, d14f⟩ := k.cell_of X1.out (i := 14) rfl; have ⟨d15, d15f⟩ := k.cell_of X1.out (i := 15) rfl))
   go_ret
   exact ⟨HF.out, HB.out⟩
  ·obtain ⟨c, hN, hW0, hk⟩ := alone_iff.1 hal
   obtain ⟨bn, on, x, eA, hbn, hx, hrng⟩ := HR.out.N.at (i := 0) (by rw [hN] at hln; simp at hln; omega)
   have ex : c = x := by rw [hN] at hx; simpa using hx
   subst ex
   rw [Nat.zero_mul, Nat.add_zero] at hrng
   have HRG := lh hrng
   have hn0 : (0 : Int) < (N.n : Int) := by rw [hN] at hln; simp at hln; omega
   have hn0n : 0 < N.n := by omega
   have HEA := lh eA
   have HBN := lh hbn
   by_cases hd : 0 < c.den
   ·skip
    have HF := lh (fin (show lineB a = true from by unfold lineB; rw [if_neg h2, if_neg h3, if_neg h4, if_neg h5, if_pos h6, hal, hN]; dsimp only; rw [decide_eq_true hd]; rfl))
    clear fin HV
    (try clear hal)
    (try clear hN)
    (try clear hv0 hv1)
    (try clear h2)
    (try clear h3)
    (try clear h4)
    (try clear h5)
    (try clear h6)
    clear hW0 hk hx hrng eA hbn hln
    go_enter Tryz.func34, Tryz.ntmps34
    go_upto_region 1 with fail
    generalize w.alloc (.cells (axA a S N W) 35) = w2 at X1 HB x3 ⊢
    have ⟨d0, d0f⟩ := k.cell_of X1.out (i := 0) rfl
    have ⟨d14, d14f⟩ := k.cell_of X1.out (i := 14) rfl
    have ⟨d15, d15f⟩ := k.cell_of X1.out (i := 15) rfl
    rw [HEA.out] at d14
    rw [HEA.out] at CQ
    go_wp2_with (go_at_call 58; ((with_reducible refine (CQ.out _ HB.out).mono ?_); rintro e w5 ⟨rfl, hb⟩; have HB := lh (HB.out.trans (hb.mono HB.out.size)); have X1 := lh (X1.out.below hb x3); have x3 := Nat.lt_of_lt_of_le x3 hb.size; clear hb d0 d0f d14 d14f d15 d15f; have ⟨d14, d14f⟩ := k.cell_of X1.out (i := 14) rfl; have ⟨d15, d15f⟩ := k.cell_of X1.out (i := 15) rfl; rw [HEA.out] at d14; have r6 := (range_below HRG.out (HB.out.mono HBB.out) HBN.out) 6 _ rfl))
    go_ret
    exact ⟨HF.out, HB.out⟩
   ·have hdb : decide (0 < c.den) = false := decide_eq_false hd
    have HF := lh (fin (show lineB a = false from by unfold lineB; rw [if_neg h2, if_neg h3, if_neg h4, if_neg h5, if_pos h6, hal, hN]; dsimp only; rw [decide_eq_false hd]; rfl))
    clear fin HV
    (try clear hal)
    (try clear hN)
    (try clear hv0 hv1)
    (try clear h2)
    (try clear h3)
    (try clear h4)
    (try clear h5)
    (try clear h6)
    clear hW0 hk hx hrng eA hbn hln
    go_enter Tryz.func34, Tryz.ntmps34
    go_upto_region 1 with fail
    generalize w.alloc (.cells (axA a S N W) 35) = w2 at X1 HB x3 ⊢
    have ⟨d0, d0f⟩ := k.cell_of X1.out (i := 0) rfl
    have ⟨d14, d14f⟩ := k.cell_of X1.out (i := 14) rfl
    have ⟨d15, d15f⟩ := k.cell_of X1.out (i := 15) rfl
    rw [HEA.out] at d14
    rw [HEA.out] at CQ
    go_wp2_with (go_at_call 58; ((with_reducible refine (CQ.out _ HB.out).mono ?_); rintro e w5 ⟨rfl, hb⟩; have HB := lh (HB.out.trans (hb.mono HB.out.size)); have X1 := lh (X1.out.below hb x3); have x3 := Nat.lt_of_lt_of_le x3 hb.size; clear hb d0 d0f d14 d14f d15 d15f; have ⟨d14, d14f⟩ := k.cell_of X1.out (i := 14) rfl; have ⟨d15, d15f⟩ := k.cell_of X1.out (i := 15) rfl; rw [HEA.out] at d14; have r6 := (range_below HRG.out (HB.out.mono HBB.out) HBN.out) 6 _ rfl))
    go_ret
    exact ⟨HF.out, HB.out⟩
 have s6 : (a.st == 6) = false := by rw [beq_eq_false_iff_ne]; exact h6
 cases hN : a.N with
 | nil =>
  have n0 : ((N.n : Int) == 0) = true := by rw [show N.n = 0 by rw [hN] at hln; simpa using hln.symm]; rfl
  clear hln
  have HF := lh (fin (show lineB a = true from by unfold lineB; rw [if_neg h2, if_neg h3, if_neg h4, if_neg h5, if_neg h6, hN]; rfl))
  clear fin HV
  (try clear hal)
  (try clear hN)
  (try clear hv0 hv1)
  (try clear h2)
  (try clear h3)
  (try clear h4)
  (try clear h5)
  (try clear h6)
  go_enter Tryz.func34, Tryz.ntmps34
  go_upto_region 1 with fail
  generalize w.alloc (.cells (axA a S N W) 35) = w2 at X1 HB x3 ⊢
  have ⟨d0, d0f⟩ := k.cell_of X1.out (i := 0) rfl
  have ⟨d14, d14f⟩ := k.cell_of X1.out (i := 14) rfl
  have ⟨d15, d15f⟩ := k.cell_of X1.out (i := 15) rfl
  go_wp2
  go_ret
  exact ⟨HF.out, HB.out⟩
 | cons c t =>
  have n0 : ((N.n : Int) == 0) = false := by rw [beq_eq_false_iff_ne]; rw [hN] at hln; simp at hln; omega
  clear hln
  have HF := lh (fin (show lineB a = false from by unfold lineB; rw [if_neg h2, if_neg h3, if_neg h4, if_neg h5, if_neg h6, hN]; rfl))
  clear fin HV
  (try clear hal)
  (try clear hN)
  (try clear hv0 hv1)
  (try clear h2)
  (try clear h3)
  (try clear h4)
  (try clear h5)
  (try clear h6)
  go_enter Tryz.func34, Tryz.ntmps34
  go_upto_region 1 with fail
  generalize w.alloc (.cells (axA a S N W) 35) = w2 at X1 HB x3 ⊢
  have ⟨d0, d0f⟩ := k.cell_of X1.out (i := 0) rfl
  have ⟨d14, d14f⟩ := k.cell_of X1.out (i := 14) rfl
  have ⟨d15, d15f⟩ := k.cell_of X1.out (i := 15) rfl
  go_wp2
  go_ret
  exact ⟨HF.out, HB.out⟩
end Go.Proofs.YtijlccblabadaaaGreat.cx
end
section
namespace Go.Proofs.YtijlccblabadaaaGreat.cx
open Go.ChangeShapes Go.WideShapes Go.ChangeAt Go.RowKit Go.Proofs.YtijlccblabadaaaGreat.k Go.Proofs.YtijlccblabadaaaGreat.rr Go.Proofs.YtijlccblabadaaaGreat.ax
open Go.Proofs.YtijlccblabadaaaGreat.ln (C RdC RdI iC cC cV lnV)
set_option linter.unusedVariables false
set_option maxRecDepth 100000
def winP (a : Ax) : Prop := mm.RightW a.sm ∧ (a.sm.length : Int) = a.win ∧ a.sm.head? = some a.p ∧ Near a.sm
theorem near_at : ∀ {K : List Int}, Near K → ∀ {j : Nat} {x y : Int}, K[j]? = some x → K[j + 1]? = some y → x - y ≤ 1048576 ∧ y - x ≤ 1048576
 | [], _, j, x, y, h1, _ => by simp at h1
 | [z], _, j, x, y, _, h2 => by simp at h2
 | z :: u :: K, h, 0, x, y, h1, h2 => by
  have e1 : z = x := by simpa using h1
  have e2 : u = y := by simpa using h2
  rw [← e1, ← e2]; exact ⟨h.1, h.2.1⟩
 | z :: u :: K, h, j + 1, x, y, h1, h2 => near_at h.2.2 (by simpa using h1) (by simpa using h2)
theorem near_of : ∀ {K : List Int}, (∀ (j : Nat) (x y : Int), K[j]? = some x → K[j + 1]? = some y → x - y ≤ 1048576 ∧ y - x ≤ 1048576) → Near K
 | [], _ => trivial
 | [_], _ => trivial
 | z :: u :: K, h => ⟨(h 0 z u rfl rfl).1, (h 0 z u rfl rfl).2, near_of fun j x y h1 h2 => h (j + 1) x y (by simpa using h1) (by simpa using h2)⟩
set_option maxHeartbeats 8000000 in
theorem window_any (a : Ax) {S N W : Sl} {B : Nat} {w : World} (h : RdA w B a S N W) (hB : B ≤ w.heap.size) (hp : InR a.p) {b : Bool} (hb : winP a ↔ b = true) :
  Calls Tryz.prog 32 #[axV a S N W] w fun e w' => e = .returned (.bool b) ∧ Below w.heap.size w w' := by
 have yes : winP a → Ending.returned (.bool true) = .returned (.bool b) := fun h => by rw [hb.1 h]
 have no : ¬ winP a → Ending.returned (.bool false) = .returned (.bool b) := fun h => by
  cases hbb : b
  ·rfl
  ·exact absurd (hb.2 hbb) h
 obtain ⟨x1, x2, x3⟩ := k.boxes1 (w := w) (c1 := axA a S N W) (t1 := 35) (Below.refl _ _)
 have X1 : Hid (k.Box _ w.heap.size 0 (axC a S N W)) := lh x1
 have HB := lh x2
 clear x1 x2 hb
 obtain ⟨rb, hrb⟩ : ∃ z, mm.rightB a.sm = z := ⟨_, rfl⟩
 have CR := lh fun (U : World) (hb : Below w.heap.size w U) => mm.isright_any a.sm (win_of (h.S.below (hb.mono hB))) (Nat.le_trans hB hb.size)
 rw [hrb] at CR
 have hlen := h.S.1
 cases rb
 ·have HF := lh (no fun hw => by have h1 := hw.1; have : mm.rightB a.sm = true := decide_eq_true h1; rw [hrb] at this; cases this)
  clear yes no hrb hlen hp h hB
  go_enter Tryz.func32, Tryz.ntmps32
  go_upto_region 1 with fail
  generalize w.alloc (.cells (axA a S N W) 35) = w2 at X1 HB x3 ⊢
  have ⟨d12, d12f⟩ := k.cell_of X1.out (i := 12) rfl
  have ⟨d6, d6f⟩ := k.cell_of X1.out (i := 6) rfl
  have ⟨d10, d10f⟩ := k.cell_of X1.out (i := 10) rfl
  go_upto_region 2 with fail
  refine wp_region_T (by kernel_rfl) (fun w' => Below w2.heap.size w2 w') [] (Below.refl _ _).drew (fun hHeld => ?_)
  refine tk0 0 rfl ?_ ?_ ?_
  rotate_left
  ·intro; go_simp <;> with_reducible rfl
  try simp only [Act.put, p1, p2, p3, p4, p6]
  refine tk 1 rfl ?_ ?_ ?_
  rotate_left
  ·intro w_ hSw; have q0 := (hSw.cell (p := ⟨w.heap.size, 12, none⟩) x3).trans d12; clear hSw; go_simp <;> (with_reducible rfl)
  try simp only [Act.put, p1, p2, p3, p4, p5, p6]
  refine ry [2] ?_
  refine ar1 rfl fun K hK => ?_
  go_simp
  (go_at_call 55; ((with_reducible refine (CR.out _ HB.out.drew).mono ?_); rintro e w3 ⟨rfl, hb0⟩))
  go_wp2_with fail
  have hb3 := ((Below.refl w2.heap.size w2).drew).trans hb0
  clear hb0
  refine hK.out _ _ hb3 (fun hHeld => ?_)
  clear hK K
  try simp only [Act.put, p1, p2, p3, p4, p5, p6]
  refine tk0 3 rfl ?_ ?_ ?_
  rotate_left
  ·intro; go_simp <;> with_reducible rfl
  try simp only [Act.put, p1, p2, p3, p4, p5, p6]
  refine tk0 4 rfl ?_ ?_ ?_
  rotate_left
  ·intro; go_simp <;> with_reducible rfl
  try simp only [Act.put, p1, p2, p3, p4, p5, p6]
  refine tks 5 rfl ?_
  try simp only [Act.put, p1, p2, p3, p4, p5, p6]
  refine tks 6 rfl ?_
  try simp only [Act.put, p1, p2, p3, p4, p5, p6]
  refine tks 7 rfl ?_
  try simp only [Act.put, p1, p2, p3, p4, p5, p6]
  refine tks 8 rfl ?_
  try simp only [Act.put, p1, p2, p3, p4, p5, p6]
  refine tks 9 rfl ?_
  try simp only [Act.put, p1, p2, p3, p4, p5, p6]
  refine tk0 10 rfl ?_ ?_ ?_
  rotate_left
  ·intro; go_simp <;> with_reducible rfl
  try simp only [Act.put, p1, p2, p3, p4, p5, p6]
  refine tk0 11 rfl ?_ ?_ ?_
  rotate_left
  ·intro; go_simp <;> with_reducible rfl
  try simp only [Act.put, p1, p2, p3, p4, p5, p6]
  refine tks 12 rfl ?_
  try simp only [Act.put, p1, p2, p3, p4, p5, p6]
  refine tks 13 rfl ?_
  try simp only [Act.put, p1, p2, p3, p4, p5, p6]
  refine tks 14 rfl ?_
  try simp only [Act.put, p1, p2, p3, p4, p5, p6]
  refine tks 15 rfl ?_
  try simp only [Act.put, p1, p2, p3, p4, p5, p6]
  refine tks 16 rfl ?_
  try simp only [Act.put, p1, p2, p3, p4, p5, p6]
  refine tks 17 rfl ?_
  try simp only [Act.put, p1, p2, p3, p4, p5, p6]
  refine tks 18 rfl ?_
  try simp only [Act.put, p1, p2, p3, p4, p5, p6]
  refine tk0 19 rfl ?_ ?_ ?_
  rotate_left
  ·intro; go_simp <;> with_reducible rfl
  try simp only [Act.put, p1, p2, p3, p4, p5, p6]
  refine wpAnyT_done (by kernel_rfl) ?_ _
  go_wp2
  go_ret
  exact ⟨HF.out, HB.out.trans (hb3.mono HB.out.size)⟩
 ·have hrw : mm.RightW a.sm := of_decide_eq_true hrb
  by_cases hw : (a.sm.length : Int) = a.win
  ·have bw : ((S.n : Int) != a.win) = false := by rw [← hlen, hw]; simp
   obtain ⟨b1, o1, y0, eA, hb1, hy0, hr0⟩ := h.S.at (i := 0) (by rw [← hlen]; exact hrw.1)
   rw [Nat.zero_mul, Nat.add_zero] at hr0
   have hn0 : (0 : Int) < (S.n : Int) := by have := hrw.1; omega
   have hn0n : 0 < S.n := by omega
   by_cases hh : y0 = a.p
   ·have bh : (y0 != a.p) = false := by rw [hh]; simp
    have HLT := lh hb1
    have HBB := lh hB
    have HR0 := lh hr0
    have HRS := lh h.S
    have HRW := lh hrw
    obtain ⟨_, ⟨A2, c2, e2, k2⟩⟩ := ln.cut_rows h.S 1 (by omega)
    obtain ⟨n2, hn2⟩ : ∃ n2, S.n - 1 = n2 := ⟨_, rfl⟩
    rw [hn2] at e2 k2
    have hcap := h.S.2.1
    have hmx := h.S.2.2.1
    have HT : Hid (∀ w : World, (Instr.slice 26 (.slice S.A S.n S.c) (some (.int .i64 1)) none none).run Tryz.prog w = .ok (.slice A2 n2 c2) w) := lh fun w => by
     rw [run_slice_l w _ S.A S.n S.c (by kernel_rfl) .i64 1 (by omega) (by omega), show (1 : Int).toNat = 1 from rfl, e2.symm]
     kernel_rfl
    have HK2 : Hid (RdI w B A2 n2 c2 (a.sm.drop 1)) := lh k2
    have HN2 : Hid (n2 + 1 = S.n) := lh (by omega)
    have HLEN := lh hlen
    have HYES : Hid (Near a.sm → Ending.returned (.bool true) = .returned (.bool b)) := lh fun hn => yes ⟨hrw, hw, by rw [← hh]; rw [List.head?_eq_getElem?]; exact hy0, hn⟩
    have HNO : Hid (¬ Near a.sm → Ending.returned (.bool false) = .returned (.bool b)) := lh fun hn => no fun hq => hn hq.2.2.2
    have HEA := lh eA
    have CW := lh fun (x y : Int) (U : World) => w64_any (n := x - y) (lo := -1048576) (hi := 1048576) rfl U
    have hk2len : (n2 : Int) ≤ 9223372036854775807 := k2.len_le
    clear yes no hrb hlen hp h hB hrw hw hh hy0 hr0 hb1 eA e2 k2 hcap hmx hn2
    go_enter Tryz.func32, Tryz.ntmps32
    go_upto_region 1 with fail
    generalize w.alloc (.cells (axA a S N W) 35) = w2 at X1 HB x3 ⊢
    have ⟨d12, d12f⟩ := k.cell_of X1.out (i := 12) rfl
    have ⟨d6, d6f⟩ := k.cell_of X1.out (i := 6) rfl
    have ⟨d10, d10f⟩ := k.cell_of X1.out (i := 10) rfl
    go_upto_region 2 with fail
    refine wp_region_T (by kernel_rfl) (fun w' => Below w2.heap.size w2 w') [] (Below.refl _ _).drew (fun hHeld => ?_)
    refine tk0 0 rfl ?_ ?_ ?_
    rotate_left
    ·intro; go_simp <;> with_reducible rfl
    try simp only [Act.put, p1, p2, p3, p4, p6]
    refine tk 1 rfl ?_ ?_ ?_
    rotate_left
    ·intro w_ hSw; have q0 := (hSw.cell (p := ⟨w.heap.size, 12, none⟩) x3).trans d12; clear hSw; go_simp <;> (with_reducible rfl)
    try simp only [Act.put, p1, p2, p3, p4, p5, p6]
    refine ry [2] ?_
    refine ar1 rfl fun K hK => ?_
    go_simp
    (go_at_call 55; ((with_reducible refine (CR.out _ HB.out.drew).mono ?_); rintro e w3 ⟨rfl, hb0⟩))
    go_wp2_with fail
    have hb3 := ((Below.refl w2.heap.size w2).drew).trans hb0
    clear hb0
    refine hK.out _ _ hb3 (fun hHeld => ?_)
    clear hK K
    try simp only [Act.put, p1, p2, p3, p4, p5, p6]
    refine tk0 3 rfl ?_ ?_ ?_
    rotate_left
    ·intro; go_simp <;> with_reducible rfl
    try simp only [Act.put, p1, p2, p3, p4, p5, p6]
    refine tk0 4 rfl ?_ ?_ ?_
    rotate_left
    ·intro; go_simp <;> with_reducible rfl
    try simp only [Act.put, p1, p2, p3, p4, p5, p6]
    have EX := HEA.out
    skip
    have lb1 : b1 < w2.heap.size := Nat.lt_of_lt_of_le (Nat.lt_of_lt_of_le HLT.out HBB.out) HB.out.size
    have r0 := (range_below HR0.out (HB.out.mono HBB.out) HLT.out) 0 _ rfl
    rw [Nat.add_zero] at r0
    refine tk0 5 rfl ?_ ?_ ?_
    rotate_left
    ·intro; go_simp <;> with_reducible rfl
    try simp only [Act.put, p1, p2, p3, p4, p5, p6]
    refine tk0 6 rfl ?_ ?_ ?_
    rotate_left
    ·intro; go_simp <;> with_reducible rfl
    try simp only [Act.put, p1, p2, p3, p4, p5, p6]
    refine tk0 7 rfl ?_ ?_ ?_
    rotate_left
    ·intro; go_simp <;> with_reducible rfl
    try simp only [Act.put, p1, p2, p3, p4, p5, p6]
    refine tk 8 rfl ?_ ?_ ?_
    rotate_left
    ·intro w_ hSw; have q0 := (hSw.cell (p := ⟨w.heap.size, 6, none⟩) x3).trans d6; clear hSw; go_simp <;> (with_reducible rfl)
    try simp only [Act.put, p1, p2, p3, p4, p5, p6]
    refine tk0 9 rfl ?_ ?_ ?_
    rotate_left
    ·intro; go_simp <;> with_reducible rfl
    try simp only [Act.put, p1, p2, p3, p4, p5, p6]
    refine tk0 10 rfl ?_ ?_ ?_
    rotate_left
    ·intro; go_simp <;> with_reducible rfl
    try simp only [Act.put, p1, p2, p3, p4, p5, p6]
    refine tk0 11 rfl ?_ ?_ ?_
    rotate_left
    ·intro; go_simp <;> with_reducible rfl
    try simp only [Act.put, p1, p2, p3, p4, p5, p6]
    refine tk0 12 rfl ?_ ?_ ?_
    rotate_left
    ·intro; go_simp <;> with_reducible rfl
    try simp only [Act.put, p1, p2, p3, p4, p5, p6]
    refine tk 13 rfl ?_ ?_ ?_
    rotate_left
    ·intro w_ hSw; clear hSw; have hS := EX; go_simp <;> (with_reducible rfl)
    try simp only [Act.put, p1, p2, p3, p4, p5, p6]
    refine tk 14 rfl ?_ ?_ ?_
    rotate_left
    ·intro w_ hSw; have q0 := (hSw.cell (p := ⟨b1, o1, none⟩) lb1).trans r0; clear hSw; go_simp <;> (with_reducible rfl)
    try simp only [Act.put, p1, p2, p3, p4, p5, p6]
    refine tk0 15 rfl ?_ ?_ ?_
    rotate_left
    ·intro; go_simp <;> with_reducible rfl
    try simp only [Act.put, p1, p2, p3, p4, p5, p6]
    refine tk0 16 rfl ?_ ?_ ?_
    rotate_left
    ·intro; go_simp <;> with_reducible rfl
    try simp only [Act.put, p1, p2, p3, p4, p5, p6]
    refine tk 17 rfl ?_ ?_ ?_
    rotate_left
    ·intro w_ hSw; have q0 := (hSw.cell (p := ⟨w.heap.size, 10, none⟩) x3).trans d10; clear hSw; go_simp <;> (with_reducible rfl)
    try simp only [Act.put, p1, p2, p3, p4, p5, p6]
    refine tk0 18 rfl ?_ ?_ ?_
    rotate_left
    ·intro; go_simp <;> with_reducible rfl
    try simp only [Act.put, p1, p2, p3, p4, p5, p6]
    refine tk0 19 rfl ?_ ?_ ?_
    rotate_left
    ·intro; go_simp <;> with_reducible rfl
    try simp only [Act.put, p1, p2, p3, p4, p5, p6]
    refine wpAnyT_done (by kernel_rfl) ?_ _
    have HB3 := lh (HB.out.trans (hb3.mono HB.out.size))
    clear d12 d12f d6 d6f d10 d10f r0 hHeld lb1
    have hS := HT.out
    rw [EX] at hS
    go_wp2
    clear hS
    simp only [EX]
    go_loopw [32] (fun q wr => ∃ j : Nat, j ≤ n2 ∧ q = .int .i64 j ∧ (∀ (i : Nat) (x y : Int), i < j → a.sm[i]? = some x → a.sm[i + 1]? = some y → x - y ≤ 1048576 ∧ y - x ≤ 1048576) ∧ Below w.heap.size w wr) (fun q _ => n2 - (intOf q).toNat)
    case atStart => exact ⟨0, Nat.zero_le _, rfl, fun i x y hi => absurd hi (Nat.not_lt_zero _), HB3.out⟩
    case round =>
     obtain ⟨j, hj, rfl, hd, hbw⟩ := hrel
     have HD := lh hd
     have HBW := lh hbw
     clear hd
     by_cases hlt : j < n2
     ·obtain ⟨b2, o2, y, eA2, hb2, hy, hr2⟩ := (HK2.out.below (hbw.mono HBB.out)).at hlt
      obtain ⟨b3, o3, x, eA3, hb3', hx, hr3⟩ := (HRS.out.below (hbw.mono HBB.out)).at (i := j) (by have := HN2.out; omega)
      subst eA2
      have eqA := HEA.out.symm.trans eA3
      injection eqA with eqA
      injection eqA with q1 q2 _
      rw [← q1, ← q2] at hr3
      have v2 := hr2 0 _ rfl
      have v3 := hr3 0 _ rfl
      rw [Nat.mul_one, Nat.add_zero] at v2 v3
      have hj0 : (0 : Int) ≤ (j : Int) := by omega
      have hj1 : (j : Int) < (n2 : Int) := by omega
      have hj2 : (j : Int) < (S.n : Int) := by have := HN2.out; omega
      have hjn : j < S.n := by have := HN2.out; omega
      have hy1 : a.sm[j + 1]? = some y := by rw [List.getElem?_drop] at hy; rw [Nat.add_comm]; exact hy
      have hix := HRW.out.2.2 x (List.mem_of_getElem? hx)
      have hiy := HRW.out.2.2 y (List.mem_of_getElem? hy1)
      unfold mm.inP at hix hiy
      have e1 : wrap64 (x - y) = x - y := IntWalk.wrap64_in _ (by omega)
      have HX := lh hx
      have HY := lh hy1
      have HDI : Hid ((-1048576 ≤ x - y ∧ x - y ≤ 1048576) ↔ (x - y ≤ 1048576 ∧ y - x ≤ 1048576)) := lh (by omega)
      clear eA3 q1 q2
      clear hr2 hr3 hb2 hb3' hy hx hy1 hix hiy hbw
      by_cases hd : -1048576 ≤ x - y ∧ x - y ≤ 1048576
      ·skip
       have CW2 := lh fun U => (CW.out x y U)
       rw [decide_eq_true hd] at CW2
       have HDD := lh hd
       clear hd
       skip
       go_wp2_with (go_at_call 50; ((with_reducible refine (CW2.out _).mono ?_); rintro e w5 ⟨rfl, rfl⟩))
       go_roundw
       case rel =>
        refine ⟨j + 1, by omega, by go_num, fun i x' y' hi h1 h2 => ?_, HBW.out⟩
        by_cases e : i = j
        ·subst e
         have q1 : x = x' := by have := HX.out; rw [h1] at this; injection this with this; exact this.symm
         have q2 : y = y' := by have := HY.out; rw [h2] at this; injection this with this; exact this.symm
         rw [← q1, ← q2]; exact HDI.out.1 HDD.out
        ·exact HD.out i x' y' (by omega) h1 h2
       case measure => simp [intOf]; omega
      ·skip
       have CW2 := lh fun U => (CW.out x y U)
       rw [decide_eq_false hd] at CW2
       have HDD := lh hd
       clear hd
       skip
       go_wp2_with (go_at_call 50; ((with_reducible refine (CW2.out _).mono ?_); rintro e w5 ⟨rfl, rfl⟩))
       go_ret
       exact ⟨HNO.out fun hn => HDD.out (HDI.out.2 (near_at hn HX.out HY.out)), HBW.out⟩
     ·have hjn : j = n2 := by omega
      have HF := lh (HYES.out (near_of fun i x y h1 h2 => HD.out i x y (by have := (List.getElem?_eq_some_iff.1 h2).1; have := HN2.out; have := HLEN.out; omega) h1 h2))
      clear hbw
      go_wp2
      go_ret
      exact ⟨HF.out, HBW.out⟩
   ·have bh : (y0 != a.p) = true := by rw [bne_iff_ne]; exact hh
    have HLT := lh hb1
    have HBB := lh hB
    have HR0 := lh hr0
    have HEA := lh eA
    have HF := lh (no fun hq => hh (by have h1 := hq.2.2.1; rw [List.head?_eq_getElem?, hy0] at h1; injection h1))
    clear yes no hrb hlen hp h hB hrw hw hh hy0 hr0 hb1 eA
    go_enter Tryz.func32, Tryz.ntmps32
    go_upto_region 1 with fail
    generalize w.alloc (.cells (axA a S N W) 35) = w2 at X1 HB x3 ⊢
    have ⟨d12, d12f⟩ := k.cell_of X1.out (i := 12) rfl
    have ⟨d6, d6f⟩ := k.cell_of X1.out (i := 6) rfl
    have ⟨d10, d10f⟩ := k.cell_of X1.out (i := 10) rfl
    go_upto_region 2 with fail
    refine wp_region_T (by kernel_rfl) (fun w' => Below w2.heap.size w2 w') [] (Below.refl _ _).drew (fun hHeld => ?_)
    refine tk0 0 rfl ?_ ?_ ?_
    rotate_left
    ·intro; go_simp <;> with_reducible rfl
    try simp only [Act.put, p1, p2, p3, p4, p6]
    refine tk 1 rfl ?_ ?_ ?_
    rotate_left
    ·intro w_ hSw; have q0 := (hSw.cell (p := ⟨w.heap.size, 12, none⟩) x3).trans d12; clear hSw; go_simp <;> (with_reducible rfl)
    try simp only [Act.put, p1, p2, p3, p4, p5, p6]
    refine ry [2] ?_
    refine ar1 rfl fun K hK => ?_
    go_simp
    (go_at_call 55; ((with_reducible refine (CR.out _ HB.out.drew).mono ?_); rintro e w3 ⟨rfl, hb0⟩))
    go_wp2_with fail
    have hb3 := ((Below.refl w2.heap.size w2).drew).trans hb0
    clear hb0
    refine hK.out _ _ hb3 (fun hHeld => ?_)
    clear hK K
    try simp only [Act.put, p1, p2, p3, p4, p5, p6]
    refine tk0 3 rfl ?_ ?_ ?_
    rotate_left
    ·intro; go_simp <;> with_reducible rfl
    try simp only [Act.put, p1, p2, p3, p4, p5, p6]
    refine tk0 4 rfl ?_ ?_ ?_
    rotate_left
    ·intro; go_simp <;> with_reducible rfl
    try simp only [Act.put, p1, p2, p3, p4, p5, p6]
    have EX := HEA.out
    have lb1 : b1 < w2.heap.size := Nat.lt_of_lt_of_le (Nat.lt_of_lt_of_le HLT.out HBB.out) HB.out.size
    have r0 := (range_below HR0.out (HB.out.mono HBB.out) HLT.out) 0 _ rfl
    rw [Nat.add_zero] at r0
    refine tk0 5 rfl ?_ ?_ ?_
    rotate_left
    ·intro; go_simp <;> with_reducible rfl
    try simp only [Act.put, p1, p2, p3, p4, p5, p6]
    refine tk0 6 rfl ?_ ?_ ?_
    rotate_left
    ·intro; go_simp <;> with_reducible rfl
    try simp only [Act.put, p1, p2, p3, p4, p5, p6]
    refine tk0 7 rfl ?_ ?_ ?_
    rotate_left
    ·intro; go_simp <;> with_reducible rfl
    try simp only [Act.put, p1, p2, p3, p4, p5, p6]
    refine tk 8 rfl ?_ ?_ ?_
    rotate_left
    ·intro w_ hSw; have q0 := (hSw.cell (p := ⟨w.heap.size, 6, none⟩) x3).trans d6; clear hSw; go_simp <;> (with_reducible rfl)
    try simp only [Act.put, p1, p2, p3, p4, p5, p6]
    refine tk0 9 rfl ?_ ?_ ?_
    rotate_left
    ·intro; go_simp <;> with_reducible rfl
    try simp only [Act.put, p1, p2, p3, p4, p5, p6]
    refine tk0 10 rfl ?_ ?_ ?_
    rotate_left
    ·intro; go_simp <;> with_reducible rfl
    try simp only [Act.put, p1, p2, p3, p4, p5, p6]
    refine tk0 11 rfl ?_ ?_ ?_
    rotate_left
    ·intro; go_simp <;> with_reducible rfl
    try simp only [Act.put, p1, p2, p3, p4, p5, p6]
    refine tk0 12 rfl ?_ ?_ ?_
    rotate_left
    ·intro; go_simp <;> with_reducible rfl
    try simp only [Act.put, p1, p2, p3, p4, p5, p6]
    refine tk 13 rfl ?_ ?_ ?_
    rotate_left
    ·intro w_ hSw; clear hSw; have hS := EX; go_simp <;> (with_reducible rfl)
    try simp only [Act.put, p1, p2, p3, p4, p5, p6]
    refine tk 14 rfl ?_ ?_ ?_
    rotate_left
    ·intro w_ hSw; have q0 := (hSw.cell (p := ⟨b1, o1, none⟩) lb1).trans r0; clear hSw; go_simp <;> (with_reducible rfl)
    try simp only [Act.put, p1, p2, p3, p4, p5, p6]
    refine tk0 15 rfl ?_ ?_ ?_
    rotate_left
    ·intro; go_simp <;> with_reducible rfl
    try simp only [Act.put, p1, p2, p3, p4, p5, p6]
    refine tk0 16 rfl ?_ ?_ ?_
    rotate_left
    ·intro; go_simp <;> with_reducible rfl
    try simp only [Act.put, p1, p2, p3, p4, p5, p6]
    refine tk 17 rfl ?_ ?_ ?_
    rotate_left
    ·intro w_ hSw; have q0 := (hSw.cell (p := ⟨w.heap.size, 10, none⟩) x3).trans d10; clear hSw; go_simp <;> (with_reducible rfl)
    try simp only [Act.put, p1, p2, p3, p4, p5, p6]
    refine tk0 18 rfl ?_ ?_ ?_
    rotate_left
    ·intro; go_simp <;> with_reducible rfl
    try simp only [Act.put, p1, p2, p3, p4, p5, p6]
    refine tk0 19 rfl ?_ ?_ ?_
    rotate_left
    ·intro; go_simp <;> with_reducible rfl
    try simp only [Act.put, p1, p2, p3, p4, p5, p6]
    refine wpAnyT_done (by kernel_rfl) ?_ _
    go_wp2
    go_ret
    exact ⟨HF.out, HB.out.trans (hb3.mono HB.out.size)⟩
  ·have bw : ((S.n : Int) != a.win) = true := by rw [bne_iff_ne, ← hlen]; exact hw
   have HF := lh (no fun hq => hw hq.2.1)
   clear yes no hrb hlen hp h hB hrw hw
   go_enter Tryz.func32, Tryz.ntmps32
   go_upto_region 1 with fail
   generalize w.alloc (.cells (axA a S N W) 35) = w2 at X1 HB x3 ⊢
   have ⟨d12, d12f⟩ := k.cell_of X1.out (i := 12) rfl
   have ⟨d6, d6f⟩ := k.cell_of X1.out (i := 6) rfl
   have ⟨d10, d10f⟩ := k.cell_of X1.out (i := 10) rfl
   go_upto_region 2 with fail
   refine wp_region_T (by kernel_rfl) (fun w' => Below w2.heap.size w2 w') [] (Below.refl _ _).drew (fun hHeld => ?_)
   refine tk0 0 rfl ?_ ?_ ?_
   rotate_left
   ·intro; go_simp <;> with_reducible rfl
   try simp only [Act.put, p1, p2, p3, p4, p6]
   refine tk 1 rfl ?_ ?_ ?_
   rotate_left
   ·intro w_ hSw; have q0 := (hSw.cell (p := ⟨w.heap.size, 12, none⟩) x3).trans d12; clear hSw; go_simp <;> (with_reducible rfl)
   try simp only [Act.put, p1, p2, p3, p4, p5, p6]
   refine ry [2] ?_
   refine ar1 rfl fun K hK => ?_
   go_simp
   (go_at_call 55; ((with_reducible refine (CR.out _ HB.out.drew).mono ?_); rintro e w3 ⟨rfl, hb0⟩))
   go_wp2_with fail
   have hb3 := ((Below.refl w2.heap.size w2).drew).trans hb0
   clear hb0
   refine hK.out _ _ hb3 (fun hHeld => ?_)
   clear hK K
   try simp only [Act.put, p1, p2, p3, p4, p5, p6]
   refine tk0 3 rfl ?_ ?_ ?_
   rotate_left
   ·intro; go_simp <;> with_reducible rfl
   try simp only [Act.put, p1, p2, p3, p4, p5, p6]
   refine tk0 4 rfl ?_ ?_ ?_
   rotate_left
   ·intro; go_simp <;> with_reducible rfl
   try simp only [Act.put, p1, p2, p3, p4, p5, p6]
   refine tk0 5 rfl ?_ ?_ ?_
   rotate_left
   ·intro; go_simp <;> with_reducible rfl
   try simp only [Act.put, p1, p2, p3, p4, p5, p6]
   refine tk0 6 rfl ?_ ?_ ?_
   rotate_left
   ·intro; go_simp <;> with_reducible rfl
   try simp only [Act.put, p1, p2, p3, p4, p5, p6]
   refine tk0 7 rfl ?_ ?_ ?_
   rotate_left
   ·intro; go_simp <;> with_reducible rfl
   try simp only [Act.put, p1, p2, p3, p4, p5, p6]
   refine tk 8 rfl ?_ ?_ ?_
   rotate_left
   ·intro w_ hSw; have q0 := (hSw.cell (p := ⟨w.heap.size, 6, none⟩) x3).trans d6; clear hSw; go_simp <;> (with_reducible rfl)
   try simp only [Act.put, p1, p2, p3, p4, p5, p6]
   refine tk0 9 rfl ?_ ?_ ?_
   rotate_left
   ·intro; go_simp <;> with_reducible rfl
   try simp only [Act.put, p1, p2, p3, p4, p5, p6]
   refine tk0 10 rfl ?_ ?_ ?_
   rotate_left
   ·intro; go_simp <;> with_reducible rfl
   try simp only [Act.put, p1, p2, p3, p4, p5, p6]
   refine tk0 11 rfl ?_ ?_ ?_
   rotate_left
   ·intro; go_simp <;> with_reducible rfl
   try simp only [Act.put, p1, p2, p3, p4, p5, p6]
   refine tks 12 rfl ?_
   try simp only [Act.put, p1, p2, p3, p4, p5, p6]
   refine tks 13 rfl ?_
   try simp only [Act.put, p1, p2, p3, p4, p5, p6]
   refine tks 14 rfl ?_
   try simp only [Act.put, p1, p2, p3, p4, p5, p6]
   refine tks 15 rfl ?_
   try simp only [Act.put, p1, p2, p3, p4, p5, p6]
   refine tks 16 rfl ?_
   try simp only [Act.put, p1, p2, p3, p4, p5, p6]
   refine tks 17 rfl ?_
   try simp only [Act.put, p1, p2, p3, p4, p5, p6]
   refine tks 18 rfl ?_
   try simp only [Act.put, p1, p2, p3, p4, p5, p6]
   refine tk0 19 rfl ?_ ?_ ?_
   rotate_left
   ·intro; go_simp <;> with_reducible rfl
   try simp only [Act.put, p1, p2, p3, p4, p5, p6]
   refine wpAnyT_done (by kernel_rfl) ?_ _
   go_wp2
   go_ret
   exact ⟨HF.out, HB.out.trans (hb3.mono HB.out.size)⟩
end Go.Proofs.YtijlccblabadaaaGreat.cx
end
