/- What servitorlaw15's short answers; what was in memory is as it was. No condition beyond what each line says. -/
import Derived.Test.YtijlccblabadaaaGreatU02
import Derived.Test.YtijlccblabadaaaGreatU12
section
namespace Go.Proofs.YtijlccblabadaaaGreat.ax
set_option maxRecDepth 100000
open Go.ChangeShapes Go.WideShapes Go.ChangeAt Go.RowKit Go.Proofs.YtijlccblabadaaaGreat.k Go.Proofs.YtijlccblabadaaaGreat.rr Go.Proofs.YtijlccblabadaaaGreat
open Go.Proofs.YtijlccblabadaaaGreat.ln (C RdC RdI)
set_option linter.unusedVariables false
def shortsB (a : Ax) (n m s : Nat) (L : List IS) : Bool := decide (L.length ≤ 300 ∧ ∀ x ∈ L, shortP a n m s x.2.n = true)
theorem in_at {w : World} {B : Nat} {A : Option Addr} {n cap : Nat} {L : List IS} (h : RdN w B A n cap L) {j : Nat} (hj : j < n) : ∃ b o x, A = some ⟨b, o, none⟩ ∧ b < B ∧ L[j]? = some x ∧ w.rangeAt b (o + j * 12) (inL x.1 x.2) := h.at hj
set_option maxRecDepth 100000 in
set_option maxHeartbeats 4000000 in
theorem short_any (a : Ax) (S N T : Sl) {A : Option Addr} {n cap B : Nat} {L : List IS} {w : World} (h : RdN w B A n cap L) (hB : B ≤ w.heap.size) :
  Calls Tryz.prog 21 #[axV a S N T, .slice A n cap] w fun e w' => e = .returned (.bool (shortsB a N.n T.n S.n L)) ∧ Below w.heap.size w w' := by
 have hlen := h.len_le
 have HN : Hid (L.length = n) := lh h.1
 obtain ⟨x1, x2, x3⟩ := k.boxes1 (w := w) (c1 := axA a S N T) (t1 := 35) (Below.refl _ _)
 have X : Hid (k.Box _ w.heap.size 0 (axC a S N T)) := lh x1
 have HB := lh x2
 have HL := lh ((h.below (x2.mono hB)).more (Nat.le_trans hB x2.size))
 clear x1 x2 h hB
 by_cases h3 : n ≤ 300
 ·have i3 : (n : Int) ≤ 300 := by omega
  skip
  go_enter Tryz.func21, Tryz.ntmps21
  go_upto_region 1 with fail
  generalize w.alloc (.cells (axA a S N T) 35) = w2 at X HB HL x3 ⊢
  go_wp2
  go_loopw [5] (fun i wr => ∃ j : Nat, j ≤ n ∧ i = .int .i64 j ∧ (∀ q x, q < j → L[q]? = some x → shortP a N.n T.n S.n x.2.n = true) ∧ k.Box wr w.heap.size 0 (axC a S N T) ∧ RdN wr wr.heap.size A n cap L ∧ Below w.heap.size w wr ∧ w.heap.size < wr.heap.size) (fun i _ => n - (intOf i).toNat)
  case atStart => exact ⟨0, Nat.zero_le _, rfl, fun q x hq => absurd hq (Nat.not_lt_zero _), X.out, HL.out, HB.out, x3⟩
  case round =>
   clear X HB HL x3
   obtain ⟨j, hj, rfl, hs, hx, hl, hb, hz⟩ := hrel
   have X := lh hx
   have HL := lh hl
   have HB := lh hb
   have HS := lh hs
   clear hx hl hb hs
   by_cases hlt : j < n
   ·obtain ⟨bI, oI, y, rfl, hbI, hy, hr⟩ := in_at HL.out hlt
    have HI := lh hr
    have HY := lh hy
    have hj0 : (0 : Int) ≤ (j : Int) := by omega
    have hj1 : (j : Int) < (n : Int) := by omega
    clear hr hy
    obtain ⟨sb, hsb⟩ : ∃ sb, shortP a N.n T.n S.n y.2.n = sb := ⟨_, rfl⟩
    have CS := lh fun (W : World) => refshort_any a S N T y.1 y.2 W
    rw [hsb] at CS
    have HE := lh hsb
    clear hsb
    go_upto_region 6 with fail
    refine wp_region_T (by kernel_rfl) (fun w' => Below wr.heap.size wr w') [] (Below.refl _ _).drew (fun hHeld => ?_)
    refine tkv 0 rfl (axV a S N T) (by exact m_y_ax X.out hz 2 rfl rfl rfl) ?_
    try go_simp
    refine tk0 1 rfl ?_ ?_ ?_
    rotate_left
    ·intro; go_simp <;> with_reducible rfl
    try go_simp
    refine tk0 2 rfl ?_ ?_ ?_
    rotate_left
    ·intro; go_simp <;> with_reducible rfl
    try go_simp
    refine tk0 3 rfl ?_ ?_ ?_
    rotate_left
    ·intro; go_simp <;> with_reducible rfl
    try go_simp
    refine tkv 4 rfl (inV y.1 y.2) (by exact m_y_in HI.out hbI 18 rfl rfl rfl) ?_
    try go_simp
    refine ry [5] ?_
    refine ar1 rfl fun K hK => ?_
    go_simp
    (go_at_call 15; ((with_reducible refine (CS.out _).mono ?_); rintro e w4 ⟨rfl, hb0⟩))
    go_wp2_with fail
    have hb : Below wr.heap.size wr w4 := ((Below.refl _ _).drew).trans hb0
    have X := lh (X.out.below hb hz)
    have hz4 := Nat.lt_of_lt_of_le hz hb.size
    have HL := lh ((HL.out.below hb).more hb.size)
    have HB := lh (HB.out.trans (hb.mono HB.out.size))
    refine hK.out _ _ hb (fun hHeld => ?_)
    clear hK K
    try go_simp
    clear hb hb0 CS HI
    refine tk0 6 rfl ?_ ?_ ?_
    rotate_left
    ·intro; go_simp <;> with_reducible rfl
    try go_simp
    refine wpAnyT_done (by kernel_rfl) ?_ _
    cases sb
    ·have HF : Hid (shortsB a N.n T.n S.n L = false) := lh (decide_eq_false fun q => by have := q.2 y (List.mem_of_getElem? HY.out); rw [HE.out] at this; cases this)
     go_wp2
     go_ret
     exact ⟨ret_bool HF.out.symm, HB.out⟩
    ·go_wp2
     go_roundw
     case rel => exact ⟨j + 1, by omega, by go_num, fun q x hq hx => by rcases Nat.lt_succ_iff_lt_or_eq.1 hq with h1 | rfl; exact HS.out q x h1 hx; (rw [HY.out] at hx; injection hx with hx; rw [← hx]; exact HE.out), X.out, HL.out, HB.out, hz4⟩
     case measure => simp [intOf]; omega
   ·have hjl : j = n := by omega
    have hj1 : ¬ (j : Int) < (n : Int) := by omega
    have HF : Hid (shortsB a N.n T.n S.n L = true) := lh (decide_eq_true ⟨by rw [HN.out]; omega, fun x hx => by obtain ⟨q, hq, e⟩ := List.getElem_of_mem hx; exact HS.out q x (by rw [hjl, ← HN.out]; exact hq) (by rw [List.getElem?_eq_getElem hq, e])⟩)
    clear hlt hj hjl
    go_wp2
    go_ret
    exact ⟨ret_bool HF.out.symm, HB.out⟩
 ·have i3 : decide ((n : Int) ≤ 300) = false := decide_eq_false (by omega)
  have i4 : (300 : Int) < (n : Int) := by omega
  have HF : Hid (shortsB a N.n T.n S.n L = false) := lh (decide_eq_false fun q => by have := q.1; rw [HN.out] at this; exact h3 this)
  clear h3
  go_enter Tryz.func21, Tryz.ntmps21
  go_upto_region 1 with fail
  generalize w.alloc (.cells (axA a S N T) 35) = w2 at X HB HL x3 ⊢
  go_wp2
  go_ret
  exact ⟨ret_bool HF.out.symm, HB.out⟩
end Go.Proofs.YtijlccblabadaaaGreat.ax
end
