/- How many parts a program has, whether it is short: the given functions. Condition: at most 2^40 parts. -/
import Derived.Test.YtdefgghhkknnpaaGreatDoorShSzT
namespace Go.Proofs.YtdefgghhkknnpaaGreatDoor.sh
open Go.ChangeShapes Go.WideShapes Go.ChangeAt Go.RowKit Go.Proofs.YtdefgghhkknnpaaGreatDoor Go.Proofs.YtdefgghhkknnpaaGreatDoor.k Go.Proofs.YtdefgghhkknnpaaGreatDoor.rr Go.Proofs.YtdefgghhkknnpaaGreatDoor.tk Go.Proofs.YtdefgghhkknnpaaGreatDoor.tr
set_option linter.unusedVariables false
set_option linter.unusedSimpArgs false

/-- a program's parts, with the stop; how deep they lie -/
def zP (m : Int) (p : Pg) : Int × Int := ((zLs m 0 0 p.body).1 + p.vars.length, (zLs m 0 0 p.body).2)
def shortB (p : Pg) : Bool := decide ((zP 2000 p).1 ≤ 2000) && decide ((p.vars.length : Int) ≤ 100)
set_option maxRecDepth 100000 in
set_option maxHeartbeats 4000000 in
theorem refsizep_any {p : Pg} {h : GH} {w : World} (hp : PgAt w w.heap.size p h) (hW : wsS p.body ≤ 1099511627776) (hV : p.vars.length ≤ 1099511627776) {m : Int} (hm1 : -1099511627776 ≤ m) (hm2 : m ≤ 1099511627776) : Calls Tryz.prog 11 #[.agg (gC h).toArray, .int .i64 m] w fun e w' => e = .returned (.tuple #[.int .i64 (zP m p).1, .int .i64 (zP m p).2]) ∧ Below w.heap.size w w' := by
  obtain ⟨h1, h2, h3⟩ := hp
  have SC := Lib.hid fun W (hb : Below w.heap.size w W) => refsizes_any hW hm1 hm2 (StL.below h3 hb hb.size)
  have hvr : Rd vC 8 w w.heap.size h.vars.A h.vars.l h.vars.c p.vars := h2
  have lv : p.vars.length = h.vars.l := hvr.1
  have hmax : h.vars.l ≤ 1099511627776 := by rw [← lv]; exact hV
  have hz := zLs_le p.body m 0 0 (by decide) (by decide)
  unfold zP
  rw [lv]
  simp only
  obtain ⟨Y, hY⟩ : ∃ Y, zLs m 0 0 p.body = Y := ⟨_, rfl⟩
  rw [hY] at SC hz ⊢
  obtain ⟨a, b⟩ := Y
  simp only at SC hz ⊢
  simp only [Sl.v] at SC
  have w1 : wrap64 (a + (h.vars.l : Int)) = a + h.vars.l := by unfold wrap64; omega
  have HB := Lib.hid (al1 w (.cells (gC h).toArray 25))
  have X1 := Lib.hid (Box.new w (gC h).toArray 25)
  have Z1 := Lib.hid (show w.heap.size < (w.alloc (.cells (gC h).toArray 25)).heap.size by simp)
  have HW1 := Lib.hid w1
  clear h1 h2 h3 hvr lv hmax hz hY w1 hW hV hm1 hm2
  go_enter Tryz.func11, Tryz.ntmps11
  go_upto_region 1 with (fail)
  generalize w.alloc (.cells (gC h).toArray 25) = w1 at *
  have X1 : Hid (Box w1 w.heap.size 0 (gC h)) := X1
  have c2 := (cell_of X1.out (i := 2) rfl).1
  simp only [Sl.v] at c2
  go_wp2_with (go_at_call 26; fail)
  refine (SC.out _ HB.out).mono ?_
  rintro e w2 ⟨rfl, hb⟩
  have B2 := Lib.hid (HB.out.trans (hb.mono HB.out.size))
  have X2 := Lib.hid (X1.out.below hb Z1.out)
  have c1 := (cell_of X2.out (i := 1) rfl).1
  simp only [Sl.v] at c1
  have w3 := HW1.out
  clear hb SC c2 X1 HB
  go_wp2_with fail
  go_ret2
  exact ⟨by rw [HW1.out] <;> rfl, B2.out⟩
set_option maxRecDepth 100000 in
set_option maxHeartbeats 4000000 in
theorem refshort_any {p : Pg} {h : GH} {w : World} (hp : PgAt w w.heap.size p h) (hW : wsS p.body ≤ 1099511627776) (hV : p.vars.length ≤ 1099511627776) : Calls Tryz.prog 7 #[.agg (gC h).toArray] w fun e w' => e = .returned (.bool (shortB p)) ∧ Below w.heap.size w w' := by
  have SC := Lib.hid fun W (hb : Below w.heap.size w W) => refsizep_any (PgAt.below hp hb hb.size) hW hV (m := 2000) (by decide) (by decide)
  obtain ⟨h1, h2, h3⟩ := hp
  have lv : p.vars.length = h.vars.l := (show Rd vC 8 w w.heap.size h.vars.A h.vars.l h.vars.c p.vars from h2).1
  unfold shortB
  rw [lv]
  obtain ⟨Y, hY⟩ : ∃ Y, zP 2000 p = Y := ⟨_, rfl⟩
  rw [hY] at SC ⊢
  obtain ⟨a, b⟩ := Y
  simp only at SC ⊢
  have HB := Lib.hid (al1 w (.cells (gC h).toArray 25))
  have X1 := Lib.hid (Box.new w (gC h).toArray 25)
  have Z1 := Lib.hid (show w.heap.size < (w.alloc (.cells (gC h).toArray 25)).heap.size by simp)
  clear h1 h2 h3 lv hY hW hV
  go_enter Tryz.func7, Tryz.ntmps7
  go_upto_region 1 with (fail)
  generalize w.alloc (.cells (gC h).toArray 25) = w1 at *
  have X1 : Hid (Box w1 w.heap.size 0 (gC h)) := X1
  go_wp2_with (first | ((with_reducible refine m_load X1.out 25 1 ?_ ?_ ?_ ?_ ?_ ?_); rfl; rfl; rfl; rfl; kernel_rfl) | (go_at_call 11; fail))
  refine (SC.out _ HB.out).mono ?_
  rintro e w2 ⟨rfl, hb⟩
  have B2 := Lib.hid (HB.out.trans (hb.mono HB.out.size))
  have X2 := Lib.hid (X1.out.below hb Z1.out)
  have c1 := (cell_of X2.out (i := 1) rfl).1
  simp only [Sl.v] at c1
  clear hb SC X1 HB
  by_cases ha : a ≤ 2000
  · by_cases hv : (h.vars.l : Int) ≤ 100
    · go_wp2_with fail
      go_ret
      exact ⟨by rw [decide_eq_true ha, decide_eq_true hv]; rfl, B2.out⟩
    · go_wp2_with fail
      go_ret
      exact ⟨by rw [decide_eq_true ha, decide_eq_false (show ¬ (h.vars.l : Int) ≤ 100 by omega)]; rfl, B2.out⟩
  · go_wp2_with fail
    go_ret
    exact ⟨by rw [decide_eq_false (show ¬ a ≤ 2000 by omega)]; rfl, B2.out⟩
end Go.Proofs.YtdefgghhkknnpaaGreatDoor.sh
