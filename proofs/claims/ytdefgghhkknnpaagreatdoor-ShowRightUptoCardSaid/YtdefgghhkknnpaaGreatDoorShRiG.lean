/- The landed checks of variables and of programs. Conditions: the library's variable MaxLen holds some number; a program has at most 2^40 parts. -/
import Derived.Test.YtdefgghhkknnpaaGreatDoorV05
import Derived.Test.YtdefgghhkknnpaaGreatDoorU11
namespace Go.Proofs.YtdefgghhkknnpaaGreatDoor.sh
open Go.ChangeShapes Go.WideShapes Go.ChangeAt Go.RowKit Go.Proofs.YtdefgghhkknnpaaGreatDoor.k Go.Proofs.YtdefgghhkknnpaaGreatDoor.rr Go.Proofs.YtdefgghhkknnpaaGreatDoor.tk Go.Proofs.YtdefgghhkknnpaaGreatDoor.tr
set_option linter.unusedVariables false
set_option linter.unusedSimpArgs false

def kindL : List Int := [10, 11, 12, 13, 14, 15, 16, 17, 18, 20, 21, 22, 23, 24, 25, 26, 27, 28, 29, 30, 31]
theorem kind_all : kindL.all (fun n => decide ((sd.shapeOf n).name = ⟨(kindS n).toArray⟩) && (kinds.any (fun k => k.2 == n) && (!(kindS n == [])))) = true := by kernel_rfl
theorem kind_none {n : Int} (h : n ∉ kindL) : (sd.shapeOf n).name = ⟨#[]⟩ ∧ kindS n = [] ∧ kinds.any (fun k => k.2 == n) = false := by
  have hk : ∀ k ∈ kinds, k.2 ≠ n := fun k hk e => h (by
    have : kinds.all (fun k => kindL.contains k.2) = true := by decide
    rw [List.all_eq_true] at this
    have h2 := this k hk
    rw [List.contains_iff_mem] at h2
    exact e ▸ h2)
  have hf : kinds.any (fun k => k.2 == n) = false := by
    rw [List.any_eq_false]
    intro k hk2
    simpa using hk k hk2
  refine ⟨?_, ?_, hf⟩
  · have hs : ∀ l : List (Int × sd.Sh), (∀ p ∈ l, p.1 ≠ n) → ∀ d, sd.shIn d l n = d := by
      intro l
      induction l with
      | nil => intro _ d; rfl
      | cons p l ih =>
        intro hl d
        obtain ⟨k, s⟩ := p
        have h1 := hl _ (List.mem_cons_self ..)
        have h2 := ih (fun q hq => hl q (List.mem_cons_of_mem _ hq)) d
        simp only at h1
        rw [sd.shIn, if_neg (by simpa using Ne.symm h1)]
        exact h2
    have a1 : (sd.shA ++ sd.shM).all (fun p => kindL.contains p.1) = true := by decide
    rw [List.all_eq_true] at a1
    have a2 : ∀ p ∈ sd.shA ++ sd.shM, p.1 ≠ n := fun p hp e => h (by have := a1 p hp; rw [List.contains_iff_mem] at this; exact e ▸ this)
    unfold sd.shapeOf sd.motionOf
    rw [hs _ (fun p hp => a2 p (List.mem_append_left _ hp)), hs _ (fun p hp => a2 p (List.mem_append_right _ hp))]
    rfl
  · unfold kindS
    have : kinds.find? (fun k => k.2 == n) = none := by
      rw [List.find?_eq_none]
      intro k hk2
      simpa using hk k hk2
    rw [this]
theorem kind_name (n : Int) : (sd.shapeOf n).name = ⟨(kindS n).toArray⟩ ∧ kinds.any (fun k => k.2 == n) = !(kindS n == []) := by
  by_cases h : n ∈ kindL
  · have := kind_all
    rw [List.all_eq_true] at this
    have h2 := this n h
    simp only [Bool.and_eq_true, decide_eq_true_eq] at h2
    exact ⟨h2.1, by rw [h2.2.1, h2.2.2]⟩
  · obtain ⟨a, b, c⟩ := kind_none h
    rw [a, b, c]
    exact ⟨rfl, rfl⟩
/-- the library std's Name -/
theorem stdName_any (n : Int) (w : World) : Calls Tryz.prog 62 #[.int .i64 n] w fun e w' => e = .returned (sv (kindS n)) ∧ Below w.heap.size w w' := by
  have := sd.name_of n w
  rw [(kind_name n).1] at this
  exact this
set_option maxRecDepth 100000 in
set_option maxHeartbeats 4000000 in
theorem section_any (n : Int) (w : World) : Calls Tryz.prog 36 #[.int .i64 n] w fun e w' => e = .returned (sv (secS n)) ∧ w' = w := by
  by_cases e0 : n = 0
  · subst e0
    go_enter Tryz.func36, Tryz.ntmps36
    go_wp2
    go_ret
    exact ⟨rfl, rfl⟩
  by_cases e1 : n = 1
  · subst e1
    go_enter Tryz.func36, Tryz.ntmps36
    go_wp2
    go_ret
    exact ⟨rfl, rfl⟩
  by_cases e2 : n = 2
  · subst e2
    go_enter Tryz.func36, Tryz.ntmps36
    go_wp2
    go_ret
    exact ⟨rfl, rfl⟩
  rw [secS, if_neg e0, if_neg e1, if_neg e2]
  have z0 := neb e0
  have z1 := neb e1
  have z2 := neb e2
  clear e0 e1 e2
  go_enter Tryz.func36, Tryz.ntmps36
  go_wp2
  go_ret
  exact ⟨rfl, rfl⟩
set_option maxRecDepth 100000 in
set_option maxHeartbeats 4000000 in
theorem plain_any (n : Int) (w : World) : Calls Tryz.prog 59 #[.int .i64 n] w fun e w' => e = .returned (sv (plainS n)) ∧ w' = w := by
  by_cases e1 : n = 1
  · subst e1
    go_enter Tryz.func59, Tryz.ntmps59
    go_wp2
    go_ret
    exact ⟨rfl, rfl⟩
  by_cases e2 : n = 2
  · subst e2
    go_enter Tryz.func59, Tryz.ntmps59
    go_wp2
    go_ret
    exact ⟨rfl, rfl⟩
  rw [plainS, if_neg e1, if_neg e2]
  have z1 := neb e1
  have z2 := neb e2
  clear e1 e2
  go_enter Tryz.func59, Tryz.ntmps59
  go_wp2
  go_ret
  exact ⟨rfl, rfl⟩
set_option maxRecDepth 100000 in
set_option maxHeartbeats 4000000 in
/-- whether a variable's type, its bounds and its value may be -/
theorem rightType_any (v : Va) (w : World) : Calls Tryz.prog 55 #[.agg (vC v).toArray] w fun e w' => e = .returned (.bool (typeB v)) ∧ Below w.heap.size w w' := by
  have PL := Lib.hid fun W => plain_any v.type W
  have SG := Lib.hid fun W => signed_any v.init W
  have NM := Lib.hid fun W => stdName_any v.type W
  have KN := (kind_name v.type).2
  have k0 := str_no (kindS v.type) _ rfl
  have p0 := str_no (plainS v.type) _ rfl
  obtain ⟨nm, ty, se, ar, lo, hi, ini, ln⟩ := v
  simp only at PL SG NM KN k0 p0
  unfold typeB
  simp only
  rw [KN]
  have hp : (ty == 1 || ty == 2) = !(plainS ty == []) := by
    unfold plainS
    by_cases h1 : ty = 1
    · subst h1; rfl
    by_cases h2 : ty = 2
    · subst h2; rfl
    rw [if_neg h1, if_neg h2, neb h1, neb h2]
    rfl
  rw [hp]
  simp only [vC, sv]
  unfold sv at PL NM
  have HB := Lib.hid (al1 w (.cells #[.string ⟨nm.toArray⟩, .int .i64 ty, .int .i64 se, .bool ar, .int .i64 lo, .int .i64 hi, .int .i64 ini, .int .i64 ln] 60))
  have X1 := Lib.hid (Box.new w #[.string ⟨nm.toArray⟩, .int .i64 ty, .int .i64 se, .bool ar, .int .i64 lo, .int .i64 hi, .int .i64 ini, .int .i64 ln] 60)
  have k1 : (⟨(kindS ty).toArray⟩ : ByteArray).toList.isEmpty = (kindS ty == []) := by rw [← k0]; cases (⟨(kindS ty).toArray⟩ : ByteArray).toList <;> rfl
  have p1 : (⟨(plainS ty).toArray⟩ : ByteArray).toList.isEmpty = (plainS ty == []) := by rw [← p0]; cases (⟨(plainS ty).toArray⟩ : ByteArray).toList <;> rfl
  clear KN hp k0 p0
  generalize (⟨(kindS ty).toArray⟩ : ByteArray) = xk at *
  generalize (⟨(plainS ty).toArray⟩ : ByteArray) = xp at *
  generalize (⟨nm.toArray⟩ : ByteArray) = xn at *
  generalize (kindS ty == []) = uk at *
  generalize (plainS ty == []) = up at *
  obtain ⟨R, hR⟩ : ∃ R, (if ar = true then !up && (decide (0 ≤ lo) && (decide (lo ≤ hi) && (decide (hi ≤ 255) && ini == 0))) else if lo ≠ 0 ∨ hi ≠ 0 then false else if ty = 1 then ini != -9223372036854775808 else if ty = 2 then ini == 0 || ini == 1 else !uk && ini == 0) = R := ⟨_, rfl⟩
  rw [hR]
  have HR := Lib.hid hR
  clear hR
  go_enter Tryz.func55, Tryz.ntmps55
  go_upto_region 1 with (fail)
  generalize w.alloc (.cells #[.string xn, .int .i64 ty, .int .i64 se, .bool ar, .int .i64 lo, .int .i64 hi, .int .i64 ini, .int .i64 ln] 60) = w1 at *
  have ZZ := Lib.hid (show w.heap.size < w1.heap.size from lt_of_cell X1.out.1)
  have ⟨_, _, c1, _, _, _, c3, _, c4, _, c5, _, c6, _, _⟩ := X1.out
  cases ar
  rotate_left 1
  · go_wp2_with (go_at_call 59; fail)
    refine (PL.out _).mono ?_
    rintro e w2 ⟨rfl, rfl⟩
    clear PL SG NM k1
    cases up
    rotate_left 1
    · have HF := Lib.hid (show false = R by rw [← HR.out, if_pos trivial]; rfl)
      go_wp2_with fail
      go_ret
      exact ⟨ret_bool HF.out, HB.out⟩
    by_cases h1 : 0 ≤ lo
    rotate_left 1
    · have HF := Lib.hid (show false = R by rw [← HR.out, if_pos trivial, decide_eq_false h1]; rfl)
      go_wp2_with fail
      go_ret
      exact ⟨ret_bool HF.out, HB.out⟩
    by_cases h2 : lo ≤ hi
    rotate_left 1
    · have HF := Lib.hid (show false = R by rw [← HR.out, if_pos trivial, decide_eq_true h1, decide_eq_false h2]; rfl)
      go_wp2_with fail
      go_ret
      exact ⟨ret_bool HF.out, HB.out⟩
    by_cases h3 : hi ≤ 255
    rotate_left 1
    · have HF := Lib.hid (show false = R by rw [← HR.out, if_pos trivial, decide_eq_true h1, decide_eq_true h2, decide_eq_false h3]; rfl)
      go_wp2_with fail
      go_ret
      exact ⟨ret_bool HF.out, HB.out⟩
    have HF := Lib.hid (show (ini == 0) = R by rw [← HR.out, if_pos trivial, decide_eq_true h1, decide_eq_true h2, decide_eq_true h3]; rfl)
    go_wp2_with fail
    go_ret
    exact ⟨ret_bool HF.out, HB.out⟩
  clear PL p1
  by_cases h1 : lo = 0
  rotate_left 1
  · have HF := Lib.hid (show false = R by rw [← HR.out, if_neg (by decide), if_pos (Or.inl h1)])
    have z1 : (lo != 0) = true := by rw [bne_iff_ne]; exact h1
    clear h1
    go_wp2_with fail
    go_ret
    exact ⟨ret_bool HF.out, HB.out⟩
  by_cases h2 : hi = 0
  rotate_left 1
  · have HF := Lib.hid (show false = R by rw [← HR.out, if_neg (by decide), if_pos (Or.inr h2)])
    have z2 : (hi != 0) = true := by rw [bne_iff_ne]; exact h2
    subst h1
    clear h2
    go_wp2_with fail
    go_ret
    exact ⟨ret_bool HF.out, HB.out⟩
  subst h1 h2
  by_cases e1 : ty = 1
  · subst e1
    have HF := Lib.hid (show (ini != -9223372036854775808) = R by rw [← HR.out, if_neg (by decide), if_neg (by simp), if_pos rfl])
    clear NM k1
    go_wp2_with (go_at_call 86; fail)
    refine (SG.out _).mono ?_
    rintro e w2 ⟨rfl, hb⟩
    have B2 := Lib.hid (HB.out.trans (hb.mono HB.out.size))
    clear hb SG
    go_wp2_with fail
    go_ret
    exact ⟨ret_bool HF.out, B2.out⟩
  clear SG
  by_cases e2 : ty = 2
  · subst e2
    clear NM k1
    obtain ⟨u1, h1⟩ : ∃ u, (ini == 0) = u := ⟨_, rfl⟩
    obtain ⟨u2, h2⟩ : ∃ u, (ini == 1) = u := ⟨_, rfl⟩
    have HF := Lib.hid (show (u1 || u2) = R by rw [← HR.out, if_neg (by decide), if_neg (by simp), if_neg (by decide), if_pos rfl, h1, h2])
    cases u1
    · go_wp2_with fail
      go_ret
      exact ⟨ret_bool HF.out, HB.out⟩
    · go_wp2_with fail
      go_ret
      exact ⟨ret_bool HF.out, HB.out⟩
  have HF := Lib.hid (show (!uk && ini == 0) = R by rw [← HR.out, if_neg (by decide), if_neg (by simp), if_neg e1, if_neg e2])
  have z1 := neb e1
  have z2 := neb e2
  clear e1 e2
  have hbx : Box w1 w.heap.size 0 [.string xn, .int .i64 ty, .int .i64 se, .bool false, .int .i64 0, .int .i64 0, .int .i64 ini, .int .i64 ln] := X1.out
  have XB := Lib.hid hbx
  clear hbx
  go_wp2_with (go_at_call 62; fail)
  refine (NM.out _).mono ?_
  rintro e w2 ⟨rfl, hb⟩
  have B2 := Lib.hid (HB.out.trans (hb.mono HB.out.size))
  have X2 := Lib.hid (XB.out.below hb (by have := ZZ.out; omega))
  clear hb NM c1 c3 c4 c5 c6 XB
  have ⟨_, _, c1, _, _, _, c3, _, c4, _, c5, _, c6, _, _⟩ := X2.out
  cases uk
  · go_wp2_with fail
    go_ret
    exact ⟨ret_bool HF.out, B2.out⟩
  · go_wp2_with fail
    go_ret
    exact ⟨ret_bool HF.out, B2.out⟩
theorem sec_no (n : Int) : (secS n == []) = !(n == 0 || (n == 1 || n == 2)) := by
  unfold secS
  by_cases h0 : n = 0
  · subst h0; rfl
  by_cases h1 : n = 1
  · subst h1; rfl
  by_cases h2 : n = 2
  · subst h2; rfl
  rw [if_neg h0, if_neg h1, if_neg h2, neb h0, neb h1, neb h2]
  rfl
set_option maxRecDepth 100000 in
set_option maxHeartbeats 4000000 in
theorem rightVar_any (v : Va) (w : World) (hM : MaxL w) : Calls Tryz.prog 33 #[.agg (vC v).toArray] w fun e w' => e = .returned (.bool (vaB v)) ∧ Below w.heap.size w w' := by
  have C1 := Lib.hid fun W (hW : Below w.heap.size w W) => isName_any ⟨v.name.toArray⟩ W (hM.below hW)
  rw [sv_list] at C1
  have C2 := Lib.hid fun W => section_any v.sect W
  have C3 := Lib.hid fun W => rightType_any v W
  have s0 := str_no (secS v.sect) _ rfl
  have s1 : (⟨(secS v.sect).toArray⟩ : ByteArray).toList.isEmpty = (secS v.sect == []) := by rw [← s0]; cases (⟨(secS v.sect).toArray⟩ : ByteArray).toList <;> rfl
  unfold vaB
  rw [show (v.sect == 0 || (v.sect == 1 || v.sect == 2)) = !(secS v.sect == []) by rw [sec_no, Bool.not_not]]
  unfold sv at C2
  generalize (⟨(secS v.sect).toArray⟩ : ByteArray) = xs at *
  generalize (secS v.sect == []) = u2 at *
  generalize nmB v.name = u1 at *
  generalize typeB v = u3 at *
  clear hM s0
  have HB := Lib.hid (al1 w (.cells (vC v).toArray 60))
  have X1 := Lib.hid (Box.new w (vC v).toArray 60)
  have Z1 := Lib.hid (show (w.alloc (.cells (vC v).toArray 60)).heap.size = w.heap.size + 1 by simp)
  obtain ⟨R, hR⟩ : ∃ R, (u1 && (!u2 && u3)) = R := ⟨_, rfl⟩
  rw [hR]
  have HR := Lib.hid hR
  clear hR
  go_enter Tryz.func33, Tryz.ntmps33
  go_upto_region 1 with (fail)
  generalize w.alloc (.cells (vC v).toArray 60) = w1 at *
  have X1 : Hid (Box w1 w.heap.size 0 (vC v)) := X1
  have c0 := (cell_of X1.out (i := 0) rfl).1
  simp only [sv] at c0
  go_wp2_with (go_at_call 31; fail)
  refine (C1.out _ HB.out).mono ?_
  rintro e w2 ⟨rfl, hb⟩
  have X2 := Lib.hid (X1.out.below hb (by have := Z1.out; omega))
  have B2 := Lib.hid (HB.out.trans (hb.mono HB.out.size))
  clear hb c0 C1
  have c2 := (cell_of X2.out (i := 2) rfl).1
  cases u1
  · have HF := Lib.hid (show false = R by rw [← HR.out]; rfl)
    go_wp2_with fail
    go_ret
    exact ⟨ret_bool HF.out, B2.out⟩
  go_wp2_with (go_at_call 36; fail)
  refine (C2.out _).mono ?_
  rintro e w3 ⟨rfl, rfl⟩
  cases u2
  rotate_left 1
  · have HF := Lib.hid (show false = R by rw [← HR.out]; rfl)
    go_wp2_with fail
    go_ret
    exact ⟨ret_bool HF.out, B2.out⟩
  have HF := Lib.hid (show u3 = R by rw [← HR.out]; simp)
  go_wp2_with (first | ((with_reducible refine m_load X2.out 60 1 ?_ ?_ ?_ ?_ ?_ ?_); rfl; rfl; rfl; rfl; kernel_rfl) | (go_at_call 55; fail))
  refine (C3.out _).mono ?_
  rintro e w4 ⟨rfl, hb⟩
  have B4 := Lib.hid (B2.out.trans (hb.mono B2.out.size))
  clear hb
  go_wp2_with fail
  go_ret
  exact ⟨ret_bool HF.out, B4.out⟩
def wG (p : Pg) : Nat := wsS p.body + p.vars.length
set_option maxRecDepth 100000 in
set_option maxHeartbeats 4000000 in
/-- whether some text could be read as a program -/
theorem rightProgram_any {p : Pg} {h : GH} {w : World} (hM : MaxL w) (hp : PgAt w w.heap.size p h) (hW : wsS p.body ≤ big) : Calls Tryz.prog 14 #[.agg (gC h).toArray] w fun e w' => e = .returned (.bool (pgB p)) ∧ Below w.heap.size w w' := by
  obtain ⟨h1, h2, h3⟩ := hp
  obtain ⟨nm, ⟨A1, l1, c1⟩, ⟨A2, l2, c2⟩⟩ := h
  simp only at h1 h2 h3
  subst h1
  have lv : p.vars.length = l1 := h2.1
  have C1 := Lib.hid fun W (hW : Below w.heap.size w W) => isName_any ⟨p.name.toArray⟩ W (hM.below hW)
  rw [sv_list] at C1
  have C2 := Lib.hid fun W (hW : Below w.heap.size w W) => (show Calls Tryz.prog 32 #[.slice A1 l1 c1, .func (.func 33) #[] #[]] W fun e w' => e = .returned (.bool (p.vars.all vaB)) ∧ Below W.heap.size W w' from
    all_v (h2.below hW hW.size) (fun i => (p.vars.drop i).all vaB) (fun i => (p.vars[i]?.map vaB).getD false) _ rfl (by show (p.vars.drop l1).all vaB = true; rw [List.drop_of_length_le (by omega)]; rfl) (fun i hi => row_all (by simp only at hi; omega) _)
      (fun i x hx W' hW' => by rw [at_get hx]; exact rightVar_any x W' ((hM.below hW).below hW')))
  have C3 := Lib.hid fun W (hW' : Below w.heap.size w W) => right_sl hW (hM.below hW') (h3.below hW' hW'.size)
  unfold pgB
  rw [lv]
  have h64 : decide ((l1 : Int) ≤ 64) = decide (l1 ≤ 64) := by simp only [decide_eq_decide]; omega
  generalize nmB p.name = u1 at *
  generalize p.vars.all vaB = u3 at *
  generalize stsB p.body = u4 at *
  clear hM hW h2 h3 lv
  simp only [gC, sv, Sl.v] at C3 ⊢
  generalize (⟨p.name.toArray⟩ : ByteArray) = xs at *
  have HB := Lib.hid (al1 w (.cells #[.string xs, .slice A1 l1 c1, .slice A2 l2 c2] 25))
  have X1 := Lib.hid (Box.new w #[.string xs, .slice A1 l1 c1, .slice A2 l2 c2] 25)
  have Z1 := Lib.hid (show (w.alloc (.cells #[.string xs, .slice A1 l1 c1, .slice A2 l2 c2] 25)).heap.size = w.heap.size + 1 by simp)
  obtain ⟨R, hR⟩ : ∃ R, (u1 && (decide (l1 ≤ 64) && (u3 && u4))) = R := ⟨_, rfl⟩
  rw [hR]
  have HR := Lib.hid hR
  clear hR
  go_enter Tryz.func14, Tryz.ntmps14
  go_upto_region 1 with (fail)
  generalize w.alloc (.cells #[.string xs, .slice A1 l1 c1, .slice A2 l2 c2] 25) = w1 at *
  have ⟨c0, _, _, _, _, _, _⟩ := X1.out
  go_wp2_with (go_at_call 31; fail)
  refine (C1.out _ HB.out).mono ?_
  rintro e w2 ⟨rfl, hb⟩
  have X2 := Lib.hid (X1.out.below hb (by have := Z1.out; omega))
  have B2 := Lib.hid (HB.out.trans (hb.mono HB.out.size))
  have Z2 := Lib.hid (show w.heap.size < w2.heap.size by have := Z1.out; have := hb.size; omega)
  clear hb c0 C1 X1
  have ⟨c0, _, c1, _, c2, _, _⟩ := X2.out
  cases u1
  · have HF := Lib.hid (show false = R by rw [← HR.out]; rfl)
    go_wp2_with fail
    go_ret
    exact ⟨ret_bool HF.out, B2.out⟩
  by_cases h6 : l1 ≤ 64
  rotate_left 1
  · have HF := Lib.hid (show false = R by rw [← HR.out, decide_eq_false h6]; rfl)
    have h6' : ¬ (l1 : Int) ≤ 64 := by omega
    clear h6 h64
    go_wp2_with fail
    go_ret
    exact ⟨ret_bool HF.out, B2.out⟩
  have HR2 := Lib.hid (show (u3 && u4) = R by rw [← HR.out, decide_eq_true h6]; rfl)
  have h6' : (l1 : Int) ≤ 64 := by omega
  clear h6 h64 HR
  go_wp2_with (go_at_call 32; fail)
  refine (C2.out _ B2.out).mono ?_
  rintro e w3 ⟨rfl, hb⟩
  have X3 := Lib.hid (X2.out.below hb Z2.out)
  have B3 := Lib.hid (B2.out.trans (hb.mono B2.out.size))
  clear hb c0 c1 c2 C2 X2
  have ⟨c0, _, c1, _, c2, _, _⟩ := X3.out
  cases u3
  · have HF := Lib.hid (show false = R by rw [← HR2.out]; rfl)
    go_wp2_with fail
    go_ret
    exact ⟨ret_bool HF.out, B3.out⟩
  have HF := Lib.hid (show u4 = R by rw [← HR2.out]; rfl)
  go_wp2_with (go_at_call 34; fail)
  refine (C3.out _ B3.out).mono ?_
  rintro e w4 ⟨rfl, hb⟩
  have B4 := Lib.hid (B3.out.trans (hb.mono B3.out.size))
  clear hb c0 c1 c2 C3 X3
  go_wp2_with fail
  go_ret
  exact ⟨ret_bool HF.out, B4.out⟩
end Go.Proofs.YtdefgghhkknnpaaGreatDoor.sh
