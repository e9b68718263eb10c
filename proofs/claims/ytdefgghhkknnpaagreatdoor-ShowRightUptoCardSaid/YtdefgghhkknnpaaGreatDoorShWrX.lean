/- The landed text of a variable's type. Conditions: the variable is such that a text could give; the table of powers of ten lies as the library lays it. -/
import Derived.Test.YtdefgghhkknnpaaGreatDoorShWrW
import Derived.Test.YtdefgghhkknnpaaGreatDoorShRiG
import Derived.Lib.ItoaLen
namespace Go.Proofs.YtdefgghhkknnpaaGreatDoor.sh
open Go.ChangeShapes Go.WideShapes Go.ChangeAt Go.RowKit Go.Proofs.YtdefgghhkknnpaaGreatDoor Go.Proofs.YtdefgghhkknnpaaGreatDoor.k Go.Proofs.YtdefgghhkknnpaaGreatDoor.rr Go.Proofs.YtdefgghhkknnpaaGreatDoor.tk Go.Proofs.YtdefgghhkknnpaaGreatDoor.tr
set_option linter.unusedVariables false
set_option linter.unusedSimpArgs false

theorem num_len {n : Int} (h : InI n) : (numS n).length ≤ 21 := Lib.itoa_length_le n h.1 h.2
def arT : Str := [65, 82, 82, 65, 89, 91]
set_option maxRecDepth 100000 in
set_option maxHeartbeats 16000000 in
theorem typeText_any (v : Va) (hv : typeB v = true) (hi : InI v.init) (w : World) (hL : Laid w) : Calls Tryz.prog 37 #[.agg (vC v).toArray] w fun e w' => e = .returned (sv (typeS v)) ∧ Below w.heap.size w w' := by
  have PL := Lib.hid fun W => plain_any v.type W
  have NM := Lib.hid fun W => stdName_any v.type W
  have LL := Lib.hid fun W (hW : Below w.heap.size w W) => hL.below hW
  obtain ⟨nm, ty, se, ar, lo, hi', ini, ln⟩ := v
  simp only at PL NM hi
  unfold typeS
  simp only [vC, sv]
  unfold sv at PL NM
  have HB := Lib.hid (al1 w (.cells #[.string ⟨nm.toArray⟩, .int .i64 ty, .int .i64 se, .bool ar, .int .i64 lo, .int .i64 hi', .int .i64 ini, .int .i64 ln] 60))
  have X1 := Lib.hid (Box.new w #[.string ⟨nm.toArray⟩, .int .i64 ty, .int .i64 se, .bool ar, .int .i64 lo, .int .i64 hi', .int .i64 ini, .int .i64 ln] 60)
  have Z1 := Lib.hid (show (w.alloc (.cells #[.string ⟨nm.toArray⟩, .int .i64 ty, .int .i64 se, .bool ar, .int .i64 lo, .int .i64 hi', .int .i64 ini, .int .i64 ln] 60)).heap.size = w.heap.size + 1 by simp)
  generalize (⟨nm.toArray⟩ : ByteArray) = xn at *
  have pl : (plainS ty).length ≤ 4 := by
    unfold plainS
    split
    · decide
    · split <;> decide
  unfold typeB at hv
  simp only at hv
  cases ar
  rotate_left 1
  · rw [if_pos rfl] at hv ⊢
    simp only [Bool.and_eq_true, decide_eq_true_eq] at hv
    have il : InI lo := ⟨by omega, by omega⟩
    have ih : InI hi' := ⟨by omega, by omega⟩
    have IL := Lib.hid il
    have IH := Lib.hid ih
    have l1 := num_len il
    have l2 := num_len ih
    obtain ⟨T, hT⟩ : ∃ T, [65, 82, 82, 65, 89, 91] ++ numS lo ++ [46, 46] ++ numS hi' ++ [93, 32, 79, 70, 32] ++ plainS ty = T := ⟨_, rfl⟩
    rw [hT]
    have HTX : Hid ((⟨#[65, 82, 82, 65, 89, 91]⟩ : ByteArray) ++ ⟨(numS lo).toArray⟩ ++ ⟨#[46, 46]⟩ ++ ⟨(numS hi').toArray⟩ ++ ⟨#[93, 32, 79, 70, 32]⟩ ++ ⟨(plainS ty).toArray⟩ = ⟨T.toArray⟩) := Lib.hid (by
      rw [← hT, show (⟨#[65, 82, 82, 65, 89, 91]⟩ : ByteArray) = ⟨([65, 82, 82, 65, 89, 91] : Str).toArray⟩ from rfl, show (⟨#[46, 46]⟩ : ByteArray) = ⟨([46, 46] : Str).toArray⟩ from rfl, show (⟨#[93, 32, 79, 70, 32]⟩ : ByteArray) = ⟨([93, 32, 79, 70, 32] : Str).toArray⟩ from rfl]
      simp only [cat_sv])
    have s1 : (⟨(numS lo).toArray⟩ : ByteArray).size ≤ 21 := l1
    have s2 : (⟨(numS hi').toArray⟩ : ByteArray).size ≤ 21 := l2
    have s3 : (⟨(plainS ty).toArray⟩ : ByteArray).size ≤ 4 := pl
    have DL := Lib.hid fun W h => decimal_any lo il W h
    have DH := Lib.hid fun W h => decimal_any hi' ih W h
    unfold sv at DL DH
    generalize (⟨(numS lo).toArray⟩ : ByteArray) = xlo at *
    generalize (⟨(numS hi').toArray⟩ : ByteArray) = xhi at *
    generalize (⟨(plainS ty).toArray⟩ : ByteArray) = xp at *
    have q1 : ¬ 9223372036854775807 < 6 + xlo.size := by omega
    have q2 : ¬ 9223372036854775807 < 6 + xlo.size + 2 := by omega
    have q3 : ¬ 9223372036854775807 < 6 + xlo.size + 2 + xhi.size := by omega
    have q4 : ¬ 9223372036854775807 < 6 + xlo.size + 2 + xhi.size + 5 := by omega
    have q5 : ¬ 9223372036854775807 < 6 + xlo.size + 2 + xhi.size + 5 + xp.size := by omega
    have QQ := Lib.hid (And.intro q1 (And.intro q2 (And.intro q3 (And.intro q4 q5))))
    clear hv il ih l1 l2 hT s1 s2 s3 hi hL NM pl q1 q2 q3 q4 q5
    go_enter Tryz.func37, Tryz.ntmps37
    go_upto_region 1 with (fail)
    generalize w.alloc (.cells #[.string xn, .int .i64 ty, .int .i64 se, .bool true, .int .i64 lo, .int .i64 hi', .int .i64 ini, .int .i64 ln] 60) = w1 at *
    have ⟨_, _, c1, _, _, _, c3, _, c4, _, c5, _, c6, _, _⟩ := X1.out
    have C4 := Lib.hid c4
    have C5 := Lib.hid c5
    go_wp2_with (go_at_call 59; fail)
    refine (PL.out _).mono ?_
    rintro e w2 ⟨rfl, rfl⟩
    go_upto_region 3 with (fail)
    clear c1 c3 c4 c5 c6
    refine wp_region_T (by kernel_rfl) (fun w' => Below w2.heap.size w2 w') [] (Below.refl _ _).drew (fun hHeld => ?_)
    have BD := Lib.hid (Below.drew (Below.refl w2.heap.size w2))
    generalize w2.drew = w3 at *
    refine wpAnyT_take (i := 0) (v := ?_) rfl (by kernel_rfl) (by kernel_rfl) (by kernel_rfl) (fun _ _ _ h => h) (Or.inl ⟨by rfl, ?_⟩) (by assumption) ?_
    rotate_left 1
    · intro w_ hSw; clear hSw; have ⟨q1, q2, q3, q4, q5⟩ := QQ.out; go_simp <;> (with_reducible rfl)
    try simp only [Act.put, List.setIfInBounds_toArray, List.set_cons_zero, List.set_cons_succ, List.getElem_toArray, List.getElem_cons_succ, List.getElem_cons_zero]
    refine wpAnyT_take (i := 1) (v := ?_) rfl (by kernel_rfl) (by kernel_rfl) (by kernel_rfl) (fun _ _ _ h => h) (Or.inl ⟨by rfl, ?_⟩) (by assumption) ?_
    rotate_left 1
    · intro w_ hSw; have hl := (hSw.cell (p := ⟨w.heap.size, 4, none⟩) (by have := Z1.out; show w.heap.size < _; omega)).trans C4.out; clear hSw; go_simp <;> (with_reducible rfl)
    try simp only [Act.put, List.setIfInBounds_toArray, List.set_cons_zero, List.set_cons_succ, List.getElem_toArray, List.getElem_cons_succ, List.getElem_cons_zero]
    refine wpAnyT_take (i := 5) (v := ?_) rfl (by kernel_rfl) (by kernel_rfl) (by kernel_rfl) (fun _ _ _ h => h) (Or.inl ⟨by rfl, ?_⟩) (by assumption) ?_
    rotate_left 1
    · intro w_ hSw; clear hSw; have ⟨q1, q2, q3, q4, q5⟩ := QQ.out; go_simp <;> (with_reducible rfl)
    try simp only [Act.put, List.setIfInBounds_toArray, List.set_cons_zero, List.set_cons_succ, List.getElem_toArray, List.getElem_cons_succ, List.getElem_cons_zero]
    refine wpAnyT_take (i := 6) (v := ?_) rfl (by kernel_rfl) (by kernel_rfl) (by kernel_rfl) (fun _ _ _ h => h) (Or.inl ⟨by rfl, ?_⟩) (by assumption) ?_
    rotate_left 1
    · intro w_ hSw; have hl := (hSw.cell (p := ⟨w.heap.size, 5, none⟩) (by have := Z1.out; show w.heap.size < _; omega)).trans C5.out; clear hSw; go_simp <;> (with_reducible rfl)
    try simp only [Act.put, List.setIfInBounds_toArray, List.set_cons_zero, List.set_cons_succ, List.getElem_toArray, List.getElem_cons_succ, List.getElem_cons_zero]
    refine wpAnyT_take (i := 10) (v := ?_) rfl (by kernel_rfl) (by kernel_rfl) (by kernel_rfl) (fun _ _ _ h => h) (Or.inl ⟨by rfl, ?_⟩) (by assumption) ?_
    rotate_left 1
    · intro w_ hSw; clear hSw; have ⟨q1, q2, q3, q4, q5⟩ := QQ.out; go_simp <;> (with_reducible rfl)
    try simp only [Act.put, List.setIfInBounds_toArray, List.set_cons_zero, List.set_cons_succ, List.getElem_toArray, List.getElem_cons_succ, List.getElem_cons_zero]
    refine wpAnyT_ready (rs := [2]) (by kernel_rfl) (by simp) ?_
    refine AllReadyT.cons rfl (fun K hK => ?_) AllReadyT.nil
    go_simp
    go_at_call 60
    refine (DL.out _ (LL.out _ (HB.out.trans (BD.out.mono HB.out.size)))).mono ?_
    rintro e w4 ⟨rfl, hb⟩
    have BE := Lib.hid (BD.out.trans (hb.mono BD.out.size))
    clear hb
    go_wp2_with fail
    refine hK _ _ BE.out (fun hHeld => ?_)
    clear hK K
    try simp only [Act.put, List.setIfInBounds_toArray, List.set_cons_zero, List.set_cons_succ, List.getElem_toArray, List.getElem_cons_succ, List.getElem_cons_zero]
    refine wpAnyT_take (i := 3) (v := ?_) rfl (by kernel_rfl) (by kernel_rfl) (by kernel_rfl) (fun _ _ _ h => h) (Or.inl ⟨by rfl, ?_⟩) (by assumption) ?_
    rotate_left 1
    · intro w_ hSw; clear hSw; have ⟨q1, q2, q3, q4, q5⟩ := QQ.out; go_simp <;> (with_reducible rfl)
    try simp only [Act.put, List.setIfInBounds_toArray, List.set_cons_zero, List.set_cons_succ, List.getElem_toArray, List.getElem_cons_succ, List.getElem_cons_zero]
    refine wpAnyT_take (i := 4) (v := ?_) rfl (by kernel_rfl) (by kernel_rfl) (by kernel_rfl) (fun _ _ _ h => h) (Or.inl ⟨by rfl, ?_⟩) (by assumption) ?_
    rotate_left 1
    · intro w_ hSw; clear hSw; have ⟨q1, q2, q3, q4, q5⟩ := QQ.out; go_simp <;> (with_reducible rfl)
    try simp only [Act.put, List.setIfInBounds_toArray, List.set_cons_zero, List.set_cons_succ, List.getElem_toArray, List.getElem_cons_succ, List.getElem_cons_zero]
    refine wpAnyT_ready (rs := [7]) (by kernel_rfl) (by simp) ?_
    refine AllReadyT.cons rfl (fun K hK => ?_) AllReadyT.nil
    go_simp
    go_at_call 60
    refine (DH.out _ (LL.out _ (HB.out.trans (BE.out.mono HB.out.size)))).mono ?_
    rintro e w5 ⟨rfl, hb⟩
    have BG := Lib.hid (BE.out.trans (hb.mono BE.out.size))
    clear hb
    go_wp2_with fail
    refine hK _ _ BG.out (fun hHeld => ?_)
    clear hK K
    try simp only [Act.put, List.setIfInBounds_toArray, List.set_cons_zero, List.set_cons_succ, List.getElem_toArray, List.getElem_cons_succ, List.getElem_cons_zero]
    refine wpAnyT_take (i := 8) (v := ?_) rfl (by kernel_rfl) (by kernel_rfl) (by kernel_rfl) (fun _ _ _ h => h) (Or.inl ⟨by rfl, ?_⟩) (by assumption) ?_
    rotate_left 1
    · intro w_ hSw; clear hSw; have ⟨q1, q2, q3, q4, q5⟩ := QQ.out; go_simp <;> (with_reducible rfl)
    try simp only [Act.put, List.setIfInBounds_toArray, List.set_cons_zero, List.set_cons_succ, List.getElem_toArray, List.getElem_cons_succ, List.getElem_cons_zero]
    refine wpAnyT_take (i := 9) (v := ?_) rfl (by kernel_rfl) (by kernel_rfl) (by kernel_rfl) (fun _ _ _ h => h) (Or.inl ⟨by rfl, ?_⟩) (by assumption) ?_
    rotate_left 1
    · intro w_ hSw; clear hSw; have ⟨q1, q2, q3, q4, q5⟩ := QQ.out; go_simp <;> (with_reducible rfl)
    try simp only [Act.put, List.setIfInBounds_toArray, List.set_cons_zero, List.set_cons_succ, List.getElem_toArray, List.getElem_cons_succ, List.getElem_cons_zero]
    refine wpAnyT_take (i := 11) (v := ?_) rfl (by kernel_rfl) (by kernel_rfl) (by kernel_rfl) (fun _ _ _ h => h) (Or.inl ⟨by rfl, ?_⟩) (by assumption) ?_
    rotate_left 1
    · intro w_ hSw; clear hSw; have ⟨q1, q2, q3, q4, q5⟩ := QQ.out; go_simp <;> (with_reducible rfl)
    try simp only [Act.put, List.setIfInBounds_toArray, List.set_cons_zero, List.set_cons_succ, List.getElem_toArray, List.getElem_cons_succ, List.getElem_cons_zero]
    refine wpAnyT_take (i := 12) (v := ?_) rfl (by kernel_rfl) (by kernel_rfl) (by kernel_rfl) (fun _ _ _ h => h) (Or.inl ⟨by rfl, ?_⟩) (by assumption) ?_
    rotate_left 1
    · intro w_ hSw; clear hSw; have ⟨q1, q2, q3, q4, q5⟩ := QQ.out; go_simp <;> (with_reducible rfl)
    try simp only [Act.put, List.setIfInBounds_toArray, List.set_cons_zero, List.set_cons_succ, List.getElem_toArray, List.getElem_cons_succ, List.getElem_cons_zero]
    refine wpAnyT_done (by kernel_rfl) ?_ _
    go_wp2
    go_ret
    rw [HTX.out]
    exact ⟨rfl, HB.out.trans (BG.out.mono HB.out.size)⟩
  have hv : (if lo ≠ 0 ∨ hi' ≠ 0 then false else if ty = 1 then ini != -9223372036854775808 else if ty = 2 then ini == 0 || ini == 1 else (kinds.any fun k => k.2 == ty) && ini == 0) = true := by
    rw [if_neg (by decide)] at hv
    exact hv
  clear hv
  by_cases e1 : ty = 1
  · subst e1
    rw [if_neg (by decide), if_pos rfl]
    obtain ⟨T, hT⟩ : ∃ T, plainS 1 ++ [32, 58, 61, 32] ++ numS ini = T := ⟨_, rfl⟩
    rw [hT]
    have HTX : Hid ((⟨(plainS 1).toArray⟩ : ByteArray) ++ ⟨#[32, 58, 61, 32]⟩ ++ ⟨(numS ini).toArray⟩ = ⟨T.toArray⟩) := Lib.hid (by
      rw [← hT, show (⟨#[32, 58, 61, 32]⟩ : ByteArray) = ⟨([32, 58, 61, 32] : Str).toArray⟩ from rfl]
      simp only [cat_sv])
    have s1 : (⟨(numS ini).toArray⟩ : ByteArray).size ≤ 21 := num_len hi
    have s3 : (⟨(plainS 1).toArray⟩ : ByteArray).size ≤ 4 := pl
    have DL := Lib.hid fun W h => decimal_any ini hi W h
    unfold sv at DL
    generalize (⟨(numS ini).toArray⟩ : ByteArray) = xlo at *
    generalize (⟨(plainS 1).toArray⟩ : ByteArray) = xp at *
    have q1 : ¬ 9223372036854775807 < xp.size + 4 := by omega
    have q2 : ¬ 9223372036854775807 < xp.size + 4 + xlo.size := by omega
    clear hT s1 s3 hi hL NM pl
    go_enter Tryz.func37, Tryz.ntmps37
    go_upto_region 1 with (fail)
    generalize w.alloc (.cells #[.string xn, .int .i64 1, .int .i64 se, .bool false, .int .i64 lo, .int .i64 hi', .int .i64 ini, .int .i64 ln] 60) = w1 at *
    have ⟨_, _, c1, _, _, _, c3, _, c4, _, c5, _, c6, _, _⟩ := X1.out
    go_wp2_with (go_at_call 59; fail)
    refine (PL.out _).mono ?_
    rintro e w2 ⟨rfl, rfl⟩
    go_wp2_with (go_at_call 60; fail)
    refine (DL.out _ (LL.out _ HB.out)).mono ?_
    rintro e w3 ⟨rfl, hb⟩
    have B3 := Lib.hid (HB.out.trans (hb.mono HB.out.size))
    clear hb c1 c3 c4 c5 c6
    go_wp2_with fail
    go_ret
    rw [HTX.out]
    exact ⟨rfl, B3.out⟩
  by_cases e2 : ty = 2
  · subst e2
    rw [if_neg (by decide), if_neg (by decide), if_pos rfl]
    obtain ⟨T, hT⟩ : ∃ T, plainS 2 ++ [32, 58, 61, 32] ++ truthS ini = T := ⟨_, rfl⟩
    rw [hT]
    have HTX : Hid ((⟨(plainS 2).toArray⟩ : ByteArray) ++ ⟨#[32, 58, 61, 32]⟩ ++ ⟨(truthS ini).toArray⟩ = ⟨T.toArray⟩) := Lib.hid (by
      rw [← hT, show (⟨#[32, 58, 61, 32]⟩ : ByteArray) = ⟨([32, 58, 61, 32] : Str).toArray⟩ from rfl]
      simp only [cat_sv])
    have s1 : (⟨(truthS ini).toArray⟩ : ByteArray).size ≤ 5 := by
      show (truthS ini).length ≤ 5
      unfold truthS
      split <;> decide
    have s3 : (⟨(plainS 2).toArray⟩ : ByteArray).size ≤ 4 := pl
    have DL := Lib.hid fun W => truth_any ini W
    unfold sv at DL
    generalize (⟨(truthS ini).toArray⟩ : ByteArray) = xlo at *
    generalize (⟨(plainS 2).toArray⟩ : ByteArray) = xp at *
    have q1 : ¬ 9223372036854775807 < xp.size + 4 := by omega
    have q2 : ¬ 9223372036854775807 < xp.size + 4 + xlo.size := by omega
    clear hT s1 s3 hi hL NM pl
    go_enter Tryz.func37, Tryz.ntmps37
    go_upto_region 1 with (fail)
    generalize w.alloc (.cells #[.string xn, .int .i64 2, .int .i64 se, .bool false, .int .i64 lo, .int .i64 hi', .int .i64 ini, .int .i64 ln] 60) = w1 at *
    have ⟨_, _, c1, _, _, _, c3, _, c4, _, c5, _, c6, _, _⟩ := X1.out
    go_wp2_with (go_at_call 59; fail)
    refine (PL.out _).mono ?_
    rintro e w2 ⟨rfl, rfl⟩
    go_wp2_with (go_at_call 61; fail)
    refine (DL.out _).mono ?_
    rintro e w3 ⟨rfl, rfl⟩
    go_wp2_with fail
    go_ret
    rw [HTX.out]
    exact ⟨rfl, HB.out⟩
  rw [if_neg (by decide), if_neg e1, if_neg e2]
  have z1 := neb e1
  have z2 := neb e2
  clear e1 e2 hi hL pl
  generalize (⟨(plainS ty).toArray⟩ : ByteArray) = xp at *
  generalize (⟨(kindS ty).toArray⟩ : ByteArray) = xk at *
  go_enter Tryz.func37, Tryz.ntmps37
  go_upto_region 1 with (fail)
  generalize w.alloc (.cells #[.string xn, .int .i64 ty, .int .i64 se, .bool false, .int .i64 lo, .int .i64 hi', .int .i64 ini, .int .i64 ln] 60) = w1 at *
  have ⟨_, _, c1, _, _, _, c3, _, c4, _, c5, _, c6, _, _⟩ := X1.out
  go_wp2_with (go_at_call 59; fail)
  refine (PL.out _).mono ?_
  rintro e w2 ⟨rfl, rfl⟩
  go_wp2_with (go_at_call 62; fail)
  refine (NM.out _).mono ?_
  rintro e w3 ⟨rfl, hb⟩
  have B3 := Lib.hid (HB.out.trans (hb.mono HB.out.size))
  clear hb c1 c3 c4 c5 c6
  go_wp2_with fail
  go_ret
  exact ⟨rfl, B3.out⟩
end Go.Proofs.YtdefgghhkknnpaaGreatDoor.sh
