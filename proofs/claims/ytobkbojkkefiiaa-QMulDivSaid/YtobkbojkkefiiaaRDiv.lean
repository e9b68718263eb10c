/- What servitorref01's Div, Mod and MulDiv answer, for all numbers of 64 bits. -/
import Derived.Test.YtobkbojkkefiiaaRAdd
import Derived.Test.YtobkbojkkefiiaaRBy
import Derived.Test.YtobkbojkkefiiaaQAwake
import Derived.Deep.RegionWith
import Derived.Deep.RegionHeld3
import Derived.Deep.Cut
namespace Go.Proofs.Ytobkbojkkefiiaa.r
open Go.ChangeShapes Go.WideShapes Go.ChangeAt Go.RowKit Go.Proofs.Ytobkbojkkefiiaa.q
set_option linter.unusedVariables false

theorem by_all {A B : Int} {ma mb : Bool} {va vb : Value} (hA : IsW A ma va) (hB : IsW B mb vb) (h1 : 0 < B) (h2 : B ≤ 18446744073709551616) (w : World) :
    Calls Try.prog 35 #[va, vb] w fun e w' =>
      ∃ v1 v2 : Value, e = .returned (.tuple #[v1, v2]) ∧ IsW ((A.toNat / B.toNat : Nat) : Int) false v1 ∧ IsW ((A.toNat % B.toNat : Nat) : Int) false v2 ∧ Below w.heap.size w w' := by
  obtain ⟨a0, a1, a2, a3, rfl, la, rfl⟩ := hA
  obtain ⟨b0, b1, b2, b3, rfl, lb, rfl⟩ := hB
  exact by_any la lb h1 h2 w
theorem bel3 (w : World) (o1 o2 o3 : Obj) : Below w.heap.size w (((w.alloc o1).alloc o2).alloc o3) := below3' w o1 o2 o3
theorem bel4 (w : World) (o1 o2 o3 o4 : Obj) : Below w.heap.size w ((((w.alloc o1).alloc o2).alloc o3).alloc o4) := (bel3 w o1 o2 o3).alloc (by simp; omega) _
theorem bel5 (w : World) (o1 o2 o3 o4 o5 : Obj) : Below w.heap.size w (((((w.alloc o1).alloc o2).alloc o3).alloc o4).alloc o5) := (bel4 w o1 o2 o3 o4).alloc (by simp; omega) _
theorem quot_sgn (a b : Int) (hb : b ≠ 0) : sgn (mag a / mag b) (!decide (a < 0) == decide (b < 0)) = a.tdiv b := by
  have h : (a.tdiv b).natAbs = a.natAbs / b.natAbs := Int.natAbs_tdiv a b
  have p1 : a < 0 → b < 0 → 0 ≤ a.tdiv b := fun ha hb' => Int.tdiv_nonneg_of_nonpos_of_nonpos (Int.le_of_lt ha) (Int.le_of_lt hb')
  have p2 : a < 0 → ¬ b < 0 → a.tdiv b ≤ 0 := fun ha hb' => by
    have := Int.tdiv_nonneg (show 0 ≤ -a by omega) (show 0 ≤ b by omega); rw [Int.neg_tdiv] at this; omega
  have p3 : ¬ a < 0 → b < 0 → a.tdiv b ≤ 0 := fun ha hb' => by
    have := Int.tdiv_nonneg (show 0 ≤ a by omega) (show 0 ≤ -b by omega); rw [Int.tdiv_neg] at this; omega
  have p4 : ¬ a < 0 → ¬ b < 0 → 0 ≤ a.tdiv b := fun ha hb' => Int.tdiv_nonneg (by omega) (by omega)
  unfold sgn mag
  rw [← h]
  generalize a.tdiv b = t at *
  by_cases ha : a < 0 <;> by_cases hb' : b < 0 <;> simp [ha, hb'] <;> simp [ha, hb'] at p1 p2 p3 p4 <;> omega
theorem rest_sgn (a b : Int) : sgn (mag a % mag b) (decide (a < 0)) = a.tmod b := by
  have h : (a.tmod b).natAbs = a.natAbs % b.natAbs := Int.natAbs_tmod a b
  have p1 : a < 0 → a.tmod b ≤ 0 := fun ha => by
    have := Int.tmod_nonneg b (show 0 ≤ -a by omega); rw [Int.neg_tmod] at this; omega
  have p2 : ¬ a < 0 → 0 ≤ a.tmod b := fun ha => Int.tmod_nonneg b (by omega)
  unfold sgn mag
  rw [← h]
  generalize a.tmod b = t at *
  by_cases ha : a < 0 <;> simp [ha] <;> simp [ha] at p1 p2 <;> omega

set_option maxRecDepth 100000 in
set_option maxHeartbeats 1000000 in
theorem rdiv_any (a b : Int) (h1 : -9223372036854775808 ≤ a) (h2 : a ≤ 9223372036854775807) (h3 : -9223372036854775808 ≤ b) (h4 : b ≤ 9223372036854775807) (w : World) :
    Calls Try.prog 17 #[.int .i64 a, .int .i64 b] w fun e w' => e = .returned (.tuple #[.int .i64 (divV a b), .int .i64 (divE a b)]) ∧ Below w.heap.size w w' := by
  by_cases hb0 : b = 0
  · subst hb0
    have hv : Hid (divV a 0 = 0 ∧ divE a 0 = 3) := Lib.hid ⟨rfl, rfl⟩
    go_enter Try.func17, Try.ntmps17
    go_wp2
    go_ret2
    exact ⟨ret2_int hv.out.1.symm hv.out.2.symm, Below.refl _ _⟩
  · have ma := mag_le a h1 h2
    have mb := mag_le b h3 h4
    have mb0 : 0 < mag b := by unfold mag; omega
    have c1 := fun (w : World) => of_any a h1 h2 w
    have c2 := fun (w : World) => of_any b h3 h4 w
    have c3 := fun (va vb : Value) (hA : IsW (mag a : Nat) (decide (a < 0)) va) (hB : IsW (mag b : Nat) (decide (b < 0)) vb) (w : World) => by_all hA hB (by omega) (by omega) w
    have HQ : Hid (sgn (mag a / mag b) (!decide (a < 0) == decide (b < 0)) = a.tdiv b) := Lib.hid (quot_sgn a b hb0)
    simp only [Int.toNat_natCast] at c3
    have HV : ∃ (V : Int) (ok : Bool), sgV (mag a / mag b) (!decide (a < 0) == decide (b < 0)) = V ∧ sgB (mag a / mag b) (!decide (a < 0) == decide (b < 0)) = ok ∧ (ok = true → divV a b = V ∧ divE a b = 0) ∧ (ok = false → divV a b = 0 ∧ divE a b = 2) := by
      refine ⟨_, _, rfl, rfl, ?_, ?_⟩
      · intro h
        unfold sgB at h; unfold sgV divV divE
        rw [HQ.out] at h ⊢
        rw [if_neg hb0, if_neg hb0, if_pos h]; exact ⟨rfl, rfl⟩
      · intro h
        unfold sgB at h; unfold divV divE
        rw [HQ.out] at h
        rw [if_neg hb0, if_neg hb0, if_neg (Bool.eq_false_iff.mp h), rv_no (Bool.eq_false_iff.mp h)]; exact ⟨rfl, rfl⟩
    obtain ⟨V, ok, eV, eok, y1, y2⟩ := HV
    clear ma mb mb0 HQ
    generalize decide (a < 0) = sa at *
    generalize decide (b < 0) = sb at *
    go_enter Try.func17, Try.ntmps17
    go_wp2_with (go_at_call 28; fail)
    refine (c1 _).mono ?_
    rintro e w1 ⟨va, rfl, hva, hb1⟩
    go_wp2_with (go_at_call 28; fail)
    refine (c2 _).mono ?_
    rintro e w2 ⟨vb, rfl, hvb, hb2⟩
    have hva' := hva
    have hvb' := hvb
    obtain ⟨a0, a1, a2, a3, rfl, la, ea⟩ := hva'
    obtain ⟨b0, b1, b2, b3, rfl, lb, eb⟩ := hvb'
    clear la lb ea eb
    go_wp2_with (go_at_call 35; fail)
    refine (c3 _ _ hva hvb _).mono ?_
    rintro e w3 ⟨v1, v2, rfl, hv1, hv2, hb3⟩
    have hz3 : w2.heap.size + 1 < w3.heap.size := by have := hb3.size; simp at this; omega
    have X4 : w3.cell? ⟨w2.heap.size, 4, none⟩ = some (.bool sa) := by rw [(keep hb3 w2.heap.size (by first | (simp; omega) | simp)).1]; simp [go_sem]
    have Y4 : w3.cell? ⟨w2.heap.size + 1, 4, none⟩ = some (.bool sb) := by rw [(keep hb3 (w2.heap.size + 1) (by first | (simp; omega) | simp)).1]; simp [go_sem]
    have hz3a : w2.heap.size < w3.heap.size := by omega
    have hz3b : w2.heap.size < w3.heap.size + 1 := by omega
    have hz3c : w2.heap.size + 1 < w3.heap.size + 1 := by omega
    obtain ⟨n0, n1, n2, n3, rfl, ln, en⟩ := hv1
    obtain ⟨r0, r1, r2, r3, rfl, lr, er⟩ := hv2
    have IN : IsW ((mag a / mag b : Nat) : Int) (!sa == sb) (.agg #[.int .u64 n0, .int .u64 n1, .int .u64 n2, .int .u64 n3, .bool (!sa == sb)]) := ⟨_, _, _, _, rfl, ln, en⟩
    have c4 := fun (w : World) => room_any IN w
    rw [Int.toNat_natCast, eV, eok] at c4
    have K3 : Hid (Below w.heap.size w w3) := Lib.hid (((hb1.trans (hb2.mono hb1.size)).trans (below2' _ _ _ |>.mono (Nat.le_trans hb1.size hb2.size))).trans (hb3.mono (by simp; have := hb1.size; have := hb2.size; omega)))
    have hs0 : w.heap.size ≤ w3.heap.size := K3.out.size
    clear IN ln en lr er hva hvb hb1 hb2 hb3 c1 c2 c3 eV eok
    go_wp2_with (go_at_call 26; fail)
    refine (c4 _).mono ?_
    rintro e w4 ⟨rfl, hb4⟩
    have K4 : Hid (Below w.heap.size w w4) := Lib.hid ((K3.out.trans (below2' _ _ _ |>.mono hs0)).trans (hb4.mono (by simp; omega)))
    clear hb4 X4 Y4 c4
    cases ok
    · have yy := Lib.hid (y2 rfl)
      clear y1 y2
      go_wp2
      go_ret2
      exact ⟨ret2_int yy.out.1.symm yy.out.2.symm, K4.out⟩
    · have yy := Lib.hid (y1 rfl)
      clear y1 y2
      go_wp2
      go_ret2
      exact ⟨ret2_int yy.out.1.symm yy.out.2.symm, K4.out⟩

set_option maxRecDepth 100000 in
set_option maxHeartbeats 4000000 in
theorem rmod_any (a b : Int) (h1 : -9223372036854775808 ≤ a) (h2 : a ≤ 9223372036854775807) (h3 : -9223372036854775808 ≤ b) (h4 : b ≤ 9223372036854775807) (w : World) :
    Calls Try.prog 19 #[.int .i64 a, .int .i64 b] w fun e w' => e = .returned (.tuple #[.int .i64 (modV a b), .int .i64 (modE a b)]) ∧ Below w.heap.size w w' := by
  by_cases hb0 : b = 0
  · subst hb0
    have hv : Hid (modV a 0 = 0 ∧ modE a 0 = 3) := Lib.hid ⟨rfl, rfl⟩
    go_enter Try.func19, Try.ntmps19
    go_wp2
    go_ret2
    exact ⟨ret2_int hv.out.1.symm hv.out.2.symm, Below.refl _ _⟩
  · have ma := mag_le a h1 h2
    have mb := mag_le b h3 h4
    have mb0 : 0 < mag b := by unfold mag; omega
    obtain ⟨a0, a1, la, ea, c1⟩ := of_ex a h1 h2
    obtain ⟨b0, b1, lb, eb, c2⟩ := of_ex b h3 h4
    have c3 := fun (w : World) => by_any (ma := decide (a < 0)) (mb := decide (b < 0)) la lb (by rw [eb]; omega) (by rw [eb]; omega) w
    rw [ea, eb] at c3
    simp only [Int.toNat_natCast] at c3
    have HV : Hid (sgV (mag a % mag b) (decide (a < 0)) = modV a b ∧ modE a b = 0) := Lib.hid (by
      have hq := rest_sgn a b
      have hm : -9223372036854775808 ≤ a.tmod b ∧ a.tmod b ≤ 9223372036854775807 := by
        have hl : (a.tmod b).natAbs ≤ a.natAbs := by rw [Int.natAbs_tmod]; exact Nat.mod_le _ _
        have hs : 0 ≤ a → 0 ≤ a.tmod b := fun h => Int.tmod_nonneg b h
        have hs2 : a < 0 → a.tmod b ≤ 0 := fun h => by
          have := Int.tmod_nonneg b (show 0 ≤ -a by omega); rw [Int.neg_tmod] at this; omega
        omega
      unfold sgV modV modE
      rw [hq, if_neg hb0, if_neg hb0, rv_yes (rm_iff.mpr hm)]; exact ⟨rfl, rfl⟩)
    clear ma mb mb0 la lb ea eb
    generalize decide (a < 0) = sa at *
    generalize decide (b < 0) = sb at *
    go_enter Try.func19, Try.ntmps19
    go_wp2_with (go_at_call 28; fail)
    refine (c1 _).mono ?_
    rintro e w1 ⟨rfl, rfl⟩
    go_upto_region 4 with (fail)
    go_cut [7, 8] from 11 (fun p q wx => ∃ (B8 : Nat) (r0 r1 r2 r3 : Int), q = .pointer (some ⟨B8, 0, none⟩) ∧ w.heap.size + 1 < B8 ∧ Blk wx B8 (.int .u64 r0) (.int .u64 r1) (.int .u64 r2) (.int .u64 r3) (.bool false) ∧ wx.cell? ⟨w.heap.size + 1, 4, none⟩ = some (.bool sa) ∧ Lim r0 r1 r2 r3 ∧ val r0 r1 r2 r3 = ((mag a % mag b : Nat) : Int) ∧ Below w.heap.size w wx ∧ B8 < wx.heap.size)
    case first =>
      go_region_held3 (fun w' => w'.cell? ⟨w.heap.size + 1, 0, none⟩ = some (.int .u64 a0) ∧ w'.cell? ⟨w.heap.size + 1, 1, none⟩ = some (.int .u64 a1) ∧ w'.cell? ⟨w.heap.size + 1, 2, none⟩ = some (.int .u64 0) ∧ w'.cell? ⟨w.heap.size + 1, 3, none⟩ = some (.int .u64 0) ∧ w'.cell? ⟨w.heap.size + 1, 4, none⟩ = some (.bool sa)) (first | (refine ⟨?_, ?_, ?_, ?_, ?_⟩ <;> (simp [go_sem]; done)) | (refine ⟨?_, ?_, ?_, ?_, ?_⟩ <;> (simp [go_sem, *]; done))) (first
      | (go_at_call 28; refine (c2 _).mono ?_; (rintro e w2 ⟨rfl, rfl⟩))
      | (go_at_call 35; refine (c3 _).mono ?_; (rintro e w3 ⟨v1, v2, rfl, ⟨n0, n1, n2, n3, rfl, ln, en⟩, ⟨r0, r1, r2, r3, rfl, lr, er⟩, hb3⟩); (obtain ⟨hc3, hf3⟩ := bcell hb3); (have hz3 : w.heap.size + 1 < w3.heap.size := by ((have := hb3.size); simp at this; omega)); (have hz3b : w.heap.size + 1 < w3.heap.size + 1 := by omega); (have hz3c : w.heap.size < w3.heap.size := by omega); (have KB : Below w.heap.size w w3 := by ((refine Below.trans ?_ (hb3.mono ?_)); rotate_left; (first | (simp; done) | (simp; omega)); (first | (with_reducible exact bel3 _ _ _ _) | (with_reducible exact bel4 _ _ _ _ _) | (with_reducible exact bel5 _ _ _ _ _ _) | (with_reducible exact (bel3 _ _ _ _).drew) | (with_reducible exact (bel4 _ _ _ _ _).drew) | (with_reducible exact (bel5 _ _ _ _ _ _).drew) | (with_reducible exact below_drewN (bel3 _ _ _ _) _) | (with_reducible exact below_drewN (bel4 _ _ _ _ _) _) | (with_reducible exact below_drewN (bel5 _ _ _ _ _ _) _)))); (have hy3 := hb3.size); (simp at hy3); (try (by_cases z3a : w.heap.size + 1 + 1 + 1 < w3.heap.size; rotate_left; focus (exfalso; omega))); (try (by_cases z3b : w.heap.size + 1 + 1 + 1 < w3.heap.size + 1; rotate_left; focus (exfalso; omega))); (try (by_cases z4a : w.heap.size + 1 + 1 + 1 + 1 < w3.heap.size; rotate_left; focus (exfalso; omega))); (try (by_cases z4b : w.heap.size + 1 + 1 + 1 + 1 < w3.heap.size + 1; rotate_left; focus (exfalso; omega))); (try (by_cases z2a : w.heap.size + 1 + 1 < w3.heap.size; rotate_left; focus (exfalso; omega))); (try (by_cases z2b : w.heap.size + 1 + 1 < w3.heap.size + 1; rotate_left; focus (exfalso; omega)))))
      all_goals
        go_wp2_with fail
        go_meet
        refine ⟨_, r0, r1, r2, r3, rfl, ?_, ?_, ?_, lr, er, ?_, ?_⟩
        · omega
        · constructor <;> (try intro o) <;> first | (simp [go_sem]; done) | (simp [go_sem, *]; done)
        · first | (simp [go_sem]; done) | (simp [go_sem, *]; done)
        · repeat (first | (with_reducible exact KB) | (with_reducible refine below_drewN ?_ _) | (with_reducible refine Below.drew ?_) | ((with_reducible refine Below.alloc ?_ ?_ _); rotate_left; (first | omega | (simp; done) | (simp; omega))) | ((with_reducible refine Below.setCell ?_ ?_ _); rotate_left; (first | omega | (simp; done) | (simp; omega))))
        · first | omega | (simp; done) | (simp; omega)
    case rest =>
      obtain ⟨B8, r0, r1, r2, r3, rfl, hB8, RB, hx4, lr, er, KW, hz⟩ := hcut
      have IR : IsW ((mag a % mag b : Nat) : Int) sa (.agg #[.int .u64 r0, .int .u64 r1, .int .u64 r2, .int .u64 r3, .bool sa]) := ⟨_, _, _, _, rfl, lr, er⟩
      have c4 := fun (w : World) => room_any IR w
      rw [Int.toNat_natCast] at c4
      have FK := Lib.hid KW
      obtain ⟨x0, x1, x2, x3, x4, x5⟩ := RB
      have hB8' := hB8
      clear IR lr er c1 c2 c3 KW
      go_wp2_with (go_at_call 26; fail)
      refine (c4 _).mono ?_
      rintro e w5 ⟨rfl, hb5⟩
      have K5 : Hid (Below w.heap.size w w5) := Lib.hid ((FK.out.setCell (p := ⟨B8, 4, none⟩) (by show w.heap.size ≤ B8; omega) _).trans (hb5.mono (by simp; have := FK.out.size; omega)))
      clear hb5 c4 x0 x1 x2 x3 x4 x5 hx4
      go_wp2
      go_ret2
      exact ⟨ret2_int HV.out.1 HV.out.2.symm, K5.out⟩

set_option maxRecDepth 100000 in
theorem zero_any {A : Int} {ma : Bool} {va : Value} (hA : IsW A ma va) (w : World) :
    Calls Try.prog 37 #[va] w fun e w' => e = .returned (.bool (decide (A = 0))) ∧ Below w.heap.size w w' := by
  have z0 : IsW 0 false (.agg #[.int .u64 0, .int .u64 0, .int .u64 0, .int .u64 0, .bool false]) := ⟨_, _, _, _, rfl, by constructor <;> omega, by unfold val; omega⟩
  have cc := fun (w : World) => cmp_any hA z0 w
  have hA0 : 0 ≤ A := by
    obtain ⟨a0, a1, a2, a3, _, la, rfl⟩ := hA
    exact (val_ge la).1
  obtain ⟨a0, a1, a2, a3, rfl, la, ea⟩ := hA
  clear la ea z0
  by_cases h : A = 0
  · have hk : cmpV A 0 = 0 := by rw [h]; exact cmpV_eq 0
    rw [hk] at cc
    have HD := Lib.hid (decide_eq_true h)
    clear hk h hA0
    go_enter Try.func37, Try.ntmps37
    go_wp2_with (go_at_call 39; fail)
    refine (cc _).mono ?_
    rintro e w1 ⟨rfl, hb1⟩
    have K := Lib.hid ((below1' _ _).trans (hb1.mono (by simp)))
    clear hb1
    go_wp2
    go_ret
    exact ⟨by rw [HD.out]; rfl, K.out⟩
  · have hk : cmpV A 0 = 1 := cmpV_gt (by omega)
    rw [hk] at cc
    have HD := Lib.hid (decide_eq_false h)
    clear hk h hA0
    go_enter Try.func37, Try.ntmps37
    go_wp2_with (go_at_call 39; fail)
    refine (cc _).mono ?_
    rintro e w1 ⟨rfl, hb1⟩
    have K := Lib.hid ((below1' _ _).trans (hb1.mono (by simp)))
    clear hb1
    go_wp2
    go_ret
    exact ⟨by rw [HD.out]; rfl, K.out⟩
end Go.Proofs.Ytobkbojkkefiiaa.r
