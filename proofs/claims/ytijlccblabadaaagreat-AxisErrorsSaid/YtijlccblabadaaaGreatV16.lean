/- What servitorref09's between, way, reach and pass answer, and servitorref08's Vel; the world stays as it was. No condition beyond what each line says. What servitorref09's pass, least, turned, Right, Safe, May and Step answer; what was in memory is as it was. No condition beyond what each line says. What servitorref09's turned, Right and Safe answer; what was in memory is as it was. No condition beyond what each line says. What servitorref09's May answers, of right limits and a safe generator; what was in memory is as it was. No condition beyond that. What servitorref09's May (either way) and Step answer, of right limits and a safe generator; what was in memory is as it was. No condition beyond that. What servitorref14's Place and Want answer: the document's; what was in memory is as it was. No condition beyond what each line says. What gear's Place and Want answer: the document's; what was in memory is as it was. No condition beyond what each line says. What servitorref15's Out and Made answer; what was in memory is as it was. No condition beyond what each line says. -/
import Derived.Test.YtijlccblabadaaaGreatU01
import Derived.Test.YtijlccblabadaaaGreatV06
import Derived.Test.YtijlccblabadaaaGreatV05
import Derived.Test.YtijlccblabadaaaGreatU02
section
namespace Go.Proofs.YtijlccblabadaaaGreat.gn
open Go.ChangeShapes Go.WideShapes Go.ChangeAt Go.RowKit Go.Proofs.YtijlccblabadaaaGreat.k Go.Proofs.YtijlccblabadaaaGreat.b
set_option linter.unusedVariables false
theorem slow_ref {V U D : Int} (hd : 1 ≤ D) (hd2 : D ≤ 1048576) (hu : 0 ≤ U) (h : U < V) (hV : V ≤ 1048576) :
  ∃ m, (V - U - 1) / D = m ∧ 0 ≤ m ∧ m ≤ 1048576 ∧ 0 ≤ m * V ∧ m * V ≤ 1099511627776 ∧ 0 ≤ D * m ∧ D * m ≤ 1048576 ∧ 0 ≤ D * m * (m + 1) ∧ D * m * (m + 1) ≤ 1099512676352 ∧ m * V - D * m * (m + 1) / 2 = slow V U D := by
 have hs := slow_sum hd h
 have q := Int.mul_ediv_add_emod (V - U - 1) D
 have r0 := Int.emod_nonneg (V - U - 1) (show D ≠ 0 by omega)
 have m0 : 0 ≤ (V - U - 1) / D := Int.ediv_nonneg (by omega) (by omega)
 have hp := slow_pos (v := V) hu hd
 refine ⟨(V - U - 1) / D, rfl, m0, ?_⟩
 generalize (V - U - 1) / D = m at *
 have hmD : m * 1 ≤ D * m := by rw [Int.mul_comm D m]; exact Int.mul_le_mul_of_nonneg_left hd m0
 have hm : m ≤ 1048576 := by omega
 have h1 : 0 ≤ m * V := Int.mul_nonneg m0 (by omega)
 have h2 : m * V ≤ 1048576 * 1048576 := Int.mul_le_mul hm hV (by omega) (by omega)
 have h3 : 0 ≤ D * m := Int.mul_nonneg (by omega) m0
 have h4 : D * m ≤ 1048576 := by omega
 have h5 : 0 ≤ D * m * (m + 1) := Int.mul_nonneg h3 (by omega)
 have h6 : D * m * (m + 1) ≤ 1048576 * 1048577 := Int.mul_le_mul h4 (by omega) (by omega) (by omega)
 have e : m * (m + 1) * D = D * m * (m + 1) := by rw [Int.mul_comm (m * (m + 1)) D, Int.mul_assoc]
 rw [e] at hs
 generalize D * m * (m + 1) = p at *
 refine ⟨hm, h1, by omega, h3, h4, h5, by omega, by omega⟩
theorem refway_any (v D : Int) (v0 : 0 ≤ v) (v1 : v ≤ 1048576) (d0 : 1 ≤ D) (d1 : D ≤ 1048576) (w : World) : Calls Tryz.prog 61 #[.int .i64 v, .int .i64 D] w fun e w' => e = .returned (.int .i64 (slow v 0 D)) ∧ w = w' := by
 have hne : ¬ D = 0 := by omega
 have hdb : (D == 0) = false := by rw [beq_eq_false_iff_ne]; exact hne
 by_cases h : 0 < v
 ·obtain ⟨m, e1, m0, m1, m2, m3, m4, m5, m6, m7, e2⟩ := slow_ref d0 d1 (Int.le_refl 0) h v1
  rw [show v - 0 - 1 = v - 1 by omega] at e1
  have HE := lh e2
  clear e2
  go_enter Tryz.func61, Tryz.ntmps61
  go_wp2
  go_ret
  exact ⟨ret_int HE.out, rfl⟩
 ·have e : v = 0 := by omega
  subst e
  have HE := lh (slow_zero d0)
  go_enter Tryz.func61, Tryz.ntmps61
  go_wp2
  go_ret
  exact ⟨ret_int (by rw [HE.out]), rfl⟩
def Halves (b : Int) : Prop := b = 0 ∨ ∃ k : Nat, b = 2 ^ k
def fit9 (s d x : Int) : Bool := decide (x + slow x 0 d ≤ s)
end Go.Proofs.YtijlccblabadaaaGreat.gn
end
section
namespace Go.Proofs.YtijlccblabadaaaGreat.gn
open Go.ChangeShapes Go.WideShapes Go.ChangeAt Go.RowKit Go.Proofs.YtijlccblabadaaaGreat.k Go.Proofs.YtijlccblabadaaaGreat.b
set_option linter.unusedVariables false
def fitP (s u d x : Int) : Prop := x ≤ u ∨ x + slow x u d ≤ s
end Go.Proofs.YtijlccblabadaaaGreat.gn
end
section
namespace Go.Proofs.YtijlccblabadaaaGreat.gn
open Go.ChangeShapes Go.WideShapes Go.ChangeAt Go.RowKit Go.Proofs.YtijlccblabadaaaGreat.k Go.Proofs.YtijlccblabadaaaGreat.b Go.Proofs.YtijlccblabadaaaGreat
set_option linter.unusedVariables false
def turnL (l : L) : L := ⟨l.V, l.A, l.D, -l.hi, -l.lo⟩
set_option maxHeartbeats 4000000 in
theorem refright_any (l : L) (w : World) : Calls Tryz.prog 26 #[.agg #[.int .i64 l.V, .int .i64 l.A, .int .i64 l.D, .int .i64 l.lo, .int .i64 l.hi]] w fun e w' => e = .returned (.bool (rightL l)) ∧ Below w.heap.size w w' := by
 obtain ⟨V, A, D, lo, hi⟩ := l
 dsimp only
 by_cases h0 : V < 1
 ·have HV := lh (right_no (l := ⟨V, A, D, lo, hi⟩) (by unfold RightL; dsimp only; omega))
  go_enter Tryz.func26, Tryz.ntmps26
  go_wp2
  go_ret
  exact ⟨ret_bool HV.out.symm, (Below.refl _ _).alloc (Nat.le_refl _) _⟩
 ·have g0 : 1 ≤ V := by omega
  clear h0
  by_cases h1 : 1048576 < V
  ·have HV := lh (right_no (l := ⟨V, A, D, lo, hi⟩) (by unfold RightL; dsimp only; omega))
   go_enter Tryz.func26, Tryz.ntmps26
   go_wp2
   go_ret
   exact ⟨ret_bool HV.out.symm, (Below.refl _ _).alloc (Nat.le_refl _) _⟩
  ·have g1 : V ≤ 1048576 := by omega
   clear h1
   by_cases h2 : A < 1
   ·have HV := lh (right_no (l := ⟨V, A, D, lo, hi⟩) (by unfold RightL; dsimp only; omega))
    go_enter Tryz.func26, Tryz.ntmps26
    go_wp2
    go_ret
    exact ⟨ret_bool HV.out.symm, (Below.refl _ _).alloc (Nat.le_refl _) _⟩
   ·have g2 : 1 ≤ A := by omega
    clear h2
    by_cases h3 : 1048576 < A
    ·have HV := lh (right_no (l := ⟨V, A, D, lo, hi⟩) (by unfold RightL; dsimp only; omega))
     go_enter Tryz.func26, Tryz.ntmps26
     go_wp2
     go_ret
     exact ⟨ret_bool HV.out.symm, (Below.refl _ _).alloc (Nat.le_refl _) _⟩
    ·have g3 : A ≤ 1048576 := by omega
     clear h3
     by_cases h4 : D < 1
     ·have HV := lh (right_no (l := ⟨V, A, D, lo, hi⟩) (by unfold RightL; dsimp only; omega))
      go_enter Tryz.func26, Tryz.ntmps26
      go_wp2
      go_ret
      exact ⟨ret_bool HV.out.symm, (Below.refl _ _).alloc (Nat.le_refl _) _⟩
     ·have g4 : 1 ≤ D := by omega
      clear h4
      by_cases h5 : 1048576 < D
      ·have HV := lh (right_no (l := ⟨V, A, D, lo, hi⟩) (by unfold RightL; dsimp only; omega))
       go_enter Tryz.func26, Tryz.ntmps26
       go_wp2
       go_ret
       exact ⟨ret_bool HV.out.symm, (Below.refl _ _).alloc (Nat.le_refl _) _⟩
      ·have g5 : D ≤ 1048576 := by omega
       clear h5
       by_cases h6 : lo < -1099511627776
       ·have HV := lh (right_no (l := ⟨V, A, D, lo, hi⟩) (by unfold RightL; dsimp only; omega))
        go_enter Tryz.func26, Tryz.ntmps26
        go_wp2
        go_ret
        exact ⟨ret_bool HV.out.symm, (Below.refl _ _).alloc (Nat.le_refl _) _⟩
       ·have g6 : -1099511627776 ≤ lo := by omega
        clear h6
        by_cases h7 : 1099511627776 < hi
        ·have HV := lh (right_no (l := ⟨V, A, D, lo, hi⟩) (by unfold RightL; dsimp only; omega))
         go_enter Tryz.func26, Tryz.ntmps26
         go_wp2
         go_ret
         exact ⟨ret_bool HV.out.symm, (Below.refl _ _).alloc (Nat.le_refl _) _⟩
        ·have g7 : hi ≤ 1099511627776 := by omega
         clear h7
         by_cases h8 : hi < lo
         ·have HV := lh (right_no (l := ⟨V, A, D, lo, hi⟩) (by unfold RightL; dsimp only; omega))
          have hd8 : decide (lo ≤ hi) = false := decide_eq_false (by omega)
          go_enter Tryz.func26, Tryz.ntmps26
          go_wp2
          go_ret
          exact ⟨ret_bool HV.out.symm, (Below.refl _ _).alloc (Nat.le_refl _) _⟩
         ·have g8 : lo ≤ hi := by omega
          clear h8
          have HV := lh (right_yes (l := ⟨V, A, D, lo, hi⟩) (by unfold RightL; dsimp only; omega))
          go_enter Tryz.func26, Tryz.ntmps26
          go_wp2
          go_ret
          exact ⟨ret_bool HV.out.symm, (Below.refl _ _).alloc (Nat.le_refl _) _⟩
set_option maxHeartbeats 4000000 in
theorem refsafe_any (l : L) (hr : RightL l) (p v : Int) (hp : -9223372036854775808 ≤ p ∧ p ≤ 9223372036854775807) (hv : -9223372036854775808 ≤ v ∧ v ≤ 9223372036854775807) (w : World) : Calls Tryz.prog 37 #[.agg #[.int .i64 l.V, .int .i64 l.A, .int .i64 l.D, .int .i64 l.lo, .int .i64 l.hi], .agg #[.int .i64 p, .int .i64 v]] w fun e w' => e = .returned (.bool (safeP l p v)) ∧ Below w.heap.size w w' := by
 have hr0 := hr
 obtain ⟨V, A, D, lo, hi⟩ := l
 obtain ⟨r1, r2, r3, r4, r5, r6, r7, r8, r9⟩ := hr
 dsimp only at r1 r2 r3 r4 r5 r6 r7 r8 r9 ⊢
 have HR := lh hr0
 clear hr0
 by_cases h0 : p < lo
 ·have HV := lh (safe_no (l := ⟨V, A, D, lo, hi⟩) (p := p) (v := v) (fun h => by have h2 := h.2; unfold SafeP at h2; dsimp only at h2; omega))
  go_enter Tryz.func37, Tryz.ntmps37
  go_wp2
  go_ret
  exact ⟨ret_bool HV.out.symm, ((Below.refl _ _).alloc (Nat.le_refl _) _).alloc (by simp) _⟩
 ·have g0 : lo ≤ p := by omega
  clear h0
  by_cases h1 : hi < p
  ·have HV := lh (safe_no (l := ⟨V, A, D, lo, hi⟩) (p := p) (v := v) (fun h => by have h2 := h.2; unfold SafeP at h2; dsimp only at h2; omega))
   go_enter Tryz.func37, Tryz.ntmps37
   go_wp2
   go_ret
   exact ⟨ret_bool HV.out.symm, ((Below.refl _ _).alloc (Nat.le_refl _) _).alloc (by simp) _⟩
  ·have g1 : p ≤ hi := by omega
   clear h1
   by_cases h2 : 1048576 < v
   ·have HV := lh (safe_no (l := ⟨V, A, D, lo, hi⟩) (p := p) (v := v) (fun h => by have h2 := h.2; unfold SafeP at h2; dsimp only at h2; omega))
    go_enter Tryz.func37, Tryz.ntmps37
    go_wp2
    go_ret
    exact ⟨ret_bool HV.out.symm, ((Below.refl _ _).alloc (Nat.le_refl _) _).alloc (by simp) _⟩
   ·have g2 : v ≤ 1048576 := by omega
    clear h2
    by_cases h3 : v < -1048576
    ·have HV := lh (safe_no (l := ⟨V, A, D, lo, hi⟩) (p := p) (v := v) (fun h => by have h2 := h.2; unfold SafeP at h2; dsimp only at h2; omega))
     go_enter Tryz.func37, Tryz.ntmps37
     go_wp2
     go_ret
     exact ⟨ret_bool HV.out.symm, ((Below.refl _ _).alloc (Nat.le_refl _) _).alloc (by simp) _⟩
    ·have g3 : -1048576 ≤ v := by omega
     clear h3
     by_cases hneg : v < 0
     ·have C := lh fun W => refway_any (-v) D (by omega) (by omega) r5 r6 W
      obtain ⟨X, hX⟩ : ∃ X, slow (-v) 0 D = X := ⟨_, rfl⟩
      have HV : Hid (decide (X ≤ p - lo) = safeP ⟨V, A, D, lo, hi⟩ p v) := lh (by
       unfold safeP
       rw [decide_eq_decide]
       have hw : wayOK ⟨V, A, D, lo, hi⟩ p v ↔ X ≤ p - lo := by
        unfold wayOK
        dsimp only
        rw [if_pos hneg, hX]
       exact ⟨fun h => ⟨HR.out, by unfold SafeP; dsimp only; exact ⟨g0, g1, g3, g2, hw.mpr h⟩⟩, fun h => hw.mp h.2.2.2.2.2⟩)
      rw [hX] at C
      clear hX
      go_enter Tryz.func37, Tryz.ntmps37
      go_wp2
      go_quiet ((go_at_call 61; with_reducible exact Calls.quiet_of_same ((C.out _).mono fun _ _ h => ⟨h.1, h.2.symm⟩)))
      go_wp2
      go_ret
      exact ⟨ret_bool HV.out, below_drawn (((Below.refl _ _).alloc (Nat.le_refl _) _).alloc (by simp) _) _⟩
     ·have C := lh fun W => refway_any (v) D (by omega) (by omega) r5 r6 W
      obtain ⟨X, hX⟩ : ∃ X, slow (v) 0 D = X := ⟨_, rfl⟩
      have HV : Hid (decide (X ≤ hi - p) = safeP ⟨V, A, D, lo, hi⟩ p v) := lh (by
       unfold safeP
       rw [decide_eq_decide]
       have hw : wayOK ⟨V, A, D, lo, hi⟩ p v ↔ X ≤ hi - p := by
        unfold wayOK
        dsimp only
        rw [if_neg hneg, hX]
       exact ⟨fun h => ⟨HR.out, by unfold SafeP; dsimp only; exact ⟨g0, g1, g3, g2, hw.mpr h⟩⟩, fun h => hw.mp h.2.2.2.2.2⟩)
      rw [hX] at C
      clear hX
      go_enter Tryz.func37, Tryz.ntmps37
      go_wp2
      go_quiet ((go_at_call 61; with_reducible exact Calls.quiet_of_same ((C.out _).mono fun _ _ h => ⟨h.1, h.2.symm⟩)))
      go_wp2
      go_ret
      exact ⟨ret_bool HV.out, below_drawn (((Below.refl _ _).alloc (Nat.le_refl _) _).alloc (by simp) _) _⟩
end Go.Proofs.YtijlccblabadaaaGreat.gn
end
section
namespace Go.Proofs.YtijlccblabadaaaGreat.gn
open Go.ChangeShapes Go.WideShapes Go.ChangeAt Go.RowKit Go.Proofs.YtijlccblabadaaaGreat.k Go.Proofs.YtijlccblabadaaaGreat.b Go.Proofs.YtijlccblabadaaaGreat
set_option linter.unusedVariables false
end Go.Proofs.YtijlccblabadaaaGreat.gn
end
section
namespace Go.Proofs.YtijlccblabadaaaGreat.gn
open Go.ChangeShapes Go.WideShapes Go.ChangeAt Go.RowKit Go.Proofs.YtijlccblabadaaaGreat.k Go.Proofs.YtijlccblabadaaaGreat.b Go.Proofs.YtijlccblabadaaaGreat
set_option linter.unusedVariables false
end Go.Proofs.YtijlccblabadaaaGreat.gn
end
section
namespace Go.Proofs.YtijlccblabadaaaGreat.gx
open Go.ChangeShapes Go.WideShapes Go.ChangeAt Go.RowKit Go.Proofs.YtijlccblabadaaaGreat.k Go.Proofs.YtijlccblabadaaaGreat.b Go.Proofs.YtijlccblabadaaaGreat.gn
set_option linter.unusedVariables false
theorem rm_yes {x : Int} (h : InR x) : q.rm x = true := decide_eq_true h
theorem rm_no {x : Int} (h : ¬ InR x) : q.rm x = false := decide_eq_false h
theorem rv_yes {x : Int} (h : InR x) : q.rv x = x := if_pos (rm_yes h)
theorem rv_no {x : Int} (h : ¬ InR x) : q.rv x = 0 := if_neg (by rw [rm_no h]; decide)
theorem md_yes {a b c : Int} (hc : 1 ≤ c) (h : InR (a * b / c)) : q.mdV a b c = a * b / c ∧ q.mdE a b c = 0 := by
 unfold q.mdV q.mdE
 rw [if_neg (by omega), if_neg (by omega), if_neg (by omega), if_pos (rm_yes h), rv_yes h]
 exact ⟨rfl, rfl⟩
end Go.Proofs.YtijlccblabadaaaGreat.gx
end
section
namespace Go.Proofs.YtijlccblabadaaaGreat.gx
set_option maxRecDepth 100000
open Go.ChangeShapes Go.WideShapes Go.ChangeAt Go.RowKit Go.Proofs.YtijlccblabadaaaGreat.k Go.Proofs.YtijlccblabadaaaGreat.b Go.Proofs.YtijlccblabadaaaGreat.gn
set_option linter.unusedVariables false
theorem md_ok {a b c : Int} : q.mdE a b c = 0 ↔ 1 ≤ c ∧ InR (a * b / c) := by
 unfold q.mdE
 by_cases h0 : c = 0
 ·rw [if_pos h0]; constructor <;> intro h <;> omega
 by_cases h1 : c < 0
 ·rw [if_neg h0, if_pos h1]; constructor <;> intro h <;> omega
 by_cases h2 : InR (a * b / c)
 ·rw [if_neg h0, if_neg h1, if_pos (rm_yes h2)]; exact ⟨fun _ => ⟨by omega, h2⟩, fun _ => rfl⟩
 ·rw [if_neg h0, if_neg h1, if_neg (by rw [rm_no h2]; decide)]; exact ⟨fun h => (by omega), fun h => absurd h.2 h2⟩
theorem place_any (s f m n d : Int) (hs : InR s) (hf : InR f) (hm : InR m) (hn : InR n) (hd : InR d) (w : World) : Calls Tryz.prog 129 #[.int .i64 s, .int .i64 f, .int .i64 m, .int .i64 n, .int .i64 d] w fun e w' => e = .returned (.tuple #[.int .i64 (plV s f m n d), .bool (plB s f m n d)]) ∧ Below w.heap.size w w' := by
 have HB := lh (Below.refl w.heap.size w)
 by_cases h2 : InR (m - f)
 ·skip
  have c1 := fun W => q.sub_any m f hm.1 hm.2 hf.1 hf.2 W
  rw [show q.subV m f = m - f from rv_yes h2, show q.subB m f = true from rm_yes h2] at c1
  have C1 := lh c1
  have c2 := fun W => q.muldiv_any (m - f) n d h2.1 h2.2 hn.1 hn.2 hd.2 W
  by_cases h3 : 1 ≤ d ∧ InR ((m - f) * n / d)
  ·rw [(md_yes h3.1 h3.2).1, (md_yes h3.1 h3.2).2] at c2
   have C2 := lh c2
   by_cases h4 : InR (s + (m - f) * n / d)
   ·skip
    have c3 := fun W => q.add_any s ((m - f) * n / d) hs.1 hs.2 h3.2.1 h3.2.2 W
    rw [show q.addV s ((m - f) * n / d) = s + (m - f) * n / d from rv_yes h4, show q.addB s ((m - f) * n / d) = true from rm_yes h4] at c3
    have C3 := lh c3
    rw [plV_yes ⟨h3.1, h2, h3.2, h4⟩, plB_yes ⟨h3.1, h2, h3.2, h4⟩]
    clear c1 c2 c3 h2 h3 h4
    generalize s + (m - f) * n / d = x at *
    generalize (m - f) * n / d = z at *
    generalize m - f = y at *
    go_enter Tryz.func129, Tryz.ntmps129
    go_wp2_with (go_at_call 93; ((with_reducible refine (C1.out _).mono ?_); rintro e w1 ⟨rfl, rfl⟩))
    go_wp2_with (go_at_call 151; ((with_reducible refine (C2.out _).mono ?_); rintro e w2 ⟨rfl, nq, rfl⟩; have HB := lh (below_drawn HB.out nq)))
    go_wp2_with (go_at_call 121; ((with_reducible refine (C3.out _).mono ?_); rintro e w3 ⟨rfl, rfl⟩))
    skip
    go_ret2
    exact ⟨rfl, HB.out⟩
   ·skip
    have c3 := fun W => q.add_any s ((m - f) * n / d) hs.1 hs.2 h3.2.1 h3.2.2 W
    rw [show q.addV s ((m - f) * n / d) = 0 from rv_no h4, show q.addB s ((m - f) * n / d) = false from rm_no h4] at c3
    have C3 := lh c3
    have hno : ¬ PlaceP s f m n d := fun h => h4 h.2.2.2
    rw [plV_no hno, plB_no hno]
    clear c1 c2 c3 h2 h3 h4 hno
    generalize (m - f) * n / d = z at *
    generalize m - f = y at *
    go_enter Tryz.func129, Tryz.ntmps129
    go_wp2_with (go_at_call 93; ((with_reducible refine (C1.out _).mono ?_); rintro e w1 ⟨rfl, rfl⟩))
    go_wp2_with (go_at_call 151; ((with_reducible refine (C2.out _).mono ?_); rintro e w2 ⟨rfl, nq, rfl⟩; have HB := lh (below_drawn HB.out nq)))
    go_wp2_with (go_at_call 121; ((with_reducible refine (C3.out _).mono ?_); rintro e w3 ⟨rfl, rfl⟩))
    skip
    go_ret2
    exact ⟨rfl, HB.out⟩
  ·have hno : ¬ PlaceP s f m n d := fun h => h3 ⟨h.1, h.2.2.1⟩
   rw [plV_no hno, plB_no hno]
   have he : q.mdE (m - f) n d ≠ 0 := fun h => h3 (md_ok.1 h)
   generalize q.mdE (m - f) n d = e1 at c2 he
   generalize q.mdV (m - f) n d = z1 at c2
   have heb : decide (e1 = 0) = false := decide_eq_false he
   have C2 := lh c2
   clear c1 c2 h2 h3 hno
   generalize m - f = y at *
   go_enter Tryz.func129, Tryz.ntmps129
   go_wp2_with (go_at_call 93; ((with_reducible refine (C1.out _).mono ?_); rintro e w1 ⟨rfl, rfl⟩))
   go_wp2_with (go_at_call 151; ((with_reducible refine (C2.out _).mono ?_); rintro e w2 ⟨rfl, nq, rfl⟩; have HB := lh (below_drawn HB.out nq)))
   skip
   go_ret2
   exact ⟨rfl, HB.out⟩
 ·skip
  have c1 := fun W => q.sub_any m f hm.1 hm.2 hf.1 hf.2 W
  rw [show q.subV m f = 0 from rv_no h2, show q.subB m f = false from rm_no h2] at c1
  have C1 := lh c1
  have hno : ¬ PlaceP s f m n d := fun h => h2 h.2.1
  rw [plV_no hno, plB_no hno]
  clear c1 h2 hno
  go_enter Tryz.func129, Tryz.ntmps129
  go_wp2_with (go_at_call 93; ((with_reducible refine (C1.out _).mono ?_); rintro e w1 ⟨rfl, rfl⟩))
  skip
  go_ret2
  exact ⟨rfl, HB.out⟩
set_option maxHeartbeats 2000000 in
theorem want_any (V A D lo hi p v : Int) (hV : InR V) (hA : InR A) (hD : InR D) (hlo : InR lo) (hhi : InR hi) (hp : InR p) (hv : InR v) (s f m n d : Int) (hs : InR s) (hf : InR f) (hm : InR m) (hn : InR n) (hd : InR d) (w : World) : Calls Tryz.prog 104 #[.agg #[.int .i64 V, .int .i64 A, .int .i64 D, .int .i64 lo, .int .i64 hi], .agg #[.int .i64 p, .int .i64 v], .int .i64 s, .int .i64 f, .int .i64 m, .int .i64 n, .int .i64 d] w fun e w' => e = .returned (.tuple #[.int .i64 (wantV p s f m n d), .bool (wantB ⟨V, A, D, lo, hi⟩ p v s f m n d)]) ∧ Below w.heap.size w w' := by
 have hP := plV_in s f m n d
 have C1 := lh fun W => place_any s f m n d hs hf hm hn hd W
 have hmay : ∀ W, Calls Tryz.prog 107 #[.agg #[.int .i64 V, .int .i64 A, .int .i64 D, .int .i64 lo, .int .i64 hi], .agg #[.int .i64 p, .int .i64 v]] W fun e w' => e = .returned (.tuple #[.int .i64 (loV ⟨V, A, D, lo, hi⟩ p v), .int .i64 (hiV ⟨V, A, D, lo, hi⟩ p v)]) ∧ Below W.heap.size W w' := by
  intro W
  by_cases h : RightL ⟨V, A, D, lo, hi⟩ ∧ SafeP ⟨V, A, D, lo, hi⟩ p v
  ·rw [show loV ⟨V, A, D, lo, hi⟩ p v = mayLo ⟨V, A, D, lo, hi⟩ p v from if_pos h, show hiV ⟨V, A, D, lo, hi⟩ p v = mayHi ⟨V, A, D, lo, hi⟩ p v from if_pos h]
   exact may_ok ⟨V, A, D, lo, hi⟩ h.1 p v h.2 W
  ·rw [show loV ⟨V, A, D, lo, hi⟩ p v = 0 from if_neg h, show hiV ⟨V, A, D, lo, hi⟩ p v = 0 from if_neg h]
   exact may_no ⟨V, A, D, lo, hi⟩ ⟨hV, hA, hD, hlo, hhi⟩ p v hp hv h W
 have HM := lh hmay
 clear hmay
 by_cases hpl : PlaceP s f m n d
 ·rw [plB_yes hpl] at C1
  by_cases hr : InR (plV s f m n d - p)
  ·have hw : WantP p s f m n d := ⟨hpl, hr⟩
   rw [show wantV p s f m n d = plV s f m n d - p from if_pos hw, show wantB ⟨V, A, D, lo, hi⟩ p v s f m n d = (decide (loV ⟨V, A, D, lo, hi⟩ p v ≤ plV s f m n d - p) && decide (plV s f m n d - p ≤ hiV ⟨V, A, D, lo, hi⟩ p v)) from if_pos hw]
   clear hw hpl
   generalize plV s f m n d = P at *
   generalize loV ⟨V, A, D, lo, hi⟩ p v = a at *
   generalize hiV ⟨V, A, D, lo, hi⟩ p v = z at *
   have C2 : Hid (∀ W, Calls Tryz.prog 93 #[.int .i64 P, .int .i64 p] W fun e w' => e = .returned (.tuple #[.int .i64 (P - p), .bool true]) ∧ Below W.heap.size W w') := lh fun W => by have h := q.sub_any P p hP.1 hP.2 hp.1 hp.2 W; rw [show q.subV P p = (P - p) from rv_yes hr, show q.subB P p = true from rm_yes hr] at h; exact h.mono fun e w1 he => by obtain ⟨he, rfl⟩ := he; exact ⟨he, Below.refl _ _⟩
   generalize P - p = y at *
   clear hr hP
   by_cases q1 : a ≤ y
   ·have q1b : decide (a ≤ y) = true := decide_eq_true q1
    have HV : Hid ((decide (a ≤ y) && decide (y ≤ z)) = decide (y ≤ z)) := lh (by rw [q1b]; rfl)
    rw [HV.out]
    clear HV
    go_enter Tryz.func104, Tryz.ntmps104
    go_wp2_with (go_at_call 129; ((with_reducible refine (C1.out _).mono ?_); rintro e v1 ⟨rfl, hb⟩; obtain ⟨hx0, hx1, hbb, hz1⟩ := k.boxes2 hb; have hz0 : w.heap.size < v1.heap.size := (by omega); have X7 := lh hx0; have X8 := lh hx1; have HB := lh hbb; clear hbb hx0 hx1; have X7c0 := (k.cell_of X7.out (i := 0) rfl).1; have X7c1 := (k.cell_of X7.out (i := 1) rfl).1; have X7c2 := (k.cell_of X7.out (i := 2) rfl).1; have X7c3 := (k.cell_of X7.out (i := 3) rfl).1; have X7c4 := (k.cell_of X7.out (i := 4) rfl).1; have X8c0 := (k.cell_of X8.out (i := 0) rfl).1; have X8c1 := (k.cell_of X8.out (i := 1) rfl).1; clear hb))
    go_wp2_with (go_at_call 93; ((with_reducible refine (C2.out _).mono ?_); rintro e v2 ⟨rfl, hb⟩; have X7 := lh (X7.out.below hb hz0); have X8 := lh (X8.out.below hb hz1); have hz0 := Nat.lt_of_lt_of_le hz0 hb.size; have hz1 := Nat.lt_of_lt_of_le hz1 hb.size; have HB := lh (HB.out.trans (hb.mono HB.out.size)); clear X7c0 X7c1 X7c2 X7c3 X7c4 X8c0 X8c1; have X7c0 := (k.cell_of X7.out (i := 0) rfl).1; have X7c1 := (k.cell_of X7.out (i := 1) rfl).1; have X7c2 := (k.cell_of X7.out (i := 2) rfl).1; have X7c3 := (k.cell_of X7.out (i := 3) rfl).1; have X7c4 := (k.cell_of X7.out (i := 4) rfl).1; have X8c0 := (k.cell_of X8.out (i := 0) rfl).1; have X8c1 := (k.cell_of X8.out (i := 1) rfl).1; clear hb))
    go_wp2_with (go_at_call 107; ((with_reducible refine (HM.out _).mono ?_); rintro e v3 ⟨rfl, hb⟩; have X7 := lh (X7.out.below hb hz0); have X8 := lh (X8.out.below hb hz1); have hz0 := Nat.lt_of_lt_of_le hz0 hb.size; have hz1 := Nat.lt_of_lt_of_le hz1 hb.size; have HB := lh (HB.out.trans (hb.mono HB.out.size)); clear X7c0 X7c1 X7c2 X7c3 X7c4 X8c0 X8c1; have X7c0 := (k.cell_of X7.out (i := 0) rfl).1; have X7c1 := (k.cell_of X7.out (i := 1) rfl).1; have X7c2 := (k.cell_of X7.out (i := 2) rfl).1; have X7c3 := (k.cell_of X7.out (i := 3) rfl).1; have X7c4 := (k.cell_of X7.out (i := 4) rfl).1; have X8c0 := (k.cell_of X8.out (i := 0) rfl).1; have X8c1 := (k.cell_of X8.out (i := 1) rfl).1; clear hb))
    go_ret2
    exact ⟨rfl, HB.out⟩
   ·have q1b : decide (a ≤ y) = false := decide_eq_false q1
    have HV : Hid ((decide (a ≤ y) && decide (y ≤ z)) = false) := lh (by rw [q1b]; rfl)
    rw [HV.out]
    clear HV
    go_enter Tryz.func104, Tryz.ntmps104
    go_wp2_with (go_at_call 129; ((with_reducible refine (C1.out _).mono ?_); rintro e v1 ⟨rfl, hb⟩; obtain ⟨hx0, hx1, hbb, hz1⟩ := k.boxes2 hb; have hz0 : w.heap.size < v1.heap.size := (by omega); have X7 := lh hx0; have X8 := lh hx1; have HB := lh hbb; clear hbb hx0 hx1; have X7c0 := (k.cell_of X7.out (i := 0) rfl).1; have X7c1 := (k.cell_of X7.out (i := 1) rfl).1; have X7c2 := (k.cell_of X7.out (i := 2) rfl).1; have X7c3 := (k.cell_of X7.out (i := 3) rfl).1; have X7c4 := (k.cell_of X7.out (i := 4) rfl).1; have X8c0 := (k.cell_of X8.out (i := 0) rfl).1; have X8c1 := (k.cell_of X8.out (i := 1) rfl).1; clear hb))
    go_wp2_with (go_at_call 93; ((with_reducible refine (C2.out _).mono ?_); rintro e v2 ⟨rfl, hb⟩; have X7 := lh (X7.out.below hb hz0); have X8 := lh (X8.out.below hb hz1); have hz0 := Nat.lt_of_lt_of_le hz0 hb.size; have hz1 := Nat.lt_of_lt_of_le hz1 hb.size; have HB := lh (HB.out.trans (hb.mono HB.out.size)); clear X7c0 X7c1 X7c2 X7c3 X7c4 X8c0 X8c1; have X7c0 := (k.cell_of X7.out (i := 0) rfl).1; have X7c1 := (k.cell_of X7.out (i := 1) rfl).1; have X7c2 := (k.cell_of X7.out (i := 2) rfl).1; have X7c3 := (k.cell_of X7.out (i := 3) rfl).1; have X7c4 := (k.cell_of X7.out (i := 4) rfl).1; have X8c0 := (k.cell_of X8.out (i := 0) rfl).1; have X8c1 := (k.cell_of X8.out (i := 1) rfl).1; clear hb))
    go_wp2_with (go_at_call 107; ((with_reducible refine (HM.out _).mono ?_); rintro e v3 ⟨rfl, hb⟩; have X7 := lh (X7.out.below hb hz0); have X8 := lh (X8.out.below hb hz1); have hz0 := Nat.lt_of_lt_of_le hz0 hb.size; have hz1 := Nat.lt_of_lt_of_le hz1 hb.size; have HB := lh (HB.out.trans (hb.mono HB.out.size)); clear X7c0 X7c1 X7c2 X7c3 X7c4 X8c0 X8c1; have X7c0 := (k.cell_of X7.out (i := 0) rfl).1; have X7c1 := (k.cell_of X7.out (i := 1) rfl).1; have X7c2 := (k.cell_of X7.out (i := 2) rfl).1; have X7c3 := (k.cell_of X7.out (i := 3) rfl).1; have X7c4 := (k.cell_of X7.out (i := 4) rfl).1; have X8c0 := (k.cell_of X8.out (i := 0) rfl).1; have X8c1 := (k.cell_of X8.out (i := 1) rfl).1; clear hb))
    go_ret2
    exact ⟨rfl, HB.out⟩
  ·have hno : ¬ WantP p s f m n d := fun h => hr h.2
   rw [show wantV p s f m n d = 0 from if_neg hno, show wantB ⟨V, A, D, lo, hi⟩ p v s f m n d = false from if_neg hno]
   clear hno hpl
   generalize plV s f m n d = P at *
   have C2 : Hid (∀ W, Calls Tryz.prog 93 #[.int .i64 P, .int .i64 p] W fun e w' => e = .returned (.tuple #[.int .i64 0, .bool false]) ∧ Below W.heap.size W w') := lh fun W => by have h := q.sub_any P p hP.1 hP.2 hp.1 hp.2 W; rw [show q.subV P p = 0 from rv_no hr, show q.subB P p = false from rm_no hr] at h; exact h.mono fun e w1 he => by obtain ⟨he, rfl⟩ := he; exact ⟨he, Below.refl _ _⟩
   clear hr hP
   go_enter Tryz.func104, Tryz.ntmps104
   go_wp2_with (go_at_call 129; ((with_reducible refine (C1.out _).mono ?_); rintro e v1 ⟨rfl, hb⟩; obtain ⟨hx0, hx1, hbb, hz1⟩ := k.boxes2 hb; have hz0 : w.heap.size < v1.heap.size := (by omega); have X7 := lh hx0; have X8 := lh hx1; have HB := lh hbb; clear hbb hx0 hx1; have X7c0 := (k.cell_of X7.out (i := 0) rfl).1; have X7c1 := (k.cell_of X7.out (i := 1) rfl).1; have X7c2 := (k.cell_of X7.out (i := 2) rfl).1; have X7c3 := (k.cell_of X7.out (i := 3) rfl).1; have X7c4 := (k.cell_of X7.out (i := 4) rfl).1; have X8c0 := (k.cell_of X8.out (i := 0) rfl).1; have X8c1 := (k.cell_of X8.out (i := 1) rfl).1; clear hb))
   go_wp2_with (go_at_call 93; ((with_reducible refine (C2.out _).mono ?_); rintro e v2 ⟨rfl, hb⟩; have X7 := lh (X7.out.below hb hz0); have X8 := lh (X8.out.below hb hz1); have hz0 := Nat.lt_of_lt_of_le hz0 hb.size; have hz1 := Nat.lt_of_lt_of_le hz1 hb.size; have HB := lh (HB.out.trans (hb.mono HB.out.size)); clear X7c0 X7c1 X7c2 X7c3 X7c4 X8c0 X8c1; have X7c0 := (k.cell_of X7.out (i := 0) rfl).1; have X7c1 := (k.cell_of X7.out (i := 1) rfl).1; have X7c2 := (k.cell_of X7.out (i := 2) rfl).1; have X7c3 := (k.cell_of X7.out (i := 3) rfl).1; have X7c4 := (k.cell_of X7.out (i := 4) rfl).1; have X8c0 := (k.cell_of X8.out (i := 0) rfl).1; have X8c1 := (k.cell_of X8.out (i := 1) rfl).1; clear hb))
   go_ret2
   exact ⟨rfl, HB.out⟩
 ·rw [plB_no hpl] at C1
  have hno : ¬ WantP p s f m n d := fun h => hpl h.1
  rw [show wantV p s f m n d = 0 from if_neg hno, show wantB ⟨V, A, D, lo, hi⟩ p v s f m n d = false from if_neg hno]
  clear hno hpl
  generalize plV s f m n d = P at *
  clear hP
  go_enter Tryz.func104, Tryz.ntmps104
  go_wp2_with (go_at_call 129; ((with_reducible refine (C1.out _).mono ?_); rintro e v1 ⟨rfl, hb⟩; obtain ⟨hx0, hx1, hbb, hz1⟩ := k.boxes2 hb; have hz0 : w.heap.size < v1.heap.size := (by omega); have X7 := lh hx0; have X8 := lh hx1; have HB := lh hbb; clear hbb hx0 hx1; have X7c0 := (k.cell_of X7.out (i := 0) rfl).1; have X7c1 := (k.cell_of X7.out (i := 1) rfl).1; have X7c2 := (k.cell_of X7.out (i := 2) rfl).1; have X7c3 := (k.cell_of X7.out (i := 3) rfl).1; have X7c4 := (k.cell_of X7.out (i := 4) rfl).1; have X8c0 := (k.cell_of X8.out (i := 0) rfl).1; have X8c1 := (k.cell_of X8.out (i := 1) rfl).1; clear hb))
  go_ret2
  exact ⟨rfl, HB.out⟩
end Go.Proofs.YtijlccblabadaaaGreat.gx
end
section
namespace Go.Proofs.YtijlccblabadaaaGreat.ax
set_option maxRecDepth 100000
open Go.ChangeShapes Go.WideShapes Go.ChangeAt Go.RowKit Go.Proofs.YtijlccblabadaaaGreat.k Go.Proofs.YtijlccblabadaaaGreat.rr
open Go.Proofs.YtijlccblabadaaaGreat.ln (C RdC RdI iC iC_len iC_one)
set_option linter.unusedVariables false
theorem sum_snoc {L : List Int} {j : Nat} {x : Int} (h : L[j]? = some x) : sumOf (L.take (j + 1)) = sumOf (L.take j) + x := by
 induction L generalizing j with
 | nil => simp at h
 | cons y T ih =>
  cases j with
  | zero =>
   have e : y = x := by simpa using h
   subst e
   show y + sumOf (T.take 0) = sumOf [] + y
   simp [sumOf]
  | succ j =>
   have := ih (j := j) (by simpa using h)
   show y + sumOf (T.take (j + 1)) = (y + sumOf (T.take j)) + x
   omega
theorem sum_bound : ∀ {L : List Int}, (∀ x ∈ L, -2199023255552 ≤ x ∧ x ≤ 2199023255552) → -(L.length * 2199023255552 : Int) ≤ sumOf L ∧ sumOf L ≤ L.length * 2199023255552
 | [], _ => by simp [sumOf]
 | y :: T, h => by
  have h1 := h y List.mem_cons_self
  have h2 := sum_bound (L := T) fun x hx => h x (List.mem_cons_of_mem _ hx)
  show -(((T.length + 1 : Nat) : Int) * 2199023255552) ≤ y + sumOf T ∧ y + sumOf T ≤ ((T.length + 1 : Nat) : Int) * 2199023255552
  omega
theorem int_at {w : World} {b o j : Nat} {x : Int} (h : w.rangeAt b (o + j * 1) (iC x)) : w.cell? ⟨b, o + j, none⟩ = some (.int .i64 x) := by
 have := h 0 _ rfl
 rwa [Nat.mul_one, Nat.add_zero] at this
set_option maxRecDepth 100000 in
set_option maxHeartbeats 2000000 in
theorem refout_any (a : Ax) (h : RightA a) (S N W : Sl) {B : Nat} (w : World) (hr : RdI w B S.A S.n S.c a.sm) (hB : B ≤ w.heap.size) :
  Calls Tryz.prog 20 #[axV a S N W] w fun e w' => e = .returned (.int .i64 (outA a)) ∧ Below w.heap.size w w' := by
 obtain ⟨x1, x2, x3⟩ := k.boxes1 (w := w) (c1 := axA a S N W) (t1 := 35) (Below.refl _ _)
 have X1 := lh x1
 have X2 := lh x2
 have hlen := hr.len_le
 have HR := lh ((hr.below (x2.mono hB)))
 have HBB := lh hB
 have hsl := hr.1
 have HW : Hid ((a.sm.length : Int) = a.win ∧ a.win ≤ 16 ∧ 1 ≤ a.win) := lh ⟨h.len, h.made.2.2.1, h.win1⟩
 have HF := lh h.far
 have HS : Hid (∀ j : Nat, -((j : Int) * 2199023255552) ≤ sumOf (a.sm.take j) ∧ sumOf (a.sm.take j) ≤ j * 2199023255552) := lh fun j => by
  have := sum_bound (L := a.sm.take j) fun x hx => h.rows x (List.mem_of_mem_take hx)
  have h1 : (a.sm.take j).length ≤ j := by rw [List.length_take]; omega
  omega
 have HX := lh h.rows
 clear x1 x2 hr hB h
 go_enter Tryz.func20, Tryz.ntmps20
 go_upto_region 1 with fail
 generalize w.alloc (.cells (axA a S N W) 35) = w2 at X1 X2 x3 HR ⊢
 have ⟨q12, _⟩ := k.cell_of X1.out (i := 12) rfl
 have ⟨q6, _⟩ := k.cell_of X1.out (i := 6) rfl
 have ⟨q13, _⟩ := k.cell_of X1.out (i := 13) rfl
 clear X1
 go_wp2
 go_loopw [3, 4] (fun s i wr => ∃ j : Nat, j ≤ S.n ∧ i = .int .i64 j ∧ s = .int .i64 (sumOf (a.sm.take j)) ∧ wr = w2) (fun _ i _ => S.n - (intOf i).toNat)
 case atStart => exact ⟨0, Nat.zero_le _, rfl, rfl, rfl⟩
 case round =>
  obtain ⟨j, hj, rfl, rfl, rfl⟩ := hrel
  by_cases hlt : j < S.n
  ·obtain ⟨b, o, x, he, hb, hx, hrr⟩ := HR.out.at hlt
   have c0 := int_at hrr
   have hj0 : (0 : Int) ≤ (j : Int) := by omega
   have hj1 : (j : Int) < (S.n : Int) := by omega
   have hss := sum_snoc hx
   have hb1 := HS.out j
   have hb2 := HX.out x (List.mem_of_getElem? hx)
   have hw := HW.out
   have hwrap : IntKind.i64.wrap (sumOf (a.sm.take j) + x) = sumOf (a.sm.take (j + 1)) := by
    rw [hss, IntKind.wrap_i64]; omega
   rw [he] at q12
   have HE := lh he
   clear hrr hx hss hb1 hb2 hw he
   go_wp2
   go_roundw
   case rel => exact ⟨j + 1, by omega, by go_num, by first | rfl | trivial, by first | rfl | trivial⟩
   case measure => simp [intOf]; omega
  ·have hjl : j = S.n := by omega
   have hb1 := HS.out S.n
   have hw := HW.out
   have hf := HF.out
   have e1 : a.sm.take j = a.sm := List.take_of_length_le (by omega)
   rw [hjl] at e1
   subst hjl
   rw [e1] at hb1 ⊢
   unfold FarP at hf
   have hm : -(16 * 288230376151711744) ≤ a.win * a.off ∧ a.win * a.off ≤ 16 * 288230376151711744 := by
    have h1 : a.win * a.off ≤ a.win * 288230376151711744 := Int.mul_le_mul_of_nonneg_left hf.2 (by omega)
    have h2 : a.win * (-288230376151711744) ≤ a.win * a.off := Int.mul_le_mul_of_nonneg_left hf.1 (by omega)
    omega
   have i1 : IntKind.i64.wrap (a.win * a.off) = a.win * a.off := by rw [IntKind.wrap_i64]; omega
   have i2 : IntKind.i64.wrap (sumOf a.sm + a.win * a.off) = sumOf a.sm + a.win * a.off := by rw [IntKind.wrap_i64]; omega
   clear hb1 hw hf hm
   go_wp2
   go_ret
   exact ⟨rfl, X2.out⟩
noncomputable def madeB (l : Lm) (win homeAt fast creep : Int) : Bool := decide (MadeP l win homeAt fast creep)
set_option maxRecDepth 100000 in
set_option maxHeartbeats 2000000 in
theorem refmade_any (l : Lm) (win homeAt fast creep : Int) (w : World) :
  Calls Tryz.prog 11 #[lmV l, .int .i64 win, .int .i64 homeAt, .int .i64 fast, .int .i64 creep] w fun e w' => e = .returned (.bool (madeB l win homeAt fast creep)) ∧ Below w.heap.size w w' := by
 obtain ⟨x1, x2, x3⟩ := k.boxes1 (w := w) (c1 := lmA l) (t1 := 23) (Below.refl _ _)
 have X1 := lh x1
 have X2 := lh x2
 have CR := lh fun W' : World => gn.refright_any l W'
 have CH := lh fun W' : World => hm.refright_any ⟨0, fast, creep, false⟩ W'
 clear x1 x2
 unfold hm.hV at CH
 go_enter Tryz.func11, Tryz.ntmps11
 go_upto_region 1 with fail
 generalize w.alloc (.cells (lmA l) 23) = w2 at X1 X2 x3 ⊢
 have ⟨q0, _⟩ := k.cell_of X1.out (i := 0) rfl
 have ⟨q1, _⟩ := k.cell_of X1.out (i := 1) rfl
 have ⟨q2, _⟩ := k.cell_of X1.out (i := 2) rfl
 have ⟨q3, _⟩ := k.cell_of X1.out (i := 3) rfl
 have ⟨q4, _⟩ := k.cell_of X1.out (i := 4) rfl
 go_wp2_with (go_at_call 26; fail)
 refine (CR.out _).mono ?_
 rintro e w3 ⟨rfl, hb⟩
 have X3 := lh (X2.out.trans (hb.mono X2.out.size))
 have ⟨d3, _⟩ := k.cell_of (X1.out.below hb x3) (i := 3) rfl
 have ⟨d4, _⟩ := k.cell_of (X1.out.below hb x3) (i := 4) rfl
 clear hb q0 q1 q2 q3 q4 X1 X2 CR x3
 have end_ : ∀ {b : Bool}, madeB l win homeAt fast creep = b → Hid (madeB l win homeAt fast creep = b) := fun h => lh h
 by_cases h1 : gn.RightL l
 ·rw [gn.right_yes h1]
  by_cases h2 : 1 ≤ win
  ·by_cases h3 : win ≤ 16
   ·by_cases h4 : l.lo ≤ homeAt
    ·by_cases h5 : homeAt ≤ l.hi
     ·have HV : Hid (madeB l win homeAt fast creep = hm.rightH ⟨0, fast, creep, false⟩) := lh (by unfold madeB hm.rightH; rw [decide_eq_decide]; exact ⟨fun h => h.2.2.2.2.2, fun h => ⟨h1, h2, h3, h4, h5, h⟩⟩)
      clear h1 end_
      go_wp2_with (go_at_call 27; fail)
      refine (CH.out _).mono ?_
      rintro e w4 ⟨rfl, hb⟩
      have X4 := lh (X3.out.trans (hb.mono X3.out.size))
      clear hb d3 d4 X3 CH
      go_wp2
      go_ret
      exact ⟨ret_bool HV.out.symm, X4.out⟩
     ·have HV := end_ (decide_eq_false fun h => h5 h.2.2.2.2.1)
      have i1 : decide (homeAt ≤ l.hi) = false := decide_eq_false h5
      clear h1 end_ CH
      go_wp2
      go_ret
      exact ⟨ret_bool HV.out.symm, X3.out⟩
    ·have HV := end_ (decide_eq_false fun h => h4 h.2.2.2.1)
     have i1 : decide (l.lo ≤ homeAt) = false := decide_eq_false h4
     clear h1 end_ CH
     go_wp2
     go_ret
     exact ⟨ret_bool HV.out.symm, X3.out⟩
   ·have HV := end_ (decide_eq_false fun h => h3 h.2.2.1)
    have i1 : decide (win ≤ 16) = false := decide_eq_false h3
    clear h1 end_ CH
    go_wp2
    go_ret
    exact ⟨ret_bool HV.out.symm, X3.out⟩
  ·have HV := end_ (decide_eq_false fun h => h2 h.2.1)
   have i1 : decide (1 ≤ win) = false := decide_eq_false h2
   clear h1 end_ CH
   go_wp2
   go_ret
   exact ⟨ret_bool HV.out.symm, X3.out⟩
 ·rw [gn.right_no h1]
  have HV := end_ (decide_eq_false fun h => h1 h.1)
  clear h1 end_ CH
  go_wp2
  go_ret
  exact ⟨ret_bool HV.out.symm, X3.out⟩
end Go.Proofs.YtijlccblabadaaaGreat.ax
end
