/- Stage 12's fixed answer. No condition. -/
import Derived.Test.YtnghifbkiipigaaLnLine
namespace Go.Proofs.Ytnghifbkiipigaa.ln
open Go.ChangeShapes Go.WideShapes Go.ChangeAt Go.RowKit Go.Proofs.Ytnghifbkiipigaa.k Go.Proofs.Ytnghifbkiipigaa.rr
set_option linter.unusedVariables false

theorem two_ints (w : World) (e : TypeId) (x y : Int) : RdI (w.alloc (.cells #[Value.int .i64 x, Value.int .i64 y] e)) (w.alloc (.cells #[Value.int .i64 x, Value.int .i64 y] e)).heap.size (some ⟨w.heap.size, 0, none⟩) 2 2 [x, y] :=
  ⟨rfl, Nat.le_refl _, by unfold maxLen; omega, (fun h => by cases h), fun _ => ⟨_, 0, rfl, by simp, fun i z hz j u hu => by
    have hi : i < 2 := (List.getElem?_eq_some_iff.1 hz).1
    have hj : j < 1 := (List.getElem?_eq_some_iff.1 hu).1
    have hj0 : j = 0 := by omega
    subst hj0
    simp only [Nat.zero_add, Nat.mul_one, Nat.add_zero]
    rw [World.cell?_alloc_mark]
    rcases (show i = 0 ∨ i = 1 by omega) with rfl | rfl
    · have e1 : x = z := by simpa using hz
      subst e1; exact hu
    · have e1 : y = z := by simpa using hz
      subst e1; exact hu⟩⟩
set_option maxRecDepth 100000 in
set_option maxHeartbeats 4000000 in
theorem awake_any (w : World) : Calls Try.prog 5 #[] w fun e w' => e = .returned (.bool true) ∧ Below w.heap.size w w' := by
  have C1 : Hid (∀ (W : World) (A : Option Addr) (n ca : Nat) (A' : Option Addr) (m ca' : Nat), RdC W W.heap.size A n ca [] → RdC W W.heap.size A' m ca' [] → Calls Try.prog 8 #[.agg #[.slice A n ca, .slice A' m ca'], .agg #[.int .i64 1, .int .i64 0, .int .i64 0, .int .i64 0, .int .i64 0, .int .i64 0, .int .i64 0]] W (GotA [(⟨1, 0, 0, 0, 0, 0, 0⟩ : C)] [] [] 0 W)) := Lib.hid fun W A n ca A' m ca' h1 h2 => by
    have h := add_any [] [] (⟨1, 0, 0, 0, 0, 0, 0⟩ : C) h1 h2 (Nat.le_refl _) (by have := h1.1; simp at this; omega) (by have := h2.1; simp at this; omega)
    rw [show addN [] [] (⟨1, 0, 0, 0, 0, 0, 0⟩ : C) = [(⟨1, 0, 0, 0, 0, 0, 0⟩ : C)] by decide, show addW [] [] (⟨1, 0, 0, 0, 0, 0, 0⟩ : C) = [] by decide, show addI [] [] (⟨1, 0, 0, 0, 0, 0, 0⟩ : C) = [] by decide, show addE [] [] (⟨1, 0, 0, 0, 0, 0, 0⟩ : C) = 0 by decide] at h
    exact h
  have C2 : Hid (∀ (W : World) (A : Option Addr) (n ca : Nat) (A' : Option Addr) (m ca' : Nat), RdC W W.heap.size A n ca [(⟨1, 0, 0, 0, 0, 0, 0⟩ : C)] → RdC W W.heap.size A' m ca' [] → Calls Try.prog 8 #[.agg #[.slice A n ca, .slice A' m ca'], .agg #[.int .i64 2, .int .i64 0, .int .i64 0, .int .i64 0, .int .i64 1, .int .i64 0, .int .i64 0]] W (GotA [(⟨1, 0, 0, 0, 0, 0, 0⟩ : C)] [(⟨2, 0, 0, 0, 1, 0, 0⟩ : C)] [] 0 W)) := Lib.hid fun W A n ca A' m ca' h1 h2 => by
    have h := add_any [(⟨1, 0, 0, 0, 0, 0, 0⟩ : C)] [] (⟨2, 0, 0, 0, 1, 0, 0⟩ : C) h1 h2 (Nat.le_refl _) (by have := h1.1; simp at this; omega) (by have := h2.1; simp at this; omega)
    rw [show addN [(⟨1, 0, 0, 0, 0, 0, 0⟩ : C)] [] (⟨2, 0, 0, 0, 1, 0, 0⟩ : C) = [(⟨1, 0, 0, 0, 0, 0, 0⟩ : C)] by decide, show addW [(⟨1, 0, 0, 0, 0, 0, 0⟩ : C)] [] (⟨2, 0, 0, 0, 1, 0, 0⟩ : C) = [(⟨2, 0, 0, 0, 1, 0, 0⟩ : C)] by decide, show addI [(⟨1, 0, 0, 0, 0, 0, 0⟩ : C)] [] (⟨2, 0, 0, 0, 1, 0, 0⟩ : C) = [] by decide, show addE [(⟨1, 0, 0, 0, 0, 0, 0⟩ : C)] [] (⟨2, 0, 0, 0, 1, 0, 0⟩ : C) = 0 by decide] at h
    exact h
  have C3 : Hid (∀ (W : World) (A : Option Addr) (n ca : Nat) (A' : Option Addr) (m ca' : Nat), RdC W W.heap.size A n ca [(⟨1, 0, 0, 0, 0, 0, 0⟩ : C)] → RdC W W.heap.size A' m ca' [(⟨2, 0, 0, 0, 1, 0, 0⟩ : C)] → Calls Try.prog 8 #[.agg #[.slice A n ca, .slice A' m ca'], .agg #[.int .i64 3, .int .i64 0, .int .i64 0, .int .i64 0, .int .i64 0, .int .i64 0, .int .i64 0]] W (GotA [(⟨3, 0, 0, 0, 0, 0, 0⟩ : C)] [] [1, 2] 0 W)) := Lib.hid fun W A n ca A' m ca' h1 h2 => by
    have h := add_any [(⟨1, 0, 0, 0, 0, 0, 0⟩ : C)] [(⟨2, 0, 0, 0, 1, 0, 0⟩ : C)] (⟨3, 0, 0, 0, 0, 0, 0⟩ : C) h1 h2 (Nat.le_refl _) (by have := h1.1; simp at this; omega) (by have := h2.1; simp at this; omega)
    rw [show addN [(⟨1, 0, 0, 0, 0, 0, 0⟩ : C)] [(⟨2, 0, 0, 0, 1, 0, 0⟩ : C)] (⟨3, 0, 0, 0, 0, 0, 0⟩ : C) = [(⟨3, 0, 0, 0, 0, 0, 0⟩ : C)] by decide, show addW [(⟨1, 0, 0, 0, 0, 0, 0⟩ : C)] [(⟨2, 0, 0, 0, 1, 0, 0⟩ : C)] (⟨3, 0, 0, 0, 0, 0, 0⟩ : C) = [] by decide, show addI [(⟨1, 0, 0, 0, 0, 0, 0⟩ : C)] [(⟨2, 0, 0, 0, 1, 0, 0⟩ : C)] (⟨3, 0, 0, 0, 0, 0, 0⟩ : C) = [1, 2] by decide, show addE [(⟨1, 0, 0, 0, 0, 0, 0⟩ : C)] [(⟨2, 0, 0, 0, 1, 0, 0⟩ : C)] (⟨3, 0, 0, 0, 0, 0, 0⟩ : C) = 0 by decide] at h
    exact h
  go_enter Try.func5, Try.ntmps5
  go_upto_region 2 with (go_at_call 8; ((with_reducible refine (C1.out _ none 0 0 none 0 0 (Rd.none_ cC 7 _ _) (Rd.none_ cC 7 _ _)).mono ?_); rintro e w1 ⟨A, n, ca, A', m, ca', D, q, d, rfl, hr1, hr2, hr3, hb⟩; clear hr3))
  have HB := Lib.hid hb
  clear hb C1
  have hbA : Below w1.heap.size w1 (w1.alloc (.cells #[.slice A n ca, .slice A' m ca'] 24)) := (Below.refl _ _).alloc (Nat.le_refl _) _
  have hv : VarL (w1.alloc (.cells #[.slice A n ca, .slice A' m ca'] 24)) w1.heap.size A n ca A' m ca' := VarL.new _ _ _ _ _ _ _
  have HBA := Lib.hid (HB.out.trans (hbA.mono HB.out.size))
  have hr1 := rd_under hr1 hbA
  have hr2 := rd_under hr2 hbA
  generalize (w1.alloc (.cells #[.slice A n ca, .slice A' m ca'] 24)) = w2 at hbA hv HBA hr1 hr2 ⊢
  have V2 := Lib.hid hv
  have R1 := Lib.hid hr1
  have R2 := Lib.hid hr2
  have HB2 := Lib.hid HBA.out
  have g1 : w.heap.size ≤ w1.heap.size := HB.out.size
  have s2 : w1.heap.size < w2.heap.size := hv.lt
  clear hr1 hr2 hv hbA HBA HB
  have ⟨a0, a1, af0, af1⟩ := V2.out.cells
  go_upto_region 3 with (go_at_call 8; ((with_reducible refine (C2.out _ A n ca A' m ca' R1.out R2.out).mono ?_); rintro e w3 ⟨D, q, d, D', p, d', I, k, dd, rfl, hr1, hr2, hr3, hb⟩; have V3 := Lib.hid (V2.out.under hb); have HB3 := Lib.hid (HB2.out.trans (hb.mono HB2.out.size)); have S1 := Lib.hid hr1; have S2 := Lib.hid hr2; have hp := hr2.1; have s3 := Nat.lt_of_lt_of_le s2 hb.size; clear hr1 hr2 hr3 hb a0 a1 af0 af1; have ⟨a0, a1, af0, af1⟩ := V3.out.cells))
  simp only [List.length_cons, List.length_nil] at hp
  subst hp
  have v4 : VarL ((w3.setCell ⟨w1.heap.size, 0, none⟩ (.slice D q d)).setCell ⟨w1.heap.size, 1, none⟩ (.slice D' (0 + 1) d')) w1.heap.size D q d D' (0 + 1) d' := V3.out.set _ _ _ _ _ _
  have t1 := rdc_set V3.out S1.out D q d D' (0 + 1) d'
  have t2 := rdc_set V3.out S2.out D q d D' (0 + 1) d'
  have b4 : Below w.heap.size w ((w3.setCell ⟨w1.heap.size, 0, none⟩ (.slice D q d)).setCell ⟨w1.heap.size, 1, none⟩ (.slice D' (0 + 1) d')) := (HB3.out.setCell g1 _).setCell g1 _
  have s4 : ((w3.setCell ⟨w1.heap.size, 0, none⟩ (.slice D q d)).setCell ⟨w1.heap.size, 1, none⟩ (.slice D' (0 + 1) d')).heap.size = w3.heap.size := by simp
  have e01 : (0 + 1 : Nat) = 1 := rfl
  rw [e01] at v4 t1 t2 b4 s4
  generalize ((w3.setCell ⟨w1.heap.size, 0, none⟩ (.slice D q d)).setCell ⟨w1.heap.size, 1, none⟩ (.slice D' 1 d')) = w4 at v4 t1 t2 b4 s4 ⊢
  have V4 := Lib.hid v4
  have T1 := Lib.hid t1
  have T2 := Lib.hid t2
  have HB := Lib.hid b4
  have s5 : w1.heap.size < w4.heap.size := v4.lt
  clear v4 t1 t2 b4 s4 V2 V3 R1 R2 S1 S2 HB2 HB3 a0 a1 af0 af1 s2 s3 C2 e01
  have ⟨a0, a1, af0, af1⟩ := V4.out.cells
  go_upto_region 4 with (go_at_call 8; ((with_reducible refine (C3.out _ D q d D' 1 d' T1.out T2.out).mono ?_); rintro e w5 ⟨E, r, dr, E', r', dr', J, kj, dj, rfl, hr1, hr2, hr3, hb⟩; have V5 := Lib.hid (V4.out.under hb); have HB := Lib.hid (HB.out.trans (hb.mono HB.out.size)); have S3 := Lib.hid hr3; have hr0 := hr2.1; have hkj := hr3.1; have s6 := Nat.lt_of_lt_of_le s5 hb.size; clear hr1 hr2 hr3 hb a0 a1 af0 af1))
  simp only [List.length_nil, List.length_cons] at hr0 hkj
  subst hr0 hkj
  have hbA : Below w5.heap.size w5 (w5.alloc (.cells #[.slice E r dr, .slice E' 0 dr'] 24)) := (Below.refl _ _).alloc (Nat.le_refl _) _
  have v6 : VarL (w5.alloc (.cells #[.slice E r dr, .slice E' 0 dr'] 24)) w5.heap.size E r dr E' 0 dr' := VarL.new _ _ _ _ _ _ _
  have v7 := V5.out.under hbA
  have r3 := rd_under S3.out hbA
  have b6 := HB.out.trans (hbA.mono HB.out.size)
  generalize (w5.alloc (.cells #[.slice E r dr, .slice E' 0 dr'] 24)) = w6 at hbA v6 v7 r3 b6 ⊢
  have ⟨a0, a1, _, _⟩ := v6.cells
  have ⟨b0, b1, _, _⟩ := v7.cells
  have HB := Lib.hid b6
  have R3 := Lib.hid r3
  clear hbA v6 v7 r3 b6 V4 V5 S3 C3 T1 T2
  go_wp2_with (go_at_call 12; ((with_reducible refine (sameints_any [1, 2] (rd_under R3.out ((Below.refl _ _).alloc (Nat.le_refl _) _)) (Nat.le_refl _) (two_ints w6 _ 1 2) (Nat.le_refl _)).mono ?_); rintro e w8 ⟨rfl, hb⟩; have HE := Lib.hid ((HB.out.alloc HB.out.size _).trans (hb.mono (Nat.le_trans HB.out.size (by simp)))); clear hb))
  go_ret
  exact ⟨rfl, HE.out⟩
end Go.Proofs.Ytnghifbkiipigaa.ln
