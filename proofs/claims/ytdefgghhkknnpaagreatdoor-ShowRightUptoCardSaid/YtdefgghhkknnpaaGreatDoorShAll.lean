/- The landed all, over each type of elements that it is called for: whether all of a row are right. No condition but what each line says. -/
import Derived.Test.YtdefgghhkknnpaaGreatDoorV01
import Derived.Test.YtdefgghhkknnpaaGreatDoorU12
namespace Go.Proofs.YtdefgghhkknnpaaGreatDoor.sh
open Go.ChangeShapes Go.WideShapes Go.ChangeAt Go.RowKit Go.Proofs.YtdefgghhkknnpaaGreatDoor.k Go.Proofs.YtdefgghhkknnpaaGreatDoor.rr Go.Proofs.YtdefgghhkknnpaaGreatDoor.tk Go.Proofs.YtdefgghhkknnpaaGreatDoor.tr
set_option linter.unusedVariables false
set_option linter.unusedSimpArgs false

theorem nat_step (q : Nat) (h : (q : Int) + 1 ≤ 9223372036854775807) : IntKind.i64.wrap ((q : Int) + 1) = ((q + 1 : Nat) : Int) := by rw [IntKind.wrap_i64]; omega
set_option maxRecDepth 100000 in
set_option maxHeartbeats 4000000 in
theorem all_v {H : List Va} {s : Sl} {w : World} (h1 : RS vC 8 w w.heap.size s H) (D P : Nat → Bool) (R : Bool) (hR : D 0 = R) (hD : D s.l = true) (hS : ∀ i, i < s.l → D i = (P i && D (i + 1)))
    (hC : ∀ i x, H[i]? = some x → ∀ W, Below w.heap.size w W → Calls Tryz.prog 33 #[.agg (vC x).toArray] W fun e w' => e = .returned (.bool (P i)) ∧ Below W.heap.size W w') :
    Calls Tryz.prog 32 #[s.v, .func (.func 33) #[] #[]] w fun e w' => e = .returned (.bool R) ∧ Below w.heap.size w w' := by
  obtain ⟨A, n, cap⟩ := s
  have h1 : Rd vC 8 w w.heap.size A n cap H := h1
  simp only at hD hS
  simp only [Sl.v]
  have hnl := h1.len_le
  have R1 := Lib.hid h1
  have HR := Lib.hid hR
  have HD := Lib.hid hD
  have HS := Lib.hid hS
  have HC := Lib.hid hC
  clear h1 hR hD hS hC
  go_enter Tryz.func32, Tryz.ntmps32
  go_upto_region 2 with (fail)
  go_loopw [9] (fun s9 wr => ∃ q : Nat, q ≤ n ∧ s9 = .int .i64 q ∧ Below w.heap.size w wr ∧ D q = R) (fun i _ => n - (intOf i).toNat)
  case atStart => exact ⟨0, Nat.zero_le _, rfl, Below.refl _ _, HR.out⟩
  case round =>
    obtain ⟨q, hq, rfl, hbw, hd⟩ := hrel
    by_cases hlt : q < n
    · have r1 : Rd vC 8 wr wr.heap.size A n cap H := (R1.out.below hbw).more hbw.size
      obtain ⟨b1, o1, x, rfl, hb1, hp, hc1⟩ := r1.at hlt
      have CX := Lib.hid (HC.out q x hp)
      rw [HS.out q hlt] at hd
      have BB := Lib.hid hbw
      obtain ⟨u, hu⟩ : ∃ u, P q = u := ⟨_, rfl⟩
      rw [hu] at hd CX
      have HU := Lib.hid hd
      have w1 := nat_step q (by omega)
      clear hd hu hbw r1 hp hb1
      have hci := Lib.hid hc1
      clear hc1
      go_upto_region 4 with (first | ((with_reducible refine m_loadR hci.out 60 11 ?_ ?_ ?_ ?_ ?_ ?_); rfl; rfl; rfl; rfl; kernel_rfl) | ((with_reducible refine m_new 60 6 12 ?_ ?_ ?_ (vC x) ?_ ?_ ?_ ?_ (vC_one _) ?_); rfl; rfl; rfl; rfl; rfl; rfl; kernel_rfl; intro w4 hx hb hz))
      have X4 := Lib.hid hx
      have B4 := Lib.hid (BB.out.trans (hb.mono BB.out.size))
      clear hx hb hz hci BB
      go_wp2_with (first | ((with_reducible refine m_load X4.out 60 6 ?_ ?_ ?_ ?_ ?_ ?_); rfl; rfl; rfl; rfl; kernel_rfl) | (go_at_call 33; fail))
      refine (CX.out w4 B4.out).mono ?_
      rintro e w5 ⟨rfl, hb⟩
      have B5 := Lib.hid (B4.out.trans (hb.mono B4.out.size))
      clear hb CX X4 B4
      cases u
      · have HR2 := Lib.hid (show R = false by rw [← HU.out]; simp)
        go_wp2_with fail
        go_ret
        exact ⟨ret_bool HR2.out.symm, B5.out⟩
      · have HS2 := Lib.hid (show D (q + 1) = R by rw [← HU.out]; simp)
        go_wp2_with fail
        go_roundw
        case rel => exact ⟨q + 1, by omega, by go_num, B5.out, HS2.out⟩
        case measure => simp [intOf]; omega
    · obtain rfl : q = n := by omega
      have hz : ¬ (q : Int) < q := by omega
      rw [HD.out] at hd
      have HU := Lib.hid hd
      have BB := Lib.hid hbw
      clear hd hbw
      go_wp2_with fail
      go_ret
      exact ⟨ret_bool HU.out, BB.out⟩
set_option maxRecDepth 100000 in
set_option maxHeartbeats 4000000 in
theorem all_s {H : List SH} {s : Sl} {w : World} (h1 : RS sC 19 w w.heap.size s H) (D P : Nat → Bool) (R : Bool) (hR : D 0 = R) (hD : D s.l = true) (hS : ∀ i, i < s.l → D i = (P i && D (i + 1)))
    (hC : ∀ i x, H[i]? = some x → ∀ W, Below w.heap.size w W → Calls Tryz.prog 57 #[.agg (sC x).toArray] W fun e w' => e = .returned (.bool (P i)) ∧ Below W.heap.size W w') :
    Calls Tryz.prog 56 #[s.v, .func (.func 57) #[] #[]] w fun e w' => e = .returned (.bool R) ∧ Below w.heap.size w w' := by
  obtain ⟨A, n, cap⟩ := s
  have h1 : Rd sC 19 w w.heap.size A n cap H := h1
  simp only at hD hS
  simp only [Sl.v]
  have hnl := h1.len_le
  have R1 := Lib.hid h1
  have HR := Lib.hid hR
  have HD := Lib.hid hD
  have HS := Lib.hid hS
  have HC := Lib.hid hC
  clear h1 hR hD hS hC
  go_enter Tryz.func56, Tryz.ntmps56
  go_upto_region 2 with (fail)
  go_loopw [9] (fun s9 wr => ∃ q : Nat, q ≤ n ∧ s9 = .int .i64 q ∧ Below w.heap.size w wr ∧ D q = R) (fun i _ => n - (intOf i).toNat)
  case atStart => exact ⟨0, Nat.zero_le _, rfl, Below.refl _ _, HR.out⟩
  case round =>
    obtain ⟨q, hq, rfl, hbw, hd⟩ := hrel
    by_cases hlt : q < n
    · have r1 : Rd sC 19 wr wr.heap.size A n cap H := (R1.out.below hbw).more hbw.size
      obtain ⟨b1, o1, x, rfl, hb1, hp, hc1⟩ := r1.at hlt
      have CX := Lib.hid (HC.out q x hp)
      rw [HS.out q hlt] at hd
      have BB := Lib.hid hbw
      obtain ⟨u, hu⟩ : ∃ u, P q = u := ⟨_, rfl⟩
      rw [hu] at hd CX
      have HU := Lib.hid hd
      have w1 := nat_step q (by omega)
      clear hd hu hbw r1 hp hb1
      have hci := Lib.hid hc1
      clear hc1
      go_upto_region 4 with (first | ((with_reducible refine m_loadR hci.out 49 11 ?_ ?_ ?_ ?_ ?_ ?_); rfl; rfl; rfl; rfl; kernel_rfl) | ((with_reducible refine m_new 49 6 12 ?_ ?_ ?_ (sC x) ?_ ?_ ?_ ?_ (sC_one _) ?_); rfl; rfl; rfl; rfl; rfl; rfl; kernel_rfl; intro w4 hx hb hz))
      have X4 := Lib.hid hx
      have B4 := Lib.hid (BB.out.trans (hb.mono BB.out.size))
      clear hx hb hz hci BB
      go_wp2_with (first | ((with_reducible refine m_load X4.out 49 6 ?_ ?_ ?_ ?_ ?_ ?_); rfl; rfl; rfl; rfl; kernel_rfl) | (go_at_call 57; fail))
      refine (CX.out w4 B4.out).mono ?_
      rintro e w5 ⟨rfl, hb⟩
      have B5 := Lib.hid (B4.out.trans (hb.mono B4.out.size))
      clear hb CX X4 B4
      cases u
      · have HR2 := Lib.hid (show R = false by rw [← HU.out]; simp)
        go_wp2_with fail
        go_ret
        exact ⟨ret_bool HR2.out.symm, B5.out⟩
      · have HS2 := Lib.hid (show D (q + 1) = R by rw [← HU.out]; simp)
        go_wp2_with fail
        go_roundw
        case rel => exact ⟨q + 1, by omega, by go_num, B5.out, HS2.out⟩
        case measure => simp [intOf]; omega
    · obtain rfl : q = n := by omega
      have hz : ¬ (q : Int) < q := by omega
      rw [HD.out] at hd
      have HU := Lib.hid hd
      have BB := Lib.hid hbw
      clear hd hbw
      go_wp2_with fail
      go_ret
      exact ⟨ret_bool HU.out, BB.out⟩
set_option maxRecDepth 100000 in
set_option maxHeartbeats 4000000 in
theorem all_e {H : List EH} {s : Sl} {w : World} (h1 : RS eC 6 w w.heap.size s H) (D P : Nat → Bool) (R : Bool) (hR : D 0 = R) (hD : D s.l = true) (hS : ∀ i, i < s.l → D i = (P i && D (i + 1)))
    (hC : ∀ i x, H[i]? = some x → ∀ W, Below w.heap.size w W → Calls Tryz.prog 90 #[.agg (eC x).toArray] W fun e w' => e = .returned (.bool (P i)) ∧ Below W.heap.size W w') :
    Calls Tryz.prog 91 #[s.v, .func (.func 90) #[] #[]] w fun e w' => e = .returned (.bool R) ∧ Below w.heap.size w w' := by
  obtain ⟨A, n, cap⟩ := s
  have h1 : Rd eC 6 w w.heap.size A n cap H := h1
  simp only at hD hS
  simp only [Sl.v]
  have hnl := h1.len_le
  have R1 := Lib.hid h1
  have HR := Lib.hid hR
  have HD := Lib.hid hD
  have HS := Lib.hid hS
  have HC := Lib.hid hC
  clear h1 hR hD hS hC
  go_enter Tryz.func91, Tryz.ntmps91
  go_upto_region 2 with (fail)
  go_loopw [9] (fun s9 wr => ∃ q : Nat, q ≤ n ∧ s9 = .int .i64 q ∧ Below w.heap.size w wr ∧ D q = R) (fun i _ => n - (intOf i).toNat)
  case atStart => exact ⟨0, Nat.zero_le _, rfl, Below.refl _ _, HR.out⟩
  case round =>
    obtain ⟨q, hq, rfl, hbw, hd⟩ := hrel
    by_cases hlt : q < n
    · have r1 : Rd eC 6 wr wr.heap.size A n cap H := (R1.out.below hbw).more hbw.size
      obtain ⟨b1, o1, x, rfl, hb1, hp, hc1⟩ := r1.at hlt
      have CX := Lib.hid (HC.out q x hp)
      rw [HS.out q hlt] at hd
      have BB := Lib.hid hbw
      obtain ⟨u, hu⟩ : ∃ u, P q = u := ⟨_, rfl⟩
      rw [hu] at hd CX
      have HU := Lib.hid hd
      have w1 := nat_step q (by omega)
      clear hd hu hbw r1 hp hb1
      have hci := Lib.hid hc1
      clear hc1
      go_upto_region 4 with (first | ((with_reducible refine m_loadR hci.out 44 11 ?_ ?_ ?_ ?_ ?_ ?_); rfl; rfl; rfl; rfl; kernel_rfl) | ((with_reducible refine m_new 44 6 12 ?_ ?_ ?_ (eC x) ?_ ?_ ?_ ?_ (eC_one _) ?_); rfl; rfl; rfl; rfl; rfl; rfl; kernel_rfl; intro w4 hx hb hz))
      have X4 := Lib.hid hx
      have B4 := Lib.hid (BB.out.trans (hb.mono BB.out.size))
      clear hx hb hz hci BB
      go_wp2_with (first | ((with_reducible refine m_load X4.out 44 6 ?_ ?_ ?_ ?_ ?_ ?_); rfl; rfl; rfl; rfl; kernel_rfl) | (go_at_call 90; fail))
      refine (CX.out w4 B4.out).mono ?_
      rintro e w5 ⟨rfl, hb⟩
      have B5 := Lib.hid (B4.out.trans (hb.mono B4.out.size))
      clear hb CX X4 B4
      cases u
      · have HR2 := Lib.hid (show R = false by rw [← HU.out]; simp)
        go_wp2_with fail
        go_ret
        exact ⟨ret_bool HR2.out.symm, B5.out⟩
      · have HS2 := Lib.hid (show D (q + 1) = R by rw [← HU.out]; simp)
        go_wp2_with fail
        go_roundw
        case rel => exact ⟨q + 1, by omega, by go_num, B5.out, HS2.out⟩
        case measure => simp [intOf]; omega
    · obtain rfl : q = n := by omega
      have hz : ¬ (q : Int) < q := by omega
      rw [HD.out] at hd
      have HU := Lib.hid hd
      have BB := Lib.hid hbw
      clear hd hbw
      go_wp2_with fail
      go_ret
      exact ⟨ret_bool HU.out, BB.out⟩
set_option maxRecDepth 100000 in
set_option maxHeartbeats 4000000 in
theorem all_l {H : List Sl} {s : Sl} {w : World} (h1 : RS slC 1 w w.heap.size s H) (D P : Nat → Bool) (R : Bool) (hR : D 0 = R) (hD : D s.l = true) (hS : ∀ i, i < s.l → D i = (P i && D (i + 1)))
    (hC : ∀ i x, H[i]? = some x → ∀ W, Below w.heap.size w W → Calls Tryz.prog 93 #[x.v] W fun e w' => e = .returned (.bool (P i)) ∧ Below W.heap.size W w') :
    Calls Tryz.prog 92 #[s.v, .func (.func 93) #[] #[]] w fun e w' => e = .returned (.bool R) ∧ Below w.heap.size w w' := by
  obtain ⟨A, n, cap⟩ := s
  have h1 : Rd slC 1 w w.heap.size A n cap H := h1
  simp only at hD hS
  simp only [Sl.v]
  have hnl := h1.len_le
  have R1 := Lib.hid h1
  have HR := Lib.hid hR
  have HD := Lib.hid hD
  have HS := Lib.hid hS
  have HC := Lib.hid hC
  clear h1 hR hD hS hC
  go_enter Tryz.func92, Tryz.ntmps92
  go_upto_region 2 with (fail)
  go_loopw [9] (fun s9 wr => ∃ q : Nat, q ≤ n ∧ s9 = .int .i64 q ∧ Below w.heap.size w wr ∧ D q = R) (fun i _ => n - (intOf i).toNat)
  case atStart => exact ⟨0, Nat.zero_le _, rfl, Below.refl _ _, HR.out⟩
  case round =>
    obtain ⟨q, hq, rfl, hbw, hd⟩ := hrel
    by_cases hlt : q < n
    · have r1 : Rd slC 1 wr wr.heap.size A n cap H := (R1.out.below hbw).more hbw.size
      obtain ⟨b1, o1, x, rfl, hb1, hp, hc1⟩ := r1.at hlt
      have CX := Lib.hid (HC.out q x hp)
      rw [HS.out q hlt] at hd
      have BB := Lib.hid hbw
      obtain ⟨u, hu⟩ : ∃ u, P q = u := ⟨_, rfl⟩
      rw [hu] at hd CX
      have HU := Lib.hid hd
      have w1 := nat_step q (by omega)
      clear hd hu hbw r1 hp hb1
      have a0 := hc1 0 _ rfl
      rw [Nat.add_zero, Nat.mul_one] at a0
      try unfold Sl.v at a0
      try unfold sv at a0
      try simp only [Sl.v] at CX
      clear hc1
      go_wp2_with (go_at_call 93; fail)
      refine (CX.out wr BB.out).mono ?_
      rintro e w5 ⟨rfl, hb⟩
      have B5 := Lib.hid (BB.out.trans (hb.mono BB.out.size))
      clear hb CX a0 BB
      cases u
      · have HR2 := Lib.hid (show R = false by rw [← HU.out]; simp)
        go_wp2_with fail
        go_ret
        exact ⟨ret_bool HR2.out.symm, B5.out⟩
      · have HS2 := Lib.hid (show D (q + 1) = R by rw [← HU.out]; simp)
        go_wp2_with fail
        go_roundw
        case rel => exact ⟨q + 1, by omega, by go_num, B5.out, HS2.out⟩
        case measure => simp [intOf]; omega
    · obtain rfl : q = n := by omega
      have hz : ¬ (q : Int) < q := by omega
      rw [HD.out] at hd
      have HU := Lib.hid hd
      have BB := Lib.hid hbw
      clear hd hbw
      go_wp2_with fail
      go_ret
      exact ⟨ret_bool HU.out, BB.out⟩
set_option maxRecDepth 100000 in
set_option maxHeartbeats 4000000 in
theorem all_n {H : List Str} {s : Sl} {w : World} (h1 : RS tC1 1 w w.heap.size s H) (D P : Nat → Bool) (R : Bool) (hR : D 0 = R) (hD : D s.l = true) (hS : ∀ i, i < s.l → D i = (P i && D (i + 1)))
    (hC : ∀ i x, H[i]? = some x → ∀ W, Below w.heap.size w W → Calls Tryz.prog 31 #[sv x] W fun e w' => e = .returned (.bool (P i)) ∧ Below W.heap.size W w') :
    Calls Tryz.prog 94 #[s.v, .func (.func 31) #[] #[]] w fun e w' => e = .returned (.bool R) ∧ Below w.heap.size w w' := by
  obtain ⟨A, n, cap⟩ := s
  have h1 : Rd tC1 1 w w.heap.size A n cap H := h1
  simp only at hD hS
  simp only [Sl.v]
  have hnl := h1.len_le
  have R1 := Lib.hid h1
  have HR := Lib.hid hR
  have HD := Lib.hid hD
  have HS := Lib.hid hS
  have HC := Lib.hid hC
  clear h1 hR hD hS hC
  go_enter Tryz.func94, Tryz.ntmps94
  go_upto_region 2 with (fail)
  go_loopw [9] (fun s9 wr => ∃ q : Nat, q ≤ n ∧ s9 = .int .i64 q ∧ Below w.heap.size w wr ∧ D q = R) (fun i _ => n - (intOf i).toNat)
  case atStart => exact ⟨0, Nat.zero_le _, rfl, Below.refl _ _, HR.out⟩
  case round =>
    obtain ⟨q, hq, rfl, hbw, hd⟩ := hrel
    by_cases hlt : q < n
    · have r1 : Rd tC1 1 wr wr.heap.size A n cap H := (R1.out.below hbw).more hbw.size
      obtain ⟨b1, o1, x, rfl, hb1, hp, hc1⟩ := r1.at hlt
      have CX := Lib.hid (HC.out q x hp)
      rw [HS.out q hlt] at hd
      have BB := Lib.hid hbw
      obtain ⟨u, hu⟩ : ∃ u, P q = u := ⟨_, rfl⟩
      rw [hu] at hd CX
      have HU := Lib.hid hd
      have w1 := nat_step q (by omega)
      clear hd hu hbw r1 hp hb1
      have a0 := hc1 0 _ rfl
      rw [Nat.add_zero, Nat.mul_one] at a0
      try unfold Sl.v at a0
      try unfold sv at a0
      try simp only [Sl.v] at CX
      clear hc1
      go_wp2_with (go_at_call 31; fail)
      refine (CX.out wr BB.out).mono ?_
      rintro e w5 ⟨rfl, hb⟩
      have B5 := Lib.hid (BB.out.trans (hb.mono BB.out.size))
      clear hb CX a0 BB
      cases u
      · have HR2 := Lib.hid (show R = false by rw [← HU.out]; simp)
        go_wp2_with fail
        go_ret
        exact ⟨ret_bool HR2.out.symm, B5.out⟩
      · have HS2 := Lib.hid (show D (q + 1) = R by rw [← HU.out]; simp)
        go_wp2_with fail
        go_roundw
        case rel => exact ⟨q + 1, by omega, by go_num, B5.out, HS2.out⟩
        case measure => simp [intOf]; omega
    · obtain rfl : q = n := by omega
      have hz : ¬ (q : Int) < q := by omega
      rw [HD.out] at hd
      have HU := Lib.hid hd
      have BB := Lib.hid hbw
      clear hd hbw
      go_wp2_with fail
      go_ret
      exact ⟨ret_bool HU.out, BB.out⟩
set_option maxRecDepth 100000 in
set_option maxHeartbeats 4000000 in
theorem all_b {H : List Sl} {s : Sl} {w : World} (h1 : RS slC 1 w w.heap.size s H) (D P : Nat → Bool) (R : Bool) (hR : D 0 = R) (hD : D s.l = true) (hS : ∀ i, i < s.l → D i = (P i && D (i + 1)))
    (hC : ∀ i x, H[i]? = some x → ∀ W, Below w.heap.size w W → Calls Tryz.prog 34 #[x.v] W fun e w' => e = .returned (.bool (P i)) ∧ Below W.heap.size W w') :
    Calls Tryz.prog 95 #[s.v, .func (.func 34) #[] #[]] w fun e w' => e = .returned (.bool R) ∧ Below w.heap.size w w' := by
  obtain ⟨A, n, cap⟩ := s
  have h1 : Rd slC 1 w w.heap.size A n cap H := h1
  simp only at hD hS
  simp only [Sl.v]
  have hnl := h1.len_le
  have R1 := Lib.hid h1
  have HR := Lib.hid hR
  have HD := Lib.hid hD
  have HS := Lib.hid hS
  have HC := Lib.hid hC
  clear h1 hR hD hS hC
  go_enter Tryz.func95, Tryz.ntmps95
  go_upto_region 2 with (fail)
  go_loopw [9] (fun s9 wr => ∃ q : Nat, q ≤ n ∧ s9 = .int .i64 q ∧ Below w.heap.size w wr ∧ D q = R) (fun i _ => n - (intOf i).toNat)
  case atStart => exact ⟨0, Nat.zero_le _, rfl, Below.refl _ _, HR.out⟩
  case round =>
    obtain ⟨q, hq, rfl, hbw, hd⟩ := hrel
    by_cases hlt : q < n
    · have r1 : Rd slC 1 wr wr.heap.size A n cap H := (R1.out.below hbw).more hbw.size
      obtain ⟨b1, o1, x, rfl, hb1, hp, hc1⟩ := r1.at hlt
      have CX := Lib.hid (HC.out q x hp)
      rw [HS.out q hlt] at hd
      have BB := Lib.hid hbw
      obtain ⟨u, hu⟩ : ∃ u, P q = u := ⟨_, rfl⟩
      rw [hu] at hd CX
      have HU := Lib.hid hd
      have w1 := nat_step q (by omega)
      clear hd hu hbw r1 hp hb1
      have a0 := hc1 0 _ rfl
      rw [Nat.add_zero, Nat.mul_one] at a0
      try unfold Sl.v at a0
      try unfold sv at a0
      try simp only [Sl.v] at CX
      clear hc1
      go_wp2_with (go_at_call 34; fail)
      refine (CX.out wr BB.out).mono ?_
      rintro e w5 ⟨rfl, hb⟩
      have B5 := Lib.hid (BB.out.trans (hb.mono BB.out.size))
      clear hb CX a0 BB
      cases u
      · have HR2 := Lib.hid (show R = false by rw [← HU.out]; simp)
        go_wp2_with fail
        go_ret
        exact ⟨ret_bool HR2.out.symm, B5.out⟩
      · have HS2 := Lib.hid (show D (q + 1) = R by rw [← HU.out]; simp)
        go_wp2_with fail
        go_roundw
        case rel => exact ⟨q + 1, by omega, by go_num, B5.out, HS2.out⟩
        case measure => simp [intOf]; omega
    · obtain rfl : q = n := by omega
      have hz : ¬ (q : Int) < q := by omega
      rw [HD.out] at hd
      have HU := Lib.hid hd
      have BB := Lib.hid hbw
      clear hd hbw
      go_wp2_with fail
      go_ret
      exact ⟨ret_bool HU.out, BB.out⟩
set_option maxRecDepth 100000 in
set_option maxHeartbeats 4000000 in
theorem all_i {H : List Int} {s : Sl} {w : World} (h1 : RS iC 1 w w.heap.size s H) (D P : Nat → Bool) (R : Bool) (hR : D 0 = R) (hD : D s.l = true) (hS : ∀ i, i < s.l → D i = (P i && D (i + 1)))
    (hC : ∀ i x, H[i]? = some x → ∀ W, Below w.heap.size w W → Calls Tryz.prog 86 #[.int .i64 x] W fun e w' => e = .returned (.bool (P i)) ∧ Below W.heap.size W w') :
    Calls Tryz.prog 123 #[s.v, .func (.func 86) #[] #[]] w fun e w' => e = .returned (.bool R) ∧ Below w.heap.size w w' := by
  obtain ⟨A, n, cap⟩ := s
  have h1 : Rd iC 1 w w.heap.size A n cap H := h1
  simp only at hD hS
  simp only [Sl.v]
  have hnl := h1.len_le
  have R1 := Lib.hid h1
  have HR := Lib.hid hR
  have HD := Lib.hid hD
  have HS := Lib.hid hS
  have HC := Lib.hid hC
  clear h1 hR hD hS hC
  go_enter Tryz.func123, Tryz.ntmps123
  go_upto_region 2 with (fail)
  go_loopw [9] (fun s9 wr => ∃ q : Nat, q ≤ n ∧ s9 = .int .i64 q ∧ Below w.heap.size w wr ∧ D q = R) (fun i _ => n - (intOf i).toNat)
  case atStart => exact ⟨0, Nat.zero_le _, rfl, Below.refl _ _, HR.out⟩
  case round =>
    obtain ⟨q, hq, rfl, hbw, hd⟩ := hrel
    by_cases hlt : q < n
    · have r1 : Rd iC 1 wr wr.heap.size A n cap H := (R1.out.below hbw).more hbw.size
      obtain ⟨b1, o1, x, rfl, hb1, hp, hc1⟩ := r1.at hlt
      have CX := Lib.hid (HC.out q x hp)
      rw [HS.out q hlt] at hd
      have BB := Lib.hid hbw
      obtain ⟨u, hu⟩ : ∃ u, P q = u := ⟨_, rfl⟩
      rw [hu] at hd CX
      have HU := Lib.hid hd
      have w1 := nat_step q (by omega)
      clear hd hu hbw r1 hp hb1
      have a0 := hc1 0 _ rfl
      rw [Nat.add_zero, Nat.mul_one] at a0
      try unfold Sl.v at a0
      try unfold sv at a0
      try simp only [Sl.v] at CX
      clear hc1
      go_wp2_with (go_at_call 86; fail)
      refine (CX.out wr BB.out).mono ?_
      rintro e w5 ⟨rfl, hb⟩
      have B5 := Lib.hid (BB.out.trans (hb.mono BB.out.size))
      clear hb CX a0 BB
      cases u
      · have HR2 := Lib.hid (show R = false by rw [← HU.out]; simp)
        go_wp2_with fail
        go_ret
        exact ⟨ret_bool HR2.out.symm, B5.out⟩
      · have HS2 := Lib.hid (show D (q + 1) = R by rw [← HU.out]; simp)
        go_wp2_with fail
        go_roundw
        case rel => exact ⟨q + 1, by omega, by go_num, B5.out, HS2.out⟩
        case measure => simp [intOf]; omega
    · obtain rfl : q = n := by omega
      have hz : ¬ (q : Int) < q := by omega
      rw [HD.out] at hd
      have HU := Lib.hid hd
      have BB := Lib.hid hbw
      clear hd hbw
      go_wp2_with fail
      go_ret
      exact ⟨ret_bool HU.out, BB.out⟩
end Go.Proofs.YtdefgghhkknnpaaGreatDoor.sh
