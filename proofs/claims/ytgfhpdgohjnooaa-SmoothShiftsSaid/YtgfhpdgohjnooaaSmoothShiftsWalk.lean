/- The walk of the law SmoothShifts: any window, any place, any move: it returns true, and what was in memory is as it was. -/
import Derived.Test.YtgfhpdgohjnooaaMAwake
import Derived.Test.YtgfhpdgohjnooaaMRow64
import Derived.Test.YtgfhpdgohjnooaaKOrd
namespace Go.Proofs.Ytgfhpdgohjnooaa.smoothShifts
open Go.ChangeShapes Go.WideShapes Go.ChangeAt Go.RowKit Go.Proofs.Ytgfhpdgohjnooaa.k Go.Proofs.Ytgfhpdgohjnooaa.mm Go.Proofs.Ytgfhpdgohjnooaa
set_option linter.unusedVariables false

theorem wf32 {a : Int} (h : (Lit.int .i32 a).wf = true) : -2147483648 ≤ a ∧ a ≤ 2147483647 := by
  simp only [Lit.wf, IntKind.min, IntKind.max, IntKind.signed, IntKind.bits, Bool.and_eq_true, decide_eq_true_eq, if_true] at h
  omega
theorem map_right {L : List Int} {d : Int} (h : RightW L) (hd : ∀ x ∈ L, inP (x + d)) : RightW (L.map (· + d)) :=
  ⟨by simpa using h.1, by simpa using h.2.1, fun x hx => by
    obtain ⟨y, hy, rfl⟩ := List.mem_map.1 hx
    exact hd y hy⟩
theorem map_sum (d : Int) : ∀ L : List Int, (L.map (· + d)).sum = L.sum + L.length * d
  | [] => by simp
  | x :: L => by
    rw [List.map_cons, List.sum_cons, List.sum_cons, map_sum d L, List.length_cons, Int.natCast_add, Int.add_mul]
    simp
    omega
theorem map_out {L : List Int} {d : Int} (h : RightW L) (hd : ∀ x ∈ L, inP (x + d)) : outW (L.map (· + d)) = outW L + L.length * d := by
  rw [outW_yes h, outW_yes (map_right h hd), map_sum]
theorem map_push {L : List Int} {d p : Int} : (p + d) :: (L.map (· + d)).take ((L.map (· + d)).length - 1) = (p :: L.take (L.length - 1)).map (· + d) := by
  rw [List.map_cons, List.length_map, List.map_take]
theorem sum_in : ∀ {L : List Int}, (∀ x ∈ L, inP x) → -2199023255552 * (L.length : Int) ≤ L.sum ∧ L.sum ≤ 2199023255552 * (L.length : Int)
  | [], _ => by simp
  | x :: L, h => by
    have h1 := sum_in fun y hy => h y (List.mem_cons_of_mem x hy)
    have h2 := h x (by simp)
    unfold inP at h2
    rw [List.sum_cons, List.length_cons]
    omega
theorem out_in {L : List Int} (h : RightW L) : -35184372088832 ≤ outW L ∧ outW L ≤ 35184372088832 := by
  have := sum_in h.2.2
  have := h.2.1
  rw [outW_yes h]
  omega
theorem shift_back {L : List Int} {d : Int} (h : RightW L) (hd : ∀ x ∈ L, inP (x + d)) : shiftW (L.map (· + d)) (-d) = L := by
  unfold shiftW
  rw [if_pos ⟨map_right h hd, fun x hx => by
    obtain ⟨y, hy, rfl⟩ := List.mem_map.1 hx
    rw [show y + d + -d = y by omega]
    exact h.2.2 y hy⟩, List.map_map]
  conv => rhs; rw [← List.map_id L]
  refine List.map_congr_left fun x _ => ?_
  show x + d + -d = x
  omega
theorem shift_yes {L : List Int} {d : Int} (h : RightW L) (hd : ∀ x ∈ L, inP (x + d)) : shiftW L d = L.map (· + d) := if_pos ⟨h, hd⟩
theorem small_mul {q d : Int} (hq : 0 ≤ q) (hq2 : q ≤ 16) (h1 : -2147483648 ≤ d) (h2 : d ≤ 2147483647) : -34359738368 ≤ q * d ∧ q * d ≤ 34359738352 := by
  have a : q * d ≤ q * 2147483647 := Int.mul_le_mul_of_nonneg_left h2 hq
  have b : q * -2147483648 ≤ q * d := Int.mul_le_mul_of_nonneg_left h1 hq
  omega

/-- what is known in the region that makes two variables out of two calls, whatever has come up -/
def Known (w0 : World) (U V : List Int) (a0 : Act) (listed : Array Bool) (a : Act) (w : World) : Prop :=
  ∃ (b2 b8 b9 b10 b11 b12 : Bool) (t30 t36 t8 t9 : Value) (g8 g9 : Nat) (A8 : Option Addr) (l8 c8 : Nat) (A9 : Option Addr) (l9 c9 : Nat),
    listed = #[true, true, b2, true, true, true, true, true, b8, b9, b10, b11, b12] ∧ a = (((a0.put (some 30) t30).put (some 36) t36).put (some 8) t8).put (some 9) t9 ∧ Below w0.heap.size w0 w ∧
    (b2 = true → t30 = .agg #[.slice A8 l8 c8] ∧ Win w w.heap.size A8 l8 c8 U) ∧ (b8 = true → t36 = .agg #[.slice A9 l9 c9] ∧ Win w w.heap.size A9 l9 c9 V) ∧
    (b9 = true → t8 = .pointer (some ⟨g8, 0, none⟩) ∧ w0.heap.size ≤ g8 ∧ Var w g8 (bif b11 then .slice A8 l8 c8 else .slice none 0 0)) ∧
    (b10 = true → t9 = .pointer (some ⟨g9, 0, none⟩) ∧ w0.heap.size ≤ g9 ∧ Var w g9 (bif b12 then .slice A9 l9 c9 else .slice none 0 0)) ∧
    (b9 = true → b10 = true → g8 ≠ g9) ∧ (b11 = true → b2 = true ∧ b9 = true) ∧ (b12 = true → b8 = true ∧ b10 = true)
set_option maxHeartbeats 4000000 in
set_option maxRecDepth 100000 in
theorem walk (a : Option Addr) (len cap : Nat) (zs : List Int) (p d : Int) (w : World) (u0 : IsRow .i64 w a len cap zs) (u1 : (Lit.int .i64 p).wf = true) (u2 : (Lit.int .i32 d).wf = true) :
    Calls Try.prog 6 #[.agg #[.slice a len cap], .int .i64 p, .int .i32 d] w fun e w' => e = .returned (.bool true) ∧ Below w.heap.size w w' := by
  have HK := Lib.hid fun W => awake_any W
  obtain ⟨d1, d2⟩ := wf32 u2
  obtain ⟨p1, p2⟩ := k.wf64 u1
  obtain ⟨L, hL⟩ : ∃ L, zs.take len = L := ⟨_, rfl⟩
  have hw0 := u0.win
  rw [hL] at hw0
  have HW := Lib.hid hw0
  obtain ⟨x1, e1, v1, b1, z1⟩ := made w (.slice a len cap) 24
  have V1 := Lib.hid v1
  have W1 := Lib.hid ((HW.out.below b1).more b1.size)
  have B1 := Lib.hid b1
  have E1 := Lib.hid e1
  have HG := Lib.hid (show w.heap.size ≤ w.heap.size from Nat.le_refl _)
  clear u0 u1 u2 hL hw0 e1 v1 b1 z1
  have RR := Lib.hid fun (W : World) (h : Win W W.heap.size a len cap L) => isright_any L h (Nat.le_refl _)
  by_cases hr : RightW L
  case neg =>
    have hR := RR.out
    rw [rightB_no hr] at hR
    have RN := Lib.hid hR
    clear hR hr
    go_enter Try.func6, Try.ntmps6
    go_wp2_with (go_at_call 8; fail)
    rw [E1.out]
    refine (HK.out _).mono ?_
    rintro e w2 ⟨rfl, hb⟩
    have V2 := Lib.hid (V1.out.under hb)
    have W2 := Lib.hid ((W1.out.below hb).more hb.size)
    have B2 := Lib.hid (B1.out.trans (hb.mono B1.out.size))
    clear hb
    have hcc := V2.out.cell
    go_wp2_with (go_at_call 13; fail)
    refine (RN.out _ W2.out).mono ?_
    rintro e w3 ⟨rfl, hb⟩
    have B3 := Lib.hid (B2.out.trans (hb.mono B2.out.size))
    clear hb hcc
    go_wp2
    go_ret
    exact ⟨rfl, B3.out⟩
  case pos =>
    have hR := RR.out
    rw [rightB_yes hr] at hR
    have RY := Lib.hid hR
    clear hR
    by_cases hp : inP p
    case neg =>
      have HP := Lib.hid fun W => place_no hp W
      clear hp hr
      go_enter Try.func6, Try.ntmps6
      go_wp2_with (go_at_call 8; fail)
      rw [E1.out]
      refine (HK.out _).mono ?_
      rintro e w2 ⟨rfl, hb⟩
      have V2 := Lib.hid (V1.out.under hb)
      have W2 := Lib.hid ((W1.out.below hb).more hb.size)
      have B2 := Lib.hid (B1.out.trans (hb.mono B1.out.size))
      clear hb
      have hcc := V2.out.cell
      go_wp2_with (go_at_call 13; fail)
      refine (RY.out _ W2.out).mono ?_
      rintro e w3 ⟨rfl, hb⟩
      have B3 := Lib.hid (B2.out.trans (hb.mono B2.out.size))
      clear hb hcc
      go_wp2_with (go_at_call 10; ((with_reducible refine (HP.out _).mono ?_); rintro e w4 ⟨rfl, rfl⟩))
      go_ret
      exact ⟨rfl, B3.out⟩
    case pos =>
      have HP := Lib.hid fun W => place_yes hp W
      have S1 := Lib.hid fun (W : World) (h : Win W W.heap.size a len cap L) => (shift_from L d (Nat.le_trans hr.2.1 (by decide)) h (Nat.le_refl _))
      have HPI := Lib.hid hp
      have HR := Lib.hid hr
      clear hp
      by_cases ht : shiftW L d = L
      case pos =>
        have HT := Lib.hid ht
        have SS := Lib.hid fun (W : World) (A' : Option Addr) (l' c' : Nat) (h : Win W W.heap.size A' l' c' (shiftW L d)) (h' : Win W W.heap.size a len cap L) => ((congrArg (sameB · L) HT.out).trans (sameB_self L)) ▸ same_any (shiftW L d) L h (Nat.le_refl _) h' (Nat.le_refl _)
        clear ht hr
        go_enter Try.func6, Try.ntmps6
        go_wp2_with (go_at_call 8; fail)
        rw [E1.out]
        refine (HK.out _).mono ?_
        rintro e w2 ⟨rfl, hb⟩
        have V2 := Lib.hid (V1.out.under hb)
        have W2 := Lib.hid ((W1.out.below hb).more hb.size)
        have B2 := Lib.hid (B1.out.trans (hb.mono B1.out.size))
        clear hb
        have hcc := V2.out.cell
        go_wp2_with (go_at_call 13; fail)
        refine (RY.out _ W2.out).mono ?_
        rintro e w3 ⟨rfl, hb⟩
        have V3 := Lib.hid (V2.out.under hb)
        have W3 := Lib.hid ((W2.out.below hb).more hb.size)
        have B3 := Lib.hid (B2.out.trans (hb.mono B2.out.size))
        clear hb hcc V2 W2 B2
        have hcc := V3.out.cell
        go_wp2_with (first | (go_at_call 10; ((with_reducible refine (HP.out _).mono ?_); rintro e w4 ⟨rfl, rfl⟩)) | (go_at_call 16; fail))
        refine (S1.out _ W3.out).mono ?_
        rintro e w4 ⟨A4, l4, c4, rfl, hY4, hb⟩
        have V4 := Lib.hid (V3.out.under hb)
        have W4 := Lib.hid ((W3.out.below hb).more hb.size)
        have Y4 := Lib.hid hY4.1
        have B4 := Lib.hid (B3.out.trans (hb.mono B3.out.size))
        clear hb hcc hY4 V3 W3 B3
        obtain ⟨x5, e5, v5, b5, z5⟩ := made w4 (.slice A4 l4 c4) 24
        have V5 := Lib.hid (V4.out.under b5)
        have W5 := Lib.hid ((W4.out.below b5).more b5.size)
        have Y5 := Lib.hid ((Y4.out.below b5).more b5.size)
        have B5 := Lib.hid (B4.out.trans (b5.mono B4.out.size))
        have X5 := Lib.hid v5
        have hne : w4.heap.size ≠ w.heap.size := by have := V4.out.lt; omega
        have hg7 : w.heap.size ≤ w4.heap.size := B4.out.size
        have hc5 := V5.out.cell
        have hx5 := X5.out.cell
        clear b5 v5 z5 V4 W4 Y4 B4
        go_wp2_with (go_at_call 14; fail)
        obtain ⟨g7, hg7e⟩ : ∃ g7, w4.heap.size = g7 := ⟨_, rfl⟩
        rw [hg7e] at X5 hne hg7 hx5 ⊢
        clear hg7e e5
        refine (SS.out _ _ _ _ Y5.out W5.out).mono ?_
        rintro e w6 ⟨rfl, hb⟩
        have B6 := Lib.hid (B5.out.trans (hb.mono B5.out.size))
        clear hb
        go_wp2
        go_ret
        exact ⟨rfl, B6.out⟩
      case neg =>
        have hd : ∀ x ∈ L, inP (x + d) := by
          by_cases h : ∀ x ∈ L, inP (x + d)
          · exact h
          · exact absurd (if_neg fun h2 => h h2.2) ht
        have HD := Lib.hid hd
        have SS := Lib.hid fun (W : World) (A' : Option Addr) (l' c' : Nat) (h : Win W W.heap.size A' l' c' (shiftW L d)) (h' : Win W W.heap.size a len cap L) => (show sameB (shiftW L d) L = false from decide_eq_false ht) ▸ same_any (shiftW L d) L h (Nat.le_refl _) h' (Nat.le_refl _)
        have hst := shift_yes hr hd
        rw [hst] at SS S1
        obtain ⟨T, hT⟩ : ∃ T, L.map (· + d) = T := ⟨_, rfl⟩
        rw [hT] at SS S1
        have HT := Lib.hid hT
        have HTR := Lib.hid (show RightW T from hT ▸ map_right hr hd)
        have hpd : -9223372036854775808 ≤ p + d ∧ p + d ≤ 9223372036854775807 := by have := HPI.out; unfold inP at this; omega
        obtain ⟨pd, hpde⟩ : ∃ pd, p + d = pd := ⟨_, rfl⟩
        have HPD := Lib.hid hpde
        clear ht hr hd hst hT
        go_enter Try.func6, Try.ntmps6
        go_wp2_with (go_at_call 8; fail)
        rw [E1.out]
        refine (HK.out _).mono ?_
        rintro e w2 ⟨rfl, hb⟩
        have V2 := Lib.hid (V1.out.under hb)
        have W2 := Lib.hid ((W1.out.below hb).more hb.size)
        have B2 := Lib.hid (B1.out.trans (hb.mono B1.out.size))
        clear hb
        have hcc := V2.out.cell
        go_wp2_with (go_at_call 13; fail)
        refine (RY.out _ W2.out).mono ?_
        rintro e w3 ⟨rfl, hb⟩
        have V3 := Lib.hid (V2.out.under hb)
        have W3 := Lib.hid ((W2.out.below hb).more hb.size)
        have B3 := Lib.hid (B2.out.trans (hb.mono B2.out.size))
        clear hb hcc V2 W2 B2
        have hcc := V3.out.cell
        go_wp2_with (first | (go_at_call 10; ((with_reducible refine (HP.out _).mono ?_); rintro e w4 ⟨rfl, rfl⟩)) | (go_at_call 16; fail))
        refine (S1.out _ W3.out).mono ?_
        rintro e w4 ⟨A4, l4, c4, rfl, hY4, hb⟩
        have V4 := Lib.hid (V3.out.under hb)
        have W4 := Lib.hid ((W3.out.below hb).more hb.size)
        have Y4 := Lib.hid hY4.1
        have B4 := Lib.hid (B3.out.trans (hb.mono B3.out.size))
        clear hb hcc hY4 V3 W3 B3
        obtain ⟨x5, e5, v5, b5, z5⟩ := made w4 (.slice A4 l4 c4) 24
        have V5 := Lib.hid (V4.out.under b5)
        have W5 := Lib.hid ((W4.out.below b5).more b5.size)
        have Y5 := Lib.hid ((Y4.out.below b5).more b5.size)
        have B5 := Lib.hid (B4.out.trans (b5.mono B4.out.size))
        have X5 := Lib.hid v5
        have hne : w4.heap.size ≠ w.heap.size := by have := V4.out.lt; omega
        have hg7 : w.heap.size ≤ w4.heap.size := B4.out.size
        have hc5 := V5.out.cell
        have hx5 := X5.out.cell
        clear b5 v5 z5 V4 W4 Y4 B4
        go_wp2_with (go_at_call 14; fail)
        obtain ⟨g7, hg7e⟩ : ∃ g7, w4.heap.size = g7 := ⟨_, rfl⟩
        rw [hg7e] at X5 hne hg7 hx5 ⊢
        clear hg7e e5
        refine (SS.out _ _ _ _ Y5.out W5.out).mono ?_
        rintro e w6 ⟨rfl, hb⟩
        have V6 := Lib.hid (V5.out.under hb)
        have X6 := Lib.hid (X5.out.under hb)
        have W6 := Lib.hid ((W5.out.below hb).more hb.size)
        have Y6 := Lib.hid ((Y5.out.below hb).more hb.size)
        have B6 := Lib.hid (B5.out.trans (hb.mono B5.out.size))
        clear hb V5 W5 X5 Y5 B5 hc5 hx5
        have hct := V6.out.cell
        have hcu := X6.out.cell
        have P1 := Lib.hid fun (W : World) (h : Win W W.heap.size a len cap L) => push_from L p (Nat.le_trans HR.out.2.1 (by decide)) h (Nat.le_refl _)
        have P2 := Lib.hid fun (W : World) (h : Win W W.heap.size A4 l4 c4 T) => push_from T pd (by rw [← HT.out, List.length_map]; exact Nat.le_trans HR.out.2.1 (by decide)) h (Nat.le_refl _)
        have hwd : IntKind.i64.wrap d = d := IntWalk.i64_in _ (by omega)
        have hwp : IntKind.i64.wrap pd = pd := IntWalk.i64_in _ (by omega)
        go_upto_region 8 with (fail)
        refine wp_region_T (by kernel_rfl) (fun w' => World.cell? w' ⟨w.heap.size, 0, none⟩ = some (.slice a len cap) ∧ World.cell? w' ⟨g7, 0, none⟩ = some (.slice A4 l4 c4)) [] ⟨V6.out.drew.cell, X6.out.drew.cell⟩ (fun hHeld => ?_)
        refine wpAnyT_take (i := 0) (v := ?_) rfl (by kernel_rfl) (by kernel_rfl) (by kernel_rfl) (fun _ _ _ h => h) (Or.inl ⟨by rfl, ?_⟩) (by assumption) ?_
        rotate_left 1
        · intro w hSw; obtain ⟨hs1, hs2⟩ := hSw; go_simp <;> (with_reducible rfl)
        try simp only [Act.put, List.setIfInBounds_toArray, List.set_cons_zero, List.set_cons_succ, List.getElem_toArray, List.getElem_cons_zero]
        refine wpAnyT_take (i := 1) (v := ?_) rfl (by kernel_rfl) (by kernel_rfl) (by kernel_rfl) (fun _ _ _ h => h) (Or.inl ⟨by rfl, ?_⟩) (by assumption) ?_
        rotate_left 1
        · intro w hSw; clear hSw; go_simp <;> (with_reducible rfl)
        try simp only [Act.put, List.setIfInBounds_toArray, List.set_cons_zero, List.set_cons_succ, List.getElem_toArray, List.getElem_cons_succ, List.getElem_cons_zero]
        refine wpAnyT_take (i := 3) (v := ?_) rfl (by kernel_rfl) (by kernel_rfl) (by kernel_rfl) (fun _ _ _ h => h) (Or.inl ⟨by rfl, ?_⟩) (by assumption) ?_
        rotate_left 1
        · intro w hSw; obtain ⟨hs1, hs2⟩ := hSw; go_simp <;> (with_reducible rfl)
        try simp only [Act.put, List.setIfInBounds_toArray, List.set_cons_zero, List.set_cons_succ, List.getElem_toArray, List.getElem_cons_succ, List.getElem_cons_zero]
        refine wpAnyT_take (i := 4) (v := ?_) rfl (by kernel_rfl) (by kernel_rfl) (by kernel_rfl) (fun _ _ _ h => h) (Or.inl ⟨by rfl, ?_⟩) (by assumption) ?_
        rotate_left 1
        · intro w hSw; clear hSw; go_simp <;> (with_reducible rfl)
        try simp only [Act.put, List.setIfInBounds_toArray, List.set_cons_zero, List.set_cons_succ, List.getElem_toArray, List.getElem_cons_succ, List.getElem_cons_zero]
        refine wpAnyT_take (i := 5) (v := ?_) rfl (by kernel_rfl) (by kernel_rfl) (by kernel_rfl) (fun _ _ _ h => h) (Or.inl ⟨by rfl, ?_⟩) (by assumption) ?_
        rotate_left 1
        · intro w hSw; clear hSw; go_simp <;> (with_reducible rfl)
        try simp only [Act.put, List.setIfInBounds_toArray, List.set_cons_zero, List.set_cons_succ, List.getElem_toArray, List.getElem_cons_succ, List.getElem_cons_zero]
        refine wpAnyT_take (i := 6) (v := ?_) rfl (by kernel_rfl) (by kernel_rfl) (by kernel_rfl) (fun _ _ _ h => h) (Or.inl ⟨by rfl, ?_⟩) (by assumption) ?_
        rotate_left 1
        · intro w hSw; clear hSw; go_simp <;> (with_reducible rfl)
        try simp only [Act.put, List.setIfInBounds_toArray, List.set_cons_zero, List.set_cons_succ, List.getElem_toArray, List.getElem_cons_succ, List.getElem_cons_zero]
        refine wpAnyT_take (i := 7) (v := ?_) rfl (by kernel_rfl) (by kernel_rfl) (by kernel_rfl) (fun _ _ _ h => h) (Or.inl ⟨by rfl, ?_⟩) (by assumption) ?_
        rotate_left 1
        · intro w hSw; clear hSw; go_simp <;> (with_reducible rfl)
        try simp only [Act.put, List.setIfInBounds_toArray, List.set_cons_zero, List.set_cons_succ, List.getElem_toArray, List.getElem_cons_succ, List.getElem_cons_zero]
        refine wpAnyT_by (I := Known w6 (pushW L p) (pushW T pd)) (Nat.le_of_ble_eq_true (by kernel_rfl)) ?_ ?_ ?_ ?_ ?_
        · exact ⟨false, false, false, false, false, false, _, _, _, _, 0, 0, none, 0, 0, none, 0, 0, rfl, rfl, (Below.refl _ _).drew, (fun h => by cases h), (fun h => by cases h), (fun h => by cases h), (fun h => by cases h), (fun h => by cases h), (fun h => by cases h), (fun h => by cases h)⟩
        · rintro listed a' w' ⟨b2, b8, b9, b10, b11, b12, t30, t36, t8, t9, g8, g9, A8, l8, c8, A9, l9, c9, rfl, _⟩
          rfl
        · rintro listed a' w' ⟨b2, b8, b9, b10, b11, b12, t30, t36, t8, t9, g8, g9, A8, l8, c8, A9, l9, c9, _, _, hb, _⟩
          exact ⟨(V6.out.under hb).cell, (X6.out.under hb).cell⟩
        · rintro listed a' w' ⟨b2, b8, b9, b10, b11, b12, t30, t36, t8, t9, g8, g9, A8, l8, c8, A9, l9, c9, rfl, rfl, hb, h2, h8, h9, h10, hn, k11, k12⟩ i hi
          obtain ⟨hlt, h0⟩ := ready_lt hi
          have hc : i = 0 ∨ i = 1 ∨ i = 2 ∨ i = 3 ∨ i = 4 ∨ i = 5 ∨ i = 6 ∨ i = 7 ∨ i = 8 ∨ i = 9 ∨ i = 10 ∨ i = 11 ∨ i = 12 := by
            have : i < 13 := hlt
            omega
          rcases hc with rfl | rfl | rfl | rfl | rfl | rfl | rfl | rfl | rfl | rfl | rfl | rfl | rfl
          · exact absurd h0 (by simp)
          · exact absurd h0 (by simp)
          · have e0 : b2 = false := h0
            subst e0
            have e1 : b11 = false := by cases b11 with | false => rfl | true => exact absurd (k11 rfl).1 (by simp)
            subst e1
            refine wpOp_shut rfl (fun K hK => ?_)
            try simp only [Act.put, List.setIfInBounds_toArray, List.set_cons_zero, List.set_cons_succ, List.getElem_toArray, List.getElem_cons_succ, List.getElem_cons_zero]
            go_simp
            have hw : Win w' w'.heap.size a len cap L := (W6.out.below hb).more hb.size
            (go_at_call 15; ((refine (P1.out _ hw).mono ?_); rintro e w7 ⟨A7, l7, c7, rfl, hW7, hb7⟩))
            go_wp2_with fail
            refine hK.out _ _ ⟨true, b8, b9, b10, false, b12, _, t36, t8, t9, g8, g9, A7, l7, c7, A9, l9, c9, rfl, rfl, hb.trans (hb7.mono hb.size), fun _ => ⟨rfl, hW7.1⟩, fun h => ⟨(h8 h).1, ((h8 h).2.below hb7).more hb7.size⟩, fun h => ⟨(h9 h).1, (h9 h).2.1, (h9 h).2.2.under hb7⟩, fun h => ⟨(h10 h).1, (h10 h).2.1, (h10 h).2.2.under hb7⟩, hn, (fun h => by cases h), k12⟩
          · exact absurd h0 (by simp)
          · exact absurd h0 (by simp)
          · exact absurd h0 (by simp)
          · exact absurd h0 (by simp)
          · exact absurd h0 (by simp)
          · have e0 : b8 = false := h0
            subst e0
            have e1 : b12 = false := by cases b12 with | false => rfl | true => exact absurd (k12 rfl).1 (by simp)
            subst e1
            have e2 : b2 = true := ready_dep hi rfl 2 rfl rfl
            subst e2
            obtain ⟨r2, i2⟩ := h2 rfl
            subst r2
            have K11 := Lib.hid k11
            clear h2 k11
            refine wpOp_shut rfl (fun K hK => ?_)
            try simp only [Act.put, List.setIfInBounds_toArray, List.set_cons_zero, List.set_cons_succ, List.getElem_toArray, List.getElem_cons_succ, List.getElem_cons_zero]
            go_simp
            have hw : Win w' w'.heap.size A4 l4 c4 T := (Y6.out.below hb).more hb.size
            (go_at_call 15; ((refine (P2.out _ hw).mono ?_); rintro e w7 ⟨A7, l7, c7, rfl, hW7, hb7⟩))
            go_wp2_with fail
            refine hK.out _ _ ⟨true, true, b9, b10, b11, false, _, _, t8, t9, g8, g9, A8, l8, c8, A7, l7, c7, rfl, rfl, hb.trans (hb7.mono hb.size), fun _ => ⟨rfl, (i2.below hb7).more hb7.size⟩, fun _ => ⟨rfl, hW7.1⟩, fun h => ⟨(h9 h).1, (h9 h).2.1, (h9 h).2.2.under hb7⟩, fun h => ⟨(h10 h).1, (h10 h).2.1, (h10 h).2.2.under hb7⟩, hn, fun h => ⟨rfl, (K11.out h).2⟩, (fun h => by cases h)⟩
          · have e0 : b9 = false := h0
            subst e0
            have e1 : b11 = false := by cases b11 with | false => rfl | true => exact absurd (k11 rfl).2 (by simp)
            subst e1
            refine wpOp_shut rfl (fun K hK => ?_)
            try simp only [Act.put, List.setIfInBounds_toArray, List.set_cons_zero, List.set_cons_succ, List.getElem_toArray, List.getElem_cons_succ, List.getElem_cons_zero]
            go_simp
            have hb7 : Below w'.heap.size w' (w'.alloc (.cells #[.slice none 0 0] 24)) := (Below.refl _ _).alloc (Nat.le_refl _) _
            refine hK.out _ _ ⟨b2, b8, true, b10, false, b12, t30, t36, _, t9, w'.heap.size, g9, A8, l8, c8, A9, l9, c9, rfl, rfl, hb.trans (hb7.mono hb.size), fun h => ⟨(h2 h).1, ((h2 h).2.below hb7).more hb7.size⟩, fun h => ⟨(h8 h).1, ((h8 h).2.below hb7).more hb7.size⟩, fun _ => ⟨rfl, hb.size, Var.new _ _ _⟩, fun h => ⟨(h10 h).1, (h10 h).2.1, (h10 h).2.2.under hb7⟩, fun _ h => Ne.symm (Nat.ne_of_lt (h10 h).2.2.lt), (fun h => by cases h), k12⟩
          · have e0 : b10 = false := h0
            subst e0
            have e1 : b12 = false := by cases b12 with | false => rfl | true => exact absurd (k12 rfl).2 (by simp)
            subst e1
            refine wpOp_shut rfl (fun K hK => ?_)
            try simp only [Act.put, List.setIfInBounds_toArray, List.set_cons_zero, List.set_cons_succ, List.getElem_toArray, List.getElem_cons_succ, List.getElem_cons_zero]
            go_simp
            have hb7 : Below w'.heap.size w' (w'.alloc (.cells #[.slice none 0 0] 24)) := (Below.refl _ _).alloc (Nat.le_refl _) _
            refine hK.out _ _ ⟨b2, b8, b9, true, b11, false, t30, t36, t8, _, g8, w'.heap.size, A8, l8, c8, A9, l9, c9, rfl, rfl, hb.trans (hb7.mono hb.size), fun h => ⟨(h2 h).1, ((h2 h).2.below hb7).more hb7.size⟩, fun h => ⟨(h8 h).1, ((h8 h).2.below hb7).more hb7.size⟩, fun h => ⟨(h9 h).1, (h9 h).2.1, (h9 h).2.2.under hb7⟩, fun _ => ⟨rfl, hb.size, Var.new _ _ _⟩, fun h _ => Nat.ne_of_lt (h9 h).2.2.lt, k11, (fun h => by cases h)⟩
          · have e0 : b11 = false := h0
            subst e0
            have e2 : b9 = true := ready_dep hi rfl 0 rfl rfl
            subst e2
            have e3 : b2 = true := ready_dep hi rfl 1 rfl rfl
            subst e3
            have e4 : b8 = true := ready_dep hi rfl 2 rfl rfl
            subst e4
            obtain ⟨r2, i2⟩ := h2 rfl
            obtain ⟨r8, i8⟩ := h8 rfl
            obtain ⟨r9, i9, v9⟩ := h9 rfl
            subst r2 r8 r9
            have hc9 := v9.cell
            have hf9 := v9.frozen 0
            dsimp only [cond_false] at v9 hc9 hf9
            refine wpOp_shut rfl (fun K hK => ?_)
            try simp only [Act.put, List.setIfInBounds_toArray, List.set_cons_zero, List.set_cons_succ, List.getElem_toArray, List.getElem_cons_succ, List.getElem_cons_zero]
            go_simp
            refine hK.out _ _ ⟨true, true, true, b10, true, b12, _, _, _, t9, g8, g9, A8, l8, c8, A9, l9, c9, rfl, rfl, hb.setCell i9 _, fun _ => ⟨rfl, by have := i2.aside v9 (.slice A8 l8 c8); simpa using this⟩, fun _ => ⟨rfl, by have := i8.aside v9 (.slice A8 l8 c8); simpa using this⟩, fun _ => ⟨rfl, i9, v9.set _⟩, fun h => ⟨(h10 h).1, (h10 h).2.1, (h10 h).2.2.aside (p := ⟨g8, 0, none⟩) (Ne.symm (hn rfl h)) _⟩, hn, fun _ => ⟨rfl, rfl⟩, k12⟩
          · have e0 : b12 = false := h0
            subst e0
            have e2 : b10 = true := ready_dep hi rfl 0 rfl rfl
            subst e2
            have e3 : b8 = true := ready_dep hi rfl 1 rfl rfl
            subst e3
            have e4 : b11 = true := ready_dep hi rfl 2 rfl rfl
            subst e4
            obtain ⟨e5, e6⟩ := k11 rfl
            subst e5 e6
            obtain ⟨r2, i2⟩ := h2 rfl
            obtain ⟨r8, i8⟩ := h8 rfl
            obtain ⟨r9, i9, v9⟩ := h9 rfl
            obtain ⟨r10, i10, v10⟩ := h10 rfl
            subst r2 r8 r9 r10
            have hc9 := v10.cell
            have hf9 := v10.frozen 0
            dsimp only [cond_false, cond_true] at v9 v10 hc9 hf9
            refine wpOp_shut rfl (fun K hK => ?_)
            try simp only [Act.put, List.setIfInBounds_toArray, List.set_cons_zero, List.set_cons_succ, List.getElem_toArray, List.getElem_cons_succ, List.getElem_cons_zero]
            go_simp
            refine hK.out _ _ ⟨true, true, true, true, true, true, _, _, _, _, g8, g9, A8, l8, c8, A9, l9, c9, rfl, rfl, hb.setCell i10 _, fun _ => ⟨rfl, by have := i2.aside v10 (.slice A9 l9 c9); simpa using this⟩, fun _ => ⟨rfl, by have := i8.aside v10 (.slice A9 l9 c9); simpa using this⟩, fun _ => ⟨rfl, i9, v9.aside (p := ⟨g9, 0, none⟩) (hn rfl rfl) _⟩, fun _ => ⟨rfl, i10, v10.set _⟩, hn, fun _ => ⟨rfl, rfl⟩, fun _ => ⟨rfl, rfl⟩⟩
        · rintro listed a' w' ⟨b2, b8, b9, b10, b11, b12, t30, t36, t8, t9, g8, g9, A8, l8, c8, A9, l9, c9, rfl, rfl, hb, h2, h8, h9, h10, hn, k11, k12⟩ hr
          have e2 : b2 = true := ready_end hr (i := 2) rfl (by kernel_rfl)
          subst e2
          have e8 : b8 = true := ready_end hr (i := 8) rfl (by kernel_rfl)
          subst e8
          have e9 : b9 = true := ready_end hr (i := 9) rfl (by kernel_rfl)
          subst e9
          have e10 : b10 = true := ready_end hr (i := 10) rfl (by kernel_rfl)
          subst e10
          have e11 : b11 = true := ready_end hr (i := 11) rfl (by kernel_rfl)
          subst e11
          have e12 : b12 = true := ready_end hr (i := 12) rfl (by kernel_rfl)
          subst e12
          obtain ⟨r2, i2⟩ := h2 rfl
          obtain ⟨r8, i8⟩ := h8 rfl
          obtain ⟨r9, i9, v9⟩ := h9 rfl
          obtain ⟨r10, i10, v10⟩ := h10 rfl
          subst r2 r8 r9 r10
          dsimp only [cond_true] at v9 v10
          try simp only [Act.put, List.setIfInBounds_toArray, List.set_cons_zero, List.set_cons_succ]
          have F1 := Lib.hid (V6.out.under hb)
          have F2 := Lib.hid (X6.out.under hb)
          have F3 := Lib.hid v9
          have F4 := Lib.hid v10
          have F5 := Lib.hid ((W6.out.below hb).more hb.size)
          have F6 := Lib.hid ((Y6.out.below hb).more hb.size)
          have F7 := Lib.hid i2
          have F8 := Lib.hid i8
          have F9 := Lib.hid (B6.out.trans (hb.mono B6.out.size))
          clear hr h2 h8 h9 h10 hn k11 k12 i2 i8 v9 v10 i9 i10 V6 X6 W6 Y6 B6 hct hcu P1 P2 hb hHeld
          have hOT : outW T = outW L + len * d := by have := map_out HR.out HD.out; rw [HT.out] at this; rw [this, F5.out.1]
          have ob1 := out_in HR.out
          have ob2 := out_in HTR.out
          have hl16 : (len : Int) ≤ 16 := by have := HR.out.2.1; have := F5.out.1; omega
          have hmd := small_mul (q := (len : Int)) (d := d) (by omega) hl16 d1 d2
          obtain ⟨OL, hOL⟩ : ∃ OL, outW L = OL := ⟨_, rfl⟩
          obtain ⟨OT, hOTe⟩ : ∃ OT, outW T = OT := ⟨_, rfl⟩
          obtain ⟨MD, hMD⟩ : ∃ MD, (len : Int) * d = MD := ⟨_, rfl⟩
          have hmul : IntKind.i64.wrap ((len : Int) * d) = MD := by rw [hMD] at hmd ⊢; exact IntWalk.i64_in _ (by omega)
          rw [hOTe, hOL, hMD] at hOT
          rw [hOL] at ob1
          rw [hOTe] at ob2
          rw [hMD] at hmd
          have hsub : IntKind.i64.wrap (OT - OL) = MD := by rw [IntWalk.i64_in _ (by omega)]; omega
          have C1 := Lib.hid fun (W : World) (h : Win W W.heap.size A4 l4 c4 T) => hOTe ▸ out_any T h (Nat.le_refl _)
          have C2 := Lib.hid fun (W : World) (h : Win W W.heap.size a len cap L) => hOL ▸ out_any L h (Nat.le_refl _)
          have C3 := Lib.hid fun (W : World) => place_any pd W
          have hback : shiftW T (-d) = L := by have := shift_back HR.out HD.out; rwa [HT.out] at this
          have C6 := Lib.hid fun (W : World) (h : Win W W.heap.size A4 l4 c4 T) => hback ▸ shift_any T (-d) (by rw [← HT.out, List.length_map]; exact Nat.le_trans HR.out.2.1 (by decide)) h (Nat.le_refl _)
          have C7 := Lib.hid fun (W : World) (A : Option Addr) (l c : Nat) (h : Win W W.heap.size A l c L) (h' : Win W W.heap.size a len cap L) => (sameB_self L) ▸ same_any L L h (Nat.le_refl _) h' (Nat.le_refl _)
          have hneg : IntKind.i64.wrap (-d) = -d := IntWalk.i64_in _ (by omega)
          have HO := Lib.hid (And.intro hOT (And.intro hOL (And.intro hOTe hMD)))
          have HB := Lib.hid (And.intro ob1 (And.intro ob2 hmd))
          clear hOT hOTe hOL hMD hback
          by_cases hpdi : inP pd
          · have hpb : placeB pd = true := placeB_yes hpdi
            have C3' := C3.out
            rw [hpb] at C3'
            have CP := Lib.hid C3'
            have hV : pushW T pd = (pushW L p).map (· + d) := by rw [pushW_yes HTR.out hpdi, pushW_yes HR.out HPI.out, ← HT.out, ← HPD.out, map_push]
            have hUR : RightW (pushW L p) := by rw [pushW_yes HR.out HPI.out]; exact push_right HR.out HPI.out
            have hVR : RightW (pushW T pd) := by rw [pushW_yes HTR.out hpdi]; exact push_right HTR.out hpdi
            have hUl : (pushW L p).length = len := by rw [pushW_yes HR.out HPI.out, push_len HR.out, F5.out.1]
            have hVo : outW (pushW T pd) = outW (pushW L p) + MD := by rw [outW_yes hUR, outW_yes hVR, hV, map_sum, hUl, HO.out.2.2.2]
            have ob3 := out_in hUR
            have ob4 := out_in hVR
            obtain ⟨OU, hOU⟩ : ∃ OU, outW (pushW L p) = OU := ⟨_, rfl⟩
            obtain ⟨OV, hOV⟩ : ∃ OV, outW (pushW T pd) = OV := ⟨_, rfl⟩
            rw [hOU] at ob3 hVo
            rw [hOV] at ob4 hVo
            have hsub2 : IntKind.i64.wrap (OV - OU) = MD := by rw [IntWalk.i64_in _ (by omega)]; omega
            have C4 := Lib.hid fun (W : World) (h : Win W W.heap.size A9 l9 c9 (pushW T pd)) => hOV ▸ out_any (pushW T pd) h (Nat.le_refl _)
            have C5 := Lib.hid fun (W : World) (h : Win W W.heap.size A8 l8 c8 (pushW L p)) => hOU ▸ out_any (pushW L p) h (Nat.le_refl _)
            clear hV hUR hVR hUl hVo ob3 ob4 hOU hOV
            clear hpdi hpb C3 C3'
            have V01 := Lib.hid F1.out.drew
            have V02 := Lib.hid F2.out.drew
            have V03 := Lib.hid F3.out.drew
            have V04 := Lib.hid F4.out.drew
            have W05 := Lib.hid F5.out.drew
            have W06 := Lib.hid F6.out.drew
            have W07 := Lib.hid F7.out.drew
            have W08 := Lib.hid F8.out.drew
            have B0 := Lib.hid F9.out.drew
            have hcs := F1.out.cell
            go_upto_region 10 with (fail)
            clear hcs
            refine wp_region_T (by kernel_rfl) (fun w' => World.cell? w' ⟨w.heap.size, 0, none⟩ = some (.slice a len cap) ∧ World.cell? w' ⟨g7, 0, none⟩ = some (.slice A4 l4 c4) ∧ World.cell? w' ⟨g8, 0, none⟩ = some (.slice A8 l8 c8) ∧ World.cell? w' ⟨g9, 0, none⟩ = some (.slice A9 l9 c9)) [] ⟨V01.out.cell, V02.out.cell, V03.out.cell, V04.out.cell⟩ (fun hHeld => ?_)
            refine wpAnyT_take (i := 0) (v := ?_) rfl (by kernel_rfl) (by kernel_rfl) (by kernel_rfl) (fun _ _ _ h => h) (Or.inl ⟨by rfl, ?_⟩) (by assumption) ?_
            rotate_left 1
            · intro w hSw; obtain ⟨hs1, hs2, hs3, hs4⟩ := hSw; go_simp <;> (with_reducible rfl)
            try simp only [Act.put, List.setIfInBounds_toArray, List.set_cons_zero, List.set_cons_succ, List.getElem_toArray, List.getElem_cons_zero]
            refine wpAnyT_take (i := 2) (v := ?_) rfl (by kernel_rfl) (by kernel_rfl) (by kernel_rfl) (fun _ _ _ h => h) (Or.inl ⟨by rfl, ?_⟩) (by assumption) ?_
            rotate_left 1
            · intro w hSw; obtain ⟨hs1, hs2, hs3, hs4⟩ := hSw; go_simp <;> (with_reducible rfl)
            try simp only [Act.put, List.setIfInBounds_toArray, List.set_cons_zero, List.set_cons_succ, List.getElem_toArray, List.getElem_cons_succ, List.getElem_cons_zero]
            refine wpAnyT_take (i := 5) (v := ?_) rfl (by kernel_rfl) (by kernel_rfl) (by kernel_rfl) (fun _ _ _ h => h) (Or.inl ⟨by rfl, ?_⟩) (by assumption) ?_
            rotate_left 1
            · intro w hSw; clear hSw; go_simp <;> (with_reducible rfl)
            try simp only [Act.put, List.setIfInBounds_toArray, List.set_cons_zero, List.set_cons_succ, List.getElem_toArray, List.getElem_cons_succ, List.getElem_cons_zero]
            refine wpAnyT_take (i := 6) (v := ?_) rfl (by kernel_rfl) (by kernel_rfl) (by kernel_rfl) (fun _ _ _ h => h) (Or.inl ⟨by rfl, ?_⟩) (by assumption) ?_
            rotate_left 1
            · intro w hSw; clear hSw; go_simp <;> (with_reducible rfl)
            try simp only [Act.put, List.setIfInBounds_toArray, List.set_cons_zero, List.set_cons_succ, List.getElem_toArray, List.getElem_cons_succ, List.getElem_cons_zero]
            refine wpAnyT_take (i := 7) (v := ?_) rfl (by kernel_rfl) (by kernel_rfl) (by kernel_rfl) (fun _ _ _ h => h) (Or.inl ⟨by rfl, ?_⟩) (by assumption) ?_
            rotate_left 1
            · intro w hSw; clear hSw; go_simp <;> (with_reducible rfl)
            try simp only [Act.put, List.setIfInBounds_toArray, List.set_cons_zero, List.set_cons_succ, List.getElem_toArray, List.getElem_cons_succ, List.getElem_cons_zero]
            refine wpAnyT_take (i := 8) (v := ?_) rfl (by kernel_rfl) (by kernel_rfl) (by kernel_rfl) (fun _ _ _ h => h) (Or.inl ⟨by rfl, ?_⟩) (by assumption) ?_
            rotate_left 1
            · intro w hSw; clear hSw; go_simp <;> (with_reducible rfl)
            try simp only [Act.put, List.setIfInBounds_toArray, List.set_cons_zero, List.set_cons_succ, List.getElem_toArray, List.getElem_cons_succ, List.getElem_cons_zero]
            refine wpAnyT_ready (rs := [1]) (by kernel_rfl) (by simp) ?_
            refine AllReadyT.cons rfl (fun K hK => ?_) AllReadyT.nil
            go_simp
            (go_at_call 17; ((refine (C1.out _ W06.out).mono ?_); rintro e w1 ⟨rfl, hb⟩))
            have V11 := Lib.hid (V01.out.under hb)
            have V12 := Lib.hid (V02.out.under hb)
            have V13 := Lib.hid (V03.out.under hb)
            have V14 := Lib.hid (V04.out.under hb)
            have W15 := Lib.hid ((W05.out.below hb).more hb.size)
            have W16 := Lib.hid ((W06.out.below hb).more hb.size)
            have W17 := Lib.hid ((W07.out.below hb).more hb.size)
            have W18 := Lib.hid ((W08.out.below hb).more hb.size)
            have B1 := Lib.hid (B0.out.trans (hb.mono B0.out.size))
            clear hb
            go_wp2_with fail
            refine hK.out _ _ ⟨V11.out.cell, V12.out.cell, V13.out.cell, V14.out.cell⟩ (fun hHeld => ?_)
            clear hK K
            try simp only [Act.put, List.setIfInBounds_toArray, List.set_cons_zero, List.set_cons_succ, List.getElem_toArray, List.getElem_cons_succ, List.getElem_cons_zero]
            refine wpAnyT_ready (rs := [3]) (by kernel_rfl) (by simp) ?_
            refine AllReadyT.cons rfl (fun K hK => ?_) AllReadyT.nil
            go_simp
            (go_at_call 17; ((refine (C2.out _ W15.out).mono ?_); rintro e w2 ⟨rfl, hb⟩))
            have V21 := Lib.hid (V11.out.under hb)
            have V22 := Lib.hid (V12.out.under hb)
            have V23 := Lib.hid (V13.out.under hb)
            have V24 := Lib.hid (V14.out.under hb)
            have W25 := Lib.hid ((W15.out.below hb).more hb.size)
            have W26 := Lib.hid ((W16.out.below hb).more hb.size)
            have W27 := Lib.hid ((W17.out.below hb).more hb.size)
            have W28 := Lib.hid ((W18.out.below hb).more hb.size)
            have B2 := Lib.hid (B1.out.trans (hb.mono B1.out.size))
            clear hb
            go_wp2_with fail
            refine hK.out _ _ ⟨V21.out.cell, V22.out.cell, V23.out.cell, V24.out.cell⟩ (fun hHeld => ?_)
            clear hK K
            try simp only [Act.put, List.setIfInBounds_toArray, List.set_cons_zero, List.set_cons_succ, List.getElem_toArray, List.getElem_cons_succ, List.getElem_cons_zero]
            refine wpAnyT_take (i := 4) (v := ?_) rfl (by kernel_rfl) (by kernel_rfl) (by kernel_rfl) (fun _ _ _ h => h) (Or.inl ⟨by rfl, ?_⟩) (by assumption) ?_
            rotate_left 1
            · intro w hSw; clear hSw; go_simp <;> (with_reducible rfl)
            try simp only [Act.put, List.setIfInBounds_toArray, List.set_cons_zero, List.set_cons_succ, List.getElem_toArray, List.getElem_cons_succ, List.getElem_cons_zero]
            refine wpAnyT_take (i := 9) (v := ?_) rfl (by kernel_rfl) (by kernel_rfl) (by kernel_rfl) (fun _ _ _ h => h) (Or.inl ⟨by rfl, ?_⟩) (by assumption) ?_
            rotate_left 1
            · intro w hSw; clear hSw; go_simp <;> (with_reducible rfl)
            try simp only [Act.put, List.setIfInBounds_toArray, List.set_cons_zero, List.set_cons_succ, List.getElem_toArray, List.getElem_cons_succ, List.getElem_cons_zero]
            refine wpAnyT_take (i := 10) (v := ?_) rfl (by kernel_rfl) (by kernel_rfl) (by kernel_rfl) (fun _ _ _ h => h) (Or.inl ⟨by rfl, ?_⟩) (by assumption) ?_
            rotate_left 1
            · intro w hSw; clear hSw; go_simp <;> (with_reducible rfl)
            try simp only [Act.put, List.setIfInBounds_toArray, List.set_cons_zero, List.set_cons_succ, List.getElem_toArray, List.getElem_cons_succ, List.getElem_cons_zero]
            refine wpAnyT_take (i := 11) (v := ?_) rfl (by kernel_rfl) (by kernel_rfl) (by kernel_rfl) (fun _ _ _ h => h) (Or.inl ⟨by rfl, ?_⟩) (by assumption) ?_
            rotate_left 1
            · intro w hSw; clear hSw; go_simp <;> (with_reducible rfl)
            try simp only [Act.put, List.setIfInBounds_toArray, List.set_cons_zero, List.set_cons_succ, List.getElem_toArray, List.getElem_cons_succ, List.getElem_cons_zero]
            refine wpAnyT_take (i := 12) (v := ?_) rfl (by kernel_rfl) (by kernel_rfl) (by kernel_rfl) (fun _ _ _ h => h) (Or.inl ⟨by rfl, ?_⟩) (by assumption) ?_
            rotate_left 1
            · intro w hSw; clear hSw; go_simp <;> (with_reducible rfl)
            try simp only [Act.put, List.setIfInBounds_toArray, List.set_cons_zero, List.set_cons_succ, List.getElem_toArray, List.getElem_cons_succ, List.getElem_cons_zero]
            refine wpAnyT_take (i := 13) (v := ?_) rfl (by kernel_rfl) (by kernel_rfl) (by kernel_rfl) (fun _ _ _ h => h) (Or.inl ⟨by rfl, ?_⟩) (by assumption) ?_
            rotate_left 1
            · intro w hSw; clear hSw; go_simp <;> (with_reducible rfl)
            try simp only [Act.put, List.setIfInBounds_toArray, List.set_cons_zero, List.set_cons_succ, List.getElem_toArray, List.getElem_cons_succ, List.getElem_cons_zero]
            refine wpAnyT_take (i := 14) (v := ?_) rfl (by kernel_rfl) (by kernel_rfl) (by kernel_rfl) (fun _ _ _ h => h) (Or.inl ⟨by rfl, ?_⟩) (by assumption) ?_
            rotate_left 1
            · intro w hSw; clear hSw; go_simp <;> (with_reducible rfl)
            try simp only [Act.put, List.setIfInBounds_toArray, List.set_cons_zero, List.set_cons_succ, List.getElem_toArray, List.getElem_cons_succ, List.getElem_cons_zero]
            refine wpAnyT_ready (rs := [15]) (by kernel_rfl) (by simp) ?_
            refine AllReadyT.cons rfl (fun K hK => ?_) AllReadyT.nil
            go_simp
            (go_at_call 10; ((refine (CP.out _).mono ?_); rintro e w3 ⟨rfl, rfl⟩))
            go_wp2_with fail
            refine hK.out _ _ ⟨V21.out.cell, V22.out.cell, V23.out.cell, V24.out.cell⟩ (fun hHeld => ?_)
            clear hK K
            try simp only [Act.put, List.setIfInBounds_toArray, List.set_cons_zero, List.set_cons_succ, List.getElem_toArray, List.getElem_cons_succ, List.getElem_cons_zero]
            refine wpAnyT_take (i := 16) (v := ?_) rfl (by kernel_rfl) (by kernel_rfl) (by kernel_rfl) (fun _ _ _ h => h) (Or.inl ⟨by rfl, ?_⟩) (by assumption) ?_
            rotate_left 1
            · intro w hSw; clear hSw; go_simp <;> (with_reducible rfl)
            try simp only [Act.put, List.setIfInBounds_toArray, List.set_cons_zero, List.set_cons_succ, List.getElem_toArray, List.getElem_cons_succ, List.getElem_cons_zero]
            refine wpAnyT_take (i := 17) (v := ?_) rfl (by kernel_rfl) (by kernel_rfl) (by kernel_rfl) (fun _ _ _ h => h) (Or.inl ⟨by rfl, ?_⟩) (by assumption) ?_
            rotate_left 1
            · intro w hSw; clear hSw; go_simp <;> (with_reducible rfl)
            try simp only [Act.put, List.setIfInBounds_toArray, List.set_cons_zero, List.set_cons_succ, List.getElem_toArray, List.getElem_cons_succ, List.getElem_cons_zero]
            refine wpAnyT_take (i := 18) (v := ?_) rfl (by kernel_rfl) (by kernel_rfl) (by kernel_rfl) (fun _ _ _ h => h) (Or.inl ⟨by rfl, ?_⟩) (by assumption) ?_
            rotate_left 1
            · intro w hSw; obtain ⟨hs1, hs2, hs3, hs4⟩ := hSw; go_simp <;> (with_reducible rfl)
            try simp only [Act.put, List.setIfInBounds_toArray, List.set_cons_zero, List.set_cons_succ, List.getElem_toArray, List.getElem_cons_succ, List.getElem_cons_zero]
            refine wpAnyT_take (i := 20) (v := ?_) rfl (by kernel_rfl) (by kernel_rfl) (by kernel_rfl) (fun _ _ _ h => h) (Or.inl ⟨by rfl, ?_⟩) (by assumption) ?_
            rotate_left 1
            · intro w hSw; obtain ⟨hs1, hs2, hs3, hs4⟩ := hSw; go_simp <;> (with_reducible rfl)
            try simp only [Act.put, List.setIfInBounds_toArray, List.set_cons_zero, List.set_cons_succ, List.getElem_toArray, List.getElem_cons_succ, List.getElem_cons_zero]
            refine wpAnyT_take (i := 23) (v := ?_) rfl (by kernel_rfl) (by kernel_rfl) (by kernel_rfl) (fun _ _ _ h => h) (Or.inl ⟨by rfl, ?_⟩) (by assumption) ?_
            rotate_left 1
            · intro w hSw; clear hSw; go_simp <;> (with_reducible rfl)
            try simp only [Act.put, List.setIfInBounds_toArray, List.set_cons_zero, List.set_cons_succ, List.getElem_toArray, List.getElem_cons_succ, List.getElem_cons_zero]
            refine wpAnyT_take (i := 24) (v := ?_) rfl (by kernel_rfl) (by kernel_rfl) (by kernel_rfl) (fun _ _ _ h => h) (Or.inl ⟨by rfl, ?_⟩) (by assumption) ?_
            rotate_left 1
            · intro w hSw; clear hSw; go_simp <;> (with_reducible rfl)
            try simp only [Act.put, List.setIfInBounds_toArray, List.set_cons_zero, List.set_cons_succ, List.getElem_toArray, List.getElem_cons_succ, List.getElem_cons_zero]
            refine wpAnyT_take (i := 25) (v := ?_) rfl (by kernel_rfl) (by kernel_rfl) (by kernel_rfl) (fun _ _ _ h => h) (Or.inl ⟨by rfl, ?_⟩) (by assumption) ?_
            rotate_left 1
            · intro w hSw; clear hSw; go_simp <;> (with_reducible rfl)
            try simp only [Act.put, List.setIfInBounds_toArray, List.set_cons_zero, List.set_cons_succ, List.getElem_toArray, List.getElem_cons_succ, List.getElem_cons_zero]
            refine wpAnyT_take (i := 26) (v := ?_) rfl (by kernel_rfl) (by kernel_rfl) (by kernel_rfl) (fun _ _ _ h => h) (Or.inl ⟨by rfl, ?_⟩) (by assumption) ?_
            rotate_left 1
            · intro w hSw; clear hSw; go_simp <;> (with_reducible rfl)
            try simp only [Act.put, List.setIfInBounds_toArray, List.set_cons_zero, List.set_cons_succ, List.getElem_toArray, List.getElem_cons_succ, List.getElem_cons_zero]
            refine wpAnyT_ready (rs := [19]) (by kernel_rfl) (by simp) ?_
            refine AllReadyT.cons rfl (fun K hK => ?_) AllReadyT.nil
            go_simp
            (go_at_call 17; ((refine (C4.out _ W28.out).mono ?_); rintro e w4 ⟨rfl, hb⟩))
            have V41 := Lib.hid (V21.out.under hb)
            have V42 := Lib.hid (V22.out.under hb)
            have V43 := Lib.hid (V23.out.under hb)
            have V44 := Lib.hid (V24.out.under hb)
            have W45 := Lib.hid ((W25.out.below hb).more hb.size)
            have W46 := Lib.hid ((W26.out.below hb).more hb.size)
            have W47 := Lib.hid ((W27.out.below hb).more hb.size)
            have W48 := Lib.hid ((W28.out.below hb).more hb.size)
            have B4 := Lib.hid (B2.out.trans (hb.mono B2.out.size))
            clear hb
            go_wp2_with fail
            refine hK.out _ _ ⟨V41.out.cell, V42.out.cell, V43.out.cell, V44.out.cell⟩ (fun hHeld => ?_)
            clear hK K
            try simp only [Act.put, List.setIfInBounds_toArray, List.set_cons_zero, List.set_cons_succ, List.getElem_toArray, List.getElem_cons_succ, List.getElem_cons_zero]
            refine wpAnyT_ready (rs := [21]) (by kernel_rfl) (by simp) ?_
            refine AllReadyT.cons rfl (fun K hK => ?_) AllReadyT.nil
            go_simp
            (go_at_call 17; ((refine (C5.out _ W47.out).mono ?_); rintro e w5 ⟨rfl, hb⟩))
            have V51 := Lib.hid (V41.out.under hb)
            have V52 := Lib.hid (V42.out.under hb)
            have V53 := Lib.hid (V43.out.under hb)
            have V54 := Lib.hid (V44.out.under hb)
            have W55 := Lib.hid ((W45.out.below hb).more hb.size)
            have W56 := Lib.hid ((W46.out.below hb).more hb.size)
            have W57 := Lib.hid ((W47.out.below hb).more hb.size)
            have W58 := Lib.hid ((W48.out.below hb).more hb.size)
            have B5 := Lib.hid (B4.out.trans (hb.mono B4.out.size))
            clear hb
            go_wp2_with fail
            refine hK.out _ _ ⟨V51.out.cell, V52.out.cell, V53.out.cell, V54.out.cell⟩ (fun hHeld => ?_)
            clear hK K
            try simp only [Act.put, List.setIfInBounds_toArray, List.set_cons_zero, List.set_cons_succ, List.getElem_toArray, List.getElem_cons_succ, List.getElem_cons_zero]
            refine wpAnyT_take (i := 22) (v := ?_) rfl (by kernel_rfl) (by kernel_rfl) (by kernel_rfl) (fun _ _ _ h => h) (Or.inl ⟨by rfl, ?_⟩) (by assumption) ?_
            rotate_left 1
            · intro w hSw; clear hSw; go_simp <;> (with_reducible rfl)
            try simp only [Act.put, List.setIfInBounds_toArray, List.set_cons_zero, List.set_cons_succ, List.getElem_toArray, List.getElem_cons_succ, List.getElem_cons_zero]
            refine wpAnyT_take (i := 27) (v := ?_) rfl (by kernel_rfl) (by kernel_rfl) (by kernel_rfl) (fun _ _ _ h => h) (Or.inl ⟨by rfl, ?_⟩) (by assumption) ?_
            rotate_left 1
            · intro w hSw; clear hSw; go_simp <;> (with_reducible rfl)
            try simp only [Act.put, List.setIfInBounds_toArray, List.set_cons_zero, List.set_cons_succ, List.getElem_toArray, List.getElem_cons_succ, List.getElem_cons_zero]
            refine wpAnyT_take (i := 28) (v := ?_) rfl (by kernel_rfl) (by kernel_rfl) (by kernel_rfl) (fun _ _ _ h => h) (Or.inl ⟨by rfl, ?_⟩) (by assumption) ?_
            rotate_left 1
            · intro w hSw; clear hSw; go_simp <;> (with_reducible rfl)
            try simp only [Act.put, List.setIfInBounds_toArray, List.set_cons_zero, List.set_cons_succ, List.getElem_toArray, List.getElem_cons_succ, List.getElem_cons_zero]
            refine wpAnyT_take (i := 29) (v := ?_) rfl (by kernel_rfl) (by kernel_rfl) (by kernel_rfl) (fun _ _ _ h => h) (Or.inl ⟨by rfl, ?_⟩) (by assumption) ?_
            rotate_left 1
            · intro w hSw; clear hSw; go_simp <;> (with_reducible rfl)
            try simp only [Act.put, List.setIfInBounds_toArray, List.set_cons_zero, List.set_cons_succ, List.getElem_toArray, List.getElem_cons_succ, List.getElem_cons_zero]
            refine wpAnyT_take (i := 30) (v := ?_) rfl (by kernel_rfl) (by kernel_rfl) (by kernel_rfl) (fun _ _ _ h => h) (Or.inl ⟨by rfl, ?_⟩) (by assumption) ?_
            rotate_left 1
            · intro w hSw; clear hSw; go_simp <;> (with_reducible rfl)
            try simp only [Act.put, List.setIfInBounds_toArray, List.set_cons_zero, List.set_cons_succ, List.getElem_toArray, List.getElem_cons_succ, List.getElem_cons_zero]
            refine wpAnyT_take (i := 31) (v := ?_) rfl (by kernel_rfl) (by kernel_rfl) (by kernel_rfl) (fun _ _ _ h => h) (Or.inl ⟨by rfl, ?_⟩) (by assumption) ?_
            rotate_left 1
            · intro w hSw; obtain ⟨hs1, hs2, hs3, hs4⟩ := hSw; go_simp <;> (with_reducible rfl)
            try simp only [Act.put, List.setIfInBounds_toArray, List.set_cons_zero, List.set_cons_succ, List.getElem_toArray, List.getElem_cons_succ, List.getElem_cons_zero]
            refine wpAnyT_take (i := 32) (v := ?_) rfl (by kernel_rfl) (by kernel_rfl) (by kernel_rfl) (fun _ _ _ h => h) (Or.inl ⟨by rfl, ?_⟩) (by assumption) ?_
            rotate_left 1
            · intro w hSw; clear hSw; go_simp <;> (with_reducible rfl)
            try simp only [Act.put, List.setIfInBounds_toArray, List.set_cons_zero, List.set_cons_succ, List.getElem_toArray, List.getElem_cons_succ, List.getElem_cons_zero]
            refine wpAnyT_take (i := 33) (v := ?_) rfl (by kernel_rfl) (by kernel_rfl) (by kernel_rfl) (fun _ _ _ h => h) (Or.inl ⟨by rfl, ?_⟩) (by assumption) ?_
            rotate_left 1
            · intro w hSw; clear hSw; go_simp <;> (with_reducible rfl)
            try simp only [Act.put, List.setIfInBounds_toArray, List.set_cons_zero, List.set_cons_succ, List.getElem_toArray, List.getElem_cons_succ, List.getElem_cons_zero]
            refine wpAnyT_take (i := 34) (v := ?_) rfl (by kernel_rfl) (by kernel_rfl) (by kernel_rfl) (fun _ _ _ h => h) (Or.inl ⟨by rfl, ?_⟩) (by assumption) ?_
            rotate_left 1
            · intro w hSw; clear hSw; go_simp <;> (with_reducible rfl)
            try simp only [Act.put, List.setIfInBounds_toArray, List.set_cons_zero, List.set_cons_succ, List.getElem_toArray, List.getElem_cons_succ, List.getElem_cons_zero]
            refine wpAnyT_take (i := 36) (v := ?_) rfl (by kernel_rfl) (by kernel_rfl) (by kernel_rfl) (fun _ _ _ h => h) (Or.inl ⟨by rfl, ?_⟩) (by assumption) ?_
            rotate_left 1
            · intro w hSw; obtain ⟨hs1, hs2, hs3, hs4⟩ := hSw; go_simp <;> (with_reducible rfl)
            try simp only [Act.put, List.setIfInBounds_toArray, List.set_cons_zero, List.set_cons_succ, List.getElem_toArray, List.getElem_cons_succ, List.getElem_cons_zero]
            refine wpAnyT_ready (rs := [35]) (by kernel_rfl) (by simp) ?_
            refine AllReadyT.cons rfl (fun K hK => ?_) AllReadyT.nil
            go_simp
            (go_at_call 16; ((refine (C6.out _ W56.out).mono ?_); rintro e w6 ⟨A6, l6, c6, rfl, hX6, hb⟩))
            have V61 := Lib.hid (V51.out.under hb)
            have V62 := Lib.hid (V52.out.under hb)
            have V63 := Lib.hid (V53.out.under hb)
            have V64 := Lib.hid (V54.out.under hb)
            have W65 := Lib.hid ((W55.out.below hb).more hb.size)
            have W66 := Lib.hid ((W56.out.below hb).more hb.size)
            have W67 := Lib.hid ((W57.out.below hb).more hb.size)
            have W68 := Lib.hid ((W58.out.below hb).more hb.size)
            have B6 := Lib.hid (B5.out.trans (hb.mono B5.out.size))
            have X7 := Lib.hid hX6
            clear hX6
            clear hb
            go_wp2_with fail
            refine hK.out _ _ ⟨V61.out.cell, V62.out.cell, V63.out.cell, V64.out.cell⟩ (fun hHeld => ?_)
            clear hK K
            try simp only [Act.put, List.setIfInBounds_toArray, List.set_cons_zero, List.set_cons_succ, List.getElem_toArray, List.getElem_cons_succ, List.getElem_cons_zero]
            refine wpAnyT_ready (rs := [37]) (by kernel_rfl) (by simp) ?_
            refine AllReadyT.cons rfl (fun K hK => ?_) AllReadyT.nil
            go_simp
            (go_at_call 14; ((refine (C7.out _ _ _ _ X7.out W65.out).mono ?_); rintro e w7 ⟨rfl, hb⟩))
            have V71 := Lib.hid (V61.out.under hb)
            have V72 := Lib.hid (V62.out.under hb)
            have V73 := Lib.hid (V63.out.under hb)
            have V74 := Lib.hid (V64.out.under hb)
            have W75 := Lib.hid ((W65.out.below hb).more hb.size)
            have W76 := Lib.hid ((W66.out.below hb).more hb.size)
            have W77 := Lib.hid ((W67.out.below hb).more hb.size)
            have W78 := Lib.hid ((W68.out.below hb).more hb.size)
            have B7 := Lib.hid (B6.out.trans (hb.mono B6.out.size))
            clear hb
            go_wp2_with fail
            refine hK.out _ _ ⟨V71.out.cell, V72.out.cell, V73.out.cell, V74.out.cell⟩ (fun hHeld => ?_)
            clear hK K
            try simp only [Act.put, List.setIfInBounds_toArray, List.set_cons_zero, List.set_cons_succ, List.getElem_toArray, List.getElem_cons_succ, List.getElem_cons_zero]
            refine wpAnyT_take (i := 38) (v := ?_) rfl (by kernel_rfl) (by kernel_rfl) (by kernel_rfl) (fun _ _ _ h => h) (Or.inl ⟨by rfl, ?_⟩) (by assumption) ?_
            rotate_left 1
            · intro w hSw; clear hSw; go_simp <;> (with_reducible rfl)
            try simp only [Act.put, List.setIfInBounds_toArray, List.set_cons_zero, List.set_cons_succ, List.getElem_toArray, List.getElem_cons_succ, List.getElem_cons_zero]
            refine wpAnyT_take (i := 39) (v := ?_) rfl (by kernel_rfl) (by kernel_rfl) (by kernel_rfl) (fun _ _ _ h => h) (Or.inl ⟨by rfl, ?_⟩) (by assumption) ?_
            rotate_left 1
            · intro w hSw; clear hSw; go_simp <;> (with_reducible rfl)
            try simp only [Act.put, List.setIfInBounds_toArray, List.set_cons_zero, List.set_cons_succ, List.getElem_toArray, List.getElem_cons_succ, List.getElem_cons_zero]
            refine wpAnyT_done (by kernel_rfl) ?_ _
            go_wp2_with fail
            go_ret
            exact ⟨rfl, B7.out⟩
          · have hpb : placeB pd = false := placeB_no hpdi
            have C3' := C3.out
            rw [hpb] at C3'
            have CP := Lib.hid C3'
            clear hpdi hpb C3 C3'
            have V01 := Lib.hid F1.out.drew
            have V02 := Lib.hid F2.out.drew
            have V03 := Lib.hid F3.out.drew
            have V04 := Lib.hid F4.out.drew
            have W05 := Lib.hid F5.out.drew
            have W06 := Lib.hid F6.out.drew
            have W07 := Lib.hid F7.out.drew
            have W08 := Lib.hid F8.out.drew
            have B0 := Lib.hid F9.out.drew
            have hcs := F1.out.cell
            go_upto_region 10 with (fail)
            clear hcs
            refine wp_region_T (by kernel_rfl) (fun w' => World.cell? w' ⟨w.heap.size, 0, none⟩ = some (.slice a len cap) ∧ World.cell? w' ⟨g7, 0, none⟩ = some (.slice A4 l4 c4) ∧ World.cell? w' ⟨g8, 0, none⟩ = some (.slice A8 l8 c8) ∧ World.cell? w' ⟨g9, 0, none⟩ = some (.slice A9 l9 c9)) [] ⟨V01.out.cell, V02.out.cell, V03.out.cell, V04.out.cell⟩ (fun hHeld => ?_)
            refine wpAnyT_take (i := 0) (v := ?_) rfl (by kernel_rfl) (by kernel_rfl) (by kernel_rfl) (fun _ _ _ h => h) (Or.inl ⟨by rfl, ?_⟩) (by assumption) ?_
            rotate_left 1
            · intro w hSw; obtain ⟨hs1, hs2, hs3, hs4⟩ := hSw; go_simp <;> (with_reducible rfl)
            try simp only [Act.put, List.setIfInBounds_toArray, List.set_cons_zero, List.set_cons_succ, List.getElem_toArray, List.getElem_cons_zero]
            refine wpAnyT_take (i := 2) (v := ?_) rfl (by kernel_rfl) (by kernel_rfl) (by kernel_rfl) (fun _ _ _ h => h) (Or.inl ⟨by rfl, ?_⟩) (by assumption) ?_
            rotate_left 1
            · intro w hSw; obtain ⟨hs1, hs2, hs3, hs4⟩ := hSw; go_simp <;> (with_reducible rfl)
            try simp only [Act.put, List.setIfInBounds_toArray, List.set_cons_zero, List.set_cons_succ, List.getElem_toArray, List.getElem_cons_succ, List.getElem_cons_zero]
            refine wpAnyT_take (i := 5) (v := ?_) rfl (by kernel_rfl) (by kernel_rfl) (by kernel_rfl) (fun _ _ _ h => h) (Or.inl ⟨by rfl, ?_⟩) (by assumption) ?_
            rotate_left 1
            · intro w hSw; clear hSw; go_simp <;> (with_reducible rfl)
            try simp only [Act.put, List.setIfInBounds_toArray, List.set_cons_zero, List.set_cons_succ, List.getElem_toArray, List.getElem_cons_succ, List.getElem_cons_zero]
            refine wpAnyT_take (i := 6) (v := ?_) rfl (by kernel_rfl) (by kernel_rfl) (by kernel_rfl) (fun _ _ _ h => h) (Or.inl ⟨by rfl, ?_⟩) (by assumption) ?_
            rotate_left 1
            · intro w hSw; clear hSw; go_simp <;> (with_reducible rfl)
            try simp only [Act.put, List.setIfInBounds_toArray, List.set_cons_zero, List.set_cons_succ, List.getElem_toArray, List.getElem_cons_succ, List.getElem_cons_zero]
            refine wpAnyT_take (i := 7) (v := ?_) rfl (by kernel_rfl) (by kernel_rfl) (by kernel_rfl) (fun _ _ _ h => h) (Or.inl ⟨by rfl, ?_⟩) (by assumption) ?_
            rotate_left 1
            · intro w hSw; clear hSw; go_simp <;> (with_reducible rfl)
            try simp only [Act.put, List.setIfInBounds_toArray, List.set_cons_zero, List.set_cons_succ, List.getElem_toArray, List.getElem_cons_succ, List.getElem_cons_zero]
            refine wpAnyT_take (i := 8) (v := ?_) rfl (by kernel_rfl) (by kernel_rfl) (by kernel_rfl) (fun _ _ _ h => h) (Or.inl ⟨by rfl, ?_⟩) (by assumption) ?_
            rotate_left 1
            · intro w hSw; clear hSw; go_simp <;> (with_reducible rfl)
            try simp only [Act.put, List.setIfInBounds_toArray, List.set_cons_zero, List.set_cons_succ, List.getElem_toArray, List.getElem_cons_succ, List.getElem_cons_zero]
            refine wpAnyT_ready (rs := [1]) (by kernel_rfl) (by simp) ?_
            refine AllReadyT.cons rfl (fun K hK => ?_) AllReadyT.nil
            go_simp
            (go_at_call 17; ((refine (C1.out _ W06.out).mono ?_); rintro e w1 ⟨rfl, hb⟩))
            have V11 := Lib.hid (V01.out.under hb)
            have V12 := Lib.hid (V02.out.under hb)
            have V13 := Lib.hid (V03.out.under hb)
            have V14 := Lib.hid (V04.out.under hb)
            have W15 := Lib.hid ((W05.out.below hb).more hb.size)
            have W16 := Lib.hid ((W06.out.below hb).more hb.size)
            have W17 := Lib.hid ((W07.out.below hb).more hb.size)
            have W18 := Lib.hid ((W08.out.below hb).more hb.size)
            have B1 := Lib.hid (B0.out.trans (hb.mono B0.out.size))
            clear hb
            go_wp2_with fail
            refine hK.out _ _ ⟨V11.out.cell, V12.out.cell, V13.out.cell, V14.out.cell⟩ (fun hHeld => ?_)
            clear hK K
            try simp only [Act.put, List.setIfInBounds_toArray, List.set_cons_zero, List.set_cons_succ, List.getElem_toArray, List.getElem_cons_succ, List.getElem_cons_zero]
            refine wpAnyT_ready (rs := [3]) (by kernel_rfl) (by simp) ?_
            refine AllReadyT.cons rfl (fun K hK => ?_) AllReadyT.nil
            go_simp
            (go_at_call 17; ((refine (C2.out _ W15.out).mono ?_); rintro e w2 ⟨rfl, hb⟩))
            have V21 := Lib.hid (V11.out.under hb)
            have V22 := Lib.hid (V12.out.under hb)
            have V23 := Lib.hid (V13.out.under hb)
            have V24 := Lib.hid (V14.out.under hb)
            have W25 := Lib.hid ((W15.out.below hb).more hb.size)
            have W26 := Lib.hid ((W16.out.below hb).more hb.size)
            have W27 := Lib.hid ((W17.out.below hb).more hb.size)
            have W28 := Lib.hid ((W18.out.below hb).more hb.size)
            have B2 := Lib.hid (B1.out.trans (hb.mono B1.out.size))
            clear hb
            go_wp2_with fail
            refine hK.out _ _ ⟨V21.out.cell, V22.out.cell, V23.out.cell, V24.out.cell⟩ (fun hHeld => ?_)
            clear hK K
            try simp only [Act.put, List.setIfInBounds_toArray, List.set_cons_zero, List.set_cons_succ, List.getElem_toArray, List.getElem_cons_succ, List.getElem_cons_zero]
            refine wpAnyT_take (i := 4) (v := ?_) rfl (by kernel_rfl) (by kernel_rfl) (by kernel_rfl) (fun _ _ _ h => h) (Or.inl ⟨by rfl, ?_⟩) (by assumption) ?_
            rotate_left 1
            · intro w hSw; clear hSw; go_simp <;> (with_reducible rfl)
            try simp only [Act.put, List.setIfInBounds_toArray, List.set_cons_zero, List.set_cons_succ, List.getElem_toArray, List.getElem_cons_succ, List.getElem_cons_zero]
            refine wpAnyT_take (i := 9) (v := ?_) rfl (by kernel_rfl) (by kernel_rfl) (by kernel_rfl) (fun _ _ _ h => h) (Or.inl ⟨by rfl, ?_⟩) (by assumption) ?_
            rotate_left 1
            · intro w hSw; clear hSw; go_simp <;> (with_reducible rfl)
            try simp only [Act.put, List.setIfInBounds_toArray, List.set_cons_zero, List.set_cons_succ, List.getElem_toArray, List.getElem_cons_succ, List.getElem_cons_zero]
            refine wpAnyT_take (i := 10) (v := ?_) rfl (by kernel_rfl) (by kernel_rfl) (by kernel_rfl) (fun _ _ _ h => h) (Or.inl ⟨by rfl, ?_⟩) (by assumption) ?_
            rotate_left 1
            · intro w hSw; clear hSw; go_simp <;> (with_reducible rfl)
            try simp only [Act.put, List.setIfInBounds_toArray, List.set_cons_zero, List.set_cons_succ, List.getElem_toArray, List.getElem_cons_succ, List.getElem_cons_zero]
            refine wpAnyT_take (i := 11) (v := ?_) rfl (by kernel_rfl) (by kernel_rfl) (by kernel_rfl) (fun _ _ _ h => h) (Or.inl ⟨by rfl, ?_⟩) (by assumption) ?_
            rotate_left 1
            · intro w hSw; clear hSw; go_simp <;> (with_reducible rfl)
            try simp only [Act.put, List.setIfInBounds_toArray, List.set_cons_zero, List.set_cons_succ, List.getElem_toArray, List.getElem_cons_succ, List.getElem_cons_zero]
            refine wpAnyT_take (i := 12) (v := ?_) rfl (by kernel_rfl) (by kernel_rfl) (by kernel_rfl) (fun _ _ _ h => h) (Or.inl ⟨by rfl, ?_⟩) (by assumption) ?_
            rotate_left 1
            · intro w hSw; clear hSw; go_simp <;> (with_reducible rfl)
            try simp only [Act.put, List.setIfInBounds_toArray, List.set_cons_zero, List.set_cons_succ, List.getElem_toArray, List.getElem_cons_succ, List.getElem_cons_zero]
            refine wpAnyT_take (i := 13) (v := ?_) rfl (by kernel_rfl) (by kernel_rfl) (by kernel_rfl) (fun _ _ _ h => h) (Or.inl ⟨by rfl, ?_⟩) (by assumption) ?_
            rotate_left 1
            · intro w hSw; clear hSw; go_simp <;> (with_reducible rfl)
            try simp only [Act.put, List.setIfInBounds_toArray, List.set_cons_zero, List.set_cons_succ, List.getElem_toArray, List.getElem_cons_succ, List.getElem_cons_zero]
            refine wpAnyT_take (i := 14) (v := ?_) rfl (by kernel_rfl) (by kernel_rfl) (by kernel_rfl) (fun _ _ _ h => h) (Or.inl ⟨by rfl, ?_⟩) (by assumption) ?_
            rotate_left 1
            · intro w hSw; clear hSw; go_simp <;> (with_reducible rfl)
            try simp only [Act.put, List.setIfInBounds_toArray, List.set_cons_zero, List.set_cons_succ, List.getElem_toArray, List.getElem_cons_succ, List.getElem_cons_zero]
            refine wpAnyT_ready (rs := [15]) (by kernel_rfl) (by simp) ?_
            refine AllReadyT.cons rfl (fun K hK => ?_) AllReadyT.nil
            go_simp
            (go_at_call 10; ((refine (CP.out _).mono ?_); rintro e w3 ⟨rfl, rfl⟩))
            go_wp2_with fail
            refine hK.out _ _ ⟨V21.out.cell, V22.out.cell, V23.out.cell, V24.out.cell⟩ (fun hHeld => ?_)
            clear hK K
            try simp only [Act.put, List.setIfInBounds_toArray, List.set_cons_zero, List.set_cons_succ, List.getElem_toArray, List.getElem_cons_succ, List.getElem_cons_zero]
            refine wpAnyT_take (i := 16) (v := ?_) rfl (by kernel_rfl) (by kernel_rfl) (by kernel_rfl) (fun _ _ _ h => h) (Or.inl ⟨by rfl, ?_⟩) (by assumption) ?_
            rotate_left 1
            · intro w hSw; clear hSw; go_simp <;> (with_reducible rfl)
            try simp only [Act.put, List.setIfInBounds_toArray, List.set_cons_zero, List.set_cons_succ, List.getElem_toArray, List.getElem_cons_succ, List.getElem_cons_zero]
            refine wpAnyT_take (i := 17) (v := ?_) rfl (by kernel_rfl) (by kernel_rfl) (by kernel_rfl) (fun _ _ _ h => h) (Or.inl ⟨by rfl, ?_⟩) (by assumption) ?_
            rotate_left 1
            · intro w hSw; clear hSw; go_simp <;> (with_reducible rfl)
            try simp only [Act.put, List.setIfInBounds_toArray, List.set_cons_zero, List.set_cons_succ, List.getElem_toArray, List.getElem_cons_succ, List.getElem_cons_zero]
            refine wpAnyT_take (i := 18) (v := undef) rfl (by kernel_rfl) (by kernel_rfl) (by kernel_rfl) (fun _ _ _ h => h) (Or.inr ⟨by rfl, rfl⟩) (by assumption) ?_
            try simp only [Act.put, List.setIfInBounds_toArray, List.set_cons_zero, List.set_cons_succ, List.getElem_toArray, List.getElem_cons_succ, List.getElem_cons_zero]
            refine wpAnyT_take (i := 19) (v := undef) rfl (by kernel_rfl) (by kernel_rfl) (by kernel_rfl) (fun _ _ _ h => h) (Or.inr ⟨by rfl, rfl⟩) (by assumption) ?_
            try simp only [Act.put, List.setIfInBounds_toArray, List.set_cons_zero, List.set_cons_succ, List.getElem_toArray, List.getElem_cons_succ, List.getElem_cons_zero]
            refine wpAnyT_take (i := 20) (v := undef) rfl (by kernel_rfl) (by kernel_rfl) (by kernel_rfl) (fun _ _ _ h => h) (Or.inr ⟨by rfl, rfl⟩) (by assumption) ?_
            try simp only [Act.put, List.setIfInBounds_toArray, List.set_cons_zero, List.set_cons_succ, List.getElem_toArray, List.getElem_cons_succ, List.getElem_cons_zero]
            refine wpAnyT_take (i := 21) (v := undef) rfl (by kernel_rfl) (by kernel_rfl) (by kernel_rfl) (fun _ _ _ h => h) (Or.inr ⟨by rfl, rfl⟩) (by assumption) ?_
            try simp only [Act.put, List.setIfInBounds_toArray, List.set_cons_zero, List.set_cons_succ, List.getElem_toArray, List.getElem_cons_succ, List.getElem_cons_zero]
            refine wpAnyT_take (i := 22) (v := undef) rfl (by kernel_rfl) (by kernel_rfl) (by kernel_rfl) (fun _ _ _ h => h) (Or.inr ⟨by rfl, rfl⟩) (by assumption) ?_
            try simp only [Act.put, List.setIfInBounds_toArray, List.set_cons_zero, List.set_cons_succ, List.getElem_toArray, List.getElem_cons_succ, List.getElem_cons_zero]
            refine wpAnyT_take (i := 23) (v := undef) rfl (by kernel_rfl) (by kernel_rfl) (by kernel_rfl) (fun _ _ _ h => h) (Or.inr ⟨by rfl, rfl⟩) (by assumption) ?_
            try simp only [Act.put, List.setIfInBounds_toArray, List.set_cons_zero, List.set_cons_succ, List.getElem_toArray, List.getElem_cons_succ, List.getElem_cons_zero]
            refine wpAnyT_take (i := 24) (v := undef) rfl (by kernel_rfl) (by kernel_rfl) (by kernel_rfl) (fun _ _ _ h => h) (Or.inr ⟨by rfl, rfl⟩) (by assumption) ?_
            try simp only [Act.put, List.setIfInBounds_toArray, List.set_cons_zero, List.set_cons_succ, List.getElem_toArray, List.getElem_cons_succ, List.getElem_cons_zero]
            refine wpAnyT_take (i := 25) (v := undef) rfl (by kernel_rfl) (by kernel_rfl) (by kernel_rfl) (fun _ _ _ h => h) (Or.inr ⟨by rfl, rfl⟩) (by assumption) ?_
            try simp only [Act.put, List.setIfInBounds_toArray, List.set_cons_zero, List.set_cons_succ, List.getElem_toArray, List.getElem_cons_succ, List.getElem_cons_zero]
            refine wpAnyT_take (i := 26) (v := undef) rfl (by kernel_rfl) (by kernel_rfl) (by kernel_rfl) (fun _ _ _ h => h) (Or.inr ⟨by rfl, rfl⟩) (by assumption) ?_
            try simp only [Act.put, List.setIfInBounds_toArray, List.set_cons_zero, List.set_cons_succ, List.getElem_toArray, List.getElem_cons_succ, List.getElem_cons_zero]
            refine wpAnyT_take (i := 27) (v := undef) rfl (by kernel_rfl) (by kernel_rfl) (by kernel_rfl) (fun _ _ _ h => h) (Or.inr ⟨by rfl, rfl⟩) (by assumption) ?_
            try simp only [Act.put, List.setIfInBounds_toArray, List.set_cons_zero, List.set_cons_succ, List.getElem_toArray, List.getElem_cons_succ, List.getElem_cons_zero]
            refine wpAnyT_take (i := 28) (v := ?_) rfl (by kernel_rfl) (by kernel_rfl) (by kernel_rfl) (fun _ _ _ h => h) (Or.inl ⟨by rfl, ?_⟩) (by assumption) ?_
            rotate_left 1
            · intro w hSw; clear hSw; go_simp <;> (with_reducible rfl)
            try simp only [Act.put, List.setIfInBounds_toArray, List.set_cons_zero, List.set_cons_succ, List.getElem_toArray, List.getElem_cons_succ, List.getElem_cons_zero]
            refine wpAnyT_take (i := 29) (v := ?_) rfl (by kernel_rfl) (by kernel_rfl) (by kernel_rfl) (fun _ _ _ h => h) (Or.inl ⟨by rfl, ?_⟩) (by assumption) ?_
            rotate_left 1
            · intro w hSw; clear hSw; go_simp <;> (with_reducible rfl)
            try simp only [Act.put, List.setIfInBounds_toArray, List.set_cons_zero, List.set_cons_succ, List.getElem_toArray, List.getElem_cons_succ, List.getElem_cons_zero]
            refine wpAnyT_take (i := 30) (v := ?_) rfl (by kernel_rfl) (by kernel_rfl) (by kernel_rfl) (fun _ _ _ h => h) (Or.inl ⟨by rfl, ?_⟩) (by assumption) ?_
            rotate_left 1
            · intro w hSw; clear hSw; go_simp <;> (with_reducible rfl)
            try simp only [Act.put, List.setIfInBounds_toArray, List.set_cons_zero, List.set_cons_succ, List.getElem_toArray, List.getElem_cons_succ, List.getElem_cons_zero]
            refine wpAnyT_take (i := 31) (v := ?_) rfl (by kernel_rfl) (by kernel_rfl) (by kernel_rfl) (fun _ _ _ h => h) (Or.inl ⟨by rfl, ?_⟩) (by assumption) ?_
            rotate_left 1
            · intro w hSw; obtain ⟨hs1, hs2, hs3, hs4⟩ := hSw; go_simp <;> (with_reducible rfl)
            try simp only [Act.put, List.setIfInBounds_toArray, List.set_cons_zero, List.set_cons_succ, List.getElem_toArray, List.getElem_cons_succ, List.getElem_cons_zero]
            refine wpAnyT_take (i := 32) (v := ?_) rfl (by kernel_rfl) (by kernel_rfl) (by kernel_rfl) (fun _ _ _ h => h) (Or.inl ⟨by rfl, ?_⟩) (by assumption) ?_
            rotate_left 1
            · intro w hSw; clear hSw; go_simp <;> (with_reducible rfl)
            try simp only [Act.put, List.setIfInBounds_toArray, List.set_cons_zero, List.set_cons_succ, List.getElem_toArray, List.getElem_cons_succ, List.getElem_cons_zero]
            refine wpAnyT_take (i := 33) (v := ?_) rfl (by kernel_rfl) (by kernel_rfl) (by kernel_rfl) (fun _ _ _ h => h) (Or.inl ⟨by rfl, ?_⟩) (by assumption) ?_
            rotate_left 1
            · intro w hSw; clear hSw; go_simp <;> (with_reducible rfl)
            try simp only [Act.put, List.setIfInBounds_toArray, List.set_cons_zero, List.set_cons_succ, List.getElem_toArray, List.getElem_cons_succ, List.getElem_cons_zero]
            refine wpAnyT_take (i := 34) (v := ?_) rfl (by kernel_rfl) (by kernel_rfl) (by kernel_rfl) (fun _ _ _ h => h) (Or.inl ⟨by rfl, ?_⟩) (by assumption) ?_
            rotate_left 1
            · intro w hSw; clear hSw; go_simp <;> (with_reducible rfl)
            try simp only [Act.put, List.setIfInBounds_toArray, List.set_cons_zero, List.set_cons_succ, List.getElem_toArray, List.getElem_cons_succ, List.getElem_cons_zero]
            refine wpAnyT_take (i := 36) (v := ?_) rfl (by kernel_rfl) (by kernel_rfl) (by kernel_rfl) (fun _ _ _ h => h) (Or.inl ⟨by rfl, ?_⟩) (by assumption) ?_
            rotate_left 1
            · intro w hSw; obtain ⟨hs1, hs2, hs3, hs4⟩ := hSw; go_simp <;> (with_reducible rfl)
            try simp only [Act.put, List.setIfInBounds_toArray, List.set_cons_zero, List.set_cons_succ, List.getElem_toArray, List.getElem_cons_succ, List.getElem_cons_zero]
            refine wpAnyT_ready (rs := [35]) (by kernel_rfl) (by simp) ?_
            refine AllReadyT.cons rfl (fun K hK => ?_) AllReadyT.nil
            go_simp
            (go_at_call 16; ((refine (C6.out _ W26.out).mono ?_); rintro e w6 ⟨A6, l6, c6, rfl, hX6, hb⟩))
            have V61 := Lib.hid (V21.out.under hb)
            have V62 := Lib.hid (V22.out.under hb)
            have V63 := Lib.hid (V23.out.under hb)
            have V64 := Lib.hid (V24.out.under hb)
            have W65 := Lib.hid ((W25.out.below hb).more hb.size)
            have W66 := Lib.hid ((W26.out.below hb).more hb.size)
            have W67 := Lib.hid ((W27.out.below hb).more hb.size)
            have W68 := Lib.hid ((W28.out.below hb).more hb.size)
            have B6 := Lib.hid (B2.out.trans (hb.mono B2.out.size))
            have X7 := Lib.hid hX6
            clear hX6
            clear hb
            go_wp2_with fail
            refine hK.out _ _ ⟨V61.out.cell, V62.out.cell, V63.out.cell, V64.out.cell⟩ (fun hHeld => ?_)
            clear hK K
            try simp only [Act.put, List.setIfInBounds_toArray, List.set_cons_zero, List.set_cons_succ, List.getElem_toArray, List.getElem_cons_succ, List.getElem_cons_zero]
            refine wpAnyT_ready (rs := [37]) (by kernel_rfl) (by simp) ?_
            refine AllReadyT.cons rfl (fun K hK => ?_) AllReadyT.nil
            go_simp
            (go_at_call 14; ((refine (C7.out _ _ _ _ X7.out W65.out).mono ?_); rintro e w7 ⟨rfl, hb⟩))
            have V71 := Lib.hid (V61.out.under hb)
            have V72 := Lib.hid (V62.out.under hb)
            have V73 := Lib.hid (V63.out.under hb)
            have V74 := Lib.hid (V64.out.under hb)
            have W75 := Lib.hid ((W65.out.below hb).more hb.size)
            have W76 := Lib.hid ((W66.out.below hb).more hb.size)
            have W77 := Lib.hid ((W67.out.below hb).more hb.size)
            have W78 := Lib.hid ((W68.out.below hb).more hb.size)
            have B7 := Lib.hid (B6.out.trans (hb.mono B6.out.size))
            clear hb
            go_wp2_with fail
            refine hK.out _ _ ⟨V71.out.cell, V72.out.cell, V73.out.cell, V74.out.cell⟩ (fun hHeld => ?_)
            clear hK K
            try simp only [Act.put, List.setIfInBounds_toArray, List.set_cons_zero, List.set_cons_succ, List.getElem_toArray, List.getElem_cons_succ, List.getElem_cons_zero]
            refine wpAnyT_take (i := 38) (v := ?_) rfl (by kernel_rfl) (by kernel_rfl) (by kernel_rfl) (fun _ _ _ h => h) (Or.inl ⟨by rfl, ?_⟩) (by assumption) ?_
            rotate_left 1
            · intro w hSw; clear hSw; go_simp <;> (with_reducible rfl)
            try simp only [Act.put, List.setIfInBounds_toArray, List.set_cons_zero, List.set_cons_succ, List.getElem_toArray, List.getElem_cons_succ, List.getElem_cons_zero]
            refine wpAnyT_take (i := 39) (v := ?_) rfl (by kernel_rfl) (by kernel_rfl) (by kernel_rfl) (fun _ _ _ h => h) (Or.inl ⟨by rfl, ?_⟩) (by assumption) ?_
            rotate_left 1
            · intro w hSw; clear hSw; go_simp <;> (with_reducible rfl)
            try simp only [Act.put, List.setIfInBounds_toArray, List.set_cons_zero, List.set_cons_succ, List.getElem_toArray, List.getElem_cons_succ, List.getElem_cons_zero]
            refine wpAnyT_done (by kernel_rfl) ?_ _
            go_wp2_with fail
            go_ret
            exact ⟨rfl, B7.out⟩
end Go.Proofs.Ytgfhpdgohjnooaa.smoothShifts
