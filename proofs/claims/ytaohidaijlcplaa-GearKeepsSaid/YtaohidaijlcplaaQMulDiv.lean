/- What layer q's MulDiv answers, for all numbers of 64 bits: the product by the third number, rounded down, where it has room; else the document's error. -/
import Derived.Test.YtaohidaijlcplaaQDiv
import Derived.Test.YtaohidaijlcplaaQDiv64
namespace Go.Proofs.Ytaohidaijlcplaa.q
open Go.ChangeShapes Go.WideShapes Go.ChangeAt Go.RowKit
set_option linter.unusedVariables false

theorem up_facts (hi lo y s : Nat) (hhi : hi < y) (hlo : lo < 18446744073709551616) (hs : s < 64) (h1 : 9223372036854775808 ≤ y * 2 ^ s) (h2 : y * 2 ^ s < 18446744073709551616) :
    IntKind.u64.wrap ((y : Int) * 2 ^ s) = ((y * 2 ^ s : Nat) : Int) ∧
    bits .or .u64 (IntKind.u64.wrap ((hi : Int) * 2 ^ s)) ((lo : Int) / 2 ^ (64 - s)) = ((hi * 2 ^ s + lo / 2 ^ (64 - s) : Nat) : Int) ∧
    IntKind.u64.wrap ((lo : Int) * 2 ^ s) = ((lo * 2 ^ s % 18446744073709551616 : Nat) : Int) ∧
    hi * 2 ^ s + lo / 2 ^ (64 - s) < y * 2 ^ s := by
  have c : ∀ a : Nat, (a : Int) * 2 ^ s = ((a * 2 ^ s : Nat) : Int) := fun a => by rw [Int.natCast_mul, Int.natCast_pow]; rfl
  have d : (lo : Int) / 2 ^ (64 - s) = ((lo / 2 ^ (64 - s) : Nat) : Int) := by rw [Int.natCast_ediv, Int.natCast_pow]; rfl
  have e64 : 2 ^ s * 2 ^ (64 - s) = 18446744073709551616 := by rw [← Nat.pow_add, show s + (64 - s) = 64 by omega]
  have l1 : lo / 2 ^ (64 - s) < 2 ^ s := by
    apply Nat.div_lt_of_lt_mul; rw [Nat.mul_comm, e64]; exact hlo
  have l2 : (hi + 1) * 2 ^ s ≤ y * 2 ^ s := Nat.mul_le_mul_right _ hhi
  rw [Nat.add_mul, Nat.one_mul] at l2
  have m : hi * 2 ^ s % 2 ^ s = 0 := Nat.mul_mod_left hi (2 ^ s)
  rw [c y, c hi, c lo, d]
  refine ⟨wrapN _ h2, ?_, wrapM _, by omega⟩
  rw [wrapN _ (by omega), u64_or_nat _ _ (by omega) (by omega), nat_join s _ _ m l1]

theorem div64_any (hi lo y : Nat) (hy : y < 18446744073709551616) (hlo : lo < 18446744073709551616) (hh : 0 < hi) (hhi : hi < y) (w : World) :
    Calls Try.prog 30 #[.int .u64 (hi : Int), .int .u64 (lo : Int), .int .u64 (y : Int)] w fun e w' => e = .returned (.tuple #[.int .u64 (((hi * 18446744073709551616 + lo) / y : Nat) : Int), .int .u64 (((hi * 18446744073709551616 + lo) % y : Nat) : Int)]) ∧ w = w' := by
  have us := ups_spec y (by omega) hy
  have sp := up_split hi lo (ups y) (by omega)
  have lz := fun w => lz_any y hy w
  generalize ups y = s at *
  obtain ⟨a, b, c⟩ := us
  obtain ⟨eY, eU, eL, bu⟩ := up_facts hi lo y s hhi hlo a b c
  have hq := up_quot (hi * 18446744073709551616 + lo) y s
  have hr := up_rest (hi * 18446744073709551616 + lo) y s
  rw [sp] at hq hr
  generalize y * 2 ^ s = Y at *
  generalize hi * 2 ^ s + lo / 2 ^ (64 - s) = u at *
  generalize hL : lo * 2 ^ s % 18446744073709551616 = L at *
  have bL : L < 18446744073709551616 := by omega
  have eL2 : L / 4294967296 * 4294967296 + L % 4294967296 = L := Nat.div_add_mod' L 4294967296
  have td := two_digits u (L / 4294967296) (L % 4294967296) Y (by omega)
  rw [eL2, hq] at td
  rw [← td.2] at hr
  rw [← td.1, ← hr]
  have core := div64_core (hi : Int) (lo : Int) (y : Int) (Y : Int) ((Y / 4294967296 : Nat) : Int) ((Y % 4294967296 : Nat) : Int) (u : Int) (L : Int) ((L / 4294967296 : Nat) : Int) ((L % 4294967296 : Nat) : Int) s a lz (by omega) (by omega) eY eU eL
    (by omega) (maskN Y c) (by omega) (maskN L bL) (Lib.hid (by omega)) (Lib.hid (by omega)) (Lib.hid (by omega)) (by omega) (by omega) (by omega) (by omega) (by omega) (by omega) (by omega) (by omega) (by omega) (by omega) w
  simp only [Int.toNat_natCast] at core
  exact core

theorem floor_any (a b c : Int) (hc : 0 < c) : a * b / c = if neq a b = true then -((mag a * mag b / c.toNat + (if mag a * mag b % c.toNat = 0 then 0 else 1) : Nat) : Int) else ((mag a * mag b / c.toNat : Nat) : Int) := by
  have hs := sgn_mul a b
  rw [← hs]
  generalize mag a * mag b = P at *
  have ec : c = (c.toNat : Int) := by omega
  rw [ec]
  generalize c.toNat = C at *
  have hC : 0 < C := by omega
  rw [Int.toNat_natCast]
  by_cases hn : neq a b = true
  · rw [if_pos hn]
    by_cases hr : P % C = 0
    · rw [if_pos hr, floor_neg0 P C _ hn hC hr]; rfl
    · rw [if_neg hr, floor_neg1 P C _ hn hC hr]
  · rw [if_neg hn, floor_pos P C _ (Bool.eq_false_iff.mpr hn)]

theorem md_over (a b c : Int) (hc : 0 < c) (h : 18446744073709551615 < mag a * mag b / c.toNat) : mdV a b c = 0 ∧ mdE a b c = 2 := by
  have f := floor_any a b c hc
  have : ¬ rm (a * b / c) = true := by
    rw [rm_iff, f]
    split
    · split <;> omega
    · omega
  unfold mdV mdE
  rw [if_neg (by omega), if_neg (by omega), if_neg (by omega), if_neg this, rv_no this]
  exact ⟨rfl, rfl⟩
theorem md_over1 (a b c : Int) (hc : 0 < c) (hn : neq a b = true) (hr : ¬ mag a * mag b % c.toNat = 0) (h : mag a * mag b / c.toNat = 18446744073709551615) : mdV a b c = 0 ∧ mdE a b c = 2 := by
  have f := floor_any a b c hc
  have : ¬ rm (a * b / c) = true := by
    rw [rm_iff, f, if_pos hn, if_neg hr]; omega
  unfold mdV mdE
  rw [if_neg (by omega), if_neg (by omega), if_neg (by omega), if_neg this, rv_no this]
  exact ⟨rfl, rfl⟩
theorem md_in (a b c : Int) (hc : 0 < c) (n : Nat) (neg : Bool) (h : sgn n neg = a * b / c) : (sgB n neg = true → mdV a b c = sgV n neg ∧ mdE a b c = 0) ∧ (sgB n neg = false → mdV a b c = 0 ∧ mdE a b c = 2) := by
  unfold sgB sgV mdV mdE
  rw [if_neg (by omega), if_neg (by omega), if_neg (by omega), h]
  refine ⟨fun e => ?_, fun e => ?_⟩
  · rw [if_pos e]; exact ⟨rfl, rfl⟩
  · rw [if_neg (Bool.eq_false_iff.mp e), rv_no (Bool.eq_false_iff.mp e)]; exact ⟨rfl, rfl⟩

/-- the quotient's call, whichever of its two ways it goes -/
theorem div64_all (hi lo y : Nat) (hy : y < 18446744073709551616) (hlo : lo < 18446744073709551616) (hhi : hi < y) (w : World) :
    Calls Try.prog 30 #[.int .u64 (hi : Int), .int .u64 (lo : Int), .int .u64 (y : Int)] w fun e w' => e = .returned (.tuple #[.int .u64 (((hi * 18446744073709551616 + lo) / y : Nat) : Int), .int .u64 (((hi * 18446744073709551616 + lo) % y : Nat) : Int)]) ∧ ∃ k, w' = w.drewN k := by
  by_cases h : hi = 0
  · subst h
    rw [Nat.zero_mul, Nat.zero_add]
    exact div64_small lo y hlo hy (by omega) w
  · exact (div64_any hi lo y hy hlo (by omega) hhi w).mono fun _ _ ⟨e, hw⟩ => ⟨e, 0, hw.symm⟩

set_option maxRecDepth 100000 in
theorem muldiv_any (a b c : Int) (h1 : -9223372036854775808 ≤ a) (h2 : a ≤ 9223372036854775807) (h3 : -9223372036854775808 ≤ b) (h4 : b ≤ 9223372036854775807) (h6 : c ≤ 9223372036854775807) (w : World) :
    Calls Try.prog 15 #[.int .i64 a, .int .i64 b, .int .i64 c] w fun e w' => e = .returned (.tuple #[.int .i64 (mdV a b c), .int .i64 (mdE a b c)]) ∧ ∃ k, w' = w.drewN k := by
  by_cases c0 : c = 0
  · subst c0
    have hv : Hid (mdV a b 0 = 0 ∧ mdE a b 0 = 3) := Lib.hid ⟨rfl, rfl⟩
    go_enter Try.func15, Try.ntmps15
    go_wp2
    go_ret2
    exact ⟨ret2_int hv.out.1.symm hv.out.2.symm, 0, rfl⟩
  · by_cases cn : c < 0
    · have hv : Hid (mdV a b c = 0 ∧ mdE a b c = 1) := Lib.hid (by
        unfold mdV mdE; rw [if_pos (by omega), if_neg c0, if_pos cn]; exact ⟨rfl, rfl⟩)
      go_enter Try.func15, Try.ntmps15
      go_wp2
      go_ret2
      exact ⟨ret2_int hv.out.1.symm hv.out.2.symm, 0, rfl⟩
    · have cp : 0 < c := by omega
      have ma := mag_le a h1 h2
      have mb := mag_le b h3 h4
      have HF := Lib.hid (floor_any a b c cp)
      have HO := Lib.hid (md_over a b c cp)
      have HO1 := Lib.hid (md_over1 a b c cp)
      have HI := Lib.hid (md_in a b c cp)
      have ca := fun (w : World) => size_any a h1 h2 w
      have cb := fun (w : World) => size_any b h3 h4 w
      have cm := fun (w : World) => mul64_any (mag a) (mag b) (by omega) (by omega) w
      have cu := fun (w : World) => unlike_any a b w
      have edm := Nat.div_add_mod' (mag a * mag b) 18446744073709551616
      have blo : mag a * mag b % 18446744073709551616 < 18446744073709551616 := Nat.mod_lt _ (by omega)
      have ec : ((c.toNat : Nat) : Int) = c := by omega
      by_cases hb : c.toNat ≤ mag a * mag b / 18446744073709551616
      · have hv : Hid (mdV a b c = 0 ∧ mdE a b c = 2) := Lib.hid (HO.out (by
          have : c.toNat * 18446744073709551616 ≤ mag a * mag b := by
            have := Nat.mul_le_mul_right 18446744073709551616 hb; omega
          have : 18446744073709551616 ≤ mag a * mag b / c.toNat := by
            rw [Nat.le_div_iff_mul_le (by omega), Nat.mul_comm]; exact this
          omega))
        have hbz : c ≤ ((mag a * mag b / 18446744073709551616 : Nat) : Int) := by omega
        clear HF HO HO1 HI edm blo hb
        generalize ((mag a * mag b / 18446744073709551616 : Nat) : Int) = hi at *
        generalize ((mag a * mag b % 18446744073709551616 : Nat) : Int) = lo at *
        generalize ((mag a : Nat) : Int) = A at *
        generalize ((mag b : Nat) : Int) = B at *
        clear ec ma mb
        go_enter Try.func15, Try.ntmps15
        go_wp2_with (first | (go_at_call 29; with_reducible refine (ca _).mono ?_; rintro e w' ⟨rfl, rfl⟩) | (go_at_call 29; with_reducible refine (cb _).mono ?_; rintro e w' ⟨rfl, rfl⟩) | (go_at_call 28; with_reducible refine (cm _).mono ?_; rintro e w' ⟨rfl, rfl⟩))
        go_ret2
        exact ⟨ret2_int hv.out.1.symm hv.out.2.symm, 0, rfl⟩
      · have cd := fun (w : World) => div64_all (mag a * mag b / 18446744073709551616) (mag a * mag b % 18446744073709551616) c.toNat (by omega) blo (by omega) w
        rw [edm, ec] at cd
        have hbz : ((mag a * mag b / 18446744073709551616 : Nat) : Int) < c := by omega
        have bq : mag a * mag b / c.toNat < 18446744073709551616 := by
          apply Nat.div_lt_of_lt_mul
          have : (mag a * mag b / 18446744073709551616 + 1) * 18446744073709551616 ≤ c.toNat * 18446744073709551616 := Nat.mul_le_mul_right _ (by omega)
          omega
        clear edm blo hb HO ec
        generalize ((mag a * mag b / 18446744073709551616 : Nat) : Int) = hi at *
        generalize ((mag a * mag b % 18446744073709551616 : Nat) : Int) = lo at *
        generalize hP : mag a * mag b = P at *
        generalize ((mag a : Nat) : Int) = A at *
        generalize ((mag b : Nat) : Int) = B at *
        clear hP ma mb
        generalize P / c.toNat = Q at *
        generalize P % c.toNat = R at *
        have qz : 0 ≤ (Q : Int) := by omega
        have qz' : (Q : Int) ≤ 18446744073709551615 := by omega
        by_cases hn : neq a b = true ∧ ¬ R = 0
        · obtain ⟨hn, hr⟩ := hn
          have HR := Lib.hid hr
          have hrz : 0 < (R : Int) := by omega
          rw [hn] at cu
          by_cases ho : Q = 18446744073709551615
          · have hv : Hid (mdV a b c = 0 ∧ mdE a b c = 2) := Lib.hid (HO1.out hn hr ho)
            have hqz : 18446744073709551615 ≤ (Q : Int) := by omega
            clear HF HO1 HI hn bq hr ho
            generalize (Q : Int) = Qz at *
            generalize (R : Int) = Rz at *
            go_enter Try.func15, Try.ntmps15
            go_wp2_with (first | (go_at_call 29; with_reducible refine (ca _).mono ?_; rintro e w' ⟨rfl, rfl⟩) | (go_at_call 29; with_reducible refine (cb _).mono ?_; rintro e w' ⟨rfl, rfl⟩) | (go_at_call 28; with_reducible refine (cm _).mono ?_; rintro e w' ⟨rfl, rfl⟩) | (go_at_call 30; with_reducible refine (cd _).mono ?_; rintro e w' ⟨rfl, kd, rfl⟩) | (go_at_call 31; with_reducible refine (cu _).mono ?_; rintro e w' ⟨rfl, rfl⟩) | (go_at_call 32; with_reducible refine (cs _).mono ?_; rintro e w' ⟨rfl, rfl⟩))
            go_ret2
            exact ⟨ret2_int hv.out.1.symm hv.out.2.symm, _, rfl⟩
          · have hs : sgn (Q + 1) true = a * b / c := by
              rw [HF.out, if_pos hn, if_neg hr]; rfl
            have hqz : (Q : Int) < 18446744073709551615 := by omega
            have cs := fun (w : World) => signed_any (Q + 1) true (by omega) w
            rw [show ((Q + 1 : Nat) : Int) = (Q : Int) + 1 from Int.natCast_add Q 1] at cs
            have HS := Lib.hid hs
            clear hn bq hr ho hs
            by_cases hb : sgB (Q + 1) true = true
            · have hv := Lib.hid ((HI.out (Q + 1) true HS.out).1 hb)
              rw [hb] at cs
              clear HI HF HO1 hb
              generalize sgV (Q + 1) true = V at *
              generalize (Q : Int) = Qz at *
              generalize (R : Int) = Rz at *
              go_enter Try.func15, Try.ntmps15
              go_wp2_with (first | (go_at_call 29; with_reducible refine (ca _).mono ?_; rintro e w' ⟨rfl, rfl⟩) | (go_at_call 29; with_reducible refine (cb _).mono ?_; rintro e w' ⟨rfl, rfl⟩) | (go_at_call 28; with_reducible refine (cm _).mono ?_; rintro e w' ⟨rfl, rfl⟩) | (go_at_call 30; with_reducible refine (cd _).mono ?_; rintro e w' ⟨rfl, kd, rfl⟩) | (go_at_call 31; with_reducible refine (cu _).mono ?_; rintro e w' ⟨rfl, rfl⟩) | (go_at_call 32; with_reducible refine (cs _).mono ?_; rintro e w' ⟨rfl, rfl⟩))
              go_ret2
              exact ⟨ret2_int hv.out.1.symm hv.out.2.symm, _, rfl⟩
            · have hbf : sgB (Q + 1) true = false := Bool.eq_false_iff.mpr hb
              have hv := Lib.hid ((HI.out (Q + 1) true HS.out).2 hbf)
              rw [hbf] at cs
              clear HI HF HO1 hb hbf
              generalize sgV (Q + 1) true = V at *
              generalize (Q : Int) = Qz at *
              generalize (R : Int) = Rz at *
              go_enter Try.func15, Try.ntmps15
              go_wp2_with (first | (go_at_call 29; with_reducible refine (ca _).mono ?_; rintro e w' ⟨rfl, rfl⟩) | (go_at_call 29; with_reducible refine (cb _).mono ?_; rintro e w' ⟨rfl, rfl⟩) | (go_at_call 28; with_reducible refine (cm _).mono ?_; rintro e w' ⟨rfl, rfl⟩) | (go_at_call 30; with_reducible refine (cd _).mono ?_; rintro e w' ⟨rfl, kd, rfl⟩) | (go_at_call 31; with_reducible refine (cu _).mono ?_; rintro e w' ⟨rfl, rfl⟩) | (go_at_call 32; with_reducible refine (cs _).mono ?_; rintro e w' ⟨rfl, rfl⟩))
              go_ret2
              exact ⟨ret2_int hv.out.1.symm hv.out.2.symm, _, rfl⟩
        · have hs : sgn Q (neq a b) = a * b / c := by
            rw [HF.out]
            by_cases hm : neq a b = true
            · have hr : R = 0 := by
                by_cases h : R = 0
                · exact h
                · exact absurd ⟨hm, h⟩ hn
              rw [if_pos hm, if_pos hr, hm]; rfl
            · rw [if_neg hm, Bool.eq_false_iff.mpr hm]; rfl
          have cs := fun (w : World) => signed_any Q (neq a b) bq w
          have HS := Lib.hid hs
          have hnz : ¬ (neq a b = true ∧ ¬ (R : Int) = 0) := fun h => hn ⟨h.1, fun e => h.2 (by omega)⟩
          clear hn hs
          generalize neq a b = neg at *
          have hrz0 : 0 ≤ (R : Int) := by omega
          cases neg
          · clear hnz bq
            by_cases hb : sgB Q false = true
            · have hv := Lib.hid ((HI.out Q false HS.out).1 hb)
              rw [hb] at cs
              clear HI HF HO1 hb
              generalize sgV Q false = V at *
              generalize (Q : Int) = Qz at *
              generalize (R : Int) = Rz at *
              go_enter Try.func15, Try.ntmps15
              go_wp2_with (first | (go_at_call 29; with_reducible refine (ca _).mono ?_; rintro e w' ⟨rfl, rfl⟩) | (go_at_call 29; with_reducible refine (cb _).mono ?_; rintro e w' ⟨rfl, rfl⟩) | (go_at_call 28; with_reducible refine (cm _).mono ?_; rintro e w' ⟨rfl, rfl⟩) | (go_at_call 30; with_reducible refine (cd _).mono ?_; rintro e w' ⟨rfl, kd, rfl⟩) | (go_at_call 31; with_reducible refine (cu _).mono ?_; rintro e w' ⟨rfl, rfl⟩) | (go_at_call 32; with_reducible refine (cs _).mono ?_; rintro e w' ⟨rfl, rfl⟩))
              go_ret2
              exact ⟨ret2_int hv.out.1.symm hv.out.2.symm, _, rfl⟩
            · have hbf : sgB Q false = false := Bool.eq_false_iff.mpr hb
              have hv := Lib.hid ((HI.out Q false HS.out).2 hbf)
              rw [hbf] at cs
              clear HI HF HO1 hb hbf
              generalize sgV Q false = V at *
              generalize (Q : Int) = Qz at *
              generalize (R : Int) = Rz at *
              go_enter Try.func15, Try.ntmps15
              go_wp2_with (first | (go_at_call 29; with_reducible refine (ca _).mono ?_; rintro e w' ⟨rfl, rfl⟩) | (go_at_call 29; with_reducible refine (cb _).mono ?_; rintro e w' ⟨rfl, rfl⟩) | (go_at_call 28; with_reducible refine (cm _).mono ?_; rintro e w' ⟨rfl, rfl⟩) | (go_at_call 30; with_reducible refine (cd _).mono ?_; rintro e w' ⟨rfl, kd, rfl⟩) | (go_at_call 31; with_reducible refine (cu _).mono ?_; rintro e w' ⟨rfl, rfl⟩) | (go_at_call 32; with_reducible refine (cs _).mono ?_; rintro e w' ⟨rfl, rfl⟩))
              go_ret2
              exact ⟨ret2_int hv.out.1.symm hv.out.2.symm, _, rfl⟩
          · have hr0 : (R : Int) = 0 := by
              by_cases h : (R : Int) = 0
              · exact h
              · exact absurd ⟨rfl, h⟩ hnz
            have hrz1 : (R : Int) ≤ 0 := by omega
            clear hnz bq hr0
            by_cases hb : sgB Q true = true
            · have hv := Lib.hid ((HI.out Q true HS.out).1 hb)
              rw [hb] at cs
              clear HI HF HO1 hb
              generalize sgV Q true = V at *
              generalize (Q : Int) = Qz at *
              generalize (R : Int) = Rz at *
              go_enter Try.func15, Try.ntmps15
              go_wp2_with (first | (go_at_call 29; with_reducible refine (ca _).mono ?_; rintro e w' ⟨rfl, rfl⟩) | (go_at_call 29; with_reducible refine (cb _).mono ?_; rintro e w' ⟨rfl, rfl⟩) | (go_at_call 28; with_reducible refine (cm _).mono ?_; rintro e w' ⟨rfl, rfl⟩) | (go_at_call 30; with_reducible refine (cd _).mono ?_; rintro e w' ⟨rfl, kd, rfl⟩) | (go_at_call 31; with_reducible refine (cu _).mono ?_; rintro e w' ⟨rfl, rfl⟩) | (go_at_call 32; with_reducible refine (cs _).mono ?_; rintro e w' ⟨rfl, rfl⟩))
              go_ret2
              exact ⟨ret2_int hv.out.1.symm hv.out.2.symm, _, rfl⟩
            · have hbf : sgB Q true = false := Bool.eq_false_iff.mpr hb
              have hv := Lib.hid ((HI.out Q true HS.out).2 hbf)
              rw [hbf] at cs
              clear HI HF HO1 hb hbf
              generalize sgV Q true = V at *
              generalize (Q : Int) = Qz at *
              generalize (R : Int) = Rz at *
              go_enter Try.func15, Try.ntmps15
              go_wp2_with (first | (go_at_call 29; with_reducible refine (ca _).mono ?_; rintro e w' ⟨rfl, rfl⟩) | (go_at_call 29; with_reducible refine (cb _).mono ?_; rintro e w' ⟨rfl, rfl⟩) | (go_at_call 28; with_reducible refine (cm _).mono ?_; rintro e w' ⟨rfl, rfl⟩) | (go_at_call 30; with_reducible refine (cd _).mono ?_; rintro e w' ⟨rfl, kd, rfl⟩) | (go_at_call 31; with_reducible refine (cu _).mono ?_; rintro e w' ⟨rfl, rfl⟩) | (go_at_call 32; with_reducible refine (cs _).mono ?_; rintro e w' ⟨rfl, rfl⟩))
              go_ret2
              exact ⟨ret2_int hv.out.1.symm hv.out.2.symm, _, rfl⟩
end Go.Proofs.Ytaohidaijlcplaa.q
