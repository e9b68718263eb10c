/- The walk of the law BrakeStops: any way, any loss: it returns true, and what was in memory is as it was. -/
import Derived.Test.YtjecfbcbahnjdaaBAwake
namespace Go.Proofs.Ytjecfbcbahnjdaa.brakeStops
open Go.ChangeShapes Go.WideShapes Go.ChangeAt Go.RowKit Go.Proofs.Ytjecfbcbahnjdaa.k Go.Proofs.Ytjecfbcbahnjdaa.b Go.Proofs.Ytjecfbcbahnjdaa
set_option linter.unusedVariables false

theorem los_max (dec : Int) : max 1 (min dec 1048576) = los dec := by unfold los clamp; omega
theorem wf16 {a : Int} (h : (Lit.int .u16 a).wf = true) : 0 ≤ a ∧ a ≤ 65535 := by
  simp only [Lit.wf, IntKind.min, IntKind.max, IntKind.signed, IntKind.bits, Bool.and_eq_true] at h
  simp at h
  omega
set_option maxHeartbeats 2000000 in
theorem walk (s dec less : Int) (w : World) (h0 : (Lit.int .i64 s).wf = true) (h1 : (Lit.int .i64 dec).wf = true) (h2 : (Lit.int .u16 less).wf = true) :
    Calls Try.prog 6 #[.int .i64 s, .int .i64 dec, .int .u16 less] w fun e w' => e = .returned (.bool true) ∧ Below w.heap.size w w' := by
  have i1 := wf64 h1
  have i2 := wf16 h2
  clear h0 h1 h2
  have HK := Lib.hid fun W => awake_any W
  have RD := Lib.hid fun W => dist_any s W
  have A1 := Lib.hid fun W => reach_any s dec W
  have RX := Lib.hid fun (x : Int) W => reach_any x dec W
  have hl := los_in dec
  have hs := dist_in s
  have hr := reachV_is hs.1 hl.1
  have em := los_max dec
  have HDD : Hid (∀ x, 0 ≤ x → x ≤ 2199023255552 → dist x = x) := Lib.hid fun x a b => by unfold dist clamp; omega
  generalize reachV (dist s) (los dec) = r at *
  obtain ⟨v, hv⟩ : ∃ v, max 0 (r - less) = v := ⟨_, rfl⟩
  have hv0 : 0 ≤ v := by omega
  have hv1 : v ≤ 1048576 := by have := hr.2.1; omega
  have hvr : v ≤ r ∨ v = 0 := by omega
  have hvs : v + slow v 0 (los dec) ≤ dist s := by
    rcases hvr with h | h
    · have h3 := slow_mono (v := v) (v' := r) (u := 0) (by omega) hl.1 h
      have h4 := hr.2.2.1
      omega
    · have h3 := slow_end (v := v) (u := 0) hl.1 (by omega)
      omega
  have a2 := fun W => way_any v dec W
  have a3 := fun W => cycles_any v dec W
  rw [vel_of hv0 hv1] at a2 a3
  have A2 := Lib.hid a2
  have A3 := Lib.hid a3
  have hr0 := hr.1
  have hr1 := hr.2.1
  have hbw := slow_le (u := 0) (by omega) hl.1 hv0 hv1
  have hpw := slow_pos (v := v) (u := 0) (by omega) hl.1
  have HC1 := Lib.hid (cyc_le hl.1 hv0 hv1)
  have HC0 := Lib.hid (cyc_pos hl.1 hv0)
  have HVS := Lib.hid hvs
  obtain ⟨d, hd⟩ : ∃ d, los dec = d := ⟨_, rfl⟩
  obtain ⟨S, hS⟩ : ∃ S, dist s = S := ⟨_, rfl⟩
  rw [hd] at hl em
  rw [hS] at hs
  have HSS := Lib.hid hS
  have HDL := Lib.hid hd
  rw [hd] at A2 A3 HVS HC1 HC0 hbw hpw
  rw [hS] at RD HVS
  clear a2 a3 hr hvs hvr
  clear hd hS
  have hl1 := hl.1
  have hne : ¬ d = 0 := by omega
  have hdb : (d == 0) = false := by rw [beq_eq_false_iff_ne]; exact hne
  by_cases hlong : 4000 < v / d
  · go_enter Try.func6, Try.ntmps6
    go_wp2_with (first
      | (go_at_call 8; ((with_reducible refine (HK.out _).mono ?_); rintro e v1 ⟨rfl, hb⟩; have B1 := Lib.hid hb; clear hb))
      | (go_at_call 16; ((with_reducible refine (A1.out _).mono ?_); rintro e v2 ⟨rfl, hb⟩; have B2 := Lib.hid (B1.out.trans (hb.mono B1.out.size)); clear hb)))
    go_ret
    exact ⟨rfl, B2.out⟩
  · have hsh : v / d ≤ 4000 := by omega
    clear hlong
    go_enter Try.func6, Try.ntmps6
    go_wp2_with (first
      | (go_at_call 8; ((with_reducible refine (HK.out _).mono ?_); rintro e v1 ⟨rfl, hb⟩; have B1 := Lib.hid hb; clear hb))
      | (go_at_call 16; ((with_reducible refine (A1.out _).mono ?_); rintro e v2 ⟨rfl, hb⟩; have B2 := Lib.hid (B1.out.trans (hb.mono B1.out.size)); clear hb))
      | (go_at_call 15; ((with_reducible refine (RD.out _).mono ?_); rintro e v0 ⟨rfl, rfl⟩)))
    generalize v2 = w2 at *
    go_loopw [9, 10, 11] (fun a b c wr => ∃ L n u : Int, a = .int .i64 L ∧ b = .int .i64 n ∧ c = .int .i64 u ∧ 0 ≤ u ∧ u ≤ v ∧ 0 ≤ n ∧ n + cyc u d = cyc v d ∧ u + slow u 0 d ≤ L ∧ S - L = (v + slow v 0 d) - (u + slow u 0 d) ∧ L ≤ S ∧ Below w.heap.size w wr) (fun _ _ c _ => (intOf c).toNat)
    case atStart => exact ⟨S, 0, v, rfl, rfl, rfl, hv0, Int.le_refl _, Int.le_refl _, by omega, HVS.out, by omega, Int.le_refl _, B2.out⟩
    case round =>
      clear B2
      obtain ⟨L, n, u, rfl, rfl, rfl, hu0, huv, hn0, hcy, hle, heq, hLS, hb⟩ := hrel
      have HB := Lib.hid hb
      have hp := slow_pos (v := u) (u := 0) (by omega) hl1
      have hL0 : 0 ≤ L := by omega
      clear hb
      by_cases hlt : 0 < u
      · have a4 := fun W => RX.out L W
        rw [HDD.out L hL0 (by omega), HDL.out] at a4
        have hr2 := reachV_is (s := L) hL0 hl1
        have hur := reach_top hl1 hr2 (x := u) (by omega) hle
        have hnw := next_way hl1 hlt
        have hnc := next_cyc hl1 hlt
        obtain ⟨u2, hu2⟩ : ∃ u2, nextV u d = u2 := ⟨_, rfl⟩
        rw [hu2] at hnw hnc
        unfold nextV at hu2
        have hp2 := slow_pos (v := u2) (u := 0) (by omega) hl1
        have hcp := cyc_pos hl1 (show 0 ≤ u2 by omega)
        generalize reachV L d = r2 at *
        have A4 := Lib.hid a4
        have hn1 : n + 1 ≤ 1048576 := by have := HC1.out; omega
        have hu3 : 0 ≤ u2 ∧ u2 ≤ v ∧ u2 < u := by omega
        have HR : Hid (n + 1 + cyc u2 d = cyc v d ∧ u2 + slow u2 0 d ≤ L - u ∧ S - (L - u) = (v + slow v 0 d) - (u2 + slow u2 0 d)) := Lib.hid (by omega)
        clear a4 hr2 hnw hnc hcy hle heq hp2 hcp
        go_wp2_with (go_at_call 16; ((with_reducible refine (A4.out _).mono ?_); rintro e w3 ⟨rfl, hb⟩; have HB3 := Lib.hid (HB.out.trans (hb.mono HB.out.size)); clear hb))
        go_roundw
        case rel => exact ⟨L - u, n + 1, u2, rfl, rfl, rfl, hu3.1, hu3.2.1, by omega, HR.out.1, HR.out.2.1, HR.out.2.2, by omega, HB3.out⟩
        case measure => simp [intOf]; omega
      · have hz : u = 0 := by omega
        subst hz
        have hs0 := slow_end (v := 0) (u := 0) hl1 (by omega)
        have hc0 := cyc_end (x := 0) hl1 (by omega) (by omega)
        have hn : n = cyc v d := by omega
        have hq : S - L = v + slow v 0 d := by omega
        have h1 : (n == cyc v d) = true := by rw [hn]; simp
        have h2 : (S - L == v + slow v 0 d) = true := by rw [hq]; simp
        clear hs0 hc0 hn hq heq hcy hle hp
        generalize slow v 0 d = x2 at *
        generalize cyc v d = x3 at *
        go_wp2_with (first
          | (go_at_call 13; ((with_reducible refine (A3.out _).mono ?_); rintro e w3 ⟨rfl, hb⟩; have HB3 := Lib.hid (HB.out.trans (hb.mono HB.out.size)); clear hb))
          | (go_at_call 15; ((with_reducible refine (RD.out _).mono ?_); rintro e w0 ⟨rfl, rfl⟩))
          | (go_at_call 12; ((with_reducible refine (A2.out _).mono ?_); rintro e w4 ⟨rfl, hb⟩; have HB4 := Lib.hid (HB3.out.trans (hb.mono HB3.out.size)); clear hb)))
        go_ret
        exact ⟨rfl, HB4.out⟩
end Go.Proofs.Ytjecfbcbahnjdaa.brakeStops
