/- What servitorref03's Read answers, of any bytes; what was in memory is as it was. No condition but that the bytes are read where they lie. -/
import Derived.Test.YtdfgjfojneoljaaSRef
import Derived.Test.YtdfgjfojneoljaaTMath
namespace Go.Proofs.Ytdfgjfojneoljaa.t
open Go.ChangeShapes Go.WideShapes Go.ChangeAt Go.RowKit Go.Proofs.Ytdfgjfojneoljaa.s
set_option linter.unusedVariables false

def RPost (sg : BitVec 8) (most : Int) (l : List (BitVec 8)) (W : World) (e : Ending) (w' : World) : Prop :=
  e = .returned (.tuple #[.int .i64 (rS sg most l), .int .i64 (rW sg most l), .int .i64 (rP sg most l), .int .i64 (rE sg most l)]) ∧ Below W.heap.size W w'
theorem rpost_no {sg : BitVec 8} {most E : Int} {l : List (BitVec 8)} {W w' : World} (h : rE sg most l = E) (hE : E ≠ 0) (hb : Below W.heap.size W w') : RPost sg most l W (.returned (.tuple #[.int .i64 0, .int .i64 0, .int .i64 0, .int .i64 E])) w' := by
  obtain ⟨a, b, c⟩ := r_no (sign := sg) (most := most) (l := l) (by rw [h]; exact hE)
  exact ⟨by rw [a, b, c, h], hb⟩
theorem fits_yes {a b : Int} (h : a = b) : (a != b) = false ∧ (a == b) = true := by subst h; simp
theorem fits_no {a b : Int} (h : ¬ a = b) : (a != b) = true ∧ (a == b) = false := by rw [bne_iff_ne, beq_eq_false_iff_ne]; exact ⟨h, h⟩
theorem at_getD (l : List (BitVec 8)) (k : Nat) (hl : l.length = 13) (hk : k < 8) : (l.drop 3).take (k + 1) = (l.drop 3).take k ++ [l.getD (3 + k) 0] := by
  rw [take_snocD _ k (by rw [List.length_drop]; omega)]
  congr 2
  simp [List.getD_eq_getElem?_getD, List.getElem?_drop]
theorem be_room (l : List (BitVec 8)) (h : l.length ≤ 7) : 0 ≤ be l ∧ be l ≤ 72057594037927935 := by
  have ⟨a, b⟩ := be_in l
  have e : (256 : Int) ^ l.length = ((256 ^ l.length : Nat) : Int) := by rw [Int.natCast_pow]; rfl
  have : 256 ^ l.length ≤ 256 ^ 7 := Nat.pow_le_pow_right (by omega) h
  omega
theorem wrapI (n : Int) (h0 : -1000000 ≤ n) (h1 : n ≤ 1000000) : IntKind.i64.wrap n = n := by rw [IntKind.wrap_i64]; omega
theorem wrap_in (n : Int) (h0 : 0 ≤ n) (h1 : n ≤ 18446744073709551615) : IntKind.u64.wrap n = n := by rw [IntKind.wrap_u64]; omega

set_option maxHeartbeats 1000000 in
theorem read_any (sg : BitVec 8) (most : Int) (l : List (BitVec 8)) (n : Nat) (hn : l.length = n) (hl : l.length ≤ 10000) (B : Nat) (A : Option Addr) (cap : Nat) (hcap : n ≤ cap) (hmax : cap ≤ maxLen) (W : World) (h : Bytes W B A l) (hB : B ≤ W.heap.size) :
    Calls Try.prog 18 #[.int .u8 (v8 sg), .int .i64 most, .slice A n cap] W (RPost sg most l W) := by
  unfold maxLen at hmax
  by_cases h1 : n < 13
  · have HE := Lib.hid (rE_short (sign := sg) (most := most) (l := l) (by omega))
    clear hn hl h
    go_enter Try.func18, Try.ntmps18
    go_wp2
    exact bodyPost_ret (v := .tuple #[.int .i64 0, .int .i64 0, .int .i64 0, .int .i64 4]) (by simp [results, Try.results18, go_sem]) rfl (rpost_no HE.out (by decide) (Below.refl _ _))
  · by_cases h2 : 13 < n
    · have HE := Lib.hid (rE_long (sign := sg) (most := most) (l := l) (by omega))
      clear hn hl h
      go_enter Try.func18, Try.ntmps18
      go_wp2
      exact bodyPost_ret (v := .tuple #[.int .i64 0, .int .i64 0, .int .i64 0, .int .i64 13]) (by simp [results, Try.results18, go_sem]) rfl (rpost_no HE.out (by decide) (Below.refl _ _))
    · have h13 : n = 13 := by omega
      subst h13
      obtain ⟨b, o, rfl, hb, hc⟩ := h (by omega)
      have HA := Lib.hid ((h.take 11).more hB)
      have HN := Lib.hid hn
      have HC : Hid (∀ i, i < 13 → W.cell? ⟨b, o + i, none⟩ = some (.int .u8 (v8 (l.getD i 0)))) := Lib.hid fun i hi => hc i (by omega)
      have n11 : Hid ((l.take 11).length = 11) := Lib.hid (by rw [List.length_take]; omega)
      have m11 : Hid ((l.take 11).length ≤ 10000) := Lib.hid (by rw [List.length_take]; omega)
      have c11 := HC.out 11 (by omega)
      have c12 := HC.out 12 (by omega)
      have r11 := v8_in (l.getD 11 0)
      have r12 := v8_in (l.getD 12 0)
      have hbW : b < W.heap.size := by omega
      have hcapI : (11 : Int) ≤ (cap : Int) := by omega
      have hcapN : 11 ≤ cap := by omega
      have HR : Hid (∀ E, rE sg most l = E → E ≠ 0 → ∀ w', Below W.heap.size W w' → RPost sg most l W (.returned (.tuple #[.int .i64 0, .int .i64 0, .int .i64 0, .int .i64 E])) w') := Lib.hid fun E h hE w' hb => rpost_no h hE hb
      by_cases hF : Fits l
      · have hT := fits_yes (show v16 (goV first (l.take 11)) = v8 (l.getD 11 0) * 256 + v8 (l.getD 12 0) from hF)
        have HG := Lib.hid hF
        clear hl h hc hF
        have HC' : Hid (∀ w2, Below W.heap.size W w2 → ∀ i, i < 13 → w2.cell? ⟨b, o + i, none⟩ = some (.int .u8 (v8 (l.getD i 0)))) := Lib.hid fun w2 hb i hi => (hb.cell (p := ⟨b, o + i, none⟩) hbW).trans (HC.out i hi)
        generalize l.getD 11 0 = x11 at c11 r11 hT
        generalize l.getD 12 0 = x12 at c12 r12 hT
        have HN := Lib.hid hn
        clear hn
        have w1 := wrapI (v8 x11) (by omega) (by omega)
        have w2' := wrapI (v8 x12) (by omega) (by omega)
        have w3 := wrapI (v8 x11 * 256) (by omega) (by omega)
        have w4 := wrapI (v8 x11 * 256 + v8 x12) (by omega) (by omega)
        have ⟨hT1, hT2⟩ := hT
        clear hT
        go_enter Try.func18, Try.ntmps18
        go_upto_region 5 with (fail)
        go_region_held3 (fun w' => w'.cell? ⟨b, o + 11, none⟩ = some (.int .u8 (v8 x11)) ∧ w'.cell? ⟨b, o + 12, none⟩ = some (.int .u8 (v8 x12)))
          (go_keep)
          ((go_at_call 37; refine (refof_n n11.out m11.out (W := W.drew) HA.out (Nat.le_refl _) _).mono ?_; rintro e w2 ⟨rfl, hb2⟩; have k11 := (hb2.cell (p := ⟨b, o + 11, none⟩) hbW).trans c11; have k12 := (hb2.cell (p := ⟨b, o + 12, none⟩) hbW).trans c12))
        clear w1 w2' w3 w4
        have HB2 : Hid (Below W.heap.size W w2) := Lib.hid ((Below.refl W.heap.size W).drew.trans hb2)
        clear hb2 k11 k12 c11 c12
        have HC2 := Lib.hid (HC'.out w2 HB2.out)
        clear HC' HC
        have d0 := HC2.out 0 (by omega)
        have d1 := HC2.out 1 (by omega)
        have d2 := HC2.out 2 (by omega)
        simp only [Nat.add_zero] at d0
        by_cases hform : l.getD 0 0 ≠ sg ∨ most < v8 (l.getD 2 0)
        · have HE := Lib.hid (rE_form (sign := sg) (most := most) (l := l) HN.out HG.out hform)
          by_cases h0 : l.getD 0 0 = sg
          · have t0 : (v8 (l.getD 0 0) != v8 sg) = false ∧ (v8 (l.getD 0 0) == v8 sg) = true := fits_yes (by rw [h0])
            have t2 : most < v8 (l.getD 2 0) := by
              rcases hform with h | h
              · exact absurd h0 h
              · exact h
            clear hform h0
            generalize l.getD 0 0 = x0 at d0 t0
            generalize l.getD 2 0 = x2 at d2 t2
            have q2 := v8_in x2
            have ⟨t01, t02⟩ := t0
            clear t0
            go_wp2
            exact bodyPost_ret (v := .tuple #[.int .i64 0, .int .i64 0, .int .i64 0, .int .i64 5]) (by simp [results, Try.results18, go_sem]) rfl (HR.out 5 HE.out (by decide) _ HB2.out)
          · have t0 : (v8 (l.getD 0 0) != v8 sg) = true ∧ (v8 (l.getD 0 0) == v8 sg) = false := fits_no fun e => h0 (v8_inj e)
            clear hform h0
            generalize l.getD 0 0 = x0 at d0 t0
            have ⟨t01, t02⟩ := t0
            clear t0
            go_wp2
            exact bodyPost_ret (v := .tuple #[.int .i64 0, .int .i64 0, .int .i64 0, .int .i64 5]) (by simp [results, Try.results18, go_sem]) rfl (HR.out 5 HE.out (by decide) _ HB2.out)
        · have HE := Lib.hid (rE_ok (sign := sg) (most := most) (l := l) HN.out HG.out hform)
          have HV := Lib.hid (r_yes HE.out)
          have t0 : (v8 (l.getD 0 0) != v8 sg) = false ∧ (v8 (l.getD 0 0) == v8 sg) = true := fits_yes (by have : l.getD 0 0 = sg := Classical.byContradiction fun e => hform (.inl e); rw [this])
          have t2 : v8 (l.getD 2 0) ≤ most := by
            have : ¬ most < v8 (l.getD 2 0) := fun e => hform (.inr e)
            omega
          clear hform
          have HW1 : Hid (rS sg most l = v8 (l.getD 1 0) ∧ rW sg most l = v8 (l.getD 2 0)) := Lib.hid ⟨HV.out.1, HV.out.2.1⟩
          generalize l.getD 0 0 = x0 at d0 t0
          generalize l.getD 2 0 = x2 at d2 t2 HW1
          generalize l.getD 1 0 = x1 at d1 HW1
          have q2 := v8_in x2
          have q1 := v8_in x1
          have ⟨t01, t02⟩ := t0
          clear t0
          go_wp2
          go_loop [10, 11] (fun x i => ∃ k : Nat, k ≤ 8 ∧ i = .int .i64 (3 + (k : Int)) ∧ x = .int .u64 (be ((l.drop 3).take k))) (fun _ i => (11 - intOf i).toNat)
          case atStart => exact ⟨0, Nat.zero_le _, rfl, rfl⟩
          case round =>
            obtain ⟨k, hk, rfl, rfl⟩ := hrel
            by_cases h8 : k < 8
            · have HK := Lib.hid (show be ((l.drop 3).take (k + 1)) = be ((l.drop 3).take k) * 256 + v8 (l.getD (3 + k) 0) by rw [at_getD l k HN.out h8, be_snoc])
              have hbe := be_room ((l.drop 3).take k) (by rw [List.length_take]; omega)
              have dk := HC2.out (3 + k) (by omega)
              generalize be ((l.drop 3).take k) = N at *
              generalize l.getD (3 + k) 0 = c at *
              have qc := v8_in c
              have y1 := wrap_in (N * 256) (by omega) (by omega)
              have y2 := wrap_in (N * 256 + v8 c) (by omega) (by omega)
              have y3 := wrap_in (v8 c) (by omega) (by omega)
              have y4 : ((3 : Int) + (k : Int)).toNat = 3 + k := by omega
              go_wp2
              go_round
              case rel => exact ⟨k + 1, by omega, congrArg (Value.int .i64) (by omega), by rw [HK.out]⟩
              case measure => simp [intOf]; omega
            · have : k = 8 := by omega
              subst this
              have hbe := be_in ((l.drop 3).take 8)
              have HP := Lib.hid HV.out.2.2
              have y1 : ((3 : Int) + ((8 : Nat) : Int)) = 11 := rfl
              generalize be ((l.drop 3).take 8) = N at *
              go_wp2
              go_quiet (fail)
              go_wp2
              refine bodyPost_ret (v := .tuple #[.int .i64 (v8 x1), .int .i64 (v8 x2), .int .i64 (wrap64 N), .int .i64 0]) (by simp [results, Try.results18, go_sem]) rfl ?_
              exact ⟨by rw [HW1.out.1, HW1.out.2, HP.out, HE.out], below_drewN HB2.out _⟩
      · have hT := fits_no (show ¬ v16 (goV first (l.take 11)) = v8 (l.getD 11 0) * 256 + v8 (l.getD 12 0) from hF)
        have HE := Lib.hid (rE_sum (sign := sg) (most := most) (l := l) hn hF)
        clear hn hl h hc hF
        generalize l.getD 11 0 = x11 at *
        generalize l.getD 12 0 = x12 at *
        have w1 := wrapI (v8 x11) (by omega) (by omega)
        have w2' := wrapI (v8 x12) (by omega) (by omega)
        have w3 := wrapI (v8 x11 * 256) (by omega) (by omega)
        have w4 := wrapI (v8 x11 * 256 + v8 x12) (by omega) (by omega)
        have ⟨hT1, hT2⟩ := hT
        clear hT
        go_enter Try.func18, Try.ntmps18
        go_upto_region 5 with (fail)
        go_region_held3 (fun w' => w'.cell? ⟨b, o + 11, none⟩ = some (.int .u8 (v8 x11)) ∧ w'.cell? ⟨b, o + 12, none⟩ = some (.int .u8 (v8 x12)))
          (go_keep)
          ((go_at_call 37; refine (refof_n n11.out m11.out (W := W.drew) HA.out (Nat.le_refl _) _).mono ?_; rintro e w2 ⟨rfl, hb2⟩; have k11 := (hb2.cell (p := ⟨b, o + 11, none⟩) hbW).trans c11; have k12 := (hb2.cell (p := ⟨b, o + 12, none⟩) hbW).trans c12))
        clear w1 w2' w3 w4
        have HB2 : Hid (Below W.heap.size W w2) := Lib.hid ((Below.refl W.heap.size W).drew.trans hb2)
        clear hb2 k11 k12
        go_wp2
        exact bodyPost_ret (v := .tuple #[.int .i64 0, .int .i64 0, .int .i64 0, .int .i64 6]) (by simp [results, Try.results18, go_sem]) rfl (HR.out 6 HE.out (by decide) _ HB2.out)
end Go.Proofs.Ytdfgjfojneoljaa.t
