/- What layer frame's read answers, of any bytes; what was in memory is as it was. No condition but that the bytes are read where they lie. -/
import Derived.Test.YtdfgjfojneoljaaTNumber
namespace Go.Proofs.Ytdfgjfojneoljaa.t
open Go.ChangeShapes Go.WideShapes Go.ChangeAt Go.RowKit Go.Proofs.Ytdfgjfojneoljaa.s
set_option linter.unusedVariables false

theorem drop_bytes {w : World} {B : Nat} {b o : Nat} {l : List (BitVec 8)} (h : ∀ i, i < l.length → w.cell? ⟨b, o + i, none⟩ = some (.int .u8 (v8 (l.getD i 0)))) (hb : b < B) (k : Nat) : Bytes w B (some ⟨b, o + k, none⟩) (l.drop k) := fun hn => by
  refine ⟨b, o + k, rfl, hb, fun i hi => ?_⟩
  rw [List.length_drop] at hi
  rw [Nat.add_assoc, h (k + i) (by omega), List.getD_eq_getElem?_getD, List.getD_eq_getElem?_getD, List.getElem?_drop]
theorem number_quiet {l : List (BitVec 8)} {n B : Nat} {A : Option Addr} {W : World} {X : Int} (e : be l = X) (hn : l.length = n) (hl : n ≤ 8) (h : Bytes W B A l) (cap q : Nat) :
    Calls Try.prog 50 #[.slice A n cap] (W.drewN q) fun e w'' => e = .returned (.int .u64 X) ∧ ∃ m, w'' = W.drewN m :=
  (number_any l n hn hl A cap B (W.drewN q) (show Bytes (W.drewN q) B A l from h)).mono fun _ _ h => ⟨by rw [h.1, e], q, h.2.symm⟩
theorem number_still {l : List (BitVec 8)} {n B : Nat} {A : Option Addr} {W : World} {X : Int} (e : be l = X) (hn : l.length = n) (hl : n ≤ 8) (h : Bytes W B A l) (cap : Nat) :
    Calls Try.prog 50 #[.slice A n cap] W fun e w'' => e = .returned (.int .u64 X) ∧ w'' = W :=
  (number_any l n hn hl A cap B W h).mono fun _ _ h => ⟨by rw [h.1, e], h.2.symm⟩
/-- a region of quiet operations with a forced end, its world by a name -/
theorem still_named {id : Nat} {Q : Exit → Act → World → Prop} {a : Act} {w : World} {l : List Oper} (n : Nat) (hB : Region.lexTailB .any l.toArray n = true)
    (h : ∀ w2 : World, (∀ p, w2.cell? p = w.cell? p) → (∀ p, w2.frozen? p = w.frozen? p) → (∀ B, Below B w w2) → wpStill Try.prog l.toArray w2 (fun a' => wpList Try.prog l.toArray Q (l.drop n) a' w2) (l.take n) a) : (Code.region id l.toArray true).wp Try.prog Q a w :=
  wp_region_still_tail n (by kernel_rfl) hB (h _ (fun _ => rfl) (fun _ => rfl) (fun _ => (Below.refl _ _).drew))
theorem be_two (l : List (BitVec 8)) (h : l.length = 13) : be (l.drop 11) = v8 (l.getD 11 0) * 256 + v8 (l.getD 12 0) := by
  have e : l.drop 11 = [l.getD 11 0, l.getD 12 0] := by
    apply List.ext_getElem?
    intro i
    rw [List.getElem?_drop]
    have : i = 0 ∨ i = 1 ∨ 2 ≤ i := by omega
    rcases this with rfl | rfl | h2
    · simp [List.getD_eq_getElem?_getD, h]
    · simp [List.getD_eq_getElem?_getD, h]
    · rw [List.getElem?_eq_none (by omega), List.getElem?_eq_none (by simp; omega)]
  rw [e]
  unfold be
  simp
theorem rpost3 {sg : BitVec 8} {most E : Int} {l : List (BitVec 8)} {W w' : World} (h : rE sg most l = E) (hE : E ≠ 0) (hb : Below W.heap.size W w') : ReadPost sg most l W (.returned (.tuple #[.agg #[.int .i64 0, .int .i64 0, .int .i64 0], .int .i64 E])) w' := by
  obtain ⟨a, b, c⟩ := r_no (sign := sg) (most := most) (l := l) (by rw [h]; exact hE)
  exact ⟨by rw [a, b, c, h], hb⟩

/-- the result's box, before it is written -/
theorem zero_box (W : World) : Hid (∃ W1, W.alloc (.cells #[.int .i64 0, .int .i64 0, .int .i64 0] 75) = W1 ∧ Below W.heap.size W W1 ∧ W1.heap.size = W.heap.size + 1 ∧ ∀ i, i < 3 → W1.cell? ⟨W.heap.size, i, none⟩ = some (.int .i64 0) ∧ W1.frozen? ⟨W.heap.size, i, none⟩ = false) :=
  Lib.hid ⟨_, rfl, (Below.refl _ _).alloc (Nat.le_refl _) _, by simp, fun i hi => by
    have : i = 0 ∨ i = 1 ∨ i = 2 := by omega
    have hn := new_cell (w := W) (cs := #[.int .i64 0, .int .i64 0, .int .i64 0]) (t := 75) (Below.refl _ _) i
    rcases this with rfl | rfl | rfl <;> exact hn⟩

set_option maxHeartbeats 1000000 in
theorem prog_read_any (sg : BitVec 8) (most : Int) (l : List (BitVec 8)) (n : Nat) (hn : l.length = n) (hl : l.length ≤ 10000) (B : Nat) (A : Option Addr) (cap : Nat) (hcap : n ≤ cap) (hmax : cap ≤ maxLen) (W : World) (h : Bytes W B A l) (hB : B ≤ W.heap.size) :
    Calls Try.prog 46 #[.int .u8 (v8 sg), .int .i64 most, .slice A n cap] W (ReadPost sg most l W) := by
  unfold maxLen at hmax
  by_cases h1 : n < 13
  · have HE := Lib.hid (rE_short (sign := sg) (most := most) (l := l) (by omega))
    clear hn hl h
    go_enter Try.func46, Try.ntmps46
    go_wp2
    exact bodyPost_ret (v := .tuple #[.agg #[.int .i64 0, .int .i64 0, .int .i64 0], .int .i64 4]) (by simp [results, Try.results46, go_sem]) rfl (rpost3 HE.out (by decide) ((Below.refl _ _).alloc (Nat.le_refl _) _))
  · by_cases h2 : 13 < n
    · have HE := Lib.hid (rE_long (sign := sg) (most := most) (l := l) (by omega))
      clear hn hl h
      go_enter Try.func46, Try.ntmps46
      go_wp2
      exact bodyPost_ret (v := .tuple #[.agg #[.int .i64 0, .int .i64 0, .int .i64 0], .int .i64 13]) (by simp [results, Try.results46, go_sem]) rfl (rpost3 HE.out (by decide) ((Below.refl _ _).alloc (Nat.le_refl _) _))
    · have h13 : n = 13 := by omega
      subst h13
      obtain ⟨b, o, rfl, hb, hc⟩ := h (by omega)
      have HN := Lib.hid hn
      have hbW : b < W.heap.size := by omega
      have HA := Lib.hid (h.take 11)
      have n11 : Hid ((l.take 11).length = 11) := Lib.hid (by rw [List.length_take]; omega)
      have m11 : Hid ((l.take 11).length ≤ 10000) := Lib.hid (by rw [List.length_take]; omega)
      have HD := Lib.hid (drop_bytes hc hb 11)
      have d11 : Hid ((l.drop 11).length = 2) := Lib.hid (by rw [List.length_drop]; omega)
      have HM : Hid (Bytes W B (some ⟨b, o + 3, none⟩) ((l.drop 3).take 8)) := Lib.hid ((drop_bytes hc hb 3).take 8)
      have d3 : Hid (((l.drop 3).take 8).length = 8) := Lib.hid (by rw [List.length_take, List.length_drop]; omega)
      have HC : Hid (∀ i, i < 13 → W.cell? ⟨b, o + i, none⟩ = some (.int .u8 (v8 (l.getD i 0)))) := Lib.hid fun i hi => hc i (by omega)
      have hcapI : (13 : Int) ≤ (cap : Int) := by omega
      have hcapN : 13 ≤ cap := by omega
      have hcne : ¬ cap = 11 := by omega
      have hs := v16_in (goV first (l.take 11))
      have r11 := v8_in (l.getD 11 0)
      have r12 := v8_in (l.getD 12 0)
      obtain ⟨X, hX⟩ : ∃ X, v8 (l.getD 11 0) * 256 + v8 (l.getD 12 0) = X := ⟨_, rfl⟩
      have HX : Hid (be (l.drop 11) = X) := Lib.hid (by rw [be_two l hn, hX])
      have e4 := wrap_in (v16 (goV first (l.take 11))) (by omega) (by omega)
      by_cases hF : Fits l
      · have hT := fits_yes (show X = v16 (goV first (l.take 11)) from hX ▸ hF.symm)
        have HF := Lib.hid hF
        clear hn hl h hc hF hX
        have ⟨hT1, hT2⟩ := hT
        clear hT
        generalize hS : goV first (l.take 11) = S at *
        have HS := Lib.hid hS
        clear hS
        go_enter Try.func46, Try.ntmps46
        go_upto_region 5 with (fail)
        obtain ⟨W1, hW1, hb1, hz1, hc1⟩ := (zero_box W).out
        rw [hW1]
        have HB1 := Lib.hid hb1
        have HZ1 := Lib.hid hz1
        have HC1 := Lib.hid hc1
        have HA1 := Lib.hid (HA.out.below (hb1.mono hB))
        have HD1 := Lib.hid (HD.out.below (hb1.mono hB))
        have HM1 := Lib.hid (HM.out.below (hb1.mono hB))
        clear hW1 hb1 hz1 hc1
        go_quiet ((first | (go_at_call 50; with_reducible exact number_quiet HX.out d11.out (by omega) HD1.out _ _) | (go_at_call 49; with_reducible exact of_quiet HS.out n11.out m11.out HA1.out _ _)))
        have C0 : W1.cell? ⟨b, o, none⟩ = some (.int .u8 (v8 (l.getD 0 0))) := (HB1.out.cell (p := ⟨b, o, none⟩) hbW).trans (HC.out 0 (by omega))
        have C1 : W1.cell? ⟨b, o + 1, none⟩ = some (.int .u8 (v8 (l.getD 1 0))) := (HB1.out.cell (p := ⟨b, o + 1, none⟩) hbW).trans (HC.out 1 (by omega))
        have C2 : W1.cell? ⟨b, o + 2, none⟩ = some (.int .u8 (v8 (l.getD 2 0))) := (HB1.out.cell (p := ⟨b, o + 2, none⟩) hbW).trans (HC.out 2 (by omega))
        have ⟨D0, F0⟩ := HC1.out 0 (by omega)
        have ⟨D1, F1⟩ := HC1.out 1 (by omega)
        have ⟨D2, F2⟩ := HC1.out 2 (by omega)
        by_cases hform : l.getD 0 0 ≠ sg ∨ most < v8 (l.getD 2 0)
        · have HE := Lib.hid (rE_form (sign := sg) (most := most) (l := l) HN.out HF.out hform)
          by_cases h0 : l.getD 0 0 = sg
          · have t0 : (v8 (l.getD 0 0) != v8 sg) = false ∧ (v8 (l.getD 0 0) == v8 sg) = true := fits_yes (by rw [h0])
            have t2 : most < v8 (l.getD 2 0) := by
              rcases hform with h | h
              · exact absurd h0 h
              · exact h
            have u2 := upB_no (n := v8 (l.getD 2 0)) (g := most) (.inr t2)
            clear hform h0 t2
            generalize l.getD 0 0 = x0 at C0 t0
            generalize l.getD 2 0 = x2 at C2 u2
            have q2 := v8_in x2
            have ⟨t01, t02⟩ := t0
            clear t0
            go_wp2_with (go_at_call 47; ((with_reducible refine (up_any _ _ _).mono ?_); rintro e w' ⟨rfl, rfl⟩))
            exact bodyPost_ret (v := .tuple #[.agg #[.int .i64 0, .int .i64 0, .int .i64 0], .int .i64 5]) (by simp [results, Try.results46, go_sem, D0, D1, D2]) rfl (rpost3 HE.out (by decide) ((((below_drewN HB1.out _).setCell (Nat.le_refl _) _).setCell (Nat.le_refl _) _).setCell (Nat.le_refl _) _))
          · have t0 : (v8 (l.getD 0 0) != v8 sg) = true ∧ (v8 (l.getD 0 0) == v8 sg) = false := fits_no fun e => h0 (v8_inj e)
            clear hform h0
            generalize l.getD 0 0 = x0 at C0 t0
            have ⟨t01, t02⟩ := t0
            clear t0
            go_wp2
            exact bodyPost_ret (v := .tuple #[.agg #[.int .i64 0, .int .i64 0, .int .i64 0], .int .i64 5]) (by simp [results, Try.results46, go_sem, D0, D1, D2]) rfl (rpost3 HE.out (by decide) ((((below_drewN HB1.out _).setCell (Nat.le_refl _) _).setCell (Nat.le_refl _) _).setCell (Nat.le_refl _) _))
        · have HE := Lib.hid (rE_ok (sign := sg) (most := most) (l := l) HN.out HF.out hform)
          have HV := Lib.hid (r_yes HE.out)
          have t0 : (v8 (l.getD 0 0) != v8 sg) = false ∧ (v8 (l.getD 0 0) == v8 sg) = true := fits_yes (by have : l.getD 0 0 = sg := Classical.byContradiction fun e => hform (.inl e); rw [this])
          have t2 : v8 (l.getD 2 0) ≤ most := by
            have : ¬ most < v8 (l.getD 2 0) := fun e => hform (.inr e)
            omega
          have u2 := upB_yes (v8_in (l.getD 2 0)).1 t2
          clear hform t2
          have HW1 : Hid (rS sg most l = v8 (l.getD 1 0) ∧ rW sg most l = v8 (l.getD 2 0)) := Lib.hid ⟨HV.out.1, HV.out.2.1⟩
          have hbe := be_in ((l.drop 3).take 8)
          have HP := Lib.hid HV.out.2.2
          generalize l.getD 0 0 = x0 at C0 t0
          generalize l.getD 2 0 = x2 at C2 u2 HW1
          generalize l.getD 1 0 = x1 at C1 HW1
          have q2 := v8_in x2
          have q1 := v8_in x1
          have ⟨t01, t02⟩ := t0
          clear t0
          go_upto_region 9 with (go_at_call 47; ((with_reducible refine (up_any _ _ _).mono ?_); rintro e w' ⟨rfl, rfl⟩))
          obtain ⟨N, hN⟩ : ∃ N, be ((l.drop 3).take 8) = N := ⟨_, rfl⟩
          have HNN := Lib.hid hN
          rw [hN] at hbe
          clear hN
          have g11 : (11 : Int) ≤ (cap : Int) := by omega
          have g3 : ¬ cap = 3 := by omega
          refine still_named 13 (by kernel_rfl) ?_
          intro w2 hc2 hf2 hb2
          have hcd : ∀ p, w2.cell? p = W1.cell? p := hc2
          have hfd : ∀ p, w2.frozen? p = W1.frozen? p := hf2
          rw [← hcd] at C1 C2 D0 D1 D2
          rw [← hfd] at F0 F1 F2
          have HB2 : Hid (Below W.heap.size W w2) := Lib.hid ((below_drewN HB1.out _).trans (hb2 _))
          have HM2 := Lib.hid (HM1.out.below (((below_drewN (Below.refl B W1) _).trans (hb2 _))))
          clear hc2 hf2 hb2 hcd hfd C0
          simp only [List.take_succ_cons, List.take_zero, List.drop_succ_cons, List.drop_zero]
          repeat still_step
          still_call (number_still HNN.out d3.out (by omega) HM2.out _)
          repeat still_step
          refine wpStill_nil ?_
          go_wp2
          refine bodyPost_ret (v := .tuple #[.agg #[.int .i64 (v8 x1), .int .i64 (v8 x2), .int .i64 (wrap64 N)], .int .i64 0]) (by simp [results, Try.results46, go_sem, D0, D1, D2]) rfl ?_
          exact ⟨by rw [HW1.out.1, HW1.out.2, HP.out, HNN.out, HE.out], ((HB2.out.setCell (Nat.le_refl _) _).setCell (Nat.le_refl _) _).setCell (Nat.le_refl _) _⟩
      · have hT := fits_no (show ¬ X = v16 (goV first (l.take 11)) from fun e => hF (e.symm.trans hX.symm).symm.symm)
        have HE := Lib.hid (rE_sum (sign := sg) (most := most) (l := l) hn hF)
        clear hn hl h hc hF hX
        have ⟨hT1, hT2⟩ := hT
        clear hT
        generalize hS : goV first (l.take 11) = S at *
        have HS := Lib.hid hS
        clear hS
        go_enter Try.func46, Try.ntmps46
        go_upto_region 5 with (fail)
        obtain ⟨W1, hW1, hb1, hz1, hc1⟩ := (zero_box W).out
        rw [hW1]
        have HB1 := Lib.hid hb1
        have HC1 := Lib.hid hc1
        have HA1 := Lib.hid (HA.out.below (hb1.mono hB))
        have HD1 := Lib.hid (HD.out.below (hb1.mono hB))
        clear hW1 hb1 hz1 hc1
        go_quiet ((first | (go_at_call 50; with_reducible exact number_quiet HX.out d11.out (by omega) HD1.out _ _) | (go_at_call 49; with_reducible exact of_quiet HS.out n11.out m11.out HA1.out _ _)))
        have ⟨D0, F0⟩ := HC1.out 0 (by omega)
        have ⟨D1, F1⟩ := HC1.out 1 (by omega)
        have ⟨D2, F2⟩ := HC1.out 2 (by omega)
        go_wp2
        exact bodyPost_ret (v := .tuple #[.agg #[.int .i64 0, .int .i64 0, .int .i64 0], .int .i64 6]) (by simp [results, Try.results46, go_sem, D0, D1, D2]) rfl (rpost3 HE.out (by decide) ((((below_drewN HB1.out _).setCell (Nat.le_refl _) _).setCell (Nat.le_refl _) _).setCell (Nat.le_refl _) _))
end Go.Proofs.Ytdfgjfojneoljaa.t
