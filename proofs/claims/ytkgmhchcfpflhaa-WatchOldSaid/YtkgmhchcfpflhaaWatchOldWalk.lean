/- The walk of the law WatchOld: any limit, any first number and any numbers: it returns true, and what was in memory is as it was. -/
import Derived.Test.YtkgmhchcfpflhaaURows
namespace Go.Proofs.Ytkgmhchcfpflhaa.watchOld
open Go.ChangeShapes Go.WideShapes Go.ChangeAt Go.RowKit Go.Proofs.Ytkgmhchcfpflhaa.s Go.Proofs.Ytkgmhchcfpflhaa.t Go.Proofs.Ytkgmhchcfpflhaa.u Go.Proofs.Ytkgmhchcfpflhaa
set_option linter.unusedVariables false

set_option maxRecDepth 100000 in
set_option maxHeartbeats 4000000 in
theorem walk (a0 a1 : Int) (a2 : Option Addr) (len2 cap2 : Nat) (z2 : List Int) (w : World) (w0 : (Lit.int .i64 a0).wf = true) (w1 : (Lit.int .i64 a1).wf = true) (w2 : IsRow .u8 w a2 len2 cap2 z2) :
    Calls Try.prog 5 #[.int .i64 a0, .int .i64 a1, .slice a2 len2 cap2] w fun e w' => e = .returned (.bool true) ∧ Below w.heap.size w w' := by
  obtain ⟨l, hln, hBy, hcap, hmax, _, _⟩ := bytes_of w2
  have HBY := Lib.hid hBy
  have HLN := Lib.hid hln
  have hi0 := wf64 w0
  have hi1 := wf64 w1
  unfold maxLen at hmax
  clear w0 w1 w2 hBy hln
  have HK := Lib.hid fun W => awake_any W
  by_cases hl : 1 ≤ a0 ∧ a0 ≤ 100
  · obtain ⟨l1, l2⟩ := hl
    have HN := Lib.hid fun W => new_yes a0 l1 l2 W
    by_cases hf : 0 ≤ a1 ∧ a1 ≤ 255
    · obtain ⟨f1, f2⟩ := hf
      obtain ⟨sq, hsq⟩ : ∃ sq : BitVec 8, v8 sq = a1 := ⟨BitVec.ofInt 8 a1, v8_of a1 f1 f2⟩
      have p1 := fun W => ref_put_yes signF sq 1 127 0 (by decide) W
      rw [signF_val, hsq, show v8 1 = 1 from rfl] at p1
      have HP := Lib.hid p1
      have hr := read_back signF sq 1 127 0 (by decide) (by decide) (by decide)
      rw [hsq, show v8 1 = 1 from rfl] at hr
      have C1 := Lib.hid (come_yes a0 0 (-1) ⟨l1, l2, by omega, by omega, by omega, by omega⟩ (frameV signF sq 1 (place64 0)) ⟨hr.1, .inl rfl⟩ a1 1 0 hr.2.1 hr.2.2.1 hr.2.2.2 13 (frame_length _ _ _ _) (by rw [frame_length]; decide))
      clear p1 hr hsq
      go_enter Try.func5, Try.ntmps5
      go_wp2_with (first
        | (go_at_call 6; ((with_reducible refine (HK.out _).mono ?_); rintro e w2 ⟨rfl, hb⟩; have HB2 := Lib.hid hb; clear hb))
        | (go_at_call 7; ((with_reducible refine (HN.out _).mono ?_); rintro e w3 ⟨rfl, hb⟩; have HB3 := Lib.hid (HB2.out.trans (hb.mono HB2.out.size)); clear hb))
        | (go_at_call 13; ((with_reducible refine (HP.out _).mono ?_); rintro e w4 ⟨A4, cap4, rfl, hB4, hca, hma, hb⟩; have ⟨x0, y0⟩ := new_cell hb 0; have ⟨x1, y1⟩ := new_cell hb 1; have ⟨x2, y2⟩ := new_cell hb 2; simp only [List.getElem?_toArray, List.getElem?_cons_zero, List.getElem?_cons_succ] at x0 x1 x2; have hz4 : w3.heap.size < w4.heap.size := (Nat.lt_of_lt_of_le (by simp) hb.size); have HB4 := Lib.hid ((HB3.out.alloc HB3.out.size _).trans (hb.mono (Nat.le_trans HB3.out.size (by simp)))); have BY4 := Lib.hid hB4; have CA4 := Lib.hid (And.intro hca hma); clear hb hB4 hca hma))
        | (go_at_call 8; ((with_reducible refine (C1.out _ A4 cap4 CA4.out.1 CA4.out.2 w4 BY4.out (Nat.le_refl _)).mono ?_); rintro e w5 ⟨rfl, hb⟩; have X5 := Lib.hid ((show Box3 w4 w3.heap.size a0 0 (-1) from ⟨x0, x1, x2, y0, y1, y2⟩).below hb hz4); clear x0 x1 x2 y0 y1 y2; obtain ⟨x0, x1, x2, y0, y1, y2⟩ := X5.out; have hz5 := hb.size; have HB5 := Lib.hid (HB4.out.trans (hb.mono HB4.out.size)); have q5 : w3.heap.size < w5.heap.size := (by omega); clear hb)))
      have hg : w.heap.size ≤ w3.heap.size := HB3.out.size
      obtain ⟨W6, e6, hx6, hs6, hb6⟩ := X5.out.put a0 0 a1
      rw [e6]
      have H0 : ∀ o, Box3 (W6.alloc o) w3.heap.size a0 0 a1 ∧ Below w.heap.size w (W6.alloc o) ∧ w3.heap.size < (W6.alloc o).heap.size := fun o =>
        ⟨hx6.below ((Below.refl W6.heap.size W6).alloc (Nat.le_refl _) o) (by omega), (HB5.out.trans (hb6 _ hg)).alloc (by have := HB5.out.size; omega) o, by simp; omega⟩
      have H0 := Lib.hid (H0 (.cells #[.int .i64 a1, .int .i64 1, .int .i64 0] 30))
      clear e6 hx6 hs6 hb6 x0 x1 x2 y0 y1 y2 HB2 HB4 HB5 X5 HP C1 HN HK BY4 CA4 hz4 hz5
      generalize w5.heap.size = g5 at *
      generalize w3.heap.size = g at *
      go_loopw [13] (fun i wr => ∃ (k : Nat) (mis : Int), k ≤ len2 ∧ k ≤ 300 ∧ i = .int .i64 k ∧ 0 ≤ mis ∧ mis ≤ a0 ∧ Box3 wr g a0 mis a1 ∧ Below w.heap.size w wr ∧ g < wr.heap.size) (fun i _ => len2 - (intOf i).toNat)
      case atStart => exact ⟨0, 0, Nat.zero_le _, by omega, rfl, by omega, by omega, H0.out.1, H0.out.2.1, H0.out.2.2⟩
      case round =>
        clear H0 HB3
        obtain ⟨k, mis, hk, hk3, rfl, hm0, hm1, hB, hb, hgw⟩ := hrel
        have HBx := Lib.hid hB
        have HB := Lib.hid hb
        clear hb
        by_cases hlt : k < len2
        · by_cases hlt3 : k < 300
          · obtain ⟨b, off, rfl, hbw, hc⟩ := HBY.out (by rw [HLN.out]; omega)
            have hck : wr.cell? ⟨b, off + k, none⟩ = some (.int .u8 (v8 (l.getD k 0))) := (HB.out.cell (p := ⟨b, off + k, none⟩) hbw).trans (hc k (by rw [HLN.out]; exact hlt))
            clear hc
            generalize l.getD k 0 = c at *
            have hv := v8_in c
            obtain ⟨sq2, hsq2⟩ : ∃ sq : BitVec 8, v8 sq = (a1 + 256 - v8 c % 129) % 256 := ⟨BitVec.ofInt 8 _, v8_of _ (by omega) (by omega)⟩
            have p1 := fun W => ref_put_yes signF sq2 1 127 7 (by decide) W
            rw [signF_val, hsq2, show v8 1 = 1 from rfl] at p1
            have HP := Lib.hid p1
            have hr := read_back signF sq2 1 127 7 (by decide) (by decide) (by decide)
            rw [hsq2] at hr
            have hnc : ¬ Counts a1 (frameV signF sq2 1 (place64 7)) := by
              unfold Counts Newer
              rw [hr.2.1]
              omega
            obtain ⟨m2, hm2⟩ : ∃ m2, (if mis < a0 then mis + 1 else mis) = m2 := ⟨_, rfl⟩
            have hm2r : 0 ≤ m2 ∧ m2 ≤ a0 := by rw [← hm2]; split <;> omega
            have C2 := Lib.hid (come_no a0 mis a1 m2 ⟨l1, l2, hm0, hm1, by omega, f2⟩ hm2 (frameV signF sq2 1 (place64 7)) hnc 13 (frame_length _ _ _ _) (by rw [frame_length]; decide))
            clear p1 hr hsq2 hnc hm2 hm0 hm1
            go_wp2_with (first
              | (go_at_call 13; ((with_reducible refine (HP.out _).mono ?_); rintro e w7 ⟨A7, cap7, rfl, hB7, hca, hma, hb⟩; have X7 := Lib.hid (HBx.out.below hb hgw); obtain ⟨x0, x1, x2, y0, y1, y2⟩ := X7.out; have hz7 := hb.size; have HB7 := Lib.hid (HB.out.trans (hb.mono HB.out.size)); have BY7 := Lib.hid hB7; have CA7 := Lib.hid (And.intro hca hma); clear hb hB7 hca hma))
              | (go_at_call 8; ((with_reducible refine (C2.out _ A7 cap7 CA7.out.1 CA7.out.2 w7 BY7.out (Nat.le_refl _)).mono ?_); rintro e w8 ⟨rfl, hb⟩; have X8 := Lib.hid (X7.out.below hb (Nat.lt_of_lt_of_le hgw hz7)); clear x0 x1 x2 y0 y1 y2; obtain ⟨x0, x1, x2, y0, y1, y2⟩ := X8.out; have hz8 := hb.size; have HB8 := Lib.hid (HB7.out.trans (hb.mono HB7.out.size)); have q8 : g < w8.heap.size := (by omega); have q8b : g < w8.heap.size + 1 := (by omega); have n8 : ¬ g = w8.heap.size := (by omega); have n8b : ¬ w8.heap.size = g := (by omega); have n9 : ¬ g = w8.heap.size + 1 := (by omega); have n9b : ¬ w8.heap.size + 1 = g := (by omega); clear hb)))
            go_roundw
            case rel =>
              obtain ⟨W9, e9, hx9, hs9, hb9⟩ := X8.out.put a0 m2 a1
              rw [e9]
              refine ⟨k + 1, m2, by omega, by omega, by go_num, hm2r.1, hm2r.2, ?_, ?_, by simp; omega⟩
              · exact hx9.below (((Below.refl W9.heap.size W9).alloc (Nat.le_refl _) _).alloc (by simp) _) (by omega)
              · exact (((HB8.out.trans (hb9 _ hg)).alloc (by have := HB8.out.size; omega) _).alloc (by have := HB8.out.size; simp; omega) _)
            case measure => simp [intOf]; omega
          · have : k = 300 := by omega
            subst this
            go_wp2
            go_ret
            exact ⟨rfl, HB.out⟩
        · have : k = len2 := by omega
          subst this
          go_wp2
          go_ret
          exact ⟨rfl, HB.out⟩
    · have p1 := fun W => ref_put_no signF 127 a1 1 0 (by omega) W
      rw [signF_val] at p1
      have HP := Lib.hid p1
      clear p1 hf
      go_enter Try.func5, Try.ntmps5
      go_wp2_with (first
        | (go_at_call 6; ((with_reducible refine (HK.out _).mono ?_); rintro e w2 ⟨rfl, hb⟩; have HB2 := Lib.hid hb; clear hb))
        | (go_at_call 7; ((with_reducible refine (HN.out _).mono ?_); rintro e w3 ⟨rfl, hb⟩; have HB3 := Lib.hid (HB2.out.trans (hb.mono HB2.out.size)); clear hb))
        | (go_at_call 13; ((with_reducible refine (HP.out _).mono ?_); rintro e w4 ⟨A4, cap4, rfl, hma, hb⟩; have HB4 := Lib.hid ((HB3.out.alloc HB3.out.size _).trans (hb.mono (Nat.le_trans HB3.out.size (by simp)))); clear hb)))
      go_ret
      exact ⟨rfl, HB4.out⟩
  · have HN := Lib.hid fun W => new_no a0 (by omega) W
    by_cases hf : 0 ≤ a1 ∧ a1 ≤ 255
    · obtain ⟨f1, f2⟩ := hf
      obtain ⟨sq, hsq⟩ : ∃ sq : BitVec 8, v8 sq = a1 := ⟨BitVec.ofInt 8 a1, v8_of a1 f1 f2⟩
      have p1 := fun W => ref_put_yes signF sq 1 127 0 (by decide) W
      rw [signF_val, hsq, show v8 1 = 1 from rfl] at p1
      have HP := Lib.hid p1
      clear p1 hsq
      go_enter Try.func5, Try.ntmps5
      go_wp2_with (first
        | (go_at_call 6; ((with_reducible refine (HK.out _).mono ?_); rintro e w2 ⟨rfl, hb⟩; have HB2 := Lib.hid hb; clear hb))
        | (go_at_call 7; ((with_reducible refine (HN.out _).mono ?_); rintro e w3 ⟨rfl, hb⟩; have HB3 := Lib.hid (HB2.out.trans (hb.mono HB2.out.size)); clear hb))
        | (go_at_call 13; ((with_reducible refine (HP.out _).mono ?_); rintro e w4 ⟨A4, cap4, rfl, hB4, hca, hma, hb⟩; have HB4 := Lib.hid ((HB3.out.alloc HB3.out.size _).trans (hb.mono (Nat.le_trans HB3.out.size (by simp)))); clear hb hB4 hca hma)))
      go_ret
      exact ⟨rfl, HB4.out⟩
    · have p1 := fun W => ref_put_no signF 127 a1 1 0 (by omega) W
      rw [signF_val] at p1
      have HP := Lib.hid p1
      clear p1 hf
      go_enter Try.func5, Try.ntmps5
      go_wp2_with (first
        | (go_at_call 6; ((with_reducible refine (HK.out _).mono ?_); rintro e w2 ⟨rfl, hb⟩; have HB2 := Lib.hid hb; clear hb))
        | (go_at_call 7; ((with_reducible refine (HN.out _).mono ?_); rintro e w3 ⟨rfl, hb⟩; have HB3 := Lib.hid (HB2.out.trans (hb.mono HB2.out.size)); clear hb))
        | (go_at_call 13; ((with_reducible refine (HP.out _).mono ?_); rintro e w4 ⟨A4, cap4, rfl, hma, hb⟩; have HB4 := Lib.hid ((HB3.out.alloc HB3.out.size _).trans (hb.mono (Nat.le_trans HB3.out.size (by simp)))); clear hb)))
      go_ret
      exact ⟨rfl, HB4.out⟩
end Go.Proofs.Ytkgmhchcfpflhaa.watchOld
