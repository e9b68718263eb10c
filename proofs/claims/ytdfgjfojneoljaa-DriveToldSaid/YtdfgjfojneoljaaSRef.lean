/- What servitorref02's Go and Of answer, for any register and any bytes: the same as layer sum's; what was in memory is as it was. No condition but that the bytes are read where they lie. -/
import Derived.Test.YtdfgjfojneoljaaSBytes
namespace Go.Proofs.Ytdfgjfojneoljaa.s
open Go.ChangeShapes Go.WideShapes Go.ChangeAt Go.RowKit
set_option linter.unusedVariables false

/-! ### Sixteen truths in a block -/
def Cells (w : World) (g : Nat) (f : Nat → Bool) : Prop := ∀ i, i < 16 → w.cell? ⟨g, i, none⟩ = some (.bool (f i)) ∧ w.frozen? ⟨g, i, none⟩ = false
theorem Cells.put {w : World} {g : Nat} {f : Nat → Bool} (h : Cells w g f) (i : Nat) (hi : i < 16) (x : Bool) :
    ∃ w2, w.setCell ⟨g, i, none⟩ (.bool x) = w2 ∧ Cells w2 g (fun k => if k = i then x else f k) ∧ (∀ B, B ≤ g → Below B w w2) := by
  refine ⟨_, rfl, fun k hk => ?_, fun B hB => (Below.refl _ _).setCell hB _⟩
  have ⟨a, b⟩ := h k hk
  have ⟨a', b'⟩ := h i hi
  by_cases e : k = i
  · subst e; simp [go_sem, a, b]
  · simp [go_sem, a, b, e]
theorem Cells.cong {w : World} {g : Nat} {f f' : Nat → Bool} (h : Cells w g f) (e : ∀ i, i < 16 → f i = f' i) : Cells w g f' := fun i hi => by rw [← e i hi]; exact h i hi
theorem Cells.drawn {w : World} {g : Nat} {f : Nat → Bool} (h : Cells w g f) (n : Nat) : Cells (w.drewN n) g f := h

theorem msb_bit (s : BitVec 16) (k : Nat) (hk : k < 16) : s.getMsbD k = decide (s.toNat / 2 ^ (15 - k) % 2 = 1) := by
  rw [BitVec.getMsbD_eq_getLsbD, show 16 - 1 - k = 15 - k by omega, ← BitVec.testBit_toNat, Nat.testBit_eq_decide_div_mod_eq]
  simp [hk]
theorem val_div (s : BitVec 16) (j : Nat) : v16 s / 2 ^ j = ((s.toNat / 2 ^ j : Nat) : Int) := by
  unfold v16; rw [Int.natCast_ediv, Int.natCast_pow]; rfl
theorem bit_of (s : BitVec 16) (k : Nat) (hk : k < 16) : ((v16 s / 2 ^ (15 - k)).tmod 2 == 1) = s.getMsbD k := by
  rw [val_div, msb_bit s k hk, Bool.eq_iff_iff, beq_iff_eq, decide_eq_true_iff]
  generalize s.toNat / 2 ^ (15 - k) = m
  rw [Int.tmod_eq_emod_of_nonneg (by omega)]
  omega
theorem bits_snoc (s : BitVec 16) (k : Nat) (hk : k < 16) : v16 s / 2 ^ (16 - (k + 1)) = v16 s / 2 ^ (16 - k) * 2 + if s.getMsbD k then 1 else 0 := by
  rw [val_div, val_div, msb_bit s k hk, show 16 - (k + 1) = 15 - k by omega, show 16 - k = 15 - k + 1 by omega, Nat.pow_succ, ← Nat.div_div_eq_div_mul]
  generalize s.toNat / 2 ^ (15 - k) = m
  by_cases h : m % 2 = 1 <;> simp [h] <;> omega
theorem bit8 (c : BitVec 8) (j : Nat) (hj : j < 8) : ((v8 c / 2 ^ (7 - j)).tmod 2 == 1) = c.getLsbD (7 - j) := by
  have e : v8 c / 2 ^ (7 - j) = ((c.toNat / 2 ^ (7 - j) : Nat) : Int) := by unfold v8; rw [Int.natCast_ediv, Int.natCast_pow]; rfl
  rw [e, ← BitVec.testBit_toNat, Nat.testBit_eq_decide_div_mod_eq, Bool.eq_iff_iff, beq_iff_eq, decide_eq_true_iff]
  generalize c.toNat / 2 ^ (7 - j) = m
  rw [Int.tmod_eq_emod_of_nonneg (by omega)]
  omega
theorem shl_msb (x : BitVec 16) (i : Nat) (hi : i < 16) : (x <<< 1).getMsbD i = if i < 15 then x.getMsbD (i + 1) else false := by
  rw [BitVec.getMsbD_shiftLeft]
  by_cases h : i < 15
  · rw [if_pos h, Nat.add_comm]
  · rw [if_neg h, show i = 15 by omega]; exact BitVec.getMsbD_of_ge _ _ (by omega)
theorem flip_msb (y : BitVec 16) (i : Nat) (hi : i < 16) : (y ^^^ 0x1021#16).getMsbD i = if i = 15 then !y.getMsbD 15 else if i = 10 then !y.getMsbD 10 else if i = 3 then !y.getMsbD 3 else y.getMsbD i := by
  have : i = 0 ∨ i = 1 ∨ i = 2 ∨ i = 3 ∨ i = 4 ∨ i = 5 ∨ i = 6 ∨ i = 7 ∨ i = 8 ∨ i = 9 ∨ i = 10 ∨ i = 11 ∨ i = 12 ∨ i = 13 ∨ i = 14 ∨ i = 15 := by omega
  rw [BitVec.getMsbD_xor]
  rcases this with rfl | rfl | rfl | rfl | rfl | rfl | rfl | rfl | rfl | rfl | rfl | rfl | rfl | rfl | rfl | rfl <;> simp [BitVec.getMsbD_eq_getLsbD]

set_option maxHeartbeats 1000000 in
theorem ref_any (s : BitVec 16) (l : List (BitVec 8)) (A : Option Addr) (cap : Nat) (w : World) (hl : l.length ≤ 10000) (h : Bytes w w.heap.size A l) :
    Calls Try.prog 44 #[.int .i64 (v16 s), .slice A l.length cap] w fun e w' => e = .returned (.int .i64 (v16 (goV s l))) ∧ Below w.heap.size w w' := by
  have hs := v16_in s
  have H := Lib.hid h
  have HL : Hid (∀ k, k < l.length → goV s (l.take (k + 1)) = byteV (goV s (l.take k)) (l.getD k 0)) := Lib.hid fun k hk => by rw [take_snocD l k hk, goV_snoc]
  have HF : Hid (goV s (l.take l.length) = goV s l) := Lib.hid (by rw [List.take_length])
  have H0 : Hid (goV s (l.take 0) = s) := Lib.hid rfl
  clear h
  obtain ⟨n, hn⟩ : ∃ n, l.length = n := ⟨_, rfl⟩
  have HN := Lib.hid hn
  rw [hn] at hl HL HF ⊢
  clear hn
  go_enter Try.func44, Try.ntmps44
  go_wp2
  go_loopw [6] (fun i wr => ∃ k : Nat, k ≤ 16 ∧ i = .int .i64 k ∧ Cells wr w.heap.size (fun j => if j < k then s.getMsbD j else false) ∧ Below w.heap.size w wr) (fun i _ => 16 - (intOf i).toNat)
  case atStart =>
    refine ⟨0, Nat.zero_le _, rfl, fun i hi => ?_, (Below.refl _ _).alloc (Nat.le_refl _) _⟩
    have : i = 0 ∨ i = 1 ∨ i = 2 ∨ i = 3 ∨ i = 4 ∨ i = 5 ∨ i = 6 ∨ i = 7 ∨ i = 8 ∨ i = 9 ∨ i = 10 ∨ i = 11 ∨ i = 12 ∨ i = 13 ∨ i = 14 ∨ i = 15 := by omega
    rcases this with rfl | rfl | rfl | rfl | rfl | rfl | rfl | rfl | rfl | rfl | rfl | rfl | rfl | rfl | rfl | rfl <;> simp [go_sem]
  case round =>
    obtain ⟨k, hk, rfl, hC, hb⟩ := hrel
    by_cases hlt : k < 16
    · have ⟨hc1, hc2⟩ := hC k hlt
      simp only [Nat.lt_irrefl, if_false] at hc1
      have HC := Lib.hid hC
      have HB := Lib.hid hb
      have hbit := bit_of s k hlt
      clear hC hb
      go_wp2
      go_roundw
      case rel =>
        obtain ⟨w2, e, h1, h2⟩ := HC.out.put k hlt (s.getMsbD k)
        refine ⟨k + 1, by omega, by go_num, ?_, ?_⟩
        · rw [e]
          refine h1.cong fun i hi => ?_
          by_cases e1 : i = k
          · subst e1; simp
          · rw [if_neg e1]
            by_cases e2 : i < k
            · rw [if_pos e2, if_pos (by omega)]
            · rw [if_neg e2, if_neg (by omega)]
        · rw [e]; exact HB.out.trans (h2 _ (Nat.le_refl _))
      case measure => simp [intOf]; omega
    · have : k = 16 := by omega
      subst this
      have HC : Hid (Cells wr w.heap.size s.getMsbD) := Lib.hid (hC.cong fun i hi => by rw [if_pos hi])
      have HB := Lib.hid hb
      clear hC hb hlt hk
      go_wp2
      go_loopw [7] (fun i wr => ∃ k : Nat, k ≤ n ∧ i = .int .i64 k ∧ Cells wr w.heap.size (goV s (l.take k)).getMsbD ∧ Below w.heap.size w wr) (fun i _ => n - (intOf i).toNat)
      case atStart => exact ⟨0, Nat.zero_le _, rfl, by rw [H0.out]; exact HC.out, HB.out⟩
      case round =>
        clear HC HB
        obtain ⟨k, hk, rfl, hC, hb⟩ := hrel
        have HC := Lib.hid hC
        have HB := Lib.hid hb
        by_cases hlt : k < n
        · obtain ⟨b, off, rfl, hB, hc⟩ := H.out (by rw [HN.out]; omega)
          have HK : Hid (b < w.heap.size ∧ w.cell? ⟨b, off + k, none⟩ = some (.int .u8 (v8 (l.getD k 0)))) := Lib.hid ⟨hB, hc k (by rw [HN.out]; omega)⟩
          have HS := Lib.hid (HL.out k (by omega))
          clear hc hC hb hB
          generalize goV s (l.take k) = x at *
          generalize l.getD k 0 = c at *
          have hv := v8_in c
          go_wp2
          go_loopw [8] (fun i wr => ∃ j : Nat, j ≤ 8 ∧ i = .int .i64 (7 - (j : Int)) ∧ Cells wr w.heap.size (turns c j x).getMsbD ∧ Below w.heap.size w wr) (fun i _ => (intOf i + 1).toNat)
          case atStart => exact ⟨0, Nat.zero_le _, rfl, HC.out, HB.out⟩
          case round =>
            clear HC HB
            obtain ⟨j, hj, rfl, hC, hb⟩ := hrel
            have HC := Lib.hid hC
            have HB := Lib.hid hb
            by_cases hj8 : j < 8
            · have HT : Hid (turns c (j + 1) x = turn (turns c j x) (c.getLsbD (7 - j))) := Lib.hid rfl
              generalize turns c j x = y at *
              have c0 := (hC 0 (by omega)).1
              have hk0 := (hb.cell (p := ⟨b, off + k, none⟩) HK.out.1).trans HK.out.2
              have hbit := bit8 c j hj8
              clear hC hb
              go_wp2
              go_quiet (fail)
              go_wp2
              clear hbit c0 hk0
              generalize hu : (!y.getMsbD 0 == c.getLsbD (7 - j)) = u
              have HU := Lib.hid hu
              clear hu
              go_loopw [10] (fun i wr => ∃ m : Nat, m ≤ 15 ∧ i = .int .i64 m ∧ Cells wr w.heap.size (fun i => if i < m then y.getMsbD (i + 1) else y.getMsbD i) ∧ Below w.heap.size w wr) (fun i _ => 15 - (intOf i).toNat)
              case atStart => exact ⟨0, Nat.zero_le _, rfl, HC.out.drawn _, below_drewN HB.out _⟩
              case round =>
                clear HC HB
                obtain ⟨m, hm, rfl, hC, hb⟩ := hrel
                have HB := Lib.hid hb
                by_cases hm15 : m < 15
                · have ⟨c1, c2⟩ := hC m (by omega)
                  have c3 : wr.cell? ⟨w.heap.size, m + 1, none⟩ = some (.bool (y.getMsbD (m + 1))) := by
                    have := (hC (m + 1) (by omega)).1
                    rw [this]
                    show some (Value.bool (if m + 1 < m then _ else _)) = _
                    rw [if_neg (by omega)]
                  simp only [Nat.lt_irrefl, if_false] at c1
                  have HC := Lib.hid hC
                  clear hC hb
                  go_wp2
                  go_roundw
                  case rel =>
                    obtain ⟨w2, e, h1, h2⟩ := HC.out.put m (by omega) (y.getMsbD (m + 1))
                    refine ⟨m + 1, by omega, by go_num, ?_, ?_⟩
                    · rw [e]
                      refine h1.cong fun i hi => ?_
                      by_cases e1 : i = m
                      · subst e1; simp
                      · rw [if_neg e1]
                        by_cases e2 : i < m
                        · rw [if_pos e2, if_pos (by omega)]
                        · rw [if_neg e2, if_neg (by omega)]
                    · rw [e]; exact HB.out.trans (h2 _ (Nat.le_refl _))
                  case measure => simp [intOf]; omega
                · have : m = 15 := by omega
                  subst this
                  have ⟨c1, c2⟩ := hC 15 (by omega)
                  simp only [Nat.lt_irrefl, if_false] at c1
                  obtain ⟨w2, e, h1, h2⟩ := hC.put 15 (by omega) false
                  have HE := Lib.hid e
                  have HC : Hid (Cells w2 w.heap.size (y <<< 1).getMsbD) := Lib.hid (h1.cong fun i hi => by
                    rw [shl_msb y i hi]
                    by_cases e1 : i = 15
                    · subst e1; rfl
                    · rw [if_neg e1, if_pos (by omega), if_pos (by omega)])
                  have HB2 := Lib.hid (hb.trans (h2 _ (Nat.le_refl _)))
                  clear hC hb e h1 h2 HB hm hm15
                  go_upto_region 18 with (fail)
                  rw [HE.out]
                  clear HE c1 c2
                  have e8 : (7 : Int) - (j : Int) - 1 = 7 - ((j + 1 : Nat) : Int) := by omega
                  have HE8 := Lib.hid e8
                  clear e8
                  cases u
                  · have HT2 : Hid (turns c (j + 1) x = y <<< 1) := Lib.hid (by
                      have e := HU.out
                      rw [HT.out]; unfold turn
                      rw [if_neg]
                      intro e2
                      exact absurd (e.symm.trans e2) (by decide))
                    clear HT HU
                    go_wp2
                    go_roundw
                    case rel => exact ⟨j + 1, by omega, by rw [HE8.out], by rw [HT2.out]; exact HC.out, HB2.out⟩
                    case measure => simp [intOf]; omega
                  · have HT2 : Hid (turns c (j + 1) x = y <<< 1 ^^^ 0x1021#16) := Lib.hid (by
                      have e := HU.out
                      rw [HT.out]; unfold turn
                      exact if_pos e)
                    clear HT HU
                    generalize y <<< 1 = z at *
                    have ⟨d1, d2⟩ := HC.out 3 (by omega)
                    have ⟨d3, d4⟩ := HC.out 10 (by omega)
                    have ⟨d5, d6⟩ := HC.out 15 (by omega)
                    go_wp2
                    go_roundw
                    case rel =>
                      obtain ⟨w3, e3, h3, b3⟩ := HC.out.put 3 (by omega) (!z.getMsbD 3)
                      obtain ⟨w4, e4, h4, b4⟩ := h3.put 10 (by omega) (!z.getMsbD 10)
                      obtain ⟨w5, e5, h5, b5⟩ := h4.put 15 (by omega) (!z.getMsbD 15)
                      refine ⟨j + 1, by omega, by rw [HE8.out], ?_, ?_⟩
                      · rw [e3, e4, e5, HT2.out]
                        exact h5.cong fun i hi => (flip_msb z i hi).symm
                      · rw [e3, e4, e5]
                        exact HB2.out.trans ((b3 _ (Nat.le_refl _)).trans ((b4 _ (Nat.le_refl _)).trans (b5 _ (Nat.le_refl _))))
                    case measure => simp [intOf]; omega
            · have : j = 8 := by omega
              subst this
              have HC2 : Hid (Cells wr w.heap.size (goV s (l.take (k + 1))).getMsbD) := Lib.hid (by rw [HS.out, ← turns_all]; exact hC)
              clear hC HC hb hj hj8
              go_wp2
              go_roundw
              case rel => exact ⟨k + 1, by omega, by go_num, HC2.out, HB.out⟩
              case measure => simp [intOf]; omega
        · have : k = n := by omega
          subst this
          obtain ⟨x, hx⟩ : ∃ x, goV s l = x := ⟨_, rfl⟩
          have HC2 : Hid (Cells wr w.heap.size x.getMsbD) := Lib.hid (by rw [← hx, ← HF.out]; exact hC)
          have HX := Lib.hid hx
          clear hC HC hb hk hlt HF HL H HN hx
          have hv := v16_in x
          go_wp2
          go_loop [11, 12] (fun r i => ∃ m : Nat, m ≤ 16 ∧ i = .int .i64 m ∧ r = .int .i64 (v16 x / 2 ^ (16 - m))) (fun _ i => 16 - (intOf i).toNat)
          case atStart => exact ⟨0, Nat.zero_le _, rfl, by congr 1; omega⟩
          case round =>
            obtain ⟨m, hm, rfl, rfl⟩ := hrel
            by_cases hm16 : m < 16
            · have HS := Lib.hid (bits_snoc x m hm16)
              have hc := (HC2.out m hm16).1
              have hp : 0 ≤ v16 x / 2 ^ (16 - m) := Int.ediv_nonneg hv.1 (Int.pow_nonneg (by omega))
              have hq : v16 x / 2 ^ (16 - m) ≤ 65535 := Int.le_trans (Int.ediv_le_self _ hv.1) hv.2
              generalize v16 x / 2 ^ (16 - m) = q at *
              cases hbm : x.getMsbD m
              · rw [hbm] at hc HS
                clear hbm
                go_wp2
                go_round
                case rel => exact ⟨m + 1, by omega, by go_num, by rw [HS.out]; congr 1; simp⟩
                case measure => simp [intOf]; omega
              · rw [hbm] at hc HS
                clear hbm
                go_wp2
                go_round
                case rel => exact ⟨m + 1, by omega, by go_num, by rw [HS.out]; congr 1⟩
                case measure => simp [intOf]; omega
            · have : m = 16 := by omega
              subst this
              have HE : Hid (v16 x / 2 ^ (16 - 16) = v16 x) := Lib.hid (by rw [Nat.sub_self, Int.pow_zero, Int.ediv_one])
              rw [HE.out]
              go_wp2
              go_ret
              exact ⟨ret_v16 HX.out.symm, HB.out⟩

theorem refof_any (l : List (BitVec 8)) (A : Option Addr) (cap : Nat) (w : World) (hl : l.length ≤ 10000) (h : Bytes w w.heap.size A l) :
    Calls Try.prog 37 #[.slice A l.length cap] w fun e w' => e = .returned (.int .i64 (v16 (goV first l))) ∧ Below w.heap.size w w' := by
  have c1 := ref_any first l A cap w hl h
  rw [first_val] at c1
  clear h
  go_enter Try.func37, Try.ntmps37
  go_wp2_with (go_at_call 44; with_reducible refine c1.mono ?_; rintro e w' ⟨rfl, hb⟩)
  go_ret
  exact ⟨rfl, hb⟩

section
variable {l : List (BitVec 8)} {n B : Nat} {A : Option Addr} {W : World}
theorem refof_n (hn : l.length = n) (hl : l.length ≤ 10000) (h : Bytes W B A l) (hB : B ≤ W.heap.size) (cap : Nat) :
    Calls Try.prog 37 #[.slice A n cap] W fun e w' => e = .returned (.int .i64 (v16 (goV first l))) ∧ Below W.heap.size W w' := by
  subst hn; exact refof_any l A cap W hl (h.more hB)
theorem ref_n (s : BitVec 16) (hn : l.length = n) (hl : l.length ≤ 10000) (h : Bytes W B A l) (hB : B ≤ W.heap.size) (cap : Nat) :
    Calls Try.prog 44 #[.int .i64 (v16 s), .slice A n cap] W fun e w' => e = .returned (.int .i64 (v16 (goV s l))) ∧ Below W.heap.size W w' := by
  subst hn; exact ref_any s l A cap W hl (h.more hB)
end
end Go.Proofs.Ytdfgjfojneoljaa.s
