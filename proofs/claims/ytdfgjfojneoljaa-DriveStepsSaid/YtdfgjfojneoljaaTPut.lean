/- What servitorref03's Put answers: the frame's thirteen bytes in a block of the call's own, or nothing and 1. No condition beside the kinds' own bounds, and that the greatest word is a byte. -/
import Derived.Test.YtdfgjfojneoljaaSRef
import Derived.Test.YtdfgjfojneoljaaTMath
namespace Go.Proofs.Ytdfgjfojneoljaa.t
open Go.ChangeShapes Go.WideShapes Go.ChangeAt Go.RowKit Go.Proofs.Ytdfgjfojneoljaa.s
set_option linter.unusedVariables false

def place64 (p : Int) : Int := p % 18446744073709551616
theorem place64_in (p : Int) : 0 ≤ place64 p ∧ place64 p < 18446744073709551616 := by unfold place64; omega
theorem down64 (n : Int) (h0 : 0 ≤ n) (h1 : n < 18446744073709551616) : IntKind.u64.wrap (n.tdiv 256) = n / 256 := by
  rw [IntKind.wrap_u64, Int.tdiv_eq_ediv_of_nonneg h0]; omega

theorem put_no (sg : BitVec 8) (most seq word p : Int) (h : seq < 0 ∨ 255 < seq ∨ word < 0 ∨ most < word) (w : World) :
    Calls Try.prog 17 #[.int .u8 (v8 sg), .int .i64 most, .int .i64 seq, .int .i64 word, .int .i64 p] w fun e w' => e = .returned (.tuple #[.slice none 0 0, .int .i64 1]) ∧ w = w' := by
  by_cases h1 : seq < 0
  · go_enter Try.func17, Try.ntmps17
    go_wp2
    go_ret2
    exact ⟨rfl, rfl⟩
  · by_cases h2 : 255 < seq
    · clear h
      go_enter Try.func17, Try.ntmps17
      go_wp2
      go_ret2
      exact ⟨rfl, rfl⟩
    · by_cases h3 : word < 0
      · clear h
        go_enter Try.func17, Try.ntmps17
        go_wp2
        go_ret2
        exact ⟨rfl, rfl⟩
      · have h4 : most < word := by omega
        clear h
        go_enter Try.func17, Try.ntmps17
        go_wp2
        go_ret2
        exact ⟨rfl, rfl⟩

set_option maxHeartbeats 1000000 in
theorem put_ok (sg sq wd : BitVec 8) (most p : Int) (hm : v8 wd ≤ most) (w : World) :
    Calls Try.prog 17 #[.int .u8 (v8 sg), .int .i64 most, .int .i64 (v8 sq), .int .i64 (v8 wd), .int .i64 p] w
      fun e w' => ∃ v, e = .returned (.tuple #[v, .int .i64 0]) ∧ Own w' w.heap.size v (frameV sg sq wd (place64 p)) ∧ Below w.heap.size w w' := by
  have a1 := v8_in sq
  have a2 := v8_in wd
  have e1 : IntKind.u8.wrap (v8 sq) = v8 sq := by rw [IntKind.wrap_u8]; omega
  have e2 : IntKind.u8.wrap (v8 wd) = v8 wd := by rw [IntKind.wrap_u8]; omega
  have e3 : IntKind.u64.wrap p = place64 p := IntKind.wrap_u64 p
  have hp0 := place64_in p
  generalize place64 p = P at *
  have hp := hp0.1
  have HP := Lib.hid hp0.2
  clear hp0
  go_enter Try.func17, Try.ntmps17
  go_wp2
  go_loopw [13, 15] (fun x i wr => ∃ j : Nat, j ≤ 8 ∧ i = .int .i64 (7 - (j : Int)) ∧ x = .int .u64 (P / 256 ^ j) ∧ Arr wr (w.heap.size + 1) 8 (fun k => .int .u8 (if 8 ≤ k + j then v8 (byteAt P (7 - k)) else 0)) ∧
      Own wr w.heap.size (.slice (some ⟨w.heap.size, 0, none⟩) 3 3) [sg, sq, wd] ∧ Below w.heap.size w wr ∧ w.heap.size + 1 < wr.heap.size) (fun _ i _ => (intOf i + 1).toNat)
  case atStart =>
    refine ⟨0, Nat.zero_le _, rfl, by rw [Int.pow_zero, Int.ediv_one], fun i hi => ?_, (Own.made _ [sg, sq, wd] rfl (by simp) (Nat.le_refl _)).new _, ((Below.refl _ _).alloc (Nat.le_refl _) _).alloc (by simp) _, by simp⟩
    have : i = 0 ∨ i = 1 ∨ i = 2 ∨ i = 3 ∨ i = 4 ∨ i = 5 ∨ i = 6 ∨ i = 7 := by omega
    rcases this with rfl | rfl | rfl | rfl | rfl | rfl | rfl | rfl <;> simp [go_sem]
  case round =>
    obtain ⟨j, hj, rfl, rfl, hC, hO, hb, hz⟩ := hrel
    have HC := Lib.hid hC
    have HO := Lib.hid hO
    have HB := Lib.hid hb
    have HZ := Lib.hid hz
    by_cases h8 : j < 8
    · have hq := (byteAt_val P j).symm
      have HU := Lib.hid (byte_up P j)
      have hpj : 0 ≤ P / 256 ^ j := Int.ediv_nonneg hp (Int.pow_nonneg (by omega))
      have e7 : ((7 : Int) - (j : Int)).toNat = 7 - j := by omega
      have ⟨c1, c2⟩ := hC (7 - j) (by omega)
      clear hC hO hb hz
      have HD : Hid (IntKind.u64.wrap ((P / 256 ^ j).tdiv 256) = P / 256 ^ j / 256) := Lib.hid (down64 _ hpj (Int.lt_of_le_of_lt (Int.ediv_le_self _ hp) HP.out))
      generalize P / 256 ^ j = Pj at *
      have hbj := v8_in (byteAt P j)
      have HE : Hid ((7 : Int) - (j : Int) - 1 = 7 - ((j + 1 : Nat) : Int)) := Lib.hid (by omega)
      go_wp2
      go_roundw
      case rel =>
        obtain ⟨w2, e, h1, h2, h3⟩ := HC.out.put (7 - j) (by omega) (.int .u8 (v8 (byteAt P j)))
        refine ⟨j + 1, by omega, by rw [HE.out], by rw [HD.out, HU.out], ?_, ?_, ?_, ?_⟩
        · rw [e]
          refine h1.cong fun i hi => ?_
          by_cases e1 : i = 7 - j
          · rw [if_pos e1, if_pos (by omega), show 7 - i = j by omega]
          · rw [if_neg e1]
            by_cases e2 : 8 ≤ i + j
            · rw [if_pos e2, if_pos (by omega)]
            · rw [if_neg e2, if_neg (by omega)]
        · rw [e]; exact HO.out.below h3 (.inr (by simp [Value.ownBlock]))
        · rw [e]; exact HB.out.trans (h2 _ (by omega))
        · rw [e]; exact Nat.lt_of_lt_of_le HZ.out h3.size
      case measure => simp [intOf]; omega
    · have : j = 8 := by omega
      subst this
      have HS : Hid (Bytes wr (w.heap.size + 2) (some ⟨w.heap.size + 1, 0, none⟩) (be8 P)) := Lib.hid (hC.bytes (be8 P) (Nat.le_refl _) (fun i hi => by
        have hi8 : i < 8 := hi
        rw [if_pos (by omega), be8_getD P i hi8]) (by omega))
      clear hC hO hb hz HC h8 hj
      go_wp2_with (first
        | (at_builtin; refine wpList_append_bytes _ rfl (.tmp 51) (.tmp 52) rfl w.heap.size _ [sg, sq, wd] rfl HO.out (w.heap.size + 2) (some ⟨w.heap.size + 1, 0, none⟩) 8 8 (be8 P) rfl rfl HS.out (by intro h; cases h) (by simp [be8]) HB.out.size ?_; intro v2 w2 hown2 hg2 hat2; have HO2 := Lib.hid hown2; have HB2 := Lib.hid (HO.out.lays HB.out (Nat.le_refl _) (Nat.le_refl _) hg2); clear hown2 hg2 hat2)
        | fail)
      have HO2' : Hid (Own w2 w.heap.size v2 (body sg sq wd P)) := Lib.hid HO2.out
      obtain ⟨K, hK⟩ : ∃ K, body sg sq wd P = K := ⟨_, rfl⟩
      have HK := Lib.hid hK
      have hl : K.length = 11 := by rw [← hK, body_length]
      rw [hK] at HO2'
      obtain ⟨A2, c2, rfl, hB2, hc2, hm2, hX2⟩ := HO2'.out.form
      have HB2' := Lib.hid hB2
      rw [hl] at HO2' ⊢
      have HL := Lib.hid hl
      have HL2 : Hid (K.length ≤ 10000) := Lib.hid (by omega)
      have hs := v16_in (goV first K)
      have h1 := (hi_val (goV first K)).symm
      have h2 := (lo_val (goV first K)).symm
      have b1 := v8_in (hi (goV first K))
      have b2 := v8_in (lo (goV first K))
      clear hK hl HO2 hB2 hc2 hm2 hX2
      go_wp2_with (first
        | (go_at_call 37; ((with_reducible refine (refof_n HL.out HL2.out HB2'.out (Nat.le_refl _) _).mono ?_); rintro e w3 ⟨rfl, hb3⟩; have HO3 := Lib.hid (HO2'.out.stay hb3); have HB3 := Lib.hid (HB2.out.trans (hb3.mono HB2.out.size)); clear hb3))
        | (at_builtin; refine wpList_append_bytes _ rfl (.tmp 56) (.tmp 63) rfl w.heap.size _ K rfl (HO3.out.new _) (w3.heap.size + 1) (some ⟨w3.heap.size, 0, none⟩) 2 2 [hi (goV first K), lo (goV first K)] rfl rfl (pair_bytes w3 _ _ _) (by intro h; cases h) (by have := HL.out; simp; omega) (Nat.le_trans HB3.out.size (by simp)) ?_; intro v4 w4 hown4 hg4 hat4; have HO4 := Lib.hid hown4; have HB4 := Lib.hid ((HO3.out.new _).lays (HB3.out.alloc HB3.out.size _) (Nat.le_refl _) (Nat.le_refl _) hg4); clear hown4 hg4 hat4))
      go_ret2
      exact ⟨v4, rfl, by unfold frameV; rw [HK.out]; exact HO4.out, HB4.out⟩
end Go.Proofs.Ytdfgjfojneoljaa.t
