/- What layer sum's throughByte, Go and Of answer, for any register and any bytes; the world stays as it was. No condition but that the bytes are read where they lie, and are no more than ten thousand. -/
import Derived.Test.YtdfgjfojneoljaaSBytes
namespace Go.Proofs.Ytdfgjfojneoljaa.s
open Go.ChangeShapes Go.WideShapes Go.ChangeAt Go.RowKit
set_option linter.unusedVariables false

set_option maxHeartbeats 400000 in
theorem byte_any (s : BitVec 16) (c : BitVec 8) (w : World) :
    Calls Try.prog 52 #[.int .u16 (v16 s), .int .u8 (v8 c)] w fun e w' => e = .returned (.int .u16 (v16 (byteV s c))) ∧ w = w' := by
  have hs := v16_in s
  have hc := v8_in c
  have hx := xor_wide s c
  go_enter Try.func52, Try.ntmps52
  go_wp2
  clear hx
  go_loop [0, 11] (fun r i => ∃ k : Nat, k ≤ 8 ∧ i = .int .i64 k ∧ r = .int .u16 (v16 (ups k (s ^^^ wide c)))) (fun _ i => 8 - (intOf i).toNat)
  case atStart => exact ⟨0, Nat.zero_le _, rfl, rfl⟩
  case round =>
    obtain ⟨k, hk, rfl, rfl⟩ := hrel
    have HE : Hid (ups (k + 1) (s ^^^ wide c) = up (ups k (s ^^^ wide c))) := Lib.hid rfl
    have HB : Hid (byteV s c = ups 8 (s ^^^ wide c)) := Lib.hid rfl
    by_cases h8 : k < 8
    · generalize ups k (s ^^^ wide c) = x at *
      have hx := v16_in x
      have hy := shl_one x
      have hm := top_mask x
      rcases Bool.eq_false_or_eq_true x.msb with e | e
      · rw [e, if_pos rfl] at hm
        have hz := xor_poly (x <<< 1)
        have HU := Lib.hid (up_yes e)
        clear e
        go_wp2
        go_round
        case rel => exact ⟨k + 1, by omega, by go_num, by rw [HE.out, HU.out]⟩
        case measure => simp [intOf]; omega
      · rw [e] at hm
        simp only [Bool.false_eq_true, if_false] at hm
        have HU := Lib.hid (up_no e)
        clear e
        go_wp2
        go_round
        case rel => exact ⟨k + 1, by omega, by go_num, by rw [HE.out, HU.out]⟩
        case measure => simp [intOf]; omega
    · have : k = 8 := by omega
      subst this
      clear HE
      go_wp2
      go_ret
      exact ⟨ret_v16 HB.out.symm, rfl⟩

set_option maxHeartbeats 400000 in
theorem go_any (s : BitVec 16) (l : List (BitVec 8)) (A : Option Addr) (cap B : Nat) (w : World) (hl : l.length ≤ 10000) (h : Bytes w B A l) :
    Calls Try.prog 51 #[.int .u16 (v16 s), .slice A l.length cap] w fun e w' => e = .returned (.int .u16 (v16 (goV s l))) ∧ w = w' := by
  have HL : Hid (∀ k, k < l.length → goV s (l.take (k + 1)) = byteV (goV s (l.take k)) (l.getD k 0)) := Lib.hid fun k hk => by rw [take_snocD l k hk, goV_snoc]
  have HF : Hid (goV s (l.take l.length) = goV s l) := Lib.hid (by rw [List.take_length])
  have H0 : Hid (goV s (l.take 0) = s) := Lib.hid rfl
  have H : Hid (0 < l.length → ∃ b off, A = some ⟨b, off, none⟩ ∧ b < B ∧ ∀ i, i < l.length → w.cell? ⟨b, off + i, none⟩ = some (.int .u8 (v8 (l.getD i 0)))) := Lib.hid h
  clear h
  generalize hn : l.length = n at *
  clear hn
  go_enter Try.func51, Try.ntmps51
  go_wp2
  go_loop [0, 9] (fun r i => ∃ k : Nat, k ≤ n ∧ i = .int .i64 k ∧ r = .int .u16 (v16 (goV s (l.take k)))) (fun _ i => n - (intOf i).toNat)
  case atStart => exact ⟨0, Nat.zero_le _, rfl, by rw [H0.out]⟩
  case round =>
    obtain ⟨k, hk, rfl, rfl⟩ := hrel
    by_cases hlt : k < n
    · obtain ⟨b, off, rfl, hB, hc⟩ := H.out (by omega)
      have hk := hc k (by omega)
      have HS := Lib.hid (HL.out k (by omega))
      clear hc
      generalize l.getD k 0 = c at *
      generalize goV s (l.take k) = x at *
      go_wp2_with (go_at_call 52; with_reducible refine (byte_any _ _ _).mono ?_; rintro e w' ⟨rfl, rfl⟩)
      go_round
      case rel => exact ⟨k + 1, by omega, by go_num, by rw [HS.out]⟩
      case measure => simp [intOf]; omega
    · have : k = n := by omega
      subst this
      go_wp2
      go_ret
      exact ⟨ret_v16 HF.out, rfl⟩
theorem of_any (l : List (BitVec 8)) (A : Option Addr) (cap B : Nat) (w : World) (hl : l.length ≤ 10000) (h : Bytes w B A l) :
    Calls Try.prog 49 #[.slice A l.length cap] w fun e w' => e = .returned (.int .u16 (v16 (goV first l))) ∧ w = w' := by
  have c1 := go_any first l A cap B w hl h
  rw [first_val] at c1
  clear h
  go_enter Try.func49, Try.ntmps49
  go_wp2_with (go_at_call 51; with_reducible refine c1.mono ?_; rintro e w' ⟨rfl, rfl⟩)
  go_ret
  exact ⟨rfl, rfl⟩


/-! ### The contracts, the bytes' number by a name, the bytes read in a world before -/
section
variable {l : List (BitVec 8)} {n B : Nat} {A : Option Addr} {W : World}
theorem of_n (hn : l.length = n) (hl : l.length ≤ 10000) (h : Bytes W B A l) (cap : Nat) :
    Calls Try.prog 49 #[.slice A n cap] W fun e w' => e = .returned (.int .u16 (v16 (goV first l))) ∧ W = w' := by
  subst hn; exact of_any l A cap B W hl h
theorem go_n (s : BitVec 16) (hn : l.length = n) (hl : l.length ≤ 10000) (h : Bytes W B A l) (cap : Nat) :
    Calls Try.prog 51 #[.int .u16 (v16 s), .slice A n cap] W fun e w' => e = .returned (.int .u16 (v16 (goV s l))) ∧ W = w' := by
  subst hn; exact go_any s l A cap B W hl h
theorem of_e {X : BitVec 16} (e : goV first l = X) (hn : l.length = n) (hl : l.length ≤ 10000) (h : Bytes W B A l) (cap : Nat) :
    Calls Try.prog 49 #[.slice A n cap] W fun e w' => e = .returned (.int .u16 (v16 X)) ∧ W = w' := by
  subst e; exact of_n hn hl h cap
theorem go_e (s : BitVec 16) {X : BitVec 16} (e : goV s l = X) (hn : l.length = n) (hl : l.length ≤ 10000) (h : Bytes W B A l) (cap : Nat) :
    Calls Try.prog 51 #[.int .u16 (v16 s), .slice A n cap] W fun e w' => e = .returned (.int .u16 (v16 X)) ∧ W = w' := by
  subst e; exact go_n s hn hl h cap
/-- the sum, within a statement whose order is open -/
theorem of_quiet {X : BitVec 16} (e : goV first l = X) (hn : l.length = n) (hl : l.length ≤ 10000) (h : Bytes W B A l) (cap q : Nat) :
    Calls Try.prog 49 #[.slice A n cap] (W.drewN q) fun e w'' => e = .returned (.int .u16 (v16 X)) ∧ ∃ m, w'' = W.drewN m :=
  (of_e e hn hl (show Bytes (W.drewN q) B A l from h) cap).mono fun _ _ h => ⟨h.1, q, h.2.symm⟩
end
end Go.Proofs.Ytdfgjfojneoljaa.s
