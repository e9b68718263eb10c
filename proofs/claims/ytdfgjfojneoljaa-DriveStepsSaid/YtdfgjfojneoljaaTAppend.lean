/- What layer frame's appendNumber lays behind a slice of the call's own: a number's lowest bytes, the highest first. No condition but that they are no more than eight. -/
import Derived.Test.YtdfgjfojneoljaaTNumber
namespace Go.Proofs.Ytdfgjfojneoljaa.t
open Go.ChangeShapes Go.WideShapes Go.ChangeAt Go.RowKit Go.Proofs.Ytdfgjfojneoljaa.s
set_option linter.unusedVariables false

/-- the first k of a number's lowest sz bytes -/
def tops (n : Int) (sz k : Nat) : List (BitVec 8) := (List.range k).map fun i => byteAt n (sz - 1 - i)
theorem tops_succ (n : Int) (sz k : Nat) : tops n sz (k + 1) = tops n sz k ++ [byteAt n (sz - 1 - k)] := by
  unfold tops; rw [List.range_succ, List.map_append]; rfl
theorem tops_length (n : Int) (sz k : Nat) : (tops n sz k).length = k := by unfold tops; simp
theorem tops8 (n : Int) : tops n 8 8 = be8 n := rfl
theorem pow_256 (j : Nat) : (2 : Int) ^ (8 * j) = 256 ^ j := by rw [Int.pow_mul]; rfl

set_option maxHeartbeats 1000000 in
theorem append_any (n : Int) (h0 : 0 ≤ n) (h1 : n ≤ 18446744073709551615) (sz : Nat) (hs : sz ≤ 8) (base : Nat) (v : Value) (l : List (BitVec 8)) (hl : l.length ≤ 1000) (w : World) (hO : Own w base v l) (hb : base ≤ w.heap.size) :
    Calls Try.prog 48 #[v, .int .u64 n, .int .i64 sz] w fun e w' => ∃ v', e = .returned v' ∧ Own w' base v' (l ++ tops n sz sz) ∧ Below base w w' := by
  have HO := Lib.hid hO
  clear hO
  go_enter Try.func48, Try.ntmps48
  go_wp2
  go_loopw [0, 9] (fun b i wr => ∃ k : Nat, k ≤ sz ∧ i = .int .i64 k ∧ Own wr base b (l ++ tops n sz k) ∧ Below base w wr) (fun _ i _ => sz - (intOf i).toNat)
  case atStart => exact ⟨0, Nat.zero_le _, rfl, by simpa [tops] using HO.out, Below.refl _ _⟩
  case round =>
    clear HO
    obtain ⟨k, hk, rfl, hO, hB⟩ := hrel
    have HO := Lib.hid hO
    have HB := Lib.hid hB
    have hz := hB.size
    clear hO hB
    by_cases hlt : k < sz
    · have HT := Lib.hid (tops_succ n sz k)
      have HV := Lib.hid (byteAt_val n (sz - 1 - k))
      obtain ⟨j, hj⟩ : ∃ j, sz - 1 - k = j := ⟨_, rfl⟩
      rw [hj] at HT HV
      have e1 : (sz : Int) - 1 - (k : Int) = (j : Int) := by omega
      have HX : Hid (n / 2 ^ (8 * j) % 256 = v8 (byteAt n j)) := Lib.hid (by rw [pow_256, byteAt_val])
      have HL : Hid ((l ++ tops n sz k).length + 1 ≤ 20000) := Lib.hid (by rw [List.length_append, tops_length]; omega)
      clear hj
      go_upto_region 4 with (fail)
      go_wp2_with (first
        | (at_builtin; refine wpList_append_bytes _ rfl (.tmp 12) (.tmp 21) rfl base _ _ rfl (HO.out.new _) (wr.heap.size + 1) (some ⟨wr.heap.size, 0, none⟩) 1 1 [byteAt n j] rfl rfl (by rw [HX.out]; exact one_bytes wr _ _) (by intro h; cases h) HL.out (Nat.le_trans hb (Nat.le_trans hz (by simp))) ?_; intro v2 w2 hown2 hg2 hat2; have HO2 := Lib.hid hown2; have HB2 := Lib.hid ((HO.out.new _).lays (HB.out.alloc (Nat.le_trans hb hz) _) (Nat.le_refl _) hb hg2); clear hown2 hg2 hat2)
        | fail)
      go_roundw
      case rel => exact ⟨k + 1, by omega, by go_num, by rw [HT.out, ← List.append_assoc]; exact HO2.out, HB2.out⟩
      case measure => simp [intOf]; omega
    · have : k = sz := by omega
      subst this
      go_wp2
      go_ret
      exact ⟨_, rfl, HO.out, HB.out⟩
end Go.Proofs.Ytdfgjfojneoljaa.t
