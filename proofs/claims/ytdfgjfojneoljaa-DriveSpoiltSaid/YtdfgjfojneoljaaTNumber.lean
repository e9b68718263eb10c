/- What layer frame's upTo and number answer; the world stays as it was. No condition but that the bytes are read where they lie, and are no more than eight. -/
import Derived.Test.YtdfgjfojneoljaaTPost
import Derived.Test.YtdfgjfojneoljaaSSum
import Derived.StillTailTactics
namespace Go.Proofs.Ytdfgjfojneoljaa.t
open Go.ChangeShapes Go.WideShapes Go.ChangeAt Go.RowKit Go.Proofs.Ytdfgjfojneoljaa.s
set_option linter.unusedVariables false

theorem or_byte (N : Int) (c : BitVec 8) (h0 : 0 ≤ N) (h1 : N ≤ 72057594037927935) : bits .or .u64 (N * 256) (v8 c) = N * 256 + v8 c := by
  have hc := v8_in c
  rw [u64_or _ _ (by omega) (by omega) (by omega) (by omega)]
  have e : (N * 256).toNat = N.toNat <<< 8 := by rw [Nat.shiftLeft_eq]; omega
  have e2 : (v8 c).toNat < 2 ^ 8 := by omega
  rw [e, ← Nat.shiftLeft_add_eq_or_of_lt e2, ← e]
  omega
def upB (n g : Int) : Bool := decide (0 ≤ n ∧ n ≤ g)
theorem upB_yes {n g : Int} (h0 : 0 ≤ n) (h1 : n ≤ g) : upB n g = true := decide_eq_true ⟨h0, h1⟩
theorem upB_no {n g : Int} (h : n < 0 ∨ g < n) : upB n g = false := decide_eq_false (by omega)
theorem ret_bool {a b : Bool} (h : a = b) : Ending.returned (.bool a) = .returned (.bool b) := by rw [h]
theorem up_any (n g : Int) (w : World) : Calls Try.prog 47 #[.int .i64 n, .int .i64 g] w fun e w' => e = .returned (.bool (upB n g)) ∧ w = w' := by
  by_cases h0 : 0 ≤ n
  · by_cases h1 : n ≤ g
    · have H := Lib.hid (upB_yes h0 h1)
      go_enter Try.func47, Try.ntmps47
      go_wp2
      go_ret
      exact ⟨ret_bool H.out.symm, rfl⟩
    · have H := Lib.hid (upB_no (n := n) (g := g) (by omega))
      go_enter Try.func47, Try.ntmps47
      go_wp2
      go_ret
      exact ⟨ret_bool H.out.symm, rfl⟩
  · have H := Lib.hid (upB_no (n := n) (g := g) (by omega))
    go_enter Try.func47, Try.ntmps47
    go_wp2
    go_ret
    exact ⟨ret_bool H.out.symm, rfl⟩

theorem ret_u64 {a b : Int} (h : a = b) : Ending.returned (.int .u64 a) = .returned (.int .u64 b) := by rw [h]
set_option maxHeartbeats 400000 in
theorem number_any (l : List (BitVec 8)) (n : Nat) (hn : l.length = n) (hl : n ≤ 8) (A : Option Addr) (cap B : Nat) (w : World) (h : Bytes w B A l) :
    Calls Try.prog 50 #[.slice A n cap] w fun e w' => e = .returned (.int .u64 (be l)) ∧ w = w' := by
  subst hn
  have HK : Hid (∀ k, k < l.length → be (l.take (k + 1)) = be (l.take k) * 256 + v8 (l.getD k 0)) := Lib.hid fun k hk => by rw [take_snocD l k hk, be_snoc]
  have HR : Hid (∀ k, k < l.length → 0 ≤ be (l.take k) ∧ be (l.take k) ≤ 72057594037927935) := Lib.hid fun k hk => be_room _ (by rw [List.length_take]; omega)
  have HF : Hid (be (l.take l.length) = be l) := Lib.hid (by rw [List.take_length])
  have H0 : Hid (be (l.take 0) = 0) := Lib.hid rfl
  have H : Hid (0 < l.length → ∃ b off, A = some ⟨b, off, none⟩ ∧ b < B ∧ ∀ i, i < l.length → w.cell? ⟨b, off + i, none⟩ = some (.int .u8 (v8 (l.getD i 0)))) := Lib.hid h
  clear h
  generalize hn : l.length = n at *
  clear hn
  go_enter Try.func50, Try.ntmps50
  go_wp2
  go_loop [3, 8] (fun r i => ∃ k : Nat, k ≤ n ∧ i = .int .i64 k ∧ r = .int .u64 (be (l.take k))) (fun _ i => n - (intOf i).toNat)
  case atStart => exact ⟨0, Nat.zero_le _, rfl, by rw [H0.out]⟩
  case round =>
    obtain ⟨k, hk, rfl, rfl⟩ := hrel
    by_cases hlt : k < n
    · obtain ⟨b, off, rfl, hB, hc⟩ := H.out (by omega)
      have hck := hc k (by omega)
      have HS := Lib.hid (HK.out k (by omega))
      have ⟨r0, r1⟩ := HR.out k (by omega)
      clear hc
      generalize l.getD k 0 = c at *
      generalize be (l.take k) = N at *
      have qc := v8_in c
      have y1 := wrap_in (N * 256) (by omega) (by omega)
      have y3 := wrap_in (v8 c) (by omega) (by omega)
      have y4 := or_byte N c r0 r1
      go_wp2
      go_round
      case rel => exact ⟨k + 1, by omega, by go_num, by rw [HS.out]⟩
      case measure => simp [intOf]; omega
    · have : k = n := by omega
      subst this
      go_wp2
      go_ret
      exact ⟨ret_u64 HF.out, rfl⟩
end Go.Proofs.Ytdfgjfojneoljaa.t
