/- What layer sum's throughByte, Go and Of answer, for any register and any bytes; the world stays as it was. No condition but that the bytes are read where they lie. -/
import Derived.Test.YtilafaokiakkbaaSMath
import Derived.Test.YtilafaokiakkbaaRows
import Derived.ProofKit
import Derived.OpenShut
import Derived.WalkKit
import Derived.WalkLawsBesides
import Derived.Below
import Derived.Lib.SlBytesConst
namespace Go.Proofs.Ytilafaokiakkbaa.s
open Go.ChangeShapes Go.WideShapes Go.ChangeAt Go.RowKit
set_option linter.unusedVariables false

theorem ret_v16 {k : IntKind} {a b : BitVec 16} (h : a = b) : Ending.returned (.int k (v16 a)) = .returned (.int k (v16 b)) := by rw [h]

set_option maxHeartbeats 400000 in
theorem byte_any (s : BitVec 16) (c : BitVec 8) (w : World) :
    Calls Try.prog 13 #[.int .u16 (v16 s), .int .u8 (v8 c)] w fun e w' => e = .returned (.int .u16 (v16 (byteV s c))) ∧ w = w' := by
  have hs := v16_in s
  have hc := v8_in c
  have hx := xor_wide s c
  go_enter Try.func13, Try.ntmps13
  go_wp2
  clear hx
  go_loop [0, 11] (fun r i => ∃ k : Nat, k ≤ 8 ∧ i = .int .i64 k ∧ r = .int .u16 (v16 (ups k (s ^^^ wide c)))) (fun _ i => 8 - (intOf i).toNat)
  case atStart => exact ⟨0, Nat.zero_le _, rfl, rfl⟩
  case round =>
    obtain ⟨k, hk, rfl, rfl⟩ := hrel
    have HE : Hid (ups (k + 1) (s ^^^ wide c) = up (ups k (s ^^^ wide c))) := Lib.hid rfl
    have HB : Hid (byteV s c = ups 8 (s ^^^ wide c)) := Lib.hid rfl
    by_cases h8 : k < 8
    · generalize ups k (s ^^^ wide c) = x at *
      have hx := v16_in x
      have hy := shl_one x
      have hm := top_mask x
      rcases Bool.eq_false_or_eq_true x.msb with e | e
      · rw [e, if_pos rfl] at hm
        have hz := xor_poly (x <<< 1)
        have HU := Lib.hid (up_yes e)
        clear e
        go_wp2
        go_round
        case rel => exact ⟨k + 1, by omega, by go_num, by rw [HE.out, HU.out]⟩
        case measure => simp [intOf]; omega
      · rw [e] at hm
        simp only [Bool.false_eq_true, if_false] at hm
        have HU := Lib.hid (up_no e)
        clear e
        go_wp2
        go_round
        case rel => exact ⟨k + 1, by omega, by go_num, by rw [HE.out, HU.out]⟩
        case measure => simp [intOf]; omega
    · have : k = 8 := by omega
      subst this
      clear HE
      go_wp2
      go_ret
      exact ⟨ret_v16 HB.out.symm, rfl⟩

/-! ### Bytes that lie below a block -/
def cell8 (c : BitVec 8) : Value := .int .u8 (v8 c)
def Bytes (w : World) (B : Nat) (A : Option Addr) (l : List (BitVec 8)) : Prop :=
  0 < l.length → ∃ b off, A = some ⟨b, off, none⟩ ∧ b < B ∧ ∀ i, i < l.length → w.cell? ⟨b, off + i, none⟩ = some (.int .u8 (v8 (l.getD i 0)))
theorem Bytes.below {w w' : World} {B : Nat} {A : Option Addr} {l : List (BitVec 8)} (h : Bytes w B A l) (hb : Below B w w') : Bytes w' B A l := fun hn => by
  obtain ⟨b, off, e, hB, hc⟩ := h hn
  exact ⟨b, off, e, hB, fun i hi => (hb.cell (p := ⟨b, off + i, none⟩) hB).trans (hc i hi)⟩
theorem Bytes.more {w : World} {B B' : Nat} {A : Option Addr} {l : List (BitVec 8)} (h : Bytes w B A l) (hB : B ≤ B') : Bytes w B' A l := fun hn => by
  obtain ⟨b, off, e, hb, hc⟩ := h hn
  exact ⟨b, off, e, by omega, hc⟩
theorem Bytes.take {w : World} {B : Nat} {A : Option Addr} {l : List (BitVec 8)} (h : Bytes w B A l) (n : Nat) : Bytes w B A (l.take n) := fun hn => by
  have hl : (l.take n).length = min n l.length := List.length_take
  obtain ⟨b, off, e, hb, hc⟩ := h (by omega)
  refine ⟨b, off, e, hb, fun i hi => ?_⟩
  rw [hc i (by omega), List.getD_eq_getElem?_getD, List.getD_eq_getElem?_getD, List.getElem?_take, if_pos (by omega)]

set_option maxHeartbeats 400000 in
theorem go_any (s : BitVec 16) (l : List (BitVec 8)) (A : Option Addr) (cap B : Nat) (w : World) (hl : l.length ≤ 10000) (h : Bytes w B A l) :
    Calls Try.prog 10 #[.int .u16 (v16 s), .slice A l.length cap] w fun e w' => e = .returned (.int .u16 (v16 (goV s l))) ∧ w = w' := by
  have HL : Hid (∀ k, k < l.length → goV s (l.take (k + 1)) = byteV (goV s (l.take k)) (l.getD k 0)) := Lib.hid fun k hk => by rw [take_snocD l k hk, goV_snoc]
  have HF : Hid (goV s (l.take l.length) = goV s l) := Lib.hid (by rw [List.take_length])
  have H0 : Hid (goV s (l.take 0) = s) := Lib.hid rfl
  have H : Hid (0 < l.length → ∃ b off, A = some ⟨b, off, none⟩ ∧ b < B ∧ ∀ i, i < l.length → w.cell? ⟨b, off + i, none⟩ = some (.int .u8 (v8 (l.getD i 0)))) := Lib.hid h
  clear h
  generalize hn : l.length = n at *
  clear hn
  go_enter Try.func10, Try.ntmps10
  go_wp2
  go_loop [0, 9] (fun r i => ∃ k : Nat, k ≤ n ∧ i = .int .i64 k ∧ r = .int .u16 (v16 (goV s (l.take k)))) (fun _ i => n - (intOf i).toNat)
  case atStart => exact ⟨0, Nat.zero_le _, rfl, by rw [H0.out]⟩
  case round =>
    obtain ⟨k, hk, rfl, rfl⟩ := hrel
    by_cases hlt : k < n
    · obtain ⟨b, off, rfl, hB, hc⟩ := H.out (by omega)
      have hk := hc k (by omega)
      have HS := Lib.hid (HL.out k (by omega))
      clear hc
      generalize l.getD k 0 = c at *
      generalize goV s (l.take k) = x at *
      go_wp2_with (go_at_call 13; with_reducible refine (byte_any _ _ _).mono ?_; rintro e w' ⟨rfl, rfl⟩)
      go_round
      case rel => exact ⟨k + 1, by omega, by go_num, by rw [HS.out]⟩
      case measure => simp [intOf]; omega
    · have : k = n := by omega
      subst this
      go_wp2
      go_ret
      exact ⟨ret_v16 HF.out, rfl⟩

def first : BitVec 16 := 0xffff#16
theorem first_val : v16 first = 65535 := rfl
theorem of_any (l : List (BitVec 8)) (A : Option Addr) (cap B : Nat) (w : World) (hl : l.length ≤ 10000) (h : Bytes w B A l) :
    Calls Try.prog 8 #[.slice A l.length cap] w fun e w' => e = .returned (.int .u16 (v16 (goV first l))) ∧ w = w' := by
  have c1 := go_any first l A cap B w hl h
  rw [first_val] at c1
  clear h
  go_enter Try.func8, Try.ntmps8
  go_wp2_with (go_at_call 10; with_reducible refine c1.mono ?_; rintro e w' ⟨rfl, rfl⟩)
  go_ret
  exact ⟨rfl, rfl⟩

/-- the nine bytes of the chapter's example -/
def nine : List (BitVec 8) := [49, 50, 51, 52, 53, 54, 55, 56, 57]
theorem nine_sum : goV first nine = 0x29b1#16 := by decide +kernel
theorem nine_bytes (w : World) (e : TypeId) (fr : Nat × Nat) : Bytes (w.alloc (.cells #[Value.int .u8 49, Value.int .u8 50, Value.int .u8 51, Value.int .u8 52, Value.int .u8 53, Value.int .u8 54, Value.int .u8 55, Value.int .u8 56, Value.int .u8 57] e fr)) (w.heap.size + 1) (some ⟨w.heap.size, 0, none⟩) nine := fun _ => by
  refine ⟨_, 0, rfl, by omega, fun i hi => ?_⟩
  rw [World.cell?_alloc_mark, Nat.zero_add]
  have : i = 0 ∨ i = 1 ∨ i = 2 ∨ i = 3 ∨ i = 4 ∨ i = 5 ∨ i = 6 ∨ i = 7 ∨ i = 8 := by simp [nine] at hi; omega
  rcases this with rfl | rfl | rfl | rfl | rfl | rfl | rfl | rfl | rfl <;> rfl
set_option maxHeartbeats 400000 in
theorem awake_any (w : World) :
    Calls Try.prog 7 #[] w fun e w' => e = .returned (.bool true) ∧ Below w.heap.size w w' := by
  have c1 := fun (fr : Nat × Nat) => of_any nine (some ⟨w.heap.size, 0, none⟩) 9 (w.heap.size + 1) _ (by decide) (nine_bytes w 5 fr)
  rw [nine_sum] at c1
  have kc := fun (w : World) (C : Array Value) (n c : Nat) => Lib.run_convert_bytes_const (P := Try.prog) w 23 5 C n c Try.underlying23 Try.underlying5
  have hv : v16 0x29b1#16 = 10673 := rfl
  rw [hv] at c1
  clear hv
  go_enter Try.func7, Try.ntmps7
  go_wp2_with (go_at_call 8; refine (c1 _).mono ?_; rintro e w' ⟨rfl, rfl⟩)
  go_ret
  exact ⟨rfl, (Below.refl _ _).alloc (Nat.le_refl _) _⟩
end Go.Proofs.Ytilafaokiakkbaa.s
