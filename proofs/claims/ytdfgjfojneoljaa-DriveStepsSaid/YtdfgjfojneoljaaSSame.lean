/- What servitorref02's Same answers: whether two lists of bytes are the same. No condition but their number. -/
import Derived.Test.YtdfgjfojneoljaaSBytes
namespace Go.Proofs.Ytdfgjfojneoljaa.s
open Go.ChangeShapes Go.WideShapes Go.ChangeAt Go.RowKit
set_option linter.unusedVariables false

theorem v8_ne {a b : BitVec 8} (h : a ≠ b) : (v8 a != v8 b) = true := by
  rw [bne_iff_ne]; exact fun e => h (v8_inj e)
theorem v8_eq {a b : BitVec 8} (h : a = b) : (v8 a != v8 b) = false := by subst h; simp
theorem take_eq (l k : List (BitVec 8)) (n : Nat) (hl : n < l.length) (hk : n < k.length) (h : l.take n = k.take n) (e : l.getD n 0 = k.getD n 0) : l.take (n + 1) = k.take (n + 1) := by
  rw [take_snocD l n hl, take_snocD k n hk, h, e]

def same (l k : List (BitVec 8)) : Bool := decide (l = k)
set_option maxHeartbeats 400000 in
theorem same_any (l k : List (BitVec 8)) (n m : Nat) (hn : l.length = n) (hm : k.length = m) (hl : l.length ≤ 10000) (hk : k.length ≤ 10000) (B B' : Nat) (A A' : Option Addr) (cap cap' : Nat) (W : World) (h : Bytes W B A l) (h' : Bytes W B' A' k) :
    Calls Try.prog 16 #[.slice A n cap, .slice A' m cap'] W fun e w' => e = .returned (.bool (same l k)) ∧ ∃ q, w' = W.drewN q := by
  by_cases hnm : n = m
  · subst hnm
    have HN := Lib.hid hn
    have HM := Lib.hid hm
    have HA := Lib.hid h
    have HA' := Lib.hid h'
    have hl2 : n ≤ 10000 := by omega
    have H0 : Hid (l.take 0 = k.take 0) := Lib.hid rfl
    clear hn hm h h' hl hk
    go_enter Try.func16, Try.ntmps16
    go_wp2
    go_loopw [5] (fun i wr => ∃ j : Nat, j ≤ n ∧ i = .int .i64 j ∧ l.take j = k.take j ∧ ∃ q, wr = W.drewN q) (fun i _ => n - (intOf i).toNat)
    case atStart => exact ⟨0, Nat.zero_le _, rfl, H0.out, 0, rfl⟩
    case round =>
      obtain ⟨j, hj, rfl, hT, q, rfl⟩ := hrel
      have HT := Lib.hid hT
      clear hT
      by_cases hlt : j < n
      · obtain ⟨b, o, rfl, hb, hc⟩ := HA.out (by rw [HN.out]; omega)
        obtain ⟨b', o', rfl, hb', hc'⟩ := HA'.out (by rw [HM.out]; omega)
        have c1 := hc j (by rw [HN.out]; omega)
        have c2 := hc' j (by rw [HM.out]; omega)
        have hj0 : (0 : Int) ≤ (j : Int) := by omega
        have hj1 : (j : Int) < (n : Int) := by omega
        have HD : Hid (l.getD j 0 = k.getD j 0 → l.take (j + 1) = k.take (j + 1)) := Lib.hid (take_eq l k j (by rw [HN.out]; omega) (by rw [HM.out]; omega) HT.out)
        have HE : Hid (l.getD j 0 ≠ k.getD j 0 → same l k = false) := Lib.hid fun h => by
          unfold same
          rw [decide_eq_false_iff_not]
          intro e
          exact h (by rw [e])
        clear hc hc' hb hb'
        generalize l.getD j 0 = x at *
        generalize k.getD j 0 = y at *
        by_cases hxy : x = y
        · have ht := v8_eq hxy
          have HX := Lib.hid (HD.out hxy)
          clear hxy
          go_wp2
          go_quiet (fail)
          go_wp2
          go_roundw
          case rel => exact ⟨j + 1, by omega, by go_num, HX.out, q + nq, (by first | rfl | exact World.drewN_drewN _ _ _)⟩
          case measure => simp [intOf]; omega
        · have ht := v8_ne hxy
          have HX := Lib.hid (HE.out hxy)
          clear hxy
          go_wp2
          go_quiet (fail)
          go_wp2
          go_ret
          exact ⟨by rw [HX.out]; rfl, q + nq, (by first | rfl | exact World.drewN_drewN _ _ _)⟩
      · have : j = n := by omega
        subst this
        have HX : Hid (same l k = true) := Lib.hid (by
          have := HT.out
          rw [List.take_of_length_le (by rw [HN.out]; omega), List.take_of_length_le (by rw [HM.out]; omega)] at this
          unfold same
          rw [decide_eq_true_iff]
          exact this)
        go_wp2
        go_ret
        exact ⟨by rw [HX.out]; rfl, q, rfl⟩
  · have HX : Hid (same l k = false) := Lib.hid (by
      unfold same
      rw [decide_eq_false_iff_not]
      intro e
      subst e
      omega)
    clear hn hm h h' hl hk
    go_enter Try.func16, Try.ntmps16
    go_wp2
    go_ret
    exact ⟨by rw [HX.out]; rfl, 0, rfl⟩
end Go.Proofs.Ytdfgjfojneoljaa.s
