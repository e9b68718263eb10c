/- The landed std's kind of a name: the first kind whose name it is. No condition. -/
import Derived.Test.YtkfmblebobjgbaaDoorStShape
namespace Go.Proofs.YtkfmblebobjgbaaDoor.sd
open Go.ChangeShapes Go.WideShapes Go.ChangeAt Go.RowKit Go.Proofs.YtkfmblebobjgbaaDoor.k Go.Proofs.YtkfmblebobjgbaaDoor.rr
set_option linter.unusedVariables false

theorem bytes_ne {a b : ByteArray} (h : a ≠ b) : (a.toList == b.toList) = false := by
  rw [beq_eq_false_iff_ne]
  intro e
  rw [ByteArray.toList_eq, ByteArray.toList_eq] at e
  exact h (ByteArray.ext (Array.toList_inj.1 e))
def kindFrom (s : ByteArray) : Nat → Int → Int
  | 0, _ => 0
  | m + 1, n => if (shapeOf n).name = s then n else kindFrom s m (n + 1)
/-- the kind of a name -/
def kindS (s : ByteArray) : Int := if s = ⟨#[]⟩ then 0 else kindFrom s 22 10
set_option maxHeartbeats 4000000 in
theorem kind_any (s : ByteArray) (w : World) : Calls Tryd.prog 8 #[.string s] w fun e w' => e = .returned (.int .i64 (kindS s)) ∧ Below w.heap.size w w' := by
  have NN := Lib.hid fun n W => name_of n W
  by_cases hs : s = ⟨#[]⟩
  · subst hs
    have hq : ((⟨#[]⟩ : ByteArray).toList == []) = true := by kernel_rfl
    go_enter Tryd.func8, Tryd.ntmps8
    go_wp2_with fail
    go_ret
    exact ⟨rfl, Below.refl _ _⟩
  · have hq : (s.toList == []) = false := by
      have := bytes_ne hs
      rwa [show (⟨#[]⟩ : ByteArray).toList = [] by rw [ByteArray.toList_eq]] at this
    have HK := Lib.hid (show kindS s = kindFrom s 22 10 from if_neg hs)
    go_enter Tryd.func8, Tryd.ntmps8
    go_wp2_with fail
    go_loopw [3] (fun s3 wq => ∃ (m : Nat) (q : Int), q = 32 - m ∧ m ≤ 22 ∧ s3 = .int .i64 q ∧ kindFrom s m q = kindFrom s 22 10 ∧ Below w.heap.size w wq) (fun i _ => 32 - (intOf i).toNat)
    case atStart => exact ⟨22, 10, rfl, Nat.le_refl _, rfl, rfl, Below.refl _ _⟩
    case round =>
      obtain ⟨m, q, hq2, hm, rfl, hk, hB⟩ := hrel
      have HB := Lib.hid hB
      clear hB
      cases m with
      | zero =>
        have hz : ¬ (q ≤ 31) := by omega
        have HE := Lib.hid hk
        clear hk hq2
        go_wp2_with fail
        go_ret
        refine ⟨ret_int ?_, HB.out⟩
        rw [HK.out, ← HE.out]
        rfl
      | succ m =>
        have hz : q ≤ 31 := by omega
        have hn1 : -100 ≤ q := by omega
        have HQ := Lib.hid hq2
        clear hq2
        rw [kindFrom] at hk
        by_cases he : (shapeOf q).name = s
        · rw [if_pos he] at hk
          have HE := Lib.hid hk
          have h2 : ((shapeOf q).name.toList == s.toList) = true := by rw [he]; simp
          clear hk he
          go_wp2_with (go_at_call 20; (with_reducible refine (NN.out _ _).mono ?_); rintro e w1 ⟨rfl, hb⟩; have HB1 := Lib.hid (HB.out.trans (hb.mono HB.out.size)); clear hb)
          go_ret
          refine ⟨ret_int ?_, HB1.out⟩
          rw [HK.out, ← HE.out]
        · rw [if_neg he] at hk
          have HE := Lib.hid hk
          have h2 := bytes_ne he
          clear hk he
          go_wp2_with (go_at_call 20; (with_reducible refine (NN.out _ _).mono ?_); rintro e w1 ⟨rfl, hb⟩; have HB1 := Lib.hid (HB.out.trans (hb.mono HB.out.size)); clear hb)
          go_roundw
          case rel => exact ⟨m, q + 1, by have := HQ.out; omega, by omega, by go_num, HE.out, HB1.out⟩
          case measure => have := HQ.out; simp [intOf]; omega
end Go.Proofs.YtkfmblebobjgbaaDoor.sd
