/- The document's words for numbers and shapes: the given functions of them. No condition. -/
import Derived.Test.YtdefgghhkknnpaaGreatDoorShFiA
import Derived.Lib.ItoaLen
import Derived.OwnWalk
namespace Go.Proofs.YtdefgghhkknnpaaGreatDoor.sh
open Go.ChangeShapes Go.WideShapes Go.ChangeAt Go.RowKit Go.Proofs.YtdefgghhkknnpaaGreatDoor.k Go.Proofs.YtdefgghhkknnpaaGreatDoor.rr Go.Proofs.YtdefgghhkknnpaaGreatDoor.tk Go.Proofs.YtdefgghhkknnpaaGreatDoor.tr
set_option linter.unusedVariables false
set_option linter.unusedSimpArgs false

set_option maxRecDepth 100000 in
set_option maxHeartbeats 4000000 in
/-- a statement's kind: is there a name, a place, a value -/
theorem refshape_any (op : Int) (w : World) : Calls Tryz.prog 65 #[.int .i64 op] w fun e w' => e = .returned (.tuple #[.bool (op == 4 || op == 9), .bool (op == 1), .bool (op == 1 || (op == 3 || (op == 5 || op == 6)))]) ∧ w' = w := by
  rcases (show op = 1 ∨ op = 3 ∨ op = 4 ∨ op = 5 ∨ op = 6 ∨ op = 9 ∨ (op ≠ 1 ∧ op ≠ 3 ∧ op ≠ 4 ∧ op ≠ 5 ∧ op ≠ 6 ∧ op ≠ 9) by omega) with rfl | rfl | rfl | rfl | rfl | rfl | ⟨h1, h3, h4, h5, h6, h9⟩
  rotate_right 1
  · have z1 := neb h1
    have z3 := neb h3
    have z4 := neb h4
    have z5 := neb h5
    have z6 := neb h6
    have z9 := neb h9
    rw [z1, z3, z4, z5, z6, z9]
    go_enter Tryz.func65, Tryz.ntmps65
    go_wp2
    go_ret3
    exact ⟨rfl, rfl⟩
  all_goals
    go_enter Tryz.func65, Tryz.ntmps65
    go_wp2
    go_ret3
    exact ⟨rfl, rfl⟩
def InJ (n : Int) : Prop := -9223372036854775808 ≤ n ∧ n ≤ 9223372036854775807
def exNm : Ex → Str
  | .mk _ _ nm _ _ _ => nm
def exFd : Ex → Str
  | .mk _ _ _ fd _ _ => fd
theorem sz_s (s : Str) : (⟨s.toArray⟩ : ByteArray).size = s.length := Lib.size_eq _
theorem len_no (s : Str) : (s.length == 0) = (s == []) := by cases s <;> rfl
theorem sum_no (a b c : Nat) : (((a + b : Nat) : Int) + (c : Int) == 0) = ((a == 0) && ((b == 0) && (c == 0))) := by
  rw [Bool.eq_iff_iff, beq_iff_eq, Bool.and_eq_true, Bool.and_eq_true, beq_iff_eq, beq_iff_eq, beq_iff_eq]
  omega
set_option maxRecDepth 100000 in
set_option maxHeartbeats 4000000 in
/-- whether an expression isn't there -/
theorem refnone_any {x : Ex} {h : EH} {w : World} {B : Nat} (hx : ExAt w B x h) (h1 : (exNm x).length < 2305843009213693952) (h2 : (exFd x).length < 2305843009213693952) (h3 : h.sub.l < 2305843009213693952) : Calls Tryz.prog 67 #[.agg (eC h).toArray] w fun e w' => e = .returned (.bool (noE x)) ∧ Below w.heap.size w w' := by
  obtain ⟨xo, xn, xs, xf, xsub, xl⟩ := x
  obtain ⟨o, n, s, f, ⟨A, l, c⟩, ln⟩ := h
  unfold ExAt at hx
  obtain ⟨rfl, rfl, rfl, rfl, rfl, H, hR, hE⟩ := hx
  have hl : xsub.length = l := hE.len.symm.trans hR.1
  simp only [exNm, exFd] at h1 h2 h3
  show Calls _ _ _ _ fun e w' => e = .returned (.bool (noE (.mk o n s f xsub ln))) ∧ _
  rw [noE, hl, ← len_no, ← len_no, ← sum_no]
  clear hR hE hl
  simp only [eC, sv, Sl.v]
  have BB := Lib.hid (al1 w (.cells #[.int .i64 o, .int .i64 n, .string ⟨s.toArray⟩, .string ⟨f.toArray⟩, .slice A l c, .int .i64 ln] 44))
  have e1 := sz_s s
  have e2 := sz_s f
  generalize (⟨s.toArray⟩ : ByteArray) = xs at *
  generalize (⟨f.toArray⟩ : ByteArray) = xf at *
  rw [← e1] at h1 ⊢
  rw [← e2] at h2 ⊢
  have w1 : wrap64 ((xs.size : Int) + xf.size) = ((xs.size + xf.size : Nat) : Int) := by unfold wrap64; omega
  have w2 : wrap64 ((xs.size : Int) + xf.size + l) = (xs.size : Int) + xf.size + l := by unfold wrap64; omega
  obtain ⟨u3, hu3⟩ : ∃ u, (((xs.size + xf.size : Nat) : Int) + l == 0) = u := ⟨_, rfl⟩
  have u3c : ((xs.size : Int) + xf.size + l == 0) = u3 := hu3
  obtain ⟨u1, hu1⟩ : ∃ u, (o == 0) = u := ⟨_, rfl⟩
  obtain ⟨u2, hu2⟩ : ∃ u, (n == 0) = u := ⟨_, rfl⟩
  rw [hu1, hu2, hu3]
  clear e1 e2 h1 h2 h3
  go_enter Tryz.func67, Tryz.ntmps67
  cases u1
  · go_wp2_with fail
    go_ret
    exact ⟨rfl, BB.out⟩
  cases u2
  · go_wp2_with fail
    go_ret
    exact ⟨rfl, BB.out⟩
  · go_wp2_with fail
    go_ret
    exact ⟨rfl, BB.out⟩
theorem reftruth_any (n : Int) (w : World) : Calls Tryz.prog 21 #[.int .i64 n] w fun e w' => e = .returned (sv (truthS n)) ∧ w' = w := by
  by_cases e0 : n = 0
  · subst e0
    go_enter Tryz.func21, Tryz.ntmps21
    go_wp2
    go_ret
    exact ⟨rfl, rfl⟩
  rw [truthS, if_neg e0]
  have z0 := neb e0
  clear e0
  go_enter Tryz.func21, Tryz.ntmps21
  go_wp2
  go_ret
  exact ⟨rfl, rfl⟩
theorem cat_svb (a b : Str) : (⟨a.toArray⟩ : ByteArray) ++ ⟨b.toArray⟩ = ⟨(a ++ b).toArray⟩ := by
  apply ByteArray.ext
  simp
theorem dig_list (i : Nat) (h : i < 10) : (⟨#[48, 49, 50, 51, 52, 53, 54, 55, 56, 57]⟩ : ByteArray).extract i (i + 1) = ⟨[UInt8.ofNat (48 + i)].toArray⟩ := by
  rcases (show i = 0 ∨ i = 1 ∨ i = 2 ∨ i = 3 ∨ i = 4 ∨ i = 5 ∨ i = 6 ∨ i = 7 ∨ i = 8 ∨ i = 9 by omega) with rfl | rfl | rfl | rfl | rfl | rfl | rfl | rfl | rfl | rfl <;> rfl
theorem dec_step {k : Nat} (h : ¬ k < 10) (t : Str) : Lib.decDigits k ++ t = Lib.decDigits (k / 10) ++ ([UInt8.ofNat (48 + k % 10)] ++ t) := by
  rw [Lib.decDigits, dif_neg h, List.append_assoc]
theorem dec_last {k : Nat} (h : k < 10) (t : Str) : Lib.decDigits k ++ t = [UInt8.ofNat (48 + k)] ++ t := by
  rw [Lib.decDigits, dif_pos h]
set_option maxRecDepth 100000 in
set_option maxHeartbeats 8000000 in
theorem refdigits_any (U : Nat) (hU : U < 18446744073709551616) (w : World) : Calls Tryz.prog 41 #[.int .u64 U] w fun e w' => e = .returned (sv (Lib.decDigits U)) ∧ w' = w := by
  have HL := Lib.hid (Lib.nDigits_le20 U hU)
  have HU := Lib.hid hU
  rw [← Lib.decDigits_length] at HL
  obtain ⟨T, hT⟩ : ∃ T, Lib.decDigits U = T := ⟨_, rfl⟩
  rw [hT] at HL ⊢
  have HT := Lib.hid hT
  clear hT hU
  go_enter Tryz.func41, Tryz.ntmps41
  go_upto_region 2 with (fail)
  go_loopw [0, 3] (fun s0 s3 wr => ∃ (k : Nat) (t : Str), k ≤ U ∧ s0 = .int .u64 k ∧ s3 = .string ⟨t.toArray⟩ ∧ Lib.decDigits k ++ t = T ∧ w = wr) (fun i _ _ => (intOf i).toNat)
  case atStart => exact ⟨U, [], Nat.le_refl _, rfl, rfl, by rw [List.append_nil]; exact HT.out, rfl⟩
  case round =>
    obtain ⟨k, t, hk, rfl, rfl, hr, rfl⟩ := hrel
    have ht : t.length ≤ 20 := by
      have := congrArg List.length hr
      rw [List.length_append] at this
      have := HL.out
      omega
    have hu := HU.out
    have cz : ∀ c : UInt8, ¬ 9223372036854775807 < (⟨[c].toArray⟩ : ByteArray).size + (⟨t.toArray⟩ : ByteArray).size := fun c => by rw [sz_s, sz_s]; simp; omega
    by_cases hk9 : k < 10
    rotate_left
    · have hz : (9 : Int) < k := by omega
      obtain ⟨j, hj⟩ : ∃ j, k % 10 = j := ⟨_, rfl⟩
      have r0 : (k : Int) % 10 = (j : Int) := by omega
      have r2 : IntKind.u64.wrap ((j : Int) + 1) = ((j + 1 : Nat) : Int) := by rw [IntKind.wrap_u64]; omega
      have r4 := dig_list j (by omega)
      obtain ⟨c, hc⟩ : ∃ c, UInt8.ofNat (48 + j) = c := ⟨_, rfl⟩
      rw [hc] at r4
      have c1 := cz c
      have HR : Hid (Lib.decDigits (k / 10) ++ ([c] ++ t) = T) := Lib.hid (by rw [← hc, ← hj, ← dec_step hk9]; exact hr)
      have HM : Hid (k / 10 ≤ U ∧ k / 10 < k) := Lib.hid (by omega)
      have hsl : ∀ W : World, (Instr.slice 9 (.string ⟨#[48, 49, 50, 51, 52, 53, 54, 55, 56, 57]⟩) (some (.int .u64 (j : Int))) (some (.int .u64 ((j : Int) + 1))) none).run Tryz.prog W = .ok (.string ⟨[c].toArray⟩) W := fun W => by
        rw [run_slice_string W _ _ .u64 .u64 (j : Int) ((j : Int) + 1) (by kernel_rfl) (by omega) (by omega) (by show (j : Int) + 1 ≤ 10; omega), Int.toNat_natCast, show ((j : Int) + 1).toNat = j + 1 by omega, r4]
      have hcat := cat_svb [c] t
      have HW : Hid (IntKind.u64.wrap ((k : Int).tdiv 10) = ((k / 10 : Nat) : Int)) := Lib.hid (by rw [Int.tdiv_eq_ediv_of_nonneg (by omega), IntKind.wrap_u64]; omega)
      have hq : (k : Int) / 10 = ((k / 10 : Nat) : Int) := by omega
      generalize k / 10 = m at *
      clear hr hk9 ht cz hk hu hj hc r4
      generalize (⟨[c].toArray⟩ : ByteArray) = y at *
      generalize (⟨t.toArray⟩ : ByteArray) = z at *
      obtain ⟨x, hx⟩ : ∃ x : ByteArray, x = ⟨([c] ++ t).toArray⟩ := ⟨_, rfl⟩
      rw [← hx] at hcat
      have HX := Lib.hid hx
      have wm : IntKind.u64.wrap (m : Int) = m := by rw [IntKind.wrap_u64]; have := HM.out; have := HU.out; omega
      clear hx
      go_wp2_with fail
      go_roundw
      case rel => exact ⟨m, [c] ++ t, HM.out.1, rfl, by rw [HX.out], HR.out, trivial⟩
      case measure => have := HM.out; simp [intOf]; omega
    · have hz : ¬ (9 : Int) < k := by omega
      have r2 : IntKind.u64.wrap ((k : Int) + 1) = ((k + 1 : Nat) : Int) := by rw [IntKind.wrap_u64]; omega
      have r4 := dig_list k (by omega)
      obtain ⟨c, hc⟩ : ∃ c, UInt8.ofNat (48 + k) = c := ⟨_, rfl⟩
      rw [hc] at r4
      have c1 := cz c
      have HR : Hid (([c] ++ t) = T) := Lib.hid (by rw [← hc, ← dec_last hk9]; exact hr)
      have hsl : ∀ W : World, (Instr.slice 9 (.string ⟨#[48, 49, 50, 51, 52, 53, 54, 55, 56, 57]⟩) (some (.int .u64 (k : Int))) (some (.int .u64 ((k : Int) + 1))) none).run Tryz.prog W = .ok (.string ⟨[c].toArray⟩) W := fun W => by
        rw [run_slice_string W _ _ .u64 .u64 (k : Int) ((k : Int) + 1) (by kernel_rfl) (by omega) (by omega) (by show (k : Int) + 1 ≤ 10; omega), Int.toNat_natCast, show ((k : Int) + 1).toNat = k + 1 by omega, r4]
      have hcat := cat_svb [c] t
      clear hr hk9 ht cz hk hu hc r4
      generalize (⟨[c].toArray⟩ : ByteArray) = y at *
      generalize (⟨t.toArray⟩ : ByteArray) = z at *
      obtain ⟨x, hx⟩ : ∃ x : ByteArray, x = ⟨([c] ++ t).toArray⟩ := ⟨_, rfl⟩
      rw [← hx] at hcat
      have HX := Lib.hid hx
      clear hx
      go_wp2_with fail
      go_ret
      exact ⟨by rw [← HR.out]; exact congrArg (fun q => Ending.returned (.string q)) HX.out, rfl⟩
set_option maxRecDepth 100000 in
set_option maxHeartbeats 8000000 in
theorem refnum_any (n : Int) (hn : InJ n) (w : World) : Calls Tryz.prog 19 #[.int .i64 n] w fun e w' => e = .returned (sv (numS n)) ∧ w' = w := by
  obtain ⟨h1, h2⟩ := hn
  by_cases h0 : n < 0
  · have DG := Lib.hid fun W => refdigits_any n.natAbs (by omega) W
    have HN : Hid (numS n = [45] ++ Lib.decDigits n.natAbs) := Lib.hid (by unfold numS Lib.itoa; rw [if_pos h0]; rfl)
    have hl := Lib.nDigits_le20 n.natAbs (by omega)
    rw [← Lib.decDigits_length] at hl
    have e1 : IntKind.u64.wrap (0 - IntKind.u64.wrap n) = (n.natAbs : Int) := by rw [IntKind.wrap_u64, IntKind.wrap_u64]; omega
    have e2 : IntKind.u64.wrap (-IntKind.u64.wrap n) = (n.natAbs : Int) := by rw [IntKind.wrap_u64, IntKind.wrap_u64]; omega
    have e3 : IntKind.u64.wrap (-n) = (n.natAbs : Int) := by rw [IntKind.wrap_u64]; omega
    have hcat := cat_svb [45] (Lib.decDigits n.natAbs)
    have c1 : ¬ 9223372036854775807 < 1 + (⟨(Lib.decDigits n.natAbs).toArray⟩ : ByteArray).size := by rw [sz_s]; omega
    unfold sv at DG
    generalize (n.natAbs : Int) = u at *
    generalize Lib.decDigits n.natAbs = d at *
    clear h1 h2 hl
    rw [show (⟨[45].toArray⟩ : ByteArray) = ⟨#[45]⟩ from rfl] at hcat
    obtain ⟨x, hx⟩ : ∃ x : ByteArray, x = ⟨([45] ++ d).toArray⟩ := ⟨_, rfl⟩
    rw [← hx] at hcat
    have HX := Lib.hid hx
    clear hx
    generalize (⟨d.toArray⟩ : ByteArray) = y at *
    go_enter Tryz.func19, Tryz.ntmps19
    go_wp2_with (go_at_call 41; fail)
    refine (DG.out _).mono ?_
    rintro e w2 ⟨rfl, rfl⟩
    clear DG
    go_wp2_with fail
    go_ret
    exact ⟨by rw [HN.out]; exact congrArg (fun q => Ending.returned (.string q)) HX.out, rfl⟩
  · have DG := Lib.hid fun W => refdigits_any n.toNat (by omega) W
    have HN : Hid (numS n = Lib.decDigits n.toNat) := Lib.hid (by unfold numS Lib.itoa; rw [if_neg h0])
    have e1 : IntKind.u64.wrap n = (n.toNat : Int) := by rw [IntKind.wrap_u64]; omega
    unfold sv at DG
    generalize (n.toNat : Int) = u at *
    generalize Lib.decDigits n.toNat = d at *
    obtain ⟨y, hy⟩ : ∃ y : ByteArray, y = ⟨d.toArray⟩ := ⟨_, rfl⟩
    rw [← hy] at DG
    have HY := Lib.hid hy
    clear hy
    clear h1 h2
    go_enter Tryz.func19, Tryz.ntmps19
    go_wp2_with (go_at_call 41; fail)
    refine (DG.out _).mono ?_
    rintro e w2 ⟨rfl, rfl⟩
    clear DG
    go_wp2_with fail
    go_ret
    exact ⟨by rw [HN.out]; exact congrArg (fun q => Ending.returned (.string q)) HY.out, rfl⟩
end Go.Proofs.YtdefgghhkknnpaaGreatDoor.sh
