/- The landed parser's expressions: operation, unary, factor and expression, over what the parts give. No condition but what each line says. -/
import Derived.Test.YtbcpkhegmbdifaaGreatU13
namespace Go.Proofs.YtbcpkhegmbdifaaGreat.tr
open Go.ChangeShapes Go.WideShapes Go.ChangeAt Go.RowKit Go.Proofs.YtbcpkhegmbdifaaGreat.k Go.Proofs.YtbcpkhegmbdifaaGreat.rr Go.Proofs.YtbcpkhegmbdifaaGreat.tk
set_option linter.unusedVariables false

/-- an operation of two that a sign tells, and its level -/
def opS (s : Str) : Int × Nat := if s = [79, 82] then (21, 0) else if s = [88, 79, 82] then (20, 1) else if s = [65, 78, 68] then (19, 2) else if s = [61] then (13, 3) else if s = [60, 62] then (14, 3) else if s = [60] then (15, 3) else if s = [62] then (16, 3) else if s = [60, 61] then (17, 3) else if s = [62, 61] then (18, 3) else if s = [43] then (8, 4) else if s = [45] then (9, 4) else if s = [42] then (10, 5) else if s = [47] then (11, 5) else if s = [77, 79, 68] then (12, 5) else (0, 0)
theorem op_yes {m : Nat} (hm : m ≤ 5) {s : Str} (h : opOf (m + 1) s ≠ 0) : opS s = (opOf (m + 1) s, m) := by
 match m, hm with
 | 0, _ | 1, _ | 2, _ | 3, _ | 4, _ | 5, _ =>
  unfold opOf at h ⊢
  simp only [Nat.zero_add, Nat.reduceAdd] at h ⊢
  repeat' split
  all_goals first
   | (rename_i e; subst e; rfl)
   | simp_all
theorem op_no {m : Nat} (hm : m ≤ 5) {s : Str} (h : opOf (m + 1) s = 0) : (opS s).1 = 0 ∨ (opS s).2 ≠ m := by
 by_cases e0 : s = [79, 82]
 ·subst e0; exact (by decide : ∀ m : Fin 6, opOf (m.val + 1) [79, 82] = 0 → (opS [79, 82]).1 = 0 ∨ (opS [79, 82]).2 ≠ m.val) ⟨m, by omega⟩ h
 by_cases e1 : s = [88, 79, 82]
 ·subst e1; exact (by decide : ∀ m : Fin 6, opOf (m.val + 1) [88, 79, 82] = 0 → (opS [88, 79, 82]).1 = 0 ∨ (opS [88, 79, 82]).2 ≠ m.val) ⟨m, by omega⟩ h
 by_cases e2 : s = [65, 78, 68]
 ·subst e2; exact (by decide : ∀ m : Fin 6, opOf (m.val + 1) [65, 78, 68] = 0 → (opS [65, 78, 68]).1 = 0 ∨ (opS [65, 78, 68]).2 ≠ m.val) ⟨m, by omega⟩ h
 by_cases e3 : s = [61]
 ·subst e3; exact (by decide : ∀ m : Fin 6, opOf (m.val + 1) [61] = 0 → (opS [61]).1 = 0 ∨ (opS [61]).2 ≠ m.val) ⟨m, by omega⟩ h
 by_cases e4 : s = [60, 62]
 ·subst e4; exact (by decide : ∀ m : Fin 6, opOf (m.val + 1) [60, 62] = 0 → (opS [60, 62]).1 = 0 ∨ (opS [60, 62]).2 ≠ m.val) ⟨m, by omega⟩ h
 by_cases e5 : s = [60]
 ·subst e5; exact (by decide : ∀ m : Fin 6, opOf (m.val + 1) [60] = 0 → (opS [60]).1 = 0 ∨ (opS [60]).2 ≠ m.val) ⟨m, by omega⟩ h
 by_cases e6 : s = [62]
 ·subst e6; exact (by decide : ∀ m : Fin 6, opOf (m.val + 1) [62] = 0 → (opS [62]).1 = 0 ∨ (opS [62]).2 ≠ m.val) ⟨m, by omega⟩ h
 by_cases e7 : s = [60, 61]
 ·subst e7; exact (by decide : ∀ m : Fin 6, opOf (m.val + 1) [60, 61] = 0 → (opS [60, 61]).1 = 0 ∨ (opS [60, 61]).2 ≠ m.val) ⟨m, by omega⟩ h
 by_cases e8 : s = [62, 61]
 ·subst e8; exact (by decide : ∀ m : Fin 6, opOf (m.val + 1) [62, 61] = 0 → (opS [62, 61]).1 = 0 ∨ (opS [62, 61]).2 ≠ m.val) ⟨m, by omega⟩ h
 by_cases e9 : s = [43]
 ·subst e9; exact (by decide : ∀ m : Fin 6, opOf (m.val + 1) [43] = 0 → (opS [43]).1 = 0 ∨ (opS [43]).2 ≠ m.val) ⟨m, by omega⟩ h
 by_cases e10 : s = [45]
 ·subst e10; exact (by decide : ∀ m : Fin 6, opOf (m.val + 1) [45] = 0 → (opS [45]).1 = 0 ∨ (opS [45]).2 ≠ m.val) ⟨m, by omega⟩ h
 by_cases e11 : s = [42]
 ·subst e11; exact (by decide : ∀ m : Fin 6, opOf (m.val + 1) [42] = 0 → (opS [42]).1 = 0 ∨ (opS [42]).2 ≠ m.val) ⟨m, by omega⟩ h
 by_cases e12 : s = [47]
 ·subst e12; exact (by decide : ∀ m : Fin 6, opOf (m.val + 1) [47] = 0 → (opS [47]).1 = 0 ∨ (opS [47]).2 ≠ m.val) ⟨m, by omega⟩ h
 by_cases e13 : s = [77, 79, 68]
 ·subst e13; exact (by decide : ∀ m : Fin 6, opOf (m.val + 1) [77, 79, 68] = 0 → (opS [77, 79, 68]).1 = 0 ∨ (opS [77, 79, 68]).2 ≠ m.val) ⟨m, by omega⟩ h
 left
 unfold opS
 rw [if_neg e0, if_neg e1, if_neg e2, if_neg e3, if_neg e4, if_neg e5, if_neg e6, if_neg e7, if_neg e8, if_neg e9, if_neg e10, if_neg e11, if_neg e12, if_neg e13]
theorem txt_two {r : Sg} {s : Str} (h : txt r = s) (h0 : s ≠ []) : (hd r).kind = 2 ∨ (hd r).kind = 4 := by
 cases r with
 | nil => exact absurd h.symm h0
 | cons t r =>
  have h : (if t.kind = 2 ∨ t.kind = 4 then t.text else []) = s := h
  by_cases hk : t.kind = 2 ∨ t.kind = 4
  ·exact hk
  ·rw [if_neg hk] at h
   exact absurd h.symm h0
theorem txt_none {r : Sg} (h : ¬ ((hd r).kind = 2 ∨ (hd r).kind = 4)) : txt r = [] := by
 cases r with
 | nil => rfl
 | cons t r => exact if_neg h
theorem op_head {m : Nat} (hm : m ≤ 5) {r : Sg} (hr : RowOk r) : (opOf (m + 1) (txt r) = 0 → (opS (headS (hd r))).1 = 0 ∨ (opS (headS (hd r))).2 ≠ m) ∧ (opOf (m + 1) (txt r) ≠ 0 → opS (headS (hd r)) = (opOf (m + 1) (txt r), m) ∧ (hd r).kind ≠ 0) := by
 by_cases hk : (hd r).kind = 2 ∨ (hd r).kind = 4
 ·have e : headS (hd r) = txt r := by
   cases r with
   | nil => exact hr.elim
   | cons t r =>
    have hk' : t.kind = 2 ∨ t.kind = 4 := hk
    show headS t = if t.kind = 2 ∨ t.kind = 4 then t.text else []
    rw [if_pos hk']
    unfold headS
    rw [if_neg (by omega), if_neg (by omega), if_neg (by omega)]
  rw [e]
  exact ⟨op_no hm, fun h => ⟨op_yes hm h, by omega⟩⟩
 ·rw [txt_none hk]
  have h0 : opOf (m + 1) [] = 0 := by
   match m, hm with
   | 0, _ | 1, _ | 2, _ | 3, _ | 4, _ | 5, _ => rfl
  refine ⟨fun _ => .inl ?_, fun h => absurd h0 h⟩
  rcases hr.hd with h | ⟨h, _⟩ | h | ⟨h, _⟩
  ·rw [((headS_kind hr).2.2).2 h]; rfl
  ·exact absurd h hk
  ·rw [((headS_kind hr).1).2 h]; rfl
  ·rw [((headS_kind hr).2.1).2 h]; rfl

set_option maxRecDepth 100000 in
set_option maxHeartbeats 4000000 in
theorem operation_any (s : Str) (w : World) : Calls Tryz.prog 101 #[sv s] w fun e w' => e = .returned (.tuple #[.int .i64 (opS s).1, .int .i64 (opS s).2]) ∧ w' = w := by
 by_cases h0 : s = [79, 82]
 ·subst h0
  show Calls _ _ #[.string ⟨#[79, 82]⟩] _ fun e w' => e = .returned (.tuple #[.int .i64 21, .int .i64 0]) ∧ _
  go_enter Tryz.func101, Tryz.ntmps101
  go_wp2
  go_ret2
  exact ⟨rfl, rfl⟩
 by_cases h1 : s = [88, 79, 82]
 ·subst h1
  show Calls _ _ #[.string ⟨#[88, 79, 82]⟩] _ fun e w' => e = .returned (.tuple #[.int .i64 20, .int .i64 1]) ∧ _
  go_enter Tryz.func101, Tryz.ntmps101
  go_wp2
  go_ret2
  exact ⟨rfl, rfl⟩
 by_cases h2 : s = [65, 78, 68]
 ·subst h2
  show Calls _ _ #[.string ⟨#[65, 78, 68]⟩] _ fun e w' => e = .returned (.tuple #[.int .i64 19, .int .i64 2]) ∧ _
  go_enter Tryz.func101, Tryz.ntmps101
  go_wp2
  go_ret2
  exact ⟨rfl, rfl⟩
 by_cases h3 : s = [61]
 ·subst h3
  show Calls _ _ #[.string ⟨#[61]⟩] _ fun e w' => e = .returned (.tuple #[.int .i64 13, .int .i64 3]) ∧ _
  go_enter Tryz.func101, Tryz.ntmps101
  go_wp2
  go_ret2
  exact ⟨rfl, rfl⟩
 by_cases h4 : s = [60, 62]
 ·subst h4
  show Calls _ _ #[.string ⟨#[60, 62]⟩] _ fun e w' => e = .returned (.tuple #[.int .i64 14, .int .i64 3]) ∧ _
  go_enter Tryz.func101, Tryz.ntmps101
  go_wp2
  go_ret2
  exact ⟨rfl, rfl⟩
 by_cases h5 : s = [60]
 ·subst h5
  show Calls _ _ #[.string ⟨#[60]⟩] _ fun e w' => e = .returned (.tuple #[.int .i64 15, .int .i64 3]) ∧ _
  go_enter Tryz.func101, Tryz.ntmps101
  go_wp2
  go_ret2
  exact ⟨rfl, rfl⟩
 by_cases h6 : s = [62]
 ·subst h6
  show Calls _ _ #[.string ⟨#[62]⟩] _ fun e w' => e = .returned (.tuple #[.int .i64 16, .int .i64 3]) ∧ _
  go_enter Tryz.func101, Tryz.ntmps101
  go_wp2
  go_ret2
  exact ⟨rfl, rfl⟩
 by_cases h7 : s = [60, 61]
 ·subst h7
  show Calls _ _ #[.string ⟨#[60, 61]⟩] _ fun e w' => e = .returned (.tuple #[.int .i64 17, .int .i64 3]) ∧ _
  go_enter Tryz.func101, Tryz.ntmps101
  go_wp2
  go_ret2
  exact ⟨rfl, rfl⟩
 by_cases h8 : s = [62, 61]
 ·subst h8
  show Calls _ _ #[.string ⟨#[62, 61]⟩] _ fun e w' => e = .returned (.tuple #[.int .i64 18, .int .i64 3]) ∧ _
  go_enter Tryz.func101, Tryz.ntmps101
  go_wp2
  go_ret2
  exact ⟨rfl, rfl⟩
 by_cases h9 : s = [43]
 ·subst h9
  show Calls _ _ #[.string ⟨#[43]⟩] _ fun e w' => e = .returned (.tuple #[.int .i64 8, .int .i64 4]) ∧ _
  go_enter Tryz.func101, Tryz.ntmps101
  go_wp2
  go_ret2
  exact ⟨rfl, rfl⟩
 by_cases h10 : s = [45]
 ·subst h10
  show Calls _ _ #[.string ⟨#[45]⟩] _ fun e w' => e = .returned (.tuple #[.int .i64 9, .int .i64 4]) ∧ _
  go_enter Tryz.func101, Tryz.ntmps101
  go_wp2
  go_ret2
  exact ⟨rfl, rfl⟩
 by_cases h11 : s = [42]
 ·subst h11
  show Calls _ _ #[.string ⟨#[42]⟩] _ fun e w' => e = .returned (.tuple #[.int .i64 10, .int .i64 5]) ∧ _
  go_enter Tryz.func101, Tryz.ntmps101
  go_wp2
  go_ret2
  exact ⟨rfl, rfl⟩
 by_cases h12 : s = [47]
 ·subst h12
  show Calls _ _ #[.string ⟨#[47]⟩] _ fun e w' => e = .returned (.tuple #[.int .i64 11, .int .i64 5]) ∧ _
  go_enter Tryz.func101, Tryz.ntmps101
  go_wp2
  go_ret2
  exact ⟨rfl, rfl⟩
 by_cases h13 : s = [77, 79, 68]
 ·subst h13
  show Calls _ _ #[.string ⟨#[77, 79, 68]⟩] _ fun e w' => e = .returned (.tuple #[.int .i64 12, .int .i64 5]) ∧ _
  go_enter Tryz.func101, Tryz.ntmps101
  go_wp2
  go_ret2
  exact ⟨rfl, rfl⟩
 have e0 : opS s = (0, 0) := by unfold opS; rw [if_neg h0, if_neg h1, if_neg h2, if_neg h3, if_neg h4, if_neg h5, if_neg h6, if_neg h7, if_neg h8, if_neg h9, if_neg h10, if_neg h11, if_neg h12, if_neg h13]
 rw [e0]
 have q0 : ((⟨s.toArray⟩ : ByteArray).toList == [79, 82]) = false := by rw [ByteArray.toList_eq]; exact beq_eq_false_iff_ne.2 h0
 have q1 : ((⟨s.toArray⟩ : ByteArray).toList == [88, 79, 82]) = false := by rw [ByteArray.toList_eq]; exact beq_eq_false_iff_ne.2 h1
 have q2 : ((⟨s.toArray⟩ : ByteArray).toList == [65, 78, 68]) = false := by rw [ByteArray.toList_eq]; exact beq_eq_false_iff_ne.2 h2
 have q3 : ((⟨s.toArray⟩ : ByteArray).toList == [61]) = false := by rw [ByteArray.toList_eq]; exact beq_eq_false_iff_ne.2 h3
 have q4 : ((⟨s.toArray⟩ : ByteArray).toList == [60, 62]) = false := by rw [ByteArray.toList_eq]; exact beq_eq_false_iff_ne.2 h4
 have q5 : ((⟨s.toArray⟩ : ByteArray).toList == [60]) = false := by rw [ByteArray.toList_eq]; exact beq_eq_false_iff_ne.2 h5
 have q6 : ((⟨s.toArray⟩ : ByteArray).toList == [62]) = false := by rw [ByteArray.toList_eq]; exact beq_eq_false_iff_ne.2 h6
 have q7 : ((⟨s.toArray⟩ : ByteArray).toList == [60, 61]) = false := by rw [ByteArray.toList_eq]; exact beq_eq_false_iff_ne.2 h7
 have q8 : ((⟨s.toArray⟩ : ByteArray).toList == [62, 61]) = false := by rw [ByteArray.toList_eq]; exact beq_eq_false_iff_ne.2 h8
 have q9 : ((⟨s.toArray⟩ : ByteArray).toList == [43]) = false := by rw [ByteArray.toList_eq]; exact beq_eq_false_iff_ne.2 h9
 have q10 : ((⟨s.toArray⟩ : ByteArray).toList == [45]) = false := by rw [ByteArray.toList_eq]; exact beq_eq_false_iff_ne.2 h10
 have q11 : ((⟨s.toArray⟩ : ByteArray).toList == [42]) = false := by rw [ByteArray.toList_eq]; exact beq_eq_false_iff_ne.2 h11
 have q12 : ((⟨s.toArray⟩ : ByteArray).toList == [47]) = false := by rw [ByteArray.toList_eq]; exact beq_eq_false_iff_ne.2 h12
 have q13 : ((⟨s.toArray⟩ : ByteArray).toList == [77, 79, 68]) = false := by rw [ByteArray.toList_eq]; exact beq_eq_false_iff_ne.2 h13
 clear h0 h1 h2 h3 h4 h5 h6 h7 h8 h9 h10 h11 h12 h13 e0
 unfold sv
 generalize (⟨s.toArray⟩ : ByteArray) = X at *
 go_enter Tryz.func101, Tryz.ntmps101
 go_wp2
 go_ret2
 exact ⟨rfl, rfl⟩
section
variable {r : Sg} {V : Value} {d g : Nat} {w : World}

set_option maxRecDepth 100000 in
set_option maxHeartbeats 4000000 in
theorem expression_any (hP : Par w g r V d) (hr : RowOk r) {p : Res Ex} (HO : ∀ V g w, Par w g r V d → Calls Tryz.prog 96 #[.pointer (some ⟨g, 0, none⟩), .int .i64 0] w (Gv g V d w GotE p)) :
  Calls Tryz.prog 84 #[.pointer (some ⟨g, 0, none⟩)] w (Gv g V d w GotE p) := by
 have HOO := Lib.hid HO
 clear HO
 have P1 := Lib.hid hP
 have G1 := Lib.hid (gr_refl w (some g))
 have R1 := Lib.hid hr
 have Z1 := Lib.hid (show g < w.heap.size from hP.lt)
 clear hP hr
 go_enter Tryz.func84, Tryz.ntmps84
 go_upto_region 1 with (fail)
 have hb := (Below.refl w.heap.size w).alloc (Nat.le_refl _) (.cells #[.int .i64 0, .int .i64 0, .string ⟨#[]⟩, .string ⟨#[]⟩, .slice none 0 0, .int .i64 0] 39)
 have hx := Box.new w #[.int .i64 0, .int .i64 0, .string ⟨#[]⟩, .string ⟨#[]⟩, .slice none 0 0, .int .i64 0] 39
 have hz : (w.alloc (.cells #[.int .i64 0, .int .i64 0, .string ⟨#[]⟩, .string ⟨#[]⟩, .slice none 0 0, .int .i64 0] 39)).heap.size = w.heap.size + 1 := by simp
 generalize w.alloc (.cells #[.int .i64 0, .int .i64 0, .string ⟨#[]⟩, .string ⟨#[]⟩, .slice none 0 0, .int .i64 0] 39) = w4 at *
 have hg := gr_of (row := some w.heap.size) hb
 have Z2 := Lib.hid (And.intro hz Z1.out)
 have X3 := Lib.hid hx
 clear hb hx hz
 have P4 := Lib.hid (P1.out.gr hg (by have z := Z1.out; omega))
 clear P1
 have G5 := hgt hg G1 (fun _ => by have z := Z1.out; omega)
 clear G1
 have Z6 := hzz hg Z2
 clear hg
 go_wp2_with (go_at_call 96; fail)
 refine (HOO.out _ _ _ P4.out).mono ?_
 rintro e w5 hgv
 rcases p with ⟨x1, r1⟩ | ⟨n9, t9⟩
 rotate_left
 ·skip
  obtain ⟨rfl, hg⟩ := hgv
  go_wp2
  exact ⟨rfl, Gv.badOf rfl (gr_trans G5.out hg)⟩
 obtain ⟨⟨v9, rfl, hG⟩, hP9, hr9, hg⟩ := hgv
 have P7 := Lib.hid hP9
 have R8 := Lib.hid hr9
 have X9 := hbx hg (by have z := Z6.out; omega) X3
 clear X3
 clear P4
 have G10 := Lib.hid (gr_trans G5.out hg)
 clear G5
 have Z11 := hzz hg Z6
 clear hg hP9 hr9 R1
 obtain ⟨h12, rfl, hE9⟩ := hG
 have E13 := Lib.hid hE9
 clear hE9
 go_wp2_with ((with_reducible refine m_store X9.out 39 2 4 ?_ ?_ ?_ (eC h12) ?_ ?_ ?_ ?_ (eC_one _) ?_); rfl; rfl; rfl; rfl; rfl; rfl; kernel_rfl; intro w6 hx hg hs)
 have X15 := Lib.hid hx
 have Z16 := Lib.hid (And.intro hs Z11.out)
 clear hx hs X9
 have E17 := hkExB hg (by have z := Z11.out; omega) E13
 clear E13
 have P18 := Lib.hid (P7.out.gr hg (by have z := Z11.out; omega))
 clear P7
 have G19 := hgt hg G10 (fun _ => by have z := Z11.out; omega)
 clear G10
 have Z20 := hzz hg Z16
 clear hg
 refine bodyPost_ret (k.results_cell rfl rfl (run_loadVar_mid _ w.heap.size 0 39 _ _ X15.out.range rfl rfl (by kernel_rfl))) rfl ?_
 exact Gv.okOf rfl ⟨h12, rfl, (ExB.kept (more_nw (by have z := Z20.out; omega) (by have z := Z20.out; omega)) E17.out)⟩ P18.out R8.out G19.out
set_option maxRecDepth 100000 in
set_option maxHeartbeats 4000000 in
theorem ops_last (hP : Par w g r V d) (hr : RowOk r) {p : Res Ex} (HO : ECtr Tryz.prog 100 p d r) :
  Calls Tryz.prog 96 #[.pointer (some ⟨g, 0, none⟩), .int .i64 6] w (Gv g V d w GotE p) := by
 have HOO := Lib.hid HO
 clear HO
 have P1 := Lib.hid hP
 have G1 := Lib.hid (gr_refl w (some g))
 have R1 := Lib.hid hr
 have Z1 := Lib.hid (show g < w.heap.size from hP.lt)
 clear hP hr
 go_enter Tryz.func96, Tryz.ntmps96
 go_upto_region 1 with (fail)
 have hb := (Below.refl w.heap.size w).alloc (Nat.le_refl _) (.cells #[.int .i64 0, .int .i64 0, .string ⟨#[]⟩, .string ⟨#[]⟩, .slice none 0 0, .int .i64 0] 39)
 have hx := Box.new w #[.int .i64 0, .int .i64 0, .string ⟨#[]⟩, .string ⟨#[]⟩, .slice none 0 0, .int .i64 0] 39
 have hz : (w.alloc (.cells #[.int .i64 0, .int .i64 0, .string ⟨#[]⟩, .string ⟨#[]⟩, .slice none 0 0, .int .i64 0] 39)).heap.size = w.heap.size + 1 := by simp
 generalize w.alloc (.cells #[.int .i64 0, .int .i64 0, .string ⟨#[]⟩, .string ⟨#[]⟩, .slice none 0 0, .int .i64 0] 39) = w4 at *
 have hg := gr_of (row := some w.heap.size) hb
 have Z2 := Lib.hid (And.intro hz Z1.out)
 have X3 := Lib.hid hx
 clear hb hx hz
 have P4 := Lib.hid (P1.out.gr hg (by have z := Z1.out; omega))
 clear P1
 have G5 := hgt hg G1 (fun _ => by have z := Z1.out; omega)
 clear G1
 have Z6 := hzz hg Z2
 clear hg
 go_wp2_with (go_at_call 100; fail)
 refine (HOO.out _ _ _ P4.out).mono ?_
 rintro e w5 hgv
 rcases p with ⟨x1, r1⟩ | ⟨n9, t9⟩
 rotate_left
 ·skip
  obtain ⟨rfl, hg⟩ := hgv
  go_wp2
  exact ⟨rfl, Gv.badOf rfl (gr_trans G5.out hg)⟩
 obtain ⟨⟨v9, rfl, hG⟩, hP9, hr9, hg⟩ := hgv
 have P7 := Lib.hid hP9
 have R8 := Lib.hid hr9
 have X9 := hbx hg (by have z := Z6.out; omega) X3
 clear X3
 clear P4
 have G10 := Lib.hid (gr_trans G5.out hg)
 clear G5
 have Z11 := hzz hg Z6
 clear hg hP9 hr9 R1
 obtain ⟨h12, rfl, hE9⟩ := hG
 have E13 := Lib.hid hE9
 clear hE9
 go_wp2_with ((with_reducible refine m_store X9.out 39 4 13 ?_ ?_ ?_ (eC h12) ?_ ?_ ?_ ?_ (eC_one _) ?_); rfl; rfl; rfl; rfl; rfl; rfl; kernel_rfl; intro w6 hx hg hs)
 have X15 := Lib.hid hx
 have Z16 := Lib.hid (And.intro hs Z11.out)
 clear hx hs X9
 have E17 := hkExB hg (by have z := Z11.out; omega) E13
 clear E13
 have P18 := Lib.hid (P7.out.gr hg (by have z := Z11.out; omega))
 clear P7
 have G19 := hgt hg G10 (fun _ => by have z := Z11.out; omega)
 clear G10
 have Z20 := hzz hg Z16
 clear hg
 refine bodyPost_ret (k.results_cell rfl rfl (run_loadVar_mid _ w.heap.size 0 39 _ _ X15.out.range rfl rfl (by kernel_rfl))) rfl ?_
 exact Gv.okOf rfl ⟨h12, rfl, (ExB.kept (more_nw (by have z := Z20.out; omega) (by have z := Z20.out; omega)) E17.out)⟩ P18.out R8.out G19.out
set_option maxRecDepth 100000 in
set_option maxHeartbeats 4000000 in
theorem unary_any (hP : Par w g r V d) (hr : RowOk r) (hd : d ≤ 32) (f : Nat) (HU : (tr.hd r).kind ≠ 0 → d < 32 → ECtr Tryz.prog 100 (unaryF f (d + 1) (r.drop 1)) (d + 1) (r.drop 1)) (HF : txt r ≠ [45] → txt r ≠ [78, 79, 84] → ECtr Tryz.prog 104 (unaryF (f + 1) d r) d r) :
  Calls Tryz.prog 100 #[.pointer (some ⟨g, 0, none⟩)] w (Gv g V d w GotE (unaryF (f + 1) d r)) := by
 obtain ⟨R, hR⟩ : ∃ R : Res Ex, (unaryF (f + 1) d r) = R := ⟨_, rfl⟩
 rw [hR]
 have HR := Lib.hid hR
 clear hR
 have HUU := Lib.hid HU
 have HFF := Lib.hid HF
 clear HU HF
 have P1 := Lib.hid hP
 have G1 := Lib.hid (gr_refl w (some g))
 have R1 := Lib.hid hr
 have Z1 := Lib.hid (show g < w.heap.size from hP.lt)
 clear hP hr
 go_enter Tryz.func100, Tryz.ntmps100
 go_upto_region 1 with (fail)
 have hb := (Below.refl w.heap.size w).alloc (Nat.le_refl _) (.cells #[.int .i64 0, .int .i64 0, .string ⟨#[]⟩, .string ⟨#[]⟩, .slice none 0 0, .int .i64 0] 39)
 have hx := Box.new w #[.int .i64 0, .int .i64 0, .string ⟨#[]⟩, .string ⟨#[]⟩, .slice none 0 0, .int .i64 0] 39
 have hz : (w.alloc (.cells #[.int .i64 0, .int .i64 0, .string ⟨#[]⟩, .string ⟨#[]⟩, .slice none 0 0, .int .i64 0] 39)).heap.size = w.heap.size + 1 := by simp
 generalize w.alloc (.cells #[.int .i64 0, .int .i64 0, .string ⟨#[]⟩, .string ⟨#[]⟩, .slice none 0 0, .int .i64 0] 39) = w4 at *
 have hg := gr_of (row := some w.heap.size) hb
 have Z2 := Lib.hid (And.intro hz Z1.out)
 have X3 := Lib.hid hx
 clear hb hx hz
 have P4 := Lib.hid (P1.out.gr hg (by have z := Z1.out; omega))
 clear P1
 have G5 := hgt hg G1 (fun _ => by have z := Z1.out; omega)
 clear G1
 have Z6 := hzz hg Z2
 clear hg
 by_cases hw0 : txt r = [45]
 ·skip
  have hq := HR.out
  rw [unaryF, if_pos (Or.inl hw0)] at hq
  have HR7 := Lib.hid hq
  clear hq HR
  have hif : (if txt r = [45] then (6 : Int) else 7) = 6 := if_pos hw0
  have hq := HR7.out
  rw [hif] at hq
  have HR8 := Lib.hid hq
  clear hq HR7
  clear hif
  have HA := Lib.hid (head_any P4.out R1.out)
  unfold sv at HA
  have q0 : ((⟨(headS (tr.hd (r))).toArray⟩ : ByteArray).toList == [45]) = true := by rw [ByteArray.toList_eq]; exact beq_iff_eq.2 ((headS_txt R1.out (by decide) (by decide) (by decide) (by decide)).2 hw0)
  generalize (⟨(headS (tr.hd (r))).toArray⟩ : ByteArray) = XH at *
  go_wp2_with (go_at_call 28; fail)
  refine (HA.out).mono ?_
  rintro e w5 ⟨rfl, hb⟩
  have hg := gr_of (row := some w4.heap.size) hb
  have X9 := hbx hg (by have z := Z6.out; omega) X3
  clear X3
  have P10 := Lib.hid (P4.out.gr hg (by have z := Z6.out; omega))
  clear P4
  have G11 := hgt hg G5 (fun _ => by have z := Z6.out; omega)
  clear G5
  have Z12 := hzz hg Z6
  clear hg hb
  clear HA
  have HOF := Lib.hid (show ∀ W, Par W g r V d → Calls Tryz.prog 103 #[.pointer (some ⟨g, 0, none⟩), .int .i64 6] W (Gv g V d W GotE R) from fun W h => HR8.out ▸ ofOne_any h R1.out hd (txt_kind hw0 (by decide)) 6 f (HUU.out (txt_kind hw0 (by decide))))
  clear HR8
  go_wp2_with (go_at_call 103; fail)
  refine (HOF.out _ P10.out).mono ?_
  rintro e w6 hgv
  rcases R with ⟨x1, r1⟩ | ⟨n9, t9⟩
  rotate_left
  ·skip
   obtain ⟨rfl, hg⟩ := hgv
   go_wp2
   exact ⟨rfl, Gv.badOf rfl (gr_trans G11.out hg)⟩
  obtain ⟨⟨v9, rfl, hG⟩, hP9, hr9, hg⟩ := hgv
  have P13 := Lib.hid hP9
  have R14 := Lib.hid hr9
  have X15 := hbx hg (by have z := Z12.out; omega) X9
  clear X9
  clear P10
  have G16 := Lib.hid (gr_trans G11.out hg)
  clear G11
  have Z17 := hzz hg Z12
  clear hg hP9 hr9 R1
  obtain ⟨h18, rfl, hE9⟩ := hG
  have E19 := Lib.hid hE9
  clear hE9
  go_wp2_with ((with_reducible refine m_store X15.out 39 2 8 ?_ ?_ ?_ (eC h18) ?_ ?_ ?_ ?_ (eC_one _) ?_); rfl; rfl; rfl; rfl; rfl; rfl; kernel_rfl; intro w7 hx hg hs)
  have X21 := Lib.hid hx
  have Z22 := Lib.hid (And.intro hs Z17.out)
  clear hx hs X15
  have E23 := hkExB hg (by have z := Z17.out; omega) E19
  clear E19
  have P24 := Lib.hid (P13.out.gr hg (by have z := Z17.out; omega))
  clear P13
  have G25 := hgt hg G16 (fun _ => by have z := Z17.out; omega)
  clear G16
  have Z26 := hzz hg Z22
  clear hg
  refine bodyPost_ret (k.results_cell rfl rfl (run_loadVar_mid _ w.heap.size 0 39 _ _ X21.out.range rfl rfl (by kernel_rfl))) rfl ?_
  exact Gv.okOf rfl ⟨h18, rfl, (ExB.kept (more_nw (by have z := Z26.out; omega) (by have z := Z26.out; omega)) E23.out)⟩ P24.out R14.out G25.out
 by_cases hw1 : txt r = [78, 79, 84]
 ·skip
  have hq := HR.out
  rw [unaryF, if_pos (Or.inr hw1)] at hq
  have HR7 := Lib.hid hq
  clear hq HR
  have hif : (if txt r = [45] then (6 : Int) else 7) = 7 := if_neg hw0
  have hq := HR7.out
  rw [hif] at hq
  have HR8 := Lib.hid hq
  clear hq HR7
  clear hif
  have HA := Lib.hid (head_any P4.out R1.out)
  unfold sv at HA
  have q0 : ((⟨(headS (tr.hd (r))).toArray⟩ : ByteArray).toList == [45]) = false := by rw [ByteArray.toList_eq]; exact beq_eq_false_iff_ne.2 (mt (headS_txt R1.out (by decide) (by decide) (by decide) (by decide)).1 hw0)
  have q1 : ((⟨(headS (tr.hd (r))).toArray⟩ : ByteArray).toList == [78, 79, 84]) = true := by rw [ByteArray.toList_eq]; exact beq_iff_eq.2 ((headS_txt R1.out (by decide) (by decide) (by decide) (by decide)).2 hw1)
  generalize (⟨(headS (tr.hd (r))).toArray⟩ : ByteArray) = XH at *
  go_wp2_with (go_at_call 28; fail)
  refine (HA.out).mono ?_
  rintro e w5 ⟨rfl, hb⟩
  have hg := gr_of (row := some w4.heap.size) hb
  have X9 := hbx hg (by have z := Z6.out; omega) X3
  clear X3
  have P10 := Lib.hid (P4.out.gr hg (by have z := Z6.out; omega))
  clear P4
  have G11 := hgt hg G5 (fun _ => by have z := Z6.out; omega)
  clear G5
  have Z12 := hzz hg Z6
  clear hg hb
  clear HA
  have HOF := Lib.hid (show ∀ W, Par W g r V d → Calls Tryz.prog 103 #[.pointer (some ⟨g, 0, none⟩), .int .i64 7] W (Gv g V d W GotE R) from fun W h => HR8.out ▸ ofOne_any h R1.out hd (txt_kind hw1 (by decide)) 7 f (HUU.out (txt_kind hw1 (by decide))))
  clear HR8
  go_wp2_with (go_at_call 103; fail)
  refine (HOF.out _ P10.out).mono ?_
  rintro e w6 hgv
  rcases R with ⟨x1, r1⟩ | ⟨n9, t9⟩
  rotate_left
  ·skip
   obtain ⟨rfl, hg⟩ := hgv
   go_wp2
   exact ⟨rfl, Gv.badOf rfl (gr_trans G11.out hg)⟩
  obtain ⟨⟨v9, rfl, hG⟩, hP9, hr9, hg⟩ := hgv
  have P13 := Lib.hid hP9
  have R14 := Lib.hid hr9
  have X15 := hbx hg (by have z := Z12.out; omega) X9
  clear X9
  clear P10
  have G16 := Lib.hid (gr_trans G11.out hg)
  clear G11
  have Z17 := hzz hg Z12
  clear hg hP9 hr9 R1
  obtain ⟨h18, rfl, hE9⟩ := hG
  have E19 := Lib.hid hE9
  clear hE9
  go_wp2_with ((with_reducible refine m_store X15.out 39 2 12 ?_ ?_ ?_ (eC h18) ?_ ?_ ?_ ?_ (eC_one _) ?_); rfl; rfl; rfl; rfl; rfl; rfl; kernel_rfl; intro w7 hx hg hs)
  have X21 := Lib.hid hx
  have Z22 := Lib.hid (And.intro hs Z17.out)
  clear hx hs X15
  have E23 := hkExB hg (by have z := Z17.out; omega) E19
  clear E19
  have P24 := Lib.hid (P13.out.gr hg (by have z := Z17.out; omega))
  clear P13
  have G25 := hgt hg G16 (fun _ => by have z := Z17.out; omega)
  clear G16
  have Z26 := hzz hg Z22
  clear hg
  refine bodyPost_ret (k.results_cell rfl rfl (run_loadVar_mid _ w.heap.size 0 39 _ _ X21.out.range rfl rfl (by kernel_rfl))) rfl ?_
  exact Gv.okOf rfl ⟨h18, rfl, (ExB.kept (more_nw (by have z := Z26.out; omega) (by have z := Z26.out; omega)) E23.out)⟩ P24.out R14.out G25.out
 have HFA := Lib.hid (HFF.out hw0 hw1)
 have HA := Lib.hid (head_any P4.out R1.out)
 unfold sv at HA
 have q0 : ((⟨(headS (tr.hd (r))).toArray⟩ : ByteArray).toList == [45]) = false := by rw [ByteArray.toList_eq]; exact beq_eq_false_iff_ne.2 (mt (headS_txt R1.out (by decide) (by decide) (by decide) (by decide)).1 hw0)
 have q1 : ((⟨(headS (tr.hd (r))).toArray⟩ : ByteArray).toList == [78, 79, 84]) = false := by rw [ByteArray.toList_eq]; exact beq_eq_false_iff_ne.2 (mt (headS_txt R1.out (by decide) (by decide) (by decide) (by decide)).1 hw1)
 generalize (⟨(headS (tr.hd (r))).toArray⟩ : ByteArray) = XH at *
 go_wp2_with (go_at_call 28; fail)
 refine (HA.out).mono ?_
 rintro e w5 ⟨rfl, hb⟩
 have hg := gr_of (row := some w4.heap.size) hb
 have X7 := hbx hg (by have z := Z6.out; omega) X3
 clear X3
 have P8 := Lib.hid (P4.out.gr hg (by have z := Z6.out; omega))
 clear P4
 have G9 := hgt hg G5 (fun _ => by have z := Z6.out; omega)
 clear G5
 have Z10 := hzz hg Z6
 clear hg hb
 clear HA
 rw [HR.out] at HFA
 clear HR
 go_wp2_with (go_at_call 104; fail)
 refine (HFA.out _ _ _ P8.out).mono ?_
 rintro e w6 hgv
 rcases R with ⟨x1, r1⟩ | ⟨n9, t9⟩
 rotate_left
 ·skip
  obtain ⟨rfl, hg⟩ := hgv
  go_wp2
  exact ⟨rfl, Gv.badOf rfl (gr_trans G9.out hg)⟩
 obtain ⟨⟨v9, rfl, hG⟩, hP9, hr9, hg⟩ := hgv
 have P11 := Lib.hid hP9
 have R12 := Lib.hid hr9
 have X13 := hbx hg (by have z := Z10.out; omega) X7
 clear X7
 clear P8
 have G14 := Lib.hid (gr_trans G9.out hg)
 clear G9
 have Z15 := hzz hg Z10
 clear hg hP9 hr9 R1
 obtain ⟨h16, rfl, hE9⟩ := hG
 have E17 := Lib.hid hE9
 clear hE9
 go_wp2_with ((with_reducible refine m_store X13.out 39 2 14 ?_ ?_ ?_ (eC h16) ?_ ?_ ?_ ?_ (eC_one _) ?_); rfl; rfl; rfl; rfl; rfl; rfl; kernel_rfl; intro w7 hx hg hs)
 have X19 := Lib.hid hx
 have Z20 := Lib.hid (And.intro hs Z15.out)
 clear hx hs X13
 have E21 := hkExB hg (by have z := Z15.out; omega) E17
 clear E17
 have P22 := Lib.hid (P11.out.gr hg (by have z := Z15.out; omega))
 clear P11
 have G23 := hgt hg G14 (fun _ => by have z := Z15.out; omega)
 clear G14
 have Z24 := hzz hg Z20
 clear hg
 refine bodyPost_ret (k.results_cell rfl rfl (run_loadVar_mid _ w.heap.size 0 39 _ _ X19.out.range rfl rfl (by kernel_rfl))) rfl ?_
 exact Gv.okOf rfl ⟨h16, rfl, (ExB.kept (more_nw (by have z := Z24.out; omega) (by have z := Z24.out; omega)) E21.out)⟩ P22.out R12.out G23.out
theorem u_paren {f d : Nat} {r : Sg} (h : txt r = [40]) : unaryF (f + 1) d r = if 32 < d + 1 then fail 13 r else (exprF f (d + 1) 1 (r.drop 1)).bind fun x r' => (need [41] r').bind fun _ r' => .ok x r' := by
 have hk := txt_two h (by decide)
 rw [unaryF, h, if_neg (by decide), if_neg (by omega), if_neg (by decide), if_neg (by decide), if_pos rfl]
theorem u_name {f d : Nat} {r : Sg} (h : (hd r).kind = 1) : unaryF (f + 1) d r = readF f d r := by
 have ht : txt r = [] := txt_none (by omega)
 rw [unaryF, ht, if_neg (by decide), if_neg (by omega), if_neg (by decide), if_neg (by decide), if_neg (by decide)]
 rfl
theorem u_true {f d : Nat} {r : Sg} (h : txt r = [84, 82, 85, 69]) : unaryF (f + 1) d r = .ok (.mk 2 1 [] [] [] (hd r).line) (r.drop 1) := by
 have hk := txt_two h (by decide)
 rw [unaryF, h, if_neg (by decide), if_neg (by omega), if_pos rfl]
theorem u_false {f d : Nat} {r : Sg} (h : txt r = [70, 65, 76, 83, 69]) : unaryF (f + 1) d r = .ok (.mk 2 0 [] [] [] (hd r).line) (r.drop 1) := by
 have hk := txt_two h (by decide)
 rw [unaryF, h, if_neg (by decide), if_neg (by omega), if_neg (by decide), if_pos rfl]
theorem u_num {f d : Nat} {r : Sg} (h1 : txt r ≠ [45]) (h2 : txt r ≠ [78, 79, 84]) (h3 : txt r ≠ [84, 82, 85, 69]) (h4 : txt r ≠ [70, 65, 76, 83, 69]) (h5 : txt r ≠ [40]) (h6 : (hd r).kind ≠ 1) : unaryF (f + 1) d r = (want 3 r).bind fun t r' => .ok (.mk 1 t.n [] [] [] (hd r).line) r' := by
 rw [unaryF, if_neg (fun h => h.elim h1 h2), if_neg h3, if_neg h4, if_neg h5]
 unfold want
 rw [if_neg h6]
 by_cases h : (hd r).kind = 3
 ·rw [if_pos h, if_pos h]; rfl
 ·rw [if_neg h, if_neg h]; rfl
set_option maxRecDepth 100000 in
set_option maxHeartbeats 4000000 in
theorem factor_any (hP : Par w g r V d) (hr : RowOk r) (hd : d ≤ 32) (hn1 : txt r ≠ [45]) (hn2 : txt r ≠ [78, 79, 84]) (f : Nat) (HE : txt r = [40] → RowOk (r.drop 1) → d < 32 → ECtr Tryz.prog 84 (exprF f (d + 1) 1 (r.drop 1)) (d + 1) (r.drop 1)) (HD : (tr.hd r).kind = 1 → ECtr Tryz.prog 106 (readF f d r) d r) :
  Calls Tryz.prog 104 #[.pointer (some ⟨g, 0, none⟩)] w (Gv g V d w GotE (unaryF (f + 1) d r)) := by
 obtain ⟨R, hR⟩ : ∃ R : Res Ex, (unaryF (f + 1) d r) = R := ⟨_, rfl⟩
 rw [hR]
 have HR := Lib.hid hR
 clear hR
 have HEE := Lib.hid HE
 have HDD := Lib.hid HD
 have f3 := tok_f3 (tr.hd r)
 clear HE HD
 have P1 := Lib.hid hP
 have G1 := Lib.hid (gr_refl w (some g))
 have R1 := Lib.hid hr
 have Z1 := Lib.hid (show g < w.heap.size from hP.lt)
 clear hP hr
 go_enter Tryz.func104, Tryz.ntmps104
 go_upto_region 1 with (fail)
 have hb := (Below.refl w.heap.size w).alloc (Nat.le_refl _) (.cells #[.int .i64 0, .int .i64 0, .string ⟨#[]⟩, .string ⟨#[]⟩, .slice none 0 0, .int .i64 0] 39)
 have hx := Box.new w #[.int .i64 0, .int .i64 0, .string ⟨#[]⟩, .string ⟨#[]⟩, .slice none 0 0, .int .i64 0] 39
 have hz : (w.alloc (.cells #[.int .i64 0, .int .i64 0, .string ⟨#[]⟩, .string ⟨#[]⟩, .slice none 0 0, .int .i64 0] 39)).heap.size = w.heap.size + 1 := by simp
 generalize w.alloc (.cells #[.int .i64 0, .int .i64 0, .string ⟨#[]⟩, .string ⟨#[]⟩, .slice none 0 0, .int .i64 0] 39) = w4 at *
 have hg := gr_of (row := some w.heap.size) hb
 have Z2 := Lib.hid (And.intro hz Z1.out)
 have X3 := Lib.hid hx
 clear hb hx hz
 have P4 := Lib.hid (P1.out.gr hg (by have z := Z1.out; omega))
 clear P1
 have G5 := hgt hg G1 (fun _ => by have z := Z1.out; omega)
 clear G1
 have Z6 := hzz hg Z2
 clear hg
 go_wp2_with (go_at_call 30; fail)
 refine (next_any P4.out R1.out).mono ?_
 rintro e w5 ⟨rfl, hb⟩
 have hg := gr_of (row := some w4.heap.size) hb
 have X7 := hbx hg (by have z := Z6.out; omega) X3
 clear X3
 have P8 := Lib.hid (P4.out.gr hg (by have z := Z6.out; omega))
 clear P4
 have G9 := hgt hg G5 (fun _ => by have z := Z6.out; omega)
 clear G5
 have Z10 := hzz hg Z6
 clear hg hb
 by_cases hw0 : txt r = [40]
 ·skip
  have hq := HR.out
  rw [u_paren hw0] at hq
  have HR11 := Lib.hid hq
  clear hq HR
  have HA := Lib.hid (head_any P8.out R1.out)
  unfold sv at HA
  have q0 : ((⟨(headS (tr.hd (r))).toArray⟩ : ByteArray).toList == [40]) = true := by rw [ByteArray.toList_eq]; exact beq_iff_eq.2 ((headS_txt R1.out (by decide) (by decide) (by decide) (by decide)).2 hw0)
  generalize (⟨(headS (tr.hd (r))).toArray⟩ : ByteArray) = XH at *
  go_wp2_with (go_at_call 28; fail)
  refine (HA.out).mono ?_
  rintro e w6 ⟨rfl, hb⟩
  have hg := gr_of (row := some w5.heap.size) hb
  have X12 := hbx hg (by have z := Z10.out; omega) X7
  clear X7
  have P13 := Lib.hid (P8.out.gr hg (by have z := Z10.out; omega))
  clear P8
  have G14 := hgt hg G9 (fun _ => by have z := Z10.out; omega)
  clear G9
  have Z15 := hzz hg Z10
  clear hg hb
  clear HA
  have HIN := Lib.hid (show ∀ W, Par W g r V d → Calls Tryz.prog 95 #[.pointer (some ⟨g, 0, none⟩), sv [40], sv [41]] W (Gv g V d W GotE R) from fun W h => HR11.out ▸ inner_any h R1.out hd ((headS_txt R1.out (by decide) (by decide) (by decide) (by decide)).2 hw0) (txt_kind hw0 (by decide)) (by decide) f (HEE.out hw0 (R1.out.drop (txt_kind hw0 (by decide)))))
  clear HR11
  go_wp2_with (go_at_call 95; fail)
  refine (HIN.out _ P13.out).mono ?_
  rintro e w7 hgv
  rcases R with ⟨x1, r1⟩ | ⟨n9, t9⟩
  rotate_left
  ·skip
   obtain ⟨rfl, hg⟩ := hgv
   go_wp2
   exact ⟨rfl, Gv.badOf rfl (gr_trans G14.out hg)⟩
  obtain ⟨⟨v9, rfl, hG⟩, hP9, hr9, hg⟩ := hgv
  have P16 := Lib.hid hP9
  have R17 := Lib.hid hr9
  have X18 := hbx hg (by have z := Z15.out; omega) X12
  clear X12
  clear P13
  have G19 := Lib.hid (gr_trans G14.out hg)
  clear G14
  have Z20 := hzz hg Z15
  clear hg hP9 hr9 R1
  obtain ⟨h21, rfl, hE9⟩ := hG
  have E22 := Lib.hid hE9
  clear hE9
  go_wp2_with ((with_reducible refine m_store X18.out 39 2 12 ?_ ?_ ?_ (eC h21) ?_ ?_ ?_ ?_ (eC_one _) ?_); rfl; rfl; rfl; rfl; rfl; rfl; kernel_rfl; intro w8 hx hg hs)
  have X24 := Lib.hid hx
  have Z25 := Lib.hid (And.intro hs Z20.out)
  clear hx hs X18
  have E26 := hkExB hg (by have z := Z20.out; omega) E22
  clear E22
  have P27 := Lib.hid (P16.out.gr hg (by have z := Z20.out; omega))
  clear P16
  have G28 := hgt hg G19 (fun _ => by have z := Z20.out; omega)
  clear G19
  have Z29 := hzz hg Z25
  clear hg
  refine bodyPost_ret (k.results_cell rfl rfl (run_loadVar_mid _ w.heap.size 0 39 _ _ X24.out.range rfl rfl (by kernel_rfl))) rfl ?_
  exact Gv.okOf rfl ⟨h21, rfl, (ExB.kept (more_nw (by have z := Z29.out; omega) (by have z := Z29.out; omega)) E26.out)⟩ P27.out R17.out G28.out
 by_cases hw1 : (tr.hd r).kind = 1
 ·skip
  have hq := HR.out
  rw [u_name hw1] at hq
  have HR11 := Lib.hid hq
  clear hq HR
  have HRE := HDD.out hw1
  rw [HR11.out] at HRE
  have HIN := Lib.hid HRE
  clear HRE
  have hh := ((headS_kind R1.out).1).2 hw1
  have HA := Lib.hid (head_any P8.out R1.out)
  unfold sv at HA
  have q0 : ((⟨(headS (tr.hd (r))).toArray⟩ : ByteArray).toList == [40]) = false := by rw [ByteArray.toList_eq]; exact (by rw [hh]; rfl)
  have q1 : ((⟨(headS (tr.hd (r))).toArray⟩ : ByteArray).toList == [110, 97, 109, 101]) = true := by rw [ByteArray.toList_eq]; exact (by rw [hh]; rfl)
  generalize (⟨(headS (tr.hd (r))).toArray⟩ : ByteArray) = XH at *
  go_wp2_with (go_at_call 28; fail)
  refine (HA.out).mono ?_
  rintro e w6 ⟨rfl, hb⟩
  have hg := gr_of (row := some w5.heap.size) hb
  have X12 := hbx hg (by have z := Z10.out; omega) X7
  clear X7
  have P13 := Lib.hid (P8.out.gr hg (by have z := Z10.out; omega))
  clear P8
  have G14 := hgt hg G9 (fun _ => by have z := Z10.out; omega)
  clear G9
  have Z15 := hzz hg Z10
  clear hg hb
  clear HA
  clear hh
  clear HR11
  go_wp2_with (go_at_call 106; fail)
  refine (HIN.out _ _ _ P13.out).mono ?_
  rintro e w7 hgv
  rcases R with ⟨x1, r1⟩ | ⟨n9, t9⟩
  rotate_left
  ·skip
   obtain ⟨rfl, hg⟩ := hgv
   go_wp2
   exact ⟨rfl, Gv.badOf rfl (gr_trans G14.out hg)⟩
  obtain ⟨⟨v9, rfl, hG⟩, hP9, hr9, hg⟩ := hgv
  have P16 := Lib.hid hP9
  have R17 := Lib.hid hr9
  have X18 := hbx hg (by have z := Z15.out; omega) X12
  clear X12
  clear P13
  have G19 := Lib.hid (gr_trans G14.out hg)
  clear G14
  have Z20 := hzz hg Z15
  clear hg hP9 hr9 R1
  obtain ⟨h21, rfl, hE9⟩ := hG
  have E22 := Lib.hid hE9
  clear hE9
  go_wp2_with ((with_reducible refine m_store X18.out 39 2 16 ?_ ?_ ?_ (eC h21) ?_ ?_ ?_ ?_ (eC_one _) ?_); rfl; rfl; rfl; rfl; rfl; rfl; kernel_rfl; intro w8 hx hg hs)
  have X24 := Lib.hid hx
  have Z25 := Lib.hid (And.intro hs Z20.out)
  clear hx hs X18
  have E26 := hkExB hg (by have z := Z20.out; omega) E22
  clear E22
  have P27 := Lib.hid (P16.out.gr hg (by have z := Z20.out; omega))
  clear P16
  have G28 := hgt hg G19 (fun _ => by have z := Z20.out; omega)
  clear G19
  have Z29 := hzz hg Z25
  clear hg
  refine bodyPost_ret (k.results_cell rfl rfl (run_loadVar_mid _ w.heap.size 0 39 _ _ X24.out.range rfl rfl (by kernel_rfl))) rfl ?_
  exact Gv.okOf rfl ⟨h21, rfl, (ExB.kept (more_nw (by have z := Z29.out; omega) (by have z := Z29.out; omega)) E26.out)⟩ P27.out R17.out G28.out
 by_cases hw2 : txt r = [84, 82, 85, 69]
 ·skip
  have hq := HR.out
  rw [u_true hw2] at hq
  have HR11 := Lib.hid hq
  clear hq HR
  have HA := Lib.hid (head_any P8.out R1.out)
  unfold sv at HA
  have q0 : ((⟨(headS (tr.hd (r))).toArray⟩ : ByteArray).toList == [40]) = false := by rw [ByteArray.toList_eq]; exact beq_eq_false_iff_ne.2 (mt (headS_txt R1.out (by decide) (by decide) (by decide) (by decide)).1 hw0)
  have q1 : ((⟨(headS (tr.hd (r))).toArray⟩ : ByteArray).toList == [110, 97, 109, 101]) = false := by rw [ByteArray.toList_eq]; exact beq_eq_false_iff_ne.2 (mt ((headS_kind R1.out).1).1 hw1)
  have q2 : ((⟨(headS (tr.hd (r))).toArray⟩ : ByteArray).toList == [84, 82, 85, 69]) = true := by rw [ByteArray.toList_eq]; exact beq_iff_eq.2 ((headS_txt R1.out (by decide) (by decide) (by decide) (by decide)).2 hw2)
  generalize (⟨(headS (tr.hd (r))).toArray⟩ : ByteArray) = XH at *
  go_wp2_with (go_at_call 28; fail)
  refine (HA.out).mono ?_
  rintro e w6 ⟨rfl, hb⟩
  have hg := gr_of (row := some w5.heap.size) hb
  have X12 := hbx hg (by have z := Z10.out; omega) X7
  clear X7
  have P13 := Lib.hid (P8.out.gr hg (by have z := Z10.out; omega))
  clear P8
  have G14 := hgt hg G9 (fun _ => by have z := Z10.out; omega)
  clear G9
  have Z15 := hzz hg Z10
  clear hg hb
  clear HA
  have R16 := Lib.hid (R1.out.drop (txt_kind hw2 (by decide)))
  go_wp2_with (go_at_call 31; fail)
  refine (pass_any P13.out R1.out).mono ?_
  rintro e w7 ⟨rfl, hp, hg⟩
  have P17 := Lib.hid hp
  have X18 := hbx hg (by have z := Z15.out; omega) X12
  clear X12
  clear P13
  have G19 := Lib.hid (gr_trans G14.out hg)
  clear G14
  have Z20 := hzz hg Z15
  clear hg hp
  clear R1
  generalize (r.drop 1) = r21 at *
  go_wp2_with ((with_reducible refine m_store X18.out 39 2 22 ?_ ?_ ?_ (eC ⟨2, 1, [], [], ⟨none, 0, 0⟩, (tr.hd r).line⟩) ?_ ?_ ?_ ?_ (eC_one _) ?_); rfl; rfl; rfl; rfl; rfl; rfl; kernel_rfl; intro w8 hx hg hs)
  have X22 := Lib.hid hx
  have Z23 := Lib.hid (And.intro hs Z20.out)
  clear hx hs X18
  have P24 := Lib.hid (P17.out.gr hg (by have z := Z20.out; omega))
  clear P17
  have G25 := hgt hg G19 (fun _ => by have z := Z20.out; omega)
  clear G19
  have Z26 := hzz hg Z23
  clear hg
  refine bodyPost_ret (k.results_cell rfl rfl (run_loadVar_mid _ w.heap.size 0 39 _ _ X22.out.range rfl rfl (by kernel_rfl))) rfl ?_
  exact Gv.okOf HR11.out.symm ⟨⟨2, 1, [], [], ⟨none, 0, 0⟩, (tr.hd r).line⟩, rfl, rfl, rfl, rfl, rfl, rfl, [], RB.none_ _ _ _ _, rfl⟩ P24.out R16.out G25.out
 by_cases hw3 : txt r = [70, 65, 76, 83, 69]
 ·skip
  have hq := HR.out
  rw [u_false hw3] at hq
  have HR11 := Lib.hid hq
  clear hq HR
  have HA := Lib.hid (head_any P8.out R1.out)
  unfold sv at HA
  have q0 : ((⟨(headS (tr.hd (r))).toArray⟩ : ByteArray).toList == [40]) = false := by rw [ByteArray.toList_eq]; exact beq_eq_false_iff_ne.2 (mt (headS_txt R1.out (by decide) (by decide) (by decide) (by decide)).1 hw0)
  have q1 : ((⟨(headS (tr.hd (r))).toArray⟩ : ByteArray).toList == [110, 97, 109, 101]) = false := by rw [ByteArray.toList_eq]; exact beq_eq_false_iff_ne.2 (mt ((headS_kind R1.out).1).1 hw1)
  have q2 : ((⟨(headS (tr.hd (r))).toArray⟩ : ByteArray).toList == [84, 82, 85, 69]) = false := by rw [ByteArray.toList_eq]; exact beq_eq_false_iff_ne.2 (mt (headS_txt R1.out (by decide) (by decide) (by decide) (by decide)).1 hw2)
  have q3 : ((⟨(headS (tr.hd (r))).toArray⟩ : ByteArray).toList == [70, 65, 76, 83, 69]) = true := by rw [ByteArray.toList_eq]; exact beq_iff_eq.2 ((headS_txt R1.out (by decide) (by decide) (by decide) (by decide)).2 hw3)
  generalize (⟨(headS (tr.hd (r))).toArray⟩ : ByteArray) = XH at *
  go_wp2_with (go_at_call 28; fail)
  refine (HA.out).mono ?_
  rintro e w6 ⟨rfl, hb⟩
  have hg := gr_of (row := some w5.heap.size) hb
  have X12 := hbx hg (by have z := Z10.out; omega) X7
  clear X7
  have P13 := Lib.hid (P8.out.gr hg (by have z := Z10.out; omega))
  clear P8
  have G14 := hgt hg G9 (fun _ => by have z := Z10.out; omega)
  clear G9
  have Z15 := hzz hg Z10
  clear hg hb
  clear HA
  have R16 := Lib.hid (R1.out.drop (txt_kind hw3 (by decide)))
  go_wp2_with (go_at_call 31; fail)
  refine (pass_any P13.out R1.out).mono ?_
  rintro e w7 ⟨rfl, hp, hg⟩
  have P17 := Lib.hid hp
  have X18 := hbx hg (by have z := Z15.out; omega) X12
  clear X12
  clear P13
  have G19 := Lib.hid (gr_trans G14.out hg)
  clear G14
  have Z20 := hzz hg Z15
  clear hg hp
  clear R1
  generalize (r.drop 1) = r21 at *
  go_wp2_with ((with_reducible refine m_store X18.out 39 2 28 ?_ ?_ ?_ (eC ⟨2, 0, [], [], ⟨none, 0, 0⟩, (tr.hd r).line⟩) ?_ ?_ ?_ ?_ (eC_one _) ?_); rfl; rfl; rfl; rfl; rfl; rfl; kernel_rfl; intro w8 hx hg hs)
  have X22 := Lib.hid hx
  have Z23 := Lib.hid (And.intro hs Z20.out)
  clear hx hs X18
  have P24 := Lib.hid (P17.out.gr hg (by have z := Z20.out; omega))
  clear P17
  have G25 := hgt hg G19 (fun _ => by have z := Z20.out; omega)
  clear G19
  have Z26 := hzz hg Z23
  clear hg
  refine bodyPost_ret (k.results_cell rfl rfl (run_loadVar_mid _ w.heap.size 0 39 _ _ X22.out.range rfl rfl (by kernel_rfl))) rfl ?_
  exact Gv.okOf HR11.out.symm ⟨⟨2, 0, [], [], ⟨none, 0, 0⟩, (tr.hd r).line⟩, rfl, rfl, rfl, rfl, rfl, rfl, [], RB.none_ _ _ _ _, rfl⟩ P24.out R16.out G25.out
 have hq := HR.out
 rw [u_num hn1 hn2 hw2 hw3 hw0 hw1] at hq
 have HR11 := Lib.hid hq
 clear hq HR
 have HA := Lib.hid (head_any P8.out R1.out)
 unfold sv at HA
 have q0 : ((⟨(headS (tr.hd (r))).toArray⟩ : ByteArray).toList == [40]) = false := by rw [ByteArray.toList_eq]; exact beq_eq_false_iff_ne.2 (mt (headS_txt R1.out (by decide) (by decide) (by decide) (by decide)).1 hw0)
 have q1 : ((⟨(headS (tr.hd (r))).toArray⟩ : ByteArray).toList == [110, 97, 109, 101]) = false := by rw [ByteArray.toList_eq]; exact beq_eq_false_iff_ne.2 (mt ((headS_kind R1.out).1).1 hw1)
 have q2 : ((⟨(headS (tr.hd (r))).toArray⟩ : ByteArray).toList == [84, 82, 85, 69]) = false := by rw [ByteArray.toList_eq]; exact beq_eq_false_iff_ne.2 (mt (headS_txt R1.out (by decide) (by decide) (by decide) (by decide)).1 hw2)
 have q3 : ((⟨(headS (tr.hd (r))).toArray⟩ : ByteArray).toList == [70, 65, 76, 83, 69]) = false := by rw [ByteArray.toList_eq]; exact beq_eq_false_iff_ne.2 (mt (headS_txt R1.out (by decide) (by decide) (by decide) (by decide)).1 hw3)
 generalize (⟨(headS (tr.hd (r))).toArray⟩ : ByteArray) = XH at *
 go_wp2_with (go_at_call 28; fail)
 refine (HA.out).mono ?_
 rintro e w6 ⟨rfl, hb⟩
 have hg := gr_of (row := some w5.heap.size) hb
 have X12 := hbx hg (by have z := Z10.out; omega) X7
 clear X7
 have P13 := Lib.hid (P8.out.gr hg (by have z := Z10.out; omega))
 clear P8
 have G14 := hgt hg G9 (fun _ => by have z := Z10.out; omega)
 clear G9
 have Z15 := hzz hg Z10
 clear hg hb
 clear HA
 have f2 := tok_f2 (tr.hd r)
 by_cases hs16 : (tr.hd (r)).kind = 3
 rotate_left
 ·have hq := HR11.out
  rw [want_badE hs16] at hq
  go_wp2_with (go_at_call 18; fail)
  refine (need_no P13.out R1.out (mt (headS_kind R1.out).2.1.1 hs16)).mono ?_
  rintro e w7 ⟨rfl, hb⟩
  go_wp2
  exact ⟨rfl, Gv.badOf hq.symm (gr_trans G14.out (gr_of hb))⟩
 have hq := HR11.out
 rw [want_okE hs16, bind_okE] at hq
 have HR17 := Lib.hid hq
 clear hq HR11
 have R18 := Lib.hid (R1.out.drop (by rw [hs16]; decide))
 go_wp2_with (go_at_call 18; fail)
 refine (need_yes P13.out R1.out ((headS_kind R1.out).2.1.2 hs16)).mono ?_
 rintro e w7 ⟨rfl, hp, hg⟩
 have P19 := Lib.hid hp
 have X20 := hbx hg (by have z := Z15.out; omega) X12
 clear X12
 clear P13
 have G21 := Lib.hid (gr_trans G14.out hg)
 clear G14
 have Z22 := hzz hg Z15
 clear hg hp
 clear R1
 generalize ((r).drop 1) = r23 at *
 go_wp2_with ((with_reducible refine m_store X20.out 39 2 33 ?_ ?_ ?_ (eC ⟨1, (tr.hd (r)).n, [], [], ⟨none, 0, 0⟩, (tr.hd r).line⟩) ?_ ?_ ?_ ?_ (eC_one _) ?_); rfl; rfl; rfl; rfl; rfl; rfl; kernel_rfl; intro w8 hx hg hs)
 have X24 := Lib.hid hx
 have Z25 := Lib.hid (And.intro hs Z22.out)
 clear hx hs X20
 have P26 := Lib.hid (P19.out.gr hg (by have z := Z22.out; omega))
 clear P19
 have G27 := hgt hg G21 (fun _ => by have z := Z22.out; omega)
 clear G21
 have Z28 := hzz hg Z25
 clear hg
 refine bodyPost_ret (k.results_cell rfl rfl (run_loadVar_mid _ w.heap.size 0 39 _ _ X24.out.range rfl rfl (by kernel_rfl))) rfl ?_
 exact Gv.okOf HR17.out.symm ⟨⟨1, (tr.hd (r)).n, [], [], ⟨none, 0, 0⟩, (tr.hd r).line⟩, rfl, rfl, rfl, rfl, rfl, rfl, [], RB.none_ _ _ _ _, rfl⟩ P26.out R18.out G27.out
end
end Go.Proofs.YtbcpkhegmbdifaaGreat.tr
/- The landed parser's expressions: operations of a level, over what those of the next level give. No condition but what each line says. -/
namespace Go.Proofs.YtbcpkhegmbdifaaGreat.tr
open Go.ChangeShapes Go.WideShapes Go.ChangeAt Go.RowKit Go.Proofs.YtbcpkhegmbdifaaGreat.k Go.Proofs.YtbcpkhegmbdifaaGreat.rr Go.Proofs.YtbcpkhegmbdifaaGreat.tk
set_option linter.unusedVariables false

/-- what the operations of a level give, in any world -/
def OCtr (P : Program) (fn : FuncId) (m : Nat) (p : Res Ex) (d : Nat) (r : Sg) : Prop := ∀ (V : Value) (g : Nat) (w : World), Par w g r V d → Calls P fn #[.pointer (some ⟨g, 0, none⟩), .int .i64 m] w (Gv g V d w GotE p)
section
variable {r : Sg} {V : Value} {d g : Nat} {w : World}

set_option maxRecDepth 100000 in
set_option maxHeartbeats 4000000 in
theorem ops_any (hP : Par w g r V d) (hr : RowOk r) {m f : Nat} (hm : m ≤ 5) (hf : 20 * r.length + 9 - m ≤ f + 1) (H : ∀ f' r', f' ≤ f → r'.length ≤ r.length → RowOk r' → 20 * r'.length + 8 - m ≤ f' → OCtr Tryz.prog 96 (m + 1) (exprF f' d (m + 2) r') d r') :
  Calls Tryz.prog 96 #[.pointer (some ⟨g, 0, none⟩), .int .i64 m] w (Gv g V d w GotE (exprF (f + 1) d (m + 1) r)) := by
 obtain ⟨R, hR⟩ : ∃ R : Res Ex, exprF (f + 1) d (m + 1) r = R := ⟨_, rfl⟩
 rw [hR]
 rw [exprF, if_neg (by omega)] at hR
 have HR := Lib.hid hR
 clear hR
 have HH := Lib.hid H
 have HF := Lib.hid hf
 have HM := Lib.hid hm
 have HL := Lib.hid hr.len
 have w1 : IntKind.i64.wrap ((m : Int) + 1) = ((m + 1 : Nat) : Int) := by rw [IntKind.wrap_i64]; omega
 have e6 : ((m : Int) == 6) = false := by rw [beq_eq_false_iff_ne]; omega
 clear H hf hm
 have P1 := Lib.hid hP
 have G1 := Lib.hid (gr_refl w (some g))
 have R1 := Lib.hid hr
 have Z1 := Lib.hid (show g < w.heap.size from hP.lt)
 clear hP hr
 go_enter Tryz.func96, Tryz.ntmps96
 go_upto_region 3 with (fail)
 have hb := (Below.refl w.heap.size w).alloc (Nat.le_refl _) (.cells #[.int .i64 0, .int .i64 0, .string ⟨#[]⟩, .string ⟨#[]⟩, .slice none 0 0, .int .i64 0] 39)
 have hx := Box.new w #[.int .i64 0, .int .i64 0, .string ⟨#[]⟩, .string ⟨#[]⟩, .slice none 0 0, .int .i64 0] 39
 have hz : (w.alloc (.cells #[.int .i64 0, .int .i64 0, .string ⟨#[]⟩, .string ⟨#[]⟩, .slice none 0 0, .int .i64 0] 39)).heap.size = w.heap.size + 1 := by simp
 generalize w.alloc (.cells #[.int .i64 0, .int .i64 0, .string ⟨#[]⟩, .string ⟨#[]⟩, .slice none 0 0, .int .i64 0] 39) = w4 at *
 have hg := gr_of (row := some w.heap.size) hb
 have Z2 := Lib.hid (And.intro hz Z1.out)
 have X3 := Lib.hid hx
 clear hb hx hz
 have P4 := Lib.hid (P1.out.gr hg (by have z := Z1.out; omega))
 clear P1
 have G5 := hgt hg G1 (fun _ => by have z := Z1.out; omega)
 clear G1
 have Z6 := hzz hg Z2
 clear hg
 have HC := Lib.hid (HH.out f r (Nat.le_refl _) (Nat.le_refl _) R1.out (by have := HF.out; omega))
 have FI := Lib.hid ((finE f).1 d (m + 2) r (by have := HM.out; omega) (by have := HF.out; omega))
 go_wp2_with (go_at_call 96; fail)
 refine (HC.out _ _ _ P4.out).mono ?_
 rintro e w5 hgv
 rcases hp : exprF f d (m + 2) r with ⟨x1, r1⟩ | ⟨n9, t9⟩
 rotate_left
 ·rw [hp] at hgv
  obtain ⟨rfl, hg⟩ := hgv
  have hq := HR.out
  rw [hp] at hq
  go_wp2
  exact ⟨rfl, Gv.badOf hq.symm (gr_trans G5.out hg)⟩
 rw [hp] at hgv
 obtain ⟨⟨v9, rfl, hG⟩, hP9, hr9, hg⟩ := hgv
 have hq := HR.out
 rw [hp] at hq
 try rw [bind_okE] at hq
 have HR7 := Lib.hid hq
 clear hq HR
 have P8 := Lib.hid hP9
 have R9 := Lib.hid hr9
 have X10 := hbx hg (by have z := Z6.out; omega) X3
 clear X3
 clear P4
 have G11 := Lib.hid (gr_trans G5.out hg)
 clear G5
 have Z12 := hzz hg Z6
 clear hg hP9 hr9 R1
 obtain ⟨h13, rfl, hE9⟩ := hG
 have E14 := Lib.hid hE9
 clear hE9
 have L1 : Hid (r1.length < r.length) := by
  have := FI.out
  rw [hp] at this
  exact Lib.hid this
 clear FI HC hp
 go_upto_region 4 with ((with_reducible refine m_new 39 5 17 ?_ ?_ ?_ (eC h13) ?_ ?_ ?_ ?_ (eC_one _) ?_); rfl; rfl; rfl; rfl; rfl; rfl; kernel_rfl; intro w6 hx hb hz)
 have hg := gr_of (row := some w5.heap.size) hb
 have Z16 := Lib.hid (And.intro hz Z12.out)
 have X17 := Lib.hid hx
 clear hb hx hz
 have X18 := hbx hg (by have z := Z12.out; omega) X10
 clear X10
 have E19 := hkExB hg (by have z := Z12.out; omega) E14
 clear E14
 have P20 := Lib.hid (P8.out.gr hg (by have z := Z12.out; omega))
 clear P8
 have G21 := hgt hg G11 (fun _ => by have z := Z12.out; omega)
 clear G11
 have Z22 := hzz hg Z16
 clear hg
 go_loopw [6] (fun _ wr => ∃ (fc : Nat) (x : Ex) (r' : Sg) (h : EH), moreF fc d (m + 1) x r' = R ∧ fc ≤ f ∧ 20 * r'.length + 15 ≤ fc ∧ r'.length ≤ r.length ∧ RowOk r' ∧ Par wr g r' V d ∧ Box wr w.heap.size 0 [.int .i64 0, .int .i64 0, .string ⟨#[]⟩, .string ⟨#[]⟩, .slice none 0 0, .int .i64 0] ∧ Box wr w5.heap.size 0 (eC h) ∧ ExB wr (Nx (w.heap.size + 1) wr.heap.size w5.heap.size) x h ∧ w.grownBy wr (some g) ∧ w5.heap.size < wr.heap.size) (fun _ wr => rowLen wr g)
 case atStart => exact ⟨f, x1, r1, h13, HR7.out, Nat.le_refl _, (by have z := Z22.out; have := L1.out; have := HF.out; have := HM.out; omega), (by have z := Z22.out; have := L1.out; omega), R9.out, P20.out, X18.out, X17.out, (ExB.kept (nw_nx (by have z := Z22.out; omega) (by have z := Z22.out; omega) (by have z := Z22.out; omega)) E19.out), G21.out, (by have z := Z22.out; omega)⟩
 case round =>
  obtain ⟨fc, x, r', h, hR', hfc, hful, hlen, hr', hP', hX0, hX1, hE', hG', hS'⟩ := hrel
  clear P20 G21 R9 HR7 L1 X18 X17 E19
  obtain ⟨f2, rfl⟩ : ∃ k, fc = k + 1 := ⟨fc - 1, by omega⟩
  rw [moreF] at hR'
  have HR := Lib.hid hR'
  have P1 := Lib.hid hP'
  have X1 := Lib.hid hX0
  have X2 := Lib.hid hX1
  have E1 := Lib.hid hE'
  have G1 := Lib.hid hG'
  have R1 := Lib.hid hr'
  have ZS := Lib.hid (And.intro hS' Z22.out)
  have HFU := Lib.hid hful
  have HLE := Lib.hid hlen
  have HFC := Lib.hid hfc
  clear hR' hP' hX0 hX1 hE' hG' hr' hS' hful hlen hfc
  have NLEN := Lib.hid P1.out.len
  rcases hop : opS (headS (tr.hd r')) with ⟨o9, l9⟩
  have OH := op_head HM.out R1.out
  rw [hop] at OH
  simp only at OH
  have OPA := Lib.hid fun W => operation_any (headS (tr.hd r')) W
  rw [hop] at OPA
  clear hop
  have HA := Lib.hid (head_any P1.out R1.out)
  unfold sv at HA OPA
  generalize (⟨(headS (tr.hd r')).toArray⟩ : ByteArray) = XH at *
  by_cases hz : opOf (m + 1) (txt r') = 0
  ·skip
   have hq := HR.out
   rw [if_pos hz] at hq
   have HR201 := Lib.hid hq
   clear hq HR
   have OS := Lib.hid (OH.1 hz)
   clear OH hz
   go_wp2_with (go_at_call 28; fail)
   refine (HA.out).mono ?_
   rintro e w7 ⟨rfl, hb⟩
   have hg := gr_of (row := some wr.heap.size) hb
   have X202 := hbx hg (by have z := ZS.out; omega) X1
   clear X1
   have X203 := hbx hg (by have z := ZS.out; omega) X2
   clear X2
   have E204 := Lib.hid (ExB.kept (kept_nx hg (by have z := ZS.out; omega) (by have z := ZS.out; omega)) E1.out)
   clear E1
   have P205 := Lib.hid (P1.out.gr hg (by have z := ZS.out; omega))
   clear P1
   have G206 := hgt hg G1 (fun _ => by have z := ZS.out; omega)
   clear G1
   have Z207 := hzz hg ZS
   clear hg hb
   go_wp2_with (go_at_call 101; fail)
   refine (OPA.out _).mono ?_
   rintro e w8 ⟨rfl, rfl⟩
   rcases OS.out with ho | hl
   ·skip
    subst ho
    go_wp2_with (first | ((with_reducible refine m_load X203.out 39 5 ?_ ?_ ?_ ?_ ?_ ?_); rfl; rfl; rfl; rfl; kernel_rfl) | ((with_reducible refine m_store X202.out 39 4 31 ?_ ?_ ?_ (eC h) ?_ ?_ ?_ ?_ (eC_one _) ?_); rfl; rfl; rfl; rfl; rfl; rfl; kernel_rfl; intro w9 hx hg hs))
    have X208 := Lib.hid hx
    have Z209 := Lib.hid (And.intro hs Z207.out)
    clear hx hs X202
    have X210 := hbx hg (by have z := Z207.out; omega) X203
    clear X203
    have E211 := Lib.hid (ExB.kept (kept_nx hg (by have z := Z207.out; omega) (by have z := Z207.out; omega)) E204.out)
    clear E204
    have P212 := Lib.hid (P205.out.gr hg (by have z := Z207.out; omega))
    clear P205
    have G213 := hgt hg G206 (fun _ => by have z := Z207.out; omega)
    clear G206
    have Z214 := hzz hg Z209
    clear hg
    refine bodyPost_ret (k.results_cell rfl rfl (run_loadVar_mid _ w.heap.size 0 39 _ _ X208.out.range rfl rfl (by kernel_rfl))) rfl ?_
    exact Gv.okOf HR201.out.symm ⟨h, rfl, (ExB.kept (more_nx (by have z := Z214.out; omega) (by have z := Z214.out; omega)) E211.out)⟩ P212.out R1.out G213.out
   ·by_cases ho : o9 = 0
    ·skip
     subst ho
     go_wp2_with (first | ((with_reducible refine m_load X203.out 39 5 ?_ ?_ ?_ ?_ ?_ ?_); rfl; rfl; rfl; rfl; kernel_rfl) | ((with_reducible refine m_store X202.out 39 4 31 ?_ ?_ ?_ (eC h) ?_ ?_ ?_ ?_ (eC_one _) ?_); rfl; rfl; rfl; rfl; rfl; rfl; kernel_rfl; intro w9 hx hg hs))
     have X208 := Lib.hid hx
     have Z209 := Lib.hid (And.intro hs Z207.out)
     clear hx hs X202
     have X210 := hbx hg (by have z := Z207.out; omega) X203
     clear X203
     have E211 := Lib.hid (ExB.kept (kept_nx hg (by have z := Z207.out; omega) (by have z := Z207.out; omega)) E204.out)
     clear E204
     have P212 := Lib.hid (P205.out.gr hg (by have z := Z207.out; omega))
     clear P205
     have G213 := hgt hg G206 (fun _ => by have z := Z207.out; omega)
     clear G206
     have Z214 := hzz hg Z209
     clear hg
     refine bodyPost_ret (k.results_cell rfl rfl (run_loadVar_mid _ w.heap.size 0 39 _ _ X208.out.range rfl rfl (by kernel_rfl))) rfl ?_
     exact Gv.okOf HR201.out.symm ⟨h, rfl, (ExB.kept (more_nx (by have z := Z214.out; omega) (by have z := Z214.out; omega)) E211.out)⟩ P212.out R1.out G213.out
    ·skip
     have q2 : ((l9 : Int) != (m : Int)) = true := by rw [bne_iff_ne]; have hl : l9 ≠ m := hl; omega
     have q1 : (o9 == 0) = false := by rw [beq_eq_false_iff_ne]; exact ho
     clear ho hl
     go_wp2_with (first | ((with_reducible refine m_load X203.out 39 5 ?_ ?_ ?_ ?_ ?_ ?_); rfl; rfl; rfl; rfl; kernel_rfl) | ((with_reducible refine m_store X202.out 39 4 31 ?_ ?_ ?_ (eC h) ?_ ?_ ?_ ?_ (eC_one _) ?_); rfl; rfl; rfl; rfl; rfl; rfl; kernel_rfl; intro w9 hx hg hs))
     have X208 := Lib.hid hx
     have Z209 := Lib.hid (And.intro hs Z207.out)
     clear hx hs X202
     have X210 := hbx hg (by have z := Z207.out; omega) X203
     clear X203
     have E211 := Lib.hid (ExB.kept (kept_nx hg (by have z := Z207.out; omega) (by have z := Z207.out; omega)) E204.out)
     clear E204
     have P212 := Lib.hid (P205.out.gr hg (by have z := Z207.out; omega))
     clear P205
     have G213 := hgt hg G206 (fun _ => by have z := Z207.out; omega)
     clear G206
     have Z214 := hzz hg Z209
     clear hg
     refine bodyPost_ret (k.results_cell rfl rfl (run_loadVar_mid _ w.heap.size 0 39 _ _ X208.out.range rfl rfl (by kernel_rfl))) rfl ?_
     exact Gv.okOf HR201.out.symm ⟨h, rfl, (ExB.kept (more_nx (by have z := Z214.out; omega) (by have z := Z214.out; omega)) E211.out)⟩ P212.out R1.out G213.out
  ·skip
   obtain ⟨he, hkd⟩ := OH.2 hz
   have he1 : o9 = opOf (m + 1) (txt r') := congrArg Prod.fst he
   obtain rfl : l9 = m := congrArg Prod.snd he
   have hq := HR.out
   rw [if_neg hz, ← he1] at hq
   have HR201 := Lib.hid hq
   clear hq HR
   have q1 : (o9 == 0) = false := by rw [beq_eq_false_iff_ne, he1]; exact hz
   have q2 : ((l9 : Int) != (l9 : Int)) = false := by simp
   have HK := Lib.hid hkd
   clear OH hz he he1 hkd
   go_wp2_with (go_at_call 28; fail)
   refine (HA.out).mono ?_
   rintro e w7 ⟨rfl, hb⟩
   have hg := gr_of (row := some wr.heap.size) hb
   have X202 := hbx hg (by have z := ZS.out; omega) X1
   clear X1
   have X203 := hbx hg (by have z := ZS.out; omega) X2
   clear X2
   have E204 := Lib.hid (ExB.kept (kept_nx hg (by have z := ZS.out; omega) (by have z := ZS.out; omega)) E1.out)
   clear E1
   have P205 := Lib.hid (P1.out.gr hg (by have z := ZS.out; omega))
   clear P1
   have G206 := hgt hg G1 (fun _ => by have z := ZS.out; omega)
   clear G1
   have Z207 := hzz hg ZS
   clear hg hb
   go_wp2_with (go_at_call 101; fail)
   refine (OPA.out _).mono ?_
   rintro e w8 ⟨rfl, rfl⟩
   have f3 := tok_f3 (tr.hd r')
   have R208 := Lib.hid (R1.out.drop HK.out)
   have hl0 : (r'.drop 1).length = r'.length - 1 := by simp
   have HLR := Lib.hid R1.out.len
   go_wp2_with (go_at_call 31; fail)
   refine (pass_any P205.out R1.out).mono ?_
   rintro e w9 ⟨rfl, hp, hg⟩
   have P209 := Lib.hid hp
   have X210 := hbx hg (by have z := Z207.out; omega) X202
   clear X202
   have X211 := hbx hg (by have z := Z207.out; omega) X203
   clear X203
   have E212 := Lib.hid (ExB.kept (kept_nx hg (by have z := Z207.out; omega) (by have z := Z207.out; omega)) E204.out)
   clear E204
   clear P205
   have G213 := Lib.hid (gr_trans G206.out hg)
   clear G206
   have Z214 := hzz hg Z207
   clear hg hp
   clear R1
   have HL0 := Lib.hid hl0
   clear hl0
   generalize (r'.drop 1) = r215 at *
   have HC := Lib.hid (HH.out f2 r215 (by have := HFC.out; omega) (by have := HL0.out; have := HLE.out; omega) R208.out (by have := HFU.out; have := HL0.out; have := HLR.out; omega))
   have FI := Lib.hid ((finE f2).1 d (l9 + 2) r215 (by have := HM.out; omega) (by have := HFU.out; have := HL0.out; have := HLR.out; omega))
   go_wp2_with (go_at_call 96; fail)
   refine (HC.out _ _ _ P209.out).mono ?_
   rintro e w10 hgv
   rcases hp : exprF f2 d (l9 + 2) r215 with ⟨x2, r3⟩ | ⟨n9, t9⟩
   rotate_left
   ·rw [hp] at hgv
    obtain ⟨rfl, hg⟩ := hgv
    have hq := HR201.out
    rw [hp] at hq
    go_wp2
    exact ⟨rfl, Gv.badOf hq.symm (gr_trans G213.out hg)⟩
   rw [hp] at hgv
   obtain ⟨⟨v9, rfl, hG⟩, hP9, hr9, hg⟩ := hgv
   have hq := HR201.out
   rw [hp] at hq
   try rw [bind_okE] at hq
   have HR216 := Lib.hid hq
   clear hq HR201
   have P217 := Lib.hid hP9
   have R218 := Lib.hid hr9
   have X219 := hbx hg (by have z := Z214.out; omega) X210
   clear X210
   have X220 := hbx hg (by have z := Z214.out; omega) X211
   clear X211
   have E221 := Lib.hid (ExB.kept (kept_nx hg (by have z := Z214.out; omega) (by have z := Z214.out; omega)) E212.out)
   clear E212
   clear P209
   have G222 := Lib.hid (gr_trans G213.out hg)
   clear G213
   have Z223 := hzz hg Z214
   clear hg hP9 hr9 R208
   obtain ⟨h224, rfl, hE9⟩ := hG
   have E225 := Lib.hid hE9
   clear hE9
   have L2 : Hid (r3.length < r215.length) := by
    have := FI.out
    rw [hp] at this
    exact Lib.hid this
   clear FI HC hp
   go_upto_region 9 with ((with_reducible refine m_new 39 9 38 ?_ ?_ ?_ (eC h224) ?_ ?_ ?_ ?_ (eC_one _) ?_); rfl; rfl; rfl; rfl; rfl; rfl; kernel_rfl; intro w11 hx hb hz)
   have hg := gr_of (row := some w10.heap.size) hb
   have Z227 := Lib.hid (And.intro hz Z223.out)
   have X228 := Lib.hid hx
   clear hb hx hz
   have X229 := hbx hg (by have z := Z223.out; omega) X219
   clear X219
   have X230 := hbx hg (by have z := Z223.out; omega) X220
   clear X220
   have E231 := Lib.hid (ExB.kept (kept_nx hg (by have z := Z223.out; omega) (by have z := Z223.out; omega)) E221.out)
   clear E221
   have E232 := hkExB hg (by have z := Z223.out; omega) E225
   clear E225
   have P233 := Lib.hid (P217.out.gr hg (by have z := Z223.out; omega))
   clear P217
   have G234 := hgt hg G222 (fun _ => by have z := Z223.out; omega)
   clear G222
   have Z235 := hzz hg Z227
   clear hg
   go_upto_region 10 with (first | ((with_reducible refine m_load X230.out 39 5 ?_ ?_ ?_ ?_ ?_ ?_); rfl; rfl; rfl; rfl; kernel_rfl) | ((with_reducible refine m_load X228.out 39 9 ?_ ?_ ?_ ?_ ?_ ?_); rfl; rfl; rfl; rfl; kernel_rfl) | ((with_reducible refine m_slice2 eC_len h h224 37 39 40 41 (.agg (eC h).toArray) (.agg (eC h224).toArray) (eC h ++ eC h224).toArray ?_ ?_ ?_ ?_ (bs_E2 h h224) ?_ ?_); rfl; rfl; rfl; rfl; rfl; intro w12 hrb hb1 hz1; have HXL := Lib.hid (X230.out.below hb1 (by have z := Z235.out; omega)); have HRB := Lib.hid hrb; have HB1 := Lib.hid hb1; have HZ1 := Lib.hid hz1; clear hrb hb1 hz1) | ((with_reducible refine m_store HXL.out 39 5 44 ?_ ?_ ?_ (eC ⟨o9, 0, [], [], ⟨some ⟨w11.heap.size, 0, none⟩, 2, 2⟩, (tr.hd r').line⟩) ?_ ?_ ?_ ?_ (eC_one _) ?_); rfl; rfl; rfl; rfl; rfl; rfl; kernel_rfl; intro w13 hx hg hs))
   have HXX := Lib.hid hx
   have HGG := Lib.hid hg
   have HSS := Lib.hid hs
   clear hx hg hs
   have hg := gr_of (row := some w11.heap.size) HB1.out
   have Z236 := Lib.hid (And.intro HZ1.out Z235.out)
   have E237 := HRB
   clear HZ1 HRB
   have X238 := hbx hg (by have z := Z235.out; omega) X229
   clear X229
   have X239 := hbx hg (by have z := Z235.out; omega) X230
   clear X230
   have X240 := hbx hg (by have z := Z235.out; omega) X228
   clear X228
   have E241 := Lib.hid (ExB.kept (kept_nx hg (by have z := Z235.out; omega) (by have z := Z235.out; omega)) E231.out)
   clear E231
   have E242 := hkExB hg (by have z := Z235.out; omega) E232
   clear E232
   have P243 := Lib.hid (P233.out.gr hg (by have z := Z235.out; omega))
   clear P233
   have G244 := hgt hg G234 (fun _ => by have z := Z235.out; omega)
   clear G234
   have Z245 := hzz hg Z236
   clear hg HB1
   have hx := HXX.out
   have hg := HGG.out
   have hs := HSS.out
   clear HXX HGG HSS
   have X247 := Lib.hid hx
   have Z248 := Lib.hid (And.intro hs Z245.out)
   clear hx hs X239
   have X249 := hbx hg (by have z := Z245.out; omega) X238
   clear X238
   have X250 := hbx hg (by have z := Z245.out; omega) X240
   clear X240
   have E251 := Lib.hid (ExB.kept (kept_nx hg (by have z := Z245.out; omega) (by have z := Z245.out; omega)) E241.out)
   clear E241
   have E252 := hkExB hg (by have z := Z245.out; omega) E242
   clear E242
   have E253 := hkRB hg (by have z := Z245.out; omega) E237
   clear E237
   have P254 := Lib.hid (P243.out.gr hg (by have z := Z245.out; omega))
   clear P243
   have G255 := hgt hg G244 (fun _ => by have z := Z245.out; omega)
   clear G244
   have Z256 := hzz hg Z248
   clear hg
   by_cases hm3 : l9 = 3
   ·skip
    have q3 : ((l9 : Int) == 3) = true := by rw [beq_iff_eq]; omega
    have hq := HR216.out
    rw [if_pos (by omega)] at hq
    have HR257 := Lib.hid hq
    clear hq HR216
    go_wp2_with (first | ((with_reducible refine m_load X247.out 39 5 ?_ ?_ ?_ ?_ ?_ ?_); rfl; rfl; rfl; rfl; kernel_rfl) | ((with_reducible refine m_store X249.out 39 4 47 ?_ ?_ ?_ (eC ⟨o9, 0, [], [], ⟨some ⟨w11.heap.size, 0, none⟩, 2, 2⟩, (tr.hd r').line⟩) ?_ ?_ ?_ ?_ (eC_one _) ?_); rfl; rfl; rfl; rfl; rfl; rfl; kernel_rfl; intro w14 hx hg hs))
    have X258 := Lib.hid hx
    have Z259 := Lib.hid (And.intro hs Z256.out)
    clear hx hs X249
    have X260 := hbx hg (by have z := Z256.out; omega) X247
    clear X247
    have X261 := hbx hg (by have z := Z256.out; omega) X250
    clear X250
    have E262 := Lib.hid (ExB.kept (kept_nx hg (by have z := Z256.out; omega) (by have z := Z256.out; omega)) E251.out)
    clear E251
    have E263 := hkExB hg (by have z := Z256.out; omega) E252
    clear E252
    have E264 := hkRB hg (by have z := Z256.out; omega) E253
    clear E253
    have P265 := Lib.hid (P254.out.gr hg (by have z := Z256.out; omega))
    clear P254
    have G266 := hgt hg G255 (fun _ => by have z := Z256.out; omega)
    clear G255
    have Z267 := hzz hg Z259
    clear hg
    refine bodyPost_ret (k.results_cell rfl rfl (run_loadVar_mid _ w.heap.size 0 39 _ _ X258.out.range rfl rfl (by kernel_rfl))) rfl ?_
    exact Gv.okOf HR257.out.symm ⟨⟨o9, 0, [], [], ⟨some ⟨w11.heap.size, 0, none⟩, 2, 2⟩, (tr.hd r').line⟩, rfl, ⟨rfl, rfl, rfl, rfl, rfl, [h, h224], (RB.kept (more_nw (by have z := Z267.out; omega) (by have z := Z267.out; omega)) E264.out), h, [h224], rfl, (ExB.kept (more_nx (by have z := Z267.out; omega) (by have z := Z267.out; omega)) E262.out), h224, [], rfl, (ExB.kept (more_nw (by have z := Z267.out; omega) (by have z := Z267.out; omega)) E263.out), rfl⟩⟩ P265.out R218.out G266.out
   ·skip
    have q3 : ((l9 : Int) == 3) = false := by rw [beq_eq_false_iff_ne]; omega
    have hq := HR216.out
    rw [if_neg (by omega)] at hq
    have HR257 := Lib.hid hq
    clear hq HR216
    go_wp2_with fail
    go_roundw
    case rel => exact ⟨f2, _, r3, ⟨o9, 0, [], [], ⟨some ⟨w11.heap.size, 0, none⟩, 2, 2⟩, (tr.hd r').line⟩, HR257.out, (by have z := Z256.out; have := HFC.out; omega), (by have z := Z256.out; have := HFU.out; have := L2.out; have := HL0.out; have := HLR.out; omega), (by have z := Z256.out; have := L2.out; have := HL0.out; have := HLE.out; omega), R218.out, P254.out, X249.out, X247.out, ⟨rfl, rfl, rfl, rfl, rfl, [h, h224], (RB.kept (nw_nx (by have z := Z256.out; omega) (by have z := Z256.out; omega) (by have z := Z256.out; omega)) E253.out), h, [h224], rfl, (ExB.kept (nx_nx (by have z := Z256.out; omega) (by have z := Z256.out; omega)) E251.out), h224, [], rfl, (ExB.kept (nw_nx (by have z := Z256.out; omega) (by have z := Z256.out; omega) (by have z := Z256.out; omega)) E252.out), rfl⟩, G255.out, (by have z := Z256.out; omega)⟩
    case measure => rw [NLEN.out, P254.out.len]; have z := Z256.out; have := L2.out; have := HL0.out; have := HLR.out; omega
end
end Go.Proofs.YtbcpkhegmbdifaaGreat.tr
/- The landed parser's expressions and places, for rows of signs of any length. Condition: the depth is at most 32, the fuel suffices. -/
namespace Go.Proofs.YtbcpkhegmbdifaaGreat.tr
open Go.ChangeShapes Go.WideShapes Go.ChangeAt Go.RowKit Go.Proofs.YtbcpkhegmbdifaaGreat.k Go.Proofs.YtbcpkhegmbdifaaGreat.rr Go.Proofs.YtbcpkhegmbdifaaGreat.tk
set_option linter.unusedVariables false

theorem drop_len (r : Sg) : (r.drop 1).length = r.length - 1 := by simp
theorem index_gets {f d : Nat} (hd : d ≤ 32) {r : Sg} (hr : RowOk r) (hw : txt r = [91]) (hf : 1 ≤ f) (HE : ∀ f', f' + 1 = f → d < 32 → ECtr Tryz.prog 84 (exprF f' (d + 1) 1 (r.drop 1)) (d + 1) (r.drop 1)) :
    ICtr Tryz.prog 95 [91] [93] (indexF f d r) d r := by
  obtain ⟨f', rfl⟩ : ∃ k, f = k + 1 := ⟨f - 1, by omega⟩
  intro V g w hP
  rw [indexF]
  exact inner_any hP hr hd ((headS_txt hr (by decide) (by decide) (by decide) (by decide)).2 hw) (txt_kind hw (by decide)) (by decide) f' (HE f' rfl)
theorem expr_all : ∀ F : Nat, (∀ m d r, m ≤ 6 → d ≤ 32 → RowOk r → 20 * r.length + 9 - m ≤ F → OCtr Tryz.prog 96 m (exprF F d (m + 1) r) d r) ∧ (∀ d r, d ≤ 32 → RowOk r → 20 * r.length + 2 ≤ F → ECtr Tryz.prog 100 (unaryF F d r) d r) := by
  intro F
  induction F using Nat.strongRecOn with
  | _ F ih =>
  match F, ih with
  | 0, ih => exact ⟨fun m d r _ _ hr hf => by have := hr.len; omega, fun d r _ hr hf => by have := hr.len; omega⟩
  | f + 1, ih =>
    have EX : ∀ f' d r, f' < f + 1 → d ≤ 32 → RowOk r → 20 * r.length + 9 ≤ f' → ECtr Tryz.prog 84 (exprF f' d 1 r) d r := fun f' d r h1 h2 h3 h4 V g w hP => expression_any hP h3 ((ih f' h1).1 0 d r (by omega) h2 h3 (by omega))
    refine ⟨fun m d r hm hd hr hf => ?_, fun d r hd hr hf => ?_⟩
    · intro V g w hP
      by_cases h6 : m = 6
      · subst h6
        rw [exprF, if_pos rfl]
        exact ops_last hP hr ((ih f (by omega)).2 d r hd hr (by omega))
      · exact ops_any hP hr (by omega) hf fun f' r' h1 h2 h3 h4 => (ih f' (by omega)).1 (m + 1) d r' (by omega) hd h3 (by omega)
    · intro V g w hP
      have hl := drop_len r
      have hr0 := hr.len
      refine unary_any hP hr hd f (fun hk h32 => (ih f (by omega)).2 (d + 1) (r.drop 1) (by omega) (hr.drop hk) (by omega)) fun hn1 hn2 => ?_
      intro V g w hP
      refine factor_any hP hr hd hn1 hn2 f (fun hw hr1 h32 => EX f (d + 1) (r.drop 1) (by omega) (by omega) hr1 (by have := hr1.len; omega)) fun hk => ?_
      intro V g w hP
      refine read_any hP hr f ?_
      intro V g w hP
      refine place_any hP hr f fun hw hr1 => index_gets hd hr1 hw (by omega) fun f' hf' h32 => ?_
      have hr2 := hr1.drop (txt_kind hw (by decide))
      have hl2 := drop_len (r.drop 1)
      have hl1 := hr1.len
      exact EX f' (d + 1) _ (by omega) (by omega) hr2 (by omega)
/-- an expression -/
theorem expr_gets {f d : Nat} {r : Sg} (hd : d ≤ 32) (hr : RowOk r) (hf : 20 * r.length + 9 ≤ f) : ECtr Tryz.prog 84 (expr f d r) d r :=
  fun V g w hP => expression_any hP hr ((expr_all f).1 0 d r (by omega) hd hr (by omega))
/-- a place -/
theorem place_gets {f d : Nat} {r : Sg} (hd : d ≤ 32) (hr : RowOk r) (hf : 20 * r.length + 9 ≤ f) : ECtr Tryz.prog 82 (placeF f d r) d r := fun V g w hP => by
  have hl := drop_len r
  have hr0 := hr.len
  refine place_any hP hr f fun hw hr1 => index_gets hd hr1 hw (by omega) fun f' hf' h32 => ?_
  have hr2 := hr1.drop (txt_kind hw (by decide))
  have hl2 := drop_len (r.drop 1)
  have hl1 := hr1.len
  exact expr_gets (by omega) hr2 (by omega)
end Go.Proofs.YtbcpkhegmbdifaaGreat.tr
/- Rows of the parser's own that grow, beside trees in memory. No condition but what each line says. -/
namespace Go.Proofs.YtbcpkhegmbdifaaGreat.tr
open Go.ChangeShapes Go.WideShapes Go.ChangeAt Go.RowKit Go.Proofs.YtbcpkhegmbdifaaGreat.k Go.Proofs.YtbcpkhegmbdifaaGreat.rr Go.Proofs.YtbcpkhegmbdifaaGreat.tk
set_option linter.unusedVariables false

theorem bind_bind {α β γ : Type} (p : Res α) (f : α → Sg → Res β) (k : β → Sg → Res γ) : (p.bind f).bind k = p.bind fun x r => (f x r).bind k := by
  cases p <;> rfl
/-- the blocks from one on, ahead of another, but for those of some rows of the call's own -/
def Ny (a b : Nat) (O : List Value) (q : Nat) : Prop := a ≤ q ∧ q < b ∧ ∀ v ∈ O, v.ownBlock ≠ some q
theorem kept_ny {w w' : World} {q a b : Nat} {O : List Value} (hg : w.grownBy w' (some q)) (h1 : q < a ∨ b ≤ q ∨ ∃ v ∈ O, v.ownBlock = some q) (h2 : b ≤ w.heap.size) : Kept w w' (Ny a b O) (Ny a b O) :=
  Kept.grown hg fun k hk => ⟨by have := hk.2.1; omega, fun e => by
    injection e with e
    subst e
    rcases h1 with h | h | ⟨v, hv, h⟩
    · have := hk.1; omega
    · have := hk.2.1; omega
    · exact hk.2.2 v hv h, hk⟩
theorem ny_ny {w : World} {a b a' b' : Nat} {O O' : List Value} (h3 : a' ≤ a) (h4 : b ≤ b') (h : ∀ v ∈ O', ∀ q, v.ownBlock = some q → q < b → ∃ u ∈ O, u.ownBlock = some q) : Kept w w (Ny a b O) (Ny a' b' O') :=
  Kept.more fun k hk => ⟨by have := hk.1; omega, by have := hk.2.1; omega, fun v hv e => by
    obtain ⟨u, hu, e2⟩ := h v hv k e hk.2.1
    exact hk.2.2 u hu e2⟩
theorem nw_ny {w : World} {a b a' b' : Nat} {O : List Value} (h3 : a' ≤ a) (h4 : b ≤ b') (h : ∀ v ∈ O, ∀ q, v.ownBlock = some q → q < a ∨ b ≤ q) : Kept w w (Nw a b) (Ny a' b' O) :=
  Kept.more fun k hk => ⟨by have := hk.1; omega, by have := hk.2; omega, fun v hv e => by
    have := h v hv k e
    have := hk.1
    have := hk.2
    omega⟩
theorem ny_nw {w : World} {a b a' b' : Nat} {O : List Value} (h3 : a' ≤ a) (h4 : b ≤ b') : Kept w w (Ny a b O) (Nw a' b') := Kept.more fun k hk => ⟨by have := hk.1; omega, by have := hk.2.1; omega⟩
section
variable {α : Type} {enc : α → List Value} {z : Nat} {t : TypeId} {w w' : World} {base : Nat} {v : Value} {L : List α}
theorem Ow.lt (h : Ow enc z t w base v L) {q : Nat} (e : v.ownBlock = some q) : base ≤ q ∧ q < w.heap.size := World.ownsRow.lt h q e
/-- the block that an append changes -/
theorem grow_q (h : Ow enc z t w base v L) (hb : base ≤ w.heap.size) (hg : w.grownBy w' v.ownBlock) : ∃ q, base ≤ q ∧ (v.ownBlock = some q ∨ w.heap.size ≤ q) ∧ w.grownBy w' (some q) := by
  cases e : v.ownBlock with
  | none =>
    rw [e] at hg
    exact ⟨w.heap.size, hb, .inr (Nat.le_refl _), hg.os, hg.tape, hg.output, hg.size, fun k hk _ => hg.block k hk (by simp)⟩
  | some q =>
    rw [e] at hg
    exact ⟨q, (Ow.lt h e).1, .inl rfl, hg⟩
theorem Ow.sl (hz : ∀ x, (enc x).length = z) (h : Ow enc z t w base v L) : ∃ s : Sl, v = s.v := by
  obtain ⟨A, cap, e, _⟩ := h.form hz
  exact ⟨⟨A, L.length, cap⟩, e⟩
theorem Ow.gr {q : Nat} (h : Ow enc z t w base v L) (hg : w.grownBy w' (some q)) (hq : q < base ∨ w.heap.size ≤ q) : Ow enc z t w' base v L := by
  refine h.kept hg ?_
  cases e : v.ownBlock with
  | none => exact .inl rfl
  | some b =>
    refine .inr fun e2 => ?_
    injection e2 with e2
    have := Ow.lt h e
    omega
/-- rows of elements of two types lie apart -/
theorem Ow.apart {β : Type} {enc2 : β → List Value} {z2 : Nat} {t2 : TypeId} {base2 : Nat} {v2 : Value} {L2 : List β} (h : Ow enc z t w base v L) (h2 : Ow enc2 z2 t2 w base2 v2 L2) (ht : t ≠ t2) {q : Nat} (e : v.ownBlock = some q) : v2.ownBlock ≠ some q := by
  intro e2
  rcases h.2 with ⟨rfl, _⟩ | ⟨g, cap, cur, rfl, _, hg, _⟩
  · simp [Value.ownBlock] at e
  · rcases h2.2 with ⟨rfl, _⟩ | ⟨g2, cap2, cur2, rfl, _, hg2, _⟩
    · simp [Value.ownBlock] at e2
    · have e : g = q := by simpa [Value.ownBlock] using e
      have e2 : g2 = q := by simpa [Value.ownBlock] using e2
      subst e e2
      rw [hg] at hg2
      simp only [Option.some.injEq, Obj.cells.injEq] at hg2
      exact ht hg2.2.1
theorem Ow.gr2 {q : Nat} (h : Ow enc z t w base v L) (hg : w.grownBy w' (some q)) (hq : v.ownBlock ≠ some q) : Ow enc z t w' base v L := by
  refine h.kept hg ?_
  cases e : v.ownBlock with
  | none => exact .inl rfl
  | some b => exact .inr (e ▸ hq)
end
/-- a row of the call's own, as a slice in new blocks -/
theorem rb_own {α : Type} {enc : α → List Value} {z : Nat} (hz : ∀ x, (enc x).length = z) {w : World} {t : TypeId} {base : Nat} {s : Sl} {L : List α} {a b : Nat} (h : Ow enc z t w base s.v L) (ha : a ≤ base) (hb : w.heap.size ≤ b) : RB enc z w (Nw a b) s L := by
  obtain ⟨s', e, hr⟩ := RB.own hz h (S := Nw a b) (fun q e => by have := Ow.lt h e; exact ⟨by omega, by omega⟩)
  obtain ⟨A, l, c⟩ := s
  obtain ⟨A', l', c'⟩ := s'
  simp only [Sl.v, Value.slice.injEq] at e
  obtain ⟨rfl, rfl, rfl⟩ := e
  exact hr
end Go.Proofs.YtbcpkhegmbdifaaGreat.tr
