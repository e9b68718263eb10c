/- The document's words for a name: the given functions of names. No condition. -/
import Derived.Test.YtdefgghhkknnpaaGreatDoorV02
namespace Go.Proofs.YtdefgghhkknnpaaGreatDoor.sh
open Go.ChangeShapes Go.WideShapes Go.ChangeAt Go.RowKit Go.Proofs.YtdefgghhkknnpaaGreatDoor.k Go.Proofs.YtdefgghhkknnpaaGreatDoor.rr Go.Proofs.YtdefgghhkknnpaaGreatDoor.tk Go.Proofs.YtdefgghhkknnpaaGreatDoor.tr
set_option linter.unusedVariables false
set_option linter.unusedSimpArgs false

set_option maxRecDepth 100000 in
set_option maxHeartbeats 4000000 in
theorem word_any (s : ByteArray) (w : World) : Calls Tryz.prog 64 #[.string s] w fun e w' => e = .returned (.bool (isWord s.data.toList)) ∧ Below w.heap.size w w' := by
  obtain ⟨W1, hW1⟩ : ∃ W, W = w.alloc (.cells (words.map fun l => .string ⟨l.toArray⟩).toArray 9) := ⟨_, rfl⟩
  have HC := Lib.hid fun (k : Nat) (l : List UInt8) (h : words[k]? = some l) => (show W1.cell? ⟨w.heap.size, k, none⟩ = some (.string ⟨l.toArray⟩) by
    rw [hW1, World.cell?_alloc_mark]
    simp [h])
  have HB : Hid (Below w.heap.size w W1) := Lib.hid (hW1 ▸ (Below.refl _ _).alloc (Nat.le_refl _) _)
  have HW := Lib.hid hW1
  have HL := Lib.hid words_len
  have HE := Lib.hid fun l => bytes_beq l s
  clear hW1
  go_enter Tryz.func64, Tryz.ntmps64
  go_upto_region 2 with (fail)
  go_loopw [7] (fun s7 wr => ∃ k : Nat, k ≤ 36 ∧ s7 = .int .i64 k ∧ (words.drop k).any (fun l => l == s.data.toList) = isWord s.data.toList ∧ W1 = wr) (fun i _ => 36 - (intOf i).toNat)
  case atStart => exact ⟨0, by omega, rfl, rfl, HW.out⟩
  case round =>
    obtain ⟨k, hk, rfl, hn, rfl⟩ := hrel
    by_cases hlt : k < 36
    · obtain ⟨l, hl⟩ : ∃ l, words[k]? = some l := ⟨_, List.getElem?_eq_getElem (by rw [words_len]; exact hlt)⟩
      have hc := HC.out k l hl
      have hd : words.drop k = l :: words.drop (k + 1) := by
        obtain ⟨h1, h2⟩ := List.getElem?_eq_some_iff.1 hl
        rw [List.drop_eq_getElem_cons h1, h2]
      rw [hd, List.any_cons] at hn
      have he := HE.out l
      have hz : (k : Int) < 36 := by omega
      have w1 : IntKind.i64.wrap ((k : Int) + 1) = k + 1 := by rw [IntKind.wrap_i64]; omega
      obtain ⟨b, hb⟩ : ∃ b, (l == s.data.toList) = b := ⟨_, rfl⟩
      rw [hb] at hn he
      clear hl hd hb
      generalize (⟨l.toArray⟩ : ByteArray) = t at *
      cases b
      · have HN := Lib.hid hn
        clear hn
        go_wp2_with fail
        go_roundw
        case rel => exact ⟨k + 1, by omega, by go_num, by have := HN.out; simpa using this, trivial⟩
        case measure => simp [intOf]; omega
      · have HN := Lib.hid hn
        clear hn
        go_wp2_with fail
        go_ret
        exact ⟨ret_bool (by have := HN.out; simpa using this), HB.out⟩
    · have : k = 36 := by omega
      subst this
      have HN := Lib.hid hn
      clear hn
      go_wp2_with fail
      go_ret
      exact ⟨ret_bool HN.out, HB.out⟩
/-- what the byte at a place of a name may be -/
def okN (q : Nat) (c : UInt8) : Bool := if q = 0 then alphaB c else bodyB c
def restN (s : ByteArray) (q : Nat) : Bool := if q = 0 then (match dr s 0 with | [] => false | c :: l => alphaB c && l.all bodyB) else (dr s q).all bodyB
theorem restN_at {s : ByteArray} {q : Nat} (h : q < s.size) : restN s q = (okN q s[q] && restN s (q + 1)) := by
  unfold restN okN
  rw [if_neg (show ¬ q + 1 = 0 by omega)]
  by_cases h0 : q = 0
  · subst h0
    rw [if_pos rfl, if_pos rfl, dr_at h]
  · rw [if_neg h0, if_neg h0, dr_at h, List.all_cons]
theorem restN_end {s : ByteArray} {q : Nat} (h : s.size ≤ q) (h0 : q ≠ 0) : restN s q = true := by
  unfold restN
  rw [if_neg h0, dr_end h]
  rfl
theorem body_alpha {c : UInt8} (h : alphaB c = true) : bodyB c = true := by unfold bodyB; rw [h]; rfl
theorem nm_rest {s : ByteArray} (h0 : 0 < s.size) (h1 : s.size ≤ 16) (h2 : isWord s.data.toList = false) : restN s 0 = nmB s.data.toList := by
  have hl : s.data.toList.length ≤ 16 := by rw [size_len]; exact h1
  have hd : dr s 0 = s.data.toList := by unfold dr; rfl
  unfold restN
  rw [if_pos rfl, hd]
  match hs : s.data.toList with
  | [] =>
    rw [hs] at hd
    have := dr_len s 0
    rw [hd, List.length_nil] at this
    omega
  | c :: l =>
    rw [hs] at hl h2
    unfold nmB
    simp only
    rw [h2, decide_eq_true hl, List.all_cons]
    cases hc : alphaB c with
    | false => rfl
    | true =>
      rw [body_alpha hc]
      simp
theorem okN_iff (q : Nat) (x : UInt8) : okN q x = true ↔ (65 ≤ (x.toNat : Int) ∧ (x.toNat : Int) ≤ 90) ∨ (97 ≤ (x.toNat : Int) ∧ (x.toNat : Int) ≤ 122) ∨ (q ≠ 0 ∧ 48 ≤ (x.toNat : Int) ∧ (x.toNat : Int) ≤ 57) ∨ (q ≠ 0 ∧ (x.toNat : Int) = 95) := by
  have e95 : (x == 95) = true ↔ (x.toNat : Int) = 95 := by
    have := u8_eq x 95 (by omega)
    rw [← beq_iff_eq (a := (x.toNat : Int)), ← show ((95 : Nat) : Int) = 95 from rfl, this]
    rfl
  unfold okN
  by_cases h0 : q = 0
  · rw [if_pos h0, alphaB_iff]
    omega
  · rw [if_neg h0]
    unfold bodyB
    rw [Bool.or_eq_true, Bool.or_eq_true, alphaB_iff, numB_iff, e95]
    omega
set_option maxRecDepth 100000 in
set_option maxHeartbeats 16000000 in
/-- whether a text is a name that is no word, as the document's function gives it -/
theorem refname_any (s : ByteArray) (w : World) : Calls Tryz.prog 39 #[.string s] w fun e w' => e = .returned (.bool (nmB s.data.toList)) ∧ Below w.heap.size w w' := by
  have WD := Lib.hid (word_any s w)
  by_cases h0 : 0 < s.size
  rotate_left
  · have HR : Hid (nmB s.data.toList = false) := Lib.hid (by
      have hl := size_len s
      match hs : s.data.toList with
      | [] => rfl
      | c :: l => rw [hs, List.length_cons] at hl; omega)
    have hz : (s.size : Int) < 1 := by omega
    clear WD h0
    go_enter Tryz.func39, Tryz.ntmps39
    go_wp2
    go_ret
    exact ⟨ret_bool HR.out.symm, Below.refl _ _⟩
  have hz1 : ¬ (s.size : Int) < 1 := by omega
  by_cases h1 : s.size ≤ 16
  rotate_left
  · have HR : Hid (nmB s.data.toList = false) := Lib.hid (by
      have hl := size_len s
      unfold nmB
      match hs : s.data.toList with
      | [] => rfl
      | c :: l =>
        rw [hs] at hl
        simp only
        rw [decide_eq_false (show ¬ (c :: l).length ≤ 16 by omega)]
        simp)
    have hz : (16 : Int) < s.size := by omega
    clear WD h0 h1
    go_enter Tryz.func39, Tryz.ntmps39
    go_wp2
    go_ret
    exact ⟨ret_bool HR.out.symm, Below.refl _ _⟩
  have hz2 : ¬ (16 : Int) < s.size := by omega
  obtain ⟨v, hv⟩ : ∃ v, isWord s.data.toList = v := ⟨_, rfl⟩
  rw [hv] at WD
  cases v
  rotate_left
  · have HR : Hid (nmB s.data.toList = false) := Lib.hid (by
      unfold nmB
      match hs : s.data.toList with
      | [] => rfl
      | c :: l =>
        rw [hs] at hv
        simp only
        rw [hv]
        simp)
    clear h0 h1 hv
    go_enter Tryz.func39, Tryz.ntmps39
    go_wp2_with (go_at_call 64; fail)
    refine WD.out.mono ?_
    rintro e w1 ⟨rfl, hb⟩
    have B1 := Lib.hid hb
    clear hb WD
    go_wp2_with fail
    go_ret
    exact ⟨ret_bool HR.out.symm, B1.out⟩
  obtain ⟨R, hR⟩ : ∃ R, nmB s.data.toList = R := ⟨_, rfl⟩
  have HN : Hid (restN s 0 = R) := Lib.hid (by rw [nm_rest h0 h1 hv]; exact hR)
  rw [hR]
  have HH := Lib.hid (And.intro h0 h1)
  clear h0 h1 hv hR
  go_enter Tryz.func39, Tryz.ntmps39
  go_wp2_with (go_at_call 64; fail)
  refine WD.out.mono ?_
  rintro e w1 ⟨rfl, hb⟩
  have B1 := Lib.hid hb
  clear hb WD hz1 hz2
  go_upto_region 4 with (fail)
  go_loopw [3] (fun s3 wr => ∃ q : Nat, q ≤ s.size ∧ s3 = .int .i64 q ∧ restN s q = R ∧ w1 = wr) (fun i _ => s.size - (intOf i).toNat)
  case atStart => exact ⟨0, by omega, rfl, HN.out, rfl⟩
  case round =>
    obtain ⟨q, hq, rfl, hr, rfl⟩ := hrel
    by_cases hlt : q < s.size
    · have hh := HH.out
      have hz : (q : Int) < s.size := by omega
      have w1 : IntKind.i64.wrap ((q : Int) + 1) = q + 1 := by rw [IntKind.wrap_i64]; omega
      obtain ⟨x, hx⟩ : ∃ x : UInt8, s[q] = x := ⟨_, rfl⟩
      rw [restN_at hlt, hx] at hr
      by_cases hok : okN q x = true
      · rw [hok, Bool.true_and] at hr
        have HM : Hid (s.size ≤ 16 ∧ q < s.size) := Lib.hid ⟨hh.2, hlt⟩
        have HR := Lib.hid hr
        rw [okN_iff] at hok
        clear hr hh
        rcases hok with hok | hok | hok | hok
        all_goals
          first | (have f1 : (65 : Int) ≤ x.toNat := by omega) | (have f1 : ¬ (65 : Int) ≤ x.toNat := by omega)
          first | (have f2 : (x.toNat : Int) ≤ 90 := by omega) | (have f2 : ¬ (x.toNat : Int) ≤ 90 := by omega)
          first | (have f3 : (97 : Int) ≤ x.toNat := by omega) | (have f3 : ¬ (97 : Int) ≤ x.toNat := by omega)
          first | (have f4 : (x.toNat : Int) ≤ 122 := by omega) | (have f4 : ¬ (x.toNat : Int) ≤ 122 := by omega)
          first | (have f5 : (x.toNat : Int) < 48 := by omega) | (have f5 : ¬ (x.toNat : Int) < 48 := by omega)
          first | (have f6 : (57 : Int) < x.toNat := by omega) | (have f6 : ¬ (57 : Int) < x.toNat := by omega)
          first | (have f7 : ((x.toNat : Int) == 95) = true := by (rw [beq_iff_eq]; omega)) | (have f7 : ((x.toNat : Int) == 95) = false := by (rw [beq_eq_false_iff_ne]; omega))
          first | (have f8 : ((q : Int) == 0) = true := by (rw [beq_iff_eq]; omega)) | (have f8 : ((q : Int) == 0) = false := by (rw [beq_eq_false_iff_ne]; omega)) | skip
          first | (have f9 : ¬ (x.toNat : Int) = 95 := by omega) | skip
          clear hok
          go_wp2_with fail
          go_roundw
          case rel => exact ⟨q + 1, HM.out.2, by go_num, HR.out, trivial⟩
          case measure => have := HM.out; simp [intOf]; omega
      · rw [Bool.not_eq_true] at hok
        rw [hok, Bool.false_and] at hr
        have HR := Lib.hid hr
        have hx9 := x.toNat_lt
        have hno : ¬ okN q x = true := by rw [hok]; decide
        rw [okN_iff] at hno
        clear hr hh hok
        rcases (show ((q : Int) = 0 ∧ ((x.toNat : Int) < 48 ∨ (48 ≤ (x.toNat : Int) ∧ (x.toNat : Int) ≤ 57) ∨ (58 ≤ (x.toNat : Int) ∧ (x.toNat : Int) ≤ 64) ∨ (91 ≤ (x.toNat : Int) ∧ (x.toNat : Int) ≤ 94) ∨ (x.toNat : Int) = 95 ∨ (x.toNat : Int) = 96 ∨ 123 ≤ (x.toNat : Int))) ∨ ((q : Int) ≠ 0 ∧ ((x.toNat : Int) < 48 ∨ (58 ≤ (x.toNat : Int) ∧ (x.toNat : Int) ≤ 64) ∨ (91 ≤ (x.toNat : Int) ∧ (x.toNat : Int) ≤ 94) ∨ (x.toNat : Int) = 96 ∨ 123 ≤ (x.toNat : Int))) by omega) with ⟨h8, h9 | h9 | h9 | h9 | h9 | h9 | h9⟩ | ⟨h8, h9 | h9 | h9 | h9 | h9⟩
        all_goals
          first | (have f1 : (65 : Int) ≤ x.toNat := by omega) | (have f1 : ¬ (65 : Int) ≤ x.toNat := by omega)
          first | (have f2 : (x.toNat : Int) ≤ 90 := by omega) | (have f2 : ¬ (x.toNat : Int) ≤ 90 := by omega)
          first | (have f3 : (97 : Int) ≤ x.toNat := by omega) | (have f3 : ¬ (97 : Int) ≤ x.toNat := by omega)
          first | (have f4 : (x.toNat : Int) ≤ 122 := by omega) | (have f4 : ¬ (x.toNat : Int) ≤ 122 := by omega)
          first | (have f5 : (x.toNat : Int) < 48 := by omega) | (have f5 : ¬ (x.toNat : Int) < 48 := by omega)
          first | (have f6 : (57 : Int) < x.toNat := by omega) | (have f6 : ¬ (57 : Int) < x.toNat := by omega)
          first | (have f7 : ((x.toNat : Int) == 95) = true := by (rw [beq_iff_eq]; omega)) | (have f7 : ((x.toNat : Int) == 95) = false := by (rw [beq_eq_false_iff_ne]; omega))
          first | (have f8 : ((q : Int) == 0) = true := by (rw [beq_iff_eq]; omega)) | (have f8 : ((q : Int) == 0) = false := by (rw [beq_eq_false_iff_ne]; omega)) | skip
          first | (have f9 : ¬ (x.toNat : Int) = 95 := by omega) | skip
          clear hno h8 h9 hx9
          go_wp2_with fail
          go_ret
          exact ⟨ret_bool HR.out, B1.out⟩
    · have hh := HH.out
      have hz : ¬ (q : Int) < s.size := by omega
      have HR : Hid (true = R) := Lib.hid (by rw [← hr, restN_end (by omega) (by omega)])
      clear hr hh hlt hq
      go_wp2_with fail
      go_ret
      exact ⟨ret_bool HR.out, B1.out⟩
end Go.Proofs.YtdefgghhkknnpaaGreatDoor.sh
