/- For every text the law TreeLines returns true, and what was in memory is as it was. Condition: the library's variable MaxLen holds some number. -/
import Derived.Test.YtbcpkhegmbdifaaU24
import Derived.Test.YtbcpkhegmbdifaaU08
import Derived.Test.YtbcpkhegmbdifaaU25
namespace Go.Proofs.Ytbcpkhegmbdifaa.treeLines
open Go.ChangeShapes Go.WideShapes Go.ChangeAt Go.RowKit Go.Proofs.Ytbcpkhegmbdifaa Go.Proofs.Ytbcpkhegmbdifaa.k Go.Proofs.Ytbcpkhegmbdifaa.rr Go.Proofs.Ytbcpkhegmbdifaa.tk Go.Proofs.Ytbcpkhegmbdifaa.tr
set_option linter.unusedVariables false

theorem ext_list (t : ByteArray) (a b : Nat) : (t.extract a b).data.toList = (dr t a).take (b - a) := by rw [tk.extract_dr]
theorem extract_size (s : ByteArray) (n : Nat) : (s.extract 0 n).size ≤ n := by
  rw [← size_len, ext_list, List.length_take]
  omega
/-- the text with newlines for blanks, as far as it was gone through -/
def cur (t : ByteArray) (i : Nat) : ByteArray := ⟨(nlS (t.data.toList.take i)).toArray⟩
theorem cur_size {t : ByteArray} {i : Nat} (h : i ≤ t.size) : (cur t i).size = i := by
  rw [← size_len]
  show (nlS (t.data.toList.take i)).length = i
  unfold nlS
  rw [List.length_map, List.length_take, size_len]
  omega
theorem cat_list (a b : ByteArray) : (a ++ b).data.toList = a.data.toList ++ b.data.toList := by
  rw [ByteArray.data_append, Array.toList_append]
theorem cur_next {t : ByteArray} {i : Nat} (h : i < t.size) (X : ByteArray) (hX : X.data.toList = [if t[i] = 32 then 10 else t[i]]) : cur t i ++ X = cur t (i + 1) := by
  apply ByteArray.ext
  apply Array.toList_inj.1
  rw [cat_list, hX]
  show nlS (t.data.toList.take i) ++ _ = nlS (t.data.toList.take (i + 1))
  have h2 : i < t.data.toList.length := by rw [size_len]; exact h
  unfold nlS
  rw [List.take_succ_eq_append_getElem h2, List.map_append, List.map_singleton]
  rfl
theorem cur_all (t : ByteArray) : (cur t t.size).data.toList = nlS t.data.toList := by
  show nlS (t.data.toList.take t.size) = _
  rw [List.take_of_length_le (by rw [size_len]; exact Nat.le_refl _)]
theorem cur_zero (t : ByteArray) : cur t 0 = ⟨#[]⟩ := rfl
theorem two_short {l : Str} {a b : UInt8} (h : l.length ≤ 1) : two l a b = false := by
  match l, h with
  | [], _ => rfl
  | [_], _ => rfl
set_option maxRecDepth 100000 in
set_option maxHeartbeats 4000000 in
theorem walk (s : ByteArray) (w : World) (hs : s.size ≤ maxLen) (hM : MaxL w) :
    Calls Try.prog 5 #[.string s] w fun e w' => e = .returned (.bool true) ∧ Below w.heap.size w w' := by
  have HK := Lib.hid (tr.awake_any w hM)
  have MX := Lib.hid hM
  clear hM
  have ht : (s.extract 0 (min (s.size : Int) 1500).toNat).size ≤ 1500 := Nat.le_trans (extract_size _ _) (by omega)
  have hs2 : (s.size : Int) ≤ 9223372036854775807 := by unfold maxLen at hs; omega
  clear hs
  go_enter Try.func5, Try.ntmps5
  go_upto_region 3 with (go_at_call 6; ((with_reducible refine (HK.out).mono ?_); rintro e w2 ⟨rfl, hb⟩; have HB := Lib.hid hb; clear hb HK))
  go_upto_region 4 with (fail)
  generalize s.extract 0 (min (s.size : Int) 1500).toNat = t at *
  clear hs2
  go_upto_region 5 with (fail)
  go_loopw [3] (fun s3 wr => ∃ i : Nat, s3 = .int .i64 i ∧ i ≤ t.size ∧ (∀ k, k < i → two (t.data.toList.drop k) 47 47 = false) ∧ w2 = wr) (fun i _ => t.size - (intOf i).toNat)
  case atStart => exact ⟨0, rfl, Nat.zero_le _, fun k hk => absurd hk (by omega), rfl⟩
  case round =>
    obtain ⟨i, rfl, hi, hno, rfl⟩ := hrel
    have w1 : IntKind.i64.wrap ((i : Int) + 1) = ((i + 1 : Nat) : Int) := by rw [IntKind.wrap_i64]; omega
    obtain ⟨i1, hi1⟩ : ∃ i1, i + 1 = i1 := ⟨_, rfl⟩
    rw [hi1] at w1
    by_cases hlt : i1 < t.size
    · obtain ⟨j, hj⟩ : ∃ j, i + 2 = j := ⟨_, rfl⟩
      have w2' : IntKind.i64.wrap ((i : Int) + 2) = j := by rw [IntKind.wrap_i64]; omega
      have z0 : (i1 : Int) < t.size := by omega
      have z1 : (j : Int) ≤ t.size := by omega
      have z2 : (i : Int) ≤ j := by omega
      have z3 : (i : Int) ≤ t.size := by omega
      obtain ⟨X, hX⟩ : ∃ X, t.extract i j = X := ⟨_, rfl⟩
      obtain ⟨b, hb⟩ : ∃ b, two (t.data.toList.drop i) 47 47 = b := ⟨_, rfl⟩
      have e1 : (X.toList == [47, 47]) = b := by
        rw [ByteArray.toList_eq, ← hX, ext_list, show j - i = 2 by omega, ← hb]
        show ((dr t i).take 2 == [47, 47]) = two (dr t i) 47 47
        rw [dr_at (show i < t.size by omega), dr_at (show i + 1 < t.size by omega), two_cons]
        simp
      cases b
      · have HN := Lib.hid (show ∀ k, k < i1 → two (t.data.toList.drop k) 47 47 = false from fun k hk => by
          by_cases e : k = i
          · rw [e]; exact hb
          · exact hno k (by omega))
        have HI := Lib.hid (show i1 ≤ t.size ∧ i < i1 by omega)
        clear hno hb hj hi1
        go_wp2_with fail
        go_roundw
        case rel => exact ⟨i1, by go_num, HI.out.1, HN.out, trivial⟩
        case measure => have := HI.out; simp [intOf]; omega
      · clear hno hb hj hi1
        go_wp2_with fail
        go_ret
        exact ⟨rfl, HB.out⟩
    · have z0 : ¬ (i1 : Int) < t.size := by omega
      have hall : ∀ k, two (t.data.toList.drop k) 47 47 = false := fun k => by
        by_cases hk : k < i
        · exact hno k hk
        · exact two_short (by rw [List.length_drop, size_len]; omega)
      have HPL := Lib.hid (parse_lines (s := t.data.toList) (by rw [size_len]; exact ht) hall)
      have HT := Lib.hid ht
      have CN := Lib.hid fun i h X hX => cur_next (t := t) (i := i) h X hX
      have CS := Lib.hid fun i (h : i ≤ t.size) => cur_size h
      have CZ := Lib.hid (cur_zero t)
      have CA := Lib.hid (cur_all t)
      clear hno hall hi1 hi
      go_upto_region 11 with (fail)
      clear z0 hlt w1
      go_loopw [4, 5] (fun s4 s5 wr => ∃ q : Nat, s5 = .int .i64 q ∧ q ≤ t.size ∧ s4 = .string (cur t q) ∧ w2 = wr) (fun _ i _ => t.size - (intOf i).toNat)
      case atStart => exact ⟨0, rfl, Nat.zero_le _, by rw [CZ.out], rfl⟩
      case round =>
        obtain ⟨q, rfl, hq, rfl, rfl⟩ := hrel
        have ht := HT.out
        by_cases hlt : q < t.size
        · obtain ⟨x, hx⟩ : ∃ x : UInt8, t[q] = x := ⟨_, rfl⟩
          have hcs := CS.out q hq
          have hnx := CN.out q hlt
          rw [hx] at hnx
          obtain ⟨q1, hq1⟩ : ∃ q1, q + 1 = q1 := ⟨_, rfl⟩
          rw [hq1] at hnx
          have w1 : IntKind.i64.wrap ((q : Int) + 1) = q1 := by rw [IntKind.wrap_i64]; omega
          have z0 : (q : Int) < t.size := by omega
          have z1 : (q1 : Int) ≤ t.size := by omega
          have z2 : (q : Int) ≤ q1 := by omega
          have e2 := eq8n x 32 (by omega)
          rw [show (UInt8.ofNat 32) = 32 from rfl, show ((32 : Nat) : Int) = 32 from rfl] at e2
          have HQ := Lib.hid (show q1 ≤ t.size ∧ q < q1 by omega)
          by_cases h32 : x = 32
          · rw [show (x == 32) = true by rw [beq_iff_eq]; exact h32] at e2
            have c1 := hnx ⟨#[10]⟩ (by rw [if_pos h32])
            have c2 : ¬ 9223372036854775807 < (cur t q).size + 1 := by omega
            clear hnx hcs hq1 h32 ht
            go_wp2_with fail
            go_roundw
            case rel => exact ⟨q1, by go_num, HQ.out.1, rfl, trivial⟩
            case measure => have := HQ.out; simp [intOf]; omega
          · rw [show (x == 32) = false by rw [beq_eq_false_iff_ne]; exact h32] at e2
            obtain ⟨X, hX⟩ : ∃ X, t.extract q q1 = X := ⟨_, rfl⟩
            have hXl : X.data.toList = [x] := by
              rw [← hX, ext_list, show q1 - q = 1 by omega, dr_at hlt, hx]
              rfl
            have c1 := hnx X (by rw [if_neg h32]; exact hXl)
            have hXs : X.size = 1 := by rw [← size_len, hXl]; rfl
            have c2 : ¬ 9223372036854775807 < (cur t q).size + X.size := by omega
            clear hnx hcs hq1 h32 ht hXl hXs
            go_wp2_with fail
            go_roundw
            case rel => exact ⟨q1, by go_num, HQ.out.1, rfl, trivial⟩
            case measure => have := HQ.out; simp [intOf]; omega
        · have z0 : ¬ (q : Int) < t.size := by omega
          obtain rfl : q = t.size := by omega
          obtain ⟨t2, ht2⟩ : ∃ t2, cur t t.size = t2 := ⟨_, rfl⟩
          have hcl := CA.out
          have hcs := CS.out t.size (Nat.le_refl _)
          rw [ht2] at hcl hcs ⊢
          have PX := Lib.hid fun W (hMW : MaxL W) => parse_any t (by omega) W hMW
          have PY := Lib.hid fun W (hMW : MaxL W) => parse_any t2 (by omega) W hMW
          obtain ⟨h1, h2⟩ := HPL.out
          rw [← hcl] at h1 h2
          unfold GotG at PX PY
          obtain ⟨⟨P, er, ⟨pk, pt, pn, pl, pc⟩⟩, hpx⟩ : ∃ R, parse t.data.toList = R := ⟨_, rfl⟩
          obtain ⟨⟨Q, f, ⟨qk, qt, qn, ql, qc⟩⟩, hqx⟩ : ∃ R, parse t2.data.toList = R := ⟨_, rfl⟩
          rw [hpx] at PX h1 h2
          rw [hqx] at PY h1 h2
          simp only at PX PY h1 h2
          subst h1
          rw [show (tC ⟨pk, pt, pn, pl, pc⟩).toArray = #[.int .i64 pk, .string ⟨pt.toArray⟩, .int .i64 pn, .int .i64 pl, .int .i64 pc] from rfl] at PX
          rw [show (tC ⟨qk, qt, qn, ql, qc⟩).toArray = #[.int .i64 qk, .string ⟨qt.toArray⟩, .int .i64 qn, .int .i64 ql, .int .i64 qc] from rfl] at PY
          have SM := Lib.hid fun h h' W hp hq => same_any P Q h h' W hp hq
          rw [h2] at SM
          clear hpx hqx hcl hcs ht2 h2 ht
          go_wp2_with (go_at_call 7; fail)
          with_reducible refine (PX.out _ (MX.out.below HB.out)).mono ?_
          rintro e w3 ⟨⟨gn, ⟨VA, vl, vc⟩, ⟨SA, sl, sc⟩⟩, rfl, hp, hb⟩
          have B3 := Lib.hid (HB.out.trans (hb.mono HB.out.size))
          simp only [gC, sv, Sl.v]
          clear hb PX HB
          go_upto_region 17 with (fail)
          obtain ⟨x4, _, hb4, hz4⟩ := boxes2 (Below.refl ((w3.alloc (.cells #[.string ⟨gn.toArray⟩, .slice VA vl vc, .slice SA sl sc] 26)).alloc (.cells #[.int .i64 pk, .string ⟨pt.toArray⟩, .int .i64 pn, .int .i64 pl, .int .i64 pc] 29)).heap.size ((w3.alloc (.cells #[.string ⟨gn.toArray⟩, .slice VA vl vc, .slice SA sl sc] 26)).alloc (.cells #[.int .i64 pk, .string ⟨pt.toArray⟩, .int .i64 pn, .int .i64 pl, .int .i64 pc] 29)))
          have P4 := Lib.hid (hp.below hb4 hb4.size)
          have B4 := Lib.hid (B3.out.trans (hb4.mono B3.out.size))
          have X4 := Lib.hid x4
          have Z4 := Lib.hid hz4
          clear x4 hb4 hz4 hp B3
          generalize ((w3.alloc (.cells #[.string ⟨gn.toArray⟩, .slice VA vl vc, .slice SA sl sc] 26)).alloc (.cells #[.int .i64 pk, .string ⟨pt.toArray⟩, .int .i64 pn, .int .i64 pl, .int .i64 pc] 29)) = w4 at *
          generalize w3.heap.size = g3 at *
          go_wp2_with (go_at_call 7; fail)
          with_reducible refine (PY.out _ (MX.out.below B4.out)).mono ?_
          rintro e w5 ⟨⟨gn2, ⟨VB, vm, vd⟩, ⟨SB, sm, sd⟩⟩, rfl, hq, hb⟩
          have B5 := Lib.hid (B4.out.trans (hb.mono B4.out.size))
          have P5 := Lib.hid (P4.out.below hb hb.size)
          have X5 := Lib.hid (X4.out.below hb (by have := Z4.out; omega))
          have Z5 := Lib.hid (show g3 + 1 < w5.heap.size from Nat.lt_of_lt_of_le Z4.out hb.size)
          simp only [gC, sv, Sl.v]
          clear hb PY B4 P4 X4 Z4
          go_upto_region 18 with (fail)
          obtain ⟨x6, _, hb6, hz6⟩ := boxes2 (Below.refl ((w5.alloc (.cells #[.string ⟨gn2.toArray⟩, .slice VB vm vd, .slice SB sm sd] 26)).alloc (.cells #[.int .i64 qk, .string ⟨qt.toArray⟩, .int .i64 qn, .int .i64 ql, .int .i64 qc] 29)).heap.size ((w5.alloc (.cells #[.string ⟨gn2.toArray⟩, .slice VB vm vd, .slice SB sm sd] 26)).alloc (.cells #[.int .i64 qk, .string ⟨qt.toArray⟩, .int .i64 qn, .int .i64 ql, .int .i64 qc] 29)))
          have P6 := P5.out.below hb6 hb6.size
          have Q6 := hq.below hb6 hb6.size
          have B6 := Lib.hid (B5.out.trans (hb6.mono B5.out.size))
          have X6 := Lib.hid (X5.out.below hb6 (by have := Z5.out; omega))
          have Y6 := Lib.hid x6
          clear x6 hb6 hz6 hq B5 P5 X5
          generalize ((w5.alloc (.cells #[.string ⟨gn2.toArray⟩, .slice VB vm vd, .slice SB sm sd] 26)).alloc (.cells #[.int .i64 qk, .string ⟨qt.toArray⟩, .int .i64 qn, .int .i64 ql, .int .i64 qc] 29)) = w6 at *
          generalize w5.heap.size = g5 at *
          have SM2 := SM.out _ _ w6 P6 Q6
          simp only [gC, sv, Sl.v] at SM2
          have SM2 := Lib.hid SM2
          clear SM P6 Q6
          have ⟨a0, _, a1, _, a2, _, _⟩ := X6.out
          have ⟨d0, _, d1, _, d2, _, _⟩ := Y6.out
          go_wp2_with (go_at_call 8; (with_reducible refine SM2.out.mono ?_); rintro e w7 ⟨rfl, hb⟩; have B7 := Lib.hid (B6.out.trans (hb.mono B6.out.size)); clear hb)
          go_ret
          exact ⟨rfl, B7.out⟩
end Go.Proofs.Ytbcpkhegmbdifaa.treeLines
