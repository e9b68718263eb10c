/- For every text and place the law TreeCut returns true, and what was in memory is as it was. Condition: the library's variable MaxLen holds some number. -/
import Derived.Test.YtbcpkhegmbdifaaU24
namespace Go.Proofs.Ytbcpkhegmbdifaa.treeCut
open Go.ChangeShapes Go.WideShapes Go.ChangeAt Go.RowKit Go.Proofs.Ytbcpkhegmbdifaa Go.Proofs.Ytbcpkhegmbdifaa.k Go.Proofs.Ytbcpkhegmbdifaa.rr Go.Proofs.Ytbcpkhegmbdifaa.tk Go.Proofs.Ytbcpkhegmbdifaa.tr
set_option linter.unusedVariables false

/-- END_PROGRAM stands at a place -/
def occ (t : Str) (p : Nat) : Prop := (t.drop p).take 11 = endP
/-- what was counted so far -/
def Cnt (t : Str) (i last many : Nat) : Prop := many ≤ i ∧ last ≤ t.length ∧ ((many = 0 ∧ last = 0 ∧ ∀ p, p < i → ¬ occ t p) ∨ (many = 1 ∧ ∃ q, last = q + 11 ∧ ∀ p, p < i → occ t p → p = q) ∨ 2 ≤ many)
theorem Cnt.start (t : Str) : Cnt t 0 0 0 := ⟨Nat.le_refl _, Nat.zero_le _, .inl ⟨rfl, rfl, fun p hp => absurd hp (by omega)⟩⟩
theorem Cnt.yes {t : Str} {i last many : Nat} (h : Cnt t i last many) (hi : i + 11 ≤ t.length) (ho : occ t i) : Cnt t (i + 1) (i + 11) (many + 1) := by
  obtain ⟨h1, h2, h3⟩ := h
  refine ⟨by omega, hi, ?_⟩
  rcases h3 with ⟨h4, h5, h6⟩ | ⟨h4, q, h5, h6⟩ | h4
  · refine .inr (.inl ⟨by omega, i, rfl, fun p hp hq => ?_⟩)
    by_cases e : p = i
    · exact e
    · exact absurd hq (h6 p (by omega))
  · exact .inr (.inr (by omega))
  · exact .inr (.inr (by omega))
theorem Cnt.no {t : Str} {i last many : Nat} (h : Cnt t i last many) (ho : ¬ occ t i) : Cnt t (i + 1) last many := by
  obtain ⟨h1, h2, h3⟩ := h
  refine ⟨by omega, h2, ?_⟩
  rcases h3 with ⟨h4, h5, h6⟩ | ⟨h4, q, h5, h6⟩ | h4
  · refine .inl ⟨h4, h5, fun p hp hq => ?_⟩
    by_cases e : p = i
    · exact ho (e ▸ hq)
    · exact h6 p (by omega) hq
  · refine .inr (.inl ⟨h4, q, h5, fun p hp hq => ?_⟩)
    by_cases e : p = i
    · exact absurd (e ▸ hq) ho
    · exact h6 p (by omega) hq
  · exact .inr (.inr h4)
theorem occ_take {t : Str} {m p : Nat} (hp : p + 11 ≤ m) (hm : m ≤ t.length) (h : ((t.take m).drop p).take 11 = endP) : occ t p := by
  unfold occ
  rw [← h, List.drop_take, List.take_take, Nat.min_eq_left (by omega)]
theorem ext_list (t : ByteArray) (a b : Nat) : (t.extract a b).data.toList = (dr t a).take (b - a) := by rw [tk.extract_dr]
theorem extract_size (s : ByteArray) (n : Nat) : (s.extract 0 n).size ≤ n := by
  rw [← size_len, ext_list, List.length_take]
  omega
set_option maxRecDepth 100000 in
set_option maxHeartbeats 4000000 in
theorem walk (s : ByteArray) (n : Int) (w : World) (hs : s.size ≤ maxLen) (hn : (Lit.int .i64 n).wf = true) (hM : MaxL w) :
    Calls Try.prog 3 #[.string s, .int .i64 n] w fun e w' => e = .returned (.bool true) ∧ Below w.heap.size w w' := by
  have HK := Lib.hid (tr.awake_any w hM)
  have MX := Lib.hid hM
  have hn := wf64 hn
  clear hM
  have ht : (s.extract 0 (min (s.size : Int) 1500).toNat).size ≤ 1500 := Nat.le_trans (extract_size _ _) (by omega)
  have hs2 : (s.size : Int) ≤ 9223372036854775807 := by unfold maxLen at hs; omega
  clear hs
  go_enter Try.func3, Try.ntmps3
  go_upto_region 3 with (go_at_call 6; ((with_reducible refine (HK.out).mono ?_); rintro e w2 ⟨rfl, hb⟩; have HB := Lib.hid hb; clear hb HK))
  go_upto_region 4 with (fail)
  generalize s.extract 0 (min (s.size : Int) 1500).toNat = t at *
  have PX := Lib.hid fun W (hMW : MaxL W) => parse_any t (by omega) W hMW
  unfold GotG at PX
  obtain ⟨⟨P, er, ⟨pk, pt, pn, pl, pc⟩⟩, hpx⟩ : ∃ R, parse t.data.toList = R := ⟨_, rfl⟩
  rw [hpx] at PX
  simp only at PX
  rw [show (tC ⟨pk, pt, pn, pl, pc⟩).toArray = #[.int .i64 pk, .string ⟨pt.toArray⟩, .int .i64 pn, .int .i64 pl, .int .i64 pc] from rfl] at PX
  clear hpx hs2
  go_wp2_with (go_at_call 7; fail)
  with_reducible refine (PX.out _ (MX.out.below HB.out)).mono ?_
  rintro e w3 ⟨⟨gn, ⟨VA, vl, vc⟩, ⟨SA, sl, sc⟩⟩, rfl, _, hb⟩
  have B3 := Lib.hid (HB.out.trans (hb.mono HB.out.size))
  simp only [gC, sv, Sl.v]
  clear hb PX HB
  go_upto_region 5 with (fail)
  have hb4 := ((Below.refl w3.heap.size w3).alloc (Nat.le_refl _) (.cells #[.string ⟨gn.toArray⟩, .slice VA vl vc, .slice SA sl sc] 26)).alloc (by simp) (.cells #[.int .i64 pk, .string ⟨pt.toArray⟩, .int .i64 pn, .int .i64 pl, .int .i64 pc] 29)
  have B4 := Lib.hid (B3.out.trans (hb4.mono B3.out.size))
  clear hb4 B3
  generalize (w3.alloc (.cells #[.string ⟨gn.toArray⟩, .slice VA vl vc, .slice SA sl sc] 26)).alloc (.cells #[.int .i64 pk, .string ⟨pt.toArray⟩, .int .i64 pn, .int .i64 pl, .int .i64 pc] 29) = w4 at *
  by_cases her : er = 0
  rotate_left
  · have hz : (er != 0) = true := by rw [bne_iff_ne]; exact her
    clear her
    go_wp2_with fail
    go_ret
    exact ⟨rfl, B4.out⟩
  subst her
  by_cases hn0 : n < 0
  · go_wp2_with fail
    go_ret
    exact ⟨rfl, B4.out⟩
  by_cases hn1 : (t.size : Int) ≤ n
  · go_wp2_with fail
    go_ret
    exact ⟨rfl, B4.out⟩
  obtain ⟨m, rfl⟩ : ∃ m : Nat, n = m := ⟨n.toNat, by omega⟩
  have hm : m < t.size := by omega
  clear hn
  go_upto_region 9 with (fail)
  have HT := Lib.hid ht
  clear hn0
  go_loopw [8, 9, 10] (fun s8 s9 s10 wr => ∃ i last many : Nat, s8 = .int .i64 last ∧ s9 = .int .i64 many ∧ s10 = .int .i64 i ∧ i ≤ t.size ∧ Cnt t.data.toList i last many ∧ w4 = wr) (fun _ _ i _ => t.size - (intOf i).toNat)
  case atStart => exact ⟨0, 0, 0, rfl, rfl, rfl, Nat.zero_le _, Cnt.start _, rfl⟩
  case round =>
    obtain ⟨i, last, many, rfl, rfl, rfl, hi, hC, rfl⟩ := hrel
    obtain ⟨j, hj⟩ : ∃ j, i + 11 = j := ⟨_, rfl⟩
    have w11 : IntKind.i64.wrap ((i : Int) + 11) = j := by rw [IntKind.wrap_i64]; omega
    have w1 : IntKind.i64.wrap ((i : Int) + 1) = ((i + 1 : Nat) : Int) := by rw [IntKind.wrap_i64]; omega
    have hmany := hC.1
    have hlast := hC.2.1
    rw [size_len] at hlast
    by_cases hlt : j ≤ t.size
    · have z1 : (j : Int) ≤ t.size := by omega
      have z2 : (i : Int) ≤ j := by omega
      have z3 : (i : Int) ≤ t.size := by omega
      obtain ⟨X, hX⟩ : ∃ X, t.extract i j = X := ⟨_, rfl⟩
      obtain ⟨b, hb⟩ : ∃ b, (X.data.toList == endP) = b := ⟨_, rfl⟩
      have e1 : (X.toList == [69, 78, 68, 95, 80, 82, 79, 71, 82, 65, 77]) = b := by rw [ByteArray.toList_eq]; exact hb
      have ho : (X.data.toList = endP) ↔ occ t.data.toList i := by
        rw [← hX, ext_list, show j - i = 11 by omega]
        exact Iff.rfl
      have wm : IntKind.i64.wrap ((many : Int) + 1) = ((many + 1 : Nat) : Int) := by rw [IntKind.wrap_i64]; omega
      cases b
      · have HC := Lib.hid (hC.no (fun h => by rw [ho.2 h] at hb; cases hb))
        have HI := Lib.hid (show i + 1 ≤ t.size by omega)
        clear hC hb ho hj
        go_wp2_with fail
        go_roundw
        case rel => exact ⟨i + 1, last, many, rfl, rfl, by go_num, HI.out, HC.out, trivial⟩
        case measure => have := HI.out; simp [intOf]; omega
      · have HC := Lib.hid (hC.yes (by rw [size_len]; omega) (ho.1 (eq_of_beq hb)))
        have HI := Lib.hid (show i + 1 ≤ t.size by omega)
        rw [hj] at HC
        clear hC hb ho hj
        go_wp2_with fail
        go_roundw
        case rel => exact ⟨i + 1, j, many + 1, rfl, by go_num, by go_num, HI.out, HC.out, trivial⟩
        case measure => have := HI.out; simp [intOf]; omega
    · have z1 : ¬ (j : Int) ≤ t.size := by omega
      have HJ := Lib.hid hj
      have HC := Lib.hid hC
      by_cases h1 : last ≤ m
      · have h1z : (last : Int) ≤ m := by omega
        clear hC hj
        go_wp2_with fail
        go_ret
        exact ⟨rfl, B4.out⟩
      have h1z : ¬ (last : Int) ≤ m := by omega
      by_cases h2 : many = 1
      rotate_left
      · have h2z : ((many : Int) != 1) = true := by rw [bne_iff_ne]; omega
        clear hC hj
        go_wp2_with fail
        go_ret
        exact ⟨rfl, B4.out⟩
      subst h2
      obtain ⟨t2, ht2⟩ : ∃ t2, t.extract 0 m = t2 := ⟨_, rfl⟩
      have ht2l : t2.data.toList = t.data.toList.take m := by rw [← ht2, ext_list]; rfl
      have z4 : (m : Int) ≤ t.size := by omega
      have PY := Lib.hid fun W (hMW : MaxL W) => parse_any t2 (by rw [← size_len, ht2l, List.length_take, size_len]; have := HT.out; omega) W hMW
      unfold GotG at PY
      have hend := @parse_end t2.data.toList
      have herr := @parse_err t2.data.toList
      obtain ⟨⟨Q, f, ⟨qk, qt, qn, ql, qc⟩⟩, hqx⟩ : ∃ R, parse t2.data.toList = R := ⟨_, rfl⟩
      rw [hqx] at PY hend herr
      simp only at PY hend herr
      have hf : f ≠ 0 := fun hf => by
        obtain ⟨p, hp1, hp2⟩ := hend hf
        rw [ht2l] at hp1 hp2
        rw [List.length_take] at hp1
        have ho := occ_take (by omega) (by rw [size_len]; omega) hp2
        rcases hC.2.2 with ⟨h3, _, _⟩ | ⟨_, q, h4, h5⟩ | h3
        · omega
        · have h6 := h5 p (by rw [size_len] at hp1; omega) ho
          omega
        · omega
      obtain ⟨rfl, hql⟩ := herr hf
      have hfz : (f != 0) = true := by rw [bne_iff_ne]; exact hf
      have hqz : (1 : Int) ≤ ql := by omega
      rw [show (tC ⟨qk, qt, qn, ql, qc⟩).toArray = #[.int .i64 qk, .string ⟨qt.toArray⟩, .int .i64 qn, .int .i64 ql, .int .i64 qc] from rfl] at PY
      clear hC hj hend herr hqx hf ht2l
      go_wp2_with (go_at_call 7; fail)
      with_reducible refine (PY.out _ (MX.out.below B4.out)).mono ?_
      rintro e w5 ⟨⟨gn2, ⟨VB, vm, vd⟩, ⟨SB, sm, sd⟩⟩, rfl, ⟨g1, g2, K, g3, g4⟩, hb⟩
      simp only at g1 g2 g3
      unfold zeroG at g1 g2 g4
      simp only at g1 g2 g4
      subst g1
      unfold StsAt at g4
      subst g4
      have g2 : Rd vC 8 w5 w5.heap.size VB vm vd _ := g2
      have g3 : Rd sC 19 w5 w5.heap.size SB sm sd _ := g3
      obtain rfl : 0 = vm := g2.1
      obtain rfl : 0 = sm := g3.1
      have hb6 := ((Below.refl w5.heap.size w5).alloc (Nat.le_refl _) (.cells #[.string ⟨#[]⟩, .slice VB 0 vd, .slice SB 0 sd] 26)).alloc (by simp) (.cells #[.int .i64 qk, .string ⟨qt.toArray⟩, .int .i64 qn, .int .i64 ql, .int .i64 qc] 29)
      have B6 := Lib.hid (B4.out.trans ((hb.trans (hb6.mono hb.size)).mono B4.out.size))
      simp only [gC, sv, Sl.v]
      clear hb hb6 g2 g3
      go_wp2_with fail
      go_ret
      exact ⟨rfl, B6.out⟩
end Go.Proofs.Ytbcpkhegmbdifaa.treeCut
