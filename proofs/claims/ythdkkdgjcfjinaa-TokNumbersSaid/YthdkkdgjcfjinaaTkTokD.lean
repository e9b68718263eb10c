/- What the landed tok's first and gap give, in the document's words. Conditions: a text has at most 20000 bytes; gap: the library's variable MaxLen holds some number. -/
import Derived.Test.YthdkkdgjcfjinaaTkTokC
namespace Go.Proofs.Ythdkkdgjcfjinaa.tk
open Go.ChangeShapes Go.WideShapes Go.ChangeAt Go.RowKit Go.Proofs.Ythdkkdgjcfjinaa.k Go.Proofs.Ythdkkdgjcfjinaa.rr
set_option linter.unusedVariables false

/-- the sign that begins a text, and its error; it has no place yet -/
def fst0 (l : List UInt8) : Tk × Int := if l = [] then (zeroT, 0) else fst1 l
theorem empty_str {r : ByteArray} (h : r.size = 0) : r.data.toList = [] := List.eq_nil_of_length_eq_zero (by rw [size_len]; exact h)
theorem is_empty {r : ByteArray} (h : r.size = 0) : (r.toList == []) = true := by rw [str_beq, empty_str h]; rfl
theorem not_empty {r : ByteArray} (h : 0 < r.size) : (r.toList == []) = false := by
  rw [str_beq, ← dr_zero, dr_at h]
  rfl
set_option maxRecDepth 100000 in
set_option maxHeartbeats 2000000 in
theorem first_any (r : ByteArray) (hs : r.size ≤ 20000) (w : World) : Calls Try.prog 25 #[.string r] w fun e w' => e = .returned (.tuple #[.agg (tC (fst0 r.data.toList).1).toArray, .int .i64 (fst0 r.data.toList).2]) ∧ Below w.heap.size w w' := by
  have x4 := Box.new w #[.int .i64 0, .string ⟨#[]⟩, .int .i64 0, .int .i64 0, .int .i64 0] 26
  have hb4 := (Below.refl w.heap.size w).alloc (Nat.le_refl _) (.cells #[.int .i64 0, .string ⟨#[]⟩, .int .i64 0, .int .i64 0, .int .i64 0] 26)
  have hz4 : (w.alloc (.cells #[.int .i64 0, .string ⟨#[]⟩, .int .i64 0, .int .i64 0, .int .i64 0] 26)).heap.size = w.heap.size + 1 := by simp
  have X4 := Lib.hid x4
  have B4 := Lib.hid hb4
  have Z4 := Lib.hid hz4
  clear x4 hb4 hz4
  by_cases h0 : r.size = 0
  · have e0 := is_empty h0
    have HR : Hid (fst0 r.data.toList = (zeroT, 0)) := Lib.hid (by unfold fst0; rw [if_pos (empty_str h0)])
    clear h0 hs
    go_enter Try.func25, Try.ntmps25
    go_upto_region 1 with (fail)
    generalize w.alloc (.cells #[.int .i64 0, .string ⟨#[]⟩, .int .i64 0, .int .i64 0, .int .i64 0] 26) = w4 at *
    have ⟨c0, f0, c1, f1, c2, f2, c3, f3, c4, f4, _⟩ := X4.out
    go_wp2_with fail
    obtain ⟨y, _, hB2⟩ := Box.puts (us := [.int .i64 0, .string ⟨#[]⟩, .int .i64 0, .int .i64 0, .int .i64 0]) X4.out rfl
    refine bodyPost_ret (k.results_cell_tmp rfl rfl (run_loadVar_mid _ w.heap.size 0 26 _ _ y.range rfl rfl (by kernel_rfl))) rfl ?_
    exact ⟨by rw [HR.out]; rfl, B4.out.trans (hB2 _ (Nat.le_refl _))⟩
  · have h1 : 0 < r.size := by omega
    have e0 := not_empty h1
    obtain ⟨x, hx⟩ : ∃ x : UInt8, r[0] = x := ⟨_, rfl⟩
    have hd := dr_at h1
    rw [hx, dr_zero] at hd
    have hf : fst0 r.data.toList = fst1 r.data.toList := by unfold fst0; rw [if_neg (by rw [hd]; simp)]
    rw [hf]
    have hz : (0 : Int) < r.size := by omega
    obtain ⟨al, hal⟩ : ∃ t, alphaB x = t := ⟨_, rfl⟩
    obtain ⟨nu, hnu⟩ : ∃ t, numB x = t := ⟨_, rfl⟩
    have AL : Hid (∀ W, Calls Try.prog 30 #[.int .u8 x.toNat] W fun e w' => e = .returned (.bool al) ∧ W = w') := Lib.hid fun W => hal ▸ isLetter_any x W
    have NU : Hid (∀ W, Calls Try.prog 32 #[.int .u8 x.toNat] W fun e w' => e = .returned (.bool nu) ∧ W = w') := Lib.hid fun W => hnu ▸ isDigit_any x W
    cases al
    · cases nu
      · have SL := signLength_any r hs h1
        obtain ⟨sl, hsl⟩ : ∃ t, signLen r.data.toList = t := ⟨_, rfl⟩
        rw [hsl] at SL
        have SL := Lib.hid SL
        have hle := signLen_le r.data.toList
        rw [hsl, size_len] at hle
        by_cases hs0 : sl = 0
        · have hsg : sgn r.data.toList = (5, 0, 0, 0) := by
            rw [hd] at hsl ⊢
            exact sgn_none hal hnu (hsl.trans hs0)
          have HR : Hid (fst1 r.data.toList = (zeroT, 5)) := Lib.hid (fst1_no hsg (by simp))
          subst hs0
          clear hd hf hal hnu hsl hle hsg h0
          go_enter Try.func25, Try.ntmps25
          go_upto_region 1 with (fail)
          generalize w.alloc (.cells #[.int .i64 0, .string ⟨#[]⟩, .int .i64 0, .int .i64 0, .int .i64 0] 26) = w4 at *
          have ⟨c0, f0, c1, f1, c2, f2, c3, f3, c4, f4, _⟩ := X4.out
          go_wp2_with (first | (go_at_call 30; (with_reducible refine (AL.out _).mono ?_); rintro e w1 ⟨rfl, rfl⟩) | (go_at_call 32; (with_reducible refine (NU.out _).mono ?_); rintro e w1 ⟨rfl, rfl⟩) | (go_at_call 34; (with_reducible refine (SL.out _).mono ?_); rintro e w1 ⟨rfl, rfl⟩))
          obtain ⟨y, _, hB2⟩ := Box.puts (us := [.int .i64 0, .string ⟨#[]⟩, .int .i64 0, .int .i64 0, .int .i64 0]) X4.out rfl
          refine bodyPost_ret (k.results_cell_tmp rfl rfl (run_loadVar_mid _ w.heap.size 0 26 _ _ y.range rfl rfl (by kernel_rfl))) rfl ?_
          exact ⟨by rw [HR.out]; rfl, B4.out.trans (hB2 _ (Nat.le_refl _))⟩
        · obtain ⟨T, hT⟩ : ∃ T : ByteArray, r.extract 0 sl = T := ⟨_, rfl⟩
          have hTl : T.data.toList = r.data.toList.take sl := by
            rw [← hT, extract_dr]
            show (dr r 0).take (sl - 0) = _
            rw [dr_zero, Nat.sub_zero]
          have hTs : T.size ≤ 20000 := by rw [← size_len, hTl, List.length_take, size_len]; omega
          have hTz : (⟨(r.data.toList.take sl).toArray⟩ : ByteArray) = T := by rw [← hTl]
          have hsg : sgn r.data.toList = (0, 4, 0, sl) := by
            rw [hd] at hsl ⊢
            rw [sgn_sign hal hnu (by rw [hsl]; exact hs0), hsl]
          have HR : Hid (tC (fst1 r.data.toList).1 = [.int .i64 4, .string T, .int .i64 0, .int .i64 0, .int .i64 0] ∧ (fst1 r.data.toList).2 = 0) := Lib.hid (by
            rw [fst1_yes hsg]
            exact ⟨by simp only [tC, hTz]; rfl, rfl⟩)
          have T4 := Lib.hid fun W => told_any 4 T hTs W
          have z1 : (sl : Int) ≤ r.size := by omega
          have z2 : ((sl : Int) == 0) = false := by rw [beq_eq_false_iff_ne]; omega
          clear hd hf hal hnu hsl hle hsg h0 hTl hTs hTz hs0
          go_enter Try.func25, Try.ntmps25
          go_upto_region 1 with (fail)
          generalize w.alloc (.cells #[.int .i64 0, .string ⟨#[]⟩, .int .i64 0, .int .i64 0, .int .i64 0] 26) = w4 at *
          go_wp2_with (first | (go_at_call 30; (with_reducible refine (AL.out _).mono ?_); rintro e w1 ⟨rfl, rfl⟩) | (go_at_call 32; (with_reducible refine (NU.out _).mono ?_); rintro e w1 ⟨rfl, rfl⟩) | (go_at_call 34; (with_reducible refine (SL.out _).mono ?_); rintro e w1 ⟨rfl, rfl⟩) | (go_at_call 35; (with_reducible refine (T4.out _).mono ?_); rintro e w3 ⟨rfl, hb⟩; have XA := Lib.hid (X4.out.below hb (Nat.lt_of_lt_of_eq (Nat.lt_succ_self _) Z4.out.symm)); have BA := Lib.hid (B4.out.trans (hb.mono B4.out.size)); clear hb; have ⟨c0, f0, c1, f1, c2, f2, c3, f3, c4, f4, _⟩ := XA.out))
          obtain ⟨y, _, hB2⟩ := Box.puts (us := [.int .i64 4, .string T, .int .i64 0, .int .i64 0, .int .i64 0]) XA.out rfl
          refine bodyPost_ret (k.results_cell_tmp rfl rfl (run_loadVar_mid _ w.heap.size 0 26 _ _ y.range rfl rfl (by kernel_rfl))) rfl ?_
          exact ⟨by rw [HR.out.1, HR.out.2]; rfl, BA.out.trans (hB2 _ (Nat.le_refl _))⟩
      · have NM := tnumber_any r hs hd hal hnu
        obtain ⟨⟨T, E⟩, hTE⟩ : ∃ q, fst1 r.data.toList = q := ⟨_, rfl⟩
        rw [hTE] at NM
        rw [hTE]
        have NM : Hid (∀ W, Calls Try.prog 33 #[.string r] W fun e w' => e = .returned (.tuple #[.agg #[.int .i64 T.kind, .string ⟨T.text.toArray⟩, .int .i64 T.n, .int .i64 T.line, .int .i64 T.col], .int .i64 E]) ∧ Below W.heap.size W w') := Lib.hid NM
        clear hd hf hal hnu h0 hTE
        go_enter Try.func25, Try.ntmps25
        go_upto_region 1 with (fail)
        generalize w.alloc (.cells #[.int .i64 0, .string ⟨#[]⟩, .int .i64 0, .int .i64 0, .int .i64 0] 26) = w4 at *
        go_wp2_with (first | (go_at_call 30; (with_reducible refine (AL.out _).mono ?_); rintro e w1 ⟨rfl, rfl⟩) | (go_at_call 32; (with_reducible refine (NU.out _).mono ?_); rintro e w1 ⟨rfl, rfl⟩) | (go_at_call 33; (with_reducible refine (NM.out _).mono ?_); rintro e w3 ⟨rfl, hb⟩; have XA := Lib.hid (X4.out.below hb (Nat.lt_of_lt_of_eq (Nat.lt_succ_self _) Z4.out.symm)); have BA := Lib.hid (B4.out.trans (hb.mono B4.out.size)); clear hb; have ⟨c0, f0, c1, f1, c2, f2, c3, f3, c4, f4, _⟩ := XA.out))
        obtain ⟨y, _, hB2⟩ := Box.puts (us := [.int .i64 T.kind, .string ⟨T.text.toArray⟩, .int .i64 T.n, .int .i64 T.line, .int .i64 T.col]) XA.out rfl
        refine bodyPost_ret (k.results_cell_tmp rfl rfl (run_loadVar_mid _ w.heap.size 0 26 _ _ y.range rfl rfl (by kernel_rfl))) rfl ?_
        exact ⟨rfl, BA.out.trans (hB2 _ (Nat.le_refl _))⟩
    · have NM := name_any r hs hd hal
      obtain ⟨⟨T, E⟩, hTE⟩ : ∃ q, fst1 r.data.toList = q := ⟨_, rfl⟩
      rw [hTE] at NM
      rw [hTE]
      have NM : Hid (∀ W, Calls Try.prog 31 #[.string r] W fun e w' => e = .returned (.tuple #[.agg #[.int .i64 T.kind, .string ⟨T.text.toArray⟩, .int .i64 T.n, .int .i64 T.line, .int .i64 T.col], .int .i64 E]) ∧ Below W.heap.size W w') := Lib.hid NM
      clear hd hf hal hnu h0 hTE
      go_enter Try.func25, Try.ntmps25
      go_upto_region 1 with (fail)
      generalize w.alloc (.cells #[.int .i64 0, .string ⟨#[]⟩, .int .i64 0, .int .i64 0, .int .i64 0] 26) = w4 at *
      go_wp2_with (first | (go_at_call 30; (with_reducible refine (AL.out _).mono ?_); rintro e w1 ⟨rfl, rfl⟩) | (go_at_call 31; (with_reducible refine (NM.out _).mono ?_); rintro e w3 ⟨rfl, hb⟩; have XA := Lib.hid (X4.out.below hb (Nat.lt_of_lt_of_eq (Nat.lt_succ_self _) Z4.out.symm)); have BA := Lib.hid (B4.out.trans (hb.mono B4.out.size)); clear hb; have ⟨c0, f0, c1, f1, c2, f2, c3, f3, c4, f4, _⟩ := XA.out))
      obtain ⟨y, _, hB2⟩ := Box.puts (us := [.int .i64 T.kind, .string ⟨T.text.toArray⟩, .int .i64 T.n, .int .i64 T.line, .int .i64 T.col]) XA.out rfl
      refine bodyPost_ret (k.results_cell_tmp rfl rfl (run_loadVar_mid _ w.heap.size 0 26 _ _ y.range rfl rfl (by kernel_rfl))) rfl ?_
      exact ⟨rfl, BA.out.trans (hB2 _ (Nat.le_refl _))⟩
/-- how many bytes at the beginning part signs in one; false: a remark without its end -/
def gapS : List UInt8 → Nat × Bool
  | [] => (0, true)
  | c :: l =>
    if c = 32 ∨ c = 10 ∨ c = 9 then (1, true)
    else if two (c :: l) 47 47 = true then ((c :: l).length - (lineRest (c :: l)).length, true)
    else if two (c :: l) 40 42 = true then
      match endRest (l.drop 1) with
      | some r => ((c :: l).length - r.length, true)
      | none => (0, false)
    else (0, true)
theorem lineRest_47 (l : List UInt8) : lineRest (47 :: l) = lineRest l := by rw [lineRest, if_neg (by decide)]
theorem gap_no {l : List UInt8} {n : Nat} (h : gapS l = (n, false)) : past l = (false, l) := by
  match l, h with
  | c :: l, h =>
    rw [gapS] at h
    split at h
    · cases h
    · rename_i h1
      split at h
      · cases h
      · rename_i h2
        split at h
        · rename_i h3
          split at h
          · cases h
          · rename_i h4
            unfold past
            rw [pastF, if_neg h1, if_neg h2, if_pos h3, h4]
        · cases h
theorem gap_none {l : List UInt8} (h : gapS l = (0, true)) : past l = (true, l) := by
  match l, h with
  | [], h => rfl
  | c :: l, h =>
    rw [gapS] at h
    split at h
    · cases h
    · rename_i h1
      split at h
      · rename_i h2
        injection h with h _
        exfalso
        match l, h2, h with
        | y :: l, h2, h =>
          simp only [two, Bool.and_eq_true, beq_iff_eq] at h2
          obtain ⟨rfl, rfl⟩ := h2
          rw [lineRest_47, lineRest_47] at h
          have := (lineRest_suf l).length_le
          simp only [List.length_cons] at h
          omega
        | [], h2, h => cases h2
      · rename_i h2
        split at h
        · split at h
          · rename_i r h4
            injection h with h _
            exfalso
            have h5 := (endRest_suf _ _ h4).length_le
            rw [List.length_drop] at h5
            simp only [List.length_cons] at h
            omega
          · cases h
        · rename_i h3
          unfold past
          rw [pastF, if_neg h1, if_neg h2, if_neg h3]
theorem gap_some {l : List UInt8} {n : Nat} (h : gapS l = (n + 1, true)) : n + 1 ≤ l.length ∧ past l = past (l.drop (n + 1)) := by
  match l, h with
  | [], h => cases h
  | c :: l, h =>
    rw [gapS] at h
    split at h
    · rename_i h1
      injection h with h _
      obtain rfl : n = 0 := by omega
      exact ⟨by simp, past_blank h1 l⟩
    · rename_i h1
      split at h
      · rename_i h2
        injection h with h _
        match l, h2, h with
        | y :: l, h2, h =>
          simp only [two, Bool.and_eq_true, beq_iff_eq] at h2
          obtain ⟨rfl, rfl⟩ := h2
          have hsuf := (lineRest_suf (47 :: 47 :: l))
          have hle := hsuf.length_le
          refine ⟨by omega, ?_⟩
          rw [past_line, ← lineRest_47 (47 :: l)]
          have h3 := List.suffix_iff_eq_drop.1 hsuf
          rw [h] at h3
          rw [← h3]
        | [], h2, h => cases h2
      · rename_i h2
        split at h
        · rename_i h3
          split at h
          · rename_i r h4
            injection h with h _
            match l, h3, h4, h with
            | y :: l, h3, h4, h =>
              simp only [two, Bool.and_eq_true, beq_iff_eq] at h3
              obtain ⟨rfl, rfl⟩ := h3
              rw [List.drop_succ_cons, List.drop_zero] at h4
              have hsuf := ((endRest_suf _ _ h4).trans (List.suffix_cons 42 l)).trans (List.suffix_cons 40 (42 :: l))
              have hle := hsuf.length_le
              refine ⟨by omega, ?_⟩
              rw [past_rem l r h4]
              have h5 := List.suffix_iff_eq_drop.1 hsuf
              rw [h] at h5
              rw [← h5]
            | [], h3, h4, h => cases h3
          · cases h
        · cases h
theorem index_line : ∀ l : List UInt8, (Lib.index l [10] = -1 ∧ lineRest l = []) ∨ ∃ i : Nat, Lib.index l [10] = i ∧ i + (lineRest l).length = l.length
  | [] => .inl ⟨rfl, rfl⟩
  | c :: l => by
    by_cases h : c = 10
    · subst h
      right
      refine ⟨0, ?_, ?_⟩
      · unfold Lib.index
        rfl
      · rw [lineRest, if_pos rfl]; simp
    · have h1 : ([10] : List UInt8).isPrefixOf (c :: l) = false := by
        simp only [List.isPrefixOf, Bool.and_true]
        rw [beq_eq_false_iff_ne]
        exact fun e => h e.symm
      rcases index_line l with ⟨h2, h3⟩ | ⟨i, h2, h3⟩
      · left
        refine ⟨?_, by rw [lineRest, if_neg h, h3]⟩
        unfold Lib.index
        rw [h1, h2]
        rfl
      · right
        refine ⟨i + 1, ?_, by rw [lineRest, if_neg h, List.length_cons]; omega⟩
        unfold Lib.index
        rw [h1, h2]
        have : ((i : Int) == -1) = false := by rw [beq_eq_false_iff_ne]; omega
        simp [this]
theorem cut_line (l : List UInt8) : (Lib.cut l [10]).1.length = l.length - (lineRest l).length := by
  unfold Lib.cut
  rcases index_line l with ⟨h1, h2⟩ | ⟨i, h1, h2⟩
  · rw [h1, h2, if_neg (by omega)]; simp
  · rw [h1, if_pos (by omega)]
    simp only [Int.toNat_natCast, List.length_take]
    omega
theorem index_end : ∀ l : List UInt8, (Lib.index l [42, 41] = -1 ∧ endRest l = none) ∨ ∃ (i : Nat) (r : List UInt8), Lib.index l [42, 41] = i ∧ endRest l = some r ∧ i + 2 + r.length = l.length
  | [] => .inl ⟨rfl, rfl⟩
  | c :: l => by
    have hp : ([42, 41] : List UInt8).isPrefixOf (c :: l) = two (c :: l) 42 41 := prefix2 (c :: l) 42 41
    by_cases h : two (c :: l) 42 41 = true
    · right
      refine ⟨0, l.drop 1, ?_, by rw [endRest, if_pos h], ?_⟩
      · unfold Lib.index
        rw [hp, h]
        rfl
      · match l, h with
        | _ :: l, _ => simp; omega
        | [], h => cases h
    · have h1 : two (c :: l) 42 41 = false := Bool.eq_false_iff.2 h
      rcases index_end l with ⟨h2, h3⟩ | ⟨i, r, h2, h3, h4⟩
      · left
        refine ⟨?_, by rw [endRest, if_neg h, h3]⟩
        unfold Lib.index
        rw [hp, h1, h2]
        rfl
      · right
        refine ⟨i + 1, r, ?_, by rw [endRest, if_neg h, h3], by rw [List.length_cons]; omega⟩
        unfold Lib.index
        rw [hp, h1, h2]
        have : ((i : Int) == -1) = false := by rw [beq_eq_false_iff_ne]; omega
        simp [this]
theorem cut_end (l : List UInt8) : ((Lib.cut l [42, 41]).2.2 = false ∧ endRest l = none) ∨ ∃ r, (Lib.cut l [42, 41]).2.2 = true ∧ endRest l = some r ∧ (Lib.cut l [42, 41]).1.length + 2 + r.length = l.length := by
  unfold Lib.cut
  rcases index_end l with ⟨h1, h2⟩ | ⟨i, r, h1, h2, h3⟩
  · left
    rw [h1, h2, if_neg (by omega)]
    exact ⟨rfl, rfl⟩
  · right
    refine ⟨r, ?_⟩
    rw [h1, if_pos (by omega)]
    refine ⟨rfl, h2, ?_⟩
    simp only [Int.toNat_natCast, List.length_take]
    omega
theorem arr_size (l : List UInt8) : (⟨l.toArray⟩ : ByteArray).size = l.length := by rw [Lib.size_eq]
set_option maxRecDepth 100000 in
set_option maxHeartbeats 2000000 in
theorem gap_any (r : ByteArray) (hs : r.size ≤ 20000) (w : World) (hM : MaxL w) : Calls Try.prog 23 #[.string r] w fun e w' => e = .returned (.tuple #[.int .i64 (gapS r.data.toList).1, .bool (gapS r.data.toList).2]) ∧ ∃ n, w' = w.drewN n := by
  by_cases h0 : r.size = 0
  · have e0 := is_empty h0
    have HR : Hid (gapS r.data.toList = (0, true)) := Lib.hid (by rw [empty_str h0]; rfl)
    clear h0 hs hM
    go_enter Try.func23, Try.ntmps23
    go_wp2
    go_ret2
    exact ⟨by rw [HR.out]; rfl, 0, rfl⟩
  · have h1 : 0 < r.size := by omega
    have e0 := not_empty h1
    obtain ⟨x, hx⟩ : ∃ x : UInt8, r[0] = x := ⟨_, rfl⟩
    have hd := dr_at h1
    rw [hx, dr_zero] at hd
    have hz : (0 : Int) < r.size := by omega
    have e1 := eq8n x 32 (by omega)
    have e2 := eq8n x 10 (by omega)
    have e3 := eq8n x 9 (by omega)
    rw [show (UInt8.ofNat 32) = 32 from rfl, show ((32 : Nat) : Int) = 32 from rfl] at e1
    rw [show (UInt8.ofNat 10) = 10 from rfl, show ((10 : Nat) : Int) = 10 from rfl] at e2
    rw [show (UInt8.ofNat 9) = 9 from rfl, show ((9 : Nat) : Int) = 9 from rfl] at e3
    by_cases hbl : x = 32 ∨ x = 10 ∨ x = 9
    · have HR : Hid (gapS r.data.toList = (1, true)) := Lib.hid (by rw [hd, gapS, if_pos hbl])
      clear hd h0 hM
      rcases hbl with rfl | rfl | rfl
      all_goals
        simp at e1 e2 e3
        go_enter Try.func23, Try.ntmps23
        go_wp2
        go_ret2
        exact ⟨by rw [HR.out]; rfl, 0, rfl⟩
    · have b1 : (x == 32) = false := by rw [beq_eq_false_iff_ne]; exact fun h => hbl (.inl h)
      have b2 : (x == 10) = false := by rw [beq_eq_false_iff_ne]; exact fun h => hbl (.inr (.inl h))
      have b3 : (x == 9) = false := by rw [beq_eq_false_iff_ne]; exact fun h => hbl (.inr (.inr h))
      rw [b1] at e1
      rw [b2] at e2
      rw [b3] at e3
      obtain ⟨t1, ht1⟩ : ∃ t, two r.data.toList 47 47 = t := ⟨_, rfl⟩
      obtain ⟨t2, ht2⟩ : ∃ t, two r.data.toList 40 42 = t := ⟨_, rfl⟩
      have P1 : Hid (∀ W, Calls Try.prog 28 #[.string r, .string ⟨#[47, 47]⟩] W fun e w' => e = .returned (.bool t1) ∧ W = w') := Lib.hid fun W => ht1 ▸ prefix2 r.data.toList 47 47 ▸ hasPrefix_any r ⟨#[47, 47]⟩ W
      have P2 : Hid (∀ W, Calls Try.prog 28 #[.string r, .string ⟨#[40, 42]⟩] W fun e w' => e = .returned (.bool t2) ∧ W = w') := Lib.hid fun W => ht2 ▸ prefix2 r.data.toList 40 42 ▸ hasPrefix_any r ⟨#[40, 42]⟩ W
      have HG : gapS r.data.toList = if t1 = true then (r.data.toList.length - (lineRest r.data.toList).length, true) else if t2 = true then (match endRest (r.data.toList.drop 2) with | some q => (r.data.toList.length - q.length, true) | none => (0, false)) else (0, true) := by
        rw [← ht1, ← ht2, hd, gapS, if_neg hbl]
        rfl
      clear b1 b2 b3 hbl
      cases t1
      · rw [if_neg (by simp)] at HG
        cases t2
        · rw [if_neg (by simp)] at HG
          have HR := Lib.hid HG
          clear HG hd h0 hM ht1 ht2
          go_enter Try.func23, Try.ntmps23
          go_wp2_with (first | (go_at_call 28; (with_reducible refine (P1.out _).mono ?_); rintro e w1 ⟨rfl, rfl⟩) | (go_at_call 28; (with_reducible refine (P2.out _).mono ?_); rintro e w1 ⟨rfl, rfl⟩))
          go_ret2
          exact ⟨by rw [HR.out]; rfl, 0, rfl⟩
        · rw [if_pos rfl] at HG
          have h2 : 1 < r.size := two_len (s := r) (n := 0) ht2
          have z2 : (2 : Int) ≤ r.size := by omega
          obtain ⟨E, hE⟩ : ∃ E : ByteArray, r.extract 2 r.size = E := ⟨_, rfl⟩
          have hEl : E.data.toList = r.data.toList.drop 2 := by
            rw [← hE, extract_dr]
            show (dr r 2).take (r.size - 2) = _
            rw [List.take_of_length_le (by rw [dr_len]; exact Nat.le_refl _)]
            rfl
          have hEs : E.size ≤ 20000 := by rw [← size_len, hEl, List.length_drop, size_len]; omega
          have CU := cut_any E ⟨#[42, 41]⟩ hEs w hM
          have CE := cut_end E.data.toList
          rw [show (⟨#[42, 41]⟩ : ByteArray).data.toList = [42, 41] from rfl] at CU
          obtain ⟨⟨A, B, ok⟩, hA⟩ : ∃ q, Lib.cut E.data.toList [42, 41] = q := ⟨_, rfl⟩
          rw [hA] at CU CE
          rw [hEl, List.length_drop] at CE
          simp only at CU CE
          have hAs := arr_size A
          obtain ⟨A', hA'⟩ : ∃ A' : ByteArray, (⟨A.toArray⟩ : ByteArray) = A' := ⟨_, rfl⟩
          obtain ⟨B', hB'⟩ : ∃ B' : ByteArray, (⟨B.toArray⟩ : ByteArray) = B' := ⟨_, rfl⟩
          rw [hA'] at CU hAs
          rw [hB'] at CU
          rcases CE with ⟨c1, c2⟩ | ⟨q, c1, c2, c3⟩
          · rw [c2] at HG
            have HR := Lib.hid HG
            rw [c1] at CU
            have CU := Lib.hid CU
            clear HG hd h0 hM ht1 ht2 hEl hEs hA hA' hB' c1 c2 hAs h2
            go_enter Try.func23, Try.ntmps23
            go_wp2_with (first | (go_at_call 28; (with_reducible refine (P1.out _).mono ?_); rintro e w1 ⟨rfl, rfl⟩) | (go_at_call 28; (with_reducible refine (P2.out _).mono ?_); rintro e w1 ⟨rfl, rfl⟩) | (go_at_call 29; (with_reducible refine CU.out.mono ?_); rintro e w1 ⟨rfl, n1, rfl⟩))
            go_ret2
            exact ⟨by rw [HR.out]; rfl, n1, rfl⟩
          · rw [c2] at HG
            have HG : gapS r.data.toList = (r.data.toList.length - q.length, true) := HG
            have hN : A'.size + 4 = r.data.toList.length - q.length := by rw [hAs]; rw [size_len] at *; omega
            have wz : IntKind.i64.wrap ((A'.size : Int) + 4) = ((r.data.toList.length - q.length : Nat) : Int) := by
              rw [← hN, IntKind.wrap_i64]
              rw [size_len] at *
              omega
            generalize r.data.toList.length - q.length = N at *
            have HR := Lib.hid HG
            rw [c1] at CU
            have CU := Lib.hid CU
            clear HG hd h0 hM ht1 ht2 hEl hEs hA hA' hB' c1 c2 c3 hAs h2 hN
            go_enter Try.func23, Try.ntmps23
            go_wp2_with (first | (go_at_call 28; (with_reducible refine (P1.out _).mono ?_); rintro e w1 ⟨rfl, rfl⟩) | (go_at_call 28; (with_reducible refine (P2.out _).mono ?_); rintro e w1 ⟨rfl, rfl⟩) | (go_at_call 29; (with_reducible refine CU.out.mono ?_); rintro e w1 ⟨rfl, n1, rfl⟩))
            go_ret2
            exact ⟨by rw [HR.out]; rfl, n1, rfl⟩
      · rw [if_pos rfl] at HG
        have CU := cut_any r ⟨#[10]⟩ hs w hM
        have CL := cut_line r.data.toList
        rw [show (⟨#[10]⟩ : ByteArray).data.toList = [10] from rfl] at CU
        obtain ⟨⟨A, B, ok⟩, hA⟩ : ∃ q, Lib.cut r.data.toList [10] = q := ⟨_, rfl⟩
        rw [hA] at CU CL
        simp only at CU CL
        have hAs := arr_size A
        rw [CL] at hAs
        obtain ⟨A', hA'⟩ : ∃ A' : ByteArray, (⟨A.toArray⟩ : ByteArray) = A' := ⟨_, rfl⟩
        obtain ⟨B', hB'⟩ : ∃ B' : ByteArray, (⟨B.toArray⟩ : ByteArray) = B' := ⟨_, rfl⟩
        rw [hA'] at CU hAs
        rw [hB'] at CU
        generalize r.data.toList.length - (lineRest r.data.toList).length = N at *
        have HR := Lib.hid HG
        have CU := Lib.hid CU
        clear HG hd h0 hM ht1 ht2 hA hA' hB' CL
        go_enter Try.func23, Try.ntmps23
        go_wp2_with (first | (go_at_call 28; (with_reducible refine (P1.out _).mono ?_); rintro e w1 ⟨rfl, rfl⟩) | (go_at_call 29; (with_reducible refine CU.out.mono ?_); rintro e w1 ⟨rfl, n1, rfl⟩))
        go_ret2
        exact ⟨by rw [HR.out]; rfl, n1, rfl⟩
end Go.Proofs.Ythdkkdgjcfjinaa.tk
