/- A text's signs, written out again with gaps between them: they are read as they were. No condition but what each line says. -/
import Derived.Test.YtdefgghhkknnpaaGreatDoorU02
namespace Go.Proofs.YtdefgghhkknnpaaGreatDoor.tk
open Go.ChangeShapes Go.WideShapes Go.ChangeAt Go.RowKit Go.Proofs.YtdefgghhkknnpaaGreatDoor.k Go.Proofs.YtdefgghhkknnpaaGreatDoor.rr
set_option linter.unusedVariables false
set_option linter.unusedSimpArgs false

theorem pastF_fuel : ∀ (f g : Nat) (r : List UInt8), r.length < f → r.length < g → pastF f r = pastF g r
  | 0, _, _, h, _ => by omega
  | _ + 1, 0, _, _, h => by omega
  | f + 1, g + 1, [], _, _ => rfl
  | f + 1, g + 1, c :: l, hf, hg => by
    rw [List.length_cons] at hf hg
    have h1 := (lineRest_suf l).length_le
    rw [pastF, pastF]
    split
    · exact pastF_fuel f g l (by omega) (by omega)
    · split
      · exact pastF_fuel f g _ (by omega) (by omega)
      · split
        · split
          · rename_i r hr
            have h2 := (endRest_suf _ _ hr).length_le
            rw [List.length_drop] at h2
            exact pastF_fuel f g r (by omega) (by omega)
          · rfl
        · rfl
theorem past_f {f : Nat} {r : List UInt8} (h : r.length < f) : pastF f r = past r := pastF_fuel _ _ _ h (Nat.lt_succ_self _)
theorem past_blank {c : UInt8} (h : c = 32 ∨ c = 10 ∨ c = 9) (l : List UInt8) : past (c :: l) = past l := by
  unfold past
  rw [List.length_cons, pastF, if_pos h]
theorem past_line (l : List UInt8) : past (47 :: 47 :: l) = past (lineRest (47 :: l)) := by
  have h1 := (lineRest_suf (47 :: l)).length_le
  rw [List.length_cons] at h1
  rw [← past_f (f := l.length + 1 + 1) (r := lineRest (47 :: l)) (by omega)]
  rfl
theorem past_rem (l r : List UInt8) (h : endRest l = some r) : past (40 :: 42 :: l) = past r := by
  have h1 := (endRest_suf _ _ h).length_le
  rw [← past_f (f := l.length + 1 + 1) (r := r) (by omega)]
  show (match endRest l with | some r => pastF (l.length + 1 + 1) r | none => (false, 40 :: 42 :: l)) = _
  rw [h]
/-- the gaps of the law -/
def gaps : List (List UInt8) := [[32], [10], [9], [32, 47, 47, 32, 120, 10], [40, 42, 32, 42, 32, 42, 41], [40, 42, 42, 41, 32], [10, 10], [40, 42, 47, 47, 42, 41]]
theorem past_gap {g : List UInt8} (h : g ∈ gaps) (l : List UInt8) : past (g ++ l) = past l := by
  simp only [gaps, List.mem_cons, List.not_mem_nil, or_false] at h
  rcases h with rfl | rfl | rfl | rfl | rfl | rfl | rfl | rfl
  · exact past_blank (.inl rfl) l
  · exact past_blank (.inr (.inl rfl)) l
  · exact past_blank (.inr (.inr rfl)) l
  · rw [show [32, 47, 47, 32, 120, 10] ++ l = 32 :: 47 :: 47 :: 32 :: 120 :: 10 :: l from rfl, past_blank (.inl rfl), past_line]
    rw [show lineRest (47 :: 32 :: 120 :: 10 :: l) = 10 :: l from rfl, past_blank (.inr (.inl rfl))]
  · exact past_rem (32 :: 42 :: 32 :: 42 :: 41 :: l) l rfl
  · rw [show [40, 42, 42, 41, 32] ++ l = 40 :: 42 :: 42 :: 41 :: 32 :: l from rfl, past_rem (42 :: 41 :: 32 :: l) (32 :: l) rfl, past_blank (.inl rfl)]
  · rw [show [10, 10] ++ l = 10 :: 10 :: l from rfl, past_blank (.inr (.inl rfl)), past_blank (.inr (.inl rfl))]
  · exact past_rem (47 :: 47 :: 42 :: 41 :: l) l rfl
/-- what may stand behind a sign -/
def GapStart (l : List UInt8) : Prop := l = [] ∨ ∃ c r, l = c :: r ∧ (c = 32 ∨ c = 10 ∨ c = 9 ∨ c = 40)
theorem gap_start {g : List UInt8} (h : g ∈ gaps) (l : List UInt8) : GapStart (g ++ l) := by
  right
  simp only [gaps, List.mem_cons, List.not_mem_nil, or_false] at h
  rcases h with rfl | rfl | rfl | rfl | rfl | rfl | rfl | rfl <;> exact ⟨_, _, rfl, by decide⟩
theorem gap_len {g : List UInt8} (h : g ∈ gaps) : g.length ≤ 7 := by
  simp only [gaps, List.mem_cons, List.not_mem_nil, or_false] at h
  rcases h with rfl | rfl | rfl | rfl | rfl | rfl | rfl | rfl <;> decide
/-- no gap begins here -/
def NoGap (r : List UInt8) : Prop := ∃ c l, r = c :: l ∧ ¬ (c = 32 ∨ c = 10 ∨ c = 9) ∧ two r 47 47 = false ∧ two r 40 42 = false
theorem NoGap.past {r : List UInt8} (h : NoGap r) : past r = (true, r) := by
  obtain ⟨c, l, rfl, h1, h2, h3⟩ := h
  unfold tk.past
  rw [List.length_cons, pastF, if_neg h1, h2, h3]
  simp
theorem pastF_no : ∀ (f : Nat) (r q : List UInt8), r.length < f → pastF f r = (true, q) → q ≠ [] → NoGap q
  | 0, _, _, h, _, _ => by omega
  | f + 1, [], q, _, h, hq => by cases h; exact absurd rfl hq
  | f + 1, c :: l, q, hf, h, hq => by
    rw [List.length_cons] at hf
    have h1 := (lineRest_suf l).length_le
    rw [pastF] at h
    split at h
    · exact pastF_no f l q (by omega) h hq
    · rename_i c1
      split at h
      · exact pastF_no f _ q (by omega) h hq
      · rename_i c2
        split at h
        · split at h
          · rename_i r hr
            have h2 := (endRest_suf _ _ hr).length_le
            rw [List.length_drop] at h2
            exact pastF_no f r q (by omega) h hq
          · cases h
        · rename_i c3
          cases h
          exact ⟨c, l, rfl, c1, by simpa using c2, by simpa using c3⟩
theorem past_no {r q : List UInt8} (h : past r = (true, q)) (hq : q ≠ []) : NoGap q := pastF_no _ _ _ (Nat.lt_succ_self _) h hq
/-- two bytes of a beginning and what is behind it -/
theorem two_take {r rest : List UInt8} {n : Nat} {a b : UInt8} (hn : 1 ≤ n) (hr : n ≤ r.length) (hg : GapStart rest) (hb : b ≠ 32 ∧ b ≠ 10 ∧ b ≠ 9 ∧ b ≠ 40) : two (r.take n ++ rest) a b = (decide (2 ≤ n) && two r a b) := by
  match r, n, hn, hr with
  | [], n, hn, hr => simp at hr; omega
  | c :: l, n + 1, _, hr =>
    rw [List.take_succ_cons]
    match l, n, hr with
    | l, 0, _ =>
      rw [List.take_zero]
      rcases hg with rfl | ⟨d, q, rfl, hd⟩
      · rfl
      · show (c == a && d == b) = _
        have : (d == b) = false := by
          rw [beq_eq_false_iff_ne]
          rintro rfl
          rcases hd with h | h | h | h
          · exact hb.1 h
          · exact hb.2.1 h
          · exact hb.2.2.1 h
          · exact hb.2.2.2 h
        rw [this]
        simp
    | [], n + 1, hr => simp at hr
    | d :: l, n + 1, _ =>
      rw [List.take_succ_cons]
      show (c == a && d == b) = (decide (2 ≤ n + 1 + 1) && (c == a && d == b))
      simp
theorem gap_body {c : UInt8} (h : c = 32 ∨ c = 10 ∨ c = 9 ∨ c = 40) : bodyB c = false ∧ (c == 35) = false ∧ digV c = 99 ∧ numB c = false := by
  rcases h with rfl | rfl | rfl | rfl <;> exact ⟨rfl, rfl, rfl, rfl⟩
theorem gap_bodyLen {l : List UInt8} (h : GapStart l) : bodyLen l = 0 := by
  rcases h with rfl | ⟨c, r, rfl, hc⟩
  · rfl
  · rw [bodyLen, (gap_body hc).1, if_neg (by simp)]
theorem gap_stuck {l : List UInt8} (h : GapStart l) : stuck l = false := by
  rcases h with rfl | ⟨c, r, rfl, hc⟩
  · rfl
  · show (bodyB c || c == 35) = false
    rw [(gap_body hc).1, (gap_body hc).2.1]
    rfl
theorem gap_digs {l : List UInt8} (h : GapStart l) {b : Nat} (hb : b ≤ 16) : digs b l = [] := by
  rcases h with rfl | ⟨c, r, rfl, hc⟩
  · rfl
  · exact digs_no (by rw [(gap_body hc).2.2.1]; omega) r
theorem bodyLen_take {rest : List UInt8} (hg : GapStart rest) : ∀ (r : List UInt8), bodyLen (r.take (bodyLen r) ++ rest) = bodyLen r
  | [] => gap_bodyLen hg
  | c :: l => by
    rw [bodyLen]
    split
    · rename_i h
      rw [List.take_succ_cons, List.cons_append, bodyLen, if_pos h, bodyLen_take hg l]
    · rw [List.take_zero, List.nil_append]
      exact gap_bodyLen hg
theorem digs_take {rest : List UInt8} (hg : GapStart rest) {b : Nat} (hb : b ≤ 16) : ∀ (r : List UInt8), digs b (r.take (digs b r).length ++ rest) = digs b r
  | [] => gap_digs hg hb
  | c :: l => by
    by_cases h : digV c < b
    · rw [digs_yes h, List.length_cons, List.take_succ_cons, List.cons_append, digs_yes h, digs_take hg hb l]
    · rw [digs_no h, List.length_nil, List.take_zero, List.nil_append]
      exact gap_digs hg hb
theorem base_16 (r : List UInt8) : (baseOf r).1 ≤ 16 ∧ (baseOf r).2 ≤ 3 := by
  unfold baseOf
  split
  · exact ⟨by simp, by simp⟩
  · split
    · exact ⟨by simp, by simp⟩
    · split <;> exact ⟨by simp, by simp⟩
theorem take_drop1 {r rest : List UInt8} {n : Nat} (hn : 1 ≤ n) (hr : n ≤ r.length) : (r.take n ++ rest).drop 1 = (r.drop 1).take (n - 1) ++ rest := by
  match r, n, hn, hr with
  | [], n, hn, hr => simp at hr; omega
  | c :: l, n + 1, _, _ => simp
theorem base_take {r rest : List UInt8} {n : Nat} (hn : 1 ≤ n) (hr : n ≤ r.length) (hg : GapStart rest) (hb : (baseOf r).2 ≤ n) : baseOf (r.take n ++ rest) = baseOf r := by
  have h1 := two_take (a := 50) (b := 35) hn hr hg (by decide)
  have h2 := two_take (a := 56) (b := 35) hn hr hg (by decide)
  have h3 := two_take (a := 49) (b := 54) hn hr hg (by decide)
  have h4 : two ((r.take n ++ rest).drop 1) 54 35 = (decide (3 ≤ n) && two (r.drop 1) 54 35) := by
    rw [take_drop1 hn hr]
    by_cases hn2 : n = 1
    · subst hn2
      rw [show (1 : Nat) - 1 = 0 from rfl, List.take_zero, List.nil_append]
      rcases hg with rfl | ⟨d, q, rfl, hd⟩
      · rfl
      · cases q with
        | nil => rfl
        | cons e q =>
          show (d == 54 && e == 35) = _
          rcases hd with rfl | rfl | rfl | rfl <;> rfl
    · rw [two_take (n := n - 1) (by omega) (by rw [List.length_drop]; omega) hg (by decide)]
      congr 1
      rw [decide_eq_decide]
      omega
  unfold baseOf at hb ⊢
  rw [h1, h2, h3, h4]
  cases t1 : two r 50 35
  · cases t2 : two r 56 35
    · cases t3 : (two r 49 54 && two (r.drop 1) 54 35)
      · rw [Bool.and_eq_false_iff] at t3
        rcases t3 with t3 | t3 <;> rw [t3] <;> simp
      · rw [t1, t2, t3] at hb
        simp at hb
        rw [Bool.and_eq_true] at t3
        rw [t3.1, t3.2]
        have : 2 ≤ n := by omega
        simp [this, hb]
    · rw [t1, t2] at hb
      simp at hb
      simp [hb]
  · rw [t1] at hb
    simp at hb
    simp [hb]
end Go.Proofs.YtdefgghhkknnpaaGreatDoor.tk
/- The document's comparison of two rows of signs: true of rows alike, with their places or but for them; what was in memory is as it was. Condition: they are alike. -/
namespace Go.Proofs.YtdefgghhkknnpaaGreatDoor.tk
open Go.ChangeShapes Go.WideShapes Go.ChangeAt Go.RowKit Go.Proofs.YtdefgghhkknnpaaGreatDoor.k Go.Proofs.YtdefgghhkknnpaaGreatDoor.rr
set_option linter.unusedVariables false
set_option linter.unusedSimpArgs false

/-- two signs alike; p: with their places -/
def Alike (p : Bool) (a b : Tk) : Prop := b.kind = a.kind ∧ b.text = a.text ∧ b.n = a.n ∧ (p = true → b.line = a.line ∧ b.col = a.col)
end Go.Proofs.YtdefgghhkknnpaaGreatDoor.tk
/- A text's signs, written out again with gaps between them: they are read as they were. No condition but what each line says. -/
namespace Go.Proofs.YtdefgghhkknnpaaGreatDoor.tk
open Go.ChangeShapes Go.WideShapes Go.ChangeAt Go.RowKit Go.Proofs.YtdefgghhkknnpaaGreatDoor.k Go.Proofs.YtdefgghhkknnpaaGreatDoor.rr
set_option linter.unusedVariables false
set_option linter.unusedSimpArgs false

theorem number_take {r rest : List UInt8} {v n : Nat} (h : number r = (0, v, n)) (hg : GapStart rest) : number (r.take n ++ rest) = (0, v, n) := by
  obtain ⟨⟨b, hh⟩, hb⟩ : ∃ q, baseOf r = q := ⟨_, rfl⟩
  obtain ⟨D, hD⟩ : ∃ D, digs b (r.drop hh) = D := ⟨_, rfl⟩
  have hl := number_len h
  have h16 := base_16 r
  rw [hb] at h16
  have hn := num_eq r b hh D hb hD
  rw [h] at hn
  have hdl := digs_len b (r.drop hh)
  rw [hD, List.length_drop] at hdl
  have hbl := base_len r
  rw [hb] at hbl
  simp only at hbl
  -- what it was
  have hcases : ¬ ((D.isEmpty || stuck (r.drop (hh + D.length))) = true) ∧ ¬ 9223372036854775807 < val b D ∧ v = val b D ∧ n = hh + D.length := by
    by_cases h1 : (D.isEmpty || stuck (r.drop (hh + D.length))) = true
    · rw [if_pos h1] at hn
      cases hn
    · rw [if_neg h1] at hn
      by_cases h2 : 9223372036854775807 < val b D
      · rw [if_pos h2] at hn
        cases hn
      · rw [if_neg h2] at hn
        injection hn with _ hn
        injection hn with hn1 hn2
        exact ⟨h1, h2, hn1, hn2⟩
  obtain ⟨c1, c2, rfl, rfl⟩ := hcases
  have h1n := hl.2 rfl
  have hbt := base_take (rest := rest) h1n hl.1 hg (by rw [hb]; simp)
  rw [hb] at hbt
  have hdrop : (r.take (hh + D.length) ++ rest).drop hh = (r.drop hh).take D.length ++ rest := by
    rw [List.drop_append_of_le_length (by rw [List.length_take]; omega), List.drop_take, show hh + D.length - hh = D.length by omega]
  have hdig : digs b ((r.take (hh + D.length) ++ rest).drop hh) = D := by
    rw [hdrop, ← hD]
    exact digs_take hg h16.1 _
  have hend : (r.take (hh + D.length) ++ rest).drop (hh + D.length) = rest := by
    rw [List.drop_append_of_le_length (by rw [List.length_take]; omega), List.drop_eq_nil_of_le (by rw [List.length_take]; omega), List.nil_append]
  have hemp : D.isEmpty = false := by
    cases he : D.isEmpty
    · rfl
    · rw [he] at c1
      exact absurd rfl c1
  rw [num_eq _ b hh D hbt hdig, hend, gap_stuck hg, hemp, if_neg (by simp), if_neg c2]
theorem sgn_take {r rest : List UInt8} {k : Int} {v n : Nat} (h : sgn r = (0, k, v, n)) (hg : GapStart rest) : sgn (r.take n ++ rest) = (0, k, v, n) := by
  have hl := sgn_len h
  revert h hl
  cases r with
  | nil => intro h hl; simp at hl; omega
  | cons c l =>
    intro h hl
    obtain ⟨m, rfl⟩ : ∃ m, n = m + 1 := ⟨n - 1, by omega⟩
    have ht : (c :: l).take (m + 1) ++ rest = c :: (l.take m ++ rest) := rfl
    cases ha : alphaB c
    · cases hn : numB c
      · by_cases h0 : signLen (c :: l) = 0
        · rw [sgn_none ha hn h0] at h
          cases h
        · rw [sgn_sign ha hn h0] at h
          simp only [Prod.mk.injEq, true_and] at h
          obtain ⟨hk, hv, h⟩ := h
          subst hk hv
          have hs : signLen ((c :: l).take (m + 1) ++ rest) = m + 1 := by
            rw [← h] at hl
            have t1 := two_take (a := 58) (b := 61) hl.1 hl.2 hg (by decide)
            have t2 := two_take (a := 60) (b := 61) hl.1 hl.2 hg (by decide)
            have t3 := two_take (a := 62) (b := 61) hl.1 hl.2 hg (by decide)
            have t4 := two_take (a := 60) (b := 62) hl.1 hl.2 hg (by decide)
            have t5 := two_take (a := 46) (b := 46) hl.1 hl.2 hg (by decide)
            rw [← h]
            generalize hsl : signLen (c :: l) = sl at *
            unfold signLen at hsl ⊢
            rw [t1, t2, t3, t4, t5]
            by_cases hx : (two (c :: l) 58 61 || (two (c :: l) 60 61 || (two (c :: l) 62 61 || (two (c :: l) 60 62 || two (c :: l) 46 46)))) = true
            · rw [if_pos hx] at hsl
              subst hsl
              rw [if_pos (by simpa using hx)]
            · rw [if_neg hx] at hsl
              simp only at hsl
              have hsl1 : sl = 1 := by
                split at hsl <;> omega
              subst hsl1
              rw [if_neg (by simp)]
              rw [List.take_succ_cons, List.cons_append]
              exact hsl
          rw [ht] at hs ⊢
          rw [sgn_sign ha hn (by rw [hs]; omega), hs]
      · obtain ⟨⟨e, v', n'⟩, hx⟩ : ∃ q, number (c :: l) = q := ⟨_, rfl⟩
        by_cases he : e = 0
        · subst he
          rw [sgn_num ha hn hx] at h
          simp only [Prod.mk.injEq, true_and] at h
          obtain ⟨hk, hv, h⟩ := h
          subst hk hv h
          have := number_take hx hg
          rw [ht] at this ⊢
          exact sgn_num ha hn this
        · rw [sgn_nume ha hn hx he] at h
          simp only [Prod.mk.injEq] at h
          exact absurd h.1 he
    · have hbl := bodyLen_take hg (c :: l)
      cases hw : isWord ((c :: l).take (bodyLen (c :: l)))
      · by_cases h16 : 16 < bodyLen (c :: l)
        · rw [sgn_long ha hw h16] at h
          cases h
        · rw [sgn_name ha hw h16] at h
          simp only [Prod.mk.injEq, true_and] at h
          obtain ⟨hk, hv, h⟩ := h
          subst hk hv
          rw [h] at hbl hw h16
          have htk : ((c :: l).take (m + 1) ++ rest).take (m + 1) = (c :: l).take (m + 1) := by
            rw [List.take_append_of_le_length (by rw [List.length_take]; omega), List.take_take, Nat.min_self]
          rw [ht] at hbl htk ⊢
          rw [sgn_name ha (by rw [hbl, htk]; exact hw) (by rw [hbl]; exact h16), hbl]
      · rw [sgn_word ha hw] at h
        simp only [Prod.mk.injEq, true_and] at h
        obtain ⟨hk, hv, h⟩ := h
        subst hk hv
        rw [h] at hbl hw
        have htk : ((c :: l).take (m + 1) ++ rest).take (m + 1) = (c :: l).take (m + 1) := by
          rw [List.take_append_of_le_length (by rw [List.length_take]; omega), List.take_take, Nat.min_self]
        rw [ht] at hbl htk ⊢
        rw [sgn_word ha (by rw [hbl, htk]; exact hw), hbl]
theorem nogap_take {r rest : List UInt8} {n : Nat} (h : NoGap r) (hn : 1 ≤ n) (hr : n ≤ r.length) (hg : GapStart rest) : NoGap (r.take n ++ rest) := by
  obtain ⟨c, l, rfl, h1, h2, h3⟩ := h
  obtain ⟨m, rfl⟩ : ∃ m, n = m + 1 := ⟨n - 1, by omega⟩
  refine ⟨c, l.take m ++ rest, rfl, h1, ?_, ?_⟩
  · have e := two_take (a := 47) (b := 47) hn hr hg (by decide)
    rw [h2] at e
    rw [e]
    simp
  · have e := two_take (a := 40) (b := 42) hn hr hg (by decide)
    rw [h3] at e
    rw [e]
    simp
/-- a sign that is read as it is, whatever gap stands behind it -/
def TokOk (t : Tk) : Prop := 1 ≤ t.text.length ∧ ∃ v : Nat, t.n = v ∧ ∀ rest, GapStart rest → past (t.text ++ rest) = (true, t.text ++ rest) ∧ sgn (t.text ++ rest) = (0, t.kind, v, t.text.length)
theorem tok_ok {r : List UInt8} {k : Int} {v n : Nat} {ln cl : Nat} (hno : NoGap r) (h : sgn r = (0, k, v, n)) : TokOk ⟨k, r.take n, v, ln, cl⟩ := by
  have hl := sgn_len h
  have ht : (r.take n).length = n := by rw [List.length_take]; omega
  refine ⟨by simp only [ht]; exact hl.1, v, rfl, fun rest hg => ⟨(nogap_take hno hl.1 hl.2 hg).past, ?_⟩⟩
  simp only [ht]
  exact sgn_take h hg
/-- signs that are read as they are, and the end's -/
def Good : List Tk → Prop
  | [] => False
  | [t] => t.kind = 0 ∧ t.text = [] ∧ t.n = 0
  | t :: u :: l => TokOk t ∧ Good (u :: l)
def textLen (M : List Tk) : Nat := (M.map fun t => t.text.length).sum
theorem Good.cons {t : Tk} {M : List Tk} (h : TokOk t) (hM : Good M) : Good (t :: M) := by
  cases M with
  | nil => exact hM.elim
  | cons u l => exact ⟨h, hM⟩
theorem lexF_good (s : List UInt8) : ∀ (f : Nat) (r : List UInt8) (acc M : List Tk) (z : Tk), r.length < f → lexF s f r acc = (0, M, z) → ∃ M', M = acc ++ M' ∧ Good M' ∧ textLen M' ≤ r.length
  | 0, r, acc, M, z, hf, h => by omega
  | f + 1, r, acc, M, z, hf, h => by
    have hle := (past_suf r).length_le
    cases hok : (past r).1
    · rw [lexF_bad hok] at h
      cases h
    · by_cases h0 : (past r).2 = []
      · rw [lexF_end hok h0] at h
        cases h
        exact ⟨[atP (plAt s [])], rfl, ⟨rfl, rfl, rfl⟩, by simp [textLen, atP]⟩
      · obtain ⟨⟨e, k, v, n⟩, hsg⟩ : ∃ q, sgn (past r).2 = q := ⟨_, rfl⟩
        by_cases he : e = 0
        · subst he
          have hn := sgn_len hsg
          have hno := past_no (r := r) (q := (past r).2) (by rw [← hok]) h0
          rw [lexF_tok hok h0 (by rw [hsg]), hsg] at h
          simp only at h
          obtain ⟨M', h1, h2, h3⟩ := lexF_good s f _ _ _ _ (by rw [List.length_drop]; omega) h
          refine ⟨⟨k, (past r).2.take n, v, (plAt s (past r).2).1, (plAt s (past r).2).2⟩ :: M', by rw [h1, List.append_assoc]; rfl, Good.cons (tok_ok hno hsg) h2, ?_⟩
          rw [List.length_drop] at h3
          simp only [textLen, List.map_cons, List.sum_cons, List.length_take] at h3 ⊢
          omega
        · rw [lexF_err hok h0 (by rw [hsg]; exact he), hsg] at h
          injection h with h
          exact absurd h he
/-- signs with gaps ahead of them -/
def joinG (G : Nat → List UInt8) : Nat → List Tk → List UInt8
  | _, [] => []
  | i, t :: l => G i ++ (t.text ++ joinG G (i + 1) l)
theorem joinG_len {G : Nat → List UInt8} (hG : ∀ i, G i ∈ gaps) : ∀ (M : List Tk) (i : Nat), (joinG G i M).length ≤ 7 * M.length + textLen M
  | [], i => by simp [joinG]
  | t :: l, i => by
    have h1 := joinG_len hG l (i + 1)
    have h2 := gap_len (hG i)
    simp only [joinG, List.length_append, List.length_cons, textLen, List.map_cons, List.sum_cons] at *
    omega
theorem joinG_snoc (G : Nat → List UInt8) : ∀ (M : List Tk) (i : Nat) (t : Tk), joinG G i (M ++ [t]) = joinG G i M ++ (G (i + M.length) ++ t.text)
  | [], i, t => by simp [joinG]
  | u :: l, i, t => by
    rw [List.cons_append, joinG, joinG_snoc G l (i + 1) t, joinG, List.length_cons, show i + 1 + l.length = i + (l.length + 1) by omega]
    simp [List.append_assoc]
theorem joinG_app (G : Nat → List UInt8) : ∀ (A B : List Tk) (i : Nat), joinG G i (A ++ B) = joinG G i A ++ joinG G (i + A.length) B
  | [], B, i => by simp [joinG]
  | u :: l, B, i => by
    rw [List.cons_append, joinG, joinG_app G l B (i + 1), joinG, List.length_cons, show i + 1 + l.length = i + (l.length + 1) by omega]
    simp [List.append_assoc]
theorem lexF_join (s : List UInt8) {G : Nat → List UInt8} (hG : ∀ i, G i ∈ gaps) : ∀ (M : List Tk), Good M → ∀ (f i : Nat) (acc : List Tk), (joinG G i M).length < f →
    ∃ M', lexF s f (joinG G i M) acc = (0, acc ++ M', zeroT) ∧ M.length = M'.length ∧ ∀ (j : Nat) a b, M[j]? = some a → M'[j]? = some b → Alike false a b
  | [], h, _, _, _, _ => h.elim
  | [t], h, f, i, acc, hf => by
    obtain ⟨h1, h2, h3⟩ := h
    obtain ⟨f, rfl⟩ : ∃ g, f = g + 1 := ⟨f - 1, by omega⟩
    have hp : past (joinG G i [t]) = (true, []) := by
      rw [joinG, h2, joinG, List.nil_append, past_gap (hG i)]
      rfl
    refine ⟨[atP (plAt s [])], lexF_end (by rw [hp]) (by rw [hp]), rfl, fun j a b ha hb => ?_⟩
    cases j with
    | zero =>
      have ha : t = a := by simpa using ha
      have hb : atP (plAt s []) = b := by simpa using hb
      subst ha hb
      exact ⟨h1.symm, h2.symm, h3.symm, fun h => by cases h⟩
    | succ j => simp at ha
  | t :: u :: l, h, f, i, acc, hf => by
    obtain ⟨⟨ht1, v, hv, ht⟩, hM⟩ := h
    obtain ⟨f, rfl⟩ : ∃ g, f = g + 1 := ⟨f - 1, by omega⟩
    have hrest : GapStart (joinG G (i + 1) (u :: l)) := by rw [joinG]; exact gap_start (hG _) _
    obtain ⟨hp, hs⟩ := ht _ hrest
    have hp2 : past (joinG G i (t :: u :: l)) = (true, t.text ++ joinG G (i + 1) (u :: l)) := by rw [joinG, past_gap (hG i), hp]
    have hne : t.text ++ joinG G (i + 1) (u :: l) ≠ [] := by
      intro e
      have := congrArg List.length e
      rw [List.length_append, List.length_nil] at this
      omega
    have hlen : (joinG G (i + 1) (u :: l)).length < f := by
      have hj : (joinG G i (t :: u :: l)).length = (G i).length + (t.text.length + (joinG G (i + 1) (u :: l)).length) := by rw [joinG, List.length_append, List.length_append]
      omega
    rw [lexF_tok (by rw [hp2]) (by rw [hp2]; exact hne) (by rw [hp2, hs]), hp2, hs]
    simp only
    rw [List.drop_left, List.take_left]
    obtain ⟨M', h1, h2, h3⟩ := lexF_join s hG (u :: l) hM f (i + 1) _ hlen
    refine ⟨_ :: M', by rw [h1, List.append_assoc]; rfl, by simp only [List.length_cons] at h2 ⊢; omega, fun j a b ha hb => ?_⟩
    cases j with
    | zero =>
      have ha : t = a := by simpa using ha
      subst ha
      have hb := Option.some.inj hb
      subst hb
      exact ⟨rfl, rfl, hv.symm, fun h => by cases h⟩
    | succ j => exact h3 j a b (by simpa using ha) (by simpa using hb)
/-- a text's signs, with gaps between them: the same signs -/
theorem lex_join {s : List UInt8} {M : List Tk} {z : Tk} (h : lex s = (0, M, z)) (hs : s.length ≤ 1500) (hM : M.length ≤ 100) {G : Nat → List UInt8} (hG : ∀ i, G i ∈ gaps) :
    (joinG G 0 M).length ≤ 2200 ∧ ∃ M', lex (joinG G 0 M) = (0, M', zeroT) ∧ M.length = M'.length ∧ ∀ (j : Nat) a b, M[j]? = some a → M'[j]? = some b → Alike false a b := by
  have h1 : ¬ 16384 < s.length := by omega
  unfold lex at h
  rw [if_neg h1] at h
  obtain ⟨M', e, h2, h3⟩ := lexF_good s _ _ _ _ _ (Nat.lt_succ_self _) h
  rw [List.nil_append] at e
  subst e
  have h4 := joinG_len hG M 0
  have h5 : (joinG G 0 M).length ≤ 2200 := by omega
  refine ⟨h5, ?_⟩
  obtain ⟨N, h6, h7, h8⟩ := lexF_join (joinG G 0 M) hG M h2 ((joinG G 0 M).length + 1) 0 [] (Nat.lt_succ_self _)
  refine ⟨N, ?_, h7, h8⟩
  unfold lex
  rw [if_neg (by omega), h6, List.nil_append]
end Go.Proofs.YtdefgghhkknnpaaGreatDoor.tk
