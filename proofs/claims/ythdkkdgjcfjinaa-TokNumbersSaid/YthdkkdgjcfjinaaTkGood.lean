/- A text's signs, written out again with gaps between them: they are read as they were. No condition but what each line says. -/
import Derived.Test.YthdkkdgjcfjinaaTkPlaced
namespace Go.Proofs.Ythdkkdgjcfjinaa.tk
open Go.ChangeShapes Go.WideShapes Go.ChangeAt Go.RowKit Go.Proofs.Ythdkkdgjcfjinaa.k Go.Proofs.Ythdkkdgjcfjinaa.rr
set_option linter.unusedVariables false

theorem pastF_fuel : ∀ (f g : Nat) (r : List UInt8), r.length < f → r.length < g → pastF f r = pastF g r
  | 0, _, _, h, _ => by omega
  | _ + 1, 0, _, _, h => by omega
  | f + 1, g + 1, [], _, _ => rfl
  | f + 1, g + 1, c :: l, hf, hg => by
    rw [List.length_cons] at hf hg
    have h1 := (lineRest_suf l).length_le
    rw [pastF, pastF]
    split
    · exact pastF_fuel f g l (by omega) (by omega)
    · split
      · exact pastF_fuel f g _ (by omega) (by omega)
      · split
        · split
          · rename_i r hr
            have h2 := (endRest_suf _ _ hr).length_le
            rw [List.length_drop] at h2
            exact pastF_fuel f g r (by omega) (by omega)
          · rfl
        · rfl
theorem past_f {f : Nat} {r : List UInt8} (h : r.length < f) : pastF f r = past r := pastF_fuel _ _ _ h (Nat.lt_succ_self _)
theorem past_blank {c : UInt8} (h : c = 32 ∨ c = 10 ∨ c = 9) (l : List UInt8) : past (c :: l) = past l := by
  unfold past
  rw [List.length_cons, pastF, if_pos h]
theorem past_line (l : List UInt8) : past (47 :: 47 :: l) = past (lineRest (47 :: l)) := by
  have h1 := (lineRest_suf (47 :: l)).length_le
  rw [List.length_cons] at h1
  rw [← past_f (f := l.length + 1 + 1) (r := lineRest (47 :: l)) (by omega)]
  rfl
theorem past_rem (l r : List UInt8) (h : endRest l = some r) : past (40 :: 42 :: l) = past r := by
  have h1 := (endRest_suf _ _ h).length_le
  rw [← past_f (f := l.length + 1 + 1) (r := r) (by omega)]
  show (match endRest l with | some r => pastF (l.length + 1 + 1) r | none => (false, 40 :: 42 :: l)) = _
  rw [h]
/-- the gaps of the law -/
def gaps : List (List UInt8) := [[32], [10], [9], [32, 47, 47, 32, 120, 10], [40, 42, 32, 42, 32, 42, 41], [40, 42, 42, 41, 32], [10, 10], [40, 42, 47, 47, 42, 41]]
theorem past_gap {g : List UInt8} (h : g ∈ gaps) (l : List UInt8) : past (g ++ l) = past l := by
  simp only [gaps, List.mem_cons, List.not_mem_nil, or_false] at h
  rcases h with rfl | rfl | rfl | rfl | rfl | rfl | rfl | rfl
  · exact past_blank (.inl rfl) l
  · exact past_blank (.inr (.inl rfl)) l
  · exact past_blank (.inr (.inr rfl)) l
  · rw [show [32, 47, 47, 32, 120, 10] ++ l = 32 :: 47 :: 47 :: 32 :: 120 :: 10 :: l from rfl, past_blank (.inl rfl), past_line]
    rw [show lineRest (47 :: 32 :: 120 :: 10 :: l) = 10 :: l from rfl, past_blank (.inr (.inl rfl))]
  · exact past_rem (32 :: 42 :: 32 :: 42 :: 41 :: l) l rfl
  · rw [show [40, 42, 42, 41, 32] ++ l = 40 :: 42 :: 42 :: 41 :: 32 :: l from rfl, past_rem (42 :: 41 :: 32 :: l) (32 :: l) rfl, past_blank (.inl rfl)]
  · rw [show [10, 10] ++ l = 10 :: 10 :: l from rfl, past_blank (.inr (.inl rfl)), past_blank (.inr (.inl rfl))]
  · exact past_rem (47 :: 47 :: 42 :: 41 :: l) l rfl
/-- what may stand behind a sign -/
def GapStart (l : List UInt8) : Prop := l = [] ∨ ∃ c r, l = c :: r ∧ (c = 32 ∨ c = 10 ∨ c = 9 ∨ c = 40)
theorem gap_start {g : List UInt8} (h : g ∈ gaps) (l : List UInt8) : GapStart (g ++ l) := by
  right
  simp only [gaps, List.mem_cons, List.not_mem_nil, or_false] at h
  rcases h with rfl | rfl | rfl | rfl | rfl | rfl | rfl | rfl <;> exact ⟨_, _, rfl, by decide⟩
theorem gap_len {g : List UInt8} (h : g ∈ gaps) : g.length ≤ 7 := by
  simp only [gaps, List.mem_cons, List.not_mem_nil, or_false] at h
  rcases h with rfl | rfl | rfl | rfl | rfl | rfl | rfl | rfl <;> decide
/-- no gap begins here -/
def NoGap (r : List UInt8) : Prop := ∃ c l, r = c :: l ∧ ¬ (c = 32 ∨ c = 10 ∨ c = 9) ∧ two r 47 47 = false ∧ two r 40 42 = false
theorem NoGap.past {r : List UInt8} (h : NoGap r) : past r = (true, r) := by
  obtain ⟨c, l, rfl, h1, h2, h3⟩ := h
  unfold tk.past
  rw [List.length_cons, pastF, if_neg h1, h2, h3]
  simp
theorem pastF_no : ∀ (f : Nat) (r q : List UInt8), r.length < f → pastF f r = (true, q) → q ≠ [] → NoGap q
  | 0, _, _, h, _, _ => by omega
  | f + 1, [], q, _, h, hq => by cases h; exact absurd rfl hq
  | f + 1, c :: l, q, hf, h, hq => by
    rw [List.length_cons] at hf
    have h1 := (lineRest_suf l).length_le
    rw [pastF] at h
    split at h
    · exact pastF_no f l q (by omega) h hq
    · rename_i c1
      split at h
      · exact pastF_no f _ q (by omega) h hq
      · rename_i c2
        split at h
        · split at h
          · rename_i r hr
            have h2 := (endRest_suf _ _ hr).length_le
            rw [List.length_drop] at h2
            exact pastF_no f r q (by omega) h hq
          · cases h
        · rename_i c3
          cases h
          exact ⟨c, l, rfl, c1, by simpa using c2, by simpa using c3⟩
theorem past_no {r q : List UInt8} (h : past r = (true, q)) (hq : q ≠ []) : NoGap q := pastF_no _ _ _ (Nat.lt_succ_self _) h hq
/-- two bytes of a beginning and what is behind it -/
theorem two_take {r rest : List UInt8} {n : Nat} {a b : UInt8} (hn : 1 ≤ n) (hr : n ≤ r.length) (hg : GapStart rest) (hb : b ≠ 32 ∧ b ≠ 10 ∧ b ≠ 9 ∧ b ≠ 40) : two (r.take n ++ rest) a b = (decide (2 ≤ n) && two r a b) := by
  match r, n, hn, hr with
  | [], n, hn, hr => simp at hr; omega
  | c :: l, n + 1, _, hr =>
    rw [List.take_succ_cons]
    match l, n, hr with
    | l, 0, _ =>
      rw [List.take_zero]
      rcases hg with rfl | ⟨d, q, rfl, hd⟩
      · rfl
      · show (c == a && d == b) = _
        have : (d == b) = false := by
          rw [beq_eq_false_iff_ne]
          rintro rfl
          rcases hd with h | h | h | h
          · exact hb.1 h
          · exact hb.2.1 h
          · exact hb.2.2.1 h
          · exact hb.2.2.2 h
        rw [this]
        simp
    | [], n + 1, hr => simp at hr
    | d :: l, n + 1, _ =>
      rw [List.take_succ_cons]
      show (c == a && d == b) = (decide (2 ≤ n + 1 + 1) && (c == a && d == b))
      simp
theorem gap_body {c : UInt8} (h : c = 32 ∨ c = 10 ∨ c = 9 ∨ c = 40) : bodyB c = false ∧ (c == 35) = false ∧ digV c = 99 ∧ numB c = false := by
  rcases h with rfl | rfl | rfl | rfl <;> exact ⟨rfl, rfl, rfl, rfl⟩
theorem gap_bodyLen {l : List UInt8} (h : GapStart l) : bodyLen l = 0 := by
  rcases h with rfl | ⟨c, r, rfl, hc⟩
  · rfl
  · rw [bodyLen, (gap_body hc).1, if_neg (by simp)]
theorem gap_stuck {l : List UInt8} (h : GapStart l) : stuck l = false := by
  rcases h with rfl | ⟨c, r, rfl, hc⟩
  · rfl
  · show (bodyB c || c == 35) = false
    rw [(gap_body hc).1, (gap_body hc).2.1]
    rfl
theorem gap_digs {l : List UInt8} (h : GapStart l) {b : Nat} (hb : b ≤ 16) : digs b l = [] := by
  rcases h with rfl | ⟨c, r, rfl, hc⟩
  · rfl
  · exact digs_no (by rw [(gap_body hc).2.2.1]; omega) r
theorem bodyLen_take {rest : List UInt8} (hg : GapStart rest) : ∀ (r : List UInt8), bodyLen (r.take (bodyLen r) ++ rest) = bodyLen r
  | [] => gap_bodyLen hg
  | c :: l => by
    rw [bodyLen]
    split
    · rename_i h
      rw [List.take_succ_cons, List.cons_append, bodyLen, if_pos h, bodyLen_take hg l]
    · rw [List.take_zero, List.nil_append]
      exact gap_bodyLen hg
theorem digs_take {rest : List UInt8} (hg : GapStart rest) {b : Nat} (hb : b ≤ 16) : ∀ (r : List UInt8), digs b (r.take (digs b r).length ++ rest) = digs b r
  | [] => gap_digs hg hb
  | c :: l => by
    by_cases h : digV c < b
    · rw [digs_yes h, List.length_cons, List.take_succ_cons, List.cons_append, digs_yes h, digs_take hg hb l]
    · rw [digs_no h, List.length_nil, List.take_zero, List.nil_append]
      exact gap_digs hg hb
theorem base_16 (r : List UInt8) : (baseOf r).1 ≤ 16 ∧ (baseOf r).2 ≤ 3 := by
  unfold baseOf
  split
  · exact ⟨by simp, by simp⟩
  · split
    · exact ⟨by simp, by simp⟩
    · split <;> exact ⟨by simp, by simp⟩
theorem take_drop1 {r rest : List UInt8} {n : Nat} (hn : 1 ≤ n) (hr : n ≤ r.length) : (r.take n ++ rest).drop 1 = (r.drop 1).take (n - 1) ++ rest := by
  match r, n, hn, hr with
  | [], n, hn, hr => simp at hr; omega
  | c :: l, n + 1, _, _ => simp
theorem base_take {r rest : List UInt8} {n : Nat} (hn : 1 ≤ n) (hr : n ≤ r.length) (hg : GapStart rest) (hb : (baseOf r).2 ≤ n) : baseOf (r.take n ++ rest) = baseOf r := by
  have h1 := two_take (a := 50) (b := 35) hn hr hg (by decide)
  have h2 := two_take (a := 56) (b := 35) hn hr hg (by decide)
  have h3 := two_take (a := 49) (b := 54) hn hr hg (by decide)
  have h4 : two ((r.take n ++ rest).drop 1) 54 35 = (decide (3 ≤ n) && two (r.drop 1) 54 35) := by
    rw [take_drop1 hn hr]
    by_cases hn2 : n = 1
    · subst hn2
      rw [show (1 : Nat) - 1 = 0 from rfl, List.take_zero, List.nil_append]
      rcases hg with rfl | ⟨d, q, rfl, hd⟩
      · rfl
      · cases q with
        | nil => rfl
        | cons e q =>
          show (d == 54 && e == 35) = _
          rcases hd with rfl | rfl | rfl | rfl <;> rfl
    · rw [two_take (n := n - 1) (by omega) (by rw [List.length_drop]; omega) hg (by decide)]
      congr 1
      rw [decide_eq_decide]
      omega
  unfold baseOf at hb ⊢
  rw [h1, h2, h3, h4]
  cases t1 : two r 50 35
  · cases t2 : two r 56 35
    · cases t3 : (two r 49 54 && two (r.drop 1) 54 35)
      · rw [Bool.and_eq_false_iff] at t3
        rcases t3 with t3 | t3 <;> rw [t3] <;> simp
      · rw [t1, t2, t3] at hb
        simp at hb
        rw [Bool.and_eq_true] at t3
        rw [t3.1, t3.2]
        have : 2 ≤ n := by omega
        simp [this, hb]
    · rw [t1, t2] at hb
      simp at hb
      simp [hb]
  · rw [t1] at hb
    simp at hb
    simp [hb]
end Go.Proofs.Ythdkkdgjcfjinaa.tk
