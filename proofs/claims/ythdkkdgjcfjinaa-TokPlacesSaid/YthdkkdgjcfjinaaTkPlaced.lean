/- Where the signs of a text stand: one behind the other, each where its text is. No condition but what each line says. -/
import Derived.Test.YthdkkdgjcfjinaaTkLex
namespace Go.Proofs.Ythdkkdgjcfjinaa.tk
open Go.ChangeShapes Go.WideShapes Go.ChangeAt Go.RowKit Go.Proofs.Ythdkkdgjcfjinaa.k Go.Proofs.Ythdkkdgjcfjinaa.rr
set_option linter.unusedVariables false

/-- signs from a byte on, one behind the other; the last is the end's -/
def Placed (s : List UInt8) : Nat → List Tk → Prop
  | _, [] => False
  | o, t :: l => ∃ p, o ≤ p ∧ p ≤ s.length ∧ (t.line, t.col) = plc (s.take p) ∧ (s.drop p).take t.text.length = t.text ∧ p + t.text.length ≤ s.length ∧ ((l = [] ∧ t.kind = 0 ∧ p = s.length) ∨ Placed s (p + 1) l)
theorem Placed.mono {s : List UInt8} {o o' : Nat} : ∀ {M : List Tk}, Placed s o M → o' ≤ o → Placed s o' M
  | [], h, _ => h
  | t :: l, ⟨p, h1, h2⟩, h => ⟨p, by omega, h2⟩
theorem plc_pos (l : List UInt8) : 1 ≤ (plc l).1 ∧ 1 ≤ (plc l).2 := by
  have : ∀ (l : List UInt8) (p : Nat × Nat), 1 ≤ p.1 → 1 ≤ p.2 → 1 ≤ (l.foldl stepP p).1 ∧ 1 ≤ (l.foldl stepP p).2 := by
    intro l
    induction l with
    | nil => intro p h1 h2; exact ⟨h1, h2⟩
    | cons c l ih =>
      intro p h1 h2
      rw [List.foldl_cons]
      refine ih _ ?_ ?_ <;> unfold stepP <;> split <;> simp <;> omega
  exact this l (1, 1) (by simp) (by simp)
theorem plc_next {s : List UInt8} {p : Nat} (h : p < s.length) : plc (s.take (p + 1)) = stepP (plc (s.take p)) s[p] := by
  unfold plc
  rw [List.take_succ_eq_append_getElem h, List.foldl_append]
  rfl
theorem plc_grows {s : List UInt8} {i : Nat} : ∀ d, i + d ≤ s.length → (plc (s.take i)).1 < (plc (s.take (i + d))).1 ∨ ((plc (s.take (i + d))).1 = (plc (s.take i)).1 ∧ (plc (s.take (i + d))).2 = (plc (s.take i)).2 + d)
  | 0, _ => .inr ⟨rfl, rfl⟩
  | d + 1, h => by
    have ih := plc_grows (s := s) (i := i) d (by omega)
    rw [show i + (d + 1) = i + d + 1 by omega, plc_next (by omega)]
    unfold stepP
    split
    · left
      rcases ih with h | h <;> simp <;> omega
    · rcases ih with h | h
      · left; exact h
      · right
        simp
        omega
theorem plc_inj {s : List UInt8} {i p : Nat} (hip : i ≤ p) (hp : p ≤ s.length) (h : plc (s.take p) = plc (s.take i)) : p = i := by
  have := plc_grows (s := s) (i := i) (p - i) (by omega)
  rw [show i + (p - i) = p by omega, h] at this
  omega
theorem sgn_len {r : List UInt8} {k : Int} {v n : Nat} (h : sgn r = (0, k, v, n)) : 1 ≤ n ∧ n ≤ r.length := by
  match r, h with
  | [], h => simp [sgn] at h
  | c :: l, h =>
    unfold sgn at h
    simp only at h
    split at h
    · rename_i hal
      have h1 := bodyLen_le (c :: l)
      have h2 : 1 ≤ bodyLen (c :: l) := by rw [bodyLen, if_pos (alpha_body hal)]; omega
      split at h
      · cases h; exact ⟨h2, h1⟩
      · split at h
        · cases h
        · cases h; exact ⟨h2, h1⟩
    · split at h
      · obtain ⟨⟨e, v', n'⟩, hx⟩ : ∃ q, number (c :: l) = q := ⟨_, rfl⟩
        rw [hx] at h
        have h1 := number_len hx
        simp only at h
        split at h
        · rename_i he
          cases h
          exact ⟨h1.2 he, h1.1⟩
        · rename_i he
          cases h
          exact absurd rfl he
      · have h1 := signLen_le (c :: l)
        split at h
        · cases h
        · cases h; exact ⟨by omega, h1.1⟩
theorem past_suf (r : List UInt8) : (past r).2 <:+ r := pastF_suf _ _
theorem lexF_placed (s : List UInt8) : ∀ (f o : Nat) (acc : List Tk) (er : Int) (M : List Tk) (z : Tk), o ≤ s.length → s.length - o < f → lexF s f (s.drop o) acc = (er, M, z) →
    (er = 0 → ∃ M', M = acc ++ M' ∧ Placed s o M' ∧ z = zeroT) ∧ (er ≠ 0 → M = [] ∧ z = ⟨0, [], 0, z.line, z.col⟩ ∧ 1 ≤ z.line ∧ 1 ≤ z.col)
  | 0, o, acc, er, M, z, ho, hf, h => by omega
  | f + 1, o, acc, er, M, z, ho, hf, h => by
    have hsuf := past_suf (s.drop o)
    have hle := hsuf.length_le
    rw [List.length_drop] at hle
    obtain ⟨p, hp, hop⟩ : ∃ p, (past (s.drop o)).2 = s.drop p ∧ (o ≤ p ∧ p ≤ s.length) := by
      have h2 := List.suffix_iff_eq_drop.1 hsuf
      rw [List.drop_drop, List.length_drop] at h2
      exact ⟨_, h2, by omega, by omega⟩
    have hpl : plAt s (s.drop p) = plc (s.take p) := by
      unfold plAt
      rw [List.length_drop, show s.length - (s.length - p) = p by omega]
    have hpos := plc_pos (s.take p)
    cases hok : (past (s.drop o)).1
    · rw [lexF_bad hok, hp, hpl] at h
      cases h
      exact ⟨(fun h => absurd h (by decide)), fun _ => ⟨rfl, rfl, hpos⟩⟩
    · by_cases hend : p = s.length
      · have h0 : (past (s.drop o)).2 = [] := by rw [hp, hend, List.drop_length]
        have hpl2 : plAt s [] = plc (s.take p) := by rw [← hpl, hend, List.drop_length]
        rw [lexF_end hok h0, hpl2] at h
        cases h
        exact ⟨fun _ => ⟨[atP (plc (s.take p))], rfl, (show Placed s o [atP (plc (s.take p))] from ⟨p, hop.1, hop.2, rfl, rfl, by simp [atP]; omega, .inl ⟨rfl, rfl, hend⟩⟩), rfl⟩, fun h => absurd rfl h⟩
      · have h0 : (past (s.drop o)).2 ≠ [] := by
          rw [hp]
          intro e
          have := congrArg List.length e
          rw [List.length_drop] at this
          simp at this
          omega
        obtain ⟨⟨e, k, v, n⟩, hsg⟩ : ∃ q, sgn (s.drop p) = q := ⟨_, rfl⟩
        by_cases he : e = 0
        · subst he
          have hn := sgn_len hsg
          rw [List.length_drop] at hn
          rw [lexF_tok hok h0 (by rw [hp, hsg]), hp, hsg, hpl] at h
          simp only at h
          rw [List.drop_drop] at h
          have ih := lexF_placed s f (p + n) _ er M z (by omega) (by omega) h
          refine ⟨fun h => ?_, ih.2⟩
          obtain ⟨M', h1, h2, h3⟩ := ih.1 h
          refine ⟨⟨k, (s.drop p).take n, v, (plc (s.take p)).1, (plc (s.take p)).2⟩ :: M', by rw [h1, List.append_assoc]; rfl, ⟨p, hop.1, hop.2, rfl, ?_, ?_, .inr (h2.mono (by omega))⟩, h3⟩
          · simp only [List.length_take, List.length_drop]
            rw [Nat.min_eq_left hn.2]
          · simp only [List.length_take, List.length_drop]
            omega
        · rw [lexF_err hok h0 (by rw [hp, hsg]; exact he), hp, hsg, hpl] at h
          cases h
          exact ⟨fun h => absurd h he, fun _ => ⟨rfl, rfl, hpos⟩⟩
theorem lex_placed {s : List UInt8} {er : Int} {M : List Tk} {z : Tk} (h : lex s = (er, M, z)) : (er = 0 → Placed s 0 M ∧ z = zeroT) ∧ (er ≠ 0 → M = [] ∧ z = ⟨0, [], 0, z.line, z.col⟩ ∧ 1 ≤ z.line ∧ 1 ≤ z.col) := by
  unfold lex at h
  split at h
  · cases h
    exact ⟨(fun h => absurd h (by decide)), fun _ => ⟨rfl, rfl, by simp [atP], by simp [atP]⟩⟩
  · have := lexF_placed s (s.length + 1) 0 [] er M z (Nat.zero_le _) (by omega) (by rw [List.drop_zero]; exact h)
    refine ⟨fun he => ?_, this.2⟩
    obtain ⟨M', h1, h2, h3⟩ := this.1 he
    rw [List.nil_append] at h1
    subst h1
    exact ⟨h2, h3⟩
theorem Placed.last {s : List UInt8} : ∀ {M : List Tk} {o : Nat}, Placed s o M → ∃ t, M[M.length - 1]? = some t ∧ t.kind = 0
  | [], o, h => h.elim
  | [t], o, ⟨p, _, _, _, _, _, h⟩ => ⟨t, rfl, h.elim (fun h => h.2.1) (fun h => h.elim)⟩
  | t :: u :: l, o, ⟨p, _, _, _, _, _, h⟩ => by
    rcases h with ⟨h, _⟩ | h
    · cases h
    · obtain ⟨t', h1, h2⟩ := h.last
      exact ⟨t', by simpa using h1, h2⟩
end Go.Proofs.Ythdkkdgjcfjinaa.tk
