/- A number's text and its sign: digits of a base, one behind the other. No condition but what each line says. -/
import Derived.Test.YthdkkdgjcfjinaaTkPlaced
namespace Go.Proofs.Ythdkkdgjcfjinaa.tk
open Go.ChangeShapes Go.WideShapes Go.ChangeAt Go.RowKit Go.Proofs.Ythdkkdgjcfjinaa.k Go.Proofs.Ythdkkdgjcfjinaa.rr
set_option linter.unusedVariables false

/-- a digit's byte -/
def dc (d : Nat) : UInt8 := UInt8.ofNat (if d < 10 then 48 + d else 55 + d)
theorem dc_all : (List.range 16).all (fun d => (digV (dc d) == d) && (bodyB (dc d) && ((((⟨#[48, 49, 50, 51, 52, 53, 54, 55, 56, 57, 65, 66, 67, 68, 69, 70]⟩ : ByteArray).extract d (d + 1)).data == #[dc d])))) = true := by kernel_rfl
theorem dc_at {d : Nat} (h : d < 16) : digV (dc d) = d ∧ (⟨#[48, 49, 50, 51, 52, 53, 54, 55, 56, 57, 65, 66, 67, 68, 69, 70]⟩ : ByteArray).extract d (d + 1) = ⟨#[dc d]⟩ := by
  have h1 := List.all_eq_true.1 dc_all d (List.mem_range.2 h)
  rw [Bool.and_eq_true, Bool.and_eq_true, beq_iff_eq, beq_iff_eq] at h1
  exact ⟨h1.1, ByteArray.ext h1.2.2⟩
theorem digs_map {b : Nat} (hb : b ≤ 16) : ∀ {ds : List Nat}, (∀ d ∈ ds, d < b) → digs b (ds.map dc) = ds
  | [], _ => rfl
  | d :: ds, h => by
    have hd := h d (by simp)
    have hv := (dc_at (show d < 16 by omega)).1
    rw [List.map_cons, digs_yes (by rw [hv]; exact hd), hv, digs_map hb (fun e he => h e (by simp [he]))]
theorem val_from (b : Nat) : ∀ (ds : List Nat) (a : Nat), ds.foldl (fun n d => n * b + d) a = a * b ^ ds.length + val b ds
  | [], a => by simp [val]
  | d :: ds, a => by
    rw [List.foldl_cons, val_from b ds, List.length_cons, Nat.pow_succ]
    show (a * b + d) * b ^ ds.length + val b ds = a * (b ^ ds.length * b) + val b (d :: ds)
    unfold val
    rw [List.foldl_cons, val_from b ds (0 * b + d), Nat.zero_mul, Nat.zero_add, Nat.add_mul, Nat.mul_assoc, Nat.mul_comm b]
    show _ = a * (b ^ ds.length * b) + (d * b ^ ds.length + val b ds)
    unfold val
    omega
theorem val_cons (b d : Nat) (ds : List Nat) : val b (d :: ds) = d * b ^ ds.length + val b ds := by
  have := val_from b ds (0 * b + d)
  rw [Nat.zero_mul, Nat.zero_add] at this
  unfold val at *
  rw [List.foldl_cons, Nat.zero_mul, Nat.zero_add]
  exact this
/-- one digit more at the front -/
theorem val_step {b m x : Nat} {ds : List Nat} (h : m * b ^ ds.length + val b ds = x) : m / b * b ^ (m % b :: ds).length + val b (m % b :: ds) = x := by
  rw [val_cons, List.length_cons, Nat.pow_succ, ← Nat.add_assoc, ← h]
  congr 1
  rw [Nat.mul_comm (b ^ ds.length) b, ← Nat.mul_assoc, ← Nat.add_mul]
  congr 1
  rw [Nat.mul_comm]
  exact Nat.div_add_mod m b
theorem past_id {c : UInt8} {l : List UInt8} (h : numB c = true) : past (c :: l) = (true, c :: l) := by
  have hn := num_byte h
  have hne : ∀ n : Nat, n < 48 → c ≠ UInt8.ofNat n := fun n hn2 e => by
    rw [e, UInt8.toNat_ofNat'] at hn
    omega
  have h0 : ¬ (c = 32 ∨ c = 10 ∨ c = 9) := by
    rintro (h | h | h)
    · exact hne 32 (by omega) h
    · exact hne 10 (by omega) h
    · exact hne 9 (by omega) h
  have htwo : ∀ a b : UInt8, c ≠ a → two (c :: l) a b = false := fun a b h => by
    cases l with
    | nil => rfl
    | cons y l =>
      rw [two_cons, show (c == a) = false by rw [beq_eq_false_iff_ne]; exact h]
      rfl
  unfold past
  rw [List.length_cons, pastF, if_neg h0, htwo 47 47 (hne 47 (by omega)), htwo 40 42 (hne 40 (by omega))]
  simp
theorem num_alpha {c : UInt8} (h : numB c = true) : alphaB c = false := by
  have h1 := (numB_iff c).1 h
  cases ha : alphaB c
  · rfl
  · have := (alphaB_iff c).1 ha
    omega
theorem lex_num {s : List UInt8} {c : UInt8} {l : List UInt8} {b h : Nat} {D : List Nat} (hs : s = c :: l) (hc : numB c = true) (hb : baseOf s = (b, h)) (hD : digs b (s.drop h) = D) (hl : h + D.length = s.length) (hne : D ≠ []) (hsz : s.length ≤ 16384) :
    lex s = if 9223372036854775807 < val b D then (2, [], atP (plc [])) else (0, [⟨3, s, val b D, (plc []).1, (plc []).2⟩, atP (plc s)], zeroT) := by
  have hpast : past s = (true, s) := by rw [hs]; exact past_id hc
  have hnum := num_eq s b h D hb hD
  rw [hl, List.drop_length] at hnum
  have hemp : D.isEmpty = false := by cases D with
    | nil => exact absurd rfl hne
    | cons _ _ => rfl
  rw [hemp, show (false || stuck []) = false from rfl, if_neg (by simp)] at hnum
  have hpl : plAt s s = plc [] := by unfold plAt; rw [Nat.sub_self, List.take_zero]
  have hpe : plAt s [] = plc s := by unfold plAt; rw [List.length_nil, Nat.sub_zero, List.take_length]
  have hns : s ≠ [] := by rw [hs]; simp
  unfold lex
  rw [if_neg (by omega)]
  by_cases hv : 9223372036854775807 < val b D
  · rw [if_pos hv] at hnum ⊢
    have hsg : sgn s = (2, 0, 0, 0) := by rw [hs] at hnum ⊢; exact sgn_nume (num_alpha hc) hc hnum (by decide)
    rw [lexF_err (by rw [hpast]) (by rw [hpast]; exact hns) (by rw [hpast, hsg]; decide), hpast, hsg, hpl]
  · rw [if_neg hv] at hnum ⊢
    have hsg : sgn s = (0, 3, val b D, s.length) := by rw [hs] at hnum ⊢; exact sgn_num (num_alpha hc) hc hnum
    have hl1 : 1 ≤ s.length := by rw [hs]; simp
    obtain ⟨f, hf⟩ : ∃ f, s.length = f + 1 := ⟨s.length - 1, by omega⟩
    rw [lexF_tok (by rw [hpast]) (by rw [hpast]; exact hns) (by rw [hpast, hsg]), hpast, hsg, hpl]
    simp only [List.drop_length, List.take_length, List.nil_append]
    rw [hf, lexF_end (by rfl) (by rfl), hpe]
    rfl
end Go.Proofs.Ythdkkdgjcfjinaa.tk
