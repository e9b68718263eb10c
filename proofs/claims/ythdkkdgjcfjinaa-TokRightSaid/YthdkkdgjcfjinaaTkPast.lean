/- What parts signs, as the document's function passes it. Condition: the text has at most 20000 bytes. -/
import Derived.Test.YthdkkdgjcfjinaaTkPlace
namespace Go.Proofs.Ythdkkdgjcfjinaa.tk
open Go.ChangeShapes Go.WideShapes Go.ChangeAt Go.RowKit Go.Proofs.Ythdkkdgjcfjinaa.k Go.Proofs.Ythdkkdgjcfjinaa.rr
set_option linter.unusedVariables false

theorem lineRest_suf : ∀ (l : List UInt8), lineRest l <:+ l
  | [] => List.suffix_refl _
  | c :: l => by
    rw [lineRest]
    split
    · exact List.suffix_refl _
    · exact (lineRest_suf l).trans (List.suffix_cons c l)
theorem endRest_suf : ∀ (l r : List UInt8), endRest l = some r → r <:+ l
  | [], r, h => by cases h
  | c :: l, r, h => by
    rw [endRest] at h
    split at h
    · cases h
      exact (List.drop_suffix 1 l).trans (List.suffix_cons c l)
    · exact (endRest_suf l r h).trans (List.suffix_cons c l)
theorem pastF_suf : ∀ (f : Nat) (r : List UInt8), (pastF f r).2 <:+ r
  | 0, r => List.suffix_refl _
  | f + 1, [] => List.suffix_refl _
  | f + 1, c :: l => by
    rw [pastF]
    split
    · exact (pastF_suf f l).trans (List.suffix_cons c l)
    · split
      · exact ((pastF_suf f _).trans (lineRest_suf l)).trans (List.suffix_cons c l)
      · split
        · split
          · rename_i r h
            exact (((pastF_suf f r).trans (endRest_suf _ _ h)).trans (List.drop_suffix 1 l)).trans (List.suffix_cons c l)
          · exact List.suffix_refl _
        · exact List.suffix_refl _
/-- where it ends -/
def pastN (s : ByteArray) (n : Nat) : Nat := s.size - (past (dr s n)).2.length
theorem suf_dr {s : ByteArray} {n : Nat} {r : List UInt8} (h : r <:+ dr s n) (hn : n ≤ s.size) : r = dr s (s.size - r.length) ∧ n ≤ s.size - r.length ∧ s.size - r.length ≤ s.size := by
  have hl := h.length_le
  rw [dr_len] at hl
  refine ⟨?_, by omega, by omega⟩
  have h2 := List.suffix_iff_eq_drop.1 h
  rw [dr_len, dr_drop, show n + (s.size - n - r.length) = s.size - r.length by omega] at h2
  exact h2
theorem pastN_dr {s : ByteArray} {n : Nat} (hn : n ≤ s.size) : (past (dr s n)).2 = dr s (pastN s n) ∧ n ≤ pastN s n ∧ pastN s n ≤ s.size := suf_dr (pastF_suf _ _) hn
theorem two_len {s : ByteArray} {n : Nat} {a b : UInt8} (h : two (dr s n) a b = true) : n + 1 < s.size := by
  have hl := dr_len s n
  match dr s n, hl, h with
  | [], _, h => cases h
  | [_], _, h => cases h
  | _ :: _ :: l, hl, _ => simp at hl; omega
theorem eq8n (x : UInt8) (m : Nat) (hm : m < 256) : ((x.toNat : Int) == (m : Int)) = (x == UInt8.ofNat m) := u8_eq x m hm
set_option maxRecDepth 100000 in
set_option maxHeartbeats 4000000 in
theorem past_any (s : ByteArray) (hs : s.size ≤ 20000) (n : Nat) (hn : n ≤ s.size) (w : World) : Calls Try.prog 16 #[.string s, .int .i64 n] w fun e w' => e = .returned (.tuple #[.int .i64 (pastN s n), .bool (past (dr s n)).1]) ∧ w = w' := by
  have TW := Lib.hid fun m h a b W => two_any s hs m h a b W
  have HS := Lib.hid hs
  obtain ⟨R, hR⟩ : ∃ R, past (dr s n) = R := ⟨_, rfl⟩
  have FIN := Lib.hid fun (a : Nat) (ha : a ≤ s.size) (b : Bool) (h : R = (b, dr s a)) => (show pastN s n = a ∧ (past (dr s n)).1 = b by
    unfold pastN
    rw [hR, h]
    simp [dr_len]
    omega)
  have HR := Lib.hid (show pastF ((dr s n).length + 1) (dr s n) = R from hR)
  clear hs hR
  go_enter Try.func16, Try.ntmps16
  go_wp2_with fail
  go_loopw [1] (fun s1 wr => ∃ (a f : Nat), a ≤ s.size ∧ s1 = .int .i64 a ∧ (dr s a).length < f ∧ pastF f (dr s a) = R ∧ w = wr) (fun i _ => s.size - (intOf i).toNat)
  case atStart => exact ⟨n, _, hn, rfl, Nat.lt_succ_self _, HR.out, rfl⟩
  case round =>
    obtain ⟨a, f, ha, rfl, hf, hp, rfl⟩ := hrel
    have HS1 := HS.out
    by_cases hlt : a < s.size
    · obtain ⟨x, hx⟩ : ∃ x : UInt8, s[a] = x := ⟨_, rfl⟩
      have hd := dr_at hlt
      rw [hx] at hd
      obtain ⟨f, rfl⟩ : ∃ f0, f = f0 + 1 := ⟨f - 1, by omega⟩
      rw [dr_len] at hf
      have hz : (a : Int) < s.size := by omega
      have w1 : IntKind.i64.wrap ((a : Int) + 1) = a + 1 := by rw [IntKind.wrap_i64]; omega
      have w2 : IntKind.i64.wrap ((a : Int) + 2) = a + 2 := by rw [IntKind.wrap_i64]; omega
      have e1 := eq8n x 32 (by omega)
      have e2 := eq8n x 10 (by omega)
      have e3 := eq8n x 9 (by omega)
      rw [show (UInt8.ofNat 32) = 32 from rfl, show ((32 : Nat) : Int) = 32 from rfl] at e1
      rw [show (UInt8.ofNat 10) = 10 from rfl, show ((10 : Nat) : Int) = 10 from rfl] at e2
      rw [show (UInt8.ofNat 9) = 9 from rfl, show ((9 : Nat) : Int) = 9 from rfl] at e3
      by_cases hbl : x = 32 ∨ x = 10 ∨ x = 9
      · have HN : Hid (pastF f (dr s (a + 1)) = R) := Lib.hid (by rw [← hp, hd, pastF, if_pos hbl])
        clear hp hd
        rcases hbl with rfl | rfl | rfl
        all_goals
          simp at e1 e2 e3
          go_wp2_with fail
          go_roundw
          case rel => exact ⟨a + 1, f, by omega, by go_num, by rw [dr_len]; omega, HN.out, trivial⟩
          case measure => simp [intOf]; omega
      · rw [hd, pastF, if_neg hbl, ← hd] at hp
        have b1 : (x == 32) = false := by rw [beq_eq_false_iff_ne]; exact fun h => hbl (.inl h)
        have b2 : (x == 10) = false := by rw [beq_eq_false_iff_ne]; exact fun h => hbl (.inr (.inl h))
        have b3 : (x == 9) = false := by rw [beq_eq_false_iff_ne]; exact fun h => hbl (.inr (.inr h))
        rw [b1] at e1
        rw [b2] at e2
        rw [b3] at e3
        obtain ⟨t1, ht1⟩ : ∃ t, two (dr s a) 47 47 = t := ⟨_, rfl⟩
        obtain ⟨t2, ht2⟩ : ∃ t, two (dr s a) 40 42 = t := ⟨_, rfl⟩
        rw [ht1, ht2] at hp
        have T1 : Hid (∀ W, Calls Try.prog 26 #[.string s, .int .i64 a, .int .u8 47, .int .u8 47] W fun e w' => e = .returned (.bool t1) ∧ W = w') := Lib.hid fun W => ht1 ▸ TW.out a ha 47 47 W
        have T2 : Hid (∀ W, Calls Try.prog 26 #[.string s, .int .i64 a, .int .u8 40, .int .u8 42] W fun e w' => e = .returned (.bool t2) ∧ W = w') := Lib.hid fun W => ht2 ▸ TW.out a ha 40 42 W
        have HX := Lib.hid b2
        clear b1 b2 b3 hbl
        cases t1
        · rw [if_neg (by simp)] at hp
          cases t2
          · rw [if_neg (by simp)] at hp
            have ⟨g1, g2⟩ := FIN.out a ha true hp.symm
            have G1 := Lib.hid g1
            have G2 := Lib.hid g2
            clear hp hd g1 g2 ht1 ht2
            go_wp2_with (first | (go_at_call 26; (with_reducible refine (T1.out _).mono ?_); rintro e w1 ⟨rfl, rfl⟩) | (go_at_call 26; (with_reducible refine (T2.out _).mono ?_); rintro e w1 ⟨rfl, rfl⟩))
            go_ret2
            exact ⟨by rw [G1.out, G2.out]; rfl, rfl⟩
          · rw [if_pos rfl, dr_drop] at hp
            have h2 := two_len ht2
            obtain ⟨ER, hER⟩ : ∃ ER, endRest (dr s (a + 1 + 1)) = ER := ⟨_, rfl⟩
            rw [hER] at hp
            have HE := Lib.hid hER
            have HN := Lib.hid hp
            clear hp hd ht1 ht2 hER
            go_wp2_with (first | (go_at_call 26; (with_reducible refine (T1.out _).mono ?_); rintro e w1 ⟨rfl, rfl⟩) | (go_at_call 26; (with_reducible refine (T2.out _).mono ?_); rintro e w1 ⟨rfl, rfl⟩))
            go_loopw [6] (fun s6 wr => ∃ b : Nat, a + 2 ≤ b ∧ b ≤ s.size ∧ s6 = .int .i64 b ∧ endRest (dr s b) = ER ∧ w = wr) (fun i _ => s.size - (intOf i).toNat)
            case atStart => exact ⟨a + 2, Nat.le_refl _, by omega, rfl, HE.out, rfl⟩
            case round =>
              obtain ⟨b, hab, hb, rfl, hl, rfl⟩ := hrel
              clear hx e1 e2 e3 w1 w2 hz T1 T2
              by_cases hlb : b < s.size
              · have hdb := dr_at hlb
                have hz : (b : Int) < s.size := by omega
                have hz2 : ¬ ((s.size : Int) ≤ b) := by omega
                have w1 : IntKind.i64.wrap ((b : Int) + 1) = b + 1 := by rw [IntKind.wrap_i64]; omega
                have w2 : IntKind.i64.wrap ((b : Int) + 2) = b + 2 := by rw [IntKind.wrap_i64]; omega
                obtain ⟨t3, ht3⟩ : ∃ t, two (dr s b) 42 41 = t := ⟨_, rfl⟩
                have T3 : Hid (∀ W, Calls Try.prog 26 #[.string s, .int .i64 b, .int .u8 42, .int .u8 41] W fun e w' => e = .returned (.bool t3) ∧ W = w') := Lib.hid fun W => ht3 ▸ TW.out b hb 42 41 W
                rw [hdb, endRest, ← hdb, ht3] at hl
                cases t3
                · rw [if_neg (by simp)] at hl
                  have HD := Lib.hid hl
                  clear hl hdb ht3
                  go_wp2_with (go_at_call 26; (with_reducible refine (T3.out _).mono ?_); rintro e w1 ⟨rfl, rfl⟩)
                  go_roundw
                  case rel => exact ⟨b + 1, by omega, by omega, by go_num, HD.out, trivial⟩
                  case measure => simp [intOf]; omega
                · rw [if_pos rfl, dr_drop] at hl
                  have h3 := two_len ht3
                  have HD := Lib.hid hl
                  clear hl hdb ht3
                  go_wp2_with (go_at_call 26; (with_reducible refine (T3.out _).mono ?_); rintro e w1 ⟨rfl, rfl⟩)
                  go_roundw
                  case rel =>
                    have hN := HN.out
                    rw [← HD.out] at hN
                    exact ⟨b + 2, f, by omega, by go_num, by rw [dr_len]; omega, hN, trivial⟩
                  case measure => simp [intOf]; omega
              · have hbe : b = s.size := by omega
                subst hbe
                have hz : ¬ ((s.size : Int) < s.size) := by omega
                have hE : ER = none := by rw [← hl, dr_end (Nat.le_refl _)]; rfl
                have hN := HN.out
                rw [hE] at hN
                have ⟨g1, g2⟩ := FIN.out a ha false hN.symm
                have G1 := Lib.hid g1
                have G2 := Lib.hid g2
                clear hl hE hN g1 g2
                go_wp2_with fail
                go_ret2
                exact ⟨by rw [G1.out, G2.out]; rfl, rfl⟩
        · rw [if_pos rfl] at hp
          have hx10 : x ≠ 10 := by have := HX.out; rw [beq_eq_false_iff_ne] at this; exact this
          have HL : Hid (lineRest (dr s a) = lineRest (dr s (a + 1))) := Lib.hid (by rw [hd, lineRest, if_neg hx10])
          have HN := Lib.hid hp
          have HXA := Lib.hid (show ∀ b, (h : b < s.size) → s[b] = 10 → b ≠ a from fun b h h2 e => by subst e; exact hx10 (hx.symm.trans h2))
          generalize lineRest (dr s (a + 1)) = LR at HL HN
          clear hp hd ht1 ht2 hx10 T2
          go_wp2_with (go_at_call 26; (with_reducible refine (T1.out _).mono ?_); rintro e w1 ⟨rfl, rfl⟩)
          go_loopw [1] (fun s1 wr => ∃ b : Nat, a ≤ b ∧ b ≤ s.size ∧ s1 = .int .i64 b ∧ lineRest (dr s b) = LR ∧ w = wr) (fun i _ => s.size - (intOf i).toNat)
          case atStart => exact ⟨a, Nat.le_refl _, ha, rfl, HL.out, rfl⟩
          case round =>
            obtain ⟨b, hab, hb, rfl, hl, rfl⟩ := hrel
            clear hx e1 e2 e3 w1 w2 hz T1
            by_cases hlb : b < s.size
            · obtain ⟨y, hy⟩ : ∃ y : UInt8, s[b] = y := ⟨_, rfl⟩
              have hdb := dr_at hlb
              rw [hy] at hdb
              have hz : (b : Int) < s.size := by omega
              have w1 : IntKind.i64.wrap ((b : Int) + 1) = b + 1 := by rw [IntKind.wrap_i64]; omega
              have e2 := eq8n y 10 (by omega)
              rw [show (UInt8.ofNat 10) = 10 from rfl, show ((10 : Nat) : Int) = 10 from rfl] at e2
              by_cases h10 : y = 10
              · have hne := HXA.out b hlb (hy.trans h10)
                rw [hdb, lineRest, if_pos h10, ← hdb] at hl
                have HD := Lib.hid hl
                have e4 : ((y.toNat : Int) == 10) = true := by rw [e2, beq_iff_eq]; exact h10
                clear hl hdb e2 h10
                go_wp2_with fail
                go_roundw
                case rel => exact ⟨b, f, hb, rfl, by rw [dr_len]; omega, by rw [HD.out]; exact HN.out, trivial⟩
                case measure => simp [intOf]; omega
              · rw [hdb, lineRest, if_neg h10] at hl
                have HD := Lib.hid hl
                have e4 : ((y.toNat : Int) == 10) = false := by rw [e2, beq_eq_false_iff_ne]; exact h10
                clear hl hdb e2 h10
                go_wp2_with fail
                go_roundw
                case rel => exact ⟨b + 1, by omega, by omega, by go_num, HD.out, trivial⟩
                case measure => simp [intOf]; omega
            · have hbe : b = s.size := by omega
              subst hbe
              have hz : ¬ ((s.size : Int) < s.size) := by omega
              have HD := Lib.hid hl
              clear hl
              go_wp2_with fail
              go_roundw
              case rel => exact ⟨s.size, f, Nat.le_refl _, rfl, by rw [dr_len]; omega, by rw [dr_end (Nat.le_refl _)]; have := HD.out; rw [dr_end (Nat.le_refl _)] at this; rw [show LR = [] from this.symm] at HN; exact HN.out, trivial⟩
              case measure => simp [intOf]; omega
    · have : a = s.size := by omega
      subst this
      have hz : ¬ ((s.size : Int) < s.size) := by omega
      have ⟨g1, g2⟩ := FIN.out s.size (Nat.le_refl _) true (by
        rw [← hp, dr_end (Nat.le_refl _)]
        cases f with
        | zero => omega
        | succ f => rfl)
      have G1 := Lib.hid g1
      have G2 := Lib.hid g2
      clear hp g1 g2
      go_wp2_with fail
      go_ret2
      exact ⟨by rw [G1.out, G2.out]; rfl, rfl⟩
end Go.Proofs.Ythdkkdgjcfjinaa.tk
