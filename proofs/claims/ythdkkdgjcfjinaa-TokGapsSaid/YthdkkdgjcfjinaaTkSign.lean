/- The signs that are no names and no numbers, as the document's function knows them. Condition: the text has at most 20000 bytes. -/
import Derived.Test.YthdkkdgjcfjinaaTkWord
import Derived.Lib.SlBytesConst
namespace Go.Proofs.Ythdkkdgjcfjinaa.tk
open Go.ChangeShapes Go.WideShapes Go.ChangeAt Go.RowKit Go.Proofs.Ythdkkdgjcfjinaa.k Go.Proofs.Ythdkkdgjcfjinaa.rr
set_option linter.unusedVariables false

theorem singles_len : singles.length = 15 := rfl
set_option maxRecDepth 100000 in
set_option maxHeartbeats 4000000 in
theorem sign_any (s : ByteArray) (hs : s.size ≤ 20000) (n : Nat) (hn : n < s.size) (w : World) : Calls Try.prog 22 #[.string s, .int .i64 n] w fun e w' => e = .returned (.int .i64 (signLen (dr s n))) ∧ Below w.heap.size w w' := by
  have TW := Lib.hid fun a b W => two_any s hs n (Nat.le_of_lt hn) a b W
  obtain ⟨t1, ht1⟩ : ∃ t, two (dr s n) 58 61 = t := ⟨_, rfl⟩
  have T1 : Hid (∀ W, Calls Try.prog 26 #[.string s, .int .i64 n, .int .u8 58, .int .u8 61] W fun e w' => e = .returned (.bool t1) ∧ W = w') := Lib.hid fun W => ht1 ▸ TW.out 58 61 W
  obtain ⟨t2, ht2⟩ : ∃ t, two (dr s n) 60 61 = t := ⟨_, rfl⟩
  have T2 : Hid (∀ W, Calls Try.prog 26 #[.string s, .int .i64 n, .int .u8 60, .int .u8 61] W fun e w' => e = .returned (.bool t2) ∧ W = w') := Lib.hid fun W => ht2 ▸ TW.out 60 61 W
  obtain ⟨t3, ht3⟩ : ∃ t, two (dr s n) 62 61 = t := ⟨_, rfl⟩
  have T3 : Hid (∀ W, Calls Try.prog 26 #[.string s, .int .i64 n, .int .u8 62, .int .u8 61] W fun e w' => e = .returned (.bool t3) ∧ W = w') := Lib.hid fun W => ht3 ▸ TW.out 62 61 W
  obtain ⟨t4, ht4⟩ : ∃ t, two (dr s n) 60 62 = t := ⟨_, rfl⟩
  have T4 : Hid (∀ W, Calls Try.prog 26 #[.string s, .int .i64 n, .int .u8 60, .int .u8 62] W fun e w' => e = .returned (.bool t4) ∧ W = w') := Lib.hid fun W => ht4 ▸ TW.out 60 62 W
  obtain ⟨t5, ht5⟩ : ∃ t, two (dr s n) 46 46 = t := ⟨_, rfl⟩
  have T5 : Hid (∀ W, Calls Try.prog 26 #[.string s, .int .i64 n, .int .u8 46, .int .u8 46] W fun e w' => e = .returned (.bool t5) ∧ W = w') := Lib.hid fun W => ht5 ▸ TW.out 46 46 W
  obtain ⟨x, hx⟩ : ∃ x : UInt8, s[n] = x := ⟨_, rfl⟩
  have hd := dr_at hn
  rw [hx] at hd
  have HG : Hid (signLen (dr s n) = if (t1 || (t2 || (t3 || (t4 || t5)))) = true then 2 else if singles.contains x = true then 1 else 0) := Lib.hid (by
    unfold signLen
    rw [ht1, ht2, ht3, ht4, ht5, hd])
  have hz : (n : Int) < s.size := by omega
  clear ht1 ht2 ht3 ht4 ht5 hd TW
  cases t1
  · have _ := hz
    cases t2
    · have _ := hz
      cases t3
      · have _ := hz
        cases t4
        · have _ := hz
          cases t5
          · have _ := hz
            obtain ⟨W1, hW1⟩ : ∃ W, W = w.alloc (.cells (singles.map fun c => .int .u8 c.toNat).toArray 5 (15, 16)) := ⟨_, rfl⟩
            have HC := Lib.hid fun (k : Nat) (c : UInt8) (h : singles[k]? = some c) => (show W1.cell? ⟨w.heap.size, k, none⟩ = some (.int .u8 c.toNat) by
              rw [hW1, World.cell?_alloc_mark]
              simp [h])
            have HB : Hid (Below w.heap.size w W1) := Lib.hid (hW1 ▸ (Below.refl _ _).alloc (Nat.le_refl _) _)
            have HW := Lib.hid hW1
            have qc := Lib.run_convert_bytes_const (P := Try.prog) w 33 5 #[.int .u8 43, .int .u8 45, .int .u8 42, .int .u8 47, .int .u8 40, .int .u8 41, .int .u8 91, .int .u8 93, .int .u8 46, .int .u8 44, .int .u8 59, .int .u8 58, .int .u8 60, .int .u8 62, .int .u8 61] 15 15 Try.underlying33 Try.underlying5
            clear hW1
            go_enter Try.func22, Try.ntmps22
            go_upto_region 4 with (first | (go_at_call 26; (with_reducible refine (T1.out _).mono ?_); rintro e w1 ⟨rfl, rfl⟩) | (go_at_call 26; (with_reducible refine (T2.out _).mono ?_); rintro e w1 ⟨rfl, rfl⟩) | (go_at_call 26; (with_reducible refine (T3.out _).mono ?_); rintro e w1 ⟨rfl, rfl⟩) | (go_at_call 26; (with_reducible refine (T4.out _).mono ?_); rintro e w1 ⟨rfl, rfl⟩) | (go_at_call 26; (with_reducible refine (T5.out _).mono ?_); rintro e w1 ⟨rfl, rfl⟩))
            go_loopw [33] (fun s33 wr => ∃ k : Nat, k ≤ 15 ∧ s33 = .int .i64 k ∧ (singles.drop k).contains x = singles.contains x ∧ W1 = wr) (fun i _ => 15 - (intOf i).toNat)
            case atStart => exact ⟨0, by omega, rfl, rfl, HW.out⟩
            case round =>
              obtain ⟨k, hk, rfl, hm, rfl⟩ := hrel
              by_cases hlt : k < 15
              · obtain ⟨c, hl⟩ : ∃ c, singles[k]? = some c := ⟨_, List.getElem?_eq_getElem (by rw [singles_len]; exact hlt)⟩
                have hc := HC.out k c hl
                have hd : singles.drop k = c :: singles.drop (k + 1) := by
                  obtain ⟨h1, h2⟩ := List.getElem?_eq_some_iff.1 hl
                  rw [List.drop_eq_getElem_cons h1, h2]
                rw [hd, List.contains_cons] at hm
                have he := eq8 c x
                rw [show (c == x) = (x == c) by rw [Bool.eq_iff_iff, beq_iff_eq, beq_iff_eq]; exact eq_comm] at he
                have hz2 : (k : Int) < 15 := by omega
                have w1 : IntKind.i64.wrap ((k : Int) + 1) = k + 1 := by rw [IntKind.wrap_i64]; omega
                obtain ⟨b, hb⟩ : ∃ b, (x == c) = b := ⟨_, rfl⟩
                rw [hb] at hm he
                clear hl hd hb
                cases b
                · have HN := Lib.hid hm
                  clear hm
                  go_wp2_with fail
                  go_roundw
                  case rel => exact ⟨k + 1, by omega, by go_num, by have := HN.out; simpa using this, trivial⟩
                  case measure => simp [intOf]; omega
                · have HN := Lib.hid hm
                  clear hm
                  go_wp2_with fail
                  go_ret
                  refine ⟨?_, HB.out⟩
                  rw [HG.out, ← HN.out]
                  rfl
              · have : k = 15 := by omega
                subst this
                have HN := Lib.hid hm
                clear hm
                go_wp2_with fail
                go_ret
                refine ⟨?_, HB.out⟩
                rw [HG.out, ← HN.out]
                rfl
          · have _ := hz
            go_enter Try.func22, Try.ntmps22
            go_wp2_with (first | (go_at_call 26; (with_reducible refine (T1.out _).mono ?_); rintro e w1 ⟨rfl, rfl⟩) | (go_at_call 26; (with_reducible refine (T2.out _).mono ?_); rintro e w1 ⟨rfl, rfl⟩) | (go_at_call 26; (with_reducible refine (T3.out _).mono ?_); rintro e w1 ⟨rfl, rfl⟩) | (go_at_call 26; (with_reducible refine (T4.out _).mono ?_); rintro e w1 ⟨rfl, rfl⟩) | (go_at_call 26; (with_reducible refine (T5.out _).mono ?_); rintro e w1 ⟨rfl, rfl⟩))
            go_ret
            exact ⟨by rw [HG.out]; rfl, Below.refl _ _⟩
        · have _ := hz
          go_enter Try.func22, Try.ntmps22
          go_wp2_with (first | (go_at_call 26; (with_reducible refine (T1.out _).mono ?_); rintro e w1 ⟨rfl, rfl⟩) | (go_at_call 26; (with_reducible refine (T2.out _).mono ?_); rintro e w1 ⟨rfl, rfl⟩) | (go_at_call 26; (with_reducible refine (T3.out _).mono ?_); rintro e w1 ⟨rfl, rfl⟩) | (go_at_call 26; (with_reducible refine (T4.out _).mono ?_); rintro e w1 ⟨rfl, rfl⟩) | (go_at_call 26; (with_reducible refine (T5.out _).mono ?_); rintro e w1 ⟨rfl, rfl⟩))
          go_ret
          exact ⟨by rw [HG.out]; rfl, Below.refl _ _⟩
      · have _ := hz
        go_enter Try.func22, Try.ntmps22
        go_wp2_with (first | (go_at_call 26; (with_reducible refine (T1.out _).mono ?_); rintro e w1 ⟨rfl, rfl⟩) | (go_at_call 26; (with_reducible refine (T2.out _).mono ?_); rintro e w1 ⟨rfl, rfl⟩) | (go_at_call 26; (with_reducible refine (T3.out _).mono ?_); rintro e w1 ⟨rfl, rfl⟩) | (go_at_call 26; (with_reducible refine (T4.out _).mono ?_); rintro e w1 ⟨rfl, rfl⟩) | (go_at_call 26; (with_reducible refine (T5.out _).mono ?_); rintro e w1 ⟨rfl, rfl⟩))
        go_ret
        exact ⟨by rw [HG.out]; rfl, Below.refl _ _⟩
    · have _ := hz
      go_enter Try.func22, Try.ntmps22
      go_wp2_with (first | (go_at_call 26; (with_reducible refine (T1.out _).mono ?_); rintro e w1 ⟨rfl, rfl⟩) | (go_at_call 26; (with_reducible refine (T2.out _).mono ?_); rintro e w1 ⟨rfl, rfl⟩) | (go_at_call 26; (with_reducible refine (T3.out _).mono ?_); rintro e w1 ⟨rfl, rfl⟩) | (go_at_call 26; (with_reducible refine (T4.out _).mono ?_); rintro e w1 ⟨rfl, rfl⟩) | (go_at_call 26; (with_reducible refine (T5.out _).mono ?_); rintro e w1 ⟨rfl, rfl⟩))
      go_ret
      exact ⟨by rw [HG.out]; rfl, Below.refl _ _⟩
  · have _ := hz
    go_enter Try.func22, Try.ntmps22
    go_wp2_with (first | (go_at_call 26; (with_reducible refine (T1.out _).mono ?_); rintro e w1 ⟨rfl, rfl⟩) | (go_at_call 26; (with_reducible refine (T2.out _).mono ?_); rintro e w1 ⟨rfl, rfl⟩) | (go_at_call 26; (with_reducible refine (T3.out _).mono ?_); rintro e w1 ⟨rfl, rfl⟩) | (go_at_call 26; (with_reducible refine (T4.out _).mono ?_); rintro e w1 ⟨rfl, rfl⟩) | (go_at_call 26; (with_reducible refine (T5.out _).mono ?_); rintro e w1 ⟨rfl, rfl⟩))
    go_ret
    exact ⟨by rw [HG.out]; rfl, Below.refl _ _⟩
end Go.Proofs.Ythdkkdgjcfjinaa.tk
