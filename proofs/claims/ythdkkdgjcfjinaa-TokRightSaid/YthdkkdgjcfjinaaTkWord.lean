/- The words, as the document's function knows them. No condition. -/
import Derived.Test.YthdkkdgjcfjinaaTkPast
namespace Go.Proofs.Ythdkkdgjcfjinaa.tk
open Go.ChangeShapes Go.WideShapes Go.ChangeAt Go.RowKit Go.Proofs.Ythdkkdgjcfjinaa.k Go.Proofs.Ythdkkdgjcfjinaa.rr
set_option linter.unusedVariables false

theorem bytes_beq (l : List UInt8) (s : ByteArray) : ((⟨l.toArray⟩ : ByteArray).toList == s.toList) = (l == s.data.toList) := by
  rw [ByteArray.toList_eq, ByteArray.toList_eq]
theorem words_len : words.length = 36 := rfl
set_option maxRecDepth 100000 in
set_option maxHeartbeats 4000000 in
theorem word_any (s : ByteArray) (w : World) : Calls Try.prog 12 #[.string s] w fun e w' => e = .returned (.bool (isWord s.data.toList)) ∧ Below w.heap.size w w' := by
  obtain ⟨W1, hW1⟩ : ∃ W, W = w.alloc (.cells (words.map fun l => .string ⟨l.toArray⟩).toArray 9) := ⟨_, rfl⟩
  have HC := Lib.hid fun (k : Nat) (l : List UInt8) (h : words[k]? = some l) => (show W1.cell? ⟨w.heap.size, k, none⟩ = some (.string ⟨l.toArray⟩) by
    rw [hW1, World.cell?_alloc_mark]
    simp [h])
  have HB : Hid (Below w.heap.size w W1) := Lib.hid (hW1 ▸ (Below.refl _ _).alloc (Nat.le_refl _) _)
  have HW := Lib.hid hW1
  have HL := Lib.hid words_len
  have HE := Lib.hid fun l => bytes_beq l s
  clear hW1
  go_enter Try.func12, Try.ntmps12
  go_upto_region 2 with (fail)
  go_loopw [7] (fun s7 wr => ∃ k : Nat, k ≤ 36 ∧ s7 = .int .i64 k ∧ (words.drop k).any (fun l => l == s.data.toList) = isWord s.data.toList ∧ W1 = wr) (fun i _ => 36 - (intOf i).toNat)
  case atStart => exact ⟨0, by omega, rfl, rfl, HW.out⟩
  case round =>
    obtain ⟨k, hk, rfl, hn, rfl⟩ := hrel
    by_cases hlt : k < 36
    · obtain ⟨l, hl⟩ : ∃ l, words[k]? = some l := ⟨_, List.getElem?_eq_getElem (by rw [words_len]; exact hlt)⟩
      have hc := HC.out k l hl
      have hd : words.drop k = l :: words.drop (k + 1) := by
        obtain ⟨h1, h2⟩ := List.getElem?_eq_some_iff.1 hl
        rw [List.drop_eq_getElem_cons h1, h2]
      rw [hd, List.any_cons] at hn
      have he := HE.out l
      have hz : (k : Int) < 36 := by omega
      have w1 : IntKind.i64.wrap ((k : Int) + 1) = k + 1 := by rw [IntKind.wrap_i64]; omega
      obtain ⟨b, hb⟩ : ∃ b, (l == s.data.toList) = b := ⟨_, rfl⟩
      rw [hb] at hn he
      clear hl hd hb
      generalize (⟨l.toArray⟩ : ByteArray) = t at *
      cases b
      · have HN := Lib.hid hn
        clear hn
        go_wp2_with fail
        go_roundw
        case rel => exact ⟨k + 1, by omega, by go_num, by have := HN.out; simpa using this, trivial⟩
        case measure => simp [intOf]; omega
      · have HN := Lib.hid hn
        clear hn
        go_wp2_with fail
        go_ret
        exact ⟨ret_bool (by have := HN.out; simpa using this), HB.out⟩
    · have : k = 36 := by omega
      subst this
      have HN := Lib.hid hn
      clear hn
      go_wp2_with fail
      go_ret
      exact ⟨ret_bool HN.out, HB.out⟩
end Go.Proofs.Ythdkkdgjcfjinaa.tk
