/- The place of a byte, as the document's function tells it. Condition: the text has at most 20000 bytes. -/
import Derived.Test.YthdkkdgjcfjinaaTkTwo
namespace Go.Proofs.Ythdkkdgjcfjinaa.tk
open Go.ChangeShapes Go.WideShapes Go.ChangeAt Go.RowKit Go.Proofs.Ythdkkdgjcfjinaa.k Go.Proofs.Ythdkkdgjcfjinaa.rr
set_option linter.unusedVariables false

theorem foldl_le : ∀ (l : List UInt8) (p : Nat × Nat), (l.foldl stepP p).1 ≤ l.length + p.1 ∧ (l.foldl stepP p).2 ≤ l.length + max p.2 1 ∧ p.1 ≤ (l.foldl stepP p).1
  | [], p => ⟨by simp, by simp; omega, by simp⟩
  | c :: l, p => by
    have h := foldl_le l (stepP p c)
    rw [List.foldl_cons, List.length_cons]
    unfold stepP at *
    split at h <;> simp at h ⊢ <;> rename_i hc <;> simp [hc] at h ⊢ <;> omega
theorem plc_le (l : List UInt8) : (plc l).1 ≤ l.length + 1 ∧ (plc l).2 ≤ l.length + 1 := by
  have := foldl_le l (1, 1)
  unfold plc
  simp at this
  omega
theorem plc_take {s : ByteArray} {n : Nat} (h : n < s.size) : plc (s.data.toList.take (n + 1)) = stepP (plc (s.data.toList.take n)) s[n] := by
  unfold plc
  have h2 : n < s.data.toList.length := by rw [size_len]; exact h
  rw [List.take_succ_eq_append_getElem h2, List.foldl_append]
  rfl
/-- the place of the byte at n -/
def plS (s : ByteArray) (n : Nat) : Nat × Nat := plc (s.data.toList.take n)
theorem plS_le (s : ByteArray) (n : Nat) : (plS s n).1 ≤ n + 1 ∧ (plS s n).2 ≤ n + 1 := by
  have h := plc_le (s.data.toList.take n)
  have h2 := List.length_take_le n s.data.toList
  unfold plS
  omega
theorem plS_at (s : ByteArray) {n : Nat} (h : n ≤ s.size) : plAt s.data.toList (dr s n) = plS s n := by
  unfold plAt plS
  rw [dr_len, size_len, show s.size - (s.size - n) = n by omega]
set_option maxHeartbeats 2000000 in
theorem place_any (s : ByteArray) (hs : s.size ≤ 20000) (n : Nat) (hn : n ≤ s.size) (w : World) : Calls Try.prog 17 #[.string s, .int .i64 n] w fun e w' => e = .returned (.agg #[.int .i64 0, .string ⟨#[]⟩, .int .i64 0, .int .i64 (plS s n).1, .int .i64 (plS s n).2]) ∧ Below w.heap.size w w' := by
  obtain ⟨x1, x2, hb, hz⟩ := boxes2 (Below.refl ((w.alloc (.cells #[.int .i64 0, .string ⟨#[]⟩, .int .i64 0, .int .i64 0, .int .i64 0] 26)).alloc (.cells #[.int .i64 0, .string ⟨#[]⟩, .int .i64 0, .int .i64 1, .int .i64 1] 26)).heap.size ((w.alloc (.cells #[.int .i64 0, .string ⟨#[]⟩, .int .i64 0, .int .i64 0, .int .i64 0] 26)).alloc (.cells #[.int .i64 0, .string ⟨#[]⟩, .int .i64 0, .int .i64 1, .int .i64 1] 26)))
  have X1 := Lib.hid x1
  have X2 := Lib.hid x2
  have HB := Lib.hid hb
  have HS := Lib.hid hs
  have HP := Lib.hid fun k => plS_le s k
  have HT := Lib.hid fun k (h : k < s.size) => show plS s (k + 1) = stepP (plS s k) s[k] from plc_take h
  clear x1 x2 hb hz
  go_enter Try.func17, Try.ntmps17
  go_upto_region 3 with (fail)
  generalize ((w.alloc (.cells #[.int .i64 0, .string ⟨#[]⟩, .int .i64 0, .int .i64 0, .int .i64 0] 26)).alloc (.cells #[.int .i64 0, .string ⟨#[]⟩, .int .i64 0, .int .i64 1, .int .i64 1] 26)) = w2 at *
  go_loopw [6] (fun s6 wr => ∃ k : Nat, k ≤ n ∧ s6 = .int .i64 k ∧ Box wr w.heap.size 0 [.int .i64 0, .string ⟨#[]⟩, .int .i64 0, .int .i64 0, .int .i64 0] ∧ Box wr (w.heap.size + 1) 0 [.int .i64 0, .string ⟨#[]⟩, .int .i64 0, .int .i64 (plS s k).1, .int .i64 (plS s k).2] ∧ Below w.heap.size w wr) (fun i _ => n - (intOf i).toNat)
  case atStart => exact ⟨0, Nat.zero_le _, rfl, X1.out, X2.out, HB.out⟩
  case round =>
    clear X1 X2 HB
    obtain ⟨k, hk, rfl, hX1, hX2, hB⟩ := hrel
    have X1 := Lib.hid hX1
    have X2 := Lib.hid hX2
    have HB := Lib.hid hB
    clear hX1 hX2 hB
    by_cases hlt : k < n
    · obtain ⟨x, hx⟩ : ∃ x : UInt8, s[k] = x := ⟨_, rfl⟩
      have hz : (k : Int) < n := by omega
      have hz2 : (k : Int) < s.size := by omega
      have HT1 := HT.out k (by omega)
      have HP1 := HP.out k
      have HS1 := HS.out
      obtain ⟨⟨p, q⟩, hpq⟩ : ∃ p, plS s k = p := ⟨_, rfl⟩
      rw [hx, hpq] at HT1
      rw [hpq] at HP1 X2
      simp only at HP1 X2
      have w1 : IntKind.i64.wrap ((p : Int) + 1) = p + 1 := by rw [IntKind.wrap_i64]; omega
      have w2 : IntKind.i64.wrap ((q : Int) + 1) = q + 1 := by rw [IntKind.wrap_i64]; omega
      have ⟨c3, f3⟩ := cell_of X2.out (i := 3) rfl
      have ⟨c4, f4⟩ := cell_of X2.out (i := 4) rfl
      have hne : w.heap.size + 1 ≠ w.heap.size := by omega
      have HT2 := Lib.hid HT1
      clear HP1 HS1 HT1 hpq
      have e8 := eq8 x 10
      by_cases h10 : x = 10
      · have h11 : ((x.toNat : Int) == 10) = true := by
          have := e8
          rw [show ((10 : UInt8).toNat : Int) = 10 from rfl] at this
          rw [this, beq_iff_eq]
          exact h10
        have H10 := Lib.hid h10
        clear e8 h10
        go_wp2_with fail
        go_roundw
        case rel =>
          have e : plS s (k + 1) = (p + 1, 1) := by rw [HT2.out]; unfold stepP; rw [if_pos H10.out]
          refine ⟨k + 1, by omega, by go_num, Box_aside hne _ (Box_aside hne _ X1.out), ?_, (HB.out.setCell (Nat.le_succ _) _).setCell (Nat.le_succ _) _⟩
          rw [e, show ((p + 1 : Nat) : Int) = (p : Int) + 1 by omega]
          exact (X2.out.put 3 (by simp) _).put 4 (by simp) _
        case measure => simp [intOf]; omega
      · have h11 : ((x.toNat : Int) == 10) = false := by
          have := e8
          rw [show ((10 : UInt8).toNat : Int) = 10 from rfl] at this
          rw [this, beq_eq_false_iff_ne]
          exact h10
        have H10 := Lib.hid h10
        clear e8 h10
        go_wp2_with fail
        go_roundw
        case rel =>
          have e : plS s (k + 1) = (p, q + 1) := by rw [HT2.out]; unfold stepP; rw [if_neg H10.out]
          refine ⟨k + 1, by omega, by go_num, Box_aside hne _ X1.out, ?_, HB.out.setCell (Nat.le_succ _) _⟩
          rw [e, show ((q + 1 : Nat) : Int) = (q : Int) + 1 by omega]
          exact X2.out.put 4 (by simp) _
        case measure => simp [intOf]; omega
    · have : k = n := by omega
      subst this
      have hz : ¬ ((k : Int) < k) := by omega
      obtain ⟨⟨p, q⟩, hpq⟩ : ∃ p, plS s k = p := ⟨_, rfl⟩
      have HPQ := Lib.hid hpq
      rw [hpq] at X2
      simp only at X2
      obtain ⟨y, _, hB2⟩ := Box.puts (us := [.int .i64 0, .string ⟨#[]⟩, .int .i64 0, .int .i64 p, .int .i64 q]) X1.out rfl
      have HY := Lib.hid y
      have HB3 := Lib.hid (HB.out.trans (hB2 _ (Nat.le_refl _)))
      obtain ⟨a0, f0, a1, f1, a2, f2, a3, f3, a4, f4, _⟩ := X1.out
      obtain ⟨b0, _, b1, _, b2, _, b3, _, b4, _, _⟩ := X2.out
      clear y hB2 hpq
      go_wp2
      refine bodyPost_ret (results_cell rfl rfl (run_loadVar_mid _ w.heap.size 0 26 _ _ HY.out.range rfl rfl (by kernel_rfl))) rfl ?_
      rw [HPQ.out]
      exact ⟨rfl, HB3.out⟩
end Go.Proofs.Ythdkkdgjcfjinaa.tk
