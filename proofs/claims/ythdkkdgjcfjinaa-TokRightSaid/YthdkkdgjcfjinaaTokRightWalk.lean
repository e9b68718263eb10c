/- The walk of the law TokRight: whatever the text: it returns true, and what was in memory is as it was. -/
import Derived.Test.YthdkkdgjcfjinaaTkAwake
namespace Go.Proofs.Ythdkkdgjcfjinaa.tokRight
open Go.ChangeShapes Go.WideShapes Go.ChangeAt Go.RowKit Go.Proofs.Ythdkkdgjcfjinaa.k Go.Proofs.Ythdkkdgjcfjinaa.rr Go.Proofs.Ythdkkdgjcfjinaa.tk Go.Proofs.Ythdkkdgjcfjinaa
set_option linter.unusedVariables false

theorem extract_size (s : ByteArray) (m : Nat) : (s.extract 0 m).size ≤ m := by
  rw [ByteArray.size_extract]
  omega
set_option maxRecDepth 100000 in
set_option maxHeartbeats 8000000 in
theorem walk (s : ByteArray) (w : World) (hs : s.size ≤ maxLen) (hM : MaxL w) :
    Calls Try.prog 3 #[.string s] w fun e w' => e = .returned (.bool true) ∧ Below w.heap.size w w' := by
  have HK := Lib.hid (awake_any w hM)
  have MX := Lib.hid hM
  clear hM
  have ht : (s.extract 0 (min (s.size : Int) 1500).toNat).size ≤ 1500 := Nat.le_trans (extract_size _ _) (by omega)
  have hs2 : (s.size : Int) ≤ 9223372036854775807 := by unfold maxLen at hs; omega
  clear hs
  go_enter Try.func3, Try.ntmps3
  go_upto_region 3 with (go_at_call 7; ((with_reducible refine (HK.out).mono ?_); rintro e w2 ⟨rfl, hb⟩; have HB := Lib.hid hb; clear hb HK))
  go_upto_region 4 with (fail)
  generalize s.extract 0 (min (s.size : Int) 1500).toNat = t at *
  have LX := Lib.hid fun W (hMW : MaxL W) => lex_any t (by omega) W hMW
  have RX := Lib.hid fun W => ref_lex_any t (by omega) W
  have WX := Lib.hid fun W => word_is t W
  have WY := Lib.hid fun W => word_any t W
  unfold GotL at LX RX
  obtain ⟨⟨er, L, ⟨pk, pt, pn, pl, pc⟩⟩, hlx⟩ : ∃ R, lex t.data.toList = R := ⟨_, rfl⟩
  rw [hlx] at LX RX
  simp only at LX RX
  rw [show (tC ⟨pk, pt, pn, pl, pc⟩).toArray = #[.int .i64 pk, .string ⟨pt.toArray⟩, .int .i64 pn, .int .i64 pl, .int .i64 pc] from rfl] at LX RX
  generalize isWord t.data.toList = iw at *
  clear hlx ht hs2
  go_upto_region 5 with (go_at_call 8; ((with_reducible refine (LX.out _ (MX.out.below HB.out)).mono ?_); rintro e w3 ⟨A, n, c, rfl, hr, hb⟩; have R1 := Lib.hid hr; have B3 := Lib.hid (HB.out.trans (hb.mono HB.out.size)); clear hr hb))
  obtain ⟨x5, hb5, hz5⟩ := boxes1 (Below.refl (w3.alloc (.cells #[.int .i64 pk, .string ⟨pt.toArray⟩, .int .i64 pn, .int .i64 pl, .int .i64 pc] 26)).heap.size (w3.alloc (.cells #[.int .i64 pk, .string ⟨pt.toArray⟩, .int .i64 pn, .int .i64 pl, .int .i64 pc] 26)))
  have X5 := Lib.hid x5
  have S1 := Lib.hid ((R1.out.below hb5).more hb5.size)
  clear R1
  have B4 := Lib.hid (B3.out.trans (hb5.mono B3.out.size))
  have Z5 := Lib.hid hz5
  generalize w3.alloc (.cells #[.int .i64 pk, .string ⟨pt.toArray⟩, .int .i64 pn, .int .i64 pl, .int .i64 pc] 26) = w4 at *
  generalize w3.heap.size = g5 at *
  clear x5 hb5 hz5 LX B3
  go_upto_region 6 with (go_at_call 9; ((with_reducible refine (RX.out _).mono ?_); rintro e w5 ⟨A', n', c', rfl, hr, hb⟩; have R2 := Lib.hid hr; have T1 := Lib.hid ((S1.out.below hb).more hb.size); have Y5 := Lib.hid (X5.out.below hb Z5.out); have B5 := Lib.hid (B4.out.trans (hb.mono B4.out.size)); have Z6 := Lib.hid (Nat.lt_of_lt_of_le Z5.out hb.size); clear hr hb S1 X5 Z5 B4))
  obtain ⟨x8, hb8, hz8⟩ := boxes1 (Below.refl (w5.alloc (.cells #[.int .i64 pk, .string ⟨pt.toArray⟩, .int .i64 pn, .int .i64 pl, .int .i64 pc] 26)).heap.size (w5.alloc (.cells #[.int .i64 pk, .string ⟨pt.toArray⟩, .int .i64 pn, .int .i64 pl, .int .i64 pc] 26)))
  have X8 := Lib.hid x8
  have V5 := Lib.hid (Y5.out.below hb8 Z6.out)
  have U1 := Lib.hid ((T1.out.below hb8).more hb8.size)
  have U2 := Lib.hid ((R2.out.below hb8).more hb8.size)
  have B6 := Lib.hid (B5.out.trans (hb8.mono B5.out.size))
  have Z8 := Lib.hid hz8
  have Z7 := Lib.hid (Nat.lt_of_lt_of_le Z6.out hb8.size)
  clear Y5 T1 R2 Z6 B5
  generalize w5.alloc (.cells #[.int .i64 pk, .string ⟨pt.toArray⟩, .int .i64 pn, .int .i64 pl, .int .i64 pc] 26) = w6 at *
  generalize w5.heap.size = g8 at *
  clear x8 hb8 hz8 RX
  obtain rfl : L.length = n := U1.out.1
  obtain rfl : L.length = n' := U2.out.1
  have SM := Lib.hid (same_any true L L rfl (fun i a b h1 h2 => by rw [h1] at h2; cases h2; exact ⟨rfl, rfl, rfl, fun _ => ⟨rfl, rfl⟩⟩) w6 U1.out U2.out)
  go_wp2_with (first
    | (go_at_call 10; (with_reducible refine (SM.out).mono ?_); rintro e w7 ⟨rfl, hb⟩; have Y5 := Lib.hid (V5.out.below hb Z7.out); have Y8 := Lib.hid (X8.out.below hb Z8.out); have B7 := Lib.hid (B6.out.trans (hb.mono B6.out.size)); have ⟨a0, _, a1, _, a2, _, a3, _, a4, _, _⟩ := Y5.out; have ⟨d0, _, d1, _, d2, _, d3, _, d4, _, _⟩ := Y8.out; clear hb)
    | (go_at_call 11; (with_reducible refine (WX.out _).mono ?_); rintro e w8 ⟨rfl, hb⟩; have B8 := Lib.hid (B7.out.trans (hb.mono B7.out.size)); clear hb)
    | (go_at_call 12; (with_reducible refine (WY.out _).mono ?_); rintro e w9 ⟨rfl, hb⟩; have B9 := Lib.hid (B8.out.trans (hb.mono B8.out.size)); clear hb))
  go_ret
  exact ⟨rfl, B9.out⟩
end Go.Proofs.Ythdkkdgjcfjinaa.tokRight
