/- The fixed answer of the layer tok's laws: it is true; what was in memory is as it was. No condition. -/
import Derived.Test.YthdkkdgjcfjinaaTkTok
namespace Go.Proofs.Ythdkkdgjcfjinaa.tk
open Go.ChangeShapes Go.WideShapes Go.ChangeAt Go.RowKit Go.Proofs.Ythdkkdgjcfjinaa.k Go.Proofs.Ythdkkdgjcfjinaa.rr
set_option linter.unusedVariables false

set_option maxRecDepth 100000 in
set_option maxHeartbeats 4000000 in
theorem awake_any (w : World) (hM : MaxL w) : Calls Try.prog 7 #[] w fun e w' => e = .returned (.bool true) ∧ Below w.heap.size w w' := by
  have LX := Lib.hid fun W (hMW : MaxL W) => lex_any ⟨#[97, 58, 61, 49, 54, 35, 70, 70, 59]⟩ (by decide) W hMW
  have hl : lex (⟨#[97, 58, 61, 49, 54, 35, 70, 70, 59]⟩ : ByteArray).data.toList = _ := lex_awake
  unfold GotL at LX
  rw [hl] at LX
  simp only at LX
  rw [show (tC zeroT).toArray = #[.int .i64 0, .string ⟨#[]⟩, .int .i64 0, .int .i64 0, .int .i64 0] from rfl] at LX
  have WI := Lib.hid fun W => word_is ⟨#[69, 78, 68, 95, 73, 70]⟩ W
  have hw : isWord (⟨#[69, 78, 68, 95, 73, 70]⟩ : ByteArray).data.toList = true := by kernel_rfl
  rw [hw] at WI
  clear hl hw
  go_enter Try.func7, Try.ntmps7
  go_wp2_with (go_at_call 8; fail)
  with_reducible refine (LX.out _ hM).mono ?_
  rintro e w1 ⟨A, n, c, rfl, hr, hb⟩
  have hn := hr.1
  simp only [List.length_cons, List.length_nil, Nat.reduceAdd] at hn
  subst hn
  have hcap := hr.2.1
  have hc5 : (5 : Int) ≤ c := by omega
  obtain ⟨b, off, rfl, hbw, hc⟩ := hr.2.2.2.2 (by omega)
  have q1 := hc 2 _ rfl 2 _ rfl
  have q2 := hc 1 _ rfl 1 _ rfl
  have q3 := hc 4 _ rfl 0 _ rfl
  have q4 := hc 4 _ rfl 4 _ rfl
  simp only [Nat.reduceMul, Nat.add_assoc, Nat.reduceAdd, Nat.add_zero] at q1 q2 q3 q4
  have q4 : w1.cell? ⟨b, off + 24, none⟩ = some (.int .i64 10) := q4
  have HB := Lib.hid (hb.trans (((Below.refl w1.heap.size w1).alloc (Nat.le_refl _) (.cells #[.int .i64 0, .string ⟨#[]⟩, .int .i64 0, .int .i64 0, .int .i64 0] 26)).mono hb.size))
  clear hc hr hb
  go_wp2_with (go_at_call 11; (with_reducible refine (WI.out _).mono ?_); rintro e w2 ⟨rfl, hb⟩; have HB2 := Lib.hid (HB.out.trans (hb.mono HB.out.size)); clear hb)
  go_ret
  exact ⟨rfl, HB2.out⟩
end Go.Proofs.Ythdkkdgjcfjinaa.tk
