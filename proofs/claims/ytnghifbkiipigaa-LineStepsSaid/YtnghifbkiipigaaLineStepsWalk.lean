/- The walk of the law LineSteps: any line and any command: it returns true, and what was in memory is as it was. -/
import Derived.Test.YtnghifbkiipigaaLnSteps
import Derived.Test.YtnghifbkiipigaaKRecs
namespace Go.Proofs.Ytnghifbkiipigaa.lineSteps
open Go.ChangeShapes Go.WideShapes Go.ChangeAt Go.RowKit Go.Proofs.Ytnghifbkiipigaa.k Go.Proofs.Ytnghifbkiipigaa.rr Go.Proofs.Ytnghifbkiipigaa.ln Go.Proofs.Ytnghifbkiipigaa
set_option linter.unusedVariables false

theorem seven (xs : List Int) (h : xs.length = 7) : ∃ c : C, ∀ (w : World) (b o : Nat), (∀ (j : Nat) (v : Int), xs[j]? = some v → w.cell? ⟨b, o + j, none⟩ = some (.int .i64 v)) → w.rangeAt b o (cC c) := by
  match xs, h with
  | [x0, x1, x2, x3, x4, x5, x6], _ =>
    refine ⟨⟨x0, x1, x2, x3, x4, x5, x6⟩, fun w b o hc j v hv => ?_⟩
    have hj : j < 7 := by have := (List.getElem?_eq_some_iff.1 hv).1; rwa [cC_len] at this
    rcases (show j = 0 ∨ j = 1 ∨ j = 2 ∨ j = 3 ∨ j = 4 ∨ j = 5 ∨ j = 6 by omega) with rfl | rfl | rfl | rfl | rfl | rfl | rfl
    all_goals
      simp only [cC, List.getElem?_cons_zero, List.getElem?_cons_succ, Option.some.injEq] at hv
      subst hv
      exact hc _ _ rfl
theorem rows_of {w : World} {a : Option Addr} {len cap : Nat} (h : IsRecs w 7 a len cap) : ∃ L, RdC w w.heap.size a len cap L := by
  by_cases hp : 0 < len
  · obtain ⟨b, off, rfl, hb, hl, hm, hc⟩ := h.at (by omega) hp
    have h1 : ∀ i, ∃ c : C, i < len → w.rangeAt b (off + i * 7) (cC c) := fun i => by
      by_cases hi : i < len
      · obtain ⟨xs, hx, _, hcell⟩ := hc i hi
        obtain ⟨c, hcc⟩ := seven xs hx
        exact ⟨c, fun _ => hcc w b (off + i * 7) hcell⟩
      · exact ⟨⟨0, 0, 0, 0, 0, 0, 0⟩, fun h => absurd h hi⟩
    obtain ⟨f, hf⟩ := Classical.axiomOfChoice h1
    refine ⟨(List.range len).map f, by simp, hl, hm, (fun h => by cases h), fun _ => ⟨b, off, rfl, hb, fun i x hx => ?_⟩⟩
    have hi : i < len := by have := (List.getElem?_eq_some_iff.1 hx).1; simpa using this
    have e : f i = x := by simpa [hi] using hx
    rw [← e]
    exact hf i hi
  · have h0 : len = 0 := by omega
    subst h0
    rcases h with ⟨rfl, _, rfl⟩ | ⟨x, rfl, hl, hm, _⟩
    · exact ⟨[], Rd.none_ _ _ _ _⟩
    · exact ⟨[], rfl, hl, hm, (fun h => by cases h), fun h => absurd h (by omega)⟩
set_option maxRecDepth 100000 in
theorem walk (a0 : Option Addr) (l0 c0 : Nat) (a1 : Option Addr) (l1 c1 : Nat) (x0 x1 x2 x3 x4 x5 x6 : Int) (w : World) (u0 : IsRecs w 7 a0 l0 c0) (u1 : IsRecs w 7 a1 l1 c1)
    (w0 : (Lit.int .i64 x0).wf = true) (w1 : (Lit.int .i64 x1).wf = true) (w2 : (Lit.int .i64 x2).wf = true) (w3 : (Lit.int .i64 x3).wf = true) (w4 : (Lit.int .i64 x4).wf = true) (w5 : (Lit.int .i64 x5).wf = true) (w6 : (Lit.int .i64 x6).wf = true) :
    Calls Try.prog 3 #[.agg #[.slice a0 l0 c0, .slice a1 l1 c1], .agg #[.int .i64 x0, .int .i64 x1, .int .i64 x2, .int .i64 x3, .int .i64 x4, .int .i64 x5, .int .i64 x6]] w fun e w' => e = .returned (.bool true) ∧ Below w.heap.size w w' := by
  by_cases hs : l0 ≤ 20 ∧ l1 ≤ 20
  · obtain ⟨N, hN⟩ := rows_of u0
    obtain ⟨W, hW⟩ := rows_of u1
    exact walk_rows N W ⟨x0, x1, x2, x3, x4, x5, x6⟩ hN hW (Nat.le_refl _) hs.1 hs.2
  · have HK := Lib.hid fun W => awake_any W
    have HS : Hid (∀ W' : World, Calls Try.prog 6 #[.agg #[.slice a0 l0 c0, .slice a1 l1 c1]] W' fun e w' => e = .returned (.bool false) ∧ Below W'.heap.size W' w') := Lib.hid fun W' => by
      have h := small_any (A := a0) (A' := a1) (n := l0) (cap := c0) (m := l1) (cap' := c1) W'
      rw [show smallB l0 l1 = false from decide_eq_false hs] at h
      exact h
    clear u0 u1 w0 w1 w2 w3 w4 w5 w6 hs
    go_enter Try.func3, Try.ntmps3
    go_upto_region 3 with (go_at_call 5; ((with_reducible refine (HK.out _).mono ?_); rintro e v1 ⟨rfl, hb⟩; obtain ⟨y1, _, y3, y4⟩ := k.boxes2 hb; have Y1 := Lib.hid y1; have Y3 := Lib.hid y3; clear hb y1 y3))
    have ⟨b0, _⟩ := k.cell_of Y1.out (i := 0) rfl
    have ⟨b1, _⟩ := k.cell_of Y1.out (i := 1) rfl
    go_wp2_with (go_at_call 6; ((with_reducible refine (HS.out _).mono ?_); rintro e v2 ⟨rfl, hb⟩; have Y4 := Lib.hid (Y3.out.trans (hb.mono Y3.out.size)); clear hb))
    go_ret
    exact ⟨rfl, Y4.out⟩
end Go.Proofs.Ytnghifbkiipigaa.lineSteps
