/- What servitorref11's Next answers, of any state and anything that happens; the world stays as it was. No condition. -/
import Derived.Test.YtcljilfbmodaiaaEdMath
import Derived.Laws.Tables
namespace Go.Proofs.Ytcljilfbmodaiaa.ed
open Go.ChangeShapes Go.WideShapes Go.ChangeAt Go.RowKit Go.Proofs.Ytcljilfbmodaiaa.k
set_option linter.unusedVariables false

def rowV (m : Int) : Array Value := if m = 0 then #[.int .i64 1, .int .i64 9, .int .i64 9, .int .i64 9, .int .i64 9, .int .i64 9, .int .i64 9, .int .i64 9, .int .i64 9, .int .i64 9, .int .i64 7, .int .i64 9] else if m = 1 then #[.int .i64 9, .int .i64 0, .int .i64 2, .int .i64 9, .int .i64 4, .int .i64 5, .int .i64 6, .int .i64 3, .int .i64 9, .int .i64 9, .int .i64 7, .int .i64 9] else if m = 2 then #[.int .i64 9, .int .i64 0, .int .i64 9, .int .i64 1, .int .i64 9, .int .i64 9, .int .i64 9, .int .i64 3, .int .i64 9, .int .i64 9, .int .i64 7, .int .i64 9] else if m = 3 then #[.int .i64 9, .int .i64 0, .int .i64 9, .int .i64 9, .int .i64 9, .int .i64 9, .int .i64 9, .int .i64 9, .int .i64 1, .int .i64 9, .int .i64 7, .int .i64 9] else if m = 4 then #[.int .i64 9, .int .i64 0, .int .i64 9, .int .i64 9, .int .i64 4, .int .i64 5, .int .i64 6, .int .i64 3, .int .i64 9, .int .i64 1, .int .i64 7, .int .i64 9] else if m = 5 then #[.int .i64 9, .int .i64 0, .int .i64 9, .int .i64 9, .int .i64 4, .int .i64 5, .int .i64 6, .int .i64 3, .int .i64 9, .int .i64 1, .int .i64 7, .int .i64 9] else if m = 6 then #[.int .i64 9, .int .i64 0, .int .i64 9, .int .i64 9, .int .i64 4, .int .i64 5, .int .i64 6, .int .i64 3, .int .i64 9, .int .i64 1, .int .i64 7, .int .i64 9] else #[.int .i64 9, .int .i64 0, .int .i64 9, .int .i64 9, .int .i64 9, .int .i64 9, .int .i64 9, .int .i64 9, .int .i64 9, .int .i64 9, .int .i64 7, .int .i64 1]
theorem ixT (m : Int) (h0 : 0 ≤ m) (h1 : m ≤ 7) (w : World) : (Instr.index 34 (.agg #[.int .i64 1, .int .i64 9, .int .i64 9, .int .i64 9, .int .i64 9, .int .i64 9, .int .i64 9, .int .i64 9, .int .i64 9, .int .i64 9, .int .i64 7, .int .i64 9, .int .i64 9, .int .i64 0, .int .i64 2, .int .i64 9, .int .i64 4, .int .i64 5, .int .i64 6, .int .i64 3, .int .i64 9, .int .i64 9, .int .i64 7, .int .i64 9, .int .i64 9, .int .i64 0, .int .i64 9, .int .i64 1, .int .i64 9, .int .i64 9, .int .i64 9, .int .i64 3, .int .i64 9, .int .i64 9, .int .i64 7, .int .i64 9, .int .i64 9, .int .i64 0, .int .i64 9, .int .i64 9, .int .i64 9, .int .i64 9, .int .i64 9, .int .i64 9, .int .i64 1, .int .i64 9, .int .i64 7, .int .i64 9, .int .i64 9, .int .i64 0, .int .i64 9, .int .i64 9, .int .i64 4, .int .i64 5, .int .i64 6, .int .i64 3, .int .i64 9, .int .i64 1, .int .i64 7, .int .i64 9, .int .i64 9, .int .i64 0, .int .i64 9, .int .i64 9, .int .i64 4, .int .i64 5, .int .i64 6, .int .i64 3, .int .i64 9, .int .i64 1, .int .i64 7, .int .i64 9, .int .i64 9, .int .i64 0, .int .i64 9, .int .i64 9, .int .i64 4, .int .i64 5, .int .i64 6, .int .i64 3, .int .i64 9, .int .i64 1, .int .i64 7, .int .i64 9, .int .i64 9, .int .i64 0, .int .i64 9, .int .i64 9, .int .i64 9, .int .i64 9, .int .i64 9, .int .i64 9, .int .i64 9, .int .i64 9, .int .i64 7, .int .i64 1]) (.int .i64 m)).run Try.prog w = .ok (.agg (rowV m)) w := by
  rcases eight_of m h0 h1 with rfl | rfl | rfl | rfl | rfl | rfl | rfl | rfl <;> kernel_rfl
theorem ixE (m : Int) (h0 : 0 ≤ m) (h1 : m ≤ 7) (e : Int) (h2 : 1 ≤ e) (h3 : e ≤ 12) (w : World) : (Instr.index 33 (.agg (rowV m)) (.int .i64 (e - 1))).run Try.prog w = .ok (.int .i64 (toI m e)) w := by
  rcases eight_of m h0 h1 with rfl | rfl | rfl | rfl | rfl | rfl | rfl | rfl <;> rcases twelve_of e h2 h3 with rfl | rfl | rfl | rfl | rfl | rfl | rfl | rfl | rfl | rfl | rfl | rfl <;> kernel_rfl
theorem wpList_build_as {P : Program} {ops : Array Oper} {rest : List Oper} {o : Oper} {a : Act} {w : World} {Q : Exit → Act → World → Prop} (hg : o.guard = none) (t : TypeId) (parts : Array (Nat × Operand)) (ho : o.op = .build t parts) (cells : Array Value)
    (hc : P.built t (parts.map fun (i, x) => (i, a.eval x)).toList = some cells)
    (h : wpList P ops Q rest (a.put o.dst (.agg cells)) w) : wpList P ops Q (o :: rest) a w :=
  wpList_build hg t parts ho (by rw [hc]; rfl) (by rw [hc]; exact h)
theorem ret_next {a a' : Int} {b b' : Bool} (h : a = a') (h2 : b = b') : Ending.returned (.tuple #[.int .i64 a, .bool b]) = .returned (.tuple #[.int .i64 a', .bool b']) := by rw [h, h2]
set_option maxRecDepth 100000 in
set_option maxHeartbeats 4000000 in
theorem refnext_any (s ev : Int) (w : World) : Calls Try.prog 8 #[.int .i64 s, .int .i64 ev] w fun e w' => e = .returned (.tuple #[.int .i64 (nxS s ev), .bool (nxB s ev)]) ∧ w = w' := by
  by_cases h0 : 0 ≤ s
  · by_cases h1 : s ≤ 7
    · by_cases h2 : 1 ≤ ev
      · by_cases h3 : ev ≤ 12
        · have hT := ixT s h0 h1
          have hE := ixE s h0 h1 ev h2 h3
          by_cases h9 : toI s ev = 9
          · have HV : Hid (nxS s ev = s ∧ nxB s ev = false) := Lib.hid ⟨by unfold nxS; rw [if_pos ⟨h0, h1, h2, h3⟩, if_pos h9], decide_eq_false fun h => h.2 h9⟩
            have hb : (toI s ev == 9) = true := by rw [h9]; rfl
            clear h9
            generalize toI s ev = V at *
            generalize rowV s = R at *
            go_enter Try.func8, Try.ntmps8
            go_upto_region 3 with (fail)
            iterate 25 go_step
            refine wpList_build_as rfl 34 _ rfl #[.int .i64 1, .int .i64 9, .int .i64 9, .int .i64 9, .int .i64 9, .int .i64 9, .int .i64 9, .int .i64 9, .int .i64 9, .int .i64 9, .int .i64 7, .int .i64 9, .int .i64 9, .int .i64 0, .int .i64 2, .int .i64 9, .int .i64 4, .int .i64 5, .int .i64 6, .int .i64 3, .int .i64 9, .int .i64 9, .int .i64 7, .int .i64 9, .int .i64 9, .int .i64 0, .int .i64 9, .int .i64 1, .int .i64 9, .int .i64 9, .int .i64 9, .int .i64 3, .int .i64 9, .int .i64 9, .int .i64 7, .int .i64 9, .int .i64 9, .int .i64 0, .int .i64 9, .int .i64 9, .int .i64 9, .int .i64 9, .int .i64 9, .int .i64 9, .int .i64 1, .int .i64 9, .int .i64 7, .int .i64 9, .int .i64 9, .int .i64 0, .int .i64 9, .int .i64 9, .int .i64 4, .int .i64 5, .int .i64 6, .int .i64 3, .int .i64 9, .int .i64 1, .int .i64 7, .int .i64 9, .int .i64 9, .int .i64 0, .int .i64 9, .int .i64 9, .int .i64 4, .int .i64 5, .int .i64 6, .int .i64 3, .int .i64 9, .int .i64 1, .int .i64 7, .int .i64 9, .int .i64 9, .int .i64 0, .int .i64 9, .int .i64 9, .int .i64 4, .int .i64 5, .int .i64 6, .int .i64 3, .int .i64 9, .int .i64 1, .int .i64 7, .int .i64 9, .int .i64 9, .int .i64 0, .int .i64 9, .int .i64 9, .int .i64 9, .int .i64 9, .int .i64 9, .int .i64 9, .int .i64 9, .int .i64 9, .int .i64 7, .int .i64 1] (by kernel_rfl) ?_
            go_wp2
            go_ret2
            exact ⟨ret_next HV.out.1.symm HV.out.2.symm, rfl⟩
          · have HV : Hid (nxS s ev = toI s ev ∧ nxB s ev = true) := Lib.hid ⟨by unfold nxS; rw [if_pos ⟨h0, h1, h2, h3⟩, if_neg h9], decide_eq_true ⟨⟨h0, h1, h2, h3⟩, h9⟩⟩
            have hb : (toI s ev == 9) = false := by rw [beq_eq_false_iff_ne]; exact h9
            clear h9
            generalize toI s ev = V at *
            generalize rowV s = R at *
            go_enter Try.func8, Try.ntmps8
            go_upto_region 3 with (fail)
            iterate 25 go_step
            refine wpList_build_as rfl 34 _ rfl #[.int .i64 1, .int .i64 9, .int .i64 9, .int .i64 9, .int .i64 9, .int .i64 9, .int .i64 9, .int .i64 9, .int .i64 9, .int .i64 9, .int .i64 7, .int .i64 9, .int .i64 9, .int .i64 0, .int .i64 2, .int .i64 9, .int .i64 4, .int .i64 5, .int .i64 6, .int .i64 3, .int .i64 9, .int .i64 9, .int .i64 7, .int .i64 9, .int .i64 9, .int .i64 0, .int .i64 9, .int .i64 1, .int .i64 9, .int .i64 9, .int .i64 9, .int .i64 3, .int .i64 9, .int .i64 9, .int .i64 7, .int .i64 9, .int .i64 9, .int .i64 0, .int .i64 9, .int .i64 9, .int .i64 9, .int .i64 9, .int .i64 9, .int .i64 9, .int .i64 1, .int .i64 9, .int .i64 7, .int .i64 9, .int .i64 9, .int .i64 0, .int .i64 9, .int .i64 9, .int .i64 4, .int .i64 5, .int .i64 6, .int .i64 3, .int .i64 9, .int .i64 1, .int .i64 7, .int .i64 9, .int .i64 9, .int .i64 0, .int .i64 9, .int .i64 9, .int .i64 4, .int .i64 5, .int .i64 6, .int .i64 3, .int .i64 9, .int .i64 1, .int .i64 7, .int .i64 9, .int .i64 9, .int .i64 0, .int .i64 9, .int .i64 9, .int .i64 4, .int .i64 5, .int .i64 6, .int .i64 3, .int .i64 9, .int .i64 1, .int .i64 7, .int .i64 9, .int .i64 9, .int .i64 0, .int .i64 9, .int .i64 9, .int .i64 9, .int .i64 9, .int .i64 9, .int .i64 9, .int .i64 9, .int .i64 9, .int .i64 7, .int .i64 1] (by kernel_rfl) ?_
            go_wp2
            go_ret2
            exact ⟨ret_next HV.out.1.symm HV.out.2.symm, rfl⟩
        · have HV := Lib.hid (out_of (s := s) (ev := ev) fun h => h3 h.2.2.2)
          go_enter Try.func8, Try.ntmps8
          go_wp2
          go_ret2
          exact ⟨ret_next HV.out.1.symm HV.out.2.symm, rfl⟩
      · have HV := Lib.hid (out_of (s := s) (ev := ev) fun h => h2 h.2.2.1)
        go_enter Try.func8, Try.ntmps8
        go_wp2
        go_ret2
        exact ⟨ret_next HV.out.1.symm HV.out.2.symm, rfl⟩
    · have HV := Lib.hid (out_of (s := s) (ev := ev) fun h => h1 h.2.1)
      go_enter Try.func8, Try.ntmps8
      go_wp2
      go_ret2
      exact ⟨ret_next HV.out.1.symm HV.out.2.symm, rfl⟩
  · have HV := Lib.hid (out_of (s := s) (ev := ev) fun h => h0 h.1)
    go_enter Try.func8, Try.ntmps8
    go_wp2
    go_ret2
    exact ⟨ret_next HV.out.1.symm HV.out.2.symm, rfl⟩
end Go.Proofs.Ytcljilfbmodaiaa.ed
