/- What servitorref09's pass, least, turned, Right, Safe, May and Step answer; what was in memory is as it was. No condition beyond what each line says. -/
import Derived.Test.YtaohidaijlcplaaGRef
namespace Go.Proofs.Ytaohidaijlcplaa.gn
open Go.ChangeShapes Go.WideShapes Go.ChangeAt Go.RowKit Go.Proofs.Ytaohidaijlcplaa.k Go.Proofs.Ytaohidaijlcplaa.b
set_option linter.unusedVariables false

def fitP (s u d x : Int) : Prop := x ≤ u ∨ x + slow x u d ≤ s
theorem fitP_iff {s u d x : Int} (hu : 0 ≤ u) (hu2 : u ≤ 1048576) (hd : 1 ≤ d) (hx : x ≤ 1048576) : fitP s u d x ↔ x ≤ passV s u d := by
  have hi := pass_in (s := s) hu hu2 hd
  unfold fitP
  constructor
  · intro h
    rcases Int.lt_or_le u x with hl | hl
    · refine pass_top hu hd (passV_is hu hu2 hd) hx (by omega) (.inr ?_)
      rcases h with h | h
      · omega
      · exact h
    · omega
  · intro h
    rcases Int.lt_or_le u x with hl | hl
    · right
      have hm := slow_mono (u := u) hu hd h
      rcases hi.2.2 with h2 | h2
      · omega
      · omega
    · exact .inl hl
theorem least3_any (a b c m : Int) (hm : min (min a b) c = m) (g : Nat) (w : World) (h0 : w.cell? ⟨g, 0, none⟩ = some (.int .i64 a)) (h1 : w.cell? ⟨g, 1, none⟩ = some (.int .i64 b)) (h2 : w.cell? ⟨g, 2, none⟩ = some (.int .i64 c)) :
    Calls Try.prog 44 #[.slice (some ⟨g, 0, none⟩) 3 3] w fun e w' => e = .returned (.int .i64 m) ∧ w = w' := by
  have HM := Lib.hid hm
  clear hm
  by_cases q1 : b < a
  · by_cases q2 : c < b
    · go_enter Try.func44, Try.ntmps44
      go_wp2
      refine wp_loop_rounds 4 ?_
      iterate 4 (rw [rounds_succ]; go_wp2)
      go_ret
      exact ⟨ret_int (by have := HM.out; omega), rfl⟩
    · go_enter Try.func44, Try.ntmps44
      go_wp2
      refine wp_loop_rounds 4 ?_
      iterate 4 (rw [rounds_succ]; go_wp2)
      go_ret
      exact ⟨ret_int (by have := HM.out; omega), rfl⟩
  · by_cases q2 : c < a
    · go_enter Try.func44, Try.ntmps44
      go_wp2
      refine wp_loop_rounds 4 ?_
      iterate 4 (rw [rounds_succ]; go_wp2)
      go_ret
      exact ⟨ret_int (by have := HM.out; omega), rfl⟩
    · go_enter Try.func44, Try.ntmps44
      go_wp2
      refine wp_loop_rounds 4 ?_
      iterate 4 (rw [rounds_succ]; go_wp2)
      go_ret
      exact ⟨ret_int (by have := HM.out; omega), rfl⟩
theorem least2_any (a b m : Int) (hm : min a b = m) (g : Nat) (w : World) (h0 : w.cell? ⟨g, 0, none⟩ = some (.int .i64 a)) (h1 : w.cell? ⟨g, 1, none⟩ = some (.int .i64 b)) :
    Calls Try.prog 44 #[.slice (some ⟨g, 0, none⟩) 2 2] w fun e w' => e = .returned (.int .i64 m) ∧ w = w' := by
  have HM := Lib.hid hm
  clear hm
  by_cases q1 : b < a
  · go_enter Try.func44, Try.ntmps44
    go_wp2
    refine wp_loop_rounds 3 ?_
    iterate 3 (rw [rounds_succ]; go_wp2)
    go_ret
    exact ⟨ret_int (by have := HM.out; omega), rfl⟩
  · go_enter Try.func44, Try.ntmps44
    go_wp2
    refine wp_loop_rounds 3 ?_
    iterate 3 (rw [rounds_succ]; go_wp2)
    go_ret
    exact ⟨ret_int (by have := HM.out; omega), rfl⟩
end Go.Proofs.Ytaohidaijlcplaa.gn
