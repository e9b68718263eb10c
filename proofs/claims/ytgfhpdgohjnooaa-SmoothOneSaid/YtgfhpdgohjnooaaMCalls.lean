/- What layer smooth's functions answer, where no one asks where it lies. No condition beyond what each line says. -/
import Derived.Test.YtgfhpdgohjnooaaMSmooth
namespace Go.Proofs.Ytgfhpdgohjnooaa.mm
open Go.ChangeShapes Go.WideShapes Go.ChangeAt Go.RowKit Go.Proofs.Ytgfhpdgohjnooaa.k
set_option linter.unusedVariables false

theorem shift_le {L : List Int} (h : RightW L) (d : Int) : (shiftW L d).length ≤ 100 := by
  have := h.2.1
  unfold shiftW
  split
  · rw [List.length_map]; omega
  · omega
theorem new_yes {m p : Int} (h1 : 1 ≤ m) (h2 : m ≤ 16) (hp : inP p) (w : World) : Calls Try.prog 9 #[.int .i64 m, .int .i64 p] w (NewW w (List.replicate m.toNat p) 0) := (new_from h1 h2 hp w).mono fun _ _ h => h.new
theorem push_any (L : List Int) (p : Int) (hl : L.length ≤ 100) {A : Option Addr} {len cap B : Nat} {w : World} (h : Win w B A len cap L) (hB : B ≤ w.heap.size) : Calls Try.prog 15 #[.agg #[.slice A len cap], .int .i64 p] w (GotW w (pushW L p)) := (push_from L p hl h hB).mono fun _ _ h => h.got
theorem shift_any (L : List Int) (d : Int) (hl : L.length ≤ 100) {A : Option Addr} {len cap B : Nat} {w : World} (h : Win w B A len cap L) (hB : B ≤ w.heap.size) : Calls Try.prog 16 #[.agg #[.slice A len cap], .int .i64 d] w (GotW w (shiftW L d)) := (shift_from L d hl h hB).mono fun _ _ h => h.got
end Go.Proofs.Ytgfhpdgohjnooaa.mm
