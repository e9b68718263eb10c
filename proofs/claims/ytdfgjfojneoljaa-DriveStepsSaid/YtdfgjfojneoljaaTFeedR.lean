/- What layer frame's ReadFeed answers. No condition but that the bytes are read where they lie. -/
import Derived.Test.YtdfgjfojneoljaaTReadP
namespace Go.Proofs.Ytdfgjfojneoljaa.t
open Go.ChangeShapes Go.WideShapes Go.ChangeAt Go.RowKit Go.Proofs.Ytdfgjfojneoljaa.s
set_option linter.unusedVariables false

set_option maxHeartbeats 400000 in
theorem rfeed_any (l : List (BitVec 8)) (n : Nat) (hn : l.length = n) (hl : l.length ≤ 10000) (B : Nat) (A : Option Addr) (cap : Nat) (hcap : n ≤ cap) (hmax : cap ≤ maxLen) (W : World) (h : Bytes W B A l) (hB : B ≤ W.heap.size) :
    Calls Try.prog 40 #[.slice A n cap] W (ReadPost signF 127 l W) := by
  have c1 := fun (o : Obj) => prog_read_any signF 127 l n hn hl B A cap hcap hmax (W.alloc o) (h.below ((Below.refl B W).alloc hB o)) (Nat.le_trans hB (by simp))
  rw [signF_val] at c1
  have HC := Lib.hid c1
  clear c1 h hn hl hcap hmax
  go_enter Try.func40, Try.ntmps40
  go_wp2_with (go_at_call 46; ((with_reducible refine (HC.out _).mono ?_); rintro e w' ⟨rfl, hb⟩; have ⟨c0, f0⟩ := new_cell hb 0; have ⟨c1, f1⟩ := new_cell hb 1; have ⟨c2, f2⟩ := new_cell hb 2; have hz : W.heap.size < w'.heap.size := (Nat.lt_of_lt_of_le (by simp) hb.size); simp only [List.getElem?_toArray, List.getElem?_cons_zero, List.getElem?_cons_succ] at c0 c1 c2; have HB := Lib.hid hb; clear hb))
  refine bodyPost_ret (v := .tuple #[.agg #[.int .i64 (rS signF 127 l), .int .i64 (rW signF 127 l), .int .i64 (rP signF 127 l)], .int .i64 (rE signF 127 l)]) (by simp [results, Try.results40, go_sem, c0, c1, c2, hz]) rfl ?_
  have base := ((Below.refl W.heap.size W).alloc (Nat.le_refl _) _).trans (HB.out.mono (by simp))
  exact ⟨rfl, (((base.setCell (Nat.le_refl _) _).setCell (Nat.le_refl _) _).setCell (Nat.le_refl _) _).alloc (by simp; omega) _⟩
end Go.Proofs.Ytdfgjfojneoljaa.t
