/- What layer drive's New and Come answer, and Tell of what is no drive; what was in memory is as it was. No condition but that the bytes are read where they lie. -/
import Derived.Test.YtdfgjfojneoljaaJDriveA
import Derived.Test.YtdfgjfojneoljaaJTell
import Derived.Test.YtdfgjfojneoljaaJCome
import Derived.Test.YtdfgjfojneoljaaOWordS
namespace Go.Proofs.Ytdfgjfojneoljaa.j
open Go.ChangeShapes Go.WideShapes Go.ChangeAt Go.RowKit Go.Proofs.Ytdfgjfojneoljaa.s Go.Proofs.Ytdfgjfojneoljaa.t
set_option linter.unusedVariables false

set_option maxHeartbeats 4000000 in
theorem new_yes (lim c : Int) (h1 : 1 ≤ lim) (h2 : lim ≤ 100) (h3 : 1 ≤ c) (h4 : c ≤ 20) (w : World) :
    Calls Try.prog 8 #[.int .i64 lim, .int .i64 c] w fun e w' => e = .returned (.tuple #[dV (newD lim c), .int .i64 0]) ∧ Below w.heap.size w w' := by
  have C1 := Lib.hid fun W => u.new_yes lim h1 h2 W
  have C2 := Lib.hid fun W => v.new_yes c false h3 h4 W
  clear h1 h2 h3 h4
  unfold newD dV
  dsimp only
  go_enter Try.func8, Try.ntmps8
  go_upto_region 4 with (go_at_call 19; ((with_reducible refine (C1.out _).mono ?_); rintro e w3 ⟨rfl, hb⟩; obtain ⟨x1, x2, x3⟩ := k.boxes1 hb; have Z3 := Lib.hid x1; have H3 := Lib.hid x2; have z3 := x3; clear hb x1 x2 x3))
  obtain ⟨a1, a2, a3⟩ := k.boxes1 (w := w3) (c1 := #[.int .i64 lim, .int .i64 0, .int .i64 (-1)]) (t1 := 23) (Below.refl _ _)
  have y1 := Z3.out.below a2 z3
  have y2 : Below w.heap.size w (w3.alloc (.cells #[.int .i64 lim, .int .i64 0, .int .i64 (-1)] 23)) := H3.out.trans (a2.mono (by omega))
  generalize (w3.alloc (.cells #[.int .i64 lim, .int .i64 0, .int .i64 (-1)] 23)) = w4 at a1 a2 a3 y1 y2 ⊢
  have A4 := Lib.hid a1
  have Z4 := Lib.hid y1
  have H4 := Lib.hid y2
  have z4 : w.heap.size < w4.heap.size := by omega
  clear a1 a2 y1 y2
  go_upto_region 7 with (go_at_call 20; ((with_reducible refine (C2.out _).mono ?_); rintro e w5 ⟨rfl, hb⟩; have Z5 := Lib.hid (Z4.out.below hb z4); have A5 := Lib.hid (A4.out.below hb a3); have H5 := Lib.hid (H4.out.trans (hb.mono H4.out.size)); have z5 : w.heap.size < w5.heap.size := Nat.lt_of_lt_of_le z4 hb.size; have a5 := Nat.lt_of_lt_of_le a3 hb.size; clear hb))
  obtain ⟨a1, a2, a4⟩ := k.boxes1 (w := w5) (c1 := #[.int .i64 c, .bool false, .int .i64 0]) (t1 := 25) (Below.refl _ _)
  have y1 := Z5.out.below a2 z5
  have y3 := A5.out.below a2 a5
  have y2 : Below w.heap.size w (w5.alloc (.cells #[.int .i64 c, .bool false, .int .i64 0] 25)) := H5.out.trans (a2.mono (by omega))
  generalize (w5.alloc (.cells #[.int .i64 c, .bool false, .int .i64 0] 25)) = w6 at a1 a2 a4 y1 y2 y3 ⊢
  have ⟨ac0, af0⟩ := k.cell_of y3 (i := 0) rfl
  have ⟨ac1, af1⟩ := k.cell_of y3 (i := 1) rfl
  have ⟨ac2, af2⟩ := k.cell_of y3 (i := 2) rfl
  have ⟨bc0, bf0⟩ := k.cell_of a1 (i := 0) rfl
  have ⟨bc1, bf1⟩ := k.cell_of a1 (i := 1) rfl
  have ⟨bc2, bf2⟩ := k.cell_of a1 (i := 2) rfl
  have Z6 := Lib.hid y1
  have H6 := Lib.hid y2
  clear y1 y2 y3 a1 a2
  iterate 16 go_step
  refine wpList_store_mid rfl 27 (.tmp 4) (.tmp 31) rfl (w.heap.size) 0 #[.int .i64 0, .int .i64 lim, .int .i64 0, .int .i64 (-1), .int .i64 c, .bool false, .int .i64 0, .int .i64 c, .bool false, .int .i64 0, .int .i64 c, .bool false, .int .i64 0, .int .i64 0, .bool false, .int .i64 0] rfl rfl (k.there_of Z6.out rfl) (by kernel_rfl) (by simp [Value.oneCell']) ?_
  obtain ⟨W, hW, h1, h2, h3, h5⟩ := k.stored (us := [.int .i64 0, .int .i64 lim, .int .i64 0, .int .i64 (-1), .int .i64 c, .bool false, .int .i64 0, .int .i64 c, .bool false, .int .i64 0, .int .i64 c, .bool false, .int .i64 0, .int .i64 0, .bool false, .int .i64 0]) Z6.out rfl
  change wpList _ _ _ _ _ (World.setCells _ _ _ [.int .i64 0, .int .i64 lim, .int .i64 0, .int .i64 (-1), .int .i64 c, .bool false, .int .i64 0, .int .i64 c, .bool false, .int .i64 0, .int .i64 c, .bool false, .int .i64 0, .int .i64 0, .bool false, .int .i64 0])
  rw [hW]
  have H1 := Lib.hid h1
  have H3 := Lib.hid (h3 w.heap.size (by omega))
  clear hW h1 h2 h3 h5
  go_wp2
  refine bodyPost_ret (k.results_cell_tmp rfl rfl (run_loadVar_mid W (w.heap.size) 0 27 _ _ H1.out.range rfl rfl (by kernel_rfl))) rfl ?_
  exact ⟨rfl, H6.out.trans H3.out⟩
set_option maxHeartbeats 4000000 in
theorem new_no (lim c : Int) (h : lim < 1 ∨ 100 < lim ∨ c < 1 ∨ 20 < c) (w : World) :
    Calls Try.prog 8 #[.int .i64 lim, .int .i64 c] w fun e w' => e = .returned (.tuple #[dV noD, .int .i64 1]) ∧ Below w.heap.size w w' := by
  by_cases h1 : lim < 1 ∨ 100 < lim
  · have C1 := Lib.hid fun W => u.new_no lim h1 W
    clear h h1
    unfold noD dV
    dsimp only
    go_enter Try.func8, Try.ntmps8
    go_upto_region 3 with (go_at_call 19; ((with_reducible refine (C1.out _).mono ?_); rintro e w3 ⟨rfl, hb⟩; obtain ⟨x1, x2, x3⟩ := k.boxes1 hb; have Z3 := Lib.hid x1; have H3 := Lib.hid x2; have z3 := x3; clear hb x1 x2 x3))
    obtain ⟨a1, a2, a3⟩ := k.boxes1 (w := w3) (c1 := #[.int .i64 0, .int .i64 0, .int .i64 0]) (t1 := 23) (Below.refl _ _)
    have y1 := Z3.out.below a2 z3
    have y2 : Below w.heap.size w (w3.alloc (.cells #[.int .i64 0, .int .i64 0, .int .i64 0] 23)) := H3.out.trans (a2.mono (by omega))
    generalize (w3.alloc (.cells #[.int .i64 0, .int .i64 0, .int .i64 0] 23)) = w4 at a1 a2 a3 y1 y2 ⊢
    have A4 := Lib.hid a1
    have Z4 := Lib.hid y1
    have H4 := Lib.hid y2
    have z4 : w.heap.size < w4.heap.size := by omega
    clear a1 a2 y1 y2
    iterate 7 go_step
    refine wpList_store_mid rfl 27 (.tmp 4) (.tmp 16) rfl (w.heap.size) 0 #[.int .i64 0, .int .i64 0, .int .i64 0, .int .i64 0, .int .i64 0, .bool false, .int .i64 0, .int .i64 0, .bool false, .int .i64 0, .int .i64 0, .bool false, .int .i64 0, .int .i64 0, .bool false, .int .i64 0] rfl rfl (k.there_of Z4.out rfl) (by kernel_rfl) (by simp [Value.oneCell']) ?_
    obtain ⟨W, hW, h1, h2, h3, h5⟩ := k.stored (us := [.int .i64 0, .int .i64 0, .int .i64 0, .int .i64 0, .int .i64 0, .bool false, .int .i64 0, .int .i64 0, .bool false, .int .i64 0, .int .i64 0, .bool false, .int .i64 0, .int .i64 0, .bool false, .int .i64 0]) Z4.out rfl
    change wpList _ _ _ _ _ (World.setCells _ _ _ [.int .i64 0, .int .i64 0, .int .i64 0, .int .i64 0, .int .i64 0, .bool false, .int .i64 0, .int .i64 0, .bool false, .int .i64 0, .int .i64 0, .bool false, .int .i64 0, .int .i64 0, .bool false, .int .i64 0])
    rw [hW]
    have H1 := Lib.hid h1
    have H3 := Lib.hid (h3 w.heap.size (by omega))
    clear hW h1 h2 h3 h5
    go_wp2
    refine bodyPost_ret (k.results_cell_tmp rfl rfl (run_loadVar_mid W (w.heap.size) 0 27 _ _ H1.out.range rfl rfl (by kernel_rfl))) rfl ?_
    exact ⟨rfl, H4.out.trans H3.out⟩
  · have C1 := Lib.hid fun W => u.new_yes lim (by omega) (by omega) W
    have C2 := Lib.hid fun W => v.new_no c false (by omega) W
    clear h h1
    unfold noD dV
    dsimp only
    go_enter Try.func8, Try.ntmps8
    go_upto_region 4 with (go_at_call 19; ((with_reducible refine (C1.out _).mono ?_); rintro e w3 ⟨rfl, hb⟩; obtain ⟨x1, x2, x3⟩ := k.boxes1 hb; have Z3 := Lib.hid x1; have H3 := Lib.hid x2; have z3 := x3; clear hb x1 x2 x3))
    obtain ⟨a1, a2, a3⟩ := k.boxes1 (w := w3) (c1 := #[.int .i64 lim, .int .i64 0, .int .i64 (-1)]) (t1 := 23) (Below.refl _ _)
    have y1 := Z3.out.below a2 z3
    have y2 : Below w.heap.size w (w3.alloc (.cells #[.int .i64 lim, .int .i64 0, .int .i64 (-1)] 23)) := H3.out.trans (a2.mono (by omega))
    generalize (w3.alloc (.cells #[.int .i64 lim, .int .i64 0, .int .i64 (-1)] 23)) = w4 at a1 a2 a3 y1 y2 ⊢
    have A4 := Lib.hid a1
    have Z4 := Lib.hid y1
    have H4 := Lib.hid y2
    have z4 : w.heap.size < w4.heap.size := by omega
    clear a1 a2 y1 y2
    go_upto_region 6 with (go_at_call 20; ((with_reducible refine (C2.out _).mono ?_); rintro e w5 ⟨rfl, hb⟩; have Z5 := Lib.hid (Z4.out.below hb z4); have H5 := Lib.hid (H4.out.trans (hb.mono H4.out.size)); have z5 : w.heap.size < w5.heap.size := Nat.lt_of_lt_of_le z4 hb.size; clear hb))
    obtain ⟨a1, a2, a3⟩ := k.boxes1 (w := w5) (c1 := #[.int .i64 0, .bool false, .int .i64 0]) (t1 := 25) (Below.refl _ _)
    have y1 := Z5.out.below a2 z5
    have y2 : Below w.heap.size w (w5.alloc (.cells #[.int .i64 0, .bool false, .int .i64 0] 25)) := H5.out.trans (a2.mono (by omega))
    generalize (w5.alloc (.cells #[.int .i64 0, .bool false, .int .i64 0] 25)) = w6 at a1 a2 a3 y1 y2 ⊢
    have A6 := Lib.hid a1
    have Z6 := Lib.hid y1
    have H6 := Lib.hid y2
    have z6 : w.heap.size < w6.heap.size := by omega
    clear a1 a2 y1 y2
    iterate 7 go_step
    refine wpList_store_mid rfl 27 (.tmp 4) (.tmp 25) rfl (w.heap.size) 0 #[.int .i64 0, .int .i64 0, .int .i64 0, .int .i64 0, .int .i64 0, .bool false, .int .i64 0, .int .i64 0, .bool false, .int .i64 0, .int .i64 0, .bool false, .int .i64 0, .int .i64 0, .bool false, .int .i64 0] rfl rfl (k.there_of Z6.out rfl) (by kernel_rfl) (by simp [Value.oneCell']) ?_
    obtain ⟨W, hW, h1, h2, h3, h5⟩ := k.stored (us := [.int .i64 0, .int .i64 0, .int .i64 0, .int .i64 0, .int .i64 0, .bool false, .int .i64 0, .int .i64 0, .bool false, .int .i64 0, .int .i64 0, .bool false, .int .i64 0, .int .i64 0, .bool false, .int .i64 0]) Z6.out rfl
    change wpList _ _ _ _ _ (World.setCells _ _ _ [.int .i64 0, .int .i64 0, .int .i64 0, .int .i64 0, .int .i64 0, .bool false, .int .i64 0, .int .i64 0, .bool false, .int .i64 0, .int .i64 0, .bool false, .int .i64 0, .int .i64 0, .bool false, .int .i64 0])
    rw [hW]
    have H1 := Lib.hid h1
    have H3 := Lib.hid (h3 w.heap.size (by omega))
    clear hW h1 h2 h3 h5
    go_wp2
    refine bodyPost_ret (k.results_cell_tmp rfl rfl (run_loadVar_mid W (w.heap.size) 0 27 _ _ H1.out.range rfl rfl (by kernel_rfl))) rfl ?_
    exact ⟨rfl, H6.out.trans H3.out⟩
set_option maxHeartbeats 4000000 in
theorem come_bad (d : D) (hw : WideD d) (h : ¬ RightD d) (A : Option Addr) (n cap : Nat) (w : World) :
    Calls Try.prog 11 #[dV d, .slice A n cap] w fun e w' => e = .returned (dV noD) ∧ Below w.heap.size w w' := by
  have CR := Lib.hid fun W => right_is (right_no h) hw W
  clear h hw
  obtain ⟨st, lim, mis, last, pc, pv, po, mc, mv, mo, hc, hv, ho, act, kn, sq⟩ := d
  unfold noD dV at *
  dsimp only at CR ⊢
  have M : Hid (k.Box ((w.alloc (.cells #[.int .i64 st, .int .i64 lim, .int .i64 mis, .int .i64 last, .int .i64 pc, .bool pv, .int .i64 po, .int .i64 mc, .bool mv, .int .i64 mo, .int .i64 hc, .bool hv, .int .i64 ho, .int .i64 act, .bool kn, .int .i64 sq] 27)).alloc (.cells #[.int .i64 0, .int .i64 0, .int .i64 0, .int .i64 0, .int .i64 0, .bool false, .int .i64 0, .int .i64 0, .bool false, .int .i64 0, .int .i64 0, .bool false, .int .i64 0, .int .i64 0, .bool false, .int .i64 0] 27)) w.heap.size 0 [.int .i64 st, .int .i64 lim, .int .i64 mis, .int .i64 last, .int .i64 pc, .bool pv, .int .i64 po, .int .i64 mc, .bool mv, .int .i64 mo, .int .i64 hc, .bool hv, .int .i64 ho, .int .i64 act, .bool kn, .int .i64 sq]) := Lib.hid (k.boxes2 (Below.refl _ _)).1
  go_enter Try.func11, Try.ntmps11
  go_upto_region 2 with (first | ((with_reducible refine k.load_wanted ?gwNCome 27 (.tmp 2) ?goNCome w.heap.size 0 ?gxNCome [.int .i64 st, .int .i64 lim, .int .i64 mis, .int .i64 last, .int .i64 pc, .bool pv, .int .i64 po, .int .i64 mc, .bool mv, .int .i64 mo, .int .i64 hc, .bool hv, .int .i64 ho, .int .i64 act, .bool kn, .int .i64 sq] ?gqNCome M.out.range ?guNCome ?gdNCome ?giNCome ?ghNCome); (case goNCome => rfl); (case gwNCome => rfl); (case gxNCome => rfl); (case guNCome => rfl); (case gdNCome => rfl); (case giNCome => kernel_rfl)) | (go_at_call 10; ((with_reducible refine (CR.out _).mono ?_); rintro e w3 ⟨rfl, hb⟩; obtain ⟨x1, x2, x3, x4⟩ := k.boxes2 hb; have B3 := Lib.hid x1; have Z3 := Lib.hid x2; have HB := Lib.hid x3; have z3 := x4; clear hb x1 x2 x3 x4)))
  clear M
  iterate 4 go_step
  refine wpList_store_mid rfl 27 (.tmp 4) (.tmp 11) rfl (w.heap.size + 1) 0 #[.int .i64 0, .int .i64 0, .int .i64 0, .int .i64 0, .int .i64 0, .bool false, .int .i64 0, .int .i64 0, .bool false, .int .i64 0, .int .i64 0, .bool false, .int .i64 0, .int .i64 0, .bool false, .int .i64 0] rfl rfl (k.there_of Z3.out rfl) (by kernel_rfl) (by simp [Value.oneCell']) ?_
  obtain ⟨W, hW, h1, h2, h3, h5⟩ := k.stored (us := [.int .i64 0, .int .i64 0, .int .i64 0, .int .i64 0, .int .i64 0, .bool false, .int .i64 0, .int .i64 0, .bool false, .int .i64 0, .int .i64 0, .bool false, .int .i64 0, .int .i64 0, .bool false, .int .i64 0]) Z3.out rfl
  change wpList _ _ _ _ _ (World.setCells _ _ _ [.int .i64 0, .int .i64 0, .int .i64 0, .int .i64 0, .int .i64 0, .bool false, .int .i64 0, .int .i64 0, .bool false, .int .i64 0, .int .i64 0, .bool false, .int .i64 0, .int .i64 0, .bool false, .int .i64 0])
  rw [hW]
  have H1 := Lib.hid h1
  have H3 := Lib.hid (h3 w.heap.size (by omega))
  clear hW h1 h2 h3 h5
  go_wp2
  refine bodyPost_ret (k.results_cell rfl rfl (run_loadVar_mid W (w.heap.size + 1) 0 27 _ _ H1.out.range rfl rfl (by kernel_rfl))) rfl ?_
  exact ⟨rfl, HB.out.trans H3.out⟩
set_option maxHeartbeats 4000000 in
theorem tell_bad (d : D) (hw : WideD d) (h : ¬ RightD d) (want clear : Bool) (p : Int) (w : World) :
    Calls Try.prog 12 #[dV d, .bool want, .bool clear, .int .i64 p] w fun e w' => ∃ A cap, e = .returned (.tuple #[dV noD, .slice A 0 cap]) ∧ cap ≤ maxLen ∧ Below w.heap.size w w' := by
  have CR := Lib.hid fun W => right_is (right_no h) hw W
  clear h hw
  obtain ⟨st, lim, mis, last, pc, pv, po, mc, mv, mo, hc, hv, ho, act, kn, sq⟩ := d
  unfold noD dV at *
  dsimp only at CR ⊢
  have M : Hid (k.Box ((w.alloc (.cells #[.int .i64 st, .int .i64 lim, .int .i64 mis, .int .i64 last, .int .i64 pc, .bool pv, .int .i64 po, .int .i64 mc, .bool mv, .int .i64 mo, .int .i64 hc, .bool hv, .int .i64 ho, .int .i64 act, .bool kn, .int .i64 sq] 27)).alloc (.cells #[.int .i64 0, .int .i64 0, .int .i64 0, .int .i64 0, .int .i64 0, .bool false, .int .i64 0, .int .i64 0, .bool false, .int .i64 0, .int .i64 0, .bool false, .int .i64 0, .int .i64 0, .bool false, .int .i64 0] 27)) w.heap.size 0 [.int .i64 st, .int .i64 lim, .int .i64 mis, .int .i64 last, .int .i64 pc, .bool pv, .int .i64 po, .int .i64 mc, .bool mv, .int .i64 mo, .int .i64 hc, .bool hv, .int .i64 ho, .int .i64 act, .bool kn, .int .i64 sq]) := Lib.hid (k.boxes2 (Below.refl _ _)).1
  go_enter Try.func12, Try.ntmps12
  go_upto_region 2 with (first | ((with_reducible refine k.load_wanted ?gwNTell 27 (.tmp 4) ?goNTell w.heap.size 0 ?gxNTell [.int .i64 st, .int .i64 lim, .int .i64 mis, .int .i64 last, .int .i64 pc, .bool pv, .int .i64 po, .int .i64 mc, .bool mv, .int .i64 mo, .int .i64 hc, .bool hv, .int .i64 ho, .int .i64 act, .bool kn, .int .i64 sq] ?gqNTell M.out.range ?guNTell ?gdNTell ?giNTell ?ghNTell); (case goNTell => rfl); (case gwNTell => rfl); (case gxNTell => rfl); (case guNTell => rfl); (case gdNTell => rfl); (case giNTell => kernel_rfl)) | (go_at_call 10; ((with_reducible refine (CR.out _).mono ?_); rintro e w3 ⟨rfl, hb⟩; obtain ⟨x1, x2, x3, x4⟩ := k.boxes2 hb; have B3 := Lib.hid x1; have Z3 := Lib.hid x2; have HB := Lib.hid x3; have z3 := x4; clear hb x1 x2 x3 x4)))
  clear M
  iterate 4 go_step
  refine wpList_store_mid rfl 27 (.tmp 8) (.tmp 15) rfl (w.heap.size + 1) 0 #[.int .i64 0, .int .i64 0, .int .i64 0, .int .i64 0, .int .i64 0, .bool false, .int .i64 0, .int .i64 0, .bool false, .int .i64 0, .int .i64 0, .bool false, .int .i64 0, .int .i64 0, .bool false, .int .i64 0] rfl rfl (k.there_of Z3.out rfl) (by kernel_rfl) (by simp [Value.oneCell']) ?_
  obtain ⟨W, hW, h1, h2, h3, h5⟩ := k.stored (us := [.int .i64 0, .int .i64 0, .int .i64 0, .int .i64 0, .int .i64 0, .bool false, .int .i64 0, .int .i64 0, .bool false, .int .i64 0, .int .i64 0, .bool false, .int .i64 0, .int .i64 0, .bool false, .int .i64 0]) Z3.out rfl
  change wpList _ _ _ _ _ (World.setCells _ _ _ [.int .i64 0, .int .i64 0, .int .i64 0, .int .i64 0, .int .i64 0, .bool false, .int .i64 0, .int .i64 0, .bool false, .int .i64 0, .int .i64 0, .bool false, .int .i64 0, .int .i64 0, .bool false, .int .i64 0])
  rw [hW]
  have H1 := Lib.hid h1
  have H3 := Lib.hid (h3 w.heap.size (by omega))
  clear hW h1 h2 h3 h5
  go_wp2
  refine bodyPost_ret (k.results_cell_tmp rfl rfl (run_loadVar_mid W (w.heap.size + 1) 0 27 _ _ H1.out.range rfl rfl (by kernel_rfl))) rfl ?_
  exact ⟨none, 0, rfl, by decide, HB.out.trans H3.out⟩
end Go.Proofs.Ytdfgjfojneoljaa.j
