/- What layer drive's Tell answers, of a drive that is right; what was in memory is as it was. No condition beyond that. -/
import Derived.Test.YtdfgjfojneoljaaJDriveB
import Derived.Test.YtdfgjfojneoljaaTSetP
namespace Go.Proofs.Ytdfgjfojneoljaa.j
open Go.ChangeShapes Go.WideShapes Go.ChangeAt Go.RowKit Go.Proofs.Ytdfgjfojneoljaa.s Go.Proofs.Ytdfgjfojneoljaa.t
set_option linter.unusedVariables false

theorem word_still (x : Int) (want clear : Bool) (w : World) : Calls Try.prog 31 #[.int .i64 x, .bool want, .bool clear] w fun e w' => e = .returned (.int .i64 (o.ctl x want clear)) ∧ w' = w :=
  (o.control_any x want clear w).mono fun _ _ h => ⟨h.1, h.2.symm⟩
theorem set_told (d : D) (h : RightD d) (want clear : Bool) (p : Int) (w : World) :
    Calls Try.prog 30 #[.agg #[.int .i64 d.sq, .int .i64 (o.ctl d.st want clear), .int .i64 p]] w fun e w' =>
      ∃ A cap, e = .returned (.tuple #[.slice A 13 cap, .int .i64 0]) ∧ Bytes w' w'.heap.size A (toldB d want clear p) ∧ 13 ≤ cap ∧ cap ≤ maxLen ∧ Below w.heap.size w w' ∧ NewAt w.heap.size A := by
  have hc := ctl_in d.st want clear
  have c := set_new (BitVec.ofInt 8 d.sq) (BitVec.ofInt 8 (o.ctl d.st want clear)) p (by rw [v8_of _ hc.1 (by omega)]; exact hc.2) w
  rw [v8_of _ hc.1 (by omega), v8_of _ h.2.2.2.2.2.2.2.1 h.2.2.2.2.2.2.2.2.1] at c
  exact c
set_option maxHeartbeats 4000000 in
theorem tell_ok (d : D) (h : RightD d) (want clear : Bool) (p : Int) (w : World) :
    Calls Try.prog 12 #[dV d, .bool want, .bool clear, .int .i64 p] w (TellPost d want clear p w) := by
  have CR := Lib.hid fun W => right_is (right_yes h) (wide_of h) W
  have hs0 := h.2.2.2.2.2.2.2.1
  have hs1 := h.2.2.2.2.2.2.2.2.1
  have HP := Lib.hid fun W => set_told d h want clear p W
  obtain ⟨V, eV⟩ : ∃ V, o.ctl d.st want clear = V := ⟨_, rfl⟩
  have HC := Lib.hid fun W => word_still d.st want clear W
  rw [eV] at HP HC
  clear eV
  have hT : Hid (tellD d = { d with sq := (d.sq + 1) % 256 }) := Lib.hid (by
    unfold tellD
    by_cases hq : d.sq + 1 = 256
    · rw [if_pos hq, hq]; rfl
    · rw [if_neg hq, Int.emod_eq_of_lt (by omega) (by omega)])
  clear h
  obtain ⟨st, lim, mis, last, pc, pv, po, mc, mv, mo, hc, hv, ho, act, kn, sq⟩ := d
  unfold dV at CR ⊢
  dsimp only at CR hs0 hs1 hT HC HP ⊢
  have M : Hid (k.Box ((w.alloc (.cells #[.int .i64 st, .int .i64 lim, .int .i64 mis, .int .i64 last, .int .i64 pc, .bool pv, .int .i64 po, .int .i64 mc, .bool mv, .int .i64 mo, .int .i64 hc, .bool hv, .int .i64 ho, .int .i64 act, .bool kn, .int .i64 sq] 27)).alloc (.cells #[.int .i64 0, .int .i64 0, .int .i64 0, .int .i64 0, .int .i64 0, .bool false, .int .i64 0, .int .i64 0, .bool false, .int .i64 0, .int .i64 0, .bool false, .int .i64 0, .int .i64 0, .bool false, .int .i64 0] 27)) w.heap.size 0 [.int .i64 st, .int .i64 lim, .int .i64 mis, .int .i64 last, .int .i64 pc, .bool pv, .int .i64 po, .int .i64 mc, .bool mv, .int .i64 mo, .int .i64 hc, .bool hv, .int .i64 ho, .int .i64 act, .bool kn, .int .i64 sq]) := Lib.hid (k.boxes2 (Below.refl _ _)).1
  go_enter Try.func12, Try.ntmps12
  go_upto_region 3 with (first | ((with_reducible refine k.load_wanted ?gwND1 27 (.tmp 4) ?goND1 w.heap.size 0 ?gxND1 [.int .i64 st, .int .i64 lim, .int .i64 mis, .int .i64 last, .int .i64 pc, .bool pv, .int .i64 po, .int .i64 mc, .bool mv, .int .i64 mo, .int .i64 hc, .bool hv, .int .i64 ho, .int .i64 act, .bool kn, .int .i64 sq] ?gqND1 M.out.range ?guND1 ?gdND1 ?giND1 ?ghND1); (case goND1 => rfl); (case gwND1 => rfl); (case gxND1 => rfl); (case guND1 => rfl); (case gdND1 => rfl); (case giND1 => kernel_rfl)) | (go_at_call 10; ((with_reducible refine (CR.out _).mono ?_); rintro e v0 ⟨rfl, hb⟩; obtain ⟨x1, x2, x3, x4⟩ := k.boxes2 hb; have Bv0 := Lib.hid x1; have Zv0 := Lib.hid x2; have Hv0 := Lib.hid x3; have zv0 := x4; clear hb x1 x2 x3 x4)))
  clear M
  have ⟨bc0, bf0⟩ := k.cell_of Bv0.out (i := 0) rfl
  have ⟨bc15, bf15⟩ := k.cell_of Bv0.out (i := 15) rfl
  clear bf0 bf15
  go_region_held3 (fun w' => w'.cell? ⟨w.heap.size, 15, none⟩ = some (.int .i64 sq) ∧ w'.cell? ⟨w.heap.size, 0, none⟩ = some (.int .i64 st))
    (go_keep)
    ((first
      | (go_at_call 31; ((with_reducible refine (HC.out _).mono ?_); rintro e w2 ⟨rfl, rfl⟩))
      | (go_at_call 30; (refine (HP.out _).mono ?_; rintro e w3 ⟨A, cap, rfl, hB, h1, h2, hb0, hn⟩; have hb : Below v0.heap.size v0 w3 := (Below.refl _ _).drew.trans hb0; have Y5 := Lib.hid (hn.mono (show w.heap.size + 1 + 1 ≤ _ from zv0)); have Y1 := Lib.hid (Bv0.out.below hb (by omega)); have Y2 := Lib.hid (Zv0.out.below hb zv0); have Y3 := Lib.hid (Hv0.out.trans (hb.mono Hv0.out.size)); have hz3 : w.heap.size + 1 < w3.heap.size := Nat.lt_of_lt_of_le zv0 hb.size; have Y4 := Lib.hid (And.intro hB (And.intro h1 h2)); clear hB h1 h2 hb hb0 hn bc0 bc15; have bc0 := (k.cell_of Y1.out (i := 0) rfl).1; have bc15 := (k.cell_of Y1.out (i := 15) rfl).1))))
  all_goals
    have bf15 := (k.cell_of Y1.out (i := 15) rfl).2
    clear bc0
    have hwr : IntKind.i64.wrap (sq + 1) = sq + 1 := IntWalk.i64_in _ (by omega)
    go_upto_region 5 with (fail)
    go_step
    refine wpList_load_mid rfl 27 (.tmp 4) rfl w.heap.size 0 rfl [.int .i64 st, .int .i64 lim, .int .i64 mis, .int .i64 last, .int .i64 pc, .bool pv, .int .i64 po, .int .i64 mc, .bool mv, .int .i64 mo, .int .i64 hc, .bool hv, .int .i64 ho, .int .i64 act, .bool kn, .int .i64 ((sq + 1) % 256)] _ (k.Box.range (Y1.out.put 15 (by simp) (.int .i64 ((sq + 1) % 256)))) rfl rfl (by kernel_rfl) ?_
    iterate 3 go_step
    refine wpList_store_mid rfl 27 (.tmp 8) (.tmp 34) rfl (w.heap.size + 1) 0 #[.int .i64 st, .int .i64 lim, .int .i64 mis, .int .i64 last, .int .i64 pc, .bool pv, .int .i64 po, .int .i64 mc, .bool mv, .int .i64 mo, .int .i64 hc, .bool hv, .int .i64 ho, .int .i64 act, .bool kn, .int .i64 ((sq + 1) % 256)] rfl rfl (k.there_of (k.Box_aside (i := 15) (show w.heap.size ≠ w.heap.size + 1 by omega) (.int .i64 ((sq + 1) % 256)) Y2.out) rfl) (by kernel_rfl) (by simp [Value.oneCell']) ?_
    obtain ⟨W, hW, h1, h2, h3, h5⟩ := k.stored (us := [.int .i64 st, .int .i64 lim, .int .i64 mis, .int .i64 last, .int .i64 pc, .bool pv, .int .i64 po, .int .i64 mc, .bool mv, .int .i64 mo, .int .i64 hc, .bool hv, .int .i64 ho, .int .i64 act, .bool kn, .int .i64 ((sq + 1) % 256)]) (k.Box_aside (i := 15) (show w.heap.size ≠ w.heap.size + 1 by omega) (.int .i64 ((sq + 1) % 256)) Y2.out) rfl
    have BB := (show Below w.heap.size w (w3.setCell ⟨w.heap.size, 15, none⟩ (.int .i64 ((sq + 1) % 256))) from Y3.out.setCell (Nat.le_refl _) _)
    have AA := (show k.Above (w.heap.size + 1 + 1) w3 (w3.setCell ⟨w.heap.size, 15, none⟩ (.int .i64 ((sq + 1) % 256))) from (k.Above.refl _ w3).set (by omega) _)
    have h4 := h3 w.heap.size (by omega)
    have h6 := h5 (w.heap.size + 1 + 1) (by omega)
    change wpList _ _ _ _ _ (World.setCells _ _ _ [.int .i64 st, .int .i64 lim, .int .i64 mis, .int .i64 last, .int .i64 pc, .bool pv, .int .i64 po, .int .i64 mc, .bool mv, .int .i64 mo, .int .i64 hc, .bool hv, .int .i64 ho, .int .i64 act, .bool kn, .int .i64 ((sq + 1) % 256)])
    rw [hW]
    have H6 := Lib.hid (And.intro h2 (And.intro h4 h6))
    have HBB := Lib.hid (And.intro BB AA)
    clear hW h2 h3 h4 h5 h6 BB AA bc15 bf15
    have H1 := Lib.hid h1
    clear h1
    go_wp2
    refine bodyPost_ret (k.results_cell_tmp rfl rfl (run_loadVar_mid W (w.heap.size + 1) 0 27 _ _ H1.out.range rfl rfl (by kernel_rfl))) rfl ?_
    exact ⟨A, cap, by rw [hT.out]; rfl, (bytes_above Y4.out.1 Y5.out (HBB.out.2.trans H6.out.2.2)).more (by rw [H6.out.1]; simp), Y4.out.2.1, Y4.out.2.2, HBB.out.1.trans H6.out.2.1, Y5.out.mono (by omega)⟩
end Go.Proofs.Ytdfgjfojneoljaa.j
