/- What servitorref07's Tell answers, of a drive that is right; what was in memory is as it was. No condition beyond that. -/
import Derived.Test.YtdfgjfojneoljaaJMath
import Derived.Test.YtdfgjfojneoljaaORefS
import Derived.Test.YtdfgjfojneoljaaKStore
namespace Go.Proofs.Ytdfgjfojneoljaa.j
open Go.ChangeShapes Go.WideShapes Go.ChangeAt Go.RowKit Go.Proofs.Ytdfgjfojneoljaa.s Go.Proofs.Ytdfgjfojneoljaa.t
set_option linter.unusedVariables false

theorem bytes_above {lo B : Nat} {w w' : World} {A : Option Addr} {l : List (BitVec 8)} (h : Bytes w B A l) (hn : NewAt lo A) (ha : k.Above lo w w') : Bytes w' B A l := fun hl => by
  obtain ⟨b, off, e, hB, hc⟩ := h hl
  obtain ⟨g, e2, hg⟩ := hn
  have : b = g := by rw [e] at e2; injection e2 with e2; injection e2
  exact ⟨b, off, e, hB, fun i hi => (ha _ _ (by omega)).trans (hc i hi)⟩
theorem ctl_in (x : Int) (want clear : Bool) : 0 ≤ o.ctl x want clear ∧ o.ctl x want clear ≤ 7 := by
  unfold o.ctl
  repeat (first | omega | split)
noncomputable def toldB (d : D) (want clear : Bool) (p : Int) : List (BitVec 8) := frameV signS (BitVec.ofInt 8 d.sq) (BitVec.ofInt 8 (o.ctl d.st want clear)) (place64 p)
def TellPost (d : D) (want clear : Bool) (p : Int) (w : World) (e : Ending) (w' : World) : Prop :=
  ∃ A cap, e = .returned (.tuple #[dV (tellD d), .slice A 13 cap]) ∧ Bytes w' w'.heap.size A (toldB d want clear p) ∧ 13 ≤ cap ∧ cap ≤ maxLen ∧ Below w.heap.size w w' ∧ NewAt w.heap.size A
theorem control_still (x : Int) (want clear : Bool) (w : World) : Calls Try.prog 33 #[.int .i64 x, .bool want, .bool clear] w fun e w' => e = .returned (.int .i64 (o.ctl x want clear)) ∧ w' = w :=
  (o.refcontrol_any x want clear w).mono fun _ _ h => ⟨h.1, h.2.symm⟩
theorem put_told (d : D) (h : RightD d) (want clear : Bool) (p : Int) (w : World) :
    Calls Try.prog 17 #[.int .u8 83, .int .i64 7, .int .i64 d.sq, .int .i64 (o.ctl d.st want clear), .int .i64 p] w fun e w' =>
      ∃ A cap, e = .returned (.tuple #[.slice A 13 cap, .int .i64 0]) ∧ Bytes w' w'.heap.size A (toldB d want clear p) ∧ 13 ≤ cap ∧ cap ≤ maxLen ∧ Below w.heap.size w w' ∧ NewAt w.heap.size A := by
  have hc := ctl_in d.st want clear
  have c := ref_put_new signS (BitVec.ofInt 8 d.sq) (BitVec.ofInt 8 (o.ctl d.st want clear)) 7 p (by rw [v8_of _ hc.1 (by omega)]; exact hc.2) w
  rw [v8_of _ hc.1 (by omega), v8_of _ h.2.2.2.2.2.2.2.1 h.2.2.2.2.2.2.2.2.1, signS_val] at c
  exact c
set_option maxHeartbeats 1000000 in
theorem reftell_any (d : D) (h : RightD d) (want clear : Bool) (p : Int) (w : World) :
    Calls Try.prog 14 #[dV d, .bool want, .bool clear, .int .i64 p] w (TellPost d want clear p w) := by
  have hs0 := h.2.2.2.2.2.2.2.1
  have hs1 := h.2.2.2.2.2.2.2.2.1
  have HP := Lib.hid fun W => put_told d h want clear p W
  obtain ⟨V, eV⟩ : ∃ V, o.ctl d.st want clear = V := ⟨_, rfl⟩
  have HC := Lib.hid fun W => control_still d.st want clear W
  rw [eV] at HP HC
  clear eV
  by_cases hq : d.sq = 255
  · have hT : Hid (tellD d = { d with sq := 0 }) := Lib.hid (by unfold tellD; rw [hq]; rfl)
    have hqb : (d.sq + 1 == 256) = true := by rw [hq]; rfl
    clear h hq
    obtain ⟨st, lim, mis, last, pc, pv, po, mc, mv, mo, hc, hv, ho, act, kn, sq⟩ := d
    unfold dV
    dsimp only at hs0 hs1 hqb HC HP ⊢
    go_enter Try.func14, Try.ntmps14
    go_wp2
    go_region_held3 (fun w' => w'.cell? ⟨w.heap.size, 15, none⟩ = some (.int .i64 sq) ∧ w'.cell? ⟨w.heap.size, 0, none⟩ = some (.int .i64 st))
      (go_keep)
      ((first
        | (go_at_call 33; ((with_reducible refine (HC.out _).mono ?_); rintro e w2 ⟨rfl, rfl⟩))
        | (go_at_call 17; (refine (HP.out _).mono ?_; rintro e w3 ⟨A, cap, rfl, hB, h1, h2, hb0, hn⟩; have hb : Below ((w.alloc (.cells #[.int .i64 st, .int .i64 lim, .int .i64 mis, .int .i64 last, .int .i64 pc, .bool pv, .int .i64 po, .int .i64 mc, .bool mv, .int .i64 mo, .int .i64 hc, .bool hv, .int .i64 ho, .int .i64 act, .bool kn, .int .i64 sq] 27)).alloc (.cells #[.int .i64 0, .int .i64 0, .int .i64 0, .int .i64 0, .int .i64 0, .bool false, .int .i64 0, .int .i64 0, .bool false, .int .i64 0, .int .i64 0, .bool false, .int .i64 0, .int .i64 0, .bool false, .int .i64 0] 27)).heap.size ((w.alloc (.cells #[.int .i64 st, .int .i64 lim, .int .i64 mis, .int .i64 last, .int .i64 pc, .bool pv, .int .i64 po, .int .i64 mc, .bool mv, .int .i64 mo, .int .i64 hc, .bool hv, .int .i64 ho, .int .i64 act, .bool kn, .int .i64 sq] 27)).alloc (.cells #[.int .i64 0, .int .i64 0, .int .i64 0, .int .i64 0, .int .i64 0, .bool false, .int .i64 0, .int .i64 0, .bool false, .int .i64 0, .int .i64 0, .bool false, .int .i64 0, .int .i64 0, .bool false, .int .i64 0] 27)) w3 := (Below.refl _ _).drew.trans hb0; obtain ⟨x1, x2, x3, hz3⟩ := k.boxes2 hb; have Y5 := Lib.hid (hn.mono (show w.heap.size + 1 + 1 ≤ _ from by simp)); have Y1 := Lib.hid x1; have Y2 := Lib.hid x2; have Y3 := Lib.hid x3; have Y4 := Lib.hid (And.intro hB (And.intro h1 h2)); clear hB h1 h2 hb hb0 hn x1 x2 x3; have bc0 := (k.box16 Y1.out).1; have bc15 := (k.box16 Y1.out).2.2.2.2.2.2.2.2.2.2.2.2.2.2.2.2.2.2.2.2.2.2.2.2.2.2.2.2.2.2.1))))
    all_goals
      clear bc0 bc15
      obtain ⟨bc0, bf0, bc1, bf1, bc2, bf2, bc3, bf3, bc4, bf4, bc5, bf5, bc6, bf6, bc7, bf7, bc8, bf8, bc9, bf9, bc10, bf10, bc11, bf11, bc12, bf12, bc13, bf13, bc14, bf14, bc15, bf15⟩ := k.box16 (Y1.out)
      obtain ⟨zc0, zf0, zc1, zf1, zc2, zf2, zc3, zf3, zc4, zf4, zc5, zf5, zc6, zf6, zc7, zf7, zc8, zf8, zc9, zf9, zc10, zf10, zc11, zf11, zc12, zf12, zc13, zf13, zc14, zf14, zc15, zf15⟩ := k.box16 (Y2.out)
      go_upto_region 5 with (fail)
      go_step
      refine wpList_load_mid rfl 27 (.tmp 4) rfl w.heap.size 0 rfl [.int .i64 st, .int .i64 lim, .int .i64 mis, .int .i64 last, .int .i64 pc, .bool pv, .int .i64 po, .int .i64 mc, .bool mv, .int .i64 mo, .int .i64 hc, .bool hv, .int .i64 ho, .int .i64 act, .bool kn, .int .i64 0] _ (k.Box.range ((Y1.out.put 15 (by simp) (.int .i64 (sq + 1))).put 15 (by simp) (.int .i64 0))) rfl rfl (by kernel_rfl) ?_
      iterate 3 go_step
      refine wpList_store_mid rfl 27 (.tmp 8) (.tmp 32) rfl (w.heap.size + 1) 0 #[.int .i64 st, .int .i64 lim, .int .i64 mis, .int .i64 last, .int .i64 pc, .bool pv, .int .i64 po, .int .i64 mc, .bool mv, .int .i64 mo, .int .i64 hc, .bool hv, .int .i64 ho, .int .i64 act, .bool kn, .int .i64 0] rfl rfl (k.there_of (k.Box_aside (i := 15) (show w.heap.size ≠ w.heap.size + 1 by omega) (.int .i64 0) (k.Box_aside (i := 15) (show w.heap.size ≠ w.heap.size + 1 by omega) (.int .i64 (sq + 1)) Y2.out)) rfl) (by kernel_rfl) (by simp [Value.oneCell']) ?_
      obtain ⟨W, hW, h1, h2, h3, h5⟩ := k.stored (us := [.int .i64 st, .int .i64 lim, .int .i64 mis, .int .i64 last, .int .i64 pc, .bool pv, .int .i64 po, .int .i64 mc, .bool mv, .int .i64 mo, .int .i64 hc, .bool hv, .int .i64 ho, .int .i64 act, .bool kn, .int .i64 0]) (k.Box_aside (i := 15) (show w.heap.size ≠ w.heap.size + 1 by omega) (.int .i64 0) (k.Box_aside (i := 15) (show w.heap.size ≠ w.heap.size + 1 by omega) (.int .i64 (sq + 1)) Y2.out)) rfl
      have BB := (show Below w.heap.size w ((w3.setCell ⟨w.heap.size, 15, none⟩ (.int .i64 (sq + 1))).setCell ⟨w.heap.size, 15, none⟩ (.int .i64 0)) from (Y3.out.setCell (Nat.le_refl _) _).setCell (Nat.le_refl _) _)
      have AA := (show k.Above (w.heap.size + 1 + 1) w3 ((w3.setCell ⟨w.heap.size, 15, none⟩ (.int .i64 (sq + 1))).setCell ⟨w.heap.size, 15, none⟩ (.int .i64 0)) from ((k.Above.refl _ w3).set (by omega) _).set (by omega) _)
      have h4 := h3 w.heap.size (by omega)
      have h6 := h5 (w.heap.size + 1 + 1) (by omega)
      change wpList _ _ _ _ _ (World.setCells _ _ _ [.int .i64 st, .int .i64 lim, .int .i64 mis, .int .i64 last, .int .i64 pc, .bool pv, .int .i64 po, .int .i64 mc, .bool mv, .int .i64 mo, .int .i64 hc, .bool hv, .int .i64 ho, .int .i64 act, .bool kn, .int .i64 0])
      rw [hW]
      have H6 := Lib.hid (And.intro h2 (And.intro h4 h6))
      have HBB := Lib.hid (And.intro BB AA)
      clear hW h2 h3 h4 h5 h6 BB AA bc0 bc1 bc2 bc3 bc4 bc5 bc6 bc7 bc8 bc9 bc10 bc11 bc12 bc13 bc14 bc15 bf0 bf1 bf2 bf3 bf4 bf5 bf6 bf7 bf8 bf9 bf10 bf11 bf12 bf13 bf14 bf15 zc0 zc1 zc2 zc3 zc4 zc5 zc6 zc7 zc8 zc9 zc10 zc11 zc12 zc13 zc14 zc15 zf0 zf1 zf2 zf3 zf4 zf5 zf6 zf7 zf8 zf9 zf10 zf11 zf12 zf13 zf14 zf15
      have H1 := Lib.hid h1
      clear h1
      go_wp2
      refine bodyPost_ret (k.results_cell_tmp rfl rfl (run_loadVar_mid W (w.heap.size + 1) 0 27 _ _ H1.out.range rfl rfl (by kernel_rfl))) rfl ?_
      exact ⟨A, cap, by rw [hT.out]; rfl, (bytes_above Y4.out.1 Y5.out (HBB.out.2.trans H6.out.2.2)).more (by rw [H6.out.1]; simp), Y4.out.2.1, Y4.out.2.2, HBB.out.1.trans H6.out.2.1, Y5.out.mono (by omega)⟩
  · have hT : Hid (tellD d = { d with sq := d.sq + 1 }) := Lib.hid (by unfold tellD; rw [if_neg (by omega)])
    have hqb : (d.sq + 1 == 256) = false := by rw [beq_eq_false_iff_ne]; omega
    clear h hq
    obtain ⟨st, lim, mis, last, pc, pv, po, mc, mv, mo, hc, hv, ho, act, kn, sq⟩ := d
    unfold dV
    dsimp only at hs0 hs1 hqb HC HP ⊢
    go_enter Try.func14, Try.ntmps14
    go_wp2
    go_region_held3 (fun w' => w'.cell? ⟨w.heap.size, 15, none⟩ = some (.int .i64 sq) ∧ w'.cell? ⟨w.heap.size, 0, none⟩ = some (.int .i64 st))
      (go_keep)
      ((first
        | (go_at_call 33; ((with_reducible refine (HC.out _).mono ?_); rintro e w2 ⟨rfl, rfl⟩))
        | (go_at_call 17; (refine (HP.out _).mono ?_; rintro e w3 ⟨A, cap, rfl, hB, h1, h2, hb0, hn⟩; have hb : Below ((w.alloc (.cells #[.int .i64 st, .int .i64 lim, .int .i64 mis, .int .i64 last, .int .i64 pc, .bool pv, .int .i64 po, .int .i64 mc, .bool mv, .int .i64 mo, .int .i64 hc, .bool hv, .int .i64 ho, .int .i64 act, .bool kn, .int .i64 sq] 27)).alloc (.cells #[.int .i64 0, .int .i64 0, .int .i64 0, .int .i64 0, .int .i64 0, .bool false, .int .i64 0, .int .i64 0, .bool false, .int .i64 0, .int .i64 0, .bool false, .int .i64 0, .int .i64 0, .bool false, .int .i64 0] 27)).heap.size ((w.alloc (.cells #[.int .i64 st, .int .i64 lim, .int .i64 mis, .int .i64 last, .int .i64 pc, .bool pv, .int .i64 po, .int .i64 mc, .bool mv, .int .i64 mo, .int .i64 hc, .bool hv, .int .i64 ho, .int .i64 act, .bool kn, .int .i64 sq] 27)).alloc (.cells #[.int .i64 0, .int .i64 0, .int .i64 0, .int .i64 0, .int .i64 0, .bool false, .int .i64 0, .int .i64 0, .bool false, .int .i64 0, .int .i64 0, .bool false, .int .i64 0, .int .i64 0, .bool false, .int .i64 0] 27)) w3 := (Below.refl _ _).drew.trans hb0; obtain ⟨x1, x2, x3, hz3⟩ := k.boxes2 hb; have Y5 := Lib.hid (hn.mono (show w.heap.size + 1 + 1 ≤ _ from by simp)); have Y1 := Lib.hid x1; have Y2 := Lib.hid x2; have Y3 := Lib.hid x3; have Y4 := Lib.hid (And.intro hB (And.intro h1 h2)); clear hB h1 h2 hb hb0 hn x1 x2 x3; have bc0 := (k.box16 Y1.out).1; have bc15 := (k.box16 Y1.out).2.2.2.2.2.2.2.2.2.2.2.2.2.2.2.2.2.2.2.2.2.2.2.2.2.2.2.2.2.2.1))))
    all_goals
      clear bc0 bc15
      obtain ⟨bc0, bf0, bc1, bf1, bc2, bf2, bc3, bf3, bc4, bf4, bc5, bf5, bc6, bf6, bc7, bf7, bc8, bf8, bc9, bf9, bc10, bf10, bc11, bf11, bc12, bf12, bc13, bf13, bc14, bf14, bc15, bf15⟩ := k.box16 (Y1.out)
      obtain ⟨zc0, zf0, zc1, zf1, zc2, zf2, zc3, zf3, zc4, zf4, zc5, zf5, zc6, zf6, zc7, zf7, zc8, zf8, zc9, zf9, zc10, zf10, zc11, zf11, zc12, zf12, zc13, zf13, zc14, zf14, zc15, zf15⟩ := k.box16 (Y2.out)
      go_upto_region 5 with (fail)
      go_step
      refine wpList_load_mid rfl 27 (.tmp 4) rfl w.heap.size 0 rfl [.int .i64 st, .int .i64 lim, .int .i64 mis, .int .i64 last, .int .i64 pc, .bool pv, .int .i64 po, .int .i64 mc, .bool mv, .int .i64 mo, .int .i64 hc, .bool hv, .int .i64 ho, .int .i64 act, .bool kn, .int .i64 (sq + 1)] _ (k.Box.range (Y1.out.put 15 (by simp) (.int .i64 (sq + 1)))) rfl rfl (by kernel_rfl) ?_
      iterate 3 go_step
      refine wpList_store_mid rfl 27 (.tmp 8) (.tmp 32) rfl (w.heap.size + 1) 0 #[.int .i64 st, .int .i64 lim, .int .i64 mis, .int .i64 last, .int .i64 pc, .bool pv, .int .i64 po, .int .i64 mc, .bool mv, .int .i64 mo, .int .i64 hc, .bool hv, .int .i64 ho, .int .i64 act, .bool kn, .int .i64 (sq + 1)] rfl rfl (k.there_of (k.Box_aside (i := 15) (show w.heap.size ≠ w.heap.size + 1 by omega) (.int .i64 (sq + 1)) Y2.out) rfl) (by kernel_rfl) (by simp [Value.oneCell']) ?_
      obtain ⟨W, hW, h1, h2, h3, h5⟩ := k.stored (us := [.int .i64 st, .int .i64 lim, .int .i64 mis, .int .i64 last, .int .i64 pc, .bool pv, .int .i64 po, .int .i64 mc, .bool mv, .int .i64 mo, .int .i64 hc, .bool hv, .int .i64 ho, .int .i64 act, .bool kn, .int .i64 (sq + 1)]) (k.Box_aside (i := 15) (show w.heap.size ≠ w.heap.size + 1 by omega) (.int .i64 (sq + 1)) Y2.out) rfl
      have BB := (show Below w.heap.size w (w3.setCell ⟨w.heap.size, 15, none⟩ (.int .i64 (sq + 1))) from Y3.out.setCell (Nat.le_refl _) _)
      have AA := (show k.Above (w.heap.size + 1 + 1) w3 (w3.setCell ⟨w.heap.size, 15, none⟩ (.int .i64 (sq + 1))) from (k.Above.refl _ w3).set (by omega) _)
      have h4 := h3 w.heap.size (by omega)
      have h6 := h5 (w.heap.size + 1 + 1) (by omega)
      change wpList _ _ _ _ _ (World.setCells _ _ _ [.int .i64 st, .int .i64 lim, .int .i64 mis, .int .i64 last, .int .i64 pc, .bool pv, .int .i64 po, .int .i64 mc, .bool mv, .int .i64 mo, .int .i64 hc, .bool hv, .int .i64 ho, .int .i64 act, .bool kn, .int .i64 (sq + 1)])
      rw [hW]
      have H6 := Lib.hid (And.intro h2 (And.intro h4 h6))
      have HBB := Lib.hid (And.intro BB AA)
      clear hW h2 h3 h4 h5 h6 BB AA bc0 bc1 bc2 bc3 bc4 bc5 bc6 bc7 bc8 bc9 bc10 bc11 bc12 bc13 bc14 bc15 bf0 bf1 bf2 bf3 bf4 bf5 bf6 bf7 bf8 bf9 bf10 bf11 bf12 bf13 bf14 bf15 zc0 zc1 zc2 zc3 zc4 zc5 zc6 zc7 zc8 zc9 zc10 zc11 zc12 zc13 zc14 zc15 zf0 zf1 zf2 zf3 zf4 zf5 zf6 zf7 zf8 zf9 zf10 zf11 zf12 zf13 zf14 zf15
      have H1 := Lib.hid h1
      clear h1
      go_wp2
      refine bodyPost_ret (k.results_cell_tmp rfl rfl (run_loadVar_mid W (w.heap.size + 1) 0 27 _ _ H1.out.range rfl rfl (by kernel_rfl))) rfl ?_
      exact ⟨A, cap, by rw [hT.out]; rfl, (bytes_above Y4.out.1 Y5.out (HBB.out.2.trans H6.out.2.2)).more (by rw [H6.out.1]; simp), Y4.out.2.1, Y4.out.2.2, HBB.out.1.trans H6.out.2.1, Y5.out.mono (by omega)⟩
end Go.Proofs.Ytdfgjfojneoljaa.j
