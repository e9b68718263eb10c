/- Stage 9's fixed answer: the chapter's example, and what a step of the way is. No condition but what each line says. -/
import Derived.Test.YtmfigpjofakdnaaGGen
namespace Go.Proofs.Ytmfigpjofakdnaa.gn
open Go.ChangeShapes Go.WideShapes Go.ChangeAt Go.RowKit Go.Proofs.Ytmfigpjofakdnaa.k Go.Proofs.Ytmfigpjofakdnaa.b Go.Proofs.Ytmfigpjofakdnaa
set_option linter.unusedVariables false

def exL : L := ⟨5, 2, 3, -100, 100⟩
theorem exL_right : RightL exL := by decide
def posT (k : Nat) : Int := [0, 2, 6, 11, 16, 19, 20, 20].getD k 0
def velT (k : Nat) : Int := [0, 2, 4, 5, 5, 3, 1, 0].getD k 0
theorem ex_to {p v r : Int} (h1 : -100 ≤ p) (h2 : p < 20) (hv : 0 ≤ v) (h : IsReach (20 - p) 3 r) : toV exL p v 20 9 = min 9 r := by
  unfold toV
  have e : clamp 20 exL.lo exL.hi = 20 := by decide
  rw [e, if_pos ⟨h2, hv⟩, show vel 9 = 9 by decide]
  have hq : reachV (20 - p) exL.D = r := reachV_of (by decide) h
  rw [hq]
theorem ex_step {p v x r : Int} (hs : SafeP exL p v) (hv : 0 ≤ v) (hv2 : v ≤ 5) (hp : p ≤ 20) (hx : 0 ≤ x) (h : clamp x (nextV v 3) (max (nextV v 3) (min (v + 2) 5)) = r) : stepV exL p v x = r := by
  rw [step_up exL_right hv (by omega) hx hs]
  have hr : 5 ≤ reachV (exL.hi - p) exL.D := reach_ge (by show 0 ≤ 100 - p; omega) (by decide) (by omega) (by
    have : 5 + slow 5 0 exL.D = 7 := by decide
    rw [this]; show 7 ≤ 100 - p; omega)
  unfold goV hiOf
  rw [show min (min (v + exL.A) exL.V) (reachV (exL.hi - p) exL.D) = min (v + 2) 5 from by
    show min (min (v + 2) 5) _ = _
    omega]
  exact h
theorem ex_round (k : Nat) (hk : k < 7) : SafeP exL (posT k) (velT k) ∧ ∃ x, Wide x ∧ toV exL (posT k) (velT k) 20 9 = x ∧ stepV exL (posT k) (velT k) x = velT (k + 1) ∧ posT k + velT (k + 1) = posT (k + 1) := by
  have h : k = 0 ∨ k = 1 ∨ k = 2 ∨ k = 3 ∨ k = 4 ∨ k = 5 ∨ k = 6 := by omega
  rcases h with rfl | rfl | rfl | rfl | rfl | rfl | rfl
  · exact ⟨by decide, 9, by unfold Wide; omega, ex_to (r := 9) (by decide) (by decide) (by decide) (by unfold IsReach; decide), ex_step (by decide) (by decide) (by decide) (by decide) (by decide) (by decide), by decide⟩
  · exact ⟨by decide, 9, by unfold Wide; omega, ex_to (r := 9) (by decide) (by decide) (by decide) (by unfold IsReach; decide), ex_step (by decide) (by decide) (by decide) (by decide) (by decide) (by decide), by decide⟩
  · exact ⟨by decide, 7, by unfold Wide; omega, ex_to (r := 7) (by decide) (by decide) (by decide) (by unfold IsReach; decide), ex_step (by decide) (by decide) (by decide) (by decide) (by decide) (by decide), by decide⟩
  · exact ⟨by decide, 6, by unfold Wide; omega, ex_to (r := 6) (by decide) (by decide) (by decide) (by unfold IsReach; decide), ex_step (by decide) (by decide) (by decide) (by decide) (by decide) (by decide), by decide⟩
  · exact ⟨by decide, 3, by unfold Wide; omega, ex_to (r := 3) (by decide) (by decide) (by decide) (by unfold IsReach; decide), ex_step (by decide) (by decide) (by decide) (by decide) (by decide) (by decide), by decide⟩
  · exact ⟨by decide, 1, by unfold Wide; omega, ex_to (r := 1) (by decide) (by decide) (by decide) (by unfold IsReach; decide), ex_step (by decide) (by decide) (by decide) (by decide) (by decide) (by decide), by decide⟩
  · exact ⟨by decide, 0, by unfold Wide; omega, by unfold toV; rw [if_neg (by decide), if_neg (by decide)], ex_step (by decide) (by decide) (by decide) (by decide) (by decide) (by decide), by decide⟩
-- AWAKE
theorem arr_at (k : Nat) (hk : k < 7) : ([.int .i64 2, .int .i64 4, .int .i64 5, .int .i64 5, .int .i64 3, .int .i64 1, .int .i64 0] : List Value)[k]? = some (.int .i64 (velT (k + 1))) := by
  have h : k = 0 ∨ k = 1 ∨ k = 2 ∨ k = 3 ∨ k = 4 ∨ k = 5 ∨ k = 6 := by omega
  rcases h with rfl | rfl | rfl | rfl | rfl | rfl | rfl <;> rfl
set_option maxHeartbeats 2000000 in
theorem awake_any (w : World) : Calls Try.prog 9 #[] w fun e w' => e = .returned (.bool true) ∧ Below w.heap.size w w' := by
  have HE := Lib.hid (fun (k : Nat) (hk : k < 7) => ex_round k hk)
  go_enter Try.func9, Try.ntmps9
  go_wp2
  obtain ⟨x1, x2, x3, x4, x5⟩ := k.boxes3 (w := w) (c1 := #[.int .i64 5, .int .i64 2, .int .i64 3, .int .i64 (-100), .int .i64 100]) (t1 := 23) (c2 := #[.int .i64 0, .int .i64 0]) (t2 := 25) (c3 := #[.int .i64 2, .int .i64 4, .int .i64 5, .int .i64 5, .int .i64 3, .int .i64 1, .int .i64 0]) (t3 := 2) (Below.refl _ _)
  generalize ((w.alloc (.cells #[.int .i64 5, .int .i64 2, .int .i64 3, .int .i64 (-100), .int .i64 100] 23)).alloc (.cells #[.int .i64 0, .int .i64 0] 25)).alloc (.cells #[.int .i64 2, .int .i64 4, .int .i64 5, .int .i64 5, .int .i64 3, .int .i64 1, .int .i64 0] 2) = w3 at x1 x2 x3 x4 x5 ⊢
  have X1 := Lib.hid x1
  have X2 := Lib.hid x2
  have X3 := Lib.hid x3
  have X4 := Lib.hid x4
  clear x1 x2 x3 x4
  go_loopw [9] (fun i wr => ∃ k : Nat, k ≤ 7 ∧ i = .int .i64 k ∧ _root_.Go.Proofs.Ytmfigpjofakdnaa.k.Box wr w.heap.size 0 [.int .i64 5, .int .i64 2, .int .i64 3, .int .i64 (-100), .int .i64 100] ∧ _root_.Go.Proofs.Ytmfigpjofakdnaa.k.Box wr (w.heap.size + 1) 0 [.int .i64 (posT k), .int .i64 (velT k)] ∧ _root_.Go.Proofs.Ytmfigpjofakdnaa.k.Box wr (w.heap.size + 2) 0 [.int .i64 2, .int .i64 4, .int .i64 5, .int .i64 5, .int .i64 3, .int .i64 1, .int .i64 0] ∧ Below w.heap.size w wr ∧ w.heap.size + 2 < wr.heap.size) (fun i _ => 7 - (intOf i).toNat)
  case atStart => exact ⟨0, by omega, rfl, X1.out, X2.out, X3.out, X4.out, x5⟩
  case round =>
    obtain ⟨k, hk, rfl, y1, y2, y3, y4, y5⟩ := hrel
    clear X1 X2 X3 X4 x5
    have X1 := Lib.hid y1
    have X2 := Lib.hid y2
    have X3 := Lib.hid y3
    have X4 := Lib.hid y4
    clear y1 y2 y3 y4
    by_cases hlt : k < 7
    · obtain ⟨hs, x, hx, h1, h2, h3⟩ := HE.out k hlt
      have ht := fun W => to_ok exL exL_right _ _ hs 20 9 (by unfold Wide; omega) (by unfold Wide; omega) W
      have hst := fun W => step_ok exL exL_right _ _ hs x hx W
      rw [h1] at ht
      rw [h2, h3] at hst
      unfold exL at ht hst
      dsimp only at ht hst
      have HT := Lib.hid ht
      have HS := Lib.hid hst
      obtain ⟨ac, _⟩ := _root_.Go.Proofs.Ytmfigpjofakdnaa.k.cell_of X3.out (arr_at k hlt)
      clear ht hst h1 h2 h3 hs hx
      have vb : velT (k + 1) = velT (k + 1) := rfl
      clear vb
      go_upto_region 6 with (fail)
      clear ac
      go_cut [] from 10 to 23 (fun wx => _root_.Go.Proofs.Ytmfigpjofakdnaa.k.Box wx w.heap.size 0 [.int .i64 5, .int .i64 2, .int .i64 3, .int .i64 (-100), .int .i64 100] ∧ _root_.Go.Proofs.Ytmfigpjofakdnaa.k.Box wx (w.heap.size + 1) 0 [.int .i64 (posT (k + 1)), .int .i64 (velT (k + 1))] ∧ _root_.Go.Proofs.Ytmfigpjofakdnaa.k.Box wx (w.heap.size + 2) 0 [.int .i64 2, .int .i64 4, .int .i64 5, .int .i64 5, .int .i64 3, .int .i64 1, .int .i64 0] ∧ Below w.heap.size w wx ∧ w.heap.size + 2 < wx.heap.size)
      case first =>
        refine wp_region_held_drew (S := (fun w' => World.rangeAt w' w.heap.size 0 [.int .i64 5, .int .i64 2, .int .i64 3, .int .i64 (-100), .int .i64 100])) (by kernel_rfl) X1.out.range (fun hHeld => ?_)
        refine wpAnyH_take (i := 0) rfl (by kernel_rfl) (by kernel_rfl) (by kernel_rfl) (fun _ _ _ h => h) (yieldsIf_load_mid (by rfl) 23 (.tmp 1) rfl w.heap.size 0 rfl [.int .i64 5, .int .i64 2, .int .i64 3, .int .i64 (-100), .int .i64 100] _ (fun _ h => h) rfl rfl (by kernel_rfl)) (by assumption) ?_
        try simp only [Act.put, List.setIfInBounds_toArray, List.set_cons_zero, List.set_cons_succ, List.getElem_toArray, List.getElem_cons_zero]
        refine wpAnyH_take (i := 2) rfl (by kernel_rfl) (by kernel_rfl) (by kernel_rfl) (fun _ _ _ h => h) (yieldsIf_load_mid (by rfl) 23 (.tmp 1) rfl w.heap.size 0 rfl [.int .i64 5, .int .i64 2, .int .i64 3, .int .i64 (-100), .int .i64 100] _ (fun _ h => h) rfl rfl (by kernel_rfl)) (by assumption) ?_
        try simp only [Act.put, List.setIfInBounds_toArray, List.set_cons_zero, List.set_cons_succ, List.getElem_toArray, List.getElem_cons_succ, List.getElem_cons_zero]
        refine wpAnyH_ready (rs := [1, 3]) (by kernel_rfl) (by simp) ?_
        refine AllReadyH.cons rfl (fun K hK => ?_) (AllReadyH.cons rfl (fun K hK => ?_) AllReadyH.nil)
        · rw [if_pos (by rfl)]
          refine wp_load_mid 25 (.tmp 2) rfl (w.heap.size + 1) 0 rfl [.int .i64 (posT k), .int .i64 (velT k)] _ X2.out.range rfl rfl (by kernel_rfl) ?_
          refine hK.out _ _ X1.out.range (fun hHeld => ?_)
          clear hK K
          try simp only [Act.put, List.setIfInBounds_toArray, List.set_cons_zero, List.set_cons_succ, List.getElem_toArray, List.getElem_cons_succ, List.getElem_cons_zero]
          refine wpAnyH_ready (rs := [3]) (by kernel_rfl) (by simp) ?_
          refine AllReadyH.cons rfl (fun K hK => ?_) AllReadyH.nil
          rw [if_pos (by rfl)]
          refine wp_load_mid 25 (.tmp 2) rfl (w.heap.size + 1) 0 rfl [.int .i64 (posT k), .int .i64 (velT k)] _ X2.out.range rfl rfl (by kernel_rfl) ?_
          refine hK.out _ _ X1.out.range (fun hHeld => ?_)
          clear hK K
          try simp only [Act.put, List.setIfInBounds_toArray, List.set_cons_zero, List.set_cons_succ, List.getElem_toArray, List.getElem_cons_succ, List.getElem_cons_zero]
          refine wpAnyH_ready (rs := [4]) (by kernel_rfl) (by simp) ?_
          refine AllReadyH.cons rfl (fun K hK => ?_) AllReadyH.nil
          go_simp
          (go_at_call 16; (refine (HT.out _).mono ?_); rintro e w5 ⟨rfl, hb0⟩)
          have hb : Below wr.heap.size wr w5 := ((Below.refl _ _).drew).trans hb0
          have A1 := Lib.hid (X1.out.below hb (by omega))
          have A2 := Lib.hid (X2.out.below hb (by omega))
          have A3 := Lib.hid (X3.out.below hb (by omega))
          have A4 := Lib.hid (X4.out.trans (hb.mono X4.out.size))
          have a5 : w.heap.size + 2 < w5.heap.size := Nat.lt_of_lt_of_le y5 hb.size
          clear hb hb0
          go_wp2_with fail
          refine hK.out _ _ A1.out.range (fun hHeld => ?_)
          clear hK K
          try simp only [Act.put, List.setIfInBounds_toArray, List.set_cons_zero, List.set_cons_succ, List.getElem_toArray, List.getElem_cons_succ, List.getElem_cons_zero]
          refine wpAnyH_ready (rs := [5]) (by kernel_rfl) (by simp) ?_
          refine AllReadyH.cons rfl (fun K hK => ?_) AllReadyH.nil
          go_simp
          (go_at_call 15; (refine (HS.out _).mono ?_); rintro e w6 ⟨rfl, hb⟩)
          have B1 := Lib.hid (A1.out.below hb (by omega))
          have B2 := Lib.hid (A2.out.below hb (by omega))
          have B3 := Lib.hid (A3.out.below hb (by omega))
          have B4 := Lib.hid (A4.out.trans (hb.mono A4.out.size))
          have b5 : w.heap.size + 2 < w6.heap.size := Nat.lt_of_lt_of_le a5 hb.size
          clear hb
          go_wp2_with fail
          refine hK.out _ _ B1.out.range (fun hHeld => ?_)
          clear hK K
          try simp only [Act.put, List.setIfInBounds_toArray, List.set_cons_zero, List.set_cons_succ, List.getElem_toArray, List.getElem_cons_succ, List.getElem_cons_zero]
          refine wpAnyH_ready (rs := [6]) (by kernel_rfl) (by simp) ?_
          refine AllReadyH.cons rfl (fun K hK => ?_) AllReadyH.nil
          rw [if_pos (by rfl)]
          obtain ⟨W, hW, h1, h2, h3, h5⟩ := _root_.Go.Proofs.Ytmfigpjofakdnaa.k.stored (us := [.int .i64 (posT (k + 1)), .int .i64 (velT (k + 1))]) B2.out rfl
          refine wp_store_mid 25 (.tmp 2) (.tmp 18) rfl (w.heap.size + 1) 0 #[.int .i64 (posT (k + 1)), .int .i64 (velT (k + 1))] rfl rfl (_root_.Go.Proofs.Ytmfigpjofakdnaa.k.there_of B2.out rfl) (by kernel_rfl) (by simp [Value.oneCell']) ?_
          change K _ (World.setCells _ _ _ [.int .i64 (posT (k + 1)), .int .i64 (velT (k + 1))])
          rw [hW]
          have hbw : Below w.heap.size w W := B4.out.trans (h3 _ (by omega))
          have c1 := B1.out.below (h3 (w.heap.size + 1) (by omega)) (by omega)
          have c3 := _root_.Go.Proofs.Ytmfigpjofakdnaa.k.aside_stored hW (show w.heap.size + 1 ≠ w.heap.size + 2 by omega) B3.out
          have hz : w.heap.size + 2 < W.heap.size := by omega
          refine hK.out _ _ c1.range (fun hHeld => ?_)
          clear hK K hW h3 h5
          try simp only [Act.put, List.getElem_toArray, List.getElem_cons_succ, List.getElem_cons_zero]
          refine wpAnyH_done (by kernel_rfl) ?_ _
          go_wp2_with fail
          go_meet
          case rel => exact ⟨c1, h1, c3, hbw, hz⟩
        · rw [if_pos (by rfl)]
          refine wp_load_mid 25 (.tmp 2) rfl (w.heap.size + 1) 0 rfl [.int .i64 (posT k), .int .i64 (velT k)] _ X2.out.range rfl rfl (by kernel_rfl) ?_
          refine hK.out _ _ X1.out.range (fun hHeld => ?_)
          clear hK K
          try simp only [Act.put, List.setIfInBounds_toArray, List.set_cons_zero, List.set_cons_succ, List.getElem_toArray, List.getElem_cons_succ, List.getElem_cons_zero]
          refine wpAnyH_ready (rs := [1, 4]) (by kernel_rfl) (by simp) ?_
          refine AllReadyH.cons rfl (fun K hK => ?_) (AllReadyH.cons rfl (fun K hK => ?_) AllReadyH.nil)
          · rw [if_pos (by rfl)]
            refine wp_load_mid 25 (.tmp 2) rfl (w.heap.size + 1) 0 rfl [.int .i64 (posT k), .int .i64 (velT k)] _ X2.out.range rfl rfl (by kernel_rfl) ?_
            refine hK.out _ _ X1.out.range (fun hHeld => ?_)
            clear hK K
            try simp only [Act.put, List.setIfInBounds_toArray, List.set_cons_zero, List.set_cons_succ, List.getElem_toArray, List.getElem_cons_succ, List.getElem_cons_zero]
            refine wpAnyH_ready (rs := [4]) (by kernel_rfl) (by simp) ?_
            refine AllReadyH.cons rfl (fun K hK => ?_) AllReadyH.nil
            go_simp
            (go_at_call 16; (refine (HT.out _).mono ?_); rintro e w5 ⟨rfl, hb0⟩)
            have hb : Below wr.heap.size wr w5 := ((Below.refl _ _).drew).trans hb0
            have A1 := Lib.hid (X1.out.below hb (by omega))
            have A2 := Lib.hid (X2.out.below hb (by omega))
            have A3 := Lib.hid (X3.out.below hb (by omega))
            have A4 := Lib.hid (X4.out.trans (hb.mono X4.out.size))
            have a5 : w.heap.size + 2 < w5.heap.size := Nat.lt_of_lt_of_le y5 hb.size
            clear hb hb0
            go_wp2_with fail
            refine hK.out _ _ A1.out.range (fun hHeld => ?_)
            clear hK K
            try simp only [Act.put, List.setIfInBounds_toArray, List.set_cons_zero, List.set_cons_succ, List.getElem_toArray, List.getElem_cons_succ, List.getElem_cons_zero]
            refine wpAnyH_ready (rs := [5]) (by kernel_rfl) (by simp) ?_
            refine AllReadyH.cons rfl (fun K hK => ?_) AllReadyH.nil
            go_simp
            (go_at_call 15; (refine (HS.out _).mono ?_); rintro e w6 ⟨rfl, hb⟩)
            have B1 := Lib.hid (A1.out.below hb (by omega))
            have B2 := Lib.hid (A2.out.below hb (by omega))
            have B3 := Lib.hid (A3.out.below hb (by omega))
            have B4 := Lib.hid (A4.out.trans (hb.mono A4.out.size))
            have b5 : w.heap.size + 2 < w6.heap.size := Nat.lt_of_lt_of_le a5 hb.size
            clear hb
            go_wp2_with fail
            refine hK.out _ _ B1.out.range (fun hHeld => ?_)
            clear hK K
            try simp only [Act.put, List.setIfInBounds_toArray, List.set_cons_zero, List.set_cons_succ, List.getElem_toArray, List.getElem_cons_succ, List.getElem_cons_zero]
            refine wpAnyH_ready (rs := [6]) (by kernel_rfl) (by simp) ?_
            refine AllReadyH.cons rfl (fun K hK => ?_) AllReadyH.nil
            rw [if_pos (by rfl)]
            obtain ⟨W, hW, h1, h2, h3, h5⟩ := _root_.Go.Proofs.Ytmfigpjofakdnaa.k.stored (us := [.int .i64 (posT (k + 1)), .int .i64 (velT (k + 1))]) B2.out rfl
            refine wp_store_mid 25 (.tmp 2) (.tmp 18) rfl (w.heap.size + 1) 0 #[.int .i64 (posT (k + 1)), .int .i64 (velT (k + 1))] rfl rfl (_root_.Go.Proofs.Ytmfigpjofakdnaa.k.there_of B2.out rfl) (by kernel_rfl) (by simp [Value.oneCell']) ?_
            change K _ (World.setCells _ _ _ [.int .i64 (posT (k + 1)), .int .i64 (velT (k + 1))])
            rw [hW]
            have hbw : Below w.heap.size w W := B4.out.trans (h3 _ (by omega))
            have c1 := B1.out.below (h3 (w.heap.size + 1) (by omega)) (by omega)
            have c3 := _root_.Go.Proofs.Ytmfigpjofakdnaa.k.aside_stored hW (show w.heap.size + 1 ≠ w.heap.size + 2 by omega) B3.out
            have hz : w.heap.size + 2 < W.heap.size := by omega
            refine hK.out _ _ c1.range (fun hHeld => ?_)
            clear hK K hW h3 h5
            try simp only [Act.put, List.getElem_toArray, List.getElem_cons_succ, List.getElem_cons_zero]
            refine wpAnyH_done (by kernel_rfl) ?_ _
            go_wp2_with fail
            go_meet
            case rel => exact ⟨c1, h1, c3, hbw, hz⟩
          · go_simp
            (go_at_call 16; (refine (HT.out _).mono ?_); rintro e w5 ⟨rfl, hb0⟩)
            have hb : Below wr.heap.size wr w5 := ((Below.refl _ _).drew).trans hb0
            have A1 := Lib.hid (X1.out.below hb (by omega))
            have A2 := Lib.hid (X2.out.below hb (by omega))
            have A3 := Lib.hid (X3.out.below hb (by omega))
            have A4 := Lib.hid (X4.out.trans (hb.mono X4.out.size))
            have a5 : w.heap.size + 2 < w5.heap.size := Nat.lt_of_lt_of_le y5 hb.size
            clear hb hb0
            go_wp2_with fail
            refine hK.out _ _ A1.out.range (fun hHeld => ?_)
            clear hK K
            try simp only [Act.put, List.setIfInBounds_toArray, List.set_cons_zero, List.set_cons_succ, List.getElem_toArray, List.getElem_cons_succ, List.getElem_cons_zero]
            refine wpAnyH_ready (rs := [1]) (by kernel_rfl) (by simp) ?_
            refine AllReadyH.cons rfl (fun K hK => ?_) AllReadyH.nil
            rw [if_pos (by rfl)]
            refine wp_load_mid 25 (.tmp 2) rfl (w.heap.size + 1) 0 rfl [.int .i64 (posT k), .int .i64 (velT k)] _ A2.out.range rfl rfl (by kernel_rfl) ?_
            refine hK.out _ _ A1.out.range (fun hHeld => ?_)
            clear hK K
            try simp only [Act.put, List.setIfInBounds_toArray, List.set_cons_zero, List.set_cons_succ, List.getElem_toArray, List.getElem_cons_succ, List.getElem_cons_zero]
            refine wpAnyH_ready (rs := [5]) (by kernel_rfl) (by simp) ?_
            refine AllReadyH.cons rfl (fun K hK => ?_) AllReadyH.nil
            go_simp
            (go_at_call 15; (refine (HS.out _).mono ?_); rintro e w6 ⟨rfl, hb⟩)
            have B1 := Lib.hid (A1.out.below hb (by omega))
            have B2 := Lib.hid (A2.out.below hb (by omega))
            have B3 := Lib.hid (A3.out.below hb (by omega))
            have B4 := Lib.hid (A4.out.trans (hb.mono A4.out.size))
            have b5 : w.heap.size + 2 < w6.heap.size := Nat.lt_of_lt_of_le a5 hb.size
            clear hb
            go_wp2_with fail
            refine hK.out _ _ B1.out.range (fun hHeld => ?_)
            clear hK K
            try simp only [Act.put, List.setIfInBounds_toArray, List.set_cons_zero, List.set_cons_succ, List.getElem_toArray, List.getElem_cons_succ, List.getElem_cons_zero]
            refine wpAnyH_ready (rs := [6]) (by kernel_rfl) (by simp) ?_
            refine AllReadyH.cons rfl (fun K hK => ?_) AllReadyH.nil
            rw [if_pos (by rfl)]
            obtain ⟨W, hW, h1, h2, h3, h5⟩ := _root_.Go.Proofs.Ytmfigpjofakdnaa.k.stored (us := [.int .i64 (posT (k + 1)), .int .i64 (velT (k + 1))]) B2.out rfl
            refine wp_store_mid 25 (.tmp 2) (.tmp 18) rfl (w.heap.size + 1) 0 #[.int .i64 (posT (k + 1)), .int .i64 (velT (k + 1))] rfl rfl (_root_.Go.Proofs.Ytmfigpjofakdnaa.k.there_of B2.out rfl) (by kernel_rfl) (by simp [Value.oneCell']) ?_
            change K _ (World.setCells _ _ _ [.int .i64 (posT (k + 1)), .int .i64 (velT (k + 1))])
            rw [hW]
            have hbw : Below w.heap.size w W := B4.out.trans (h3 _ (by omega))
            have c1 := B1.out.below (h3 (w.heap.size + 1) (by omega)) (by omega)
            have c3 := _root_.Go.Proofs.Ytmfigpjofakdnaa.k.aside_stored hW (show w.heap.size + 1 ≠ w.heap.size + 2 by omega) B3.out
            have hz : w.heap.size + 2 < W.heap.size := by omega
            refine hK.out _ _ c1.range (fun hHeld => ?_)
            clear hK K hW h3 h5
            try simp only [Act.put, List.getElem_toArray, List.getElem_cons_succ, List.getElem_cons_zero]
            refine wpAnyH_done (by kernel_rfl) ?_ _
            go_wp2_with fail
            go_meet
            case rel => exact ⟨c1, h1, c3, hbw, hz⟩
      case rest =>
        obtain ⟨c1, c2, c3, c4, c5⟩ := hcut
        obtain ⟨gc0, _, gc1, _, _⟩ := c2
        have C1 := Lib.hid c1
        have C3 := Lib.hid c3
        have C4 := Lib.hid c4
        clear c1 c3 c4
        have hvv : (velT (k + 1) != velT (k + 1)) = false := by simp
        obtain ⟨z, hz⟩ : ∃ z, velT (k + 1) = z := ⟨_, rfl⟩
        go_wp2
        go_roundw
        case rel => exact ⟨k + 1, by omega, by go_num, C1.out, ⟨gc0, by assumption, gc1, by assumption, trivial⟩, C3.out, C4.out, c5⟩
        case measure => simp [intOf]; omega
    · have e : k = 7 := by omega
      subst e
      have hl := fun W => landed_any (posT 7) (velT 7) 20 W
      rw [show landB (posT 7) (velT 7) 20 = true by decide] at hl
      have HL := Lib.hid hl
      clear hl
      obtain ⟨gc0, _, gc1, _, _⟩ := X2.out
      go_wp2_with (go_at_call 12; ((with_reducible refine (HL.out _).mono ?_); rintro e w6 ⟨rfl, hb⟩; have H6 := Lib.hid (X4.out.trans (hb.mono X4.out.size)); clear hb))
      go_ret
      exact ⟨rfl, H6.out⟩
end Go.Proofs.Ytmfigpjofakdnaa.gn
