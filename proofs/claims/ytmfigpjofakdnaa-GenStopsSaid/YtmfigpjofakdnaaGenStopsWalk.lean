/- The walk of the law GenStops: any limits, any generator: it returns true, and what was in memory is as it was. -/
import Derived.Test.YtmfigpjofakdnaaGAwake
import Derived.Test.YtmfigpjofakdnaaIRow
namespace Go.Proofs.Ytmfigpjofakdnaa.genStops
open Go.ChangeShapes Go.WideShapes Go.ChangeAt Go.RowKit Go.Proofs.Ytmfigpjofakdnaa.k Go.Proofs.Ytmfigpjofakdnaa.b Go.Proofs.Ytmfigpjofakdnaa.gn Go.Proofs.Ytmfigpjofakdnaa
set_option linter.unusedVariables false

theorem wide {a : Int} (h : (Lit.int .i64 a).wf = true) : Wide a := k.wf64 h
set_option maxRecDepth 100000 in
set_option maxHeartbeats 4000000 in
theorem walk (V A D lo hi : Int) (p v : Int) (w : World) (u0 : (Lit.int .i64 V).wf = true) (u1 : (Lit.int .i64 A).wf = true) (u2 : (Lit.int .i64 D).wf = true) (u3 : (Lit.int .i64 lo).wf = true) (u4 : (Lit.int .i64 hi).wf = true) (g0 : (Lit.int .i64 p).wf = true) (g1 : (Lit.int .i64 v).wf = true) :
    Calls Try.prog 5 #[.agg #[.int .i64 V, .int .i64 A, .int .i64 D, .int .i64 lo, .int .i64 hi], .agg #[.int .i64 p, .int .i64 v]] w fun e w' => e = .returned (.bool true) ∧ Below w.heap.size w w' := by
  have hL : WideL ⟨V, A, D, lo, hi⟩ := ⟨wide u0, wide u1, wide u2, wide u3, wide u4⟩
  have HK := Lib.hid fun W => awake_any W
  have hp := wide g0
  have hv := wide g1
  clear u0 u1 u2 u3 u4 g0 g1
  have hR := fun W => right_any ⟨V, A, D, lo, hi⟩ hL W
  have hS := fun (hr : RightL ⟨V, A, D, lo, hi⟩) W => safe_any ⟨V, A, D, lo, hi⟩ hr p v hp hv W
  dsimp only at hR hS
  by_cases hr : RightL ⟨V, A, D, lo, hi⟩
  · rw [right_yes hr] at hR
    replace hS := hS hr
    have HR := Lib.hid hR
    clear hR
    by_cases hs : SafeP ⟨V, A, D, lo, hi⟩ p v
    · rw [safe_yes hr hs] at hS
      have HS := Lib.hid hS
      have HQ := Lib.hid hs
      clear hS
      have HRR := Lib.hid hr
      obtain ⟨r1, r2, r3, r4, r5, r6, r7, r8, r9⟩ := hr
      have ⟨s1, s2, s3, s4, _⟩ := hs
      dsimp only at r1 r2 r3 r4 r5 r6 r7 r8 r9 s1 s2
      clear hs
      have hu0 : 0 ≤ max v (-v) := by omega
      have hu1 : max v (-v) ≤ 1048576 := by omega
      have hc := fun W => b.cycles_any (max v (-v)) D W
      have hw := fun W => b.way_any (max v (-v)) D W
      rw [vel_of hu0 hu1, show los D = D from by unfold los clamp; omega] at hc hw
      have hN : cyc (max v (-v)) D = haltN ⟨V, A, D, lo, hi⟩ v := rfl
      have hcb := cyc_le (x := max v (-v)) r5 hu0 hu1
      have hcp := cyc_pos (x := max v (-v)) r5 hu0
      have hE : haltP ⟨V, A, D, lo, hi⟩ p v = if v < 0 then p + -slow (max v (-v)) 0 D else p + slow (max v (-v)) 0 D := by
        unfold haltP
        by_cases h : v < 0
        · rw [if_pos h, if_pos h, Int.max_eq_right (show v ≤ -v by omega)]; rfl
        · rw [if_neg h, if_neg h, Int.max_eq_left (show -v ≤ v by omega)]
      have hsl := slow_le (u := 0) (d := D) (by omega) r5 hu0 hu1
      have hsp := slow_pos (v := max v (-v)) (u := 0) (by omega) r5
      obtain ⟨N, eN⟩ : ∃ N, cyc (max v (-v)) D = N := ⟨_, rfl⟩
      rw [eN] at hc hN hcb hcp
      obtain ⟨Y, eY⟩ : ∃ Y, slow (max v (-v)) 0 D = Y := ⟨_, rfl⟩
      rw [eY] at hw hE hsl hsp
      have HC := Lib.hid hc
      have HW := Lib.hid hw
      have HN := Lib.hid hN
      have HE := Lib.hid hE
      clear hc hw hN hE eN eY
      by_cases hbig : 4000 < N
      · have hN4 : 4000 < N := hbig
        go_enter Try.func5, Try.ntmps5
        go_wp2_with (first | (go_at_call 9; ((with_reducible refine (HK.out _).mono ?_); rintro e w2 ⟨rfl, hb⟩; obtain ⟨x1, x2, x3, x4⟩ := _root_.Go.Proofs.Ytmfigpjofakdnaa.k.boxes2 hb; have X2 := Lib.hid x1; have Y2 := Lib.hid x2; have H2 := Lib.hid x3; obtain ⟨lc0, _, lc1, _, lc2, _, lc3, _, lc4, _, _⟩ := x1; obtain ⟨gc0, _, gc1, _, _⟩ := x2; clear hb x3)) | (go_at_call 11; ((with_reducible refine (HR.out _).mono ?_); rintro e w3 ⟨rfl, hb⟩; have X3 := Lib.hid (X2.out.below hb (by omega)); have Y3 := Lib.hid (Y2.out.below hb (by omega)); have H3 := Lib.hid (H2.out.trans (hb.mono H2.out.size)); have z3 : w.heap.size + 1 < w3.heap.size := Nat.lt_of_lt_of_le x4 hb.size; clear lc0 lc1 lc2 lc3 lc4 gc0 gc1; obtain ⟨lc0, _, lc1, _, lc2, _, lc3, _, lc4, _, _⟩ := X3.out; obtain ⟨gc0, _, gc1, _, _⟩ := Y3.out; clear hb)) | (go_at_call 18; ((with_reducible refine (HS.out _).mono ?_); rintro e w4 ⟨rfl, hb⟩; have X4 := Lib.hid (X3.out.below hb (by omega)); have Y4 := Lib.hid (Y3.out.below hb (by omega)); have H4 := Lib.hid (H3.out.trans (hb.mono H3.out.size)); have z4 : w.heap.size + 1 < w4.heap.size := Nat.lt_of_lt_of_le z3 hb.size; clear lc0 lc1 lc2 lc3 lc4 gc0 gc1; obtain ⟨lc0, _, lc1, _, lc2, _, lc3, _, lc4, _, _⟩ := X4.out; obtain ⟨gc0, _, gc1, _, _⟩ := Y4.out; clear hb)) | (go_at_call 23; ((with_reducible refine (HC.out _).mono ?_); rintro e w5 ⟨rfl, hb⟩; have X5 := Lib.hid (X4.out.below hb (by omega)); have Y5 := Lib.hid (Y4.out.below hb (by omega)); have H5 := Lib.hid (H4.out.trans (hb.mono H4.out.size)); have z5 : w.heap.size + 1 < w5.heap.size := Nat.lt_of_lt_of_le z4 hb.size; clear lc0 lc1 lc2 lc3 lc4 gc0 gc1; obtain ⟨lc0, _, lc1, _, lc2, _, lc3, _, lc4, _, _⟩ := X5.out; obtain ⟨gc0, _, gc1, _, _⟩ := Y5.out; clear hb)) | (go_at_call 24; ((with_reducible refine (HW.out _).mono ?_); rintro e w6 ⟨rfl, hb⟩; have X6 := Lib.hid (X5.out.below hb (by omega)); have Y6 := Lib.hid (Y5.out.below hb (by omega)); have H6 := Lib.hid (H5.out.trans (hb.mono H5.out.size)); have z6 : w.heap.size + 1 < w6.heap.size := Nat.lt_of_lt_of_le z5 hb.size; clear lc0 lc1 lc2 lc3 lc4 gc0 gc1; obtain ⟨lc0, _, lc1, _, lc2, _, lc3, _, lc4, _, _⟩ := X6.out; obtain ⟨gc0, _, gc1, _, _⟩ := Y6.out; clear hb)))
        go_ret
        exact ⟨rfl, H5.out⟩
      · have hN5 : N ≤ 4000 := by omega
        by_cases hneg : v < 0
        · obtain ⟨P0, eP⟩ : ∃ P0, p + -Y = P0 := ⟨_, rfl⟩
          have HEP := Lib.hid eP.symm
          go_enter Try.func5, Try.ntmps5
          go_wp2_with (first | (go_at_call 9; ((with_reducible refine (HK.out _).mono ?_); rintro e w2 ⟨rfl, hb⟩; obtain ⟨x1, x2, x3, x4⟩ := _root_.Go.Proofs.Ytmfigpjofakdnaa.k.boxes2 hb; have X2 := Lib.hid x1; have Y2 := Lib.hid x2; have H2 := Lib.hid x3; obtain ⟨lc0, _, lc1, _, lc2, _, lc3, _, lc4, _, _⟩ := x1; obtain ⟨gc0, _, gc1, _, _⟩ := x2; clear hb x3)) | (go_at_call 11; ((with_reducible refine (HR.out _).mono ?_); rintro e w3 ⟨rfl, hb⟩; have X3 := Lib.hid (X2.out.below hb (by omega)); have Y3 := Lib.hid (Y2.out.below hb (by omega)); have H3 := Lib.hid (H2.out.trans (hb.mono H2.out.size)); have z3 : w.heap.size + 1 < w3.heap.size := Nat.lt_of_lt_of_le x4 hb.size; clear lc0 lc1 lc2 lc3 lc4 gc0 gc1; obtain ⟨lc0, _, lc1, _, lc2, _, lc3, _, lc4, _, _⟩ := X3.out; obtain ⟨gc0, _, gc1, _, _⟩ := Y3.out; clear hb)) | (go_at_call 18; ((with_reducible refine (HS.out _).mono ?_); rintro e w4 ⟨rfl, hb⟩; have X4 := Lib.hid (X3.out.below hb (by omega)); have Y4 := Lib.hid (Y3.out.below hb (by omega)); have H4 := Lib.hid (H3.out.trans (hb.mono H3.out.size)); have z4 : w.heap.size + 1 < w4.heap.size := Nat.lt_of_lt_of_le z3 hb.size; clear lc0 lc1 lc2 lc3 lc4 gc0 gc1; obtain ⟨lc0, _, lc1, _, lc2, _, lc3, _, lc4, _, _⟩ := X4.out; obtain ⟨gc0, _, gc1, _, _⟩ := Y4.out; clear hb)) | (go_at_call 23; ((with_reducible refine (HC.out _).mono ?_); rintro e w5 ⟨rfl, hb⟩; have X5 := Lib.hid (X4.out.below hb (by omega)); have Y5 := Lib.hid (Y4.out.below hb (by omega)); have H5 := Lib.hid (H4.out.trans (hb.mono H4.out.size)); have z5 : w.heap.size + 1 < w5.heap.size := Nat.lt_of_lt_of_le z4 hb.size; clear lc0 lc1 lc2 lc3 lc4 gc0 gc1; obtain ⟨lc0, _, lc1, _, lc2, _, lc3, _, lc4, _, _⟩ := X5.out; obtain ⟨gc0, _, gc1, _, _⟩ := Y5.out; clear hb)) | (go_at_call 24; ((with_reducible refine (HW.out _).mono ?_); rintro e w6 ⟨rfl, hb⟩; have X6 := Lib.hid (X5.out.below hb (by omega)); have Y6 := Lib.hid (Y5.out.below hb (by omega)); have H6 := Lib.hid (H5.out.trans (hb.mono H5.out.size)); have z6 : w.heap.size + 1 < w6.heap.size := Nat.lt_of_lt_of_le z5 hb.size; clear lc0 lc1 lc2 lc3 lc4 gc0 gc1; obtain ⟨lc0, _, lc1, _, lc2, _, lc3, _, lc4, _, _⟩ := X6.out; obtain ⟨gc0, _, gc1, _, _⟩ := Y6.out; clear hb)))
          go_loopw [9] (fun i wr => ∃ (q p v : Int), i = .int .i64 q ∧ 0 ≤ q ∧ q ≤ 4000 ∧ SafeP ⟨V, A, D, lo, hi⟩ p v ∧ q + haltN ⟨V, A, D, lo, hi⟩ v = N ∧ haltP ⟨V, A, D, lo, hi⟩ p v = P0 ∧ _root_.Go.Proofs.Ytmfigpjofakdnaa.k.Box wr w.heap.size 0 [.int .i64 V, .int .i64 A, .int .i64 D, .int .i64 lo, .int .i64 hi] ∧ _root_.Go.Proofs.Ytmfigpjofakdnaa.k.Box wr (w.heap.size + 1) 0 [.int .i64 p, .int .i64 v] ∧ Below w.heap.size w wr ∧ w.heap.size + 1 < wr.heap.size) (fun i _ => (N - intOf i).toNat)
          case atStart => exact ⟨0, p, v, rfl, by omega, by omega, HQ.out, by have := HN.out; omega, by have h1 := HE.out; have h2 := HEP.out; rw [if_pos hneg] at h1; omega, X6.out, Y6.out, H6.out, z6⟩
          case round =>
            obtain ⟨q, p', v', rfl, q0, q4, hsP, hn, hpE, y1, y2, y3, y4⟩ := hrel
            clear X2 Y2 H2 X3 Y3 H3 X4 Y4 H4 X5 Y5 H5 X6 Y6 H6 HQ HS HR HK HC HW HN HE lc0 lc1 lc2 lc3 lc4 gc0 gc1 hp hv
            have X := Lib.hid y1
            have Y := Lib.hid y2
            have H := Lib.hid y3
            obtain ⟨lc0, _, lc1, _, lc2, _, lc3, _, lc4, _, _⟩ := y1
            obtain ⟨gc0, gf0, gc1, gf1, _⟩ := y2
            clear y3
            have ⟨m1, m2, m3, m4, _⟩ := hsP
            dsimp only at m1 m2
            by_cases hlt : q < N
            · have hne : v' ≠ 0 := fun e => by rw [e, haltN_at HRR.out] at hn; omega
              have hvb : (v' == 0) = false := by rw [beq_eq_false_iff_ne]; exact hne
              have hh := halt_step HRR.out hsP hne
              have hk := (step_kept HRR.out hsP 0).safe
              have hst := fun W => step_ok ⟨V, A, D, lo, hi⟩ HRR.out p' v' hsP 0 (by unfold Wide; omega) W
              obtain ⟨s, hs⟩ : ∃ s, stepV ⟨V, A, D, lo, hi⟩ p' v' 0 = s := ⟨_, rfl⟩
              rw [hs] at hh hk hst
              dsimp only at hst
              have HST := Lib.hid hst
              have HKS := Lib.hid hk
              have HH := Lib.hid (And.intro hh (And.intro hn hpE))
              clear hst hk hh hs hsP hn hpE hne
              go_wp2_with (go_at_call 15; ((with_reducible refine (HST.out _).mono ?_); rintro e w7 ⟨rfl, hb⟩; have X7 := Lib.hid (X.out.below hb (by omega)); have Y7 := Lib.hid (Y.out.below hb (by omega)); have H7 := Lib.hid (H.out.trans (hb.mono H.out.size)); have z7 := Nat.lt_of_lt_of_le y4 hb.size; clear lc0 lc1 lc2 lc3 lc4 gc0 gc1 gf0 gf1; obtain ⟨gc0, gf0, gc1, gf1, _⟩ := Y7.out; clear hb))
              go_roundw
              case rel => exact ⟨q + 1, p' + s, s, rfl, by omega, by omega, HKS.out, by have := HH.out.1.2; have := HH.out.2.1; omega, by rw [HH.out.1.1]; exact HH.out.2.2, _root_.Go.Proofs.Ytmfigpjofakdnaa.k.Box_aside (by omega) _ (_root_.Go.Proofs.Ytmfigpjofakdnaa.k.Box_aside (by omega) _ X7.out), (Y7.out.put 0 (by simp) _).put 1 (by simp) _, ((H7.out).setCell (by simp) _).setCell (by simp) _, by simp; omega⟩
              case measure => simp [intOf]; omega
            · have hv0 := haltN_zero HRR.out (v := v') (by omega)
              subst hv0
              rw [haltP_at HRR.out] at hpE
              have hst := fun W => step_ok ⟨V, A, D, lo, hi⟩ HRR.out p' 0 hsP 0 (by unfold Wide; omega) W
              rw [stand HRR.out hsP, Int.add_zero] at hst
              dsimp only at hst
              have HST := Lib.hid hst
              have hl := fun W => landed_any p' 0 p' W
              rw [show landB p' 0 p' = true from decide_eq_true ⟨rfl, rfl⟩] at hl
              have HL := Lib.hid hl
              have hEE : P0 = p' := hpE.symm
              clear hst hl hsP hn hpE
              go_upto_region 19 with (fail)
              skip
              clear lc0 lc1 lc2 lc3 lc4 gc0 gf0 gc1 gf1
              refine wp_region_held_drew (S := (fun w' => World.rangeAt w' w.heap.size 0 [.int .i64 V, .int .i64 A, .int .i64 D, .int .i64 lo, .int .i64 hi] ∧ World.rangeAt w' (w.heap.size + 1) 0 [.int .i64 p', .int .i64 0])) (by kernel_rfl) ⟨X.out.range, Y.out.range⟩ (fun hHeld => ?_)
              refine wpAnyH_take (i := 0) rfl (by kernel_rfl) (by kernel_rfl) (by kernel_rfl) (fun _ _ _ h => h) (yieldsIf_load_mid (by rfl) 25 (.tmp 3) rfl (w.heap.size + 1) 0 rfl [.int .i64 p', .int .i64 0] _ (fun _ h => h.2) rfl rfl (by kernel_rfl)) (by assumption) ?_
              try simp only [Act.put, List.setIfInBounds_toArray, List.set_cons_zero, List.set_cons_succ, List.getElem_toArray, List.getElem_cons_zero]
              refine wpAnyH_take (i := 1) (v := ?_) rfl (by kernel_rfl) (by kernel_rfl) (by kernel_rfl) (fun _ _ _ h => h) (Or.inl ⟨by rfl, ?_⟩) (by assumption) ?_
              rotate_left 1
              · intro w hSw; clear hSw; go_simp <;> (with_reducible rfl)
              try simp only [Act.put, List.setIfInBounds_toArray, List.set_cons_zero, List.set_cons_succ, List.getElem_toArray, List.getElem_cons_succ, List.getElem_cons_zero]
              refine wpAnyH_ready (rs := [2]) (by kernel_rfl) (by simp) ?_
              refine AllReadyH.cons rfl (fun K hK => ?_) AllReadyH.nil
              go_simp
              (go_at_call 12; (refine (HL.out _).mono ?_); rintro e w7 ⟨rfl, hb0⟩)
              have hb : Below wr.heap.size wr w7 := ((Below.refl _ _).drew).trans hb0
              have X7 := Lib.hid (X.out.below hb (by omega))
              have Y7 := Lib.hid (Y.out.below hb (by omega))
              have H7 := Lib.hid (H.out.trans (hb.mono H.out.size))
              have z7 := Nat.lt_of_lt_of_le y4 hb.size
              clear hb hb0
              go_wp2_with fail
              refine hK.out _ _ ⟨X7.out.range, Y7.out.range⟩ (fun hHeld => ?_)
              clear hK K
              try simp only [Act.put, List.setIfInBounds_toArray, List.set_cons_zero, List.set_cons_succ, List.getElem_toArray, List.getElem_cons_succ, List.getElem_cons_zero]
              refine wpAnyH_take (i := 3) (v := ?_) rfl (by kernel_rfl) (by kernel_rfl) (by kernel_rfl) (fun _ _ _ h => h) (Or.inl ⟨by rfl, ?_⟩) (by assumption) ?_
              rotate_left 1
              · intro w hSw; clear hSw; go_simp <;> (with_reducible rfl)
              try simp only [Act.put, List.setIfInBounds_toArray, List.set_cons_zero, List.set_cons_succ, List.getElem_toArray, List.getElem_cons_succ, List.getElem_cons_zero]
              refine wpAnyH_take (i := 4) rfl (by kernel_rfl) (by kernel_rfl) (by kernel_rfl) (fun _ _ _ h => h) (yieldsIf_load_mid (by rfl) 23 (.tmp 2) rfl w.heap.size 0 rfl [.int .i64 V, .int .i64 A, .int .i64 D, .int .i64 lo, .int .i64 hi] _ (fun _ h => h.1) rfl rfl (by kernel_rfl)) (by assumption) ?_
              try simp only [Act.put, List.setIfInBounds_toArray, List.set_cons_zero, List.set_cons_succ, List.getElem_toArray, List.getElem_cons_succ, List.getElem_cons_zero]
              refine wpAnyH_take (i := 5) rfl (by kernel_rfl) (by kernel_rfl) (by kernel_rfl) (fun _ _ _ h => h) (yieldsIf_load_mid (by rfl) 25 (.tmp 3) rfl (w.heap.size + 1) 0 rfl [.int .i64 p', .int .i64 0] _ (fun _ h => h.2) rfl rfl (by kernel_rfl)) (by assumption) ?_
              try simp only [Act.put, List.setIfInBounds_toArray, List.set_cons_zero, List.set_cons_succ, List.getElem_toArray, List.getElem_cons_succ, List.getElem_cons_zero]
              refine wpAnyH_take (i := 7) rfl (by kernel_rfl) (by kernel_rfl) (by kernel_rfl) (fun _ _ _ h => h) (yieldsIf_load_mid (by rfl) 25 (.tmp 3) rfl (w.heap.size + 1) 0 rfl [.int .i64 p', .int .i64 0] _ (fun _ h => h.2) rfl rfl (by kernel_rfl)) (by assumption) ?_
              try simp only [Act.put, List.setIfInBounds_toArray, List.set_cons_zero, List.set_cons_succ, List.getElem_toArray, List.getElem_cons_succ, List.getElem_cons_zero]
              refine wpAnyH_ready (rs := [6]) (by kernel_rfl) (by simp) ?_
              refine AllReadyH.cons rfl (fun K hK => ?_) AllReadyH.nil
              go_simp
              (go_at_call 15; (refine (HST.out _).mono ?_); rintro e w8 ⟨rfl, hb⟩)
              have X8 := X7.out.below hb (by omega)
              have Y8 := Y7.out.below hb (by omega)
              have H8 := Lib.hid (H7.out.trans (hb.mono H7.out.size))
              clear hb
              go_wp2_with fail
              refine hK.out _ _ ⟨X8.range, Y8.range⟩ (fun hHeld => ?_)
              clear hK K
              try simp only [Act.put, List.setIfInBounds_toArray, List.set_cons_zero, List.set_cons_succ, List.getElem_toArray, List.getElem_cons_succ, List.getElem_cons_zero]
              refine wpAnyH_take (i := 8) (v := ?_) rfl (by kernel_rfl) (by kernel_rfl) (by kernel_rfl) (fun _ _ _ h => h) (Or.inl ⟨by rfl, ?_⟩) (by assumption) ?_
              rotate_left 1
              · intro w hSw; clear hSw; go_simp <;> (with_reducible rfl)
              try simp only [Act.put, List.setIfInBounds_toArray, List.set_cons_zero, List.set_cons_succ, List.getElem_toArray, List.getElem_cons_succ, List.getElem_cons_zero]
              refine wpAnyH_take (i := 9) (v := ?_) rfl (by kernel_rfl) (by kernel_rfl) (by kernel_rfl) (fun _ _ _ h => h) (Or.inl ⟨by rfl, ?_⟩) (by assumption) ?_
              rotate_left 1
              · intro w hSw; clear hSw; go_simp <;> (with_reducible rfl)
              try simp only [Act.put, List.setIfInBounds_toArray, List.set_cons_zero, List.set_cons_succ, List.getElem_toArray, List.getElem_cons_succ, List.getElem_cons_zero]
              refine wpAnyH_take (i := 10) (v := ?_) rfl (by kernel_rfl) (by kernel_rfl) (by kernel_rfl) (fun _ _ _ h => h) (Or.inl ⟨by rfl, ?_⟩) (by assumption) ?_
              rotate_left 1
              · intro w hSw; clear hSw; go_simp <;> (with_reducible rfl)
              try simp only [Act.put, List.setIfInBounds_toArray, List.set_cons_zero, List.set_cons_succ, List.getElem_toArray, List.getElem_cons_succ, List.getElem_cons_zero]
              refine wpAnyH_done (by kernel_rfl) ?_ _
              go_wp2
              go_ret
              exact ⟨rfl, H8.out⟩
        · obtain ⟨P0, eP⟩ : ∃ P0, p + Y = P0 := ⟨_, rfl⟩
          have HEP := Lib.hid eP.symm
          go_enter Try.func5, Try.ntmps5
          go_wp2_with (first | (go_at_call 9; ((with_reducible refine (HK.out _).mono ?_); rintro e w2 ⟨rfl, hb⟩; obtain ⟨x1, x2, x3, x4⟩ := _root_.Go.Proofs.Ytmfigpjofakdnaa.k.boxes2 hb; have X2 := Lib.hid x1; have Y2 := Lib.hid x2; have H2 := Lib.hid x3; obtain ⟨lc0, _, lc1, _, lc2, _, lc3, _, lc4, _, _⟩ := x1; obtain ⟨gc0, _, gc1, _, _⟩ := x2; clear hb x3)) | (go_at_call 11; ((with_reducible refine (HR.out _).mono ?_); rintro e w3 ⟨rfl, hb⟩; have X3 := Lib.hid (X2.out.below hb (by omega)); have Y3 := Lib.hid (Y2.out.below hb (by omega)); have H3 := Lib.hid (H2.out.trans (hb.mono H2.out.size)); have z3 : w.heap.size + 1 < w3.heap.size := Nat.lt_of_lt_of_le x4 hb.size; clear lc0 lc1 lc2 lc3 lc4 gc0 gc1; obtain ⟨lc0, _, lc1, _, lc2, _, lc3, _, lc4, _, _⟩ := X3.out; obtain ⟨gc0, _, gc1, _, _⟩ := Y3.out; clear hb)) | (go_at_call 18; ((with_reducible refine (HS.out _).mono ?_); rintro e w4 ⟨rfl, hb⟩; have X4 := Lib.hid (X3.out.below hb (by omega)); have Y4 := Lib.hid (Y3.out.below hb (by omega)); have H4 := Lib.hid (H3.out.trans (hb.mono H3.out.size)); have z4 : w.heap.size + 1 < w4.heap.size := Nat.lt_of_lt_of_le z3 hb.size; clear lc0 lc1 lc2 lc3 lc4 gc0 gc1; obtain ⟨lc0, _, lc1, _, lc2, _, lc3, _, lc4, _, _⟩ := X4.out; obtain ⟨gc0, _, gc1, _, _⟩ := Y4.out; clear hb)) | (go_at_call 23; ((with_reducible refine (HC.out _).mono ?_); rintro e w5 ⟨rfl, hb⟩; have X5 := Lib.hid (X4.out.below hb (by omega)); have Y5 := Lib.hid (Y4.out.below hb (by omega)); have H5 := Lib.hid (H4.out.trans (hb.mono H4.out.size)); have z5 : w.heap.size + 1 < w5.heap.size := Nat.lt_of_lt_of_le z4 hb.size; clear lc0 lc1 lc2 lc3 lc4 gc0 gc1; obtain ⟨lc0, _, lc1, _, lc2, _, lc3, _, lc4, _, _⟩ := X5.out; obtain ⟨gc0, _, gc1, _, _⟩ := Y5.out; clear hb)) | (go_at_call 24; ((with_reducible refine (HW.out _).mono ?_); rintro e w6 ⟨rfl, hb⟩; have X6 := Lib.hid (X5.out.below hb (by omega)); have Y6 := Lib.hid (Y5.out.below hb (by omega)); have H6 := Lib.hid (H5.out.trans (hb.mono H5.out.size)); have z6 : w.heap.size + 1 < w6.heap.size := Nat.lt_of_lt_of_le z5 hb.size; clear lc0 lc1 lc2 lc3 lc4 gc0 gc1; obtain ⟨lc0, _, lc1, _, lc2, _, lc3, _, lc4, _, _⟩ := X6.out; obtain ⟨gc0, _, gc1, _, _⟩ := Y6.out; clear hb)))
          go_loopw [9] (fun i wr => ∃ (q p v : Int), i = .int .i64 q ∧ 0 ≤ q ∧ q ≤ 4000 ∧ SafeP ⟨V, A, D, lo, hi⟩ p v ∧ q + haltN ⟨V, A, D, lo, hi⟩ v = N ∧ haltP ⟨V, A, D, lo, hi⟩ p v = P0 ∧ _root_.Go.Proofs.Ytmfigpjofakdnaa.k.Box wr w.heap.size 0 [.int .i64 V, .int .i64 A, .int .i64 D, .int .i64 lo, .int .i64 hi] ∧ _root_.Go.Proofs.Ytmfigpjofakdnaa.k.Box wr (w.heap.size + 1) 0 [.int .i64 p, .int .i64 v] ∧ Below w.heap.size w wr ∧ w.heap.size + 1 < wr.heap.size) (fun i _ => (N - intOf i).toNat)
          case atStart => exact ⟨0, p, v, rfl, by omega, by omega, HQ.out, by have := HN.out; omega, by have h1 := HE.out; have h2 := HEP.out; rw [if_neg (by omega)] at h1; omega, X6.out, Y6.out, H6.out, z6⟩
          case round =>
            obtain ⟨q, p', v', rfl, q0, q4, hsP, hn, hpE, y1, y2, y3, y4⟩ := hrel
            clear X2 Y2 H2 X3 Y3 H3 X4 Y4 H4 X5 Y5 H5 X6 Y6 H6 HQ HS HR HK HC HW HN HE lc0 lc1 lc2 lc3 lc4 gc0 gc1 hp hv
            have X := Lib.hid y1
            have Y := Lib.hid y2
            have H := Lib.hid y3
            obtain ⟨lc0, _, lc1, _, lc2, _, lc3, _, lc4, _, _⟩ := y1
            obtain ⟨gc0, gf0, gc1, gf1, _⟩ := y2
            clear y3
            have ⟨m1, m2, m3, m4, _⟩ := hsP
            dsimp only at m1 m2
            by_cases hlt : q < N
            · have hne : v' ≠ 0 := fun e => by rw [e, haltN_at HRR.out] at hn; omega
              have hvb : (v' == 0) = false := by rw [beq_eq_false_iff_ne]; exact hne
              have hh := halt_step HRR.out hsP hne
              have hk := (step_kept HRR.out hsP 0).safe
              have hst := fun W => step_ok ⟨V, A, D, lo, hi⟩ HRR.out p' v' hsP 0 (by unfold Wide; omega) W
              obtain ⟨s, hs⟩ : ∃ s, stepV ⟨V, A, D, lo, hi⟩ p' v' 0 = s := ⟨_, rfl⟩
              rw [hs] at hh hk hst
              dsimp only at hst
              have HST := Lib.hid hst
              have HKS := Lib.hid hk
              have HH := Lib.hid (And.intro hh (And.intro hn hpE))
              clear hst hk hh hs hsP hn hpE hne
              go_wp2_with (go_at_call 15; ((with_reducible refine (HST.out _).mono ?_); rintro e w7 ⟨rfl, hb⟩; have X7 := Lib.hid (X.out.below hb (by omega)); have Y7 := Lib.hid (Y.out.below hb (by omega)); have H7 := Lib.hid (H.out.trans (hb.mono H.out.size)); have z7 := Nat.lt_of_lt_of_le y4 hb.size; clear lc0 lc1 lc2 lc3 lc4 gc0 gc1 gf0 gf1; obtain ⟨gc0, gf0, gc1, gf1, _⟩ := Y7.out; clear hb))
              go_roundw
              case rel => exact ⟨q + 1, p' + s, s, rfl, by omega, by omega, HKS.out, by have := HH.out.1.2; have := HH.out.2.1; omega, by rw [HH.out.1.1]; exact HH.out.2.2, _root_.Go.Proofs.Ytmfigpjofakdnaa.k.Box_aside (by omega) _ (_root_.Go.Proofs.Ytmfigpjofakdnaa.k.Box_aside (by omega) _ X7.out), (Y7.out.put 0 (by simp) _).put 1 (by simp) _, ((H7.out).setCell (by simp) _).setCell (by simp) _, by simp; omega⟩
              case measure => simp [intOf]; omega
            · have hv0 := haltN_zero HRR.out (v := v') (by omega)
              subst hv0
              rw [haltP_at HRR.out] at hpE
              have hst := fun W => step_ok ⟨V, A, D, lo, hi⟩ HRR.out p' 0 hsP 0 (by unfold Wide; omega) W
              rw [stand HRR.out hsP, Int.add_zero] at hst
              dsimp only at hst
              have HST := Lib.hid hst
              have hl := fun W => landed_any p' 0 p' W
              rw [show landB p' 0 p' = true from decide_eq_true ⟨rfl, rfl⟩] at hl
              have HL := Lib.hid hl
              have hEE : P0 = p' := hpE.symm
              clear hst hl hsP hn hpE
              go_upto_region 19 with (fail)
              skip
              clear lc0 lc1 lc2 lc3 lc4 gc0 gf0 gc1 gf1
              refine wp_region_held_drew (S := (fun w' => World.rangeAt w' w.heap.size 0 [.int .i64 V, .int .i64 A, .int .i64 D, .int .i64 lo, .int .i64 hi] ∧ World.rangeAt w' (w.heap.size + 1) 0 [.int .i64 p', .int .i64 0])) (by kernel_rfl) ⟨X.out.range, Y.out.range⟩ (fun hHeld => ?_)
              refine wpAnyH_take (i := 0) rfl (by kernel_rfl) (by kernel_rfl) (by kernel_rfl) (fun _ _ _ h => h) (yieldsIf_load_mid (by rfl) 25 (.tmp 3) rfl (w.heap.size + 1) 0 rfl [.int .i64 p', .int .i64 0] _ (fun _ h => h.2) rfl rfl (by kernel_rfl)) (by assumption) ?_
              try simp only [Act.put, List.setIfInBounds_toArray, List.set_cons_zero, List.set_cons_succ, List.getElem_toArray, List.getElem_cons_zero]
              refine wpAnyH_take (i := 1) (v := ?_) rfl (by kernel_rfl) (by kernel_rfl) (by kernel_rfl) (fun _ _ _ h => h) (Or.inl ⟨by rfl, ?_⟩) (by assumption) ?_
              rotate_left 1
              · intro w hSw; clear hSw; go_simp <;> (with_reducible rfl)
              try simp only [Act.put, List.setIfInBounds_toArray, List.set_cons_zero, List.set_cons_succ, List.getElem_toArray, List.getElem_cons_succ, List.getElem_cons_zero]
              refine wpAnyH_ready (rs := [2]) (by kernel_rfl) (by simp) ?_
              refine AllReadyH.cons rfl (fun K hK => ?_) AllReadyH.nil
              go_simp
              (go_at_call 12; (refine (HL.out _).mono ?_); rintro e w7 ⟨rfl, hb0⟩)
              have hb : Below wr.heap.size wr w7 := ((Below.refl _ _).drew).trans hb0
              have X7 := Lib.hid (X.out.below hb (by omega))
              have Y7 := Lib.hid (Y.out.below hb (by omega))
              have H7 := Lib.hid (H.out.trans (hb.mono H.out.size))
              have z7 := Nat.lt_of_lt_of_le y4 hb.size
              clear hb hb0
              go_wp2_with fail
              refine hK.out _ _ ⟨X7.out.range, Y7.out.range⟩ (fun hHeld => ?_)
              clear hK K
              try simp only [Act.put, List.setIfInBounds_toArray, List.set_cons_zero, List.set_cons_succ, List.getElem_toArray, List.getElem_cons_succ, List.getElem_cons_zero]
              refine wpAnyH_take (i := 3) (v := ?_) rfl (by kernel_rfl) (by kernel_rfl) (by kernel_rfl) (fun _ _ _ h => h) (Or.inl ⟨by rfl, ?_⟩) (by assumption) ?_
              rotate_left 1
              · intro w hSw; clear hSw; go_simp <;> (with_reducible rfl)
              try simp only [Act.put, List.setIfInBounds_toArray, List.set_cons_zero, List.set_cons_succ, List.getElem_toArray, List.getElem_cons_succ, List.getElem_cons_zero]
              refine wpAnyH_take (i := 4) rfl (by kernel_rfl) (by kernel_rfl) (by kernel_rfl) (fun _ _ _ h => h) (yieldsIf_load_mid (by rfl) 23 (.tmp 2) rfl w.heap.size 0 rfl [.int .i64 V, .int .i64 A, .int .i64 D, .int .i64 lo, .int .i64 hi] _ (fun _ h => h.1) rfl rfl (by kernel_rfl)) (by assumption) ?_
              try simp only [Act.put, List.setIfInBounds_toArray, List.set_cons_zero, List.set_cons_succ, List.getElem_toArray, List.getElem_cons_succ, List.getElem_cons_zero]
              refine wpAnyH_take (i := 5) rfl (by kernel_rfl) (by kernel_rfl) (by kernel_rfl) (fun _ _ _ h => h) (yieldsIf_load_mid (by rfl) 25 (.tmp 3) rfl (w.heap.size + 1) 0 rfl [.int .i64 p', .int .i64 0] _ (fun _ h => h.2) rfl rfl (by kernel_rfl)) (by assumption) ?_
              try simp only [Act.put, List.setIfInBounds_toArray, List.set_cons_zero, List.set_cons_succ, List.getElem_toArray, List.getElem_cons_succ, List.getElem_cons_zero]
              refine wpAnyH_take (i := 7) rfl (by kernel_rfl) (by kernel_rfl) (by kernel_rfl) (fun _ _ _ h => h) (yieldsIf_load_mid (by rfl) 25 (.tmp 3) rfl (w.heap.size + 1) 0 rfl [.int .i64 p', .int .i64 0] _ (fun _ h => h.2) rfl rfl (by kernel_rfl)) (by assumption) ?_
              try simp only [Act.put, List.setIfInBounds_toArray, List.set_cons_zero, List.set_cons_succ, List.getElem_toArray, List.getElem_cons_succ, List.getElem_cons_zero]
              refine wpAnyH_ready (rs := [6]) (by kernel_rfl) (by simp) ?_
              refine AllReadyH.cons rfl (fun K hK => ?_) AllReadyH.nil
              go_simp
              (go_at_call 15; (refine (HST.out _).mono ?_); rintro e w8 ⟨rfl, hb⟩)
              have X8 := X7.out.below hb (by omega)
              have Y8 := Y7.out.below hb (by omega)
              have H8 := Lib.hid (H7.out.trans (hb.mono H7.out.size))
              clear hb
              go_wp2_with fail
              refine hK.out _ _ ⟨X8.range, Y8.range⟩ (fun hHeld => ?_)
              clear hK K
              try simp only [Act.put, List.setIfInBounds_toArray, List.set_cons_zero, List.set_cons_succ, List.getElem_toArray, List.getElem_cons_succ, List.getElem_cons_zero]
              refine wpAnyH_take (i := 8) (v := ?_) rfl (by kernel_rfl) (by kernel_rfl) (by kernel_rfl) (fun _ _ _ h => h) (Or.inl ⟨by rfl, ?_⟩) (by assumption) ?_
              rotate_left 1
              · intro w hSw; clear hSw; go_simp <;> (with_reducible rfl)
              try simp only [Act.put, List.setIfInBounds_toArray, List.set_cons_zero, List.set_cons_succ, List.getElem_toArray, List.getElem_cons_succ, List.getElem_cons_zero]
              refine wpAnyH_take (i := 9) (v := ?_) rfl (by kernel_rfl) (by kernel_rfl) (by kernel_rfl) (fun _ _ _ h => h) (Or.inl ⟨by rfl, ?_⟩) (by assumption) ?_
              rotate_left 1
              · intro w hSw; clear hSw; go_simp <;> (with_reducible rfl)
              try simp only [Act.put, List.setIfInBounds_toArray, List.set_cons_zero, List.set_cons_succ, List.getElem_toArray, List.getElem_cons_succ, List.getElem_cons_zero]
              refine wpAnyH_take (i := 10) (v := ?_) rfl (by kernel_rfl) (by kernel_rfl) (by kernel_rfl) (fun _ _ _ h => h) (Or.inl ⟨by rfl, ?_⟩) (by assumption) ?_
              rotate_left 1
              · intro w hSw; clear hSw; go_simp <;> (with_reducible rfl)
              try simp only [Act.put, List.setIfInBounds_toArray, List.set_cons_zero, List.set_cons_succ, List.getElem_toArray, List.getElem_cons_succ, List.getElem_cons_zero]
              refine wpAnyH_done (by kernel_rfl) ?_ _
              go_wp2
              go_ret
              exact ⟨rfl, H8.out⟩
    · rw [safe_no (fun h => hs h.2)] at hS
      have HS := Lib.hid hS
      clear hS hs hr
      go_enter Try.func5, Try.ntmps5
      go_wp2_with (first | (go_at_call 9; ((with_reducible refine (HK.out _).mono ?_); rintro e w2 ⟨rfl, hb⟩; obtain ⟨x1, x2, x3, x4⟩ := _root_.Go.Proofs.Ytmfigpjofakdnaa.k.boxes2 hb; have X2 := Lib.hid x1; have Y2 := Lib.hid x2; have H2 := Lib.hid x3; obtain ⟨lc0, _, lc1, _, lc2, _, lc3, _, lc4, _, _⟩ := x1; obtain ⟨gc0, _, gc1, _, _⟩ := x2; clear hb x3)) | (go_at_call 11; ((with_reducible refine (HR.out _).mono ?_); rintro e w3 ⟨rfl, hb⟩; have X3 := Lib.hid (X2.out.below hb (by omega)); have Y3 := Lib.hid (Y2.out.below hb (by omega)); have H3 := Lib.hid (H2.out.trans (hb.mono H2.out.size)); have z3 : w.heap.size + 1 < w3.heap.size := Nat.lt_of_lt_of_le x4 hb.size; clear lc0 lc1 lc2 lc3 lc4 gc0 gc1; obtain ⟨lc0, _, lc1, _, lc2, _, lc3, _, lc4, _, _⟩ := X3.out; obtain ⟨gc0, _, gc1, _, _⟩ := Y3.out; clear hb)) | (go_at_call 18; ((with_reducible refine (HS.out _).mono ?_); rintro e w4 ⟨rfl, hb⟩; have X4 := Lib.hid (X3.out.below hb (by omega)); have Y4 := Lib.hid (Y3.out.below hb (by omega)); have H4 := Lib.hid (H3.out.trans (hb.mono H3.out.size)); have z4 : w.heap.size + 1 < w4.heap.size := Nat.lt_of_lt_of_le z3 hb.size; clear lc0 lc1 lc2 lc3 lc4 gc0 gc1; clear hb)))
      go_ret
      exact ⟨rfl, H4.out⟩
  · rw [right_no hr] at hR
    have HR := Lib.hid hR
    clear hR hS hr
    go_enter Try.func5, Try.ntmps5
    go_wp2_with (first | (go_at_call 9; ((with_reducible refine (HK.out _).mono ?_); rintro e w2 ⟨rfl, hb⟩; obtain ⟨x1, x2, x3, x4⟩ := _root_.Go.Proofs.Ytmfigpjofakdnaa.k.boxes2 hb; have X2 := Lib.hid x1; have Y2 := Lib.hid x2; have H2 := Lib.hid x3; obtain ⟨lc0, _, lc1, _, lc2, _, lc3, _, lc4, _, _⟩ := x1; obtain ⟨gc0, _, gc1, _, _⟩ := x2; clear hb x3)) | (go_at_call 11; ((with_reducible refine (HR.out _).mono ?_); rintro e w3 ⟨rfl, hb⟩; have X3 := Lib.hid (X2.out.below hb (by omega)); have Y3 := Lib.hid (Y2.out.below hb (by omega)); have H3 := Lib.hid (H2.out.trans (hb.mono H2.out.size)); have z3 : w.heap.size + 1 < w3.heap.size := Nat.lt_of_lt_of_le x4 hb.size; clear lc0 lc1 lc2 lc3 lc4 gc0 gc1; obtain ⟨lc0, _, lc1, _, lc2, _, lc3, _, lc4, _, _⟩ := X3.out; obtain ⟨gc0, _, gc1, _, _⟩ := Y3.out; clear hb)))
    go_ret
    exact ⟨rfl, H3.out⟩
end Go.Proofs.Ytmfigpjofakdnaa.genStops
