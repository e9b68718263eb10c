/- The walk of the law GenSafe: any limits, any generator, any wishes: it returns true, and what was in memory is as it was. -/
import Derived.Test.YtmfigpjofakdnaaGAwake
import Derived.Test.YtmfigpjofakdnaaIRow
namespace Go.Proofs.Ytmfigpjofakdnaa.genSafe
open Go.ChangeShapes Go.WideShapes Go.ChangeAt Go.RowKit Go.Proofs.Ytmfigpjofakdnaa.k Go.Proofs.Ytmfigpjofakdnaa.b Go.Proofs.Ytmfigpjofakdnaa.gn Go.Proofs.Ytmfigpjofakdnaa
set_option linter.unusedVariables false

theorem wide {a : Int} (h : (Lit.int .i64 a).wf = true) : Wide a := k.wf64 h
set_option maxRecDepth 100000 in
set_option maxHeartbeats 4000000 in
theorem walk (V A D lo hi : Int) (p v : Int) (a : Option Addr) (len cap : Nat) (zs : List Int) (w : World) (u0 : (Lit.int .i64 V).wf = true) (u1 : (Lit.int .i64 A).wf = true) (u2 : (Lit.int .i64 D).wf = true) (u3 : (Lit.int .i64 lo).wf = true) (u4 : (Lit.int .i64 hi).wf = true) (g0 : (Lit.int .i64 p).wf = true) (g1 : (Lit.int .i64 v).wf = true) (w2 : IsRow .i64 w a len cap zs) :
    Calls Try.prog 4 #[.agg #[.int .i64 V, .int .i64 A, .int .i64 D, .int .i64 lo, .int .i64 hi], .agg #[.int .i64 p, .int .i64 v], .slice a len cap] w fun e w' => e = .returned (.bool true) ∧ Below w.heap.size w w' := by
  have hL : WideL ⟨V, A, D, lo, hi⟩ := ⟨wide u0, wide u1, wide u2, wide u3, wide u4⟩
  have HK := Lib.hid fun W => awake_any W
  have hp := wide g0
  have hv := wide g1
  have hlen := w2.len
  have HROW := Lib.hid w2
  clear u0 u1 u2 u3 u4 g0 g1 w2
  have hR := fun W => right_any ⟨V, A, D, lo, hi⟩ hL W
  have hS := fun (hr : RightL ⟨V, A, D, lo, hi⟩) W => safe_any ⟨V, A, D, lo, hi⟩ hr p v hp hv W
  dsimp only at hR hS
  by_cases hr : RightL ⟨V, A, D, lo, hi⟩
  · rw [right_yes hr] at hR
    replace hS := hS hr
    have HR := Lib.hid hR
    clear hR
    by_cases hs : SafeP ⟨V, A, D, lo, hi⟩ p v
    · rw [safe_yes hr hs] at hS
      have HS := Lib.hid hS
      have HQ := Lib.hid (And.intro hr hs)
      clear hS
      have HRR := Lib.hid hr
      obtain ⟨r1, r2, r3, r4, r5, r6, r7, r8, r9⟩ := hr
      dsimp only at r1 r2 r3 r4 r5 r6 r7 r8 r9
      clear hs
      go_enter Try.func4, Try.ntmps4
      go_wp2_with (first | (go_at_call 9; ((with_reducible refine (HK.out _).mono ?_); rintro e w2 ⟨rfl, hb⟩; obtain ⟨x1, x2, x3, x4⟩ := _root_.Go.Proofs.Ytmfigpjofakdnaa.k.boxes2 hb; have X2 := Lib.hid x1; have Y2 := Lib.hid x2; have H2 := Lib.hid x3; obtain ⟨lc0, _, lc1, _, lc2, _, lc3, _, lc4, _, _⟩ := x1; obtain ⟨gc0, _, gc1, _, _⟩ := x2; clear hb x3)) | (go_at_call 11; ((with_reducible refine (HR.out _).mono ?_); rintro e w3 ⟨rfl, hb⟩; have X3 := Lib.hid (X2.out.below hb (by omega)); have Y3 := Lib.hid (Y2.out.below hb (by omega)); have H3 := Lib.hid (H2.out.trans (hb.mono H2.out.size)); have z3 : w.heap.size + 1 < w3.heap.size := Nat.lt_of_lt_of_le x4 hb.size; clear lc0 lc1 lc2 lc3 lc4 gc0 gc1; obtain ⟨lc0, _, lc1, _, lc2, _, lc3, _, lc4, _, _⟩ := X3.out; obtain ⟨gc0, _, gc1, _, _⟩ := Y3.out; clear hb)) | (go_at_call 18; ((with_reducible refine (HS.out _).mono ?_); rintro e w4 ⟨rfl, hb⟩; have X4 := Lib.hid (X3.out.below hb (by omega)); have Y4 := Lib.hid (Y3.out.below hb (by omega)); have H4 := Lib.hid (H3.out.trans (hb.mono H3.out.size)); have z4 : w.heap.size + 1 < w4.heap.size := Nat.lt_of_lt_of_le z3 hb.size; clear lc0 lc1 lc2 lc3 lc4 gc0 gc1; clear hb)))
      go_loopw [7] (fun i wr => ∃ (q : Nat) (p v : Int), q ≤ len ∧ q ≤ 300 ∧ i = .int .i64 q ∧ SafeP ⟨V, A, D, lo, hi⟩ p v ∧ _root_.Go.Proofs.Ytmfigpjofakdnaa.k.Box wr w.heap.size 0 [.int .i64 V, .int .i64 A, .int .i64 D, .int .i64 lo, .int .i64 hi] ∧ _root_.Go.Proofs.Ytmfigpjofakdnaa.k.Box wr (w.heap.size + 1) 0 [.int .i64 p, .int .i64 v] ∧ Below w.heap.size w wr ∧ w.heap.size + 1 < wr.heap.size) (fun i _ => len - (intOf i).toNat)
      case atStart => exact ⟨0, p, v, Nat.zero_le _, by omega, rfl, HQ.out.2, X4.out, Y4.out, H4.out, z4⟩
      case round =>
        obtain ⟨q, p, v, hq, hq3, rfl, hsP, y1, y2, y3, y4⟩ := hrel
        clear X2 Y2 H2 X3 Y3 H3 X4 Y4 H4 HQ HS HR HK hp hv
        have X := Lib.hid y1
        have Y := Lib.hid y2
        have H := Lib.hid y3
        clear y1 y2 y3
        by_cases hlt : q < len
        · by_cases hlt3 : q < 300
          · obtain ⟨b, off, rfl, hbw, hcap, hmax, hrow⟩ := HROW.out.at (by omega)
            obtain ⟨x, hx, hcell⟩ := hrow q hlt
            clear hrow
            have hck : wr.cell? ⟨b, off + q, none⟩ = some (.int .i64 x) := (H.out.cell (p := ⟨b, off + q, none⟩) hbw).trans hcell
            have hst := fun W => step_ok ⟨V, A, D, lo, hi⟩ HRR.out p v hsP x hx W
            have hkp := step_kept HRR.out hsP x
            obtain ⟨s, hs⟩ : ∃ s, stepV ⟨V, A, D, lo, hi⟩ p v x = s := ⟨_, rfl⟩
            rw [hs] at hkp hst
            dsimp only at hst
            obtain ⟨k1, k2, k3, k4, k5, k6⟩ := hkp
            dsimp only at k2 k3 k6
            have hsf := fun W => safe_any ⟨V, A, D, lo, hi⟩ HRR.out (p + s) s (by unfold Wide; have := k1.1; have := k1.2.1; dsimp only at *; omega) (by unfold Wide; have := k1.2.2.1; have := k1.2.2.2.1; omega) W
            rw [safe_yes HRR.out k1] at hsf
            dsimp only at hsf
            have HST := Lib.hid hst
            have HSF := Lib.hid hsf
            have ⟨n1, n2, n3, n4, _⟩ := k1
            have ⟨m1, m2, m3, m4, _⟩ := hsP
            dsimp only at n1 n2 m1 m2
            have HK1 := Lib.hid k1
            clear hst hsf hs hcell k1 hsP
            have hbb : b < wr.heap.size := by have := H.out.size; omega
            go_upto_region 8 with (fail)
            go_cut [8] from 23 to 123 (fun q8 wx => ∃ gx : Nat, q8 = .pointer (some ⟨gx, 0, none⟩) ∧ _root_.Go.Proofs.Ytmfigpjofakdnaa.k.Box wx gx 0 [.int .i64 (p + s), .int .i64 s] ∧ _root_.Go.Proofs.Ytmfigpjofakdnaa.k.Box wx w.heap.size 0 [.int .i64 V, .int .i64 A, .int .i64 D, .int .i64 lo, .int .i64 hi] ∧ _root_.Go.Proofs.Ytmfigpjofakdnaa.k.Box wx (w.heap.size + 1) 0 [.int .i64 p, .int .i64 v] ∧ Below w.heap.size w wx ∧ w.heap.size + 1 < gx ∧ gx < wx.heap.size)
            case first =>
              refine wp_region_held_drew (S := (fun w' => World.rangeAt w' w.heap.size 0 [.int .i64 V, .int .i64 A, .int .i64 D, .int .i64 lo, .int .i64 hi] ∧ World.rangeAt w' (w.heap.size + 1) 0 [.int .i64 p, .int .i64 v] ∧ World.cell? w' ⟨b, off + q, none⟩ = some (.int .i64 x))) (by kernel_rfl) ⟨X.out.range, Y.out.range, hck⟩ (fun hHeld => ?_)
              refine wpAnyH_take (i := 0) rfl (by kernel_rfl) (by kernel_rfl) (by kernel_rfl) (fun _ _ _ h => h) (yieldsIf_load_mid (by rfl) 23 (.tmp 3) rfl w.heap.size 0 rfl [.int .i64 V, .int .i64 A, .int .i64 D, .int .i64 lo, .int .i64 hi] _ (fun _ h => h.1) rfl rfl (by kernel_rfl)) (by assumption) ?_
              try simp only [Act.put, List.setIfInBounds_toArray, List.set_cons_zero, List.set_cons_succ, List.getElem_toArray, List.getElem_cons_zero]
              refine wpAnyH_take (i := 1) rfl (by kernel_rfl) (by kernel_rfl) (by kernel_rfl) (fun _ _ _ h => h) (yieldsIf_load_mid (by rfl) 25 (.tmp 4) rfl (w.heap.size + 1) 0 rfl [.int .i64 p, .int .i64 v] _ (fun _ h => h.2.1) rfl rfl (by kernel_rfl)) (by assumption) ?_
              try simp only [Act.put, List.setIfInBounds_toArray, List.set_cons_zero, List.set_cons_succ, List.getElem_toArray, List.getElem_cons_succ, List.getElem_cons_zero]
              refine wpAnyH_take (i := 2) (v := ?_) rfl (by kernel_rfl) (by kernel_rfl) (by kernel_rfl) (fun _ _ _ h => h) (Or.inl ⟨by rfl, ?_⟩) (by assumption) ?_
              rotate_left 1
              · intro w hSw; clear hSw; go_simp <;> (with_reducible rfl)
              try simp only [Act.put, List.setIfInBounds_toArray, List.set_cons_zero, List.set_cons_succ, List.getElem_toArray, List.getElem_cons_succ, List.getElem_cons_zero]
              refine wpAnyH_take (i := 3) (v := ?_) rfl (by kernel_rfl) (by kernel_rfl) (by kernel_rfl) (fun _ _ _ h => h) (Or.inl ⟨by rfl, ?_⟩) (by assumption) ?_
              rotate_left 1
              · intro w hSw; clear hSw; go_simp <;> (with_reducible rfl)
              try simp only [Act.put, List.setIfInBounds_toArray, List.set_cons_zero, List.set_cons_succ, List.getElem_toArray, List.getElem_cons_succ, List.getElem_cons_zero]
              refine wpAnyH_take (i := 4) (v := ?_) rfl (by kernel_rfl) (by kernel_rfl) (by kernel_rfl) (fun _ _ _ h => h) (Or.inl ⟨by rfl, ?_⟩) (by assumption) ?_
              rotate_left 1
              · intro w hSw; clear hSw; go_simp <;> (with_reducible rfl)
              try simp only [Act.put, List.setIfInBounds_toArray, List.set_cons_zero, List.set_cons_succ, List.getElem_toArray, List.getElem_cons_succ, List.getElem_cons_zero]
              refine wpAnyH_take (i := 5) (v := ?_) rfl (by kernel_rfl) (by kernel_rfl) (by kernel_rfl) (fun _ _ _ h => h) (Or.inl ⟨by rfl, ?_⟩) (by assumption) ?_
              rotate_left 1
              · intro w hSw; have hSw2 := hSw.2.2; clear hSw; go_simp <;> (with_reducible rfl)
              try simp only [Act.put, List.setIfInBounds_toArray, List.set_cons_zero, List.set_cons_succ, List.getElem_toArray, List.getElem_cons_succ, List.getElem_cons_zero]
              refine wpAnyH_ready (rs := [6, 7]) (by kernel_rfl) (by simp) ?_
              refine AllReadyH.cons rfl (fun K hK => ?_) (AllReadyH.cons rfl (fun K hK => ?_) AllReadyH.nil)
              · go_simp
                (go_at_call 15; (refine (HST.out _).mono ?_); rintro e w5 ⟨rfl, hb0⟩)
                have hb : Below wr.heap.size wr w5 := ((Below.refl _ _).drew).trans hb0
                have X5 := Lib.hid (X.out.below hb (by omega))
                have Y5 := Lib.hid (Y.out.below hb (by omega))
                have H5 := Lib.hid (H.out.trans (hb.mono H.out.size))
                have c5 := (hb.cell (p := ⟨b, off + q, none⟩) hbb).trans hck
                have z5 : w.heap.size + 1 < w5.heap.size := Nat.lt_of_lt_of_le y4 hb.size
                have b5 : b < w5.heap.size := Nat.lt_of_lt_of_le hbb hb.size
                clear hb hb0
                go_wp2_with fail
                refine hK.out _ _ ⟨X5.out.range, Y5.out.range, c5⟩ (fun hHeld => ?_)
                clear hK K
                try simp only [Act.put, List.setIfInBounds_toArray, List.set_cons_zero, List.set_cons_succ, List.getElem_toArray, List.getElem_cons_succ, List.getElem_cons_zero]
                refine wpAnyH_ready (rs := [7]) (by kernel_rfl) (by simp) ?_
                refine AllReadyH.cons rfl (fun K hK => ?_) AllReadyH.nil
                go_simp
                have ha : Below w5.heap.size w5 (w5.alloc (.cells #[.int .i64 0, .int .i64 0] 25)) := (Below.refl _ _).alloc (Nat.le_refl _) _
                have X6 := X5.out.below ha (by omega)
                have Y6 := Y5.out.below ha (by omega)
                have H6 := H5.out.trans (ha.mono H5.out.size)
                have c6 := (ha.cell (p := ⟨b, off + q, none⟩) b5).trans c5
                refine hK.out _ _ ⟨X6.range, Y6.range, c6⟩ (fun hHeld => ?_)
                have n6 := _root_.Go.Proofs.Ytmfigpjofakdnaa.k.Box.new w5 #[.int .i64 0, .int .i64 0] 25
                have z6 : w5.heap.size < (w5.alloc (.cells #[.int .i64 0, .int .i64 0] 25)).heap.size := by simp
                generalize w5.alloc (.cells #[.int .i64 0, .int .i64 0] 25) = w6 at X6 Y6 H6 c6 n6 z6 ⊢
                have z7 : w.heap.size + 1 < w5.heap.size := z5
                generalize w5.heap.size = gx at n6 z6 z7 ⊢
                clear hK K ha
                try simp only [Act.put, List.setIfInBounds_toArray, List.set_cons_zero, List.set_cons_succ, List.getElem_toArray, List.getElem_cons_succ, List.getElem_cons_zero]
                have bgx : b < gx := by omega
                refine wpAnyH_ready (rs := [8]) (by kernel_rfl) (by simp) ?_
                refine AllReadyH.cons rfl (fun K hK => ?_) AllReadyH.nil
                rw [if_pos (by rfl)]
                obtain ⟨W, hW, h1, h2, h3, h5⟩ := _root_.Go.Proofs.Ytmfigpjofakdnaa.k.stored (us := [.int .i64 (p + s), .int .i64 s]) n6 rfl
                refine wp_store_mid 25 (.tmp 8) (.tmp 39) rfl gx 0 #[.int .i64 (p + s), .int .i64 s] rfl rfl (_root_.Go.Proofs.Ytmfigpjofakdnaa.k.there_of n6 rfl) (by kernel_rfl) (by simp [Value.oneCell']) ?_
                change K _ (World.setCells _ _ _ [.int .i64 (p + s), .int .i64 s])
                rw [hW]
                have bW := h3 gx (Nat.le_refl _)
                have X7 := X6.below bW (by omega)
                have Y7 := Y6.below bW (by omega)
                have H7 := H6.trans (h3 _ (by omega))
                have c7 : W.cell? ⟨b, off + q, none⟩ = some (.int .i64 x) := (bW.cell (p := ⟨b, off + q, none⟩) (show b < gx by omega)).trans c6
                refine hK.out _ _ ⟨X7.range, Y7.range, c7⟩ (fun hHeld => ?_)
                have z8 : gx < W.heap.size := by omega
                clear hK K hW h2 h3 h5
                try simp only [Act.put, List.getElem_toArray, List.getElem_cons_succ, List.getElem_cons_zero]
                refine wpAnyH_done (by kernel_rfl) ?_ _
                go_wp2_with fail
                go_meet
                case rel => exact ⟨gx, rfl, h1, X7, Y7, H7, z7, z8⟩
              · go_simp
                have ha : Below wr.heap.size wr ((wr.alloc (.cells #[.int .i64 0, .int .i64 0] 25)).drew) := ((Below.refl _ _).alloc (Nat.le_refl _) _).drew
                refine hK.out _ _ ⟨(X.out.below ha (by omega)).range, (Y.out.below ha (by omega)).range, (ha.cell (p := ⟨b, off + q, none⟩) hbb).trans hck⟩ (fun hHeld => ?_)
                clear hK K
                try simp only [Act.put, List.setIfInBounds_toArray, List.set_cons_zero, List.set_cons_succ, List.getElem_toArray, List.getElem_cons_succ, List.getElem_cons_zero]
                refine wpAnyH_ready (rs := [6]) (by kernel_rfl) (by simp) ?_
                refine AllReadyH.cons rfl (fun K hK => ?_) AllReadyH.nil
                go_simp
                (go_at_call 15; (refine (HST.out _).mono ?_); rintro e w6 ⟨rfl, hb0⟩)
                have hb : Below wr.heap.size wr w6 := ha.trans (hb0.mono ha.size)
                have X6 := X.out.below hb (by omega)
                have Y6 := Y.out.below hb (by omega)
                have H6 := H.out.trans (hb.mono H.out.size)
                have c6 := (hb.cell (p := ⟨b, off + q, none⟩) hbb).trans hck
                have n6 : _root_.Go.Proofs.Ytmfigpjofakdnaa.k.Box w6 wr.heap.size 0 [.int .i64 0, .int .i64 0] := (_root_.Go.Proofs.Ytmfigpjofakdnaa.k.Box.new wr #[.int .i64 0, .int .i64 0] 25).below ((Below.refl _ _).drew.trans hb0) (by simp)
                have z6 : wr.heap.size < w6.heap.size := by have := hb0.size; simp at this; omega
                have z7 : w.heap.size + 1 < wr.heap.size := y4
                clear hb hb0 ha
                go_wp2_with fail
                refine hK.out _ _ ⟨X6.range, Y6.range, c6⟩ (fun hHeld => ?_)
                clear hK K
                try simp only [Act.put, List.setIfInBounds_toArray, List.set_cons_zero, List.set_cons_succ, List.getElem_toArray, List.getElem_cons_succ, List.getElem_cons_zero]
                obtain ⟨gx, hgx⟩ : ∃ gx, wr.heap.size = gx := ⟨_, rfl⟩
                rw [hgx] at n6 z6 z7 ⊢
                clear hgx
                have bgx : b < gx := by omega
                refine wpAnyH_ready (rs := [8]) (by kernel_rfl) (by simp) ?_
                refine AllReadyH.cons rfl (fun K hK => ?_) AllReadyH.nil
                rw [if_pos (by rfl)]
                obtain ⟨W, hW, h1, h2, h3, h5⟩ := _root_.Go.Proofs.Ytmfigpjofakdnaa.k.stored (us := [.int .i64 (p + s), .int .i64 s]) n6 rfl
                refine wp_store_mid 25 (.tmp 8) (.tmp 39) rfl gx 0 #[.int .i64 (p + s), .int .i64 s] rfl rfl (_root_.Go.Proofs.Ytmfigpjofakdnaa.k.there_of n6 rfl) (by kernel_rfl) (by simp [Value.oneCell']) ?_
                change K _ (World.setCells _ _ _ [.int .i64 (p + s), .int .i64 s])
                rw [hW]
                have bW := h3 gx (Nat.le_refl _)
                have X7 := X6.below bW (by omega)
                have Y7 := Y6.below bW (by omega)
                have H7 := H6.trans (h3 _ (by omega))
                have c7 : W.cell? ⟨b, off + q, none⟩ = some (.int .i64 x) := (bW.cell (p := ⟨b, off + q, none⟩) (show b < gx by omega)).trans c6
                refine hK.out _ _ ⟨X7.range, Y7.range, c7⟩ (fun hHeld => ?_)
                have z8 : gx < W.heap.size := by omega
                clear hK K hW h2 h3 h5
                try simp only [Act.put, List.getElem_toArray, List.getElem_cons_succ, List.getElem_cons_zero]
                refine wpAnyH_done (by kernel_rfl) ?_ _
                go_wp2_with fail
                go_meet
                case rel => exact ⟨gx, rfl, h1, X7, Y7, H7, z7, z8⟩
            case rest =>
              obtain ⟨gx, rfl, j1, j2, j3, j4, j5, j6⟩ := hcut
              have X9 := Lib.hid j2
              have Y9 := Lib.hid j3
              have N9 := Lib.hid j1
              have H9 := Lib.hid j4
              obtain ⟨lc0, _, lc1, _, lc2, _, lc3, _, lc4, _, _⟩ := j2
              obtain ⟨gc0, _, gc1, _, _⟩ := j3
              obtain ⟨nc0, _, nc1, _, _⟩ := j1
              clear j4 X Y hck
              have e1 : (p + s != p + s) = false := by simp
              have e2 : decide (max A D < s - v) = false := decide_eq_false (by omega)
              have e3 : decide (max A D < -(s - v)) = false := decide_eq_false (by omega)
              go_upto_region 10 with (fail)
              have k7 : s < 0 → ¬ 0 < v := fun a b => k4 ⟨b, a⟩
              have k8 : 0 < s → ¬ v < 0 := fun a b => k5 ⟨b, a⟩
              clear k4 k5
              have HK6 := Lib.hid k6
              have HK7 := Lib.hid (And.intro k7 k8)
              clear k6 k7 k8
              go_cut [97] from 23 to 123 (fun q97 wx => q97 = .bool false ∧ _root_.Go.Proofs.Ytmfigpjofakdnaa.k.Box wx gx 0 [.int .i64 (p + s), .int .i64 s] ∧ _root_.Go.Proofs.Ytmfigpjofakdnaa.k.Box wx w.heap.size 0 [.int .i64 V, .int .i64 A, .int .i64 D, .int .i64 lo, .int .i64 hi] ∧ _root_.Go.Proofs.Ytmfigpjofakdnaa.k.Box wx (w.heap.size + 1) 0 [.int .i64 p, .int .i64 v] ∧ Below w.heap.size w wx ∧ gx < wx.heap.size)
              case first =>
                by_cases s1 : s < 0
                · have d1 := HK7.out.1 s1
                  have d2 : decide (0 < v) = false := decide_eq_false d1
                  have d3 : decide (0 < s) = false := decide_eq_false (by omega)
                  go_wp2_with ((go_at_call 18; ((with_reducible refine (HSF.out _).mono ?_); rintro e w10 ⟨rfl, hb⟩; have X10 := Lib.hid (X9.out.below hb (by omega)); have Y10 := Lib.hid (Y9.out.below hb (by omega)); have N10 := Lib.hid (N9.out.below hb j6); have H10 := Lib.hid (H9.out.trans (hb.mono H9.out.size)); have z10 := Nat.lt_of_lt_of_le j6 hb.size; clear lc0 lc1 lc2 lc3 lc4 gc0 gc1 nc0 nc1; obtain ⟨lc0, _, lc1, _, lc2, _, lc3, _, lc4, _, _⟩ := X10.out; obtain ⟨gc0, _, gc1, _, _⟩ := Y10.out; obtain ⟨nc0, _, nc1, _, _⟩ := N10.out; clear hb)))
                  go_meet
                  case rel => exact ⟨rfl, N10.out, X10.out, Y10.out, H10.out, z10⟩
                · by_cases s2 : 0 < s
                  · have d1 := HK7.out.2 s2
                    have d2 : decide (v < 0) = false := decide_eq_false d1
                    have d3 : decide (s < 0) = false := decide_eq_false (by omega)
                    go_wp2_with ((go_at_call 18; ((with_reducible refine (HSF.out _).mono ?_); rintro e w10 ⟨rfl, hb⟩; have X10 := Lib.hid (X9.out.below hb (by omega)); have Y10 := Lib.hid (Y9.out.below hb (by omega)); have N10 := Lib.hid (N9.out.below hb j6); have H10 := Lib.hid (H9.out.trans (hb.mono H9.out.size)); have z10 := Nat.lt_of_lt_of_le j6 hb.size; clear lc0 lc1 lc2 lc3 lc4 gc0 gc1 nc0 nc1; obtain ⟨lc0, _, lc1, _, lc2, _, lc3, _, lc4, _, _⟩ := X10.out; obtain ⟨gc0, _, gc1, _, _⟩ := Y10.out; obtain ⟨nc0, _, nc1, _, _⟩ := N10.out; clear hb)))
                    go_meet
                    case rel => exact ⟨rfl, N10.out, X10.out, Y10.out, H10.out, z10⟩
                  · have d2 : decide (0 < s) = false := decide_eq_false s2
                    have d3 : decide (s < 0) = false := decide_eq_false s1
                    go_wp2_with ((go_at_call 18; ((with_reducible refine (HSF.out _).mono ?_); rintro e w10 ⟨rfl, hb⟩; have X10 := Lib.hid (X9.out.below hb (by omega)); have Y10 := Lib.hid (Y9.out.below hb (by omega)); have N10 := Lib.hid (N9.out.below hb j6); have H10 := Lib.hid (H9.out.trans (hb.mono H9.out.size)); have z10 := Nat.lt_of_lt_of_le j6 hb.size; clear lc0 lc1 lc2 lc3 lc4 gc0 gc1 nc0 nc1; obtain ⟨lc0, _, lc1, _, lc2, _, lc3, _, lc4, _, _⟩ := X10.out; obtain ⟨gc0, _, gc1, _, _⟩ := Y10.out; obtain ⟨nc0, _, nc1, _, _⟩ := N10.out; clear hb)))
                    go_meet
                    case rel => exact ⟨rfl, N10.out, X10.out, Y10.out, H10.out, z10⟩
              case rest =>
                obtain ⟨rfl, i1, i2, i3, i4, i5⟩ := hcut
                clear lc0 lc1 lc2 lc3 lc4 gc0 gc1 nc0 nc1 X9 Y9 N9 H9 e1 e2 e3
                have X9 := Lib.hid i2
                have H9 := Lib.hid i4
                have I3 := Lib.hid i3
                obtain ⟨lc0, _, lc1, _, lc2, _, lc3, _, lc4, _, _⟩ := i2
                obtain ⟨gc0, gf0, gc1, gf1, _⟩ := i3
                obtain ⟨nc0, _, nc1, _, _⟩ := i1
                clear i4
                go_upto_region 12 with (fail)
                go_quiet (fail)
                by_cases hV : V < max s (-s)
                · have d1 : decide (max (max v (-v) - D) 0 < max s (-s)) = false := decide_eq_false (by have := HK6.out; omega)
                  go_wp2
                  go_roundw
                  case rel => exact ⟨q + 1, p + s, s, by omega, by omega, by go_num, HK1.out, _root_.Go.Proofs.Ytmfigpjofakdnaa.k.Box_aside (by omega) _ (_root_.Go.Proofs.Ytmfigpjofakdnaa.k.Box_aside (by omega) _ (X9.out.drawn _)), ((I3.out.drawn _).put 0 (by simp) _).put 1 (by simp) _, ((_root_.Go.Proofs.Ytmfigpjofakdnaa.k.below_drawn H9.out _).setCell (by simp) _).setCell (by simp) _, by simp; omega⟩
                  case measure => simp [intOf]; omega
                · have d1 : decide (V < max s (-s)) = false := decide_eq_false hV
                  go_wp2
                  go_roundw
                  case rel => exact ⟨q + 1, p + s, s, by omega, by omega, by go_num, HK1.out, _root_.Go.Proofs.Ytmfigpjofakdnaa.k.Box_aside (by omega) _ (_root_.Go.Proofs.Ytmfigpjofakdnaa.k.Box_aside (by omega) _ (X9.out.drawn _)), ((I3.out.drawn _).put 0 (by simp) _).put 1 (by simp) _, ((_root_.Go.Proofs.Ytmfigpjofakdnaa.k.below_drawn H9.out _).setCell (by simp) _).setCell (by simp) _, by simp; omega⟩
                  case measure => simp [intOf]; omega
          · have d3 : decide ((q : Int) < 300) = false := decide_eq_false (by omega)
            go_wp2
            go_ret
            exact ⟨rfl, H.out⟩
        · have d4 : decide (q < len) = false := decide_eq_false hlt
          go_wp2
          go_ret
          exact ⟨rfl, H.out⟩
    · rw [safe_no (fun h => hs h.2)] at hS
      have HS := Lib.hid hS
      clear hS hs hr
      go_enter Try.func4, Try.ntmps4
      go_wp2_with (first | (go_at_call 9; ((with_reducible refine (HK.out _).mono ?_); rintro e w2 ⟨rfl, hb⟩; obtain ⟨x1, x2, x3, x4⟩ := _root_.Go.Proofs.Ytmfigpjofakdnaa.k.boxes2 hb; have X2 := Lib.hid x1; have Y2 := Lib.hid x2; have H2 := Lib.hid x3; obtain ⟨lc0, _, lc1, _, lc2, _, lc3, _, lc4, _, _⟩ := x1; obtain ⟨gc0, _, gc1, _, _⟩ := x2; clear hb x3)) | (go_at_call 11; ((with_reducible refine (HR.out _).mono ?_); rintro e w3 ⟨rfl, hb⟩; have X3 := Lib.hid (X2.out.below hb (by omega)); have Y3 := Lib.hid (Y2.out.below hb (by omega)); have H3 := Lib.hid (H2.out.trans (hb.mono H2.out.size)); have z3 : w.heap.size + 1 < w3.heap.size := Nat.lt_of_lt_of_le x4 hb.size; clear lc0 lc1 lc2 lc3 lc4 gc0 gc1; obtain ⟨lc0, _, lc1, _, lc2, _, lc3, _, lc4, _, _⟩ := X3.out; obtain ⟨gc0, _, gc1, _, _⟩ := Y3.out; clear hb)) | (go_at_call 18; ((with_reducible refine (HS.out _).mono ?_); rintro e w4 ⟨rfl, hb⟩; have X4 := Lib.hid (X3.out.below hb (by omega)); have Y4 := Lib.hid (Y3.out.below hb (by omega)); have H4 := Lib.hid (H3.out.trans (hb.mono H3.out.size)); have z4 : w.heap.size + 1 < w4.heap.size := Nat.lt_of_lt_of_le z3 hb.size; clear lc0 lc1 lc2 lc3 lc4 gc0 gc1; clear hb)))
      go_ret
      exact ⟨rfl, H4.out⟩
  · rw [right_no hr] at hR
    have HR := Lib.hid hR
    clear hR hS hr
    go_enter Try.func4, Try.ntmps4
    go_wp2_with (first | (go_at_call 9; ((with_reducible refine (HK.out _).mono ?_); rintro e w2 ⟨rfl, hb⟩; obtain ⟨x1, x2, x3, x4⟩ := _root_.Go.Proofs.Ytmfigpjofakdnaa.k.boxes2 hb; have X2 := Lib.hid x1; have Y2 := Lib.hid x2; have H2 := Lib.hid x3; obtain ⟨lc0, _, lc1, _, lc2, _, lc3, _, lc4, _, _⟩ := x1; obtain ⟨gc0, _, gc1, _, _⟩ := x2; clear hb x3)) | (go_at_call 11; ((with_reducible refine (HR.out _).mono ?_); rintro e w3 ⟨rfl, hb⟩; have X3 := Lib.hid (X2.out.below hb (by omega)); have Y3 := Lib.hid (Y2.out.below hb (by omega)); have H3 := Lib.hid (H2.out.trans (hb.mono H2.out.size)); have z3 : w.heap.size + 1 < w3.heap.size := Nat.lt_of_lt_of_le x4 hb.size; clear lc0 lc1 lc2 lc3 lc4 gc0 gc1; obtain ⟨lc0, _, lc1, _, lc2, _, lc3, _, lc4, _, _⟩ := X3.out; obtain ⟨gc0, _, gc1, _, _⟩ := Y3.out; clear hb)))
    go_ret
    exact ⟨rfl, H3.out⟩
end Go.Proofs.Ytmfigpjofakdnaa.genSafe
