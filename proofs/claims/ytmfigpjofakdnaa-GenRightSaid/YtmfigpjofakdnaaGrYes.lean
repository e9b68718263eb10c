/- Stage 9's law GenRight: right limits and a safe generator. No condition but what each line says. -/
import Derived.Test.YtmfigpjofakdnaaGrBase
namespace Go.Proofs.Ytmfigpjofakdnaa.genRight
open Go.ChangeShapes Go.WideShapes Go.ChangeAt Go.RowKit Go.Proofs.Ytmfigpjofakdnaa.k Go.Proofs.Ytmfigpjofakdnaa.b Go.Proofs.Ytmfigpjofakdnaa.gn Go.Proofs.Ytmfigpjofakdnaa
set_option linter.unusedVariables false

set_option maxRecDepth 100000 in
set_option maxHeartbeats 8000000 in
theorem yes (V A D lo hi : Int) (p v x t u s y : Int) (w : World) (hL : WideL ⟨V, A, D, lo, hi⟩) (hp : Wide p) (hv : Wide v) (hx : Wide x) (ht : Wide t) (hu : Wide u) (hs0 : Wide s) (hy : Wide y) (hr : RightL ⟨V, A, D, lo, hi⟩) (hs : SafeP ⟨V, A, D, lo, hi⟩ p v) :
    Calls Try.prog 3 #[.agg #[.int .i64 V, .int .i64 A, .int .i64 D, .int .i64 lo, .int .i64 hi], .agg #[.int .i64 p, .int .i64 v], .int .i64 x, .int .i64 t, .int .i64 u, .int .i64 s, .int .i64 y] w fun e w' => e = .returned (.bool true) ∧ Below w.heap.size w w' := by
  have HK := Lib.hid fun W => awake_any W
  have hR := fun W => right_any ⟨V, A, D, lo, hi⟩ hL W
  have hRR := fun W => refright_any ⟨V, A, D, lo, hi⟩ W
  dsimp only at hR hRR
  rw [right_yes hr] at hR hRR
  have HR := Lib.hid hR
  have HRR := Lib.hid hRR
  clear hR hRR
  have hl := fun W => landed_any p v t W
  have hsr := fun W => refsafe_any ⟨V, A, D, lo, hi⟩ hr p v hp hv W
  have hsf := fun W => safe_any ⟨V, A, D, lo, hi⟩ hr p v hp hv W
  dsimp only at hsr hsf
  rw [safe_yes hr hs] at hsr hsf
  have HSR := Lib.hid hsr
  have HSF := Lib.hid hsf
  clear hsr hsf
  have hm := fun W => may_ok ⟨V, A, D, lo, hi⟩ hr p v hs W
  have hmr := fun W => refmay_any ⟨V, A, D, lo, hi⟩ hr p v hs W
  have hst := fun W => step_ok ⟨V, A, D, lo, hi⟩ hr p v hs x hx W
  have hstr := fun W => refstep_any ⟨V, A, D, lo, hi⟩ hr p v x hs W
  have hto := fun W => to_ok ⟨V, A, D, lo, hi⟩ hr p v hs t y ht hy W
  have htor := fun W => refto_any ⟨V, A, D, lo, hi⟩ hr p v t y hs W
  have hby := fun W => by_ok ⟨V, A, D, lo, hi⟩ hr p v hs t u s y ht hu hs0 hy W
  have hbyr := fun W => refby_any ⟨V, A, D, lo, hi⟩ hr p v t u s y hs W
  generalize mayLo ⟨V, A, D, lo, hi⟩ p v = m1 at hm hmr
  generalize mayHi ⟨V, A, D, lo, hi⟩ p v = m2 at hm hmr
  generalize stepV ⟨V, A, D, lo, hi⟩ p v x = m3 at hst hstr
  generalize toV ⟨V, A, D, lo, hi⟩ p v t y = m4 at hto htor
  generalize byV ⟨V, A, D, lo, hi⟩ p v t u s y = m5 at hby hbyr
  dsimp only at hm hmr hst hstr hto htor hby hbyr
  generalize p + m3 = m6 at hst hstr
  have HM := Lib.hid hm
  have HMR := Lib.hid hmr
  have HST := Lib.hid hst
  have HSTR := Lib.hid hstr
  have HT := Lib.hid hto
  have HTR := Lib.hid htor
  have HB := Lib.hid hby
  have HBR := Lib.hid hbyr
  clear hm hmr hst hstr hto htor hby hbyr
  clear hr hs
  go_enter Try.func3, Try.ntmps3
  go_upto_region 4 with (first | (go_at_call 9; ((with_reducible refine (HK.out _).mono ?_); rintro e w2 ⟨rfl, hb⟩; obtain ⟨x1, x2, x3, x4⟩ := _root_.Go.Proofs.Ytmfigpjofakdnaa.k.boxes2 hb; have X2 := Lib.hid x1; have Y2 := Lib.hid x2; have H2 := Lib.hid x3; obtain ⟨lc0, _, lc1, _, lc2, _, lc3, _, lc4, _, _⟩ := x1; obtain ⟨gc0, _, gc1, _, _⟩ := x2; clear hb x3)) | (go_at_call 10; ((with_reducible refine (HRR.out _).mono ?_); rintro e w3 ⟨rfl, hb⟩; have X3 := Lib.hid (X2.out.below hb (by omega)); have Y3 := Lib.hid (Y2.out.below hb (by omega)); have H3 := Lib.hid (H2.out.trans (hb.mono H2.out.size)); have z3 : w.heap.size + 1 < w3.heap.size := Nat.lt_of_lt_of_le x4 hb.size; clear lc0 lc1 lc2 lc3 lc4 gc0 gc1; clear hb)))
  have z3' := z3
  go_cut [42] from 20 to 158 (fun q42 wx => q42 = .bool false ∧ _root_.Go.Proofs.Ytmfigpjofakdnaa.k.Box wx w.heap.size 0 [.int .i64 V, .int .i64 A, .int .i64 D, .int .i64 lo, .int .i64 hi] ∧ _root_.Go.Proofs.Ytmfigpjofakdnaa.k.Box wx (w.heap.size + 1) 0 [.int .i64 p, .int .i64 v] ∧ Below w.heap.size w wx ∧ w.heap.size + 1 < wx.heap.size)
  case first =>
    by_cases e1 : p = t
    · by_cases e2 : v = 0
      · rw [show landB p v t = true from decide_eq_true ⟨e1, e2⟩] at hl
        have e1b : (p == t) = true := by rw [e1]; simp
        have e2b : (v == 0) = true := by rw [e2]; rfl
        clear e1 e2
        have HL := Lib.hid hl
        clear hl
        refine wp_region_held_drew (S := (fun w' => World.rangeAt w' w.heap.size 0 [.int .i64 V, .int .i64 A, .int .i64 D, .int .i64 lo, .int .i64 hi] ∧ World.rangeAt w' (w.heap.size + 1) 0 [.int .i64 p, .int .i64 v] ∧ World.cell? w' ⟨w.heap.size + 1, 0, none⟩ = some (.int .i64 p) ∧ World.cell? w' ⟨w.heap.size + 1, 1, none⟩ = some (.int .i64 v))) (by kernel_rfl) ⟨X3.out.range, Y3.out.range, (_root_.Go.Proofs.Ytmfigpjofakdnaa.k.cell_of Y3.out (i := 0) rfl).1, (_root_.Go.Proofs.Ytmfigpjofakdnaa.k.cell_of Y3.out (i := 1) rfl).1⟩ (fun hHeld => ?_)
        refine wpAnyH_take (i := 0) rfl (by kernel_rfl) (by kernel_rfl) (by kernel_rfl) (fun _ _ _ h => h) (yieldsIf_load_mid (by rfl) 23 (.tmp 7) rfl w.heap.size 0 rfl [.int .i64 V, .int .i64 A, .int .i64 D, .int .i64 lo, .int .i64 hi] _ (fun _ h => h.1) rfl rfl (by kernel_rfl)) (by assumption) ?_
        try simp only [Act.put, List.setIfInBounds_toArray, List.set_cons_zero, List.set_cons_succ, List.getElem_toArray, List.getElem_cons_zero]
        refine wpAnyH_take (i := 2) (v := ?_) rfl (by kernel_rfl) (by kernel_rfl) (by kernel_rfl) (fun _ _ _ h => h) (Or.inl ⟨by rfl, ?_⟩) (by assumption) ?_
        rotate_left 1
        · intro w hSw; obtain ⟨_, _, hs1, hs2⟩ := hSw; go_simp <;> (with_reducible rfl)
        try simp only [Act.put, List.setIfInBounds_toArray, List.set_cons_zero, List.set_cons_succ, List.getElem_toArray, List.getElem_cons_succ, List.getElem_cons_zero]
        refine wpAnyH_ready (rs := [1]) (by kernel_rfl) (by simp) ?_
        refine AllReadyH.cons rfl (fun K hK => ?_) AllReadyH.nil
        go_simp
        (go_at_call 11; (refine (HR.out _).mono ?_); rintro e w4 ⟨rfl, hb0⟩)
        have hb : Below w3.heap.size w3 w4 := ((Below.refl _ _).drew).trans hb0
        have X4 := Lib.hid (X3.out.below hb (by omega))
        have Y4 := Lib.hid (Y3.out.below hb (by omega))
        have H4 := Lib.hid (H3.out.trans (hb.mono H3.out.size))
        have z4 : w.heap.size + 1 < w4.heap.size := Nat.lt_of_lt_of_le z3 hb.size
        clear hb hb0
        go_wp2_with fail
        refine hK.out _ _ ⟨X4.out.range, Y4.out.range, (_root_.Go.Proofs.Ytmfigpjofakdnaa.k.cell_of Y4.out (i := 0) rfl).1, (_root_.Go.Proofs.Ytmfigpjofakdnaa.k.cell_of Y4.out (i := 1) rfl).1⟩ (fun hHeld => ?_)
        clear hK K
        try simp only [Act.put, List.setIfInBounds_toArray, List.set_cons_zero, List.set_cons_succ, List.getElem_toArray, List.getElem_cons_succ, List.getElem_cons_zero]
        refine wpAnyH_take (i := 3) (v := ?_) rfl (by kernel_rfl) (by kernel_rfl) (by kernel_rfl) (fun _ _ _ h => h) (Or.inl ⟨by rfl, ?_⟩) (by assumption) ?_
        rotate_left 1
        · intro w hSw; obtain ⟨_, _, hs1, hs2⟩ := hSw; go_simp <;> (with_reducible rfl)
        try simp only [Act.put, List.setIfInBounds_toArray, List.set_cons_zero, List.set_cons_succ, List.getElem_toArray, List.getElem_cons_succ, List.getElem_cons_zero]
        refine wpAnyH_take (i := 4) (v := ?_) rfl (by kernel_rfl) (by kernel_rfl) (by kernel_rfl) (fun _ _ _ h => h) (Or.inl ⟨by rfl, ?_⟩) (by assumption) ?_
        rotate_left 1
        · intro w hSw; obtain ⟨_, _, hs1, hs2⟩ := hSw; go_simp <;> (with_reducible rfl)
        try simp only [Act.put, List.setIfInBounds_toArray, List.set_cons_zero, List.set_cons_succ, List.getElem_toArray, List.getElem_cons_succ, List.getElem_cons_zero]
        refine wpAnyH_take (i := 5) rfl (by kernel_rfl) (by kernel_rfl) (by kernel_rfl) (fun _ _ _ h => h) (yieldsIf_load_mid (by rfl) 25 (.tmp 8) rfl (w.heap.size + 1) 0 rfl [.int .i64 p, .int .i64 v] _ (fun _ h => h.2.1) rfl rfl (by kernel_rfl)) (by assumption) ?_
        try simp only [Act.put, List.setIfInBounds_toArray, List.set_cons_zero, List.set_cons_succ, List.getElem_toArray, List.getElem_cons_succ, List.getElem_cons_zero]
        refine wpAnyH_take (i := 6) (v := ?_) rfl (by kernel_rfl) (by kernel_rfl) (by kernel_rfl) (fun _ _ _ h => h) (Or.inl ⟨by rfl, ?_⟩) (by assumption) ?_
        rotate_left 1
        · intro w hSw; obtain ⟨_, _, hs1, hs2⟩ := hSw; go_simp <;> (with_reducible rfl)
        try simp only [Act.put, List.setIfInBounds_toArray, List.set_cons_zero, List.set_cons_succ, List.getElem_toArray, List.getElem_cons_succ, List.getElem_cons_zero]
        refine wpAnyH_take (i := 8) (v := ?_) rfl (by kernel_rfl) (by kernel_rfl) (by kernel_rfl) (fun _ _ _ h => h) (Or.inl ⟨by rfl, ?_⟩) (by assumption) ?_
        rotate_left 1
        · intro w hSw; obtain ⟨_, _, hs1, hs2⟩ := hSw; go_simp <;> (with_reducible rfl)
        try simp only [Act.put, List.setIfInBounds_toArray, List.set_cons_zero, List.set_cons_succ, List.getElem_toArray, List.getElem_cons_succ, List.getElem_cons_zero]
        refine wpAnyH_take (i := 9) (v := ?_) rfl (by kernel_rfl) (by kernel_rfl) (by kernel_rfl) (fun _ _ _ h => h) (Or.inl ⟨by rfl, ?_⟩) (by assumption) ?_
        rotate_left 1
        · intro w hSw; obtain ⟨_, _, hs1, hs2⟩ := hSw; go_simp <;> (with_reducible rfl)
        try simp only [Act.put, List.setIfInBounds_toArray, List.set_cons_zero, List.set_cons_succ, List.getElem_toArray, List.getElem_cons_succ, List.getElem_cons_zero]
        refine wpAnyH_take (i := 10) (v := ?_) rfl (by kernel_rfl) (by kernel_rfl) (by kernel_rfl) (fun _ _ _ h => h) (Or.inl ⟨by rfl, ?_⟩) (by assumption) ?_
        rotate_left 1
        · intro w hSw; obtain ⟨_, _, hs1, hs2⟩ := hSw; go_simp <;> (with_reducible rfl)
        try simp only [Act.put, List.setIfInBounds_toArray, List.set_cons_zero, List.set_cons_succ, List.getElem_toArray, List.getElem_cons_succ, List.getElem_cons_zero]
        refine wpAnyH_take (i := 11) (v := ?_) rfl (by kernel_rfl) (by kernel_rfl) (by kernel_rfl) (fun _ _ _ h => h) (Or.inl ⟨by rfl, ?_⟩) (by assumption) ?_
        rotate_left 1
        · intro w hSw; obtain ⟨_, _, hs1, hs2⟩ := hSw; go_simp <;> (with_reducible rfl)
        try simp only [Act.put, List.setIfInBounds_toArray, List.set_cons_zero, List.set_cons_succ, List.getElem_toArray, List.getElem_cons_succ, List.getElem_cons_zero]
        refine wpAnyH_ready (rs := [7]) (by kernel_rfl) (by simp) ?_
        refine AllReadyH.cons rfl (fun K hK => ?_) AllReadyH.nil
        go_simp
        (go_at_call 12; (refine (HL.out _).mono ?_); rintro e w5 ⟨rfl, hb0⟩)
        have hb : Below w4.heap.size w4 w5 := hb0
        have X5 := Lib.hid (X4.out.below hb (by omega))
        have Y5 := Lib.hid (Y4.out.below hb (by omega))
        have H5 := Lib.hid (H4.out.trans (hb.mono H4.out.size))
        have z5 : w.heap.size + 1 < w5.heap.size := Nat.lt_of_lt_of_le z4 hb.size
        clear hb hb0
        go_wp2_with fail
        refine hK.out _ _ ⟨X5.out.range, Y5.out.range, (_root_.Go.Proofs.Ytmfigpjofakdnaa.k.cell_of Y5.out (i := 0) rfl).1, (_root_.Go.Proofs.Ytmfigpjofakdnaa.k.cell_of Y5.out (i := 1) rfl).1⟩ (fun hHeld => ?_)
        clear hK K
        try simp only [Act.put, List.setIfInBounds_toArray, List.set_cons_zero, List.set_cons_succ, List.getElem_toArray, List.getElem_cons_succ, List.getElem_cons_zero]
        refine wpAnyH_take (i := 12) (v := ?_) rfl (by kernel_rfl) (by kernel_rfl) (by kernel_rfl) (fun _ _ _ h => h) (Or.inl ⟨by rfl, ?_⟩) (by assumption) ?_
        rotate_left 1
        · intro w hSw; obtain ⟨_, _, hs1, hs2⟩ := hSw; go_simp <;> (with_reducible rfl)
        try simp only [Act.put, List.setIfInBounds_toArray, List.set_cons_zero, List.set_cons_succ, List.getElem_toArray, List.getElem_cons_succ, List.getElem_cons_zero]
        refine wpAnyH_take (i := 13) (v := ?_) rfl (by kernel_rfl) (by kernel_rfl) (by kernel_rfl) (fun _ _ _ h => h) (Or.inl ⟨by rfl, ?_⟩) (by assumption) ?_
        rotate_left 1
        · intro w hSw; obtain ⟨_, _, hs1, hs2⟩ := hSw; go_simp <;> (with_reducible rfl)
        try simp only [Act.put, List.setIfInBounds_toArray, List.set_cons_zero, List.set_cons_succ, List.getElem_toArray, List.getElem_cons_succ, List.getElem_cons_zero]
        refine wpAnyH_take (i := 14) (v := ?_) rfl (by kernel_rfl) (by kernel_rfl) (by kernel_rfl) (fun _ _ _ h => h) (Or.inl ⟨by rfl, ?_⟩) (by assumption) ?_
        rotate_left 1
        · intro w hSw; obtain ⟨_, _, hs1, hs2⟩ := hSw; go_simp <;> (with_reducible rfl)
        try simp only [Act.put, List.setIfInBounds_toArray, List.set_cons_zero, List.set_cons_succ, List.getElem_toArray, List.getElem_cons_succ, List.getElem_cons_zero]
        refine wpAnyH_take (i := 15) (v := ?_) rfl (by kernel_rfl) (by kernel_rfl) (by kernel_rfl) (fun _ _ _ h => h) (Or.inl ⟨by rfl, ?_⟩) (by assumption) ?_
        rotate_left 1
        · intro w hSw; obtain ⟨_, _, hs1, hs2⟩ := hSw; go_simp <;> (with_reducible rfl)
        try simp only [Act.put, List.setIfInBounds_toArray, List.set_cons_zero, List.set_cons_succ, List.getElem_toArray, List.getElem_cons_succ, List.getElem_cons_zero]
        refine wpAnyH_take (i := 16) (v := ?_) rfl (by kernel_rfl) (by kernel_rfl) (by kernel_rfl) (fun _ _ _ h => h) (Or.inl ⟨by rfl, ?_⟩) (by assumption) ?_
        rotate_left 1
        · intro w hSw; obtain ⟨_, _, hs1, hs2⟩ := hSw; go_simp <;> (with_reducible rfl)
        try simp only [Act.put, List.setIfInBounds_toArray, List.set_cons_zero, List.set_cons_succ, List.getElem_toArray, List.getElem_cons_succ, List.getElem_cons_zero]
        refine wpAnyH_take (i := 17) (v := ?_) rfl (by kernel_rfl) (by kernel_rfl) (by kernel_rfl) (fun _ _ _ h => h) (Or.inl ⟨by rfl, ?_⟩) (by assumption) ?_
        rotate_left 1
        · intro w hSw; obtain ⟨_, _, hs1, hs2⟩ := hSw; go_simp <;> (with_reducible rfl)
        try simp only [Act.put, List.setIfInBounds_toArray, List.set_cons_zero, List.set_cons_succ, List.getElem_toArray, List.getElem_cons_succ, List.getElem_cons_zero]
        refine wpAnyH_take (i := 18) (v := ?_) rfl (by kernel_rfl) (by kernel_rfl) (by kernel_rfl) (fun _ _ _ h => h) (Or.inl ⟨by rfl, ?_⟩) (by assumption) ?_
        rotate_left 1
        · intro w hSw; obtain ⟨_, _, hs1, hs2⟩ := hSw; go_simp <;> (with_reducible rfl)
        try simp only [Act.put, List.setIfInBounds_toArray, List.set_cons_zero, List.set_cons_succ, List.getElem_toArray, List.getElem_cons_succ, List.getElem_cons_zero]
        refine wpAnyH_done (by kernel_rfl) ?_ _
        go_wp2_with fail
        go_meet
        case rel => exact ⟨rfl, X5.out, Y5.out, H5.out, z5⟩
      · rw [land_no (fun h => e2 h.2)] at hl
        have e1b : (p == t) = true := by rw [e1]; simp
        have e2b : (v == 0) = false := by rw [beq_eq_false_iff_ne]; exact e2
        clear e1
        have HL := Lib.hid hl
        clear hl
        refine wp_region_held_drew (S := (fun w' => World.rangeAt w' w.heap.size 0 [.int .i64 V, .int .i64 A, .int .i64 D, .int .i64 lo, .int .i64 hi] ∧ World.rangeAt w' (w.heap.size + 1) 0 [.int .i64 p, .int .i64 v] ∧ World.cell? w' ⟨w.heap.size + 1, 0, none⟩ = some (.int .i64 p) ∧ World.cell? w' ⟨w.heap.size + 1, 1, none⟩ = some (.int .i64 v))) (by kernel_rfl) ⟨X3.out.range, Y3.out.range, (_root_.Go.Proofs.Ytmfigpjofakdnaa.k.cell_of Y3.out (i := 0) rfl).1, (_root_.Go.Proofs.Ytmfigpjofakdnaa.k.cell_of Y3.out (i := 1) rfl).1⟩ (fun hHeld => ?_)
        refine wpAnyH_take (i := 0) rfl (by kernel_rfl) (by kernel_rfl) (by kernel_rfl) (fun _ _ _ h => h) (yieldsIf_load_mid (by rfl) 23 (.tmp 7) rfl w.heap.size 0 rfl [.int .i64 V, .int .i64 A, .int .i64 D, .int .i64 lo, .int .i64 hi] _ (fun _ h => h.1) rfl rfl (by kernel_rfl)) (by assumption) ?_
        try simp only [Act.put, List.setIfInBounds_toArray, List.set_cons_zero, List.set_cons_succ, List.getElem_toArray, List.getElem_cons_zero]
        refine wpAnyH_take (i := 2) (v := ?_) rfl (by kernel_rfl) (by kernel_rfl) (by kernel_rfl) (fun _ _ _ h => h) (Or.inl ⟨by rfl, ?_⟩) (by assumption) ?_
        rotate_left 1
        · intro w hSw; obtain ⟨_, _, hs1, hs2⟩ := hSw; go_simp <;> (with_reducible rfl)
        try simp only [Act.put, List.setIfInBounds_toArray, List.set_cons_zero, List.set_cons_succ, List.getElem_toArray, List.getElem_cons_succ, List.getElem_cons_zero]
        refine wpAnyH_ready (rs := [1]) (by kernel_rfl) (by simp) ?_
        refine AllReadyH.cons rfl (fun K hK => ?_) AllReadyH.nil
        go_simp
        (go_at_call 11; (refine (HR.out _).mono ?_); rintro e w4 ⟨rfl, hb0⟩)
        have hb : Below w3.heap.size w3 w4 := ((Below.refl _ _).drew).trans hb0
        have X4 := Lib.hid (X3.out.below hb (by omega))
        have Y4 := Lib.hid (Y3.out.below hb (by omega))
        have H4 := Lib.hid (H3.out.trans (hb.mono H3.out.size))
        have z4 : w.heap.size + 1 < w4.heap.size := Nat.lt_of_lt_of_le z3 hb.size
        clear hb hb0
        go_wp2_with fail
        refine hK.out _ _ ⟨X4.out.range, Y4.out.range, (_root_.Go.Proofs.Ytmfigpjofakdnaa.k.cell_of Y4.out (i := 0) rfl).1, (_root_.Go.Proofs.Ytmfigpjofakdnaa.k.cell_of Y4.out (i := 1) rfl).1⟩ (fun hHeld => ?_)
        clear hK K
        try simp only [Act.put, List.setIfInBounds_toArray, List.set_cons_zero, List.set_cons_succ, List.getElem_toArray, List.getElem_cons_succ, List.getElem_cons_zero]
        refine wpAnyH_take (i := 3) (v := ?_) rfl (by kernel_rfl) (by kernel_rfl) (by kernel_rfl) (fun _ _ _ h => h) (Or.inl ⟨by rfl, ?_⟩) (by assumption) ?_
        rotate_left 1
        · intro w hSw; obtain ⟨_, _, hs1, hs2⟩ := hSw; go_simp <;> (with_reducible rfl)
        try simp only [Act.put, List.setIfInBounds_toArray, List.set_cons_zero, List.set_cons_succ, List.getElem_toArray, List.getElem_cons_succ, List.getElem_cons_zero]
        refine wpAnyH_take (i := 4) (v := ?_) rfl (by kernel_rfl) (by kernel_rfl) (by kernel_rfl) (fun _ _ _ h => h) (Or.inl ⟨by rfl, ?_⟩) (by assumption) ?_
        rotate_left 1
        · intro w hSw; obtain ⟨_, _, hs1, hs2⟩ := hSw; go_simp <;> (with_reducible rfl)
        try simp only [Act.put, List.setIfInBounds_toArray, List.set_cons_zero, List.set_cons_succ, List.getElem_toArray, List.getElem_cons_succ, List.getElem_cons_zero]
        refine wpAnyH_take (i := 5) rfl (by kernel_rfl) (by kernel_rfl) (by kernel_rfl) (fun _ _ _ h => h) (yieldsIf_load_mid (by rfl) 25 (.tmp 8) rfl (w.heap.size + 1) 0 rfl [.int .i64 p, .int .i64 v] _ (fun _ h => h.2.1) rfl rfl (by kernel_rfl)) (by assumption) ?_
        try simp only [Act.put, List.setIfInBounds_toArray, List.set_cons_zero, List.set_cons_succ, List.getElem_toArray, List.getElem_cons_succ, List.getElem_cons_zero]
        refine wpAnyH_take (i := 6) (v := ?_) rfl (by kernel_rfl) (by kernel_rfl) (by kernel_rfl) (fun _ _ _ h => h) (Or.inl ⟨by rfl, ?_⟩) (by assumption) ?_
        rotate_left 1
        · intro w hSw; obtain ⟨_, _, hs1, hs2⟩ := hSw; go_simp <;> (with_reducible rfl)
        try simp only [Act.put, List.setIfInBounds_toArray, List.set_cons_zero, List.set_cons_succ, List.getElem_toArray, List.getElem_cons_succ, List.getElem_cons_zero]
        refine wpAnyH_take (i := 8) (v := ?_) rfl (by kernel_rfl) (by kernel_rfl) (by kernel_rfl) (fun _ _ _ h => h) (Or.inl ⟨by rfl, ?_⟩) (by assumption) ?_
        rotate_left 1
        · intro w hSw; obtain ⟨_, _, hs1, hs2⟩ := hSw; go_simp <;> (with_reducible rfl)
        try simp only [Act.put, List.setIfInBounds_toArray, List.set_cons_zero, List.set_cons_succ, List.getElem_toArray, List.getElem_cons_succ, List.getElem_cons_zero]
        refine wpAnyH_take (i := 9) (v := ?_) rfl (by kernel_rfl) (by kernel_rfl) (by kernel_rfl) (fun _ _ _ h => h) (Or.inl ⟨by rfl, ?_⟩) (by assumption) ?_
        rotate_left 1
        · intro w hSw; obtain ⟨_, _, hs1, hs2⟩ := hSw; go_simp <;> (with_reducible rfl)
        try simp only [Act.put, List.setIfInBounds_toArray, List.set_cons_zero, List.set_cons_succ, List.getElem_toArray, List.getElem_cons_succ, List.getElem_cons_zero]
        refine wpAnyH_take (i := 10) (v := ?_) rfl (by kernel_rfl) (by kernel_rfl) (by kernel_rfl) (fun _ _ _ h => h) (Or.inl ⟨by rfl, ?_⟩) (by assumption) ?_
        rotate_left 1
        · intro w hSw; obtain ⟨_, _, hs1, hs2⟩ := hSw; go_simp <;> (with_reducible rfl)
        try simp only [Act.put, List.setIfInBounds_toArray, List.set_cons_zero, List.set_cons_succ, List.getElem_toArray, List.getElem_cons_succ, List.getElem_cons_zero]
        refine wpAnyH_take (i := 11) (v := ?_) rfl (by kernel_rfl) (by kernel_rfl) (by kernel_rfl) (fun _ _ _ h => h) (Or.inl ⟨by rfl, ?_⟩) (by assumption) ?_
        rotate_left 1
        · intro w hSw; obtain ⟨_, _, hs1, hs2⟩ := hSw; go_simp <;> (with_reducible rfl)
        try simp only [Act.put, List.setIfInBounds_toArray, List.set_cons_zero, List.set_cons_succ, List.getElem_toArray, List.getElem_cons_succ, List.getElem_cons_zero]
        refine wpAnyH_ready (rs := [7]) (by kernel_rfl) (by simp) ?_
        refine AllReadyH.cons rfl (fun K hK => ?_) AllReadyH.nil
        go_simp
        (go_at_call 12; (refine (HL.out _).mono ?_); rintro e w5 ⟨rfl, hb0⟩)
        have hb : Below w4.heap.size w4 w5 := hb0
        have X5 := Lib.hid (X4.out.below hb (by omega))
        have Y5 := Lib.hid (Y4.out.below hb (by omega))
        have H5 := Lib.hid (H4.out.trans (hb.mono H4.out.size))
        have z5 : w.heap.size + 1 < w5.heap.size := Nat.lt_of_lt_of_le z4 hb.size
        clear hb hb0
        go_wp2_with fail
        refine hK.out _ _ ⟨X5.out.range, Y5.out.range, (_root_.Go.Proofs.Ytmfigpjofakdnaa.k.cell_of Y5.out (i := 0) rfl).1, (_root_.Go.Proofs.Ytmfigpjofakdnaa.k.cell_of Y5.out (i := 1) rfl).1⟩ (fun hHeld => ?_)
        clear hK K
        try simp only [Act.put, List.setIfInBounds_toArray, List.set_cons_zero, List.set_cons_succ, List.getElem_toArray, List.getElem_cons_succ, List.getElem_cons_zero]
        refine wpAnyH_take (i := 12) (v := ?_) rfl (by kernel_rfl) (by kernel_rfl) (by kernel_rfl) (fun _ _ _ h => h) (Or.inl ⟨by rfl, ?_⟩) (by assumption) ?_
        rotate_left 1
        · intro w hSw; obtain ⟨_, _, hs1, hs2⟩ := hSw; go_simp <;> (with_reducible rfl)
        try simp only [Act.put, List.setIfInBounds_toArray, List.set_cons_zero, List.set_cons_succ, List.getElem_toArray, List.getElem_cons_succ, List.getElem_cons_zero]
        refine wpAnyH_take (i := 13) (v := ?_) rfl (by kernel_rfl) (by kernel_rfl) (by kernel_rfl) (fun _ _ _ h => h) (Or.inl ⟨by rfl, ?_⟩) (by assumption) ?_
        rotate_left 1
        · intro w hSw; obtain ⟨_, _, hs1, hs2⟩ := hSw; go_simp <;> (with_reducible rfl)
        try simp only [Act.put, List.setIfInBounds_toArray, List.set_cons_zero, List.set_cons_succ, List.getElem_toArray, List.getElem_cons_succ, List.getElem_cons_zero]
        refine wpAnyH_take (i := 14) (v := ?_) rfl (by kernel_rfl) (by kernel_rfl) (by kernel_rfl) (fun _ _ _ h => h) (Or.inl ⟨by rfl, ?_⟩) (by assumption) ?_
        rotate_left 1
        · intro w hSw; obtain ⟨_, _, hs1, hs2⟩ := hSw; go_simp <;> (with_reducible rfl)
        try simp only [Act.put, List.setIfInBounds_toArray, List.set_cons_zero, List.set_cons_succ, List.getElem_toArray, List.getElem_cons_succ, List.getElem_cons_zero]
        refine wpAnyH_take (i := 15) (v := ?_) rfl (by kernel_rfl) (by kernel_rfl) (by kernel_rfl) (fun _ _ _ h => h) (Or.inl ⟨by rfl, ?_⟩) (by assumption) ?_
        rotate_left 1
        · intro w hSw; obtain ⟨_, _, hs1, hs2⟩ := hSw; go_simp <;> (with_reducible rfl)
        try simp only [Act.put, List.setIfInBounds_toArray, List.set_cons_zero, List.set_cons_succ, List.getElem_toArray, List.getElem_cons_succ, List.getElem_cons_zero]
        refine wpAnyH_take (i := 16) (v := ?_) rfl (by kernel_rfl) (by kernel_rfl) (by kernel_rfl) (fun _ _ _ h => h) (Or.inl ⟨by rfl, ?_⟩) (by assumption) ?_
        rotate_left 1
        · intro w hSw; obtain ⟨_, _, hs1, hs2⟩ := hSw; go_simp <;> (with_reducible rfl)
        try simp only [Act.put, List.setIfInBounds_toArray, List.set_cons_zero, List.set_cons_succ, List.getElem_toArray, List.getElem_cons_succ, List.getElem_cons_zero]
        refine wpAnyH_take (i := 17) (v := ?_) rfl (by kernel_rfl) (by kernel_rfl) (by kernel_rfl) (fun _ _ _ h => h) (Or.inl ⟨by rfl, ?_⟩) (by assumption) ?_
        rotate_left 1
        · intro w hSw; obtain ⟨_, _, hs1, hs2⟩ := hSw; go_simp <;> (with_reducible rfl)
        try simp only [Act.put, List.setIfInBounds_toArray, List.set_cons_zero, List.set_cons_succ, List.getElem_toArray, List.getElem_cons_succ, List.getElem_cons_zero]
        refine wpAnyH_take (i := 18) (v := ?_) rfl (by kernel_rfl) (by kernel_rfl) (by kernel_rfl) (fun _ _ _ h => h) (Or.inl ⟨by rfl, ?_⟩) (by assumption) ?_
        rotate_left 1
        · intro w hSw; obtain ⟨_, _, hs1, hs2⟩ := hSw; go_simp <;> (with_reducible rfl)
        try simp only [Act.put, List.setIfInBounds_toArray, List.set_cons_zero, List.set_cons_succ, List.getElem_toArray, List.getElem_cons_succ, List.getElem_cons_zero]
        refine wpAnyH_done (by kernel_rfl) ?_ _
        go_wp2_with fail
        go_meet
        case rel => exact ⟨rfl, X5.out, Y5.out, H5.out, z5⟩
    · rw [land_no (fun h => e1 h.1)] at hl
      have e1b : (p == t) = false := by rw [beq_eq_false_iff_ne]; exact e1
      have HL := Lib.hid hl
      clear hl
      refine wp_region_held_drew (S := (fun w' => World.rangeAt w' w.heap.size 0 [.int .i64 V, .int .i64 A, .int .i64 D, .int .i64 lo, .int .i64 hi] ∧ World.rangeAt w' (w.heap.size + 1) 0 [.int .i64 p, .int .i64 v] ∧ World.cell? w' ⟨w.heap.size + 1, 0, none⟩ = some (.int .i64 p) ∧ World.cell? w' ⟨w.heap.size + 1, 1, none⟩ = some (.int .i64 v))) (by kernel_rfl) ⟨X3.out.range, Y3.out.range, (_root_.Go.Proofs.Ytmfigpjofakdnaa.k.cell_of Y3.out (i := 0) rfl).1, (_root_.Go.Proofs.Ytmfigpjofakdnaa.k.cell_of Y3.out (i := 1) rfl).1⟩ (fun hHeld => ?_)
      refine wpAnyH_take (i := 0) rfl (by kernel_rfl) (by kernel_rfl) (by kernel_rfl) (fun _ _ _ h => h) (yieldsIf_load_mid (by rfl) 23 (.tmp 7) rfl w.heap.size 0 rfl [.int .i64 V, .int .i64 A, .int .i64 D, .int .i64 lo, .int .i64 hi] _ (fun _ h => h.1) rfl rfl (by kernel_rfl)) (by assumption) ?_
      try simp only [Act.put, List.setIfInBounds_toArray, List.set_cons_zero, List.set_cons_succ, List.getElem_toArray, List.getElem_cons_zero]
      refine wpAnyH_take (i := 2) (v := ?_) rfl (by kernel_rfl) (by kernel_rfl) (by kernel_rfl) (fun _ _ _ h => h) (Or.inl ⟨by rfl, ?_⟩) (by assumption) ?_
      rotate_left 1
      · intro w hSw; obtain ⟨_, _, hs1, hs2⟩ := hSw; go_simp <;> (with_reducible rfl)
      try simp only [Act.put, List.setIfInBounds_toArray, List.set_cons_zero, List.set_cons_succ, List.getElem_toArray, List.getElem_cons_succ, List.getElem_cons_zero]
      refine wpAnyH_ready (rs := [1]) (by kernel_rfl) (by simp) ?_
      refine AllReadyH.cons rfl (fun K hK => ?_) AllReadyH.nil
      go_simp
      (go_at_call 11; (refine (HR.out _).mono ?_); rintro e w4 ⟨rfl, hb0⟩)
      have hb : Below w3.heap.size w3 w4 := ((Below.refl _ _).drew).trans hb0
      have X4 := Lib.hid (X3.out.below hb (by omega))
      have Y4 := Lib.hid (Y3.out.below hb (by omega))
      have H4 := Lib.hid (H3.out.trans (hb.mono H3.out.size))
      have z4 : w.heap.size + 1 < w4.heap.size := Nat.lt_of_lt_of_le z3 hb.size
      clear hb hb0
      go_wp2_with fail
      refine hK.out _ _ ⟨X4.out.range, Y4.out.range, (_root_.Go.Proofs.Ytmfigpjofakdnaa.k.cell_of Y4.out (i := 0) rfl).1, (_root_.Go.Proofs.Ytmfigpjofakdnaa.k.cell_of Y4.out (i := 1) rfl).1⟩ (fun hHeld => ?_)
      clear hK K
      try simp only [Act.put, List.setIfInBounds_toArray, List.set_cons_zero, List.set_cons_succ, List.getElem_toArray, List.getElem_cons_succ, List.getElem_cons_zero]
      refine wpAnyH_take (i := 3) (v := ?_) rfl (by kernel_rfl) (by kernel_rfl) (by kernel_rfl) (fun _ _ _ h => h) (Or.inl ⟨by rfl, ?_⟩) (by assumption) ?_
      rotate_left 1
      · intro w hSw; obtain ⟨_, _, hs1, hs2⟩ := hSw; go_simp <;> (with_reducible rfl)
      try simp only [Act.put, List.setIfInBounds_toArray, List.set_cons_zero, List.set_cons_succ, List.getElem_toArray, List.getElem_cons_succ, List.getElem_cons_zero]
      refine wpAnyH_take (i := 4) (v := ?_) rfl (by kernel_rfl) (by kernel_rfl) (by kernel_rfl) (fun _ _ _ h => h) (Or.inl ⟨by rfl, ?_⟩) (by assumption) ?_
      rotate_left 1
      · intro w hSw; obtain ⟨_, _, hs1, hs2⟩ := hSw; go_simp <;> (with_reducible rfl)
      try simp only [Act.put, List.setIfInBounds_toArray, List.set_cons_zero, List.set_cons_succ, List.getElem_toArray, List.getElem_cons_succ, List.getElem_cons_zero]
      refine wpAnyH_take (i := 5) rfl (by kernel_rfl) (by kernel_rfl) (by kernel_rfl) (fun _ _ _ h => h) (yieldsIf_load_mid (by rfl) 25 (.tmp 8) rfl (w.heap.size + 1) 0 rfl [.int .i64 p, .int .i64 v] _ (fun _ h => h.2.1) rfl rfl (by kernel_rfl)) (by assumption) ?_
      try simp only [Act.put, List.setIfInBounds_toArray, List.set_cons_zero, List.set_cons_succ, List.getElem_toArray, List.getElem_cons_succ, List.getElem_cons_zero]
      refine wpAnyH_take (i := 6) (v := ?_) rfl (by kernel_rfl) (by kernel_rfl) (by kernel_rfl) (fun _ _ _ h => h) (Or.inl ⟨by rfl, ?_⟩) (by assumption) ?_
      rotate_left 1
      · intro w hSw; obtain ⟨_, _, hs1, hs2⟩ := hSw; go_simp <;> (with_reducible rfl)
      try simp only [Act.put, List.setIfInBounds_toArray, List.set_cons_zero, List.set_cons_succ, List.getElem_toArray, List.getElem_cons_succ, List.getElem_cons_zero]
      refine wpAnyH_take (i := 8) (v := ?_) rfl (by kernel_rfl) (by kernel_rfl) (by kernel_rfl) (fun _ _ _ h => h) (Or.inl ⟨by rfl, ?_⟩) (by assumption) ?_
      rotate_left 1
      · intro w hSw; obtain ⟨_, _, hs1, hs2⟩ := hSw; go_simp <;> (with_reducible rfl)
      try simp only [Act.put, List.setIfInBounds_toArray, List.set_cons_zero, List.set_cons_succ, List.getElem_toArray, List.getElem_cons_succ, List.getElem_cons_zero]
      refine wpAnyH_take (i := 9) (v := ?_) rfl (by kernel_rfl) (by kernel_rfl) (by kernel_rfl) (fun _ _ _ h => h) (Or.inl ⟨by rfl, ?_⟩) (by assumption) ?_
      rotate_left 1
      · intro w hSw; obtain ⟨_, _, hs1, hs2⟩ := hSw; go_simp <;> (with_reducible rfl)
      try simp only [Act.put, List.setIfInBounds_toArray, List.set_cons_zero, List.set_cons_succ, List.getElem_toArray, List.getElem_cons_succ, List.getElem_cons_zero]
      refine wpAnyH_take (i := 10) (v := ?_) rfl (by kernel_rfl) (by kernel_rfl) (by kernel_rfl) (fun _ _ _ h => h) (Or.inl ⟨by rfl, ?_⟩) (by assumption) ?_
      rotate_left 1
      · intro w hSw; obtain ⟨_, _, hs1, hs2⟩ := hSw; go_simp <;> (with_reducible rfl)
      try simp only [Act.put, List.setIfInBounds_toArray, List.set_cons_zero, List.set_cons_succ, List.getElem_toArray, List.getElem_cons_succ, List.getElem_cons_zero]
      refine wpAnyH_take (i := 11) (v := ?_) rfl (by kernel_rfl) (by kernel_rfl) (by kernel_rfl) (fun _ _ _ h => h) (Or.inl ⟨by rfl, ?_⟩) (by assumption) ?_
      rotate_left 1
      · intro w hSw; obtain ⟨_, _, hs1, hs2⟩ := hSw; go_simp <;> (with_reducible rfl)
      try simp only [Act.put, List.setIfInBounds_toArray, List.set_cons_zero, List.set_cons_succ, List.getElem_toArray, List.getElem_cons_succ, List.getElem_cons_zero]
      refine wpAnyH_ready (rs := [7]) (by kernel_rfl) (by simp) ?_
      refine AllReadyH.cons rfl (fun K hK => ?_) AllReadyH.nil
      go_simp
      (go_at_call 12; (refine (HL.out _).mono ?_); rintro e w5 ⟨rfl, hb0⟩)
      have hb : Below w4.heap.size w4 w5 := hb0
      have X5 := Lib.hid (X4.out.below hb (by omega))
      have Y5 := Lib.hid (Y4.out.below hb (by omega))
      have H5 := Lib.hid (H4.out.trans (hb.mono H4.out.size))
      have z5 : w.heap.size + 1 < w5.heap.size := Nat.lt_of_lt_of_le z4 hb.size
      clear hb hb0
      go_wp2_with fail
      refine hK.out _ _ ⟨X5.out.range, Y5.out.range, (_root_.Go.Proofs.Ytmfigpjofakdnaa.k.cell_of Y5.out (i := 0) rfl).1, (_root_.Go.Proofs.Ytmfigpjofakdnaa.k.cell_of Y5.out (i := 1) rfl).1⟩ (fun hHeld => ?_)
      clear hK K
      try simp only [Act.put, List.setIfInBounds_toArray, List.set_cons_zero, List.set_cons_succ, List.getElem_toArray, List.getElem_cons_succ, List.getElem_cons_zero]
      refine wpAnyH_take (i := 12) (v := ?_) rfl (by kernel_rfl) (by kernel_rfl) (by kernel_rfl) (fun _ _ _ h => h) (Or.inl ⟨by rfl, ?_⟩) (by assumption) ?_
      rotate_left 1
      · intro w hSw; obtain ⟨_, _, hs1, hs2⟩ := hSw; go_simp <;> (with_reducible rfl)
      try simp only [Act.put, List.setIfInBounds_toArray, List.set_cons_zero, List.set_cons_succ, List.getElem_toArray, List.getElem_cons_succ, List.getElem_cons_zero]
      refine wpAnyH_take (i := 13) (v := undef) rfl (by kernel_rfl) (by kernel_rfl) (by kernel_rfl) (fun _ _ _ h => h) (Or.inr ⟨by rfl, rfl⟩) (by assumption) ?_
      try simp only [Act.put, List.setIfInBounds_toArray, List.set_cons_zero, List.set_cons_succ, List.getElem_toArray, List.getElem_cons_succ, List.getElem_cons_zero]
      refine wpAnyH_take (i := 14) (v := undef) rfl (by kernel_rfl) (by kernel_rfl) (by kernel_rfl) (fun _ _ _ h => h) (Or.inr ⟨by rfl, rfl⟩) (by assumption) ?_
      try simp only [Act.put, List.setIfInBounds_toArray, List.set_cons_zero, List.set_cons_succ, List.getElem_toArray, List.getElem_cons_succ, List.getElem_cons_zero]
      refine wpAnyH_take (i := 15) (v := undef) rfl (by kernel_rfl) (by kernel_rfl) (by kernel_rfl) (fun _ _ _ h => h) (Or.inr ⟨by rfl, rfl⟩) (by assumption) ?_
      try simp only [Act.put, List.setIfInBounds_toArray, List.set_cons_zero, List.set_cons_succ, List.getElem_toArray, List.getElem_cons_succ, List.getElem_cons_zero]
      refine wpAnyH_take (i := 16) (v := ?_) rfl (by kernel_rfl) (by kernel_rfl) (by kernel_rfl) (fun _ _ _ h => h) (Or.inl ⟨by rfl, ?_⟩) (by assumption) ?_
      rotate_left 1
      · intro w hSw; obtain ⟨_, _, hs1, hs2⟩ := hSw; go_simp <;> (with_reducible rfl)
      try simp only [Act.put, List.setIfInBounds_toArray, List.set_cons_zero, List.set_cons_succ, List.getElem_toArray, List.getElem_cons_succ, List.getElem_cons_zero]
      refine wpAnyH_take (i := 17) (v := ?_) rfl (by kernel_rfl) (by kernel_rfl) (by kernel_rfl) (fun _ _ _ h => h) (Or.inl ⟨by rfl, ?_⟩) (by assumption) ?_
      rotate_left 1
      · intro w hSw; obtain ⟨_, _, hs1, hs2⟩ := hSw; go_simp <;> (with_reducible rfl)
      try simp only [Act.put, List.setIfInBounds_toArray, List.set_cons_zero, List.set_cons_succ, List.getElem_toArray, List.getElem_cons_succ, List.getElem_cons_zero]
      refine wpAnyH_take (i := 18) (v := ?_) rfl (by kernel_rfl) (by kernel_rfl) (by kernel_rfl) (fun _ _ _ h => h) (Or.inl ⟨by rfl, ?_⟩) (by assumption) ?_
      rotate_left 1
      · intro w hSw; obtain ⟨_, _, hs1, hs2⟩ := hSw; go_simp <;> (with_reducible rfl)
      try simp only [Act.put, List.setIfInBounds_toArray, List.set_cons_zero, List.set_cons_succ, List.getElem_toArray, List.getElem_cons_succ, List.getElem_cons_zero]
      refine wpAnyH_done (by kernel_rfl) ?_ _
      go_wp2_with fail
      go_meet
      case rel => exact ⟨rfl, X5.out, Y5.out, H5.out, z5⟩
  case rest =>
    obtain ⟨rfl, c1, c2, c3, c4⟩ := hcut
    have X20 := Lib.hid c1
    have Y20 := Lib.hid c2
    have H20 := Lib.hid c3
    clear X2 Y2 H2 X3 Y3 H3 HK HR HRR hl x4 z3 z3'
    obtain ⟨lc0, _, lc1, _, lc2, _, lc3, _, lc4, _, _⟩ := c1
    obtain ⟨gc0, _, gc1, _, _⟩ := c2
    clear c3
    go_upto_region 10 with (first | (go_at_call 13; ((with_reducible refine (HM.out _).mono ?_); rintro e w21 ⟨rfl, hb⟩; have X21 := Lib.hid (X20.out.below hb (by omega)); have Y21 := Lib.hid (Y20.out.below hb (by omega)); have H21 := Lib.hid (H20.out.trans (hb.mono H20.out.size)); have z21 : w.heap.size + 1 < w21.heap.size := Nat.lt_of_lt_of_le c4 hb.size; clear lc0 lc1 lc2 lc3 lc4 gc0 gc1; obtain ⟨lc0, _, lc1, _, lc2, _, lc3, _, lc4, _, _⟩ := X21.out; obtain ⟨gc0, _, gc1, _, _⟩ := Y21.out; clear hb)) | (go_at_call 14; ((with_reducible refine (HSR.out _).mono ?_); rintro e w22 ⟨rfl, hb⟩; have X22 := Lib.hid (X21.out.below hb (by omega)); have Y22 := Lib.hid (Y21.out.below hb (by omega)); have H22 := Lib.hid (H21.out.trans (hb.mono H21.out.size)); have z22 : w.heap.size + 1 < w22.heap.size := Nat.lt_of_lt_of_le z21 hb.size; clear lc0 lc1 lc2 lc3 lc4 gc0 gc1; obtain ⟨lc0, _, lc1, _, lc2, _, lc3, _, lc4, _, _⟩ := X22.out; obtain ⟨gc0, _, gc1, _, _⟩ := Y22.out; clear hb)) | (go_at_call 19; ((with_reducible refine (HMR.out _).mono ?_); rintro e w23 ⟨rfl, hb⟩; have X23 := Lib.hid (X22.out.below hb (by omega)); have Y23 := Lib.hid (Y22.out.below hb (by omega)); have H23 := Lib.hid (H22.out.trans (hb.mono H22.out.size)); have z23 : w.heap.size + 1 < w23.heap.size := Nat.lt_of_lt_of_le z22 hb.size; clear lc0 lc1 lc2 lc3 lc4 gc0 gc1; clear hb)))
    refine wp_region_held_drew (S := (fun w' => World.rangeAt w' w.heap.size 0 [.int .i64 V, .int .i64 A, .int .i64 D, .int .i64 lo, .int .i64 hi] ∧ World.rangeAt w' (w.heap.size + 1) 0 [.int .i64 p, .int .i64 v] ∧ World.cell? w' ⟨w.heap.size + 1, 0, none⟩ = some (.int .i64 p) ∧ World.cell? w' ⟨w.heap.size + 1, 1, none⟩ = some (.int .i64 v))) (by kernel_rfl) ⟨X23.out.range, Y23.out.range, (_root_.Go.Proofs.Ytmfigpjofakdnaa.k.cell_of Y23.out (i := 0) rfl).1, (_root_.Go.Proofs.Ytmfigpjofakdnaa.k.cell_of Y23.out (i := 1) rfl).1⟩ (fun hHeld => ?_)
    refine wpAnyH_take (i := 0) rfl (by kernel_rfl) (by kernel_rfl) (by kernel_rfl) (fun _ _ _ h => h) (yieldsIf_load_mid (by rfl) 23 (.tmp 7) rfl w.heap.size 0 rfl [.int .i64 V, .int .i64 A, .int .i64 D, .int .i64 lo, .int .i64 hi] _ (fun _ h => h.1) rfl rfl (by kernel_rfl)) (by assumption) ?_
    try simp only [Act.put, List.setIfInBounds_toArray, List.set_cons_zero, List.set_cons_succ, List.getElem_toArray, List.getElem_cons_zero]
    refine wpAnyH_take (i := 1) rfl (by kernel_rfl) (by kernel_rfl) (by kernel_rfl) (fun _ _ _ h => h) (yieldsIf_load_mid (by rfl) 25 (.tmp 8) rfl (w.heap.size + 1) 0 rfl [.int .i64 p, .int .i64 v] _ (fun _ h => h.2.1) rfl rfl (by kernel_rfl)) (by assumption) ?_
    try simp only [Act.put, List.setIfInBounds_toArray, List.set_cons_zero, List.set_cons_succ, List.getElem_toArray, List.getElem_cons_succ, List.getElem_cons_zero]
    refine wpAnyH_ready (rs := [2]) (by kernel_rfl) (by simp) ?_
    refine AllReadyH.cons rfl (fun K hK => ?_) AllReadyH.nil
    go_simp
    (go_at_call 18; (refine (HSF.out _).mono ?_); rintro e w24 ⟨rfl, hb0⟩)
    have hb : Below w23.heap.size w23 w24 := ((Below.refl _ _).drew).trans hb0
    have X24 := Lib.hid (X23.out.below hb (by omega))
    have Y24 := Lib.hid (Y23.out.below hb (by omega))
    have H24 := Lib.hid (H23.out.trans (hb.mono H23.out.size))
    have z24 : w.heap.size + 1 < w24.heap.size := Nat.lt_of_lt_of_le z23 hb.size
    clear hb hb0
    go_wp2_with fail
    refine hK.out _ _ ⟨X24.out.range, Y24.out.range, (_root_.Go.Proofs.Ytmfigpjofakdnaa.k.cell_of Y24.out (i := 0) rfl).1, (_root_.Go.Proofs.Ytmfigpjofakdnaa.k.cell_of Y24.out (i := 1) rfl).1⟩ (fun hHeld => ?_)
    clear hK K
    try simp only [Act.put, List.setIfInBounds_toArray, List.set_cons_zero, List.set_cons_succ, List.getElem_toArray, List.getElem_cons_succ, List.getElem_cons_zero]
    refine wpAnyH_take (i := 3) (v := ?_) rfl (by kernel_rfl) (by kernel_rfl) (by kernel_rfl) (fun _ _ _ h => h) (Or.inl ⟨by rfl, ?_⟩) (by assumption) ?_
    rotate_left 1
    · intro w hSw; obtain ⟨_, _, hs1, hs2⟩ := hSw; go_simp <;> (with_reducible rfl)
    try simp only [Act.put, List.setIfInBounds_toArray, List.set_cons_zero, List.set_cons_succ, List.getElem_toArray, List.getElem_cons_succ, List.getElem_cons_zero]
    refine wpAnyH_take (i := 4) (v := ?_) rfl (by kernel_rfl) (by kernel_rfl) (by kernel_rfl) (fun _ _ _ h => h) (Or.inl ⟨by rfl, ?_⟩) (by assumption) ?_
    rotate_left 1
    · intro w hSw; obtain ⟨_, _, hs1, hs2⟩ := hSw; go_simp <;> (with_reducible rfl)
    try simp only [Act.put, List.setIfInBounds_toArray, List.set_cons_zero, List.set_cons_succ, List.getElem_toArray, List.getElem_cons_succ, List.getElem_cons_zero]
    refine wpAnyH_take (i := 5) (v := ?_) rfl (by kernel_rfl) (by kernel_rfl) (by kernel_rfl) (fun _ _ _ h => h) (Or.inl ⟨by rfl, ?_⟩) (by assumption) ?_
    rotate_left 1
    · intro w hSw; obtain ⟨_, _, hs1, hs2⟩ := hSw; go_simp <;> (with_reducible rfl)
    try simp only [Act.put, List.setIfInBounds_toArray, List.set_cons_zero, List.set_cons_succ, List.getElem_toArray, List.getElem_cons_succ, List.getElem_cons_zero]
    refine wpAnyH_take (i := 6) (v := ?_) rfl (by kernel_rfl) (by kernel_rfl) (by kernel_rfl) (fun _ _ _ h => h) (Or.inl ⟨by rfl, ?_⟩) (by assumption) ?_
    rotate_left 1
    · intro w hSw; obtain ⟨_, _, hs1, hs2⟩ := hSw; go_simp <;> (with_reducible rfl)
    try simp only [Act.put, List.setIfInBounds_toArray, List.set_cons_zero, List.set_cons_succ, List.getElem_toArray, List.getElem_cons_succ, List.getElem_cons_zero]
    refine wpAnyH_take (i := 7) (v := ?_) rfl (by kernel_rfl) (by kernel_rfl) (by kernel_rfl) (fun _ _ _ h => h) (Or.inl ⟨by rfl, ?_⟩) (by assumption) ?_
    rotate_left 1
    · intro w hSw; obtain ⟨_, _, hs1, hs2⟩ := hSw; go_simp <;> (with_reducible rfl)
    try simp only [Act.put, List.setIfInBounds_toArray, List.set_cons_zero, List.set_cons_succ, List.getElem_toArray, List.getElem_cons_succ, List.getElem_cons_zero]
    refine wpAnyH_take (i := 8) (v := ?_) rfl (by kernel_rfl) (by kernel_rfl) (by kernel_rfl) (fun _ _ _ h => h) (Or.inl ⟨by rfl, ?_⟩) (by assumption) ?_
    rotate_left 1
    · intro w hSw; obtain ⟨_, _, hs1, hs2⟩ := hSw; go_simp <;> (with_reducible rfl)
    try simp only [Act.put, List.setIfInBounds_toArray, List.set_cons_zero, List.set_cons_succ, List.getElem_toArray, List.getElem_cons_succ, List.getElem_cons_zero]
    refine wpAnyH_take (i := 9) (v := ?_) rfl (by kernel_rfl) (by kernel_rfl) (by kernel_rfl) (fun _ _ _ h => h) (Or.inl ⟨by rfl, ?_⟩) (by assumption) ?_
    rotate_left 1
    · intro w hSw; obtain ⟨_, _, hs1, hs2⟩ := hSw; go_simp <;> (with_reducible rfl)
    try simp only [Act.put, List.setIfInBounds_toArray, List.set_cons_zero, List.set_cons_succ, List.getElem_toArray, List.getElem_cons_succ, List.getElem_cons_zero]
    refine wpAnyH_take (i := 10) (v := ?_) rfl (by kernel_rfl) (by kernel_rfl) (by kernel_rfl) (fun _ _ _ h => h) (Or.inl ⟨by rfl, ?_⟩) (by assumption) ?_
    rotate_left 1
    · intro w hSw; obtain ⟨_, _, hs1, hs2⟩ := hSw; go_simp <;> (with_reducible rfl)
    try simp only [Act.put, List.setIfInBounds_toArray, List.set_cons_zero, List.set_cons_succ, List.getElem_toArray, List.getElem_cons_succ, List.getElem_cons_zero]
    refine wpAnyH_take (i := 11) (v := ?_) rfl (by kernel_rfl) (by kernel_rfl) (by kernel_rfl) (fun _ _ _ h => h) (Or.inl ⟨by rfl, ?_⟩) (by assumption) ?_
    rotate_left 1
    · intro w hSw; obtain ⟨_, _, hs1, hs2⟩ := hSw; go_simp <;> (with_reducible rfl)
    try simp only [Act.put, List.setIfInBounds_toArray, List.set_cons_zero, List.set_cons_succ, List.getElem_toArray, List.getElem_cons_succ, List.getElem_cons_zero]
    refine wpAnyH_take (i := 12) (v := ?_) rfl (by kernel_rfl) (by kernel_rfl) (by kernel_rfl) (fun _ _ _ h => h) (Or.inl ⟨by rfl, ?_⟩) (by assumption) ?_
    rotate_left 1
    · intro w hSw; obtain ⟨_, _, hs1, hs2⟩ := hSw; go_simp <;> (with_reducible rfl)
    try simp only [Act.put, List.setIfInBounds_toArray, List.set_cons_zero, List.set_cons_succ, List.getElem_toArray, List.getElem_cons_succ, List.getElem_cons_zero]
    refine wpAnyH_take (i := 13) (v := ?_) rfl (by kernel_rfl) (by kernel_rfl) (by kernel_rfl) (fun _ _ _ h => h) (Or.inl ⟨by rfl, ?_⟩) (by assumption) ?_
    rotate_left 1
    · intro w hSw; obtain ⟨_, _, hs1, hs2⟩ := hSw; go_simp <;> (with_reducible rfl)
    try simp only [Act.put, List.setIfInBounds_toArray, List.set_cons_zero, List.set_cons_succ, List.getElem_toArray, List.getElem_cons_succ, List.getElem_cons_zero]
    refine wpAnyH_take (i := 14) rfl (by kernel_rfl) (by kernel_rfl) (by kernel_rfl) (fun _ _ _ h => h) (yieldsIf_load_mid (by rfl) 23 (.tmp 7) rfl w.heap.size 0 rfl [.int .i64 V, .int .i64 A, .int .i64 D, .int .i64 lo, .int .i64 hi] _ (fun _ h => h.1) rfl rfl (by kernel_rfl)) (by assumption) ?_
    try simp only [Act.put, List.setIfInBounds_toArray, List.set_cons_zero, List.set_cons_succ, List.getElem_toArray, List.getElem_cons_succ, List.getElem_cons_zero]
    refine wpAnyH_take (i := 15) rfl (by kernel_rfl) (by kernel_rfl) (by kernel_rfl) (fun _ _ _ h => h) (yieldsIf_load_mid (by rfl) 25 (.tmp 8) rfl (w.heap.size + 1) 0 rfl [.int .i64 p, .int .i64 v] _ (fun _ h => h.2.1) rfl rfl (by kernel_rfl)) (by assumption) ?_
    try simp only [Act.put, List.setIfInBounds_toArray, List.set_cons_zero, List.set_cons_succ, List.getElem_toArray, List.getElem_cons_succ, List.getElem_cons_zero]
    refine wpAnyH_take (i := 16) (v := ?_) rfl (by kernel_rfl) (by kernel_rfl) (by kernel_rfl) (fun _ _ _ h => h) (Or.inl ⟨by rfl, ?_⟩) (by assumption) ?_
    rotate_left 1
    · intro w hSw; obtain ⟨_, _, hs1, hs2⟩ := hSw; go_simp <;> (with_reducible rfl)
    try simp only [Act.put, List.setIfInBounds_toArray, List.set_cons_zero, List.set_cons_succ, List.getElem_toArray, List.getElem_cons_succ, List.getElem_cons_zero]
    refine wpAnyH_take (i := 18) rfl (by kernel_rfl) (by kernel_rfl) (by kernel_rfl) (fun _ _ _ h => h) (yieldsIf_load_mid (by rfl) 23 (.tmp 7) rfl w.heap.size 0 rfl [.int .i64 V, .int .i64 A, .int .i64 D, .int .i64 lo, .int .i64 hi] _ (fun _ h => h.1) rfl rfl (by kernel_rfl)) (by assumption) ?_
    try simp only [Act.put, List.setIfInBounds_toArray, List.set_cons_zero, List.set_cons_succ, List.getElem_toArray, List.getElem_cons_succ, List.getElem_cons_zero]
    refine wpAnyH_take (i := 19) rfl (by kernel_rfl) (by kernel_rfl) (by kernel_rfl) (fun _ _ _ h => h) (yieldsIf_load_mid (by rfl) 25 (.tmp 8) rfl (w.heap.size + 1) 0 rfl [.int .i64 p, .int .i64 v] _ (fun _ h => h.2.1) rfl rfl (by kernel_rfl)) (by assumption) ?_
    try simp only [Act.put, List.setIfInBounds_toArray, List.set_cons_zero, List.set_cons_succ, List.getElem_toArray, List.getElem_cons_succ, List.getElem_cons_zero]
    refine wpAnyH_take (i := 20) (v := ?_) rfl (by kernel_rfl) (by kernel_rfl) (by kernel_rfl) (fun _ _ _ h => h) (Or.inl ⟨by rfl, ?_⟩) (by assumption) ?_
    rotate_left 1
    · intro w hSw; obtain ⟨_, _, hs1, hs2⟩ := hSw; go_simp <;> (with_reducible rfl)
    try simp only [Act.put, List.setIfInBounds_toArray, List.set_cons_zero, List.set_cons_succ, List.getElem_toArray, List.getElem_cons_succ, List.getElem_cons_zero]
    refine wpAnyH_ready (rs := [17]) (by kernel_rfl) (by simp) ?_
    refine AllReadyH.cons rfl (fun K hK => ?_) AllReadyH.nil
    go_simp
    (go_at_call 15; (refine (HST.out _).mono ?_); rintro e w25 ⟨rfl, hb0⟩)
    have hb : Below w24.heap.size w24 w25 := hb0
    have X25 := Lib.hid (X24.out.below hb (by omega))
    have Y25 := Lib.hid (Y24.out.below hb (by omega))
    have H25 := Lib.hid (H24.out.trans (hb.mono H24.out.size))
    have z25 : w.heap.size + 1 < w25.heap.size := Nat.lt_of_lt_of_le z24 hb.size
    clear hb hb0
    go_wp2_with fail
    refine hK.out _ _ ⟨X25.out.range, Y25.out.range, (_root_.Go.Proofs.Ytmfigpjofakdnaa.k.cell_of Y25.out (i := 0) rfl).1, (_root_.Go.Proofs.Ytmfigpjofakdnaa.k.cell_of Y25.out (i := 1) rfl).1⟩ (fun hHeld => ?_)
    clear hK K
    try simp only [Act.put, List.setIfInBounds_toArray, List.set_cons_zero, List.set_cons_succ, List.getElem_toArray, List.getElem_cons_succ, List.getElem_cons_zero]
    refine wpAnyH_ready (rs := [21]) (by kernel_rfl) (by simp) ?_
    refine AllReadyH.cons rfl (fun K hK => ?_) AllReadyH.nil
    go_simp
    (go_at_call 20; (refine (HSTR.out _).mono ?_); rintro e w26 ⟨rfl, hb0⟩)
    have hb : Below w25.heap.size w25 w26 := hb0
    have X26 := Lib.hid (X25.out.below hb (by omega))
    have Y26 := Lib.hid (Y25.out.below hb (by omega))
    have H26 := Lib.hid (H25.out.trans (hb.mono H25.out.size))
    have z26 : w.heap.size + 1 < w26.heap.size := Nat.lt_of_lt_of_le z25 hb.size
    clear hb hb0
    go_wp2_with fail
    refine hK.out _ _ ⟨X26.out.range, Y26.out.range, (_root_.Go.Proofs.Ytmfigpjofakdnaa.k.cell_of Y26.out (i := 0) rfl).1, (_root_.Go.Proofs.Ytmfigpjofakdnaa.k.cell_of Y26.out (i := 1) rfl).1⟩ (fun hHeld => ?_)
    clear hK K
    try simp only [Act.put, List.setIfInBounds_toArray, List.set_cons_zero, List.set_cons_succ, List.getElem_toArray, List.getElem_cons_succ, List.getElem_cons_zero]
    refine wpAnyH_take (i := 22) (v := ?_) rfl (by kernel_rfl) (by kernel_rfl) (by kernel_rfl) (fun _ _ _ h => h) (Or.inl ⟨by rfl, ?_⟩) (by assumption) ?_
    rotate_left 1
    · intro w hSw; obtain ⟨_, _, hs1, hs2⟩ := hSw; go_simp <;> (with_reducible rfl)
    try simp only [Act.put, List.setIfInBounds_toArray, List.set_cons_zero, List.set_cons_succ, List.getElem_toArray, List.getElem_cons_succ, List.getElem_cons_zero]
    refine wpAnyH_take (i := 23) (v := ?_) rfl (by kernel_rfl) (by kernel_rfl) (by kernel_rfl) (fun _ _ _ h => h) (Or.inl ⟨by rfl, ?_⟩) (by assumption) ?_
    rotate_left 1
    · intro w hSw; obtain ⟨_, _, hs1, hs2⟩ := hSw; go_simp <;> (with_reducible rfl)
    try simp only [Act.put, List.setIfInBounds_toArray, List.set_cons_zero, List.set_cons_succ, List.getElem_toArray, List.getElem_cons_succ, List.getElem_cons_zero]
    refine wpAnyH_take (i := 24) (v := ?_) rfl (by kernel_rfl) (by kernel_rfl) (by kernel_rfl) (fun _ _ _ h => h) (Or.inl ⟨by rfl, ?_⟩) (by assumption) ?_
    rotate_left 1
    · intro w hSw; obtain ⟨_, _, hs1, hs2⟩ := hSw; go_simp <;> (with_reducible rfl)
    try simp only [Act.put, List.setIfInBounds_toArray, List.set_cons_zero, List.set_cons_succ, List.getElem_toArray, List.getElem_cons_succ, List.getElem_cons_zero]
    refine wpAnyH_take (i := 25) rfl (by kernel_rfl) (by kernel_rfl) (by kernel_rfl) (fun _ _ _ h => h) (yieldsIf_load_mid (by rfl) 23 (.tmp 7) rfl w.heap.size 0 rfl [.int .i64 V, .int .i64 A, .int .i64 D, .int .i64 lo, .int .i64 hi] _ (fun _ h => h.1) rfl rfl (by kernel_rfl)) (by assumption) ?_
    try simp only [Act.put, List.setIfInBounds_toArray, List.set_cons_zero, List.set_cons_succ, List.getElem_toArray, List.getElem_cons_succ, List.getElem_cons_zero]
    refine wpAnyH_take (i := 26) rfl (by kernel_rfl) (by kernel_rfl) (by kernel_rfl) (fun _ _ _ h => h) (yieldsIf_load_mid (by rfl) 25 (.tmp 8) rfl (w.heap.size + 1) 0 rfl [.int .i64 p, .int .i64 v] _ (fun _ h => h.2.1) rfl rfl (by kernel_rfl)) (by assumption) ?_
    try simp only [Act.put, List.setIfInBounds_toArray, List.set_cons_zero, List.set_cons_succ, List.getElem_toArray, List.getElem_cons_succ, List.getElem_cons_zero]
    refine wpAnyH_take (i := 27) (v := ?_) rfl (by kernel_rfl) (by kernel_rfl) (by kernel_rfl) (fun _ _ _ h => h) (Or.inl ⟨by rfl, ?_⟩) (by assumption) ?_
    rotate_left 1
    · intro w hSw; obtain ⟨_, _, hs1, hs2⟩ := hSw; go_simp <;> (with_reducible rfl)
    try simp only [Act.put, List.setIfInBounds_toArray, List.set_cons_zero, List.set_cons_succ, List.getElem_toArray, List.getElem_cons_succ, List.getElem_cons_zero]
    refine wpAnyH_take (i := 28) (v := ?_) rfl (by kernel_rfl) (by kernel_rfl) (by kernel_rfl) (fun _ _ _ h => h) (Or.inl ⟨by rfl, ?_⟩) (by assumption) ?_
    rotate_left 1
    · intro w hSw; obtain ⟨_, _, hs1, hs2⟩ := hSw; go_simp <;> (with_reducible rfl)
    try simp only [Act.put, List.setIfInBounds_toArray, List.set_cons_zero, List.set_cons_succ, List.getElem_toArray, List.getElem_cons_succ, List.getElem_cons_zero]
    refine wpAnyH_take (i := 30) rfl (by kernel_rfl) (by kernel_rfl) (by kernel_rfl) (fun _ _ _ h => h) (yieldsIf_load_mid (by rfl) 23 (.tmp 7) rfl w.heap.size 0 rfl [.int .i64 V, .int .i64 A, .int .i64 D, .int .i64 lo, .int .i64 hi] _ (fun _ h => h.1) rfl rfl (by kernel_rfl)) (by assumption) ?_
    try simp only [Act.put, List.setIfInBounds_toArray, List.set_cons_zero, List.set_cons_succ, List.getElem_toArray, List.getElem_cons_succ, List.getElem_cons_zero]
    refine wpAnyH_take (i := 31) rfl (by kernel_rfl) (by kernel_rfl) (by kernel_rfl) (fun _ _ _ h => h) (yieldsIf_load_mid (by rfl) 25 (.tmp 8) rfl (w.heap.size + 1) 0 rfl [.int .i64 p, .int .i64 v] _ (fun _ h => h.2.1) rfl rfl (by kernel_rfl)) (by assumption) ?_
    try simp only [Act.put, List.setIfInBounds_toArray, List.set_cons_zero, List.set_cons_succ, List.getElem_toArray, List.getElem_cons_succ, List.getElem_cons_zero]
    refine wpAnyH_take (i := 32) (v := ?_) rfl (by kernel_rfl) (by kernel_rfl) (by kernel_rfl) (fun _ _ _ h => h) (Or.inl ⟨by rfl, ?_⟩) (by assumption) ?_
    rotate_left 1
    · intro w hSw; obtain ⟨_, _, hs1, hs2⟩ := hSw; go_simp <;> (with_reducible rfl)
    try simp only [Act.put, List.setIfInBounds_toArray, List.set_cons_zero, List.set_cons_succ, List.getElem_toArray, List.getElem_cons_succ, List.getElem_cons_zero]
    refine wpAnyH_take (i := 33) (v := ?_) rfl (by kernel_rfl) (by kernel_rfl) (by kernel_rfl) (fun _ _ _ h => h) (Or.inl ⟨by rfl, ?_⟩) (by assumption) ?_
    rotate_left 1
    · intro w hSw; obtain ⟨_, _, hs1, hs2⟩ := hSw; go_simp <;> (with_reducible rfl)
    try simp only [Act.put, List.setIfInBounds_toArray, List.set_cons_zero, List.set_cons_succ, List.getElem_toArray, List.getElem_cons_succ, List.getElem_cons_zero]
    refine wpAnyH_ready (rs := [29]) (by kernel_rfl) (by simp) ?_
    refine AllReadyH.cons rfl (fun K hK => ?_) AllReadyH.nil
    go_simp
    (go_at_call 16; (refine (HT.out _).mono ?_); rintro e w27 ⟨rfl, hb0⟩)
    have hb : Below w26.heap.size w26 w27 := hb0
    have X27 := Lib.hid (X26.out.below hb (by omega))
    have Y27 := Lib.hid (Y26.out.below hb (by omega))
    have H27 := Lib.hid (H26.out.trans (hb.mono H26.out.size))
    have z27 : w.heap.size + 1 < w27.heap.size := Nat.lt_of_lt_of_le z26 hb.size
    clear hb hb0
    go_wp2_with fail
    refine hK.out _ _ ⟨X27.out.range, Y27.out.range, (_root_.Go.Proofs.Ytmfigpjofakdnaa.k.cell_of Y27.out (i := 0) rfl).1, (_root_.Go.Proofs.Ytmfigpjofakdnaa.k.cell_of Y27.out (i := 1) rfl).1⟩ (fun hHeld => ?_)
    clear hK K
    try simp only [Act.put, List.setIfInBounds_toArray, List.set_cons_zero, List.set_cons_succ, List.getElem_toArray, List.getElem_cons_succ, List.getElem_cons_zero]
    refine wpAnyH_ready (rs := [34]) (by kernel_rfl) (by simp) ?_
    refine AllReadyH.cons rfl (fun K hK => ?_) AllReadyH.nil
    go_simp
    (go_at_call 21; (refine (HTR.out _).mono ?_); rintro e w28 ⟨rfl, hb0⟩)
    have hb : Below w27.heap.size w27 w28 := hb0
    have X28 := Lib.hid (X27.out.below hb (by omega))
    have Y28 := Lib.hid (Y27.out.below hb (by omega))
    have H28 := Lib.hid (H27.out.trans (hb.mono H27.out.size))
    have z28 : w.heap.size + 1 < w28.heap.size := Nat.lt_of_lt_of_le z27 hb.size
    clear hb hb0
    go_wp2_with fail
    refine hK.out _ _ ⟨X28.out.range, Y28.out.range, (_root_.Go.Proofs.Ytmfigpjofakdnaa.k.cell_of Y28.out (i := 0) rfl).1, (_root_.Go.Proofs.Ytmfigpjofakdnaa.k.cell_of Y28.out (i := 1) rfl).1⟩ (fun hHeld => ?_)
    clear hK K
    try simp only [Act.put, List.setIfInBounds_toArray, List.set_cons_zero, List.set_cons_succ, List.getElem_toArray, List.getElem_cons_succ, List.getElem_cons_zero]
    refine wpAnyH_take (i := 35) (v := ?_) rfl (by kernel_rfl) (by kernel_rfl) (by kernel_rfl) (fun _ _ _ h => h) (Or.inl ⟨by rfl, ?_⟩) (by assumption) ?_
    rotate_left 1
    · intro w hSw; obtain ⟨_, _, hs1, hs2⟩ := hSw; go_simp <;> (with_reducible rfl)
    try simp only [Act.put, List.setIfInBounds_toArray, List.set_cons_zero, List.set_cons_succ, List.getElem_toArray, List.getElem_cons_succ, List.getElem_cons_zero]
    refine wpAnyH_take (i := 36) (v := ?_) rfl (by kernel_rfl) (by kernel_rfl) (by kernel_rfl) (fun _ _ _ h => h) (Or.inl ⟨by rfl, ?_⟩) (by assumption) ?_
    rotate_left 1
    · intro w hSw; obtain ⟨_, _, hs1, hs2⟩ := hSw; go_simp <;> (with_reducible rfl)
    try simp only [Act.put, List.setIfInBounds_toArray, List.set_cons_zero, List.set_cons_succ, List.getElem_toArray, List.getElem_cons_succ, List.getElem_cons_zero]
    refine wpAnyH_take (i := 37) (v := ?_) rfl (by kernel_rfl) (by kernel_rfl) (by kernel_rfl) (fun _ _ _ h => h) (Or.inl ⟨by rfl, ?_⟩) (by assumption) ?_
    rotate_left 1
    · intro w hSw; obtain ⟨_, _, hs1, hs2⟩ := hSw; go_simp <;> (with_reducible rfl)
    try simp only [Act.put, List.setIfInBounds_toArray, List.set_cons_zero, List.set_cons_succ, List.getElem_toArray, List.getElem_cons_succ, List.getElem_cons_zero]
    refine wpAnyH_take (i := 38) rfl (by kernel_rfl) (by kernel_rfl) (by kernel_rfl) (fun _ _ _ h => h) (yieldsIf_load_mid (by rfl) 23 (.tmp 7) rfl w.heap.size 0 rfl [.int .i64 V, .int .i64 A, .int .i64 D, .int .i64 lo, .int .i64 hi] _ (fun _ h => h.1) rfl rfl (by kernel_rfl)) (by assumption) ?_
    try simp only [Act.put, List.setIfInBounds_toArray, List.set_cons_zero, List.set_cons_succ, List.getElem_toArray, List.getElem_cons_succ, List.getElem_cons_zero]
    refine wpAnyH_take (i := 39) rfl (by kernel_rfl) (by kernel_rfl) (by kernel_rfl) (fun _ _ _ h => h) (yieldsIf_load_mid (by rfl) 25 (.tmp 8) rfl (w.heap.size + 1) 0 rfl [.int .i64 p, .int .i64 v] _ (fun _ h => h.2.1) rfl rfl (by kernel_rfl)) (by assumption) ?_
    try simp only [Act.put, List.setIfInBounds_toArray, List.set_cons_zero, List.set_cons_succ, List.getElem_toArray, List.getElem_cons_succ, List.getElem_cons_zero]
    refine wpAnyH_take (i := 40) (v := ?_) rfl (by kernel_rfl) (by kernel_rfl) (by kernel_rfl) (fun _ _ _ h => h) (Or.inl ⟨by rfl, ?_⟩) (by assumption) ?_
    rotate_left 1
    · intro w hSw; obtain ⟨_, _, hs1, hs2⟩ := hSw; go_simp <;> (with_reducible rfl)
    try simp only [Act.put, List.setIfInBounds_toArray, List.set_cons_zero, List.set_cons_succ, List.getElem_toArray, List.getElem_cons_succ, List.getElem_cons_zero]
    refine wpAnyH_take (i := 41) (v := ?_) rfl (by kernel_rfl) (by kernel_rfl) (by kernel_rfl) (fun _ _ _ h => h) (Or.inl ⟨by rfl, ?_⟩) (by assumption) ?_
    rotate_left 1
    · intro w hSw; obtain ⟨_, _, hs1, hs2⟩ := hSw; go_simp <;> (with_reducible rfl)
    try simp only [Act.put, List.setIfInBounds_toArray, List.set_cons_zero, List.set_cons_succ, List.getElem_toArray, List.getElem_cons_succ, List.getElem_cons_zero]
    refine wpAnyH_take (i := 42) (v := ?_) rfl (by kernel_rfl) (by kernel_rfl) (by kernel_rfl) (fun _ _ _ h => h) (Or.inl ⟨by rfl, ?_⟩) (by assumption) ?_
    rotate_left 1
    · intro w hSw; obtain ⟨_, _, hs1, hs2⟩ := hSw; go_simp <;> (with_reducible rfl)
    try simp only [Act.put, List.setIfInBounds_toArray, List.set_cons_zero, List.set_cons_succ, List.getElem_toArray, List.getElem_cons_succ, List.getElem_cons_zero]
    refine wpAnyH_take (i := 43) (v := ?_) rfl (by kernel_rfl) (by kernel_rfl) (by kernel_rfl) (fun _ _ _ h => h) (Or.inl ⟨by rfl, ?_⟩) (by assumption) ?_
    rotate_left 1
    · intro w hSw; obtain ⟨_, _, hs1, hs2⟩ := hSw; go_simp <;> (with_reducible rfl)
    try simp only [Act.put, List.setIfInBounds_toArray, List.set_cons_zero, List.set_cons_succ, List.getElem_toArray, List.getElem_cons_succ, List.getElem_cons_zero]
    refine wpAnyH_take (i := 45) rfl (by kernel_rfl) (by kernel_rfl) (by kernel_rfl) (fun _ _ _ h => h) (yieldsIf_load_mid (by rfl) 23 (.tmp 7) rfl w.heap.size 0 rfl [.int .i64 V, .int .i64 A, .int .i64 D, .int .i64 lo, .int .i64 hi] _ (fun _ h => h.1) rfl rfl (by kernel_rfl)) (by assumption) ?_
    try simp only [Act.put, List.setIfInBounds_toArray, List.set_cons_zero, List.set_cons_succ, List.getElem_toArray, List.getElem_cons_succ, List.getElem_cons_zero]
    refine wpAnyH_take (i := 46) rfl (by kernel_rfl) (by kernel_rfl) (by kernel_rfl) (fun _ _ _ h => h) (yieldsIf_load_mid (by rfl) 25 (.tmp 8) rfl (w.heap.size + 1) 0 rfl [.int .i64 p, .int .i64 v] _ (fun _ h => h.2.1) rfl rfl (by kernel_rfl)) (by assumption) ?_
    try simp only [Act.put, List.setIfInBounds_toArray, List.set_cons_zero, List.set_cons_succ, List.getElem_toArray, List.getElem_cons_succ, List.getElem_cons_zero]
    refine wpAnyH_take (i := 47) (v := ?_) rfl (by kernel_rfl) (by kernel_rfl) (by kernel_rfl) (fun _ _ _ h => h) (Or.inl ⟨by rfl, ?_⟩) (by assumption) ?_
    rotate_left 1
    · intro w hSw; obtain ⟨_, _, hs1, hs2⟩ := hSw; go_simp <;> (with_reducible rfl)
    try simp only [Act.put, List.setIfInBounds_toArray, List.set_cons_zero, List.set_cons_succ, List.getElem_toArray, List.getElem_cons_succ, List.getElem_cons_zero]
    refine wpAnyH_take (i := 48) (v := ?_) rfl (by kernel_rfl) (by kernel_rfl) (by kernel_rfl) (fun _ _ _ h => h) (Or.inl ⟨by rfl, ?_⟩) (by assumption) ?_
    rotate_left 1
    · intro w hSw; obtain ⟨_, _, hs1, hs2⟩ := hSw; go_simp <;> (with_reducible rfl)
    try simp only [Act.put, List.setIfInBounds_toArray, List.set_cons_zero, List.set_cons_succ, List.getElem_toArray, List.getElem_cons_succ, List.getElem_cons_zero]
    refine wpAnyH_take (i := 49) (v := ?_) rfl (by kernel_rfl) (by kernel_rfl) (by kernel_rfl) (fun _ _ _ h => h) (Or.inl ⟨by rfl, ?_⟩) (by assumption) ?_
    rotate_left 1
    · intro w hSw; obtain ⟨_, _, hs1, hs2⟩ := hSw; go_simp <;> (with_reducible rfl)
    try simp only [Act.put, List.setIfInBounds_toArray, List.set_cons_zero, List.set_cons_succ, List.getElem_toArray, List.getElem_cons_succ, List.getElem_cons_zero]
    refine wpAnyH_take (i := 50) (v := ?_) rfl (by kernel_rfl) (by kernel_rfl) (by kernel_rfl) (fun _ _ _ h => h) (Or.inl ⟨by rfl, ?_⟩) (by assumption) ?_
    rotate_left 1
    · intro w hSw; obtain ⟨_, _, hs1, hs2⟩ := hSw; go_simp <;> (with_reducible rfl)
    try simp only [Act.put, List.setIfInBounds_toArray, List.set_cons_zero, List.set_cons_succ, List.getElem_toArray, List.getElem_cons_succ, List.getElem_cons_zero]
    refine wpAnyH_ready (rs := [44]) (by kernel_rfl) (by simp) ?_
    refine AllReadyH.cons rfl (fun K hK => ?_) AllReadyH.nil
    go_simp
    (go_at_call 17; (refine (HB.out _).mono ?_); rintro e w29 ⟨rfl, hb0⟩)
    have hb : Below w28.heap.size w28 w29 := hb0
    have X29 := Lib.hid (X28.out.below hb (by omega))
    have Y29 := Lib.hid (Y28.out.below hb (by omega))
    have H29 := Lib.hid (H28.out.trans (hb.mono H28.out.size))
    have z29 : w.heap.size + 1 < w29.heap.size := Nat.lt_of_lt_of_le z28 hb.size
    clear hb hb0
    go_wp2_with fail
    refine hK.out _ _ ⟨X29.out.range, Y29.out.range, (_root_.Go.Proofs.Ytmfigpjofakdnaa.k.cell_of Y29.out (i := 0) rfl).1, (_root_.Go.Proofs.Ytmfigpjofakdnaa.k.cell_of Y29.out (i := 1) rfl).1⟩ (fun hHeld => ?_)
    clear hK K
    try simp only [Act.put, List.setIfInBounds_toArray, List.set_cons_zero, List.set_cons_succ, List.getElem_toArray, List.getElem_cons_succ, List.getElem_cons_zero]
    refine wpAnyH_ready (rs := [51]) (by kernel_rfl) (by simp) ?_
    refine AllReadyH.cons rfl (fun K hK => ?_) AllReadyH.nil
    go_simp
    (go_at_call 22; (refine (HBR.out _).mono ?_); rintro e w30 ⟨rfl, hb0⟩)
    have hb : Below w29.heap.size w29 w30 := hb0
    have X30 := Lib.hid (X29.out.below hb (by omega))
    have Y30 := Lib.hid (Y29.out.below hb (by omega))
    have H30 := Lib.hid (H29.out.trans (hb.mono H29.out.size))
    have z30 : w.heap.size + 1 < w30.heap.size := Nat.lt_of_lt_of_le z29 hb.size
    clear hb hb0
    go_wp2_with fail
    refine hK.out _ _ ⟨X30.out.range, Y30.out.range, (_root_.Go.Proofs.Ytmfigpjofakdnaa.k.cell_of Y30.out (i := 0) rfl).1, (_root_.Go.Proofs.Ytmfigpjofakdnaa.k.cell_of Y30.out (i := 1) rfl).1⟩ (fun hHeld => ?_)
    clear hK K
    try simp only [Act.put, List.setIfInBounds_toArray, List.set_cons_zero, List.set_cons_succ, List.getElem_toArray, List.getElem_cons_succ, List.getElem_cons_zero]
    refine wpAnyH_take (i := 52) (v := ?_) rfl (by kernel_rfl) (by kernel_rfl) (by kernel_rfl) (fun _ _ _ h => h) (Or.inl ⟨by rfl, ?_⟩) (by assumption) ?_
    rotate_left 1
    · intro w hSw; obtain ⟨_, _, hs1, hs2⟩ := hSw; go_simp <;> (with_reducible rfl)
    try simp only [Act.put, List.setIfInBounds_toArray, List.set_cons_zero, List.set_cons_succ, List.getElem_toArray, List.getElem_cons_succ, List.getElem_cons_zero]
    refine wpAnyH_take (i := 53) (v := ?_) rfl (by kernel_rfl) (by kernel_rfl) (by kernel_rfl) (fun _ _ _ h => h) (Or.inl ⟨by rfl, ?_⟩) (by assumption) ?_
    rotate_left 1
    · intro w hSw; obtain ⟨_, _, hs1, hs2⟩ := hSw; go_simp <;> (with_reducible rfl)
    try simp only [Act.put, List.setIfInBounds_toArray, List.set_cons_zero, List.set_cons_succ, List.getElem_toArray, List.getElem_cons_succ, List.getElem_cons_zero]
    refine wpAnyH_take (i := 54) (v := ?_) rfl (by kernel_rfl) (by kernel_rfl) (by kernel_rfl) (fun _ _ _ h => h) (Or.inl ⟨by rfl, ?_⟩) (by assumption) ?_
    rotate_left 1
    · intro w hSw; obtain ⟨_, _, hs1, hs2⟩ := hSw; go_simp <;> (with_reducible rfl)
    try simp only [Act.put, List.setIfInBounds_toArray, List.set_cons_zero, List.set_cons_succ, List.getElem_toArray, List.getElem_cons_succ, List.getElem_cons_zero]
    refine wpAnyH_done (by kernel_rfl) ?_ _
    go_wp2
    go_ret
    exact ⟨rfl, H30.out⟩
end Go.Proofs.Ytmfigpjofakdnaa.genRight
