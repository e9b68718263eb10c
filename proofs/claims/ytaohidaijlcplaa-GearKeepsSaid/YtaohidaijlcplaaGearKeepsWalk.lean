/- The walk of the law GearKeeps: any limits, any generator, whatever the master does: it returns true, and what was in memory is as it was. -/
import Derived.Test.YtaohidaijlcplaaGxAwake
import Derived.Test.YtaohidaijlcplaaKOrd
import Derived.Test.YtaohidaijlcplaaIRow
namespace Go.Proofs.Ytaohidaijlcplaa.gearKeeps
open Go.ChangeShapes Go.WideShapes Go.ChangeAt Go.RowKit Go.Proofs.Ytaohidaijlcplaa.k Go.Proofs.Ytaohidaijlcplaa.b Go.Proofs.Ytaohidaijlcplaa.gn Go.Proofs.Ytaohidaijlcplaa.gx Go.Proofs.Ytaohidaijlcplaa
set_option linter.unusedVariables false

set_option maxRecDepth 100000 in
set_option maxHeartbeats 4000000 in
theorem walk (V A D lo hi p0 v0 : Int) (a2 : Option Addr) (len cap : Nat) (zs : List Int) (n d : Int) (w : World) (w0 : (Lit.int .i64 V).wf = true) (w1 : (Lit.int .i64 A).wf = true) (w2 : (Lit.int .i64 D).wf = true) (w3 : (Lit.int .i64 lo).wf = true) (w4 : (Lit.int .i64 hi).wf = true) (w5 : (Lit.int .i64 p0).wf = true) (w6 : (Lit.int .i64 v0).wf = true) (u2 : IsRow .i64 w a2 len cap zs) (w8 : (Lit.int .i64 n).wf = true) (w9 : (Lit.int .i64 d).wf = true) :
    Calls Try.prog 4 #[.agg #[.int .i64 V, .int .i64 A, .int .i64 D, .int .i64 lo, .int .i64 hi], .agg #[.int .i64 p0, .int .i64 v0], .slice a2 len cap, .int .i64 n, .int .i64 d] w fun e w' => e = .returned (.bool true) ∧ Below w.heap.size w w' := by
  have hlen := u2.len
  have U := Lib.hid u2
  have hn : InR n := wf64 w8
  have hd : InR d := wf64 w9
  have hV : InR V := wf64 w0
  have hA : InR A := wf64 w1
  have hD : InR D := wf64 w2
  have hlo : InR lo := wf64 w3
  have hhi : InR hi := wf64 w4
  have hp0 : InR p0 := wf64 w5
  have hv0 : InR v0 := wf64 w6
  clear u2 w0 w1 w2 w3 w4 w5 w6 w8 w9
  have HK := Lib.hid fun W => awake_any W
  have HR := Lib.hid fun W => gn.right_any ⟨V, A, D, lo, hi⟩ ⟨hV, hA, hD, hlo, hhi⟩ W
  skip
  by_cases hr : RightL ⟨V, A, D, lo, hi⟩
  · have HS := Lib.hid fun (p v : Int) (hp : InR p) (hv : InR v) W => gn.safe_any ⟨V, A, D, lo, hi⟩ hr p v hp hv W
    have HR1 : Hid (∀ W, Calls Try.prog 11 #[.agg #[.int .i64 V, .int .i64 A, .int .i64 D, .int .i64 lo, .int .i64 hi]] W fun e w' => e = .returned (.bool true) ∧ Below W.heap.size W w') := Lib.hid fun W => by have h := HR.out W; rw [gn.right_yes hr] at h; exact h
    by_cases hs : SafeP ⟨V, A, D, lo, hi⟩ p0 v0
    · have HS1 : Hid (∀ W, Calls Try.prog 12 #[.agg #[.int .i64 V, .int .i64 A, .int .i64 D, .int .i64 lo, .int .i64 hi], .agg #[.int .i64 p0, .int .i64 v0]] W fun e w' => e = .returned (.bool true) ∧ Below W.heap.size W w') := Lib.hid fun W => by have h := HS.out p0 v0 hp0 hv0 W; rw [gn.safe_yes hr hs] at h; exact h
      by_cases hz : len = 0
      · subst hz
        go_enter Try.func4, Try.ntmps4
        go_upto_region 3 with (go_at_call 6; ((with_reducible refine (HK.out _).mono ?_); rintro e v1 ⟨rfl, hb⟩; obtain ⟨hx0, hx1, hbb, hz1⟩ := k.boxes2 hb; have hz0 : w.heap.size < v1.heap.size := (by omega); have X5 := Lib.hid hx0; have X6 := Lib.hid hx1; have HB := Lib.hid hbb; clear hbb hx0 hx1; have X5c0 := (k.cell_of X5.out (i := 0) rfl).1; have X5c1 := (k.cell_of X5.out (i := 1) rfl).1; have X5c2 := (k.cell_of X5.out (i := 2) rfl).1; have X5c3 := (k.cell_of X5.out (i := 3) rfl).1; have X5c4 := (k.cell_of X5.out (i := 4) rfl).1; have X6c0 := (k.cell_of X6.out (i := 0) rfl).1; have X6c1 := (k.cell_of X6.out (i := 1) rfl).1; clear hb))
        go_wp2_with (first | (go_at_call 11; ((with_reducible refine (HR1.out _).mono ?_); rintro e v2 ⟨rfl, hb⟩; have X5 := Lib.hid (X5.out.below hb hz0); have X6 := Lib.hid (X6.out.below hb hz1); have hz0 := Nat.lt_of_lt_of_le hz0 hb.size; have hz1 := Nat.lt_of_lt_of_le hz1 hb.size; have HB := Lib.hid (HB.out.trans (hb.mono HB.out.size)); clear X5c0 X5c1 X5c2 X5c3 X5c4 X6c0 X6c1; have X5c0 := (k.cell_of X5.out (i := 0) rfl).1; have X5c1 := (k.cell_of X5.out (i := 1) rfl).1; have X5c2 := (k.cell_of X5.out (i := 2) rfl).1; have X5c3 := (k.cell_of X5.out (i := 3) rfl).1; have X5c4 := (k.cell_of X5.out (i := 4) rfl).1; have X6c0 := (k.cell_of X6.out (i := 0) rfl).1; have X6c1 := (k.cell_of X6.out (i := 1) rfl).1; clear hb)) | (go_at_call 12; ((with_reducible refine (HS1.out _).mono ?_); rintro e v3 ⟨rfl, hb⟩; have X5 := Lib.hid (X5.out.below hb hz0); have X6 := Lib.hid (X6.out.below hb hz1); have hz0 := Nat.lt_of_lt_of_le hz0 hb.size; have hz1 := Nat.lt_of_lt_of_le hz1 hb.size; have HB := Lib.hid (HB.out.trans (hb.mono HB.out.size)); clear X5c0 X5c1 X5c2 X5c3 X5c4 X6c0 X6c1; have X5c0 := (k.cell_of X5.out (i := 0) rfl).1; have X5c1 := (k.cell_of X5.out (i := 1) rfl).1; have X5c2 := (k.cell_of X5.out (i := 2) rfl).1; have X5c3 := (k.cell_of X5.out (i := 3) rfl).1; have X5c4 := (k.cell_of X5.out (i := 4) rfl).1; have X6c0 := (k.cell_of X6.out (i := 0) rfl).1; have X6c1 := (k.cell_of X6.out (i := 1) rfl).1; clear hb)))
        go_ret
        exact ⟨rfl, HB.out⟩
      · have hzb : ((len : Int) == 0) = false := by rw [beq_eq_false_iff_ne]; omega
        obtain ⟨b, off, rfl, hbw, hcap, hcm, hrow⟩ := U.out.at (by omega)
        obtain ⟨m0, hm0r, h0⟩ := hrow 0 (by omega)
        go_enter Try.func4, Try.ntmps4
        go_upto_region 3 with (go_at_call 6; ((with_reducible refine (HK.out _).mono ?_); rintro e v1 ⟨rfl, hb⟩; obtain ⟨hx0, hx1, hbb, hz1⟩ := k.boxes2 hb; have hz0 : w.heap.size < v1.heap.size := (by omega); have X5 := Lib.hid hx0; have X6 := Lib.hid hx1; have HB := Lib.hid hbb; clear hbb hx0 hx1; have X5c0 := (k.cell_of X5.out (i := 0) rfl).1; have X5c1 := (k.cell_of X5.out (i := 1) rfl).1; have X5c2 := (k.cell_of X5.out (i := 2) rfl).1; have X5c3 := (k.cell_of X5.out (i := 3) rfl).1; have X5c4 := (k.cell_of X5.out (i := 4) rfl).1; have X6c0 := (k.cell_of X6.out (i := 0) rfl).1; have X6c1 := (k.cell_of X6.out (i := 1) rfl).1; clear hb))
        go_upto_region 5 with (first | (go_at_call 11; ((with_reducible refine (HR1.out _).mono ?_); rintro e v2 ⟨rfl, hb⟩; have X5 := Lib.hid (X5.out.below hb hz0); have X6 := Lib.hid (X6.out.below hb hz1); have hz0 := Nat.lt_of_lt_of_le hz0 hb.size; have hz1 := Nat.lt_of_lt_of_le hz1 hb.size; have HB := Lib.hid (HB.out.trans (hb.mono HB.out.size)); clear X5c0 X5c1 X5c2 X5c3 X5c4 X6c0 X6c1; have X5c0 := (k.cell_of X5.out (i := 0) rfl).1; have X5c1 := (k.cell_of X5.out (i := 1) rfl).1; have X5c2 := (k.cell_of X5.out (i := 2) rfl).1; have X5c3 := (k.cell_of X5.out (i := 3) rfl).1; have X5c4 := (k.cell_of X5.out (i := 4) rfl).1; have X6c0 := (k.cell_of X6.out (i := 0) rfl).1; have X6c1 := (k.cell_of X6.out (i := 1) rfl).1; clear hb)) | (go_at_call 12; ((with_reducible refine (HS1.out _).mono ?_); rintro e v3 ⟨rfl, hb⟩; have X5 := Lib.hid (X5.out.below hb hz0); have X6 := Lib.hid (X6.out.below hb hz1); have hz0 := Nat.lt_of_lt_of_le hz0 hb.size; have hz1 := Nat.lt_of_lt_of_le hz1 hb.size; have HB := Lib.hid (HB.out.trans (hb.mono HB.out.size)); clear X5c0 X5c1 X5c2 X5c3 X5c4 X6c0 X6c1; have X5c0 := (k.cell_of X5.out (i := 0) rfl).1; have X5c1 := (k.cell_of X5.out (i := 1) rfl).1; have X5c2 := (k.cell_of X5.out (i := 2) rfl).1; have X5c3 := (k.cell_of X5.out (i := 3) rfl).1; have X5c4 := (k.cell_of X5.out (i := 4) rfl).1; have X6c0 := (k.cell_of X6.out (i := 0) rfl).1; have X6c1 := (k.cell_of X6.out (i := 1) rfl).1; clear hb)))
        have hck : v3.cell? ⟨b, off, none⟩ = some (.int .i64 m0) := (HB.out.cell (p := ⟨b, off, none⟩) hbw).trans h0
        have hl0 : (0 : Int) < (len : Int) := by omega
        go_quiet (fail)
        clear X5c0 X5c1 X5c2 X5c3 X5c4 X6c0 X6c1
        clear hck
        go_wp2
        have HS0 := Lib.hid hs
        go_loopw [13] (fun s13 wr => ∃ (q : Nat) (p v : Int), q ≤ len ∧ q ≤ 300 ∧ s13 = .int .i64 q ∧ SafeP ⟨V, A, D, lo, hi⟩ p v ∧ k.Box wr w.heap.size 0 [.int .i64 V, .int .i64 A, .int .i64 D, .int .i64 lo, .int .i64 hi] ∧ k.Box wr (w.heap.size + 1) 0 [.int .i64 p, .int .i64 v] ∧ Below w.heap.size w wr ∧ w.heap.size + 1 < wr.heap.size) (fun s13 _ => len - (intOf s13).toNat)
        case atStart => exact ⟨0, p0, v0, Nat.zero_le _, by omega, rfl, HS0.out, X5.out, X6.out, below_drawn HB.out _, hz1⟩
        case round =>
          clear X5 X6 HB hz0 hz1 hs HS0 h0
          obtain ⟨q, p, v, hq, hq3, rfl, hs, hx5, hx6, hb, hz1⟩ := hrel
          have hz0 : w.heap.size < wr.heap.size := (by omega)
          have X5 := Lib.hid hx5
          have X6 := Lib.hid hx6
          have HB := Lib.hid hb
          clear hx5 hx6 hb
          by_cases hlt : q < len
          · by_cases hlt3 : q < 300
            · obtain ⟨m, hmr, hq1⟩ := hrow q hlt
              have hck : wr.cell? ⟨b, off + q, none⟩ = some (.int .i64 m) := (HB.out.cell (p := ⟨b, off + q, none⟩) hbw).trans hq1
              have hbr : b < wr.heap.size := Nat.lt_of_lt_of_le hbw HB.out.size
              clear hq1
              have i0 : (q : Int) < (len : Int) := by omega
              have i1 : (q : Int) < 300 := by omega
              have hpr : InR p := ⟨by have := hs.1; have := hr.2.2.2.2.2.2.1; dsimp only at *; omega, by have := hs.2.1; have := hr.2.2.2.2.2.2.2.1; dsimp only at *; omega⟩
              have hvr : InR v := ⟨by have := hs.2.2.1; omega, by have := hs.2.2.2.1; omega⟩
              have hw := fun W => want_any V A D lo hi p v hV hA hD hlo hhi hpr hvr p0 m0 m n d hp0 hm0r hmr hn hd W
              have hpl := fun W => place_any p0 m0 m n d hp0 hm0r hmr hn hd W
              have hst := fun W => gn.step_ok ⟨V, A, D, lo, hi⟩ hr p v hs (wantV p p0 m0 m n d) (wantV_in p p0 m0 m n d) W
              have ⟨k1, k2⟩ := want_step hr hs p0 m0 m n d
              have kk := gn.step_kept hr hs (wantV p p0 m0 m n d)
              obtain ⟨y1, y2, y3, _, _, _⟩ := kk
              generalize gn.stepV ⟨V, A, D, lo, hi⟩ p v (wantV p p0 m0 m n d) = x at *
              generalize wantV p p0 m0 m n d = z3 at *
              generalize wantB ⟨V, A, D, lo, hi⟩ p v p0 m0 m n d = wb at *
              generalize plV p0 m0 m n d = P at *
              generalize plB p0 m0 m n d = pb at *
              generalize hp2 : p + x = p2 at *
              dsimp only at hst y2 y3
              have HW1 := Lib.hid hw
              have HP1 := Lib.hid hpl
              have HT1 := Lib.hid hst
              have HN := Lib.hid y1
              have hxr : -1048576 ≤ x ∧ x ≤ 1048576 := ⟨y1.2.2.1, y1.2.2.2.1⟩
              have hvr2 : -1048576 ≤ v ∧ v ≤ 1048576 := ⟨hs.2.2.1, hs.2.2.2.1⟩
              have hp2r : InR p2 := ⟨by have := y1.1; have := hr.2.2.2.2.2.2.1; dsimp only at *; omega, by have := y1.2.1; have := hr.2.2.2.2.2.2.2.1; dsimp only at *; omega⟩
              have HS2 : Hid (∀ W, Calls Try.prog 12 #[.agg #[.int .i64 V, .int .i64 A, .int .i64 D, .int .i64 lo, .int .i64 hi], .agg #[.int .i64 p2, .int .i64 x]] W fun e w' => e = .returned (.bool true) ∧ Below W.heap.size W w') := Lib.hid fun W => by have h := HS.out p2 x hp2r ⟨by omega, by omega⟩ W; rw [gn.safe_yes hr HN.out] at h; exact h
              obtain ⟨M, hM⟩ : ∃ M, max A D = M := ⟨_, rfl⟩
              rw [hM] at y2 y3
              have d1 : decide (M < x - v) = false := decide_eq_false (by omega)
              have d2 : decide (M < -(x - v)) = false := decide_eq_false (by omega)
              clear hw hpl hst y1 y2 y3 hp2
              have X5c0 := (k.cell_of X5.out (i := 0) rfl).1
              have X5c1 := (k.cell_of X5.out (i := 1) rfl).1
              have X5c2 := (k.cell_of X5.out (i := 2) rfl).1
              have X5c3 := (k.cell_of X5.out (i := 3) rfl).1
              have X5c4 := (k.cell_of X5.out (i := 4) rfl).1
              have X6c0 := (k.cell_of X6.out (i := 0) rfl).1
              have X6c1 := (k.cell_of X6.out (i := 1) rfl).1
              go_upto_region 9 with (fail)
              refine wp_region_T (by kernel_rfl) (fun w' => Below wr.heap.size wr w') [] (Below.refl _ _).drew (fun hHeld => ?_)
              refine wpAnyT_take (i := 0) (v := ?_) rfl (by kernel_rfl) (by kernel_rfl) (by kernel_rfl) (fun _ _ _ h => h) (Or.inl ⟨by rfl, ?_⟩) (by assumption) ?_
              rotate_left 1
              · intro w_ hSw; have zX50 := (hSw.cell (p := ⟨w.heap.size, 0, none⟩) hz0).trans X5c0; have zX51 := (hSw.cell (p := ⟨w.heap.size, 1, none⟩) hz0).trans X5c1; have zX52 := (hSw.cell (p := ⟨w.heap.size, 2, none⟩) hz0).trans X5c2; have zX53 := (hSw.cell (p := ⟨w.heap.size, 3, none⟩) hz0).trans X5c3; have zX54 := (hSw.cell (p := ⟨w.heap.size, 4, none⟩) hz0).trans X5c4; clear hSw; go_simp <;> (with_reducible rfl)
              try simp only [Act.put, List.setIfInBounds_toArray, List.set_cons_zero, List.set_cons_succ, List.getElem_toArray, List.getElem_cons_zero]
              refine wpAnyT_take (i := 1) (v := ?_) rfl (by kernel_rfl) (by kernel_rfl) (by kernel_rfl) (fun _ _ _ h => h) (Or.inl ⟨by rfl, ?_⟩) (by assumption) ?_
              rotate_left 1
              · intro w_ hSw; have zX60 := (hSw.cell (p := ⟨(w.heap.size + 1), 0, none⟩) hz1).trans X6c0; have zX61 := (hSw.cell (p := ⟨(w.heap.size + 1), 1, none⟩) hz1).trans X6c1; clear hSw; go_simp <;> (with_reducible rfl)
              try simp only [Act.put, List.setIfInBounds_toArray, List.set_cons_zero, List.set_cons_succ, List.getElem_toArray, List.getElem_cons_succ, List.getElem_cons_zero]
              refine wpAnyT_take (i := 2) (v := ?_) rfl (by kernel_rfl) (by kernel_rfl) (by kernel_rfl) (fun _ _ _ h => h) (Or.inl ⟨by rfl, ?_⟩) (by assumption) ?_
              rotate_left 1
              · intro w_ hSw; clear hSw; go_simp <;> (with_reducible rfl)
              try simp only [Act.put, List.setIfInBounds_toArray, List.set_cons_zero, List.set_cons_succ, List.getElem_toArray, List.getElem_cons_succ, List.getElem_cons_zero]
              refine wpAnyT_take (i := 3) (v := ?_) rfl (by kernel_rfl) (by kernel_rfl) (by kernel_rfl) (fun _ _ _ h => h) (Or.inl ⟨by rfl, ?_⟩) (by assumption) ?_
              rotate_left 1
              · intro w_ hSw; clear hSw; go_simp <;> (with_reducible rfl)
              try simp only [Act.put, List.setIfInBounds_toArray, List.set_cons_zero, List.set_cons_succ, List.getElem_toArray, List.getElem_cons_succ, List.getElem_cons_zero]
              refine wpAnyT_take (i := 4) (v := ?_) rfl (by kernel_rfl) (by kernel_rfl) (by kernel_rfl) (fun _ _ _ h => h) (Or.inl ⟨by rfl, ?_⟩) (by assumption) ?_
              rotate_left 1
              · intro w_ hSw; clear hSw; go_simp <;> (with_reducible rfl)
              try simp only [Act.put, List.setIfInBounds_toArray, List.set_cons_zero, List.set_cons_succ, List.getElem_toArray, List.getElem_cons_succ, List.getElem_cons_zero]
              refine wpAnyT_take (i := 5) (v := ?_) rfl (by kernel_rfl) (by kernel_rfl) (by kernel_rfl) (fun _ _ _ h => h) (Or.inl ⟨by rfl, ?_⟩) (by assumption) ?_
              rotate_left 1
              · intro w_ hSw; clear hSw; go_simp <;> (with_reducible rfl)
              try simp only [Act.put, List.setIfInBounds_toArray, List.set_cons_zero, List.set_cons_succ, List.getElem_toArray, List.getElem_cons_succ, List.getElem_cons_zero]
              refine wpAnyT_take (i := 6) (v := ?_) rfl (by kernel_rfl) (by kernel_rfl) (by kernel_rfl) (fun _ _ _ h => h) (Or.inl ⟨by rfl, ?_⟩) (by assumption) ?_
              rotate_left 1
              · intro w_ hSw; clear hSw; go_simp <;> (with_reducible rfl)
              try simp only [Act.put, List.setIfInBounds_toArray, List.set_cons_zero, List.set_cons_succ, List.getElem_toArray, List.getElem_cons_succ, List.getElem_cons_zero]
              refine wpAnyT_take (i := 7) (v := ?_) rfl (by kernel_rfl) (by kernel_rfl) (by kernel_rfl) (fun _ _ _ h => h) (Or.inl ⟨by rfl, ?_⟩) (by assumption) ?_
              rotate_left 1
              · intro w_ hSw; have z9 := (hSw.cell (p := ⟨b, off + q, none⟩) hbr).trans hck; clear hSw; go_simp <;> (with_reducible rfl)
              try simp only [Act.put, List.setIfInBounds_toArray, List.set_cons_zero, List.set_cons_succ, List.getElem_toArray, List.getElem_cons_succ, List.getElem_cons_zero]
              refine wpAnyT_take (i := 8) (v := ?_) rfl (by kernel_rfl) (by kernel_rfl) (by kernel_rfl) (fun _ _ _ h => h) (Or.inl ⟨by rfl, ?_⟩) (by assumption) ?_
              rotate_left 1
              · intro w_ hSw; clear hSw; go_simp <;> (with_reducible rfl)
              try simp only [Act.put, List.setIfInBounds_toArray, List.set_cons_zero, List.set_cons_succ, List.getElem_toArray, List.getElem_cons_succ, List.getElem_cons_zero]
              refine wpAnyT_take (i := 9) (v := ?_) rfl (by kernel_rfl) (by kernel_rfl) (by kernel_rfl) (fun _ _ _ h => h) (Or.inl ⟨by rfl, ?_⟩) (by assumption) ?_
              rotate_left 1
              · intro w_ hSw; clear hSw; go_simp <;> (with_reducible rfl)
              try simp only [Act.put, List.setIfInBounds_toArray, List.set_cons_zero, List.set_cons_succ, List.getElem_toArray, List.getElem_cons_succ, List.getElem_cons_zero]
              refine wpAnyT_ready (rs := [10]) (by kernel_rfl) (by simp) ?_
              refine AllReadyT.cons rfl (fun K hK => ?_) AllReadyT.nil
              go_simp
              (go_at_call 9; ((with_reducible refine (HW1.out _).mono ?_); rintro e u1 ⟨rfl, hb0⟩))
              have hb1 : Below wr.heap.size wr u1 := ((Below.refl _ _).drew).trans hb0
              clear hb0
              go_wp2_with fail
              refine hK.out _ _ hb1 (fun hHeld => ?_)
              clear hK K
              try simp only [Act.put, List.setIfInBounds_toArray, List.set_cons_zero, List.set_cons_succ, List.getElem_toArray, List.getElem_cons_succ, List.getElem_cons_zero]
              refine wpAnyT_take (i := 11) (v := ?_) rfl (by kernel_rfl) (by kernel_rfl) (by kernel_rfl) (fun _ _ _ h => h) (Or.inl ⟨by rfl, ?_⟩) (by assumption) ?_
              rotate_left 1
              · intro w_ hSw; clear hSw; go_simp <;> (with_reducible rfl)
              try simp only [Act.put, List.setIfInBounds_toArray, List.set_cons_zero, List.set_cons_succ, List.getElem_toArray, List.getElem_cons_succ, List.getElem_cons_zero]
              refine wpAnyT_take (i := 12) (v := ?_) rfl (by kernel_rfl) (by kernel_rfl) (by kernel_rfl) (fun _ _ _ h => h) (Or.inl ⟨by rfl, ?_⟩) (by assumption) ?_
              rotate_left 1
              · intro w_ hSw; clear hSw; go_simp <;> (with_reducible rfl)
              try simp only [Act.put, List.setIfInBounds_toArray, List.set_cons_zero, List.set_cons_succ, List.getElem_toArray, List.getElem_cons_succ, List.getElem_cons_zero]
              refine wpAnyT_take (i := 13) (v := ?_) rfl (by kernel_rfl) (by kernel_rfl) (by kernel_rfl) (fun _ _ _ h => h) (Or.inl ⟨by rfl, ?_⟩) (by assumption) ?_
              rotate_left 1
              · intro w_ hSw; clear hSw; go_simp <;> (with_reducible rfl)
              try simp only [Act.put, List.setIfInBounds_toArray, List.set_cons_zero, List.set_cons_succ, List.getElem_toArray, List.getElem_cons_succ, List.getElem_cons_zero]
              refine wpAnyT_take (i := 14) (v := ?_) rfl (by kernel_rfl) (by kernel_rfl) (by kernel_rfl) (fun _ _ _ h => h) (Or.inl ⟨by rfl, ?_⟩) (by assumption) ?_
              rotate_left 1
              · intro w_ hSw; clear hSw; go_simp <;> (with_reducible rfl)
              try simp only [Act.put, List.setIfInBounds_toArray, List.set_cons_zero, List.set_cons_succ, List.getElem_toArray, List.getElem_cons_succ, List.getElem_cons_zero]
              refine wpAnyT_take (i := 15) (v := ?_) rfl (by kernel_rfl) (by kernel_rfl) (by kernel_rfl) (fun _ _ _ h => h) (Or.inl ⟨by rfl, ?_⟩) (by assumption) ?_
              rotate_left 1
              · intro w_ hSw; clear hSw; go_simp <;> (with_reducible rfl)
              try simp only [Act.put, List.setIfInBounds_toArray, List.set_cons_zero, List.set_cons_succ, List.getElem_toArray, List.getElem_cons_succ, List.getElem_cons_zero]
              refine wpAnyT_done (by kernel_rfl) ?_ _
              clear X5c0 X5c1 X5c2 X5c3 X5c4 X6c0 X6c1
              have hck1 := (hb1.cell (p := ⟨b, off + q, none⟩) hbr).trans hck
              clear hck
              have X5 := Lib.hid (X5.out.below hb1 hz0)
              have X6 := Lib.hid (X6.out.below hb1 hz1)
              have hz0 := Nat.lt_of_lt_of_le hz0 hb1.size
              have hz1 := Nat.lt_of_lt_of_le hz1 hb1.size
              have HB := Lib.hid (HB.out.trans (hb1.mono HB.out.size))
              have X5c0 := (k.cell_of X5.out (i := 0) rfl).1
              have X5c1 := (k.cell_of X5.out (i := 1) rfl).1
              have X5c2 := (k.cell_of X5.out (i := 2) rfl).1
              have X5c3 := (k.cell_of X5.out (i := 3) rfl).1
              have X5c4 := (k.cell_of X5.out (i := 4) rfl).1
              have X6c0 := (k.cell_of X6.out (i := 0) rfl).1
              have X6c1 := (k.cell_of X6.out (i := 1) rfl).1
              have hbr := Nat.lt_of_lt_of_le hbr hb1.size
              clear hb1
              go_upto_region 11 with (go_at_call 13; ((with_reducible refine (HT1.out _).mono ?_); rintro e v41 ⟨rfl, hb⟩; have X5 := Lib.hid (X5.out.below hb hz0); have X6 := Lib.hid (X6.out.below hb hz1); have hz0 := Nat.lt_of_lt_of_le hz0 hb.size; have hz1 := Nat.lt_of_lt_of_le hz1 hb.size; have hck1 := (hb.cell (p := ⟨b, off + q, none⟩) hbr).trans hck1; have hbr := Nat.lt_of_lt_of_le hbr hb.size; have HB := Lib.hid (HB.out.trans (hb.mono HB.out.size)); clear X5c0 X5c1 X5c2 X5c3 X5c4 X6c0 X6c1; have X5c0 := (k.cell_of X5.out (i := 0) rfl).1; have X5c1 := (k.cell_of X5.out (i := 1) rfl).1; have X5c2 := (k.cell_of X5.out (i := 2) rfl).1; have X5c3 := (k.cell_of X5.out (i := 3) rfl).1; have X5c4 := (k.cell_of X5.out (i := 4) rfl).1; have X6c0 := (k.cell_of X6.out (i := 0) rfl).1; have X6c1 := (k.cell_of X6.out (i := 1) rfl).1; clear hb))
              have hgeX16 : (w.heap.size + 1) < v41.heap.size := hz1
              obtain ⟨hx, hb, hzX16⟩ := k.boxes1 (w := v41) (c1 := #[.int .i64 p2, .int .i64 x]) (t1 := 25) (Below.refl _ _)
              generalize (v41.alloc (.cells #[.int .i64 p2, .int .i64 x] 25)) = v42 at hb hx hzX16 ⊢
              have X5 := Lib.hid (X5.out.below hb hz0)
              have X6 := Lib.hid (X6.out.below hb hz1)
              have hz0 := Nat.lt_of_lt_of_le hz0 hb.size
              have hz1 := Nat.lt_of_lt_of_le hz1 hb.size
              have hck1 := (hb.cell (p := ⟨b, off + q, none⟩) hbr).trans hck1
              have hbr := Nat.lt_of_lt_of_le hbr hb.size
              have HB := Lib.hid (HB.out.trans (hb.mono HB.out.size))
              clear X5c0 X5c1 X5c2 X5c3 X5c4 X6c0 X6c1
              obtain ⟨gX16, hgX16⟩ : ∃ g, v41.heap.size = g := ⟨_, rfl⟩
              rw [hgX16] at hx hzX16 hgeX16 ⊢
              skip
              have X16 := Lib.hid hx
              have X5c0 := (k.cell_of X5.out (i := 0) rfl).1
              have X5c1 := (k.cell_of X5.out (i := 1) rfl).1
              have X5c2 := (k.cell_of X5.out (i := 2) rfl).1
              have X5c3 := (k.cell_of X5.out (i := 3) rfl).1
              have X5c4 := (k.cell_of X5.out (i := 4) rfl).1
              have X6c0 := (k.cell_of X6.out (i := 0) rfl).1
              have X6c1 := (k.cell_of X6.out (i := 1) rfl).1
              have X16c0 := (k.cell_of X16.out (i := 0) rfl).1
              have X16c1 := (k.cell_of X16.out (i := 1) rfl).1
              clear hb hx hgX16
              go_upto_region 12 with (go_at_call 7; ((with_reducible refine (HP1.out _).mono ?_); rintro e v43 ⟨rfl, hb⟩; have X5 := Lib.hid (X5.out.below hb hz0); have X6 := Lib.hid (X6.out.below hb hz1); have X16 := Lib.hid (X16.out.below hb hzX16); have hz0 := Nat.lt_of_lt_of_le hz0 hb.size; have hz1 := Nat.lt_of_lt_of_le hz1 hb.size; have hzX16 := Nat.lt_of_lt_of_le hzX16 hb.size; have hck1 := (hb.cell (p := ⟨b, off + q, none⟩) hbr).trans hck1; have hbr := Nat.lt_of_lt_of_le hbr hb.size; have HB := Lib.hid (HB.out.trans (hb.mono HB.out.size)); clear X5c0 X5c1 X5c2 X5c3 X5c4 X6c0 X6c1 X16c0 X16c1; have X5c0 := (k.cell_of X5.out (i := 0) rfl).1; have X5c1 := (k.cell_of X5.out (i := 1) rfl).1; have X5c2 := (k.cell_of X5.out (i := 2) rfl).1; have X5c3 := (k.cell_of X5.out (i := 3) rfl).1; have X5c4 := (k.cell_of X5.out (i := 4) rfl).1; have X6c0 := (k.cell_of X6.out (i := 0) rfl).1; have X6c1 := (k.cell_of X6.out (i := 1) rfl).1; have X16c0 := (k.cell_of X16.out (i := 0) rfl).1; have X16c1 := (k.cell_of X16.out (i := 1) rfl).1; clear hb))
              clear hck1 hbr
              cases wb
              · cases pb
                · skip
                  go_upto_region 17 with (go_at_call 12; ((with_reducible refine (HS2.out _).mono ?_); rintro e v44 ⟨rfl, hb⟩; have X5 := Lib.hid (X5.out.below hb hz0); have X6 := Lib.hid (X6.out.below hb hz1); have X16 := Lib.hid (X16.out.below hb hzX16); have hz0 := Nat.lt_of_lt_of_le hz0 hb.size; have hz1 := Nat.lt_of_lt_of_le hz1 hb.size; have hzX16 := Nat.lt_of_lt_of_le hzX16 hb.size; have HB := Lib.hid (HB.out.trans (hb.mono HB.out.size)); clear X5c0 X5c1 X5c2 X5c3 X5c4 X6c0 X6c1 X16c0 X16c1; have X5c0 := (k.cell_of X5.out (i := 0) rfl).1; have X5c1 := (k.cell_of X5.out (i := 1) rfl).1; have X5c2 := (k.cell_of X5.out (i := 2) rfl).1; have X5c3 := (k.cell_of X5.out (i := 3) rfl).1; have X5c4 := (k.cell_of X5.out (i := 4) rfl).1; have X6c0 := (k.cell_of X6.out (i := 0) rfl).1; have X6c1 := (k.cell_of X6.out (i := 1) rfl).1; have X16c0 := (k.cell_of X16.out (i := 0) rfl).1; have X16c1 := (k.cell_of X16.out (i := 1) rfl).1; clear hb))
                  clear X5c0 X5c1 X5c2 X5c3 X5c4 X6c0 X6c1 X16c0 X16c1
                  obtain ⟨a0, f0, a1, f1, _⟩ := X6.out
                  obtain ⟨k0, _, k1, _, _⟩ := X16.out
                  go_wp2
                  obtain ⟨r1, r2, r3⟩ := X6.out.puts (us := [.int .i64 p2, .int .i64 x]) rfl
                  have hz5 : w.heap.size + 1 < (k.puts v44 (w.heap.size + 1) 0 [.int .i64 p2, .int .i64 x]).heap.size := by rw [r2]; exact hz1
                  have r5 : k.Box (k.puts v44 (w.heap.size + 1) 0 [.int .i64 p2, .int .i64 x]) w.heap.size 0 [.int .i64 V, .int .i64 A, .int .i64 D, .int .i64 lo, .int .i64 hi] := X5.out.below (r3 (w.heap.size + 1) (Nat.le_refl _)) (Nat.lt_succ_self _)
                  go_roundw
                  case measure => simp [intOf]; omega
                  case rel => exact ⟨q + 1, p2, x, hlt, by omega, rfl, HN.out, r5, r1, HB.out.trans (r3 w.heap.size (Nat.le_succ _)), hz5⟩
                · have hne : (p2 == P) = false := by rw [beq_eq_false_iff_ne]; exact k2 rfl rfl
                  go_upto_region 17 with (go_at_call 12; ((with_reducible refine (HS2.out _).mono ?_); rintro e v44 ⟨rfl, hb⟩; have X5 := Lib.hid (X5.out.below hb hz0); have X6 := Lib.hid (X6.out.below hb hz1); have X16 := Lib.hid (X16.out.below hb hzX16); have hz0 := Nat.lt_of_lt_of_le hz0 hb.size; have hz1 := Nat.lt_of_lt_of_le hz1 hb.size; have hzX16 := Nat.lt_of_lt_of_le hzX16 hb.size; have HB := Lib.hid (HB.out.trans (hb.mono HB.out.size)); clear X5c0 X5c1 X5c2 X5c3 X5c4 X6c0 X6c1 X16c0 X16c1; have X5c0 := (k.cell_of X5.out (i := 0) rfl).1; have X5c1 := (k.cell_of X5.out (i := 1) rfl).1; have X5c2 := (k.cell_of X5.out (i := 2) rfl).1; have X5c3 := (k.cell_of X5.out (i := 3) rfl).1; have X5c4 := (k.cell_of X5.out (i := 4) rfl).1; have X6c0 := (k.cell_of X6.out (i := 0) rfl).1; have X6c1 := (k.cell_of X6.out (i := 1) rfl).1; have X16c0 := (k.cell_of X16.out (i := 0) rfl).1; have X16c1 := (k.cell_of X16.out (i := 1) rfl).1; clear hb))
                  clear X5c0 X5c1 X5c2 X5c3 X5c4 X6c0 X6c1 X16c0 X16c1
                  obtain ⟨a0, f0, a1, f1, _⟩ := X6.out
                  obtain ⟨k0, _, k1, _, _⟩ := X16.out
                  go_wp2
                  obtain ⟨r1, r2, r3⟩ := X6.out.puts (us := [.int .i64 p2, .int .i64 x]) rfl
                  have hz5 : w.heap.size + 1 < (k.puts v44 (w.heap.size + 1) 0 [.int .i64 p2, .int .i64 x]).heap.size := by rw [r2]; exact hz1
                  have r5 : k.Box (k.puts v44 (w.heap.size + 1) 0 [.int .i64 p2, .int .i64 x]) w.heap.size 0 [.int .i64 V, .int .i64 A, .int .i64 D, .int .i64 lo, .int .i64 hi] := X5.out.below (r3 (w.heap.size + 1) (Nat.le_refl _)) (Nat.lt_succ_self _)
                  go_roundw
                  case measure => simp [intOf]; omega
                  case rel => exact ⟨q + 1, p2, x, hlt, by omega, rfl, HN.out, r5, r1, HB.out.trans (r3 w.heap.size (Nat.le_succ _)), hz5⟩
              · obtain ⟨rfl, rfl⟩ := k1 rfl
                go_upto_region 17 with (go_at_call 12; ((with_reducible refine (HS2.out _).mono ?_); rintro e v44 ⟨rfl, hb⟩; have X5 := Lib.hid (X5.out.below hb hz0); have X6 := Lib.hid (X6.out.below hb hz1); have X16 := Lib.hid (X16.out.below hb hzX16); have hz0 := Nat.lt_of_lt_of_le hz0 hb.size; have hz1 := Nat.lt_of_lt_of_le hz1 hb.size; have hzX16 := Nat.lt_of_lt_of_le hzX16 hb.size; have HB := Lib.hid (HB.out.trans (hb.mono HB.out.size)); clear X5c0 X5c1 X5c2 X5c3 X5c4 X6c0 X6c1 X16c0 X16c1; have X5c0 := (k.cell_of X5.out (i := 0) rfl).1; have X5c1 := (k.cell_of X5.out (i := 1) rfl).1; have X5c2 := (k.cell_of X5.out (i := 2) rfl).1; have X5c3 := (k.cell_of X5.out (i := 3) rfl).1; have X5c4 := (k.cell_of X5.out (i := 4) rfl).1; have X6c0 := (k.cell_of X6.out (i := 0) rfl).1; have X6c1 := (k.cell_of X6.out (i := 1) rfl).1; have X16c0 := (k.cell_of X16.out (i := 0) rfl).1; have X16c1 := (k.cell_of X16.out (i := 1) rfl).1; clear hb))
                clear X5c0 X5c1 X5c2 X5c3 X5c4 X6c0 X6c1 X16c0 X16c1
                obtain ⟨a0, f0, a1, f1, _⟩ := X6.out
                obtain ⟨k0, _, k1, _, _⟩ := X16.out
                go_wp2
                obtain ⟨r1, r2, r3⟩ := X6.out.puts (us := [.int .i64 p2, .int .i64 x]) rfl
                have hz5 : w.heap.size + 1 < (k.puts v44 (w.heap.size + 1) 0 [.int .i64 p2, .int .i64 x]).heap.size := by rw [r2]; exact hz1
                have r5 : k.Box (k.puts v44 (w.heap.size + 1) 0 [.int .i64 p2, .int .i64 x]) w.heap.size 0 [.int .i64 V, .int .i64 A, .int .i64 D, .int .i64 lo, .int .i64 hi] := X5.out.below (r3 (w.heap.size + 1) (Nat.le_refl _)) (Nat.lt_succ_self _)
                go_roundw
                case measure => simp [intOf]; omega
                case rel => exact ⟨q + 1, p2, x, hlt, by omega, rfl, HN.out, r5, r1, HB.out.trans (r3 w.heap.size (Nat.le_succ _)), hz5⟩
            · have i0 : (q : Int) < (len : Int) := by omega
              have i1 : decide ((q : Int) < 300) = false := decide_eq_false (by omega)
              go_wp2
              go_ret
              exact ⟨rfl, HB.out⟩
          · have i0 : decide ((q : Int) < (len : Int)) = false := decide_eq_false (by omega)
            go_wp2
            go_ret
            exact ⟨rfl, HB.out⟩
    · have HS1 : Hid (∀ W, Calls Try.prog 12 #[.agg #[.int .i64 V, .int .i64 A, .int .i64 D, .int .i64 lo, .int .i64 hi], .agg #[.int .i64 p0, .int .i64 v0]] W fun e w' => e = .returned (.bool false) ∧ Below W.heap.size W w') := Lib.hid fun W => by have h := HS.out p0 v0 hp0 hv0 W; rw [gn.safe_no fun hh => hs hh.2] at h; exact h
      go_enter Try.func4, Try.ntmps4
      go_upto_region 3 with (go_at_call 6; ((with_reducible refine (HK.out _).mono ?_); rintro e v1 ⟨rfl, hb⟩; obtain ⟨hx0, hx1, hbb, hz1⟩ := k.boxes2 hb; have hz0 : w.heap.size < v1.heap.size := (by omega); have X5 := Lib.hid hx0; have X6 := Lib.hid hx1; have HB := Lib.hid hbb; clear hbb hx0 hx1; have X5c0 := (k.cell_of X5.out (i := 0) rfl).1; have X5c1 := (k.cell_of X5.out (i := 1) rfl).1; have X5c2 := (k.cell_of X5.out (i := 2) rfl).1; have X5c3 := (k.cell_of X5.out (i := 3) rfl).1; have X5c4 := (k.cell_of X5.out (i := 4) rfl).1; have X6c0 := (k.cell_of X6.out (i := 0) rfl).1; have X6c1 := (k.cell_of X6.out (i := 1) rfl).1; clear hb))
      go_wp2_with (first | (go_at_call 11; ((with_reducible refine (HR1.out _).mono ?_); rintro e v2 ⟨rfl, hb⟩; have X5 := Lib.hid (X5.out.below hb hz0); have X6 := Lib.hid (X6.out.below hb hz1); have hz0 := Nat.lt_of_lt_of_le hz0 hb.size; have hz1 := Nat.lt_of_lt_of_le hz1 hb.size; have HB := Lib.hid (HB.out.trans (hb.mono HB.out.size)); clear X5c0 X5c1 X5c2 X5c3 X5c4 X6c0 X6c1; have X5c0 := (k.cell_of X5.out (i := 0) rfl).1; have X5c1 := (k.cell_of X5.out (i := 1) rfl).1; have X5c2 := (k.cell_of X5.out (i := 2) rfl).1; have X5c3 := (k.cell_of X5.out (i := 3) rfl).1; have X5c4 := (k.cell_of X5.out (i := 4) rfl).1; have X6c0 := (k.cell_of X6.out (i := 0) rfl).1; have X6c1 := (k.cell_of X6.out (i := 1) rfl).1; clear hb)) | (go_at_call 12; ((with_reducible refine (HS1.out _).mono ?_); rintro e v3 ⟨rfl, hb⟩; have X5 := Lib.hid (X5.out.below hb hz0); have X6 := Lib.hid (X6.out.below hb hz1); have hz0 := Nat.lt_of_lt_of_le hz0 hb.size; have hz1 := Nat.lt_of_lt_of_le hz1 hb.size; have HB := Lib.hid (HB.out.trans (hb.mono HB.out.size)); clear X5c0 X5c1 X5c2 X5c3 X5c4 X6c0 X6c1; have X5c0 := (k.cell_of X5.out (i := 0) rfl).1; have X5c1 := (k.cell_of X5.out (i := 1) rfl).1; have X5c2 := (k.cell_of X5.out (i := 2) rfl).1; have X5c3 := (k.cell_of X5.out (i := 3) rfl).1; have X5c4 := (k.cell_of X5.out (i := 4) rfl).1; have X6c0 := (k.cell_of X6.out (i := 0) rfl).1; have X6c1 := (k.cell_of X6.out (i := 1) rfl).1; clear hb)))
      go_ret
      exact ⟨rfl, HB.out⟩
  · have HR1 : Hid (∀ W, Calls Try.prog 11 #[.agg #[.int .i64 V, .int .i64 A, .int .i64 D, .int .i64 lo, .int .i64 hi]] W fun e w' => e = .returned (.bool false) ∧ Below W.heap.size W w') := Lib.hid fun W => by have h := HR.out W; rw [gn.right_no hr] at h; exact h
    go_enter Try.func4, Try.ntmps4
    go_upto_region 3 with (go_at_call 6; ((with_reducible refine (HK.out _).mono ?_); rintro e v1 ⟨rfl, hb⟩; obtain ⟨hx0, hx1, hbb, hz1⟩ := k.boxes2 hb; have hz0 : w.heap.size < v1.heap.size := (by omega); have X5 := Lib.hid hx0; have X6 := Lib.hid hx1; have HB := Lib.hid hbb; clear hbb hx0 hx1; have X5c0 := (k.cell_of X5.out (i := 0) rfl).1; have X5c1 := (k.cell_of X5.out (i := 1) rfl).1; have X5c2 := (k.cell_of X5.out (i := 2) rfl).1; have X5c3 := (k.cell_of X5.out (i := 3) rfl).1; have X5c4 := (k.cell_of X5.out (i := 4) rfl).1; have X6c0 := (k.cell_of X6.out (i := 0) rfl).1; have X6c1 := (k.cell_of X6.out (i := 1) rfl).1; clear hb))
    go_wp2_with (go_at_call 11; ((with_reducible refine (HR1.out _).mono ?_); rintro e v2 ⟨rfl, hb⟩; have X5 := Lib.hid (X5.out.below hb hz0); have X6 := Lib.hid (X6.out.below hb hz1); have hz0 := Nat.lt_of_lt_of_le hz0 hb.size; have hz1 := Nat.lt_of_lt_of_le hz1 hb.size; have HB := Lib.hid (HB.out.trans (hb.mono HB.out.size)); clear X5c0 X5c1 X5c2 X5c3 X5c4 X6c0 X6c1; have X5c0 := (k.cell_of X5.out (i := 0) rfl).1; have X5c1 := (k.cell_of X5.out (i := 1) rfl).1; have X5c2 := (k.cell_of X5.out (i := 2) rfl).1; have X5c3 := (k.cell_of X5.out (i := 3) rfl).1; have X5c4 := (k.cell_of X5.out (i := 4) rfl).1; have X6c0 := (k.cell_of X6.out (i := 0) rfl).1; have X6c1 := (k.cell_of X6.out (i := 1) rfl).1; clear hb))
    go_ret
    exact ⟨rfl, HB.out⟩
end Go.Proofs.Ytaohidaijlcplaa.gearKeeps
