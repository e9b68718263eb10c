/- What servitorref14's Place and Want answer: the document's; what was in memory is as it was. No condition beyond what each line says. -/
import Derived.Test.YtaohidaijlcplaaGxMath
import Derived.Test.YtaohidaijlcplaaRMulDiv
import Derived.Test.YtaohidaijlcplaaGStep
namespace Go.Proofs.Ytaohidaijlcplaa.gx
open Go.ChangeShapes Go.WideShapes Go.ChangeAt Go.RowKit Go.Proofs.Ytaohidaijlcplaa.k Go.Proofs.Ytaohidaijlcplaa.b Go.Proofs.Ytaohidaijlcplaa.gn
set_option linter.unusedVariables false

theorem rm_yes {x : Int} (h : InR x) : q.rm x = true := decide_eq_true h
theorem rm_no {x : Int} (h : ¬ InR x) : q.rm x = false := decide_eq_false h
theorem rv_yes {x : Int} (h : InR x) : q.rv x = x := if_pos (rm_yes h)
theorem rv_no {x : Int} (h : ¬ InR x) : q.rv x = 0 := if_neg (by rw [rm_no h]; decide)
theorem md_yes {a b c : Int} (hc : 1 ≤ c) (h : InR (a * b / c)) : q.mdV a b c = a * b / c ∧ q.mdE a b c = 0 := by
  unfold q.mdV q.mdE
  rw [if_neg (by omega), if_neg (by omega), if_neg (by omega), if_pos (rm_yes h), rv_yes h]
  exact ⟨rfl, rfl⟩
theorem md_no {a b c : Int} (hc : 1 ≤ c) (h : ¬ InR (a * b / c)) : q.mdV a b c = 0 ∧ q.mdE a b c = 2 := by
  unfold q.mdV q.mdE
  rw [if_neg (by omega), if_neg (by omega), if_neg (by omega), if_neg (by rw [rm_no h]; decide), rv_no h]
  exact ⟨rfl, rfl⟩
theorem refplace_any (s f m n d : Int) (hs : InR s) (hf : InR f) (hm : InR m) (hn : InR n) (hd : InR d) (w : World) : Calls Try.prog 8 #[.int .i64 s, .int .i64 f, .int .i64 m, .int .i64 n, .int .i64 d] w fun e w' => e = .returned (.tuple #[.int .i64 (plV s f m n d), .bool (plB s f m n d)]) ∧ Below w.heap.size w w' := by
  have HB := Lib.hid (Below.refl w.heap.size w)
  by_cases h1 : 1 ≤ d
  · have h1b : decide (d < 1) = false := decide_eq_false (by omega)
    by_cases h2 : InR (m - f)
    · have c1 := fun W => r.rsub_any m f hm.1 hm.2 hf.1 hf.2 W
      rw [show q.subV m f = m - f from rv_yes h2, show q.subB m f = true from rm_yes h2] at c1
      have C1 := Lib.hid c1
      by_cases h3 : InR ((m - f) * n / d)
      · have c2 := fun W => r.rmuldiv_any (m - f) n d h2.1 h2.2 hn.1 hn.2 hd.1 hd.2 W
        rw [(md_yes h1 h3).1, (md_yes h1 h3).2] at c2
        have C2 := Lib.hid c2
        by_cases h4 : InR (s + (m - f) * n / d)
        · have c3 := fun W => r.radd_any s ((m - f) * n / d) hs.1 hs.2 h3.1 h3.2 W
          rw [show q.addV s ((m - f) * n / d) = s + (m - f) * n / d from rv_yes h4, show q.addB s ((m - f) * n / d) = true from rm_yes h4] at c3
          have C3 := Lib.hid c3
          rw [plV_yes ⟨h1, h2, h3, h4⟩, plB_yes ⟨h1, h2, h3, h4⟩]
          clear c1 c2 c3 h2 h3 h4
          generalize s + (m - f) * n / d = x at *
          generalize (m - f) * n / d = z at *
          generalize m - f = y at *
          go_enter Try.func8, Try.ntmps8
          go_wp2_with (first | (go_at_call 17; ((with_reducible refine (C1.out _).mono ?_); rintro e w1 ⟨rfl, hb⟩; have HB := Lib.hid (HB.out.trans (hb.mono HB.out.size)); clear hb)) | (go_at_call 18; ((with_reducible refine (C2.out _).mono ?_); rintro e w2 ⟨rfl, hb⟩; have HB := Lib.hid (HB.out.trans (hb.mono HB.out.size)); clear hb)) | (go_at_call 19; ((with_reducible refine (C3.out _).mono ?_); rintro e w3 ⟨rfl, hb⟩; have HB := Lib.hid (HB.out.trans (hb.mono HB.out.size)); clear hb)))
          go_ret2
          exact ⟨rfl, HB.out⟩
        · have c3 := fun W => r.radd_any s ((m - f) * n / d) hs.1 hs.2 h3.1 h3.2 W
          rw [show q.addV s ((m - f) * n / d) = 0 from rv_no h4, show q.addB s ((m - f) * n / d) = false from rm_no h4] at c3
          have C3 := Lib.hid c3
          have hno : ¬ PlaceP s f m n d := fun h => h4 h.2.2.2
          rw [plV_no hno, plB_no hno]
          clear c1 c2 c3 h2 h3 h4 hno
          generalize (m - f) * n / d = z at *
          generalize m - f = y at *
          go_enter Try.func8, Try.ntmps8
          go_wp2_with (first | (go_at_call 17; ((with_reducible refine (C1.out _).mono ?_); rintro e w1 ⟨rfl, hb⟩; have HB := Lib.hid (HB.out.trans (hb.mono HB.out.size)); clear hb)) | (go_at_call 18; ((with_reducible refine (C2.out _).mono ?_); rintro e w2 ⟨rfl, hb⟩; have HB := Lib.hid (HB.out.trans (hb.mono HB.out.size)); clear hb)) | (go_at_call 19; ((with_reducible refine (C3.out _).mono ?_); rintro e w3 ⟨rfl, hb⟩; have HB := Lib.hid (HB.out.trans (hb.mono HB.out.size)); clear hb)))
          go_ret2
          exact ⟨rfl, HB.out⟩
      · have c2 := fun W => r.rmuldiv_any (m - f) n d h2.1 h2.2 hn.1 hn.2 hd.1 hd.2 W
        rw [(md_no h1 h3).1, (md_no h1 h3).2] at c2
        have C2 := Lib.hid c2
        have hno : ¬ PlaceP s f m n d := fun h => h3 h.2.2.1
        rw [plV_no hno, plB_no hno]
        clear c1 c2 h2 h3 hno
        generalize m - f = y at *
        go_enter Try.func8, Try.ntmps8
        go_wp2_with (first | (go_at_call 17; ((with_reducible refine (C1.out _).mono ?_); rintro e w1 ⟨rfl, hb⟩; have HB := Lib.hid (HB.out.trans (hb.mono HB.out.size)); clear hb)) | (go_at_call 18; ((with_reducible refine (C2.out _).mono ?_); rintro e w2 ⟨rfl, hb⟩; have HB := Lib.hid (HB.out.trans (hb.mono HB.out.size)); clear hb)))
        go_ret2
        exact ⟨rfl, HB.out⟩
    · have c1 := fun W => r.rsub_any m f hm.1 hm.2 hf.1 hf.2 W
      rw [show q.subV m f = 0 from rv_no h2, show q.subB m f = false from rm_no h2] at c1
      have C1 := Lib.hid c1
      have hno : ¬ PlaceP s f m n d := fun h => h2 h.2.1
      rw [plV_no hno, plB_no hno]
      clear c1 h2 hno
      go_enter Try.func8, Try.ntmps8
      go_wp2_with (first | (go_at_call 17; ((with_reducible refine (C1.out _).mono ?_); rintro e w1 ⟨rfl, hb⟩; have HB := Lib.hid (HB.out.trans (hb.mono HB.out.size)); clear hb)))
      go_ret2
      exact ⟨rfl, HB.out⟩
  · have h1b : decide (d < 1) = true := decide_eq_true (by omega)
    have hno : ¬ PlaceP s f m n d := fun h => h1 h.1
    rw [plV_no hno, plB_no hno]
    clear hno h1
    go_enter Try.func8, Try.ntmps8
    go_wp2
    go_ret2
    exact ⟨rfl, HB.out⟩
set_option maxHeartbeats 2000000 in
theorem refwant_any (V A D lo hi p v : Int) (hp : InR p) (hv : InR v) (s f m n d : Int) (hs : InR s) (hf : InR f) (hm : InR m) (hn : InR n) (hd : InR d) (w : World) : Calls Try.prog 10 #[.agg #[.int .i64 V, .int .i64 A, .int .i64 D, .int .i64 lo, .int .i64 hi], .agg #[.int .i64 p, .int .i64 v], .int .i64 s, .int .i64 f, .int .i64 m, .int .i64 n, .int .i64 d] w fun e w' => e = .returned (.tuple #[.int .i64 (wantV p s f m n d), .bool (wantB ⟨V, A, D, lo, hi⟩ p v s f m n d)]) ∧ Below w.heap.size w w' := by
  have hP := plV_in s f m n d
  have C1 := Lib.hid fun W => refplace_any s f m n d hs hf hm hn hd W
  by_cases hpl : PlaceP s f m n d
  · rw [plB_yes hpl] at C1
    by_cases hr : InR (plV s f m n d - p)
    · have hw : WantP p s f m n d := ⟨hpl, hr⟩
      rw [show wantV p s f m n d = plV s f m n d - p from if_pos hw, show wantB ⟨V, A, D, lo, hi⟩ p v s f m n d = (decide (loV ⟨V, A, D, lo, hi⟩ p v ≤ plV s f m n d - p) && decide (plV s f m n d - p ≤ hiV ⟨V, A, D, lo, hi⟩ p v)) from if_pos hw]
      clear hw hpl
      generalize plV s f m n d = P at *
      have C2 : Hid (∀ W, Calls Try.prog 17 #[.int .i64 P, .int .i64 p] W fun e w' => e = .returned (.tuple #[.int .i64 (P - p), .bool true]) ∧ Below W.heap.size W w') := Lib.hid fun W => by have h := r.rsub_any P p hP.1 hP.2 hp.1 hp.2 W; rw [show q.subV P p = (P - p) from rv_yes hr, show q.subB P p = true from rm_yes hr] at h; exact h
      generalize P - p = y at *
      clear hr hP
      have HR : Hid (∀ W, Calls Try.prog 21 #[.agg #[.int .i64 V, .int .i64 A, .int .i64 D, .int .i64 lo, .int .i64 hi]] W fun e w' => e = .returned (.bool (rightL ⟨V, A, D, lo, hi⟩)) ∧ Below W.heap.size W w') := Lib.hid fun W => by exact refright_any ⟨V, A, D, lo, hi⟩ W
      by_cases h1 : RightL ⟨V, A, D, lo, hi⟩
      · rw [right_yes h1] at HR
        by_cases h2 : SafeP ⟨V, A, D, lo, hi⟩ p v
        · rw [show loV ⟨V, A, D, lo, hi⟩ p v = mayLo ⟨V, A, D, lo, hi⟩ p v from if_pos ⟨h1, h2⟩, show hiV ⟨V, A, D, lo, hi⟩ p v = mayHi ⟨V, A, D, lo, hi⟩ p v from if_pos ⟨h1, h2⟩]
          have HS : Hid (∀ W, Calls Try.prog 22 #[.agg #[.int .i64 V, .int .i64 A, .int .i64 D, .int .i64 lo, .int .i64 hi], .agg #[.int .i64 p, .int .i64 v]] W fun e w' => e = .returned (.bool true) ∧ Below W.heap.size W w') := Lib.hid fun W => by have h := refsafe_any ⟨V, A, D, lo, hi⟩ h1 p v hp hv W; rw [safe_yes h1 h2] at h; exact h
          have hmay := fun W => refmay_any ⟨V, A, D, lo, hi⟩ h1 p v h2 W
          generalize mayLo ⟨V, A, D, lo, hi⟩ p v = a at *
          generalize mayHi ⟨V, A, D, lo, hi⟩ p v = z at *
          have HM := Lib.hid hmay
          clear hmay h1 h2
          go_enter Try.func10, Try.ntmps10
          go_upto_region 2 with (go_at_call 8; ((with_reducible refine (C1.out _).mono ?_); rintro e v1 ⟨rfl, hb⟩; obtain ⟨hx0, hx1, hbb, hz1⟩ := k.boxes2 hb; have hz0 : w.heap.size < v1.heap.size := (by omega); have X7 := Lib.hid hx0; have X8 := Lib.hid hx1; have HB := Lib.hid hbb; clear hbb hx0 hx1; have X7c0 := (k.cell_of X7.out (i := 0) rfl).1; have X7c1 := (k.cell_of X7.out (i := 1) rfl).1; have X7c2 := (k.cell_of X7.out (i := 2) rfl).1; have X7c3 := (k.cell_of X7.out (i := 3) rfl).1; have X7c4 := (k.cell_of X7.out (i := 4) rfl).1; have X8c0 := (k.cell_of X8.out (i := 0) rfl).1; have X8c1 := (k.cell_of X8.out (i := 1) rfl).1; clear hb))
          go_upto_region 3 with (go_at_call 17; ((with_reducible refine (C2.out _).mono ?_); rintro e v2 ⟨rfl, hb⟩; have X7 := Lib.hid (X7.out.below hb hz0); have X8 := Lib.hid (X8.out.below hb hz1); have hz0 := Nat.lt_of_lt_of_le hz0 hb.size; have hz1 := Nat.lt_of_lt_of_le hz1 hb.size; have HB := Lib.hid (HB.out.trans (hb.mono HB.out.size)); clear X7c0 X7c1 X7c2 X7c3 X7c4 X8c0 X8c1; have X7c0 := (k.cell_of X7.out (i := 0) rfl).1; have X7c1 := (k.cell_of X7.out (i := 1) rfl).1; have X7c2 := (k.cell_of X7.out (i := 2) rfl).1; have X7c3 := (k.cell_of X7.out (i := 3) rfl).1; have X7c4 := (k.cell_of X7.out (i := 4) rfl).1; have X8c0 := (k.cell_of X8.out (i := 0) rfl).1; have X8c1 := (k.cell_of X8.out (i := 1) rfl).1; clear hb))
          go_upto_region 8 with (first | (go_at_call 21; ((with_reducible refine (HR.out _).mono ?_); rintro e v3 ⟨rfl, hb⟩; have X7 := Lib.hid (X7.out.below hb hz0); have X8 := Lib.hid (X8.out.below hb hz1); have hz0 := Nat.lt_of_lt_of_le hz0 hb.size; have hz1 := Nat.lt_of_lt_of_le hz1 hb.size; have HB := Lib.hid (HB.out.trans (hb.mono HB.out.size)); clear X7c0 X7c1 X7c2 X7c3 X7c4 X8c0 X8c1; have X7c0 := (k.cell_of X7.out (i := 0) rfl).1; have X7c1 := (k.cell_of X7.out (i := 1) rfl).1; have X7c2 := (k.cell_of X7.out (i := 2) rfl).1; have X7c3 := (k.cell_of X7.out (i := 3) rfl).1; have X7c4 := (k.cell_of X7.out (i := 4) rfl).1; have X8c0 := (k.cell_of X8.out (i := 0) rfl).1; have X8c1 := (k.cell_of X8.out (i := 1) rfl).1; clear hb)) | (go_at_call 22; ((with_reducible refine (HS.out _).mono ?_); rintro e v4 ⟨rfl, hb⟩; have X7 := Lib.hid (X7.out.below hb hz0); have X8 := Lib.hid (X8.out.below hb hz1); have hz0 := Nat.lt_of_lt_of_le hz0 hb.size; have hz1 := Nat.lt_of_lt_of_le hz1 hb.size; have HB := Lib.hid (HB.out.trans (hb.mono HB.out.size)); clear X7c0 X7c1 X7c2 X7c3 X7c4 X8c0 X8c1; have X7c0 := (k.cell_of X7.out (i := 0) rfl).1; have X7c1 := (k.cell_of X7.out (i := 1) rfl).1; have X7c2 := (k.cell_of X7.out (i := 2) rfl).1; have X7c3 := (k.cell_of X7.out (i := 3) rfl).1; have X7c4 := (k.cell_of X7.out (i := 4) rfl).1; have X8c0 := (k.cell_of X8.out (i := 0) rfl).1; have X8c1 := (k.cell_of X8.out (i := 1) rfl).1; clear hb)) | (go_at_call 23; ((with_reducible refine (HM.out _).mono ?_); rintro e v5 ⟨rfl, hb⟩; have X7 := Lib.hid (X7.out.below hb hz0); have X8 := Lib.hid (X8.out.below hb hz1); have hz0 := Nat.lt_of_lt_of_le hz0 hb.size; have hz1 := Nat.lt_of_lt_of_le hz1 hb.size; have HB := Lib.hid (HB.out.trans (hb.mono HB.out.size)); clear X7c0 X7c1 X7c2 X7c3 X7c4 X8c0 X8c1; have X7c0 := (k.cell_of X7.out (i := 0) rfl).1; have X7c1 := (k.cell_of X7.out (i := 1) rfl).1; have X7c2 := (k.cell_of X7.out (i := 2) rfl).1; have X7c3 := (k.cell_of X7.out (i := 3) rfl).1; have X7c4 := (k.cell_of X7.out (i := 4) rfl).1; have X8c0 := (k.cell_of X8.out (i := 0) rfl).1; have X8c1 := (k.cell_of X8.out (i := 1) rfl).1; clear hb)))
          by_cases q1 : a ≤ y
          · have q1b : decide (a ≤ y) = true := decide_eq_true q1
            by_cases q2 : y ≤ z
            · have q2b : decide (y ≤ z) = true := decide_eq_true q2
              have HV : Hid ((decide (a ≤ y) && decide (y ≤ z)) = true) := Lib.hid (by rw [q1b, q2b]; rfl)
              skip
              go_wp2
              go_ret2
              exact ⟨by first | rfl | (rw [HV.out]; rfl) | (rw [HV.out]), HB.out⟩
            · have q2b : decide (y ≤ z) = false := decide_eq_false q2
              have HV : Hid ((decide (a ≤ y) && decide (y ≤ z)) = false) := Lib.hid (by rw [q1b, q2b]; rfl)
              skip
              go_wp2
              go_ret2
              exact ⟨by first | rfl | (rw [HV.out]; rfl) | (rw [HV.out]), HB.out⟩
          · have q1b : decide (a ≤ y) = false := decide_eq_false q1
            have HV : Hid ((decide (a ≤ y) && decide (y ≤ z)) = false) := Lib.hid (by rw [q1b]; rfl)
            skip
            go_wp2
            go_ret2
            exact ⟨by first | rfl | (rw [HV.out]; rfl) | (rw [HV.out]), HB.out⟩
        · rw [show loV ⟨V, A, D, lo, hi⟩ p v = 0 from if_neg fun h => h2 h.2, show hiV ⟨V, A, D, lo, hi⟩ p v = 0 from if_neg fun h => h2 h.2]
          have HS : Hid (∀ W, Calls Try.prog 22 #[.agg #[.int .i64 V, .int .i64 A, .int .i64 D, .int .i64 lo, .int .i64 hi], .agg #[.int .i64 p, .int .i64 v]] W fun e w' => e = .returned (.bool false) ∧ Below W.heap.size W w') := Lib.hid fun W => by have h := refsafe_any ⟨V, A, D, lo, hi⟩ h1 p v hp hv W; rw [safe_no fun hh => h2 hh.2] at h; exact h
          clear h1 h2
          go_enter Try.func10, Try.ntmps10
          go_upto_region 2 with (go_at_call 8; ((with_reducible refine (C1.out _).mono ?_); rintro e v1 ⟨rfl, hb⟩; obtain ⟨hx0, hx1, hbb, hz1⟩ := k.boxes2 hb; have hz0 : w.heap.size < v1.heap.size := (by omega); have X7 := Lib.hid hx0; have X8 := Lib.hid hx1; have HB := Lib.hid hbb; clear hbb hx0 hx1; have X7c0 := (k.cell_of X7.out (i := 0) rfl).1; have X7c1 := (k.cell_of X7.out (i := 1) rfl).1; have X7c2 := (k.cell_of X7.out (i := 2) rfl).1; have X7c3 := (k.cell_of X7.out (i := 3) rfl).1; have X7c4 := (k.cell_of X7.out (i := 4) rfl).1; have X8c0 := (k.cell_of X8.out (i := 0) rfl).1; have X8c1 := (k.cell_of X8.out (i := 1) rfl).1; clear hb))
          go_upto_region 3 with (go_at_call 17; ((with_reducible refine (C2.out _).mono ?_); rintro e v2 ⟨rfl, hb⟩; have X7 := Lib.hid (X7.out.below hb hz0); have X8 := Lib.hid (X8.out.below hb hz1); have hz0 := Nat.lt_of_lt_of_le hz0 hb.size; have hz1 := Nat.lt_of_lt_of_le hz1 hb.size; have HB := Lib.hid (HB.out.trans (hb.mono HB.out.size)); clear X7c0 X7c1 X7c2 X7c3 X7c4 X8c0 X8c1; have X7c0 := (k.cell_of X7.out (i := 0) rfl).1; have X7c1 := (k.cell_of X7.out (i := 1) rfl).1; have X7c2 := (k.cell_of X7.out (i := 2) rfl).1; have X7c3 := (k.cell_of X7.out (i := 3) rfl).1; have X7c4 := (k.cell_of X7.out (i := 4) rfl).1; have X8c0 := (k.cell_of X8.out (i := 0) rfl).1; have X8c1 := (k.cell_of X8.out (i := 1) rfl).1; clear hb))
          go_upto_region 8 with (first | (go_at_call 21; ((with_reducible refine (HR.out _).mono ?_); rintro e v3 ⟨rfl, hb⟩; have X7 := Lib.hid (X7.out.below hb hz0); have X8 := Lib.hid (X8.out.below hb hz1); have hz0 := Nat.lt_of_lt_of_le hz0 hb.size; have hz1 := Nat.lt_of_lt_of_le hz1 hb.size; have HB := Lib.hid (HB.out.trans (hb.mono HB.out.size)); clear X7c0 X7c1 X7c2 X7c3 X7c4 X8c0 X8c1; have X7c0 := (k.cell_of X7.out (i := 0) rfl).1; have X7c1 := (k.cell_of X7.out (i := 1) rfl).1; have X7c2 := (k.cell_of X7.out (i := 2) rfl).1; have X7c3 := (k.cell_of X7.out (i := 3) rfl).1; have X7c4 := (k.cell_of X7.out (i := 4) rfl).1; have X8c0 := (k.cell_of X8.out (i := 0) rfl).1; have X8c1 := (k.cell_of X8.out (i := 1) rfl).1; clear hb)) | (go_at_call 22; ((with_reducible refine (HS.out _).mono ?_); rintro e v4 ⟨rfl, hb⟩; have X7 := Lib.hid (X7.out.below hb hz0); have X8 := Lib.hid (X8.out.below hb hz1); have hz0 := Nat.lt_of_lt_of_le hz0 hb.size; have hz1 := Nat.lt_of_lt_of_le hz1 hb.size; have HB := Lib.hid (HB.out.trans (hb.mono HB.out.size)); clear X7c0 X7c1 X7c2 X7c3 X7c4 X8c0 X8c1; have X7c0 := (k.cell_of X7.out (i := 0) rfl).1; have X7c1 := (k.cell_of X7.out (i := 1) rfl).1; have X7c2 := (k.cell_of X7.out (i := 2) rfl).1; have X7c3 := (k.cell_of X7.out (i := 3) rfl).1; have X7c4 := (k.cell_of X7.out (i := 4) rfl).1; have X8c0 := (k.cell_of X8.out (i := 0) rfl).1; have X8c1 := (k.cell_of X8.out (i := 1) rfl).1; clear hb)))
          by_cases q1 : 0 ≤ y
          · have q1b : decide (0 ≤ y) = true := decide_eq_true q1
            by_cases q2 : y ≤ 0
            · have q2b : decide (y ≤ 0) = true := decide_eq_true q2
              have HV : Hid ((decide (0 ≤ y) && decide (y ≤ 0)) = true) := Lib.hid (by rw [q1b, q2b]; rfl)
              skip
              go_wp2
              go_ret2
              exact ⟨by first | rfl | (rw [HV.out]; rfl) | (rw [HV.out]), HB.out⟩
            · have q2b : decide (y ≤ 0) = false := decide_eq_false q2
              have HV : Hid ((decide (0 ≤ y) && decide (y ≤ 0)) = false) := Lib.hid (by rw [q1b, q2b]; rfl)
              skip
              go_wp2
              go_ret2
              exact ⟨by first | rfl | (rw [HV.out]; rfl) | (rw [HV.out]), HB.out⟩
          · have q1b : decide (0 ≤ y) = false := decide_eq_false q1
            have HV : Hid ((decide (0 ≤ y) && decide (y ≤ 0)) = false) := Lib.hid (by rw [q1b]; rfl)
            skip
            go_wp2
            go_ret2
            exact ⟨by first | rfl | (rw [HV.out]; rfl) | (rw [HV.out]), HB.out⟩
      · rw [show loV ⟨V, A, D, lo, hi⟩ p v = 0 from if_neg fun h => h1 h.1, show hiV ⟨V, A, D, lo, hi⟩ p v = 0 from if_neg fun h => h1 h.1]
        rw [right_no h1] at HR
        clear h1
        go_enter Try.func10, Try.ntmps10
        go_upto_region 2 with (go_at_call 8; ((with_reducible refine (C1.out _).mono ?_); rintro e v1 ⟨rfl, hb⟩; obtain ⟨hx0, hx1, hbb, hz1⟩ := k.boxes2 hb; have hz0 : w.heap.size < v1.heap.size := (by omega); have X7 := Lib.hid hx0; have X8 := Lib.hid hx1; have HB := Lib.hid hbb; clear hbb hx0 hx1; have X7c0 := (k.cell_of X7.out (i := 0) rfl).1; have X7c1 := (k.cell_of X7.out (i := 1) rfl).1; have X7c2 := (k.cell_of X7.out (i := 2) rfl).1; have X7c3 := (k.cell_of X7.out (i := 3) rfl).1; have X7c4 := (k.cell_of X7.out (i := 4) rfl).1; have X8c0 := (k.cell_of X8.out (i := 0) rfl).1; have X8c1 := (k.cell_of X8.out (i := 1) rfl).1; clear hb))
        go_upto_region 3 with (go_at_call 17; ((with_reducible refine (C2.out _).mono ?_); rintro e v2 ⟨rfl, hb⟩; have X7 := Lib.hid (X7.out.below hb hz0); have X8 := Lib.hid (X8.out.below hb hz1); have hz0 := Nat.lt_of_lt_of_le hz0 hb.size; have hz1 := Nat.lt_of_lt_of_le hz1 hb.size; have HB := Lib.hid (HB.out.trans (hb.mono HB.out.size)); clear X7c0 X7c1 X7c2 X7c3 X7c4 X8c0 X8c1; have X7c0 := (k.cell_of X7.out (i := 0) rfl).1; have X7c1 := (k.cell_of X7.out (i := 1) rfl).1; have X7c2 := (k.cell_of X7.out (i := 2) rfl).1; have X7c3 := (k.cell_of X7.out (i := 3) rfl).1; have X7c4 := (k.cell_of X7.out (i := 4) rfl).1; have X8c0 := (k.cell_of X8.out (i := 0) rfl).1; have X8c1 := (k.cell_of X8.out (i := 1) rfl).1; clear hb))
        go_upto_region 8 with (first | (go_at_call 21; ((with_reducible refine (HR.out _).mono ?_); rintro e v3 ⟨rfl, hb⟩; have X7 := Lib.hid (X7.out.below hb hz0); have X8 := Lib.hid (X8.out.below hb hz1); have hz0 := Nat.lt_of_lt_of_le hz0 hb.size; have hz1 := Nat.lt_of_lt_of_le hz1 hb.size; have HB := Lib.hid (HB.out.trans (hb.mono HB.out.size)); clear X7c0 X7c1 X7c2 X7c3 X7c4 X8c0 X8c1; have X7c0 := (k.cell_of X7.out (i := 0) rfl).1; have X7c1 := (k.cell_of X7.out (i := 1) rfl).1; have X7c2 := (k.cell_of X7.out (i := 2) rfl).1; have X7c3 := (k.cell_of X7.out (i := 3) rfl).1; have X7c4 := (k.cell_of X7.out (i := 4) rfl).1; have X8c0 := (k.cell_of X8.out (i := 0) rfl).1; have X8c1 := (k.cell_of X8.out (i := 1) rfl).1; clear hb)))
        by_cases q1 : 0 ≤ y
        · have q1b : decide (0 ≤ y) = true := decide_eq_true q1
          by_cases q2 : y ≤ 0
          · have q2b : decide (y ≤ 0) = true := decide_eq_true q2
            have HV : Hid ((decide (0 ≤ y) && decide (y ≤ 0)) = true) := Lib.hid (by rw [q1b, q2b]; rfl)
            skip
            go_wp2
            go_ret2
            exact ⟨by first | rfl | (rw [HV.out]; rfl) | (rw [HV.out]), HB.out⟩
          · have q2b : decide (y ≤ 0) = false := decide_eq_false q2
            have HV : Hid ((decide (0 ≤ y) && decide (y ≤ 0)) = false) := Lib.hid (by rw [q1b, q2b]; rfl)
            skip
            go_wp2
            go_ret2
            exact ⟨by first | rfl | (rw [HV.out]; rfl) | (rw [HV.out]), HB.out⟩
        · have q1b : decide (0 ≤ y) = false := decide_eq_false q1
          have HV : Hid ((decide (0 ≤ y) && decide (y ≤ 0)) = false) := Lib.hid (by rw [q1b]; rfl)
          skip
          go_wp2
          go_ret2
          exact ⟨by first | rfl | (rw [HV.out]; rfl) | (rw [HV.out]), HB.out⟩
    · have hno : ¬ WantP p s f m n d := fun h => hr h.2
      rw [show wantV p s f m n d = 0 from if_neg hno, show wantB ⟨V, A, D, lo, hi⟩ p v s f m n d = false from if_neg hno]
      clear hno hpl
      generalize plV s f m n d = P at *
      have C2 : Hid (∀ W, Calls Try.prog 17 #[.int .i64 P, .int .i64 p] W fun e w' => e = .returned (.tuple #[.int .i64 0, .bool false]) ∧ Below W.heap.size W w') := Lib.hid fun W => by have h := r.rsub_any P p hP.1 hP.2 hp.1 hp.2 W; rw [show q.subV P p = 0 from rv_no hr, show q.subB P p = false from rm_no hr] at h; exact h
      clear hr hP
      go_enter Try.func10, Try.ntmps10
      go_upto_region 2 with (go_at_call 8; ((with_reducible refine (C1.out _).mono ?_); rintro e v1 ⟨rfl, hb⟩; obtain ⟨hx0, hx1, hbb, hz1⟩ := k.boxes2 hb; have hz0 : w.heap.size < v1.heap.size := (by omega); have X7 := Lib.hid hx0; have X8 := Lib.hid hx1; have HB := Lib.hid hbb; clear hbb hx0 hx1; have X7c0 := (k.cell_of X7.out (i := 0) rfl).1; have X7c1 := (k.cell_of X7.out (i := 1) rfl).1; have X7c2 := (k.cell_of X7.out (i := 2) rfl).1; have X7c3 := (k.cell_of X7.out (i := 3) rfl).1; have X7c4 := (k.cell_of X7.out (i := 4) rfl).1; have X8c0 := (k.cell_of X8.out (i := 0) rfl).1; have X8c1 := (k.cell_of X8.out (i := 1) rfl).1; clear hb))
      go_upto_region 3 with (go_at_call 17; ((with_reducible refine (C2.out _).mono ?_); rintro e v2 ⟨rfl, hb⟩; have X7 := Lib.hid (X7.out.below hb hz0); have X8 := Lib.hid (X8.out.below hb hz1); have hz0 := Nat.lt_of_lt_of_le hz0 hb.size; have hz1 := Nat.lt_of_lt_of_le hz1 hb.size; have HB := Lib.hid (HB.out.trans (hb.mono HB.out.size)); clear X7c0 X7c1 X7c2 X7c3 X7c4 X8c0 X8c1; have X7c0 := (k.cell_of X7.out (i := 0) rfl).1; have X7c1 := (k.cell_of X7.out (i := 1) rfl).1; have X7c2 := (k.cell_of X7.out (i := 2) rfl).1; have X7c3 := (k.cell_of X7.out (i := 3) rfl).1; have X7c4 := (k.cell_of X7.out (i := 4) rfl).1; have X8c0 := (k.cell_of X8.out (i := 0) rfl).1; have X8c1 := (k.cell_of X8.out (i := 1) rfl).1; clear hb))
      go_wp2
      go_ret2
      exact ⟨rfl, HB.out⟩
  · rw [plB_no hpl] at C1
    have hno : ¬ WantP p s f m n d := fun h => hpl h.1
    rw [show wantV p s f m n d = 0 from if_neg hno, show wantB ⟨V, A, D, lo, hi⟩ p v s f m n d = false from if_neg hno]
    clear hno hpl
    generalize plV s f m n d = P at *
    have C2 := Lib.hid fun W => r.rsub_any P p hP.1 hP.2 hp.1 hp.2 W
    generalize q.subV P p = z1 at C2
    generalize q.subB P p = z2 at C2
    clear hP
    go_enter Try.func10, Try.ntmps10
    go_upto_region 2 with (go_at_call 8; ((with_reducible refine (C1.out _).mono ?_); rintro e v1 ⟨rfl, hb⟩; obtain ⟨hx0, hx1, hbb, hz1⟩ := k.boxes2 hb; have hz0 : w.heap.size < v1.heap.size := (by omega); have X7 := Lib.hid hx0; have X8 := Lib.hid hx1; have HB := Lib.hid hbb; clear hbb hx0 hx1; have X7c0 := (k.cell_of X7.out (i := 0) rfl).1; have X7c1 := (k.cell_of X7.out (i := 1) rfl).1; have X7c2 := (k.cell_of X7.out (i := 2) rfl).1; have X7c3 := (k.cell_of X7.out (i := 3) rfl).1; have X7c4 := (k.cell_of X7.out (i := 4) rfl).1; have X8c0 := (k.cell_of X8.out (i := 0) rfl).1; have X8c1 := (k.cell_of X8.out (i := 1) rfl).1; clear hb))
    go_upto_region 3 with (go_at_call 17; ((with_reducible refine (C2.out _).mono ?_); rintro e v2 ⟨rfl, hb⟩; have X7 := Lib.hid (X7.out.below hb hz0); have X8 := Lib.hid (X8.out.below hb hz1); have hz0 := Nat.lt_of_lt_of_le hz0 hb.size; have hz1 := Nat.lt_of_lt_of_le hz1 hb.size; have HB := Lib.hid (HB.out.trans (hb.mono HB.out.size)); clear X7c0 X7c1 X7c2 X7c3 X7c4 X8c0 X8c1; have X7c0 := (k.cell_of X7.out (i := 0) rfl).1; have X7c1 := (k.cell_of X7.out (i := 1) rfl).1; have X7c2 := (k.cell_of X7.out (i := 2) rfl).1; have X7c3 := (k.cell_of X7.out (i := 3) rfl).1; have X7c4 := (k.cell_of X7.out (i := 4) rfl).1; have X8c0 := (k.cell_of X8.out (i := 0) rfl).1; have X8c1 := (k.cell_of X8.out (i := 1) rfl).1; clear hb))
    go_wp2
    go_ret2
    exact ⟨rfl, HB.out⟩
end Go.Proofs.Ytaohidaijlcplaa.gx
