/- What gear's Place and Want answer: the document's; what was in memory is as it was. No condition beyond what each line says. -/
import Derived.Test.YtaohidaijlcplaaGxRef
import Derived.Test.YtaohidaijlcplaaHGen
import Derived.Test.YtaohidaijlcplaaQMulDiv
namespace Go.Proofs.Ytaohidaijlcplaa.gx
open Go.ChangeShapes Go.WideShapes Go.ChangeAt Go.RowKit Go.Proofs.Ytaohidaijlcplaa.k Go.Proofs.Ytaohidaijlcplaa.b Go.Proofs.Ytaohidaijlcplaa.gn
set_option linter.unusedVariables false

theorem md_ok {a b c : Int} : q.mdE a b c = 0 ↔ 1 ≤ c ∧ InR (a * b / c) := by
  unfold q.mdE
  by_cases h0 : c = 0
  · rw [if_pos h0]; constructor <;> intro h <;> omega
  by_cases h1 : c < 0
  · rw [if_neg h0, if_pos h1]; constructor <;> intro h <;> omega
  by_cases h2 : InR (a * b / c)
  · rw [if_neg h0, if_neg h1, if_pos (rm_yes h2)]; exact ⟨fun _ => ⟨by omega, h2⟩, fun _ => rfl⟩
  · rw [if_neg h0, if_neg h1, if_neg (by rw [rm_no h2]; decide)]; exact ⟨fun h => (by omega), fun h => absurd h.2 h2⟩
theorem place_any (s f m n d : Int) (hs : InR s) (hf : InR f) (hm : InR m) (hn : InR n) (hd : InR d) (w : World) : Calls Try.prog 7 #[.int .i64 s, .int .i64 f, .int .i64 m, .int .i64 n, .int .i64 d] w fun e w' => e = .returned (.tuple #[.int .i64 (plV s f m n d), .bool (plB s f m n d)]) ∧ Below w.heap.size w w' := by
  have HB := Lib.hid (Below.refl w.heap.size w)
  by_cases h2 : InR (m - f)
  · skip
    have c1 := fun W => q.sub_any m f hm.1 hm.2 hf.1 hf.2 W
    rw [show q.subV m f = m - f from rv_yes h2, show q.subB m f = true from rm_yes h2] at c1
    have C1 := Lib.hid c1
    have c2 := fun W => q.muldiv_any (m - f) n d h2.1 h2.2 hn.1 hn.2 hd.2 W
    by_cases h3 : 1 ≤ d ∧ InR ((m - f) * n / d)
    · rw [(md_yes h3.1 h3.2).1, (md_yes h3.1 h3.2).2] at c2
      have C2 := Lib.hid c2
      by_cases h4 : InR (s + (m - f) * n / d)
      · skip
        have c3 := fun W => q.add_any s ((m - f) * n / d) hs.1 hs.2 h3.2.1 h3.2.2 W
        rw [show q.addV s ((m - f) * n / d) = s + (m - f) * n / d from rv_yes h4, show q.addB s ((m - f) * n / d) = true from rm_yes h4] at c3
        have C3 := Lib.hid c3
        rw [plV_yes ⟨h3.1, h2, h3.2, h4⟩, plB_yes ⟨h3.1, h2, h3.2, h4⟩]
        clear c1 c2 c3 h2 h3 h4
        generalize s + (m - f) * n / d = x at *
        generalize (m - f) * n / d = z at *
        generalize m - f = y at *
        go_enter Try.func7, Try.ntmps7
        go_wp2_with (go_at_call 14; ((with_reducible refine (C1.out _).mono ?_); rintro e w1 ⟨rfl, rfl⟩))
        go_wp2_with (go_at_call 15; ((with_reducible refine (C2.out _).mono ?_); rintro e w2 ⟨rfl, nq, rfl⟩; have HB := Lib.hid (below_drawn HB.out nq)))
        go_wp2_with (go_at_call 16; ((with_reducible refine (C3.out _).mono ?_); rintro e w3 ⟨rfl, rfl⟩))
        skip
        go_ret2
        exact ⟨rfl, HB.out⟩
      · skip
        have c3 := fun W => q.add_any s ((m - f) * n / d) hs.1 hs.2 h3.2.1 h3.2.2 W
        rw [show q.addV s ((m - f) * n / d) = 0 from rv_no h4, show q.addB s ((m - f) * n / d) = false from rm_no h4] at c3
        have C3 := Lib.hid c3
        have hno : ¬ PlaceP s f m n d := fun h => h4 h.2.2.2
        rw [plV_no hno, plB_no hno]
        clear c1 c2 c3 h2 h3 h4 hno
        generalize (m - f) * n / d = z at *
        generalize m - f = y at *
        go_enter Try.func7, Try.ntmps7
        go_wp2_with (go_at_call 14; ((with_reducible refine (C1.out _).mono ?_); rintro e w1 ⟨rfl, rfl⟩))
        go_wp2_with (go_at_call 15; ((with_reducible refine (C2.out _).mono ?_); rintro e w2 ⟨rfl, nq, rfl⟩; have HB := Lib.hid (below_drawn HB.out nq)))
        go_wp2_with (go_at_call 16; ((with_reducible refine (C3.out _).mono ?_); rintro e w3 ⟨rfl, rfl⟩))
        skip
        go_ret2
        exact ⟨rfl, HB.out⟩
    · have hno : ¬ PlaceP s f m n d := fun h => h3 ⟨h.1, h.2.2.1⟩
      rw [plV_no hno, plB_no hno]
      have he : q.mdE (m - f) n d ≠ 0 := fun h => h3 (md_ok.1 h)
      generalize q.mdE (m - f) n d = e1 at c2 he
      generalize q.mdV (m - f) n d = z1 at c2
      have heb : decide (e1 = 0) = false := decide_eq_false he
      have C2 := Lib.hid c2
      clear c1 c2 h2 h3 hno
      generalize m - f = y at *
      go_enter Try.func7, Try.ntmps7
      go_wp2_with (go_at_call 14; ((with_reducible refine (C1.out _).mono ?_); rintro e w1 ⟨rfl, rfl⟩))
      go_wp2_with (go_at_call 15; ((with_reducible refine (C2.out _).mono ?_); rintro e w2 ⟨rfl, nq, rfl⟩; have HB := Lib.hid (below_drawn HB.out nq)))
      skip
      go_ret2
      exact ⟨rfl, HB.out⟩
  · skip
    have c1 := fun W => q.sub_any m f hm.1 hm.2 hf.1 hf.2 W
    rw [show q.subV m f = 0 from rv_no h2, show q.subB m f = false from rm_no h2] at c1
    have C1 := Lib.hid c1
    have hno : ¬ PlaceP s f m n d := fun h => h2 h.2.1
    rw [plV_no hno, plB_no hno]
    clear c1 h2 hno
    go_enter Try.func7, Try.ntmps7
    go_wp2_with (go_at_call 14; ((with_reducible refine (C1.out _).mono ?_); rintro e w1 ⟨rfl, rfl⟩))
    skip
    go_ret2
    exact ⟨rfl, HB.out⟩
set_option maxHeartbeats 2000000 in
theorem want_any (V A D lo hi p v : Int) (hV : InR V) (hA : InR A) (hD : InR D) (hlo : InR lo) (hhi : InR hi) (hp : InR p) (hv : InR v) (s f m n d : Int) (hs : InR s) (hf : InR f) (hm : InR m) (hn : InR n) (hd : InR d) (w : World) : Calls Try.prog 9 #[.agg #[.int .i64 V, .int .i64 A, .int .i64 D, .int .i64 lo, .int .i64 hi], .agg #[.int .i64 p, .int .i64 v], .int .i64 s, .int .i64 f, .int .i64 m, .int .i64 n, .int .i64 d] w fun e w' => e = .returned (.tuple #[.int .i64 (wantV p s f m n d), .bool (wantB ⟨V, A, D, lo, hi⟩ p v s f m n d)]) ∧ Below w.heap.size w w' := by
  have hP := plV_in s f m n d
  have C1 := Lib.hid fun W => place_any s f m n d hs hf hm hn hd W
  have hmay : ∀ W, Calls Try.prog 20 #[.agg #[.int .i64 V, .int .i64 A, .int .i64 D, .int .i64 lo, .int .i64 hi], .agg #[.int .i64 p, .int .i64 v]] W fun e w' => e = .returned (.tuple #[.int .i64 (loV ⟨V, A, D, lo, hi⟩ p v), .int .i64 (hiV ⟨V, A, D, lo, hi⟩ p v)]) ∧ Below W.heap.size W w' := by
    intro W
    by_cases h : RightL ⟨V, A, D, lo, hi⟩ ∧ SafeP ⟨V, A, D, lo, hi⟩ p v
    · rw [show loV ⟨V, A, D, lo, hi⟩ p v = mayLo ⟨V, A, D, lo, hi⟩ p v from if_pos h, show hiV ⟨V, A, D, lo, hi⟩ p v = mayHi ⟨V, A, D, lo, hi⟩ p v from if_pos h]
      exact may_ok ⟨V, A, D, lo, hi⟩ h.1 p v h.2 W
    · rw [show loV ⟨V, A, D, lo, hi⟩ p v = 0 from if_neg h, show hiV ⟨V, A, D, lo, hi⟩ p v = 0 from if_neg h]
      exact may_no ⟨V, A, D, lo, hi⟩ ⟨hV, hA, hD, hlo, hhi⟩ p v hp hv h W
  have HM := Lib.hid hmay
  clear hmay
  by_cases hpl : PlaceP s f m n d
  · rw [plB_yes hpl] at C1
    by_cases hr : InR (plV s f m n d - p)
    · have hw : WantP p s f m n d := ⟨hpl, hr⟩
      rw [show wantV p s f m n d = plV s f m n d - p from if_pos hw, show wantB ⟨V, A, D, lo, hi⟩ p v s f m n d = (decide (loV ⟨V, A, D, lo, hi⟩ p v ≤ plV s f m n d - p) && decide (plV s f m n d - p ≤ hiV ⟨V, A, D, lo, hi⟩ p v)) from if_pos hw]
      clear hw hpl
      generalize plV s f m n d = P at *
      generalize loV ⟨V, A, D, lo, hi⟩ p v = a at *
      generalize hiV ⟨V, A, D, lo, hi⟩ p v = z at *
      have C2 : Hid (∀ W, Calls Try.prog 14 #[.int .i64 P, .int .i64 p] W fun e w' => e = .returned (.tuple #[.int .i64 (P - p), .bool true]) ∧ Below W.heap.size W w') := Lib.hid fun W => by have h := q.sub_any P p hP.1 hP.2 hp.1 hp.2 W; rw [show q.subV P p = (P - p) from rv_yes hr, show q.subB P p = true from rm_yes hr] at h; exact h.mono fun e w1 he => by obtain ⟨he, rfl⟩ := he; exact ⟨he, Below.refl _ _⟩
      generalize P - p = y at *
      clear hr hP
      by_cases q1 : a ≤ y
      · have q1b : decide (a ≤ y) = true := decide_eq_true q1
        have HV : Hid ((decide (a ≤ y) && decide (y ≤ z)) = decide (y ≤ z)) := Lib.hid (by rw [q1b]; rfl)
        rw [HV.out]
        clear HV
        go_enter Try.func9, Try.ntmps9
        go_wp2_with (go_at_call 7; ((with_reducible refine (C1.out _).mono ?_); rintro e v1 ⟨rfl, hb⟩; obtain ⟨hx0, hx1, hbb, hz1⟩ := k.boxes2 hb; have hz0 : w.heap.size < v1.heap.size := (by omega); have X7 := Lib.hid hx0; have X8 := Lib.hid hx1; have HB := Lib.hid hbb; clear hbb hx0 hx1; have X7c0 := (k.cell_of X7.out (i := 0) rfl).1; have X7c1 := (k.cell_of X7.out (i := 1) rfl).1; have X7c2 := (k.cell_of X7.out (i := 2) rfl).1; have X7c3 := (k.cell_of X7.out (i := 3) rfl).1; have X7c4 := (k.cell_of X7.out (i := 4) rfl).1; have X8c0 := (k.cell_of X8.out (i := 0) rfl).1; have X8c1 := (k.cell_of X8.out (i := 1) rfl).1; clear hb))
        go_wp2_with (go_at_call 14; ((with_reducible refine (C2.out _).mono ?_); rintro e v2 ⟨rfl, hb⟩; have X7 := Lib.hid (X7.out.below hb hz0); have X8 := Lib.hid (X8.out.below hb hz1); have hz0 := Nat.lt_of_lt_of_le hz0 hb.size; have hz1 := Nat.lt_of_lt_of_le hz1 hb.size; have HB := Lib.hid (HB.out.trans (hb.mono HB.out.size)); clear X7c0 X7c1 X7c2 X7c3 X7c4 X8c0 X8c1; have X7c0 := (k.cell_of X7.out (i := 0) rfl).1; have X7c1 := (k.cell_of X7.out (i := 1) rfl).1; have X7c2 := (k.cell_of X7.out (i := 2) rfl).1; have X7c3 := (k.cell_of X7.out (i := 3) rfl).1; have X7c4 := (k.cell_of X7.out (i := 4) rfl).1; have X8c0 := (k.cell_of X8.out (i := 0) rfl).1; have X8c1 := (k.cell_of X8.out (i := 1) rfl).1; clear hb))
        go_wp2_with (go_at_call 20; ((with_reducible refine (HM.out _).mono ?_); rintro e v3 ⟨rfl, hb⟩; have X7 := Lib.hid (X7.out.below hb hz0); have X8 := Lib.hid (X8.out.below hb hz1); have hz0 := Nat.lt_of_lt_of_le hz0 hb.size; have hz1 := Nat.lt_of_lt_of_le hz1 hb.size; have HB := Lib.hid (HB.out.trans (hb.mono HB.out.size)); clear X7c0 X7c1 X7c2 X7c3 X7c4 X8c0 X8c1; have X7c0 := (k.cell_of X7.out (i := 0) rfl).1; have X7c1 := (k.cell_of X7.out (i := 1) rfl).1; have X7c2 := (k.cell_of X7.out (i := 2) rfl).1; have X7c3 := (k.cell_of X7.out (i := 3) rfl).1; have X7c4 := (k.cell_of X7.out (i := 4) rfl).1; have X8c0 := (k.cell_of X8.out (i := 0) rfl).1; have X8c1 := (k.cell_of X8.out (i := 1) rfl).1; clear hb))
        go_ret2
        exact ⟨rfl, HB.out⟩
      · have q1b : decide (a ≤ y) = false := decide_eq_false q1
        have HV : Hid ((decide (a ≤ y) && decide (y ≤ z)) = false) := Lib.hid (by rw [q1b]; rfl)
        rw [HV.out]
        clear HV
        go_enter Try.func9, Try.ntmps9
        go_wp2_with (go_at_call 7; ((with_reducible refine (C1.out _).mono ?_); rintro e v1 ⟨rfl, hb⟩; obtain ⟨hx0, hx1, hbb, hz1⟩ := k.boxes2 hb; have hz0 : w.heap.size < v1.heap.size := (by omega); have X7 := Lib.hid hx0; have X8 := Lib.hid hx1; have HB := Lib.hid hbb; clear hbb hx0 hx1; have X7c0 := (k.cell_of X7.out (i := 0) rfl).1; have X7c1 := (k.cell_of X7.out (i := 1) rfl).1; have X7c2 := (k.cell_of X7.out (i := 2) rfl).1; have X7c3 := (k.cell_of X7.out (i := 3) rfl).1; have X7c4 := (k.cell_of X7.out (i := 4) rfl).1; have X8c0 := (k.cell_of X8.out (i := 0) rfl).1; have X8c1 := (k.cell_of X8.out (i := 1) rfl).1; clear hb))
        go_wp2_with (go_at_call 14; ((with_reducible refine (C2.out _).mono ?_); rintro e v2 ⟨rfl, hb⟩; have X7 := Lib.hid (X7.out.below hb hz0); have X8 := Lib.hid (X8.out.below hb hz1); have hz0 := Nat.lt_of_lt_of_le hz0 hb.size; have hz1 := Nat.lt_of_lt_of_le hz1 hb.size; have HB := Lib.hid (HB.out.trans (hb.mono HB.out.size)); clear X7c0 X7c1 X7c2 X7c3 X7c4 X8c0 X8c1; have X7c0 := (k.cell_of X7.out (i := 0) rfl).1; have X7c1 := (k.cell_of X7.out (i := 1) rfl).1; have X7c2 := (k.cell_of X7.out (i := 2) rfl).1; have X7c3 := (k.cell_of X7.out (i := 3) rfl).1; have X7c4 := (k.cell_of X7.out (i := 4) rfl).1; have X8c0 := (k.cell_of X8.out (i := 0) rfl).1; have X8c1 := (k.cell_of X8.out (i := 1) rfl).1; clear hb))
        go_wp2_with (go_at_call 20; ((with_reducible refine (HM.out _).mono ?_); rintro e v3 ⟨rfl, hb⟩; have X7 := Lib.hid (X7.out.below hb hz0); have X8 := Lib.hid (X8.out.below hb hz1); have hz0 := Nat.lt_of_lt_of_le hz0 hb.size; have hz1 := Nat.lt_of_lt_of_le hz1 hb.size; have HB := Lib.hid (HB.out.trans (hb.mono HB.out.size)); clear X7c0 X7c1 X7c2 X7c3 X7c4 X8c0 X8c1; have X7c0 := (k.cell_of X7.out (i := 0) rfl).1; have X7c1 := (k.cell_of X7.out (i := 1) rfl).1; have X7c2 := (k.cell_of X7.out (i := 2) rfl).1; have X7c3 := (k.cell_of X7.out (i := 3) rfl).1; have X7c4 := (k.cell_of X7.out (i := 4) rfl).1; have X8c0 := (k.cell_of X8.out (i := 0) rfl).1; have X8c1 := (k.cell_of X8.out (i := 1) rfl).1; clear hb))
        go_ret2
        exact ⟨rfl, HB.out⟩
    · have hno : ¬ WantP p s f m n d := fun h => hr h.2
      rw [show wantV p s f m n d = 0 from if_neg hno, show wantB ⟨V, A, D, lo, hi⟩ p v s f m n d = false from if_neg hno]
      clear hno hpl
      generalize plV s f m n d = P at *
      have C2 : Hid (∀ W, Calls Try.prog 14 #[.int .i64 P, .int .i64 p] W fun e w' => e = .returned (.tuple #[.int .i64 0, .bool false]) ∧ Below W.heap.size W w') := Lib.hid fun W => by have h := q.sub_any P p hP.1 hP.2 hp.1 hp.2 W; rw [show q.subV P p = 0 from rv_no hr, show q.subB P p = false from rm_no hr] at h; exact h.mono fun e w1 he => by obtain ⟨he, rfl⟩ := he; exact ⟨he, Below.refl _ _⟩
      clear hr hP
      go_enter Try.func9, Try.ntmps9
      go_wp2_with (go_at_call 7; ((with_reducible refine (C1.out _).mono ?_); rintro e v1 ⟨rfl, hb⟩; obtain ⟨hx0, hx1, hbb, hz1⟩ := k.boxes2 hb; have hz0 : w.heap.size < v1.heap.size := (by omega); have X7 := Lib.hid hx0; have X8 := Lib.hid hx1; have HB := Lib.hid hbb; clear hbb hx0 hx1; have X7c0 := (k.cell_of X7.out (i := 0) rfl).1; have X7c1 := (k.cell_of X7.out (i := 1) rfl).1; have X7c2 := (k.cell_of X7.out (i := 2) rfl).1; have X7c3 := (k.cell_of X7.out (i := 3) rfl).1; have X7c4 := (k.cell_of X7.out (i := 4) rfl).1; have X8c0 := (k.cell_of X8.out (i := 0) rfl).1; have X8c1 := (k.cell_of X8.out (i := 1) rfl).1; clear hb))
      go_wp2_with (go_at_call 14; ((with_reducible refine (C2.out _).mono ?_); rintro e v2 ⟨rfl, hb⟩; have X7 := Lib.hid (X7.out.below hb hz0); have X8 := Lib.hid (X8.out.below hb hz1); have hz0 := Nat.lt_of_lt_of_le hz0 hb.size; have hz1 := Nat.lt_of_lt_of_le hz1 hb.size; have HB := Lib.hid (HB.out.trans (hb.mono HB.out.size)); clear X7c0 X7c1 X7c2 X7c3 X7c4 X8c0 X8c1; have X7c0 := (k.cell_of X7.out (i := 0) rfl).1; have X7c1 := (k.cell_of X7.out (i := 1) rfl).1; have X7c2 := (k.cell_of X7.out (i := 2) rfl).1; have X7c3 := (k.cell_of X7.out (i := 3) rfl).1; have X7c4 := (k.cell_of X7.out (i := 4) rfl).1; have X8c0 := (k.cell_of X8.out (i := 0) rfl).1; have X8c1 := (k.cell_of X8.out (i := 1) rfl).1; clear hb))
      go_ret2
      exact ⟨rfl, HB.out⟩
  · rw [plB_no hpl] at C1
    have hno : ¬ WantP p s f m n d := fun h => hpl h.1
    rw [show wantV p s f m n d = 0 from if_neg hno, show wantB ⟨V, A, D, lo, hi⟩ p v s f m n d = false from if_neg hno]
    clear hno hpl
    generalize plV s f m n d = P at *
    clear hP
    go_enter Try.func9, Try.ntmps9
    go_wp2_with (go_at_call 7; ((with_reducible refine (C1.out _).mono ?_); rintro e v1 ⟨rfl, hb⟩; obtain ⟨hx0, hx1, hbb, hz1⟩ := k.boxes2 hb; have hz0 : w.heap.size < v1.heap.size := (by omega); have X7 := Lib.hid hx0; have X8 := Lib.hid hx1; have HB := Lib.hid hbb; clear hbb hx0 hx1; have X7c0 := (k.cell_of X7.out (i := 0) rfl).1; have X7c1 := (k.cell_of X7.out (i := 1) rfl).1; have X7c2 := (k.cell_of X7.out (i := 2) rfl).1; have X7c3 := (k.cell_of X7.out (i := 3) rfl).1; have X7c4 := (k.cell_of X7.out (i := 4) rfl).1; have X8c0 := (k.cell_of X8.out (i := 0) rfl).1; have X8c1 := (k.cell_of X8.out (i := 1) rfl).1; clear hb))
    go_ret2
    exact ⟨rfl, HB.out⟩
end Go.Proofs.Ytaohidaijlcplaa.gx
