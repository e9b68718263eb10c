/- The walk of the law GearOne: any places, any way of the master, any denominator: it returns true, and what was in memory is as it was. -/
import Derived.Test.YtaohidaijlcplaaGxAwake
namespace Go.Proofs.Ytaohidaijlcplaa.gearOne
open Go.ChangeShapes Go.WideShapes Go.ChangeAt Go.RowKit Go.Proofs.Ytaohidaijlcplaa.k Go.Proofs.Ytaohidaijlcplaa.b Go.Proofs.Ytaohidaijlcplaa.gn Go.Proofs.Ytaohidaijlcplaa.gx Go.Proofs.Ytaohidaijlcplaa
set_option linter.unusedVariables false

theorem wf32 {a : Int} (h : (Lit.int .i32 a).wf = true) : -2147483648 ≤ a ∧ a ≤ 2147483647 := by
  simp only [Lit.wf, IntKind.min, IntKind.max, IntKind.signed, IntKind.bits, Bool.and_eq_true, decide_eq_true_eq, if_true] at h
  omega
theorem wfu16 {a : Int} (h : (Lit.int .u16 a).wf = true) : 0 ≤ a ∧ a ≤ 65535 := by
  simp only [Lit.wf, IntKind.min, IntKind.max, IntKind.signed, IntKind.bits, Bool.and_eq_true] at h
  simp at h
  omega
set_option maxRecDepth 100000 in
set_option maxHeartbeats 4000000 in
theorem walk (s f b d : Int) (w : World) (w0 : (Lit.int .i64 s).wf = true) (w1 : (Lit.int .i64 f).wf = true) (w2 : (Lit.int .i32 b).wf = true) (w3 : (Lit.int .u16 d).wf = true) :
    Calls Try.prog 5 #[.int .i64 s, .int .i64 f, .int .i32 b, .int .u16 d] w fun e w' => e = .returned (.bool true) ∧ Below w.heap.size w w' := by
  have hs := wf64 w0
  have hf := wf64 w1
  have hb := wf32 w2
  have hd := wfu16 w3
  clear w0 w1 w2 w3
  have HK := Lib.hid fun W => awake_any W
  by_cases t0 : 1152921504606846976 < s
  · have t0b : decide (1152921504606846976 < s) = true := decide_eq_true t0
    go_enter Try.func5, Try.ntmps5
    go_wp2_with (go_at_call 6; ((with_reducible refine (HK.out _).mono ?_); rintro e v1 ⟨rfl, hb⟩; have HB := Lib.hid hb; skip; clear hb))
    go_ret
    exact ⟨rfl, HB.out⟩
  · have t0b : decide (1152921504606846976 < s) = false := decide_eq_false t0
    by_cases t1 : s < -1152921504606846976
    · have t1b : decide (s < -1152921504606846976) = true := decide_eq_true t1
      go_enter Try.func5, Try.ntmps5
      go_wp2_with (go_at_call 6; ((with_reducible refine (HK.out _).mono ?_); rintro e v1 ⟨rfl, hb⟩; have HB := Lib.hid hb; skip; clear hb))
      go_ret
      exact ⟨rfl, HB.out⟩
    · have t1b : decide (s < -1152921504606846976) = false := decide_eq_false t1
      by_cases t2 : 1152921504606846976 < f
      · have t2b : decide (1152921504606846976 < f) = true := decide_eq_true t2
        go_enter Try.func5, Try.ntmps5
        go_wp2_with (go_at_call 6; ((with_reducible refine (HK.out _).mono ?_); rintro e v1 ⟨rfl, hb⟩; have HB := Lib.hid hb; skip; clear hb))
        go_ret
        exact ⟨rfl, HB.out⟩
      · have t2b : decide (1152921504606846976 < f) = false := decide_eq_false t2
        by_cases t3 : f < -1152921504606846976
        · have t3b : decide (f < -1152921504606846976) = true := decide_eq_true t3
          go_enter Try.func5, Try.ntmps5
          go_wp2_with (go_at_call 6; ((with_reducible refine (HK.out _).mono ?_); rintro e v1 ⟨rfl, hb⟩; have HB := Lib.hid hb; skip; clear hb))
          go_ret
          exact ⟨rfl, HB.out⟩
        · have t3b : decide (f < -1152921504606846976) = false := decide_eq_false t3
          have hs2 : -1152921504606846976 ≤ s ∧ s ≤ 1152921504606846976 := by omega
          have a1 : InR s := hs
          have a2 : InR f := hf
          have a3 : InR (f + b) := ⟨by omega, by omega⟩
          have a4 : InR (d + 1) := ⟨by omega, by omega⟩
          have P1 : Hid (∀ W, Calls Try.prog 7 #[.int .i64 s, .int .i64 f, .int .i64 (f + b), .int .i64 1, .int .i64 1] W fun e w' => e = .returned (.tuple #[.int .i64 (s + b), .bool true]) ∧ Below W.heap.size W w') := Lib.hid fun W => by have h := place_any s f (f + b) 1 1 a1 a2 a3 (by decide) (by decide) W; rw [(place_one hs2 hb (by omega)).1, (place_one hs2 hb (by omega)).2] at h; exact h
          have P2 : Hid (∀ W, Calls Try.prog 7 #[.int .i64 s, .int .i64 f, .int .i64 (f + b), .int .i64 0, .int .i64 (d + 1)] W fun e w' => e = .returned (.tuple #[.int .i64 s, .bool true]) ∧ Below W.heap.size W w') := Lib.hid fun W => by have h := place_any s f (f + b) 0 (d + 1) a1 a2 a3 (by decide) a4 W; rw [(place_none hs2 hb (by omega)).1, (place_none hs2 hb (by omega)).2] at h; exact h
          have P3 : Hid (∀ W, Calls Try.prog 7 #[.int .i64 s, .int .i64 f, .int .i64 (f + b), .int .i64 (d + 1), .int .i64 (d + 1)] W fun e w' => e = .returned (.tuple #[.int .i64 (s + b), .bool true]) ∧ Below W.heap.size W w') := Lib.hid fun W => by have h := place_any s f (f + b) (d + 1) (d + 1) a1 a2 a3 a4 a4 W; rw [(place_one hs2 hb (by omega)).1, (place_one hs2 hb (by omega)).2] at h; exact h
          clear a1 a2 a3 a4
          go_enter Try.func5, Try.ntmps5
          go_upto_region 5 with (go_at_call 6; ((with_reducible refine (HK.out _).mono ?_); rintro e v1 ⟨rfl, hb⟩; have HB := Lib.hid hb; skip; clear hb))
          go_upto_region 6 with (go_at_call 7; ((with_reducible refine (P1.out _).mono ?_); rintro e v2 ⟨rfl, hb⟩; have HB := Lib.hid (HB.out.trans (hb.mono HB.out.size)); skip; skip; clear hb))
          go_upto_region 7 with (go_at_call 7; ((with_reducible refine (P2.out _).mono ?_); rintro e v3 ⟨rfl, hb⟩; have HB := Lib.hid (HB.out.trans (hb.mono HB.out.size)); skip; skip; clear hb))
          go_wp2_with (go_at_call 7; ((with_reducible refine (P3.out _).mono ?_); rintro e v4 ⟨rfl, hb⟩; have HB := Lib.hid (HB.out.trans (hb.mono HB.out.size)); skip; skip; clear hb))
          go_ret
          exact ⟨rfl, HB.out⟩
end Go.Proofs.Ytaohidaijlcplaa.gearOne
