/- For every number and truth the law TreeNests returns true, and what was in memory is as it was. Condition: the library's variable MaxLen holds some number. -/
import Derived.Test.YtbcpkhegmbdifaaU24
import Derived.Test.YtbcpkhegmbdifaaU10
namespace Go.Proofs.Ytbcpkhegmbdifaa.treeNests
open Go.ChangeShapes Go.WideShapes Go.ChangeAt Go.RowKit Go.Proofs.Ytbcpkhegmbdifaa Go.Proofs.Ytbcpkhegmbdifaa.k Go.Proofs.Ytbcpkhegmbdifaa.rr Go.Proofs.Ytbcpkhegmbdifaa.tk Go.Proofs.Ytbcpkhegmbdifaa.tr
set_option linter.unusedVariables false

def st (l : Str) : ByteArray := ⟨l.toArray⟩
theorem st_size (l : Str) : (st l).size = l.length := by rw [← size_len]; rfl
theorem st_cat (a b : Str) : st a ++ st b = st (a ++ b) := by
  apply ByteArray.ext
  apply Array.toList_inj.1
  rw [ByteArray.data_append, Array.toList_append]
  rfl
/-- the text behind the first parts, as far as it was made -/
def midT (o c : Str) (i q : Nat) : ByteArray := st ((rep i o ++ [97]) ++ rep q c)
theorem midT_zero (o c : Str) (i : Nat) : st (rep i o ++ [97]) = midT o c i 0 := by unfold midT; rw [show rep 0 c = [] from rfl, List.append_nil]
theorem midT_next (o c : Str) (i q : Nat) : midT o c i q ++ st c = midT o c i (q + 1) := by unfold midT; rw [rep, ← List.append_assoc]; exact st_cat _ _
theorem rep_len (k : Nat) (o : Str) : (rep k o).length = k * o.length := by
  induction k with
  | zero => simp [rep]
  | succ k ih => rw [rep, List.length_append, ih, Nat.succ_mul]
theorem rep_le {k : Nat} {o : Str} (hk : k ≤ 40) (ho : o.length ≤ 4) : (rep k o).length ≤ 160 := by
  rw [rep_len]
  exact Nat.le_trans (Nat.mul_le_mul hk ho) (by omega)
set_option maxRecDepth 100000 in
set_option maxHeartbeats 8000000 in
theorem walk (z : Int) (no : Bool) (w : World) (hz : (Lit.int .u8 z).wf = true) (hM : MaxL w) :
    Calls Try.prog 4 #[.int .u8 z, .bool no] w fun e w' => e = .returned (.bool true) ∧ Below w.heap.size w w' := by
  have HK := Lib.hid (tr.awake_any w hM)
  have MX := Lib.hid hM
  have hz := wf8 hz
  clear hM
  obtain ⟨n, rfl⟩ : ∃ n : Nat, z = n := ⟨z.toNat, by omega⟩
  obtain ⟨u, hu⟩ : ∃ u, n % 40 = u := ⟨_, rfl⟩
  have hu40 : u < 40 := by omega
  have m1 : ((n : Int) % 40) = u := by omega
  have m2 : Int.tmod (n : Int) 40 = u := by rw [Int.tmod_eq_emod_of_nonneg (by omega)]; omega
  have m3 : IntKind.u8.wrap (u : Int) = u := by rw [IntKind.wrap_u8]; omega
  have m4 : IntKind.i64.wrap (u : Int) = u := by rw [IntKind.wrap_i64]; omega
  clear hu
  cases no
  · go_enter Try.func4, Try.ntmps4
    go_upto_region 3 with (go_at_call 6; ((with_reducible refine (HK.out).mono ?_); rintro e w2 ⟨rfl, hb⟩; have HB := Lib.hid hb; clear hb HK))
    go_upto_region 8 with (fail)
    clear m1 m2 m3 m4 hz
    go_loopw [6, 9] (fun s6 s9 wr => ∃ i : Nat, s9 = .int .i64 i ∧ i ≤ u ∧ s6 = .string (st (rep i [40])) ∧ w2 = wr) (fun _ i _ => u - (intOf i).toNat)
    case atStart => exact ⟨0, rfl, Nat.zero_le _, rfl, rfl⟩
    case round =>
      obtain ⟨i, rfl, hi, rfl, rfl⟩ := hrel
      obtain ⟨i1, hi1⟩ : ∃ i1, i + 1 = i1 := ⟨_, rfl⟩
      have w1 : IntKind.i64.wrap ((i : Int) + 1) = i1 := by rw [IntKind.wrap_i64]; omega
      by_cases hlt : i < u
      · have z0 : (i : Int) < u := by omega
        have c1 : st (rep i [40]) ++ ⟨#[40]⟩ = st (rep i1 [40]) := by rw [← hi1]; exact st_cat _ _
        have c2 : ¬ 9223372036854775807 < (st (rep i [40])).size + 1 := by
          rw [st_size]
          have := rep_le (k := i) (o := [40]) (by omega) (by simp)
          omega
        have HI := Lib.hid (show i1 ≤ u ∧ i < i1 by omega)
        clear hi1
        go_wp2_with fail
        go_roundw
        case rel => exact ⟨i1, by go_num, HI.out.1, rfl, trivial⟩
        case measure => have := HI.out; simp [intOf]; omega
      · obtain rfl : i = u := by omega
        clear hi1 w1
        have z0 : ¬ (i : Int) < i := by omega
        have c1 : st (rep i [40]) ++ ⟨#[97]⟩ = midT [40] [41] i 0 := (st_cat _ _).trans (midT_zero _ _ _)
        have c2 : ¬ 9223372036854775807 < (st (rep i [40])).size + 1 := by
          rw [st_size]
          have := rep_le (k := i) (o := [40]) (by omega) (by simp)
          omega
        go_upto_region 13 with (fail)
        clear c1 c2 z0 hlt hi
        go_loopw [6, 10] (fun s6 s10 wr => ∃ q : Nat, s10 = .int .i64 q ∧ q ≤ i ∧ s6 = .string (midT [40] [41] i q) ∧ w2 = wr) (fun _ q _ => i - (intOf q).toNat)
        case atStart => exact ⟨0, rfl, Nat.zero_le _, rfl, rfl⟩
        case round =>
          obtain ⟨q, rfl, hq, rfl, rfl⟩ := hrel
          obtain ⟨q1, hq1⟩ : ∃ q1, q + 1 = q1 := ⟨_, rfl⟩
          have w1 : IntKind.i64.wrap ((q : Int) + 1) = q1 := by rw [IntKind.wrap_i64]; omega
          have hsz : (midT [40] [41] i q).size ≤ 400 := by
            rw [show midT [40] [41] i q = st ((rep i [40] ++ [97]) ++ rep q [41]) from rfl, st_size, List.length_append, List.length_append]
            have := rep_le (k := i) (o := [40]) (by omega) (by simp)
            have := rep_le (k := q) (o := [41]) (by omega) (by simp)
            simp
            omega
          by_cases hlt : q < i
          · have z0 : (q : Int) < i := by omega
            have c1 : midT [40] [41] i q ++ ⟨#[41]⟩ = midT [40] [41] i q1 := by rw [← hq1]; exact midT_next _ _ _ _
            have c2 : ¬ 9223372036854775807 < (midT [40] [41] i q).size + 1 := by omega
            have HI := Lib.hid (show q1 ≤ i ∧ q < q1 by omega)
            clear hq1 hsz
            go_wp2_with fail
            go_roundw
            case rel => exact ⟨q1, by go_num, HI.out.1, rfl, trivial⟩
            case measure => have := HI.out; simp [intOf]; omega
          · obtain rfl : q = i := by omega
            clear hq1 w1
            have z0 : ¬ (q : Int) < q := by omega
            obtain ⟨S, hS⟩ : ∃ S, (rep q [40] ++ [97]) ++ rep q [41] = S := ⟨_, rfl⟩
            rw [show midT [40] [41] q q = st S by rw [← hS]; rfl] at hsz ⊢
            have hN : nestText q [40] [41] = ([80, 82, 79, 71, 82, 65, 77, 32, 112, 32, 97, 32, 58, 61, 32] ++ S) ++ [59, 32, 69, 78, 68, 95, 80, 82, 79, 71, 82, 65, 77] := by unfold nestText; rw [hS]
            obtain ⟨T1, hT1⟩ : ∃ T1, (⟨#[80, 82, 79, 71, 82, 65, 77, 32, 112, 32, 97, 32, 58, 61, 32]⟩ : ByteArray) ++ st S = T1 := ⟨_, rfl⟩
            obtain ⟨T2, hT2⟩ : ∃ T2, T1 ++ (⟨#[59, 32, 69, 78, 68, 95, 80, 82, 79, 71, 82, 65, 77]⟩ : ByteArray) = T2 := ⟨_, rfl⟩
            have e1 : T1 = st ([80, 82, 79, 71, 82, 65, 77, 32, 112, 32, 97, 32, 58, 61, 32] ++ S) := by rw [← hT1]; exact st_cat _ _
            have e2 : T2 = st (nestText q [40] [41]) := by rw [← hT2, e1, hN]; exact st_cat _ _
            have s1 : T1.size ≤ 500 := by rw [e1, st_size, List.length_append]; rw [st_size] at hsz; simp; omega
            have s2 : T2.size ≤ 600 := by rw [← hT2, ByteArray.size_append]; exact Nat.add_le_add s1 (show (13 : Nat) ≤ 100 by omega)
            have k1 : ¬ 9223372036854775807 < 15 + (st S).size := by omega
            have k2 : ¬ 9223372036854775807 < T1.size + 13 := by omega
            have PX := Lib.hid fun W (hMW : MaxL W) => parse_any T2 (by omega) W hMW
            have hl : T2.data.toList = nestText q [40] [41] := by rw [e2]; rfl
            unfold GotG at PX
            rw [hl] at PX
            obtain ⟨q1, hq1⟩ : ∃ q1, q + 1 = q1 := ⟨_, rfl⟩
            have w1 : IntKind.i64.wrap ((q : Int) + 1) = q1 := by rw [IntKind.wrap_i64]; omega
            by_cases hdeep : 32 ≤ q
            · obtain ⟨G, ⟨tk, tt, tn, tl, tc⟩, hp, h1, h2⟩ := (nest_deep hdeep hu40).1
              rw [hp] at PX
              simp only at PX h1 h2
              subst h1 h2
              rw [show (tC ⟨tk, tt, tn, 1, 47⟩).toArray = #[.int .i64 tk, .string ⟨tt.toArray⟩, .int .i64 tn, .int .i64 1, .int .i64 47] from rfl] at PX
              have z1 : (32 : Int) < q1 := by omega
              clear hp hl e1 e2 s1 s2 hN hS hsz hq1 hdeep hu40 hq hlt
              go_wp2_with (go_at_call 7; fail)
              with_reducible refine (PX.out _ (MX.out.below HB.out)).mono ?_
              rintro e w3 ⟨⟨gn, ⟨VA, vl, vc⟩, ⟨SA, sl, sc⟩⟩, rfl, _, hb⟩
              have B3 := Lib.hid (HB.out.trans (hb.mono HB.out.size))
              have B4 := Lib.hid (B3.out.trans ((((Below.refl w3.heap.size w3).alloc (Nat.le_refl _) (.cells #[.string ⟨gn.toArray⟩, .slice VA vl vc, .slice SA sl sc] 26)).alloc (by simp) (.cells #[.int .i64 tk, .string ⟨tt.toArray⟩, .int .i64 tn, .int .i64 1, .int .i64 47] 29)).mono B3.out.size))
              simp only [gC, sv, Sl.v]
              clear hb PX HB
              go_wp2_with fail
              go_ret
              exact ⟨rfl, B4.out⟩
            · obtain ⟨gn0, vs, op, nm, d, X, cs, ls, fs, bs, l1, ⟨tk, tt, tn, tl, tc⟩, hp, hX⟩ := (nest_ok (k := q) (by omega)).1
              rw [hp] at PX
              simp only at PX
              rw [show (tC ⟨tk, tt, tn, tl, tc⟩).toArray = #[.int .i64 tk, .string ⟨tt.toArray⟩, .int .i64 tn, .int .i64 tl, .int .i64 tc] from rfl] at PX
              have z1 : ¬ (32 : Int) < q1 := by omega
              have HX := Lib.hid hX
              clear hp hl e1 e2 s1 s2 hN hS hsz hq1 hdeep hq hlt hX
              go_wp2_with (go_at_call 7; fail)
              with_reducible refine (PX.out _ (MX.out.below HB.out)).mono ?_
              rintro e w3 ⟨⟨gn, ⟨VA, vl, vc⟩, ⟨SA, sl, sc⟩⟩, rfl, ⟨h1, h2, K, h3, h4⟩, hb⟩
              have B3 := Lib.hid (HB.out.trans (hb.mono HB.out.size))
              simp only at h3
              simp only [gC, sv, Sl.v]
              unfold StsAt at h4
              obtain ⟨s, K', rfl, h5, h6⟩ := h4
              unfold StsAt at h6
              subst h6
              unfold StAt at h5
              have e5 := h5.2.2.2.2.1
              have g3 : Rd sC 19 w3 w3.heap.size SA sl sc _ := h3
              clear hb PX HB h1 h2 h3 h5
              obtain rfl : 1 = sl := g3.1
              go_upto_region 17 with (fail)
              obtain ⟨x4, _, hb4, hz4⟩ := boxes2 (Below.refl ((w3.alloc (.cells #[.string ⟨gn.toArray⟩, .slice VA vl vc, .slice SA 1 sc] 26)).alloc (.cells #[.int .i64 tk, .string ⟨tt.toArray⟩, .int .i64 tn, .int .i64 tl, .int .i64 tc] 29)).heap.size ((w3.alloc (.cells #[.string ⟨gn.toArray⟩, .slice VA vl vc, .slice SA 1 sc] 26)).alloc (.cells #[.int .i64 tk, .string ⟨tt.toArray⟩, .int .i64 tn, .int .i64 tl, .int .i64 tc] 29)))
              have g4 := (g3.below hb4).more hb4.size
              have E4 := ExAt.below hb4 hb4.size e5
              have B4 := Lib.hid (B3.out.trans (hb4.mono B3.out.size))
              have X4 := Lib.hid x4
              clear x4 hb4 hz4 g3 e5 B3
              generalize ((w3.alloc (.cells #[.string ⟨gn.toArray⟩, .slice VA vl vc, .slice SA 1 sc] 26)).alloc (.cells #[.int .i64 tk, .string ⟨tt.toArray⟩, .int .i64 tn, .int .i64 tl, .int .i64 tc] 29)) = w4 at *
              generalize w3.heap.size = g3 at *
              obtain ⟨b2, o2, rfl, hb2, hc2⟩ := g4.2.2.2.2 (by omega)
              have k4 := g4.2.1
              have z4 : (1 : Int) ≤ sc := by omega
              have r0 := hc2 0 _ rfl 8 _ rfl
              have r1 := hc2 0 _ rfl 9 _ rfl
              have r2 := hc2 0 _ rfl 10 _ rfl
              have r3 := hc2 0 _ rfl 11 _ rfl
              have r4 := hc2 0 _ rfl 12 _ rfl
              have r5 := hc2 0 _ rfl 13 _ rfl
              rw [Nat.zero_mul, Nat.add_zero] at r0 r1 r2 r3 r4 r5
              obtain ⟨sop, snm, sd, ⟨xo, xn, xnm, xfd, ⟨xA, xl, xc⟩, xln⟩, s1, s2, s3, s4, sln⟩ := s
              simp only [sv, Sl.v] at r1 r2 r3 r4 r5 r0
              have E4 := Lib.hid E4
              clear hc2 g4 k4
              have ⟨a0, _, a1, _, a2, _, _⟩ := X4.out
              go_upto_region 23 with (fail)
              have hbx := Below.alloc (Below.refl w4.heap.size w4) (Nat.le_refl _) (.cells #[.int .i64 xo, .int .i64 xn, .string ⟨xnm.toArray⟩, .string ⟨xfd.toArray⟩, .slice xA xl xc, .int .i64 xln] 35)
              have XB := Box.new w4 #[.int .i64 xo, .int .i64 xn, .string ⟨xnm.toArray⟩, .string ⟨xfd.toArray⟩, .slice xA xl xc, .int .i64 xln] 35
              have hzx : w4.heap.size < (w4.alloc (.cells #[.int .i64 xo, .int .i64 xn, .string ⟨xnm.toArray⟩, .string ⟨xfd.toArray⟩, .slice xA xl xc, .int .i64 xln] 35)).heap.size := by simp
              have E5 := ExAt.below hbx (Nat.le_refl _) E4.out
              have B5 := Lib.hid (B4.out.trans (hbx.mono B4.out.size))
              have hwg := B4.out.size
              clear hbx r0 r1 r2 r3 r4 r5 hb2 z4 a0 a1 a2 E4 X4
              generalize w4.alloc (.cells #[.int .i64 xo, .int .i64 xn, .string ⟨xnm.toArray⟩, .string ⟨xfd.toArray⟩, .slice xA xl xc, .int .i64 xln] 35) = w5 at *
              generalize w4.heap.size = gx at *
              obtain ⟨n', fd, sub, ln, rfl⟩ := HX.out
              unfold ExAt at E5
              have e1 := E5.1
              have e2 := E5.2.2.1
              simp only at e1 e2
              subst e1 e2
              have X5 := Lib.hid XB
              clear XB E5
              go_loopw [15] (fun s15 wr => s15 = .int .i64 0 ∧ w5 = wr) (fun _ _ => 0)
              case atStart => exact ⟨rfl, rfl⟩
              case round =>
                obtain ⟨rfl, rfl⟩ := hrel
                have ⟨a0, _, a1, _, a2, _, _⟩ := X5.out
                go_wp2_with fail
                go_ret
                exact ⟨rfl, B5.out⟩
  · go_enter Try.func4, Try.ntmps4
    go_upto_region 3 with (go_at_call 6; ((with_reducible refine (HK.out).mono ?_); rintro e w2 ⟨rfl, hb⟩; have HB := Lib.hid hb; clear hb HK))
    go_upto_region 8 with (fail)
    clear m1 m2 m3 m4 hz
    go_loopw [6, 9] (fun s6 s9 wr => ∃ i : Nat, s9 = .int .i64 i ∧ i ≤ u ∧ s6 = .string (st (rep i [78, 79, 84, 32])) ∧ w2 = wr) (fun _ i _ => u - (intOf i).toNat)
    case atStart => exact ⟨0, rfl, Nat.zero_le _, rfl, rfl⟩
    case round =>
      obtain ⟨i, rfl, hi, rfl, rfl⟩ := hrel
      obtain ⟨i1, hi1⟩ : ∃ i1, i + 1 = i1 := ⟨_, rfl⟩
      have w1 : IntKind.i64.wrap ((i : Int) + 1) = i1 := by rw [IntKind.wrap_i64]; omega
      by_cases hlt : i < u
      · have z0 : (i : Int) < u := by omega
        have c1 : st (rep i [78, 79, 84, 32]) ++ ⟨#[78, 79, 84, 32]⟩ = st (rep i1 [78, 79, 84, 32]) := by rw [← hi1]; exact st_cat _ _
        have c2 : ¬ 9223372036854775807 < (st (rep i [78, 79, 84, 32])).size + 4 := by
          rw [st_size]
          have := rep_le (k := i) (o := [78, 79, 84, 32]) (by omega) (by simp)
          omega
        have HI := Lib.hid (show i1 ≤ u ∧ i < i1 by omega)
        clear hi1
        go_wp2_with fail
        go_roundw
        case rel => exact ⟨i1, by go_num, HI.out.1, rfl, trivial⟩
        case measure => have := HI.out; simp [intOf]; omega
      · obtain rfl : i = u := by omega
        clear hi1 w1
        have z0 : ¬ (i : Int) < i := by omega
        have c1 : st (rep i [78, 79, 84, 32]) ++ ⟨#[97]⟩ = midT [78, 79, 84, 32] [] i 0 := (st_cat _ _).trans (midT_zero _ _ _)
        have c2 : ¬ 9223372036854775807 < (st (rep i [78, 79, 84, 32])).size + 1 := by
          rw [st_size]
          have := rep_le (k := i) (o := [78, 79, 84, 32]) (by omega) (by simp)
          omega
        go_upto_region 13 with (fail)
        clear c1 c2 z0 hlt hi
        go_loopw [6, 10] (fun s6 s10 wr => ∃ q : Nat, s10 = .int .i64 q ∧ q ≤ i ∧ s6 = .string (midT [78, 79, 84, 32] [] i q) ∧ w2 = wr) (fun _ q _ => i - (intOf q).toNat)
        case atStart => exact ⟨0, rfl, Nat.zero_le _, rfl, rfl⟩
        case round =>
          obtain ⟨q, rfl, hq, rfl, rfl⟩ := hrel
          obtain ⟨q1, hq1⟩ : ∃ q1, q + 1 = q1 := ⟨_, rfl⟩
          have w1 : IntKind.i64.wrap ((q : Int) + 1) = q1 := by rw [IntKind.wrap_i64]; omega
          have hsz : (midT [78, 79, 84, 32] [] i q).size ≤ 400 := by
            rw [show midT [78, 79, 84, 32] [] i q = st ((rep i [78, 79, 84, 32] ++ [97]) ++ rep q []) from rfl, st_size, List.length_append, List.length_append]
            have := rep_le (k := i) (o := [78, 79, 84, 32]) (by omega) (by simp)
            have := rep_le (k := q) (o := []) (by omega) (by simp)
            simp
            omega
          by_cases hlt : q < i
          · have z0 : (q : Int) < i := by omega
            have c1 : midT [78, 79, 84, 32] [] i q ++ ⟨#[]⟩ = midT [78, 79, 84, 32] [] i q1 := by rw [← hq1]; exact midT_next _ _ _ _
            have c2 : ¬ 9223372036854775807 < (midT [78, 79, 84, 32] [] i q).size + 0 := by omega
            have HI := Lib.hid (show q1 ≤ i ∧ q < q1 by omega)
            clear hq1 hsz
            go_wp2_with fail
            go_roundw
            case rel => exact ⟨q1, by go_num, HI.out.1, rfl, trivial⟩
            case measure => have := HI.out; simp [intOf]; omega
          · obtain rfl : q = i := by omega
            clear hq1 w1
            have z0 : ¬ (q : Int) < q := by omega
            obtain ⟨S, hS⟩ : ∃ S, (rep q [78, 79, 84, 32] ++ [97]) ++ rep q [] = S := ⟨_, rfl⟩
            rw [show midT [78, 79, 84, 32] [] q q = st S by rw [← hS]; rfl] at hsz ⊢
            have hN : nestText q [78, 79, 84, 32] [] = ([80, 82, 79, 71, 82, 65, 77, 32, 112, 32, 97, 32, 58, 61, 32] ++ S) ++ [59, 32, 69, 78, 68, 95, 80, 82, 79, 71, 82, 65, 77] := by unfold nestText; rw [hS]
            obtain ⟨T1, hT1⟩ : ∃ T1, (⟨#[80, 82, 79, 71, 82, 65, 77, 32, 112, 32, 97, 32, 58, 61, 32]⟩ : ByteArray) ++ st S = T1 := ⟨_, rfl⟩
            obtain ⟨T2, hT2⟩ : ∃ T2, T1 ++ (⟨#[59, 32, 69, 78, 68, 95, 80, 82, 79, 71, 82, 65, 77]⟩ : ByteArray) = T2 := ⟨_, rfl⟩
            have e1 : T1 = st ([80, 82, 79, 71, 82, 65, 77, 32, 112, 32, 97, 32, 58, 61, 32] ++ S) := by rw [← hT1]; exact st_cat _ _
            have e2 : T2 = st (nestText q [78, 79, 84, 32] []) := by rw [← hT2, e1, hN]; exact st_cat _ _
            have s1 : T1.size ≤ 500 := by rw [e1, st_size, List.length_append]; rw [st_size] at hsz; simp; omega
            have s2 : T2.size ≤ 600 := by rw [← hT2, ByteArray.size_append]; exact Nat.add_le_add s1 (show (13 : Nat) ≤ 100 by omega)
            have k1 : ¬ 9223372036854775807 < 15 + (st S).size := by omega
            have k2 : ¬ 9223372036854775807 < T1.size + 13 := by omega
            have PX := Lib.hid fun W (hMW : MaxL W) => parse_any T2 (by omega) W hMW
            have hl : T2.data.toList = nestText q [78, 79, 84, 32] [] := by rw [e2]; rfl
            unfold GotG at PX
            rw [hl] at PX
            obtain ⟨q1, hq1⟩ : ∃ q1, q + 1 = q1 := ⟨_, rfl⟩
            have w1 : IntKind.i64.wrap ((q : Int) + 1) = q1 := by rw [IntKind.wrap_i64]; omega
            by_cases hdeep : 32 ≤ q
            · obtain ⟨G, ⟨tk, tt, tn, tl, tc⟩, hp, h1, h2⟩ := (nest_deep hdeep hu40).2
              rw [hp] at PX
              simp only at PX h1 h2
              subst h1 h2
              rw [show (tC ⟨tk, tt, tn, 1, 140⟩).toArray = #[.int .i64 tk, .string ⟨tt.toArray⟩, .int .i64 tn, .int .i64 1, .int .i64 140] from rfl] at PX
              have z1 : (32 : Int) < q1 := by omega
              clear hp hl e1 e2 s1 s2 hN hS hsz hq1 hdeep hu40 hq hlt
              go_wp2_with (go_at_call 7; fail)
              with_reducible refine (PX.out _ (MX.out.below HB.out)).mono ?_
              rintro e w3 ⟨⟨gn, ⟨VA, vl, vc⟩, ⟨SA, sl, sc⟩⟩, rfl, _, hb⟩
              have B3 := Lib.hid (HB.out.trans (hb.mono HB.out.size))
              have B4 := Lib.hid (B3.out.trans ((((Below.refl w3.heap.size w3).alloc (Nat.le_refl _) (.cells #[.string ⟨gn.toArray⟩, .slice VA vl vc, .slice SA sl sc] 26)).alloc (by simp) (.cells #[.int .i64 tk, .string ⟨tt.toArray⟩, .int .i64 tn, .int .i64 1, .int .i64 140] 29)).mono B3.out.size))
              simp only [gC, sv, Sl.v]
              clear hb PX HB
              go_wp2_with fail
              go_ret
              exact ⟨rfl, B4.out⟩
            · obtain ⟨gn0, vs, op, nm, d, X, cs, ls, fs, bs, l1, ⟨tk, tt, tn, tl, tc⟩, hp, hX⟩ := (nest_ok (k := q) (by omega)).2
              rw [hp] at PX
              simp only at PX
              rw [show (tC ⟨tk, tt, tn, tl, tc⟩).toArray = #[.int .i64 tk, .string ⟨tt.toArray⟩, .int .i64 tn, .int .i64 tl, .int .i64 tc] from rfl] at PX
              have z1 : ¬ (32 : Int) < q1 := by omega
              have HX := Lib.hid hX
              clear hp hl e1 e2 s1 s2 hN hS hsz hq1 hdeep hq hlt hX
              go_wp2_with (go_at_call 7; fail)
              with_reducible refine (PX.out _ (MX.out.below HB.out)).mono ?_
              rintro e w3 ⟨⟨gn, ⟨VA, vl, vc⟩, ⟨SA, sl, sc⟩⟩, rfl, ⟨h1, h2, K, h3, h4⟩, hb⟩
              have B3 := Lib.hid (HB.out.trans (hb.mono HB.out.size))
              simp only at h3
              simp only [gC, sv, Sl.v]
              unfold StsAt at h4
              obtain ⟨s, K', rfl, h5, h6⟩ := h4
              unfold StsAt at h6
              subst h6
              unfold StAt at h5
              have e5 := h5.2.2.2.2.1
              have g3 : Rd sC 19 w3 w3.heap.size SA sl sc _ := h3
              clear hb PX HB h1 h2 h3 h5
              obtain rfl : 1 = sl := g3.1
              go_upto_region 17 with (fail)
              obtain ⟨x4, _, hb4, hz4⟩ := boxes2 (Below.refl ((w3.alloc (.cells #[.string ⟨gn.toArray⟩, .slice VA vl vc, .slice SA 1 sc] 26)).alloc (.cells #[.int .i64 tk, .string ⟨tt.toArray⟩, .int .i64 tn, .int .i64 tl, .int .i64 tc] 29)).heap.size ((w3.alloc (.cells #[.string ⟨gn.toArray⟩, .slice VA vl vc, .slice SA 1 sc] 26)).alloc (.cells #[.int .i64 tk, .string ⟨tt.toArray⟩, .int .i64 tn, .int .i64 tl, .int .i64 tc] 29)))
              have g4 := (g3.below hb4).more hb4.size
              have E4 := ExAt.below hb4 hb4.size e5
              have B4 := Lib.hid (B3.out.trans (hb4.mono B3.out.size))
              have X4 := Lib.hid x4
              clear x4 hb4 hz4 g3 e5 B3
              generalize ((w3.alloc (.cells #[.string ⟨gn.toArray⟩, .slice VA vl vc, .slice SA 1 sc] 26)).alloc (.cells #[.int .i64 tk, .string ⟨tt.toArray⟩, .int .i64 tn, .int .i64 tl, .int .i64 tc] 29)) = w4 at *
              generalize w3.heap.size = g3 at *
              obtain ⟨b2, o2, rfl, hb2, hc2⟩ := g4.2.2.2.2 (by omega)
              have k4 := g4.2.1
              have z4 : (1 : Int) ≤ sc := by omega
              have r0 := hc2 0 _ rfl 8 _ rfl
              have r1 := hc2 0 _ rfl 9 _ rfl
              have r2 := hc2 0 _ rfl 10 _ rfl
              have r3 := hc2 0 _ rfl 11 _ rfl
              have r4 := hc2 0 _ rfl 12 _ rfl
              have r5 := hc2 0 _ rfl 13 _ rfl
              rw [Nat.zero_mul, Nat.add_zero] at r0 r1 r2 r3 r4 r5
              obtain ⟨sop, snm, sd, ⟨xo, xn, xnm, xfd, ⟨xA, xl, xc⟩, xln⟩, s1, s2, s3, s4, sln⟩ := s
              simp only [sv, Sl.v] at r1 r2 r3 r4 r5 r0
              have E4 := Lib.hid E4
              clear hc2 g4 k4
              have ⟨a0, _, a1, _, a2, _, _⟩ := X4.out
              go_upto_region 23 with (fail)
              have hbx := Below.alloc (Below.refl w4.heap.size w4) (Nat.le_refl _) (.cells #[.int .i64 xo, .int .i64 xn, .string ⟨xnm.toArray⟩, .string ⟨xfd.toArray⟩, .slice xA xl xc, .int .i64 xln] 35)
              have XB := Box.new w4 #[.int .i64 xo, .int .i64 xn, .string ⟨xnm.toArray⟩, .string ⟨xfd.toArray⟩, .slice xA xl xc, .int .i64 xln] 35
              have hzx : w4.heap.size < (w4.alloc (.cells #[.int .i64 xo, .int .i64 xn, .string ⟨xnm.toArray⟩, .string ⟨xfd.toArray⟩, .slice xA xl xc, .int .i64 xln] 35)).heap.size := by simp
              have E5 := ExAt.below hbx (Nat.le_refl _) E4.out
              have B5 := Lib.hid (B4.out.trans (hbx.mono B4.out.size))
              have hwg := B4.out.size
              clear hbx r0 r1 r2 r3 r4 r5 hb2 z4 a0 a1 a2 E4 X4
              generalize w4.alloc (.cells #[.int .i64 xo, .int .i64 xn, .string ⟨xnm.toArray⟩, .string ⟨xfd.toArray⟩, .slice xA xl xc, .int .i64 xln] 35) = w5 at *
              generalize w4.heap.size = gx at *
              have X5 := Lib.hid XB
              have E5 := Lib.hid E5
              have Z5 := Lib.hid hzx
              have WG := Lib.hid hwg
              clear XB hzx hwg
              go_loopw [15] (fun s15 wr => ∃ (i : Nat) (h : EH) (Y : Ex), s15 = .int .i64 i ∧ i ≤ q ∧ Tow (q - i) Y ∧ ExAt wr gx Y h ∧ Box wr gx 0 (eC h) ∧ Below w.heap.size w wr ∧ gx < wr.heap.size) (fun i _ => q - (intOf i).toNat)
              case atStart => exact ⟨0, ⟨xo, xn, xnm, xfd, ⟨xA, xl, xc⟩, xln⟩, X, rfl, Nat.zero_le _, HX.out, E5.out, X5.out, B5.out, Z5.out⟩
              case round =>
                obtain ⟨i, ⟨yo, yn, ynm, yfd, ⟨yA, yl, yc⟩, yln⟩, Y, rfl, hi, hT, hE, hX, hB, hZ⟩ := hrel
                have HB5 := Lib.hid hB
                have HZ5 := Lib.hid hZ
                simp only [eC, sv, Sl.v] at hX
                have HX5 := Lib.hid hX
                clear X5 E5 Z5 B5 hB hZ hX
                by_cases hlt : i < q
                · obtain ⟨j, hj⟩ : ∃ j, q - i = j + 1 := ⟨q - i - 1, by omega⟩
                  rw [hj] at hT
                  obtain ⟨n', nm', fd', y, ln', rfl, hT⟩ := hT
                  unfold ExAt at hE
                  obtain ⟨e1, _, _, _, _, H, g1, g2⟩ := hE
                  unfold ExsAt at g2
                  obtain ⟨⟨vo, vn, vnm, vfd, ⟨vA, vl2, vc2⟩, vln⟩, H', rfl, g3, g4⟩ := g2
                  unfold ExsAt at g4
                  subst g4
                  simp only at e1
                  subst e1
                  have g1 : Rd eC 6 wr gx yA yl yc _ := g1
                  obtain rfl : 1 = yl := g1.1
                  obtain ⟨b, o, rfl, hb, hc⟩ := g1.2.2.2.2 (by omega)
                  have kc := g1.2.1
                  have z0 : (i : Int) < q := by omega
                  have z1 : (1 : Int) ≤ yc := by omega
                  have r0 := hc 0 _ rfl 0 _ rfl
                  have r1 := hc 0 _ rfl 1 _ rfl
                  have r2 := hc 0 _ rfl 2 _ rfl
                  have r3 := hc 0 _ rfl 3 _ rfl
                  have r4 := hc 0 _ rfl 4 _ rfl
                  have r5 := hc 0 _ rfl 5 _ rfl
                  rw [Nat.zero_mul, Nat.add_zero] at r0 r1 r2 r3 r4 r5
                  simp only [sv, Sl.v] at r1 r2 r3 r4 r5 r0
                  have w1 : IntKind.i64.wrap ((i : Int) + 1) = ((i + 1 : Nat) : Int) := by rw [IntKind.wrap_i64]; omega
                  have GT := Lib.hid hT
                  have G3 := Lib.hid g3
                  have HJ := Lib.hid hj
                  have HI := Lib.hid (show i + 1 ≤ q by omega)
                  have nb : ¬ b = gx := by omega
                  have nb2 : ¬ gx = b := by omega
                  clear hc g1 g3 hT kc hj
                  have ⟨a0, f0, a1, f1, a2, f2, a3, f3, a4, f4, a5, f5, _⟩ := HX5.out
                  go_wp2_with fail
                  go_roundw
                  case rel =>
                    obtain ⟨y1, y2, y3⟩ := Box.puts (us := [.int .i64 vo, .int .i64 vn, .string ⟨vnm.toArray⟩, .string ⟨vfd.toArray⟩, .slice vA vl2 vc2, .int .i64 vln]) HX5.out rfl
                    exact ⟨i + 1, ⟨vo, vn, vnm, vfd, ⟨vA, vl2, vc2⟩, vln⟩, y, by go_num, HI.out, by rw [show q - (i + 1) = j by have := HJ.out; omega]; exact GT.out, ExAt.below (y3 gx (Nat.le_refl _)) (Nat.le_refl _) G3.out, y1, HB5.out.trans (y3 _ WG.out), Nat.lt_of_lt_of_eq HZ5.out y2.symm⟩
                  case measure => have := HI.out; simp [intOf]; omega
                · obtain rfl : i = q := by omega
                  rw [Nat.sub_self] at hT
                  obtain ⟨n', fd, sub, ln, rfl⟩ := hT
                  unfold ExAt at hE
                  have e1 := hE.1
                  have e2 := hE.2.2.1
                  simp only at e1 e2
                  subst e1 e2
                  have z0 : ¬ (i : Int) < i := by omega
                  clear hE
                  have ⟨a0, _, a1, _, a2, _, _⟩ := HX5.out
                  go_wp2_with fail
                  go_ret
                  exact ⟨rfl, HB5.out⟩
end Go.Proofs.Ytbcpkhegmbdifaa.treeNests
