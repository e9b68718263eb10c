/- The walk of the law TokPlaces: whatever the text: it returns true, and what was in memory is as it was. -/
import Derived.Test.YthdkkdgjcfjinaaTkAwake
import Derived.Test.YthdkkdgjcfjinaaTkPlaced
namespace Go.Proofs.Ythdkkdgjcfjinaa.tokPlaces
open Go.ChangeShapes Go.WideShapes Go.ChangeAt Go.RowKit Go.Proofs.Ythdkkdgjcfjinaa.k Go.Proofs.Ythdkkdgjcfjinaa.rr Go.Proofs.Ythdkkdgjcfjinaa.tk Go.Proofs.Ythdkkdgjcfjinaa
set_option linter.unusedVariables false

theorem extract_size (s : ByteArray) (m : Nat) : (s.extract 0 m).size ≤ m := by
  rw [ByteArray.size_extract]
  omega
set_option maxRecDepth 100000 in
set_option maxHeartbeats 8000000 in
theorem walk (s : ByteArray) (w : World) (hs : s.size ≤ maxLen) (hM : MaxL w) :
    Calls Try.prog 5 #[.string s] w fun e w' => e = .returned (.bool true) ∧ Below w.heap.size w w' := by
  have HK := Lib.hid (awake_any w hM)
  have MX := Lib.hid hM
  clear hM
  have ht : (s.extract 0 (min (s.size : Int) 1500).toNat).size ≤ 1500 := Nat.le_trans (extract_size _ _) (by omega)
  have hs2 : (s.size : Int) ≤ 9223372036854775807 := by unfold maxLen at hs; omega
  clear hs
  go_enter Try.func5, Try.ntmps5
  go_upto_region 3 with (go_at_call 7; ((with_reducible refine (HK.out).mono ?_); rintro e w2 ⟨rfl, hb⟩; have HB := Lib.hid hb; clear hb HK))
  go_upto_region 4 with (fail)
  generalize s.extract 0 (min (s.size : Int) 1500).toNat = t at *
  have LX := Lib.hid fun W (hMW : MaxL W) => lex_any t (by omega) W hMW
  unfold GotL at LX
  obtain ⟨⟨er, M, ⟨pk, pt, pn, pl, pc⟩⟩, hlx⟩ : ∃ R, lex t.data.toList = R := ⟨_, rfl⟩
  rw [hlx] at LX
  simp only at LX
  rw [show (tC ⟨pk, pt, pn, pl, pc⟩).toArray = #[.int .i64 pk, .string ⟨pt.toArray⟩, .int .i64 pn, .int .i64 pl, .int .i64 pc] from rfl] at LX
  have hpl := lex_placed hlx
  have HT := Lib.hid ht
  clear hlx hs2 ht
  by_cases her : er = 0
  · obtain ⟨hP, hz⟩ := hpl.1 her
    subst her
    unfold zeroT at hz
    cases hz
    have HP := Lib.hid hP
    clear hpl hP
    go_upto_region 5 with (go_at_call 8; ((with_reducible refine (LX.out _ (MX.out.below HB.out)).mono ?_); rintro e w3 ⟨A, n, c, rfl, hr, hb⟩; have R1 := Lib.hid hr; have B3 := Lib.hid (HB.out.trans (hb.mono HB.out.size)); clear hr hb))
    obtain ⟨x5, hb5, hz5⟩ := boxes1 (Below.refl (w3.alloc (.cells #[.int .i64 0, .string ⟨#[]⟩, .int .i64 0, .int .i64 0, .int .i64 0] 26)).heap.size (w3.alloc (.cells #[.int .i64 0, .string ⟨#[]⟩, .int .i64 0, .int .i64 0, .int .i64 0] 26)))
    have X5 := Lib.hid x5
    have S1 := Lib.hid ((R1.out.below hb5).more hb5.size)
    clear R1
    have B4 := Lib.hid (B3.out.trans (hb5.mono B3.out.size))
    have Z5 := Lib.hid hz5
    go_upto_region 9 with (fail)
    generalize hw4 : w3.alloc (.cells #[.int .i64 0, .string ⟨#[]⟩, .int .i64 0, .int .i64 0, .int .i64 0] 26) = w4 at *
    generalize w3.heap.size = g5 at *
    obtain rfl : M.length = n := S1.out.1
    have hml := S1.out.len_le
    have hcap := S1.out.2.1
    clear x5 hb5 hz5 LX B3 hw4
    have hN : t.data.toList.length = t.size := size_len t
    go_loopw [6, 7, 8, 9] (fun s6 s7 s8 s9 wr => ∃ (i q ln cl : Nat), i ≤ t.size + 1 ∧ s9 = .int .i64 i ∧ s8 = .int .i64 q ∧ s6 = .int .i64 ln ∧ s7 = .int .i64 cl ∧ (i ≤ t.size → (ln, cl) = plc (t.data.toList.take i)) ∧ q ≤ M.length ∧ (q = M.length ∨ Placed t.data.toList i (M.drop q)) ∧ (ln ≤ i + 1 ∧ cl ≤ i + 2) ∧ rr.Rd tC 5 wr wr.heap.size A M.length c M ∧ Box wr g5 0 [.int .i64 0, .string ⟨#[]⟩, .int .i64 0, .int .i64 0, .int .i64 0] ∧ g5 < wr.heap.size ∧ Below w.heap.size w wr) (fun _ _ _ i _ => t.size + 1 - (intOf i).toNat)
    case atStart => exact ⟨0, 0, 1, 1, by omega, rfl, rfl, rfl, rfl, fun _ => rfl, Nat.zero_le _, .inr HP.out, by omega, S1.out, X5.out, Z5.out, B4.out⟩
    case round =>
      obtain ⟨i, q, ln, cl, hi, rfl, rfl, rfl, rfl, hpc, hq, hd, hlc, hr, hx, hz, hb⟩ := hrel
      clear S1 X5 B4 Z5
      have S1 := Lib.hid hr
      have X5 := Lib.hid hx
      have Z5 := Lib.hid hz
      have B4 := Lib.hid hb
      have HQ := Lib.hid hq
      have HLC := Lib.hid hlc
      have HT1 := HT.out
      have HI := Lib.hid hi
      clear hr hx hz hb
      by_cases hin : i ≤ t.size
      · have hpc := hpc hin
        have hz1 : (i : Int) ≤ t.size := by omega
        have w1 : IntKind.i64.wrap ((cl : Int) + 1) = cl + 1 := by rw [IntKind.wrap_i64]; omega
        have w2 : IntKind.i64.wrap ((ln : Int) + 1) = ln + 1 := by rw [IntKind.wrap_i64]; omega
        have w3 : IntKind.i64.wrap ((i : Int) + 1) = i + 1 := by rw [IntKind.wrap_i64]; omega
        by_cases hqm : q = M.length
        · have hzq : ¬ ((q : Int) < M.length) := by omega
          have ND : Hid (q = M.length ∨ Placed t.data.toList (i + 1) (M.drop q)) := Lib.hid (.inl hqm)
          by_cases hil : i < t.size
          · obtain ⟨x, hx⟩ : ∃ x : UInt8, t[i] = x := ⟨_, rfl⟩
            have hzi : (i : Int) < t.size := by omega
            have hst : plc (t.data.toList.take (i + 1)) = stepP (ln, cl) x := by rw [plc_next (by omega), ← hpc, ← hx]; rfl
            have e8 := eq8 x 10
            rw [show ((10 : UInt8).toNat : Int) = 10 from rfl] at e8
            by_cases h10 : x = 10
            · have NP : Hid (i + 1 ≤ t.size → (ln + 1, 1) = plc (t.data.toList.take (i + 1))) := Lib.hid fun _ => by rw [hst]; unfold stepP; rw [if_pos h10]
              have h11 : ((x.toNat : Int) == 10) = true := by rw [e8, beq_iff_eq]; exact h10
              clear e8 h10 hst
              clear hd hpc hlc hq hi
              go_wp2_with fail
              go_roundw
              case rel =>
                have h1 := HLC.out
                have h2 := HQ.out
                exact ⟨i + 1, q, (ln + 1), 1, by omega, by go_num, rfl, by go_num, rfl, NP.out, by omega, ND.out, by omega, S1.out, X5.out, Z5.out, B4.out⟩
              case measure => have h2 := HI.out; simp [intOf]; omega
            · have NP : Hid (i + 1 ≤ t.size → (ln, cl + 1) = plc (t.data.toList.take (i + 1))) := Lib.hid fun _ => by rw [hst]; unfold stepP; rw [if_neg h10]
              have h11 : ((x.toNat : Int) == 10) = false := by rw [e8, beq_eq_false_iff_ne]; exact h10
              clear e8 h10 hst
              clear hd hpc hlc hq hi
              go_wp2_with fail
              go_roundw
              case rel =>
                have h1 := HLC.out
                have h2 := HQ.out
                exact ⟨i + 1, q, ln, (cl + 1), by omega, by go_num, rfl, rfl, by go_num, NP.out, by omega, ND.out, by omega, S1.out, X5.out, Z5.out, B4.out⟩
              case measure => have h2 := HI.out; simp [intOf]; omega
          · have hzi : ¬ ((i : Int) < t.size) := by omega
            have NP : Hid (i + 1 ≤ t.size → (ln, cl + 1) = plc (t.data.toList.take (i + 1))) := Lib.hid fun h => by omega
            clear hd hpc hlc hq hi
            go_wp2_with fail
            go_roundw
            case rel =>
              have h1 := HLC.out
              have h2 := HQ.out
              exact ⟨i + 1, q, ln, (cl + 1), by omega, by go_num, rfl, rfl, by go_num, NP.out, by omega, ND.out, by omega, S1.out, X5.out, Z5.out, B4.out⟩
            case measure => have h2 := HI.out; simp [intOf]; omega
        · have hql : q < M.length := by omega
          have hzq : (q : Int) < M.length := by omega
          have hd := hd.resolve_left hqm
          have hdr := List.drop_eq_getElem_cons hql
          obtain ⟨u, hu⟩ : ∃ u, M[q] = u := ⟨_, rfl⟩
          rw [hu] at hdr
          rw [hdr] at hd
          obtain ⟨p, hp1, hp2, hp3, hp4, hp5, hp6⟩ := hd
          obtain ⟨b, off, rfl, hbw, hc⟩ := S1.out.2.2.2.2 (by omega)
          have hge : M[q]? = some u := by rw [List.getElem?_eq_getElem hql, hu]
          have q1 := hc q u hge 1 _ rfl
          have q3 := hc q u hge 3 _ rfl
          have q4 := hc q u hge 4 _ rfl
          have w4 : IntKind.i64.wrap ((q : Int) + 1) = q + 1 := by rw [IntKind.wrap_i64]; omega
          clear hc hge hu hqm
          by_cases hpi : p = i
          · subst hpi
            rw [← hpc] at hp3
            injection hp3 with hl1 hl2
            rw [hl1] at q3
            rw [hl2] at q4
            have ND : Hid (q + 1 = M.length ∨ Placed t.data.toList (p + 1) (M.drop (q + 1))) := Lib.hid (by
              rcases hp6 with ⟨h, _⟩ | h
              · left
                have := congrArg List.length hdr
                rw [List.length_drop, List.length_cons, h] at this
                simp at this
                omega
              · exact .inr h)
            have hex : t.extract p (p + u.text.length) = ⟨u.text.toArray⟩ := by
              rw [extract_dr, show p + u.text.length - p = u.text.length by omega]
              congr 1
              exact congrArg _ hp4
            have hsz : (⟨u.text.toArray⟩ : ByteArray).size = u.text.length := by simp [ByteArray.size]
            have hd := 0
            generalize (⟨u.text.toArray⟩ : ByteArray) = tb at *
            generalize u.text.length = tl at *
            have y1 : IntKind.i64.wrap ((t.size : Int) - p) = t.size - p := by rw [IntKind.wrap_i64]; omega
            have y2 : IntKind.i64.wrap ((p : Int) + tl) = p + tl := by rw [IntKind.wrap_i64]; omega
            have y3 : ¬ ((t.size : Int) - p < tl) := by omega
            have y4 : (p : Int) ≤ p + tl := by omega
            have y5 : (p : Int) + tl ≤ t.size := by omega
            have y6 : ((p : Int) + tl).toNat = p + tl := by omega
            clear hp1 hp2 hp4 hp5 hp6 hdr hl1 hl2
            by_cases hil : p < t.size
            · obtain ⟨x, hx⟩ : ∃ x : UInt8, t[p] = x := ⟨_, rfl⟩
              have hzi : (p : Int) < t.size := by omega
              have hst : plc (t.data.toList.take (p + 1)) = stepP (ln, cl) x := by rw [plc_next (by omega), ← hpc, ← hx]; rfl
              have e8 := eq8 x 10
              rw [show ((10 : UInt8).toNat : Int) = 10 from rfl] at e8
              by_cases h10 : x = 10
              · have NP : Hid (p + 1 ≤ t.size → (ln + 1, 1) = plc (t.data.toList.take (p + 1))) := Lib.hid fun _ => by rw [hst]; unfold stepP; rw [if_pos h10]
                have h11 : ((x.toNat : Int) == 10) = true := by rw [e8, beq_iff_eq]; exact h10
                clear e8 h10 hst
                clear hd hpc hlc hq hi
                go_upto_region 12 with (fail)
                go_quiet (fail)
                go_wp2_with fail
                go_roundw
                case rel =>
                  have h1 := HLC.out
                  have h2 := HQ.out
                  exact ⟨p + 1, (q + 1), (ln + 1), 1, by omega, by go_num, by go_num, by go_num, rfl, NP.out, by omega, ND.out, by omega, S1.out.drewN nq, X5.out.drawn nq, Z5.out, below_drawn B4.out nq⟩
                case measure => have h2 := HI.out; simp [intOf]; omega
              · have NP : Hid (p + 1 ≤ t.size → (ln, cl + 1) = plc (t.data.toList.take (p + 1))) := Lib.hid fun _ => by rw [hst]; unfold stepP; rw [if_neg h10]
                have h11 : ((x.toNat : Int) == 10) = false := by rw [e8, beq_eq_false_iff_ne]; exact h10
                clear e8 h10 hst
                clear hd hpc hlc hq hi
                go_upto_region 12 with (fail)
                go_quiet (fail)
                go_wp2_with fail
                go_roundw
                case rel =>
                  have h1 := HLC.out
                  have h2 := HQ.out
                  exact ⟨p + 1, (q + 1), ln, (cl + 1), by omega, by go_num, by go_num, rfl, by go_num, NP.out, by omega, ND.out, by omega, S1.out.drewN nq, X5.out.drawn nq, Z5.out, below_drawn B4.out nq⟩
                case measure => have h2 := HI.out; simp [intOf]; omega
            · have hzi : ¬ ((p : Int) < t.size) := by omega
              have NP : Hid (p + 1 ≤ t.size → (ln, cl + 1) = plc (t.data.toList.take (p + 1))) := Lib.hid fun h => by omega
              clear hd hpc hlc hq hi
              go_upto_region 12 with (fail)
              go_quiet (fail)
              go_wp2_with fail
              go_roundw
              case rel =>
                have h1 := HLC.out
                have h2 := HQ.out
                exact ⟨p + 1, (q + 1), ln, (cl + 1), by omega, by go_num, by go_num, rfl, by go_num, NP.out, by omega, ND.out, by omega, S1.out.drewN nq, X5.out.drawn nq, Z5.out, below_drawn B4.out nq⟩
              case measure => have h2 := HI.out; simp [intOf]; omega
          · have ND : Hid (q = M.length ∨ Placed t.data.toList (i + 1) (M.drop q)) := Lib.hid (.inr (by rw [hdr]; exact ⟨p, by omega, hp2, hp3, hp4, hp5, hp6⟩))
            have hne : ¬ (u.line = ln ∧ u.col = cl) := fun h => hpi (plc_inj hp1 hp2 (by rw [← hp3, ← hpc, h.1, h.2]))
            have hd := 0
            clear hp1 hp2 hp3 hp4 hp5 hp6 hdr hpi q1
            by_cases hll : u.line = ln
            · have g1 : ((u.line : Int) == ln) = true := by rw [beq_iff_eq]; omega
              have g2 : ((u.col : Int) == cl) = false := by rw [beq_eq_false_iff_ne]; intro h; exact hne ⟨hll, by omega⟩
              clear hne hll
              by_cases hil : i < t.size
              · obtain ⟨x, hx⟩ : ∃ x : UInt8, t[i] = x := ⟨_, rfl⟩
                have hzi : (i : Int) < t.size := by omega
                have hst : plc (t.data.toList.take (i + 1)) = stepP (ln, cl) x := by rw [plc_next (by omega), ← hpc, ← hx]; rfl
                have e8 := eq8 x 10
                rw [show ((10 : UInt8).toNat : Int) = 10 from rfl] at e8
                by_cases h10 : x = 10
                · have NP : Hid (i + 1 ≤ t.size → (ln + 1, 1) = plc (t.data.toList.take (i + 1))) := Lib.hid fun _ => by rw [hst]; unfold stepP; rw [if_pos h10]
                  have h11 : ((x.toNat : Int) == 10) = true := by rw [e8, beq_iff_eq]; exact h10
                  clear e8 h10 hst
                  clear hd hpc hlc hq hi
                  go_wp2_with fail
                  go_roundw
                  case rel =>
                    have h1 := HLC.out
                    have h2 := HQ.out
                    exact ⟨i + 1, q, (ln + 1), 1, by omega, by go_num, rfl, by go_num, rfl, NP.out, by omega, ND.out, by omega, S1.out, X5.out, Z5.out, B4.out⟩
                  case measure => have h2 := HI.out; simp [intOf]; omega
                · have NP : Hid (i + 1 ≤ t.size → (ln, cl + 1) = plc (t.data.toList.take (i + 1))) := Lib.hid fun _ => by rw [hst]; unfold stepP; rw [if_neg h10]
                  have h11 : ((x.toNat : Int) == 10) = false := by rw [e8, beq_eq_false_iff_ne]; exact h10
                  clear e8 h10 hst
                  clear hd hpc hlc hq hi
                  go_wp2_with fail
                  go_roundw
                  case rel =>
                    have h1 := HLC.out
                    have h2 := HQ.out
                    exact ⟨i + 1, q, ln, (cl + 1), by omega, by go_num, rfl, rfl, by go_num, NP.out, by omega, ND.out, by omega, S1.out, X5.out, Z5.out, B4.out⟩
                  case measure => have h2 := HI.out; simp [intOf]; omega
              · have hzi : ¬ ((i : Int) < t.size) := by omega
                have NP : Hid (i + 1 ≤ t.size → (ln, cl + 1) = plc (t.data.toList.take (i + 1))) := Lib.hid fun h => by omega
                clear hd hpc hlc hq hi
                go_wp2_with fail
                go_roundw
                case rel =>
                  have h1 := HLC.out
                  have h2 := HQ.out
                  exact ⟨i + 1, q, ln, (cl + 1), by omega, by go_num, rfl, rfl, by go_num, NP.out, by omega, ND.out, by omega, S1.out, X5.out, Z5.out, B4.out⟩
                case measure => have h2 := HI.out; simp [intOf]; omega
            · have g1 : ((u.line : Int) == ln) = false := by rw [beq_eq_false_iff_ne]; intro h; exact hll (by omega)
              clear hne hll
              by_cases hil : i < t.size
              · obtain ⟨x, hx⟩ : ∃ x : UInt8, t[i] = x := ⟨_, rfl⟩
                have hzi : (i : Int) < t.size := by omega
                have hst : plc (t.data.toList.take (i + 1)) = stepP (ln, cl) x := by rw [plc_next (by omega), ← hpc, ← hx]; rfl
                have e8 := eq8 x 10
                rw [show ((10 : UInt8).toNat : Int) = 10 from rfl] at e8
                by_cases h10 : x = 10
                · have NP : Hid (i + 1 ≤ t.size → (ln + 1, 1) = plc (t.data.toList.take (i + 1))) := Lib.hid fun _ => by rw [hst]; unfold stepP; rw [if_pos h10]
                  have h11 : ((x.toNat : Int) == 10) = true := by rw [e8, beq_iff_eq]; exact h10
                  clear e8 h10 hst
                  clear hd hpc hlc hq hi
                  go_wp2_with fail
                  go_roundw
                  case rel =>
                    have h1 := HLC.out
                    have h2 := HQ.out
                    exact ⟨i + 1, q, (ln + 1), 1, by omega, by go_num, rfl, by go_num, rfl, NP.out, by omega, ND.out, by omega, S1.out, X5.out, Z5.out, B4.out⟩
                  case measure => have h2 := HI.out; simp [intOf]; omega
                · have NP : Hid (i + 1 ≤ t.size → (ln, cl + 1) = plc (t.data.toList.take (i + 1))) := Lib.hid fun _ => by rw [hst]; unfold stepP; rw [if_neg h10]
                  have h11 : ((x.toNat : Int) == 10) = false := by rw [e8, beq_eq_false_iff_ne]; exact h10
                  clear e8 h10 hst
                  clear hd hpc hlc hq hi
                  go_wp2_with fail
                  go_roundw
                  case rel =>
                    have h1 := HLC.out
                    have h2 := HQ.out
                    exact ⟨i + 1, q, ln, (cl + 1), by omega, by go_num, rfl, rfl, by go_num, NP.out, by omega, ND.out, by omega, S1.out, X5.out, Z5.out, B4.out⟩
                  case measure => have h2 := HI.out; simp [intOf]; omega
              · have hzi : ¬ ((i : Int) < t.size) := by omega
                have NP : Hid (i + 1 ≤ t.size → (ln, cl + 1) = plc (t.data.toList.take (i + 1))) := Lib.hid fun h => by omega
                clear hd hpc hlc hq hi
                go_wp2_with fail
                go_roundw
                case rel =>
                  have h1 := HLC.out
                  have h2 := HQ.out
                  exact ⟨i + 1, q, ln, (cl + 1), by omega, by go_num, rfl, rfl, by go_num, NP.out, by omega, ND.out, by omega, S1.out, X5.out, Z5.out, B4.out⟩
                case measure => have h2 := HI.out; simp [intOf]; omega
      · obtain rfl : i = t.size + 1 := by omega
        have hqe : q = M.length := by
          rcases hd with h | h
          · exact h
          · exfalso
            match hMd : M.drop q, h with
            | [], h => exact h
            | u :: l, ⟨p, h1, h2, _⟩ => omega
        subst hqe
        obtain ⟨u, hu1, hu2⟩ := HP.out.last
        have hpos : 1 ≤ M.length := by
          rcases Nat.eq_zero_or_pos M.length with h | h
          · rw [List.eq_nil_of_length_eq_zero h] at hu1
            cases hu1
          · exact h
        obtain ⟨b, off, rfl, hbw, hc⟩ := S1.out.2.2.2.2 hpos
        have q1 := hc (M.length - 1) u hu1 0 _ rfl
        rw [hu2, Nat.add_zero] at q1
        have hz2 : ¬ (((t.size + 1 : Nat) : Int) ≤ t.size) := by omega
        have w5 : IntKind.i64.wrap ((M.length : Int) - 1) = M.length - 1 := by rw [IntKind.wrap_i64]; omega
        have y1 : (0 : Int) ≤ (M.length : Int) - 1 := by omega
        have y2 : (M.length : Int) - 1 < M.length := by omega
        have y3 : ((M.length : Int) - 1).toNat = M.length - 1 := by omega
        have ⟨a0, _, a1, _, a2, _, a3, _, a4, _, _⟩ := X5.out
        clear hc hu1 hu2 hd hpc HP hlc hq
        go_wp2_with fail
        go_ret
        exact ⟨rfl, B4.out⟩
  · obtain ⟨hM, hz, h1, h2⟩ := hpl.2 her
    injection hz with z1 z2 z3 z4 z5
    subst z1 z2 z3 hM
    simp only at h1 h2
    have hner : (er != 0) = true := by rw [bne_iff_ne]; exact her
    have g1 : (1 : Int) ≤ pl := by omega
    have g2 : (1 : Int) ≤ pc := by omega
    rw [show (⟨([] : List UInt8).toArray⟩ : ByteArray) = ⟨#[]⟩ from rfl] at LX
    clear hpl z4 z5 h1 h2 her
    go_wp2_with (go_at_call 8; ((with_reducible refine (LX.out _ (MX.out.below HB.out)).mono ?_); rintro e w3 ⟨A, n, c, rfl, hr, hb⟩; obtain rfl : 0 = n := hr.1; have B3 := Lib.hid (HB.out.trans (hb.mono HB.out.size)); clear hr hb))
    go_ret
    exact ⟨rfl, B3.out.trans ((Below.refl _ _).alloc B3.out.size _)⟩
end Go.Proofs.Ythdkkdgjcfjinaa.tokPlaces
