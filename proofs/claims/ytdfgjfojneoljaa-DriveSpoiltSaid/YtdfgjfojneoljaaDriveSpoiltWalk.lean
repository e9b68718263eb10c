/- The walk of the law DriveSpoilt: any drive, any frame and any two bytes side by side changed: it returns true, and what was in memory is as it was. -/
import Derived.Test.YtdfgjfojneoljaaJAwake
import Derived.Test.YtdfgjfojneoljaaTSpoil
namespace Go.Proofs.Ytdfgjfojneoljaa.driveSpoilt
open Go.ChangeShapes Go.WideShapes Go.ChangeAt Go.RowKit Go.Proofs.Ytdfgjfojneoljaa.s Go.Proofs.Ytdfgjfojneoljaa.t Go.Proofs.Ytdfgjfojneoljaa.j Go.Proofs.Ytdfgjfojneoljaa
set_option linter.unusedVariables false

theorem wide {a : Int} (h : (Lit.int .i64 a).wf = true) : -9223372036854775808 ≤ a ∧ a ≤ 9223372036854775807 := k.wf64 h
theorem not_counts (last : Int) (l : List (BitVec 8)) (h : rE signF 127 l ≠ 0) : cnt last l = false := cnt_no fun hc => h hc.1
/-- behind spoilt bytes a drive is as behind none -/
theorem as_none (d : D) (hw : WideD d) (l : List (BitVec 8)) (h : rE signF 127 l ≠ 0) (n : Nat) (hn : l.length = n) (hl : l.length ≤ 10000) : ∃ r : D,
    (∀ (B : Nat) (A : Option Addr) (cap : Nat), n ≤ cap → cap ≤ maxLen → ∀ (W : World), Bytes W B A l → B ≤ W.heap.size → Calls Try.prog 11 #[dV d, .slice A n cap] W fun e w' => e = .returned (dV r) ∧ Below W.heap.size W w') ∧
    (∀ W : World, Calls Try.prog 11 #[dV d, .slice none 0 0] W fun e w' => e = .returned (dV r) ∧ Below W.heap.size W w') := by
  by_cases hr : RightD d
  · refine ⟨missedD d, fun B A cap h1 h2 W hb hB => ?_, fun W => ?_⟩
    · have c := come_ok d hr l n hn hl B A cap h1 h2 W hb hB
      rwa [come_no (not_counts _ _ h)] at c
    · have c := come_ok d hr [] 0 rfl (by simp) 0 none 0 (Nat.le_refl _) (by unfold maxLen; omega) W (fun h => absurd h (by simp)) (Nat.zero_le _)
      rwa [come_no (not_counts _ _ (by rw [rE_short (by decide)]; decide))] at c
  · exact ⟨noD, fun B A cap _ _ W _ _ => come_bad d hw hr A n cap W, fun W => come_bad d hw hr none 0 0 W⟩
set_option maxRecDepth 100000 in
set_option maxHeartbeats 4000000 in
theorem walk (st : Int) (lim : Int) (mis : Int) (last : Int) (pc : Int) (pv : Bool) (po : Int) (mc : Int) (mv : Bool) (mo : Int) (hc : Int) (hv : Bool) (ho : Int) (act : Int) (kn : Bool) (sq : Int) (f0 f1 f2 : Int) (a : Int) (x : Int) (y : Int) (w : World) (u0 : (Lit.int .i64 st).wf = true) (u1 : (Lit.int .i64 lim).wf = true) (u2 : (Lit.int .i64 mis).wf = true) (u3 : (Lit.int .i64 last).wf = true) (u4 : (Lit.int .i64 pc).wf = true) (u6 : (Lit.int .i64 po).wf = true) (u7 : (Lit.int .i64 mc).wf = true) (u9 : (Lit.int .i64 mo).wf = true) (u10 : (Lit.int .i64 hc).wf = true) (u12 : (Lit.int .i64 ho).wf = true) (u13 : (Lit.int .i64 act).wf = true) (u15 : (Lit.int .i64 sq).wf = true) (v0 : (Lit.int .i64 f0).wf = true) (v1 : (Lit.int .i64 f1).wf = true) (v2 : (Lit.int .i64 f2).wf = true) (w1 : (Lit.int .i64 a).wf = true) (w2 : (Lit.int .u8 x).wf = true) (w3 : (Lit.int .u8 y).wf = true) :
    Calls Try.prog 5 #[.agg #[.int .i64 st, .int .i64 lim, .int .i64 mis, .int .i64 last, .int .i64 pc, .bool pv, .int .i64 po, .int .i64 mc, .bool mv, .int .i64 mo, .int .i64 hc, .bool hv, .int .i64 ho, .int .i64 act, .bool kn, .int .i64 sq], .agg #[.int .i64 f0, .int .i64 f1, .int .i64 f2], .int .i64 a, .int .u8 x, .int .u8 y] w fun e w' => e = .returned (.bool true) ∧ Below w.heap.size w w' := by
  have hp := wide v2
  obtain ⟨x, rfl⟩ := isByte w2
  obtain ⟨y, rfl⟩ := isByte w3
  have ha := wide w1
  have hWD : WideD ⟨st, lim, mis, last, pc, pv, po, mc, mv, mo, hc, hv, ho, act, kn, sq⟩ := ⟨wide u4, wide u7, wide u10⟩
  have HK := Lib.hid fun W => awake_any W
  clear u0 u1 u2 u3 u4 u6 u7 u9 u10 u12 u13 u15 v0 v1 v2 w1 w2 w3
  rcases put_cases 127 f0 f1 (by decide) with h1 | ⟨sq1, wd1, rfl, rfl, hm1⟩
  · have p1 := fun W => ref_put_no signF 127 f0 f1 f2 h1 W
    rw [signF_val] at p1
    have HP := Lib.hid p1
    clear h1 p1 hWD
    go_enter Try.func5, Try.ntmps5
    go_wp2_with (first
      | (go_at_call 7; ((with_reducible refine (HK.out _).mono ?_); rintro e w1 ⟨rfl, hb⟩; obtain ⟨x1, x2, x3, x4⟩ := k.boxes2 hb; have X1 := Lib.hid x1; have G1 := Lib.hid x2; have H1 := Lib.hid x3; clear hb x1 x2 x3; obtain ⟨gc0, gf0, gc1, gf1, gc2, gf2, _⟩ := G1.out))
      | (go_at_call 17; ((with_reducible refine (HP.out _).mono ?_); rintro e w2 ⟨A2, cap2, rfl, _, hb2⟩; have H2 := Lib.hid (H1.out.trans (hb2.mono H1.out.size)); clear hb2)))
    go_ret
    exact ⟨rfl, H2.out⟩
  · have p1 := fun W => put_ok signF sq1 wd1 127 f2 hm1 W
    rw [signF_val] at p1
    have hr := (read_back signF sq1 wd1 127 f2 hm1 hp.1 hp.2).1
    have hf : Fits (frameV signF sq1 wd1 (place64 f2)) := frame_fits _ _ _ _
    have hl : (frameV signF sq1 wd1 (place64 f2)).length = 13 := frame_length _ _ _ _
    generalize frameV signF sq1 wd1 (place64 f2) = L at p1 hr hf hl
    have HP := Lib.hid p1
    clear p1 hp hm1
    have HLL := Lib.hid hl
    by_cases hin : a < 0 ∨ 12 ≤ a
    · clear hl hf hr hWD
      by_cases hneg : a < 0
      all_goals
        go_enter Try.func5, Try.ntmps5
        go_wp2_with (first
          | (go_at_call 7; ((with_reducible refine (HK.out _).mono ?_); rintro e w1 ⟨rfl, hb⟩; obtain ⟨x1, x2, x3, x4⟩ := k.boxes2 hb; have X1 := Lib.hid x1; have G1 := Lib.hid x2; have H1 := Lib.hid x3; clear hb x1 x2 x3; obtain ⟨gc0, gf0, gc1, gf1, gc2, gf2, _⟩ := G1.out))
          | (go_at_call 17; ((with_reducible refine (HP.out _).mono ?_); rintro e w2 ⟨v2, rfl, hO, hb2⟩; have H2 := Lib.hid (H1.out.trans (hb2.mono H1.out.size)); clear hb2 hO)))
        go_ret
        exact ⟨rfl, H2.out⟩
    · obtain ⟨q, rfl⟩ : ∃ q : Nat, a = (q : Int) := ⟨a.toNat, by omega⟩
      have hq0 : (0 : Int) ≤ (q : Int) := by omega
      have hq12 : (q : Int) < 12 := by omega
      have hqN : q < 12 := by omega
      clear hin ha
      have HE := spoil_pair signF 127 L hl hf hr q hqN x y
      clear hf hr
      by_cases h0 : x = 0 ∧ y = 0
      · have t1 : (v8 x == 0) = true := v8_zero x h0.1
        have t2 : (v8 y == 0) = true := v8_zero y h0.2
        clear h0 HE hl hWD
        go_enter Try.func5, Try.ntmps5
        go_wp2_with (first
          | (go_at_call 7; ((with_reducible refine (HK.out _).mono ?_); rintro e w1 ⟨rfl, hb⟩; obtain ⟨x1, x2, x3, x4⟩ := k.boxes2 hb; have X1 := Lib.hid x1; have G1 := Lib.hid x2; have H1 := Lib.hid x3; clear hb x1 x2 x3; obtain ⟨gc0, gf0, gc1, gf1, gc2, gf2, _⟩ := G1.out))
          | (go_at_call 17; ((with_reducible refine (HP.out _).mono ?_); rintro e w2 ⟨v2, rfl, hO, hb2⟩; have H2 := Lib.hid (H1.out.trans (hb2.mono H1.out.size)); clear hb2 hO)))
        go_ret
        exact ⟨rfl, H2.out⟩
      rw [if_neg h0] at HE
      obtain ⟨p, hp⟩ : ∃ p, L.getD q 0 = p := ⟨_, rfl⟩
      obtain ⟨s, hs⟩ : ∃ s, L.getD (q + 1) 0 = s := ⟨_, rfl⟩
      rw [hp, hs] at HE
      have hl2 : ((L.set q (p ^^^ x)).set (q + 1) (s ^^^ y)).length = 13 := by simp [hl]
      obtain ⟨r, hc1, hc2⟩ := as_none ⟨st, lim, mis, last, pc, pv, po, mc, mv, mo, hc, hv, ho, act, kn, sq⟩ hWD _ (by rw [HE]; decide) 13 hl2 (by omega)
      obtain ⟨r0, r1, r2, r3, r4, r5, r6, r7, r8, r9, r10, r11, r12, r13, r14, r15⟩ := r
      unfold dV at hc1 hc2
      dsimp only at hc1 hc2
      have HCA := Lib.hid hc1
      have HC2 := Lib.hid hc2
      have HPP := Lib.hid hp
      have HSS := Lib.hid hs
      have HL2 := Lib.hid hl2
      have hx1 := xor8 p x
      have hx2 := xor8 s y
      have hz : ((v8 x == 0) = true ∧ (v8 y == 0) = false) ∨ (v8 x == 0) = false := by
        by_cases hx : x = 0
        · exact .inl ⟨v8_zero x hx, v8_not y fun e => h0 ⟨hx, e⟩⟩
        · exact .inr (v8_not x hx)
      clear HE hp hs hl2 hl hc1 hc2 hWD h0
      rcases hz with ⟨t1, t2⟩ | t1
      all_goals
        go_enter Try.func5, Try.ntmps5
        go_upto_region 6 with (first
          | (go_at_call 7; ((with_reducible refine (HK.out _).mono ?_); rintro e w1 ⟨rfl, hb⟩; obtain ⟨x1, x2, x3, x4⟩ := k.boxes2 hb; have X1 := Lib.hid x1; have G1 := Lib.hid x2; have H1 := Lib.hid x3; clear hb x1 x2 x3; obtain ⟨gc0, gf0, gc1, gf1, gc2, gf2, _⟩ := G1.out))
          | (go_at_call 17; ((with_reducible refine (HP.out _).mono ?_); rintro e w2 ⟨v2, rfl, hO, hb2⟩; have X2 := Lib.hid (X1.out.below hb2 (by omega)); have H2 := Lib.hid (H1.out.trans (hb2.mono H1.out.size)); have z2 := hb2.size; have O2 := Lib.hid hO; clear hb2 hO)))
        obtain ⟨g, c3, rfl, hg1, hg2, hA3, hc3, hm3⟩ := own_arr O2.out (by have := HLL.out; omega)
        rw [HLL.out] at hA3 hc3 ⊢
        have p1 : w2.cell? ⟨g, q, none⟩ = some (.int .u8 (v8 p)) := by rw [← HPP.out]; exact (hA3 q (by omega)).1
        have p3 : w2.cell? ⟨g, q + 1, none⟩ = some (.int .u8 (v8 s)) := by rw [← HSS.out]; exact (hA3 (q + 1) (by omega)).1
        have p2 := (hA3 q (by omega)).2
        have p4 := (hA3 (q + 1) (by omega)).2
        obtain ⟨w4, e4, hA4, b4, _⟩ := hA3.put q (by omega) (.int .u8 (v8 (p ^^^ x)))
        obtain ⟨w5, e5, hA5, b5, _⟩ := hA4.put (q + 1) (by omega) (.int .u8 (v8 (s ^^^ y)))
        have HW5 := Lib.hid (show (w2.setCell ⟨g, q, none⟩ (.int .u8 (v8 (p ^^^ x)))).setCell ⟨g, q + 1, none⟩ (.int .u8 (v8 (s ^^^ y))) = w5 by rw [e4, e5])
        have hbb : Below w1.heap.size w2 w5 := (b4 _ hg1).trans (b5 _ hg1)
        have X5 := Lib.hid (X2.out.below hbb (by omega))
        have H5 := Lib.hid (H2.out.trans (hbb.mono (by omega)))
        have z5 : w.heap.size < w5.heap.size := by have := hbb.size; omega
        have BY5 : Hid (Bytes w5 w5.heap.size (some ⟨g, 0, none⟩) ((L.set q (p ^^^ x)).set (q + 1) (s ^^^ y))) := Lib.hid (hA5.bytes _ (by rw [HL2.out]; exact Nat.le_refl _) (fun i hi => by
          have hl := HLL.out
          rw [getD_set _ _ _ _ (by rw [List.length_set]; omega), getD_set _ _ _ _ (by omega)]
          by_cases e1 : i = q + 1
          · rw [if_pos e1, if_pos e1]
          · rw [if_neg e1, if_neg e1]
            by_cases e2 : i = q
            · rw [if_pos e2, if_pos e2]
            · rw [if_neg e2, if_neg e2]) (by have := (b4 0 (Nat.zero_le _)).size; have := (b5 0 (Nat.zero_le _)).size; omega))
        have HC1 : Hid (∀ W : World, Below w5.heap.size w5 W → Calls Try.prog 11 #[.agg #[.int .i64 st, .int .i64 lim, .int .i64 mis, .int .i64 last, .int .i64 pc, .bool pv, .int .i64 po, .int .i64 mc, .bool mv, .int .i64 mo, .int .i64 hc, .bool hv, .int .i64 ho, .int .i64 act, .bool kn, .int .i64 sq], .slice (some ⟨g, 0, none⟩) 13 c3] W fun e w' => e = .returned (.agg #[.int .i64 r0, .int .i64 r1, .int .i64 r2, .int .i64 r3, .int .i64 r4, .bool r5, .int .i64 r6, .int .i64 r7, .bool r8, .int .i64 r9, .int .i64 r10, .bool r11, .int .i64 r12, .int .i64 r13, .bool r14, .int .i64 r15]) ∧ Below W.heap.size W w') := Lib.hid fun W hb => HCA.out w5.heap.size (some ⟨g, 0, none⟩) c3 hc3 hm3 W (BY5.out.below hb) hb.size
        clear hA3 hA4 hA5 b4 b5 e4 e5 hc3 hm3 hbb gc0 gf0 gc1 gf1 gc2 gf2
        go_upto_region 8 with (fail)
        rw [HW5.out]
        clear p1 p2 p3 p4 hx1 hx2 HW5
        refine wp_region_held_drew (S := (fun w' => World.rangeAt w' w.heap.size 0 [.int .i64 st, .int .i64 lim, .int .i64 mis, .int .i64 last, .int .i64 pc, .bool pv, .int .i64 po, .int .i64 mc, .bool mv, .int .i64 mo, .int .i64 hc, .bool hv, .int .i64 ho, .int .i64 act, .bool kn, .int .i64 sq])) (by kernel_rfl) X5.out.range (fun hHeld => ?_)
        refine wpAnyH_take (i := 0) rfl (by kernel_rfl) (by kernel_rfl) (by kernel_rfl) (fun _ _ _ h => h) (yieldsIf_load_mid (by rfl) 27 (.tmp 5) rfl w.heap.size 0 rfl [.int .i64 st, .int .i64 lim, .int .i64 mis, .int .i64 last, .int .i64 pc, .bool pv, .int .i64 po, .int .i64 mc, .bool mv, .int .i64 mo, .int .i64 hc, .bool hv, .int .i64 ho, .int .i64 act, .bool kn, .int .i64 sq] _ (fun _ h => h) rfl rfl (by kernel_rfl)) (by assumption) ?_
        try simp only [Act.put, List.setIfInBounds_toArray, List.set_cons_zero, List.set_cons_succ, List.getElem_toArray, List.getElem_cons_zero]
        refine wpAnyH_take (i := 1) (v := ?_) rfl (by kernel_rfl) (by kernel_rfl) (by kernel_rfl) (fun _ _ _ h => h) (Or.inl ⟨by rfl, ?_⟩) (by assumption) ?_
        rotate_left 1
        · intro w hSw; (try dsimp only at hSw); go_simp <;> (with_reducible rfl)
        try simp only [Act.put, List.setIfInBounds_toArray, List.set_cons_zero, List.set_cons_succ, List.getElem_toArray, List.getElem_cons_succ, List.getElem_cons_zero]
        refine wpAnyH_take (i := 3) rfl (by kernel_rfl) (by kernel_rfl) (by kernel_rfl) (fun _ _ _ h => h) (yieldsIf_load_mid (by rfl) 27 (.tmp 5) rfl w.heap.size 0 rfl [.int .i64 st, .int .i64 lim, .int .i64 mis, .int .i64 last, .int .i64 pc, .bool pv, .int .i64 po, .int .i64 mc, .bool mv, .int .i64 mo, .int .i64 hc, .bool hv, .int .i64 ho, .int .i64 act, .bool kn, .int .i64 sq] _ (fun _ h => h) rfl rfl (by kernel_rfl)) (by assumption) ?_
        try simp only [Act.put, List.setIfInBounds_toArray, List.set_cons_zero, List.set_cons_succ, List.getElem_toArray, List.getElem_cons_succ, List.getElem_cons_zero]
        refine wpAnyH_ready (rs := [2]) (by kernel_rfl) (by simp) ?_
        refine AllReadyH.cons rfl (fun K hK => ?_) AllReadyH.nil
        go_simp
        (go_at_call 11; (refine (HC1.out _ ((Below.refl _ _).drew)).mono ?_); rintro e w6 ⟨rfl, hb0⟩; have hb : Below w5.heap.size w5 w6 := (Below.refl _ _).drew.trans hb0; have X6 := Lib.hid (X5.out.below hb z5); have H6 := Lib.hid (H5.out.trans (hb.mono H5.out.size)); have z6 : w.heap.size < w6.heap.size := Nat.lt_of_lt_of_le z5 hb.size; clear hb hb0)
        go_wp2_with fail
        refine hK.out _ _ ?_ (fun hHeld => ?_)
        · exact X6.out.range
        clear hK K
        try simp only [Act.put, List.setIfInBounds_toArray, List.set_cons_zero, List.set_cons_succ, List.getElem_toArray, List.getElem_cons_succ, List.getElem_cons_zero]
        refine wpAnyH_ready (rs := [4]) (by kernel_rfl) (by simp) ?_
        refine AllReadyH.cons rfl (fun K hK => ?_) AllReadyH.nil
        go_simp
        (go_at_call 11; (refine (HC2.out _).mono ?_); rintro e w7 ⟨rfl, hb⟩; have X7 := Lib.hid (X6.out.below hb z6); have H7 := Lib.hid (H6.out.trans (hb.mono H6.out.size)); clear hb)
        go_wp2_with fail
        refine hK.out _ _ ?_ (fun hHeld => ?_)
        · exact X7.out.range
        clear hK K
        try simp only [Act.put, List.setIfInBounds_toArray, List.set_cons_zero, List.set_cons_succ, List.getElem_toArray, List.getElem_cons_succ, List.getElem_cons_zero]
        refine wpAnyH_take (i := 5) (v := ?_) rfl (by kernel_rfl) (by kernel_rfl) (by kernel_rfl) (fun _ _ _ h => h) (Or.inl ⟨by rfl, ?_⟩) (by assumption) ?_
        rotate_left 1
        · intro w hSw; (try dsimp only at hSw); go_simp <;> (with_reducible rfl)
        try simp only [Act.put, List.setIfInBounds_toArray, List.set_cons_zero, List.set_cons_succ, List.getElem_toArray, List.getElem_cons_succ, List.getElem_cons_zero]
        refine wpAnyH_take (i := 6) (v := ?_) rfl (by kernel_rfl) (by kernel_rfl) (by kernel_rfl) (fun _ _ _ h => h) (Or.inl ⟨by rfl, ?_⟩) (by assumption) ?_
        rotate_left 1
        · intro w hSw; (try dsimp only at hSw); go_simp <;> (with_reducible rfl)
        try simp only [Act.put, List.setIfInBounds_toArray, List.set_cons_zero, List.set_cons_succ, List.getElem_toArray, List.getElem_cons_succ, List.getElem_cons_zero]
        refine wpAnyH_done (by kernel_rfl) ?_ _
        go_wp2
        go_ret
        exact ⟨rfl, H7.out⟩
end Go.Proofs.Ytdfgjfojneoljaa.driveSpoilt
