/- The walk of the law SmoothOne: any window, any places: it returns true, and what was in memory is as it was. -/
import Derived.Test.YtgfhpdgohjnooaaMAwake
import Derived.Test.YtgfhpdgohjnooaaMRow16
import Derived.Test.YtgfhpdgohjnooaaMHold
import Derived.Test.YtgfhpdgohjnooaaKOrd
namespace Go.Proofs.Ytgfhpdgohjnooaa.smoothOne
open Go.ChangeShapes Go.WideShapes Go.ChangeAt Go.RowKit Go.Proofs.Ytgfhpdgohjnooaa.k Go.Proofs.Ytgfhpdgohjnooaa.mm Go.Proofs.Ytgfhpdgohjnooaa
set_option linter.unusedVariables false

theorem rev_push {T : List Int} {p : Int} {M : Nat} (h1 : 1 ≤ M) (hl : M ≤ T.length) : p :: (T.reverse.take M).take ((T.reverse.take M).length - 1) = (T ++ [p]).reverse.take M := by
  obtain ⟨n, rfl⟩ : ∃ n, M = n + 1 := ⟨M - 1, by omega⟩
  rw [List.reverse_append, List.length_take, List.length_reverse, Nat.min_eq_left hl, List.take_take]
  simp
theorem rev_right {T : List Int} {M : Nat} (h1 : 1 ≤ M) (h2 : M ≤ 16) (hl : M ≤ T.length) (h : ∀ x ∈ T, inP x) : RightW (T.reverse.take M) := by
  refine ⟨by rw [List.length_take, List.length_reverse]; omega, by rw [List.length_take]; omega, fun x hx => h x ?_⟩
  exact List.mem_reverse.1 (List.mem_of_mem_take hx)
theorem one_right {p : Int} (hp : inP p) : RightW [p] := ⟨Nat.le_refl 1, by simp, fun x hx => by rw [List.mem_singleton.1 hx]; exact hp⟩
theorem one_push {x p : Int} (hx : inP x) (hp : inP p) : pushW [x] p = [p] := by rw [pushW_yes (one_right hx) hp]; rfl
theorem one_out {p : Int} (hp : inP p) : outW [p] = p := by rw [outW_yes (one_right hp)]; simp
theorem one_rest {p : Int} (hp : inP p) : restB [p] = true := decide_eq_true ⟨one_right hp, fun x hx => List.mem_singleton.1 hx⟩
/-- the sum of the last ones -/
theorem sum_step {T : List Int} {k : Nat} (h : k < T.length) : (T.reverse.take (k + 1)).sum = (T.reverse.take k).sum + T.getD (T.length - 1 - k) 0 := by
  rw [take_snoc T.reverse k (by simpa using h), List.sum_append]
  simp only [List.sum_cons, List.sum_nil]
  rw [List.getD_eq_getElem?_getD, List.getD_eq_getElem?_getD, List.getElem?_reverse h]
  omega
theorem sum_in : ∀ {L : List Int}, (∀ x ∈ L, inP x) → -2199023255552 * (L.length : Int) ≤ L.sum ∧ L.sum ≤ 2199023255552 * (L.length : Int)
  | [], _ => by simp
  | x :: L, h => by
    have h1 := sum_in fun y hy => h y (List.mem_cons_of_mem x hy)
    have h2 := h x (by simp)
    unfold inP at h2
    rw [List.sum_cons, List.length_cons]
    omega
theorem all_snoc {T : List Int} {p : Int} (h : ∀ x ∈ T, inP x) (hp : inP p) : ∀ x ∈ T ++ [p], inP x := fun x hx => by
  rcases List.mem_append.1 hx with h1 | h1
  · exact h x h1
  · rw [List.mem_singleton.1 h1]; exact hp
theorem rep_rev (M : Nat) (f : Int) : (List.replicate M f).reverse.take M = List.replicate M f := by
  rw [List.reverse_replicate, List.take_of_length_le (by simp)]
theorem rep_snoc (q : Nat) (f : Int) : List.replicate q f ++ [f] = List.replicate (q + 1) f := by
  rw [List.replicate_succ']

set_option maxHeartbeats 4000000 in
set_option maxRecDepth 100000 in
theorem walk (m f : Int) (a : Option Addr) (len cap : Nat) (zs : List Int) (w : World) (u0 : (Lit.int .i64 m).wf = true) (u1 : (Lit.int .i64 f).wf = true) (u2 : IsRow .i16 w a len cap zs) :
    Calls Try.prog 7 #[.int .i64 m, .int .i64 f, .slice a len cap] w fun e w' => e = .returned (.bool true) ∧ Below w.heap.size w w' := by
  have HK := Lib.hid fun W => awake_any W
  have hm := k.wf64 u0
  have hlen := u2.len
  have HROW := Lib.hid u2
  clear u0 u1 u2
  by_cases f1 : f < -1099511627776
  · go_enter Try.func7, Try.ntmps7
    go_wp2_with (go_at_call 8; ((with_reducible refine (HK.out _).mono ?_); rintro e w2 ⟨rfl, hb⟩; have H2 := Lib.hid hb; clear hb))
    go_ret
    exact ⟨rfl, H2.out⟩
  by_cases f2 : 1099511627776 < f
  · have hd : decide (f < -1099511627776) = false := decide_eq_false f1
    go_enter Try.func7, Try.ntmps7
    go_wp2_with (go_at_call 8; ((with_reducible refine (HK.out _).mono ?_); rintro e w2 ⟨rfl, hb⟩; have H2 := Lib.hid hb; clear hb))
    go_ret
    exact ⟨rfl, H2.out⟩
  have hd : decide (f < -1099511627776) = false := decide_eq_false f1
  have hd2 : decide (1099511627776 < f) = false := decide_eq_false f2
  have hf : inP f := ⟨by omega, by omega⟩
  have hN1 := fun W => new_from (m := 1) (p := f) (by omega) (by omega) hf W
  rw [show List.replicate (1 : Int).toNat f = [f] from rfl] at hN1
  have HN1 := Lib.hid hN1
  clear hN1
  by_cases hm1 : 1 ≤ m ∧ m ≤ 16
  case neg =>
    have HN := Lib.hid fun W => new_no (m := m) (p := f) (fun h => hm1 ⟨h.1, h.2.1⟩) W
    clear hm1 hf
    go_enter Try.func7, Try.ntmps7
    go_wp2_with (first
      | (go_at_call 8; ((with_reducible refine (HK.out _).mono ?_); rintro e w2 ⟨rfl, hb⟩; have H2 := Lib.hid hb; clear hb))
      | (go_at_call 9; ((with_reducible refine (HN.out _).mono ?_); rintro e w4 ⟨A4, l4, c4, rfl, _, hb⟩; have H4 := Lib.hid (H2.out.trans (hb.mono H2.out.size)); clear hb))
      | (go_at_call 9; ((with_reducible refine (HN1.out _).mono ?_); rintro e w5 ⟨A5, l5, c5, rfl, _, hb⟩; have H5 := Lib.hid ((H4.out.alloc H4.out.size _).trans (hb.mono (H4.out.alloc H4.out.size _).size)); clear hb)))
    go_ret
    exact ⟨rfl, H5.out.alloc H5.out.size _⟩
  case pos =>
    obtain ⟨m1, m2⟩ := hm1
    obtain ⟨M, rfl⟩ : ∃ M : Nat, m = (M : Int) := ⟨m.toNat, by omega⟩
    have hN := fun W => new_from m1 m2 hf W
    rw [show (M : Int).toNat = M from rfl] at hN
    have HN := Lib.hid hN
    have HM := Lib.hid (show 1 ≤ M ∧ M ≤ 16 by omega)
    have HF := Lib.hid hf
    clear hN hf
    go_enter Try.func7, Try.ntmps7
    go_wp2_with (first
      | (go_at_call 8; ((with_reducible refine (HK.out _).mono ?_); rintro e w2 ⟨rfl, hb⟩; have H2 := Lib.hid hb; clear hb))
      | (go_at_call 9; ((with_reducible refine (HN.out _).mono ?_); rintro e w4 ⟨A4, l4, c4, rfl, hW4, hb⟩; have W4 := Lib.hid hW4.1; have H4 := Lib.hid (H2.out.trans (hb.mono H2.out.size)); clear hW4 hb))
      | (go_at_call 9; fail))
    obtain ⟨x5, e5, v5, b5, z5⟩ := made w4 (.slice A4 l4 c4) 24
    rw [e5]
    have W5 := Lib.hid ((W4.out.below b5).more (B' := x5.heap.size) (by omega))
    have H5 := Lib.hid (H4.out.trans (b5.mono H4.out.size))
    have hg : w.heap.size ≤ w4.heap.size := H4.out.size
    obtain ⟨g, hgg⟩ : ∃ g, w4.heap.size = g := ⟨_, rfl⟩
    rw [hgg] at v5 hg ⊢
    clear e5 b5
    refine (HN1.out _).mono ?_
    rintro e w6 ⟨A6, l6, c6, rfl, hW6, hb⟩
    have V6 := Lib.hid (v5.under hb)
    have W6 := Lib.hid ((W5.out.below hb).more hb.size)
    have Y6 := Lib.hid hW6.1
    have H6 := Lib.hid (H5.out.trans (hb.mono H5.out.size))
    have z6 := v5.lt
    have z7 := hb.size
    obtain ⟨x7, e7, v7, b7, s7⟩ := made w6 (.slice A6 l6 c6) 24
    have V7 := Lib.hid (V6.out.under b7)
    have W7 := Lib.hid ((W6.out.below b7).more b7.size)
    have Y7 := Lib.hid ((Y6.out.below b7).more b7.size)
    have H7 := Lib.hid (H6.out.trans (b7.mono H6.out.size))
    have hne : w6.heap.size ≠ g := by omega
    have hg1 : w.heap.size ≤ w6.heap.size := H6.out.size
    have E7 := Lib.hid e7
    have X7 := Lib.hid v7
    clear hb hW6 v5 e7 v7 b7
    have hw1 : M = l4 := by have := W7.out.1; rwa [List.length_replicate] at this
    subst hw1
    have hw2 : 1 = l6 := Y7.out.1
    subst hw2
    go_upto_region 10 with (fail)
    rw [E7.out]
    have hbe := Below.alloc (Below.refl x7.heap.size x7) (Nat.le_refl _) (.cells #[] 2)
    have HOE := Lib.hid (OwnI.empty x7)
    have KA := Lib.hid (show Hold (x7.alloc (.cells #[] 2)) (.slice (some ⟨x7.heap.size, 0, none⟩) 0 0) g A4 M c4 (List.replicate M f) from
      ⟨(W7.out.below hbe).more hbe.size, V7.out.under hbe, by have := V7.out.lt; simp [Value.ownBlock]; omega, fun b off s e => by
        obtain ⟨b2, off2, e3, hb2, _⟩ := W7.out.2.2.2.2 (show 0 < M by omega)
        rw [e] at e3
        injection e3 with e3
        injection e3 with e3
        simp [Value.ownBlock]
        omega⟩)
    have KB := Lib.hid (show Hold (x7.alloc (.cells #[] 2)) (.slice (some ⟨x7.heap.size, 0, none⟩) 0 0) w6.heap.size A6 1 c6 [f] from
      ⟨(Y7.out.below hbe).more hbe.size, X7.out.under hbe, by have := X7.out.lt; simp [Value.ownBlock]; omega, fun b off s e => by
        obtain ⟨b2, off2, e3, hb2, _⟩ := Y7.out.2.2.2.2 (show 0 < 1 by omega)
        rw [e] at e3
        injection e3 with e3
        injection e3 with e3
        simp [Value.ownBlock]
        omega⟩)
    have HB8 := Lib.hid (H7.out.trans (hbe.mono H7.out.size))
    have hbase : w.heap.size ≤ x7.heap.size := H7.out.size
    obtain ⟨g1, hgg1⟩ : ∃ g1, w6.heap.size = g1 := ⟨_, rfl⟩
    obtain ⟨base, hbs⟩ : ∃ base, g1 + 1 = base := ⟨_, rfl⟩
    rw [s7] at HOE KA KB hbase
    rw [hgg1] at HOE KA KB hbase hne hg1 ⊢
    rw [hbs] at HOE KA KB hbase ⊢
    have HBS := Lib.hid (show base ≤ (x7.alloc (.cells #[] 2)).heap.size by simp; omega)
    clear hbe E7 W7 Y7 H7 V7 X7 W6 Y6 H6 V6 W5 H5 W4 H4 z5 z6 z7 s7 hgg hgg1 hbs
    go_wp2
    go_loopw [11, 12] (fun s11 s12 wr => ∃ (q : Nat) (V : Value), q ≤ M ∧ s12 = .int .i64 q ∧ V = s11 ∧ OwnI wr base V (List.replicate q f) ∧ Hold wr V g A4 M c4 (List.replicate M f) ∧ Hold wr V g1 A6 1 c6 [f] ∧ Below w.heap.size w wr ∧ base ≤ wr.heap.size) (fun _ s12 _ => M - (intOf s12).toNat)
    case atStart => exact ⟨0, _, Nat.zero_le _, rfl, rfl, HOE.out, KA.out, KB.out, HB8.out, HBS.out⟩
    case round =>
      obtain ⟨q, V, hq, rfl, rfl, hO, hA, hB, hW, hz⟩ := hrel
      clear HOE KA KB HB8 HBS HN HN1 HK H2
      by_cases hlt : q < M
      · have hi0 : (0 : Int) ≤ (q : Int) := by omega
        have hi1 : (q : Int) < (M : Int) := by omega
        have ha := Below.alloc (Below.refl wr.heap.size wr) (Nat.le_refl _) (.cells #[.int .i64 f] 2)
        have HO := Lib.hid (hO.under ha)
        have HA := Lib.hid (hA.under ha)
        have HB := Lib.hid (hB.under ha)
        have HW := Lib.hid (hW.trans (ha.mono hW.size))
        have HZ := Lib.hid (Nat.le_trans hz ha.size)
        have ho1 := one_int wr 2 f
        have HO1 := Lib.hid ho1
        clear hO hA hB hW hz ha ho1
        go_wp2_with (at_builtin; refine wpList_append_ints _ rfl (.tmp 54) (.tmp 56) rfl base V (List.replicate q f) rfl HO.out _ _ 1 1 [f] rfl HO1.out (by have := HM.out; simp; omega) HZ.out ?_; intro v1 w1 hown1 hg1 hat1; have O1 := Lib.hid hown1; have A1 := Lib.hid (HA.out.append (by omega) hg1 hat1); have B1 := Lib.hid (HB.out.append (by omega) hg1 hat1); have W1 := Lib.hid (HO.out.lays HW.out hbase (Nat.le_refl _) hg1); have Z1 := Lib.hid (Nat.le_trans HZ.out (grown_size hg1)); clear hown1 hg1 hat1)
        go_roundw
        case rel => exact ⟨q + 1, v1, by omega, by go_num, rfl, (rep_snoc q f) ▸ O1.out, A1.out, B1.out, W1.out, Z1.out⟩
        case measure => simp [intOf]; omega
      · have hqM : q = M := by omega
        subst hqM
        have HO := Lib.hid hO
        have HA := Lib.hid hA
        have HB := Lib.hid hB
        have HW := Lib.hid hW
        have HZ := Lib.hid hz
        clear hO hA hB hW hz
        go_wp2
        go_loopw [11, 13] (fun s11 s13 wr => ∃ (r : Nat) (V : Value) (T : List Int) (A A1 : Option Addr) (c c1 : Nat) (x : Int), r ≤ len ∧ r ≤ 300 ∧ s13 = .int .i64 r ∧ V = s11 ∧ T.length = q + r ∧ (∀ y ∈ T, inP y) ∧ inP x ∧ OwnI wr base V T ∧ Hold wr V g A q c (T.reverse.take q) ∧ Hold wr V g1 A1 1 c1 [x] ∧ Below w.heap.size w wr ∧ base ≤ wr.heap.size) (fun _ s13 _ => len - (intOf s13).toNat)
        case atStart => exact ⟨0, V, List.replicate q f, A4, A6, c4, c6, f, Nat.zero_le _, by omega, rfl, rfl, by simp, fun y hy => by rw [List.eq_of_mem_replicate hy]; exact HF.out, HF.out, HO.out, (rep_rev q f).symm ▸ HA.out, HB.out, HW.out, HZ.out⟩
        case round =>
          clear HO HA HB HW HZ
          obtain ⟨r, V, T, A, A1, c, c1, x, hr, hr3, rfl, rfl, hT, hall, hx, hO, hA, hB, hW, hz⟩ := hrel
          have HT := Lib.hid (And.intro hT (And.intro hall hx))
          have HO := Lib.hid hO
          have HA := Lib.hid hA
          have HB := Lib.hid hB
          have HW := Lib.hid hW
          have HZ := Lib.hid hz
          clear hT hall hx hO hA hB hW hz
          by_cases hlt : r < len ∧ r < 300
          case neg =>
            have hdd : (decide (r < len) = false) ∨ ((r : Int) < (len : Int) ∧ decide ((r : Int) < 300) = false) := by
              by_cases h : r < len
              · exact .inr ⟨by omega, decide_eq_false (by omega)⟩
              · exact .inl (decide_eq_false (by omega))
            clear hlt
            rcases hdd with hdd | ⟨hdd0, hdd⟩
            all_goals
              go_wp2
              go_ret
              exact ⟨rfl, HW.out⟩
          case pos =>
            obtain ⟨hlt, hlt3⟩ := hlt
            obtain ⟨b, off, rfl, hbw, hrow⟩ := HROW.out.at (by omega)
            obtain ⟨z, _, hz, hcell⟩ := hrow r hlt
            have hck : wr.cell? ⟨b, off + r, none⟩ = some (.int .i16 z) := (HW.out.cell (p := ⟨b, off + r, none⟩) hbw).trans hcell
            have hi0 : (0 : Int) ≤ (r : Int) := by omega
            have hi1 : (r : Int) < (len : Int) := by omega
            have hi3 : (r : Int) < 300 := by omega
            have hP : inP (f + z) := ⟨by omega, by omega⟩
            have hR := rev_right (T := T) (M := q) HM.out.1 HM.out.2 (by have := HT.out.1; omega) HT.out.2.1
            have hp1 : pushW (T.reverse.take q) (f + z) = (T ++ [f + z]).reverse.take q := by rw [pushW_yes hR hP, rev_push HM.out.1 (by have := HT.out.1; omega)]
            have P1 := Lib.hid fun (W : World) (h : Win W W.heap.size A q c (T.reverse.take q)) => hp1 ▸ push_from (T.reverse.take q) (f + z) (by have := HM.out; rw [List.length_take]; omega) h (Nat.le_refl _)
            have P2 := Lib.hid fun (W : World) (h : Win W W.heap.size A1 1 c1 [x]) => (one_push HT.out.2.2 hP) ▸ push_from [x] (f + z) (by simp) h (Nat.le_refl _)
            have HP := Lib.hid hP
            clear hrow hcell hR hp1 hP
            go_upto_region 18 with (fail)
            refine wp_region_T (by kernel_rfl) (fun w' => World.cell? w' ⟨g, 0, none⟩ = some (.slice A q c) ∧ World.cell? w' ⟨g1, 0, none⟩ = some (.slice A1 1 c1)) [6, 7] ⟨HA.out.2.1.drew.cell, HB.out.2.1.drew.cell⟩ (fun hHeld => ?_)
            refine wpAnyT_take (i := 0) (v := ?_) rfl (by kernel_rfl) (by kernel_rfl) (by kernel_rfl) (fun _ _ _ h => h) (Or.inl ⟨by rfl, ?_⟩) (by assumption) ?_
            rotate_left 1
            · intro w hSw; obtain ⟨hs1, hs2⟩ := hSw; go_simp <;> (with_reducible rfl)
            try simp only [Act.put, List.setIfInBounds_toArray, List.set_cons_zero, List.set_cons_succ, List.getElem_toArray, List.getElem_cons_zero]
            refine wpAnyT_take (i := 1) (v := ?_) rfl (by kernel_rfl) (by kernel_rfl) (by kernel_rfl) (fun _ _ _ h => h) (Or.inl ⟨by rfl, ?_⟩) (by assumption) ?_
            rotate_left 1
            · intro w hSw; clear hSw; go_simp <;> (with_reducible rfl)
            try simp only [Act.put, List.setIfInBounds_toArray, List.set_cons_zero, List.set_cons_succ, List.getElem_toArray, List.getElem_cons_succ, List.getElem_cons_zero]
            refine wpAnyT_take (i := 3) (v := ?_) rfl (by kernel_rfl) (by kernel_rfl) (by kernel_rfl) (fun _ _ _ h => h) (Or.inl ⟨by rfl, ?_⟩) (by assumption) ?_
            rotate_left 1
            · intro w hSw; obtain ⟨hs1, hs2⟩ := hSw; go_simp <;> (with_reducible rfl)
            try simp only [Act.put, List.setIfInBounds_toArray, List.set_cons_zero, List.set_cons_succ, List.getElem_toArray, List.getElem_cons_succ, List.getElem_cons_zero]
            refine wpAnyT_take (i := 4) (v := ?_) rfl (by kernel_rfl) (by kernel_rfl) (by kernel_rfl) (fun _ _ _ h => h) (Or.inl ⟨by rfl, ?_⟩) (by assumption) ?_
            rotate_left 1
            · intro w hSw; clear hSw; go_simp <;> (with_reducible rfl)
            try simp only [Act.put, List.setIfInBounds_toArray, List.set_cons_zero, List.set_cons_succ, List.getElem_toArray, List.getElem_cons_succ, List.getElem_cons_zero]
            refine wpAnyT_ready (rs := [2]) (by kernel_rfl) (by simp) ?_
            refine AllReadyT.cons rfl (fun K hK => ?_) AllReadyT.nil
            go_simp
            (go_at_call 15; ((refine (P1.out wr.drew HA.out.1).mono ?_); rintro e w6 ⟨A6, l6, c6, rfl, hW6, hb0⟩))
            have hb : Below wr.heap.size wr w6 := ((Below.refl _ _).drew).trans hb0
            have X6 := Lib.hid hW6
            have O6 := Lib.hid (HO.out.under hb)
            have A6' := Lib.hid (HA.out.under hb)
            have B6 := Lib.hid (HB.out.under hb)
            have W6 := Lib.hid (HW.out.trans (hb.mono HW.out.size))
            have Z6 := Lib.hid (Nat.le_trans HZ.out hb.size)
            clear hb hb0 hW6
            go_wp2_with fail
            refine hK.out _ _ ⟨A6'.out.2.1.cell, B6.out.2.1.cell⟩ (fun hHeld => ?_)
            clear hK K
            try simp only [Act.put, List.setIfInBounds_toArray, List.set_cons_zero, List.set_cons_succ, List.getElem_toArray, List.getElem_cons_succ, List.getElem_cons_zero]
            refine wpAnyT_ready (rs := [5]) (by kernel_rfl) (by simp) ?_
            refine AllReadyT.cons rfl (fun K hK => ?_) AllReadyT.nil
            go_simp
            (go_at_call 15; ((refine (P2.out _ B6.out.1).mono ?_); rintro e w7 ⟨A7, l7, c7, rfl, hW7, hb⟩))
            have X7 := Lib.hid ((X6.out.1.below hb).more hb.size)
            have F7 := Lib.hid (off_from X6.out.2 HA.out.2.2.2 (fun b e => HO.out.lt_size b e))
            have Y7 := Lib.hid hW7.1
            have G7 := Lib.hid (off_from hW7.2 B6.out.2.2.2 (fun b e => O6.out.lt_size b e))
            have O7 := Lib.hid (O6.out.under hb)
            have A7' := Lib.hid (A6'.out.under hb)
            have B7 := Lib.hid (B6.out.under hb)
            have W7 := Lib.hid (W6.out.trans (hb.mono W6.out.size))
            have Z7 := Lib.hid (Nat.le_trans Z6.out hb.size)
            clear hb hW7
            go_wp2_with fail
            refine hK.out _ _ ⟨A7'.out.2.1.cell, B7.out.2.1.cell⟩ (fun hHeld => ?_)
            clear hK K
            try simp only [Act.put, List.setIfInBounds_toArray, List.set_cons_zero, List.set_cons_succ, List.getElem_toArray, List.getElem_cons_succ, List.getElem_cons_zero]
            have hl6 : q = l6 := by have := X7.out.1; rw [List.length_take, List.length_reverse, List.length_append] at this; have := HT.out.1; simp at *; omega
            subst hl6
            have hl7 : 1 = l7 := Y7.out.1
            subst hl7
            have hcA := A7'.out.2.1.cell
            have hfA := A7'.out.2.1.frozen 0
            refine wpAnyT_ready (rs := [6]) (by kernel_rfl) (by simp) ?_
            refine AllReadyT.spoilt rfl (by kernel_rfl) (fun K hK => ?_) AllReadyT.nil
            go_simp
            refine hK.out _ _ ?_
            clear hK K
            try simp only [Act.put, List.setIfInBounds_toArray, List.set_cons_zero, List.set_cons_succ, List.getElem_toArray, List.getElem_cons_succ, List.getElem_cons_zero]
            obtain ⟨x8, e8⟩ : ∃ W, w7.setCell ⟨g, 0, none⟩ (.slice A6 q c6) = W := ⟨_, rfl⟩
            have A8 := Lib.hid (e8 ▸ Hold.laid A7'.out.2.1 X7.out A7'.out.2.2.1 F7.out)
            have B8 := Lib.hid (e8 ▸ B7.out.aside A7'.out.2.1 hne (.slice A6 q c6))
            have Y8 := Lib.hid (e8 ▸ Y7.out.aside A7'.out.2.1 (.slice A6 q c6))
            have O8 := Lib.hid (e8 ▸ O7.out.laid A7'.out.2.2.1 (.slice A6 q c6))
            have s8 : x8.heap.size = w7.heap.size := by rw [← e8]; simp
            have W8 := Lib.hid (e8 ▸ W7.out.setCell hg (.slice A6 q c6))
            rw [e8]
            clear e8 hcA hfA
            have hcB := B8.out.2.1.cell
            have hfB := B8.out.2.1.frozen 0
            refine wpAnyT_ready (rs := [7]) (by kernel_rfl) (by simp) ?_
            refine AllReadyT.spoilt rfl (by kernel_rfl) (fun K hK => ?_) AllReadyT.nil
            go_simp
            refine hK.out _ _ ?_
            clear hK K
            try simp only [Act.put, List.setIfInBounds_toArray, List.set_cons_zero, List.set_cons_succ, List.getElem_toArray, List.getElem_cons_succ, List.getElem_cons_zero]
            obtain ⟨x9, e9⟩ : ∃ W, x8.setCell ⟨g1, 0, none⟩ (.slice A7 1 c7) = W := ⟨_, rfl⟩
            have B9 := Lib.hid (e9 ▸ Hold.laid B8.out.2.1 (s8.symm ▸ Y8.out) B8.out.2.2.1 G7.out)
            have A9 := Lib.hid (e9 ▸ A8.out.aside B8.out.2.1 (Ne.symm hne) (.slice A7 1 c7))
            have O9 := Lib.hid (e9 ▸ O8.out.laid B8.out.2.2.1 (.slice A7 1 c7))
            have W9 := Lib.hid (e9 ▸ W8.out.setCell hg1 (.slice A7 1 c7))
            have Z9 := Lib.hid (show base ≤ x9.heap.size by rw [← e9]; have := Z7.out; simp; omega)
            rw [e9]
            clear e9 hcB hfB s8 A8 B8 Y8 O8 W8 A7' B7 O7 W7 Z7 X7 Y7 A6' B6 O6 W6 Z6 X6 hck
            refine wpAnyT_done (by kernel_rfl) ?_ _
            have hR1 := rev_right (T := T ++ [f + z]) (M := q) HM.out.1 HM.out.2 (by have := HT.out.1; simp; omega) (all_snoc HT.out.2.1 HP.out)
            have Q1 := Lib.hid fun (W : World) (h : Win W W.heap.size A7 1 c7 [f + z]) => (one_out HP.out) ▸ out_any [f + z] h (Nat.le_refl _)
            have Q2 := Lib.hid fun (W : World) (h : Win W W.heap.size A6 q c6 ((T ++ [f + z]).reverse.take q)) => (outW_yes hR1) ▸ out_any _ h (Nat.le_refl _)
            have Q3 := Lib.hid fun (W : World) (h : Win W W.heap.size A7 1 c7 [f + z]) => (one_rest HP.out) ▸ rest_any [f + z] h (Nat.le_refl _)
            clear hR1
            have hcc := B9.out.2.1.cell
            go_wp2_with (first
              | (go_at_call 17; ((refine (Q1.out _ B9.out.1).mono ?_); rintro e w10 ⟨rfl, hb⟩; have ha := Below.alloc (Below.refl w10.heap.size w10) (Nat.le_refl _) (.cells #[.int .i64 (f + z)] 2); have A10 := Lib.hid ((A9.out.under hb).under ha); have B10 := Lib.hid ((B9.out.under hb).under ha); have O10 := Lib.hid ((O9.out.under hb).under ha); have W10 := Lib.hid ((W9.out.trans (hb.mono W9.out.size)).trans (ha.mono (W9.out.trans (hb.mono W9.out.size)).size)); have Z10 := Lib.hid (Nat.le_trans (Nat.le_trans Z9.out hb.size) ha.size); have N10 := Lib.hid (one_int w10 2 (f + z)); clear hb ha hcc))
              | (at_builtin; refine wpList_append_ints _ rfl (.tmp 81) (.tmp 84) rfl base V T rfl O10.out _ _ 1 1 [f + z] rfl N10.out (by have := HT.out.1; have := HM.out; simp; omega) Z10.out ?_; intro v1 w1 hown1 hg1 hat1; have O11 := Lib.hid hown1; have A11 := Lib.hid (A10.out.append (by omega) hg1 hat1); have B11 := Lib.hid (B10.out.append (by omega) hg1 hat1); have W11 := Lib.hid (O10.out.lays W10.out hbase (Nat.le_refl _) hg1); have Z11 := Lib.hid (Nat.le_trans Z10.out (grown_size hg1)); clear hown1 hg1 hat1))
            obtain ⟨AT, cT, hv, hWT⟩ := O11.out.form
            have hnl : (T ++ [f + z]).length = q + r + 1 := by rw [List.length_append, HT.out.1]; rfl
            subst hv
            obtain ⟨n, hn⟩ : ∃ n, (T ++ [f + z]).length = n := ⟨_, rfl⟩
            rw [hn] at hWT O11 A11 B11 ⊢
            have hn2 : n = q + r + 1 := by omega
            have WT := Lib.hid hWT
            have HNL := Lib.hid hn
            have HN2 := Lib.hid hn2
            clear hnl hWT hn O10 A10 B10 W10 Z10 N10 A9 B9 O9 W9 Z9 HO HA HB HW HZ P1 P2
            go_loop [15, 16] (fun s15 s16 => ∃ (k : Nat) (S : Int), k ≤ q ∧ s16 = .int .i64 k ∧ s15 = .int .i64 S ∧ S = ((T ++ [f + z]).reverse.take k).sum) (fun _ s16 => q - (intOf s16).toNat)
            case atStart => exact ⟨0, 0, Nat.zero_le _, rfl, rfl, by simp⟩
            case round =>
              obtain ⟨k, S, hk, rfl, rfl, hS⟩ := hrel
              have hall := all_snoc HT.out.2.1 HP.out
              have hSb := sum_in (L := (T ++ [f + z]).reverse.take k) fun y hy => hall y (List.mem_reverse.1 (List.mem_of_mem_take hy))
              rw [← hS, List.length_take, List.length_reverse, HNL.out] at hSb
              have hS1 : -35184372088832 ≤ S ∧ S ≤ 35184372088832 := by omega
              have HS := Lib.hid hS
              clear hS hSb
              by_cases hkq : k < q
              · obtain ⟨j, hj⟩ : ∃ j : Nat, n - 1 - k = j := ⟨_, rfl⟩
                have hjI : (n : Int) - 1 - (k : Int) = (j : Int) := by omega
                have hjn : j < n := by omega
                obtain ⟨b2, o2, eA, _, hc2⟩ := WT.out.at hjn
                have hin := hall _ (getD_mem (L := T ++ [f + z]) (i := j) (by rw [HNL.out]; exact hjn))
                have hst := sum_step (T := T ++ [f + z]) (k := k) (by rw [HNL.out]; omega)
                rw [HNL.out, hj, ← HS.out] at hst
                obtain ⟨y, hy⟩ : ∃ y, (T ++ [f + z]).getD j 0 = y := ⟨_, rfl⟩
                rw [hy] at hc2 hin hst
                obtain ⟨i1, i2⟩ := hin
                have HX := Lib.hid hst
                have hi4 : (0 : Int) ≤ (k : Int) := by omega
                have hi5 : (k : Int) < (q : Int) := by omega
                have hn0 : (1 : Int) ≤ (n : Int) := by omega
                have hn9 : (n : Int) ≤ 400 := by have := HM.out; omega
                have hj0 : (0 : Int) ≤ (j : Int) := by omega
                subst eA
                clear hst hy hj hn2 hall
                go_wp2
                go_round
                case rel => exact ⟨k + 1, S + y, by omega, by go_num, rfl, HX.out.symm⟩
                case measure => simp [intOf]; omega
              · have hkq2 : k = q := by omega
                subst hkq2
                have hQ2 := Q2.out
                rw [← HS.out] at hQ2
                have Q2' := Lib.hid hQ2
                have hcc := B11.out.2.1.cell
                have hcd := A11.out.2.1.cell
                clear hQ2 Q2 hall hn2
                go_wp2_with (go_at_call 17; fail)
                refine (Q1.out _ B11.out.1).mono ?_
                rintro e w12 ⟨rfl, hb⟩
                have A12 := Lib.hid (A11.out.under hb)
                have B12 := Lib.hid (B11.out.under hb)
                have O12 := Lib.hid (O11.out.under hb)
                have W12 := Lib.hid (W11.out.trans (hb.mono W11.out.size))
                have Z12 := Lib.hid (Nat.le_trans Z11.out hb.size)
                clear hb hcc hcd
                have hcc := B12.out.2.1.cell
                have hcd := A12.out.2.1.cell
                go_wp2_with (go_at_call 17; fail)
                refine (Q2'.out _ A12.out.1).mono ?_
                rintro e w13 ⟨rfl, hb⟩
                have A13 := Lib.hid (A12.out.under hb)
                have B13 := Lib.hid (B12.out.under hb)
                have O13 := Lib.hid (O12.out.under hb)
                have W13 := Lib.hid (W12.out.trans (hb.mono W12.out.size))
                have Z13 := Lib.hid (Nat.le_trans Z12.out hb.size)
                clear hb hcc hcd
                have hcc := B13.out.2.1.cell
                have hcd := A13.out.2.1.cell
                go_wp2_with (go_at_call 11; fail)
                refine (Q3.out _ B13.out.1).mono ?_
                rintro e w14 ⟨rfl, hb⟩
                have A14 := Lib.hid (A13.out.under hb)
                have B14 := Lib.hid (B13.out.under hb)
                have O14 := Lib.hid (O13.out.under hb)
                have W14 := Lib.hid (W13.out.trans (hb.mono W13.out.size))
                have Z14 := Lib.hid (Nat.le_trans Z13.out hb.size)
                clear hb hcc hcd
                have hcc := B14.out.2.1.cell
                have hcd := A14.out.2.1.cell
                go_wp2
                go_roundw
                case rel => exact ⟨r + 1, _, T ++ [f + z], A6, A7, c6, c7, f + z, by omega, by omega, by go_num, rfl, by rw [HNL.out, HN2.out]; omega, all_snoc HT.out.2.1 HP.out, HP.out, O14.out, A14.out, B14.out, W14.out, Z14.out⟩
                case measure => simp [intOf]; omega
end Go.Proofs.Ytgfhpdgohjnooaa.smoothOne
