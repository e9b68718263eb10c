/- What smooth's small functions answer: within, isPlace, Right, Out, the least and the greatest of a slice, mayShift; what was in memory is as it was. No condition beyond what each line says. -/
import Derived.Test.YtgfhpdgohjnooaaMWords
import Derived.Test.YtgfhpdgohjnooaaMRows3
namespace Go.Proofs.Ytgfhpdgohjnooaa.mm
open Go.ChangeShapes Go.WideShapes Go.ChangeAt Go.RowKit Go.Proofs.Ytgfhpdgohjnooaa.k
set_option linter.unusedVariables false

theorem within_any {n lo hi : Int} {t : Bool} (ht : decide (lo ≤ n ∧ n ≤ hi) = t) (w : World) : Calls Try.prog 24 #[.int .i64 n, .int .i64 lo, .int .i64 hi] w fun e w' => e = .returned (.bool t) ∧ w = w' := by
  by_cases h1 : lo ≤ n
  · by_cases h2 : n ≤ hi
    · have HV : Hid (true = t) := Lib.hid ((decide_eq_true ⟨h1, h2⟩).symm.trans ht)
      clear ht
      go_enter Try.func24, Try.ntmps24
      go_wp2
      go_ret
      exact ⟨ret_bool HV.out, rfl⟩
    · have HV : Hid (false = t) := Lib.hid ((decide_eq_false fun h => h2 h.2).symm.trans ht)
      clear ht
      have hd : decide (n ≤ hi) = false := decide_eq_false h2
      go_enter Try.func24, Try.ntmps24
      go_wp2
      go_ret
      exact ⟨ret_bool HV.out, rfl⟩
  · have HV : Hid (false = t) := Lib.hid ((decide_eq_false fun h => h1 h.1).symm.trans ht)
    clear ht
    have hd : decide (lo ≤ n) = false := decide_eq_false h1
    go_enter Try.func24, Try.ntmps24
    go_wp2
    go_ret
    exact ⟨ret_bool HV.out, rfl⟩
theorem within_quiet {n lo hi : Int} {t : Bool} (ht : decide (lo ≤ n ∧ n ≤ hi) = t) (W : World) (q : Nat) : Calls Try.prog 24 #[.int .i64 n, .int .i64 lo, .int .i64 hi] (W.drewN q) fun e w'' => e = .returned (.bool t) ∧ ∃ m, w'' = W.drewN m :=
  (within_any ht (W.drewN q)).mono fun _ _ hh => ⟨hh.1, q, hh.2.symm⟩
theorem iplace_any (n : Int) (w : World) : Calls Try.prog 18 #[.int .i64 n] w fun e w' => e = .returned (.bool (placeB n)) ∧ w = w' := by
  have C := Lib.hid fun W => within_any (n := n) (lo := -2199023255552) (hi := 2199023255552) (t := placeB n) rfl W
  generalize placeB n = t at *
  go_enter Try.func18, Try.ntmps18
  go_wp2_with (go_at_call 24; ((with_reducible refine (C.out _).mono ?_); rintro e w' ⟨rfl, rfl⟩))
  go_ret
  exact ⟨rfl, rfl⟩
theorem iplace_yes {n : Int} (h : inP n) (w : World) : Calls Try.prog 18 #[.int .i64 n] w fun e w' => e = .returned (.bool true) ∧ w = w' := placeB_yes h ▸ iplace_any n w
theorem iplace_no {n : Int} (h : ¬ inP n) (w : World) : Calls Try.prog 18 #[.int .i64 n] w fun e w' => e = .returned (.bool false) ∧ w = w' := placeB_no h ▸ iplace_any n w

/-! ### The least and the greatest of the first j -/
def mnL (L : List Int) : Nat → Int
  | 0 => L.getD 0 0
  | j + 1 => min (mnL L j) (L.getD j 0)
def mxL (L : List Int) : Nat → Int
  | 0 => L.getD 0 0
  | j + 1 => max (mxL L j) (L.getD j 0)
theorem mnL_one (L : List Int) : mnL L 1 = L.getD 0 0 := by simp [mnL]
theorem mxL_one (L : List Int) : mxL L 1 = L.getD 0 0 := by simp [mxL]
theorem mnL_le (L : List Int) : ∀ {j i : Nat}, i < j → mnL L j ≤ L.getD i 0
  | 0, i, h => by omega
  | j + 1, i, h => by
    unfold mnL
    by_cases e : i = j
    · subst e; exact Int.min_le_right _ _
    · exact Int.le_trans (Int.min_le_left _ _) (mnL_le L (by omega))
theorem mxL_ge (L : List Int) : ∀ {j i : Nat}, i < j → L.getD i 0 ≤ mxL L j
  | 0, i, h => by omega
  | j + 1, i, h => by
    unfold mxL
    by_cases e : i = j
    · subst e; exact Int.le_max_right _ _
    · exact Int.le_trans (mxL_ge L (by omega)) (Int.le_max_left _ _)
theorem mnL_at (L : List Int) : ∀ j, 0 < j → ∃ i, i < j ∧ mnL L j = L.getD i 0
  | 0, h => by omega
  | 1, _ => ⟨0, by omega, mnL_one L⟩
  | j + 2, _ => by
    obtain ⟨i, hi, e⟩ := mnL_at L (j + 1) (by omega)
    unfold mnL
    rw [Int.min_def]
    split
    · exact ⟨i, by omega, e⟩
    · exact ⟨j + 1, by omega, rfl⟩
theorem mxL_at (L : List Int) : ∀ j, 0 < j → ∃ i, i < j ∧ mxL L j = L.getD i 0
  | 0, h => by omega
  | 1, _ => ⟨0, by omega, mxL_one L⟩
  | j + 2, _ => by
    obtain ⟨i, hi, e⟩ := mxL_at L (j + 1) (by omega)
    unfold mxL
    rw [Int.max_def]
    split
    · exact ⟨j + 1, by omega, rfl⟩
    · exact ⟨i, by omega, e⟩
theorem list_at {L : List Int} {P : Int → Prop} : (∀ x ∈ L, P x) ↔ ∀ i, i < L.length → P (L.getD i 0) := ⟨fun h i hi => h _ (getD_mem hi), all_getD⟩
set_option maxHeartbeats 1000000 in
theorem isright_any (L : List Int) {A : Option Addr} {len cap B : Nat} {w : World} (h : Win w B A len cap L) (hB : B ≤ w.heap.size) :
    Calls Try.prog 13 #[.agg #[.slice A len cap]] w fun e w' => e = .returned (.bool (rightB L)) ∧ Below w.heap.size w w' := by
  have hlen := h.len_le
  have HL := Lib.hid h.1
  have ha := Below.alloc (Below.refl B w) hB (.cells #[.slice A len cap] 24)
  have HW := Lib.hid (h.below ha)
  clear h
  by_cases h1 : 1 ≤ len
  · by_cases h2 : len ≤ 16
    · have h1i : (1 : Int) ≤ (len : Int) := by omega
      have h2i : (len : Int) ≤ 16 := by omega
      clear h1 h2
      go_enter Try.func13, Try.ntmps13
      go_wp2
      go_loop [18] (fun i => ∃ j : Nat, j ≤ len ∧ i = .int .i64 j ∧ ∀ k, k < j → inP (L.getD k 0)) (fun i => len - (intOf i).toNat)
      case atStart => exact ⟨0, Nat.zero_le _, rfl, fun k hk => absurd hk (by omega)⟩
      case round =>
        obtain ⟨j, hj, rfl, hT⟩ := hrel
        have HT := Lib.hid hT
        clear hT
        by_cases hlt : j < len
        · obtain ⟨b, off, rfl, hb, hc⟩ := HW.out.at hlt
          have hj0 : (0 : Int) ≤ (j : Int) := by omega
          have hj1 : (j : Int) < (len : Int) := by omega
          obtain ⟨x, hx⟩ : ∃ x, L.getD j 0 = x := ⟨_, rfl⟩
          rw [hx] at hc
          by_cases hp : inP x
          · have HX : Hid (∀ k, k < j + 1 → inP (L.getD k 0)) := Lib.hid fun k hk => by
              by_cases e : k = j
              · subst e; rw [hx]; exact hp
              · exact HT.out k (by omega)
            clear hx
            have HP := Lib.hid hp
            clear hp
            go_wp2_with (go_at_call 18; ((with_reducible refine (iplace_yes HP.out _).mono ?_); rintro e w' ⟨rfl, rfl⟩))
            go_round
            case rel => exact ⟨j + 1, by omega, by go_num, HX.out⟩
            case measure => simp [intOf]; omega
          · have HX : Hid (rightB L = false) := Lib.hid (rightB_no fun h => hp (hx ▸ h.at (by rw [HL.out]; omega)))
            clear hx
            have HP := Lib.hid hp
            clear hp
            go_wp2_with (go_at_call 18; ((with_reducible refine (iplace_no HP.out _).mono ?_); rintro e w' ⟨rfl, rfl⟩))
            go_ret
            exact ⟨ret_bool HX.out.symm, (Below.refl _ _).alloc (Nat.le_refl _) _⟩
        · have hjl : j = len := by omega
          subst hjl
          have HX : Hid (rightB L = true) := Lib.hid (rightB_yes ⟨by rw [HL.out]; omega, by rw [HL.out]; omega, all_getD fun i hi => HT.out i (by rw [HL.out] at hi; omega)⟩)
          go_wp2
          go_ret
          exact ⟨ret_bool HX.out.symm, (Below.refl _ _).alloc (Nat.le_refl _) _⟩
    · have HX : Hid (rightB L = false) := Lib.hid (rightB_no fun h => by have := h.2.1; rw [HL.out] at this; omega)
      have h1i : (1 : Int) ≤ (len : Int) := by omega
      have h2i : (16 : Int) < (len : Int) := by omega
      clear h1 h2
      go_enter Try.func13, Try.ntmps13
      go_wp2
      go_ret
      exact ⟨ret_bool HX.out.symm, (Below.refl _ _).alloc (Nat.le_refl _) _⟩
  · have HX : Hid (rightB L = false) := Lib.hid (rightB_no fun h => by have := h.1; rw [HL.out] at this; omega)
    have h1i : (len : Int) < 1 := by omega
    clear h1
    go_enter Try.func13, Try.ntmps13
    go_wp2
    go_ret
    exact ⟨ret_bool HX.out.symm, (Below.refl _ _).alloc (Nat.le_refl _) _⟩
set_option maxHeartbeats 1000000 in
theorem out_any (L : List Int) {A : Option Addr} {len cap B : Nat} {w : World} (h : Win w B A len cap L) (hB : B ≤ w.heap.size) :
    Calls Try.prog 17 #[.agg #[.slice A len cap]] w fun e w' => e = .returned (.int .i64 (outW L)) ∧ Below w.heap.size w w' := by
  have hlen := h.len_le
  have HL := Lib.hid h.1
  have ha := Below.alloc (Below.refl w.heap.size w) (Nat.le_refl _) (.cells #[.slice A len cap] 24)
  have HW := Lib.hid (((h.more hB).below ha).more ha.size)
  have HA := Lib.hid ha
  have HV := Lib.hid (VarS.new w (.slice A len cap))
  have RR := Lib.hid fun (W : World) (h : Win W W.heap.size A len cap L) => isright_any L h (Nat.le_refl _)
  clear h ha
  by_cases hr : RightW L
  · have hR := RR.out
    rw [rightB_yes hr] at hR
    have RY := Lib.hid hR
    have HR := Lib.hid hr
    clear hR hr
    go_enter Try.func17, Try.ntmps17
    go_wp2_with (go_at_call 13; fail)
    refine (RY.out _ HW.out).mono ?_
    rintro e w2 ⟨rfl, hb⟩
    have V2 := Lib.hid (HV.out.under hb)
    have W2 := Lib.hid (HW.out.below hb)
    have B2 := Lib.hid (HA.out.trans (hb.mono HA.out.size))
    clear hb
    have hcc := V2.out.var.cell
    go_wp2
    go_loop [3, 12] (fun s i => ∃ (j : Nat) (S : Int), j ≤ len ∧ i = .int .i64 j ∧ s = .int .i64 S ∧ S = (L.take j).sum) (fun _ i => len - (intOf i).toNat)
    case atStart => exact ⟨0, 0, Nat.zero_le _, rfl, rfl, by simp⟩
    case round =>
      obtain ⟨j, S, hj, rfl, rfl, hS⟩ := hrel
      have hl16 : len ≤ 16 := by have := HR.out.2.1; rw [HL.out] at this; exact this
      have hSb := sum_inP (L := L.take j) fun y hy => HR.out.2.2 y (List.mem_of_mem_take hy)
      rw [← hS, List.length_take, HL.out] at hSb
      have hS1 : -35184372088832 ≤ S ∧ S ≤ 35184372088832 := by omega
      have HS := Lib.hid hS
      clear hS hSb
      by_cases hlt : j < len
      · obtain ⟨b, off, rfl, hb, hc⟩ := W2.out.at hlt
        have hj0 : (0 : Int) ≤ (j : Int) := by omega
        have hj1 : (j : Int) < (len : Int) := by omega
        have hin := HR.out.at (i := j) (by rw [HL.out]; exact hlt)
        have hst := sum_step (L := L) (j := j) (by rw [HL.out]; exact hlt)
        obtain ⟨x, hx⟩ : ∃ x, L.getD j 0 = x := ⟨_, rfl⟩
        rw [hx] at hc hin hst
        rw [← HS.out] at hst
        obtain ⟨i1, i2⟩ := hin
        have HX := Lib.hid hst
        clear hst hx
        go_wp2
        go_round
        case rel => exact ⟨j + 1, S + x, by omega, by go_num, rfl, HX.out.symm⟩
        case measure => simp [intOf]; omega
      · have hjl : len = j := by omega
        subst hjl
        have HX : Hid (S = outW L) := Lib.hid (by rw [HS.out, outW_yes HR.out, List.take_of_length_le (by rw [HL.out]; exact Nat.le_refl _)])
        go_wp2
        go_ret
        exact ⟨ret_int HX.out, B2.out⟩
  · have hR := RR.out
    rw [rightB_no hr] at hR
    have RY := Lib.hid hR
    have HX := Lib.hid (outW_no hr)
    clear hR hr
    go_enter Try.func17, Try.ntmps17
    go_wp2_with (go_at_call 13; fail)
    refine (RY.out _ HW.out).mono ?_
    rintro e w2 ⟨rfl, hb⟩
    have B2 := Lib.hid (HA.out.trans (hb.mono HA.out.size))
    clear hb
    go_wp2
    go_ret
    exact ⟨ret_int HX.out.symm, B2.out⟩
set_option maxHeartbeats 1000000 in
theorem min_any (L : List Int) {A : Option Addr} {len cap B : Nat} {w : World} (h : Win w B A len cap L) (hl : 0 < len) :
    Calls Try.prog 20 #[.slice A len cap] w fun e w' => e = .returned (.int .i64 (mnL L len)) ∧ w = w' := by
  have hlen := h.len_le
  have HW := Lib.hid h
  have HO := Lib.hid (mnL_one L)
  obtain ⟨b, off, rfl, hb, c0⟩ := h.at hl
  rw [Nat.add_zero] at c0
  have hl1 : (1 : Int) ≤ (len : Int) := by omega
  have hl0 : (0 : Int) < (len : Int) := by omega
  clear h
  go_enter Try.func20, Try.ntmps20
  go_wp2
  go_loop [3, 4] (fun m i => ∃ (j : Nat) (M : Int), 1 ≤ j ∧ j ≤ len ∧ i = .int .i64 j ∧ m = .int .i64 M ∧ M = mnL L j) (fun _ i => len - (intOf i).toNat)
  case atStart => exact ⟨1, L.getD 0 0, Nat.le_refl _, hl, by go_num, rfl, HO.out.symm⟩
  case round =>
    obtain ⟨j, M, hj1, hj, rfl, rfl, hM⟩ := hrel
    by_cases hlt : j < len
    · obtain ⟨b', off', e, hb', hc⟩ := HW.out.at hlt
      injection e with e
      injection e with e1 e2
      subst e1 e2
      have hj0 : (0 : Int) ≤ (j : Int) := by omega
      have hjl : (j : Int) < (len : Int) := by omega
      have hX : Hid (min M (L.getD j 0) = mnL L (j + 1)) := Lib.hid (by rw [hM]; rfl)
      generalize L.getD j 0 = x at *
      clear hM
      go_wp2
      go_round
      case rel => exact ⟨j + 1, _, by omega, by omega, by go_num, rfl, hX.out⟩
      case measure => simp [intOf]; omega
    · have hjl : len = j := by omega
      subst hjl
      have HM := Lib.hid hM
      clear hM
      go_wp2
      go_ret
      exact ⟨ret_int HM.out, rfl⟩
set_option maxHeartbeats 1000000 in
theorem max_any (L : List Int) {A : Option Addr} {len cap B : Nat} {w : World} (h : Win w B A len cap L) (hl : 0 < len) :
    Calls Try.prog 21 #[.slice A len cap] w fun e w' => e = .returned (.int .i64 (mxL L len)) ∧ w = w' := by
  have hlen := h.len_le
  have HW := Lib.hid h
  have HO := Lib.hid (mxL_one L)
  obtain ⟨b, off, rfl, hb, c0⟩ := h.at hl
  rw [Nat.add_zero] at c0
  have hl1 : (1 : Int) ≤ (len : Int) := by omega
  have hl0 : (0 : Int) < (len : Int) := by omega
  clear h
  go_enter Try.func21, Try.ntmps21
  go_wp2
  go_loop [3, 4] (fun m i => ∃ (j : Nat) (M : Int), 1 ≤ j ∧ j ≤ len ∧ i = .int .i64 j ∧ m = .int .i64 M ∧ M = mxL L j) (fun _ i => len - (intOf i).toNat)
  case atStart => exact ⟨1, L.getD 0 0, Nat.le_refl _, hl, by go_num, rfl, HO.out.symm⟩
  case round =>
    obtain ⟨j, M, hj1, hj, rfl, rfl, hM⟩ := hrel
    by_cases hlt : j < len
    · obtain ⟨b', off', e, hb', hc⟩ := HW.out.at hlt
      injection e with e
      injection e with e1 e2
      subst e1 e2
      have hj0 : (0 : Int) ≤ (j : Int) := by omega
      have hjl : (j : Int) < (len : Int) := by omega
      have hX : Hid (max M (L.getD j 0) = mxL L (j + 1)) := Lib.hid (by rw [hM]; rfl)
      generalize L.getD j 0 = x at *
      clear hM
      go_wp2
      go_round
      case rel => exact ⟨j + 1, _, by omega, by omega, by go_num, rfl, hX.out⟩
      case measure => simp [intOf]; omega
    · have hjl : len = j := by omega
      subst hjl
      have HM := Lib.hid hM
      clear hM
      go_wp2
      go_ret
      exact ⟨ret_int HM.out, rfl⟩

theorem min_quiet {L : List Int} {A : Option Addr} {len cap B : Nat} {w : World} (h : Win w B A len cap L) (hl : 0 < len) {m : Int} (hm : mnL L len = m) (q : Nat) : Calls Try.prog 20 #[.slice A len cap] (w.drewN q) fun e w'' => e = .returned (.int .i64 m) ∧ ∃ m, w'' = w.drewN m :=
  (min_any L (w := w.drewN q) h hl).mono fun _ _ hh => ⟨by rw [hh.1, hm], q, hh.2.symm⟩
theorem max_quiet {L : List Int} {A : Option Addr} {len cap B : Nat} {w : World} (h : Win w B A len cap L) (hl : 0 < len) {m : Int} (hm : mxL L len = m) (q : Nat) : Calls Try.prog 21 #[.slice A len cap] (w.drewN q) fun e w'' => e = .returned (.int .i64 m) ∧ ∃ m, w'' = w.drewN m :=
  (max_any L (w := w.drewN q) h hl).mono fun _ _ hh => ⟨by rw [hh.1, hm], q, hh.2.symm⟩
/-! ### May all be moved? -/
def mayB (L : List Int) (d : Int) : Bool := decide (∀ x ∈ L, inP (x + d))
theorem may_range {L : List Int} (hr : RightW L) (d : Int) : decide (-2199023255552 - mnL L L.length ≤ d ∧ d ≤ 2199023255552 - mxL L L.length) = mayB L d := by
  unfold mayB
  rw [decide_eq_decide]
  constructor
  · intro h
    refine list_at.2 fun i hi => ?_
    have h1 := mnL_le L hi
    have h2 := mxL_ge L hi
    unfold inP
    omega
  · intro h
    have hp := hr.1
    obtain ⟨i, hi, e1⟩ := mnL_at L L.length hp
    obtain ⟨k, hk, e2⟩ := mxL_at L L.length hp
    have h1 := list_at.1 h i hi
    have h2 := list_at.1 h k hk
    unfold inP at h1 h2
    omega
theorem mn_in {L : List Int} (hr : RightW L) : inP (mnL L L.length) := by
  obtain ⟨i, hi, e⟩ := mnL_at L L.length hr.1
  rw [e]; exact hr.at hi
theorem mx_in {L : List Int} (hr : RightW L) : inP (mxL L L.length) := by
  obtain ⟨i, hi, e⟩ := mxL_at L L.length hr.1
  rw [e]; exact hr.at hi
theorem rest_mm {L : List Int} (hr : RightW L) : decide (mnL L L.length = mxL L L.length) = restB L := by
  unfold restB
  rw [decide_eq_decide]
  have h0 : 0 < L.length := hr.1
  have a0 := mnL_le L h0
  have b0 := mxL_ge L h0
  constructor
  · intro h
    refine ⟨hr, list_at.2 fun i hi => ?_⟩
    have h1 := mnL_le L hi
    have h2 := mxL_ge L hi
    omega
  · rintro ⟨_, h⟩
    obtain ⟨i, hi, e1⟩ := mnL_at L L.length h0
    obtain ⟨k, hk, e2⟩ := mxL_at L L.length h0
    rw [e1, e2, list_at.1 h i hi, list_at.1 h k hk]
set_option maxHeartbeats 1000000 in
theorem mayshift_any (L : List Int) (d : Int) (hr : RightW L) {A : Option Addr} {len cap B : Nat} {w : World} (h : Win w B A len cap L) (hB : B ≤ w.heap.size) :
    Calls Try.prog 23 #[.agg #[.slice A len cap], .int .i64 d] w fun e w' => e = .returned (.bool (mayB L d)) ∧ Below w.heap.size w w' := by
  have hlen := h.len_le
  have hl0 : 0 < len := by rw [← h.1]; exact hr.1
  have ha := Below.alloc (Below.refl w.heap.size w) (Nat.le_refl _) (.cells #[.slice A len cap] 24)
  have HW := Lib.hid (((h.more hB).below ha).more ha.size)
  have HA := Lib.hid ha
  have HX := may_range hr d
  have hm := mn_in hr
  have hx := mx_in hr
  rw [h.1] at hm hx HX
  obtain ⟨mn, hmn⟩ : ∃ mn, mnL L len = mn := ⟨_, rfl⟩
  obtain ⟨mx, hmx⟩ : ∃ mx, mxL L len = mx := ⟨_, rfl⟩
  rw [hmn] at hm HX
  rw [hmx] at hx HX
  have M1 := Lib.hid (min_quiet HW.out hl0 hmn)
  have M2 := Lib.hid (max_quiet HW.out hl0 hmx)
  obtain ⟨m1, m2⟩ := hm
  obtain ⟨x1, x2⟩ := hx
  clear hmn hmx
  have W1 : IntKind.i64.wrap (-2199023255552 - mn) = -2199023255552 - mn := by rw [IntKind.wrap_i64]; omega
  have W2 : IntKind.i64.wrap (2199023255552 - mx) = 2199023255552 - mx := by rw [IntKind.wrap_i64]; omega
  have HC := Lib.hid (within_quiet HX)
  clear HX m1 m2 x1 x2
  clear h ha
  go_enter Try.func23, Try.ntmps23
  go_wp2
  go_quiet (first
    | (go_at_call 20; with_reducible exact M1.out _)
    | (go_at_call 21; with_reducible exact M2.out _)
    | (go_at_call 24; with_reducible exact HC.out _ _))
  go_wp2
  go_ret
  exact ⟨rfl, below_drawn HA.out _⟩
end Go.Proofs.Ytgfhpdgohjnooaa.mm
