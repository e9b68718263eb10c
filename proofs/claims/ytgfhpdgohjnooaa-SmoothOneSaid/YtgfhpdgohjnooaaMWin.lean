/- A window of places as it lies in memory, and what a program says of one; servitorlaw10's place, right and same. No condition but what each line says. -/
import Derived.Test.YtgfhpdgohjnooaaMMath
namespace Go.Proofs.Ytgfhpdgohjnooaa.mm
open Go.ChangeShapes Go.WideShapes Go.ChangeAt Go.RowKit Go.Proofs.Ytgfhpdgohjnooaa.k
set_option linter.unusedVariables false

/-! ### What is said of windows -/
def inP (n : Int) : Prop := -2199023255552 ≤ n ∧ n ≤ 2199023255552
instance (n : Int) : Decidable (inP n) := by unfold inP; infer_instance
def placeB (n : Int) : Bool := decide (inP n)
theorem placeB_yes {n : Int} (h : inP n) : placeB n = true := decide_eq_true h
theorem placeB_no {n : Int} (h : ¬ inP n) : placeB n = false := decide_eq_false h
def RightW (L : List Int) : Prop := 1 ≤ L.length ∧ L.length ≤ 16 ∧ ∀ x ∈ L, inP x
instance (L : List Int) : Decidable (RightW L) := by unfold RightW; infer_instance
def rightB (L : List Int) : Bool := decide (RightW L)
theorem rightB_yes {L : List Int} (h : RightW L) : rightB L = true := decide_eq_true h
theorem rightB_no {L : List Int} (h : ¬ RightW L) : rightB L = false := decide_eq_false h
theorem getD_mem {L : List Int} {i : Nat} (h : i < L.length) : L.getD i 0 ∈ L := by
  rw [List.getD_eq_getElem?_getD, List.getElem?_eq_getElem h]
  exact List.getElem_mem h
theorem all_getD {L : List Int} {P : Int → Prop} (h : ∀ i, i < L.length → P (L.getD i 0)) : ∀ x ∈ L, P x := by
  intro x hx
  obtain ⟨i, hi, rfl⟩ := List.getElem_of_mem hx
  have := h i hi
  rwa [List.getD_eq_getElem?_getD, List.getElem?_eq_getElem hi] at this
theorem RightW.at {L : List Int} (h : RightW L) {i : Nat} (hi : i < L.length) : inP (L.getD i 0) := h.2.2 _ (getD_mem hi)
def sameB (L K : List Int) : Bool := decide (L = K)
theorem sameB_self (L : List Int) : sameB L L = true := decide_eq_true rfl
theorem take_snoc (l : List Int) (n : Nat) (h : n < l.length) : l.take (n + 1) = l.take n ++ [l.getD n 0] := by
  rw [List.take_succ_eq_append_getElem h, List.getD_eq_getElem?_getD, List.getElem?_eq_getElem h]; rfl
theorem take_eq (l k : List Int) (n : Nat) (hl : n < l.length) (hk : n < k.length) (h : l.take n = k.take n) (e : l.getD n 0 = k.getD n 0) : l.take (n + 1) = k.take (n + 1) := by
  rw [take_snoc l n hl, take_snoc k n hk, h, e]

/-! ### As it lies in memory -/
def Win (w : World) (B : Nat) (A : Option Addr) (len cap : Nat) (L : List Int) : Prop :=
  L.length = len ∧ len ≤ cap ∧ cap ≤ maxLen ∧ (A = none → cap = 0) ∧ (0 < len → ∃ b off, A = some ⟨b, off, none⟩ ∧ b < B ∧ ∀ i, i < len → w.cell? ⟨b, off + i, none⟩ = some (.int .i64 (L.getD i 0)))
section
variable {w w' : World} {B : Nat} {A : Option Addr} {len cap : Nat} {L : List Int}
theorem Win.below (h : Win w B A len cap L) (hb : Below B w w') : Win w' B A len cap L :=
  ⟨h.1, h.2.1, h.2.2.1, h.2.2.2.1, fun hn => by
    obtain ⟨b, off, e, hB, hc⟩ := h.2.2.2.2 hn
    exact ⟨b, off, e, hB, fun i hi => (hb.cell (p := ⟨b, off + i, none⟩) hB).trans (hc i hi)⟩⟩
theorem Win.more {B' : Nat} (h : Win w B A len cap L) (hB : B ≤ B') : Win w B' A len cap L :=
  ⟨h.1, h.2.1, h.2.2.1, h.2.2.2.1, fun hn => by
    obtain ⟨b, off, e, hb, hc⟩ := h.2.2.2.2 hn
    exact ⟨b, off, e, by omega, hc⟩⟩
theorem Win.len_le (h : Win w B A len cap L) : (len : Int) ≤ 9223372036854775807 := by
  have h1 := h.2.1
  have h2 := h.2.2.1
  unfold maxLen at h2
  omega
theorem Win.at (h : Win w B A len cap L) {i : Nat} (hi : i < len) : ∃ b off, A = some ⟨b, off, none⟩ ∧ b < B ∧ w.cell? ⟨b, off + i, none⟩ = some (.int .i64 (L.getD i 0)) := by
  obtain ⟨b, off, e, hb, hc⟩ := h.2.2.2.2 (by omega)
  exact ⟨b, off, e, hb, hc i hi⟩
theorem Win.none_ (w : World) (B : Nat) : Win w B none 0 0 [] := ⟨rfl, Nat.le_refl _, by unfold maxLen; omega, fun _ => rfl, fun h => absurd h (by omega)⟩
end
/-- a window that a call answers: as a struct of its own -/
def GotW (w : World) (L : List Int) (e : Ending) (w' : World) : Prop := ∃ A len cap, e = .returned (.agg #[.slice A len cap]) ∧ Win w' w'.heap.size A len cap L ∧ Below w.heap.size w w'

/-! ### The law's own functions -/
theorem place_any (n : Int) (w : World) : Calls Try.prog 10 #[.int .i64 n] w fun e w' => e = .returned (.bool (placeB n)) ∧ w = w' := by
  by_cases h1 : -2199023255552 ≤ n
  · by_cases h2 : n ≤ 2199023255552
    · have HV := Lib.hid (placeB_yes ⟨h1, h2⟩)
      go_enter Try.func10, Try.ntmps10
      go_wp2
      go_ret
      exact ⟨ret_bool HV.out.symm, rfl⟩
    · have HV := Lib.hid (placeB_no fun h => h2 h.2)
      have hd : decide (n ≤ 2199023255552) = false := decide_eq_false h2
      go_enter Try.func10, Try.ntmps10
      go_wp2
      go_ret
      exact ⟨ret_bool HV.out.symm, rfl⟩
  · have HV := Lib.hid (placeB_no fun h => h1 h.1)
    have hd : decide (-2199023255552 ≤ n) = false := decide_eq_false h1
    go_enter Try.func10, Try.ntmps10
    go_wp2
    go_ret
    exact ⟨ret_bool HV.out.symm, rfl⟩
theorem place_yes {n : Int} (h : inP n) (w : World) : Calls Try.prog 10 #[.int .i64 n] w fun e w' => e = .returned (.bool true) ∧ w = w' := placeB_yes h ▸ place_any n w
theorem place_no {n : Int} (h : ¬ inP n) (w : World) : Calls Try.prog 10 #[.int .i64 n] w fun e w' => e = .returned (.bool false) ∧ w = w' := placeB_no h ▸ place_any n w

set_option maxHeartbeats 1000000 in
theorem right_any (L : List Int) {A : Option Addr} {len cap B : Nat} {w : World} (h : Win w B A len cap L) (hB : B ≤ w.heap.size) :
    Calls Try.prog 12 #[.agg #[.slice A len cap]] w fun e w' => e = .returned (.bool (rightB L)) ∧ Below w.heap.size w w' := by
  have hlen := h.len_le
  have HL := Lib.hid h.1
  have ha := Below.alloc (Below.refl B w) hB (.cells #[.slice A len cap] 24)
  have HW := Lib.hid (h.below ha)
  clear h
  by_cases h1 : 1 ≤ len
  · by_cases h2 : len ≤ 16
    · have h1i : (1 : Int) ≤ (len : Int) := by omega
      have h2i : (len : Int) ≤ 16 := by omega
      clear h1 h2
      go_enter Try.func12, Try.ntmps12
      go_wp2
      go_loop [3] (fun i => ∃ j : Nat, j ≤ len ∧ i = .int .i64 j ∧ ∀ k, k < j → inP (L.getD k 0)) (fun i => len - (intOf i).toNat)
      case atStart => exact ⟨0, Nat.zero_le _, rfl, fun k hk => absurd hk (by omega)⟩
      case round =>
        obtain ⟨j, hj, rfl, hT⟩ := hrel
        have HT := Lib.hid hT
        clear hT
        by_cases hlt : j < len
        · obtain ⟨b, off, rfl, hb, hc⟩ := HW.out.at hlt
          have hj0 : (0 : Int) ≤ (j : Int) := by omega
          have hj1 : (j : Int) < (len : Int) := by omega
          obtain ⟨x, hx⟩ : ∃ x, L.getD j 0 = x := ⟨_, rfl⟩
          rw [hx] at hc
          by_cases hp : inP x
          · have HX : Hid (∀ k, k < j + 1 → inP (L.getD k 0)) := Lib.hid fun k hk => by
              by_cases e : k = j
              · subst e; rw [hx]; exact hp
              · exact HT.out k (by omega)
            clear hx
            have HP := Lib.hid hp
            clear hp
            go_wp2_with (go_at_call 10; ((with_reducible refine (place_yes HP.out _).mono ?_); rintro e w' ⟨rfl, rfl⟩))
            go_round
            case rel => exact ⟨j + 1, by omega, by go_num, HX.out⟩
            case measure => simp [intOf]; omega
          · have HX : Hid (rightB L = false) := Lib.hid (rightB_no fun h => hp (hx ▸ h.at (by rw [HL.out]; omega)))
            clear hx
            have HP := Lib.hid hp
            clear hp
            go_wp2_with (go_at_call 10; ((with_reducible refine (place_no HP.out _).mono ?_); rintro e w' ⟨rfl, rfl⟩))
            go_ret
            exact ⟨ret_bool HX.out.symm, (Below.refl _ _).alloc (Nat.le_refl _) _⟩
        · have hjl : j = len := by omega
          subst hjl
          have HX : Hid (rightB L = true) := Lib.hid (rightB_yes ⟨by rw [HL.out]; omega, by rw [HL.out]; omega, all_getD fun i hi => HT.out i (by rw [HL.out] at hi; omega)⟩)
          go_wp2
          go_ret
          exact ⟨ret_bool HX.out.symm, (Below.refl _ _).alloc (Nat.le_refl _) _⟩
    · have HX : Hid (rightB L = false) := Lib.hid (rightB_no fun h => by have := h.2.1; rw [HL.out] at this; omega)
      have h1i : (1 : Int) ≤ (len : Int) := by omega
      have h2i : (16 : Int) < (len : Int) := by omega
      clear h1 h2
      go_enter Try.func12, Try.ntmps12
      go_wp2
      go_ret
      exact ⟨ret_bool HX.out.symm, (Below.refl _ _).alloc (Nat.le_refl _) _⟩
  · have HX : Hid (rightB L = false) := Lib.hid (rightB_no fun h => by have := h.1; rw [HL.out] at this; omega)
    have h1i : (len : Int) < 1 := by omega
    clear h1
    go_enter Try.func12, Try.ntmps12
    go_wp2
    go_ret
    exact ⟨ret_bool HX.out.symm, (Below.refl _ _).alloc (Nat.le_refl _) _⟩
set_option maxHeartbeats 1000000 in
theorem same_any (L K : List Int) {A A' : Option Addr} {len cap B len' cap' B' : Nat} {w : World} (h : Win w B A len cap L) (hB : B ≤ w.heap.size) (h' : Win w B' A' len' cap' K) (hB' : B' ≤ w.heap.size) :
    Calls Try.prog 14 #[.agg #[.slice A len cap], .agg #[.slice A' len' cap']] w fun e w' => e = .returned (.bool (sameB L K)) ∧ Below w.heap.size w w' := by
  have hlen := h.len_le
  have hlen' := h'.len_le
  have HL := Lib.hid h.1
  have HK := Lib.hid h'.1
  have ha := (Below.alloc (Below.refl B w) hB (.cells #[.slice A len cap] 24)).alloc (Nat.le_trans hB (by simp)) (.cells #[.slice A' len' cap'] 24)
  have ha' := (Below.alloc (Below.refl B' w) hB' (.cells #[.slice A len cap] 24)).alloc (Nat.le_trans hB' (by simp)) (.cells #[.slice A' len' cap'] 24)
  have HW := Lib.hid (h.below ha)
  have HW' := Lib.hid (h'.below ha')
  have H0 : Hid (L.take 0 = K.take 0) := Lib.hid rfl
  clear h h' ha ha'
  by_cases hnm : len = len'
  · subst hnm
    go_enter Try.func14, Try.ntmps14
    go_wp2
    go_loopw [5] (fun i wr => ∃ j : Nat, j ≤ len ∧ i = .int .i64 j ∧ L.take j = K.take j ∧ ∃ q, wr = ((w.alloc (.cells #[.slice A len cap] 24)).alloc (.cells #[.slice A' len cap'] 24)).drewN q) (fun i _ => len - (intOf i).toNat)
    case atStart => exact ⟨0, Nat.zero_le _, rfl, H0.out, 0, rfl⟩
    case round =>
      obtain ⟨j, hj, rfl, hT, q, rfl⟩ := hrel
      have HT := Lib.hid hT
      clear hT
      by_cases hlt : j < len
      · obtain ⟨b, o, rfl, hb, c1⟩ := HW.out.at hlt
        obtain ⟨b', o', rfl, hb', c2⟩ := HW'.out.at hlt
        have hj0 : (0 : Int) ≤ (j : Int) := by omega
        have hj1 : (j : Int) < (len : Int) := by omega
        have HD : Hid (L.getD j 0 = K.getD j 0 → L.take (j + 1) = K.take (j + 1)) := Lib.hid (take_eq L K j (by rw [HL.out]; omega) (by rw [HK.out]; omega) HT.out)
        have HE : Hid (L.getD j 0 ≠ K.getD j 0 → sameB L K = false) := Lib.hid fun h => by
          unfold sameB
          rw [decide_eq_false_iff_not]
          intro e
          exact h (by rw [e])
        generalize L.getD j 0 = x at *
        generalize K.getD j 0 = y at *
        by_cases hxy : x = y
        · have HX := Lib.hid (HD.out hxy)
          have ht : (x != y) = false := by subst hxy; simp
          clear hxy
          go_wp2
          go_quiet (fail)
          go_wp2
          go_roundw
          case rel => exact ⟨j + 1, by omega, by go_num, HX.out, q + nq, (by first | rfl | exact World.drewN_drewN _ _ _)⟩
          case measure => simp [intOf]; omega
        · have HX := Lib.hid (HE.out hxy)
          have ht : (x != y) = true := by rw [bne_iff_ne]; exact hxy
          clear hxy
          go_wp2
          go_quiet (fail)
          go_wp2
          go_ret
          exact ⟨ret_bool HX.out.symm, below_drawn (below_drawn (((Below.refl _ _).alloc (Nat.le_refl _) _).alloc (by simp) _) _) _⟩
      · have hjl : j = len := by omega
        subst hjl
        have HX : Hid (sameB L K = true) := Lib.hid (by
          have := HT.out
          rw [List.take_of_length_le (by rw [HL.out]; omega), List.take_of_length_le (by rw [HK.out]; omega)] at this
          unfold sameB
          rw [decide_eq_true_iff]
          exact this)
        go_wp2
        go_ret
        exact ⟨ret_bool HX.out.symm, below_drawn (((Below.refl _ _).alloc (Nat.le_refl _) _).alloc (by simp) _) _⟩
  · have HX : Hid (sameB L K = false) := Lib.hid (by
      unfold sameB
      rw [decide_eq_false_iff_not]
      intro e
      exact hnm (by rw [← HL.out, ← HK.out, e]))
    have hnm2 : ((len : Int) == (len' : Int)) = false := by rw [beq_eq_false_iff_ne]; omega
    have hnm3 : ((len : Int) != (len' : Int)) = true := by rw [bne_iff_ne]; omega
    clear hnm
    go_enter Try.func14, Try.ntmps14
    go_wp2
    go_ret
    exact ⟨ret_bool HX.out.symm, ((Below.refl _ _).alloc (Nat.le_refl _) _).alloc (by simp) _⟩
end Go.Proofs.Ytgfhpdgohjnooaa.mm
