/- What line's modeless and Right and slices.ContainsFunc answer, and IDs; what was in memory is as it was. No condition but that the rows are read where they lie. -/
import Derived.Test.YtnghifbkiipigaaLnVar
import Derived.Shelf.Abstract
namespace Go.Proofs.Ytnghifbkiipigaa.ln
open Go.ChangeShapes Go.WideShapes Go.ChangeAt Go.RowKit Go.Proofs.Ytnghifbkiipigaa.k Go.Proofs.Ytnghifbkiipigaa.rr
set_option linter.unusedVariables false

/-- the value of the function 'modeless' -/
abbrev fnV : Value := .func (.func 20) #[] #[]
def noMode (c : C) : Bool := decide (¬ OkC c)
theorem modeless_any (c : C) (w : World) : Calls Try.prog 20 #[cV c] w fun e w' => e = .returned (.bool (noMode c)) ∧ Below w.heap.size w w' := by
  unfold cV
  by_cases h0 : c.mode < 0
  · have HV : Hid (noMode c = true) := Lib.hid (decide_eq_true fun h => by have := h.1; omega)
    go_enter Try.func20, Try.ntmps20
    go_wp2
    go_ret
    exact ⟨ret_bool HV.out.symm, (Below.refl _ _).alloc (Nat.le_refl _) _⟩
  · by_cases h5 : 5 < c.mode
    · have HV : Hid (noMode c = true) := Lib.hid (decide_eq_true fun h => by have := h.2; omega)
      go_enter Try.func20, Try.ntmps20
      go_wp2
      go_ret
      exact ⟨ret_bool HV.out.symm, (Below.refl _ _).alloc (Nat.le_refl _) _⟩
    · have HV : Hid (noMode c = false) := Lib.hid (decide_eq_false fun h => h ⟨by omega, by omega⟩)
      have h1 : decide (5 < c.mode) = false := decide_eq_false h5
      go_enter Try.func20, Try.ntmps20
      go_wp2
      go_ret
      exact ⟨ret_bool HV.out.symm, (Below.refl _ _).alloc (Nat.le_refl _) _⟩
def anyNo (L : List C) : Bool := L.any noMode
theorem any_hit {L : List C} {j : Nat} {x : C} (h : L[j]? = some x) (hx : noMode x = true) : anyNo L = true := List.any_eq_true.2 ⟨x, List.mem_of_getElem? h, hx⟩
theorem any_miss {L : List C} (h : ∀ q x, q < L.length → L[q]? = some x → noMode x = false) : anyNo L = false := by
  unfold anyNo
  rw [List.any_eq_false]
  intro x hx
  obtain ⟨i, hi, rfl⟩ := List.getElem_of_mem hx
  rw [h i _ hi (List.getElem?_eq_getElem hi)]
  simp
set_option maxHeartbeats 1000000 in
theorem index_any (L : List C) {A : Option Addr} {n cap B : Nat} {w : World} (h : RdC w B A n cap L) (hB : B ≤ w.heap.size) :
    Calls Try.prog 27 #[.slice A n cap, fnV] w fun e w' => (∃ r : Int, e = .returned (.int .i64 r) ∧ ((0 ≤ r ∧ anyNo L = true) ∨ (r = -1 ∧ anyNo L = false))) ∧ Below w.heap.size w w' := by
  have hlen := h.len_le
  have HL := Lib.hid h.1
  have HR := Lib.hid h
  have HBB := Lib.hid hB
  have HC := Lib.hid fun (x : C) (W : World) => modeless_any x W
  clear h hB
  go_enter Try.func27, Try.ntmps27
  go_wp2
  go_loopw [5, 8] (fun _ i wr => ∃ j : Nat, j ≤ n ∧ i = .int .i64 j ∧ (∀ q x, q < j → L[q]? = some x → noMode x = false) ∧ Below w.heap.size w wr) (fun _ i _ => n - (intOf i).toNat)
  case atStart => exact ⟨0, Nat.zero_le _, rfl, fun q x hq => absurd hq (by omega), Below.refl _ _⟩
  case round =>
    obtain ⟨j, hj, rfl, hT, hb⟩ := hrel
    have HT := Lib.hid hT
    have HBW := Lib.hid hb
    clear hT
    by_cases hlt : j < n
    · obtain ⟨b, o, x, rfl, hb', hx, hr⟩ := (HR.out.below (hb.mono HBB.out)).at hlt
      obtain ⟨g0, g1, g2, g3, g4, g5, g6⟩ := cells_com hr
      have hj0 : (0 : Int) ≤ (j : Int) := by omega
      have hj1 : (j : Int) < (n : Int) := by omega
      have HX := Lib.hid hx
      have HN := Lib.hid (fun hq : noMode x = true => any_hit hx hq)
      have HCC := HC.out x wr
      unfold cV at HCC
      clear hr hx hb hb'
      cases hq : noMode x with
      | true =>
        rw [hq] at HCC
        replace HCC := Lib.hid HCC
        have HA := Lib.hid (HN.out hq)
        clear hq
        go_wp2_with ((first | go_at_call 20 | go_at_fn 20); ((with_reducible refine HCC.out.mono ?_); rintro e w1 ⟨rfl, hb1⟩; have HB1 := Lib.hid hb1; clear hb1))
        go_ret
        exact ⟨⟨_, rfl, .inl ⟨hj0, HA.out⟩⟩, HBW.out.trans (HB1.out.mono HBW.out.size)⟩
      | false =>
        rw [hq] at HCC
        replace HCC := Lib.hid HCC
        have HQ := Lib.hid hq
        clear hq
        go_wp2_with ((first | go_at_call 20 | go_at_fn 20); ((with_reducible refine HCC.out.mono ?_); rintro e w1 ⟨rfl, hb1⟩; have HB1 := Lib.hid hb1; clear hb1))
        go_roundw
        case rel =>
          refine ⟨j + 1, by omega, by go_num, fun q y hq hy => ?_, HBW.out.trans (HB1.out.mono HBW.out.size)⟩
          by_cases e : q = j
          · subst e
            have := rows_same hy HX.out
            subst this
            exact HQ.out
          · exact HT.out q y (by omega) hy
        case measure => simp [intOf]; omega
    · have hjl : j = n := by omega
      subst hjl
      have HA := Lib.hid (any_miss fun q x hq hx => HT.out q x (by rw [← HL.out]; exact hq) hx)
      clear hb
      go_wp2
      go_ret
      exact ⟨⟨_, rfl, .inr ⟨rfl, HA.out⟩⟩, HBW.out⟩
theorem contains_any (L : List C) {A : Option Addr} {n cap B : Nat} {w : World} (h : RdC w B A n cap L) (hB : B ≤ w.heap.size) :
    Calls Try.prog 24 #[.slice A n cap, fnV] w fun e w' => e = .returned (.bool (anyNo L)) ∧ Below w.heap.size w w' := by
  have HC := Lib.hid (index_any L h hB)
  clear h hB
  go_enter Try.func24, Try.ntmps24
  go_wp2_with (go_at_call 27; fail)
  refine HC.out.mono ?_
  rintro e w1 ⟨⟨r, rfl, hr⟩, hb⟩
  have HBW := Lib.hid hb
  clear hb HC
  rcases hr with ⟨hr, ha⟩ | ⟨rfl, ha⟩
  · have HA := Lib.hid ha
    clear ha
    go_wp2
    go_ret
    exact ⟨ret_bool HA.out.symm, HBW.out⟩
  · have HA := Lib.hid ha
    clear ha
    go_wp2
    go_ret
    exact ⟨ret_bool HA.out.symm, HBW.out⟩
set_option maxHeartbeats 1000000 in
theorem lids_any (L : List C) {A : Option Addr} {n cap B : Nat} {w : World} (h : RdC w B A n cap L) (hB : B ≤ w.heap.size) (hn : n ≤ 10000) :
    Calls Try.prog 23 #[.slice A n cap] w fun e w' => ∃ v, e = .returned v ∧ OwI w' w.heap.size v (ids L) ∧ Below w.heap.size w w' := by
  have hlen := h.len_le
  have HL := Lib.hid h.1
  have HW := Lib.hid h
  have HBB := Lib.hid hB
  clear h hB
  go_enter Try.func23, Try.ntmps23
  go_wp2
  go_loopw [3, 8] (fun v i wr => ∃ j : Nat, j ≤ n ∧ i = .int .i64 j ∧ OwI wr w.heap.size v (ids (L.take j)) ∧ Below w.heap.size w wr) (fun _ i _ => n - (intOf i).toNat)
  case atStart => exact ⟨0, Nat.zero_le _, rfl, Ow.nil _ _ _ _ _, Below.refl _ _⟩
  case round =>
    obtain ⟨j, hj, rfl, hO, hb⟩ := hrel
    have HO := Lib.hid hO
    have HB := Lib.hid hb
    by_cases hlt : j < n
    · obtain ⟨b, o, x, rfl, hb', hx, hr⟩ := (HW.out.below (hb.mono HBB.out)).at hlt
      obtain ⟨g0, g1, g2, g3, g4, g5, g6⟩ := cells_com hr
      have hj0 : (0 : Int) ≤ (j : Int) := by omega
      have hj1 : (j : Int) < (n : Int) := by omega
      have HX := Lib.hid (ids_succ L j x hx)
      have HZ := Lib.hid (hb.size)
      have HM : Hid ((ids (L.take j)).length ≤ 10000) := Lib.hid (by rw [ids_len, List.length_take]; omega)
      clear hr hx hO hb
      go_upto_region 5 with (fail)
      have hb3 : Below wr.heap.size wr (wr.alloc (.cells #[.int .i64 x.id, .int .i64 x.kind, .int .i64 x.tgt, .int .i64 x.spd, .int .i64 x.mode, .int .i64 x.num, .int .i64 x.den] 26)) := (Below.refl _ _).alloc (Nat.le_refl _) _
      have HX3 := Box.new wr #[.int .i64 x.id, .int .i64 x.kind, .int .i64 x.tgt, .int .i64 x.spd, .int .i64 x.mode, .int .i64 x.num, .int .i64 x.den] 26
      generalize wr.alloc (.cells #[.int .i64 x.id, .int .i64 x.kind, .int .i64 x.tgt, .int .i64 x.spd, .int .i64 x.mode, .int .i64 x.num, .int .i64 x.den] 26) = w3 at hb3 HX3 ⊢
      have ⟨c0, _⟩ := k.cell_of HX3 (i := 0) rfl
      have O3 := Lib.hid (HO.out.under hb3)
      have B3 := Lib.hid (HB.out.trans (hb3.mono HB.out.size))
      clear hb3 HX3 HO HB g0 g1 g2 g3 g4 g5 g6
      go_wp2_with (at_builtin; refine wpList_append_row iC_len (by omega) iC_one ints_slice int_info rfl (by omega) _ rfl (.tmp 12) (.tmp 15) rfl w.heap.size _ (ids (L.take j)) rfl (O3.out.under ((Below.refl _ _).alloc (Nat.le_refl _) _)) (w3.heap.size + 1) (some ⟨w3.heap.size, 0, none⟩) 1 1 [x.id] rfl (one_row w3 _ x.id _ rfl) (by have := HM.out; simp; omega) (Nat.le_trans B3.out.size (by simp)) ?_; intro v1 w1 hown1 hg1 hat1; have O1 := Lib.hid hown1; have B1 := Lib.hid ((O3.out.under ((Below.refl _ _).alloc (Nat.le_refl _) _)).lays (B3.out.alloc B3.out.size _) (Nat.le_refl _) (Nat.le_refl _) hg1); clear hown1 hg1 hat1)
      go_roundw
      case rel => exact ⟨j + 1, by omega, by go_num, by rw [HX.out]; exact O1.out, B1.out⟩
      case measure => simp [intOf]; omega
    · have hjl : j = n := by omega
      subst hjl
      clear hO hb
      go_wp2
      go_ret
      exact ⟨_, rfl, by have := HO.out; rwa [List.take_of_length_le (by rw [HL.out]; exact Nat.le_refl _)] at this, HB.out⟩
end Go.Proofs.Ytnghifbkiipigaa.ln
