/- What servitorref12's SameList, SameInts, Same and IDs answer; what was in memory is as it was. No condition but that the rows are read where they lie. -/
import Derived.Test.YtnghifbkiipigaaLnMath
namespace Go.Proofs.Ytnghifbkiipigaa.ln
open Go.ChangeShapes Go.WideShapes Go.ChangeAt Go.RowKit Go.Proofs.Ytnghifbkiipigaa.k Go.Proofs.Ytnghifbkiipigaa.rr
set_option linter.unusedVariables false

theorem cell_int {w : World} {b o j : Nat} {x : Int} (h : w.rangeAt b (o + j * 1) (iC x)) : w.cell? ⟨b, o + j, none⟩ = some (.int .i64 x) := by
  have := h 0 _ rfl
  rwa [Nat.mul_one, Nat.add_zero] at this
theorem rows_same {α : Type} {L : List α} {i : Nat} {x y : α} (h : L[i]? = some x) (h' : L[i]? = some y) : x = y := by rw [h] at h'; injection h'
set_option maxHeartbeats 1000000 in
theorem samelist_any (L : List C) {A A' : Option Addr} {n cap B cap' B' : Nat} {w : World} (h : RdC w B A n cap L) (hB : B ≤ w.heap.size) (h' : RdC w B' A' n cap' L) (hB' : B' ≤ w.heap.size) :
    Calls Try.prog 25 #[.slice A n cap, .slice A' n cap'] w fun e w' => e = .returned (.bool true) ∧ Below w.heap.size w w' := by
  have hlen := h.len_le
  have HW := Lib.hid h
  have HW' := Lib.hid h'
  clear h h'
  go_enter Try.func25, Try.ntmps25
  go_wp2
  go_loopw [5] (fun i wr => ∃ j : Nat, j ≤ n ∧ i = .int .i64 j ∧ ∃ q, wr = w.drewN q) (fun i _ => n - (intOf i).toNat)
  case atStart => exact ⟨0, Nat.zero_le _, rfl, 0, rfl⟩
  case round =>
    obtain ⟨j, hj, rfl, q, rfl⟩ := hrel
    by_cases hlt : j < n
    · obtain ⟨b, o, x, rfl, hb, hx, hr⟩ := HW.out.at hlt
      obtain ⟨b', o', x', rfl, hb', hx', hr'⟩ := HW'.out.at hlt
      have ex := rows_same hx hx'
      subst ex
      obtain ⟨c0, c1, c2, c3, c4, c5, c6⟩ := cells_com hr
      obtain ⟨d0, d1, d2, d3, d4, d5, d6⟩ := cells_com hr'
      have hj0 : (0 : Int) ≤ (j : Int) := by omega
      have hj1 : (j : Int) < (n : Int) := by omega
      clear hr hr' hx hx'
      go_wp2
      go_quiet (fail)
      go_wp2
      go_roundw
      case rel => exact ⟨j + 1, by omega, by go_num, q + nq, (by first | rfl | exact World.drewN_drewN _ _ _)⟩
      case measure => simp [intOf]; omega
    · have hjl : j = n := by omega
      subst hjl
      go_wp2
      go_ret
      exact ⟨rfl, below_drawn (Below.refl _ _) _⟩
set_option maxHeartbeats 1000000 in
theorem sameints_any (L : List Int) {A A' : Option Addr} {n cap B cap' B' : Nat} {w : World} (h : RdI w B A n cap L) (hB : B ≤ w.heap.size) (h' : RdI w B' A' n cap' L) (hB' : B' ≤ w.heap.size) :
    Calls Try.prog 12 #[.slice A n cap, .slice A' n cap'] w fun e w' => e = .returned (.bool true) ∧ Below w.heap.size w w' := by
  have hlen := h.len_le
  have HW := Lib.hid h
  have HW' := Lib.hid h'
  clear h h'
  go_enter Try.func12, Try.ntmps12
  go_wp2
  go_loopw [5] (fun i wr => ∃ j : Nat, j ≤ n ∧ i = .int .i64 j ∧ ∃ q, wr = w.drewN q) (fun i _ => n - (intOf i).toNat)
  case atStart => exact ⟨0, Nat.zero_le _, rfl, 0, rfl⟩
  case round =>
    obtain ⟨j, hj, rfl, q, rfl⟩ := hrel
    by_cases hlt : j < n
    · obtain ⟨b, o, x, rfl, hb, hx, hr⟩ := HW.out.at hlt
      obtain ⟨b', o', x', rfl, hb', hx', hr'⟩ := HW'.out.at hlt
      have ex := rows_same hx hx'
      subst ex
      have c0 := cell_int hr
      have d0 := cell_int hr'
      have hj0 : (0 : Int) ≤ (j : Int) := by omega
      have hj1 : (j : Int) < (n : Int) := by omega
      clear hr hr' hx hx'
      go_wp2
      go_quiet (fail)
      go_wp2
      go_roundw
      case rel => exact ⟨j + 1, by omega, by go_num, q + nq, (by first | rfl | exact World.drewN_drewN _ _ _)⟩
      case measure => simp [intOf]; omega
    · have hjl : j = n := by omega
      subst hjl
      go_wp2
      go_ret
      exact ⟨rfl, below_drawn (Below.refl _ _) _⟩
/-- a line's value -/
abbrev lnV (A : Option Addr) (n cap : Nat) (A' : Option Addr) (m cap' : Nat) : Value := .agg #[.slice A n cap, .slice A' m cap']
set_option maxHeartbeats 1000000 in
theorem same_any (N M : List C) {A A' D D' : Option Addr} {n cap m cap' dap dap' B : Nat} {w : World} (h : RdC w B A n cap N) (h2 : RdC w B A' m cap' M) (g : RdC w B D n dap N) (g2 : RdC w B D' m dap' M) (hB : B ≤ w.heap.size) :
    Calls Try.prog 11 #[lnV A n cap A' m cap', lnV D n dap D' m dap'] w fun e w' => e = .returned (.bool true) ∧ Below w.heap.size w w' := by
  have C1 := Lib.hid fun (W : World) (hb : Below B w W) => samelist_any N (h.below hb) (Nat.le_trans hB hb.size) (g.below hb) (Nat.le_trans hB hb.size)
  have C2 := Lib.hid fun (W : World) (hb : Below B w W) => samelist_any M (h2.below hb) (Nat.le_trans hB hb.size) (g2.below hb) (Nat.le_trans hB hb.size)
  have HB := Lib.hid hB
  clear h h2 g g2 hB
  go_enter Try.func11, Try.ntmps11
  go_upto_region 1 with (fail)
  obtain ⟨x1, x2, x3, x4⟩ := k.boxes2 (w := w) (c1 := #[.slice A n cap, .slice A' m cap']) (t1 := 24) (c2 := #[.slice D n dap, .slice D' m dap']) (t2 := 24) (Below.refl _ _)
  generalize (w.alloc (.cells #[.slice A n cap, .slice A' m cap'] 24)).alloc (.cells #[.slice D n dap, .slice D' m dap'] 24) = w2 at x1 x2 x3 x4 ⊢
  have X1 := Lib.hid x1
  have X2 := Lib.hid x2
  have X3 := Lib.hid x3
  have ⟨c0, _⟩ := k.cell_of x1 (i := 0) rfl
  have ⟨c1, _⟩ := k.cell_of x1 (i := 1) rfl
  have ⟨d0, _⟩ := k.cell_of x2 (i := 0) rfl
  have ⟨d1, _⟩ := k.cell_of x2 (i := 1) rfl
  clear x1 x2 x3
  go_wp2_with (first
    | (go_at_call 25; ((with_reducible refine (C1.out w2 (X3.out.mono HB.out)).mono ?_); rintro e w3 ⟨rfl, hb⟩; have X4 := Lib.hid (X3.out.trans (hb.mono X3.out.size)); have c1' := (k.cell_of (X1.out.below hb (by omega)) (i := 1) rfl).1; have d1' := (k.cell_of (X2.out.below hb (by omega)) (i := 1) rfl).1; clear hb c0 c1 d0 d1))
    | (go_at_call 25; ((with_reducible refine (C2.out _ (X4.out.mono HB.out)).mono ?_); rintro e w5 ⟨rfl, hb⟩; have X5 := Lib.hid (X4.out.trans (hb.mono X4.out.size)); clear hb)))
  go_ret
  exact ⟨rfl, X5.out⟩
theorem ids_succ (L : List C) (j : Nat) (x : C) (h : L[j]? = some x) : ids (L.take (j + 1)) = ids (L.take j) ++ [x.id] := by
  have hj : j < L.length := (List.getElem?_eq_some_iff.1 h).1
  have e : L[j] = x := by rw [List.getElem?_eq_getElem hj] at h; injection h
  unfold ids
  rw [List.take_succ_eq_append_getElem hj, List.map_append, e]
  rfl
theorem ids_len (L : List C) : (ids L).length = L.length := by simp [ids]
set_option maxHeartbeats 1000000 in
theorem ids_any (L : List C) {A : Option Addr} {n cap B : Nat} {w : World} (h : RdC w B A n cap L) (hB : B ≤ w.heap.size) (hn : n ≤ 10000) :
    Calls Try.prog 18 #[.slice A n cap] w fun e w' => ∃ v, e = .returned v ∧ OwI w' w.heap.size v (ids L) ∧ Below w.heap.size w w' := by
  have hlen := h.len_le
  have HL := Lib.hid h.1
  have HW := Lib.hid h
  have HBB := Lib.hid hB
  clear h hB
  go_enter Try.func18, Try.ntmps18
  go_wp2
  go_loopw [3, 4] (fun v i wr => ∃ j : Nat, j ≤ n ∧ i = .int .i64 j ∧ OwI wr w.heap.size v (ids (L.take j)) ∧ Below w.heap.size w wr) (fun _ i _ => n - (intOf i).toNat)
  case atStart => exact ⟨0, Nat.zero_le _, rfl, Ow.nil _ _ _ _ _, Below.refl _ _⟩
  case round =>
    obtain ⟨j, hj, rfl, hO, hb⟩ := hrel
    have HO := Lib.hid hO
    have HB := Lib.hid hb
    by_cases hlt : j < n
    · obtain ⟨b, o, x, rfl, hb', hx, hr⟩ := (HW.out.below (hb.mono HBB.out)).at hlt
      have c0 := (cells_com hr).1
      have hj0 : (0 : Int) ≤ (j : Int) := by omega
      have hj1 : (j : Int) < (n : Int) := by omega
      have HX := Lib.hid (ids_succ L j x hx)
      have HZ := Lib.hid (hb.size)
      have HM : Hid ((ids (L.take j)).length ≤ 10000) := Lib.hid (by rw [ids_len, List.length_take]; omega)
      clear hr hx hO hb
      go_wp2_with (at_builtin; refine wpList_append_row iC_len (by omega) iC_one ints_slice int_info rfl (by omega) _ rfl (.tmp 11) (.tmp 17) rfl w.heap.size _ (ids (L.take j)) rfl (HO.out.under ((Below.refl _ _).alloc (Nat.le_refl _) _)) (wr.heap.size + 1) (some ⟨wr.heap.size, 0, none⟩) 1 1 [x.id] rfl (one_row wr _ x.id _ rfl) (by have := HM.out; simp; omega) (Nat.le_trans HZ.out (by simp)) ?_; intro v1 w1 hown1 hg1 hat1; have O1 := Lib.hid hown1; have B1 := Lib.hid ((HO.out.under ((Below.refl _ _).alloc (Nat.le_refl _) _)).lays (HB.out.alloc HZ.out _) (Nat.le_refl _) (Nat.le_refl _) hg1); clear hown1 hg1 hat1)
      go_roundw
      case rel => exact ⟨j + 1, by omega, by go_num, by rw [HX.out]; exact O1.out, B1.out⟩
      case measure => simp [intOf]; omega
    · have hjl : j = n := by omega
      subst hjl
      clear hO hb
      go_wp2
      go_ret
      exact ⟨_, rfl, by have := HO.out; rwa [List.take_of_length_le (by rw [HL.out]; exact Nat.le_refl _)] at this, HB.out⟩
end Go.Proofs.Ytnghifbkiipigaa.ln
