/- What state's Next, Moves and Takes answer, of any state and anything that happens; what was in memory is as it was. No condition. -/
import Derived.Test.YtcljilfbmodaiaaEdMath
import Derived.Test.YtcljilfbmodaiaaLnRow
namespace Go.Proofs.Ytcljilfbmodaiaa.ed
open Go.ChangeShapes Go.WideShapes Go.ChangeAt Go.RowKit Go.Proofs.Ytcljilfbmodaiaa.k Go.Proofs.Ytcljilfbmodaiaa.rr
set_option linter.unusedVariables false

/-- an edge: what happens, and where it leads -/
def eC (x : Int × Int) : List Value := [.int .i64 x.1, .int .i64 x.2]
def rowE (s : Int) : List (Int × Int) := if s = 0 then [(1, 1), (11, 7)] else if s = 1 then [(2, 0), (3, 2), (5, 4), (6, 5), (7, 6), (8, 3), (11, 7)] else if s = 2 then [(4, 1), (8, 3), (2, 0), (11, 7)] else if s = 3 then [(9, 1), (2, 0), (11, 7)] else if s = 4 then [(10, 1), (5, 4), (6, 5), (7, 6), (8, 3), (2, 0), (11, 7)] else if s = 5 then [(10, 1), (5, 4), (6, 5), (7, 6), (8, 3), (2, 0), (11, 7)] else if s = 6 then [(10, 1), (5, 4), (6, 5), (7, 6), (8, 3), (2, 0), (11, 7)] else if s = 7 then [(12, 1), (2, 0), (11, 7)] else []
theorem rowE_out {s : Int} (h : ¬ (0 ≤ s ∧ s ≤ 7)) : rowE s = [] := by
  unfold rowE
  rw [if_neg (by omega), if_neg (by omega), if_neg (by omega), if_neg (by omega), if_neg (by omega), if_neg (by omega), if_neg (by omega), if_neg (by omega)]
theorem hit {s ev t : Int} (h : (ev, t) ∈ rowE s) : nxS s ev = t ∧ nxB s ev = true := by
  by_cases hs : 0 ≤ s ∧ s ≤ 7
  · have hall : ∀ i : Fin 8, ∀ x ∈ rowE (i.val : Int), nxS (i.val : Int) x.1 = x.2 ∧ nxB (i.val : Int) x.1 = true := by decide +kernel
    have e1 : ((s.toNat : Nat) : Int) = s := by omega
    have := hall ⟨s.toNat, by omega⟩ (ev, t) (by simp only [e1]; exact h)
    simpa only [e1] using this
  · rw [rowE_out hs] at h
    cases h
theorem miss {s ev : Int} (h : ∀ x ∈ rowE s, x.1 ≠ ev) : nxS s ev = s ∧ nxB s ev = false := by
  by_cases hi : InT s ev
  · exact all_in (P := fun s ev => (∀ x ∈ rowE s, x.1 ≠ ev) → nxS s ev = s ∧ nxB s ev = false) (by decide +kernel) hi h
  · exact out_of hi
theorem rowE_len (s : Int) : (rowE s).length ≤ 7 := by
  by_cases hs : 0 ≤ s ∧ s ≤ 7
  · have hall : ∀ i : Fin 8, (rowE (i.val : Int)).length ≤ 7 := by decide +kernel
    have e1 : ((s.toNat : Nat) : Int) = s := by omega
    have := hall ⟨s.toNat, by omega⟩
    simpa only [e1] using this
  · rw [rowE_out hs]; exact Nat.zero_le _
/-- a row that was written out, in a new block -/
theorem lit_row {α : Type} {enc : α → List Value} {z : Nat} (hz : ∀ x, (enc x).length = z) (w : World) (e : TypeId) (R : List α) (cs : Array Value) (n : Nat) (hn : R.length = n) (hm : n ≤ 1000) (hc : cs.toList = R.flatMap enc) :
    Rd enc z (w.alloc (.cells cs e)) (w.heap.size + 1) (some ⟨w.heap.size, 0, none⟩) n n R :=
  ⟨hn, Nat.le_refl _, by unfold maxLen; omega, (fun h => by cases h), fun _ => ⟨_, 0, rfl, by omega, fun i y hy j u hu => by
    have hj : j < z := by
      have h1 : j < (enc y).length := (List.getElem?_eq_some_iff.1 hu).1
      rwa [hz] at h1
    rw [Nat.zero_add, World.cell?_alloc_mark, ← hu, ← flat_at enc z hz R i j y hy hj, ← hc]
    simp⟩⟩
theorem cells_edge {w : World} {b o : Nat} {x : Int × Int} (h : w.rangeAt b o (eC x)) : w.cell? ⟨b, o, none⟩ = some (.int .i64 x.1) ∧ w.cell? ⟨b, o + 1, none⟩ = some (.int .i64 x.2) :=
  ⟨h 0 _ rfl, h 1 _ rfl⟩
def GotE (R : List (Int × Int)) (w : World) (e : Ending) (w' : World) : Prop := ∃ A n cap, e = .returned (.slice A n cap) ∧ Rd eC 2 w' w'.heap.size A n cap R ∧ Below w.heap.size w w'
set_option maxHeartbeats 1000000 in
theorem edges_any (s : Int) (w : World) : Calls Try.prog 11 #[.int .i64 s] w (GotE (rowE s) w) := by
  by_cases hs : 0 ≤ s ∧ s ≤ 7
  · rcases eight_of s hs.1 hs.2 with rfl | rfl | rfl | rfl | rfl | rfl | rfl | rfl
    · clear hs
      have HR : Hid (rowE 0 = [(1, 1), (11, 7)]) := Lib.hid rfl
      go_enter Try.func11, Try.ntmps11
      go_wp2
      go_ret
      exact ⟨_, _, _, rfl, by rw [HR.out]; refine Rd.more (lit_row (enc := eC) (z := 2) (fun _ => rfl) w 32 [(1, 1), (11, 7)] #[.int .i64 1, .int .i64 1, .int .i64 11, .int .i64 7] 2 rfl (by omega) rfl) ?_; simp, (Below.refl _ _).alloc (Nat.le_refl _) _⟩
    · clear hs
      have HR : Hid (rowE 1 = [(2, 0), (3, 2), (5, 4), (6, 5), (7, 6), (8, 3), (11, 7)]) := Lib.hid rfl
      go_enter Try.func11, Try.ntmps11
      go_wp2
      go_ret
      exact ⟨_, _, _, rfl, by rw [HR.out]; refine Rd.more (lit_row (enc := eC) (z := 2) (fun _ => rfl) w 32 [(2, 0), (3, 2), (5, 4), (6, 5), (7, 6), (8, 3), (11, 7)] #[.int .i64 2, .int .i64 0, .int .i64 3, .int .i64 2, .int .i64 5, .int .i64 4, .int .i64 6, .int .i64 5, .int .i64 7, .int .i64 6, .int .i64 8, .int .i64 3, .int .i64 11, .int .i64 7] 7 rfl (by omega) rfl) ?_; simp, (Below.refl _ _).alloc (Nat.le_refl _) _⟩
    · clear hs
      have HR : Hid (rowE 2 = [(4, 1), (8, 3), (2, 0), (11, 7)]) := Lib.hid rfl
      go_enter Try.func11, Try.ntmps11
      go_wp2
      go_ret
      exact ⟨_, _, _, rfl, by rw [HR.out]; refine Rd.more (lit_row (enc := eC) (z := 2) (fun _ => rfl) w 32 [(4, 1), (8, 3), (2, 0), (11, 7)] #[.int .i64 4, .int .i64 1, .int .i64 8, .int .i64 3, .int .i64 2, .int .i64 0, .int .i64 11, .int .i64 7] 4 rfl (by omega) rfl) ?_; simp, (Below.refl _ _).alloc (Nat.le_refl _) _⟩
    · clear hs
      have HR : Hid (rowE 3 = [(9, 1), (2, 0), (11, 7)]) := Lib.hid rfl
      go_enter Try.func11, Try.ntmps11
      go_wp2
      go_ret
      exact ⟨_, _, _, rfl, by rw [HR.out]; refine Rd.more (lit_row (enc := eC) (z := 2) (fun _ => rfl) w 32 [(9, 1), (2, 0), (11, 7)] #[.int .i64 9, .int .i64 1, .int .i64 2, .int .i64 0, .int .i64 11, .int .i64 7] 3 rfl (by omega) rfl) ?_; simp, (Below.refl _ _).alloc (Nat.le_refl _) _⟩
    · clear hs
      have HR : Hid (rowE 4 = [(10, 1), (5, 4), (6, 5), (7, 6), (8, 3), (2, 0), (11, 7)]) := Lib.hid rfl
      go_enter Try.func11, Try.ntmps11
      go_wp2
      go_ret
      exact ⟨_, _, _, rfl, by rw [HR.out]; refine Rd.more (lit_row (enc := eC) (z := 2) (fun _ => rfl) w 32 [(10, 1), (5, 4), (6, 5), (7, 6), (8, 3), (2, 0), (11, 7)] #[.int .i64 10, .int .i64 1, .int .i64 5, .int .i64 4, .int .i64 6, .int .i64 5, .int .i64 7, .int .i64 6, .int .i64 8, .int .i64 3, .int .i64 2, .int .i64 0, .int .i64 11, .int .i64 7] 7 rfl (by omega) rfl) ?_; simp, (Below.refl _ _).alloc (Nat.le_refl _) _⟩
    · clear hs
      have HR : Hid (rowE 5 = [(10, 1), (5, 4), (6, 5), (7, 6), (8, 3), (2, 0), (11, 7)]) := Lib.hid rfl
      go_enter Try.func11, Try.ntmps11
      go_wp2
      go_ret
      exact ⟨_, _, _, rfl, by rw [HR.out]; refine Rd.more (lit_row (enc := eC) (z := 2) (fun _ => rfl) w 32 [(10, 1), (5, 4), (6, 5), (7, 6), (8, 3), (2, 0), (11, 7)] #[.int .i64 10, .int .i64 1, .int .i64 5, .int .i64 4, .int .i64 6, .int .i64 5, .int .i64 7, .int .i64 6, .int .i64 8, .int .i64 3, .int .i64 2, .int .i64 0, .int .i64 11, .int .i64 7] 7 rfl (by omega) rfl) ?_; simp, (Below.refl _ _).alloc (Nat.le_refl _) _⟩
    · clear hs
      have HR : Hid (rowE 6 = [(10, 1), (5, 4), (6, 5), (7, 6), (8, 3), (2, 0), (11, 7)]) := Lib.hid rfl
      go_enter Try.func11, Try.ntmps11
      go_wp2
      go_ret
      exact ⟨_, _, _, rfl, by rw [HR.out]; refine Rd.more (lit_row (enc := eC) (z := 2) (fun _ => rfl) w 32 [(10, 1), (5, 4), (6, 5), (7, 6), (8, 3), (2, 0), (11, 7)] #[.int .i64 10, .int .i64 1, .int .i64 5, .int .i64 4, .int .i64 6, .int .i64 5, .int .i64 7, .int .i64 6, .int .i64 8, .int .i64 3, .int .i64 2, .int .i64 0, .int .i64 11, .int .i64 7] 7 rfl (by omega) rfl) ?_; simp, (Below.refl _ _).alloc (Nat.le_refl _) _⟩
    · clear hs
      have HR : Hid (rowE 7 = [(12, 1), (2, 0), (11, 7)]) := Lib.hid rfl
      go_enter Try.func11, Try.ntmps11
      go_wp2
      go_ret
      exact ⟨_, _, _, rfl, by rw [HR.out]; refine Rd.more (lit_row (enc := eC) (z := 2) (fun _ => rfl) w 32 [(12, 1), (2, 0), (11, 7)] #[.int .i64 12, .int .i64 1, .int .i64 2, .int .i64 0, .int .i64 11, .int .i64 7] 3 rfl (by omega) rfl) ?_; simp, (Below.refl _ _).alloc (Nat.le_refl _) _⟩
  · have HR : Hid (rowE s = []) := Lib.hid (rowE_out hs)
    have q0 : (s == 0) = false := by rw [beq_eq_false_iff_ne]; omega
    have q1 : (s == 1) = false := by rw [beq_eq_false_iff_ne]; omega
    have q2 : (s == 2) = false := by rw [beq_eq_false_iff_ne]; omega
    have q3 : (s == 3) = false := by rw [beq_eq_false_iff_ne]; omega
    have q4 : (s == 4) = false := by rw [beq_eq_false_iff_ne]; omega
    have q5 : (s == 5) = false := by rw [beq_eq_false_iff_ne]; omega
    have q6 : (s == 6) = false := by rw [beq_eq_false_iff_ne]; omega
    have q7 : (s == 7) = false := by rw [beq_eq_false_iff_ne]; omega
    clear hs
    go_enter Try.func11, Try.ntmps11
    go_wp2
    go_ret
    exact ⟨_, _, _, rfl, by rw [HR.out]; exact Rd.none_ _ _ _ _, Below.refl _ _⟩
theorem ret_nx {a a' : Int} {b b' : Bool} (h : a = a') (h2 : b = b') : Ending.returned (.tuple #[.int .i64 a, .bool b]) = .returned (.tuple #[.int .i64 a', .bool b']) := by rw [h, h2]
set_option maxHeartbeats 1000000 in
theorem next_any (s ev : Int) (w : World) : Calls Try.prog 7 #[.int .i64 s, .int .i64 ev] w fun e w' => e = .returned (.tuple #[.int .i64 (nxS s ev), .bool (nxB s ev)]) ∧ Below w.heap.size w w' := by
  have HH := Lib.hid fun t h => hit (s := s) (ev := ev) (t := t) h
  have HM := Lib.hid fun h => miss (s := s) (ev := ev) h
  have HL := Lib.hid (rowE_len s)
  have HE := Lib.hid (edges_any s w)
  generalize nxS s ev = S at *
  generalize nxB s ev = B at *
  generalize rowE s = R at *
  go_enter Try.func7, Try.ntmps7
  go_wp2_with (go_at_call 11; fail)
  refine HE.out.mono ?_
  rintro e w1 ⟨A, n, cap, rfl, hr, hb⟩
  have hlen : (n : Int) ≤ 7 := by have h1 := hr.1; have h2 := HL.out; omega
  have HR := Lib.hid hr
  have HB := Lib.hid hb
  clear hr hb HE
  go_wp2
  go_loopw [11] (fun i wr => ∃ j : Nat, j ≤ n ∧ i = .int .i64 j ∧ (∀ k, k < j → ∀ x, R[k]? = some x → x.1 ≠ ev) ∧ Below w1.heap.size w1 wr) (fun i _ => n - (intOf i).toNat)
  case atStart => exact ⟨0, Nat.zero_le _, rfl, fun k hk => absurd hk (by omega), Below.refl _ _⟩
  case round =>
    obtain ⟨j, hj, rfl, hno, hb⟩ := hrel
    have HN := Lib.hid hno
    by_cases hlt : j < n
    · obtain ⟨b, o, x, rfl, hb', hx, hr⟩ := (HR.out.below hb).at hlt
      obtain ⟨c0, c1⟩ := cells_edge hr
      have hj0 : (0 : Int) ≤ (j : Int) := by omega
      have hj1 : (j : Int) < (n : Int) := by omega
      have HX := Lib.hid hx
      have HBB := Lib.hid (HB.out.trans (hb.mono HB.out.size))
      have HZ := Lib.hid hb
      clear hr hx hb hno
      by_cases he : x.1 = ev
      · have HV := Lib.hid (HH.out x.2 (by have := List.mem_of_getElem? HX.out; rwa [← he]))
        have hq : (x.1 == ev) = true := by rw [he]; exact beq_self_eq_true ev
        obtain ⟨x1, x2⟩ := x
        dsimp only at *
        subst he
        go_wp2
        go_ret2
        refine ⟨ret_nx HV.out.1.symm HV.out.2.symm, ?_⟩
        exact HBB.out.alloc HBB.out.size _
      · have HE := Lib.hid he
        have hq : (x.1 == ev) = false := by rw [beq_eq_false_iff_ne]; exact he
        clear he
        go_wp2
        go_roundw
        case rel =>
          refine ⟨j + 1, by omega, by go_num, fun k hk y hy => ?_, HZ.out.alloc HZ.out.size _⟩
          rcases Nat.lt_or_ge k j with h | h
          · exact HN.out k h y hy
          · have e : k = j := by omega
            subst e
            have e2 : x = y := by have := HX.out; rw [hy] at this; injection this with h; exact h.symm
            rw [← e2]
            exact HE.out
        case measure => simp [intOf]; omega
    · have hjl : j = n := by omega
      have HV := Lib.hid (HM.out fun x hx => by
        obtain ⟨k, hk⟩ := List.mem_iff_getElem?.1 hx
        have hkl : k < R.length := (List.getElem?_eq_some_iff.1 hk).1
        exact hno k (by rw [hjl, ← HR.out.1]; exact hkl) x hk)
      have HBB := Lib.hid (HB.out.trans (hb.mono HB.out.size))
      have hj1 : ¬ ((j : Int) < (n : Int)) := by omega
      clear hb hno hjl
      go_wp2
      go_ret2
      exact ⟨ret_nx HV.out.1.symm HV.out.2.symm, HBB.out⟩
theorem moves_any (s : Int) (w : World) : Calls Try.prog 9 #[.int .i64 s] w fun e w' => e = .returned (.bool (mvB s)) ∧ Below w.heap.size w w' := by
  by_cases hs : s = 2 ∨ s = 4 ∨ s = 5 ∨ s = 6
  · have HV : Hid (mvB s = true) := Lib.hid (decide_eq_true hs)
    rcases hs with rfl | rfl | rfl | rfl
    all_goals
      go_enter Try.func9, Try.ntmps9
      go_wp2
      go_ret
      exact ⟨ret_bool HV.out.symm, Below.refl _ _⟩
  · have HV : Hid (mvB s = false) := Lib.hid (decide_eq_false hs)
    have q2 : (s == 2) = false := by rw [beq_eq_false_iff_ne]; omega
    have q4 : (s == 4) = false := by rw [beq_eq_false_iff_ne]; omega
    have q5 : (s == 5) = false := by rw [beq_eq_false_iff_ne]; omega
    have q6 : (s == 6) = false := by rw [beq_eq_false_iff_ne]; omega
    clear hs
    go_enter Try.func9, Try.ntmps9
    go_wp2
    go_ret
    exact ⟨ret_bool HV.out.symm, Below.refl _ _⟩
theorem takes_any (s : Int) (w : World) : Calls Try.prog 10 #[.int .i64 s] w fun e w' => e = .returned (.bool (tkB s)) ∧ Below w.heap.size w w' := by
  by_cases hs : s = 1 ∨ s = 4 ∨ s = 5 ∨ s = 6
  · have HV : Hid (tkB s = true) := Lib.hid (decide_eq_true hs)
    rcases hs with rfl | rfl | rfl | rfl
    all_goals
      go_enter Try.func10, Try.ntmps10
      go_wp2
      go_ret
      exact ⟨ret_bool HV.out.symm, Below.refl _ _⟩
  · have HV : Hid (tkB s = false) := Lib.hid (decide_eq_false hs)
    have q1 : (s == 1) = false := by rw [beq_eq_false_iff_ne]; omega
    have q4 : (s == 4) = false := by rw [beq_eq_false_iff_ne]; omega
    have q5 : (s == 5) = false := by rw [beq_eq_false_iff_ne]; omega
    have q6 : (s == 6) = false := by rw [beq_eq_false_iff_ne]; omega
    clear hs
    go_enter Try.func10, Try.ntmps10
    go_wp2
    go_ret
    exact ⟨ret_bool HV.out.symm, Below.refl _ _⟩
end Go.Proofs.Ytcljilfbmodaiaa.ed
