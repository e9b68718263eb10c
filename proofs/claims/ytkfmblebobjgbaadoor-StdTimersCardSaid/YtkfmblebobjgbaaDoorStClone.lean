/- What slices.Clone answers of a row of whole numbers, and what the landed std's small functions answer; what was in memory is as it was. Condition: the row has from 1 to 100 numbers. -/
import Derived.Test.YtkfmblebobjgbaaDoorStWords
namespace Go.Proofs.YtkfmblebobjgbaaDoor.sd
open Go.ChangeShapes Go.WideShapes Go.ChangeAt Go.RowKit Go.Proofs.YtkfmblebobjgbaaDoor.k Go.Proofs.YtkfmblebobjgbaaDoor.rr
set_option linter.unusedVariables false

theorem i1_len (x : Int) : (i1 x).length = 1 := rfl
theorem i1_one (x : Int) : ∀ u ∈ i1 x, u.oneCell' = true := by
  intro u hu
  simp only [i1, List.mem_cons, List.not_mem_nil, or_false] at hu
  subst hu
  rfl
theorem int_info : (Tryd.prog.info? 2).map (fun i => (i.zero, i.size, i.bytes)) = some (some (.int .i64 0), 1, 8) := by kernel_rfl
theorem ints_slice : Tryd.prog.underlying 24 = some (.slice 2) := by kernel_rfl
set_option maxHeartbeats 1000000 in
theorem clone_row (L : List Int) {A : Option Addr} {n c B : Nat} {w : World} (h : RdI w B A n c L) (hB : B ≤ w.heap.size) (hp : 0 < n) (hm : n ≤ 100) :
    Calls Tryd.prog 9 #[.slice A n c] w (GotB n L w) := by
  have q22 : ∀ (w : World) (a : Option Addr) (n c n' c' : Nat), (binOp .eql 24 (.slice a n c) (.slice none n' c')).run Tryd.prog w = .ok (.bool a.isNone) w := fun w a n c n' c' => Lib.run_eql_slice_nil w _ _ a n c n' c' Tryd.underlying24
  obtain ⟨b, off, rfl, _⟩ := h.2.2.2.2 hp
  have HR : Hid (RdI (w.alloc (.cells #[] 2)) B (some ⟨b, off, none⟩) n c L) := Lib.hid (h.below ((Below.refl _ _).alloc hB _))
  have HO := Lib.hid (Ow.empty i1 1 2 w)
  have HL := Lib.hid h.1
  have HM := Lib.hid hm
  have HP := Lib.hid hp
  have HZ : Hid (w.heap.size ≤ (w.alloc (.cells #[] 2)).heap.size) := Lib.hid (by simp)
  have HB := Lib.hid ((Below.refl w.heap.size w).alloc (Nat.le_refl _) (.cells #[] 2))
  clear h hB hp hm
  go_enter Tryd.func9, Tryd.ntmps9
  go_wp2_with (at_builtin; refine wpList_append_row i1_len (by omega) i1_one ints_slice int_info rfl (by omega) _ rfl (.tmp 5) (.tmp 6) rfl w.heap.size _ [] rfl HO.out B _ n c L rfl HR.out (by have := HL.out; have := HM.out; simp; omega) HZ.out ?_; intro v1 w1 hown hg hat; have HO1 := Lib.hid (show Ow i1 1 2 w1 w.heap.size v1 L from hown); have HG := Lib.hid (HO.out.lays HB.out (Nat.le_refl _) (Nat.le_refl _) hg); clear hown hg hat)
  go_wp2
  go_ret
  have := got_ow HO1.out (by intro e; have h1 := HL.out; have h2 := HP.out; rw [e] at h1; simp at h1; omega) HG.out
  rwa [HL.out] at this
theorem truth_any (x : Int) (w : World) : Calls Tryd.prog 23 #[.int .i64 x] w fun e w' => e = .returned (.bool (x != 0)) ∧ w = w' := by
  go_enter Tryd.func23, Tryd.ntmps23
  go_wp2
  go_ret
  exact ⟨rfl, rfl⟩
theorem laid_any (b : Bool) (w : World) : Calls Tryd.prog 25 #[.bool b] w fun e w' => e = .returned (.int .i64 (if b = true then 1 else 0)) ∧ w = w' := by
  cases b
  all_goals
    go_enter Tryd.func25, Tryd.ntmps25
    go_wp2
    go_ret
    exact ⟨rfl, rfl⟩
theorem up_any (x m : Int) (h1 : InR x) (h2 : InR m) (w : World) : Calls Tryd.prog 24 #[.int .i64 x, .int .i64 m] w fun e w' => e = .returned (.int .i64 (up x m)) ∧ w = w' := by
  obtain ⟨a1, a2⟩ := h1
  obtain ⟨b1, b2⟩ := h2
  unfold up
  by_cases h : x < m
  · rw [if_pos h]
    have hw : IntKind.i64.wrap (x + 1) = x + 1 := IntWalk.i64_in _ (by omega)
    go_enter Tryd.func24, Tryd.ntmps24
    go_wp2
    go_ret
    exact ⟨rfl, rfl⟩
  · rw [if_neg h]
    go_enter Tryd.func24, Tryd.ntmps24
    go_wp2
    go_ret
    exact ⟨rfl, rfl⟩
end Go.Proofs.YtkfmblebobjgbaaDoor.sd
