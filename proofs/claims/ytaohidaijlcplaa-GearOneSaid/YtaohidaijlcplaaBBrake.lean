/- What layer brake's Reach and Pass answer (greatest speeds, sought by closures); what was in memory is as it was. No condition beyond the kind's own bounds. -/
import Derived.Test.YtaohidaijlcplaaBNear
import Derived.Test.YtaohidaijlcplaaBLaid
namespace Go.Proofs.Ytaohidaijlcplaa.b
open Go.Shelf Go.ChangeShapes Go.WideShapes Go.ChangeAt Go.RowKit Go.Lib Go.Sort Go.Proofs.Ytaohidaijlcplaa.k
set_option linter.unusedVariables false
/-- a closure that holds for the speeds up to v, and for none beyond -/
def Upto (g : Nat) (cb : Array Value) (v : Int) (w : World) : Prop :=
  ∀ (m : Nat) (os : Array Obj) (x : Int), 0 ≤ x → x ≤ 1048576 → Calls Try.prog g (#[.int .i64 x] ++ cb) (grow (w.drewN m) os) fun e w' => e = .returned (.bool (decide (x ≤ v))) ∧ ∃ q os', w' = grow ((grow (w.drewN m) os).drewN q) os'
theorem Upto.alloc {g : Nat} {cb : Array Value} {v : Int} {w : World} (h : Upto g cb v w) (o : Obj) : Upto g cb v (w.alloc o) := by
  intro m os x x0 x1
  have e : grow ((w.alloc o).drewN m) os = grow (w.drewN m) (#[o] ++ os) := by
    rw [alloc_eq_grow]
    show grow (grow (w.drewN m) #[o]) os = _
    rw [grow_grow]
  rw [e]
  exact h m (#[o] ++ os) x x0 x1
set_option maxHeartbeats 1000000 in
theorem not_any (g : Nat) (cb : Array Value) (v : Int) (w : World) (eg : ∀ args w, (callFunc g args).run Try.prog w = .ok (.enter g args) w) (hf : Upto g cb v w) (m : Nat) (os : Array Obj) (i : Int) (i0 : 0 ≤ i) (i1 : i < 1048576) (p : Addr)
    (cp : (grow (w.drewN m) os).cell? p = some (.func (.func g) #[] cb)) :
    Calls Try.prog 60 (#[.int .i64 i] ++ #[.pointer (some p)]) (grow (w.drewN m) os) fun e w' => e = .returned (.bool (decide (v ≤ i))) ∧ ∃ q os', w' = grow ((grow (w.drewN m) os).drewN q) os' := by
  have hc := hf m os (i + 1) (by omega) (by omega)
  have hb : decide (i + 1 ≤ v) = !(decide (v ≤ i)) := by
    by_cases h : v ≤ i
    · rw [decide_eq_true h, decide_eq_false (by omega)]; rfl
    · rw [decide_eq_false h, decide_eq_true (by omega)]; rfl
  rw [hb] at hc
  have HC := Lib.hid hc
  clear hc hb hf
  generalize decide (v ≤ i) = b at *
  generalize grow (w.drewN m) os = W at *
  go_enter Try.func60, Try.ntmps60
  go_wp2_with (go_at_fn g; ((with_reducible refine HC.out.mono ?_); rintro e w1 ⟨rfl, q, os1, rfl⟩))
  go_ret
  exact ⟨by cases b <;> rfl, q, os1, rfl⟩
theorem greatest_any (g : Nat) (cb : Array Value) (v : Int) (v0 : 0 ≤ v) (v1 : v ≤ 1048576) (w : World) (eg : ∀ args w, (callFunc g args).run Try.prog w = .ok (.enter g args) w) (hf : Upto g cb v w) :
    Calls Try.prog 54 #[.func (.func g) #[] cb] w fun e w' => e = .returned (.int .i64 v) ∧ Below w.heap.size w w' := by
  obtain ⟨W0, hW0⟩ : ∃ W0, W0 = w.alloc (.cells #[.func (.func g) #[] cb] 78) := ⟨_, rfl⟩
  have hs : W0.heap.size = w.heap.size + 1 := by rw [hW0]; simp
  have cp : W0.cell? ⟨w.heap.size, 0, none⟩ = some (.func (.func g) #[] cb) := by rw [hW0]; exact cell_new_sl w _ _
  have hf0 : Upto g cb v W0 := by rw [hW0]; exact hf.alloc _
  have HS := Lib.hid (search_any 60 #[.pointer (some ⟨w.heap.size, 0, none⟩)] v v0 v1 W0 (enters_of Try.func60 (by kernel_rfl) rfl)
    (fun m os i i0 i1 => not_any g cb v W0 eg hf0 m os i i0 i1 _ (cell_grown (by rw [hs]; exact Nat.lt_succ_self _) cp m os)))
  have hB : Below w.heap.size w W0 := by rw [hW0]; exact (Below.refl _ w).alloc (Nat.le_refl _) _
  clear hf hf0 cp
  go_enter Try.func54, Try.ntmps54
  go_wp2_with (go_at_call 59; rw [← hW0]; ((with_reducible refine HS.out.mono ?_); rintro e w1 ⟨rfl, q, os, rfl⟩))
  go_ret
  rw [← hW0]
  exact ⟨rfl, hB.trans (below_grown_sl w.heap.size W0 q os (by omega))⟩
/-! ### Reach -/
theorem way_quiet (v dec X : Int) (h : slow (vel v) 0 (los dec) = X) (W : World) (q : Nat) : Calls Try.prog 46 #[.int .i64 v, .int .i64 dec] (W.drewN q) fun e w'' => e = .returned (.int .i64 X) ∧ ∃ m, w'' = W.drewN m :=
  (way_same v dec (W.drewN q)).mono fun _ _ hh => ⟨by rw [hh.1, h], q, hh.2.symm⟩
theorem slow_quiet (v u dec X : Int) (h : slow (vel v) (vel u) (los dec) = X) (W : World) (q : Nat) : Calls Try.prog 51 #[.int .i64 v, .int .i64 u, .int .i64 dec] (W.drewN q) fun e w'' => e = .returned (.int .i64 X) ∧ ∃ m, w'' = W.drewN m :=
  (slow_same v u dec (W.drewN q)).mono fun _ _ hh => ⟨by rw [hh.1, h], q, hh.2.symm⟩
theorem reach_fits {S D x : Int} (hD : 1 ≤ D) (hS : 0 ≤ S) (x0 : 0 ≤ x) (x1 : x ≤ 1048576) : decide (x ≤ reachV S D) = decide (x + slow x 0 D ≤ S) := by
  have h := reachV_is hS hD
  by_cases hx : x ≤ reachV S D
  · have := slow_mono (u := 0) (by omega) hD hx
    have := h.2.2.1
    rw [decide_eq_true hx, decide_eq_true (by omega)]
  · rw [decide_eq_false hx, decide_eq_false (fun hw => hx (reach_top hD h x1 hw))]
theorem pass_fits {S U D x : Int} (hU : 0 ≤ U) (hU1 : U ≤ 1048576) (hD : 1 ≤ D) (x0 : 0 ≤ x) (x1 : x ≤ 1048576) : decide (x ≤ passV S U D) = (decide (x ≤ U) || decide (x + slow x U D ≤ S)) := by
  have h := passV_is (s := S) hU hU1 hD
  by_cases hx : x ≤ U
  · rw [decide_eq_true hx, decide_eq_true (Int.le_trans hx h.1)]; rfl
  · rw [decide_eq_false hx, Bool.false_or]
    by_cases hp : x ≤ passV S U D
    · have := slow_mono hU hD hp
      have h2 := h.2.2.1
      rw [decide_eq_true hp, decide_eq_true (by omega)]
    · rw [decide_eq_false hp, decide_eq_false (fun hw => hp (pass_top hU hD h x1 (by omega) (.inr hw)))]
theorem fits_any (S dec x : Int) (x0 : 0 ≤ x) (x1 : x ≤ 1048576) (hS : 0 ≤ S ∧ S ≤ 2199023255552) (pd ps : Addr) (w : World) (cd : w.cell? pd = some (.int .i64 dec)) (cs : w.cell? ps = some (.int .i64 S)) :
    Calls Try.prog 55 #[.int .i64 x, .pointer (some pd), .pointer (some ps)] w fun e w' => e = .returned (.bool (decide (x ≤ reachV S (los dec)))) ∧ ∃ m, w' = w.drewN m := by
  have hl := los_in dec
  rw [reach_fits hl.1 hS.1 x0 x1]
  have hp := slow_pos (v := vel x) (u := 0) (by omega) hl.1
  have hb := slow_le (u := 0) (by omega) hl.1 (vel_in x).1 (vel_in x).2
  have hX : slow (vel x) 0 (los dec) = slow x 0 (los dec) := by rw [vel_of x0 x1]
  rw [hX] at hp hb
  have HX := Lib.hid hX
  clear hX
  generalize slow x 0 (los dec) = X at *
  go_enter Try.func55, Try.ntmps55
  go_wp2
  go_quiet ((go_at_call 46; with_reducible exact way_quiet _ _ _ HX.out _ _))
  go_wp2
  go_ret
  exact ⟨rfl, _, rfl⟩
theorem upto_reach (S dec : Int) (hS : 0 ≤ S ∧ S ≤ 2199023255552) (pd ps : Addr) (w : World) (cd : w.cell? pd = some (.int .i64 dec)) (cs : w.cell? ps = some (.int .i64 S)) :
    Upto 55 #[.pointer (some pd), .pointer (some ps)] (reachV S (los dec)) w := fun m os x x0 x1 =>
  (fits_any S dec x x0 x1 hS pd ps (grow (w.drewN m) os) (cell_grown (World.block_lt_of_cell? _ _ cd) cd m os) (cell_grown (World.block_lt_of_cell? _ _ cs) cs m os)).mono fun _ _ ⟨h1, q, h2⟩ => ⟨h1, q, #[], by rw [h2, grow_empty]⟩
theorem reach_any (s dec : Int) (w : World) : Calls Try.prog 50 #[.int .i64 s, .int .i64 dec] w fun e w' => e = .returned (.int .i64 (reachV (dist s) (los dec))) ∧ Below w.heap.size w w' := by
  have H1 := Lib.hid fun W => asway_any s W
  have hd := dist_in s
  have hr := reachV_is hd.1 (los_in dec).1
  have HG := Lib.hid fun pd ps W cd cs => greatest_any 55 #[.pointer (some pd), .pointer (some ps)] (reachV (dist s) (los dec)) hr.1 hr.2.1 W (enters_of Try.func55 (by kernel_rfl) rfl) (upto_reach (dist s) dec hd pd ps W cd cs)
  clear hr
  generalize reachV (dist s) (los dec) = v at *
  generalize dist s = S at *
  go_enter Try.func50, Try.ntmps50
  go_wp2_with (first
    | (go_at_call 53; ((with_reducible refine (H1.out _).mono ?_); rintro e w1 ⟨rfl, rfl⟩))
    | (go_at_call 54; ((with_reducible refine (HG.out _ _ _ (by simp [go_sem]) (by simp [go_sem])).mono ?_); rintro e w1 ⟨rfl, hb⟩)))
  go_ret
  exact ⟨rfl, Below.trans (((Below.refl _ _).alloc (Nat.le_refl _) _).alloc (by simp) _) (hb.mono (by simp; omega))⟩
/-! ### Pass -/
/-! ### As the laws' walks ask it -/
theorem slow_any (v u dec : Int) (w : World) : Calls Try.prog 51 #[.int .i64 v, .int .i64 u, .int .i64 dec] w fun e w' => e = .returned (.int .i64 (slow (vel v) (vel u) (los dec))) ∧ Below w.heap.size w w' := (slow_same v u dec w).mono fun _ _ h => ⟨h.1, h.2 ▸ Below.refl _ _⟩
theorem way_any (v dec : Int) (w : World) : Calls Try.prog 46 #[.int .i64 v, .int .i64 dec] w fun e w' => e = .returned (.int .i64 (slow (vel v) 0 (los dec))) ∧ Below w.heap.size w w' := (way_same v dec w).mono fun _ _ h => ⟨h.1, h.2 ▸ Below.refl _ _⟩
end Go.Proofs.Ytaohidaijlcplaa.b
