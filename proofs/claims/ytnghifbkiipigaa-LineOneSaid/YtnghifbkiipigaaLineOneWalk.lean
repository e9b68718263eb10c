/- The walk of the law LineOne: whatever is done to a line, step by step: it returns true, and what was in memory is as it was. -/
import Derived.Test.YtnghifbkiipigaaLnAwake
import Derived.Test.YtnghifbkiipigaaLnOne
import Derived.Test.YtnghifbkiipigaaKOrd
import Derived.Test.YtnghifbkiipigaaKRecs
namespace Go.Proofs.Ytnghifbkiipigaa.lineOne
open Go.ChangeShapes Go.WideShapes Go.ChangeAt Go.RowKit Go.Proofs.Ytnghifbkiipigaa.k Go.Proofs.Ytnghifbkiipigaa.rr Go.Proofs.Ytnghifbkiipigaa.ln Go.Proofs.Ytnghifbkiipigaa
set_option linter.unusedVariables false

theorem two {w : World} {b o : Nat} {xs : List Int} (h : xs.length = 2) (hc : ∀ (j : Nat) (v : Int), xs[j]? = some v → w.cell? ⟨b, o + j, none⟩ = some (.int .i64 v)) : ∃ k m : Int, w.cell? ⟨b, o, none⟩ = some (.int .i64 k) ∧ w.cell? ⟨b, o + 1, none⟩ = some (.int .i64 m) := by
  match xs, h with
  | [k, m], _ => exact ⟨k, m, hc 0 k rfl, hc 1 m rfl⟩
theorem row_at {w : World} {B : Nat} {D : Option Addr} {k d a : Nat} {I : List Int} (h : RdI w B D k d I) (hI : I = seqI a I.length) {j : Nat} (hj : j < k) : ∃ b off, D = some ⟨b, off, none⟩ ∧ w.cell? ⟨b, off + j, none⟩ = some (.int .i64 (((a + j : Nat) : Int) + 1)) := by
  obtain ⟨b, off, x, rfl, _, hx, hc⟩ := h.at hj
  have hl : I.length = k := h.1
  rw [hI, hl, seq_at hj] at hx
  injection hx with hx
  have h0 := hc 0 (.int .i64 x) rfl
  rw [Nat.mul_one, Nat.add_zero] at h0
  exact ⟨b, off, rfl, by rw [h0, ← hx]; rfl⟩
set_option maxRecDepth 100000 in
set_option maxHeartbeats 8000000 in
theorem walk (a0 : Option Addr) (len cap : Nat) (w : World) (u0 : IsRecs w 2 a0 len cap) :
    Calls Try.prog 4 #[.slice a0 len cap] w fun e w' => e = .returned (.bool true) ∧ Below w.heap.size w w' := by
  have HK := Lib.hid fun W => awake_any W
  have hlen : (len : Int) ≤ 9223372036854775807 := by
    rcases u0 with ⟨_, h, _⟩ | ⟨x, _, h, h2, _⟩
    · omega
    · unfold maxLen at h2; omega
  have U := Lib.hid u0
  clear u0
  go_enter Try.func4, Try.ntmps4
  go_upto_region 4 with (go_at_call 5; ((with_reducible refine (HK.out _).mono ?_); rintro e w1 ⟨rfl, hb⟩; have B1 := Lib.hid hb; clear hb))
  have hv : VarL (w1.alloc (.cells #[.slice none 0 0, .slice none 0 0] 24)) w1.heap.size none 0 0 none 0 0 := VarL.new _ _ _ _ _ _ _
  have hb : Below w.heap.size w (w1.alloc (.cells #[.slice none 0 0, .slice none 0 0] 24)) := B1.out.alloc B1.out.size _
  generalize (w1.alloc (.cells #[.slice none 0 0, .slice none 0 0] 24)) = w2 at hv hb ⊢
  have g0 : w.heap.size ≤ w1.heap.size := B1.out.size
  clear HK B1
  generalize w1.heap.size = g at hv g0 ⊢
  go_wp2
  go_loopw [4, 5, 6] (fun s4 s5 s6 wr => ∃ (q a t : Nat) (N W : List C) (A : Option Addr) (n c : Nat) (A' : Option Addr) (m c' : Nat), q ≤ len ∧ q ≤ 200 ∧ t ≤ q ∧ s6 = .int .i64 q ∧ s4 = .int .i64 a ∧ s5 = .int .i64 t ∧ InvL N W a t ∧ VarL wr g A n c A' m c' ∧ RdC wr wr.heap.size A n c N ∧ RdC wr wr.heap.size A' m c' W ∧ Below w.heap.size w wr) (fun _ _ s6 _ => len - (intOf s6).toNat)
  case atStart => exact ⟨0, 0, 0, [], [], none, 0, 0, none, 0, 0, Nat.zero_le _, by omega, by omega, rfl, rfl, rfl, inv_start, hv, Rd.none_ _ _ _ _, Rd.none_ _ _ _ _, hb⟩
  case round =>
    clear hv hb
    obtain ⟨q, a, t, N, W, A, n, c, A', m, c', hq, hq2, htq, rfl, rfl, rfl, hI, hv, hr1, hr2, hb⟩ := hrel
    have INV := Lib.hid hI
    have X := Lib.hid hv
    have R1 := Lib.hid hr1
    have R2 := Lib.hid hr2
    have HB := Lib.hid hb
    have hn : N.length = n := hr1.1
    have hm : W.length = m := hr2.1
    have hat : a + (n + m) = t := by have := hI.2.2; rw [List.length_append, hn, hm] at this; exact this
    have hr3 := hI.1.2.1
    have hr4 := hI.1.2.2.1
    rw [hn] at hr3
    rw [hm] at hr4
    clear hI hv hr1 hr2 hb
    by_cases hlt : q < len
    · by_cases hlt2 : q < 200
      · obtain ⟨b, off, rfl, hbw, hcap, hcm, hrow⟩ := U.out.at (by omega) (by omega)
        obtain ⟨xs, hx, _, hcc⟩ := hrow q hlt
        obtain ⟨kd, md, k0, k1⟩ := two hx hcc
        have gb : b < g := by omega
        have gx : g < wr.heap.size := X.out.lt
        have d0 := (HB.out.cell (p := ⟨b, off + q * 2, none⟩) hbw).trans k0
        have d1 := (HB.out.cell (p := ⟨b, off + q * 2 + 1, none⟩) hbw).trans k1
        clear hcc hx k0 k1 hrow
        have i0 : (q : Int) < (len : Int) := by omega
        have i1 : (q : Int) < 200 := by omega
        by_cases hk0 : kd = 0
        · subst hk0
          obtain ⟨aN, haN⟩ : ∃ x, addN N W (cmd t md) = x := ⟨_, rfl⟩
          obtain ⟨aW, haW⟩ : ∃ x, addW N W (cmd t md) = x := ⟨_, rfl⟩
          obtain ⟨aI, haI⟩ : ∃ x, addI N W (cmd t md) = x := ⟨_, rfl⟩
          obtain ⟨aE, haE⟩ : ∃ x, addE N W (cmd t md) = x := ⟨_, rfl⟩
          have HA : Hid (∀ W', RdC W' W'.heap.size A n c N → RdC W' W'.heap.size A' m c' W → Calls Try.prog 8 #[.agg #[.slice A n c, .slice A' m c'], .agg #[.int .i64 ((t : Int) + 1), .int .i64 0, .int .i64 0, .int .i64 0, .int .i64 md, .int .i64 0, .int .i64 0]] W' (GotA aN aW aI aE W')) := Lib.hid fun W' h1 h2 => by have h := add_any N W (cmd t md) h1 h2 (Nat.le_refl _) (by omega) (by omega); rw [haN, haW, haI, haE] at h; exact h
          have HQ := Lib.hid (And.intro haN (And.intro haW (And.intro haI haE)))
          clear haN haW haI haE
          have ⟨c0, c1, _, _⟩ := X.out.cells
          go_upto_region 12 with (fail)
          have hwr : IntKind.i64.wrap ((t : Int) + 1) = (t : Int) + 1 := IntWalk.i64_in _ (by omega)
          go_cut [8, 9, 10] from 16 to 134 (fun s8 s9 s10 wx => ∃ (gn : Nat) (E1 : Option Addr) (e1 f1 : Nat) (E2 : Option Addr) (e2 f2 : Nat) (E3 : Option Addr) (e3 f3 : Nat), s8 = .pointer (some ⟨gn, 0, none⟩) ∧ s9 = .slice E3 e3 f3 ∧ s10 = .int .i64 aE ∧ VarL wx gn E1 e1 f1 E2 e2 f2 ∧ RdC wx wx.heap.size E1 e1 f1 aN ∧ RdC wx wx.heap.size E2 e2 f2 aW ∧ RdI wx wx.heap.size E3 e3 f3 aI ∧ Below wr.heap.size wr wx)
          case first =>
            refine wp_region_T (by kernel_rfl) (fun w' => Below wr.heap.size wr w') [] (Below.refl _ _).drew (fun hHeld => ?_)
            refine wpAnyT_take (i := 0) (v := ?_) rfl (by kernel_rfl) (by kernel_rfl) (by kernel_rfl) (fun _ _ _ h => h) (Or.inl ⟨by rfl, ?_⟩) (by assumption) ?_
            rotate_left 1
            · intro w hSw; have z0 := (hSw.cell (p := ⟨g, 0, none⟩) gx).trans c0; have z1 := (hSw.cell (p := ⟨g, 1, none⟩) gx).trans c1; clear hSw; go_simp <;> (with_reducible rfl)
            try simp only [Act.put, List.setIfInBounds_toArray, List.set_cons_zero, List.set_cons_succ, List.getElem_toArray, List.getElem_cons_zero]
            refine wpAnyT_take (i := 1) (v := ?_) rfl (by kernel_rfl) (by kernel_rfl) (by kernel_rfl) (fun _ _ _ h => h) (Or.inl ⟨by rfl, ?_⟩) (by assumption) ?_
            rotate_left 1
            · intro w hSw; clear hSw; go_simp <;> (with_reducible rfl)
            try simp only [Act.put, List.setIfInBounds_toArray, List.set_cons_zero, List.set_cons_succ, List.getElem_toArray, List.getElem_cons_succ, List.getElem_cons_zero]
            refine wpAnyT_take (i := 2) (v := ?_) rfl (by kernel_rfl) (by kernel_rfl) (by kernel_rfl) (fun _ _ _ h => h) (Or.inl ⟨by rfl, ?_⟩) (by assumption) ?_
            rotate_left 1
            · intro w hSw; clear hSw; go_simp <;> (with_reducible rfl)
            try simp only [Act.put, List.setIfInBounds_toArray, List.set_cons_zero, List.set_cons_succ, List.getElem_toArray, List.getElem_cons_succ, List.getElem_cons_zero]
            refine wpAnyT_take (i := 3) (v := ?_) rfl (by kernel_rfl) (by kernel_rfl) (by kernel_rfl) (fun _ _ _ h => h) (Or.inl ⟨by rfl, ?_⟩) (by assumption) ?_
            rotate_left 1
            · intro w hSw; clear hSw; go_simp <;> (with_reducible rfl)
            try simp only [Act.put, List.setIfInBounds_toArray, List.set_cons_zero, List.set_cons_succ, List.getElem_toArray, List.getElem_cons_succ, List.getElem_cons_zero]
            refine wpAnyT_take (i := 4) (v := ?_) rfl (by kernel_rfl) (by kernel_rfl) (by kernel_rfl) (fun _ _ _ h => h) (Or.inl ⟨by rfl, ?_⟩) (by assumption) ?_
            rotate_left 1
            · intro w hSw; clear hSw; go_simp <;> (with_reducible rfl)
            try simp only [Act.put, List.setIfInBounds_toArray, List.set_cons_zero, List.set_cons_succ, List.getElem_toArray, List.getElem_cons_succ, List.getElem_cons_zero]
            refine wpAnyT_take (i := 5) (v := ?_) rfl (by kernel_rfl) (by kernel_rfl) (by kernel_rfl) (fun _ _ _ h => h) (Or.inl ⟨by rfl, ?_⟩) (by assumption) ?_
            rotate_left 1
            · intro w hSw; clear hSw; go_simp <;> (with_reducible rfl)
            try simp only [Act.put, List.setIfInBounds_toArray, List.set_cons_zero, List.set_cons_succ, List.getElem_toArray, List.getElem_cons_succ, List.getElem_cons_zero]
            refine wpAnyT_take (i := 6) (v := ?_) rfl (by kernel_rfl) (by kernel_rfl) (by kernel_rfl) (fun _ _ _ h => h) (Or.inl ⟨by rfl, ?_⟩) (by assumption) ?_
            rotate_left 1
            · intro w hSw; clear hSw; go_simp <;> (with_reducible rfl)
            try simp only [Act.put, List.setIfInBounds_toArray, List.set_cons_zero, List.set_cons_succ, List.getElem_toArray, List.getElem_cons_succ, List.getElem_cons_zero]
            refine wpAnyT_take (i := 7) (v := ?_) rfl (by kernel_rfl) (by kernel_rfl) (by kernel_rfl) (fun _ _ _ h => h) (Or.inl ⟨by rfl, ?_⟩) (by assumption) ?_
            rotate_left 1
            · intro w hSw; have z0 := (hSw.cell (p := ⟨b, off + q * 2 + 1, none⟩) (show b < wr.heap.size by omega)).trans d1; clear hSw; go_simp <;> (with_reducible rfl)
            try simp only [Act.put, List.setIfInBounds_toArray, List.set_cons_zero, List.set_cons_succ, List.getElem_toArray, List.getElem_cons_succ, List.getElem_cons_zero]
            refine wpAnyT_take (i := 8) (v := ?_) rfl (by kernel_rfl) (by kernel_rfl) (by kernel_rfl) (fun _ _ _ h => h) (Or.inl ⟨by rfl, ?_⟩) (by assumption) ?_
            rotate_left 1
            · intro w hSw; clear hSw; go_simp <;> (with_reducible rfl)
            try simp only [Act.put, List.setIfInBounds_toArray, List.set_cons_zero, List.set_cons_succ, List.getElem_toArray, List.getElem_cons_succ, List.getElem_cons_zero]
            refine wpAnyT_ready (rs := [9, 14]) (by kernel_rfl) (by simp) ?_
            refine AllReadyT.cons rfl (fun K hK => ?_) (AllReadyT.cons rfl (fun K hK => ?_) AllReadyT.nil)
            · skip
              go_simp
              (go_at_call 8; ((with_reducible refine (HA.out _ (rd_under R1.out (Below.refl _ _).drew) (rd_under R2.out (Below.refl _ _).drew)).mono ?_); rintro e v1 ⟨E1, e1, f1, E2, e2, f2, E3, e3, f3, rfl, hr1, hr2, hr3, hb0⟩))
              have hb1 : Below wr.heap.size wr v1 := ((Below.refl _ _).drew).trans hb0
              clear hb0
              go_wp2_with fail
              refine hK.out _ _ hb1 (fun hHeld => ?_)
              clear hK K
              try simp only [Act.put, List.setIfInBounds_toArray, List.set_cons_zero, List.set_cons_succ, List.getElem_toArray, List.getElem_cons_succ, List.getElem_cons_zero]
              refine wpAnyT_take (i := 10) (v := ?_) rfl (by kernel_rfl) (by kernel_rfl) (by kernel_rfl) (fun _ _ _ h => h) (Or.inl ⟨by rfl, ?_⟩) (by assumption) ?_
              rotate_left 1
              · intro w hSw; clear hSw; go_simp <;> (with_reducible rfl)
              try simp only [Act.put, List.setIfInBounds_toArray, List.set_cons_zero, List.set_cons_succ, List.getElem_toArray, List.getElem_cons_succ, List.getElem_cons_zero]
              refine wpAnyT_take (i := 11) (v := ?_) rfl (by kernel_rfl) (by kernel_rfl) (by kernel_rfl) (fun _ _ _ h => h) (Or.inl ⟨by rfl, ?_⟩) (by assumption) ?_
              rotate_left 1
              · intro w hSw; clear hSw; go_simp <;> (with_reducible rfl)
              try simp only [Act.put, List.setIfInBounds_toArray, List.set_cons_zero, List.set_cons_succ, List.getElem_toArray, List.getElem_cons_succ, List.getElem_cons_zero]
              refine wpAnyT_take (i := 12) (v := ?_) rfl (by kernel_rfl) (by kernel_rfl) (by kernel_rfl) (fun _ _ _ h => h) (Or.inl ⟨by rfl, ?_⟩) (by assumption) ?_
              rotate_left 1
              · intro w hSw; clear hSw; go_simp <;> (with_reducible rfl)
              try simp only [Act.put, List.setIfInBounds_toArray, List.set_cons_zero, List.set_cons_succ, List.getElem_toArray, List.getElem_cons_succ, List.getElem_cons_zero]
              refine wpAnyT_take (i := 13) (v := ?_) rfl (by kernel_rfl) (by kernel_rfl) (by kernel_rfl) (fun _ _ _ h => h) (Or.inl ⟨by rfl, ?_⟩) (by assumption) ?_
              rotate_left 1
              · intro w hSw; clear hSw; go_simp <;> (with_reducible rfl)
              try simp only [Act.put, List.setIfInBounds_toArray, List.set_cons_zero, List.set_cons_succ, List.getElem_toArray, List.getElem_cons_succ, List.getElem_cons_zero]
              refine wpAnyT_ready (rs := [14]) (by kernel_rfl) (by simp) ?_
              refine AllReadyT.cons rfl (fun K hK => ?_) AllReadyT.nil
              go_simp
              have ha : Below v1.heap.size v1 (v1.alloc (.cells #[.slice none 0 0, .slice none 0 0] 24)) := (Below.refl _ _).alloc (Nat.le_refl _) _
              have nv : VarL (v1.alloc (.cells #[.slice none 0 0, .slice none 0 0] 24)) v1.heap.size none 0 0 none 0 0 := VarL.new _ _ _ _ _ _ _
              replace hr1 := rd_under hr1 ha
              replace hr2 := rd_under hr2 ha
              replace hr3 := rd_under hr3 ha
              have bB := hb1.trans (ha.mono hb1.size)
              have ng : wr.heap.size ≤ v1.heap.size := hb1.size
              refine hK.out _ _ bB (fun hHeld => ?_)
              clear hK K
              try simp only [Act.put, List.setIfInBounds_toArray, List.set_cons_zero, List.set_cons_succ, List.getElem_toArray, List.getElem_cons_succ, List.getElem_cons_zero]
              generalize v1.alloc (.cells #[.slice none 0 0, .slice none 0 0] 24) = v2 at nv hr1 hr2 hr3 bB ⊢
              generalize v1.heap.size = gn at nv ng ⊢
              clear ha hb1
              refine wpAnyT_ready (rs := [15]) (by kernel_rfl) (by simp) ?_
              refine AllReadyT.cons rfl (fun K hK => ?_) AllReadyT.nil
              have ⟨x0, x1, xf0, xf1⟩ := nv.cells
              go_simp
              have wv := nv.set E1 e1 f1 E2 e2 f2
              have t1 := rdc_set nv hr1 E1 e1 f1 E2 e2 f2
              have t2 := rdc_set nv hr2 E1 e1 f1 E2 e2 f2
              have t3 := rdi_set nv hr3 E1 e1 f1 E2 e2 f2
              have tb := (bB.setCell ng (p := ⟨gn, 0, none⟩) (.slice E1 e1 f1)).setCell ng (p := ⟨gn, 1, none⟩) (.slice E2 e2 f2)
              refine hK.out _ _ tb (fun hHeld => ?_)
              clear hK K
              try simp only [Act.put, List.setIfInBounds_toArray, List.set_cons_zero, List.set_cons_succ, List.getElem_toArray, List.getElem_cons_succ, List.getElem_cons_zero]
              refine wpAnyT_take (i := 16) (v := ?_) rfl (by kernel_rfl) (by kernel_rfl) (by kernel_rfl) (fun _ _ _ h => h) (Or.inl ⟨by rfl, ?_⟩) (by assumption) ?_
              rotate_left 1
              · intro w hSw; clear hSw; go_simp <;> (with_reducible rfl)
              try simp only [Act.put, List.setIfInBounds_toArray, List.set_cons_zero, List.set_cons_succ, List.getElem_toArray, List.getElem_cons_succ, List.getElem_cons_zero]
              refine wpAnyT_take (i := 17) (v := ?_) rfl (by kernel_rfl) (by kernel_rfl) (by kernel_rfl) (fun _ _ _ h => h) (Or.inl ⟨by rfl, ?_⟩) (by assumption) ?_
              rotate_left 1
              · intro w hSw; clear hSw; go_simp <;> (with_reducible rfl)
              try simp only [Act.put, List.setIfInBounds_toArray, List.set_cons_zero, List.set_cons_succ, List.getElem_toArray, List.getElem_cons_succ, List.getElem_cons_zero]
              refine wpAnyT_done (by kernel_rfl) ?_ _
              go_wp2_with fail
              go_meet
              case rel => exact ⟨gn, E1, e1, f1, E2, e2, f2, E3, e3, f3, rfl, rfl, rfl, wv, t1, t2, t3, tb⟩
            · skip
              go_simp
              have ha : Below wr.heap.size wr ((wr.alloc (.cells #[.slice none 0 0, .slice none 0 0] 24)).drew) := ((Below.refl _ _).alloc (Nat.le_refl _) _).drew
              have nv : VarL ((wr.alloc (.cells #[.slice none 0 0, .slice none 0 0] 24)).drew) wr.heap.size none 0 0 none 0 0 := VarL.new wr _ _ _ _ _ _
              have m1 := rd_under R1.out ha
              have m2 := rd_under R2.out ha
              refine hK.out _ _ ha (fun hHeld => ?_)
              clear hK K
              try simp only [Act.put, List.setIfInBounds_toArray, List.set_cons_zero, List.set_cons_succ, List.getElem_toArray, List.getElem_cons_succ, List.getElem_cons_zero]
              generalize (wr.alloc (.cells #[.slice none 0 0, .slice none 0 0] 24)).drew = v1 at ha nv m1 m2 ⊢
              refine wpAnyT_ready (rs := [9]) (by kernel_rfl) (by simp) ?_
              refine AllReadyT.cons rfl (fun K hK => ?_) AllReadyT.nil
              go_simp
              (go_at_call 8; ((with_reducible refine (HA.out _ m1 m2).mono ?_); rintro e v2 ⟨E1, e1, f1, E2, e2, f2, E3, e3, f3, rfl, hr1, hr2, hr3, hb0⟩))
              have bB : Below wr.heap.size wr v2 := ha.trans (hb0.mono ha.size)
              replace nv := nv.under hb0
              have ng : wr.heap.size ≤ wr.heap.size := Nat.le_refl _
              clear hb0 m1 m2 ha
              go_wp2_with fail
              refine hK.out _ _ bB (fun hHeld => ?_)
              clear hK K
              try simp only [Act.put, List.setIfInBounds_toArray, List.set_cons_zero, List.set_cons_succ, List.getElem_toArray, List.getElem_cons_succ, List.getElem_cons_zero]
              refine wpAnyT_take (i := 10) (v := ?_) rfl (by kernel_rfl) (by kernel_rfl) (by kernel_rfl) (fun _ _ _ h => h) (Or.inl ⟨by rfl, ?_⟩) (by assumption) ?_
              rotate_left 1
              · intro w hSw; clear hSw; go_simp <;> (with_reducible rfl)
              try simp only [Act.put, List.setIfInBounds_toArray, List.set_cons_zero, List.set_cons_succ, List.getElem_toArray, List.getElem_cons_succ, List.getElem_cons_zero]
              refine wpAnyT_take (i := 11) (v := ?_) rfl (by kernel_rfl) (by kernel_rfl) (by kernel_rfl) (fun _ _ _ h => h) (Or.inl ⟨by rfl, ?_⟩) (by assumption) ?_
              rotate_left 1
              · intro w hSw; clear hSw; go_simp <;> (with_reducible rfl)
              try simp only [Act.put, List.setIfInBounds_toArray, List.set_cons_zero, List.set_cons_succ, List.getElem_toArray, List.getElem_cons_succ, List.getElem_cons_zero]
              refine wpAnyT_take (i := 12) (v := ?_) rfl (by kernel_rfl) (by kernel_rfl) (by kernel_rfl) (fun _ _ _ h => h) (Or.inl ⟨by rfl, ?_⟩) (by assumption) ?_
              rotate_left 1
              · intro w hSw; clear hSw; go_simp <;> (with_reducible rfl)
              try simp only [Act.put, List.setIfInBounds_toArray, List.set_cons_zero, List.set_cons_succ, List.getElem_toArray, List.getElem_cons_succ, List.getElem_cons_zero]
              refine wpAnyT_take (i := 13) (v := ?_) rfl (by kernel_rfl) (by kernel_rfl) (by kernel_rfl) (fun _ _ _ h => h) (Or.inl ⟨by rfl, ?_⟩) (by assumption) ?_
              rotate_left 1
              · intro w hSw; clear hSw; go_simp <;> (with_reducible rfl)
              try simp only [Act.put, List.setIfInBounds_toArray, List.set_cons_zero, List.set_cons_succ, List.getElem_toArray, List.getElem_cons_succ, List.getElem_cons_zero]
              skip
              refine wpAnyT_ready (rs := [15]) (by kernel_rfl) (by simp) ?_
              refine AllReadyT.cons rfl (fun K hK => ?_) AllReadyT.nil
              have ⟨x0, x1, xf0, xf1⟩ := nv.cells
              go_simp
              have wv := nv.set E1 e1 f1 E2 e2 f2
              have t1 := rdc_set nv hr1 E1 e1 f1 E2 e2 f2
              have t2 := rdc_set nv hr2 E1 e1 f1 E2 e2 f2
              have t3 := rdi_set nv hr3 E1 e1 f1 E2 e2 f2
              have tb := (bB.setCell ng (p := ⟨wr.heap.size, 0, none⟩) (.slice E1 e1 f1)).setCell ng (p := ⟨wr.heap.size, 1, none⟩) (.slice E2 e2 f2)
              refine hK.out _ _ tb (fun hHeld => ?_)
              clear hK K
              try simp only [Act.put, List.setIfInBounds_toArray, List.set_cons_zero, List.set_cons_succ, List.getElem_toArray, List.getElem_cons_succ, List.getElem_cons_zero]
              refine wpAnyT_take (i := 16) (v := ?_) rfl (by kernel_rfl) (by kernel_rfl) (by kernel_rfl) (fun _ _ _ h => h) (Or.inl ⟨by rfl, ?_⟩) (by assumption) ?_
              rotate_left 1
              · intro w hSw; clear hSw; go_simp <;> (with_reducible rfl)
              try simp only [Act.put, List.setIfInBounds_toArray, List.set_cons_zero, List.set_cons_succ, List.getElem_toArray, List.getElem_cons_succ, List.getElem_cons_zero]
              refine wpAnyT_take (i := 17) (v := ?_) rfl (by kernel_rfl) (by kernel_rfl) (by kernel_rfl) (fun _ _ _ h => h) (Or.inl ⟨by rfl, ?_⟩) (by assumption) ?_
              rotate_left 1
              · intro w hSw; clear hSw; go_simp <;> (with_reducible rfl)
              try simp only [Act.put, List.setIfInBounds_toArray, List.set_cons_zero, List.set_cons_succ, List.getElem_toArray, List.getElem_cons_succ, List.getElem_cons_zero]
              refine wpAnyT_done (by kernel_rfl) ?_ _
              go_wp2_with fail
              go_meet
              case rel => exact ⟨wr.heap.size, E1, e1, f1, E2, e2, f2, E3, e3, f3, rfl, rfl, rfl, wv, t1, t2, t3, tb⟩
          case rest =>
            obtain ⟨gn, E1, e1, f1, E2, e2, f2, E3, e3, f3, rfl, rfl, rfl, hv, hr1, hr2, hr3, hb⟩ := hcut
            have V := Lib.hid hv
            have Q1 := Lib.hid hr1
            have Q2 := Lib.hid hr2
            have Q3 := Lib.hid hr3
            have X := Lib.hid (X.out.under hb)
            have R1 := Lib.hid (rd_under R1.out hb)
            have R2 := Lib.hid (rd_under R2.out hb)
            have HB := Lib.hid (HB.out.trans (hb.mono HB.out.size))
            have d1 := (hb.cell (p := ⟨b, off + q * 2 + 1, none⟩) (show b < wr.heap.size by omega)).trans d1
            have gx := Nat.lt_of_lt_of_le gx hb.size
            clear hv hr1 hr2 hr3 hb HA c0 c1 d0 hwr
            have ⟨c0, c1, cf0, cf1⟩ := X.out.cells
            have ⟨x0, x1, _, _⟩ := V.out.cells
            by_cases hk : OkC (cmd t md)
            · have hok : AddOk N W (cmd t md) := ⟨INV.out.1, hk⟩
              have hmd0 : 0 ≤ md := hk.1
              have hmd5 : md ≤ 5 := hk.2
              by_cases hm0 : md = 0
              · subst hm0
                obtain rfl : aE = 0 := HQ.out.2.2.2.symm.trans (by unfold addE; rw [if_pos hok, if_pos (show (cmd t 0).mode = 0 from rfl)])
                have eN : aN = [cmd t 0] := HQ.out.1.symm.trans (by unfold addN; rw [if_pos hok, if_pos (show (cmd t 0).mode = 0 from rfl)])
                have eW : aW = [] := HQ.out.2.1.symm.trans (by unfold addW; rw [if_pos hok, if_pos (show (cmd t 0).mode = 0 from rfl)])
                have eI : aI = ids (N ++ W) := HQ.out.2.2.1.symm.trans (by unfold addI; rw [if_pos hok, if_pos (show (cmd t 0).mode = 0 from rfl)])
                clear hok hk hmd0 hmd5
                go_upto_region 25 with (fail)
                have hy := X.out.set E1 e1 f1 E2 e2 f2
                have t1 := rdc_set X.out Q1.out E1 e1 f1 E2 e2 f2
                have t2 := rdc_set X.out Q2.out E1 e1 f1 E2 e2 f2
                have t3 := rdi_set X.out Q3.out E1 e1 f1 E2 e2 f2
                have tb := (HB.out.setCell g0 (p := ⟨g, 0, none⟩) (.slice E1 e1 f1)).setCell g0 (p := ⟨g, 1, none⟩) (.slice E2 e2 f2)
                generalize ((World.setCell _ ⟨g, 0, none⟩ (.slice E1 e1 f1)).setCell ⟨g, 1, none⟩ (.slice E2 e2 f2)) = wy at hy t1 t2 t3 tb ⊢
                rw [eN] at t1
                rw [eW] at t2
                rw [eI] at t3
                have Y := Lib.hid hy
                have Y1 := Lib.hid t1
                have Y2 := Lib.hid t2
                have YI := Lib.hid t3
                have HY := Lib.hid tb
                have ⟨j1, j2, j3⟩ := inv_now INV.out
                have JI : Hid (InvL [cmd t 0] [] (a + (ids (N ++ W)).length) (t + 1)) := Lib.hid (by rw [ids_len', j3]; exact j1)
                have SI : Hid (ids (N ++ W) = seqI a (ids (N ++ W)).length) := Lib.hid (by rw [ids_len']; exact j2)
                clear j1 j2 j3
                clear hy t1 t2 t3 tb c0 c1 cf0 cf1 x0 x1 d1 X R1 R2 HB V Q1 Q2 Q3 HQ eN eW eI
                have hk : (ids (N ++ W)).length = e3 := YI.out.1
                have hkc : (e3 : Int) ≤ 9223372036854775807 := YI.out.len_le
                have hsum : a + e3 + (e1 + e2) = (t + 1) := by have := JI.out.2.2; have h1 := Y1.out.1; have h2 := Y2.out.1; rw [List.length_append] at this; omega
                have hab : a + e3 ≤ 300 := by omega
                have hN1 : e1 < 2 := by have := JI.out.1.2.1; rwa [Y1.out.1] at this
                have hN2 : e2 < 5 := by have := JI.out.1.2.2.1; rwa [Y2.out.1] at this
                have HR : Hid (∀ W', RdC W' W'.heap.size E1 e1 f1 [cmd t 0] → RdC W' W'.heap.size E2 e2 f2 [] → Calls Try.prog 10 #[.agg #[.slice E1 e1 f1, .slice E2 e2 f2]] W' fun e w' => e = .returned (.bool true) ∧ Below W'.heap.size W' w') := Lib.hid fun W' h1 h2 => right_yes JI.out.1 ▸ right_any ([cmd t 0]) ([]) h1 h2 (Nat.le_refl _) (by omega) (by omega)
                have HY : Hid (Below w.heap.size w wy) := HY
                go_wp2
                go_loop [4, 13] (fun s4 s13 => ∃ j : Nat, j ≤ e3 ∧ s13 = .int .i64 j ∧ s4 = .int .i64 ((a + j : Nat) : Int)) (fun _ s13 => e3 - (intOf s13).toNat)
                case atStart => exact ⟨0, Nat.zero_le _, rfl, rfl⟩
                case round =>
                  obtain ⟨j, hj, rfl, rfl⟩ := hrel
                  by_cases hjk : j < e3
                  · obtain ⟨b3, off3, hD, e0⟩ := row_at YI.out SI.out hjk
                    subst hD
                    have j0 : (j : Int) < (e3 : Int) := by omega
                    clear hsum HR
                    go_wp2
                    go_round
                    case measure => simp [intOf]; omega
                    case rel => exact ⟨j + 1, hjk, rfl, rfl⟩
                  · obtain rfl : j = e3 := by omega
                    skip
                    have ⟨y0, y1, _, _⟩ := Y.out.cells
                    have hsi : ((a + j : Nat) : Int) + (e1 : Int) + (e2 : Int) = (((t + 1) : Nat) : Int) := by omega
                    skip
                    go_wp2_with (go_at_call 10; ((with_reducible refine (HR.out _ Y1.out Y2.out).mono ?_); rintro e w9 ⟨rfl, hb9⟩; have Y9 := Lib.hid (Y.out.under hb9); have Z1 := Lib.hid (rd_under Y1.out hb9); have Z2 := Lib.hid (rd_under Y2.out hb9); have Z3 := Lib.hid (HY.out.trans (hb9.mono HY.out.size)); clear hb9 y0 y1; have ⟨y0, y1, _, _⟩ := Y9.out.cells))
                    go_roundw
                    case measure => simp [intOf]; omega
                    case rel => exact ⟨q + 1, a + j, (t + 1), [cmd t 0], [], _, _, _, _, _, _, hlt, by omega, by omega, rfl, rfl, rfl, hk ▸ JI.out, Y9.out, Z1.out, Z2.out, Z3.out⟩
              · by_cases hf : 4 < (N ++ W).length
                · have hm4 : ¬ (m : Int) < 4 := by have h := hf; rw [List.length_append, hn, hm] at h; omega
                  obtain rfl : aE = 8 := HQ.out.2.2.2.symm.trans (by unfold addE; rw [if_pos hok, if_neg (show ¬ (cmd t md).mode = 0 from hm0), if_pos hf])
                  have hm4b : decide ((m : Int) < 4) = false := decide_eq_false hm4
                  clear hok hk hmd0 hmd5 hf hm0 HQ
                  go_wp2
                  go_roundw
                  case measure => simp [intOf]; omega
                  case rel => exact ⟨q + 1, a, t, N, W, _, _, _, _, _, _, hlt, by omega, by omega, rfl, rfl, rfl, INV.out, X.out, R1.out, R2.out, HB.out⟩
                · skip
                  obtain rfl : aE = 0 := HQ.out.2.2.2.symm.trans (by unfold addE; rw [if_pos hok, if_neg (show ¬ (cmd t md).mode = 0 from hm0), if_neg hf])
                  have eN : aN = (N ++ W ++ [cmd t md]).take 1 := HQ.out.1.symm.trans (by unfold addN; rw [if_pos hok, if_neg (show ¬ (cmd t md).mode = 0 from hm0), if_neg hf])
                  have eW : aW = (N ++ W ++ [cmd t md]).drop 1 := HQ.out.2.1.symm.trans (by unfold addW; rw [if_pos hok, if_neg (show ¬ (cmd t md).mode = 0 from hm0), if_neg hf])
                  have eI : aI = [] := HQ.out.2.2.1.symm.trans (by unfold addI; rw [if_pos hok, if_neg (show ¬ (cmd t md).mode = 0 from hm0)])
                  have hl4 : (N ++ W).length ≤ 4 := by omega
                  have j1 := inv_more INV.out hmd0 hmd5 hl4
                  clear hok hk hmd0 hmd5 hf hl4
                  go_upto_region 25 with (fail)
                  have hy := X.out.set E1 e1 f1 E2 e2 f2
                  have t1 := rdc_set X.out Q1.out E1 e1 f1 E2 e2 f2
                  have t2 := rdc_set X.out Q2.out E1 e1 f1 E2 e2 f2
                  have t3 := rdi_set X.out Q3.out E1 e1 f1 E2 e2 f2
                  have tb := (HB.out.setCell g0 (p := ⟨g, 0, none⟩) (.slice E1 e1 f1)).setCell g0 (p := ⟨g, 1, none⟩) (.slice E2 e2 f2)
                  generalize ((World.setCell _ ⟨g, 0, none⟩ (.slice E1 e1 f1)).setCell ⟨g, 1, none⟩ (.slice E2 e2 f2)) = wy at hy t1 t2 t3 tb ⊢
                  rw [eN] at t1
                  rw [eW] at t2
                  rw [eI] at t3
                  have Y := Lib.hid hy
                  have Y1 := Lib.hid t1
                  have Y2 := Lib.hid t2
                  have YI := Lib.hid t3
                  have HY := Lib.hid tb
                  have JI : Hid (InvL ((N ++ W ++ [cmd t md]).take 1) ((N ++ W ++ [cmd t md]).drop 1) (a + ([] : List Int).length) (t + 1)) := Lib.hid j1
                  have SI : Hid (([] : List Int) = seqI a ([] : List Int).length) := Lib.hid rfl
                  clear j1
                  clear hy t1 t2 t3 tb c0 c1 cf0 cf1 x0 x1 d1 X R1 R2 HB V Q1 Q2 Q3 HQ eN eW eI
                  have hk : ([] : List Int).length = e3 := YI.out.1
                  have hkc : (e3 : Int) ≤ 9223372036854775807 := YI.out.len_le
                  have hsum : a + e3 + (e1 + e2) = (t + 1) := by have := JI.out.2.2; have h1 := Y1.out.1; have h2 := Y2.out.1; rw [List.length_append] at this; omega
                  have hab : a + e3 ≤ 300 := by omega
                  have hN1 : e1 < 2 := by have := JI.out.1.2.1; rwa [Y1.out.1] at this
                  have hN2 : e2 < 5 := by have := JI.out.1.2.2.1; rwa [Y2.out.1] at this
                  have HR : Hid (∀ W', RdC W' W'.heap.size E1 e1 f1 ((N ++ W ++ [cmd t md]).take 1) → RdC W' W'.heap.size E2 e2 f2 ((N ++ W ++ [cmd t md]).drop 1) → Calls Try.prog 10 #[.agg #[.slice E1 e1 f1, .slice E2 e2 f2]] W' fun e w' => e = .returned (.bool true) ∧ Below W'.heap.size W' w') := Lib.hid fun W' h1 h2 => right_yes JI.out.1 ▸ right_any (((N ++ W ++ [cmd t md]).take 1)) (((N ++ W ++ [cmd t md]).drop 1)) h1 h2 (Nat.le_refl _) (by omega) (by omega)
                  have HY : Hid (Below w.heap.size w wy) := HY
                  go_wp2
                  go_loop [4, 13] (fun s4 s13 => ∃ j : Nat, j ≤ e3 ∧ s13 = .int .i64 j ∧ s4 = .int .i64 ((a + j : Nat) : Int)) (fun _ s13 => e3 - (intOf s13).toNat)
                  case atStart => exact ⟨0, Nat.zero_le _, rfl, rfl⟩
                  case round =>
                    obtain ⟨j, hj, rfl, rfl⟩ := hrel
                    by_cases hjk : j < e3
                    · obtain ⟨b3, off3, hD, e0⟩ := row_at YI.out SI.out hjk
                      subst hD
                      have j0 : (j : Int) < (e3 : Int) := by omega
                      clear hsum HR
                      go_wp2
                      go_round
                      case measure => simp [intOf]; omega
                      case rel => exact ⟨j + 1, hjk, rfl, rfl⟩
                    · obtain rfl : j = e3 := by omega
                      skip
                      have ⟨y0, y1, _, _⟩ := Y.out.cells
                      have hsi : ((a + j : Nat) : Int) + (e1 : Int) + (e2 : Int) = (((t + 1) : Nat) : Int) := by omega
                      skip
                      go_wp2_with (go_at_call 10; ((with_reducible refine (HR.out _ Y1.out Y2.out).mono ?_); rintro e w9 ⟨rfl, hb9⟩; have Y9 := Lib.hid (Y.out.under hb9); have Z1 := Lib.hid (rd_under Y1.out hb9); have Z2 := Lib.hid (rd_under Y2.out hb9); have Z3 := Lib.hid (HY.out.trans (hb9.mono HY.out.size)); clear hb9 y0 y1; have ⟨y0, y1, _, _⟩ := Y9.out.cells))
                      go_roundw
                      case measure => simp [intOf]; omega
                      case rel => exact ⟨q + 1, a + j, (t + 1), ((N ++ W ++ [cmd t md]).take 1), ((N ++ W ++ [cmd t md]).drop 1), _, _, _, _, _, _, hlt, by omega, by omega, rfl, rfl, rfl, hk ▸ JI.out, Y9.out, Z1.out, Z2.out, Z3.out⟩
            · have hno : ¬ AddOk N W (cmd t md) := fun h => hk h.2
              obtain rfl : aE = 1 := HQ.out.2.2.2.symm.trans (by unfold addE; rw [if_neg hno])
              have hbad : ¬ (0 ≤ md ∧ md ≤ 5) := hk
              clear hk hno HQ
              by_cases hmd0 : 0 ≤ md
              · have hmd5 : decide (md ≤ 5) = false := decide_eq_false (by omega)
                by_cases hm4 : (m : Int) < 4
                · skip
                  go_wp2
                  go_roundw
                  case measure => simp [intOf]; omega
                  case rel => exact ⟨q + 1, a, t, N, W, _, _, _, _, _, _, hlt, by omega, by omega, rfl, rfl, rfl, INV.out, X.out, R1.out, R2.out, HB.out⟩
                · have hm4b : decide ((m : Int) < 4) = false := decide_eq_false hm4
                  go_wp2
                  go_roundw
                  case measure => simp [intOf]; omega
                  case rel => exact ⟨q + 1, a, t, N, W, _, _, _, _, _, _, hlt, by omega, by omega, rfl, rfl, rfl, INV.out, X.out, R1.out, R2.out, HB.out⟩
              · have hmd0b : decide (0 ≤ md) = false := decide_eq_false hmd0
                by_cases hm4 : (m : Int) < 4
                · skip
                  go_wp2
                  go_roundw
                  case measure => simp [intOf]; omega
                  case rel => exact ⟨q + 1, a, t, N, W, _, _, _, _, _, _, hlt, by omega, by omega, rfl, rfl, rfl, INV.out, X.out, R1.out, R2.out, HB.out⟩
                · have hm4b : decide ((m : Int) < 4) = false := decide_eq_false hm4
                  go_wp2
                  go_roundw
                  case measure => simp [intOf]; omega
                  case rel => exact ⟨q + 1, a, t, N, W, _, _, _, _, _, _, hlt, by omega, by omega, rfl, rfl, rfl, INV.out, X.out, R1.out, R2.out, HB.out⟩
        · have hk0b : (kd == 0) = false := by rw [beq_eq_false_iff_ne]; exact hk0
          by_cases hk1 : kd = 1
          · subst hk1
            have ⟨c0, c1, cf0, cf1⟩ := X.out.cells
            rcases right_len INV.out.1 with ⟨hN, hW⟩ | ⟨x, hN⟩
            · skip
              have hEN : endN N W = [] := by unfold endN; rw [hW]; split <;> rfl
              have hEW : endW N W = [] := by unfold endW; rw [hW]; split <;> rfl
              have hEI : endI N W = 0 := by unfold endI; rw [hN]; split <;> rfl
              obtain rfl : n = 0 := by rw [← hn, hN]; rfl
              have HE : Hid (∀ W', RdC W' W'.heap.size A 0 c N → RdC W' W'.heap.size A' m c' W → Calls Try.prog 14 #[.agg #[.slice A 0 c, .slice A' m c']] W' (GotE ([]) ([]) (0) W')) := Lib.hid fun W' h1 h2 => by have h := end_any N W h1 h2 (Nat.le_refl _) (by omega) (by omega); rw [hEN, hEW, hEI] at h; exact h
              clear hEN hEW hEI
              go_upto_region 20 with (go_at_call 14; ((with_reducible refine (HE.out _ R1.out R2.out).mono ?_); rintro e v1 ⟨E1, e1, f1, E2, e2, f2, rfl, hr1, hr2, hb⟩; have Q1 := Lib.hid hr1; have Q2 := Lib.hid hr2; have X1 := Lib.hid (X.out.under hb); have HB1 := Lib.hid (HB.out.trans (hb.mono HB.out.size)); have gx1 := Nat.lt_of_lt_of_le gx hb.size; clear hr1 hr2 hb c0 c1 cf0 cf1; have ⟨c0, c1, cf0, cf1⟩ := X1.out.cells))
              have ha : Below v1.heap.size v1 (v1.alloc (.cells #[.slice E1 e1 f1, .slice E2 e2 f2] 24)) := (Below.refl _ _).alloc (Nat.le_refl _) _
              have nv : VarL (v1.alloc (.cells #[.slice E1 e1 f1, .slice E2 e2 f2] 24)) v1.heap.size E1 e1 f1 E2 e2 f2 := VarL.new _ _ _ _ _ _ _
              have x2 := X1.out.under ha
              have q1 := rd_under Q1.out ha
              have q2 := rd_under Q2.out ha
              have hb2 := HB1.out.trans (ha.mono HB1.out.size)
              have gg : v1.heap.size < ((v1.alloc (.cells #[.slice E1 e1 f1, .slice E2 e2 f2] 24))).heap.size := nv.lt
              generalize (v1.alloc (.cells #[.slice E1 e1 f1, .slice E2 e2 f2] 24)) = v2 at ha nv x2 q1 q2 hb2 gg ⊢
              have hgv : v1.heap.size ≤ v2.heap.size := ha.size
              clear c0 c1 cf0 cf1 ha
              generalize v1.heap.size = gn at nv gg hgv gx1 ⊢
              have V := Lib.hid nv
              have X2 := Lib.hid x2
              have Q1 := Lib.hid q1
              have Q2 := Lib.hid q2
              have HB2 := Lib.hid hb2
              clear nv x2 q1 q2 hb2 X X1 R1 R2 HB HB1 HE
              have ⟨c0, c1, cf0, cf1⟩ := X2.out.cells
              have ⟨x0, x1, _, _⟩ := V.out.cells
              go_upto_region 25 with (fail)
              have Xw := X2
              have HBw := HB2
              have Q3 : Hid (RdI v2 v2.heap.size none 0 0 []) := Lib.hid (Rd.none_ _ _ _ _)
              clear X2 HB2 c0 c1 cf0 cf1 x0 x1
              have hy := Xw.out.set E1 e1 f1 E2 e2 f2
              have t1 := rdc_set Xw.out Q1.out E1 e1 f1 E2 e2 f2
              have t2 := rdc_set Xw.out Q2.out E1 e1 f1 E2 e2 f2
              have t3 := rdi_set Xw.out Q3.out E1 e1 f1 E2 e2 f2
              have tb := (HBw.out.setCell g0 (p := ⟨g, 0, none⟩) (.slice E1 e1 f1)).setCell g0 (p := ⟨g, 1, none⟩) (.slice E2 e2 f2)
              generalize ((World.setCell _ ⟨g, 0, none⟩ (.slice E1 e1 f1)).setCell ⟨g, 1, none⟩ (.slice E2 e2 f2)) = wy at hy t1 t2 t3 tb ⊢
              have Y := Lib.hid hy
              have Y1 := Lib.hid t1
              have Y2 := Lib.hid t2
              have YI := Lib.hid t3
              have HY := Lib.hid tb
              have JI : Hid (InvL [] [] (a + ([] : List Int).length) t) := Lib.hid (by have h := INV.out; rw [hN, hW] at h; exact h)
              have SI : Hid (([] : List Int) = seqI a ([] : List Int).length) := Lib.hid rfl
              clear hy t1 t2 t3 tb Xw HBw V Q1 Q2 Q3
              have hk : ([] : List Int).length = 0 := YI.out.1
              have hkc : (0 : Int) ≤ 9223372036854775807 := YI.out.len_le
              have hsum : a + 0 + (e1 + e2) = t := by have := JI.out.2.2; have h1 := Y1.out.1; have h2 := Y2.out.1; rw [List.length_append] at this; omega
              have hab : a + 0 ≤ 300 := by omega
              have hN1 : e1 < 2 := by have := JI.out.1.2.1; rwa [Y1.out.1] at this
              have hN2 : e2 < 5 := by have := JI.out.1.2.2.1; rwa [Y2.out.1] at this
              have HR : Hid (∀ W', RdC W' W'.heap.size E1 e1 f1 ([] : List C) → RdC W' W'.heap.size E2 e2 f2 ([] : List C) → Calls Try.prog 10 #[.agg #[.slice E1 e1 f1, .slice E2 e2 f2]] W' fun e w' => e = .returned (.bool true) ∧ Below W'.heap.size W' w') := Lib.hid fun W' h1 h2 => right_yes JI.out.1 ▸ right_any (([] : List C)) (([] : List C)) h1 h2 (Nat.le_refl _) (by omega) (by omega)
              have HY : Hid (Below w.heap.size w wy) := HY
              go_wp2
              go_loop [4, 13] (fun s4 s13 => ∃ j : Nat, j ≤ 0 ∧ s13 = .int .i64 j ∧ s4 = .int .i64 ((a + j : Nat) : Int)) (fun _ s13 => 0 - (intOf s13).toNat)
              case atStart => exact ⟨0, Nat.zero_le _, rfl, rfl⟩
              case round =>
                obtain ⟨j, hj, rfl, rfl⟩ := hrel
                by_cases hjk : j < 0
                · obtain ⟨b3, off3, hD, e0⟩ := row_at YI.out SI.out hjk
                  cases hD
                · obtain rfl : j = 0 := by omega
                  skip
                  have ⟨y0, y1, _, _⟩ := Y.out.cells
                  have hsi : ((a + 0 : Nat) : Int) + (e1 : Int) + (e2 : Int) = ((t : Nat) : Int) := by omega
                  skip
                  go_wp2_with (go_at_call 10; ((with_reducible refine (HR.out _ Y1.out Y2.out).mono ?_); rintro e w9 ⟨rfl, hb9⟩; have Y9 := Lib.hid (Y.out.under hb9); have Z1 := Lib.hid (rd_under Y1.out hb9); have Z2 := Lib.hid (rd_under Y2.out hb9); have Z3 := Lib.hid (HY.out.trans (hb9.mono HY.out.size)); clear hb9 y0 y1; have ⟨y0, y1, _, _⟩ := Y9.out.cells))
                  go_roundw
                  case measure => simp [intOf]; omega
                  case rel => exact ⟨q + 1, a + 0, t, ([] : List C), ([] : List C), _, _, _, _, _, _, hlt, by omega, by omega, rfl, rfl, rfl, hk ▸ JI.out, Y9.out, Z1.out, Z2.out, Z3.out⟩
            · skip
              have ⟨je, jx⟩ := inv_end INV.out hN
              have hEN : endN N W = W.take 1 := by unfold endN; rw [if_pos INV.out.1]
              have hEW : endW N W = W.drop 1 := by unfold endW; rw [if_pos INV.out.1]
              have hEI : endI N W = (a : Int) + 1 := by unfold endI; rw [if_pos INV.out.1, hN]; exact jx
              obtain rfl : n = 1 := by rw [← hn, hN]; rfl
              have ha0 : ((a : Int) + 1 == 0) = false := by rw [beq_eq_false_iff_ne]; omega
              have HE : Hid (∀ W', RdC W' W'.heap.size A 1 c N → RdC W' W'.heap.size A' m c' W → Calls Try.prog 14 #[.agg #[.slice A 1 c, .slice A' m c']] W' (GotE (W.take 1) (W.drop 1) ((a : Int) + 1) W')) := Lib.hid fun W' h1 h2 => by have h := end_any N W h1 h2 (Nat.le_refl _) (by omega) (by omega); rw [hEN, hEW, hEI] at h; exact h
              clear hEN hEW hEI
              go_upto_region 20 with (go_at_call 14; ((with_reducible refine (HE.out _ R1.out R2.out).mono ?_); rintro e v1 ⟨E1, e1, f1, E2, e2, f2, rfl, hr1, hr2, hb⟩; have Q1 := Lib.hid hr1; have Q2 := Lib.hid hr2; have X1 := Lib.hid (X.out.under hb); have HB1 := Lib.hid (HB.out.trans (hb.mono HB.out.size)); have gx1 := Nat.lt_of_lt_of_le gx hb.size; clear hr1 hr2 hb c0 c1 cf0 cf1; have ⟨c0, c1, cf0, cf1⟩ := X1.out.cells))
              have ha : Below v1.heap.size v1 (v1.alloc (.cells #[.slice E1 e1 f1, .slice E2 e2 f2] 24)) := (Below.refl _ _).alloc (Nat.le_refl _) _
              have nv : VarL (v1.alloc (.cells #[.slice E1 e1 f1, .slice E2 e2 f2] 24)) v1.heap.size E1 e1 f1 E2 e2 f2 := VarL.new _ _ _ _ _ _ _
              have x2 := X1.out.under ha
              have q1 := rd_under Q1.out ha
              have q2 := rd_under Q2.out ha
              have hb2 := HB1.out.trans (ha.mono HB1.out.size)
              have gg : v1.heap.size < ((v1.alloc (.cells #[.slice E1 e1 f1, .slice E2 e2 f2] 24))).heap.size := nv.lt
              generalize (v1.alloc (.cells #[.slice E1 e1 f1, .slice E2 e2 f2] 24)) = v2 at ha nv x2 q1 q2 hb2 gg ⊢
              have hgv : v1.heap.size ≤ v2.heap.size := ha.size
              clear c0 c1 cf0 cf1 ha
              generalize v1.heap.size = gn at nv gg hgv gx1 ⊢
              have V := Lib.hid nv
              have X2 := Lib.hid x2
              have Q1 := Lib.hid q1
              have Q2 := Lib.hid q2
              have HB2 := Lib.hid hb2
              clear nv x2 q1 q2 hb2 X X1 R1 R2 HB HB1 HE
              have ⟨c0, c1, cf0, cf1⟩ := X2.out.cells
              have ⟨x0, x1, _, _⟩ := V.out.cells
              go_upto_region 24 with (fail)
              have ha : Below v2.heap.size v2 (v2.alloc (.cells #[.int .i64 ((a : Int) + 1)] 3)) := (Below.refl _ _).alloc (Nat.le_refl _) _
              have q3 : RdI (v2.alloc (.cells #[.int .i64 ((a : Int) + 1)] 3)) (v2.heap.size + 1) (some ⟨v2.heap.size, 0, none⟩) 1 1 [(a : Int) + 1] := one_row v2 3 ((a : Int) + 1) #[.int .i64 ((a : Int) + 1)] rfl
              have q3 := q3.more (show v2.heap.size + 1 ≤ ((v2.alloc (.cells #[.int .i64 ((a : Int) + 1)] 3))).heap.size by simp)
              have x2 := X2.out.under ha
              have q1 := rd_under Q1.out ha
              have q2 := rd_under Q2.out ha
              have v3 := V.out.under ha
              have hb2 := HB2.out.trans (ha.mono HB2.out.size)
              generalize (v2.alloc (.cells #[.int .i64 ((a : Int) + 1)] 3)) = w4 at ha q3 x2 q1 q2 v3 hb2 ⊢
              skip
              have Q1 := Lib.hid q1
              have Q2 := Lib.hid q2
              have Q3 := Lib.hid q3
              have V := Lib.hid v3
              have Xw := Lib.hid x2
              have HBw := Lib.hid hb2
              clear q1 q2 q3 v3 x2 hb2 ha X2 HB2 c0 c1 cf0 cf1 x0 x1
              have ⟨c0, c1, cf0, cf1⟩ := Xw.out.cells
              have ⟨x0, x1, _, _⟩ := V.out.cells
              go_upto_region 25 with (fail)
              clear c0 c1 cf0 cf1 x0 x1
              have hy := Xw.out.set E1 e1 f1 E2 e2 f2
              have t1 := rdc_set Xw.out Q1.out E1 e1 f1 E2 e2 f2
              have t2 := rdc_set Xw.out Q2.out E1 e1 f1 E2 e2 f2
              have t3 := rdi_set Xw.out Q3.out E1 e1 f1 E2 e2 f2
              have tb := (HBw.out.setCell g0 (p := ⟨g, 0, none⟩) (.slice E1 e1 f1)).setCell g0 (p := ⟨g, 1, none⟩) (.slice E2 e2 f2)
              generalize ((World.setCell _ ⟨g, 0, none⟩ (.slice E1 e1 f1)).setCell ⟨g, 1, none⟩ (.slice E2 e2 f2)) = wy at hy t1 t2 t3 tb ⊢
              have Y := Lib.hid hy
              have Y1 := Lib.hid t1
              have Y2 := Lib.hid t2
              have YI := Lib.hid t3
              have HY := Lib.hid tb
              have JI : Hid (InvL (W.take 1) (W.drop 1) (a + [(a : Int) + 1].length) t) := Lib.hid je
              have SI : Hid ([(a : Int) + 1] = seqI a [(a : Int) + 1].length) := Lib.hid rfl
              clear je jx
              clear hy t1 t2 t3 tb Xw HBw V Q1 Q2 Q3
              have hk : [(a : Int) + 1].length = 1 := YI.out.1
              have hkc : (1 : Int) ≤ 9223372036854775807 := YI.out.len_le
              have hsum : a + 1 + (e1 + e2) = t := by have := JI.out.2.2; have h1 := Y1.out.1; have h2 := Y2.out.1; rw [List.length_append] at this; omega
              have hab : a + 1 ≤ 300 := by omega
              have hN1 : e1 < 2 := by have := JI.out.1.2.1; rwa [Y1.out.1] at this
              have hN2 : e2 < 5 := by have := JI.out.1.2.2.1; rwa [Y2.out.1] at this
              have HR : Hid (∀ W', RdC W' W'.heap.size E1 e1 f1 (W.take 1) → RdC W' W'.heap.size E2 e2 f2 (W.drop 1) → Calls Try.prog 10 #[.agg #[.slice E1 e1 f1, .slice E2 e2 f2]] W' fun e w' => e = .returned (.bool true) ∧ Below W'.heap.size W' w') := Lib.hid fun W' h1 h2 => right_yes JI.out.1 ▸ right_any ((W.take 1)) ((W.drop 1)) h1 h2 (Nat.le_refl _) (by omega) (by omega)
              have HY : Hid (Below w.heap.size w wy) := HY
              go_wp2
              go_loop [4, 13] (fun s4 s13 => ∃ j : Nat, j ≤ 1 ∧ s13 = .int .i64 j ∧ s4 = .int .i64 ((a + j : Nat) : Int)) (fun _ s13 => 1 - (intOf s13).toNat)
              case atStart => exact ⟨0, Nat.zero_le _, rfl, rfl⟩
              case round =>
                obtain ⟨j, hj, rfl, rfl⟩ := hrel
                by_cases hjk : j < 1
                · obtain ⟨b3, off3, hD, e0⟩ := row_at YI.out SI.out hjk
                  injection hD with hD
                  injection hD with hb3 ho3
                  subst hb3 ho3
                  obtain rfl : j = 0 := by omega
                  clear hsum HR
                  go_wp2
                  go_round
                  all_goals first | exact ⟨1, Nat.le_refl _, rfl, rfl⟩ | (simp [intOf]; done)
                · obtain rfl : j = 1 := by omega
                  skip
                  have ⟨y0, y1, _, _⟩ := Y.out.cells
                  have hsi : ((a + 1 : Nat) : Int) + (e1 : Int) + (e2 : Int) = ((t : Nat) : Int) := by omega
                  skip
                  go_wp2_with (go_at_call 10; ((with_reducible refine (HR.out _ Y1.out Y2.out).mono ?_); rintro e w9 ⟨rfl, hb9⟩; have Y9 := Lib.hid (Y.out.under hb9); have Z1 := Lib.hid (rd_under Y1.out hb9); have Z2 := Lib.hid (rd_under Y2.out hb9); have Z3 := Lib.hid (HY.out.trans (hb9.mono HY.out.size)); clear hb9 y0 y1; have ⟨y0, y1, _, _⟩ := Y9.out.cells))
                  go_roundw
                  case measure => simp [intOf]; omega
                  case rel => exact ⟨q + 1, a + 1, t, (W.take 1), (W.drop 1), _, _, _, _, _, _, hlt, by omega, by omega, rfl, rfl, rfl, hk ▸ JI.out, Y9.out, Z1.out, Z2.out, Z3.out⟩
          · have hk1b : (kd == 1) = false := by rw [beq_eq_false_iff_ne]; exact hk1
            have ⟨c0, c1, cf0, cf1⟩ := X.out.cells
            have HC : Hid (∀ W', RdC W' W'.heap.size A n c N → RdC W' W'.heap.size A' m c' W → Calls Try.prog 15 #[.agg #[.slice A n c, .slice A' m c']] W' (GotI [] [] (ids (N ++ W)) W')) := Lib.hid fun W' h1 h2 => by have h := clear_any N W h1 h2 (Nat.le_refl _) (by omega) (by omega); rw [show clearI N W = ids (N ++ W) by unfold clearI; rw [if_pos INV.out.1]] at h; exact h
            go_upto_region 25 with (go_at_call 15; ((with_reducible refine (HC.out _ R1.out R2.out).mono ?_); rintro e v1 ⟨E1, e1, f1, E2, e2, f2, E3, e3, f3, rfl, hr1, hr2, hr3, hb⟩; have Q1 := Lib.hid hr1; have Q2 := Lib.hid hr2; have Q3 := Lib.hid hr3; have Xw := Lib.hid (X.out.under hb); have HBw := Lib.hid (HB.out.trans (hb.mono HB.out.size)); have gx1 := Nat.lt_of_lt_of_le gx hb.size; clear hr1 hr2 hr3 hb c0 c1 cf0 cf1; have ⟨c0, c1, cf0, cf1⟩ := Xw.out.cells))
            clear c0 c1 cf0 cf1 X R1 R2 HB HC
            have V := trivial
            have hy := Xw.out.set E1 e1 f1 E2 e2 f2
            have t1 := rdc_set Xw.out Q1.out E1 e1 f1 E2 e2 f2
            have t2 := rdc_set Xw.out Q2.out E1 e1 f1 E2 e2 f2
            have t3 := rdi_set Xw.out Q3.out E1 e1 f1 E2 e2 f2
            have tb := (HBw.out.setCell g0 (p := ⟨g, 0, none⟩) (.slice E1 e1 f1)).setCell g0 (p := ⟨g, 1, none⟩) (.slice E2 e2 f2)
            generalize ((World.setCell _ ⟨g, 0, none⟩ (.slice E1 e1 f1)).setCell ⟨g, 1, none⟩ (.slice E2 e2 f2)) = wy at hy t1 t2 t3 tb ⊢
            have Y := Lib.hid hy
            have Y1 := Lib.hid t1
            have Y2 := Lib.hid t2
            have YI := Lib.hid t3
            have HY := Lib.hid tb
            have ⟨j1, j2, j3⟩ := inv_clear INV.out
            have JI : Hid (InvL [] [] (a + (ids (N ++ W)).length) t) := Lib.hid (by rw [ids_len', j3]; exact j1)
            have SI : Hid (ids (N ++ W) = seqI a (ids (N ++ W)).length) := Lib.hid (by rw [ids_len']; exact j2)
            clear j1 j2 j3
            clear hy t1 t2 t3 tb Xw HBw V Q1 Q2 Q3
            have hk : (ids (N ++ W)).length = e3 := YI.out.1
            have hkc : (e3 : Int) ≤ 9223372036854775807 := YI.out.len_le
            have hsum : a + e3 + (e1 + e2) = t := by have := JI.out.2.2; have h1 := Y1.out.1; have h2 := Y2.out.1; rw [List.length_append] at this; omega
            have hab : a + e3 ≤ 300 := by omega
            have hN1 : e1 < 2 := by have := JI.out.1.2.1; rwa [Y1.out.1] at this
            have hN2 : e2 < 5 := by have := JI.out.1.2.2.1; rwa [Y2.out.1] at this
            have HR : Hid (∀ W', RdC W' W'.heap.size E1 e1 f1 ([] : List C) → RdC W' W'.heap.size E2 e2 f2 ([] : List C) → Calls Try.prog 10 #[.agg #[.slice E1 e1 f1, .slice E2 e2 f2]] W' fun e w' => e = .returned (.bool true) ∧ Below W'.heap.size W' w') := Lib.hid fun W' h1 h2 => right_yes JI.out.1 ▸ right_any (([] : List C)) (([] : List C)) h1 h2 (Nat.le_refl _) (by omega) (by omega)
            have HY : Hid (Below w.heap.size w wy) := HY
            go_wp2
            go_loop [4, 13] (fun s4 s13 => ∃ j : Nat, j ≤ e3 ∧ s13 = .int .i64 j ∧ s4 = .int .i64 ((a + j : Nat) : Int)) (fun _ s13 => e3 - (intOf s13).toNat)
            case atStart => exact ⟨0, Nat.zero_le _, rfl, rfl⟩
            case round =>
              obtain ⟨j, hj, rfl, rfl⟩ := hrel
              by_cases hjk : j < e3
              · obtain ⟨b3, off3, hD, e0⟩ := row_at YI.out SI.out hjk
                subst hD
                have j0 : (j : Int) < (e3 : Int) := by omega
                clear hsum HR
                go_wp2
                go_round
                case measure => simp [intOf]; omega
                case rel => exact ⟨j + 1, hjk, rfl, rfl⟩
              · obtain rfl : j = e3 := by omega
                skip
                have ⟨y0, y1, _, _⟩ := Y.out.cells
                have hsi : ((a + j : Nat) : Int) + (e1 : Int) + (e2 : Int) = ((t : Nat) : Int) := by omega
                skip
                go_wp2_with (go_at_call 10; ((with_reducible refine (HR.out _ Y1.out Y2.out).mono ?_); rintro e w9 ⟨rfl, hb9⟩; have Y9 := Lib.hid (Y.out.under hb9); have Z1 := Lib.hid (rd_under Y1.out hb9); have Z2 := Lib.hid (rd_under Y2.out hb9); have Z3 := Lib.hid (HY.out.trans (hb9.mono HY.out.size)); clear hb9 y0 y1; have ⟨y0, y1, _, _⟩ := Y9.out.cells))
                go_roundw
                case measure => simp [intOf]; omega
                case rel => exact ⟨q + 1, a + j, t, ([] : List C), ([] : List C), _, _, _, _, _, _, hlt, by omega, by omega, rfl, rfl, rfl, hk ▸ JI.out, Y9.out, Z1.out, Z2.out, Z3.out⟩
      · have h200 : decide ((q : Int) < 200) = false := decide_eq_false (by omega)
        have i0 : (q : Int) < (len : Int) := by omega
        go_wp2
        go_ret
        exact ⟨rfl, HB.out⟩
    · have i0 : decide ((q : Int) < (len : Int)) = false := decide_eq_false (by omega)
      go_wp2
      go_ret
      exact ⟨rfl, HB.out⟩
end Go.Proofs.Ytnghifbkiipigaa.lineOne
