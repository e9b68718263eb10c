/- The walk of the law StdFlips: whatever is told, call by call: it returns true, and what was in memory is as it was. -/
import Derived.Test.YtkfmblebobjgbaaDoorStPar
namespace Go.Proofs.YtkfmblebobjgbaaDoor.stdFlips
open Go.ChangeShapes Go.WideShapes Go.ChangeAt Go.RowKit Go.Proofs.YtkfmblebobjgbaaDoor.k Go.Proofs.YtkfmblebobjgbaaDoor.rr Go.Proofs.YtkfmblebobjgbaaDoor.sd Go.Proofs.YtkfmblebobjgbaaDoor
set_option linter.unusedVariables false

theorem sr_next {m1 m2 : Int} {a : Bool} (h1 : m1 = 0 ∨ m1 = 1) (h2 : m2 = 0 ∨ m2 = 2) : srL m1 m2 (bi a) = [m1, m2, bi (m1 == 1 || (a && !(m2 == 2)))] := by
  unfold srL
  rw [b2_bi (b := m1 == 1 || (a && !(m2 == 2)))]
  rcases h1 with rfl | rfl <;> rcases h2 with rfl | rfl <;> cases a <;> simp [bi]
theorem rs_next {m1 m2 : Int} {b : Bool} (h1 : m1 = 0 ∨ m1 = 1) (h2 : m2 = 0 ∨ m2 = 2) : rsL m1 m2 (bi b) = [m1, m2, bi (!(m2 == 2) && (m1 == 1 || b))] := by
  unfold rsL
  rw [b2_bi (b := !(m2 == 2) && (m1 == 1 || b))]
  rcases h1 with rfl | rfl <;> rcases h2 with rfl | rfl <;> cases b <;> simp [bi]
set_option maxRecDepth 100000 in
set_option maxHeartbeats 8000000 in
theorem walk (a : Option Addr) (len cap : Nat) (zs : List Int) (w : World) (hV : IsRow .u8 w a len cap zs) (hL : Laid w) :
    Calls Tryd.prog 5 #[.slice a len cap] w fun e w' => e = .returned (.bool true) ∧ Below w.heap.size w w' := by
  have W1 := Lib.hid hV
  have hlen := len8 hV
  clear hV
  have HK := Lib.hid (awake_any w hL)
  have LD := Lib.hid hL
  clear hL
  go_enter Tryd.func5, Tryd.ntmps5
  go_upto_region 3 with (go_at_call 6; ((with_reducible refine (HK.out).mono ?_); rintro e w2 ⟨rfl, hb⟩; have HB := Lib.hid hb; clear hb HK))
  obtain ⟨x1, x2, hb, hz⟩ := boxes2 (Below.refl ((w2.alloc (.cells #[.int .i64 0, .int .i64 0, .int .i64 0] 2)).alloc (.cells #[.int .i64 0, .int .i64 0, .int .i64 0] 2)).heap.size ((w2.alloc (.cells #[.int .i64 0, .int .i64 0, .int .i64 0] 2)).alloc (.cells #[.int .i64 0, .int .i64 0, .int .i64 0] 2)))
  have hs := HB.out.size
  have HX1 := Lib.hid x1
  have HX2 := Lib.hid x2
  have HZ := Lib.hid hz
  have HB2 := Lib.hid (HB.out.trans (hb.mono hs))
  clear x1 x2 hb hz
  go_upto_region 4 with (fail)
  generalize ((w2.alloc (.cells #[.int .i64 0, .int .i64 0, .int .i64 0] 2)).alloc (.cells #[.int .i64 0, .int .i64 0, .int .i64 0] 2)) = w3 at *
  go_wp2_with fail
  go_loopw [3, 4, 5, 6, 7] (fun s3 s4 s5 s6 s7 wr => ∃ (q : Nat) (g1 c1 g2 c2 : Nat) (a1 b1 a2 b2 : Int) (x y : Bool), q ≤ len ∧ q ≤ 300 ∧ s3 = .slice (some ⟨g1, 0, none⟩) 3 c1 ∧ s4 = .slice (some ⟨g2, 0, none⟩) 3 c2 ∧ s5 = .bool x ∧ s6 = .bool y ∧ s7 = .int .i64 q ∧ Box wr g1 0 [.int .i64 a1, .int .i64 b1, .int .i64 (bi x)] ∧ Box wr g2 0 [.int .i64 a2, .int .i64 b2, .int .i64 (bi y)] ∧ g1 ≠ g2 ∧ w.heap.size ≤ g1 ∧ w.heap.size ≤ g2 ∧ g1 < wr.heap.size ∧ g2 < wr.heap.size ∧ 3 ≤ c1 ∧ c1 ≤ maxLen ∧ 3 ≤ c2 ∧ c2 ≤ maxLen ∧ Below w.heap.size w wr) (fun _ _ _ _ i _ => (301 - intOf i).toNat)
  case atStart => exact ⟨0, w2.heap.size, 3, w2.heap.size + 1, 3, 0, 0, 0, 0, false, false, Nat.zero_le _, by omega, rfl, rfl, rfl, rfl, rfl, HX1.out, HX2.out, by omega, hs, by omega, by have := HZ.out; omega, HZ.out, by omega, by unfold maxLen; omega, by omega, by unfold maxLen; omega, HB2.out⟩
  case round =>
    obtain ⟨q, g1, c1, g2, c2, a1, b1, a2, b2, x, y, hq, hq3, rfl, rfl, rfl, rfl, rfl, hX1, hX2, hne, hg1, hg2, hz1, hz2, hc1, hm1, hc2, hm2, hb⟩ := hrel
    clear HX1 HX2 HZ HB2 HB hs
    have HX1 := Lib.hid hX1
    have HX2 := Lib.hid hX2
    have HB := Lib.hid hb
    have HNE := Lib.hid hne
    have HC := Lib.hid (⟨hc1, hm1, hc2, hm2⟩ : 3 ≤ c1 ∧ c1 ≤ maxLen ∧ 3 ≤ c2 ∧ c2 ≤ maxLen)
    clear hX1 hX2 hb hc1 hm1 hc2 hm2
    by_cases hlt : q < len
    · by_cases hlt3 : q < 300
      · obtain ⟨b, off, rfl, hbw, hcap, hcm, hrow⟩ := at8 W1.out (by omega)
        obtain ⟨z, hz, hz0⟩ := hrow q hlt
        have hck : wr.cell? ⟨b, off + q, none⟩ = some (.int .u8 z) := (HB.out.cell (p := ⟨b, off + q, none⟩) hbw).trans hz0
        clear hrow hz0
        obtain ⟨l1, l2⟩ := low hz
        obtain ⟨m1, e1⟩ : ∃ m, bits .and .u8 z 1 = m := ⟨_, rfl⟩
        obtain ⟨m2, e2⟩ : ∃ m, bits .and .u8 z 2 = m := ⟨_, rfl⟩
        rw [e1] at l1
        rw [e2] at l2
        have k1 : IntKind.i64.wrap m1 = m1 := by rcases l1 with rfl | rfl <;> rfl
        have k2 : IntKind.i64.wrap m2 = m2 := by rcases l2 with rfl | rfl <;> rfl
        have L1 := Lib.hid l1
        have L2 := Lib.hid l2
        clear l1 l2 hz
        go_upto_region 8 with (fail)
        go_quiet (fail)
        go_upto_region 9 with (fail)
        have X1 := Lib.hid (box_drew (HX1.out.drawn nq))
        have X2 := Lib.hid (box_drew (HX2.out.drawn nq))
        have HB1 := Lib.hid ((below_drawn HB.out nq).drew)
        have hbb1 : b < g1 := Nat.lt_of_lt_of_le hbw hg1
        have hbb2 : b < g2 := Nat.lt_of_lt_of_le hbw hg2
        have z1 : g1 < (wr.drewN nq).drew.heap.size := hz1
        have z2 : g2 < (wr.drewN nq).drew.heap.size := hz2
        have hck1 : (wr.drewN nq).cell? ⟨b, off + q, none⟩ = some (.int .u8 z) := hck
        clear HX1 HX2 HB hz1 hz2 hck
        refine wp_region_T (by kernel_rfl) (fun w' => w'.cell? ⟨b, off + q, none⟩ = some (.int .u8 z)) [] hck1 (fun hHeld => ?_)
        generalize (wr.drewN nq).drew = y0 at *
        refine wpAnyT_take (i := 0) (v := ?_) rfl (by kernel_rfl) (by kernel_rfl) (by kernel_rfl) (fun _ _ _ h => h) (Or.inl ⟨by rfl, ?_⟩) (by assumption) ?_
        rotate_left 1
        · intro w_ hSw; clear hSw; go_simp <;> (with_reducible rfl)
        try simp only [Act.put, List.setIfInBounds_toArray, List.set_cons_zero, List.set_cons_succ, List.getElem_toArray, List.getElem_cons_zero]
        refine wpAnyT_take (i := 1) (v := ?_) rfl (by kernel_rfl) (by kernel_rfl) (by kernel_rfl) (fun _ _ _ h => h) (Or.inl ⟨by rfl, ?_⟩) (by assumption) ?_
        rotate_left 1
        · intro w_ hSw; clear hSw; go_simp <;> (with_reducible rfl)
        try simp only [Act.put, List.setIfInBounds_toArray, List.set_cons_zero, List.set_cons_succ, List.getElem_toArray, List.getElem_cons_succ, List.getElem_cons_zero]
        refine wpAnyT_take (i := 2) (v := ?_) rfl (by kernel_rfl) (by kernel_rfl) (by kernel_rfl) (fun _ _ _ h => h) (Or.inl ⟨by rfl, ?_⟩) (by assumption) ?_
        rotate_left 1
        · intro w_ hSw; clear hSw; go_simp <;> (with_reducible rfl)
        try simp only [Act.put, List.setIfInBounds_toArray, List.set_cons_zero, List.set_cons_succ, List.getElem_toArray, List.getElem_cons_succ, List.getElem_cons_zero]
        refine wpAnyT_take (i := 3) (v := ?_) rfl (by kernel_rfl) (by kernel_rfl) (by kernel_rfl) (fun _ _ _ h => h) (Or.inl ⟨by rfl, ?_⟩) (by assumption) ?_
        rotate_left 1
        · intro w_ hSw; clear hSw; go_simp <;> (with_reducible rfl)
        try simp only [Act.put, List.setIfInBounds_toArray, List.set_cons_zero, List.set_cons_succ, List.getElem_toArray, List.getElem_cons_succ, List.getElem_cons_zero]
        refine wpAnyT_take (i := 4) (v := ?_) rfl (by kernel_rfl) (by kernel_rfl) (by kernel_rfl) (fun _ _ _ h => h) (Or.inl ⟨by rfl, ?_⟩) (by assumption) ?_
        rotate_left 1
        · intro w_ hSw; clear hSw; go_simp <;> (with_reducible rfl)
        try simp only [Act.put, List.setIfInBounds_toArray, List.set_cons_zero, List.set_cons_succ, List.getElem_toArray, List.getElem_cons_succ, List.getElem_cons_zero]
        refine wpAnyT_take (i := 5) (v := ?_) rfl (by kernel_rfl) (by kernel_rfl) (by kernel_rfl) (fun _ _ _ h => h) (Or.inl ⟨by rfl, ?_⟩) (by assumption) ?_
        rotate_left 1
        · intro w_ hSw; clear hSw; go_simp <;> (with_reducible rfl)
        try simp only [Act.put, List.setIfInBounds_toArray, List.set_cons_zero, List.set_cons_succ, List.getElem_toArray, List.getElem_cons_succ, List.getElem_cons_zero]
        refine wpAnyT_take (i := 6) (v := ?_) rfl (by kernel_rfl) (by kernel_rfl) (by kernel_rfl) (fun _ _ _ h => h) (Or.inl ⟨by rfl, ?_⟩) (by assumption) ?_
        rotate_left 1
        · intro w_ hSw; clear hSw; go_simp <;> (with_reducible rfl)
        try simp only [Act.put, List.setIfInBounds_toArray, List.set_cons_zero, List.set_cons_succ, List.getElem_toArray, List.getElem_cons_succ, List.getElem_cons_zero]
        refine wpAnyT_take (i := 7) (v := ?_) rfl (by kernel_rfl) (by kernel_rfl) (by kernel_rfl) (fun _ _ _ h => h) (Or.inl ⟨by rfl, ?_⟩) (by assumption) ?_
        rotate_left 1
        · intro w_ hSw; have q0 : w_.cell? ⟨b, off + q, none⟩ = some (.int .u8 z) := hSw; clear hSw; go_simp <;> (with_reducible rfl)
        try simp only [Act.put, List.setIfInBounds_toArray, List.set_cons_zero, List.set_cons_succ, List.getElem_toArray, List.getElem_cons_succ, List.getElem_cons_zero]
        refine wpAnyT_take (i := 8) (v := ?_) rfl (by kernel_rfl) (by kernel_rfl) (by kernel_rfl) (fun _ _ _ h => h) (Or.inl ⟨by rfl, ?_⟩) (by assumption) ?_
        rotate_left 1
        · intro w_ hSw; clear hSw; go_simp <;> (with_reducible rfl)
        try simp only [Act.put, List.setIfInBounds_toArray, List.set_cons_zero, List.set_cons_succ, List.getElem_toArray, List.getElem_cons_succ, List.getElem_cons_zero]
        refine wpAnyT_take (i := 9) (v := ?_) rfl (by kernel_rfl) (by kernel_rfl) (by kernel_rfl) (fun _ _ _ h => h) (Or.inl ⟨by rfl, ?_⟩) (by assumption) ?_
        rotate_left 1
        · intro w_ hSw; clear hSw; go_simp <;> (with_reducible rfl)
        try simp only [Act.put, List.setIfInBounds_toArray, List.set_cons_zero, List.set_cons_succ, List.getElem_toArray, List.getElem_cons_succ, List.getElem_cons_zero]
        refine wpAnyT_take (i := 10) (v := ?_) rfl (by kernel_rfl) (by kernel_rfl) (by kernel_rfl) (fun _ _ _ h => h) (Or.inl ⟨by rfl, ?_⟩) (by assumption) ?_
        rotate_left 1
        · intro w_ hSw; clear hSw; go_simp <;> (with_reducible rfl)
        try simp only [Act.put, List.setIfInBounds_toArray, List.set_cons_zero, List.set_cons_succ, List.getElem_toArray, List.getElem_cons_succ, List.getElem_cons_zero]
        refine wpAnyT_take (i := 11) (v := ?_) rfl (by kernel_rfl) (by kernel_rfl) (by kernel_rfl) (fun _ _ _ h => h) (Or.inl ⟨by rfl, ?_⟩) (by assumption) ?_
        rotate_left 1
        · intro w_ hSw; clear hSw; go_simp <;> (with_reducible rfl)
        try simp only [Act.put, List.setIfInBounds_toArray, List.set_cons_zero, List.set_cons_succ, List.getElem_toArray, List.getElem_cons_succ, List.getElem_cons_zero]
        refine wpAnyT_take (i := 12) (v := ?_) rfl (by kernel_rfl) (by kernel_rfl) (by kernel_rfl) (fun _ _ _ h => h) (Or.inl ⟨by rfl, ?_⟩) (by assumption) ?_
        rotate_left 1
        · intro w_ hSw; clear hSw; go_simp <;> (with_reducible rfl)
        try simp only [Act.put, List.setIfInBounds_toArray, List.set_cons_zero, List.set_cons_succ, List.getElem_toArray, List.getElem_cons_succ, List.getElem_cons_zero]
        refine wpAnyT_take (i := 13) (v := ?_) rfl (by kernel_rfl) (by kernel_rfl) (by kernel_rfl) (fun _ _ _ h => h) (Or.inl ⟨by rfl, ?_⟩) (by assumption) ?_
        rotate_left 1
        · intro w_ hSw; have q0 : w_.cell? ⟨b, off + q, none⟩ = some (.int .u8 z) := hSw; clear hSw; go_simp <;> (with_reducible rfl)
        try simp only [Act.put, List.setIfInBounds_toArray, List.set_cons_zero, List.set_cons_succ, List.getElem_toArray, List.getElem_cons_succ, List.getElem_cons_zero]
        refine wpAnyT_take (i := 14) (v := ?_) rfl (by kernel_rfl) (by kernel_rfl) (by kernel_rfl) (fun _ _ _ h => h) (Or.inl ⟨by rfl, ?_⟩) (by assumption) ?_
        rotate_left 1
        · intro w_ hSw; clear hSw; go_simp <;> (with_reducible rfl)
        try simp only [Act.put, List.setIfInBounds_toArray, List.set_cons_zero, List.set_cons_succ, List.getElem_toArray, List.getElem_cons_succ, List.getElem_cons_zero]
        refine wpAnyT_take (i := 15) (v := ?_) rfl (by kernel_rfl) (by kernel_rfl) (by kernel_rfl) (fun _ _ _ h => h) (Or.inl ⟨by rfl, ?_⟩) (by assumption) ?_
        rotate_left 1
        · intro w_ hSw; clear hSw; go_simp <;> (with_reducible rfl)
        try simp only [Act.put, List.setIfInBounds_toArray, List.set_cons_zero, List.set_cons_succ, List.getElem_toArray, List.getElem_cons_succ, List.getElem_cons_zero]
        refine wpAnyT_take (i := 16) (v := ?_) rfl (by kernel_rfl) (by kernel_rfl) (by kernel_rfl) (fun _ _ _ h => h) (Or.inl ⟨by rfl, ?_⟩) (by assumption) ?_
        rotate_left 1
        · intro w_ hSw; clear hSw; go_simp <;> (with_reducible rfl)
        try simp only [Act.put, List.setIfInBounds_toArray, List.set_cons_zero, List.set_cons_succ, List.getElem_toArray, List.getElem_cons_succ, List.getElem_cons_zero]
        refine wpAnyT_take (i := 17) (v := ?_) rfl (by kernel_rfl) (by kernel_rfl) (by kernel_rfl) (fun _ _ _ h => h) (Or.inl ⟨by rfl, ?_⟩) (by assumption) ?_
        rotate_left 1
        · intro w_ hSw; clear hSw; go_simp <;> (with_reducible rfl)
        try simp only [Act.put, List.setIfInBounds_toArray, List.set_cons_zero, List.set_cons_succ, List.getElem_toArray, List.getElem_cons_succ, List.getElem_cons_zero]
        refine wpAnyT_take (i := 18) (v := ?_) rfl (by kernel_rfl) (by kernel_rfl) (by kernel_rfl) (fun _ _ _ h => h) (Or.inl ⟨by rfl, ?_⟩) (by assumption) ?_
        rotate_left 1
        · intro w_ hSw; clear hSw; go_simp <;> (with_reducible rfl)
        try simp only [Act.put, List.setIfInBounds_toArray, List.set_cons_zero, List.set_cons_succ, List.getElem_toArray, List.getElem_cons_succ, List.getElem_cons_zero]
        refine wpAnyT_take (i := 19) (v := ?_) rfl (by kernel_rfl) (by kernel_rfl) (by kernel_rfl) (fun _ _ _ h => h) (Or.inl ⟨by rfl, ?_⟩) (by assumption) ?_
        rotate_left 1
        · intro w_ hSw; have q0 : w_.cell? ⟨b, off + q, none⟩ = some (.int .u8 z) := hSw; clear hSw; go_simp <;> (with_reducible rfl)
        try simp only [Act.put, List.setIfInBounds_toArray, List.set_cons_zero, List.set_cons_succ, List.getElem_toArray, List.getElem_cons_succ, List.getElem_cons_zero]
        refine wpAnyT_take (i := 20) (v := ?_) rfl (by kernel_rfl) (by kernel_rfl) (by kernel_rfl) (fun _ _ _ h => h) (Or.inl ⟨by rfl, ?_⟩) (by assumption) ?_
        rotate_left 1
        · intro w_ hSw; clear hSw; go_simp <;> (with_reducible rfl)
        try simp only [Act.put, List.setIfInBounds_toArray, List.set_cons_zero, List.set_cons_succ, List.getElem_toArray, List.getElem_cons_succ, List.getElem_cons_zero]
        refine wpAnyT_take (i := 21) (v := ?_) rfl (by kernel_rfl) (by kernel_rfl) (by kernel_rfl) (fun _ _ _ h => h) (Or.inl ⟨by rfl, ?_⟩) (by assumption) ?_
        rotate_left 1
        · intro w_ hSw; clear hSw; go_simp <;> (with_reducible rfl)
        try simp only [Act.put, List.setIfInBounds_toArray, List.set_cons_zero, List.set_cons_succ, List.getElem_toArray, List.getElem_cons_succ, List.getElem_cons_zero]
        refine wpAnyT_take (i := 22) (v := ?_) rfl (by kernel_rfl) (by kernel_rfl) (by kernel_rfl) (fun _ _ _ h => h) (Or.inl ⟨by rfl, ?_⟩) (by assumption) ?_
        rotate_left 1
        · intro w_ hSw; clear hSw; go_simp <;> (with_reducible rfl)
        try simp only [Act.put, List.setIfInBounds_toArray, List.set_cons_zero, List.set_cons_succ, List.getElem_toArray, List.getElem_cons_succ, List.getElem_cons_zero]
        refine wpAnyT_take (i := 23) (v := ?_) rfl (by kernel_rfl) (by kernel_rfl) (by kernel_rfl) (fun _ _ _ h => h) (Or.inl ⟨by rfl, ?_⟩) (by assumption) ?_
        rotate_left 1
        · intro w_ hSw; clear hSw; go_simp <;> (with_reducible rfl)
        try simp only [Act.put, List.setIfInBounds_toArray, List.set_cons_zero, List.set_cons_succ, List.getElem_toArray, List.getElem_cons_succ, List.getElem_cons_zero]
        refine wpAnyT_take (i := 24) (v := ?_) rfl (by kernel_rfl) (by kernel_rfl) (by kernel_rfl) (fun _ _ _ h => h) (Or.inl ⟨by rfl, ?_⟩) (by assumption) ?_
        rotate_left 1
        · intro w_ hSw; clear hSw; go_simp <;> (with_reducible rfl)
        try simp only [Act.put, List.setIfInBounds_toArray, List.set_cons_zero, List.set_cons_succ, List.getElem_toArray, List.getElem_cons_succ, List.getElem_cons_zero]
        refine wpAnyT_take (i := 25) (v := ?_) rfl (by kernel_rfl) (by kernel_rfl) (by kernel_rfl) (fun _ _ _ h => h) (Or.inl ⟨by rfl, ?_⟩) (by assumption) ?_
        rotate_left 1
        · intro w_ hSw; have q0 : w_.cell? ⟨b, off + q, none⟩ = some (.int .u8 z) := hSw; clear hSw; go_simp <;> (with_reducible rfl)
        try simp only [Act.put, List.setIfInBounds_toArray, List.set_cons_zero, List.set_cons_succ, List.getElem_toArray, List.getElem_cons_succ, List.getElem_cons_zero]
        refine wpAnyT_take (i := 26) (v := ?_) rfl (by kernel_rfl) (by kernel_rfl) (by kernel_rfl) (fun _ _ _ h => h) (Or.inl ⟨by rfl, ?_⟩) (by assumption) ?_
        rotate_left 1
        · intro w_ hSw; clear hSw; go_simp <;> (with_reducible rfl)
        try simp only [Act.put, List.setIfInBounds_toArray, List.set_cons_zero, List.set_cons_succ, List.getElem_toArray, List.getElem_cons_succ, List.getElem_cons_zero]
        refine wpAnyT_take (i := 27) (v := ?_) rfl (by kernel_rfl) (by kernel_rfl) (by kernel_rfl) (fun _ _ _ h => h) (Or.inl ⟨by rfl, ?_⟩) (by assumption) ?_
        rotate_left 1
        · intro w_ hSw; clear hSw; go_simp <;> (with_reducible rfl)
        try simp only [Act.put, List.setIfInBounds_toArray, List.set_cons_zero, List.set_cons_succ, List.getElem_toArray, List.getElem_cons_succ, List.getElem_cons_zero]
        refine wpAnyT_take (i := 28) (v := ?_) rfl (by kernel_rfl) (by kernel_rfl) (by kernel_rfl) (fun _ _ _ h => h) (Or.inl ⟨by rfl, ?_⟩) (by assumption) ?_
        rotate_left 1
        · intro w_ hSw; clear hSw; go_simp <;> (with_reducible rfl)
        try simp only [Act.put, List.setIfInBounds_toArray, List.set_cons_zero, List.set_cons_succ, List.getElem_toArray, List.getElem_cons_succ, List.getElem_cons_zero]
        have ⟨hc, hf⟩ := cell_of X1.out (i := 0) rfl
        refine wpAnyT_ready (rs := [29]) (by kernel_rfl) (by simp) ?_
        refine AllReadyT.cons rfl (fun K hK => ?_) AllReadyT.nil
        go_simp
        refine hK.out _ _ (((below1 g1 y0 0 _).cell (p := ⟨b, off + q, none⟩) hbb1).trans hHeld) (fun hHeld => ?_)
        clear hK K
        try simp only [Act.put, List.setIfInBounds_toArray, List.set_cons_zero, List.set_cons_succ, List.getElem_toArray, List.getElem_cons_succ, List.getElem_cons_zero]
        obtain ⟨y1, ey⟩ : ∃ W, y0.setCell ⟨g1, 0, none⟩ (.int .i64 m1) = W := ⟨_, rfl⟩
        have X1 : Hid (Box y1 g1 0 [.int .i64 m1, .int .i64 b1, .int .i64 (bi x)]) := Lib.hid (ey ▸ X1.out.put 0 (by simp) (.int .i64 m1))
        have X2 : Hid (Box y1 g2 0 [.int .i64 a2, .int .i64 b2, .int .i64 (bi y)]) := Lib.hid (ey ▸ Box_aside HNE.out _ X2.out)
        have HB1 : Hid (Below w.heap.size w y1) := Lib.hid (ey ▸ HB1.out.setCell hg1 (.int .i64 m1))
        have es : y1.heap.size = y0.heap.size := by rw [← ey]; simp
        rw [← es] at z1 z2
        rw [ey] at hHeld ⊢
        clear ey es hc hf
        refine wpAnyT_take (i := 30) (v := ?_) rfl (by kernel_rfl) (by kernel_rfl) (by kernel_rfl) (fun _ _ _ h => h) (Or.inl ⟨by rfl, ?_⟩) (by assumption) ?_
        rotate_left 1
        · intro w_ hSw; clear hSw; go_simp <;> (with_reducible rfl)
        try simp only [Act.put, List.setIfInBounds_toArray, List.set_cons_zero, List.set_cons_succ, List.getElem_toArray, List.getElem_cons_succ, List.getElem_cons_zero]
        have ⟨hc, hf⟩ := cell_of X1.out (i := 1) rfl
        refine wpAnyT_ready (rs := [31]) (by kernel_rfl) (by simp) ?_
        refine AllReadyT.cons rfl (fun K hK => ?_) AllReadyT.nil
        go_simp
        refine hK.out _ _ (((below1 g1 y1 1 _).cell (p := ⟨b, off + q, none⟩) hbb1).trans hHeld) (fun hHeld => ?_)
        clear hK K
        try simp only [Act.put, List.setIfInBounds_toArray, List.set_cons_zero, List.set_cons_succ, List.getElem_toArray, List.getElem_cons_succ, List.getElem_cons_zero]
        obtain ⟨y2, ey⟩ : ∃ W, y1.setCell ⟨g1, 1, none⟩ (.int .i64 m2) = W := ⟨_, rfl⟩
        have X1 : Hid (Box y2 g1 0 [.int .i64 m1, .int .i64 m2, .int .i64 (bi x)]) := Lib.hid (ey ▸ X1.out.put 1 (by simp) (.int .i64 m2))
        have X2 : Hid (Box y2 g2 0 [.int .i64 a2, .int .i64 b2, .int .i64 (bi y)]) := Lib.hid (ey ▸ Box_aside HNE.out _ X2.out)
        have HB1 : Hid (Below w.heap.size w y2) := Lib.hid (ey ▸ HB1.out.setCell hg1 (.int .i64 m2))
        have es : y2.heap.size = y1.heap.size := by rw [← ey]; simp
        rw [← es] at z1 z2
        rw [ey] at hHeld ⊢
        clear ey es hc hf
        refine wpAnyT_take (i := 32) (v := ?_) rfl (by kernel_rfl) (by kernel_rfl) (by kernel_rfl) (fun _ _ _ h => h) (Or.inl ⟨by rfl, ?_⟩) (by assumption) ?_
        rotate_left 1
        · intro w_ hSw; clear hSw; go_simp <;> (with_reducible rfl)
        try simp only [Act.put, List.setIfInBounds_toArray, List.set_cons_zero, List.set_cons_succ, List.getElem_toArray, List.getElem_cons_succ, List.getElem_cons_zero]
        have ⟨hc, hf⟩ := cell_of X2.out (i := 0) rfl
        refine wpAnyT_ready (rs := [33]) (by kernel_rfl) (by simp) ?_
        refine AllReadyT.cons rfl (fun K hK => ?_) AllReadyT.nil
        go_simp
        refine hK.out _ _ (((below1 g2 y2 0 _).cell (p := ⟨b, off + q, none⟩) hbb2).trans hHeld) (fun hHeld => ?_)
        clear hK K
        try simp only [Act.put, List.setIfInBounds_toArray, List.set_cons_zero, List.set_cons_succ, List.getElem_toArray, List.getElem_cons_succ, List.getElem_cons_zero]
        obtain ⟨y3, ey⟩ : ∃ W, y2.setCell ⟨g2, 0, none⟩ (.int .i64 m1) = W := ⟨_, rfl⟩
        have X2 : Hid (Box y3 g2 0 [.int .i64 m1, .int .i64 b2, .int .i64 (bi y)]) := Lib.hid (ey ▸ X2.out.put 0 (by simp) (.int .i64 m1))
        have X1 : Hid (Box y3 g1 0 [.int .i64 m1, .int .i64 m2, .int .i64 (bi x)]) := Lib.hid (ey ▸ Box_aside (Ne.symm HNE.out) _ X1.out)
        have HB1 : Hid (Below w.heap.size w y3) := Lib.hid (ey ▸ HB1.out.setCell hg2 (.int .i64 m1))
        have es : y3.heap.size = y2.heap.size := by rw [← ey]; simp
        rw [← es] at z1 z2
        rw [ey] at hHeld ⊢
        clear ey es hc hf
        refine wpAnyT_take (i := 34) (v := ?_) rfl (by kernel_rfl) (by kernel_rfl) (by kernel_rfl) (fun _ _ _ h => h) (Or.inl ⟨by rfl, ?_⟩) (by assumption) ?_
        rotate_left 1
        · intro w_ hSw; clear hSw; go_simp <;> (with_reducible rfl)
        try simp only [Act.put, List.setIfInBounds_toArray, List.set_cons_zero, List.set_cons_succ, List.getElem_toArray, List.getElem_cons_succ, List.getElem_cons_zero]
        have ⟨hc, hf⟩ := cell_of X2.out (i := 1) rfl
        refine wpAnyT_ready (rs := [35]) (by kernel_rfl) (by simp) ?_
        refine AllReadyT.cons rfl (fun K hK => ?_) AllReadyT.nil
        go_simp
        refine hK.out _ _ (((below1 g2 y3 1 _).cell (p := ⟨b, off + q, none⟩) hbb2).trans hHeld) (fun hHeld => ?_)
        clear hK K
        try simp only [Act.put, List.setIfInBounds_toArray, List.set_cons_zero, List.set_cons_succ, List.getElem_toArray, List.getElem_cons_succ, List.getElem_cons_zero]
        obtain ⟨y4, ey⟩ : ∃ W, y3.setCell ⟨g2, 1, none⟩ (.int .i64 m2) = W := ⟨_, rfl⟩
        have X2 : Hid (Box y4 g2 0 [.int .i64 m1, .int .i64 m2, .int .i64 (bi y)]) := Lib.hid (ey ▸ X2.out.put 1 (by simp) (.int .i64 m2))
        have X1 : Hid (Box y4 g1 0 [.int .i64 m1, .int .i64 m2, .int .i64 (bi x)]) := Lib.hid (ey ▸ Box_aside (Ne.symm HNE.out) _ X1.out)
        have HB1 : Hid (Below w.heap.size w y4) := Lib.hid (ey ▸ HB1.out.setCell hg2 (.int .i64 m2))
        have es : y4.heap.size = y3.heap.size := by rw [← ey]; simp
        rw [← es] at z1 z2
        rw [ey] at hHeld ⊢
        clear ey es hc hf
        refine wpAnyT_done (by kernel_rfl) ?_ _
        go_upto_region 10 with (fail)
        have S1 : Hid (Calls Tryd.prog 7 #[.int .i64 17, .slice (some ⟨g1, 0, none⟩) 3 c1] y4 (GotB 3 [m1, m2, bi (m1 == 1 || (x && !(m2 == 2)))] y4)) := Lib.hid (sr_next L1.out L2.out ▸ step_sr m1 m2 (bi x) (rd_box (n := 3) (L := [m1, m2, bi x]) X1.out z1 HC.out.1 HC.out.2.1 rfl) (Nat.le_refl _) (bit_in L1.out) (bit2_in L2.out) (bi_in x) (LD.out.below HB1.out))
        have hgw1 := z1
        go_wp2_with (go_at_call 7; fail)
        with_reducible refine (S1.out).mono ?_
        rintro e y5 ⟨h1, d1, rfl, hh1, hz5, hd1, hdm1, _, xx1, hb5⟩
        have Y1 := Lib.hid xx1
        have X2 := Lib.hid (X2.out.below hb5 z2)
        have z25 := Nat.lt_of_lt_of_le z2 hb5.size
        have HB5 := Lib.hid (HB1.out.trans (hb5.mono HB1.out.size))
        have N5 := Lib.hid hh1
        have D1 := Lib.hid (⟨hd1, hdm1⟩ : 3 ≤ d1 ∧ d1 ≤ maxLen)
        have H5 := Lib.hid HB1.out.size
        have H55 := Lib.hid hb5.size
        clear xx1 hb5 hh1 hd1 hdm1 S1
        have S2 : Hid (Calls Tryd.prog 7 #[.int .i64 18, .slice (some ⟨g2, 0, none⟩) 3 c2] y5 (GotB 3 [m1, m2, bi (!(m2 == 2) && (m1 == 1 || y))] y5)) := Lib.hid (rs_next L1.out L2.out ▸ step_rs m1 m2 (bi y) (rd_box (n := 3) (L := [m1, m2, bi y]) X2.out z25 HC.out.2.2.1 HC.out.2.2.2 rfl) (Nat.le_refl _) (bit_in L1.out) (bit2_in L2.out) (bi_in y) (LD.out.below HB5.out))
        go_wp2_with (go_at_call 7; fail)
        with_reducible refine (S2.out).mono ?_
        rintro e y6 ⟨h2, d2, rfl, hh2, hz6, hd2, hdm2, _, xx2, hb6⟩
        have Y1 := Lib.hid (Y1.out.below hb6 hz5)
        have Y2 := Lib.hid xx2
        have HB6 := Lib.hid (HB5.out.trans (hb6.mono HB5.out.size))
        have N6 := Lib.hid hh2
        have D2 := Lib.hid (⟨hd2, hdm2⟩ : 3 ≤ d2 ∧ d2 ≤ maxLen)
        have H66 := Lib.hid hb6.size
        clear xx2 hb6 hh2 hd2 hdm2 S2
        go_upto_region 11 with (fail)
        clear k1 k2 e1 e2 hHeld hck1 z1 z2
        rcases L1.out with rfl | rfl <;> rcases L2.out with rfl | rfl <;> cases x <;> cases y
        all_goals
          have t1 := (cell_of Y1.out (i := 2) rfl).1
          have t2 := (cell_of Y2.out (i := 2) rfl).1
          simp [bi] at t1 t2
          go_wp2_with fail
          go_roundw
          case rel =>
            have n1 := N5.out
            have n2 := N6.out
            have n3 := H5.out
            have n4 := H55.out
            have n5 := H66.out
            exact ⟨q + 1, h1, d1, h2, d2, _, _, _, _, _, _, by omega, by omega, rfl, rfl, rfl, rfl, by go_num, Y1.out, Y2.out, by omega, by omega, by omega, by omega, hz6, D1.out.1, D1.out.2, D2.out.1, D2.out.2, HB6.out⟩
          case measure => simp [intOf]; omega
      · have : q = 300 := by omega
        subst this
        go_wp2
        go_ret
        exact ⟨rfl, HB.out⟩
    · have : q = len := by omega
      subst this
      go_wp2
      go_ret
      exact ⟨rfl, HB.out⟩
end Go.Proofs.YtkfmblebobjgbaaDoor.stdFlips
