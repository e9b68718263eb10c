/- The walk of the law DriveTakes: any limit, any count and any rows of bytes: it returns true, and what was in memory is as it was. -/
import Derived.Test.YtdfgjfojneoljaaJAwake
import Derived.Test.YtdfgjfojneoljaaIsRows
namespace Go.Proofs.Ytdfgjfojneoljaa.driveTakes
open Go.ChangeShapes Go.WideShapes Go.ChangeAt Go.RowKit Go.Proofs.Ytdfgjfojneoljaa.s Go.Proofs.Ytdfgjfojneoljaa.t Go.Proofs.Ytdfgjfojneoljaa.j Go.Proofs.Ytdfgjfojneoljaa
set_option linter.unusedVariables false

theorem wide {a : Int} (h : (Lit.int .i64 a).wf = true) : -9223372036854775808 ≤ a ∧ a ≤ 9223372036854775807 := k.wf64 h
theorem rS_in (l : List (BitVec 8)) : 0 ≤ rS signF 127 l ∧ rS signF 127 l ≤ 255 := u.rS_in signF 127 l
theorem st_in (x : Int) : 0 ≤ o.st x ∧ o.st x ≤ 4 := by
  unfold o.st
  repeat (first | omega | split)
theorem took_right {d : D} (h : RightD d) (S X P : Int) (h0 : 0 ≤ S) (h1 : S ≤ 255) : RightD (tookD d S X P) := by
  obtain ⟨a1, a2, a3, a4, a5, a6, a7, a8, a9, a10, a11⟩ := h
  have hs := st_in X
  exact ⟨v.step_right a1, v.step_right a2, a3, v.step_right a4, a5, hs.1, hs.2, a8, a9, ⟨a10.1, a10.2.1, by show (0 : Int) ≤ 0; omega, by show (0 : Int) ≤ d.lim; have := a10.1; omega, by show (-1 : Int) ≤ S; omega, h1⟩, .inl rfl⟩
theorem missed_right {d : D} (h : RightD d) : RightD (missedD d) := by
  obtain ⟨a1, a2, a3, a4, a5, a6, a7, a8, a9, a10, a11⟩ := h
  obtain ⟨b1, b2, b3, b4, b5, b6⟩ := a10
  refine ⟨a1, a2, a3, a4, a5, a6, a7, a8, a9, ⟨b1, b2, ?_, ?_, b5, b6⟩, a11⟩
  · show 0 ≤ (if d.mis < d.lim then d.mis + 1 else d.mis)
    split <;> omega
  · show (if d.mis < d.lim then d.mis + 1 else d.mis) ≤ d.lim
    split <;> omega
theorem missed_up {d : D} (h : RightD d) : 0 < (if d.mis < d.lim then d.mis + 1 else d.mis) := by
  obtain ⟨_, _, _, _, _, _, _, _, _, a10, _⟩ := h
  obtain ⟨b1, b2, b3, b4, b5, b6⟩ := a10
  split <;> omega
/-- a frame doesn't count again -/
theorem not_again (l : List (BitVec 8)) : cnt (rS signF 127 l) l = false := cnt_no fun h => by
  have hs := rS_in l
  rcases h.2 with h2 | ⟨_, h2, _⟩
  · omega
  · rw [Int.sub_self] at h2
    omega
theorem wideD {d : D} (h : RightD d) : WideD d := by
  obtain ⟨a1, a2, a3, a4, a5, _⟩ := h
  exact ⟨⟨by have := a1.1; omega, by have := a1.2.1; omega⟩, ⟨by have := a2.1; omega, by have := a2.2.1; omega⟩, ⟨by have := a4.1; omega, by have := a4.2.1; omega⟩⟩
theorem right_is {d : D} (h : RightD d) (w : World) : Calls Try.prog 10 #[dV d] w fun e w' => e = .returned (.bool true) ∧ Below w.heap.size w w' := by
  have h1 := right_any d (wideD h) w
  rwa [right_yes h] at h1
set_option maxRecDepth 100000 in
set_option maxHeartbeats 4000000 in
theorem walk (a0 a1 : Int) (a2 : Option Addr) (len2 cap2 : Nat) (A2 : Nat → Option Addr) (L2 C2 : Nat → Nat) (Z2 : Nat → List Int) (w : World) (w0 : (Lit.int .i64 a0).wf = true) (w1 : (Lit.int .i64 a1).wf = true) (w2 : IsRows .u8 w a2 len2 cap2 A2 L2 C2 Z2) :
    Calls Try.prog 4 #[.int .i64 a0, .int .i64 a1, .slice a2 len2 cap2] w fun e w' => e = .returned (.bool true) ∧ Below w.heap.size w w' := by
  have ha0 := wide w0
  have ha1 := wide w1
  have W2 := Lib.hid w2
  clear w0 w1 w2
  have HK := Lib.hid fun W => awake_any W
  by_cases hl : 1 ≤ a0 ∧ a0 ≤ 100 ∧ 1 ≤ a1 ∧ a1 ≤ 20
  · obtain ⟨l1, l2, l3, l4⟩ := hl
    have HN := Lib.hid fun W => new_yes a0 a1 l1 l2 l3 l4 W
    unfold newD dV at HN
    dsimp only at HN
    have hlen : (len2 : Int) ≤ 9223372036854775807 := by
      rcases W2.out with ⟨_, h, _⟩ | ⟨x, _, h, h2, _⟩
      · omega
      · unfold maxLen at h2; omega
    have hR0 : RightD (newD a0 a1) := ⟨⟨l3, l4, by show (0 : Int) ≤ 0; omega, by show (0 : Int) ≤ a1 - 1; omega⟩, ⟨l3, l4, by show (0 : Int) ≤ 0; omega, by show (0 : Int) ≤ a1 - 1; omega⟩, rfl, ⟨l3, l4, by show (0 : Int) ≤ 0; omega, by show (0 : Int) ≤ a1 - 1; omega⟩, rfl, by show (0 : Int) ≤ 0; omega, by show (0 : Int) ≤ 4; omega, by show (0 : Int) ≤ 0; omega, by show (0 : Int) ≤ 255; omega, ⟨l1, l2, by show (0 : Int) ≤ 0; omega, by show (0 : Int) ≤ a0; omega, by show (-1 : Int) ≤ -1; omega, by show (-1 : Int) ≤ 255; omega⟩, .inr rfl⟩
    have HR0 := Lib.hid hR0
    clear hR0
    go_enter Try.func4, Try.ntmps4
    go_wp2_with (first
      | (go_at_call 7; ((with_reducible refine (HK.out _).mono ?_); rintro e w2 ⟨rfl, hb⟩; have H2 := Lib.hid hb; clear hb))
      | (go_at_call 8; ((with_reducible refine (HN.out _).mono ?_); rintro e w3 ⟨rfl, hb⟩; have H3 := Lib.hid (H2.out.trans (hb.mono H2.out.size)); clear hb)))
    have hg : w.heap.size ≤ w3.heap.size := H3.out.size
    obtain ⟨x1, _, x3⟩ := k.boxes1 (w := w3) (c1 := #[.int .i64 0, .int .i64 a0, .int .i64 0, .int .i64 (-1), .int .i64 a1, .bool false, .int .i64 0, .int .i64 a1, .bool false, .int .i64 0, .int .i64 a1, .bool false, .int .i64 0, .int .i64 0, .bool false, .int .i64 0]) (t1 := 27) (Below.refl _ _)
    have x2 : Below w.heap.size w (w3.alloc (.cells #[.int .i64 0, .int .i64 a0, .int .i64 0, .int .i64 (-1), .int .i64 a1, .bool false, .int .i64 0, .int .i64 a1, .bool false, .int .i64 0, .int .i64 a1, .bool false, .int .i64 0, .int .i64 0, .bool false, .int .i64 0] 27)) := H3.out.alloc hg _
    have X3 := Lib.hid x1
    have H4 := Lib.hid x2
    have z3 := x3
    clear x1 x2 x3
    generalize w3.alloc (.cells #[.int .i64 0, .int .i64 a0, .int .i64 0, .int .i64 (-1), .int .i64 a1, .bool false, .int .i64 0, .int .i64 a1, .bool false, .int .i64 0, .int .i64 a1, .bool false, .int .i64 0, .int .i64 0, .bool false, .int .i64 0] 27) = w4 at X3 H4 z3 ⊢
    generalize w3.heap.size = g at *
    go_loopw [9] (fun i wr => ∃ (q : Nat) (d : D), q ≤ len2 ∧ q ≤ 300 ∧ i = .int .i64 q ∧ RightD d ∧ k.Box wr g 0 (cellsD d) ∧ Below w.heap.size w wr ∧ g < wr.heap.size) (fun i _ => len2 - (intOf i).toNat)
    case atStart => exact ⟨0, newD a0 a1, Nat.zero_le _, by omega, rfl, HR0.out, X3.out, H4.out, z3⟩
    case round =>
      clear X3 H3 H4 z3 HR0 HK HN
      obtain ⟨q, d, hq, hq3, rfl, hR, hX, hH, hz⟩ := hrel
      by_cases hlt : q < len2
      · by_cases hlt3 : q < 300
        · obtain ⟨b, off, rfl, hbw, hcap, hcm, hrow⟩ := W2.out.row (by omega)
          have ⟨hcell, hir⟩ := hrow q hlt
          obtain ⟨lr, hlr, hBy, hlc, hcmx, _, _⟩ := bytes_of hir
          have hck : wr.cell? ⟨b, off + q, none⟩ = some (.slice (A2 q) (L2 q) (C2 q)) := (hH.cell (p := ⟨b, off + q, none⟩) hbw).trans hcell
          have hLn : (L2 q : Int) ≤ 9223372036854775807 := by unfold maxLen at hcmx; omega
          clear hrow hir hcell
          by_cases h40 : 40 < L2 q
          · have H := Lib.hid hH
            clear hlr hBy hR hX hH
            go_wp2
            go_ret
            exact ⟨rfl, H.out⟩
          · have hl40 : lr.length ≤ 10000 := by omega
            have HY := Lib.hid fun (W : World) (hb : Below wr.heap.size wr W) => (hBy.below (hH.trans (hb.mono hH.size)))
            clear hBy
            obtain ⟨st, lim, mis, last, pc, pv, po, mc, mv, mo, hc, hv, ho, act, kn, sq⟩ := d
            unfold cellsD at hX
            dsimp only at hX
            have hsq := hR.2.2.2.2.2.2.2.1
            have X := Lib.hid hX
            have H := Lib.hid hH
            clear hX hH
            have HC := Lib.hid fun (d : D) (hd : RightD d) (W : World) (hb : Below wr.heap.size wr W) => come_ok d hd lr (L2 q) hlr hl40 w.heap.size (A2 q) (C2 q) hlc hcmx W (HY.out W hb) (Nat.le_trans H.out.size hb.size)
            have hbb : b < wr.heap.size := by have := H.out.size; omega
            cases hcn : cnt last lr
            · have hn : comeD ⟨st, lim, mis, last, pc, pv, po, mc, mv, mo, hc, hv, ho, act, kn, sq⟩ lr = ⟨st, lim, if mis < lim then mis + 1 else mis, last, pc, pv, po, mc, mv, mo, hc, hv, ho, act, kn, sq⟩ := come_no hcn
              have hRn : RightD ⟨st, lim, if mis < lim then mis + 1 else mis, last, pc, pv, po, mc, mv, mo, hc, hv, ho, act, kn, sq⟩ := missed_right hR
              have hm0 := missed_up hR
              dsimp only at hm0
              have hc1 := HC.out _ hR
              rw [hn] at hc1
              unfold dV at hc1
              dsimp only at hc1
              generalize (if mis < lim then mis + 1 else mis) = m2 at hc1 hRn hm0 hn
              have HC1 := Lib.hid hc1
              have hc2 := HC.out _ hRn
              have ha : comeD ⟨st, lim, m2, last, pc, pv, po, mc, mv, mo, hc, hv, ho, act, kn, sq⟩ lr = ⟨st, lim, if m2 < lim then m2 + 1 else m2, last, pc, pv, po, mc, mv, mo, hc, hv, ho, act, kn, sq⟩ := come_no hcn
              rw [ha] at hc2
              unfold dV at hc2
              dsimp only at hc2
              generalize (if m2 < lim then m2 + 1 else m2) = m3 at hc2
              have HC2 := Lib.hid hc2
              have HRt := Lib.hid fun W => right_is hRn W
              unfold dV at HRt
              dsimp only at HRt
              have HRn := Lib.hid hRn
              clear hc2 ha hn HC hcn
              clear hc1 hRn hR
              go_upto_region 11 with (fail)
              go_cut [10] from 23 to 78 (fun p wx => ∃ gx : Nat, p = .pointer (some ⟨gx, 0, none⟩) ∧ k.Box wx gx 0 [.int .i64 st, .int .i64 lim, .int .i64 m2, .int .i64 last, .int .i64 pc, .bool pv, .int .i64 po, .int .i64 mc, .bool mv, .int .i64 mo, .int .i64 hc, .bool hv, .int .i64 ho, .int .i64 act, .bool kn, .int .i64 sq] ∧ wr.heap.size ≤ gx ∧ gx < wx.heap.size ∧ Below wr.heap.size wr wx)
              case first =>
                refine wp_region_held_drew (S := (fun w' => World.rangeAt w' g 0 [.int .i64 st, .int .i64 lim, .int .i64 mis, .int .i64 last, .int .i64 pc, .bool pv, .int .i64 po, .int .i64 mc, .bool mv, .int .i64 mo, .int .i64 hc, .bool hv, .int .i64 ho, .int .i64 act, .bool kn, .int .i64 sq] ∧ World.cell? w' ⟨b, off + q, none⟩ = some (.slice (A2 q) (L2 q) (C2 q)))) (by kernel_rfl) ⟨X.out.range, hck⟩ (fun hHeld => ?_)
                refine wpAnyH_take (i := 0) rfl (by kernel_rfl) (by kernel_rfl) (by kernel_rfl) (fun _ _ _ h => h) (yieldsIf_load_mid (by rfl) 27 (.tmp 7) rfl g 0 rfl [.int .i64 st, .int .i64 lim, .int .i64 mis, .int .i64 last, .int .i64 pc, .bool pv, .int .i64 po, .int .i64 mc, .bool mv, .int .i64 mo, .int .i64 hc, .bool hv, .int .i64 ho, .int .i64 act, .bool kn, .int .i64 sq] _ (fun _ h => h.1) rfl rfl (by kernel_rfl)) (by assumption) ?_
                try simp only [Act.put, List.setIfInBounds_toArray, List.set_cons_zero, List.set_cons_succ, List.getElem_toArray, List.getElem_cons_zero]
                refine wpAnyH_take (i := 1) (v := ?_) rfl (by kernel_rfl) (by kernel_rfl) (by kernel_rfl) (fun _ _ _ h => h) (Or.inl ⟨by rfl, ?_⟩) (by assumption) ?_
                rotate_left 1
                · intro w hSw; have hSw2 := hSw.2; clear hSw; go_simp <;> (with_reducible rfl)
                try simp only [Act.put, List.setIfInBounds_toArray, List.set_cons_zero, List.set_cons_succ, List.getElem_toArray, List.getElem_cons_succ, List.getElem_cons_zero]
                refine wpAnyH_take (i := 2) (v := ?_) rfl (by kernel_rfl) (by kernel_rfl) (by kernel_rfl) (fun _ _ _ h => h) (Or.inl ⟨by rfl, ?_⟩) (by assumption) ?_
                rotate_left 1
                · intro w hSw; have hSw2 := hSw.2; clear hSw; go_simp <;> (with_reducible rfl)
                try simp only [Act.put, List.setIfInBounds_toArray, List.set_cons_zero, List.set_cons_succ, List.getElem_toArray, List.getElem_cons_succ, List.getElem_cons_zero]
                refine wpAnyH_take (i := 3) (v := ?_) rfl (by kernel_rfl) (by kernel_rfl) (by kernel_rfl) (fun _ _ _ h => h) (Or.inl ⟨by rfl, ?_⟩) (by assumption) ?_
                rotate_left 1
                · intro w hSw; have hSw2 := hSw.2; clear hSw; go_simp <;> (with_reducible rfl)
                try simp only [Act.put, List.setIfInBounds_toArray, List.set_cons_zero, List.set_cons_succ, List.getElem_toArray, List.getElem_cons_succ, List.getElem_cons_zero]
                refine wpAnyH_take (i := 4) (v := ?_) rfl (by kernel_rfl) (by kernel_rfl) (by kernel_rfl) (fun _ _ _ h => h) (Or.inl ⟨by rfl, ?_⟩) (by assumption) ?_
                rotate_left 1
                · intro w hSw; have hSw2 := hSw.2; clear hSw; go_simp <;> (with_reducible rfl)
                try simp only [Act.put, List.setIfInBounds_toArray, List.set_cons_zero, List.set_cons_succ, List.getElem_toArray, List.getElem_cons_succ, List.getElem_cons_zero]
                refine wpAnyH_ready (rs := [5, 6]) (by kernel_rfl) (by simp) ?_
                refine AllReadyH.cons rfl (fun K hK => ?_) (AllReadyH.cons rfl (fun K hK => ?_) AllReadyH.nil)
                · go_simp
                  (go_at_call 11; (refine (HC1.out _ (Below.refl _ _).drew).mono ?_); rintro e w5 ⟨rfl, hb0⟩)
                  have hb : Below wr.heap.size wr w5 := (Below.refl _ _).drew.trans hb0
                  go_wp2_with fail
                  refine hK.out _ _ ⟨(X.out.below hb (by omega)).range, (hb.cell (p := ⟨b, off + q, none⟩) hbb).trans hck⟩ (fun hHeld => ?_)
                  clear hK K
                  try simp only [Act.put, List.setIfInBounds_toArray, List.set_cons_zero, List.set_cons_succ, List.getElem_toArray, List.getElem_cons_succ, List.getElem_cons_zero]
                  refine wpAnyH_ready (rs := [6]) (by kernel_rfl) (by simp) ?_
                  refine AllReadyH.cons rfl (fun K hK => ?_) AllReadyH.nil
                  go_simp
                  have ha : Below w5.heap.size w5 (w5.alloc (.cells #[.int .i64 0, .int .i64 0, .int .i64 0, .int .i64 0, .int .i64 0, .bool false, .int .i64 0, .int .i64 0, .bool false, .int .i64 0, .int .i64 0, .bool false, .int .i64 0, .int .i64 0, .bool false, .int .i64 0] 27)) := (Below.refl _ _).alloc (Nat.le_refl _) _
                  have hab := hb.trans (ha.mono hb.size)
                  refine hK.out _ _ ⟨(X.out.below hab (by omega)).range, (hab.cell (p := ⟨b, off + q, none⟩) hbb).trans hck⟩ (fun hHeld => ?_)
                  have hzb := k.Box.new w5 #[.int .i64 0, .int .i64 0, .int .i64 0, .int .i64 0, .int .i64 0, .bool false, .int .i64 0, .int .i64 0, .bool false, .int .i64 0, .int .i64 0, .bool false, .int .i64 0, .int .i64 0, .bool false, .int .i64 0] 27
                  have hzz : w5.heap.size < (w5.alloc (.cells #[.int .i64 0, .int .i64 0, .int .i64 0, .int .i64 0, .int .i64 0, .bool false, .int .i64 0, .int .i64 0, .bool false, .int .i64 0, .int .i64 0, .bool false, .int .i64 0, .int .i64 0, .bool false, .int .i64 0] 27)).heap.size := by simp
                  have hzo : wr.heap.size ≤ w5.heap.size := hb.size
                  generalize w5.alloc (.cells #[.int .i64 0, .int .i64 0, .int .i64 0, .int .i64 0, .int .i64 0, .bool false, .int .i64 0, .int .i64 0, .bool false, .int .i64 0, .int .i64 0, .bool false, .int .i64 0, .int .i64 0, .bool false, .int .i64 0] 27) = wz at hab hzb hzz ⊢
                  generalize w5.heap.size = gn at hzb hzz hzo ⊢
                  clear hK K ha
                  try simp only [Act.put, List.setIfInBounds_toArray, List.set_cons_zero, List.set_cons_succ, List.getElem_toArray, List.getElem_cons_succ, List.getElem_cons_zero]
                  refine wpAnyH_ready (rs := [7]) (by kernel_rfl) (by simp) ?_
                  refine AllReadyH.cons rfl (fun K hK => ?_) AllReadyH.nil
                  rw [if_pos (by rfl)]
                  have X7 := X.out.below hab (by omega)
                  obtain ⟨W, hW, h1, h2, h3, h5⟩ := k.stored (us := [.int .i64 st, .int .i64 lim, .int .i64 m2, .int .i64 last, .int .i64 pc, .bool pv, .int .i64 po, .int .i64 mc, .bool mv, .int .i64 mo, .int .i64 hc, .bool hv, .int .i64 ho, .int .i64 act, .bool kn, .int .i64 sq]) hzb rfl
                  refine wp_store_mid 27 (.tmp 10) (.tmp 44) rfl gn 0 #[.int .i64 st, .int .i64 lim, .int .i64 m2, .int .i64 last, .int .i64 pc, .bool pv, .int .i64 po, .int .i64 mc, .bool mv, .int .i64 mo, .int .i64 hc, .bool hv, .int .i64 ho, .int .i64 act, .bool kn, .int .i64 sq] rfl rfl (k.there_of hzb rfl) (by kernel_rfl) (by simp [Value.oneCell']) ?_
                  change K _ (World.setCells _ _ _ [.int .i64 st, .int .i64 lim, .int .i64 m2, .int .i64 last, .int .i64 pc, .bool pv, .int .i64 po, .int .i64 mc, .bool mv, .int .i64 mo, .int .i64 hc, .bool hv, .int .i64 ho, .int .i64 act, .bool kn, .int .i64 sq])
                  rw [hW]
                  have hbw : Below wr.heap.size wr W := hab.trans (h3 _ hzo)
                  have hsz : gn < W.heap.size := by omega
                  refine hK.out _ _ ⟨(X.out.below hbw (by omega)).range, (hbw.cell (p := ⟨b, off + q, none⟩) hbb).trans hck⟩ (fun hHeld => ?_)
                  clear hK K hW h2 h3 h5 hzb hab
                  try simp only [Act.put, List.getElem_toArray, List.getElem_cons_succ, List.getElem_cons_zero]
                  refine wpAnyH_done (by kernel_rfl) ?_ _
                  go_wp2_with fail
                  go_meet
                  case rel => exact ⟨_, rfl, h1, hzo, hsz, hbw⟩
                · go_simp
                  have ha : Below wr.heap.size wr ((wr.alloc (.cells #[.int .i64 0, .int .i64 0, .int .i64 0, .int .i64 0, .int .i64 0, .bool false, .int .i64 0, .int .i64 0, .bool false, .int .i64 0, .int .i64 0, .bool false, .int .i64 0, .int .i64 0, .bool false, .int .i64 0] 27)).drew) := ((Below.refl _ _).alloc (Nat.le_refl _) _).drew
                  refine hK.out _ _ ⟨(X.out.below ha (by omega)).range, (ha.cell (p := ⟨b, off + q, none⟩) hbb).trans hck⟩ (fun hHeld => ?_)
                  clear hK K
                  try simp only [Act.put, List.setIfInBounds_toArray, List.set_cons_zero, List.set_cons_succ, List.getElem_toArray, List.getElem_cons_succ, List.getElem_cons_zero]
                  refine wpAnyH_ready (rs := [5]) (by kernel_rfl) (by simp) ?_
                  refine AllReadyH.cons rfl (fun K hK => ?_) AllReadyH.nil
                  go_simp
                  (go_at_call 11; (refine (HC1.out _ ha).mono ?_); rintro e wz ⟨rfl, hb0⟩)
                  have hab : Below wr.heap.size wr wz := ha.trans (hb0.mono ha.size)
                  have hzb : k.Box wz wr.heap.size 0 [.int .i64 0, .int .i64 0, .int .i64 0, .int .i64 0, .int .i64 0, .bool false, .int .i64 0, .int .i64 0, .bool false, .int .i64 0, .int .i64 0, .bool false, .int .i64 0, .int .i64 0, .bool false, .int .i64 0] := (k.Box.new wr #[.int .i64 0, .int .i64 0, .int .i64 0, .int .i64 0, .int .i64 0, .bool false, .int .i64 0, .int .i64 0, .bool false, .int .i64 0, .int .i64 0, .bool false, .int .i64 0, .int .i64 0, .bool false, .int .i64 0] 27).below ((Below.refl _ _).drew.trans hb0) (by simp)
                  have hzz : wr.heap.size < wz.heap.size := by have := hb0.size; simp at this; omega
                  go_wp2_with fail
                  refine hK.out _ _ ⟨(X.out.below hab (by omega)).range, (hab.cell (p := ⟨b, off + q, none⟩) hbb).trans hck⟩ (fun hHeld => ?_)
                  obtain ⟨gn, hgn⟩ : ∃ gn, wr.heap.size = gn := ⟨_, rfl⟩
                  have hzo : wr.heap.size ≤ gn := Nat.le_of_eq hgn
                  rw [hgn] at hzb hzz ⊢
                  clear hK K ha hb0 hgn
                  try simp only [Act.put, List.setIfInBounds_toArray, List.set_cons_zero, List.set_cons_succ, List.getElem_toArray, List.getElem_cons_succ, List.getElem_cons_zero]
                  refine wpAnyH_ready (rs := [7]) (by kernel_rfl) (by simp) ?_
                  refine AllReadyH.cons rfl (fun K hK => ?_) AllReadyH.nil
                  rw [if_pos (by rfl)]
                  have X7 := X.out.below hab (by omega)
                  obtain ⟨W, hW, h1, h2, h3, h5⟩ := k.stored (us := [.int .i64 st, .int .i64 lim, .int .i64 m2, .int .i64 last, .int .i64 pc, .bool pv, .int .i64 po, .int .i64 mc, .bool mv, .int .i64 mo, .int .i64 hc, .bool hv, .int .i64 ho, .int .i64 act, .bool kn, .int .i64 sq]) hzb rfl
                  refine wp_store_mid 27 (.tmp 10) (.tmp 44) rfl gn 0 #[.int .i64 st, .int .i64 lim, .int .i64 m2, .int .i64 last, .int .i64 pc, .bool pv, .int .i64 po, .int .i64 mc, .bool mv, .int .i64 mo, .int .i64 hc, .bool hv, .int .i64 ho, .int .i64 act, .bool kn, .int .i64 sq] rfl rfl (k.there_of hzb rfl) (by kernel_rfl) (by simp [Value.oneCell']) ?_
                  change K _ (World.setCells _ _ _ [.int .i64 st, .int .i64 lim, .int .i64 m2, .int .i64 last, .int .i64 pc, .bool pv, .int .i64 po, .int .i64 mc, .bool mv, .int .i64 mo, .int .i64 hc, .bool hv, .int .i64 ho, .int .i64 act, .bool kn, .int .i64 sq])
                  rw [hW]
                  have hbw : Below wr.heap.size wr W := hab.trans (h3 _ hzo)
                  have hsz : gn < W.heap.size := by omega
                  refine hK.out _ _ ⟨(X.out.below hbw (by omega)).range, (hbw.cell (p := ⟨b, off + q, none⟩) hbb).trans hck⟩ (fun hHeld => ?_)
                  clear hK K hW h2 h3 h5 hzb hab
                  try simp only [Act.put, List.getElem_toArray, List.getElem_cons_succ, List.getElem_cons_zero]
                  refine wpAnyH_done (by kernel_rfl) ?_ _
                  go_wp2_with fail
                  go_meet
                  case rel => exact ⟨_, rfl, h1, hzo, hsz, hbw⟩
              case rest =>
                obtain ⟨g5, rfl, x5, hg5, hz5, hb5⟩ := hcut
                have X5 := Lib.hid (X.out.below hb5 hz)
                have N5 := Lib.hid x5
                have B5 := Lib.hid hb5
                have hck5 : wc.cell? ⟨b, off + q, none⟩ = some (.slice (A2 q) (L2 q) (C2 q)) := (hb5.cell (p := ⟨b, off + q, none⟩) hbb).trans hck
                have hgg : g < g5 := by omega
                clear x5 hb5 X hck
                go_upto_region 12 with (fail)
                go_step
                refine wpList_load_mid rfl 27 (.tmp 10) rfl g5 0 rfl [.int .i64 st, .int .i64 lim, .int .i64 m2, .int .i64 last, .int .i64 pc, .bool pv, .int .i64 po, .int .i64 mc, .bool mv, .int .i64 mo, .int .i64 hc, .bool hv, .int .i64 ho, .int .i64 act, .bool kn, .int .i64 sq] _ N5.out.range rfl rfl (by kernel_rfl) ?_
                go_upto_region 14 with (go_at_call 10; ((with_reducible refine (HRt.out _).mono ?_); rintro e w7 ⟨rfl, hb⟩; have X7 := Lib.hid (X5.out.below hb (by omega)); have N7 := Lib.hid (N5.out.below hb hz5); have hck7 := (hb.cell (p := ⟨b, off + q, none⟩) (show b < wc.heap.size by omega)).trans hck5; have B7 := Lib.hid (B5.out.trans (hb.mono B5.out.size)); have hz7 := Nat.lt_of_lt_of_le hz5 hb.size; clear hb hck5; have ⟨xc15, xf15⟩ := k.cell_of X7.out (i := 15) rfl; have ⟨nc15, nf15⟩ := k.cell_of N7.out (i := 15) rfl; have ⟨nc2, nf2⟩ := k.cell_of N7.out (i := 2) rfl))
                have hdm : decide (0 < m2) = true := decide_eq_true hm0
                go_upto_region 15 with (fail)
                clear xc15 xf15 nc15 nf15 nc2 nf2 hdm
                go_step
                refine wpList_load_mid rfl 27 (.tmp 10) rfl g5 0 rfl [.int .i64 st, .int .i64 lim, .int .i64 m2, .int .i64 last, .int .i64 pc, .bool pv, .int .i64 po, .int .i64 mc, .bool mv, .int .i64 mo, .int .i64 hc, .bool hv, .int .i64 ho, .int .i64 act, .bool kn, .int .i64 sq] _ N7.out.range rfl rfl (by kernel_rfl) ?_
                go_upto_region 16 with (fail)
                have ha : Below w7.heap.size w7 (w7.alloc (.cells #[.int .i64 st, .int .i64 lim, .int .i64 m2, .int .i64 last, .int .i64 pc, .bool pv, .int .i64 po, .int .i64 mc, .bool mv, .int .i64 mo, .int .i64 hc, .bool hv, .int .i64 ho, .int .i64 act, .bool kn, .int .i64 sq] 27)) := (Below.refl _ _).alloc (Nat.le_refl _) _
                have m8 := k.Box.new w7 #[.int .i64 st, .int .i64 lim, .int .i64 m2, .int .i64 last, .int .i64 pc, .bool pv, .int .i64 po, .int .i64 mc, .bool mv, .int .i64 mo, .int .i64 hc, .bool hv, .int .i64 ho, .int .i64 act, .bool kn, .int .i64 sq] 27
                have x8 := X7.out.below ha (by omega)
                have n8 := N7.out.below ha hz7
                have hck8 := (ha.cell (p := ⟨b, off + q, none⟩) (show b < w7.heap.size by have := B7.out.size; omega)).trans hck7
                have b8 := B7.out.trans (ha.mono B7.out.size)
                have hz8 : w7.heap.size < (w7.alloc (.cells #[.int .i64 st, .int .i64 lim, .int .i64 m2, .int .i64 last, .int .i64 pc, .bool pv, .int .i64 po, .int .i64 mc, .bool mv, .int .i64 mo, .int .i64 hc, .bool hv, .int .i64 ho, .int .i64 act, .bool kn, .int .i64 sq] 27)).heap.size := by simp
                have hgm : g5 < w7.heap.size := hz7
                generalize w7.alloc (.cells #[.int .i64 st, .int .i64 lim, .int .i64 m2, .int .i64 last, .int .i64 pc, .bool pv, .int .i64 po, .int .i64 mc, .bool mv, .int .i64 mo, .int .i64 hc, .bool hv, .int .i64 ho, .int .i64 act, .bool kn, .int .i64 sq] 27) = w8 at m8 x8 n8 hck8 b8 hz8 ⊢
                have hz0 : wr.heap.size ≤ w7.heap.size := B7.out.size
                clear ha
                generalize w7.heap.size = gm at m8 hz8 hgm hz0 ⊢
                have M8 : Hid (k.Box w8 gm 0 [.int .i64 st, .int .i64 lim, .int .i64 m2, .int .i64 last, .int .i64 pc, .bool pv, .int .i64 po, .int .i64 mc, .bool mv, .int .i64 mo, .int .i64 hc, .bool hv, .int .i64 ho, .int .i64 act, .bool kn, .int .i64 sq]) := Lib.hid m8
                have X8 := Lib.hid x8
                have N8 := Lib.hid n8
                have B8 := Lib.hid b8
                clear m8 x8 n8 b8 X7 N7 B7 hck7 hz7
                have ⟨xc1, xf1⟩ := k.cell_of X8.out (i := 1) rfl
                have ⟨xc2, xf2⟩ := k.cell_of X8.out (i := 2) rfl
                have ⟨xc3, xf3⟩ := k.cell_of X8.out (i := 3) rfl
                have ⟨mc1, mf1⟩ := k.cell_of M8.out (i := 1) rfl
                have ⟨mc2, mf2⟩ := k.cell_of M8.out (i := 2) rfl
                have ⟨mc3, mf3⟩ := k.cell_of M8.out (i := 3) rfl
                go_upto_region 17 with (fail)
                have m9 := ((M8.out.put 1 (by simp) (.int .i64 lim)).put 2 (by simp) (.int .i64 mis)).put 3 (by simp) (.int .i64 last)
                have x9 := k.Box_aside (i := 3) (show gm ≠ g by omega) (.int .i64 last) (k.Box_aside (i := 2) (show gm ≠ g by omega) (.int .i64 mis) (k.Box_aside (i := 1) (show gm ≠ g by omega) (.int .i64 lim) X8.out))
                have n9 := k.Box_aside (i := 3) (show gm ≠ g5 by omega) (.int .i64 last) (k.Box_aside (i := 2) (show gm ≠ g5 by omega) (.int .i64 mis) (k.Box_aside (i := 1) (show gm ≠ g5 by omega) (.int .i64 lim) N8.out))
                have bl := k.below3 gm w8 1 2 3 (.int .i64 lim) (.int .i64 mis) (.int .i64 last)
                have hck9 := (bl.cell (p := ⟨b, off + q, none⟩) (show b < gm by omega)).trans hck8
                have b9 := B8.out.trans (bl.mono hz0)
                have s9 : (((w8.setCell ⟨gm, 1, none⟩ (.int .i64 lim)).setCell ⟨gm, 2, none⟩ (.int .i64 mis)).setCell ⟨gm, 3, none⟩ (.int .i64 last)).heap.size = w8.heap.size := by simp
                generalize ((w8.setCell ⟨gm, 1, none⟩ (.int .i64 lim)).setCell ⟨gm, 2, none⟩ (.int .i64 mis)).setCell ⟨gm, 3, none⟩ (.int .i64 last) = w9 at m9 x9 n9 hck9 b9 s9 ⊢
                have M9 : Hid (k.Box w9 gm 0 [.int .i64 st, .int .i64 lim, .int .i64 mis, .int .i64 last, .int .i64 pc, .bool pv, .int .i64 po, .int .i64 mc, .bool mv, .int .i64 mo, .int .i64 hc, .bool hv, .int .i64 ho, .int .i64 act, .bool kn, .int .i64 sq]) := Lib.hid m9
                have X9 := Lib.hid x9
                have N9 := Lib.hid n9
                have B9 := Lib.hid b9
                have hz9 : gm < w9.heap.size := by omega
                clear m9 x9 n9 b9 s9 bl M8 X8 N8 B8 hck8 hz8 xc1 xf1 mc1 mf1 xc2 xf2 mc2 mf2 xc3 xf3 mc3 mf3
                go_step
                refine wpList_load_mid rfl 27 (.tmp 11) rfl gm 0 rfl [.int .i64 st, .int .i64 lim, .int .i64 mis, .int .i64 last, .int .i64 pc, .bool pv, .int .i64 po, .int .i64 mc, .bool mv, .int .i64 mo, .int .i64 hc, .bool hv, .int .i64 ho, .int .i64 act, .bool kn, .int .i64 sq] _ M9.out.range rfl rfl (by kernel_rfl) ?_
                refine wpList_load_mid rfl 27 (.tmp 7) rfl g 0 rfl [.int .i64 st, .int .i64 lim, .int .i64 mis, .int .i64 last, .int .i64 pc, .bool pv, .int .i64 po, .int .i64 mc, .bool mv, .int .i64 mo, .int .i64 hc, .bool hv, .int .i64 ho, .int .i64 act, .bool kn, .int .i64 sq] _ X9.out.range rfl rfl (by kernel_rfl) ?_
                go_upto_region 19 with (fail)
                have hck := hck9
                clear hck9
                have hb0 := B9.out
                have HC3 := Lib.hid fun (W : World) (hb : Below w9.heap.size w9 W) => HC2.out W (hb0.trans (hb.mono hb0.size))
                have hbb9 : b < w9.heap.size := by have := hb0.size; omega
                have hzN : g5 < w9.heap.size := by omega
                clear hb0
                go_cut [12] from 23 to 78 (fun p wx => ∃ gx : Nat, p = .pointer (some ⟨gx, 0, none⟩) ∧ k.Box wx gx 0 [.int .i64 st, .int .i64 lim, .int .i64 m3, .int .i64 last, .int .i64 pc, .bool pv, .int .i64 po, .int .i64 mc, .bool mv, .int .i64 mo, .int .i64 hc, .bool hv, .int .i64 ho, .int .i64 act, .bool kn, .int .i64 sq] ∧ w9.heap.size ≤ gx ∧ gx < wx.heap.size ∧ Below w9.heap.size w9 wx)
                case first =>
                  refine wp_region_held_drew (S := (fun w' => World.rangeAt w' g5 0 [.int .i64 st, .int .i64 lim, .int .i64 m2, .int .i64 last, .int .i64 pc, .bool pv, .int .i64 po, .int .i64 mc, .bool mv, .int .i64 mo, .int .i64 hc, .bool hv, .int .i64 ho, .int .i64 act, .bool kn, .int .i64 sq] ∧ World.cell? w' ⟨b, off + q, none⟩ = some (.slice (A2 q) (L2 q) (C2 q)))) (by kernel_rfl) ⟨N9.out.range, hck⟩ (fun hHeld => ?_)
                  refine wpAnyH_take (i := 0) rfl (by kernel_rfl) (by kernel_rfl) (by kernel_rfl) (fun _ _ _ h => h) (yieldsIf_load_mid (by rfl) 27 (.tmp 10) rfl g5 0 rfl [.int .i64 st, .int .i64 lim, .int .i64 m2, .int .i64 last, .int .i64 pc, .bool pv, .int .i64 po, .int .i64 mc, .bool mv, .int .i64 mo, .int .i64 hc, .bool hv, .int .i64 ho, .int .i64 act, .bool kn, .int .i64 sq] _ (fun _ h => h.1) rfl rfl (by kernel_rfl)) (by assumption) ?_
                  try simp only [Act.put, List.setIfInBounds_toArray, List.set_cons_zero, List.set_cons_succ, List.getElem_toArray, List.getElem_cons_zero]
                  refine wpAnyH_take (i := 1) (v := ?_) rfl (by kernel_rfl) (by kernel_rfl) (by kernel_rfl) (fun _ _ _ h => h) (Or.inl ⟨by rfl, ?_⟩) (by assumption) ?_
                  rotate_left 1
                  · intro w hSw; have hSw2 := hSw.2; clear hSw; go_simp <;> (with_reducible rfl)
                  try simp only [Act.put, List.setIfInBounds_toArray, List.set_cons_zero, List.set_cons_succ, List.getElem_toArray, List.getElem_cons_succ, List.getElem_cons_zero]
                  refine wpAnyH_take (i := 2) (v := ?_) rfl (by kernel_rfl) (by kernel_rfl) (by kernel_rfl) (fun _ _ _ h => h) (Or.inl ⟨by rfl, ?_⟩) (by assumption) ?_
                  rotate_left 1
                  · intro w hSw; have hSw2 := hSw.2; clear hSw; go_simp <;> (with_reducible rfl)
                  try simp only [Act.put, List.setIfInBounds_toArray, List.set_cons_zero, List.set_cons_succ, List.getElem_toArray, List.getElem_cons_succ, List.getElem_cons_zero]
                  refine wpAnyH_take (i := 3) (v := ?_) rfl (by kernel_rfl) (by kernel_rfl) (by kernel_rfl) (fun _ _ _ h => h) (Or.inl ⟨by rfl, ?_⟩) (by assumption) ?_
                  rotate_left 1
                  · intro w hSw; have hSw2 := hSw.2; clear hSw; go_simp <;> (with_reducible rfl)
                  try simp only [Act.put, List.setIfInBounds_toArray, List.set_cons_zero, List.set_cons_succ, List.getElem_toArray, List.getElem_cons_succ, List.getElem_cons_zero]
                  refine wpAnyH_take (i := 4) (v := ?_) rfl (by kernel_rfl) (by kernel_rfl) (by kernel_rfl) (fun _ _ _ h => h) (Or.inl ⟨by rfl, ?_⟩) (by assumption) ?_
                  rotate_left 1
                  · intro w hSw; have hSw2 := hSw.2; clear hSw; go_simp <;> (with_reducible rfl)
                  try simp only [Act.put, List.setIfInBounds_toArray, List.set_cons_zero, List.set_cons_succ, List.getElem_toArray, List.getElem_cons_succ, List.getElem_cons_zero]
                  refine wpAnyH_ready (rs := [5, 6]) (by kernel_rfl) (by simp) ?_
                  refine AllReadyH.cons rfl (fun K hK => ?_) (AllReadyH.cons rfl (fun K hK => ?_) AllReadyH.nil)
                  · go_simp
                    (go_at_call 11; (refine (HC3.out _ (Below.refl _ _).drew).mono ?_); rintro e w5 ⟨rfl, hb0⟩)
                    have hb : Below w9.heap.size w9 w5 := (Below.refl _ _).drew.trans hb0
                    go_wp2_with fail
                    refine hK.out _ _ ⟨(N9.out.below hb (by omega)).range, (hb.cell (p := ⟨b, off + q, none⟩) hbb9).trans hck⟩ (fun hHeld => ?_)
                    clear hK K
                    try simp only [Act.put, List.setIfInBounds_toArray, List.set_cons_zero, List.set_cons_succ, List.getElem_toArray, List.getElem_cons_succ, List.getElem_cons_zero]
                    refine wpAnyH_ready (rs := [6]) (by kernel_rfl) (by simp) ?_
                    refine AllReadyH.cons rfl (fun K hK => ?_) AllReadyH.nil
                    go_simp
                    have ha : Below w5.heap.size w5 (w5.alloc (.cells #[.int .i64 0, .int .i64 0, .int .i64 0, .int .i64 0, .int .i64 0, .bool false, .int .i64 0, .int .i64 0, .bool false, .int .i64 0, .int .i64 0, .bool false, .int .i64 0, .int .i64 0, .bool false, .int .i64 0] 27)) := (Below.refl _ _).alloc (Nat.le_refl _) _
                    have hab := hb.trans (ha.mono hb.size)
                    refine hK.out _ _ ⟨(N9.out.below hab (by omega)).range, (hab.cell (p := ⟨b, off + q, none⟩) hbb9).trans hck⟩ (fun hHeld => ?_)
                    have hzb := k.Box.new w5 #[.int .i64 0, .int .i64 0, .int .i64 0, .int .i64 0, .int .i64 0, .bool false, .int .i64 0, .int .i64 0, .bool false, .int .i64 0, .int .i64 0, .bool false, .int .i64 0, .int .i64 0, .bool false, .int .i64 0] 27
                    have hzz : w5.heap.size < (w5.alloc (.cells #[.int .i64 0, .int .i64 0, .int .i64 0, .int .i64 0, .int .i64 0, .bool false, .int .i64 0, .int .i64 0, .bool false, .int .i64 0, .int .i64 0, .bool false, .int .i64 0, .int .i64 0, .bool false, .int .i64 0] 27)).heap.size := by simp
                    have hzo : w9.heap.size ≤ w5.heap.size := hb.size
                    generalize w5.alloc (.cells #[.int .i64 0, .int .i64 0, .int .i64 0, .int .i64 0, .int .i64 0, .bool false, .int .i64 0, .int .i64 0, .bool false, .int .i64 0, .int .i64 0, .bool false, .int .i64 0, .int .i64 0, .bool false, .int .i64 0] 27) = wz at hab hzb hzz ⊢
                    generalize w5.heap.size = gn at hzb hzz hzo ⊢
                    clear hK K ha
                    try simp only [Act.put, List.setIfInBounds_toArray, List.set_cons_zero, List.set_cons_succ, List.getElem_toArray, List.getElem_cons_succ, List.getElem_cons_zero]
                    refine wpAnyH_ready (rs := [7]) (by kernel_rfl) (by simp) ?_
                    refine AllReadyH.cons rfl (fun K hK => ?_) AllReadyH.nil
                    rw [if_pos (by rfl)]
                    have X7 := N9.out.below hab (by omega)
                    obtain ⟨W, hW, h1, h2, h3, h5⟩ := k.stored (us := [.int .i64 st, .int .i64 lim, .int .i64 m3, .int .i64 last, .int .i64 pc, .bool pv, .int .i64 po, .int .i64 mc, .bool mv, .int .i64 mo, .int .i64 hc, .bool hv, .int .i64 ho, .int .i64 act, .bool kn, .int .i64 sq]) hzb rfl
                    refine wp_store_mid 27 (.tmp 12) (.tmp 71) rfl gn 0 #[.int .i64 st, .int .i64 lim, .int .i64 m3, .int .i64 last, .int .i64 pc, .bool pv, .int .i64 po, .int .i64 mc, .bool mv, .int .i64 mo, .int .i64 hc, .bool hv, .int .i64 ho, .int .i64 act, .bool kn, .int .i64 sq] rfl rfl (k.there_of hzb rfl) (by kernel_rfl) (by simp [Value.oneCell']) ?_
                    change K _ (World.setCells _ _ _ [.int .i64 st, .int .i64 lim, .int .i64 m3, .int .i64 last, .int .i64 pc, .bool pv, .int .i64 po, .int .i64 mc, .bool mv, .int .i64 mo, .int .i64 hc, .bool hv, .int .i64 ho, .int .i64 act, .bool kn, .int .i64 sq])
                    rw [hW]
                    have hbw : Below w9.heap.size w9 W := hab.trans (h3 _ hzo)
                    have hsz : gn < W.heap.size := by omega
                    refine hK.out _ _ ⟨(N9.out.below hbw (by omega)).range, (hbw.cell (p := ⟨b, off + q, none⟩) hbb9).trans hck⟩ (fun hHeld => ?_)
                    clear hK K hW h2 h3 h5 hzb hab
                    try simp only [Act.put, List.getElem_toArray, List.getElem_cons_succ, List.getElem_cons_zero]
                    refine wpAnyH_done (by kernel_rfl) ?_ _
                    go_wp2_with fail
                    go_meet
                    case rel => exact ⟨_, rfl, h1, hzo, hsz, hbw⟩
                  · go_simp
                    have ha : Below w9.heap.size w9 ((w9.alloc (.cells #[.int .i64 0, .int .i64 0, .int .i64 0, .int .i64 0, .int .i64 0, .bool false, .int .i64 0, .int .i64 0, .bool false, .int .i64 0, .int .i64 0, .bool false, .int .i64 0, .int .i64 0, .bool false, .int .i64 0] 27)).drew) := ((Below.refl _ _).alloc (Nat.le_refl _) _).drew
                    refine hK.out _ _ ⟨(N9.out.below ha (by omega)).range, (ha.cell (p := ⟨b, off + q, none⟩) hbb9).trans hck⟩ (fun hHeld => ?_)
                    clear hK K
                    try simp only [Act.put, List.setIfInBounds_toArray, List.set_cons_zero, List.set_cons_succ, List.getElem_toArray, List.getElem_cons_succ, List.getElem_cons_zero]
                    refine wpAnyH_ready (rs := [5]) (by kernel_rfl) (by simp) ?_
                    refine AllReadyH.cons rfl (fun K hK => ?_) AllReadyH.nil
                    go_simp
                    (go_at_call 11; (refine (HC3.out _ ha).mono ?_); rintro e wz ⟨rfl, hb0⟩)
                    have hab : Below w9.heap.size w9 wz := ha.trans (hb0.mono ha.size)
                    have hzb : k.Box wz w9.heap.size 0 [.int .i64 0, .int .i64 0, .int .i64 0, .int .i64 0, .int .i64 0, .bool false, .int .i64 0, .int .i64 0, .bool false, .int .i64 0, .int .i64 0, .bool false, .int .i64 0, .int .i64 0, .bool false, .int .i64 0] := (k.Box.new w9 #[.int .i64 0, .int .i64 0, .int .i64 0, .int .i64 0, .int .i64 0, .bool false, .int .i64 0, .int .i64 0, .bool false, .int .i64 0, .int .i64 0, .bool false, .int .i64 0, .int .i64 0, .bool false, .int .i64 0] 27).below ((Below.refl _ _).drew.trans hb0) (by simp)
                    have hzz : w9.heap.size < wz.heap.size := by have := hb0.size; simp at this; omega
                    go_wp2_with fail
                    refine hK.out _ _ ⟨(N9.out.below hab (by omega)).range, (hab.cell (p := ⟨b, off + q, none⟩) hbb9).trans hck⟩ (fun hHeld => ?_)
                    obtain ⟨gn, hgn⟩ : ∃ gn, w9.heap.size = gn := ⟨_, rfl⟩
                    have hzo : w9.heap.size ≤ gn := Nat.le_of_eq hgn
                    rw [hgn] at hzb hzz ⊢
                    clear hK K ha hb0 hgn
                    try simp only [Act.put, List.setIfInBounds_toArray, List.set_cons_zero, List.set_cons_succ, List.getElem_toArray, List.getElem_cons_succ, List.getElem_cons_zero]
                    refine wpAnyH_ready (rs := [7]) (by kernel_rfl) (by simp) ?_
                    refine AllReadyH.cons rfl (fun K hK => ?_) AllReadyH.nil
                    rw [if_pos (by rfl)]
                    have X7 := N9.out.below hab (by omega)
                    obtain ⟨W, hW, h1, h2, h3, h5⟩ := k.stored (us := [.int .i64 st, .int .i64 lim, .int .i64 m3, .int .i64 last, .int .i64 pc, .bool pv, .int .i64 po, .int .i64 mc, .bool mv, .int .i64 mo, .int .i64 hc, .bool hv, .int .i64 ho, .int .i64 act, .bool kn, .int .i64 sq]) hzb rfl
                    refine wp_store_mid 27 (.tmp 12) (.tmp 71) rfl gn 0 #[.int .i64 st, .int .i64 lim, .int .i64 m3, .int .i64 last, .int .i64 pc, .bool pv, .int .i64 po, .int .i64 mc, .bool mv, .int .i64 mo, .int .i64 hc, .bool hv, .int .i64 ho, .int .i64 act, .bool kn, .int .i64 sq] rfl rfl (k.there_of hzb rfl) (by kernel_rfl) (by simp [Value.oneCell']) ?_
                    change K _ (World.setCells _ _ _ [.int .i64 st, .int .i64 lim, .int .i64 m3, .int .i64 last, .int .i64 pc, .bool pv, .int .i64 po, .int .i64 mc, .bool mv, .int .i64 mo, .int .i64 hc, .bool hv, .int .i64 ho, .int .i64 act, .bool kn, .int .i64 sq])
                    rw [hW]
                    have hbw : Below w9.heap.size w9 W := hab.trans (h3 _ hzo)
                    have hsz : gn < W.heap.size := by omega
                    refine hK.out _ _ ⟨(N9.out.below hbw (by omega)).range, (hbw.cell (p := ⟨b, off + q, none⟩) hbb9).trans hck⟩ (fun hHeld => ?_)
                    clear hK K hW h2 h3 h5 hzb hab
                    try simp only [Act.put, List.getElem_toArray, List.getElem_cons_succ, List.getElem_cons_zero]
                    refine wpAnyH_done (by kernel_rfl) ?_ _
                    go_wp2_with fail
                    go_meet
                    case rel => exact ⟨_, rfl, h1, hzo, hsz, hbw⟩
                case rest =>
                  obtain ⟨g6, rfl, x6, hg6, hz6, hb6⟩ := hcut
                  have A6 := Lib.hid x6
                  have N6 := Lib.hid (N9.out.below hb6 hzN)
                  have X6 := Lib.hid (X9.out.below hb6 (by omega))
                  have B6 := Lib.hid (B9.out.trans (hb6.mono B9.out.size))
                  have hzM : wr.heap.size ≤ g6 := by have := B9.out.size; omega
                  have h56 : g5 < g6 := by omega
                  clear x6 hb6 N9 X9 HC3 hck
                  have ⟨nc1, nf1⟩ := k.cell_of N6.out (i := 1) rfl
                  have ⟨nc2, nf2⟩ := k.cell_of N6.out (i := 2) rfl
                  have ⟨nc3, nf3⟩ := k.cell_of N6.out (i := 3) rfl
                  have ⟨ac1, af1⟩ := k.cell_of A6.out (i := 1) rfl
                  have ⟨ac2, af2⟩ := k.cell_of A6.out (i := 2) rfl
                  have ⟨ac3, af3⟩ := k.cell_of A6.out (i := 3) rfl
                  go_upto_region 21 with (fail)
                  have a7 := ((A6.out.put 1 (by simp) (.int .i64 lim)).put 2 (by simp) (.int .i64 m2)).put 3 (by simp) (.int .i64 last)
                  have x7 := k.Box_aside (i := 3) (show g6 ≠ g by omega) (.int .i64 last) (k.Box_aside (i := 2) (show g6 ≠ g by omega) (.int .i64 m2) (k.Box_aside (i := 1) (show g6 ≠ g by omega) (.int .i64 lim) X6.out))
                  have n7 := k.Box_aside (i := 3) (show g6 ≠ g5 by omega) (.int .i64 last) (k.Box_aside (i := 2) (show g6 ≠ g5 by omega) (.int .i64 m2) (k.Box_aside (i := 1) (show g6 ≠ g5 by omega) (.int .i64 lim) N6.out))
                  have bl := k.below3 g6 wc 1 2 3 (.int .i64 lim) (.int .i64 m2) (.int .i64 last)
                  have b7 := B6.out.trans (bl.mono hzM)
                  have s7 : (((wc.setCell ⟨g6, 1, none⟩ (.int .i64 lim)).setCell ⟨g6, 2, none⟩ (.int .i64 m2)).setCell ⟨g6, 3, none⟩ (.int .i64 last)).heap.size = wc.heap.size := by simp
                  generalize ((wc.setCell ⟨g6, 1, none⟩ (.int .i64 lim)).setCell ⟨g6, 2, none⟩ (.int .i64 m2)).setCell ⟨g6, 3, none⟩ (.int .i64 last) = wf at a7 x7 n7 b7 s7 ⊢
                  have AF : Hid (k.Box wf g6 0 [.int .i64 st, .int .i64 lim, .int .i64 m2, .int .i64 last, .int .i64 pc, .bool pv, .int .i64 po, .int .i64 mc, .bool mv, .int .i64 mo, .int .i64 hc, .bool hv, .int .i64 ho, .int .i64 act, .bool kn, .int .i64 sq]) := Lib.hid a7
                  have XF := Lib.hid x7
                  have NF := Lib.hid n7
                  have BF := Lib.hid b7
                  have hzF : g6 < wf.heap.size := by omega
                  clear a7 x7 n7 b7 s7 bl A6 X6 N6 B6 nc1 nf1 ac1 af1 nc2 nf2 ac2 af2 nc3 nf3 ac3 af3
                  go_step
                  refine wpList_load_mid rfl 27 (.tmp 12) rfl g6 0 rfl [.int .i64 st, .int .i64 lim, .int .i64 m2, .int .i64 last, .int .i64 pc, .bool pv, .int .i64 po, .int .i64 mc, .bool mv, .int .i64 mo, .int .i64 hc, .bool hv, .int .i64 ho, .int .i64 act, .bool kn, .int .i64 sq] _ AF.out.range rfl rfl (by kernel_rfl) ?_
                  refine wpList_load_mid rfl 27 (.tmp 10) rfl g5 0 rfl [.int .i64 st, .int .i64 lim, .int .i64 m2, .int .i64 last, .int .i64 pc, .bool pv, .int .i64 po, .int .i64 mc, .bool mv, .int .i64 mo, .int .i64 hc, .bool hv, .int .i64 ho, .int .i64 act, .bool kn, .int .i64 sq] _ NF.out.range rfl rfl (by kernel_rfl) ?_
                  go_upto_region 23 with (fail)
                  go_step
                  refine wpList_load_mid rfl 27 (.tmp 10) rfl g5 0 rfl [.int .i64 st, .int .i64 lim, .int .i64 m2, .int .i64 last, .int .i64 pc, .bool pv, .int .i64 po, .int .i64 mc, .bool mv, .int .i64 mo, .int .i64 hc, .bool hv, .int .i64 ho, .int .i64 act, .bool kn, .int .i64 sq] _ NF.out.range rfl rfl (by kernel_rfl) ?_
                  refine wpList_store_mid rfl 27 (.tmp 7) (.tmp 78) rfl g 0 #[.int .i64 st, .int .i64 lim, .int .i64 m2, .int .i64 last, .int .i64 pc, .bool pv, .int .i64 po, .int .i64 mc, .bool mv, .int .i64 mo, .int .i64 hc, .bool hv, .int .i64 ho, .int .i64 act, .bool kn, .int .i64 sq] rfl rfl (k.there_of XF.out rfl) (by kernel_rfl) (by simp [Value.oneCell']) ?_
                  obtain ⟨W, hW, h1, h2, h3, h5⟩ := k.stored (us := [.int .i64 st, .int .i64 lim, .int .i64 m2, .int .i64 last, .int .i64 pc, .bool pv, .int .i64 po, .int .i64 mc, .bool mv, .int .i64 mo, .int .i64 hc, .bool hv, .int .i64 ho, .int .i64 act, .bool kn, .int .i64 sq]) XF.out rfl
                  change wpList _ _ _ _ _ (World.setCells _ _ _ [.int .i64 st, .int .i64 lim, .int .i64 m2, .int .i64 last, .int .i64 pc, .bool pv, .int .i64 po, .int .i64 mc, .bool mv, .int .i64 mo, .int .i64 hc, .bool hv, .int .i64 ho, .int .i64 act, .bool kn, .int .i64 sq])
                  rw [hW]
                  have H1 := Lib.hid h1
                  have HF := Lib.hid ((H.out.trans (BF.out.mono H.out.size)).trans (h3 w.heap.size hg))
                  have hzW : g < W.heap.size := by omega
                  clear hW h1 h2 h3 h5
                  go_wp2
                  go_roundw
                  case rel => exact ⟨q + 1, ⟨st, lim, m2, last, pc, pv, po, mc, mv, mo, hc, hv, ho, act, kn, sq⟩, by omega, by omega, by go_num, HRn.out, H1.out, HF.out, hzW⟩
                  case measure => simp [intOf]; omega
            · have hn : comeD ⟨st, lim, mis, last, pc, pv, po, mc, mv, mo, hc, hv, ho, act, kn, sq⟩ lr = tookD ⟨st, lim, mis, last, pc, pv, po, mc, mv, mo, hc, hv, ho, act, kn, sq⟩ (rS signF 127 lr) (rW signF 127 lr) (rP signF 127 lr) := come_yes hcn
              have hSi := rS_in lr
              have hRn := took_right hR (rS signF 127 lr) (rW signF 127 lr) (rP signF 127 lr) hSi.1 hSi.2
              have hag := not_again lr
              have hc1 := HC.out _ hR
              rw [hn] at hc1
              have hlim := hR.2.2.2.2.2.2.2.2.2.1.1
              dsimp only at hlim
              clear hn hcn hR
              unfold tookD at hc1 hRn
              dsimp only at hc1 hRn
              unfold dV at hc1
              dsimp only at hc1
              generalize rS signF 127 lr = S at hc1 hRn hSi hag
              generalize rP signF 127 lr = P at hc1 hRn
              generalize v.stepV pc pv po (bitS (rW signF 127 lr) 16) = pv2 at hc1 hRn
              generalize v.stepO pc pv po (bitS (rW signF 127 lr) 16) = po2 at hc1 hRn
              generalize v.stepV mc mv mo (bitS (rW signF 127 lr) 32) = mv2 at hc1 hRn
              generalize v.stepO mc mv mo (bitS (rW signF 127 lr) 32) = mo2 at hc1 hRn
              generalize v.stepV hc hv ho (bitS (rW signF 127 lr) 64) = hv2 at hc1 hRn
              generalize v.stepO hc hv ho (bitS (rW signF 127 lr) 64) = ho2 at hc1 hRn
              generalize o.st (rW signF 127 lr) = st2 at hc1 hRn
              have HC1 := Lib.hid hc1
              have hc2 := HC.out _ hRn
              have ha : comeD ⟨st2, lim, 0, S, pc, pv2, po2, mc, mv2, mo2, hc, hv2, ho2, P, true, sq⟩ lr = ⟨st2, lim, 1, S, pc, pv2, po2, mc, mv2, mo2, hc, hv2, ho2, P, true, sq⟩ := by
                rw [come_no hag]
                unfold missedD
                dsimp only
                rw [if_pos (by omega)]
                rfl
              rw [ha] at hc2
              unfold dV at hc2
              dsimp only at hc2
              have HC2 := Lib.hid hc2
              have HRt := Lib.hid fun W => right_is hRn W
              unfold dV at HRt
              dsimp only at HRt
              have HRn := Lib.hid hRn
              clear hc1 hc2 ha HC hRn hag hSi hlim
              go_upto_region 11 with (fail)
              go_cut [10] from 23 to 78 (fun p wx => ∃ gx : Nat, p = .pointer (some ⟨gx, 0, none⟩) ∧ k.Box wx gx 0 [.int .i64 st2, .int .i64 lim, .int .i64 0, .int .i64 S, .int .i64 pc, .bool pv2, .int .i64 po2, .int .i64 mc, .bool mv2, .int .i64 mo2, .int .i64 hc, .bool hv2, .int .i64 ho2, .int .i64 P, .bool true, .int .i64 sq] ∧ wr.heap.size ≤ gx ∧ gx < wx.heap.size ∧ Below wr.heap.size wr wx)
              case first =>
                refine wp_region_held_drew (S := (fun w' => World.rangeAt w' g 0 [.int .i64 st, .int .i64 lim, .int .i64 mis, .int .i64 last, .int .i64 pc, .bool pv, .int .i64 po, .int .i64 mc, .bool mv, .int .i64 mo, .int .i64 hc, .bool hv, .int .i64 ho, .int .i64 act, .bool kn, .int .i64 sq] ∧ World.cell? w' ⟨b, off + q, none⟩ = some (.slice (A2 q) (L2 q) (C2 q)))) (by kernel_rfl) ⟨X.out.range, hck⟩ (fun hHeld => ?_)
                refine wpAnyH_take (i := 0) rfl (by kernel_rfl) (by kernel_rfl) (by kernel_rfl) (fun _ _ _ h => h) (yieldsIf_load_mid (by rfl) 27 (.tmp 7) rfl g 0 rfl [.int .i64 st, .int .i64 lim, .int .i64 mis, .int .i64 last, .int .i64 pc, .bool pv, .int .i64 po, .int .i64 mc, .bool mv, .int .i64 mo, .int .i64 hc, .bool hv, .int .i64 ho, .int .i64 act, .bool kn, .int .i64 sq] _ (fun _ h => h.1) rfl rfl (by kernel_rfl)) (by assumption) ?_
                try simp only [Act.put, List.setIfInBounds_toArray, List.set_cons_zero, List.set_cons_succ, List.getElem_toArray, List.getElem_cons_zero]
                refine wpAnyH_take (i := 1) (v := ?_) rfl (by kernel_rfl) (by kernel_rfl) (by kernel_rfl) (fun _ _ _ h => h) (Or.inl ⟨by rfl, ?_⟩) (by assumption) ?_
                rotate_left 1
                · intro w hSw; have hSw2 := hSw.2; clear hSw; go_simp <;> (with_reducible rfl)
                try simp only [Act.put, List.setIfInBounds_toArray, List.set_cons_zero, List.set_cons_succ, List.getElem_toArray, List.getElem_cons_succ, List.getElem_cons_zero]
                refine wpAnyH_take (i := 2) (v := ?_) rfl (by kernel_rfl) (by kernel_rfl) (by kernel_rfl) (fun _ _ _ h => h) (Or.inl ⟨by rfl, ?_⟩) (by assumption) ?_
                rotate_left 1
                · intro w hSw; have hSw2 := hSw.2; clear hSw; go_simp <;> (with_reducible rfl)
                try simp only [Act.put, List.setIfInBounds_toArray, List.set_cons_zero, List.set_cons_succ, List.getElem_toArray, List.getElem_cons_succ, List.getElem_cons_zero]
                refine wpAnyH_take (i := 3) (v := ?_) rfl (by kernel_rfl) (by kernel_rfl) (by kernel_rfl) (fun _ _ _ h => h) (Or.inl ⟨by rfl, ?_⟩) (by assumption) ?_
                rotate_left 1
                · intro w hSw; have hSw2 := hSw.2; clear hSw; go_simp <;> (with_reducible rfl)
                try simp only [Act.put, List.setIfInBounds_toArray, List.set_cons_zero, List.set_cons_succ, List.getElem_toArray, List.getElem_cons_succ, List.getElem_cons_zero]
                refine wpAnyH_take (i := 4) (v := ?_) rfl (by kernel_rfl) (by kernel_rfl) (by kernel_rfl) (fun _ _ _ h => h) (Or.inl ⟨by rfl, ?_⟩) (by assumption) ?_
                rotate_left 1
                · intro w hSw; have hSw2 := hSw.2; clear hSw; go_simp <;> (with_reducible rfl)
                try simp only [Act.put, List.setIfInBounds_toArray, List.set_cons_zero, List.set_cons_succ, List.getElem_toArray, List.getElem_cons_succ, List.getElem_cons_zero]
                refine wpAnyH_ready (rs := [5, 6]) (by kernel_rfl) (by simp) ?_
                refine AllReadyH.cons rfl (fun K hK => ?_) (AllReadyH.cons rfl (fun K hK => ?_) AllReadyH.nil)
                · go_simp
                  (go_at_call 11; (refine (HC1.out _ (Below.refl _ _).drew).mono ?_); rintro e w5 ⟨rfl, hb0⟩)
                  have hb : Below wr.heap.size wr w5 := (Below.refl _ _).drew.trans hb0
                  go_wp2_with fail
                  refine hK.out _ _ ⟨(X.out.below hb (by omega)).range, (hb.cell (p := ⟨b, off + q, none⟩) hbb).trans hck⟩ (fun hHeld => ?_)
                  clear hK K
                  try simp only [Act.put, List.setIfInBounds_toArray, List.set_cons_zero, List.set_cons_succ, List.getElem_toArray, List.getElem_cons_succ, List.getElem_cons_zero]
                  refine wpAnyH_ready (rs := [6]) (by kernel_rfl) (by simp) ?_
                  refine AllReadyH.cons rfl (fun K hK => ?_) AllReadyH.nil
                  go_simp
                  have ha : Below w5.heap.size w5 (w5.alloc (.cells #[.int .i64 0, .int .i64 0, .int .i64 0, .int .i64 0, .int .i64 0, .bool false, .int .i64 0, .int .i64 0, .bool false, .int .i64 0, .int .i64 0, .bool false, .int .i64 0, .int .i64 0, .bool false, .int .i64 0] 27)) := (Below.refl _ _).alloc (Nat.le_refl _) _
                  have hab := hb.trans (ha.mono hb.size)
                  refine hK.out _ _ ⟨(X.out.below hab (by omega)).range, (hab.cell (p := ⟨b, off + q, none⟩) hbb).trans hck⟩ (fun hHeld => ?_)
                  have hzb := k.Box.new w5 #[.int .i64 0, .int .i64 0, .int .i64 0, .int .i64 0, .int .i64 0, .bool false, .int .i64 0, .int .i64 0, .bool false, .int .i64 0, .int .i64 0, .bool false, .int .i64 0, .int .i64 0, .bool false, .int .i64 0] 27
                  have hzz : w5.heap.size < (w5.alloc (.cells #[.int .i64 0, .int .i64 0, .int .i64 0, .int .i64 0, .int .i64 0, .bool false, .int .i64 0, .int .i64 0, .bool false, .int .i64 0, .int .i64 0, .bool false, .int .i64 0, .int .i64 0, .bool false, .int .i64 0] 27)).heap.size := by simp
                  have hzo : wr.heap.size ≤ w5.heap.size := hb.size
                  generalize w5.alloc (.cells #[.int .i64 0, .int .i64 0, .int .i64 0, .int .i64 0, .int .i64 0, .bool false, .int .i64 0, .int .i64 0, .bool false, .int .i64 0, .int .i64 0, .bool false, .int .i64 0, .int .i64 0, .bool false, .int .i64 0] 27) = wz at hab hzb hzz ⊢
                  generalize w5.heap.size = gn at hzb hzz hzo ⊢
                  clear hK K ha
                  try simp only [Act.put, List.setIfInBounds_toArray, List.set_cons_zero, List.set_cons_succ, List.getElem_toArray, List.getElem_cons_succ, List.getElem_cons_zero]
                  refine wpAnyH_ready (rs := [7]) (by kernel_rfl) (by simp) ?_
                  refine AllReadyH.cons rfl (fun K hK => ?_) AllReadyH.nil
                  rw [if_pos (by rfl)]
                  have X7 := X.out.below hab (by omega)
                  obtain ⟨W, hW, h1, h2, h3, h5⟩ := k.stored (us := [.int .i64 st2, .int .i64 lim, .int .i64 0, .int .i64 S, .int .i64 pc, .bool pv2, .int .i64 po2, .int .i64 mc, .bool mv2, .int .i64 mo2, .int .i64 hc, .bool hv2, .int .i64 ho2, .int .i64 P, .bool true, .int .i64 sq]) hzb rfl
                  refine wp_store_mid 27 (.tmp 10) (.tmp 44) rfl gn 0 #[.int .i64 st2, .int .i64 lim, .int .i64 0, .int .i64 S, .int .i64 pc, .bool pv2, .int .i64 po2, .int .i64 mc, .bool mv2, .int .i64 mo2, .int .i64 hc, .bool hv2, .int .i64 ho2, .int .i64 P, .bool true, .int .i64 sq] rfl rfl (k.there_of hzb rfl) (by kernel_rfl) (by simp [Value.oneCell']) ?_
                  change K _ (World.setCells _ _ _ [.int .i64 st2, .int .i64 lim, .int .i64 0, .int .i64 S, .int .i64 pc, .bool pv2, .int .i64 po2, .int .i64 mc, .bool mv2, .int .i64 mo2, .int .i64 hc, .bool hv2, .int .i64 ho2, .int .i64 P, .bool true, .int .i64 sq])
                  rw [hW]
                  have hbw : Below wr.heap.size wr W := hab.trans (h3 _ hzo)
                  have hsz : gn < W.heap.size := by omega
                  refine hK.out _ _ ⟨(X.out.below hbw (by omega)).range, (hbw.cell (p := ⟨b, off + q, none⟩) hbb).trans hck⟩ (fun hHeld => ?_)
                  clear hK K hW h2 h3 h5 hzb hab
                  try simp only [Act.put, List.getElem_toArray, List.getElem_cons_succ, List.getElem_cons_zero]
                  refine wpAnyH_done (by kernel_rfl) ?_ _
                  go_wp2_with fail
                  go_meet
                  case rel => exact ⟨_, rfl, h1, hzo, hsz, hbw⟩
                · go_simp
                  have ha : Below wr.heap.size wr ((wr.alloc (.cells #[.int .i64 0, .int .i64 0, .int .i64 0, .int .i64 0, .int .i64 0, .bool false, .int .i64 0, .int .i64 0, .bool false, .int .i64 0, .int .i64 0, .bool false, .int .i64 0, .int .i64 0, .bool false, .int .i64 0] 27)).drew) := ((Below.refl _ _).alloc (Nat.le_refl _) _).drew
                  refine hK.out _ _ ⟨(X.out.below ha (by omega)).range, (ha.cell (p := ⟨b, off + q, none⟩) hbb).trans hck⟩ (fun hHeld => ?_)
                  clear hK K
                  try simp only [Act.put, List.setIfInBounds_toArray, List.set_cons_zero, List.set_cons_succ, List.getElem_toArray, List.getElem_cons_succ, List.getElem_cons_zero]
                  refine wpAnyH_ready (rs := [5]) (by kernel_rfl) (by simp) ?_
                  refine AllReadyH.cons rfl (fun K hK => ?_) AllReadyH.nil
                  go_simp
                  (go_at_call 11; (refine (HC1.out _ ha).mono ?_); rintro e wz ⟨rfl, hb0⟩)
                  have hab : Below wr.heap.size wr wz := ha.trans (hb0.mono ha.size)
                  have hzb : k.Box wz wr.heap.size 0 [.int .i64 0, .int .i64 0, .int .i64 0, .int .i64 0, .int .i64 0, .bool false, .int .i64 0, .int .i64 0, .bool false, .int .i64 0, .int .i64 0, .bool false, .int .i64 0, .int .i64 0, .bool false, .int .i64 0] := (k.Box.new wr #[.int .i64 0, .int .i64 0, .int .i64 0, .int .i64 0, .int .i64 0, .bool false, .int .i64 0, .int .i64 0, .bool false, .int .i64 0, .int .i64 0, .bool false, .int .i64 0, .int .i64 0, .bool false, .int .i64 0] 27).below ((Below.refl _ _).drew.trans hb0) (by simp)
                  have hzz : wr.heap.size < wz.heap.size := by have := hb0.size; simp at this; omega
                  go_wp2_with fail
                  refine hK.out _ _ ⟨(X.out.below hab (by omega)).range, (hab.cell (p := ⟨b, off + q, none⟩) hbb).trans hck⟩ (fun hHeld => ?_)
                  obtain ⟨gn, hgn⟩ : ∃ gn, wr.heap.size = gn := ⟨_, rfl⟩
                  have hzo : wr.heap.size ≤ gn := Nat.le_of_eq hgn
                  rw [hgn] at hzb hzz ⊢
                  clear hK K ha hb0 hgn
                  try simp only [Act.put, List.setIfInBounds_toArray, List.set_cons_zero, List.set_cons_succ, List.getElem_toArray, List.getElem_cons_succ, List.getElem_cons_zero]
                  refine wpAnyH_ready (rs := [7]) (by kernel_rfl) (by simp) ?_
                  refine AllReadyH.cons rfl (fun K hK => ?_) AllReadyH.nil
                  rw [if_pos (by rfl)]
                  have X7 := X.out.below hab (by omega)
                  obtain ⟨W, hW, h1, h2, h3, h5⟩ := k.stored (us := [.int .i64 st2, .int .i64 lim, .int .i64 0, .int .i64 S, .int .i64 pc, .bool pv2, .int .i64 po2, .int .i64 mc, .bool mv2, .int .i64 mo2, .int .i64 hc, .bool hv2, .int .i64 ho2, .int .i64 P, .bool true, .int .i64 sq]) hzb rfl
                  refine wp_store_mid 27 (.tmp 10) (.tmp 44) rfl gn 0 #[.int .i64 st2, .int .i64 lim, .int .i64 0, .int .i64 S, .int .i64 pc, .bool pv2, .int .i64 po2, .int .i64 mc, .bool mv2, .int .i64 mo2, .int .i64 hc, .bool hv2, .int .i64 ho2, .int .i64 P, .bool true, .int .i64 sq] rfl rfl (k.there_of hzb rfl) (by kernel_rfl) (by simp [Value.oneCell']) ?_
                  change K _ (World.setCells _ _ _ [.int .i64 st2, .int .i64 lim, .int .i64 0, .int .i64 S, .int .i64 pc, .bool pv2, .int .i64 po2, .int .i64 mc, .bool mv2, .int .i64 mo2, .int .i64 hc, .bool hv2, .int .i64 ho2, .int .i64 P, .bool true, .int .i64 sq])
                  rw [hW]
                  have hbw : Below wr.heap.size wr W := hab.trans (h3 _ hzo)
                  have hsz : gn < W.heap.size := by omega
                  refine hK.out _ _ ⟨(X.out.below hbw (by omega)).range, (hbw.cell (p := ⟨b, off + q, none⟩) hbb).trans hck⟩ (fun hHeld => ?_)
                  clear hK K hW h2 h3 h5 hzb hab
                  try simp only [Act.put, List.getElem_toArray, List.getElem_cons_succ, List.getElem_cons_zero]
                  refine wpAnyH_done (by kernel_rfl) ?_ _
                  go_wp2_with fail
                  go_meet
                  case rel => exact ⟨_, rfl, h1, hzo, hsz, hbw⟩
              case rest =>
                obtain ⟨g5, rfl, x5, hg5, hz5, hb5⟩ := hcut
                have X5 := Lib.hid (X.out.below hb5 hz)
                have N5 := Lib.hid x5
                have B5 := Lib.hid hb5
                have hck5 : wc.cell? ⟨b, off + q, none⟩ = some (.slice (A2 q) (L2 q) (C2 q)) := (hb5.cell (p := ⟨b, off + q, none⟩) hbb).trans hck
                have hgg : g < g5 := by omega
                clear x5 hb5 X hck
                go_upto_region 12 with (fail)
                go_step
                refine wpList_load_mid rfl 27 (.tmp 10) rfl g5 0 rfl [.int .i64 st2, .int .i64 lim, .int .i64 0, .int .i64 S, .int .i64 pc, .bool pv2, .int .i64 po2, .int .i64 mc, .bool mv2, .int .i64 mo2, .int .i64 hc, .bool hv2, .int .i64 ho2, .int .i64 P, .bool true, .int .i64 sq] _ N5.out.range rfl rfl (by kernel_rfl) ?_
                go_upto_region 14 with (go_at_call 10; ((with_reducible refine (HRt.out _).mono ?_); rintro e w7 ⟨rfl, hb⟩; have X7 := Lib.hid (X5.out.below hb (by omega)); have N7 := Lib.hid (N5.out.below hb hz5); have hck7 := (hb.cell (p := ⟨b, off + q, none⟩) (show b < wc.heap.size by omega)).trans hck5; have B7 := Lib.hid (B5.out.trans (hb.mono B5.out.size)); have hz7 := Nat.lt_of_lt_of_le hz5 hb.size; clear hb hck5; have ⟨xc15, xf15⟩ := k.cell_of X7.out (i := 15) rfl; have ⟨nc15, nf15⟩ := k.cell_of N7.out (i := 15) rfl; have ⟨nc2, nf2⟩ := k.cell_of N7.out (i := 2) rfl))
                go_upto_region 19 with (fail)
                clear xc15 xf15 nc15 nf15 nc2 nf2
                have hck := hck7
                clear hck7
                have hb0 := B7.out
                have HC3 := Lib.hid fun (W : World) (hb : Below w7.heap.size w7 W) => HC2.out W (hb0.trans (hb.mono hb0.size))
                have hbb7 : b < w7.heap.size := by have := hb0.size; omega
                have hzN : g5 < w7.heap.size := by omega
                clear hb0
                go_cut [12] from 23 to 78 (fun p wx => ∃ gx : Nat, p = .pointer (some ⟨gx, 0, none⟩) ∧ k.Box wx gx 0 [.int .i64 st2, .int .i64 lim, .int .i64 1, .int .i64 S, .int .i64 pc, .bool pv2, .int .i64 po2, .int .i64 mc, .bool mv2, .int .i64 mo2, .int .i64 hc, .bool hv2, .int .i64 ho2, .int .i64 P, .bool true, .int .i64 sq] ∧ w7.heap.size ≤ gx ∧ gx < wx.heap.size ∧ Below w7.heap.size w7 wx)
                case first =>
                  refine wp_region_held_drew (S := (fun w' => World.rangeAt w' g5 0 [.int .i64 st2, .int .i64 lim, .int .i64 0, .int .i64 S, .int .i64 pc, .bool pv2, .int .i64 po2, .int .i64 mc, .bool mv2, .int .i64 mo2, .int .i64 hc, .bool hv2, .int .i64 ho2, .int .i64 P, .bool true, .int .i64 sq] ∧ World.cell? w' ⟨b, off + q, none⟩ = some (.slice (A2 q) (L2 q) (C2 q)))) (by kernel_rfl) ⟨N7.out.range, hck⟩ (fun hHeld => ?_)
                  refine wpAnyH_take (i := 0) rfl (by kernel_rfl) (by kernel_rfl) (by kernel_rfl) (fun _ _ _ h => h) (yieldsIf_load_mid (by rfl) 27 (.tmp 10) rfl g5 0 rfl [.int .i64 st2, .int .i64 lim, .int .i64 0, .int .i64 S, .int .i64 pc, .bool pv2, .int .i64 po2, .int .i64 mc, .bool mv2, .int .i64 mo2, .int .i64 hc, .bool hv2, .int .i64 ho2, .int .i64 P, .bool true, .int .i64 sq] _ (fun _ h => h.1) rfl rfl (by kernel_rfl)) (by assumption) ?_
                  try simp only [Act.put, List.setIfInBounds_toArray, List.set_cons_zero, List.set_cons_succ, List.getElem_toArray, List.getElem_cons_zero]
                  refine wpAnyH_take (i := 1) (v := ?_) rfl (by kernel_rfl) (by kernel_rfl) (by kernel_rfl) (fun _ _ _ h => h) (Or.inl ⟨by rfl, ?_⟩) (by assumption) ?_
                  rotate_left 1
                  · intro w hSw; have hSw2 := hSw.2; clear hSw; go_simp <;> (with_reducible rfl)
                  try simp only [Act.put, List.setIfInBounds_toArray, List.set_cons_zero, List.set_cons_succ, List.getElem_toArray, List.getElem_cons_succ, List.getElem_cons_zero]
                  refine wpAnyH_take (i := 2) (v := ?_) rfl (by kernel_rfl) (by kernel_rfl) (by kernel_rfl) (fun _ _ _ h => h) (Or.inl ⟨by rfl, ?_⟩) (by assumption) ?_
                  rotate_left 1
                  · intro w hSw; have hSw2 := hSw.2; clear hSw; go_simp <;> (with_reducible rfl)
                  try simp only [Act.put, List.setIfInBounds_toArray, List.set_cons_zero, List.set_cons_succ, List.getElem_toArray, List.getElem_cons_succ, List.getElem_cons_zero]
                  refine wpAnyH_take (i := 3) (v := ?_) rfl (by kernel_rfl) (by kernel_rfl) (by kernel_rfl) (fun _ _ _ h => h) (Or.inl ⟨by rfl, ?_⟩) (by assumption) ?_
                  rotate_left 1
                  · intro w hSw; have hSw2 := hSw.2; clear hSw; go_simp <;> (with_reducible rfl)
                  try simp only [Act.put, List.setIfInBounds_toArray, List.set_cons_zero, List.set_cons_succ, List.getElem_toArray, List.getElem_cons_succ, List.getElem_cons_zero]
                  refine wpAnyH_take (i := 4) (v := ?_) rfl (by kernel_rfl) (by kernel_rfl) (by kernel_rfl) (fun _ _ _ h => h) (Or.inl ⟨by rfl, ?_⟩) (by assumption) ?_
                  rotate_left 1
                  · intro w hSw; have hSw2 := hSw.2; clear hSw; go_simp <;> (with_reducible rfl)
                  try simp only [Act.put, List.setIfInBounds_toArray, List.set_cons_zero, List.set_cons_succ, List.getElem_toArray, List.getElem_cons_succ, List.getElem_cons_zero]
                  refine wpAnyH_ready (rs := [5, 6]) (by kernel_rfl) (by simp) ?_
                  refine AllReadyH.cons rfl (fun K hK => ?_) (AllReadyH.cons rfl (fun K hK => ?_) AllReadyH.nil)
                  · go_simp
                    (go_at_call 11; (refine (HC3.out _ (Below.refl _ _).drew).mono ?_); rintro e w5 ⟨rfl, hb0⟩)
                    have hb : Below w7.heap.size w7 w5 := (Below.refl _ _).drew.trans hb0
                    go_wp2_with fail
                    refine hK.out _ _ ⟨(N7.out.below hb (by omega)).range, (hb.cell (p := ⟨b, off + q, none⟩) hbb7).trans hck⟩ (fun hHeld => ?_)
                    clear hK K
                    try simp only [Act.put, List.setIfInBounds_toArray, List.set_cons_zero, List.set_cons_succ, List.getElem_toArray, List.getElem_cons_succ, List.getElem_cons_zero]
                    refine wpAnyH_ready (rs := [6]) (by kernel_rfl) (by simp) ?_
                    refine AllReadyH.cons rfl (fun K hK => ?_) AllReadyH.nil
                    go_simp
                    have ha : Below w5.heap.size w5 (w5.alloc (.cells #[.int .i64 0, .int .i64 0, .int .i64 0, .int .i64 0, .int .i64 0, .bool false, .int .i64 0, .int .i64 0, .bool false, .int .i64 0, .int .i64 0, .bool false, .int .i64 0, .int .i64 0, .bool false, .int .i64 0] 27)) := (Below.refl _ _).alloc (Nat.le_refl _) _
                    have hab := hb.trans (ha.mono hb.size)
                    refine hK.out _ _ ⟨(N7.out.below hab (by omega)).range, (hab.cell (p := ⟨b, off + q, none⟩) hbb7).trans hck⟩ (fun hHeld => ?_)
                    have hzb := k.Box.new w5 #[.int .i64 0, .int .i64 0, .int .i64 0, .int .i64 0, .int .i64 0, .bool false, .int .i64 0, .int .i64 0, .bool false, .int .i64 0, .int .i64 0, .bool false, .int .i64 0, .int .i64 0, .bool false, .int .i64 0] 27
                    have hzz : w5.heap.size < (w5.alloc (.cells #[.int .i64 0, .int .i64 0, .int .i64 0, .int .i64 0, .int .i64 0, .bool false, .int .i64 0, .int .i64 0, .bool false, .int .i64 0, .int .i64 0, .bool false, .int .i64 0, .int .i64 0, .bool false, .int .i64 0] 27)).heap.size := by simp
                    have hzo : w7.heap.size ≤ w5.heap.size := hb.size
                    generalize w5.alloc (.cells #[.int .i64 0, .int .i64 0, .int .i64 0, .int .i64 0, .int .i64 0, .bool false, .int .i64 0, .int .i64 0, .bool false, .int .i64 0, .int .i64 0, .bool false, .int .i64 0, .int .i64 0, .bool false, .int .i64 0] 27) = wz at hab hzb hzz ⊢
                    generalize w5.heap.size = gn at hzb hzz hzo ⊢
                    clear hK K ha
                    try simp only [Act.put, List.setIfInBounds_toArray, List.set_cons_zero, List.set_cons_succ, List.getElem_toArray, List.getElem_cons_succ, List.getElem_cons_zero]
                    refine wpAnyH_ready (rs := [7]) (by kernel_rfl) (by simp) ?_
                    refine AllReadyH.cons rfl (fun K hK => ?_) AllReadyH.nil
                    rw [if_pos (by rfl)]
                    have X7 := N7.out.below hab (by omega)
                    obtain ⟨W, hW, h1, h2, h3, h5⟩ := k.stored (us := [.int .i64 st2, .int .i64 lim, .int .i64 1, .int .i64 S, .int .i64 pc, .bool pv2, .int .i64 po2, .int .i64 mc, .bool mv2, .int .i64 mo2, .int .i64 hc, .bool hv2, .int .i64 ho2, .int .i64 P, .bool true, .int .i64 sq]) hzb rfl
                    refine wp_store_mid 27 (.tmp 12) (.tmp 71) rfl gn 0 #[.int .i64 st2, .int .i64 lim, .int .i64 1, .int .i64 S, .int .i64 pc, .bool pv2, .int .i64 po2, .int .i64 mc, .bool mv2, .int .i64 mo2, .int .i64 hc, .bool hv2, .int .i64 ho2, .int .i64 P, .bool true, .int .i64 sq] rfl rfl (k.there_of hzb rfl) (by kernel_rfl) (by simp [Value.oneCell']) ?_
                    change K _ (World.setCells _ _ _ [.int .i64 st2, .int .i64 lim, .int .i64 1, .int .i64 S, .int .i64 pc, .bool pv2, .int .i64 po2, .int .i64 mc, .bool mv2, .int .i64 mo2, .int .i64 hc, .bool hv2, .int .i64 ho2, .int .i64 P, .bool true, .int .i64 sq])
                    rw [hW]
                    have hbw : Below w7.heap.size w7 W := hab.trans (h3 _ hzo)
                    have hsz : gn < W.heap.size := by omega
                    refine hK.out _ _ ⟨(N7.out.below hbw (by omega)).range, (hbw.cell (p := ⟨b, off + q, none⟩) hbb7).trans hck⟩ (fun hHeld => ?_)
                    clear hK K hW h2 h3 h5 hzb hab
                    try simp only [Act.put, List.getElem_toArray, List.getElem_cons_succ, List.getElem_cons_zero]
                    refine wpAnyH_done (by kernel_rfl) ?_ _
                    go_wp2_with fail
                    go_meet
                    case rel => exact ⟨_, rfl, h1, hzo, hsz, hbw⟩
                  · go_simp
                    have ha : Below w7.heap.size w7 ((w7.alloc (.cells #[.int .i64 0, .int .i64 0, .int .i64 0, .int .i64 0, .int .i64 0, .bool false, .int .i64 0, .int .i64 0, .bool false, .int .i64 0, .int .i64 0, .bool false, .int .i64 0, .int .i64 0, .bool false, .int .i64 0] 27)).drew) := ((Below.refl _ _).alloc (Nat.le_refl _) _).drew
                    refine hK.out _ _ ⟨(N7.out.below ha (by omega)).range, (ha.cell (p := ⟨b, off + q, none⟩) hbb7).trans hck⟩ (fun hHeld => ?_)
                    clear hK K
                    try simp only [Act.put, List.setIfInBounds_toArray, List.set_cons_zero, List.set_cons_succ, List.getElem_toArray, List.getElem_cons_succ, List.getElem_cons_zero]
                    refine wpAnyH_ready (rs := [5]) (by kernel_rfl) (by simp) ?_
                    refine AllReadyH.cons rfl (fun K hK => ?_) AllReadyH.nil
                    go_simp
                    (go_at_call 11; (refine (HC3.out _ ha).mono ?_); rintro e wz ⟨rfl, hb0⟩)
                    have hab : Below w7.heap.size w7 wz := ha.trans (hb0.mono ha.size)
                    have hzb : k.Box wz w7.heap.size 0 [.int .i64 0, .int .i64 0, .int .i64 0, .int .i64 0, .int .i64 0, .bool false, .int .i64 0, .int .i64 0, .bool false, .int .i64 0, .int .i64 0, .bool false, .int .i64 0, .int .i64 0, .bool false, .int .i64 0] := (k.Box.new w7 #[.int .i64 0, .int .i64 0, .int .i64 0, .int .i64 0, .int .i64 0, .bool false, .int .i64 0, .int .i64 0, .bool false, .int .i64 0, .int .i64 0, .bool false, .int .i64 0, .int .i64 0, .bool false, .int .i64 0] 27).below ((Below.refl _ _).drew.trans hb0) (by simp)
                    have hzz : w7.heap.size < wz.heap.size := by have := hb0.size; simp at this; omega
                    go_wp2_with fail
                    refine hK.out _ _ ⟨(N7.out.below hab (by omega)).range, (hab.cell (p := ⟨b, off + q, none⟩) hbb7).trans hck⟩ (fun hHeld => ?_)
                    obtain ⟨gn, hgn⟩ : ∃ gn, w7.heap.size = gn := ⟨_, rfl⟩
                    have hzo : w7.heap.size ≤ gn := Nat.le_of_eq hgn
                    rw [hgn] at hzb hzz ⊢
                    clear hK K ha hb0 hgn
                    try simp only [Act.put, List.setIfInBounds_toArray, List.set_cons_zero, List.set_cons_succ, List.getElem_toArray, List.getElem_cons_succ, List.getElem_cons_zero]
                    refine wpAnyH_ready (rs := [7]) (by kernel_rfl) (by simp) ?_
                    refine AllReadyH.cons rfl (fun K hK => ?_) AllReadyH.nil
                    rw [if_pos (by rfl)]
                    have X7 := N7.out.below hab (by omega)
                    obtain ⟨W, hW, h1, h2, h3, h5⟩ := k.stored (us := [.int .i64 st2, .int .i64 lim, .int .i64 1, .int .i64 S, .int .i64 pc, .bool pv2, .int .i64 po2, .int .i64 mc, .bool mv2, .int .i64 mo2, .int .i64 hc, .bool hv2, .int .i64 ho2, .int .i64 P, .bool true, .int .i64 sq]) hzb rfl
                    refine wp_store_mid 27 (.tmp 12) (.tmp 71) rfl gn 0 #[.int .i64 st2, .int .i64 lim, .int .i64 1, .int .i64 S, .int .i64 pc, .bool pv2, .int .i64 po2, .int .i64 mc, .bool mv2, .int .i64 mo2, .int .i64 hc, .bool hv2, .int .i64 ho2, .int .i64 P, .bool true, .int .i64 sq] rfl rfl (k.there_of hzb rfl) (by kernel_rfl) (by simp [Value.oneCell']) ?_
                    change K _ (World.setCells _ _ _ [.int .i64 st2, .int .i64 lim, .int .i64 1, .int .i64 S, .int .i64 pc, .bool pv2, .int .i64 po2, .int .i64 mc, .bool mv2, .int .i64 mo2, .int .i64 hc, .bool hv2, .int .i64 ho2, .int .i64 P, .bool true, .int .i64 sq])
                    rw [hW]
                    have hbw : Below w7.heap.size w7 W := hab.trans (h3 _ hzo)
                    have hsz : gn < W.heap.size := by omega
                    refine hK.out _ _ ⟨(N7.out.below hbw (by omega)).range, (hbw.cell (p := ⟨b, off + q, none⟩) hbb7).trans hck⟩ (fun hHeld => ?_)
                    clear hK K hW h2 h3 h5 hzb hab
                    try simp only [Act.put, List.getElem_toArray, List.getElem_cons_succ, List.getElem_cons_zero]
                    refine wpAnyH_done (by kernel_rfl) ?_ _
                    go_wp2_with fail
                    go_meet
                    case rel => exact ⟨_, rfl, h1, hzo, hsz, hbw⟩
                case rest =>
                  obtain ⟨g6, rfl, x6, hg6, hz6, hb6⟩ := hcut
                  have A6 := Lib.hid x6
                  have N6 := Lib.hid (N7.out.below hb6 hzN)
                  have X6 := Lib.hid (X7.out.below hb6 (by omega))
                  have B6 := Lib.hid (B7.out.trans (hb6.mono B7.out.size))
                  have hzM : wr.heap.size ≤ g6 := by have := B7.out.size; omega
                  have h56 : g5 < g6 := by omega
                  clear x6 hb6 N7 X7 HC3 hck
                  have ⟨nc1, nf1⟩ := k.cell_of N6.out (i := 1) rfl
                  have ⟨nc2, nf2⟩ := k.cell_of N6.out (i := 2) rfl
                  have ⟨nc3, nf3⟩ := k.cell_of N6.out (i := 3) rfl
                  have ⟨ac1, af1⟩ := k.cell_of A6.out (i := 1) rfl
                  have ⟨ac2, af2⟩ := k.cell_of A6.out (i := 2) rfl
                  have ⟨ac3, af3⟩ := k.cell_of A6.out (i := 3) rfl
                  go_upto_region 21 with (fail)
                  have a7 := ((A6.out.put 1 (by simp) (.int .i64 lim)).put 2 (by simp) (.int .i64 0)).put 3 (by simp) (.int .i64 S)
                  have x7 := k.Box_aside (i := 3) (show g6 ≠ g by omega) (.int .i64 S) (k.Box_aside (i := 2) (show g6 ≠ g by omega) (.int .i64 0) (k.Box_aside (i := 1) (show g6 ≠ g by omega) (.int .i64 lim) X6.out))
                  have n7 := k.Box_aside (i := 3) (show g6 ≠ g5 by omega) (.int .i64 S) (k.Box_aside (i := 2) (show g6 ≠ g5 by omega) (.int .i64 0) (k.Box_aside (i := 1) (show g6 ≠ g5 by omega) (.int .i64 lim) N6.out))
                  have bl := k.below3 g6 wc 1 2 3 (.int .i64 lim) (.int .i64 0) (.int .i64 S)
                  have b7 := B6.out.trans (bl.mono hzM)
                  have s7 : (((wc.setCell ⟨g6, 1, none⟩ (.int .i64 lim)).setCell ⟨g6, 2, none⟩ (.int .i64 0)).setCell ⟨g6, 3, none⟩ (.int .i64 S)).heap.size = wc.heap.size := by simp
                  generalize ((wc.setCell ⟨g6, 1, none⟩ (.int .i64 lim)).setCell ⟨g6, 2, none⟩ (.int .i64 0)).setCell ⟨g6, 3, none⟩ (.int .i64 S) = wf at a7 x7 n7 b7 s7 ⊢
                  have AF : Hid (k.Box wf g6 0 [.int .i64 st2, .int .i64 lim, .int .i64 0, .int .i64 S, .int .i64 pc, .bool pv2, .int .i64 po2, .int .i64 mc, .bool mv2, .int .i64 mo2, .int .i64 hc, .bool hv2, .int .i64 ho2, .int .i64 P, .bool true, .int .i64 sq]) := Lib.hid a7
                  have XF := Lib.hid x7
                  have NF := Lib.hid n7
                  have BF := Lib.hid b7
                  have hzF : g6 < wf.heap.size := by omega
                  clear a7 x7 n7 b7 s7 bl A6 X6 N6 B6 nc1 nf1 ac1 af1 nc2 nf2 ac2 af2 nc3 nf3 ac3 af3
                  go_step
                  refine wpList_load_mid rfl 27 (.tmp 12) rfl g6 0 rfl [.int .i64 st2, .int .i64 lim, .int .i64 0, .int .i64 S, .int .i64 pc, .bool pv2, .int .i64 po2, .int .i64 mc, .bool mv2, .int .i64 mo2, .int .i64 hc, .bool hv2, .int .i64 ho2, .int .i64 P, .bool true, .int .i64 sq] _ AF.out.range rfl rfl (by kernel_rfl) ?_
                  refine wpList_load_mid rfl 27 (.tmp 10) rfl g5 0 rfl [.int .i64 st2, .int .i64 lim, .int .i64 0, .int .i64 S, .int .i64 pc, .bool pv2, .int .i64 po2, .int .i64 mc, .bool mv2, .int .i64 mo2, .int .i64 hc, .bool hv2, .int .i64 ho2, .int .i64 P, .bool true, .int .i64 sq] _ NF.out.range rfl rfl (by kernel_rfl) ?_
                  go_upto_region 23 with (fail)
                  go_step
                  refine wpList_load_mid rfl 27 (.tmp 10) rfl g5 0 rfl [.int .i64 st2, .int .i64 lim, .int .i64 0, .int .i64 S, .int .i64 pc, .bool pv2, .int .i64 po2, .int .i64 mc, .bool mv2, .int .i64 mo2, .int .i64 hc, .bool hv2, .int .i64 ho2, .int .i64 P, .bool true, .int .i64 sq] _ NF.out.range rfl rfl (by kernel_rfl) ?_
                  refine wpList_store_mid rfl 27 (.tmp 7) (.tmp 78) rfl g 0 #[.int .i64 st2, .int .i64 lim, .int .i64 0, .int .i64 S, .int .i64 pc, .bool pv2, .int .i64 po2, .int .i64 mc, .bool mv2, .int .i64 mo2, .int .i64 hc, .bool hv2, .int .i64 ho2, .int .i64 P, .bool true, .int .i64 sq] rfl rfl (k.there_of XF.out rfl) (by kernel_rfl) (by simp [Value.oneCell']) ?_
                  obtain ⟨W, hW, h1, h2, h3, h5⟩ := k.stored (us := [.int .i64 st2, .int .i64 lim, .int .i64 0, .int .i64 S, .int .i64 pc, .bool pv2, .int .i64 po2, .int .i64 mc, .bool mv2, .int .i64 mo2, .int .i64 hc, .bool hv2, .int .i64 ho2, .int .i64 P, .bool true, .int .i64 sq]) XF.out rfl
                  change wpList _ _ _ _ _ (World.setCells _ _ _ [.int .i64 st2, .int .i64 lim, .int .i64 0, .int .i64 S, .int .i64 pc, .bool pv2, .int .i64 po2, .int .i64 mc, .bool mv2, .int .i64 mo2, .int .i64 hc, .bool hv2, .int .i64 ho2, .int .i64 P, .bool true, .int .i64 sq])
                  rw [hW]
                  have H1 := Lib.hid h1
                  have HF := Lib.hid ((H.out.trans (BF.out.mono H.out.size)).trans (h3 w.heap.size hg))
                  have hzW : g < W.heap.size := by omega
                  clear hW h1 h2 h3 h5
                  go_wp2
                  go_roundw
                  case rel => exact ⟨q + 1, ⟨st2, lim, 0, S, pc, pv2, po2, mc, mv2, mo2, hc, hv2, ho2, P, true, sq⟩, by omega, by omega, by go_num, HRn.out, H1.out, HF.out, hzW⟩
                  case measure => simp [intOf]; omega
        · have H := Lib.hid hH
          clear hR hX hH
          go_wp2
          go_ret
          exact ⟨rfl, H.out⟩
      · have H := Lib.hid hH
        clear hR hX hH
        go_wp2
        go_ret
        exact ⟨rfl, H.out⟩
  · have HN := Lib.hid fun W => new_no a0 a1 (by omega) W
    unfold noD dV at HN
    dsimp only at HN
    go_enter Try.func4, Try.ntmps4
    go_wp2_with (first
      | (go_at_call 7; ((with_reducible refine (HK.out _).mono ?_); rintro e w2 ⟨rfl, hb⟩; have H2 := Lib.hid hb; clear hb))
      | (go_at_call 8; ((with_reducible refine (HN.out _).mono ?_); rintro e w3 ⟨rfl, hb⟩; have H3 := Lib.hid (H2.out.trans (hb.mono H2.out.size)); clear hb)))
    go_ret
    exact ⟨rfl, H3.out.alloc H3.out.size _⟩
end Go.Proofs.Ytdfgjfojneoljaa.driveTakes
