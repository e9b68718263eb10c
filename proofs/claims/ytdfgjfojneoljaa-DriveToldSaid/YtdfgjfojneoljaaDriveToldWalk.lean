/- The walk of the law DriveTold: any drive, any place, any number of cycles: it returns true, and what was in memory is as it was. -/
import Derived.Test.YtdfgjfojneoljaaJAwake
namespace Go.Proofs.Ytdfgjfojneoljaa.driveTold
open Go.ChangeShapes Go.WideShapes Go.ChangeAt Go.RowKit Go.Proofs.Ytdfgjfojneoljaa.s Go.Proofs.Ytdfgjfojneoljaa.t Go.Proofs.Ytdfgjfojneoljaa.j Go.Proofs.Ytdfgjfojneoljaa
set_option linter.unusedVariables false

theorem wide {a : Int} (h : (Lit.int .i64 a).wf = true) : -9223372036854775808 ≤ a ∧ a ≤ 9223372036854775807 := k.wf64 h
/-- what a cycle's frame says -/
theorem told_says (d : D) (h : RightD d) (want clear : Bool) (p : Int) (hp : -9223372036854775808 ≤ p ∧ p ≤ 9223372036854775807) :
    rE signS 7 (toldB d want clear p) = 0 ∧ rS signS 7 (toldB d want clear p) = d.sq ∧ rP signS 7 (toldB d want clear p) = p := by
  have hc := ctl_in d.st want clear
  have hr := read_back signS (BitVec.ofInt 8 d.sq) (BitVec.ofInt 8 (o.ctl d.st want clear)) 7 p (by rw [v8_of _ hc.1 (by omega)]; exact hc.2) hp.1 hp.2
  rw [v8_of _ h.2.2.2.2.2.2.2.1 h.2.2.2.2.2.2.2.2.1] at hr
  exact ⟨hr.1, hr.2.1, hr.2.2.2⟩
theorem right_sq {d : D} (h : RightD d) (s : Int) (h0 : 0 ≤ s) (h1 : s ≤ 255) : RightD { d with sq := s } := by
  obtain ⟨a1, a2, a3, a4, a5, a6, a7, _, _, a10, a11⟩ := h
  exact ⟨a1, a2, a3, a4, a5, a6, a7, h0, h1, a10, a11⟩
set_option maxRecDepth 100000 in
set_option maxHeartbeats 4000000 in
theorem walk (st : Int) (lim : Int) (mis : Int) (last : Int) (pc : Int) (pv : Bool) (po : Int) (mc : Int) (mv : Bool) (mo : Int) (hc : Int) (hv : Bool) (ho : Int) (act : Int) (kn : Bool) (sq : Int) (p cy : Int) (w : World) (u0 : (Lit.int .i64 st).wf = true) (u1 : (Lit.int .i64 lim).wf = true) (u2 : (Lit.int .i64 mis).wf = true) (u3 : (Lit.int .i64 last).wf = true) (u4 : (Lit.int .i64 pc).wf = true) (u6 : (Lit.int .i64 po).wf = true) (u7 : (Lit.int .i64 mc).wf = true) (u9 : (Lit.int .i64 mo).wf = true) (u10 : (Lit.int .i64 hc).wf = true) (u12 : (Lit.int .i64 ho).wf = true) (u13 : (Lit.int .i64 act).wf = true) (u15 : (Lit.int .i64 sq).wf = true) (w1 : (Lit.int .i64 p).wf = true) (w2 : (Lit.int .u16 cy).wf = true) :
    Calls Try.prog 6 #[.agg #[.int .i64 st, .int .i64 lim, .int .i64 mis, .int .i64 last, .int .i64 pc, .bool pv, .int .i64 po, .int .i64 mc, .bool mv, .int .i64 mo, .int .i64 hc, .bool hv, .int .i64 ho, .int .i64 act, .bool kn, .int .i64 sq], .int .i64 p, .int .u16 cy] w fun e w' => e = .returned (.bool true) ∧ Below w.heap.size w w' := by
  have hp := wide w1
  have hcy := wf16 w2
  have hW : WideD ⟨st, lim, mis, last, pc, pv, po, mc, mv, mo, hc, hv, ho, act, kn, sq⟩ := ⟨wide u4, wide u7, wide u10⟩
  have HK := Lib.hid fun W => awake_any W
  have hR := fun W => right_any ⟨st, lim, mis, last, pc, pv, po, mc, mv, mo, hc, hv, ho, act, kn, sq⟩ hW W
  clear u0 u1 u2 u3 u4 u6 u7 u9 u10 u12 u13 u15 w1 w2 hW
  by_cases hr : RightD ⟨st, lim, mis, last, pc, pv, po, mc, mv, mo, hc, hv, ho, act, kn, sq⟩
  · rw [right_yes hr] at hR
    have HR := Lib.hid hR
    have HRD := Lib.hid hr
    have hs0 := hr.2.2.2.2.2.2.2.1
    have hs1 := hr.2.2.2.2.2.2.2.2.1
    dsimp only at hs0 hs1
    have hm0 := Int.emod_nonneg cy (show (600 : Int) ≠ 0 by decide)
    have hm1 := Int.emod_lt_of_pos cy (show (0 : Int) < 600 by decide)
    clear hR hr
    unfold dV at HR
    dsimp only at HR
    go_enter Try.func6, Try.ntmps6
    go_upto_region 3 with (go_at_call 7; ((with_reducible refine (HK.out _).mono ?_); rintro e w2 ⟨rfl, hb⟩; obtain ⟨x1, x2, x3⟩ := k.boxes1 hb; have X2 := Lib.hid x1; have H2 := Lib.hid x2; clear hb x1 x2))
    go_step
    refine wpList_load_mid rfl 27 (.tmp 3) rfl w.heap.size 0 rfl [.int .i64 st, .int .i64 lim, .int .i64 mis, .int .i64 last, .int .i64 pc, .bool pv, .int .i64 po, .int .i64 mc, .bool mv, .int .i64 mo, .int .i64 hc, .bool hv, .int .i64 ho, .int .i64 act, .bool kn, .int .i64 sq] _ X2.out.range rfl rfl (by kernel_rfl) ?_
    go_wp2_with (go_at_call 10; ((with_reducible refine (HR.out _).mono ?_); rintro e w3 ⟨rfl, hb⟩; have X3 := Lib.hid (X2.out.below hb x3); have H3 := Lib.hid (H2.out.trans (hb.mono H2.out.size)); have z3 := Nat.lt_of_lt_of_le x3 hb.size; clear hb x3))
    clear HK HR X2 H2
    go_loopw [7] (fun i wr => ∃ (q : Nat) (s : Int), q ≤ 600 ∧ i = .int .i64 q ∧ 0 ≤ s ∧ s ≤ 255 ∧ k.Box wr w.heap.size 0 [.int .i64 st, .int .i64 lim, .int .i64 mis, .int .i64 last, .int .i64 pc, .bool pv, .int .i64 po, .int .i64 mc, .bool mv, .int .i64 mo, .int .i64 hc, .bool hv, .int .i64 ho, .int .i64 act, .bool kn, .int .i64 s] ∧ Below w.heap.size w wr ∧ w.heap.size < wr.heap.size) (fun i _ => 600 - (intOf i).toNat)
    case atStart => exact ⟨0, sq, by omega, rfl, hs0, hs1, X3.out, H3.out, z3⟩
    case round =>
      clear X3 H3 z3 hs0 hs1
      obtain ⟨q, s, hk, rfl, hs0, hs1, hX, hH, hz⟩ := hrel
      have X := Lib.hid hX
      have H := Lib.hid hH
      clear hX hH
      by_cases hlt : (q : Int) < cy % 600
      · have hRs := right_sq HRD.out s hs0 hs1
        dsimp only at hRs
        have hsay := told_says ⟨st, lim, mis, last, pc, pv, po, mc, mv, mo, hc, hv, ho, act, kn, s⟩ hRs true false p hp
        have hT := fun W => tell_ok ⟨st, lim, mis, last, pc, pv, po, mc, mv, mo, hc, hv, ho, act, kn, s⟩ hRs true false p W
        have hlen : (toldB ⟨st, lim, mis, last, pc, pv, po, mc, mv, mo, hc, hv, ho, act, kn, s⟩ true false p).length = 13 := frame_length _ _ _ _
        have hnx : tellD ⟨st, lim, mis, last, pc, pv, po, mc, mv, mo, hc, hv, ho, act, kn, s⟩ = ⟨st, lim, mis, last, pc, pv, po, mc, mv, mo, hc, hv, ho, act, kn, ((s + 1) % 256)⟩ := by
          unfold tellD
          dsimp only
          rw [show (if s + 1 = 256 then 0 else s + 1) = (s + 1) % 256 from by split <;> omega]
        unfold TellPost at hT
        rw [hnx] at hT
        generalize toldB ⟨st, lim, mis, last, pc, pv, po, mc, mv, mo, hc, hv, ho, act, kn, s⟩ true false p = tb at hsay hT hlen
        unfold dV at hT
        dsimp only at hsay hT
        have HRd := Lib.hid fun (W : World) (A : Option Addr) (cap : Nat) (h1 : 13 ≤ cap) (h2 : cap ≤ maxLen) (B : Nat) (hB : B ≤ W.heap.size) (h : Bytes W B A tb) => read_any signS 7 tb 13 hlen (by omega) B A cap h1 h2 W h hB
        unfold RPost at HRd
        rw [hsay.1, hsay.2.1, hsay.2.2, signS_val] at HRd
        generalize rW signS 7 tb = xw at HRd
        have HT := Lib.hid hT
        clear hT hsay hnx hlen hRs
        go_upto_region 8 with (fail)
        go_step
        refine wpList_load_mid rfl 27 (.tmp 3) rfl w.heap.size 0 rfl [.int .i64 st, .int .i64 lim, .int .i64 mis, .int .i64 last, .int .i64 pc, .bool pv, .int .i64 po, .int .i64 mc, .bool mv, .int .i64 mo, .int .i64 hc, .bool hv, .int .i64 ho, .int .i64 act, .bool kn, .int .i64 s] _ X.out.range rfl rfl (by kernel_rfl) ?_
        go_upto_region 9 with (go_at_call 12; ((with_reducible refine (HT.out _).mono ?_); rintro e w4 ⟨A, cap, rfl, hB, h1, h2, hb, _⟩; have X4 := Lib.hid (X.out.below hb hz); have H4 := Lib.hid (H.out.trans (hb.mono H.out.size)); have z4 := Nat.lt_of_lt_of_le hz hb.size; have Y4 := Lib.hid (And.intro hB (And.intro h1 h2)); clear hb hB h1 h2))
        go_wp2_with (go_at_call 18; fail)
        refine (HRd.out _ A cap Y4.out.2.1 Y4.out.2.2 w4.heap.size (by simp) (Y4.out.1.below ((Below.refl _ _).alloc (Nat.le_refl _) _))).mono ?_
        rintro e w5 ⟨rfl, hb⟩
        obtain ⟨x1, x2, x3⟩ := k.boxes1 hb
        have N5 := Lib.hid x1
        have X5 := Lib.hid (X4.out.below x2 z4)
        have H5 := Lib.hid (H4.out.trans (x2.mono H4.out.size))
        have z5 : w.heap.size < w5.heap.size := by omega
        clear hb x1 x2
        have ⟨xc15, xf15⟩ := k.cell_of X5.out (i := 15) rfl
        have ⟨nc15, nf15⟩ := k.cell_of N5.out (i := 15) rfl
        go_upto_region 13 with (fail)
        have n2 := N5.out.put 15 (by simp) (.int .i64 s)
        have x2 := k.Box_aside (i := 15) (show w4.heap.size ≠ w.heap.size by omega) (.int .i64 s) X5.out
        have h2 : Below w.heap.size w (w5.setCell ⟨w4.heap.size, 15, none⟩ (.int .i64 s)) := H5.out.setCell (Nat.le_of_lt z4) _
        have s2 : (w5.setCell ⟨w4.heap.size, 15, none⟩ (.int .i64 s)).heap.size = w5.heap.size := by simp
        generalize w5.setCell ⟨w4.heap.size, 15, none⟩ (.int .i64 s) = w6 at n2 x2 h2 s2 ⊢
        have N6 : Hid (k.Box w6 w4.heap.size 0 [.int .i64 st, .int .i64 lim, .int .i64 mis, .int .i64 last, .int .i64 pc, .bool pv, .int .i64 po, .int .i64 mc, .bool mv, .int .i64 mo, .int .i64 hc, .bool hv, .int .i64 ho, .int .i64 act, .bool kn, .int .i64 s]) := Lib.hid n2
        have X6 : Hid (k.Box w6 w.heap.size 0 [.int .i64 st, .int .i64 lim, .int .i64 mis, .int .i64 last, .int .i64 pc, .bool pv, .int .i64 po, .int .i64 mc, .bool mv, .int .i64 mo, .int .i64 hc, .bool hv, .int .i64 ho, .int .i64 act, .bool kn, .int .i64 s]) := Lib.hid x2
        have H6 := Lib.hid h2
        have z6 : w.heap.size < w6.heap.size := by omega
        clear n2 x2 h2 s2 xc15 xf15 nc15 nf15
        go_step
        refine wpList_load_mid rfl 27 (.tmp 8) rfl w4.heap.size 0 rfl [.int .i64 st, .int .i64 lim, .int .i64 mis, .int .i64 last, .int .i64 pc, .bool pv, .int .i64 po, .int .i64 mc, .bool mv, .int .i64 mo, .int .i64 hc, .bool hv, .int .i64 ho, .int .i64 act, .bool kn, .int .i64 s] _ N6.out.range rfl rfl (by kernel_rfl) ?_
        refine wpList_load_mid rfl 27 (.tmp 3) rfl w.heap.size 0 rfl [.int .i64 st, .int .i64 lim, .int .i64 mis, .int .i64 last, .int .i64 pc, .bool pv, .int .i64 po, .int .i64 mc, .bool mv, .int .i64 mo, .int .i64 hc, .bool hv, .int .i64 ho, .int .i64 act, .bool kn, .int .i64 s] _ X6.out.range rfl rfl (by kernel_rfl) ?_
        have ⟨xc15, xf15⟩ := k.cell_of X6.out (i := 15) rfl
        go_wp2
        go_roundw
        case rel => exact ⟨q + 1, (s + 1) % 256, by omega, by go_num, by omega, by omega, X6.out.put 15 (by simp) _, H6.out.setCell (Nat.le_refl _) _, by simp; omega⟩
        case measure => simp [intOf]; omega
      · go_wp2
        go_ret
        exact ⟨rfl, H.out⟩
  · rw [right_no hr] at hR
    have HR := Lib.hid hR
    clear hR hr
    unfold dV at HR
    dsimp only at HR
    go_enter Try.func6, Try.ntmps6
    go_upto_region 3 with (go_at_call 7; ((with_reducible refine (HK.out _).mono ?_); rintro e w2 ⟨rfl, hb⟩; obtain ⟨x1, x2, x3⟩ := k.boxes1 hb; have X2 := Lib.hid x1; have H2 := Lib.hid x2; clear hb x1 x2))
    go_step
    refine wpList_load_mid rfl 27 (.tmp 3) rfl w.heap.size 0 rfl [.int .i64 st, .int .i64 lim, .int .i64 mis, .int .i64 last, .int .i64 pc, .bool pv, .int .i64 po, .int .i64 mc, .bool mv, .int .i64 mo, .int .i64 hc, .bool hv, .int .i64 ho, .int .i64 act, .bool kn, .int .i64 sq] _ X2.out.range rfl rfl (by kernel_rfl) ?_
    go_wp2_with (go_at_call 10; ((with_reducible refine (HR.out _).mono ?_); rintro e w3 ⟨rfl, hb⟩; have X3 := Lib.hid (X2.out.below hb x3); have H3 := Lib.hid (H2.out.trans (hb.mono H2.out.size)); have z3 := Nat.lt_of_lt_of_le x3 hb.size; clear hb x3))
    go_ret
    exact ⟨rfl, H3.out⟩
end Go.Proofs.Ytdfgjfojneoljaa.driveTold
