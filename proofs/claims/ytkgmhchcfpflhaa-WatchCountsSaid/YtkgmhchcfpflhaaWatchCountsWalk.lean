/- The walk of the law WatchCounts: any limit and any rows of bytes: it returns true, and what was in memory is as it was. -/
import Derived.Test.YtkgmhchcfpflhaaURows
namespace Go.Proofs.Ytkgmhchcfpflhaa.watchCounts
open Go.ChangeShapes Go.WideShapes Go.ChangeAt Go.RowKit Go.Proofs.Ytkgmhchcfpflhaa.s Go.Proofs.Ytkgmhchcfpflhaa.t Go.Proofs.Ytkgmhchcfpflhaa.u Go.Proofs.Ytkgmhchcfpflhaa
set_option linter.unusedVariables false

def Mis (lim sil mis : Int) : Prop := (sil < lim ∧ mis = sil) ∨ (lim ≤ sil ∧ mis = lim)
theorem over_eq {lim mis last : Int} (h : RightW lim mis last) : overW lim mis last = decide (mis = lim) := by unfold overW; simp [h]

set_option maxRecDepth 100000 in
set_option maxHeartbeats 4000000 in
theorem walk (a0 : Int) (a1 : Option Addr) (len1 cap1 : Nat) (A1 : Nat → Option Addr) (L1 C1 : Nat → Nat) (Z1 : Nat → List Int) (w : World) (w0 : (Lit.int .i64 a0).wf = true) (w1 : IsRows .u8 w a1 len1 cap1 A1 L1 C1 Z1) :
    Calls Try.prog 4 #[.int .i64 a0, .slice a1 len1 cap1] w fun e w' => e = .returned (.bool true) ∧ Below w.heap.size w w' := by
  have ha0 := wf64 w0
  have W1 := Lib.hid w1
  clear w0 w1
  have HK := Lib.hid fun W => awake_any W
  by_cases hl : 1 ≤ a0 ∧ a0 ≤ 100
  · obtain ⟨l1, l2⟩ := hl
    have HN := Lib.hid fun W => new_yes a0 l1 l2 W
    have hlen : (len1 : Int) ≤ 9223372036854775807 := by
      rcases W1.out with ⟨_, h, _⟩ | ⟨x, _, h, h2, _⟩
      · omega
      · unfold maxLen at h2; omega
    go_enter Try.func4, Try.ntmps4
    go_wp2_with (first
      | (go_at_call 6; ((with_reducible refine (HK.out _).mono ?_); rintro e w2 ⟨rfl, hb⟩; have HB2 := Lib.hid hb; clear hb))
      | (go_at_call 7; ((with_reducible refine (HN.out _).mono ?_); rintro e w3 ⟨rfl, hb⟩; have HB3 := Lib.hid (HB2.out.trans (hb.mono HB2.out.size)); clear hb)))
    have hg : w.heap.size ≤ w3.heap.size := HB3.out.size
    have H0 : Hid (Box3 (w3.alloc (.cells #[.int .i64 a0, .int .i64 0, .int .i64 (-1)] 23)) w3.heap.size a0 0 (-1)) := Lib.hid ⟨by simp [go_sem], by simp [go_sem], by simp [go_sem], by simp [go_sem], by simp [go_sem], by simp [go_sem]⟩
    have HB4 : Hid (Below w.heap.size w (w3.alloc (.cells #[.int .i64 a0, .int .i64 0, .int .i64 (-1)] 23)) ∧ w3.heap.size < (w3.alloc (.cells #[.int .i64 a0, .int .i64 0, .int .i64 (-1)] 23)).heap.size) := Lib.hid ⟨HB3.out.alloc hg _, by simp⟩
    generalize w3.heap.size = g at *
    go_loopw [7, 8] (fun s i wr => ∃ (k : Nat) (sil mis last : Int), k ≤ len1 ∧ k ≤ 300 ∧ i = .int .i64 k ∧ s = .int .i64 sil ∧ 0 ≤ sil ∧ sil ≤ k ∧ Mis a0 sil mis ∧ -1 ≤ last ∧ last ≤ 255 ∧ Box3 wr g a0 mis last ∧ Below w.heap.size w wr ∧ g < wr.heap.size) (fun _ i _ => len1 - (intOf i).toNat)
    case atStart => exact ⟨0, 0, 0, -1, Nat.zero_le _, by omega, rfl, rfl, by omega, by omega, .inl ⟨by omega, rfl⟩, by omega, by omega, H0.out, HB4.out.1, HB4.out.2⟩
    case round =>
      clear H0 HB4 HB3 HN HK
      obtain ⟨k, sil, mis, last, hk, hk3, rfl, rfl, hs0, hs1, hm, hl0, hl1, hB, hb, hgw⟩ := hrel
      have HBx := Lib.hid hB
      have HB := Lib.hid hb
      have HM := Lib.hid hm
      have hmr : 0 ≤ mis ∧ mis ≤ a0 := by rcases hm with h | h <;> omega
      have hr : RightW a0 mis last := ⟨l1, l2, hmr.1, hmr.2, hl0, hl1⟩
      clear hB hb hm
      by_cases hlt : k < len1
      · by_cases hlt3 : k < 300
        · obtain ⟨b, off, rfl, hbw, hcap, hcm, hrow⟩ := W1.out.row (by omega)
          have ⟨hcell, hir⟩ := hrow k hlt
          obtain ⟨lr, hlr, hBy, hlc, hcmx, _, _⟩ := bytes_of hir
          have hck : wr.cell? ⟨b, off + k, none⟩ = some (.slice (A1 k) (L1 k) (C1 k)) := (HB.out.cell (p := ⟨b, off + k, none⟩) hbw).trans hcell
          have hLn : (L1 k : Int) ≤ 9223372036854775807 := by unfold maxLen at hcmx; omega
          clear hrow hir hcell
          by_cases h40 : 40 < L1 k
          · clear hlr hBy hr
            go_wp2
            go_ret
            exact ⟨rfl, HB.out⟩
          · obtain ⟨n1, n2, f0, f1, f2, ok, hn1, hn2, hn3, hC⟩ := come_either a0 mis last hr lr (L1 k) hlr (by omega) (A1 k) (C1 k) hlc hcmx wr (hBy.below (HB.out.mono (Nat.le_refl _)) |>.more HB.out.size)
            have HC := Lib.hid hC
            clear hC hlr hBy hr
            obtain ⟨c0, c1, c2, z0, z1, z2⟩ := HBx.out
            have hbwr : b < wr.heap.size := Nat.lt_of_lt_of_le hbw HB.out.size
            have b1 : b < wr.heap.size + 1 := by omega
            have b2 : b < wr.heap.size + 2 := by omega
            have ne00 : ¬ g = wr.heap.size := by omega
            have en00 : ¬ wr.heap.size = g := by omega
            have ne01 : ¬ g = wr.heap.size + 1 := by omega
            have en01 : ¬ wr.heap.size + 1 = g := by omega
            have ne10 : ¬ b = wr.heap.size := by omega
            have en10 : ¬ wr.heap.size = b := by omega
            have ne11 : ¬ b = wr.heap.size + 1 := by omega
            have en11 : ¬ wr.heap.size + 1 = b := by omega
            have g1 : g < wr.heap.size + 1 := by omega
            have g2 : g < wr.heap.size + 2 := by omega
            go_upto_region 12 with (fail)
            go_cut [9, 11] from 21 to 69 (fun p r wx => ∃ gx : Nat, p = .pointer (some ⟨gx, 0, none⟩) ∧ r = .bool ok ∧ Box3 wx gx a0 n1 n2 ∧ Box3 wx g a0 mis last ∧ gx ≠ g ∧ Below w.heap.size w wx ∧ g < wx.heap.size ∧ gx < wx.heap.size)
            case first =>
              go_region_held3 (fun w' => w'.cell? ⟨g, 0, none⟩ = some (.int .i64 a0) ∧ w'.cell? ⟨g, 1, none⟩ = some (.int .i64 mis) ∧ w'.cell? ⟨g, 2, none⟩ = some (.int .i64 last) ∧ w'.cell? ⟨b, off + k, none⟩ = some (.slice (A1 k) (L1 k) (C1 k)))
                (go_keep)
                ((go_at_call 8; refine (HC.out _ (by repeat (first | exact Below.refl _ _ | refine Below.drew ?_ | refine Below.alloc ?_ (by simp <;> omega) _))).mono ?_; rintro e w5 ⟨rfl, hb5⟩; have H5 : Below wr.heap.size wr w5 := (Below.trans (by repeat (first | exact Below.refl _ _ | refine Below.drew ?_ | refine Below.alloc ?_ (by simp) _)) (hb5.mono (by simp <;> omega))); obtain ⟨hc5, hf5⟩ := bcell hb5; have hz5 := hb5.size; simp at hz5; (try (by_cases qa : wr.heap.size < w5.heap.size; rotate_left; focus (exfalso; omega))); (try (by_cases ra : wr.heap.size < w5.heap.size + 1; rotate_left; focus (exfalso; omega))); (try (by_cases ma0 : w5.cell? ⟨wr.heap.size, 0, none⟩ = some (.int .i64 0); rotate_left; focus (exfalso; refine ma0 ((hc5 _ _ ?_).trans ?_) <;> simp [go_sem] <;> fail))); (try (by_cases na0 : w5.frozen? ⟨wr.heap.size, 0, none⟩ = false; rotate_left; focus (exfalso; refine na0 ((hf5 _ _ ?_).trans ?_) <;> simp [go_sem] <;> fail))); (try (by_cases ma1 : w5.cell? ⟨wr.heap.size, 1, none⟩ = some (.int .i64 0); rotate_left; focus (exfalso; refine ma1 ((hc5 _ _ ?_).trans ?_) <;> simp [go_sem] <;> fail))); (try (by_cases na1 : w5.frozen? ⟨wr.heap.size, 1, none⟩ = false; rotate_left; focus (exfalso; refine na1 ((hf5 _ _ ?_).trans ?_) <;> simp [go_sem] <;> fail))); (try (by_cases ma2 : w5.cell? ⟨wr.heap.size, 2, none⟩ = some (.int .i64 0); rotate_left; focus (exfalso; refine ma2 ((hc5 _ _ ?_).trans ?_) <;> simp [go_sem] <;> fail))); (try (by_cases na2 : w5.frozen? ⟨wr.heap.size, 2, none⟩ = false; rotate_left; focus (exfalso; refine na2 ((hf5 _ _ ?_).trans ?_) <;> simp [go_sem] <;> fail))); (try (by_cases qb : wr.heap.size + 1 < w5.heap.size; rotate_left; focus (exfalso; omega))); (try (by_cases rb : wr.heap.size + 1 < w5.heap.size + 1; rotate_left; focus (exfalso; omega))); (try (by_cases mb0 : w5.cell? ⟨wr.heap.size + 1, 0, none⟩ = some (.int .i64 0); rotate_left; focus (exfalso; refine mb0 ((hc5 _ _ ?_).trans ?_) <;> simp [go_sem] <;> fail))); (try (by_cases nb0 : w5.frozen? ⟨wr.heap.size + 1, 0, none⟩ = false; rotate_left; focus (exfalso; refine nb0 ((hf5 _ _ ?_).trans ?_) <;> simp [go_sem] <;> fail))); (try (by_cases mb1 : w5.cell? ⟨wr.heap.size + 1, 1, none⟩ = some (.int .i64 0); rotate_left; focus (exfalso; refine mb1 ((hc5 _ _ ?_).trans ?_) <;> simp [go_sem] <;> fail))); (try (by_cases nb1 : w5.frozen? ⟨wr.heap.size + 1, 1, none⟩ = false; rotate_left; focus (exfalso; refine nb1 ((hf5 _ _ ?_).trans ?_) <;> simp [go_sem] <;> fail))); (try (by_cases mb2 : w5.cell? ⟨wr.heap.size + 1, 2, none⟩ = some (.int .i64 0); rotate_left; focus (exfalso; refine mb2 ((hc5 _ _ ?_).trans ?_) <;> simp [go_sem] <;> fail))); (try (by_cases nb2 : w5.frozen? ⟨wr.heap.size + 1, 2, none⟩ = false; rotate_left; focus (exfalso; refine nb2 ((hf5 _ _ ?_).trans ?_) <;> simp [go_sem] <;> fail))); clear hc5 hf5; have me00 : ¬ g = w5.heap.size := (by omega); have em00 : ¬ w5.heap.size = g := (by omega); have lt00 : g < w5.heap.size := (by omega); have me01 : ¬ g = w5.heap.size + 1 := (by omega); have em01 : ¬ w5.heap.size + 1 = g := (by omega); have lt01 : g < w5.heap.size + 1 := (by omega); have me10 : ¬ b = w5.heap.size := (by omega); have em10 : ¬ w5.heap.size = b := (by omega); have lt10 : b < w5.heap.size := (by omega); have me11 : ¬ b = w5.heap.size + 1 := (by omega); have em11 : ¬ w5.heap.size + 1 = b := (by omega); have lt11 : b < w5.heap.size + 1 := (by omega); have k0 := (H5.cell (p := ⟨g, 0, none⟩) hgw).trans c0; have k1 := (H5.cell (p := ⟨g, 1, none⟩) hgw).trans c1; have k2 := (H5.cell (p := ⟨g, 2, none⟩) hgw).trans c2; have k3 := (H5.cell (p := ⟨b, off + k, none⟩) (Nat.lt_of_lt_of_le hbw HB.out.size)).trans hck))
              all_goals
                go_wp2_with fail
                go_meet
                case rel =>
                  refine ⟨_, rfl, rfl, ⟨?_, ?_, ?_, ?_, ?_, ?_⟩, HBx.out.below (B := wr.heap.size) ?_ hgw, ?_, HB.out.trans (Below.mono ?_ HB.out.size), ?_, ?_⟩
                  · first | (simp [go_sem]; done) | (simp [go_sem, *]; done)
                  · first | (simp [go_sem]; done) | (simp [go_sem, *]; done)
                  · first | (simp [go_sem]; done) | (simp [go_sem, *]; done)
                  · first | (simp [go_sem]; done) | (simp [go_sem, *]; done)
                  · first | (simp [go_sem]; done) | (simp [go_sem, *]; done)
                  · first | (simp [go_sem]; done) | (simp [go_sem, *]; done)
                  · (repeat (first | with_reducible exact H5 | (with_reducible refine Below.alloc ?_ ?_ _; rotate_left 1; focus (first | (simp; done) | (simp; omega) | omega)) | (with_reducible refine Below.setCell ?_ ?_ _; rotate_left 1; focus (first | (simp; done) | (simp; omega) | omega))))
                  · first | assumption | omega
                  · (repeat (first | with_reducible exact H5 | (with_reducible refine Below.alloc ?_ ?_ _; rotate_left 1; focus (first | (simp; done) | (simp; omega) | omega)) | (with_reducible refine Below.setCell ?_ ?_ _; rotate_left 1; focus (first | (simp; done) | (simp; omega) | omega))))
                  · first | (simp; done) | (simp; omega)
                  · first | (simp; done) | (simp; omega)
            case rest =>
              obtain ⟨gx, rfl, rfl, hX, hG, hne, hBc, hgc, hxc⟩ := hcut
              have HX := Lib.hid hX
              have HG := Lib.hid hG
              have HBC := Lib.hid hBc
              obtain ⟨x0, x1, x2, xz0, xz1, xz2⟩ := hX
              clear hG hBc c0 c1 c2 z0 z1 z2 hck HC HBx
              have hmm := HM.out
              unfold Mis at hmm
              have hcase : ∃ (sil' : Int) (ov : Bool), (ok = true ∧ sil' = 0 ∧ ov = false ∧ n1 = 0) ∨ (ok = false ∧ sil' = sil + 1 ∧ ov = true ∧ n1 = a0 ∧ a0 ≤ sil + 1) ∨ (ok = false ∧ sil' = sil + 1 ∧ ov = false ∧ n1 = sil + 1 ∧ sil + 1 < a0) := by
                rcases hn1 with ⟨e1, e2⟩ | ⟨e1, e2⟩
                · exact ⟨0, false, .inl ⟨e1, rfl, rfl, e2⟩⟩
                · by_cases hq : a0 ≤ sil + 1
                  · refine ⟨sil + 1, true, .inr (.inl ⟨e1, rfl, rfl, ?_, hq⟩)⟩
                    rw [e2]; split <;> omega
                  · refine ⟨sil + 1, false, .inr (.inr ⟨e1, rfl, rfl, ?_, by omega⟩)⟩
                    rw [e2]; split <;> omega
              obtain ⟨sil', ov, hcs⟩ := hcase
              have hrn : RightW a0 n1 n2 := ⟨l1, l2, by omega, by omega, hn2, hn3⟩
              have hmis : Mis a0 sil' n1 := by unfold Mis; omega
              have hov : overW a0 n1 n2 = ov := by
                rw [over_eq hrn]
                rcases hcs with ⟨_, _, rfl, h⟩ | ⟨_, _, rfl, h, _⟩ | ⟨_, _, rfl, h, _⟩
                · exact decide_eq_false (by omega)
                · exact decide_eq_true h
                · exact decide_eq_false (by omega)
              have hOV := fun W => over_any a0 n1 n2 W
              rw [hov] at hOV
              have OV := Lib.hid hOV
              have hRT := fun W => u.right_any a0 n1 n2 W
              rw [right_yes hrn] at hRT
              have RT := Lib.hid hRT
              have HMI := Lib.hid hmis
              clear hOV hRT hov hmis hrn hmm hn1 HM
              rcases hcs with ⟨rfl, rfl, rfl, rfl⟩ | ⟨rfl, rfl, rfl, rfl, hq⟩ | ⟨rfl, rfl, rfl, rfl, hq⟩
              all_goals
                go_wp2_with (first
                  | (go_at_call 12; ((with_reducible refine (OV.out _).mono ?_); rintro e w6 ⟨rfl, hb6⟩; have HB6 := Lib.hid hb6; have HX6 := Lib.hid (HX.out.below hb6 hxc); have HG6 := Lib.hid (HG.out.below hb6 hgc); have s6 := hb6.size; obtain ⟨p0, p1, p2, pz0, pz1, pz2⟩ := HX6.out; clear hb6))
                  | (go_at_call 10; ((with_reducible refine (RT.out _).mono ?_); rintro e w7 ⟨rfl, hb7⟩; have HB7 := Lib.hid (HB6.out.trans (hb7.mono s6)); have HX7 := Lib.hid (HX6.out.below hb7 (Nat.lt_of_lt_of_le hxc s6)); have HG7 := Lib.hid (HG6.out.below hb7 (Nat.lt_of_lt_of_le hgc s6)); have s7 := hb7.size; clear p0 p1 p2 pz0 pz1 pz2; obtain ⟨p0, p1, p2, pz0, pz1, pz2⟩ := HX7.out; obtain ⟨r0, r1, r2, rz0, rz1, rz2⟩ := HG7.out; clear hb7)))
                go_roundw
                case rel =>
                  obtain ⟨W8, e8, hx8, hs8, hb8⟩ := HG7.out.put _ _ n2
                  rw [e8]
                  exact ⟨k + 1, _, _, n2, by omega, by omega, by go_num, rfl, by omega, by omega, HMI.out, hn2, hn3, hx8, HBC.out.trans ((HB7.out.mono HBC.out.size).trans (hb8 _ hg)), by omega⟩
                case measure => simp [intOf]; omega
        · have : k = 300 := by omega
          subst this
          go_wp2
          go_ret
          exact ⟨rfl, HB.out⟩
      · have : k = len1 := by omega
        subst this
        go_wp2
        go_ret
        exact ⟨rfl, HB.out⟩
  · have HN := Lib.hid fun W => new_no a0 (by omega) W
    go_enter Try.func4, Try.ntmps4
    go_wp2_with (first
      | (go_at_call 6; ((with_reducible refine (HK.out _).mono ?_); rintro e w2 ⟨rfl, hb⟩; have HB2 := Lib.hid hb; clear hb))
      | (go_at_call 7; ((with_reducible refine (HN.out _).mono ?_); rintro e w3 ⟨rfl, hb⟩; have HB3 := Lib.hid (HB2.out.trans (hb.mono HB2.out.size)); clear hb)))
    go_ret
    exact ⟨rfl, HB3.out.alloc HB3.out.size _⟩
end Go.Proofs.Ytkgmhchcfpflhaa.watchCounts
