/- The count of statements' parts: the given function of it. Condition: at most 2^40 parts. -/
import Derived.Test.YtdefgghhkknnpaaGreatDoorV09
import Derived.Test.YtdefgghhkknnpaaGreatDoorV07
import Derived.Test.YtdefgghhkknnpaaGreatDoorShRoA
namespace Go.Proofs.YtdefgghhkknnpaaGreatDoor.sh
open Go.ChangeShapes Go.WideShapes Go.ChangeAt Go.RowKit Go.Proofs.YtdefgghhkknnpaaGreatDoor Go.Proofs.YtdefgghhkknnpaaGreatDoor.k Go.Proofs.YtdefgghhkknnpaaGreatDoor.rr Go.Proofs.YtdefgghhkknnpaaGreatDoor.tk Go.Proofs.YtdefgghhkknnpaaGreatDoor.tr
set_option linter.unusedVariables false
set_option linter.unusedSimpArgs false

theorem bs_LE (a b : Sl) (w : World) : (Instr.buildSlice 102 2 #[(0, a.v), (1, b.v)]).run Tryz.prog w = .ok (.slice (some ⟨w.heap.size, 0, none⟩) 2 2) (w.alloc (.cells (slC a ++ slC b).toArray 42)) := by kernel_rfl
theorem slC_len (s : Sl) : (slC s).length = 1 := rfl
theorem two_rows {w : World} {B : Nat} {A : Option Addr} {a b : Sl} {x y : List Ex} (h : Rd slC 1 w B A 2 2 [a, b]) (ha : ExL w B a x) (hb : ExL w B b y) {j : Nat} (hj : j < 2) : ∃ b3 o3 s l, A = some ⟨b3, o3, none⟩ ∧ b3 < B ∧ w.cell? ⟨b3, o3 + j, none⟩ = some (Sl.v s) ∧ [x, y][j]? = some l ∧ ExL w B s l := by
  obtain ⟨b3, o3, s, hA, hb3, hp, hc⟩ := h.at hj
  have a0 := hc 0 _ rfl
  rw [Nat.add_zero, Nat.mul_one] at a0
  rcases (show j = 0 ∨ j = 1 by omega) with rfl | rfl
  · obtain rfl : a = s := by simpa using hp
    exact ⟨b3, o3, a, x, hA, hb3, a0, rfl, ha⟩
  · obtain rfl : b = s := by simpa using hp
    exact ⟨b3, o3, b, y, hA, hb3, a0, rfl, hb⟩
theorem zc_drop {L : List (List Ex)} {i : Nat} {x : List Ex} (h : L[i]? = some x) (m n d : Int) : zc m n d (L.drop i) = zc m (n + (zL (m - n) 0 0 x).1) (max d ((zL (m - n) 0 0 x).2 + 1)) (L.drop (i + 1)) := by
  obtain ⟨h1, h2⟩ := List.getElem?_eq_some_iff.1 h
  rw [List.drop_eq_getElem_cons h1, zc, h2]
def SzS (N : Nat) : Prop := ∀ L : List St, SizeOf.sizeOf L < N → wsS L ≤ 1099511627776 → ∀ (m : Int), -1099511627776 ≤ m → m ≤ 1099511627776 → ∀ (s : Sl) (w : World), StL w w.heap.size s L → Calls Tryz.prog 26 #[s.v, .int .i64 m] w fun e w' => e = .returned (.tuple #[.int .i64 (zLs m 0 0 L).1, .int .i64 (zLs m 0 0 L).2]) ∧ Below w.heap.size w w'
theorem wS_parts (xo : Int) (xnm : Str) (xd xv : Ex) (xcs : List Ex) (xls : List (List Int)) (xfs : List Str) (xbs : List (List St)) (xl : Int) : wS (.mk xo xnm xd xv xcs xls xfs xbs xl) = 1 + (wE xd + wE xv) + wsE xcs + wL xls + xfs.length + wsB xbs := by rw [wS]
set_option maxRecDepth 100000 in
set_option maxHeartbeats 40000000 in
theorem size_s_step {N : Nat} (IH : SzS N) : SzS (N + 1) := by
  intro L hN hW m hm1 hm2 s w hx
  obtain ⟨H, hR, hE⟩ := hx
  obtain ⟨A, n0, cap⟩ := s
  have hR : Rd sC 19 w w.heap.size A n0 cap H := hR
  have hnl := hR.len_le
  have hl0 : L.length = n0 := hE.len.symm.trans hR.1
  obtain ⟨Z, hZ⟩ : ∃ Z, zLs m 0 0 L = Z := ⟨_, rfl⟩
  rw [hZ]
  obtain ⟨z1, z2⟩ := Z
  have HZ := Lib.hid hZ
  have R1 := Lib.hid hR
  have E1 := Lib.hid hE
  have HL := Lib.hid hl0
  have HN := Lib.hid hN
  have HI := Lib.hid IH
  have HM := Lib.hid (And.intro hm1 (And.intro hm2 hW))
  clear hZ hR hE hl0 hN IH hm1 hm2 hW
  simp only [Sl.v]
  go_enter Tryz.func26, Tryz.ntmps26
  go_upto_region 3 with (fail)
  go_loopw [6, 7, 8] (fun s6 s7 s8 wr => ∃ (q : Nat) (n d : Int), q ≤ n0 ∧ s6 = .int .i64 n ∧ s7 = .int .i64 d ∧ s8 = .int .i64 q ∧ 0 ≤ n ∧ 0 ≤ d ∧ n + wsS (L.drop q) ≤ 1099511627776 ∧ d + wsS (L.drop q) ≤ 1099511627776 ∧ Below w.heap.size w wr ∧ zLs m n d (L.drop q) = (z1, z2)) (fun _ _ i _ => n0 - (intOf i).toNat)
  case atStart => exact ⟨0, 0, 0, Nat.zero_le _, rfl, rfl, rfl, by omega, by omega, by have := HM.out; rw [List.drop_zero]; omega, by have := HM.out; rw [List.drop_zero]; omega, Below.refl _ _, HZ.out⟩
  case round =>
    obtain ⟨q, n, d, hq, rfl, rfl, rfl, hn, hd, hnw, hdw, hbw, hz⟩ := hrel
    by_cases hlt : q < n0
    rotate_left
    · obtain rfl : q = n0 := by omega
      have hzz : ¬ (q : Int) < q := by omega
      rw [List.drop_of_length_le (by have := HL.out; omega), zLs] at hz
      injection hz with e1 e2
      subst e1 e2
      have BB := Lib.hid hbw
      clear hnw hdw hbw hlt hq
      go_wp2_with fail
      go_ret2
      exact ⟨rfl, BB.out⟩
    have r1 : Rd sC 19 wr wr.heap.size A n0 cap H := (R1.out.below hbw).more hbw.size
    obtain ⟨b1, o1, h, rfl, hb1, hp, hc1⟩ := r1.at hlt
    obtain ⟨x, hxL, hxa⟩ := E1.out.at hp
    have hsz := mem_size hxL
    rw [zLs_drop hxL] at hz
    have hlt' : (q : Int) < n0 := by omega
    by_cases hnm : n ≤ m
    rotate_left
    · rw [if_neg hnm] at hz
      injection hz with e1 e2
      subst e1 e2
      have BB := Lib.hid hbw
      clear hnw hdw hbw hq hc1 hp hxL hxa hsz r1
      go_wp2_with fail
      go_ret2
      exact ⟨rfl, BB.out⟩
    rw [if_pos hnm] at hz
    rw [wsS_drop hxL] at hnw hdw
    have hm := HM.out
    have hzx := zSt_le x m (n + 1) d (by omega) (by omega) hd
    obtain ⟨Y, hY⟩ : ∃ Y, zSt m (n + 1) d x = Y := ⟨_, rfl⟩
    rw [hY] at hz hzx
    obtain ⟨y1, y2⟩ := Y
    simp only at hz hzx
    obtain ⟨xo, xnm, xd, xv, xcs, xls, xfs, xbs, xl⟩ := x
    unfold StAt at hxa
    obtain ⟨h1, h2, h3, h4, h5, h6, ⟨LH, h7, h8⟩, h9, BH, h10, h11⟩ := hxa
    have ll : xls.length = h.labels.l := h8.len.symm.trans h7.1
    have lf : xfs.length = h.fields.l := h9.1
    have lb : xbs.length = h.blocks.l := h11.len.symm.trans h10.1
    rw [zSt, ll, lf] at hY
    simp only [St.mk.sizeOf_spec] at hsz
    obtain ⟨C, hC⟩ : ∃ C, zc m (n + 1) d [[xd, xv], xcs] = C := ⟨_, rfl⟩
    have hcl := zc_le [[xd, xv], xcs] m (n + 1) d hd
    rw [hC] at hY hcl
    obtain ⟨c1, c2⟩ := C
    simp only at hY hcl
    obtain ⟨k3, hk3⟩ : ∃ k, zlab m (c1 + (min (h.labels.l : Int) (m + 1) + min (h.fields.l : Int) (m + 1))) xls = k := ⟨_, rfl⟩
    have hkl := zlab_le xls m (c1 + (min (h.labels.l : Int) (m + 1) + min (h.fields.l : Int) (m + 1))) (by omega)
    rw [hk3] at hY hkl
    have hBl := zB_le xbs m k3 c2 (by omega) (by omega)
    rw [hY] at hBl
    simp only at hBl
    have w1 : wrap64 ((q : Int) + 1) = q + 1 := by unfold wrap64; omega
    have wn1 : wrap64 (n + 1) = n + 1 := by unfold wrap64; omega
    -- what is known of the numbers
    have hc1l : c1 ≤ 1099511627776 := by omega
    have hc2l : c2 ≤ 1099511627776 := by omega
    have hk3l : k3 ≤ 1099511627776 := by omega
    have HB1 := Lib.hid (show 0 ≤ n ∧ n ≤ m ∧ m ≤ 1099511627776 ∧ 0 ≤ d ∧ n + 1 ≤ c1 ∧ d ≤ c2 ∧ c1 ≤ 1099511627776 ∧ c2 ≤ 1099511627776 ∧ k3 ≤ 1099511627776 ∧ y1 ≤ 1099511627776 ∧ y2 ≤ 1099511627776 from ⟨hn, hnm, by omega, hd, by omega, by omega, hc1l, hc2l, hk3l, by omega, by omega⟩)
    have HF := Lib.hid (show 0 ≤ y1 ∧ 0 ≤ y2 ∧ y1 + wsS (L.drop (q + 1)) ≤ 1099511627776 ∧ y2 + wsS (L.drop (q + 1)) ≤ 1099511627776 by omega)
    have hwx := wS_parts xo xnm xd xv xcs xls xfs xbs xl
    have HWW := Lib.hid (show wsE [xd, xv] ≤ 1099511627776 ∧ wsE xcs ≤ 1099511627776 ∧ wsB xbs ≤ 1099511627776 ∧ SizeOf.sizeOf xbs ≤ N from ⟨by rw [wsE, wsE, wsE]; omega, by omega, by omega, by have := HN.out; omega⟩)
    have HC := Lib.hid hC
    have HK3 := Lib.hid hk3
    have HY := Lib.hid hY
    have HZ2 := Lib.hid hz
    have HQ : Hid (q + 1 ≤ n0) := Lib.hid hlt
    have HW1 := Lib.hid w1
    have HDX := Lib.hid fun W (hW : Below w.heap.size w W) => (h4.below hW hW.size : ExAt W W.heap.size xd h.dst)
    have HVX := Lib.hid fun W (hW : Below w.heap.size w W) => (h5.below hW hW.size : ExAt W W.heap.size xv h.val)
    have HCX := Lib.hid fun W (hW : Below w.heap.size w W) => (h6.below hW hW.size : ExL W W.heap.size h.conds xcs)
    have H7 := Lib.hid (And.intro h7 h8)
    have H10 := Lib.hid (And.intro h10 h11)
    have HLN := Lib.hid (show (h.labels.l : Int) ≤ 9223372036854775807 ∧ (h.fields.l : Int) ≤ 9223372036854775807 ∧ (h.blocks.l : Int) ≤ 9223372036854775807 ∧ xls.length = h.labels.l ∧ xbs.length = h.blocks.l from ⟨Rd.len_le h7, Rd.len_le h9, Rd.len_le h10, ll, lb⟩)
    have BB := Lib.hid hbw
    have hci := Lib.hid hc1
    clear hz hzx hnw hdw hbw r1 hp hb1 hc1 hxL hsz h1 h2 h3 h4 h5 h6 h7 h8 h9 h10 h11 hq hY ll lf lb hC hcl hk3 hkl hBl hm hwx w1 hn hd hc1l hc2l hk3l
    go_upto_region 6 with (fail)
    rw [wn1]
    clear wn1
    go_upto_region 8 with (first | ((with_reducible refine m_loadR hci.out 49 33 ?_ ?_ ?_ ?_ ?_ ?_); rfl; rfl; rfl; rfl; kernel_rfl) | ((with_reducible refine m_new 49 9 34 ?_ ?_ ?_ (sC h) ?_ ?_ ?_ ?_ (sC_one _) ?_); rfl; rfl; rfl; rfl; rfl; rfl; kernel_rfl; intro wx hx hb hz; have XX0 := Lib.hid hx; have BX0 := Lib.hid (BB.out.trans (hb.mono BB.out.size)); have ZX0 := Lib.hid (show wr.heap.size < wx.heap.size by omega); have c14 := (cell_of hx (i := 14) rfl).1; clear hx hb hz hci) | ((with_reducible refine m_loadR (st_dst XX0.out) 44 35 ?_ ?_ ?_ ?_ ?_ ?_); rfl; rfl; rfl; rfl; kernel_rfl) | ((with_reducible refine m_loadR (st_val XX0.out) 44 37 ?_ ?_ ?_ ?_ ?_ ?_); rfl; rfl; rfl; rfl; kernel_rfl) | ((with_reducible refine m_slice2 eC_len h.dst h.val 42 44 36 38 (.agg (eC h.dst).toArray) (.agg (eC h.val).toArray) (eC h.dst ++ eC h.val).toArray ?_ ?_ ?_ ?_ (bs_E2 h.dst h.val) ?_ ?_); rfl; rfl; rfl; rfl; rfl; intro w2 hrb hb1 hz1; have RB1 := Lib.hid hrb; have HBB1 := Lib.hid hb1; have HZ1 := Lib.hid hz1; have c14 := (cell_of (XX0.out.below hb1 ZX0.out) (i := 14) rfl).1; clear hrb hb1 hz1) | ((with_reducible refine m_slice2 slC_len ⟨some ⟨wx.heap.size, 0, none⟩, 2, 2⟩ h.conds 102 42 39 41 (Sl.v ⟨some ⟨wx.heap.size, 0, none⟩, 2, 2⟩) (Sl.v h.conds) (slC ⟨some ⟨wx.heap.size, 0, none⟩, 2, 2⟩ ++ slC h.conds).toArray ?_ ?_ ?_ ?_ (bs_LE _ _) ?_ ?_); rfl; rfl; rfl; rfl; rfl; intro wy hrb hb1 hz1; have RB2 := Lib.hid hrb; have HBB2 := Lib.hid hb1; have HZ3 := Lib.hid hz1; clear hrb hb1 hz1))
    have BY := Lib.hid ((BX0.out.trans (HBB1.out.mono BX0.out.size)).trans (HBB2.out.mono (Nat.le_trans BX0.out.size HBB1.out.size)))
    have BX2 := BX0.out.trans (HBB1.out.mono BX0.out.size)
    have XY := Lib.hid ((XX0.out.below HBB1.out ZX0.out).below HBB2.out (by have := ZX0.out; have := HBB1.out.size; omega))
    have RY : Hid (Rd slC 1 wy wy.heap.size (some ⟨w2.heap.size, 0, none⟩) 2 2 [⟨some ⟨wx.heap.size, 0, none⟩, 2, 2⟩, h.conds]) := Lib.hid (RB2.out.toAt (B := wy.heap.size) (fun b hb => by rw [HZ3.out]; exact hb.2))
    have EY0 : Hid (ExL wy wy.heap.size ⟨some ⟨wx.heap.size, 0, none⟩, 2, 2⟩ [xd, xv]) := Lib.hid (ExL.below (show ExL w2 w2.heap.size ⟨some ⟨wx.heap.size, 0, none⟩, 2, 2⟩ [xd, xv] from ⟨[h.dst, h.val], RB1.out.toAt (B := w2.heap.size) (fun b hb => by rw [HZ1.out]; exact hb.2), ⟨h.dst, [h.val], rfl, HDX.out _ BX2, ⟨h.val, [], rfl, HVX.out _ BX2, rfl⟩⟩⟩) HBB2.out HBB2.out.size)
    have EY1 := Lib.hid (HCX.out _ BY.out)
    have ZG := Lib.hid (show wr.heap.size < wy.heap.size ∧ w2.heap.size < wy.heap.size by have := ZX0.out; have := HZ1.out; have := HZ3.out; omega)
    obtain ⟨g, hg⟩ : ∃ g, wr.heap.size = g := ⟨_, rfl⟩
    obtain ⟨g2, hg2⟩ : ∃ g, w2.heap.size = g := ⟨_, rfl⟩
    rw [hg] at XY ZG
    rw [hg2] at RY ZG
    rw [hg, hg2]
    clear hg hg2 BX2 XX0 BX0 ZX0 RB1 RB2 HBB1 HBB2 HZ1 HZ3 HDX HVX HCX c14
    go_loopw [6, 7, 44] (fun s6 s7 s44 wl => ∃ (j : Nat) (n' d' : Int), j ≤ 2 ∧ s6 = .int .i64 n' ∧ s7 = .int .i64 d' ∧ s44 = .int .i64 j ∧ n + 1 ≤ n' ∧ d ≤ d' ∧ Below wy.heap.size wy wl ∧ zc m n' d' ([[xd, xv], xcs].drop j) = (c1, c2)) (fun _ _ i _ => 2 - (intOf i).toNat)
    case atStart => exact ⟨0, n + 1, d, by omega, rfl, rfl, rfl, by omega, by omega, Below.refl _ _, by rw [List.drop_zero]; exact HC.out⟩
    case round =>
      obtain ⟨j, n', d', hj, rfl, rfl, rfl, hn', hd', hb, hz⟩ := hrel
      have BL := Lib.hid hb
      have hh := HB1.out
      by_cases hlj : j < 2
      · have hlj' : (j : Int) < 2 := by clear hh hz hn' hd'; omega
        have hj1 : j + 1 ≤ 2 := hlj
        have w5 : wrap64 ((j : Int) + 1) = j + 1 := by clear hh hz hn' hd'; unfold wrap64; omega
        obtain ⟨b3, o3, s, l, hA, hb3, hc, hl, hE⟩ := two_rows RY.out EY0.out EY1.out hlj
        injection hA with hA
        injection hA with e1 e2 _
        subst e1 e2
        rw [zc_drop hl] at hz
        have hzl := zL_le l (m - n') 0 0 (by omega) (by omega)
        have hle := zc_le ([[xd, xv], xcs].drop (j + 1)) m (n' + (zL (m - n') 0 0 l).1) (max d' ((zL (m - n') 0 0 l).2 + 1)) (by omega)
        rw [hz] at hle
        simp only at hle
        have hwl : wsE l ≤ 1099511627776 := by
          clear hle hzl hh hz hn' hd'
          rcases (show j = 0 ∨ j = 1 by omega) with rfl | rfl
          · obtain rfl : [xd, xv] = l := by simpa using hl
            exact HWW.out.1
          · obtain rfl : xcs = l := by simpa using hl
            exact HWW.out.2.1
        have a0 := (hb.cell (p := ⟨g2, 0 + j, none⟩) hb3).trans hc
        obtain ⟨As, ls, cs⟩ := s
        simp only [Sl.v] at a0
        obtain ⟨Y, hY⟩ : ∃ Y, zL (m - n') 0 0 l = Y := ⟨_, rfl⟩
        rw [hY] at hz hzl hle
        obtain ⟨k, e⟩ := Y
        simp only at hz hzl hle
        have hk0 : 0 ≤ k := hzl.1
        have he0 : 0 ≤ e := hzl.2.2.1
        have hle1 : n' + k ≤ c1 := hle.1
        have hle2 : e + 1 ≤ c2 := Int.le_trans (Int.le_max_right _ _) hle.2.2.1
        clear hle hzl
        have hmn1 : -1099511627776 ≤ m - n' := by omega
        have hmn2 : m - n' ≤ 1099511627776 := by omega
        have SC := refsize_any hwl hmn1 hmn2 (hE.below hb hb.size)
        rw [hY] at SC
        simp only [Sl.v] at SC
        have w1 : wrap64 (m - n') = m - n' := by clear hz hn' hd'; unfold wrap64; omega
        have w3 : wrap64 (n' + k) = n' + k := by clear hz; unfold wrap64; omega
        have w4 : wrap64 (e + 1) = e + 1 := by clear hz; unfold wrap64; omega
        have HS := Lib.hid SC
        have HJ := Lib.hid (show j + 1 ≤ 2 ∧ n + 1 ≤ n' + k ∧ d ≤ max d' (e + 1) from ⟨hj1, Int.le_trans hn' (Int.le_add_of_nonneg_right hk0), Int.le_trans hd' (Int.le_max_left _ _)⟩)
        have HZZ := Lib.hid hz
        clear hz hwl hE hl hc hb3 SC hb hh hY hj hn' hd' hk0 he0 hle1 hle2 hmn1 hmn2 hj1
        rw [Nat.zero_add] at a0
        go_wp2_with (go_at_call 50; fail)
        refine HS.out.mono ?_
        rintro e9 w9 ⟨rfl, hb⟩
        have B9 := Lib.hid (BL.out.trans (hb.mono BL.out.size))
        clear hb HS a0 BL w1
        go_wp2_with fail
        go_roundw
        case rel => exact ⟨j + 1, n' + k, max d' (e + 1), HJ.out.1, by rw [w3], rfl, by go_num, HJ.out.2.1, HJ.out.2.2, B9.out, HZZ.out⟩
        case measure => simp [intOf]; omega
      · obtain rfl : j = 2 := by omega
        have hz : (n', d') = (c1, c2) := hz
        injection hz with e1 e2
        subst e1 e2
        have hzj : ¬ ((2 : Nat) : Int) < 2 := by omega
        have XA := Lib.hid (XY.out.below BL.out ZG.out.1)
        have c15 := (cell_of XA.out (i := 15) rfl).1
        have c16 := (cell_of XA.out (i := 16) rfl).1
        simp only [Sl.v] at c15 c16
        have w1 : wrap64 (m + 1) = m + 1 := by unfold wrap64; omega
        have w3 : wrap64 (min (h.labels.l : Int) (m + 1) + min (h.fields.l : Int) (m + 1)) = min (h.labels.l : Int) (m + 1) + min (h.fields.l : Int) (m + 1) := by unfold wrap64; omega
        have w4 : wrap64 (n' + (min (h.labels.l : Int) (m + 1) + min (h.fields.l : Int) (m + 1))) = n' + (min (h.labels.l : Int) (m + 1) + min (h.fields.l : Int) (m + 1)) := by unfold wrap64; omega
        have HN0 := Lib.hid (show 0 ≤ n' + (min (h.labels.l : Int) (m + 1) + min (h.fields.l : Int) (m + 1)) by omega)
        clear hb hh hj hn' hd' hlj
        go_upto_region 16 with (fail)
        try rw [w4]
        clear w1 w3 w4 c15 c16 hzj XA
        go_loopw [6, 14] (fun s6 s14 wl => ∃ (j : Nat) (n3 : Int), j ≤ h.labels.l ∧ s6 = .int .i64 n3 ∧ s14 = .int .i64 j ∧ 0 ≤ n3 ∧ Below wy.heap.size wy wl ∧ zlab m n3 (xls.drop j) = k3) (fun _ i _ => h.labels.l - (intOf i).toNat)
        case atStart => exact ⟨0, _, by omega, rfl, rfl, HN0.out, BL.out, by rw [List.drop_zero]; exact HK3.out⟩
        case round =>
          obtain ⟨j, n3, hj, rfl, rfl, hn3, hb, hz⟩ := hrel
          clear BL HN0
          have BL := Lib.hid hb
          have XA := Lib.hid (XY.out.below BL.out ZG.out.1)
          have c15 := (cell_of XA.out (i := 15) rfl).1
          simp only [Sl.v] at c15
          have hh := HB1.out
          have hln := HLN.out
          by_cases hgo : j < h.labels.l ∧ n3 ≤ m
          · have hlj' : (j : Int) < h.labels.l := Int.ofNat_lt.2 hgo.1
            have w5 : wrap64 ((j : Int) + 1) = j + 1 := by have := hln.1; clear hh hz hn3; unfold wrap64; omega
            have w1 : wrap64 (m + 1) = m + 1 := by have := hh.1; have := hh.2.1; have := hh.2.2.1; clear hh hz hln; unfold wrap64; omega
            obtain ⟨y, hy⟩ : ∃ y, xls[j]? = some y := ⟨_, List.getElem?_eq_getElem (Nat.lt_of_lt_of_eq hgo.1 hln.2.2.2.1.symm)⟩
            obtain ⟨b4, o4, sl, hA, hb4, hc, hya, -⟩ := lab_nth H7.out.1 H7.out.2 hy
            have BWL := BY.out.trans (hb.mono BY.out.size)
            have a0 := (BWL.cell (p := ⟨b4, o4 + j, none⟩) hb4).trans hc
            rw [hA] at c15
            have ly : y.length = sl.l := hya.1
            have lyl := Rd.len_le hya
            obtain ⟨As, lz, cs⟩ := sl
            simp only [Sl.v] at a0 ly lyl
            rw [zlab_drop hy, if_pos hgo.2, ly] at hz
            have hk2 := (zlab_le (xls.drop (j + 1)) m (n3 + min (lz : Int) (m + 1)) (Int.le_trans hh.1 hh.2.1)).1
            rw [hz] at hk2
            have hk3 := hh.2.2.2.2.2.2.2.2.1
            have hmm := Int.le_trans hh.1 hh.2.1
            have hnn := hgo.2
            skip
            have w3 : wrap64 (n3 + min (lz : Int) (m + 1)) = n3 + min (lz : Int) (m + 1) := by clear hh hz; unfold wrap64; omega
            have hnm' := hgo.2
            have HJ := Lib.hid (show j + 1 ≤ h.labels.l ∧ 0 ≤ n3 + min (lz : Int) (m + 1) from ⟨hgo.1, by clear hk2 hh hln w1 w3 w5 hz; omega⟩)
            have HZZ := Lib.hid hz
            clear hz hk2 hk3 hmm hnn hgo hb hh hln hj hn3 hy hA hb4 hc hya BWL ly
            go_wp2_with fail
            go_roundw
            case rel => exact ⟨j + 1, n3 + min (lz : Int) (m + 1), HJ.out.1, by rw [w3], by rw [w5] <;> rfl, HJ.out.2, BL.out, HZZ.out⟩
            case measure =>
              have hq := HJ.out.1
              rw [w5]
              show h.labels.l - (j + 1) < h.labels.l - j
              omega
          · have hcase : (n3 = k3 ∧ ¬ (j : Int) < h.labels.l) ∨ (n3 = k3 ∧ (j : Int) < h.labels.l ∧ ¬ n3 ≤ m) := by
              by_cases hjl : j < h.labels.l
              · have hnn : ¬ n3 ≤ m := fun hc => hgo ⟨hjl, hc⟩
                rw [zlab_stop hnn] at hz
                exact Or.inr ⟨hz, by omega, hnn⟩
              · rw [List.drop_of_length_le (by omega), zlab] at hz
                exact Or.inl ⟨hz, by omega⟩
            have hjl0 := hln.1
            clear hz hgo hb hh hln hj
            rcases hcase with ⟨rfl, hcc⟩ | ⟨rfl, hcc, hcd⟩
            all_goals
              go_upto_region 20 with (fail)
              clear c15 hcc hjl0
              try clear hcd
              go_loopw [6, 7, 15] (fun s6 s7 s15 wl => ∃ (j : Nat) (n4 d4 : Int), j ≤ h.blocks.l ∧ s6 = .int .i64 n4 ∧ s7 = .int .i64 d4 ∧ s15 = .int .i64 j ∧ 0 ≤ n4 ∧ 0 ≤ d4 ∧ Below wy.heap.size wy wl ∧ zB m n4 d4 (xbs.drop j) = (y1, y2)) (fun _ _ i _ => h.blocks.l - (intOf i).toNat)
              case atStart => exact ⟨0, _, _, by omega, rfl, rfl, rfl, hn3, by have := HB1.out; omega, BL.out, by rw [List.drop_zero]; exact HY.out⟩
              case round =>
                obtain ⟨j, n4, d4, hj, rfl, rfl, rfl, hn4, hd4, hb, hz⟩ := hrel
                clear BL XA hn3
                have BL := Lib.hid hb
                have XA := Lib.hid (XY.out.below BL.out ZG.out.1)
                have c17 := (cell_of XA.out (i := 17) rfl).1
                simp only [Sl.v] at c17
                have hh := HB1.out
                have hln := HLN.out
                have hkj := zB_le (xbs.drop j) m n4 d4 hn4 hd4
                rw [hz] at hkj
                simp only at hkj
                by_cases hgo : j < h.blocks.l ∧ n4 ≤ m
                · have hlj' : (j : Int) < h.blocks.l := Int.ofNat_lt.2 hgo.1
                  have w6 : wrap64 ((j : Int) + 1) = j + 1 := by have := hln.2.2.1; clear hh hz hkj hn4 hd4; unfold wrap64; omega
                  obtain ⟨y, hy⟩ : ∃ y, xbs[j]? = some y := ⟨_, List.getElem?_eq_getElem (Nat.lt_of_lt_of_eq hgo.1 hln.2.2.2.2.symm)⟩
                  obtain ⟨b5, o5, bh, hA, hb5, hc, hya, -⟩ := blk_nth H10.out.1 H10.out.2 hy
                  have BWL := BY.out.trans (hb.mono BY.out.size)
                  have a0 := (BWL.cell (p := ⟨b5, o5 + j, none⟩) hb5).trans hc
                  rw [hA] at c17
                  rw [zB_drop hy, if_pos hgo.2] at hz
                  have hwy : wsS y ≤ 1099511627776 := by have := wsB_mem (List.mem_of_getElem? hy); have := HWW.out.2.2.1; clear hz hkj hh; omega
                  have hzl := zLs_le y (m - n4) 0 0 (by decide) (by decide)
                  obtain ⟨Y, hY⟩ : ∃ Y, zLs (m - n4) 0 0 y = Y := ⟨_, rfl⟩
                  rw [hY] at hz hzl
                  obtain ⟨k, e⟩ := Y
                  simp only at hz hzl
                  have hk0 : 0 ≤ k := hzl.1
                  have he0 : 0 ≤ e := hzl.2.2.1
                  have hk1 : k ≤ 1099511627776 := by have := hzl.2.1; clear hz hkj hh hzl; omega
                  have he1 : e ≤ 1099511627776 := by have := hzl.2.2.2; clear hz hkj hh hzl; omega
                  clear hzl
                  have hmn1 : -1099511627776 ≤ m - n4 := by have := hgo.2; clear hz hkj; omega
                  have hmn2 : m - n4 ≤ 1099511627776 := by clear hz hkj; omega
                  have SC := HI.out y (by have := HWW.out.2.2.2; have := mem_size hy; clear hz hkj hh; omega) hwy (m - n4) hmn1 hmn2 bh _ (StL.below hya BWL BWL.size)
                  rw [hY] at SC
                  obtain ⟨As, lz, cs⟩ := bh
                  simp only [Sl.v] at a0 SC
                  have hn4l : n4 ≤ 1099511627776 := by have := hgo.2; clear hz hkj; omega
                  have w1 : wrap64 (m - n4) = m - n4 := by clear hz hkj hh; unfold wrap64; omega
                  have w3 : wrap64 (k + 1) = k + 1 := by clear hz hkj hh; unfold wrap64; omega
                  have w4 : wrap64 (n4 + (k + 1)) = n4 + (k + 1) := by clear hz hkj hh; unfold wrap64; omega
                  have w5 : wrap64 (e + 1) = e + 1 := by clear hz hkj hh; unfold wrap64; omega
                  have hnm' := hgo.2
                  have HS := Lib.hid SC
                  have HJ := Lib.hid (show j + 1 ≤ h.blocks.l ∧ 0 ≤ n4 + (k + 1) ∧ 0 ≤ max d4 (e + 1) from ⟨hgo.1, Int.add_nonneg hn4 (Int.add_nonneg hk0 (by decide)), Int.le_trans hd4 (Int.le_max_left _ _)⟩)
                  have HZZ := Lib.hid hz
                  clear hz hkj hgo hb hh hln hj hn4 hd4 hy hA hb5 hc hya BWL hwy SC hY hk0 he0 hk1 he1 hmn1 hmn2 hn4l
                  go_wp2_with (go_at_call 26; fail)
                  refine HS.out.mono ?_
                  rintro e9 w9 ⟨rfl, hb⟩
                  have B9 := Lib.hid (BL.out.trans (hb.mono BL.out.size))
                  clear hb HS a0 BL w1 c17
                  go_wp2_with fail
                  go_roundw
                  case rel => exact ⟨j + 1, n4 + (k + 1), max d4 (e + 1), HJ.out.1, by rw [w4], rfl, by rw [w6] <;> rfl, HJ.out.2.1, HJ.out.2.2, B9.out, HZZ.out⟩
                  case measure =>
                    have hq := HJ.out.1
                    rw [w6]
                    show h.blocks.l - (j + 1) < h.blocks.l - j
                    omega
                · have hcase : (((n4, d4) : Int × Int) = (y1, y2) ∧ ¬ (j : Int) < h.blocks.l) ∨ (((n4, d4) : Int × Int) = (y1, y2) ∧ (j : Int) < h.blocks.l ∧ ¬ n4 ≤ m) := by
                    by_cases hjl : j < h.blocks.l
                    · have hnn : ¬ n4 ≤ m := fun hc => hgo ⟨hjl, hc⟩
                      rw [zB_stop hnn] at hz
                      exact Or.inr ⟨hz, by omega, hnn⟩
                    · rw [List.drop_of_length_le (by omega), zB] at hz
                      exact Or.inl ⟨hz, by omega⟩
                  have B9 := Lib.hid (BY.out.trans (BL.out.mono BY.out.size))
                  have w1 := HW1.out
                  clear hz hkj hgo hb hh hln hj
                  rcases hcase with ⟨he, hcc⟩ | ⟨he, hcc, hcd⟩
                  all_goals
                    injection he with e1 e2
                    subst e1 e2
                    go_wp2_with fail
                    go_roundw
                    case rel => exact ⟨q + 1, n4, d4, HQ.out, rfl, rfl, by go_num, HF.out.1, HF.out.2.1, HF.out.2.2.1, HF.out.2.2.2, B9.out, HZ2.out⟩
                    case measure => have := HQ.out; simp [intOf]; omega
theorem size_s_all : ∀ N, SzS N
  | 0 => fun _ h => absurd h (by omega)
  | N + 1 => size_s_step (size_s_all N)
theorem refsizes_any {L : List St} (hW : wsS L ≤ 1099511627776) {m : Int} (h1 : -1099511627776 ≤ m) (h2 : m ≤ 1099511627776) {s : Sl} {w : World} (hx : StL w w.heap.size s L) : Calls Tryz.prog 26 #[s.v, .int .i64 m] w fun e w' => e = .returned (.tuple #[.int .i64 (zLs m 0 0 L).1, .int .i64 (zLs m 0 0 L).2]) ∧ Below w.heap.size w w' :=
  size_s_all (SizeOf.sizeOf L + 1) L (by omega) hW m h1 h2 s w hx
end Go.Proofs.YtdefgghhkknnpaaGreatDoor.sh
