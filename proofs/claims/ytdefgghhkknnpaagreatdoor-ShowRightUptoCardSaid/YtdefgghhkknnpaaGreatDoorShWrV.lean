/- The landed writer's counts and calls, and its statements whole. Conditions: the statement is such that a text could give; what the writer holds stays within 2^47 bytes. -/
import Derived.Test.YtdefgghhkknnpaaGreatDoorV06
namespace Go.Proofs.YtdefgghhkknnpaaGreatDoor.sh
open Go.ChangeShapes Go.WideShapes Go.ChangeAt Go.RowKit Go.Proofs.YtdefgghhkknnpaaGreatDoor Go.Proofs.YtdefgghhkknnpaaGreatDoor.k Go.Proofs.YtdefgghhkknnpaaGreatDoor.rr Go.Proofs.YtdefgghhkknnpaaGreatDoor.tk Go.Proofs.YtdefgghhkknnpaaGreatDoor.tr
set_option linter.unusedVariables false
set_option linter.unusedSimpArgs false

theorem setCell_kind {w : World} {g i : Nat} {v : Value} {c : Array Value} {T : TypeId} (h : w.heap[g]? = some (.cells c T (0, 0))) : ∃ c', (w.setCell ⟨g, i, none⟩ v).heap[g]? = some (.cells c' T (0, 0)) ∧ c'.size = c.size := by
  refine ⟨c.setIfInBounds i v, ?_, by simp⟩
  simp [World.setCell, Array.getElem?_modify, h]
theorem puts_kind {g : Nat} {T : TypeId} : ∀ (vs : List Value) (o : Nat) {w : World} {c : Array Value}, w.heap[g]? = some (.cells c T (0, 0)) → ∃ c', (k.puts w g o vs).heap[g]? = some (.cells c' T (0, 0)) ∧ c'.size = c.size
  | [], _, _, c, h => ⟨c, h, rfl⟩
  | v :: vs, o, w, c, h => by
    obtain ⟨c1, h1, e1⟩ := setCell_kind (i := o) (v := v) h
    obtain ⟨c2, h2, e2⟩ := puts_kind vs (o + 1) h1
    exact ⟨c2, h2, e2.trans e1⟩
theorem hb_of {w : World} {g : Nat} {T : TypeId} {c : Array Value} {vs : List Value} (h : w.heap[g]? = some (.cells c T (0, 0))) (hs : c.size = vs.length) (hb : Box w g 0 vs) : Hb w g T vs := by
  unfold Hb
  rw [h]
  have : c.toList = vs := by
    refine List.ext_getElem? fun i => ?_
    by_cases hi : i < vs.length
    · have h1 := (cell_of hb (i := i) (v := vs[i]) (List.getElem?_eq_getElem hi)).1
      rw [Lib.cell_of_heap h] at h1
      rw [Array.getElem?_toList, h1, List.getElem?_eq_getElem hi]
    · rw [List.getElem?_eq_none (by simpa using by omega), List.getElem?_eq_none (by omega)]
  rw [← this]
/-- a whole value goes into a new variable: its block, whole -/
theorem m_newH {P : Program} {ops : Array Oper} {rest : List Oper} {op : Oper} {a : Act} {w : World} {Q : Exit → Act → World → Prop} {Z : Array Value} (T : TypeId) (t u : Nat) (ho : op.op = .store T (.tmp t) (.tmp u)) (hg : op.guard = none) (hd : op.dst = none) (cs : List Value) (hx : a.eval (.tmp t) = .pointer (some ⟨w.heap.size, 0, none⟩)) (hy : a.eval (.tmp u) = .agg cs.toArray)
    (hl : cs.length = Z.toList.length) (hi : (P.info? T).map (·.size) = some cs.length) (h1 : ∀ v ∈ cs, v.oneCell' = true)
    (h : ∀ w', Hb w' w.heap.size T cs → Below w.heap.size w w' → w'.heap.size = w.heap.size + 1 → wpList P ops Q rest a w') : wpList P ops Q (op :: rest) a (w.alloc (.cells Z T)) := by
  have hb := k.Box.new w Z T
  obtain ⟨W, e, hW, hs, _, _⟩ := k.stored (us := cs) hb hl
  refine wpList_store_mid hg T (.tmp t) (.tmp u) ho w.heap.size 0 cs.toArray hx hy (by rw [show cs.toArray.size = Z.toList.length by rw [← hl]; simp]; exact hb.there) (by rw [show cs.toArray.size = cs.length by simp]; exact hi) (all_oneCell_toArray h1) ?_
  rw [hd]
  show wpList _ _ _ _ a (World.setCells _ _ _ cs)
  have hk : ∃ c', W.heap[w.heap.size]? = some (.cells c' T (0, 0)) ∧ c'.size = Z.size := by
    rw [← e, k.setCells_puts]
    exact puts_kind cs 0 (heap_alloc_new w (.cells Z T))
  have hgr : (w.alloc (.cells Z T)).grownBy W (some w.heap.size) := by rw [← e, k.setCells_puts]; exact gr_puts cs 0 _
  obtain ⟨c', hc', hcs⟩ := hk
  rw [e]
  refine h W (hb_of hc' (by rw [hcs, hl]; simp) hW) ?_ (by rw [hs]; simp)
  exact (al1 w _).trans (gr_below hgr (Nat.le_refl _) (by simp))
theorem ex_row {w : World} {B : Nat} {A : Option Addr} {n c : Nat} {CH : List EH} {cs : List Ex} (h : Rd eC 6 w B A n c CH) (hE : ExsAt w B cs CH) {q : Nat} (hq : q < n) : ∃ x eh b o, cs[q]? = some x ∧ ExAt w B x eh ∧ A = some ⟨b, o, none⟩ ∧ b < B ∧ w.rangeAt b (o + q * 6) (eC eh) := by
  obtain ⟨b, o, eh, hA, hb, hp, hc⟩ := h.at hq
  obtain ⟨x, hx, hxa⟩ := hE.at hp
  exact ⟨x, eh, b, o, hx, hxa, hA, hb, hc⟩
theorem blk_row {w : World} {B : Nat} {A : Option Addr} {n c : Nat} {BH : List Sl} {bs : List (List St)} (h : Rd slC 1 w B A n c BH) (hE : BlksAt w B bs BH) {q : Nat} (hq : q < n) : ∃ x bh b o, bs[q]? = some x ∧ StL w B bh x ∧ A = some ⟨b, o, none⟩ ∧ b < B ∧ w.cell? ⟨b, o + q, none⟩ = some bh.v := by
  obtain ⟨b, o, bh, hA, hb, hp, hc⟩ := h.at hq
  obtain ⟨x, hx, hxa⟩ := hE.at hp
  have a0 := hc 0 _ rfl
  rw [Nat.add_zero, Nat.mul_one] at a0
  exact ⟨x, bh, b, o, hx, hxa, hA, hb, a0⟩
set_option maxRecDepth 100000 in
set_option maxHeartbeats 8000000 in
/-- FOR -/
theorem count_any {h : SH} {cs : List Ex} {b0 : List St} {CH : List EH} {BH : List Sl} {B g : Nat} {l : Str} {w : World} (hK : Wx B g l w)
    (hC : RS eC 6 w B h.conds CH) (hCE : ExsAt w B cs CH) (hR : RS slC 1 w B h.blocks BH) (hE : BlksAt w B [b0] BH) (hcb : exsB cs = true) (hc3 : cs.length = 3) (hCX : BlkC b0)
    (hlen : l.length + (stT 4 h.name [] [] (exsS cs) [] [] (blksS [b0])).length ≤ lim) :
    Calls Tryz.prog 103 #[.pointer (some ⟨g, 0, none⟩), .agg (sC h).toArray] w (Put B g l (stT 4 h.name [] [] (exsS cs) [] [] (blksS [b0])) w) := by
  obtain ⟨x0, x1, x2, rfl⟩ : ∃ a b c, cs = [a, b, c] := by
    match cs, hc3 with
    | [a, b, c], _ => exact ⟨a, b, c, rfl⟩
  have hTx : stT 4 h.name [] [] (exsS [x0, x1, x2]) [] [] (blksS [b0]) = [70, 79, 82, 32] ++ h.name ++ ([32, 58, 61, 32] ++ exS x0 ++ []) ++ ([32, 84, 79, 32] ++ exS x1 ++ []) ++ ([32, 66, 89, 32] ++ exS x2 ++ [32, 68, 79, 10]) ++ stsS b0 ++ [69, 78, 68, 95, 70, 79, 82, 59, 10] := by
    rw [stT, if_neg (by decide), if_neg (by decide), if_neg (by decide), if_pos rfl]
    simp [exsS, blksS]
  rw [hTx] at hlen ⊢
  obtain ⟨T, hT⟩ : ∃ T, [70, 79, 82, 32] ++ h.name ++ ([32, 58, 61, 32] ++ exS x0 ++ []) ++ ([32, 84, 79, 32] ++ exS x1 ++ []) ++ ([32, 66, 89, 32] ++ exS x2 ++ [32, 68, 79, 10]) ++ stsS b0 ++ [69, 78, 68, 95, 70, 79, 82, 59, 10] = T := ⟨_, rfl⟩
  have hl2 := hlen
  rw [hT] at hlen ⊢
  simp only [List.length_append, List.length_cons, List.length_nil] at hl2
  obtain ⟨w1, e1, K1, H1, F1, ng⟩ := hK.box (sC h) 49
  obtain ⟨op, nm, hd, hv, ⟨A1, n, c1⟩, sl2, sl3, ⟨A4, m, c4⟩, ln⟩ := h
  have hC : Rd eC 6 w B A1 n c1 CH := hC
  have hR : Rd slC 1 w B A4 m c4 BH := hR
  have hn1 : CH.length = n := hC.1
  have hm1 : BH.length = m := hR.1
  have hcl := hCE.len
  have hbl := hE.len
  simp only [List.length_cons, List.length_nil] at hcl hbl
  obtain rfl : n = 3 := by omega
  obtain rfl : m = 1 := by omega
  simp only [exsB, Bool.and_eq_true, Bool.and_true] at hcb
  obtain ⟨y0, g0, b1, o1, hy0, ha0, rfl, hb1, r0⟩ := ex_row hC hCE (q := 0) (show 0 < 3 by decide)
  obtain ⟨y1, g1, b1', o1', hy1, ha1, e3, _, r1⟩ := ex_row hC hCE (q := 1) (show 1 < 3 by decide)
  injection e3 with e3
  injection e3 with e4 e5 _
  subst e4 e5
  obtain ⟨y2, g2, b1', o1', hy2, ha2, e3, _, r2⟩ := ex_row hC hCE (q := 2) (show 2 < 3 by decide)
  injection e3 with e3
  injection e3 with e4 e5 _
  subst e4 e5
  obtain ⟨z0, bh, b2, o2, hz0, hza, rfl, hb2, rb⟩ := blk_row hR hE (q := 0) (show 0 < 1 by decide)
  obtain rfl : x0 = y0 := by simpa using hy0
  obtain rfl : x1 = y1 := by simpa using hy1
  obtain rfl : x2 = y2 := by simpa using hy2
  obtain rfl : b0 = z0 := by simpa using hz0
  simp only [Nat.zero_mul, Nat.one_mul, Nat.add_zero] at r0 r1 rb
  have r2 : w.rangeAt b1 (o1 + 12) (eC g2) := r2
  have RR := Lib.hid fun W (hW : Fr B g w W) => And.intro (range_below r0 hW.1 hb1) (And.intro (range_below r1 hW.1 hb1) (And.intro (range_below r2 hW.1 hb1) ((hW.1.cell (p := ⟨b2, o2, none⟩) hb2).trans rb)))
  have X0 := Lib.hid fun W (hW : Fr B g w W) (l' : Str) (hk : Wx B g l' W) hl => around_any (a := [32, 58, 61, 32]) (b := []) hk (ha0.below hW.1 (Nat.le_refl _)) hcb.1 hl
  have X1 := Lib.hid fun W (hW : Fr B g w W) (l' : Str) (hk : Wx B g l' W) hl => around_any (a := [32, 84, 79, 32]) (b := []) hk (ha1.below hW.1 (Nat.le_refl _)) hcb.2.1 hl
  have X2 := Lib.hid fun W (hW : Fr B g w W) (l' : Str) (hk : Wx B g l' W) hl => around_any (a := [32, 66, 89, 32]) (b := [32, 68, 79, 10]) hk (ha2.below hW.1 (Nat.le_refl _)) hcb.2.2 hl
  have CB := Lib.hid fun W (hW : Fr B g w W) (l' : Str) (hk : Wx B g l' W) hl => hCX bh B g l' W hk (hza.below hW.1 (Nat.le_refl _)) hl
  simp only [Sl.v] at CB
  have HT := Lib.hid hT
  have HL := Lib.hid hl2
  have NG := Lib.hid ng
  have K1 := Lib.hid K1
  have H1 := Lib.hid H1
  have F1 := Lib.hid F1
  clear hK ng hC hR hn1 hm1 hcl hbl hE hCE hcb hc3 hlen hl2 hT hTx hy0 hy1 hy2 hz0 ha0 ha1 ha2 hza r0 r1 r2 rb hb1 hb2 hCX
  go_enter Tryz.func103, Tryz.ntmps103
  go_upto_region 1 with (fail)
  subst e1
  generalize w.alloc (.cells (sC ⟨op, nm, hd, hv, ⟨some ⟨b1, o1, none⟩, 3, c1⟩, sl2, sl3, ⟨some ⟨b2, o2, none⟩, 1, c4⟩, ln⟩).toArray 49) = w1 at *
  have c1 := (cell_of H1.out.box (i := 1) rfl).1
  simp only [sv] at c1
  go_wp2_with (go_at_call 35; fail)
  refine (put_new [[70, 79, 82, 32], nm] (t := [70, 79, 82, 32] ++ nm) (by simp) K1.out (by simp) (by have := HL.out; simp only [List.length_append, List.length_cons, List.length_nil]; omega)).mono ?_
  rintro e w2 ⟨rfl, k9, f9⟩
  have K2 := Lib.hid k9
  have F2 := Lib.hid (F1.out.trans f9)
  have H2 := Lib.hid (H1.out.fr f9 NG.out (by decide))
  clear k9 f9 K1 F1 H1 c1
  have c14 := (cell_of H2.out.box (i := 14) rfl).1
  simp only [Sl.v] at c14
  have R9 := Lib.hid (RR.out _ F2.out).1
  go_wp2_with (first | ((with_reducible refine m_loadR R9.out 44 12 ?_ ?_ ?_ ?_ ?_ ?_); rfl; rfl; rfl; rfl; kernel_rfl) | (go_at_call 100; fail))
  refine (X0.out _ F2.out _ K2.out (by have := HL.out; simp only [List.length_append, List.length_cons, List.length_nil]; omega)).mono ?_
  rintro e w3 ⟨rfl, k9, f9⟩
  have K3 := Lib.hid k9
  have F3 := Lib.hid (F2.out.trans f9)
  have H3 := Lib.hid (H2.out.fr f9 NG.out (by decide))
  clear k9 f9 K2 F2 H2 c14 R9 X0
  have c14 := (cell_of H3.out.box (i := 14) rfl).1
  simp only [Sl.v] at c14
  have R9 := Lib.hid (RR.out _ F3.out).2.1
  go_wp2_with (first | ((with_reducible refine m_loadR R9.out 44 18 ?_ ?_ ?_ ?_ ?_ ?_); rfl; rfl; rfl; rfl; kernel_rfl) | (go_at_call 100; fail))
  refine (X1.out _ F3.out _ K3.out (by have := HL.out; simp only [List.length_append, List.length_cons, List.length_nil]; omega)).mono ?_
  rintro e w4 ⟨rfl, k9, f9⟩
  have K4 := Lib.hid k9
  have F4 := Lib.hid (F3.out.trans f9)
  have H4 := Lib.hid (H3.out.fr f9 NG.out (by decide))
  clear k9 f9 K3 F3 H3 c14 R9 X1
  have c14 := (cell_of H4.out.box (i := 14) rfl).1
  simp only [Sl.v] at c14
  have R9 := Lib.hid (RR.out _ F4.out).2.2.1
  go_wp2_with (first | ((with_reducible refine m_loadR R9.out 44 24 ?_ ?_ ?_ ?_ ?_ ?_); rfl; rfl; rfl; rfl; kernel_rfl) | (go_at_call 100; fail))
  refine (X2.out _ F4.out _ K4.out (by have := HL.out; simp only [List.length_append, List.length_cons, List.length_nil]; omega)).mono ?_
  rintro e w5 ⟨rfl, k9, f9⟩
  have K5 := Lib.hid k9
  have F5 := Lib.hid (F4.out.trans f9)
  have H5 := Lib.hid (H4.out.fr f9 NG.out (by decide))
  clear k9 f9 K4 F4 H4 c14 R9 X2
  have c17 := (cell_of H5.out.box (i := 17) rfl).1
  simp only [Sl.v] at c17
  have a0 := (RR.out _ F5.out).2.2.2
  simp only [Sl.v] at a0
  go_wp2_with (go_at_call 38; fail)
  refine (CB.out _ F5.out _ K5.out (by have := HL.out; simp only [List.length_append, List.length_cons, List.length_nil]; omega)).mono ?_
  rintro e w6 ⟨rfl, k9, f9⟩
  have K6 := Lib.hid k9
  have F6 := Lib.hid (F5.out.trans f9)
  clear k9 f9 K5 F5 H5 c17 a0
  go_wp2_with (go_at_call 35; fail)
  refine (put_new [[69, 78, 68, 95, 70, 79, 82, 59, 10]] (t := [69, 78, 68, 95, 70, 79, 82, 59, 10]) rfl K6.out (by decide) (by have := HL.out; simp only [List.length_append, List.length_cons, List.length_nil]; omega)).mono ?_
  rintro e w7 ⟨rfl, k9, f9⟩
  have K7 := Lib.hid (show Wx B g (l ++ T) w7 by rw [← HT.out]; simpa only [List.append_assoc] using k9)
  have F7 := Lib.hid (F6.out.trans f9)
  clear k9 f9 K6 F6
  go_wp2_with fail
  go_end0
  exact ⟨rfl, K7.out, F7.out⟩
theorem str_row {w : World} {B : Nat} {A : Option Addr} {n c : Nat} {L : List Str} (h : Rd tC1 1 w B A n c L) {q : Nat} (hq : q < n) : ∃ x b o, L[q]? = some x ∧ A = some ⟨b, o, none⟩ ∧ b < B ∧ w.cell? ⟨b, o + q, none⟩ = some (sv x) := by
  obtain ⟨b, o, x, hA, hb, hp, hc⟩ := h.at hq
  have a0 := hc 0 _ rfl
  rw [Nat.add_zero, Nat.mul_one] at a0
  exact ⟨x, b, o, hp, hA, hb, a0⟩
set_option maxRecDepth 100000 in
set_option maxHeartbeats 8000000 in
/-- a call -/
theorem call_any {h : SH} {cs : List Ex} {fs : List Str} {CH : List EH} {B g : Nat} {l : Str} {w : World} (hK : Wx B g l w)
    (hC : RS eC 6 w B h.conds CH) (hCE : ExsAt w B cs CH) (hF : RS tC1 1 w B h.fields fs) (hcb : exsB cs = true) (hfb : fs.all nmB = true) (hle : fs.length = cs.length)
    (hlen : l.length + (h.name ++ [40] ++ argT false fs (exsS cs) ++ [41, 59, 10]).length ≤ lim) :
    Calls Tryz.prog 104 #[.pointer (some ⟨g, 0, none⟩), .agg (sC h).toArray] w (Put B g l (h.name ++ [40] ++ argT false fs (exsS cs) ++ [41, 59, 10]) w) := by
  obtain ⟨T, hT⟩ : ∃ T, h.name ++ [40] ++ argT false fs (exsS cs) = T := ⟨_, rfl⟩
  rw [hT] at hlen ⊢
  obtain ⟨TT, hTT⟩ : ∃ TT, T ++ [41, 59, 10] = TT := ⟨_, rfl⟩
  rw [hTT] at hlen ⊢
  obtain ⟨w1, e1, K1, H1, F1, ng⟩ := hK.box (sC h) 49
  obtain ⟨op, nm, hd, hv, ⟨A1, n, c1⟩, sl2, ⟨A3, m, c3⟩, sl4, ln⟩ := h
  have hC : Rd eC 6 w B A1 n c1 CH := hC
  have hF : Rd tC1 1 w B A3 m c3 fs := hF
  have hn1 : CH.length = n := hC.1
  have hm1 : fs.length = m := hF.1
  have hcl := hCE.len
  have hnl := hC.len_le
  obtain rfl : n = m := by omega
  have hLT : l.length + T.length + 3 ≤ lim := by
    rw [← hTT] at hlen
    simp only [List.length_append, List.length_cons, List.length_nil] at hlen
    omega
  have hln : l.length + nm.length + 1 ≤ lim := by
    rw [← hT] at hLT
    simp only [List.length_append, List.length_cons, List.length_nil] at hLT
    omega
  have RC := Lib.hid fun (q : Nat) (hq : q < n) => ex_row hC hCE hq
  have RF := Lib.hid fun (q : Nat) (hq : q < n) => str_row hF hq
  have CXB := Lib.hid fun (q : Nat) (x : Ex) (hq : cs[q]? = some x) => exsB_at' hcb hq
  have FXB := Lib.hid fun (q : Nat) (x : Str) (hq : fs[q]? = some x) => (show nmB x = true from by
    rw [List.all_eq_true] at hfb
    exact hfb x (List.mem_of_getElem? hq))
  have HT := Lib.hid hT
  have HTT := Lib.hid hTT
  have HL := Lib.hid hLT
  have HLN := Lib.hid hln
  have HN := Lib.hid (And.intro hm1 (show cs.length = n by omega))
  have NG := Lib.hid ng
  have K1 := Lib.hid K1
  have H1 := Lib.hid H1
  have F1 := Lib.hid F1
  clear hK ng hC hF hn1 hm1 hcl hCE hcb hfb hle hlen hT hTT hLT hln
  go_enter Tryz.func104, Tryz.ntmps104
  go_upto_region 1 with (fail)
  subst e1
  generalize w.alloc (.cells (sC ⟨op, nm, hd, hv, ⟨A1, n, c1⟩, sl2, ⟨A3, n, c3⟩, sl4, ln⟩).toArray 49) = w1 at *
  have c1 := (cell_of H1.out.box (i := 1) rfl).1
  simp only [sv] at c1
  go_wp2_with (go_at_call 35; fail)
  refine (put_new [nm, [40]] (t := nm ++ [40]) (by simp) K1.out (by simp) (by have := HLN.out; simp only [List.length_append, List.length_cons, List.length_nil]; omega)).mono ?_
  rintro e w2 ⟨rfl, k9, f9⟩
  have K2 := Lib.hid k9
  have F2 := Lib.hid f9
  clear k9 f9 K1 c1
  have h2 := H1.out.fr F2.out NG.out (by decide)
  have c14 := (cell_of h2.box (i := 14) rfl).1
  simp only [Sl.v] at c14
  clear h2
  go_upto_region 3 with (fail)
  clear c14
  go_loopw [14] (fun s14 wr => ∃ (q : Nat) (t1 : Str), q ≤ n ∧ s14 = .int .i64 q ∧ t1 ++ argT (decide (0 < q)) (fs.drop q) (exsS (cs.drop q)) = T ∧ Wx B g (l ++ t1) wr ∧ Fr B g w1 wr) (fun i _ => n - (intOf i).toNat)
  case atStart => exact ⟨0, nm ++ [40], Nat.zero_le _, rfl, by rw [List.drop_zero, List.drop_zero]; exact HT.out, K2.out, F2.out⟩
  case round =>
    obtain ⟨q, t1, hq, rfl, ht, hk, hf⟩ := hrel
    by_cases hlt : q < n
    rotate_left
    · obtain rfl : q = n := by omega
      have hz : ¬ (q : Int) < q := by omega
      rw [List.drop_of_length_le (l := fs) (by have := HN.out; omega), argT, List.append_nil] at ht
      subst ht
      have FF := Lib.hid (F1.out.trans hf)
      have KK := Lib.hid hk
      clear hk hf
      go_wp2_with (go_at_call 35; fail)
      refine (put_new [[41, 59, 10]] (t := [41, 59, 10]) rfl KK.out (by decide) (by have h1 := HL.out; simp only [List.length_append, List.length_cons, List.length_nil]; omega)).mono ?_
      rintro e w4 ⟨rfl, k9, f9⟩
      rw [List.append_assoc, HTT.out] at k9
      have K4 := Lib.hid k9
      have F4 := Lib.hid (FF.out.trans f9)
      clear k9 f9 FF KK
      go_wp2_with fail
      go_end0
      exact ⟨rfl, K4.out, F4.out⟩
    obtain ⟨x, eh, b1, o1, hx, hxa, rfl, hb1, hc1⟩ := RC.out q hlt
    obtain ⟨f, b3, o3, hfq, rfl, hb3, hc3⟩ := RF.out q hlt
    have hxb := CXB.out q x hx
    have hfb := FXB.out q f hfq
    rw [drop_at hfq, exs_at hx, argT] at ht
    obtain ⟨sp, hsp⟩ : ∃ sp : Str, (if decide (0 < q) = true then [44, 32] else []) = sp := ⟨_, rfl⟩
    have ht2 : (t1 ++ (sp ++ (f ++ [32, 58, 61, 32]) ++ exS x)) ++ argT (decide (0 < q + 1)) (fs.drop (q + 1)) (exsS (cs.drop (q + 1))) = T := by
      rw [← ht, hsp, show decide (0 < q + 1) = true from decide_eq_true (by omega)]
      simp only [List.append_assoc, List.headD_cons, List.drop_succ_cons, List.drop_zero]
    have hlT : l.length + t1.length + sp.length + f.length + 4 + (exS x).length ≤ lim := by
      have h1 := HL.out
      rw [← ht2] at h1
      simp only [List.length_append, List.length_cons, List.length_nil] at h1
      omega
    have w1' := nat_step q (by omega)
    have hci := Lib.hid (range_below hc1 (F1.out.trans hf).1 hb1)
    have FC := Lib.hid fun W (hW : Fr B g w W) => (hW.1.cell (p := ⟨b3, o3 + q, none⟩) hb3).trans hc3
    have hcat0 : ¬ 9223372036854775807 < (⟨f.toArray⟩ : ByteArray).size + 4 := by rw [sz_sv]; have := nm_len hfb; omega
    have HCAT := Lib.hid hcat0
    have KK := Lib.hid hk
    have FF := Lib.hid hf
    have XA := Lib.hid hxa
    have XB := Lib.hid hxb
    have HSP := Lib.hid hsp
    have HT2 := Lib.hid ht2
    have HLX := Lib.hid hlT
    have LT := Lib.hid hlt
    have W1 := Lib.hid w1'
    obtain ⟨mm, hm⟩ : ∃ m, decide (0 < q) = m := ⟨_, rfl⟩
    have HM := Lib.hid hm
    clear hc1 hk hf hxa hxb hfb hx hfq ht ht2 hlT hb1 hb3 hc3 hsp hm hcat0 w1' RC RF
    go_upto_region 5 with (first | ((with_reducible refine m_loadR hci.out 44 17 ?_ ?_ ?_ ?_ ?_ ?_); rfl; rfl; rfl; rfl; kernel_rfl) | ((with_reducible refine m_newH 44 5 18 ?_ ?_ ?_ (eC eh) ?_ ?_ ?_ ?_ (eC_one _) ?_); rfl; rfl; rfl; rfl; rfl; rfl; kernel_rfl; intro w4 hx hb hz))
    have ngx := Lib.hid (show wr.heap.size ≠ g by have := KK.out.wr.lt; omega)
    have X4 := Lib.hid hx
    have K4 := Lib.hid (KK.out.below hb)
    have F4 := Lib.hid (FF.out.trans (Fr.of hb KK.out.le))
    clear hx hb hz hci KK FF hlt
    cases mm
    all_goals
      first
        | (have hx : Hid (decide (0 < q) = false) := HM
           have h0 : ¬ (0 : Int) < q := by have := of_decide_eq_false HM.out; omega
           have K5 := Lib.hid (show Wx B g (l ++ (t1 ++ sp)) w4 by rw [← HSP.out, HM.out, if_neg (by decide), List.append_nil]; exact K4.out)
           have F5 := Lib.hid F4.out
           have X5 := Lib.hid X4.out
           clear K4 F4 X4 hx)
        | (have h0 : (0 : Int) < q := by have := of_decide_eq_true HM.out; omega
           have sp2 : [44, 32] = sp := by rw [← HSP.out, HM.out]; rfl
           have P1 := Lib.hid (put_new [[44, 32]] (t := [44, 32]) rfl K4.out (by decide) (by have := HLX.out; rw [← sp2] at this; simp only [List.length_append]; simp only [List.length_cons, List.length_nil] at this ⊢; omega))
           have SP2 := Lib.hid sp2
           clear sp2
           go_wp2_with (go_at_call 35; fail)
           refine P1.out.mono ?_
           rintro e w5 ⟨rfl, k9, f9⟩
           have K5 := Lib.hid (show Wx B g (l ++ (t1 ++ sp)) w5 by rw [← SP2.out, ← List.append_assoc]; exact k9)
           have F5 := Lib.hid (F4.out.trans f9)
           have X5 := Lib.hid (X4.out.fr f9 ngx.out (by decide))
           clear k9 f9 P1 K4 F4 X4)
      go_upto_region 7 with (fail)
      have ⟨r0, _, r1, _, r2, _, r3, _, r4, _, r5, _, _⟩ := X5.out.box
      have c16 := (cell_of (H1.out.fr F5.out NG.out (by decide)).box (i := 16) rfl).1
      have cf := FC.out _ (F1.out.trans F5.out)
      simp only [sv, Sl.v] at r2 r3 r4 c16 cf
      obtain ⟨xs, hxs⟩ : ∃ z, (⟨f.toArray⟩ : ByteArray) = z := ⟨_, rfl⟩
      have hcat0 := HCAT.out
      have hlt := LT.out
      rw [hxs] at cf hcat0
      have HX := Lib.hid hxs
      clear hxs
      refine still_named 8 (by kernel_rfl) ?_
      intro w6 hc2 _ hb2 _
      rw [← hc2] at r0 r1 r2 r3 r4 r5 c16 cf
      have K6 := Lib.hid (K5.out.drew hb2)
      have F6 := Lib.hid (F5.out.trans (Fr.of (hb2 _) K5.out.le))
      clear hc2 hb2 K5 F5 X5 h0
      simp only [List.take_succ_cons, List.take_zero, List.drop_succ_cons, List.drop_zero]
      repeat still_step
      refine wpStill_nil ?_
      rw [show xs ++ ⟨#[32, 58, 61, 32]⟩ = ⟨(f ++ [32, 58, 61, 32]).toArray⟩ by rw [← HX.out]; exact cat_sv f [32, 58, 61, 32]]
      clear r0 r1 r2 r3 r4 r5 c16 cf hcat0 hlt
      go_wp2_with (go_at_call 100; fail)
      refine (around_any (a := f ++ [32, 58, 61, 32]) (b := []) K6.out (XA.out.below (F1.out.trans F6.out).1 (Nat.le_refl _)) XB.out (by have := HLX.out; simp only [List.length_append, List.length_cons, List.length_nil]; omega)).mono ?_
      rintro e w7 ⟨rfl, k9, f9⟩
      have K7 := Lib.hid (show Wx B g (l ++ (t1 ++ (sp ++ (f ++ [32, 58, 61, 32]) ++ exS x))) w7 by simpa only [List.append_assoc, List.append_nil] using k9)
      have F7 := Lib.hid (F6.out.trans f9)
      have w1' := W1.out
      clear k9 f9 K6 F6
      go_wp2_with fail
      go_roundw
      case rel => exact ⟨q + 1, t1 ++ (sp ++ (f ++ [32, 58, 61, 32]) ++ exS x), by have := LT.out; omega, by go_num, HT2.out, K7.out, F7.out⟩
      case measure => have := LT.out; simp [intOf]; omega
end Go.Proofs.YtdefgghhkknnpaaGreatDoor.sh
