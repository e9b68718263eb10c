/- What happen, tell, aborted do to a cycle. No condition beyond what each line says. What busy, now, leave, abort, fail do to a cycle. No condition beyond what each line says. What axis' small functions answer: within, isOffset, Bounds, isPlace, isVelocity, still, begins, isMove, beyond, joint; what was in memory is as it was. No condition beyond what each line says. What axis.Bounds, isPlace, isVelocity, still, joint answer of an axis; what was in memory is as it was. No condition beyond what each line says. What a cycle's methods that only read answer: runsOut, cause, part, mayCome, mayWait, mayGo, base, place; what was in memory is as it was. No condition beyond what each line says. What a cycle's base, place, blends and passes answer; what was in memory is as it was. No condition beyond what each line says. When a command is taken, as the landed checks have it. No condition beyond what each line says. What slices.Clone answers of rows; what axis.again, at, shifted answer; what was in memory is as it was. No condition beyond what each line says. What axis.at, again, shifted answer; what was in memory is as it was. No condition beyond what each line says. What axis.shifted answers; what was in memory is as it was. No condition beyond what each line says. -/
import Derived.Test.YtijlccblabadaaaGreatU02
import Derived.Test.YtijlccblabadaaaGreatV04
import Derived.Test.YtijlccblabadaaaGreatV03
import Derived.Test.YtijlccblabadaaaGreatV06
import Derived.Test.YtijlccblabadaaaGreatV05
section
namespace Go.Proofs.YtijlccblabadaaaGreat.cx
open Go.ChangeShapes Go.WideShapes Go.ChangeAt Go.RowKit Go.Proofs.YtijlccblabadaaaGreat.k Go.Proofs.YtijlccblabadaaaGreat.rr Go.Proofs.YtijlccblabadaaaGreat.ax
open Go.Proofs.YtijlccblabadaaaGreat.ln (C RdC RdI iC cC cV)
set_option linter.unusedVariables false
set_option maxRecDepth 100000
section
variable {base g : Nat} {i : In} {L : Sl} {a : Ax} {R : List Rp} {fr pa : Bool} {w : World} {tb : Option Nat}
set_option maxHeartbeats 2000000 in
theorem happen_any (h : Cyc base g i L tb a R fr pa w) (ev : Int) :
  Calls Tryz.prog 90 #[.pointer (some ⟨g, 0, none⟩), .int .i64 ev] w (Does base g i L tb w { a with st := ed.nxS a.st ev } R fr pa) := by
 obtain ⟨S, N, W, T, h, ht⟩ := h
 have H := lh h
 have ⟨d0, f0⟩ := k.cell_of h.box (i := 0) rfl
 have HL := h.lt
 have CN := lh fun w => ed.next_any a.st ev w
 clear h
 go_enter Tryz.func90, Tryz.ntmps90
 go_wp2_with (go_at_call 23; ((with_reducible refine (CN.out _).mono ?_); rintro e w1 ⟨rfl, hb⟩; clear d0 f0; have H1 := lh (H.out.below hb); have HB := lh hb; have HL1 := H1.out.lt; have ⟨d0, f0⟩ := k.cell_of H1.out.box (i := 0) rfl; clear hb))
 exact end0 rfl rfl ⟨rfl, Did.mk' HB.out ((Only.refl g _).set 0 _) (H1.out.as ((Only.refl g _).set 0 _) (k.Box.put H1.out.box 0 (by simp) _) rfl rfl rfl) ht⟩
theorem rps_slice : Tryz.prog.underlying 52 = some (.slice 58) := by kernel_rfl
theorem rp_info : (Tryz.prog.info? 58).map (fun i => (i.zero, i.size, i.bytes)) = some (some (.agg #[.int .i64 0, .int .i64 0]), 2, 16) := by kernel_rfl
theorem rp_one (r : Rp) : ∀ u ∈ rpC r, u.oneCell' = true := by
 intro u hu
 simp only [rpC, List.mem_cons, List.not_mem_nil, or_false] at hu
 rcases hu with rfl | rfl <;> rfl
theorem or_form {w : World} {b : Nat} {v : Value} {l : List Rp} (h : OwR w b v l) : ∃ T : Sl, v = T.v := by
 obtain ⟨A', c', e, hr⟩ := h.form rpC_len
 exact ⟨⟨A', _, c'⟩, e⟩
set_option maxHeartbeats 2000000 in
theorem tell_any (h : Cyc base g i L tb a R fr pa w) (hR : R.length ≤ 10000) (id what : Int) :
  Calls Tryz.prog 71 #[.pointer (some ⟨g, 0, none⟩), .int .i64 id, .int .i64 what] w (Does base g i L tb w a (R ++ [(id, what)]) fr pa) := by
 obtain ⟨S, N, W, T, h, ht⟩ := h
 have ⟨d0, f0⟩ := k.cell_of h.box (i := 38) rfl
 have hl := h.lt
 have hw := (Below.refl w.heap.size w).alloc (Nat.le_refl _) (.cells #[.int .i64 id, .int .i64 what] 58)
 have H := lh (h.below hw)
 have HB := lh hw
 have HZ : Hid (g + 1 ≤ (w.alloc (.cells #[.int .i64 id, .int .i64 what] 58)).heap.size) := lh (by simp; omega)
 have HM := lh hR
 clear h hw hR
 go_enter Tryz.func71, Tryz.ntmps71
 go_wp2_with (at_builtin; refine wpList_append_row rpC_len (by omega) rp_one rps_slice rp_info rfl (by omega) _ rfl (.tmp 10) (.tmp 14) rfl (g + 1) T.v R rfl H.out.told (w.heap.size + 1) (some ⟨w.heap.size, 0, none⟩) 1 1 [(id, what)] rfl (one_row w _ (id, what) _ rfl) (by have := HM.out; simp; omega) HZ.out ?_; intro v1 w1 hown hg hat; obtain ⟨T1, rfl⟩ := or_form hown; have O1 := lh hown; have G1 := lh hg; have A1 := lh hat; have ⟨d0, f0⟩ := k.cell_of (H.out.box_grown hg) (i := 38) rfl; clear hown hg hat)
 obtain ⟨h1, h2⟩ := H.out.told_on G1.out O1.out A1.out
 rw [ht] at h2
 exact end0 rfl rfl ⟨rfl, _, ⟨S, N, W, T1, h1, rfl⟩, ((Fx.refl g tb w).below HB.out).trans h2⟩
def Out (g : Nat) (tb : Option Nat) (s : Sl) : Prop := ∀ q, (q = g ∨ tb = some q) → Off q s
theorem rd_over {α : Type} {enc : α → List Value} {z : Nat} {w w' : World} {s : Sl} {K : List α} (h : Rd enc z w w.heap.size s.A s.n s.c K) (ho : Out g tb s) (hf : Fr g tb w w') : Rd enc z w' w'.heap.size s.A s.n s.c K :=
 rd_kept (fun q => q = g ∨ tb = some q) h hf.size ho fun q hq hP => hf.block q hq (fun e => hP (.inl e)) fun e => hP (.inr e)
theorem Cyc.out_new (h : Cyc base g i L tb a R fr pa w) {A : Option Addr} {n c : Nat} (hn : ln.New w A) : Out g tb ⟨A, n, c⟩ := fun q hq _ b o x e => by
 have h1 := hn b o x e
 have h2 := h.lt
 rcases hq with rfl | hq
 ·omega
 ·have := (h.tb_lt hq).2; omega
theorem take_snoc {α : Type} {K : List α} {j : Nat} {x : α} (h : K[j]? = some x) : K.take (j + 1) = K.take j ++ [x] := by
 rw [List.take_add_one, h]; rfl
theorem toldI_snoc {I : List Int} {j : Nat} {x : Int} (h : I[j]? = some x) (R : List Rp) (k : Int) : (R ++ toldI (I.take j) k) ++ [(x, k)] = R ++ toldI (I.take (j + 1)) k := by
 rw [take_snoc h]
 unfold toldI
 simp
set_option maxHeartbeats 2000000 in
theorem aborted_any (h : Cyc base g i L tb a R fr pa w) (I : List Int) {A : Option Addr} {n c : Nat} (hI : RdI w w.heap.size A n c I) (ho : Out g tb ⟨A, n, c⟩) (hR : R.length + I.length ≤ 10000) :
  Calls Tryz.prog 72 #[.pointer (some ⟨g, 0, none⟩), .slice A n c] w (Does base g i L tb w a (R ++ toldI I 3) fr pa) := by
 have H := lh h
 have HI := lh hI
 have HO := lh ho
 have HR := lh hR
 have hlen := hI.len_le
 clear h hI ho hR
 go_enter Tryz.func72, Tryz.ntmps72
 go_wp2
 go_loopw [8] (fun q wr => ∃ (j : Nat) (tb' : Option Nat), j ≤ n ∧ q = .int .i64 j ∧ Cyc base g i L tb' a (R ++ toldI (I.take j) 3) fr pa wr ∧ Fx g tb w tb' wr) (fun q _ => n - (intOf q).toNat)
 case atStart => exact ⟨0, tb, Nat.zero_le _, rfl, by simpa [toldI] using H.out, Fx.refl _ _ _⟩
 case round =>
  obtain ⟨j, tb', hj, rfl, hc, hf⟩ := hrel
  have HC := lh hc
  have HF := lh hf
  clear hc hf
  by_cases hlt : j < n
  ·obtain ⟨b, off, x, e, hb, hx, hr⟩ := (rd_over HI.out HO.out HF.out.fr).at hlt
   dsimp only at e
   subst e
   have c0 := hr 0 _ rfl
   rw [Nat.mul_one, Nat.add_zero] at c0
   have HX := lh hx
   have hj0 : (0 : Int) ≤ (j : Int) := by omega
   have hj1 : (j : Int) < (n : Int) := by omega
   have HT := lh (tell_any HC.out (by
    have h1 := HR.out
    have h2 := HI.out.1
    rw [List.length_append, toldI, List.length_map, List.length_take]; omega) x 3)
   clear hr hx hlt
   go_wp2_with (go_at_call 71; ((with_reducible refine (HT.out).mono ?_); rintro e w2 ⟨rfl, tb2, hd, hf2⟩; have HD := lh hd; have HF2 := lh (HF.out.trans hf2); clear hd hf2))
   go_roundw
   case rel => exact ⟨j + 1, tb2, by omega, by go_num, by rw [← toldI_snoc HX.out]; exact HD.out, HF2.out⟩
   case measure => simp [intOf]; omega
  ·have hjn : j = n := by omega
   have HE : Hid (I.take j = I) := lh (List.take_of_length_le (by have := HI.out.1; omega))
   go_wp2
   exact end0 rfl rfl ⟨rfl, tb', by rw [← HE.out]; exact HC.out, HF.out⟩
end
end Go.Proofs.YtijlccblabadaaaGreat.cx
end
section
namespace Go.Proofs.YtijlccblabadaaaGreat.cx
open Go.ChangeShapes Go.WideShapes Go.ChangeAt Go.RowKit Go.Proofs.YtijlccblabadaaaGreat.k Go.Proofs.YtijlccblabadaaaGreat.rr Go.Proofs.YtijlccblabadaaaGreat.ax
open Go.Proofs.YtijlccblabadaaaGreat.ln (C RdC RdI iC cC cV lnV)
set_option linter.unusedVariables false
set_option maxRecDepth 100000
section
variable {base g : Nat} {i : In} {L : Sl} {a : Ax} {R : List Rp} {fr pa : Bool} {w : World} {tb : Option Nat}
theorem busy_any (h : Cyc base g i L tb a R fr pa w) {b : Bool} (hb : (!a.N.isEmpty) = b) :
  Calls Tryz.prog 112 #[.pointer (some ⟨g, 0, none⟩)] w fun e w' => e = .returned (.bool b) ∧ w = w' := by
 obtain ⟨S, N, W, T, h, ht⟩ := h
 have ⟨d0, f0⟩ := k.cell_of h.box (i := 14) rfl
 have hn := h.rows.N.1
 have HV : Hid (decide ((0 : Int) < (N.n : Int)) = b) := lh (by
  rw [← hb, ← hn]
  cases a.N <;> simp)
 clear h ht hn hb
 go_enter Tryz.func112, Tryz.ntmps112
 go_wp2
 go_ret
 exact ⟨ret_bool (by have h := HV.out; simpa using h), rfl⟩
set_option maxHeartbeats 2000000 in
theorem now_any (h : Cyc base g i L tb a R fr pa w) {c : C} {t : List C} (hN : a.N = c :: t) :
  Calls Tryz.prog 100 #[.pointer (some ⟨g, 0, none⟩)] w fun e w' => e = .returned (cV c) ∧ Below w.heap.size w w' := by
 obtain ⟨S, N, W, T, h, ht⟩ := h
 have hn := h.rows.N
 have hp : 0 < N.n := by have := hn.1; rw [hN] at this; simp at this; omega
 obtain ⟨b, off, x, e, hb, hx, hr⟩ := hn.at (i := 0) hp
 have hl := h.lt
 rw [hN] at hx
 have e2 : c = x := by simpa using hx
 subst e2
 have hw := (Below.refl w.heap.size w).alloc (Nat.le_refl _) (.cells #[.int .i64 0, .int .i64 0, .int .i64 0, .int .i64 0, .int .i64 0, .int .i64 0, .int .i64 0] 62)
 have hl2 : g < (w.alloc (.cells #[.int .i64 0, .int .i64 0, .int .i64 0, .int .i64 0, .int .i64 0, .int .i64 0, .int .i64 0] 62)).heap.size := by simp; omega
 obtain ⟨x1, x2, x3⟩ := k.boxes1 (w := w) (c1 := #[.int .i64 0, .int .i64 0, .int .i64 0, .int .i64 0, .int .i64 0, .int .i64 0, .int .i64 0]) (t1 := 62) (Below.refl _ _)
 have X : Hid (k.Box _ w.heap.size 0 _) := lh x1
 have hr2 := range_below hr hw hb
 have hbb : b < (w.alloc (.cells #[.int .i64 0, .int .i64 0, .int .i64 0, .int .i64 0, .int .i64 0, .int .i64 0, .int .i64 0] 62)).heap.size := by simp; omega
 have ⟨d0, f0⟩ := k.cell_of (h.box.below hw hl) (i := 14) rfl
 rw [e] at d0
 rw [Nat.zero_mul, Nat.add_zero] at hr2
 have c0 := hr2 0 _ rfl
 have c1 := hr2 1 _ rfl
 have c2 := hr2 2 _ rfl
 have c3 := hr2 3 _ rfl
 have c4 := hr2 4 _ rfl
 have c5 := hr2 5 _ rfl
 have c6 := hr2 6 _ rfl
 rw [Nat.add_zero] at c0
 have HB := lh hw
 have hn1 : (0 : Int) < (N.n : Int) := by omega
 have hne : w.heap.size ≠ b := by omega
 have hng : w.heap.size ≠ g := by omega
 clear h ht hn hp e hx hr hr2 hN hw x1 x2
 go_enter Tryz.func100, Tryz.ntmps100
 go_upto_region 1 with fail
 generalize w.alloc (.cells #[.int .i64 0, .int .i64 0, .int .i64 0, .int .i64 0, .int .i64 0, .int .i64 0, .int .i64 0] 62) = w2 at *
 obtain ⟨i1, i2, i3⟩ := k.Box.puts (us := cC c) X.out rfl
 have ⟨z0, zf0⟩ := k.cell_of X.out (i := 0) rfl
 have ⟨z1, zf1⟩ := k.cell_of X.out (i := 1) rfl
 have ⟨z2, zf2⟩ := k.cell_of X.out (i := 2) rfl
 have ⟨z3, zf3⟩ := k.cell_of X.out (i := 3) rfl
 have ⟨z4, zf4⟩ := k.cell_of X.out (i := 4) rfl
 have ⟨z5, zf5⟩ := k.cell_of X.out (i := 5) rfl
 have ⟨z6, zf6⟩ := k.cell_of X.out (i := 6) rfl
 have I1 := lh i1
 have I3 := lh (i3 w.heap.size (Nat.le_refl _))
 clear i1 i2 i3
 go_wp2
 exact bodyPost_ret (k.results_cell rfl rfl (run_loadVar_mid (k.puts w2 w.heap.size 0 (cC c)) w.heap.size 0 62 _ _ I1.out.range rfl rfl (by kernel_rfl))) rfl ⟨rfl, HB.out.trans I3.out⟩
theorem Cy.relined {S N W T : Sl} (h : Cy base g i L a S N W T R fr pa w) {w1 w2 : World} (hb : Below w.heap.size w w1) (ho : Only g w1 w2) {A A' : Option Addr} {n c m c' : Nat} {N1 W1 : List C} (hN : RdC w1 w1.heap.size A n c N1) (hW : RdC w1 w1.heap.size A' m c' W1) (n1 : ln.New w A) (n2 : ln.New w A')
  (hbox : k.Box w2 g 0 (cyC { a with N := N1, W := W1 } S ⟨A, n, c⟩ ⟨A', m, c'⟩ i L T fr pa)) : Cy base g i L { a with N := N1, W := W1 } S ⟨A, n, c⟩ ⟨A', m, c'⟩ T R fr pa w2 :=
 have hl := h.lt
 have hg := h.hg
 (h.below hb).to ho hbox ⟨((h.below hb).rows).S, hN, hW⟩ ⟨h.off.S, off_new n1 hl, off_new n2 hl⟩ (fun q hq => ⟨(h.new q hq).S, off_new n1 (by omega), off_new n2 (by omega)⟩)
  fun b hb2 => ⟨(h.offT b hb2).S, off_new n1 (h.tb_lt hb2).2, off_new n2 (h.tb_lt hb2).2⟩
theorem short_n {α : Type} {enc : α → List Value} {z : Nat} {w : World} {B : Nat} {A : Option Addr} {n c : Nat} {K : List α} (h : Rd enc z w B A n c K) (hl : K.length ≤ 1000) : n ≤ 1000 := by rw [← h.1]; exact hl
set_option maxHeartbeats 4000000 in
theorem leave_some (h : Cyc base g i L tb a R fr pa w) (hr : ln.RightL a.N a.W) {c : C} {t : List C} (hN : a.N = c :: t) (hR : R.length ≤ 9000) (what : Int) :
  Calls Tryz.prog 91 #[.pointer (some ⟨g, 0, none⟩), .int .i64 what] w (Does base g i L tb w (leaves a) (R ++ [(c.id, what)]) fr pa) := by
 have HB := lh (busy_any h (b := true) (by rw [hN]; rfl))
 obtain ⟨S, N, W, T, h, ht⟩ := h
 have H := lh h
 have hl := h.lt
 have ⟨d0, f0⟩ := k.cell_of h.box (i := 14) rfl
 have ⟨d1, f1⟩ := k.cell_of h.box (i := 15) rfl
 have HE := lh (ln.end_own a.N a.W h.rows.N h.rows.W (Nat.le_refl _) (short_n h.rows.N (by have := hr.2.1; omega)) (short_n h.rows.W (by have := hr.2.2.1; omega)))
 rw [show ln.endN a.N a.W = a.W.take 1 from if_pos hr, show ln.endW a.N a.W = a.W.drop 1 from if_pos hr, show ln.endI a.N a.W = c.id by unfold ln.endI; rw [if_pos hr, hN]] at HE
 have HM := lh hR
 clear h hr hN hR
 go_enter Tryz.func91, Tryz.ntmps91
 go_wp2_with (go_at_call 112; ((with_reducible refine (HB.out).mono ?_); rintro e w0 ⟨rfl, rfl⟩))
 go_wp2_with (go_at_call 118; ((with_reducible refine (HE.out).mono ?_); rintro e w1 ⟨A, n, cc, A', m, cc', rfl, hn, hw, hb, n1, n2⟩; have B1 := lh hb; have RN := lh hn; have RW := lh hw; have N1 := lh n1; have N2 := lh n2; clear d0 f0 d1 f1; have ⟨d0, f0⟩ := k.cell_of (H.out.below hb).box (i := 14) rfl; have ⟨d1, f1⟩ := k.cell_of (H.out.below hb).box (i := 15) rfl; have hl1 := (H.out.below hb).lt; clear hb hn hw n1 n2))
 go_wp2_with (go_at_call 71; fail)
 have ho := ((Only.refl g w1).set 14 (.slice A n cc)).set 15 (.slice A' m cc')
 have hw2 := (Below.refl ((w1.setCell ⟨g, 14, none⟩ (.slice A n cc)).setCell ⟨g, 15, none⟩ (.slice A' m cc')).heap.size ((w1.setCell ⟨g, 14, none⟩ (.slice A n cc)).setCell ⟨g, 15, none⟩ (.slice A' m cc'))).alloc (Nat.le_refl _) (.cells #[.slice A n cc, .slice A' m cc'] 31)
 have h2 := (H.out.relined B1.out ho RN.out RW.out N1.out N2.out (k.Box.put (k.Box.put (H.out.below B1.out).box 14 (by simp) _) 15 (by simp) _)).below hw2
 have hf := (((Fx.refl g tb w).below B1.out).only ho).below hw2
 refine (tell_any ⟨_, _, _, _, h2, ht⟩ (by have := HM.out; omega) c.id what).mono ?_
 rintro e w3 ⟨rfl, hd⟩
 go_wp2
 exact end0 rfl rfl ⟨rfl, Did.trans hf hd⟩
theorem leave_none (h : Cyc base g i L tb a R fr pa w) (hN : a.N = []) (what : Int) :
  Calls Tryz.prog 91 #[.pointer (some ⟨g, 0, none⟩), .int .i64 what] w (Does base g i L tb w a R fr pa) := by
 have HB := lh (busy_any h (b := false) (by rw [hN]; rfl))
 have H := lh h
 clear h hN
 go_enter Tryz.func91, Tryz.ntmps91
 go_wp2_with (go_at_call 112; ((with_reducible refine (HB.out).mono ?_); rintro e w0 ⟨rfl, rfl⟩))
 exact end0 rfl rfl ⟨rfl, Did.of H.out⟩
set_option maxHeartbeats 4000000 in
theorem abort_any (h : Cyc base g i L tb a R fr pa w) (hr : ln.RightL a.N a.W) (hR : R.length ≤ 9000) :
  Calls Tryz.prog 92 #[.pointer (some ⟨g, 0, none⟩)] w (Does base g i L tb w { a with N := [], W := [] } (R ++ told (a.N ++ a.W) 3) fr pa) := by
 obtain ⟨S, N, W, T, h, ht⟩ := h
 have H := lh h
 have hl := h.lt
 have ⟨d0, f0⟩ := k.cell_of h.box (i := 14) rfl
 have ⟨d1, f1⟩ := k.cell_of h.box (i := 15) rfl
 have HE := lh (ln.clear_own a.N a.W h.rows.N h.rows.W (Nat.le_refl _) (short_n h.rows.N (by have := hr.2.1; omega)) (short_n h.rows.W (by have := hr.2.2.1; omega)))
 have HI : Hid (ln.clearI a.N a.W = ln.ids (a.N ++ a.W)) := lh (if_pos hr)
 have HL : Hid ((a.N ++ a.W).length ≤ 10) := lh (by rw [List.length_append]; have := hr.2.1; have := hr.2.2.1; omega)
 rw [HI.out] at HE
 have HM := lh hR
 clear h hr hR HI
 go_enter Tryz.func92, Tryz.ntmps92
 go_wp2_with (go_at_call 119; ((with_reducible refine (HE.out).mono ?_); rintro e w1 ⟨A, n, cc, A', m, cc', D, q, d, rfl, hn, hw, hi, hb, n1, n2, n3⟩; have B1 := lh hb; have RN := lh hn; have RW := lh hw; have RI := lh hi; have N1 := lh n1; have N2 := lh n2; have N3 := lh n3; clear d0 f0 d1 f1; have ⟨d0, f0⟩ := k.cell_of (H.out.below hb).box (i := 14) rfl; have ⟨d1, f1⟩ := k.cell_of (H.out.below hb).box (i := 15) rfl; have hl1 := (H.out.below hb).lt; clear hb hn hw hi n1 n2 n3))
 go_wp2_with (go_at_call 72; fail)
 have ho := ((Only.refl g w1).set 14 (.slice A n cc)).set 15 (.slice A' m cc')
 have hw2 := (Below.refl ((w1.setCell ⟨g, 14, none⟩ (.slice A n cc)).setCell ⟨g, 15, none⟩ (.slice A' m cc')).heap.size ((w1.setCell ⟨g, 14, none⟩ (.slice A n cc)).setCell ⟨g, 15, none⟩ (.slice A' m cc'))).alloc (Nat.le_refl _) (.cells #[.slice A n cc, .slice A' m cc'] 31)
 have h2 := (H.out.relined B1.out ho RN.out RW.out N1.out N2.out (k.Box.put (k.Box.put (H.out.below B1.out).box 14 (by simp) _) 15 (by simp) _)).below hw2
 have hf := (((Fx.refl g tb w).below B1.out).only ho).below hw2
 have hO : Out g tb ⟨D, q, d⟩ := Cyc.out_new (w := w) ⟨_, _, _, _, H.out, ht⟩ N3.out
 have hi2 : RdI _ _ D q d (ln.ids (a.N ++ a.W)) := ((rd_kept (s := ⟨D, q, d⟩) (fun x => x = g) RI.out (Nat.le_of_eq ho.size.symm) (fun x hx => hO x (.inl hx)) (fun x _ hx => ho.block x hx)).below hw2).more hw2.size
 refine (aborted_any ⟨_, _, _, _, h2, ht⟩ (ln.ids (a.N ++ a.W)) hi2 hO (by have := HM.out; have := HL.out; unfold ln.ids; rw [List.length_map]; omega)).mono ?_
 rintro e w3 ⟨rfl, hd⟩
 go_wp2
 rw [show toldI (ln.ids (a.N ++ a.W)) 3 = told (a.N ++ a.W) 3 by unfold toldI ln.ids told; rw [List.map_map]; rfl] at hd
 exact end0 rfl rfl ⟨rfl, Did.trans hf hd⟩
theorem told_len (K : List C) (q : Int) : (told K q).length = K.length := List.length_map _
set_option maxHeartbeats 4000000 in
theorem fail_any (h : Cyc base g i L tb a R fr pa w) (hr : ln.RightL a.N a.W) (hR : R.length ≤ 8000) (cause : Int) :
  Calls Tryz.prog 67 #[.pointer (some ⟨g, 0, none⟩), .int .i64 cause] w (Does base g i L tb w (failed a cause) (R ++ failedR a) fr pa) := by
 have key : ∃ a1 : Ax, ln.RightL a1.N a1.W ∧ a1.N ++ a1.W = a.W ∧ { a1 with N := [], W := [] } = { a with N := [], W := [] } ∧ Calls Tryz.prog 91 #[.pointer (some ⟨g, 0, none⟩), .int .i64 4] w (Does base g i L tb w a1 (R ++ told a.N 4) fr pa) := by
  cases hN : a.N with
  | nil =>
   have hW : a.W = [] := by
    rcases hr.2.2.2 with h1 | h1
    ·rw [hN] at h1; cases h1
    ·exact List.eq_nil_of_length_eq_zero h1
   refine ⟨a, hr, by rw [hN, hW]; rfl, rfl, ?_⟩
   rw [show R ++ told ([] : List C) 4 = R by simp [told]]
   exact leave_none h hN 4
  | cons c t =>
   have ht : t = [] := one_of hr hN
   subst ht
   refine ⟨leaves a, right_tail hr (by rw [hN]; simp), ?_, rfl, leave_some h hr hN (by omega) 4⟩
   exact List.take_append_drop 1 a.W
 obtain ⟨a1, r1, w1, e1, hc⟩ := key
 have HC := lh hc
 have HM := lh hR
 have HL : Hid (a.N.length ≤ 1) := lh (by have := hr.2.1; omega)
 clear h hr hc hR
 go_enter Tryz.func67, Tryz.ntmps67
 go_wp2_with (go_at_call 91; fail)
 refine HC.out.mono ?_
 rintro e w2 ⟨rfl, tb2, h2, hf⟩
 have HF := lh hf
 have HA := lh (abort_any h2 r1 (by have := HM.out; have := HL.out; rw [List.length_append, told_len]; omega))
 rw [w1, e1] at HA
 clear h2 hf HC
 go_wp2_with (go_at_call 92; fail)
 refine HA.out.mono ?_
 rintro e w3 ⟨rfl, tb3, h3, hf⟩
 have HF := lh (HF.out.trans hf)
 have HP := lh (happen_any h3 11)
 clear h3 hf HA
 go_wp2_with (go_at_call 90; fail)
 refine HP.out.mono ?_
 rintro e w4 ⟨rfl, tb4, h4, hf⟩
 have HF := lh (HF.out.trans hf)
 obtain ⟨S, N, W, T, h4, ht⟩ := h4
 have H4 := lh h4
 have ⟨d0, f0⟩ := k.cell_of h4.box (i := 24) rfl
 clear hf HP h4
 go_wp2
 have ho := (Only.refl g w4).set 24 (.int .i64 cause)
 have h5 := H4.out.as (a' := failed a cause) ho (k.Box.put H4.out.box 24 (by simp) _) rfl rfl rfl
 rw [List.append_assoc] at h5
 exact end0 rfl rfl ⟨rfl, tb4, ⟨_, _, _, _, h5, ht⟩, HF.out.only ho⟩
end
end Go.Proofs.YtijlccblabadaaaGreat.cx
end
section
namespace Go.Proofs.YtijlccblabadaaaGreat.cx
open Go.ChangeShapes Go.WideShapes Go.ChangeAt Go.RowKit Go.Proofs.YtijlccblabadaaaGreat.k Go.Proofs.YtijlccblabadaaaGreat.rr Go.Proofs.YtijlccblabadaaaGreat.ax
open Go.Proofs.YtijlccblabadaaaGreat.ln (C RdC RdI iC cC cV)
set_option linter.unusedVariables false
set_option maxRecDepth 100000
theorem w64_any {n lo hi : Int} {t : Bool} (ht : decide (lo ≤ n ∧ n ≤ hi) = t) (w : World) : Calls Tryz.prog 50 #[.int .i64 n, .int .i64 lo, .int .i64 hi] w fun e w' => e = .returned (.bool t) ∧ w = w' := by
 by_cases h1 : lo ≤ n
 ·by_cases h2 : n ≤ hi
  ·have HV : Hid (true = t) := lh ((decide_eq_true ⟨h1, h2⟩).symm.trans ht)
   clear ht
   go_enter Tryz.func50, Tryz.ntmps50
   go_wp2
   go_ret
   exact ⟨ret_bool HV.out, rfl⟩
  ·have HV : Hid (false = t) := lh ((decide_eq_false fun h => h2 h.2).symm.trans ht)
   clear ht
   have hd : decide (n ≤ hi) = false := decide_eq_false h2
   go_enter Tryz.func50, Tryz.ntmps50
   go_wp2
   go_ret
   exact ⟨ret_bool HV.out, rfl⟩
 ·have HV : Hid (false = t) := lh ((decide_eq_false fun h => h1 h.1).symm.trans ht)
  clear ht
  have hd : decide (lo ≤ n) = false := decide_eq_false h1
  go_enter Tryz.func50, Tryz.ntmps50
  go_wp2
  go_ret
  exact ⟨ret_bool HV.out, rfl⟩
theorem wint_any {n lo hi : Int} {t : Bool} (ht : decide (lo ≤ n ∧ n ≤ hi) = t) (w : World) : Calls Tryz.prog 30 #[.int .i64 n, .int .i64 lo, .int .i64 hi] w fun e w' => e = .returned (.bool t) ∧ w = w' := by
 by_cases h1 : lo ≤ n
 ·by_cases h2 : n ≤ hi
  ·have HV : Hid (true = t) := lh ((decide_eq_true ⟨h1, h2⟩).symm.trans ht)
   clear ht
   go_enter Tryz.func30, Tryz.ntmps30
   go_wp2
   go_ret
   exact ⟨ret_bool HV.out, rfl⟩
  ·have HV : Hid (false = t) := lh ((decide_eq_false fun h => h2 h.2).symm.trans ht)
   clear ht
   have hd : decide (n ≤ hi) = false := decide_eq_false h2
   go_enter Tryz.func30, Tryz.ntmps30
   go_wp2
   go_ret
   exact ⟨ret_bool HV.out, rfl⟩
 ·have HV : Hid (false = t) := lh ((decide_eq_false fun h => h1 h.1).symm.trans ht)
  clear ht
  have hd : decide (lo ≤ n) = false := decide_eq_false h1
  go_enter Tryz.func30, Tryz.ntmps30
  go_wp2
  go_ret
  exact ⟨ret_bool HV.out, rfl⟩
theorem isoff_any {n : Int} {t : Bool} (ht : decide (FarP n) = t) (w : World) : Calls Tryz.prog 36 #[.int .i64 n] w fun e w' => e = .returned (.bool t) ∧ w = w' := by
 have CW := lh fun W => w64_any (n := n) (lo := -288230376151711744) (hi := 288230376151711744) (t := t) (by rw [← ht]; rfl) W
 clear ht
 go_enter Tryz.func36, Tryz.ntmps36
 go_wp2_with (go_at_call 50; ((with_reducible refine (CW.out _).mono ?_); rintro e w' ⟨rfl, rfl⟩))
 go_ret
 exact ⟨rfl, rfl⟩
theorem ismove_any {n : Int} {t : Bool} (ht : decide (1 ≤ n ∧ n ≤ 3) = t) (w : World) : Calls Tryz.prog 97 #[.int .i64 n] w fun e w' => e = .returned (.bool t) ∧ w = w' := by
 have CW := lh fun W => wint_any (n := n) (lo := 1) (hi := 3) (t := t) ht W
 clear ht
 go_enter Tryz.func97, Tryz.ntmps97
 go_wp2_with (go_at_call 30; ((with_reducible refine (CW.out _).mono ?_); rintro e w' ⟨rfl, rfl⟩))
 go_ret
 exact ⟨rfl, rfl⟩
def beginsV (q : Int) : Int := if q = 4 then 6 else if q = 6 then 8 else if q = 7 then 3 else if q = 8 then 7 else 5
theorem begins_any {q v : Int} (hv : beginsV q = v) (w : World) : Calls Tryz.prog 101 #[.int .i64 q] w fun e w' => e = .returned (.int .i64 v) ∧ w = w' := by
 have HV := lh hv
 clear hv
 have fin : ∀ {x : Int}, beginsV q = x → Ending.returned (.int .i64 x) = .returned (.int .i64 v) := fun h => by rw [← HV.out, h]
 by_cases h4 : q = 4
 ·have HF := lh (fin (show beginsV q = 6 from if_pos h4))
  have b4 : (q == 4) = true := by rw [h4]; rfl
  clear h4 fin HV
  go_enter Tryz.func101, Tryz.ntmps101
  go_wp2
  go_ret
  exact ⟨HF.out, rfl⟩
 have b4 : (q == 4) = false := by rw [beq_eq_false_iff_ne]; exact h4
 by_cases h6 : q = 6
 ·have HF := lh (fin (show beginsV q = 8 by unfold beginsV; rw [if_neg h4, if_pos h6]))
  have b6 : (q == 6) = true := by rw [h6]; rfl
  clear h4 h6 fin HV
  go_enter Tryz.func101, Tryz.ntmps101
  go_wp2
  go_ret
  exact ⟨HF.out, rfl⟩
 have b6 : (q == 6) = false := by rw [beq_eq_false_iff_ne]; exact h6
 by_cases h7 : q = 7
 ·have HF := lh (fin (show beginsV q = 3 by unfold beginsV; rw [if_neg h4, if_neg h6, if_pos h7]))
  have b7 : (q == 7) = true := by rw [h7]; rfl
  clear h4 h6 h7 fin HV
  go_enter Tryz.func101, Tryz.ntmps101
  go_wp2
  go_ret
  exact ⟨HF.out, rfl⟩
 have b7 : (q == 7) = false := by rw [beq_eq_false_iff_ne]; exact h7
 by_cases h8 : q = 8
 ·have HF := lh (fin (show beginsV q = 7 by unfold beginsV; rw [if_neg h4, if_neg h6, if_neg h7, if_pos h8]))
  have b8 : (q == 8) = true := by rw [h8]; rfl
  clear h4 h6 h7 h8 fin HV
  go_enter Tryz.func101, Tryz.ntmps101
  go_wp2
  go_ret
  exact ⟨HF.out, rfl⟩
 have b8 : (q == 8) = false := by rw [beq_eq_false_iff_ne]; exact h8
 have HF := lh (fin (show beginsV q = 5 by unfold beginsV; rw [if_neg h4, if_neg h6, if_neg h7, if_neg h8]))
 clear h4 h6 h7 h8 fin HV
 go_enter Tryz.func101, Tryz.ntmps101
 go_wp2
 go_ret
 exact ⟨HF.out, rfl⟩
def beyP (a t b : Int) : Prop := (a < t ∧ t < b) ∨ (t < a ∧ b < t)
instance (a t b : Int) : Decidable (beyP a t b) := by unfold beyP; infer_instance
set_option maxHeartbeats 2000000 in
theorem beyond_any {a t b : Int} {v : Bool} (hv : decide (beyP a t b) = v) (w : World) : Calls Tryz.prog 136 #[.int .i64 a, .int .i64 t, .int .i64 b] w fun e w' => e = .returned (.bool v) ∧ w = w' := by
 have HV := lh hv
 clear hv
 have yes : beyP a t b → Ending.returned (.bool true) = .returned (.bool v) := fun h => by rw [← HV.out, decide_eq_true h]
 have no : ¬ beyP a t b → Ending.returned (.bool false) = .returned (.bool v) := fun h => by rw [← HV.out, decide_eq_false h]
 by_cases h1 : a < t
 ·have b3 : decide (t < a) = false := decide_eq_false (by omega)
  by_cases h2 : t < b
  ·have HF := lh (yes (.inl ⟨h1, h2⟩))
   clear yes no HV
   go_enter Tryz.func136, Tryz.ntmps136
   go_wp2
   go_ret
   exact ⟨HF.out, rfl⟩
  ·have HF := lh (no (by unfold beyP; omega))
   have b2 : decide (t < b) = false := decide_eq_false h2
   clear yes no HV
   go_enter Tryz.func136, Tryz.ntmps136
   go_wp2
   go_ret
   exact ⟨HF.out, rfl⟩
 ·have b1 : decide (a < t) = false := decide_eq_false h1
  by_cases h3 : t < a
  ·by_cases h4 : b < t
   ·have HF := lh (yes (.inr ⟨h3, h4⟩))
    clear yes no HV
    go_enter Tryz.func136, Tryz.ntmps136
    go_wp2
    go_ret
    exact ⟨HF.out, rfl⟩
   ·have HF := lh (no (by unfold beyP; omega))
    have b4 : decide (b < t) = false := decide_eq_false h4
    clear yes no HV
    go_enter Tryz.func136, Tryz.ntmps136
    go_wp2
    go_ret
    exact ⟨HF.out, rfl⟩
  ·have HF := lh (no (by unfold beyP; omega))
   have b3 : decide (t < a) = false := decide_eq_false h3
   clear yes no HV
   go_enter Tryz.func136, Tryz.ntmps136
   go_wp2
   go_ret
   exact ⟨HF.out, rfl⟩
end Go.Proofs.YtijlccblabadaaaGreat.cx
end
section
namespace Go.Proofs.YtijlccblabadaaaGreat.cx
open Go.ChangeShapes Go.WideShapes Go.ChangeAt Go.RowKit Go.Proofs.YtijlccblabadaaaGreat.k Go.Proofs.YtijlccblabadaaaGreat.rr Go.Proofs.YtijlccblabadaaaGreat.ax
open Go.Proofs.YtijlccblabadaaaGreat.ln (C RdC RdI iC cC cV)
set_option linter.unusedVariables false
set_option maxRecDepth 100000
set_option maxHeartbeats 2000000 in
theorem bounds_any (a : Ax) (S N W : Sl) (w : World) :
  Calls Tryz.prog 17 #[axV a S N W] w fun e w' => e = .returned (lmV (bounds a)) ∧ Below w.heap.size w w' := by
 obtain ⟨x1, x2, x3, x4⟩ := k.boxes2 (w := w) (c1 := axA a S N W) (t1 := 35) (c2 := #[.int .i64 0, .int .i64 0, .int .i64 0, .int .i64 0, .int .i64 0]) (t2 := 23) (Below.refl _ _)
 have X1 := lh x1
 have X2 := lh x2
 have X3 := lh x3
 clear x1 x2 x3
 have HB : Hid ((a.homed = true → bounds a = a.l) ∧ (a.homed = false → bounds a = ⟨a.l.V, a.l.A, a.l.D, -1099511627776, 1099511627776⟩)) := lh ⟨fun h => by unfold bounds; rw [h]; rfl, fun h => by unfold bounds; rw [h]; rfl⟩
 go_enter Tryz.func17, Tryz.ntmps17
 go_upto_region 1 with fail
 generalize (w.alloc (.cells (axA a S N W) 35)).alloc (.cells #[.int .i64 0, .int .i64 0, .int .i64 0, .int .i64 0, .int .i64 0] 23) = w2 at X1 X2 X3 x4 ⊢
 have ⟨q1, _⟩ := k.cell_of X1.out (i := 1) rfl
 have ⟨q2, _⟩ := k.cell_of X1.out (i := 2) rfl
 have ⟨q3, _⟩ := k.cell_of X1.out (i := 3) rfl
 have ⟨q4, p4⟩ := k.cell_of X1.out (i := 4) rfl
 have ⟨q5, p5⟩ := k.cell_of X1.out (i := 5) rfl
 have ⟨q16, _⟩ := k.cell_of X1.out (i := 16) rfl
 have ⟨r0, f0, r1, f1, r2, f2, r3, f3, r4, f4, _⟩ := X2.out
 cases hh : a.homed
 ·have HL := lh (HB.out.2 hh)
  rw [hh] at q16
  have Y2 := k.Box_aside (i := 5) (show w.heap.size ≠ w.heap.size + 1 by omega) (.int .i64 1099511627776) (k.Box_aside (i := 4) (show w.heap.size ≠ w.heap.size + 1 by omega) (.int .i64 (-1099511627776)) X2.out)
  have Y3 := (X3.out.setCell (p := ⟨w.heap.size, 4, none⟩) (Nat.le_refl _) (.int .i64 (-1099511627776))).setCell (p := ⟨w.heap.size, 5, none⟩) (Nat.le_refl _) (.int .i64 1099511627776)
  obtain ⟨P1, _, P3⟩ := k.Box.puts (us := lmC ⟨a.l.V, a.l.A, a.l.D, -1099511627776, 1099511627776⟩) Y2 rfl
  have Q1 := lh P1
  have Q3 := lh (Y3.trans (P3 _ (show w.heap.size ≤ w.heap.size + 1 by omega)))
  clear P1 P3 X1 X2 X3 HB Y2 Y3
  go_wp2
  refine bodyPost_ret (k.results_cell rfl rfl (run_loadVar_mid (k.puts ((w2.setCell ⟨w.heap.size, 4, none⟩ (.int .i64 (-1099511627776))).setCell ⟨w.heap.size, 5, none⟩ (.int .i64 1099511627776)) (w.heap.size + 1) 0 (lmC ⟨a.l.V, a.l.A, a.l.D, -1099511627776, 1099511627776⟩)) (w.heap.size + 1) 0 23 _ _ Q1.out.range rfl rfl (by kernel_rfl))) rfl ⟨by rw [HL.out], Q3.out⟩
 ·have HL := lh (HB.out.1 hh)
  rw [hh] at q16
  obtain ⟨P1, _, P3⟩ := k.Box.puts (us := lmC a.l) X2.out rfl
  have Q1 := lh P1
  have Q3 := lh (X3.out.trans (P3 _ (show w.heap.size ≤ w.heap.size + 1 by omega)))
  clear P1 P3 X1 X2 X3 HB
  go_wp2
  refine bodyPost_ret (k.results_cell rfl rfl (run_loadVar_mid (k.puts w2 (w.heap.size + 1) 0 (lmC a.l)) (w.heap.size + 1) 0 23 _ _ Q1.out.range rfl rfl (by kernel_rfl))) rfl ⟨by rw [HL.out], Q3.out⟩
def inB (a : Ax) (n : Int) : Bool := decide ((bounds a).lo ≤ n ∧ n ≤ (bounds a).hi)
set_option maxHeartbeats 2000000 in
theorem isplace_any (a : Ax) (S N W : Sl) {n : Int} {t : Bool} (ht : inB a n = t) (w : World) :
  Calls Tryz.prog 86 #[axV a S N W, .int .i64 n] w fun e w' => e = .returned (.bool t) ∧ Below w.heap.size w w' := by
 obtain ⟨x1, x2, x3⟩ := k.boxes1 (w := w) (c1 := axA a S N W) (t1 := 35) (Below.refl _ _)
 have X1 : Hid (k.Box _ w.heap.size 0 (axC a S N W)) := lh x1
 have X3 := lh x2
 have CB := lh fun W' => bounds_any a S N W W'
 have CW := lh fun W' => w64_any (n := n) (lo := (bounds a).lo) (hi := (bounds a).hi) (t := t) ht W'
 generalize bounds a = l at CB CW
 clear x1 x2 ht
 go_enter Tryz.func86, Tryz.ntmps86
 go_upto_region 1 with fail
 generalize w.alloc (.cells (axA a S N W) 35) = w2 at X1 X3 x3 ⊢
 go_wp2_with (first | ((with_reducible refine m_ax_load X1.out 2 ?_ ?_ ?_ ?_); rfl; rfl; rfl; (try simp only [Act.put])) | (go_at_call 17; ((with_reducible refine (CB.out _).mono ?_); rintro e w3 ⟨rfl, hb⟩; have X3 := lh (X3.out.trans (hb.mono X3.out.size)); clear hb)) | (go_at_call 50; ((with_reducible refine (CW.out _).mono ?_); rintro e w4 ⟨rfl, rfl⟩)))
 go_ret
 exact ⟨rfl, X3.out.alloc X3.out.size _⟩
def velB (a : Ax) (n : Int) : Bool := decide ((1 ≤ n ∧ n ≤ a.l.V) ∨ (-a.l.V ≤ n ∧ n ≤ -1))
set_option maxHeartbeats 2000000 in
theorem isvel_any (a : Ax) (hV : 0 ≤ a.l.V) (hV2 : a.l.V ≤ 1048576) (S N W : Sl) {n : Int} {t : Bool} (ht : velB a n = t) (w : World) :
  Calls Tryz.prog 60 #[axV a S N W, .int .i64 n] w fun e w' => e = .returned (.bool t) ∧ Below w.heap.size w w' := by
 obtain ⟨x1, x2, x3⟩ := k.boxes1 (w := w) (c1 := axA a S N W) (t1 := 35) (Below.refl _ _)
 have X1 : Hid (k.Box _ w.heap.size 0 (axC a S N W)) := lh x1
 have X3 := lh x2
 have HT := lh ht
 clear x1 x2 ht
 obtain ⟨s, hs⟩ : ∃ s, decide (1 ≤ n ∧ n ≤ a.l.V) = s := ⟨_, rfl⟩
 obtain ⟨u, hu⟩ : ∃ u, decide (-a.l.V ≤ n ∧ n ≤ -1) = u := ⟨_, rfl⟩
 have CW := lh fun W' => w64_any hs W'
 have CU := lh fun W' => w64_any hu W'
 have HV : Hid ((s || u) = t) := lh (by rw [← HT.out, ← hs, ← hu, velB, Bool.decide_or])
 have en : wrap64 (-a.l.V) = -a.l.V := IntWalk.wrap64_in _ (by omega)
 clear hs hu HT hV hV2
 go_enter Tryz.func60, Tryz.ntmps60
 go_upto_region 1 with fail
 generalize w.alloc (.cells (axA a S N W) 35) = w2 at X1 X3 x3 ⊢
 have ⟨d1, _⟩ := k.cell_of X1.out (i := 1) rfl
 cases s
 ·go_wp2_with (go_at_call 50; (first | (with_reducible refine (CW.out _).mono ?_) | (with_reducible refine (CU.out _).mono ?_)); rintro e w4 ⟨rfl, rfl⟩)
  go_ret
  exact ⟨ret_bool (by rw [← HV.out]; rfl), X3.out⟩
 ·go_wp2_with (go_at_call 50; ((with_reducible refine (CW.out _).mono ?_); rintro e w4 ⟨rfl, rfl⟩))
  go_ret
  exact ⟨ret_bool (by rw [← HV.out]; rfl), X3.out⟩
def stillB (a : Ax) : Bool := decide (a.v = 0) && mm.restB a.sm
set_option maxHeartbeats 2000000 in
theorem still_any (a : Ax) {S N W : Sl} {B : Nat} {w : World} (h : RdA w B a S N W) (hB : B ≤ w.heap.size) {t : Bool} (ht : stillB a = t) :
  Calls Tryz.prog 89 #[axV a S N W] w fun e w' => e = .returned (.bool t) ∧ Below w.heap.size w w' := by
 obtain ⟨x1, x2, x3⟩ := k.boxes1 (w := w) (c1 := axA a S N W) (t1 := 35) (Below.refl _ _)
 have X1 : Hid (k.Box _ w.heap.size 0 (axC a S N W)) := lh x1
 have X3 := lh x2
 have HT := lh ht
 have CR := lh fun (W' : World) (hb : Below w.heap.size w W') => mm.rest_any a.sm (win_of (h.S.below (hb.mono hB))) (Nat.le_trans hB hb.size)
 clear x1 x2 ht h
 obtain ⟨r, hr⟩ : ∃ r, mm.restB a.sm = r := ⟨_, rfl⟩
 rw [hr] at CR
 go_enter Tryz.func89, Tryz.ntmps89
 go_upto_region 1 with fail
 generalize w.alloc (.cells (axA a S N W) 35) = w2 at X1 X3 x3 ⊢
 have ⟨d1, _⟩ := k.cell_of X1.out (i := 11) rfl
 have ⟨d2, _⟩ := k.cell_of X1.out (i := 12) rfl
 by_cases hv : a.v = 0
 ·have b1 : (a.v == 0) = true := by rw [hv]; rfl
  have HV : Hid (r = t) := lh (by rw [← HT.out, stillB, decide_eq_true hv, hr]; rfl)
  clear hv HT hr
  go_wp2_with (go_at_call 117; ((with_reducible refine (CR.out _ X3.out).mono ?_); rintro e w3 ⟨rfl, hb⟩; have X3 := lh (X3.out.trans (hb.mono X3.out.size)); clear hb))
  go_ret
  exact ⟨ret_bool HV.out, X3.out⟩
 ·have b1 : (a.v == 0) = false := by rw [beq_eq_false_iff_ne]; exact hv
  have HV : Hid (false = t) := lh (by rw [← HT.out, stillB, decide_eq_false hv]; rfl)
  clear hv HT hr
  go_wp2
  go_ret
  exact ⟨ret_bool HV.out, X3.out⟩
abbrev cA (c : C) : Array Value := #[.int .i64 c.id, .int .i64 c.kind, .int .i64 c.tgt, .int .i64 c.spd, .int .i64 c.mode, .int .i64 c.num, .int .i64 c.den]
set_option maxHeartbeats 2000000 in
theorem joint_any (c n : C) {v : Int} (hv : uOf c n = v) (w : World) :
  Calls Tryz.prog 127 #[cV c, cV n] w fun e w' => e = .returned (.int .i64 v) ∧ Below w.heap.size w w' := by
 obtain ⟨x1, x2, x3, x4⟩ := k.boxes2 (w := w) (c1 := cA c) (t1 := 62) (c2 := cA n) (t2 := 62) (Below.refl _ _)
 have X1 : Hid (k.Box _ w.heap.size 0 (cC c)) := lh x1
 have X2 : Hid (k.Box _ (w.heap.size + 1) 0 (cC n)) := lh x2
 have X3 := lh x3
 have HV := lh hv
 clear x1 x2 x3 hv
 have fin : ∀ {x : Int}, uOf c n = x → Ending.returned (.int .i64 x) = .returned (.int .i64 v) := fun h => by rw [← HV.out, h]
 unfold cV
 go_enter Tryz.func127, Tryz.ntmps127
 go_upto_region 1 with fail
 generalize (w.alloc (.cells (cA c) 62)).alloc (.cells (cA n) 62) = w2 at X1 X2 X3 x4 ⊢
 have ⟨c3, _⟩ := k.cell_of X1.out (i := 3) rfl
 have ⟨n3, _⟩ := k.cell_of X2.out (i := 3) rfl
 have ⟨n4, _⟩ := k.cell_of X2.out (i := 4) rfl
 by_cases h2 : n.mode = 2
 ·have HF := lh (fin (show uOf c n = min c.spd n.spd from if_pos h2))
  have b2 : (n.mode == 2) = true := by rw [h2]; rfl
  clear h2 fin HV
  go_wp2
  go_ret
  exact ⟨HF.out, X3.out⟩
 have b2 : (n.mode == 2) = false := by rw [beq_eq_false_iff_ne]; exact h2
 by_cases h3 : n.mode = 3
 ·have HF := lh (fin (show uOf c n = c.spd by unfold uOf; rw [if_neg h2, if_pos h3]))
  have b3 : (n.mode == 3) = true := by rw [h3]; rfl
  clear h2 h3 fin HV
  go_wp2
  go_ret
  exact ⟨HF.out, X3.out⟩
 have b3 : (n.mode == 3) = false := by rw [beq_eq_false_iff_ne]; exact h3
 by_cases h4 : n.mode = 4
 ·have HF := lh (fin (show uOf c n = n.spd by unfold uOf; rw [if_neg h2, if_neg h3, if_pos h4]))
  have b4 : (n.mode == 4) = true := by rw [h4]; rfl
  clear h2 h3 h4 fin HV
  go_wp2
  go_ret
  exact ⟨HF.out, X3.out⟩
 have b4 : (n.mode == 4) = false := by rw [beq_eq_false_iff_ne]; exact h4
 have HF := lh (fin (show uOf c n = max c.spd n.spd by unfold uOf; rw [if_neg h2, if_neg h3, if_neg h4]))
 clear h2 h3 h4 fin HV
 go_wp2
 go_ret
 exact ⟨HF.out, X3.out⟩
end Go.Proofs.YtijlccblabadaaaGreat.cx
end
section
namespace Go.Proofs.YtijlccblabadaaaGreat.cx
open Go.ChangeShapes Go.WideShapes Go.ChangeAt Go.RowKit Go.Proofs.YtijlccblabadaaaGreat.k Go.Proofs.YtijlccblabadaaaGreat.rr Go.Proofs.YtijlccblabadaaaGreat.ax
open Go.Proofs.YtijlccblabadaaaGreat.ln (C RdC RdI iC cC cV lnV)
set_option linter.unusedVariables false
set_option maxRecDepth 100000
section
variable {base g : Nat} {i : In} {L : Sl} {a : Ax} {R : List Rp} {fr pa : Bool} {w : World} {tb : Option Nat}
theorem field_kind (n : C) (w : World) : (Instr.field 62 (.agg #[.int .i64 n.id, .int .i64 n.kind, .int .i64 n.tgt, .int .i64 n.spd, .int .i64 n.mode, .int .i64 n.num, .int .i64 n.den]) 1).run Tryz.prog w = .ok (.int .i64 n.kind) w := by kernel_rfl
theorem field_tgt (n : C) (w : World) : (Instr.field 62 (.agg #[.int .i64 n.id, .int .i64 n.kind, .int .i64 n.tgt, .int .i64 n.spd, .int .i64 n.mode, .int .i64 n.num, .int .i64 n.den]) 2).run Tryz.prog w = .ok (.int .i64 n.tgt) w := by kernel_rfl
def runsB (a : Ax) (i : In) : Bool := decide (i.plus = true ∧ 0 < a.v ∨ i.minus = true ∧ a.v < 0)
set_option maxHeartbeats 2000000 in
theorem runs_any (h : Cyc base g i L tb a R fr pa w) {b : Bool} (hb : runsB a i = b) :
  Calls Tryz.prog 88 #[.pointer (some ⟨g, 0, none⟩)] w fun e w' => e = .returned (.bool b) ∧ w = w' := by
 obtain ⟨S, N, W, T, h, ht⟩ := h
 have ⟨d0, f0⟩ := k.cell_of h.box (i := 30) rfl
 have ⟨d1, f1⟩ := k.cell_of h.box (i := 31) rfl
 have ⟨d2, f2⟩ := k.cell_of h.box (i := 11) rfl
 have HV := lh hb
 clear h ht hb f0 f1 f2
 have yes : (i.plus = true ∧ 0 < a.v ∨ i.minus = true ∧ a.v < 0) → b = true := fun h => by rw [← HV.out]; exact decide_eq_true h
 have no : ¬ (i.plus = true ∧ 0 < a.v ∨ i.minus = true ∧ a.v < 0) → b = false := fun h => by rw [← HV.out]; exact decide_eq_false h
 rcases Int.lt_trichotomy a.v 0 with hv | hv | hv
 ·have b1 : decide (0 < a.v) = false := decide_eq_false (by omega)
  have b2 : decide (a.v < 0) = true := decide_eq_true (by omega)
  cases hp : i.plus
  ·rw [hp] at d0 yes no
   cases hm : i.minus
   ·rw [hm] at d1 yes no
    have HR : Hid (b = false) := lh (no (by simp))
    clear yes no HV
    go_enter Tryz.func88, Tryz.ntmps88
    go_wp2
    go_ret
    exact ⟨ret_bool HR.out.symm, rfl⟩
   ·rw [hm] at d1 yes no
    have HR : Hid (b = true) := lh (yes (by simp; omega))
    clear yes no HV
    go_enter Tryz.func88, Tryz.ntmps88
    go_wp2
    go_ret
    exact ⟨ret_bool HR.out.symm, rfl⟩
  ·rw [hp] at d0 yes no
   cases hm : i.minus
   ·rw [hm] at d1 yes no
    have HR : Hid (b = false) := lh (no (by simp; omega))
    clear yes no HV
    go_enter Tryz.func88, Tryz.ntmps88
    go_wp2
    go_ret
    exact ⟨ret_bool HR.out.symm, rfl⟩
   ·rw [hm] at d1 yes no
    have HR : Hid (b = true) := lh (yes (by simp; omega))
    clear yes no HV
    go_enter Tryz.func88, Tryz.ntmps88
    go_wp2
    go_ret
    exact ⟨ret_bool HR.out.symm, rfl⟩
 ·have b1 : decide (0 < a.v) = false := decide_eq_false (by omega)
  have b2 : decide (a.v < 0) = false := decide_eq_false (by omega)
  cases hp : i.plus
  ·rw [hp] at d0 yes no
   cases hm : i.minus
   ·rw [hm] at d1 yes no
    have HR : Hid (b = false) := lh (no (by simp))
    clear yes no HV
    go_enter Tryz.func88, Tryz.ntmps88
    go_wp2
    go_ret
    exact ⟨ret_bool HR.out.symm, rfl⟩
   ·rw [hm] at d1 yes no
    have HR : Hid (b = false) := lh (no (by simp; omega))
    clear yes no HV
    go_enter Tryz.func88, Tryz.ntmps88
    go_wp2
    go_ret
    exact ⟨ret_bool HR.out.symm, rfl⟩
  ·rw [hp] at d0 yes no
   cases hm : i.minus
   ·rw [hm] at d1 yes no
    have HR : Hid (b = false) := lh (no (by simp; omega))
    clear yes no HV
    go_enter Tryz.func88, Tryz.ntmps88
    go_wp2
    go_ret
    exact ⟨ret_bool HR.out.symm, rfl⟩
   ·rw [hm] at d1 yes no
    have HR : Hid (b = false) := lh (no (by simp; omega))
    clear yes no HV
    go_enter Tryz.func88, Tryz.ntmps88
    go_wp2
    go_ret
    exact ⟨ret_bool HR.out.symm, rfl⟩
 ·have b1 : decide (0 < a.v) = true := decide_eq_true (by omega)
  have b2 : decide (a.v < 0) = false := decide_eq_false (by omega)
  cases hp : i.plus
  ·rw [hp] at d0 yes no
   cases hm : i.minus
   ·rw [hm] at d1 yes no
    have HR : Hid (b = false) := lh (no (by simp))
    clear yes no HV
    go_enter Tryz.func88, Tryz.ntmps88
    go_wp2
    go_ret
    exact ⟨ret_bool HR.out.symm, rfl⟩
   ·rw [hm] at d1 yes no
    have HR : Hid (b = false) := lh (no (by simp; omega))
    clear yes no HV
    go_enter Tryz.func88, Tryz.ntmps88
    go_wp2
    go_ret
    exact ⟨ret_bool HR.out.symm, rfl⟩
  ·rw [hp] at d0 yes no
   cases hm : i.minus
   ·rw [hm] at d1 yes no
    have HR : Hid (b = true) := lh (yes (by simp; omega))
    clear yes no HV
    go_enter Tryz.func88, Tryz.ntmps88
    go_wp2
    go_ret
    exact ⟨ret_bool HR.out.symm, rfl⟩
   ·rw [hm] at d1 yes no
    have HR : Hid (b = true) := lh (yes (by simp; omega))
    clear yes no HV
    go_enter Tryz.func88, Tryz.ntmps88
    go_wp2
    go_ret
    exact ⟨ret_bool HR.out.symm, rfl⟩
theorem td_in {m : Int} (h1 : -104857600 ≤ m) (h2 : m ≤ 104857600) : -1048576 ≤ m.tdiv 100 ∧ m.tdiv 100 ≤ 1048576 := by
 rcases Int.le_total 0 m with h | h
 ·rw [Int.tdiv_eq_ediv_of_nonneg h]; omega
 ·have e : m.tdiv 100 = -((-m).tdiv 100) := by rw [Int.neg_tdiv]; omega
  rw [e, Int.tdiv_eq_ediv_of_nonneg (by omega)]; omega
theorem part_any (h : Cyc base g i L tb a R fr pa w) {v : Int} (h1 : -1048576 ≤ v) (h2 : v ≤ 1048576) (h3 : 0 ≤ a.ov) (h4 : a.ov ≤ 100) {x : Int} (hx : (v * a.ov).tdiv 100 = x) :
  Calls Tryz.prog 103 #[.pointer (some ⟨g, 0, none⟩), .int .i64 v] w fun e w' => e = .returned (.int .i64 x) ∧ w = w' := by
 obtain ⟨S, N, W, T, h, ht⟩ := h
 have ⟨d0, f0⟩ := k.cell_of h.box (i := 21) rfl
 have HV := lh hx
 have hm : -104857600 ≤ v * a.ov ∧ v * a.ov ≤ 104857600 := by
  constructor
  ·have : 0 ≤ (v + 1048576) * a.ov := Int.mul_nonneg (by omega) h3
   have h5 := Int.add_mul v 1048576 a.ov
   omega
  ·have : 0 ≤ (1048576 - v) * a.ov := Int.mul_nonneg (by omega) h3
   have h5 := Int.sub_mul 1048576 v a.ov
   omega
 have e1 : wrap64 (v * a.ov) = v * a.ov := IntWalk.wrap64_in _ (by omega)
 have e2 : wrap64 ((v * a.ov).tdiv 100) = (v * a.ov).tdiv 100 := IntWalk.wrap64_in _ (by have h5 := td_in hm.1 hm.2; omega)
 have E2 := lh e2
 clear h ht hx h1 h2 h3 h4 hm e2
 go_enter Tryz.func103, Tryz.ntmps103
 go_wp2
 go_ret
 exact ⟨ret_int (E2.out.trans HV.out), rfl⟩
def causeL (a : Ax) (i : In) : Int :=
 if a.st = 0 then (if i.cause = 6 then i.cause else 0)
 else if i.cause ≠ 0 then i.cause
 else if i.power = true ∧ i.op = false then 2
 else if a.st ≠ 2 ∧ (i.plus = true ∧ 0 < a.v ∨ i.minus = true ∧ a.v < 0) then 4 else 0
theorem cause_eq {a : Ax} (h : a.st ≠ 7) (i : In) : causeL a i = causeOf a i := by
 unfold causeL causeOf
 by_cases h0 : a.st = 0
 ·rw [if_pos h0, if_pos h0]
 ·rw [if_neg h0, if_neg h0]
  by_cases hc : i.cause = 0
  ·have h1 : ¬ i.cause ≠ 0 := fun h => h hc
   have h2 : ¬ (i.cause ≠ 0 ∨ a.st = 7) := fun h' => h'.elim h1 h
   rw [if_neg h1, if_neg h2]
  ·have h1 : i.cause ≠ 0 := hc
   have h2 : i.cause ≠ 0 ∨ a.st = 7 := .inl h1
   rw [if_pos h1, if_pos h2]
set_option maxHeartbeats 4000000 in
theorem cause_any (h : Cyc base g i L tb a R fr pa w) {x : Int} (hx : causeL a i = x) :
  Calls Tryz.prog 65 #[.pointer (some ⟨g, 0, none⟩)] w fun e w' => e = .returned (.int .i64 x) ∧ w = w' := by
 obtain ⟨rb, hrb⟩ : ∃ b, runsB a i = b := ⟨_, rfl⟩
 have CR := lh (runs_any h hrb)
 obtain ⟨S, N, W, T, h, ht⟩ := h
 have ⟨d0, d0f⟩ := k.cell_of h.box (i := 0) rfl
 have ⟨d26, d26f⟩ := k.cell_of h.box (i := 26) rfl
 have ⟨d27, d27f⟩ := k.cell_of h.box (i := 27) rfl
 have ⟨d29, d29f⟩ := k.cell_of h.box (i := 29) rfl
 have HV := lh hx
 have HR := lh hrb
 clear h ht hx hrb d0f d26f d27f d29f
 have fin : ∀ {y : Int}, causeL a i = y → Ending.returned (.int .i64 y) = .returned (.int .i64 x) := fun h => by rw [← HV.out, h]
 by_cases h0 : a.st = 0
 ·have b0 : (a.st == 0) = true := by rw [h0]; rfl
  by_cases hc : i.cause = 6
  ·have bc : (i.cause != 6) = false := by rw [hc]; rfl
   have bc0 : (i.cause != 0) = true := by rw [hc]; rfl
   have HF := lh (fin (show causeL a i = i.cause from by unfold causeL; rw [if_pos h0, if_pos hc]))
   clear fin HV HR
   (try clear h0)
   (try clear hc)
   (try clear h2)
   (try clear hn)
   (try clear h1)
   (try clear h6)
   (try clear h7)
   go_enter Tryz.func65, Tryz.ntmps65
   go_wp2
   go_ret
   exact ⟨HF.out, rfl⟩
  ·have bc : (i.cause != 6) = true := by rw [bne_iff_ne]; exact hc
   have HF := lh (fin (show causeL a i = 0 from by unfold causeL; rw [if_pos h0, if_neg hc]))
   clear fin HV HR
   (try clear h0)
   (try clear hc)
   (try clear h2)
   (try clear hn)
   (try clear h1)
   (try clear h6)
   (try clear h7)
   go_enter Tryz.func65, Tryz.ntmps65
   go_wp2
   go_ret
   exact ⟨HF.out, rfl⟩
 have b0 : (a.st == 0) = false := by rw [beq_eq_false_iff_ne]; exact h0
 by_cases hc : i.cause = 0
 ·have bc : (i.cause != 0) = false := by rw [hc]; rfl
  have hn : ¬ i.cause ≠ 0 := fun h => h hc
  cases hp : i.power
  ·rw [hp] at d26
   by_cases h2 : a.st = 2
   ·have b2 : (a.st != 2) = false := by rw [h2]; rfl
    have HF := lh (fin (show causeL a i = 0 from by unfold causeL; rw [if_neg h0, if_neg hn, if_neg (by rw [hp]; simp), if_neg (fun h => h.1 h2)]))
    clear fin HV HR
    (try clear h0)
    (try clear hc)
    (try clear h2)
    (try clear hn)
    (try clear h1)
    (try clear h6)
    (try clear h7)
    go_enter Tryz.func65, Tryz.ntmps65
    go_wp2
    go_ret
    exact ⟨HF.out, rfl⟩
   ·have b2 : (a.st != 2) = true := by rw [bne_iff_ne]; exact h2
    cases rb
    ·have HF := lh (fin (show causeL a i = 0 from by unfold causeL; rw [if_neg h0, if_neg hn, if_neg (by rw [hp]; simp), if_neg (fun h => of_decide_eq_false HR.out h.2)]))
     clear fin HV HR h2
     (try clear h0)
     (try clear hn)
     (try clear hc)
     go_enter Tryz.func65, Tryz.ntmps65
     go_wp2_with (go_at_call 88; ((with_reducible refine (CR.out).mono ?_); rintro e w1 ⟨rfl, rfl⟩))
     go_ret
     exact ⟨HF.out, rfl⟩
    ·have HF := lh (fin (show causeL a i = 4 from by unfold causeL; rw [if_neg h0, if_neg hn, if_neg (by rw [hp]; simp), if_pos ⟨h2, of_decide_eq_true HR.out⟩]))
     clear fin HV HR h2
     (try clear h0)
     (try clear hn)
     (try clear hc)
     go_enter Tryz.func65, Tryz.ntmps65
     go_wp2_with (go_at_call 88; ((with_reducible refine (CR.out).mono ?_); rintro e w1 ⟨rfl, rfl⟩))
     go_ret
     exact ⟨HF.out, rfl⟩
  ·rw [hp] at d26
   cases ho : i.op
   ·rw [ho] at d27
    have HF := lh (fin (show causeL a i = 2 from by unfold causeL; rw [if_neg h0, if_neg hn, if_pos ⟨hp, ho⟩]))
    clear fin HV HR
    (try clear h0)
    (try clear hc)
    (try clear h2)
    (try clear hn)
    (try clear h1)
    (try clear h6)
    (try clear h7)
    go_enter Tryz.func65, Tryz.ntmps65
    go_wp2
    go_ret
    exact ⟨HF.out, rfl⟩
   ·rw [ho] at d27
    by_cases h2 : a.st = 2
    ·have b2 : (a.st != 2) = false := by rw [h2]; rfl
     have HF := lh (fin (show causeL a i = 0 from by unfold causeL; rw [if_neg h0, if_neg hn, if_neg (by rw [ho]; simp), if_neg (fun h => h.1 h2)]))
     clear fin HV HR
     (try clear h0)
     (try clear hc)
     (try clear h2)
     (try clear hn)
     (try clear h1)
     (try clear h6)
     (try clear h7)
     go_enter Tryz.func65, Tryz.ntmps65
     go_wp2
     go_ret
     exact ⟨HF.out, rfl⟩
    ·have b2 : (a.st != 2) = true := by rw [bne_iff_ne]; exact h2
     cases rb
     ·have HF := lh (fin (show causeL a i = 0 from by unfold causeL; rw [if_neg h0, if_neg hn, if_neg (by rw [ho]; simp), if_neg (fun h => of_decide_eq_false HR.out h.2)]))
      clear fin HV HR h2
      (try clear h0)
      (try clear hn)
      (try clear hc)
      go_enter Tryz.func65, Tryz.ntmps65
      go_wp2_with (go_at_call 88; ((with_reducible refine (CR.out).mono ?_); rintro e w1 ⟨rfl, rfl⟩))
      go_ret
      exact ⟨HF.out, rfl⟩
     ·have HF := lh (fin (show causeL a i = 4 from by unfold causeL; rw [if_neg h0, if_neg hn, if_neg (by rw [ho]; simp), if_pos ⟨h2, of_decide_eq_true HR.out⟩]))
      clear fin HV HR h2
      (try clear h0)
      (try clear hn)
      (try clear hc)
      go_enter Tryz.func65, Tryz.ntmps65
      go_wp2_with (go_at_call 88; ((with_reducible refine (CR.out).mono ?_); rintro e w1 ⟨rfl, rfl⟩))
      go_ret
      exact ⟨HF.out, rfl⟩
 ·have bc : (i.cause != 0) = true := by rw [bne_iff_ne]; exact hc
  have HF := lh (fin (show causeL a i = i.cause from by unfold causeL; rw [if_neg h0, if_pos hc]))
  clear fin HV HR
  (try clear h0)
  (try clear hc)
  (try clear h2)
  (try clear hn)
  (try clear h1)
  (try clear h6)
  (try clear h7)
  go_enter Tryz.func65, Tryz.ntmps65
  go_wp2
  go_ret
  exact ⟨HF.out, rfl⟩
def mayComeB (a : Ax) (c : C) : Bool := if c.kind = 7 then decide (a.st = 1) else if c.kind = 6 then (decide (a.st = 2) || ed.tkB a.st) else (decide (1 ≤ c.kind ∧ c.kind ≤ 8) && ed.tkB a.st)
set_option maxHeartbeats 4000000 in
theorem maycome_any (h : Cyc base g i L tb a R fr pa w) (c : C) {b : Bool} (hb : mayComeB a c = b) :
  Calls Tryz.prog 94 #[.pointer (some ⟨g, 0, none⟩), cV c] w fun e w' => e = .returned (.bool b) ∧ Below w.heap.size w w' := by
 have HV := lh hb
 have fin : ∀ {y : Bool}, mayComeB a c = y → Ending.returned (.bool y) = .returned (.bool b) := fun h => by rw [← HV.out, h]
 clear hb
 obtain ⟨tk, htk⟩ : ∃ t, ed.tkB a.st = t := ⟨_, rfl⟩
 have CT := lh fun W => ed.takes_any a.st W
 rw [htk] at CT
 obtain ⟨wi, hwi⟩ : ∃ t, decide (1 ≤ c.kind ∧ c.kind ≤ 8) = t := ⟨_, rfl⟩
 have CW := lh fun W => wint_any hwi W
 have HT := lh htk
 have HW := lh hwi
 clear htk hwi
 by_cases h7 : c.kind = 7
 ·have b7 : (c.kind == 7) = true := by rw [h7]; rfl
  by_cases h1 : a.st = 1
  ·have b1 : (a.st == 1) = true := by rw [h1]; rfl
   have HF := lh (fin (show mayComeB a c = true from by unfold mayComeB; rw [if_pos h7]; exact decide_eq_true h1))
   clear fin HV HT HW
   (try clear h0)
   (try clear hc)
   (try clear h2)
   (try clear hn)
   (try clear h1)
   (try clear h6)
   (try clear h7)
   obtain ⟨x1, x2, x3⟩ := k.boxes1 (w := w) (c1 := cA c) (t1 := 62) (Below.refl _ _)
   have X1 : Hid (k.Box _ w.heap.size 0 (cC c)) := lh x1
   have HB := lh x2
   have H2 := lh (h.below x2)
   clear x1 x2
   unfold cV
   go_enter Tryz.func94, Tryz.ntmps94
   go_upto_region 1 with fail
   generalize w.alloc (.cells (cA c) 62) = w2 at X1 HB H2 x3 ⊢
   have hlt2 := H2.out.lt
   have ⟨c1, c1f⟩ := k.cell_of X1.out (i := 1) rfl
   obtain ⟨S, N, W, T, h2, ht⟩ := H2.out
   have ⟨d0, d0f⟩ := k.cell_of h2.box (i := 0) rfl
   clear h2 ht
   go_wp2
   go_ret
   exact ⟨HF.out, HB.out⟩
  ·have b1 : (a.st == 1) = false := by rw [beq_eq_false_iff_ne]; exact h1
   have HF := lh (fin (show mayComeB a c = false from by unfold mayComeB; rw [if_pos h7]; exact decide_eq_false h1))
   clear fin HV HT HW
   (try clear h0)
   (try clear hc)
   (try clear h2)
   (try clear hn)
   (try clear h1)
   (try clear h6)
   (try clear h7)
   obtain ⟨x1, x2, x3⟩ := k.boxes1 (w := w) (c1 := cA c) (t1 := 62) (Below.refl _ _)
   have X1 : Hid (k.Box _ w.heap.size 0 (cC c)) := lh x1
   have HB := lh x2
   have H2 := lh (h.below x2)
   clear x1 x2
   unfold cV
   go_enter Tryz.func94, Tryz.ntmps94
   go_upto_region 1 with fail
   generalize w.alloc (.cells (cA c) 62) = w2 at X1 HB H2 x3 ⊢
   have hlt2 := H2.out.lt
   have ⟨c1, c1f⟩ := k.cell_of X1.out (i := 1) rfl
   obtain ⟨S, N, W, T, h2, ht⟩ := H2.out
   have ⟨d0, d0f⟩ := k.cell_of h2.box (i := 0) rfl
   clear h2 ht
   go_wp2
   go_ret
   exact ⟨HF.out, HB.out⟩
 have b7 : (c.kind == 7) = false := by rw [beq_eq_false_iff_ne]; exact h7
 by_cases h6 : c.kind = 6
 ·have b6 : (c.kind == 6) = true := by rw [h6]; rfl
  by_cases h2 : a.st = 2
  ·have b1 : (a.st == 2) = true := by rw [h2]; rfl
   have HF := lh (fin (show mayComeB a c = true from by unfold mayComeB; rw [if_neg h7, if_pos h6, decide_eq_true h2]; rfl))
   clear fin HV HT HW
   (try clear h0)
   (try clear hc)
   (try clear h2)
   (try clear hn)
   (try clear h1)
   (try clear h6)
   (try clear h7)
   obtain ⟨x1, x2, x3⟩ := k.boxes1 (w := w) (c1 := cA c) (t1 := 62) (Below.refl _ _)
   have X1 : Hid (k.Box _ w.heap.size 0 (cC c)) := lh x1
   have HB := lh x2
   have H2 := lh (h.below x2)
   clear x1 x2
   unfold cV
   go_enter Tryz.func94, Tryz.ntmps94
   go_upto_region 1 with fail
   generalize w.alloc (.cells (cA c) 62) = w2 at X1 HB H2 x3 ⊢
   have hlt2 := H2.out.lt
   have ⟨c1, c1f⟩ := k.cell_of X1.out (i := 1) rfl
   obtain ⟨S, N, W, T, h2, ht⟩ := H2.out
   have ⟨d0, d0f⟩ := k.cell_of h2.box (i := 0) rfl
   clear h2 ht
   go_wp2
   go_ret
   exact ⟨HF.out, HB.out⟩
  ·have b1 : (a.st == 2) = false := by rw [beq_eq_false_iff_ne]; exact h2
   have HF := lh (fin (show mayComeB a c = tk from by unfold mayComeB; rw [if_neg h7, if_pos h6, decide_eq_false h2, HT.out]; rfl))
   clear fin HV HT HW
   (try clear h0)
   (try clear hc)
   (try clear h2)
   (try clear hn)
   (try clear h1)
   (try clear h6)
   (try clear h7)
   obtain ⟨x1, x2, x3⟩ := k.boxes1 (w := w) (c1 := cA c) (t1 := 62) (Below.refl _ _)
   have X1 : Hid (k.Box _ w.heap.size 0 (cC c)) := lh x1
   have HB := lh x2
   have H2 := lh (h.below x2)
   clear x1 x2
   unfold cV
   go_enter Tryz.func94, Tryz.ntmps94
   go_upto_region 1 with fail
   generalize w.alloc (.cells (cA c) 62) = w2 at X1 HB H2 x3 ⊢
   have hlt2 := H2.out.lt
   have ⟨c1, c1f⟩ := k.cell_of X1.out (i := 1) rfl
   obtain ⟨S, N, W, T, h2, ht⟩ := H2.out
   have ⟨d0, d0f⟩ := k.cell_of h2.box (i := 0) rfl
   clear h2 ht
   go_wp2_with (go_at_call 120; ((with_reducible refine (CT.out _).mono ?_); rintro e w3 ⟨rfl, hb⟩; have HB := lh (HB.out.trans (hb.mono HB.out.size)); clear hb))
   go_ret
   exact ⟨HF.out, HB.out⟩
 have b6 : (c.kind == 6) = false := by rw [beq_eq_false_iff_ne]; exact h6
 cases wi
 ·skip
  have HF := lh (fin (show mayComeB a c = false from by unfold mayComeB; rw [if_neg h7, if_neg h6, HW.out]; rfl))
  clear fin HV HT HW
  (try clear h0)
  (try clear hc)
  (try clear h2)
  (try clear hn)
  (try clear h1)
  (try clear h6)
  (try clear h7)
  obtain ⟨x1, x2, x3⟩ := k.boxes1 (w := w) (c1 := cA c) (t1 := 62) (Below.refl _ _)
  have X1 : Hid (k.Box _ w.heap.size 0 (cC c)) := lh x1
  have HB := lh x2
  have H2 := lh (h.below x2)
  clear x1 x2
  unfold cV
  go_enter Tryz.func94, Tryz.ntmps94
  go_upto_region 1 with fail
  generalize w.alloc (.cells (cA c) 62) = w2 at X1 HB H2 x3 ⊢
  have hlt2 := H2.out.lt
  have ⟨c1, c1f⟩ := k.cell_of X1.out (i := 1) rfl
  obtain ⟨S, N, W, T, h2, ht⟩ := H2.out
  have ⟨d0, d0f⟩ := k.cell_of h2.box (i := 0) rfl
  clear h2 ht
  go_wp2_with (go_at_call 30; ((with_reducible refine (CW.out _).mono ?_); rintro e w3 ⟨rfl, rfl⟩))
  go_ret
  exact ⟨HF.out, HB.out⟩
 ·skip
  have HF := lh (fin (show mayComeB a c = tk from by unfold mayComeB; rw [if_neg h7, if_neg h6, HW.out, HT.out]; rfl))
  clear fin HV HT HW
  (try clear h0)
  (try clear hc)
  (try clear h2)
  (try clear hn)
  (try clear h1)
  (try clear h6)
  (try clear h7)
  obtain ⟨x1, x2, x3⟩ := k.boxes1 (w := w) (c1 := cA c) (t1 := 62) (Below.refl _ _)
  have X1 : Hid (k.Box _ w.heap.size 0 (cC c)) := lh x1
  have HB := lh x2
  have H2 := lh (h.below x2)
  clear x1 x2
  unfold cV
  go_enter Tryz.func94, Tryz.ntmps94
  go_upto_region 1 with fail
  generalize w.alloc (.cells (cA c) 62) = w2 at X1 HB H2 x3 ⊢
  have hlt2 := H2.out.lt
  have ⟨c1, c1f⟩ := k.cell_of X1.out (i := 1) rfl
  obtain ⟨S, N, W, T, h2, ht⟩ := H2.out
  have ⟨d0, d0f⟩ := k.cell_of h2.box (i := 0) rfl
  clear h2 ht
  go_wp2_with (first | (go_at_call 30; ((with_reducible refine (CW.out _).mono ?_); rintro e w3 ⟨rfl, rfl⟩)) | (go_at_call 120; ((with_reducible refine (CT.out _).mono ?_); rintro e w3 ⟨rfl, hb⟩; have HB := lh (HB.out.trans (hb.mono HB.out.size)); clear hb)))
  go_ret
  exact ⟨HF.out, HB.out⟩
def mayWaitB (a : Ax) (c : C) : Bool := decide (c.mode = 0) || (decide (1 ≤ c.kind ∧ c.kind ≤ 3) && (match a.N with | [] => true | n :: _ => decide (n.kind = 1)))
set_option maxHeartbeats 4000000 in
theorem maywait_any (h : Cyc base g i L tb a R fr pa w) (c : C) {b : Bool} (hb : mayWaitB a c = b) :
  Calls Tryz.prog 95 #[.pointer (some ⟨g, 0, none⟩), cV c] w fun e w' => e = .returned (.bool b) ∧ Below w.heap.size w w' := by
 have HV := lh hb
 have fin : ∀ {y : Bool}, mayWaitB a c = y → Ending.returned (.bool y) = .returned (.bool b) := fun h => by rw [← HV.out, h]
 clear hb
 obtain ⟨mv, hmv⟩ : ∃ t, decide (1 ≤ c.kind ∧ c.kind ≤ 3) = t := ⟨_, rfl⟩
 have CM := lh fun W => ismove_any hmv W
 have HM := lh hmv
 clear hmv
 by_cases h0 : c.mode = 0
 ·have b0 : (c.mode == 0) = true := by rw [h0]; rfl
  have HF := lh (fin (show mayWaitB a c = true from by unfold mayWaitB; rw [decide_eq_true h0]; rfl))
  clear fin HV HM
  (try clear h0)
  (try clear hc)
  (try clear h2)
  (try clear hn)
  (try clear h1)
  (try clear h6)
  (try clear h7)
  obtain ⟨x1, x2, x3⟩ := k.boxes1 (w := w) (c1 := cA c) (t1 := 62) (Below.refl _ _)
  have X1 : Hid (k.Box _ w.heap.size 0 (cC c)) := lh x1
  have HB := lh x2
  have H2 := lh (h.below x2)
  clear x1 x2
  unfold cV
  go_enter Tryz.func95, Tryz.ntmps95
  go_upto_region 1 with fail
  generalize w.alloc (.cells (cA c) 62) = w2 at X1 HB H2 x3 ⊢
  have hlt2 := H2.out.lt
  have ⟨c1, c1f⟩ := k.cell_of X1.out (i := 1) rfl
  have ⟨c4, c4f⟩ := k.cell_of X1.out (i := 4) rfl
  go_wp2
  go_ret
  exact ⟨HF.out, HB.out⟩
 have b0 : (c.mode == 0) = false := by rw [beq_eq_false_iff_ne]; exact h0
 cases mv
 ·skip
  have HF := lh (fin (show mayWaitB a c = false from by unfold mayWaitB; rw [decide_eq_false h0, HM.out]; rfl))
  clear fin HV HM
  (try clear h0)
  (try clear hc)
  (try clear h2)
  (try clear hn)
  (try clear h1)
  (try clear h6)
  (try clear h7)
  obtain ⟨x1, x2, x3⟩ := k.boxes1 (w := w) (c1 := cA c) (t1 := 62) (Below.refl _ _)
  have X1 : Hid (k.Box _ w.heap.size 0 (cC c)) := lh x1
  have HB := lh x2
  have H2 := lh (h.below x2)
  clear x1 x2
  unfold cV
  go_enter Tryz.func95, Tryz.ntmps95
  go_upto_region 1 with fail
  generalize w.alloc (.cells (cA c) 62) = w2 at X1 HB H2 x3 ⊢
  have hlt2 := H2.out.lt
  have ⟨c1, c1f⟩ := k.cell_of X1.out (i := 1) rfl
  have ⟨c4, c4f⟩ := k.cell_of X1.out (i := 4) rfl
  go_wp2_with (go_at_call 97; ((with_reducible refine (CM.out _).mono ?_); rintro e w3 ⟨rfl, rfl⟩))
  go_ret
  exact ⟨HF.out, HB.out⟩
 cases hN : a.N with
 | nil =>
  have HF := lh (fin (show mayWaitB a c = true from by unfold mayWaitB; rw [decide_eq_false h0, HM.out, hN]; rfl))
  clear fin HV HM
  (try clear h0)
  (try clear hc)
  (try clear h2)
  (try clear hn)
  (try clear h1)
  (try clear h6)
  (try clear h7)
  obtain ⟨x1, x2, x3⟩ := k.boxes1 (w := w) (c1 := cA c) (t1 := 62) (Below.refl _ _)
  have X1 : Hid (k.Box _ w.heap.size 0 (cC c)) := lh x1
  have HB := lh x2
  have H2 := lh (h.below x2)
  clear x1 x2
  unfold cV
  go_enter Tryz.func95, Tryz.ntmps95
  go_upto_region 1 with fail
  generalize w.alloc (.cells (cA c) 62) = w2 at X1 HB H2 x3 ⊢
  have hlt2 := H2.out.lt
  have ⟨c1, c1f⟩ := k.cell_of X1.out (i := 1) rfl
  have ⟨c4, c4f⟩ := k.cell_of X1.out (i := 4) rfl
  have CB := lh (busy_any H2.out (b := false) (by rw [hN]; rfl))
  go_wp2_with (first | (go_at_call 97; ((with_reducible refine (CM.out _).mono ?_); rintro e w3 ⟨rfl, rfl⟩)) | (go_at_call 112; ((with_reducible refine (CB.out).mono ?_); rintro e w3 ⟨rfl, rfl⟩)))
  go_ret
  exact ⟨HF.out, HB.out⟩
 | cons n t =>
  by_cases h1 : n.kind = 1
  ·have b1 : (n.kind == 1) = true := by rw [h1]; rfl
   have HF := lh (fin (show mayWaitB a c = true from by unfold mayWaitB; rw [decide_eq_false h0, HM.out, hN]; exact decide_eq_true h1))
   clear fin HV HM
   (try clear h0)
   (try clear hc)
   (try clear h2)
   (try clear hn)
   (try clear h1)
   (try clear h6)
   (try clear h7)
   obtain ⟨x1, x2, x3⟩ := k.boxes1 (w := w) (c1 := cA c) (t1 := 62) (Below.refl _ _)
   have X1 : Hid (k.Box _ w.heap.size 0 (cC c)) := lh x1
   have HB := lh x2
   have H2 := lh (h.below x2)
   clear x1 x2
   unfold cV
   go_enter Tryz.func95, Tryz.ntmps95
   go_upto_region 1 with fail
   generalize w.alloc (.cells (cA c) 62) = w2 at X1 HB H2 x3 ⊢
   have hlt2 := H2.out.lt
   have ⟨c1, c1f⟩ := k.cell_of X1.out (i := 1) rfl
   have ⟨c4, c4f⟩ := k.cell_of X1.out (i := 4) rfl
   have CB := lh (busy_any H2.out (b := true) (by rw [hN]; rfl))
   have CN := lh (now_any H2.out hN)
   unfold cV at CN
   have FK := field_kind n
   go_wp2_with (first | (go_at_call 97; ((with_reducible refine (CM.out _).mono ?_); rintro e w3 ⟨rfl, rfl⟩)) | (go_at_call 112; ((with_reducible refine (CB.out).mono ?_); rintro e w3 ⟨rfl, rfl⟩)) | (go_at_call 100; ((with_reducible refine (CN.out).mono ?_); rintro e w4 ⟨rfl, hb⟩; have HB := lh (HB.out.trans (hb.mono HB.out.size)); clear hb)))
   go_ret
   exact ⟨HF.out, HB.out⟩
  ·have b1 : (n.kind == 1) = false := by rw [beq_eq_false_iff_ne]; exact h1
   have HF := lh (fin (show mayWaitB a c = false from by unfold mayWaitB; rw [decide_eq_false h0, HM.out, hN]; exact decide_eq_false h1))
   clear fin HV HM
   (try clear h0)
   (try clear hc)
   (try clear h2)
   (try clear hn)
   (try clear h1)
   (try clear h6)
   (try clear h7)
   obtain ⟨x1, x2, x3⟩ := k.boxes1 (w := w) (c1 := cA c) (t1 := 62) (Below.refl _ _)
   have X1 : Hid (k.Box _ w.heap.size 0 (cC c)) := lh x1
   have HB := lh x2
   have H2 := lh (h.below x2)
   clear x1 x2
   unfold cV
   go_enter Tryz.func95, Tryz.ntmps95
   go_upto_region 1 with fail
   generalize w.alloc (.cells (cA c) 62) = w2 at X1 HB H2 x3 ⊢
   have hlt2 := H2.out.lt
   have ⟨c1, c1f⟩ := k.cell_of X1.out (i := 1) rfl
   have ⟨c4, c4f⟩ := k.cell_of X1.out (i := 4) rfl
   have CB := lh (busy_any H2.out (b := true) (by rw [hN]; rfl))
   have CN := lh (now_any H2.out hN)
   unfold cV at CN
   have FK := field_kind n
   go_wp2_with (first | (go_at_call 97; ((with_reducible refine (CM.out _).mono ?_); rintro e w3 ⟨rfl, rfl⟩)) | (go_at_call 112; ((with_reducible refine (CB.out).mono ?_); rintro e w3 ⟨rfl, rfl⟩)) | (go_at_call 100; ((with_reducible refine (CN.out).mono ?_); rintro e w4 ⟨rfl, hb⟩; have HB := lh (HB.out.trans (hb.mono HB.out.size)); clear hb)))
   go_ret
   exact ⟨HF.out, HB.out⟩
def mayGoB (a : Ax) (c : C) : Bool := if c.kind = 1 then a.homed && decide (1 ≤ c.spd ∧ c.spd ≤ a.l.V) else if c.kind = 2 ∨ c.kind = 3 then decide (1 ≤ c.spd ∧ c.spd ≤ a.l.V) else if c.kind = 4 then velB a c.spd else if c.kind = 8 then decide (1 ≤ c.den) else true
set_option maxHeartbeats 4000000 in
theorem maygo_any (h : Cyc base g i L tb a R fr pa w) (c : C) (hv0 : 0 ≤ a.l.V) (hv1 : a.l.V ≤ 1048576) {b : Bool} (hb : mayGoB a c = b) :
  Calls Tryz.prog 96 #[.pointer (some ⟨g, 0, none⟩), cV c] w fun e w' => e = .returned (.bool b) ∧ Below w.heap.size w w' := by
 have HV := lh hb
 have fin : ∀ {y : Bool}, mayGoB a c = y → Ending.returned (.bool y) = .returned (.bool b) := fun h => by rw [← HV.out, h]
 clear hb
 obtain ⟨wi, hwi⟩ : ∃ t, decide (1 ≤ c.spd ∧ c.spd ≤ a.l.V) = t := ⟨_, rfl⟩
 have CW := lh fun W => w64_any hwi W
 have HW := lh hwi
 clear hwi
 obtain ⟨ve, hve⟩ : ∃ t, velB a c.spd = t := ⟨_, rfl⟩
 have CE := lh fun S N W' W => isvel_any a hv0 hv1 S N W' hve W
 have HE := lh hve
 clear hve hv0 hv1
 by_cases h1 : c.kind = 1
 ·have b1 : (c.kind == 1) = true := by rw [h1]; rfl
  cases hh : a.homed
  ·have HD := lh hh
   have HF := lh (fin (show mayGoB a c = false from by unfold mayGoB; rw [if_pos h1, hh]; rfl))
   clear fin HV HW HE
   (try clear h1)
   (try clear h2)
   (try clear h3)
   (try clear h4)
   (try clear h8)
   obtain ⟨x1, x2, x3⟩ := k.boxes1 (w := w) (c1 := cA c) (t1 := 62) (Below.refl _ _)
   have X1 : Hid (k.Box _ w.heap.size 0 (cC c)) := lh x1
   have HB := lh x2
   have H2 := lh (h.below x2)
   clear x1 x2
   unfold cV
   go_enter Tryz.func96, Tryz.ntmps96
   go_upto_region 1 with fail
   generalize w.alloc (.cells (cA c) 62) = w2 at X1 HB H2 x3 ⊢
   have hlt2 := H2.out.lt
   have ⟨c1, c1f⟩ := k.cell_of X1.out (i := 1) rfl
   have ⟨c3, c3f⟩ := k.cell_of X1.out (i := 3) rfl
   have ⟨c6, c6f⟩ := k.cell_of X1.out (i := 6) rfl
   obtain ⟨S, N, W, T, h2, ht⟩ := H2.out
   have ⟨d1, d1f⟩ := k.cell_of h2.box (i := 1) rfl
   have ⟨d16, d16f⟩ := k.cell_of h2.box (i := 16) rfl
   have hz := x3
   rw [HD.out] at d16
   go_upto_region 3 with fail
   refine wp_region_T (by kernel_rfl) (fun w' => Below w2.heap.size w2 w') [] (Below.refl _ _).drew (fun hHeld => ?_)
   refine tk0 0 rfl ?_ ?_ ?_
   rotate_left
   ·intro; go_simp <;> with_reducible rfl
   try simp only [Act.put, p1, p2, p3, p4, p6]
   refine tk0 1 rfl ?_ ?_ ?_
   rotate_left
   ·intro; go_simp <;> with_reducible rfl
   try simp only [Act.put, p1, p2, p3, p4, p5, p6]
   refine tk0 2 rfl ?_ ?_ ?_
   rotate_left
   ·intro; go_simp <;> with_reducible rfl
   try simp only [Act.put, p1, p2, p3, p4, p5, p6]
   refine tk0 3 rfl ?_ ?_ ?_
   rotate_left
   ·intro; go_simp <;> with_reducible rfl
   try simp only [Act.put, p1, p2, p3, p4, p5, p6]
   refine tk 4 rfl ?_ ?_ ?_
   rotate_left
   ·intro w_ hSw; have q0 := (hSw.cell (p := ⟨g, 16, none⟩) hlt2).trans d16; clear hSw; go_simp <;> (with_reducible rfl)
   try simp only [Act.put, p1, p2, p3, p4, p5, p6]
   refine tk0 5 rfl ?_ ?_ ?_
   rotate_left
   ·intro; go_simp <;> with_reducible rfl
   try simp only [Act.put, p1, p2, p3, p4, p5, p6]
   refine tks 6 rfl ?_
   try simp only [Act.put, p1, p2, p3, p4, p5, p6]
   refine tks 7 rfl ?_
   try simp only [Act.put, p1, p2, p3, p4, p5, p6]
   refine tks 8 rfl ?_
   try simp only [Act.put, p1, p2, p3, p4, p5, p6]
   refine tks 9 rfl ?_
   try simp only [Act.put, p1, p2, p3, p4, p5, p6]
   refine tks 10 rfl ?_
   try simp only [Act.put, p1, p2, p3, p4, p5, p6]
   refine tks 11 rfl ?_
   try simp only [Act.put, p1, p2, p3, p4, p5, p6]
   refine tks 12 rfl ?_
   try simp only [Act.put, p1, p2, p3, p4, p5, p6]
   refine tks 13 rfl ?_
   try simp only [Act.put, p1, p2, p3, p4, p5, p6]
   refine tks 14 rfl ?_
   try simp only [Act.put, p1, p2, p3, p4, p5, p6]
   refine tk0 15 rfl ?_ ?_ ?_
   rotate_left
   ·intro; go_simp <;> with_reducible rfl
   try simp only [Act.put, p1, p2, p3, p4, p5, p6]
   refine tk0 16 rfl ?_ ?_ ?_
   rotate_left
   ·intro; go_simp <;> with_reducible rfl
   try simp only [Act.put, p1, p2, p3, p4, p5, p6]
   refine wpAnyT_done (by kernel_rfl) ?_ _
   go_wp2
   go_ret
   first | exact ⟨HF.out, HB.out⟩ | exact ⟨HF.out, HB.out.drew⟩
  ·have HD := lh hh
   have HF := lh (fin (show mayGoB a c = wi from by unfold mayGoB; rw [if_pos h1, hh, HW.out]; rfl))
   clear fin HV HW HE
   (try clear h1)
   (try clear h2)
   (try clear h3)
   (try clear h4)
   (try clear h8)
   obtain ⟨x1, x2, x3⟩ := k.boxes1 (w := w) (c1 := cA c) (t1 := 62) (Below.refl _ _)
   have X1 : Hid (k.Box _ w.heap.size 0 (cC c)) := lh x1
   have HB := lh x2
   have H2 := lh (h.below x2)
   clear x1 x2
   unfold cV
   go_enter Tryz.func96, Tryz.ntmps96
   go_upto_region 1 with fail
   generalize w.alloc (.cells (cA c) 62) = w2 at X1 HB H2 x3 ⊢
   have hlt2 := H2.out.lt
   have ⟨c1, c1f⟩ := k.cell_of X1.out (i := 1) rfl
   have ⟨c3, c3f⟩ := k.cell_of X1.out (i := 3) rfl
   have ⟨c6, c6f⟩ := k.cell_of X1.out (i := 6) rfl
   obtain ⟨S, N, W, T, h2, ht⟩ := H2.out
   have ⟨d1, d1f⟩ := k.cell_of h2.box (i := 1) rfl
   have ⟨d16, d16f⟩ := k.cell_of h2.box (i := 16) rfl
   have hz := x3
   rw [HD.out] at d16
   go_upto_region 3 with fail
   refine wp_region_T (by kernel_rfl) (fun w' => Below w2.heap.size w2 w') [] (Below.refl _ _).drew (fun hHeld => ?_)
   refine tk0 0 rfl ?_ ?_ ?_
   rotate_left
   ·intro; go_simp <;> with_reducible rfl
   try simp only [Act.put, p1, p2, p3, p4, p6]
   refine tk0 1 rfl ?_ ?_ ?_
   rotate_left
   ·intro; go_simp <;> with_reducible rfl
   try simp only [Act.put, p1, p2, p3, p4, p5, p6]
   refine tk0 2 rfl ?_ ?_ ?_
   rotate_left
   ·intro; go_simp <;> with_reducible rfl
   try simp only [Act.put, p1, p2, p3, p4, p5, p6]
   refine tk0 3 rfl ?_ ?_ ?_
   rotate_left
   ·intro; go_simp <;> with_reducible rfl
   try simp only [Act.put, p1, p2, p3, p4, p5, p6]
   refine tk 4 rfl ?_ ?_ ?_
   rotate_left
   ·intro w_ hSw; have q0 := (hSw.cell (p := ⟨g, 16, none⟩) hlt2).trans d16; clear hSw; go_simp <;> (with_reducible rfl)
   try simp only [Act.put, p1, p2, p3, p4, p5, p6]
   refine tk0 5 rfl ?_ ?_ ?_
   rotate_left
   ·intro; go_simp <;> with_reducible rfl
   try simp only [Act.put, p1, p2, p3, p4, p5, p6]
   refine tk0 6 rfl ?_ ?_ ?_
   rotate_left
   ·intro; go_simp <;> with_reducible rfl
   try simp only [Act.put, p1, p2, p3, p4, p5, p6]
   refine tk 7 rfl ?_ ?_ ?_
   rotate_left
   ·intro w_ hSw; have q0 := (hSw.cell (p := ⟨w.heap.size, 3, none⟩) hz).trans c3; clear hSw; go_simp <;> (with_reducible rfl)
   try simp only [Act.put, p1, p2, p3, p4, p5, p6]
   refine tk0 8 rfl ?_ ?_ ?_
   rotate_left
   ·intro; go_simp <;> with_reducible rfl
   try simp only [Act.put, p1, p2, p3, p4, p5, p6]
   refine tk0 9 rfl ?_ ?_ ?_
   rotate_left
   ·intro; go_simp <;> with_reducible rfl
   try simp only [Act.put, p1, p2, p3, p4, p5, p6]
   refine tk0 10 rfl ?_ ?_ ?_
   rotate_left
   ·intro; go_simp <;> with_reducible rfl
   try simp only [Act.put, p1, p2, p3, p4, p5, p6]
   refine tk0 11 rfl ?_ ?_ ?_
   rotate_left
   ·intro; go_simp <;> with_reducible rfl
   try simp only [Act.put, p1, p2, p3, p4, p5, p6]
   refine tk0 12 rfl ?_ ?_ ?_
   rotate_left
   ·intro; go_simp <;> with_reducible rfl
   try simp only [Act.put, p1, p2, p3, p4, p5, p6]
   refine tk 13 rfl ?_ ?_ ?_
   rotate_left
   ·intro w_ hSw; have q0 := (hSw.cell (p := ⟨g, 1, none⟩) hlt2).trans d1; clear hSw; go_simp <;> (with_reducible rfl)
   try simp only [Act.put, p1, p2, p3, p4, p5, p6]
   refine ry [14] ?_
   refine ar1 rfl fun K hK => ?_
   go_simp
   (go_at_call 50; ((with_reducible refine (CW.out _).mono ?_); rintro e w4 ⟨rfl, rfl⟩))
   go_wp2_with fail
   refine hK.out _ _ hHeld (fun hHeld => ?_)
   clear hK K
   try simp only [Act.put, p1, p2, p3, p4, p5, p6]
   refine tk0 15 rfl ?_ ?_ ?_
   rotate_left
   ·intro; go_simp <;> with_reducible rfl
   try simp only [Act.put, p1, p2, p3, p4, p5, p6]
   refine tk0 16 rfl ?_ ?_ ?_
   rotate_left
   ·intro; go_simp <;> with_reducible rfl
   try simp only [Act.put, p1, p2, p3, p4, p5, p6]
   refine wpAnyT_done (by kernel_rfl) ?_ _
   go_wp2
   go_ret
   first | exact ⟨HF.out, HB.out⟩ | exact ⟨HF.out, HB.out.drew⟩
 have b1 : (c.kind == 1) = false := by rw [beq_eq_false_iff_ne]; exact h1
 by_cases h2 : c.kind = 2
 ·have b2 : (c.kind == 2) = true := by rw [h2]; rfl
  have HF := lh (fin (show mayGoB a c = wi from by unfold mayGoB; rw [if_neg h1, if_pos (.inl h2), HW.out]))
  clear fin HV HW HE
  (try clear h1)
  (try clear h2)
  (try clear h3)
  (try clear h4)
  (try clear h8)
  obtain ⟨x1, x2, x3⟩ := k.boxes1 (w := w) (c1 := cA c) (t1 := 62) (Below.refl _ _)
  have X1 : Hid (k.Box _ w.heap.size 0 (cC c)) := lh x1
  have HB := lh x2
  have H2 := lh (h.below x2)
  clear x1 x2
  unfold cV
  go_enter Tryz.func96, Tryz.ntmps96
  go_upto_region 1 with fail
  generalize w.alloc (.cells (cA c) 62) = w2 at X1 HB H2 x3 ⊢
  have hlt2 := H2.out.lt
  have ⟨c1, c1f⟩ := k.cell_of X1.out (i := 1) rfl
  have ⟨c3, c3f⟩ := k.cell_of X1.out (i := 3) rfl
  have ⟨c6, c6f⟩ := k.cell_of X1.out (i := 6) rfl
  obtain ⟨S, N, W, T, h2, ht⟩ := H2.out
  have ⟨d1, d1f⟩ := k.cell_of h2.box (i := 1) rfl
  have hz := x3
  go_upto_region 6 with fail
  refine wp_region_T (by kernel_rfl) (fun w' => Below w2.heap.size w2 w') [] (Below.refl _ _).drew (fun hHeld => ?_)
  refine tk0 0 rfl ?_ ?_ ?_
  rotate_left
  ·intro; go_simp <;> with_reducible rfl
  try simp only [Act.put, p1, p2, p3, p4, p6]
  refine tk 1 rfl ?_ ?_ ?_
  rotate_left
  ·intro w_ hSw; have q0 := (hSw.cell (p := ⟨w.heap.size, 3, none⟩) hz).trans c3; clear hSw; go_simp <;> (with_reducible rfl)
  try simp only [Act.put, p1, p2, p3, p4, p5, p6]
  refine tk0 2 rfl ?_ ?_ ?_
  rotate_left
  ·intro; go_simp <;> with_reducible rfl
  try simp only [Act.put, p1, p2, p3, p4, p5, p6]
  refine tk0 3 rfl ?_ ?_ ?_
  rotate_left
  ·intro; go_simp <;> with_reducible rfl
  try simp only [Act.put, p1, p2, p3, p4, p5, p6]
  refine tk0 4 rfl ?_ ?_ ?_
  rotate_left
  ·intro; go_simp <;> with_reducible rfl
  try simp only [Act.put, p1, p2, p3, p4, p5, p6]
  refine tk0 5 rfl ?_ ?_ ?_
  rotate_left
  ·intro; go_simp <;> with_reducible rfl
  try simp only [Act.put, p1, p2, p3, p4, p5, p6]
  refine tk0 6 rfl ?_ ?_ ?_
  rotate_left
  ·intro; go_simp <;> with_reducible rfl
  try simp only [Act.put, p1, p2, p3, p4, p5, p6]
  refine tk 7 rfl ?_ ?_ ?_
  rotate_left
  ·intro w_ hSw; have q0 := (hSw.cell (p := ⟨g, 1, none⟩) hlt2).trans d1; clear hSw; go_simp <;> (with_reducible rfl)
  try simp only [Act.put, p1, p2, p3, p4, p5, p6]
  refine ry [8] ?_
  refine ar1 rfl fun K hK => ?_
  go_simp
  (go_at_call 50; ((with_reducible refine (CW.out _).mono ?_); rintro e w4 ⟨rfl, rfl⟩))
  go_wp2_with fail
  refine hK.out _ _ hHeld (fun hHeld => ?_)
  clear hK K
  try simp only [Act.put, p1, p2, p3, p4, p5, p6]
  refine tk0 9 rfl ?_ ?_ ?_
  rotate_left
  ·intro; go_simp <;> with_reducible rfl
  try simp only [Act.put, p1, p2, p3, p4, p5, p6]
  refine wpAnyT_done (by kernel_rfl) ?_ _
  go_wp2
  go_ret
  first | exact ⟨HF.out, HB.out⟩ | exact ⟨HF.out, HB.out.drew⟩
 have b2 : (c.kind == 2) = false := by rw [beq_eq_false_iff_ne]; exact h2
 by_cases h3 : c.kind = 3
 ·have b3 : (c.kind == 3) = true := by rw [h3]; rfl
  have HF := lh (fin (show mayGoB a c = wi from by unfold mayGoB; rw [if_neg h1, if_pos (.inr h3), HW.out]))
  clear fin HV HW HE
  (try clear h1)
  (try clear h2)
  (try clear h3)
  (try clear h4)
  (try clear h8)
  obtain ⟨x1, x2, x3⟩ := k.boxes1 (w := w) (c1 := cA c) (t1 := 62) (Below.refl _ _)
  have X1 : Hid (k.Box _ w.heap.size 0 (cC c)) := lh x1
  have HB := lh x2
  have H2 := lh (h.below x2)
  clear x1 x2
  unfold cV
  go_enter Tryz.func96, Tryz.ntmps96
  go_upto_region 1 with fail
  generalize w.alloc (.cells (cA c) 62) = w2 at X1 HB H2 x3 ⊢
  have hlt2 := H2.out.lt
  have ⟨c1, c1f⟩ := k.cell_of X1.out (i := 1) rfl
  have ⟨c3, c3f⟩ := k.cell_of X1.out (i := 3) rfl
  have ⟨c6, c6f⟩ := k.cell_of X1.out (i := 6) rfl
  obtain ⟨S, N, W, T, h2, ht⟩ := H2.out
  have ⟨d1, d1f⟩ := k.cell_of h2.box (i := 1) rfl
  have hz := x3
  go_upto_region 6 with fail
  refine wp_region_T (by kernel_rfl) (fun w' => Below w2.heap.size w2 w') [] (Below.refl _ _).drew (fun hHeld => ?_)
  refine tk0 0 rfl ?_ ?_ ?_
  rotate_left
  ·intro; go_simp <;> with_reducible rfl
  try simp only [Act.put, p1, p2, p3, p4, p6]
  refine tk 1 rfl ?_ ?_ ?_
  rotate_left
  ·intro w_ hSw; have q0 := (hSw.cell (p := ⟨w.heap.size, 3, none⟩) hz).trans c3; clear hSw; go_simp <;> (with_reducible rfl)
  try simp only [Act.put, p1, p2, p3, p4, p5, p6]
  refine tk0 2 rfl ?_ ?_ ?_
  rotate_left
  ·intro; go_simp <;> with_reducible rfl
  try simp only [Act.put, p1, p2, p3, p4, p5, p6]
  refine tk0 3 rfl ?_ ?_ ?_
  rotate_left
  ·intro; go_simp <;> with_reducible rfl
  try simp only [Act.put, p1, p2, p3, p4, p5, p6]
  refine tk0 4 rfl ?_ ?_ ?_
  rotate_left
  ·intro; go_simp <;> with_reducible rfl
  try simp only [Act.put, p1, p2, p3, p4, p5, p6]
  refine tk0 5 rfl ?_ ?_ ?_
  rotate_left
  ·intro; go_simp <;> with_reducible rfl
  try simp only [Act.put, p1, p2, p3, p4, p5, p6]
  refine tk0 6 rfl ?_ ?_ ?_
  rotate_left
  ·intro; go_simp <;> with_reducible rfl
  try simp only [Act.put, p1, p2, p3, p4, p5, p6]
  refine tk 7 rfl ?_ ?_ ?_
  rotate_left
  ·intro w_ hSw; have q0 := (hSw.cell (p := ⟨g, 1, none⟩) hlt2).trans d1; clear hSw; go_simp <;> (with_reducible rfl)
  try simp only [Act.put, p1, p2, p3, p4, p5, p6]
  refine ry [8] ?_
  refine ar1 rfl fun K hK => ?_
  go_simp
  (go_at_call 50; ((with_reducible refine (CW.out _).mono ?_); rintro e w4 ⟨rfl, rfl⟩))
  go_wp2_with fail
  refine hK.out _ _ hHeld (fun hHeld => ?_)
  clear hK K
  try simp only [Act.put, p1, p2, p3, p4, p5, p6]
  refine tk0 9 rfl ?_ ?_ ?_
  rotate_left
  ·intro; go_simp <;> with_reducible rfl
  try simp only [Act.put, p1, p2, p3, p4, p5, p6]
  refine wpAnyT_done (by kernel_rfl) ?_ _
  go_wp2
  go_ret
  first | exact ⟨HF.out, HB.out⟩ | exact ⟨HF.out, HB.out.drew⟩
 have b3 : (c.kind == 3) = false := by rw [beq_eq_false_iff_ne]; exact h3
 have h23 : ¬ (c.kind = 2 ∨ c.kind = 3) := fun h => h.elim h2 h3
 by_cases h4 : c.kind = 4
 ·have b4 : (c.kind == 4) = true := by rw [h4]; rfl
  have HF := lh (fin (show mayGoB a c = ve from by unfold mayGoB; rw [if_neg h1, if_neg h23, if_pos h4, HE.out]))
  clear fin HV HW HE
  (try clear h1)
  (try clear h2)
  (try clear h3)
  (try clear h4)
  (try clear h8)
  obtain ⟨x1, x2, x3⟩ := k.boxes1 (w := w) (c1 := cA c) (t1 := 62) (Below.refl _ _)
  have X1 : Hid (k.Box _ w.heap.size 0 (cC c)) := lh x1
  have HB := lh x2
  have H2 := lh (h.below x2)
  clear x1 x2
  unfold cV
  go_enter Tryz.func96, Tryz.ntmps96
  go_upto_region 1 with fail
  generalize w.alloc (.cells (cA c) 62) = w2 at X1 HB H2 x3 ⊢
  have hlt2 := H2.out.lt
  have ⟨c1, c1f⟩ := k.cell_of X1.out (i := 1) rfl
  have ⟨c3, c3f⟩ := k.cell_of X1.out (i := 3) rfl
  have ⟨c6, c6f⟩ := k.cell_of X1.out (i := 6) rfl
  obtain ⟨S, N, W, T, h2, ht⟩ := H2.out
  have ⟨d1, d1f⟩ := k.cell_of h2.box (i := 1) rfl
  have hz := x3
  clear h23
  go_upto_region 8 with fail
  refine wp_region_T (by kernel_rfl) (fun w' => Below w2.heap.size w2 w') [] (Below.refl _ _).drew (fun hHeld => ?_)
  refine tk0 0 rfl ?_ ?_ ?_
  rotate_left
  ·intro; go_simp <;> with_reducible rfl
  try simp only [Act.put, p1, p2, p3, p4, p6]
  refine tk0 1 rfl ?_ ?_ ?_
  rotate_left
  ·intro; go_simp <;> with_reducible rfl
  try simp only [Act.put, p1, p2, p3, p4, p5, p6]
  refine tk0 2 rfl ?_ ?_ ?_
  rotate_left
  ·intro; go_simp <;> with_reducible rfl
  try simp only [Act.put, p1, p2, p3, p4, p5, p6]
  refine tkv 3 rfl (axV a S N W) (by exact m_y_ax h2.ax hlt2 41 rfl rfl rfl) ?_
  try simp only [Act.put, p1, p2, p3, p4, p5, p6]
  refine tk0 4 rfl ?_ ?_ ?_
  rotate_left
  ·intro; go_simp <;> with_reducible rfl
  try simp only [Act.put, p1, p2, p3, p4, p5, p6]
  refine tk 5 rfl ?_ ?_ ?_
  rotate_left
  ·intro w_ hSw; have q0 := (hSw.cell (p := ⟨w.heap.size, 3, none⟩) hz).trans c3; clear hSw; go_simp <;> (with_reducible rfl)
  try simp only [Act.put, p1, p2, p3, p4, p5, p6]
  refine ry [6] ?_
  refine ar1 rfl fun K hK => ?_
  go_simp
  (go_at_call 60; ((with_reducible refine (CE.out S N W _).mono ?_); rintro e w4 ⟨rfl, hb0⟩))
  go_wp2_with fail
  have hb := ((Below.refl w2.heap.size w2).drew).trans hb0
  have HB := lh (HB.out.trans (hb.mono HB.out.size))
  refine hK.out _ _ hb (fun hHeld => ?_)
  clear hK K
  try simp only [Act.put, p1, p2, p3, p4, p5, p6]
  refine tk0 7 rfl ?_ ?_ ?_
  rotate_left
  ·intro; go_simp <;> with_reducible rfl
  try simp only [Act.put, p1, p2, p3, p4, p5, p6]
  refine wpAnyT_done (by kernel_rfl) ?_ _
  go_wp2
  go_ret
  first | exact ⟨HF.out, HB.out⟩ | exact ⟨HF.out, HB.out.drew⟩
 have b4 : (c.kind == 4) = false := by rw [beq_eq_false_iff_ne]; exact h4
 by_cases h8 : c.kind = 8
 ·have b8 : (c.kind == 8) = true := by rw [h8]; rfl
  by_cases h9 : 1 ≤ c.den
  ·skip
   have HF := lh (fin (show mayGoB a c = true from by unfold mayGoB; rw [if_neg h1, if_neg h23, if_neg h4, if_pos h8]; exact decide_eq_true h9))
   clear fin HV HW HE
   (try clear h1)
   (try clear h2)
   (try clear h3)
   (try clear h4)
   (try clear h8)
   obtain ⟨x1, x2, x3⟩ := k.boxes1 (w := w) (c1 := cA c) (t1 := 62) (Below.refl _ _)
   have X1 : Hid (k.Box _ w.heap.size 0 (cC c)) := lh x1
   have HB := lh x2
   have H2 := lh (h.below x2)
   clear x1 x2
   unfold cV
   go_enter Tryz.func96, Tryz.ntmps96
   go_upto_region 1 with fail
   generalize w.alloc (.cells (cA c) 62) = w2 at X1 HB H2 x3 ⊢
   have hlt2 := H2.out.lt
   have ⟨c1, c1f⟩ := k.cell_of X1.out (i := 1) rfl
   have ⟨c3, c3f⟩ := k.cell_of X1.out (i := 3) rfl
   have ⟨c6, c6f⟩ := k.cell_of X1.out (i := 6) rfl
   obtain ⟨S, N, W, T, h2, ht⟩ := H2.out
   have ⟨d1, d1f⟩ := k.cell_of h2.box (i := 1) rfl
   have hz := x3
   clear h23
   go_wp2
   go_ret
   first | exact ⟨HF.out, HB.out⟩ | exact ⟨HF.out, HB.out.drew⟩
  ·have h9b : decide (1 ≤ c.den) = false := decide_eq_false h9
   have HF := lh (fin (show mayGoB a c = false from by unfold mayGoB; rw [if_neg h1, if_neg h23, if_neg h4, if_pos h8]; exact decide_eq_false h9))
   clear fin HV HW HE
   (try clear h1)
   (try clear h2)
   (try clear h3)
   (try clear h4)
   (try clear h8)
   obtain ⟨x1, x2, x3⟩ := k.boxes1 (w := w) (c1 := cA c) (t1 := 62) (Below.refl _ _)
   have X1 : Hid (k.Box _ w.heap.size 0 (cC c)) := lh x1
   have HB := lh x2
   have H2 := lh (h.below x2)
   clear x1 x2
   unfold cV
   go_enter Tryz.func96, Tryz.ntmps96
   go_upto_region 1 with fail
   generalize w.alloc (.cells (cA c) 62) = w2 at X1 HB H2 x3 ⊢
   have hlt2 := H2.out.lt
   have ⟨c1, c1f⟩ := k.cell_of X1.out (i := 1) rfl
   have ⟨c3, c3f⟩ := k.cell_of X1.out (i := 3) rfl
   have ⟨c6, c6f⟩ := k.cell_of X1.out (i := 6) rfl
   obtain ⟨S, N, W, T, h2, ht⟩ := H2.out
   have ⟨d1, d1f⟩ := k.cell_of h2.box (i := 1) rfl
   have hz := x3
   clear h23
   go_wp2
   go_ret
   first | exact ⟨HF.out, HB.out⟩ | exact ⟨HF.out, HB.out.drew⟩
 have b8 : (c.kind == 8) = false := by rw [beq_eq_false_iff_ne]; exact h8
 have HF := lh (fin (show mayGoB a c = true from by unfold mayGoB; rw [if_neg h1, if_neg h23, if_neg h4, if_neg h8]))
 clear fin HV HW HE
 (try clear h1)
 (try clear h2)
 (try clear h3)
 (try clear h4)
 (try clear h8)
 obtain ⟨x1, x2, x3⟩ := k.boxes1 (w := w) (c1 := cA c) (t1 := 62) (Below.refl _ _)
 have X1 : Hid (k.Box _ w.heap.size 0 (cC c)) := lh x1
 have HB := lh x2
 have H2 := lh (h.below x2)
 clear x1 x2
 unfold cV
 go_enter Tryz.func96, Tryz.ntmps96
 go_upto_region 1 with fail
 generalize w.alloc (.cells (cA c) 62) = w2 at X1 HB H2 x3 ⊢
 have hlt2 := H2.out.lt
 have ⟨c1, c1f⟩ := k.cell_of X1.out (i := 1) rfl
 have ⟨c3, c3f⟩ := k.cell_of X1.out (i := 3) rfl
 have ⟨c6, c6f⟩ := k.cell_of X1.out (i := 6) rfl
 obtain ⟨S, N, W, T, h2, ht⟩ := H2.out
 have ⟨d1, d1f⟩ := k.cell_of h2.box (i := 1) rfl
 have hz := x3
 clear h23
 go_wp2
 go_ret
 first | exact ⟨HF.out, HB.out⟩ | exact ⟨HF.out, HB.out.drew⟩
end
end Go.Proofs.YtijlccblabadaaaGreat.cx
end
section
namespace Go.Proofs.YtijlccblabadaaaGreat.cx
open Go.ChangeShapes Go.WideShapes Go.ChangeAt Go.RowKit Go.Proofs.YtijlccblabadaaaGreat.k Go.Proofs.YtijlccblabadaaaGreat.rr Go.Proofs.YtijlccblabadaaaGreat.ax
open Go.Proofs.YtijlccblabadaaaGreat.ln (C RdC RdI iC cC cV lnV)
set_option linter.unusedVariables false
set_option maxRecDepth 100000
section
variable {base g : Nat} {i : In} {L : Sl} {a : Ax} {R : List Rp} {fr pa : Bool} {w : World} {tb : Option Nat}
def baseV (a : Ax) (c : C) : Int := match a.N with
 | [] => a.p
 | n :: _ => if c.mode ≠ 0 then (ln.lastC a.N a.W).tgt else if c.kind = 3 ∧ n.kind = 1 then n.tgt else a.p
set_option maxHeartbeats 4000000 in
theorem base_any (h : Cyc base g i L tb a R fr pa w) (c : C) (hr : ln.RightL a.N a.W) {x : Int} (hx : baseV a c = x) :
  Calls Tryz.prog 122 #[.pointer (some ⟨g, 0, none⟩), cV c] w fun e w' => e = .returned (.int .i64 x) ∧ Below w.heap.size w w' := by
 have HV := lh hx
 have HR := lh hr
 have fin : ∀ {y : Int}, baseV a c = y → Ending.returned (.int .i64 y) = .returned (.int .i64 x) := fun h => by rw [← HV.out, h]
 clear hx hr
 cases hN : a.N with
 | nil =>
  have HF := lh (fin (show baseV a c = a.p from by unfold baseV; rw [hN]))
  clear fin HV
  (try clear h0)
  (try clear h3)
  (try clear h1)
  obtain ⟨x1, x2, x3⟩ := k.boxes1 (w := w) (c1 := cA c) (t1 := 62) (Below.refl _ _)
  have X1 : Hid (k.Box _ w.heap.size 0 (cC c)) := lh x1
  have HB := lh x2
  have H2 := lh (h.below x2)
  clear x1 x2
  unfold cV
  go_enter Tryz.func122, Tryz.ntmps122
  go_upto_region 1 with fail
  generalize w.alloc (.cells (cA c) 62) = w2 at X1 HB H2 x3 ⊢
  have hlt2 := H2.out.lt
  have ⟨c1, c1f⟩ := k.cell_of X1.out (i := 1) rfl
  have ⟨c4, c4f⟩ := k.cell_of X1.out (i := 4) rfl
  obtain ⟨S, N, W, T, h2, ht⟩ := H2.out
  have ⟨d10, d10f⟩ := k.cell_of h2.box (i := 10) rfl
  have CB := lh (busy_any H2.out (b := false) (by rw [hN]; rfl))
  go_wp2_with (go_at_call 112; ((with_reducible refine (CB.out).mono ?_); rintro e w3 ⟨rfl, rfl⟩))
  go_ret
  exact ⟨HF.out, HB.out⟩
 | cons n t =>
  by_cases h0 : c.mode = 0
  ·have b0 : (c.mode != 0) = false := by rw [h0]; rfl
   have hm : ¬ c.mode ≠ 0 := fun h => h h0
   by_cases h3 : c.kind = 3
   ·have b3 : (c.kind == 3) = true := by rw [h3]; rfl
    by_cases h1 : n.kind = 1
    ·have b1 : (n.kind == 1) = true := by rw [h1]; rfl
     have HF := lh (fin (show baseV a c = n.tgt from by unfold baseV; rw [hN]; dsimp only; rw [if_neg hm, if_pos ⟨h3, h1⟩]))
     clear fin HV
     (try clear h0)
     (try clear h3)
     (try clear h1)
     obtain ⟨x1, x2, x3⟩ := k.boxes1 (w := w) (c1 := cA c) (t1 := 62) (Below.refl _ _)
     have X1 : Hid (k.Box _ w.heap.size 0 (cC c)) := lh x1
     have HB := lh x2
     have H2 := lh (h.below x2)
     clear x1 x2
     unfold cV
     go_enter Tryz.func122, Tryz.ntmps122
     go_upto_region 1 with fail
     generalize w.alloc (.cells (cA c) 62) = w2 at X1 HB H2 x3 ⊢
     have hlt2 := H2.out.lt
     have ⟨c1, c1f⟩ := k.cell_of X1.out (i := 1) rfl
     have ⟨c4, c4f⟩ := k.cell_of X1.out (i := 4) rfl
     have CB := lh (busy_any H2.out (b := true) (by rw [hN]; rfl))
     have BC := lh (Below.refl w2.heap.size w2)
     have CN := lh fun (W : World) (hb : Below w2.heap.size w2 W) => now_any (H2.out.below hb) hN
     unfold cV at CN
     have FK := field_kind n
     have FT := field_tgt n
     go_wp2_with (first | (go_at_call 112; ((with_reducible refine (CB.out).mono ?_); rintro e w3 ⟨rfl, rfl⟩)) | (go_at_call 100; ((with_reducible refine (CN.out _ BC.out).mono ?_); rintro e w4 ⟨rfl, hb⟩; have HB := lh (HB.out.trans (hb.mono HB.out.size)); have BC := lh (BC.out.trans (hb.mono BC.out.size)); clear hb)))
     go_ret
     exact ⟨HF.out, HB.out⟩
    ·have b1 : (n.kind == 1) = false := by rw [beq_eq_false_iff_ne]; exact h1
     have HF := lh (fin (show baseV a c = a.p from by unfold baseV; rw [hN]; dsimp only; rw [if_neg hm, if_neg fun h => h1 h.2]))
     clear fin HV
     (try clear h0)
     (try clear h3)
     (try clear h1)
     obtain ⟨x1, x2, x3⟩ := k.boxes1 (w := w) (c1 := cA c) (t1 := 62) (Below.refl _ _)
     have X1 : Hid (k.Box _ w.heap.size 0 (cC c)) := lh x1
     have HB := lh x2
     have H2 := lh (h.below x2)
     clear x1 x2
     unfold cV
     go_enter Tryz.func122, Tryz.ntmps122
     go_upto_region 1 with fail
     generalize w.alloc (.cells (cA c) 62) = w2 at X1 HB H2 x3 ⊢
     have hlt2 := H2.out.lt
     have ⟨c1, c1f⟩ := k.cell_of X1.out (i := 1) rfl
     have ⟨c4, c4f⟩ := k.cell_of X1.out (i := 4) rfl
     obtain ⟨S, N, W, T, h2, ht⟩ := H2.out
     have ⟨d10, d10f⟩ := k.cell_of h2.box (i := 10) rfl
     have CB := lh (busy_any H2.out (b := true) (by rw [hN]; rfl))
     have BC := lh (Below.refl w2.heap.size w2)
     have CN := lh fun (W : World) (hb : Below w2.heap.size w2 W) => now_any (H2.out.below hb) hN
     unfold cV at CN
     have FK := field_kind n
     have FT := field_tgt n
     go_wp2_with (first | (go_at_call 112; ((with_reducible refine (CB.out).mono ?_); rintro e w3 ⟨rfl, rfl⟩)) | (go_at_call 100; ((with_reducible refine (CN.out _ BC.out).mono ?_); rintro e w4 ⟨rfl, hb⟩; have HB := lh (HB.out.trans (hb.mono HB.out.size)); have d10 := (hb.cell (p := ⟨g, 10, none⟩) hlt2).trans d10; clear hb)))
     go_ret
     exact ⟨HF.out, HB.out⟩
   ·have b3 : (c.kind == 3) = false := by rw [beq_eq_false_iff_ne]; exact h3
    have HF := lh (fin (show baseV a c = a.p from by unfold baseV; rw [hN]; dsimp only; rw [if_neg hm, if_neg fun h => h3 h.1]))
    clear fin HV
    (try clear h0)
    (try clear h3)
    (try clear h1)
    obtain ⟨x1, x2, x3⟩ := k.boxes1 (w := w) (c1 := cA c) (t1 := 62) (Below.refl _ _)
    have X1 : Hid (k.Box _ w.heap.size 0 (cC c)) := lh x1
    have HB := lh x2
    have H2 := lh (h.below x2)
    clear x1 x2
    unfold cV
    go_enter Tryz.func122, Tryz.ntmps122
    go_upto_region 1 with fail
    generalize w.alloc (.cells (cA c) 62) = w2 at X1 HB H2 x3 ⊢
    have hlt2 := H2.out.lt
    have ⟨c1, c1f⟩ := k.cell_of X1.out (i := 1) rfl
    have ⟨c4, c4f⟩ := k.cell_of X1.out (i := 4) rfl
    obtain ⟨S, N, W, T, h2, ht⟩ := H2.out
    have ⟨d10, d10f⟩ := k.cell_of h2.box (i := 10) rfl
    have CB := lh (busy_any H2.out (b := true) (by rw [hN]; rfl))
    go_wp2_with (go_at_call 112; ((with_reducible refine (CB.out).mono ?_); rintro e w3 ⟨rfl, rfl⟩))
    go_ret
    exact ⟨HF.out, HB.out⟩
  ·have b0 : (c.mode != 0) = true := by rw [bne_iff_ne]; exact h0
   obtain ⟨lc, hlc⟩ : ∃ q, ln.lastC a.N a.W = q := ⟨_, rfl⟩
   obtain ⟨lb, hlb⟩ : ∃ q, ln.lastB a.N a.W = q := ⟨_, rfl⟩
   have HLC := lh hlc
   have HLB := lh hlb
   clear hlc hlb
   have HF := lh (fin (show baseV a c = lc.tgt from by unfold baseV; rw [hN]; dsimp only; rw [if_pos h0, ← hN, HLC.out]))
   clear fin HV
   (try clear h0)
   obtain ⟨x1, x2, x3⟩ := k.boxes1 (w := w) (c1 := cA c) (t1 := 62) (Below.refl _ _)
   have X1 : Hid (k.Box _ w.heap.size 0 (cC c)) := lh x1
   have HB := lh x2
   have H2 := lh (h.below x2)
   clear x1 x2
   unfold cV
   go_enter Tryz.func122, Tryz.ntmps122
   go_upto_region 1 with fail
   generalize w.alloc (.cells (cA c) 62) = w2 at X1 HB H2 x3 ⊢
   have hlt2 := H2.out.lt
   have ⟨c1, c1f⟩ := k.cell_of X1.out (i := 1) rfl
   have ⟨c4, c4f⟩ := k.cell_of X1.out (i := 4) rfl
   obtain ⟨S, N, W, T, h2, ht⟩ := H2.out
   have ⟨d14, d14f⟩ := k.cell_of h2.box (i := 14) rfl
   have ⟨d15, d15f⟩ := k.cell_of h2.box (i := 15) rfl
   have CB := lh (busy_any H2.out (b := true) (by rw [hN]; rfl))
   have CL := lh (ln.last_any a.N a.W h2.rows.N h2.rows.W (Nat.le_refl _) (short_n h2.rows.N (by have := HR.out.2.1; omega)) (short_n h2.rows.W (by have := HR.out.2.2.1; omega)))
   rw [HLC.out, HLB.out] at CL
   unfold ln.GotC cV at CL
   go_wp2_with (first | (go_at_call 112; ((with_reducible refine (CB.out).mono ?_); rintro e w3 ⟨rfl, rfl⟩)) | (go_at_call 145; ((with_reducible refine (CL.out).mono ?_); rintro e w4 ⟨rfl, hb⟩; have HB := lh (HB.out.trans (hb.mono HB.out.size)); clear hb)))
   go_ret
   exact ⟨HF.out, HB.out.alloc HB.out.size _⟩
def placeB (a : Ax) (c : C) : Bool := if c.kind = 1 then true else q.addB (baseV a c) c.tgt
def placeV (a : Ax) (c : C) : Int := if c.kind = 1 then c.tgt else q.addV (baseV a c) c.tgt
set_option maxHeartbeats 4000000 in
theorem place_any (h : Cyc base g i L tb a R fr pa w) (c : C) (hr : ln.RightL a.N a.W) (hb1 : InR (baseV a c)) (hb2 : InR c.tgt) :
  Calls Tryz.prog 98 #[.pointer (some ⟨g, 0, none⟩), cV c] w fun e w' => e = .returned (.tuple #[.int .i64 (placeV a c), .bool (placeB a c)]) ∧ Below w.heap.size w w' := by
 by_cases h1 : c.kind = 1
 ·have b1 : (c.kind == 1) = true := by rw [h1]; rfl
  rw [show placeV a c = c.tgt from if_pos h1, show placeB a c = true from if_pos h1]
  clear h1
  obtain ⟨x1, x2, x3⟩ := k.boxes1 (w := w) (c1 := cA c) (t1 := 62) (Below.refl _ _)
  have X1 : Hid (k.Box _ w.heap.size 0 (cC c)) := lh x1
  have HB := lh x2
  have H2 := lh (h.below x2)
  clear x1 x2
  unfold cV
  go_enter Tryz.func98, Tryz.ntmps98
  go_upto_region 1 with fail
  generalize w.alloc (.cells (cA c) 62) = w2 at X1 HB H2 x3 ⊢
  have hlt2 := H2.out.lt
  have ⟨c1, c1f⟩ := k.cell_of X1.out (i := 1) rfl
  have ⟨c2, c2f⟩ := k.cell_of X1.out (i := 2) rfl
  go_wp2
  go_ret2
  exact ⟨rfl, HB.out⟩
 ·have b1 : (c.kind == 1) = false := by rw [beq_eq_false_iff_ne]; exact h1
  rw [show placeV a c = q.addV (baseV a c) c.tgt from if_neg h1, show placeB a c = q.addB (baseV a c) c.tgt from if_neg h1]
  clear h1
  obtain ⟨x, hx⟩ : ∃ q, baseV a c = q := ⟨_, rfl⟩
  rw [hx] at hb1 ⊢
  have CA := lh fun W => q.add_any x c.tgt hb1.1 hb1.2 hb2.1 hb2.2 W
  obtain ⟨av, hav⟩ : ∃ z, q.addV x c.tgt = z := ⟨_, rfl⟩
  obtain ⟨ab, hab⟩ : ∃ z, q.addB x c.tgt = z := ⟨_, rfl⟩
  rw [hav, hab] at CA ⊢
  have HX := lh hx
  clear hav hab hb1 hb2 hx
  obtain ⟨x1, x2, x3⟩ := k.boxes1 (w := w) (c1 := cA c) (t1 := 62) (Below.refl _ _)
  have X1 : Hid (k.Box _ w.heap.size 0 (cC c)) := lh x1
  have HB := lh x2
  have H2 := lh (h.below x2)
  clear x1 x2
  unfold cV
  go_enter Tryz.func98, Tryz.ntmps98
  go_upto_region 1 with fail
  generalize w.alloc (.cells (cA c) 62) = w2 at X1 HB H2 x3 ⊢
  have hlt2 := H2.out.lt
  have ⟨c0, c0f⟩ := k.cell_of X1.out (i := 0) rfl
  have ⟨c1, c1f⟩ := k.cell_of X1.out (i := 1) rfl
  have ⟨c2, c2f⟩ := k.cell_of X1.out (i := 2) rfl
  have ⟨c3, c3f⟩ := k.cell_of X1.out (i := 3) rfl
  have ⟨c4, c4f⟩ := k.cell_of X1.out (i := 4) rfl
  have ⟨c5, c5f⟩ := k.cell_of X1.out (i := 5) rfl
  have ⟨c6, c6f⟩ := k.cell_of X1.out (i := 6) rfl
  have CB := lh fun (W : World) (hb : Below w2.heap.size w2 W) => base_any (H2.out.below hb) c hr HX.out
  unfold cV at CB
  go_upto_region 3 with fail
  refine wp_region_T (by kernel_rfl) (fun w' => Below w2.heap.size w2 w') [] (Below.refl _ _).drew (fun hHeld => ?_)
  refine tk0 0 rfl ?_ ?_ ?_
  rotate_left
  ·intro; go_simp <;> with_reducible rfl
  try simp only [Act.put, p1, p2, p3, p4, p6]
  refine tk 1 rfl ?_ ?_ ?_
  rotate_left
  ·intro w_ hSw; have q0 := (hSw.cell (p := ⟨w.heap.size, 0, none⟩) x3).trans c0; have q1 := (hSw.cell (p := ⟨w.heap.size, 1, none⟩) x3).trans c1; have q2 := (hSw.cell (p := ⟨w.heap.size, 2, none⟩) x3).trans c2; have q3 := (hSw.cell (p := ⟨w.heap.size, 3, none⟩) x3).trans c3; have q4 := (hSw.cell (p := ⟨w.heap.size, 4, none⟩) x3).trans c4; have q5 := (hSw.cell (p := ⟨w.heap.size, 5, none⟩) x3).trans c5; have q6 := (hSw.cell (p := ⟨w.heap.size, 6, none⟩) x3).trans c6; clear hSw; go_simp <;> (with_reducible rfl)
  try simp only [Act.put, p1, p2, p3, p4, p5, p6]
  refine tk0 3 rfl ?_ ?_ ?_
  rotate_left
  ·intro; go_simp <;> with_reducible rfl
  try simp only [Act.put, p1, p2, p3, p4, p5, p6]
  refine tk 4 rfl ?_ ?_ ?_
  rotate_left
  ·intro w_ hSw; have q0 := (hSw.cell (p := ⟨w.heap.size, 2, none⟩) x3).trans c2; clear hSw; go_simp <;> (with_reducible rfl)
  try simp only [Act.put, p1, p2, p3, p4, p5, p6]
  refine ry [2] ?_
  refine ar1 rfl fun K hK => ?_
  go_simp
  (go_at_call 122; ((with_reducible refine (CB.out _ ((Below.refl _ _).drew)).mono ?_); rintro e w4 ⟨rfl, hb0⟩))
  go_wp2_with fail
  have hb := ((Below.refl w2.heap.size w2).drew).trans hb0
  have HB := lh (HB.out.trans (hb.mono HB.out.size))
  refine hK.out _ _ hb (fun hHeld => ?_)
  clear hK K
  try simp only [Act.put, p1, p2, p3, p4, p5, p6]
  refine ry [5] ?_
  refine ar1 rfl fun K hK => ?_
  go_simp
  (go_at_call 121; ((with_reducible refine (CA.out _).mono ?_); rintro e w5 ⟨rfl, rfl⟩))
  go_wp2_with fail
  refine hK.out _ _ hb (fun hHeld => ?_)
  clear hK K
  try simp only [Act.put, p1, p2, p3, p4, p5, p6]
  refine tk0 6 rfl ?_ ?_ ?_
  rotate_left
  ·intro; go_simp <;> with_reducible rfl
  try simp only [Act.put, p1, p2, p3, p4, p5, p6]
  refine tk0 7 rfl ?_ ?_ ?_
  rotate_left
  ·intro; go_simp <;> with_reducible rfl
  try simp only [Act.put, p1, p2, p3, p4, p5, p6]
  refine tk0 8 rfl ?_ ?_ ?_
  rotate_left
  ·intro; go_simp <;> with_reducible rfl
  try simp only [Act.put, p1, p2, p3, p4, p5, p6]
  refine tk0 9 rfl ?_ ?_ ?_
  rotate_left
  ·intro; go_simp <;> with_reducible rfl
  try simp only [Act.put, p1, p2, p3, p4, p5, p6]
  refine wpAnyT_done (by kernel_rfl) ?_ _
  go_wp2
  go_ret2
  exact ⟨rfl, HB.out⟩
def blendsB (a : Ax) (f : Int) : Bool := match a.N, a.W with
 | c :: _, n :: _ => decide (2 ≤ n.mode) && decide (beyP f c.tgt n.tgt)
 | _, _ => false
theorem next_is {a : Ax} (hr : ln.RightL a.N a.W) : ln.nextC a.N a.W = a.W.head?.getD ln.zeroC ∧ (ln.nextB a.N a.W = !a.W.isEmpty) := by
 refine ⟨if_pos hr, ?_⟩
 unfold ln.nextB
 cases hW : a.W with
 | nil => rw [hW] at hr; exact decide_eq_false fun h => by have h1 := hr.2.1; have h2 := h.2; simp at h2; omega
 | cons n t =>
  have h2 := hr.2.2.2
  rw [hW] at h2
  have h3 : a.N.length = 1 := by
   rcases h2 with h2 | h2
   ·exact h2
   ·cases h2
  exact decide_eq_true ⟨by rw [← hW]; exact hr, by rw [List.length_append, h3]; simp⟩
theorem Fr.cellat {r : Nat} {w w' : World} (h : Fr r none w w') {b o : Nat} (hb : b < w.heap.size) (hn : b ≠ r) {v : Value} (hc : w.cell? ⟨b, o, none⟩ = some v) : w'.cell? ⟨b, o, none⟩ = some v := (World.cell?_of_block (a := ⟨b, o, none⟩) (h.block b hb hn (by simp))).trans hc
theorem Fr.upto {r B : Nat} {w w' : World} (h : Fr r none w w') (hB : B ≤ r) (hs : B ≤ w.heap.size) : Below B w w' := ⟨h.os, h.tape, h.output, h.size, fun q hq => h.block q (by omega) (by omega) (by simp)⟩
set_option maxHeartbeats 4000000 in
theorem blends_any (h : Cyc base g i L tb a R fr pa w) (hr : ln.RightL a.N a.W) {c : C} {t : List C} (hN : a.N = c :: t) (f : Int) {n : C} (hn : a.W.head?.getD ln.zeroC = n) {b : Bool} (hb : blendsB a f = b) :
  Calls Tryz.prog 109 #[.pointer (some ⟨g, 0, none⟩), .int .i64 f] w fun e w' => e = .returned (.tuple #[cV n, .bool b]) ∧ Below w.heap.size w w' := by
 have HR := lh hr
 have HN := lh hN
 have HV := lh hb
 have HNX := lh hn
 clear hr hN hb
 obtain ⟨ok, hok⟩ : ∃ b, (!a.W.isEmpty) = b := ⟨_, rfl⟩
 have HOK := lh hok
 clear hok
 obtain ⟨x1, x2, x3⟩ := k.boxes1 (w := w) (c1 := #[.int .i64 0, .int .i64 0, .int .i64 0, .int .i64 0, .int .i64 0, .int .i64 0, .int .i64 0]) (t1 := 62) (Below.refl _ _)
 have X1 : Hid (k.Box _ w.heap.size 0 _) := lh x1
 have HB := lh x2
 have H2 := lh (h.below x2)
 have hlt := h.lt
 clear x1 x2
 unfold cV
 go_enter Tryz.func109, Tryz.ntmps109
 go_upto_region 1 with fail
 generalize w.alloc (.cells #[.int .i64 0, .int .i64 0, .int .i64 0, .int .i64 0, .int .i64 0, .int .i64 0, .int .i64 0] 62) = w2 at X1 HB H2 x3 ⊢
 have hlt2 := H2.out.lt
 obtain ⟨S, N, W, T, h2, ht⟩ := H2.out
 have ⟨d14, d14f⟩ := k.cell_of h2.box (i := 14) rfl
 have ⟨d15, d15f⟩ := k.cell_of h2.box (i := 15) rfl
 have CX := lh (ln.next_any a.N a.W h2.rows.N h2.rows.W (Nat.le_refl _) (short_n h2.rows.N (by have := HR.out.2.1; omega)) (short_n h2.rows.W (by have := HR.out.2.2.1; omega)))
 rw [(next_is HR.out).1, (next_is HR.out).2, HNX.out, HOK.out] at CX
 unfold ln.GotC cV at CX
 clear h2 ht
 go_upto_region 2 with (go_at_call 135; ((with_reducible refine (CX.out).mono ?_); rintro e w3 ⟨rfl, hb⟩; have H3 := lh (H2.out.below hb); have HB := lh (HB.out.trans (hb.mono HB.out.size)); have X1 := lh (X1.out.below hb x3); have x3 := Nat.lt_of_lt_of_le x3 hb.size; clear hb d14 d14f d15 d15f))
 obtain ⟨y1, y2, y3⟩ := k.boxes1 (w := w3) (c1 := #[.int .i64 n.id, .int .i64 n.kind, .int .i64 n.tgt, .int .i64 n.spd, .int .i64 n.mode, .int .i64 n.num, .int .i64 n.den]) (t1 := 62) (Below.refl _ _)
 have X6 : Hid (k.Box _ w3.heap.size 0 (cC n)) := lh y1
 have X1 := lh (X1.out.below ((Below.refl w3.heap.size w3).alloc (Nat.le_refl _) (.cells #[.int .i64 n.id, .int .i64 n.kind, .int .i64 n.tgt, .int .i64 n.spd, .int .i64 n.mode, .int .i64 n.num, .int .i64 n.den] 62)) (by assumption))
 have H4 := lh (H3.out.below y2)
 have HB := lh (HB.out.trans (y2.mono HB.out.size))
 have z1 : w.heap.size < (w3.alloc (.cells #[.int .i64 n.id, .int .i64 n.kind, .int .i64 n.tgt, .int .i64 n.spd, .int .i64 n.mode, .int .i64 n.num, .int .i64 n.den] 62)).heap.size := Nat.lt_of_lt_of_le (by assumption) y2.size
 have z0 : w3.heap.size ≠ w.heap.size := by omega
 clear y1 y2
 generalize w3.alloc (.cells #[.int .i64 n.id, .int .i64 n.kind, .int .i64 n.tgt, .int .i64 n.spd, .int .i64 n.mode, .int .i64 n.num, .int .i64 n.den] 62) = w4 at X1 X6 H4 HB z1 y3 ⊢
 have ⟨m0, m0f⟩ := k.cell_of X6.out (i := 0) rfl
 have ⟨m1, m1f⟩ := k.cell_of X6.out (i := 1) rfl
 have ⟨m2, m2f⟩ := k.cell_of X6.out (i := 2) rfl
 have ⟨m3, m3f⟩ := k.cell_of X6.out (i := 3) rfl
 have ⟨m4, m4f⟩ := k.cell_of X6.out (i := 4) rfl
 have ⟨m5, m5f⟩ := k.cell_of X6.out (i := 5) rfl
 have ⟨m6, m6f⟩ := k.cell_of X6.out (i := 6) rfl
 cases hW : a.W with
 | nil =>
  have e : ok = false := by rw [← HOK.out, hW]; rfl
  subst e
  have HE : Hid (b = false) := lh (by rw [← HV.out]; exact (by unfold blendsB; rw [HN.out, hW]))
  clear hn
  refine wp_region_T (by kernel_rfl) (fun w' => Fr w.heap.size none w4 w') [] (Fr.of_below ((Below.refl _ _).drew)) (fun hHeld => ?_)
  refine tk 0 rfl ?_ ?_ ?_
  rotate_left
  ·intro w_ hSw; have q0 := hSw.cellat y3 z0 m0; have q1 := hSw.cellat y3 z0 m1; have q2 := hSw.cellat y3 z0 m2; have q3 := hSw.cellat y3 z0 m3; have q4 := hSw.cellat y3 z0 m4; have q5 := hSw.cellat y3 z0 m5; have q6 := hSw.cellat y3 z0 m6; clear hSw; go_simp <;> (with_reducible rfl)
  try simp only [Act.put, p1, p2, p3, p4, p6]
  refine tk0 1 rfl ?_ ?_ ?_
  rotate_left
  ·intro; go_simp <;> with_reducible rfl
  try simp only [Act.put, p1, p2, p3, p4, p5, p6]
  refine tk0 2 rfl ?_ ?_ ?_
  rotate_left
  ·intro; go_simp <;> with_reducible rfl
  try simp only [Act.put, p1, p2, p3, p4, p5, p6]
  refine tks 3 rfl ?_
  try simp only [Act.put, p1, p2, p3, p4, p5, p6]
  refine tks 4 rfl ?_
  try simp only [Act.put, p1, p2, p3, p4, p5, p6]
  refine tks 5 rfl ?_
  try simp only [Act.put, p1, p2, p3, p4, p5, p6]
  refine tk0 6 rfl ?_ ?_ ?_
  rotate_left
  ·intro; go_simp <;> with_reducible rfl
  try simp only [Act.put, p1, p2, p3, p4, p5, p6]
  refine tk0 7 rfl ?_ ?_ ?_
  rotate_left
  ·intro; go_simp <;> with_reducible rfl
  try simp only [Act.put, p1, p2, p3, p4, p5, p6]
  refine tks 8 rfl ?_
  try simp only [Act.put, p1, p2, p3, p4, p5, p6]
  refine tks 9 rfl ?_
  try simp only [Act.put, p1, p2, p3, p4, p5, p6]
  refine tks 10 rfl ?_
  try simp only [Act.put, p1, p2, p3, p4, p5, p6]
  refine tks 11 rfl ?_
  try simp only [Act.put, p1, p2, p3, p4, p5, p6]
  refine tks 12 rfl ?_
  try simp only [Act.put, p1, p2, p3, p4, p5, p6]
  refine tks 13 rfl ?_
  try simp only [Act.put, p1, p2, p3, p4, p5, p6]
  refine tks 14 rfl ?_
  try simp only [Act.put, p1, p2, p3, p4, p5, p6]
  refine tk0 15 rfl ?_ ?_ ?_
  rotate_left
  ·intro; go_simp <;> with_reducible rfl
  try simp only [Act.put, p1, p2, p3, p4, p5, p6]
  have Y1 := X1.out.below ((Below.refl w4.heap.size w4).drew) z1
  refine ry [16] ?_
  refine ar1 rfl fun K hK => ?_
  obtain ⟨W1, hW1, i1, i2, i3, i5⟩ := k.stored (us := cC n) Y1 rfl
  have ho := (Only.refl w.heap.size w4.drew).sets (cC n) 0
  rw [hW1] at ho
  rw [if_pos (by rfl)]
  refine wp_store_mid 62 (.tmp 4) (.tmp 17) rfl w.heap.size 0 #[.int .i64 n.id, .int .i64 n.kind, .int .i64 n.tgt, .int .i64 n.spd, .int .i64 n.mode, .int .i64 n.num, .int .i64 n.den] rfl rfl (k.there_of Y1 rfl) (by kernel_rfl) (by simp [Value.oneCell']) ?_
  change K _ (World.setCells _ _ _ (cC n))
  rw [hW1]
  have Z1 := lh i1
  have hT1 := ((Fr.of_below ((Below.refl w4.heap.size w4).drew) : Fr w.heap.size none w4 w4.drew)).trans (Nx.refl _ _) (Fr.of_only ho)
  clear hW1 i1 i2 i3 i5 ho
  refine hK.out _ _ hT1 (fun hHeld => ?_)
  clear hK K
  try simp only [Act.put, p4, p5, p6]
  refine tk0 17 rfl ?_ ?_ ?_
  rotate_left
  ·intro; go_simp <;> with_reducible rfl
  try simp only [Act.put, p1, p2, p3, p4, p5, p6]
  refine wpAnyT_done (by kernel_rfl) ?_ _
  go_wp2
  exact bodyPost_ret (k.results_cell_tmp rfl rfl (run_loadVar_mid W1 w.heap.size 0 62 _ _ Z1.out.range rfl rfl (by kernel_rfl))) rfl ⟨by rw [HE.out]; rfl, HB.out.trans (hT1.upto (Nat.le_refl _) (Nat.le_of_lt z1))⟩
 | cons m s =>
  have e : ok = true := by rw [← HOK.out, hW]; rfl
  subst e
  have e2 : m = n := by rw [hW] at hn; exact hn
  have HW2 : Hid (a.W = n :: s) := lh (by rw [hW, e2])
  clear e2 hW hn
  by_cases h2 : 2 ≤ n.mode
  ·obtain ⟨v, hv⟩ : ∃ v, decide (beyP f c.tgt n.tgt) = v := ⟨_, rfl⟩
   have HE : Hid (b = v) := lh (by rw [← HV.out]; exact (by unfold blendsB; rw [HN.out, HW2.out]; dsimp only; rw [decide_eq_true h2, hv]; rfl))
   have CY := lh fun W => beyond_any hv W
   have CN := lh fun (W : World) (hb : Below w4.heap.size w4 W) => now_any (H4.out.below hb) HN.out
   unfold cV at CN
   have FT := field_tgt c
   clear hv
   refine wp_region_T (by kernel_rfl) (fun w' => Fr w.heap.size none w4 w') [] (Fr.of_below ((Below.refl _ _).drew)) (fun hHeld => ?_)
   refine tk 0 rfl ?_ ?_ ?_
   rotate_left
   ·intro w_ hSw; have q0 := hSw.cellat y3 z0 m0; have q1 := hSw.cellat y3 z0 m1; have q2 := hSw.cellat y3 z0 m2; have q3 := hSw.cellat y3 z0 m3; have q4 := hSw.cellat y3 z0 m4; have q5 := hSw.cellat y3 z0 m5; have q6 := hSw.cellat y3 z0 m6; clear hSw; go_simp <;> (with_reducible rfl)
   try simp only [Act.put, p1, p2, p3, p4, p6]
   refine tk0 1 rfl ?_ ?_ ?_
   rotate_left
   ·intro; go_simp <;> with_reducible rfl
   try simp only [Act.put, p1, p2, p3, p4, p5, p6]
   refine tk0 2 rfl ?_ ?_ ?_
   rotate_left
   ·intro; go_simp <;> with_reducible rfl
   try simp only [Act.put, p1, p2, p3, p4, p5, p6]
   refine tk0 3 rfl ?_ ?_ ?_
   rotate_left
   ·intro; go_simp <;> with_reducible rfl
   try simp only [Act.put, p1, p2, p3, p4, p5, p6]
   refine tk 4 rfl ?_ ?_ ?_
   rotate_left
   ·intro w_ hSw; have q4 := hSw.cellat y3 z0 m4; clear hSw; go_simp <;> (with_reducible rfl)
   try simp only [Act.put, p1, p2, p3, p4, p5, p6]
   refine tk0 5 rfl ?_ ?_ ?_
   rotate_left
   ·intro; go_simp <;> with_reducible rfl
   try simp only [Act.put, p1, p2, p3, p4, p5, p6]
   refine tk0 6 rfl ?_ ?_ ?_
   rotate_left
   ·intro; go_simp <;> with_reducible rfl
   try simp only [Act.put, p1, p2, p3, p4, p5, p6]
   refine tk0 7 rfl ?_ ?_ ?_
   rotate_left
   ·intro; go_simp <;> with_reducible rfl
   try simp only [Act.put, p1, p2, p3, p4, p5, p6]
   refine tk0 8 rfl ?_ ?_ ?_
   rotate_left
   ·intro; go_simp <;> with_reducible rfl
   try simp only [Act.put, p1, p2, p3, p4, p5, p6]
   refine tk0 9 rfl ?_ ?_ ?_
   rotate_left
   ·intro; go_simp <;> with_reducible rfl
   try simp only [Act.put, p1, p2, p3, p4, p5, p6]
   refine tk0 12 rfl ?_ ?_ ?_
   rotate_left
   ·intro; go_simp <;> with_reducible rfl
   try simp only [Act.put, p1, p2, p3, p4, p5, p6]
   refine tk 13 rfl ?_ ?_ ?_
   rotate_left
   ·intro w_ hSw; have q2 := hSw.cellat y3 z0 m2; clear hSw; go_simp <;> (with_reducible rfl)
   try simp only [Act.put, p1, p2, p3, p4, p5, p6]
   refine ry [10] ?_
   refine ar1 rfl fun K hK => ?_
   go_simp
   (go_at_call 100; ((with_reducible refine (CN.out _ ((Below.refl _ _).drew)).mono ?_); rintro e w5 ⟨rfl, hb0⟩))
   go_wp2_with fail
   have hb := ((Below.refl w4.heap.size w4).drew).trans hb0
   have hT0 : Fr w.heap.size none w4 w5 := Fr.of_below hb
   have Y1 := lh (X1.out.below hb z1)
   refine hK.out _ _ hT0 (fun hHeld => ?_)
   clear hK K
   try simp only [Act.put, p1, p2, p3, p4, p5, p6]
   refine tk0 11 rfl ?_ ?_ ?_
   rotate_left
   ·intro; go_simp <;> with_reducible rfl
   try simp only [Act.put, p1, p2, p3, p4, p5, p6]
   refine ry [14] ?_
   refine ar1 rfl fun K hK => ?_
   go_simp
   (go_at_call 136; ((with_reducible refine (CY.out _).mono ?_); rintro e w6 ⟨rfl, rfl⟩))
   go_wp2_with fail
   refine hK.out _ _ hT0 (fun hHeld => ?_)
   clear hK K
   try simp only [Act.put, p1, p2, p3, p4, p5, p6]
   refine tk0 15 rfl ?_ ?_ ?_
   rotate_left
   ·intro; go_simp <;> with_reducible rfl
   try simp only [Act.put, p1, p2, p3, p4, p5, p6]
   refine ry [16] ?_
   refine ar1 rfl fun K hK => ?_
   obtain ⟨W1, hW1, i1, i2, i3, i5⟩ := k.stored (us := cC n) Y1.out rfl
   have ho := (Only.refl w.heap.size w5).sets (cC n) 0
   rw [hW1] at ho
   rw [if_pos (by rfl)]
   refine wp_store_mid 62 (.tmp 4) (.tmp 17) rfl w.heap.size 0 #[.int .i64 n.id, .int .i64 n.kind, .int .i64 n.tgt, .int .i64 n.spd, .int .i64 n.mode, .int .i64 n.num, .int .i64 n.den] rfl rfl (k.there_of Y1.out rfl) (by kernel_rfl) (by simp [Value.oneCell']) ?_
   change K _ (World.setCells _ _ _ (cC n))
   rw [hW1]
   have Z1 := lh i1
   have hT1 := (hT0).trans (Nx.refl _ _) (Fr.of_only ho)
   clear hW1 i1 i2 i3 i5 ho
   refine hK.out _ _ hT1 (fun hHeld => ?_)
   clear hK K
   try simp only [Act.put, p4, p5, p6]
   refine tk0 17 rfl ?_ ?_ ?_
   rotate_left
   ·intro; go_simp <;> with_reducible rfl
   try simp only [Act.put, p1, p2, p3, p4, p5, p6]
   refine wpAnyT_done (by kernel_rfl) ?_ _
   go_wp2
   exact bodyPost_ret (k.results_cell_tmp rfl rfl (run_loadVar_mid W1 w.heap.size 0 62 _ _ Z1.out.range rfl rfl (by kernel_rfl))) rfl ⟨by rw [HE.out]; rfl, HB.out.trans (hT1.upto (Nat.le_refl _) (Nat.le_of_lt z1))⟩
  ·have b2 : decide (2 ≤ n.mode) = false := decide_eq_false h2
   have HE : Hid (b = false) := lh (by rw [← HV.out]; exact (by unfold blendsB; rw [HN.out, HW2.out]; dsimp only; rw [b2]; rfl))
   refine wp_region_T (by kernel_rfl) (fun w' => Fr w.heap.size none w4 w') [] (Fr.of_below ((Below.refl _ _).drew)) (fun hHeld => ?_)
   refine tk 0 rfl ?_ ?_ ?_
   rotate_left
   ·intro w_ hSw; have q0 := hSw.cellat y3 z0 m0; have q1 := hSw.cellat y3 z0 m1; have q2 := hSw.cellat y3 z0 m2; have q3 := hSw.cellat y3 z0 m3; have q4 := hSw.cellat y3 z0 m4; have q5 := hSw.cellat y3 z0 m5; have q6 := hSw.cellat y3 z0 m6; clear hSw; go_simp <;> (with_reducible rfl)
   try simp only [Act.put, p1, p2, p3, p4, p6]
   refine tk0 1 rfl ?_ ?_ ?_
   rotate_left
   ·intro; go_simp <;> with_reducible rfl
   try simp only [Act.put, p1, p2, p3, p4, p5, p6]
   refine tk0 2 rfl ?_ ?_ ?_
   rotate_left
   ·intro; go_simp <;> with_reducible rfl
   try simp only [Act.put, p1, p2, p3, p4, p5, p6]
   refine tk0 3 rfl ?_ ?_ ?_
   rotate_left
   ·intro; go_simp <;> with_reducible rfl
   try simp only [Act.put, p1, p2, p3, p4, p5, p6]
   refine tk 4 rfl ?_ ?_ ?_
   rotate_left
   ·intro w_ hSw; have q4 := hSw.cellat y3 z0 m4; clear hSw; go_simp <;> (with_reducible rfl)
   try simp only [Act.put, p1, p2, p3, p4, p5, p6]
   refine tk0 5 rfl ?_ ?_ ?_
   rotate_left
   ·intro; go_simp <;> with_reducible rfl
   try simp only [Act.put, p1, p2, p3, p4, p5, p6]
   refine tk0 6 rfl ?_ ?_ ?_
   rotate_left
   ·intro; go_simp <;> with_reducible rfl
   try simp only [Act.put, p1, p2, p3, p4, p5, p6]
   refine tk0 7 rfl ?_ ?_ ?_
   rotate_left
   ·intro; go_simp <;> with_reducible rfl
   try simp only [Act.put, p1, p2, p3, p4, p5, p6]
   refine tks 8 rfl ?_
   try simp only [Act.put, p1, p2, p3, p4, p5, p6]
   refine tks 9 rfl ?_
   try simp only [Act.put, p1, p2, p3, p4, p5, p6]
   refine tks 10 rfl ?_
   try simp only [Act.put, p1, p2, p3, p4, p5, p6]
   refine tks 11 rfl ?_
   try simp only [Act.put, p1, p2, p3, p4, p5, p6]
   refine tks 12 rfl ?_
   try simp only [Act.put, p1, p2, p3, p4, p5, p6]
   refine tks 13 rfl ?_
   try simp only [Act.put, p1, p2, p3, p4, p5, p6]
   refine tks 14 rfl ?_
   try simp only [Act.put, p1, p2, p3, p4, p5, p6]
   refine tk0 15 rfl ?_ ?_ ?_
   rotate_left
   ·intro; go_simp <;> with_reducible rfl
   try simp only [Act.put, p1, p2, p3, p4, p5, p6]
   have Y1 := X1.out.below ((Below.refl w4.heap.size w4).drew) z1
   refine ry [16] ?_
   refine ar1 rfl fun K hK => ?_
   obtain ⟨W1, hW1, i1, i2, i3, i5⟩ := k.stored (us := cC n) Y1 rfl
   have ho := (Only.refl w.heap.size w4.drew).sets (cC n) 0
   rw [hW1] at ho
   rw [if_pos (by rfl)]
   refine wp_store_mid 62 (.tmp 4) (.tmp 17) rfl w.heap.size 0 #[.int .i64 n.id, .int .i64 n.kind, .int .i64 n.tgt, .int .i64 n.spd, .int .i64 n.mode, .int .i64 n.num, .int .i64 n.den] rfl rfl (k.there_of Y1 rfl) (by kernel_rfl) (by simp [Value.oneCell']) ?_
   change K _ (World.setCells _ _ _ (cC n))
   rw [hW1]
   have Z1 := lh i1
   have hT1 := ((Fr.of_below ((Below.refl w4.heap.size w4).drew) : Fr w.heap.size none w4 w4.drew)).trans (Nx.refl _ _) (Fr.of_only ho)
   clear hW1 i1 i2 i3 i5 ho
   refine hK.out _ _ hT1 (fun hHeld => ?_)
   clear hK K
   try simp only [Act.put, p4, p5, p6]
   refine tk0 17 rfl ?_ ?_ ?_
   rotate_left
   ·intro; go_simp <;> with_reducible rfl
   try simp only [Act.put, p1, p2, p3, p4, p5, p6]
   refine wpAnyT_done (by kernel_rfl) ?_ _
   go_wp2
   exact bodyPost_ret (k.results_cell_tmp rfl rfl (run_loadVar_mid W1 w.heap.size 0 62 _ _ Z1.out.range rfl rfl (by kernel_rfl))) rfl ⟨by rw [HE.out]; rfl, HB.out.trans (hT1.upto (Nat.le_refl _) (Nat.le_of_lt z1))⟩
theorem passes_no (h : Cyc base g i L tb a R fr pa w) (h4 : a.st ≠ 4) (f : Int) :
  Calls Tryz.prog 76 #[.pointer (some ⟨g, 0, none⟩), .int .i64 f] w fun e w' => e = .returned (.bool false) ∧ w = w' := by
 obtain ⟨S, N, W, T, h, ht⟩ := h
 have ⟨d0, d0f⟩ := k.cell_of h.box (i := 0) rfl
 have b4 : (a.st != 4) = true := by rw [bne_iff_ne]; exact h4
 clear h4 h ht
 go_enter Tryz.func76, Tryz.ntmps76
 go_wp2
 go_ret
 exact ⟨rfl, rfl⟩
set_option maxHeartbeats 4000000 in
theorem passes_any (h : Cyc base g i L tb a R fr pa w) (hr : ln.RightL a.N a.W) {c : C} {t : List C} (hN : a.N = c :: t) (h4 : a.st = 4) (f : Int) {b : Bool} (hb : (blendsB a f && decide (gn.sgn a.p c.tgt ≠ gn.sgn f c.tgt)) = b) :
  Calls Tryz.prog 76 #[.pointer (some ⟨g, 0, none⟩), .int .i64 f] w fun e w' => e = .returned (.bool b) ∧ Below w.heap.size w w' := by
 obtain ⟨bl, hbl⟩ : ∃ q, blendsB a f = q := ⟨_, rfl⟩
 rw [hbl] at hb
 obtain ⟨n, hn⟩ : ∃ n, a.W.head?.getD ln.zeroC = n := ⟨_, rfl⟩
 have CX := lh (blends_any h hr hN f hn hbl)
 have CN := lh fun (W : World) (hb : Below w.heap.size w W) => now_any (h.below hb) hN
 unfold cV at CX CN
 have FT := field_tgt c
 have HH := lh h
 have HV := lh hb
 clear hb hbl hn
 obtain ⟨S, N, W, T, h, ht⟩ := h
 have ⟨d0, d0f⟩ := k.cell_of h.box (i := 0) rfl
 have ⟨d10, d10f⟩ := k.cell_of h.box (i := 10) rfl
 have hl := h.lt
 have b4 : (a.st != 4) = false := by rw [h4]; rfl
 clear h4 h ht hr hN
 obtain ⟨s1, hs1⟩ : ∃ q, gn.sgn a.p c.tgt = q := ⟨_, rfl⟩
 obtain ⟨s2, hs2⟩ : ∃ q, gn.sgn f c.tgt = q := ⟨_, rfl⟩
 have C1 := lh fun W => gn.cmp_any c.tgt a.p W
 have C2 := lh fun W => gn.cmp_any c.tgt f W
 rw [hs1] at C1
 rw [hs2] at C2
 rw [hs1, hs2] at HV
 clear hs1 hs2
 cases bl
 ·skip
  go_enter Tryz.func76, Tryz.ntmps76
  go_wp2_with (first | (go_at_call 109; ((with_reducible refine (CX.out).mono ?_); rintro e w1 ⟨rfl, hb⟩; have d10 := (hb.cell (p := ⟨g, 10, none⟩) hl).trans d10; have hl := Nat.lt_of_lt_of_le hl hb.size; have BB := lh hb; clear hb)) | (go_at_call 100; ((with_reducible refine (CN.out _ (BB.out.alloc BB.out.size _)).mono ?_); rintro e w4 ⟨rfl, hb⟩; have d10 := (hb.cell (p := ⟨g, 10, none⟩) (by simp; omega)).trans ((World.cell?_alloc_past _ _ _ hl).trans d10); have BB := lh ((BB.out.alloc BB.out.size _).trans (hb.mono (BB.out.alloc BB.out.size _).size)); clear hb)) | (go_at_call 110; (first | (with_reducible refine (C1.out _).mono ?_) | (with_reducible refine (C2.out _).mono ?_)); rintro e w5 ⟨rfl, rfl⟩))
  go_ret
  exact ⟨ret_bool (by rw [← HV.out]; rfl), BB.out⟩
 ·skip
  have HW : Hid ((s1 != s2) = b) := lh (by rw [← HV.out, Bool.true_and]; by_cases h : s1 = s2 <;> simp [h])
  go_enter Tryz.func76, Tryz.ntmps76
  go_wp2_with (first | (go_at_call 109; ((with_reducible refine (CX.out).mono ?_); rintro e w1 ⟨rfl, hb⟩; have d10 := (hb.cell (p := ⟨g, 10, none⟩) hl).trans d10; have hl := Nat.lt_of_lt_of_le hl hb.size; have BB := lh hb; clear hb)) | (go_at_call 100; ((with_reducible refine (CN.out _ (BB.out.alloc BB.out.size _)).mono ?_); rintro e w4 ⟨rfl, hb⟩; have d10 := (hb.cell (p := ⟨g, 10, none⟩) (by simp; omega)).trans ((World.cell?_alloc_past _ _ _ hl).trans d10); have BB := lh ((BB.out.alloc BB.out.size _).trans (hb.mono (BB.out.alloc BB.out.size _).size)); clear hb)) | (go_at_call 110; (first | (with_reducible refine (C1.out _).mono ?_) | (with_reducible refine (C2.out _).mono ?_)); rintro e w5 ⟨rfl, rfl⟩))
  go_ret
  exact ⟨ret_bool (by have h := HW.out; simpa using h), BB.out⟩
end
end Go.Proofs.YtijlccblabadaaaGreat.cx
end
section
namespace Go.Proofs.YtijlccblabadaaaGreat.cx
open Go.ChangeShapes Go.WideShapes Go.ChangeAt Go.RowKit Go.Proofs.YtijlccblabadaaaGreat.k Go.Proofs.YtijlccblabadaaaGreat.rr Go.Proofs.YtijlccblabadaaaGreat.ax
open Go.Proofs.YtijlccblabadaaaGreat.ln (C)
set_option linter.unusedVariables false
set_option maxRecDepth 100000
theorem tk_iff (s : Int) : ed.tkB s = true ↔ takesP s := by
 unfold ed.tkB takesP
 rw [decide_eq_true_eq]
 omega
theorem come_iff (a : Ax) (c : C) : mayComeB a c = true ↔ (c.kind = 7 ∧ a.st = 1) ∨ (c.kind = 6 ∧ (a.st = 2 ∨ takesP a.st)) ∨ (c.kind ≠ 7 ∧ c.kind ≠ 6 ∧ 1 ≤ c.kind ∧ c.kind ≤ 8 ∧ takesP a.st) := by
 unfold mayComeB
 by_cases h7 : c.kind = 7
 ·rw [if_pos h7, decide_eq_true_eq]
  constructor
  ·intro h; exact .inl ⟨h7, h⟩
  ·rintro (h | h | h)
   ·exact h.2
   ·omega
   ·omega
 ·rw [if_neg h7]
  by_cases h6 : c.kind = 6
  ·rw [if_pos h6, Bool.or_eq_true, decide_eq_true_eq, tk_iff]
   constructor
   ·intro h; exact .inr (.inl ⟨h6, h⟩)
   ·rintro (h | h | h)
    ·omega
    ·exact h.2
    ·omega
  ·rw [if_neg h6, Bool.and_eq_true, decide_eq_true_eq, tk_iff]
   constructor
   ·intro h; exact .inr (.inr ⟨h7, h6, h.1.1, h.1.2, h.2⟩)
   ·rintro (h | h | h)
    ·omega
    ·omega
    ·exact ⟨⟨h.2.2.1, h.2.2.2.1⟩, h.2.2.2.2⟩
theorem vel_iff {a : Ax} (hV : 1 ≤ a.l.V) (n : Int) : velB a n = true ↔ n ≠ 0 ∧ n ≤ a.l.V ∧ -a.l.V ≤ n := by
 unfold velB
 rw [decide_eq_true_eq]
 omega
theorem go_iff {a : Ax} (hV : 1 ≤ a.l.V) (c : C) : mayGoB a c = true ↔ (c.kind = 1 → a.homed = true ∧ 1 ≤ c.spd ∧ c.spd ≤ a.l.V) ∧ ((c.kind = 2 ∨ c.kind = 3) → 1 ≤ c.spd ∧ c.spd ≤ a.l.V) ∧ (c.kind = 4 → c.spd ≠ 0 ∧ c.spd ≤ a.l.V ∧ -a.l.V ≤ c.spd) ∧ (c.kind = 8 → 1 ≤ c.den) := by
 unfold mayGoB
 by_cases h1 : c.kind = 1
 ·rw [if_pos h1, Bool.and_eq_true, decide_eq_true_eq]
  constructor
  ·intro h; exact ⟨fun _ => h, by omega, by omega, by omega⟩
  ·intro h; exact h.1 h1
 ·rw [if_neg h1]
  by_cases h2 : c.kind = 2 ∨ c.kind = 3
  ·rw [if_pos h2, decide_eq_true_eq]
   constructor
   ·intro h; exact ⟨by omega, fun _ => h, by omega, by omega⟩
   ·intro h; exact h.2.1 h2
  ·rw [if_neg h2]
   by_cases h4 : c.kind = 4
   ·rw [if_pos h4, vel_iff hV]
    constructor
    ·intro h; exact ⟨by omega, by omega, fun _ => h, by omega⟩
    ·intro h; exact h.2.2.1 h4
   ·rw [if_neg h4]
    by_cases h8 : c.kind = 8
    ·rw [if_pos h8, decide_eq_true_eq]
     constructor
     ·intro h; exact ⟨by omega, by omega, by omega, fun _ => h⟩
     ·intro h; exact h.2.2.2 h8
    ·rw [if_neg h8]
     constructor
     ·intro _; exact ⟨by omega, by omega, by omega, by omega⟩
     ·intro _; rfl
theorem wait_iff (a : Ax) (c : C) : mayWaitB a c = true ↔ c.mode = 0 ∨ (placed c ∧ ∀ n, a.N.head? = some n → n.kind = 1) := by
 unfold mayWaitB placed
 rw [Bool.or_eq_true, Bool.and_eq_true, decide_eq_true_eq, decide_eq_true_eq]
 cases a.N with
 | nil => simp
 | cons n t =>
  dsimp only
  rw [decide_eq_true_eq]
  constructor
  ·rintro (h | h)
   ·exact .inl h
   ·exact .inr ⟨h.1, fun m hm => by simp at hm; subst hm; exact h.2⟩
  ·rintro (h | h)
   ·exact .inl h
   ·exact .inr ⟨h.1, h.2 n rfl⟩
theorem now_kind {a : Ax} (h : RightA a) {n : C} {t : List C} (hN : a.N = n :: t) : placed n ↔ n.kind = 1 := by
 have hl := one_lined h.lined hN
 unfold placed
 unfold Lined1 MoveP at hl
 omega
def landedC (a : Ax) (c : C) : C := if 1 ≤ c.kind ∧ c.kind ≤ 3 then { c with kind := 1, tgt := placeV a c } else c
theorem base_from {a : Ax} (h : RightA a) {c : C} (hm : 0 ≤ c.mode) : baseV a c = fromOf a c := by
 unfold baseV fromOf
 cases hN : a.N with
 | nil => rfl
 | cons n t =>
  dsimp only
  by_cases h0 : c.mode = 0
  ·have g1 : ¬ c.mode ≠ 0 := fun h => h h0
   have g2 : ¬ 0 < c.mode := by omega
   rw [if_neg g1, if_neg g2]
   by_cases h3 : c.kind = 3 ∧ n.kind = 1
   ·rw [if_pos h3, if_pos ⟨h3.1, (now_kind h hN).2 h3.2⟩]
   ·rw [if_neg h3, if_neg (fun h' => h3 ⟨h'.1, (now_kind h hN).1 h'.2⟩)]
  ·rw [if_pos h0, if_pos (by omega)]
   have hl := h.line
   rw [hN] at hl
   unfold ln.lastC
   rw [if_pos hl]
   cases hq : (n :: t ++ a.W).getLast? with
   | none => rfl
   | some x => rfl
theorem place_from {a : Ax} (h : RightA a) {c : C} (hm : 0 ≤ c.mode) (hb : placeB a c = true) : placeV a c = placeOf a c ∧ (c.kind = 1 ∨ InR (placeOf a c)) := by
 unfold placeB at hb
 unfold placeV placeOf
 by_cases h1 : c.kind = 1
 ·rw [if_pos h1, if_pos h1]; exact ⟨rfl, .inl h1⟩
 ·rw [if_neg h1] at hb ⊢
  rw [if_neg h1, ← base_from h hm]
  unfold q.addB at hb
  unfold q.addV q.rv
  rw [if_pos hb]
  refine ⟨rfl, .inr ?_⟩
  unfold q.rm at hb
  exact of_decide_eq_true hb
theorem place_has {a : Ax} (h : RightA a) {c : C} (hm : 0 ≤ c.mode) (hb : c.kind = 1 ∨ InR (placeOf a c)) : placeB a c = true := by
 unfold placeB
 by_cases h1 : c.kind = 1
 ·rw [if_pos h1]
 ·rw [if_neg h1]
  have hb := hb.resolve_left h1
  unfold placeOf at hb
  rw [if_neg h1, ← base_from h hm] at hb
  unfold q.addB q.rm
  exact decide_eq_true hb
theorem landed_kept {a : Ax} (h : RightA a) {c : C} (hm : 0 ≤ c.mode) (hp : (1 ≤ c.kind ∧ c.kind ≤ 3) → placeB a c = true) : landedC a c = keptC a c := by
 unfold landedC keptC
 by_cases hk : 1 ≤ c.kind ∧ c.kind ≤ 3
 ·have hk2 : placed c := hk
  rw [if_pos hk, if_pos hk2, (place_from h hm (hp hk)).1]
 ·have hk2 : ¬ placed c := hk
  rw [if_neg hk, if_neg hk2]
theorem landed_mode (a : Ax) (c : C) : (landedC a c).mode = c.mode := by unfold landedC; split <;> rfl
theorem ok_of_add {a : Ax} {c : C} (h : ln.addE a.N a.W c = 0) : ln.OkC c := (add_ok h).2.1
theorem taken_iff {a : Ax} (h : RightA a) (c : C) (fr : Bool) :
  TakenP a c fr ↔ fr = false ∧ mayComeB a c = true ∧ mayWaitB a c = true ∧ mayGoB a c = true ∧ ((1 ≤ c.kind ∧ c.kind ≤ 3) → placeB a c = true ∧ inB a (placeV a c) = true) ∧ ln.addE a.N a.W (landedC a c) = 0 := by
 have hV : 1 ≤ a.l.V := h.limits.1
 rw [come_iff, wait_iff, go_iff hV]
 constructor
 ·rintro ⟨⟨⟨hok, hmo⟩, hk⟩, hf, ha⟩
  have hm : 0 ≤ c.mode := hok.1
  have hpl : (1 ≤ c.kind ∧ c.kind ≤ 3) → placeB a c = true ∧ inB a (placeV a c) = true := fun hp => by
   rcases hk with ⟨_, _, h1, _, _, _, h2, h3⟩ | h1 | h1 | h1 | h1 | h1
   ·have hb := place_has h hm h1
    refine ⟨hb, ?_⟩
    unfold inB
    rw [(place_from h hm hb).1]
    exact decide_eq_true ⟨h2, h3⟩
   all_goals omega
  refine ⟨hf, ?_, ?_, ?_, hpl, ?_⟩
  ·rcases hk with ⟨h1, h2, _⟩ | ⟨h1, h2, _⟩ | ⟨h1, h2⟩ | ⟨h1, h2⟩ | ⟨h1, h2⟩ | ⟨h1, h2, _⟩
   ·unfold placed at h1
    exact .inr (.inr ⟨by omega, by omega, by omega, by omega, h2⟩)
   ·exact .inr (.inr ⟨by omega, by omega, by omega, by omega, h2⟩)
   ·exact .inr (.inr ⟨by omega, by omega, by omega, by omega, h2⟩)
   ·exact .inr (.inl ⟨h1, h2.symm⟩)
   ·exact .inl ⟨h1, h2⟩
   ·exact .inr (.inr ⟨by omega, by omega, by omega, by omega, h2⟩)
  ·by_cases h0 : c.mode = 0
   ·exact .inl h0
   ·obtain ⟨hp, hn⟩ := hmo (by omega)
    exact .inr ⟨hp, fun n hn2 => by
     cases hN : a.N with
     | nil => rw [hN] at hn2; cases hn2
     | cons x t =>
      rw [hN] at hn2
      have e : x = n := by simpa using hn2
      subst e
      exact (now_kind h hN).1 (hn x (by rw [hN]; rfl))⟩
  ·rcases hk with ⟨h1, h2, h3, h4, h5, h6, _⟩ | ⟨h1, h2, h3⟩ | ⟨h1, h2⟩ | ⟨h1, h2⟩ | ⟨h1, h2⟩ | ⟨h1, h2, h3⟩
   ·unfold placed at h1
    exact ⟨fun e => ⟨h6 e, h4, h5⟩, fun _ => ⟨h4, h5⟩, by omega, by omega⟩
   ·exact ⟨by omega, by omega, fun _ => h3, by omega⟩
   ·exact ⟨by omega, by omega, by omega, by omega⟩
   ·exact ⟨by omega, by omega, by omega, by omega⟩
   ·exact ⟨by omega, by omega, by omega, by omega⟩
   ·exact ⟨by omega, by omega, by omega, by omega⟩
  ·rw [landed_kept h hm (fun hp => (hpl hp).1)]; exact ha
 ·rintro ⟨hf, hc, hw, hg, hp, ha⟩
  have hok : ln.OkC c := by
   have := ok_of_add ha
   unfold ln.OkC at this ⊢
   rw [landed_mode] at this
   exact this
  have hm : 0 ≤ c.mode := hok.1
  have ha2 : ln.addE a.N a.W (keptC a c) = 0 := by rw [← landed_kept h hm (fun hq => (hp hq).1)]; exact ha
  refine ⟨⟨⟨hok, fun h0 => ?_⟩, ?_⟩, hf, ha2⟩
  ·rcases hw with hw | hw
   ·omega
   ·refine ⟨hw.1, fun n hn => ?_⟩
    cases hN : a.N with
    | nil => rw [hN] at hn; cases hn
    | cons x t =>
     have hn2 := hn
     rw [hN] at hn2
     have e : x = n := by simpa using hn2
     subst e
     exact (now_kind h hN).2 (hw.2 x hn)
  ·by_cases hk : 1 ≤ c.kind ∧ c.kind ≤ 3
   ·obtain ⟨hb, hi⟩ := hp hk
    obtain ⟨e1, e2⟩ := place_from h hm hb
    unfold inB at hi
    rw [e1] at hi
    have hi := of_decide_eq_true hi
    have ht : takesP a.st := by
     rcases hc with hc | hc | hc
     ·omega
     ·omega
     ·exact hc.2.2.2.2
    have hs : 1 ≤ c.spd ∧ c.spd ≤ a.l.V := by
     by_cases h1 : c.kind = 1
     ·exact (hg.1 h1).2
     ·exact hg.2.1 (by omega)
    exact .inl ⟨hk, ht, e2, hs.1, hs.2, fun h1 => (hg.1 h1).1, hi.1, hi.2⟩
   ·have hk8 : 4 ≤ c.kind ∧ c.kind ≤ 8 := by
     rcases hc with hc | hc | hc <;> omega
    rcases hc with hc | hc | hc
    ·exact .inr (.inr (.inr (.inr (.inl hc))))
    ·exact .inr (.inr (.inr (.inl ⟨hc.1, hc.2.symm⟩)))
    ·have hk4 : c.kind = 4 ∨ c.kind = 5 ∨ c.kind = 8 := by omega
     rcases hk4 with h4 | h5 | h8
     ·exact .inr (.inl ⟨h4, hc.2.2.2.2, hg.2.2.1 h4⟩)
     ·exact .inr (.inr (.inl ⟨h5, hc.2.2.2.2⟩))
     ·exact .inr (.inr (.inr (.inr (.inr ⟨h8, hc.2.2.2.2, hg.2.2.2 h8⟩))))
end Go.Proofs.YtijlccblabadaaaGreat.cx
end
section
namespace Go.Proofs.YtijlccblabadaaaGreat.cx
open Go.ChangeShapes Go.WideShapes Go.ChangeAt Go.RowKit Go.Proofs.YtijlccblabadaaaGreat.k Go.Proofs.YtijlccblabadaaaGreat.rr Go.Proofs.YtijlccblabadaaaGreat.ax
open Go.Proofs.YtijlccblabadaaaGreat.ln (C RdC RdI iC cC cV lnV)
set_option linter.unusedVariables false
set_option maxRecDepth 100000
theorem i1_one (x : Int) : ∀ u ∈ iC x, u.oneCell' = true := ln.iC_one x
set_option maxHeartbeats 1000000 in
theorem clone64 (K : List Int) (hl : K.length ≤ 1000) {A : Option Addr} {n c B : Nat} {w : World} (h : Rd iC 1 w B A n c K) (hB : B ≤ w.heap.size) :
  Calls Tryz.prog 63 #[.slice A n c] w fun e w' => ∃ A' c', e = .returned (.slice A' n c') ∧ Rd iC 1 w' w'.heap.size A' n c' K ∧ ln.New w A' ∧ Below w.heap.size w w' := by
 have HL := lh h.1
 have q22 : ∀ (w : World) (a : Option Addr) (n c n' c' : Nat), (binOp .eql 26 (.slice a n c) (.slice none n' c')).run Tryz.prog w = .ok (.bool a.isNone) w := fun w a n c n' c' => Lib.run_eql_slice_nil w _ _ a n c n' c' Tryz.underlying26
 cases A with
 | none =>
  have h0 := h.2.2.2.1 rfl
  have h1 : n = 0 := by have := h.2.1; omega
  subst h1
  have e0 : K = [] := List.eq_nil_of_length_eq_zero h.1
  subst e0
  clear h HL
  go_enter Tryz.func63, Tryz.ntmps63
  go_wp2
  go_ret
  exact ⟨none, 0, rfl, Rd.none_ _ _ _ _, ln.new_none _, Below.refl _ _⟩
 | some ad =>
  have HW : Hid (Rd iC 1 (w.alloc (.cells #[] 2)) B (some ad) n c K) := lh (h.below ((Below.refl _ _).alloc hB _))
  have HO := lh (Ow.empty iC 1 2 w)
  have HLL := lh hl
  have HZ : Hid (w.heap.size ≤ (w.alloc (.cells #[] 2)).heap.size) := lh (by simp)
  clear h hl
  go_enter Tryz.func63, Tryz.ntmps63
  go_wp2_with (at_builtin; refine wpList_append_row ln.iC_len (by omega) i1_one i64s_slice i64_info rfl (by omega) _ rfl (.tmp 5) (.tmp 6) rfl w.heap.size (.slice (some ⟨w.heap.size, 0, none⟩) 0 0) [] rfl HO.out B (some ad) n c K rfl HW.out (by have := HLL.out; simp; omega) HZ.out ?_; intro v1 w1 hown hg hat; have HO1 := lh (show Ow iC 1 2 w1 w.heap.size v1 K from hown); have HG := lh hg; clear hown hg hat)
  go_wp2
  go_ret
  obtain ⟨A1, c1, e1, hw1⟩ := HO1.out.form ln.iC_len
  have hO1 := HO1.out
  rw [e1] at hO1
  rw [HL.out] at e1 hw1
  exact ⟨A1, c1, by rw [e1]; rfl, hw1, ln.new_of hO1 (Nat.le_refl _), HO.out.lays ((Below.refl _ w).alloc (Nat.le_refl _) _) (Nat.le_refl _) (Nat.le_refl _) HG.out⟩
set_option maxHeartbeats 1000000 in
theorem cloneC (K : List C) (hl : K.length ≤ 1000) {A : Option Addr} {n c B : Nat} {w : World} (h : Rd cC 7 w B A n c K) (hB : B ≤ w.heap.size) :
  Calls Tryz.prog 64 #[.slice A n c] w fun e w' => ∃ A' c', e = .returned (.slice A' n c') ∧ Rd cC 7 w' w'.heap.size A' n c' K ∧ ln.New w A' ∧ Below w.heap.size w w' := by
 have HL := lh h.1
 have q22 : ∀ (w : World) (a : Option Addr) (n c n' c' : Nat), (binOp .eql 29 (.slice a n c) (.slice none n' c')).run Tryz.prog w = .ok (.bool a.isNone) w := fun w a n c n' c' => Lib.run_eql_slice_nil w _ _ a n c n' c' Tryz.underlying29
 cases A with
 | none =>
  have h0 := h.2.2.2.1 rfl
  have h1 : n = 0 := by have := h.2.1; omega
  subst h1
  have e0 : K = [] := List.eq_nil_of_length_eq_zero h.1
  subst e0
  clear h HL
  go_enter Tryz.func64, Tryz.ntmps64
  go_wp2
  go_ret
  exact ⟨none, 0, rfl, Rd.none_ _ _ _ _, ln.new_none _, Below.refl _ _⟩
 | some ad =>
  have HW : Hid (Rd cC 7 (w.alloc (.cells #[] 62)) B (some ad) n c K) := lh (h.below ((Below.refl _ _).alloc hB _))
  have HO := lh (Ow.empty cC 7 62 w)
  have HLL := lh hl
  have HZ : Hid (w.heap.size ≤ (w.alloc (.cells #[] 62)).heap.size) := lh (by simp)
  clear h hl
  go_enter Tryz.func64, Tryz.ntmps64
  go_wp2_with (at_builtin; refine wpList_append_row ln.cC_len (by omega) ln.cC_one ln.coms_slice ln.com_info rfl (by omega) _ rfl (.tmp 5) (.tmp 6) rfl w.heap.size (.slice (some ⟨w.heap.size, 0, none⟩) 0 0) [] rfl HO.out B (some ad) n c K rfl HW.out (by have := HLL.out; simp; omega) HZ.out ?_; intro v1 w1 hown hg hat; have HO1 := lh (show Ow cC 7 62 w1 w.heap.size v1 K from hown); have HG := lh hg; clear hown hg hat)
  go_wp2
  go_ret
  obtain ⟨A1, c1, e1, hw1⟩ := HO1.out.form ln.cC_len
  have hO1 := HO1.out
  rw [e1] at hO1
  rw [HL.out] at e1 hw1
  exact ⟨A1, c1, by rw [e1]; rfl, hw1, ln.new_of hO1 (Nat.le_refl _), HO.out.lays ((Below.refl _ w).alloc (Nat.le_refl _) _) (Nat.le_refl _) (Nat.le_refl _) HG.out⟩
end Go.Proofs.YtijlccblabadaaaGreat.cx
end
section
namespace Go.Proofs.YtijlccblabadaaaGreat.cx
open Go.ChangeShapes Go.WideShapes Go.ChangeAt Go.RowKit Go.Proofs.YtijlccblabadaaaGreat.k Go.Proofs.YtijlccblabadaaaGreat.rr Go.Proofs.YtijlccblabadaaaGreat.ax
open Go.Proofs.YtijlccblabadaaaGreat.ln (C RdC RdI iC cC cV lnV)
set_option linter.unusedVariables false
set_option maxRecDepth 100000
abbrev nS : Sl := ⟨none, 0, 0⟩
theorem zbox {w : World} {g : Nat} (h : k.Box w g 0 zAx.toList) : k.Box w g 0 (axC zeroA nS nS nS) := h
theorem from_new {w : World} {A : Option Addr} (h : mm.From w none A) : ln.New w A := fun b o x e => by
 rcases h b o x e with ⟨o0, s0, e0⟩ | h1
 ·cases e0
 ·exact h1
theorem rd_only {α : Type} {enc : α → List Value} {z : Nat} {w w' : World} {g : Nat} {A : Option Addr} {n c : Nat} {K : List α} (h : Rd enc z w w.heap.size A n c K) (ho : Only g w w') (hf : Off g ⟨A, n, c⟩) : Rd enc z w' w'.heap.size A n c K :=
 rd_kept (s := ⟨A, n, c⟩) (fun q => q = g) h (Nat.le_of_eq ho.size.symm) (fun q hq => by subst hq; exact hf) (fun q _ hq => ho.block q hq)
theorem rd_past {α : Type} {enc : α → List Value} {z : Nat} {w w' : World} {A : Option Addr} {n c : Nat} {K : List α} (h : Rd enc z w w.heap.size A n c K) (hb : Below w.heap.size w w') : Rd enc z w' w'.heap.size A n c K := (h.below hb).more hb.size
theorem off_newer {w : World} {A : Option Addr} {n c q : Nat} (h : ln.New w A) (hq : q < w.heap.size) : Off q ⟨A, n, c⟩ := off_new h hq
theorem only_box {g v : Nat} {w w' : World} (ho : Only g w w') (hne : v ≠ g) {vs : List Value} (h : k.Box w v 0 vs) : k.Box w' v 0 vs := Box.same (ho.block v hne) h
set_option maxRecDepth 100000 in
theorem m_z_ax {ops : Array Oper} {op : Oper} {a : Act} {w0 : World} {g r : Nat} {b : Ax} {S N W : Sl} (hb : k.Box w0 g 0 (axC b S N W)) (hg : g < w0.heap.size) (hr : g ≠ r) (t : Nat) (ho : op.op = .load 35 (.tmp t)) (hw : Region.wanted op (yielded ops a.tmps) = true) (hx : a.eval (.tmp t) = .pointer (some ⟨g, 0, none⟩)) :
  YieldsIf Tryz.prog ops (fun w' => Fr r none w0 w') op (axV b S N W) a :=
 yieldsIf_load_mid hw 35 (.tmp t) ho g 0 hx (axC b S N W) _ (fun _ hb' => (Box.same (hb'.block g hg hr (by simp)) hb).range) rfl rfl (by kernel_rfl)
set_option maxHeartbeats 4000000 in
theorem at_any (a : Ax) (h1 : 1 ≤ a.win) (h2 : a.win ≤ 16) {p : Int} (hp : mm.inP p) (S N W : Sl) (w : World) :
  Calls Tryz.prog 25 #[axV a S N W, .int .i64 p] w fun e w' => ∃ S' : Sl, e = .returned (axV (stood a p) S' N W) ∧ RdI w' w'.heap.size S'.A S'.n S'.c (stood a p).sm ∧ ln.New w S'.A ∧ Below w.heap.size w w' := by
 have CN := lh fun W' => mm.new_from h1 h2 hp W'
 clear h1 h2 hp
 obtain ⟨x1, x2, x3, x4⟩ := k.boxes2 (w := w) (c1 := axA a S N W) (t1 := 35) (c2 := zAx) (t2 := 35) (Below.refl _ _)
 have X1 : Hid (k.Box _ w.heap.size 0 (axC a S N W)) := lh x1
 have X2 := lh (zbox x2)
 have HB := lh x3
 clear x1 x2
 go_enter Tryz.func25, Tryz.ntmps25
 go_upto_region 1 with fail
 generalize (w.alloc (.cells (axA a S N W) 35)).alloc (.cells zAx 35) = w2 at X1 X2 HB x4 ⊢
 have ⟨d10, d10f⟩ := k.cell_of X1.out (i := 10) rfl
 have ⟨d11, d11f⟩ := k.cell_of X1.out (i := 11) rfl
 go_upto_region 2 with fail
 clear d10 d10f d11 d11f
 have y1 : k.Box ((w2.setCell ⟨w.heap.size, 10, none⟩ (.int .i64 p)).setCell ⟨w.heap.size, 11, none⟩ (.int .i64 0)) w.heap.size 0 (axC { a with p := p, v := 0 } S N W) := (k.Box.put ((k.Box.put (X1.out) 10 (by simp) ((.int .i64 p)))) 11 (by simp) ((.int .i64 0)))
 have ho : Only w.heap.size w2 ((w2.setCell ⟨w.heap.size, 10, none⟩ (.int .i64 p)).setCell ⟨w.heap.size, 11, none⟩ (.int .i64 0)) := ((Only.refl w.heap.size w2).set 10 ((.int .i64 p))).set 11 ((.int .i64 0))
 generalize ((w2.setCell ⟨w.heap.size, 10, none⟩ (.int .i64 p)).setCell ⟨w.heap.size, 11, none⟩ (.int .i64 0)) = w3 at y1 ho ⊢
 have X1 := lh y1
 have X2 := lh (only_box ho (by omega) X2.out)
 have HB := lh (HB.out.trans (ho.below (Nat.le_refl _)))
 have z3 : w.heap.size + 1 < w3.heap.size := by rw [ho.size]; exact x4
 clear y1 ho x4
 have ⟨d6, d6f⟩ := k.cell_of X1.out (i := 6) rfl
 go_upto_region 3 with (go_at_call 51; ((with_reducible refine (CN.out _).mono ?_); rintro e w4 ⟨A, n, c, rfl, ⟨hw, hf⟩, hb⟩; have RS := lh (of_win hw); have NW := lh (from_new hf); have X1 := lh (X1.out.below hb (by omega)); have X2 := lh (X2.out.below hb z3); have HB := lh (HB.out.trans (hb.mono HB.out.size)); have z4 := Nat.lt_of_lt_of_le z3 hb.size; have ⟨d12, d12f⟩ := k.cell_of X1.out (i := 12) rfl; clear hw hf hb d6 d6f))
 clear d12 d12f
 have y1 : k.Box (w4.setCell ⟨w.heap.size, 12, none⟩ (.slice A n c)) w.heap.size 0 (axC (stood a p) ⟨A, n, c⟩ N W) := (k.Box.put (X1.out) 12 (by simp) ((.slice A n c)))
 have ho : Only w.heap.size w4 (w4.setCell ⟨w.heap.size, 12, none⟩ (.slice A n c)) := (Only.refl w.heap.size w4).set 12 ((.slice A n c))
 generalize (w4.setCell ⟨w.heap.size, 12, none⟩ (.slice A n c)) = w5 at y1 ho ⊢
 have X1 := lh y1
 have X2 := lh (only_box ho (by omega) X2.out)
 have RS := lh (rd_only RS.out ho (off_newer NW.out (by omega)))
 have HB := lh (HB.out.trans (ho.below (Nat.le_refl _)))
 have z5 : w.heap.size + 1 < w5.heap.size := by rw [ho.size]; exact z4
 clear y1 ho
 go_wp2_with (first | ((with_reducible refine m_ax_load X1.out 2 ?_ ?_ ?_ ?_); rfl; rfl; rfl; (try simp only [Act.put])) | ((with_reducible refine m_ax_old X2.out (stood a p) ⟨A, n, c⟩ N W 4 16 ?_ ?_ ?_ ?_ ?_ ?_); rfl; rfl; rfl; rfl; rfl; intro w9 hw9 x9 hb9 ha9 hs9; have ho := (Only.refl (w.heap.size + 1) w5).sets (axC (stood a p) ⟨A, n, c⟩ N W) 0; rw [hw9] at ho; have HO := lh ho; have X9 := lh x9; clear hw9 x9 hb9 ha9 hs9 ho))
 refine bodyPost_ret (k.results_cell rfl rfl (run_loadVar_mid w9 (w.heap.size + 1) 0 35 _ _ X9.out.range rfl rfl (by kernel_rfl))) rfl ⟨⟨A, n, c⟩, rfl, rd_only RS.out HO.out (off_newer NW.out (by omega)), fun b o x e => ?_, HB.out.trans (HO.out.below (by omega))⟩
 have := NW.out b o x e
 omega
set_option maxHeartbeats 4000000 in
theorem again_any (a : Ax) {S N W : Sl} {B : Nat} {w : World} (h : RdA w B a S N W) (hB : B ≤ w.heap.size) (l1 : a.sm.length ≤ 1000) (l2 : a.N.length ≤ 1000) (l3 : a.W.length ≤ 1000) :
  Calls Tryz.prog 41 #[axV a S N W] w fun e w' => ∃ S' N' W' : Sl, e = .returned (axV a S' N' W') ∧ RdA w' w'.heap.size a S' N' W' ∧ (ln.New w S'.A ∧ ln.New w N'.A ∧ ln.New w W'.A) ∧ Below w.heap.size w w' := by
 have C1 := lh fun (V : World) (hb : Below w.heap.size w V) => clone64 a.sm l1 (h.S.below (hb.mono hB)) (Nat.le_trans hB hb.size)
 have C2 := lh fun (V : World) (hb : Below w.heap.size w V) => cloneC a.N l2 (h.N.below (hb.mono hB)) (Nat.le_trans hB hb.size)
 have C3 := lh fun (V : World) (hb : Below w.heap.size w V) => cloneC a.W l3 (h.W.below (hb.mono hB)) (Nat.le_trans hB hb.size)
 clear h hB l1 l2 l3
 obtain ⟨x1, x2, x3, x4⟩ := k.boxes2 (w := w) (c1 := axA a S N W) (t1 := 35) (c2 := zAx) (t2 := 35) (Below.refl _ _)
 have X1 : Hid (k.Box _ w.heap.size 0 (axC a S N W)) := lh x1
 have X2 := lh (zbox x2)
 have HB := lh x3
 clear x1 x2
 go_enter Tryz.func41, Tryz.ntmps41
 go_upto_region 1 with fail
 generalize (w.alloc (.cells (axA a S N W) 35)).alloc (.cells zAx 35) = w2 at X1 X2 HB x4 ⊢
 have ⟨d12, d12f⟩ := k.cell_of X1.out (i := 12) rfl
 go_wp2_with (go_at_call 63; fail)
 refine (C1.out _ HB.out).mono ?_
 rintro e w3 ⟨A, c, rfl, hr, hn, hb⟩
 have RS := lh hr
 have NS : Hid (ln.New w A) := lh (New.past hn HB.out)
 have X1 := lh (X1.out.below hb (by omega))
 have X2 := lh (X2.out.below hb x4)
 have HB := lh (HB.out.trans (hb.mono HB.out.size))
 have z3 := Nat.lt_of_lt_of_le x4 hb.size
 have OS : Hid (Off w.heap.size ⟨A, S.n, c⟩ ∧ Off (w.heap.size + 1) ⟨A, S.n, c⟩) := lh ⟨off_newer hn (by omega), off_newer hn x4⟩
 clear hr hn hb d12 d12f
 have ⟨d12, d12f⟩ := k.cell_of X1.out (i := 12) rfl
 go_upto_region 2 with fail
 clear d12 d12f
 have y1 : k.Box (w3.setCell ⟨w.heap.size, 12, none⟩ (.slice A S.n c)) w.heap.size 0 (axC a ⟨A, S.n, c⟩ N W) := (k.Box.put (X1.out) 12 (by simp) ((.slice A S.n c)))
 have ho : Only w.heap.size w3 (w3.setCell ⟨w.heap.size, 12, none⟩ (.slice A S.n c)) := (Only.refl w.heap.size w3).set 12 ((.slice A S.n c))
 generalize (w3.setCell ⟨w.heap.size, 12, none⟩ (.slice A S.n c)) = w4 at y1 ho ⊢
 have X1 := lh y1
 have X2 := lh (only_box ho (by omega) X2.out)
 have RS := lh (rd_only RS.out ho OS.out.1)
 have HB := lh (HB.out.trans (ho.below (Nat.le_refl _)))
 have z4 : w.heap.size + 1 < w4.heap.size := by rw [ho.size]; exact z3
 have z40 : w.heap.size < w4.heap.size := by omega
 clear y1 ho
 have ⟨d14, d14f⟩ := k.cell_of X1.out (i := 14) rfl
 have ⟨d15, d15f⟩ := k.cell_of X1.out (i := 15) rfl
 refine wp_region_T (by kernel_rfl) (fun w' => Below w4.heap.size w4 w') [10] (Below.refl _ _).drew (fun hHeld => ?_)
 refine tk0 0 rfl ?_ ?_ ?_
 rotate_left
 ·intro; go_simp <;> with_reducible rfl
 try simp only [Act.put, p1, p2, p3, p4, p6]
 refine tk0 1 rfl ?_ ?_ ?_
 rotate_left
 ·intro; go_simp <;> with_reducible rfl
 try simp only [Act.put, p1, p2, p3, p4, p5, p6]
 refine tk 2 rfl ?_ ?_ ?_
 rotate_left
 ·intro w_ hSw; have q0 := (hSw.cell (p := ⟨w.heap.size, 14, none⟩) z40).trans d14; clear hSw; go_simp <;> (with_reducible rfl)
 try simp only [Act.put, p1, p2, p3, p4, p5, p6]
 refine tk0 4 rfl ?_ ?_ ?_
 rotate_left
 ·intro; go_simp <;> with_reducible rfl
 try simp only [Act.put, p1, p2, p3, p4, p5, p6]
 refine tk0 5 rfl ?_ ?_ ?_
 rotate_left
 ·intro; go_simp <;> with_reducible rfl
 try simp only [Act.put, p1, p2, p3, p4, p5, p6]
 refine tk 6 rfl ?_ ?_ ?_
 rotate_left
 ·intro w_ hSw; have q0 := (hSw.cell (p := ⟨w.heap.size, 15, none⟩) z40).trans d15; clear hSw; go_simp <;> (with_reducible rfl)
 try simp only [Act.put, p1, p2, p3, p4, p5, p6]
 refine ry [3] ?_
 refine ar1 rfl fun K hK => ?_
 go_simp
 (go_at_call 64; ((with_reducible refine (C2.out _ HB.out.drew).mono ?_); rintro e w5 ⟨A5, c5, rfl, hr, hn, hb0⟩))
 go_wp2_with fail
 have hb := ((Below.refl w4.heap.size w4).drew).trans hb0
 have RN := lh hr
 have NN : Hid (ln.New w4 A5) := lh hn
 clear hr hn hb0
 have HB5 := lh (HB.out.trans (hb.mono HB.out.size))
 refine hK.out _ _ hb (fun hHeld => ?_)
 clear hK K
 try simp only [Act.put, p1, p2, p3, p4, p5, p6]
 refine ry [7] ?_
 refine ar1 rfl fun K hK => ?_
 go_simp
 (go_at_call 64; ((with_reducible refine (C3.out _ HB5.out).mono ?_); rintro e w6 ⟨A6, c6, rfl, hr, hn, hb0⟩))
 go_wp2_with fail
 have hb6 := hb.trans (hb0.mono hb.size)
 have RW := lh hr
 have NW : Hid (ln.New w4 A6) := lh (fun b o x e => Nat.le_trans hb.size (hn b o x e))
 have RN := lh (rd_past RN.out hb0)
 clear hr hn hb0
 refine hK.out _ _ hb6 (fun hHeld => ?_)
 clear hK K
 try simp only [Act.put, p1, p2, p3, p4, p5, p6]
 refine tk0 8 rfl ?_ ?_ ?_
 rotate_left
 ·intro; go_simp <;> with_reducible rfl
 try simp only [Act.put, p1, p2, p3, p4, p5, p6]
 refine tk0 9 rfl ?_ ?_ ?_
 rotate_left
 ·intro; go_simp <;> with_reducible rfl
 try simp only [Act.put, p1, p2, p3, p4, p5, p6]
 have RS := lh (rd_past RS.out hb6)
 have X1 := lh (X1.out.below hb6 z40)
 have X2 := lh (X2.out.below hb6 z4)
 have HB := lh (HB.out.trans (hb6.mono HB.out.size))
 have z6 := Nat.lt_of_lt_of_le z4 hb6.size
 have OO : Hid ((Off w.heap.size ⟨A5, N.n, c5⟩ ∧ Off (w.heap.size + 1) ⟨A5, N.n, c5⟩) ∧ Off w.heap.size ⟨A6, W.n, c6⟩ ∧ Off (w.heap.size + 1) ⟨A6, W.n, c6⟩) := lh ⟨⟨off_newer NN.out z40, off_newer NN.out z4⟩, off_newer NW.out z40, off_newer NW.out z4⟩
 have NN2 : Hid (ln.New w A5 ∧ ln.New w A6) := lh ⟨fun b o x e => by have := NN.out b o x e; omega, fun b o x e => by have := NW.out b o x e; omega⟩
 clear NN NW
 clear d14 d14f d15 d15f
 have ⟨e14, e14f⟩ := k.cell_of X1.out (i := 14) rfl
 have ⟨e15, e15f⟩ := k.cell_of X1.out (i := 15) rfl
 refine ry [10] ?_
 refine AllReadyT.spoilt rfl (by kernel_rfl) (fun K hK => ?_) AllReadyT.nil
 go_simp
 go_wp2_with fail
 refine hK.out _ _ ?_
 clear hK K
 try simp only [Act.put, p1, p2, p3, p4, p5, p6]
 refine wpAnyT_done (by kernel_rfl) ?_ _
 clear e14 e14f e15 e15f hb hb6
 have y1 : k.Box ((w6.setCell ⟨w.heap.size, 14, none⟩ (.slice A5 N.n c5)).setCell ⟨w.heap.size, 15, none⟩ (.slice A6 W.n c6)) w.heap.size 0 (axC a ⟨A, S.n, c⟩ ⟨A5, N.n, c5⟩ ⟨A6, W.n, c6⟩) := (k.Box.put ((k.Box.put (X1.out) 14 (by simp) ((.slice A5 N.n c5)))) 15 (by simp) ((.slice A6 W.n c6)))
 have ho : Only w.heap.size w6 ((w6.setCell ⟨w.heap.size, 14, none⟩ (.slice A5 N.n c5)).setCell ⟨w.heap.size, 15, none⟩ (.slice A6 W.n c6)) := ((Only.refl w.heap.size w6).set 14 ((.slice A5 N.n c5))).set 15 ((.slice A6 W.n c6))
 generalize ((w6.setCell ⟨w.heap.size, 14, none⟩ (.slice A5 N.n c5)).setCell ⟨w.heap.size, 15, none⟩ (.slice A6 W.n c6)) = w7 at y1 ho ⊢
 have X1 := lh y1
 have X2 := lh (only_box ho (by omega) X2.out)
 have RA : Hid (RdA w7 w7.heap.size a ⟨A, S.n, c⟩ ⟨A5, N.n, c5⟩ ⟨A6, W.n, c6⟩) := lh ⟨rd_only RS.out ho OS.out.1, rd_only RN.out ho OO.out.1.1, rd_only RW.out ho OO.out.2.1⟩
 have HB := lh (HB.out.trans (ho.below (Nat.le_refl _)))
 have z7 : w.heap.size + 1 < w7.heap.size := by rw [ho.size]; exact z6
 clear y1 ho
 go_wp2_with (first | ((with_reducible refine m_ax_load X1.out 1 ?_ ?_ ?_ ?_); rfl; rfl; rfl; (try simp only [Act.put])) | ((with_reducible refine m_ax_old X2.out a ⟨A, S.n, c⟩ ⟨A5, N.n, c5⟩ ⟨A6, W.n, c6⟩ 2 19 ?_ ?_ ?_ ?_ ?_ ?_); rfl; rfl; rfl; rfl; rfl; intro w9 hw9 x9 hb9 ha9 hs9; have ho := (Only.refl (w.heap.size + 1) w7).sets (axC a ⟨A, S.n, c⟩ ⟨A5, N.n, c5⟩ ⟨A6, W.n, c6⟩) 0; rw [hw9] at ho; have HO := lh ho; have X9 := lh x9; clear hw9 x9 hb9 ha9 hs9 ho))
 exact bodyPost_ret (k.results_cell rfl rfl (run_loadVar_mid w9 (w.heap.size + 1) 0 35 _ _ X9.out.range rfl rfl (by kernel_rfl))) rfl ⟨⟨A, S.n, c⟩, ⟨A5, N.n, c5⟩, ⟨A6, W.n, c6⟩, rfl, ⟨rd_only RA.out.S HO.out OS.out.2, rd_only RA.out.N HO.out OO.out.1.2, rd_only RA.out.W HO.out OO.out.2.2⟩, ⟨NS.out, NN2.out.1, NN2.out.2⟩, HB.out.trans (HO.out.below (by omega))⟩
end Go.Proofs.YtijlccblabadaaaGreat.cx
end
section
namespace Go.Proofs.YtijlccblabadaaaGreat.cx
open Go.ChangeShapes Go.WideShapes Go.ChangeAt Go.RowKit Go.Proofs.YtijlccblabadaaaGreat.k Go.Proofs.YtijlccblabadaaaGreat.rr Go.Proofs.YtijlccblabadaaaGreat.ax
open Go.Proofs.YtijlccblabadaaaGreat.ln (C RdC RdI iC cC cV lnV)
set_option linter.unusedVariables false
set_option maxRecDepth 100000
def shiftA (a : Ax) (q : Int) : Ax := { a with p := q, sm := mm.shiftW a.sm (q - a.p), off := a.off - (q - a.p) }
set_option maxHeartbeats 4000000 in
theorem shifted_any (a : Ax) {S N W : Sl} {B : Nat} {w : World} (h : RdA w B a S N W) (hB : B ≤ w.heap.size) (l1 : a.sm.length ≤ 100) {q d : Int} (hd : q - a.p = d) (h1 : InR d) (h2 : InR q) (h3 : InR (a.off - d)) {b : Bool} (hb : decide (FarP (a.off - d)) = b) :
  Calls Tryz.prog 138 #[axV a S N W, .int .i64 q] w fun e w' => ∃ S' : Sl, e = .returned (.tuple #[axV (shiftA a q) S' N W, .bool b]) ∧ RdI w' w'.heap.size S'.A S'.n S'.c (shiftA a q).sm ∧ mm.From w S.A S'.A ∧ Below w.heap.size w w' := by
 have HA : Hid (shiftA a q = { a with p := q, sm := mm.shiftW a.sm d, off := a.off - d }) := lh (by unfold shiftA; rw [hd])
 rw [HA.out]
 have C1 := lh fun (V : World) (hb : Below w.heap.size w V) => mm.shift_from a.sm d l1 (win_of (h.S.below (hb.mono hB))) (Nat.le_trans hB hb.size)
 have C2 := lh fun V => isoff_any hb V
 have e1 : wrap64 (q - a.p) = d := by rw [hd]; exact IntWalk.wrap64_in _ h1
 have e2 : wrap64 (a.p + d) = q := by rw [show a.p + d = q by omega]; exact IntWalk.wrap64_in _ h2
 have e3 : wrap64 (a.off - d) = a.off - d := IntWalk.wrap64_in _ h3
 have HS : Hid (∀ g, g < w.heap.size → True) := lh fun _ _ => trivial
 have HRD := lh h
 have HBB := lh hB
 clear h hB l1 h1 h2 h3 hb hd HS
 obtain ⟨x1, x2, x3, x4⟩ := k.boxes2 (w := w) (c1 := axA a S N W) (t1 := 35) (c2 := zAx) (t2 := 35) (Below.refl _ _)
 have X1 : Hid (k.Box _ w.heap.size 0 (axC a S N W)) := lh x1
 have X2 := lh (zbox x2)
 have HB := lh x3
 clear x1 x2
 go_enter Tryz.func138, Tryz.ntmps138
 go_upto_region 1 with fail
 generalize (w.alloc (.cells (axA a S N W) 35)).alloc (.cells zAx 35) = w2 at X1 X2 HB x4 ⊢
 have ⟨d10, d10f⟩ := k.cell_of X1.out (i := 10) rfl
 go_upto_region 3 with fail
 clear d10 d10f
 rw [e1]
 have y1 : k.Box (w2.setCell ⟨w.heap.size, 10, none⟩ (.int .i64 q)) w.heap.size 0 (axC { a with p := q } S N W) := (k.Box.put (X1.out) 10 (by simp) ((.int .i64 q)))
 have ho : Only w.heap.size w2 (w2.setCell ⟨w.heap.size, 10, none⟩ (.int .i64 q)) := (Only.refl w.heap.size w2).set 10 ((.int .i64 q))
 generalize (w2.setCell ⟨w.heap.size, 10, none⟩ (.int .i64 q)) = w3 at y1 ho ⊢
 have X1 := lh y1
 have X2 := lh (only_box ho (by omega) X2.out)
 have HB := lh (HB.out.trans (ho.below (Nat.le_refl _)))
 have z3 : w.heap.size + 1 < w3.heap.size := by rw [ho.size]; exact x4
 clear y1 ho e1 e2
 have ⟨d12, d12f⟩ := k.cell_of X1.out (i := 12) rfl
 go_wp2_with (go_at_call 152; fail)
 refine (C1.out _ HB.out).mono ?_
 rintro e w4 ⟨A, n, c, rfl, ⟨hw, hf⟩, hb⟩
 have RS := lh (of_win hw)
 have FS : Hid (mm.From w S.A A) := lh (fun b o x e => (hf b o x e).imp id (fun h => Nat.le_trans HB.out.size h))
 have OS : Hid (Off w.heap.size ⟨A, n, c⟩ ∧ Off (w.heap.size + 1) ⟨A, n, c⟩) := lh (by
   have k1 : ∀ v, w.heap.size ≤ v → v < w3.heap.size → Off v ⟨A, n, c⟩ := fun v hv hv3 hn b o x e => by
    dsimp only at hn e
    rcases hf b o x e with ⟨o0, s0, e0⟩ | h1
    ·intro ev
     have hl : 0 < S.n := by
      rcases Nat.eq_zero_or_pos S.n with h0 | h0
      ·have hlen : a.sm = [] := List.eq_nil_of_length_eq_zero (by rw [HRD.out.S.1, h0])
       have hl2 := hw.1
       rw [hlen] at hl2
       unfold mm.shiftW at hl2
       split at hl2 <;> simp at hl2 <;> omega
      ·exact h0
     obtain ⟨b2, o2, e2, hb2, _⟩ := HRD.out.S.2.2.2.2 hl
     rw [e0] at e2
     injection e2 with e2
     injection e2 with e2 _ _
     have := HBB.out
     omega
    ·intro ev
     omega
   exact ⟨k1 _ (Nat.le_refl _) (by omega), k1 _ (by omega) z3⟩)
 have X1 := lh (X1.out.below hb (by omega))
 have X2 := lh (X2.out.below hb z3)
 have HB := lh (HB.out.trans (hb.mono HB.out.size))
 have z4 := Nat.lt_of_lt_of_le z3 hb.size
 clear hw hf hb d12 d12f
 have ⟨d12, d12f⟩ := k.cell_of X1.out (i := 12) rfl
 have ⟨d13, d13f⟩ := k.cell_of X1.out (i := 13) rfl
 go_upto_region 5 with fail
 clear d12 d12f d13 d13f e3
 have y1 : k.Box ((w4.setCell ⟨w.heap.size, 12, none⟩ (.slice A n c)).setCell ⟨w.heap.size, 13, none⟩ (.int .i64 (a.off - d))) w.heap.size 0 (axC { a with p := q, sm := mm.shiftW a.sm d, off := a.off - d } ⟨A, n, c⟩ N W) := (k.Box.put ((k.Box.put (X1.out) 12 (by simp) ((.slice A n c)))) 13 (by simp) ((.int .i64 (a.off - d))))
 have ho : Only w.heap.size w4 ((w4.setCell ⟨w.heap.size, 12, none⟩ (.slice A n c)).setCell ⟨w.heap.size, 13, none⟩ (.int .i64 (a.off - d))) := ((Only.refl w.heap.size w4).set 12 ((.slice A n c))).set 13 ((.int .i64 (a.off - d)))
 generalize ((w4.setCell ⟨w.heap.size, 12, none⟩ (.slice A n c)).setCell ⟨w.heap.size, 13, none⟩ (.int .i64 (a.off - d))) = w5 at y1 ho ⊢
 have X1 := lh y1
 have X2 := lh (only_box ho (by omega) X2.out)
 have RS := lh (rd_only RS.out ho OS.out.1)
 have HB := lh (HB.out.trans (ho.below (Nat.le_refl _)))
 have z5 : w.heap.size + 1 < w5.heap.size := by rw [ho.size]; exact z4
 have z50 : w.heap.size < w5.heap.size := by omega
 have z51 : w.heap.size ≠ w.heap.size + 1 := by omega
 clear y1 ho
 have ⟨d13, d13f⟩ := k.cell_of X1.out (i := 13) rfl
 refine wp_region_T (by kernel_rfl) (fun w' => Fr (w.heap.size + 1) none w5 w') [] (Fr.of_below ((Below.refl _ _).drew)) (fun hHeld => ?_)
 refine tkv 0 rfl (axV { a with p := q, sm := mm.shiftW a.sm d, off := a.off - d } ⟨A, n, c⟩ N W) (by exact m_z_ax X1.out z50 z51 2 rfl rfl rfl) ?_
 try simp only [Act.put, p1, p2, p3, p4, p6]
 refine tk0 1 rfl ?_ ?_ ?_
 rotate_left
 ·intro; go_simp <;> with_reducible rfl
 try simp only [Act.put, p1, p2, p3, p4, p5, p6]
 refine tk 2 rfl ?_ ?_ ?_
 rotate_left
 ·intro w_ hSw; have q0 := hSw.cellat z50 z51 d13; clear hSw; go_simp <;> (with_reducible rfl)
 try simp only [Act.put, p1, p2, p3, p4, p5, p6]
 refine ry [3] ?_
 refine ar1 rfl fun K hK => ?_
 go_simp
 (go_at_call 36; ((with_reducible refine (C2.out _).mono ?_); rintro e w6 ⟨rfl, rfl⟩))
 go_wp2_with fail
 refine hK.out _ _ hHeld (fun hHeld => ?_)
 clear hK K
 try simp only [Act.put, p1, p2, p3, p4, p5, p6]
 refine ry [4] ?_
 refine ar1 rfl fun K hK => ?_
 rw [if_pos (by rfl)]
 refine m_w_old (X2.out.below ((Below.refl w5.heap.size w5).drew) z5) rfl { a with p := q, sm := mm.shiftW a.sm d, off := a.off - d } ⟨A, n, c⟩ N W 4 29 rfl rfl rfl rfl ?_
 intro w9 hw9 x9 hb9 ha9 hs9
 have ho := (Only.refl (w.heap.size + 1) w5.drew).sets (axC { a with p := q, sm := mm.shiftW a.sm d, off := a.off - d } ⟨A, n, c⟩ N W) 0
 rw [hw9] at ho
 have X9 := lh x9
 have hT := (Fr.of_below ((Below.refl w5.heap.size w5).drew)).trans (Nx.refl _ _) (Fr.of_only (g := w.heap.size + 1) (tb := none) ho)
 have HO := lh ho
 clear hw9 x9 hb9 ha9 hs9 ho
 refine hK.out _ _ hT (fun hHeld => ?_)
 clear hK K
 try simp only [Act.put, p1, p2, p3, p4, p5, p6]
 refine tk0 5 rfl ?_ ?_ ?_
 rotate_left
 ·intro; go_simp <;> with_reducible rfl
 try simp only [Act.put, p1, p2, p3, p4, p5, p6]
 refine wpAnyT_done (by kernel_rfl) ?_ _
 go_wp2
 exact bodyPost_ret (k.results_cell_tmp rfl rfl (run_loadVar_mid w9 (w.heap.size + 1) 0 35 _ _ X9.out.range rfl rfl (by kernel_rfl))) rfl ⟨⟨A, n, c⟩, rfl, rd_only (rd_past RS.out ((Below.refl w5.heap.size w5).drew)) HO.out OS.out.2, FS.out, (HB.out.drew).trans (HO.out.below (by omega))⟩
end Go.Proofs.YtijlccblabadaaaGreat.cx
end
