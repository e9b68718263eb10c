/- What a cycle's added answers; what was in memory is as it was. No condition beyond what each line says. What a cycle's take does: a command is taken, or refused. No condition beyond what each line says. A cycle that is made, and what its commands come to, one by one. No condition beyond what each line says. -/
import Derived.Test.YtijlccblabadaaaGreatV08
import Derived.Test.YtijlccblabadaaaGreatV09
import Derived.Test.YtijlccblabadaaaGreatU02
section
namespace Go.Proofs.YtijlccblabadaaaGreat.cx
open Go.ChangeShapes Go.WideShapes Go.ChangeAt Go.RowKit Go.Proofs.YtijlccblabadaaaGreat.k Go.Proofs.YtijlccblabadaaaGreat.rr Go.Proofs.YtijlccblabadaaaGreat.ax
open Go.Proofs.YtijlccblabadaaaGreat.ln (C RdC RdI iC cC cV lnV)
set_option linter.unusedVariables false
set_option maxRecDepth 100000
theorem results_c2 {P : Program} {fn : Func} {t u v : Tmp} {T : TypeId} (h : fn.results = #[.cell t T, .tmp u, .tmp v]) {tmps : Array Value} {w : World} {b o : Nat} {x : Value} (ht : tmps.getD t undef = .pointer (some ⟨b, o, none⟩))
  (hl : (loadVar T ⟨b, o, none⟩).run P w = .ok x w) : (results fn tmps).run P w = .ok (.tuple #[x, tmps.getD u undef, tmps.getD v undef]) w := by
 have ha : (asAddr (.pointer (some ⟨b, o, none⟩)) : Sem Addr) = pure ⟨b, o, none⟩ := rfl
 have ht2 : tmps[t]?.getD undef = .pointer (some ⟨b, o, none⟩) := by rw [← ht]; simp
 rw [results, h]
 simp [ht2, ha, hl]
def GotT (a : Ax) (c : C) (tk : Bool) (w : World) (e : Ending) (w' : World) : Prop :=
 ∃ A n cc A' m cc' D q d, e = .returned (.tuple #[lnV A n cc A' m cc', .slice D q d, .bool tk]) ∧ Below w.heap.size w w' ∧
  (tk = true → RdC w' w'.heap.size A n cc (ln.addN a.N a.W (landedC a c)) ∧ RdC w' w'.heap.size A' m cc' (ln.addW a.N a.W (landedC a c)) ∧ RdI w' w'.heap.size D q d (ln.addI a.N a.W (landedC a c)) ∧ ln.New w A ∧ ln.New w A' ∧ ln.New w D)
section
variable {base g : Nat} {i : In} {L : Sl} {a : Ax} {R : List Rp} {fr pa : Bool} {w : World} {tb : Option Nat}
set_option maxHeartbeats 8000000 in
theorem added_any (h : Cyc base g i L tb a R fr pa w) (hr : RightA a) (c : C) (hc : WideC c) (hp : InR (baseV a c)) {tk : Bool} (htk : @decide (TakenP a c fr) (Classical.propDecidable _) = tk) :
  Calls Tryz.prog 70 #[.pointer (some ⟨g, 0, none⟩), cV c] w (GotT a c tk w) := by
 obtain ⟨S, N, W, T, h0, ht⟩ := h
 have HW0 := lh h0
 have h : Cyc base g i L tb a R fr pa w := ⟨S, N, W, T, h0, ht⟩
 have TI := taken_iff hr c fr
 have tno : ¬ TakenP a c fr → tk = false := fun hn => by rw [← htk]; exact @decide_eq_false _ (Classical.propDecidable _) hn
 have tyes : TakenP a c fr → tk = true := fun hn => by rw [← htk]; exact @decide_eq_true _ (Classical.propDecidable _) hn
 clear htk
 obtain ⟨x1, x2, x3, x4⟩ := k.boxes2 (w := w) (c1 := cA c) (t1 := 62) (c2 := #[.slice none 0 0, .slice none 0 0]) (t2 := 31) (Below.refl _ _)
 have X1 : Hid (k.Box _ w.heap.size 0 (cC c)) := lh x1
 have X2 : Hid (k.Box _ (w.heap.size + 1) 0 [.slice none 0 0, .slice none 0 0]) := lh x2
 have HB := lh x3
 have hc2 := h.below x3
 have h2 := h0.below x3
 have HL0 := h.lt
 clear x1 x2 x3 h h0
 generalize hw2 : (w.alloc (.cells (cA c) 62)).alloc (.cells #[.slice none 0 0, .slice none 0 0] 31) = w2 at X1 X2 HB x4 hc2 h2
 have HW2 := lh hw2
 clear hw2
 have l1 : w.heap.size < w2.heap.size := by omega
 have l2 := x4
 have BC := lh (Below.refl w2.heap.size w2)
 have hv1 := hr.limits.1
 have hv2 := hr.limits.2.1
 obtain ⟨mc, hmc⟩ : ∃ b, mayComeB a c = b := ⟨_, rfl⟩
 obtain ⟨mw, hmw⟩ : ∃ b, mayWaitB a c = b := ⟨_, rfl⟩
 obtain ⟨mg, hmg⟩ : ∃ b, mayGoB a c = b := ⟨_, rfl⟩
 obtain ⟨mv, hmv⟩ : ∃ b, decide (1 ≤ c.kind ∧ c.kind ≤ 3) = b := ⟨_, rfl⟩
 obtain ⟨ib, hib⟩ : ∃ b, inB a (placeV a c) = b := ⟨_, rfl⟩
 obtain ⟨pv, hpv⟩ : ∃ b, placeV a c = b := ⟨_, rfl⟩
 obtain ⟨pb, hpb⟩ : ∃ b, placeB a c = b := ⟨_, rfl⟩
 have M1 := lh fun (W : World) (hb : Below w2.heap.size w2 W) => maycome_any (hc2.below hb) c hmc
 have M2 := lh fun (W : World) (hb : Below w2.heap.size w2 W) => maywait_any (hc2.below hb) c hmw
 have M3 := lh fun (W : World) (hb : Below w2.heap.size w2 W) => maygo_any (hc2.below hb) c (by omega) (by omega) hmg
 have PL := lh fun (W : World) (hb : Below w2.heap.size w2 W) => place_any (hc2.below hb) c hr.line hp hc.tgt
 rw [hpv, hpb] at PL
 have CM := lh fun W => ismove_any hmv W
 rw [hmc, hmw, hmg, hpb, hib] at TI
 have HTI := lh TI
 have HNO := lh tno
 have HYES := lh tyes
 have HMV := lh hmv
 have HPV := lh hpv
 have H2 := lh h2
 have hl := h2.lt
 have ⟨d39, d39f⟩ := k.cell_of h2.box (i := 39) rfl
 have IP := lh fun V => isplace_any a S N W (n := pv) (t := ib) (by rw [← hpv]; exact hib) V
 have HRL := lh hr.line
 unfold cV at M1 M2 M3 PL ⊢
 clear hc2
 clear TI tno tyes hmc hmw hmg hpb hib hpv hv1 hv2 hr hc hp h2 hmv ht
 have ⟨k0, k0f⟩ := k.cell_of X1.out (i := 0) rfl
 have ⟨k1, k1f⟩ := k.cell_of X1.out (i := 1) rfl
 have ⟨k2, k2f⟩ := k.cell_of X1.out (i := 2) rfl
 have ⟨k3, k3f⟩ := k.cell_of X1.out (i := 3) rfl
 have ⟨k4, k4f⟩ := k.cell_of X1.out (i := 4) rfl
 have ⟨k5, k5f⟩ := k.cell_of X1.out (i := 5) rfl
 have ⟨k6, k6f⟩ := k.cell_of X1.out (i := 6) rfl
 cases fr
 rotate_left 1
 ·skip
  have HT : Hid (tk = false) := lh (HNO.out fun ht => by have := HTI.out.1 ht; cases this.1)
  rw [HT.out]
  clear HT HTI HNO HYES HPV HMV HRL IP
  have z0f := True.intro
  have ⟨z0, z0f⟩ := k.cell_of X2.out (i := 0) rfl
  have ⟨z1, z1f⟩ := k.cell_of X2.out (i := 1) rfl
  go_enter Tryz.func70, Tryz.ntmps70
  go_upto_region 1 with fail
  rw [show (w.alloc (.cells #[.int .i64 c.id, .int .i64 c.kind, .int .i64 c.tgt, .int .i64 c.spd, .int .i64 c.mode, .int .i64 c.num, .int .i64 c.den] 62)).alloc (.cells #[.slice none 0 0, .slice none 0 0] 31) = w2 from HW2.out]
  go_wp2_with (first | (go_at_call 94; ((with_reducible refine (M1.out _ BC.out).mono ?_); rintro e w5 ⟨rfl, hb⟩; have BC := lh (BC.out.trans (hb.mono BC.out.size)); have X1 := lh (X1.out.below hb l1); have X2 := lh (X2.out.below hb l2); have l1 := Nat.lt_of_lt_of_le l1 hb.size; have l2 := Nat.lt_of_lt_of_le l2 hb.size; clear hb; clear k0 k0f k1 k1f k2 k2f k3 k3f k4 k4f k5 k5f k6 k6f; have ⟨k0, k0f⟩ := k.cell_of X1.out (i := 0) rfl; have ⟨k1, k1f⟩ := k.cell_of X1.out (i := 1) rfl; have ⟨k2, k2f⟩ := k.cell_of X1.out (i := 2) rfl; have ⟨k3, k3f⟩ := k.cell_of X1.out (i := 3) rfl; have ⟨k4, k4f⟩ := k.cell_of X1.out (i := 4) rfl; have ⟨k5, k5f⟩ := k.cell_of X1.out (i := 5) rfl; have ⟨k6, k6f⟩ := k.cell_of X1.out (i := 6) rfl; clear z0 z0f z1 z1f; have ⟨z0, z0f⟩ := k.cell_of X2.out (i := 0) rfl; have ⟨z1, z1f⟩ := k.cell_of X2.out (i := 1) rfl)) | (go_at_call 95; ((with_reducible refine (M2.out _ BC.out).mono ?_); rintro e w5 ⟨rfl, hb⟩; have BC := lh (BC.out.trans (hb.mono BC.out.size)); have X1 := lh (X1.out.below hb l1); have X2 := lh (X2.out.below hb l2); have l1 := Nat.lt_of_lt_of_le l1 hb.size; have l2 := Nat.lt_of_lt_of_le l2 hb.size; clear hb; clear k0 k0f k1 k1f k2 k2f k3 k3f k4 k4f k5 k5f k6 k6f; have ⟨k0, k0f⟩ := k.cell_of X1.out (i := 0) rfl; have ⟨k1, k1f⟩ := k.cell_of X1.out (i := 1) rfl; have ⟨k2, k2f⟩ := k.cell_of X1.out (i := 2) rfl; have ⟨k3, k3f⟩ := k.cell_of X1.out (i := 3) rfl; have ⟨k4, k4f⟩ := k.cell_of X1.out (i := 4) rfl; have ⟨k5, k5f⟩ := k.cell_of X1.out (i := 5) rfl; have ⟨k6, k6f⟩ := k.cell_of X1.out (i := 6) rfl; clear z0 z0f z1 z1f; have ⟨z0, z0f⟩ := k.cell_of X2.out (i := 0) rfl; have ⟨z1, z1f⟩ := k.cell_of X2.out (i := 1) rfl)) | (go_at_call 96; ((with_reducible refine (M3.out _ BC.out).mono ?_); rintro e w5 ⟨rfl, hb⟩; have BC := lh (BC.out.trans (hb.mono BC.out.size)); have X1 := lh (X1.out.below hb l1); have X2 := lh (X2.out.below hb l2); have l1 := Nat.lt_of_lt_of_le l1 hb.size; have l2 := Nat.lt_of_lt_of_le l2 hb.size; clear hb; clear k0 k0f k1 k1f k2 k2f k3 k3f k4 k4f k5 k5f k6 k6f; have ⟨k0, k0f⟩ := k.cell_of X1.out (i := 0) rfl; have ⟨k1, k1f⟩ := k.cell_of X1.out (i := 1) rfl; have ⟨k2, k2f⟩ := k.cell_of X1.out (i := 2) rfl; have ⟨k3, k3f⟩ := k.cell_of X1.out (i := 3) rfl; have ⟨k4, k4f⟩ := k.cell_of X1.out (i := 4) rfl; have ⟨k5, k5f⟩ := k.cell_of X1.out (i := 5) rfl; have ⟨k6, k6f⟩ := k.cell_of X1.out (i := 6) rfl; clear z0 z0f z1 z1f; have ⟨z0, z0f⟩ := k.cell_of X2.out (i := 0) rfl; have ⟨z1, z1f⟩ := k.cell_of X2.out (i := 1) rfl)) | (go_at_call 97; ((with_reducible refine (CM.out _).mono ?_); rintro e w5 ⟨rfl, rfl⟩)) | (go_at_call 98; ((with_reducible refine (PL.out _ BC.out).mono ?_); rintro e w5 ⟨rfl, hb⟩; have BC := lh (BC.out.trans (hb.mono BC.out.size)); have X1 := lh (X1.out.below hb l1); have X2 := lh (X2.out.below hb l2); have l1 := Nat.lt_of_lt_of_le l1 hb.size; have l2 := Nat.lt_of_lt_of_le l2 hb.size; clear hb; clear k0 k0f k1 k1f k2 k2f k3 k3f k4 k4f k5 k5f k6 k6f; have ⟨k0, k0f⟩ := k.cell_of X1.out (i := 0) rfl; have ⟨k1, k1f⟩ := k.cell_of X1.out (i := 1) rfl; have ⟨k2, k2f⟩ := k.cell_of X1.out (i := 2) rfl; have ⟨k3, k3f⟩ := k.cell_of X1.out (i := 3) rfl; have ⟨k4, k4f⟩ := k.cell_of X1.out (i := 4) rfl; have ⟨k5, k5f⟩ := k.cell_of X1.out (i := 5) rfl; have ⟨k6, k6f⟩ := k.cell_of X1.out (i := 6) rfl; clear z0 z0f z1 z1f; have ⟨z0, z0f⟩ := k.cell_of X2.out (i := 0) rfl; have ⟨z1, z1f⟩ := k.cell_of X2.out (i := 1) rfl)) | ((with_reducible refine m_ax_load (H2.out.below BC.out).ax 49 ?_ ?_ ?_ ?_); rfl; rfl; rfl; (try simp only [Act.put])) | (go_at_call 86; ((with_reducible refine (IP.out _).mono ?_); rintro e w5 ⟨rfl, hb⟩; have BC := lh (BC.out.trans (hb.mono BC.out.size)); have X1 := lh (X1.out.below hb l1); have X2 := lh (X2.out.below hb l2); have l1 := Nat.lt_of_lt_of_le l1 hb.size; have l2 := Nat.lt_of_lt_of_le l2 hb.size; clear hb; clear k0 k0f k1 k1f k2 k2f k3 k3f k4 k4f k5 k5f k6 k6f; have ⟨k0, k0f⟩ := k.cell_of X1.out (i := 0) rfl; have ⟨k1, k1f⟩ := k.cell_of X1.out (i := 1) rfl; have ⟨k2, k2f⟩ := k.cell_of X1.out (i := 2) rfl; have ⟨k3, k3f⟩ := k.cell_of X1.out (i := 3) rfl; have ⟨k4, k4f⟩ := k.cell_of X1.out (i := 4) rfl; have ⟨k5, k5f⟩ := k.cell_of X1.out (i := 5) rfl; have ⟨k6, k6f⟩ := k.cell_of X1.out (i := 6) rfl; clear z0 z0f z1 z1f; have ⟨z0, z0f⟩ := k.cell_of X2.out (i := 0) rfl; have ⟨z1, z1f⟩ := k.cell_of X2.out (i := 1) rfl)))
  obtain ⟨i1, i2, i3⟩ := k.Box.puts (us := [.slice none 0 0, .slice none 0 0]) X2.out rfl
  exact bodyPost_ret (results_c2 rfl rfl (run_loadVar_mid _ (w.heap.size + 1) 0 31 _ _ i1.range rfl rfl (by kernel_rfl))) rfl ⟨none, 0, 0, none, 0, 0, none, 0, 0, rfl, (HB.out.trans (BC.out.mono HB.out.size)).trans (i3 _ (by omega)), fun h => by cases h⟩
 cases mc
 ·skip
  have HT : Hid (tk = false) := lh (HNO.out fun ht => by have := HTI.out.1 ht; cases this.2.1)
  rw [HT.out]
  clear HT HTI HNO HYES HPV HMV HRL IP
  have z0f := True.intro
  have ⟨z0, z0f⟩ := k.cell_of X2.out (i := 0) rfl
  have ⟨z1, z1f⟩ := k.cell_of X2.out (i := 1) rfl
  go_enter Tryz.func70, Tryz.ntmps70
  go_upto_region 1 with fail
  rw [show (w.alloc (.cells #[.int .i64 c.id, .int .i64 c.kind, .int .i64 c.tgt, .int .i64 c.spd, .int .i64 c.mode, .int .i64 c.num, .int .i64 c.den] 62)).alloc (.cells #[.slice none 0 0, .slice none 0 0] 31) = w2 from HW2.out]
  go_wp2_with (first | (go_at_call 94; ((with_reducible refine (M1.out _ BC.out).mono ?_); rintro e w5 ⟨rfl, hb⟩; have BC := lh (BC.out.trans (hb.mono BC.out.size)); have X1 := lh (X1.out.below hb l1); have X2 := lh (X2.out.below hb l2); have l1 := Nat.lt_of_lt_of_le l1 hb.size; have l2 := Nat.lt_of_lt_of_le l2 hb.size; clear hb; clear k0 k0f k1 k1f k2 k2f k3 k3f k4 k4f k5 k5f k6 k6f; have ⟨k0, k0f⟩ := k.cell_of X1.out (i := 0) rfl; have ⟨k1, k1f⟩ := k.cell_of X1.out (i := 1) rfl; have ⟨k2, k2f⟩ := k.cell_of X1.out (i := 2) rfl; have ⟨k3, k3f⟩ := k.cell_of X1.out (i := 3) rfl; have ⟨k4, k4f⟩ := k.cell_of X1.out (i := 4) rfl; have ⟨k5, k5f⟩ := k.cell_of X1.out (i := 5) rfl; have ⟨k6, k6f⟩ := k.cell_of X1.out (i := 6) rfl; clear z0 z0f z1 z1f; have ⟨z0, z0f⟩ := k.cell_of X2.out (i := 0) rfl; have ⟨z1, z1f⟩ := k.cell_of X2.out (i := 1) rfl)) | (go_at_call 95; ((with_reducible refine (M2.out _ BC.out).mono ?_); rintro e w5 ⟨rfl, hb⟩; have BC := lh (BC.out.trans (hb.mono BC.out.size)); have X1 := lh (X1.out.below hb l1); have X2 := lh (X2.out.below hb l2); have l1 := Nat.lt_of_lt_of_le l1 hb.size; have l2 := Nat.lt_of_lt_of_le l2 hb.size; clear hb; clear k0 k0f k1 k1f k2 k2f k3 k3f k4 k4f k5 k5f k6 k6f; have ⟨k0, k0f⟩ := k.cell_of X1.out (i := 0) rfl; have ⟨k1, k1f⟩ := k.cell_of X1.out (i := 1) rfl; have ⟨k2, k2f⟩ := k.cell_of X1.out (i := 2) rfl; have ⟨k3, k3f⟩ := k.cell_of X1.out (i := 3) rfl; have ⟨k4, k4f⟩ := k.cell_of X1.out (i := 4) rfl; have ⟨k5, k5f⟩ := k.cell_of X1.out (i := 5) rfl; have ⟨k6, k6f⟩ := k.cell_of X1.out (i := 6) rfl; clear z0 z0f z1 z1f; have ⟨z0, z0f⟩ := k.cell_of X2.out (i := 0) rfl; have ⟨z1, z1f⟩ := k.cell_of X2.out (i := 1) rfl)) | (go_at_call 96; ((with_reducible refine (M3.out _ BC.out).mono ?_); rintro e w5 ⟨rfl, hb⟩; have BC := lh (BC.out.trans (hb.mono BC.out.size)); have X1 := lh (X1.out.below hb l1); have X2 := lh (X2.out.below hb l2); have l1 := Nat.lt_of_lt_of_le l1 hb.size; have l2 := Nat.lt_of_lt_of_le l2 hb.size; clear hb; clear k0 k0f k1 k1f k2 k2f k3 k3f k4 k4f k5 k5f k6 k6f; have ⟨k0, k0f⟩ := k.cell_of X1.out (i := 0) rfl; have ⟨k1, k1f⟩ := k.cell_of X1.out (i := 1) rfl; have ⟨k2, k2f⟩ := k.cell_of X1.out (i := 2) rfl; have ⟨k3, k3f⟩ := k.cell_of X1.out (i := 3) rfl; have ⟨k4, k4f⟩ := k.cell_of X1.out (i := 4) rfl; have ⟨k5, k5f⟩ := k.cell_of X1.out (i := 5) rfl; have ⟨k6, k6f⟩ := k.cell_of X1.out (i := 6) rfl; clear z0 z0f z1 z1f; have ⟨z0, z0f⟩ := k.cell_of X2.out (i := 0) rfl; have ⟨z1, z1f⟩ := k.cell_of X2.out (i := 1) rfl)) | (go_at_call 97; ((with_reducible refine (CM.out _).mono ?_); rintro e w5 ⟨rfl, rfl⟩)) | (go_at_call 98; ((with_reducible refine (PL.out _ BC.out).mono ?_); rintro e w5 ⟨rfl, hb⟩; have BC := lh (BC.out.trans (hb.mono BC.out.size)); have X1 := lh (X1.out.below hb l1); have X2 := lh (X2.out.below hb l2); have l1 := Nat.lt_of_lt_of_le l1 hb.size; have l2 := Nat.lt_of_lt_of_le l2 hb.size; clear hb; clear k0 k0f k1 k1f k2 k2f k3 k3f k4 k4f k5 k5f k6 k6f; have ⟨k0, k0f⟩ := k.cell_of X1.out (i := 0) rfl; have ⟨k1, k1f⟩ := k.cell_of X1.out (i := 1) rfl; have ⟨k2, k2f⟩ := k.cell_of X1.out (i := 2) rfl; have ⟨k3, k3f⟩ := k.cell_of X1.out (i := 3) rfl; have ⟨k4, k4f⟩ := k.cell_of X1.out (i := 4) rfl; have ⟨k5, k5f⟩ := k.cell_of X1.out (i := 5) rfl; have ⟨k6, k6f⟩ := k.cell_of X1.out (i := 6) rfl; clear z0 z0f z1 z1f; have ⟨z0, z0f⟩ := k.cell_of X2.out (i := 0) rfl; have ⟨z1, z1f⟩ := k.cell_of X2.out (i := 1) rfl)) | ((with_reducible refine m_ax_load (H2.out.below BC.out).ax 49 ?_ ?_ ?_ ?_); rfl; rfl; rfl; (try simp only [Act.put])) | (go_at_call 86; ((with_reducible refine (IP.out _).mono ?_); rintro e w5 ⟨rfl, hb⟩; have BC := lh (BC.out.trans (hb.mono BC.out.size)); have X1 := lh (X1.out.below hb l1); have X2 := lh (X2.out.below hb l2); have l1 := Nat.lt_of_lt_of_le l1 hb.size; have l2 := Nat.lt_of_lt_of_le l2 hb.size; clear hb; clear k0 k0f k1 k1f k2 k2f k3 k3f k4 k4f k5 k5f k6 k6f; have ⟨k0, k0f⟩ := k.cell_of X1.out (i := 0) rfl; have ⟨k1, k1f⟩ := k.cell_of X1.out (i := 1) rfl; have ⟨k2, k2f⟩ := k.cell_of X1.out (i := 2) rfl; have ⟨k3, k3f⟩ := k.cell_of X1.out (i := 3) rfl; have ⟨k4, k4f⟩ := k.cell_of X1.out (i := 4) rfl; have ⟨k5, k5f⟩ := k.cell_of X1.out (i := 5) rfl; have ⟨k6, k6f⟩ := k.cell_of X1.out (i := 6) rfl; clear z0 z0f z1 z1f; have ⟨z0, z0f⟩ := k.cell_of X2.out (i := 0) rfl; have ⟨z1, z1f⟩ := k.cell_of X2.out (i := 1) rfl)))
  obtain ⟨i1, i2, i3⟩ := k.Box.puts (us := [.slice none 0 0, .slice none 0 0]) X2.out rfl
  exact bodyPost_ret (results_c2 rfl rfl (run_loadVar_mid _ (w.heap.size + 1) 0 31 _ _ i1.range rfl rfl (by kernel_rfl))) rfl ⟨none, 0, 0, none, 0, 0, none, 0, 0, rfl, (HB.out.trans (BC.out.mono HB.out.size)).trans (i3 _ (by omega)), fun h => by cases h⟩
 cases mw
 ·skip
  have HT : Hid (tk = false) := lh (HNO.out fun ht => by have := HTI.out.1 ht; cases this.2.2.1)
  rw [HT.out]
  clear HT HTI HNO HYES HPV HMV HRL IP
  have z0f := True.intro
  have ⟨z0, z0f⟩ := k.cell_of X2.out (i := 0) rfl
  have ⟨z1, z1f⟩ := k.cell_of X2.out (i := 1) rfl
  go_enter Tryz.func70, Tryz.ntmps70
  go_upto_region 1 with fail
  rw [show (w.alloc (.cells #[.int .i64 c.id, .int .i64 c.kind, .int .i64 c.tgt, .int .i64 c.spd, .int .i64 c.mode, .int .i64 c.num, .int .i64 c.den] 62)).alloc (.cells #[.slice none 0 0, .slice none 0 0] 31) = w2 from HW2.out]
  go_wp2_with (first | (go_at_call 94; ((with_reducible refine (M1.out _ BC.out).mono ?_); rintro e w5 ⟨rfl, hb⟩; have BC := lh (BC.out.trans (hb.mono BC.out.size)); have X1 := lh (X1.out.below hb l1); have X2 := lh (X2.out.below hb l2); have l1 := Nat.lt_of_lt_of_le l1 hb.size; have l2 := Nat.lt_of_lt_of_le l2 hb.size; clear hb; clear k0 k0f k1 k1f k2 k2f k3 k3f k4 k4f k5 k5f k6 k6f; have ⟨k0, k0f⟩ := k.cell_of X1.out (i := 0) rfl; have ⟨k1, k1f⟩ := k.cell_of X1.out (i := 1) rfl; have ⟨k2, k2f⟩ := k.cell_of X1.out (i := 2) rfl; have ⟨k3, k3f⟩ := k.cell_of X1.out (i := 3) rfl; have ⟨k4, k4f⟩ := k.cell_of X1.out (i := 4) rfl; have ⟨k5, k5f⟩ := k.cell_of X1.out (i := 5) rfl; have ⟨k6, k6f⟩ := k.cell_of X1.out (i := 6) rfl; clear z0 z0f z1 z1f; have ⟨z0, z0f⟩ := k.cell_of X2.out (i := 0) rfl; have ⟨z1, z1f⟩ := k.cell_of X2.out (i := 1) rfl)) | (go_at_call 95; ((with_reducible refine (M2.out _ BC.out).mono ?_); rintro e w5 ⟨rfl, hb⟩; have BC := lh (BC.out.trans (hb.mono BC.out.size)); have X1 := lh (X1.out.below hb l1); have X2 := lh (X2.out.below hb l2); have l1 := Nat.lt_of_lt_of_le l1 hb.size; have l2 := Nat.lt_of_lt_of_le l2 hb.size; clear hb; clear k0 k0f k1 k1f k2 k2f k3 k3f k4 k4f k5 k5f k6 k6f; have ⟨k0, k0f⟩ := k.cell_of X1.out (i := 0) rfl; have ⟨k1, k1f⟩ := k.cell_of X1.out (i := 1) rfl; have ⟨k2, k2f⟩ := k.cell_of X1.out (i := 2) rfl; have ⟨k3, k3f⟩ := k.cell_of X1.out (i := 3) rfl; have ⟨k4, k4f⟩ := k.cell_of X1.out (i := 4) rfl; have ⟨k5, k5f⟩ := k.cell_of X1.out (i := 5) rfl; have ⟨k6, k6f⟩ := k.cell_of X1.out (i := 6) rfl; clear z0 z0f z1 z1f; have ⟨z0, z0f⟩ := k.cell_of X2.out (i := 0) rfl; have ⟨z1, z1f⟩ := k.cell_of X2.out (i := 1) rfl)) | (go_at_call 96; ((with_reducible refine (M3.out _ BC.out).mono ?_); rintro e w5 ⟨rfl, hb⟩; have BC := lh (BC.out.trans (hb.mono BC.out.size)); have X1 := lh (X1.out.below hb l1); have X2 := lh (X2.out.below hb l2); have l1 := Nat.lt_of_lt_of_le l1 hb.size; have l2 := Nat.lt_of_lt_of_le l2 hb.size; clear hb; clear k0 k0f k1 k1f k2 k2f k3 k3f k4 k4f k5 k5f k6 k6f; have ⟨k0, k0f⟩ := k.cell_of X1.out (i := 0) rfl; have ⟨k1, k1f⟩ := k.cell_of X1.out (i := 1) rfl; have ⟨k2, k2f⟩ := k.cell_of X1.out (i := 2) rfl; have ⟨k3, k3f⟩ := k.cell_of X1.out (i := 3) rfl; have ⟨k4, k4f⟩ := k.cell_of X1.out (i := 4) rfl; have ⟨k5, k5f⟩ := k.cell_of X1.out (i := 5) rfl; have ⟨k6, k6f⟩ := k.cell_of X1.out (i := 6) rfl; clear z0 z0f z1 z1f; have ⟨z0, z0f⟩ := k.cell_of X2.out (i := 0) rfl; have ⟨z1, z1f⟩ := k.cell_of X2.out (i := 1) rfl)) | (go_at_call 97; ((with_reducible refine (CM.out _).mono ?_); rintro e w5 ⟨rfl, rfl⟩)) | (go_at_call 98; ((with_reducible refine (PL.out _ BC.out).mono ?_); rintro e w5 ⟨rfl, hb⟩; have BC := lh (BC.out.trans (hb.mono BC.out.size)); have X1 := lh (X1.out.below hb l1); have X2 := lh (X2.out.below hb l2); have l1 := Nat.lt_of_lt_of_le l1 hb.size; have l2 := Nat.lt_of_lt_of_le l2 hb.size; clear hb; clear k0 k0f k1 k1f k2 k2f k3 k3f k4 k4f k5 k5f k6 k6f; have ⟨k0, k0f⟩ := k.cell_of X1.out (i := 0) rfl; have ⟨k1, k1f⟩ := k.cell_of X1.out (i := 1) rfl; have ⟨k2, k2f⟩ := k.cell_of X1.out (i := 2) rfl; have ⟨k3, k3f⟩ := k.cell_of X1.out (i := 3) rfl; have ⟨k4, k4f⟩ := k.cell_of X1.out (i := 4) rfl; have ⟨k5, k5f⟩ := k.cell_of X1.out (i := 5) rfl; have ⟨k6, k6f⟩ := k.cell_of X1.out (i := 6) rfl; clear z0 z0f z1 z1f; have ⟨z0, z0f⟩ := k.cell_of X2.out (i := 0) rfl; have ⟨z1, z1f⟩ := k.cell_of X2.out (i := 1) rfl)) | ((with_reducible refine m_ax_load (H2.out.below BC.out).ax 49 ?_ ?_ ?_ ?_); rfl; rfl; rfl; (try simp only [Act.put])) | (go_at_call 86; ((with_reducible refine (IP.out _).mono ?_); rintro e w5 ⟨rfl, hb⟩; have BC := lh (BC.out.trans (hb.mono BC.out.size)); have X1 := lh (X1.out.below hb l1); have X2 := lh (X2.out.below hb l2); have l1 := Nat.lt_of_lt_of_le l1 hb.size; have l2 := Nat.lt_of_lt_of_le l2 hb.size; clear hb; clear k0 k0f k1 k1f k2 k2f k3 k3f k4 k4f k5 k5f k6 k6f; have ⟨k0, k0f⟩ := k.cell_of X1.out (i := 0) rfl; have ⟨k1, k1f⟩ := k.cell_of X1.out (i := 1) rfl; have ⟨k2, k2f⟩ := k.cell_of X1.out (i := 2) rfl; have ⟨k3, k3f⟩ := k.cell_of X1.out (i := 3) rfl; have ⟨k4, k4f⟩ := k.cell_of X1.out (i := 4) rfl; have ⟨k5, k5f⟩ := k.cell_of X1.out (i := 5) rfl; have ⟨k6, k6f⟩ := k.cell_of X1.out (i := 6) rfl; clear z0 z0f z1 z1f; have ⟨z0, z0f⟩ := k.cell_of X2.out (i := 0) rfl; have ⟨z1, z1f⟩ := k.cell_of X2.out (i := 1) rfl)))
  obtain ⟨i1, i2, i3⟩ := k.Box.puts (us := [.slice none 0 0, .slice none 0 0]) X2.out rfl
  exact bodyPost_ret (results_c2 rfl rfl (run_loadVar_mid _ (w.heap.size + 1) 0 31 _ _ i1.range rfl rfl (by kernel_rfl))) rfl ⟨none, 0, 0, none, 0, 0, none, 0, 0, rfl, (HB.out.trans (BC.out.mono HB.out.size)).trans (i3 _ (by omega)), fun h => by cases h⟩
 cases mg
 ·skip
  have HT : Hid (tk = false) := lh (HNO.out fun ht => by have := HTI.out.1 ht; cases this.2.2.2.1)
  rw [HT.out]
  clear HT HTI HNO HYES HPV HMV HRL IP
  have z0f := True.intro
  have ⟨z0, z0f⟩ := k.cell_of X2.out (i := 0) rfl
  have ⟨z1, z1f⟩ := k.cell_of X2.out (i := 1) rfl
  go_enter Tryz.func70, Tryz.ntmps70
  go_upto_region 1 with fail
  rw [show (w.alloc (.cells #[.int .i64 c.id, .int .i64 c.kind, .int .i64 c.tgt, .int .i64 c.spd, .int .i64 c.mode, .int .i64 c.num, .int .i64 c.den] 62)).alloc (.cells #[.slice none 0 0, .slice none 0 0] 31) = w2 from HW2.out]
  go_wp2_with (first | (go_at_call 94; ((with_reducible refine (M1.out _ BC.out).mono ?_); rintro e w5 ⟨rfl, hb⟩; have BC := lh (BC.out.trans (hb.mono BC.out.size)); have X1 := lh (X1.out.below hb l1); have X2 := lh (X2.out.below hb l2); have l1 := Nat.lt_of_lt_of_le l1 hb.size; have l2 := Nat.lt_of_lt_of_le l2 hb.size; clear hb; clear k0 k0f k1 k1f k2 k2f k3 k3f k4 k4f k5 k5f k6 k6f; have ⟨k0, k0f⟩ := k.cell_of X1.out (i := 0) rfl; have ⟨k1, k1f⟩ := k.cell_of X1.out (i := 1) rfl; have ⟨k2, k2f⟩ := k.cell_of X1.out (i := 2) rfl; have ⟨k3, k3f⟩ := k.cell_of X1.out (i := 3) rfl; have ⟨k4, k4f⟩ := k.cell_of X1.out (i := 4) rfl; have ⟨k5, k5f⟩ := k.cell_of X1.out (i := 5) rfl; have ⟨k6, k6f⟩ := k.cell_of X1.out (i := 6) rfl; clear z0 z0f z1 z1f; have ⟨z0, z0f⟩ := k.cell_of X2.out (i := 0) rfl; have ⟨z1, z1f⟩ := k.cell_of X2.out (i := 1) rfl)) | (go_at_call 95; ((with_reducible refine (M2.out _ BC.out).mono ?_); rintro e w5 ⟨rfl, hb⟩; have BC := lh (BC.out.trans (hb.mono BC.out.size)); have X1 := lh (X1.out.below hb l1); have X2 := lh (X2.out.below hb l2); have l1 := Nat.lt_of_lt_of_le l1 hb.size; have l2 := Nat.lt_of_lt_of_le l2 hb.size; clear hb; clear k0 k0f k1 k1f k2 k2f k3 k3f k4 k4f k5 k5f k6 k6f; have ⟨k0, k0f⟩ := k.cell_of X1.out (i := 0) rfl; have ⟨k1, k1f⟩ := k.cell_of X1.out (i := 1) rfl; have ⟨k2, k2f⟩ := k.cell_of X1.out (i := 2) rfl; have ⟨k3, k3f⟩ := k.cell_of X1.out (i := 3) rfl; have ⟨k4, k4f⟩ := k.cell_of X1.out (i := 4) rfl; have ⟨k5, k5f⟩ := k.cell_of X1.out (i := 5) rfl; have ⟨k6, k6f⟩ := k.cell_of X1.out (i := 6) rfl; clear z0 z0f z1 z1f; have ⟨z0, z0f⟩ := k.cell_of X2.out (i := 0) rfl; have ⟨z1, z1f⟩ := k.cell_of X2.out (i := 1) rfl)) | (go_at_call 96; ((with_reducible refine (M3.out _ BC.out).mono ?_); rintro e w5 ⟨rfl, hb⟩; have BC := lh (BC.out.trans (hb.mono BC.out.size)); have X1 := lh (X1.out.below hb l1); have X2 := lh (X2.out.below hb l2); have l1 := Nat.lt_of_lt_of_le l1 hb.size; have l2 := Nat.lt_of_lt_of_le l2 hb.size; clear hb; clear k0 k0f k1 k1f k2 k2f k3 k3f k4 k4f k5 k5f k6 k6f; have ⟨k0, k0f⟩ := k.cell_of X1.out (i := 0) rfl; have ⟨k1, k1f⟩ := k.cell_of X1.out (i := 1) rfl; have ⟨k2, k2f⟩ := k.cell_of X1.out (i := 2) rfl; have ⟨k3, k3f⟩ := k.cell_of X1.out (i := 3) rfl; have ⟨k4, k4f⟩ := k.cell_of X1.out (i := 4) rfl; have ⟨k5, k5f⟩ := k.cell_of X1.out (i := 5) rfl; have ⟨k6, k6f⟩ := k.cell_of X1.out (i := 6) rfl; clear z0 z0f z1 z1f; have ⟨z0, z0f⟩ := k.cell_of X2.out (i := 0) rfl; have ⟨z1, z1f⟩ := k.cell_of X2.out (i := 1) rfl)) | (go_at_call 97; ((with_reducible refine (CM.out _).mono ?_); rintro e w5 ⟨rfl, rfl⟩)) | (go_at_call 98; ((with_reducible refine (PL.out _ BC.out).mono ?_); rintro e w5 ⟨rfl, hb⟩; have BC := lh (BC.out.trans (hb.mono BC.out.size)); have X1 := lh (X1.out.below hb l1); have X2 := lh (X2.out.below hb l2); have l1 := Nat.lt_of_lt_of_le l1 hb.size; have l2 := Nat.lt_of_lt_of_le l2 hb.size; clear hb; clear k0 k0f k1 k1f k2 k2f k3 k3f k4 k4f k5 k5f k6 k6f; have ⟨k0, k0f⟩ := k.cell_of X1.out (i := 0) rfl; have ⟨k1, k1f⟩ := k.cell_of X1.out (i := 1) rfl; have ⟨k2, k2f⟩ := k.cell_of X1.out (i := 2) rfl; have ⟨k3, k3f⟩ := k.cell_of X1.out (i := 3) rfl; have ⟨k4, k4f⟩ := k.cell_of X1.out (i := 4) rfl; have ⟨k5, k5f⟩ := k.cell_of X1.out (i := 5) rfl; have ⟨k6, k6f⟩ := k.cell_of X1.out (i := 6) rfl; clear z0 z0f z1 z1f; have ⟨z0, z0f⟩ := k.cell_of X2.out (i := 0) rfl; have ⟨z1, z1f⟩ := k.cell_of X2.out (i := 1) rfl)) | ((with_reducible refine m_ax_load (H2.out.below BC.out).ax 49 ?_ ?_ ?_ ?_); rfl; rfl; rfl; (try simp only [Act.put])) | (go_at_call 86; ((with_reducible refine (IP.out _).mono ?_); rintro e w5 ⟨rfl, hb⟩; have BC := lh (BC.out.trans (hb.mono BC.out.size)); have X1 := lh (X1.out.below hb l1); have X2 := lh (X2.out.below hb l2); have l1 := Nat.lt_of_lt_of_le l1 hb.size; have l2 := Nat.lt_of_lt_of_le l2 hb.size; clear hb; clear k0 k0f k1 k1f k2 k2f k3 k3f k4 k4f k5 k5f k6 k6f; have ⟨k0, k0f⟩ := k.cell_of X1.out (i := 0) rfl; have ⟨k1, k1f⟩ := k.cell_of X1.out (i := 1) rfl; have ⟨k2, k2f⟩ := k.cell_of X1.out (i := 2) rfl; have ⟨k3, k3f⟩ := k.cell_of X1.out (i := 3) rfl; have ⟨k4, k4f⟩ := k.cell_of X1.out (i := 4) rfl; have ⟨k5, k5f⟩ := k.cell_of X1.out (i := 5) rfl; have ⟨k6, k6f⟩ := k.cell_of X1.out (i := 6) rfl; clear z0 z0f z1 z1f; have ⟨z0, z0f⟩ := k.cell_of X2.out (i := 0) rfl; have ⟨z1, z1f⟩ := k.cell_of X2.out (i := 1) rfl)))
  obtain ⟨i1, i2, i3⟩ := k.Box.puts (us := [.slice none 0 0, .slice none 0 0]) X2.out rfl
  exact bodyPost_ret (results_c2 rfl rfl (run_loadVar_mid _ (w.heap.size + 1) 0 31 _ _ i1.range rfl rfl (by kernel_rfl))) rfl ⟨none, 0, 0, none, 0, 0, none, 0, 0, rfl, (HB.out.trans (BC.out.mono HB.out.size)).trans (i3 _ (by omega)), fun h => by cases h⟩
 cases mv
 ·skip
  have HPP : Hid ((1 ≤ c.kind ∧ c.kind ≤ 3) → pb = true ∧ ib = true) := lh fun h => absurd h (of_decide_eq_false HMV.out)
  have HLC : Hid (landedC a c = c) := lh (if_neg (of_decide_eq_false HMV.out))
  have HCV : Hid (ln.cV (landedC a c) = .agg #[.int .i64 c.id, .int .i64 c.kind, .int .i64 c.tgt, .int .i64 c.spd, .int .i64 c.mode, .int .i64 c.num, .int .i64 c.den]) := lh (by rw [HLC.out]; rfl)
  clear IP HPV HMV
  go_enter Tryz.func70, Tryz.ntmps70
  go_upto_region 1 with fail
  rw [show (w.alloc (.cells #[.int .i64 c.id, .int .i64 c.kind, .int .i64 c.tgt, .int .i64 c.spd, .int .i64 c.mode, .int .i64 c.num, .int .i64 c.den] 62)).alloc (.cells #[.slice none 0 0, .slice none 0 0] 31) = w2 from HW2.out]
  go_upto_region 8 with (first | (go_at_call 94; ((with_reducible refine (M1.out _ BC.out).mono ?_); rintro e w5 ⟨rfl, hb⟩; have BC := lh (BC.out.trans (hb.mono BC.out.size)); have X1 := lh (X1.out.below hb l1); have X2 := lh (X2.out.below hb l2); have l1 := Nat.lt_of_lt_of_le l1 hb.size; have l2 := Nat.lt_of_lt_of_le l2 hb.size; clear hb; clear k0 k0f k1 k1f k2 k2f k3 k3f k4 k4f k5 k5f k6 k6f; have ⟨k0, k0f⟩ := k.cell_of X1.out (i := 0) rfl; have ⟨k1, k1f⟩ := k.cell_of X1.out (i := 1) rfl; have ⟨k2, k2f⟩ := k.cell_of X1.out (i := 2) rfl; have ⟨k3, k3f⟩ := k.cell_of X1.out (i := 3) rfl; have ⟨k4, k4f⟩ := k.cell_of X1.out (i := 4) rfl; have ⟨k5, k5f⟩ := k.cell_of X1.out (i := 5) rfl; have ⟨k6, k6f⟩ := k.cell_of X1.out (i := 6) rfl)) | (go_at_call 95; ((with_reducible refine (M2.out _ BC.out).mono ?_); rintro e w5 ⟨rfl, hb⟩; have BC := lh (BC.out.trans (hb.mono BC.out.size)); have X1 := lh (X1.out.below hb l1); have X2 := lh (X2.out.below hb l2); have l1 := Nat.lt_of_lt_of_le l1 hb.size; have l2 := Nat.lt_of_lt_of_le l2 hb.size; clear hb; clear k0 k0f k1 k1f k2 k2f k3 k3f k4 k4f k5 k5f k6 k6f; have ⟨k0, k0f⟩ := k.cell_of X1.out (i := 0) rfl; have ⟨k1, k1f⟩ := k.cell_of X1.out (i := 1) rfl; have ⟨k2, k2f⟩ := k.cell_of X1.out (i := 2) rfl; have ⟨k3, k3f⟩ := k.cell_of X1.out (i := 3) rfl; have ⟨k4, k4f⟩ := k.cell_of X1.out (i := 4) rfl; have ⟨k5, k5f⟩ := k.cell_of X1.out (i := 5) rfl; have ⟨k6, k6f⟩ := k.cell_of X1.out (i := 6) rfl)) | (go_at_call 96; ((with_reducible refine (M3.out _ BC.out).mono ?_); rintro e w5 ⟨rfl, hb⟩; have BC := lh (BC.out.trans (hb.mono BC.out.size)); have X1 := lh (X1.out.below hb l1); have X2 := lh (X2.out.below hb l2); have l1 := Nat.lt_of_lt_of_le l1 hb.size; have l2 := Nat.lt_of_lt_of_le l2 hb.size; clear hb; clear k0 k0f k1 k1f k2 k2f k3 k3f k4 k4f k5 k5f k6 k6f; have ⟨k0, k0f⟩ := k.cell_of X1.out (i := 0) rfl; have ⟨k1, k1f⟩ := k.cell_of X1.out (i := 1) rfl; have ⟨k2, k2f⟩ := k.cell_of X1.out (i := 2) rfl; have ⟨k3, k3f⟩ := k.cell_of X1.out (i := 3) rfl; have ⟨k4, k4f⟩ := k.cell_of X1.out (i := 4) rfl; have ⟨k5, k5f⟩ := k.cell_of X1.out (i := 5) rfl; have ⟨k6, k6f⟩ := k.cell_of X1.out (i := 6) rfl)) | (go_at_call 97; ((with_reducible refine (CM.out _).mono ?_); rintro e w5 ⟨rfl, rfl⟩)) | (go_at_call 98; ((with_reducible refine (PL.out _ BC.out).mono ?_); rintro e w5 ⟨rfl, hb⟩; have BC := lh (BC.out.trans (hb.mono BC.out.size)); have X1 := lh (X1.out.below hb l1); have X2 := lh (X2.out.below hb l2); have l1 := Nat.lt_of_lt_of_le l1 hb.size; have l2 := Nat.lt_of_lt_of_le l2 hb.size; clear hb; clear k0 k0f k1 k1f k2 k2f k3 k3f k4 k4f k5 k5f k6 k6f; have ⟨k0, k0f⟩ := k.cell_of X1.out (i := 0) rfl; have ⟨k1, k1f⟩ := k.cell_of X1.out (i := 1) rfl; have ⟨k2, k2f⟩ := k.cell_of X1.out (i := 2) rfl; have ⟨k3, k3f⟩ := k.cell_of X1.out (i := 3) rfl; have ⟨k4, k4f⟩ := k.cell_of X1.out (i := 4) rfl; have ⟨k5, k5f⟩ := k.cell_of X1.out (i := 5) rfl; have ⟨k6, k6f⟩ := k.cell_of X1.out (i := 6) rfl)) | ((with_reducible refine m_ax_load (H2.out.below BC.out).ax 49 ?_ ?_ ?_ ?_); rfl; rfl; rfl; (try simp only [Act.put])) | (go_at_call 86; ((with_reducible refine (IP.out _).mono ?_); rintro e w5 ⟨rfl, hb⟩; have BC := lh (BC.out.trans (hb.mono BC.out.size)); have X1 := lh (X1.out.below hb l1); have X2 := lh (X2.out.below hb l2); have l1 := Nat.lt_of_lt_of_le l1 hb.size; have l2 := Nat.lt_of_lt_of_le l2 hb.size; clear hb; clear k0 k0f k1 k1f k2 k2f k3 k3f k4 k4f k5 k5f k6 k6f; have ⟨k0, k0f⟩ := k.cell_of X1.out (i := 0) rfl; have ⟨k1, k1f⟩ := k.cell_of X1.out (i := 1) rfl; have ⟨k2, k2f⟩ := k.cell_of X1.out (i := 2) rfl; have ⟨k3, k3f⟩ := k.cell_of X1.out (i := 3) rfl; have ⟨k4, k4f⟩ := k.cell_of X1.out (i := 4) rfl; have ⟨k5, k5f⟩ := k.cell_of X1.out (i := 5) rfl; have ⟨k6, k6f⟩ := k.cell_of X1.out (i := 6) rfl)))
  have H8 := lh (H2.out.below BC.out)
  clear M1 M2 M3 PL CM d39 d39f
  have ⟨d14, d14f⟩ := k.cell_of H8.out.box (i := 14) rfl
  have ⟨d15, d15f⟩ := k.cell_of H8.out.box (i := 15) rfl
  have hl8 := H8.out.lt
  have CA := lh fun (V : World) (hb : Below w5.heap.size w5 V) => ln.add_own a.N a.W (landedC a c) (H8.out.below hb).rows.N (H8.out.below hb).rows.W (Nat.le_refl _) (short_n H8.out.rows.N (by have := HRL.out.2.1; omega)) (short_n H8.out.rows.W (by have := HRL.out.2.2.1; omega))
  obtain ⟨ae, hae⟩ : ∃ z, ln.addE a.N a.W (landedC a c) = z := ⟨_, rfl⟩
  have HAE := lh hae
  rw [hae] at CA
  rw [HCV.out] at CA
  clear hae
  have HTK : Hid (decide (ae = 0) = tk) := lh (by
    by_cases h0 : ae = 0
    ·rw [decide_eq_true h0]; exact (HYES.out (HTI.out.2 (by have hq := HPP.out; have he := HAE.out.trans h0; refine ⟨?_, ?_, ?_, ?_, ?_, he⟩ <;> first | trivial | exact hq | (intro _; trivial) | simp))).symm
    ·rw [decide_eq_false h0]; exact (HNO.out fun ht => h0 (HAE.out.symm.trans (HTI.out.1 ht).2.2.2.2.2)).symm)
  clear HTI HNO HYES HPP HAE HLC HCV
  go_upto_region 8 with fail
  refine wp_region_T (by kernel_rfl) (fun w' => Below w5.heap.size w5 w') [] (Below.refl _ _).drew (fun hHeld => ?_)
  refine tk0 0 rfl ?_ ?_ ?_
  rotate_left
  ·intro; go_simp <;> with_reducible rfl
  try simp only [Act.put, p1, p2, p3, p4, p6]
  refine tk0 1 rfl ?_ ?_ ?_
  rotate_left
  ·intro; go_simp <;> with_reducible rfl
  try simp only [Act.put, p1, p2, p3, p4, p5, p6]
  refine tk0 2 rfl ?_ ?_ ?_
  rotate_left
  ·intro; go_simp <;> with_reducible rfl
  try simp only [Act.put, p1, p2, p3, p4, p5, p6]
  refine tk0 3 rfl ?_ ?_ ?_
  rotate_left
  ·intro; go_simp <;> with_reducible rfl
  try simp only [Act.put, p1, p2, p3, p4, p5, p6]
  refine k.tk 4 rfl ?_ ?_ ?_
  rotate_left
  ·intro w_ hSw; have q0 := (hSw.cell (p := ⟨g, 14, none⟩) hl8).trans d14; have q1 := (hSw.cell (p := ⟨g, 15, none⟩) hl8).trans d15; clear hSw; go_simp <;> (with_reducible rfl)
  try simp only [Act.put, p1, p2, p3, p4, p5, p6]
  refine k.tk 5 rfl ?_ ?_ ?_
  rotate_left
  ·intro w_ hSw; have q0 := (hSw.cell (p := ⟨w.heap.size, 0, none⟩) l1).trans k0; have q1 := (hSw.cell (p := ⟨w.heap.size, 1, none⟩) l1).trans k1; have q2 := (hSw.cell (p := ⟨w.heap.size, 2, none⟩) l1).trans k2; have q3 := (hSw.cell (p := ⟨w.heap.size, 3, none⟩) l1).trans k3; have q4 := (hSw.cell (p := ⟨w.heap.size, 4, none⟩) l1).trans k4; have q5 := (hSw.cell (p := ⟨w.heap.size, 5, none⟩) l1).trans k5; have q6 := (hSw.cell (p := ⟨w.heap.size, 6, none⟩) l1).trans k6; clear hSw; go_simp <;> (with_reducible rfl)
  try simp only [Act.put, p1, p2, p3, p4, p5, p6]
  refine ry [6, 11] ?_
  refine AllReadyT.cons rfl (fun K hK => ?_) (AllReadyT.cons rfl (fun K hK => ?_) AllReadyT.nil)
  ·go_simp
   (go_at_call 99; ((with_reducible refine (CA.out _ (Below.refl _ _).drew).mono ?_); rintro e w9 ⟨A, n, cc, A', m, cc', D, q, d, rfl, hn, hw, hi, hb0, n1, n2, n3⟩))
   go_wp2_with fail
   have hb9 := ((Below.refl w5.heap.size w5).drew).trans hb0
   refine hK.out _ _ hb9 (fun hHeld => ?_)
   clear hK K
   try simp only [Act.put, p1, p2, p3, p4, p5, p6]
   have RN := lh hn
   have RW := lh hw
   have RI := lh hi
   have NN : Hid (ln.New w5 A ∧ ln.New w5 A' ∧ ln.New w5 D) := lh ⟨n1, n2, n3⟩
   clear hn hw hi n1 n2 n3 hb0
   refine tk0 7 rfl ?_ ?_ ?_
   rotate_left
   ·intro; go_simp <;> with_reducible rfl
   try simp only [Act.put, p1, p2, p3, p4, p5, p6]
   refine tk0 8 rfl ?_ ?_ ?_
   rotate_left
   ·intro; go_simp <;> with_reducible rfl
   try simp only [Act.put, p1, p2, p3, p4, p5, p6]
   refine tk0 9 rfl ?_ ?_ ?_
   rotate_left
   ·intro; go_simp <;> with_reducible rfl
   try simp only [Act.put, p1, p2, p3, p4, p5, p6]
   refine tk0 10 rfl ?_ ?_ ?_
   rotate_left
   ·intro; go_simp <;> with_reducible rfl
   try simp only [Act.put, p1, p2, p3, p4, p5, p6]
   refine ry [11] ?_
   refine ar1 rfl fun K hK => ?_
   go_simp
   go_wp2_with fail
   have hb10 := hb9.alloc hb9.size (.cells #[.slice none 0 0, .slice none 0 0] 31)
   refine hK.out _ _ hb10 (fun hHeld => ?_)
   clear hK K
   try simp only [Act.put, p1, p2, p3, p4, p5, p6]
   refine ry [12] ?_
   refine ar1 rfl fun K hK => ?_
   go_simp
   go_wp2_with fail
   refine hK.out _ _ (by first | exact hb9.alloc hb9.size _ | exact (hb10.setCell hb9.size _).setCell hb9.size _) (fun hHeld => ?_)
   clear hK K
   try simp only [Act.put, p1, p2, p3, p4, p5, p6]
   refine tk0 13 rfl ?_ ?_ ?_
   rotate_left
   ·intro; go_simp <;> with_reducible rfl
   try simp only [Act.put, p1, p2, p3, p4, p5, p6]
   refine tk0 14 rfl ?_ ?_ ?_
   rotate_left
   ·intro; go_simp <;> with_reducible rfl
   try simp only [Act.put, p1, p2, p3, p4, p5, p6]
   refine wpAnyT_done (by kernel_rfl) ?_ _
   have X2 := lh (X2.out.below hb9 l2)
   have l2 := Nat.lt_of_lt_of_le l2 hb9.size
   have ⟨z0, z0f⟩ := k.cell_of X2.out (i := 0) rfl
   have ⟨z1, z1f⟩ := k.cell_of X2.out (i := 1) rfl
   clear d14 d14f d15 d15f
   go_wp2
   obtain ⟨i1, i2, i3⟩ := k.Box.puts (us := [.slice A n cc, .slice A' m cc']) X2.out rfl
   have ho := Only.puts [.slice A n cc, .slice A' m cc'] 0 (Only.refl (w.heap.size + 1) w9)
   have hwA := (Below.refl (k.puts w9 (w.heap.size + 1) 0 [.slice A n cc, .slice A' m cc']).heap.size (k.puts w9 (w.heap.size + 1) 0 [.slice A n cc, .slice A' m cc'])).alloc (Nat.le_refl _) (.cells #[.slice A n cc, .slice A' m cc'] 31)
   have i1 := i1.below hwA (by rw [ho.size]; exact l2)
   have hOff : ∀ {B : Option Addr} {x y : Nat}, ln.New w5 B → Off (w.heap.size + 1) ⟨B, x, y⟩ := fun h => off_newer h (by assumption)
   have hN2 : ∀ {B : Option Addr}, ln.New w5 B → ln.New w B := fun h b o x e => by have := h b o x e; omega
   skip
   exact bodyPost_ret (results_c2 rfl rfl (run_loadVar_mid _ (w.heap.size + 1) 0 31 _ _ i1.range rfl rfl (by kernel_rfl))) rfl ⟨A, n, cc, A', m, cc', D, q, d, by rw [← HTK.out]; rfl, ((HB.out.trans (BC.out.mono HB.out.size)).trans (hb9.mono (by omega))).trans ((ho.below (by omega)).trans (hwA.mono (by rw [ho.size]; omega))), fun _ => ⟨rd_past (rd_only RN.out ho (hOff NN.out.1)) hwA, rd_past (rd_only RW.out ho (hOff NN.out.2.1)) hwA, rd_past (rd_only RI.out ho (hOff NN.out.2.2)) hwA, hN2 NN.out.1, hN2 NN.out.2.1, hN2 NN.out.2.2⟩⟩
  ·go_simp
   go_wp2_with fail
   have hbB := ((Below.refl w5.heap.size w5).alloc (Nat.le_refl _) (.cells #[.slice none 0 0, .slice none 0 0] 31)).drew
   refine hK.out _ _ hbB (fun hHeld => ?_)
   clear hK K
   try simp only [Act.put, p1, p2, p3, p4, p5, p6]
   refine ry [6] ?_
   refine ar1 rfl fun K hK => ?_
   go_simp
   (go_at_call 99; ((with_reducible refine (CA.out _ hbB).mono ?_); rintro e w9 ⟨A, n, cc, A', m, cc', D, q, d, rfl, hn, hw, hi, hb0, n1, n2, n3⟩))
   go_wp2_with fail
   obtain ⟨y1, y2, y3⟩ := k.boxes1 (w := w5) (c1 := #[.slice none 0 0, .slice none 0 0]) (t1 := 31) (((Below.refl _ _).drew).trans hb0)
   have hb9 : Below w5.heap.size w5 w9 := y2
   have X9 : Hid (k.Box w9 w5.heap.size 0 [.slice none 0 0, .slice none 0 0]) := lh y1
   refine hK.out _ _ hb9 (fun hHeld => ?_)
   clear hK K
   try simp only [Act.put, p1, p2, p3, p4, p5, p6]
   have lv : w5.heap.size < w9.heap.size := y3
   have RN := lh hn
   have RW := lh hw
   have RI := lh hi
   have NN : Hid ((ln.New w5 A ∧ ln.New w5 A' ∧ ln.New w5 D) ∧ Off w5.heap.size ⟨A, n, cc⟩ ∧ Off w5.heap.size ⟨A', m, cc'⟩ ∧ Off w5.heap.size ⟨D, q, d⟩) := lh (by
    have ls : w5.heap.size < ((w5).alloc (.cells #[.slice none 0 0, .slice none 0 0] 31)).drew.heap.size := by simp [World.drew]
    exact ⟨⟨fun b o x e => by have := n1 b o x e; omega, fun b o x e => by have := n2 b o x e; omega, fun b o x e => by have := n3 b o x e; omega⟩, off_newer n1 ls, off_newer n2 ls, off_newer n3 ls⟩)
   clear hn hw hi n1 n2 n3 hb0 y1 y2 y3
   refine tk0 7 rfl ?_ ?_ ?_
   rotate_left
   ·intro; go_simp <;> with_reducible rfl
   try simp only [Act.put, p1, p2, p3, p4, p5, p6]
   refine tk0 8 rfl ?_ ?_ ?_
   rotate_left
   ·intro; go_simp <;> with_reducible rfl
   try simp only [Act.put, p1, p2, p3, p4, p5, p6]
   refine tk0 9 rfl ?_ ?_ ?_
   rotate_left
   ·intro; go_simp <;> with_reducible rfl
   try simp only [Act.put, p1, p2, p3, p4, p5, p6]
   refine tk0 10 rfl ?_ ?_ ?_
   rotate_left
   ·intro; go_simp <;> with_reducible rfl
   try simp only [Act.put, p1, p2, p3, p4, p5, p6]
   have ⟨v0, v0f⟩ := k.cell_of X9.out (i := 0) rfl
   have ⟨v1, v1f⟩ := k.cell_of X9.out (i := 1) rfl
   refine ry [12] ?_
   refine ar1 rfl fun K hK => ?_
   go_simp
   go_wp2_with fail
   refine hK.out _ _ ((hb9.setCell (Nat.le_refl _) _).setCell (Nat.le_refl _) _) (fun hHeld => ?_)
   clear hK K
   try simp only [Act.put, p1, p2, p3, p4, p5, p6]
   refine tk0 13 rfl ?_ ?_ ?_
   rotate_left
   ·intro; go_simp <;> with_reducible rfl
   try simp only [Act.put, p1, p2, p3, p4, p5, p6]
   refine tk0 14 rfl ?_ ?_ ?_
   rotate_left
   ·intro; go_simp <;> with_reducible rfl
   try simp only [Act.put, p1, p2, p3, p4, p5, p6]
   refine wpAnyT_done (by kernel_rfl) ?_ _
   clear v0 v0f v1 v1f
   have yb : k.Box ((w9.setCell ⟨w5.heap.size, 0, none⟩ (.slice A n cc)).setCell ⟨w5.heap.size, 1, none⟩ (.slice A' m cc')) w5.heap.size 0 [.slice A n cc, .slice A' m cc'] := k.Box.put (k.Box.put X9.out 0 (by simp) _) 1 (by simp) _
   have ho := ((Only.refl w5.heap.size w9).set 0 (.slice A n cc)).set 1 (.slice A' m cc')
   have X2 := lh (only_box ho (show w.heap.size + 1 ≠ w5.heap.size by omega) (X2.out.below hb9 l2))
   generalize ((w9.setCell ⟨w5.heap.size, 0, none⟩ (.slice A n cc)).setCell ⟨w5.heap.size, 1, none⟩ (.slice A' m cc')) = w10 at yb ho X2 ⊢
   have l2' : w.heap.size + 1 < w10.heap.size := by rw [ho.size]; exact Nat.lt_of_lt_of_le l2 hb9.size
   have RN := lh (rd_only RN.out ho NN.out.2.1)
   have RW := lh (rd_only RW.out ho NN.out.2.2.1)
   have RI := lh (rd_only RI.out ho NN.out.2.2.2)
   have HB10 := lh (((HB.out.trans (BC.out.mono HB.out.size)).trans (hb9.mono (by omega))).trans (ho.below (by omega)))
   have XB := lh yb
   have lne : w5.heap.size ≠ w.heap.size + 1 := by omega
   clear yb ho hb9 hbB hHeld d14 d14f d15 d15f
   have ⟨z0, z0f⟩ := k.cell_of X2.out (i := 0) rfl
   have ⟨z1, z1f⟩ := k.cell_of X2.out (i := 1) rfl
   have ⟨v0, v0f⟩ := k.cell_of XB.out (i := 0) rfl
   have ⟨v1, v1f⟩ := k.cell_of XB.out (i := 1) rfl
   go_wp2
   obtain ⟨i1, i2, i3⟩ := k.Box.puts (us := [.slice A n cc, .slice A' m cc']) X2.out rfl
   have ho := Only.puts [.slice A n cc, .slice A' m cc'] 0 (Only.refl (w.heap.size + 1) w10)
   have hOff : ∀ {B : Option Addr} {x y : Nat}, ln.New w5 B → Off (w.heap.size + 1) ⟨B, x, y⟩ := fun h => off_newer h (by assumption)
   have hN2 : ∀ {B : Option Addr}, ln.New w5 B → ln.New w B := fun h b o x e => by have := h b o x e; omega
   exact bodyPost_ret (results_c2 rfl rfl (run_loadVar_mid _ (w.heap.size + 1) 0 31 _ _ i1.range rfl rfl (by kernel_rfl))) rfl ⟨A, n, cc, A', m, cc', D, q, d, by rw [← HTK.out]; rfl, HB10.out.trans (ho.below (by omega)), fun _ => ⟨rd_only RN.out ho (hOff NN.out.1.1), rd_only RW.out ho (hOff NN.out.1.2.1), rd_only RI.out ho (hOff NN.out.1.2.2), hN2 NN.out.1.1, hN2 NN.out.1.2.1, hN2 NN.out.1.2.2⟩⟩
 ·have hk3 := of_decide_eq_true HMV.out
  cases pb
  ·skip
   have HT : Hid (tk = false) := lh (HNO.out fun ht => by have := (HTI.out.1 ht).2.2.2.2.1 (of_decide_eq_true HMV.out); cases this.1)
   rw [HT.out]
   clear HT HTI HNO HYES HPV HMV HRL IP
   have z0f := True.intro
   have ⟨z0, z0f⟩ := k.cell_of X2.out (i := 0) rfl
   have ⟨z1, z1f⟩ := k.cell_of X2.out (i := 1) rfl
   go_enter Tryz.func70, Tryz.ntmps70
   go_upto_region 1 with fail
   rw [show (w.alloc (.cells #[.int .i64 c.id, .int .i64 c.kind, .int .i64 c.tgt, .int .i64 c.spd, .int .i64 c.mode, .int .i64 c.num, .int .i64 c.den] 62)).alloc (.cells #[.slice none 0 0, .slice none 0 0] 31) = w2 from HW2.out]
   go_wp2_with (first | (go_at_call 94; ((with_reducible refine (M1.out _ BC.out).mono ?_); rintro e w5 ⟨rfl, hb⟩; have BC := lh (BC.out.trans (hb.mono BC.out.size)); have X1 := lh (X1.out.below hb l1); have X2 := lh (X2.out.below hb l2); have l1 := Nat.lt_of_lt_of_le l1 hb.size; have l2 := Nat.lt_of_lt_of_le l2 hb.size; clear hb; clear k0 k0f k1 k1f k2 k2f k3 k3f k4 k4f k5 k5f k6 k6f; have ⟨k0, k0f⟩ := k.cell_of X1.out (i := 0) rfl; have ⟨k1, k1f⟩ := k.cell_of X1.out (i := 1) rfl; have ⟨k2, k2f⟩ := k.cell_of X1.out (i := 2) rfl; have ⟨k3, k3f⟩ := k.cell_of X1.out (i := 3) rfl; have ⟨k4, k4f⟩ := k.cell_of X1.out (i := 4) rfl; have ⟨k5, k5f⟩ := k.cell_of X1.out (i := 5) rfl; have ⟨k6, k6f⟩ := k.cell_of X1.out (i := 6) rfl; clear z0 z0f z1 z1f; have ⟨z0, z0f⟩ := k.cell_of X2.out (i := 0) rfl; have ⟨z1, z1f⟩ := k.cell_of X2.out (i := 1) rfl)) | (go_at_call 95; ((with_reducible refine (M2.out _ BC.out).mono ?_); rintro e w5 ⟨rfl, hb⟩; have BC := lh (BC.out.trans (hb.mono BC.out.size)); have X1 := lh (X1.out.below hb l1); have X2 := lh (X2.out.below hb l2); have l1 := Nat.lt_of_lt_of_le l1 hb.size; have l2 := Nat.lt_of_lt_of_le l2 hb.size; clear hb; clear k0 k0f k1 k1f k2 k2f k3 k3f k4 k4f k5 k5f k6 k6f; have ⟨k0, k0f⟩ := k.cell_of X1.out (i := 0) rfl; have ⟨k1, k1f⟩ := k.cell_of X1.out (i := 1) rfl; have ⟨k2, k2f⟩ := k.cell_of X1.out (i := 2) rfl; have ⟨k3, k3f⟩ := k.cell_of X1.out (i := 3) rfl; have ⟨k4, k4f⟩ := k.cell_of X1.out (i := 4) rfl; have ⟨k5, k5f⟩ := k.cell_of X1.out (i := 5) rfl; have ⟨k6, k6f⟩ := k.cell_of X1.out (i := 6) rfl; clear z0 z0f z1 z1f; have ⟨z0, z0f⟩ := k.cell_of X2.out (i := 0) rfl; have ⟨z1, z1f⟩ := k.cell_of X2.out (i := 1) rfl)) | (go_at_call 96; ((with_reducible refine (M3.out _ BC.out).mono ?_); rintro e w5 ⟨rfl, hb⟩; have BC := lh (BC.out.trans (hb.mono BC.out.size)); have X1 := lh (X1.out.below hb l1); have X2 := lh (X2.out.below hb l2); have l1 := Nat.lt_of_lt_of_le l1 hb.size; have l2 := Nat.lt_of_lt_of_le l2 hb.size; clear hb; clear k0 k0f k1 k1f k2 k2f k3 k3f k4 k4f k5 k5f k6 k6f; have ⟨k0, k0f⟩ := k.cell_of X1.out (i := 0) rfl; have ⟨k1, k1f⟩ := k.cell_of X1.out (i := 1) rfl; have ⟨k2, k2f⟩ := k.cell_of X1.out (i := 2) rfl; have ⟨k3, k3f⟩ := k.cell_of X1.out (i := 3) rfl; have ⟨k4, k4f⟩ := k.cell_of X1.out (i := 4) rfl; have ⟨k5, k5f⟩ := k.cell_of X1.out (i := 5) rfl; have ⟨k6, k6f⟩ := k.cell_of X1.out (i := 6) rfl; clear z0 z0f z1 z1f; have ⟨z0, z0f⟩ := k.cell_of X2.out (i := 0) rfl; have ⟨z1, z1f⟩ := k.cell_of X2.out (i := 1) rfl)) | (go_at_call 97; ((with_reducible refine (CM.out _).mono ?_); rintro e w5 ⟨rfl, rfl⟩)) | (go_at_call 98; ((with_reducible refine (PL.out _ BC.out).mono ?_); rintro e w5 ⟨rfl, hb⟩; have BC := lh (BC.out.trans (hb.mono BC.out.size)); have X1 := lh (X1.out.below hb l1); have X2 := lh (X2.out.below hb l2); have l1 := Nat.lt_of_lt_of_le l1 hb.size; have l2 := Nat.lt_of_lt_of_le l2 hb.size; clear hb; clear k0 k0f k1 k1f k2 k2f k3 k3f k4 k4f k5 k5f k6 k6f; have ⟨k0, k0f⟩ := k.cell_of X1.out (i := 0) rfl; have ⟨k1, k1f⟩ := k.cell_of X1.out (i := 1) rfl; have ⟨k2, k2f⟩ := k.cell_of X1.out (i := 2) rfl; have ⟨k3, k3f⟩ := k.cell_of X1.out (i := 3) rfl; have ⟨k4, k4f⟩ := k.cell_of X1.out (i := 4) rfl; have ⟨k5, k5f⟩ := k.cell_of X1.out (i := 5) rfl; have ⟨k6, k6f⟩ := k.cell_of X1.out (i := 6) rfl; clear z0 z0f z1 z1f; have ⟨z0, z0f⟩ := k.cell_of X2.out (i := 0) rfl; have ⟨z1, z1f⟩ := k.cell_of X2.out (i := 1) rfl)) | ((with_reducible refine m_ax_load (H2.out.below BC.out).ax 49 ?_ ?_ ?_ ?_); rfl; rfl; rfl; (try simp only [Act.put])) | (go_at_call 86; ((with_reducible refine (IP.out _).mono ?_); rintro e w5 ⟨rfl, hb⟩; have BC := lh (BC.out.trans (hb.mono BC.out.size)); have X1 := lh (X1.out.below hb l1); have X2 := lh (X2.out.below hb l2); have l1 := Nat.lt_of_lt_of_le l1 hb.size; have l2 := Nat.lt_of_lt_of_le l2 hb.size; clear hb; clear k0 k0f k1 k1f k2 k2f k3 k3f k4 k4f k5 k5f k6 k6f; have ⟨k0, k0f⟩ := k.cell_of X1.out (i := 0) rfl; have ⟨k1, k1f⟩ := k.cell_of X1.out (i := 1) rfl; have ⟨k2, k2f⟩ := k.cell_of X1.out (i := 2) rfl; have ⟨k3, k3f⟩ := k.cell_of X1.out (i := 3) rfl; have ⟨k4, k4f⟩ := k.cell_of X1.out (i := 4) rfl; have ⟨k5, k5f⟩ := k.cell_of X1.out (i := 5) rfl; have ⟨k6, k6f⟩ := k.cell_of X1.out (i := 6) rfl; clear z0 z0f z1 z1f; have ⟨z0, z0f⟩ := k.cell_of X2.out (i := 0) rfl; have ⟨z1, z1f⟩ := k.cell_of X2.out (i := 1) rfl)))
   obtain ⟨i1, i2, i3⟩ := k.Box.puts (us := [.slice none 0 0, .slice none 0 0]) X2.out rfl
   exact bodyPost_ret (results_c2 rfl rfl (run_loadVar_mid _ (w.heap.size + 1) 0 31 _ _ i1.range rfl rfl (by kernel_rfl))) rfl ⟨none, 0, 0, none, 0, 0, none, 0, 0, rfl, (HB.out.trans (BC.out.mono HB.out.size)).trans (i3 _ (by omega)), fun h => by cases h⟩
  ·cases ib
   ·skip
    have HT : Hid (tk = false) := lh (HNO.out fun ht => by have := (HTI.out.1 ht).2.2.2.2.1 (of_decide_eq_true HMV.out); cases this.2)
    rw [HT.out]
    clear HT HTI HNO HYES HPV HMV HRL
    have ⟨z0, z0f⟩ := k.cell_of X2.out (i := 0) rfl
    have ⟨z1, z1f⟩ := k.cell_of X2.out (i := 1) rfl
    go_enter Tryz.func70, Tryz.ntmps70
    go_upto_region 1 with fail
    rw [show (w.alloc (.cells #[.int .i64 c.id, .int .i64 c.kind, .int .i64 c.tgt, .int .i64 c.spd, .int .i64 c.mode, .int .i64 c.num, .int .i64 c.den] 62)).alloc (.cells #[.slice none 0 0, .slice none 0 0] 31) = w2 from HW2.out]
    go_wp2_with (first | (go_at_call 94; ((with_reducible refine (M1.out _ BC.out).mono ?_); rintro e w5 ⟨rfl, hb⟩; have BC := lh (BC.out.trans (hb.mono BC.out.size)); have X1 := lh (X1.out.below hb l1); have X2 := lh (X2.out.below hb l2); have l1 := Nat.lt_of_lt_of_le l1 hb.size; have l2 := Nat.lt_of_lt_of_le l2 hb.size; clear hb; clear k0 k0f k1 k1f k2 k2f k3 k3f k4 k4f k5 k5f k6 k6f; have ⟨k0, k0f⟩ := k.cell_of X1.out (i := 0) rfl; have ⟨k1, k1f⟩ := k.cell_of X1.out (i := 1) rfl; have ⟨k2, k2f⟩ := k.cell_of X1.out (i := 2) rfl; have ⟨k3, k3f⟩ := k.cell_of X1.out (i := 3) rfl; have ⟨k4, k4f⟩ := k.cell_of X1.out (i := 4) rfl; have ⟨k5, k5f⟩ := k.cell_of X1.out (i := 5) rfl; have ⟨k6, k6f⟩ := k.cell_of X1.out (i := 6) rfl; clear z0 z0f z1 z1f; have ⟨z0, z0f⟩ := k.cell_of X2.out (i := 0) rfl; have ⟨z1, z1f⟩ := k.cell_of X2.out (i := 1) rfl)) | (go_at_call 95; ((with_reducible refine (M2.out _ BC.out).mono ?_); rintro e w5 ⟨rfl, hb⟩; have BC := lh (BC.out.trans (hb.mono BC.out.size)); have X1 := lh (X1.out.below hb l1); have X2 := lh (X2.out.below hb l2); have l1 := Nat.lt_of_lt_of_le l1 hb.size; have l2 := Nat.lt_of_lt_of_le l2 hb.size; clear hb; clear k0 k0f k1 k1f k2 k2f k3 k3f k4 k4f k5 k5f k6 k6f; have ⟨k0, k0f⟩ := k.cell_of X1.out (i := 0) rfl; have ⟨k1, k1f⟩ := k.cell_of X1.out (i := 1) rfl; have ⟨k2, k2f⟩ := k.cell_of X1.out (i := 2) rfl; have ⟨k3, k3f⟩ := k.cell_of X1.out (i := 3) rfl; have ⟨k4, k4f⟩ := k.cell_of X1.out (i := 4) rfl; have ⟨k5, k5f⟩ := k.cell_of X1.out (i := 5) rfl; have ⟨k6, k6f⟩ := k.cell_of X1.out (i := 6) rfl; clear z0 z0f z1 z1f; have ⟨z0, z0f⟩ := k.cell_of X2.out (i := 0) rfl; have ⟨z1, z1f⟩ := k.cell_of X2.out (i := 1) rfl)) | (go_at_call 96; ((with_reducible refine (M3.out _ BC.out).mono ?_); rintro e w5 ⟨rfl, hb⟩; have BC := lh (BC.out.trans (hb.mono BC.out.size)); have X1 := lh (X1.out.below hb l1); have X2 := lh (X2.out.below hb l2); have l1 := Nat.lt_of_lt_of_le l1 hb.size; have l2 := Nat.lt_of_lt_of_le l2 hb.size; clear hb; clear k0 k0f k1 k1f k2 k2f k3 k3f k4 k4f k5 k5f k6 k6f; have ⟨k0, k0f⟩ := k.cell_of X1.out (i := 0) rfl; have ⟨k1, k1f⟩ := k.cell_of X1.out (i := 1) rfl; have ⟨k2, k2f⟩ := k.cell_of X1.out (i := 2) rfl; have ⟨k3, k3f⟩ := k.cell_of X1.out (i := 3) rfl; have ⟨k4, k4f⟩ := k.cell_of X1.out (i := 4) rfl; have ⟨k5, k5f⟩ := k.cell_of X1.out (i := 5) rfl; have ⟨k6, k6f⟩ := k.cell_of X1.out (i := 6) rfl; clear z0 z0f z1 z1f; have ⟨z0, z0f⟩ := k.cell_of X2.out (i := 0) rfl; have ⟨z1, z1f⟩ := k.cell_of X2.out (i := 1) rfl)) | (go_at_call 97; ((with_reducible refine (CM.out _).mono ?_); rintro e w5 ⟨rfl, rfl⟩)) | (go_at_call 98; ((with_reducible refine (PL.out _ BC.out).mono ?_); rintro e w5 ⟨rfl, hb⟩; have BC := lh (BC.out.trans (hb.mono BC.out.size)); have X1 := lh (X1.out.below hb l1); have X2 := lh (X2.out.below hb l2); have l1 := Nat.lt_of_lt_of_le l1 hb.size; have l2 := Nat.lt_of_lt_of_le l2 hb.size; clear hb; clear k0 k0f k1 k1f k2 k2f k3 k3f k4 k4f k5 k5f k6 k6f; have ⟨k0, k0f⟩ := k.cell_of X1.out (i := 0) rfl; have ⟨k1, k1f⟩ := k.cell_of X1.out (i := 1) rfl; have ⟨k2, k2f⟩ := k.cell_of X1.out (i := 2) rfl; have ⟨k3, k3f⟩ := k.cell_of X1.out (i := 3) rfl; have ⟨k4, k4f⟩ := k.cell_of X1.out (i := 4) rfl; have ⟨k5, k5f⟩ := k.cell_of X1.out (i := 5) rfl; have ⟨k6, k6f⟩ := k.cell_of X1.out (i := 6) rfl; clear z0 z0f z1 z1f; have ⟨z0, z0f⟩ := k.cell_of X2.out (i := 0) rfl; have ⟨z1, z1f⟩ := k.cell_of X2.out (i := 1) rfl)) | ((with_reducible refine m_ax_load (H2.out.below BC.out).ax 49 ?_ ?_ ?_ ?_); rfl; rfl; rfl; (try simp only [Act.put])) | (go_at_call 86; ((with_reducible refine (IP.out _).mono ?_); rintro e w5 ⟨rfl, hb⟩; have BC := lh (BC.out.trans (hb.mono BC.out.size)); have X1 := lh (X1.out.below hb l1); have X2 := lh (X2.out.below hb l2); have l1 := Nat.lt_of_lt_of_le l1 hb.size; have l2 := Nat.lt_of_lt_of_le l2 hb.size; clear hb; clear k0 k0f k1 k1f k2 k2f k3 k3f k4 k4f k5 k5f k6 k6f; have ⟨k0, k0f⟩ := k.cell_of X1.out (i := 0) rfl; have ⟨k1, k1f⟩ := k.cell_of X1.out (i := 1) rfl; have ⟨k2, k2f⟩ := k.cell_of X1.out (i := 2) rfl; have ⟨k3, k3f⟩ := k.cell_of X1.out (i := 3) rfl; have ⟨k4, k4f⟩ := k.cell_of X1.out (i := 4) rfl; have ⟨k5, k5f⟩ := k.cell_of X1.out (i := 5) rfl; have ⟨k6, k6f⟩ := k.cell_of X1.out (i := 6) rfl; clear z0 z0f z1 z1f; have ⟨z0, z0f⟩ := k.cell_of X2.out (i := 0) rfl; have ⟨z1, z1f⟩ := k.cell_of X2.out (i := 1) rfl)))
    obtain ⟨i1, i2, i3⟩ := k.Box.puts (us := [.slice none 0 0, .slice none 0 0]) X2.out rfl
    exact bodyPost_ret (results_c2 rfl rfl (run_loadVar_mid _ (w.heap.size + 1) 0 31 _ _ i1.range rfl rfl (by kernel_rfl))) rfl ⟨none, 0, 0, none, 0, 0, none, 0, 0, rfl, (HB.out.trans (BC.out.mono HB.out.size)).trans (i3 _ (by omega)), fun h => by cases h⟩
   ·skip
    have HPP : Hid ((1 ≤ c.kind ∧ c.kind ≤ 3) → true = true ∧ true = true) := lh fun _ => ⟨rfl, rfl⟩
    have HLC : Hid (landedC a c = ⟨c.id, 1, pv, c.spd, c.mode, c.num, c.den⟩) := lh (by unfold landedC; rw [if_pos (of_decide_eq_true HMV.out), HPV.out])
    have HCV : Hid (ln.cV (landedC a c) = .agg #[.int .i64 c.id, .int .i64 1, .int .i64 pv, .int .i64 c.spd, .int .i64 c.mode, .int .i64 c.num, .int .i64 c.den]) := lh (by rw [HLC.out]; rfl)
    clear HPV HMV
    go_enter Tryz.func70, Tryz.ntmps70
    go_upto_region 1 with fail
    rw [show (w.alloc (.cells #[.int .i64 c.id, .int .i64 c.kind, .int .i64 c.tgt, .int .i64 c.spd, .int .i64 c.mode, .int .i64 c.num, .int .i64 c.den] 62)).alloc (.cells #[.slice none 0 0, .slice none 0 0] 31) = w2 from HW2.out]
    go_upto_region 8 with (first | (go_at_call 94; ((with_reducible refine (M1.out _ BC.out).mono ?_); rintro e w5 ⟨rfl, hb⟩; have BC := lh (BC.out.trans (hb.mono BC.out.size)); have X1 := lh (X1.out.below hb l1); have X2 := lh (X2.out.below hb l2); have l1 := Nat.lt_of_lt_of_le l1 hb.size; have l2 := Nat.lt_of_lt_of_le l2 hb.size; clear hb; clear k0 k0f k1 k1f k2 k2f k3 k3f k4 k4f k5 k5f k6 k6f; have ⟨k0, k0f⟩ := k.cell_of X1.out (i := 0) rfl; have ⟨k1, k1f⟩ := k.cell_of X1.out (i := 1) rfl; have ⟨k2, k2f⟩ := k.cell_of X1.out (i := 2) rfl; have ⟨k3, k3f⟩ := k.cell_of X1.out (i := 3) rfl; have ⟨k4, k4f⟩ := k.cell_of X1.out (i := 4) rfl; have ⟨k5, k5f⟩ := k.cell_of X1.out (i := 5) rfl; have ⟨k6, k6f⟩ := k.cell_of X1.out (i := 6) rfl)) | (go_at_call 95; ((with_reducible refine (M2.out _ BC.out).mono ?_); rintro e w5 ⟨rfl, hb⟩; have BC := lh (BC.out.trans (hb.mono BC.out.size)); have X1 := lh (X1.out.below hb l1); have X2 := lh (X2.out.below hb l2); have l1 := Nat.lt_of_lt_of_le l1 hb.size; have l2 := Nat.lt_of_lt_of_le l2 hb.size; clear hb; clear k0 k0f k1 k1f k2 k2f k3 k3f k4 k4f k5 k5f k6 k6f; have ⟨k0, k0f⟩ := k.cell_of X1.out (i := 0) rfl; have ⟨k1, k1f⟩ := k.cell_of X1.out (i := 1) rfl; have ⟨k2, k2f⟩ := k.cell_of X1.out (i := 2) rfl; have ⟨k3, k3f⟩ := k.cell_of X1.out (i := 3) rfl; have ⟨k4, k4f⟩ := k.cell_of X1.out (i := 4) rfl; have ⟨k5, k5f⟩ := k.cell_of X1.out (i := 5) rfl; have ⟨k6, k6f⟩ := k.cell_of X1.out (i := 6) rfl)) | (go_at_call 96; ((with_reducible refine (M3.out _ BC.out).mono ?_); rintro e w5 ⟨rfl, hb⟩; have BC := lh (BC.out.trans (hb.mono BC.out.size)); have X1 := lh (X1.out.below hb l1); have X2 := lh (X2.out.below hb l2); have l1 := Nat.lt_of_lt_of_le l1 hb.size; have l2 := Nat.lt_of_lt_of_le l2 hb.size; clear hb; clear k0 k0f k1 k1f k2 k2f k3 k3f k4 k4f k5 k5f k6 k6f; have ⟨k0, k0f⟩ := k.cell_of X1.out (i := 0) rfl; have ⟨k1, k1f⟩ := k.cell_of X1.out (i := 1) rfl; have ⟨k2, k2f⟩ := k.cell_of X1.out (i := 2) rfl; have ⟨k3, k3f⟩ := k.cell_of X1.out (i := 3) rfl; have ⟨k4, k4f⟩ := k.cell_of X1.out (i := 4) rfl; have ⟨k5, k5f⟩ := k.cell_of X1.out (i := 5) rfl; have ⟨k6, k6f⟩ := k.cell_of X1.out (i := 6) rfl)) | (go_at_call 97; ((with_reducible refine (CM.out _).mono ?_); rintro e w5 ⟨rfl, rfl⟩)) | (go_at_call 98; ((with_reducible refine (PL.out _ BC.out).mono ?_); rintro e w5 ⟨rfl, hb⟩; have BC := lh (BC.out.trans (hb.mono BC.out.size)); have X1 := lh (X1.out.below hb l1); have X2 := lh (X2.out.below hb l2); have l1 := Nat.lt_of_lt_of_le l1 hb.size; have l2 := Nat.lt_of_lt_of_le l2 hb.size; clear hb; clear k0 k0f k1 k1f k2 k2f k3 k3f k4 k4f k5 k5f k6 k6f; have ⟨k0, k0f⟩ := k.cell_of X1.out (i := 0) rfl; have ⟨k1, k1f⟩ := k.cell_of X1.out (i := 1) rfl; have ⟨k2, k2f⟩ := k.cell_of X1.out (i := 2) rfl; have ⟨k3, k3f⟩ := k.cell_of X1.out (i := 3) rfl; have ⟨k4, k4f⟩ := k.cell_of X1.out (i := 4) rfl; have ⟨k5, k5f⟩ := k.cell_of X1.out (i := 5) rfl; have ⟨k6, k6f⟩ := k.cell_of X1.out (i := 6) rfl)) | ((with_reducible refine m_ax_load (H2.out.below BC.out).ax 49 ?_ ?_ ?_ ?_); rfl; rfl; rfl; (try simp only [Act.put])) | (go_at_call 86; ((with_reducible refine (IP.out _).mono ?_); rintro e w5 ⟨rfl, hb⟩; have BC := lh (BC.out.trans (hb.mono BC.out.size)); have X1 := lh (X1.out.below hb l1); have X2 := lh (X2.out.below hb l2); have l1 := Nat.lt_of_lt_of_le l1 hb.size; have l2 := Nat.lt_of_lt_of_le l2 hb.size; clear hb; clear k0 k0f k1 k1f k2 k2f k3 k3f k4 k4f k5 k5f k6 k6f; have ⟨k0, k0f⟩ := k.cell_of X1.out (i := 0) rfl; have ⟨k1, k1f⟩ := k.cell_of X1.out (i := 1) rfl; have ⟨k2, k2f⟩ := k.cell_of X1.out (i := 2) rfl; have ⟨k3, k3f⟩ := k.cell_of X1.out (i := 3) rfl; have ⟨k4, k4f⟩ := k.cell_of X1.out (i := 4) rfl; have ⟨k5, k5f⟩ := k.cell_of X1.out (i := 5) rfl; have ⟨k6, k6f⟩ := k.cell_of X1.out (i := 6) rfl)))
    clear k0 k0f k1 k1f k2 k2f k3 k3f k4 k4f k5 k5f k6 k6f
    have yk : k.Box ((w5.setCell ⟨w.heap.size, 1, none⟩ (.int .i64 1)).setCell ⟨w.heap.size, 2, none⟩ (.int .i64 pv)) w.heap.size 0 (cC ⟨c.id, 1, pv, c.spd, c.mode, c.num, c.den⟩) := k.Box.put (k.Box.put X1.out 1 (by simp [cC]) _) 2 (by simp [cC]) _
    have ho := ((Only.refl w.heap.size w5).set 1 (.int .i64 1)).set 2 (.int .i64 pv)
    have X2 := lh (only_box ho (show w.heap.size + 1 ≠ w.heap.size by omega) X2.out)
    have H8 := lh (HW0.out.below (((HB.out.trans (BC.out.mono HB.out.size)).trans (ho.below (Nat.le_refl _)))))
    have hbo : Below w2.heap.size w2 ((w5.setCell ⟨w.heap.size, 1, none⟩ (.int .i64 1)).setCell ⟨w.heap.size, 2, none⟩ (.int .i64 pv)) → True := fun _ => trivial
    have HB := lh ((HB.out.trans (BC.out.mono HB.out.size)).trans (ho.below (Nat.le_refl _)))
    generalize ((w5.setCell ⟨w.heap.size, 1, none⟩ (.int .i64 1)).setCell ⟨w.heap.size, 2, none⟩ (.int .i64 pv)) = w7 at yk ho X2 H8 HB ⊢
    have l1 : w.heap.size < w7.heap.size := by rw [ho.size]; exact l1
    have l2 : w.heap.size + 1 < w7.heap.size := by rw [ho.size]; exact l2
    have X1 := lh yk
    have BC := lh (Below.refl w7.heap.size w7)
    clear hbo yk ho M1 M2 M3 PL CM IP d39 d39f
    have ⟨k0, k0f⟩ := k.cell_of X1.out (i := 0) rfl
    have ⟨k1, k1f⟩ := k.cell_of X1.out (i := 1) rfl
    have ⟨k2, k2f⟩ := k.cell_of X1.out (i := 2) rfl
    have ⟨k3, k3f⟩ := k.cell_of X1.out (i := 3) rfl
    have ⟨k4, k4f⟩ := k.cell_of X1.out (i := 4) rfl
    have ⟨k5, k5f⟩ := k.cell_of X1.out (i := 5) rfl
    have ⟨k6, k6f⟩ := k.cell_of X1.out (i := 6) rfl
    have ⟨d14, d14f⟩ := k.cell_of H8.out.box (i := 14) rfl
    have ⟨d15, d15f⟩ := k.cell_of H8.out.box (i := 15) rfl
    have hl8 := H8.out.lt
    have CA := lh fun (V : World) (hb : Below w7.heap.size w7 V) => ln.add_own a.N a.W (landedC a c) (H8.out.below hb).rows.N (H8.out.below hb).rows.W (Nat.le_refl _) (short_n H8.out.rows.N (by have := HRL.out.2.1; omega)) (short_n H8.out.rows.W (by have := HRL.out.2.2.1; omega))
    obtain ⟨ae, hae⟩ : ∃ z, ln.addE a.N a.W (landedC a c) = z := ⟨_, rfl⟩
    have HAE := lh hae
    rw [hae] at CA
    rw [HCV.out] at CA
    clear hae
    have HTK : Hid (decide (ae = 0) = tk) := lh (by
      by_cases h0 : ae = 0
      ·rw [decide_eq_true h0]; exact (HYES.out (HTI.out.2 (by have hq := HPP.out; have he := HAE.out.trans h0; refine ⟨?_, ?_, ?_, ?_, ?_, he⟩ <;> first | trivial | exact hq | (intro _; trivial) | simp))).symm
      ·rw [decide_eq_false h0]; exact (HNO.out fun ht => h0 (HAE.out.symm.trans (HTI.out.1 ht).2.2.2.2.2)).symm)
    clear HTI HNO HYES HPP HAE HLC HCV
    go_upto_region 8 with fail
    refine wp_region_T (by kernel_rfl) (fun w' => Below w7.heap.size w7 w') [] (Below.refl _ _).drew (fun hHeld => ?_)
    refine tk0 0 rfl ?_ ?_ ?_
    rotate_left
    ·intro; go_simp <;> with_reducible rfl
    try simp only [Act.put, p1, p2, p3, p4, p6]
    refine tk0 1 rfl ?_ ?_ ?_
    rotate_left
    ·intro; go_simp <;> with_reducible rfl
    try simp only [Act.put, p1, p2, p3, p4, p5, p6]
    refine tk0 2 rfl ?_ ?_ ?_
    rotate_left
    ·intro; go_simp <;> with_reducible rfl
    try simp only [Act.put, p1, p2, p3, p4, p5, p6]
    refine tk0 3 rfl ?_ ?_ ?_
    rotate_left
    ·intro; go_simp <;> with_reducible rfl
    try simp only [Act.put, p1, p2, p3, p4, p5, p6]
    refine k.tk 4 rfl ?_ ?_ ?_
    rotate_left
    ·intro w_ hSw; have q0 := (hSw.cell (p := ⟨g, 14, none⟩) hl8).trans d14; have q1 := (hSw.cell (p := ⟨g, 15, none⟩) hl8).trans d15; clear hSw; go_simp <;> (with_reducible rfl)
    try simp only [Act.put, p1, p2, p3, p4, p5, p6]
    refine k.tk 5 rfl ?_ ?_ ?_
    rotate_left
    ·intro w_ hSw; have q0 := (hSw.cell (p := ⟨w.heap.size, 0, none⟩) l1).trans k0; have q1 := (hSw.cell (p := ⟨w.heap.size, 1, none⟩) l1).trans k1; have q2 := (hSw.cell (p := ⟨w.heap.size, 2, none⟩) l1).trans k2; have q3 := (hSw.cell (p := ⟨w.heap.size, 3, none⟩) l1).trans k3; have q4 := (hSw.cell (p := ⟨w.heap.size, 4, none⟩) l1).trans k4; have q5 := (hSw.cell (p := ⟨w.heap.size, 5, none⟩) l1).trans k5; have q6 := (hSw.cell (p := ⟨w.heap.size, 6, none⟩) l1).trans k6; clear hSw; go_simp <;> (with_reducible rfl)
    try simp only [Act.put, p1, p2, p3, p4, p5, p6]
    refine ry [6, 11] ?_
    refine AllReadyT.cons rfl (fun K hK => ?_) (AllReadyT.cons rfl (fun K hK => ?_) AllReadyT.nil)
    ·go_simp
     (go_at_call 99; ((with_reducible refine (CA.out _ (Below.refl _ _).drew).mono ?_); rintro e w9 ⟨A, n, cc, A', m, cc', D, q, d, rfl, hn, hw, hi, hb0, n1, n2, n3⟩))
     go_wp2_with fail
     have hb9 := ((Below.refl w7.heap.size w7).drew).trans hb0
     refine hK.out _ _ hb9 (fun hHeld => ?_)
     clear hK K
     try simp only [Act.put, p1, p2, p3, p4, p5, p6]
     have RN := lh hn
     have RW := lh hw
     have RI := lh hi
     have NN : Hid (ln.New w7 A ∧ ln.New w7 A' ∧ ln.New w7 D) := lh ⟨n1, n2, n3⟩
     clear hn hw hi n1 n2 n3 hb0
     refine tk0 7 rfl ?_ ?_ ?_
     rotate_left
     ·intro; go_simp <;> with_reducible rfl
     try simp only [Act.put, p1, p2, p3, p4, p5, p6]
     refine tk0 8 rfl ?_ ?_ ?_
     rotate_left
     ·intro; go_simp <;> with_reducible rfl
     try simp only [Act.put, p1, p2, p3, p4, p5, p6]
     refine tk0 9 rfl ?_ ?_ ?_
     rotate_left
     ·intro; go_simp <;> with_reducible rfl
     try simp only [Act.put, p1, p2, p3, p4, p5, p6]
     refine tk0 10 rfl ?_ ?_ ?_
     rotate_left
     ·intro; go_simp <;> with_reducible rfl
     try simp only [Act.put, p1, p2, p3, p4, p5, p6]
     refine ry [11] ?_
     refine ar1 rfl fun K hK => ?_
     go_simp
     go_wp2_with fail
     have hb10 := hb9.alloc hb9.size (.cells #[.slice none 0 0, .slice none 0 0] 31)
     refine hK.out _ _ hb10 (fun hHeld => ?_)
     clear hK K
     try simp only [Act.put, p1, p2, p3, p4, p5, p6]
     refine ry [12] ?_
     refine ar1 rfl fun K hK => ?_
     go_simp
     go_wp2_with fail
     refine hK.out _ _ (by first | exact hb9.alloc hb9.size _ | exact (hb10.setCell hb9.size _).setCell hb9.size _) (fun hHeld => ?_)
     clear hK K
     try simp only [Act.put, p1, p2, p3, p4, p5, p6]
     refine tk0 13 rfl ?_ ?_ ?_
     rotate_left
     ·intro; go_simp <;> with_reducible rfl
     try simp only [Act.put, p1, p2, p3, p4, p5, p6]
     refine tk0 14 rfl ?_ ?_ ?_
     rotate_left
     ·intro; go_simp <;> with_reducible rfl
     try simp only [Act.put, p1, p2, p3, p4, p5, p6]
     refine wpAnyT_done (by kernel_rfl) ?_ _
     have X2 := lh (X2.out.below hb9 l2)
     have l2 := Nat.lt_of_lt_of_le l2 hb9.size
     have ⟨z0, z0f⟩ := k.cell_of X2.out (i := 0) rfl
     have ⟨z1, z1f⟩ := k.cell_of X2.out (i := 1) rfl
     clear d14 d14f d15 d15f
     go_wp2
     obtain ⟨i1, i2, i3⟩ := k.Box.puts (us := [.slice A n cc, .slice A' m cc']) X2.out rfl
     have ho := Only.puts [.slice A n cc, .slice A' m cc'] 0 (Only.refl (w.heap.size + 1) w9)
     have hwA := (Below.refl (k.puts w9 (w.heap.size + 1) 0 [.slice A n cc, .slice A' m cc']).heap.size (k.puts w9 (w.heap.size + 1) 0 [.slice A n cc, .slice A' m cc'])).alloc (Nat.le_refl _) (.cells #[.slice A n cc, .slice A' m cc'] 31)
     have i1 := i1.below hwA (by rw [ho.size]; exact l2)
     have hOff : ∀ {B : Option Addr} {x y : Nat}, ln.New w7 B → Off (w.heap.size + 1) ⟨B, x, y⟩ := fun h => off_newer h (by assumption)
     have hN2 : ∀ {B : Option Addr}, ln.New w7 B → ln.New w B := fun h b o x e => by have := h b o x e; omega
     skip
     exact bodyPost_ret (results_c2 rfl rfl (run_loadVar_mid _ (w.heap.size + 1) 0 31 _ _ i1.range rfl rfl (by kernel_rfl))) rfl ⟨A, n, cc, A', m, cc', D, q, d, by rw [← HTK.out]; rfl, ((HB.out.trans (BC.out.mono HB.out.size)).trans (hb9.mono (by omega))).trans ((ho.below (by omega)).trans (hwA.mono (by rw [ho.size]; omega))), fun _ => ⟨rd_past (rd_only RN.out ho (hOff NN.out.1)) hwA, rd_past (rd_only RW.out ho (hOff NN.out.2.1)) hwA, rd_past (rd_only RI.out ho (hOff NN.out.2.2)) hwA, hN2 NN.out.1, hN2 NN.out.2.1, hN2 NN.out.2.2⟩⟩
    ·go_simp
     go_wp2_with fail
     have hbB := ((Below.refl w7.heap.size w7).alloc (Nat.le_refl _) (.cells #[.slice none 0 0, .slice none 0 0] 31)).drew
     refine hK.out _ _ hbB (fun hHeld => ?_)
     clear hK K
     try simp only [Act.put, p1, p2, p3, p4, p5, p6]
     refine ry [6] ?_
     refine ar1 rfl fun K hK => ?_
     go_simp
     (go_at_call 99; ((with_reducible refine (CA.out _ hbB).mono ?_); rintro e w9 ⟨A, n, cc, A', m, cc', D, q, d, rfl, hn, hw, hi, hb0, n1, n2, n3⟩))
     go_wp2_with fail
     obtain ⟨y1, y2, y3⟩ := k.boxes1 (w := w7) (c1 := #[.slice none 0 0, .slice none 0 0]) (t1 := 31) (((Below.refl _ _).drew).trans hb0)
     have hb9 : Below w7.heap.size w7 w9 := y2
     have X9 : Hid (k.Box w9 w7.heap.size 0 [.slice none 0 0, .slice none 0 0]) := lh y1
     refine hK.out _ _ hb9 (fun hHeld => ?_)
     clear hK K
     try simp only [Act.put, p1, p2, p3, p4, p5, p6]
     have lv : w7.heap.size < w9.heap.size := y3
     have RN := lh hn
     have RW := lh hw
     have RI := lh hi
     have NN : Hid ((ln.New w7 A ∧ ln.New w7 A' ∧ ln.New w7 D) ∧ Off w7.heap.size ⟨A, n, cc⟩ ∧ Off w7.heap.size ⟨A', m, cc'⟩ ∧ Off w7.heap.size ⟨D, q, d⟩) := lh (by
      have ls : w7.heap.size < ((w7).alloc (.cells #[.slice none 0 0, .slice none 0 0] 31)).drew.heap.size := by simp [World.drew]
      exact ⟨⟨fun b o x e => by have := n1 b o x e; omega, fun b o x e => by have := n2 b o x e; omega, fun b o x e => by have := n3 b o x e; omega⟩, off_newer n1 ls, off_newer n2 ls, off_newer n3 ls⟩)
     clear hn hw hi n1 n2 n3 hb0 y1 y2 y3
     refine tk0 7 rfl ?_ ?_ ?_
     rotate_left
     ·intro; go_simp <;> with_reducible rfl
     try simp only [Act.put, p1, p2, p3, p4, p5, p6]
     refine tk0 8 rfl ?_ ?_ ?_
     rotate_left
     ·intro; go_simp <;> with_reducible rfl
     try simp only [Act.put, p1, p2, p3, p4, p5, p6]
     refine tk0 9 rfl ?_ ?_ ?_
     rotate_left
     ·intro; go_simp <;> with_reducible rfl
     try simp only [Act.put, p1, p2, p3, p4, p5, p6]
     refine tk0 10 rfl ?_ ?_ ?_
     rotate_left
     ·intro; go_simp <;> with_reducible rfl
     try simp only [Act.put, p1, p2, p3, p4, p5, p6]
     have ⟨v0, v0f⟩ := k.cell_of X9.out (i := 0) rfl
     have ⟨v1, v1f⟩ := k.cell_of X9.out (i := 1) rfl
     refine ry [12] ?_
     refine ar1 rfl fun K hK => ?_
     go_simp
     go_wp2_with fail
     refine hK.out _ _ ((hb9.setCell (Nat.le_refl _) _).setCell (Nat.le_refl _) _) (fun hHeld => ?_)
     clear hK K
     try simp only [Act.put, p1, p2, p3, p4, p5, p6]
     refine tk0 13 rfl ?_ ?_ ?_
     rotate_left
     ·intro; go_simp <;> with_reducible rfl
     try simp only [Act.put, p1, p2, p3, p4, p5, p6]
     refine tk0 14 rfl ?_ ?_ ?_
     rotate_left
     ·intro; go_simp <;> with_reducible rfl
     try simp only [Act.put, p1, p2, p3, p4, p5, p6]
     refine wpAnyT_done (by kernel_rfl) ?_ _
     clear v0 v0f v1 v1f
     have yb : k.Box ((w9.setCell ⟨w7.heap.size, 0, none⟩ (.slice A n cc)).setCell ⟨w7.heap.size, 1, none⟩ (.slice A' m cc')) w7.heap.size 0 [.slice A n cc, .slice A' m cc'] := k.Box.put (k.Box.put X9.out 0 (by simp) _) 1 (by simp) _
     have ho := ((Only.refl w7.heap.size w9).set 0 (.slice A n cc)).set 1 (.slice A' m cc')
     have X2 := lh (only_box ho (show w.heap.size + 1 ≠ w7.heap.size by omega) (X2.out.below hb9 l2))
     generalize ((w9.setCell ⟨w7.heap.size, 0, none⟩ (.slice A n cc)).setCell ⟨w7.heap.size, 1, none⟩ (.slice A' m cc')) = w10 at yb ho X2 ⊢
     have l2' : w.heap.size + 1 < w10.heap.size := by rw [ho.size]; exact Nat.lt_of_lt_of_le l2 hb9.size
     have RN := lh (rd_only RN.out ho NN.out.2.1)
     have RW := lh (rd_only RW.out ho NN.out.2.2.1)
     have RI := lh (rd_only RI.out ho NN.out.2.2.2)
     have HB10 := lh (((HB.out.trans (BC.out.mono HB.out.size)).trans (hb9.mono (by omega))).trans (ho.below (by omega)))
     have XB := lh yb
     have lne : w7.heap.size ≠ w.heap.size + 1 := by omega
     clear yb ho hb9 hbB hHeld d14 d14f d15 d15f
     have ⟨z0, z0f⟩ := k.cell_of X2.out (i := 0) rfl
     have ⟨z1, z1f⟩ := k.cell_of X2.out (i := 1) rfl
     have ⟨v0, v0f⟩ := k.cell_of XB.out (i := 0) rfl
     have ⟨v1, v1f⟩ := k.cell_of XB.out (i := 1) rfl
     go_wp2
     obtain ⟨i1, i2, i3⟩ := k.Box.puts (us := [.slice A n cc, .slice A' m cc']) X2.out rfl
     have ho := Only.puts [.slice A n cc, .slice A' m cc'] 0 (Only.refl (w.heap.size + 1) w10)
     have hOff : ∀ {B : Option Addr} {x y : Nat}, ln.New w7 B → Off (w.heap.size + 1) ⟨B, x, y⟩ := fun h => off_newer h (by assumption)
     have hN2 : ∀ {B : Option Addr}, ln.New w7 B → ln.New w B := fun h b o x e => by have := h b o x e; omega
     exact bodyPost_ret (results_c2 rfl rfl (run_loadVar_mid _ (w.heap.size + 1) 0 31 _ _ i1.range rfl rfl (by kernel_rfl))) rfl ⟨A, n, cc, A', m, cc', D, q, d, by rw [← HTK.out]; rfl, HB10.out.trans (ho.below (by omega)), fun _ => ⟨rd_only RN.out ho (hOff NN.out.1.1), rd_only RW.out ho (hOff NN.out.1.2.1), rd_only RI.out ho (hOff NN.out.1.2.2), hN2 NN.out.1.1, hN2 NN.out.1.2.1, hN2 NN.out.1.2.2⟩⟩
end
end Go.Proofs.YtijlccblabadaaaGreat.cx
end
section
namespace Go.Proofs.YtijlccblabadaaaGreat.cx
open Go.ChangeShapes Go.WideShapes Go.ChangeAt Go.RowKit Go.Proofs.YtijlccblabadaaaGreat.k Go.Proofs.YtijlccblabadaaaGreat.rr Go.Proofs.YtijlccblabadaaaGreat.ax
open Go.Proofs.YtijlccblabadaaaGreat.ln (C RdC RdI iC cC cV lnV)
set_option linter.unusedVariables false
set_option maxRecDepth 100000
theorem taken_kept {a : Ax} (h : RightA a) {c : C} {fr : Bool} (ht : TakenP a c fr) : landedC a c = keptC a c := by
 have h2 := (taken_iff h c fr).1 ht
 exact landed_kept h ht.1.1.1.1 fun hq => (h2.2.2.2.2.1 hq).1
theorem add_first {a : Ax} {k : C} (h : ln.addE a.N a.W k = 0) (hw : ln.addW a.N a.W k = []) : ln.addN a.N a.W k = [k] := by
 obtain ⟨_, _, hh⟩ := add_ok h
 rcases hh with ⟨_, e, _⟩ | ⟨_, _, e1, e2⟩
 ·exact e
 ·rw [hw] at e2
  rw [e1]
  have hl := congrArg List.length e2
  simp only [List.length_nil, List.length_drop, List.length_append, List.length_singleton] at hl
  have hn : a.N = [] := List.eq_nil_of_length_eq_zero (by omega)
  have hw2 : a.W = [] := List.eq_nil_of_length_eq_zero (by omega)
  rw [hn, hw2]
  rfl
theorem kept_begins {a : Ax} {c : C} (hk : KeptP a c) : beginsV (keptC a c).kind = evOf (keptC a c).kind := by
 have h : (keptC a c).kind = 1 ∨ (keptC a c).kind = 4 ∨ (keptC a c).kind = 5 ∨ (keptC a c).kind = 6 ∨ (keptC a c).kind = 7 ∨ (keptC a c).kind = 8 := by
  unfold keptC
  by_cases hp : placed c
  ·rw [if_pos hp]; exact .inl rfl
  ·rw [if_neg hp]
   rcases hk.2 with h1 | h1 | h1 | h1 | h1 | h1
   ·exact absurd h1.1 hp
   all_goals omega
 rcases h with h | h | h | h | h | h <;> rw [h] <;> rfl
theorem addI_len {a : Ax} (h : RightA a) (k : C) : (ln.addI a.N a.W k).length ≤ 10 := by
 have h1 := h.line.2.1
 have h2 := h.line.2.2.1
 unfold ln.addI ln.ids
 split
 ·split
  ·rw [List.length_map, List.length_append]; omega
  ·simp
 ·simp
section
variable {base g : Nat} {i : In} {L : Sl} {a : Ax} {R : List Rp} {fr pa : Bool} {w : World} {tb : Option Nat}
set_option maxHeartbeats 8000000 in
theorem take_any (h : Cyc base g i L tb a R fr pa w) (hr : RightA a) (c : C) (hc : WideC c) (hp : InR (baseV a c)) (hR : R.length ≤ 5000) :
  Calls Tryz.prog 44 #[.pointer (some ⟨g, 0, none⟩), cV c] w (Does base g i L tb w (givenA a c i.master fr) (R ++ givenR a c fr) fr pa) := by
 obtain ⟨S, N, W, T, h0, ht⟩ := h
 have H0 := lh h0
 have hl0 := h0.lt
 have HR := lh hR
 obtain ⟨x1, x2, x3⟩ := k.boxes1 (w := w) (c1 := cA c) (t1 := 62) (Below.refl _ _)
 have X1 : Hid (k.Box _ w.heap.size 0 (cC c)) := lh x1
 have HB := lh x2
 have hc2 : Cyc base g i L tb a R fr pa _ := ⟨S, N, W, T, h0.below x2, ht⟩
 obtain ⟨tk, htk⟩ : ∃ z, @decide (TakenP a c fr) (Classical.propDecidable _) = z := ⟨_, rfl⟩
 have CA := added_any hc2 hr c hc hp htk
 unfold cV at CA
 generalize hw2 : w.alloc (.cells (cA c) 62) = w2 at X1 HB x3 hc2 CA
 have CA := lh CA
 have HW2 := lh hw2
 clear hw2 x1 x2 hc2 h0
 have ⟨k0, k0f⟩ := k.cell_of X1.out (i := 0) rfl
 have ⟨k1, k1f⟩ := k.cell_of X1.out (i := 1) rfl
 have ⟨k2, k2f⟩ := k.cell_of X1.out (i := 2) rfl
 have ⟨k3, k3f⟩ := k.cell_of X1.out (i := 3) rfl
 have ⟨k4, k4f⟩ := k.cell_of X1.out (i := 4) rfl
 have ⟨k5, k5f⟩ := k.cell_of X1.out (i := 5) rfl
 have ⟨k6, k6f⟩ := k.cell_of X1.out (i := 6) rfl
 cases tk
 ·have hn : ¬ TakenP a c fr := @of_decide_eq_false _ (Classical.propDecidable _) htk
  rw [show givenA a c i.master fr = a from if_neg hn, show givenR a c fr = [(c.id, 5)] from if_neg hn]
  clear hn htk hr hc hp hR
  unfold cV
  go_enter Tryz.func44, Tryz.ntmps44
  go_upto_region 1 with fail
  rw [show w.alloc (.cells #[.int .i64 c.id, .int .i64 c.kind, .int .i64 c.tgt, .int .i64 c.spd, .int .i64 c.mode, .int .i64 c.num, .int .i64 c.den] 62) = w2 from HW2.out]
  go_wp2_with (first | (go_at_call 70; ((with_reducible refine (CA.out).mono ?_); rintro e w3 ⟨A, n, cc, A', m, cc', D, q, d, rfl, hb, hrows⟩; have B3 := lh hb; have RR := lh hrows; have X1 := lh (X1.out.below hb x3); have x3 := Nat.lt_of_lt_of_le x3 hb.size; clear k0 k0f k1 k1f k2 k2f k3 k3f k4 k4f k5 k5f k6 k6f; have ⟨k0, k0f⟩ := k.cell_of X1.out (i := 0) rfl; clear hb hrows)) | (go_at_call 71; fail))
  have hwA := (Below.refl w3.heap.size w3).alloc (Nat.le_refl _) (.cells #[.slice A n cc, .slice A' m cc'] 31)
  have hb := (HB.out.trans (B3.out.mono HB.out.size)).trans (hwA.mono (Nat.le_trans HB.out.size B3.out.size))
  refine (tell_any ⟨S, N, W, T, H0.out.below hb, ht⟩ (by have := HR.out; omega) c.id 5).mono ?_
  rintro e w4 ⟨rfl, tb4, h4, f4⟩
  go_wp2
  exact ret0 rfl rfl ⟨rfl, tb4, h4, ((Fx.refl g tb w).below hb).trans f4⟩
 ·have hy : TakenP a c fr := @of_decide_eq_true _ (Classical.propDecidable _) htk
  have hk := taken_kept hr hy
  have HI : Hid ((ln.addI a.N a.W (keptC a c)).length ≤ 10) := lh (addI_len hr _)
  skip
  have HK := lh hk
  have HG : Hid (givenA a c i.master fr = if ln.addW a.N a.W (keptC a c) = [] then ax.begun (lineOf a c) (keptC a c) i.master else lineOf a c) := lh (if_pos hy)
  have HG2 : Hid (givenR a c fr = toldI (ln.addI a.N a.W (keptC a c)) 3 ++ (if ln.addW a.N a.W (keptC a c) = [] then [(c.id, 1)] else [])) := lh (if_pos hy)
  have HF : Hid (ln.addW a.N a.W (keptC a c) = [] → ln.addN a.N a.W (keptC a c) = [keptC a c]) := lh (add_first hy.2.2)
  have HBG := lh (kept_begins hy.1)
  have HRH := lh hr.made.2.2.2.2.2
  have HID : Hid ((keptC a c).id = c.id) := lh (kept_mode a c).2
  rw [HG.out, HG2.out]
  clear hy hk htk hr hc hp hR HG HG2
  have ⟨d14, d14f⟩ := k.cell_of (H0.out.below HB.out).box (i := 14) rfl
  have ⟨d15, d15f⟩ := k.cell_of (H0.out.below HB.out).box (i := 15) rfl
  have hl2 := (H0.out.below HB.out).lt
  by_cases hw : ln.addW a.N a.W (keptC a c) = []
  ·have HN := lh (HF.out hw)
   have HW3 := lh hw
   rw [if_pos hw, if_pos hw]
   clear hw
   unfold cV
   go_enter Tryz.func44, Tryz.ntmps44
   go_upto_region 1 with fail
   rw [show w.alloc (.cells #[.int .i64 c.id, .int .i64 c.kind, .int .i64 c.tgt, .int .i64 c.spd, .int .i64 c.mode, .int .i64 c.num, .int .i64 c.den] 62) = w2 from HW2.out]
   go_wp2_with (first | (go_at_call 70; ((with_reducible refine (CA.out).mono ?_); rintro e w3 ⟨A, n, cc, A', m, cc', D, q, d, rfl, hb, hrows⟩; have B3 := lh hb; have RR := lh hrows; have X1 := lh (X1.out.below hb x3); have x3 := Nat.lt_of_lt_of_le x3 hb.size; clear k0 k0f k1 k1f k2 k2f k3 k3f k4 k4f k5 k5f k6 k6f; have ⟨k0, k0f⟩ := k.cell_of X1.out (i := 0) rfl; have d14 := (hb.cell (p := ⟨g, 14, none⟩) hl2).trans d14; have d14f := (hb.frozen (p := ⟨g, 14, none⟩) hl2).trans d14f; have d15 := (hb.cell (p := ⟨g, 15, none⟩) hl2).trans d15; have d15f := (hb.frozen (p := ⟨g, 15, none⟩) hl2).trans d15f; have hl3 := Nat.lt_of_lt_of_le hl2 hb.size; clear hb hrows)) | (go_at_call 72; fail))
   have HRW := lh (RR.out (by first | rfl | trivial))
   rw [HK.out] at HRW
   have ho := ((Only.refl g w3).set 14 (.slice A n cc)).set 15 (.slice A' m cc')
   have hb3 := HB.out.trans (B3.out.mono HB.out.size)
   have h3 := H0.out.relined (N1 := ln.addN a.N a.W (keptC a c)) (W1 := ln.addW a.N a.W (keptC a c)) hb3 ho HRW.out.1 HRW.out.2.1 (fun b o x e => by have := HRW.out.2.2.2.1 b o x e; have := HB.out.size; omega) (fun b o x e => by have := HRW.out.2.2.2.2.1 b o x e; have := HB.out.size; omega) (k.Box.put (k.Box.put (H0.out.below hb3).box 14 (by simp) _) 15 (by simp) _)
   have hw4 := (Below.refl ((w3.setCell ⟨g, 14, none⟩ (.slice A n cc)).setCell ⟨g, 15, none⟩ (.slice A' m cc')).heap.size ((w3.setCell ⟨g, 14, none⟩ (.slice A n cc)).setCell ⟨g, 15, none⟩ (.slice A' m cc'))).alloc (Nat.le_refl _) (.cells #[.slice A n cc, .slice A' m cc'] 31)
   have h4 := h3.below hw4
   have FXa := lh ((((Fx.refl g tb w).below hb3).only ho).below hw4)
   have hDo : Out g tb ⟨D, q, d⟩ := Cyc.out_new (w := w) ⟨S, N, W, T, H0.out, ht⟩ (fun b o x e => by have := HRW.out.2.2.2.2.2 b o x e; have := HB.out.size; omega)
   have hDi : RdI _ _ D q d (ln.addI a.N a.W (keptC a c)) := rd_past (rd_only HRW.out.2.2.1 ho (hDo g (.inl rfl))) hw4
   obtain ⟨y1, y2, y3⟩ := k.boxes1 (w := ((w3.setCell ⟨g, 14, none⟩ (.slice A n cc)).setCell ⟨g, 15, none⟩ (.slice A' m cc'))) (c1 := #[.slice A n cc, .slice A' m cc']) (t1 := 31) (Below.refl _ _)
   have hl4 : Cyc base g i L tb (lineOf a c) R fr pa _ := ⟨_, _, _, _, h4, ht⟩
   have hap := Cyc.apart (w := ((w3.setCell ⟨g, 14, none⟩ (.slice A n cc)).setCell ⟨g, 15, none⟩ (.slice A' m cc'))) (tb := tb) (a := lineOf a c) (R := R) (fr := fr) (pa := pa) ⟨_, _, _, _, h3, ht⟩ (Nat.le_refl _)
   have hsz : ((w3.setCell ⟨g, 14, none⟩ (.slice A n cc)).setCell ⟨g, 15, none⟩ (.slice A' m cc')).heap.size = w3.heap.size := ho.size
   rw [hsz] at y1 y3 hap
   refine (aborted_any hl4 (ln.addI a.N a.W (keptC a c)) hDi hDo (by have := HR.out; have := HI.out; omega)).mono ?_
   rintro e w5 ⟨rfl, tb5, h5, f5⟩
   have Y5 := lh (f5.box y1 y3 hap)
   have FXb := lh (FXa.out.trans f5)
   have H5 := lh h5
   have HM : Hid (m = (ln.addW a.N a.W (keptC a c)).length) := lh HRW.out.2.1.1.symm
   clear y1 y2 y3 hap hl4 hDi hDo h4 h3 hw4 hb3 ho hsz f5 h5 HRW RR k0 k0f d14 d14f d15 d15f
   have ⟨v1, v1f⟩ := k.cell_of Y5.out (i := 1) rfl
   have hm : (m : Int) = 0 := by rw [HM.out, HW3.out]; rfl
   have hmn : m = 0 := by omega
   subst hmn
   go_wp2_with (go_at_call 73; fail)
   refine (begin_any H5.out (c := keptC a c) (t := []) HN.out HBG.out HRH.out (by have := HR.out; have := HI.out; simp only [List.length_append, toldI, List.length_map]; omega)).mono ?_
   rintro e w6 ⟨rfl, tb6, h6, f6⟩
   go_wp2
   rw [HID.out, List.append_assoc] at h6
   exact end0 rfl rfl ⟨rfl, tb6, h6, FXb.out.trans f6⟩
  ·have HW3 := lh hw
   rw [if_neg hw, if_neg hw, List.append_nil]
   clear hw
   unfold cV
   go_enter Tryz.func44, Tryz.ntmps44
   go_upto_region 1 with fail
   rw [show w.alloc (.cells #[.int .i64 c.id, .int .i64 c.kind, .int .i64 c.tgt, .int .i64 c.spd, .int .i64 c.mode, .int .i64 c.num, .int .i64 c.den] 62) = w2 from HW2.out]
   go_wp2_with (first | (go_at_call 70; ((with_reducible refine (CA.out).mono ?_); rintro e w3 ⟨A, n, cc, A', m, cc', D, q, d, rfl, hb, hrows⟩; have B3 := lh hb; have RR := lh hrows; have X1 := lh (X1.out.below hb x3); have x3 := Nat.lt_of_lt_of_le x3 hb.size; clear k0 k0f k1 k1f k2 k2f k3 k3f k4 k4f k5 k5f k6 k6f; have ⟨k0, k0f⟩ := k.cell_of X1.out (i := 0) rfl; have d14 := (hb.cell (p := ⟨g, 14, none⟩) hl2).trans d14; have d14f := (hb.frozen (p := ⟨g, 14, none⟩) hl2).trans d14f; have d15 := (hb.cell (p := ⟨g, 15, none⟩) hl2).trans d15; have d15f := (hb.frozen (p := ⟨g, 15, none⟩) hl2).trans d15f; have hl3 := Nat.lt_of_lt_of_le hl2 hb.size; clear hb hrows)) | (go_at_call 72; fail))
   have HRW := lh (RR.out (by first | rfl | trivial))
   rw [HK.out] at HRW
   have ho := ((Only.refl g w3).set 14 (.slice A n cc)).set 15 (.slice A' m cc')
   have hb3 := HB.out.trans (B3.out.mono HB.out.size)
   have h3 := H0.out.relined (N1 := ln.addN a.N a.W (keptC a c)) (W1 := ln.addW a.N a.W (keptC a c)) hb3 ho HRW.out.1 HRW.out.2.1 (fun b o x e => by have := HRW.out.2.2.2.1 b o x e; have := HB.out.size; omega) (fun b o x e => by have := HRW.out.2.2.2.2.1 b o x e; have := HB.out.size; omega) (k.Box.put (k.Box.put (H0.out.below hb3).box 14 (by simp) _) 15 (by simp) _)
   have hw4 := (Below.refl ((w3.setCell ⟨g, 14, none⟩ (.slice A n cc)).setCell ⟨g, 15, none⟩ (.slice A' m cc')).heap.size ((w3.setCell ⟨g, 14, none⟩ (.slice A n cc)).setCell ⟨g, 15, none⟩ (.slice A' m cc'))).alloc (Nat.le_refl _) (.cells #[.slice A n cc, .slice A' m cc'] 31)
   have h4 := h3.below hw4
   have FXa := lh ((((Fx.refl g tb w).below hb3).only ho).below hw4)
   have hDo : Out g tb ⟨D, q, d⟩ := Cyc.out_new (w := w) ⟨S, N, W, T, H0.out, ht⟩ (fun b o x e => by have := HRW.out.2.2.2.2.2 b o x e; have := HB.out.size; omega)
   have hDi : RdI _ _ D q d (ln.addI a.N a.W (keptC a c)) := rd_past (rd_only HRW.out.2.2.1 ho (hDo g (.inl rfl))) hw4
   obtain ⟨y1, y2, y3⟩ := k.boxes1 (w := ((w3.setCell ⟨g, 14, none⟩ (.slice A n cc)).setCell ⟨g, 15, none⟩ (.slice A' m cc'))) (c1 := #[.slice A n cc, .slice A' m cc']) (t1 := 31) (Below.refl _ _)
   have hl4 : Cyc base g i L tb (lineOf a c) R fr pa _ := ⟨_, _, _, _, h4, ht⟩
   have hap := Cyc.apart (w := ((w3.setCell ⟨g, 14, none⟩ (.slice A n cc)).setCell ⟨g, 15, none⟩ (.slice A' m cc'))) (tb := tb) (a := lineOf a c) (R := R) (fr := fr) (pa := pa) ⟨_, _, _, _, h3, ht⟩ (Nat.le_refl _)
   have hsz : ((w3.setCell ⟨g, 14, none⟩ (.slice A n cc)).setCell ⟨g, 15, none⟩ (.slice A' m cc')).heap.size = w3.heap.size := ho.size
   rw [hsz] at y1 y3 hap
   refine (aborted_any hl4 (ln.addI a.N a.W (keptC a c)) hDi hDo (by have := HR.out; have := HI.out; omega)).mono ?_
   rintro e w5 ⟨rfl, tb5, h5, f5⟩
   have Y5 := lh (f5.box y1 y3 hap)
   have FXb := lh (FXa.out.trans f5)
   have H5 := lh h5
   have HM : Hid (m = (ln.addW a.N a.W (keptC a c)).length) := lh HRW.out.2.1.1.symm
   clear y1 y2 y3 hap hl4 hDi hDo h4 h3 hw4 hb3 ho hsz f5 h5 HRW RR k0 k0f d14 d14f d15 d15f
   have ⟨v1, v1f⟩ := k.cell_of Y5.out (i := 1) rfl
   have hm : ((m : Int) == 0) = false := by
    rw [beq_eq_false_iff_ne]
    intro h0
    exact HW3.out (List.eq_nil_of_length_eq_zero (by rw [← HM.out]; omega))
   go_wp2
   exact end0 rfl rfl ⟨rfl, tb5, H5.out, FXb.out⟩
end
end Go.Proofs.YtijlccblabadaaaGreat.cx
end
section
namespace Go.Proofs.YtijlccblabadaaaGreat.cx
open Go.ChangeShapes Go.WideShapes Go.ChangeAt Go.RowKit Go.Proofs.YtijlccblabadaaaGreat.k Go.Proofs.YtijlccblabadaaaGreat.rr Go.Proofs.YtijlccblabadaaaGreat.ax
open Go.Proofs.YtijlccblabadaaaGreat.ln (C RdC RdI iC cC cV lnV)
set_option linter.unusedVariables false
set_option maxRecDepth 100000
abbrev cyA (a : Ax) (S N W : Sl) (i : In) (L : Sl) : Array Value := #[.int .i64 a.st, .int .i64 a.l.V, .int .i64 a.l.A, .int .i64 a.l.D, .int .i64 a.l.lo, .int .i64 a.l.hi, .int .i64 a.win, .int .i64 a.homeAt, .int .i64 a.fast, .int .i64 a.creep, .int .i64 a.p, .int .i64 a.v, .slice S.A S.n S.c, .int .i64 a.off, .slice N.A N.n N.c, .slice W.A W.n W.c, .bool a.homed, .int .i64 a.h.ph, .int .i64 a.h.f, .int .i64 a.h.c, .bool a.h.tu, .int .i64 a.ov, .int .i64 a.start, .int .i64 a.master, .int .i64 a.cause, .bool a.instep, .bool i.power, .bool i.op, .int .i64 i.actual, .int .i64 i.cause, .bool i.plus, .bool i.minus, .bool i.home, .bool i.reset, .bool i.release, .int .i64 i.ov, .int .i64 i.master, .slice L.A L.n L.c, .slice none 0 0, .bool false, .bool false]
abbrev cyV (a : Ax) (S N W : Sl) (i : In) (L : Sl) : Value := .agg #[.int .i64 a.st, .int .i64 a.l.V, .int .i64 a.l.A, .int .i64 a.l.D, .int .i64 a.l.lo, .int .i64 a.l.hi, .int .i64 a.win, .int .i64 a.homeAt, .int .i64 a.fast, .int .i64 a.creep, .int .i64 a.p, .int .i64 a.v, .slice S.A S.n S.c, .int .i64 a.off, .slice N.A N.n N.c, .slice W.A W.n W.c, .bool a.homed, .int .i64 a.h.ph, .int .i64 a.h.f, .int .i64 a.h.c, .bool a.h.tu, .int .i64 a.ov, .int .i64 a.start, .int .i64 a.master, .int .i64 a.cause, .bool a.instep, .bool i.power, .bool i.op, .int .i64 i.actual, .int .i64 i.cause, .bool i.plus, .bool i.minus, .bool i.home, .bool i.reset, .bool i.release, .int .i64 i.ov, .int .i64 i.master, .slice L.A L.n L.c, .slice none 0 0, .bool false, .bool false]
abbrev zCy : Array Value := #[.int .i64 0, .int .i64 0, .int .i64 0, .int .i64 0, .int .i64 0, .int .i64 0, .int .i64 0, .int .i64 0, .int .i64 0, .int .i64 0, .int .i64 0, .int .i64 0, .slice none 0 0, .int .i64 0, .slice none 0 0, .slice none 0 0, .bool false, .int .i64 0, .int .i64 0, .int .i64 0, .bool false, .int .i64 0, .int .i64 0, .int .i64 0, .int .i64 0, .bool false, .bool false, .bool false, .int .i64 0, .int .i64 0, .bool false, .bool false, .bool false, .bool false, .bool false, .int .i64 0, .int .i64 0, .slice none 0 0, .slice none 0 0, .bool false, .bool false]
theorem cyA_ones (a : Ax) (S N W : Sl) (i : In) (L : Sl) : (cyA a S N W i L).all (·.oneCell') = true := all_oneCell_toArray (cs := cyC a S N W i L nS false false) (by
 intro v hv
 simp only [cyC, List.mem_cons, List.not_mem_nil, or_false] at hv
 rcases hv with rfl | rfl | rfl | rfl | rfl | rfl | rfl | rfl | rfl | rfl | rfl | rfl | rfl | rfl | rfl | rfl | rfl | rfl | rfl | rfl | rfl | rfl | rfl | rfl | rfl | rfl | rfl | rfl | rfl | rfl | rfl | rfl | rfl | rfl | rfl | rfl | rfl | rfl | rfl | rfl | rfl <;> rfl)
section
variable {ops : Array Oper} {op : Oper} {a : Act} {w : World} {Q : Exit → Act → World → Prop}
set_option maxRecDepth 100000 in
theorem m_w_cynew {K : Act → World → Prop} (b : Ax) (S N W : Sl) (i : In) (L : Sl) (t u : Nat) (ho : op.op = .store 77 (.tmp t) (.tmp u)) (hd : op.dst = none) (hx : a.eval (.tmp t) = .pointer (some ⟨w.heap.size, 0, none⟩)) (hy : a.eval (.tmp u) = cyV b S N W i L)
  (h : ∀ w', k.Box w' w.heap.size 0 (cyC b S N W i L nS false false) → Below w.heap.size w w' → w.heap.size < w'.heap.size → K a w') : op.wp Tryz.prog a (w.alloc (.cells zCy 77)) K Q := by
 obtain ⟨w2, e2, x1, h2, z2⟩ := put_new w zCy 77 (cyC b S N W i L nS false false) rfl
 refine wp_store_mid 77 (.tmp t) (.tmp u) ho w.heap.size 0 (cyA b S N W i L) hx hy (there_new _ _ _ _ rfl) (by kernel_rfl) (cyA_ones _ _ _ _ _ _) ?_
 rw [hd]
 show K a (World.setCells _ _ _ (cyC b S N W i L nS false false))
 rw [e2]
 exact h w2 x1 h2 z2
set_option maxRecDepth 100000 in
theorem m_w_cyold {K : Act → World → Prop} {g : Nat} {vs : List Value} (hb : k.Box w g 0 vs) (hl : vs.length = 41) (b : Ax) (S N W : Sl) (i : In) (L : Sl) (t u : Nat) (ho : op.op = .store 77 (.tmp t) (.tmp u)) (hd : op.dst = none) (hx : a.eval (.tmp t) = .pointer (some ⟨g, 0, none⟩)) (hy : a.eval (.tmp u) = cyV b S N W i L)
  (h : ∀ w', Only g w w' → k.Box w' g 0 (cyC b S N W i L nS false false) → K a w') : op.wp Tryz.prog a w K Q := by
 have ho2 := (Only.refl g w).sets (cyC b S N W i L nS false false) 0
 obtain ⟨w2, e2, x1, h2, h3, h4⟩ := put_old (us := cyC b S N W i L nS false false) hb (by rw [hl]; rfl)
 rw [e2] at ho2
 refine wp_store_mid 77 (.tmp t) (.tmp u) ho g 0 (cyA b S N W i L) hx hy (k.there_of hb (by rw [hl]; rfl)) (by kernel_rfl) (cyA_ones _ _ _ _ _ _) ?_
 rw [hd]
 show K a (World.setCells _ _ _ (cyC b S N W i L nS false false))
 rw [e2]
 exact h w2 ho2 x1
end
theorem cyc_made {base g : Nat} {w : World} {a : Ax} {S N W : Sl} {i : In} {L : Sl} (hg : base ≤ g) (hb : k.Box w g 0 (cyC a S N W i L nS false false)) (hr : RdA w w.heap.size a S N W) (ho : OffA g S N W) (hn : ∀ q, q < base → OffA q S N W) : Cyc base g i L none a [] false false w :=
 ⟨S, N, W, nS, ⟨hg, hb, hr, ho, hn, Ow.nil _ _ _ _ _, fun b h => by cases h⟩, rfl⟩
theorem Fx.under {g B : Nat} {w w' : World} {tb : Option Nat} (h : Fx g none w tb w') (h1 : B ≤ g) (h2 : B ≤ w.heap.size) : Below B w w' :=
 ⟨h.fr.os, h.fr.tape, h.fr.output, h.fr.size, fun q hq => h.fr.block q (by omega) (by omega) (by simp)⟩
theorem told_lies {g : Nat} {w : World} {T : Sl} {R : List Rp} (h : OwR w (g + 1) T.v R) : RdR w w.heap.size T.A T.n T.c R ∧ ∀ q, q ≤ g → Off q T := by
 obtain ⟨A1, c1, e1, hw⟩ := h.form rpC_len
 have hl := h.lt
 injection e1 with e1 e2 e3
 rw [← e1, ← e3, ← e2] at hw
 refine ⟨hw, fun q hq hn b o x e => ?_⟩
 have h1 := h.lt b (by
  show Value.ownBlock (.slice T.A T.n T.c) = some b
  obtain ⟨b', o', e', _, _⟩ := hw.2.2.2.2 hn
  rw [e] at e'
  rw [e]
  rfl)
 omega
theorem base_in {a : Ax} (hr : RightA a) (k : KeepW a) (c : C) : InR (baseV a c) := by
 have hp := place_in hr
 have hP : InR a.p := small (by omega) (by omega)
 unfold baseV
 cases hN : a.N with
 | nil => exact hP
 | cons n t =>
  dsimp only
  split
  ·have hm : ln.lastC a.N a.W ∈ a.N ++ a.W := by
    have hne : a.N ++ a.W ≠ [] := by rw [hN]; simp
    unfold ln.lastC
    rw [if_pos hr.line, List.getLast?_eq_some_getLast hne]
    exact List.getLast_mem hne
   rw [hN] at hm
   exact (k.cmds _ (by rw [hN]; exact hm)).tgt
  ·split
   ·exact (k.cmds n (by rw [hN]; simp)).tgt
   ·exact hP
theorem given_len {a : Ax} (h : RightA a) (c : C) (f : Bool) : (givenR a c f).length ≤ 11 := by
 unfold givenR
 split
 ·have h1 := addI_len h (keptC a c)
  rw [List.length_append, toldI, List.length_map]
  split <;> simp <;> omega
 ·simp
theorem all_len (m : Int) (f : Bool) : ∀ (l : List C) {a : Ax}, RightA a → (allR m f l a).length ≤ 11 * l.length
 | [], _, _ => by simp [allR]
 | c :: l, a, h => by
  have h1 := given_len h c f
  have h2 := all_len m f l (given_right h c m f)
  rw [allR, List.length_append, List.length_cons]
  omega
theorem first_len {a : Ax} (h : RightA a) (i : In) : (firstR a i).length ≤ 10 := by
 have h1 := h.short
 unfold firstR failedR told
 split
 ·simp; omega
 ·split
  ·simp
  ·split
   ·simp; omega
   ·simp
theorem allA_snoc (m : Int) (f : Bool) (c : C) : ∀ (l : List C) (a : Ax), allA m f (l ++ [c]) a = givenA (allA m f l a) c m f
 | [], _ => rfl
 | d :: l, a => by rw [List.cons_append, allA, allA, allA_snoc m f c l]
theorem allR_snoc (m : Int) (f : Bool) (c : C) : ∀ (l : List C) (a : Ax), allR m f (l ++ [c]) a = allR m f l a ++ givenR (allA m f l a) c f
 | [], _ => by simp [allR, allA]
 | d :: l, a => by rw [List.cons_append, allR, allR, allA, allR_snoc m f c l, List.append_assoc]
end Go.Proofs.YtijlccblabadaaaGreat.cx
end
