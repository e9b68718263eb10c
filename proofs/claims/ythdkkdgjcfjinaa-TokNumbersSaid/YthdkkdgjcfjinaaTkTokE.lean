/- What the methods of the landed tok's reader do: place, pass, skip and take. Conditions: the text has at most 20000 bytes; skip: the library's variable MaxLen holds some number. -/
import Derived.Test.YthdkkdgjcfjinaaTkTokD
namespace Go.Proofs.Ythdkkdgjcfjinaa.tk
open Go.ChangeShapes Go.WideShapes Go.ChangeAt Go.RowKit Go.Proofs.Ythdkkdgjcfjinaa.k Go.Proofs.Ythdkkdgjcfjinaa.rr
set_option linter.unusedVariables false

theorem gr_refl (w : World) (row : Option Nat) : w.grownBy w row := ⟨rfl, rfl, rfl, Nat.le_refl _, fun _ _ _ => rfl⟩
theorem gr_trans {a b c : World} {row : Option Nat} (h : a.grownBy b row) (h2 : b.grownBy c row) : a.grownBy c row :=
  ⟨h2.os.trans h.os, h2.tape.trans h.tape, h2.output.trans h.output, Nat.le_trans h.size h2.size, fun q hq hr => (h2.block q (Nat.lt_of_lt_of_le hq h.size) hr).trans (h.block q hq hr)⟩
theorem gr_of {w w' : World} {row : Option Nat} (h : Below w.heap.size w w') : w.grownBy w' row := ⟨h.os, h.tape, h.output, h.size, fun q hq _ => h.block q hq⟩
theorem gr_set (w : World) (g i : Nat) (x : Value) : w.grownBy (w.setCell ⟨g, i, none⟩ x) (some g) :=
  ⟨rfl, rfl, rfl, by simp, fun q hq hr => Below.heap_setCell w ⟨g, i, none⟩ x q (fun e => hr (by rw [e]))⟩
theorem gr_drawn {w w' : World} {row : Option Nat} (h : w.grownBy w' row) (n : Nat) : w.grownBy (w'.drewN n) row := ⟨h.os, h.tape, h.output, h.size, h.block⟩
theorem gr_below {B g : Nat} {w w' : World} (h : w.grownBy w' (some g)) (h1 : B ≤ g) (h2 : B ≤ w.heap.size) : Below B w w' :=
  ⟨h.os, h.tape, h.output, h.size, fun q hq => h.block q (by omega) (fun e => by injection e with e; omega)⟩
theorem gr_box {g v o : Nat} {w w' : World} {vs : List Value} (h : w.grownBy w' (some g)) (hv : v < w.heap.size) (hne : v ≠ g) (hb : Box w v o vs) : Box w' v o vs := by
  have he := h.block v hv (fun e => hne (by injection e))
  clear hv
  induction vs generalizing o with
  | nil => trivial
  | cons u vs ih => exact ⟨(World.cell?_of_block (a := ⟨v, o, none⟩) he).trans hb.1, (World.frozen?_of_block (a := ⟨v, o, none⟩) he).trans hb.2.1, ih hb.2.2⟩
theorem gr_then {w w' w2 : World} {row : Option Nat} (h : w.grownBy w' row) (hb : Below w.heap.size w' w2) : w.grownBy w2 row :=
  ⟨hb.os.trans h.os, hb.tape.trans h.tape, hb.output.trans h.output, Nat.le_trans h.size hb.size, fun q hq hr => (hb.block q hq).trans (h.block q hq hr)⟩
theorem MaxL.gr {w w' : World} {g : Nat} {r : ByteArray} (hM : MaxL w) (hc : w.cell? ⟨g, 0, none⟩ = some (.string r)) (h : w.grownBy w' (some g)) : MaxL w' := by
  have hlt := hM.lt
  obtain ⟨m, hm⟩ := hM
  refine ⟨m, (World.cell?_of_block (h.block _ hlt (fun e => ?_))).trans hm⟩
  injection e with e
  subst e
  rw [hm] at hc
  cases hc
theorem results_no {P : Program} {fn : Func} (h : fn.results = #[]) (tmps : Array Value) (w : World) : (results fn tmps).run P w = .ok (.tuple #[]) w := by
  rw [results, h]
  simp
theorem end0 {P : Program} {fn : Func} {Q : Ending → World → Prop} {a : Act} {w : World} (hr : fn.results = #[]) (hd : a.defers = []) (hQ : Q (.returned (.tuple #[])) w) : bodyPost P fn Q .normal a w := bodyPost_end (results_no hr _ _) hd hQ
theorem ret0 {P : Program} {fn : Func} {Q : Ending → World → Prop} {a : Act} {w : World} (hr : fn.results = #[]) (hd : a.defers = []) (hQ : Q (.returned (.tuple #[])) w) : bodyPost P fn Q .ret a w := bodyPost_ret (results_no hr _ _) hd hQ
/-- what is left of a text, as a text -/
def drB (s : ByteArray) (c : Nat) : ByteArray := ⟨(dr s c).toArray⟩
theorem drB_list (s : ByteArray) (c : Nat) : (drB s c).data.toList = dr s c := rfl
theorem drB_size (s : ByteArray) (c : Nat) : (drB s c).size = s.size - c := by rw [← size_len, drB_list, dr_len]
theorem drB_cut (s : ByteArray) (c m : Nat) : (drB s c).extract m (drB s c).size = drB s (c + m) := by
  rw [extract_dr]
  show (⟨((dr (drB s c) m).take ((drB s c).size - m)).toArray⟩ : ByteArray) = _
  rw [List.take_of_length_le (by rw [dr_len]; exact Nat.le_refl _)]
  unfold drB
  rw [← dr_drop]
  rfl
theorem drB_get {s : ByteArray} {c i : Nat} (h : c + i < s.size) : (drB s c)[i]'(by rw [drB_size]; omega) = s[c + i] := by
  have h1 : i < (dr s c).length := by rw [dr_len]; omega
  have h2 : (drB s c)[i]'(by rw [drB_size]; omega) = (dr s c)[i] := by
    show (drB s c).data[i]'_ = _
    simp [drB]
  rw [h2]
  exact List.getElem_drop (xs := s.data.toList) (i := c) (j := i) (h := h1)
/-- the reader of a text, so many bytes behind its beginning -/
def Rdr (w : World) (g : Nat) (s : ByteArray) (c : Nat) : Prop := Box w g 0 [.string (drB s c), .int .i64 (plS s c).1, .int .i64 (plS s c).2]
theorem Rdr.lt {w : World} {g : Nat} {s : ByteArray} {c : Nat} (h : Rdr w g s c) : g < w.heap.size := lt_of_cell h.1
/-- how much is left to a reader -/
def restLen (w : World) (g : Nat) : Nat := match w.cell? ⟨g, 0, none⟩ with
  | some (.string x) => x.size
  | _ => 0
theorem Rdr.len {w : World} {g : Nat} {s : ByteArray} {c : Nat} (h : Rdr w g s c) : restLen w g = s.size - c := by
  unfold restLen
  rw [h.1]
  exact drB_size s c
set_option maxHeartbeats 2000000 in
theorem rplace_any (s : ByteArray) (c g : Nat) (w : World) (hR : Rdr w g s c) : Calls Try.prog 13 #[.pointer (some ⟨g, 0, none⟩)] w fun e w' => e = .returned (.agg #[.int .i64 0, .string ⟨#[]⟩, .int .i64 0, .int .i64 (plS s c).1, .int .i64 (plS s c).2]) ∧ Below w.heap.size w w' := by
  have x4 := Box.new w #[.int .i64 0, .string ⟨#[]⟩, .int .i64 0, .int .i64 0, .int .i64 0] 26
  have hb4 := (Below.refl w.heap.size w).alloc (Nat.le_refl _) (.cells #[.int .i64 0, .string ⟨#[]⟩, .int .i64 0, .int .i64 0, .int .i64 0] 26)
  have hz4 : (w.alloc (.cells #[.int .i64 0, .string ⟨#[]⟩, .int .i64 0, .int .i64 0, .int .i64 0] 26)).heap.size = w.heap.size + 1 := by simp
  have X4 := Lib.hid x4
  have B4 := Lib.hid hb4
  have Z4 := Lib.hid hz4
  clear x4 hb4 hz4
  have hlt := hR.lt
  have R4 : Box (w.alloc (.cells #[.int .i64 0, .string ⟨#[]⟩, .int .i64 0, .int .i64 0, .int .i64 0] 26)) g 0 [.string (drB s c), .int .i64 (plS s c).1, .int .i64 (plS s c).2] := Box.below hR ((Below.refl w.heap.size w).alloc (Nat.le_refl _) _) hlt
  generalize drB s c = r at *
  generalize (plS s c).1 = ln at *
  generalize (plS s c).2 = cl at *
  have hne : ¬ w.heap.size = g := by omega
  have hne2 : ¬ g = w.heap.size := by omega
  clear hR hlt
  go_enter Try.func13, Try.ntmps13
  go_upto_region 1 with (fail)
  generalize w.alloc (.cells #[.int .i64 0, .string ⟨#[]⟩, .int .i64 0, .int .i64 0, .int .i64 0] 26) = w4 at *
  have ⟨a0, k0, a1, k1, a2, k2, _⟩ := R4
  have ⟨c0, f0, c1, f1, c2, f2, c3, f3, c4, f4, _⟩ := X4.out
  go_region
  obtain ⟨y0, _, hB2⟩ := Box.puts (us := [.int .i64 0, .string ⟨#[]⟩, .int .i64 0, .int .i64 ln, .int .i64 cl]) X4.out rfl
  have Y := Lib.hid (box_drew y0)
  have BY := Lib.hid (B4.out.trans (hB2 _ (Nat.le_refl _)).drew)
  clear y0 hB2
  go_wp2
  refine bodyPost_ret (results_cell rfl rfl (run_loadVar_mid _ w.heap.size 0 26 _ _ Y.out.range rfl rfl (by kernel_rfl))) rfl ?_
  exact ⟨rfl, BY.out⟩
set_option maxRecDepth 100000 in
set_option maxHeartbeats 2000000 in
theorem pass_any (s : ByteArray) (hs : s.size ≤ 20000) (c m g : Nat) (hcm : c + m ≤ s.size) (w : World) (hR : Rdr w g s c) : Calls Try.prog 24 #[.pointer (some ⟨g, 0, none⟩), .int .i64 m] w fun e w' => e = .returned (.tuple #[]) ∧ Rdr w' g s (c + m) ∧ w.grownBy w' (some g) := by
  obtain ⟨r, hr⟩ : ∃ r, drB s c = r := ⟨_, rfl⟩
  have hsz : r.size = s.size - c := by rw [← hr]; exact drB_size s c
  have hget : ∀ i (h0 : i < r.size) (h : c + i < s.size), r[i] = s[c + i] := by subst hr; exact fun i _ h => drB_get h
  have hcut : r.extract m r.size = drB s (c + m) := by subst hr; exact drB_cut s c m
  have RR : Hid (Box w g 0 [.string r, .int .i64 (plS s c).1, .int .i64 (plS s c).2]) := Lib.hid (hr ▸ hR)
  have GET := Lib.hid hget
  have CUT := Lib.hid hcut
  have FIN := Lib.hid fun (W : World) (h : Box W g 0 [.string (drB s (c + m)), .int .i64 (plS s (c + m)).1, .int .i64 (plS s (c + m)).2]) => (show Rdr W g s (c + m) from h)
  have LE := Lib.hid fun i => plS_le s i
  have SZ := Lib.hid hsz
  have CM := Lib.hid hcm
  have HS := Lib.hid hs
  clear hget hcut hR hr hsz hcm hs
  go_enter Try.func24, Try.ntmps24
  go_wp2_with fail
  go_loopw [6] (fun s6 wr => ∃ i : Nat, i ≤ m ∧ s6 = .int .i64 i ∧ Box wr g 0 [.string r, .int .i64 (plS s (c + i)).1, .int .i64 (plS s (c + i)).2] ∧ w.grownBy wr (some g)) (fun i _ => m - (intOf i).toNat)
  case atStart => exact ⟨0, Nat.zero_le _, rfl, RR.out, gr_refl _ _⟩
  case round =>
    obtain ⟨i, hi, rfl, hB, hG⟩ := hrel
    have HB := Lib.hid hB
    have HG := Lib.hid hG
    clear RR hB hG
    have hsz := SZ.out
    have hcm := CM.out
    have hs := HS.out
    have w1 : IntKind.i64.wrap ((i : Int) + 1) = i + 1 := by rw [IntKind.wrap_i64]; omega
    by_cases hlt : i < m
    · have hir : i < r.size := by omega
      have hg := GET.out i hir (by omega)
      obtain ⟨x, hx⟩ : ∃ x : UInt8, r[i] = x := ⟨_, rfl⟩
      have hst : plS s (c + i + 1) = stepP (plS s (c + i)) x := by
        unfold plS
        rw [plc_take (by omega), ← hg, hx]
      have hle := LE.out (c + i)
      obtain ⟨⟨ln, cl⟩, hp⟩ : ∃ p, plS s (c + i) = p := ⟨_, rfl⟩
      rw [hp] at HB hle hst
      have hz : (i : Int) < m := by omega
      have hz2 : (i : Int) < r.size := by omega
      simp only at hle HB
      have w2 : IntKind.i64.wrap ((cl : Int) + 1) = cl + 1 := by rw [IntKind.wrap_i64]; omega
      have w3 : IntKind.i64.wrap ((ln : Int) + 1) = ln + 1 := by rw [IntKind.wrap_i64]; omega
      have e2 := eq8n x 10 (by omega)
      rw [show (UInt8.ofNat 10) = 10 from rfl, show ((10 : Nat) : Int) = 10 from rfl] at e2
      have ⟨a0, k0, a1, k1, a2, k2, _⟩ := HB.out
      by_cases h10 : x = 10
      · have HP : Hid (plS s (c + (i + 1)) = (ln + 1, 1)) := Lib.hid (by rw [show c + (i + 1) = c + i + 1 by omega, hst]; unfold stepP; rw [if_pos h10])
        rw [show (x == 10) = true by rw [beq_iff_eq]; exact h10] at e2
        clear hst hp hle hg h10 hsz hcm
        go_wp2_with fail
        go_roundw
        case rel => exact ⟨i + 1, by omega, by go_num, by rw [HP.out]; exact (((HB.out.put 2 (by simp) (.int .i64 (cl + 1))).put 1 (by simp) (.int .i64 (ln + 1))).put 2 (by simp) (.int .i64 1)), gr_trans (gr_trans (gr_trans HG.out (gr_set _ _ _ _)) (gr_set _ _ _ _)) (gr_set _ _ _ _)⟩
        case measure => simp [intOf]; omega
      · have HP : Hid (plS s (c + (i + 1)) = (ln, cl + 1)) := Lib.hid (by rw [show c + (i + 1) = c + i + 1 by omega, hst]; unfold stepP; rw [if_neg h10])
        rw [show (x == 10) = false by rw [beq_eq_false_iff_ne]; exact h10] at e2
        clear hst hp hle hg h10 hsz hcm
        go_wp2_with fail
        go_roundw
        case rel => exact ⟨i + 1, by omega, by go_num, by rw [HP.out]; exact (HB.out.put 2 (by simp) (.int .i64 (cl + 1))), gr_trans HG.out (gr_set _ _ _ _)⟩
        case measure => simp [intOf]; omega
    · have e : i = m := by omega
      subst e
      have hcut := CUT.out
      have z1 : (i : Int) ≤ r.size := by omega
      have hz : ¬ (i : Int) < i := by omega
      have ⟨a0, k0, a1, k1, a2, k2, _⟩ := HB.out
      clear hsz hcm
      go_wp2_with fail
      refine end0 rfl rfl ?_
      exact ⟨rfl, FIN.out _ (HB.out.put 0 (by simp) _), gr_trans HG.out (gr_set _ _ _ _)⟩
theorem pastN_of {s : ByteArray} {n c : Nat} (hc : c ≤ s.size) (h : (past (dr s n)).2 = dr s c) : pastN s n = c := by
  unfold pastN
  rw [h, dr_len]
  omega
set_option maxRecDepth 100000 in
set_option maxHeartbeats 2000000 in
theorem skip_any (s : ByteArray) (hs : s.size ≤ 20000) (c g : Nat) (hc : c ≤ s.size) (w : World) (hM : MaxL w) (hR : Rdr w g s c) : Calls Try.prog 14 #[.pointer (some ⟨g, 0, none⟩)] w fun e w' => e = .returned (.bool (past (dr s c)).1) ∧ Rdr w' g s (pastN s c) ∧ w.grownBy w' (some g) := by
  obtain ⟨R, hRR⟩ : ∃ R, past (dr s c) = R := ⟨_, rfl⟩
  have FIN := Lib.hid fun (d : Nat) (hd : d ≤ s.size) (b : Bool) (W : World) (h : R = (b, dr s d)) (hW : Rdr W g s d) => (show R.1 = b ∧ Rdr W g s (pastN s c) from ⟨by rw [h], by rw [pastN_of hd (by rw [hRR, h])]; exact hW⟩)
  have HR := Lib.hid hRR
  have RR := Lib.hid hR
  have HM := Lib.hid hM
  have HC := Lib.hid hc
  rw [hRR]
  have PA := Lib.hid fun c m g h W hW => pass_any s hs c m g h W hW
  have GA := Lib.hid fun d W hW => gap_any (drB s d) (by rw [drB_size]; omega) W hW
  clear hRR hR hM hc hs
  go_enter Try.func14, Try.ntmps14
  go_wp2_with fail
  go_loopw [5] (fun _ wr => ∃ d : Nat, d ≤ s.size ∧ Rdr wr g s d ∧ past (dr s d) = R ∧ w.grownBy wr (some g) ∧ MaxL wr) (fun _ wr => restLen wr g)
  case atStart => exact ⟨c, HC.out, RR.out, HR.out, gr_refl _ _, HM.out⟩
  case round =>
    obtain ⟨d, hd, hR, hp, hG, hM⟩ := hrel
    obtain ⟨⟨N, ok⟩, hg⟩ : ∃ q, gapS (dr s d) = q := ⟨_, rfl⟩
    have ga := GA.out d wr hM
    rw [drB_list, hg] at ga
    have GB := Lib.hid ga
    have HG := Lib.hid hG
    have HX := Lib.hid hR
    have HMW := Lib.hid hM
    have L1 := Lib.hid hR.len
    clear hG hM ga RR HM HR
    cases ok
    · have HE := Lib.hid (FIN.out d hd false)
      have HP := Lib.hid (hp.symm.trans (gap_no hg))
      clear hp hg hd
      have ⟨a0, k0, a1, k1, a2, k2, _⟩ := hR
      go_wp2_with (go_at_call 23; (with_reducible refine GB.out.mono ?_); rintro e w1 ⟨rfl, n1, rfl⟩)
      go_ret
      have h2 := HE.out _ HP.out (Box.drawn n1 HX.out)
      exact ⟨ret_bool h2.1.symm, h2.2, gr_drawn HG.out n1⟩
    · cases N with
      | zero =>
        have HE := Lib.hid (FIN.out d hd true)
        have HP := Lib.hid (hp.symm.trans (gap_none hg))
        clear hp hg hd
        have ⟨a0, k0, a1, k1, a2, k2, _⟩ := hR
        go_wp2_with (go_at_call 23; (with_reducible refine GB.out.mono ?_); rintro e w1 ⟨rfl, n1, rfl⟩)
        go_ret
        have h2 := HE.out _ HP.out (Box.drawn n1 HX.out)
        exact ⟨ret_bool h2.1.symm, h2.2, gr_drawn HG.out n1⟩
      | succ N =>
        obtain ⟨g1, g2⟩ := gap_some hg
        rw [dr_len] at g1
        rw [dr_drop] at g2
        have HP : Hid (past (dr s (d + (N + 1))) = R) := Lib.hid (g2.symm.trans hp)
        have HD : Hid (d + (N + 1) ≤ s.size) := Lib.hid (by omega)
        have PB : Hid (∀ W, Rdr W g s d → Calls Try.prog 24 #[.pointer (some ⟨g, 0, none⟩), .int .i64 ((N + 1 : Nat) : Int)] W fun e w' => e = .returned (.tuple #[]) ∧ Rdr w' g s (d + (N + 1)) ∧ W.grownBy w' (some g)) := Lib.hid fun W hW => PA.out d (N + 1) g (by omega) W hW
        have G1 := Lib.hid g1
        obtain ⟨M, hMM⟩ : ∃ M, N + 1 = M := ⟨_, rfl⟩
        rw [hMM] at GB HP HD PB G1
        have hz : ((M : Int) == 0) = false := by rw [beq_eq_false_iff_ne]; omega
        have HMP := Lib.hid (show 0 < M by omega)
        clear hp hg g1 g2 hd hMM
        have ⟨a0, k0, a1, k1, a2, k2, _⟩ := hR
        go_wp2_with (first | (go_at_call 23; (with_reducible refine GB.out.mono ?_); rintro e w1 ⟨rfl, n1, rfl⟩; have XX := Lib.hid (show Rdr (wr.drewN n1) g s d from Box.drawn n1 HX.out)) | (go_at_call 24; (with_reducible refine (PB.out _ XX.out).mono ?_); rintro e w2 ⟨rfl, hx, hg⟩; have HX2 := Lib.hid hx; have HG2 := Lib.hid hg; clear hx hg))
        go_roundw
        case rel => exact ⟨d + M, HD.out, HX2.out, HP.out, gr_trans (gr_drawn HG.out n1) HG2.out, MaxL.gr HMW.out HX.out.1 (gr_trans (gr_drawn (gr_refl _ _) n1) HG2.out)⟩
        case measure => rw [L1.out, HX2.out.len]; have := HMP.out; have := G1.out; omega
/-- a sign at the reader's place -/
def atT (t : Tk) (p : Nat × Nat) : Tk := ⟨t.kind, t.text, t.n, p.1, p.2⟩
set_option maxRecDepth 100000 in
set_option maxHeartbeats 2000000 in
theorem take_no (s : ByteArray) (hs : s.size ≤ 20000) (c g : Nat) (E : Int) (hf : fst0 (dr s c) = (zeroT, E)) (hE : E ≠ 0) (w : World) (hR : Rdr w g s c) : Calls Try.prog 15 #[.pointer (some ⟨g, 0, none⟩)] w fun e w' => e = .returned (.tuple #[.agg #[.int .i64 0, .string ⟨#[]⟩, .int .i64 0, .int .i64 0, .int .i64 0], .int .i64 E]) ∧ Below w.heap.size w w' := by
  have x4 := Box.new w #[.int .i64 0, .string ⟨#[]⟩, .int .i64 0, .int .i64 0, .int .i64 0] 26
  have hb4 := (Below.refl w.heap.size w).alloc (Nat.le_refl _) (.cells #[.int .i64 0, .string ⟨#[]⟩, .int .i64 0, .int .i64 0, .int .i64 0] 26)
  have hz4 : (w.alloc (.cells #[.int .i64 0, .string ⟨#[]⟩, .int .i64 0, .int .i64 0, .int .i64 0] 26)).heap.size = w.heap.size + 1 := by simp
  have X4 := Lib.hid x4
  have B4 := Lib.hid hb4
  have Z4 := Lib.hid hz4
  clear x4 hb4 hz4
  have FI := first_any (drB s c) (by rw [drB_size]; omega)
  rw [drB_list, hf] at FI
  have FI : Hid (∀ W, Calls Try.prog 25 #[.string (drB s c)] W fun e w' => e = .returned (.tuple #[.agg #[.int .i64 0, .string ⟨#[]⟩, .int .i64 0, .int .i64 0, .int .i64 0], .int .i64 E]) ∧ Below W.heap.size W w') := Lib.hid FI
  have hlt := hR.lt
  have R4 := Lib.hid (Box.below hR B4.out hlt)
  have hz : (E == 0) = false := by rw [beq_eq_false_iff_ne]; exact hE
  clear hf hE hs hR
  generalize drB s c = r at *
  generalize (plS s c).1 = ln at *
  generalize (plS s c).2 = cl at *
  go_enter Try.func15, Try.ntmps15
  go_upto_region 1 with (fail)
  generalize w.alloc (.cells #[.int .i64 0, .string ⟨#[]⟩, .int .i64 0, .int .i64 0, .int .i64 0] 26) = w4 at *
  have ⟨a0, k0, a1, k1, a2, k2, _⟩ := R4.out
  go_upto_region 2 with (go_at_call 25; (with_reducible refine (FI.out _).mono ?_); rintro e w5 ⟨rfl, hb⟩; have X5 := Lib.hid (X4.out.below hb (Nat.lt_of_lt_of_eq (Nat.lt_succ_self _) Z4.out.symm)); have B5 := Lib.hid (B4.out.trans (hb.mono B4.out.size)); have S5 := Lib.hid (show w.heap.size < w5.heap.size from Nat.lt_of_lt_of_le (by have := Z4.out; omega) hb.size); clear hb)
  have hb6 := Below.alloc (Below.refl w5.heap.size w5) (Nat.le_refl _) (.cells #[.int .i64 0, .string ⟨#[]⟩, .int .i64 0, .int .i64 0, .int .i64 0] 26)
  have X6 := Lib.hid (X5.out.below hb6 S5.out)
  have B6 := Lib.hid (B5.out.trans (hb6.mono B5.out.size))
  clear hb6 a0 k0 a1 k1 a2 k2
  generalize w5.alloc (.cells #[.int .i64 0, .string ⟨#[]⟩, .int .i64 0, .int .i64 0, .int .i64 0] 26) = w6 at *
  have ⟨c0, f0, c1, f1, c2, f2, c3, f3, c4, f4, _⟩ := X6.out
  go_wp2_with fail
  obtain ⟨y, _, hB2⟩ := Box.puts (us := [.int .i64 0, .string ⟨#[]⟩, .int .i64 0, .int .i64 0, .int .i64 0]) X6.out rfl
  refine bodyPost_ret (k.results_cell_tmp rfl rfl (run_loadVar_mid _ w.heap.size 0 26 _ _ y.range rfl rfl (by kernel_rfl))) rfl ?_
  exact ⟨rfl, B6.out.trans (hB2 _ (Nat.le_refl _))⟩
set_option maxRecDepth 100000 in
set_option maxHeartbeats 4000000 in
theorem take_yes (s : ByteArray) (hs : s.size ≤ 20000) (c g : Nat) (T : Tk) (hf : fst0 (dr s c) = (T, 0)) (hT : c + T.text.length ≤ s.size) (w : World) (hR : Rdr w g s c) : Calls Try.prog 15 #[.pointer (some ⟨g, 0, none⟩)] w fun e w' => e = .returned (.tuple #[.agg #[.int .i64 T.kind, .string ⟨T.text.toArray⟩, .int .i64 T.n, .int .i64 (plS s c).1, .int .i64 (plS s c).2], .int .i64 0]) ∧ Rdr w' g s (c + T.text.length) ∧ w.grownBy w' (some g) := by
  have x4 := Box.new w #[.int .i64 0, .string ⟨#[]⟩, .int .i64 0, .int .i64 0, .int .i64 0] 26
  have hb4 := (Below.refl w.heap.size w).alloc (Nat.le_refl _) (.cells #[.int .i64 0, .string ⟨#[]⟩, .int .i64 0, .int .i64 0, .int .i64 0] 26)
  have hz4 : (w.alloc (.cells #[.int .i64 0, .string ⟨#[]⟩, .int .i64 0, .int .i64 0, .int .i64 0] 26)).heap.size = w.heap.size + 1 := by simp
  have X4 := Lib.hid x4
  have B4 := Lib.hid hb4
  have Z4 := Lib.hid hz4
  clear x4 hb4 hz4
  have FI := first_any (drB s c) (by rw [drB_size]; omega)
  rw [drB_list, hf] at FI
  have FI : Hid (∀ W, Calls Try.prog 25 #[.string (drB s c)] W fun e w' => e = .returned (.tuple #[.agg #[.int .i64 T.kind, .string ⟨T.text.toArray⟩, .int .i64 T.n, .int .i64 T.line, .int .i64 T.col], .int .i64 0]) ∧ Below W.heap.size W w') := Lib.hid FI
  have hlt := hR.lt
  have R4 := Lib.hid (Box.below hR B4.out hlt)
  have PA : Hid (∀ W, Rdr W g s c → Calls Try.prog 24 #[.pointer (some ⟨g, 0, none⟩), .int .i64 T.text.length] W fun e w' => e = .returned (.tuple #[]) ∧ Rdr w' g s (c + T.text.length) ∧ W.grownBy w' (some g)) := Lib.hid fun W hW => pass_any s hs c _ g hT W hW
  have RDR := Lib.hid (show ∀ W, Box W g 0 [.string (drB s c), .int .i64 (plS s c).1, .int .i64 (plS s c).2] → Rdr W g s c from fun W h => h)
  have hlen : (⟨T.text.toArray⟩ : ByteArray).size = T.text.length := arr_size _
  clear hf hs hR hT
  generalize drB s c = r at *
  generalize (plS s c).1 = ln at *
  generalize (plS s c).2 = cl at *
  obtain ⟨kd, tx, nn, l0, c0⟩ := T
  simp only at FI PA hlen
  generalize tx.length = N at *
  generalize (⟨tx.toArray⟩ : ByteArray) = X at *
  go_enter Try.func15, Try.ntmps15
  go_upto_region 1 with (fail)
  generalize w.alloc (.cells #[.int .i64 0, .string ⟨#[]⟩, .int .i64 0, .int .i64 0, .int .i64 0] 26) = w4 at *
  have ⟨a0, k0, a1, k1, a2, k2, _⟩ := R4.out
  go_upto_region 2 with (go_at_call 25; (with_reducible refine (FI.out _).mono ?_); rintro e w5 ⟨rfl, hb⟩; have X5 := Lib.hid (X4.out.below hb (Nat.lt_of_lt_of_eq (Nat.lt_succ_self _) Z4.out.symm)); have B5 := Lib.hid (B4.out.trans (hb.mono B4.out.size)); have S5 := Lib.hid (show w.heap.size < w5.heap.size from Nat.lt_of_lt_of_le (by have := Z4.out; omega) hb.size); have R5 := Lib.hid (R4.out.below hb (by have := Z4.out; omega)); clear hb)
  have hb6 := Below.alloc (Below.refl w5.heap.size w5) (Nat.le_refl _) (.cells #[.int .i64 kd, .string X, .int .i64 nn, .int .i64 l0, .int .i64 c0] 26)
  have N6 := Box.new w5 #[.int .i64 kd, .string X, .int .i64 nn, .int .i64 l0, .int .i64 c0] 26
  have hz6 : (w5.alloc (.cells #[.int .i64 kd, .string X, .int .i64 nn, .int .i64 l0, .int .i64 c0] 26)).heap.size = w5.heap.size + 1 := by simp
  have X6 := Lib.hid (X5.out.below hb6 S5.out)
  have R6 := Lib.hid (R5.out.below hb6 (by have := S5.out; omega))
  have B6 := Lib.hid (B5.out.trans (hb6.mono B5.out.size))
  clear hb6 a0 k0 a1 k1 a2 k2
  generalize w5.alloc (.cells #[.int .i64 kd, .string X, .int .i64 nn, .int .i64 l0, .int .i64 c0] 26) = w6 at *
  have S5 := S5.out
  generalize w5.heap.size = g5 at *
  have ⟨a0, k0, a1, k1, a2, k2, _⟩ := R6.out
  have ⟨c0, f0, c1, f1, c2, f2, c3, f3, c4, f4, _⟩ := N6
  have hne : ¬ g5 = g := by omega
  have hne2 : ¬ g = g5 := by omega
  go_upto_region 4 with (fail)
  go_region
  have n7 := box_drew ((Box.put N6 3 (by simp) (.int .i64 ln)).put 4 (by simp) (.int .i64 cl))
  have x7 := box_drew (Box_aside (show g5 ≠ w.heap.size by omega) (i := 4) (.int .i64 cl) (Box_aside (show g5 ≠ w.heap.size by omega) (i := 3) (.int .i64 ln) X6.out))
  have r7 := box_drew (Box_aside hne (i := 4) (.int .i64 cl) (Box_aside hne (i := 3) (.int .i64 ln) R6.out))
  have b7 := ((B6.out.setCell (p := ⟨g5, 3, none⟩) (show w.heap.size ≤ g5 by omega) (.int .i64 ln)).setCell (p := ⟨g5, 4, none⟩) (show w.heap.size ≤ g5 by omega) (.int .i64 cl)).drew
  have s7 : (((w6.setCell ⟨g5, 3, none⟩ (.int .i64 ln)).setCell ⟨g5, 4, none⟩ (.int .i64 cl)).drew).heap.size = g5 + 1 := by
    show ((w6.setCell ⟨g5, 3, none⟩ (.int .i64 ln)).setCell ⟨g5, 4, none⟩ (.int .i64 cl)).heap.size = _
    simp [hz6]
  clear a0 k0 a1 k1 a2 k2 c0 f0 c1 f1 c2 f2 c3 f3 c4 f4 N6 X6 R6 B6 hz6
  generalize (((w6.setCell ⟨g5, 3, none⟩ (.int .i64 ln)).setCell ⟨g5, 4, none⟩ (.int .i64 cl)).drew) = w7 at *
  simp only [List.set_cons_succ, List.set_cons_zero] at n7
  have N7 := Lib.hid n7
  have X7 := Lib.hid x7
  have R7 := Lib.hid (RDR.out _ r7)
  have B7 := Lib.hid b7
  have S7 := Lib.hid s7
  have HLT := Lib.hid hlt
  have HG5 := Lib.hid S5
  have NE := Lib.hid (show w.heap.size ≠ g by omega)
  have ⟨c0, f0, c1, f1, c2, f2, c3, f3, c4, f4, _⟩ := n7
  clear n7 x7 r7 b7 s7
  clear hne hne2 S5 hlt
  go_wp2_with (go_at_call 24; fail)
  with_reducible refine (PA.out _ R7.out).mono ?_
  rintro e w8 ⟨rfl, hx, hg⟩
  have N8 := Lib.hid (gr_box hg (by have := S7.out; omega) (by have := HG5.out; have := HLT.out; omega) N7.out)
  have X8 := Lib.hid (gr_box hg (by have := S7.out; have := HG5.out; omega) NE.out X7.out)
  have R8 := Lib.hid hx
  have G8 := Lib.hid (gr_trans (gr_of B7.out) hg)
  clear hx hg c0 f0 c1 f1 c2 f2 c3 f3 c4 f4 PA RDR FI N7 X7 R7
  have ⟨d0, _, d1, _, d2, _, d3, _, d4, _, _⟩ := N8.out
  have ⟨c0, f0, c1, f1, c2, f2, c3, f3, c4, f4, _⟩ := X8.out
  go_wp2_with fail
  obtain ⟨y, _, hB2⟩ := Box.puts (us := [.int .i64 kd, .string X, .int .i64 nn, .int .i64 ln, .int .i64 cl]) X8.out rfl
  have yr : Rdr (k.puts w8 w.heap.size 0 [.int .i64 kd, .string X, .int .i64 nn, .int .i64 ln, .int .i64 cl]) g s (c + N) := Box_puts_aside NE.out [.int .i64 kd, .string X, .int .i64 nn, .int .i64 ln, .int .i64 cl] 0 w8 R8.out
  have yg : w.grownBy (k.puts w8 w.heap.size 0 [.int .i64 kd, .string X, .int .i64 nn, .int .i64 ln, .int .i64 cl]) (some g) := gr_then G8.out (hB2 _ (Nat.le_refl _))
  refine bodyPost_ret (k.results_cell_tmp rfl rfl (run_loadVar_mid _ w.heap.size 0 26 _ _ y.range rfl rfl (by kernel_rfl))) rfl ?_
  exact ⟨rfl, yr, yg⟩
end Go.Proofs.Ythdkkdgjcfjinaa.tk
