/- The landed writer's expressions. Conditions: the expression is one that a text could give; what the writer holds stays within 2^47 bytes. -/
import Derived.Test.YtdefgghhkknnpaaGreatDoorV03
namespace Go.Proofs.YtdefgghhkknnpaaGreatDoor.sh
open Go.ChangeShapes Go.WideShapes Go.ChangeAt Go.RowKit Go.Proofs.YtdefgghhkknnpaaGreatDoor Go.Proofs.YtdefgghhkknnpaaGreatDoor.k Go.Proofs.YtdefgghhkknnpaaGreatDoor.rr Go.Proofs.YtdefgghhkknnpaaGreatDoor.tk Go.Proofs.YtdefgghhkknnpaaGreatDoor.tr
set_option linter.unusedVariables false
set_option linter.unusedSimpArgs false

theorem still_named {id : Nat} {Q : Exit → Act → World → Prop} {a : Act} {w : World} {l : List Oper} (n : Nat) (hB : Region.lexTailB .any l.toArray n = true)
    (h : ∀ w2 : World, (∀ p, w2.cell? p = w.cell? p) → (∀ p, w2.frozen? p = w.frozen? p) → (∀ B, Below B w w2) → w2.heap = w.heap → wpStill Tryz.prog l.toArray w2 (fun a' => wpList Tryz.prog l.toArray Q (l.drop n) a' w2) (l.take n) a) : (Code.region id l.toArray true).wp Tryz.prog Q a w :=
  wp_region_still_tail n (by kernel_rfl) hB (h _ (fun _ => rfl) (fun _ => rfl) (fun _ => (Below.refl _ _).drew) rfl)
/-- a writer, and what it needs of the world -/
structure Wx (B g : Nat) (l : Str) (w : World) : Prop where
  wr : Wr B g l w
  le : B ≤ w.heap.size
  laid : Laid w
  gl : 0 < B
theorem laid_of {w w' : World} {B : Nat} (h : Laid w) (hb : Below B w w') (hB : 0 < B) : Laid w' := by
  unfold Laid Lib.TabIs World.var? at *
  rw [gPow] at h ⊢
  simp only [Option.bind_some] at h ⊢
  rw [hb.block _ hB]
  exact h
theorem Wx.step {B g : Nat} {l l' : Str} {w w' : World} (h : Wx B g l w) (hw : Wr B g l' w') (hf : Fr B g w w') : Wx B g l' w' := ⟨hw, Nat.le_trans h.le hf.2.2, laid_of h.laid hf.1 h.gl, h.gl⟩
theorem Wx.below {B g : Nat} {l : Str} {w w' : World} (h : Wx B g l w) (hb : Below w.heap.size w w') : Wx B g l w' := ⟨h.wr.below hb, Nat.le_trans h.le hb.size, laid_of h.laid (hb.mono h.le) h.gl, h.gl⟩
theorem Wx.drew {B g : Nat} {l : Str} {w w' : World} (h : Wx B g l w) (hb : ∀ B, Below B w w') : Wx B g l w' := h.below (hb _)
/-- what a call of a writer leaves: it holds so much more -/
def Put (B g : Nat) (l t : Str) (w : World) (e : Ending) (w' : World) : Prop := e = .returned (.tuple #[]) ∧ Wx B g (l ++ t) w' ∧ Fr B g w w'
/-- texts in a new row -/
theorem put_new {B g : Nat} {l : Str} (L : List Str) {t : Str} (ht : L.flatten = t) {w : World} (h : Wx B g l w) (hm : L.length ≤ 9) (hlen : l.length + t.length ≤ lim) :
    Calls Tryz.prog 35 #[.pointer (some ⟨g, 0, none⟩), .slice (some ⟨w.heap.size, 0, none⟩) L.length L.length] (w.alloc (.cells (L.map sv).toArray 9)) (Put B g l t w) := by
  subst ht
  have hb := al1 w (.cells (L.map sv).toArray 9)
  have h1 := h.below hb
  refine (put_any h1.wr h1.le (Hb.new w (L.map sv) 9) (by have := h.wr.lt; omega) hm hlen).mono ?_
  rintro e w' ⟨rfl, hw, hf⟩
  have hf1 : Fr B g w w' := (Fr.of hb h.le).trans hf
  exact ⟨rfl, h.step hw hf1, hf1⟩
theorem Put.more {B g : Nat} {l t t' : Str} {w w1 : World} {e : Ending} {w' : World} (hf : Fr B g w w1) (h : Put B g (l ++ t) t' w1 e w') : Put B g l (t ++ t') w e w' := by
  obtain ⟨a, b, c⟩ := h
  rw [List.append_assoc] at b
  exact ⟨a, b, hf.trans c⟩
/-- what is boxed at a call's beginning -/
theorem Wx.box {B g : Nat} {l : Str} {w : World} (h : Wx B g l w) (vs : List Value) (T : TypeId) : ∃ w1, w.alloc (.cells vs.toArray T) = w1 ∧ Wx B g l w1 ∧ Hb w1 w.heap.size T vs ∧ Fr B g w w1 ∧ w.heap.size ≠ g :=
  ⟨_, rfl, h.below (al1 _ _), Hb.new w vs T, Fr.of (al1 _ _) h.le, by have := h.wr.lt; omega⟩
/-- the writer's expressions up to a size -/
def WrE (N : Nat) : Prop := ∀ x : Ex, SizeOf.sizeOf x < N → ∀ (h : EH) (B g : Nat) (l : Str) (w : World), Wx B g l w → ExAt w B x h → exB x = true → l.length + (exS x).length ≤ lim →
  Calls Tryz.prog 99 #[.pointer (some ⟨g, 0, none⟩), .agg (eC h).toArray] w (Put B g l (exS x) w)
def ArE (N : Nat) : Prop := ∀ x : Ex, SizeOf.sizeOf x < N → ∀ (h : EH) (B g : Nat) (l a b : Str) (w : World), Wx B g l w → ExAt w B x h → exB x = true → l.length + (a ++ exS x ++ b).length ≤ lim →
  Calls Tryz.prog 100 #[.pointer (some ⟨g, 0, none⟩), sv a, .agg (eC h).toArray, sv b] w (Put B g l (a ++ exS x ++ b) w)
set_option maxRecDepth 100000 in
set_option maxHeartbeats 4000000 in
theorem around_step {N : Nat} (IH : WrE N) : ArE N := by
  intro x hN h B g l a b w hK hx hxb hlen
  rw [List.length_append, List.length_append] at hlen
  obtain ⟨w1, e1, K1, H1, F1, ng⟩ := hK.box (eC h) 44
  have P1 := Lib.hid (put_new [a] (t := a) (by simp) K1 (by simp) (by omega))
  have XX := Lib.hid fun W (hf : Fr B g w W) (hW : Wx B g (l ++ a) W) => IH x hN h B g (l ++ a) W hW (hx.below hf.1 (Nat.le_refl _)) hxb (by rw [List.length_append]; omega)
  have P3 := Lib.hid fun W (hW : Wx B g (l ++ a ++ exS x) W) => put_new [b] (t := b) (by simp) hW (by simp) (by rw [List.length_append, List.length_append]; omega)
  have F1 := Lib.hid F1
  have H1 := Lib.hid H1
  have NG := Lib.hid ng
  clear hK K1 hlen IH hx hxb hN ng
  go_enter Tryz.func100, Tryz.ntmps100
  go_upto_region 1 with (fail)
  unfold sv
  subst e1
  generalize w.alloc (.cells (eC h).toArray 44) = w1 at *
  go_wp2_with (go_at_call 35; fail)
  refine P1.out.mono ?_
  rintro e w2 ⟨rfl, k2, f2⟩
  have K2 := Lib.hid k2
  have F2 := Lib.hid (F1.out.trans f2)
  have H2 := Lib.hid (H1.out.fr f2 NG.out (by decide))
  clear k2 f2 P1 F1 H1
  go_wp2_with (first | ((with_reducible refine m_load H2.out.box 44 6 ?_ ?_ ?_ ?_ ?_ ?_); rfl; rfl; rfl; rfl; kernel_rfl) | (go_at_call 99; fail))
  refine (XX.out _ F2.out K2.out).mono ?_
  rintro e w3 ⟨rfl, k3, f3⟩
  have K3 := Lib.hid k3
  have F3 := Lib.hid (F2.out.trans f3)
  clear k3 f3 XX K2 F2 H2
  go_wp2_with (go_at_call 35; fail)
  refine (P3.out _ K3.out).mono ?_
  rintro e w4 ⟨rfl, k4, f4⟩
  have K4 := Lib.hid k4
  have F4 := Lib.hid (F3.out.trans f4)
  clear k4 f4 P3 K3 F3
  go_wp2_with fail
  go_end0
  exact ⟨rfl, by have := K4.out; simpa only [List.append_assoc] using this, F4.out⟩
theorem exS_1 (n : Int) (s f : Str) (sub : List Ex) (ln : Int) : exS (.mk 1 n s f sub ln) = numS n := by rw [exS, exT, if_pos rfl]
theorem exS_2 (n : Int) (s f : Str) (sub : List Ex) (ln : Int) : exS (.mk 2 n s f sub ln) = truthS n := by rw [exS, exT, if_neg (by decide), if_pos rfl]
theorem exS_3 (n : Int) (s f : Str) (sub : List Ex) (ln : Int) : exS (.mk 3 n s f sub ln) = s := by rw [exS, exT, if_neg (by decide), if_neg (by decide), if_pos rfl]
theorem exS_4 (n : Int) (s f : Str) (y : Ex) (ln : Int) : exS (.mk 4 n s f [y] ln) = s ++ [91] ++ exS y ++ [93] := by
  rw [exS, exsS, exsS, exT, if_neg (by decide), if_neg (by decide), if_neg (by decide), if_pos rfl]
  rfl
theorem exS_5 (n : Int) (s f : Str) (sub : List Ex) (ln : Int) : exS (.mk 5 n s f sub ln) = s ++ [46] ++ f := by
  rw [exS, exT, if_neg (by decide), if_neg (by decide), if_neg (by decide), if_neg (by decide), if_pos rfl]
theorem exS_6 (n : Int) (s f : Str) (y : Ex) (ln : Int) : exS (.mk 6 n s f [y] ln) = [40, 45] ++ exS y ++ [41] := by
  rw [exS, exsS, exsS, exT, if_neg (by decide), if_neg (by decide), if_neg (by decide), if_neg (by decide), if_neg (by decide), if_pos rfl]
  rfl
theorem exS_7 (n : Int) (s f : Str) (y : Ex) (ln : Int) : exS (.mk 7 n s f [y] ln) = [40, 78, 79, 84, 32] ++ exS y ++ [41] := by
  rw [exS, exsS, exsS, exT, if_neg (by decide), if_neg (by decide), if_neg (by decide), if_neg (by decide), if_neg (by decide), if_neg (by decide), if_pos rfl]
  rfl
theorem exS_8 {op : Int} (h : 8 ≤ op) (n : Int) (s f : Str) (y z : Ex) (ln : Int) : exS (.mk op n s f [y, z] ln) = [40] ++ exS y ++ ([32] ++ opS op ++ [32]) ++ exS z ++ [41] := by
  rw [exS, exsS, exsS, exsS, exT, if_neg (by omega), if_neg (by omega), if_neg (by omega), if_neg (by omega), if_neg (by omega), if_neg (by omega), if_neg (by omega)]
  rfl
end Go.Proofs.YtdefgghhkknnpaaGreatDoor.sh

/- The landed writer's expressions, whole. Conditions: the expression is one that a text could give; what the writer holds stays within 2^47 bytes. -/
namespace Go.Proofs.YtdefgghhkknnpaaGreatDoor.sh
open Go.ChangeShapes Go.WideShapes Go.ChangeAt Go.RowKit Go.Proofs.YtdefgghhkknnpaaGreatDoor Go.Proofs.YtdefgghhkknnpaaGreatDoor.k Go.Proofs.YtdefgghhkknnpaaGreatDoor.rr Go.Proofs.YtdefgghhkknnpaaGreatDoor.tk Go.Proofs.YtdefgghhkknnpaaGreatDoor.tr
set_option linter.unusedVariables false
set_option linter.unusedSimpArgs false

theorem nm_len {s : Str} (h : nmB s = true) : s.length ≤ 16 := (nm_sgn h).2.2.2
theorem cat_sv (a b : Str) : (⟨a.toArray⟩ : ByteArray) ++ ⟨b.toArray⟩ = ⟨(a ++ b).toArray⟩ := by
  apply ByteArray.ext
  apply Array.toList_inj.1
  simp
theorem sz_sv (a : Str) : (⟨a.toArray⟩ : ByteArray).size = a.length := rfl
/-- the one expression in another one -/
theorem sub_one {w : World} {B : Nat} {s : Sl} {sub : List Ex} (h : ExL w B s sub) (hl : sub.length = 1) : ∃ y h0 b o, sub = [y] ∧ ExAt w B y h0 ∧ s.A = some ⟨b, o, none⟩ ∧ b < B ∧ w.rangeAt b o (eC h0) ∧ s.l = 1 := by
  obtain ⟨H, h1, h2⟩ := h
  match sub, hl with
  | [y], _ =>
    have hls : s.l = 1 := by have := h2.len; rw [← h1.1, this]; rfl
    obtain ⟨b, o, h0, hA, hb, hp, hc⟩ := Rd.at h1 (i := 0) (by omega)
    obtain ⟨y', hy, hy2⟩ := h2.at hp
    obtain rfl : y = y' := by simpa using hy
    rw [Nat.zero_mul, Nat.add_zero] at hc
    exact ⟨y, h0, b, o, rfl, hy2, hA, hb, hc, hls⟩
theorem sub_two {w : World} {B : Nat} {s : Sl} {sub : List Ex} (h : ExL w B s sub) (hl : sub.length = 2) : ∃ y z h0 h1 b o, sub = [y, z] ∧ ExAt w B y h0 ∧ ExAt w B z h1 ∧ s.A = some ⟨b, o, none⟩ ∧ b < B ∧ w.rangeAt b o (eC h0) ∧ w.rangeAt b (o + 6) (eC h1) ∧ s.l = 2 := by
  obtain ⟨H, h1, h2⟩ := h
  match sub, hl with
  | [y, z], _ =>
    have hls : s.l = 2 := by have := h2.len; rw [← h1.1, this]; rfl
    obtain ⟨b, o, h0, hA, hb, hp, hc⟩ := Rd.at h1 (i := 0) (by omega)
    obtain ⟨y', hy, hy2⟩ := h2.at hp
    obtain rfl : y = y' := by simpa using hy
    obtain ⟨b', o', k0, hA', hb', hp', hc'⟩ := Rd.at h1 (i := 1) (by omega)
    obtain ⟨z', hz, hz2⟩ := h2.at hp'
    obtain rfl : z = z' := by simpa using hz
    rw [hA] at hA'
    injection hA' with hA'
    injection hA' with e1 e2 _
    subst e1 e2
    rw [Nat.zero_mul, Nat.add_zero] at hc
    rw [Nat.one_mul] at hc'
    exact ⟨y, z, h0, k0, b, o, rfl, hy2, hz2, hA, hb, hc, hc', hls⟩
theorem range_cells {w : World} {b o : Nat} {h : EH} (hc : w.rangeAt b o (eC h)) : w.cell? ⟨b, o, none⟩ = some (.int .i64 h.op) ∧ w.cell? ⟨b, o + 1, none⟩ = some (.int .i64 h.n) ∧ w.cell? ⟨b, o + 2, none⟩ = some (sv h.name) ∧ w.cell? ⟨b, o + 3, none⟩ = some (sv h.field) ∧ w.cell? ⟨b, o + 4, none⟩ = some h.sub.v ∧ w.cell? ⟨b, o + 5, none⟩ = some (.int .i64 h.line) :=
  ⟨hc 0 _ rfl, hc 1 _ rfl, hc 2 _ rfl, hc 3 _ rfl, hc 4 _ rfl, hc 5 _ rfl⟩
set_option maxRecDepth 100000 in
set_option maxHeartbeats 16000000 in
theorem expr_step {N : Nat} (IH : ArE N) : WrE (N + 1) := by
  unfold WrE
  intro x hN h B g l w hK hx hxb hlen
  obtain ⟨xo, xn, xs, xf, xsub, xl⟩ := x
  obtain ⟨o, n, s, f, ⟨A, sl, c⟩, ln⟩ := h
  unfold ExAt at hx
  obtain ⟨rfl, rfl, rfl, rfl, rfl, H, hR, hE⟩ := hx
  have hx : ExL w B ⟨A, sl, c⟩ xsub := ⟨H, hR, hE⟩
  have hxb : exB (.mk o n s f xsub ln) = true := hxb
  have hlen : l.length + (exS (.mk o n s f xsub ln)).length ≤ lim := hlen
  show Calls _ _ _ _ (Put B g l (exS (.mk o n s f xsub ln)) w)
  rw [exB, Bool.and_eq_true] at hxb
  obtain ⟨hok, hsb⟩ := hxb
  unfold exOk at hok
  simp only [Bool.and_eq_true, decide_eq_true_eq, beq_iff_eq] at hok
  obtain ⟨⟨o1, o2⟩, n0, n1, hnm, hfd, hsl⟩ := hok
  have hsz : SizeOf.sizeOf xsub ≤ N := by
    simp only [Ex.mk.sizeOf_spec] at hN
    omega
  obtain ⟨w1, e1, K1, H1, F1, ng⟩ := hK.box (eC ⟨o, n, s, f, ⟨A, sl, c⟩, ln⟩) 44
  have NG := Lib.hid ng
  have K1 := Lib.hid K1
  have H1 := Lib.hid H1
  have F1 := Lib.hid F1
  clear hK ng hR hE hN
  simp only [eC, sv, Sl.v] at e1 ⊢
  rcases (show o = 1 ∨ o = 2 ∨ o = 3 ∨ o = 4 ∨ o = 5 ∨ o = 6 ∨ o = 7 ∨ 8 ≤ o by omega) with rfl | rfl | rfl | rfl | rfl | rfl | rfl | h8
  · rw [exS_1] at hlen ⊢
    have HL := Lib.hid hlen
    have hn : InI n := ⟨by omega, by have := n1; rw [mostE, if_pos rfl] at this; omega⟩
    clear IH hx hsb hnm hfd hsl o1 o2 n0 n1 hlen hsz
    have HN := Lib.hid hn
    clear hn
    go_enter Tryz.func99, Tryz.ntmps99
    go_upto_region 1 with (fail)
    subst e1
    generalize w.alloc (.cells #[.int .i64 1, .int .i64 n, .string ⟨s.toArray⟩, .string ⟨f.toArray⟩, .slice A sl c, .int .i64 ln] 44) = w1 at *
    have ⟨c0, _, c1, _, c2, _, c3, _, c4, _, _⟩ := H1.out.box
    simp only [sv, Sl.v] at c2 c3 c4
    go_wp2_with (go_at_call 60; fail)
    refine (decimal_any n HN.out _ K1.out.laid).mono ?_
    rintro e w2 ⟨rfl, hb⟩
    have K2 := Lib.hid (K1.out.below hb)
    have F2 := Lib.hid (F1.out.trans (Fr.of hb K1.out.le))
    clear hb c0 c1 c2 c3 c4 K1 F1 H1
    unfold sv
    go_wp2_with (go_at_call 35; fail)
    refine (put_new [numS n] (t := numS n) (by simp) K2.out (by simp) HL.out).mono ?_
    rintro e w3 ⟨rfl, k9, f9⟩
    have K9 := Lib.hid k9
    have F9 := Lib.hid (F2.out.trans f9)
    clear k9 f9
    go_wp2_with fail
    go_end0
    exact ⟨rfl, K9.out, F9.out⟩
  · rw [exS_2] at hlen ⊢
    have HL := Lib.hid hlen
    clear IH hx hsb hnm hfd hsl o1 o2 n0 n1 hlen hsz
    go_enter Tryz.func99, Tryz.ntmps99
    go_upto_region 1 with (fail)
    subst e1
    generalize w.alloc (.cells #[.int .i64 2, .int .i64 n, .string ⟨s.toArray⟩, .string ⟨f.toArray⟩, .slice A sl c, .int .i64 ln] 44) = w1 at *
    have ⟨c0, _, c1, _, c2, _, c3, _, c4, _, _⟩ := H1.out.box
    simp only [sv, Sl.v] at c2 c3 c4
    go_wp2_with (go_at_call 61; fail)
    refine (truth_any n _).mono ?_
    rintro e w2 ⟨rfl, rfl⟩
    unfold sv
    go_wp2_with (go_at_call 35; fail)
    refine (put_new [truthS n] (t := truthS n) (by simp) K1.out (by simp) HL.out).mono ?_
    rintro e w3 ⟨rfl, k9, f9⟩
    have K9 := Lib.hid k9
    have F9 := Lib.hid (F1.out.trans f9)
    clear k9 f9
    go_wp2_with fail
    go_end0
    exact ⟨rfl, K9.out, F9.out⟩
  · rw [exS_3] at hlen ⊢
    have HL := Lib.hid hlen
    clear IH hx hsb hnm hfd hsl o1 o2 n0 n1 hlen hsz
    go_enter Tryz.func99, Tryz.ntmps99
    go_upto_region 1 with (fail)
    subst e1
    generalize w.alloc (.cells #[.int .i64 3, .int .i64 n, .string ⟨s.toArray⟩, .string ⟨f.toArray⟩, .slice A sl c, .int .i64 ln] 44) = w1 at *
    have ⟨c0, _, c1, _, c2, _, c3, _, c4, _, _⟩ := H1.out.box
    simp only [sv, Sl.v] at c2 c3 c4
    go_wp2_with (go_at_call 35; fail)
    refine (put_new [s] (t := s) (by simp) K1.out (by simp) HL.out).mono ?_
    rintro e w3 ⟨rfl, k9, f9⟩
    have K9 := Lib.hid k9
    have F9 := Lib.hid (F1.out.trans f9)
    clear k9 f9
    go_wp2_with fail
    go_end0
    exact ⟨rfl, K9.out, F9.out⟩
  · have hl1 : xsub.length = 1 := hsl
    obtain ⟨y, ⟨yo, yn, ys, yf, ⟨yA, yl, yc⟩, yln⟩, b0, o0, rfl, hy, hA, hb0, hr0, hsl1⟩ := sub_one hx hl1
    simp only at hA hsl1
    subst hA hsl1
    have hyb : exB y = true := by rw [exsB, exsB, Bool.and_true] at hsb; exact hsb
    have hys : SizeOf.sizeOf y < N := by have := hsz; simp only [List.cons.sizeOf_spec] at this; omega
    rw [exS_4] at hlen ⊢
    have AR := Lib.hid fun W (hf : Fr B g w W) (hW : Wx B g l W) => IH y hys ⟨yo, yn, ys, yf, ⟨yA, yl, yc⟩, yln⟩ B g l (s ++ [91]) [93] W hW (hy.below hf.1 (Nat.le_refl _)) hyb hlen
    have RR := Lib.hid fun W (hf : Fr B g w W) => range_below hr0 hf.1 hb0
    have hcat0 : ¬ 9223372036854775807 < (⟨s.toArray⟩ : ByteArray).size + 1 := by rw [sz_sv]; have := nm_len (show nmB s = true from hnm); omega
    clear IH hx hsb hnm hfd hsl o1 o2 n0 n1 hlen hsz hy hyb hys hr0 hl1
    obtain ⟨xs, hxs⟩ : ∃ z, (⟨s.toArray⟩ : ByteArray) = z := ⟨_, rfl⟩
    have HX := Lib.hid hxs
    rw [hxs] at e1 hcat0 ⊢
    clear hxs
    go_enter Tryz.func99, Tryz.ntmps99
    go_upto_region 1 with (fail)
    subst e1
    generalize w.alloc (.cells #[.int .i64 4, .int .i64 n, .string xs, .string ⟨f.toArray⟩, .slice (some ⟨b0, o0, none⟩) 1 c, .int .i64 ln] 44) = w1 at *
    have ⟨c0, _, c1, _, c2, _, c3, _, c4, _, _⟩ := H1.out.box
    simp only [sv, Sl.v] at c2 c3 c4
    rw [HX.out] at c2
    go_upto_region 11 with (fail)
    have ⟨r0, r1, r2, r3, r4, r5⟩ := range_cells (RR.out _ F1.out)
    simp only [sv, Sl.v] at r2 r3 r4
    refine still_named 8 (by kernel_rfl) ?_
    intro w2 hc2 _ hb2 _
    rw [← hc2] at c0 c1 c2 c3 c4 r0 r1 r2 r3 r4 r5
    have K2 := Lib.hid (K1.out.drew hb2)
    have F2 := Lib.hid (F1.out.trans (Fr.of (hb2 _) K1.out.le))
    clear hc2 hb2 K1 F1 RR H1
    simp only [List.take_succ_cons, List.take_zero, List.drop_succ_cons, List.drop_zero]
    repeat still_step
    refine wpStill_nil ?_
    rw [show xs ++ ⟨#[91]⟩ = ⟨(s ++ [91]).toArray⟩ by rw [← HX.out]; exact cat_sv s [91]]
    go_wp2_with (go_at_call 100; fail)
    refine (AR.out _ F2.out K2.out).mono ?_
    rintro e w3 ⟨rfl, k9, f9⟩
    have K9 := Lib.hid k9
    have F9 := Lib.hid (F2.out.trans f9)
    clear k9 f9
    go_wp2_with fail
    go_end0
    exact ⟨rfl, K9.out, F9.out⟩
  · rw [exS_5] at hlen ⊢
    have HL := Lib.hid hlen
    clear IH hx hsb hnm hfd hsl o1 o2 n0 n1 hlen hsz
    go_enter Tryz.func99, Tryz.ntmps99
    go_upto_region 1 with (fail)
    subst e1
    generalize w.alloc (.cells #[.int .i64 5, .int .i64 n, .string ⟨s.toArray⟩, .string ⟨f.toArray⟩, .slice A sl c, .int .i64 ln] 44) = w1 at *
    have ⟨c0, _, c1, _, c2, _, c3, _, c4, _, _⟩ := H1.out.box
    simp only [sv, Sl.v] at c2 c3 c4
    go_wp2_with (go_at_call 35; fail)
    refine (put_new [s, [46], f] (t := s ++ [46] ++ f) (by simp) K1.out (by simp) HL.out).mono ?_
    rintro e w3 ⟨rfl, k9, f9⟩
    have K9 := Lib.hid k9
    have F9 := Lib.hid (F1.out.trans f9)
    clear k9 f9
    go_wp2_with fail
    go_end0
    exact ⟨rfl, K9.out, F9.out⟩
  · have hl1 : xsub.length = 1 := hsl
    obtain ⟨y, ⟨yo, yn, ys, yf, ⟨yA, yl, yc⟩, yln⟩, b0, o0, rfl, hy, hA, hb0, hr0, hsl1⟩ := sub_one hx hl1
    simp only at hA hsl1
    subst hA hsl1
    have hyb : exB y = true := by rw [exsB, exsB, Bool.and_true] at hsb; exact hsb
    have hys : SizeOf.sizeOf y < N := by have := hsz; simp only [List.cons.sizeOf_spec] at this; omega
    rw [exS_6] at hlen ⊢
    have AR := Lib.hid fun W (hf : Fr B g w W) (hW : Wx B g l W) => IH y hys ⟨yo, yn, ys, yf, ⟨yA, yl, yc⟩, yln⟩ B g l [40, 45] [41] W hW (hy.below hf.1 (Nat.le_refl _)) hyb hlen
    have RR := Lib.hid fun W (hf : Fr B g w W) => range_below hr0 hf.1 hb0
    clear IH hx hsb hnm hfd hsl o1 o2 n0 n1 hlen hsz hy hyb hys hr0 hl1
    go_enter Tryz.func99, Tryz.ntmps99
    go_upto_region 1 with (fail)
    subst e1
    generalize w.alloc (.cells #[.int .i64 6, .int .i64 n, .string ⟨s.toArray⟩, .string ⟨f.toArray⟩, .slice (some ⟨b0, o0, none⟩) 1 c, .int .i64 ln] 44) = w1 at *
    have ⟨c0, _, c1, _, c2, _, c3, _, c4, _, _⟩ := H1.out.box
    simp only [sv, Sl.v] at c2 c3 c4
    have R1 := Lib.hid (RR.out _ F1.out)
    go_wp2_with (first | ((with_reducible refine m_loadR R1.out 44 71 ?_ ?_ ?_ ?_ ?_ ?_); rfl; rfl; rfl; rfl; kernel_rfl) | (go_at_call 100; fail))
    refine (AR.out _ F1.out K1.out).mono ?_
    rintro e w3 ⟨rfl, k9, f9⟩
    have K9 := Lib.hid k9
    have F9 := Lib.hid (F1.out.trans f9)
    clear k9 f9
    go_wp2_with fail
    go_end0
    exact ⟨rfl, K9.out, F9.out⟩
  · have hl1 : xsub.length = 1 := hsl
    obtain ⟨y, ⟨yo, yn, ys, yf, ⟨yA, yl, yc⟩, yln⟩, b0, o0, rfl, hy, hA, hb0, hr0, hsl1⟩ := sub_one hx hl1
    simp only at hA hsl1
    subst hA hsl1
    have hyb : exB y = true := by rw [exsB, exsB, Bool.and_true] at hsb; exact hsb
    have hys : SizeOf.sizeOf y < N := by have := hsz; simp only [List.cons.sizeOf_spec] at this; omega
    rw [exS_7] at hlen ⊢
    have AR := Lib.hid fun W (hf : Fr B g w W) (hW : Wx B g l W) => IH y hys ⟨yo, yn, ys, yf, ⟨yA, yl, yc⟩, yln⟩ B g l [40, 78, 79, 84, 32] [41] W hW (hy.below hf.1 (Nat.le_refl _)) hyb hlen
    have RR := Lib.hid fun W (hf : Fr B g w W) => range_below hr0 hf.1 hb0
    clear IH hx hsb hnm hfd hsl o1 o2 n0 n1 hlen hsz hy hyb hys hr0 hl1
    go_enter Tryz.func99, Tryz.ntmps99
    go_upto_region 1 with (fail)
    subst e1
    generalize w.alloc (.cells #[.int .i64 7, .int .i64 n, .string ⟨s.toArray⟩, .string ⟨f.toArray⟩, .slice (some ⟨b0, o0, none⟩) 1 c, .int .i64 ln] 44) = w1 at *
    have ⟨c0, _, c1, _, c2, _, c3, _, c4, _, _⟩ := H1.out.box
    simp only [sv, Sl.v] at c2 c3 c4
    have R1 := Lib.hid (RR.out _ F1.out)
    go_wp2_with (first | ((with_reducible refine m_loadR R1.out 44 79 ?_ ?_ ?_ ?_ ?_ ?_); rfl; rfl; rfl; rfl; kernel_rfl) | (go_at_call 100; fail))
    refine (AR.out _ F1.out K1.out).mono ?_
    rintro e w3 ⟨rfl, k9, f9⟩
    have K9 := Lib.hid k9
    have F9 := Lib.hid (F1.out.trans f9)
    clear k9 f9
    go_wp2_with fail
    go_end0
    exact ⟨rfl, K9.out, F9.out⟩
  · have hl2 : xsub.length = 2 := by
      rw [hsl]
      unfold subsE
      rw [if_neg (by omega), if_pos h8]
    obtain ⟨y, z, ⟨yo, yn, ys, yf, ⟨yA, yl, yc⟩, yln⟩, ⟨zo, zn, zs, zf, ⟨zA, zl, zc⟩, zln⟩, b0, o0, rfl, hy, hz, hA, hb0, hr0, hr1, hsl2⟩ := sub_two hx hl2
    simp only at hA hsl2
    subst hA hsl2
    have hyzb : exB y = true ∧ exB z = true := by rw [exsB, exsB, exsB, Bool.and_true, Bool.and_eq_true] at hsb; exact hsb
    have hyzs : SizeOf.sizeOf y < N ∧ SizeOf.sizeOf z < N := by have := hsz; simp only [List.cons.sizeOf_spec] at this; omega
    rw [exS_8 h8] at hlen ⊢
    obtain ⟨T, hT⟩ : ∃ T, [32] ++ opS o ++ [32] = T := ⟨_, rfl⟩
    rw [hT] at hlen ⊢
    have HT := Lib.hid hT
    have hop : (opS o).length ≤ 3 := by
      rcases (show o = 8 ∨ o = 9 ∨ o = 10 ∨ o = 11 ∨ o = 12 ∨ o = 13 ∨ o = 14 ∨ o = 15 ∨ o = 16 ∨ o = 17 ∨ o = 18 ∨ o = 19 ∨ o = 20 ∨ o = 21 by omega) with rfl | rfl | rfl | rfl | rfl | rfl | rfl | rfl | rfl | rfl | rfl | rfl | rfl | rfl <;> decide
    simp only [List.length_append] at hlen
    have A1 := Lib.hid fun W (hf : Fr B g w W) (hW : Wx B g l W) => IH y hyzs.1 ⟨yo, yn, ys, yf, ⟨yA, yl, yc⟩, yln⟩ B g l [40] T W hW (hy.below hf.1 (Nat.le_refl _)) hyzb.1 (by simp only [List.length_append]; omega)
    have A2 := Lib.hid fun W (hf : Fr B g w W) (hW : Wx B g (l ++ ([40] ++ exS y ++ T)) W) => IH z hyzs.2 ⟨zo, zn, zs, zf, ⟨zA, zl, zc⟩, zln⟩ B g (l ++ ([40] ++ exS y ++ T)) [] [41] W hW (hz.below hf.1 (Nat.le_refl _)) hyzb.2 (by simp only [List.length_append, List.length_nil]; omega)
    have R0 := Lib.hid fun W (hf : Fr B g w W) => range_below hr0 hf.1 hb0
    have R1 := Lib.hid fun W (hf : Fr B g w W) => range_below hr1 hf.1 hb0
    have SG := Lib.hid fun W => signOf_any o W
    unfold sv at SG
    have hcat1 : ¬ 9223372036854775807 < 1 + (⟨(opS o).toArray⟩ : ByteArray).size := by rw [sz_sv]; omega
    have hcat2 : ¬ 9223372036854775807 < 1 + (⟨(opS o).toArray⟩ : ByteArray).size + 1 := by rw [sz_sv]; omega
    obtain ⟨xo, hxo⟩ : ∃ z, (⟨(opS o).toArray⟩ : ByteArray) = z := ⟨_, rfl⟩
    have hcat3 : ¬ 9223372036854775807 < ((⟨#[32]⟩ : ByteArray) ++ xo).size + 1 := by rw [← hxo, show (⟨#[32]⟩ : ByteArray) ++ ⟨(opS o).toArray⟩ = ⟨([32] ++ opS o).toArray⟩ from cat_sv [32] (opS o), sz_sv, List.length_append]; simp; omega
    have HX := Lib.hid hxo
    rw [hxo] at SG hcat1 hcat2
    have z1 := neb (show o ≠ 1 by omega)
    have z2 := neb (show o ≠ 2 by omega)
    have z3 := neb (show o ≠ 3 by omega)
    have z4 := neb (show o ≠ 4 by omega)
    have z5 := neb (show o ≠ 5 by omega)
    have z6 := neb (show o ≠ 6 by omega)
    have z7 := neb (show o ≠ 7 by omega)
    clear IH hx hsb hnm hfd hsl o1 o2 n0 n1 hlen hsz hy hz hyzb hyzs hr0 hr1 hl2 hT hxo hop h8
    go_enter Tryz.func99, Tryz.ntmps99
    go_upto_region 1 with (fail)
    subst e1
    generalize w.alloc (.cells #[.int .i64 o, .int .i64 n, .string ⟨s.toArray⟩, .string ⟨f.toArray⟩, .slice (some ⟨b0, o0, none⟩) 2 c, .int .i64 ln] 44) = w1 at *
    have ⟨c0, _, c1, _, c2, _, c3, _, c4, _, _⟩ := H1.out.box
    simp only [sv, Sl.v] at c2 c3 c4
    go_upto_region 2 with (fail)
    clear z1 z2 z3 z4 z5 z6 z7
    have ⟨r0, r1, r2, r3, r4, r5⟩ := range_cells (R0.out _ F1.out)
    simp only [sv, Sl.v] at r2 r3 r4
    refine still_named 10 (by kernel_rfl) ?_
    intro w2 hc2 _ hb2 _
    rw [← hc2] at c0 c1 c2 c3 c4 r0 r1 r2 r3 r4 r5
    have K2 := Lib.hid (K1.out.drew hb2)
    have F2 := Lib.hid (F1.out.trans (Fr.of (hb2 _) K1.out.le))
    have H2 := Lib.hid (H1.out.fr (Fr.of (hb2 _) K1.out.le) NG.out (by decide))
    clear hc2 hb2 K1 F1 R0 H1
    simp only [List.take_succ_cons, List.take_zero, List.drop_succ_cons, List.drop_zero]
    repeat still_step
    refine wpStill_step (fun K hK => ?_)
    go_simp
    refine ⟨.string xo, (SG.out w2).mono fun _ _ h => ⟨h.1, h.2⟩, hK _ ?_⟩
    clear hK K
    repeat still_step
    refine wpStill_nil ?_
    rw [show (⟨#[32]⟩ : ByteArray) ++ xo ++ ⟨#[32]⟩ = ⟨T.toArray⟩ by rw [← HX.out, ← HT.out, show (⟨#[32]⟩ : ByteArray) ++ ⟨(opS o).toArray⟩ = ⟨([32] ++ opS o).toArray⟩ from cat_sv [32] (opS o)]; exact cat_sv ([32] ++ opS o) [32]]
    clear hcat1 hcat2 hcat3 r0 r1 r2 r3 r4 r5 c0 c1 c2 c3 c4
    go_wp2_with (go_at_call 100; fail)
    refine (A1.out _ F2.out K2.out).mono ?_
    rintro e w3 ⟨rfl, k3, f3⟩
    have K3 := Lib.hid k3
    have F3 := Lib.hid (F2.out.trans f3)
    have H3 := Lib.hid (H2.out.fr f3 NG.out (by decide))
    clear k3 f3 A1 F2 K2 H2
    have ⟨c0, _, c1, _, c2, _, c3, _, c4, _, _⟩ := H3.out.box
    simp only [sv, Sl.v] at c2 c3 c4
    have R3 := Lib.hid (R1.out _ F3.out)
    go_wp2_with (first | ((with_reducible refine m_loadR R3.out 44 20 ?_ ?_ ?_ ?_ ?_ ?_); rfl; rfl; rfl; rfl; kernel_rfl) | (go_at_call 100; fail))
    refine (A2.out _ F3.out K3.out).mono ?_
    rintro e w4 ⟨rfl, k4, f4⟩
    have K9 := Lib.hid k4
    have F9 := Lib.hid (F3.out.trans f4)
    clear k4 f4 A2 F3 K3 H3
    go_wp2_with fail
    go_end0
    exact ⟨rfl, by have h9 := K9.out; simp only [List.append_assoc, List.nil_append, List.cons_append, List.singleton_append] at h9 ⊢; exact h9, F9.out⟩
theorem expr_all : ∀ N, WrE N
  | 0 => fun _ h => absurd h (by omega)
  | N + 1 => expr_step (around_step (expr_all N))
theorem around_any {x : Ex} {h : EH} {B g : Nat} {l a b : Str} {w : World} (hK : Wx B g l w) (hx : ExAt w B x h) (hxb : exB x = true) (hlen : l.length + (a ++ exS x ++ b).length ≤ lim) :
    Calls Tryz.prog 100 #[.pointer (some ⟨g, 0, none⟩), sv a, .agg (eC h).toArray, sv b] w (Put B g l (a ++ exS x ++ b) w) :=
  around_step (expr_all (SizeOf.sizeOf x + 1)) x (by omega) h B g l a b w hK hx hxb hlen
theorem expr_any {x : Ex} {h : EH} {B g : Nat} {l : Str} {w : World} (hK : Wx B g l w) (hx : ExAt w B x h) (hxb : exB x = true) (hlen : l.length + (exS x).length ≤ lim) :
    Calls Tryz.prog 99 #[.pointer (some ⟨g, 0, none⟩), .agg (eC h).toArray] w (Put B g l (exS x) w) :=
  expr_all (SizeOf.sizeOf x + 1) x (by omega) h B g l w hK hx hxb hlen
end Go.Proofs.YtdefgghhkknnpaaGreatDoor.sh

/- The landed writer's labels of a block. Conditions: the labels are pairs of numbers of 64 bits; what the writer holds stays within 2^47 bytes. -/
namespace Go.Proofs.YtdefgghhkknnpaaGreatDoor.sh
open Go.ChangeShapes Go.WideShapes Go.ChangeAt Go.RowKit Go.Proofs.YtdefgghhkknnpaaGreatDoor Go.Proofs.YtdefgghhkknnpaaGreatDoor.k Go.Proofs.YtdefgghhkknnpaaGreatDoor.rr Go.Proofs.YtdefgghhkknnpaaGreatDoor.tk Go.Proofs.YtdefgghhkknnpaaGreatDoor.tr
set_option linter.unusedVariables false
set_option linter.unusedSimpArgs false

theorem drop_two {L : List Int} {q : Nat} (h : q + 1 < L.length) : ∃ a b, L.drop q = a :: b :: L.drop (q + 2) ∧ L[q]? = some a ∧ L[q + 1]? = some b := by
  refine ⟨L[q], L[q + 1], ?_, List.getElem?_eq_getElem _, List.getElem?_eq_getElem _⟩
  rw [List.drop_eq_getElem_cons (by omega), List.drop_eq_getElem_cons h]
theorem row_cell {w : World} {B : Nat} {A : Option Addr} {n c : Nat} {L : List Int} (h : Rd iC 1 w B A n c L) {q : Nat} {a : Int} (hq : L[q]? = some a) : ∃ b o, A = some ⟨b, o, none⟩ ∧ b < B ∧ w.cell? ⟨b, o + q, none⟩ = some (.int .i64 a) := by
  obtain ⟨b, o, x, hA, hb, hp, hc⟩ := h.at (i := q) (by rw [← h.1]; exact (List.getElem?_eq_some_iff.1 hq).1)
  obtain rfl : a = x := by simpa [hq] using hp
  have := hc 0 _ rfl
  rw [Nat.add_zero, Nat.mul_one] at this
  exact ⟨b, o, hA, hb, this⟩
theorem meas2 {q n : Nat} (h : q < n) (hw : wrap64 ((q : Int) + 2) = ((q + 2 : Nat) : Int)) : n - (intOf (.int .i64 (wrap64 ((q : Int) + 2)))).toNat < n - (intOf (.int .i64 (q : Int))).toNat ∧ n - (intOf (.int .i64 ((q : Int) + 2))).toNat < n - (intOf (.int .i64 (q : Int))).toNat := by
  rw [hw]
  simp only [intOf]
  omega
set_option maxRecDepth 100000 in
set_option maxHeartbeats 8000000 in
theorem labels_any {B g : Nat} {l : Str} {L : List Int} {s : Sl} {w : World} (hK : Wx B g l w) (hR : RS iC 1 w B s L) (h2 : L.length % 2 = 0) (hi : ∀ n ∈ L, InI n) (hlen : l.length + (labT false L).length ≤ lim) :
    Calls Tryz.prog 129 #[.pointer (some ⟨g, 0, none⟩), s.v] w (Put B g l (labT false L) w) := by
  obtain ⟨A, n, c⟩ := s
  have hR : Rd iC 1 w B A n c L := hR
  have hn : L.length = n := hR.1
  have hnl := hR.len_le
  obtain ⟨T, hT⟩ : ∃ T, labT false L = T := ⟨_, rfl⟩
  rw [hT] at hlen ⊢
  have HT := Lib.hid hT
  have HL := Lib.hid hlen
  have HR := Lib.hid hR
  have HI := Lib.hid hi
  have HN := Lib.hid (And.intro hn (And.intro h2 hnl))
  have K0 := Lib.hid hK
  clear hR hlen hi hn h2 hK hT
  simp only [Sl.v]
  go_enter Tryz.func129, Tryz.ntmps129
  go_upto_region 1 with (fail)
  go_loopw [4] (fun s4 wr => ∃ (q : Nat) (t1 : Str), q ≤ n ∧ q % 2 = 0 ∧ s4 = .int .i64 q ∧ t1 ++ labT (decide (0 < q)) (L.drop q) = T ∧ Wx B g (l ++ t1) wr ∧ Fr B g w wr) (fun i _ => n - (intOf i).toNat)
  case atStart => exact ⟨0, [], Nat.zero_le _, rfl, rfl, by rw [List.drop_zero]; exact HT.out, by rw [List.append_nil]; exact K0.out, Fr.refl _ _ _⟩
  case round =>
    obtain ⟨q, t1, hq, hq2, rfl, ht, hk, hf⟩ := hrel
    by_cases hlt : q < n
    rotate_left
    · obtain rfl : q = n := by omega
      have hz : ¬ (q : Int) < q := by omega
      rw [List.drop_of_length_le (by rw [HN.out.1]; exact Nat.le_refl _)] at ht
      have ht : t1 ++ [58, 10] = T := by
        rw [← ht]
        cases decide (0 < q) <;> rfl
      have P1 := Lib.hid (put_new [[58, 10]] (t := [58, 10]) rfl hk (by decide) (by have := HL.out; rw [← ht, List.length_append] at this; rw [List.length_append]; omega))
      have FF := Lib.hid hf
      have HTT := Lib.hid ht
      clear hk hf ht
      go_wp2_with (go_at_call 35; fail)
      refine P1.out.mono ?_
      rintro e w3 ⟨rfl, k9, f9⟩
      have K9 := Lib.hid k9
      have F9 := Lib.hid (FF.out.trans f9)
      clear k9 f9 P1
      go_wp2_with fail
      go_end0
      exact ⟨rfl, by have := K9.out; rw [List.append_assoc, HTT.out] at this; exact this, F9.out⟩
    have hq1 : q + 1 < L.length := by have := HN.out.2.1; have := HN.out.1; omega
    obtain ⟨a, b, hd, ha, hb⟩ := drop_two hq1
    have ia := Lib.hid (HI.out a (List.mem_of_getElem? ha))
    have ib := Lib.hid (HI.out b (List.mem_of_getElem? hb))
    obtain ⟨b1, o1, rfl, hbB, ca⟩ := row_cell HR.out ha
    obtain ⟨b2, o2, e2, _, cb⟩ := row_cell HR.out hb
    injection e2 with e2
    injection e2 with e3 e4 _
    subst e3 e4
    rw [hd] at ht
    have hlq : (q : Int) + 2 ≤ 9223372036854775807 := by have := HN.out.2.2; have := HN.out.1; omega
    have w1 : IntKind.i64.wrap ((q : Int) + 1) = ((q + 1 : Nat) : Int) := by rw [IntKind.wrap_i64]; omega
    have w2' : wrap64 ((q : Int) + 1) = ((q + 1 : Nat) : Int) := by unfold wrap64; omega
    have w3 : wrap64 ((q : Int) + 2) = ((q + 2 : Nat) : Int) := by unfold wrap64; omega
    have hin : (q : Int) + 1 < n := by have := HN.out.1; omega
    have hin' : q + 1 < n := by omega
    -- the text of this round
    obtain ⟨sp, hsp⟩ : ∃ sp : Str, (if decide (0 < q) = true then [44, 32] else []) = sp := ⟨_, rfl⟩
    obtain ⟨rg, hrg⟩ : ∃ rg : Str, (if b = a then [] else [46, 46] ++ numS b) = rg := ⟨_, rfl⟩
    have ht2 : t1 ++ (sp ++ numS a ++ rg) ++ labT (decide (0 < q + 2)) (L.drop (q + 2)) = T := by
      rw [← ht, labT, hsp, hrg, show decide (0 < q + 2) = true from decide_eq_true (by omega)]
      simp only [List.append_assoc]
    have HT2 := Lib.hid ht2
    have HLT : Hid (l.length + t1.length + sp.length + (numS a).length + rg.length ≤ lim) := Lib.hid (by
      have h1 := HL.out
      rw [← ht2] at h1
      simp only [List.length_append] at h1
      omega)
    have HSP := Lib.hid hsp
    have HRG := Lib.hid hrg
    have KK := Lib.hid hk
    have FF := Lib.hid hf
    have CC := Lib.hid fun W (h : Fr B g w W) => And.intro ((h.1.cell (p := ⟨b1, o1 + q, none⟩) hbB).trans ca) ((h.1.cell (p := ⟨b1, o1 + (q + 1), none⟩) hbB).trans cb)
    have W1 := Lib.hid w1
    have W3 := Lib.hid w3
    have QQ := Lib.hid (And.intro hq (And.intro hq2 (And.intro hlt hin')))
    clear ht ht2 hsp hrg hk hf ha hb hd hlq hq1 ca cb w1 w2' w3 hq hq2 hin hin' hlt hbB
    have hlt : (q : Int) < n := by have := QQ.out.2.2.1; omega
    obtain ⟨m, hm⟩ : ∃ m, decide (0 < q) = m := ⟨_, rfl⟩
    have HM := Lib.hid hm
    clear hm
    go_upto_region 3 with (fail)
    clear hlt
    cases m
    all_goals
      first
        | (have hx : Hid (decide (0 < q) = false) := HM
           have h0 : ¬ (0 : Int) < q := by have := of_decide_eq_false HM.out; omega
           have K2 := Lib.hid (show Wx B g (l ++ (t1 ++ sp)) wr by rw [← HSP.out, HM.out, if_neg (by decide), List.append_nil]; exact KK.out)
           have F2 := Lib.hid FF.out
           clear KK FF hx)
        | (have h0 : (0 : Int) < q := by have := of_decide_eq_true HM.out; omega
           have sp2 : [44, 32] = sp := by rw [← HSP.out, HM.out]; rfl
           have P1 := Lib.hid (put_new [[44, 32]] (t := [44, 32]) rfl KK.out (by decide) (by have := HLT.out; rw [← sp2] at this; simp only [List.length_append]; simp only [List.length_cons, List.length_nil] at this ⊢; omega))
           have SP2 := Lib.hid sp2
           clear sp2
           go_wp2_with (go_at_call 35; fail)
           refine P1.out.mono ?_
           rintro e w2 ⟨rfl, k9, f9⟩
           have K2 := Lib.hid (show Wx B g (l ++ (t1 ++ sp)) w2 by rw [← SP2.out, ← List.append_assoc]; exact k9)
           have F2 := Lib.hid (FF.out.trans f9)
           clear k9 f9 P1 KK FF)
      go_upto_region 5 with (fail)
      have ⟨ca, cb⟩ := CC.out _ F2.out
      have hin : (q : Int) + 1 < n := by have := QQ.out.2.2.2; omega
      have hlt : (q : Int) < n := by have := QQ.out.2.2.1; omega
      have w1 := W1.out
      go_quiet (fail)
      rename_i nq
      have KD := Lib.hid (K2.out.below (below_drawn (Below.refl _ _) nq))
      have FD := Lib.hid (F2.out.trans (Fr.of (below_drawn (Below.refl _ _) nq) K2.out.le))
      clear h0 ca cb hin hlt w1 K2 F2
      go_wp2_with (go_at_call 60; fail)
      refine (decimal_any a ia.out _ KD.out.laid).mono ?_
      rintro e w4 ⟨rfl, hb⟩
      have K4 := Lib.hid (KD.out.below hb)
      have F4 := Lib.hid (FD.out.trans (Fr.of hb KD.out.le))
      clear hb KD FD
      unfold sv
      go_wp2_with (go_at_call 35; fail)
      refine (put_new [numS a] (t := numS a) (by simp) K4.out (by simp) (by have := HLT.out; simp only [List.length_append]; omega)).mono ?_
      rintro e w5 ⟨rfl, k9, f9⟩
      have K5 := Lib.hid k9
      have F5 := Lib.hid (F4.out.trans f9)
      clear k9 f9 K4 F4
      by_cases hab : b = a
      · have z : (b != a) = false := by rw [hab]; simp
        have rg2 : [] = rg := by rw [← HRG.out, if_pos hab]
        have KE := Lib.hid (show Wx B g (l ++ (t1 ++ (sp ++ numS a ++ rg))) w5 by rw [← rg2]; have := K5.out; simpa only [List.append_assoc, List.append_nil] using this)
        have w3 := W3.out
        clear hab K5 rg2
        go_wp2_with fail
        go_roundw
        case rel => exact ⟨q + 2, t1 ++ (sp ++ numS a ++ rg), by have := QQ.out; omega, by have := QQ.out; omega, by go_num, HT2.out, KE.out, F5.out⟩
        case measure =>
          have hm := Lib.hid (meas2 QQ.out.2.2.1 W3.out)
          first | exact hm.out.1 | exact hm.out.2 | trace_state
      · have z : (b != a) = true := by rw [bne_iff_ne]; exact hab
        have rg2 : [46, 46] ++ numS b = rg := by rw [← HRG.out, if_neg hab]
        have RG2 := Lib.hid rg2
        clear hab rg2
        go_wp2_with (go_at_call 60; fail)
        refine (decimal_any b ib.out _ K5.out.laid).mono ?_
        rintro e w6 ⟨rfl, hb⟩
        have K6 := Lib.hid (K5.out.below hb)
        have F6 := Lib.hid (F5.out.trans (Fr.of hb K5.out.le))
        clear hb K5 F5
        unfold sv
        go_wp2_with (go_at_call 35; fail)
        refine (put_new [[46, 46], numS b] (t := rg) (by rw [← RG2.out]; simp) K6.out (by simp) (by have := HLT.out; simp only [List.length_append]; omega)).mono ?_
        rintro e w7 ⟨rfl, k9, f9⟩
        have KE := Lib.hid (show Wx B g (l ++ (t1 ++ (sp ++ numS a ++ rg))) w7 by have := k9; simpa only [List.append_assoc] using this)
        have F7 := Lib.hid (F6.out.trans f9)
        have w3 := W3.out
        clear k9 f9 K6 F6
        go_wp2_with fail
        go_roundw
        case rel => exact ⟨q + 2, t1 ++ (sp ++ numS a ++ rg), by have := QQ.out; omega, by have := QQ.out; omega, by go_num, HT2.out, KE.out, F7.out⟩
        case measure =>
          have hm := Lib.hid (meas2 QQ.out.2.2.1 W3.out)
          first | exact hm.out.1 | exact hm.out.2 | trace_state
end Go.Proofs.YtdefgghhkknnpaaGreatDoor.sh
