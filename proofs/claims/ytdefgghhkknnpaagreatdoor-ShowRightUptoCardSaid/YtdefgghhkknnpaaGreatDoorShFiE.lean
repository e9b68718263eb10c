/- The document's text of an expression: the given function of it. Conditions: an expression such as a text could give; its text has at most 2^47 bytes. -/
import Derived.Test.YtdefgghhkknnpaaGreatDoorShFiC
import Derived.Test.YtdefgghhkknnpaaGreatDoorV07
import Derived.Test.YtdefgghhkknnpaaGreatDoorV04
namespace Go.Proofs.YtdefgghhkknnpaaGreatDoor.sh
open Go.ChangeShapes Go.WideShapes Go.ChangeAt Go.RowKit Go.Proofs.YtdefgghhkknnpaaGreatDoor Go.Proofs.YtdefgghhkknnpaaGreatDoor.k Go.Proofs.YtdefgghhkknnpaaGreatDoor.rr Go.Proofs.YtdefgghhkknnpaaGreatDoor.tk Go.Proofs.YtdefgghhkknnpaaGreatDoor.tr
set_option linter.unusedVariables false
set_option linter.unusedSimpArgs false

/-- the text of expressions up to a size -/
def ReE (N : Nat) : Prop := ∀ x : Ex, SizeOf.sizeOf x < N → rE x → exB x = true → (exS x).length ≤ lim → ∀ (h : EH) (w : World), ExAt w w.heap.size x h → Calls Tryz.prog 68 #[.agg (eC h).toArray] w fun e w' => e = .returned (sv (exS x)) ∧ Below w.heap.size w w'
set_option maxRecDepth 100000 in
set_option maxHeartbeats 40000000 in
theorem refexpr_step {N : Nat} (IH : ReE N) : ReE (N + 1) := by
  intro x hN hr hxb hlen h w hx
  obtain ⟨xo, xn, xs, xf, xsub, xl⟩ := x
  obtain ⟨o, n, s, f, ⟨A, sl, c⟩, ln⟩ := h
  unfold ExAt at hx
  obtain ⟨rfl, rfl, rfl, rfl, rfl, H, hR, hE⟩ := hx
  have hx : ExL w w.heap.size ⟨A, sl, c⟩ xsub := ⟨H, hR, hE⟩
  replace hxb : exB (.mk o n s f xsub ln) = true := hxb
  replace hlen : (exS (.mk o n s f xsub ln)).length ≤ lim := hlen
  replace hr : rE (.mk o n s f xsub ln) := hr
  show Calls _ _ _ _ fun e w' => e = .returned (sv (exS (.mk o n s f xsub ln))) ∧ _
  rw [exB, Bool.and_eq_true] at hxb
  obtain ⟨hok, hsb⟩ := hxb
  unfold exOk at hok
  simp only [Bool.and_eq_true, decide_eq_true_eq, beq_iff_eq] at hok
  obtain ⟨⟨ho1, ho2⟩, hn1, hn2, hnm, hfd, hk⟩ := hok
  rw [rE] at hr
  obtain ⟨hnj, hr1, hr2, hr3⟩ := hr
  simp only [Ex.mk.sizeOf_spec] at hN
  rw [exS] at hlen ⊢
  have HB := Lib.hid (al1 w (.cells #[.int .i64 o, .int .i64 n, .string ⟨s.toArray⟩, .string ⟨f.toArray⟩, .slice A sl c, .int .i64 ln] 44))
  have X1 := Lib.hid (Box.new w #[.int .i64 o, .int .i64 n, .string ⟨s.toArray⟩, .string ⟨f.toArray⟩, .slice A sl c, .int .i64 ln] 44)
  have Z1 := Lib.hid (show (w.alloc (.cells #[.int .i64 o, .int .i64 n, .string ⟨s.toArray⟩, .string ⟨f.toArray⟩, .slice A sl c, .int .i64 ln] 44)).heap.size = w.heap.size + 1 by simp)
  simp only [eC, Sl.v, sv]
  rcases (show o = 1 ∨ o = 2 ∨ o = 3 ∨ o = 4 ∨ o = 5 ∨ o = 6 ∨ o = 7 ∨ 8 ≤ o by omega) with rfl | rfl | rfl | rfl | rfl | rfl | rfl | h8
  · rw [show exT 1 n s f (exsS xsub) = numS n from rfl]
    have NU := Lib.hid fun W => refnum_any n hnj W
    unfold sv at NU
    generalize (⟨s.toArray⟩ : ByteArray) = xs at *
    generalize (⟨f.toArray⟩ : ByteArray) = xf at *
    clear hx hR hE hsb hnm hfd hk hlen hr1 hr2 hr3 IH hN ho1 ho2 hn1 hn2 hnj
    go_enter Tryz.func68, Tryz.ntmps68
    go_upto_region 1 with (fail)
    generalize w.alloc (.cells #[.int .i64 1, .int .i64 n, .string xs, .string xf, .slice A sl c, .int .i64 ln] 44) = w1 at *
    have ⟨c0, _, c1, _, c2, _, c3, _, c4, _, _⟩ := X1.out
    go_wp2_with (go_at_call 19; fail)
    refine (NU.out _).mono ?_
    rintro e w2 ⟨rfl, rfl⟩
    clear NU
    go_wp2_with fail
    go_ret
    exact ⟨rfl, HB.out⟩
  · rw [show exT 2 n s f (exsS xsub) = truthS n from rfl]
    have NU := Lib.hid fun W => reftruth_any n W
    unfold sv at NU
    generalize (⟨s.toArray⟩ : ByteArray) = xs at *
    generalize (⟨f.toArray⟩ : ByteArray) = xf at *
    clear hx hR hE hsb hnm hfd hk hlen hr1 hr2 hr3 IH hN ho1 ho2 hn1 hn2 hnj
    go_enter Tryz.func68, Tryz.ntmps68
    go_upto_region 1 with (fail)
    generalize w.alloc (.cells #[.int .i64 2, .int .i64 n, .string xs, .string xf, .slice A sl c, .int .i64 ln] 44) = w1 at *
    have ⟨c0, _, c1, _, c2, _, c3, _, c4, _, _⟩ := X1.out
    go_wp2_with (go_at_call 21; fail)
    refine (NU.out _).mono ?_
    rintro e w2 ⟨rfl, rfl⟩
    clear NU
    go_wp2_with fail
    go_ret
    exact ⟨rfl, HB.out⟩
  · rw [show exT 3 n s f (exsS xsub) = s from rfl]
    generalize (⟨s.toArray⟩ : ByteArray) = xs at *
    generalize (⟨f.toArray⟩ : ByteArray) = xf at *
    clear hx hR hE hsb hnm hfd hk hlen hr1 hr2 hr3 IH hN ho1 ho2 hn1 hn2 hnj
    go_enter Tryz.func68, Tryz.ntmps68
    go_upto_region 1 with (fail)
    generalize w.alloc (.cells #[.int .i64 3, .int .i64 n, .string xs, .string xf, .slice A sl c, .int .i64 ln] 44) = w1 at *
    have ⟨c0, _, c1, _, c2, _, c3, _, c4, _, _⟩ := X1.out
    go_wp2_with fail
    go_ret
    exact ⟨rfl, HB.out⟩
  · have hk : xsub.length = 1 := hk
    obtain ⟨y, h0, b, o0, rfl, hxa, hA, hb, hc, hls⟩ := sub_one hx hk
    have hA : A = some ⟨b, o0, none⟩ := hA
    have hls : sl = 1 := hls
    subst hA hls
    rw [exsB, Bool.and_eq_true] at hsb
    rw [show exsS [y] = [exS y] by simp only [exsS]] at hlen ⊢
    rw [rEs] at hr3
    rw [show exT 4 n s f [exS y] = s ++ [91] ++ exS y ++ [93] from rfl] at hlen ⊢
    obtain ⟨T, hT⟩ : ∃ T, s ++ [91] ++ exS y ++ [93] = T := ⟨_, rfl⟩
    rw [hT] at hlen ⊢
    have hla : T.length = s.length + 1 + (exS y).length + 1 := by rw [← hT]; simp [List.length_append]; try omega
    have SC := Lib.hid fun W (hW : Below w.heap.size w W) => IH y (by simp only [List.cons.sizeOf_spec] at hN; omega) hr3.1 hsb.1 (by omega) h0 W (hxa.below hW hW.size)
    unfold sv at SC
    have HTX : Hid (⟨s.toArray⟩ ++ ⟨#[91]⟩ ++ ⟨(exS y).toArray⟩ ++ ⟨#[93]⟩ = (⟨T.toArray⟩ : ByteArray)) := Lib.hid (by
      rw [← hT]
      exact by rw [show (⟨#[91]⟩ : ByteArray) = ⟨([91] : Str).toArray⟩ from rfl, show (⟨#[93]⟩ : ByteArray) = ⟨([93] : Str).toArray⟩ from rfl]; simp only [cat_sv])
    have sa : (⟨(exS y).toArray⟩ : ByteArray).size = (exS y).length := sz_sv _
    have ss : (⟨s.toArray⟩ : ByteArray).size = s.length := sz_sv _
    have hlim : T.length ≤ 140737488355328 := hlen
    generalize (⟨s.toArray⟩ : ByteArray) = xs at *
    generalize (⟨f.toArray⟩ : ByteArray) = xf at *
    generalize (⟨(exS y).toArray⟩ : ByteArray) = xa at *
    have hbr : b < (w.alloc (.cells #[.int .i64 4, .int .i64 n, .string xs, .string xf, .slice (some ⟨b, o0, none⟩) 1 c, .int .i64 ln] 44)).heap.size := by have := Z1.out; omega
    have HBB := Lib.hid hbr
    have HC := Lib.hid (range_below hc HB.out hb)
    have QQ := Lib.hid (show ¬ 9223372036854775807 < xs.size + 1 ∧ ¬ 9223372036854775807 < xs.size + 1 + xa.size ∧ ¬ 9223372036854775807 < xs.size + 1 + xa.size + 1 by omega)
    clear hx hR hE hsb hnm hfd hk hlen hr1 hr2 hr3 IH hN ho1 ho2 hn1 hn2 hnj hT hla sa ss hlim hxa hb hc hbr
    go_enter Tryz.func68, Tryz.ntmps68
    go_upto_region 1 with (fail)
    generalize w.alloc (.cells #[.int .i64 4, .int .i64 n, .string xs, .string xf, .slice (some ⟨b, o0, none⟩) 1 c, .int .i64 ln] 44) = w1 at *
    have ⟨c0, _, c1, _, c2, _, c3, _, c4, _, _⟩ := X1.out
    have C2 := Lib.hid c2
    have C4 := Lib.hid c4
    go_upto_region 8 with (fail)
    clear c0 c1 c2 c3 c4
    refine wp_region_T (by kernel_rfl) (fun w' => Below w1.heap.size w1 w') [] (Below.refl _ _).drew (fun hHeld => ?_)
    have BD := Lib.hid (Below.drew (Below.refl w1.heap.size w1))
    generalize w1.drew = w3 at *
    refine wpAnyT_take (i := 0) (v := ?_) rfl (by kernel_rfl) (by kernel_rfl) (by kernel_rfl) (fun _ _ _ h => h) (Or.inl ⟨by rfl, ?_⟩) (by assumption) ?_
    rotate_left 1
    · intro w_ hSw; clear hSw; have QQ_ := QQ.out; go_simp <;> (with_reducible rfl)
    try simp only [Act.put, List.setIfInBounds_toArray, List.set_cons_zero, List.set_cons_succ, List.getElem_toArray, List.getElem_cons_succ, List.getElem_cons_zero]
    refine wpAnyT_take (i := 1) (v := ?_) rfl (by kernel_rfl) (by kernel_rfl) (by kernel_rfl) (fun _ _ _ h => h) (Or.inl ⟨by rfl, ?_⟩) (by assumption) ?_
    rotate_left 1
    · intro w_ hSw; have hl := (hSw.cell (p := ⟨w.heap.size, 2, none⟩) (by have := Z1.out; show w.heap.size < _; omega)).trans C2.out; clear hSw; go_simp <;> (with_reducible rfl)
    try simp only [Act.put, List.setIfInBounds_toArray, List.set_cons_zero, List.set_cons_succ, List.getElem_toArray, List.getElem_cons_succ, List.getElem_cons_zero]
    refine wpAnyT_take (i := 2) (v := ?_) rfl (by kernel_rfl) (by kernel_rfl) (by kernel_rfl) (fun _ _ _ h => h) (Or.inl ⟨by rfl, ?_⟩) (by assumption) ?_
    rotate_left 1
    · intro w_ hSw; clear hSw; have QQ_ := QQ.out; go_simp <;> (with_reducible rfl)
    try simp only [Act.put, List.setIfInBounds_toArray, List.set_cons_zero, List.set_cons_succ, List.getElem_toArray, List.getElem_cons_succ, List.getElem_cons_zero]
    refine wpAnyT_take (i := 3) (v := ?_) rfl (by kernel_rfl) (by kernel_rfl) (by kernel_rfl) (fun _ _ _ h => h) (Or.inl ⟨by rfl, ?_⟩) (by assumption) ?_
    rotate_left 1
    · intro w_ hSw; clear hSw; have QQ_ := QQ.out; go_simp <;> (with_reducible rfl)
    try simp only [Act.put, List.setIfInBounds_toArray, List.set_cons_zero, List.set_cons_succ, List.getElem_toArray, List.getElem_cons_succ, List.getElem_cons_zero]
    refine wpAnyT_take (i := 4) (v := ?_) rfl (by kernel_rfl) (by kernel_rfl) (by kernel_rfl) (fun _ _ _ h => h) (Or.inl ⟨by rfl, ?_⟩) (by assumption) ?_
    rotate_left 1
    · intro w_ hSw; have hl := (hSw.cell (p := ⟨w.heap.size, 4, none⟩) (by have := Z1.out; show w.heap.size < _; omega)).trans C4.out; clear hSw; go_simp <;> (with_reducible rfl)
    try simp only [Act.put, List.setIfInBounds_toArray, List.set_cons_zero, List.set_cons_succ, List.getElem_toArray, List.getElem_cons_succ, List.getElem_cons_zero]
    refine wpAnyT_take (i := 5) (v := ?_) rfl (by kernel_rfl) (by kernel_rfl) (by kernel_rfl) (fun _ _ _ h => h) (Or.inl ⟨by rfl, ?_⟩) (by assumption) ?_
    rotate_left 1
    · intro w_ hSw; clear hSw; have QQ_ := QQ.out; go_simp <;> (with_reducible rfl)
    try simp only [Act.put, List.setIfInBounds_toArray, List.set_cons_zero, List.set_cons_succ, List.getElem_toArray, List.getElem_cons_succ, List.getElem_cons_zero]
    refine wpAnyT_take (i := 6) rfl (by kernel_rfl) (by kernel_rfl) (by kernel_rfl) (fun _ _ _ h => h) (yieldsIf_load_mid (by rfl) 44 (.tmp 33) rfl b o0 rfl (eC h0) _ (fun _ hb' => range_below HC.out hb' HBB.out) rfl rfl (by kernel_rfl)) (by assumption) ?_
    try simp only [Act.put, List.setIfInBounds_toArray, List.set_cons_zero, List.set_cons_succ, List.getElem_toArray, List.getElem_cons_succ, List.getElem_cons_zero]
    refine wpAnyT_ready (rs := [7]) (by kernel_rfl) (by simp) ?_
    refine AllReadyT.cons rfl (fun K hK => ?_) AllReadyT.nil
    go_simp
    go_at_call 68
    refine (SC.out _ (HB.out.trans (BD.out.mono HB.out.size))).mono ?_
    rintro e w4 ⟨rfl, hb⟩
    have BE := Lib.hid (BD.out.trans (hb.mono BD.out.size))
    clear hb
    go_wp2_with fail
    refine hK _ _ BE.out (fun hHeld => ?_)
    clear hK K
    try simp only [Act.put, List.setIfInBounds_toArray, List.set_cons_zero, List.set_cons_succ, List.getElem_toArray, List.getElem_cons_succ, List.getElem_cons_zero]
    refine wpAnyT_take (i := 8) (v := ?_) rfl (by kernel_rfl) (by kernel_rfl) (by kernel_rfl) (fun _ _ _ h => h) (Or.inl ⟨by rfl, ?_⟩) (by assumption) ?_
    rotate_left 1
    · intro w_ hSw; clear hSw; have QQ_ := QQ.out; go_simp <;> (with_reducible rfl)
    try simp only [Act.put, List.setIfInBounds_toArray, List.set_cons_zero, List.set_cons_succ, List.getElem_toArray, List.getElem_cons_succ, List.getElem_cons_zero]
    refine wpAnyT_take (i := 9) (v := ?_) rfl (by kernel_rfl) (by kernel_rfl) (by kernel_rfl) (fun _ _ _ h => h) (Or.inl ⟨by rfl, ?_⟩) (by assumption) ?_
    rotate_left 1
    · intro w_ hSw; clear hSw; have QQ_ := QQ.out; go_simp <;> (with_reducible rfl)
    try simp only [Act.put, List.setIfInBounds_toArray, List.set_cons_zero, List.set_cons_succ, List.getElem_toArray, List.getElem_cons_succ, List.getElem_cons_zero]
    refine wpAnyT_take (i := 10) (v := ?_) rfl (by kernel_rfl) (by kernel_rfl) (by kernel_rfl) (fun _ _ _ h => h) (Or.inl ⟨by rfl, ?_⟩) (by assumption) ?_
    rotate_left 1
    · intro w_ hSw; clear hSw; have QQ_ := QQ.out; go_simp <;> (with_reducible rfl)
    try simp only [Act.put, List.setIfInBounds_toArray, List.set_cons_zero, List.set_cons_succ, List.getElem_toArray, List.getElem_cons_succ, List.getElem_cons_zero]
    refine wpAnyT_done (by kernel_rfl) ?_ _
    go_wp2
    go_ret
    rw [HTX.out]
    exact ⟨rfl, HB.out.trans (BE.out.mono HB.out.size)⟩
  · rw [show exT 5 n s f (exsS xsub) = s ++ [46] ++ f from rfl] at hlen ⊢
    obtain ⟨T, hT⟩ : ∃ T, s ++ [46] ++ f = T := ⟨_, rfl⟩
    rw [hT] at hlen ⊢
    have hla : T.length = s.length + 1 + f.length := by rw [← hT]; simp [List.length_append]; try omega
    have HTX : Hid ((⟨s.toArray⟩ : ByteArray) ++ ⟨#[46]⟩ ++ ⟨f.toArray⟩ = (⟨T.toArray⟩ : ByteArray)) := Lib.hid (by
      rw [← hT, show (⟨#[46]⟩ : ByteArray) = ⟨([46] : Str).toArray⟩ from rfl]
      simp only [cat_sv])
    have ss : (⟨s.toArray⟩ : ByteArray).size = s.length := sz_sv _
    have sf : (⟨f.toArray⟩ : ByteArray).size = f.length := sz_sv _
    have hlim : T.length ≤ 140737488355328 := hlen
    generalize (⟨s.toArray⟩ : ByteArray) = xs at *
    generalize (⟨f.toArray⟩ : ByteArray) = xf at *
    have q1 : ¬ 9223372036854775807 < xs.size + 1 := by omega
    have q2 : ¬ 9223372036854775807 < xs.size + 1 + xf.size := by omega
    clear hx hR hE hsb hnm hfd hk hlen hr1 hr2 hr3 IH hN ho1 ho2 hn1 hn2 hnj hT hla ss sf hlim
    go_enter Tryz.func68, Tryz.ntmps68
    go_upto_region 1 with (fail)
    generalize w.alloc (.cells #[.int .i64 5, .int .i64 n, .string xs, .string xf, .slice A sl c, .int .i64 ln] 44) = w1 at *
    have ⟨c0, _, c1, _, c2, _, c3, _, c4, _, _⟩ := X1.out
    go_wp2_with fail
    go_ret
    rw [HTX.out]
    exact ⟨rfl, HB.out⟩
  · have hk : xsub.length = 1 := hk
    obtain ⟨y, h0, b, o0, rfl, hxa, hA, hb, hc, hls⟩ := sub_one hx hk
    have hA : A = some ⟨b, o0, none⟩ := hA
    have hls : sl = 1 := hls
    subst hA hls
    rw [exsB, Bool.and_eq_true] at hsb
    rw [show exsS [y] = [exS y] by simp only [exsS]] at hlen ⊢
    rw [rEs] at hr3
    rw [show exT 6 n s f [exS y] = [40, 45] ++ exS y ++ [41] from rfl] at hlen ⊢
    obtain ⟨T, hT⟩ : ∃ T, [40, 45] ++ exS y ++ [41] = T := ⟨_, rfl⟩
    rw [hT] at hlen ⊢
    have hla : T.length = 2 + (exS y).length + 1 := by rw [← hT]; simp [List.length_append]; try omega
    have SC := Lib.hid fun W (hW : Below w.heap.size w W) => IH y (by simp only [List.cons.sizeOf_spec] at hN; omega) hr3.1 hsb.1 (by omega) h0 W (hxa.below hW hW.size)
    unfold sv at SC
    have HTX : Hid ((⟨#[40, 45]⟩ : ByteArray) ++ ⟨(exS y).toArray⟩ ++ ⟨#[41]⟩ = (⟨T.toArray⟩ : ByteArray)) := Lib.hid (by
      rw [← hT]
      exact by rw [show (⟨#[40, 45]⟩ : ByteArray) = ⟨([40, 45] : Str).toArray⟩ from rfl, show (⟨#[41]⟩ : ByteArray) = ⟨([41] : Str).toArray⟩ from rfl]; simp only [cat_sv])
    have sa : (⟨(exS y).toArray⟩ : ByteArray).size = (exS y).length := sz_sv _
    have ss : (⟨s.toArray⟩ : ByteArray).size = s.length := sz_sv _
    have hlim : T.length ≤ 140737488355328 := hlen
    generalize (⟨s.toArray⟩ : ByteArray) = xs at *
    generalize (⟨f.toArray⟩ : ByteArray) = xf at *
    generalize (⟨(exS y).toArray⟩ : ByteArray) = xa at *
    have hbr : b < (w.alloc (.cells #[.int .i64 6, .int .i64 n, .string xs, .string xf, .slice (some ⟨b, o0, none⟩) 1 c, .int .i64 ln] 44)).heap.size := by have := Z1.out; omega
    have HBB := Lib.hid hbr
    have HC := Lib.hid (range_below hc HB.out hb)
    have q1 : ¬ 9223372036854775807 < 2 + xa.size := by omega
    have q2 : ¬ 9223372036854775807 < 2 + xa.size + 1 := by omega
    clear hx hR hE hsb hnm hfd hk hlen hr1 hr2 hr3 IH hN ho1 ho2 hn1 hn2 hnj hT hla sa ss hlim hxa hb hc hbr
    go_enter Tryz.func68, Tryz.ntmps68
    go_upto_region 1 with (fail)
    generalize w.alloc (.cells #[.int .i64 6, .int .i64 n, .string xs, .string xf, .slice (some ⟨b, o0, none⟩) 1 c, .int .i64 ln] 44) = w1 at *
    have ⟨c0, _, c1, _, c2, _, c3, _, c4, _, _⟩ := X1.out
    go_wp2_with (first | ((with_reducible refine m_loadR HC.out 44 54 ?_ ?_ ?_ ?_ ?_ ?_); rfl; rfl; rfl; rfl; kernel_rfl) | (go_at_call 68; fail))
    refine (SC.out _ HB.out).mono ?_
    rintro e w2 ⟨rfl, hb⟩
    have B2 := Lib.hid (HB.out.trans (hb.mono HB.out.size))
    clear hb SC c0 c1 c2 c3 c4
    go_wp2_with fail
    go_ret
    rw [HTX.out]
    exact ⟨rfl, B2.out⟩
  · have hk : xsub.length = 1 := hk
    obtain ⟨y, h0, b, o0, rfl, hxa, hA, hb, hc, hls⟩ := sub_one hx hk
    have hA : A = some ⟨b, o0, none⟩ := hA
    have hls : sl = 1 := hls
    subst hA hls
    rw [exsB, Bool.and_eq_true] at hsb
    rw [show exsS [y] = [exS y] by simp only [exsS]] at hlen ⊢
    rw [rEs] at hr3
    rw [show exT 7 n s f [exS y] = [40, 78, 79, 84, 32] ++ exS y ++ [41] from rfl] at hlen ⊢
    obtain ⟨T, hT⟩ : ∃ T, [40, 78, 79, 84, 32] ++ exS y ++ [41] = T := ⟨_, rfl⟩
    rw [hT] at hlen ⊢
    have hla : T.length = 5 + (exS y).length + 1 := by rw [← hT]; simp [List.length_append]; try omega
    have SC := Lib.hid fun W (hW : Below w.heap.size w W) => IH y (by simp only [List.cons.sizeOf_spec] at hN; omega) hr3.1 hsb.1 (by omega) h0 W (hxa.below hW hW.size)
    unfold sv at SC
    have HTX : Hid ((⟨#[40, 78, 79, 84, 32]⟩ : ByteArray) ++ ⟨(exS y).toArray⟩ ++ ⟨#[41]⟩ = (⟨T.toArray⟩ : ByteArray)) := Lib.hid (by
      rw [← hT]
      exact by rw [show (⟨#[40, 78, 79, 84, 32]⟩ : ByteArray) = ⟨([40, 78, 79, 84, 32] : Str).toArray⟩ from rfl, show (⟨#[41]⟩ : ByteArray) = ⟨([41] : Str).toArray⟩ from rfl]; simp only [cat_sv])
    have sa : (⟨(exS y).toArray⟩ : ByteArray).size = (exS y).length := sz_sv _
    have ss : (⟨s.toArray⟩ : ByteArray).size = s.length := sz_sv _
    have hlim : T.length ≤ 140737488355328 := hlen
    generalize (⟨s.toArray⟩ : ByteArray) = xs at *
    generalize (⟨f.toArray⟩ : ByteArray) = xf at *
    generalize (⟨(exS y).toArray⟩ : ByteArray) = xa at *
    have hbr : b < (w.alloc (.cells #[.int .i64 7, .int .i64 n, .string xs, .string xf, .slice (some ⟨b, o0, none⟩) 1 c, .int .i64 ln] 44)).heap.size := by have := Z1.out; omega
    have HBB := Lib.hid hbr
    have HC := Lib.hid (range_below hc HB.out hb)
    have q1 : ¬ 9223372036854775807 < 5 + xa.size := by omega
    have q2 : ¬ 9223372036854775807 < 5 + xa.size + 1 := by omega
    clear hx hR hE hsb hnm hfd hk hlen hr1 hr2 hr3 IH hN ho1 ho2 hn1 hn2 hnj hT hla sa ss hlim hxa hb hc hbr
    go_enter Tryz.func68, Tryz.ntmps68
    go_upto_region 1 with (fail)
    generalize w.alloc (.cells #[.int .i64 7, .int .i64 n, .string xs, .string xf, .slice (some ⟨b, o0, none⟩) 1 c, .int .i64 ln] 44) = w1 at *
    have ⟨c0, _, c1, _, c2, _, c3, _, c4, _, _⟩ := X1.out
    go_wp2_with (first | ((with_reducible refine m_loadR HC.out 44 65 ?_ ?_ ?_ ?_ ?_ ?_); rfl; rfl; rfl; rfl; kernel_rfl) | (go_at_call 68; fail))
    refine (SC.out _ HB.out).mono ?_
    rintro e w2 ⟨rfl, hb⟩
    have B2 := Lib.hid (HB.out.trans (hb.mono HB.out.size))
    clear hb SC c0 c1 c2 c3 c4
    go_wp2_with fail
    go_ret
    rw [HTX.out]
    exact ⟨rfl, B2.out⟩
  · have hk : xsub.length = 2 := hk.trans (subs_8 h8)
    obtain ⟨y, z, h0, h1, b, o0, rfl, hxa, hxz, hA, hb, hc, hc2, hls⟩ := sub_two hx hk
    have hA : A = some ⟨b, o0, none⟩ := hA
    have hls : sl = 2 := hls
    subst hA hls
    rw [exsB, exsB, Bool.and_eq_true, Bool.and_eq_true] at hsb
    rw [show exsS [y, z] = [exS y, exS z] by simp only [exsS]] at hlen ⊢
    rw [rEs, rEs] at hr3
    rw [show exT o n s f [exS y, exS z] = [40] ++ exS y ++ ([32] ++ opS o ++ [32]) ++ exS z ++ [41] by (unfold exT; rw [if_neg (by omega), if_neg (by omega), if_neg (by omega), if_neg (by omega), if_neg (by omega), if_neg (by omega), if_neg (by omega)]; rfl)] at hlen ⊢
    obtain ⟨T, hT⟩ : ∃ T, [40] ++ exS y ++ ([32] ++ opS o ++ [32]) ++ exS z ++ [41] = T := ⟨_, rfl⟩
    rw [hT] at hlen ⊢
    have hla : T.length = 1 + (exS y).length + 1 + (opS o).length + 1 + (exS z).length + 1 := by rw [← hT]; simp [List.length_append]; omega
    have SC := Lib.hid fun W (hW : Below w.heap.size w W) => IH y (by simp only [List.cons.sizeOf_spec] at hN; omega) hr3.1 hsb.1 (by omega) h0 W (hxa.below hW hW.size)
    have SD := Lib.hid fun W (hW : Below w.heap.size w W) => IH z (by simp only [List.cons.sizeOf_spec] at hN; omega) hr3.2.1 hsb.2.1 (by omega) h1 W (hxz.below hW hW.size)
    unfold sv at SC SD
    have HTX : Hid ((⟨#[40]⟩ : ByteArray) ++ ⟨(exS y).toArray⟩ ++ ⟨#[32]⟩ ++ ⟨(opS o).toArray⟩ ++ ⟨#[32]⟩ ++ ⟨(exS z).toArray⟩ ++ ⟨#[41]⟩ = (⟨T.toArray⟩ : ByteArray)) := Lib.hid (by
      rw [← hT, show (⟨#[40]⟩ : ByteArray) = ⟨([40] : Str).toArray⟩ from rfl, show (⟨#[32]⟩ : ByteArray) = ⟨([32] : Str).toArray⟩ from rfl, show (⟨#[41]⟩ : ByteArray) = ⟨([41] : Str).toArray⟩ from rfl]
      simp only [cat_sv, List.append_assoc])
    have sa : (⟨(exS y).toArray⟩ : ByteArray).size = (exS y).length := sz_sv _
    have sz : (⟨(exS z).toArray⟩ : ByteArray).size = (exS z).length := sz_sv _
    have so : (⟨(opS o).toArray⟩ : ByteArray).size = (opS o).length := sz_sv _
    have hlim : T.length ≤ 140737488355328 := hlen
    generalize (⟨s.toArray⟩ : ByteArray) = xs at *
    generalize (⟨f.toArray⟩ : ByteArray) = xf at *
    generalize (⟨(exS y).toArray⟩ : ByteArray) = xa at *
    generalize (⟨(exS z).toArray⟩ : ByteArray) = xz at *
    have hbr : b < (w.alloc (.cells #[.int .i64 o, .int .i64 n, .string xs, .string xf, .slice (some ⟨b, o0, none⟩) 2 c, .int .i64 ln] 44)).heap.size := by have := Z1.out; omega
    have HBB := Lib.hid hbr
    have HC := Lib.hid (range_below hc HB.out hb)
    have HD := Lib.hid (range_below hc2 HB.out hb)
    obtain ⟨xo, hxo⟩ : ∃ xo : ByteArray, (⟨(opS o).toArray⟩ : ByteArray) = xo := ⟨_, rfl⟩
    rw [hxo] at HTX so
    have HXO := Lib.hid hxo
    have QQ := Lib.hid (show ¬ 9223372036854775807 < 1 + xa.size ∧ ¬ 9223372036854775807 < 1 + xa.size + 1 ∧ ¬ 9223372036854775807 < 1 + xa.size + 1 + xo.size ∧ ¬ 9223372036854775807 < 1 + xa.size + 1 + xo.size + 1 ∧ ¬ 9223372036854775807 < 1 + xa.size + 1 + xo.size + 1 + xz.size ∧ ¬ 9223372036854775807 < 1 + xa.size + 1 + xo.size + 1 + xz.size + 1 by omega)
    have H8 := Lib.hid (And.intro h8 ho2)
    have z1 := neb (show o ≠ 1 by omega)
    have z2 := neb (show o ≠ 2 by omega)
    have z3 := neb (show o ≠ 3 by omega)
    have z4 := neb (show o ≠ 4 by omega)
    have z5 := neb (show o ≠ 5 by omega)
    have z6 := neb (show o ≠ 6 by omega)
    have z7 := neb (show o ≠ 7 by omega)
    clear hx hR hE hsb hnm hfd hk hlen hr1 hr2 hr3 IH hN ho1 ho2 hn1 hn2 hnj hT hla sa sz so hlim hxa hxz hb hc hc2 hbr hxo h8
    go_enter Tryz.func68, Tryz.ntmps68
    go_upto_region 1 with (fail)
    generalize w.alloc (.cells #[.int .i64 o, .int .i64 n, .string xs, .string xf, .slice (some ⟨b, o0, none⟩) 2 c, .int .i64 ln] 44) = w1 at *
    have ⟨c0, _, c1, _, c2, _, c3, _, c4, _, _⟩ := X1.out
    have C0 := Lib.hid c0
    have C4 := Lib.hid c4
    go_upto_region 15 with (fail)
    go_cut [3] from 70 to 74 (fun s3 wx => s3 = .string xo ∧ w1 = wx)
    case first =>
      clear SC SD HTX HC HD QQ z1 z2 z3 z4 z5 z6 z7
      have wo : wrap64 (o - 8) = o - 8 := by have := H8.out; unfold wrap64; omega
      have wo2 : IntKind.i64.wrap (o - 8) = o - 8 := by have := H8.out; rw [IntKind.wrap_i64]; omega
      go_wp2_with ((with_reducible refine m_index 150 70 73 (.agg opC) (.int .i64 (o - 8)) (.string xo) ?_ ?_ ?_ ?_ ?_ ?_); rfl; rfl; rfl; rfl; (intro W; exact run_opC o H8.out.1 H8.out.2 xo HXO.out W))
      go_meet
      exact ⟨rfl, rfl⟩
    case rest =>
      obtain ⟨rfl, rfl⟩ := hcut
      go_upto_region 16 with (fail)
      clear c0 c1 c2 c3 c4 z1 z2 z3 z4 z5 z6 z7
      refine wp_region_T (by kernel_rfl) (fun w' => Below w1.heap.size w1 w') [] (Below.refl _ _).drew (fun hHeld => ?_)
      have BD := Lib.hid (Below.drew (Below.refl w1.heap.size w1))
      generalize w1.drew = w3 at *
      refine wpAnyT_take (i := 0) (v := ?_) rfl (by kernel_rfl) (by kernel_rfl) (by kernel_rfl) (fun _ _ _ h => h) (Or.inl ⟨by rfl, ?_⟩) (by assumption) ?_
      rotate_left 1
      · intro w_ hSw; clear hSw; have QQ_ := QQ.out; go_simp <;> (with_reducible rfl)
      try simp only [Act.put, List.setIfInBounds_toArray, List.set_cons_zero, List.set_cons_succ, List.getElem_toArray, List.getElem_cons_succ, List.getElem_cons_zero]
      refine wpAnyT_take (i := 1) (v := ?_) rfl (by kernel_rfl) (by kernel_rfl) (by kernel_rfl) (fun _ _ _ h => h) (Or.inl ⟨by rfl, ?_⟩) (by assumption) ?_
      rotate_left 1
      · intro w_ hSw; have hl := (hSw.cell (p := ⟨w.heap.size, 4, none⟩) (by have := Z1.out; show w.heap.size < _; omega)).trans C4.out; clear hSw; go_simp <;> (with_reducible rfl)
      try simp only [Act.put, List.setIfInBounds_toArray, List.set_cons_zero, List.set_cons_succ, List.getElem_toArray, List.getElem_cons_succ, List.getElem_cons_zero]
      refine wpAnyT_take (i := 2) (v := ?_) rfl (by kernel_rfl) (by kernel_rfl) (by kernel_rfl) (fun _ _ _ h => h) (Or.inl ⟨by rfl, ?_⟩) (by assumption) ?_
      rotate_left 1
      · intro w_ hSw; clear hSw; have QQ_ := QQ.out; go_simp <;> (with_reducible rfl)
      try simp only [Act.put, List.setIfInBounds_toArray, List.set_cons_zero, List.set_cons_succ, List.getElem_toArray, List.getElem_cons_succ, List.getElem_cons_zero]
      refine wpAnyT_take (i := 3) rfl (by kernel_rfl) (by kernel_rfl) (by kernel_rfl) (fun _ _ _ h => h) (yieldsIf_load_mid (by rfl) 44 (.tmp 77) rfl b o0 rfl (eC h0) _ (fun _ hb' => range_below HC.out hb' HBB.out) rfl rfl (by kernel_rfl)) (by assumption) ?_
      try simp only [Act.put, List.setIfInBounds_toArray, List.set_cons_zero, List.set_cons_succ, List.getElem_toArray, List.getElem_cons_succ, List.getElem_cons_zero]
      refine wpAnyT_take (i := 7) (v := ?_) rfl (by kernel_rfl) (by kernel_rfl) (by kernel_rfl) (fun _ _ _ h => h) (Or.inl ⟨by rfl, ?_⟩) (by assumption) ?_
      rotate_left 1
      · intro w_ hSw; clear hSw; have QQ_ := QQ.out; go_simp <;> (with_reducible rfl)
      try simp only [Act.put, List.setIfInBounds_toArray, List.set_cons_zero, List.set_cons_succ, List.getElem_toArray, List.getElem_cons_succ, List.getElem_cons_zero]
      refine wpAnyT_take (i := 10) (v := ?_) rfl (by kernel_rfl) (by kernel_rfl) (by kernel_rfl) (fun _ _ _ h => h) (Or.inl ⟨by rfl, ?_⟩) (by assumption) ?_
      rotate_left 1
      · intro w_ hSw; clear hSw; have QQ_ := QQ.out; go_simp <;> (with_reducible rfl)
      try simp only [Act.put, List.setIfInBounds_toArray, List.set_cons_zero, List.set_cons_succ, List.getElem_toArray, List.getElem_cons_succ, List.getElem_cons_zero]
      refine wpAnyT_take (i := 11) (v := ?_) rfl (by kernel_rfl) (by kernel_rfl) (by kernel_rfl) (fun _ _ _ h => h) (Or.inl ⟨by rfl, ?_⟩) (by assumption) ?_
      rotate_left 1
      · intro w_ hSw; have hl := (hSw.cell (p := ⟨w.heap.size, 4, none⟩) (by have := Z1.out; show w.heap.size < _; omega)).trans C4.out; clear hSw; go_simp <;> (with_reducible rfl)
      try simp only [Act.put, List.setIfInBounds_toArray, List.set_cons_zero, List.set_cons_succ, List.getElem_toArray, List.getElem_cons_succ, List.getElem_cons_zero]
      refine wpAnyT_take (i := 12) (v := ?_) rfl (by kernel_rfl) (by kernel_rfl) (by kernel_rfl) (fun _ _ _ h => h) (Or.inl ⟨by rfl, ?_⟩) (by assumption) ?_
      rotate_left 1
      · intro w_ hSw; clear hSw; have QQ_ := QQ.out; go_simp <;> (with_reducible rfl)
      try simp only [Act.put, List.setIfInBounds_toArray, List.set_cons_zero, List.set_cons_succ, List.getElem_toArray, List.getElem_cons_succ, List.getElem_cons_zero]
      refine wpAnyT_take (i := 13) rfl (by kernel_rfl) (by kernel_rfl) (by kernel_rfl) (fun _ _ _ h => h) (yieldsIf_load_mid (by rfl) 44 (.tmp 87) rfl b (o0 + 6) rfl (eC h1) _ (fun _ hb' => range_below HD.out hb' HBB.out) rfl rfl (by kernel_rfl)) (by assumption) ?_
      try simp only [Act.put, List.setIfInBounds_toArray, List.set_cons_zero, List.set_cons_succ, List.getElem_toArray, List.getElem_cons_succ, List.getElem_cons_zero]
      refine wpAnyT_ready (rs := [4]) (by kernel_rfl) (by simp) ?_
      refine AllReadyT.cons rfl (fun K hK => ?_) AllReadyT.nil
      go_simp
      go_at_call 68
      refine (SC.out _ (HB.out.trans (BD.out.mono HB.out.size))).mono ?_
      rintro e w4 ⟨rfl, hb⟩
      have BE := Lib.hid (BD.out.trans (hb.mono BD.out.size))
      clear hb
      go_wp2_with fail
      refine hK _ _ BE.out (fun hHeld => ?_)
      clear hK K
      try simp only [Act.put, List.setIfInBounds_toArray, List.set_cons_zero, List.set_cons_succ, List.getElem_toArray, List.getElem_cons_succ, List.getElem_cons_zero]
      refine wpAnyT_take (i := 5) (v := ?_) rfl (by kernel_rfl) (by kernel_rfl) (by kernel_rfl) (fun _ _ _ h => h) (Or.inl ⟨by rfl, ?_⟩) (by assumption) ?_
      rotate_left 1
      · intro w_ hSw; clear hSw; have QQ_ := QQ.out; go_simp <;> (with_reducible rfl)
      try simp only [Act.put, List.setIfInBounds_toArray, List.set_cons_zero, List.set_cons_succ, List.getElem_toArray, List.getElem_cons_succ, List.getElem_cons_zero]
      refine wpAnyT_take (i := 6) (v := ?_) rfl (by kernel_rfl) (by kernel_rfl) (by kernel_rfl) (fun _ _ _ h => h) (Or.inl ⟨by rfl, ?_⟩) (by assumption) ?_
      rotate_left 1
      · intro w_ hSw; clear hSw; have QQ_ := QQ.out; go_simp <;> (with_reducible rfl)
      try simp only [Act.put, List.setIfInBounds_toArray, List.set_cons_zero, List.set_cons_succ, List.getElem_toArray, List.getElem_cons_succ, List.getElem_cons_zero]
      refine wpAnyT_take (i := 8) (v := ?_) rfl (by kernel_rfl) (by kernel_rfl) (by kernel_rfl) (fun _ _ _ h => h) (Or.inl ⟨by rfl, ?_⟩) (by assumption) ?_
      rotate_left 1
      · intro w_ hSw; clear hSw; have QQ_ := QQ.out; go_simp <;> (with_reducible rfl)
      try simp only [Act.put, List.setIfInBounds_toArray, List.set_cons_zero, List.set_cons_succ, List.getElem_toArray, List.getElem_cons_succ, List.getElem_cons_zero]
      refine wpAnyT_take (i := 9) (v := ?_) rfl (by kernel_rfl) (by kernel_rfl) (by kernel_rfl) (fun _ _ _ h => h) (Or.inl ⟨by rfl, ?_⟩) (by assumption) ?_
      rotate_left 1
      · intro w_ hSw; clear hSw; have QQ_ := QQ.out; go_simp <;> (with_reducible rfl)
      try simp only [Act.put, List.setIfInBounds_toArray, List.set_cons_zero, List.set_cons_succ, List.getElem_toArray, List.getElem_cons_succ, List.getElem_cons_zero]
      refine wpAnyT_ready (rs := [14]) (by kernel_rfl) (by simp) ?_
      refine AllReadyT.cons rfl (fun K hK => ?_) AllReadyT.nil
      go_simp
      go_at_call 68
      refine (SD.out _ (HB.out.trans (BE.out.mono HB.out.size))).mono ?_
      rintro e w5 ⟨rfl, hb⟩
      have BG := Lib.hid (BE.out.trans (hb.mono BE.out.size))
      clear hb
      go_wp2_with fail
      refine hK _ _ BG.out (fun hHeld => ?_)
      clear hK K
      try simp only [Act.put, List.setIfInBounds_toArray, List.set_cons_zero, List.set_cons_succ, List.getElem_toArray, List.getElem_cons_succ, List.getElem_cons_zero]
      refine wpAnyT_take (i := 15) (v := ?_) rfl (by kernel_rfl) (by kernel_rfl) (by kernel_rfl) (fun _ _ _ h => h) (Or.inl ⟨by rfl, ?_⟩) (by assumption) ?_
      rotate_left 1
      · intro w_ hSw; clear hSw; have QQ_ := QQ.out; go_simp <;> (with_reducible rfl)
      try simp only [Act.put, List.setIfInBounds_toArray, List.set_cons_zero, List.set_cons_succ, List.getElem_toArray, List.getElem_cons_succ, List.getElem_cons_zero]
      refine wpAnyT_take (i := 16) (v := ?_) rfl (by kernel_rfl) (by kernel_rfl) (by kernel_rfl) (fun _ _ _ h => h) (Or.inl ⟨by rfl, ?_⟩) (by assumption) ?_
      rotate_left 1
      · intro w_ hSw; clear hSw; have QQ_ := QQ.out; go_simp <;> (with_reducible rfl)
      try simp only [Act.put, List.setIfInBounds_toArray, List.set_cons_zero, List.set_cons_succ, List.getElem_toArray, List.getElem_cons_succ, List.getElem_cons_zero]
      refine wpAnyT_take (i := 17) (v := ?_) rfl (by kernel_rfl) (by kernel_rfl) (by kernel_rfl) (fun _ _ _ h => h) (Or.inl ⟨by rfl, ?_⟩) (by assumption) ?_
      rotate_left 1
      · intro w_ hSw; clear hSw; have QQ_ := QQ.out; go_simp <;> (with_reducible rfl)
      try simp only [Act.put, List.setIfInBounds_toArray, List.set_cons_zero, List.set_cons_succ, List.getElem_toArray, List.getElem_cons_succ, List.getElem_cons_zero]
      refine wpAnyT_done (by kernel_rfl) ?_ _
      go_wp2
      go_ret
      rw [HTX.out]
      exact ⟨rfl, HB.out.trans (BG.out.mono HB.out.size)⟩
theorem refexpr_all : ∀ N, ReE N
  | 0 => fun _ h => absurd h (by omega)
  | N + 1 => refexpr_step (refexpr_all N)
theorem refexpr_any {x : Ex} {h : EH} {w : World} (hr : rE x) (hb : exB x = true) (hl : (exS x).length ≤ lim) (hx : ExAt w w.heap.size x h) : Calls Tryz.prog 68 #[.agg (eC h).toArray] w fun e w' => e = .returned (sv (exS x)) ∧ Below w.heap.size w w' :=
  refexpr_all (SizeOf.sizeOf x + 1) x (by omega) hr hb hl h w hx
end Go.Proofs.YtdefgghhkknnpaaGreatDoor.sh
