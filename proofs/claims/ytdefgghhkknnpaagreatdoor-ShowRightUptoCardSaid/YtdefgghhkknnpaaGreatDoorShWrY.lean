/- The landed writer's program, and Show. Conditions: the library's variable MaxLen holds some number, its table of powers of ten lies as it lays it; the program has at most 2^40 parts, its numbers are numbers of 64 bits, its text has at most 2^47 bytes. -/
import Derived.Test.YtdefgghhkknnpaaGreatDoorShWrX
namespace Go.Proofs.YtdefgghhkknnpaaGreatDoor.sh
open Go.ChangeShapes Go.WideShapes Go.ChangeAt Go.RowKit Go.Proofs.YtdefgghhkknnpaaGreatDoor Go.Proofs.YtdefgghhkknnpaaGreatDoor.k Go.Proofs.YtdefgghhkknnpaaGreatDoor.rr Go.Proofs.YtdefgghhkknnpaaGreatDoor.tk Go.Proofs.YtdefgghhkknnpaaGreatDoor.tr
set_option linter.unusedVariables false
set_option linter.unusedSimpArgs false

def inP (p : Pg) : Prop := (∀ v ∈ p.vars, InI v.init) ∧ inSs p.body
theorem vas_at {L : List Va} {q : Nat} {x : Va} (h : L[q]? = some x) : vasS (L.drop q) = vaS x ++ vasS (L.drop (q + 1)) := by rw [drop_at h, vasS]
theorem laid_lt {w : World} (h : Laid w) : 0 < w.heap.size := by
  unfold Laid Lib.TabIs World.var? at h
  rw [gPow] at h
  simp only [Option.bind_some] at h
  rcases Nat.lt_or_ge 0 w.heap.size with h' | h'
  · exact h'
  · rw [Array.getElem?_eq_none h'] at h; simp at h
set_option maxRecDepth 100000 in
set_option maxHeartbeats 16000000 in
theorem program_any {p : Pg} {h : GH} {B g : Nat} {l : Str} {w : World} (hK : Wx B g l w) (hp : PgAt w B p h) (hv : p.vars.all vaB = true) (hb : stsB p.body = true) (hin : inP p) (hlen : l.length + (pgS p).length ≤ lim) :
    Calls Tryz.prog 15 #[.pointer (some ⟨g, 0, none⟩), .agg (gC h).toArray] w (Put B g l (pgS p) w) := by
  obtain ⟨h1, h2, h3⟩ := hp
  obtain ⟨nm, ⟨A1, n, c1⟩, ⟨A2, n2, c2⟩⟩ := h
  simp only at h1 h2 h3
  subst h1
  have hR : Rd vC 8 w B A1 n c1 p.vars := h2
  have hn := hR.1
  have hnl := hR.len_le
  obtain ⟨T, hT⟩ : ∃ T, pgS p = T := ⟨_, rfl⟩
  rw [hT] at hlen ⊢
  have hT2 : [80, 82, 79, 71, 82, 65, 77, 32] ++ p.name ++ [10] ++ vasS p.vars ++ stsS p.body ++ [69, 78, 68, 95, 80, 82, 79, 71, 82, 65, 77, 10] = T := hT
  have hl2 := hlen
  rw [← hT2] at hl2
  simp only [List.length_append, List.length_cons, List.length_nil] at hl2
  obtain ⟨w1, e1, K1, H1, F1, ng⟩ := hK.box (gC ⟨p.name, ⟨A1, n, c1⟩, ⟨A2, n2, c2⟩⟩) 25
  have BX := Lib.hid fun W (hf : Fr B g w W) (l' : Str) (hk : Wx B g l' W) hl => block_any hb hin.2 hk (h3.below hf.1 (Nat.le_refl _)) (l := l') hl
  have VB := Lib.hid fun (q : Nat) (x : Va) (hq : p.vars[q]? = some x) => (show vaB x = true ∧ InI x.init from by
    have hm := List.mem_of_getElem? hq
    rw [List.all_eq_true] at hv
    exact ⟨hv x hm, hin.1 x hm⟩)
  have HR := Lib.hid hR
  have HN := Lib.hid hn
  have HT := Lib.hid hT2
  have HL := Lib.hid hl2
  have NG := Lib.hid ng
  have K1 := Lib.hid K1
  have H1 := Lib.hid H1
  have F1 := Lib.hid F1
  clear hK hv hb hin hlen h2 h3 hR hn hT hT2 hl2 ng
  simp only [Sl.v] at BX
  go_enter Tryz.func15, Tryz.ntmps15
  go_upto_region 1 with (fail)
  subst e1
  generalize w.alloc (.cells (gC ⟨p.name, ⟨A1, n, c1⟩, ⟨A2, n2, c2⟩⟩).toArray 25) = w1 at *
  have ⟨c0, _, _, _, _, _, _⟩ := H1.out.box
  simp only [sv] at c0
  go_wp2_with (go_at_call 35; fail)
  refine (put_new [[80, 82, 79, 71, 82, 65, 77, 32], p.name, [10]] (t := [80, 82, 79, 71, 82, 65, 77, 32] ++ p.name ++ [10]) (by simp) K1.out (by simp) (by have := HL.out; simp only [List.length_append, List.length_cons, List.length_nil]; omega)).mono ?_
  rintro e w2 ⟨rfl, k9, f9⟩
  have K2 := Lib.hid k9
  have F2 := Lib.hid f9
  clear k9 f9 K1 c0
  have h2 := H1.out.fr F2.out NG.out (by decide)
  have ⟨_, _, c1', _, _, _, _⟩ := h2.box
  simp only [Sl.v] at c1'
  clear h2
  go_upto_region 3 with (fail)
  clear c1'
  go_loopw [14] (fun s14 wr => ∃ (q : Nat) (t1 : Str), q ≤ n ∧ s14 = .int .i64 q ∧ t1 ++ vasS (p.vars.drop q) ++ stsS p.body ++ [69, 78, 68, 95, 80, 82, 79, 71, 82, 65, 77, 10] = T ∧ Wx B g (l ++ t1) wr ∧ Fr B g w1 wr) (fun i _ => n - (intOf i).toNat)
  case atStart => exact ⟨0, [80, 82, 79, 71, 82, 65, 77, 32] ++ p.name ++ [10], Nat.zero_le _, rfl, by rw [List.drop_zero]; exact HT.out, K2.out, F2.out⟩
  case round =>
    obtain ⟨q, t1, hq, rfl, ht, hk, hf⟩ := hrel
    by_cases hlt : q < n
    rotate_left
    · obtain rfl : q = n := by omega
      have hz : ¬ (q : Int) < q := by omega
      rw [List.drop_of_length_le (by have := HN.out; omega), vasS, List.append_nil] at ht
      have hlt2 : l.length + t1.length + (stsS p.body).length + 12 ≤ lim := by
        have h1 := HL.out
        have h2 := congrArg List.length (ht.trans HT.out.symm)
        simp only [List.length_append, List.length_cons, List.length_nil] at h2
        omega
      have HTT := Lib.hid ht
      have HLT := Lib.hid hlt2
      have FF := Lib.hid (F1.out.trans hf)
      have KK := Lib.hid hk
      have ⟨_, _, _, _, c2', _, _⟩ := (H1.out.fr hf NG.out (by decide)).box
      simp only [Sl.v] at c2'
      clear hk hf ht hlt2
      go_wp2_with (go_at_call 38; fail)
      refine (BX.out _ FF.out _ KK.out (by have := HLT.out; simp only [List.length_append]; omega)).mono ?_
      rintro e w3 ⟨rfl, k9, f9⟩
      have K3 := Lib.hid k9
      have F3 := Lib.hid (FF.out.trans f9)
      clear k9 f9 FF KK c2'
      go_wp2_with (go_at_call 35; fail)
      refine (put_new [[69, 78, 68, 95, 80, 82, 79, 71, 82, 65, 77, 10]] (t := [69, 78, 68, 95, 80, 82, 79, 71, 82, 65, 77, 10]) rfl K3.out (by decide) (by have := HLT.out; simp only [List.length_append, List.length_cons, List.length_nil]; omega)).mono ?_
      rintro e w4 ⟨rfl, k9, f9⟩
      have K4 := Lib.hid (show Wx B g (l ++ T) w4 by rw [← HTT.out]; simpa only [List.append_assoc] using k9)
      have F4 := Lib.hid (F3.out.trans f9)
      clear k9 f9 K3 F3
      go_wp2_with fail
      go_end0
      exact ⟨rfl, K4.out, F4.out⟩
    have r1 : Rd vC 8 wr B A1 n c1 p.vars := HR.out.below (F1.out.trans hf).1
    obtain ⟨b1, o1, x, rfl, hb1, hp, hc1⟩ := r1.at hlt
    obtain ⟨hxb, hxi⟩ := VB.out q x hp
    rw [vas_at hp] at ht
    have ht2 : (t1 ++ vaS x) ++ vasS (p.vars.drop (q + 1)) ++ stsS p.body ++ [69, 78, 68, 95, 80, 82, 79, 71, 82, 65, 77, 10] = T := by
      rw [← ht]
      simp only [List.append_assoc]
    have hlT : l.length + t1.length + (vaS x).length ≤ lim := by
      have h1 := HL.out
      have h2 := congrArg List.length (ht2.trans HT.out.symm)
      simp only [List.length_append, List.length_cons, List.length_nil] at h2
      omega
    have hva : vaS x = (secS x.sect ++ [10]) ++ (x.name ++ [32, 58, 32] ++ typeS x ++ [59, 10]) ++ [69, 78, 68, 95, 86, 65, 82, 10] := rfl
    rw [hva] at hlT
    simp only [List.length_append, List.length_cons, List.length_nil] at hlT
    have w1' := nat_step q (by omega)
    have hci := Lib.hid hc1
    have KK := Lib.hid hk
    have FF := Lib.hid hf
    have HT2 := Lib.hid ht2
    have HLX := Lib.hid hlT
    have LT := Lib.hid hlt
    have HVA := Lib.hid hva
    have W1 := Lib.hid w1'
    have TB := Lib.hid (show typeB x = true by
      unfold vaB at hxb
      simp only [Bool.and_eq_true] at hxb
      exact hxb.2.2)
    have TI := Lib.hid hxi
    have NGX := Lib.hid (show wr.heap.size ≠ g by have := hk.wr.lt; omega)
    clear hc1 hk hf hxb hxi ht ht2 hlT r1 hp hb1 hva w1'
    go_upto_region 5 with (first | ((with_reducible refine m_loadR hci.out 60 16 ?_ ?_ ?_ ?_ ?_ ?_); rfl; rfl; rfl; rfl; kernel_rfl) | ((with_reducible refine m_newH 60 5 17 ?_ ?_ ?_ (vC x) ?_ ?_ ?_ ?_ (vC_one _) ?_); rfl; rfl; rfl; rfl; rfl; rfl; kernel_rfl; intro w4 hx hb hz))
    have X4 := Lib.hid hx
    have K4 := Lib.hid (KK.out.below hb)
    have F4 := Lib.hid (FF.out.trans (Fr.of hb KK.out.le))
    clear hx hb hz hci KK FF hlt
    have c2' := (cell_of X4.out.box (i := 2) rfl).1
    go_wp2_with (go_at_call 36; fail)
    refine (section_any x.sect _).mono ?_
    rintro e w5 ⟨rfl, rfl⟩
    unfold sv
    go_wp2_with (go_at_call 35; fail)
    refine (put_new [secS x.sect, [10]] (t := secS x.sect ++ [10]) (by simp) K4.out (by simp) (by have := HLX.out; simp only [List.length_append, List.length_cons, List.length_nil]; omega)).mono ?_
    rintro e w6 ⟨rfl, k9, f9⟩
    have K6 := Lib.hid k9
    have F6 := Lib.hid (F4.out.trans f9)
    have X6 := Lib.hid (X4.out.fr f9 NGX.out (by decide))
    clear k9 f9 K4 F4 X4 c2'
    go_upto_region 6 with (fail)
    refine wp_region_T (by kernel_rfl) (fun w' => Hb w' wr.heap.size 60 (vC x)) [] X6.out (fun hHeld => ?_)
    have K7 := Lib.hid (K6.out.below (Below.drew (Below.refl w6.heap.size w6)))
    have F7 := Lib.hid (F6.out.trans (Fr.of (Below.drew (Below.refl w6.heap.size w6)) K6.out.le))
    have X7 : Hid (Hb w6.drew wr.heap.size 60 (vC x)) := X6
    clear K6 F6 X6
    generalize w6.drew = w7 at *
    refine wpAnyT_take (i := 0) (v := ?_) rfl (by kernel_rfl) (by kernel_rfl) (by kernel_rfl) (fun _ _ _ h => h) (Or.inl ⟨by rfl, ?_⟩) (by assumption) ?_
    rotate_left 1
    · intro w_ hSw; clear hSw; go_simp <;> (with_reducible rfl)
    try simp only [Act.put, List.setIfInBounds_toArray, List.set_cons_zero, List.set_cons_succ, List.getElem_toArray, List.getElem_cons_succ, List.getElem_cons_zero]
    refine wpAnyT_take (i := 1) (v := ?_) rfl (by kernel_rfl) (by kernel_rfl) (by kernel_rfl) (fun _ _ _ h => h) (Or.inl ⟨by rfl, ?_⟩) (by assumption) ?_
    rotate_left 1
    · intro w_ hSw; clear hSw; go_simp <;> (with_reducible rfl)
    try simp only [Act.put, List.setIfInBounds_toArray, List.set_cons_zero, List.set_cons_succ, List.getElem_toArray, List.getElem_cons_succ, List.getElem_cons_zero]
    refine wpAnyT_take (i := 2) (v := ?_) rfl (by kernel_rfl) (by kernel_rfl) (by kernel_rfl) (fun _ _ _ h => h) (Or.inl ⟨by rfl, ?_⟩) (by assumption) ?_
    rotate_left 1
    · intro w_ hSw; have hl := (cell_of hSw.box (i := 0) (v := sv x.name) rfl).1; unfold sv at hl; clear hSw; go_simp <;> (with_reducible rfl)
    try simp only [Act.put, List.setIfInBounds_toArray, List.set_cons_zero, List.set_cons_succ, List.getElem_toArray, List.getElem_cons_succ, List.getElem_cons_zero]
    refine wpAnyT_take (i := 3) rfl (by kernel_rfl) (by kernel_rfl) (by kernel_rfl) (fun _ _ _ h => h) (yieldsIf_load_mid (by rfl) 60 (.tmp 5) rfl wr.heap.size 0 rfl (vC x) _ (fun _ hb' => hb'.box.range) rfl rfl (by kernel_rfl)) (by assumption) ?_
    try simp only [Act.put, List.setIfInBounds_toArray, List.set_cons_zero, List.set_cons_succ, List.getElem_toArray, List.getElem_cons_succ, List.getElem_cons_zero]
    refine wpAnyT_ready (rs := [4]) (by kernel_rfl) (by simp) ?_
    refine AllReadyT.cons rfl (fun K hK => ?_) AllReadyT.nil
    go_simp
    go_at_call 37
    refine (typeText_any x TB.out TI.out _ K7.out.laid).mono ?_
    rintro e w8 ⟨rfl, hb⟩
    have K8 := Lib.hid (K7.out.below hb)
    have F8 := Lib.hid (F7.out.trans (Fr.of hb K7.out.le))
    have X8 := Lib.hid (X7.out.below hb X7.out.lt)
    clear hb K7 F7 X7
    unfold sv
    go_wp2_with fail
    refine hK _ _ X8.out (fun hHeld => ?_)
    clear hK K
    try simp only [Act.put, List.setIfInBounds_toArray, List.set_cons_zero, List.set_cons_succ, List.getElem_toArray, List.getElem_cons_succ, List.getElem_cons_zero]
    refine wpAnyT_ready (rs := [5]) (by kernel_rfl) (by simp) ?_
    refine AllReadyT.cons rfl (fun K hK => ?_) AllReadyT.nil
    go_simp
    refine hK _ _ (X8.out.below (al1 w8 (.cells (List.map sv [x.name, [32, 58, 32], typeS x, [59, 10]]).toArray 9)) X8.out.lt) (fun hHeld => ?_)
    clear hK K
    try simp only [Act.put, List.setIfInBounds_toArray, List.set_cons_zero, List.set_cons_succ, List.getElem_toArray, List.getElem_cons_succ, List.getElem_cons_zero]
    refine wpAnyT_ready (rs := [6]) (by kernel_rfl) (by simp) ?_
    refine AllReadyT.cons rfl (fun K hK => ?_) AllReadyT.nil
    go_simp
    go_at_call 35
    refine (put_new [x.name, [32, 58, 32], typeS x, [59, 10]] (t := x.name ++ [32, 58, 32] ++ typeS x ++ [59, 10]) (by simp) K8.out (by simp) (by have := HLX.out; simp only [List.length_append, List.length_cons, List.length_nil]; omega)).mono ?_
    rintro e w9 ⟨rfl, k9, f9⟩
    have K9 := Lib.hid k9
    have F9 := Lib.hid (F8.out.trans f9)
    have X9 := Lib.hid (X8.out.fr f9 NGX.out (by decide))
    clear k9 f9 K8 F8 X8
    go_wp2_with fail
    refine hK _ _ X9.out (fun hHeld => ?_)
    clear hK K
    try simp only [Act.put, List.setIfInBounds_toArray, List.set_cons_zero, List.set_cons_succ, List.getElem_toArray, List.getElem_cons_succ, List.getElem_cons_zero]
    refine wpAnyT_done (by kernel_rfl) ?_ _
    go_wp2_with (go_at_call 35; fail)
    refine (put_new [[69, 78, 68, 95, 86, 65, 82, 10]] (t := [69, 78, 68, 95, 86, 65, 82, 10]) rfl K9.out (by decide) (by have := HLX.out; simp only [List.length_append, List.length_cons, List.length_nil]; omega)).mono ?_
    rintro e w10 ⟨rfl, k9, f9⟩
    have KA := Lib.hid (show Wx B g (l ++ (t1 ++ vaS x)) w10 by rw [HVA.out]; simpa only [List.append_assoc] using k9)
    have FA := Lib.hid (F9.out.trans f9)
    have w1' := W1.out
    clear k9 f9 K9 F9 X9
    go_wp2_with fail
    go_roundw
    case rel => exact ⟨q + 1, t1 ++ vaS x, by have := LT.out; omega, by go_num, HT2.out, KA.out, FA.out⟩
    case measure => have := LT.out; simp [intOf]; omega
set_option maxRecDepth 100000 in
set_option maxHeartbeats 8000000 in
/-- the landed Show -/
theorem show_any {p : Pg} {h : GH} {w : World} (hM : MaxL w) (hL : Laid w) (hp : PgAt w w.heap.size p h) (hin : inP p) (hW : wsS p.body ≤ big) (hlen : pgB p = true → (pgS p).length ≤ lim) :
    Calls Tryz.prog 8 #[.agg (gC h).toArray] w fun e w' => e = .returned (.tuple #[sv (showP p).1, .int .i64 (showP p).2]) ∧ Below w.heap.size w w' := by
  have RP := Lib.hid fun W (hb : Below w.heap.size w W) => rightProgram_any (hM.below hb) (PgAt.below hp hb hb.size) hW
  have HB := Lib.hid (al1 w (.cells (gC h).toArray 25))
  have X1 := Lib.hid (Box.new w (gC h).toArray 25)
  have Z1 := Lib.hid (show (w.alloc (.cells (gC h).toArray 25)).heap.size = w.heap.size + 1 by simp)
  have PP := Lib.hid hp
  have LL := Lib.hid hL
  have IN := Lib.hid hin
  have HLN := Lib.hid hlen
  have hbb : pgB p = true → p.vars.all vaB = true ∧ stsB p.body = true := fun h => by
    unfold pgB at h
    simp only [Bool.and_eq_true] at h
    exact h.2.2
  have BBB := Lib.hid hbb
  obtain ⟨R, hR⟩ : ∃ R, showP p = R := ⟨_, rfl⟩
  rw [hR]
  have HR := Lib.hid hR
  have ht0 : pgS p ≠ [] := by unfold pgS; simp
  have HT0 := Lib.hid ht0
  clear hM hL hp hin hW hlen hbb hR ht0
  obtain ⟨u, hu⟩ : ∃ u, pgB p = u := ⟨_, rfl⟩
  rw [hu] at RP
  have HU := Lib.hid hu
  clear hu
  go_enter Tryz.func8, Tryz.ntmps8
  go_upto_region 1 with (fail)
  generalize w.alloc (.cells (gC h).toArray 25) = w1 at *
  have X1 : Hid (Box w1 w.heap.size 0 (gC h)) := X1
  go_wp2_with (first | ((with_reducible refine m_load X1.out 25 1 ?_ ?_ ?_ ?_ ?_ ?_); rfl; rfl; rfl; rfl; kernel_rfl) | (go_at_call 14; fail))
  refine (RP.out _ HB.out).mono ?_
  rintro e w2 ⟨rfl, hb⟩
  have B2 := Lib.hid (HB.out.trans (hb.mono HB.out.size))
  have X2 := Lib.hid (X1.out.below hb (by have := Z1.out; omega))
  have Z2 := Lib.hid (show w.heap.size < w2.heap.size by have := Z1.out; have := hb.size; omega)
  clear hb RP X1 HB Z1
  cases u
  · have hr : R = ([], 5) := by rw [← HR.out, showP, HU.out]; rfl
    subst hr
    go_wp2_with fail
    go_ret2
    exact ⟨rfl, B2.out⟩
  have K3 := Lib.hid (show Wx w2.heap.size w2.heap.size [] (w2.alloc (.cells #[.pointer none, .slice none 0 0] 55)) from
    ⟨Wr.new w2, by simp, (LL.out.below B2.out).below (al1 w2 _), laid_lt (LL.out.below B2.out)⟩)
  have B3 := Lib.hid (al1 w2 (.cells #[.pointer none, .slice none 0 0] 55))
  have P3 := Lib.hid (PgAt.below (PgAt.below PP.out B2.out B2.out.size) B3.out (Nat.le_refl _))
  have X3 := Lib.hid (X2.out.below B3.out Z2.out)
  have CP := Lib.hid (program_any K3.out P3.out (BBB.out HU.out).1 (BBB.out HU.out).2 IN.out (by rw [List.length_nil]; have := HLN.out HU.out; omega))
  go_upto_region 4 with (fail)
  generalize w2.alloc (.cells #[.pointer none, .slice none 0 0] 55) = w3 at *
  go_wp2_with (first | ((with_reducible refine m_load X3.out 25 1 ?_ ?_ ?_ ?_ ?_ ?_); rfl; rfl; rfl; rfl; kernel_rfl) | (go_at_call 15; fail))
  refine CP.out.mono ?_
  rintro e w4 ⟨rfl, k4, f4⟩
  rw [List.nil_append] at k4
  have K4 := Lib.hid k4
  have B4 := Lib.hid (B2.out.trans ((B3.out.trans f4.1).mono B2.out.size))
  clear k4 f4 CP K3 B3 P3 X3 X2
  go_wp2_with (go_at_call 16; fail)
  refine (len_any w2.heap.size w2.heap.size (pgS p) w4 K4.out.wr).mono ?_
  rintro e w5 ⟨rfl, rfl⟩
  by_cases h6 : 16384 < (pgS p).length
  · have h6' : (16384 : Int) < (pgS p).length := by omega
    have hr : R = ([], 13) := by rw [← HR.out, showP, HU.out, if_pos rfl, if_pos h6]
    subst hr
    clear h6
    go_wp2_with fail
    go_ret2
    exact ⟨rfl, B4.out⟩
  have h6' : ¬ (16384 : Int) < (pgS p).length := by omega
  have hr : R = (pgS p, 0) := by rw [← HR.out, showP, HU.out, if_pos rfl, if_neg h6]
  subst hr
  clear h6
  go_wp2_with (go_at_call 17; fail)
  refine (str_any w2.heap.size w2.heap.size (pgS p) w5 K4.out.wr HT0.out).mono ?_
  rintro e w6 ⟨rfl, hb⟩
  have B6 := Lib.hid (B4.out.trans (hb.mono B2.out.size))
  clear hb
  go_wp2_with fail
  go_ret2
  exact ⟨rfl, B6.out⟩
end Go.Proofs.YtdefgghhkknnpaaGreatDoor.sh
