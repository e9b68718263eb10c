/- The given function Show: a program's text and the error. Conditions: what memory can hold; at most 2^40 parts; the text has at most 2^47 bytes. -/
import Derived.Test.YtdefgghhkknnpaaGreatDoorShRoZ
import Derived.Test.YtdefgghhkknnpaaGreatDoorShFits
import Derived.Test.YtdefgghhkknnpaaGreatDoorShWrY
namespace Go.Proofs.YtdefgghhkknnpaaGreatDoor.sh
open Go.ChangeShapes Go.WideShapes Go.ChangeAt Go.RowKit Go.Proofs.YtdefgghhkknnpaaGreatDoor Go.Proofs.YtdefgghhkknnpaaGreatDoor.k Go.Proofs.YtdefgghhkknnpaaGreatDoor.rr Go.Proofs.YtdefgghhkknnpaaGreatDoor.tk Go.Proofs.YtdefgghhkknnpaaGreatDoor.tr
set_option linter.unusedVariables false
set_option linter.unusedSimpArgs false

def secC : Array Value := #[.string ⟨#[86, 65, 82, 10]⟩, .string ⟨#[86, 65, 82, 95, 73, 78, 80, 85, 84, 10]⟩, .string ⟨#[86, 65, 82, 95, 79, 85, 84, 80, 85, 84, 10]⟩]
theorem run_secAt (i : Nat) (hi : i < 3) (v : Value) (hv : secC[i]? = some v) (w : World) : (Instr.index 61 (.agg secC) (.int .i64 (i : Int))).run Tryz.prog w = .ok v w := by
  have hu := run_underlying (w := w) Tryz.underlying61
  have hp := part_str secC i v w hv
  have h0 : (0 : Int) ≤ i := by omega
  have h1 : (i : Int) < 3 := by omega
  simp [Instr.index, asIntOf, hu, size_str, h0, h1, hp]
  omega
theorem run_sec (s : Int) (hs : s = 0 ∨ s = 1 ∨ s = 2) (xo : ByteArray) (hx : (⟨(secS s ++ [10]).toArray⟩ : ByteArray) = xo) (w : World) : (Instr.index 61 (.agg secC) (.int .i64 s)).run Tryz.prog w = .ok (.string xo) w := by
  rw [← hx]
  rcases hs with rfl | rfl | rfl
  · exact run_secAt 0 (by omega) _ rfl w
  · exact run_secAt 1 (by omega) _ rfl w
  · exact run_secAt 2 (by omega) _ rfl w
set_option maxRecDepth 100000 in
set_option maxHeartbeats 40000000 in
theorem refshow_any {p : Pg} {h : GH} {w : World} (hp : PgAt w w.heap.size p h) (hin : inP p) (hr : rSs p.body) (hW : wsS p.body ≤ big) (hlen : pgB p = true → (pgS p).length ≤ lim) :
    Calls Tryz.prog 9 #[.agg (gC h).toArray] w fun e w' => e = .returned (.tuple #[sv (showP p).1, .int .i64 (showP p).2]) ∧ Below w.heap.size w w' := by
  have FT := Lib.hid fun W (hb : Below w.heap.size w W) => reffitp_any (PgAt.below hp hb hb.size) hr hW
  obtain ⟨h1, h2, h3⟩ := hp
  have HB := Lib.hid (al1 w (.cells (gC h).toArray 25))
  have X1 := Lib.hid (Box.new w (gC h).toArray 25)
  have Z1 := Lib.hid (show w.heap.size < (w.alloc (.cells (gC h).toArray 25)).heap.size by simp)
  have hvr : Rd vC 8 w w.heap.size h.vars.A h.vars.l h.vars.c p.vars := h2
  have HVR := Lib.hid hvr
  have HLV := Lib.hid (And.intro hvr.1 hvr.len_le)
  have HIN := Lib.hid (And.intro hin hr)
  have HLN := Lib.hid hlen
  have HBD := Lib.hid h3
  obtain ⟨u, hu⟩ : ∃ u, pgB p = u := ⟨_, rfl⟩
  rw [hu] at FT
  have HU := Lib.hid hu
  obtain ⟨R, hR⟩ : ∃ R, showP p = R := ⟨_, rfl⟩
  rw [hR]
  have HR := Lib.hid hR
  have HNM := Lib.hid (show h.name = p.name by first | exact h1 | exact h1.symm)
  obtain ⟨r1, r2⟩ := R
  clear h1 h2 h3 hvr hin hr hW hlen hu hR
  simp only [sv]
  go_enter Tryz.func9, Tryz.ntmps9
  go_upto_region 1 with (fail)
  generalize w.alloc (.cells (gC h).toArray 25) = w1 at *
  have X1 : Hid (Box w1 w.heap.size 0 (gC h)) := X1
  go_wp2_with (first | ((with_reducible refine m_load X1.out 25 1 ?_ ?_ ?_ ?_ ?_ ?_); rfl; rfl; rfl; rfl; kernel_rfl) | (go_at_call 18; fail))
  refine (FT.out _ HB.out).mono ?_
  rintro e w2 ⟨rfl, hb⟩
  have BX0 := Lib.hid (HB.out.trans (hb.mono HB.out.size))
  have XG0 := Lib.hid (X1.out.below hb Z1.out)
  have ZX0 := Lib.hid (Nat.lt_of_lt_of_le Z1.out hb.size)
  clear hb FT HB X1 Z1
  cases u
  · have HF := Lib.hid (show (([], 5) : Str × Int) = (r1, r2) by rw [← HR.out]; unfold showP; rw [HU.out]; rfl)
    go_wp2_with fail
    go_ret2
    injection HF.out with e1 e2
    subst e1 e2
    exact ⟨rfl, BX0.out⟩
  have hpb := HU.out
  have hlim := HLN.out hpb
  unfold pgB at hpb
  simp only [Bool.and_eq_true] at hpb
  obtain ⟨hpn, -, hva, hbb⟩ := hpb
  obtain ⟨T, hT⟩ : ∃ T, pgS p = T := ⟨_, rfl⟩
  rw [hT] at hlim
  have HTP := Lib.hid hT
  have hT2 : [80, 82, 79, 71, 82, 65, 77, 32] ++ p.name ++ [10] ++ vasS p.vars ++ stsS p.body ++ [69, 78, 68, 95, 80, 82, 79, 71, 82, 65, 77, 10] = T := hT
  have hla := congrArg List.length hT2
  simp only [List.length_append, List.length_cons, List.length_nil] at hla
  have hlim : T.length ≤ 140737488355328 := hlim
  have HTL := Lib.hid hlim
  have HT := Lib.hid hT2
  have HVA := Lib.hid fun (q : Nat) (x : Va) (hq : p.vars[q]? = some x) => (show vaB x = true ∧ InI x.init from by
    have hm := List.mem_of_getElem? hq
    rw [List.all_eq_true] at hva
    exact ⟨hva x hm, HIN.out.1.1 x hm⟩)
  have RW := Lib.hid fun W (hW : Below w.heap.size w W) => refrows_any HIN.out.2 HIN.out.1.2 hbb (by unfold lim; omega) (StL.below HBD.out hW hW.size)
  simp only [Sl.v] at RW
  unfold sv at RW
  have c0 := (cell_of XG0.out (i := 0) rfl).1
  have c1 := (cell_of XG0.out (i := 1) rfl).1
  simp only [sv, Sl.v] at c0 c1
  rw [HNM.out] at c0
  obtain ⟨U0, hU0⟩ : ∃ U0 : Str, [80, 82, 79, 71, 82, 65, 77, 32] ++ p.name ++ [10] = U0 := ⟨_, rfl⟩
  have HU0 := Lib.hid hU0
  have HCX : Hid (((⟨#[80, 82, 79, 71, 82, 65, 77, 32]⟩ ++ ⟨(p.name).toArray⟩) ++ ⟨#[10]⟩ : ByteArray) = ⟨(U0).toArray⟩) := Lib.hid (by
    rw [← hU0]
    rw [show (⟨#[80, 82, 79, 71, 82, 65, 77, 32]⟩ : ByteArray) = ⟨([80, 82, 79, 71, 82, 65, 77, 32] : Str).toArray⟩ from rfl, show (⟨#[10]⟩ : ByteArray) = ⟨([10] : Str).toArray⟩ from rfl]
    simp only [cat_sv, List.append_assoc])
  have s_xn : (⟨(p.name).toArray⟩ : ByteArray).size = (p.name).length := sz_sv _
  generalize (⟨p.name.toArray⟩ : ByteArray) = xn at *
  have q1 : ¬ 9223372036854775807 < 8 + xn.size := by omega
  have q2 : ¬ 9223372036854775807 < 8 + xn.size + 1 := by omega
  have HBB := Lib.hid hbb
  clear hT hT2 hla hlim hpn hva hbb s_xn hU0
  go_upto_region 5 with (fail)
  rw [HCX.out]
  clear q1 q2 HCX c0 c1
  go_loopw [4, 5] (fun s4 s5 wr => ∃ (q : Nat) (t1 : Str), q ≤ h.vars.l ∧ s4 = .string ⟨t1.toArray⟩ ∧ s5 = .int .i64 q ∧ Below w.heap.size w wr ∧ Box wr w.heap.size 0 (gC h) ∧ w.heap.size < wr.heap.size ∧ t1 ++ vasS (p.vars.drop q) ++ stsS p.body ++ [69, 78, 68, 95, 80, 82, 79, 71, 82, 65, 77, 10] = T) (fun _ i _ => h.vars.l - (intOf i).toNat)
  case atStart => exact ⟨0, U0, Nat.zero_le _, rfl, rfl, BX0.out, XG0.out, ZX0.out, by rw [List.drop_zero, ← HU0.out]; exact HT.out⟩
  case round =>
    obtain ⟨q, t1, hq, rfl, rfl, hb, hxg, hz, ht⟩ := hrel
    clear BX0 XG0 ZX0
    have BX0 := Lib.hid hb
    have XG0 := Lib.hid hxg
    have ZX0 := Lib.hid hz
    clear hb hxg hz
    have c1 := (cell_of XG0.out (i := 1) rfl).1
    simp only [Sl.v] at c1
    by_cases hlt : q < h.vars.l
    rotate_left
    · obtain rfl : q = h.vars.l := by omega
      have hz : ¬ (h.vars.l : Int) < h.vars.l := by omega
      rw [List.drop_of_length_le (by have := HLV.out.1; omega), vasS, List.append_nil] at ht
      have hla := congrArg List.length ht
      simp only [List.length_append, List.length_cons, List.length_nil] at hla
      have hlim := HTL.out
      have c2 := (cell_of XG0.out (i := 2) rfl).1
      simp only [Sl.v] at c2
      have HTX : Hid ((⟨(t1).toArray⟩ ++ (⟨(stsS p.body).toArray⟩ ++ ⟨#[69, 78, 68, 95, 80, 82, 79, 71, 82, 65, 77, 10]⟩) : ByteArray) = ⟨(T).toArray⟩) := Lib.hid (by
        rw [← ht]
        rw [show (⟨#[69, 78, 68, 95, 80, 82, 79, 71, 82, 65, 77, 10]⟩ : ByteArray) = ⟨([69, 78, 68, 95, 80, 82, 79, 71, 82, 65, 77, 10] : Str).toArray⟩ from rfl]
        simp only [cat_sv, List.append_assoc])
      have s_xt : (⟨(t1).toArray⟩ : ByteArray).size = (t1).length := sz_sv _
      have s_xb : (⟨(stsS p.body).toArray⟩ : ByteArray).size = (stsS p.body).length := sz_sv _
      generalize (⟨t1.toArray⟩ : ByteArray) = xt at *
      generalize (⟨(stsS p.body).toArray⟩ : ByteArray) = xb at *
      have q1 : ¬ 9223372036854775807 < xb.size + 12 := by omega
      have q2 : ¬ 9223372036854775807 < xt.size + (xb.size + 12) := by omega
      obtain ⟨xz, hxz⟩ : ∃ y : ByteArray, ⟨T.toArray⟩ = y := ⟨_, rfl⟩
      have hsz : (xz.size : Int) = T.length := by rw [← hxz, sz_sv]
      rw [hxz] at HTX
      have HXZ := Lib.hid hxz
      clear ht hla hlim s_xt s_xb hlt hq hxz
      go_wp2_with (go_at_call 22; fail)
      refine (RW.out _ BX0.out).mono ?_
      rintro e w9 ⟨rfl, hb⟩
      have B9 := Lib.hid (BX0.out.trans (hb.mono BX0.out.size))
      clear hb c1 c2
      go_upto_region 21 with (fail)
      rw [HTX.out]
      clear q1 q2
      by_cases h16 : 16384 < T.length
      · have HF := Lib.hid (show (([], 13) : Str × Int) = (r1, r2) by rw [← HR.out]; unfold showP; rw [HTP.out, if_pos HU.out, if_pos h16])
        have h16' : (16384 : Int) < xz.size := by omega
        clear h16 hsz
        go_wp2_with fail
        go_ret2
        injection HF.out with e1 e2
        subst e1 e2
        exact ⟨rfl, B9.out⟩
      · have HF := Lib.hid (show ((T, 0) : Str × Int) = (r1, r2) by rw [← HR.out]; unfold showP; rw [HTP.out, if_pos HU.out, if_neg h16])
        have h16' : ¬ (16384 : Int) < xz.size := by omega
        clear h16 hsz
        go_wp2_with fail
        go_ret2
        injection HF.out with e1 e2
        subst e1 e2
        exact ⟨by rw [HXZ.out] <;> rfl, B9.out⟩
    have r1 : Rd vC 8 wr wr.heap.size h.vars.A h.vars.l h.vars.c p.vars := (HVR.out.below BX0.out).more BX0.out.size
    obtain ⟨b1, o1, x, hA1, hb1, hpx, hc1⟩ := r1.at hlt
    rw [hA1] at c1
    obtain ⟨hxb, hxi⟩ := HVA.out q x hpx
    rw [va_fit] at hxb
    simp only [Bool.and_eq_true] at hxb
    obtain ⟨-, hse, hty, hbd, hii⟩ := hxb
    rw [vas_at hpx] at ht
    have ht2 : (t1 ++ vaS x) ++ vasS (p.vars.drop (q + 1)) ++ stsS p.body ++ [69, 78, 68, 95, 80, 82, 79, 71, 82, 65, 77, 10] = T := by
      rw [← ht]
      simp only [List.append_assoc]
    have hla := congrArg List.length ht2
    have hva : vaS x = (secS x.sect ++ [10]) ++ (x.name ++ [32, 58, 32] ++ typeS x ++ [59, 10]) ++ [69, 78, 68, 95, 86, 65, 82, 10] := rfl
    rw [hva] at hla
    simp only [List.length_append, List.length_cons, List.length_nil] at hla
    have hlim := HTL.out
    have hs3 : x.sect = 0 ∨ x.sect = 1 ∨ x.sect = 2 := by unfold seB at hse; simp only [Bool.and_eq_true, decide_eq_true_eq] at hse; omega
    obtain ⟨xs, hxs⟩ : ∃ y : ByteArray, ⟨(secS x.sect ++ [10]).toArray⟩ = y := ⟨_, rfl⟩
    have HIX := Lib.hid fun W => run_sec x.sect hs3 xs hxs W
    unfold secC at HIX
    have HX8 : Hid ((⟨(t1).toArray⟩ ++ (⟨(secS x.sect ++ [10]).toArray⟩ ++ ⟨(x.name).toArray⟩ ++ ⟨#[32, 58, 32]⟩) : ByteArray) = ⟨(t1 ++ (secS x.sect ++ [10]) ++ x.name ++ [32, 58, 32]).toArray⟩) := Lib.hid (by
      rw [show (⟨#[32, 58, 32]⟩ : ByteArray) = ⟨([32, 58, 32] : Str).toArray⟩ from rfl]
      simp only [cat_sv, List.append_assoc])
    have s_xt : (⟨(t1).toArray⟩ : ByteArray).size = (t1).length := sz_sv _
    have s_xs : (⟨(secS x.sect ++ [10]).toArray⟩ : ByteArray).size = (secS x.sect).length + 1 := by rw [sz_sv]; simp
    have s_xn : (⟨(x.name).toArray⟩ : ByteArray).size = (x.name).length := sz_sv _
    rw [hxs] at HX8 s_xs
    obtain ⟨x8, hx8⟩ : ∃ y : ByteArray, ⟨(t1 ++ (secS x.sect ++ [10]) ++ x.name ++ [32, 58, 32]).toArray⟩ = y := ⟨_, rfl⟩
    have s8 : x8.size = t1.length + ((secS x.sect).length + 1) + x.name.length + 3 := by rw [← hx8, sz_sv]; simp only [List.length_append, List.length_cons, List.length_nil]
    rw [hx8] at HX8
    have HX8E := Lib.hid hx8
    generalize (⟨t1.toArray⟩ : ByteArray) = xt at *
    obtain ⟨xn, hxn⟩ : ∃ y : ByteArray, ⟨x.name.toArray⟩ = y := ⟨_, rfl⟩
    rw [hxn] at HX8 s_xn
    have HXN := Lib.hid hxn
    have QQ := Lib.hid (show ¬ 9223372036854775807 < xs.size + xn.size ∧ ¬ 9223372036854775807 < xs.size + xn.size + 3 ∧ ¬ 9223372036854775807 < xt.size + (xs.size + xn.size + 3) by omega)
    have S8 := Lib.hid (show x8.size + (typeS x).length + 10 ≤ 140737488355328 by omega)
    have HTY := Lib.hid (And.intro hty (And.intro hbd (And.intro hii hxi)))
    have w1 := nat_step q (by have := HLV.out.2; omega)
    have HW1 := Lib.hid w1
    have HLT := Lib.hid hlt
    have HT2 := Lib.hid ht2
    have HVS := Lib.hid hva
    have hlt' : (q : Int) < h.vars.l := by omega
    have hci := Lib.hid hc1
    clear r1 hb1 hpx hc1 hq hse hty hbd hii hxi ht ht2 hla hlim hva hs3 hxs s_xt s_xs s_xn s8 hx8 hxn w1 hlt hA1
    go_upto_region 7 with (fail)
    go_upto_region 8 with (first | ((with_reducible refine m_loadR hci.out 60 25 ?_ ?_ ?_ ?_ ?_ ?_); rfl; rfl; rfl; rfl; kernel_rfl) | ((with_reducible refine m_new 60 6 26 ?_ ?_ ?_ (vC x) ?_ ?_ ?_ ?_ (vC_one _) ?_); rfl; rfl; rfl; rfl; rfl; rfl; kernel_rfl; intro wv hx hb hz))
    obtain ⟨g2, hg2⟩ : ∃ g, wr.heap.size = g := ⟨_, rfl⟩
    rw [hg2] at hx hz ⊢
    have XX0 := Lib.hid hx
    have XG2 := Lib.hid (XG0.out.below hb ZX0.out)
    have BX2 := Lib.hid (BX0.out.trans (hb.mono BX0.out.size))
    have ZX2 := Lib.hid (show w.heap.size < wv.heap.size ∧ g2 < wv.heap.size by have := ZX0.out; omega)
    clear hx hb hz hci BX0 XG0 ZX0 hg2 c1 hlt'
    have BX0 := Lib.hid BX2.out
    have XG0 := Lib.hid XG2.out
    have ZX0 := Lib.hid ZX2.out
    clear BX2 XG2 ZX2
    have C0 := (cell_of XX0.out (i := 0) rfl).1
    have C2 := (cell_of XX0.out (i := 2) rfl).1
    simp only [sv] at C0
    rw [HXN.out] at C0
    have C0 := Lib.hid C0
    have C2 := Lib.hid C2
    refine wp_region_T (by kernel_rfl) (fun w' => Below wv.heap.size wv w') [] (Below.refl _ _).drew (fun hHeld => ?_)
    have BD := Lib.hid (Below.drew (Below.refl wv.heap.size wv))
    generalize wv.drew = wv_ at *
    refine wpAnyT_take (i := 0) (v := ?_) rfl (by kernel_rfl) (by kernel_rfl) (by kernel_rfl) (fun _ _ _ h => h) (Or.inl ⟨by rfl, ?_⟩) (by assumption) ?_
    rotate_left 1
    · intro w_ hSw; clear hSw; have QQ_ := QQ.out; go_simp <;> (with_reducible rfl)
    try simp only [Act.put, List.setIfInBounds_toArray, List.set_cons_zero, List.set_cons_succ, List.getElem_toArray, List.getElem_cons_succ, List.getElem_cons_zero]
    refine wpAnyT_take (i := 1) (v := ?_) rfl (by kernel_rfl) (by kernel_rfl) (by kernel_rfl) (fun _ _ _ h => h) (Or.inl ⟨by rfl, ?_⟩) (by assumption) ?_
    rotate_left 1
    · intro w_ hSw; clear hSw; have QQ_ := QQ.out; go_simp <;> (with_reducible rfl)
    try simp only [Act.put, List.setIfInBounds_toArray, List.set_cons_zero, List.set_cons_succ, List.getElem_toArray, List.getElem_cons_succ, List.getElem_cons_zero]
    refine wpAnyT_take (i := 2) (v := ?_) rfl (by kernel_rfl) (by kernel_rfl) (by kernel_rfl) (fun _ _ _ h => h) (Or.inl ⟨by rfl, ?_⟩) (by assumption) ?_
    rotate_left 1
    · intro w_ hSw; clear hSw; have QQ_ := QQ.out; go_simp <;> (with_reducible rfl)
    try simp only [Act.put, List.setIfInBounds_toArray, List.set_cons_zero, List.set_cons_succ, List.getElem_toArray, List.getElem_cons_succ, List.getElem_cons_zero]
    refine wpAnyT_take (i := 3) (v := ?_) rfl (by kernel_rfl) (by kernel_rfl) (by kernel_rfl) (fun _ _ _ h => h) (Or.inl ⟨by rfl, ?_⟩) (by assumption) ?_
    rotate_left 1
    · intro w_ hSw; have hl := (hSw.cell (p := ⟨g2, 2, none⟩) (by have := ZX0.out.2; exact this)).trans C2.out; clear hSw; go_simp <;> (with_reducible rfl)
    try simp only [Act.put, List.setIfInBounds_toArray, List.set_cons_zero, List.set_cons_succ, List.getElem_toArray, List.getElem_cons_succ, List.getElem_cons_zero]
    refine wpAnyT_take (i := 4) (v := ?_) rfl (by kernel_rfl) (by kernel_rfl) (by kernel_rfl) (fun _ _ _ h => h) (Or.inl ⟨by rfl, ?_⟩) (by assumption) ?_
    rotate_left 1
    · intro w_ hSw; clear hSw; have hl := HIX.out w_; go_simp <;> (with_reducible rfl)
    try simp only [Act.put, List.setIfInBounds_toArray, List.set_cons_zero, List.set_cons_succ, List.getElem_toArray, List.getElem_cons_succ, List.getElem_cons_zero]
    refine wpAnyT_take (i := 5) (v := ?_) rfl (by kernel_rfl) (by kernel_rfl) (by kernel_rfl) (fun _ _ _ h => h) (Or.inl ⟨by rfl, ?_⟩) (by assumption) ?_
    rotate_left 1
    · intro w_ hSw; clear hSw; have QQ_ := QQ.out; go_simp <;> (with_reducible rfl)
    try simp only [Act.put, List.setIfInBounds_toArray, List.set_cons_zero, List.set_cons_succ, List.getElem_toArray, List.getElem_cons_succ, List.getElem_cons_zero]
    refine wpAnyT_take (i := 6) (v := ?_) rfl (by kernel_rfl) (by kernel_rfl) (by kernel_rfl) (fun _ _ _ h => h) (Or.inl ⟨by rfl, ?_⟩) (by assumption) ?_
    rotate_left 1
    · intro w_ hSw; have hl := (hSw.cell (p := ⟨g2, 0, none⟩) (by have := ZX0.out.2; exact this)).trans C0.out; clear hSw; go_simp <;> (with_reducible rfl)
    try simp only [Act.put, List.setIfInBounds_toArray, List.set_cons_zero, List.set_cons_succ, List.getElem_toArray, List.getElem_cons_succ, List.getElem_cons_zero]
    refine wpAnyT_take (i := 7) (v := ?_) rfl (by kernel_rfl) (by kernel_rfl) (by kernel_rfl) (fun _ _ _ h => h) (Or.inl ⟨by rfl, ?_⟩) (by assumption) ?_
    rotate_left 1
    · intro w_ hSw; clear hSw; have QQ_ := QQ.out; go_simp <;> (with_reducible rfl)
    try simp only [Act.put, List.setIfInBounds_toArray, List.set_cons_zero, List.set_cons_succ, List.getElem_toArray, List.getElem_cons_succ, List.getElem_cons_zero]
    refine wpAnyT_take (i := 8) (v := ?_) rfl (by kernel_rfl) (by kernel_rfl) (by kernel_rfl) (fun _ _ _ h => h) (Or.inl ⟨by rfl, ?_⟩) (by assumption) ?_
    rotate_left 1
    · intro w_ hSw; clear hSw; have QQ_ := QQ.out; go_simp <;> (with_reducible rfl)
    try simp only [Act.put, List.setIfInBounds_toArray, List.set_cons_zero, List.set_cons_succ, List.getElem_toArray, List.getElem_cons_succ, List.getElem_cons_zero]
    refine wpAnyT_take (i := 9) (v := ?_) rfl (by kernel_rfl) (by kernel_rfl) (by kernel_rfl) (fun _ _ _ h => h) (Or.inl ⟨by rfl, ?_⟩) (by assumption) ?_
    rotate_left 1
    · intro w_ hSw; clear hSw; have QQ_ := QQ.out; go_simp <;> (with_reducible rfl)
    try simp only [Act.put, List.setIfInBounds_toArray, List.set_cons_zero, List.set_cons_succ, List.getElem_toArray, List.getElem_cons_succ, List.getElem_cons_zero]
    refine wpAnyT_take (i := 10) (v := ?_) rfl (by kernel_rfl) (by kernel_rfl) (by kernel_rfl) (fun _ _ _ h => h) (Or.inl ⟨by rfl, ?_⟩) (by assumption) ?_
    rotate_left 1
    · intro w_ hSw; clear hSw; have QQ_ := QQ.out; go_simp <;> (with_reducible rfl)
    try simp only [Act.put, List.setIfInBounds_toArray, List.set_cons_zero, List.set_cons_succ, List.getElem_toArray, List.getElem_cons_succ, List.getElem_cons_zero]
    refine wpAnyT_done (by kernel_rfl) ?_ _
    rw [HX8.out]
    have B9 := Lib.hid (BX0.out.trans (BD.out.mono BX0.out.size))
    have X9 := Lib.hid (XX0.out.below BD.out ZX0.out.2)
    have G9 := Lib.hid (XG0.out.below BD.out ZX0.out.1)
    have Z9 := Lib.hid (show w.heap.size < wv_.heap.size ∧ g2 < wv_.heap.size by have := ZX0.out; have := BD.out.size; omega)
    clear BX0 XX0 XG0 ZX0 BD QQ HIX HX8 C0 C2 hHeld
    have BX0 := Lib.hid B9.out
    have XX0 := Lib.hid X9.out
    have XG0 := Lib.hid G9.out
    have ZX0 := Lib.hid Z9.out
    clear B9 X9 G9 Z9
    have c1 := (cell_of XX0.out (i := 1) rfl).1
    have c3 := (cell_of XX0.out (i := 3) rfl).1
    have c6 := (cell_of XX0.out (i := 6) rfl).1
    have hS8 := S8.out
    obtain ⟨hty, hbd, hii, hxi⟩ := HTY.out
    have w1 := HW1.out
    obtain ⟨ar, har⟩ : ∃ a, x.array = a := ⟨_, rfl⟩
    rw [har] at c3 hbd hii
    cases ar
    rotate_left
    · -- an array
      have hbd : (decide (x.type ≤ 2) && (decide (0 ≤ x.lo) && (decide (x.lo ≤ x.hi) && decide (x.hi ≤ 255)))) = true := hbd
      simp only [Bool.and_eq_true, decide_eq_true_eq] at hbd
      have hty12 : x.type = 1 ∨ x.type = 2 := by
        unfold tyB at hty
        simp only [Bool.or_eq_true, beq_iff_eq, Bool.not_eq_true'] at hty
        rcases hty with e | e | e
        · exact Or.inl e
        · exact Or.inr e
        · have := kind_gt e
          omega
      have hts : typeS x = [65, 82, 82, 65, 89, 91] ++ numS x.lo ++ [46, 46] ++ numS x.hi ++ [93, 32, 79, 70, 32] ++ plainS x.type := by unfold typeS; rw [if_pos har]
      have hts2 := congrArg List.length hts
      simp only [List.length_append, List.length_cons, List.length_nil] at hts2
      have NL := Lib.hid fun (W : World) (hW : Below w.heap.size w W) => (refnum_any x.lo (by unfold InJ; omega) W).mono (fun e w' he => (show e = .returned (sv (numS x.lo)) ∧ Below W.heap.size W w' from ⟨he.1, by rw [he.2]; exact Below.refl _ _⟩))
      have NH := Lib.hid fun (W : World) (hW : Below w.heap.size w W) => (refnum_any x.hi (by unfold InJ; omega) W).mono (fun e w' he => (show e = .returned (sv (numS x.hi)) ∧ Below W.heap.size W w' from ⟨he.1, by rw [he.2]; exact Below.refl _ _⟩))
      unfold sv at NL NH
      obtain ⟨xp, hxp⟩ : ∃ y : ByteArray, ⟨(plainS x.type).toArray⟩ = y := ⟨_, rfl⟩
      have HY : Hid ((⟨(t1 ++ (secS x.sect ++ [10]) ++ x.name ++ [32, 58, 32]).toArray⟩ ++ (⟨#[65, 82, 82, 65, 89, 91]⟩ ++ ⟨(numS x.lo).toArray⟩ ++ ⟨#[46, 46]⟩ ++ ⟨(numS x.hi).toArray⟩ ++ ⟨#[93, 32, 79, 70, 32]⟩ ++ ⟨(plainS x.type).toArray⟩) : ByteArray) = ⟨(t1 ++ (secS x.sect ++ [10]) ++ x.name ++ [32, 58, 32] ++ typeS x).toArray⟩) := Lib.hid (by
        rw [hts, show (⟨#[65, 82, 82, 65, 89, 91]⟩ : ByteArray) = ⟨([65, 82, 82, 65, 89, 91] : Str).toArray⟩ from rfl, show (⟨#[46, 46]⟩ : ByteArray) = ⟨([46, 46] : Str).toArray⟩ from rfl, show (⟨#[93, 32, 79, 70, 32]⟩ : ByteArray) = ⟨([93, 32, 79, 70, 32] : Str).toArray⟩ from rfl]
        simp only [cat_sv, List.append_assoc])
      have HYV : Hid ((⟨(t1 ++ (secS x.sect ++ [10]) ++ x.name ++ [32, 58, 32] ++ typeS x).toArray⟩ : ByteArray) ++ ⟨#[59, 10, 69, 78, 68, 95, 86, 65, 82, 10]⟩ = ⟨(t1 ++ vaS x).toArray⟩) := Lib.hid (by
        rw [HVS.out, show (⟨#[59, 10, 69, 78, 68, 95, 86, 65, 82, 10]⟩ : ByteArray) = ⟨([59, 10, 69, 78, 68, 95, 86, 65, 82, 10] : Str).toArray⟩ from rfl]
        simp only [cat_sv, List.append_assoc, List.cons_append, List.nil_append])
      have s8 : (⟨(t1 ++ (secS x.sect ++ [10]) ++ x.name ++ [32, 58, 32]).toArray⟩ : ByteArray).size = x8.size := by rw [HX8E.out]
      have s9 : (⟨(t1 ++ (secS x.sect ++ [10]) ++ x.name ++ [32, 58, 32] ++ typeS x).toArray⟩ : ByteArray).size = x8.size + (typeS x).length := by rw [← s8, sz_sv, sz_sv, List.length_append]
      obtain ⟨x9, hx9⟩ : ∃ y : ByteArray, ⟨(t1 ++ (secS x.sect ++ [10]) ++ x.name ++ [32, 58, 32] ++ typeS x).toArray⟩ = y := ⟨_, rfl⟩
      rw [hx9] at HY HYV s9
      rw [HX8E.out] at HY
      have HQ1 : Hid (¬ 9223372036854775807 < x9.size + 10) := Lib.hid (by omega)
      clear s8
      have s_xl : (⟨(numS x.lo).toArray⟩ : ByteArray).size = (numS x.lo).length := sz_sv _
      have s_xh : (⟨(numS x.hi).toArray⟩ : ByteArray).size = (numS x.hi).length := sz_sv _
      have s_xp : (⟨(plainS x.type).toArray⟩ : ByteArray).size = (plainS x.type).length := sz_sv _
      generalize (⟨(numS x.lo).toArray⟩ : ByteArray) = xl at *
      generalize (⟨(numS x.hi).toArray⟩ : ByteArray) = xh at *
      rw [hxp] at HY s_xp
      have QQ := Lib.hid (show ¬ 9223372036854775807 < 6 + xl.size ∧ ¬ 9223372036854775807 < 6 + xl.size + 2 ∧ ¬ 9223372036854775807 < 6 + xl.size + 2 + xh.size ∧ ¬ 9223372036854775807 < 6 + xl.size + 2 + xh.size + 5 ∧ ¬ 9223372036854775807 < 6 + xl.size + 2 + xh.size + 5 + xp.size ∧ ¬ 9223372036854775807 < x8.size + (6 + xl.size + 2 + xh.size + 5 + xp.size) by omega)
      clear s9 s_xl s_xh s_xp
      have HXP := Lib.hid hxp
      have C4 := Lib.hid (cell_of XX0.out (i := 4) rfl).1
      have C5 := Lib.hid (cell_of XX0.out (i := 5) rfl).1
      clear hty hbd hii hxi hts2 hS8 hxp w1 hts
      rcases hty12 with e12 | e12
      all_goals
        have z12 : (x.type == 2) = decide (x.type = 2) := by rw [Bool.eq_iff_iff, beq_iff_eq, decide_eq_true_eq]
        first
          | (have HP : Hid ((⟨#[73, 78, 84]⟩ : ByteArray) = xp) := Lib.hid (by rw [← HXP.out, e12]; rfl)
             rw [e12] at c1)
          | (have HP : Hid ((⟨#[66, 79, 79, 76]⟩ : ByteArray) = xp) := Lib.hid (by rw [← HXP.out, e12]; rfl)
             rw [e12] at c1)
        clear z12
        go_upto_region 14 with (fail)
        rw [HP.out]
        clear e12 c1 c3 c6
        refine wp_region_T (by kernel_rfl) (fun w' => Below wv_.heap.size wv_ w') [] (Below.refl _ _).drew (fun hHeld => ?_)
        have BDA := Lib.hid (Below.drew (Below.refl wv_.heap.size wv_))
        generalize wv_.drew = wv__ at *
        refine wpAnyT_take (i := 0) (v := ?_) rfl (by kernel_rfl) (by kernel_rfl) (by kernel_rfl) (fun _ _ _ h => h) (Or.inl ⟨by rfl, ?_⟩) (by assumption) ?_
        rotate_left 1
        · intro w_ hSw; clear hSw; have QQ_ := QQ.out; go_simp <;> (with_reducible rfl)
        try simp only [Act.put, List.setIfInBounds_toArray, List.set_cons_zero, List.set_cons_succ, List.getElem_toArray, List.getElem_cons_succ, List.getElem_cons_zero]
        refine wpAnyT_take (i := 1) (v := ?_) rfl (by kernel_rfl) (by kernel_rfl) (by kernel_rfl) (fun _ _ _ h => h) (Or.inl ⟨by rfl, ?_⟩) (by assumption) ?_
        rotate_left 1
        · intro w_ hSw; clear hSw; have QQ_ := QQ.out; go_simp <;> (with_reducible rfl)
        try simp only [Act.put, List.setIfInBounds_toArray, List.set_cons_zero, List.set_cons_succ, List.getElem_toArray, List.getElem_cons_succ, List.getElem_cons_zero]
        refine wpAnyT_take (i := 2) (v := ?_) rfl (by kernel_rfl) (by kernel_rfl) (by kernel_rfl) (fun _ _ _ h => h) (Or.inl ⟨by rfl, ?_⟩) (by assumption) ?_
        rotate_left 1
        · intro w_ hSw; have hl := (hSw.cell (p := ⟨g2, 4, none⟩) (by have := ZX0.out.2; exact this)).trans C4.out; clear hSw; go_simp <;> (with_reducible rfl)
        try simp only [Act.put, List.setIfInBounds_toArray, List.set_cons_zero, List.set_cons_succ, List.getElem_toArray, List.getElem_cons_succ, List.getElem_cons_zero]
        refine wpAnyT_take (i := 6) (v := ?_) rfl (by kernel_rfl) (by kernel_rfl) (by kernel_rfl) (fun _ _ _ h => h) (Or.inl ⟨by rfl, ?_⟩) (by assumption) ?_
        rotate_left 1
        · intro w_ hSw; clear hSw; have QQ_ := QQ.out; go_simp <;> (with_reducible rfl)
        try simp only [Act.put, List.setIfInBounds_toArray, List.set_cons_zero, List.set_cons_succ, List.getElem_toArray, List.getElem_cons_succ, List.getElem_cons_zero]
        refine wpAnyT_take (i := 7) (v := ?_) rfl (by kernel_rfl) (by kernel_rfl) (by kernel_rfl) (fun _ _ _ h => h) (Or.inl ⟨by rfl, ?_⟩) (by assumption) ?_
        rotate_left 1
        · intro w_ hSw; have hl := (hSw.cell (p := ⟨g2, 5, none⟩) (by have := ZX0.out.2; exact this)).trans C5.out; clear hSw; go_simp <;> (with_reducible rfl)
        try simp only [Act.put, List.setIfInBounds_toArray, List.set_cons_zero, List.set_cons_succ, List.getElem_toArray, List.getElem_cons_succ, List.getElem_cons_zero]
        refine wpAnyT_take (i := 11) (v := ?_) rfl (by kernel_rfl) (by kernel_rfl) (by kernel_rfl) (fun _ _ _ h => h) (Or.inl ⟨by rfl, ?_⟩) (by assumption) ?_
        rotate_left 1
        · intro w_ hSw; clear hSw; have QQ_ := QQ.out; go_simp <;> (with_reducible rfl)
        try simp only [Act.put, List.setIfInBounds_toArray, List.set_cons_zero, List.set_cons_succ, List.getElem_toArray, List.getElem_cons_succ, List.getElem_cons_zero]
        refine wpAnyT_ready (rs := [3]) (by kernel_rfl) (by simp) ?_
        refine AllReadyT.cons rfl (fun K hK => ?_) AllReadyT.nil
        go_simp
        go_at_call 19
        refine (NL.out _ (BX0.out.trans (BDA.out.mono BX0.out.size))).mono ?_
        rintro e cw1 ⟨rfl, hb⟩
        have BC1 := Lib.hid (BDA.out.trans (hb.mono BDA.out.size))
        clear hb
        go_wp2_with fail
        refine hK _ _ BC1.out (fun hHeld => ?_)
        clear hK K
        try simp only [Act.put, List.setIfInBounds_toArray, List.set_cons_zero, List.set_cons_succ, List.getElem_toArray, List.getElem_cons_succ, List.getElem_cons_zero]
        refine wpAnyT_take (i := 4) (v := ?_) rfl (by kernel_rfl) (by kernel_rfl) (by kernel_rfl) (fun _ _ _ h => h) (Or.inl ⟨by rfl, ?_⟩) (by assumption) ?_
        rotate_left 1
        · intro w_ hSw; clear hSw; have QQ_ := QQ.out; go_simp <;> (with_reducible rfl)
        try simp only [Act.put, List.setIfInBounds_toArray, List.set_cons_zero, List.set_cons_succ, List.getElem_toArray, List.getElem_cons_succ, List.getElem_cons_zero]
        refine wpAnyT_take (i := 5) (v := ?_) rfl (by kernel_rfl) (by kernel_rfl) (by kernel_rfl) (fun _ _ _ h => h) (Or.inl ⟨by rfl, ?_⟩) (by assumption) ?_
        rotate_left 1
        · intro w_ hSw; clear hSw; have QQ_ := QQ.out; go_simp <;> (with_reducible rfl)
        try simp only [Act.put, List.setIfInBounds_toArray, List.set_cons_zero, List.set_cons_succ, List.getElem_toArray, List.getElem_cons_succ, List.getElem_cons_zero]
        refine wpAnyT_ready (rs := [8]) (by kernel_rfl) (by simp) ?_
        refine AllReadyT.cons rfl (fun K hK => ?_) AllReadyT.nil
        go_simp
        go_at_call 19
        refine (NH.out _ (BX0.out.trans (BC1.out.mono BX0.out.size))).mono ?_
        rintro e cw2 ⟨rfl, hb⟩
        have BC2 := Lib.hid (BC1.out.trans (hb.mono BC1.out.size))
        clear hb
        go_wp2_with fail
        refine hK _ _ BC2.out (fun hHeld => ?_)
        clear hK K
        try simp only [Act.put, List.setIfInBounds_toArray, List.set_cons_zero, List.set_cons_succ, List.getElem_toArray, List.getElem_cons_succ, List.getElem_cons_zero]
        refine wpAnyT_take (i := 9) (v := ?_) rfl (by kernel_rfl) (by kernel_rfl) (by kernel_rfl) (fun _ _ _ h => h) (Or.inl ⟨by rfl, ?_⟩) (by assumption) ?_
        rotate_left 1
        · intro w_ hSw; clear hSw; have QQ_ := QQ.out; go_simp <;> (with_reducible rfl)
        try simp only [Act.put, List.setIfInBounds_toArray, List.set_cons_zero, List.set_cons_succ, List.getElem_toArray, List.getElem_cons_succ, List.getElem_cons_zero]
        refine wpAnyT_take (i := 10) (v := ?_) rfl (by kernel_rfl) (by kernel_rfl) (by kernel_rfl) (fun _ _ _ h => h) (Or.inl ⟨by rfl, ?_⟩) (by assumption) ?_
        rotate_left 1
        · intro w_ hSw; clear hSw; have QQ_ := QQ.out; go_simp <;> (with_reducible rfl)
        try simp only [Act.put, List.setIfInBounds_toArray, List.set_cons_zero, List.set_cons_succ, List.getElem_toArray, List.getElem_cons_succ, List.getElem_cons_zero]
        refine wpAnyT_take (i := 12) (v := ?_) rfl (by kernel_rfl) (by kernel_rfl) (by kernel_rfl) (fun _ _ _ h => h) (Or.inl ⟨by rfl, ?_⟩) (by assumption) ?_
        rotate_left 1
        · intro w_ hSw; clear hSw; have QQ_ := QQ.out; go_simp <;> (with_reducible rfl)
        try simp only [Act.put, List.setIfInBounds_toArray, List.set_cons_zero, List.set_cons_succ, List.getElem_toArray, List.getElem_cons_succ, List.getElem_cons_zero]
        refine wpAnyT_take (i := 13) (v := ?_) rfl (by kernel_rfl) (by kernel_rfl) (by kernel_rfl) (fun _ _ _ h => h) (Or.inl ⟨by rfl, ?_⟩) (by assumption) ?_
        rotate_left 1
        · intro w_ hSw; clear hSw; have QQ_ := QQ.out; go_simp <;> (with_reducible rfl)
        try simp only [Act.put, List.setIfInBounds_toArray, List.set_cons_zero, List.set_cons_succ, List.getElem_toArray, List.getElem_cons_succ, List.getElem_cons_zero]
        refine wpAnyT_take (i := 14) (v := ?_) rfl (by kernel_rfl) (by kernel_rfl) (by kernel_rfl) (fun _ _ _ h => h) (Or.inl ⟨by rfl, ?_⟩) (by assumption) ?_
        rotate_left 1
        · intro w_ hSw; clear hSw; have QQ_ := QQ.out; go_simp <;> (with_reducible rfl)
        try simp only [Act.put, List.setIfInBounds_toArray, List.set_cons_zero, List.set_cons_succ, List.getElem_toArray, List.getElem_cons_succ, List.getElem_cons_zero]
        refine wpAnyT_done (by kernel_rfl) ?_ _
        have w1 := HW1.out
        have B9 := Lib.hid (BX0.out.trans (BC2.out.mono BX0.out.size))
        have G9 := Lib.hid (XG0.out.below BC2.out ZX0.out.1)
        have Z9 := Lib.hid (Nat.lt_of_lt_of_le ZX0.out.1 BC2.out.size)
        go_upto_region 19 with (fail)
        rw [HY.out]
        have q1 := HQ1.out
        go_wp2_with fail
        go_roundw
        case rel => exact ⟨q + 1, t1 ++ vaS x, HLT.out, by rw [HYV.out], by go_num, B9.out, G9.out, Z9.out, HT2.out⟩
        case measure => have := HLT.out; simp [intOf]; omega
    have hbd : (x.lo == 0 && x.hi == 0) = true := hbd
    by_cases t1' : x.type = 1
    · have hts : typeS x = [73, 78, 84] ++ [32, 58, 61, 32] ++ numS x.init := by unfold typeS; rw [if_neg (by rw [har]; decide), if_pos t1', t1']; rfl
      have hts2 := congrArg List.length hts
      simp only [List.length_append, List.length_cons, List.length_nil] at hts2
      have NI := Lib.hid fun (W : World) => refnum_any x.init hxi W
      unfold sv at NI
      have HY : Hid ((⟨(t1 ++ (secS x.sect ++ [10]) ++ x.name ++ [32, 58, 32]).toArray⟩ ++ (⟨#[73, 78, 84, 32, 58, 61, 32]⟩ ++ ⟨(numS x.init).toArray⟩) : ByteArray) = ⟨(t1 ++ (secS x.sect ++ [10]) ++ x.name ++ [32, 58, 32] ++ typeS x).toArray⟩) := Lib.hid (by
        rw [hts, show (⟨#[73, 78, 84, 32, 58, 61, 32]⟩ : ByteArray) = ⟨([73, 78, 84, 32, 58, 61, 32] : Str).toArray⟩ from rfl]
        simp only [cat_sv, List.append_assoc, List.cons_append, List.nil_append])
      have HYV : Hid ((⟨(t1 ++ (secS x.sect ++ [10]) ++ x.name ++ [32, 58, 32] ++ typeS x).toArray⟩ : ByteArray) ++ ⟨#[59, 10, 69, 78, 68, 95, 86, 65, 82, 10]⟩ = ⟨(t1 ++ vaS x).toArray⟩) := Lib.hid (by
        rw [HVS.out, show (⟨#[59, 10, 69, 78, 68, 95, 86, 65, 82, 10]⟩ : ByteArray) = ⟨([59, 10, 69, 78, 68, 95, 86, 65, 82, 10] : Str).toArray⟩ from rfl]
        simp only [cat_sv, List.append_assoc, List.cons_append, List.nil_append])
      have s8 : (⟨(t1 ++ (secS x.sect ++ [10]) ++ x.name ++ [32, 58, 32]).toArray⟩ : ByteArray).size = x8.size := by rw [HX8E.out]
      have s9 : (⟨(t1 ++ (secS x.sect ++ [10]) ++ x.name ++ [32, 58, 32] ++ typeS x).toArray⟩ : ByteArray).size = x8.size + (typeS x).length := by rw [← s8, sz_sv, sz_sv, List.length_append]
      obtain ⟨x9, hx9⟩ : ∃ y : ByteArray, ⟨(t1 ++ (secS x.sect ++ [10]) ++ x.name ++ [32, 58, 32] ++ typeS x).toArray⟩ = y := ⟨_, rfl⟩
      rw [hx9] at HY HYV s9
      rw [HX8E.out] at HY
      have HQ1 : Hid (¬ 9223372036854775807 < x9.size + 10) := Lib.hid (by omega)
      clear s8
      have s_xi : (⟨(numS x.init).toArray⟩ : ByteArray).size = (numS x.init).length := sz_sv _
      generalize (⟨(numS x.init).toArray⟩ : ByteArray) = xi at *
      have qi1 : ¬ 9223372036854775807 < 7 + xi.size := by omega
      have qi2 : ¬ 9223372036854775807 < x8.size + (7 + xi.size) := by omega
      clear s9 s_xi
      rw [t1'] at c1
      clear hty hbd hii hxi hts2 hS8 hts t1'
      go_wp2_with (go_at_call 19; fail)
      refine (NI.out _).mono ?_
      rintro e w6 ⟨rfl, rfl⟩
      go_upto_region 19 with (fail)
      rw [HY.out]
      clear qi1 qi2
      have q1 := HQ1.out
      go_wp2_with fail
      go_roundw
      case rel => exact ⟨q + 1, t1 ++ vaS x, HLT.out, by rw [HYV.out], by go_num, BX0.out, XG0.out, ZX0.out.1, HT2.out⟩
      case measure => have := HLT.out; simp [intOf]; omega
    by_cases t2' : x.type = 2
    · have hts : typeS x = [66, 79, 79, 76] ++ [32, 58, 61, 32] ++ truthS x.init := by unfold typeS; rw [if_neg (by rw [har]; decide), if_neg t1', if_pos t2', t2']; rfl
      have hts2 := congrArg List.length hts
      simp only [List.length_append, List.length_cons, List.length_nil] at hts2
      have NI := Lib.hid fun (W : World) => reftruth_any x.init W
      unfold sv at NI
      have HY : Hid ((⟨(t1 ++ (secS x.sect ++ [10]) ++ x.name ++ [32, 58, 32]).toArray⟩ ++ (⟨#[66, 79, 79, 76, 32, 58, 61, 32]⟩ ++ ⟨(truthS x.init).toArray⟩) : ByteArray) = ⟨(t1 ++ (secS x.sect ++ [10]) ++ x.name ++ [32, 58, 32] ++ typeS x).toArray⟩) := Lib.hid (by
        rw [hts, show (⟨#[66, 79, 79, 76, 32, 58, 61, 32]⟩ : ByteArray) = ⟨([66, 79, 79, 76, 32, 58, 61, 32] : Str).toArray⟩ from rfl]
        simp only [cat_sv, List.append_assoc, List.cons_append, List.nil_append])
      have HYV : Hid ((⟨(t1 ++ (secS x.sect ++ [10]) ++ x.name ++ [32, 58, 32] ++ typeS x).toArray⟩ : ByteArray) ++ ⟨#[59, 10, 69, 78, 68, 95, 86, 65, 82, 10]⟩ = ⟨(t1 ++ vaS x).toArray⟩) := Lib.hid (by
        rw [HVS.out, show (⟨#[59, 10, 69, 78, 68, 95, 86, 65, 82, 10]⟩ : ByteArray) = ⟨([59, 10, 69, 78, 68, 95, 86, 65, 82, 10] : Str).toArray⟩ from rfl]
        simp only [cat_sv, List.append_assoc, List.cons_append, List.nil_append])
      have s8 : (⟨(t1 ++ (secS x.sect ++ [10]) ++ x.name ++ [32, 58, 32]).toArray⟩ : ByteArray).size = x8.size := by rw [HX8E.out]
      have s9 : (⟨(t1 ++ (secS x.sect ++ [10]) ++ x.name ++ [32, 58, 32] ++ typeS x).toArray⟩ : ByteArray).size = x8.size + (typeS x).length := by rw [← s8, sz_sv, sz_sv, List.length_append]
      obtain ⟨x9, hx9⟩ : ∃ y : ByteArray, ⟨(t1 ++ (secS x.sect ++ [10]) ++ x.name ++ [32, 58, 32] ++ typeS x).toArray⟩ = y := ⟨_, rfl⟩
      rw [hx9] at HY HYV s9
      rw [HX8E.out] at HY
      have HQ1 : Hid (¬ 9223372036854775807 < x9.size + 10) := Lib.hid (by omega)
      clear s8
      have s_xi : (⟨(truthS x.init).toArray⟩ : ByteArray).size = (truthS x.init).length := sz_sv _
      generalize (⟨(truthS x.init).toArray⟩ : ByteArray) = xi at *
      have qi1 : ¬ 9223372036854775807 < 8 + xi.size := by omega
      have qi2 : ¬ 9223372036854775807 < x8.size + (8 + xi.size) := by omega
      clear s9 s_xi
      rw [t2'] at c1
      clear hty hbd hii hxi hts2 hS8 hts t1' t2'
      go_wp2_with (go_at_call 21; fail)
      refine (NI.out _).mono ?_
      rintro e w6 ⟨rfl, rfl⟩
      go_upto_region 19 with (fail)
      rw [HY.out]
      clear qi1 qi2
      have q1 := HQ1.out
      go_wp2_with fail
      go_roundw
      case rel => exact ⟨q + 1, t1 ++ vaS x, HLT.out, by rw [HYV.out], by go_num, BX0.out, XG0.out, ZX0.out.1, HT2.out⟩
      case measure => have := HLT.out; simp [intOf]; omega
    · have hgt : 2 < x.type := by
        unfold tyB at hty
        simp only [Bool.or_eq_true, beq_iff_eq, Bool.not_eq_true'] at hty
        rcases hty with e | e | e
        · exact absurd e t1'
        · exact absurd e t2'
        · exact kind_gt e
      have hts : typeS x = kindS x.type := by unfold typeS; rw [if_neg (by rw [har]; decide), if_neg t1', if_neg t2']
      have hts2 := congrArg List.length hts
      have NI := Lib.hid fun (W : World) => refkind_any x.type W
      unfold sv at NI
      have z1 := neb t1'
      have z2 := neb t2'
      have HY : Hid ((⟨(t1 ++ (secS x.sect ++ [10]) ++ x.name ++ [32, 58, 32]).toArray⟩ ++ ⟨(kindS x.type).toArray⟩ : ByteArray) = ⟨(t1 ++ (secS x.sect ++ [10]) ++ x.name ++ [32, 58, 32] ++ typeS x).toArray⟩) := Lib.hid (by
        rw [hts]
        simp only [cat_sv, List.append_assoc])
      have HYV : Hid ((⟨(t1 ++ (secS x.sect ++ [10]) ++ x.name ++ [32, 58, 32] ++ typeS x).toArray⟩ : ByteArray) ++ ⟨#[59, 10, 69, 78, 68, 95, 86, 65, 82, 10]⟩ = ⟨(t1 ++ vaS x).toArray⟩) := Lib.hid (by
        rw [HVS.out, show (⟨#[59, 10, 69, 78, 68, 95, 86, 65, 82, 10]⟩ : ByteArray) = ⟨([59, 10, 69, 78, 68, 95, 86, 65, 82, 10] : Str).toArray⟩ from rfl]
        simp only [cat_sv, List.append_assoc, List.cons_append, List.nil_append])
      have s8 : (⟨(t1 ++ (secS x.sect ++ [10]) ++ x.name ++ [32, 58, 32]).toArray⟩ : ByteArray).size = x8.size := by rw [HX8E.out]
      have s9 : (⟨(t1 ++ (secS x.sect ++ [10]) ++ x.name ++ [32, 58, 32] ++ typeS x).toArray⟩ : ByteArray).size = x8.size + (typeS x).length := by rw [← s8, sz_sv, sz_sv, List.length_append]
      obtain ⟨x9, hx9⟩ : ∃ y : ByteArray, ⟨(t1 ++ (secS x.sect ++ [10]) ++ x.name ++ [32, 58, 32] ++ typeS x).toArray⟩ = y := ⟨_, rfl⟩
      rw [hx9] at HY HYV s9
      rw [HX8E.out] at HY
      have HQ1 : Hid (¬ 9223372036854775807 < x9.size + 10) := Lib.hid (by omega)
      clear s8
      have s_xi : (⟨(kindS x.type).toArray⟩ : ByteArray).size = (kindS x.type).length := sz_sv _
      generalize (⟨(kindS x.type).toArray⟩ : ByteArray) = xi at *
      have qi1 : ¬ 9223372036854775807 < x8.size + xi.size := by omega
      clear s9 s_xi
      clear hty hbd hii hxi hts2 hS8 hts t1'
      go_wp2_with (go_at_call 20; fail)
      refine (NI.out _).mono ?_
      rintro e w6 ⟨rfl, hb⟩
      have B9 := Lib.hid (BX0.out.trans (hb.mono BX0.out.size))
      have G9 := Lib.hid (XG0.out.below hb ZX0.out.1)
      have Z9 := Lib.hid (Nat.lt_of_lt_of_le ZX0.out.1 hb.size)
      clear hb c1 c3 c6 BX0 XX0 XG0 ZX0
      go_upto_region 19 with (fail)
      rw [HY.out]
      clear qi1
      have q1 := HQ1.out
      go_wp2_with fail
      go_roundw
      case rel => exact ⟨q + 1, t1 ++ vaS x, HLT.out, by rw [HYV.out], by go_num, B9.out, G9.out, Z9.out, HT2.out⟩
      case measure => have := HLT.out; simp [intOf]; omega
end Go.Proofs.YtdefgghhkknnpaaGreatDoor.sh
