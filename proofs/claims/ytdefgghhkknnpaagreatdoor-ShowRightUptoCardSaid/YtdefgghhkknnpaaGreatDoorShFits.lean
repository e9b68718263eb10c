/- The document's words for programs: the given function of them. Conditions: what memory can hold; at most 2^40 parts. -/
import Derived.Test.YtdefgghhkknnpaaGreatDoorShFiH
import Derived.Test.YtdefgghhkknnpaaGreatDoorV08
namespace Go.Proofs.YtdefgghhkknnpaaGreatDoor.sh
open Go.ChangeShapes Go.WideShapes Go.ChangeAt Go.RowKit Go.Proofs.YtdefgghhkknnpaaGreatDoor Go.Proofs.YtdefgghhkknnpaaGreatDoor.k Go.Proofs.YtdefgghhkknnpaaGreatDoor.rr Go.Proofs.YtdefgghhkknnpaaGreatDoor.tk Go.Proofs.YtdefgghhkknnpaaGreatDoor.tr
set_option linter.unusedVariables false
set_option linter.unusedSimpArgs false

def seB (s : Int) : Bool := decide (0 ≤ s) && decide (s ≤ 2)
def tyB (t : Int) : Bool := t == 1 || (t == 2 || !(kindS t == []))
def bdB (a : Bool) (t lo hi : Int) : Bool := if a = true then decide (t ≤ 2) && (decide (0 ≤ lo) && (decide (lo ≤ hi) && decide (hi ≤ 255))) else lo == 0 && hi == 0
def inB (a : Bool) (t i : Int) : Bool := (if a = true ∨ 2 < t then i == 0 else true) && ((if t = 2 then decide (0 ≤ i) && decide (i ≤ 1) else true) && i != -9223372036854775808)
theorem kind_gt {t : Int} (h : (kindS t == []) = false) : 2 < t := by
  by_cases hm : t ∈ kindL
  · simp only [kindL, List.mem_cons, List.not_mem_nil, or_false] at hm
    omega
  · rw [(kind_none hm).2.1] at h
    exact absurd h (by decide)
set_option maxHeartbeats 2000000 in
theorem va_fit (v : Va) : vaB v = (nmB v.name && (seB v.sect && (tyB v.type && (bdB v.array v.type v.lo v.hi && inB v.array v.type v.init)))) := by
  obtain ⟨nm, ty, se, ar, lo, hi, ini, ln⟩ := v
  unfold vaB typeB
  simp only
  rw [(kind_name ty).2]
  have hg := @kind_gt ty
  unfold seB tyB bdB inB
  generalize nmB nm = u at *
  generalize (kindS ty == []) = k at *
  cases u
  · rfl
  cases k
  · have hg := hg rfl
    rw [Bool.eq_iff_iff]
    cases ar
    · simp
      (repeat' split) <;> simp_all <;> omega
    · simp
      omega
  · rw [Bool.eq_iff_iff]
    cases ar
    · simp
      (repeat' split) <;> simp_all <;> omega
    · simp
      omega
theorem vaB_step {L : List Va} {i : Nat} {x : Va} (h : L[i]? = some x) : (L.drop i).all vaB = (vaB x && (L.drop (i + 1)).all vaB) := by
  obtain ⟨h1, h2⟩ := List.getElem?_eq_some_iff.1 h
  rw [List.drop_eq_getElem_cons h1, List.all_cons, h2]
set_option maxRecDepth 100000 in
set_option maxHeartbeats 40000000 in
theorem reffitp_any {p : Pg} {h : GH} {w : World} (hp : PgAt w w.heap.size p h) (hr : rSs p.body) (hW : wsS p.body ≤ big) : Calls Tryz.prog 18 #[.agg (gC h).toArray] w fun e w' => e = .returned (.bool (pgB p)) ∧ Below w.heap.size w w' := by
  obtain ⟨h1, h2, h3⟩ := hp
  obtain ⟨nm, ⟨A1, l1, ca1⟩, ⟨A2, l2, ca2⟩⟩ := h
  simp only at h1 h2 h3
  subst h1
  have hvr : Rd vC 8 w w.heap.size A1 l1 ca1 p.vars := h2
  have lv : p.vars.length = l1 := hvr.1
  have lle := hvr.len_le
  have C1 := Lib.hid fun (W : World) => refname_any ⟨p.name.toArray⟩ W
  rw [sv_list] at C1
  have C3 := Lib.hid fun W (hW' : Below w.heap.size w W) => reffits_any hr hW (h3.below hW' hW'.size)
  simp only [Sl.v] at C3
  have HVR := Lib.hid hvr
  have HLV := Lib.hid (And.intro lv lle)
  unfold pgB
  rw [lv]
  generalize nmB p.name = u1 at *
  simp only [gC, sv, Sl.v]
  generalize (⟨p.name.toArray⟩ : ByteArray) = xs at *
  obtain ⟨GC, hGC⟩ : ∃ G : List Value, [.string xs, .slice A1 l1 ca1, .slice A2 l2 ca2] = G := ⟨_, rfl⟩
  obtain ⟨R, hR⟩ : ∃ R, (u1 && (decide (l1 ≤ 64) && (p.vars.all vaB && stsB p.body))) = R := ⟨_, rfl⟩
  rw [hR]
  have HR := Lib.hid hR
  clear hR
  have HB := Lib.hid (al1 w (.cells #[.string xs, .slice A1 l1 ca1, .slice A2 l2 ca2] 25))
  have X1 := Lib.hid (Box.new w #[.string xs, .slice A1 l1 ca1, .slice A2 l2 ca2] 25)
  have Z1 := Lib.hid (show w.heap.size < (w.alloc (.cells #[.string xs, .slice A1 l1 ca1, .slice A2 l2 ca2] 25)).heap.size by simp)
  have HG := Lib.hid hGC
  clear hGC h2 h3 hr hW lv lle hvr
  go_enter Tryz.func18, Tryz.ntmps18
  go_upto_region 1 with (fail)
  generalize w.alloc (.cells #[.string xs, .slice A1 l1 ca1, .slice A2 l2 ca2] 25) = w1 at *
  obtain ⟨g, hg⟩ : ∃ g, w.heap.size = g := ⟨_, rfl⟩
  have X1 : Hid (Box w1 g 0 [.string xs, .slice A1 l1 ca1, .slice A2 l2 ca2]) := by rw [← hg]; exact X1
  have Z1 : Hid (g < w1.heap.size) := by rw [← hg]; exact Z1
  have hgg : Hid (w.heap.size = g) := Lib.hid hg
  rw [hg]
  clear hg
  have ⟨c0, _, _, _, _, _, _⟩ := X1.out
  go_wp2_with (go_at_call 39; fail)
  refine (C1.out _).mono ?_
  rintro e w2 ⟨rfl, hb⟩
  have XG0 := Lib.hid (X1.out.below hb Z1.out)
  have BX0 := Lib.hid (HB.out.trans (hb.mono HB.out.size))
  have ZX0 := Lib.hid (show g < w2.heap.size by have := Z1.out; have := hb.size; omega)
  clear hb c0 C1 X1 HB Z1
  have ⟨_, _, c1, _, _, _, _⟩ := XG0.out
  cases u1
  · have HF := Lib.hid (show false = R by rw [← HR.out]; rfl)
    go_wp2_with fail
    go_ret
    exact ⟨ret_bool HF.out, BX0.out⟩
  by_cases h6 : l1 ≤ 64
  rotate_left 1
  · have HF := Lib.hid (show false = R by rw [← HR.out, decide_eq_false h6]; rfl)
    have h6' : (64 : Int) < l1 := by omega
    clear h6
    go_wp2_with fail
    go_ret
    exact ⟨ret_bool HF.out, BX0.out⟩
  have HR2 := Lib.hid (show (p.vars.all vaB && stsB p.body) = R by rw [← HR.out, decide_eq_true h6]; rfl)
  have h6' : ¬ (64 : Int) < l1 := by omega
  clear h6 HR
  go_upto_region 4 with (fail)
  clear h6' c1
  go_loopw [3] (fun s3 wr => ∃ q : Nat, q ≤ l1 ∧ s3 = .int .i64 q ∧ Below w.heap.size w wr ∧ Box wr g 0 GC ∧ g < wr.heap.size ∧ ((p.vars.drop q).all vaB && stsB p.body) = R) (fun i _ => l1 - (intOf i).toNat)
  case atStart => exact ⟨0, Nat.zero_le _, rfl, BX0.out, by rw [← HG.out]; exact XG0.out, ZX0.out, by rw [List.drop_zero]; exact HR2.out⟩
  case round =>
    obtain ⟨q, hq, rfl, hb, hxg, hz, hd⟩ := hrel
    clear XG0 BX0 ZX0 HR2
    have BX0 := Lib.hid hb
    have XG0 := Lib.hid hxg
    have ZX0 := Lib.hid hz
    have ⟨_, _, c1, _, c2, _, _⟩ := (show Box wr g 0 [.string xs, .slice A1 l1 ca1, .slice A2 l2 ca2] by rw [HG.out]; exact hxg)
    clear hb hxg hz
    by_cases hlt : q < l1
    rotate_left
    · obtain rfl : q = l1 := by omega
      have hz : ¬ (q : Int) < q := by omega
      have HF := Lib.hid (show stsB p.body = R by rw [← hd, List.drop_of_length_le (by have := HLV.out; omega)]; rfl)
      clear hd hlt hq
      go_wp2_with (go_at_call 40; fail)
      refine (C3.out _ BX0.out).mono ?_
      rintro e w3 ⟨rfl, hb⟩
      have B3 := Lib.hid (BX0.out.trans (hb.mono BX0.out.size))
      clear hb c1 c2
      go_wp2_with fail
      go_ret
      exact ⟨ret_bool HF.out, B3.out⟩
    have r1 : Rd vC 8 wr wr.heap.size A1 l1 ca1 p.vars := (HVR.out.below BX0.out).more BX0.out.size
    obtain ⟨b1, o1, x, hA1, hb1, hp, hc1⟩ := r1.at hlt
    rw [hA1] at c1
    rw [vaB_step hp, va_fit] at hd
    have w1 := nat_step q (by have := HLV.out.2; omega)
    have hlt' : (q : Int) < l1 := by omega
    have HW1 := Lib.hid w1
    have HQ : Hid (q + 1 ≤ l1) := Lib.hid hlt
    have HU := Lib.hid hd
    have hci := Lib.hid hc1
    have N1 := Lib.hid fun (W : World) => refname_any ⟨x.name.toArray⟩ W
    rw [sv_list] at N1
    have N2 := Lib.hid fun (W : World) => refkind_any x.type W
    have lle := HLV.out.2
    clear hd r1 hp hb1 hc1 hq w1 hA1 c2
    go_upto_region 7 with (first | ((with_reducible refine m_loadR hci.out 60 25 ?_ ?_ ?_ ?_ ?_ ?_); rfl; rfl; rfl; rfl; kernel_rfl) | ((with_reducible refine m_new 60 4 26 ?_ ?_ ?_ (vC x) ?_ ?_ ?_ ?_ (vC_one _) ?_); rfl; rfl; rfl; rfl; rfl; rfl; kernel_rfl; intro wx0 hx hb hz))
    obtain ⟨g2, hg2⟩ : ∃ g, wr.heap.size = g := ⟨_, rfl⟩
    rw [hg2] at hx hz ⊢
    have XX0 := Lib.hid hx
    have XG2 := Lib.hid (XG0.out.below hb ZX0.out)
    have BX2 := Lib.hid (BX0.out.trans (hb.mono BX0.out.size))
    have ZX2 := Lib.hid (show g < wx0.heap.size ∧ g2 < wx0.heap.size by have := ZX0.out; omega)
    clear hx hb hz hci BX0 XG0 ZX0 hg2 c1 hlt lle
    have BX0 := Lib.hid BX2.out
    have XG0 := Lib.hid XG2.out
    have ZX0 := Lib.hid ZX2.out
    clear BX2 XG2 ZX2
    have c0 := (cell_of XX0.out (i := 0) rfl).1
    simp only [sv] at c0
    unfold sv at N2
    have k1 := emp_no (kindS x.type) _ rfl
    generalize (⟨(kindS x.type).toArray⟩ : ByteArray) = xk at *
    generalize (⟨x.name.toArray⟩ : ByteArray) = xn at *
    have c2 := (cell_of XX0.out (i := 2) rfl).1
    go_cut [40] from 27 to 40 (fun s40 wx => s40 = .bool (!(nmB x.name && seB x.sect)) ∧ Below w.heap.size w wx ∧ Box wx g 0 GC ∧ Box wx g2 0 (vC x) ∧ g < wx.heap.size ∧ g2 < wx.heap.size)
    case first =>
      obtain ⟨u, hu⟩ : ∃ u, nmB x.name = u := ⟨_, rfl⟩
      rw [hu] at N1
      have HV1 := Lib.hid hu
      clear hu N2 k1
      go_wp2_with (go_at_call 39; fail)
      refine (N1.out _).mono ?_
      rintro e wy ⟨rfl, hb⟩
      have B1 := Lib.hid (BX0.out.trans (hb.mono BX0.out.size))
      have X1 := Lib.hid (XX0.out.below hb ZX0.out.2)
      have G1 := Lib.hid (XG0.out.below hb ZX0.out.1)
      have Z1 := Lib.hid (show g < wy.heap.size ∧ g2 < wy.heap.size by have := ZX0.out; have := hb.size; omega)
      clear hb XX0 XG0 BX0 ZX0 c0 c2 N1
      have XX0 := Lib.hid X1.out
      have XG0 := Lib.hid G1.out
      have BX0 := Lib.hid B1.out
      have ZX0 := Lib.hid Z1.out
      clear X1 G1 B1 Z1
      have c2 := (cell_of XX0.out (i := 2) rfl).1
      cases u
      · have HV := Lib.hid (show (nmB x.name && seB x.sect) = false by rw [HV1.out]; rfl)
        go_wp2_with fail
        go_meet
        exact ⟨by rw [HV.out]; rfl, BX0.out, XG0.out, XX0.out, ZX0.out.1, ZX0.out.2⟩
      by_cases s0 : x.sect < 0
      · have HV := Lib.hid (show (nmB x.name && seB x.sect) = false by rw [HV1.out]; unfold seB; simp; omega)
        go_wp2_with fail
        go_meet
        exact ⟨by rw [HV.out]; rfl, BX0.out, XG0.out, XX0.out, ZX0.out.1, ZX0.out.2⟩
      by_cases s2 : 2 < x.sect
      · have HV := Lib.hid (show (nmB x.name && seB x.sect) = false by rw [HV1.out]; unfold seB; simp; omega)
        go_wp2_with fail
        go_meet
        exact ⟨by rw [HV.out]; rfl, BX0.out, XG0.out, XX0.out, ZX0.out.1, ZX0.out.2⟩
      · have HV := Lib.hid (show (nmB x.name && seB x.sect) = true by rw [HV1.out]; unfold seB; simp; omega)
        go_wp2_with fail
        go_meet
        exact ⟨by rw [HV.out, decide_eq_false (show ¬ x.sect < 0 by omega), decide_eq_false (show ¬ 2 < x.sect by omega)]; rfl, BX0.out, XG0.out, XX0.out, ZX0.out.1, ZX0.out.2⟩
    case rest =>
      obtain ⟨rfl, hb, hxg, hx, hz, hz2⟩ := hcut
      clear c0 c2 N1
      clear XX0 BX0 XG0 ZX0
      have XX0 := Lib.hid hx
      have BX0 := Lib.hid hb
      have XG0 := Lib.hid hxg
      have ZX0 := Lib.hid (And.intro hz hz2)
      clear hb hx hxg hz hz2
      obtain ⟨u2, hu2⟩ : ∃ u, (nmB x.name && seB x.sect) = u := ⟨_, rfl⟩
      have HU1 : Hid (((u2 && (tyB x.type && (bdB x.array x.type x.lo x.hi && inB x.array x.type x.init))) && (p.vars.drop (q + 1)).all vaB && stsB p.body) = R) := Lib.hid (by rw [← HU.out, ← hu2]; simp only [Bool.and_assoc])
      rw [hu2]
      clear HU hu2
      cases u2
      · have HF := Lib.hid (show R = false by rw [← HU1.out]; simp)
        go_wp2_with fail
        go_ret
        exact ⟨ret_bool HF.out.symm, BX0.out⟩
      go_upto_region 9 with (fail)
      have c1 := (cell_of XX0.out (i := 1) rfl).1
      go_cut [54] from 41 to 54 (fun s54 wx => s54 = .bool (!(tyB x.type)) ∧ Below w.heap.size w wx ∧ Box wx g 0 GC ∧ Box wx g2 0 (vC x) ∧ g < wx.heap.size ∧ g2 < wx.heap.size)
      case first =>
        by_cases t1 : x.type = 1
        · have HV := Lib.hid (show tyB x.type = true by rw [t1]; rfl)
          clear N2 k1
          go_wp2_with fail
          go_meet
          exact ⟨by rw [HV.out]; rfl, BX0.out, XG0.out, XX0.out, ZX0.out.1, ZX0.out.2⟩
        have z1 := neb t1
        by_cases t2 : x.type = 2
        · have HV := Lib.hid (show tyB x.type = true by rw [t2]; rfl)
          clear N2 k1
          go_wp2_with fail
          go_meet
          exact ⟨by rw [HV.out]; rfl, BX0.out, XG0.out, XX0.out, ZX0.out.1, ZX0.out.2⟩
        have z2 := neb t2
        obtain ⟨u, hu⟩ : ∃ u, (kindS x.type == []) = u := ⟨_, rfl⟩
        rw [hu] at k1
        have HV := Lib.hid (show tyB x.type = !u by unfold tyB; rw [z1, z2, hu]; rfl)
        clear hu
        go_wp2_with (go_at_call 20; fail)
        refine (N2.out _).mono ?_
        rintro e wy ⟨rfl, hb⟩
        have B1 := Lib.hid (BX0.out.trans (hb.mono BX0.out.size))
        have X1 := Lib.hid (XX0.out.below hb ZX0.out.2)
        have G1 := Lib.hid (XG0.out.below hb ZX0.out.1)
        have Z1 := Lib.hid (show g < wy.heap.size ∧ g2 < wy.heap.size by have := ZX0.out; have := hb.size; omega)
        clear hb XX0 XG0 BX0 ZX0 c1 N2
        have XX0 := Lib.hid X1.out
        have XG0 := Lib.hid G1.out
        have BX0 := Lib.hid B1.out
        have ZX0 := Lib.hid Z1.out
        clear X1 G1 B1 Z1
        cases u
        · skip
          go_wp2_with fail
          go_meet
          exact ⟨by rw [HV.out]; rfl, BX0.out, XG0.out, XX0.out, ZX0.out.1, ZX0.out.2⟩
        · skip
          go_wp2_with fail
          go_meet
          exact ⟨by rw [HV.out, bne, bne, z1, z2]; rfl, BX0.out, XG0.out, XX0.out, ZX0.out.1, ZX0.out.2⟩
      case rest =>
        obtain ⟨rfl, hb, hxg, hx, hz, hz2⟩ := hcut
        clear c1 N2 k1
        clear XX0 BX0 XG0 ZX0
        have XX0 := Lib.hid hx
        have BX0 := Lib.hid hb
        have XG0 := Lib.hid hxg
        have ZX0 := Lib.hid (And.intro hz hz2)
        clear hb hx hxg hz hz2
        obtain ⟨u2, hu2⟩ : ∃ u, tyB x.type = u := ⟨_, rfl⟩
        rw [hu2] at HU1 ⊢
        clear hu2
        cases u2
        · have HF := Lib.hid (show R = false by rw [← HU1.out]; simp)
          go_wp2_with fail
          go_ret
          exact ⟨ret_bool HF.out.symm, BX0.out⟩
        go_upto_region 11 with (fail)
        have c1 := (cell_of XX0.out (i := 1) rfl).1
        have c3 := (cell_of XX0.out (i := 3) rfl).1
        have c4 := (cell_of XX0.out (i := 4) rfl).1
        have c5 := (cell_of XX0.out (i := 5) rfl).1
        have c6 := (cell_of XX0.out (i := 6) rfl).1
        obtain ⟨ar, har⟩ : ∃ a, x.array = a := ⟨_, rfl⟩
        rw [har] at c3 HU1
        have HAR := Lib.hid har
        clear har
        go_cut [93] from 55 to 93 (fun s93 wx => s93 = .bool (!(bdB ar x.type x.lo x.hi)) ∧ Below w.heap.size w wx ∧ Box wx g 0 GC ∧ Box wx g2 0 (vC x) ∧ g < wx.heap.size ∧ g2 < wx.heap.size)
        case first =>
          clear c6
          cases ar
          · by_cases e1 : x.lo = 0
            rotate_left
            · have n1 : (x.lo != 0) = true := by rw [bne_iff_ne]; exact e1
              have HV := Lib.hid (show bdB false x.type x.lo x.hi = false by unfold bdB; rw [neb e1]; rfl)
              go_wp2_with fail
              go_meet
              exact ⟨by rw [HV.out]; rfl, BX0.out, XG0.out, XX0.out, ZX0.out.1, ZX0.out.2⟩
            by_cases e2 : x.hi = 0
            rotate_left
            · have n1 : (x.hi != 0) = true := by rw [bne_iff_ne]; exact e2
              have HV := Lib.hid (show bdB false x.type x.lo x.hi = false by unfold bdB; rw [neb e2]; simp)
              go_wp2_with fail
              go_meet
              exact ⟨by rw [HV.out]; rfl, BX0.out, XG0.out, XX0.out, ZX0.out.1, ZX0.out.2⟩
            · have HV := Lib.hid (show bdB false x.type x.lo x.hi = true by unfold bdB; rw [e1, e2]; rfl)
              go_wp2_with fail
              go_meet
              exact ⟨by rw [HV.out]; rfl, BX0.out, XG0.out, XX0.out, ZX0.out.1, ZX0.out.2⟩
          · by_cases e1 : 2 < x.type
            · have HV := Lib.hid (show bdB true x.type x.lo x.hi = false by simp [bdB]; omega)
              go_wp2_with fail
              go_meet
              exact ⟨by rw [HV.out]; rfl, BX0.out, XG0.out, XX0.out, ZX0.out.1, ZX0.out.2⟩
            by_cases e2 : x.lo < 0
            · have HV := Lib.hid (show bdB true x.type x.lo x.hi = false by simp [bdB]; omega)
              go_wp2_with fail
              go_meet
              exact ⟨by rw [HV.out]; rfl, BX0.out, XG0.out, XX0.out, ZX0.out.1, ZX0.out.2⟩
            by_cases e3 : x.hi < x.lo
            · have HV := Lib.hid (show bdB true x.type x.lo x.hi = false by simp [bdB]; omega)
              go_wp2_with fail
              go_meet
              exact ⟨by rw [HV.out]; rfl, BX0.out, XG0.out, XX0.out, ZX0.out.1, ZX0.out.2⟩
            by_cases e4 : 255 < x.hi
            · have HV := Lib.hid (show bdB true x.type x.lo x.hi = false by simp [bdB]; omega)
              go_wp2_with fail
              go_meet
              exact ⟨by rw [HV.out]; rfl, BX0.out, XG0.out, XX0.out, ZX0.out.1, ZX0.out.2⟩
            · have HV := Lib.hid (show bdB true x.type x.lo x.hi = true by simp [bdB]; omega)
              go_wp2_with fail
              go_meet
              exact ⟨by rw [HV.out]; rfl, BX0.out, XG0.out, XX0.out, ZX0.out.1, ZX0.out.2⟩
        case rest =>
          obtain ⟨rfl, hb, hxg, hx, hz, hz2⟩ := hcut
          clear c1 c3 c4 c5 c6
          clear XX0 BX0 XG0 ZX0
          have XX0 := Lib.hid hx
          have BX0 := Lib.hid hb
          have XG0 := Lib.hid hxg
          have ZX0 := Lib.hid (And.intro hz hz2)
          clear hb hx hxg hz hz2
          obtain ⟨u2, hu2⟩ : ∃ u, bdB ar x.type x.lo x.hi = u := ⟨_, rfl⟩
          rw [hu2] at HU1 ⊢
          clear hu2
          cases u2
          · have HF := Lib.hid (show R = false by rw [← HU1.out]; simp)
            go_wp2_with fail
            go_ret
            exact ⟨ret_bool HF.out.symm, BX0.out⟩
          go_upto_region 13 with (fail)
          have c1 := (cell_of XX0.out (i := 1) rfl).1
          have c3 := (cell_of XX0.out (i := 3) rfl).1
          have c6 := (cell_of XX0.out (i := 6) rfl).1
          rw [HAR.out] at c3
          go_cut [125] from 94 to 125 (fun s125 wx => s125 = .bool (!(inB ar x.type x.init)) ∧ Below w.heap.size w wx ∧ Box wx g 0 GC ∧ Box wx g2 0 (vC x) ∧ g < wx.heap.size ∧ g2 < wx.heap.size)
          case first =>
            by_cases e0 : x.init = 0
            · rw [e0] at c6
              have HV := Lib.hid (show inB ar x.type x.init = true by rw [e0]; unfold inB; simp)
              cases ar
              · by_cases e1 : 2 < x.type
                · have z2 : (x.type == 2) = false := neb (by omega)
                  have q2 : ¬ x.type = 2 := by omega
                  go_wp2_with fail
                  go_meet
                  exact ⟨by rw [HV.out]; rfl, BX0.out, XG0.out, XX0.out, ZX0.out.1, ZX0.out.2⟩
                by_cases e2 : x.type = 2
                · skip
                  go_wp2_with fail
                  go_meet
                  exact ⟨by rw [HV.out]; rfl, BX0.out, XG0.out, XX0.out, ZX0.out.1, ZX0.out.2⟩
                · have z2 := neb e2
                  go_wp2_with fail
                  go_meet
                  exact ⟨by rw [HV.out]; rfl, BX0.out, XG0.out, XX0.out, ZX0.out.1, ZX0.out.2⟩
              · by_cases e2 : x.type = 2
                · skip
                  go_wp2_with fail
                  go_meet
                  exact ⟨by rw [HV.out]; rfl, BX0.out, XG0.out, XX0.out, ZX0.out.1, ZX0.out.2⟩
                · have z2 := neb e2
                  go_wp2_with fail
                  go_meet
                  exact ⟨by rw [HV.out]; rfl, BX0.out, XG0.out, XX0.out, ZX0.out.1, ZX0.out.2⟩
            have n0 : (x.init != 0) = true := by rw [bne_iff_ne]; exact e0
            have z0 := neb e0
            cases ar
            rotate_left
            · have HV := Lib.hid (show inB true x.type x.init = false by unfold inB; rw [z0]; rfl)
              go_wp2_with fail
              go_meet
              exact ⟨by rw [HV.out]; rfl, BX0.out, XG0.out, XX0.out, ZX0.out.1, ZX0.out.2⟩
            by_cases e1 : 2 < x.type
            · have HV := Lib.hid (show inB false x.type x.init = false by unfold inB; rw [if_pos (Or.inr e1), z0]; rfl)
              go_wp2_with fail
              go_meet
              exact ⟨by rw [HV.out]; rfl, BX0.out, XG0.out, XX0.out, ZX0.out.1, ZX0.out.2⟩
            by_cases e2 : x.type = 2
            · by_cases e3 : x.init < 0
              · have HV := Lib.hid (show inB false x.type x.init = false by simp [inB, e2]; omega)
                go_wp2_with fail
                go_meet
                exact ⟨by rw [HV.out]; rfl, BX0.out, XG0.out, XX0.out, ZX0.out.1, ZX0.out.2⟩
              by_cases e4 : 1 < x.init
              · have HV := Lib.hid (show inB false x.type x.init = false by simp [inB, e2]; omega)
                go_wp2_with fail
                go_meet
                exact ⟨by rw [HV.out]; rfl, BX0.out, XG0.out, XX0.out, ZX0.out.1, ZX0.out.2⟩
              · have HV := Lib.hid (show inB false x.type x.init = true by simp [inB, e2]; omega)
                have e5 : ¬ x.init = -9223372036854775808 := by omega
                have z5 := neb e5
                go_wp2_with fail
                go_meet
                exact ⟨by rw [HV.out]; rfl, BX0.out, XG0.out, XX0.out, ZX0.out.1, ZX0.out.2⟩
            · have z2 := neb e2
              by_cases e5 : x.init = -9223372036854775808
              · have HV := Lib.hid (show inB false x.type x.init = false by simp [inB, e5])
                go_wp2_with fail
                go_meet
                exact ⟨by rw [HV.out]; rfl, BX0.out, XG0.out, XX0.out, ZX0.out.1, ZX0.out.2⟩
              · have HV := Lib.hid (show inB false x.type x.init = true by simp [inB, e5, e2, e1])
                have z5 := neb e5
                go_wp2_with fail
                go_meet
                exact ⟨by rw [HV.out]; rfl, BX0.out, XG0.out, XX0.out, ZX0.out.1, ZX0.out.2⟩
          case rest =>
            obtain ⟨rfl, hb, hxg, hx, hz, hz2⟩ := hcut
            clear c1 c3 c6
            clear XX0 BX0 XG0 ZX0
            have XX0 := Lib.hid hx
            have BX0 := Lib.hid hb
            have XG0 := Lib.hid hxg
            have ZX0 := Lib.hid (And.intro hz hz2)
            clear hb hx hxg hz hz2
            obtain ⟨u2, hu2⟩ : ∃ u, inB ar x.type x.init = u := ⟨_, rfl⟩
            rw [hu2] at HU1 ⊢
            clear hu2
            cases u2
            · have HF := Lib.hid (show R = false by rw [← HU1.out]; simp)
              go_wp2_with fail
              go_ret
              exact ⟨ret_bool HF.out.symm, BX0.out⟩
            have HF := Lib.hid (show ((p.vars.drop (q + 1)).all vaB && stsB p.body) = R by rw [← HU1.out]; simp)
            have w1 := HW1.out
            go_wp2_with fail
            go_roundw
            case rel => exact ⟨q + 1, HQ.out, by go_num, BX0.out, XG0.out, ZX0.out.1, HF.out⟩
            case measure => have := HQ.out; simp [intOf]; omega
end Go.Proofs.YtdefgghhkknnpaaGreatDoor.sh
