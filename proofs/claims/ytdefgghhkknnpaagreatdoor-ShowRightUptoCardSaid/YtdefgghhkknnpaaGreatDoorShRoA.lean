/- The given function's rows of statements, over what a statement gives. Conditions: statements such as a text could give; their text has at most 2^47 bytes. -/
import Derived.Test.YtdefgghhkknnpaaGreatDoorV07
import Derived.Test.YtdefgghhkknnpaaGreatDoorShFiE
import Derived.Test.YtdefgghhkknnpaaGreatDoorV06
namespace Go.Proofs.YtdefgghhkknnpaaGreatDoor.sh
open Go.ChangeShapes Go.WideShapes Go.ChangeAt Go.RowKit Go.Proofs.YtdefgghhkknnpaaGreatDoor Go.Proofs.YtdefgghhkknnpaaGreatDoor.k Go.Proofs.YtdefgghhkknnpaaGreatDoor.rr Go.Proofs.YtdefgghhkknnpaaGreatDoor.tk Go.Proofs.YtdefgghhkknnpaaGreatDoor.tr
set_option linter.unusedVariables false
set_option linter.unusedSimpArgs false

theorem ex_nth {w : World} {B : Nat} {s : Sl} {L : List Ex} (h : ExL w B s L) {q : Nat} {y : Ex} (hq : L[q]? = some y) : ∃ b o h0, s.A = some ⟨b, o, none⟩ ∧ b < B ∧ w.rangeAt b (o + q * 6) (eC h0) ∧ ExAt w B y h0 ∧ q < s.l := by
  obtain ⟨H, h1, h2⟩ := h
  have hl : H.length = s.l := h1.1
  have hL := h2.len
  have hlt : q < s.l := by have := (List.getElem?_eq_some_iff.1 hq).1; omega
  obtain ⟨b, o, h0, hA, hb, hp, hc⟩ := Rd.at h1 hlt
  obtain ⟨y', hy, hy2⟩ := h2.at hp
  obtain rfl : y = y' := by rw [hq] at hy; injection hy
  exact ⟨b, o, h0, hA, hb, hc, hy2, hlt⟩
theorem blk_nth {w : World} {B : Nat} {s : Sl} {L : List (List St)} {H : List Sl} (h1 : RS slC 1 w B s H) (h2 : BlksAt w B L H) {q : Nat} {y : List St} (hq : L[q]? = some y) : ∃ b o h0, s.A = some ⟨b, o, none⟩ ∧ b < B ∧ w.cell? ⟨b, o + q, none⟩ = some (Sl.v h0) ∧ StL w B h0 y ∧ q < s.l := by
  have hl : H.length = s.l := h1.1
  have hL := h2.len
  have hlt : q < s.l := by have := (List.getElem?_eq_some_iff.1 hq).1; omega
  obtain ⟨b, o, h0, hA, hb, hp, hc⟩ := Rd.at h1 hlt
  obtain ⟨y', hy, hy2⟩ := h2.at hp
  obtain rfl : y = y' := by rw [hq] at hy; injection hy
  have a0 := hc 0 _ rfl
  rw [Nat.add_zero, Nat.mul_one] at a0
  exact ⟨b, o, h0, hA, hb, a0, hy2, hlt⟩
theorem lab_nth {w : World} {B : Nat} {s : Sl} {L : List (List Int)} {H : List Sl} (h1 : RS slC 1 w B s H) (h2 : LabsAt w B L H) {q : Nat} {y : List Int} (hq : L[q]? = some y) : ∃ b o h0, s.A = some ⟨b, o, none⟩ ∧ b < B ∧ w.cell? ⟨b, o + q, none⟩ = some (Sl.v h0) ∧ RS iC 1 w B h0 y ∧ q < s.l := by
  have hl : H.length = s.l := h1.1
  have hL := h2.len
  have hlt : q < s.l := by have := (List.getElem?_eq_some_iff.1 hq).1; omega
  obtain ⟨b, o, h0, hA, hb, hp, hc⟩ := Rd.at h1 hlt
  obtain ⟨y', hy, hy2⟩ := h2.at hp
  obtain rfl : y = y' := by rw [hq] at hy; injection hy
  have a0 := hc 0 _ rfl
  rw [Nat.add_zero, Nat.mul_one] at a0
  exact ⟨b, o, h0, hA, hb, a0, hy2, hlt⟩
theorem str_nth {w : World} {B : Nat} {s : Sl} {L : List Str} (h1 : RS tC1 1 w B s L) {q : Nat} {y : Str} (hq : L[q]? = some y) : ∃ b o, s.A = some ⟨b, o, none⟩ ∧ b < B ∧ w.cell? ⟨b, o + q, none⟩ = some (sv y) ∧ q < s.l := by
  have hl : L.length = s.l := h1.1
  have hlt : q < s.l := by have := (List.getElem?_eq_some_iff.1 hq).1; omega
  obtain ⟨b, o, h0, hA, hb, hp, hc⟩ := Rd.at h1 hlt
  obtain rfl : y = h0 := by rw [hq] at hp; injection hp
  have a0 := hc 0 _ rfl
  rw [Nat.add_zero, Nat.mul_one] at a0
  exact ⟨b, o, hA, hb, a0, hlt⟩
/-- a statement's row up to a size; statements' rows -/
def RoS (N : Nat) : Prop := ∀ x : St, SizeOf.sizeOf x < N → rS x → inS x → stB x = true → (stS x).length ≤ lim → ∀ (h : SH) (w : World), StAt w w.heap.size x h → Calls Tryz.prog 43 #[.agg (sC h).toArray] w fun e w' => e = .returned (sv (stS x)) ∧ Below w.heap.size w w'
def RoL (N : Nat) : Prop := ∀ L : List St, SizeOf.sizeOf L ≤ N → rSs L → inSs L → stsB L = true → (stsS L).length ≤ lim → ∀ (s : Sl) (w : World), StL w w.heap.size s L → Calls Tryz.prog 22 #[s.v] w fun e w' => e = .returned (sv (stsS L)) ∧ Below w.heap.size w w'
set_option maxRecDepth 100000 in
set_option maxHeartbeats 8000000 in
theorem rows_of {N : Nat} (IH : RoS N) : RoL N := by
  intro L hN hr hi hb hl s w hx
  obtain ⟨H, hR, hE⟩ := hx
  obtain ⟨A, n0, cap⟩ := s
  have hR : Rd sC 19 w w.heap.size A n0 cap H := hR
  have hnl := hR.len_le
  have hl0 : L.length = n0 := hE.len.symm.trans hR.1
  obtain ⟨T, hT⟩ : ∃ T, stsS L = T := ⟨_, rfl⟩
  rw [hT] at hl ⊢
  have HT := Lib.hid hT
  have R1 := Lib.hid hR
  have E1 := Lib.hid hE
  have HL := Lib.hid (And.intro hl0 hl)
  have SX := Lib.hid fun (q : Nat) (x : St) (hq : L[q]? = some x) (hl : (stS x).length ≤ lim) => IH x (by have := mem_size hq; omega) (rSs_at hr hq) (inSs_at hi hq) (stsB_at' hb hq) hl
  clear hT hR hE hl0 hN IH hr hi hb hl
  simp only [Sl.v, sv]
  go_enter Tryz.func22, Tryz.ntmps22
  go_upto_region 3 with (fail)
  go_loopw [3, 4] (fun s3 s4 wr => ∃ (q : Nat) (t1 : Str), q ≤ n0 ∧ s3 = .string ⟨t1.toArray⟩ ∧ s4 = .int .i64 q ∧ Below w.heap.size w wr ∧ t1 ++ stsS (L.drop q) = T) (fun _ i _ => n0 - (intOf i).toNat)
  case atStart => exact ⟨0, [], Nat.zero_le _, rfl, rfl, Below.refl _ _, HT.out⟩
  case round =>
    obtain ⟨q, t1, hq, rfl, rfl, hbw, ht⟩ := hrel
    by_cases hlt : q < n0
    rotate_left
    · obtain rfl : q = n0 := by omega
      have hz : ¬ (q : Int) < q := by omega
      rw [List.drop_of_length_le (by have := HL.out.1; omega), stsS, List.append_nil] at ht
      subst ht
      have BB := Lib.hid hbw
      clear hbw hlt hq
      go_wp2_with fail
      go_ret
      exact ⟨rfl, BB.out⟩
    have r1 : Rd sC 19 wr wr.heap.size A n0 cap H := (R1.out.below hbw).more hbw.size
    obtain ⟨b1, o1, h, rfl, hb1, hp, hc1⟩ := r1.at hlt
    obtain ⟨x, hxL, hxa⟩ := E1.out.at hp
    rw [drop_at hxL, stsS, ← List.append_assoc] at ht
    have hla := congrArg List.length ht
    simp only [List.length_append] at hla
    have hlim := HL.out.2
    have SC := Lib.hid (SX.out q x hxL (by unfold lim at hlim ⊢; omega) h wr (hxa.below hbw hbw.size))
    unfold sv at SC
    have HTX : Hid ((⟨t1.toArray⟩ : ByteArray) ++ ⟨(stS x).toArray⟩ = ⟨(t1 ++ stS x).toArray⟩) := Lib.hid (cat_sv _ _)
    have za : (⟨t1.toArray⟩ : ByteArray).size = t1.length := sz_sv _
    have zb : (⟨(stS x).toArray⟩ : ByteArray).size = (stS x).length := sz_sv _
    generalize (⟨t1.toArray⟩ : ByteArray) = xt at *
    generalize (⟨(stS x).toArray⟩ : ByteArray) = xa at *
    have q1 : ¬ 9223372036854775807 < xt.size + xa.size := by unfold lim at hlim; omega
    have w1 := nat_step q (by omega)
    have hlt' : (q : Int) < n0 := by omega
    have HLT := Lib.hid hlt
    have BB := Lib.hid hbw
    have hci := Lib.hid hc1
    have HTT := Lib.hid ht
    clear hbw hc1 hxL hxa hp hb1 r1 ht hla hlim za zb hq
    go_wp2_with (first | ((with_reducible refine m_loadR hci.out 49 14 ?_ ?_ ?_ ?_ ?_ ?_); rfl; rfl; rfl; rfl; kernel_rfl) | (go_at_call 43; fail))
    refine SC.out.mono ?_
    rintro e w2 ⟨rfl, hb⟩
    have B2 := Lib.hid (BB.out.trans (hb.mono BB.out.size))
    clear hb SC BB hci
    go_wp2_with fail
    go_roundw
    case rel => exact ⟨q + 1, t1 ++ stS x, HLT.out, by rw [HTX.out], by go_num, B2.out, HTT.out⟩
    case measure => have := HLT.out; simp [intOf]; omega
end Go.Proofs.YtdefgghhkknnpaaGreatDoor.sh
