/- The document's words for expressions: the given function of them. No condition. -/
import Derived.Test.YtdefgghhkknnpaaGreatDoorShFiB
import Derived.Test.YtdefgghhkknnpaaGreatDoorU12
import Derived.Deep.CutBlock
namespace Go.Proofs.YtdefgghhkknnpaaGreatDoor.sh
open Go.ChangeShapes Go.WideShapes Go.ChangeAt Go.RowKit Go.Proofs.YtdefgghhkknnpaaGreatDoor.k Go.Proofs.YtdefgghhkknnpaaGreatDoor.rr Go.Proofs.YtdefgghhkknnpaaGreatDoor.tk Go.Proofs.YtdefgghhkknnpaaGreatDoor.tr
set_option linter.unusedVariables false
set_option linter.unusedSimpArgs false

theorem exsB_step {L : List Ex} {i : Nat} {x : Ex} (h : L[i]? = some x) : exsB (L.drop i) = (exB x && exsB (L.drop (i + 1))) := by
  obtain ⟨h1, h2⟩ := List.getElem?_eq_some_iff.1 h
  rw [List.drop_eq_getElem_cons h1, exsB, h2]
theorem mem_size {α : Type} [SizeOf α] {L : List α} {i : Nat} {x : α} (h : L[i]? = some x) : SizeOf.sizeOf x < SizeOf.sizeOf L := List.sizeOf_lt_of_mem (List.mem_of_getElem? h)
theorem emp_no (s : Str) (xs : ByteArray) (h : (⟨s.toArray⟩ : ByteArray) = xs) : xs.toList.isEmpty = (s == []) := by
  rw [← h, ByteArray.toList_eq]
  cases s <;> rfl
/-- an expression's number -/
def numB (o n : Int) : Bool := (decide (1 ≤ o) && decide (o ≤ 21)) && (decide (0 ≤ n) && decide (n ≤ mostE o))
theorem exOk_num (o n : Int) (s f : Str) (l : Nat) : exOk o n s f l = (numB o n && (nameB (namedE o) s && (nameB (fieldE o) f && l == subsE o))) := by
  unfold exOk numB
  simp [Bool.and_assoc]
theorem exOk_no {o n : Int} {s f : Str} {l : Nat} (h : numB o n = false) : exOk o n s f l = false := by rw [exOk_num, h]; rfl
theorem exOk_yes {o n : Int} {s f : Str} {l : Nat} (h : numB o n = true) : exOk o n s f l = (nameB (namedE o) s && (nameB (fieldE o) f && l == subsE o)) := by rw [exOk_num, h]; rfl
theorem numB_out {o n : Int} (h : o < 1 ∨ 21 < o) : numB o n = false := by
  unfold numB
  rw [show (decide (1 ≤ o) && decide (o ≤ 21)) = false by (rw [Bool.eq_false_iff]; simp; omega)]
  rfl
theorem numB_neg {o n : Int} (h : n < 0) : numB o n = false := by
  unfold numB
  rw [decide_eq_false (show ¬ 0 ≤ n by omega)]
  simp
theorem numB_two {n : Int} (h : 1 < n) : numB 2 n = false := by
  unfold numB mostE
  rw [if_neg (by decide), if_pos rfl, decide_eq_false (show ¬ n ≤ 1 by omega)]
  simp
theorem numB_n {o n : Int} (h1 : o ≠ 1) (h2 : o ≠ 2) (hn : n ≠ 0) : numB o n = false := by
  unfold numB mostE
  rw [if_neg h1, if_neg h2]
  by_cases h : 0 ≤ n
  · rw [decide_eq_false (show ¬ n ≤ 0 by omega)]; simp
  · rw [decide_eq_false h]; simp
theorem numB_1 {n : Int} (h : ¬ n < 0) (h2 : n ≤ 9223372036854775807) : numB 1 n = true := by
  unfold numB mostE
  rw [if_pos rfl, decide_eq_true h2, decide_eq_true (show 0 ≤ n by omega)]
  rfl
theorem numB_2 {n : Int} (h : ¬ n < 0) (h2 : ¬ 1 < n) : numB 2 n = true := by
  unfold numB mostE
  rw [if_neg (by decide), if_pos rfl, decide_eq_true (show n ≤ 1 by omega), decide_eq_true (show 0 ≤ n by omega)]
  rfl
theorem numB_8 {o : Int} (h : 8 ≤ o) (h2 : o ≤ 21) : numB o 0 = true := by
  unfold numB mostE
  rw [if_neg (by omega), if_neg (by omega), decide_eq_true h2, decide_eq_true (show 1 ≤ o by omega)]
  rfl
theorem subs_8 {o : Int} (h : 8 ≤ o) : subsE o = 2 := by unfold subsE; rw [if_neg (by omega), if_pos h]
theorem named_8 {o : Int} (h : 8 ≤ o) : namedE o = false := by unfold namedE; rw [neb (show o ≠ 3 by omega), neb (show o ≠ 4 by omega), neb (show o ≠ 5 by omega)]; rfl
theorem field_8 {o : Int} (h : 8 ≤ o) : fieldE o = false := by unfold fieldE; exact neb (show o ≠ 5 by omega)
/-- the longest text in a program's memory -/
abbrev rmx : Nat := 140737488355328
mutual
/-- what memory can hold of an expression -/
def rE : Ex → Prop
  | .mk _ n nm fd sub _ => InJ n ∧ nm.length ≤ rmx ∧ fd.length ≤ rmx ∧ rEs sub
def rEs : List Ex → Prop
  | [] => True
  | x :: l => rE x ∧ rEs l
end
theorem rEs_at : ∀ {L : List Ex} {i : Nat} {x : Ex}, rEs L → L[i]? = some x → rE x
  | y :: l, 0, x, h, e => by obtain rfl : y = x := by simpa using e
                             exact h.1
  | y :: l, i + 1, x, h, e => rEs_at (L := l) (i := i) h.2 (by simpa using e)
/-- the check of expressions up to a size -/
def FiE (N : Nat) : Prop := ∀ L : List Ex, SizeOf.sizeOf L < N → rEs L → ∀ (s : Sl) (w : World), ExL w w.heap.size s L → Calls Tryz.prog 66 #[s.v] w fun e w' => e = .returned (.bool (exsB L)) ∧ Below w.heap.size w w'
set_option maxRecDepth 100000 in
set_option maxHeartbeats 40000000 in
theorem fit_e_step {N : Nat} (IH : FiE N) : FiE (N + 1) := by
  intro L hN hre s w hx
  obtain ⟨H, hR, hE⟩ := hx
  obtain ⟨A, n0, cap⟩ := s
  have hR : Rd eC 6 w w.heap.size A n0 cap H := hR
  have hnl := hR.len_le
  have hl0 : L.length = n0 := hE.len.symm.trans hR.1
  obtain ⟨R, hRR⟩ : ∃ R, exsB L = R := ⟨_, rfl⟩
  rw [hRR]
  have HRR := Lib.hid hRR
  have R1 := Lib.hid hR
  have E1 := Lib.hid hE
  have HL := Lib.hid hl0
  have HN := Lib.hid hN
  have HI := Lib.hid IH
  have HRE := Lib.hid hre
  clear hRR hR hE hl0 hN IH hre
  simp only [Sl.v]
  go_enter Tryz.func66, Tryz.ntmps66
  go_upto_region 2 with (fail)
  go_loopw [3] (fun s3 wr => ∃ q : Nat, q ≤ n0 ∧ s3 = .int .i64 q ∧ Below w.heap.size w wr ∧ exsB (L.drop q) = R) (fun i _ => n0 - (intOf i).toNat)
  case atStart => exact ⟨0, Nat.zero_le _, rfl, Below.refl _ _, HRR.out⟩
  case round =>
    obtain ⟨q, hq, rfl, hbw, hd⟩ := hrel
    by_cases hlt : q < n0
    rotate_left
    · obtain rfl : q = n0 := by omega
      have hz : ¬ (q : Int) < q := by omega
      rw [List.drop_of_length_le (by have := HL.out; omega)] at hd
      have HF : Hid (true = R) := Lib.hid hd
      have BB := Lib.hid hbw
      clear hd hbw hlt hq
      go_wp2_with fail
      go_ret
      exact ⟨ret_bool HF.out, BB.out⟩
    have r1 : Rd eC 6 wr wr.heap.size A n0 cap H := (R1.out.below hbw).more hbw.size
    obtain ⟨b1, o1, h, rfl, hb1, hp, hc1⟩ := r1.at hlt
    obtain ⟨x, hxL, hxa⟩ := E1.out.at hp
    have hsz := mem_size hxL
    rw [exsB_step hxL] at hd
    have hrx := rEs_at HRE.out hxL
    obtain ⟨xo, xn, xs, xf, xsub, xl⟩ := x
    obtain ⟨o, n, s, f, ⟨A2, l, c⟩, ln⟩ := h
    unfold ExAt at hxa
    obtain ⟨rfl, rfl, rfl, rfl, rfl, H2, hR2, hE2⟩ := hxa
    rw [rE] at hrx
    obtain ⟨⟨hlo, hhi⟩, hr1, hr2, hr3⟩ := hrx
    have HI64 := Lib.hid hhi
    have hl : xsub.length = l := hE2.len.symm.trans hR2.1
    have hx2 : ExL w w.heap.size ⟨A2, l, c⟩ xsub := ⟨H2, hR2, hE2⟩
    simp only [Ex.mk.sizeOf_spec] at hsz
    obtain ⟨u6, hu6⟩ : ∃ u, exsB xsub = u := ⟨_, rfl⟩
    have SC := Lib.hid (show ∀ W, Below w.heap.size w W → Calls Tryz.prog 66 #[.slice A2 l c] W fun e w' => e = .returned (.bool u6) ∧ Below W.heap.size W w' from fun W hW => by
      have h := HI.out xsub (by have := HN.out; omega) hr3 ⟨A2, l, c⟩ W (hx2.below hW hW.size)
      rw [hu6] at h
      exact h)
    have HU : Hid ((exOk o n s f l && u6 && exsB (L.drop (q + 1))) = R) := Lib.hid (by rw [← hu6, ← hl]; exact hd)
    have HQ : Hid (q + 1 ≤ n0) := Lib.hid hlt
    have NA := Lib.hid (show ∀ W, Below w.heap.size w W → Calls Tryz.prog 39 #[sv s] W fun e w' => e = .returned (.bool (nmB s)) ∧ Below W.heap.size W w' from fun W _ => refname_any ⟨s.toArray⟩ W)
    have NF := Lib.hid (show ∀ W, Below w.heap.size w W → Calls Tryz.prog 39 #[sv f] W fun e w' => e = .returned (.bool (nmB f)) ∧ Below W.heap.size W w' from fun W _ => refname_any ⟨f.toArray⟩ W)
    have w1 : IntKind.i64.wrap ((q : Int) + 1) = q + 1 := by rw [IntKind.wrap_i64]; omega
    have BB := Lib.hid hbw
    have hci := Lib.hid hc1
    clear hd hu6 hbw r1 hp hb1 hc1 hxL hsz hR2 hE2 hl hx2 hq hlo hhi hr1 hr2 hr3
    go_upto_region 5 with (first | ((with_reducible refine m_loadR hci.out 44 16 ?_ ?_ ?_ ?_ ?_ ?_); rfl; rfl; rfl; rfl; kernel_rfl) | ((with_reducible refine m_new 44 4 17 ?_ ?_ ?_ (eC ⟨o, n, s, f, ⟨A2, l, c⟩, ln⟩) ?_ ?_ ?_ ?_ (eC_one _) ?_); rfl; rfl; rfl; rfl; rfl; rfl; kernel_rfl; intro wx0 hx hb hz))
    obtain ⟨g, hg⟩ : ∃ g, wr.heap.size = g := ⟨_, rfl⟩
    rw [hg] at hx hz ⊢
    have XX0 := Lib.hid hx
    have BX0 := Lib.hid (BB.out.trans (hb.mono BB.out.size))
    have ZX0 := Lib.hid (show g < wx0.heap.size by omega)
    clear hx hb hz hci BB hg
    simp only [eC, Sl.v, sv] at XX0
    unfold sv at NA NF
    have e3 := emp_no s _ rfl
    have e4 := emp_no f _ rfl
    generalize (⟨s.toArray⟩ : ByteArray) = xs at *
    generalize (⟨f.toArray⟩ : ByteArray) = xf at *
    have ⟨c0, _, c1, _, c2, _, c3, _, c4, _, _⟩ := XX0.out
    go_upto_block 2 with (fail)
    go_cut [5, 6, 7] from 18 to 78 (fun s5 s6 s7 wx => numB o n = true ∧ s5 = .int .i64 (subsE o) ∧ s6 = .bool (namedE o) ∧ s7 = .bool (fieldE o) ∧ wx0 = wx)
    case first =>
      clear NA NF SC e3 e4
      rcases (show o = 1 ∨ o = 2 ∨ o = 3 ∨ o = 4 ∨ o = 5 ∨ o = 6 ∨ o = 7 ∨ (8 ≤ o ∧ o ≤ 21) ∨ (o < 1 ∨ 21 < o) by omega) with rfl | rfl | rfl | rfl | rfl | rfl | rfl | ⟨h8, h21⟩ | hout
      rotate_right 1
      · have z1 := neb (show o ≠ 1 by omega)
        have z2 := neb (show o ≠ 2 by omega)
        have q1 : ¬ o = 1 := by omega
        have q2 : ¬ o = 2 := by omega
        have HF := Lib.hid (show R = false by rw [← HU.out, exOk_no (numB_out hout)]; simp)
        by_cases h2 : 2 < o
        · have h3 : 21 < o := by omega
          have h4 : ¬ o < 1 := by omega
          by_cases hn : n = 0
          · subst hn
            go_wp2_with fail
            go_ret
            exact ⟨ret_bool HF.out.symm, BX0.out⟩
          · have hn2 := neb hn
            go_wp2_with fail
            go_ret
            exact ⟨ret_bool HF.out.symm, BX0.out⟩
        · have h4 : o < 1 := by omega
          go_wp2_with fail
          go_ret
          exact ⟨ret_bool HF.out.symm, BX0.out⟩
      · by_cases hn : n < 0
        · have HF := Lib.hid (show R = false by rw [← HU.out, exOk_no (numB_neg hn)]; simp)
          go_wp2_with fail
          go_ret
          exact ⟨ret_bool HF.out.symm, BX0.out⟩
        go_wp2_with fail
        go_meet
        exact ⟨numB_1 (by omega) HI64.out, rfl, rfl, rfl, rfl⟩
      · by_cases hn : n < 0
        · have HF := Lib.hid (show R = false by rw [← HU.out, exOk_no (numB_neg hn)]; simp)
          go_wp2_with fail
          go_ret
          exact ⟨ret_bool HF.out.symm, BX0.out⟩
        by_cases hn1 : 1 < n
        · have HF := Lib.hid (show R = false by rw [← HU.out, exOk_no (numB_two hn1)]; simp)
          go_wp2_with fail
          go_ret
          exact ⟨ret_bool HF.out.symm, BX0.out⟩
        go_wp2_with fail
        go_meet
        exact ⟨numB_2 (by omega) (by omega), rfl, rfl, rfl, rfl⟩
      · by_cases hn : n = 0
        rotate_left
        · have hn2 := neb hn
          have HF := Lib.hid (show R = false by rw [← HU.out, exOk_no (numB_n (by decide) (by decide) hn)]; simp)
          go_wp2_with fail
          go_ret
          exact ⟨ret_bool HF.out.symm, BX0.out⟩
        subst hn
        go_wp2_with fail
        go_meet
        exact ⟨rfl, rfl, rfl, rfl, rfl⟩
      · by_cases hn : n = 0
        rotate_left
        · have hn2 := neb hn
          have HF := Lib.hid (show R = false by rw [← HU.out, exOk_no (numB_n (by decide) (by decide) hn)]; simp)
          go_wp2_with fail
          go_ret
          exact ⟨ret_bool HF.out.symm, BX0.out⟩
        subst hn
        go_wp2_with fail
        go_meet
        exact ⟨rfl, rfl, rfl, rfl, rfl⟩
      · by_cases hn : n = 0
        rotate_left
        · have hn2 := neb hn
          have HF := Lib.hid (show R = false by rw [← HU.out, exOk_no (numB_n (by decide) (by decide) hn)]; simp)
          go_wp2_with fail
          go_ret
          exact ⟨ret_bool HF.out.symm, BX0.out⟩
        subst hn
        go_wp2_with fail
        go_meet
        exact ⟨rfl, rfl, rfl, rfl, rfl⟩
      · by_cases hn : n = 0
        rotate_left
        · have hn2 := neb hn
          have HF := Lib.hid (show R = false by rw [← HU.out, exOk_no (numB_n (by decide) (by decide) hn)]; simp)
          go_wp2_with fail
          go_ret
          exact ⟨ret_bool HF.out.symm, BX0.out⟩
        subst hn
        go_wp2_with fail
        go_meet
        exact ⟨rfl, rfl, rfl, rfl, rfl⟩
      · by_cases hn : n = 0
        rotate_left
        · have hn2 := neb hn
          have HF := Lib.hid (show R = false by rw [← HU.out, exOk_no (numB_n (by decide) (by decide) hn)]; simp)
          go_wp2_with fail
          go_ret
          exact ⟨ret_bool HF.out.symm, BX0.out⟩
        subst hn
        go_wp2_with fail
        go_meet
        exact ⟨rfl, rfl, rfl, rfl, rfl⟩
      · have k1 : ¬ o = 1 := by omega
        have z1 := neb k1
        have k2 : ¬ o = 2 := by omega
        have z2 := neb k2
        have k3 : ¬ o = 3 := by omega
        have z3 := neb k3
        have k4 : ¬ o = 4 := by omega
        have z4 := neb k4
        have k5 : ¬ o = 5 := by omega
        have z5 := neb k5
        have k6 : ¬ o = 6 := by omega
        have z6 := neb k6
        have k7 : ¬ o = 7 := by omega
        have z7 := neb k7
        have y2 : (2 : Int) < o := by omega
        have y7 : (7 : Int) < o := by omega
        have y1 : ¬ o < 1 := by omega
        have y21 : ¬ (21 : Int) < o := by omega
        by_cases hn : n = 0
        rotate_left
        · have hn2 := neb hn
          have HF := Lib.hid (show R = false by rw [← HU.out, exOk_no (numB_n k1 k2 hn)]; simp)
          go_wp2_with fail
          go_ret
          exact ⟨ret_bool HF.out.symm, BX0.out⟩
        subst hn
        go_wp2_with fail
        go_meet
        exact ⟨numB_8 h8 h21, by rw [subs_8 h8]; rfl, by rw [named_8 h8], by rw [field_8 h8], rfl⟩
    case rest =>
      obtain ⟨hnum, rfl, rfl, rfl, rfl⟩ := hcut
      have HU : Hid (((nameB (namedE o) s && (nameB (fieldE o) f && l == subsE o)) && u6 && exsB (L.drop (q + 1))) = R) := Lib.hid (by rw [← HU.out, exOk_yes hnum])
      have t5 : ((l : Int) == (subsE o : Int)) = (l == subsE o) := by
        rw [Bool.eq_iff_iff, beq_iff_eq, beq_iff_eq]
        omega
      generalize namedE o = nb at *
      generalize fieldE o = fb at *
      generalize subsE o = k at *
      obtain ⟨u5, hu5⟩ : ∃ u, (l == k) = u := ⟨_, rfl⟩
      rw [hu5] at t5 HU
      clear hu5 hnum
      obtain ⟨u7, hu7⟩ : ∃ u, exsB (L.drop (q + 1)) = u := ⟨_, rfl⟩
      rw [hu7] at HU
      have HN7 := Lib.hid hu7
      clear hu7
      cases u5
      · have t6 : ¬ (l : Int) = k := by simpa using t5
        have HF := Lib.hid (show R = false by rw [← HU.out]; simp)
        go_wp2_with fail
        go_ret
        exact ⟨ret_bool HF.out.symm, BX0.out⟩
      obtain rfl : k = l := by have t6 : (l : Int) = k := (by simpa using t5); omega
      clear t5
      cases nb
      · cases fb
        · rw [nameB, if_neg (by decide)] at HU
          generalize (s == []) = u3 at *
          cases u3
          · have HF := Lib.hid (show R = false by rw [← HU.out]; simp)
            go_wp2_with fail
            go_ret
            exact ⟨ret_bool HF.out.symm, BX0.out⟩
          rw [nameB, if_neg (by decide)] at HU
          generalize (f == []) = u4 at *
          cases u4
          · have HF := Lib.hid (show R = false by rw [← HU.out]; simp)
            go_wp2_with fail
            go_ret
            exact ⟨ret_bool HF.out.symm, BX0.out⟩
          have SC1 := Lib.hid (SC.out _ BX0.out)
          clear SC
          go_wp2_with (go_at_call 66; fail)
          refine SC1.out.mono ?_
          rintro e wz ⟨rfl, hb⟩
          have BZ := Lib.hid (BX0.out.trans (hb.mono BX0.out.size))
          clear hb SC1
          cases u6
          · have HF := Lib.hid (show R = false by rw [← HU.out]; simp)
            go_wp2_with fail
            go_ret
            exact ⟨ret_bool HF.out.symm, BZ.out⟩
          · have HF := Lib.hid (show u7 = R by rw [← HU.out]; simp)
            go_wp2_with fail
            go_roundw
            case rel => exact ⟨q + 1, HQ.out, by go_num, BZ.out, HN7.out.trans HF.out⟩
            case measure => have := HQ.out; simp [intOf]; omega
        · rw [nameB, if_neg (by decide)] at HU
          generalize (s == []) = u3 at *
          cases u3
          · have HF := Lib.hid (show R = false by rw [← HU.out]; simp)
            go_wp2_with fail
            go_ret
            exact ⟨ret_bool HF.out.symm, BX0.out⟩
          rw [nameB, if_pos rfl] at HU
          generalize nmB f = u4 at *
          go_wp2_with (go_at_call 39; fail)
          refine (NF.out _ BX0.out).mono ?_
          rintro e wx1 ⟨rfl, hb⟩
          have BX1 := Lib.hid (BX0.out.trans (hb.mono BX0.out.size))
          have XX1 := Lib.hid (XX0.out.below hb (by have := ZX0.out; omega))
          have ZX1 := Lib.hid (show g < wx1.heap.size by have := ZX0.out; have := hb.size; omega)
          clear hb XX0 BX0 ZX0 c0 c1 c2 c3 c4
          have ⟨c0, _, c1, _, c2, _, c3, _, c4, _, _⟩ := XX1.out
          cases u4
          · have HF := Lib.hid (show R = false by rw [← HU.out]; simp)
            go_wp2_with fail
            go_ret
            exact ⟨ret_bool HF.out.symm, BX1.out⟩
          have SC1 := Lib.hid (SC.out _ BX1.out)
          clear SC
          go_wp2_with (go_at_call 66; fail)
          refine SC1.out.mono ?_
          rintro e wz ⟨rfl, hb⟩
          have BZ := Lib.hid (BX1.out.trans (hb.mono BX1.out.size))
          clear hb SC1
          cases u6
          · have HF := Lib.hid (show R = false by rw [← HU.out]; simp)
            go_wp2_with fail
            go_ret
            exact ⟨ret_bool HF.out.symm, BZ.out⟩
          · have HF := Lib.hid (show u7 = R by rw [← HU.out]; simp)
            go_wp2_with fail
            go_roundw
            case rel => exact ⟨q + 1, HQ.out, by go_num, BZ.out, HN7.out.trans HF.out⟩
            case measure => have := HQ.out; simp [intOf]; omega
      · cases fb
        · rw [nameB, if_pos rfl] at HU
          generalize nmB s = u3 at *
          go_wp2_with (go_at_call 39; fail)
          refine (NA.out _ BX0.out).mono ?_
          rintro e wx1 ⟨rfl, hb⟩
          have BX1 := Lib.hid (BX0.out.trans (hb.mono BX0.out.size))
          have XX1 := Lib.hid (XX0.out.below hb (by have := ZX0.out; omega))
          have ZX1 := Lib.hid (show g < wx1.heap.size by have := ZX0.out; have := hb.size; omega)
          clear hb XX0 BX0 ZX0 c0 c1 c2 c3 c4
          have ⟨c0, _, c1, _, c2, _, c3, _, c4, _, _⟩ := XX1.out
          cases u3
          · have HF := Lib.hid (show R = false by rw [← HU.out]; simp)
            go_wp2_with fail
            go_ret
            exact ⟨ret_bool HF.out.symm, BX1.out⟩
          rw [nameB, if_neg (by decide)] at HU
          generalize (f == []) = u4 at *
          cases u4
          · have HF := Lib.hid (show R = false by rw [← HU.out]; simp)
            go_wp2_with fail
            go_ret
            exact ⟨ret_bool HF.out.symm, BX1.out⟩
          have SC1 := Lib.hid (SC.out _ BX1.out)
          clear SC
          go_wp2_with (go_at_call 66; fail)
          refine SC1.out.mono ?_
          rintro e wz ⟨rfl, hb⟩
          have BZ := Lib.hid (BX1.out.trans (hb.mono BX1.out.size))
          clear hb SC1
          cases u6
          · have HF := Lib.hid (show R = false by rw [← HU.out]; simp)
            go_wp2_with fail
            go_ret
            exact ⟨ret_bool HF.out.symm, BZ.out⟩
          · have HF := Lib.hid (show u7 = R by rw [← HU.out]; simp)
            go_wp2_with fail
            go_roundw
            case rel => exact ⟨q + 1, HQ.out, by go_num, BZ.out, HN7.out.trans HF.out⟩
            case measure => have := HQ.out; simp [intOf]; omega
        · rw [nameB, if_pos rfl] at HU
          generalize nmB s = u3 at *
          go_wp2_with (go_at_call 39; fail)
          refine (NA.out _ BX0.out).mono ?_
          rintro e wx1 ⟨rfl, hb⟩
          have BX1 := Lib.hid (BX0.out.trans (hb.mono BX0.out.size))
          have XX1 := Lib.hid (XX0.out.below hb (by have := ZX0.out; omega))
          have ZX1 := Lib.hid (show g < wx1.heap.size by have := ZX0.out; have := hb.size; omega)
          clear hb XX0 BX0 ZX0 c0 c1 c2 c3 c4
          have ⟨c0, _, c1, _, c2, _, c3, _, c4, _, _⟩ := XX1.out
          cases u3
          · have HF := Lib.hid (show R = false by rw [← HU.out]; simp)
            go_wp2_with fail
            go_ret
            exact ⟨ret_bool HF.out.symm, BX1.out⟩
          rw [nameB, if_pos rfl] at HU
          generalize nmB f = u4 at *
          go_wp2_with (go_at_call 39; fail)
          refine (NF.out _ BX1.out).mono ?_
          rintro e wx2 ⟨rfl, hb⟩
          have BX2 := Lib.hid (BX1.out.trans (hb.mono BX1.out.size))
          have XX2 := Lib.hid (XX1.out.below hb (by have := ZX1.out; omega))
          have ZX2 := Lib.hid (show g < wx2.heap.size by have := ZX1.out; have := hb.size; omega)
          clear hb XX1 BX1 ZX1 c0 c1 c2 c3 c4
          have ⟨c0, _, c1, _, c2, _, c3, _, c4, _, _⟩ := XX2.out
          cases u4
          · have HF := Lib.hid (show R = false by rw [← HU.out]; simp)
            go_wp2_with fail
            go_ret
            exact ⟨ret_bool HF.out.symm, BX2.out⟩
          have SC1 := Lib.hid (SC.out _ BX2.out)
          clear SC
          go_wp2_with (go_at_call 66; fail)
          refine SC1.out.mono ?_
          rintro e wz ⟨rfl, hb⟩
          have BZ := Lib.hid (BX2.out.trans (hb.mono BX2.out.size))
          clear hb SC1
          cases u6
          · have HF := Lib.hid (show R = false by rw [← HU.out]; simp)
            go_wp2_with fail
            go_ret
            exact ⟨ret_bool HF.out.symm, BZ.out⟩
          · have HF := Lib.hid (show u7 = R by rw [← HU.out]; simp)
            go_wp2_with fail
            go_roundw
            case rel => exact ⟨q + 1, HQ.out, by go_num, BZ.out, HN7.out.trans HF.out⟩
            case measure => have := HQ.out; simp [intOf]; omega
theorem fit_e_all : ∀ N, FiE N
  | 0 => fun _ h => absurd h (by omega)
  | N + 1 => fit_e_step (fit_e_all N)
theorem reffit_any {L : List Ex} {s : Sl} {w : World} (hr : rEs L) (hx : ExL w w.heap.size s L) : Calls Tryz.prog 66 #[s.v] w fun e w' => e = .returned (.bool (exsB L)) ∧ Below w.heap.size w w' :=
  fit_e_all (SizeOf.sizeOf L + 1) L (by omega) hr s w hx
end Go.Proofs.YtdefgghhkknnpaaGreatDoor.sh
