/- The landed writer's blocks, over what the statements give. Conditions: the statements are such that a text could give; what the writer holds stays within 2^47 bytes. -/
import Derived.Test.YtdefgghhkknnpaaGreatDoorV04
import Derived.Test.YtdefgghhkknnpaaGreatDoorV05
namespace Go.Proofs.YtdefgghhkknnpaaGreatDoor.sh
open Go.ChangeShapes Go.WideShapes Go.ChangeAt Go.RowKit Go.Proofs.YtdefgghhkknnpaaGreatDoor Go.Proofs.YtdefgghhkknnpaaGreatDoor.k Go.Proofs.YtdefgghhkknnpaaGreatDoor.rr Go.Proofs.YtdefgghhkknnpaaGreatDoor.tk Go.Proofs.YtdefgghhkknnpaaGreatDoor.tr
set_option linter.unusedVariables false
set_option linter.unusedSimpArgs false

mutual
/-- the labels' numbers are numbers of 64 bits -/
def inS : St → Prop
  | .mk _ _ _ _ _ labels _ blocks _ => (∀ l ∈ labels, ∀ n ∈ l, InI n) ∧ inBs blocks
def inSs : List St → Prop
  | [] => True
  | x :: l => inS x ∧ inSs l
def inBs : List (List St) → Prop
  | [] => True
  | x :: l => inSs x ∧ inBs l
end
theorem inSs_at : ∀ {L : List St} {i : Nat} {x : St}, inSs L → L[i]? = some x → inS x
  | y :: l, 0, x, h, e => by obtain rfl : y = x := by simpa using e
                             exact h.1
  | y :: l, i + 1, x, h, e => inSs_at (L := l) (i := i) h.2 (by simpa using e)
theorem inBs_at : ∀ {L : List (List St)} {i : Nat} {x : List St}, inBs L → L[i]? = some x → inSs x
  | y :: l, 0, x, h, e => by obtain rfl : y = x := by simpa using e
                             exact h.1
  | y :: l, i + 1, x, h, e => inBs_at (L := l) (i := i) h.2 (by simpa using e)
theorem stsB_at' : ∀ {L : List St} {i : Nat} {x : St}, stsB L = true → L[i]? = some x → stB x = true
  | y :: l, 0, x, h, e => by
    obtain rfl : y = x := by simpa using e
    rw [stsB, Bool.and_eq_true] at h
    exact h.1
  | y :: l, i + 1, x, h, e => by
    rw [stsB, Bool.and_eq_true] at h
    exact stsB_at' (L := l) (i := i) h.2 (by simpa using e)
theorem blksB_at' : ∀ {L : List (List St)} {i : Nat} {x : List St}, blksB L = true → L[i]? = some x → stsB x = true
  | y :: l, 0, x, h, e => by
    obtain rfl : y = x := by simpa using e
    rw [blksB, Bool.and_eq_true] at h
    exact h.1
  | y :: l, i + 1, x, h, e => by
    rw [blksB, Bool.and_eq_true] at h
    exact blksB_at' (L := l) (i := i) h.2 (by simpa using e)
theorem exsB_at' : ∀ {L : List Ex} {i : Nat} {x : Ex}, exsB L = true → L[i]? = some x → exB x = true
  | y :: l, 0, x, h, e => by
    obtain rfl : y = x := by simpa using e
    rw [exsB, Bool.and_eq_true] at h
    exact h.1
  | y :: l, i + 1, x, h, e => by
    rw [exsB, Bool.and_eq_true] at h
    exact exsB_at' (L := l) (i := i) h.2 (by simpa using e)
theorem drop_at {α : Type} {L : List α} {q : Nat} {x : α} (h : L[q]? = some x) : L.drop q = x :: L.drop (q + 1) := by
  obtain ⟨a1, a2⟩ := List.getElem?_eq_some_iff.1 h
  rw [List.drop_eq_getElem_cons a1, a2]
/-- the writer's statements up to a size, its blocks -/
def WrS (N : Nat) : Prop := ∀ x : St, SizeOf.sizeOf x < N → stB x = true → inS x → ∀ (h : SH) (B g : Nat) (l : Str) (w : World), Wx B g l w → StAt w B x h → l.length + (stS x).length ≤ lim →
  Calls Tryz.prog 63 #[.pointer (some ⟨g, 0, none⟩), .agg (sC h).toArray] w (Put B g l (stS x) w)
def WrB (N : Nat) : Prop := ∀ L : List St, SizeOf.sizeOf L < N → stsB L = true → inSs L → ∀ (s : Sl) (B g : Nat) (l : Str) (w : World), Wx B g l w → StL w B s L → l.length + (stsS L).length ≤ lim →
  Calls Tryz.prog 38 #[.pointer (some ⟨g, 0, none⟩), s.v] w (Put B g l (stsS L) w)
set_option maxRecDepth 100000 in
set_option maxHeartbeats 4000000 in
theorem block_step {N : Nat} (IH : WrS N) : WrB (N + 1) := by
  intro L hN hb hi ⟨A, n, c⟩ B g l w hK hS hlen
  obtain ⟨H, hR, hE⟩ := hS
  have hR : Rd sC 19 w B A n c H := hR
  have hn : H.length = n := hR.1
  have hnl := hR.len_le
  obtain ⟨T, hT⟩ : ∃ T, stsS L = T := ⟨_, rfl⟩
  rw [hT] at hlen ⊢
  have ST := Lib.hid fun (q : Nat) (h : SH) (hq : H[q]? = some h) => hE.at hq
  have CX := Lib.hid fun (x : St) (q : Nat) (hx : L[q]? = some x) => IH x (by have := at_size hx; omega) (stsB_at' hb hx) (inSs_at hi hx)
  have HT := Lib.hid hT
  have HL := Lib.hid hlen
  have HR := Lib.hid hR
  have HE := Lib.hid hE
  have HN := Lib.hid (And.intro hn (And.intro hnl hE.len))
  have K0 := Lib.hid hK
  clear hR hlen hi hn hK hT hE hb hN IH
  simp only [Sl.v]
  go_enter Tryz.func38, Tryz.ntmps38
  go_upto_region 1 with (fail)
  go_loopw [8] (fun s8 wr => ∃ (q : Nat) (t1 : Str), q ≤ n ∧ s8 = .int .i64 q ∧ t1 ++ stsS (L.drop q) = T ∧ Wx B g (l ++ t1) wr ∧ Fr B g w wr) (fun i _ => n - (intOf i).toNat)
  case atStart => exact ⟨0, [], Nat.zero_le _, rfl, by rw [List.drop_zero]; exact HT.out, by rw [List.append_nil]; exact K0.out, Fr.refl _ _ _⟩
  case round =>
    obtain ⟨q, t1, hq, rfl, ht, hk, hf⟩ := hrel
    by_cases hlt : q < n
    rotate_left
    · obtain rfl : q = n := by omega
      have hz : ¬ (q : Int) < q := by omega
      rw [List.drop_of_length_le (by have := HN.out; omega), stsS, List.append_nil] at ht
      subst ht
      have K9 := Lib.hid hk
      have F9 := Lib.hid hf
      clear hk hf
      go_wp2_with fail
      go_end0
      exact ⟨rfl, K9.out, F9.out⟩
    have r1 : Rd sC 19 wr B A n c H := HR.out.below hf.1
    obtain ⟨b1, o1, h, rfl, hb1, hp, hc1⟩ := r1.at hlt
    obtain ⟨x, hx, hxa⟩ := ST.out q h hp
    rw [drop_at hx, stsS] at ht
    have hlx : (l ++ t1).length + (stS x).length ≤ lim := by
      have h1 := HL.out
      rw [← ht] at h1
      simp only [List.length_append] at h1 ⊢
      omega
    have ht2 : (t1 ++ stS x) ++ stsS (L.drop (q + 1)) = T := by rw [List.append_assoc]; exact ht
    have w1 := nat_step q (by omega)
    have hci := Lib.hid hc1
    have KK := Lib.hid hk
    have FF := Lib.hid hf
    have XA := Lib.hid hxa
    have HX := Lib.hid hx
    have HT2 := Lib.hid ht2
    have HLX := Lib.hid hlx
    have LT := Lib.hid hlt
    clear hc1 hk hf hxa hx ht ht2 hlx r1 hp hb1
    go_upto_region 3 with (first | ((with_reducible refine m_loadR hci.out 49 10 ?_ ?_ ?_ ?_ ?_ ?_); rfl; rfl; rfl; rfl; kernel_rfl) | ((with_reducible refine m_new 49 5 11 ?_ ?_ ?_ (sC h) ?_ ?_ ?_ ?_ (sC_one _) ?_); rfl; rfl; rfl; rfl; rfl; rfl; kernel_rfl; intro w4 hx hb hz))
    have X4 := Lib.hid hx
    have K4 := Lib.hid (KK.out.below hb)
    have F4 := Lib.hid (FF.out.trans (Fr.of hb KK.out.le))
    clear hx hb hz hci KK FF hlt
    go_wp2_with (first | ((with_reducible refine m_load X4.out 49 5 ?_ ?_ ?_ ?_ ?_ ?_); rfl; rfl; rfl; rfl; kernel_rfl) | (go_at_call 63; fail))
    refine (CX.out x q HX.out h B g (l ++ t1) w4 K4.out (XA.out.below F4.out.1 (Nat.le_refl _)) HLX.out).mono ?_
    rintro e w5 ⟨rfl, k9, f9⟩
    rw [List.append_assoc] at k9
    have K5 := Lib.hid k9
    have F5 := Lib.hid (F4.out.trans f9)
    clear k9 f9 K4 F4 X4
    go_wp2_with fail
    go_roundw
    case rel => exact ⟨q + 1, t1 ++ stS x, by have := LT.out; omega, by go_num, HT2.out, K5.out, F5.out⟩
    case measure => have := LT.out; simp [intOf]; omega
/-- what is asked of a block -/
def BlkC (x : List St) : Prop := ∀ (s : Sl) (B g : Nat) (l : Str) (w : World), Wx B g l w → StL w B s x → l.length + (stsS x).length ≤ lim → Calls Tryz.prog 38 #[.pointer (some ⟨g, 0, none⟩), s.v] w (Put B g l (stsS x) w)
set_option maxRecDepth 100000 in
set_option maxHeartbeats 4000000 in
/-- the ELSE parts -/
theorem else_any {L : List (List St)} {s : Sl} {H : List Sl} {B g : Nat} {l : Str} {w : World} (hCX : ∀ (x : List St) (q : Nat), L[q]? = some x → BlkC x) (hK : Wx B g l w) (hR : RS slC 1 w B s H) (hST : ∀ (q : Nat) (h : Sl), H[q]? = some h → ∃ x, L[q]? = some x ∧ StL w B h x) (hLH : H.length = L.length) (hlen : l.length + (elseT (blksS L)).length ≤ lim) :
    Calls Tryz.prog 128 #[.pointer (some ⟨g, 0, none⟩), s.v] w (Put B g l (elseT (blksS L)) w) := by
  obtain ⟨A, n, c⟩ := s
  have hR : Rd slC 1 w B A n c H := hR
  have hn : H.length = n := hR.1
  have hnl := hR.len_le
  obtain ⟨T, hT⟩ : ∃ T, elseT (blksS L) = T := ⟨_, rfl⟩
  rw [hT] at hlen ⊢
  have ST := Lib.hid hST
  have CX := Lib.hid hCX
  have HT := Lib.hid hT
  have HL := Lib.hid hlen
  have HR := Lib.hid hR
  have HN := Lib.hid (And.intro hn (And.intro hnl hLH))
  have K0 := Lib.hid hK
  clear hR hlen hn hK hT hST hCX
  simp only [Sl.v]
  go_enter Tryz.func128, Tryz.ntmps128
  go_upto_region 1 with (fail)
  go_loopw [8] (fun s8 wr => ∃ (q : Nat) (t1 : Str), q ≤ n ∧ s8 = .int .i64 q ∧ t1 ++ elseT (blksS (L.drop q)) = T ∧ Wx B g (l ++ t1) wr ∧ Fr B g w wr) (fun i _ => n - (intOf i).toNat)
  case atStart => exact ⟨0, [], Nat.zero_le _, rfl, by rw [List.drop_zero]; exact HT.out, by rw [List.append_nil]; exact K0.out, Fr.refl _ _ _⟩
  case round =>
    obtain ⟨q, t1, hq, rfl, ht, hk, hf⟩ := hrel
    by_cases hlt : q < n
    rotate_left
    · obtain rfl : q = n := by omega
      have hz : ¬ (q : Int) < q := by omega
      rw [List.drop_of_length_le (by have := HN.out; omega), blksS, elseT, List.append_nil] at ht
      subst ht
      have K9 := Lib.hid hk
      have F9 := Lib.hid hf
      clear hk hf
      go_wp2_with fail
      go_end0
      exact ⟨rfl, K9.out, F9.out⟩
    have r1 : Rd slC 1 wr B A n c H := HR.out.below hf.1
    obtain ⟨b1, o1, h, rfl, hb1, hp, hc1⟩ := r1.at hlt
    obtain ⟨x, hx, hxa⟩ := ST.out q h hp
    rw [drop_at hx, blksS, elseT] at ht
    have ht2 : (t1 ++ ([69, 76, 83, 69, 10] ++ stsS x)) ++ elseT (blksS (L.drop (q + 1))) = T := by rw [List.append_assoc]; exact ht
    have hlx : (l ++ t1).length + 5 + (stsS x).length ≤ lim := by
      have h1 := HL.out
      rw [← ht2] at h1
      simp only [List.length_append, List.length_cons, List.length_nil] at h1 ⊢
      omega
    have w1 := nat_step q (by omega)
    have a0 := hc1 0 _ rfl
    rw [Nat.add_zero, Nat.mul_one] at a0
    have P1 := Lib.hid (put_new [[69, 76, 83, 69, 10]] (t := [69, 76, 83, 69, 10]) rfl hk (by decide) (by simp only [List.length_cons, List.length_nil]; omega))
    have KK := Lib.hid hk
    have FF := Lib.hid hf
    have XA := Lib.hid hxa
    have HX := Lib.hid hx
    have HT2 := Lib.hid ht2
    have HLX := Lib.hid hlx
    have LT := Lib.hid hlt
    unfold Sl.v at a0
    clear hc1 hk hf hxa hx ht ht2 hlx r1 hp hb1
    go_wp2_with (go_at_call 35; fail)
    refine P1.out.mono ?_
    rintro e w4 ⟨rfl, k9, f9⟩
    have K4 := Lib.hid k9
    have F4 := Lib.hid (FF.out.trans f9)
    clear k9 f9 KK FF a0
    have C2 := Lib.hid (CX.out x q HX.out h B g (l ++ t1 ++ [69, 76, 83, 69, 10]) w4 K4.out (XA.out.below F4.out.1 (Nat.le_refl _)) (by have h9 := HLX.out; simp only [List.length_append, List.length_cons, List.length_nil] at h9 ⊢; omega))
    simp only [Sl.v] at C2
    go_wp2_with (go_at_call 38; fail)
    refine C2.out.mono ?_
    rintro e w5 ⟨rfl, k9, f9⟩
    rw [List.append_assoc, List.append_assoc] at k9
    have K5 := Lib.hid k9
    have F5 := Lib.hid (F4.out.trans f9)
    clear k9 f9 K4 F4 C2
    go_wp2_with fail
    go_roundw
    case rel => exact ⟨q + 1, t1 ++ ([69, 76, 83, 69, 10] ++ stsS x), by have := LT.out; omega, by go_num, HT2.out, K5.out, F5.out⟩
    case measure => have := LT.out; simp [intOf]; omega
end Go.Proofs.YtdefgghhkknnpaaGreatDoor.sh

/- The landed writer's choices, cases, counts and calls, over what the blocks give. Conditions: the statements are such that a text could give; what the writer holds stays within 2^47 bytes. -/
namespace Go.Proofs.YtdefgghhkknnpaaGreatDoor.sh
open Go.ChangeShapes Go.WideShapes Go.ChangeAt Go.RowKit Go.Proofs.YtdefgghhkknnpaaGreatDoor Go.Proofs.YtdefgghhkknnpaaGreatDoor.k Go.Proofs.YtdefgghhkknnpaaGreatDoor.rr Go.Proofs.YtdefgghhkknnpaaGreatDoor.tk Go.Proofs.YtdefgghhkknnpaaGreatDoor.tr
set_option linter.unusedVariables false
set_option linter.unusedSimpArgs false

theorem cut_row {α : Type} {enc : α → List Value} {z : Nat} {w : World} {B : Nat} {A : Option Addr} {n cap : Nat} {L : List α} (h : Rd enc z w B A n cap L) (j : Nat) (hj : j ≤ n) :
    ∃ A2 c2, sliced A j n cap z = .slice A2 (n - j) c2 ∧ Rd enc z w B A2 (n - j) c2 (L.drop j) := by
  have hl := h.1
  have hc := h.2.1
  have hm := h.2.2.1
  refine ⟨_, _, rfl, ?_⟩
  refine ⟨by rw [List.length_drop]; omega, by omega, by omega, fun e => ?_, fun hp => ?_⟩
  · cases A with
    | none => have := h.2.2.2.1 rfl; omega
    | some a =>
      by_cases hcj : cap = j
      · omega
      · rw [if_neg hcj] at e; cases e
  · obtain ⟨b, off, rfl, hb, hx⟩ := h.2.2.2.2 (by omega)
    refine ⟨b, off + j * z, ?_, hb, fun i x hi => ?_⟩
    · rw [if_neg (show ¬ cap = j by omega)]
      simp only [Option.map_some]
      unfold Addr.add
      by_cases h0 : j * z = 0
      · rw [if_pos h0, h0, Nat.add_zero]
      · rw [if_neg h0]
    · rw [List.getElem?_drop] at hi
      have := hx (j + i) x hi
      rwa [Nat.add_mul, ← Nat.add_assoc] at this
theorem exs_at {L : List Ex} {q : Nat} {x : Ex} (h : L[q]? = some x) : exsS (L.drop q) = exS x :: exsS (L.drop (q + 1)) := by rw [drop_at h, exsS]
theorem blks_at {L : List (List St)} {q : Nat} {x : List St} (h : L[q]? = some x) : blksS (L.drop q) = stsS x :: blksS (L.drop (q + 1)) := by rw [drop_at h, blksS]
theorem blks_drop : ∀ (L : List (List St)) (q : Nat), (blksS L).drop q = blksS (L.drop q)
  | [], q => by simp [blksS]
  | x :: l, 0 => rfl
  | x :: l, q + 1 => by rw [blksS, List.drop_succ_cons, List.drop_succ_cons]; exact blks_drop l q
set_option maxRecDepth 100000 in
set_option maxHeartbeats 8000000 in
/-- IF -/
theorem choice_any {N : Nat} (IH : WrB N) {h : SH} {cs : List Ex} {bs : List (List St)} {CH : List EH} {BH : List Sl} {B g : Nat} {l : Str} {w : World} (hK : Wx B g l w)
    (hC : RS eC 6 w B h.conds CH) (hCE : ExsAt w B cs CH) (hR : RS slC 1 w B h.blocks BH) (hE : BlksAt w B bs BH) (hcb : exsB cs = true) (hbb : blksB bs = true) (hi : inBs bs) (hN : SizeOf.sizeOf bs ≤ N)
    (hle : cs.length ≤ bs.length) (hlen : l.length + (ifT [73, 70, 32] (exsS cs) (blksS bs) ++ [69, 78, 68, 95, 73, 70, 59, 10]).length ≤ lim) :
    Calls Tryz.prog 101 #[.pointer (some ⟨g, 0, none⟩), .agg (sC h).toArray] w (Put B g l (ifT [73, 70, 32] (exsS cs) (blksS bs) ++ [69, 78, 68, 95, 73, 70, 59, 10]) w) := by
  obtain ⟨w1, e1, K1, H1, F1, ng⟩ := hK.box (sC h) 49
  obtain ⟨T, hT⟩ : ∃ T, ifT [73, 70, 32] (exsS cs) (blksS bs) = T := ⟨_, rfl⟩
  rw [hT] at hlen ⊢
  obtain ⟨TT, hTT⟩ : ∃ TT, T ++ [69, 78, 68, 95, 73, 70, 59, 10] = TT := ⟨_, rfl⟩
  rw [hTT] at hlen ⊢
  have hCX : ∀ (x : List St) (q : Nat), bs[q]? = some x → BlkC x := fun x q hx => IH x (by have := at_size hx; omega) (blksB_at' hbb hx) (inBs_at hi hx)
  obtain ⟨op, nm, hd, hv, ⟨A1, n, c1⟩, sl2, sl3, ⟨A4, m, c4⟩, ln⟩ := h
  have hC : Rd eC 6 w B A1 n c1 CH := hC
  have hR : Rd slC 1 w B A4 m c4 BH := hR
  have hn1 : CH.length = n := hC.1
  have hm1 : BH.length = m := hR.1
  have hcl := hCE.len
  have hbl := hE.len
  have hnl := hC.len_le
  have hml := hR.len_le
  obtain ⟨A5, c5, hcut, hR5⟩ := cut_row hR n (by omega)
  have hmax := hR.2.1
  have hmax2 := hR.2.2.1
  have ST := Lib.hid fun (q : Nat) (h : Sl) (hq : BH[q]? = some h) => hE.at hq
  have EL := Lib.hid fun (l' : Str) (W : World) (hf : Fr B g w W) (hW : Wx B g l' W) (hl : l'.length + (elseT (blksS (bs.drop n))).length ≤ lim) =>
    else_any (L := bs.drop n) (s := ⟨A5, m - n, c5⟩) (H := BH.drop n) (fun x q hx => hCX x (n + q) (by rw [← List.getElem?_drop]; exact hx)) hW (hR5.below hf.1)
      (fun q h hq => by
        obtain ⟨x, hx, hxa⟩ := ST.out (n + q) h (by rw [← List.getElem?_drop]; exact hq)
        exact ⟨x, by rw [List.getElem?_drop]; exact hx, hxa.below hf.1 (Nat.le_refl _)⟩) (by rw [List.length_drop, List.length_drop, hbl]) hl
  have SLF := Lib.hid (show ∀ w : World, (Instr.slice 47 (.slice A4 m c4) (some (.int .i64 (n : Int))) none none).run Tryz.prog w = .ok (.slice A5 (m - n) c5) w from fun w => by
    rw [run_slice_l w _ A4 m c4 (by kernel_rfl) .i64 _ (by omega) (by omega), Int.toNat_natCast, hcut.symm]
    kernel_rfl)
  have CXE := Lib.hid fun (q : Nat) (h : EH) (hq : CH[q]? = some h) => hCE.at hq
  have CXB := Lib.hid fun (q : Nat) (x : Ex) (hq : cs[q]? = some x) => exsB_at' hcb hq
  have CX := Lib.hid hCX
  have HT := Lib.hid hT
  have HTT := Lib.hid hTT
  have HL := Lib.hid hlen
  have HC := Lib.hid hC
  have HR := Lib.hid hR
  have HN := Lib.hid (show CH.length = n ∧ BH.length = m ∧ CH.length = cs.length ∧ BH.length = bs.length ∧ n ≤ m from ⟨hn1, hm1, hcl, hbl, by omega⟩)
  have NG := Lib.hid ng
  have K1 := Lib.hid K1
  have H1 := Lib.hid H1
  have F1 := Lib.hid F1
  clear hK ng hC hR hn1 hm1 hcl hbl hml hcut hR5 hmax hmax2 hCX hE hCE hcb hbb hi hN hle hlen hT hTT IH
  go_enter Tryz.func101, Tryz.ntmps101
  go_upto_region 1 with (fail)
  subst e1
  generalize w.alloc (.cells (sC ⟨op, nm, hd, hv, ⟨A1, n, c1⟩, sl2, sl3, ⟨A4, m, c4⟩, ln⟩).toArray 49) = w1 at *
  have c14 := (cell_of H1.out.box (i := 14) rfl).1
  simp only [Sl.v] at c14
  go_upto_region 3 with (fail)
  clear c14
  go_loopw [4, 10] (fun s4 s10 wr => ∃ (q : Nat) (t1 wd : Str), q ≤ n ∧ s10 = .int .i64 q ∧ s4 = .string ⟨wd.toArray⟩ ∧ t1 ++ ifT wd (exsS (cs.drop q)) (blksS (bs.drop q)) = T ∧ Wx B g (l ++ t1) wr ∧ Fr B g w1 wr) (fun _ i _ => n - (intOf i).toNat)
  case atStart => exact ⟨0, [], [73, 70, 32], Nat.zero_le _, rfl, rfl, by rw [List.drop_zero, List.drop_zero]; exact HT.out, by rw [List.append_nil]; exact K1.out, Fr.refl _ _ _⟩
  case round =>
    obtain ⟨q, t1, wd, hq, rfl, rfl, ht, hk, hf⟩ := hrel
    have h2 := H1.out.fr hf NG.out (by decide)
    by_cases hlt : q < n
    rotate_left
    · obtain rfl : q = n := by omega
      have hz : ¬ (q : Int) < q := by omega
      rw [List.drop_of_length_le (l := cs) (by have := HN.out; omega), exsS, ifT] at ht
      have hlT : l.length + t1.length + (elseT (blksS (bs.drop q))).length + 8 ≤ lim := by
        have h1 := HL.out
        rw [← HTT.out, ← ht] at h1
        simp only [List.length_append, List.length_cons, List.length_nil] at h1
        omega
      have EX := Lib.hid (EL.out (l ++ t1) wr (F1.out.trans hf) hk (by rw [List.length_append]; omega))
      have HTE := Lib.hid ht
      have HLT := Lib.hid hlT
      have FF := Lib.hid (F1.out.trans hf)
      have hsl := SLF.out
      have c14 := (cell_of h2.box (i := 14) rfl).1
      have c17 := (cell_of h2.box (i := 17) rfl).1
      simp only [Sl.v] at c14 c17 EX
      clear hk hf ht hlT h2 EL
      go_wp2_with (go_at_call 128; fail)
      refine EX.out.mono ?_
      rintro e w3 ⟨rfl, k9, f9⟩
      rw [List.append_assoc, HTE.out] at k9
      have K3 := Lib.hid k9
      have F3 := Lib.hid (FF.out.trans f9)
      clear k9 f9 EX FF c14 c17 hsl
      go_wp2_with (go_at_call 35; fail)
      refine (put_new [[69, 78, 68, 95, 73, 70, 59, 10]] (t := [69, 78, 68, 95, 73, 70, 59, 10]) rfl K3.out (by decide) (by have h1 := HL.out; rw [← HTT.out] at h1; simp only [List.length_append, List.length_cons, List.length_nil] at h1 ⊢; omega)).mono ?_
      rintro e w4 ⟨rfl, k9, f9⟩
      rw [List.append_assoc, HTT.out] at k9
      have K4 := Lib.hid k9
      have F4 := Lib.hid (F3.out.trans f9)
      clear k9 f9 K3 F3
      go_wp2_with fail
      go_end0
      exact ⟨rfl, K4.out, F4.out⟩
    have r1 : Rd eC 6 wr B A1 n c1 CH := HC.out.below (F1.out.trans hf).1
    obtain ⟨b1, o1, eh, rfl, hb1, hp, hc1⟩ := r1.at hlt
    obtain ⟨x, hx, hxa⟩ := CXE.out q eh hp
    have hxb := CXB.out q x hx
    have r2 : Rd slC 1 wr B A4 m c4 BH := HR.out.below (F1.out.trans hf).1
    obtain ⟨b2, o2, bh, rfl, hb2, hp2, hc2⟩ := r2.at (i := q) (by have := HN.out; omega)
    obtain ⟨y, hy, hya⟩ := ST.out q bh hp2
    rw [exs_at hx, blks_at hy, ifT] at ht
    have ht2 : (t1 ++ (wd ++ exS x ++ [32, 84, 72, 69, 78, 10] ++ stsS y)) ++ ifT [69, 76, 83, 73, 70, 32] (exsS (cs.drop (q + 1))) (blksS (bs.drop (q + 1))) = T := by
      rw [← ht]
      simp only [List.append_assoc, List.headD_cons, List.drop_succ_cons, List.drop_zero]
    have hlT : l.length + t1.length + wd.length + (exS x).length + 6 + (stsS y).length ≤ lim := by
      have h1 := HL.out
      rw [← HTT.out, ← ht2] at h1
      simp only [List.length_append, List.length_cons, List.length_nil] at h1
      omega
    have w1' := nat_step q (by omega)
    have hci := Lib.hid hc1
    have a0 : wr.cell? ⟨b2, o2 + q, none⟩ = some bh.v := by
      have a0 := hc2 0 _ rfl
      rw [Nat.add_zero, Nat.mul_one] at a0
      exact a0
    have BC := Lib.hid fun W (hW : Fr B g wr W) => (hW.1.cell (p := ⟨b2, o2 + q, none⟩) hb2).trans a0
    clear a0
    have KK := Lib.hid hk
    have FF := Lib.hid hf
    have H2 := Lib.hid h2
    have XA := Lib.hid hxa
    have XB := Lib.hid hxb
    have YA := Lib.hid hya
    have HY := Lib.hid hy
    have HT2 := Lib.hid ht2
    have HLX := Lib.hid hlT
    have LT := Lib.hid hlt
    have LM := Lib.hid (show q < m by have := HN.out; omega)
    clear hc1 hk hf hxa hxb hx ht ht2 hlT r1 r2 hp hp2 hb1 hb2 hc2 hy hya h2 EL SLF
    go_upto_region 5 with (first | ((with_reducible refine m_loadR hci.out 44 13 ?_ ?_ ?_ ?_ ?_ ?_); rfl; rfl; rfl; rfl; kernel_rfl) | ((with_reducible refine m_new 44 6 14 ?_ ?_ ?_ (eC eh) ?_ ?_ ?_ ?_ (eC_one _) ?_); rfl; rfl; rfl; rfl; rfl; rfl; kernel_rfl; intro w4 hx hb hz))
    have X4 := Lib.hid hx
    have K4 := Lib.hid (KK.out.below hb)
    have F4 := Lib.hid (FF.out.trans (Fr.of hb KK.out.le))
    have F4' := Lib.hid (Fr.of (B := B) (g := g) hb KK.out.le)
    clear hx hb hz hci KK FF hlt
    go_wp2_with (first | ((with_reducible refine m_load X4.out 44 6 ?_ ?_ ?_ ?_ ?_ ?_); rfl; rfl; rfl; rfl; kernel_rfl) | (go_at_call 100; fail))
    refine (around_any (a := wd) (b := [32, 84, 72, 69, 78, 10]) K4.out (XA.out.below (F1.out.trans F4.out).1 (Nat.le_refl _)) XB.out (by have := HLX.out; simp only [List.length_append, List.length_cons, List.length_nil]; omega)).mono ?_
    rintro e w5 ⟨rfl, k9, f9⟩
    have K5 := Lib.hid k9
    have F5 := Lib.hid (F4.out.trans f9)
    have F5' := Lib.hid (F4'.out.trans f9)
    clear k9 f9 K4 F4 F4' X4
    have h5 := H1.out.fr F5.out NG.out (by decide)
    have c17 := (cell_of h5.box (i := 17) rfl).1
    have a0 := BC.out _ F5'.out
    have hlm := LM.out
    simp only [Sl.v] at c17 a0
    have C2 := Lib.hid (CX.out y q HY.out bh B g _ w5 K5.out (YA.out.below (F1.out.trans F5.out).1 (Nat.le_refl _)) (by have h9 := HLX.out; simp only [List.length_append, List.length_cons, List.length_nil] at h9 ⊢; omega))
    simp only [Sl.v] at C2
    clear h5
    go_wp2_with (go_at_call 38; fail)
    refine C2.out.mono ?_
    rintro e w6 ⟨rfl, k9, f9⟩
    rw [List.append_assoc, List.append_assoc] at k9
    have K6 := Lib.hid k9
    have F6 := Lib.hid (F5.out.trans f9)
    clear k9 f9 K5 F5 C2 c17 a0 hlm
    go_wp2_with fail
    go_roundw
    case rel => exact ⟨q + 1, t1 ++ (wd ++ exS x ++ [32, 84, 72, 69, 78, 10] ++ stsS y), [69, 76, 83, 73, 70, 32], by have := LT.out; omega, by go_num, rfl, HT2.out, K6.out, F6.out⟩
    case measure => have := LT.out; simp [intOf]; omega
end Go.Proofs.YtdefgghhkknnpaaGreatDoor.sh

/- The landed writer's cases, over what the blocks give. Conditions: the statement is such that a text could give; what the writer holds stays within 2^47 bytes. -/
namespace Go.Proofs.YtdefgghhkknnpaaGreatDoor.sh
open Go.ChangeShapes Go.WideShapes Go.ChangeAt Go.RowKit Go.Proofs.YtdefgghhkknnpaaGreatDoor Go.Proofs.YtdefgghhkknnpaaGreatDoor.k Go.Proofs.YtdefgghhkknnpaaGreatDoor.rr Go.Proofs.YtdefgghhkknnpaaGreatDoor.tk Go.Proofs.YtdefgghhkknnpaaGreatDoor.tr
set_option linter.unusedVariables false
set_option linter.unusedSimpArgs false

set_option maxRecDepth 100000 in
set_option maxHeartbeats 8000000 in
/-- CASE -/
theorem cases_any {N : Nat} (IH : WrB N) {h : SH} {x : Ex} {ls : List (List Int)} {bs : List (List St)} {CH : List Sl} {BH : List Sl} {B g : Nat} {l : Str} {w : World} (hK : Wx B g l w)
    (hXA : ExAt w B x h.val) (hXB : exB x = true) (hC : RS slC 1 w B h.labels CH) (hCE : LabsAt w B ls CH) (hR : RS slC 1 w B h.blocks BH) (hE : BlksAt w B bs BH) (hcb : ls.all labB = true) (hci : ∀ l ∈ ls, ∀ n ∈ l, InI n) (hbb : blksB bs = true) (hi : inBs bs) (hN : SizeOf.sizeOf bs ≤ N)
    (hle : ls.length ≤ bs.length) (hlen : l.length + ([67, 65, 83, 69, 32] ++ exS x ++ [32, 79, 70, 10] ++ caseT ls (blksS bs) ++ [69, 78, 68, 95, 67, 65, 83, 69, 59, 10]).length ≤ lim) :
    Calls Tryz.prog 102 #[.pointer (some ⟨g, 0, none⟩), .agg (sC h).toArray] w (Put B g l ([67, 65, 83, 69, 32] ++ exS x ++ [32, 79, 70, 10] ++ caseT ls (blksS bs) ++ [69, 78, 68, 95, 67, 65, 83, 69, 59, 10]) w) := by
  obtain ⟨w1, e1, K1, H1, F1, ng⟩ := hK.box (sC h) 49
  obtain ⟨T, hT⟩ : ∃ T, [67, 65, 83, 69, 32] ++ exS x ++ [32, 79, 70, 10] ++ caseT ls (blksS bs) = T := ⟨_, rfl⟩
  rw [hT] at hlen ⊢
  obtain ⟨TT, hTT⟩ : ∃ TT, T ++ [69, 78, 68, 95, 67, 65, 83, 69, 59, 10] = TT := ⟨_, rfl⟩
  rw [hTT] at hlen ⊢
  have hCX : ∀ (x : List St) (q : Nat), bs[q]? = some x → BlkC x := fun x q hx => IH x (by have := at_size hx; omega) (blksB_at' hbb hx) (inBs_at hi hx)
  obtain ⟨op, nm, hd, hv, sl1, ⟨A1, n, c1⟩, sl3, ⟨A4, m, c4⟩, ln⟩ := h
  have hC : Rd slC 1 w B A1 n c1 CH := hC
  have hR : Rd slC 1 w B A4 m c4 BH := hR
  have hn1 : CH.length = n := hC.1
  have hm1 : BH.length = m := hR.1
  have hcl := hCE.len
  have hbl := hE.len
  have hnl := hC.len_le
  have hml := hR.len_le
  obtain ⟨A5, c5, hcut, hR5⟩ := cut_row hR n (by omega)
  have hmax := hR.2.1
  have hmax2 := hR.2.2.1
  have ST := Lib.hid fun (q : Nat) (h : Sl) (hq : BH[q]? = some h) => hE.at hq
  have EL := Lib.hid fun (l' : Str) (W : World) (hf : Fr B g w W) (hW : Wx B g l' W) (hl : l'.length + (elseT (blksS (bs.drop n))).length ≤ lim) =>
    else_any (L := bs.drop n) (s := ⟨A5, m - n, c5⟩) (H := BH.drop n) (fun x q hx => hCX x (n + q) (by rw [← List.getElem?_drop]; exact hx)) hW (hR5.below hf.1)
      (fun q h hq => by
        obtain ⟨x, hx, hxa⟩ := ST.out (n + q) h (by rw [← List.getElem?_drop]; exact hq)
        exact ⟨x, by rw [List.getElem?_drop]; exact hx, hxa.below hf.1 (Nat.le_refl _)⟩) (by rw [List.length_drop, List.length_drop, hbl]) hl
  have SLF := Lib.hid (show ∀ w : World, (Instr.slice 47 (.slice A4 m c4) (some (.int .i64 (n : Int))) none none).run Tryz.prog w = .ok (.slice A5 (m - n) c5) w from fun w => by
    rw [run_slice_l w _ A4 m c4 (by kernel_rfl) .i64 _ (by omega) (by omega), Int.toNat_natCast, hcut.symm]
    kernel_rfl)
  have CXE := Lib.hid fun (q : Nat) (h : Sl) (hq : CH[q]? = some h) => hCE.at hq
  have CXB := Lib.hid fun (q : Nat) (x : List Int) (hq : ls[q]? = some x) => (show x.length % 2 = 0 ∧ ∀ n ∈ x, InI n from by
    have hm := List.mem_of_getElem? hq
    refine ⟨?_, hci x hm⟩
    rw [List.all_eq_true] at hcb
    have := hcb x hm
    simp only [labB, Bool.and_eq_true, beq_iff_eq] at this
    exact this.2.1)
  have hcs : ([67, 65, 83, 69, 32] ++ exS x ++ [32, 79, 70, 10] : Str).length + (caseT ls (blksS bs)).length + 10 = TT.length := by
    rw [← hTT, ← hT]
    simp only [List.length_append, List.length_cons, List.length_nil]
  have AR := Lib.hid (around_any (x := x) (a := [67, 65, 83, 69, 32]) (b := [32, 79, 70, 10]) K1 (hXA.below F1.1 (Nat.le_refl _)) hXB (by omega))
  have CX := Lib.hid hCX
  have HT := Lib.hid hT
  have HTT := Lib.hid hTT
  have HL := Lib.hid hlen
  have HC := Lib.hid hC
  have HR := Lib.hid hR
  have HN := Lib.hid (show CH.length = n ∧ BH.length = m ∧ CH.length = ls.length ∧ BH.length = bs.length ∧ n ≤ m from ⟨hn1, hm1, hcl, hbl, by omega⟩)
  have NG := Lib.hid ng
  have K1 := Lib.hid K1
  have H1 := Lib.hid H1
  have F1 := Lib.hid F1
  clear hK ng hC hR hn1 hm1 hcl hbl hml hcut hR5 hmax hmax2 hCX hE hCE hcb hci hcs hbb hi hN hle hlen hT hTT IH hXA hXB
  go_enter Tryz.func102, Tryz.ntmps102
  go_upto_region 1 with (fail)
  subst e1
  generalize w.alloc (.cells (sC ⟨op, nm, hd, hv, sl1, ⟨A1, n, c1⟩, sl3, ⟨A4, m, c4⟩, ln⟩).toArray 49) = w1 at *
  go_wp2_with (first | ((with_reducible refine m_loadR (st_val H1.out.box) 44 7 ?_ ?_ ?_ ?_ ?_ ?_); rfl; rfl; rfl; rfl; kernel_rfl) | (go_at_call 100; fail))
  refine AR.out.mono ?_
  rintro e w2 ⟨rfl, k9, f9⟩
  have K2 := Lib.hid k9
  have F2 := Lib.hid f9
  clear k9 f9 AR
  have h2 := H1.out.fr F2.out NG.out (by decide)
  have c15 := (cell_of h2.box (i := 15) rfl).1
  simp only [Sl.v] at c15
  clear h2
  go_upto_region 3 with (fail)
  clear c15
  go_loopw [13] (fun s13 wr => ∃ (q : Nat) (t1 : Str), q ≤ n ∧ s13 = .int .i64 q ∧ t1 ++ caseT (ls.drop q) (blksS (bs.drop q)) = T ∧ Wx B g (l ++ t1) wr ∧ Fr B g w1 wr) (fun i _ => n - (intOf i).toNat)
  case atStart => exact ⟨0, [67, 65, 83, 69, 32] ++ exS x ++ [32, 79, 70, 10], Nat.zero_le _, rfl, by rw [List.drop_zero, List.drop_zero]; exact HT.out, K2.out, F2.out⟩
  case round =>
    obtain ⟨q, t1, hq, rfl, ht, hk, hf⟩ := hrel
    have h2 := H1.out.fr hf NG.out (by decide)
    by_cases hlt : q < n
    rotate_left
    · obtain rfl : q = n := by omega
      have hz : ¬ (q : Int) < q := by omega
      rw [List.drop_of_length_le (l := ls) (by have := HN.out; omega), caseT] at ht
      have hlT : l.length + t1.length + (elseT (blksS (bs.drop q))).length + 10 ≤ lim := by
        have h1 := HL.out
        rw [← HTT.out, ← ht] at h1
        simp only [List.length_append, List.length_cons, List.length_nil] at h1
        omega
      have EX := Lib.hid (EL.out (l ++ t1) wr (F1.out.trans hf) hk (by rw [List.length_append]; omega))
      have HTE := Lib.hid ht
      have HLT := Lib.hid hlT
      have FF := Lib.hid (F1.out.trans hf)
      have hsl := SLF.out
      have c14 := (cell_of h2.box (i := 15) rfl).1
      have c17 := (cell_of h2.box (i := 17) rfl).1
      simp only [Sl.v] at c14 c17 EX
      clear hk hf ht hlT h2 EL
      go_wp2_with (go_at_call 128; fail)
      refine EX.out.mono ?_
      rintro e w3 ⟨rfl, k9, f9⟩
      rw [List.append_assoc, HTE.out] at k9
      have K3 := Lib.hid k9
      have F3 := Lib.hid (FF.out.trans f9)
      clear k9 f9 EX FF c14 c17 hsl
      go_wp2_with (go_at_call 35; fail)
      refine (put_new [[69, 78, 68, 95, 67, 65, 83, 69, 59, 10]] (t := [69, 78, 68, 95, 67, 65, 83, 69, 59, 10]) rfl K3.out (by decide) (by have h1 := HL.out; rw [← HTT.out] at h1; simp only [List.length_append, List.length_cons, List.length_nil] at h1 ⊢; omega)).mono ?_
      rintro e w4 ⟨rfl, k9, f9⟩
      rw [List.append_assoc, HTT.out] at k9
      have K4 := Lib.hid k9
      have F4 := Lib.hid (F3.out.trans f9)
      clear k9 f9 K3 F3
      go_wp2_with fail
      go_end0
      exact ⟨rfl, K4.out, F4.out⟩
    have r1 : Rd slC 1 wr B A1 n c1 CH := HC.out.below (F1.out.trans hf).1
    obtain ⟨b1, o1, eh, rfl, hb1, hp, hc1⟩ := r1.at hlt
    obtain ⟨y0, hx, hxa⟩ := CXE.out q eh hp
    have hxb := CXB.out q y0 hx
    have r2 : Rd slC 1 wr B A4 m c4 BH := HR.out.below (F1.out.trans hf).1
    obtain ⟨b2, o2, bh, rfl, hb2, hp2, hc2⟩ := r2.at (i := q) (by have := HN.out; omega)
    obtain ⟨y, hy, hya⟩ := ST.out q bh hp2
    rw [drop_at hx, blks_at hy, caseT] at ht
    have ht2 : (t1 ++ (labT false y0 ++ stsS y)) ++ caseT (ls.drop (q + 1)) (blksS (bs.drop (q + 1))) = T := by
      rw [← ht]
      simp only [List.append_assoc, List.headD_cons, List.drop_succ_cons, List.drop_zero]
    have hlT : l.length + t1.length + (labT false y0).length + (stsS y).length ≤ lim := by
      have h1 := HL.out
      rw [← HTT.out, ← ht2] at h1
      simp only [List.length_append, List.length_cons, List.length_nil] at h1
      omega
    have w1' := nat_step q (by omega)
    have a1 := hc1 0 _ rfl
    rw [Nat.add_zero, Nat.mul_one] at a1
    have a0 : wr.cell? ⟨b2, o2 + q, none⟩ = some bh.v := by
      have a0 := hc2 0 _ rfl
      rw [Nat.add_zero, Nat.mul_one] at a0
      exact a0
    have BC := Lib.hid fun W (hW : Fr B g wr W) => (hW.1.cell (p := ⟨b2, o2 + q, none⟩) hb2).trans a0
    clear a0
    have LB := Lib.hid (labels_any hk (hxa.below (F1.out.trans hf).1 (Nat.le_refl _)) hxb.1 hxb.2 (by rw [List.length_append]; omega))
    have FF := Lib.hid hf
    have YA := Lib.hid hya
    have HY := Lib.hid hy
    have HT2 := Lib.hid ht2
    have HLX := Lib.hid hlT
    have LT := Lib.hid hlt
    have LM := Lib.hid (show q < m by have := HN.out; omega)
    unfold Sl.v at a1
    simp only [Sl.v] at LB
    clear hc1 hk hf hxa hxb hx ht ht2 hlT r1 r2 hp hp2 hb1 hb2 hc2 hy hya h2 EL SLF
    go_wp2_with (go_at_call 129; fail)
    refine LB.out.mono ?_
    rintro e w5 ⟨rfl, k9, f9⟩
    have K5 := Lib.hid k9
    have F5 := Lib.hid (FF.out.trans f9)
    have F5' := Lib.hid f9
    clear k9 f9 FF LB a1 hlt
    have h5 := H1.out.fr F5.out NG.out (by decide)
    have c17 := (cell_of h5.box (i := 17) rfl).1
    have a0 := BC.out _ F5'.out
    have hlm := LM.out
    simp only [Sl.v] at c17 a0
    have C2 := Lib.hid (CX.out y q HY.out bh B g _ w5 K5.out (YA.out.below (F1.out.trans F5.out).1 (Nat.le_refl _)) (by have h9 := HLX.out; simp only [List.length_append] at h9 ⊢; omega))
    simp only [Sl.v] at C2
    clear h5
    go_wp2_with (go_at_call 38; fail)
    refine C2.out.mono ?_
    rintro e w6 ⟨rfl, k9, f9⟩
    rw [List.append_assoc, List.append_assoc] at k9
    have K6 := Lib.hid k9
    have F6 := Lib.hid (F5.out.trans f9)
    clear k9 f9 K5 F5 C2 c17 a0 hlm
    go_wp2_with fail
    go_roundw
    case rel => exact ⟨q + 1, t1 ++ (labT false y0 ++ stsS y), by have := LT.out; omega, by go_num, HT2.out, K6.out, F6.out⟩
    case measure => have := LT.out; simp [intOf]; omega
end Go.Proofs.YtdefgghhkknnpaaGreatDoor.sh
