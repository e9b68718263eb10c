/- How many parts expressions have and how deep they are, as the document's given function counts, with its stop. Condition: at most 2^40 parts. -/
import Derived.Test.YtdefgghhkknnpaaGreatDoorV03
import Derived.Test.YtdefgghhkknnpaaGreatDoorShFiC
namespace Go.Proofs.YtdefgghhkknnpaaGreatDoor.sh
open Go.ChangeShapes Go.WideShapes Go.ChangeAt Go.RowKit Go.Proofs.YtdefgghhkknnpaaGreatDoor Go.Proofs.YtdefgghhkknnpaaGreatDoor.k Go.Proofs.YtdefgghhkknnpaaGreatDoor.rr Go.Proofs.YtdefgghhkknnpaaGreatDoor.tk Go.Proofs.YtdefgghhkknnpaaGreatDoor.tr
set_option linter.unusedVariables false
set_option linter.unusedSimpArgs false

mutual
/-- the count of an expression's parts behind a number m at which it stops -/
def zX (m : Int) : Ex → Int × Int
  | .mk _ _ _ _ sub _ => zL m 0 0 sub
def zL (m n d : Int) : List Ex → Int × Int
  | [] => (n, d)
  | x :: l => if n ≤ m then zL m (n + ((zX (m - n) x).1 + 1)) (max d ((zX (m - n) x).2 + 1)) l else (n, d)
end
mutual
theorem zX_le : ∀ (x : Ex) (m : Int), 0 ≤ (zX m x).1 ∧ (zX m x).1 + 1 ≤ wE x ∧ 0 ≤ (zX m x).2 ∧ (zX m x).2 + 1 ≤ wE x
  | .mk _ _ _ _ sub _, m => by
    have := zL_le sub m 0 0 (by omega) (by omega)
    rw [zX, wE]
    omega
theorem zL_le : ∀ (L : List Ex) (m n d : Int), 0 ≤ n → 0 ≤ d → n ≤ (zL m n d L).1 ∧ (zL m n d L).1 ≤ n + wsE L ∧ d ≤ (zL m n d L).2 ∧ (zL m n d L).2 ≤ d + wsE L
  | [], m, n, d, hn, hd => by rw [zL, wsE]; simp
  | x :: l, m, n, d, hn, hd => by
    rw [zL, wsE]
    have h1 := zX_le x (m - n)
    split
    · have h2 := zL_le l m (n + ((zX (m - n) x).1 + 1)) (max d ((zX (m - n) x).2 + 1)) (by omega) (by omega)
      omega
    · simp only
      omega
end
theorem wsE_drop {L : List Ex} {i : Nat} {x : Ex} (h : L[i]? = some x) : wsE (L.drop i) = wE x + wsE (L.drop (i + 1)) := by
  obtain ⟨h1, h2⟩ := List.getElem?_eq_some_iff.1 h
  rw [List.drop_eq_getElem_cons h1, wsE, h2]
theorem zL_drop {L : List Ex} {i : Nat} {x : Ex} (h : L[i]? = some x) (m n d : Int) : zL m n d (L.drop i) = if n ≤ m then zL m (n + ((zX (m - n) x).1 + 1)) (max d ((zX (m - n) x).2 + 1)) (L.drop (i + 1)) else (n, d) := by
  obtain ⟨h1, h2⟩ := List.getElem?_eq_some_iff.1 h
  rw [List.drop_eq_getElem_cons h1, zL, h2]
def SzE (N : Nat) : Prop := ∀ L : List Ex, SizeOf.sizeOf L < N → wsE L ≤ 1099511627776 → ∀ (m : Int), -1099511627776 ≤ m → m ≤ 1099511627776 → ∀ (s : Sl) (w : World), ExL w w.heap.size s L → Calls Tryz.prog 50 #[s.v, .int .i64 m] w fun e w' => e = .returned (.tuple #[.int .i64 (zL m 0 0 L).1, .int .i64 (zL m 0 0 L).2]) ∧ Below w.heap.size w w'
set_option maxRecDepth 100000 in
set_option maxHeartbeats 8000000 in
theorem size_e_step {N : Nat} (IH : SzE N) : SzE (N + 1) := by
  intro L hN hW m hm1 hm2 s w hx
  obtain ⟨H, hR, hE⟩ := hx
  obtain ⟨A, n0, cap⟩ := s
  have hR : Rd eC 6 w w.heap.size A n0 cap H := hR
  have hnl := hR.len_le
  have hl0 : L.length = n0 := hE.len.symm.trans hR.1
  obtain ⟨Z, hZ⟩ : ∃ Z, zL m 0 0 L = Z := ⟨_, rfl⟩
  rw [hZ]
  obtain ⟨z1, z2⟩ := Z
  have HZ := Lib.hid hZ
  have R1 := Lib.hid hR
  have E1 := Lib.hid hE
  have HL := Lib.hid hl0
  have HN := Lib.hid hN
  have HI := Lib.hid IH
  have HM := Lib.hid (And.intro hm1 (And.intro hm2 hW))
  clear hZ hR hE hl0 hN IH hm1 hm2 hW
  simp only [Sl.v]
  go_enter Tryz.func50, Tryz.ntmps50
  go_upto_region 3 with (fail)
  go_loopw [6, 7, 8] (fun s6 s7 s8 wr => ∃ (q : Nat) (n d : Int), q ≤ n0 ∧ s6 = .int .i64 n ∧ s7 = .int .i64 d ∧ s8 = .int .i64 q ∧ 0 ≤ n ∧ 0 ≤ d ∧ n + wsE (L.drop q) ≤ 1099511627776 ∧ d + wsE (L.drop q) ≤ 1099511627776 ∧ Below w.heap.size w wr ∧ zL m n d (L.drop q) = (z1, z2)) (fun _ _ i _ => n0 - (intOf i).toNat)
  case atStart => exact ⟨0, 0, 0, Nat.zero_le _, rfl, rfl, rfl, by omega, by omega, by have := HM.out; rw [List.drop_zero]; omega, by have := HM.out; rw [List.drop_zero]; omega, Below.refl _ _, HZ.out⟩
  case round =>
    obtain ⟨q, n, d, hq, rfl, rfl, rfl, hn, hd, hnw, hdw, hbw, hz⟩ := hrel
    by_cases hlt : q < n0
    rotate_left
    · obtain rfl : q = n0 := by omega
      have hzz : ¬ (q : Int) < q := by omega
      rw [List.drop_of_length_le (by have := HL.out; omega), zL] at hz
      injection hz with e1 e2
      subst e1 e2
      have BB := Lib.hid hbw
      clear hnw hdw hbw hlt hq
      go_wp2_with fail
      go_ret2
      exact ⟨rfl, BB.out⟩
    have r1 : Rd eC 6 wr wr.heap.size A n0 cap H := (R1.out.below hbw).more hbw.size
    obtain ⟨b1, o1, h, rfl, hb1, hp, hc1⟩ := r1.at hlt
    obtain ⟨x, hxL, hxa⟩ := E1.out.at hp
    have hsz := mem_size hxL
    rw [zL_drop hxL] at hz
    by_cases hnm : n ≤ m
    rotate_left
    · rw [if_neg hnm] at hz
      injection hz with e1 e2
      subst e1 e2
      have BB := Lib.hid hbw
      clear hnw hdw hbw hq hc1 hp hxL hxa hsz r1
      go_wp2_with fail
      go_ret2
      exact ⟨rfl, BB.out⟩
    rw [if_pos hnm] at hz
    rw [wsE_drop hxL] at hnw hdw
    have hzx := zX_le x (m - n)
    obtain ⟨xo, xn, xs, xf, xsub, xl⟩ := x
    obtain ⟨o, nn, s, f, ⟨A2, l, c⟩, ln⟩ := h
    unfold ExAt at hxa
    obtain ⟨rfl, rfl, rfl, rfl, rfl, H2, hR2, hE2⟩ := hxa
    have hx2 : ExL w w.heap.size ⟨A2, l, c⟩ xsub := ⟨H2, hR2, hE2⟩
    simp only [Ex.mk.sizeOf_spec] at hsz
    obtain ⟨Y, hY⟩ : ∃ Y, zX (m - n) (.mk o nn s f xsub ln) = Y := ⟨_, rfl⟩
    rw [hY] at hz hzx
    obtain ⟨y1, y2⟩ := Y
    rw [zX] at hY
    simp only at hz hzx
    obtain ⟨v, hv⟩ : ∃ v, wE (.mk o nn s f xsub ln) = v := ⟨_, rfl⟩
    rw [hv] at hzx hnw hdw
    have hvs : v = wsE xsub + 1 := by rw [← hv, wE]
    have hmm := HM.out
    obtain ⟨k, hk⟩ : ∃ k, m - n = k := ⟨_, rfl⟩
    rw [hk] at hY
    have SC := Lib.hid (show ∀ W, Below w.heap.size w W → Calls Tryz.prog 50 #[.slice A2 l c, .int .i64 k] W fun e w' => e = .returned (.tuple #[.int .i64 y1, .int .i64 y2]) ∧ Below W.heap.size W w' from fun W hW => by
      have h := HI.out xsub (by have := HN.out; omega) (by omega) k (by omega) (by omega) ⟨A2, l, c⟩ W (hx2.below hW hW.size)
      rw [hY] at h
      exact h)
    have HQ : Hid (q + 1 ≤ n0) := Lib.hid hlt
    have w1 : wrap64 ((q : Int) + 1) = q + 1 := by unfold wrap64; omega
    have w2 : wrap64 (m - n) = k := by unfold wrap64; omega
    have w3 : wrap64 (y1 + 1) = y1 + 1 := by unfold wrap64; omega
    have w4 : wrap64 (n + (y1 + 1)) = n + (y1 + 1) := by unfold wrap64; omega
    have w5 : wrap64 (y2 + 1) = y2 + 1 := by unfold wrap64; omega
    have BB := Lib.hid hbw
    have HF := Lib.hid (show 0 ≤ n + (y1 + 1) ∧ 0 ≤ max d (y2 + 1) ∧ n + (y1 + 1) + wsE (L.drop (q + 1)) ≤ 1099511627776 ∧ max d (y2 + 1) + wsE (L.drop (q + 1)) ≤ 1099511627776 by omega)
    have HZ2 := Lib.hid hz
    have c4 := (hc1 4 _ rfl)
    simp only [eC, Sl.v] at c4
    have HC := Lib.hid c4
    clear hz hzx hnw hdw hbw r1 hp hb1 hc1 hxL hsz hR2 hE2 hx2 hq hY hv hvs hmm hk
    go_wp2_with (go_at_call 50; fail)
    refine (SC.out wr BB.out).mono ?_
    rintro e w5 ⟨rfl, hb⟩
    have B5 := Lib.hid (BB.out.trans (hb.mono BB.out.size))
    clear hb SC BB
    go_wp2_with fail
    go_roundw
    case rel => exact ⟨q + 1, n + (y1 + 1), max d (y2 + 1), HQ.out, by rw [w4], rfl, by go_num, HF.out.1, HF.out.2.1, HF.out.2.2.1, HF.out.2.2.2, B5.out, HZ2.out⟩
    case measure => have := HQ.out; simp [intOf]; omega
theorem size_e_all : ∀ N, SzE N
  | 0 => fun _ h => absurd h (by omega)
  | N + 1 => size_e_step (size_e_all N)
theorem refsize_any {L : List Ex} (hW : wsE L ≤ 1099511627776) {m : Int} (h1 : -1099511627776 ≤ m) (h2 : m ≤ 1099511627776) {s : Sl} {w : World} (hx : ExL w w.heap.size s L) : Calls Tryz.prog 50 #[s.v, .int .i64 m] w fun e w' => e = .returned (.tuple #[.int .i64 (zL m 0 0 L).1, .int .i64 (zL m 0 0 L).2]) ∧ Below w.heap.size w w' :=
  size_e_all (SizeOf.sizeOf L + 1) L (by omega) hW m h1 h2 s w hx
end Go.Proofs.YtdefgghhkknnpaaGreatDoor.sh

/- How many parts statements have and how deep they are, as the document's given function counts, with its stop. No condition. -/
namespace Go.Proofs.YtdefgghhkknnpaaGreatDoor.sh
open Go.ChangeShapes Go.WideShapes Go.ChangeAt Go.RowKit Go.Proofs.YtdefgghhkknnpaaGreatDoor Go.Proofs.YtdefgghhkknnpaaGreatDoor.k Go.Proofs.YtdefgghhkknnpaaGreatDoor.rr Go.Proofs.YtdefgghhkknnpaaGreatDoor.tk Go.Proofs.YtdefgghhkknnpaaGreatDoor.tr
set_option linter.unusedVariables false
set_option linter.unusedSimpArgs false

/-- rows of expressions, one behind the other -/
def zc (m n d : Int) : List (List Ex) → Int × Int
  | [] => (n, d)
  | x :: l => zc m (n + (zL (m - n) 0 0 x).1) (max d ((zL (m - n) 0 0 x).2 + 1)) l
/-- labels' numbers -/
def zlab (m n : Int) : List (List Int) → Int
  | [] => n
  | x :: l => if n ≤ m then zlab m (n + min (x.length : Int) (m + 1)) l else n
mutual
/-- the count of a statement's parts behind itself, of rows of statements, of blocks -/
def zSt (m n d : Int) : St → Int × Int
  | .mk _ _ dst val conds labels fields blocks _ =>
    zB m (zlab m ((zc m n d [[dst, val], conds]).1 + (min (labels.length : Int) (m + 1) + min (fields.length : Int) (m + 1))) labels) (zc m n d [[dst, val], conds]).2 blocks
def zLs (m n d : Int) : List St → Int × Int
  | [] => (n, d)
  | x :: l => if n ≤ m then zLs m (zSt m (n + 1) d x).1 (zSt m (n + 1) d x).2 l else (n, d)
def zB (m n d : Int) : List (List St) → Int × Int
  | [] => (n, d)
  | b :: l => if n ≤ m then zB m (n + ((zLs (m - n) 0 0 b).1 + 1)) (max d ((zLs (m - n) 0 0 b).2 + 1)) l else (n, d)
end
def wc : List (List Ex) → Nat
  | [] => 0
  | x :: l => wsE x + wc l
theorem zc_le : ∀ (L : List (List Ex)) (m n d : Int), 0 ≤ d → n ≤ (zc m n d L).1 ∧ (zc m n d L).1 ≤ n + wc L ∧ d ≤ (zc m n d L).2 ∧ (zc m n d L).2 ≤ max d (wc L + 1)
  | [], m, n, d, hd => by
    rw [zc, wc]
    simp only
    omega
  | x :: l, m, n, d, hd => by
    rw [zc, wc]
    have h1 := zL_le x (m - n) 0 0 (by omega) (by omega)
    have h2 := zc_le l m (n + (zL (m - n) 0 0 x).1) (max d ((zL (m - n) 0 0 x).2 + 1)) (by omega)
    omega
theorem zlab_le : ∀ (L : List (List Int)) (m n : Int), 0 ≤ m → n ≤ zlab m n L ∧ zlab m n L + L.length ≤ n + wL L
  | [], m, n, hm => by
    rw [zlab, wL]
    simp
  | x :: l, m, n, hm => by
    rw [zlab, wL, List.length_cons]
    have := wL_len l
    split
    · have h2 := zlab_le l m (n + min (x.length : Int) (m + 1)) hm
      omega
    · omega
mutual
theorem zSt_le : ∀ (x : St) (m n d : Int), 0 ≤ m → 0 ≤ n → 0 ≤ d → n ≤ (zSt m n d x).1 ∧ (zSt m n d x).1 + 1 ≤ n + wS x ∧ d ≤ (zSt m n d x).2 ∧ (zSt m n d x).2 ≤ d + wS x
  | .mk _ _ dst val conds labels fields blocks _, m, n, d, hm, hn, hd => by
    rw [zSt, wS]
    have h1 := zc_le [[dst, val], conds] m n d hd
    rw [wc, wc, wc, wsE, wsE, wsE] at h1
    have h2 := zlab_le labels m ((zc m n d [[dst, val], conds]).1 + (min (labels.length : Int) (m + 1) + min (fields.length : Int) (m + 1))) hm
    have h3 := zB_le blocks m (zlab m ((zc m n d [[dst, val], conds]).1 + (min (labels.length : Int) (m + 1) + min (fields.length : Int) (m + 1))) labels) (zc m n d [[dst, val], conds]).2 (by omega) (by omega)
    omega
theorem zLs_le : ∀ (L : List St) (m n d : Int), 0 ≤ n → 0 ≤ d → n ≤ (zLs m n d L).1 ∧ (zLs m n d L).1 ≤ n + wsS L ∧ d ≤ (zLs m n d L).2 ∧ (zLs m n d L).2 ≤ d + wsS L
  | [], m, n, d, hn, hd => by
    rw [zLs, wsS]
    simp
  | x :: l, m, n, d, hn, hd => by
    rw [zLs, wsS]
    split
    · have h1 := zSt_le x m (n + 1) d (by omega) (by omega) hd
      have h2 := zLs_le l m (zSt m (n + 1) d x).1 (zSt m (n + 1) d x).2 (by omega) (by omega)
      omega
    · simp only
      omega
theorem zB_le : ∀ (L : List (List St)) (m n d : Int), 0 ≤ n → 0 ≤ d → n ≤ (zB m n d L).1 ∧ (zB m n d L).1 ≤ n + wsB L ∧ d ≤ (zB m n d L).2 ∧ (zB m n d L).2 ≤ d + wsB L
  | [], m, n, d, hn, hd => by
    rw [zB, wsB]
    simp
  | x :: l, m, n, d, hn, hd => by
    rw [zB, wsB]
    split
    · have h1 := zLs_le x (m - n) 0 0 (by omega) (by omega)
      have h2 := zB_le l m (n + ((zLs (m - n) 0 0 x).1 + 1)) (max d ((zLs (m - n) 0 0 x).2 + 1)) (by omega) (by omega)
      omega
    · simp only
      omega
end
theorem wsS_drop {L : List St} {i : Nat} {x : St} (h : L[i]? = some x) : wsS (L.drop i) = wS x + wsS (L.drop (i + 1)) := by
  obtain ⟨h1, h2⟩ := List.getElem?_eq_some_iff.1 h
  rw [List.drop_eq_getElem_cons h1, wsS, h2]
theorem zLs_drop {L : List St} {i : Nat} {x : St} (h : L[i]? = some x) (m n d : Int) : zLs m n d (L.drop i) = if n ≤ m then zLs m (zSt m (n + 1) d x).1 (zSt m (n + 1) d x).2 (L.drop (i + 1)) else (n, d) := by
  obtain ⟨h1, h2⟩ := List.getElem?_eq_some_iff.1 h
  rw [List.drop_eq_getElem_cons h1, zLs, h2]
theorem zB_drop {L : List (List St)} {i : Nat} {x : List St} (h : L[i]? = some x) (m n d : Int) : zB m n d (L.drop i) = if n ≤ m then zB m (n + ((zLs (m - n) 0 0 x).1 + 1)) (max d ((zLs (m - n) 0 0 x).2 + 1)) (L.drop (i + 1)) else (n, d) := by
  obtain ⟨h1, h2⟩ := List.getElem?_eq_some_iff.1 h
  rw [List.drop_eq_getElem_cons h1, zB, h2]
theorem zlab_drop {L : List (List Int)} {i : Nat} {x : List Int} (h : L[i]? = some x) (m n : Int) : zlab m n (L.drop i) = if n ≤ m then zlab m (n + min (x.length : Int) (m + 1)) (L.drop (i + 1)) else n := by
  obtain ⟨h1, h2⟩ := List.getElem?_eq_some_iff.1 h
  rw [List.drop_eq_getElem_cons h1, zlab, h2]
theorem zlab_stop {m n : Int} (h : ¬ n ≤ m) : ∀ L : List (List Int), zlab m n L = n
  | [] => rfl
  | x :: l => by rw [zlab, if_neg h]
theorem zB_stop {m n d : Int} (h : ¬ n ≤ m) : ∀ L : List (List St), zB m n d L = (n, d)
  | [] => by rw [zB]
  | x :: l => by rw [zB, if_neg h]
end Go.Proofs.YtdefgghhkknnpaaGreatDoor.sh
