/- What the landed tok's name, number and first give: the sign that begins a text, in the document's words. Condition: a text has at most 20000 bytes. -/
import Derived.Test.YthdkkdgjcfjinaaTkTokB
namespace Go.Proofs.Ythdkkdgjcfjinaa.tk
open Go.ChangeShapes Go.WideShapes Go.ChangeAt Go.RowKit Go.Proofs.Ythdkkdgjcfjinaa.k Go.Proofs.Ythdkkdgjcfjinaa.rr
set_option linter.unusedVariables false

/-- the sign that begins a text that is not at its end, and its error; it has no place yet -/
def fst1 (l : List UInt8) : Tk × Int := let x := sgn l; if x.1 = 0 then (⟨x.2.1, l.take x.2.2.2, x.2.2.1, 0, 0⟩, 0) else (zeroT, x.1)
theorem fst1_yes {l : List UInt8} {k : Int} {v n : Nat} (h : sgn l = (0, k, v, n)) : fst1 l = (⟨k, l.take n, v, 0, 0⟩, 0) := by unfold fst1; rw [h]; rfl
theorem fst1_no {l : List UInt8} {e : Int} {x : Int × Nat × Nat} (h : sgn l = (e, x)) (he : e ≠ 0) : fst1 l = (zeroT, e) := by unfold fst1; rw [h]; simp only [if_neg he]
theorem words_short : (words.all fun w => decide (w.length ≤ 16)) = true := by kernel_rfl
theorem word_le {l : List UInt8} (h : isWord l = true) : l.length ≤ 16 := by
  unfold isWord at h
  obtain ⟨w, hw, he⟩ := List.any_eq_true.1 h
  have h2 := of_decide_eq_true (List.all_eq_true.1 words_short w hw)
  rw [← eq_of_beq he]
  exact h2
theorem mk_str (t : ByteArray) : (⟨t.data.toList.toArray⟩ : ByteArray) = t := by
  apply ByteArray.ext
  simp
theorem run_same (r : ByteArray) (hs : r.size ≤ 20000) (w : World) : Calls Try.prog 38 #[.string r, .func (.func 39) #[] #[]] w fun e w' => e = .returned (.int .i64 (bodyLen r.data.toList)) ∧ ∃ n, w' = w.drewN n := by
  rw [← runLen_body]
  exact run_body r hs w
set_option maxRecDepth 100000 in
set_option maxHeartbeats 2000000 in
theorem name_any (r : ByteArray) (hs : r.size ≤ 20000) {x : UInt8} {l : List UInt8} (hr : r.data.toList = x :: l) (ha : alphaB x = true) (w : World) : Calls Try.prog 31 #[.string r] w fun e w' => e = .returned (.tuple #[.agg (tC (fst1 r.data.toList).1).toArray, .int .i64 (fst1 r.data.toList).2]) ∧ Below w.heap.size w w' := by
  have x4 := Box.new w #[.int .i64 0, .string ⟨#[]⟩, .int .i64 0, .int .i64 0, .int .i64 0] 26
  have hb4 := (Below.refl w.heap.size w).alloc (Nat.le_refl _) (.cells #[.int .i64 0, .string ⟨#[]⟩, .int .i64 0, .int .i64 0, .int .i64 0] 26)
  have hz4 : (w.alloc (.cells #[.int .i64 0, .string ⟨#[]⟩, .int .i64 0, .int .i64 0, .int .i64 0] 26)).heap.size = w.heap.size + 1 := by simp
  have X4 := Lib.hid x4
  have B4 := Lib.hid hb4
  have Z4 := Lib.hid hz4
  clear x4 hb4 hz4
  have RN := run_same r hs
  have hbl := bodyLen_le r.data.toList
  have hn1 := @sgn_long x l ha
  have hn2 := @sgn_word x l ha
  have hn3 := @sgn_name x l ha
  rw [← hr] at hn1 hn2 hn3
  obtain ⟨m, hm⟩ : ∃ m, bodyLen r.data.toList = m := ⟨_, rfl⟩
  rw [hm] at RN hbl hn1 hn2 hn3
  rw [size_len] at hbl
  have RN := Lib.hid RN
  obtain ⟨T, hT⟩ : ∃ T : ByteArray, r.extract 0 m = T := ⟨_, rfl⟩
  have hTl : T.data.toList = r.data.toList.take m := by
    rw [← hT, extract_dr]
    show (dr r 0).take (m - 0) = _
    rw [dr_zero, Nat.sub_zero]
  have hTs : T.size ≤ 20000 := by rw [← size_len, hTl, List.length_take, size_len]; omega
  have WD := isword_any T
  rw [hTl] at WD
  have z1 : (m : Int) ≤ r.size := by omega
  have hTz : (⟨(r.data.toList.take m).toArray⟩ : ByteArray) = T := by rw [← hTl]
  by_cases hlong : 16 < m
  · have hw : isWord (r.data.toList.take m) = false := by
      cases h : isWord (r.data.toList.take m)
      · rfl
      · have := word_le h
        rw [List.length_take, size_len] at this
        omega
    have HR : Hid (fst1 r.data.toList = (zeroT, 9)) := Lib.hid (fst1_no (hn1 hw hlong) (by simp))
    have hz : (16 : Int) < m := by omega
    clear hn1 hn2 hn3 WD hTl hTs hTz hm hbl hr ha hw hs hlong
    go_enter Try.func31, Try.ntmps31
    go_upto_region 1 with (fail)
    generalize w.alloc (.cells #[.int .i64 0, .string ⟨#[]⟩, .int .i64 0, .int .i64 0, .int .i64 0] 26) = w4 at *
    have ⟨c0, f0, c1, f1, c2, f2, c3, f3, c4, f4, _⟩ := X4.out
    go_wp2_with (go_at_call 38; (with_reducible refine (RN.out _).mono ?_); rintro e w1 ⟨rfl, n1, rfl⟩)
    have XA := Lib.hid (X4.out.drawn n1)
    obtain ⟨y, _, hB2⟩ := Box.puts (us := [.int .i64 0, .string ⟨#[]⟩, .int .i64 0, .int .i64 0, .int .i64 0]) XA.out rfl
    refine bodyPost_ret (k.results_cell_tmp rfl rfl (run_loadVar_mid _ w.heap.size 0 26 _ _ y.range rfl rfl (by kernel_rfl))) rfl ?_
    exact ⟨by rw [HR.out]; rfl, (below_drawn B4.out n1).trans (hB2 _ (Nat.le_refl _))⟩
  · have hz : ¬ (16 : Int) < m := by omega
    obtain ⟨iw, hiw⟩ : ∃ b, isWord (r.data.toList.take m) = b := ⟨_, rfl⟩
    rw [hiw] at WD
    have WD : Hid (∀ W, Calls Try.prog 11 #[.string T] W fun e w' => e = .returned (.bool iw) ∧ W = w') := Lib.hid WD
    have T1 := Lib.hid fun W => told_any 1 T hTs W
    have T2 := Lib.hid fun W => told_any 2 T hTs W
    cases iw
    · have HR : Hid (tC (fst1 r.data.toList).1 = [.int .i64 1, .string T, .int .i64 0, .int .i64 0, .int .i64 0] ∧ (fst1 r.data.toList).2 = 0) := Lib.hid (by
        rw [fst1_yes (hn3 hiw hlong)]
        exact ⟨by simp only [tC, hTz]; rfl, rfl⟩)
      clear hn1 hn2 hn3 hTl hTs hTz hm hbl hr ha hs hlong hiw
      go_enter Try.func31, Try.ntmps31
      go_upto_region 1 with (fail)
      generalize w.alloc (.cells #[.int .i64 0, .string ⟨#[]⟩, .int .i64 0, .int .i64 0, .int .i64 0] 26) = w4 at *
      go_wp2_with (first | (go_at_call 38; (with_reducible refine (RN.out _).mono ?_); rintro e w1 ⟨rfl, n1, rfl⟩) | (go_at_call 11; (with_reducible refine (WD.out _).mono ?_); rintro e w2 ⟨rfl, rfl⟩) | (go_at_call 35; (with_reducible refine (T1.out _).mono ?_); rintro e w3 ⟨rfl, hb⟩; have XA := Lib.hid ((X4.out.drawn n1).below hb (Nat.lt_of_lt_of_eq (Nat.lt_succ_self _) Z4.out.symm)); have BA := Lib.hid ((below_drawn B4.out n1).trans (hb.mono (below_drawn B4.out n1).size)); clear hb; have ⟨c0, f0, c1, f1, c2, f2, c3, f3, c4, f4, _⟩ := XA.out))
      obtain ⟨y, _, hB2⟩ := Box.puts (us := [.int .i64 1, .string T, .int .i64 0, .int .i64 0, .int .i64 0]) XA.out rfl
      refine bodyPost_ret (k.results_cell_tmp rfl rfl (run_loadVar_mid _ w.heap.size 0 26 _ _ y.range rfl rfl (by kernel_rfl))) rfl ?_
      exact ⟨by rw [HR.out.1, HR.out.2]; rfl, BA.out.trans (hB2 _ (Nat.le_refl _))⟩
    · have HR : Hid (tC (fst1 r.data.toList).1 = [.int .i64 2, .string T, .int .i64 0, .int .i64 0, .int .i64 0] ∧ (fst1 r.data.toList).2 = 0) := Lib.hid (by
        rw [fst1_yes (hn2 hiw)]
        exact ⟨by simp only [tC, hTz]; rfl, rfl⟩)
      clear hn1 hn2 hn3 hTl hTs hTz hm hbl hr ha hs hlong hiw
      go_enter Try.func31, Try.ntmps31
      go_upto_region 1 with (fail)
      generalize w.alloc (.cells #[.int .i64 0, .string ⟨#[]⟩, .int .i64 0, .int .i64 0, .int .i64 0] 26) = w4 at *
      go_wp2_with (first | (go_at_call 38; (with_reducible refine (RN.out _).mono ?_); rintro e w1 ⟨rfl, n1, rfl⟩) | (go_at_call 11; (with_reducible refine (WD.out _).mono ?_); rintro e w2 ⟨rfl, rfl⟩) | (go_at_call 35; (with_reducible refine (T2.out _).mono ?_); rintro e w3 ⟨rfl, hb⟩; have XA := Lib.hid ((X4.out.drawn n1).below hb (Nat.lt_of_lt_of_eq (Nat.lt_succ_self _) Z4.out.symm)); have BA := Lib.hid ((below_drawn B4.out n1).trans (hb.mono (below_drawn B4.out n1).size)); clear hb; have ⟨c0, f0, c1, f1, c2, f2, c3, f3, c4, f4, _⟩ := XA.out))
      obtain ⟨y, _, hB2⟩ := Box.puts (us := [.int .i64 2, .string T, .int .i64 0, .int .i64 0, .int .i64 0]) XA.out rfl
      refine bodyPost_ret (k.results_cell_tmp rfl rfl (run_loadVar_mid _ w.heap.size 0 26 _ _ y.range rfl rfl (by kernel_rfl))) rfl ?_
      exact ⟨by rw [HR.out.1, HR.out.2]; rfl, BA.out.trans (hB2 _ (Nat.le_refl _))⟩
theorem base_pos (r : List UInt8) : 2 ≤ (baseOf r).1 := by
  unfold baseOf
  split
  · simp
  · split
    · simp
    · split <;> simp
theorem digs_run {b : Nat} (hb : b ≤ 16) : ∀ l : List UInt8, digs b l = (l.take (runLen (fun c => decide (digT c < b)) l)).map digT
  | [] => rfl
  | c :: l => by
    by_cases h : digT c < b
    · rw [digs_yes ((digV_lt hb).1 h), runLen, if_pos (decide_eq_true h), List.take_succ_cons, List.map_cons, ← digs_run hb l, digT_lt hb h]
    · rw [digs_no (fun h2 => h ((digV_lt hb).2 h2)), runLen, if_neg (by simpa using h)]
      rfl
theorem number_none {r : List UInt8} {b h k : Nat} (hb : baseOf r = (b, h)) (hk : runLen (fun c => decide (digT c < b)) (r.drop h) = k) (hb16 : b ≤ 16) (hs : k = 0 ∨ stuck (r.drop (h + k)) = true) (hh : h ≤ r.length) : (number r).1 = 5 := by
  have hl := runLen_le (fun c => decide (digT c < b)) (r.drop h)
  have hd : (digs b (r.drop h)).length = k := by rw [digs_run hb16, hk, List.length_map, List.length_take, List.length_drop]; rw [hk, List.length_drop] at hl; omega
  unfold number
  rw [hb]
  simp only [hd]
  rw [if_pos]
  rcases hs with hs | hs
  · subst hs
    rw [List.eq_nil_of_length_eq_zero hd]
    rfl
  · rw [hs]; simp
theorem number_some {r : List UInt8} {b h k : Nat} (hb : baseOf r = (b, h)) (hk : runLen (fun c => decide (digT c < b)) (r.drop h) = k) (hb16 : b ≤ 16) (hs : k ≠ 0) (hst : stuck (r.drop (h + k)) = false) (hh : h ≤ r.length) :
    number r = if 9223372036854775807 < valT b ((r.drop h).take k) then (2, 0, h + k) else (0, valT b ((r.drop h).take k), h + k) := by
  have hl := runLen_le (fun c => decide (digT c < b)) (r.drop h)
  have he := digs_run hb16 (r.drop h)
  rw [hk] at he
  have hd : (digs b (r.drop h)).length = k := by rw [he, List.length_map, List.length_take, List.length_drop]; rw [hk, List.length_drop] at hl; omega
  have hne : (digs b (r.drop h)).isEmpty = false := by
    cases hq : digs b (r.drop h) with
    | nil => rw [hq] at hd; exact absurd hd.symm hs
    | cons _ _ => rfl
  unfold number
  rw [hb]
  simp only [hd, hne, hst]
  rw [if_neg (by simp)]
  unfold valT
  rw [he]
set_option maxRecDepth 100000 in
set_option maxHeartbeats 4000000 in
theorem tnumber_any (r : ByteArray) (hs : r.size ≤ 20000) {x : UInt8} {l : List UInt8} (hr : r.data.toList = x :: l) (ha : alphaB x = false) (hn : numB x = true) (w : World) : Calls Try.prog 33 #[.string r] w fun e w' => e = .returned (.tuple #[.agg (tC (fst1 r.data.toList).1).toArray, .int .i64 (fst1 r.data.toList).2]) ∧ Below w.heap.size w w' := by
  have hb1 := base_pos r.data.toList
  have hb2 := (base_16 r.data.toList).1
  have hh := base_len r.data.toList
  have BO := baseOf_any r
  have hsy := fun {e : Int} {v n : Nat} => @sgn_nume x l e v n ha hn
  have hsn := fun {v n : Nat} => @sgn_num x l v n ha hn
  rw [← hr] at hsy hsn
  obtain ⟨b, hb⟩ : ∃ b, (baseOf r.data.toList).1 = b := ⟨_, rfl⟩
  obtain ⟨h, hhd⟩ : ∃ h, (baseOf r.data.toList).2 = h := ⟨_, rfl⟩
  have hbh : baseOf r.data.toList = (b, h) := by rw [← hb, ← hhd]
  rw [hb, hhd] at BO
  rw [hb] at hb1 hb2
  rw [hhd] at hh
  have BO := Lib.hid BO
  obtain ⟨u, hk⟩ : ∃ u, runLen (fun c => decide (digT c < b)) (r.data.toList.drop h) = u := ⟨_, rfl⟩
  have hkl := runLen_le (fun c => decide (digT c < b)) (r.data.toList.drop h)
  rw [hk, List.length_drop, size_len] at hkl
  have hhl := hh
  rw [size_len] at hh
  obtain ⟨D, hD⟩ : ∃ D : ByteArray, r.extract h r.size = D := ⟨_, rfl⟩
  have hDl : D.data.toList = r.data.toList.drop h := by
    rw [← hD, extract_dr]
    show (dr r h).take (r.size - h) = _
    rw [List.take_of_length_le (by rw [dr_len]; exact Nat.le_refl _)]
    rfl
  have hDs : D.size ≤ 20000 := by rw [← size_len, hDl, List.length_drop, size_len]; omega
  have RB := fun W (hp : W.cell? ⟨w.heap.size + 1, 0, none⟩ = some (.int .i64 b)) => run_base D hDs b ⟨w.heap.size + 1, 0, none⟩ W hp
  rw [hDl, hk] at RB
  have RB := Lib.hid RB
  obtain ⟨m, hm⟩ : ∃ m, h + u = m := ⟨_, rfl⟩
  have hmr : m ≤ r.size := by omega
  have z1 : (h : Int) ≤ r.size := by omega
  have z2 : (m : Int) ≤ r.size := by omega
  have z3 : (h : Int) ≤ m := by omega
  have w1 : IntKind.i64.wrap ((h : Int) + u) = m := by rw [IntKind.wrap_i64]; omega
  have x4 := Box.new w #[.int .i64 0, .string ⟨#[]⟩, .int .i64 0, .int .i64 0, .int .i64 0] 26
  have x5 := Box.new (w.alloc (.cells #[.int .i64 0, .string ⟨#[]⟩, .int .i64 0, .int .i64 0, .int .i64 0] 26)) #[.int .i64 b] 2
  have hb4 := (Below.refl w.heap.size w).alloc (Nat.le_refl _) (.cells #[.int .i64 0, .string ⟨#[]⟩, .int .i64 0, .int .i64 0, .int .i64 0] 26)
  have hz4 : (w.alloc (.cells #[.int .i64 0, .string ⟨#[]⟩, .int .i64 0, .int .i64 0, .int .i64 0] 26)).heap.size = w.heap.size + 1 := by simp
  have hb5 := (Below.refl (w.alloc (.cells #[.int .i64 0, .string ⟨#[]⟩, .int .i64 0, .int .i64 0, .int .i64 0] 26)).heap.size (w.alloc (.cells #[.int .i64 0, .string ⟨#[]⟩, .int .i64 0, .int .i64 0, .int .i64 0] 26))).alloc (Nat.le_refl _) (.cells #[.int .i64 b] 2)
  have y4 := x4.below hb5 (by omega)
  have h45 := hb4.trans (hb5.mono hb4.size)
  have hz5 : ((w.alloc (.cells #[.int .i64 0, .string ⟨#[]⟩, .int .i64 0, .int .i64 0, .int .i64 0] 26)).alloc (.cells #[.int .i64 b] 2)).heap.size = w.heap.size + 2 := by simp
  rw [hz4] at x5
  have X4 := Lib.hid y4
  have X5 := Lib.hid x5
  have B5 := Lib.hid h45
  have Z5 := Lib.hid hz5
  clear x4 x5 y4 hb4 hb5 h45 hz4 hz5
  clear hb hhd
  have BAD : Hid ((number r.data.toList).1 = 5 → tC (fst1 r.data.toList).1 = tC zeroT ∧ (fst1 r.data.toList).2 = 5) := Lib.hid fun h5 => by
    rcases hq : number r.data.toList with ⟨e, v, n⟩
    simp only [hq] at h5
    subst h5
    rw [fst1_no (hsy hq (by simp)) (by simp)]
    exact ⟨rfl, rfl⟩
  by_cases hk0 : u = 0
  · have e1 : ((m : Int) == h) = true := by rw [beq_iff_eq]; omega
    have HR := Lib.hid (BAD.out (number_none hbh hk hb2 (.inl hk0) hhl))
    clear BAD hsy hsn hbh hk hkl hDl hDs hk0 hm hb1 hb2 hhl hr ha hn
    go_enter Try.func33, Try.ntmps33
    go_upto_region 2 with (go_at_call 40; (with_reducible refine (BO.out _).mono ?_); rintro e w1 ⟨rfl, rfl⟩)
    generalize ((w.alloc (.cells #[.int .i64 0, .string ⟨#[]⟩, .int .i64 0, .int .i64 0, .int .i64 0] 26)).alloc (.cells #[.int .i64 b] 2)) = w5 at *
    have HP := X5.out.1
    have ⟨c0, f0, c1, f1, c2, f2, c3, f3, c4, f4, _⟩ := X4.out
    go_wp2_with (first | (go_at_call 38; (with_reducible refine (RB.out _ HP).mono ?_); rintro e w1 ⟨rfl, n1, rfl⟩))
    have XA := Lib.hid (X4.out.drawn n1)
    obtain ⟨y, _, hB2⟩ := Box.puts (us := [.int .i64 0, .string ⟨#[]⟩, .int .i64 0, .int .i64 0, .int .i64 0]) XA.out rfl
    refine bodyPost_ret (k.results_cell_tmp rfl rfl (run_loadVar_mid _ w.heap.size 0 26 _ _ y.range rfl rfl (by kernel_rfl))) rfl ?_
    exact ⟨by rw [HR.out.1, HR.out.2]; rfl, (below_drawn B5.out n1).trans (hB2 _ (Nat.le_refl _))⟩
  · have e1 : ((m : Int) == h) = false := by rw [beq_eq_false_iff_ne]; omega
    have ST : stuck (r.data.toList.drop (h + u)) = stuck (dr r m) := by rw [hm]; rfl
    by_cases hlt : m < r.size
    · obtain ⟨y, hy⟩ : ∃ y : UInt8, r[m] = y := ⟨_, rfl⟩
      have hd := dr_at hlt
      rw [hy] at hd
      rw [hd] at ST
      have e2 : (m : Int) < r.size := by omega
      obtain ⟨ib, hib⟩ : ∃ t, bodyB y = t := ⟨_, rfl⟩
      have IN : Hid (∀ W, Calls Try.prog 39 #[.int .u8 y.toNat] W fun e w' => e = .returned (.bool ib) ∧ W = w') := Lib.hid fun W => hib ▸ inName_any y W
      have e3 := eq8n y 35 (by omega)
      rw [show (UInt8.ofNat 35) = 35 from rfl, show ((35 : Nat) : Int) = 35 from rfl] at e3
      obtain ⟨i5, hi5⟩ : ∃ t, (y == 35) = t := ⟨_, rfl⟩
      rw [hi5] at e3
      have ST2 : stuck (r.data.toList.drop (h + u)) = (ib || i5) := by rw [ST]; show (bodyB y || y == 35) = _; rw [hib, hi5]
      clear ST hd hib hi5
      cases hst : (ib || i5)
      · have hib : ib = false := by cases ib <;> simp_all
        have hi5 : i5 = false := by cases i5 <;> simp_all
        subst hib hi5
        rw [hst] at ST2
        obtain ⟨E, hE⟩ : ∃ E : ByteArray, r.extract h m = E := ⟨_, rfl⟩
        have hEl : E.data.toList = (r.data.toList.drop h).take u := by
          rw [← hE, extract_dr]
          show (dr r h).take (m - h) = _
          rw [show m - h = u by omega]
          rfl
        have hEs : E.size ≤ 20000 := by rw [← size_len, hEl, List.length_take, List.length_drop, size_len]; omega
        obtain ⟨T, hT⟩ : ∃ T : ByteArray, r.extract 0 m = T := ⟨_, rfl⟩
        have hTl : T.data.toList = r.data.toList.take m := by
          rw [← hT, extract_dr]
          show (dr r 0).take (m - 0) = _
          rw [dr_zero, Nat.sub_zero]
        have hTs : T.size ≤ 20000 := by rw [← size_len, hTl, List.length_take, size_len]; omega
        have hTz : (⟨(r.data.toList.take m).toArray⟩ : ByteArray) = T := by rw [← hTl]
        have VA := value_any E hEs b (by omega) hb2
        rw [hEl] at VA
        have NS := number_some hbh hk hb2 hk0 ST2 hhl
        rw [hm] at NS
        obtain ⟨V, hV⟩ : ∃ V, valT b ((r.data.toList.drop h).take u) = V := ⟨_, rfl⟩
        rw [hV] at VA NS
        by_cases hov : V ≤ 9223372036854775807
        · rw [if_neg (by omega)] at NS
          rw [if_pos hov, decide_eq_true hov] at VA
          have HR : Hid (tC (fst1 r.data.toList).1 = [.int .i64 3, .string T, .int .i64 V, .int .i64 0, .int .i64 0] ∧ (fst1 r.data.toList).2 = 0) := Lib.hid (by
            rw [fst1_yes (hsn NS)]
            exact ⟨by simp only [tC, hTz]; rfl, rfl⟩)
          have VA : Hid (∀ W, Calls Try.prog 43 #[.string E, .int .i64 b] W fun e w' => e = .returned (.tuple #[.int .i64 V, .bool true]) ∧ W = w') := Lib.hid VA
          have T3 := Lib.hid fun W => told_any 3 T hTs W
          clear BAD hsy hsn hbh hk hkl hDl hDs hk0 hm hb1 hb2 hhl hr ha hn ST2 NS hEl hEs hTl hTs hTz hV hov
          go_enter Try.func33, Try.ntmps33
          go_upto_region 2 with (go_at_call 40; (with_reducible refine (BO.out _).mono ?_); rintro e w1 ⟨rfl, rfl⟩)
          generalize ((w.alloc (.cells #[.int .i64 0, .string ⟨#[]⟩, .int .i64 0, .int .i64 0, .int .i64 0] 26)).alloc (.cells #[.int .i64 b] 2)) = w5 at *
          have HP := X5.out.1
          have ⟨c0, f0, c1, f1, c2, f2, c3, f3, c4, f4, _⟩ := X4.out
          go_upto_region 5 with (first | (go_at_call 38; (with_reducible refine (RB.out _ HP).mono ?_); rintro e w1 ⟨rfl, n1, rfl⟩) | (go_at_call 39; (with_reducible refine (IN.out _).mono ?_); rintro e w2 ⟨rfl, rfl⟩))
          have X6 := X4.out.drawn n1
          have P6 := X5.out.drawn n1
          have B6 := below_drawn B5.out n1
          have S6 : (w5.drewN n1).heap.size = w.heap.size + 2 := Z5.out
          clear HP c0 f0 c1 f1 c2 f2 c3 f3 c4 f4
          generalize w5.drewN n1 = w6 at *
          have HP6 := P6.1
          have X6 := Lib.hid X6
          have B6 := Lib.hid B6
          have S6 := Lib.hid S6
          clear P6
          go_quiet ((go_at_call 43; with_reducible exact Calls.quiet_of_same ((VA.out _).mono fun _ _ h => ⟨h.1, h.2.symm⟩)))
          rename_i nq
          have X7 := X6.out.drawn nq
          have B7 := below_drawn B6.out nq
          have Z7 : (w6.drewN nq).heap.size = w.heap.size + 2 := S6.out
          clear HP6
          generalize w6.drewN nq = w7 at *
          have X7 := Lib.hid X7
          have B7 := Lib.hid B7
          have Z7 := Lib.hid Z7
          have ⟨c0, f0, c1, f1, c2, f2, c3, f3, c4, f4, _⟩ := X7.out
          go_upto_region 9 with (go_at_call 35; (with_reducible refine (T3.out _).mono ?_); rintro e w8 ⟨rfl, hb⟩; have X8 := Lib.hid (X7.out.below hb (by have := Z7.out; omega)); have B8 := Lib.hid (B7.out.trans (hb.mono B7.out.size)); have Z8 := Lib.hid (show w.heap.size < w8.heap.size from Nat.lt_of_lt_of_le (by have := Z7.out; omega) hb.size); clear hb)
          go_upto_region 10 with (fail)
          have hb10 := Below.alloc (Below.refl w8.heap.size w8) (Nat.le_refl _) (.cells #[.int .i64 3, .string T, .int .i64 V, .int .i64 0, .int .i64 0] 26)
          have N10 := Box.new w8 #[.int .i64 3, .string T, .int .i64 V, .int .i64 0, .int .i64 0] 26
          have X10 := Lib.hid (X8.out.below hb10 Z8.out)
          have B10 := Lib.hid (B8.out.trans (hb10.mono B8.out.size))
          clear hb10 c0 f0 c1 f1 c2 f2 c3 f3 c4 f4
          generalize w8.alloc (.cells #[.int .i64 3, .string T, .int .i64 V, .int .i64 0, .int .i64 0] 26) = w10 at *
          generalize w8.heap.size = g8 at *
          have ⟨a0, _, a1, _, a2, _, a3, _, a4, _, _⟩ := N10
          have ⟨c0, f0, c1, f1, c2, f2, c3, f3, c4, f4, _⟩ := X10.out
          go_wp2_with fail
          obtain ⟨y, _, hB2⟩ := Box.puts (us := [.int .i64 3, .string T, .int .i64 V, .int .i64 0, .int .i64 0]) X10.out rfl
          refine bodyPost_ret (k.results_cell_tmp rfl rfl (run_loadVar_mid _ w.heap.size 0 26 _ _ y.range rfl rfl (by kernel_rfl))) rfl ?_
          exact ⟨by rw [HR.out.1, HR.out.2]; rfl, B10.out.trans (hB2 _ (Nat.le_refl _))⟩
        · rw [if_pos (by omega)] at NS
          rw [if_neg hov, decide_eq_false hov] at VA
          have HR : Hid (fst1 r.data.toList = (zeroT, 2)) := Lib.hid (fst1_no (hsy NS (by simp)) (by simp))
          have VA : Hid (∀ W, Calls Try.prog 43 #[.string E, .int .i64 b] W fun e w' => e = .returned (.tuple #[.int .i64 0, .bool false]) ∧ W = w') := Lib.hid VA
          clear BAD hsy hsn hbh hk hkl hDl hDs hk0 hm hb1 hb2 hhl hr ha hn ST2 NS hEl hEs hTl hTs hTz hV hov
          go_enter Try.func33, Try.ntmps33
          go_upto_region 2 with (go_at_call 40; (with_reducible refine (BO.out _).mono ?_); rintro e w1 ⟨rfl, rfl⟩)
          generalize ((w.alloc (.cells #[.int .i64 0, .string ⟨#[]⟩, .int .i64 0, .int .i64 0, .int .i64 0] 26)).alloc (.cells #[.int .i64 b] 2)) = w5 at *
          have HP := X5.out.1
          have ⟨c0, f0, c1, f1, c2, f2, c3, f3, c4, f4, _⟩ := X4.out
          go_upto_region 5 with (first | (go_at_call 38; (with_reducible refine (RB.out _ HP).mono ?_); rintro e w1 ⟨rfl, n1, rfl⟩) | (go_at_call 39; (with_reducible refine (IN.out _).mono ?_); rintro e w2 ⟨rfl, rfl⟩))
          have X6 := X4.out.drawn n1
          have P6 := X5.out.drawn n1
          have B6 := below_drawn B5.out n1
          have S6 : (w5.drewN n1).heap.size = w.heap.size + 2 := Z5.out
          clear HP c0 f0 c1 f1 c2 f2 c3 f3 c4 f4
          generalize w5.drewN n1 = w6 at *
          have HP6 := P6.1
          have X6 := Lib.hid X6
          have B6 := Lib.hid B6
          have S6 := Lib.hid S6
          clear P6
          go_quiet ((go_at_call 43; with_reducible exact Calls.quiet_of_same ((VA.out _).mono fun _ _ h => ⟨h.1, h.2.symm⟩)))
          rename_i nq
          have X7 := X6.out.drawn nq
          have B7 := below_drawn B6.out nq
          have Z7 : (w6.drewN nq).heap.size = w.heap.size + 2 := S6.out
          clear HP6
          generalize w6.drewN nq = w7 at *
          have X7 := Lib.hid X7
          have B7 := Lib.hid B7
          have Z7 := Lib.hid Z7
          have ⟨c0, f0, c1, f1, c2, f2, c3, f3, c4, f4, _⟩ := X7.out
          go_wp2_with fail
          obtain ⟨y, _, hB2⟩ := Box.puts (us := [.int .i64 0, .string ⟨#[]⟩, .int .i64 0, .int .i64 0, .int .i64 0]) X7.out rfl
          refine bodyPost_ret (k.results_cell_tmp rfl rfl (run_loadVar_mid _ w.heap.size 0 26 _ _ y.range rfl rfl (by kernel_rfl))) rfl ?_
          exact ⟨by rw [HR.out]; rfl, B7.out.trans (hB2 _ (Nat.le_refl _))⟩
      · rw [hst] at ST2
        have HR := Lib.hid (BAD.out (number_none hbh hk hb2 (.inr ST2) hhl))
        clear BAD hsy hsn hbh hk hkl hDl hDs hk0 hm hb1 hb2 hhl hr ha hn ST2
        cases ib
        · have hi5 : i5 = true := by simpa using hst
          subst hi5
          clear hst
          go_enter Try.func33, Try.ntmps33
          go_upto_region 2 with (go_at_call 40; (with_reducible refine (BO.out _).mono ?_); rintro e w1 ⟨rfl, rfl⟩)
          generalize ((w.alloc (.cells #[.int .i64 0, .string ⟨#[]⟩, .int .i64 0, .int .i64 0, .int .i64 0] 26)).alloc (.cells #[.int .i64 b] 2)) = w5 at *
          have HP := X5.out.1
          have ⟨c0, f0, c1, f1, c2, f2, c3, f3, c4, f4, _⟩ := X4.out
          go_wp2_with (first | (go_at_call 38; (with_reducible refine (RB.out _ HP).mono ?_); rintro e w1 ⟨rfl, n1, rfl⟩) | (go_at_call 39; (with_reducible refine (IN.out _).mono ?_); rintro e w2 ⟨rfl, rfl⟩))
          have XA := Lib.hid (X4.out.drawn n1)
          obtain ⟨y, _, hB2⟩ := Box.puts (us := [.int .i64 0, .string ⟨#[]⟩, .int .i64 0, .int .i64 0, .int .i64 0]) XA.out rfl
          refine bodyPost_ret (k.results_cell_tmp rfl rfl (run_loadVar_mid _ w.heap.size 0 26 _ _ y.range rfl rfl (by kernel_rfl))) rfl ?_
          exact ⟨by rw [HR.out.1, HR.out.2]; rfl, (below_drawn B5.out n1).trans (hB2 _ (Nat.le_refl _))⟩
        · clear hst
          go_enter Try.func33, Try.ntmps33
          go_upto_region 2 with (go_at_call 40; (with_reducible refine (BO.out _).mono ?_); rintro e w1 ⟨rfl, rfl⟩)
          generalize ((w.alloc (.cells #[.int .i64 0, .string ⟨#[]⟩, .int .i64 0, .int .i64 0, .int .i64 0] 26)).alloc (.cells #[.int .i64 b] 2)) = w5 at *
          have HP := X5.out.1
          have ⟨c0, f0, c1, f1, c2, f2, c3, f3, c4, f4, _⟩ := X4.out
          go_wp2_with (first | (go_at_call 38; (with_reducible refine (RB.out _ HP).mono ?_); rintro e w1 ⟨rfl, n1, rfl⟩) | (go_at_call 39; (with_reducible refine (IN.out _).mono ?_); rintro e w2 ⟨rfl, rfl⟩))
          have XA := Lib.hid (X4.out.drawn n1)
          obtain ⟨y, _, hB2⟩ := Box.puts (us := [.int .i64 0, .string ⟨#[]⟩, .int .i64 0, .int .i64 0, .int .i64 0]) XA.out rfl
          refine bodyPost_ret (k.results_cell_tmp rfl rfl (run_loadVar_mid _ w.heap.size 0 26 _ _ y.range rfl rfl (by kernel_rfl))) rfl ?_
          exact ⟨by rw [HR.out.1, HR.out.2]; rfl, (below_drawn B5.out n1).trans (hB2 _ (Nat.le_refl _))⟩
    · have hd := dr_end (s := r) (n := m) (by omega)
      rw [hd] at ST
      have ST2 : stuck (r.data.toList.drop (h + u)) = false := ST
      have e2 : ¬ (m : Int) < r.size := by omega
      clear ST hd
      obtain ⟨E, hE⟩ : ∃ E : ByteArray, r.extract h m = E := ⟨_, rfl⟩
      have hEl : E.data.toList = (r.data.toList.drop h).take u := by
        rw [← hE, extract_dr]
        show (dr r h).take (m - h) = _
        rw [show m - h = u by omega]
        rfl
      have hEs : E.size ≤ 20000 := by rw [← size_len, hEl, List.length_take, List.length_drop, size_len]; omega
      obtain ⟨T, hT⟩ : ∃ T : ByteArray, r.extract 0 m = T := ⟨_, rfl⟩
      have hTl : T.data.toList = r.data.toList.take m := by
        rw [← hT, extract_dr]
        show (dr r 0).take (m - 0) = _
        rw [dr_zero, Nat.sub_zero]
      have hTs : T.size ≤ 20000 := by rw [← size_len, hTl, List.length_take, size_len]; omega
      have hTz : (⟨(r.data.toList.take m).toArray⟩ : ByteArray) = T := by rw [← hTl]
      have VA := value_any E hEs b (by omega) hb2
      rw [hEl] at VA
      have NS := number_some hbh hk hb2 hk0 ST2 hhl
      rw [hm] at NS
      obtain ⟨V, hV⟩ : ∃ V, valT b ((r.data.toList.drop h).take u) = V := ⟨_, rfl⟩
      rw [hV] at VA NS
      by_cases hov : V ≤ 9223372036854775807
      · rw [if_neg (by omega)] at NS
        rw [if_pos hov, decide_eq_true hov] at VA
        have HR : Hid (tC (fst1 r.data.toList).1 = [.int .i64 3, .string T, .int .i64 V, .int .i64 0, .int .i64 0] ∧ (fst1 r.data.toList).2 = 0) := Lib.hid (by
          rw [fst1_yes (hsn NS)]
          exact ⟨by simp only [tC, hTz]; rfl, rfl⟩)
        have VA : Hid (∀ W, Calls Try.prog 43 #[.string E, .int .i64 b] W fun e w' => e = .returned (.tuple #[.int .i64 V, .bool true]) ∧ W = w') := Lib.hid VA
        have T3 := Lib.hid fun W => told_any 3 T hTs W
        clear BAD hsy hsn hbh hk hkl hDl hDs hk0 hm hb1 hb2 hhl hr ha hn ST2 NS hEl hEs hTl hTs hTz hV hov
        go_enter Try.func33, Try.ntmps33
        go_upto_region 2 with (go_at_call 40; (with_reducible refine (BO.out _).mono ?_); rintro e w1 ⟨rfl, rfl⟩)
        generalize ((w.alloc (.cells #[.int .i64 0, .string ⟨#[]⟩, .int .i64 0, .int .i64 0, .int .i64 0] 26)).alloc (.cells #[.int .i64 b] 2)) = w5 at *
        have HP := X5.out.1
        have ⟨c0, f0, c1, f1, c2, f2, c3, f3, c4, f4, _⟩ := X4.out
        go_upto_region 5 with (first | (go_at_call 38; (with_reducible refine (RB.out _ HP).mono ?_); rintro e w1 ⟨rfl, n1, rfl⟩) | fail)
        have X6 := X4.out.drawn n1
        have P6 := X5.out.drawn n1
        have B6 := below_drawn B5.out n1
        have S6 : (w5.drewN n1).heap.size = w.heap.size + 2 := Z5.out
        clear HP c0 f0 c1 f1 c2 f2 c3 f3 c4 f4
        generalize w5.drewN n1 = w6 at *
        have HP6 := P6.1
        have X6 := Lib.hid X6
        have B6 := Lib.hid B6
        have S6 := Lib.hid S6
        clear P6
        go_quiet ((go_at_call 43; with_reducible exact Calls.quiet_of_same ((VA.out _).mono fun _ _ h => ⟨h.1, h.2.symm⟩)))
        rename_i nq
        have X7 := X6.out.drawn nq
        have B7 := below_drawn B6.out nq
        have Z7 : (w6.drewN nq).heap.size = w.heap.size + 2 := S6.out
        clear HP6
        generalize w6.drewN nq = w7 at *
        have X7 := Lib.hid X7
        have B7 := Lib.hid B7
        have Z7 := Lib.hid Z7
        have ⟨c0, f0, c1, f1, c2, f2, c3, f3, c4, f4, _⟩ := X7.out
        go_upto_region 9 with (go_at_call 35; (with_reducible refine (T3.out _).mono ?_); rintro e w8 ⟨rfl, hb⟩; have X8 := Lib.hid (X7.out.below hb (by have := Z7.out; omega)); have B8 := Lib.hid (B7.out.trans (hb.mono B7.out.size)); have Z8 := Lib.hid (show w.heap.size < w8.heap.size from Nat.lt_of_lt_of_le (by have := Z7.out; omega) hb.size); clear hb)
        go_upto_region 10 with (fail)
        have hb10 := Below.alloc (Below.refl w8.heap.size w8) (Nat.le_refl _) (.cells #[.int .i64 3, .string T, .int .i64 V, .int .i64 0, .int .i64 0] 26)
        have N10 := Box.new w8 #[.int .i64 3, .string T, .int .i64 V, .int .i64 0, .int .i64 0] 26
        have X10 := Lib.hid (X8.out.below hb10 Z8.out)
        have B10 := Lib.hid (B8.out.trans (hb10.mono B8.out.size))
        clear hb10 c0 f0 c1 f1 c2 f2 c3 f3 c4 f4
        generalize w8.alloc (.cells #[.int .i64 3, .string T, .int .i64 V, .int .i64 0, .int .i64 0] 26) = w10 at *
        generalize w8.heap.size = g8 at *
        have ⟨a0, _, a1, _, a2, _, a3, _, a4, _, _⟩ := N10
        have ⟨c0, f0, c1, f1, c2, f2, c3, f3, c4, f4, _⟩ := X10.out
        go_wp2_with fail
        obtain ⟨y, _, hB2⟩ := Box.puts (us := [.int .i64 3, .string T, .int .i64 V, .int .i64 0, .int .i64 0]) X10.out rfl
        refine bodyPost_ret (k.results_cell_tmp rfl rfl (run_loadVar_mid _ w.heap.size 0 26 _ _ y.range rfl rfl (by kernel_rfl))) rfl ?_
        exact ⟨by rw [HR.out.1, HR.out.2]; rfl, B10.out.trans (hB2 _ (Nat.le_refl _))⟩
      · rw [if_pos (by omega)] at NS
        rw [if_neg hov, decide_eq_false hov] at VA
        have HR : Hid (fst1 r.data.toList = (zeroT, 2)) := Lib.hid (fst1_no (hsy NS (by simp)) (by simp))
        have VA : Hid (∀ W, Calls Try.prog 43 #[.string E, .int .i64 b] W fun e w' => e = .returned (.tuple #[.int .i64 0, .bool false]) ∧ W = w') := Lib.hid VA
        clear BAD hsy hsn hbh hk hkl hDl hDs hk0 hm hb1 hb2 hhl hr ha hn ST2 NS hEl hEs hTl hTs hTz hV hov
        go_enter Try.func33, Try.ntmps33
        go_upto_region 2 with (go_at_call 40; (with_reducible refine (BO.out _).mono ?_); rintro e w1 ⟨rfl, rfl⟩)
        generalize ((w.alloc (.cells #[.int .i64 0, .string ⟨#[]⟩, .int .i64 0, .int .i64 0, .int .i64 0] 26)).alloc (.cells #[.int .i64 b] 2)) = w5 at *
        have HP := X5.out.1
        have ⟨c0, f0, c1, f1, c2, f2, c3, f3, c4, f4, _⟩ := X4.out
        go_upto_region 5 with (first | (go_at_call 38; (with_reducible refine (RB.out _ HP).mono ?_); rintro e w1 ⟨rfl, n1, rfl⟩) | fail)
        have X6 := X4.out.drawn n1
        have P6 := X5.out.drawn n1
        have B6 := below_drawn B5.out n1
        have S6 : (w5.drewN n1).heap.size = w.heap.size + 2 := Z5.out
        clear HP c0 f0 c1 f1 c2 f2 c3 f3 c4 f4
        generalize w5.drewN n1 = w6 at *
        have HP6 := P6.1
        have X6 := Lib.hid X6
        have B6 := Lib.hid B6
        have S6 := Lib.hid S6
        clear P6
        go_quiet ((go_at_call 43; with_reducible exact Calls.quiet_of_same ((VA.out _).mono fun _ _ h => ⟨h.1, h.2.symm⟩)))
        rename_i nq
        have X7 := X6.out.drawn nq
        have B7 := below_drawn B6.out nq
        have Z7 : (w6.drewN nq).heap.size = w.heap.size + 2 := S6.out
        clear HP6
        generalize w6.drewN nq = w7 at *
        have X7 := Lib.hid X7
        have B7 := Lib.hid B7
        have Z7 := Lib.hid Z7
        have ⟨c0, f0, c1, f1, c2, f2, c3, f3, c4, f4, _⟩ := X7.out
        go_wp2_with fail
        obtain ⟨y, _, hB2⟩ := Box.puts (us := [.int .i64 0, .string ⟨#[]⟩, .int .i64 0, .int .i64 0, .int .i64 0]) X7.out rfl
        refine bodyPost_ret (k.results_cell_tmp rfl rfl (run_loadVar_mid _ w.heap.size 0 26 _ _ y.range rfl rfl (by kernel_rfl))) rfl ?_
        exact ⟨by rw [HR.out]; rfl, B7.out.trans (hB2 _ (Nat.le_refl _))⟩
end Go.Proofs.Ythdkkdgjcfjinaa.tk
