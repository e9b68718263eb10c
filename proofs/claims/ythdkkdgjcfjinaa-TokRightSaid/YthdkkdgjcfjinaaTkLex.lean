/- The signs of a text, as the document's function gives them. Condition: the text has at most 20000 bytes. -/
import Derived.Test.YthdkkdgjcfjinaaTkNum
import Derived.Lib.Strings
namespace Go.Proofs.Ythdkkdgjcfjinaa.tk
open Go.ChangeShapes Go.WideShapes Go.ChangeAt Go.RowKit Go.Proofs.Ythdkkdgjcfjinaa.k Go.Proofs.Ythdkkdgjcfjinaa.rr
set_option linter.unusedVariables false

theorem results_ttc {P : Program} {fn : Func} {t u c : Tmp} {T : TypeId} (h : fn.results = #[.tmp t, .tmp u, .cell c T]) {tmps : Array Value} {w : World} {b o : Nat} {v : Value} (ht : tmps.getD c undef = .pointer (some ⟨b, o, none⟩))
    (hl : (loadVar T ⟨b, o, none⟩).run P w = .ok v w) : (results fn tmps).run P w = .ok (.tuple #[tmps.getD t undef, tmps.getD u undef, v]) w := by
  have ha : (asAddr (.pointer (some ⟨b, o, none⟩)) : Sem Addr) = pure ⟨b, o, none⟩ := rfl
  have ht2 : tmps[c]?.getD undef = .pointer (some ⟨b, o, none⟩) := by rw [← ht]; simp
  rw [results, h]
  simp [ht2, ha, hl]
theorem tok_info : (Try.prog.info? 26).map (fun i => (i.zero, i.size, i.bytes)) = some (some (.agg #[.int .i64 0, .string ⟨#[]⟩, .int .i64 0, .int .i64 0, .int .i64 0]), 5, 48) := by kernel_rfl
theorem toks_slice : Try.prog.underlying 23 = some (.slice 26) := by kernel_rfl
/-- what a call gives: the row of signs, the error, its place -/
def GotL (s : ByteArray) (w : World) (e : Ending) (w' : World) : Prop :=
  ∃ A n c, e = .returned (.tuple #[.slice A n c, .int .i64 (lex s.data.toList).1, .agg (tC (lex s.data.toList).2.2).toArray]) ∧ rr.Rd tC 5 w' w'.heap.size A n c (lex s.data.toList).2.1 ∧ Below w.heap.size w w'
section
variable {s r : List UInt8} {f : Nat} {acc : List Tk}
theorem lexF_bad (h : (past r).1 = false) : lexF s (f + 1) r acc = (5, [], atP (plAt s (past r).2)) := by rw [lexF]; simp only [h, if_true]
theorem lexF_end (h : (past r).1 = true) (h2 : (past r).2 = []) : lexF s (f + 1) r acc = (0, acc ++ [atP (plAt s [])], zeroT) := by
  rw [lexF]
  simp only [h, h2, if_true, Bool.true_eq_false, if_false]
theorem lexF_err (h : (past r).1 = true) (h2 : (past r).2 ≠ []) (h3 : (sgn (past r).2).1 ≠ 0) : lexF s (f + 1) r acc = ((sgn (past r).2).1, [], atP (plAt s (past r).2)) := by
  rw [lexF]
  simp only [h, h2, h3, Bool.true_eq_false, if_false]
theorem lexF_tok (h : (past r).1 = true) (h2 : (past r).2 ≠ []) (h3 : (sgn (past r).2).1 = 0) : lexF s (f + 1) r acc = lexF s f ((past r).2.drop (sgn (past r).2).2.2.2) (acc ++ [⟨(sgn (past r).2).2.1, (past r).2.take (sgn (past r).2).2.2.2, (sgn (past r).2).2.2.1, (plAt s (past r).2).1, (plAt s (past r).2).2⟩]) := by
  rw [lexF]
  simp only [h, h2, h3, if_true, Bool.true_eq_false, if_false]
end
theorem extract_dr (s : ByteArray) (a b : Nat) : s.extract a b = ⟨((dr s a).take (b - a)).toArray⟩ := by
  apply ByteArray.ext
  apply Array.toList_inj.1
  rw [Lib.extract_data]
  rfl
theorem bodyLen_le : ∀ (l : List UInt8), bodyLen l ≤ l.length
  | [] => Nat.le_refl _
  | c :: l => by
    have := bodyLen_le l
    rw [bodyLen, List.length_cons]
    split <;> omega
theorem form_above {α : Type} {enc : α → List Value} {z : Nat} (hlz : ∀ x, (enc x).length = z) {t : TypeId} {w W : World} {base : Nat} {v : Value} {L : List α} (h : rr.Ow enc z t w base v L) (ha : Above base w W) (hs : W.heap.size = w.heap.size) :
    ∃ A cap, v = .slice A L.length cap ∧ rr.Rd enc z W W.heap.size A L.length cap L := by
  have h0 := h
  rcases h0.2 with ⟨rfl, h1⟩ | ⟨g, cap, cur, rfl, hbg, hg, hnc, hcm, _, _⟩
  · have hL : L = [] := List.eq_nil_of_length_eq_zero h1
    subst hL
    exact ⟨none, 0, rfl, Rd.none_ _ _ _ _⟩
  · refine ⟨_, cap, rfl, rfl, hnc, hcm, (fun h => by cases h), fun hp => ⟨g, 0, rfl, ?_, fun i x hx j u hu => ?_⟩⟩
    · rw [hs]
      exact (Array.getElem?_eq_some_iff.1 hg).1
    · have hj : j < z := by rw [← hlz x]; exact (List.getElem?_eq_some_iff.1 hu).1
      have hc := World.ownsRow.cells (g := g) h rfl (i * z + j) u (by rw [flat_at enc z hlz L i j x hx hj, hu])
      have e : (Addr.add ⟨g, 0, none⟩ (i * z + j)) = ⟨g, 0 + i * z + j, none⟩ := by unfold Addr.add; by_cases h : i * z + j = 0 <;> simp [h]; omega
      rw [e] at hc
      rw [ha g _ hbg]
      exact hc
theorem box_drew {w : World} {g : Nat} : ∀ {vs : List Value} {o : Nat}, Box w g o vs → Box w.drew g o vs
  | [], _, _ => trivial
  | v :: vs, o, h => ⟨h.1, h.2.1, box_drew h.2.2⟩
section
variable {x : UInt8} {l : List UInt8}
theorem sgn_num {v n : Nat} (h1 : alphaB x = false) (h2 : numB x = true) (h3 : number (x :: l) = (0, v, n)) : sgn (x :: l) = (0, 3, v, n) := by
  unfold sgn
  simp only [h1, h2, h3, Bool.false_eq_true, if_true, if_false]
theorem sgn_nume {e : Int} {v n : Nat} (h1 : alphaB x = false) (h2 : numB x = true) (h3 : number (x :: l) = (e, v, n)) (h4 : e ≠ 0) : sgn (x :: l) = (e, 0, 0, 0) := by
  unfold sgn
  simp only [h1, h2, h3, h4, Bool.false_eq_true, if_true, if_false]
theorem sgn_sign (h1 : alphaB x = false) (h2 : numB x = false) (h3 : signLen (x :: l) ≠ 0) : sgn (x :: l) = (0, 4, 0, signLen (x :: l)) := by
  unfold sgn
  simp only [h1, h2, h3, Bool.false_eq_true, if_false]
theorem sgn_none (h1 : alphaB x = false) (h2 : numB x = false) (h3 : signLen (x :: l) = 0) : sgn (x :: l) = (5, 0, 0, 0) := by
  unfold sgn
  simp only [h1, h2, h3, Bool.false_eq_true, if_true, if_false]
theorem sgn_word (h1 : alphaB x = true) (h2 : isWord ((x :: l).take (bodyLen (x :: l))) = true) : sgn (x :: l) = (0, 2, 0, bodyLen (x :: l)) := by
  unfold sgn
  simp only [h1, h2, if_true]
theorem sgn_long (h1 : alphaB x = true) (h2 : isWord ((x :: l).take (bodyLen (x :: l))) = false) (h3 : 16 < bodyLen (x :: l)) : sgn (x :: l) = (9, 0, 0, 0) := by
  unfold sgn
  simp only [h1, h2, h3, Bool.false_eq_true, if_true, if_false]
theorem sgn_name (h1 : alphaB x = true) (h2 : isWord ((x :: l).take (bodyLen (x :: l))) = false) (h3 : ¬ 16 < bodyLen (x :: l)) : sgn (x :: l) = (0, 1, 0, bodyLen (x :: l)) := by
  unfold sgn
  simp only [h1, h2, h3, Bool.false_eq_true, if_true, if_false]
end
theorem signLen_le (r : List UInt8) : signLen r ≤ r.length ∧ signLen r ≤ 2 := by
  unfold signLen
  match r with
  | [] => simp [two]
  | [a] => simp only [two, Bool.or_self, Bool.false_eq_true, if_false]; split <;> simp
  | a :: b :: l => split <;> (try split) <;> (try split) <;> simp
theorem digs_len (b : Nat) : ∀ (l : List UInt8), (digs b l).length ≤ l.length
  | [] => Nat.le_refl _
  | c :: l => by
    have := digs_len b l
    rw [digs]
    split <;> simp <;> omega
theorem base_len (r : List UInt8) : (baseOf r).2 ≤ r.length := by
  unfold baseOf
  split
  · rename_i h
    match r, h with
    | _ :: _ :: l, _ => simp
  · split
    · rename_i h
      match r, h with
      | _ :: _ :: l, _ => simp
    · split
      · rename_i h
        match r, h with
        | _ :: _ :: _ :: l, _ => simp
        | [_, _], h => simp [two] at h
        | [_], h => simp [two] at h
        | [], h => simp [two] at h
      · exact Nat.zero_le _
theorem number_len {r : List UInt8} {e : Int} {v n : Nat} (h : number r = (e, v, n)) : n ≤ r.length ∧ (e = 0 → 1 ≤ n) := by
  unfold number at h
  have h1 := digs_len (baseOf r).1 (r.drop (baseOf r).2)
  have h2 := base_len r
  rw [List.length_drop] at h1
  simp only at h
  split at h
  · cases h
    exact ⟨by omega, fun h => by cases h⟩
  · rename_i h3
    have h4 : digs (baseOf r).1 (r.drop (baseOf r).2) ≠ [] := by
      intro e
      rw [e] at h3
      simp at h3
    have h5 : 1 ≤ (digs (baseOf r).1 (r.drop (baseOf r).2)).length := by
      rcases Nat.eq_zero_or_pos (digs (baseOf r).1 (r.drop (baseOf r).2)).length with h | h
      · exact absurd (List.eq_nil_of_length_eq_zero h) h4
      · exact h
    split at h <;> cases h <;> exact ⟨by omega, fun _ => by omega⟩
theorem alpha_body {c : UInt8} (h : alphaB c = true) : bodyB c = true := by unfold bodyB; rw [h]; rfl
set_option maxRecDepth 100000 in
set_option maxHeartbeats 16000000 in
theorem ref_lex_any (s : ByteArray) (hs : s.size ≤ 20000) (w : World) : Calls Try.prog 9 #[.string s] w (GotL s w) := by
  have HS := Lib.hid hs
  have x4 := Box.new w #[.int .i64 0, .string ⟨#[]⟩, .int .i64 0, .int .i64 0, .int .i64 0] 26
  have hb4 := (Below.refl w.heap.size w).alloc (Nat.le_refl _) (.cells #[.int .i64 0, .string ⟨#[]⟩, .int .i64 0, .int .i64 0, .int .i64 0] 26)
  have hz4 : (w.alloc (.cells #[.int .i64 0, .string ⟨#[]⟩, .int .i64 0, .int .i64 0, .int .i64 0] 26)).heap.size = w.heap.size + 1 := by simp
  by_cases hlong : 16384 < s.size
  · have HL : Hid (lex s.data.toList = (13, [], atP (1, 1))) := Lib.hid (by
      unfold lex
      rw [size_len, if_pos hlong])
    have hlz : (16384 : Int) < s.size := by omega
    clear x4 hb4 hz4 hlong
    go_enter Try.func9, Try.ntmps9
    go_wp2
    refine bodyPost_ret (results_ttc rfl rfl (run_loadVar_mid _ w.heap.size 0 26 _ _ (Box.new w _ _).range rfl rfl (by kernel_rfl))) rfl ?_
    refine ⟨none, 0, 0, ?_, ?_, (Below.refl _ _).alloc (Nat.le_refl _) _⟩
    · rw [HL.out]; rfl
    · rw [HL.out]; exact Rd.none_ _ _ _ _
  · have HL : Hid (lex s.data.toList = lexF s.data.toList (s.size + 1) (dr s 0) []) := Lib.hid (by
      unfold lex
      rw [size_len, if_neg hlong]
      rfl)
    have hlz : ¬ ((16384 : Int) < s.size) := by omega
    have HSZ := Lib.hid (show s.size ≤ 16384 by omega)
    have X4 := Lib.hid x4
    have B4 := Lib.hid hb4
    have Z4 := Lib.hid hz4
    have GOT := Lib.hid (show ∀ e w', (∃ A n c, e = .returned (.tuple #[.slice A n c, .int .i64 (lex s.data.toList).1, .agg (tC (lex s.data.toList).2.2).toArray]) ∧ rr.Rd tC 5 w' w'.heap.size A n c (lex s.data.toList).2.1 ∧ Below w.heap.size w w') → GotL s w e w' from fun e w' h => h)
    obtain ⟨R, hR⟩ : ∃ R, lex s.data.toList = R := ⟨_, rfl⟩
    rw [hR] at HL GOT
    clear x4 hb4 hz4 hlong hR
    go_enter Try.func9, Try.ntmps9
    go_upto_region 5 with (fail)
    generalize w.alloc (.cells #[.int .i64 0, .string ⟨#[]⟩, .int .i64 0, .int .i64 0, .int .i64 0] 26) = w4 at *
    clear hlz
    go_loopw [5, 6] (fun s5 s6 wr => ∃ (n f : Nat) (acc : List Tk), n ≤ s.size ∧ s6 = .int .i64 n ∧ acc.length ≤ n ∧ rr.Ow tC 5 26 wr (w.heap.size + 1) s5 acc ∧ Box wr w.heap.size 0 [.int .i64 0, .string ⟨#[]⟩, .int .i64 0, .int .i64 0, .int .i64 0] ∧ Below w.heap.size w wr ∧ w.heap.size + 1 ≤ wr.heap.size ∧ s.size - n < f ∧ lexF s.data.toList f (dr s n) acc = R) (fun _ i _ => s.size - (intOf i).toNat)
    case atStart => exact ⟨0, s.size + 1, [], Nat.zero_le _, rfl, Nat.zero_le _, Ow.nil _ _ _ _ _, X4.out, B4.out, by rw [Z4.out]; exact Nat.le_refl _, by omega, HL.out.symm⟩
    case round =>
      obtain ⟨n, f, acc, hn, rfl, hacc, hO, hX, hB, hz, hf, hR⟩ := hrel
      clear X4 B4 Z4 HL
      have HO := Lib.hid hO
      have X4 := Lib.hid hX
      have HB := Lib.hid hB
      have HZ := Lib.hid hz
      have HA := Lib.hid hacc
      obtain ⟨f, rfl⟩ : ∃ f0, f = f0 + 1 := ⟨f - 1, by omega⟩
      have HF := Lib.hid hf
      obtain ⟨p1, p2, p3⟩ := pastN_dr (s := s) hn
      obtain ⟨m, hm⟩ : ∃ m, pastN s n = m := ⟨_, rfl⟩
      obtain ⟨ok, hok⟩ : ∃ ok, (past (dr s n)).1 = ok := ⟨_, rfl⟩
      have PA : Hid (∀ W, Calls Try.prog 16 #[.string s, .int .i64 n] W fun e w' => e = .returned (.tuple #[.int .i64 m, .bool ok]) ∧ W = w') := Lib.hid fun W => hm ▸ hok ▸ past_any s hs n hn W
      rw [hm] at p1 p2 p3
      have HP := plS_at s p3
      obtain ⟨⟨l, c⟩, hlc⟩ : ∃ q, plS s m = q := ⟨_, rfl⟩
      have PL : Hid (∀ W, Calls Try.prog 17 #[.string s, .int .i64 m] W fun e w' => e = .returned (.agg #[.int .i64 0, .string ⟨#[]⟩, .int .i64 0, .int .i64 l, .int .i64 c]) ∧ Below W.heap.size W w') := Lib.hid fun W => by
        have := place_any s hs m p3 W
        rwa [hlc] at this
      rw [hlc] at HP
      clear hO hX hB hz hacc hf hm
      cases ok
      · rw [lexF_bad hok, p1, HP] at hR
        have HR := Lib.hid hR
        clear hR hok p1 HP hlc
        go_wp2_with (first | (go_at_call 16; (with_reducible refine (PA.out _).mono ?_); rintro e w1 ⟨rfl, rfl⟩) | (go_at_call 17; (with_reducible refine (PL.out _).mono ?_); rintro e w1 ⟨rfl, hb⟩; have XA := Lib.hid (X4.out.below hb (by have := HZ.out; omega)); have BA := Lib.hid (HB.out.trans (hb.mono HB.out.size)); have ⟨c0, f0, c1, f1, c2, f2, c3, f3, c4, f4, _⟩ := XA.out; clear hb))
        obtain ⟨y, _, hB2⟩ := Box.puts (us := [.int .i64 0, .string ⟨#[]⟩, .int .i64 0, .int .i64 l, .int .i64 c]) XA.out rfl
        refine bodyPost_ret (results_ttc rfl rfl (run_loadVar_mid _ w.heap.size 0 26 _ _ y.range rfl rfl (by kernel_rfl))) rfl ?_
        refine GOT.out _ _ ⟨none, 0, 0, ?_, ?_, BA.out.trans (hB2 _ (Nat.le_refl _))⟩
        · rw [← HR.out]; rfl
        · rw [← HR.out]; exact Rd.none_ _ _ _ _
      · go_upto_region 11 with (first | (go_at_call 16; (with_reducible refine (PA.out _).mono ?_); rintro e w1 ⟨rfl, rfl⟩) | (go_at_call 17; (with_reducible refine (PL.out _).mono ?_); rintro e w1 ⟨rfl, hb⟩; have BR := Lib.hid hb; clear hb))
        obtain ⟨x9, x10, hb9, hz9⟩ := boxes2 (Below.refl ((w1.alloc (.cells #[.int .i64 0, .string ⟨#[]⟩, .int .i64 0, .int .i64 l, .int .i64 c] 26)).alloc (.cells #[.int .i64 0, .string ⟨#[]⟩, .int .i64 0, .int .i64 l, .int .i64 c] 26)).heap.size ((w1.alloc (.cells #[.int .i64 0, .string ⟨#[]⟩, .int .i64 0, .int .i64 l, .int .i64 c] 26)).alloc (.cells #[.int .i64 0, .string ⟨#[]⟩, .int .i64 0, .int .i64 l, .int .i64 c] 26)))
        have B3 := Lib.hid (BR.out.trans (hb9.mono BR.out.size))
        have h9 := BR.out.size
        generalize ((w1.alloc (.cells #[.int .i64 0, .string ⟨#[]⟩, .int .i64 0, .int .i64 l, .int .i64 c] 26)).alloc (.cells #[.int .i64 0, .string ⟨#[]⟩, .int .i64 0, .int .i64 l, .int .i64 c] 26)) = w3 at *
        generalize w1.heap.size = g9 at *
        have X9 := Lib.hid x9
        have X10 := Lib.hid x10
        have H9 := Lib.hid h9
        have Z9 := Lib.hid hz9
        have Y4 := Lib.hid (X4.out.below B3.out (Nat.lt_of_lt_of_le (Nat.lt_succ_self _) HZ.out))
        have C3 := Lib.hid (HB.out.trans (B3.out.mono HB.out.size))
        clear x9 x10 hb9 hz9 h9 BR
        by_cases hend : m = s.size
        · have hpl : plAt s.data.toList [] = (l, c) := by rw [← HP, hend, dr_end (Nat.le_refl _)]
          rw [lexF_end hok (by rw [p1, hend, dr_end (Nat.le_refl _)]), hpl] at hR
          have HR := Lib.hid hR
          have he : ((m : Int) == s.size) = true := by rw [beq_iff_eq]; omega
          clear hR hok p1 HP hlc hpl hend
          have ⟨a0, _, a1, _, a2, _, a3, _, a4, _, _⟩ := X9.out
          have hb6 := Below.alloc (Below.refl w3.heap.size w3) (Nat.le_refl _) (.cells #[.int .i64 0, .string ⟨#[]⟩, .int .i64 0, .int .i64 l, .int .i64 c] 26)
          have O6 := Lib.hid (HO.out.under (B3.out.trans (hb6.mono B3.out.size)))
          have B6 := Lib.hid ((B3.out.trans (hb6.mono B3.out.size)).mono HZ.out)
          have S6 := Lib.hid (show w.heap.size + 1 ≤ (w3.alloc (.cells #[.int .i64 0, .string ⟨#[]⟩, .int .i64 0, .int .i64 l, .int .i64 c] 26)).heap.size from Nat.le_trans HZ.out B6.out.size)
          have LM := Lib.hid (show acc.length + 1 ≤ 20000 by have := HA.out; have := HSZ.out; omega)
          clear hb6
          go_wp2_with (at_builtin; refine wpList_append_row tC_len (by omega) tC_one toks_slice tok_info rfl (by omega) _ rfl (.tmp 39) (.tmp 41) rfl (w.heap.size + 1) _ acc rfl O6.out (w3.heap.size + 1) (some ⟨w3.heap.size, 0, none⟩) 1 1 [atP (l, c)] rfl (one_row w3 _ (atP (l, c)) _ rfl) LM.out S6.out ?_; intro v1 w7 hown hg hat; have O7 := Lib.hid hown; have B7 := Lib.hid (O6.out.lays B6.out (Nat.le_refl _) HZ.out hg); have X7 := Lib.hid (X4.out.below B7.out (Nat.lt_succ_self _)); have ⟨b0, k0, b1, k1, b2, k2, b3, k3, b4, k4, _⟩ := X7.out; clear hown hg hat)
          obtain ⟨y, hsz, hB2⟩ := Box.puts (us := [.int .i64 0, .string ⟨#[]⟩, .int .i64 0, .int .i64 0, .int .i64 0]) X7.out rfl
          obtain ⟨A, cap, rfl, hr⟩ := form_above tC_len O7.out (Above.puts (vs := [.int .i64 0, .string ⟨#[]⟩, .int .i64 0, .int .i64 0, .int .i64 0]) (o := 0) (Nat.lt_succ_self _) (Above.refl _ _)) hsz
          refine bodyPost_ret (results_ttc rfl rfl (run_loadVar_mid _ w.heap.size 0 26 _ _ y.range rfl rfl (by kernel_rfl))) rfl ?_
          refine GOT.out _ _ ⟨A, (acc ++ [atP (l, c)]).length, cap, ?_, ?_, (HB.out.trans (B7.out.mono (Nat.le_succ _))).trans (hB2 _ (Nat.le_refl _))⟩
          · rw [← HR.out]; rfl
          · rw [← HR.out]; exact hr
        · have _ := hs
          have hml : m < s.size := by omega
          obtain ⟨x, hx⟩ : ∃ x : UInt8, s[m] = x := ⟨_, rfl⟩
          have hd := dr_at hml
          rw [hx] at hd
          have hz1 : (m : Int) < s.size := by omega
          have hz2 : ((m : Int) == s.size) = false := by rw [beq_eq_false_iff_ne]; omega
          have hne : (past (dr s n)).2 ≠ [] := by rw [p1, hd]; simp
          obtain ⟨al, hal⟩ : ∃ t, alphaB x = t := ⟨_, rfl⟩
          obtain ⟨nu, hnu⟩ : ∃ t, numB x = t := ⟨_, rfl⟩
          have AL : Hid (∀ W, Calls Try.prog 18 #[.int .u8 x.toNat] W fun e w' => e = .returned (.bool al) ∧ W = w') := Lib.hid fun W => hal ▸ alpha_any x W
          have NU : Hid (∀ W, Calls Try.prog 20 #[.int .u8 x.toNat] W fun e w' => e = .returned (.bool nu) ∧ W = w') := Lib.hid fun W => hnu ▸ num_any x W
          cases al
          · cases nu
            · obtain ⟨sl, hsl⟩ : ∃ t, signLen (dr s m) = t := ⟨_, rfl⟩
              have SI : Hid (∀ W, Calls Try.prog 22 #[.string s, .int .i64 m] W fun e w' => e = .returned (.int .i64 sl) ∧ Below W.heap.size W w') := Lib.hid fun W => hsl ▸ sign_any s hs m hml W
              have hs1 := signLen_le (dr s m)
              rw [hsl, dr_len] at hs1
              have w9 : IntKind.i64.wrap ((m : Int) + sl) = m + sl := by rw [IntKind.wrap_i64]; omega
              by_cases hs0 : sl = 0
              · subst hs0
                rw [lexF_err hok hne (by rw [p1, hd, sgn_none hal hnu (hd ▸ hsl)]; simp), p1, HP, hd, sgn_none hal hnu (hd ▸ hsl)] at hR
                have HR := Lib.hid hR
                clear hR hok p1 HP hlc hne hal hnu hd hsl hs1
                go_upto_region 31 with (first | (go_at_call 18; (with_reducible refine (AL.out _).mono ?_); rintro e w1 ⟨rfl, rfl⟩) | (go_at_call 20; (with_reducible refine (NU.out _).mono ?_); rintro e w1 ⟨rfl, rfl⟩) | (go_at_call 22; (with_reducible refine (SI.out _).mono ?_); rintro e w5 ⟨rfl, hb⟩; have X9 := Lib.hid (X9.out.below hb (by have := Z9.out; omega)); have X10 := Lib.hid (X10.out.below hb Z9.out); have Y4 := Lib.hid (Y4.out.below hb (by have := Z9.out; have := H9.out; have := HZ.out; omega)); have B3 := Lib.hid (B3.out.trans (hb.mono B3.out.size)); have C3 := Lib.hid (C3.out.trans (hb.mono C3.out.size)); have ⟨a0, k0, a1, k1, a2, k2, a3, k3, a4, k4, _⟩ := X9.out; clear hb))
                have hw9 : w.heap.size ≤ g9 := by have := H9.out; have := HZ.out; omega
                have X10 := Lib.hid (Box_aside (show g9 ≠ g9 + 1 by omega) (i := 0) (.int .i64 4) X10.out)
                have Y4 := Lib.hid (Box_aside (show g9 ≠ w.heap.size by have := H9.out; have := HZ.out; omega) (i := 0) (.int .i64 4) Y4.out)
                have C3 := Lib.hid (C3.out.setCell (p := ⟨g9, 0, none⟩) hw9 (.int .i64 4))
                generalize hW8 : w5.setCell ⟨g9, 0, none⟩ (.int .i64 4) = w8 at *
                clear hW8 a0 k0 a1 k1 a2 k2 a3 k3 a4 k4 AL NU SI w9
                have ⟨a0, _, a1, _, a2, _, a3, _, a4, _, _⟩ := X10.out
                have ⟨e0, k0, e1, k1, e2, k2, e3, k3, e4, k4, _⟩ := Y4.out
                go_region
                obtain ⟨y0, _, hB2⟩ := Box.puts (us := [.int .i64 0, .string ⟨#[]⟩, .int .i64 0, .int .i64 l, .int .i64 c]) Y4.out rfl
                have Y := Lib.hid (box_drew y0)
                have BY := Lib.hid (C3.out.trans (hB2 _ (Nat.le_refl _)).drew)
                clear y0 hB2
                go_wp2
                refine bodyPost_ret (results_ttc rfl rfl (run_loadVar_mid _ w.heap.size 0 26 _ _ Y.out.range rfl rfl (by kernel_rfl))) rfl ?_
                refine GOT.out _ _ ⟨none, 0, 0, ?_, ?_, BY.out⟩
                · rw [← HR.out]; rfl
                · rw [← HR.out]; exact Rd.none_ _ _ _ _
              · obtain ⟨en, hen⟩ : ∃ t, m + sl = t := ⟨_, rfl⟩
                have hsg : sgn (dr s m) = (0, 4, 0, sl) := by
                  rw [hd] at hsl ⊢
                  rw [sgn_sign hal hnu (by rw [hsl]; exact hs0), hsl]
                obtain ⟨T, hT⟩ : ∃ T, (dr s m).take sl = T := ⟨_, rfl⟩
                have hex : s.extract m en = ⟨T.toArray⟩ := by rw [extract_dr, ← hT, ← hen, show m + sl - m = sl by omega]
                rw [lexF_tok hok hne (by rw [p1, hsg])] at hR
                rw [p1, hsg, HP, dr_drop] at hR
                simp only at hR
                rw [hT, hen] at hR
                have HR := Lib.hid hR
                have EN := Lib.hid (show n + 1 ≤ en ∧ en ≤ s.size ∧ m < en by omega)
                have z1 : (m : Int) ≤ en := by omega
                have z2 : (en : Int) ≤ s.size := by omega
                have z3 : ((en : Int) == m) = false := by rw [beq_eq_false_iff_ne]; omega
                have z4 : (m : Int) + sl = en := by omega
                rw [z4] at w9
                clear hR hok p1 HP hlc hne hal hnu hd hsg hT hsl hs1 hen hs0
                go_upto_region 32 with (first | (go_at_call 18; (with_reducible refine (AL.out _).mono ?_); rintro e w1 ⟨rfl, rfl⟩) | (go_at_call 20; (with_reducible refine (NU.out _).mono ?_); rintro e w1 ⟨rfl, rfl⟩) | (go_at_call 22; (with_reducible refine (SI.out _).mono ?_); rintro e w5 ⟨rfl, hb⟩; have X9 := Lib.hid (X9.out.below hb (by have := Z9.out; omega)); have X10 := Lib.hid (X10.out.below hb Z9.out); have Y4 := Lib.hid (Y4.out.below hb (by have := Z9.out; have := H9.out; have := HZ.out; omega)); have B3 := Lib.hid (B3.out.trans (hb.mono B3.out.size)); have C3 := Lib.hid (C3.out.trans (hb.mono C3.out.size)); have ⟨a0, k0, a1, k1, a2, k2, a3, k3, a4, k4, _⟩ := X9.out; clear hb))
                have X9 := Lib.hid (X9.out.put 0 (by simp) (.int .i64 4))
                have B3 := Lib.hid (B3.out.setCell (p := ⟨g9, 0, none⟩) H9.out (.int .i64 4))
                generalize hW8 : w5.setCell ⟨g9, 0, none⟩ (.int .i64 4) = w8 at *
                clear hW8 a0 k0 a1 k1 a2 k2 a3 k3 a4 k4 AL NU SI w9 z3 z4
                have ⟨a0, k0, a1, k1, a2, k2, a3, k3, a4, k4, _⟩ := X9.out
                go_upto_region 33 with (fail)
                have x9 := X9.out.put 1 (by simp) (.string ⟨T.toArray⟩)
                have b9 := B3.out.setCell (p := ⟨g9, 1, none⟩) H9.out (.string ⟨T.toArray⟩)
                generalize hW9 : (w8.setCell ⟨g9, 1, none⟩ (.string ⟨T.toArray⟩)) = w9 at *
                clear hW9 a0 k0 a1 k1 a2 k2 a3 k3 a4 k4
                have ⟨a0, k0, a1, k1, a2, k2, a3, k3, a4, k4, _⟩ := x9
                have hb6 := Below.alloc (Below.refl w9.heap.size w9) (Nat.le_refl _) (.cells #[.int .i64 4, .string ⟨T.toArray⟩, .int .i64 0, .int .i64 l, .int .i64 c] 26)
                have O6 := Lib.hid (HO.out.under (b9.trans (hb6.mono b9.size)))
                have B6 := Lib.hid ((b9.trans (hb6.mono b9.size)).mono HZ.out)
                have S6 := Lib.hid (show w.heap.size + 1 ≤ (w9.alloc (.cells #[.int .i64 4, .string ⟨T.toArray⟩, .int .i64 0, .int .i64 l, .int .i64 c] 26)).heap.size from Nat.le_trans HZ.out B6.out.size)
                have LM := Lib.hid (show acc.length + 1 ≤ 20000 by have := HA.out; have := HSZ.out; omega)
                clear hb6 x9 b9
                go_wp2_with (at_builtin; refine wpList_append_row tC_len (by omega) tC_one toks_slice tok_info rfl (by omega) _ rfl (.tmp 107) (.tmp 109) rfl (w.heap.size + 1) _ acc rfl O6.out (w9.heap.size + 1) (some ⟨w9.heap.size, 0, none⟩) 1 1 [⟨4, T, 0, l, c⟩] rfl (one_row w9 _ (⟨4, T, 0, l, c⟩ : Tk) _ rfl) LM.out S6.out ?_; intro v1 w7 hown hg hat; have O7 := Lib.hid hown; have B7 := Lib.hid (O6.out.lays B6.out (Nat.le_refl _) HZ.out hg); clear hown hg hat)
                go_roundw
                case rel =>
                  have hE := EN.out
                  refine ⟨en, f, acc ++ [⟨4, T, 0, l, c⟩], hE.2.1, rfl, ?_, O7.out, X4.out.below B7.out (Nat.lt_succ_self _), HB.out.trans (B7.out.mono (Nat.le_succ _)), Nat.le_trans HZ.out B7.out.size, by have := HF.out; omega, ?_⟩
                  · rw [List.length_append]
                    have := HA.out
                    simp
                    omega
                  · rw [← HR.out]
                    try rfl
                case measure => have hE := EN.out; simp [intOf]; omega
            · have NM : Hid (∀ W, Calls Try.prog 21 #[.string s, .int .i64 m] W fun e w' => e = .returned (.tuple #[.int .i64 ((m + (number (dr s m)).2.2 : Nat) : Int), .int .i64 (number (dr s m)).2.1, .int .i64 (number (dr s m)).1]) ∧ W = w') := Lib.hid fun W => number_any s hs m hml W
              obtain ⟨⟨er, v, ln⟩, hnm⟩ : ∃ t, number (dr s m) = t := ⟨_, rfl⟩
              rw [hnm] at NM
              simp only at NM
              have hln : (er = 0 → 1 ≤ ln) ∧ m + ln ≤ s.size := by
                have h1 := number_len hnm
                rw [dr_len] at h1
                exact ⟨h1.2, by omega⟩
              by_cases her : er = 0
              · subst her
                obtain ⟨en, hen⟩ : ∃ t, m + ln = t := ⟨_, rfl⟩
                rw [hen] at NM
                have hl1 := hln.1 rfl
                have hsg : sgn (dr s m) = (0, 3, v, ln) := by
                  rw [hd] at hnm ⊢
                  exact sgn_num hal hnu hnm
                obtain ⟨T, hT⟩ : ∃ T, (dr s m).take ln = T := ⟨_, rfl⟩
                have hex : s.extract m en = ⟨T.toArray⟩ := by rw [extract_dr, ← hT, ← hen, show m + ln - m = ln by omega]
                rw [lexF_tok hok hne (by rw [p1, hsg])] at hR
                rw [p1, hsg, HP, dr_drop] at hR
                simp only at hR
                rw [hT, hen] at hR
                have HR := Lib.hid hR
                have EN := Lib.hid (show n + 1 ≤ en ∧ en ≤ s.size ∧ m < en by omega)
                have z1 : (m : Int) ≤ en := by omega
                have z2 : (en : Int) ≤ s.size := by omega
                clear hR hok p1 HP hlc hne hal hnu hd hsg hT hnm hln hl1 hen
                have ⟨a0, k0, a1, k1, a2, k2, a3, k3, a4, k4, _⟩ := X9.out
                go_upto_region 32 with (first | (go_at_call 18; (with_reducible refine (AL.out _).mono ?_); rintro e w1 ⟨rfl, rfl⟩) | (go_at_call 20; (with_reducible refine (NU.out _).mono ?_); rintro e w1 ⟨rfl, rfl⟩) | (go_at_call 21; (with_reducible refine (NM.out _).mono ?_); rintro e w1 ⟨rfl, rfl⟩))
                have X9 := Lib.hid ((X9.out.put 0 (by simp) (.int .i64 3)).put 2 (by simp) (.int .i64 v))
                have B3 := Lib.hid ((B3.out.setCell (p := ⟨g9, 0, none⟩) H9.out (.int .i64 3)).setCell (p := ⟨g9, 2, none⟩) H9.out (.int .i64 v))
                generalize hW8 : (w3.setCell ⟨g9, 0, none⟩ (.int .i64 3)).setCell ⟨g9, 2, none⟩ (.int .i64 v) = w8 at *
                clear hW8 a0 k0 a1 k1 a2 k2 a3 k3 a4 k4 AL NU NM
                have ⟨a0, k0, a1, k1, a2, k2, a3, k3, a4, k4, _⟩ := X9.out
                go_upto_region 33 with (fail)
                have x9 := X9.out.put 1 (by simp) (.string ⟨T.toArray⟩)
                have b9 := B3.out.setCell (p := ⟨g9, 1, none⟩) H9.out (.string ⟨T.toArray⟩)
                generalize hW9 : (w8.setCell ⟨g9, 1, none⟩ (.string ⟨T.toArray⟩)) = w9 at *
                clear hW9 a0 k0 a1 k1 a2 k2 a3 k3 a4 k4
                have ⟨a0, k0, a1, k1, a2, k2, a3, k3, a4, k4, _⟩ := x9
                have hb6 := Below.alloc (Below.refl w9.heap.size w9) (Nat.le_refl _) (.cells #[.int .i64 3, .string ⟨T.toArray⟩, .int .i64 v, .int .i64 l, .int .i64 c] 26)
                have O6 := Lib.hid (HO.out.under (b9.trans (hb6.mono b9.size)))
                have B6 := Lib.hid ((b9.trans (hb6.mono b9.size)).mono HZ.out)
                have S6 := Lib.hid (show w.heap.size + 1 ≤ (w9.alloc (.cells #[.int .i64 3, .string ⟨T.toArray⟩, .int .i64 v, .int .i64 l, .int .i64 c] 26)).heap.size from Nat.le_trans HZ.out B6.out.size)
                have LM := Lib.hid (show acc.length + 1 ≤ 20000 by have := HA.out; have := HSZ.out; omega)
                clear hb6 x9 b9
                go_wp2_with (at_builtin; refine wpList_append_row tC_len (by omega) tC_one toks_slice tok_info rfl (by omega) _ rfl (.tmp 107) (.tmp 109) rfl (w.heap.size + 1) _ acc rfl O6.out (w9.heap.size + 1) (some ⟨w9.heap.size, 0, none⟩) 1 1 [⟨3, T, v, l, c⟩] rfl (one_row w9 _ (⟨3, T, v, l, c⟩ : Tk) _ rfl) LM.out S6.out ?_; intro v1 w7 hown hg hat; have O7 := Lib.hid hown; have B7 := Lib.hid (O6.out.lays B6.out (Nat.le_refl _) HZ.out hg); clear hown hg hat)
                go_roundw
                case rel =>
                  have hE := EN.out
                  refine ⟨en, f, acc ++ [⟨3, T, v, l, c⟩], hE.2.1, rfl, ?_, O7.out, X4.out.below B7.out (Nat.lt_succ_self _), HB.out.trans (B7.out.mono (Nat.le_succ _)), Nat.le_trans HZ.out B7.out.size, by have := HF.out; omega, ?_⟩
                  · rw [List.length_append]
                    have := HA.out
                    simp
                    omega
                  · rw [← HR.out]
                    try rfl
                case measure => have hE := EN.out; simp [intOf]; omega
              · have herz : (er != 0) = true := by rw [bne_iff_ne]; exact her
                rw [lexF_err hok hne (by rw [p1, hd, sgn_nume hal hnu (hd ▸ hnm) her]; exact her), p1, HP, hd, sgn_nume hal hnu (hd ▸ hnm) her] at hR
                have HR := Lib.hid hR
                clear hR hok p1 HP hlc hne hal hnu hd hnm hln her
                go_upto_region 25 with (first | (go_at_call 18; (with_reducible refine (AL.out _).mono ?_); rintro e w1 ⟨rfl, rfl⟩) | (go_at_call 20; (with_reducible refine (NU.out _).mono ?_); rintro e w1 ⟨rfl, rfl⟩) | (go_at_call 21; (with_reducible refine (NM.out _).mono ?_); rintro e w1 ⟨rfl, rfl⟩))
                clear AL NU NM
                have ⟨a0, _, a1, _, a2, _, a3, _, a4, _, _⟩ := X10.out
                have ⟨e0, k0, e1, k1, e2, k2, e3, k3, e4, k4, _⟩ := Y4.out
                go_region
                obtain ⟨y0, _, hB2⟩ := Box.puts (us := [.int .i64 0, .string ⟨#[]⟩, .int .i64 0, .int .i64 l, .int .i64 c]) Y4.out rfl
                have Y := Lib.hid (box_drew y0)
                have BY := Lib.hid (C3.out.trans (hB2 _ (Nat.le_refl _)).drew)
                clear y0 hB2
                go_wp2
                refine bodyPost_ret (results_ttc rfl rfl (run_loadVar_mid _ w.heap.size 0 26 _ _ Y.out.range rfl rfl (by kernel_rfl))) rfl ?_
                refine GOT.out _ _ ⟨none, 0, 0, ?_, ?_, BY.out⟩
                · rw [← HR.out]; rfl
                · rw [← HR.out]; exact Rd.none_ _ _ _ _
          · obtain ⟨Lb, hLb⟩ : ∃ t, bodyLen (dr s m) = t := ⟨_, rfl⟩
            have hl1 : 1 ≤ Lb := by rw [← hLb, hd, bodyLen, if_pos (alpha_body hal)]; omega
            have hl2 : m + Lb ≤ s.size := by have := bodyLen_le (dr s m); rw [hLb, dr_len] at this; omega
            obtain ⟨en, hen⟩ : ∃ t, m + Lb = t := ⟨_, rfl⟩
            obtain ⟨T, hT⟩ : ∃ T, (dr s m).take Lb = T := ⟨_, rfl⟩
            have hex : s.extract m en = ⟨T.toArray⟩ := by rw [extract_dr, ← hT, ← hen, show m + Lb - m = Lb by omega]
            obtain ⟨wb, hwb⟩ : ∃ t, isWord T = t := ⟨_, rfl⟩
            have WD : Hid (∀ W, Calls Try.prog 12 #[.string ⟨T.toArray⟩] W fun e w' => e = .returned (.bool wb) ∧ Below W.heap.size W w') := Lib.hid fun W => by
              have h := word_any ⟨T.toArray⟩ W
              rwa [show (⟨T.toArray⟩ : ByteArray).data.toList = T from rfl, hwb] at h
            have BO := Lib.hid fun y W => body_any y W
            have LB := Lib.hid hLb
            have hw : isWord ((x :: dr s (m + 1)).take (bodyLen (x :: dr s (m + 1)))) = wb := by rw [← hd, hLb, hT, hwb]
            have hlb2 : bodyLen (x :: dr s (m + 1)) = Lb := by rw [← hd, hLb]
            go_upto_region 15 with (first | (go_at_call 18; (with_reducible refine (AL.out _).mono ?_); rintro e w1 ⟨rfl, rfl⟩) | (go_at_call 20; (with_reducible refine (NU.out _).mono ?_); rintro e w1 ⟨rfl, rfl⟩))
            have EN := Lib.hid (show n + 1 ≤ en ∧ en ≤ s.size ∧ m < en by omega)
            go_loopw [11] (fun s11 wr2 => ∃ e : Nat, m ≤ e ∧ e ≤ en ∧ s11 = .int .i64 e ∧ e - m + bodyLen (dr s e) = Lb ∧ w3 = wr2) (fun i _ => s.size - (intOf i).toNat)
            case atStart => exact ⟨m, Nat.le_refl _, by omega, rfl, by rw [LB.out]; omega, rfl⟩
            case round =>
              obtain ⟨e, hme, hee, rfl, hbl, rfl⟩ := hrel
              clear AL NU
              by_cases hle : e < s.size
              · obtain ⟨y, hy⟩ : ∃ y : UInt8, s[e] = y := ⟨_, rfl⟩
                have hde := dr_at hle
                rw [hy] at hde
                have hze : (e : Int) < s.size := by omega
                have wz : IntKind.i64.wrap ((e : Int) + 1) = e + 1 := by rw [IntKind.wrap_i64]; omega
                obtain ⟨by_, hby⟩ : ∃ t, bodyB y = t := ⟨_, rfl⟩
                have BY := Lib.hid fun W => BO.out y W
                rw [hby] at BY
                rw [hde, bodyLen, hby] at hbl
                cases by_
                · rw [if_neg (by simp)] at hbl
                  obtain rfl : e = en := by omega
                  clear hbl hde hby BO LB
                  have z1 : (m : Int) ≤ e := by omega
                  have z2 : (e : Int) ≤ s.size := by omega
                  have w10 : IntKind.i64.wrap ((e : Int) - m) = e - m := by rw [IntKind.wrap_i64]; omega
                  have ⟨a0, k0, a1, k1, a2, k2, a3, k3, a4, k4, _⟩ := X9.out
                  go_upto_region 18 with (go_at_call 19; (with_reducible refine (BY.out _).mono ?_); rintro e w1 ⟨rfl, rfl⟩)
                  have hw9 : w.heap.size ≤ g9 := by have := H9.out; have := HZ.out; omega
                  have X9 := Lib.hid (X9.out.put 0 (by simp) (.int .i64 1))
                  have X10 := Lib.hid (Box_aside (show g9 ≠ g9 + 1 by omega) (i := 0) (.int .i64 1) X10.out)
                  have Y4 := Lib.hid (Box_aside (show g9 ≠ w.heap.size by have := H9.out; have := HZ.out; omega) (i := 0) (.int .i64 1) Y4.out)
                  have C3 := Lib.hid (C3.out.setCell (p := ⟨g9, 0, none⟩) hw9 (.int .i64 1))
                  have B3 := Lib.hid (B3.out.setCell (p := ⟨g9, 0, none⟩) H9.out (.int .i64 1))
                  have Z9 : Hid (g9 + 1 < (w3.setCell ⟨g9, 0, none⟩ (.int .i64 1)).heap.size) := Lib.hid (by have := Z9.out; simpa using this)
                  generalize hW8 : w3.setCell ⟨g9, 0, none⟩ (.int .i64 1) = wa at *
                  clear hW8 a0 k0 a1 k1 a2 k2 a3 k3 a4 k4
                  cases wb
                  · by_cases h16 : 16 < Lb
                    · have hz16 : (16 : Int) < (e : Int) - m := by omega
                      rw [lexF_err hok hne (by rw [p1, hd, sgn_long hal hw (by rw [hlb2]; exact h16)]; simp), p1, HP, hd, sgn_long hal hw (by rw [hlb2]; exact h16)] at hR
                      have HR := Lib.hid hR
                      clear hR hok p1 HP hlc hne hal hnu hd hT hw hlb2 hwb hen
                      go_upto_region 21 with (go_at_call 12; (with_reducible refine (WD.out _).mono ?_); rintro e0 w5 ⟨rfl, hb⟩; have X9 := Lib.hid (X9.out.below hb (by have := Z9.out; omega)); have X10 := Lib.hid (X10.out.below hb Z9.out); have Y4 := Lib.hid (Y4.out.below hb (by have := Z9.out; have := H9.out; have := HZ.out; omega)); have B3 := Lib.hid (B3.out.trans (hb.mono B3.out.size)); have C3 := Lib.hid (C3.out.trans (hb.mono C3.out.size)); have ⟨a0, k0, a1, k1, a2, k2, a3, k3, a4, k4, _⟩ := X9.out; clear hb)
                      clear a0 k0 a1 k1 a2 k2 a3 k3 a4 k4 WD w10 hz16
                      have ⟨a0, _, a1, _, a2, _, a3, _, a4, _, _⟩ := X10.out
                      have ⟨e0, k0, e1, k1, e2, k2, e3, k3, e4, k4, _⟩ := Y4.out
                      go_region
                      obtain ⟨y0, _, hB2⟩ := Box.puts (us := [.int .i64 0, .string ⟨#[]⟩, .int .i64 0, .int .i64 l, .int .i64 c]) Y4.out rfl
                      have Y := Lib.hid (box_drew y0)
                      have BY := Lib.hid (C3.out.trans (hB2 _ (Nat.le_refl _)).drew)
                      clear y0 hB2
                      go_wp2
                      refine bodyPost_ret (results_ttc rfl rfl (run_loadVar_mid _ w.heap.size 0 26 _ _ Y.out.range rfl rfl (by kernel_rfl))) rfl ?_
                      refine GOT.out _ _ ⟨none, 0, 0, ?_, ?_, BY.out⟩
                      · rw [← HR.out]; rfl
                      · rw [← HR.out]; exact Rd.none_ _ _ _ _
                    · have hz16 : ¬ ((16 : Int) < (e : Int) - m) := by omega
                      have hsg : sgn (dr s m) = (0, 1, 0, Lb) := by rw [hd, sgn_name hal hw (by rw [hlb2]; exact h16), hlb2]
                      rw [lexF_tok hok hne (by rw [p1, hsg])] at hR
                      rw [p1, hsg, HP, dr_drop] at hR
                      simp only at hR
                      rw [hT, hen] at hR
                      have HR := Lib.hid hR
                      clear hR hok p1 HP hlc hne hal hnu hd hT hw hlb2 hwb hen hsg
                      go_upto_region 32 with (go_at_call 12; (with_reducible refine (WD.out _).mono ?_); rintro e0 w5 ⟨rfl, hb⟩; have X9 := Lib.hid (X9.out.below hb (by have := Z9.out; omega)); have X10 := Lib.hid (X10.out.below hb Z9.out); have Y4 := Lib.hid (Y4.out.below hb (by have := Z9.out; have := H9.out; have := HZ.out; omega)); have B3 := Lib.hid (B3.out.trans (hb.mono B3.out.size)); have C3 := Lib.hid (C3.out.trans (hb.mono C3.out.size)); have ⟨a0, k0, a1, k1, a2, k2, a3, k3, a4, k4, _⟩ := X9.out; clear hb)
                      clear a0 k0 a1 k1 a2 k2 a3 k3 a4 k4 WD w10 hz16
                      have ⟨a0, k0, a1, k1, a2, k2, a3, k3, a4, k4, _⟩ := X9.out
                      go_upto_region 33 with (fail)
                      have x9 := X9.out.put 1 (by simp) (.string ⟨T.toArray⟩)
                      have b9 := B3.out.setCell (p := ⟨g9, 1, none⟩) H9.out (.string ⟨T.toArray⟩)
                      generalize hW9 : (w5.setCell ⟨g9, 1, none⟩ (.string ⟨T.toArray⟩)) = w9 at *
                      clear hW9 a0 k0 a1 k1 a2 k2 a3 k3 a4 k4
                      have ⟨a0, k0, a1, k1, a2, k2, a3, k3, a4, k4, _⟩ := x9
                      have hb6 := Below.alloc (Below.refl w9.heap.size w9) (Nat.le_refl _) (.cells #[.int .i64 1, .string ⟨T.toArray⟩, .int .i64 0, .int .i64 l, .int .i64 c] 26)
                      have O6 := Lib.hid (HO.out.under (b9.trans (hb6.mono b9.size)))
                      have B6 := Lib.hid ((b9.trans (hb6.mono b9.size)).mono HZ.out)
                      have S6 := Lib.hid (show w.heap.size + 1 ≤ (w9.alloc (.cells #[.int .i64 1, .string ⟨T.toArray⟩, .int .i64 0, .int .i64 l, .int .i64 c] 26)).heap.size from Nat.le_trans HZ.out B6.out.size)
                      have LM := Lib.hid (show acc.length + 1 ≤ 20000 by have := HA.out; have := HSZ.out; omega)
                      clear hb6 x9 b9
                      go_wp2_with (at_builtin; refine wpList_append_row tC_len (by omega) tC_one toks_slice tok_info rfl (by omega) _ rfl (.tmp 107) (.tmp 109) rfl (w.heap.size + 1) _ acc rfl O6.out (w9.heap.size + 1) (some ⟨w9.heap.size, 0, none⟩) 1 1 [⟨1, T, 0, l, c⟩] rfl (one_row w9 _ (⟨1, T, 0, l, c⟩ : Tk) _ rfl) LM.out S6.out ?_; intro v1 w7 hown hg hat; have O7 := Lib.hid hown; have B7 := Lib.hid (O6.out.lays B6.out (Nat.le_refl _) HZ.out hg); clear hown hg hat)
                      go_roundw
                      case rel =>
                        have hE := EN.out
                        refine ⟨e, f, acc ++ [⟨1, T, 0, l, c⟩], hE.2.1, rfl, ?_, O7.out, X4.out.below B7.out (Nat.lt_succ_self _), HB.out.trans (B7.out.mono (Nat.le_succ _)), Nat.le_trans HZ.out B7.out.size, by have := HF.out; omega, ?_⟩
                        · rw [List.length_append]
                          have := HA.out
                          simp
                          omega
                        · rw [← HR.out]
                          try rfl
                      case measure => have hE := EN.out; simp [intOf]; omega
                  · have hsg : sgn (dr s m) = (0, 2, 0, Lb) := by rw [hd, sgn_word hal hw, hlb2]
                    rw [lexF_tok hok hne (by rw [p1, hsg])] at hR
                    rw [p1, hsg, HP, dr_drop] at hR
                    simp only at hR
                    rw [hT, hen] at hR
                    have HR := Lib.hid hR
                    clear hR hok p1 HP hlc hne hal hnu hd hT hw hlb2 hwb hen hsg
                    go_upto_region 32 with (go_at_call 12; (with_reducible refine (WD.out _).mono ?_); rintro e0 w5 ⟨rfl, hb⟩; have X9 := Lib.hid (X9.out.below hb (by have := Z9.out; omega)); have X10 := Lib.hid (X10.out.below hb Z9.out); have Y4 := Lib.hid (Y4.out.below hb (by have := Z9.out; have := H9.out; have := HZ.out; omega)); have B3 := Lib.hid (B3.out.trans (hb.mono B3.out.size)); have C3 := Lib.hid (C3.out.trans (hb.mono C3.out.size)); have ⟨a0, k0, a1, k1, a2, k2, a3, k3, a4, k4, _⟩ := X9.out; clear hb)
                    have X9 := Lib.hid (X9.out.put 0 (by simp) (.int .i64 2))
                    have B3 := Lib.hid (B3.out.setCell (p := ⟨g9, 0, none⟩) H9.out (.int .i64 2))
                    generalize hW8 : w5.setCell ⟨g9, 0, none⟩ (.int .i64 2) = w8 at *
                    clear hW8 a0 k0 a1 k1 a2 k2 a3 k3 a4 k4 WD w10
                    have ⟨a0, k0, a1, k1, a2, k2, a3, k3, a4, k4, _⟩ := X9.out
                    go_upto_region 33 with (fail)
                    have x9 := X9.out.put 1 (by simp) (.string ⟨T.toArray⟩)
                    have b9 := B3.out.setCell (p := ⟨g9, 1, none⟩) H9.out (.string ⟨T.toArray⟩)
                    generalize hW9 : (w8.setCell ⟨g9, 1, none⟩ (.string ⟨T.toArray⟩)) = w9 at *
                    clear hW9 a0 k0 a1 k1 a2 k2 a3 k3 a4 k4
                    have ⟨a0, k0, a1, k1, a2, k2, a3, k3, a4, k4, _⟩ := x9
                    have hb6 := Below.alloc (Below.refl w9.heap.size w9) (Nat.le_refl _) (.cells #[.int .i64 2, .string ⟨T.toArray⟩, .int .i64 0, .int .i64 l, .int .i64 c] 26)
                    have O6 := Lib.hid (HO.out.under (b9.trans (hb6.mono b9.size)))
                    have B6 := Lib.hid ((b9.trans (hb6.mono b9.size)).mono HZ.out)
                    have S6 := Lib.hid (show w.heap.size + 1 ≤ (w9.alloc (.cells #[.int .i64 2, .string ⟨T.toArray⟩, .int .i64 0, .int .i64 l, .int .i64 c] 26)).heap.size from Nat.le_trans HZ.out B6.out.size)
                    have LM := Lib.hid (show acc.length + 1 ≤ 20000 by have := HA.out; have := HSZ.out; omega)
                    clear hb6 x9 b9
                    go_wp2_with (at_builtin; refine wpList_append_row tC_len (by omega) tC_one toks_slice tok_info rfl (by omega) _ rfl (.tmp 107) (.tmp 109) rfl (w.heap.size + 1) _ acc rfl O6.out (w9.heap.size + 1) (some ⟨w9.heap.size, 0, none⟩) 1 1 [⟨2, T, 0, l, c⟩] rfl (one_row w9 _ (⟨2, T, 0, l, c⟩ : Tk) _ rfl) LM.out S6.out ?_; intro v1 w7 hown hg hat; have O7 := Lib.hid hown; have B7 := Lib.hid (O6.out.lays B6.out (Nat.le_refl _) HZ.out hg); clear hown hg hat)
                    go_roundw
                    case rel =>
                      have hE := EN.out
                      refine ⟨e, f, acc ++ [⟨2, T, 0, l, c⟩], hE.2.1, rfl, ?_, O7.out, X4.out.below B7.out (Nat.lt_succ_self _), HB.out.trans (B7.out.mono (Nat.le_succ _)), Nat.le_trans HZ.out B7.out.size, by have := HF.out; omega, ?_⟩
                      · rw [List.length_append]
                        have := HA.out
                        simp
                        omega
                      · rw [← HR.out]
                        try rfl
                    case measure => have hE := EN.out; simp [intOf]; omega
                · rw [if_pos rfl] at hbl
                  have HB2 := Lib.hid (show e + 1 ≤ en ∧ e + 1 - m + bodyLen (dr s (e + 1)) = Lb by omega)
                  clear hbl hde hby BO LB hR hok p1 HP hlc hne hal hnu hd hex hT hw hlb2 hwb hen
                  go_wp2_with (go_at_call 19; (with_reducible refine (BY.out _).mono ?_); rintro e w1 ⟨rfl, rfl⟩)
                  go_roundw
                  case rel => exact ⟨e + 1, by omega, HB2.out.1, by go_num, HB2.out.2, trivial⟩
                  case measure => simp [intOf]; omega
              · have hde := dr_end (s := s) (n := e) (by omega)
                rw [hde] at hbl
                simp only [bodyLen, Nat.add_zero] at hbl
                obtain rfl : e = en := by omega
                have hze : ¬ ((e : Int) < s.size) := by omega
                clear hbl hde hle hme hee BO LB
                have z1 : (m : Int) ≤ e := by omega
                have z2 : (e : Int) ≤ s.size := by omega
                have w10 : IntKind.i64.wrap ((e : Int) - m) = e - m := by rw [IntKind.wrap_i64]; omega
                have ⟨a0, k0, a1, k1, a2, k2, a3, k3, a4, k4, _⟩ := X9.out
                go_upto_region 18 with (fail)
                have hw9 : w.heap.size ≤ g9 := by have := H9.out; have := HZ.out; omega
                have X9 := Lib.hid (X9.out.put 0 (by simp) (.int .i64 1))
                have X10 := Lib.hid (Box_aside (show g9 ≠ g9 + 1 by omega) (i := 0) (.int .i64 1) X10.out)
                have Y4 := Lib.hid (Box_aside (show g9 ≠ w.heap.size by have := H9.out; have := HZ.out; omega) (i := 0) (.int .i64 1) Y4.out)
                have C3 := Lib.hid (C3.out.setCell (p := ⟨g9, 0, none⟩) hw9 (.int .i64 1))
                have B3 := Lib.hid (B3.out.setCell (p := ⟨g9, 0, none⟩) H9.out (.int .i64 1))
                have Z9 : Hid (g9 + 1 < (w3.setCell ⟨g9, 0, none⟩ (.int .i64 1)).heap.size) := Lib.hid (by have := Z9.out; simpa using this)
                generalize hW8 : w3.setCell ⟨g9, 0, none⟩ (.int .i64 1) = wa at *
                clear hW8 a0 k0 a1 k1 a2 k2 a3 k3 a4 k4
                cases wb
                · by_cases h16 : 16 < Lb
                  · have hz16 : (16 : Int) < (e : Int) - m := by omega
                    rw [lexF_err hok hne (by rw [p1, hd, sgn_long hal hw (by rw [hlb2]; exact h16)]; simp), p1, HP, hd, sgn_long hal hw (by rw [hlb2]; exact h16)] at hR
                    have HR := Lib.hid hR
                    clear hR hok p1 HP hlc hne hal hnu hd hT hw hlb2 hwb hen
                    go_upto_region 21 with (go_at_call 12; (with_reducible refine (WD.out _).mono ?_); rintro e0 w5 ⟨rfl, hb⟩; have X9 := Lib.hid (X9.out.below hb (by have := Z9.out; omega)); have X10 := Lib.hid (X10.out.below hb Z9.out); have Y4 := Lib.hid (Y4.out.below hb (by have := Z9.out; have := H9.out; have := HZ.out; omega)); have B3 := Lib.hid (B3.out.trans (hb.mono B3.out.size)); have C3 := Lib.hid (C3.out.trans (hb.mono C3.out.size)); have ⟨a0, k0, a1, k1, a2, k2, a3, k3, a4, k4, _⟩ := X9.out; clear hb)
                    clear a0 k0 a1 k1 a2 k2 a3 k3 a4 k4 WD w10 hz16
                    have ⟨a0, _, a1, _, a2, _, a3, _, a4, _, _⟩ := X10.out
                    have ⟨e0, k0, e1, k1, e2, k2, e3, k3, e4, k4, _⟩ := Y4.out
                    go_region
                    obtain ⟨y0, _, hB2⟩ := Box.puts (us := [.int .i64 0, .string ⟨#[]⟩, .int .i64 0, .int .i64 l, .int .i64 c]) Y4.out rfl
                    have Y := Lib.hid (box_drew y0)
                    have BY := Lib.hid (C3.out.trans (hB2 _ (Nat.le_refl _)).drew)
                    clear y0 hB2
                    go_wp2
                    refine bodyPost_ret (results_ttc rfl rfl (run_loadVar_mid _ w.heap.size 0 26 _ _ Y.out.range rfl rfl (by kernel_rfl))) rfl ?_
                    refine GOT.out _ _ ⟨none, 0, 0, ?_, ?_, BY.out⟩
                    · rw [← HR.out]; rfl
                    · rw [← HR.out]; exact Rd.none_ _ _ _ _
                  · have hz16 : ¬ ((16 : Int) < (e : Int) - m) := by omega
                    have hsg : sgn (dr s m) = (0, 1, 0, Lb) := by rw [hd, sgn_name hal hw (by rw [hlb2]; exact h16), hlb2]
                    rw [lexF_tok hok hne (by rw [p1, hsg])] at hR
                    rw [p1, hsg, HP, dr_drop] at hR
                    simp only at hR
                    rw [hT, hen] at hR
                    have HR := Lib.hid hR
                    clear hR hok p1 HP hlc hne hal hnu hd hT hw hlb2 hwb hen hsg
                    go_upto_region 32 with (go_at_call 12; (with_reducible refine (WD.out _).mono ?_); rintro e0 w5 ⟨rfl, hb⟩; have X9 := Lib.hid (X9.out.below hb (by have := Z9.out; omega)); have X10 := Lib.hid (X10.out.below hb Z9.out); have Y4 := Lib.hid (Y4.out.below hb (by have := Z9.out; have := H9.out; have := HZ.out; omega)); have B3 := Lib.hid (B3.out.trans (hb.mono B3.out.size)); have C3 := Lib.hid (C3.out.trans (hb.mono C3.out.size)); have ⟨a0, k0, a1, k1, a2, k2, a3, k3, a4, k4, _⟩ := X9.out; clear hb)
                    clear a0 k0 a1 k1 a2 k2 a3 k3 a4 k4 WD w10 hz16
                    have ⟨a0, k0, a1, k1, a2, k2, a3, k3, a4, k4, _⟩ := X9.out
                    go_upto_region 33 with (fail)
                    have x9 := X9.out.put 1 (by simp) (.string ⟨T.toArray⟩)
                    have b9 := B3.out.setCell (p := ⟨g9, 1, none⟩) H9.out (.string ⟨T.toArray⟩)
                    generalize hW9 : (w5.setCell ⟨g9, 1, none⟩ (.string ⟨T.toArray⟩)) = w9 at *
                    clear hW9 a0 k0 a1 k1 a2 k2 a3 k3 a4 k4
                    have ⟨a0, k0, a1, k1, a2, k2, a3, k3, a4, k4, _⟩ := x9
                    have hb6 := Below.alloc (Below.refl w9.heap.size w9) (Nat.le_refl _) (.cells #[.int .i64 1, .string ⟨T.toArray⟩, .int .i64 0, .int .i64 l, .int .i64 c] 26)
                    have O6 := Lib.hid (HO.out.under (b9.trans (hb6.mono b9.size)))
                    have B6 := Lib.hid ((b9.trans (hb6.mono b9.size)).mono HZ.out)
                    have S6 := Lib.hid (show w.heap.size + 1 ≤ (w9.alloc (.cells #[.int .i64 1, .string ⟨T.toArray⟩, .int .i64 0, .int .i64 l, .int .i64 c] 26)).heap.size from Nat.le_trans HZ.out B6.out.size)
                    have LM := Lib.hid (show acc.length + 1 ≤ 20000 by have := HA.out; have := HSZ.out; omega)
                    clear hb6 x9 b9
                    go_wp2_with (at_builtin; refine wpList_append_row tC_len (by omega) tC_one toks_slice tok_info rfl (by omega) _ rfl (.tmp 107) (.tmp 109) rfl (w.heap.size + 1) _ acc rfl O6.out (w9.heap.size + 1) (some ⟨w9.heap.size, 0, none⟩) 1 1 [⟨1, T, 0, l, c⟩] rfl (one_row w9 _ (⟨1, T, 0, l, c⟩ : Tk) _ rfl) LM.out S6.out ?_; intro v1 w7 hown hg hat; have O7 := Lib.hid hown; have B7 := Lib.hid (O6.out.lays B6.out (Nat.le_refl _) HZ.out hg); clear hown hg hat)
                    go_roundw
                    case rel =>
                      have hE := EN.out
                      refine ⟨e, f, acc ++ [⟨1, T, 0, l, c⟩], hE.2.1, rfl, ?_, O7.out, X4.out.below B7.out (Nat.lt_succ_self _), HB.out.trans (B7.out.mono (Nat.le_succ _)), Nat.le_trans HZ.out B7.out.size, by have := HF.out; omega, ?_⟩
                      · rw [List.length_append]
                        have := HA.out
                        simp
                        omega
                      · rw [← HR.out]
                        try rfl
                    case measure => have hE := EN.out; simp [intOf]; omega
                · have hsg : sgn (dr s m) = (0, 2, 0, Lb) := by rw [hd, sgn_word hal hw, hlb2]
                  rw [lexF_tok hok hne (by rw [p1, hsg])] at hR
                  rw [p1, hsg, HP, dr_drop] at hR
                  simp only at hR
                  rw [hT, hen] at hR
                  have HR := Lib.hid hR
                  clear hR hok p1 HP hlc hne hal hnu hd hT hw hlb2 hwb hen hsg
                  go_upto_region 32 with (go_at_call 12; (with_reducible refine (WD.out _).mono ?_); rintro e0 w5 ⟨rfl, hb⟩; have X9 := Lib.hid (X9.out.below hb (by have := Z9.out; omega)); have X10 := Lib.hid (X10.out.below hb Z9.out); have Y4 := Lib.hid (Y4.out.below hb (by have := Z9.out; have := H9.out; have := HZ.out; omega)); have B3 := Lib.hid (B3.out.trans (hb.mono B3.out.size)); have C3 := Lib.hid (C3.out.trans (hb.mono C3.out.size)); have ⟨a0, k0, a1, k1, a2, k2, a3, k3, a4, k4, _⟩ := X9.out; clear hb)
                  have X9 := Lib.hid (X9.out.put 0 (by simp) (.int .i64 2))
                  have B3 := Lib.hid (B3.out.setCell (p := ⟨g9, 0, none⟩) H9.out (.int .i64 2))
                  generalize hW8 : w5.setCell ⟨g9, 0, none⟩ (.int .i64 2) = w8 at *
                  clear hW8 a0 k0 a1 k1 a2 k2 a3 k3 a4 k4 WD w10
                  have ⟨a0, k0, a1, k1, a2, k2, a3, k3, a4, k4, _⟩ := X9.out
                  go_upto_region 33 with (fail)
                  have x9 := X9.out.put 1 (by simp) (.string ⟨T.toArray⟩)
                  have b9 := B3.out.setCell (p := ⟨g9, 1, none⟩) H9.out (.string ⟨T.toArray⟩)
                  generalize hW9 : (w8.setCell ⟨g9, 1, none⟩ (.string ⟨T.toArray⟩)) = w9 at *
                  clear hW9 a0 k0 a1 k1 a2 k2 a3 k3 a4 k4
                  have ⟨a0, k0, a1, k1, a2, k2, a3, k3, a4, k4, _⟩ := x9
                  have hb6 := Below.alloc (Below.refl w9.heap.size w9) (Nat.le_refl _) (.cells #[.int .i64 2, .string ⟨T.toArray⟩, .int .i64 0, .int .i64 l, .int .i64 c] 26)
                  have O6 := Lib.hid (HO.out.under (b9.trans (hb6.mono b9.size)))
                  have B6 := Lib.hid ((b9.trans (hb6.mono b9.size)).mono HZ.out)
                  have S6 := Lib.hid (show w.heap.size + 1 ≤ (w9.alloc (.cells #[.int .i64 2, .string ⟨T.toArray⟩, .int .i64 0, .int .i64 l, .int .i64 c] 26)).heap.size from Nat.le_trans HZ.out B6.out.size)
                  have LM := Lib.hid (show acc.length + 1 ≤ 20000 by have := HA.out; have := HSZ.out; omega)
                  clear hb6 x9 b9
                  go_wp2_with (at_builtin; refine wpList_append_row tC_len (by omega) tC_one toks_slice tok_info rfl (by omega) _ rfl (.tmp 107) (.tmp 109) rfl (w.heap.size + 1) _ acc rfl O6.out (w9.heap.size + 1) (some ⟨w9.heap.size, 0, none⟩) 1 1 [⟨2, T, 0, l, c⟩] rfl (one_row w9 _ (⟨2, T, 0, l, c⟩ : Tk) _ rfl) LM.out S6.out ?_; intro v1 w7 hown hg hat; have O7 := Lib.hid hown; have B7 := Lib.hid (O6.out.lays B6.out (Nat.le_refl _) HZ.out hg); clear hown hg hat)
                  go_roundw
                  case rel =>
                    have hE := EN.out
                    refine ⟨e, f, acc ++ [⟨2, T, 0, l, c⟩], hE.2.1, rfl, ?_, O7.out, X4.out.below B7.out (Nat.lt_succ_self _), HB.out.trans (B7.out.mono (Nat.le_succ _)), Nat.le_trans HZ.out B7.out.size, by have := HF.out; omega, ?_⟩
                    · rw [List.length_append]
                      have := HA.out
                      simp
                      omega
                    · rw [← HR.out]
                      try rfl
                  case measure => have hE := EN.out; simp [intOf]; omega
end Go.Proofs.Ythdkkdgjcfjinaa.tk
