/- What the landed tok's Lex gives: the signs of a text, or its first error and where it is. Conditions: the text has at most 20000 bytes; the library's variable MaxLen holds some number. -/
import Derived.Test.YthdkkdgjcfjinaaTkTokE
namespace Go.Proofs.Ythdkkdgjcfjinaa.tk
open Go.ChangeShapes Go.WideShapes Go.ChangeAt Go.RowKit Go.Proofs.Ythdkkdgjcfjinaa.k Go.Proofs.Ythdkkdgjcfjinaa.rr
set_option linter.unusedVariables false

theorem gr_row {v o : Nat} {w w' : World} {row : Option Nat} {vs : List Value} (h : w.grownBy w' row) (hv : v < w.heap.size) (hne : some v ≠ row) (hb : Box w v o vs) : Box w' v o vs := by
  have he := h.block v hv hne
  clear hv hne
  induction vs generalizing o with
  | nil => trivial
  | cons u vs ih => exact ⟨(World.cell?_of_block (a := ⟨v, o, none⟩) he).trans hb.1, (World.frozen?_of_block (a := ⟨v, o, none⟩) he).trans hb.2.1, ih hb.2.2⟩
theorem sgn_kind {r : List UInt8} {k : Int} {v n : Nat} (h : sgn r = (0, k, v, n)) : (k == 0) = false := by
  unfold sgn at h
  split at h
  · simp at h
  · split at h
    · simp only at h
      split at h
      · injection h with _ h
        injection h with h _
        rw [← h]; rfl
      · split at h
        · injection h with h _
          exact absurd h (by decide)
        · injection h with _ h
          injection h with h _
          rw [← h]; rfl
    · split at h
      · simp only at h
        split at h
        · injection h with _ h
          injection h with h _
          rw [← h]; rfl
        · rename_i h2
          injection h with h _
          exact absurd h h2
      · simp only at h
        split at h
        · injection h with h _
          exact absurd h (by decide)
        · injection h with _ h
          injection h with h _
          rw [← h]; rfl
theorem ow_aside {w w' : World} {g : Nat} {v : Value} {L : List Tk} (hO : Ow tC 5 26 w (g + 1) v L) (h : w.grownBy w' (some g)) : Ow tC 5 26 w' (g + 1) v L := by
  refine hO.kept h ?_
  cases hv : v.ownBlock with
  | none => exact .inl rfl
  | some b =>
    right
    intro e
    injection e with e
    have := (World.ownsRow.lt hO b hv).1
    omega
theorem dr0 (s : ByteArray) : drB s 0 = s := mk_str s
theorem rdr_start {w : World} {g : Nat} {s : ByteArray} (h : Box w g 0 [.string s, .int .i64 1, .int .i64 1]) : Rdr w g s 0 := by
  unfold Rdr
  rw [dr0]
  exact h
set_option maxRecDepth 100000 in
set_option maxHeartbeats 4000000 in
theorem lex_any (s : ByteArray) (hs : s.size ≤ 20000) (w : World) (hM : MaxL w) : Calls Try.prog 8 #[.string s] w (GotL s w) := by
  have x4 := Box.new w #[.int .i64 0, .string ⟨#[]⟩, .int .i64 0, .int .i64 0, .int .i64 0] 26
  have hz4 : (w.alloc (.cells #[.int .i64 0, .string ⟨#[]⟩, .int .i64 0, .int .i64 0, .int .i64 0] 26)).heap.size = w.heap.size + 1 := by simp
  have x5 := Box.new (w.alloc (.cells #[.int .i64 0, .string ⟨#[]⟩, .int .i64 0, .int .i64 0, .int .i64 0] 26)) #[.string s, .int .i64 1, .int .i64 1] 40
  have hb4 := (Below.refl w.heap.size w).alloc (Nat.le_refl _) (.cells #[.int .i64 0, .string ⟨#[]⟩, .int .i64 0, .int .i64 0, .int .i64 0] 26)
  have hb5 := (Below.refl (w.alloc (.cells #[.int .i64 0, .string ⟨#[]⟩, .int .i64 0, .int .i64 0, .int .i64 0] 26)).heap.size (w.alloc (.cells #[.int .i64 0, .string ⟨#[]⟩, .int .i64 0, .int .i64 0, .int .i64 0] 26))).alloc (Nat.le_refl _) (.cells #[.string s, .int .i64 1, .int .i64 1] 40)
  have hz5 : ((w.alloc (.cells #[.int .i64 0, .string ⟨#[]⟩, .int .i64 0, .int .i64 0, .int .i64 0] 26)).alloc (.cells #[.string s, .int .i64 1, .int .i64 1] 40)).heap.size = w.heap.size + 2 := by simp
  have y4 := x4.below hb5 (by omega)
  have b5 := hb4.trans (hb5.mono hb4.size)
  rw [hz4] at x5
  have m5 := hM.below b5
  have MW := Lib.hid hM
  have X5 := Lib.hid y4
  have R5 := Lib.hid (rdr_start x5)
  have B5 := Lib.hid b5
  have Z5 := Lib.hid hz5
  have M5 := Lib.hid m5
  clear x4 hz4 x5 hb4 hb5 hz5 y4 b5 m5 hM
  have PLA := Lib.hid fun c W h => rplace_any s c (w.heap.size + 1) W h
  have SKI := Lib.hid fun c hc W hM h => skip_any s hs c (w.heap.size + 1) hc W hM h
  have TNO := Lib.hid fun c E hf hE W h => take_no s hs c (w.heap.size + 1) E hf hE W h
  have TYE := Lib.hid fun c T hf hT W h => take_yes s hs c (w.heap.size + 1) T hf hT W h
  by_cases hlong : 16384 < s.size
  · have HL : Hid (lex s.data.toList = (13, [], atP (1, 1))) := Lib.hid (by
      unfold lex
      rw [size_len, if_pos hlong])
    have hlz : (16384 : Int) < s.size := by omega
    clear hs hlong
    go_enter Try.func8, Try.ntmps8
    go_upto_region 2 with (fail)
    generalize ((w.alloc (.cells #[.int .i64 0, .string ⟨#[]⟩, .int .i64 0, .int .i64 0, .int .i64 0] 26)).alloc (.cells #[.string s, .int .i64 1, .int .i64 1] 40)) = w5 at *
    go_wp2_with (go_at_call 13; fail)
    with_reducible refine (PLA.out 0 _ R5.out).mono ?_
    rintro e w6 ⟨rfl, hb⟩
    have X6 := Lib.hid (X5.out.below hb (by have := Z5.out; omega))
    have B6 := Lib.hid (B5.out.trans (hb.mono B5.out.size))
    clear hb
    have ⟨c0, f0, c1, f1, c2, f2, c3, f3, c4, f4, _⟩ := X6.out
    go_wp2_with fail
    obtain ⟨y, _, hB2⟩ := Box.puts (us := [.int .i64 0, .string ⟨#[]⟩, .int .i64 0, .int .i64 (plS s 0).1, .int .i64 (plS s 0).2]) X6.out rfl
    refine bodyPost_ret (results_ttc rfl rfl (run_loadVar_mid _ w.heap.size 0 26 _ _ y.range rfl rfl (by kernel_rfl))) rfl ?_
    refine ⟨none, 0, 0, ?_, ?_, B6.out.trans (hB2 _ (Nat.le_refl _))⟩
    · rw [HL.out]; rfl
    · rw [HL.out]; exact Rd.none_ _ _ _ _
  · have HL : Hid (lex s.data.toList = lexF s.data.toList (s.size + 1) (dr s 0) []) := Lib.hid (by
      unfold lex
      rw [size_len, if_neg hlong]
      rfl)
    have hlz : ¬ ((16384 : Int) < s.size) := by omega
    have HSZ := Lib.hid (show s.size ≤ 16384 by omega)
    have GOT := Lib.hid (show ∀ e w', (∃ A n c, e = .returned (.tuple #[.slice A n c, .int .i64 (lex s.data.toList).1, .agg (tC (lex s.data.toList).2.2).toArray]) ∧ rr.Rd tC 5 w' w'.heap.size A n c (lex s.data.toList).2.1 ∧ Below w.heap.size w w') → GotL s w e w' from fun e w' h => h)
    obtain ⟨R, hR⟩ : ∃ R, lex s.data.toList = R := ⟨_, rfl⟩
    rw [hR] at HL GOT
    clear hlong hR hs
    go_enter Try.func8, Try.ntmps8
    go_upto_region 2 with (fail)
    generalize ((w.alloc (.cells #[.int .i64 0, .string ⟨#[]⟩, .int .i64 0, .int .i64 0, .int .i64 0] 26)).alloc (.cells #[.string s, .int .i64 1, .int .i64 1] 40)) = w5 at *
    go_upto_region 5 with (fail)
    clear hlz
    go_loopw [6] (fun s6 wr => ∃ (c f : Nat) (acc : List Tk), c ≤ s.size ∧ acc.length ≤ c + 1 ∧ rr.Ow tC 5 26 wr (w.heap.size + 1 + 1) s6 acc ∧ Box wr w.heap.size 0 [.int .i64 0, .string ⟨#[]⟩, .int .i64 0, .int .i64 0, .int .i64 0] ∧ Rdr wr (w.heap.size + 1) s c ∧ Below w.heap.size w wr ∧ w.heap.size + 2 ≤ wr.heap.size ∧ s.size - c < f ∧ lexF s.data.toList f (dr s c) acc = R ∧ MaxL wr) (fun _ wr => restLen wr (w.heap.size + 1))
    case atStart => exact ⟨0, s.size + 1, [], Nat.zero_le _, Nat.zero_le _, Ow.nil _ _ _ _ _, X5.out, R5.out, B5.out, Nat.le_of_eq Z5.out.symm, by omega, HL.out.symm, M5.out⟩
    case round =>
      obtain ⟨c, f, acc, hc, hacc, hO, hX, hRd, hB, hz, hf, hR, hM⟩ := hrel
      clear X5 R5 B5 Z5 M5 HL
      obtain ⟨f, rfl⟩ : ∃ f0, f = f0 + 1 := ⟨f - 1, by omega⟩
      have HO := Lib.hid hO
      have HX := Lib.hid hX
      have HB := Lib.hid hB
      have HZ := Lib.hid hz
      have HA := Lib.hid hacc
      have HF := Lib.hid hf
      have HM := Lib.hid hM
      have HD := Lib.hid hRd
      have L0 := Lib.hid hRd.len
      obtain ⟨p1, p2, p3⟩ := pastN_dr (s := s) hc
      have SK := SKI.out c hc wr hM hRd
      obtain ⟨m, hm⟩ : ∃ m, pastN s c = m := ⟨_, rfl⟩
      obtain ⟨ok, hok⟩ : ∃ ok, (past (dr s c)).1 = ok := ⟨_, rfl⟩
      rw [hm] at p1 p2 p3 SK
      rw [hok] at SK
      have SK := Lib.hid SK
      have HP := plS_at s p3
      have HCM := Lib.hid p2
      clear hO hX hB hz hacc hf hM hRd hm
      go_wp2_with (go_at_call 14; fail)
      with_reducible refine SK.out.mono ?_
      rintro e w1 ⟨rfl, hx, hg⟩
      have O1 := Lib.hid (ow_aside HO.out hg)
      have X1 := Lib.hid (gr_box hg (by have := HZ.out; omega) (by omega) HX.out)
      have B1 := Lib.hid (HB.out.trans (gr_below hg (Nat.le_succ _) HB.out.size))
      have Z1 := Lib.hid (Nat.le_trans HZ.out hg.size)
      have M1 := Lib.hid (MaxL.gr HM.out HD.out.1 hg)
      have R1 := Lib.hid hx
      clear hx hg HO HX HB HZ HM HD SK
      cases ok
      · rw [lexF_bad hok, p1, HP] at hR
        have HR := Lib.hid hR
        clear hR hok p1 HP p2 p3
        go_wp2_with (go_at_call 13; fail)
        with_reducible refine (PLA.out m _ R1.out).mono ?_
        rintro e w6 ⟨rfl, hb⟩
        have X6 := Lib.hid (X1.out.below hb (by have := Z1.out; omega))
        have B6 := Lib.hid (B1.out.trans (hb.mono B1.out.size))
        clear hb
        have ⟨c0, f0, c1, f1, c2, f2, c3, f3, c4, f4, _⟩ := X6.out
        go_wp2_with fail
        obtain ⟨y, _, hB2⟩ := Box.puts (us := [.int .i64 0, .string ⟨#[]⟩, .int .i64 0, .int .i64 (plS s m).1, .int .i64 (plS s m).2]) X6.out rfl
        refine bodyPost_ret (results_ttc rfl rfl (run_loadVar_mid _ w.heap.size 0 26 _ _ y.range rfl rfl (by kernel_rfl))) rfl ?_
        refine GOT.out _ _ ⟨none, 0, 0, ?_, ?_, B6.out.trans (hB2 _ (Nat.le_refl _))⟩
        · rw [← HR.out]; rfl
        · rw [← HR.out]; exact Rd.none_ _ _ _ _
      · by_cases hend : m = s.size
        · have hd : dr s m = [] := dr_end (by omega)
          have TY := TYE.out m zeroT (by rw [hd]; rfl) (by show m + 0 ≤ _; omega) w1 R1.out
          rw [lexF_end hok (by rw [p1, hd]), ← hd, HP] at hR
          have HR := Lib.hid hR
          obtain ⟨⟨l, q⟩, hlq⟩ : ∃ q, plS s m = q := ⟨_, rfl⟩
          rw [hlq] at TY HR
          have TY : Hid (Calls Try.prog 15 #[.pointer (some ⟨w.heap.size + 1, 0, none⟩)] w1 fun e w' => e = .returned (.tuple #[.agg #[.int .i64 0, .string ⟨#[]⟩, .int .i64 0, .int .i64 l, .int .i64 q], .int .i64 0]) ∧ Rdr w' (w.heap.size + 1) s m ∧ w1.grownBy w' (some (w.heap.size + 1))) := Lib.hid TY
          have HC := Lib.hid hc
          have MB := Lib.hid (MaxL.lt MW.out)
          clear hR hok p1 HP p2 p3 hd hlq hend hc
          go_wp2_with (go_at_call 15; fail)
          with_reducible refine TY.out.mono ?_
          rintro e w2 ⟨rfl, hx, hg⟩
          have O2 := Lib.hid (ow_aside O1.out hg)
          have X2 := Lib.hid (gr_box hg (by have := Z1.out; omega) (by omega) X1.out)
          have B2 := Lib.hid (B1.out.trans (gr_below hg (Nat.le_succ _) B1.out.size))
          have Z2 := Lib.hid (Nat.le_trans Z1.out hg.size)
          have M2 := Lib.hid (MaxL.gr M1.out R1.out.1 hg)
          have R2 := Lib.hid hx
          clear hx hg O1 X1 B1 Z1 M1 R1 TY
          go_upto_region 8 with (fail)
          have hb3 := Below.alloc (Below.refl w2.heap.size w2) (Nat.le_refl _) (.cells #[.int .i64 0, .string ⟨#[]⟩, .int .i64 0, .int .i64 l, .int .i64 q] 26)
          have N3 := Box.new w2 #[.int .i64 0, .string ⟨#[]⟩, .int .i64 0, .int .i64 l, .int .i64 q] 26
          have hz3 : (w2.alloc (.cells #[.int .i64 0, .string ⟨#[]⟩, .int .i64 0, .int .i64 l, .int .i64 q] 26)).heap.size = w2.heap.size + 1 := by simp
          have O3 := Lib.hid (O2.out.under hb3)
          have X3 := Lib.hid (X2.out.below hb3 (by have := Z2.out; omega))
          have B3 := Lib.hid (B2.out.trans (hb3.mono B2.out.size))
          have M3 := Lib.hid (M2.out.below hb3)
          have R3 := Lib.hid (show Rdr _ (w.heap.size + 1) s _ from Box.below R2.out hb3 (by have := Z2.out; omega))
          have OL := Lib.hid (fun b hb => (World.ownsRow.lt O2.out b hb).2)
          have Z2 := Z2.out
          generalize w2.alloc (.cells #[.int .i64 0, .string ⟨#[]⟩, .int .i64 0, .int .i64 l, .int .i64 q] 26) = w3 at *
          generalize w2.heap.size = g3 at *
          have N3 := Lib.hid N3
          have Z3 := Lib.hid (show w.heap.size + 2 ≤ w3.heap.size by omega)
          have G3 := Lib.hid (show g3 < w3.heap.size by omega)
          have GZ := Lib.hid Z2
          clear hb3 O2 X2 B2 M2 R2 Z2 hz3
          have ⟨d0, _, d1, _, d2, _, d3, _, d4, _, _⟩ := N3.out
          have hb6 := Below.alloc (Below.refl w3.heap.size w3) (Nat.le_refl _) (.cells #[.int .i64 0, .string ⟨#[]⟩, .int .i64 0, .int .i64 l, .int .i64 q] 26)
          have O6 := Lib.hid (O3.out.under hb6)
          have N6 := Lib.hid (N3.out.below hb6 G3.out)
          have B6 := Lib.hid (hb6.mono Z3.out)
          have S6 := Lib.hid (Nat.le_trans Z3.out hb6.size)
          have GS := Lib.hid (Nat.lt_of_lt_of_le G3.out hb6.size)
          have LM := Lib.hid (show acc.length + 1 ≤ 20000 by have := HA.out; have := HSZ.out; have := HC.out; omega)
          clear hb6 O3
          go_upto_region 11 with (at_builtin; refine wpList_append_row tC_len (by omega) tC_one toks_slice tok_info rfl (by omega) _ rfl (.tmp 26) (.tmp 28) rfl (w.heap.size + 1 + 1) _ acc rfl O6.out (w3.heap.size + 1) (some ⟨w3.heap.size, 0, none⟩) 1 1 [⟨0, [], 0, l, q⟩] rfl (one_row w3 _ (⟨0, [], 0, l, q⟩ : Tk) _ rfl) LM.out S6.out ?_; intro v1 w7 hown hg hat; have O7 := Lib.hid hown; have B7 := Lib.hid (O6.out.lays B6.out (Nat.le_refl _) Z3.out hg); have N7 := Lib.hid (gr_row hg GS.out (fun e => by have := OL.out _ e.symm; omega) N6.out); clear hown hg hat)
          have X7 := Lib.hid (X3.out.below B7.out (by omega))
          have R7 := Lib.hid (show Rdr w7 (w.heap.size + 1) s _ from Box.below R3.out B7.out (by omega))
          have M7 := Lib.hid (M3.out.under (base := w.heap.size + 2) (by have := M3.out.lt; have := MB.out; omega) B7.out)
          clear X3 R3 M3 O6 N6 B6 S6 GS OL d0 d1 d2 d3 d4
          have ⟨d0, _⟩ := N7.out
          have ⟨c0, f0, c1, f1, c2, f2, c3, f3, c4, f4, _⟩ := X7.out
          go_wp2_with fail
          obtain ⟨y, hsz, hB2⟩ := Box.puts (us := [.int .i64 0, .string ⟨#[]⟩, .int .i64 0, .int .i64 0, .int .i64 0]) X7.out rfl
          obtain ⟨A, cap, rfl, hr⟩ := form_above tC_len O7.out (Above.puts (vs := [.int .i64 0, .string ⟨#[]⟩, .int .i64 0, .int .i64 0, .int .i64 0]) (o := 0) (show w.heap.size < w.heap.size + 1 + 1 by omega) (Above.refl _ _)) hsz
          refine bodyPost_ret (results_ttc rfl rfl (run_loadVar_mid _ w.heap.size 0 26 _ _ y.range rfl rfl (by kernel_rfl))) rfl ?_
          refine GOT.out _ _ ⟨A, (acc ++ [(⟨0, [], 0, l, q⟩ : Tk)]).length, cap, ?_, ?_, (B3.out.trans (B7.out.mono (by omega))).trans (hB2 _ (Nat.le_refl _))⟩
          · rw [← HR.out]; rfl
          · rw [← HR.out]; exact hr
        · have hml : m < s.size := by omega
          have hd := dr_at hml
          have hne : (past (dr s c)).2 ≠ [] := by rw [p1, hd]; simp
          have hf0 : fst0 (dr s m) = fst1 (dr s m) := by unfold fst0; rw [if_neg (by rw [hd]; simp)]
          obtain ⟨⟨er, kd, v, n⟩, hsg⟩ : ∃ q, sgn (dr s m) = q := ⟨_, rfl⟩
          by_cases he : er = 0
          · subst he
            have hn := sgn_len hsg
            rw [dr_len] at hn
            have hkd := sgn_kind hsg
            obtain ⟨T, hT⟩ : ∃ T, (dr s m).take n = T := ⟨_, rfl⟩
            have hTl : T.length = n := by rw [← hT, List.length_take, dr_len]; omega
            have TY := TYE.out m ⟨kd, T, v, 0, 0⟩ (by rw [hf0, fst1_yes hsg, hT]) (by show m + T.length ≤ _; omega) w1 R1.out
            rw [lexF_tok hok hne (by rw [p1, hsg])] at hR
            rw [p1, hsg, HP, dr_drop] at hR
            simp only at hR
            rw [hT] at hR
            obtain ⟨⟨l, q⟩, hlq⟩ : ∃ q, plS s m = q := ⟨_, rfl⟩
            obtain ⟨en, hen⟩ : ∃ en, m + n = en := ⟨_, rfl⟩
            rw [hlq, hen] at hR
            rw [hlq] at TY
            have HR := Lib.hid hR
            have TY : Hid (Calls Try.prog 15 #[.pointer (some ⟨w.heap.size + 1, 0, none⟩)] w1 fun e w' => e = .returned (.tuple #[.agg #[.int .i64 kd, .string ⟨T.toArray⟩, .int .i64 v, .int .i64 l, .int .i64 q], .int .i64 0]) ∧ Rdr w' (w.heap.size + 1) s en ∧ w1.grownBy w' (some (w.heap.size + 1))) := Lib.hid (by
              have h := TY
              simp only at h
              rw [hTl, hen] at h
              exact h)
            have HC := Lib.hid hc
            have MB := Lib.hid (MaxL.lt MW.out)
            have EN := Lib.hid (show c + 1 ≤ en ∧ en ≤ s.size ∧ m < en by omega)
            clear hR hok p1 HP p2 p3 hd hlq hend hc hne hf0 hsg hn hT hTl hen hml
            go_wp2_with (go_at_call 15; fail)
            with_reducible refine TY.out.mono ?_
            rintro e w2 ⟨rfl, hx, hg⟩
            have O2 := Lib.hid (ow_aside O1.out hg)
            have X2 := Lib.hid (gr_box hg (by have := Z1.out; omega) (by omega) X1.out)
            have B2 := Lib.hid (B1.out.trans (gr_below hg (Nat.le_succ _) B1.out.size))
            have Z2 := Lib.hid (Nat.le_trans Z1.out hg.size)
            have M2 := Lib.hid (MaxL.gr M1.out R1.out.1 hg)
            have R2 := Lib.hid hx
            clear hx hg O1 X1 B1 Z1 M1 R1 TY
            go_upto_region 8 with (fail)
            have hb3 := Below.alloc (Below.refl w2.heap.size w2) (Nat.le_refl _) (.cells #[.int .i64 kd, .string ⟨T.toArray⟩, .int .i64 v, .int .i64 l, .int .i64 q] 26)
            have N3 := Box.new w2 #[.int .i64 kd, .string ⟨T.toArray⟩, .int .i64 v, .int .i64 l, .int .i64 q] 26
            have hz3 : (w2.alloc (.cells #[.int .i64 kd, .string ⟨T.toArray⟩, .int .i64 v, .int .i64 l, .int .i64 q] 26)).heap.size = w2.heap.size + 1 := by simp
            have O3 := Lib.hid (O2.out.under hb3)
            have X3 := Lib.hid (X2.out.below hb3 (by have := Z2.out; omega))
            have B3 := Lib.hid (B2.out.trans (hb3.mono B2.out.size))
            have M3 := Lib.hid (M2.out.below hb3)
            have R3 := Lib.hid (show Rdr _ (w.heap.size + 1) s _ from Box.below R2.out hb3 (by have := Z2.out; omega))
            have OL := Lib.hid (fun b hb => (World.ownsRow.lt O2.out b hb).2)
            have Z2 := Z2.out
            generalize w2.alloc (.cells #[.int .i64 kd, .string ⟨T.toArray⟩, .int .i64 v, .int .i64 l, .int .i64 q] 26) = w3 at *
            generalize w2.heap.size = g3 at *
            have N3 := Lib.hid N3
            have Z3 := Lib.hid (show w.heap.size + 2 ≤ w3.heap.size by omega)
            have G3 := Lib.hid (show g3 < w3.heap.size by omega)
            have GZ := Lib.hid Z2
            clear hb3 O2 X2 B2 M2 R2 Z2 hz3
            have ⟨d0, _, d1, _, d2, _, d3, _, d4, _, _⟩ := N3.out
            have hb6 := Below.alloc (Below.refl w3.heap.size w3) (Nat.le_refl _) (.cells #[.int .i64 kd, .string ⟨T.toArray⟩, .int .i64 v, .int .i64 l, .int .i64 q] 26)
            have O6 := Lib.hid (O3.out.under hb6)
            have N6 := Lib.hid (N3.out.below hb6 G3.out)
            have B6 := Lib.hid (hb6.mono Z3.out)
            have S6 := Lib.hid (Nat.le_trans Z3.out hb6.size)
            have GS := Lib.hid (Nat.lt_of_lt_of_le G3.out hb6.size)
            have LM := Lib.hid (show acc.length + 1 ≤ 20000 by have := HA.out; have := HSZ.out; have := HC.out; omega)
            clear hb6 O3
            go_upto_region 11 with (at_builtin; refine wpList_append_row tC_len (by omega) tC_one toks_slice tok_info rfl (by omega) _ rfl (.tmp 26) (.tmp 28) rfl (w.heap.size + 1 + 1) _ acc rfl O6.out (w3.heap.size + 1) (some ⟨w3.heap.size, 0, none⟩) 1 1 [⟨kd, T, v, l, q⟩] rfl (one_row w3 _ (⟨kd, T, v, l, q⟩ : Tk) _ rfl) LM.out S6.out ?_; intro v1 w7 hown hg hat; have O7 := Lib.hid hown; have B7 := Lib.hid (O6.out.lays B6.out (Nat.le_refl _) Z3.out hg); have N7 := Lib.hid (gr_row hg GS.out (fun e => by have := OL.out _ e.symm; omega) N6.out); clear hown hg hat)
            have X7 := Lib.hid (X3.out.below B7.out (by omega))
            have R7 := Lib.hid (show Rdr w7 (w.heap.size + 1) s _ from Box.below R3.out B7.out (by omega))
            have M7 := Lib.hid (M3.out.under (base := w.heap.size + 2) (by have := M3.out.lt; have := MB.out; omega) B7.out)
            clear X3 R3 M3 O6 N6 B6 S6 GS OL d0 d1 d2 d3 d4
            have ⟨d0, _⟩ := N7.out
            go_wp2_with fail
            go_roundw
            case rel =>
              have hE := EN.out
              refine ⟨en, f, acc ++ [⟨kd, T, v, l, q⟩], hE.2.1, ?_, O7.out, X7.out, R7.out, B3.out.trans (B7.out.mono (by omega)), Nat.le_trans Z3.out B7.out.size, by have := HF.out; omega, HR.out, M7.out⟩
              rw [List.length_append]
              have := HA.out
              simp
              omega
            case measure => rw [L0.out, R7.out.len]; have hE := EN.out; omega
          · have TN := Lib.hid (TNO.out m er (by rw [hf0, fst1_no hsg he]) he w1 R1.out)
            rw [lexF_err hok hne (by rw [p1, hsg]; exact he), p1, HP, hsg] at hR
            have HR := Lib.hid hR
            have hz : (er == 0) = false := by rw [beq_eq_false_iff_ne]; exact he
            clear hR hok p1 HP p2 p3 hd hend hc hne hf0 hsg hml he
            go_wp2_with (go_at_call 15; fail)
            with_reducible refine TN.out.mono ?_
            rintro e w2 ⟨rfl, hb2⟩
            have X2 := Lib.hid (X1.out.below hb2 (by have := Z1.out; omega))
            have R2 := Lib.hid (show Rdr w2 (w.heap.size + 1) s m from Box.below R1.out hb2 (by have := Z1.out; omega))
            have B2 := Lib.hid (B1.out.trans (hb2.mono B1.out.size))
            have Z2 := Lib.hid (Nat.le_trans Z1.out hb2.size)
            clear hb2 TN
            go_upto_region 8 with (fail)
            have hb3 := Below.alloc (Below.refl w2.heap.size w2) (Nat.le_refl _) (.cells #[.int .i64 0, .string ⟨#[]⟩, .int .i64 0, .int .i64 0, .int .i64 0] 26)
            have X3 := Lib.hid (X2.out.below hb3 (by have := Z2.out; omega))
            have R3 := Lib.hid (show Rdr _ (w.heap.size + 1) s m from Box.below R2.out hb3 (by have := Z2.out; omega))
            have B3 := Lib.hid (B2.out.trans (hb3.mono B2.out.size))
            have Z3 := Lib.hid (Nat.le_trans Z2.out hb3.size)
            clear hb3
            generalize w2.alloc (.cells #[.int .i64 0, .string ⟨#[]⟩, .int .i64 0, .int .i64 0, .int .i64 0] 26) = w3 at *
            go_wp2_with (go_at_call 13; fail)
            with_reducible refine (PLA.out m _ R3.out).mono ?_
            rintro e w6 ⟨rfl, hb⟩
            have X6 := Lib.hid (X3.out.below hb (by have := Z3.out; omega))
            have B6 := Lib.hid (B3.out.trans (hb.mono B3.out.size))
            clear hb
            have ⟨c0, f0, c1, f1, c2, f2, c3, f3, c4, f4, _⟩ := X6.out
            go_wp2_with fail
            obtain ⟨y, _, hB2⟩ := Box.puts (us := [.int .i64 0, .string ⟨#[]⟩, .int .i64 0, .int .i64 (plS s m).1, .int .i64 (plS s m).2]) X6.out rfl
            refine bodyPost_ret (results_ttc rfl rfl (run_loadVar_mid _ w.heap.size 0 26 _ _ y.range rfl rfl (by kernel_rfl))) rfl ?_
            refine GOT.out _ _ ⟨none, 0, 0, ?_, ?_, B6.out.trans (hB2 _ (Nat.le_refl _))⟩
            · rw [← HR.out]; rfl
            · rw [← HR.out]; exact Rd.none_ _ _ _ _
theorem word_is (s : ByteArray) (w : World) : Calls Try.prog 11 #[.string s] w fun e w' => e = .returned (.bool (isWord s.data.toList)) ∧ Below w.heap.size w w' :=
  (isword_any s w).mono fun _ _ h => ⟨h.1, h.2 ▸ Below.refl _ _⟩
end Go.Proofs.Ythdkkdgjcfjinaa.tk
