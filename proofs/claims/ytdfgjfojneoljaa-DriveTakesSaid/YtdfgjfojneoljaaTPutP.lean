/- What layer frame's put answers: the frame's thirteen bytes in a block of the call's own, or nothing and ErrArg. No condition beside the kinds' own bounds. -/
import Derived.Test.YtdfgjfojneoljaaTAppend
namespace Go.Proofs.Ytdfgjfojneoljaa.t
open Go.ChangeShapes Go.WideShapes Go.ChangeAt Go.RowKit Go.Proofs.Ytdfgjfojneoljaa.s
set_option linter.unusedVariables false

theorem prog_put_no (sg : BitVec 8) (most seq word p : Int) (h : seq < 0 ∨ 255 < seq ∨ word < 0 ∨ most < word) (w : World) :
    Calls Try.prog 43 #[.int .u8 (v8 sg), .int .i64 most, .agg #[.int .i64 seq, .int .i64 word, .int .i64 p]] w (PutNo w) := by
  by_cases h1 : seq < 0 ∨ 255 < seq
  · have e1 := upB_no (n := seq) (g := 255) h1
    clear h h1
    go_enter Try.func43, Try.ntmps43
    go_wp2_with (go_at_call 47; ((with_reducible refine (up_any _ _ _).mono ?_); rintro e w' ⟨rfl, rfl⟩))
    go_ret2
    exact ⟨.none, 0, rfl, by unfold maxLen; omega, (Below.refl _ _).alloc (Nat.le_refl _) _⟩
  · have e1 := upB_yes (n := seq) (g := 255) (by omega) (by omega)
    have e2 := upB_no (n := word) (g := most) (by omega)
    clear h h1
    go_enter Try.func43, Try.ntmps43
    go_wp2_with (go_at_call 47; ((with_reducible refine (up_any _ _ _).mono ?_); rintro e w' ⟨rfl, rfl⟩))
    go_ret2
    exact ⟨.none, 0, rfl, by unfold maxLen; omega, (Below.refl _ _).alloc (Nat.le_refl _) _⟩

theorem Own.room {w : World} (cur : Array Value) (cap : Nat) (hc : cur.size = cap) (hl : cap ≤ 10000) {base : Nat} (hb : base ≤ w.heap.size) :
    Own (w.alloc (.cells cur 5)) base (.slice (some ⟨w.heap.size, 0, none⟩) 0 cap) [] :=
  ⟨by simp, .inr ⟨w.heap.size, cap, _, rfl, hb, heap_alloc_new w _, Nat.zero_le _, by unfold maxLen; omega, by simp [hc], by simp⟩⟩
theorem three_bytes (w : World) (e : TypeId) (x y z : BitVec 8) : Bytes (w.alloc (.cells #[Value.int .u8 (v8 x), Value.int .u8 (v8 y), Value.int .u8 (v8 z)] e)) (w.heap.size + 1) (some ⟨w.heap.size, 0, none⟩) [x, y, z] := fun _ => by
  refine ⟨_, 0, rfl, by omega, fun i hi => ?_⟩
  rw [World.cell?_alloc_mark, Nat.zero_add]
  have : i = 0 ∨ i = 1 ∨ i = 2 := by simp at hi; omega
  rcases this with rfl | rfl | rfl <;> rfl

theorem tops2 (s : BitVec 16) : tops (v16 s) 2 2 = [hi s, lo s] := by
  have e : tops (v16 s) 2 2 = [byteAt (v16 s) 1, byteAt (v16 s) 0] := rfl
  have h := v16_in s
  rw [e, v8_inj (show v8 (byteAt (v16 s) 1) = v8 (hi s) by rw [byteAt_val, hi_val, Int.pow_succ, Int.pow_zero]; omega),
    v8_inj (show v8 (byteAt (v16 s) 0) = v8 (lo s) by rw [byteAt_val, lo_val, Int.pow_zero]; omega)]

theorem append8 (P : Int) (h0 : 0 ≤ P) (h1 : P ≤ 18446744073709551615) (base : Nat) (v : Value) (l : List (BitVec 8)) (hl : l.length ≤ 1000) (w : World) (hO : Own w base v l) (hb : base ≤ w.heap.size) :
    Calls Try.prog 48 #[v, .int .u64 P, .int .i64 8] w fun e w' => ∃ v', e = .returned v' ∧ Own w' base v' (l ++ be8 P) ∧ Below base w w' :=
  append_any P h0 h1 8 (Nat.le_refl _) base v l hl w hO hb
theorem append2 (s : BitVec 16) (base : Nat) (v : Value) (l : List (BitVec 8)) (hl : l.length ≤ 1000) (w : World) (hO : Own w base v l) (hb : base ≤ w.heap.size) :
    Calls Try.prog 48 #[v, .int .u64 (v16 s), .int .i64 2] w fun e w' => ∃ v', e = .returned v' ∧ Own w' base v' (l ++ [hi s, lo s]) ∧ Below base w w' :=
  (append_any (v16 s) (v16_in s).1 (by have := v16_in s; omega) 2 (by omega) base v l hl w hO hb).mono fun _ _ ⟨v', a, b, c⟩ => ⟨v', a, by rw [← tops2]; exact b, c⟩
set_option maxHeartbeats 1000000 in
theorem prog_put_new (sg sq wd : BitVec 8) (most p : Int) (hm : v8 wd ≤ most) (w : World) :
    Calls Try.prog 43 #[.int .u8 (v8 sg), .int .i64 most, .agg #[.int .i64 (v8 sq), .int .i64 (v8 wd), .int .i64 p]] w (PutNew sg sq wd p w) := by
  have a1 := v8_in sq
  have a2 := v8_in wd
  have u1 := upB_yes (n := v8 sq) (g := 255) a1.1 a1.2
  have u2 := upB_yes (n := v8 wd) (g := most) a2.1 hm
  have e1 : IntKind.u8.wrap (v8 sq) = v8 sq := by rw [IntKind.wrap_u8]; omega
  have e2 : IntKind.u8.wrap (v8 wd) = v8 wd := by rw [IntKind.wrap_u8]; omega
  have e3 : IntKind.u64.wrap p = place64 p := IntKind.wrap_u64 p
  have hp0 := place64_in p
  obtain ⟨P, hP⟩ : ∃ P, place64 p = P := ⟨_, rfl⟩
  have HPP := Lib.hid hP
  rw [hP] at e3 hp0
  clear hP
  have hp := hp0.1
  have hp1 : P ≤ 18446744073709551615 := by omega
  have HP := Lib.hid hp1
  clear hp0 hp1 hm
  have hmk : ∀ w, (Instr.makeSlice 28 (.int .i64 0) (.int .i64 13)).run Try.prog w = .ok (.slice (some ⟨w.heap.size, 0, none⟩) 0 13) (w.alloc (.cells #[.int .u8 0, .int .u8 0, .int .u8 0, .int .u8 0, .int .u8 0, .int .u8 0, .int .u8 0, .int .u8 0, .int .u8 0, .int .u8 0, .int .u8 0, .int .u8 0, .int .u8 0] 5)) := fun _ => by kernel_rfl
  go_enter Try.func43, Try.ntmps43
  go_upto_region 4 with (go_at_call 47; ((with_reducible refine (up_any _ _ _).mono ?_); rintro e w' ⟨rfl, rfl⟩))
  clear hmk
  obtain ⟨W1, hW1⟩ : ∃ W1, w.alloc (.cells #[.int .i64 (v8 sq), .int .i64 (v8 wd), .int .i64 p] 75) = W1 := ⟨_, rfl⟩
  have hz1 : W1.heap.size = w.heap.size + 1 := by rw [← hW1]; simp
  have HC : Hid (∀ w', Below W1.heap.size W1 w' → ∀ i, w'.cell? ⟨w.heap.size, i, none⟩ = #[Value.int .i64 (v8 sq), .int .i64 (v8 wd), .int .i64 p][i]?) := Lib.hid fun w' hb i => by rw [← hW1] at hb; exact (new_cell hb i).1
  have HB1 : Hid (Below w.heap.size w W1) := Lib.hid (by rw [← hW1]; exact (Below.refl _ _).alloc (Nat.le_refl _) _)
  rw [hW1]
  have HO : ∀ cs : Array Value, cs.size = 13 → Own (W1.alloc (.cells cs 5)) (w.heap.size + 1) (.slice (some ⟨w.heap.size + 1, 0, none⟩) 0 13) [] := fun cs hcs => by rw [← hz1]; exact Own.room cs 13 hcs (by omega) (Nat.le_refl _)
  have HB2 : ∀ o, Below (w.heap.size + 1) W1 (W1.alloc o) := fun o => by rw [← hz1]; exact (Below.refl _ _).alloc (Nat.le_refl _) _
  have HO := HO #[.int .u8 0, .int .u8 0, .int .u8 0, .int .u8 0, .int .u8 0, .int .u8 0, .int .u8 0, .int .u8 0, .int .u8 0, .int .u8 0, .int .u8 0, .int .u8 0, .int .u8 0] rfl
  have HB2 := HB2 (.cells #[.int .u8 0, .int .u8 0, .int .u8 0, .int .u8 0, .int .u8 0, .int .u8 0, .int .u8 0, .int .u8 0, .int .u8 0, .int .u8 0, .int .u8 0, .int .u8 0, .int .u8 0] 5)
  generalize W1.alloc (.cells #[.int .u8 0, .int .u8 0, .int .u8 0, .int .u8 0, .int .u8 0, .int .u8 0, .int .u8 0, .int .u8 0, .int .u8 0, .int .u8 0, .int .u8 0, .int .u8 0, .int .u8 0] 5) = W2 at *
  have HC : Hid (∀ w', Below (w.heap.size + 1) W1 w' → ∀ i, w'.cell? ⟨w.heap.size, i, none⟩ = #[Value.int .i64 (v8 sq), .int .i64 (v8 wd), .int .i64 p][i]?) := Lib.hid fun w' hb i => HC.out w' (by rw [hz1]; exact hb) i
  have c0 := HC.out W2 HB2 0
  have c1 := HC.out W2 HB2 1
  simp only [List.getElem?_toArray, List.getElem?_cons_zero, List.getElem?_cons_succ] at c0 c1
  have HZ2 : Hid (w.heap.size + 1 ≤ W2.heap.size) := Lib.hid (by have := HB2.size; omega)
  have HZ1 := Lib.hid hz1
  have HO2 := Lib.hid HO
  have HB2 := Lib.hid HB2
  clear HO hz1 hW1
  go_wp2_with (first
    | (at_builtin; refine wpList_append_bytes _ rfl (.tmp 21) (.tmp 29) rfl (w.heap.size + 1) _ [] rfl (HO2.out.new _) (W2.heap.size + 1) (some ⟨W2.heap.size, 0, none⟩) 3 3 [sg, sq, wd] rfl rfl (three_bytes W2 _ _ _ _) (by intro h; cases h) (by simp) (Nat.le_trans HZ2.out (by simp)) ?_; intro v3 w3 hown3 hg3 hat3; have HO3 := Lib.hid hown3; have HB3 := Lib.hid ((HO2.out.new _).lays (HB2.out.alloc HZ2.out _) (Nat.le_refl _) (by rw [HZ1.out]; exact Nat.le_refl _) hg3); clear hown3 hg3 hat3 c0 c1; have c2 := HC.out w3 HB3.out 2; simp only [List.getElem?_toArray, List.getElem?_cons_zero, List.getElem?_cons_succ] at c2; have HZ3 : Hid (w.heap.size + 1 ≤ w3.heap.size) := Lib.hid (Nat.le_trans (by rw [HZ1.out]; exact Nat.le_refl _) HB3.out.size))
    | fail)
  refine (append8 P hp HP.out (w.heap.size + 1) v3 [sg, sq, wd] (by simp) w3 HO3.out HZ3.out).mono ?_
  rintro e w4 ⟨v4, rfl, hO4, hB4⟩
  have HO4 : Hid (Own w4 (w.heap.size + 1) v4 (body sg sq wd P)) := Lib.hid hO4
  have HB4 := Lib.hid (HB3.out.trans hB4)
  have HZ4 : Hid (w.heap.size + 1 ≤ w4.heap.size) := Lib.hid (Nat.le_trans HZ3.out hB4.size)
  clear hO4 hB4 c2
  obtain ⟨K, hK⟩ : ∃ K, body sg sq wd P = K := ⟨_, rfl⟩
  have HK := Lib.hid hK
  have hl : K.length = 11 := by rw [← hK, body_length]
  rw [hK] at HO4
  obtain ⟨A4, cap4, rfl, hBy4, hc4, hm4, _⟩ := HO4.out.form
  have HBy4 := Lib.hid hBy4
  rw [hl] at HO4
  rw [hl]
  have HL := Lib.hid hl
  have HL2 : Hid (K.length ≤ 10000) := Lib.hid (by omega)
  have HL3 : Hid (K.length ≤ 1000) := Lib.hid (by omega)
  have hs := v16_in (goV first K)
  have e4 := wrap_in (v16 (goV first K)) (by omega) (by omega)
  clear hK hl hBy4 hc4 hm4
  go_wp2_with (first
    | (go_at_call 49; ((with_reducible refine (of_n HL.out HL2.out HBy4.out _).mono ?_); rintro e w5 ⟨rfl, rfl⟩))
    | (go_at_call 48; ((with_reducible refine (append2 (goV first K) (w.heap.size + 1) _ K HL3.out w4 HO4.out HZ4.out).mono ?_); rintro e w5 ⟨v5, rfl, hO5, hB5⟩; have HO5 := Lib.hid hO5; have HB5 := Lib.hid hB5; clear hO5 hB5)))
  have HE : Hid (K ++ [hi (goV first K), lo (goV first K)] = frameV sg sq wd P) := Lib.hid (by rw [← HK.out]; rfl)
  rw [HE.out] at HO5
  obtain ⟨A5, cap5, rfl, hBy5, hc5, hm5, _⟩ := HO5.out.form
  have HN5 := Lib.hid ((newAt HO5.out (by rw [frame_length]; omega)).mono (Nat.le_succ _))
  clear HO5
  rw [frame_length] at hc5 ⊢
  have HBy5 := Lib.hid hBy5
  clear hBy5
  go_ret2
  exact ⟨A5, cap5, rfl, by rw [HPP.out]; exact HBy5.out, hc5, hm5, HB1.out.trans ((HB4.out.trans HB5.out).mono (Nat.le_succ _)), HN5.out⟩
theorem prog_put_yes (sg sq wd : BitVec 8) (most p : Int) (hm : v8 wd ≤ most) (w : World) :
    Calls Try.prog 43 #[.int .u8 (v8 sg), .int .i64 most, .agg #[.int .i64 (v8 sq), .int .i64 (v8 wd), .int .i64 p]] w (PutYes sg sq wd p w) :=
  (prog_put_new sg sq wd most p hm w).mono fun _ _ h => h.yes
end Go.Proofs.Ytdfgjfojneoljaa.t
