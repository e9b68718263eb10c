/- Plain facts on a frame of which a byte, or two side by side, were changed: it is read just if nothing was. No condition beyond what each line says. -/
import Derived.Test.YtdfgjfojneoljaaTBack
import Derived.Test.YtdfgjfojneoljaaTFeedR
namespace Go.Proofs.Ytdfgjfojneoljaa.t
open Go.ChangeShapes Go.WideShapes Go.ChangeAt Go.RowKit Go.Proofs.Ytdfgjfojneoljaa.s
set_option linter.unusedVariables false

theorem xor0 (a : BitVec 8) : a ^^^ 0 = a := BitVec.xor_zero
theorem getD_set (l : List (BitVec 8)) (k : Nat) (a : BitVec 8) (i : Nat) (hk : k < l.length) : (l.set k a).getD i 0 = if i = k then a else l.getD i 0 := by
  rw [List.getD_eq_getElem?_getD, List.getElem?_set]
  by_cases h : i = k
  · subst h; simp [hk]
  · rw [if_neg (by omega), if_neg h, List.getD_eq_getElem?_getD]
theorem set_pair (l : List (BitVec 8)) (k : Nat) (a b : BitVec 8) (hk : k + 1 < l.length) : (l.set k a).set (k + 1) b = l.take k ++ [a, b] ++ l.drop (k + 2) := by
  apply List.ext_getElem?
  intro i
  rw [List.getElem?_set, List.getElem?_set]
  have e1 : (l.take k).length = k := by rw [List.length_take]; omega
  have e2 : (l.take k ++ [a, b]).length = k + 2 := by simp [e1]
  by_cases h1 : i < k
  · rw [if_neg (by omega), if_neg (by omega), List.append_assoc, List.getElem?_append_left (by omega), List.getElem?_take, if_pos h1]
  · by_cases h2 : i = k
    · subst h2
      rw [if_neg (by omega), if_pos rfl, List.append_assoc, List.getElem?_append_right (by omega), e1]
      simp; omega
    · by_cases h3 : i = k + 1
      · subst h3
        rw [if_pos rfl, List.append_assoc, List.getElem?_append_right (by omega), e1]
        simp; omega
      · rw [if_neg (by omega), if_neg (by omega), List.getElem?_append_right (by omega), e2, List.getElem?_drop]
        congr 1; omega
theorem pair_self (l : List (BitVec 8)) (k : Nat) (hk : k + 1 < l.length) : l = l.take k ++ [l.getD k 0, l.getD (k + 1) 0] ++ l.drop (k + 2) := by
  rw [← set_pair l k _ _ hk]
  apply List.ext_getElem?
  intro i
  rw [List.getElem?_set, List.getElem?_set]
  by_cases h3 : k + 1 = i
  · subst h3
    rw [if_pos rfl, if_pos (by rw [List.length_set]; omega)]
    simp [List.getD_eq_getElem?_getD, hk]
  · rw [if_neg h3]
    by_cases h2 : k = i
    · subst h2
      rw [if_pos rfl, if_pos (by omega)]
      have : k < l.length := by omega
      simp [List.getD_eq_getElem?_getD, this]
    · rw [if_neg h2]
theorem spoil_pair (sg : BitVec 8) (most : Int) (l : List (BitVec 8)) (hl : l.length = 13) (hf : Fits l) (hr : rE sg most l = 0) (k : Nat) (hk : k < 12) (x y : BitVec 8) :
    rE sg most ((l.set k (l.getD k 0 ^^^ x)).set (k + 1) (l.getD (k + 1) 0 ^^^ y)) = if x = 0 ∧ y = 0 then 0 else 6 := by
  rw [set_pair l k _ _ (by omega)]
  by_cases h : x = 0 ∧ y = 0
  · rw [if_pos h, h.1, h.2, xor0, xor0, ← pair_self l k (by omega), hr]
  · rw [if_neg h]
    have e := pair_self l k (by omega)
    exact rE_sum (by simp; omega) (spoilt l _ _ _ _ x y e hl hf h)
theorem spoil_last (sg : BitVec 8) (most : Int) (l : List (BitVec 8)) (hl : l.length = 13) (hf : Fits l) (hr : rE sg most l = 0) (x : BitVec 8) :
    rE sg most (l.set 12 (l.getD 12 0 ^^^ x)) = if x = 0 then 0 else 6 := by
  have h := spoil_pair sg most l hl hf hr 11 (by omega) 0 x
  rw [xor0] at h
  have e : l.set 11 (l.getD 11 0) = l := by
    apply List.ext_getElem?
    intro i
    rw [List.getElem?_set]
    by_cases h2 : 11 = i
    · subst h2
      simp [List.getD_eq_getElem?_getD, hl]
    · rw [if_neg h2]
  rw [e] at h
  rw [h]
  simp
/-- the bytes that a call copied: they may be written -/
theorem own_arr {w : World} {base : Nat} {v : Value} {l : List (BitVec 8)} (h : Own w base v l) (hl : 0 < l.length) :
    ∃ g cap, v = .slice (some ⟨g, 0, none⟩) l.length cap ∧ base ≤ g ∧ g < w.heap.size ∧ Arr w g l.length (fun i => .int .u8 (v8 (l.getD i 0))) ∧ l.length ≤ cap ∧ cap ≤ maxLen := by
  rcases h.2 with ⟨_, h0⟩ | ⟨g, cap, cur, rfl, hb, hg, hle, hmax, hcs, htake⟩
  · omega
  · refine ⟨g, cap, rfl, hb, (Array.getElem?_eq_some_iff.1 hg).1, fun i hi => ⟨?_, by simp [World.frozen?, hg]⟩, hle, hmax⟩
    have hc := World.ownsRow.cells (g := g) h rfl i (.int .u8 (v8 (l.getD i 0))) (by
      rw [List.getElem?_map, List.getElem?_eq_getElem hi]; simp [List.getD_eq_getElem?_getD, hi])
    have e : (Addr.add ⟨g, 0, none⟩ i) = ⟨g, i, none⟩ := by
      unfold Addr.add; by_cases h : i = 0 <;> simp [h]
    rw [e] at hc
    exact hc
theorem v8_zero (c : BitVec 8) (h : c = 0) : (v8 c == 0) = true := by subst h; rfl
theorem v8_not (c : BitVec 8) (h : c ≠ 0) : (v8 c == 0) = false := by
  rw [beq_eq_false_iff_ne]
  intro e
  exact h (v8_inj (e.trans (show (0 : Int) = v8 0 from rfl)))
theorem spoil_cases (x y : BitVec 8) (E : Int) (h : (if x = 0 ∧ y = 0 then (0 : Int) else 6) = E) :
    (E = 0 ∧ (v8 x == 0) = true ∧ (v8 y == 0) = true) ∨ (E = 6 ∧ (v8 x == 0) = true ∧ (v8 y == 0) = false) ∨ (E = 6 ∧ (v8 x == 0) = false) := by
  by_cases hx : x = 0
  · by_cases hy : y = 0
    · rw [if_pos ⟨hx, hy⟩] at h
      exact .inl ⟨h.symm, v8_zero x hx, v8_zero y hy⟩
    · rw [if_neg fun e => hy e.2] at h
      exact .inr (.inl ⟨h.symm, v8_zero x hx, v8_not y hy⟩)
  · rw [if_neg fun e => hx e.1] at h
    exact .inr (.inr ⟨h.symm, v8_not x hx⟩)
theorem spoil_case (x : BitVec 8) (E : Int) (h : (if x = 0 then (0 : Int) else 6) = E) : (E = 0 ∧ (v8 x == 0) = true) ∨ (E = 6 ∧ (v8 x == 0) = false) := by
  by_cases hx : x = 0
  · rw [if_pos hx] at h
    exact .inl ⟨h.symm, v8_zero x hx⟩
  · rw [if_neg hx] at h
    exact .inr ⟨h.symm, v8_not x hx⟩
/-- what ReadFeed answers, its error by a name -/
theorem read_as (l : List (BitVec 8)) (E : Int) (hE : rE signF 127 l = E) (n : Nat) (hn : l.length = n) (hl : l.length ≤ 10000) : ∃ r0 r1 r2 : Int, ∀ (B : Nat) (A : Option Addr) (cap : Nat), n ≤ cap → cap ≤ maxLen → ∀ (W : World), Bytes W B A l → B ≤ W.heap.size →
    Calls Try.prog 40 #[.slice A n cap] W fun e w' => e = .returned (.tuple #[.agg #[.int .i64 r0, .int .i64 r1, .int .i64 r2], .int .i64 E]) ∧ Below W.heap.size W w' :=
  ⟨_, _, _, fun B A cap h1 h2 W h hB => (rfeed_any l n hn hl B A cap h1 h2 W h hB).mono fun e w' ⟨he, hb⟩ => ⟨by rw [hE] at he; exact he, hb⟩⟩
end Go.Proofs.Ytdfgjfojneoljaa.t
