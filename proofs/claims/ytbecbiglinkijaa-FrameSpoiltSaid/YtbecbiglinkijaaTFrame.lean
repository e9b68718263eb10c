/- What layer frame's PutFeed, PutSet, ReadFeed and ReadSet answer. No condition beside the kinds' own bounds, and the bytes' number. -/
import Derived.Test.YtbecbiglinkijaaTReadP
namespace Go.Proofs.Ytbecbiglinkijaa.t
open Go.ChangeShapes Go.WideShapes Go.ChangeAt Go.RowKit Go.Proofs.Ytbecbiglinkijaa.s
set_option linter.unusedVariables false

theorem feed_yes (sq wd : BitVec 8) (p : Int) (hm : v8 wd ≤ 127) (w : World) :
    Calls Try.prog 8 #[.agg #[.int .i64 (v8 sq), .int .i64 (v8 wd), .int .i64 p]] w (PutYes signF sq wd p w) := by
  have c1 := fun W => prog_put_yes signF sq wd 127 p hm W
  rw [signF_val] at c1
  have HC := Lib.hid c1
  clear c1
  go_enter Try.func8, Try.ntmps8
  go_wp2_with (go_at_call 16; ((with_reducible refine (HC.out _).mono ?_); rintro e w' ⟨A, cap, rfl, hB, h1, h2, hb⟩))
  go_ret2
  exact ⟨A, cap, rfl, hB, h1, h2, ((Below.refl _ _).alloc (Nat.le_refl _) _).trans (hb.mono (by simp))⟩
theorem feed_no (seq word p : Int) (h : seq < 0 ∨ 255 < seq ∨ word < 0 ∨ 127 < word) (w : World) :
    Calls Try.prog 8 #[.agg #[.int .i64 seq, .int .i64 word, .int .i64 p]] w (PutNo w) := by
  have c1 := fun W => prog_put_no signF 127 seq word p h W
  rw [signF_val] at c1
  have HC := Lib.hid c1
  clear c1 h
  go_enter Try.func8, Try.ntmps8
  go_wp2_with (go_at_call 16; ((with_reducible refine (HC.out _).mono ?_); rintro e w' ⟨A, cap, rfl, h2, hb⟩))
  go_ret2
  exact ⟨A, cap, rfl, h2, ((Below.refl _ _).alloc (Nat.le_refl _) _).trans (hb.mono (by simp))⟩
theorem set_yes (sq wd : BitVec 8) (p : Int) (hm : v8 wd ≤ 7) (w : World) :
    Calls Try.prog 11 #[.agg #[.int .i64 (v8 sq), .int .i64 (v8 wd), .int .i64 p]] w (PutYes signS sq wd p w) := by
  have c1 := fun W => prog_put_yes signS sq wd 7 p hm W
  rw [signS_val] at c1
  have HC := Lib.hid c1
  clear c1
  go_enter Try.func11, Try.ntmps11
  go_wp2_with (go_at_call 16; ((with_reducible refine (HC.out _).mono ?_); rintro e w' ⟨A, cap, rfl, hB, h1, h2, hb⟩))
  go_ret2
  exact ⟨A, cap, rfl, hB, h1, h2, ((Below.refl _ _).alloc (Nat.le_refl _) _).trans (hb.mono (by simp))⟩
theorem set_no (seq word p : Int) (h : seq < 0 ∨ 255 < seq ∨ word < 0 ∨ 7 < word) (w : World) :
    Calls Try.prog 11 #[.agg #[.int .i64 seq, .int .i64 word, .int .i64 p]] w (PutNo w) := by
  have c1 := fun W => prog_put_no signS 7 seq word p h W
  rw [signS_val] at c1
  have HC := Lib.hid c1
  clear c1 h
  go_enter Try.func11, Try.ntmps11
  go_wp2_with (go_at_call 16; ((with_reducible refine (HC.out _).mono ?_); rintro e w' ⟨A, cap, rfl, h2, hb⟩))
  go_ret2
  exact ⟨A, cap, rfl, h2, ((Below.refl _ _).alloc (Nat.le_refl _) _).trans (hb.mono (by simp))⟩
set_option maxHeartbeats 400000 in
theorem rfeed_any (l : List (BitVec 8)) (n : Nat) (hn : l.length = n) (hl : l.length ≤ 10000) (B : Nat) (A : Option Addr) (cap : Nat) (hcap : n ≤ cap) (hmax : cap ≤ maxLen) (W : World) (h : Bytes W B A l) (hB : B ≤ W.heap.size) :
    Calls Try.prog 12 #[.slice A n cap] W (ReadPost signF 127 l W) := by
  have c1 := fun (o : Obj) => prog_read_any signF 127 l n hn hl B A cap hcap hmax (W.alloc o) (h.below ((Below.refl B W).alloc hB o)) (Nat.le_trans hB (by simp))
  rw [signF_val] at c1
  have HC := Lib.hid c1
  clear c1 h hn hl hcap hmax
  go_enter Try.func12, Try.ntmps12
  go_wp2_with (go_at_call 18; ((with_reducible refine (HC.out _).mono ?_); rintro e w' ⟨rfl, hb⟩; have ⟨c0, f0⟩ := new_cell hb 0; have ⟨c1, f1⟩ := new_cell hb 1; have ⟨c2, f2⟩ := new_cell hb 2; have hz : W.heap.size < w'.heap.size := (Nat.lt_of_lt_of_le (by simp) hb.size); simp only [List.getElem?_toArray, List.getElem?_cons_zero, List.getElem?_cons_succ] at c0 c1 c2; have HB := Lib.hid hb; clear hb))
  refine bodyPost_ret (v := .tuple #[.agg #[.int .i64 (rS signF 127 l), .int .i64 (rW signF 127 l), .int .i64 (rP signF 127 l)], .int .i64 (rE signF 127 l)]) (by simp [results, Try.results12, go_sem, c0, c1, c2, hz]) rfl ?_
  have base := ((Below.refl W.heap.size W).alloc (Nat.le_refl _) _).trans (HB.out.mono (by simp))
  exact ⟨rfl, (((base.setCell (Nat.le_refl _) _).setCell (Nat.le_refl _) _).setCell (Nat.le_refl _) _).alloc (by simp; omega) _⟩
set_option maxHeartbeats 400000 in
theorem rset_any (l : List (BitVec 8)) (n : Nat) (hn : l.length = n) (hl : l.length ≤ 10000) (B : Nat) (A : Option Addr) (cap : Nat) (hcap : n ≤ cap) (hmax : cap ≤ maxLen) (W : World) (h : Bytes W B A l) (hB : B ≤ W.heap.size) :
    Calls Try.prog 14 #[.slice A n cap] W (ReadPost signS 7 l W) := by
  have c1 := fun (o : Obj) => prog_read_any signS 7 l n hn hl B A cap hcap hmax (W.alloc o) (h.below ((Below.refl B W).alloc hB o)) (Nat.le_trans hB (by simp))
  rw [signS_val] at c1
  have HC := Lib.hid c1
  clear c1 h hn hl hcap hmax
  go_enter Try.func14, Try.ntmps14
  go_wp2_with (go_at_call 18; ((with_reducible refine (HC.out _).mono ?_); rintro e w' ⟨rfl, hb⟩; have ⟨c0, f0⟩ := new_cell hb 0; have ⟨c1, f1⟩ := new_cell hb 1; have ⟨c2, f2⟩ := new_cell hb 2; have hz : W.heap.size < w'.heap.size := (Nat.lt_of_lt_of_le (by simp) hb.size); simp only [List.getElem?_toArray, List.getElem?_cons_zero, List.getElem?_cons_succ] at c0 c1 c2; have HB := Lib.hid hb; clear hb))
  refine bodyPost_ret (v := .tuple #[.agg #[.int .i64 (rS signS 7 l), .int .i64 (rW signS 7 l), .int .i64 (rP signS 7 l)], .int .i64 (rE signS 7 l)]) (by simp [results, Try.results14, go_sem, c0, c1, c2, hz]) rfl ?_
  have base := ((Below.refl W.heap.size W).alloc (Nat.le_refl _) _).trans (HB.out.mono (by simp))
  exact ⟨rfl, (((base.setCell (Nat.le_refl _) _).setCell (Nat.le_refl _) _).setCell (Nat.le_refl _) _).alloc (by simp; omega) _⟩
end Go.Proofs.Ytbecbiglinkijaa.t
