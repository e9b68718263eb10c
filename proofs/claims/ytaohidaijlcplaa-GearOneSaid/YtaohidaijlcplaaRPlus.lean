/- What servitorref01's plus answers: two numbers with their signs together. -/
import Derived.Test.YtaohidaijlcplaaRLess
import Derived.Test.YtaohidaijlcplaaRCmp
namespace Go.Proofs.Ytaohidaijlcplaa.r
open Go.ChangeShapes Go.WideShapes Go.ChangeAt Go.RowKit Go.Proofs.Ytaohidaijlcplaa.q
set_option linter.unusedVariables false

theorem bcell {W w1 : World} (hb : Below W.heap.size W w1) : (∀ b o, b < W.heap.size → w1.cell? ⟨b, o, none⟩ = W.cell? ⟨b, o, none⟩) ∧ (∀ b o, b < W.heap.size → w1.frozen? ⟨b, o, none⟩ = W.frozen? ⟨b, o, none⟩) :=
  ⟨fun b o h => hb.cell (p := ⟨b, o, none⟩) h, fun b o h => hb.frozen (p := ⟨b, o, none⟩) h⟩

theorem below3' (w : World) (o1 o2 o3 : Obj) : Below w.heap.size w (((w.alloc o1).alloc o2).alloc o3) :=
  (((Below.refl _ _).alloc (Nat.le_refl _) _).alloc (by simp) _).alloc (by simp; omega) _
theorem below_set5 {B : Nat} {w w1 : World} (h : Below B w w1) {b : Nat} (hb : B ≤ b) {x0 x1 x2 x3 x4 : Value} :
    Below B w (((((w1.setCell ⟨b, 0, none⟩ x0).setCell ⟨b, 1, none⟩ x1).setCell ⟨b, 2, none⟩ x2).setCell ⟨b, 3, none⟩ x3).setCell ⟨b, 4, none⟩ x4) :=
  ((((h.setCell hb _).setCell hb _).setCell hb _).setCell hb _).setCell hb _

set_option maxRecDepth 100000 in
set_option maxHeartbeats 1000000 in
theorem plus_same {A B : Int} {m : Bool} {va vb : Value} (hA : IsW A m va) (hB : IsW B m vb) (hAB : A + B < top) (w : World) :
    Calls Try.prog 34 #[va, vb] w (WPost (A + B) m w) := by
  have cs := fun (w : World) => sum_any hA hB hAB w
  clear hAB
  obtain ⟨a0, a1, a2, a3, rfl, la, rfl⟩ := hA
  obtain ⟨b0, b1, b2, b3, rfl, lb, rfl⟩ := hB
  clear la lb
  go_enter Try.func34, Try.ntmps34
  go_wp2_with (go_at_call 40; (with_reducible refine (cs _).mono ?_); rintro e w1 ⟨v, rfl, ⟨s0, s1, s2, s3, rfl, ls, es⟩, hb⟩; obtain ⟨hc, hf⟩ := bcell hb)
  obtain ⟨hc, hf⟩ := bcell hb
  exact bodyPost_ret (v := .agg #[.int .u64 s0, .int .u64 s1, .int .u64 s2, .int .u64 s3, .bool m]) (by simp [results, Try.results34, go_sem, hc]) rfl
    ⟨_, rfl, ⟨_, _, _, _, rfl, ls, es⟩, below_set5 ((below3' _ _ _ _).trans (hb.mono (by simp; omega))) (by omega)⟩

set_option maxRecDepth 100000 in
set_option maxHeartbeats 1000000 in
theorem plus_ge {A B : Int} {ma mb : Bool} {va vb : Value} (hA : IsW A ma va) (hB : IsW B mb vb) (hm : ma = !mb) (hAB : B ≤ A) (w : World) :
    Calls Try.prog 34 #[va, vb] w (WPost (A - B) ma w) := by
  have cs := fun (w : World) => less_any hA hB hAB w
  have cc := fun (w : World) => cmp_any hA hB w
  have hk : 0 ≤ cmpV A B := by unfold cmpV; rw [if_neg (by omega)]; split <;> omega
  generalize cmpV A B = k at *
  clear hAB
  cases ma <;> cases mb
  · exact absurd hm (by decide)
  · -- false, true
    clear hm
    obtain ⟨a0, a1, a2, a3, rfl, la, rfl⟩ := hA
    obtain ⟨b0, b1, b2, b3, rfl, lb, rfl⟩ := hB
    clear la lb
    go_enter Try.func34, Try.ntmps34
    go_wp2_with (first | (go_at_call 48; (with_reducible refine (cc _).mono ?_); rintro e w1 ⟨rfl, hb1⟩; obtain ⟨hc1, hf1⟩ := bcell hb1; have hz1 : w.heap.size + 1 + 1 < w1.heap.size := by (have := hb1.size; simp at this; omega)) | (go_at_call 49; (with_reducible refine (cs _).mono ?_); rintro e w2 ⟨v, rfl, ⟨s0, s1, s2, s3, rfl, ls, es⟩, hb⟩; obtain ⟨hc, hf⟩ := bcell hb))
    obtain ⟨hc1, hf1⟩ := bcell hb1
    obtain ⟨hc, hf⟩ := bcell hb
    exact bodyPost_ret (v := .agg #[.int .u64 s0, .int .u64 s1, .int .u64 s2, .int .u64 s3, .bool false]) (by simp [results, Try.results34, go_sem, hc, hc1, hz1]) rfl
      ⟨_, rfl, ⟨_, _, _, _, rfl, ls, es⟩, below_set5 (((below3' _ _ _ _).trans (hb1.mono (by simp; omega))).trans (hb.mono (by omega))) (by omega)⟩
  · -- true, false
    clear hm
    obtain ⟨a0, a1, a2, a3, rfl, la, rfl⟩ := hA
    obtain ⟨b0, b1, b2, b3, rfl, lb, rfl⟩ := hB
    clear la lb
    go_enter Try.func34, Try.ntmps34
    go_wp2_with (first | (go_at_call 48; (with_reducible refine (cc _).mono ?_); rintro e w1 ⟨rfl, hb1⟩; obtain ⟨hc1, hf1⟩ := bcell hb1; have hz1 : w.heap.size + 1 + 1 < w1.heap.size := by (have := hb1.size; simp at this; omega)) | (go_at_call 49; (with_reducible refine (cs _).mono ?_); rintro e w2 ⟨v, rfl, ⟨s0, s1, s2, s3, rfl, ls, es⟩, hb⟩; obtain ⟨hc, hf⟩ := bcell hb))
    obtain ⟨hc1, hf1⟩ := bcell hb1
    obtain ⟨hc, hf⟩ := bcell hb
    exact bodyPost_ret (v := .agg #[.int .u64 s0, .int .u64 s1, .int .u64 s2, .int .u64 s3, .bool true]) (by simp [results, Try.results34, go_sem, hc, hc1, hz1]) rfl
      ⟨_, rfl, ⟨_, _, _, _, rfl, ls, es⟩, below_set5 (((below3' _ _ _ _).trans (hb1.mono (by simp; omega))).trans (hb.mono (by omega))) (by omega)⟩
  · exact absurd hm (by decide)

set_option maxRecDepth 100000 in
set_option maxHeartbeats 1000000 in
theorem plus_lt {A B : Int} {ma mb : Bool} {va vb : Value} (hA : IsW A ma va) (hB : IsW B mb vb) (hm : ma = !mb) (hAB : A < B) (w : World) :
    Calls Try.prog 34 #[va, vb] w (WPost (B - A) mb w) := by
  have cs := fun (w : World) => less_any hB hA (Int.le_of_lt hAB) w
  have cc := fun (w : World) => cmp_any hA hB w
  have hk : cmpV A B < 0 := by unfold cmpV; rw [if_pos hAB]; omega
  generalize cmpV A B = k at *
  clear hAB
  cases ma <;> cases mb
  · exact absurd hm (by decide)
  · -- false, true
    clear hm
    obtain ⟨a0, a1, a2, a3, rfl, la, rfl⟩ := hA
    obtain ⟨b0, b1, b2, b3, rfl, lb, rfl⟩ := hB
    clear la lb
    go_enter Try.func34, Try.ntmps34
    go_wp2_with (first | (go_at_call 48; (with_reducible refine (cc _).mono ?_); rintro e w1 ⟨rfl, hb1⟩; obtain ⟨hc1, hf1⟩ := bcell hb1; have hz1 : w.heap.size + 1 + 1 < w1.heap.size := by (have := hb1.size; simp at this; omega)) | (go_at_call 49; (with_reducible refine (cs _).mono ?_); rintro e w2 ⟨v, rfl, ⟨s0, s1, s2, s3, rfl, ls, es⟩, hb⟩; obtain ⟨hc, hf⟩ := bcell hb))
    obtain ⟨hc1, hf1⟩ := bcell hb1
    obtain ⟨hc, hf⟩ := bcell hb
    exact bodyPost_ret (v := .agg #[.int .u64 s0, .int .u64 s1, .int .u64 s2, .int .u64 s3, .bool true]) (by simp [results, Try.results34, go_sem, hc, hc1, hz1]) rfl
      ⟨_, rfl, ⟨_, _, _, _, rfl, ls, es⟩, below_set5 (((below3' _ _ _ _).trans (hb1.mono (by simp; omega))).trans (hb.mono (by omega))) (by omega)⟩
  · -- true, false
    clear hm
    obtain ⟨a0, a1, a2, a3, rfl, la, rfl⟩ := hA
    obtain ⟨b0, b1, b2, b3, rfl, lb, rfl⟩ := hB
    clear la lb
    go_enter Try.func34, Try.ntmps34
    go_wp2_with (first | (go_at_call 48; (with_reducible refine (cc _).mono ?_); rintro e w1 ⟨rfl, hb1⟩; obtain ⟨hc1, hf1⟩ := bcell hb1; have hz1 : w.heap.size + 1 + 1 < w1.heap.size := by (have := hb1.size; simp at this; omega)) | (go_at_call 49; (with_reducible refine (cs _).mono ?_); rintro e w2 ⟨v, rfl, ⟨s0, s1, s2, s3, rfl, ls, es⟩, hb⟩; obtain ⟨hc, hf⟩ := bcell hb))
    obtain ⟨hc1, hf1⟩ := bcell hb1
    obtain ⟨hc, hf⟩ := bcell hb
    exact bodyPost_ret (v := .agg #[.int .u64 s0, .int .u64 s1, .int .u64 s2, .int .u64 s3, .bool false]) (by simp [results, Try.results34, go_sem, hc, hc1, hz1]) rfl
      ⟨_, rfl, ⟨_, _, _, _, rfl, ls, es⟩, below_set5 (((below3' _ _ _ _).trans (hb1.mono (by simp; omega))).trans (hb.mono (by omega))) (by omega)⟩
  · exact absurd hm (by decide)
end Go.Proofs.Ytaohidaijlcplaa.r
