/- Plain facts on frames that were put and are read, as they were or spoilt. No condition beyond what each line says. -/
import Derived.Test.YtdfgjfojneoljaaTPost
namespace Go.Proofs.Ytdfgjfojneoljaa.t
open Go.ChangeShapes Go.WideShapes Go.ChangeAt Go.RowKit Go.Proofs.Ytdfgjfojneoljaa.s
set_option linter.unusedVariables false

/-- what was put is read: its parts, by the frame's bytes -/
theorem frame_fits (sg sq wd : BitVec 8) (n : Int) : Fits (frameV sg sq wd n) := (fits_rest (frame_length sg sq wd n)).2 (frame_rest sg sq wd n)
theorem frame_0 (sg sq wd : BitVec 8) (n : Int) : (frameV sg sq wd n).getD 0 0 = sg := rfl
theorem frame_1 (sg sq wd : BitVec 8) (n : Int) : (frameV sg sq wd n).getD 1 0 = sq := rfl
theorem frame_2 (sg sq wd : BitVec 8) (n : Int) : (frameV sg sq wd n).getD 2 0 = wd := rfl
theorem frame_place (sg sq wd : BitVec 8) (n : Int) : ((frameV sg sq wd n).drop 3).take 8 = be8 n := by
  unfold frameV body
  rw [List.append_assoc, List.drop_left' (by rfl), List.take_left' (by rfl)]
theorem place_back (p : Int) (h1 : -9223372036854775808 ≤ p) (h2 : p ≤ 9223372036854775807) : wrap64 (be (be8 (place64 p))) = p := by
  have h := place64_in p
  rw [be_be8 _ h.1 h.2]
  unfold place64 wrap64
  omega
theorem read_back (sg sq wd : BitVec 8) (most p : Int) (hm : v8 wd ≤ most) (h1 : -9223372036854775808 ≤ p) (h2 : p ≤ 9223372036854775807) :
    rE sg most (frameV sg sq wd (place64 p)) = 0 ∧ rS sg most (frameV sg sq wd (place64 p)) = v8 sq ∧ rW sg most (frameV sg sq wd (place64 p)) = v8 wd ∧ rP sg most (frameV sg sq wd (place64 p)) = p := by
  have e := rE_ok (sign := sg) (most := most) (frame_length sg sq wd (place64 p)) (frame_fits _ _ _ _) (by
    rw [frame_0, frame_2]
    intro h
    rcases h with h | h
    · exact h rfl
    · omega)
  have ⟨a, b, c⟩ := r_yes e
  rw [frame_1] at a
  rw [frame_2] at b
  rw [frame_place, place_back p h1 h2] at c
  exact ⟨e, a, b, c⟩
/-- a frame of the one kind is none of the other -/
theorem read_other (sg sg' sq wd : BitVec 8) (most n : Int) (hs : sg ≠ sg') : rE sg' most (frameV sg sq wd n) = 5 :=
  rE_form (frame_length sg sq wd n) (frame_fits _ _ _ _) (.inl (by rw [frame_0]; exact hs))
/-- a change within two bytes side by side spoils the sum -/
theorem spoilt (l a b : List (BitVec 8)) (x y c d : BitVec 8) (e : l = a ++ [x, y] ++ b) (hl : l.length = 13) (hf : Fits l) (h : ¬ (c = 0 ∧ d = 0)) : ¬ Fits (a ++ [x ^^^ c, y ^^^ d] ++ b) := by
  have hl2 : (a ++ [x ^^^ c, y ^^^ d] ++ b).length = 13 := by rw [← hl, e]; simp
  rw [fits_rest hl2]
  rw [fits_rest hl] at hf
  intro hz
  rw [e] at hf
  exact h (burst_text first a b x y c d (hf.trans hz.symm))
theorem wf64 {a : Int} (h : (Lit.int .i64 a).wf = true) : -9223372036854775808 ≤ a ∧ a ≤ 9223372036854775807 := by
  simp only [Lit.wf, IntKind.min, IntKind.max, IntKind.signed, IntKind.bits, Bool.and_eq_true, decide_eq_true_eq, if_true] at h
  omega
end Go.Proofs.Ytdfgjfojneoljaa.t
