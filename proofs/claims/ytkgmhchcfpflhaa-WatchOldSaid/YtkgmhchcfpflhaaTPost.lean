/- What is said of a frame that was put, or of bytes that were read: the contracts' words. No condition. -/
import Derived.Test.YtkgmhchcfpflhaaTPut
import Derived.Test.YtkgmhchcfpflhaaTRead
namespace Go.Proofs.Ytkgmhchcfpflhaa.t
open Go.ChangeShapes Go.WideShapes Go.ChangeAt Go.RowKit Go.Proofs.Ytkgmhchcfpflhaa.s
set_option linter.unusedVariables false

def PutYes (sg sq wd : BitVec 8) (p : Int) (W : World) (e : Ending) (w' : World) : Prop :=
  ∃ A cap, e = .returned (.tuple #[.slice A 13 cap, .int .i64 0]) ∧ Bytes w' w'.heap.size A (frameV sg sq wd (place64 p)) ∧ 13 ≤ cap ∧ cap ≤ maxLen ∧ Below W.heap.size W w'
def PutNo (W : World) (e : Ending) (w' : World) : Prop :=
  ∃ A cap, e = .returned (.tuple #[.slice A 0 cap, .int .i64 1]) ∧ cap ≤ maxLen ∧ Below W.heap.size W w'
def ReadPost (sg : BitVec 8) (most : Int) (l : List (BitVec 8)) (W : World) (e : Ending) (w' : World) : Prop :=
  e = .returned (.tuple #[.agg #[.int .i64 (rS sg most l), .int .i64 (rW sg most l), .int .i64 (rP sg most l)], .int .i64 (rE sg most l)]) ∧ Below W.heap.size W w'
def signF : BitVec 8 := 70#8
def signS : BitVec 8 := 83#8
theorem signF_val : v8 signF = 70 := rfl
theorem signS_val : v8 signS = 83 := rfl
/-- the reference's Put, the slice written out -/
theorem ref_put_yes (sg sq wd : BitVec 8) (most p : Int) (hm : v8 wd ≤ most) (w : World) :
    Calls Try.prog 13 #[.int .u8 (v8 sg), .int .i64 most, .int .i64 (v8 sq), .int .i64 (v8 wd), .int .i64 p] w (PutYes sg sq wd p w) :=
  (put_ok sg sq wd most p hm w).mono fun e w' ⟨v, he, hO, hb⟩ => by
    obtain ⟨A, cap, rfl, hB, h1, h2, _⟩ := hO.form
    rw [frame_length] at he h1
    exact ⟨A, cap, he, hB, h1, h2, hb⟩
theorem ref_put_no (sg : BitVec 8) (most seq word p : Int) (h : seq < 0 ∨ 255 < seq ∨ word < 0 ∨ most < word) (w : World) :
    Calls Try.prog 13 #[.int .u8 (v8 sg), .int .i64 most, .int .i64 seq, .int .i64 word, .int .i64 p] w (PutNo w) :=
  (put_no sg most seq word p h w).mono fun e w' ⟨he, hw⟩ => ⟨.none, 0, he, by unfold maxLen; omega, hw ▸ Below.refl _ _⟩
/-- is it a number, or word, of a frame? -/
theorem put_cases (most seq word : Int) (hm : most ≤ 255) : (seq < 0 ∨ 255 < seq ∨ word < 0 ∨ most < word) ∨ ∃ sq wd : BitVec 8, seq = v8 sq ∧ word = v8 wd ∧ v8 wd ≤ most := by
  by_cases h : seq < 0 ∨ 255 < seq ∨ word < 0 ∨ most < word
  · exact .inl h
  · have e1 := v8_of seq (by omega) (by omega)
    have e2 := v8_of word (by omega) (by omega)
    exact .inr ⟨BitVec.ofInt 8 seq, BitVec.ofInt 8 word, e1.symm, e2.symm, by omega⟩
end Go.Proofs.Ytkgmhchcfpflhaa.t
