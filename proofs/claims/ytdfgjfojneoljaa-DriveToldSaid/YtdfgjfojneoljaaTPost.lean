/- What is said of a frame that was put, or of bytes that were read: the contracts' words. No condition. -/
import Derived.Test.YtdfgjfojneoljaaTPut
import Derived.Test.YtdfgjfojneoljaaTRead
namespace Go.Proofs.Ytdfgjfojneoljaa.t
open Go.ChangeShapes Go.WideShapes Go.ChangeAt Go.RowKit Go.Proofs.Ytdfgjfojneoljaa.s
set_option linter.unusedVariables false

def PutYes (sg sq wd : BitVec 8) (p : Int) (W : World) (e : Ending) (w' : World) : Prop :=
  ∃ A cap, e = .returned (.tuple #[.slice A 13 cap, .int .i64 0]) ∧ Bytes w' w'.heap.size A (frameV sg sq wd (place64 p)) ∧ 13 ≤ cap ∧ cap ≤ maxLen ∧ Below W.heap.size W w'
/-- a slice's array lies in a block from here on -/
def NewAt (lo : Nat) (A : Option Addr) : Prop := ∃ g, A = some ⟨g, 0, none⟩ ∧ lo ≤ g
theorem NewAt.mono {lo lo' : Nat} {A : Option Addr} (h : NewAt lo A) (hl : lo' ≤ lo) : NewAt lo' A := by
  obtain ⟨g, e, hg⟩ := h
  exact ⟨g, e, Nat.le_trans hl hg⟩
theorem newAt {w : World} {base n cap : Nat} {A : Option Addr} {l : List (BitVec 8)} (h : Own w base (.slice A n cap) l) (hl : 0 < l.length) : NewAt base A := by
  rcases h.2 with ⟨_, h0⟩ | ⟨g, cap', cur, hv, hb, _⟩
  · omega
  · cases hv
    exact ⟨g, rfl, hb⟩
def PutNew (sg sq wd : BitVec 8) (p : Int) (W : World) (e : Ending) (w' : World) : Prop :=
  ∃ A cap, e = .returned (.tuple #[.slice A 13 cap, .int .i64 0]) ∧ Bytes w' w'.heap.size A (frameV sg sq wd (place64 p)) ∧ 13 ≤ cap ∧ cap ≤ maxLen ∧ Below W.heap.size W w' ∧ NewAt W.heap.size A
theorem PutNew.yes {sg sq wd : BitVec 8} {p : Int} {W : World} {e : Ending} {w' : World} (h : PutNew sg sq wd p W e w') : PutYes sg sq wd p W e w' := by
  obtain ⟨A, cap, h1, h2, h3, h4, h5, _⟩ := h
  exact ⟨A, cap, h1, h2, h3, h4, h5⟩
def PutNo (W : World) (e : Ending) (w' : World) : Prop :=
  ∃ A cap, e = .returned (.tuple #[.slice A 0 cap, .int .i64 1]) ∧ cap ≤ maxLen ∧ Below W.heap.size W w'
def ReadPost (sg : BitVec 8) (most : Int) (l : List (BitVec 8)) (W : World) (e : Ending) (w' : World) : Prop :=
  e = .returned (.tuple #[.agg #[.int .i64 (rS sg most l), .int .i64 (rW sg most l), .int .i64 (rP sg most l)], .int .i64 (rE sg most l)]) ∧ Below W.heap.size W w'
def signF : BitVec 8 := 70#8
def signS : BitVec 8 := 83#8
theorem signF_val : v8 signF = 70 := rfl
theorem signS_val : v8 signS = 83 := rfl
/-- the reference's Put, the slice written out -/
theorem ref_put_new (sg sq wd : BitVec 8) (most p : Int) (hm : v8 wd ≤ most) (w : World) :
    Calls Try.prog 17 #[.int .u8 (v8 sg), .int .i64 most, .int .i64 (v8 sq), .int .i64 (v8 wd), .int .i64 p] w (PutNew sg sq wd p w) :=
  (put_ok sg sq wd most p hm w).mono fun e w' ⟨v, he, hO, hb⟩ => by
    obtain ⟨A, cap, rfl, hB, h1, h2, _⟩ := hO.form
    have hn := newAt hO (by rw [frame_length]; omega)
    rw [frame_length] at he h1
    exact ⟨A, cap, he, hB, h1, h2, hb, hn⟩
theorem ref_put_yes (sg sq wd : BitVec 8) (most p : Int) (hm : v8 wd ≤ most) (w : World) :
    Calls Try.prog 17 #[.int .u8 (v8 sg), .int .i64 most, .int .i64 (v8 sq), .int .i64 (v8 wd), .int .i64 p] w (PutYes sg sq wd p w) :=
  (ref_put_new sg sq wd most p hm w).mono fun _ _ h => h.yes
theorem ref_put_no (sg : BitVec 8) (most seq word p : Int) (h : seq < 0 ∨ 255 < seq ∨ word < 0 ∨ most < word) (w : World) :
    Calls Try.prog 17 #[.int .u8 (v8 sg), .int .i64 most, .int .i64 seq, .int .i64 word, .int .i64 p] w (PutNo w) :=
  (put_no sg most seq word p h w).mono fun e w' ⟨he, hw⟩ => ⟨.none, 0, he, by unfold maxLen; omega, hw ▸ Below.refl _ _⟩
/-- is it a number, or word, of a frame? -/
theorem put_cases (most seq word : Int) (hm : most ≤ 255) : (seq < 0 ∨ 255 < seq ∨ word < 0 ∨ most < word) ∨ ∃ sq wd : BitVec 8, seq = v8 sq ∧ word = v8 wd ∧ v8 wd ≤ most := by
  by_cases h : seq < 0 ∨ 255 < seq ∨ word < 0 ∨ most < word
  · exact .inl h
  · have e1 := v8_of seq (by omega) (by omega)
    have e2 := v8_of word (by omega) (by omega)
    exact .inr ⟨BitVec.ofInt 8 seq, BitVec.ofInt 8 word, e1.symm, e2.symm, by omega⟩
end Go.Proofs.Ytdfgjfojneoljaa.t
