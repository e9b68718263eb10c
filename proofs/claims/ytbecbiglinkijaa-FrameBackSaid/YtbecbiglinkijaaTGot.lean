/- What layer frame puts is what the reference puts: one list of bytes and one error for both. No condition beside the kinds' own bounds. -/
import Derived.Test.YtbecbiglinkijaaTAwake
import Derived.Test.YtbecbiglinkijaaSSame
namespace Go.Proofs.Ytbecbiglinkijaa.t
open Go.ChangeShapes Go.WideShapes Go.ChangeAt Go.RowKit Go.Proofs.Ytbecbiglinkijaa.s
set_option linter.unusedVariables false

/-- bytes and an error are answered; what was in memory is as it was -/
def Got (L : List (BitVec 8)) (n : Nat) (E : Int) (W : World) (e : Ending) (w' : World) : Prop :=
  ∃ A cap, e = .returned (.tuple #[.slice A n cap, .int .i64 E]) ∧ Bytes w' w'.heap.size A L ∧ n ≤ cap ∧ cap ≤ maxLen ∧ Below W.heap.size W w'
theorem got_yes {sg sq wd : BitVec 8} {p : Int} {W w' : World} {e : Ending} (h : PutYes sg sq wd p W e w') : Got (frameV sg sq wd (place64 p)) 13 0 W e w' := by
  obtain ⟨A, cap, he, hB, h1, h2, hb⟩ := h
  exact ⟨A, cap, he, hB, h1, h2, hb⟩
theorem got_no {W w' : World} {e : Ending} (h : PutNo W e w') : Got [] 0 1 W e w' := by
  obtain ⟨A, cap, he, h1, hb⟩ := h
  exact ⟨A, cap, he, fun h => absurd h (by simp), Nat.zero_le _, h1, hb⟩
theorem feed_got (q wd p : Int) : ∃ (L : List (BitVec 8)) (n : Nat) (E : Int), L.length = n ∧ L.length ≤ 10000 ∧ (∀ W, Calls Try.prog 8 #[.agg #[.int .i64 q, .int .i64 wd, .int .i64 p]] W (Got L n E W)) ∧
    ∀ W, Calls Try.prog 9 #[.int .u8 70, .int .i64 127, .int .i64 q, .int .i64 wd, .int .i64 p] W (Got L n E W) := by
  rcases put_cases 127 q wd (by decide) with h | ⟨sq, w2, rfl, rfl, hm⟩
  · exact ⟨[], 0, 1, rfl, by simp, fun W => (feed_no q wd p h W).mono fun _ _ h => got_no h, fun W => (ref_put_no signF 127 q wd p h W).mono fun _ _ h => got_no h⟩
  · exact ⟨_, 13, 0, frame_length _ _ _ _, by rw [frame_length]; decide, fun W => (feed_yes sq w2 p hm W).mono fun _ _ h => got_yes h, fun W => (ref_put_yes signF sq w2 127 p hm W).mono fun _ _ h => got_yes h⟩
theorem set_got (q wd p : Int) : ∃ (L : List (BitVec 8)) (n : Nat) (E : Int), L.length = n ∧ L.length ≤ 10000 ∧ (∀ W, Calls Try.prog 11 #[.agg #[.int .i64 q, .int .i64 wd, .int .i64 p]] W (Got L n E W)) ∧
    ∀ W, Calls Try.prog 9 #[.int .u8 83, .int .i64 7, .int .i64 q, .int .i64 wd, .int .i64 p] W (Got L n E W) := by
  rcases put_cases 7 q wd (by decide) with h | ⟨sq, w2, rfl, rfl, hm⟩
  · exact ⟨[], 0, 1, rfl, by simp, fun W => (set_no q wd p h W).mono fun _ _ h => got_no h, fun W => (ref_put_no signS 7 q wd p h W).mono fun _ _ h => got_no h⟩
  · exact ⟨_, 13, 0, frame_length _ _ _ _, by rw [frame_length]; decide, fun W => (set_yes sq w2 p hm W).mono fun _ _ h => got_yes h, fun W => (ref_put_yes signS sq w2 7 p hm W).mono fun _ _ h => got_yes h⟩
theorem same_self (l : List (BitVec 8)) : same l l = true := by unfold same; simp
/-- what was put is read -/
theorem feed_back (sq wd : BitVec 8) (p : Int) (hm : v8 wd ≤ 127) (h1 : -9223372036854775808 ≤ p) (h2 : p ≤ 9223372036854775807) (B : Nat) (A : Option Addr) (cap : Nat) (hcap : 13 ≤ cap) (hmax : cap ≤ maxLen) (W : World)
    (h : Bytes W B A (frameV signF sq wd (place64 p))) (hB : B ≤ W.heap.size) :
    Calls Try.prog 12 #[.slice A 13 cap] W fun e w' => e = .returned (.tuple #[.agg #[.int .i64 (v8 sq), .int .i64 (v8 wd), .int .i64 p], .int .i64 0]) ∧ Below W.heap.size W w' :=
  (rfeed_any _ 13 (frame_length _ _ _ _) (by rw [frame_length]; decide) B A cap hcap hmax W h hB).mono fun e w' ⟨he, hb⟩ => by
    obtain ⟨a, b, c, d⟩ := read_back signF sq wd 127 p hm h1 h2
    rw [a, b, c, d] at he
    exact ⟨he, hb⟩
/-- what was put is read -/
theorem set_back (sq wd : BitVec 8) (p : Int) (hm : v8 wd ≤ 7) (h1 : -9223372036854775808 ≤ p) (h2 : p ≤ 9223372036854775807) (B : Nat) (A : Option Addr) (cap : Nat) (hcap : 13 ≤ cap) (hmax : cap ≤ maxLen) (W : World)
    (h : Bytes W B A (frameV signS sq wd (place64 p))) (hB : B ≤ W.heap.size) :
    Calls Try.prog 14 #[.slice A 13 cap] W fun e w' => e = .returned (.tuple #[.agg #[.int .i64 (v8 sq), .int .i64 (v8 wd), .int .i64 p], .int .i64 0]) ∧ Below W.heap.size W w' :=
  (rset_any _ 13 (frame_length _ _ _ _) (by rw [frame_length]; decide) B A cap hcap hmax W h hB).mono fun e w' ⟨he, hb⟩ => by
    obtain ⟨a, b, c, d⟩ := read_back signS sq wd 7 p hm h1 h2
    rw [a, b, c, d] at he
    exact ⟨he, hb⟩
/-- and never as the other kind -/
theorem feed_other (sq wd : BitVec 8) (n : Int) (B : Nat) (A : Option Addr) (cap : Nat) (hcap : 13 ≤ cap) (hmax : cap ≤ maxLen) (W : World)
    (h : Bytes W B A (frameV signF sq wd n)) (hB : B ≤ W.heap.size) :
    Calls Try.prog 14 #[.slice A 13 cap] W fun e w' => e = .returned (.tuple #[.agg #[.int .i64 0, .int .i64 0, .int .i64 0], .int .i64 5]) ∧ Below W.heap.size W w' :=
  (rset_any _ 13 (frame_length _ _ _ _) (by rw [frame_length]; decide) B A cap hcap hmax W h hB).mono fun e w' ⟨he, hb⟩ => by
    have a := read_other signF signS sq wd 7 n (by decide)
    obtain ⟨b, c, d⟩ := r_no (sign := signS) (most := 7) (l := frameV signF sq wd n) (by rw [a]; decide)
    rw [a, b, c, d] at he
    exact ⟨he, hb⟩
/-- and never as the other kind -/
theorem set_other (sq wd : BitVec 8) (n : Int) (B : Nat) (A : Option Addr) (cap : Nat) (hcap : 13 ≤ cap) (hmax : cap ≤ maxLen) (W : World)
    (h : Bytes W B A (frameV signS sq wd n)) (hB : B ≤ W.heap.size) :
    Calls Try.prog 12 #[.slice A 13 cap] W fun e w' => e = .returned (.tuple #[.agg #[.int .i64 0, .int .i64 0, .int .i64 0], .int .i64 5]) ∧ Below W.heap.size W w' :=
  (rfeed_any _ 13 (frame_length _ _ _ _) (by rw [frame_length]; decide) B A cap hcap hmax W h hB).mono fun e w' ⟨he, hb⟩ => by
    have a := read_other signS signF sq wd 127 n (by decide)
    obtain ⟨b, c, d⟩ := r_no (sign := signF) (most := 127) (l := frameV signS sq wd n) (by rw [a]; decide)
    rw [a, b, c, d] at he
    exact ⟨he, hb⟩
end Go.Proofs.Ytbecbiglinkijaa.t
