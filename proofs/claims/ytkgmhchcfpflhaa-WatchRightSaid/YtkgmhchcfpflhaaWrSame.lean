/- The walk of the law WatchRight: any limit, any watch and any bytes: it returns true, and what was in memory is as it was. -/
import Derived.Test.YtkgmhchcfpflhaaUAwake
namespace Go.Proofs.Ytkgmhchcfpflhaa.watchRight
open Go.ChangeShapes Go.WideShapes Go.ChangeAt Go.RowKit Go.Proofs.Ytkgmhchcfpflhaa.s Go.Proofs.Ytkgmhchcfpflhaa.t Go.Proofs.Ytkgmhchcfpflhaa.u Go.Proofs.Ytkgmhchcfpflhaa
set_option linter.unusedVariables false

/-- the program and the reference answer the same -/
theorem come_same (lim mis last : Int) (l : List (BitVec 8)) (n : Nat) (hn : l.length = n) (hl : l.length ≤ 10000) (A : Option Addr) (cap : Nat) (hcap : n ≤ cap) (hmax : cap ≤ maxLen) (w : World) (hA : Bytes w w.heap.size A l) :
    ∃ (y0 y1 y2 f0 f1 f2 : Int) (ok : Bool),
      (∀ W, Below w.heap.size w W → Calls Try.prog 8 #[.agg #[.int .i64 lim, .int .i64 mis, .int .i64 last], .slice A n cap] W fun e w' => e = .returned (.tuple #[.agg #[.int .i64 y0, .int .i64 y1, .int .i64 y2], .agg #[.int .i64 f0, .int .i64 f1, .int .i64 f2], .bool ok]) ∧ Below W.heap.size W w') ∧
      (∀ W, Below w.heap.size w W → Calls Try.prog 9 #[.agg #[.int .i64 lim, .int .i64 mis, .int .i64 last], .slice A n cap] W fun e w' => e = .returned (.tuple #[.agg #[.int .i64 y0, .int .i64 y1, .int .i64 y2], .agg #[.int .i64 f0, .int .i64 f1, .int .i64 f2], .bool ok]) ∧ Below W.heap.size W w') := by
  by_cases h : RightW lim mis last
  · by_cases hc : Counts last l
    · exact ⟨_, _, _, _, _, _, _, fun W hb => (come_right lim mis last h l n hn hl _ A cap hcap hmax W (hA.below hb) hb.size).mono fun e w' ⟨h1, h2⟩ => (h2.elim (fun x => ⟨x.2, h1⟩) (fun x => absurd hc x.1)),
        fun W hb => (refcome_right lim mis last h l n hn hl _ A cap hcap hmax W (hA.below hb) hb.size).mono fun e w' ⟨h1, h2⟩ => (h2.elim (fun x => ⟨x.2, h1⟩) (fun x => absurd hc x.1))⟩
    · exact ⟨_, _, _, _, _, _, _, fun W hb => (come_right lim mis last h l n hn hl _ A cap hcap hmax W (hA.below hb) hb.size).mono fun e w' ⟨h1, h2⟩ => (h2.elim (fun x => absurd x.1 hc) (fun x => ⟨x.2, h1⟩)),
        fun W hb => (refcome_right lim mis last h l n hn hl _ A cap hcap hmax W (hA.below hb) hb.size).mono fun e w' ⟨h1, h2⟩ => (h2.elim (fun x => absurd x.1 hc) (fun x => ⟨x.2, h1⟩))⟩
  · exact ⟨_, _, _, _, _, _, _, fun W hb => come_bad lim mis last h A n cap W, fun W hb => refcome_bad lim mis last h (.slice A n cap) W⟩
theorem refright_below (lim mis last : Int) (w : World) :
    Calls Try.prog 11 #[.agg #[.int .i64 lim, .int .i64 mis, .int .i64 last]] w fun e w' => e = .returned (.bool (rightW lim mis last)) ∧ Below w.heap.size w w' :=
  (refright_any lim mis last w).mono fun e w' ⟨he, hw⟩ => ⟨he, hw ▸ (Below.refl _ _).alloc (Nat.le_refl _) _⟩
/-- the program and the reference, of these bytes, answer the same -/
def Agree (m0 m1 m2 : Int) (a2 : Option Addr) (n cap : Nat) (w : World) (y0 y1 y2 f0 f1 f2 : Int) (ok : Bool) (f : Nat) : Prop :=
  ∀ W, Below w.heap.size w W → Calls Try.prog f #[.agg #[.int .i64 m0, .int .i64 m1, .int .i64 m2], .slice a2 n cap] W fun e w' => e = .returned (.tuple #[.agg #[.int .i64 y0, .int .i64 y1, .int .i64 y2], .agg #[.int .i64 f0, .int .i64 f1, .int .i64 f2], .bool ok]) ∧ Below W.heap.size W w'
def Holds (a0 m0 m1 m2 : Int) (a2 : Option Addr) (L0 cap2 : Nat) (w : World) : Prop :=
  Calls Try.prog 3 #[.int .i64 a0, .agg #[.int .i64 m0, .int .i64 m1, .int .i64 m2], .slice a2 L0 cap2] w fun e w' => e = .returned (.bool true) ∧ Below w.heap.size w w'
end Go.Proofs.Ytkgmhchcfpflhaa.watchRight
