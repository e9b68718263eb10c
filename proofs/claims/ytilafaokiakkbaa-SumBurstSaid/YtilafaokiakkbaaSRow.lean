/- Bytes that came in, read as the walks want them. No condition. -/
import Derived.Test.YtilafaokiakkbaaSRef
import Derived.ShutString
import Derived.ChangeOld
import Derived.Lib.MinMax
namespace Go.Proofs.Ytilafaokiakkbaa
open Go.ChangeShapes Go.WideShapes Go.ChangeAt Go.RowKit Go.Proofs.Ytilafaokiakkbaa.s
set_option linter.unusedVariables false

def IsRow (k : IntKind) (w : World) (a : Option Addr) (len cap : Nat) (zs : List Int) : Prop :=
  (a = none ∧ len = 0 ∧ cap = 0 ∧ zs = []) ∨
  ∃ x, a = some x ∧ len ≤ cap ∧ cap ≤ maxLen ∧ zs.length = cap ∧ (∀ i, i < zs.length → w.cell? (x.add i) = some (.int k (zs.getD i 0))) ∧ ∀ n ∈ zs, (Lit.int k n).wf = true
theorem wf8 {a : Int} (h : (Lit.int .u8 a).wf = true) : 0 ≤ a ∧ a ≤ 255 := by
  simp only [Lit.wf, IntKind.min, IntKind.max, IntKind.signed, IntKind.bits, Bool.and_eq_true] at h
  simp at h
  omega
theorem wf16 {a : Int} (h : (Lit.int .u16 a).wf = true) : 0 ≤ a ∧ a ≤ 65535 := by
  simp only [Lit.wf, IntKind.min, IntKind.max, IntKind.signed, IntKind.bits, Bool.and_eq_true] at h
  simp at h
  omega
theorem isByte {a : Int} (h : (Lit.int .u8 a).wf = true) : ∃ c : BitVec 8, a = v8 c := ⟨BitVec.ofInt 8 a, (v8_of a (wf8 h).1 (wf8 h).2).symm⟩
theorem isReg {a : Int} (h : (Lit.int .u16 a).wf = true) : ∃ c : BitVec 16, a = v16 c := ⟨BitVec.ofInt 16 a, (v16_of a (wf16 h).1 (wf16 h).2).symm⟩
theorem lt_of_cell {w : World} {b o : Nat} {v : Value} (h : w.cell? ⟨b, o, none⟩ = some v) : b < w.heap.size := by
  rcases Nat.lt_or_ge b w.heap.size with h' | h'
  · exact h'
  · simp [World.cell?, Array.getElem?_eq_none h'] at h
/-- what came in: its bytes, as many as its length says -/
theorem bytes_of {w : World} {a : Option Addr} {len cap : Nat} {zs : List Int} (h : IsRow .u8 w a len cap zs) :
    ∃ l : List (BitVec 8), l.length = len ∧ Bytes w w.heap.size a l ∧ len ≤ cap ∧ cap ≤ maxLen ∧ (a = none → len = 0 ∧ cap = 0) ∧ ∀ x, a = some x → ∃ b o, x = ⟨b, o, none⟩ ∨ cap = 0 := by
  rcases h with ⟨rfl, rfl, rfl, rfl⟩ | ⟨x, rfl, hl, hm, hz, hcell, hwz⟩
  · exact ⟨[], rfl, fun h => absurd h (by simp), Nat.le_refl _, by unfold maxLen; omega, fun _ => ⟨rfl, rfl⟩, fun x h => by cases h⟩
  · refine ⟨(zs.take len).map (BitVec.ofInt 8), by simp; omega, fun hn => ?_, hl, hm, fun h => (by cases h), fun y h => ?_⟩
    · have hn2 : 0 < len := by simp at hn; omega
      have h0 := hcell 0 (by omega)
      obtain ⟨b, off, spot⟩ := x
      have hspot : spot = none := by simpa [Addr.add] using World.cell?_spot h0
      subst hspot
      have hc0 : w.cell? ⟨b, off, none⟩ = some (.int .u8 (zs.getD 0 0)) := by simpa [Addr.add] using h0
      refine ⟨b, off, rfl, lt_of_cell hc0, fun i hi => ?_⟩
      have hi2 : i < len := by simp at hi; omega
      have hi3 : i < zs.length := by omega
      have hc := hcell i hi3
      have e : (Addr.add ⟨b, off, none⟩ i) = ⟨b, off + i, none⟩ := by
        unfold Addr.add; by_cases h : i = 0 <;> simp [h]
      rw [e] at hc
      rw [hc]
      have hb := wf8 (hwz zs[i] (List.getElem_mem hi3))
      have e1 : zs.getD i 0 = zs[i] := by simp [List.getD_eq_getElem?_getD, hi3]
      have e2 : ((zs.take len).map (BitVec.ofInt 8)).getD i 0 = BitVec.ofInt 8 zs[i] := by
        simp [List.getD_eq_getElem?_getD, hi2, hi3]
      rw [e1, e2, v8_of _ hb.1 hb.2]
    · refine ⟨x.block, x.off, ?_⟩
      injection h with h
      subst h
      by_cases hc0 : cap = 0
      · exact .inr hc0
      · have h0 := hcell 0 (by omega)
        obtain ⟨b, off, spot⟩ := x
        have hspot : spot = none := by simpa [Addr.add] using World.cell?_spot h0
        subst hspot
        exact .inl rfl

/-! ### The contracts, the bytes' number by a name, the bytes read in a world before -/
section
variable {l : List (BitVec 8)} {n B : Nat} {A : Option Addr} {W : World}
theorem of_n (hn : l.length = n) (hl : l.length ≤ 10000) (h : Bytes W B A l) (cap : Nat) :
    Calls Try.prog 8 #[.slice A n cap] W fun e w' => e = .returned (.int .u16 (v16 (goV first l))) ∧ W = w' := by
  subst hn; exact of_any l A cap B W hl h
theorem go_n (s : BitVec 16) (hn : l.length = n) (hl : l.length ≤ 10000) (h : Bytes W B A l) (cap : Nat) :
    Calls Try.prog 10 #[.int .u16 (v16 s), .slice A n cap] W fun e w' => e = .returned (.int .u16 (v16 (goV s l))) ∧ W = w' := by
  subst hn; exact go_any s l A cap B W hl h
theorem of_e {X : BitVec 16} (e : goV first l = X) (hn : l.length = n) (hl : l.length ≤ 10000) (h : Bytes W B A l) (cap : Nat) :
    Calls Try.prog 8 #[.slice A n cap] W fun e w' => e = .returned (.int .u16 (v16 X)) ∧ W = w' := by
  subst e; exact of_n hn hl h cap
theorem go_e (s : BitVec 16) {X : BitVec 16} (e : goV s l = X) (hn : l.length = n) (hl : l.length ≤ 10000) (h : Bytes W B A l) (cap : Nat) :
    Calls Try.prog 10 #[.int .u16 (v16 s), .slice A n cap] W fun e w' => e = .returned (.int .u16 (v16 X)) ∧ W = w' := by
  subst e; exact go_n s hn hl h cap
theorem refof_n (hn : l.length = n) (hl : l.length ≤ 10000) (h : Bytes W B A l) (hB : B ≤ W.heap.size) (cap : Nat) :
    Calls Try.prog 9 #[.slice A n cap] W fun e w' => e = .returned (.int .i64 (v16 (goV first l))) ∧ Below W.heap.size W w' := by
  subst hn; exact refof_any l A cap W hl (h.more hB)
theorem ref_n (s : BitVec 16) (hn : l.length = n) (hl : l.length ≤ 10000) (h : Bytes W B A l) (hB : B ≤ W.heap.size) (cap : Nat) :
    Calls Try.prog 11 #[.int .i64 (v16 s), .slice A n cap] W fun e w' => e = .returned (.int .i64 (v16 (goV s l))) ∧ Below W.heap.size W w' := by
  subst hn; exact ref_any s l A cap W hl (h.more hB)
end
/-- the first bytes, no more than so many -/
theorem cut_of (l : List (BitVec 8)) (m : Nat) (M : Int) (hM : (m : Int) = M) {B : Nat} {A : Option Addr} {W : World} (h : Bytes W B A l) :
    ∃ l', l' = l.take m ∧ l'.length = (min (l.length : Int) M).toNat ∧ l'.length ≤ m ∧ Bytes W B A l' :=
  ⟨_, rfl, by rw [List.length_take]; omega, by rw [List.length_take]; omega, h.take m⟩
end Go.Proofs.Ytilafaokiakkbaa
