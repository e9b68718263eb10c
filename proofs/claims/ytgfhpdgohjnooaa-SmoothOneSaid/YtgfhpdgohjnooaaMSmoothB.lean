/- What slices.Clone, smooth's again, Rest, Push and Shift answer: windows in memory of their own; what was in memory is as it was. No condition beyond what each line says (Clone: at most 100 integers). -/
import Derived.Test.YtgfhpdgohjnooaaMSmoothA
import Derived.Test.YtgfhpdgohjnooaaKOrd
import Derived.Laws.CopyRow
import Derived.Test.YtgfhpdgohjnooaaKStore
namespace Go.Proofs.Ytgfhpdgohjnooaa.mm
open Go.ChangeShapes Go.WideShapes Go.ChangeAt Go.RowKit Go.Proofs.Ytgfhpdgohjnooaa.k
set_option linter.unusedVariables false

/-- a slice in memory of a call's own -/
def NewRow (w w' : World) (A : Option Addr) (len cap : Nat) (L : List Int) : Prop :=
  Win w' w'.heap.size A len cap L ∧ From w none A ∧ (0 < len → ∃ g, A = some ⟨g, 0, none⟩ ∧ w.heap.size ≤ g ∧ RowF w' g len (fun i => L.getD i 0))
section
variable {w w' w'' : World} {A : Option Addr} {len cap : Nat} {L : List Int}
theorem NewRow.under (h : NewRow w w' A len cap L) (hb : Below w'.heap.size w' w'') : NewRow w w'' A len cap L :=
  ⟨(h.1.below hb).more hb.size, h.2.1, fun hn => by
    obtain ⟨g, e, hg, hr⟩ := h.2.2 hn
    exact ⟨g, e, hg, hr.under hb⟩⟩
theorem NewRow.from (h : NewRow w w' A len cap L) {w0 : World} (hz : w0.heap.size ≤ w.heap.size) : NewRow w0 w' A len cap L :=
  ⟨h.1, fun b off s e => by
    rcases h.2.1 b off s e with ⟨o, s0, e2⟩ | h2
    · cases e2
    · exact .inr (Nat.le_trans hz h2), fun hn => by
    obtain ⟨g, e, hg, hr⟩ := h.2.2 hn
    exact ⟨g, e, Nat.le_trans hz hg, hr⟩⟩
theorem NewRow.aside (h : NewRow w w' A len cap L) {g : Nat} {v : Value} (hv : VarS w' g v) {a : Option Addr} {l c : Nat} (he : v = .slice a l c) (x : Value) : NewRow w (w'.setCell ⟨g, 0, none⟩ x) A len cap L := by
  subst he
  refine ⟨by have := h.1.aside hv.var x; simpa using this, h.2.1, fun hn => ?_⟩
  obtain ⟨g', e, hg, hr⟩ := h.2.2 hn
  exact ⟨g', e, hg, hr.aside (p := ⟨g, 0, none⟩) (Ne.symm (hr.ne hv)) x⟩
theorem NewRow.got (h : NewRow w w' A len cap L) (A0 : Option Addr) : From w A0 A := fun b off s e => by
  rcases h.2.1 b off s e with ⟨o, s0, e2⟩ | h2
  · cases e2
  · exact .inr h2
end

theorem VarS.range {w : World} {g : Nat} {v : Value} (h : VarS w g v) : w.rangeAt g 0 [v] := fun j u hu => by
  cases j with
  | zero =>
    have e : v = u := by simpa using hu
    subst e
    exact h.var.cell
  | succ j => simp at hu
/-- a result's variable is laid: what stays -/
theorem put_result {w : World} {g : Nat} {a : Option Addr} {l c : Nat} (h : VarS w g (.slice a l c)) (v : Value) : ∃ W, w.setCell ⟨g, 0, none⟩ v = W ∧ VarS W g v ∧ (∀ B, B ≤ g → Below B w W) ∧
    ∀ {w0 : World} {A : Option Addr} {len cap : Nat} {L : List Int}, NewRow w0 w A len cap L → NewRow w0 W A len cap L :=
  ⟨_, rfl, h.set v, fun B hB => (Below.refl _ _).setCell hB _, fun hN => hN.aside h rfl v⟩

set_option maxHeartbeats 1000000 in
theorem clone_any (L : List Int) (hl : L.length ≤ 100) {A : Option Addr} {len cap B : Nat} {w : World} (h : Win w B A len cap L) (hB : B ≤ w.heap.size) :
    Calls Try.prog 26 #[.slice A len cap] w fun e w' => ∃ A' cap', e = .returned (.slice A' len cap') ∧ NewRow w w' A' len cap' L ∧ Below w.heap.size w w' := by
  have HL := Lib.hid h.1
  have q22 : ∀ (w : World) (a : Option Addr) (n c n' c' : Nat), (binOp .eql 22 (.slice a n c) (.slice none n' c')).run Try.prog w = .ok (.bool a.isNone) w := fun w a n c n' c' => Lib.run_eql_slice_nil w _ _ a n c n' c' Try.underlying22
  cases A with
  | none =>
    have h0 := h.2.2.2.1 rfl
    have h1 : len = 0 := by have := h.2.1; omega
    subst h1
    have HX : Hid (NewRow w w none 0 0 L) := Lib.hid ⟨by
      have e : L = [] := List.eq_nil_of_length_eq_zero h.1
      subst e
      exact Win.none_ w _, (fun b off s e => by cases e), fun h => absurd h (by omega)⟩
    clear h
    go_enter Try.func26, Try.ntmps26
    go_wp2
    go_ret
    exact ⟨none, 0, rfl, HX.out, Below.refl _ _⟩
  | some ad =>
    have HW : Hid (Win (w.alloc (.cells #[] 2)) B (some ad) len cap L) := Lib.hid (h.below ((Below.refl _ _).alloc hB _))
    have HO := Lib.hid (OwnI.empty w)
    have HLL := Lib.hid hl
    have HZ : Hid (w.heap.size ≤ (w.alloc (.cells #[] 2)).heap.size) := Lib.hid (by simp)
    clear h hl
    go_enter Try.func26, Try.ntmps26
    go_wp2_with (at_builtin; refine wpList_append_ints _ rfl (.tmp 5) (.tmp 6) rfl w.heap.size (.slice (some ⟨w.heap.size, 0, none⟩) 0 0) [] rfl HO.out _ (some ad) len cap L rfl HW.out (by have := HLL.out; simp; omega) HZ.out ?_; intro v1 w1 hown hg hat; have HO1 := Lib.hid (show OwnI w1 w.heap.size v1 L from hown); have HG := Lib.hid hg; clear hown hg hat)
    go_wp2
    go_ret
    have hO1 := HO1.out
    obtain ⟨A1, c1, e1, hw1⟩ := hO1.form
    rw [HL.out] at e1 hw1
    refine ⟨A1, c1, by rw [e1]; rfl, ⟨hw1, ?_, ?_⟩, ?_⟩
    · intro b off s e
      right
      have e2 : v1.ownBlock = some b := by rw [e1, e]; rfl
      exact (World.ownsRow.lt hO1 b e2).1
    · intro hn
      obtain ⟨g, cp, e2, hg, _, _, _, hr⟩ := hO1.row (by rw [HL.out]; exact hn)
      rw [e1, HL.out] at e2
      injection e2 with e3
      exact ⟨g, e3, hg, by rw [← HL.out]; exact hr⟩
    · exact HO.out.lays ((Below.refl _ w).alloc (Nat.le_refl _) _) (Nat.le_refl _) (Nat.le_refl _) HG.out
set_option maxHeartbeats 1000000 in
theorem again_any (L : List Int) (hl : L.length ≤ 100) {A : Option Addr} {len cap B : Nat} {w : World} (h : Win w B A len cap L) (hB : B ≤ w.heap.size) :
    Calls Try.prog 22 #[.agg #[.slice A len cap]] w fun e w' => ∃ A' cap', e = .returned (.agg #[.slice A' len cap']) ∧ NewRow w w' A' len cap' L ∧ Below w.heap.size w w' := by
  obtain ⟨w1, e1, V1, b1, z1⟩ : ∃ W, w.alloc (.cells #[.slice A len cap] 24) = W ∧ VarS W w.heap.size (.slice A len cap) ∧ Below w.heap.size w W ∧ W.heap.size = w.heap.size + 1 := ⟨_, rfl, VarS.new w _, (Below.refl _ _).alloc (Nat.le_refl _) _, by simp⟩
  obtain ⟨w2, e2, V2, b2, z2⟩ : ∃ W, w1.alloc (.cells #[.slice none 0 0] 24) = W ∧ VarS W w1.heap.size (.slice none 0 0) ∧ Below w1.heap.size w1 W ∧ W.heap.size = w1.heap.size + 1 := ⟨_, rfl, VarS.new w1 _, (Below.refl _ _).alloc (Nat.le_refl _) _, by simp⟩
  have X1 := Lib.hid (V1.under b2)
  have X2 := Lib.hid V2
  have HB := Lib.hid (b1.trans (b2.mono b1.size))
  have HW := Lib.hid (((h.more hB).below HB.out).more HB.out.size)
  have C := Lib.hid fun (W : World) (h : Win W W.heap.size A len cap L) => clone_any L hl h (Nat.le_refl _)
  have c1 := X1.out.var.cell
  have z12 : w.heap.size < w2.heap.size := by omega
  rw [z1] at X2
  have e2' : (w.alloc (.cells #[.slice A len cap] 24)).alloc (.cells #[.slice none 0 0] 24) = w2 := by rw [e1, e2]
  clear h V1 V2 b1 b2 e1 e2
  go_enter Try.func22, Try.ntmps22
  go_wp2_with (go_at_call 26; fail)
  refine (C.out _ HW.out).mono ?_
  rintro e w3 ⟨A3, l3, rfl, hN, hb⟩
  have X13 := Lib.hid (X1.out.under hb)
  obtain ⟨w4, e4, HX, h4, hN4⟩ := put_result (X2.out.under hb) (.slice A3 len l3)
  have HN := Lib.hid (hN4 (hN.from HB.out.size))
  have HB3 := Lib.hid ((HB.out.trans (hb.mono HB.out.size)).trans (h4 _ (by omega)))
  have hc := (X2.out.under hb).var.cell
  have hf := (X2.out.under hb).var.frozen 0
  clear hb hN hN4 h4
  go_wp2
  refine bodyPost_ret (k.results_cell rfl rfl (run_loadVar_mid w4 (w.heap.size + 1) 0 24 _ _ HX.range rfl rfl (by kernel_rfl))) rfl ?_
  exact ⟨A3, l3, rfl, HN.out, HB3.out⟩
end Go.Proofs.Ytgfhpdgohjnooaa.mm
