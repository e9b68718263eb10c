/- The landed std's types of names, its rows of pins of names, its shapes: what they give; what was in memory is as it was. Conditions: what each line says (the library's table of white space lies as the library lays it). -/
import Derived.Test.YtkfmblebobjgbaaDoorStFields
import Derived.Lib.AppendZerosOnto
namespace Go.Proofs.YtkfmblebobjgbaaDoor.sd
open Go.ChangeShapes Go.WideShapes Go.ChangeAt Go.RowKit Go.Proofs.YtkfmblebobjgbaaDoor.k Go.Proofs.YtkfmblebobjgbaaDoor.rr
set_option linter.unusedVariables false

def numbs : List (List UInt8) := [[80, 84], [69, 84], [80, 86], [67, 86], [65, 120, 105, 115], [80, 111, 115, 105, 116, 105, 111, 110], [68, 105, 115, 116, 97, 110, 99, 101], [86, 101, 108, 111, 99, 105, 116, 121], [66, 117, 102, 102, 101, 114, 77, 111, 100, 101], [77, 97, 115, 116, 101, 114], [78, 117, 109, 101, 114, 97, 116, 111, 114], [68, 101, 110, 111, 109, 105, 110, 97, 116, 111, 114], [80, 101, 114, 99, 101, 110, 116]]
/-- a pin's type, by its name -/
def tyOf (s : ByteArray) : Int := if numbs.any (fun c => s.toList == c) = true then 1 else 2
set_option maxHeartbeats 4000000 in
theorem typeOf_any (s : ByteArray) (w : World) : Calls Tryd.prog 28 #[.string s] w fun e w' => e = .returned (.int .i64 (tyOf s)) ∧ w = w' := by
  go_enter Tryd.func28, Tryd.ntmps28
  go_wp2
  all_goals first
    | (exfalso; simp_all; done)
    | (go_ret; refine ⟨ret_int ?_, rfl⟩; simp_all [tyOf, numbs])
def pinF (b : Bool) (f : List UInt8) : Pn := ⟨⟨f.toArray⟩, tyOf ⟨f.toArray⟩, b⟩
theorem pC_len (p : Pn) : (pC p).length = 3 := rfl
theorem pC_one (p : Pn) : ∀ u ∈ pC p, u.oneCell' = true := by
  intro u hu
  simp only [pC, List.mem_cons, List.not_mem_nil, or_false] at hu
  rcases hu with rfl | rfl | rfl <;> rfl
theorem pin_info : (Tryd.prog.info? 47).map (fun i => (i.zero, i.size, i.bytes)) = some (some (.agg #[.string ⟨#[]⟩, .int .i64 0, .bool false]), 3, 32) := by kernel_rfl
theorem pins_slice : Tryd.prog.underlying 32 = some (.slice 47) := by kernel_rfl
set_option maxRecDepth 100000 in
set_option maxHeartbeats 8000000 in
theorem named_any (s : ByteArray) (b : Bool) (F : List (List UInt8)) (hF : Lib.fields s.data.toList = F) (hn : F.length ≤ 100) (hs : s.size < 4294967281) (ha : ∀ (j : Nat) c, s.data.toList[j]? = some c → c.toNat < 128) (w : World) (hL : Laid w) :
    Calls Tryd.prog 22 #[.string s, .bool b] w fun e w' => ∃ v, e = .returned v ∧ Ow pC 3 47 w' w.heap.size v (F.map (pinF b)) ∧ Below w.heap.size w w' := by
  have FF := Lib.hid (fields_any s w hs ha hL)
  rw [hF] at FF
  have TT := Lib.hid fun s W => typeOf_any s W
  clear hs ha hF hL
  go_enter Tryd.func22, Tryd.ntmps22
  go_wp2_with (go_at_call 27; fail)
  with_reducible refine (FF.out).mono ?_
  rintro e w1 ⟨rfl, hw⟩
  have hB := (Below.refl w.heap.size w).alloc (Nat.le_refl _) (.cells (F.map fun l => Value.string ⟨l.toArray⟩).toArray 9)
  have hc : ∀ (i : Nat) f, F[i]? = some f → w1.cell? ⟨w.heap.size, i, none⟩ = some (.string ⟨f.toArray⟩) := fun i f hf => by
    rw [hw, World.cell?_alloc_mark]
    simp [hf]
  have hlt : w.heap.size < w1.heap.size := by rw [hw]; simp
  rw [← hw] at hB
  have HB := Lib.hid hB
  have HC := Lib.hid hc
  have HM := Lib.hid (show (F.map (pinF b)).length = F.length from List.length_map _)
  have HF := Lib.hid fun (i : Nat) f (h : F[i]? = some f) => (show (F.map (pinF b))[i]? = some (pinF b f) by rw [List.getElem?_map, h]; rfl)
  obtain ⟨M, hM⟩ : ∃ M, F.map (pinF b) = M := ⟨_, rfl⟩
  have HMM := Lib.hid hM
  rw [hM] at HF HM
  obtain ⟨N, hN⟩ : ∃ N, F.length = N := ⟨_, rfl⟩
  have HE := Lib.hid fun (k : Nat) (h : k < N) => (show ∃ f, F[k]? = some f from ⟨_, List.getElem?_eq_getElem (by omega)⟩)
  rw [hN] at hn HM ⊢
  clear hB hc hw FF hM hN
  go_wp2_with fail
  go_loopw [5, 11] (fun s5 s11 wq => ∃ (k : Nat), k ≤ N ∧ s11 = .int .i64 k ∧ Ow pC 3 47 wq w1.heap.size s5 (M.take k) ∧ Below w1.heap.size w1 wq) (fun _ i _ => N - (intOf i).toNat)
  case atStart => exact ⟨0, Nat.zero_le _, rfl, Ow.nil _ _ _ _ _, Below.refl _ _⟩
  case round =>
    obtain ⟨k, hk, rfl, hO, hB2⟩ := hrel
    have HO := Lib.hid hO
    have HB2 := Lib.hid hB2
    clear hO hB2
    by_cases hlk : k < N
    · obtain ⟨f, hf⟩ := HE.out k hlk
      have d1 : wr.cell? ⟨w.heap.size, k, none⟩ = some (.string ⟨f.toArray⟩) := (HB2.out.cell (p := ⟨w.heap.size, k, none⟩) hlt).trans (HC.out k f hf)
      have HMk := Lib.hid (HF.out k f hf)
      have hz : ((k : Nat) : Int) < (N : Int) := by omega
      have hb6 := Below.alloc (Below.refl wr.heap.size wr) (Nat.le_refl _) (.cells #[.string ⟨f.toArray⟩, .int .i64 (tyOf ⟨f.toArray⟩), .bool b] 47)
      have O6 := Lib.hid (HO.out.under hb6)
      have B6 := Lib.hid (HB2.out.trans (hb6.mono HB2.out.size))
      have S6 := Lib.hid (show w1.heap.size ≤ (wr.alloc (.cells #[.string ⟨f.toArray⟩, .int .i64 (tyOf ⟨f.toArray⟩), .bool b] 47)).heap.size from B6.out.size)
      have LM := Lib.hid (show (M.take k).length + 1 ≤ 20000 by have := List.length_take_le k M; omega)
      clear hf hb6
      go_wp2_with (first
        | (go_at_call 28; (with_reducible refine (TT.out _ _).mono ?_); rintro e wz ⟨rfl, rfl⟩)
        | (at_builtin; refine wpList_append_row pC_len (by omega) pC_one pins_slice pin_info rfl (by omega) _ rfl (.tmp 15) (.tmp 21) rfl w1.heap.size _ (M.take k) rfl O6.out (wr.heap.size + 1) (some ⟨wr.heap.size, 0, none⟩) 1 1 [pinF b f] rfl (one_row wr _ (pinF b f) _ rfl) LM.out S6.out ?_; intro v1 w7 hown hg hat; have O7 := Lib.hid hown; have B7 := Lib.hid (O6.out.lays B6.out (Nat.le_refl _) (Nat.le_refl _) hg); clear hown hg hat))
      go_roundw
      case rel =>
        refine ⟨k + 1, by omega, by go_num, ?_, B7.out⟩
        rw [List.take_add_one, HMk.out]
        exact O7.out
      case measure => simp [intOf]; omega
    · have hk2 : k = N := by omega
      subst hk2
      have HO3 := Lib.hid HO.out
      rw [List.take_of_length_le (by rw [HM.out]; exact Nat.le_refl _)] at HO3
      go_wp2_with fail
      go_ret
      refine ⟨_, rfl, ?_, HB.out.trans (HB2.out.mono (Nat.le_of_lt hlt))⟩
      rw [HMM.out]
      exact HO3.out.base (Nat.le_of_lt hlt)
end Go.Proofs.YtkfmblebobjgbaaDoor.sd
