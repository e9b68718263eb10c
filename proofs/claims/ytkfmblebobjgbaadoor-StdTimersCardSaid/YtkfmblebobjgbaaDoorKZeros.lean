/- Zero elements appended behind a row of the call's own (gc's append of make): what the row is then. No condition but what each line says. -/
import Derived.Test.YtkfmblebobjgbaaDoorLnRow
import Derived.Lib.AppendZerosOnto
import Derived.Laws.CopyRow
namespace Go.Proofs.YtkfmblebobjgbaaDoor.rr
open Go.ChangeShapes Go.WideShapes Go.ChangeAt Go.RowKit Go.Joins Go.Proofs.YtkfmblebobjgbaaDoor.k
set_option linter.unusedVariables false

section
variable {P : Program} {α : Type} {enc : α → List Value} {z : Nat}
theorem zeros_flat (hz : ∀ x, (enc x).length = z) (hp : 0 < z) {zv : Value} (hzs : zv.cells.size = z) (zx : α) (hzx : enc zx = zv.cells.toList) (n : Nat) : (Builtin.zeroCells zv.cells n).toList = (List.replicate n zx).flatMap enc := by
  apply List.ext_getElem?
  intro i
  by_cases hi : i < n * z
  · have hd : i / z < n := (Nat.div_lt_iff_lt_mul hp).2 hi
    have hm : i % z < z := Nat.mod_lt _ hp
    have h2 := flat_at enc z hz (List.replicate n zx) (i / z) (i % z) zx (by rw [List.getElem?_replicate, if_pos hd]) hm
    rw [Nat.mul_comm, Nat.div_add_mod] at h2
    rw [h2, hzx, Array.getElem?_toList]
    unfold Builtin.zeroCells
    rw [hzs, Array.getElem?_map, Array.getElem?_eq_getElem (by simpa using hi)]
    simp only [Array.getElem_range, Option.map_some, Array.getElem?_toList]
    rw [Array.getElem?_eq_getElem (by omega), getElem!_pos _ _ (by omega)]
  · rw [List.getElem?_eq_none (by rw [Array.length_toList, size_zeroCells, hzs]; omega), List.getElem?_eq_none (by rw [flat_len enc z hz, List.length_replicate]; omega)]
theorem append_zeros (hz : ∀ x, (enc x).length = z) (hp : 0 < z) (h1 : ∀ x, ∀ u ∈ enc x, u.oneCell' = true) {t tn e : TypeId} {zv : Value} {bytes : Nat} (ht : P.underlying t = some (.slice e)) (htn : P.underlying tn = some (.int .i64)) (hi : (P.info? e).map (fun i => (i.zero, i.size, i.bytes)) = some (some zv, z, bytes))
    (hzs : zv.cells.size = z) (hby : bytes ≤ 1000) (zx : α) (hzx : enc zx = zv.cells.toList) (w : World) (base ty : Nat) (v : Value) (l : List α) (hown : Ow enc z e w base v l) (n : Nat) (hlen : l.length + n ≤ 10000) (hbase : base ≤ w.heap.size) :
    ∃ v' w', (Builtin.append_ #[t, tn] ty #[v, .int .i64 n]).run P w = .ok v' w' ∧ Ow enc z e w' base v' (l ++ List.replicate n zx) ∧ w.grownBy w' v.ownBlock := by
  obtain ⟨i0, hi0, hz0, hz1, hz2⟩ := info_parts hi
  subst hz1
  have hw : IntKind.i64.wrap (n : Int) = n := by rw [IntKind.wrap_i64]; omega
  have hneg : ¬ ((n : Int) < 0) := by omega
  have h48 : n * i0.bytes ≤ 10000 * 1000 := Nat.mul_le_mul (by omega) (by omega)
  have h48i : ¬ (281474976710656 < (n : Int) * (i0.bytes : Int)) := by
    rw [← Int.natCast_mul]
    omega
  have hfl := zeros_flat hz hp hzs zx hzx n
  have hfn : ((List.replicate n zx).flatMap enc).length = n * i0.size := by rw [flat_len enc _ hz, List.length_replicate]
  have hln : (l.flatMap enc).length = l.length * i0.size := flat_len enc _ hz l
  unfold Ow
  rw [List.flatMap_append, List.length_append, List.length_replicate, ← hfl]
  by_cases h0 : n = 0
  · subst h0
    have hzc : (Builtin.zeroCells zv.cells 0).toList = [] := by rw [hfl]; rfl
    rw [hzc, List.append_nil, Nat.add_zero]
    have w0 : IntKind.i64.wrap 0 = 0 := by decide
    refine ⟨v, w, ?_, hown, World.grownBy.refl w _⟩
    rcases hown.2 with ⟨rfl, _⟩ | ⟨g, cap, cur, rfl, _, _, hle, _⟩
    · simp [Builtin.append_, run_underlying ht, run_underlying htn, sizeOf, typeInfo, hi0, asInt, asIntOf, w0]
    · simp [Builtin.append_, run_underlying ht, run_underlying htn, sizeOf, typeInfo, hi0, asInt, asIntOf, w0, hle, storeCells]
  have hns : ¬ (n * i0.size = 0) := Nat.mul_ne_zero h0 (by omega)
  -- the row that is made anew
  have grown : ∀ (old : Nat), old < l.length + n → ∀ (row : Option Nat),
      (w.drew.alloc (.cells ((l.flatMap enc).toArray ++ Builtin.zeroCells zv.cells n ++ Builtin.zeroCells zv.cells (grownCap w (l.length + n) old e - (l.length + n))) e)).ownsRow base e i0.size
        (.slice (some ⟨w.heap.size, 0, none⟩) (l.length + n) (grownCap w (l.length + n) old e)) (l.length + n) (l.flatMap enc ++ (Builtin.zeroCells zv.cells n).toList) ∧
      w.grownBy (w.drew.alloc (.cells ((l.flatMap enc).toArray ++ Builtin.zeroCells zv.cells n ++ Builtin.zeroCells zv.cells (grownCap w (l.length + n) old e - (l.length + n))) e)) row := by
    intro old ho row
    have hge := grownCap_ge w (l.length + n) old e
    have hcm : grownCap w (l.length + n) old e ≤ maxLen := grownCap_le_maxLen w (l.length + n) old e (by unfold maxLen; omega)
    have hlen2 : (l.flatMap enc ++ (Builtin.zeroCells zv.cells n).toList).length = (l.length + n) * i0.size := by rw [List.length_append, hfl, hfn, hln, ← Nat.add_mul]
    refine ⟨⟨hlen2, .inr ⟨w.heap.size, _, _, rfl, hbase, heap_alloc_new w.drew _, hge, hcm, ?_, ?_⟩⟩, ⟨rfl, rfl, rfl, by simp, fun k hk _ => heap_alloc_old w.drew _ hk⟩⟩
    · rw [Array.size_append, Array.size_append, size_zeroCells, size_zeroCells, hzs, List.size_toArray, hln, ← Nat.add_mul, ← Nat.add_mul]
      congr 1
      omega
    · rw [Array.toList_append, Array.toList_append, ← hlen2]
      exact List.take_left
  rcases hown.2 with ⟨rfl, h2⟩ | ⟨g, cap, cur, rfl, hbg, hg, hnc, hcm, hcs, htake⟩
  · have hl0 : l = [] := List.eq_nil_of_length_eq_zero h2
    subst hl0
    have hr := Lib.run_append_nil_zeros (P := P) w t tn ty e i0 zv .i64 .i64 ht htn hi0 hz0 n (by omega) hp (by omega) (by omega)
    have hgr := grown 0 (by simp; omega) (Value.ownBlock (.slice none 0 0))
    simp only [List.flatMap_nil, List.length_nil, Nat.zero_add, List.nil_append, Array.empty_append] at hgr ⊢
    exact ⟨_, _, hr, hgr.1, hgr.2⟩
  · by_cases hroom : l.length + n ≤ cap
    · have hfit : l.length * i0.size + n * i0.size ≤ cur.size := by rw [hcs, ← Nat.add_mul]; exact Nat.mul_le_mul_right _ hroom
      have hst := run_storeCells_at P g (l.length * i0.size) e (Builtin.zeroCells zv.cells n).toList 0 cur w hg (by rw [Nat.add_zero, hfl, hfn]; exact hfit) (by
        rw [hfl]
        intro u hu
        obtain ⟨x, _, hx⟩ := List.mem_flatMap.1 hu
        exact h1 x u hx)
      rw [Nat.add_zero] at hst
      obtain ⟨C, hC⟩ : ∃ C : Array Value, C = (cur.toList.take (l.length * i0.size) ++ (Builtin.zeroCells zv.cells n).toList ++ cur.toList.drop (l.length * i0.size + (Builtin.zeroCells zv.cells n).toList.length)).toArray := ⟨_, rfl⟩
      rw [← hC] at hst
      refine ⟨.slice (some ⟨g, 0, none⟩) (l.length + n) cap, w.setRow g C, ?_, ⟨by rw [List.length_append, hfl, hfn, hln, ← Nat.add_mul], .inr ⟨g, cap, C, rfl, hbg, setRow_heap w g cur C e _ hg, hroom, hcm, ?_, ?_⟩⟩, ⟨rfl, rfl, rfl, by simp, fun k hk hne => setRow_other w g k C (fun h => hne (by simp [Value.ownBlock, h]))⟩⟩
      · simp [Builtin.append_, run_underlying ht, run_underlying htn, sizeOf, typeInfo, zeroValue, hi0, hz0, asInt, asIntOf, hw, hneg, h48i, hroom, hns, Addr.add_lit, hst]
      · rw [hC, List.size_toArray, List.length_append, List.length_append, List.length_take, List.length_drop, Array.length_toList (xs := cur), hfl, hfn]
        rw [Nat.min_eq_left (by omega), ← hcs]
        omega
      · rw [hC, htake]
        rw [show (l.length + n) * i0.size = (l.flatMap enc ++ (Builtin.zeroCells zv.cells n).toList).length by rw [List.length_append, hfl, hfn, hln, ← Nat.add_mul]]
        exact List.take_left
    · have holds : (Builtin.firstCells i0.size l.length (.slice (some ⟨g, 0, none⟩) l.length cap)).run P w.drew = .ok (l.flatMap enc).toArray w.drew :=
        run_firstCells_some (P := P) w.drew i0.size l.length ⟨g, 0, none⟩ l.length cap _ hln (World.ownsRow.cells (g := g) hown rfl)
      have hr := Lib.run_append_grow_zeros (P := P) w t tn ty e i0 zv .i64 .i64 ht htn hi0 hz0 (some ⟨g, 0, none⟩) l.length cap _ holds n (by omega) hp (by omega) (by omega) (by omega) (growslice_fits (by omega) (by
        have : (l.length + n) * i0.bytes ≤ 10000 * 1000 := Nat.mul_le_mul hlen (by omega)
        omega))
      have hgr := grown cap (by omega) (Value.ownBlock (.slice (some ⟨g, 0, none⟩) l.length cap))
      exact ⟨_, _, hr, hgr.1, hgr.2⟩
theorem wpList_append_zeros (hz : ∀ x, (enc x).length = z) (hp : 0 < z) (h1 : ∀ x, ∀ u ∈ enc x, u.oneCell' = true) {t tn e : TypeId} {zv : Value} {bytes : Nat} (ht : P.underlying t = some (.slice e)) (htn : P.underlying tn = some (.int .i64)) (hi : (P.info? e).map (fun i => (i.zero, i.size, i.bytes)) = some (some zv, z, bytes))
    (hzs : zv.cells.size = z) (hby : bytes ≤ 1000) (zx : α) (hzx : enc zx = zv.cells.toList) (w : World) {ops : Array Oper} {rest : List Oper} {o : Oper} {a : Act} {Q : Exit → Act → World → Prop} (hgd : o.guard = none) (s x : Operand)
    (ho : o.op = .call { callee := .builtin .append, args := #[s, x], argTypes := #[t, tn] })
    (base : Nat) (v : Value) (l : List α) (hs : a.eval s = v) (hown : Ow enc z e w base v l) (n : Nat) (q : Int) (hq : q = n) (hx : a.eval x = .int .i64 q) (hlen : l.length + n ≤ 10000) (hbase : base ≤ w.heap.size)
    (h : ∀ v' w', Ow enc z e w' base v' (l ++ List.replicate n zx) → w.grownBy w' v.ownBlock → wpList P ops Q rest (a.put o.dst v') w') :
    wpList P ops Q (o :: rest) a w := by
  subst hq
  obtain ⟨v', w', hr, h2, h3⟩ := append_zeros hz hp h1 ht htn hi hzs hby zx hzx w base o.type v l hown n hlen hbase
  exact Lib.wpList_append_run w hgd s x t tn ho _ _ hs hx v' w' hr (h v' w' h2 h3)
end
end Go.Proofs.YtkfmblebobjgbaaDoor.rr
