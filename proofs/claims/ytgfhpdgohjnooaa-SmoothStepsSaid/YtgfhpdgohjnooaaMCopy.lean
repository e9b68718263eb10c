/- The builtin copy into a row of a call's own. No condition but what each line says. -/
import Derived.Test.YtgfhpdgohjnooaaMRows2
import Derived.Laws.CopyRow
import Derived.Laws.IdiomCopy
import Derived.Laws.CopyOwn
namespace Go.Proofs.Ytgfhpdgohjnooaa.mm
open Go.ChangeShapes Go.WideShapes Go.ChangeAt Go.RowKit Go.Proofs.Ytgfhpdgohjnooaa.k
set_option linter.unusedVariables false

theorem int_one : (Try.prog.info? 2).map (·.size) = some 1 := by kernel_rfl
theorem copy_rowf {w : World} {g n : Nat} {f : Nat → Int} (hr : RowF w g n f) {off k : Nat} (hk : off + k ≤ n) (src : Nat → Int) {dp sp : Option Addr} {dLen dCap sLen sCap : Nat} (ty : TypeId) (hn : k = Nat.min sLen dLen)
    (hpos : 0 < k → dp = some ⟨g, off, none⟩ ∧ ∃ b o, sp = some ⟨b, o, none⟩ ∧ ∀ i, i < k → w.cell? ⟨b, o + i, none⟩ = some (.int .i64 (src i))) :
    ∃ w', (Builtin.copy_ #[22, 22] ty #[.slice dp dLen dCap, .slice sp sLen sCap]).run Try.prog w = .ok (.int .i64 k) w' ∧
      RowF w' g n (fun i => if off ≤ i ∧ i < off + k then src (i - off) else f i) ∧ w.grownBy w' (some g) ∧ w'.heap.size = w.heap.size := by
  by_cases h0 : k = 0
  · subst h0
    exact ⟨w, run_copy_none (P := Try.prog) w 22 22 ty 2 dp sp dLen dCap sLen sCap Try.underlying22 int_one hn.symm,
      hr.cong (fun i _ => by rw [if_neg (by omega)]), World.grownBy.refl w _, rfl⟩
  · obtain ⟨rfl, b, o, rfl, hc⟩ := hpos (by omega)
    obtain ⟨cur, h, hs, hcur⟩ := hr
    have hl : ((List.range k).map fun i => Value.int .i64 (src i)).length = k := by simp
    have hrun := run_copy_row (P := Try.prog) w 22 22 ty 2 g off dLen dCap ⟨b, o, none⟩ sLen sCap cur 2 ((List.range k).map fun i => Value.int .i64 (src i)) Try.underlying22 int_one h (by rw [hl]; exact hn)
      (by
        intro j v hv
        have hj : j < k := by
          have := (List.getElem?_eq_some_iff.1 hv).1
          rwa [hl] at this
        have e1 : (Addr.add ⟨b, o, none⟩ j) = ⟨b, o + j, none⟩ := by
          unfold Addr.add; by_cases h : j = 0 <;> simp [h]
        rw [e1, hc j hj, ← hv, List.getElem?_map, List.getElem?_range hj]
        rfl) (by rw [hl]; omega) (by intro v hv; simp at hv; obtain ⟨i, _, rfl⟩ := hv; rfl)
    rw [hl] at hrun
    refine ⟨_, hrun, ⟨_, setRow_heap w g cur _ 2 (0, 0) h, ?_, fun i hi => ?_⟩, ⟨rfl, rfl, rfl, by simp [World.setRow], fun q hq hne => setRow_other w g q _ (fun e => hne (by rw [e]))⟩, by simp [World.setRow]⟩
    · simp; omega
    · have hci := hcur i hi
      have hsz : i < cur.size := by omega
      rw [List.getElem?_toArray]
      show _ = some (Value.int .i64 (if off ≤ i ∧ i < off + k then src (i - off) else f i))
      by_cases h1 : i < off
      · rw [if_neg (by omega), List.append_assoc, List.getElem?_append_left (by simp; omega), List.getElem?_take, if_pos h1, Array.getElem?_toList, hci]
      · by_cases h2 : i < off + k
        · rw [if_pos ⟨by omega, h2⟩, List.append_assoc, List.getElem?_append_right (by simp; omega), List.getElem?_append_left (by simp; omega), List.getElem?_map]
          rw [show (i - (List.take off cur.toList).length) = i - off by simp; omega, List.getElem?_range (by omega)]
          rfl
        · rw [if_neg (by omega), List.getElem?_append_right (by simp; omega), List.getElem?_drop]
          rw [show off + k + (i - (List.take off cur.toList ++ List.map (fun i => Value.int IntKind.i64 (src i)) (List.range k)).length) = i by simp; omega, Array.getElem?_toList, hci]
theorem step_copy_rowf {w : World} {ops : Array Oper} {op : Oper} {a : Act} {K : Act → World → Prop} {Q : Exit → Act → World → Prop} {E : Prop} (hgd : op.guard = none) (d s : Operand)
    (ho : op.op = .call { callee := .builtin .copy, args := #[d, s], argTypes := #[22, 22] })
    {g n : Nat} {f : Nat → Int} (hr : RowF w g n f) (off k : Nat) (hk : off + k ≤ n) (src : Nat → Int) {dp sp : Option Addr} {dLen dCap sLen sCap : Nat} (hd : a.eval d = .slice dp dLen dCap) (hs : a.eval s = .slice sp sLen sCap) (hn : k = Nat.min sLen dLen)
    (hpos : 0 < k → dp = some ⟨g, off, none⟩ ∧ ∃ b o, sp = some ⟨b, o, none⟩ ∧ ∀ i, i < k → w.cell? ⟨b, o + i, none⟩ = some (.int .i64 (src i)))
    (h : ∀ w', RowF w' g n (fun i => if off ≤ i ∧ i < off + k then src (i - off) else f i) → w.grownBy w' (some g) → w'.heap.size = w.heap.size → K (a.put op.dst (.int .i64 k)) w') :
    if Region.wanted op (yielded ops a.tmps) = true then Oper.wp Try.prog op a w K Q else E := by
  have hw : Region.wanted op (yielded ops a.tmps) = true := by simp [Region.wanted, hgd]
  rw [if_pos hw]
  obtain ⟨w', hrun, h2, h3, h4⟩ := copy_rowf hr hk src op.type hn hpos
  unfold Oper.wp execOp
  simp only [ho, resolve, invoke, builtin, Sem.run_bind, Sem.run_pure, Result.andThen_ok, List.map_toArray, List.map_cons, List.map_nil, hd, hs]
  rw [hrun]
  exact h w' h2 h3 h4
theorem wpList_copy_rowf {w : World} {ops : Array Oper} {rest : List Oper} {op : Oper} {a : Act} {Q : Exit → Act → World → Prop} (hgd : op.guard = none) (d s : Operand)
    (ho : op.op = .call { callee := .builtin .copy, args := #[d, s], argTypes := #[22, 22] })
    {g n : Nat} {f : Nat → Int} (hr : RowF w g n f) (off k : Nat) (hk : off + k ≤ n) (src : Nat → Int) {dp sp : Option Addr} {dLen dCap sLen sCap : Nat} (hd : a.eval d = .slice dp dLen dCap) (hs : a.eval s = .slice sp sLen sCap) (hn : k = Nat.min sLen dLen)
    (hpos : 0 < k → dp = some ⟨g, off, none⟩ ∧ ∃ b o, sp = some ⟨b, o, none⟩ ∧ ∀ i, i < k → w.cell? ⟨b, o + i, none⟩ = some (.int .i64 (src i)))
    (h : ∀ w', RowF w' g n (fun i => if off ≤ i ∧ i < off + k then src (i - off) else f i) → w.grownBy w' (some g) → w'.heap.size = w.heap.size → wpList Try.prog ops Q rest (a.put op.dst (.int .i64 k)) w') :
    wpList Try.prog ops Q (op :: rest) a w := by
  refine wpList_plain hgd fun K hK => ?_
  obtain ⟨w', hrun, h2, h3, h4⟩ := copy_rowf hr hk src op.type hn hpos
  unfold Oper.wp execOp
  simp only [ho, resolve, invoke, builtin, Sem.run_bind, Sem.run_pure, Result.andThen_ok, List.map_toArray, List.map_cons, List.map_nil, hd, hs]
  rw [hrun]
  exact hK _ _ (h w' h2 h3 h4)
end Go.Proofs.Ytgfhpdgohjnooaa.mm
