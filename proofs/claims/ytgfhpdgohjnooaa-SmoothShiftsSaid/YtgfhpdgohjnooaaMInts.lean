/- Integers of a call's own: appended to, read. No condition but their number. -/
import Derived.Test.YtgfhpdgohjnooaaMWords
import Derived.Maps.AppendAt
import Derived.Deep.AppendLies
import Derived.OwnWalk
import Derived.Laws.OwnMore
namespace Go.Proofs.Ytgfhpdgohjnooaa.mm
open Go.ChangeShapes Go.WideShapes Go.ChangeAt Go.RowKit Go.Proofs.Ytgfhpdgohjnooaa.k
set_option linter.unusedVariables false

theorem int_info : (Try.prog.info? 2).map (fun i => (i.zero, i.size, i.bytes)) = some (some (.int .i64 0), 1, 8) := by kernel_rfl
/-- a slice of the call's own that reads as these integers -/
def OwnI (w : World) (base : Nat) (v : Value) (l : List Int) : Prop := w.ownsRow base 2 1 v l.length (l.map fun c => Value.int .i64 c)
section
variable {w w' : World} {base : Nat} {v : Value} {l : List Int}
theorem OwnI.form (h : OwnI w base v l) : ∃ A cap, v = .slice A l.length cap ∧ Win w w.heap.size A l.length cap l := by
  rcases h.2 with ⟨rfl, h0⟩ | ⟨g, cap, cur, rfl, hb, hg, hle, hmax, hcs, htake⟩
  · exact ⟨none, 0, by rw [h0], rfl, by omega, by unfold maxLen; omega, fun _ => rfl, fun hn => absurd hn (by omega)⟩
  · refine ⟨_, cap, rfl, rfl, hle, hmax, (fun h => by cases h), fun hn => ⟨g, 0, rfl, (Array.getElem?_eq_some_iff.1 hg).1, fun i hi => ?_⟩⟩
    have hc := World.ownsRow.cells (g := g) h rfl i (.int .i64 (l.getD i 0)) (by
      rw [List.getElem?_map, List.getElem?_eq_getElem hi]; simp [List.getD_eq_getElem?_getD, hi])
    have e : (Addr.add ⟨g, 0, none⟩ i) = ⟨g, 0 + i, none⟩ := by
      unfold Addr.add; by_cases h : i = 0 <;> simp [h]
    rw [e] at hc
    exact hc
theorem OwnI.kept (h : OwnI w base v l) {row : Option Nat} (hg : w.grownBy w' row) (hne : v.ownBlock = none ∨ v.ownBlock ≠ row) : OwnI w' base v l := World.ownsRow.kept h hg hne
theorem OwnI.under (hO : OwnI w base v l) (hb : Below w.heap.size w w') : OwnI w' base v l :=
  hO.kept (row := .none) ⟨hb.os, hb.tape, hb.output, hb.size, fun k hk _ => hb.block k hk⟩ (by cases v.ownBlock <;> simp)
theorem OwnI.drewN (h : OwnI w base v l) (n : Nat) : OwnI (w.drewN n) base v l := h
theorem OwnI.lays {a : World} {B : Nat} (hO : OwnI w base v l) (h : Below B a w) (hB : B ≤ base) (hz : B ≤ a.heap.size) (hg : w.grownBy w' v.ownBlock) : Below B a w' :=
  h.grown hg (Nat.le_trans hz h.size) fun b hb => Nat.le_trans hB (hO.lt b hb).1
theorem OwnI.empty (w : World) : OwnI (w.alloc (.cells #[] 2)) w.heap.size (.slice (some ⟨w.heap.size, 0, none⟩) 0 0) [] :=
  World.ownsRow_made w #[] 0 (Nat.le_refl _) (by unfold maxLen; omega) rfl
end
theorem append_ints (w : World) (base ty : Nat) (v : Value) (l : List Int) (hown : OwnI w base v l) (B : Nat) (A : Option Addr) (n cap : Nat) (k : List Int)
    (hk : Win w B A n cap k) (hlen : l.length + k.length ≤ 20000) (hbase : base ≤ w.heap.size) :
    ∃ v' w', (Builtin.append_ #[22, 22] ty #[v, .slice A n cap]).run Try.prog w = .ok v' w' ∧ OwnI w' base v' (l ++ k) ∧ w.grownBy w' v.ownBlock ∧
      (v'.ownBlock = v.ownBlock ∨ v'.ownBlock = some w.heap.size) := by
  obtain ⟨i0, hi0, hz0, hz1, hz2⟩ := info_parts int_info
  have hkl := hk.1
  subst hkl
  cases A with
  | none =>
    have h2 := hk.2.2.2.1 rfl
    have h1 : k.length = 0 := by have := hk.2.1; omega
    have hk0 : k = [] := List.eq_nil_of_length_eq_zero h1
    subst hk0 h2
    exact ⟨v, w, run_append_owned_none (P := Try.prog) (w := w) base 22 ty 2 i0 1 Try.underlying22 hi0 v _ _ hown, by simpa using hown, World.grownBy.refl w _, .inl rfl⟩
  | some ad =>
    have hcells : ∀ j u, (k.map fun c => Value.int .i64 c)[j]? = some u → w.cell? (ad.add j) = some u := by
      intro j u hu
      have hj : j < k.length := by
        rcases Nat.lt_or_ge j k.length with h | h
        · exact h
        · rw [List.getElem?_map, List.getElem?_eq_none h] at hu; cases hu
      obtain ⟨b, off, e, hb, hc⟩ := hk.2.2.2.2 (by omega)
      injection e with e
      subst e
      have e1 : (Addr.add ⟨b, off, none⟩ j) = ⟨b, off + j, none⟩ := by
        unfold Addr.add; by_cases h : j = 0 <;> simp [h]
      rw [e1, hc j hj, ← hu, List.getElem?_map, List.getElem?_eq_getElem hj]
      simp [List.getD_eq_getElem?_getD, hj]
    obtain ⟨v', w', hrun, h2, h3, _, h5⟩ := run_append_own_at (P := Try.prog) w base 22 ty 2 i0 (.int .i64 0) 1 8 Try.underlying22 hi0 hz0 hz1 hz2 rfl (by omega) v l.length _ hown ad k.length cap _
      (by simp) hcells (by intro u hu; simp at hu; obtain ⟨c, _, rfl⟩ := hu; rfl) (by unfold maxLen; omega) (by omega) hbase
    refine ⟨v', w', hrun, ?_, h3, h5⟩
    unfold OwnI
    rw [List.map_append, List.length_append]
    exact h2
theorem wpList_append_ints (w : World) {ops : Array Oper} {rest : List Oper} {o : Oper} {a : Act} {Q : Exit → Act → World → Prop} (hgd : o.guard = none) (s x : Operand)
    (ho : o.op = .call { callee := .builtin .append, args := #[s, x], argTypes := #[22, 22] })
    (base : Nat) (v : Value) (l : List Int) (hs : a.eval s = v) (hown : OwnI w base v l) (B : Nat) (A : Option Addr) (n cap : Nat) (k : List Int) (hx : a.eval x = .slice A n cap)
    (hk : Win w B A n cap k) (hlen : l.length + k.length ≤ 20000) (hbase : base ≤ w.heap.size)
    (h : ∀ v' w', OwnI w' base v' (l ++ k) → w.grownBy w' v.ownBlock → (v'.ownBlock = v.ownBlock ∨ v'.ownBlock = some w.heap.size) → wpList Try.prog ops Q rest (a.put o.dst v') w') :
    wpList Try.prog ops Q (o :: rest) a w := by
  refine wpList_plain hgd fun K hK => ?_
  obtain ⟨v', w', hr, h2, h3, h4⟩ := append_ints w base o.type v l hown B A n cap k hk hlen hbase
  unfold Oper.wp execOp
  simp only [ho, resolve, invoke, builtin, Sem.run_bind, Sem.run_pure, Result.andThen_ok, List.map_toArray, List.map_cons, List.map_nil, hs, hx, hr]
  exact hK _ _ (h v' w' h2 h3 h4)
/-- an integer in a new block -/
theorem one_int (w : World) (e : TypeId) (x : Int) : Win (w.alloc (.cells #[Value.int .i64 x] e)) (w.heap.size + 1) (some ⟨w.heap.size, 0, none⟩) 1 1 [x] :=
  ⟨rfl, Nat.le_refl _, by unfold maxLen; omega, (fun h => by cases h), fun _ => ⟨_, 0, rfl, by omega, fun i hi => by
    have : i = 0 := by omega
    subst this
    rw [World.cell?_alloc_mark]
    rfl⟩⟩
end Go.Proofs.Ytgfhpdgohjnooaa.mm
