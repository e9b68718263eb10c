/- Bytes that a call laid itself: appended to, and read. No condition but their number. -/
import Derived.Test.YtilafaokiakkbaaSRow
import Derived.Maps.AppendAt
import Derived.Deep.AppendLies
import Derived.RegionTactic
import Derived.OwnWalk
import Derived.Laws.OwnMore
namespace Go.Proofs.Ytilafaokiakkbaa.s
open Go.ChangeShapes Go.WideShapes Go.ChangeAt Go.RowKit Go.Proofs.Ytilafaokiakkbaa
set_option linter.unusedVariables false

theorem byte_info : (Try.prog.info? 5).map (fun i => (i.zero, i.size, i.bytes)) = some (some (.int .u8 0), 1, 1) := by kernel_rfl
/-- a slice of the call's own that reads as these bytes -/
def Own (w : World) (base : Nat) (v : Value) (l : List (BitVec 8)) : Prop := w.ownsRow base 5 1 v l.length (l.map fun c => Value.int .u8 (v8 c))
section
variable {w w' : World} {base : Nat} {v : Value} {l : List (BitVec 8)}
theorem Own.form (h : Own w base v l) : ∃ A cap, v = .slice A l.length cap ∧ Bytes w w.heap.size A l ∧ l.length ≤ cap ∧ cap ≤ maxLen ∧ (A = none → l.length = 0 ∧ cap = 0) := by
  rcases h.2 with ⟨rfl, h0⟩ | ⟨g, cap, cur, rfl, hb, hg, hle, hmax, hcs, htake⟩
  · exact ⟨none, 0, by rw [h0], fun hn => absurd hn (by omega), by omega, by unfold maxLen; omega, fun _ => ⟨h0, rfl⟩⟩
  · refine ⟨_, cap, rfl, fun hn => ⟨g, 0, rfl, ?_, fun i hi => ?_⟩, hle, hmax, fun h => by cases h⟩
    · exact (Array.getElem?_eq_some_iff.1 hg).1
    · have hc := World.ownsRow.cells (g := g) h rfl i (.int .u8 (v8 (l.getD i 0))) (by
        rw [List.getElem?_map, List.getElem?_eq_getElem hi]; simp [List.getD_eq_getElem?_getD, hi])
      have e : (Addr.add ⟨g, 0, none⟩ i) = ⟨g, 0 + i, none⟩ := by
        unfold Addr.add; by_cases h : i = 0 <;> simp [h]
      rw [e] at hc
      exact hc
theorem Own.below (h : Own w base v l) {row : Option Nat} (hg : w.grownBy w' row) (hne : v.ownBlock = none ∨ v.ownBlock ≠ row) : Own w' base v l := World.ownsRow.kept h hg hne
end

theorem append_bytes (w : World) (base ty : Nat) (v : Value) (l : List (BitVec 8)) (hown : Own w base v l) (B : Nat) (A : Option Addr) (cap : Nat) (k : List (BitVec 8))
    (hk : Bytes w B A k) (hnil : A = none → k.length = 0 ∧ cap = 0) (hlen : l.length + k.length ≤ 20000) (hbase : base ≤ w.heap.size) :
    ∃ v' w', (Builtin.append_ #[23, 23] ty #[v, .slice A k.length cap]).run Try.prog w = .ok v' w' ∧ Own w' base v' (l ++ k) ∧ w.grownBy w' v.ownBlock ∧
      (v'.ownBlock = v.ownBlock ∨ v'.ownBlock = some w.heap.size) := by
  obtain ⟨i0, hi0, hz0, hz1, hz2⟩ := info_parts byte_info
  cases A with
  | none =>
    have ⟨h1, h2⟩ := hnil rfl
    have hk0 : k = [] := List.eq_nil_of_length_eq_zero h1
    subst hk0 h2
    exact ⟨v, w, run_append_owned_none (P := Try.prog) (w := w) base 23 ty 5 i0 1 Try.underlying23 hi0 v _ _ hown, by simpa using hown, World.grownBy.refl w _, .inl rfl⟩
  | some ad =>
    have hcells : ∀ j u, (k.map fun c => Value.int .u8 (v8 c))[j]? = some u → w.cell? (ad.add j) = some u := by
      intro j u hu
      have hj : j < k.length := by
        rcases Nat.lt_or_ge j k.length with h | h
        · exact h
        · rw [List.getElem?_map, List.getElem?_eq_none h] at hu; cases hu
      obtain ⟨b, off, e, hb, hc⟩ := hk (by omega)
      injection e with e
      subst e
      have e1 : (Addr.add ⟨b, off, none⟩ j) = ⟨b, off + j, none⟩ := by
        unfold Addr.add; by_cases h : j = 0 <;> simp [h]
      rw [e1, hc j hj, ← hu, List.getElem?_map, List.getElem?_eq_getElem hj]
      simp [List.getD_eq_getElem?_getD, hj]
    obtain ⟨v', w', hrun, h2, h3, _, h5⟩ := run_append_own_at (P := Try.prog) w base 23 ty 5 i0 (.int .u8 0) 1 1 Try.underlying23 hi0 hz0 hz1 hz2 rfl (by omega) v l.length _ hown ad k.length cap _
      (by simp) hcells (by intro u hu; simp at hu; obtain ⟨c, _, rfl⟩ := hu; rfl) (by unfold maxLen; omega) (by omega) hbase
    refine ⟨v', w', hrun, ?_, h3, h5⟩
    unfold Own
    rw [List.map_append, List.length_append]
    exact h2
theorem wpList_append_bytes (w : World) {ops : Array Oper} {rest : List Oper} {o : Oper} {a : Act} {Q : Exit → Act → World → Prop} (hgd : o.guard = none) (s x : Operand)
    (ho : o.op = .call { callee := .builtin .append, args := #[s, x], argTypes := #[23, 23] })
    (base : Nat) (v : Value) (l : List (BitVec 8)) (hs : a.eval s = v) (hown : Own w base v l) (B : Nat) (A : Option Addr) (n cap : Nat) (k : List (BitVec 8)) (hn : k.length = n) (hx : a.eval x = .slice A n cap)
    (hk : Bytes w B A k) (hnil : A = none → k.length = 0 ∧ cap = 0) (hlen : l.length + k.length ≤ 20000) (hbase : base ≤ w.heap.size)
    (h : ∀ v' w', Own w' base v' (l ++ k) → w.grownBy w' v.ownBlock → (v'.ownBlock = v.ownBlock ∨ v'.ownBlock = some w.heap.size) → wpList Try.prog ops Q rest (a.put o.dst v') w') :
    wpList Try.prog ops Q (o :: rest) a w := by
  subst hn
  refine wpList_plain hgd fun K hK => ?_
  obtain ⟨v', w', hr, h2, h3, h4⟩ := append_bytes w base o.type v l hown B A cap k hk hnil hlen hbase
  unfold Oper.wp execOp
  simp only [ho, resolve, invoke, builtin, Sem.run_bind, Sem.run_pure, Result.andThen_ok, List.map_toArray, List.map_cons, List.map_nil, hs, hx, hr]
  exact hK _ _ (h v' w' h2 h3 h4)
theorem step_append_bytes (w : World) {ops : Array Oper} {o : Oper} {a : Act} {K : Act → World → Prop} {Q : Exit → Act → World → Prop} {E : Prop} (hgd : o.guard = none) (s x : Operand)
    (ho : o.op = .call { callee := .builtin .append, args := #[s, x], argTypes := #[23, 23] })
    (base : Nat) (v : Value) (l : List (BitVec 8)) (hs : a.eval s = v) (hown : Own w base v l) (B : Nat) (A : Option Addr) (n cap : Nat) (k : List (BitVec 8)) (hn : k.length = n) (hx : a.eval x = .slice A n cap)
    (hk : Bytes w B A k) (hnil : A = none → k.length = 0 ∧ cap = 0) (hlen : l.length + k.length ≤ 20000) (hbase : base ≤ w.heap.size)
    (h : ∀ v' w', Own w' base v' (l ++ k) → w.grownBy w' v.ownBlock → (v'.ownBlock = v.ownBlock ∨ v'.ownBlock = some w.heap.size) → K (a.put o.dst v') w') :
    if Region.wanted o (yielded ops a.tmps) = true then Oper.wp Try.prog o a w K Q else E := by
  subst hn
  have hw : Region.wanted o (yielded ops a.tmps) = true := by simp [Region.wanted, hgd]
  rw [if_pos hw]
  obtain ⟨v', w', hr, h2, h3, h4⟩ := append_bytes w base o.type v l hown B A cap k hk hnil hlen hbase
  unfold Oper.wp execOp
  simp only [ho, resolve, invoke, builtin, Sem.run_bind, Sem.run_pure, Result.andThen_ok, List.map_toArray, List.map_cons, List.map_nil, hs, hx, hr]
  exact h v' w' h2 h3 h4
theorem empty_own (w : World) : Own (w.alloc (.cells #[] 5)) w.heap.size (.slice (some ⟨w.heap.size, 0, none⟩) 0 0) [] :=
  World.ownsRow_made w #[] 0 (Nat.le_refl _) (by unfold maxLen; omega) rfl

set_option maxHeartbeats 400000 in
/-- what servitorref02's Copy answers: the same bytes in a block of the call's own -/
theorem copy_any (l : List (BitVec 8)) (n : Nat) (hn : l.length = n) (hl : l.length ≤ 10000) (B : Nat) (A : Option Addr) (cap : Nat) (W : World) (h : Bytes W B A l) (hB : B ≤ W.heap.size) (hnil : A = none → l.length = 0 ∧ cap = 0) :
    Calls Try.prog 12 #[.slice A n cap] W fun e w' => ∃ v, e = .returned v ∧ Own w' W.heap.size v l ∧ Below W.heap.size W w' := by
  have hO := Lib.hid (empty_own W)
  have HA := Lib.hid (h.below ((Below.refl B W).alloc hB (.cells #[] 5)))
  have HL := Lib.hid hl
  have HN := Lib.hid hn
  have HX := Lib.hid hnil
  clear h hl hn hnil
  go_enter Try.func12, Try.ntmps12
  go_wp2_with (at_builtin; refine wpList_append_bytes _ rfl (.tmp 3) (.tmp 4) rfl W.heap.size _ [] rfl hO.out B A n cap l HN.out rfl HA.out HX.out (by have := HL.out; simp; omega) (by simp) ?_; intro v1 w1 hown1 hg1 hat1; have HW := Lib.hid hown1; have HG := Lib.hid hg1; clear hown1 hg1 hat1)
  go_ret
  exact ⟨v1, rfl, by simpa using HW.out, ((Below.refl _ _).alloc (Nat.le_refl _) _).grown HG.out (by simp) (by intro k hk; cases hk; exact Nat.le_refl _)⟩
theorem Own.lays {a w w' : World} {B base : Nat} {v : Value} {l : List (BitVec 8)} (hO : Own w base v l) (h : Below B a w) (hB : B ≤ base) (hz : B ≤ a.heap.size) (hg : w.grownBy w' v.ownBlock) : Below B a w' :=
  h.grown hg (Nat.le_trans hz h.size) fun b hb => Nat.le_trans hB (hO.lt b hb).1
theorem Own.new {w : World} {base : Nat} {v : Value} {l : List (BitVec 8)} (hO : Own w base v l) (o : Obj) : Own (w.alloc o) base v l :=
  World.ownsRow.alloc hO o
/-- a byte in a new block -/
theorem one_bytes (w : World) (e : TypeId) (x : BitVec 8) : Bytes (w.alloc (.cells #[Value.int .u8 (v8 x)] e)) (w.heap.size + 1) (some ⟨w.heap.size, 0, none⟩) [x] := fun _ => by
  refine ⟨_, 0, rfl, by omega, fun i hi => ?_⟩
  rw [World.cell?_alloc_mark, Nat.zero_add]
  have : i = 0 := by simp at hi; omega
  subst this; rfl
/-- two bytes in a new block -/
theorem pair_bytes (w : World) (e : TypeId) (x y : BitVec 8) : Bytes (w.alloc (.cells #[Value.int .u8 (v8 x), Value.int .u8 (v8 y)] e)) (w.heap.size + 1) (some ⟨w.heap.size, 0, none⟩) [x, y] := fun _ => by
  refine ⟨_, 0, rfl, by omega, fun i hi => ?_⟩
  rw [World.cell?_alloc_mark, Nat.zero_add]
  have : i = 0 ∨ i = 1 := by simp at hi; omega
  rcases this with rfl | rfl <;> rfl
end Go.Proofs.Ytilafaokiakkbaa.s
