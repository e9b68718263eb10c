/- Rows of integers that a call makes and writes, beside variables of its own. No condition but what each line says. -/
import Derived.Test.YtgfhpdgohjnooaaMInts
namespace Go.Proofs.Ytgfhpdgohjnooaa.mm
open Go.ChangeShapes Go.WideShapes Go.ChangeAt Go.RowKit Go.Proofs.Ytgfhpdgohjnooaa.k
set_option linter.unusedVariables false

/-! ### A variable whose block is known by its type -/
def VarS (w : World) (g : Nat) (v : Value) : Prop := w.heap[g]? = some (.cells #[v] 24 (0, 0))
section
variable {w w' : World} {g : Nat} {v : Value}
theorem VarS.var (h : VarS w g v) : Var w g v := ⟨_, h⟩
theorem VarS.lt (h : VarS w g v) : g < w.heap.size := h.var.lt
theorem VarS.below {B : Nat} (h : VarS w g v) (hb : Below B w w') (hg : g < B) : VarS w' g v := (hb.block g hg).trans h
theorem VarS.under (h : VarS w g v) (hb : Below w.heap.size w w') : VarS w' g v := h.below hb h.lt
theorem VarS.new (w : World) (v : Value) : VarS (w.alloc (.cells #[v] 24)) w.heap.size v := heap_alloc_new w _
theorem VarS.drew (h : VarS w g v) : VarS w.drew g v := h
theorem VarS.drawn (h : VarS w g v) (n : Nat) : VarS (w.drewN n) g v := h
theorem VarS.set (h : VarS w g v) (u : Value) : VarS (w.setCell ⟨g, 0, none⟩ u) g u := by
  unfold VarS at *
  simp [World.setCell, Array.getElem?_modify, h]
theorem VarS.aside (h : VarS w g v) {p : Addr} (hp : g ≠ p.block) (u : Value) : VarS (w.setCell p u) g v := (Below.heap_setCell w p u g hp).trans h
theorem VarS.grown {row : Option Nat} (h : VarS w g v) (hg : w.grownBy w' row) (ho : row ≠ some g) : VarS w' g v := (hg.block g h.lt (fun e => ho e.symm)).trans h
theorem own_ne {base : Nat} {u : Value} {l : List Int} (h : OwnI w base u l) (hv : VarS w g v) : u.ownBlock ≠ some g := by
  rcases h.2 with ⟨rfl, _⟩ | ⟨g', cap, cur, rfl, _, hg, _⟩
  · simp [Value.ownBlock]
  · intro he
    have e : g' = g := by simpa [Value.ownBlock] using he
    subst e
    unfold VarS at hv
    rw [hv] at hg
    injection hg with hg
    injection hg with _ ht
    exact absurd ht (by decide)
end
theorem OwnI.store {w : World} {base g : Nat} {u : Value} {l : List Int} {v : Value} (h : OwnI w base u l) (hv : VarS w g v) (x : Value) : OwnI (w.setCell ⟨g, 0, none⟩ x) base u l :=
  h.kept (row := some g) ⟨rfl, rfl, rfl, by simp, fun k hk hne2 => Below.heap_setCell w _ x k (fun e => hne2 (by rw [e]))⟩ (.inr (own_ne h hv))
theorem step_append_ints (w : World) {ops : Array Oper} {o : Oper} {a : Act} {K : Act → World → Prop} {Q : Exit → Act → World → Prop} {E : Prop} (hgd : o.guard = none) (s x : Operand)
    (ho : o.op = .call { callee := .builtin .append, args := #[s, x], argTypes := #[22, 22] })
    (base : Nat) (v : Value) (l : List Int) (hs : a.eval s = v) (hown : OwnI w base v l) (B : Nat) (A : Option Addr) (n cap : Nat) (k : List Int) (hx : a.eval x = .slice A n cap)
    (hk : Win w B A n cap k) (hlen : l.length + k.length ≤ 20000) (hbase : base ≤ w.heap.size)
    (h : ∀ v' w', OwnI w' base v' (l ++ k) → w.grownBy w' v.ownBlock → (v'.ownBlock = v.ownBlock ∨ v'.ownBlock = some w.heap.size) → K (a.put o.dst v') w') :
    if Region.wanted o (yielded ops a.tmps) = true then Oper.wp Try.prog o a w K Q else E := by
  have hw : Region.wanted o (yielded ops a.tmps) = true := by simp [Region.wanted, hgd]
  rw [if_pos hw]
  obtain ⟨v', w', hr, h2, h3, h4⟩ := append_ints w base o.type v l hown B A n cap k hk hlen hbase
  unfold Oper.wp execOp
  simp only [ho, resolve, invoke, builtin, Sem.run_bind, Sem.run_pure, Result.andThen_ok, List.map_toArray, List.map_cons, List.map_nil, hs, hx, hr]
  exact h v' w' h2 h3 h4

/-! ### A row that is written -/
def RowF (w : World) (g n : Nat) (f : Nat → Int) : Prop := ∃ cur : Array Value, w.heap[g]? = some (.cells cur 2 (0, 0)) ∧ n ≤ cur.size ∧ ∀ i, i < n → cur[i]? = some (.int .i64 (f i))
section
variable {w w' : World} {g n : Nat} {f : Nat → Int}
theorem RowF.lt (h : RowF w g n f) : g < w.heap.size := by
  obtain ⟨cur, h, _⟩ := h
  exact (Array.getElem?_eq_some_iff.1 h).1
theorem RowF.cell (h : RowF w g n f) {i : Nat} (hi : i < n) : w.cell? ⟨g, i, none⟩ = some (.int .i64 (f i)) := by
  obtain ⟨cur, h, _, hc⟩ := h
  have := hc i hi
  simp [World.cell?, h, this]
theorem RowF.frozen (h : RowF w g n f) (i : Nat) : w.frozen? ⟨g, i, none⟩ = false := by
  obtain ⟨cur, h, _⟩ := h
  simp [World.frozen?, h]
theorem RowF.below {B : Nat} (h : RowF w g n f) (hb : Below B w w') (hg : g < B) : RowF w' g n f := by
  obtain ⟨cur, h, h2⟩ := h
  exact ⟨cur, (hb.block g hg).trans h, h2⟩
theorem RowF.under (h : RowF w g n f) (hb : Below w.heap.size w w') : RowF w' g n f := h.below hb h.lt
theorem RowF.drawn (h : RowF w g n f) (k : Nat) : RowF (w.drewN k) g n f := h
theorem RowF.aside (h : RowF w g n f) {p : Addr} (hp : g ≠ p.block) (u : Value) : RowF (w.setCell p u) g n f := by
  obtain ⟨cur, h, h2⟩ := h
  exact ⟨cur, (Below.heap_setCell w p u g hp).trans h, h2⟩
theorem RowF.set (h : RowF w g n f) {i : Nat} (hi : i < n) (x : Int) : RowF (w.setCell ⟨g, i, none⟩ (.int .i64 x)) g n (fun k => if k = i then x else f k) := by
  obtain ⟨cur, h, hs, hc⟩ := h
  refine ⟨cur.setIfInBounds i (.int .i64 x), by simp [World.setCell, Array.getElem?_modify, h], by simpa using hs, fun k hk => ?_⟩
  by_cases e : k = i
  · subst e
    have : k < cur.size := by omega
    simp [this]
  · have := hc k hk
    rw [Array.getElem?_setIfInBounds_ne (Ne.symm e), this]
    simp only [if_neg e]
theorem RowF.cong {f' : Nat → Int} (h : RowF w g n f) (e : ∀ i, i < n → f i = f' i) : RowF w g n f' := by
  obtain ⟨cur, h, hs, hc⟩ := h
  exact ⟨cur, h, hs, fun i hi => by rw [hc i hi, e i hi]⟩
theorem RowF.win (h : RowF w g n f) {L : List Int} {cap : Nat} (hl : L.length = n) (hc : n ≤ cap) (hm : cap ≤ maxLen) (e : ∀ i, i < n → f i = L.getD i 0) : Win w w.heap.size (some ⟨g, 0, none⟩) n cap L :=
  ⟨hl, hc, hm, (fun h => by cases h), fun hn => ⟨g, 0, rfl, h.lt, fun i hi => by rw [Nat.zero_add, h.cell hi, e i hi]⟩⟩
theorem RowF.ne {v : Value} {g2 : Nat} (h : RowF w g n f) (hv : VarS w g2 v) : g2 ≠ g := by
  rintro rfl
  obtain ⟨cur, h, _⟩ := h
  unfold VarS at hv
  rw [hv] at h
  injection h with h
  injection h with _ ht
  exact absurd ht (by decide)
end
/-- what an append made, as a row -/
theorem OwnI.row {w : World} {base : Nat} {v : Value} {l : List Int} (h : OwnI w base v l) (hn : 0 < l.length) :
    ∃ g cap, v = .slice (some ⟨g, 0, none⟩) l.length cap ∧ base ≤ g ∧ v.ownBlock = some g ∧ l.length ≤ cap ∧ cap ≤ maxLen ∧ RowF w g l.length (fun i => l.getD i 0) := by
  rcases h.2 with ⟨_, h0⟩ | ⟨g, cap, cur, rfl, hb, hg, hle, hmax, hcs, htake⟩
  · omega
  · refine ⟨g, cap, rfl, hb, by simp [Value.ownBlock], hle, hmax, cur, hg, ?_, fun i hi => ?_⟩
    · omega
    · have h1 := congrArg (fun l => l[i]?) htake
      simp only [List.getElem?_map, List.getElem?_eq_getElem hi, Option.map_some] at h1
      rw [List.getElem?_take, if_pos (by omega)] at h1
      rw [Array.getElem?_toList] at h1
      rw [h1]
      simp [List.getD_eq_getElem?_getD, hi]
end Go.Proofs.Ytgfhpdgohjnooaa.mm
