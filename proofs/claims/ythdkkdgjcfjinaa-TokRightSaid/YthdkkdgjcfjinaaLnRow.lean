/- Rows whose elements have several cells: as they lie in memory, and those of a call's own, appended to. No condition but what each line says. -/
import Derived.Test.YthdkkdgjcfjinaaKStore
import Derived.Maps.AppendAt
import Derived.Deep.AppendLies
import Derived.OwnWalk
import Derived.Laws.OwnMore
import Derived.Lib.SmallJoins
namespace Go.Proofs.Ythdkkdgjcfjinaa.rr
open Go.ChangeShapes Go.WideShapes Go.ChangeAt Go.RowKit Go.Joins Go.Proofs.Ythdkkdgjcfjinaa.k
set_option linter.unusedVariables false

section
variable {α : Type} (enc : α → List Value) (z : Nat)
theorem flat_len (hz : ∀ x, (enc x).length = z) (L : List α) : (L.flatMap enc).length = L.length * z := by
  induction L with
  | nil => simp
  | cons x L ih => rw [List.flatMap_cons, List.length_append, hz, ih, List.length_cons, Nat.succ_mul, Nat.add_comm]
theorem flat_at (hz : ∀ x, (enc x).length = z) : ∀ (L : List α) (i f : Nat) (x : α), L[i]? = some x → f < z → (L.flatMap enc)[i * z + f]? = (enc x)[f]?
  | [], i, f, x, h, _ => by simp at h
  | y :: L, 0, f, x, h, hf => by
    have e : y = x := by simpa using h
    rw [List.flatMap_cons, Nat.zero_mul, Nat.zero_add, List.getElem?_append_left (by rw [hz]; exact hf), e]
  | y :: L, i + 1, f, x, h, hf => by
    rw [List.flatMap_cons, List.getElem?_append_right (by rw [hz, Nat.succ_mul]; omega), hz, show (i + 1) * z + f - z = i * z + f by rw [Nat.succ_mul]; omega]
    exact flat_at hz L i f x (by simpa using h) hf
theorem flat_inv (hz : ∀ x, (enc x).length = z) (hp : 0 < z) (L : List α) (j : Nat) (u : Value) (h : (L.flatMap enc)[j]? = some u) : ∃ x, L[j / z]? = some x ∧ (enc x)[j % z]? = some u := by
  have hj : j < L.length * z := by
    have h1 : j < (L.flatMap enc).length := (List.getElem?_eq_some_iff.1 h).1
    rwa [flat_len enc z hz] at h1
  have hi : j / z < L.length := (Nat.div_lt_iff_lt_mul hp).2 hj
  refine ⟨L[j / z], List.getElem?_eq_getElem hi, ?_⟩
  rw [← flat_at enc z hz L (j / z) (j % z) _ (List.getElem?_eq_getElem hi) (Nat.mod_lt _ hp), Nat.mul_comm, Nat.div_add_mod, h]
/-- a slice as it lies in memory -/
def Rd (w : World) (B : Nat) (A : Option Addr) (n cap : Nat) (L : List α) : Prop :=
  L.length = n ∧ n ≤ cap ∧ cap ≤ maxLen ∧ (A = none → cap = 0) ∧ (0 < n → ∃ b off, A = some ⟨b, off, none⟩ ∧ b < B ∧ ∀ i x, L[i]? = some x → w.rangeAt b (off + i * z) (enc x))
/-- a slice of the call's own -/
def Ow (t : TypeId) (w : World) (base : Nat) (v : Value) (L : List α) : Prop := w.ownsRow base t z v L.length (L.flatMap enc)
end
section
variable {α : Type} {enc : α → List Value} {z : Nat} {w w' : World} {B : Nat} {A : Option Addr} {n cap : Nat} {L : List α}
theorem range_below {b o : Nat} {vs : List Value} (h : w.rangeAt b o vs) (hb : Below B w w') (hB : b < B) : w'.rangeAt b o vs := fun j v hv => (hb.cell (p := ⟨b, o + j, none⟩) hB).trans (h j v hv)
theorem Rd.below (h : Rd enc z w B A n cap L) (hb : Below B w w') : Rd enc z w' B A n cap L :=
  ⟨h.1, h.2.1, h.2.2.1, h.2.2.2.1, fun hn => by
    obtain ⟨b, off, e, hB, hc⟩ := h.2.2.2.2 hn
    exact ⟨b, off, e, hB, fun i x hx => range_below (hc i x hx) hb hB⟩⟩
theorem Rd.more {B' : Nat} (h : Rd enc z w B A n cap L) (hB : B ≤ B') : Rd enc z w B' A n cap L :=
  ⟨h.1, h.2.1, h.2.2.1, h.2.2.2.1, fun hn => by
    obtain ⟨b, off, e, hb, hc⟩ := h.2.2.2.2 hn
    exact ⟨b, off, e, by omega, hc⟩⟩
theorem Rd.len_le (h : Rd enc z w B A n cap L) : (n : Int) ≤ 9223372036854775807 := by
  have h1 := h.2.1
  have h2 := h.2.2.1
  unfold maxLen at h2
  omega
theorem Rd.at (h : Rd enc z w B A n cap L) {i : Nat} (hi : i < n) : ∃ b off x, A = some ⟨b, off, none⟩ ∧ b < B ∧ L[i]? = some x ∧ w.rangeAt b (off + i * z) (enc x) := by
  obtain ⟨b, off, e, hb, hc⟩ := h.2.2.2.2 (by omega)
  have hl : i < L.length := by rw [h.1]; exact hi
  exact ⟨b, off, L[i], e, hb, List.getElem?_eq_getElem hl, hc i _ (List.getElem?_eq_getElem hl)⟩
theorem Rd.none_ (enc : α → List Value) (z : Nat) (w : World) (B : Nat) : Rd enc z w B none 0 0 [] := ⟨rfl, Nat.le_refl _, by unfold maxLen; omega, fun _ => rfl, fun h => absurd h (by omega)⟩
theorem Rd.drewN (h : Rd enc z w B A n cap L) (q : Nat) : Rd enc z (w.drewN q) B A n cap L := h
variable {t : TypeId} {base : Nat} {v : Value}
theorem Ow.form (hz : ∀ x, (enc x).length = z) (h : Ow enc z t w base v L) : ∃ A cap, v = .slice A L.length cap ∧ Rd enc z w w.heap.size A L.length cap L := by
  rcases h.2 with ⟨rfl, h0⟩ | ⟨g, cap, cur, rfl, hb, hg, hle, hmax, hcs, htake⟩
  · exact ⟨none, 0, by rw [h0], rfl, by omega, by unfold maxLen; omega, fun _ => rfl, fun hn => absurd hn (by omega)⟩
  · refine ⟨_, cap, rfl, rfl, hle, hmax, (fun h => by cases h), fun hn => ⟨g, 0, rfl, (Array.getElem?_eq_some_iff.1 hg).1, fun i x hx f u hu => ?_⟩⟩
    have hf : f < z := by have := (List.getElem?_eq_some_iff.1 hu).1; rwa [hz] at this
    have hc := World.ownsRow.cells (g := g) h rfl (i * z + f) u (by rw [flat_at enc z hz L i f x hx hf, hu])
    have e : (Addr.add ⟨g, 0, none⟩ (i * z + f)) = ⟨g, 0 + i * z + f, none⟩ := by
      unfold Addr.add; by_cases h : i * z + f = 0 <;> simp [h]
      omega
    rw [e] at hc
    exact hc
theorem Ow.kept {row : Option Nat} (h : Ow enc z t w base v L) (hg : w.grownBy w' row) (hne : v.ownBlock = none ∨ v.ownBlock ≠ row) : Ow enc z t w' base v L := World.ownsRow.kept h hg hne
theorem Ow.under (hO : Ow enc z t w base v L) (hb : Below w.heap.size w w') : Ow enc z t w' base v L :=
  hO.kept (row := .none) ⟨hb.os, hb.tape, hb.output, hb.size, fun k hk _ => hb.block k hk⟩ (by cases v.ownBlock <;> simp)
theorem Ow.drewN (h : Ow enc z t w base v L) (q : Nat) : Ow enc z t (w.drewN q) base v L := h
theorem Ow.lays {a : World} (hO : Ow enc z t w base v L) (h : Below B a w) (hB : B ≤ base) (hz : B ≤ a.heap.size) (hg : w.grownBy w' v.ownBlock) : Below B a w' :=
  h.grown hg (Nat.le_trans hz h.size) fun b hb => Nat.le_trans hB (hO.lt b hb).1
theorem Ow.nil (enc : α → List Value) (z : Nat) (t : TypeId) (w : World) (base : Nat) : Ow enc z t w base (.slice none 0 0) [] := World.ownsRow_nil _ _ _ _
theorem Ow.empty (enc : α → List Value) (z : Nat) (t : TypeId) (w : World) : Ow enc z t (w.alloc (.cells #[] t)) w.heap.size (.slice (some ⟨w.heap.size, 0, none⟩) 0 0) [] :=
  World.ownsRow_made w #[] 0 (Nat.le_refl _) (by unfold maxLen; omega) (by simp)
end
theorem Ow.base {α : Type} {enc : α → List Value} {z : Nat} {w : World} {t : TypeId} {b b' : Nat} {v : Value} {L : List α} (h : Ow enc z t w b v L) (hb : b' ≤ b) : Ow enc z t w b' v L := ownsRow_le h hb
theorem info_parts {P : Program} {t : TypeId} {zv : Value} {size bytes : Nat} (h : (P.info? t).map (fun i => (i.zero, i.size, i.bytes)) = some (some zv, size, bytes)) : ∃ i, P.info? t = some i ∧ i.zero = some zv ∧ i.size = size ∧ i.bytes = bytes := by
  cases hi : P.info? t with
  | none => rw [hi] at h; cases h
  | some i =>
    rw [hi] at h
    simp only [Option.map_some, Option.some.injEq, Prod.mk.injEq] at h
    exact ⟨i, rfl, h.1, h.2.1, h.2.2⟩
section
variable {P : Program} {α : Type} {enc : α → List Value} {z : Nat}
/-- appended: a row as it lies, behind one of the call's own -/
theorem append_row (hz : ∀ x, (enc x).length = z) (hp : 0 < z) (h1 : ∀ x, ∀ u ∈ enc x, u.oneCell' = true) {t e : TypeId} {zv : Value} {bytes : Nat} (ht : P.underlying t = some (.slice e)) (hi : (P.info? e).map (fun i => (i.zero, i.size, i.bytes)) = some (some zv, z, bytes))
    (hzs : zv.cells.size = z) (hby : bytes ≤ 10000) (w : World) (base ty : Nat) (v : Value) (l : List α) (hown : Ow enc z e w base v l) (B : Nat) (A : Option Addr) (n cap : Nat) (k : List α)
    (hk : Rd enc z w B A n cap k) (hlen : l.length + k.length ≤ 20000) (hbase : base ≤ w.heap.size) :
    ∃ v' w', (Builtin.append_ #[t, t] ty #[v, .slice A n cap]).run P w = .ok v' w' ∧ Ow enc z e w' base v' (l ++ k) ∧ w.grownBy w' v.ownBlock ∧
      (v'.ownBlock = v.ownBlock ∨ v'.ownBlock = some w.heap.size) := by
  obtain ⟨i0, hi0, hz0, hz1, hz2⟩ := info_parts hi
  have hkl := hk.1
  subst hkl
  cases A with
  | none =>
    have h2 := hk.2.2.2.1 rfl
    have h3 : k.length = 0 := by have := hk.2.1; omega
    have hk0 : k = [] := List.eq_nil_of_length_eq_zero h3
    subst hk0 h2
    exact ⟨v, w, run_append_owned_none (P := P) (w := w) base t ty e i0 z ht hi0 v _ _ hown, by simpa using hown, World.grownBy.refl w _, .inl rfl⟩
  | some ad =>
    have hcells : ∀ j u, (k.flatMap enc)[j]? = some u → w.cell? (ad.add j) = some u := by
      intro j u hu
      obtain ⟨x, hx, hu2⟩ := flat_inv enc z hz hp k j u hu
      have hj : 0 < k.length := Nat.lt_of_le_of_lt (Nat.zero_le _) (List.getElem?_eq_some_iff.1 hx).1
      obtain ⟨b, off, e, hb, hc⟩ := hk.2.2.2.2 hj
      injection e with e
      subst e
      have e1 : (Addr.add ⟨b, off, none⟩ j) = ⟨b, off + j / z * z + j % z, none⟩ := by
        have e2 : off + j / z * z + j % z = off + j := by rw [Nat.add_assoc, Nat.mul_comm, Nat.div_add_mod]
        rw [e2]
        unfold Addr.add; by_cases h : j = 0 <;> simp [h]
      rw [e1]
      exact hc _ x hx _ u hu2
    obtain ⟨v', w', hrun, h2, h3, _, h5⟩ := run_append_own_at (P := P) w base t ty e i0 zv z bytes ht hi0 hz0 hz1 hz2 hzs hp v l.length _ hown ad k.length cap _
      (flat_len enc z hz k) hcells (by intro u hu; obtain ⟨x, _, hx⟩ := List.mem_flatMap.1 hu; exact h1 x u hx) (by unfold maxLen; omega) (by
        have : (l.length + k.length) * bytes ≤ 20000 * 10000 := Nat.mul_le_mul hlen hby
        omega) hbase
    refine ⟨v', w', hrun, ?_, h3, h5⟩
    unfold Ow
    rw [List.flatMap_append, List.length_append]
    exact h2
theorem wpList_append_row (hz : ∀ x, (enc x).length = z) (hp : 0 < z) (h1 : ∀ x, ∀ u ∈ enc x, u.oneCell' = true) {t e : TypeId} {zv : Value} {bytes : Nat} (ht : P.underlying t = some (.slice e)) (hi : (P.info? e).map (fun i => (i.zero, i.size, i.bytes)) = some (some zv, z, bytes))
    (hzs : zv.cells.size = z) (hby : bytes ≤ 10000) (w : World) {ops : Array Oper} {rest : List Oper} {o : Oper} {a : Act} {Q : Exit → Act → World → Prop} (hgd : o.guard = none) (s x : Operand)
    (ho : o.op = .call { callee := .builtin .append, args := #[s, x], argTypes := #[t, t] })
    (base : Nat) (v : Value) (l : List α) (hs : a.eval s = v) (hown : Ow enc z e w base v l) (B : Nat) (A : Option Addr) (n cap : Nat) (k : List α) (hx : a.eval x = .slice A n cap)
    (hk : Rd enc z w B A n cap k) (hlen : l.length + k.length ≤ 20000) (hbase : base ≤ w.heap.size)
    (h : ∀ v' w', Ow enc z e w' base v' (l ++ k) → w.grownBy w' v.ownBlock → (v'.ownBlock = v.ownBlock ∨ v'.ownBlock = some w.heap.size) → wpList P ops Q rest (a.put o.dst v') w') :
    wpList P ops Q (o :: rest) a w := by
  refine wpList_plain hgd fun K hK => ?_
  obtain ⟨v', w', hr, h2, h3, h4⟩ := append_row hz hp h1 ht hi hzs hby w base o.type v l hown B A n cap k hk hlen hbase
  unfold Oper.wp execOp
  simp only [ho, resolve, invoke, builtin, Sem.run_bind, Sem.run_pure, Result.andThen_ok, List.map_toArray, List.map_cons, List.map_nil, hs, hx, hr]
  exact hK _ _ (h v' w' h2 h3 h4)
theorem step_append_row (hz : ∀ x, (enc x).length = z) (hp : 0 < z) (h1 : ∀ x, ∀ u ∈ enc x, u.oneCell' = true) {t e : TypeId} {zv : Value} {bytes : Nat} (ht : P.underlying t = some (.slice e)) (hi : (P.info? e).map (fun i => (i.zero, i.size, i.bytes)) = some (some zv, z, bytes))
    (hzs : zv.cells.size = z) (hby : bytes ≤ 10000) (w : World) {ops : Array Oper} {o : Oper} {a : Act} {K : Act → World → Prop} {Q : Exit → Act → World → Prop} {E : Prop} (hgd : o.guard = none) (s x : Operand)
    (ho : o.op = .call { callee := .builtin .append, args := #[s, x], argTypes := #[t, t] })
    (base : Nat) (v : Value) (l : List α) (hs : a.eval s = v) (hown : Ow enc z e w base v l) (B : Nat) (A : Option Addr) (n cap : Nat) (k : List α) (hx : a.eval x = .slice A n cap)
    (hk : Rd enc z w B A n cap k) (hlen : l.length + k.length ≤ 20000) (hbase : base ≤ w.heap.size)
    (h : ∀ v' w', Ow enc z e w' base v' (l ++ k) → w.grownBy w' v.ownBlock → (v'.ownBlock = v.ownBlock ∨ v'.ownBlock = some w.heap.size) → K (a.put o.dst v') w') :
    if Region.wanted o (yielded ops a.tmps) = true then Oper.wp P o a w K Q else E := by
  have hw : Region.wanted o (yielded ops a.tmps) = true := by simp [Region.wanted, hgd]
  rw [if_pos hw]
  obtain ⟨v', w', hr, h2, h3, h4⟩ := append_row hz hp h1 ht hi hzs hby w base o.type v l hown B A n cap k hk hlen hbase
  unfold Oper.wp execOp
  simp only [ho, resolve, invoke, builtin, Sem.run_bind, Sem.run_pure, Result.andThen_ok, List.map_toArray, List.map_cons, List.map_nil, hs, hx, hr]
  exact h v' w' h2 h3 h4
/-- one element in a new block -/
theorem one_row (w : World) (e : TypeId) (x : α) (cs : Array Value) (hc : cs.toList = enc x) : Rd enc z (w.alloc (.cells cs e)) (w.heap.size + 1) (some ⟨w.heap.size, 0, none⟩) 1 1 [x] :=
  ⟨rfl, Nat.le_refl _, by unfold maxLen; omega, (fun h => by cases h), fun _ => ⟨_, 0, rfl, by omega, fun i y hy j u hu => by
    have hi : i = 0 := by
      rcases Nat.lt_or_ge i 1 with h | h
      · omega
      · rw [List.getElem?_eq_none (by simpa using h)] at hy; cases hy
    subst hi
    have e1 : x = y := by simpa using hy
    subst e1
    simp only [Nat.zero_mul, Nat.zero_add]
    rw [World.cell?_alloc_mark, ← hu, ← hc]
    simp⟩⟩
end
end Go.Proofs.Ythdkkdgjcfjinaa.rr
