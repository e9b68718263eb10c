/- Bytes that lie in memory: that came in, that a call laid itself, and that are appended to. No condition but their number. -/
import Derived.Test.YtdfgjfojneoljaaSMath
import Derived.Test.YtdfgjfojneoljaaRows
import Derived.ProofKit
import Derived.OpenShut
import Derived.WalkKit
import Derived.WalkLawsBesides
import Derived.Below
import Derived.ShutString
import Derived.ChangeOld
import Derived.Lib.MinMax
import Derived.Maps.AppendAt
import Derived.Deep.AppendLies
import Derived.RegionTactic
import Derived.OwnWalk
import Derived.Laws.OwnMore
import Derived.Deep.QuietTactic
import Derived.BigQuiet
import Derived.LoopTactic
import Derived.Deep.Cut
import Derived.Deep.RegionHeld3
namespace Go.Proofs.Ytdfgjfojneoljaa.s
open Go.ChangeShapes Go.WideShapes Go.ChangeAt Go.RowKit
set_option linter.unusedVariables false

theorem ret_v16 {k : IntKind} {a b : BitVec 16} (h : a = b) : Ending.returned (.int k (v16 a)) = .returned (.int k (v16 b)) := by rw [h]

/-! ### Bytes that lie below a block -/
def Bytes (w : World) (B : Nat) (A : Option Addr) (l : List (BitVec 8)) : Prop :=
  0 < l.length → ∃ b off, A = some ⟨b, off, none⟩ ∧ b < B ∧ ∀ i, i < l.length → w.cell? ⟨b, off + i, none⟩ = some (.int .u8 (v8 (l.getD i 0)))
theorem Bytes.below {w w' : World} {B : Nat} {A : Option Addr} {l : List (BitVec 8)} (h : Bytes w B A l) (hb : Below B w w') : Bytes w' B A l := fun hn => by
  obtain ⟨b, off, e, hB, hc⟩ := h hn
  exact ⟨b, off, e, hB, fun i hi => (hb.cell (p := ⟨b, off + i, none⟩) hB).trans (hc i hi)⟩
theorem Bytes.more {w : World} {B B' : Nat} {A : Option Addr} {l : List (BitVec 8)} (h : Bytes w B A l) (hB : B ≤ B') : Bytes w B' A l := fun hn => by
  obtain ⟨b, off, e, hb, hc⟩ := h hn
  exact ⟨b, off, e, by omega, hc⟩
theorem Bytes.take {w : World} {B : Nat} {A : Option Addr} {l : List (BitVec 8)} (h : Bytes w B A l) (n : Nat) : Bytes w B A (l.take n) := fun hn => by
  have hl : (l.take n).length = min n l.length := List.length_take
  obtain ⟨b, off, e, hb, hc⟩ := h (by omega)
  refine ⟨b, off, e, hb, fun i hi => ?_⟩
  rw [hc i (by omega), List.getD_eq_getElem?_getD, List.getD_eq_getElem?_getD, List.getElem?_take, if_pos (by omega)]

end Go.Proofs.Ytdfgjfojneoljaa.s
namespace Go.Proofs.Ytdfgjfojneoljaa
open Go.ChangeShapes Go.WideShapes Go.ChangeAt Go.RowKit Go.Proofs.Ytdfgjfojneoljaa.s

def IsRow (k : IntKind) (w : World) (a : Option Addr) (len cap : Nat) (zs : List Int) : Prop :=
  (a = none ∧ len = 0 ∧ cap = 0 ∧ zs = []) ∨
  ∃ x, a = some x ∧ len ≤ cap ∧ cap ≤ maxLen ∧ zs.length = cap ∧ (∀ i, i < zs.length → w.cell? (x.add i) = some (.int k (zs.getD i 0))) ∧ ∀ n ∈ zs, (Lit.int k n).wf = true
theorem wf8 {a : Int} (h : (Lit.int .u8 a).wf = true) : 0 ≤ a ∧ a ≤ 255 := by
  simp only [Lit.wf, IntKind.min, IntKind.max, IntKind.signed, IntKind.bits, Bool.and_eq_true] at h
  simp at h
  omega
theorem wf16 {a : Int} (h : (Lit.int .u16 a).wf = true) : 0 ≤ a ∧ a ≤ 65535 := by
  simp only [Lit.wf, IntKind.min, IntKind.max, IntKind.signed, IntKind.bits, Bool.and_eq_true] at h
  simp at h
  omega
theorem isByte {a : Int} (h : (Lit.int .u8 a).wf = true) : ∃ c : BitVec 8, a = v8 c := ⟨BitVec.ofInt 8 a, (v8_of a (wf8 h).1 (wf8 h).2).symm⟩
theorem isReg {a : Int} (h : (Lit.int .u16 a).wf = true) : ∃ c : BitVec 16, a = v16 c := ⟨BitVec.ofInt 16 a, (v16_of a (wf16 h).1 (wf16 h).2).symm⟩
theorem lt_of_cell {w : World} {b o : Nat} {v : Value} (h : w.cell? ⟨b, o, none⟩ = some v) : b < w.heap.size := by
  rcases Nat.lt_or_ge b w.heap.size with h' | h'
  · exact h'
  · simp [World.cell?, Array.getElem?_eq_none h'] at h
/-- what came in: its bytes, as many as its length says -/
theorem bytes_of {w : World} {a : Option Addr} {len cap : Nat} {zs : List Int} (h : IsRow .u8 w a len cap zs) :
    ∃ l : List (BitVec 8), l.length = len ∧ Bytes w w.heap.size a l ∧ len ≤ cap ∧ cap ≤ maxLen ∧ (a = none → len = 0 ∧ cap = 0) ∧ ∀ x, a = some x → ∃ b o, x = ⟨b, o, none⟩ ∨ cap = 0 := by
  rcases h with ⟨rfl, rfl, rfl, rfl⟩ | ⟨x, rfl, hl, hm, hz, hcell, hwz⟩
  · exact ⟨[], rfl, fun h => absurd h (by simp), Nat.le_refl _, by unfold maxLen; omega, fun _ => ⟨rfl, rfl⟩, fun x h => by cases h⟩
  · refine ⟨(zs.take len).map (BitVec.ofInt 8), by simp; omega, fun hn => ?_, hl, hm, fun h => (by cases h), fun y h => ?_⟩
    · have hn2 : 0 < len := by simp at hn; omega
      have h0 := hcell 0 (by omega)
      obtain ⟨b, off, spot⟩ := x
      have hspot : spot = none := by simpa [Addr.add] using World.cell?_spot h0
      subst hspot
      have hc0 : w.cell? ⟨b, off, none⟩ = some (.int .u8 (zs.getD 0 0)) := by simpa [Addr.add] using h0
      refine ⟨b, off, rfl, lt_of_cell hc0, fun i hi => ?_⟩
      have hi2 : i < len := by simp at hi; omega
      have hi3 : i < zs.length := by omega
      have hc := hcell i hi3
      have e : (Addr.add ⟨b, off, none⟩ i) = ⟨b, off + i, none⟩ := by
        unfold Addr.add; by_cases h : i = 0 <;> simp [h]
      rw [e] at hc
      rw [hc]
      have hb := wf8 (hwz zs[i] (List.getElem_mem hi3))
      have e1 : zs.getD i 0 = zs[i] := by simp [List.getD_eq_getElem?_getD, hi3]
      have e2 : ((zs.take len).map (BitVec.ofInt 8)).getD i 0 = BitVec.ofInt 8 zs[i] := by
        simp [List.getD_eq_getElem?_getD, hi2, hi3]
      rw [e1, e2, v8_of _ hb.1 hb.2]
    · refine ⟨x.block, x.off, ?_⟩
      injection h with h
      subst h
      by_cases hc0 : cap = 0
      · exact .inr hc0
      · have h0 := hcell 0 (by omega)
        obtain ⟨b, off, spot⟩ := x
        have hspot : spot = none := by simpa [Addr.add] using World.cell?_spot h0
        subst hspot
        exact .inl rfl
/-- the first bytes, no more than so many -/
theorem cut_of (l : List (BitVec 8)) (m : Nat) (M : Int) (hM : (m : Int) = M) {B : Nat} {A : Option Addr} {W : World} (h : Bytes W B A l) :
    ∃ l', l' = l.take m ∧ l'.length = (min (l.length : Int) M).toNat ∧ l'.length ≤ m ∧ Bytes W B A l' :=
  ⟨_, rfl, by rw [List.length_take]; omega, by rw [List.length_take]; omega, h.take m⟩
end Go.Proofs.Ytdfgjfojneoljaa
namespace Go.Proofs.Ytdfgjfojneoljaa.s
open Go.ChangeShapes Go.WideShapes Go.ChangeAt Go.RowKit Go.Proofs.Ytdfgjfojneoljaa

/-! ### A block's first cells, that may be written -/
def Arr (w : World) (g n : Nat) (f : Nat → Value) : Prop := ∀ i, i < n → w.cell? ⟨g, i, none⟩ = some (f i) ∧ w.frozen? ⟨g, i, none⟩ = false
theorem Arr.put {w : World} {g n : Nat} {f : Nat → Value} (h : Arr w g n f) (i : Nat) (hi : i < n) (x : Value) :
    ∃ w2, w.setCell ⟨g, i, none⟩ x = w2 ∧ Arr w2 g n (fun k => if k = i then x else f k) ∧ (∀ B, B ≤ g → Below B w w2) ∧ w.grownBy w2 (some g) := by
  refine ⟨_, rfl, fun k hk => ?_, fun B hB => (Below.refl _ _).setCell hB _, ⟨rfl, rfl, rfl, by simp, fun k hk hne => Below.heap_setCell w _ x k (fun e => hne (by rw [e]))⟩⟩
  have ⟨a, b⟩ := h k hk
  have ⟨a', b'⟩ := h i hi
  by_cases e : k = i
  · subst e; simp [go_sem, a, b]
  · simp [go_sem, a, b, e]
theorem Arr.cong {w : World} {g n : Nat} {f f' : Nat → Value} (h : Arr w g n f) (e : ∀ i, i < n → f i = f' i) : Arr w g n f' := fun i hi => by rw [← e i hi]; exact h i hi
theorem Arr.drawn {w : World} {g n : Nat} {f : Nat → Value} (h : Arr w g n f) (q : Nat) : Arr (w.drewN q) g n f := h
theorem Arr.bytes {w : World} {g n B : Nat} {f : Nat → Value} (h : Arr w g n f) (l : List (BitVec 8)) (hl : l.length ≤ n) (e : ∀ i, i < l.length → f i = .int .u8 (v8 (l.getD i 0))) (hB : g < B) : Bytes w B (some ⟨g, 0, none⟩) l :=
  fun _ => ⟨g, 0, rfl, hB, fun i hi => by rw [Nat.zero_add, (h i (by omega)).1, e i hi]⟩

/-- a new block's cells behind a call -/
theorem new_cell {w w' : World} {cs : Array Value} {t : TypeId} (hb : Below (w.alloc (.cells cs t)).heap.size (w.alloc (.cells cs t)) w') (i : Nat) : w'.cell? ⟨w.heap.size, i, none⟩ = cs[i]? ∧ w'.frozen? ⟨w.heap.size, i, none⟩ = false := by
  have hl : w.heap.size < (w.alloc (.cells cs t)).heap.size := by simp
  exact ⟨(hb.cell (p := ⟨w.heap.size, i, none⟩) hl).trans (World.cell?_alloc_mark w cs t (0, 0) i), (hb.frozen (p := ⟨w.heap.size, i, none⟩) hl).trans (by
    have h := heap_alloc_new w (.cells cs t)
    simp only [World.frozen?, h]
    simp)⟩
/-- cells that are known -/
def Mem (w : World) : List (Nat × Nat × Value) → Prop
  | [] => True
  | x :: L => w.cell? ⟨x.1, x.2.1, none⟩ = some x.2.2 ∧ Mem w L
theorem Mem.below {w w' : World} {B : Nat} : ∀ {L : List (Nat × Nat × Value)}, Mem w L → Below B w w' → (∀ x, x ∈ L → x.1 < B) → Mem w' L
  | [], _, _, _ => trivial
  | x :: L, h, hb, hl => ⟨(hb.cell (p := ⟨x.1, x.2.1, none⟩) (hl x (by simp))).trans h.1, Mem.below h.2 hb fun y hy => hl y (by simp [hy])⟩
/-- two boxed parameters, behind a call -/
theorem boxes2 {w w' : World} {c1 c2 : Array Value} {t1 t2 : TypeId} (hb : Below ((w.alloc (.cells c1 t1)).alloc (.cells c2 t2)).heap.size ((w.alloc (.cells c1 t1)).alloc (.cells c2 t2)) w') :
    (∀ i, w'.cell? ⟨w.heap.size, i, none⟩ = c1[i]?) ∧ (∀ i, w'.cell? ⟨w.heap.size + 1, i, none⟩ = c2[i]?) ∧ Below w.heap.size w w' ∧ w.heap.size + 1 < w'.heap.size ∧ w.heap.size < w'.heap.size := by
  have hs : ((w.alloc (.cells c1 t1)).alloc (.cells c2 t2)).heap.size = w.heap.size + 2 := by simp
  refine ⟨fun i => ?_, fun i => ?_, (((Below.refl _ _).alloc (Nat.le_refl _) _).alloc (by simp) _).trans (hb.mono (by rw [hs]; omega)), by have := hb.size; omega, by have := hb.size; omega⟩
  · rw [hb.cell (p := ⟨w.heap.size, i, none⟩) (by rw [hs]; show w.heap.size < _; omega)]
    rw [World.cell?_alloc_lt _ _ _ (by simp)]
    exact World.cell?_alloc_mark w c1 t1 (0, 0) i
  · rw [hb.cell (p := ⟨w.heap.size + 1, i, none⟩) (by rw [hs]; show w.heap.size + 1 < _; omega)]
    simp
theorem after {a w1 w2 w3 : World} (h : Below a.heap.size a w1) (h2 : Below a.heap.size w1 w2) (h3 : Below w2.heap.size w2 w3) : Below a.heap.size a w3 :=
  h.trans (h2.trans (h3.mono (Nat.le_trans h.size h2.size)))
/-- two structs of three cells stored, the world under a name -/
theorem put33 {w : World} {g h : Nat} (hne : g ≠ h) {u0 u1 u2 v0 v1 v2 : Value} (c0 : w.cell? ⟨g, 0, none⟩ = some u0) (c1 : w.cell? ⟨g, 1, none⟩ = some u1) (c2 : w.cell? ⟨g, 2, none⟩ = some u2)
    (d0 : w.cell? ⟨h, 0, none⟩ = some v0) (d1 : w.cell? ⟨h, 1, none⟩ = some v1) (d2 : w.cell? ⟨h, 2, none⟩ = some v2) (x0 x1 x2 y0 y1 y2 : Value) :
    ∃ W, ((((((w.setCell ⟨g, 0, none⟩ x0).setCell ⟨g, 1, none⟩ x1).setCell ⟨g, 2, none⟩ x2).setCell ⟨h, 0, none⟩ y0).setCell ⟨h, 1, none⟩ y1).setCell ⟨h, 2, none⟩ y2) = W ∧
      W.cell? ⟨g, 0, none⟩ = some x0 ∧ W.cell? ⟨g, 1, none⟩ = some x1 ∧ W.cell? ⟨g, 2, none⟩ = some x2 ∧ W.cell? ⟨h, 0, none⟩ = some y0 ∧ W.cell? ⟨h, 1, none⟩ = some y1 ∧ W.cell? ⟨h, 2, none⟩ = some y2 ∧
      W.heap.size = w.heap.size ∧ ∀ B, B ≤ g → B ≤ h → Below B w W := by
  refine ⟨_, rfl, ?_, ?_, ?_, ?_, ?_, ?_, by simp, fun B h1 h2 => ((((((Below.refl _ _).setCell h1 _).setCell h1 _).setCell h1 _).setCell h2 _).setCell h2 _).setCell h2 _⟩ <;>
    simp [go_sem, c0, c1, c2, d0, d1, d2]
/-- one boxed parameter, behind a call -/
theorem boxes1 {w w' : World} {c1 : Array Value} {t1 : TypeId} (hb : Below (w.alloc (.cells c1 t1)).heap.size (w.alloc (.cells c1 t1)) w') :
    (∀ i, w'.cell? ⟨w.heap.size, i, none⟩ = c1[i]?) ∧ Below w.heap.size w w' ∧ w.heap.size < w'.heap.size := by
  have hs : (w.alloc (.cells c1 t1)).heap.size = w.heap.size + 1 := by simp
  refine ⟨fun i => ?_, ((Below.refl _ _).alloc (Nat.le_refl _) _).trans (hb.mono (by rw [hs]; omega)), by have := hb.size; omega⟩
  rw [hb.cell (p := ⟨w.heap.size, i, none⟩) (by rw [hs]; show w.heap.size < _; omega)]
  exact World.cell?_alloc_mark w c1 t1 (0, 0) i

/-! ### Bytes of a call's own -/
theorem byte_info : (Try.prog.info? 5).map (fun i => (i.zero, i.size, i.bytes)) = some (some (.int .u8 0), 1, 1) := by kernel_rfl
/-- a slice of the call's own that reads as these bytes -/
def Own (w : World) (base : Nat) (v : Value) (l : List (BitVec 8)) : Prop := w.ownsRow base 5 1 v l.length (l.map fun c => Value.int .u8 (v8 c))
section
variable {w w' : World} {base : Nat} {v : Value} {l : List (BitVec 8)}
theorem Own.form (h : Own w base v l) : ∃ A cap, v = .slice A l.length cap ∧ Bytes w w.heap.size A l ∧ l.length ≤ cap ∧ cap ≤ maxLen ∧ (A = none → l.length = 0 ∧ cap = 0) := by
  rcases h.2 with ⟨rfl, h0⟩ | ⟨g, cap, cur, rfl, hb, hg, hle, hmax, hcs, htake⟩
  · exact ⟨none, 0, by rw [h0], fun hn => absurd hn (by omega), by omega, by unfold maxLen; omega, fun _ => ⟨h0, rfl⟩⟩
  · refine ⟨_, cap, rfl, fun hn => ⟨g, 0, rfl, ?_, fun i hi => ?_⟩, hle, hmax, fun h => by cases h⟩
    · exact (Array.getElem?_eq_some_iff.1 hg).1
    · have hc := World.ownsRow.cells (g := g) h rfl i (.int .u8 (v8 (l.getD i 0))) (by
        rw [List.getElem?_map, List.getElem?_eq_getElem hi]; simp [List.getD_eq_getElem?_getD, hi])
      have e : (Addr.add ⟨g, 0, none⟩ i) = ⟨g, 0 + i, none⟩ := by
        unfold Addr.add; by_cases h : i = 0 <;> simp [h]
      rw [e] at hc
      exact hc
theorem Own.below (h : Own w base v l) {row : Option Nat} (hg : w.grownBy w' row) (hne : v.ownBlock = none ∨ v.ownBlock ≠ row) : Own w' base v l := World.ownsRow.kept h hg hne
end

theorem append_bytes (w : World) (base ty : Nat) (v : Value) (l : List (BitVec 8)) (hown : Own w base v l) (B : Nat) (A : Option Addr) (cap : Nat) (k : List (BitVec 8))
    (hk : Bytes w B A k) (hnil : A = none → k.length = 0 ∧ cap = 0) (hlen : l.length + k.length ≤ 20000) (hbase : base ≤ w.heap.size) :
    ∃ v' w', (Builtin.append_ #[28, 28] ty #[v, .slice A k.length cap]).run Try.prog w = .ok v' w' ∧ Own w' base v' (l ++ k) ∧ w.grownBy w' v.ownBlock ∧
      (v'.ownBlock = v.ownBlock ∨ v'.ownBlock = some w.heap.size) := by
  obtain ⟨i0, hi0, hz0, hz1, hz2⟩ := info_parts byte_info
  cases A with
  | none =>
    have ⟨h1, h2⟩ := hnil rfl
    have hk0 : k = [] := List.eq_nil_of_length_eq_zero h1
    subst hk0 h2
    exact ⟨v, w, run_append_owned_none (P := Try.prog) (w := w) base 28 ty 5 i0 1 Try.underlying28 hi0 v _ _ hown, by simpa using hown, World.grownBy.refl w _, .inl rfl⟩
  | some ad =>
    have hcells : ∀ j u, (k.map fun c => Value.int .u8 (v8 c))[j]? = some u → w.cell? (ad.add j) = some u := by
      intro j u hu
      have hj : j < k.length := by
        rcases Nat.lt_or_ge j k.length with h | h
        · exact h
        · rw [List.getElem?_map, List.getElem?_eq_none h] at hu; cases hu
      obtain ⟨b, off, e, hb, hc⟩ := hk (by omega)
      injection e with e
      subst e
      have e1 : (Addr.add ⟨b, off, none⟩ j) = ⟨b, off + j, none⟩ := by
        unfold Addr.add; by_cases h : j = 0 <;> simp [h]
      rw [e1, hc j hj, ← hu, List.getElem?_map, List.getElem?_eq_getElem hj]
      simp [List.getD_eq_getElem?_getD, hj]
    obtain ⟨v', w', hrun, h2, h3, _, h5⟩ := run_append_own_at (P := Try.prog) w base 28 ty 5 i0 (.int .u8 0) 1 1 Try.underlying28 hi0 hz0 hz1 hz2 rfl (by omega) v l.length _ hown ad k.length cap _
      (by simp) hcells (by intro u hu; simp at hu; obtain ⟨c, _, rfl⟩ := hu; rfl) (by unfold maxLen; omega) (by omega) hbase
    refine ⟨v', w', hrun, ?_, h3, h5⟩
    unfold Own
    rw [List.map_append, List.length_append]
    exact h2
theorem wpList_append_bytes (w : World) {ops : Array Oper} {rest : List Oper} {o : Oper} {a : Act} {Q : Exit → Act → World → Prop} (hgd : o.guard = none) (s x : Operand)
    (ho : o.op = .call { callee := .builtin .append, args := #[s, x], argTypes := #[28, 28] })
    (base : Nat) (v : Value) (l : List (BitVec 8)) (hs : a.eval s = v) (hown : Own w base v l) (B : Nat) (A : Option Addr) (n cap : Nat) (k : List (BitVec 8)) (hn : k.length = n) (hx : a.eval x = .slice A n cap)
    (hk : Bytes w B A k) (hnil : A = none → k.length = 0 ∧ cap = 0) (hlen : l.length + k.length ≤ 20000) (hbase : base ≤ w.heap.size)
    (h : ∀ v' w', Own w' base v' (l ++ k) → w.grownBy w' v.ownBlock → (v'.ownBlock = v.ownBlock ∨ v'.ownBlock = some w.heap.size) → wpList Try.prog ops Q rest (a.put o.dst v') w') :
    wpList Try.prog ops Q (o :: rest) a w := by
  subst hn
  refine wpList_plain hgd fun K hK => ?_
  obtain ⟨v', w', hr, h2, h3, h4⟩ := append_bytes w base o.type v l hown B A cap k hk hnil hlen hbase
  unfold Oper.wp execOp
  simp only [ho, resolve, invoke, builtin, Sem.run_bind, Sem.run_pure, Result.andThen_ok, List.map_toArray, List.map_cons, List.map_nil, hs, hx, hr]
  exact hK _ _ (h v' w' h2 h3 h4)
theorem step_append_bytes (w : World) {ops : Array Oper} {o : Oper} {a : Act} {K : Act → World → Prop} {Q : Exit → Act → World → Prop} {E : Prop} (hgd : o.guard = none) (s x : Operand)
    (ho : o.op = .call { callee := .builtin .append, args := #[s, x], argTypes := #[28, 28] })
    (base : Nat) (v : Value) (l : List (BitVec 8)) (hs : a.eval s = v) (hown : Own w base v l) (B : Nat) (A : Option Addr) (n cap : Nat) (k : List (BitVec 8)) (hn : k.length = n) (hx : a.eval x = .slice A n cap)
    (hk : Bytes w B A k) (hnil : A = none → k.length = 0 ∧ cap = 0) (hlen : l.length + k.length ≤ 20000) (hbase : base ≤ w.heap.size)
    (h : ∀ v' w', Own w' base v' (l ++ k) → w.grownBy w' v.ownBlock → (v'.ownBlock = v.ownBlock ∨ v'.ownBlock = some w.heap.size) → K (a.put o.dst v') w') :
    if Region.wanted o (yielded ops a.tmps) = true then Oper.wp Try.prog o a w K Q else E := by
  subst hn
  have hw : Region.wanted o (yielded ops a.tmps) = true := by simp [Region.wanted, hgd]
  rw [if_pos hw]
  obtain ⟨v', w', hr, h2, h3, h4⟩ := append_bytes w base o.type v l hown B A cap k hk hnil hlen hbase
  unfold Oper.wp execOp
  simp only [ho, resolve, invoke, builtin, Sem.run_bind, Sem.run_pure, Result.andThen_ok, List.map_toArray, List.map_cons, List.map_nil, hs, hx, hr]
  exact h v' w' h2 h3 h4
theorem Own.lays {a w w' : World} {B base : Nat} {v : Value} {l : List (BitVec 8)} (hO : Own w base v l) (h : Below B a w) (hB : B ≤ base) (hz : B ≤ a.heap.size) (hg : w.grownBy w' v.ownBlock) : Below B a w' :=
  h.grown hg (Nat.le_trans hz h.size) fun b hb => Nat.le_trans hB (hO.lt b hb).1
theorem Own.stay {w w' : World} {base : Nat} {v : Value} {l : List (BitVec 8)} (hO : Own w base v l) (hb : Below w.heap.size w w') : Own w' base v l :=
  hO.below (row := .none) ⟨hb.os, hb.tape, hb.output, hb.size, fun k hk _ => hb.block k hk⟩ (by cases v.ownBlock <;> simp)
theorem Own.made {w : World} (cur : Array Value) (l : List (BitVec 8)) (hc : cur = (l.map fun c => Value.int .u8 (v8 c)).toArray) (hl : l.length ≤ 10000) {base : Nat} (hb : base ≤ w.heap.size) :
    Own (w.alloc (.cells cur 5)) base (.slice (some ⟨w.heap.size, 0, none⟩) l.length l.length) l := by
  subst hc
  exact ⟨by simp, .inr ⟨w.heap.size, l.length, _, rfl, hb, heap_alloc_new w _, Nat.le_refl _, by unfold maxLen; omega, by simp, by simp [List.take_of_length_le]⟩⟩
theorem Own.new {w : World} {base : Nat} {v : Value} {l : List (BitVec 8)} (hO : Own w base v l) (o : Obj) : Own (w.alloc o) base v l :=
  World.ownsRow.alloc hO o
/-- a byte in a new block -/
theorem one_bytes (w : World) (e : TypeId) (x : BitVec 8) : Bytes (w.alloc (.cells #[Value.int .u8 (v8 x)] e)) (w.heap.size + 1) (some ⟨w.heap.size, 0, none⟩) [x] := fun _ => by
  refine ⟨_, 0, rfl, by omega, fun i hi => ?_⟩
  rw [World.cell?_alloc_mark, Nat.zero_add]
  have : i = 0 := by simp at hi; omega
  subst this; rfl
/-- two bytes in a new block -/
theorem pair_bytes (w : World) (e : TypeId) (x y : BitVec 8) : Bytes (w.alloc (.cells #[Value.int .u8 (v8 x), Value.int .u8 (v8 y)] e)) (w.heap.size + 1) (some ⟨w.heap.size, 0, none⟩) [x, y] := fun _ => by
  refine ⟨_, 0, rfl, by omega, fun i hi => ?_⟩
  rw [World.cell?_alloc_mark, Nat.zero_add]
  have : i = 0 ∨ i = 1 := by simp at hi; omega
  rcases this with rfl | rfl <;> rfl
end Go.Proofs.Ytdfgjfojneoljaa.s
