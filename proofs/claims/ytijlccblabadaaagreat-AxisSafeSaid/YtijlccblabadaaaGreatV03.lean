/- Plain facts on windows of places: a setpoint is a sum of the last places; how it moves, how that changes, and how that changes in turn. No condition beyond what each line says. A window of places as it lies in memory, and what a program says of one; servitorlaw10's place, right and same. No condition but what each line says. What is said of a window: pushed, moved, summed; and the worlds in which windows of a call's own lie. No condition but what each line says. A window's row as smooth's contracts and as the axis' words have it; where rows lie. No condition beyond what each line says. Integers of a call's own: appended to, read. No condition but their number. Rows of integers that a call makes and writes, beside variables of its own. No condition but what each line says. Three rows of a call's own beside one that came in: what stays where two of them are written. No condition but what each line says. What smooth's small functions answer: within, isPlace, Right, Out, the least and the greatest of a slice, mayShift; what was in memory is as it was. No condition beyond what each line says. What slices.Clone, smooth's again, Rest, Push and Shift answer: windows in memory of their own; what was in memory is as it was. No condition beyond what each line says (Clone: at most 100 integers). What smooth's Rest answers; what was in memory is as it was. No condition beyond what each line says. The builtin copy into a row of a call's own. No condition but what each line says. What smooth's Push answers: a window in memory of its own; what was in memory is as it was. The window has at most 100 places. What smooth's Shift answers: a window in memory of its own; what was in memory is as it was. The window has at most 100 places. What slices.Repeat of one integer and smooth's New answer; what was in memory is as it was. No condition beyond what each line says. What smooth's New answers: a window in memory of its own, or none; and all of smooth's words. No condition beyond what each line says. -/
import Derived.Test.YtijlccblabadaaaGreatU01
import Derived.Test.YtijlccblabadaaaGreatU02
import Derived.Test.YtijlccblabadaaaGreatV04
import Derived.Maps.AppendAt
import Derived.Deep.AppendLies
import Derived.OwnWalk
import Derived.Laws.OwnMore
import Derived.Laws.CopyRow
import Derived.Laws.IdiomCopy
import Derived.Laws.CopyOwn
import Derived.Laws.MakeOwn
section
namespace Go.Proofs.YtijlccblabadaaaGreat.mm
set_option maxRecDepth 100000
open Go.ChangeShapes Go.WideShapes Go.ChangeAt Go.RowKit Go.Proofs.YtijlccblabadaaaGreat.k
set_option linter.unusedVariables false
def sm (f : Nat → Int) : Nat → Int
 | 0 => 0
 | m + 1 => sm f m + f m
def out (p : Nat → Int) (m i : Nat) : Int := sm (fun k => p (i - k)) m
def df (p : Nat → Int) (i : Nat) : Int := p i - p (i - 1)
def gn (p : Nat → Int) (i : Nat) : Int := df p i - df p (i - 1)
def win (p : Nat → Int) (m i : Nat) : List Int := (List.range m).map fun k => p (i - k)
end Go.Proofs.YtijlccblabadaaaGreat.mm
end
section
namespace Go.Proofs.YtijlccblabadaaaGreat.mm
set_option maxRecDepth 100000
open Go.ChangeShapes Go.WideShapes Go.ChangeAt Go.RowKit Go.Proofs.YtijlccblabadaaaGreat.k
set_option linter.unusedVariables false
def inP (n : Int) : Prop := -2199023255552 ≤ n ∧ n ≤ 2199023255552
instance (n : Int) : Decidable (inP n) := by unfold inP; infer_instance
def placeB (n : Int) : Bool := decide (inP n)
theorem placeB_yes {n : Int} (h : inP n) : placeB n = true := decide_eq_true h
theorem placeB_no {n : Int} (h : ¬ inP n) : placeB n = false := decide_eq_false h
def RightW (L : List Int) : Prop := 1 ≤ L.length ∧ L.length ≤ 16 ∧ ∀ x ∈ L, inP x
instance (L : List Int) : Decidable (RightW L) := by unfold RightW; infer_instance
def rightB (L : List Int) : Bool := decide (RightW L)
theorem rightB_yes {L : List Int} (h : RightW L) : rightB L = true := decide_eq_true h
theorem rightB_no {L : List Int} (h : ¬ RightW L) : rightB L = false := decide_eq_false h
theorem getD_mem {L : List Int} {i : Nat} (h : i < L.length) : L.getD i 0 ∈ L := by
 rw [List.getD_eq_getElem?_getD, List.getElem?_eq_getElem h]
 exact List.getElem_mem h
theorem all_getD {L : List Int} {P : Int → Prop} (h : ∀ i, i < L.length → P (L.getD i 0)) : ∀ x ∈ L, P x := by
 intro x hx
 obtain ⟨i, hi, rfl⟩ := List.getElem_of_mem hx
 have := h i hi
 rwa [List.getD_eq_getElem?_getD, List.getElem?_eq_getElem hi] at this
theorem RightW.at {L : List Int} (h : RightW L) {i : Nat} (hi : i < L.length) : inP (L.getD i 0) := h.2.2 _ (getD_mem hi)
def sameB (L K : List Int) : Bool := decide (L = K)
theorem take_snoc (l : List Int) (n : Nat) (h : n < l.length) : l.take (n + 1) = l.take n ++ [l.getD n 0] := by
 rw [List.take_succ_eq_append_getElem h, List.getD_eq_getElem?_getD, List.getElem?_eq_getElem h]; rfl
def Win (w : World) (B : Nat) (A : Option Addr) (len cap : Nat) (L : List Int) : Prop :=
 L.length = len ∧ len ≤ cap ∧ cap ≤ maxLen ∧ (A = none → cap = 0) ∧ (0 < len → ∃ b off, A = some ⟨b, off, none⟩ ∧ b < B ∧ ∀ i, i < len → w.cell? ⟨b, off + i, none⟩ = some (.int .i64 (L.getD i 0)))
section
variable {w w' : World} {B : Nat} {A : Option Addr} {len cap : Nat} {L : List Int}
theorem Win.below (h : Win w B A len cap L) (hb : Below B w w') : Win w' B A len cap L :=
 ⟨h.1, h.2.1, h.2.2.1, h.2.2.2.1, fun hn => by
  obtain ⟨b, off, e, hB, hc⟩ := h.2.2.2.2 hn
  exact ⟨b, off, e, hB, fun i hi => (hb.cell (p := ⟨b, off + i, none⟩) hB).trans (hc i hi)⟩⟩
theorem Win.more {B' : Nat} (h : Win w B A len cap L) (hB : B ≤ B') : Win w B' A len cap L :=
 ⟨h.1, h.2.1, h.2.2.1, h.2.2.2.1, fun hn => by
  obtain ⟨b, off, e, hb, hc⟩ := h.2.2.2.2 hn
  exact ⟨b, off, e, by omega, hc⟩⟩
theorem Win.len_le (h : Win w B A len cap L) : (len : Int) ≤ 9223372036854775807 := by
 have h1 := h.2.1
 have h2 := h.2.2.1
 unfold maxLen at h2
 omega
theorem Win.at (h : Win w B A len cap L) {i : Nat} (hi : i < len) : ∃ b off, A = some ⟨b, off, none⟩ ∧ b < B ∧ w.cell? ⟨b, off + i, none⟩ = some (.int .i64 (L.getD i 0)) := by
 obtain ⟨b, off, e, hb, hc⟩ := h.2.2.2.2 (by omega)
 exact ⟨b, off, e, hb, hc i hi⟩
theorem Win.none_ (w : World) (B : Nat) : Win w B none 0 0 [] := ⟨rfl, Nat.le_refl _, by unfold maxLen; omega, fun _ => rfl, fun h => absurd h (by omega)⟩
end
def GotW (w : World) (L : List Int) (e : Ending) (w' : World) : Prop := ∃ A len cap, e = .returned (.agg #[.slice A len cap]) ∧ Win w' w'.heap.size A len cap L ∧ Below w.heap.size w w'
end Go.Proofs.YtijlccblabadaaaGreat.mm
end
section
namespace Go.Proofs.YtijlccblabadaaaGreat.mm
set_option maxRecDepth 100000
open Go.ChangeShapes Go.WideShapes Go.ChangeAt Go.RowKit Go.Proofs.YtijlccblabadaaaGreat.k
set_option linter.unusedVariables false
def pushW (L : List Int) (p : Int) : List Int := if RightW L ∧ inP p then p :: L.take (L.length - 1) else L
def outW (L : List Int) : Int := if RightW L then L.sum else 0
def restB (L : List Int) : Bool := decide (RightW L ∧ ∀ x ∈ L, x = L.getD 0 0)
def shiftW (L : List Int) (d : Int) : List Int := if RightW L ∧ ∀ x ∈ L, inP (x + d) then L.map (· + d) else L
theorem pushW_yes {L : List Int} {p : Int} (h : RightW L) (hp : inP p) : pushW L p = p :: L.take (L.length - 1) := if_pos ⟨h, hp⟩
theorem pushW_no {L : List Int} {p : Int} (h : ¬ (RightW L ∧ inP p)) : pushW L p = L := if_neg h
theorem outW_yes {L : List Int} (h : RightW L) : outW L = L.sum := if_pos h
theorem outW_no {L : List Int} (h : ¬ RightW L) : outW L = 0 := if_neg h
theorem push_len {L : List Int} {p : Int} (h : RightW L) : (p :: L.take (L.length - 1)).length = L.length := by
 have := h.1
 rw [List.length_cons, List.length_take]; omega
def NewW (w : World) (L : List Int) (err : Int) (e : Ending) (w' : World) : Prop := ∃ A len cap, e = .returned (.tuple #[.agg #[.slice A len cap], .int .i64 err]) ∧ Win w' w'.heap.size A len cap L ∧ Below w.heap.size w w'
def From (w : World) (A0 A : Option Addr) : Prop := ∀ b off s, A = some ⟨b, off, s⟩ → (∃ off0 s0, A0 = some ⟨b, off0, s0⟩) ∨ w.heap.size ≤ b
def GotF (w : World) (A0 : Option Addr) (L : List Int) (e : Ending) (w' : World) : Prop := ∃ A len cap, e = .returned (.agg #[.slice A len cap]) ∧ (Win w' w'.heap.size A len cap L ∧ From w A0 A) ∧ Below w.heap.size w w'
def NewF (w : World) (L : List Int) (err : Int) (e : Ending) (w' : World) : Prop := ∃ A len cap, e = .returned (.tuple #[.agg #[.slice A len cap], .int .i64 err]) ∧ (Win w' w'.heap.size A len cap L ∧ From w none A) ∧ Below w.heap.size w w'
def Var (w : World) (g : Nat) (v : Value) : Prop := ∃ t : TypeId, w.heap[g]? = some (.cells #[v] t (0, 0))
section
variable {w w' : World} {g : Nat} {v : Value}
theorem Var.lt (h : Var w g v) : g < w.heap.size := by
 obtain ⟨t, h⟩ := h
 rcases Nat.lt_or_ge g w.heap.size with hlt | hge
 ·exact hlt
 ·rw [Array.getElem?_eq_none hge] at h; cases h
theorem Var.cell (h : Var w g v) : w.cell? ⟨g, 0, none⟩ = some v := by
 obtain ⟨t, h⟩ := h
 simp [World.cell?, h]
theorem Var.far (h : Var w g v) (i : Nat) : w.cell? ⟨g, i + 1, none⟩ = none := by
 obtain ⟨t, h⟩ := h
 simp [World.cell?, h]
theorem Var.frozen (h : Var w g v) (i : Nat) : w.frozen? ⟨g, i, none⟩ = false := by
 obtain ⟨t, h⟩ := h
 simp [World.frozen?, h]
end
theorem Win.drew {w : World} {B : Nat} {A : Option Addr} {len cap : Nat} {L : List Int} (h : Win w B A len cap L) : Win w.drew B A len cap L := h
theorem Win.ne {w : World} {B : Nat} {A : Option Addr} {len cap : Nat} {L : List Int} (h : Win w B A len cap L) {g : Nat} {a : Option Addr} {l c : Nat} (hv : Var w g (.slice a l c)) (hn : 0 < len) :
  ∃ b off, A = some ⟨b, off, none⟩ ∧ b < B ∧ b ≠ g ∧ ∀ i, i < len → w.cell? ⟨b, off + i, none⟩ = some (.int .i64 (L.getD i 0)) := by
 obtain ⟨b, off, e, hB, hc⟩ := h.2.2.2.2 hn
 refine ⟨b, off, e, hB, ?_, hc⟩
 rintro rfl
 have h0 := hc 0 hn
 cases off with
 | zero => rw [show 0 + 0 = 0 from rfl, hv.cell] at h0; cases h0
 | succ n => rw [show n + 1 + 0 = n + 1 from rfl, hv.far] at h0; cases h0
theorem Win.aside {w : World} {B : Nat} {A : Option Addr} {len cap : Nat} {L : List Int} (h : Win w B A len cap L) {g : Nat} {a : Option Addr} {l c : Nat} (hv : Var w g (.slice a l c)) (x : Value) : Win (w.setCell ⟨g, 0, none⟩ x) B A len cap L :=
 ⟨h.1, h.2.1, h.2.2.1, h.2.2.2.1, fun hn => by
  obtain ⟨b, off, e, hB, hne, hc⟩ := h.ne hv hn
  exact ⟨b, off, e, hB, fun i hi => (World.cell?_setCell_far w ⟨g, 0, none⟩ ⟨b, off + i, none⟩ x (Ne.symm hne)).trans (hc i hi)⟩⟩
end Go.Proofs.YtijlccblabadaaaGreat.mm
end
section
namespace Go.Proofs.YtijlccblabadaaaGreat.ax
set_option maxRecDepth 100000
open Go.ChangeShapes Go.WideShapes Go.ChangeAt Go.RowKit Go.Proofs.YtijlccblabadaaaGreat.k Go.Proofs.YtijlccblabadaaaGreat.rr
open Go.Proofs.YtijlccblabadaaaGreat.ln (C RdC RdI iC iC_len New)
set_option linter.unusedVariables false
theorem win_of {w : World} {B : Nat} {A : Option Addr} {n c : Nat} {L : List Int} (h : RdI w B A n c L) : mm.Win w B A n c L :=
 ⟨h.1, h.2.1, h.2.2.1, h.2.2.2.1, fun hn => by
  obtain ⟨b, off, e, hB, hc⟩ := h.2.2.2.2 hn
  refine ⟨b, off, e, hB, fun i hi => ?_⟩
  have hl : i < L.length := by rw [h.1]; exact hi
  have h1 := hc i L[i] (List.getElem?_eq_getElem hl) 0 (.int .i64 L[i]) rfl
  rw [Nat.mul_one, Nat.add_zero] at h1
  rw [h1, List.getD_eq_getElem?_getD, List.getElem?_eq_getElem hl]
  rfl⟩
theorem of_win {w : World} {B : Nat} {A : Option Addr} {n c : Nat} {L : List Int} (h : mm.Win w B A n c L) : RdI w B A n c L :=
 ⟨h.1, h.2.1, h.2.2.1, h.2.2.2.1, fun hn => by
  obtain ⟨b, off, e, hB, hc⟩ := h.2.2.2.2 hn
  refine ⟨b, off, e, hB, fun i x hx j v hv => ?_⟩
  have hi := (List.getElem?_eq_some_iff.1 hx).1
  have hj : j < 1 := by have := (List.getElem?_eq_some_iff.1 hv).1; rwa [iC_len] at this
  obtain rfl : j = 0 := by omega
  simp only [iC, List.getElem?_cons_zero, Option.some.injEq] at hv
  subst hv
  have h1 := hc i (by rw [← h.1]; exact hi)
  rw [List.getD_eq_getElem?_getD, hx] at h1
  rw [Nat.mul_one, Nat.add_zero]
  exact h1⟩
theorem off_from {w : World} {g : Nat} {A0 A : Option Addr} {n0 c0 n c : Nat} (h : mm.From w A0 A) (hn : 0 < n0) (ho : Off g ⟨A0, n0, c0⟩) (hg : g < w.heap.size) : Off g ⟨A, n, c⟩ := fun _ b o x e hb => by
 rcases h b o x e with ⟨o0, s0, e0⟩ | h1
 ·exact ho hn b o0 s0 e0 hb
 ·omega
theorem off_new {w : World} {g : Nat} {A : Option Addr} {n c : Nat} (h : New w A) (hg : g < w.heap.size) : Off g ⟨A, n, c⟩ := fun _ b o x e hb => by
 have := h b o x e
 omega
theorem New.past {w w' : World} {A : Option Addr} (h : New w' A) (hb : Below w.heap.size w w') : New w A := fun b o x e => Nat.le_trans hb.size (h b o x e)
end Go.Proofs.YtijlccblabadaaaGreat.ax
end
section
namespace Go.Proofs.YtijlccblabadaaaGreat.mm
set_option maxRecDepth 100000
open Go.ChangeShapes Go.WideShapes Go.ChangeAt Go.RowKit Go.Proofs.YtijlccblabadaaaGreat.k
set_option linter.unusedVariables false
theorem int_info : (Tryz.prog.info? 2).map (fun i => (i.zero, i.size, i.bytes)) = some (some (.int .i64 0), 1, 8) := by kernel_rfl
def OwnI (w : World) (base : Nat) (v : Value) (l : List Int) : Prop := w.ownsRow base 2 1 v l.length (l.map fun c => Value.int .i64 c)
section
variable {w w' : World} {base : Nat} {v : Value} {l : List Int}
theorem OwnI.form (h : OwnI w base v l) : ∃ A cap, v = .slice A l.length cap ∧ Win w w.heap.size A l.length cap l := by
 rcases h.2 with ⟨rfl, h0⟩ | ⟨g, cap, cur, rfl, hb, hg, hle, hmax, hcs, htake⟩
 ·exact ⟨none, 0, by rw [h0], rfl, by omega, by unfold maxLen; omega, fun _ => rfl, fun hn => absurd hn (by omega)⟩
 ·refine ⟨_, cap, rfl, rfl, hle, hmax, (fun h => by cases h), fun hn => ⟨g, 0, rfl, (Array.getElem?_eq_some_iff.1 hg).1, fun i hi => ?_⟩⟩
  have hc := World.ownsRow.cells (g := g) h rfl i (.int .i64 (l.getD i 0)) (by
   rw [List.getElem?_map, List.getElem?_eq_getElem hi]; simp [List.getD_eq_getElem?_getD, hi])
  have e : (Addr.add ⟨g, 0, none⟩ i) = ⟨g, 0 + i, none⟩ := by
   unfold Addr.add; by_cases h : i = 0 <;> simp [h]
  rw [e] at hc
  exact hc
theorem OwnI.lays {a : World} {B : Nat} (hO : OwnI w base v l) (h : Below B a w) (hB : B ≤ base) (hz : B ≤ a.heap.size) (hg : w.grownBy w' v.ownBlock) : Below B a w' :=
 h.grown hg (Nat.le_trans hz h.size) fun b hb => Nat.le_trans hB (hO.lt b hb).1
theorem OwnI.empty (w : World) : OwnI (w.alloc (.cells #[] 2)) w.heap.size (.slice (some ⟨w.heap.size, 0, none⟩) 0 0) [] :=
 World.ownsRow_made w #[] 0 (Nat.le_refl _) (by unfold maxLen; omega) rfl
end
theorem append_ints (w : World) (base ty : Nat) (v : Value) (l : List Int) (hown : OwnI w base v l) (B : Nat) (A : Option Addr) (n cap : Nat) (k : List Int)
  (hk : Win w B A n cap k) (hlen : l.length + k.length ≤ 20000) (hbase : base ≤ w.heap.size) :
  ∃ v' w', (Builtin.append_ #[26, 26] ty #[v, .slice A n cap]).run Tryz.prog w = .ok v' w' ∧ OwnI w' base v' (l ++ k) ∧ w.grownBy w' v.ownBlock ∧
   (v'.ownBlock = v.ownBlock ∨ v'.ownBlock = some w.heap.size) := by
 obtain ⟨i0, hi0, hz0, hz1, hz2⟩ := info_parts int_info
 have hkl := hk.1
 subst hkl
 cases A with
 | none =>
  have h2 := hk.2.2.2.1 rfl
  have h1 : k.length = 0 := by have := hk.2.1; omega
  have hk0 : k = [] := List.eq_nil_of_length_eq_zero h1
  subst hk0 h2
  exact ⟨v, w, run_append_owned_none (P := Tryz.prog) (w := w) base 26 ty 2 i0 1 Tryz.underlying26 hi0 v _ _ hown, by simpa using hown, World.grownBy.refl w _, .inl rfl⟩
 | some ad =>
  have hcells : ∀ j u, (k.map fun c => Value.int .i64 c)[j]? = some u → w.cell? (ad.add j) = some u := by
   intro j u hu
   have hj : j < k.length := by
    rcases Nat.lt_or_ge j k.length with h | h
    ·exact h
    ·rw [List.getElem?_map, List.getElem?_eq_none h] at hu; cases hu
   obtain ⟨b, off, e, hb, hc⟩ := hk.2.2.2.2 (by omega)
   injection e with e
   subst e
   have e1 : (Addr.add ⟨b, off, none⟩ j) = ⟨b, off + j, none⟩ := by
    unfold Addr.add; by_cases h : j = 0 <;> simp [h]
   rw [e1, hc j hj, ← hu, List.getElem?_map, List.getElem?_eq_getElem hj]
   simp [List.getD_eq_getElem?_getD, hj]
  obtain ⟨v', w', hrun, h2, h3, _, h5⟩ := run_append_own_at (P := Tryz.prog) w base 26 ty 2 i0 (.int .i64 0) 1 8 Tryz.underlying26 hi0 hz0 hz1 hz2 rfl (by omega) v l.length _ hown ad k.length cap _
   (by simp) hcells (by intro u hu; simp at hu; obtain ⟨c, _, rfl⟩ := hu; rfl) (by unfold maxLen; omega) (by omega) hbase
  refine ⟨v', w', hrun, ?_, h3, h5⟩
  unfold OwnI
  rw [List.map_append, List.length_append]
  exact h2
theorem wpList_append_ints (w : World) {ops : Array Oper} {rest : List Oper} {o : Oper} {a : Act} {Q : Exit → Act → World → Prop} (hgd : o.guard = none) (s x : Operand)
  (ho : o.op = .call { callee := .builtin .append, args := #[s, x], argTypes := #[26, 26] })
  (base : Nat) (v : Value) (l : List Int) (hs : a.eval s = v) (hown : OwnI w base v l) (B : Nat) (A : Option Addr) (n cap : Nat) (k : List Int) (hx : a.eval x = .slice A n cap)
  (hk : Win w B A n cap k) (hlen : l.length + k.length ≤ 20000) (hbase : base ≤ w.heap.size)
  (h : ∀ v' w', OwnI w' base v' (l ++ k) → w.grownBy w' v.ownBlock → (v'.ownBlock = v.ownBlock ∨ v'.ownBlock = some w.heap.size) → wpList Tryz.prog ops Q rest (a.put o.dst v') w') :
  wpList Tryz.prog ops Q (o :: rest) a w := by
 refine wpList_plain hgd fun K hK => ?_
 obtain ⟨v', w', hr, h2, h3, h4⟩ := append_ints w base o.type v l hown B A n cap k hk hlen hbase
 unfold Oper.wp execOp
 simp only [ho, resolve, invoke, builtin, Sem.run_bind, Sem.run_pure, Result.andThen_ok, List.map_toArray, List.map_cons, List.map_nil, hs, hx, hr]
 exact hK _ _ (h v' w' h2 h3 h4)
theorem one_int (w : World) (e : TypeId) (x : Int) : Win (w.alloc (.cells #[Value.int .i64 x] e)) (w.heap.size + 1) (some ⟨w.heap.size, 0, none⟩) 1 1 [x] :=
 ⟨rfl, Nat.le_refl _, by unfold maxLen; omega, (fun h => by cases h), fun _ => ⟨_, 0, rfl, by omega, fun i hi => by
  have : i = 0 := by omega
  subst this
  rw [World.cell?_alloc_mark]
  rfl⟩⟩
end Go.Proofs.YtijlccblabadaaaGreat.mm
end
section
namespace Go.Proofs.YtijlccblabadaaaGreat.mm
set_option maxRecDepth 100000
open Go.ChangeShapes Go.WideShapes Go.ChangeAt Go.RowKit Go.Proofs.YtijlccblabadaaaGreat.k
set_option linter.unusedVariables false
def VarS (w : World) (g : Nat) (v : Value) : Prop := w.heap[g]? = some (.cells #[v] 28 (0, 0))
section
variable {w w' : World} {g : Nat} {v : Value}
theorem VarS.var (h : VarS w g v) : Var w g v := ⟨_, h⟩
theorem VarS.lt (h : VarS w g v) : g < w.heap.size := h.var.lt
theorem VarS.below {B : Nat} (h : VarS w g v) (hb : Below B w w') (hg : g < B) : VarS w' g v := (hb.block g hg).trans h
theorem VarS.under (h : VarS w g v) (hb : Below w.heap.size w w') : VarS w' g v := h.below hb h.lt
theorem VarS.new (w : World) (v : Value) : VarS (w.alloc (.cells #[v] 28)) w.heap.size v := heap_alloc_new w _
theorem VarS.drew (h : VarS w g v) : VarS w.drew g v := h
theorem VarS.set (h : VarS w g v) (u : Value) : VarS (w.setCell ⟨g, 0, none⟩ u) g u := by
 unfold VarS at *
 simp [World.setCell, Array.getElem?_modify, h]
theorem VarS.aside (h : VarS w g v) {p : Addr} (hp : g ≠ p.block) (u : Value) : VarS (w.setCell p u) g v := (Below.heap_setCell w p u g hp).trans h
theorem VarS.grown {row : Option Nat} (h : VarS w g v) (hg : w.grownBy w' row) (ho : row ≠ some g) : VarS w' g v := (hg.block g h.lt (fun e => ho e.symm)).trans h
end
def RowF (w : World) (g n : Nat) (f : Nat → Int) : Prop := ∃ cur : Array Value, w.heap[g]? = some (.cells cur 2 (0, 0)) ∧ n ≤ cur.size ∧ ∀ i, i < n → cur[i]? = some (.int .i64 (f i))
section
variable {w w' : World} {g n : Nat} {f : Nat → Int}
theorem RowF.lt (h : RowF w g n f) : g < w.heap.size := by
 obtain ⟨cur, h, _⟩ := h
 exact (Array.getElem?_eq_some_iff.1 h).1
theorem RowF.cell (h : RowF w g n f) {i : Nat} (hi : i < n) : w.cell? ⟨g, i, none⟩ = some (.int .i64 (f i)) := by
 obtain ⟨cur, h, _, hc⟩ := h
 have := hc i hi
 simp [World.cell?, h, this]
theorem RowF.frozen (h : RowF w g n f) (i : Nat) : w.frozen? ⟨g, i, none⟩ = false := by
 obtain ⟨cur, h, _⟩ := h
 simp [World.frozen?, h]
theorem RowF.below {B : Nat} (h : RowF w g n f) (hb : Below B w w') (hg : g < B) : RowF w' g n f := by
 obtain ⟨cur, h, h2⟩ := h
 exact ⟨cur, (hb.block g hg).trans h, h2⟩
theorem RowF.under (h : RowF w g n f) (hb : Below w.heap.size w w') : RowF w' g n f := h.below hb h.lt
theorem RowF.aside (h : RowF w g n f) {p : Addr} (hp : g ≠ p.block) (u : Value) : RowF (w.setCell p u) g n f := by
 obtain ⟨cur, h, h2⟩ := h
 exact ⟨cur, (Below.heap_setCell w p u g hp).trans h, h2⟩
theorem RowF.set (h : RowF w g n f) {i : Nat} (hi : i < n) (x : Int) : RowF (w.setCell ⟨g, i, none⟩ (.int .i64 x)) g n (fun k => if k = i then x else f k) := by
 obtain ⟨cur, h, hs, hc⟩ := h
 refine ⟨cur.setIfInBounds i (.int .i64 x), by simp [World.setCell, Array.getElem?_modify, h], by simpa using hs, fun k hk => ?_⟩
 by_cases e : k = i
 ·subst e
  have : k < cur.size := by omega
  simp [this]
 ·have := hc k hk
  rw [Array.getElem?_setIfInBounds_ne (Ne.symm e), this]
  simp only [if_neg e]
theorem RowF.cong {f' : Nat → Int} (h : RowF w g n f) (e : ∀ i, i < n → f i = f' i) : RowF w g n f' := by
 obtain ⟨cur, h, hs, hc⟩ := h
 exact ⟨cur, h, hs, fun i hi => by rw [hc i hi, e i hi]⟩
theorem RowF.win (h : RowF w g n f) {L : List Int} {cap : Nat} (hl : L.length = n) (hc : n ≤ cap) (hm : cap ≤ maxLen) (e : ∀ i, i < n → f i = L.getD i 0) : Win w w.heap.size (some ⟨g, 0, none⟩) n cap L :=
 ⟨hl, hc, hm, (fun h => by cases h), fun hn => ⟨g, 0, rfl, h.lt, fun i hi => by rw [Nat.zero_add, h.cell hi, e i hi]⟩⟩
theorem RowF.ne {v : Value} {g2 : Nat} (h : RowF w g n f) (hv : VarS w g2 v) : g2 ≠ g := by
 rintro rfl
 obtain ⟨cur, h, _⟩ := h
 unfold VarS at hv
 rw [hv] at h
 injection h with h
 injection h with _ ht
 exact absurd ht (by decide)
end
theorem OwnI.row {w : World} {base : Nat} {v : Value} {l : List Int} (h : OwnI w base v l) (hn : 0 < l.length) :
  ∃ g cap, v = .slice (some ⟨g, 0, none⟩) l.length cap ∧ base ≤ g ∧ v.ownBlock = some g ∧ l.length ≤ cap ∧ cap ≤ maxLen ∧ RowF w g l.length (fun i => l.getD i 0) := by
 rcases h.2 with ⟨_, h0⟩ | ⟨g, cap, cur, rfl, hb, hg, hle, hmax, hcs, htake⟩
 ·omega
 ·refine ⟨g, cap, rfl, hb, by simp [Value.ownBlock], hle, hmax, cur, hg, ?_, fun i hi => ?_⟩
  ·omega
  ·have h1 := congrArg (fun l => l[i]?) htake
   simp only [List.getElem?_map, List.getElem?_eq_getElem hi, Option.map_some] at h1
   rw [List.getElem?_take, if_pos (by omega)] at h1
   rw [Array.getElem?_toList] at h1
   rw [h1]
   simp [List.getD_eq_getElem?_getD, hi]
end Go.Proofs.YtijlccblabadaaaGreat.mm
end
section
namespace Go.Proofs.YtijlccblabadaaaGreat.mm
set_option maxRecDepth 100000
open Go.ChangeShapes Go.WideShapes Go.ChangeAt Go.RowKit Go.Proofs.YtijlccblabadaaaGreat.k
set_option linter.unusedVariables false
structure Rows3 (w0 w : World) (g12 g13 g14 r12 r13 r14 len : Nat) (s v12 v13 v14 : Value) (L : List Int) (f13 f14 : Nat → Int) : Prop where
 vs : VarS w w0.heap.size s
 v12 : VarS w g12 v12
 v13 : VarS w g13 v13
 v14 : VarS w g14 v14
 r12 : RowF w r12 len (fun i => L.getD i 0)
 r13 : RowF w r13 len f13
 r14 : RowF w r14 len f14
 bel : Below w0.heap.size w0 w
section
variable {w0 w w' : World} {g12 g13 g14 r12 r13 r14 len : Nat} {s v12 v13 v14 : Value} {L : List Int} {f13 f14 : Nat → Int}
end
def pf (P : Bool) (L : List Int) (j i : Nat) : Int := if P = true ∧ 1 ≤ i ∧ i < j then L.getD (i - 1) 0 else L.getD i 0
def mf (F : Bool) (d : Int) (L : List Int) (j i : Nat) : Int := if F = true ∧ i < j then L.getD i 0 + d else L.getD i 0
theorem mf_start (F : Bool) (d : Int) (L : List Int) (i : Nat) : mf F d L 0 i = L.getD i 0 := by unfold mf; rw [if_neg (by omega)]
theorem mf_step {d : Int} {L : List Int} {j : Nat} (i : Nat) : (if i = j then L.getD j 0 + d else mf true d L j i) = mf true d L (j + 1) i := by
 unfold mf
 by_cases e : i = j
 ·subst e; rw [if_pos rfl, if_pos ⟨rfl, by omega⟩]
 ·rw [if_neg e]
  by_cases h : i < j
  ·rw [if_pos ⟨rfl, h⟩, if_pos ⟨rfl, by omega⟩]
  ·rw [if_neg fun c => h c.2, if_neg fun c => h (by omega)]
theorem mf_at (F : Bool) (d : Int) (L : List Int) (j : Nat) : mf F d L j j = L.getD j 0 := by unfold mf; rw [if_neg (by omega)]
theorem mf_end {L : List Int} {d : Int} {i : Nat} (hi : i < L.length) : mf true d L L.length i = (L.map (· + d)).getD i 0 := by
 unfold mf
 rw [if_pos ⟨rfl, hi⟩, List.getD_eq_getElem?_getD, List.getD_eq_getElem?_getD, List.getElem?_map, List.getElem?_eq_getElem hi]
 rfl
theorem sum_step {L : List Int} {j : Nat} (h : j < L.length) : (L.take (j + 1)).sum = (L.take j).sum + L.getD j 0 := by
 rw [take_snoc L j h, List.sum_append]
 simp
theorem sum_inP : ∀ {L : List Int}, (∀ x ∈ L, inP x) → -2199023255552 * (L.length : Int) ≤ L.sum ∧ L.sum ≤ 2199023255552 * (L.length : Int)
 | [], _ => by simp
 | x :: L, h => by
  have h1 := sum_inP fun y hy => h y (List.mem_cons_of_mem x hy)
  have h2 := h x (by simp)
  unfold inP at h2
  rw [List.sum_cons, List.length_cons]
  omega
end Go.Proofs.YtijlccblabadaaaGreat.mm
end
section
namespace Go.Proofs.YtijlccblabadaaaGreat.mm
set_option maxRecDepth 100000
open Go.ChangeShapes Go.WideShapes Go.ChangeAt Go.RowKit Go.Proofs.YtijlccblabadaaaGreat.k
set_option linter.unusedVariables false
theorem within_any {n lo hi : Int} {t : Bool} (ht : decide (lo ≤ n ∧ n ≤ hi) = t) (w : World) : Calls Tryz.prog 114 #[.int .i64 n, .int .i64 lo, .int .i64 hi] w fun e w' => e = .returned (.bool t) ∧ w = w' := by
 by_cases h1 : lo ≤ n
 ·by_cases h2 : n ≤ hi
  ·have HV : Hid (true = t) := lh ((decide_eq_true ⟨h1, h2⟩).symm.trans ht)
   clear ht
   go_enter Tryz.func114, Tryz.ntmps114
   go_wp2
   go_ret
   exact ⟨ret_bool HV.out, rfl⟩
  ·have HV : Hid (false = t) := lh ((decide_eq_false fun h => h2 h.2).symm.trans ht)
   clear ht
   have hd : decide (n ≤ hi) = false := decide_eq_false h2
   go_enter Tryz.func114, Tryz.ntmps114
   go_wp2
   go_ret
   exact ⟨ret_bool HV.out, rfl⟩
 ·have HV : Hid (false = t) := lh ((decide_eq_false fun h => h1 h.1).symm.trans ht)
  clear ht
  have hd : decide (lo ≤ n) = false := decide_eq_false h1
  go_enter Tryz.func114, Tryz.ntmps114
  go_wp2
  go_ret
  exact ⟨ret_bool HV.out, rfl⟩
theorem within_quiet {n lo hi : Int} {t : Bool} (ht : decide (lo ≤ n ∧ n ≤ hi) = t) (W : World) (q : Nat) : Calls Tryz.prog 114 #[.int .i64 n, .int .i64 lo, .int .i64 hi] (W.drewN q) fun e w'' => e = .returned (.bool t) ∧ ∃ m, w'' = W.drewN m :=
 (within_any ht (W.drewN q)).mono fun _ _ hh => ⟨hh.1, q, hh.2.symm⟩
theorem iplace_any (n : Int) (w : World) : Calls Tryz.prog 81 #[.int .i64 n] w fun e w' => e = .returned (.bool (placeB n)) ∧ w = w' := by
 have C := lh fun W => within_any (n := n) (lo := -2199023255552) (hi := 2199023255552) (t := placeB n) rfl W
 generalize placeB n = t at *
 go_enter Tryz.func81, Tryz.ntmps81
 go_wp2_with (go_at_call 114; ((with_reducible refine (C.out _).mono ?_); rintro e w' ⟨rfl, rfl⟩))
 go_ret
 exact ⟨rfl, rfl⟩
theorem iplace_yes {n : Int} (h : inP n) (w : World) : Calls Tryz.prog 81 #[.int .i64 n] w fun e w' => e = .returned (.bool true) ∧ w = w' := placeB_yes h ▸ iplace_any n w
theorem iplace_no {n : Int} (h : ¬ inP n) (w : World) : Calls Tryz.prog 81 #[.int .i64 n] w fun e w' => e = .returned (.bool false) ∧ w = w' := placeB_no h ▸ iplace_any n w
def mnL (L : List Int) : Nat → Int
 | 0 => L.getD 0 0
 | j + 1 => min (mnL L j) (L.getD j 0)
def mxL (L : List Int) : Nat → Int
 | 0 => L.getD 0 0
 | j + 1 => max (mxL L j) (L.getD j 0)
theorem mnL_one (L : List Int) : mnL L 1 = L.getD 0 0 := by simp [mnL]
theorem mxL_one (L : List Int) : mxL L 1 = L.getD 0 0 := by simp [mxL]
theorem mnL_le (L : List Int) : ∀ {j i : Nat}, i < j → mnL L j ≤ L.getD i 0
 | 0, i, h => by omega
 | j + 1, i, h => by
  unfold mnL
  by_cases e : i = j
  ·subst e; exact Int.min_le_right _ _
  ·exact Int.le_trans (Int.min_le_left _ _) (mnL_le L (by omega))
theorem mxL_ge (L : List Int) : ∀ {j i : Nat}, i < j → L.getD i 0 ≤ mxL L j
 | 0, i, h => by omega
 | j + 1, i, h => by
  unfold mxL
  by_cases e : i = j
  ·subst e; exact Int.le_max_right _ _
  ·exact Int.le_trans (mxL_ge L (by omega)) (Int.le_max_left _ _)
theorem mnL_at (L : List Int) : ∀ j, 0 < j → ∃ i, i < j ∧ mnL L j = L.getD i 0
 | 0, h => by omega
 | 1, _ => ⟨0, by omega, mnL_one L⟩
 | j + 2, _ => by
  obtain ⟨i, hi, e⟩ := mnL_at L (j + 1) (by omega)
  unfold mnL
  rw [Int.min_def]
  split
  ·exact ⟨i, by omega, e⟩
  ·exact ⟨j + 1, by omega, rfl⟩
theorem mxL_at (L : List Int) : ∀ j, 0 < j → ∃ i, i < j ∧ mxL L j = L.getD i 0
 | 0, h => by omega
 | 1, _ => ⟨0, by omega, mxL_one L⟩
 | j + 2, _ => by
  obtain ⟨i, hi, e⟩ := mxL_at L (j + 1) (by omega)
  unfold mxL
  rw [Int.max_def]
  split
  ·exact ⟨j + 1, by omega, rfl⟩
  ·exact ⟨i, by omega, e⟩
theorem list_at {L : List Int} {P : Int → Prop} : (∀ x ∈ L, P x) ↔ ∀ i, i < L.length → P (L.getD i 0) := ⟨fun h i hi => h _ (getD_mem hi), all_getD⟩
set_option maxHeartbeats 1000000 in
theorem isright_any (L : List Int) {A : Option Addr} {len cap B : Nat} {w : World} (h : Win w B A len cap L) (hB : B ≤ w.heap.size) :
  Calls Tryz.prog 55 #[.agg #[.slice A len cap]] w fun e w' => e = .returned (.bool (rightB L)) ∧ Below w.heap.size w w' := by
 have hlen := h.len_le
 have HL := lh h.1
 have ha := Below.alloc (Below.refl B w) hB (.cells #[.slice A len cap] 28)
 have HW := lh (h.below ha)
 clear h
 by_cases h1 : 1 ≤ len
 ·by_cases h2 : len ≤ 16
  ·have h1i : (1 : Int) ≤ (len : Int) := by omega
   have h2i : (len : Int) ≤ 16 := by omega
   clear h1 h2
   go_enter Tryz.func55, Tryz.ntmps55
   go_wp2
   go_loop [18] (fun i => ∃ j : Nat, j ≤ len ∧ i = .int .i64 j ∧ ∀ k, k < j → inP (L.getD k 0)) (fun i => len - (intOf i).toNat)
   case atStart => exact ⟨0, Nat.zero_le _, rfl, fun k hk => absurd hk (by omega)⟩
   case round =>
    obtain ⟨j, hj, rfl, hT⟩ := hrel
    have HT := lh hT
    clear hT
    by_cases hlt : j < len
    ·obtain ⟨b, off, rfl, hb, hc⟩ := HW.out.at hlt
     have hj0 : (0 : Int) ≤ (j : Int) := by omega
     have hj1 : (j : Int) < (len : Int) := by omega
     obtain ⟨x, hx⟩ : ∃ x, L.getD j 0 = x := ⟨_, rfl⟩
     rw [hx] at hc
     by_cases hp : inP x
     ·have HX : Hid (∀ k, k < j + 1 → inP (L.getD k 0)) := lh fun k hk => by
       by_cases e : k = j
       ·subst e; rw [hx]; exact hp
       ·exact HT.out k (by omega)
      clear hx
      have HP := lh hp
      clear hp
      go_wp2_with (go_at_call 81; ((with_reducible refine (iplace_yes HP.out _).mono ?_); rintro e w' ⟨rfl, rfl⟩))
      go_round
      case rel => exact ⟨j + 1, by omega, by go_num, HX.out⟩
      case measure => simp [intOf]; omega
     ·have HX : Hid (rightB L = false) := lh (rightB_no fun h => hp (hx ▸ h.at (by rw [HL.out]; omega)))
      clear hx
      have HP := lh hp
      clear hp
      go_wp2_with (go_at_call 81; ((with_reducible refine (iplace_no HP.out _).mono ?_); rintro e w' ⟨rfl, rfl⟩))
      go_ret
      exact ⟨ret_bool HX.out.symm, (Below.refl _ _).alloc (Nat.le_refl _) _⟩
    ·have hjl : j = len := by omega
     subst hjl
     have HX : Hid (rightB L = true) := lh (rightB_yes ⟨by rw [HL.out]; omega, by rw [HL.out]; omega, all_getD fun i hi => HT.out i (by rw [HL.out] at hi; omega)⟩)
     go_wp2
     go_ret
     exact ⟨ret_bool HX.out.symm, (Below.refl _ _).alloc (Nat.le_refl _) _⟩
  ·have HX : Hid (rightB L = false) := lh (rightB_no fun h => by have := h.2.1; rw [HL.out] at this; omega)
   have h1i : (1 : Int) ≤ (len : Int) := by omega
   have h2i : (16 : Int) < (len : Int) := by omega
   clear h1 h2
   go_enter Tryz.func55, Tryz.ntmps55
   go_wp2
   go_ret
   exact ⟨ret_bool HX.out.symm, (Below.refl _ _).alloc (Nat.le_refl _) _⟩
 ·have HX : Hid (rightB L = false) := lh (rightB_no fun h => by have := h.1; rw [HL.out] at this; omega)
  have h1i : (len : Int) < 1 := by omega
  clear h1
  go_enter Tryz.func55, Tryz.ntmps55
  go_wp2
  go_ret
  exact ⟨ret_bool HX.out.symm, (Below.refl _ _).alloc (Nat.le_refl _) _⟩
set_option maxHeartbeats 1000000 in
theorem out_any (L : List Int) {A : Option Addr} {len cap B : Nat} {w : World} (h : Win w B A len cap L) (hB : B ≤ w.heap.size) :
  Calls Tryz.prog 40 #[.agg #[.slice A len cap]] w fun e w' => e = .returned (.int .i64 (outW L)) ∧ Below w.heap.size w w' := by
 have hlen := h.len_le
 have HL := lh h.1
 have ha := Below.alloc (Below.refl w.heap.size w) (Nat.le_refl _) (.cells #[.slice A len cap] 28)
 have HW := lh (((h.more hB).below ha).more ha.size)
 have HA := lh ha
 have HV := lh (VarS.new w (.slice A len cap))
 have RR := lh fun (W : World) (h : Win W W.heap.size A len cap L) => isright_any L h (Nat.le_refl _)
 clear h ha
 by_cases hr : RightW L
 ·have hR := RR.out
  rw [rightB_yes hr] at hR
  have RY := lh hR
  have HR := lh hr
  clear hR hr
  go_enter Tryz.func40, Tryz.ntmps40
  go_wp2_with (go_at_call 55; fail)
  refine (RY.out _ HW.out).mono ?_
  rintro e w2 ⟨rfl, hb⟩
  have V2 := lh (HV.out.under hb)
  have W2 := lh (HW.out.below hb)
  have B2 := lh (HA.out.trans (hb.mono HA.out.size))
  clear hb
  have hcc := V2.out.var.cell
  go_wp2
  go_loop [3, 12] (fun s i => ∃ (j : Nat) (S : Int), j ≤ len ∧ i = .int .i64 j ∧ s = .int .i64 S ∧ S = (L.take j).sum) (fun _ i => len - (intOf i).toNat)
  case atStart => exact ⟨0, 0, Nat.zero_le _, rfl, rfl, by simp⟩
  case round =>
   obtain ⟨j, S, hj, rfl, rfl, hS⟩ := hrel
   have hl16 : len ≤ 16 := by have := HR.out.2.1; rw [HL.out] at this; exact this
   have hSb := sum_inP (L := L.take j) fun y hy => HR.out.2.2 y (List.mem_of_mem_take hy)
   rw [← hS, List.length_take, HL.out] at hSb
   have hS1 : -35184372088832 ≤ S ∧ S ≤ 35184372088832 := by omega
   have HS := lh hS
   clear hS hSb
   by_cases hlt : j < len
   ·obtain ⟨b, off, rfl, hb, hc⟩ := W2.out.at hlt
    have hj0 : (0 : Int) ≤ (j : Int) := by omega
    have hj1 : (j : Int) < (len : Int) := by omega
    have hin := HR.out.at (i := j) (by rw [HL.out]; exact hlt)
    have hst := sum_step (L := L) (j := j) (by rw [HL.out]; exact hlt)
    obtain ⟨x, hx⟩ : ∃ x, L.getD j 0 = x := ⟨_, rfl⟩
    rw [hx] at hc hin hst
    rw [← HS.out] at hst
    obtain ⟨i1, i2⟩ := hin
    have HX := lh hst
    clear hst hx
    go_wp2
    go_round
    case rel => exact ⟨j + 1, S + x, by omega, by go_num, rfl, HX.out.symm⟩
    case measure => simp [intOf]; omega
   ·have hjl : len = j := by omega
    subst hjl
    have HX : Hid (S = outW L) := lh (by rw [HS.out, outW_yes HR.out, List.take_of_length_le (by rw [HL.out]; exact Nat.le_refl _)])
    go_wp2
    go_ret
    exact ⟨ret_int HX.out, B2.out⟩
 ·have hR := RR.out
  rw [rightB_no hr] at hR
  have RY := lh hR
  have HX := lh (outW_no hr)
  clear hR hr
  go_enter Tryz.func40, Tryz.ntmps40
  go_wp2_with (go_at_call 55; fail)
  refine (RY.out _ HW.out).mono ?_
  rintro e w2 ⟨rfl, hb⟩
  have B2 := lh (HA.out.trans (hb.mono HA.out.size))
  clear hb
  go_wp2
  go_ret
  exact ⟨ret_int HX.out.symm, B2.out⟩
set_option maxHeartbeats 1000000 in
theorem min_any (L : List Int) {A : Option Addr} {len cap B : Nat} {w : World} (h : Win w B A len cap L) (hl : 0 < len) :
  Calls Tryz.prog 143 #[.slice A len cap] w fun e w' => e = .returned (.int .i64 (mnL L len)) ∧ w = w' := by
 have hlen := h.len_le
 have HW := lh h
 have HO := lh (mnL_one L)
 obtain ⟨b, off, rfl, hb, c0⟩ := h.at hl
 rw [Nat.add_zero] at c0
 have hl1 : (1 : Int) ≤ (len : Int) := by omega
 have hl0 : (0 : Int) < (len : Int) := by omega
 clear h
 go_enter Tryz.func143, Tryz.ntmps143
 go_wp2
 go_loop [3, 4] (fun m i => ∃ (j : Nat) (M : Int), 1 ≤ j ∧ j ≤ len ∧ i = .int .i64 j ∧ m = .int .i64 M ∧ M = mnL L j) (fun _ i => len - (intOf i).toNat)
 case atStart => exact ⟨1, L.getD 0 0, Nat.le_refl _, hl, by go_num, rfl, HO.out.symm⟩
 case round =>
  obtain ⟨j, M, hj1, hj, rfl, rfl, hM⟩ := hrel
  by_cases hlt : j < len
  ·obtain ⟨b', off', e, hb', hc⟩ := HW.out.at hlt
   injection e with e
   injection e with e1 e2
   subst e1 e2
   have hj0 : (0 : Int) ≤ (j : Int) := by omega
   have hjl : (j : Int) < (len : Int) := by omega
   have hX : Hid (min M (L.getD j 0) = mnL L (j + 1)) := lh (by rw [hM]; rfl)
   generalize L.getD j 0 = x at *
   clear hM
   go_wp2
   go_round
   case rel => exact ⟨j + 1, _, by omega, by omega, by go_num, rfl, hX.out⟩
   case measure => simp [intOf]; omega
  ·have hjl : len = j := by omega
   subst hjl
   have HM := lh hM
   clear hM
   go_wp2
   go_ret
   exact ⟨ret_int HM.out, rfl⟩
set_option maxHeartbeats 1000000 in
theorem max_any (L : List Int) {A : Option Addr} {len cap B : Nat} {w : World} (h : Win w B A len cap L) (hl : 0 < len) :
  Calls Tryz.prog 144 #[.slice A len cap] w fun e w' => e = .returned (.int .i64 (mxL L len)) ∧ w = w' := by
 have hlen := h.len_le
 have HW := lh h
 have HO := lh (mxL_one L)
 obtain ⟨b, off, rfl, hb, c0⟩ := h.at hl
 rw [Nat.add_zero] at c0
 have hl1 : (1 : Int) ≤ (len : Int) := by omega
 have hl0 : (0 : Int) < (len : Int) := by omega
 clear h
 go_enter Tryz.func144, Tryz.ntmps144
 go_wp2
 go_loop [3, 4] (fun m i => ∃ (j : Nat) (M : Int), 1 ≤ j ∧ j ≤ len ∧ i = .int .i64 j ∧ m = .int .i64 M ∧ M = mxL L j) (fun _ i => len - (intOf i).toNat)
 case atStart => exact ⟨1, L.getD 0 0, Nat.le_refl _, hl, by go_num, rfl, HO.out.symm⟩
 case round =>
  obtain ⟨j, M, hj1, hj, rfl, rfl, hM⟩ := hrel
  by_cases hlt : j < len
  ·obtain ⟨b', off', e, hb', hc⟩ := HW.out.at hlt
   injection e with e
   injection e with e1 e2
   subst e1 e2
   have hj0 : (0 : Int) ≤ (j : Int) := by omega
   have hjl : (j : Int) < (len : Int) := by omega
   have hX : Hid (max M (L.getD j 0) = mxL L (j + 1)) := lh (by rw [hM]; rfl)
   generalize L.getD j 0 = x at *
   clear hM
   go_wp2
   go_round
   case rel => exact ⟨j + 1, _, by omega, by omega, by go_num, rfl, hX.out⟩
   case measure => simp [intOf]; omega
  ·have hjl : len = j := by omega
   subst hjl
   have HM := lh hM
   clear hM
   go_wp2
   go_ret
   exact ⟨ret_int HM.out, rfl⟩
theorem min_quiet {L : List Int} {A : Option Addr} {len cap B : Nat} {w : World} (h : Win w B A len cap L) (hl : 0 < len) {m : Int} (hm : mnL L len = m) (q : Nat) : Calls Tryz.prog 143 #[.slice A len cap] (w.drewN q) fun e w'' => e = .returned (.int .i64 m) ∧ ∃ m, w'' = w.drewN m :=
 (min_any L (w := w.drewN q) h hl).mono fun _ _ hh => ⟨by rw [hh.1, hm], q, hh.2.symm⟩
theorem max_quiet {L : List Int} {A : Option Addr} {len cap B : Nat} {w : World} (h : Win w B A len cap L) (hl : 0 < len) {m : Int} (hm : mxL L len = m) (q : Nat) : Calls Tryz.prog 144 #[.slice A len cap] (w.drewN q) fun e w'' => e = .returned (.int .i64 m) ∧ ∃ m, w'' = w.drewN m :=
 (max_any L (w := w.drewN q) h hl).mono fun _ _ hh => ⟨by rw [hh.1, hm], q, hh.2.symm⟩
def mayB (L : List Int) (d : Int) : Bool := decide (∀ x ∈ L, inP (x + d))
theorem may_range {L : List Int} (hr : RightW L) (d : Int) : decide (-2199023255552 - mnL L L.length ≤ d ∧ d ≤ 2199023255552 - mxL L L.length) = mayB L d := by
 unfold mayB
 rw [decide_eq_decide]
 constructor
 ·intro h
  refine list_at.2 fun i hi => ?_
  have h1 := mnL_le L hi
  have h2 := mxL_ge L hi
  unfold inP
  omega
 ·intro h
  have hp := hr.1
  obtain ⟨i, hi, e1⟩ := mnL_at L L.length hp
  obtain ⟨k, hk, e2⟩ := mxL_at L L.length hp
  have h1 := list_at.1 h i hi
  have h2 := list_at.1 h k hk
  unfold inP at h1 h2
  omega
theorem mn_in {L : List Int} (hr : RightW L) : inP (mnL L L.length) := by
 obtain ⟨i, hi, e⟩ := mnL_at L L.length hr.1
 rw [e]; exact hr.at hi
theorem mx_in {L : List Int} (hr : RightW L) : inP (mxL L L.length) := by
 obtain ⟨i, hi, e⟩ := mxL_at L L.length hr.1
 rw [e]; exact hr.at hi
theorem rest_mm {L : List Int} (hr : RightW L) : decide (mnL L L.length = mxL L L.length) = restB L := by
 unfold restB
 rw [decide_eq_decide]
 have h0 : 0 < L.length := hr.1
 have a0 := mnL_le L h0
 have b0 := mxL_ge L h0
 constructor
 ·intro h
  refine ⟨hr, list_at.2 fun i hi => ?_⟩
  have h1 := mnL_le L hi
  have h2 := mxL_ge L hi
  omega
 ·rintro ⟨_, h⟩
  obtain ⟨i, hi, e1⟩ := mnL_at L L.length h0
  obtain ⟨k, hk, e2⟩ := mxL_at L L.length h0
  rw [e1, e2, list_at.1 h i hi, list_at.1 h k hk]
set_option maxHeartbeats 1000000 in
theorem mayshift_any (L : List Int) (d : Int) (hr : RightW L) {A : Option Addr} {len cap B : Nat} {w : World} (h : Win w B A len cap L) (hB : B ≤ w.heap.size) :
  Calls Tryz.prog 163 #[.agg #[.slice A len cap], .int .i64 d] w fun e w' => e = .returned (.bool (mayB L d)) ∧ Below w.heap.size w w' := by
 have hlen := h.len_le
 have hl0 : 0 < len := by rw [← h.1]; exact hr.1
 have ha := Below.alloc (Below.refl w.heap.size w) (Nat.le_refl _) (.cells #[.slice A len cap] 28)
 have HW := lh (((h.more hB).below ha).more ha.size)
 have HA := lh ha
 have HX := may_range hr d
 have hm := mn_in hr
 have hx := mx_in hr
 rw [h.1] at hm hx HX
 obtain ⟨mn, hmn⟩ : ∃ mn, mnL L len = mn := ⟨_, rfl⟩
 obtain ⟨mx, hmx⟩ : ∃ mx, mxL L len = mx := ⟨_, rfl⟩
 rw [hmn] at hm HX
 rw [hmx] at hx HX
 have M1 := lh (min_quiet HW.out hl0 hmn)
 have M2 := lh (max_quiet HW.out hl0 hmx)
 obtain ⟨m1, m2⟩ := hm
 obtain ⟨x1, x2⟩ := hx
 clear hmn hmx
 have W1 : IntKind.i64.wrap (-2199023255552 - mn) = -2199023255552 - mn := by rw [IntKind.wrap_i64]; omega
 have W2 : IntKind.i64.wrap (2199023255552 - mx) = 2199023255552 - mx := by rw [IntKind.wrap_i64]; omega
 have HC := lh (within_quiet HX)
 clear HX m1 m2 x1 x2
 clear h ha
 go_enter Tryz.func163, Tryz.ntmps163
 go_wp2
 go_quiet (first
  | (go_at_call 143; with_reducible exact M1.out _)
  | (go_at_call 144; with_reducible exact M2.out _)
  | (go_at_call 114; with_reducible exact HC.out _ _))
 go_wp2
 go_ret
 exact ⟨rfl, below_drawn HA.out _⟩
end Go.Proofs.YtijlccblabadaaaGreat.mm
end
section
namespace Go.Proofs.YtijlccblabadaaaGreat.mm
set_option maxRecDepth 100000
open Go.ChangeShapes Go.WideShapes Go.ChangeAt Go.RowKit Go.Proofs.YtijlccblabadaaaGreat.k
set_option linter.unusedVariables false
def NewRow (w w' : World) (A : Option Addr) (len cap : Nat) (L : List Int) : Prop :=
 Win w' w'.heap.size A len cap L ∧ From w none A ∧ (0 < len → ∃ g, A = some ⟨g, 0, none⟩ ∧ w.heap.size ≤ g ∧ RowF w' g len (fun i => L.getD i 0))
section
variable {w w' w'' : World} {A : Option Addr} {len cap : Nat} {L : List Int}
theorem NewRow.under (h : NewRow w w' A len cap L) (hb : Below w'.heap.size w' w'') : NewRow w w'' A len cap L :=
 ⟨(h.1.below hb).more hb.size, h.2.1, fun hn => by
   obtain ⟨g, e, hg, hr⟩ := h.2.2 hn
   exact ⟨g, e, hg, hr.under hb⟩⟩
theorem NewRow.from (h : NewRow w w' A len cap L) {w0 : World} (hz : w0.heap.size ≤ w.heap.size) : NewRow w0 w' A len cap L :=
 ⟨h.1, fun b off s e => by
  rcases h.2.1 b off s e with ⟨o, s0, e2⟩ | h2
  ·cases e2
  ·exact .inr (Nat.le_trans hz h2), fun hn => by
  obtain ⟨g, e, hg, hr⟩ := h.2.2 hn
  exact ⟨g, e, Nat.le_trans hz hg, hr⟩⟩
theorem NewRow.aside (h : NewRow w w' A len cap L) {g : Nat} {v : Value} (hv : VarS w' g v) {a : Option Addr} {l c : Nat} (he : v = .slice a l c) (x : Value) : NewRow w (w'.setCell ⟨g, 0, none⟩ x) A len cap L := by
 subst he
 refine ⟨by have := h.1.aside hv.var x; simpa using this, h.2.1, fun hn => ?_⟩
 obtain ⟨g', e, hg, hr⟩ := h.2.2 hn
 exact ⟨g', e, hg, hr.aside (p := ⟨g, 0, none⟩) (Ne.symm (hr.ne hv)) x⟩
theorem NewRow.got (h : NewRow w w' A len cap L) (A0 : Option Addr) : From w A0 A := fun b off s e => by
 rcases h.2.1 b off s e with ⟨o, s0, e2⟩ | h2
 ·cases e2
 ·exact .inr h2
end
theorem VarS.range {w : World} {g : Nat} {v : Value} (h : VarS w g v) : w.rangeAt g 0 [v] := fun j u hu => by
 cases j with
 | zero =>
  have e : v = u := by simpa using hu
  subst e
  exact h.var.cell
 | succ j => simp at hu
theorem put_result {w : World} {g : Nat} {a : Option Addr} {l c : Nat} (h : VarS w g (.slice a l c)) (v : Value) : ∃ W, w.setCell ⟨g, 0, none⟩ v = W ∧ VarS W g v ∧ (∀ B, B ≤ g → Below B w W) ∧
  ∀ {w0 : World} {A : Option Addr} {len cap : Nat} {L : List Int}, NewRow w0 w A len cap L → NewRow w0 W A len cap L :=
 ⟨_, rfl, h.set v, fun B hB => (Below.refl _ _).setCell hB _, fun hN => hN.aside h rfl v⟩
set_option maxHeartbeats 1000000 in
theorem clone_any (L : List Int) (hl : L.length ≤ 100) {A : Option Addr} {len cap B : Nat} {w : World} (h : Win w B A len cap L) (hB : B ≤ w.heap.size) :
  Calls Tryz.prog 63 #[.slice A len cap] w fun e w' => ∃ A' cap', e = .returned (.slice A' len cap') ∧ NewRow w w' A' len cap' L ∧ Below w.heap.size w w' := by
 have HL := lh h.1
 have q22 : ∀ (w : World) (a : Option Addr) (n c n' c' : Nat), (binOp .eql 26 (.slice a n c) (.slice none n' c')).run Tryz.prog w = .ok (.bool a.isNone) w := fun w a n c n' c' => Lib.run_eql_slice_nil w _ _ a n c n' c' Tryz.underlying26
 cases A with
 | none =>
  have h0 := h.2.2.2.1 rfl
  have h1 : len = 0 := by have := h.2.1; omega
  subst h1
  have HX : Hid (NewRow w w none 0 0 L) := lh ⟨by
   have e : L = [] := List.eq_nil_of_length_eq_zero h.1
   subst e
   exact Win.none_ w _, (fun b off s e => by cases e), fun h => absurd h (by omega)⟩
  clear h
  go_enter Tryz.func63, Tryz.ntmps63
  go_wp2
  go_ret
  exact ⟨none, 0, rfl, HX.out, Below.refl _ _⟩
 | some ad =>
  have HW : Hid (Win (w.alloc (.cells #[] 2)) B (some ad) len cap L) := lh (h.below ((Below.refl _ _).alloc hB _))
  have HO := lh (OwnI.empty w)
  have HLL := lh hl
  have HZ : Hid (w.heap.size ≤ (w.alloc (.cells #[] 2)).heap.size) := lh (by simp)
  clear h hl
  go_enter Tryz.func63, Tryz.ntmps63
  go_wp2_with (at_builtin; refine wpList_append_ints _ rfl (.tmp 5) (.tmp 6) rfl w.heap.size (.slice (some ⟨w.heap.size, 0, none⟩) 0 0) [] rfl HO.out _ (some ad) len cap L rfl HW.out (by have := HLL.out; simp; omega) HZ.out ?_; intro v1 w1 hown hg hat; have HO1 := lh (show OwnI w1 w.heap.size v1 L from hown); have HG := lh hg; clear hown hg hat)
  go_wp2
  go_ret
  have hO1 := HO1.out
  obtain ⟨A1, c1, e1, hw1⟩ := hO1.form
  rw [HL.out] at e1 hw1
  refine ⟨A1, c1, by rw [e1]; rfl, ⟨hw1, ?_, ?_⟩, ?_⟩
  ·intro b off s e
   right
   have e2 : v1.ownBlock = some b := by rw [e1, e]; rfl
   exact (World.ownsRow.lt hO1 b e2).1
  ·intro hn
   obtain ⟨g, cp, e2, hg, _, _, _, hr⟩ := hO1.row (by rw [HL.out]; exact hn)
   rw [e1, HL.out] at e2
   injection e2 with e3
   exact ⟨g, e3, hg, by rw [← HL.out]; exact hr⟩
  ·exact HO.out.lays ((Below.refl _ w).alloc (Nat.le_refl _) _) (Nat.le_refl _) (Nat.le_refl _) HG.out
set_option maxHeartbeats 1000000 in
theorem again_any (L : List Int) (hl : L.length ≤ 100) {A : Option Addr} {len cap B : Nat} {w : World} (h : Win w B A len cap L) (hB : B ≤ w.heap.size) :
  Calls Tryz.prog 111 #[.agg #[.slice A len cap]] w fun e w' => ∃ A' cap', e = .returned (.agg #[.slice A' len cap']) ∧ NewRow w w' A' len cap' L ∧ Below w.heap.size w w' := by
 obtain ⟨w1, e1, V1, b1, z1⟩ : ∃ W, w.alloc (.cells #[.slice A len cap] 28) = W ∧ VarS W w.heap.size (.slice A len cap) ∧ Below w.heap.size w W ∧ W.heap.size = w.heap.size + 1 := ⟨_, rfl, VarS.new w _, (Below.refl _ _).alloc (Nat.le_refl _) _, by simp⟩
 obtain ⟨w2, e2, V2, b2, z2⟩ : ∃ W, w1.alloc (.cells #[.slice none 0 0] 28) = W ∧ VarS W w1.heap.size (.slice none 0 0) ∧ Below w1.heap.size w1 W ∧ W.heap.size = w1.heap.size + 1 := ⟨_, rfl, VarS.new w1 _, (Below.refl _ _).alloc (Nat.le_refl _) _, by simp⟩
 have X1 := lh (V1.under b2)
 have X2 := lh V2
 have HB := lh (b1.trans (b2.mono b1.size))
 have HW := lh (((h.more hB).below HB.out).more HB.out.size)
 have C := lh fun (W : World) (h : Win W W.heap.size A len cap L) => clone_any L hl h (Nat.le_refl _)
 have c1 := X1.out.var.cell
 have z12 : w.heap.size < w2.heap.size := by omega
 rw [z1] at X2
 have e2' : (w.alloc (.cells #[.slice A len cap] 28)).alloc (.cells #[.slice none 0 0] 28) = w2 := by rw [e1, e2]
 clear h V1 V2 b1 b2 e1 e2
 go_enter Tryz.func111, Tryz.ntmps111
 go_wp2_with (go_at_call 63; fail)
 refine (C.out _ HW.out).mono ?_
 rintro e w3 ⟨A3, l3, rfl, hN, hb⟩
 have X13 := lh (X1.out.under hb)
 obtain ⟨w4, e4, HX, h4, hN4⟩ := put_result (X2.out.under hb) (.slice A3 len l3)
 have HN := lh (hN4 (hN.from HB.out.size))
 have HB3 := lh ((HB.out.trans (hb.mono HB.out.size)).trans (h4 _ (by omega)))
 have hc := (X2.out.under hb).var.cell
 have hf := (X2.out.under hb).var.frozen 0
 clear hb hN hN4 h4
 go_wp2
 refine bodyPost_ret (k.results_cell rfl rfl (run_loadVar_mid w4 (w.heap.size + 1) 0 28 _ _ HX.range rfl rfl (by kernel_rfl))) rfl ?_
 exact ⟨A3, l3, rfl, HN.out, HB3.out⟩
end Go.Proofs.YtijlccblabadaaaGreat.mm
end
section
namespace Go.Proofs.YtijlccblabadaaaGreat.mm
set_option maxRecDepth 100000
open Go.ChangeShapes Go.WideShapes Go.ChangeAt Go.RowKit Go.Proofs.YtijlccblabadaaaGreat.k
set_option linter.unusedVariables false
theorem boxed (w : World) (v : Value) : ∃ W, w.alloc (.cells #[v] 28) = W ∧ VarS W w.heap.size v ∧ Below w.heap.size w W ∧ W.heap.size = w.heap.size + 1 :=
 ⟨_, rfl, VarS.new w _, (Below.refl _ _).alloc (Nat.le_refl _) _, by simp⟩
set_option maxHeartbeats 2000000 in
theorem rest_any (L : List Int) {A : Option Addr} {len cap B : Nat} {w : World} (h : Win w B A len cap L) (hB : B ≤ w.heap.size) :
  Calls Tryz.prog 117 #[.agg #[.slice A len cap]] w fun e w' => e = .returned (.bool (restB L)) ∧ Below w.heap.size w w' := by
 obtain ⟨w1, e1, V1, b1, z1⟩ := boxed w (.slice A len cap)
 have X1 := lh V1
 have HB := lh b1
 have HW := lh (((h.more hB).below b1).more b1.size)
 have R := lh fun (W : World) (h : Win W W.heap.size A len cap L) => isright_any L h (Nat.le_refl _)
 have hd : w.heap.size < w1.heap.size := by omega
 have c1 := X1.out.var.cell
 have HL := lh h.1
 clear h V1 b1
 by_cases hr : RightW L
 ·have RY := R.out
  rw [rightB_yes hr] at RY
  have RT := lh RY
  have hl0 : 0 < len := by rw [← HL.out]; exact hr.1
  have HX := rest_mm hr
  rw [HL.out] at HX
  have M1 := lh fun (W : World) (h : Win W W.heap.size A len cap L) => min_any L h hl0
  have M2 := lh fun (W : World) (h : Win W W.heap.size A len cap L) => max_any L h hl0
  generalize mnL L len = mn at *
  generalize mxL L len = mx at *
  have HX2 : Hid ((mn == mx) = restB L) := lh (by rw [← HX]; exact (Bool.eq_iff_iff.2 (by simp)))
  clear R RY HX hr
  have WD := lh HW.out.drew
  have VD := lh X1.out.drew
  have BD := lh HB.out.drew
  go_enter Tryz.func117, Tryz.ntmps117
  go_wp2
  go_region_held3 (fun w' => w'.cell? ⟨w.heap.size, 0, none⟩ = some (.slice A len cap)) (first | assumption | (simp [*]; done))
   (first
    | (go_at_call 55; ((refine (RT.out _ WD.out).mono ?_); rintro e w6 ⟨rfl, hb⟩; have W6 := lh ((WD.out.below hb).more hb.size); have V6 := lh (VD.out.under hb); have H6 := lh (BD.out.trans (hb.mono BD.out.size)); clear hb; have hc6 := V6.out.var.cell))
    | (go_at_call 143; ((refine (M1.out _ W6.out).mono ?_); rintro e w7 ⟨rfl, rfl⟩))
    | (go_at_call 144; ((refine (M2.out _ W6.out).mono ?_); rintro e w7 ⟨rfl, rfl⟩)))
  go_wp2
  go_ret
  exact ⟨ret_bool HX2.out, H6.out⟩
 ·have RY := R.out
  rw [rightB_no hr] at RY
  have RF := lh RY
  have HX : Hid (restB L = false) := lh (decide_eq_false fun h => hr h.1)
  clear R RY hr
  have WD := lh HW.out.drew
  have VD := lh X1.out.drew
  have BD := lh HB.out.drew
  go_enter Tryz.func117, Tryz.ntmps117
  go_wp2
  refine wp_region_T (by kernel_rfl) (fun w' => w'.cell? ⟨w.heap.size, 0, none⟩ = some (.slice A len cap)) [] c1 (fun hHeld => ?_)
  refine tk 0 rfl ?_ ?_ ?_
  rotate_left
  ·intro w_ hSw; skip; go_simp <;> (with_reducible rfl)
  try go_simp
  refine ry [1] ?_
  refine ar1 rfl fun K hK => ?_
  go_simp
  (go_at_call 55; ((refine (RF.out _ WD.out).mono ?_); rintro e u1 ⟨rfl, hb⟩))
  have V6 := lh (VD.out.under hb)
  have H6 := lh (BD.out.trans (hb.mono BD.out.size))
  clear hb
  have hc6 := V6.out.var.cell
  go_wp2_with fail
  refine hK.out _ _ hc6 (fun hHeld => ?_)
  clear hK K
  try go_simp
  refine tk0 2 rfl ?_ ?_ ?_
  rotate_left
  ·intro; go_simp <;> with_reducible rfl
  try go_simp
  refine tks 3 rfl ?_
  refine tks 4 rfl ?_
  refine tks 5 rfl ?_
  refine tks 6 rfl ?_
  refine tks 7 rfl ?_
  refine tks 8 rfl ?_
  refine tks 9 rfl ?_
  try go_simp
  refine tk0 10 rfl ?_ ?_ ?_
  rotate_left
  ·intro; go_simp <;> with_reducible rfl
  try go_simp
  refine tk0 11 rfl ?_ ?_ ?_
  rotate_left
  ·intro; go_simp <;> with_reducible rfl
  try go_simp
  refine wpAnyT_done (by kernel_rfl) ?_ _
  go_wp2
  go_ret
  exact ⟨ret_bool HX.out.symm, H6.out⟩
end Go.Proofs.YtijlccblabadaaaGreat.mm
end
section
namespace Go.Proofs.YtijlccblabadaaaGreat.mm
set_option maxRecDepth 100000
open Go.ChangeShapes Go.WideShapes Go.ChangeAt Go.RowKit Go.Proofs.YtijlccblabadaaaGreat.k
set_option linter.unusedVariables false
theorem int_one : (Tryz.prog.info? 2).map (·.size) = some 1 := by kernel_rfl
theorem copy_rowf {w : World} {g n : Nat} {f : Nat → Int} (hr : RowF w g n f) {off k : Nat} (hk : off + k ≤ n) (src : Nat → Int) {dp sp : Option Addr} {dLen dCap sLen sCap : Nat} (ty : TypeId) (hn : k = Nat.min sLen dLen)
  (hpos : 0 < k → dp = some ⟨g, off, none⟩ ∧ ∃ b o, sp = some ⟨b, o, none⟩ ∧ ∀ i, i < k → w.cell? ⟨b, o + i, none⟩ = some (.int .i64 (src i))) :
  ∃ w', (Builtin.copy_ #[26, 26] ty #[.slice dp dLen dCap, .slice sp sLen sCap]).run Tryz.prog w = .ok (.int .i64 k) w' ∧
   RowF w' g n (fun i => if off ≤ i ∧ i < off + k then src (i - off) else f i) ∧ w.grownBy w' (some g) ∧ w'.heap.size = w.heap.size := by
 by_cases h0 : k = 0
 ·subst h0
  exact ⟨w, run_copy_none (P := Tryz.prog) w 26 26 ty 2 dp sp dLen dCap sLen sCap Tryz.underlying26 int_one hn.symm,
   hr.cong (fun i _ => by rw [if_neg (by omega)]), World.grownBy.refl w _, rfl⟩
 ·obtain ⟨rfl, b, o, rfl, hc⟩ := hpos (by omega)
  obtain ⟨cur, h, hs, hcur⟩ := hr
  have hl : ((List.range k).map fun i => Value.int .i64 (src i)).length = k := by simp
  have hrun := run_copy_row (P := Tryz.prog) w 26 26 ty 2 g off dLen dCap ⟨b, o, none⟩ sLen sCap cur 2 ((List.range k).map fun i => Value.int .i64 (src i)) Tryz.underlying26 int_one h (by rw [hl]; exact hn)
   (by
    intro j v hv
    have hj : j < k := by
     have := (List.getElem?_eq_some_iff.1 hv).1
     rwa [hl] at this
    have e1 : (Addr.add ⟨b, o, none⟩ j) = ⟨b, o + j, none⟩ := by
     unfold Addr.add; by_cases h : j = 0 <;> simp [h]
    rw [e1, hc j hj, ← hv, List.getElem?_map, List.getElem?_range hj]
    rfl) (by rw [hl]; omega) (by intro v hv; simp at hv; obtain ⟨i, _, rfl⟩ := hv; rfl)
  rw [hl] at hrun
  refine ⟨_, hrun, ⟨_, setRow_heap w g cur _ 2 (0, 0) h, ?_, fun i hi => ?_⟩, ⟨rfl, rfl, rfl, by simp [World.setRow], fun q hq hne => setRow_other w g q _ (fun e => hne (by rw [e]))⟩, by simp [World.setRow]⟩
  ·simp; omega
  ·have hci := hcur i hi
   have hsz : i < cur.size := by omega
   rw [List.getElem?_toArray]
   show _ = some (Value.int .i64 (if off ≤ i ∧ i < off + k then src (i - off) else f i))
   by_cases h1 : i < off
   ·rw [if_neg (by omega), List.append_assoc, List.getElem?_append_left (by simp; omega), List.getElem?_take, if_pos h1, Array.getElem?_toList, hci]
   ·by_cases h2 : i < off + k
    ·rw [if_pos ⟨by omega, h2⟩, List.append_assoc, List.getElem?_append_right (by simp; omega), List.getElem?_append_left (by simp; omega), List.getElem?_map]
     rw [show (i - (List.take off cur.toList).length) = i - off by simp; omega, List.getElem?_range (by omega)]
     rfl
    ·rw [if_neg (by omega), List.getElem?_append_right (by simp; omega), List.getElem?_drop]
     rw [show off + k + (i - (List.take off cur.toList ++ List.map (fun i => Value.int IntKind.i64 (src i)) (List.range k)).length) = i by simp; omega, Array.getElem?_toList, hci]
theorem step_copy_rowf {w : World} {ops : Array Oper} {op : Oper} {a : Act} {K : Act → World → Prop} {Q : Exit → Act → World → Prop} {E : Prop} (hgd : op.guard = none) (d s : Operand)
  (ho : op.op = .call { callee := .builtin .copy, args := #[d, s], argTypes := #[26, 26] })
  {g n : Nat} {f : Nat → Int} (hr : RowF w g n f) (off k : Nat) (hk : off + k ≤ n) (src : Nat → Int) {dp sp : Option Addr} {dLen dCap sLen sCap : Nat} (hd : a.eval d = .slice dp dLen dCap) (hs : a.eval s = .slice sp sLen sCap) (hn : k = Nat.min sLen dLen)
  (hpos : 0 < k → dp = some ⟨g, off, none⟩ ∧ ∃ b o, sp = some ⟨b, o, none⟩ ∧ ∀ i, i < k → w.cell? ⟨b, o + i, none⟩ = some (.int .i64 (src i)))
  (h : ∀ w', RowF w' g n (fun i => if off ≤ i ∧ i < off + k then src (i - off) else f i) → w.grownBy w' (some g) → w'.heap.size = w.heap.size → K (a.put op.dst (.int .i64 k)) w') :
  if Region.wanted op (yielded ops a.tmps) = true then Oper.wp Tryz.prog op a w K Q else E := by
 have hw : Region.wanted op (yielded ops a.tmps) = true := by simp [Region.wanted, hgd]
 rw [if_pos hw]
 obtain ⟨w', hrun, h2, h3, h4⟩ := copy_rowf hr hk src op.type hn hpos
 unfold Oper.wp execOp
 simp only [ho, resolve, invoke, builtin, Sem.run_bind, Sem.run_pure, Result.andThen_ok, List.map_toArray, List.map_cons, List.map_nil, hd, hs]
 rw [hrun]
 exact h w' h2 h3 h4
end Go.Proofs.YtijlccblabadaaaGreat.mm
end
section
namespace Go.Proofs.YtijlccblabadaaaGreat.mm
set_option maxRecDepth 100000
open Go.ChangeShapes Go.WideShapes Go.ChangeAt Go.RowKit Go.Proofs.YtijlccblabadaaaGreat.k
set_option linter.unusedVariables false
theorem push_at {L : List Int} {p : Int} {i len : Nat} (hi : i < L.length) (hl : L.length = len) : (p :: L.take (L.length - 1)).getD i 0 = if 1 ≤ i ∧ i < 1 + (len - 1) then L.getD (i - 1) 0 else if i = 0 then p else L.getD i 0 := by
 subst hl
 cases i with
 | zero => simp
 | succ j =>
  rw [if_pos ⟨by omega, by omega⟩, List.getD_eq_getElem?_getD, List.getElem?_cons_succ, List.getElem?_take, if_pos (by omega), List.getD_eq_getElem?_getD]
  rfl
theorem new_row {w w' : World} {gr len cap : Nat} {L K : List Int} (hg : w.heap.size ≤ gr) (hc : len ≤ cap) (hm : cap ≤ maxLen) (hr : RowF w' gr len (fun i => L.getD i 0)) (hl : L.length = len) (e : L = K) : NewRow w w' (some ⟨gr, 0, none⟩) len cap K := by
 subst e
 exact ⟨hr.win hl hc hm (fun _ _ => rfl), (fun b off s e => by injection e with e; injection e with e; exact .inr (by omega)), fun _ => ⟨gr, rfl, hg, hr⟩⟩
set_option maxHeartbeats 4000000 in
theorem push_from (L : List Int) (p : Int) (hl : L.length ≤ 100) {A : Option Addr} {len cap B : Nat} {w : World} (h : Win w B A len cap L) (hB : B ≤ w.heap.size) :
  Calls Tryz.prog 77 #[.agg #[.slice A len cap], .int .i64 p] w (GotF w A (pushW L p)) := by
 obtain ⟨w1, e1, V1, b1, z1⟩ := boxed w (.slice A len cap)
 obtain ⟨w2, e2, V2, b2, z2⟩ := boxed w1 (.slice none 0 0)
 have X1 := lh (V1.under b2)
 rw [z1] at V2
 have X2 := lh V2
 have HB := lh (b1.trans (b2.mono b1.size))
 have HL := lh h.1
 have HW := lh (((h.more hB).below HB.out).more HB.out.size)
 have HWw := lh (h.more hB)
 have C := lh fun (W : World) (h : Win W W.heap.size A len cap L) => again_any L hl h (Nat.le_refl _)
 have R := lh fun (W : World) (h : Win W W.heap.size A len cap L) => isright_any L h (Nat.le_refl _)
 have hd : w.heap.size + 1 < w2.heap.size := by omega
 have e2' : (w.alloc (.cells #[.slice A len cap] 28)).alloc (.cells #[.slice none 0 0] 28) = w2 := by rw [e1, e2]
 clear h V1 V2 b1 b2 e1 e2
 by_cases hr : RightW L
 ·have RT := lh (show _ from (rightB_yes hr) ▸ R.out)
  clear R
  by_cases hp : inP p
  ·have HX : Hid (p :: L.take (L.length - 1) = pushW L p) := lh (pushW_yes hr hp).symm
   have hl0 : 0 < len := by rw [← HL.out]; exact hr.1
   have HLe : Hid ((p :: L.take (L.length - 1)).length = len) := lh (by rw [push_len hr]; exact HL.out)
   have P := lh fun W => iplace_yes hp W
   clear hp
   have c1 := X1.out.var.cell
   go_enter Tryz.func77, Tryz.ntmps77
   go_wp2_with (go_at_call 111; fail)
   refine (C.out _ HW.out).mono ?_
   rintro e w3 ⟨A3, l3, rfl, hN, hb⟩
   clear c1
   obtain ⟨w4, e4, V4, b4, z4⟩ := boxed w3 (.slice none 0 0)
   obtain ⟨w5, e5, V5, h5, hN5⟩ := put_result V4 (.slice A3 len l3)
   have z3 : w2.heap.size ≤ w3.heap.size := hb.size
   have z5 : w5.heap.size = w4.heap.size := by rw [← e5]; simp
   have b34 := b4.trans (h5 _ (Nat.le_refl _))
   have X15 := lh ((X1.out.under hb).under b34)
   have X25 := lh ((X2.out.under hb).under b34)
   have X5 := lh V5
   have HB5 := lh ((HB.out.trans (hb.mono HB.out.size)).trans (b34.mono (HB.out.trans (hb.mono HB.out.size)).size))
   have HN5 := lh (hN5 ((hN.from HB.out.size).under b4))
   have HW5 := lh ((HWw.out.below HB5.out).more HB5.out.size)
   have hc4 := V4.var.cell
   have hf4 := V4.var.frozen 0
   have hx1 := X15.out.var.cell
   have hd4 : w.heap.size + 1 < w3.heap.size := by omega
   clear hb hN hN5 h5 b34 b4 V4 V5
   go_wp2_with (go_at_call 55; fail)
   refine (RT.out _ HW5.out).mono ?_
   rintro e w6 ⟨rfl, hb⟩
   have X16 := lh (X15.out.under hb)
   have X26 := lh (X25.out.under hb)
   have X6 := lh (X5.out.under hb)
   have HB6 := lh (HB5.out.trans (hb.mono HB5.out.size))
   have HN6 := lh (HN5.out.under hb)
   have z6 : w5.heap.size ≤ w6.heap.size := hb.size
   clear hb
   go_wp2_with (go_at_call 81; fail)
   refine (P.out _).mono ?_
   rintro e w6' ⟨rfl, rfl⟩
   obtain ⟨gr, rfl, hgr, hr6⟩ := HN6.out.2.2 hl0
   have n1 := hr6.ne X16.out
   have n2 := hr6.ne X26.out
   have n6 := hr6.ne X6.out
   obtain ⟨w7, e7⟩ : ∃ W, w6.setCell ⟨gr, 0, none⟩ (.int .i64 p) = W := ⟨_, rfl⟩
   have R7 := lh (e7 ▸ hr6.set hl0 p)
   have X17 := lh (e7 ▸ X16.out.aside (p := ⟨gr, 0, none⟩) n1 _)
   have X27 := lh (e7 ▸ X26.out.aside (p := ⟨gr, 0, none⟩) n2 _)
   have X7 := lh (e7 ▸ X6.out.aside (p := ⟨gr, 0, none⟩) n6 _)
   have HB7 := lh (e7 ▸ HB6.out.setCell (p := ⟨gr, 0, none⟩) hgr _)
   have z7 : w7.heap.size = w6.heap.size := by rw [← e7]; simp
   have hcr := hr6.cell hl0
   have hfr := hr6.frozen 0
   have hc6 := X6.out.var.cell
   have hc7 := X7.out.var.cell
   have hc17 := X17.out.var.cell
   have HLC := lh (HN6.out.1.2.1)
   have HCM := lh (HN6.out.1.2.2.1)
   have hl1 : (1 : Int) ≤ (len : Int) := by omega
   have hlc : (len : Int) ≤ (l3 : Int) := by have := HLC.out; omega
   clear hr6
   go_upto_region 4 with fail
   refine wp_region_T (by kernel_rfl) (fun w' => w'.cell? ⟨w3.heap.size, 0, none⟩ = some (.slice (some ⟨gr, 0, none⟩) len l3) ∧ w'.cell? ⟨w.heap.size, 0, none⟩ = some (.slice A len cap)) [5] ⟨hc7, hc17⟩ (fun hHeld => ?_)
   refine tk 0 rfl ?_ ?_ ?_
   rotate_left
   ·intro w_ hSw; obtain ⟨hs1, hs2⟩ := hSw; go_simp <;> (with_reducible rfl)
   try go_simp
   refine tk 1 rfl ?_ ?_ ?_
   rotate_left
   ·intro w_ hSw; obtain ⟨hs1, hs2⟩ := hSw; go_simp <;> (with_reducible rfl)
   try go_simp
   refine tk 2 rfl ?_ ?_ ?_
   rotate_left
   ·intro w_ hSw; obtain ⟨hs1, hs2⟩ := hSw; go_simp <;> (with_reducible rfl)
   try go_simp
   refine tk 3 rfl ?_ ?_ ?_
   rotate_left
   ·intro w_ hSw; obtain ⟨hs1, hs2⟩ := hSw; go_simp <;> (with_reducible rfl)
   try go_simp
   refine tk 4 rfl ?_ ?_ ?_
   rotate_left
   ·intro w_ hSw; obtain ⟨hs1, hs2⟩ := hSw; go_simp <;> (with_reducible rfl)
   try go_simp
   refine ry [5] ?_
   refine AllReadyT.spoilt rfl (by kernel_rfl) (fun K hK => ?_) AllReadyT.nil
   refine step_copy_rowf (w := w7.drew) rfl (.tmp 20) (.tmp 22) rfl (show RowF w7.drew gr len _ from R7.out) 1 (len - 1) (by omega) (fun i => L.getD i 0) rfl rfl (Nat.min_eq_right (Nat.sub_le _ _)).symm ?_ ?_
   ·intro hk
    have hw8 := HWw.out.below HB7.out
    obtain ⟨b, off, rfl, hb, hc⟩ := hw8.2.2.2.2 hl0
    exact ⟨if_neg (by have := HLC.out; omega), b, off, rfl, fun i hi => hc i (by omega)⟩
   intro w8 hr8 hg8 z8
   have X18 := lh (X17.out.drew.grown hg8 (fun e => n1 (Option.some.inj e).symm))
   have X28 := lh (X27.out.drew.grown hg8 (fun e => n2 (Option.some.inj e).symm))
   have X8 := lh (X7.out.drew.grown hg8 (fun e => n6 (Option.some.inj e).symm))
   have HB8 := lh (HB7.out.drew.grown hg8 HB7.out.size (fun b hb => by injection hb with hb; omega))
   have HNe : Hid (NewRow w w8 (some ⟨gr, 0, none⟩) len l3 (pushW L p)) := lh (new_row hgr HLC.out HCM.out (hr8.cong (fun i hi => (push_at (L := L) (p := p) (by rw [HL.out]; exact hi) HL.out).symm)) HLe.out HX.out)
   clear hr8 hg8
   refine hK.out _ _ ?_
   clear hK K
   try go_simp
   refine wpAnyT_done (by kernel_rfl) ?_ _
   have hcx := X8.out.var.cell
   clear hHeld
   obtain ⟨wz, ez, VZ, hz, hNz⟩ := put_result X28.out (.slice (some ⟨gr, 0, none⟩) len l3)
   have hcz := X28.out.var.cell
   have hfz := X28.out.var.frozen 0
   have hcn := X8.out.var.cell
   have HBz := lh (HB8.out.trans (hz _ (by omega)))
   have HNz := lh (hNz HNe.out)
   clear hz hNz
   go_wp2
   all_goals refine bodyPost_ret (k.results_cell rfl rfl (run_loadVar_mid wz (w.heap.size + 1) 0 28 _ _ VZ.range rfl rfl (by kernel_rfl))) rfl ?_
   all_goals exact ⟨_, len, l3, rfl, ⟨HNz.out.1, HNz.out.got A⟩, HBz.out⟩
  ·clear hr
   have HX : Hid (pushW L p = L) := lh (pushW_no fun h => hp h.2)
   have P := lh fun W => iplace_no hp W
   clear hp
   have c1 := X1.out.var.cell
   go_enter Tryz.func77, Tryz.ntmps77
   go_wp2_with (go_at_call 111; fail)
   refine (C.out _ HW.out).mono ?_
   rintro e w3 ⟨A3, l3, rfl, hN, hb⟩
   clear c1
   obtain ⟨w4, e4, V4, b4, z4⟩ := boxed w3 (.slice none 0 0)
   obtain ⟨w5, e5, V5, h5, hN5⟩ := put_result V4 (.slice A3 len l3)
   have z3 : w2.heap.size ≤ w3.heap.size := hb.size
   have z5 : w5.heap.size = w4.heap.size := by rw [← e5]; simp
   have b34 := b4.trans (h5 _ (Nat.le_refl _))
   have X15 := lh ((X1.out.under hb).under b34)
   have X25 := lh ((X2.out.under hb).under b34)
   have X5 := lh V5
   have HB5 := lh ((HB.out.trans (hb.mono HB.out.size)).trans (b34.mono (HB.out.trans (hb.mono HB.out.size)).size))
   have HN5 := lh (hN5 ((hN.from HB.out.size).under b4))
   have HW5 := lh ((HWw.out.below HB5.out).more HB5.out.size)
   have hc4 := V4.var.cell
   have hf4 := V4.var.frozen 0
   have hx1 := X15.out.var.cell
   have hd4 : w.heap.size + 1 < w3.heap.size := by omega
   clear hb hN hN5 h5 b34 b4 V4 V5
   go_wp2_with (go_at_call 55; fail)
   refine (RT.out _ HW5.out).mono ?_
   rintro e w6 ⟨rfl, hb⟩
   have X16 := lh (X15.out.under hb)
   have X26 := lh (X25.out.under hb)
   have X6 := lh (X5.out.under hb)
   have HB6 := lh (HB5.out.trans (hb.mono HB5.out.size))
   have HN6 := lh (HN5.out.under hb)
   have z6 : w5.heap.size ≤ w6.heap.size := hb.size
   clear hb
   go_wp2_with (go_at_call 81; fail)
   refine (P.out _).mono ?_
   rintro e w6' ⟨rfl, rfl⟩
   have HNe : Hid (NewRow w w6 A3 len l3 (pushW L p)) := lh (by rw [HX.out]; exact HN6.out)
   obtain ⟨wz, ez, VZ, hz, hNz⟩ := put_result X26.out (.slice A3 len l3)
   have hcz := X26.out.var.cell
   have hfz := X26.out.var.frozen 0
   have hcn := X6.out.var.cell
   have HBz := lh (HB6.out.trans (hz _ (by omega)))
   have HNz := lh (hNz HNe.out)
   clear hz hNz
   go_wp2
   all_goals refine bodyPost_ret (k.results_cell rfl rfl (run_loadVar_mid wz (w.heap.size + 1) 0 28 _ _ VZ.range rfl rfl (by kernel_rfl))) rfl ?_
   all_goals exact ⟨_, len, l3, rfl, ⟨HNz.out.1, HNz.out.got A⟩, HBz.out⟩
 ·have RT := lh (show _ from (rightB_no hr) ▸ R.out)
  have HX : Hid (pushW L p = L) := lh (pushW_no fun h => hr h.1)
  clear R hr
  have c1 := X1.out.var.cell
  go_enter Tryz.func77, Tryz.ntmps77
  go_wp2_with (go_at_call 111; fail)
  refine (C.out _ HW.out).mono ?_
  rintro e w3 ⟨A3, l3, rfl, hN, hb⟩
  clear c1
  obtain ⟨w4, e4, V4, b4, z4⟩ := boxed w3 (.slice none 0 0)
  obtain ⟨w5, e5, V5, h5, hN5⟩ := put_result V4 (.slice A3 len l3)
  have z3 : w2.heap.size ≤ w3.heap.size := hb.size
  have z5 : w5.heap.size = w4.heap.size := by rw [← e5]; simp
  have b34 := b4.trans (h5 _ (Nat.le_refl _))
  have X15 := lh ((X1.out.under hb).under b34)
  have X25 := lh ((X2.out.under hb).under b34)
  have X5 := lh V5
  have HB5 := lh ((HB.out.trans (hb.mono HB.out.size)).trans (b34.mono (HB.out.trans (hb.mono HB.out.size)).size))
  have HN5 := lh (hN5 ((hN.from HB.out.size).under b4))
  have HW5 := lh ((HWw.out.below HB5.out).more HB5.out.size)
  have hc4 := V4.var.cell
  have hf4 := V4.var.frozen 0
  have hx1 := X15.out.var.cell
  have hd4 : w.heap.size + 1 < w3.heap.size := by omega
  clear hb hN hN5 h5 b34 b4 V4 V5
  go_wp2_with (go_at_call 55; fail)
  refine (RT.out _ HW5.out).mono ?_
  rintro e w6 ⟨rfl, hb⟩
  have X16 := lh (X15.out.under hb)
  have X26 := lh (X25.out.under hb)
  have X6 := lh (X5.out.under hb)
  have HB6 := lh (HB5.out.trans (hb.mono HB5.out.size))
  have HN6 := lh (HN5.out.under hb)
  have z6 : w5.heap.size ≤ w6.heap.size := hb.size
  clear hb
  have HNe : Hid (NewRow w w6 A3 len l3 (pushW L p)) := lh (by rw [HX.out]; exact HN6.out)
  obtain ⟨wz, ez, VZ, hz, hNz⟩ := put_result X26.out (.slice A3 len l3)
  have hcz := X26.out.var.cell
  have hfz := X26.out.var.frozen 0
  have hcn := X6.out.var.cell
  have HBz := lh (HB6.out.trans (hz _ (by omega)))
  have HNz := lh (hNz HNe.out)
  clear hz hNz
  go_wp2
  all_goals refine bodyPost_ret (k.results_cell rfl rfl (run_loadVar_mid wz (w.heap.size + 1) 0 28 _ _ VZ.range rfl rfl (by kernel_rfl))) rfl ?_
  all_goals exact ⟨_, len, l3, rfl, ⟨HNz.out.1, HNz.out.got A⟩, HBz.out⟩
end Go.Proofs.YtijlccblabadaaaGreat.mm
end
section
namespace Go.Proofs.YtijlccblabadaaaGreat.mm
set_option maxRecDepth 100000
open Go.ChangeShapes Go.WideShapes Go.ChangeAt Go.RowKit Go.Proofs.YtijlccblabadaaaGreat.k
set_option linter.unusedVariables false
theorem shiftW_yes {L : List Int} {d : Int} (h : RightW L) (hd : ∀ x ∈ L, inP (x + d)) : shiftW L d = L.map (· + d) := if_pos ⟨h, hd⟩
theorem shiftW_no {L : List Int} {d : Int} (h : ¬ (RightW L ∧ ∀ x ∈ L, inP (x + d))) : shiftW L d = L := if_neg h
set_option maxHeartbeats 4000000 in
theorem shift_from (L : List Int) (d : Int) (hl : L.length ≤ 100) {A : Option Addr} {len cap B : Nat} {w : World} (h : Win w B A len cap L) (hB : B ≤ w.heap.size) :
  Calls Tryz.prog 152 #[.agg #[.slice A len cap], .int .i64 d] w (GotF w A (shiftW L d)) := by
 obtain ⟨w1, e1, V1, b1, z1⟩ := boxed w (.slice A len cap)
 obtain ⟨w2, e2, V2, b2, z2⟩ := boxed w1 (.slice none 0 0)
 have X1 := lh (V1.under b2)
 rw [z1] at V2
 have X2 := lh V2
 have HB := lh (b1.trans (b2.mono b1.size))
 have HL := lh h.1
 have HW := lh (((h.more hB).below HB.out).more HB.out.size)
 have HWw := lh (h.more hB)
 have C := lh fun (W : World) (h : Win W W.heap.size A len cap L) => again_any L hl h (Nat.le_refl _)
 have R := lh fun (W : World) (h : Win W W.heap.size A len cap L) => isright_any L h (Nat.le_refl _)
 have hd : w.heap.size + 1 < w2.heap.size := by omega
 have e2' : (w.alloc (.cells #[.slice A len cap] 28)).alloc (.cells #[.slice none 0 0] 28) = w2 := by rw [e1, e2]
 clear h V1 V2 b1 b2 e1 e2
 by_cases hr : RightW L
 ·have RT := lh (show _ from (rightB_yes hr) ▸ R.out)
  clear R
  by_cases hm : ∀ x ∈ L, inP (x + d)
  ·have M := lh fun (W : World) (h : Win W W.heap.size A len cap L) => (show mayB L d = true from decide_eq_true hm) ▸ mayshift_any L d hr h (Nat.le_refl _)
   have HX : Hid (shiftW L d = L.map (· + d)) := lh (shiftW_yes hr hm)
   have hl0 : 0 < len := by rw [← HL.out]; exact hr.1
   have HM := lh hm
   have HR := lh hr
   have HLe : Hid ((L.map (· + d)).length = len) := lh (by rw [List.length_map]; exact HL.out)
   have h16 : len ≤ 16 := by rw [← HL.out]; exact hr.2.1
   clear hm hr
   have c1 := X1.out.var.cell
   go_enter Tryz.func152, Tryz.ntmps152
   go_wp2_with (go_at_call 111; fail)
   refine (C.out _ HW.out).mono ?_
   rintro e w3 ⟨A3, l3, rfl, hN, hb⟩
   clear c1
   obtain ⟨w4, e4, V4, b4, z4⟩ := boxed w3 (.slice none 0 0)
   obtain ⟨w5, e5, V5, h5, hN5⟩ := put_result V4 (.slice A3 len l3)
   have z3 : w2.heap.size ≤ w3.heap.size := hb.size
   have z5 : w5.heap.size = w4.heap.size := by rw [← e5]; simp
   have b34 := b4.trans (h5 _ (Nat.le_refl _))
   have X15 := lh ((X1.out.under hb).under b34)
   have X25 := lh ((X2.out.under hb).under b34)
   have X5 := lh V5
   have HB5 := lh ((HB.out.trans (hb.mono HB.out.size)).trans (b34.mono (HB.out.trans (hb.mono HB.out.size)).size))
   have HN5 := lh (hN5 ((hN.from HB.out.size).under b4))
   have HW5 := lh ((HWw.out.below HB5.out).more HB5.out.size)
   have hc4 := V4.var.cell
   have hf4 := V4.var.frozen 0
   have hx1 := X15.out.var.cell
   have hd4 : w.heap.size + 1 < w3.heap.size := by omega
   clear hb hN hN5 h5 b34 b4 V4 V5
   go_wp2_with (go_at_call 55; fail)
   refine (RT.out _ HW5.out).mono ?_
   rintro e w6 ⟨rfl, hb⟩
   have X16 := lh (X15.out.under hb)
   have X26 := lh (X25.out.under hb)
   have X6 := lh (X5.out.under hb)
   have HB6 := lh (HB5.out.trans (hb.mono HB5.out.size))
   have HN6 := lh (HN5.out.under hb)
   have z6 : w5.heap.size ≤ w6.heap.size := hb.size
   clear hb
   have HW6 := lh ((HWw.out.below HB6.out).more HB6.out.size)
   have hx6 := X16.out.var.cell
   clear hx1
   go_wp2_with (go_at_call 163; fail)
   refine (M.out _ HW6.out).mono ?_
   rintro e w7 ⟨rfl, hb⟩
   clear hx6
   have X27 := lh (X26.out.under hb)
   have X7 := lh (X6.out.under hb)
   have HB7 := lh (HB6.out.trans (hb.mono HB6.out.size))
   have HN7 := lh (HN6.out.under hb)
   clear hb
   obtain ⟨gr, rfl, hgr, hr7⟩ := HN7.out.2.2 hl0
   have n2 := hr7.ne X27.out
   have n6 := hr7.ne X7.out
   have HR7 : Hid (RowF w7 gr len (mf true d L 0)) := lh (hr7.cong (fun i hi => (mf_start true d L i).symm))
   have HLC := lh (HN7.out.1.2.1)
   have HCM := lh (HN7.out.1.2.2.1)
   have hc7 := X7.out.var.cell
   clear hr7
   go_wp2
   clear hc7
   go_loopw [19] (fun i wr => ∃ j : Nat, j ≤ len ∧ i = .int .i64 j ∧ RowF wr gr len (mf true d L j) ∧ VarS wr (w.heap.size + 1) (.slice none 0 0) ∧ VarS wr w3.heap.size (.slice (some ⟨gr, 0, none⟩) len l3) ∧ Below w.heap.size w wr) (fun i _ => len - (intOf i).toNat)
   case atStart => exact ⟨0, Nat.zero_le _, rfl, HR7.out, X27.out, X7.out, HB7.out⟩
   case round =>
    obtain ⟨j, hj, rfl, hR, hX2, hX5, hBw⟩ := hrel
    have RR := lh hR
    have Y2 := lh hX2
    have Y5 := lh hX5
    have YB := lh hBw
    clear hR hX2 hX5 hBw
    by_cases hlt : j < len
    ·have hj0 : (0 : Int) ≤ (j : Int) := by omega
     have hj1 : (j : Int) < (len : Int) := by omega
     have hcr := RR.out.cell hlt
     have hfr := RR.out.frozen j
     rw [mf_at] at hcr
     have hin := HR.out.at (i := j) (by rw [HL.out]; exact hlt)
     have hin2 := list_at.1 HM.out j (by rw [HL.out]; exact hlt)
     have hset := RR.out.set hlt (L.getD j 0 + d)
     have hgo : ∀ i, i < len → (if i = j then L.getD j 0 + d else mf true d L j i) = mf true d L (j + 1) i := fun i _ => mf_step i
     have YR := lh (hset.cong hgo)
     clear hset hgo
     generalize L.getD j 0 = x at *
     obtain ⟨i1, i2⟩ := hin
     obtain ⟨i3, i4⟩ := hin2
     have hwr : IntKind.i64.wrap (x + d) = x + d := by rw [IntKind.wrap_i64]; omega
     have hc5 := Y5.out.var.cell
     go_wp2
     go_roundw
     case rel => exact ⟨j + 1, by omega, by go_num, YR.out, Y2.out.aside (p := ⟨gr, j, none⟩) n2 _, Y5.out.aside (p := ⟨gr, j, none⟩) n6 _, YB.out.setCell (p := ⟨gr, j, none⟩) hgr _⟩
     case measure => simp [intOf]; omega
    ·have hjl : len = j := by omega
     subst hjl
     have HNe : Hid (NewRow w wr (some ⟨gr, 0, none⟩) len l3 (shiftW L d)) := lh (new_row hgr HLC.out HCM.out (RR.out.cong (fun i hi => by have := mf_end (L := L) (d := d) (i := i) (by rw [HL.out]; exact hi); rwa [HL.out] at this)) HLe.out HX.out.symm)
     obtain ⟨wz, ez, VZ, hz, hNz⟩ := put_result Y2.out (.slice (some ⟨gr, 0, none⟩) len l3)
     have hcz := Y2.out.var.cell
     have hfz := Y2.out.var.frozen 0
     have hcn := Y5.out.var.cell
     have HBz := lh (YB.out.trans (hz _ (by omega)))
     have HNz := lh (hNz HNe.out)
     clear hz hNz
     go_wp2
     all_goals refine bodyPost_ret (k.results_cell rfl rfl (run_loadVar_mid wz (w.heap.size + 1) 0 28 _ _ VZ.range rfl rfl (by kernel_rfl))) rfl ?_
     all_goals exact ⟨_, len, l3, rfl, ⟨HNz.out.1, HNz.out.got A⟩, HBz.out⟩
  ·have M := lh fun (W : World) (h : Win W W.heap.size A len cap L) => (show mayB L d = false from decide_eq_false hm) ▸ mayshift_any L d hr h (Nat.le_refl _)
   have HX : Hid (shiftW L d = L) := lh (shiftW_no fun h => hm h.2)
   clear hm hr
   have c1 := X1.out.var.cell
   go_enter Tryz.func152, Tryz.ntmps152
   go_wp2_with (go_at_call 111; fail)
   refine (C.out _ HW.out).mono ?_
   rintro e w3 ⟨A3, l3, rfl, hN, hb⟩
   clear c1
   obtain ⟨w4, e4, V4, b4, z4⟩ := boxed w3 (.slice none 0 0)
   obtain ⟨w5, e5, V5, h5, hN5⟩ := put_result V4 (.slice A3 len l3)
   have z3 : w2.heap.size ≤ w3.heap.size := hb.size
   have z5 : w5.heap.size = w4.heap.size := by rw [← e5]; simp
   have b34 := b4.trans (h5 _ (Nat.le_refl _))
   have X15 := lh ((X1.out.under hb).under b34)
   have X25 := lh ((X2.out.under hb).under b34)
   have X5 := lh V5
   have HB5 := lh ((HB.out.trans (hb.mono HB.out.size)).trans (b34.mono (HB.out.trans (hb.mono HB.out.size)).size))
   have HN5 := lh (hN5 ((hN.from HB.out.size).under b4))
   have HW5 := lh ((HWw.out.below HB5.out).more HB5.out.size)
   have hc4 := V4.var.cell
   have hf4 := V4.var.frozen 0
   have hx1 := X15.out.var.cell
   have hd4 : w.heap.size + 1 < w3.heap.size := by omega
   clear hb hN hN5 h5 b34 b4 V4 V5
   go_wp2_with (go_at_call 55; fail)
   refine (RT.out _ HW5.out).mono ?_
   rintro e w6 ⟨rfl, hb⟩
   have X16 := lh (X15.out.under hb)
   have X26 := lh (X25.out.under hb)
   have X6 := lh (X5.out.under hb)
   have HB6 := lh (HB5.out.trans (hb.mono HB5.out.size))
   have HN6 := lh (HN5.out.under hb)
   have z6 : w5.heap.size ≤ w6.heap.size := hb.size
   clear hb
   have HW6 := lh ((HWw.out.below HB6.out).more HB6.out.size)
   have hx6 := X16.out.var.cell
   clear hx1
   go_wp2_with (go_at_call 163; fail)
   refine (M.out _ HW6.out).mono ?_
   rintro e w7 ⟨rfl, hb⟩
   clear hx6
   have X27 := lh (X26.out.under hb)
   have X7 := lh (X6.out.under hb)
   have HB7 := lh (HB6.out.trans (hb.mono HB6.out.size))
   have HN7 := lh (HN6.out.under hb)
   clear hb
   have HNe : Hid (NewRow w w7 A3 len l3 (shiftW L d)) := lh (by rw [HX.out]; exact HN7.out)
   obtain ⟨wz, ez, VZ, hz, hNz⟩ := put_result X27.out (.slice A3 len l3)
   have hcz := X27.out.var.cell
   have hfz := X27.out.var.frozen 0
   have hcn := X7.out.var.cell
   have HBz := lh (HB7.out.trans (hz _ (by omega)))
   have HNz := lh (hNz HNe.out)
   clear hz hNz
   go_wp2
   all_goals refine bodyPost_ret (k.results_cell rfl rfl (run_loadVar_mid wz (w.heap.size + 1) 0 28 _ _ VZ.range rfl rfl (by kernel_rfl))) rfl ?_
   all_goals exact ⟨_, len, l3, rfl, ⟨HNz.out.1, HNz.out.got A⟩, HBz.out⟩
 ·have RT := lh (show _ from (rightB_no hr) ▸ R.out)
  have HX : Hid (shiftW L d = L) := lh (shiftW_no fun h => hr h.1)
  clear R hr
  have c1 := X1.out.var.cell
  go_enter Tryz.func152, Tryz.ntmps152
  go_wp2_with (go_at_call 111; fail)
  refine (C.out _ HW.out).mono ?_
  rintro e w3 ⟨A3, l3, rfl, hN, hb⟩
  clear c1
  obtain ⟨w4, e4, V4, b4, z4⟩ := boxed w3 (.slice none 0 0)
  obtain ⟨w5, e5, V5, h5, hN5⟩ := put_result V4 (.slice A3 len l3)
  have z3 : w2.heap.size ≤ w3.heap.size := hb.size
  have z5 : w5.heap.size = w4.heap.size := by rw [← e5]; simp
  have b34 := b4.trans (h5 _ (Nat.le_refl _))
  have X15 := lh ((X1.out.under hb).under b34)
  have X25 := lh ((X2.out.under hb).under b34)
  have X5 := lh V5
  have HB5 := lh ((HB.out.trans (hb.mono HB.out.size)).trans (b34.mono (HB.out.trans (hb.mono HB.out.size)).size))
  have HN5 := lh (hN5 ((hN.from HB.out.size).under b4))
  have HW5 := lh ((HWw.out.below HB5.out).more HB5.out.size)
  have hc4 := V4.var.cell
  have hf4 := V4.var.frozen 0
  have hx1 := X15.out.var.cell
  have hd4 : w.heap.size + 1 < w3.heap.size := by omega
  clear hb hN hN5 h5 b34 b4 V4 V5
  go_wp2_with (go_at_call 55; fail)
  refine (RT.out _ HW5.out).mono ?_
  rintro e w6 ⟨rfl, hb⟩
  have X16 := lh (X15.out.under hb)
  have X26 := lh (X25.out.under hb)
  have X6 := lh (X5.out.under hb)
  have HB6 := lh (HB5.out.trans (hb.mono HB5.out.size))
  have HN6 := lh (HN5.out.under hb)
  have z6 : w5.heap.size ≤ w6.heap.size := hb.size
  clear hb
  have HNe : Hid (NewRow w w6 A3 len l3 (shiftW L d)) := lh (by rw [HX.out]; exact HN6.out)
  obtain ⟨wz, ez, VZ, hz, hNz⟩ := put_result X26.out (.slice A3 len l3)
  have hcz := X26.out.var.cell
  have hfz := X26.out.var.frozen 0
  have hcn := X6.out.var.cell
  have HBz := lh (HB6.out.trans (hz _ (by omega)))
  have HNz := lh (hNz HNe.out)
  clear hz hNz
  go_wp2
  all_goals refine bodyPost_ret (k.results_cell rfl rfl (run_loadVar_mid wz (w.heap.size + 1) 0 28 _ _ VZ.range rfl rfl (by kernel_rfl))) rfl ?_
  all_goals exact ⟨_, len, l3, rfl, ⟨HNz.out.1, HNz.out.got A⟩, HBz.out⟩
end Go.Proofs.YtijlccblabadaaaGreat.mm
end
section
namespace Go.Proofs.YtijlccblabadaaaGreat.mm
set_option maxRecDepth 100000
open Go.ChangeShapes Go.WideShapes Go.ChangeAt Go.RowKit Go.Proofs.YtijlccblabadaaaGreat.k
set_option linter.unusedVariables false
theorem one_of16 {m : Int} (h1 : 1 ≤ m) (h2 : m ≤ 16) : m = 1 ∨ m = 2 ∨ m = 3 ∨ m = 4 ∨ m = 5 ∨ m = 6 ∨ m = 7 ∨ m = 8 ∨ m = 9 ∨ m = 10 ∨ m = 11 ∨ m = 12 ∨ m = 13 ∨ m = 14 ∨ m = 15 ∨ m = 16 := by omega
set_option maxHeartbeats 4000000 in
theorem mul64_one {m : Int} (h1 : 1 ≤ m) (h2 : m ≤ 16) (w : World) : Calls Tryz.prog 140 #[.int .u64 1, .int .u64 m] w fun e w' => e = .returned (.tuple #[.int .u64 0, .int .u64 m]) ∧ w = w' := by
 rcases one_of16 h1 h2 with rfl | rfl | rfl | rfl | rfl | rfl | rfl | rfl | rfl | rfl | rfl | rfl | rfl | rfl | rfl | rfl
 all_goals (
  clear h1 h2
  go_enter Tryz.func140, Tryz.ntmps140
  go_wp2
  go_ret2
  exact ⟨rfl, rfl⟩)
set_option maxHeartbeats 1000000 in
theorem mul_one {m : Int} (h1 : 1 ≤ m) (h2 : m ≤ 16) (w : World) : Calls Tryz.prog 115 #[.int .u64 1, .int .u64 m] w fun e w' => e = .returned (.tuple #[.int .u64 0, .int .u64 m]) ∧ w = w' := by
 have C := lh fun W => mul64_one h1 h2 W
 go_enter Tryz.func115, Tryz.ntmps115
 go_wp2_with (go_at_call 140; ((with_reducible refine (C.out _).mono ?_); rintro e w' ⟨rfl, rfl⟩))
 go_ret2
 exact ⟨rfl, rfl⟩
theorem made_row (w : World) (M : Nat) : ∃ W, w.alloc (.cells (madeCells #[.int .i64 0] M) 2) = W ∧ RowF W w.heap.size M (fun _ => 0) ∧ Below w.heap.size w W ∧ W.heap.size = w.heap.size + 1 :=
 ⟨_, rfl, ⟨madeCells #[.int .i64 0] M, heap_alloc_new w _, by simp [madeCells], fun i hi => by simp [madeCells, hi, Nat.mod_one]⟩, (Below.refl _ _).alloc (Nat.le_refl _) _, by simp⟩
theorem make_int (w : World) (M : Nat) (h : M ≤ 16) : (Instr.makeSlice 26 (.int .i64 (M : Int)) (.int .i64 (M : Int))).run Tryz.prog w = .ok (.slice (some ⟨w.heap.size, 0, none⟩) M M) (w.alloc (.cells (madeCells #[.int .i64 0] M) 2)) := by
 obtain ⟨i0, hi0, hz0, hz1, hz2⟩ := info_parts int_info
 have := run_makeSlice (P := Tryz.prog) (w := w) 26 2 i0 (.int .i64 0) Tryz.underlying26 hi0 hz0 .i64 .i64 M M (by omega) (Int.le_refl _) (by rw [hz1]; omega) (by rw [hz2]; omega) (by omega)
 rw [hz1] at this
 simp only [Int.toNat_natCast, Nat.mul_one] at this
 exact this
set_option maxHeartbeats 4000000 in
theorem repeat_one (p : Int) {m : Int} (h1 : 1 ≤ m) (h2 : m ≤ 16) {g B : Nat} {w : World} (h : Win w B (some ⟨g, 0, none⟩) 1 1 [p]) (hB : B ≤ w.heap.size) :
  Calls Tryz.prog 82 #[.slice (some ⟨g, 0, none⟩) 1 1, .int .i64 m] w fun e w' => ∃ A' cap', e = .returned (.slice A' m.toNat cap') ∧ NewRow w w' A' m.toNat cap' (List.replicate m.toNat p) ∧ Below w.heap.size w w' := by
 obtain ⟨M, rfl⟩ : ∃ M : Nat, m = (M : Int) := ⟨m.toNat, by omega⟩
 have HM := lh (show 1 ≤ M ∧ M ≤ 16 by omega)
 have C := lh fun W => mul_one h1 h2 W
 have hm0 : ¬ ((M : Int) < 0) := by omega
 have hmp : (0 : Int) ≤ (M : Int) := by omega
 have hw1 : IntKind.u64.wrap (M : Int) = (M : Int) := by rw [IntKind.wrap_u64]; omega
 have hw2 : IntKind.i64.wrap (M : Int) = (M : Int) := by rw [IntKind.wrap_i64]; omega
 have HW := lh (h.more hB)
 obtain ⟨w1, e1, R1, b1, z1⟩ := made_row w M
 have hmk := make_int w M (by omega)
 rw [e1] at hmk
 have hcell := h.at (i := 0) (by omega)
 obtain ⟨b, off, e, hb, hc0⟩ := hcell
 injection e with e
 injection e with e2 e3
 subst e2 e3
 have hc1 : w1.cell? ⟨g, 0, none⟩ = some (.int .i64 p) := (b1.cell (p := ⟨g, 0, none⟩) (Nat.lt_of_lt_of_le hb hB)).trans hc0
 have HMin : Hid (1 = Nat.min 1 M) := lh (Nat.min_eq_left (by omega)).symm
 obtain ⟨w2, hrun, hr2, hg2, hz2⟩ := copy_rowf R1 (off := 0) (k := 1) (dp := some ⟨w.heap.size, 0, none⟩) (sp := some ⟨g, 0, none⟩) (dLen := M) (dCap := M) (sLen := 1) (sCap := 1) (by omega) (fun _ => p) 3 HMin.out (fun _ => ⟨rfl, g, 0, rfl, fun i hi => by rw [show 0 + i = 0 by omega]; exact hc1⟩)
 have HR2 : Hid (RowF w2 w.heap.size M (fun i => if i < 1 then p else 0)) := lh (hr2.cong (fun i _ => by simp))
 have HB2 := lh (b1.grown hg2 b1.size (fun b hb => by injection hb with hb; omega))
 clear hr2 hg2 hz2
 clear h hc0 R1 b1 hc1 e1
 go_enter Tryz.func82, Tryz.ntmps82
 go_wp2_with (go_at_call 115; fail)
 refine (C.out _).mono ?_
 rintro e w' ⟨rfl, rfl⟩
 go_wp2
 go_loopw [8] (fun i wr => ∃ j : Nat, 1 ≤ j ∧ j ≤ M ∧ i = .int .i64 j ∧ RowF wr w.heap.size M (fun i => if i < j then p else 0) ∧ Below w.heap.size w wr) (fun i _ => M - (intOf i).toNat)
 case atStart => exact ⟨1, Nat.le_refl _, by have := HM.out; omega, by go_num, HR2.out, HB2.out⟩
 case round =>
  obtain ⟨j, hj1, hj, rfl, hR, hBw⟩ := hrel
  have RR := lh hR
  have YB := lh hBw
  clear hR hBw
  by_cases hlt : j < M
  ·have hj0 : (0 : Int) ≤ (j : Int) := by omega
   have hj2 : (j : Int) < (M : Int) := by omega
   have hj3 : (j : Int) ≤ (M : Int) := by omega
   have hne : ¬ M = j := by omega
   have hne2 : ¬ j = M := by omega
   have hne0 : ¬ j = 0 := by omega
   obtain ⟨k, hk⟩ : ∃ k, Nat.min j (M - j) = k := ⟨_, rfl⟩
   have hk2 : k ≤ j ∧ k ≤ M - j ∧ 1 ≤ k := by rw [← hk]; refine ⟨Nat.min_le_left _ _, Nat.min_le_right _ _, ?_⟩; exact Nat.le_min.2 ⟨by omega, by omega⟩
   have HK := lh hk2
   have HK2 := lh hk
   have hadd : IntKind.i64.wrap ((j : Int) + (k : Int)) = (j : Int) + (k : Int) := by rw [IntKind.wrap_i64]; have := HM.out; omega
   clear hk2 hk
   go_wp2
   refine wp_region_T (by kernel_rfl) (fun _ => True) [] trivial (fun hHeld => ?_)
   refine tk0 0 rfl ?_ ?_ ?_
   rotate_left
   ·intro; go_simp <;> with_reducible rfl
   try go_simp
   refine tk0 1 rfl ?_ ?_ ?_
   rotate_left
   ·intro; go_simp <;> with_reducible rfl
   try go_simp
   refine tk0 2 rfl ?_ ?_ ?_
   rotate_left
   ·intro; go_simp <;> with_reducible rfl
   try go_simp
   refine tk0 3 rfl ?_ ?_ ?_
   rotate_left
   ·intro; go_simp <;> with_reducible rfl
   try go_simp
   refine tk0 4 rfl ?_ ?_ ?_
   rotate_left
   ·intro; go_simp <;> with_reducible rfl
   try go_simp
   refine tk0 5 rfl ?_ ?_ ?_
   rotate_left
   ·intro; go_simp <;> with_reducible rfl
   try go_simp
   refine tk0 6 rfl ?_ ?_ ?_
   rotate_left
   ·intro; go_simp <;> with_reducible rfl
   try go_simp
   refine ry [7] ?_
   refine ar1 rfl fun K hK => ?_
   refine step_copy_rowf (w := wr.drew) rfl (.tmp 41) (.tmp 44) rfl (show RowF wr.drew w.heap.size M _ from RR.out) j k (by have := HK.out; omega) (fun _ => p) rfl rfl HK2.out.symm ?_ ?_
   ·intro hk
    exact ⟨rfl, w.heap.size, 0, rfl, fun i hi => by
     rw [Nat.zero_add]
     have := HK.out
     have h2 := (show RowF wr.drew w.heap.size M _ from RR.out).cell (i := i) (by omega)
     rw [h2, if_pos (by omega)]⟩
   intro w8 hr8 hg8 z8
   have YR : Hid (RowF w8 w.heap.size M (fun i => if i < j + k then p else 0)) := lh (hr8.cong (fun i _ => by split <;> split <;> (try split) <;> (first | rfl | omega)))
   have YB8 := lh (YB.out.drew.grown hg8 YB.out.size (fun b hb => by injection hb with hb; omega))
   clear hr8 hg8 z8
   refine hK.out _ _ trivial (fun hHeld => ?_)
   clear hK K
   try go_simp
   refine tk0 8 rfl ?_ ?_ ?_
   rotate_left
   ·intro; go_simp <;> with_reducible rfl
   try go_simp
   refine tk0 9 rfl ?_ ?_ ?_
   rotate_left
   ·intro; go_simp <;> with_reducible rfl
   try go_simp
   refine wpAnyT_done (by kernel_rfl) ?_ _
   go_wp2
   go_roundw
   case rel => exact ⟨j + k, by have := HK.out; omega, by have := HK.out; omega, by go_num, YR.out, YB8.out⟩
   case measure => have := HK.out; simp [intOf]; omega
  ·have hjl : M = j := by omega
   subst hjl
   have HNe : Hid (NewRow w wr (some ⟨w.heap.size, 0, none⟩) M M (List.replicate M p)) := lh (new_row (Nat.le_refl _) (Nat.le_refl _) (by have := HM.out; unfold maxLen; omega) (RR.out.cong (fun i hi => by simp [hi])) (by simp) rfl)
   go_wp2
   go_ret
   exact ⟨_, M, rfl, HNe.out, YB.out⟩
end Go.Proofs.YtijlccblabadaaaGreat.mm
end
section
namespace Go.Proofs.YtijlccblabadaaaGreat.mm
set_option maxRecDepth 100000
open Go.ChangeShapes Go.WideShapes Go.ChangeAt Go.RowKit Go.Proofs.YtijlccblabadaaaGreat.k
set_option linter.unusedVariables false
set_option maxHeartbeats 2000000 in
theorem new_from {m p : Int} (h1 : 1 ≤ m) (h2 : m ≤ 16) (hp : inP p) (w : World) : Calls Tryz.prog 51 #[.int .i64 m, .int .i64 p] w (NewF w (List.replicate m.toNat p) 0) := by
 obtain ⟨w1, e1, V1, b1, z1⟩ := boxed w (.slice none 0 0)
 obtain ⟨w2, e2, W2, b2, z2⟩ : ∃ W, w1.alloc (.cells #[.int .i64 p] 2) = W ∧ Win W (w1.heap.size + 1) (some ⟨w1.heap.size, 0, none⟩) 1 1 [p] ∧ Below w1.heap.size w1 W ∧ W.heap.size = w1.heap.size + 1 := ⟨_, rfl, one_int w1 _ p, (Below.refl _ _).alloc (Nat.le_refl _) _, by simp⟩
 have X1 := lh (V1.under b2)
 have HB := lh (b1.trans (b2.mono b1.size))
 have P := lh fun W => iplace_yes hp W
 have hC := repeat_one p h1 h2 W2 (by omega)
 rw [z1] at hC
 have C := lh hC
 clear hC
 have g1 : ¬ m < 1 := by omega
 have g2 : ¬ 16 < m := by omega
 have hd : w.heap.size < w1.heap.size := by omega
 clear hp V1 b1 b2 W2
 have HC := lh C.out
 clear C
 generalize m.toNat = M at *
 obtain ⟨LR, hLR⟩ : ∃ LR, List.replicate M p = LR := ⟨_, rfl⟩
 rw [hLR] at HC ⊢
 clear hLR
 go_enter Tryz.func51, Tryz.ntmps51
 go_wp2_with (go_at_call 81; fail)
 refine (P.out _).mono ?_
 rintro e w1' ⟨rfl, rfl⟩
 go_wp2_with (go_at_call 82; fail)
 refine HC.out.mono ?_
 rintro e w3 ⟨A3, l3, rfl, hN, hb⟩
 obtain ⟨wz, ez, VZ, hz, hNz⟩ := put_result (X1.out.under hb) (.slice A3 M l3)
 have hcz := (X1.out.under hb).var.cell
 have hfz := (X1.out.under hb).var.frozen 0
 have HBz := lh ((HB.out.trans (hb.mono HB.out.size)).trans (hz _ (Nat.le_refl _)))
 have HNz := lh (hNz (hN.from HB.out.size))
 clear hz hNz hb hN
 go_wp2
 refine bodyPost_ret (k.results_cell_tmp rfl rfl (run_loadVar_mid wz w.heap.size 0 28 _ _ VZ.range rfl rfl (by kernel_rfl))) rfl ?_
 exact ⟨A3, _, l3, rfl, ⟨HNz.out.1, HNz.out.2.1⟩, HBz.out⟩
end Go.Proofs.YtijlccblabadaaaGreat.mm
end
