/- What makes a statement right, as the document's given function asks it. No condition. -/
import Derived.Test.YtdefgghhkknnpaaGreatDoorShFiC
import Derived.Test.YtdefgghhkknnpaaGreatDoorV05
import Derived.Test.YtdefgghhkknnpaaGreatDoorV06
import Derived.Test.YtdefgghhkknnpaaGreatDoorV02
namespace Go.Proofs.YtdefgghhkknnpaaGreatDoor.sh
open Go.ChangeShapes Go.WideShapes Go.ChangeAt Go.RowKit Go.Proofs.YtdefgghhkknnpaaGreatDoor Go.Proofs.YtdefgghhkknnpaaGreatDoor.k Go.Proofs.YtdefgghhkknnpaaGreatDoor.rr Go.Proofs.YtdefgghhkknnpaaGreatDoor.tk Go.Proofs.YtdefgghhkknnpaaGreatDoor.tr
set_option linter.unusedVariables false
set_option linter.unusedSimpArgs false

def inS9 (op : Int) : Bool := decide (1 ≤ op) && decide (op ≤ 9)
def hasN (op : Int) : Bool := op == 4 || op == 9
def hasD (op : Int) : Bool := op == 1
def hasV (op : Int) : Bool := op == 1 || (op == 3 || (op == 5 || op == 6))
/-- how many conditions, labels, fields, blocks a kind has; how many blocks more there may be -/
def cntS (op : Int) (c l f : Nat) : Nat × Nat × Nat × Nat × Nat :=
  if op = 2 then (max 1 c, 0, 0, max 1 c, 1) else if op = 3 then (0, l, 0, l, 1) else if op = 4 then (3, 0, 0, 1, 0)
  else if op = 5 ∨ op = 6 then (0, 0, 0, 1, 0) else if op = 9 then (f, 0, f, 0, 0) else (0, 0, 0, 0, 0)
def cntB (k : Nat × Nat × Nat × Nat × Nat) (c l f b : Nat) : Bool := c == k.1 && (l == k.2.1 && (f == k.2.2.1 && (decide (k.2.2.2.1 ≤ b) && decide (b ≤ k.2.2.2.1 + k.2.2.2.2))))
def dstB (h : Bool) (x : Ex) : Bool := if h = true then placeB x else noE x
def valB (h : Bool) (x : Ex) : Bool := if h = true then !noE x && exB x else noE x
theorem nm_ne {s : Str} (h : nmB s = true) : (s == []) = false := by
  cases s with
  | nil => exact absurd h (by decide)
  | cons _ _ => rfl
theorem place_no {x : Ex} (h : placeB x = true) : noE x = false := by
  obtain ⟨o, n, s, f, sub, l⟩ := x
  simp only [placeB, opE, Bool.and_eq_true, Bool.or_eq_true, beq_iff_eq] at h
  show (o == 0 && _) = false
  rw [neb (show o ≠ 0 by omega)]
  rfl
theorem not_emp (s : Str) : (s != []) = !(s == []) := rfl
set_option maxHeartbeats 4000000 in
theorem stB_fit (op : Int) (nm : Str) (dst val : Ex) (conds : List Ex) (labels : List (List Int)) (fields : List Str) (blocks : List (List St)) (ln : Int) :
    stB (.mk op nm dst val conds labels fields blocks ln) = (inS9 op && (nameB (hasN op) nm && (dstB (hasD op) dst && (valB (hasV op) val && (exsB conds && (cntB (cntS op conds.length labels.length fields.length) conds.length labels.length fields.length blocks.length && (fields.all nmB && (labels.all labB && blksB blocks)))))))) := by
  rw [stB, not_emp]
  have h1 := @nm_ne nm
  have h2 := @place_no dst
  unfold nameB dstB valB
  generalize nmB nm = b at *
  generalize (nm == []) = a at *
  generalize placeB dst = p at *
  generalize noE dst = d at *
  generalize noE val = v at *
  generalize exB val = x at *
  generalize exsB conds = y1 at *
  generalize fields.all nmB = y2 at *
  generalize labels.all labB = y3 at *
  generalize blksB blocks = y4 at *
  generalize conds.length = c at *
  generalize labels.length = l at *
  generalize fields.length = f at *
  generalize blocks.length = k at *
  have key : ∀ A B C : Bool, (A = B) → (A && C) = (B && C) := fun A B C h => by rw [h]
  rcases (show op = 1 ∨ op = 2 ∨ op = 3 ∨ op = 4 ∨ op = 5 ∨ op = 6 ∨ op = 7 ∨ op = 8 ∨ op = 9 ∨ (op < 1 ∨ 9 < op) by omega) with rfl | rfl | rfl | rfl | rfl | rfl | rfl | rfl | rfl | ho
  rotate_right 1
  · have e : inS9 op = false := by
      unfold inS9
      rw [Bool.eq_false_iff]
      simp
      omega
    rw [e, stOk, if_neg (by omega), if_neg (by omega), if_neg (by omega), if_neg (by omega), if_neg (by omega), if_neg (by omega), if_neg (by omega)]
    rfl
  all_goals
    simp only [inS9, hasN, hasD, hasV, stOk, cntS, cntB, elseB, Pt.mk.injEq, oneIf]
    clear key
    rw [Bool.eq_iff_iff]
    cases a <;> cases b <;> cases p <;> cases d <;> cases v <;> cases x <;> (first | (exact absurd (h1 rfl) (by decide)) | (exact absurd (h2 rfl) (by decide)) | (simp; done) | (simp; exact ⟨fun h => ⟨h.2.1, (by have := h.1; omega), h.2.2.2.1, h.2.2.1, h.2.2.2.2⟩, fun h => ⟨(by have := h.2.1; omega), h.1, h.2.2.2.1, h.2.2.1, h.2.2.2.2⟩⟩))
end Go.Proofs.YtdefgghhkknnpaaGreatDoor.sh

/- A row of one expression, made under a guard. No condition beyond what each line says. -/
namespace Go.Proofs.YtdefgghhkknnpaaGreatDoor.sh
open Go.ChangeShapes Go.WideShapes Go.ChangeAt Go.RowKit Go.Proofs.YtdefgghhkknnpaaGreatDoor Go.Proofs.YtdefgghhkknnpaaGreatDoor.k Go.Proofs.YtdefgghhkknnpaaGreatDoor.rr Go.Proofs.YtdefgghhkknnpaaGreatDoor.tk Go.Proofs.YtdefgghhkknnpaaGreatDoor.tr
set_option linter.unusedVariables false
set_option linter.unusedSimpArgs false

section
variable {ops : Array Oper} {rest : List Oper} {op : Oper} {a : Act} {w : World} {Q : Exit → Act → World → Prop}
theorem one_list {w : World} {x : Ex} {h : EH} (hx : ∀ W, Below w.heap.size w W → ExAt W W.heap.size x h) : ExL (w.alloc (.cells (eC h).toArray 44)) (w.alloc (.cells (eC h).toArray 44)).heap.size ⟨some ⟨w.heap.size, 0, none⟩, 1, 1⟩ [x] := by
  have hz : (w.alloc (.cells (eC h).toArray 44)).heap.size = w.heap.size + 1 := by simp
  have hb := al1 w (.cells (eC h).toArray 44)
  have hr := rb_one (enc := eC) (z := 6) w 44 h (eC h).toArray rfl (Nat.le_refl _) (Nat.le_refl (w.heap.size + 1))
  exact ⟨[h], hr.toAt (B := (w.alloc (.cells (eC h).toArray 44)).heap.size) (fun b hb => by rw [hz]; exact hb.2), ⟨h, [], rfl, hx _ hb, rfl⟩⟩
/-- a row of one expression -/
theorem m_one (x : Ex) (h : EH) (hx : ∀ W, Below w.heap.size w W → ExAt W W.heap.size x h) (u : Nat) (ho : op.op = .buildSlice 42 1 #[(0, .tmp u)]) (hw : Region.wanted op (yielded ops a.tmps) = true) (hy : a.eval (.tmp u) = .agg (eC h).toArray)
    (hk : ∀ w', ExL w' w'.heap.size ⟨some ⟨w.heap.size, 0, none⟩, 1, 1⟩ [x] → Below w.heap.size w w' → wpList Tryz.prog ops Q rest (a.put op.dst (.slice (some ⟨w.heap.size, 0, none⟩) 1 1)) w') : wpList Tryz.prog ops Q (op :: rest) a w :=
  wpList_step fun K hK => by
    rw [if_pos hw]
    unfold Oper.wp execOp
    simp only [ho, List.map_toArray, List.map_cons, List.map_nil, hy, bs_E h, Sem.run_bind, Result.andThen_ok]
    exact hK _ _ (hk _ (one_list hx) (al1 w _))
end
end Go.Proofs.YtdefgghhkknnpaaGreatDoor.sh

/- What memory can hold of a statement. No condition. -/
namespace Go.Proofs.YtdefgghhkknnpaaGreatDoor.sh
open Go.ChangeShapes Go.WideShapes Go.ChangeAt Go.RowKit Go.Proofs.YtdefgghhkknnpaaGreatDoor Go.Proofs.YtdefgghhkknnpaaGreatDoor.k Go.Proofs.YtdefgghhkknnpaaGreatDoor.rr Go.Proofs.YtdefgghhkknnpaaGreatDoor.tk Go.Proofs.YtdefgghhkknnpaaGreatDoor.tr
set_option linter.unusedVariables false
set_option linter.unusedSimpArgs false

mutual
/-- what memory can hold of a statement -/
def rS : St → Prop
  | .mk _ _ dst val conds _ _ blocks _ => rE dst ∧ rE val ∧ rEs conds ∧ rBs blocks
def rSs : List St → Prop
  | [] => True
  | x :: l => rS x ∧ rSs l
def rBs : List (List St) → Prop
  | [] => True
  | x :: l => rSs x ∧ rBs l
end
theorem rSs_at : ∀ {L : List St} {i : Nat} {x : St}, rSs L → L[i]? = some x → rS x
  | y :: l, 0, x, h, e => by obtain rfl : y = x := by simpa using e
                             exact h.1
  | y :: l, i + 1, x, h, e => rSs_at (L := l) (i := i) h.2 (by simpa using e)
theorem rBs_at : ∀ {L : List (List St)} {i : Nat} {x : List St}, rBs L → L[i]? = some x → rSs x
  | y :: l, 0, x, h, e => by obtain rfl : y = x := by simpa using e
                             exact h.1
  | y :: l, i + 1, x, h, e => rBs_at (L := l) (i := i) h.2 (by simpa using e)
theorem stsB_step {L : List St} {i : Nat} {x : St} (h : L[i]? = some x) : stsB (L.drop i) = (stB x && stsB (L.drop (i + 1))) := by
  obtain ⟨h1, h2⟩ := List.getElem?_eq_some_iff.1 h
  rw [List.drop_eq_getElem_cons h1, stsB, h2]
theorem rE_len {x : Ex} (h : rE x) : (exNm x).length < 2305843009213693952 ∧ (exFd x).length < 2305843009213693952 := by
  obtain ⟨o, n, s, f, sub, l⟩ := x
  rw [rE] at h
  unfold rmx at h
  simp only [exNm, exFd]
  omega
theorem wE_sub {x : Ex} {h : EH} {w : World} {B : Nat} (hx : ExAt w B x h) : h.sub.l < wE x := by
  obtain ⟨o, n, s, f, sub, l⟩ := x
  unfold ExAt at hx
  obtain ⟨-, -, -, -, -, H, h1, h2⟩ := hx
  have e : sub.length = h.sub.l := h2.len.symm.trans h1.1
  have := wsE_len sub
  rw [wE]
  omega
theorem ex_op {w : World} {B : Nat} {x : Ex} {h : EH} (hx : ExAt w B x h) : opE x = h.op := by
  obtain ⟨o, n, s, f, sub, l⟩ := x
  unfold ExAt at hx
  exact hx.1.symm
end Go.Proofs.YtdefgghhkknnpaaGreatDoor.sh

/- An element of a row that is a value: the signs of two. No condition. -/
namespace Go.Proofs.YtdefgghhkknnpaaGreatDoor.sh
open Go.ChangeShapes Go.WideShapes Go.ChangeAt Go.RowKit Go.Proofs.YtdefgghhkknnpaaGreatDoor Go.Proofs.YtdefgghhkknnpaaGreatDoor.k Go.Proofs.YtdefgghhkknnpaaGreatDoor.rr Go.Proofs.YtdefgghhkknnpaaGreatDoor.tk Go.Proofs.YtdefgghhkknnpaaGreatDoor.tr
set_option linter.unusedVariables false
set_option linter.unusedSimpArgs false

section
variable {P : Program} {ops : Array Oper} {rest : List Oper} {op : Oper} {a : Act} {w : World} {Q : Exit → Act → World → Prop}
/-- an element of an array that is a value -/
theorem m_index (T t u : Nat) (X Y v : Value) (ho : op.op = .index T (.tmp t) (.tmp u)) (hg : op.guard = none) (hx : a.eval (.tmp t) = X) (hy : a.eval (.tmp u) = Y) (hrun : ∀ w, (Instr.index T X Y).run P w = .ok v w)
    (h : wpList P ops Q rest (a.put op.dst v) w) : wpList P ops Q (op :: rest) a w := by
  refine wpList_plain hg fun K hK => ?_
  unfold Oper.wp execOp
  simp only [ho, hx, hy, hrun, Sem.run_bind, Result.andThen_ok]
  exact hK _ _ h
end
theorem size_str (w : World) : (Go.sizeOf 9).run Tryz.prog w = .ok 1 w := by kernel_rfl
theorem part_str (xs : Array Value) (o : Nat) (v : Value) (w : World) (h : xs[o]? = some v) : (part 9 xs o).run Tryz.prog w = .ok v w := run_part_plain w (by kernel_rfl) h
theorem run_opAt (cs : Array Value) (i : Nat) (hi : i < 14) (v : Value) (hv : cs[i]? = some v) (w : World) : (Instr.index 150 (.agg cs) (.int .i64 (i : Int))).run Tryz.prog w = .ok v w := by
  have hu := run_underlying (w := w) Tryz.underlying150
  have hp := part_str cs i v w hv
  have h0 : (0 : Int) ≤ i := by omega
  have h1 : (i : Int) < 14 := by omega
  simp [Instr.index, asIntOf, hu, size_str, h0, h1, hp]
  omega
def opC : Array Value := #[.string ⟨#[43]⟩, .string ⟨#[45]⟩, .string ⟨#[42]⟩, .string ⟨#[47]⟩, .string ⟨#[77, 79, 68]⟩, .string ⟨#[61]⟩, .string ⟨#[60, 62]⟩, .string ⟨#[60]⟩, .string ⟨#[62]⟩, .string ⟨#[60, 61]⟩, .string ⟨#[62, 61]⟩, .string ⟨#[65, 78, 68]⟩, .string ⟨#[88, 79, 82]⟩, .string ⟨#[79, 82]⟩]
theorem run_opC (o : Int) (h8 : 8 ≤ o) (h21 : o ≤ 21) (xo : ByteArray) (hx : (⟨(opS o).toArray⟩ : ByteArray) = xo) (w : World) : (Instr.index 150 (.agg opC) (.int .i64 (o - 8))).run Tryz.prog w = .ok (.string xo) w := by
  obtain ⟨i, hi⟩ : ∃ i : Nat, o - 8 = i := ⟨(o - 8).toNat, by omega⟩
  rw [hi]
  refine run_opAt opC i (by omega) _ ?_ w
  rw [← hx]
  rcases (show i = 0 ∨ i = 1 ∨ i = 2 ∨ i = 3 ∨ i = 4 ∨ i = 5 ∨ i = 6 ∨ i = 7 ∨ i = 8 ∨ i = 9 ∨ i = 10 ∨ i = 11 ∨ i = 12 ∨ i = 13 by omega) with rfl | rfl | rfl | rfl | rfl | rfl | rfl | rfl | rfl | rfl | rfl | rfl | rfl | rfl
  · obtain rfl : o = 8 := by omega
    rfl
  · obtain rfl : o = 9 := by omega
    rfl
  · obtain rfl : o = 10 := by omega
    rfl
  · obtain rfl : o = 11 := by omega
    rfl
  · obtain rfl : o = 12 := by omega
    rfl
  · obtain rfl : o = 13 := by omega
    rfl
  · obtain rfl : o = 14 := by omega
    rfl
  · obtain rfl : o = 15 := by omega
    rfl
  · obtain rfl : o = 16 := by omega
    rfl
  · obtain rfl : o = 17 := by omega
    rfl
  · obtain rfl : o = 18 := by omega
    rfl
  · obtain rfl : o = 19 := by omega
    rfl
  · obtain rfl : o = 20 := by omega
    rfl
  · obtain rfl : o = 21 := by omega
    rfl
end Go.Proofs.YtdefgghhkknnpaaGreatDoor.sh
