/- Programs as trees, and how they lie in memory. No condition. -/
import Derived.Test.YtdefgghhkknnpaaGreatDoorU02
namespace Go.Proofs.YtdefgghhkknnpaaGreatDoor.tr
open Go.ChangeShapes Go.WideShapes Go.ChangeAt Go.RowKit Go.Proofs.YtdefgghhkknnpaaGreatDoor.k Go.Proofs.YtdefgghhkknnpaaGreatDoor.rr Go.Proofs.YtdefgghhkknnpaaGreatDoor.tk
set_option linter.unusedVariables false
set_option linter.unusedSimpArgs false

abbrev Str := List UInt8
def sv (s : Str) : Value := .string ⟨s.toArray⟩
/-- an expression -/
inductive Ex
  | mk (op n : Int) (name field : Str) (sub : List Ex) (line : Int)
/-- a statement -/
inductive St
  | mk (op : Int) (name : Str) (dst val : Ex) (conds : List Ex) (labels : List (List Int)) (fields : List Str) (blocks : List (List St)) (line : Int)
/-- a variable -/
structure Va where
  name : Str
  type : Int
  sect : Int
  array : Bool
  lo : Int
  hi : Int
  init : Int
  line : Int
/-- a program -/
structure Pg where
  name : Str
  vars : List Va
  body : List St
def zeroE : Ex := .mk 0 0 [] [] [] 0
def zeroG : Pg := ⟨[], [], []⟩
/-- a slice's value -/
structure Sl where
  A : Option Addr
  l : Nat
  c : Nat
def Sl.v (s : Sl) : Value := .slice s.A s.l s.c
def slC (s : Sl) : List Value := [s.v]
def iC (n : Int) : List Value := [.int .i64 n]
def tC1 (s : Str) : List Value := [sv s]
/-- an expression's own cells -/
structure EH where
  op : Int
  n : Int
  name : Str
  field : Str
  sub : Sl
  line : Int
def eC (h : EH) : List Value := [.int .i64 h.op, .int .i64 h.n, sv h.name, sv h.field, h.sub.v, .int .i64 h.line]
/-- a statement's own cells -/
structure SH where
  op : Int
  name : Str
  dst : EH
  val : EH
  conds : Sl
  labels : Sl
  fields : Sl
  blocks : Sl
  line : Int
def sC (h : SH) : List Value := [.int .i64 h.op, sv h.name, .int .i64 h.dst.op, .int .i64 h.dst.n, sv h.dst.name, sv h.dst.field, h.dst.sub.v, .int .i64 h.dst.line, .int .i64 h.val.op, .int .i64 h.val.n, sv h.val.name, sv h.val.field, h.val.sub.v, .int .i64 h.val.line, h.conds.v, h.labels.v, h.fields.v, h.blocks.v, .int .i64 h.line]
def vC (v : Va) : List Value := [sv v.name, .int .i64 v.type, .int .i64 v.sect, .bool v.array, .int .i64 v.lo, .int .i64 v.hi, .int .i64 v.init, .int .i64 v.line]
/-- a program's own cells -/
structure GH where
  name : Str
  vars : Sl
  body : Sl
def gC (h : GH) : List Value := [sv h.name, h.vars.v, h.body.v]
theorem eC_len (h : EH) : (eC h).length = 6 := rfl
theorem sC_len (h : SH) : (sC h).length = 19 := rfl
theorem vC_len (v : Va) : (vC v).length = 8 := rfl
theorem slC_len (s : Sl) : (slC s).length = 1 := rfl
theorem iC_len (s : Int) : (iC s).length = 1 := rfl
theorem tC1_len (s : Str) : (tC1 s).length = 1 := rfl
theorem eC_one (h : EH) : ∀ u ∈ eC h, u.oneCell' = true := by
  intro u hu
  simp only [eC, List.mem_cons, List.not_mem_nil, or_false] at hu
  rcases hu with rfl | rfl | rfl | rfl | rfl | rfl <;> rfl
theorem sC_one (h : SH) : ∀ u ∈ sC h, u.oneCell' = true := by
  intro u hu
  simp only [sC, List.mem_cons, List.not_mem_nil, or_false] at hu
  rcases hu with rfl | rfl | rfl | rfl | rfl | rfl | rfl | rfl | rfl | rfl | rfl | rfl | rfl | rfl | rfl | rfl | rfl | rfl | rfl <;> rfl
theorem vC_one (h : Va) : ∀ u ∈ vC h, u.oneCell' = true := by
  intro u hu
  simp only [vC, List.mem_cons, List.not_mem_nil, or_false] at hu
  rcases hu with rfl | rfl | rfl | rfl | rfl | rfl | rfl | rfl <;> rfl
theorem slC_one (s : Sl) : ∀ u ∈ slC s, u.oneCell' = true := by
  intro u hu
  simp only [slC, List.mem_cons, List.not_mem_nil, or_false] at hu
  subst hu
  rfl
theorem iC_one (s : Int) : ∀ u ∈ iC s, u.oneCell' = true := by
  intro u hu
  simp only [iC, List.mem_cons, List.not_mem_nil, or_false] at hu
  subst hu
  rfl
theorem tC1_one (s : Str) : ∀ u ∈ tC1 s, u.oneCell' = true := by
  intro u hu
  simp only [tC1, List.mem_cons, List.not_mem_nil, or_false] at hu
  subst hu
  rfl
/-- a slice that is read: its elements' own cells -/
def RS {α : Type} (enc : α → List Value) (z : Nat) (w : World) (B : Nat) (s : Sl) (L : List α) : Prop := Rd enc z w B s.A s.l s.c L
mutual
/-- an expression, as it lies below a block -/
def ExAt (w : World) (B : Nat) : Ex → EH → Prop
  | .mk op n nm fd sub ln, h => h.op = op ∧ h.n = n ∧ h.name = nm ∧ h.field = fd ∧ h.line = ln ∧ ∃ H, RS eC 6 w B h.sub H ∧ ExsAt w B sub H
def ExsAt (w : World) (B : Nat) : List Ex → List EH → Prop
  | [], H => H = []
  | x :: L, H => ∃ h H', H = h :: H' ∧ ExAt w B x h ∧ ExsAt w B L H'
end
/-- a slice of expressions -/
def ExL (w : World) (B : Nat) (s : Sl) (L : List Ex) : Prop := ∃ H, RS eC 6 w B s H ∧ ExsAt w B L H
/-- the labels of the blocks -/
def LabsAt (w : World) (B : Nat) : List (List Int) → List Sl → Prop
  | [], H => H = []
  | x :: L, H => ∃ h H', H = h :: H' ∧ RS iC 1 w B h x ∧ LabsAt w B L H'
mutual
/-- a statement, as it lies below a block -/
def StAt (w : World) (B : Nat) : St → SH → Prop
  | .mk op nm dst val conds labels fields blocks ln, h => h.op = op ∧ h.name = nm ∧ h.line = ln ∧ ExAt w B dst h.dst ∧ ExAt w B val h.val ∧ ExL w B h.conds conds ∧
    (∃ H, RS slC 1 w B h.labels H ∧ LabsAt w B labels H) ∧ RS tC1 1 w B h.fields fields ∧ ∃ H, RS slC 1 w B h.blocks H ∧ BlksAt w B blocks H
def StsAt (w : World) (B : Nat) : List St → List SH → Prop
  | [], H => H = []
  | x :: L, H => ∃ h H', H = h :: H' ∧ StAt w B x h ∧ StsAt w B L H'
def BlksAt (w : World) (B : Nat) : List (List St) → List Sl → Prop
  | [], H => H = []
  | x :: L, H => ∃ h H', H = h :: H' ∧ (∃ K, RS sC 19 w B h K ∧ StsAt w B x K) ∧ BlksAt w B L H'
end
/-- a slice of statements -/
def StL (w : World) (B : Nat) (s : Sl) (L : List St) : Prop := ∃ K, RS sC 19 w B s K ∧ StsAt w B L K
/-- a program, as it lies below a block -/
def PgAt (w : World) (B : Nat) (p : Pg) (h : GH) : Prop := h.name = p.name ∧ RS vC 8 w B h.vars p.vars ∧ StL w B h.body p.body
section
variable {w w' : World} {B B' : Nat}
theorem RS.below {α : Type} {enc : α → List Value} {z : Nat} {s : Sl} {L : List α} (h : RS enc z w B s L) (hb : Below B w w') (hB : B ≤ B') : RS enc z w' B' s L := (Rd.below h hb).more hB
mutual
theorem ExAt.below (hb : Below B w w') (hB : B ≤ B') : ∀ {x : Ex} {h : EH}, ExAt w B x h → ExAt w' B' x h
  | .mk op n nm fd sub ln, h, ⟨h1, h2, h3, h4, h5, H, h6, h7⟩ => ⟨h1, h2, h3, h4, h5, H, h6.below hb hB, ExsAt.below hb hB h7⟩
theorem ExsAt.below (hb : Below B w w') (hB : B ≤ B') : ∀ {L : List Ex} {H : List EH}, ExsAt w B L H → ExsAt w' B' L H
  | [], _, h => h
  | x :: L, _, ⟨h, H', e, h1, h2⟩ => ⟨h, H', e, ExAt.below hb hB h1, ExsAt.below hb hB h2⟩
end
theorem ExL.below {s : Sl} {L : List Ex} (h : ExL w B s L) (hb : Below B w w') (hB : B ≤ B') : ExL w' B' s L := by
  obtain ⟨H, h1, h2⟩ := h
  exact ⟨H, h1.below hb hB, ExsAt.below hb hB h2⟩
theorem LabsAt.below (hb : Below B w w') (hB : B ≤ B') : ∀ {L : List (List Int)} {H : List Sl}, LabsAt w B L H → LabsAt w' B' L H
  | [], _, h => h
  | x :: L, _, ⟨h, H', e, h1, h2⟩ => ⟨h, H', e, h1.below hb hB, LabsAt.below hb hB h2⟩
mutual
theorem StAt.below (hb : Below B w w') (hB : B ≤ B') : ∀ {x : St} {h : SH}, StAt w B x h → StAt w' B' x h
  | .mk op nm dst val conds labels fields blocks ln, h, ⟨h1, h2, h3, h4, h5, h6, ⟨H, h7, h8⟩, h9, K, h10, h11⟩ =>
    ⟨h1, h2, h3, ExAt.below hb hB h4, ExAt.below hb hB h5, h6.below hb hB, ⟨H, h7.below hb hB, LabsAt.below hb hB h8⟩, h9.below hb hB, K, h10.below hb hB, BlksAt.below hb hB h11⟩
theorem StsAt.below (hb : Below B w w') (hB : B ≤ B') : ∀ {L : List St} {H : List SH}, StsAt w B L H → StsAt w' B' L H
  | [], _, h => h
  | x :: L, _, ⟨h, H', e, h1, h2⟩ => ⟨h, H', e, StAt.below hb hB h1, StsAt.below hb hB h2⟩
theorem BlksAt.below (hb : Below B w w') (hB : B ≤ B') : ∀ {L : List (List St)} {H : List Sl}, BlksAt w B L H → BlksAt w' B' L H
  | [], _, h => h
  | x :: L, _, ⟨h, H', e, ⟨K, h1, h2⟩, h3⟩ => ⟨h, H', e, ⟨K, h1.below hb hB, StsAt.below hb hB h2⟩, BlksAt.below hb hB h3⟩
end
theorem StL.below {s : Sl} {L : List St} (h : StL w B s L) (hb : Below B w w') (hB : B ≤ B') : StL w' B' s L := by
  obtain ⟨H, h1, h2⟩ := h
  exact ⟨H, h1.below hb hB, StsAt.below hb hB h2⟩
theorem PgAt.below {p : Pg} {h : GH} (hp : PgAt w B p h) (hb : Below B w w') (hB : B ≤ B') : PgAt w' B' p h := ⟨hp.1, hp.2.1.below hb hB, hp.2.2.below hb hB⟩
end
section
variable {w : World} {B : Nat}
theorem ExsAt.len : ∀ {L : List Ex} {H : List EH}, ExsAt w B L H → H.length = L.length
  | [], _, h => by cases h; rfl
  | x :: L, _, ⟨h, H', e, h1, h2⟩ => by rw [e, List.length_cons, List.length_cons, ExsAt.len h2]
theorem ExsAt.at : ∀ {L : List Ex} {H : List EH} {i : Nat} {h : EH}, ExsAt w B L H → H[i]? = some h → ∃ x, L[i]? = some x ∧ ExAt w B x h
  | [], _, i, h, e, hi => by cases e; simp at hi
  | x :: L, _, 0, h, ⟨h', H', e, h1, h2⟩, hi => by subst e; exact ⟨x, rfl, by simpa using (by simpa using hi : h' = h) ▸ h1⟩
  | x :: L, _, i + 1, h, ⟨h', H', e, h1, h2⟩, hi => by subst e; exact (ExsAt.at (i := i) h2 (by simpa using hi)).imp fun y hy => ⟨by simpa using hy.1, hy.2⟩
theorem StsAt.len : ∀ {L : List St} {H : List SH}, StsAt w B L H → H.length = L.length
  | [], _, h => by unfold StsAt at h; subst h; rfl
  | x :: L, _, h => by
    unfold StsAt at h
    obtain ⟨h, H', e, h1, h2⟩ := h
    rw [e, List.length_cons, List.length_cons, StsAt.len h2]
theorem StsAt.at : ∀ {L : List St} {H : List SH} {i : Nat} {h : SH}, StsAt w B L H → H[i]? = some h → ∃ x, L[i]? = some x ∧ StAt w B x h
  | [], _, i, h, e, hi => by unfold StsAt at e; subst e; simp at hi
  | x :: L, _, 0, h, hh, hi => by
    unfold StsAt at hh
    obtain ⟨h', H', e, h1, h2⟩ := hh
    subst e
    exact ⟨x, rfl, (by simpa using hi : h' = h) ▸ h1⟩
  | x :: L, _, i + 1, h, hh, hi => by
    unfold StsAt at hh
    obtain ⟨h', H', e, h1, h2⟩ := hh
    subst e
    exact (StsAt.at (i := i) h2 (by simpa using hi)).imp fun y hy => ⟨by simpa using hy.1, hy.2⟩
theorem BlksAt.len : ∀ {L : List (List St)} {H : List Sl}, BlksAt w B L H → H.length = L.length
  | [], _, h => by unfold BlksAt at h; subst h; rfl
  | x :: L, _, h => by
    unfold BlksAt at h
    obtain ⟨h, H', e, h1, h2⟩ := h
    rw [e, List.length_cons, List.length_cons, BlksAt.len h2]
theorem BlksAt.at : ∀ {L : List (List St)} {H : List Sl} {i : Nat} {h : Sl}, BlksAt w B L H → H[i]? = some h → ∃ x, L[i]? = some x ∧ StL w B h x
  | [], _, i, h, e, hi => by unfold BlksAt at e; subst e; simp at hi
  | x :: L, _, 0, h, hh, hi => by
    unfold BlksAt at hh
    obtain ⟨h', H', e, h1, h2⟩ := hh
    subst e
    exact ⟨x, rfl, (by simpa using hi : h' = h) ▸ h1⟩
  | x :: L, _, i + 1, h, hh, hi => by
    unfold BlksAt at hh
    obtain ⟨h', H', e, h1, h2⟩ := hh
    subst e
    exact (BlksAt.at (i := i) h2 (by simpa using hi)).imp fun y hy => ⟨by simpa using hy.1, hy.2⟩
theorem LabsAt.len : ∀ {L : List (List Int)} {H : List Sl}, LabsAt w B L H → H.length = L.length
  | [], _, h => by cases h; rfl
  | x :: L, _, ⟨h, H', e, h1, h2⟩ => by rw [e, List.length_cons, List.length_cons, LabsAt.len h2]
theorem LabsAt.at : ∀ {L : List (List Int)} {H : List Sl} {i : Nat} {h : Sl}, LabsAt w B L H → H[i]? = some h → ∃ x, L[i]? = some x ∧ RS iC 1 w B h x
  | [], _, i, h, e, hi => by cases e; simp at hi
  | x :: L, _, 0, h, ⟨h', H', e, h1, h2⟩, hi => by subst e; exact ⟨x, rfl, (by simpa using hi : h' = h) ▸ h1⟩
  | x :: L, _, i + 1, h, ⟨h', H', e, h1, h2⟩, hi => by subst e; exact (LabsAt.at (i := i) h2 (by simpa using hi)).imp fun y hy => ⟨by simpa using hy.1, hy.2⟩
end
/-! ### the same but for lines -/
mutual
def exSame : Ex → Ex → Bool
  | .mk op n nm fd sub _, .mk op' n' nm' fd' sub' _ => op == op' && (n == n' && (nm == nm' && (fd == fd' && exsSame sub sub')))
def exsSame : List Ex → List Ex → Bool
  | [], [] => true
  | x :: L, y :: M => exSame x y && exsSame L M
  | _, _ => false
end
mutual
def stSame : St → St → Bool
  | .mk op nm dst val conds labels fields blocks _, .mk op' nm' dst' val' conds' labels' fields' blocks' _ =>
    op == op' && (nm == nm' && (exSame dst dst' && (exSame val val' && (exsSame conds conds' && (labels == labels' && (fields == fields' && blksSame blocks blocks'))))))
def stsSame : List St → List St → Bool
  | [], [] => true
  | x :: L, y :: M => stSame x y && stsSame L M
  | _, _ => false
def blksSame : List (List St) → List (List St) → Bool
  | [], [] => true
  | x :: L, y :: M => stsSame x y && blksSame L M
  | _, _ => false
end
def vaSame (a b : Va) : Bool := a.name == b.name && (a.type == b.type && (a.sect == b.sect && (a.array == b.array && (a.lo == b.lo && (a.hi == b.hi && a.init == b.init)))))
def vasSame : List Va → List Va → Bool
  | [], [] => true
  | x :: L, y :: M => vaSame x y && vasSame L M
  | _, _ => false
def pgSame (p q : Pg) : Bool := p.name == q.name && (vasSame p.vars q.vars && stsSame p.body q.body)
mutual
theorem exSame_refl : ∀ x : Ex, exSame x x = true
  | .mk op n nm fd sub ln => by simp [exSame, exsSame_refl sub]
theorem exsSame_refl : ∀ L : List Ex, exsSame L L = true
  | [] => by simp [exsSame]
  | x :: L => by simp [exsSame, exSame_refl x, exsSame_refl L]
end
mutual
theorem exSame_symm : ∀ x y : Ex, exSame x y = exSame y x
  | .mk op n nm fd sub ln, .mk op' n' nm' fd' sub' ln' => by
    rw [exSame, exSame, exsSame_symm sub sub', BEq.comm (a := op), BEq.comm (a := n), BEq.comm (a := nm), BEq.comm (a := fd)]
theorem exsSame_symm : ∀ L M : List Ex, exsSame L M = exsSame M L
  | [], [] => rfl
  | [], _ :: _ => rfl
  | _ :: _, [] => rfl
  | x :: L, y :: M => by rw [exsSame, exsSame, exSame_symm x y, exsSame_symm L M]
end
mutual
theorem stSame_refl : ∀ x : St, stSame x x = true
  | .mk op nm dst val conds labels fields blocks ln => by simp [stSame, exSame_refl, exsSame_refl, blksSame_refl blocks]
theorem stsSame_refl : ∀ L : List St, stsSame L L = true
  | [] => by simp [stsSame]
  | x :: L => by simp [stsSame, stSame_refl x, stsSame_refl L]
theorem blksSame_refl : ∀ L : List (List St), blksSame L L = true
  | [] => by simp [blksSame]
  | x :: L => by simp [blksSame, stsSame_refl x, blksSame_refl L]
end
mutual
theorem stSame_symm : ∀ x y : St, stSame x y = stSame y x
  | .mk op nm dst val conds labels fields blocks ln, .mk op' nm' dst' val' conds' labels' fields' blocks' ln' => by
    rw [stSame, stSame, blksSame_symm blocks blocks', exSame_symm dst dst', exSame_symm val val', exsSame_symm conds conds', BEq.comm (a := op), BEq.comm (a := nm), BEq.comm (a := labels), BEq.comm (a := fields)]
theorem stsSame_symm : ∀ L M : List St, stsSame L M = stsSame M L
  | [], [] => by simp [stsSame]
  | [], _ :: _ => by simp [stsSame]
  | _ :: _, [] => by simp [stsSame]
  | x :: L, y :: M => by rw [stsSame, stsSame, stSame_symm x y, stsSame_symm L M]
theorem blksSame_symm : ∀ L M : List (List St), blksSame L M = blksSame M L
  | [], [] => by simp [blksSame]
  | [], _ :: _ => by simp [blksSame]
  | _ :: _, [] => by simp [blksSame]
  | x :: L, y :: M => by rw [blksSame, blksSame, stsSame_symm x y, blksSame_symm L M]
end
theorem vaSame_refl (a : Va) : vaSame a a = true := by simp [vaSame]
theorem vaSame_symm (a b : Va) : vaSame a b = vaSame b a := by
  unfold vaSame
  rw [BEq.comm (a := a.name), BEq.comm (a := a.type), BEq.comm (a := a.sect), BEq.comm (a := a.array), BEq.comm (a := a.lo), BEq.comm (a := a.hi), BEq.comm (a := a.init)]
theorem vasSame_refl : ∀ L : List Va, vasSame L L = true
  | [] => rfl
  | x :: L => by rw [vasSame, vaSame_refl, vasSame_refl L]; rfl
theorem vasSame_symm : ∀ L M : List Va, vasSame L M = vasSame M L
  | [], [] => rfl
  | [], _ :: _ => rfl
  | _ :: _, [] => rfl
  | x :: L, y :: M => by rw [vasSame, vasSame, vaSame_symm x y, vasSame_symm L M]
theorem pgSame_refl (p : Pg) : pgSame p p = true := by unfold pgSame; rw [vasSame_refl, stsSame_refl]; simp
theorem pgSame_symm (p q : Pg) : pgSame p q = pgSame q p := by
  unfold pgSame
  rw [BEq.comm (a := p.name), vasSame_symm p.vars, stsSame_symm p.body]
end Go.Proofs.YtdefgghhkknnpaaGreatDoor.tr
/- The document's programs of rows of signs, as functions that the kernel can reckon. No condition. -/
namespace Go.Proofs.YtdefgghhkknnpaaGreatDoor.tr
open Go.ChangeShapes Go.WideShapes Go.ChangeAt Go.RowKit Go.Proofs.YtdefgghhkknnpaaGreatDoor.k Go.Proofs.YtdefgghhkknnpaaGreatDoor.rr Go.Proofs.YtdefgghhkknnpaaGreatDoor.tk
set_option linter.unusedVariables false
set_option linter.unusedSimpArgs false

abbrev Sg := List Tk
/-- what a part gives: what it is and what is left of the signs; or the error and the sign where it is -/
inductive Res (α : Type)
  | ok (x : α) (r : Sg)
  | bad (e : Int) (t : Tk)
def Res.bind {α β : Type} (p : Res α) (f : α → Sg → Res β) : Res β := match p with
  | .ok x r => f x r
  | .bad e t => .bad e t
def hd (r : Sg) : Tk := match r with
  | t :: _ => t
  | [] => ⟨0, [], 0, 1, 1⟩
/-- the next sign's text, if it is a word or a sign -/
def txt (r : Sg) : Str := match r with
  | t :: _ => if t.kind = 2 ∨ t.kind = 4 then t.text else []
  | [] => []
def fail {α : Type} (e : Int) (r : Sg) : Res α := .bad e (hd r)
def need (s : Str) (r : Sg) : Res Unit := if txt r = s then .ok () (r.drop 1) else fail 5 r
def want (k : Int) (r : Sg) : Res Tk := if (hd r).kind = k then .ok (hd r) (r.drop 1) else fail 5 r
/-- an operator of a level: 1 OR, 2 XOR, 3 AND, 4 comparisons, 5 + -, 6 * / MOD; 0: none -/
def opOf (lv : Nat) (s : Str) : Int :=
  match lv with
  | 1 => if s = [79, 82] then 21 else 0
  | 2 => if s = [88, 79, 82] then 20 else 0
  | 3 => if s = [65, 78, 68] then 19 else 0
  | 4 => if s = [61] then 13 else if s = [60, 62] then 14 else if s = [60] then 15 else if s = [62] then 16 else if s = [60, 61] then 17 else if s = [62, 61] then 18 else 0
  | 5 => if s = [43] then 8 else if s = [45] then 9 else 0
  | 6 => if s = [42] then 10 else if s = [47] then 11 else if s = [77, 79, 68] then 12 else 0
  | _ => 0
mutual
def exprF : Nat → Nat → Nat → Sg → Res Ex
  | 0, _, _, r => fail 99 r
  | f + 1, d, lv, r => if lv = 7 then unaryF f d r else (exprF f d (lv + 1) r).bind fun x r => moreF f d lv x r
def moreF : Nat → Nat → Nat → Ex → Sg → Res Ex
  | 0, _, _, _, r => fail 99 r
  | f + 1, d, lv, x, r =>
    if opOf lv (txt r) = 0 then .ok x r
    else (exprF f d (lv + 1) (r.drop 1)).bind fun y r' =>
      if lv = 4 then .ok (.mk (opOf lv (txt r)) 0 [] [] [x, y] (hd r).line) r' else moreF f d lv (.mk (opOf lv (txt r)) 0 [] [] [x, y] (hd r).line) r'
def unaryF : Nat → Nat → Sg → Res Ex
  | 0, _, r => fail 99 r
  | f + 1, d, r =>
    if txt r = [45] ∨ txt r = [78, 79, 84] then
      if 32 < d + 1 then fail 13 r
      else (unaryF f (d + 1) (r.drop 1)).bind fun x r' => .ok (.mk (if txt r = [45] then 6 else 7) 0 [] [] [x] (hd r).line) r'
    else if (hd r).kind = 3 then .ok (.mk 1 (hd r).n [] [] [] (hd r).line) (r.drop 1)
    else if txt r = [84, 82, 85, 69] then .ok (.mk 2 1 [] [] [] (hd r).line) (r.drop 1)
    else if txt r = [70, 65, 76, 83, 69] then .ok (.mk 2 0 [] [] [] (hd r).line) (r.drop 1)
    else if txt r = [40] then
      if 32 < d + 1 then fail 13 r
      else (exprF f (d + 1) 1 (r.drop 1)).bind fun x r' => (need [41] r').bind fun _ r' => .ok x r'
    else (want 1 r).bind fun t r' =>
      if txt r' = [91] then (indexF f d r').bind fun x r' => .ok (.mk 4 0 t.text [] [x] t.line) r'
      else if txt r' = [46] then (want 1 (r'.drop 1)).bind fun u r' => .ok (.mk 5 0 t.text u.text [] t.line) r'
      else .ok (.mk 3 0 t.text [] [] t.line) r'
def indexF : Nat → Nat → Sg → Res Ex
  | 0, _, r => fail 99 r
  | f + 1, d, r =>
    if 32 < d + 1 then fail 13 r
    else (exprF f (d + 1) 1 (r.drop 1)).bind fun x r' => (need [93] r').bind fun _ r' => .ok x r'
end
/-- an expression at a depth -/
def expr (f d : Nat) (r : Sg) : Res Ex := exprF f d 1 r
def intg (r : Sg) : Res Int := if txt r = [45] then (want 3 (r.drop 1)).bind fun t r' => .ok (-t.n) r' else (want 3 r).bind fun t r' => .ok t.n r'
/-- the labels of a block, each its least and its greatest number -/
def labelsF : Nat → Sg → List Int → Res (List Int)
  | 0, r, _ => fail 99 r
  | f + 1, r, acc => (intg r).bind fun a r' =>
    (if txt r' = [46, 46] then intg (r'.drop 1) else .ok a r').bind fun c r' =>
      if txt r' = [44] then labelsF f (r'.drop 1) (acc ++ [a, c]) else .ok (acc ++ [a, c]) r'
/-- the inputs of a call -/
def argsF : Nat → Nat → Sg → List Str → List Ex → Res (List Str × List Ex)
  | 0, _, r, _, _ => fail 99 r
  | f + 1, d, r, fs, cs => (want 1 r).bind fun t r' => (need [58, 61] r').bind fun _ r' => (expr f d r').bind fun x r' =>
      if txt r' = [44] then argsF f d (r'.drop 1) (fs ++ [t.text]) (cs ++ [x]) else .ok (fs ++ [t.text], cs ++ [x]) r'
def oneOf (s : Str) (ends : List Str) : Bool := s != [] && ends.any (fun e => e == s)
mutual
/-- statements up to one of some words -/
def stmtsF : Nat → Nat → List Str → Sg → List St → Res (List St)
  | 0, _, _, r, _ => fail 99 r
  | f + 1, d, ends, r, acc => if oneOf (txt r) ends = true then .ok acc r else (stmtF f d r).bind fun s r' => stmtsF f d ends r' (acc ++ [s])
def stmtF : Nat → Nat → Sg → Res St
  | 0, _, r => fail 99 r
  | f + 1, d, r =>
    if 32 < d + 1 then fail 13 r
    else (whatF f (d + 1) r).bind fun s r' => (need [59] r').bind fun _ r' => .ok (s (hd r).line) r'
/-- what a statement is, without its line and its sign at the end -/
def whatF : Nat → Nat → Sg → Res (Int → St)
  | 0, _, r => fail 99 r
  | f + 1, d, r =>
    if txt r = [73, 70] then ifF f d (r.drop 1) [] []
    else if txt r = [67, 65, 83, 69] then (expr f d (r.drop 1)).bind fun x r' => (need [79, 70] r').bind fun _ r' => caseF f d x r' [] []
    else if txt r = [70, 79, 82] then (want 1 (r.drop 1)).bind fun t r' => (need [58, 61] r').bind fun _ r' => (expr f d r').bind fun a r' => (need [84, 79] r').bind fun _ r' => (expr f d r').bind fun c r' =>
      (if txt r' = [66, 89] then expr f d (r'.drop 1) else .ok (.mk 1 1 [] [] [] (hd r').line) r').bind fun y r' => (need [68, 79] r').bind fun _ r' => (stmtsF f d [[69, 78, 68, 95, 70, 79, 82]] r' []).bind fun B r' => (need [69, 78, 68, 95, 70, 79, 82] r').bind fun _ r' =>
      .ok (fun ln => .mk 4 t.text zeroE zeroE [a, c, y] [] [] [B] ln) r'
    else if txt r = [87, 72, 73, 76, 69] then (expr f d (r.drop 1)).bind fun x r' => (need [68, 79] r').bind fun _ r' => (stmtsF f d [[69, 78, 68, 95, 87, 72, 73, 76, 69]] r' []).bind fun B r' => (need [69, 78, 68, 95, 87, 72, 73, 76, 69] r').bind fun _ r' => .ok (fun ln => .mk 5 [] zeroE x [] [] [] [B] ln) r'
    else if txt r = [82, 69, 80, 69, 65, 84] then (stmtsF f d [[85, 78, 84, 73, 76]] (r.drop 1) []).bind fun B r' => (need [85, 78, 84, 73, 76] r').bind fun _ r' => (expr f d r').bind fun x r' => (need [69, 78, 68, 95, 82, 69, 80, 69, 65, 84] r').bind fun _ r' => .ok (fun ln => .mk 6 [] zeroE x [] [] [] [B] ln) r'
    else if txt r = [69, 88, 73, 84] then .ok (fun ln => .mk 7 [] zeroE zeroE [] [] [] [] ln) (r.drop 1)
    else if txt r = [82, 69, 84, 85, 82, 78] then .ok (fun ln => .mk 8 [] zeroE zeroE [] [] [] [] ln) (r.drop 1)
    else (want 1 r).bind fun t r' =>
      if txt r' = [40] then
        if txt (r'.drop 1) = [41] then .ok (fun ln => .mk 9 t.text zeroE zeroE [] [] [] [] ln) (r'.drop 2)
        else (argsF f d (r'.drop 1) [] []).bind fun a r' => (need [41] r').bind fun _ r' => .ok (fun ln => .mk 9 t.text zeroE zeroE a.2 [] a.1 [] ln) r'
      else (if txt r' = [91] then (indexF f d r').bind fun x r' => .ok (Ex.mk 4 0 t.text [] [x] t.line) r' else .ok (Ex.mk 3 0 t.text [] [] t.line) r').bind fun dst r' =>
        (need [58, 61] r').bind fun _ r' => (expr f d r').bind fun x r' => .ok (fun ln => .mk 1 [] dst x [] [] [] [] ln) r'
/-- behind IF or ELSIF -/
def ifF : Nat → Nat → Sg → List Ex → List (List St) → Res (Int → St)
  | 0, _, r, _, _ => fail 99 r
  | f + 1, d, r, cs, bs => (expr f d r).bind fun x r' => (need [84, 72, 69, 78] r').bind fun _ r' => (stmtsF f d [[69, 76, 83, 73, 70], [69, 76, 83, 69], [69, 78, 68, 95, 73, 70]] r' []).bind fun B r' =>
    if txt r' = [69, 76, 83, 73, 70] then ifF f d (r'.drop 1) (cs ++ [x]) (bs ++ [B])
    else (if txt r' = [69, 76, 83, 69] then (stmtsF f d [[69, 78, 68, 95, 73, 70]] (r'.drop 1) []).bind fun E r' => .ok (bs ++ [B] ++ [E]) r' else .ok (bs ++ [B]) r').bind fun bs' r' =>
      (need [69, 78, 68, 95, 73, 70] r').bind fun _ r' => .ok (fun ln => .mk 2 [] zeroE zeroE (cs ++ [x]) [] [] bs' ln) r'
/-- the blocks of a CASE -/
def caseF : Nat → Nat → Ex → Sg → List (List Int) → List (List St) → Res (Int → St)
  | 0, _, _, r, _, _ => fail 99 r
  | f + 1, d, x, r, ls, bs =>
    if (hd r).kind = 3 ∨ txt r = [45] then (labelsF f r []).bind fun l r' => (need [58] r').bind fun _ r' => (blockF f d r' []).bind fun B r' => caseF f d x r' (ls ++ [l]) (bs ++ [B])
    else (if txt r = [69, 76, 83, 69] then (stmtsF f d [[69, 78, 68, 95, 67, 65, 83, 69]] (r.drop 1) []).bind fun E r' => .ok (bs ++ [E]) r' else .ok bs r).bind fun bs' r' =>
      (need [69, 78, 68, 95, 67, 65, 83, 69] r').bind fun _ r' => .ok (fun ln => .mk 3 [] zeroE x [] ls [] bs' ln) r'
/-- the statements of a block of a CASE -/
def blockF : Nat → Nat → Sg → List St → Res (List St)
  | 0, _, r, _ => fail 99 r
  | f + 1, d, r, acc =>
    if (hd r).kind = 3 ∨ oneOf (txt r) [[45], [69, 76, 83, 69], [69, 78, 68, 95, 67, 65, 83, 69]] = true then .ok acc r else (stmtF f d r).bind fun s r' => blockF f d r' (acc ++ [s])
end
def kinds : List (Str × Int) := [([84, 79, 78], 10), ([84, 79, 70], 11), ([84, 80], 12), ([67, 84, 85], 13), ([67, 84, 68], 14), ([82, 95, 84, 82, 73, 71], 15), ([70, 95, 84, 82, 73, 71], 16), ([83, 82], 17), ([82, 83], 18), ([77, 67, 95, 80, 111, 119, 101, 114], 20), ([77, 67, 95, 72, 111, 109, 101], 21), ([77, 67, 95, 83, 116, 111, 112], 22), ([77, 67, 95, 72, 97, 108, 116], 23), ([77, 67, 95, 77, 111, 118, 101, 65, 98, 115, 111, 108, 117, 116, 101], 24), ([77, 67, 95, 77, 111, 118, 101, 82, 101, 108, 97, 116, 105, 118, 101], 25), ([77, 67, 95, 77, 111, 118, 101, 65, 100, 100, 105, 116, 105, 118, 101], 26), ([77, 67, 95, 77, 111, 118, 101, 86, 101, 108, 111, 99, 105, 116, 121], 27), ([77, 67, 95, 71, 101, 97, 114, 73, 110], 28), ([77, 67, 95, 82, 101, 115, 101, 116], 29), ([77, 67, 95, 83, 101, 116, 80, 111, 115, 105, 116, 105, 111, 110], 30), ([77, 67, 95, 83, 101, 116, 79, 118, 101, 114, 114, 105, 100, 101], 31)]
def kindOf (s : Str) : Int := match kinds.find? (fun k => k.1 == s) with
  | some k => k.2
  | none => 0
/-- the names of a line of variables; m: how many there are ahead of it -/
def namesF : Nat → Nat → Sg → List Tk → Res (List Tk)
  | 0, _, r, _ => fail 99 r
  | f + 1, m, r, acc => if 64 < m + acc.length + 1 then fail 13 r else (want 1 r).bind fun t r' =>
    if txt r' = [44] then namesF f m (r'.drop 1) (acc ++ [t]) else .ok (acc ++ [t]) r'
def simpleT (r : Sg) : Int := if txt r = [73, 78, 84] then 1 else if txt r = [66, 79, 79, 76] then 2 else 0
/-- a type: its number, whether it is an array, its bounds -/
def typeP (r : Sg) : Res (Int × Bool × Int × Int) :=
  if simpleT r ≠ 0 then .ok (simpleT r, false, 0, 0) (r.drop 1)
  else if txt r = [65, 82, 82, 65, 89] then (need [91] (r.drop 1)).bind fun _ r' => (want 3 r').bind fun lo r' => (need [46, 46] r').bind fun _ r' => (want 3 r').bind fun hi r' =>
    if hi.n < lo.n ∨ 255 < hi.n then .bad 1 hi
    else (need [93] r').bind fun _ r' => (need [79, 70] r').bind fun _ r' => if simpleT r' ≠ 0 then .ok (simpleT r', true, lo.n, hi.n) (r'.drop 1) else fail 5 r'
  else (want 1 r).bind fun t r' => if kindOf t.text = 0 then .bad 9 t else .ok (kindOf t.text, false, 0, 0) r'
/-- a value: a truth or not, its number -/
def valueP (r : Sg) : Res (Bool × Int) :=
  if txt r = [84, 82, 85, 69] then .ok (true, 1) (r.drop 1) else if txt r = [70, 65, 76, 83, 69] then .ok (true, 0) (r.drop 1) else (intg r).bind fun n r' => .ok (false, n) r'
/-- a line of variables behind those that there are -/
def lineP (f : Nat) (sec : Int) (r : Sg) (vs : List Va) : Res (List Va) :=
  (namesF f vs.length r []).bind fun ns r' => (need [58] r').bind fun _ r1 => (typeP r1).bind fun ty r' =>
    (if txt r' = [58, 61] then (valueP (r'.drop 1)).bind fun v r' =>
        if ty.2.1 = true ∨ 2 < ty.1 ∨ (v.1 = true ∧ ty.1 = 1) ∨ (v.1 = false ∧ ty.1 = 2) then .bad 1 (hd r1) else .ok v.2 r'
      else .ok 0 r').bind fun init r' =>
    (need [59] r').bind fun _ r' => .ok (vs ++ ns.map fun t => ⟨t.text, ty.1, sec, ty.2.1, ty.2.2.1, ty.2.2.2, init, t.line⟩) r'
def linesF : Nat → Int → Sg → List Va → Res (List Va)
  | 0, _, r, _ => fail 99 r
  | f + 1, sec, r, vs => if txt r = [69, 78, 68, 95, 86, 65, 82] then .ok vs (r.drop 1) else (lineP f sec r vs).bind fun vs r' => linesF f sec r' vs
def sectsF : Nat → Sg → List Va → Res (List Va)
  | 0, r, _ => fail 99 r
  | f + 1, r, vs =>
    if txt r = [86, 65, 82, 95, 73, 78, 80, 85, 84] then (linesF f 1 (r.drop 1) vs).bind fun vs r' => sectsF f r' vs
    else if txt r = [86, 65, 82, 95, 79, 85, 84, 80, 85, 84] then (linesF f 2 (r.drop 1) vs).bind fun vs r' => sectsF f r' vs
    else if txt r = [86, 65, 82] then (linesF f 0 (r.drop 1) vs).bind fun vs r' => sectsF f r' vs
    else .ok vs r
/-- a program of a row of signs -/
def progP (f : Nat) (r : Sg) : Res Pg :=
  (need [80, 82, 79, 71, 82, 65, 77] r).bind fun _ r' => (want 1 r').bind fun t r' => (sectsF f r' []).bind fun vs r' => (stmtsF f 0 [[69, 78, 68, 95, 80, 82, 79, 71, 82, 65, 77]] r' []).bind fun b r' =>
    (need [69, 78, 68, 95, 80, 82, 79, 71, 82, 65, 77] r').bind fun _ r' => if (hd r').kind = 0 then .ok ⟨t.text, vs, b⟩ r' else fail 5 r'
/-- a text's program, its error, and where that is -/
def parse (s : Str) : Pg × Int × Tk :=
  if (lex s).1 = 0 then match progP (20 * (lex s).2.1.length + 20) (lex s).2.1 with
    | .ok p _ => (p, 0, zeroT)
    | .bad e t => (zeroG, e, ⟨0, [], 0, t.line, t.col⟩)
  else (zeroG, (lex s).1, (lex s).2.2)
def awakeG : Str := [80, 82, 79, 71, 82, 65, 77, 32, 112, 32, 86, 65, 82, 32, 97, 32, 58, 32, 73, 78, 84, 32, 58, 61, 32, 45, 51, 59, 32, 69, 78, 68, 95, 86, 65, 82, 32, 97, 32, 58, 61, 32, 97, 32, 43, 32, 49, 59, 32, 69, 78, 68, 95, 80, 82, 79, 71, 82, 65, 77]
set_option maxRecDepth 100000 in
theorem parse_awake0 : parse awakeG = (⟨[112], [⟨[97], 1, 0, false, 0, 0, -3, 1⟩], [.mk 1 [] (.mk 3 0 [97] [] [] 1) (.mk 8 0 [] [] [.mk 3 0 [97] [] [] 1, .mk 1 1 [] [] [] 1] 1) [] [] [] [] 1]⟩, 0, zeroT) := by kernel_rfl
end Go.Proofs.YtdefgghhkknnpaaGreatDoor.tr
/- The document's parser leaves signs at the end of its row, and tells errors at signs of it. No condition. -/
namespace Go.Proofs.YtdefgghhkknnpaaGreatDoor.tr
open Go.ChangeShapes Go.WideShapes Go.ChangeAt Go.RowKit Go.Proofs.YtdefgghhkknnpaaGreatDoor.k Go.Proofs.YtdefgghhkknnpaaGreatDoor.rr Go.Proofs.YtdefgghhkknnpaaGreatDoor.tk
set_option linter.unusedVariables false
set_option linter.unusedSimpArgs false

def Good {α : Type} (r : Sg) (p : Res α) : Prop := match p with
 | .ok _ r' => r' <:+ r
 | .bad e t => e ≠ 0 ∧ ∃ r', r' <:+ r ∧ t = hd r'
theorem Good.bind {α β : Type} {r : Sg} {p : Res α} {f : α → Sg → Res β} (h : Good r p) (hf : ∀ x r', p = .ok x r' → r' <:+ r → Good r (f x r')) : Good r (p.bind f) := by
 cases p with
 | ok x r' => exact hf x r' rfl h
 | bad e t => exact h
theorem bind_ok {α β : Type} {p : Res α} {f : α → Sg → Res β} {y : β} {r : Sg} (h : p.bind f = .ok y r) : ∃ x r', p = .ok x r' ∧ f x r' = .ok y r := by
 cases p with
 | ok x r' => exact ⟨x, r', rfl, h⟩
 | bad e t => simp [Res.bind] at h
theorem suf_drop {r r' : Sg} (n : Nat) (h : r' <:+ r) : r'.drop n <:+ r := (List.drop_suffix n r').trans h
theorem good_ok {α : Type} {r r' : Sg} {x : α} (h : r' <:+ r) : Good r (Res.ok x r') := h
theorem good_fail {α : Type} {r r' : Sg} {e : Int} (he : e ≠ 0) (h : r' <:+ r) : Good r (fail e r' : Res α) := ⟨he, r', h, rfl⟩
theorem good_need {r r' : Sg} {s : Str} (h : r' <:+ r) : Good r (need s r') := by
 unfold need
 split
 ·exact suf_drop 1 h
 ·exact good_fail (by decide) h
theorem good_want {r r' : Sg} {k : Int} (h : r' <:+ r) : Good r (want k r') := by
 unfold want
 split
 ·exact suf_drop 1 h
 ·exact good_fail (by decide) h
theorem want_ok {r r' : Sg} {k : Int} {t : Tk} (h : want k r = .ok t r') : t = hd r := by
 unfold want at h
 split at h
 ·cases h; rfl
 ·cases h
theorem good_bad {α : Type} {r r' r1 : Sg} {k e : Int} {t : Tk} (hw : want k r' = .ok t r1) (he : e ≠ 0) (h : r' <:+ r) : Good r (.bad e t : Res α) := ⟨he, r', h, want_ok hw⟩
theorem good_bad' {α : Type} {r r' : Sg} {e : Int} (he : e ≠ 0) (h : r' <:+ r) : Good r (.bad e (hd r') : Res α) := ⟨he, r', h, rfl⟩
set_option maxHeartbeats 4000000 in
theorem goodE : ∀ f : Nat, (∀ (d : Nat) (lv : Nat) (r : Sg) (r1 : Sg), r1 <:+ r → Good r (exprF f d lv r1)) ∧ (∀ (d : Nat) (lv : Nat) (x : Ex) (r : Sg) (r1 : Sg), r1 <:+ r → Good r (moreF f d lv x r1)) ∧ (∀ (d : Nat) (r : Sg) (r1 : Sg), r1 <:+ r → Good r (unaryF f d r1)) ∧ (∀ (d : Nat) (r : Sg) (r1 : Sg), r1 <:+ r → Good r (indexF f d r1)) := by
 intro f
 induction f with
 | zero =>
  refine ⟨?_, ?_, ?_, ?_⟩
  ·intro d lv r r1 h
   rw [exprF]
   exact good_fail (by decide) h
  ·intro d lv x r r1 h
   rw [moreF]
   exact good_fail (by decide) h
  ·intro d r r1 h
   rw [unaryF]
   exact good_fail (by decide) h
  ·intro d r r1 h
   rw [indexF]
   exact good_fail (by decide) h
 | succ f ih =>
  obtain ⟨i1, i2, i3, i4⟩ := ih
  refine ⟨?_, ?_, ?_, ?_⟩
  ·intro d lv r r1 h
   rw [exprF]
   repeat' first | with_reducible assumption | with_reducible exact List.suffix_refl _ | with_reducible apply suf_drop | with_reducible apply good_ok | with_reducible apply good_fail | with_reducible apply good_need | with_reducible apply good_want | with_reducible apply i1 | with_reducible apply i2 | with_reducible apply i3 | with_reducible apply i4 | with_reducible exact good_bad (by assumption) (by decide) (by assumption) | with_reducible apply good_bad' | with_reducible refine Good.bind ?_ fun _ _ _ _ => ?_ | decide | split
  ·intro d lv x r r1 h
   rw [moreF]
   repeat' first | with_reducible assumption | with_reducible exact List.suffix_refl _ | with_reducible apply suf_drop | with_reducible apply good_ok | with_reducible apply good_fail | with_reducible apply good_need | with_reducible apply good_want | with_reducible apply i1 | with_reducible apply i2 | with_reducible apply i3 | with_reducible apply i4 | with_reducible exact good_bad (by assumption) (by decide) (by assumption) | with_reducible apply good_bad' | with_reducible refine Good.bind ?_ fun _ _ _ _ => ?_ | decide | split
  ·intro d r r1 h
   rw [unaryF]
   repeat' first | with_reducible assumption | with_reducible exact List.suffix_refl _ | with_reducible apply suf_drop | with_reducible apply good_ok | with_reducible apply good_fail | with_reducible apply good_need | with_reducible apply good_want | with_reducible apply i1 | with_reducible apply i2 | with_reducible apply i3 | with_reducible apply i4 | with_reducible exact good_bad (by assumption) (by decide) (by assumption) | with_reducible apply good_bad' | with_reducible refine Good.bind ?_ fun _ _ _ _ => ?_ | decide | split
  ·intro d r r1 h
   rw [indexF]
   repeat' first | with_reducible assumption | with_reducible exact List.suffix_refl _ | with_reducible apply suf_drop | with_reducible apply good_ok | with_reducible apply good_fail | with_reducible apply good_need | with_reducible apply good_want | with_reducible apply i1 | with_reducible apply i2 | with_reducible apply i3 | with_reducible apply i4 | with_reducible exact good_bad (by assumption) (by decide) (by assumption) | with_reducible apply good_bad' | with_reducible refine Good.bind ?_ fun _ _ _ _ => ?_ | decide | split
theorem good_expr {f d : Nat} {r r1 : Sg} (h : r1 <:+ r) : Good r (expr f d r1) := (goodE f).1 d 1 r r1 h
theorem good_index {f d : Nat} {r r1 : Sg} (h : r1 <:+ r) : Good r (indexF f d r1) := (goodE f).2.2.2 d r r1 h
theorem good_intg {r r1 : Sg} (h : r1 <:+ r) : Good r (intg r1) := by
 unfold intg
 repeat' first | with_reducible assumption | with_reducible exact List.suffix_refl _ | with_reducible apply suf_drop | with_reducible apply good_ok | with_reducible apply good_fail | with_reducible apply good_need | with_reducible apply good_want | with_reducible exact good_bad (by assumption) (by decide) (by assumption) | with_reducible apply good_bad' | with_reducible refine Good.bind ?_ fun _ _ _ _ => ?_ | decide | split
theorem good_labels : ∀ (f : Nat) (r r1 : Sg) (acc : List Int), r1 <:+ r → Good r (labelsF f r1 acc)
 | 0, r, r1, acc, h => by
  rw [labelsF]
  exact good_fail (by decide) h
 | f + 1, r, r1, acc, h => by
  rw [labelsF]
  repeat' first | with_reducible assumption | with_reducible exact List.suffix_refl _ | with_reducible apply suf_drop | with_reducible apply good_ok | with_reducible apply good_fail | with_reducible apply good_need | with_reducible apply good_want | with_reducible apply good_labels | with_reducible apply good_intg | with_reducible exact good_bad (by assumption) (by decide) (by assumption) | with_reducible apply good_bad' | with_reducible refine Good.bind ?_ fun _ _ _ _ => ?_ | decide | split
theorem good_args : ∀ (f : Nat) (d : Nat) (r r1 : Sg) (fs : List Str) (cs : List Ex), r1 <:+ r → Good r (argsF f d r1 fs cs)
 | 0, d, r, r1, fs, cs, h => by
  rw [argsF]
  exact good_fail (by decide) h
 | f + 1, d, r, r1, fs, cs, h => by
  rw [argsF]
  repeat' first | with_reducible assumption | with_reducible exact List.suffix_refl _ | with_reducible apply suf_drop | with_reducible apply good_ok | with_reducible apply good_fail | with_reducible apply good_need | with_reducible apply good_want | with_reducible apply good_args | with_reducible apply good_expr | with_reducible exact good_bad (by assumption) (by decide) (by assumption) | with_reducible apply good_bad' | with_reducible refine Good.bind ?_ fun _ _ _ _ => ?_ | decide | split
set_option maxHeartbeats 4000000 in
theorem goodS : ∀ f : Nat, (∀ (d : Nat) (ends : List Str) (r : Sg) (r1 : Sg) (ac : List St), r1 <:+ r → Good r (stmtsF f d ends r1 ac)) ∧ (∀ (d : Nat) (r : Sg) (r1 : Sg), r1 <:+ r → Good r (stmtF f d r1)) ∧ (∀ (d : Nat) (r : Sg) (r1 : Sg), r1 <:+ r → Good r (whatF f d r1)) ∧ (∀ (d : Nat) (r : Sg) (r1 : Sg) (cs : List Ex) (bs : List (List St)), r1 <:+ r → Good r (ifF f d r1 cs bs)) ∧ (∀ (d : Nat) (x : Ex) (r : Sg) (r1 : Sg) (ls : List (List Int)) (bs : List (List St)), r1 <:+ r → Good r (caseF f d x r1 ls bs)) ∧ (∀ (d : Nat) (r : Sg) (r1 : Sg) (ac : List St), r1 <:+ r → Good r (blockF f d r1 ac)) := by
 intro f
 induction f with
 | zero =>
  refine ⟨?_, ?_, ?_, ?_, ?_, ?_⟩
  ·intro d ends r r1 ac h
   rw [stmtsF]
   exact good_fail (by decide) h
  ·intro d r r1 h
   rw [stmtF]
   exact good_fail (by decide) h
  ·intro d r r1 h
   rw [whatF]
   exact good_fail (by decide) h
  ·intro d r r1 cs bs h
   rw [ifF]
   exact good_fail (by decide) h
  ·intro d x r r1 ls bs h
   rw [caseF]
   exact good_fail (by decide) h
  ·intro d r r1 ac h
   rw [blockF]
   exact good_fail (by decide) h
 | succ f ih =>
  obtain ⟨i1, i2, i3, i4, i5, i6⟩ := ih
  refine ⟨?_, ?_, ?_, ?_, ?_, ?_⟩
  ·intro d ends r r1 ac h
   rw [stmtsF]
   repeat' first | with_reducible assumption | with_reducible exact List.suffix_refl _ | with_reducible apply suf_drop | with_reducible apply good_ok | with_reducible apply good_fail | with_reducible apply good_need | with_reducible apply good_want | with_reducible apply i1 | with_reducible apply i2 | with_reducible apply i3 | with_reducible apply i4 | with_reducible apply i5 | with_reducible apply i6 | with_reducible apply good_expr | with_reducible apply good_index | with_reducible apply good_args | with_reducible apply good_labels | with_reducible exact good_bad (by assumption) (by decide) (by assumption) | with_reducible apply good_bad' | with_reducible refine Good.bind ?_ fun _ _ _ _ => ?_ | decide | split
  ·intro d r r1 h
   rw [stmtF]
   repeat' first | with_reducible assumption | with_reducible exact List.suffix_refl _ | with_reducible apply suf_drop | with_reducible apply good_ok | with_reducible apply good_fail | with_reducible apply good_need | with_reducible apply good_want | with_reducible apply i1 | with_reducible apply i2 | with_reducible apply i3 | with_reducible apply i4 | with_reducible apply i5 | with_reducible apply i6 | with_reducible apply good_expr | with_reducible apply good_index | with_reducible apply good_args | with_reducible apply good_labels | with_reducible exact good_bad (by assumption) (by decide) (by assumption) | with_reducible apply good_bad' | with_reducible refine Good.bind ?_ fun _ _ _ _ => ?_ | decide | split
  ·intro d r r1 h
   rw [whatF]
   repeat' first | with_reducible assumption | with_reducible exact List.suffix_refl _ | with_reducible apply suf_drop | with_reducible apply good_ok | with_reducible apply good_fail | with_reducible apply good_need | with_reducible apply good_want | with_reducible apply i1 | with_reducible apply i2 | with_reducible apply i3 | with_reducible apply i4 | with_reducible apply i5 | with_reducible apply i6 | with_reducible apply good_expr | with_reducible apply good_index | with_reducible apply good_args | with_reducible apply good_labels | with_reducible exact good_bad (by assumption) (by decide) (by assumption) | with_reducible apply good_bad' | with_reducible refine Good.bind ?_ fun _ _ _ _ => ?_ | decide | split
  ·intro d r r1 cs bs h
   rw [ifF]
   repeat' first | with_reducible assumption | with_reducible exact List.suffix_refl _ | with_reducible apply suf_drop | with_reducible apply good_ok | with_reducible apply good_fail | with_reducible apply good_need | with_reducible apply good_want | with_reducible apply i1 | with_reducible apply i2 | with_reducible apply i3 | with_reducible apply i4 | with_reducible apply i5 | with_reducible apply i6 | with_reducible apply good_expr | with_reducible apply good_index | with_reducible apply good_args | with_reducible apply good_labels | with_reducible exact good_bad (by assumption) (by decide) (by assumption) | with_reducible apply good_bad' | with_reducible refine Good.bind ?_ fun _ _ _ _ => ?_ | decide | split
  ·intro d x r r1 ls bs h
   rw [caseF]
   repeat' first | with_reducible assumption | with_reducible exact List.suffix_refl _ | with_reducible apply suf_drop | with_reducible apply good_ok | with_reducible apply good_fail | with_reducible apply good_need | with_reducible apply good_want | with_reducible apply i1 | with_reducible apply i2 | with_reducible apply i3 | with_reducible apply i4 | with_reducible apply i5 | with_reducible apply i6 | with_reducible apply good_expr | with_reducible apply good_index | with_reducible apply good_args | with_reducible apply good_labels | with_reducible exact good_bad (by assumption) (by decide) (by assumption) | with_reducible apply good_bad' | with_reducible refine Good.bind ?_ fun _ _ _ _ => ?_ | decide | split
  ·intro d r r1 ac h
   rw [blockF]
   repeat' first | with_reducible assumption | with_reducible exact List.suffix_refl _ | with_reducible apply suf_drop | with_reducible apply good_ok | with_reducible apply good_fail | with_reducible apply good_need | with_reducible apply good_want | with_reducible apply i1 | with_reducible apply i2 | with_reducible apply i3 | with_reducible apply i4 | with_reducible apply i5 | with_reducible apply i6 | with_reducible apply good_expr | with_reducible apply good_index | with_reducible apply good_args | with_reducible apply good_labels | with_reducible exact good_bad (by assumption) (by decide) (by assumption) | with_reducible apply good_bad' | with_reducible refine Good.bind ?_ fun _ _ _ _ => ?_ | decide | split
theorem good_stmts {f d : Nat} {ends : List Str} {r r1 : Sg} {ac : List St} (h : r1 <:+ r) : Good r (stmtsF f d ends r1 ac) := (goodS f).1 d ends r r1 ac h
theorem good_names : ∀ (f : Nat) (m : Nat) (r r1 : Sg) (acc : List Tk), r1 <:+ r → Good r (namesF f m r1 acc)
 | 0, m, r, r1, acc, h => by
  rw [namesF]
  exact good_fail (by decide) h
 | f + 1, m, r, r1, acc, h => by
  rw [namesF]
  repeat' first | with_reducible assumption | with_reducible exact List.suffix_refl _ | with_reducible apply suf_drop | with_reducible apply good_ok | with_reducible apply good_fail | with_reducible apply good_need | with_reducible apply good_want | with_reducible apply good_names | with_reducible exact good_bad (by assumption) (by decide) (by assumption) | with_reducible apply good_bad' | with_reducible refine Good.bind ?_ fun _ _ _ _ => ?_ | decide | split
theorem good_type {r r1 : Sg} (h : r1 <:+ r) : Good r (typeP r1) := by
 unfold typeP
 repeat' first | with_reducible assumption | with_reducible exact List.suffix_refl _ | with_reducible apply suf_drop | with_reducible apply good_ok | with_reducible apply good_fail | with_reducible apply good_need | with_reducible apply good_want | with_reducible exact good_bad (by assumption) (by decide) (by assumption) | with_reducible apply good_bad' | with_reducible refine Good.bind ?_ fun _ _ _ _ => ?_ | decide | split
theorem good_value {r r1 : Sg} (h : r1 <:+ r) : Good r (valueP r1) := by
 unfold valueP
 repeat' first | with_reducible assumption | with_reducible exact List.suffix_refl _ | with_reducible apply suf_drop | with_reducible apply good_ok | with_reducible apply good_fail | with_reducible apply good_need | with_reducible apply good_want | with_reducible apply good_intg | with_reducible exact good_bad (by assumption) (by decide) (by assumption) | with_reducible apply good_bad' | with_reducible refine Good.bind ?_ fun _ _ _ _ => ?_ | decide | split
theorem good_line {f : Nat} {sec : Int} {vs : List Va} {r r1 : Sg} (h : r1 <:+ r) : Good r (lineP f sec r1 vs) := by
 unfold lineP
 repeat' first | with_reducible assumption | with_reducible exact List.suffix_refl _ | with_reducible apply suf_drop | with_reducible apply good_ok | with_reducible apply good_fail | with_reducible apply good_need | with_reducible apply good_want | with_reducible apply good_names | with_reducible apply good_type | with_reducible apply good_value | with_reducible exact good_bad (by assumption) (by decide) (by assumption) | with_reducible apply good_bad' | with_reducible refine Good.bind ?_ fun _ _ _ _ => ?_ | decide | split
theorem good_lines : ∀ (f : Nat) (sec : Int) (r r1 : Sg) (vs : List Va), r1 <:+ r → Good r (linesF f sec r1 vs)
 | 0, sec, r, r1, vs, h => by
  rw [linesF]
  exact good_fail (by decide) h
 | f + 1, sec, r, r1, vs, h => by
  rw [linesF]
  repeat' first | with_reducible assumption | with_reducible exact List.suffix_refl _ | with_reducible apply suf_drop | with_reducible apply good_ok | with_reducible apply good_fail | with_reducible apply good_need | with_reducible apply good_want | with_reducible apply good_lines | with_reducible apply good_line | with_reducible exact good_bad (by assumption) (by decide) (by assumption) | with_reducible apply good_bad' | with_reducible refine Good.bind ?_ fun _ _ _ _ => ?_ | decide | split
theorem good_sects : ∀ (f : Nat) (r r1 : Sg) (vs : List Va), r1 <:+ r → Good r (sectsF f r1 vs)
 | 0, r, r1, vs, h => by
  rw [sectsF]
  exact good_fail (by decide) h
 | f + 1, r, r1, vs, h => by
  rw [sectsF]
  repeat' first | with_reducible assumption | with_reducible exact List.suffix_refl _ | with_reducible apply suf_drop | with_reducible apply good_ok | with_reducible apply good_fail | with_reducible apply good_need | with_reducible apply good_want | with_reducible apply good_sects | with_reducible apply good_lines | with_reducible exact good_bad (by assumption) (by decide) (by assumption) | with_reducible apply good_bad' | with_reducible refine Good.bind ?_ fun _ _ _ _ => ?_ | decide | split
theorem good_prog {f : Nat} {r r1 : Sg} (h : r1 <:+ r) : Good r (progP f r1) := by
 unfold progP
 repeat' first | with_reducible assumption | with_reducible exact List.suffix_refl _ | with_reducible apply suf_drop | with_reducible apply good_ok | with_reducible apply good_fail | with_reducible apply good_need | with_reducible apply good_want | with_reducible apply good_sects | with_reducible apply good_stmts | with_reducible exact good_bad (by assumption) (by decide) (by assumption) | with_reducible apply good_bad' | with_reducible refine Good.bind ?_ fun _ _ _ _ => ?_ | decide | split
theorem placed_line {s : Str} : ∀ {M : List Tk} {o : Nat}, Placed s o M → ∀ t ∈ M, 1 ≤ t.line
 | t :: l, o, ⟨p, h1, h2, h3, _, _, h⟩, u, hu => by
  rcases List.mem_cons.mp hu with rfl | hm
  ·have := (plc_pos (s.take p)).1
   rw [← h3] at this
   exact this
  ·rcases h with ⟨rfl, _⟩ | h
   ·cases hm
   ·exact placed_line h u hm
theorem placed_text {s : Str} : ∀ {M : List Tk} {o : Nat}, Placed s o M → ∀ t ∈ M, ∃ p, p + t.text.length ≤ s.length ∧ (s.drop p).take t.text.length = t.text
 | t :: l, o, ⟨p, h1, h2, h3, h4, h5, h⟩, u, hu => by
  rcases List.mem_cons.mp hu with rfl | hm
  ·exact ⟨p, h5, h4⟩
  ·rcases h with ⟨rfl, _⟩ | h
   ·cases hm
   ·exact placed_text h u hm
theorem need_ok {s : Str} {r r' : Sg} {u : Unit} (h : need s r = .ok u r') : txt r = s := by
 unfold need at h
 split at h
 ·assumption
 ·cases h
theorem txt_mem {s : Str} {r : Sg} (h : txt r = s) (h0 : s ≠ []) : ∃ t ∈ r, t.text = s := by
 cases r with
 | nil => exact absurd h.symm h0
 | cons t l =>
  unfold txt at h
  simp only at h
  split at h
  ·exact ⟨t, List.mem_cons_self, h⟩
  ·exact absurd h.symm h0
def endP : Str := [69, 78, 68, 95, 80, 82, 79, 71, 82, 65, 77]
theorem prog_end {f : Nat} {r r1 : Sg} {p : Pg} (h : progP f r = .ok p r1) : ∃ t ∈ r, t.text = endP := by
 unfold progP at h
 obtain ⟨_, r2, h2, h⟩ := bind_ok h
 obtain ⟨_, r3, h3, h⟩ := bind_ok h
 obtain ⟨_, r4, h4, h⟩ := bind_ok h
 obtain ⟨_, r5, h5, h⟩ := bind_ok h
 obtain ⟨_, r6, h6, h⟩ := bind_ok h
 have g2 : r2 <:+ r := by have := good_need (s := [80, 82, 79, 71, 82, 65, 77]) (List.suffix_refl r); rw [h2] at this; exact this
 have g3 : r3 <:+ r := by have := good_want (k := 1) g2; rw [h3] at this; exact this
 have g4 : r4 <:+ r := by have := good_sects f r r2 [] ; have := good_sects f r r3 [] g3; rw [h4] at this; exact this
 have g5 : r5 <:+ r := by have := good_stmts (f := f) (d := 0) (ends := [[69, 78, 68, 95, 80, 82, 79, 71, 82, 65, 77]]) (ac := []) g4; rw [h5] at this; exact this
 obtain ⟨t, ht, he⟩ := txt_mem (need_ok h6) (by decide)
 exact ⟨t, g5.subset ht, he⟩
theorem parse_end {s : Str} (h : (parse s).2.1 = 0) : ∃ p, p + 11 ≤ s.length ∧ (s.drop p).take 11 = endP := by
 obtain ⟨⟨er, M, z⟩, hx⟩ : ∃ x, lex s = x := ⟨_, rfl⟩
 have hp := lex_placed hx
 unfold parse at h
 rw [hx] at h
 simp only at h
 by_cases he : er = 0
 ·rw [if_pos he] at h
  have hg := good_prog (f := 20 * M.length + 20) (List.suffix_refl M)
  cases hq : progP (20 * M.length + 20) M with
  | ok p r =>
   obtain ⟨t, ht, hte⟩ := prog_end hq
   obtain ⟨p, h1, h2⟩ := placed_text (hp.1 he).1 t ht
   rw [hte] at h1 h2
   exact ⟨p, h1, h2⟩
  | bad e t =>
   rw [hq] at h hg
   exact absurd h hg.1
 ·rw [if_neg he] at h
  exact absurd h he
theorem parse_err {s : Str} (h : (parse s).2.1 ≠ 0) : (parse s).1 = zeroG ∧ 1 ≤ (parse s).2.2.line := by
 obtain ⟨⟨er, M, z⟩, hx⟩ : ∃ x, lex s = x := ⟨_, rfl⟩
 have hp := lex_placed hx
 unfold parse at h ⊢
 rw [hx] at h ⊢
 simp only at h ⊢
 by_cases he : er = 0
 ·rw [if_pos he] at h ⊢
  have hg := good_prog (f := 20 * M.length + 20) (List.suffix_refl M)
  cases hq : progP (20 * M.length + 20) M with
  | ok p r => rw [hq] at h; exact absurd rfl h
  | bad e t =>
   rw [hq] at hg
   obtain ⟨_, r', hr, rfl⟩ := hg
   refine ⟨rfl, ?_⟩
   show 1 ≤ (hd r').line
   cases r' with
   | nil => exact Nat.le_refl _
   | cons t l => exact placed_line (hp.1 he).1 t (hr.subset (List.mem_cons_self))
 ·rw [if_neg he] at h ⊢
  exact ⟨rfl, (hp.2 he).2.2.1⟩
end Go.Proofs.YtdefgghhkknnpaaGreatDoor.tr
/- A text whose blanks are newlines has the same signs but for their places, if no // stands in it. -/
namespace Go.Proofs.YtdefgghhkknnpaaGreatDoor.tr
open Go.ChangeShapes Go.WideShapes Go.ChangeAt Go.RowKit Go.Proofs.YtdefgghhkknnpaaGreatDoor.k Go.Proofs.YtdefgghhkknnpaaGreatDoor.rr Go.Proofs.YtdefgghhkknnpaaGreatDoor.tk
set_option linter.unusedVariables false
set_option linter.unusedSimpArgs false

def gB (c : UInt8) : UInt8 := if c = 32 then 10 else c
/-- no // stands in it -/
def NoSl (r : Str) : Prop := ∀ i, two (r.drop i) 47 47 = false
theorem NoSl.drop {r : Str} (h : NoSl r) (n : Nat) : NoSl (r.drop n) := fun i => by rw [List.drop_drop]; exact h _
theorem NoSl.suf {r q : Str} (h : NoSl r) (hq : q <:+ r) : NoSl q := by
  rw [List.suffix_iff_eq_drop.1 hq]
  exact h.drop _
theorem gB_beq {a : UInt8} (h1 : a ≠ 32) (h2 : a ≠ 10) (x : UInt8) : (gB x == a) = (x == a) := by
  unfold gB
  split
  · rename_i h
    subst h
    rw [show ((10 : UInt8) == a) = false from beq_eq_false_iff_ne.2 (fun e => h2 e.symm), show ((32 : UInt8) == a) = false from beq_eq_false_iff_ne.2 (fun e => h1 e.symm)]
  · rfl
theorem two_map {a b : UInt8} (h1 : a ≠ 32) (h2 : a ≠ 10) (h3 : b ≠ 32) (h4 : b ≠ 10) (r : Str) : two (r.map gB) a b = two r a b := by
  match r with
  | [] => rfl
  | [_] => rfl
  | x :: y :: l => simp only [List.map_cons, two]; rw [gB_beq h1 h2, gB_beq h3 h4]
theorem endRest_map : ∀ r : Str, endRest (r.map gB) = (endRest r).map (List.map gB)
  | [] => rfl
  | c :: l => by
    have h := two_map (a := 42) (b := 41) (by decide) (by decide) (by decide) (by decide) (c :: l)
    rw [List.map_cons] at h ⊢
    rw [endRest, endRest, h]
    split
    · simp
    · exact endRest_map l
theorem pastF_map : ∀ (f : Nat) (r : Str), NoSl r → pastF f (r.map gB) = ((pastF f r).1, (pastF f r).2.map gB)
  | 0, r, _ => rfl
  | f + 1, [], _ => rfl
  | f + 1, c :: l, h => by
    have t1 := two_map (a := 47) (b := 47) (by decide) (by decide) (by decide) (by decide) (c :: l)
    have t2 := two_map (a := 40) (b := 42) (by decide) (by decide) (by decide) (by decide) (c :: l)
    have h0 : two (c :: l) 47 47 = false := h 0
    have hl : NoSl l := h.suf (List.suffix_cons c l)
    have hg : (gB c = 32 ∨ gB c = 10 ∨ gB c = 9) ↔ (c = 32 ∨ c = 10 ∨ c = 9) := by
      unfold gB
      split
      · rename_i e; subst e; simp
      · simp
    rw [List.map_cons] at t1 t2 ⊢
    rw [pastF, pastF, t1, t2, h0]
    by_cases hb : c = 32 ∨ c = 10 ∨ c = 9
    · rw [if_pos (hg.2 hb), if_pos hb]
      exact pastF_map f l hl
    · rw [if_neg (fun e => hb (hg.1 e)), if_neg hb]
      simp only [Bool.false_eq_true, if_false]
      cases hq : two (c :: l) 40 42
      · simp
      · simp only [if_true]
        rw [← List.map_drop, endRest_map]
        cases he : endRest (l.drop 1) with
        | none => rfl
        | some r => exact pastF_map f r ((hl.drop 1).suf (endRest_suf _ _ he))
theorem past_map {r : Str} (h : NoSl r) : past (r.map gB) = ((past r).1, (past r).2.map gB) := by
  unfold past
  rw [List.length_map]
  exact pastF_map _ _ h
theorem alphaB_g (c : UInt8) : alphaB (gB c) = alphaB c := by
  unfold gB
  split
  · rename_i e; subst e; rfl
  · rfl
theorem numB_g (c : UInt8) : numB (gB c) = numB c := by
  unfold gB
  split
  · rename_i e; subst e; rfl
  · rfl
theorem bodyB_g (c : UInt8) : bodyB (gB c) = bodyB c := by
  unfold gB
  split
  · rename_i e; subst e; rfl
  · rfl
theorem digV_g (c : UInt8) : digV (gB c) = digV c := by
  unfold gB
  split
  · rename_i e; subst e; rfl
  · rfl
theorem bodyLen_map : ∀ r : Str, bodyLen (r.map gB) = bodyLen r
  | [] => rfl
  | c :: l => by rw [List.map_cons, bodyLen, bodyLen, bodyB_g, bodyLen_map l]
theorem digs_map' (b : Nat) : ∀ r : Str, digs b (r.map gB) = digs b r
  | [] => rfl
  | c :: l => by
    rw [List.map_cons, digs, digs, dig_eq, dig_eq, digV_g, digs_map' b l]
theorem stuck_map : ∀ r : Str, tk.stuck (r.map gB) = tk.stuck r
  | [] => rfl
  | c :: l => by
    rw [List.map_cons, tk.stuck, tk.stuck, bodyB_g, gB_beq (by decide) (by decide)]
theorem baseOf_map (r : Str) : baseOf (r.map gB) = baseOf r := by
  unfold baseOf
  rw [← List.map_drop, two_map (by decide) (by decide) (by decide) (by decide), two_map (by decide) (by decide) (by decide) (by decide), two_map (by decide) (by decide) (by decide) (by decide), two_map (by decide) (by decide) (by decide) (by decide)]
theorem number_map (r : Str) : number (r.map gB) = number r := by
  unfold number
  simp only [baseOf_map, ← List.map_drop, digs_map', stuck_map]
theorem singles_g (c : UInt8) : singles.contains (gB c) = singles.contains c := by
  unfold gB
  split
  · rename_i e; subst e; rfl
  · rfl
theorem signLen_map (r : Str) : signLen (r.map gB) = signLen r := by
  unfold signLen
  rw [two_map (by decide) (by decide) (by decide) (by decide), two_map (by decide) (by decide) (by decide) (by decide), two_map (by decide) (by decide) (by decide) (by decide), two_map (by decide) (by decide) (by decide) (by decide), two_map (by decide) (by decide) (by decide) (by decide)]
  match r with
  | [] => rfl
  | c :: l => simp only [List.map_cons, singles_g]
theorem body_ne {c : UInt8} (h : bodyB c = true) : gB c = c := by
  unfold gB
  split
  · rename_i e; subst e; cases h
  · rfl
theorem take_body : ∀ r : Str, (r.map gB).take (bodyLen r) = r.take (bodyLen r)
  | [] => rfl
  | c :: l => by
    rw [bodyLen]
    split
    · rename_i h
      rw [List.map_cons, List.take_succ_cons, List.take_succ_cons, body_ne h, take_body l]
    · rfl
theorem dig_ne {c : UInt8} {b : Nat} (hb : b ≤ 16) (h : digV c < b) : gB c = c := by
  unfold gB
  split
  · rename_i e
    subst e
    rw [show digV 32 = 99 from rfl] at h
    omega
  · rfl
theorem take_digs {b : Nat} (hb : b ≤ 16) : ∀ r : Str, (r.map gB).take (digs b r).length = r.take (digs b r).length
  | [] => rfl
  | c :: l => by
    by_cases h : digV c < b
    · rw [digs_yes h, List.length_cons, List.map_cons, List.take_succ_cons, List.take_succ_cons, dig_ne hb h, take_digs hb l]
    · rw [digs_no h]
      rfl
theorem two_take_map {a b : UInt8} (h1 : a ≠ 32) (h3 : b ≠ 32) {r : Str} (h : two r a b = true) : ∃ l, r = a :: b :: l ∧ gB a = a ∧ gB b = b := by
  match r, h with
  | x :: y :: l, h =>
    simp only [two, Bool.and_eq_true, beq_iff_eq] at h
    obtain ⟨rfl, rfl⟩ := h
    exact ⟨l, rfl, by unfold gB; rw [if_neg h1], by unfold gB; rw [if_neg h3]⟩
theorem base_le16 (r : Str) : (baseOf r).1 ≤ 16 := by
  unfold baseOf
  split
  · simp
  · split
    · simp
    · split <;> simp
theorem take_base (r : Str) : (r.map gB).take (baseOf r).2 = r.take (baseOf r).2 := by
  unfold baseOf
  split
  · rename_i h
    obtain ⟨l, rfl, h1, h2⟩ := two_take_map (by decide) (by decide) h
    simp only [List.map_cons, List.take_succ_cons, List.take_zero, h1, h2]
  · split
    · rename_i h
      obtain ⟨l, rfl, h1, h2⟩ := two_take_map (by decide) (by decide) h
      simp only [List.map_cons, List.take_succ_cons, List.take_zero, h1, h2]
    · split
      · rename_i h
        rw [Bool.and_eq_true] at h
        obtain ⟨l, rfl, h1, h2⟩ := two_take_map (by decide) (by decide) h.1
        obtain ⟨l2, h3, h4, h5⟩ := two_take_map (by decide) (by decide) h.2
        rw [List.drop_succ_cons, List.drop_zero] at h3
        injection h3 with _ h3
        subst h3
        simp only [List.map_cons, List.take_succ_cons, List.take_zero, h1, h2, h5]
      · rfl
theorem take_number (r : Str) : (r.map gB).take (number r).2.2 = r.take (number r).2.2 := by
  have e : (number r).2.2 = (baseOf r).2 + (digs (baseOf r).1 (r.drop (baseOf r).2)).length := by
    unfold number
    simp only
    split
    · rfl
    · split <;> rfl
  rw [e, List.take_add, List.take_add, take_base, ← List.map_drop, take_digs (base_le16 r)]
theorem take_sign (r : Str) : (r.map gB).take (signLen r) = r.take (signLen r) := by
  unfold signLen
  split
  · rename_i h
    rw [Bool.or_eq_true, Bool.or_eq_true, Bool.or_eq_true, Bool.or_eq_true] at h
    rcases h with h | h | h | h | h <;>
    · obtain ⟨l, rfl, h1, h2⟩ := two_take_map (by decide) (by decide) h
      simp only [List.map_cons, List.take_succ_cons, List.take_zero, h1, h2]
  · match r with
    | [] => rfl
    | c :: l =>
      simp only
      split
      · rename_i h
        have hc : gB c = c := by
          unfold gB
          split
          · rename_i e; subst e; cases h
          · rfl
        simp only [List.map_cons, List.take_succ_cons, List.take_zero, hc]
      · rfl
theorem sgn_map (r : Str) : sgn (r.map gB) = sgn r ∧ (r.map gB).take (sgn r).2.2.2 = r.take (sgn r).2.2.2 := by
  match r with
  | [] => exact ⟨rfl, rfl⟩
  | c :: l =>
    have hb := bodyLen_map (c :: l)
    have ht := take_body (c :: l)
    have hn := number_map (c :: l)
    have htn := take_number (c :: l)
    have hs := signLen_map (c :: l)
    have hts := take_sign (c :: l)
    rw [List.map_cons] at hb ht hn htn hs hts ⊢
    have e : sgn (gB c :: l.map gB) = sgn (c :: l) := by
      unfold sgn
      simp only [alphaB_g, numB_g, hb, ht, hn, hs]
    refine ⟨e, ?_⟩
    unfold sgn
    simp only
    split
    · split
      · exact ht
      · split
        · rfl
        · exact ht
    · split
      · split
        · exact htn
        · rfl
      · split
        · rfl
        · exact hts
/-- a sign but for its place -/
def eP (t : Tk) : Tk := ⟨t.kind, t.text, t.n, 0, 0⟩
theorem lexF_nl : ∀ (f : Nat) (s s' r : Str) (acc acc' : List Tk), NoSl r → acc'.map eP = acc.map eP → (lexF s' f (r.map gB) acc').1 = (lexF s f r acc).1 ∧ (lexF s' f (r.map gB) acc').2.1.map eP = (lexF s f r acc).2.1.map eP
  | 0, _, _, _, _, _, _, _ => ⟨rfl, rfl⟩
  | f + 1, s, s', r, acc, acc', hr, ha => by
    have hp := past_map hr
    have hsuf := past_suf r
    have hq := hr.suf hsuf
    rw [lexF, lexF]
    simp only [hp]
    obtain ⟨⟨ok, q⟩, hpq⟩ : ∃ x, past r = x := ⟨_, rfl⟩
    rw [hpq] at hq ⊢
    simp only at hq ⊢
    cases ok
    · exact ⟨rfl, rfl⟩
    · simp only [Bool.true_eq_false, if_false]
      obtain ⟨hs1, hs2⟩ := sgn_map q
      by_cases hn : q = []
      · subst hn
        simp only [List.map_nil, if_true]
        exact ⟨trivial, by rw [List.map_append, List.map_append, ha]; rfl⟩
      · have hn' : q.map gB ≠ [] := by simpa using hn
        rw [if_neg hn, if_neg hn', hs1]
        split
        · rw [← List.map_drop, hs2]
          refine lexF_nl f s s' _ _ _ (hq.drop _) ?_
          rw [List.map_append, List.map_append, ha]
          rfl
        · exact ⟨rfl, rfl⟩
theorem lex_nl {s : Str} (h : NoSl s) : (lex (s.map gB)).1 = (lex s).1 ∧ (lex (s.map gB)).2.1.map eP = (lex s).2.1.map eP := by
  unfold lex
  rw [List.length_map]
  split
  · exact ⟨rfl, rfl⟩
  · exact lexF_nl _ _ _ _ _ _ h rfl
end Go.Proofs.YtdefgghhkknnpaaGreatDoor.tr
