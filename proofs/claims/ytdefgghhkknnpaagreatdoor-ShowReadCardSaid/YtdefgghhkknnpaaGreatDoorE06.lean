/- The document's parser comes to an end within its fuel. No condition but what each line says. -/
import Derived.Test.YtdefgghhkknnpaaGreatDoorE05
set_option linter.unusedVariables false
set_option linter.unusedSimpArgs false
set_option maxRecDepth 100000
set_option maxHeartbeats 40000000
namespace Go.Proofs.YtdefgghhkknnpaaGreatDoor
namespace tr
open ChangeShapes WideShapes ChangeAt RowKit k rr tk
def Fin' {α:Type} (n:Nat) (p:Res α):Prop:=match p with
 | .ok _ r=>r.length<n
 | .bad e _=>e≠99
theorem fin_bind {α β:Type} {m n:Nat} {p:Res α} {f:α→Sg→Res β} (h:Fin' n p) (hf:∀ x r,r.length<n→Fin' m (f x r)):Fin' m (p.bind f):=by
 cases p with
 | ok x r=>exact hf x r h
 | bad e t=>exact h
theorem fin_bite {α β:Type} {m:Nat} {c:Prop} [Decidable c] {a b:Res α} {f:α→Sg→Res β} (h:Fin' m (if c then a.bind f else b.bind f)):Fin' m ((if c then a else b).bind f):=by
 split<;>split at h<;>first|exact h|contradiction
theorem fin_bok {α β:Type} {m:Nat} {x:α} {r:Sg} {f:α→Sg→Res β} (h:Fin' m (f x r)):Fin' m ((Res.ok x r).bind f):=h
theorem fin_bbind {α β γ:Type} {m:Nat} {p:Res α} {g:α→Sg→Res β} {f:β→Sg→Res γ} (h:Fin' m (p.bind fun x r=>(g x r).bind f)):Fin' m ((p.bind g).bind f):=by
 cases p<;>exact h
theorem fin_ok {α:Type} {n:Nat} {x:α} {r:Sg} (h:r.length<n):Fin' n (Res.ok x r):=h
theorem fin_fail {α:Type} {n:Nat} {e:Int} {r:Sg} (h:e≠99):Fin' n (fail e r:Res α):=h
theorem fin_bad {α:Type} {n:Nat} {e:Int} {t:Tk} (h:e≠99):Fin' n (.bad e t:Res α):=h
theorem fin_bfail {α β:Type} {n:Nat} {e:Int} {r:Sg} {f:α→Sg→Res β} (h:e≠99):Fin' n ((fail e r:Res α).bind f):=h
theorem fin_bbad {α β:Type} {n:Nat} {e:Int} {t:Tk} {f:α→Sg→Res β} (h:e≠99):Fin' n ((.bad e t:Res α).bind f):=h
theorem txt_pos {r:Sg} {c:UInt8} {l:Str} (h:txt r=c::l):1≤r.length:=by
 cases r with
 | nil=>cases h
 | cons t q=>simp
theorem kind_pos {r:Sg} {k:Int} (hk:k≠0) (h:(hd r).kind=k):1≤r.length:=by
 cases r with
 | nil=>exact absurd h.symm hk
 | cons t q=>simp
theorem op_pos {r:Sg} {lv:Nat} (h:¬ opOf lv (txt r)=0):1≤r.length:=by
 cases r with
 | nil=>exact absurd (by unfold opOf txt;split<;>simp) h
 | cons t q=>simp
theorem simple_pos {r:Sg} (h:simpleT r≠0):1≤r.length:=by
 cases r with
 | nil=>exact absurd (by rfl) h
 | cons t q=>simp
theorem fin_txt {α:Type} {n:Nat} {r:Sg} {c:UInt8} {l:Str} {a b:Res α} (h1:1≤r.length→Fin' n a) (h2:Fin' n b):Fin' n (if txt r=c::l then a else b):=by
 split
 ·exact h1 (txt_pos (by assumption))
 ·exact h2
theorem fin_or {α:Type} {n:Nat} {r:Sg} {c c':UInt8} {l l':Str} {a b:Res α} (h1:1≤r.length→Fin' n a) (h2:Fin' n b):Fin' n (if txt r=c::l∨txt r=c'::l' then a else b):=by
 split
 ·rename_i h
  exact h1 (h.elim txt_pos txt_pos)
 ·exact h2
theorem fin_kind {α:Type} {n:Nat} {r:Sg} {a b:Res α} (h1:1≤r.length→Fin' n a) (h2:Fin' n b):Fin' n (if (hd r).kind=3 then a else b):=by
 split
 ·exact h1 (kind_pos (k:=3) (by decide) (by assumption))
 ·exact h2
theorem fin_op {α:Type} {n lv:Nat} {r:Sg} {a b:Res α} (h1:Fin' n a) (h2:1≤r.length→Fin' n b):Fin' n (if opOf lv (txt r)=0 then a else b):=by
 split
 ·exact h1
 ·exact h2 (op_pos (by assumption))
theorem fin_simple {α:Type} {n:Nat} {r:Sg} {a b:Res α} (h1:1≤r.length→Fin' n a) (h2:Fin' n b):Fin' n (if simpleT r≠0 then a else b):=by
 split
 ·exact h1 (simple_pos (by assumption))
 ·exact h2
theorem fin_need {r:Sg} {c:UInt8} {l:Str}:Fin' r.length (need (c::l) r):=by
 unfold need;refine fin_txt (fun h=>fin_ok ?_) (fin_fail (by decide));rw [List.length_drop];omega
theorem fin_want {r:Sg} {k:Int} (hk:k≠0):Fin' r.length (want k r):=by
 unfold want;split
 ·refine fin_ok ?_
  have:=kind_pos hk (by assumption);rw [List.length_drop];omega
 ·exact fin_fail (by decide)
theorem fin_le {α:Type} {m n:Nat} {p:Res α} (hl:n≤m) (h:Fin' n p):Fin' m p:=by
 cases p with
 | ok x r=>exact Nat.lt_of_lt_of_le h hl
 | bad e t=>exact h
theorem fin_intg {r:Sg}:Fin' r.length (intg r):=by
 unfold intg;repeat' (first|(with_reducible first|refine fin_txt (fun _=>?_) ?_|refine fin_or (fun _=>?_) ?_|refine fin_kind (fun _=>?_) ?_|refine fin_op ?_ (fun _=>?_)|refine fin_simple (fun _=>?_) ?_|apply fin_bite|apply fin_bok|apply fin_bbind|refine fin_ok ?_|exact fin_fail (by decide)|exact fin_bad (by decide)|exact fin_bfail (by decide)|exact fin_bbad (by decide)|refine fin_bind fin_need fun _ _ _=>?_|refine fin_bind (fin_want (by decide)) fun _ _ _=>?_)|split|((try simp only [List.length_drop] at *)<;>omega))
theorem finE:∀ f:Nat,(∀ (d:Nat) (lv:Nat) (r:Sg),lv≤7→20*r.length+10-lv≤f→Fin' (r.length) (exprF f d lv r))∧(∀ (d:Nat) (lv:Nat) (x:Ex) (r:Sg),lv≤6→20*r.length+15≤f→Fin' (r.length+1) (moreF f d lv x r))∧(∀ (d:Nat) (r:Sg),20*r.length+2≤f→Fin' (r.length) (unaryF f d r))∧(∀ (d:Nat) (r:Sg),20*r.length+15≤f→Fin' (r.length) (indexF f d r)):=by
 intro f;induction f with
 | zero=>
  refine ⟨?_,?_,?_,?_⟩
  ·intro d lv r g0 h
   omega
  ·intro d lv x r g0 h
   omega
  ·intro d r h
   omega
  ·intro d r h
   omega
 | succ f ih=>
  obtain ⟨i1,i2,i3,i4⟩:=ih;refine ⟨?_,?_,?_,?_⟩
  ·intro d lv r g0 h
   rw [exprF];repeat' (first|(with_reducible first|refine fin_txt (fun _=>?_) ?_|refine fin_or (fun _=>?_) ?_|refine fin_kind (fun _=>?_) ?_|refine fin_op ?_ (fun _=>?_)|refine fin_simple (fun _=>?_) ?_|apply fin_bite|apply fin_bok|apply fin_bbind|refine fin_ok ?_|exact fin_fail (by decide)|exact fin_bad (by decide)|exact fin_bfail (by decide)|exact fin_bbad (by decide)|refine fin_bind fin_need fun _ _ _=>?_|refine fin_bind (fin_want (by decide)) fun _ _ _=>?_|refine fin_bind (i1 _ _ _ ?_ ?_) fun _ _ _=>?_|refine fin_le ?_ (i1 _ _ _ ?_ ?_)|refine fin_bind (i2 _ _ _ _ ?_ ?_) fun _ _ _=>?_|refine fin_le ?_ (i2 _ _ _ _ ?_ ?_)|refine fin_bind (i3 _ _ ?_) fun _ _ _=>?_|refine fin_le ?_ (i3 _ _ ?_)|refine fin_bind (i4 _ _ ?_) fun _ _ _=>?_|refine fin_le ?_ (i4 _ _ ?_))|split|((try simp only [List.length_drop] at *)<;>omega))
  ·intro d lv x r g0 h
   rw [moreF];repeat' (first|(with_reducible first|refine fin_txt (fun _=>?_) ?_|refine fin_or (fun _=>?_) ?_|refine fin_kind (fun _=>?_) ?_|refine fin_op ?_ (fun _=>?_)|refine fin_simple (fun _=>?_) ?_|apply fin_bite|apply fin_bok|apply fin_bbind|refine fin_ok ?_|exact fin_fail (by decide)|exact fin_bad (by decide)|exact fin_bfail (by decide)|exact fin_bbad (by decide)|refine fin_bind fin_need fun _ _ _=>?_|refine fin_bind (fin_want (by decide)) fun _ _ _=>?_|refine fin_bind (i1 _ _ _ ?_ ?_) fun _ _ _=>?_|refine fin_le ?_ (i1 _ _ _ ?_ ?_)|refine fin_bind (i2 _ _ _ _ ?_ ?_) fun _ _ _=>?_|refine fin_le ?_ (i2 _ _ _ _ ?_ ?_)|refine fin_bind (i3 _ _ ?_) fun _ _ _=>?_|refine fin_le ?_ (i3 _ _ ?_)|refine fin_bind (i4 _ _ ?_) fun _ _ _=>?_|refine fin_le ?_ (i4 _ _ ?_))|split|((try simp only [List.length_drop] at *)<;>omega))
  ·intro d r h
   rw [unaryF];repeat' (first|(with_reducible first|refine fin_txt (fun _=>?_) ?_|refine fin_or (fun _=>?_) ?_|refine fin_kind (fun _=>?_) ?_|refine fin_op ?_ (fun _=>?_)|refine fin_simple (fun _=>?_) ?_|apply fin_bite|apply fin_bok|apply fin_bbind|refine fin_ok ?_|exact fin_fail (by decide)|exact fin_bad (by decide)|exact fin_bfail (by decide)|exact fin_bbad (by decide)|refine fin_bind fin_need fun _ _ _=>?_|refine fin_bind (fin_want (by decide)) fun _ _ _=>?_|refine fin_bind (i1 _ _ _ ?_ ?_) fun _ _ _=>?_|refine fin_le ?_ (i1 _ _ _ ?_ ?_)|refine fin_bind (i2 _ _ _ _ ?_ ?_) fun _ _ _=>?_|refine fin_le ?_ (i2 _ _ _ _ ?_ ?_)|refine fin_bind (i3 _ _ ?_) fun _ _ _=>?_|refine fin_le ?_ (i3 _ _ ?_)|refine fin_bind (i4 _ _ ?_) fun _ _ _=>?_|refine fin_le ?_ (i4 _ _ ?_))|split|((try simp only [List.length_drop] at *)<;>omega))
  ·intro d r h
   rw [indexF];repeat' (first|(with_reducible first|refine fin_txt (fun _=>?_) ?_|refine fin_or (fun _=>?_) ?_|refine fin_kind (fun _=>?_) ?_|refine fin_op ?_ (fun _=>?_)|refine fin_simple (fun _=>?_) ?_|apply fin_bite|apply fin_bok|apply fin_bbind|refine fin_ok ?_|exact fin_fail (by decide)|exact fin_bad (by decide)|exact fin_bfail (by decide)|exact fin_bbad (by decide)|refine fin_bind fin_need fun _ _ _=>?_|refine fin_bind (fin_want (by decide)) fun _ _ _=>?_|refine fin_bind (i1 _ _ _ ?_ ?_) fun _ _ _=>?_|refine fin_le ?_ (i1 _ _ _ ?_ ?_)|refine fin_bind (i2 _ _ _ _ ?_ ?_) fun _ _ _=>?_|refine fin_le ?_ (i2 _ _ _ _ ?_ ?_)|refine fin_bind (i3 _ _ ?_) fun _ _ _=>?_|refine fin_le ?_ (i3 _ _ ?_)|refine fin_bind (i4 _ _ ?_) fun _ _ _=>?_|refine fin_le ?_ (i4 _ _ ?_))|split|((try simp only [List.length_drop] at *)<;>omega))
theorem fin_expr {f d:Nat} {r:Sg} (h:20*r.length+9≤f):Fin' r.length (expr f d r):=(finE f).1 d 1 r (by omega) (by omega)
theorem fin_index {f d:Nat} {r:Sg} (h:20*r.length+15≤f):Fin' r.length (indexF f d r):=(finE f).2.2.2 d r h
theorem fin_labels (f:Nat):∀ (r:Sg) (la:List Int),20*r.length+1≤f→Fin' (r.length) (labelsF f r la):=by
 induction f with
 | zero=>
  intro r la h;omega
 | succ f ih=>
  intro r la h;rw [labelsF];repeat' (first|(with_reducible first|refine fin_txt (fun _=>?_) ?_|refine fin_or (fun _=>?_) ?_|refine fin_kind (fun _=>?_) ?_|refine fin_op ?_ (fun _=>?_)|refine fin_simple (fun _=>?_) ?_|apply fin_bite|apply fin_bok|apply fin_bbind|refine fin_ok ?_|exact fin_fail (by decide)|exact fin_bad (by decide)|exact fin_bfail (by decide)|exact fin_bbad (by decide)|refine fin_bind fin_need fun _ _ _=>?_|refine fin_bind (fin_want (by decide)) fun _ _ _=>?_|refine fin_bind (ih _ _ ?_) fun _ _ _=>?_|refine fin_le ?_ (ih _ _ ?_)|refine fin_bind (fin_intg) fun _ _ _=>?_|refine fin_le ?_ (fin_intg))|split|((try simp only [List.length_drop] at *)<;>omega))
theorem fin_args (f:Nat):∀ (d:Nat) (r:Sg) (fs:List Str) (cs:List Ex),20*r.length+10≤f→Fin' (r.length) (argsF f d r fs cs):=by
 induction f with
 | zero=>
  intro d r fs cs h;omega
 | succ f ih=>
  intro d r fs cs h;rw [argsF];repeat' (first|(with_reducible first|refine fin_txt (fun _=>?_) ?_|refine fin_or (fun _=>?_) ?_|refine fin_kind (fun _=>?_) ?_|refine fin_op ?_ (fun _=>?_)|refine fin_simple (fun _=>?_) ?_|apply fin_bite|apply fin_bok|apply fin_bbind|refine fin_ok ?_|exact fin_fail (by decide)|exact fin_bad (by decide)|exact fin_bfail (by decide)|exact fin_bbad (by decide)|refine fin_bind fin_need fun _ _ _=>?_|refine fin_bind (fin_want (by decide)) fun _ _ _=>?_|refine fin_bind (ih _ _ _ _ ?_) fun _ _ _=>?_|refine fin_le ?_ (ih _ _ _ _ ?_)|refine fin_bind (fin_expr ?_) fun _ _ _=>?_|refine fin_le ?_ (fin_expr ?_))|split|((try simp only [List.length_drop] at *)<;>omega))
theorem finS:∀ f:Nat,(∀ (d:Nat) (ends:List Str) (r:Sg) (ac:List St),20*r.length+12≤f→Fin' (r.length+1) (stmtsF f d ends r ac))∧(∀ (d:Nat) (r:Sg),20*r.length+11≤f→Fin' (r.length) (stmtF f d r))∧(∀ (d:Nat) (r:Sg),20*r.length+10≤f→Fin' (r.length) (whatF f d r))∧(∀ (d:Nat) (r:Sg) (cs:List Ex) (bs:List (List St)),20*r.length+10≤f→Fin' (r.length) (ifF f d r cs bs))∧(∀ (d:Nat) (x:Ex) (r:Sg) (ls:List (List Int)) (bs:List (List St)),20*r.length+10≤f→Fin' (r.length) (caseF f d x r ls bs))∧(∀ (d:Nat) (r:Sg) (ac:List St),20*r.length+12≤f→Fin' (r.length+1) (blockF f d r ac)):=by
 intro f;induction f with
 | zero=>
  refine ⟨?_,?_,?_,?_,?_,?_⟩
  ·intro d ends r ac h
   omega
  ·intro d r h
   omega
  ·intro d r h
   omega
  ·intro d r cs bs h
   omega
  ·intro d x r ls bs h
   omega
  ·intro d r ac h
   omega
 | succ f ih=>
  obtain ⟨i1,i2,i3,i4,i5,i6⟩:=ih;refine ⟨?_,?_,?_,?_,?_,?_⟩
  ·intro d ends r ac h
   rw [stmtsF];repeat' (first|(with_reducible first|refine fin_txt (fun _=>?_) ?_|refine fin_or (fun _=>?_) ?_|refine fin_kind (fun _=>?_) ?_|refine fin_op ?_ (fun _=>?_)|refine fin_simple (fun _=>?_) ?_|apply fin_bite|apply fin_bok|apply fin_bbind|refine fin_ok ?_|exact fin_fail (by decide)|exact fin_bad (by decide)|exact fin_bfail (by decide)|exact fin_bbad (by decide)|refine fin_bind fin_need fun _ _ _=>?_|refine fin_bind (fin_want (by decide)) fun _ _ _=>?_|refine fin_bind (i1 _ _ _ _ ?_) fun _ _ _=>?_|refine fin_le ?_ (i1 _ _ _ _ ?_)|refine fin_bind (i2 _ _ ?_) fun _ _ _=>?_|refine fin_le ?_ (i2 _ _ ?_)|refine fin_bind (i3 _ _ ?_) fun _ _ _=>?_|refine fin_le ?_ (i3 _ _ ?_)|refine fin_bind (i4 _ _ _ _ ?_) fun _ _ _=>?_|refine fin_le ?_ (i4 _ _ _ _ ?_)|refine fin_bind (i5 _ _ _ _ _ ?_) fun _ _ _=>?_|refine fin_le ?_ (i5 _ _ _ _ _ ?_)|refine fin_bind (i6 _ _ _ ?_) fun _ _ _=>?_|refine fin_le ?_ (i6 _ _ _ ?_)|refine fin_bind (fin_expr ?_) fun _ _ _=>?_|refine fin_le ?_ (fin_expr ?_)|refine fin_bind (fin_index ?_) fun _ _ _=>?_|refine fin_le ?_ (fin_index ?_)|refine fin_bind (fin_labels _ _ _ ?_) fun _ _ _=>?_|refine fin_le ?_ (fin_labels _ _ _ ?_)|refine fin_bind (fin_args _ _ _ _ _ ?_) fun _ _ _=>?_|refine fin_le ?_ (fin_args _ _ _ _ _ ?_))|split|((try simp only [List.length_drop] at *)<;>omega))
  ·intro d r h
   rw [stmtF];repeat' (first|(with_reducible first|refine fin_txt (fun _=>?_) ?_|refine fin_or (fun _=>?_) ?_|refine fin_kind (fun _=>?_) ?_|refine fin_op ?_ (fun _=>?_)|refine fin_simple (fun _=>?_) ?_|apply fin_bite|apply fin_bok|apply fin_bbind|refine fin_ok ?_|exact fin_fail (by decide)|exact fin_bad (by decide)|exact fin_bfail (by decide)|exact fin_bbad (by decide)|refine fin_bind fin_need fun _ _ _=>?_|refine fin_bind (fin_want (by decide)) fun _ _ _=>?_|refine fin_bind (i1 _ _ _ _ ?_) fun _ _ _=>?_|refine fin_le ?_ (i1 _ _ _ _ ?_)|refine fin_bind (i2 _ _ ?_) fun _ _ _=>?_|refine fin_le ?_ (i2 _ _ ?_)|refine fin_bind (i3 _ _ ?_) fun _ _ _=>?_|refine fin_le ?_ (i3 _ _ ?_)|refine fin_bind (i4 _ _ _ _ ?_) fun _ _ _=>?_|refine fin_le ?_ (i4 _ _ _ _ ?_)|refine fin_bind (i5 _ _ _ _ _ ?_) fun _ _ _=>?_|refine fin_le ?_ (i5 _ _ _ _ _ ?_)|refine fin_bind (i6 _ _ _ ?_) fun _ _ _=>?_|refine fin_le ?_ (i6 _ _ _ ?_)|refine fin_bind (fin_expr ?_) fun _ _ _=>?_|refine fin_le ?_ (fin_expr ?_)|refine fin_bind (fin_index ?_) fun _ _ _=>?_|refine fin_le ?_ (fin_index ?_)|refine fin_bind (fin_labels _ _ _ ?_) fun _ _ _=>?_|refine fin_le ?_ (fin_labels _ _ _ ?_)|refine fin_bind (fin_args _ _ _ _ _ ?_) fun _ _ _=>?_|refine fin_le ?_ (fin_args _ _ _ _ _ ?_))|split|((try simp only [List.length_drop] at *)<;>omega))
  ·intro d r h
   rw [whatF];repeat' (first|(with_reducible first|refine fin_txt (fun _=>?_) ?_|refine fin_or (fun _=>?_) ?_|refine fin_kind (fun _=>?_) ?_|refine fin_op ?_ (fun _=>?_)|refine fin_simple (fun _=>?_) ?_|apply fin_bite|apply fin_bok|apply fin_bbind|refine fin_ok ?_|exact fin_fail (by decide)|exact fin_bad (by decide)|exact fin_bfail (by decide)|exact fin_bbad (by decide)|refine fin_bind fin_need fun _ _ _=>?_|refine fin_bind (fin_want (by decide)) fun _ _ _=>?_|refine fin_bind (i1 _ _ _ _ ?_) fun _ _ _=>?_|refine fin_le ?_ (i1 _ _ _ _ ?_)|refine fin_bind (i2 _ _ ?_) fun _ _ _=>?_|refine fin_le ?_ (i2 _ _ ?_)|refine fin_bind (i3 _ _ ?_) fun _ _ _=>?_|refine fin_le ?_ (i3 _ _ ?_)|refine fin_bind (i4 _ _ _ _ ?_) fun _ _ _=>?_|refine fin_le ?_ (i4 _ _ _ _ ?_)|refine fin_bind (i5 _ _ _ _ _ ?_) fun _ _ _=>?_|refine fin_le ?_ (i5 _ _ _ _ _ ?_)|refine fin_bind (i6 _ _ _ ?_) fun _ _ _=>?_|refine fin_le ?_ (i6 _ _ _ ?_)|refine fin_bind (fin_expr ?_) fun _ _ _=>?_|refine fin_le ?_ (fin_expr ?_)|refine fin_bind (fin_index ?_) fun _ _ _=>?_|refine fin_le ?_ (fin_index ?_)|refine fin_bind (fin_labels _ _ _ ?_) fun _ _ _=>?_|refine fin_le ?_ (fin_labels _ _ _ ?_)|refine fin_bind (fin_args _ _ _ _ _ ?_) fun _ _ _=>?_|refine fin_le ?_ (fin_args _ _ _ _ _ ?_))|split|((try simp only [List.length_drop] at *)<;>omega))
  ·intro d r cs bs h
   rw [ifF];repeat' (first|(with_reducible first|refine fin_txt (fun _=>?_) ?_|refine fin_or (fun _=>?_) ?_|refine fin_kind (fun _=>?_) ?_|refine fin_op ?_ (fun _=>?_)|refine fin_simple (fun _=>?_) ?_|apply fin_bite|apply fin_bok|apply fin_bbind|refine fin_ok ?_|exact fin_fail (by decide)|exact fin_bad (by decide)|exact fin_bfail (by decide)|exact fin_bbad (by decide)|refine fin_bind fin_need fun _ _ _=>?_|refine fin_bind (fin_want (by decide)) fun _ _ _=>?_|refine fin_bind (i1 _ _ _ _ ?_) fun _ _ _=>?_|refine fin_le ?_ (i1 _ _ _ _ ?_)|refine fin_bind (i2 _ _ ?_) fun _ _ _=>?_|refine fin_le ?_ (i2 _ _ ?_)|refine fin_bind (i3 _ _ ?_) fun _ _ _=>?_|refine fin_le ?_ (i3 _ _ ?_)|refine fin_bind (i4 _ _ _ _ ?_) fun _ _ _=>?_|refine fin_le ?_ (i4 _ _ _ _ ?_)|refine fin_bind (i5 _ _ _ _ _ ?_) fun _ _ _=>?_|refine fin_le ?_ (i5 _ _ _ _ _ ?_)|refine fin_bind (i6 _ _ _ ?_) fun _ _ _=>?_|refine fin_le ?_ (i6 _ _ _ ?_)|refine fin_bind (fin_expr ?_) fun _ _ _=>?_|refine fin_le ?_ (fin_expr ?_)|refine fin_bind (fin_index ?_) fun _ _ _=>?_|refine fin_le ?_ (fin_index ?_)|refine fin_bind (fin_labels _ _ _ ?_) fun _ _ _=>?_|refine fin_le ?_ (fin_labels _ _ _ ?_)|refine fin_bind (fin_args _ _ _ _ _ ?_) fun _ _ _=>?_|refine fin_le ?_ (fin_args _ _ _ _ _ ?_))|split|((try simp only [List.length_drop] at *)<;>omega))
  ·intro d x r ls bs h
   rw [caseF];repeat' (first|(with_reducible first|refine fin_txt (fun _=>?_) ?_|refine fin_or (fun _=>?_) ?_|refine fin_kind (fun _=>?_) ?_|refine fin_op ?_ (fun _=>?_)|refine fin_simple (fun _=>?_) ?_|apply fin_bite|apply fin_bok|apply fin_bbind|refine fin_ok ?_|exact fin_fail (by decide)|exact fin_bad (by decide)|exact fin_bfail (by decide)|exact fin_bbad (by decide)|refine fin_bind fin_need fun _ _ _=>?_|refine fin_bind (fin_want (by decide)) fun _ _ _=>?_|refine fin_bind (i1 _ _ _ _ ?_) fun _ _ _=>?_|refine fin_le ?_ (i1 _ _ _ _ ?_)|refine fin_bind (i2 _ _ ?_) fun _ _ _=>?_|refine fin_le ?_ (i2 _ _ ?_)|refine fin_bind (i3 _ _ ?_) fun _ _ _=>?_|refine fin_le ?_ (i3 _ _ ?_)|refine fin_bind (i4 _ _ _ _ ?_) fun _ _ _=>?_|refine fin_le ?_ (i4 _ _ _ _ ?_)|refine fin_bind (i5 _ _ _ _ _ ?_) fun _ _ _=>?_|refine fin_le ?_ (i5 _ _ _ _ _ ?_)|refine fin_bind (i6 _ _ _ ?_) fun _ _ _=>?_|refine fin_le ?_ (i6 _ _ _ ?_)|refine fin_bind (fin_expr ?_) fun _ _ _=>?_|refine fin_le ?_ (fin_expr ?_)|refine fin_bind (fin_index ?_) fun _ _ _=>?_|refine fin_le ?_ (fin_index ?_)|refine fin_bind (fin_labels _ _ _ ?_) fun _ _ _=>?_|refine fin_le ?_ (fin_labels _ _ _ ?_)|refine fin_bind (fin_args _ _ _ _ _ ?_) fun _ _ _=>?_|refine fin_le ?_ (fin_args _ _ _ _ _ ?_))|split|((try simp only [List.length_drop] at *)<;>omega))
  ·intro d r ac h
   rw [blockF];repeat' (first|(with_reducible first|refine fin_txt (fun _=>?_) ?_|refine fin_or (fun _=>?_) ?_|refine fin_kind (fun _=>?_) ?_|refine fin_op ?_ (fun _=>?_)|refine fin_simple (fun _=>?_) ?_|apply fin_bite|apply fin_bok|apply fin_bbind|refine fin_ok ?_|exact fin_fail (by decide)|exact fin_bad (by decide)|exact fin_bfail (by decide)|exact fin_bbad (by decide)|refine fin_bind fin_need fun _ _ _=>?_|refine fin_bind (fin_want (by decide)) fun _ _ _=>?_|refine fin_bind (i1 _ _ _ _ ?_) fun _ _ _=>?_|refine fin_le ?_ (i1 _ _ _ _ ?_)|refine fin_bind (i2 _ _ ?_) fun _ _ _=>?_|refine fin_le ?_ (i2 _ _ ?_)|refine fin_bind (i3 _ _ ?_) fun _ _ _=>?_|refine fin_le ?_ (i3 _ _ ?_)|refine fin_bind (i4 _ _ _ _ ?_) fun _ _ _=>?_|refine fin_le ?_ (i4 _ _ _ _ ?_)|refine fin_bind (i5 _ _ _ _ _ ?_) fun _ _ _=>?_|refine fin_le ?_ (i5 _ _ _ _ _ ?_)|refine fin_bind (i6 _ _ _ ?_) fun _ _ _=>?_|refine fin_le ?_ (i6 _ _ _ ?_)|refine fin_bind (fin_expr ?_) fun _ _ _=>?_|refine fin_le ?_ (fin_expr ?_)|refine fin_bind (fin_index ?_) fun _ _ _=>?_|refine fin_le ?_ (fin_index ?_)|refine fin_bind (fin_labels _ _ _ ?_) fun _ _ _=>?_|refine fin_le ?_ (fin_labels _ _ _ ?_)|refine fin_bind (fin_args _ _ _ _ _ ?_) fun _ _ _=>?_|refine fin_le ?_ (fin_args _ _ _ _ _ ?_))|split|((try simp only [List.length_drop] at *)<;>omega))
theorem fin_names (f:Nat):∀ (m:Nat) (r:Sg) (ns:List Tk),20*r.length+1≤f→Fin' (r.length) (namesF f m r ns):=by
 induction f with
 | zero=>
  intro m r ns h;omega
 | succ f ih=>
  intro m r ns h;rw [namesF];repeat' (first|(with_reducible first|refine fin_txt (fun _=>?_) ?_|refine fin_or (fun _=>?_) ?_|refine fin_kind (fun _=>?_) ?_|refine fin_op ?_ (fun _=>?_)|refine fin_simple (fun _=>?_) ?_|apply fin_bite|apply fin_bok|apply fin_bbind|refine fin_ok ?_|exact fin_fail (by decide)|exact fin_bad (by decide)|exact fin_bfail (by decide)|exact fin_bbad (by decide)|refine fin_bind fin_need fun _ _ _=>?_|refine fin_bind (fin_want (by decide)) fun _ _ _=>?_|refine fin_bind (ih _ _ _ ?_) fun _ _ _=>?_|refine fin_le ?_ (ih _ _ _ ?_))|split|((try simp only [List.length_drop] at *)<;>omega))
theorem fin_type {r:Sg}:Fin' r.length (typeP r):=by
 unfold typeP;repeat' (first|(with_reducible first|refine fin_txt (fun _=>?_) ?_|refine fin_or (fun _=>?_) ?_|refine fin_kind (fun _=>?_) ?_|refine fin_op ?_ (fun _=>?_)|refine fin_simple (fun _=>?_) ?_|apply fin_bite|apply fin_bok|apply fin_bbind|refine fin_ok ?_|exact fin_fail (by decide)|exact fin_bad (by decide)|exact fin_bfail (by decide)|exact fin_bbad (by decide)|refine fin_bind fin_need fun _ _ _=>?_|refine fin_bind (fin_want (by decide)) fun _ _ _=>?_)|split|((try simp only [List.length_drop] at *)<;>omega))
theorem fin_value {r:Sg}:Fin' r.length (valueP r):=by
 unfold valueP;repeat' (first|(with_reducible first|refine fin_txt (fun _=>?_) ?_|refine fin_or (fun _=>?_) ?_|refine fin_kind (fun _=>?_) ?_|refine fin_op ?_ (fun _=>?_)|refine fin_simple (fun _=>?_) ?_|apply fin_bite|apply fin_bok|apply fin_bbind|refine fin_ok ?_|exact fin_fail (by decide)|exact fin_bad (by decide)|exact fin_bfail (by decide)|exact fin_bbad (by decide)|refine fin_bind fin_need fun _ _ _=>?_|refine fin_bind (fin_want (by decide)) fun _ _ _=>?_|refine fin_bind (fin_intg) fun _ _ _=>?_|refine fin_le ?_ (fin_intg))|split|((try simp only [List.length_drop] at *)<;>omega))
theorem fin_line {f:Nat} {sec:Int} {r:Sg} {vs:List Va} (h:20*r.length+1≤f):Fin' r.length (lineP f sec r vs):=by
 unfold lineP;repeat' (first|(with_reducible first|refine fin_txt (fun _=>?_) ?_|refine fin_or (fun _=>?_) ?_|refine fin_kind (fun _=>?_) ?_|refine fin_op ?_ (fun _=>?_)|refine fin_simple (fun _=>?_) ?_|apply fin_bite|apply fin_bok|apply fin_bbind|refine fin_ok ?_|exact fin_fail (by decide)|exact fin_bad (by decide)|exact fin_bfail (by decide)|exact fin_bbad (by decide)|refine fin_bind fin_need fun _ _ _=>?_|refine fin_bind (fin_want (by decide)) fun _ _ _=>?_|refine fin_bind (fin_names _ _ _ _ ?_) fun _ _ _=>?_|refine fin_le ?_ (fin_names _ _ _ _ ?_)|refine fin_bind (fin_type) fun _ _ _=>?_|refine fin_le ?_ (fin_type)|refine fin_bind (fin_value) fun _ _ _=>?_|refine fin_le ?_ (fin_value))|split|((try simp only [List.length_drop] at *)<;>omega))
theorem fin_lines (f:Nat):∀ (sec:Int) (r:Sg) (vs:List Va),20*r.length+2≤f→Fin' (r.length) (linesF f sec r vs):=by
 induction f with
 | zero=>
  intro sec r vs h;omega
 | succ f ih=>
  intro sec r vs h;rw [linesF];repeat' (first|(with_reducible first|refine fin_txt (fun _=>?_) ?_|refine fin_or (fun _=>?_) ?_|refine fin_kind (fun _=>?_) ?_|refine fin_op ?_ (fun _=>?_)|refine fin_simple (fun _=>?_) ?_|apply fin_bite|apply fin_bok|apply fin_bbind|refine fin_ok ?_|exact fin_fail (by decide)|exact fin_bad (by decide)|exact fin_bfail (by decide)|exact fin_bbad (by decide)|refine fin_bind fin_need fun _ _ _=>?_|refine fin_bind (fin_want (by decide)) fun _ _ _=>?_|refine fin_bind (ih _ _ _ ?_) fun _ _ _=>?_|refine fin_le ?_ (ih _ _ _ ?_)|refine fin_bind (fin_line ?_) fun _ _ _=>?_|refine fin_le ?_ (fin_line ?_))|split|((try simp only [List.length_drop] at *)<;>omega))
theorem fin_sects (f:Nat):∀ (r:Sg) (vs:List Va),20*r.length+1≤f→Fin' (r.length+1) (sectsF f r vs):=by
 induction f with
 | zero=>
  intro r vs h;omega
 | succ f ih=>
  intro r vs h;rw [sectsF];repeat' (first|(with_reducible first|refine fin_txt (fun _=>?_) ?_|refine fin_or (fun _=>?_) ?_|refine fin_kind (fun _=>?_) ?_|refine fin_op ?_ (fun _=>?_)|refine fin_simple (fun _=>?_) ?_|apply fin_bite|apply fin_bok|apply fin_bbind|refine fin_ok ?_|exact fin_fail (by decide)|exact fin_bad (by decide)|exact fin_bfail (by decide)|exact fin_bbad (by decide)|refine fin_bind fin_need fun _ _ _=>?_|refine fin_bind (fin_want (by decide)) fun _ _ _=>?_|refine fin_bind (ih _ _ ?_) fun _ _ _=>?_|refine fin_le ?_ (ih _ _ ?_)|refine fin_bind (fin_lines _ _ _ _ ?_) fun _ _ _=>?_|refine fin_le ?_ (fin_lines _ _ _ _ ?_))|split|((try simp only [List.length_drop] at *)<;>omega))
theorem fin_stmts {f d:Nat} {ends:List Str} {r:Sg} {ac:List St} (h:20*r.length+12≤f):Fin' (r.length+1) (stmtsF f d ends r ac):=(finS f).1 d ends r ac h
theorem fin_prog {f:Nat} {r:Sg} (h:20*r.length+20≤f):Fin' (r.length+1) (progP f r):=by
 unfold progP;repeat' (first|(with_reducible first|refine fin_txt (fun _=>?_) ?_|refine fin_or (fun _=>?_) ?_|refine fin_kind (fun _=>?_) ?_|refine fin_op ?_ (fun _=>?_)|refine fin_simple (fun _=>?_) ?_|apply fin_bite|apply fin_bok|apply fin_bbind|refine fin_ok ?_|exact fin_fail (by decide)|exact fin_bad (by decide)|exact fin_bfail (by decide)|exact fin_bbad (by decide)|refine fin_bind fin_need fun _ _ _=>?_|refine fin_bind (fin_want (by decide)) fun _ _ _=>?_|refine fin_bind (fin_sects _ _ _ ?_) fun _ _ _=>?_|refine fin_le ?_ (fin_sects _ _ _ ?_)|refine fin_bind (fin_stmts ?_) fun _ _ _=>?_|refine fin_le ?_ (fin_stmts ?_))|split|((try simp only [List.length_drop] at *)<;>omega))
def RB {α:Type} (enc:α→List Value) (z:Nat) (w:World) (S:Nat→Prop) (s:Sl) (L:List α):Prop:=
  L.length=s.l∧s.l≤s.c∧s.c≤maxLen∧(s.A=none→s.c=0)∧(0<s.l→∃ b off,s.A=some ⟨b,off,none⟩∧S b∧∀ i x,L[i]?=some x→w.rangeAt b (off+i*z) (enc x))
mutual
def ExB (w:World) (S:Nat→Prop):Ex→EH→Prop
  | .mk op n nm fd sub ln,h=>h.op=op∧h.n=n∧h.name=nm∧h.field=fd∧h.line=ln∧∃ H,RB eC 6 w S h.sub H∧ExsB w S sub H
def ExsB (w:World) (S:Nat→Prop):List Ex→List EH→Prop
  | [],H=>H=[]
  | x::L,H=>∃ h H',H=h::H'∧ExB w S x h∧ExsB w S L H'
end
def ExLB (w:World) (S:Nat→Prop) (s:Sl) (L:List Ex):Prop:=∃ H,RB eC 6 w S s H∧ExsB w S L H
def LabsB (w:World) (S:Nat→Prop):List (List Int)→List Sl→Prop
  | [],H=>H=[]
  | x::L,H=>∃ h H',H=h::H'∧RB iC 1 w S h x∧LabsB w S L H'
mutual
def StB (w:World) (S:Nat→Prop):St→SH→Prop
  | .mk op nm dst val conds labels fields blocks ln,h=>h.op=op∧h.name=nm∧h.line=ln∧ExB w S dst h.dst∧ExB w S val h.val∧ExLB w S h.conds conds ∧
    (∃ H,RB slC 1 w S h.labels H∧LabsB w S labels H)∧RB tC1 1 w S h.fields fields∧∃ H,RB slC 1 w S h.blocks H∧BlksB w S blocks H
def StsB (w:World) (S:Nat→Prop):List St→List SH→Prop
  | [],H=>H=[]
  | x::L,H=>∃ h H',H=h::H'∧StB w S x h∧StsB w S L H'
def BlksB (w:World) (S:Nat→Prop):List (List St)→List Sl→Prop
  | [],H=>H=[]
  | x::L,H=>∃ h H',H=h::H'∧(∃ K,RB sC 19 w S h K∧StsB w S x K)∧BlksB w S L H'
end
def StLB (w:World) (S:Nat→Prop) (s:Sl) (L:List St):Prop:=∃ K,RB sC 19 w S s K∧StsB w S L K
def PgB (w:World) (S:Nat→Prop) (p:Pg) (h:GH):Prop:=h.name=p.name∧RB vC 8 w S h.vars p.vars∧StLB w S h.body p.body
def Kept (w w':World) (S S':Nat→Prop):Prop:=∀ b,S b→S' b∧w'.heap[b]?=w.heap[b]?
theorem Kept.refl (w:World) (S:Nat→Prop):Kept w w S S:=fun _ h=>⟨h,rfl⟩
theorem Kept.more {w:World} {S S':Nat→Prop} (h:∀ b,S b→S' b):Kept w w S S':=fun b hb=>⟨h b hb,rfl⟩
theorem Kept.trans {a b c:World} {S T U:Nat→Prop} (h:Kept a b S T) (h2:Kept b c T U):Kept a c S U:=fun q hq=>⟨(h2 q (h q hq).1).1,(h2 q (h q hq).1).2.trans (h q hq).2⟩
theorem Kept.grown {w w':World} {row:Option Nat} {S S':Nat→Prop} (h:w.grownBy w' row) (hS:∀ b,S b→b<w.heap.size∧some b≠row∧S' b):Kept w w' S S':=
  fun b hb=>⟨(hS b hb).2.2,h.block b (hS b hb).1 (hS b hb).2.1⟩
theorem Kept.below {w w':World} {B:Nat} {S S':Nat→Prop} (h:Below B w w') (hS:∀ b,S b→b<B∧S' b):Kept w w' S S':=
  fun b hb=>⟨(hS b hb).2,h.block b (hS b hb).1⟩
section
variable {w w':World} {S S':Nat→Prop}
theorem RB.kept {α:Type} {enc:α→List Value} {z:Nat} {s:Sl} {L:List α} (hk:Kept w w' S S') (h:RB enc z w S s L):RB enc z w' S' s L:=
  ⟨h.1,h.2.1,h.2.2.1,h.2.2.2.1,fun hn=>by
    obtain ⟨b,off,e,hB,hc⟩:=h.2.2.2.2 hn;exact ⟨b,off,e,(hk b hB).1,fun i x hx j v hv=>(World.cell?_of_block (a:=⟨b,off+i*z+j,none⟩) (hk b hB).2).trans (hc i x hx j v hv)⟩⟩
mutual
theorem ExB.kept (hk:Kept w w' S S'):∀ {x:Ex} {h:EH},ExB w S x h→ExB w' S' x h
  | .mk op n nm fd sub ln,h,⟨h1,h2,h3,h4,h5,H,h6,h7⟩=>⟨h1,h2,h3,h4,h5,H,h6.kept hk,ExsB.kept hk h7⟩
theorem ExsB.kept (hk:Kept w w' S S'):∀ {L:List Ex} {H:List EH},ExsB w S L H→ExsB w' S' L H
  | [],_,h=>h
  | x::L,_,⟨h,H',e,h1,h2⟩=>⟨h,H',e,ExB.kept hk h1,ExsB.kept hk h2⟩
end
theorem ExLB.kept {s:Sl} {L:List Ex} (hk:Kept w w' S S') (h:ExLB w S s L):ExLB w' S' s L:=by
  obtain ⟨H,h1,h2⟩:=h;exact ⟨H,h1.kept hk,ExsB.kept hk h2⟩
theorem LabsB.kept (hk:Kept w w' S S'):∀ {L:List (List Int)} {H:List Sl},LabsB w S L H→LabsB w' S' L H
  | [],_,h=>h
  | x::L,_,⟨h,H',e,h1,h2⟩=>⟨h,H',e,h1.kept hk,LabsB.kept hk h2⟩
mutual
theorem StB.kept (hk:Kept w w' S S'):∀ {x:St} {h:SH},StB w S x h→StB w' S' x h
  | .mk op nm dst val conds labels fields blocks ln,h,⟨h1,h2,h3,h4,h5,h6,⟨H,h7,h8⟩,h9,K,h10,h11⟩=>
    ⟨h1,h2,h3,ExB.kept hk h4,ExB.kept hk h5,h6.kept hk,⟨H,h7.kept hk,LabsB.kept hk h8⟩,h9.kept hk,K,h10.kept hk,BlksB.kept hk h11⟩
theorem StsB.kept (hk:Kept w w' S S'):∀ {L:List St} {H:List SH},StsB w S L H→StsB w' S' L H
  | [],_,h=>h
  | x::L,_,⟨h,H',e,h1,h2⟩=>⟨h,H',e,StB.kept hk h1,StsB.kept hk h2⟩
theorem BlksB.kept (hk:Kept w w' S S'):∀ {L:List (List St)} {H:List Sl},BlksB w S L H→BlksB w' S' L H
  | [],_,h=>h
  | x::L,_,⟨h,H',e,⟨K,h1,h2⟩,h3⟩=>⟨h,H',e,⟨K,h1.kept hk,StsB.kept hk h2⟩,BlksB.kept hk h3⟩
end
theorem StLB.kept {s:Sl} {L:List St} (hk:Kept w w' S S') (h:StLB w S s L):StLB w' S' s L:=by
  obtain ⟨H,h1,h2⟩:=h;exact ⟨H,h1.kept hk,StsB.kept hk h2⟩
theorem PgB.kept {p:Pg} {h:GH} (hk:Kept w w' S S') (hp:PgB w S p h):PgB w' S' p h:=⟨hp.1,hp.2.1.kept hk,hp.2.2.kept hk⟩
end
section
variable {w:World} {S:Nat→Prop} {B:Nat}
theorem RB.toAt {α:Type} {enc:α→List Value} {z:Nat} {s:Sl} {L:List α} (hS:∀ b,S b→b<B) (h:RB enc z w S s L):RS enc z w B s L:=
  ⟨h.1,h.2.1,h.2.2.1,h.2.2.2.1,fun hn=>by
    obtain ⟨b,off,e,hB,hc⟩:=h.2.2.2.2 hn;exact ⟨b,off,e,hS b hB,hc⟩⟩
mutual
theorem ExB.toAt (hS:∀ b,S b→b<B):∀ {x:Ex} {h:EH},ExB w S x h→ExAt w B x h
  | .mk op n nm fd sub ln,h,⟨h1,h2,h3,h4,h5,H,h6,h7⟩=>⟨h1,h2,h3,h4,h5,H,h6.toAt hS,ExsB.toAt hS h7⟩
theorem ExsB.toAt (hS:∀ b,S b→b<B):∀ {L:List Ex} {H:List EH},ExsB w S L H→ExsAt w B L H
  | [],_,h=>h
  | x::L,_,⟨h,H',e,h1,h2⟩=>⟨h,H',e,ExB.toAt hS h1,ExsB.toAt hS h2⟩
end
theorem ExLB.toAt {s:Sl} {L:List Ex} (hS:∀ b,S b→b<B) (h:ExLB w S s L):ExL w B s L:=by
  obtain ⟨H,h1,h2⟩:=h;exact ⟨H,h1.toAt hS,ExsB.toAt hS h2⟩
theorem LabsB.toAt (hS:∀ b,S b→b<B):∀ {L:List (List Int)} {H:List Sl},LabsB w S L H→LabsAt w B L H
  | [],_,h=>h
  | x::L,_,⟨h,H',e,h1,h2⟩=>⟨h,H',e,h1.toAt hS,LabsB.toAt hS h2⟩
mutual
theorem StB.toAt (hS:∀ b,S b→b<B):∀ {x:St} {h:SH},StB w S x h→StAt w B x h
  | .mk op nm dst val conds labels fields blocks ln,h,⟨h1,h2,h3,h4,h5,h6,⟨H,h7,h8⟩,h9,K,h10,h11⟩=>
    ⟨h1,h2,h3,ExB.toAt hS h4,ExB.toAt hS h5,h6.toAt hS,⟨H,h7.toAt hS,LabsB.toAt hS h8⟩,h9.toAt hS,K,h10.toAt hS,BlksB.toAt hS h11⟩
theorem StsB.toAt (hS:∀ b,S b→b<B):∀ {L:List St} {H:List SH},StsB w S L H→StsAt w B L H
  | [],_,h=>h
  | x::L,_,⟨h,H',e,h1,h2⟩=>⟨h,H',e,StB.toAt hS h1,StsB.toAt hS h2⟩
theorem BlksB.toAt (hS:∀ b,S b→b<B):∀ {L:List (List St)} {H:List Sl},BlksB w S L H→BlksAt w B L H
  | [],_,h=>h
  | x::L,_,⟨h,H',e,⟨K,h1,h2⟩,h3⟩=>⟨h,H',e,⟨K,h1.toAt hS,StsB.toAt hS h2⟩,BlksB.toAt hS h3⟩
end
theorem StLB.toAt {s:Sl} {L:List St} (hS:∀ b,S b→b<B) (h:StLB w S s L):StL w B s L:=by
  obtain ⟨H,h1,h2⟩:=h;exact ⟨H,h1.toAt hS,StsB.toAt hS h2⟩
theorem PgB.toAt {p:Pg} {h:GH} (hS:∀ b,S b→b<B) (hp:PgB w S p h):PgAt w B p h:=⟨hp.1,hp.2.1.toAt hS,hp.2.2.toAt hS⟩
end
section
variable {w:World} {S:Nat→Prop}
theorem ExsB.snoc {x:Ex} {h:EH} (hx:ExB w S x h):∀ {L:List Ex} {H:List EH},ExsB w S L H→ExsB w S (L++[x]) (H++[h])
  | [],_,e=>by cases e;exact ⟨h,[],rfl,hx,rfl⟩
  | y::L,_,⟨g,H',e,h1,h2⟩=>⟨g,H'++[h],by rw [e,List.cons_append],h1,ExsB.snoc hx h2⟩
theorem LabsB.snoc {x:List Int} {h:Sl} (hx:RB iC 1 w S h x):∀ {L:List (List Int)} {H:List Sl},LabsB w S L H→LabsB w S (L++[x]) (H++[h])
  | [],_,e=>by cases e;exact ⟨h,[],rfl,hx,rfl⟩
  | y::L,_,⟨g,H',e,h1,h2⟩=>⟨g,H'++[h],by rw [e,List.cons_append],h1,LabsB.snoc hx h2⟩
theorem StsB.nil:StsB w S [] []:=by unfold StsB;rfl
theorem StsB.snoc {x:St} {h:SH} (hx:StB w S x h):∀ {L:List St} {H:List SH},StsB w S L H→StsB w S (L++[x]) (H++[h])
  | [],_,e=>by
    unfold StsB at e;subst e;exact (by unfold StsB;exact ⟨h,[],rfl,hx,StsB.nil⟩:StsB w S [x] [h])
  | y::L,_,e=>by
    unfold StsB at e;obtain ⟨g,H',e,h1,h2⟩:=e;rw [e,List.cons_append,List.cons_append];unfold StsB;exact ⟨g,H'++[h],rfl,h1,StsB.snoc hx h2⟩
theorem BlksB.nil:BlksB w S [] []:=by unfold BlksB;rfl
theorem BlksB.snoc {x:List St} {h:Sl} (hx:StLB w S h x):∀ {L:List (List St)} {H:List Sl},BlksB w S L H→BlksB w S (L++[x]) (H++[h])
  | [],_,e=>by
    unfold BlksB at e;subst e;exact (by unfold BlksB;exact ⟨h,[],rfl,hx,BlksB.nil⟩:BlksB w S [x] [h])
  | y::L,_,e=>by
    unfold BlksB at e;obtain ⟨g,H',e,h1,h2⟩:=e;rw [e,List.cons_append,List.cons_append];unfold BlksB;exact ⟨g,H'++[h],rfl,h1,BlksB.snoc hx h2⟩
theorem RB.none_ {α:Type} (enc:α→List Value) (z:Nat) (w:World) (S:Nat→Prop):RB enc z w S ⟨none,0,0⟩ []:=⟨rfl,Nat.le_refl _,Nat.zero_le _,fun _=>rfl,fun h=>absurd h (by simp)⟩
theorem ExLB.none_ (w:World) (S:Nat→Prop):ExLB w S ⟨none,0,0⟩ []:=⟨[],RB.none_ _ _ _ _,rfl⟩
theorem StLB.none_ (w:World) (S:Nat→Prop):StLB w S ⟨none,0,0⟩ []:=⟨[],RB.none_ _ _ _ _,StsB.nil⟩
theorem zeroE_B (w:World) (S:Nat→Prop):ExB w S zeroE ⟨0,0,[],[],⟨none,0,0⟩,0⟩:=⟨rfl,rfl,rfl,rfl,rfl,[],RB.none_ _ _ _ _,rfl⟩
end
theorem RB.own {α:Type} {enc:α→List Value} {z:Nat} (hz:∀ x,(enc x).length=z) {w:World} {t:TypeId} {base:Nat} {v:Value} {L:List α} {S:Nat→Prop} (h:Ow enc z t w base v L) (hS:∀ b,v.ownBlock=some b→S b):∃ s,v=s.v∧RB enc z w S s L:=by
  obtain ⟨A,cap,e,hr⟩:=h.form hz;refine ⟨⟨A,L.length,cap⟩,e,hr.1,hr.2.1,hr.2.2.1,hr.2.2.2.1,fun hn=>?_⟩;obtain ⟨b,off,eA,hb,hc⟩:=hr.2.2.2.2 hn;refine ⟨b,off,eA,hS b ?_,hc⟩;rw [e,eA];rfl
end tr
end Go.Proofs.YtdefgghhkknnpaaGreatDoor
