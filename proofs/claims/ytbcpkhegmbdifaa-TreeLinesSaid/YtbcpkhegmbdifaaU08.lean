/- On signs that are alike but for their places the document's parser gives programs that are the same but for their lines, or the same error. No condition. -/
import Derived.Test.YtbcpkhegmbdifaaU07
namespace Go.Proofs.Ytbcpkhegmbdifaa.tr
open Go.ChangeShapes Go.WideShapes Go.ChangeAt Go.RowKit Go.Proofs.Ytbcpkhegmbdifaa.k Go.Proofs.Ytbcpkhegmbdifaa.rr Go.Proofs.Ytbcpkhegmbdifaa.tk
set_option linter.unusedVariables false
set_option linter.unusedSimpArgs false

def Al (r r' : Sg) : Prop := r'.map eP = r.map eP
theorem al_drop {r r' : Sg} (n : Nat) (h : Al r r') : Al (r.drop n) (r'.drop n) := by
 unfold Al at *
 rw [List.map_drop, List.map_drop, h]
theorem al_hd {r r' : Sg} (h : Al r r') : (hd r').kind = (hd r).kind ∧ (hd r').text = (hd r).text ∧ (hd r').n = (hd r).n ∧ txt r' = txt r := by
 unfold Al at h
 cases r with
 | nil =>
  cases r' with
  | nil => exact ⟨rfl, rfl, rfl, rfl⟩
  | cons t l => simp at h
 | cons t l =>
  cases r' with
  | nil => simp at h
  | cons t' l' =>
   simp only [List.map_cons, List.cons.injEq, eP, Tk.mk.injEq] at h
   obtain ⟨⟨h1, h2, h3, _⟩, _⟩ := h
   exact ⟨h1, h2, h3, by simp only [txt, h1, h2]⟩
theorem al_txts {r r' : Sg} (h : Al r r') (n : Nat) : txt (r'.drop n) = txt (r.drop n) := (al_hd (al_drop n h)).2.2.2
def RR {α : Type} (R : α → α → Prop) (p p' : Res α) : Prop := match p, p' with
 | .ok x r, .ok y r' => R x y ∧ Al r r'
 | .bad e _, .bad e' _ => e' = e
 | _, _ => False
theorem rr_bind {α β : Type} {R : α → α → Prop} {S : β → β → Prop} {p p' : Res α} {f f' : α → Sg → Res β} (h : RR R p p') (hf : ∀ x y r r', R x y → Al r r' → txt r' = txt r → (∀ n, txt (r'.drop n) = txt (r.drop n)) → (hd r').kind = (hd r).kind → RR S (f x r) (f' y r')) : RR S (p.bind f) (p'.bind f') := by
 cases p with
 | ok x r =>
  cases p' with
  | ok y r' => exact hf x y r r' h.1 h.2 (al_hd h.2).2.2.2 (al_txts h.2) (al_hd h.2).1
  | bad e t => exact h.elim
 | bad e t =>
  cases p' with
  | ok y r' => exact h.elim
  | bad e t => exact h
theorem rr_bindE {α β : Type} {S : β → β → Prop} {p p' : Res α} {f f' : α → Sg → Res β} (h : RR Eq p p') (hf : ∀ x r r', Al r r' → txt r' = txt r → (∀ n, txt (r'.drop n) = txt (r.drop n)) → (hd r').kind = (hd r).kind → RR S (f x r) (f' x r')) : RR S (p.bind f) (p'.bind f') :=
 rr_bind h fun x y r r' he => by subst he; exact hf x r r'
theorem rr_ite {α : Type} {R : α → α → Prop} {c c' : Prop} [Decidable c] [Decidable c'] {a b a' b' : Res α} (h : c' ↔ c) (h1 : c → RR R a a') (h2 : ¬ c → RR R b b') : RR R (if c then a else b) (if c' then a' else b') := by
 by_cases hc : c
 ·rw [if_pos hc, if_pos (h.2 hc)]; exact h1 hc
 ·rw [if_neg hc, if_neg (fun x => hc (h.1 x))]; exact h2 hc
theorem rr_bite {α β : Type} {S : β → β → Prop} {c c' : Prop} [Decidable c] [Decidable c'] {a b a' b' : Res α} {f f' : α → Sg → Res β} (h : c' ↔ c) (h1 : c → RR S (a.bind f) (a'.bind f')) (h2 : ¬ c → RR S (b.bind f) (b'.bind f')) : RR S ((if c then a else b).bind f) ((if c' then a' else b').bind f') := by
 by_cases hc : c
 ·rw [if_pos hc, if_pos (h.2 hc)]; exact h1 hc
 ·rw [if_neg hc, if_neg (fun x => hc (h.1 x))]; exact h2 hc
theorem rr_bok {α β : Type} {S : β → β → Prop} {x y : α} {r r' : Sg} {f f' : α → Sg → Res β} (h : RR S (f x r) (f' y r')) : RR S ((Res.ok x r).bind f) ((Res.ok y r').bind f') := h
theorem rr_bbad {α β : Type} {S : β → β → Prop} {e : Int} {t t' : Tk} {f f' : α → Sg → Res β} : RR S ((Res.bad e t).bind f) ((Res.bad e t').bind f') := rfl
theorem rr_bfail {α β : Type} {S : β → β → Prop} {e : Int} {r r' : Sg} {f f' : α → Sg → Res β} : RR S ((fail e r : Res α).bind f) ((fail e r').bind f') := rfl
theorem rr_bbind {α β γ : Type} {S : γ → γ → Prop} {p p' : Res α} {g g' : α → Sg → Res β} {f f' : β → Sg → Res γ} (h : RR S (p.bind fun x r => (g x r).bind f) (p'.bind fun x r => (g' x r).bind f')) : RR S ((p.bind g).bind f) ((p'.bind g').bind f') := by
 cases p <;> cases p' <;> exact h
theorem rr_ok {α : Type} {R : α → α → Prop} {x y : α} {r r' : Sg} (h : R x y) (h2 : Al r r') : RR R (.ok x r) (.ok y r') := ⟨h, h2⟩
theorem rr_fail {α : Type} {R : α → α → Prop} {e : Int} {r r' : Sg} : RR R (fail e r) (fail e r') := rfl
theorem rr_bad {α : Type} {R : α → α → Prop} {e : Int} {t t' : Tk} : RR R (.bad e t) (.bad e t') := rfl
theorem rr_need {s : Str} {r r' : Sg} (h : Al r r') : RR Eq (need s r) (need s r') := by
 unfold need
 rw [(al_hd h).2.2.2]
 split
 ·exact ⟨rfl, al_drop 1 h⟩
 ·exact rfl
theorem rr_want {k : Int} {r r' : Sg} (h : Al r r') : RR (fun t t' => t'.text = t.text ∧ t'.n = t.n) (want k r) (want k r') := by
 unfold want
 rw [(al_hd h).1]
 split
 ·exact ⟨⟨(al_hd h).2.1, (al_hd h).2.2.1⟩, al_drop 1 h⟩
 ·exact rfl
theorem exs_snoc : ∀ {a a' : List Ex} {x x' : Ex}, exsSame a a' = true → exSame x x' = true → exsSame (a ++ [x]) (a' ++ [x']) = true
 | [], [], _, _, _, h => by simp [exsSame, h]
 | [], _ :: _, _, _, h, _ => by simp [exsSame] at h
 | _ :: _, [], _, _, h, _ => by simp [exsSame] at h
 | _ :: l, _ :: l', _, _, h, h2 => by
  rw [exsSame, Bool.and_eq_true] at h
  rw [List.cons_append, List.cons_append, exsSame, h.1, exs_snoc h.2 h2]
  rfl
theorem sts_snoc : ∀ {a a' : List St} {x x' : St}, stsSame a a' = true → stSame x x' = true → stsSame (a ++ [x]) (a' ++ [x']) = true
 | [], [], _, _, _, h => by simp [stsSame, h]
 | [], _ :: _, _, _, h, _ => by simp [stsSame] at h
 | _ :: _, [], _, _, h, _ => by simp [stsSame] at h
 | _ :: l, _ :: l', _, _, h, h2 => by
  rw [stsSame, Bool.and_eq_true] at h
  rw [List.cons_append, List.cons_append, stsSame, h.1, sts_snoc h.2 h2]
  rfl
theorem blks_snoc : ∀ {a a' : List (List St)} {x x' : List St}, blksSame a a' = true → stsSame x x' = true → blksSame (a ++ [x]) (a' ++ [x']) = true
 | [], [], _, _, _, h => by simp [blksSame, h]
 | [], _ :: _, _, _, h, _ => by simp [blksSame] at h
 | _ :: _, [], _, _, h, _ => by simp [blksSame] at h
 | _ :: l, _ :: l', _, _, h, h2 => by
  rw [blksSame, Bool.and_eq_true] at h
  rw [List.cons_append, List.cons_append, blksSame, h.1, blks_snoc h.2 h2]
  rfl
theorem vas_len : ∀ {a a' : List Va}, vasSame a a' = true → a'.length = a.length
 | [], [], _ => rfl
 | [], _ :: _, h => by simp [vasSame] at h
 | _ :: _, [], h => by simp [vasSame] at h
 | _ :: l, _ :: l', h => by
  rw [vasSame, Bool.and_eq_true] at h
  rw [List.length_cons, List.length_cons, vas_len h.2]
theorem vas_line {ty sec lo hi init : Int} {ar : Bool} : ∀ {a a' : List Va} {ns ns' : List Tk}, vasSame a a' = true → ns'.map Tk.text = ns.map Tk.text → vasSame (a ++ ns.map fun t => ⟨t.text, ty, sec, ar, lo, hi, init, t.line⟩) (a' ++ ns'.map fun t => ⟨t.text, ty, sec, ar, lo, hi, init, t.line⟩) = true
 | [], [], [], [], _, _ => rfl
 | [], [], [], _ :: _, _, h => by simp at h
 | [], [], _ :: _, [], _, h => by simp at h
 | [], [], t :: l, t' :: l', _, h => by
  simp only [List.map_cons, List.cons.injEq] at h
  have ih := vas_line (ty := ty) (sec := sec) (lo := lo) (hi := hi) (init := init) (ar := ar) (a := []) (a' := []) rfl h.2
  rw [List.nil_append, List.nil_append] at ih
  rw [List.nil_append, List.nil_append, List.map_cons, List.map_cons, vasSame, ih, vaSame, h.1]
  simp
 | [], _ :: _, _, _, h, _ => by simp [vasSame] at h
 | _ :: _, [], _, _, h, _ => by simp [vasSame] at h
 | _ :: l, _ :: l', _, _, h, h2 => by
  rw [vasSame, Bool.and_eq_true] at h
  rw [List.cons_append, List.cons_append, vasSame, h.1, vas_line h.2 h2]
  rfl
set_option maxHeartbeats 8000000 in
theorem alE : ∀ f : Nat, (∀ (d : Nat) (lv : Nat) (r r2 : Sg), Al r r2 → RR (fun x y : Ex => exSame x y = true) (exprF f d lv r) (exprF f d lv r2)) ∧ (∀ (d : Nat) (lv : Nat) (x x2 : Ex) (r r2 : Sg), exSame x x2 = true → Al r r2 → RR (fun x y : Ex => exSame x y = true) (moreF f d lv x r) (moreF f d lv x2 r2)) ∧ (∀ (d : Nat) (r r2 : Sg), Al r r2 → RR (fun x y : Ex => exSame x y = true) (unaryF f d r) (unaryF f d r2)) ∧ (∀ (d : Nat) (r r2 : Sg), Al r r2 → RR (fun x y : Ex => exSame x y = true) (indexF f d r) (indexF f d r2)) := by
 intro f
 induction f with
 | zero =>
  refine ⟨?_, ?_, ?_, ?_⟩
  ·intro d lv r r2  h
   rw [exprF, exprF]
   exact rr_fail
  ·intro d lv x x2 r r2 g1 h
   rw [moreF, moreF]
   exact rr_fail
  ·intro d r r2  h
   rw [unaryF, unaryF]
   exact rr_fail
  ·intro d r r2  h
   rw [indexF, indexF]
   exact rr_fail
 | succ f ih =>
  obtain ⟨i1, i2, i3, i4⟩ := ih
  refine ⟨?_, ?_, ?_, ?_⟩
  ·intro d lv r r2  h
   rw [exprF, exprF]
   have hf := al_hd h; obtain ⟨hf1, hf2, hf3, hf4⟩ := hf; have hf5 := al_txts h
   repeat' (first | with_reducible assumption | with_reducible apply al_drop | with_reducible exact rr_fail | with_reducible exact rr_bad | with_reducible exact rr_bbad | with_reducible exact rr_bfail | with_reducible refine rr_ite ?_ (fun _ => ?_) (fun _ => ?_) | with_reducible refine rr_bite ?_ (fun _ => ?_) (fun _ => ?_) | with_reducible apply rr_bok | with_reducible apply rr_bbind | with_reducible refine rr_bindE (rr_need ?_) fun _ _ _ _ _ _ _ => ?_ | with_reducible refine rr_bind (rr_want ?_) fun _ _ _ _ ⟨_, _⟩ _ _ _ _ => ?_ | with_reducible refine rr_bind (i1 _ _ _ _ ?_) fun _ _ _ _ _ _ _ _ _ => ?_ | with_reducible refine rr_bind (i2 _ _ _ _ _ _ ?_ ?_) fun _ _ _ _ _ _ _ _ _ => ?_ | with_reducible refine rr_bind (i3 _ _ _ ?_) fun _ _ _ _ _ _ _ _ _ => ?_ | with_reducible refine rr_bind (i4 _ _ _ ?_) fun _ _ _ _ _ _ _ _ _ => ?_ | with_reducible refine i1 _ _ _ _ ?_ | with_reducible refine i2 _ _ _ _ _ _ ?_ ?_ | with_reducible refine i3 _ _ _ ?_ | with_reducible refine i4 _ _ _ ?_ | with_reducible refine rr_ok ?_ ?_ | with_reducible apply vas_line | (simp only [simpleT, *, iff_self]; done) | (simp only [simpleT, pgSame, vasSame, exSame, exsSame, stSame, stsSame, blksSame, exs_snoc, sts_snoc, blks_snoc, exSame_refl, *, beq_self_eq_true, Bool.and_true, Bool.and_self, and_self]; done) | (simp [simpleT, pgSame, vasSame, exSame, exsSame, stSame, stsSame, blksSame, exs_snoc, sts_snoc, blks_snoc, exSame_refl, *]; done) | (intro _ _; simp only [simpleT, pgSame, vasSame, exSame, exsSame, stSame, stsSame, blksSame, exs_snoc, sts_snoc, blks_snoc, exSame_refl, *, beq_self_eq_true, Bool.and_true, Bool.and_self, and_self]; done) | (intro _ _; simp [simpleT, pgSame, vasSame, exSame, exsSame, stSame, stsSame, blksSame, exs_snoc, sts_snoc, blks_snoc, exSame_refl, *]; done))
  ·intro d lv x x2 r r2 g1 h
   rw [moreF, moreF]
   have hf := al_hd h; obtain ⟨hf1, hf2, hf3, hf4⟩ := hf; have hf5 := al_txts h
   repeat' (first | with_reducible assumption | with_reducible apply al_drop | with_reducible exact rr_fail | with_reducible exact rr_bad | with_reducible exact rr_bbad | with_reducible exact rr_bfail | with_reducible refine rr_ite ?_ (fun _ => ?_) (fun _ => ?_) | with_reducible refine rr_bite ?_ (fun _ => ?_) (fun _ => ?_) | with_reducible apply rr_bok | with_reducible apply rr_bbind | with_reducible refine rr_bindE (rr_need ?_) fun _ _ _ _ _ _ _ => ?_ | with_reducible refine rr_bind (rr_want ?_) fun _ _ _ _ ⟨_, _⟩ _ _ _ _ => ?_ | with_reducible refine rr_bind (i1 _ _ _ _ ?_) fun _ _ _ _ _ _ _ _ _ => ?_ | with_reducible refine rr_bind (i2 _ _ _ _ _ _ ?_ ?_) fun _ _ _ _ _ _ _ _ _ => ?_ | with_reducible refine rr_bind (i3 _ _ _ ?_) fun _ _ _ _ _ _ _ _ _ => ?_ | with_reducible refine rr_bind (i4 _ _ _ ?_) fun _ _ _ _ _ _ _ _ _ => ?_ | with_reducible refine i1 _ _ _ _ ?_ | with_reducible refine i2 _ _ _ _ _ _ ?_ ?_ | with_reducible refine i3 _ _ _ ?_ | with_reducible refine i4 _ _ _ ?_ | with_reducible refine rr_ok ?_ ?_ | with_reducible apply vas_line | (simp only [simpleT, *, iff_self]; done) | (simp only [simpleT, pgSame, vasSame, exSame, exsSame, stSame, stsSame, blksSame, exs_snoc, sts_snoc, blks_snoc, exSame_refl, *, beq_self_eq_true, Bool.and_true, Bool.and_self, and_self]; done) | (simp [simpleT, pgSame, vasSame, exSame, exsSame, stSame, stsSame, blksSame, exs_snoc, sts_snoc, blks_snoc, exSame_refl, *]; done) | (intro _ _; simp only [simpleT, pgSame, vasSame, exSame, exsSame, stSame, stsSame, blksSame, exs_snoc, sts_snoc, blks_snoc, exSame_refl, *, beq_self_eq_true, Bool.and_true, Bool.and_self, and_self]; done) | (intro _ _; simp [simpleT, pgSame, vasSame, exSame, exsSame, stSame, stsSame, blksSame, exs_snoc, sts_snoc, blks_snoc, exSame_refl, *]; done))
  ·intro d r r2  h
   rw [unaryF, unaryF]
   have hf := al_hd h; obtain ⟨hf1, hf2, hf3, hf4⟩ := hf; have hf5 := al_txts h
   repeat' (first | with_reducible assumption | with_reducible apply al_drop | with_reducible exact rr_fail | with_reducible exact rr_bad | with_reducible exact rr_bbad | with_reducible exact rr_bfail | with_reducible refine rr_ite ?_ (fun _ => ?_) (fun _ => ?_) | with_reducible refine rr_bite ?_ (fun _ => ?_) (fun _ => ?_) | with_reducible apply rr_bok | with_reducible apply rr_bbind | with_reducible refine rr_bindE (rr_need ?_) fun _ _ _ _ _ _ _ => ?_ | with_reducible refine rr_bind (rr_want ?_) fun _ _ _ _ ⟨_, _⟩ _ _ _ _ => ?_ | with_reducible refine rr_bind (i1 _ _ _ _ ?_) fun _ _ _ _ _ _ _ _ _ => ?_ | with_reducible refine rr_bind (i2 _ _ _ _ _ _ ?_ ?_) fun _ _ _ _ _ _ _ _ _ => ?_ | with_reducible refine rr_bind (i3 _ _ _ ?_) fun _ _ _ _ _ _ _ _ _ => ?_ | with_reducible refine rr_bind (i4 _ _ _ ?_) fun _ _ _ _ _ _ _ _ _ => ?_ | with_reducible refine i1 _ _ _ _ ?_ | with_reducible refine i2 _ _ _ _ _ _ ?_ ?_ | with_reducible refine i3 _ _ _ ?_ | with_reducible refine i4 _ _ _ ?_ | with_reducible refine rr_ok ?_ ?_ | with_reducible apply vas_line | (simp only [simpleT, *, iff_self]; done) | (simp only [simpleT, pgSame, vasSame, exSame, exsSame, stSame, stsSame, blksSame, exs_snoc, sts_snoc, blks_snoc, exSame_refl, *, beq_self_eq_true, Bool.and_true, Bool.and_self, and_self]; done) | (simp [simpleT, pgSame, vasSame, exSame, exsSame, stSame, stsSame, blksSame, exs_snoc, sts_snoc, blks_snoc, exSame_refl, *]; done) | (intro _ _; simp only [simpleT, pgSame, vasSame, exSame, exsSame, stSame, stsSame, blksSame, exs_snoc, sts_snoc, blks_snoc, exSame_refl, *, beq_self_eq_true, Bool.and_true, Bool.and_self, and_self]; done) | (intro _ _; simp [simpleT, pgSame, vasSame, exSame, exsSame, stSame, stsSame, blksSame, exs_snoc, sts_snoc, blks_snoc, exSame_refl, *]; done))
  ·intro d r r2  h
   rw [indexF, indexF]
   have hf := al_hd h; obtain ⟨hf1, hf2, hf3, hf4⟩ := hf; have hf5 := al_txts h
   repeat' (first | with_reducible assumption | with_reducible apply al_drop | with_reducible exact rr_fail | with_reducible exact rr_bad | with_reducible exact rr_bbad | with_reducible exact rr_bfail | with_reducible refine rr_ite ?_ (fun _ => ?_) (fun _ => ?_) | with_reducible refine rr_bite ?_ (fun _ => ?_) (fun _ => ?_) | with_reducible apply rr_bok | with_reducible apply rr_bbind | with_reducible refine rr_bindE (rr_need ?_) fun _ _ _ _ _ _ _ => ?_ | with_reducible refine rr_bind (rr_want ?_) fun _ _ _ _ ⟨_, _⟩ _ _ _ _ => ?_ | with_reducible refine rr_bind (i1 _ _ _ _ ?_) fun _ _ _ _ _ _ _ _ _ => ?_ | with_reducible refine rr_bind (i2 _ _ _ _ _ _ ?_ ?_) fun _ _ _ _ _ _ _ _ _ => ?_ | with_reducible refine rr_bind (i3 _ _ _ ?_) fun _ _ _ _ _ _ _ _ _ => ?_ | with_reducible refine rr_bind (i4 _ _ _ ?_) fun _ _ _ _ _ _ _ _ _ => ?_ | with_reducible refine i1 _ _ _ _ ?_ | with_reducible refine i2 _ _ _ _ _ _ ?_ ?_ | with_reducible refine i3 _ _ _ ?_ | with_reducible refine i4 _ _ _ ?_ | with_reducible refine rr_ok ?_ ?_ | with_reducible apply vas_line | (simp only [simpleT, *, iff_self]; done) | (simp only [simpleT, pgSame, vasSame, exSame, exsSame, stSame, stsSame, blksSame, exs_snoc, sts_snoc, blks_snoc, exSame_refl, *, beq_self_eq_true, Bool.and_true, Bool.and_self, and_self]; done) | (simp [simpleT, pgSame, vasSame, exSame, exsSame, stSame, stsSame, blksSame, exs_snoc, sts_snoc, blks_snoc, exSame_refl, *]; done) | (intro _ _; simp only [simpleT, pgSame, vasSame, exSame, exsSame, stSame, stsSame, blksSame, exs_snoc, sts_snoc, blks_snoc, exSame_refl, *, beq_self_eq_true, Bool.and_true, Bool.and_self, and_self]; done) | (intro _ _; simp [simpleT, pgSame, vasSame, exSame, exsSame, stSame, stsSame, blksSame, exs_snoc, sts_snoc, blks_snoc, exSame_refl, *]; done))
theorem al_expr {f d : Nat} {r r2 : Sg} (h : Al r r2) : RR (fun x y : Ex => exSame x y = true) (expr f d r) (expr f d r2) := (alE f).1 d 1 r r2 h
theorem al_index {f d : Nat} {r r2 : Sg} (h : Al r r2) : RR (fun x y : Ex => exSame x y = true) (indexF f d r) (indexF f d r2) := (alE f).2.2.2 d r r2 h
theorem al_intg {r r2 : Sg} (h : Al r r2) : RR Eq (intg r) (intg r2) := by
 unfold intg
 have hf := al_hd h; obtain ⟨hf1, hf2, hf3, hf4⟩ := hf; have hf5 := al_txts h
 repeat' (first | with_reducible assumption | with_reducible apply al_drop | with_reducible exact rr_fail | with_reducible exact rr_bad | with_reducible exact rr_bbad | with_reducible exact rr_bfail | with_reducible refine rr_ite ?_ (fun _ => ?_) (fun _ => ?_) | with_reducible refine rr_bite ?_ (fun _ => ?_) (fun _ => ?_) | with_reducible apply rr_bok | with_reducible apply rr_bbind | with_reducible refine rr_bindE (rr_need ?_) fun _ _ _ _ _ _ _ => ?_ | with_reducible refine rr_bind (rr_want ?_) fun _ _ _ _ ⟨_, _⟩ _ _ _ _ => ?_ | with_reducible refine rr_ok ?_ ?_ | with_reducible apply vas_line | (simp only [simpleT, *, iff_self]; done) | (simp only [simpleT, pgSame, vasSame, exSame, exsSame, stSame, stsSame, blksSame, exs_snoc, sts_snoc, blks_snoc, exSame_refl, *, beq_self_eq_true, Bool.and_true, Bool.and_self, and_self]; done) | (simp [simpleT, pgSame, vasSame, exSame, exsSame, stSame, stsSame, blksSame, exs_snoc, sts_snoc, blks_snoc, exSame_refl, *]; done) | (intro _ _; simp only [simpleT, pgSame, vasSame, exSame, exsSame, stSame, stsSame, blksSame, exs_snoc, sts_snoc, blks_snoc, exSame_refl, *, beq_self_eq_true, Bool.and_true, Bool.and_self, and_self]; done) | (intro _ _; simp [simpleT, pgSame, vasSame, exSame, exsSame, stSame, stsSame, blksSame, exs_snoc, sts_snoc, blks_snoc, exSame_refl, *]; done))
theorem al_labels (f : Nat) : ∀ (r r2 : Sg) (la : List Int), Al r r2 → RR Eq (labelsF f r la) (labelsF f r2 la) := by
 induction f with
 | zero =>
  intro r r2 la  h
  rw [labelsF, labelsF]
  exact rr_fail
 | succ f ih =>
  intro r r2 la  h
  rw [labelsF, labelsF]
  have hf := al_hd h; obtain ⟨hf1, hf2, hf3, hf4⟩ := hf; have hf5 := al_txts h
  repeat' (first | with_reducible assumption | with_reducible apply al_drop | with_reducible exact rr_fail | with_reducible exact rr_bad | with_reducible exact rr_bbad | with_reducible exact rr_bfail | with_reducible refine rr_ite ?_ (fun _ => ?_) (fun _ => ?_) | with_reducible refine rr_bite ?_ (fun _ => ?_) (fun _ => ?_) | with_reducible apply rr_bok | with_reducible apply rr_bbind | with_reducible refine rr_bindE (rr_need ?_) fun _ _ _ _ _ _ _ => ?_ | with_reducible refine rr_bind (rr_want ?_) fun _ _ _ _ ⟨_, _⟩ _ _ _ _ => ?_ | with_reducible refine rr_bindE (ih _ _ _ ?_) fun _ _ _ _ _ _ _ => ?_ | with_reducible refine rr_bindE (al_intg ?_) fun _ _ _ _ _ _ _ => ?_ | with_reducible refine ih _ _ _ ?_ | with_reducible refine al_intg ?_ | with_reducible refine rr_ok ?_ ?_ | with_reducible apply vas_line | (simp only [simpleT, *, iff_self]; done) | (simp only [simpleT, pgSame, vasSame, exSame, exsSame, stSame, stsSame, blksSame, exs_snoc, sts_snoc, blks_snoc, exSame_refl, *, beq_self_eq_true, Bool.and_true, Bool.and_self, and_self]; done) | (simp [simpleT, pgSame, vasSame, exSame, exsSame, stSame, stsSame, blksSame, exs_snoc, sts_snoc, blks_snoc, exSame_refl, *]; done) | (intro _ _; simp only [simpleT, pgSame, vasSame, exSame, exsSame, stSame, stsSame, blksSame, exs_snoc, sts_snoc, blks_snoc, exSame_refl, *, beq_self_eq_true, Bool.and_true, Bool.and_self, and_self]; done) | (intro _ _; simp [simpleT, pgSame, vasSame, exSame, exsSame, stSame, stsSame, blksSame, exs_snoc, sts_snoc, blks_snoc, exSame_refl, *]; done))
theorem al_args (f : Nat) : ∀ (d : Nat) (r r2 : Sg) (fs fs2 : List Str) (cs cs2 : List Ex), fs2 = fs → exsSame cs cs2 = true → Al r r2 → RR (fun x y : List Str × List Ex => y.1 = x.1 ∧ exsSame x.2 y.2 = true) (argsF f d r fs cs) (argsF f d r2 fs2 cs2) := by
 induction f with
 | zero =>
  intro d r r2 fs fs2 cs cs2 g1 g2 h
  rw [argsF, argsF]
  exact rr_fail
 | succ f ih =>
  intro d r r2 fs fs2 cs cs2 g1 g2 h
  rw [argsF, argsF]
  have hf := al_hd h; obtain ⟨hf1, hf2, hf3, hf4⟩ := hf; have hf5 := al_txts h
  repeat' (first | with_reducible assumption | with_reducible apply al_drop | with_reducible exact rr_fail | with_reducible exact rr_bad | with_reducible exact rr_bbad | with_reducible exact rr_bfail | with_reducible refine rr_ite ?_ (fun _ => ?_) (fun _ => ?_) | with_reducible refine rr_bite ?_ (fun _ => ?_) (fun _ => ?_) | with_reducible apply rr_bok | with_reducible apply rr_bbind | with_reducible refine rr_bindE (rr_need ?_) fun _ _ _ _ _ _ _ => ?_ | with_reducible refine rr_bind (rr_want ?_) fun _ _ _ _ ⟨_, _⟩ _ _ _ _ => ?_ | with_reducible refine rr_bind (ih _ _ _ _ _ _ _ ?_ ?_ ?_) fun _ _ _ _ _ _ _ _ _ => ?_ | with_reducible refine rr_bind (al_expr ?_) fun _ _ _ _ _ _ _ _ _ => ?_ | with_reducible refine ih _ _ _ _ _ _ _ ?_ ?_ ?_ | with_reducible refine al_expr ?_ | with_reducible refine rr_ok ?_ ?_ | with_reducible apply vas_line | (simp only [simpleT, *, iff_self]; done) | (simp only [simpleT, pgSame, vasSame, exSame, exsSame, stSame, stsSame, blksSame, exs_snoc, sts_snoc, blks_snoc, exSame_refl, *, beq_self_eq_true, Bool.and_true, Bool.and_self, and_self]; done) | (simp [simpleT, pgSame, vasSame, exSame, exsSame, stSame, stsSame, blksSame, exs_snoc, sts_snoc, blks_snoc, exSame_refl, *]; done) | (intro _ _; simp only [simpleT, pgSame, vasSame, exSame, exsSame, stSame, stsSame, blksSame, exs_snoc, sts_snoc, blks_snoc, exSame_refl, *, beq_self_eq_true, Bool.and_true, Bool.and_self, and_self]; done) | (intro _ _; simp [simpleT, pgSame, vasSame, exSame, exsSame, stSame, stsSame, blksSame, exs_snoc, sts_snoc, blks_snoc, exSame_refl, *]; done))
set_option maxHeartbeats 8000000 in
theorem alS : ∀ f : Nat, (∀ (d : Nat) (ends : List Str) (r r2 : Sg) (ac ac2 : List St), stsSame ac ac2 = true → Al r r2 → RR (fun x y : List St => stsSame x y = true) (stmtsF f d ends r ac) (stmtsF f d ends r2 ac2)) ∧ (∀ (d : Nat) (r r2 : Sg), Al r r2 → RR (fun x y : St => stSame x y = true) (stmtF f d r) (stmtF f d r2)) ∧ (∀ (d : Nat) (r r2 : Sg), Al r r2 → RR (fun x y : Nat → St => ∀ a b, stSame (x a) (y b) = true) (whatF f d r) (whatF f d r2)) ∧ (∀ (d : Nat) (r r2 : Sg) (cs cs2 : List Ex) (bs bs2 : List (List St)), exsSame cs cs2 = true → blksSame bs bs2 = true → Al r r2 → RR (fun x y : Nat → St => ∀ a b, stSame (x a) (y b) = true) (ifF f d r cs bs) (ifF f d r2 cs2 bs2)) ∧ (∀ (d : Nat) (x x2 : Ex) (r r2 : Sg) (ls : List (List Int)) (bs bs2 : List (List St)), exSame x x2 = true → blksSame bs bs2 = true → Al r r2 → RR (fun x y : Nat → St => ∀ a b, stSame (x a) (y b) = true) (caseF f d x r ls bs) (caseF f d x2 r2 ls bs2)) ∧ (∀ (d : Nat) (r r2 : Sg) (ac ac2 : List St), stsSame ac ac2 = true → Al r r2 → RR (fun x y : List St => stsSame x y = true) (blockF f d r ac) (blockF f d r2 ac2)) := by
 intro f
 induction f with
 | zero =>
  refine ⟨?_, ?_, ?_, ?_, ?_, ?_⟩
  ·intro d ends r r2 ac ac2 g1 h
   rw [stmtsF, stmtsF]
   exact rr_fail
  ·intro d r r2  h
   rw [stmtF, stmtF]
   exact rr_fail
  ·intro d r r2  h
   rw [whatF, whatF]
   exact rr_fail
  ·intro d r r2 cs cs2 bs bs2 g1 g2 h
   rw [ifF, ifF]
   exact rr_fail
  ·intro d x x2 r r2 ls bs bs2 g1 g2 h
   rw [caseF, caseF]
   exact rr_fail
  ·intro d r r2 ac ac2 g1 h
   rw [blockF, blockF]
   exact rr_fail
 | succ f ih =>
  obtain ⟨i1, i2, i3, i4, i5, i6⟩ := ih
  refine ⟨?_, ?_, ?_, ?_, ?_, ?_⟩
  ·intro d ends r r2 ac ac2 g1 h
   rw [stmtsF, stmtsF]
   have hf := al_hd h; obtain ⟨hf1, hf2, hf3, hf4⟩ := hf; have hf5 := al_txts h
   repeat' (first | with_reducible assumption | with_reducible apply al_drop | with_reducible exact rr_fail | with_reducible exact rr_bad | with_reducible exact rr_bbad | with_reducible exact rr_bfail | with_reducible refine rr_ite ?_ (fun _ => ?_) (fun _ => ?_) | with_reducible refine rr_bite ?_ (fun _ => ?_) (fun _ => ?_) | with_reducible apply rr_bok | with_reducible apply rr_bbind | with_reducible refine rr_bindE (rr_need ?_) fun _ _ _ _ _ _ _ => ?_ | with_reducible refine rr_bind (rr_want ?_) fun _ _ _ _ ⟨_, _⟩ _ _ _ _ => ?_ | with_reducible refine rr_bindE (al_labels _ _ _ _ ?_) fun _ _ _ _ _ _ _ => ?_ | with_reducible refine rr_bind (i1 _ _ _ _ _ _ ?_ ?_) fun _ _ _ _ _ _ _ _ _ => ?_ | with_reducible refine rr_bind (i2 _ _ _ ?_) fun _ _ _ _ _ _ _ _ _ => ?_ | with_reducible refine rr_bind (i3 _ _ _ ?_) fun _ _ _ _ _ _ _ _ _ => ?_ | with_reducible refine rr_bind (i4 _ _ _ _ _ _ _ ?_ ?_ ?_) fun _ _ _ _ _ _ _ _ _ => ?_ | with_reducible refine rr_bind (i5 _ _ _ _ _ _ _ _ ?_ ?_ ?_) fun _ _ _ _ _ _ _ _ _ => ?_ | with_reducible refine rr_bind (i6 _ _ _ _ _ ?_ ?_) fun _ _ _ _ _ _ _ _ _ => ?_ | with_reducible refine rr_bind (al_expr ?_) fun _ _ _ _ _ _ _ _ _ => ?_ | with_reducible refine rr_bind (al_index ?_) fun _ _ _ _ _ _ _ _ _ => ?_ | with_reducible refine rr_bind (al_args _ _ _ _ _ _ _ _ ?_ ?_ ?_) fun _ _ _ _ _ _ _ _ _ => ?_ | with_reducible refine al_labels _ _ _ _ ?_ | with_reducible refine i1 _ _ _ _ _ _ ?_ ?_ | with_reducible refine i2 _ _ _ ?_ | with_reducible refine i3 _ _ _ ?_ | with_reducible refine i4 _ _ _ _ _ _ _ ?_ ?_ ?_ | with_reducible refine i5 _ _ _ _ _ _ _ _ ?_ ?_ ?_ | with_reducible refine i6 _ _ _ _ _ ?_ ?_ | with_reducible refine al_expr ?_ | with_reducible refine al_index ?_ | with_reducible refine al_args _ _ _ _ _ _ _ _ ?_ ?_ ?_ | with_reducible refine rr_ok ?_ ?_ | with_reducible apply vas_line | (simp only [simpleT, *, iff_self]; done) | (simp only [simpleT, pgSame, vasSame, exSame, exsSame, stSame, stsSame, blksSame, exs_snoc, sts_snoc, blks_snoc, exSame_refl, *, beq_self_eq_true, Bool.and_true, Bool.and_self, and_self]; done) | (simp [simpleT, pgSame, vasSame, exSame, exsSame, stSame, stsSame, blksSame, exs_snoc, sts_snoc, blks_snoc, exSame_refl, *]; done) | (intro _ _; simp only [simpleT, pgSame, vasSame, exSame, exsSame, stSame, stsSame, blksSame, exs_snoc, sts_snoc, blks_snoc, exSame_refl, *, beq_self_eq_true, Bool.and_true, Bool.and_self, and_self]; done) | (intro _ _; simp [simpleT, pgSame, vasSame, exSame, exsSame, stSame, stsSame, blksSame, exs_snoc, sts_snoc, blks_snoc, exSame_refl, *]; done))
  ·intro d r r2  h
   rw [stmtF, stmtF]
   have hf := al_hd h; obtain ⟨hf1, hf2, hf3, hf4⟩ := hf; have hf5 := al_txts h
   repeat' (first | with_reducible assumption | with_reducible apply al_drop | with_reducible exact rr_fail | with_reducible exact rr_bad | with_reducible exact rr_bbad | with_reducible exact rr_bfail | with_reducible refine rr_ite ?_ (fun _ => ?_) (fun _ => ?_) | with_reducible refine rr_bite ?_ (fun _ => ?_) (fun _ => ?_) | with_reducible apply rr_bok | with_reducible apply rr_bbind | with_reducible refine rr_bindE (rr_need ?_) fun _ _ _ _ _ _ _ => ?_ | with_reducible refine rr_bind (rr_want ?_) fun _ _ _ _ ⟨_, _⟩ _ _ _ _ => ?_ | with_reducible refine rr_bindE (al_labels _ _ _ _ ?_) fun _ _ _ _ _ _ _ => ?_ | with_reducible refine rr_bind (i1 _ _ _ _ _ _ ?_ ?_) fun _ _ _ _ _ _ _ _ _ => ?_ | with_reducible refine rr_bind (i2 _ _ _ ?_) fun _ _ _ _ _ _ _ _ _ => ?_ | with_reducible refine rr_bind (i3 _ _ _ ?_) fun _ _ _ _ _ _ _ _ _ => ?_ | with_reducible refine rr_bind (i4 _ _ _ _ _ _ _ ?_ ?_ ?_) fun _ _ _ _ _ _ _ _ _ => ?_ | with_reducible refine rr_bind (i5 _ _ _ _ _ _ _ _ ?_ ?_ ?_) fun _ _ _ _ _ _ _ _ _ => ?_ | with_reducible refine rr_bind (i6 _ _ _ _ _ ?_ ?_) fun _ _ _ _ _ _ _ _ _ => ?_ | with_reducible refine rr_bind (al_expr ?_) fun _ _ _ _ _ _ _ _ _ => ?_ | with_reducible refine rr_bind (al_index ?_) fun _ _ _ _ _ _ _ _ _ => ?_ | with_reducible refine rr_bind (al_args _ _ _ _ _ _ _ _ ?_ ?_ ?_) fun _ _ _ _ _ _ _ _ _ => ?_ | with_reducible refine al_labels _ _ _ _ ?_ | with_reducible refine i1 _ _ _ _ _ _ ?_ ?_ | with_reducible refine i2 _ _ _ ?_ | with_reducible refine i3 _ _ _ ?_ | with_reducible refine i4 _ _ _ _ _ _ _ ?_ ?_ ?_ | with_reducible refine i5 _ _ _ _ _ _ _ _ ?_ ?_ ?_ | with_reducible refine i6 _ _ _ _ _ ?_ ?_ | with_reducible refine al_expr ?_ | with_reducible refine al_index ?_ | with_reducible refine al_args _ _ _ _ _ _ _ _ ?_ ?_ ?_ | with_reducible refine rr_ok ?_ ?_ | with_reducible apply vas_line | (simp only [simpleT, *, iff_self]; done) | (simp only [simpleT, pgSame, vasSame, exSame, exsSame, stSame, stsSame, blksSame, exs_snoc, sts_snoc, blks_snoc, exSame_refl, *, beq_self_eq_true, Bool.and_true, Bool.and_self, and_self]; done) | (simp [simpleT, pgSame, vasSame, exSame, exsSame, stSame, stsSame, blksSame, exs_snoc, sts_snoc, blks_snoc, exSame_refl, *]; done) | (intro _ _; simp only [simpleT, pgSame, vasSame, exSame, exsSame, stSame, stsSame, blksSame, exs_snoc, sts_snoc, blks_snoc, exSame_refl, *, beq_self_eq_true, Bool.and_true, Bool.and_self, and_self]; done) | (intro _ _; simp [simpleT, pgSame, vasSame, exSame, exsSame, stSame, stsSame, blksSame, exs_snoc, sts_snoc, blks_snoc, exSame_refl, *]; done))
  ·intro d r r2  h
   rw [whatF, whatF]
   have hf := al_hd h; obtain ⟨hf1, hf2, hf3, hf4⟩ := hf; have hf5 := al_txts h
   repeat' (first | with_reducible assumption | with_reducible apply al_drop | with_reducible exact rr_fail | with_reducible exact rr_bad | with_reducible exact rr_bbad | with_reducible exact rr_bfail | with_reducible refine rr_ite ?_ (fun _ => ?_) (fun _ => ?_) | with_reducible refine rr_bite ?_ (fun _ => ?_) (fun _ => ?_) | with_reducible apply rr_bok | with_reducible apply rr_bbind | with_reducible refine rr_bindE (rr_need ?_) fun _ _ _ _ _ _ _ => ?_ | with_reducible refine rr_bind (rr_want ?_) fun _ _ _ _ ⟨_, _⟩ _ _ _ _ => ?_ | with_reducible refine rr_bindE (al_labels _ _ _ _ ?_) fun _ _ _ _ _ _ _ => ?_ | with_reducible refine rr_bind (i1 _ _ _ _ _ _ ?_ ?_) fun _ _ _ _ _ _ _ _ _ => ?_ | with_reducible refine rr_bind (i2 _ _ _ ?_) fun _ _ _ _ _ _ _ _ _ => ?_ | with_reducible refine rr_bind (i3 _ _ _ ?_) fun _ _ _ _ _ _ _ _ _ => ?_ | with_reducible refine rr_bind (i4 _ _ _ _ _ _ _ ?_ ?_ ?_) fun _ _ _ _ _ _ _ _ _ => ?_ | with_reducible refine rr_bind (i5 _ _ _ _ _ _ _ _ ?_ ?_ ?_) fun _ _ _ _ _ _ _ _ _ => ?_ | with_reducible refine rr_bind (i6 _ _ _ _ _ ?_ ?_) fun _ _ _ _ _ _ _ _ _ => ?_ | with_reducible refine rr_bind (al_expr ?_) fun _ _ _ _ _ _ _ _ _ => ?_ | with_reducible refine rr_bind (al_index ?_) fun _ _ _ _ _ _ _ _ _ => ?_ | with_reducible refine rr_bind (al_args _ _ _ _ _ _ _ _ ?_ ?_ ?_) fun _ _ _ _ _ _ _ _ _ => ?_ | with_reducible refine al_labels _ _ _ _ ?_ | with_reducible refine i1 _ _ _ _ _ _ ?_ ?_ | with_reducible refine i2 _ _ _ ?_ | with_reducible refine i3 _ _ _ ?_ | with_reducible refine i4 _ _ _ _ _ _ _ ?_ ?_ ?_ | with_reducible refine i5 _ _ _ _ _ _ _ _ ?_ ?_ ?_ | with_reducible refine i6 _ _ _ _ _ ?_ ?_ | with_reducible refine al_expr ?_ | with_reducible refine al_index ?_ | with_reducible refine al_args _ _ _ _ _ _ _ _ ?_ ?_ ?_ | with_reducible refine rr_ok ?_ ?_ | with_reducible apply vas_line | (simp only [simpleT, *, iff_self]; done) | (simp only [simpleT, pgSame, vasSame, exSame, exsSame, stSame, stsSame, blksSame, exs_snoc, sts_snoc, blks_snoc, exSame_refl, *, beq_self_eq_true, Bool.and_true, Bool.and_self, and_self]; done) | (simp [simpleT, pgSame, vasSame, exSame, exsSame, stSame, stsSame, blksSame, exs_snoc, sts_snoc, blks_snoc, exSame_refl, *]; done) | (intro _ _; simp only [simpleT, pgSame, vasSame, exSame, exsSame, stSame, stsSame, blksSame, exs_snoc, sts_snoc, blks_snoc, exSame_refl, *, beq_self_eq_true, Bool.and_true, Bool.and_self, and_self]; done) | (intro _ _; simp [simpleT, pgSame, vasSame, exSame, exsSame, stSame, stsSame, blksSame, exs_snoc, sts_snoc, blks_snoc, exSame_refl, *]; done))
  ·intro d r r2 cs cs2 bs bs2 g1 g2 h
   rw [ifF, ifF]
   have hf := al_hd h; obtain ⟨hf1, hf2, hf3, hf4⟩ := hf; have hf5 := al_txts h
   repeat' (first | with_reducible assumption | with_reducible apply al_drop | with_reducible exact rr_fail | with_reducible exact rr_bad | with_reducible exact rr_bbad | with_reducible exact rr_bfail | with_reducible refine rr_ite ?_ (fun _ => ?_) (fun _ => ?_) | with_reducible refine rr_bite ?_ (fun _ => ?_) (fun _ => ?_) | with_reducible apply rr_bok | with_reducible apply rr_bbind | with_reducible refine rr_bindE (rr_need ?_) fun _ _ _ _ _ _ _ => ?_ | with_reducible refine rr_bind (rr_want ?_) fun _ _ _ _ ⟨_, _⟩ _ _ _ _ => ?_ | with_reducible refine rr_bindE (al_labels _ _ _ _ ?_) fun _ _ _ _ _ _ _ => ?_ | with_reducible refine rr_bind (i1 _ _ _ _ _ _ ?_ ?_) fun _ _ _ _ _ _ _ _ _ => ?_ | with_reducible refine rr_bind (i2 _ _ _ ?_) fun _ _ _ _ _ _ _ _ _ => ?_ | with_reducible refine rr_bind (i3 _ _ _ ?_) fun _ _ _ _ _ _ _ _ _ => ?_ | with_reducible refine rr_bind (i4 _ _ _ _ _ _ _ ?_ ?_ ?_) fun _ _ _ _ _ _ _ _ _ => ?_ | with_reducible refine rr_bind (i5 _ _ _ _ _ _ _ _ ?_ ?_ ?_) fun _ _ _ _ _ _ _ _ _ => ?_ | with_reducible refine rr_bind (i6 _ _ _ _ _ ?_ ?_) fun _ _ _ _ _ _ _ _ _ => ?_ | with_reducible refine rr_bind (al_expr ?_) fun _ _ _ _ _ _ _ _ _ => ?_ | with_reducible refine rr_bind (al_index ?_) fun _ _ _ _ _ _ _ _ _ => ?_ | with_reducible refine rr_bind (al_args _ _ _ _ _ _ _ _ ?_ ?_ ?_) fun _ _ _ _ _ _ _ _ _ => ?_ | with_reducible refine al_labels _ _ _ _ ?_ | with_reducible refine i1 _ _ _ _ _ _ ?_ ?_ | with_reducible refine i2 _ _ _ ?_ | with_reducible refine i3 _ _ _ ?_ | with_reducible refine i4 _ _ _ _ _ _ _ ?_ ?_ ?_ | with_reducible refine i5 _ _ _ _ _ _ _ _ ?_ ?_ ?_ | with_reducible refine i6 _ _ _ _ _ ?_ ?_ | with_reducible refine al_expr ?_ | with_reducible refine al_index ?_ | with_reducible refine al_args _ _ _ _ _ _ _ _ ?_ ?_ ?_ | with_reducible refine rr_ok ?_ ?_ | with_reducible apply vas_line | (simp only [simpleT, *, iff_self]; done) | (simp only [simpleT, pgSame, vasSame, exSame, exsSame, stSame, stsSame, blksSame, exs_snoc, sts_snoc, blks_snoc, exSame_refl, *, beq_self_eq_true, Bool.and_true, Bool.and_self, and_self]; done) | (simp [simpleT, pgSame, vasSame, exSame, exsSame, stSame, stsSame, blksSame, exs_snoc, sts_snoc, blks_snoc, exSame_refl, *]; done) | (intro _ _; simp only [simpleT, pgSame, vasSame, exSame, exsSame, stSame, stsSame, blksSame, exs_snoc, sts_snoc, blks_snoc, exSame_refl, *, beq_self_eq_true, Bool.and_true, Bool.and_self, and_self]; done) | (intro _ _; simp [simpleT, pgSame, vasSame, exSame, exsSame, stSame, stsSame, blksSame, exs_snoc, sts_snoc, blks_snoc, exSame_refl, *]; done))
  ·intro d x x2 r r2 ls bs bs2 g1 g2 h
   rw [caseF, caseF]
   have hf := al_hd h; obtain ⟨hf1, hf2, hf3, hf4⟩ := hf; have hf5 := al_txts h
   repeat' (first | with_reducible assumption | with_reducible apply al_drop | with_reducible exact rr_fail | with_reducible exact rr_bad | with_reducible exact rr_bbad | with_reducible exact rr_bfail | with_reducible refine rr_ite ?_ (fun _ => ?_) (fun _ => ?_) | with_reducible refine rr_bite ?_ (fun _ => ?_) (fun _ => ?_) | with_reducible apply rr_bok | with_reducible apply rr_bbind | with_reducible refine rr_bindE (rr_need ?_) fun _ _ _ _ _ _ _ => ?_ | with_reducible refine rr_bind (rr_want ?_) fun _ _ _ _ ⟨_, _⟩ _ _ _ _ => ?_ | with_reducible refine rr_bindE (al_labels _ _ _ _ ?_) fun _ _ _ _ _ _ _ => ?_ | with_reducible refine rr_bind (i1 _ _ _ _ _ _ ?_ ?_) fun _ _ _ _ _ _ _ _ _ => ?_ | with_reducible refine rr_bind (i2 _ _ _ ?_) fun _ _ _ _ _ _ _ _ _ => ?_ | with_reducible refine rr_bind (i3 _ _ _ ?_) fun _ _ _ _ _ _ _ _ _ => ?_ | with_reducible refine rr_bind (i4 _ _ _ _ _ _ _ ?_ ?_ ?_) fun _ _ _ _ _ _ _ _ _ => ?_ | with_reducible refine rr_bind (i5 _ _ _ _ _ _ _ _ ?_ ?_ ?_) fun _ _ _ _ _ _ _ _ _ => ?_ | with_reducible refine rr_bind (i6 _ _ _ _ _ ?_ ?_) fun _ _ _ _ _ _ _ _ _ => ?_ | with_reducible refine rr_bind (al_expr ?_) fun _ _ _ _ _ _ _ _ _ => ?_ | with_reducible refine rr_bind (al_index ?_) fun _ _ _ _ _ _ _ _ _ => ?_ | with_reducible refine rr_bind (al_args _ _ _ _ _ _ _ _ ?_ ?_ ?_) fun _ _ _ _ _ _ _ _ _ => ?_ | with_reducible refine al_labels _ _ _ _ ?_ | with_reducible refine i1 _ _ _ _ _ _ ?_ ?_ | with_reducible refine i2 _ _ _ ?_ | with_reducible refine i3 _ _ _ ?_ | with_reducible refine i4 _ _ _ _ _ _ _ ?_ ?_ ?_ | with_reducible refine i5 _ _ _ _ _ _ _ _ ?_ ?_ ?_ | with_reducible refine i6 _ _ _ _ _ ?_ ?_ | with_reducible refine al_expr ?_ | with_reducible refine al_index ?_ | with_reducible refine al_args _ _ _ _ _ _ _ _ ?_ ?_ ?_ | with_reducible refine rr_ok ?_ ?_ | with_reducible apply vas_line | (simp only [simpleT, *, iff_self]; done) | (simp only [simpleT, pgSame, vasSame, exSame, exsSame, stSame, stsSame, blksSame, exs_snoc, sts_snoc, blks_snoc, exSame_refl, *, beq_self_eq_true, Bool.and_true, Bool.and_self, and_self]; done) | (simp [simpleT, pgSame, vasSame, exSame, exsSame, stSame, stsSame, blksSame, exs_snoc, sts_snoc, blks_snoc, exSame_refl, *]; done) | (intro _ _; simp only [simpleT, pgSame, vasSame, exSame, exsSame, stSame, stsSame, blksSame, exs_snoc, sts_snoc, blks_snoc, exSame_refl, *, beq_self_eq_true, Bool.and_true, Bool.and_self, and_self]; done) | (intro _ _; simp [simpleT, pgSame, vasSame, exSame, exsSame, stSame, stsSame, blksSame, exs_snoc, sts_snoc, blks_snoc, exSame_refl, *]; done))
  ·intro d r r2 ac ac2 g1 h
   rw [blockF, blockF]
   have hf := al_hd h; obtain ⟨hf1, hf2, hf3, hf4⟩ := hf; have hf5 := al_txts h
   repeat' (first | with_reducible assumption | with_reducible apply al_drop | with_reducible exact rr_fail | with_reducible exact rr_bad | with_reducible exact rr_bbad | with_reducible exact rr_bfail | with_reducible refine rr_ite ?_ (fun _ => ?_) (fun _ => ?_) | with_reducible refine rr_bite ?_ (fun _ => ?_) (fun _ => ?_) | with_reducible apply rr_bok | with_reducible apply rr_bbind | with_reducible refine rr_bindE (rr_need ?_) fun _ _ _ _ _ _ _ => ?_ | with_reducible refine rr_bind (rr_want ?_) fun _ _ _ _ ⟨_, _⟩ _ _ _ _ => ?_ | with_reducible refine rr_bindE (al_labels _ _ _ _ ?_) fun _ _ _ _ _ _ _ => ?_ | with_reducible refine rr_bind (i1 _ _ _ _ _ _ ?_ ?_) fun _ _ _ _ _ _ _ _ _ => ?_ | with_reducible refine rr_bind (i2 _ _ _ ?_) fun _ _ _ _ _ _ _ _ _ => ?_ | with_reducible refine rr_bind (i3 _ _ _ ?_) fun _ _ _ _ _ _ _ _ _ => ?_ | with_reducible refine rr_bind (i4 _ _ _ _ _ _ _ ?_ ?_ ?_) fun _ _ _ _ _ _ _ _ _ => ?_ | with_reducible refine rr_bind (i5 _ _ _ _ _ _ _ _ ?_ ?_ ?_) fun _ _ _ _ _ _ _ _ _ => ?_ | with_reducible refine rr_bind (i6 _ _ _ _ _ ?_ ?_) fun _ _ _ _ _ _ _ _ _ => ?_ | with_reducible refine rr_bind (al_expr ?_) fun _ _ _ _ _ _ _ _ _ => ?_ | with_reducible refine rr_bind (al_index ?_) fun _ _ _ _ _ _ _ _ _ => ?_ | with_reducible refine rr_bind (al_args _ _ _ _ _ _ _ _ ?_ ?_ ?_) fun _ _ _ _ _ _ _ _ _ => ?_ | with_reducible refine al_labels _ _ _ _ ?_ | with_reducible refine i1 _ _ _ _ _ _ ?_ ?_ | with_reducible refine i2 _ _ _ ?_ | with_reducible refine i3 _ _ _ ?_ | with_reducible refine i4 _ _ _ _ _ _ _ ?_ ?_ ?_ | with_reducible refine i5 _ _ _ _ _ _ _ _ ?_ ?_ ?_ | with_reducible refine i6 _ _ _ _ _ ?_ ?_ | with_reducible refine al_expr ?_ | with_reducible refine al_index ?_ | with_reducible refine al_args _ _ _ _ _ _ _ _ ?_ ?_ ?_ | with_reducible refine rr_ok ?_ ?_ | with_reducible apply vas_line | (simp only [simpleT, *, iff_self]; done) | (simp only [simpleT, pgSame, vasSame, exSame, exsSame, stSame, stsSame, blksSame, exs_snoc, sts_snoc, blks_snoc, exSame_refl, *, beq_self_eq_true, Bool.and_true, Bool.and_self, and_self]; done) | (simp [simpleT, pgSame, vasSame, exSame, exsSame, stSame, stsSame, blksSame, exs_snoc, sts_snoc, blks_snoc, exSame_refl, *]; done) | (intro _ _; simp only [simpleT, pgSame, vasSame, exSame, exsSame, stSame, stsSame, blksSame, exs_snoc, sts_snoc, blks_snoc, exSame_refl, *, beq_self_eq_true, Bool.and_true, Bool.and_self, and_self]; done) | (intro _ _; simp [simpleT, pgSame, vasSame, exSame, exsSame, stSame, stsSame, blksSame, exs_snoc, sts_snoc, blks_snoc, exSame_refl, *]; done))
theorem al_names (f : Nat) : ∀ (m : Nat) (r r2 : Sg) (ns ns2 : List Tk), ns2.map Tk.text = ns.map Tk.text ∧ ns2.length = ns.length → Al r r2 → RR (fun x y : List Tk => y.map Tk.text = x.map Tk.text ∧ y.length = x.length) (namesF f m r ns) (namesF f m r2 ns2) := by
 induction f with
 | zero =>
  intro m r r2 ns ns2 g1 h
  rw [namesF, namesF]
  exact rr_fail
 | succ f ih =>
  intro m r r2 ns ns2 g1 h
  rw [namesF, namesF]
  have hf := al_hd h; obtain ⟨hf1, hf2, hf3, hf4⟩ := hf; have hf5 := al_txts h
  repeat' (first | with_reducible assumption | with_reducible apply al_drop | with_reducible exact rr_fail | with_reducible exact rr_bad | with_reducible exact rr_bbad | with_reducible exact rr_bfail | with_reducible refine rr_ite ?_ (fun _ => ?_) (fun _ => ?_) | with_reducible refine rr_bite ?_ (fun _ => ?_) (fun _ => ?_) | with_reducible apply rr_bok | with_reducible apply rr_bbind | with_reducible refine rr_bindE (rr_need ?_) fun _ _ _ _ _ _ _ => ?_ | with_reducible refine rr_bind (rr_want ?_) fun _ _ _ _ ⟨_, _⟩ _ _ _ _ => ?_ | with_reducible refine rr_bind (ih _ _ _ _ _ ?_ ?_) fun _ _ _ _ _ _ _ _ _ => ?_ | with_reducible refine ih _ _ _ _ _ ?_ ?_ | with_reducible refine rr_ok ?_ ?_ | with_reducible apply vas_line | (simp only [simpleT, *, iff_self]; done) | (simp only [simpleT, pgSame, vasSame, exSame, exsSame, stSame, stsSame, blksSame, exs_snoc, sts_snoc, blks_snoc, exSame_refl, *, beq_self_eq_true, Bool.and_true, Bool.and_self, and_self]; done) | (simp [simpleT, pgSame, vasSame, exSame, exsSame, stSame, stsSame, blksSame, exs_snoc, sts_snoc, blks_snoc, exSame_refl, *]; done) | (intro _ _; simp only [simpleT, pgSame, vasSame, exSame, exsSame, stSame, stsSame, blksSame, exs_snoc, sts_snoc, blks_snoc, exSame_refl, *, beq_self_eq_true, Bool.and_true, Bool.and_self, and_self]; done) | (intro _ _; simp [simpleT, pgSame, vasSame, exSame, exsSame, stSame, stsSame, blksSame, exs_snoc, sts_snoc, blks_snoc, exSame_refl, *]; done))
theorem al_type {r r2 : Sg} (h : Al r r2) : RR Eq (typeP r) (typeP r2) := by
 unfold typeP
 have hf := al_hd h; obtain ⟨hf1, hf2, hf3, hf4⟩ := hf; have hf5 := al_txts h
 repeat' (first | with_reducible assumption | with_reducible apply al_drop | with_reducible exact rr_fail | with_reducible exact rr_bad | with_reducible exact rr_bbad | with_reducible exact rr_bfail | with_reducible refine rr_ite ?_ (fun _ => ?_) (fun _ => ?_) | with_reducible refine rr_bite ?_ (fun _ => ?_) (fun _ => ?_) | with_reducible apply rr_bok | with_reducible apply rr_bbind | with_reducible refine rr_bindE (rr_need ?_) fun _ _ _ _ _ _ _ => ?_ | with_reducible refine rr_bind (rr_want ?_) fun _ _ _ _ ⟨_, _⟩ _ _ _ _ => ?_ | with_reducible refine rr_ok ?_ ?_ | with_reducible apply vas_line | (simp only [simpleT, *, iff_self]; done) | (simp only [simpleT, pgSame, vasSame, exSame, exsSame, stSame, stsSame, blksSame, exs_snoc, sts_snoc, blks_snoc, exSame_refl, *, beq_self_eq_true, Bool.and_true, Bool.and_self, and_self]; done) | (simp [simpleT, pgSame, vasSame, exSame, exsSame, stSame, stsSame, blksSame, exs_snoc, sts_snoc, blks_snoc, exSame_refl, *]; done) | (intro _ _; simp only [simpleT, pgSame, vasSame, exSame, exsSame, stSame, stsSame, blksSame, exs_snoc, sts_snoc, blks_snoc, exSame_refl, *, beq_self_eq_true, Bool.and_true, Bool.and_self, and_self]; done) | (intro _ _; simp [simpleT, pgSame, vasSame, exSame, exsSame, stSame, stsSame, blksSame, exs_snoc, sts_snoc, blks_snoc, exSame_refl, *]; done))
theorem al_value {r r2 : Sg} (h : Al r r2) : RR Eq (valueP r) (valueP r2) := by
 unfold valueP
 have hf := al_hd h; obtain ⟨hf1, hf2, hf3, hf4⟩ := hf; have hf5 := al_txts h
 repeat' (first | with_reducible assumption | with_reducible apply al_drop | with_reducible exact rr_fail | with_reducible exact rr_bad | with_reducible exact rr_bbad | with_reducible exact rr_bfail | with_reducible refine rr_ite ?_ (fun _ => ?_) (fun _ => ?_) | with_reducible refine rr_bite ?_ (fun _ => ?_) (fun _ => ?_) | with_reducible apply rr_bok | with_reducible apply rr_bbind | with_reducible refine rr_bindE (rr_need ?_) fun _ _ _ _ _ _ _ => ?_ | with_reducible refine rr_bind (rr_want ?_) fun _ _ _ _ ⟨_, _⟩ _ _ _ _ => ?_ | with_reducible refine rr_bindE (al_intg ?_) fun _ _ _ _ _ _ _ => ?_ | with_reducible refine al_intg ?_ | with_reducible refine rr_ok ?_ ?_ | with_reducible apply vas_line | (simp only [simpleT, *, iff_self]; done) | (simp only [simpleT, pgSame, vasSame, exSame, exsSame, stSame, stsSame, blksSame, exs_snoc, sts_snoc, blks_snoc, exSame_refl, *, beq_self_eq_true, Bool.and_true, Bool.and_self, and_self]; done) | (simp [simpleT, pgSame, vasSame, exSame, exsSame, stSame, stsSame, blksSame, exs_snoc, sts_snoc, blks_snoc, exSame_refl, *]; done) | (intro _ _; simp only [simpleT, pgSame, vasSame, exSame, exsSame, stSame, stsSame, blksSame, exs_snoc, sts_snoc, blks_snoc, exSame_refl, *, beq_self_eq_true, Bool.and_true, Bool.and_self, and_self]; done) | (intro _ _; simp [simpleT, pgSame, vasSame, exSame, exsSame, stSame, stsSame, blksSame, exs_snoc, sts_snoc, blks_snoc, exSame_refl, *]; done))
theorem al_line {f : Nat} {sec : Int} {r r2 : Sg} {vs vs2 : List Va} (g1 : vasSame vs vs2 = true) (h : Al r r2) : RR (fun x y : List Va => vasSame x y = true) (lineP f sec r vs) (lineP f sec r2 vs2) := by
 unfold lineP
 rw [vas_len g1]
 have hf := al_hd h; obtain ⟨hf1, hf2, hf3, hf4⟩ := hf; have hf5 := al_txts h
 repeat' (first | with_reducible assumption | with_reducible apply al_drop | with_reducible exact rr_fail | with_reducible exact rr_bad | with_reducible exact rr_bbad | with_reducible exact rr_bfail | with_reducible refine rr_ite ?_ (fun _ => ?_) (fun _ => ?_) | with_reducible refine rr_bite ?_ (fun _ => ?_) (fun _ => ?_) | with_reducible apply rr_bok | with_reducible apply rr_bbind | with_reducible refine rr_bindE (rr_need ?_) fun _ _ _ _ _ _ _ => ?_ | with_reducible refine rr_bind (rr_want ?_) fun _ _ _ _ ⟨_, _⟩ _ _ _ _ => ?_ | with_reducible refine rr_bindE (al_type ?_) fun _ _ _ _ _ _ _ => ?_ | with_reducible refine rr_bindE (al_value ?_) fun _ _ _ _ _ _ _ => ?_ | with_reducible refine rr_bind (al_names _ _ _ _ _ _ ?_ ?_) fun _ _ _ _ _ _ _ _ _ => ?_ | with_reducible refine al_type ?_ | with_reducible refine al_value ?_ | with_reducible refine al_names _ _ _ _ _ _ ?_ ?_ | with_reducible refine rr_ok ?_ ?_ | with_reducible apply vas_line | (simp only [simpleT, *, iff_self]; done) | (simp only [simpleT, pgSame, vasSame, exSame, exsSame, stSame, stsSame, blksSame, exs_snoc, sts_snoc, blks_snoc, exSame_refl, *, beq_self_eq_true, Bool.and_true, Bool.and_self, and_self]; done) | (simp [simpleT, pgSame, vasSame, exSame, exsSame, stSame, stsSame, blksSame, exs_snoc, sts_snoc, blks_snoc, exSame_refl, *]; done) | (intro _ _; simp only [simpleT, pgSame, vasSame, exSame, exsSame, stSame, stsSame, blksSame, exs_snoc, sts_snoc, blks_snoc, exSame_refl, *, beq_self_eq_true, Bool.and_true, Bool.and_self, and_self]; done) | (intro _ _; simp [simpleT, pgSame, vasSame, exSame, exsSame, stSame, stsSame, blksSame, exs_snoc, sts_snoc, blks_snoc, exSame_refl, *]; done))
theorem al_lines (f : Nat) : ∀ (sec : Int) (r r2 : Sg) (vs vs2 : List Va), vasSame vs vs2 = true → Al r r2 → RR (fun x y : List Va => vasSame x y = true) (linesF f sec r vs) (linesF f sec r2 vs2) := by
 induction f with
 | zero =>
  intro sec r r2 vs vs2 g1 h
  rw [linesF, linesF]
  exact rr_fail
 | succ f ih =>
  intro sec r r2 vs vs2 g1 h
  rw [linesF, linesF]
  have hf := al_hd h; obtain ⟨hf1, hf2, hf3, hf4⟩ := hf; have hf5 := al_txts h
  repeat' (first | with_reducible assumption | with_reducible apply al_drop | with_reducible exact rr_fail | with_reducible exact rr_bad | with_reducible exact rr_bbad | with_reducible exact rr_bfail | with_reducible refine rr_ite ?_ (fun _ => ?_) (fun _ => ?_) | with_reducible refine rr_bite ?_ (fun _ => ?_) (fun _ => ?_) | with_reducible apply rr_bok | with_reducible apply rr_bbind | with_reducible refine rr_bindE (rr_need ?_) fun _ _ _ _ _ _ _ => ?_ | with_reducible refine rr_bind (rr_want ?_) fun _ _ _ _ ⟨_, _⟩ _ _ _ _ => ?_ | with_reducible refine rr_bind (ih _ _ _ _ _ ?_ ?_) fun _ _ _ _ _ _ _ _ _ => ?_ | with_reducible refine rr_bind (al_line ?_ ?_) fun _ _ _ _ _ _ _ _ _ => ?_ | with_reducible refine ih _ _ _ _ _ ?_ ?_ | with_reducible refine al_line ?_ ?_ | with_reducible refine rr_ok ?_ ?_ | with_reducible apply vas_line | (simp only [simpleT, *, iff_self]; done) | (simp only [simpleT, pgSame, vasSame, exSame, exsSame, stSame, stsSame, blksSame, exs_snoc, sts_snoc, blks_snoc, exSame_refl, *, beq_self_eq_true, Bool.and_true, Bool.and_self, and_self]; done) | (simp [simpleT, pgSame, vasSame, exSame, exsSame, stSame, stsSame, blksSame, exs_snoc, sts_snoc, blks_snoc, exSame_refl, *]; done) | (intro _ _; simp only [simpleT, pgSame, vasSame, exSame, exsSame, stSame, stsSame, blksSame, exs_snoc, sts_snoc, blks_snoc, exSame_refl, *, beq_self_eq_true, Bool.and_true, Bool.and_self, and_self]; done) | (intro _ _; simp [simpleT, pgSame, vasSame, exSame, exsSame, stSame, stsSame, blksSame, exs_snoc, sts_snoc, blks_snoc, exSame_refl, *]; done))
theorem al_sects (f : Nat) : ∀ (r r2 : Sg) (vs vs2 : List Va), vasSame vs vs2 = true → Al r r2 → RR (fun x y : List Va => vasSame x y = true) (sectsF f r vs) (sectsF f r2 vs2) := by
 induction f with
 | zero =>
  intro r r2 vs vs2 g1 h
  rw [sectsF, sectsF]
  exact rr_fail
 | succ f ih =>
  intro r r2 vs vs2 g1 h
  rw [sectsF, sectsF]
  have hf := al_hd h; obtain ⟨hf1, hf2, hf3, hf4⟩ := hf; have hf5 := al_txts h
  repeat' (first | with_reducible assumption | with_reducible apply al_drop | with_reducible exact rr_fail | with_reducible exact rr_bad | with_reducible exact rr_bbad | with_reducible exact rr_bfail | with_reducible refine rr_ite ?_ (fun _ => ?_) (fun _ => ?_) | with_reducible refine rr_bite ?_ (fun _ => ?_) (fun _ => ?_) | with_reducible apply rr_bok | with_reducible apply rr_bbind | with_reducible refine rr_bindE (rr_need ?_) fun _ _ _ _ _ _ _ => ?_ | with_reducible refine rr_bind (rr_want ?_) fun _ _ _ _ ⟨_, _⟩ _ _ _ _ => ?_ | with_reducible refine rr_bind (ih _ _ _ _ ?_ ?_) fun _ _ _ _ _ _ _ _ _ => ?_ | with_reducible refine rr_bind (al_lines _ _ _ _ _ _ ?_ ?_) fun _ _ _ _ _ _ _ _ _ => ?_ | with_reducible refine ih _ _ _ _ ?_ ?_ | with_reducible refine al_lines _ _ _ _ _ _ ?_ ?_ | with_reducible refine rr_ok ?_ ?_ | with_reducible apply vas_line | (simp only [simpleT, *, iff_self]; done) | (simp only [simpleT, pgSame, vasSame, exSame, exsSame, stSame, stsSame, blksSame, exs_snoc, sts_snoc, blks_snoc, exSame_refl, *, beq_self_eq_true, Bool.and_true, Bool.and_self, and_self]; done) | (simp [simpleT, pgSame, vasSame, exSame, exsSame, stSame, stsSame, blksSame, exs_snoc, sts_snoc, blks_snoc, exSame_refl, *]; done) | (intro _ _; simp only [simpleT, pgSame, vasSame, exSame, exsSame, stSame, stsSame, blksSame, exs_snoc, sts_snoc, blks_snoc, exSame_refl, *, beq_self_eq_true, Bool.and_true, Bool.and_self, and_self]; done) | (intro _ _; simp [simpleT, pgSame, vasSame, exSame, exsSame, stSame, stsSame, blksSame, exs_snoc, sts_snoc, blks_snoc, exSame_refl, *]; done))
theorem al_stmts {f d : Nat} {ends : List Str} {r r2 : Sg} (h : Al r r2) : RR (fun x y : List St => stsSame x y = true) (stmtsF f d ends r []) (stmtsF f d ends r2 []) := (alS f).1 d ends r r2 [] [] rfl h
theorem al_prog {f : Nat} {r r2 : Sg} (h : Al r r2) : RR (fun x y : Pg => pgSame x y = true) (progP f r) (progP f r2) := by
 unfold progP
 have hf := al_hd h; obtain ⟨hf1, hf2, hf3, hf4⟩ := hf; have hf5 := al_txts h
 repeat' (first | with_reducible assumption | with_reducible apply al_drop | with_reducible exact rr_fail | with_reducible exact rr_bad | with_reducible exact rr_bbad | with_reducible exact rr_bfail | with_reducible refine rr_ite ?_ (fun _ => ?_) (fun _ => ?_) | with_reducible refine rr_bite ?_ (fun _ => ?_) (fun _ => ?_) | with_reducible apply rr_bok | with_reducible apply rr_bbind | with_reducible refine rr_bindE (rr_need ?_) fun _ _ _ _ _ _ _ => ?_ | with_reducible refine rr_bind (rr_want ?_) fun _ _ _ _ ⟨_, _⟩ _ _ _ _ => ?_ | with_reducible refine rr_bind (al_sects _ _ _ _ _ ?_ ?_) fun _ _ _ _ _ _ _ _ _ => ?_ | with_reducible refine rr_bind (al_stmts ?_) fun _ _ _ _ _ _ _ _ _ => ?_ | with_reducible refine al_sects _ _ _ _ _ ?_ ?_ | with_reducible refine al_stmts ?_ | with_reducible refine rr_ok ?_ ?_ | with_reducible apply vas_line | (simp only [simpleT, *, iff_self]; done) | (simp only [simpleT, pgSame, vasSame, exSame, exsSame, stSame, stsSame, blksSame, exs_snoc, sts_snoc, blks_snoc, exSame_refl, *, beq_self_eq_true, Bool.and_true, Bool.and_self, and_self]; done) | (simp [simpleT, pgSame, vasSame, exSame, exsSame, stSame, stsSame, blksSame, exs_snoc, sts_snoc, blks_snoc, exSame_refl, *]; done) | (intro _ _; simp only [simpleT, pgSame, vasSame, exSame, exsSame, stSame, stsSame, blksSame, exs_snoc, sts_snoc, blks_snoc, exSame_refl, *, beq_self_eq_true, Bool.and_true, Bool.and_self, and_self]; done) | (intro _ _; simp [simpleT, pgSame, vasSame, exSame, exsSame, stSame, stsSame, blksSame, exs_snoc, sts_snoc, blks_snoc, exSame_refl, *]; done))
def nlS (s : Str) : Str := s.map fun c => if c = 32 then 10 else c
theorem parse_lines {s : Str} (hl : s.length ≤ 1500) (h : ∀ i, two (s.drop i) 47 47 = false) : (parse s).2.1 = (parse (nlS s)).2.1 ∧ pgSame (parse s).1 (parse (nlS s)).1 = true := by
 obtain ⟨h1, h2⟩ := lex_nl (s := s) h
 have hn : nlS s = s.map gB := rfl
 have hlen : (lex (s.map gB)).2.1.length = (lex s).2.1.length := by
  have := congrArg List.length h2
  rwa [List.length_map, List.length_map] at this
 unfold parse
 rw [hn, h1, hlen]
 split
 ·have hp := al_prog (f := 20 * (lex s).2.1.length + 20) (show Al (lex s).2.1 (lex (s.map gB)).2.1 from h2)
  revert hp
  generalize progP _ (lex s).2.1 = p
  generalize progP _ (lex (s.map gB)).2.1 = q
  intro hp
  cases p with
  | ok x r =>
   cases q with
   | ok y r' => exact ⟨rfl, hp.1⟩
   | bad e t => exact hp.elim
  | bad e t =>
   cases q with
   | ok y r' => exact hp.elim
   | bad e' t' => exact ⟨hp.symm, rfl⟩
 ·exact ⟨rfl, rfl⟩
end Go.Proofs.Ytbcpkhegmbdifaa.tr
