/- A region in whatever order, whose loads are taken first though a later operation of it stores into what they read: what is asked of the world is asked only as long as none of the operations that spoil it has come up. And a region by one invariant. No condition beyond what each line says. -/
import Derived.Test.YthdkkdgjcfjinaaKBase
import Derived.OrdersHeld
import Derived.Deep.RegionHeld
namespace Go.Proofs.Ythdkkdgjcfjinaa.k
open Go
set_option linter.unusedVariables false

/-- none of these has come up -/
def fresh (sp : List Nat) (listed : Array Bool) : Bool := sp.all fun k => !listed.getD k false
/-- number k waits for number i, at once or over others -/
def waits (md : Region.Mode) (ops : Array Oper) : Nat → Nat → Nat → Bool
  | 0, _, _ => false
  | f + 1, k, i => match ops[k]? with
    | none => false
    | some o => o.after.any fun e => Region.binds md e && (e.on == i || waits md ops f e.on i)
/-- whatever has come up waited for what it waits for -/
def closed (md : Region.Mode) (ops : Array Oper) (listed : Array Bool) : Prop :=
  ∀ k o, ops[k]? = some o → listed.getD k false = true → ∀ e ∈ o.after, Region.binds md e = true → listed.getD e.on false = true
def closedB (md : Region.Mode) (ops : Array Oper) (listed : Array Bool) : Bool :=
  (List.range ops.size).all fun k => !listed.getD k false || match ops[k]? with
    | none => true
    | some o => o.after.all fun e => !Region.binds md e || listed.getD e.on false
section
variable {P : Program} {ops : Array Oper} {Q : Exit → Act → World → Prop} {md : Region.Mode} {T : World → Prop} {sp : List Nat}

theorem closedB_spec {listed : Array Bool} (h : closedB md ops listed = true) : closed md ops listed := fun k o ho hk e he hb => by
  unfold closedB at h
  rw [List.all_eq_true] at h
  have h1 := h k (List.mem_range.2 (Array.getElem?_eq_some_iff.1 ho).1)
  rw [hk, ho] at h1
  simp only [Bool.not_true, Bool.false_or] at h1
  have h2 := Array.all_eq_true_iff_forall_mem.1 h1 e he
  rw [hb] at h2
  simpa using h2
theorem waits_unlisted {listed : Array Bool} (hc : closed md ops listed) {i : Nat} (hi : listed.getD i false = false) : ∀ (f k : Nat), waits md ops f k i = true → listed.getD k false = false
  | 0, k, h => by cases h
  | f + 1, k, h => by
    unfold waits at h
    split at h
    · cases h
    · rename_i o ho
      obtain ⟨e, he, hb⟩ := Array.any_eq_true'.1 h
      rw [Bool.and_eq_true] at hb
      cases hk : listed.getD k false
      · rfl
      · have h1 := hc k o ho hk e he hb.1
        have h2 := hb.2
        rw [Bool.or_eq_true, beq_iff_eq] at h2
        rcases h2 with h2 | h2
        · rw [h2, hi] at h1; cases h1
        · rw [waits_unlisted hc hi f e.on h2] at h1; cases h1
theorem getD_ft {listed : Array Bool} {i : Nat} (h : listed.getD i true = false) : listed.getD i false = false := by
  rcases Nat.lt_or_ge i listed.size with h' | h'
  · simp [h'] at h ⊢; exact h
  · simp [Array.getElem?_eq_none h'] at h
theorem getD_tf {listed : Array Bool} {i : Nat} (hlt : i < listed.size) (h : listed.getD i false = false) : listed.getD i true = false := by
  simp [hlt] at h ⊢; exact h
theorem closed_set {listed : Array Bool} (hc : closed md ops listed) {j : Nat} (hj : j ∈ Region.ready md ops listed) : closed md ops (listed.setIfInBounds j true) := fun k o ho hk e he hb => by
  obtain ⟨h0, oj, hoj, hall⟩ := mem_ready.1 hj
  by_cases hkj : j = k
  · subst hkj
    rw [hoj] at ho
    injection ho with ho
    subst ho
    exact getD_set_true (hall e he hb)
  · rw [getD_set_ne false hkj] at hk
    exact getD_set_true (hc k o ho hk e he hb)
theorem fresh_set {listed : Array Bool} {i : Nat} (hi : sp.all (fun k => !(k == i)) = true) (h : fresh sp listed = true) : fresh sp (listed.setIfInBounds i true) = true := by
  unfold fresh at *
  rw [List.all_eq_true] at *
  intro k hk
  have h1 := hi k hk
  have h2 := h k hk
  rw [getD_set_ne false (fun e => by subst e; simp at h1)]
  exact h2
theorem fresh_unset {listed : Array Bool} {i : Nat} (h : fresh sp (listed.setIfInBounds i true) = true) : fresh sp listed = true := by
  unfold fresh at *
  rw [List.all_eq_true] at *
  intro k hk
  have h2 := h k hk
  cases hl : listed.getD k false
  · rfl
  · rw [getD_set_true hl] at h2; exact h2

/-- Whatever order is picked from here on, and T holds behind every operation as long as none of those that spoil it has come up. -/
def wpAnyT (P : Program) (md : Region.Mode) (ops : Array Oper) (Q : Exit → Act → World → Prop) (T : World → Prop) (sp : List Nat) : Nat → Array Bool → Act → World → Prop
  | 0, listed, a, w => Region.ready md ops listed = [] ∧ Q .normal a w
  | fuel + 1, listed, a, w =>
    (Region.ready md ops listed = [] → Q .normal a w) ∧
    ∀ i ∈ Region.ready md ops listed, wpOp P ops Q i (fun a' w' => (fresh sp (listed.setIfInBounds i true) = true → T w') ∧ wpAnyT P md ops Q T sp fuel (listed.setIfInBounds i true) a' w') a w
theorem wpAny_of_T : ∀ (fuel : Nat) (listed : Array Bool) (a : Act) (w : World), wpAnyT P md ops Q T sp fuel listed a w → wpAny P md ops Q fuel listed a w
  | 0, _, _, _, h => h
  | fuel + 1, _, _, _, h => ⟨h.1, fun i hi => wpOp_mono (fun a' w' h' => wpAny_of_T fuel _ a' w' h'.2) (h.2 i hi)⟩
theorem wpAnyT_first {i : Nat} {oi : Oper} {v : Value} (hi : ops[i]? = some oi) (hsel : ∀ (j : Nat) (o : Oper) cs b, ops[j]? = some o → o.op ≠ .select cs b)
    (hQ : ∀ c a w, Q (.panic c) (a.put oi.dst v) w → Q (.panic c) a w) (hw : ∀ k ∈ sp, ∃ f, waits md ops f k i = true) (hne : sp.all (fun k => !(k == i)) = true) :
    ∀ (fuel : Nat) (listed : Array Bool) (a : Act) (w : World), closed md ops listed →
      (∀ j oj, ops[j]? = some oj → j ≠ i → listed.getD j true = false → (∀ e ∈ oj.after, Region.binds md e = true → e.on ≠ i) → oi.apart ops oj = true) →
      i ∈ Region.ready md ops listed → YieldsIf P ops T oi v a → T w →
      wpAnyT P md ops Q T sp fuel (listed.setIfInBounds i true) (a.put oi.dst v) w → wpAnyT P md ops Q T sp (fuel + 1) listed a w := by
  intro fuel
  induction fuel with
  | zero =>
    intro listed a w _ _ hr hy hT H
    refine ⟨fun h => (by rw [h] at hr; cases hr), fun j hj => ?_⟩
    by_cases hji : j = i
    · subst hji; exact hy.wpOp hi hT ⟨fun _ => hT, H⟩
    · have := ready_mono hj hji
      rw [H.1] at this
      cases this
  | succ fuel ih =>
    intro listed a w hcl hfree hr hy hT H
    refine ⟨fun h => (by rw [h] at hr; cases hr), fun j hj => ?_⟩
    by_cases hji : j = i
    · subst hji; exact hy.wpOp hi hT ⟨fun _ => hT, H⟩
    · have h1 := H.2 j (ready_mono hj hji)
      obtain ⟨hjun, oj, hoj, hall⟩ := mem_ready.1 hj
      have hiun := (mem_ready.1 hr).1
      have hnot : ∀ e ∈ oj.after, Region.binds md e = true → e.on ≠ i := fun e he hb heq => by
        have h1 := hall e he hb
        rw [heq, getD_ft hiun] at h1
        cases h1
      have h2 := wpOp_putIf hoj (hfree j oj hoj hji hjun hnot) (fun cs b => hsel i oi cs b hi) (fun cs b => hsel j oj cs b hoj) hQ hy h1
      have hfree' : ∀ k ok, ops[k]? = some ok → k ≠ i → (listed.setIfInBounds j true).getD k true = false →
          (∀ e ∈ ok.after, Region.binds md e = true → e.on ≠ i) → oi.apart ops ok = true := fun k ok hk hki hun hno => by
        refine hfree k ok hk hki ?_ hno
        by_cases hjk : j = k
        · subst hjk; exact hjun
        · rw [getD_set_ne true hjk] at hun; exact hun
      have hcl' := closed_set hcl hj
      have hi' : (listed.setIfInBounds j true).getD i false = false := by rw [getD_set_ne false hji]; exact getD_ft hiun
      have hfr : fresh sp (listed.setIfInBounds j true) = true := by
        unfold fresh
        rw [List.all_eq_true]
        intro k hk
        obtain ⟨f, hf⟩ := hw k hk
        rw [waits_unlisted hcl' hi' f k hf]
        rfl
      refine wpOp_mono (fun a' w' h3 => ?_) h2
      have h4 := h3.2
      rw [Array.setIfInBounds_comm _ _ (Ne.symm hji)] at h4
      have hT' : T w' := h4.1 (fresh_set hne hfr)
      exact ⟨fun _ => hT', ih (listed.setIfInBounds j true) a' w' hcl' hfree' (ready_mono hr (Ne.symm hji)) h3.1 hT' h4.2⟩
/-- Take number 'i' first. -/
theorem wpAnyT_take {i : Nat} {oi : Oper} {v : Value} {fuel : Nat} {listed : Array Bool} {a : Act} {w : World} (hi : ops[i]? = some oi)
    (hs : Region.noSelect ops = true) (hf : (Region.free md ops listed i && closedB md ops listed && (sp.all fun k => waits md ops ops.size k i && !(k == i))) = true) (hr : (Region.ready md ops listed).contains i = true)
    (hQ : ∀ c a w, Q (.panic c) (a.put oi.dst v) w → Q (.panic c) a w) (hy : YieldsIf P ops T oi v a) (hT : T w)
    (h : wpAnyT P md ops Q T sp fuel (listed.setIfInBounds i true) (a.put oi.dst v) w) : wpAnyT P md ops Q T sp (fuel + 1) listed a w := by
  rw [Bool.and_eq_true, Bool.and_eq_true] at hf
  obtain ⟨⟨h1, h2⟩, h3⟩ := hf
  rw [List.all_eq_true] at h3
  refine wpAnyT_first hi (Region.noSelect_spec hs) hQ (fun k hk => ⟨ops.size, ?_⟩) ?_ fuel listed a w (closedB_spec h2) (Region.free_spec hi h1) (by simpa using hr) hy hT h
  · have := h3 k hk
    rw [Bool.and_eq_true] at this
    exact this.1
  · rw [List.all_eq_true]
    intro k hk
    have := h3 k hk
    rw [Bool.and_eq_true] at this
    exact this.2
/-- Each of the operations 'rs' comes up next. -/
def AllReadyT (P : Program) (md : Region.Mode) (ops : Array Oper) (Q : Exit → Act → World → Prop) (T : World → Prop) (sp : List Nat) (fuel : Nat) (listed : Array Bool) (a : Act) (w : World) (rs : List Nat) : Prop :=
  ∀ i ∈ rs, wpOp P ops Q i (fun a' w' => (fresh sp (listed.setIfInBounds i true) = true → T w') ∧ wpAnyT P md ops Q T sp fuel (listed.setIfInBounds i true) a' w') a w
theorem AllReadyT.nil {fuel : Nat} {listed : Array Bool} {a : Act} {w : World} : AllReadyT P md ops Q T sp fuel listed a w [] := fun _ h => by cases h
/-- behind it T is shown -/
theorem AllReadyT.cons {fuel : Nat} {listed : Array Bool} {a : Act} {w : World} {i : Nat} {o : Oper} {rs : List Nat} (ho : ops[i]? = some o)
    (h : ∀ K' : Act → World → Prop, Shut (∀ a w, T w → (T w → wpAnyT P md ops Q T sp fuel (listed.setIfInBounds i true) a w) → K' a w) → if Region.wanted o (yielded ops a.tmps) = true then Oper.wp P o a w K' Q else K' (a.put o.dst undef) w)
    (hs : AllReadyT P md ops Q T sp fuel listed a w rs) : AllReadyT P md ops Q T sp fuel listed a w (i :: rs) := fun j hj => by
  rcases List.mem_cons.1 hj with rfl | hj
  · exact wpOp_step ho (fun K' hK => h K' (fun a w hT hW => hK a w ⟨fun _ => hT, hW hT⟩))
  · exact hs j hj
/-- behind it T is spoilt -/
theorem AllReadyT.spoilt {fuel : Nat} {listed : Array Bool} {a : Act} {w : World} {i : Nat} {o : Oper} {rs : List Nat} (ho : ops[i]? = some o) (hf : fresh sp (listed.setIfInBounds i true) = false)
    (h : ∀ K' : Act → World → Prop, Shut (∀ a w, wpAnyT P md ops Q T sp fuel (listed.setIfInBounds i true) a w → K' a w) → if Region.wanted o (yielded ops a.tmps) = true then Oper.wp P o a w K' Q else K' (a.put o.dst undef) w)
    (hs : AllReadyT P md ops Q T sp fuel listed a w rs) : AllReadyT P md ops Q T sp fuel listed a w (i :: rs) := fun j hj => by
  rcases List.mem_cons.1 hj with rfl | hj
  · exact wpOp_step ho (fun K' hK => h K' (fun a w hW => hK a w ⟨fun h2 => absurd (hf.symm.trans h2) (by simp), hW⟩))
  · exact hs j hj
theorem wpAnyT_ready {rs : List Nat} {fuel : Nat} {listed : Array Bool} {a : Act} {w : World} (hr : Region.ready md ops listed = rs) (hne : rs ≠ [])
    (h : AllReadyT P md ops Q T sp fuel listed a w rs) : wpAnyT P md ops Q T sp (fuel + 1) listed a w :=
  ⟨fun h0 => absurd (hr ▸ h0) hne, hr ▸ h⟩
theorem wpAnyT_done {listed : Array Bool} {a : Act} {w : World} (hr : Region.ready md ops listed = []) (h : Q .normal a w) : ∀ fuel, wpAnyT P md ops Q T sp fuel listed a w
  | 0 => ⟨hr, h⟩
  | _ + 1 => ⟨fun _ => h, by rw [hr]; simp⟩
theorem wp_region_T {id : Nat} {a : Act} {w : World} (hm : P.follows .mixedOrders = true) (T : World → Prop) (sp : List Nat) (hT : T w.drew)
    (h : T w.drew → wpAnyT P .any ops Q T sp ops.size (Array.replicate ops.size false) a w.drew) : (Code.region id ops true).wp P Q a w :=
  wp_region_any hm (wpAny_of_T _ _ _ _ (h hT))

/-! ### A region by one invariant -/
theorem ready_nil {listed : Array Bool} (h : ∀ i, i < ops.size → listed.getD i true = true) : Region.ready md ops listed = [] := by
  unfold Region.ready
  rw [List.filter_eq_nil_iff]
  intro i hi
  rw [h i (List.mem_range.1 hi)]
  simp
def left (n : Nat) (listed : Array Bool) : Nat := (List.range n).countP fun i => !listed.getD i true
theorem count_set {p q : Nat → Bool} {j : Nat} : ∀ (l : List Nat), l.Nodup → j ∈ l → p j = true → q j = false → (∀ i, i ≠ j → q i = p i) → l.countP p = l.countP q + 1
  | [], _, h, _, _, _ => by cases h
  | x :: l, hn, hj, hp, hq, he => by
    obtain ⟨hx, hn⟩ := List.nodup_cons.1 hn
    by_cases e : x = j
    · subst e
      rw [List.countP_cons, List.countP_cons, hp, hq]
      have : l.countP p = l.countP q := List.countP_congr fun i hi => by rw [he i fun e => hx (e ▸ hi)]
      simp [this]
    · have hj2 : j ∈ l := by
        rcases List.mem_cons.1 hj with h | h
        · exact absurd h.symm e
        · exact h
      have := count_set l hn hj2 hp hq he
      rw [List.countP_cons, List.countP_cons, he x e, this]
      omega
theorem left_set {n : Nat} {listed : Array Bool} {j : Nat} (hj : j < n) (hs : listed.size = n) (h : listed.getD j true = false) : left n listed = left n (listed.setIfInBounds j true) + 1 := by
  unfold left
  refine count_set (j := j) _ (List.nodup_range) (List.mem_range.2 hj) ?_ ?_ fun i hi => ?_
  · rw [h]; rfl
  · have : (listed.setIfInBounds j true).getD j true = true := by simp [show j < listed.size by omega]
    rw [this]; rfl
  · rw [getD_set_ne true (Ne.symm hi)]
/-- what holds behind each operation, whatever has come up, holds at the end -/
theorem wpAny_inv {I : Array Bool → Act → World → Prop} (hsz : ∀ listed a w, I listed a w → listed.size = ops.size)
    (hstep : ∀ listed a w, I listed a w → ∀ i ∈ Region.ready md ops listed, wpOp P ops Q i (I (listed.setIfInBounds i true)) a w)
    (hend : ∀ listed a w, I listed a w → Region.ready md ops listed = [] → Q .normal a w) :
    ∀ (fuel : Nat) (listed : Array Bool) (a : Act) (w : World), left ops.size listed ≤ fuel → I listed a w → wpAny P md ops Q fuel listed a w := by
  intro fuel
  induction fuel with
  | zero =>
    intro listed a w hf hI
    have hr : Region.ready md ops listed = [] := ready_nil fun i hi => by
      unfold left at hf
      have h0 := List.countP_eq_zero.1 (Nat.le_zero.1 hf) i (List.mem_range.2 hi)
      cases h : listed.getD i true
      · rw [h] at h0; exact absurd rfl h0
      · rfl
    exact ⟨hr, hend listed a w hI hr⟩
  | succ fuel ih =>
    intro listed a w hf hI
    refine ⟨fun hr => hend listed a w hI hr, fun i hi => wpOp_mono (fun a' w' h => ih _ a' w' ?_ h) (hstep listed a w hI i hi)⟩
    obtain ⟨h0, o, ho, _⟩ := mem_ready.1 hi
    have := left_set (Array.getElem?_eq_some_iff.1 ho).1 (hsz _ _ _ hI) h0
    omega
theorem wpOp_shut {i : Nat} {o : Oper} {K : Act → World → Prop} {a : Act} {w : World} (ho : ops[i]? = some o)
    (h : ∀ K' : Act → World → Prop, Shut (∀ a w, K a w → K' a w) → if Region.wanted o (yielded ops a.tmps) = true then Oper.wp P o a w K' Q else K' (a.put o.dst undef) w) : wpOp P ops Q i K a w := wpOp_step ho h
/-- what number i waited for has come up -/
theorem ready_dep {listed : Array Bool} {i : Nat} {o : Oper} {e : Edge} (hi : i ∈ Region.ready md ops listed) (ho : ops[i]? = some o) (j : Nat) (he : o.after[j]? = some e) (hb : Region.binds md e = true) : listed.getD e.on false = true := by
  obtain ⟨_, o', ho', hall⟩ := mem_ready.1 hi
  rw [ho] at ho'
  injection ho' with ho'
  subst ho'
  exact hall e (Array.mem_of_getElem? he) hb
/-- where nothing may come up any more, number i has come up, if what it waits for has -/
theorem ready_end {listed : Array Bool} (hr : Region.ready md ops listed = []) {i : Nat} {o : Oper} (ho : ops[i]? = some o) (hd : (o.after.all fun e => !Region.binds md e || listed.getD e.on false) = true) : listed.getD i true = true := by
  cases h : listed.getD i true
  · have hm : i ∈ Region.ready md ops listed := mem_ready.2 ⟨h, o, ho, fun e he hb => by
      have h2 := Array.all_eq_true_iff_forall_mem.1 hd e he
      rw [hb] at h2
      simpa using h2⟩
    rw [hr] at hm
    cases hm
  · rfl
theorem ready_lt {listed : Array Bool} {i : Nat} (hi : i ∈ Region.ready md ops listed) : i < ops.size ∧ listed.getD i true = false := by
  obtain ⟨h0, o', ho', _⟩ := mem_ready.1 hi
  exact ⟨(Array.getElem?_eq_some_iff.1 ho').1, h0⟩
/-- from what is known when this much has come up, by an invariant -/
theorem wpAnyT_inv {I : Act → Array Bool → Act → World → Prop} {a0 : Act} (hsz : ∀ listed a w, I a0 listed a w → listed.size = ops.size) (hT : ∀ listed a w, I a0 listed a w → T w)
    (hstep : ∀ listed a w, I a0 listed a w → ∀ i ∈ Region.ready md ops listed, wpOp P ops Q i (I a0 (listed.setIfInBounds i true)) a w)
    (hend : ∀ listed a w, I a0 listed a w → Region.ready md ops listed = [] → Q .normal a w) :
    ∀ (fuel : Nat) (listed : Array Bool) (a : Act) (w : World), left ops.size listed ≤ fuel → I a0 listed a w → wpAnyT P md ops Q T sp fuel listed a w := by
  intro fuel
  induction fuel with
  | zero =>
    intro listed a w hf hI
    have hr : Region.ready md ops listed = [] := ready_nil fun i hi => by
      unfold left at hf
      have h0 := List.countP_eq_zero.1 (Nat.le_zero.1 hf) i (List.mem_range.2 hi)
      cases h : listed.getD i true
      · rw [h] at h0; exact absurd rfl h0
      · rfl
    exact ⟨hr, hend listed a w hI hr⟩
  | succ fuel ih =>
    intro listed a w hf hI
    refine ⟨fun hr => hend listed a w hI hr, fun i hi => wpOp_mono (fun a' w' h => ⟨fun _ => hT _ _ _ h, ih _ a' w' ?_ h⟩) (hstep listed a w hI i hi)⟩
    obtain ⟨h0, o, ho, _⟩ := mem_ready.1 hi
    have := left_set (Array.getElem?_eq_some_iff.1 ho).1 (hsz _ _ _ hI) h0
    omega
/-- the same at a goal: what has come up as the text has it -/
theorem wpAnyT_by {I : Act → Array Bool → Act → World → Prop} {fuel : Nat} {listed : Array Bool} {a0 : Act} {w : World} (hf : left ops.size listed ≤ fuel) (h0 : I a0 listed a0 w)
    (hsz : ∀ listed a w, I a0 listed a w → listed.size = ops.size) (hT : ∀ listed a w, I a0 listed a w → T w)
    (hstep : ∀ listed a w, I a0 listed a w → ∀ i ∈ Region.ready md ops listed, wpOp P ops Q i (I a0 (listed.setIfInBounds i true)) a w)
    (hend : ∀ listed a w, I a0 listed a w → Region.ready md ops listed = [] → Q .normal a w) : wpAnyT P md ops Q T sp fuel listed a0 w := wpAnyT_inv hsz hT hstep hend fuel listed a0 w hf h0
end
end Go.Proofs.Ythdkkdgjcfjinaa.k
