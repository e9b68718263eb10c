/- The document's table of the layer std as it lies in memory. No condition but what each line says. -/
import Derived.Test.YtdefgghhkknnpaaGreatDoorU11
import Derived.Test.YtdefgghhkknnpaaGreatDoorShRiG
namespace Go.Proofs.YtdefgghhkknnpaaGreatDoor.sd
open Go.ChangeShapes Go.WideShapes Go.ChangeAt Go.RowKit Go.Proofs.YtdefgghhkknnpaaGreatDoor.k Go.Proofs.YtdefgghhkknnpaaGreatDoor.rr
set_option linter.unusedVariables false
set_option linter.unusedSimpArgs false

/-- each row with the block of its pins' names -/
def rowsFrom : List Rw → Nat → List (Rw × Nat)
  | [], _ => []
  | r :: l, b => (r, b) :: rowsFrom l (b + 1)
def rC (p : Rw × Nat) : List Value := [.int .i64 p.1.kind, .string p.1.name, .string p.1.pins, .slice (some ⟨p.2, 0, none⟩) p.1.its.length p.1.its.length]
def sC (s : ByteArray) : List Value := [.string s]
def layAll (t : TypeId) : World → List Rw → World
  | w, [] => w
  | w, r :: l => layAll t (w.alloc (.cells (r.its.map fun s => .string s).toArray t)) l
theorem layAll_size (t : TypeId) : ∀ (l : List Rw) (w : World), (layAll t w l).heap.size = w.heap.size + l.length
  | [], w => rfl
  | r :: l, w => by rw [layAll, layAll_size t l]; simp; omega
theorem layAll_below (t : TypeId) : ∀ (l : List Rw) (w : World), Below w.heap.size w (layAll t w l)
  | [], w => Below.refl _ _
  | r :: l, w => by
    rw [layAll]
    exact ((Below.refl _ _).alloc (Nat.le_refl _) _).trans ((layAll_below t l _).mono (by simp))
theorem rowsFrom_len : ∀ (l : List Rw) (b : Nat), (rowsFrom l b).length = l.length
  | [], _ => rfl
  | r :: l, b => by rw [rowsFrom, List.length_cons, List.length_cons, rowsFrom_len l]
theorem rowsFrom_at : ∀ (l : List Rw) (b i : Nat) (p : Rw × Nat), (rowsFrom l b)[i]? = some p → l[i]? = some p.1 ∧ p.2 = b + i
  | [], _, _, _, h => by simp [rowsFrom] at h
  | r :: l, b, 0, p, h => by
    have h : (r, b) = p := by simpa [rowsFrom] using h
    subst h
    simp
  | r :: l, b, i + 1, p, h => by
    obtain ⟨h1, h2⟩ := rowsFrom_at l (b + 1) i p (by simpa [rowsFrom] using h)
    exact ⟨by simpa using h1, by omega⟩
/-- strings in a new block -/
theorem strs_new (w : World) (t : TypeId) (L : List ByteArray) (hm : L.length ≤ 1000) : Rd sC 1 (w.alloc (.cells (L.map fun s => .string s).toArray t)) (w.heap.size + 1) (some ⟨w.heap.size, 0, none⟩) L.length L.length L :=
  ⟨rfl, Nat.le_refl _, by unfold maxLen; omega, (fun h => by cases h), fun _ => ⟨_, 0, rfl, by omega, fun i x hx j u hu => by
    have hj : j = 0 := by
      rcases Nat.lt_or_ge j 1 with h | h
      · omega
      · rw [List.getElem?_eq_none (by simpa [sC] using h)] at hu; cases hu
    subst hj
    have hu : Value.string x = u := by simpa [sC] using hu
    subst hu
    rw [World.cell?_alloc_mark]
    simp [hx]⟩⟩
theorem layAll_at (t : TypeId) : ∀ (l : List Rw) (w : World) (i : Nat) (r : Rw), l[i]? = some r → (∀ r ∈ l, r.its.length ≤ 1000) →
    Rd sC 1 (layAll t w l) (layAll t w l).heap.size (some ⟨w.heap.size + i, 0, none⟩) r.its.length r.its.length r.its
  | [], _, _, _, h, _ => by simp at h
  | r :: l, w, 0, r', h, hm => by
    have h : r = r' := by simpa using h
    subst h
    rw [layAll]
    have hb := layAll_below t l (w.alloc (.cells (r.its.map fun s => .string s).toArray t))
    have hs : (w.alloc (.cells (r.its.map fun s => .string s).toArray t)).heap.size = w.heap.size + 1 := by simp
    exact ((strs_new w t r.its (hm r (by simp))).below (hb.mono (by omega))).more (by have := hb.size; omega)
  | r :: l, w, i + 1, r', h, hm => by
    rw [layAll]
    have := layAll_at t l (w.alloc (.cells (r.its.map fun s => .string s).toArray t)) i r' (by simpa using h) fun r hr => hm r (by simp [hr])
    rw [show (w.alloc (.cells (r.its.map fun s => .string s).toArray t)).heap.size + i = w.heap.size + (i + 1) by simp; omega] at this
    exact this
/-- elements in a new block -/
theorem rows_new {α : Type} {enc : α → List Value} {z : Nat} (hz : ∀ x, (enc x).length = z) (w : World) (t : TypeId) (L : List α) (hm : L.length ≤ 1000) : Rd enc z (w.alloc (.cells (L.flatMap enc).toArray t)) (w.heap.size + 1) (some ⟨w.heap.size, 0, none⟩) L.length L.length L :=
  ⟨rfl, Nat.le_refl _, by unfold maxLen; omega, (fun h => by cases h), fun _ => ⟨_, 0, rfl, by omega, fun i x hx j u hu => by
    have hj : j < z := by rw [← hz x]; exact (List.getElem?_eq_some_iff.1 hu).1
    have := flat_at enc z hz L i j x hx hj
    rw [World.cell?_alloc_mark]
    rw [Nat.zero_add]
    simpa [this] using hu⟩⟩
/-- the table as it lies in memory -/
def GotR (w : World) (e : Ending) (w' : World) : Prop :=
  ∃ A, e = .returned (.slice A 21 21) ∧ Rd rC 4 w' w'.heap.size A 21 21 (rowsFrom table w.heap.size) ∧ (∀ i r, table[i]? = some r → Rd sC 1 w' w'.heap.size (some ⟨w.heap.size + i, 0, none⟩) r.its.length r.its.length r.its) ∧ Below w.heap.size w w'
theorem its_all : table.all (fun r => r.its.length ≤ 1000) = true := by kernel_rfl
theorem table_len : table.length = 21 := by kernel_rfl
theorem gotR_of (t t2 : TypeId) (w : World) : GotR w (.returned (.slice (some ⟨(layAll t w table).heap.size, 0, none⟩) 21 21)) ((layAll t w table).alloc (.cells ((rowsFrom table w.heap.size).flatMap rC).toArray t2)) := by
  have hl : (rowsFrom table w.heap.size).length = 21 := by rw [rowsFrom_len, table_len]
  have h := rows_new (enc := rC) (z := 4) (fun _ => rfl) (layAll t w table) t2 (rowsFrom table w.heap.size) (by omega)
  rw [hl] at h
  have hb : Below (layAll t w table).heap.size (layAll t w table) ((layAll t w table).alloc (.cells ((rowsFrom table w.heap.size).flatMap rC).toArray t2)) := (Below.refl _ _).alloc (Nat.le_refl _) _
  refine ⟨_, rfl, h.more (by simp), fun i r hr => ?_, (layAll_below t table w).trans (hb.mono (layAll_below t table w).size)⟩
  have ha := layAll_at t table w i r hr fun r hr => by
    have := List.all_eq_true.1 its_all r hr
    simpa using this
  exact (ha.below hb).more hb.size
set_option maxRecDepth 100000 in
set_option maxHeartbeats 8000000 in
theorem rows_walk (w : World) : Calls Tryz.prog 42 #[] w fun e w' => e = .returned (.slice (some ⟨w.heap.size + 1 + 1 + 1 + 1 + 1 + 1 + 1 + 1 + 1 + 1 + 1 + 1 + 1 + 1 + 1 + 1 + 1 + 1 + 1 + 1 + 1, 0, none⟩) 21 21) ∧ w' = (layAll 9 w table).alloc (.cells ((rowsFrom table w.heap.size).flatMap rC).toArray 92) := by
  go_enter Tryz.func42, Tryz.ntmps42
  go_wp2
  go_ret
  exact ⟨rfl, rfl⟩
theorem rows_any (w : World) : Calls Tryz.prog 42 #[] w (GotR w) := by
  refine (rows_walk w).mono ?_
  rintro e w' ⟨rfl, rfl⟩
  have h := gotR_of 9 92 w
  rwa [show (layAll 9 w table).heap.size = w.heap.size + 1 + 1 + 1 + 1 + 1 + 1 + 1 + 1 + 1 + 1 + 1 + 1 + 1 + 1 + 1 + 1 + 1 + 1 + 1 + 1 + 1 by rw [layAll_size, table_len]] at h
end Go.Proofs.YtdefgghhkknnpaaGreatDoor.sd

/- The document's name of a kind of the layer std. No condition. -/
namespace Go.Proofs.YtdefgghhkknnpaaGreatDoor.sd
open Go.ChangeShapes Go.WideShapes Go.ChangeAt Go.RowKit Go.Proofs.YtdefgghhkknnpaaGreatDoor.k Go.Proofs.YtdefgghhkknnpaaGreatDoor.rr
set_option linter.unusedVariables false
set_option linter.unusedSimpArgs false

theorem drop_at {j : Nat} {r : Rw} (h : table[j]? = some r) : table.drop j = r :: table.drop (j + 1) := by
  obtain ⟨hl, he⟩ := List.getElem?_eq_some_iff.1 h
  rw [← he]
  exact List.drop_eq_getElem_cons hl
set_option maxRecDepth 100000 in
set_option maxHeartbeats 4000000 in
theorem ref_name_any (n : Int) (w : World) : Calls Tryz.prog 20 #[.int .i64 n] w fun e w' => e = .returned (.string (nameOf n)) ∧ Below w.heap.size w w' := by
  have RR := Lib.hid fun W => rows_any W
  go_enter Tryz.func20, Tryz.ntmps20
  go_upto_region 2 with (go_at_call 42; (with_reducible refine (RR.out _).mono ?_); rintro e w1 ⟨A, rfl, hr, _, hb⟩; have HB := Lib.hid hb; have HR := Lib.hid hr; clear hb hr RR)
  obtain ⟨b, off, rfl, hbw, hc⟩ := HR.out.2.2.2.2 (by omega)
  have HC := Lib.hid hc
  have ht := rowsFrom_len table w.heap.size
  have hl := table_len
  clear hc HR
  go_wp2_with fail
  go_loopw [4] (fun i wr => ∃ j : Nat, j ≤ 21 ∧ i = .int .i64 j ∧ nameIn (table.drop j) n = nameOf n ∧ wr = w1) (fun i _ => 21 - (intOf i).toNat)
  case atStart => exact ⟨0, by omega, rfl, rfl, rfl⟩
  case round =>
    obtain ⟨j, hj, rfl, hn, rfl⟩ := hrel
    by_cases hlt : j < 21
    · obtain ⟨p, hp⟩ : ∃ p, (rowsFrom table w.heap.size)[j]? = some p := ⟨_, List.getElem?_eq_getElem (by rw [ht]; omega)⟩
      have c0 := HC.out j p hp 0 _ rfl
      have c1 := HC.out j p hp 1 _ rfl
      obtain ⟨p1, _⟩ := rowsFrom_at _ _ _ _ hp
      have hd := drop_at p1
      rw [Nat.add_zero] at c0
      obtain ⟨r, h⟩ := p
      rw [hd] at hn
      simp only [nameIn] at hn
      by_cases he : r.kind = n
      · rw [if_pos he] at hn
        have hq : (r.kind == n) = true := by rw [beq_iff_eq]; exact he
        clear he
        go_wp2_with fail
        go_ret
        exact ⟨by rw [← hn]; rfl, HB.out⟩
      · rw [if_neg he] at hn
        have hq : (r.kind == n) = false := by rw [beq_eq_false_iff_ne]; exact he
        clear he
        go_wp2_with fail
        go_roundw
        case rel => exact ⟨j + 1, by omega, by go_num, hn, trivial⟩
        case measure => simp [intOf]; omega
    · have : j = 21 := by omega
      subst this
      go_wp2_with fail
      go_ret
      exact ⟨by rw [← hn]; rfl, HB.out⟩
end Go.Proofs.YtdefgghhkknnpaaGreatDoor.sd
namespace Go.Proofs.YtdefgghhkknnpaaGreatDoor.sh
open Go.ChangeShapes Go.WideShapes Go.ChangeAt Go.RowKit Go.Proofs.YtdefgghhkknnpaaGreatDoor.k Go.Proofs.YtdefgghhkknnpaaGreatDoor.rr Go.Proofs.YtdefgghhkknnpaaGreatDoor.tk Go.Proofs.YtdefgghhkknnpaaGreatDoor.tr
theorem table_all : kindL.all (fun n => decide (sd.nameOf n = ⟨(kindS n).toArray⟩)) = true := by kernel_rfl
theorem table_in : sd.table.all (fun r => kindL.contains r.kind) = true := by kernel_rfl
theorem table_name (n : Int) : sd.nameOf n = ⟨(kindS n).toArray⟩ := by
  by_cases h : n ∈ kindL
  · have := table_all
    rw [List.all_eq_true] at this
    simpa using this n h
  · rw [(kind_none h).2.1]
    have a1 := table_in
    rw [List.all_eq_true] at a1
    have hs : ∀ l : List sd.Rw, (∀ r ∈ l, r.kind ≠ n) → sd.nameIn l n = ⟨#[]⟩ := by
      intro l
      induction l with
      | nil => intro _; rfl
      | cons r l ih =>
        intro hl
        rw [sd.nameIn, if_neg (hl r (List.mem_cons_self ..))]
        exact ih (fun q hq => hl q (List.mem_cons_of_mem _ hq))
    exact hs _ (fun r hr e => h (by have := a1 r hr; rw [List.contains_iff_mem] at this; exact e ▸ this))
/-- the document's name of a kind -/
theorem refkind_any (n : Int) (w : World) : Calls Tryz.prog 20 #[.int .i64 n] w fun e w' => e = .returned (sv (kindS n)) ∧ Below w.heap.size w w' := by
  have := sd.ref_name_any n w
  rw [table_name n] at this
  exact this
end Go.Proofs.YtdefgghhkknnpaaGreatDoor.sh
