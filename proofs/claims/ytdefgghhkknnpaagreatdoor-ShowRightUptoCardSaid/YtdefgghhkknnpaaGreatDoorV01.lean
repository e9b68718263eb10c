/- The document's text of a program, and what is one, as functions of trees. No condition. -/
import Derived.Test.YtdefgghhkknnpaaGreatDoorU07
import Derived.Lib.ItoaNum
import Derived.Test.YtdefgghhkknnpaaGreatDoorU06
namespace Go.Proofs.YtdefgghhkknnpaaGreatDoor.sh
open Go.ChangeShapes Go.WideShapes Go.ChangeAt Go.RowKit Go.Proofs.YtdefgghhkknnpaaGreatDoor.k Go.Proofs.YtdefgghhkknnpaaGreatDoor.rr Go.Proofs.YtdefgghhkknnpaaGreatDoor.tk Go.Proofs.YtdefgghhkknnpaaGreatDoor.tr
set_option linter.unusedVariables false
set_option linter.unusedSimpArgs false

/-- a name that is no word -/
def nmB (s : Str) : Bool := match s with
  | [] => false
  | c :: _ => alphaB c && (s.all bodyB && (decide (s.length ≤ 16) && !isWord s))
/-- of an expression's kind: the greatest number, whether there are a name, a field, how many expressions in it -/
def mostE (op : Int) : Int := if op = 1 then 9223372036854775807 else if op = 2 then 1 else 0
def namedE (op : Int) : Bool := op == 3 || (op == 4 || op == 5)
def fieldE (op : Int) : Bool := op == 5
def subsE (op : Int) : Nat := if op = 4 ∨ op = 6 ∨ op = 7 then 1 else if 8 ≤ op then 2 else 0
def nameB (there : Bool) (s : Str) : Bool := if there = true then nmB s else s == []
def exOk (op n : Int) (nm fd : Str) (k : Nat) : Bool := (decide (1 ≤ op) && decide (op ≤ 21)) && (decide (0 ≤ n) && (decide (n ≤ mostE op) && (nameB (namedE op) nm && (nameB (fieldE op) fd && k == subsE op))))
mutual
def exB : Ex → Bool
  | .mk op n nm fd sub _ => exOk op n nm fd sub.length && exsB sub
def exsB : List Ex → Bool
  | [] => true
  | x :: l => exB x && exsB l
end
/-- an expression that isn't there -/
def noE : Ex → Bool
  | .mk op n nm fd sub _ => op == 0 && (n == 0 && (nm == [] && (fd == [] && sub.length == 0)))
def opE : Ex → Int
  | .mk op _ _ _ _ _ => op
def placeB (x : Ex) : Bool := (opE x == 3 || opE x == 4) && exB x
/-- the parts of a statement: name, place, value, conditions, labels, fields, blocks -/
structure Pt where
  nm : Nat
  dst : Nat
  val : Nat
  cs : Nat
  ls : Nat
  fs : Nat
  bs : Nat
deriving DecidableEq
def elseB (h a : Pt) : Bool := decide (h = a) || decide (h = { a with bs := a.bs + 1 })
def stOk (op : Int) (h : Pt) : Bool :=
  if op = 1 then decide (h = ⟨0, 1, 1, 0, 0, 0, 0⟩)
  else if op = 2 then decide (0 < h.cs) && elseB h ⟨0, 0, 0, h.cs, 0, 0, h.cs⟩
  else if op = 3 then elseB h ⟨0, 0, 1, 0, h.ls, 0, h.ls⟩
  else if op = 4 then decide (h = ⟨1, 0, 0, 3, 0, 0, 1⟩)
  else if op = 5 ∨ op = 6 then decide (h = ⟨0, 0, 1, 0, 0, 0, 1⟩)
  else if op = 7 ∨ op = 8 then decide (h = ⟨0, 0, 0, 0, 0, 0, 0⟩)
  else if op = 9 then decide (h = ⟨1, 0, 0, h.cs, 0, h.cs, 0⟩)
  else false
def oneIf (b : Bool) : Nat := if b = true then 1 else 0
def labB (l : List Int) : Bool := decide (0 < l.length) && (l.length % 2 == 0 && l.all (fun n => n != -9223372036854775808))
mutual
def stB : St → Bool
  | .mk op nm dst val conds labels fields blocks _ =>
    stOk op ⟨oneIf (nm != []), oneIf (!noE dst), oneIf (!noE val), conds.length, labels.length, fields.length, blocks.length⟩ &&
    ((nm == [] || nmB nm) && ((noE dst || placeB dst) && ((noE val || exB val) && (exsB conds && (labels.all labB && (fields.all nmB && blksB blocks))))))
def stsB : List St → Bool
  | [] => true
  | x :: l => stB x && stsB l
def blksB : List (List St) → Bool
  | [] => true
  | x :: l => stsB x && blksB l
end
def typeB (v : Va) : Bool :=
  if v.array = true then (v.type == 1 || v.type == 2) && (decide (0 ≤ v.lo) && (decide (v.lo ≤ v.hi) && (decide (v.hi ≤ 255) && v.init == 0)))
  else if v.lo ≠ 0 ∨ v.hi ≠ 0 then false
  else if v.type = 1 then v.init != -9223372036854775808
  else if v.type = 2 then v.init == 0 || v.init == 1
  else (kinds.any fun k => k.2 == v.type) && v.init == 0
def vaB (v : Va) : Bool := nmB v.name && ((v.sect == 0 || (v.sect == 1 || v.sect == 2)) && typeB v)
def pgB (p : Pg) : Bool := nmB p.name && (decide (p.vars.length ≤ 64) && (p.vars.all vaB && stsB p.body))
/-- the texts -/
def numS (n : Int) : Str := Lib.itoa n
def truthS (n : Int) : Str := if n = 0 then [70, 65, 76, 83, 69] else [84, 82, 85, 69]
def opS (op : Int) : Str :=
  if op = 8 then [43] else if op = 9 then [45] else if op = 10 then [42] else if op = 11 then [47] else if op = 12 then [77, 79, 68]
  else if op = 13 then [61] else if op = 14 then [60, 62] else if op = 15 then [60] else if op = 16 then [62] else if op = 17 then [60, 61] else if op = 18 then [62, 61]
  else if op = 19 then [65, 78, 68] else if op = 20 then [88, 79, 82] else if op = 21 then [79, 82] else []
def exT (op n : Int) (nm fd : Str) (T : List Str) : Str :=
  if op = 1 then numS n else if op = 2 then truthS n else if op = 3 then nm
  else if op = 4 then nm ++ [91] ++ T.headD [] ++ [93]
  else if op = 5 then nm ++ [46] ++ fd
  else if op = 6 then [40, 45] ++ T.headD [] ++ [41]
  else if op = 7 then [40, 78, 79, 84, 32] ++ T.headD [] ++ [41]
  else [40] ++ T.headD [] ++ ([32] ++ opS op ++ [32]) ++ (T.drop 1).headD [] ++ [41]
mutual
def exS : Ex → Str
  | .mk op n nm fd sub _ => exT op n nm fd (exsS sub)
def exsS : List Ex → List Str
  | [] => []
  | x :: l => exS x :: exsS l
end
def elseT : List Str → Str
  | [] => []
  | b :: l => [69, 76, 83, 69, 10] ++ b ++ elseT l
/-- IF and ELSIF parts, ELSE parts -/
def ifT (word : Str) : List Str → List Str → Str
  | [], bs => elseT bs
  | c :: cs, bs => word ++ c ++ [32, 84, 72, 69, 78, 10] ++ bs.headD [] ++ ifT [69, 76, 83, 73, 70, 32] cs (bs.drop 1)
/-- the pairs of a label's numbers; more: behind another one -/
def labT : Bool → List Int → Str
  | m, a :: b :: l => (if m = true then [44, 32] else []) ++ numS a ++ (if b = a then [] else [46, 46] ++ numS b) ++ labT true l
  | _, _ => [58, 10]
def caseT : List (List Int) → List Str → Str
  | [], bs => elseT bs
  | l :: ls, bs => labT false l ++ bs.headD [] ++ caseT ls (bs.drop 1)
def argT : Bool → List Str → List Str → Str
  | m, f :: fs, cs => (if m = true then [44, 32] else []) ++ (f ++ [32, 58, 61, 32]) ++ cs.headD [] ++ argT true fs (cs.drop 1)
  | _, [], _ => []
def stT (op : Int) (nm dst val : Str) (cs : List Str) (ls : List (List Int)) (fs bs : List Str) : Str :=
  if op = 1 then dst ++ [32, 58, 61, 32] ++ val ++ [59, 10]
  else if op = 2 then ifT [73, 70, 32] cs bs ++ [69, 78, 68, 95, 73, 70, 59, 10]
  else if op = 3 then [67, 65, 83, 69, 32] ++ val ++ [32, 79, 70, 10] ++ caseT ls bs ++ [69, 78, 68, 95, 67, 65, 83, 69, 59, 10]
  else if op = 4 then [70, 79, 82, 32] ++ nm ++ [32, 58, 61, 32] ++ cs.headD [] ++ [32, 84, 79, 32] ++ (cs.drop 1).headD [] ++ [32, 66, 89, 32] ++ (cs.drop 2).headD [] ++ [32, 68, 79, 10] ++ bs.headD [] ++ [69, 78, 68, 95, 70, 79, 82, 59, 10]
  else if op = 5 then [87, 72, 73, 76, 69, 32] ++ val ++ [32, 68, 79, 10] ++ bs.headD [] ++ [69, 78, 68, 95, 87, 72, 73, 76, 69, 59, 10]
  else if op = 6 then [82, 69, 80, 69, 65, 84, 10] ++ bs.headD [] ++ [85, 78, 84, 73, 76, 32] ++ val ++ [32, 69, 78, 68, 95, 82, 69, 80, 69, 65, 84, 59, 10]
  else if op = 7 then [69, 88, 73, 84, 59, 10]
  else if op = 8 then [82, 69, 84, 85, 82, 78, 59, 10]
  else nm ++ [40] ++ argT false fs cs ++ [41, 59, 10]
mutual
def stS : St → Str
  | .mk op nm dst val conds labels fields blocks _ => stT op nm (exS dst) (exS val) (exsS conds) labels fields (blksS blocks)
def stsS : List St → Str
  | [] => []
  | x :: l => stS x ++ stsS l
def blksS : List (List St) → List Str
  | [] => []
  | x :: l => stsS x :: blksS l
end
def secS (n : Int) : Str := if n = 0 then [86, 65, 82] else if n = 1 then [86, 65, 82, 95, 73, 78, 80, 85, 84] else if n = 2 then [86, 65, 82, 95, 79, 85, 84, 80, 85, 84] else []
def plainS (n : Int) : Str := if n = 1 then [73, 78, 84] else if n = 2 then [66, 79, 79, 76] else []
def kindS (n : Int) : Str := match kinds.find? (fun k => k.2 == n) with
  | some k => k.1
  | none => []
def typeS (v : Va) : Str :=
  if v.array = true then [65, 82, 82, 65, 89, 91] ++ numS v.lo ++ [46, 46] ++ numS v.hi ++ [93, 32, 79, 70, 32] ++ plainS v.type
  else if v.type = 1 then plainS v.type ++ [32, 58, 61, 32] ++ numS v.init
  else if v.type = 2 then plainS v.type ++ [32, 58, 61, 32] ++ truthS v.init
  else kindS v.type
def vaS (v : Va) : Str := secS v.sect ++ [10] ++ (v.name ++ [32, 58, 32] ++ typeS v ++ [59, 10]) ++ [69, 78, 68, 95, 86, 65, 82, 10]
def vasS : List Va → Str
  | [] => []
  | v :: l => vaS v ++ vasS l
def pgS (p : Pg) : Str := [80, 82, 79, 71, 82, 65, 77, 32] ++ p.name ++ [10] ++ vasS p.vars ++ stsS p.body ++ [69, 78, 68, 95, 80, 82, 79, 71, 82, 65, 77, 10]
/-- what Show answers: the text, the error -/
def showP (p : Pg) : Str × Int := if pgB p = true then (if 16384 < (pgS p).length then ([], 13) else (pgS p, 0)) else ([], 5)
/-- the fixed answer's program and text -/
def awakeP : Pg := ⟨[112], [], [.mk 1 [] (.mk 3 0 [97] [] [] 0) (.mk 8 0 [] [] [.mk 1 1 [] [] [] 0, .mk 6 0 [] [] [.mk 3 0 [98] [] [] 0] 0] 0) [] [] [] [] 0]⟩
end Go.Proofs.YtdefgghhkknnpaaGreatDoor.sh

/- The landed isName: it tells whether a text is just one name. Condition: the library's variable MaxLen holds some number. -/
namespace Go.Proofs.YtdefgghhkknnpaaGreatDoor.sh
open Go.ChangeShapes Go.WideShapes Go.ChangeAt Go.RowKit Go.Proofs.YtdefgghhkknnpaaGreatDoor.k Go.Proofs.YtdefgghhkknnpaaGreatDoor.rr Go.Proofs.YtdefgghhkknnpaaGreatDoor.tk Go.Proofs.YtdefgghhkknnpaaGreatDoor.tr
set_option linter.unusedVariables false
set_option linter.unusedSimpArgs false

theorem two_new (w : World) (c1 c2 : Array Value) (t1 t2 : TypeId) : ∃ W, (w.alloc (.cells c1 t1)).alloc (.cells c2 t2) = W ∧ Box W w.heap.size 0 c1.toList ∧ Box W (w.heap.size + 1) 0 c2.toList ∧ Below w.heap.size w W ∧ W.heap.size = w.heap.size + 1 + 1 := by
 have z1 : (w.alloc (.cells c1 t1)).heap.size = w.heap.size + 1 := by simp
 have b1 := (Below.refl w.heap.size w).alloc (Nat.le_refl _) (.cells c1 t1)
 have b2 := (Below.refl (w.alloc (.cells c1 t1)).heap.size _).alloc (Nat.le_refl _) (.cells c2 t2)
 have x1 := Box.new w c1 t1
 have x2 := Box.new (w.alloc (.cells c1 t1)) c2 t2
 rw [z1] at b2 x2
 exact ⟨_, rfl, x1.below b2 (by omega), x2, b1.trans (b2.mono (by omega)), by simp⟩
theorem bodyLen_all : ∀ {l : List UInt8}, l.all bodyB = true → bodyLen l = l.length
  | [], _ => rfl
  | c :: l, h => by
    rw [List.all_cons, Bool.and_eq_true] at h
    rw [bodyLen, if_pos h.1, bodyLen_all h.2, List.length_cons]
theorem all_bodyLen : ∀ {l : List UInt8}, bodyLen l = l.length → l.all bodyB = true
  | [], _ => rfl
  | c :: l, h => by
    rw [bodyLen] at h
    split at h
    · rename_i hc
      rw [List.length_cons] at h
      rw [List.all_cons, hc, all_bodyLen (by omega)]
      rfl
    · rw [List.length_cons] at h
      omega
theorem alpha_past {c : UInt8} {l : List UInt8} (h : alphaB c = true) : past (c :: l) = (true, c :: l) := by
  have hc : ¬ (c = 32 ∨ c = 10 ∨ c = 9) ∧ (c == 47) = false ∧ (c == 40) = false := by
    refine ⟨?_, ?_, ?_⟩
    · rintro (rfl | rfl | rfl) <;> exact absurd h (by decide)
    · rw [beq_eq_false_iff_ne]; rintro rfl; exact absurd h (by decide)
    · rw [beq_eq_false_iff_ne]; rintro rfl; exact absurd h (by decide)
  have t1 : two (c :: l) 47 47 = false := by cases l <;> simp [two, hc.2.1]
  have t2 : two (c :: l) 40 42 = false := by cases l <;> simp [two, hc.2.2]
  unfold past
  rw [List.length_cons, pastF, if_neg hc.1, t1, t2]
  simp
/-- of a name the first sign is the name -/
theorem nm_sgn {s : Str} (h : nmB s = true) : past s = (true, s) ∧ s ≠ [] ∧ sgn s = (0, 1, 0, s.length) ∧ s.length ≤ 16 := by
  cases s with
  | nil => exact absurd h (by decide)
  | cons c l =>
    simp only [nmB, Bool.and_eq_true, decide_eq_true_eq, Bool.not_eq_true'] at h
    obtain ⟨h1, h2, h3, h4⟩ := h
    have hb := bodyLen_all h2
    refine ⟨alpha_past h1, by simp, ?_, h3⟩
    rw [← hb]
    exact sgn_name h1 (by rw [hb, List.take_length]; exact h4) (by omega)
theorem sgn_nm {s : Str} {v n : Nat} (h : sgn s = (0, 1, v, n)) (hn : n = s.length) : nmB s = true := by
  cases s with
  | nil => simp [sgn] at h
  | cons c l =>
    unfold sgn at h
    simp only at h
    split at h
    · rename_i hc
      split at h
      · injection h with _ h
        injection h with h _
        exact absurd h (by decide)
      · rename_i hw
        split at h
        · injection h with h _
          exact absurd h (by decide)
        · rename_i h16
          injection h with _ h
          injection h with _ h
          injection h with _ h
          rw [hn] at h
          simp only [nmB, Bool.and_eq_true, decide_eq_true_eq, Bool.not_eq_true']
          rw [h, List.take_length] at hw
          exact ⟨hc, all_bodyLen h, by omega, by simpa using hw⟩
    · split at h
      · split at h
        · injection h with _ h
          injection h with h _
          exact absurd h (by decide)
        · rename_i hx
          injection h with h _
          exact absurd h hx
      · split at h
        · injection h with h _
          exact absurd h (by decide)
        · injection h with _ h
          injection h with h _
          exact absurd h (by decide)
/-- the signs of what is just one name -/
def oneNm (M : List Tk) (s : Str) : Bool := match M with
  | [t, _] => t.kind == 1 && t.text == s
  | _ => false
theorem one_nm (s : Str) : oneNm (lex s).2.1 s = nmB s := by
  unfold lex
  by_cases hl : 16384 < s.length
  · rw [if_pos hl]
    cases h : nmB s with
    | false => rfl
    | true => have := (nm_sgn h).2.2.2; omega
  rw [if_neg hl]
  cases h : nmB s with
  | true =>
    obtain ⟨h1, h2, h3, h4⟩ := nm_sgn h
    have hne : s.length ≠ 0 := fun e => h2 (List.eq_nil_of_length_eq_zero e)
    obtain ⟨n, hn⟩ : ∃ n, s.length = n + 1 := ⟨s.length - 1, by omega⟩
    rw [lexF_tok (by rw [h1]) (by rw [h1]; exact h2) (by rw [h1, h3])]
    rw [h1]
    simp only [h3]
    rw [List.drop_length, List.take_length, hn, lexF_end (by rfl) (by rfl)]
    simp [oneNm]
  | false =>
    rw [show oneNm (lexF s (s.length + 1) s []).2.1 s = false from ?_]
    cases hp : (past s).1 with
    | false => rw [lexF_bad hp]; rfl
    | true =>
      by_cases he : (past s).2 = []
      · rw [lexF_end hp he]; rfl
      by_cases hx : (sgn (past s).2).1 = 0
      rotate_left
      · rw [lexF_err hp he hx]; rfl
      rw [lexF_tok hp he hx]
      obtain ⟨q, hq⟩ : ∃ q, (past s).2 = q := ⟨_, rfl⟩
      have hsuf : q <:+ s := hq ▸ pastF_suf (s.length + 1) s
      rw [hq] at hx ⊢
      obtain ⟨⟨e, k, v, n⟩, hs⟩ : ∃ r, sgn q = r := ⟨_, rfl⟩
      rw [hs] at hx ⊢
      simp only at hx ⊢
      subst hx
      have key : ∀ (f : Nat) (r : Str) (acc : List Tk), (lexF s f r acc).2.1 = [] ∨ ∃ M', (lexF s f r acc).2.1 = acc ++ M' := by
        intro f
        induction f with
        | zero => intro r acc; exact .inl rfl
        | succ f ih =>
          intro r acc
          cases hp : (past r).1 with
          | false => rw [lexF_bad hp]; exact .inl rfl
          | true =>
            by_cases he : (past r).2 = []
            · rw [lexF_end hp he]; exact .inr ⟨_, rfl⟩
            by_cases hx : (sgn (past r).2).1 = 0
            rotate_left
            · rw [lexF_err hp he hx]; exact .inl rfl
            rw [lexF_tok hp he hx]
            rcases ih ((past r).2.drop (sgn (past r).2).2.2.2) (acc ++ [⟨(sgn (past r).2).2.1, (past r).2.take (sgn (past r).2).2.2.2, (sgn (past r).2).2.2.1, (plAt s (past r).2).1, (plAt s (past r).2).2⟩]) with h | ⟨M', h⟩
            · exact .inl h
            · exact .inr ⟨_, by rw [h, List.append_assoc]⟩
      rcases key s.length (q.drop n) ([] ++ [⟨k, q.take n, v, (plAt s q).1, (plAt s q).2⟩]) with h' | ⟨M', h'⟩
      · rw [h']; rfl
      · rw [h', List.nil_append, List.singleton_append]
        cases M' with
        | nil => rfl
        | cons t M' =>
          cases M' with
          | cons _ _ => rfl
          | nil =>
            simp only [oneNm]
            by_cases hk : k = 1
            rotate_left
            · have : (k == 1) = false := by simpa using hk
              rw [this]; rfl
            by_cases ht : q.take n = s
            rotate_left
            · have : (q.take n == s) = false := by simpa using ht
              rw [this, Bool.and_false]
            exfalso
            have h1 := hsuf.length_le
            have h2 : (q.take n).length = s.length := by rw [ht]
            rw [List.length_take] at h2
            have hqs : q = s := hsuf.eq_of_length (by omega)
            subst hqs hk
            have h3 : n = q.length := by
              have := sgn_len hs
              omega
            rw [sgn_nm hs h3] at h
            exact absurd h (by decide)
theorem one_len {M : List Tk} {s : Str} (h : M.length ≠ 2) : oneNm M s = false := by
  match M, h with
  | [], _ => rfl
  | [_], _ => rfl
  | [_, _], h => exact absurd rfl h
  | _ :: _ :: _ :: _, _ => rfl
set_option maxRecDepth 100000 in
set_option maxHeartbeats 4000000 in
/-- Lex of any text: too long ones, too -/
theorem lex_free (s : ByteArray) (w : World) (hM : MaxL w) : Calls Tryz.prog 23 #[.string s] w (GotB s w) := by
  by_cases hlong : 16384 < s.size
  rotate_left
  · exact lex_any s (by omega) w hM
  have x4 := Box.new w #[.int .i64 0, .string ⟨#[]⟩, .int .i64 0, .int .i64 0, .int .i64 0] 34
  have x5 := Box.new (w.alloc (.cells #[.int .i64 0, .string ⟨#[]⟩, .int .i64 0, .int .i64 0, .int .i64 0] 34)) #[.string s, .int .i64 1, .int .i64 1] 95
  obtain ⟨w5, e5, y4, y5, b5, z5⟩ := two_new w #[.int .i64 0, .string ⟨#[]⟩, .int .i64 0, .int .i64 0, .int .i64 0] #[.string s, .int .i64 1, .int .i64 1] 34 95
  have X5 := Lib.hid y4
  have R5 := Lib.hid (rdr_start y5)
  have B5 := Lib.hid b5
  have Z5 := Lib.hid z5
  clear x4 x5 y4 y5 b5 z5 hM
  have HL : Hid (lex s.data.toList = (13, [], atP (1, 1))) := Lib.hid (by
    unfold lex
    rw [size_len, if_pos hlong])
  have hlz : (16384 : Int) < s.size := by omega
  clear hlong
  go_enter Tryz.func23, Tryz.ntmps23
  go_upto_region 2 with (fail)
  clear e5
  go_wp2_with (go_at_call 44; fail)
  with_reducible refine (rplace_any s 0 (w.heap.size + 1) w5 R5.out).mono ?_
  rintro e w6 ⟨rfl, hb⟩
  have X6 := Lib.hid (X5.out.below hb (by have := Z5.out; omega))
  have B6 := Lib.hid (B5.out.trans (hb.mono B5.out.size))
  clear hb
  have ⟨c0, f0, c1, f1, c2, f2, c3, f3, c4, f4, _⟩ := X6.out
  go_wp2_with fail
  obtain ⟨y, _, hB2⟩ := Box.puts (us := [.int .i64 0, .string ⟨#[]⟩, .int .i64 0, .int .i64 (plS s 0).1, .int .i64 (plS s 0).2]) X6.out rfl
  refine bodyPost_ret (results_ttc rfl rfl (run_loadVar_mid _ w.heap.size 0 34 _ _ y.range rfl rfl (by kernel_rfl))) rfl ?_
  refine ⟨none, 0, 0, ?_, ?_, B6.out.trans (hB2 _ (Nat.le_refl _)), fun q e => by cases e⟩
  · rw [HL.out]; rfl
  · rw [HL.out]; exact Rd.none_ _ _ _ _
set_option maxRecDepth 100000 in
set_option maxHeartbeats 4000000 in
/-- whether a text is just one name -/
theorem isName_any (s : ByteArray) (w : World) (hM : MaxL w) : Calls Tryz.prog 31 #[.string s] w fun e w' => e = .returned (.bool (nmB s.data.toList)) ∧ Below w.heap.size w w' := by
  have LX := Lib.hid (lex_free s w hM)
  clear hM
  rw [← one_nm]
  go_enter Tryz.func31, Tryz.ntmps31
  go_wp2_with (go_at_call 23; fail)
  refine LX.out.mono ?_
  rintro e w1 ⟨A, n, c, rfl, hR, hb, _⟩
  clear LX
  obtain ⟨R, hLR⟩ : ∃ R, lex s.data.toList = R := ⟨_, rfl⟩
  rw [hLR] at hR ⊢
  obtain ⟨er, M, ⟨pk, pt, pn, pl, pc⟩⟩ := R
  have HLR := Lib.hid (show (lex s.data.toList).2.1 = M by rw [hLR])
  clear hLR
  have hR : rr.Rd tC 5 w1 w1.heap.size A n c M := hR
  rw [show (tC ⟨pk, pt, pn, pl, pc⟩).toArray = #[.int .i64 pk, .string ⟨pt.toArray⟩, .int .i64 pn, .int .i64 pl, .int .i64 pc] from rfl]
  have hn := hR.1
  have RX := Lib.hid hR
  have B1 := Lib.hid hb
  clear hb
  by_cases h2 : n = 2
  rotate_left
  · have hz : ((n : Int) == 2) = false := by rw [beq_eq_false_iff_ne]; omega
    have HF := Lib.hid (one_len (s := s.data.toList) (show M.length ≠ 2 by omega))
    have B2 := Lib.hid (B1.out.trans (((Below.refl w1.heap.size w1).alloc (Nat.le_refl _) (.cells #[.int .i64 pk, .string ⟨pt.toArray⟩, .int .i64 pn, .int .i64 pl, .int .i64 pc] 34)).mono B1.out.size))
    clear hR hn h2
    go_wp2_with fail
    go_ret
    exact ⟨ret_bool (by rw [HLR.out]; exact HF.out.symm), B2.out⟩
  subst h2
  match M, hn, RX, HLR with
  | [t, u], hn, RX, HLR =>
    obtain ⟨b1, o1, x, rfl, hb1, hp, hc1⟩ := RX.out.at (i := 0) (by omega)
    obtain rfl : t = x := by simpa using hp
    obtain ⟨tk, tt, tn, tl, tcl⟩ := t
    have a0 := hc1 0 _ rfl
    have a1 := hc1 1 _ rfl
    simp only [Nat.zero_mul, Nat.add_zero] at a0 a1
    have hz : ((2 : Int) == 2) = true := rfl
    have hbb := (Below.refl w1.heap.size w1).alloc (Nat.le_refl _) (.cells #[.int .i64 pk, .string ⟨pt.toArray⟩, .int .i64 pn, .int .i64 pl, .int .i64 pc] 34)
    have B2 := Lib.hid (B1.out.trans (hbb.mono B1.out.size))
    have d0 := (hbb.cell (p := ⟨b1, o1, none⟩) hb1).trans a0
    have d1 := (hbb.cell (p := ⟨b1, o1 + 1, none⟩) hb1).trans a1
    obtain ⟨xs, hxs⟩ : ∃ z, (⟨tt.toArray⟩ : ByteArray) = z := ⟨_, rfl⟩
    obtain ⟨v1, hv1⟩ : ∃ u, (tk == 1) = u := ⟨_, rfl⟩
    obtain ⟨v2, hv2⟩ : ∃ u, (tt == s.data.toList) = u := ⟨_, rfl⟩
    have t3 : (xs.toList == s.toList) = v2 := by rw [← hxs, ByteArray.toList_eq, ByteArray.toList_eq]; exact hv2
    have HF := Lib.hid (show oneNm [⟨tk, tt, tn, tl, tcl⟩, u] s.data.toList = (v1 && v2) by simp only [oneNm]; rw [hv1, hv2])
    try simp only at a0 a1 d0 d1
    rw [hxs] at a1 d1
    clear hR hc1 hp hbb hv2 hxs hb1 RX
    cases v1
    · go_wp2_with fail
      go_ret
      exact ⟨ret_bool (by rw [HLR.out, HF.out]; rfl), B2.out⟩
    · go_wp2_with fail
      go_ret
      exact ⟨ret_bool (by rw [HLR.out, HF.out]; rfl), B2.out⟩
end Go.Proofs.YtdefgghhkknnpaaGreatDoor.sh
