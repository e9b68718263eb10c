/- The landed checks of expressions: whether a text could give them. Condition: the library's variable MaxLen holds some number. -/
import Derived.Test.YtdefgghhkknnpaaGreatDoorShAll
namespace Go.Proofs.YtdefgghhkknnpaaGreatDoor.sh
open Go.ChangeShapes Go.WideShapes Go.ChangeAt Go.RowKit Go.Proofs.YtdefgghhkknnpaaGreatDoor.k Go.Proofs.YtdefgghhkknnpaaGreatDoor.rr Go.Proofs.YtdefgghhkknnpaaGreatDoor.tk Go.Proofs.YtdefgghhkknnpaaGreatDoor.tr
set_option linter.unusedVariables false
set_option linter.unusedSimpArgs false

theorem neb {a b : Int} (h : a ≠ b) : (a == b) = false := by rw [beq_eq_false_iff_ne]; exact h
theorem str_no (s : Str) (xs : ByteArray) (h : (⟨s.toArray⟩ : ByteArray) = xs) : (xs.toList == []) = (s == []) := by rw [← h, ByteArray.toList_eq]
theorem sv_list (s : Str) : (⟨s.toArray⟩ : ByteArray).data.toList = s := rfl
set_option maxRecDepth 100000 in
set_option maxHeartbeats 4000000 in
theorem signOf_any (op : Int) (w : World) : Calls Tryz.prog 127 #[.int .i64 op] w fun e w' => e = .returned (sv (opS op)) ∧ w' = w := by
  rcases (show op = 8 ∨ op = 9 ∨ op = 10 ∨ op = 11 ∨ op = 12 ∨ op = 13 ∨ op = 14 ∨ op = 15 ∨ op = 16 ∨ op = 17 ∨ op = 18 ∨ op = 19 ∨ op = 20 ∨ op = 21 ∨ (op < 8 ∨ 21 < op) by omega) with rfl | rfl | rfl | rfl | rfl | rfl | rfl | rfl | rfl | rfl | rfl | rfl | rfl | rfl | h
  rotate_right 1
  · have z8 := neb (show op ≠ 8 by omega)
    have z9 := neb (show op ≠ 9 by omega)
    have z10 := neb (show op ≠ 10 by omega)
    have z11 := neb (show op ≠ 11 by omega)
    have z12 := neb (show op ≠ 12 by omega)
    have z13 := neb (show op ≠ 13 by omega)
    have z14 := neb (show op ≠ 14 by omega)
    have z15 := neb (show op ≠ 15 by omega)
    have z16 := neb (show op ≠ 16 by omega)
    have z17 := neb (show op ≠ 17 by omega)
    have z18 := neb (show op ≠ 18 by omega)
    have z19 := neb (show op ≠ 19 by omega)
    have z20 := neb (show op ≠ 20 by omega)
    have z21 := neb (show op ≠ 21 by omega)
    have HE : Hid (opS op = []) := Lib.hid (by
      unfold opS
      rw [if_neg (by omega), if_neg (by omega), if_neg (by omega), if_neg (by omega), if_neg (by omega), if_neg (by omega), if_neg (by omega), if_neg (by omega), if_neg (by omega), if_neg (by omega), if_neg (by omega), if_neg (by omega), if_neg (by omega), if_neg (by omega)])
    clear h
    go_enter Tryz.func127, Tryz.ntmps127
    go_wp2
    go_ret
    rw [HE.out]
    exact ⟨rfl, rfl⟩
  all_goals
    go_enter Tryz.func127, Tryz.ntmps127
    go_wp2
    go_ret
    exact ⟨rfl, rfl⟩
theorem signed_any (n : Int) (w : World) : Calls Tryz.prog 86 #[.int .i64 n] w fun e w' => e = .returned (.bool (n != -9223372036854775808)) ∧ Below w.heap.size w w' := by
  go_enter Tryz.func86, Tryz.ntmps86
  go_wp2
  go_ret
  exact ⟨rfl, Below.refl _ _⟩
set_option maxRecDepth 100000 in
set_option maxHeartbeats 4000000 in
theorem rightName_any (b : Bool) (s : Str) (w : World) (hM : MaxL w) : Calls Tryz.prog 122 #[sv s, .bool b] w fun e w' => e = .returned (.bool (nameB b s)) ∧ Below w.heap.size w w' := by
  have HI := Lib.hid (isName_any ⟨s.toArray⟩ w hM)
  rw [sv_list] at HI
  unfold sv
  have hs := str_no s _ rfl
  generalize (⟨s.toArray⟩ : ByteArray) = xs at *
  unfold nameB
  clear hM
  cases b
  · rw [if_neg (by decide)]
    generalize (s == []) = u at *
    clear HI
    go_enter Tryz.func122, Tryz.ntmps122
    go_wp2
    go_ret
    exact ⟨rfl, Below.refl _ _⟩
  · rw [if_pos rfl]
    clear hs
    go_enter Tryz.func122, Tryz.ntmps122
    go_wp2_with (go_at_call 31; fail)
    refine HI.out.mono ?_
    rintro e w1 ⟨rfl, hb⟩
    have B1 := Lib.hid hb
    clear hb HI
    go_wp2_with fail
    go_ret
    exact ⟨rfl, B1.out⟩
def inE (op : Int) : Bool := decide (1 ≤ op) && decide (op ≤ 21)
def shC (op : Int) : Array Value := if inE op = true then #[.int .i64 (mostE op), .bool (namedE op), .bool (fieldE op), .int .i64 (subsE op)] else #[.int .i64 0, .bool false, .bool false, .int .i64 0]
theorem inE_if (op : Int) (h : 1 ≤ op ∧ op ≤ 21) : inE op = true := by simp [inE, h.1, h.2]
set_option maxRecDepth 100000 in
set_option maxHeartbeats 4000000 in
theorem shapeOf_any (op : Int) (w : World) : Calls Tryz.prog 121 #[.int .i64 op] w fun e w' => e = .returned (.tuple #[.agg (shC op), .bool (inE op)]) ∧ Below w.heap.size w w' := by
  have HS := Lib.hid fun W => signOf_any op W
  unfold sv at HS
  rcases (show op = 1 ∨ op = 2 ∨ op = 3 ∨ op = 4 ∨ op = 5 ∨ op = 6 ∨ op = 7 ∨ (op < 1 ∨ 7 < op) by omega) with rfl | rfl | rfl | rfl | rfl | rfl | rfl | h
  · clear HS
    go_enter Tryz.func121, Tryz.ntmps121
    go_wp2
    have hx := Box.new w #[.int .i64 9223372036854775807, .bool false, .bool false, .int .i64 0] 161
    have hb := (Below.refl w.heap.size w).alloc (Nat.le_refl _) (.cells #[.int .i64 9223372036854775807, .bool false, .bool false, .int .i64 0] 161)
    refine bodyPost_ret (k.results_cell_tmp rfl rfl (run_loadVar_mid _ w.heap.size 0 161 _ _ hx.range rfl rfl (by kernel_rfl))) rfl ?_
    exact ⟨rfl, hb⟩
  · clear HS
    go_enter Tryz.func121, Tryz.ntmps121
    go_wp2
    have hx := Box.new w #[.int .i64 1, .bool false, .bool false, .int .i64 0] 161
    have hb := (Below.refl w.heap.size w).alloc (Nat.le_refl _) (.cells #[.int .i64 1, .bool false, .bool false, .int .i64 0] 161)
    refine bodyPost_ret (k.results_cell_tmp rfl rfl (run_loadVar_mid _ w.heap.size 0 161 _ _ hx.range rfl rfl (by kernel_rfl))) rfl ?_
    exact ⟨rfl, hb⟩
  · clear HS
    go_enter Tryz.func121, Tryz.ntmps121
    go_wp2
    have hx := Box.new w #[.int .i64 0, .bool true, .bool false, .int .i64 0] 161
    have hb := (Below.refl w.heap.size w).alloc (Nat.le_refl _) (.cells #[.int .i64 0, .bool true, .bool false, .int .i64 0] 161)
    refine bodyPost_ret (k.results_cell_tmp rfl rfl (run_loadVar_mid _ w.heap.size 0 161 _ _ hx.range rfl rfl (by kernel_rfl))) rfl ?_
    exact ⟨rfl, hb⟩
  · clear HS
    go_enter Tryz.func121, Tryz.ntmps121
    go_wp2
    have hx := Box.new w #[.int .i64 0, .bool true, .bool false, .int .i64 1] 161
    have hb := (Below.refl w.heap.size w).alloc (Nat.le_refl _) (.cells #[.int .i64 0, .bool true, .bool false, .int .i64 1] 161)
    refine bodyPost_ret (k.results_cell_tmp rfl rfl (run_loadVar_mid _ w.heap.size 0 161 _ _ hx.range rfl rfl (by kernel_rfl))) rfl ?_
    exact ⟨rfl, hb⟩
  · clear HS
    go_enter Tryz.func121, Tryz.ntmps121
    go_wp2
    have hx := Box.new w #[.int .i64 0, .bool true, .bool true, .int .i64 0] 161
    have hb := (Below.refl w.heap.size w).alloc (Nat.le_refl _) (.cells #[.int .i64 0, .bool true, .bool true, .int .i64 0] 161)
    refine bodyPost_ret (k.results_cell_tmp rfl rfl (run_loadVar_mid _ w.heap.size 0 161 _ _ hx.range rfl rfl (by kernel_rfl))) rfl ?_
    exact ⟨rfl, hb⟩
  · clear HS
    go_enter Tryz.func121, Tryz.ntmps121
    go_wp2
    have hx := Box.new w #[.int .i64 0, .bool false, .bool false, .int .i64 1] 161
    have hb := (Below.refl w.heap.size w).alloc (Nat.le_refl _) (.cells #[.int .i64 0, .bool false, .bool false, .int .i64 1] 161)
    refine bodyPost_ret (k.results_cell_tmp rfl rfl (run_loadVar_mid _ w.heap.size 0 161 _ _ hx.range rfl rfl (by kernel_rfl))) rfl ?_
    exact ⟨rfl, hb⟩
  · clear HS
    go_enter Tryz.func121, Tryz.ntmps121
    go_wp2
    have hx := Box.new w #[.int .i64 0, .bool false, .bool false, .int .i64 1] 161
    have hb := (Below.refl w.heap.size w).alloc (Nat.le_refl _) (.cells #[.int .i64 0, .bool false, .bool false, .int .i64 1] 161)
    refine bodyPost_ret (k.results_cell_tmp rfl rfl (run_loadVar_mid _ w.heap.size 0 161 _ _ hx.range rfl rfl (by kernel_rfl))) rfl ?_
    exact ⟨rfl, hb⟩
  · have z1 := neb (show op ≠ 1 by omega)
    have z2 := neb (show op ≠ 2 by omega)
    have z3 := neb (show op ≠ 3 by omega)
    have z4 := neb (show op ≠ 4 by omega)
    have z5 := neb (show op ≠ 5 by omega)
    have z6 := neb (show op ≠ 6 by omega)
    have z7 := neb (show op ≠ 7 by omega)
    by_cases h21 : 8 ≤ op ∧ op ≤ 21
    · have HSH : Hid (shC op = #[.int .i64 0, .bool false, .bool false, .int .i64 2] ∧ inE op = true) := Lib.hid (by
        refine ⟨?_, inE_if op (by omega)⟩
        unfold shC mostE namedE fieldE subsE
        rw [if_pos (inE_if op (by omega)), if_neg (by omega), if_neg (by omega), if_neg (by omega), if_pos (by omega), z3, z4, z5]
        rfl)
      have hne : ((⟨(opS op).toArray⟩ : ByteArray).toList == []) = false := by
        rw [ByteArray.toList_eq]
        rcases (show op = 8 ∨ op = 9 ∨ op = 10 ∨ op = 11 ∨ op = 12 ∨ op = 13 ∨ op = 14 ∨ op = 15 ∨ op = 16 ∨ op = 17 ∨ op = 18 ∨ op = 19 ∨ op = 20 ∨ op = 21 by omega) with rfl | rfl | rfl | rfl | rfl | rfl | rfl | rfl | rfl | rfl | rfl | rfl | rfl | rfl <;> rfl
      clear h h21
      generalize (⟨(opS op).toArray⟩ : ByteArray) = xs at *
      go_enter Tryz.func121, Tryz.ntmps121
      go_wp2_with (go_at_call 127; fail)
      refine (HS.out _).mono ?_
      rintro e w2 ⟨rfl, rfl⟩
      go_wp2_with fail
      have hx := Box.new w #[.int .i64 0, .bool false, .bool false, .int .i64 2] 161
      have hb := (Below.refl w.heap.size w).alloc (Nat.le_refl _) (.cells #[.int .i64 0, .bool false, .bool false, .int .i64 2] 161)
      refine bodyPost_ret (k.results_cell_tmp rfl rfl (run_loadVar_mid _ w.heap.size 0 161 _ _ hx.range rfl rfl (by kernel_rfl))) rfl ?_
      rw [HSH.out.1, HSH.out.2]
      exact ⟨rfl, hb⟩
    · have HSH : Hid (shC op = #[.int .i64 0, .bool false, .bool false, .int .i64 0] ∧ inE op = false) := Lib.hid (by
        have : inE op = false := by
          unfold inE
          rw [Bool.and_eq_false_iff, decide_eq_false_iff_not, decide_eq_false_iff_not]
          omega
        refine ⟨?_, this⟩
        unfold shC
        rw [this]
        rfl)
      have hne : ((⟨(opS op).toArray⟩ : ByteArray).toList == []) = true := by
        rw [ByteArray.toList_eq]
        unfold opS
        rw [if_neg (by omega), if_neg (by omega), if_neg (by omega), if_neg (by omega), if_neg (by omega), if_neg (by omega), if_neg (by omega), if_neg (by omega), if_neg (by omega), if_neg (by omega), if_neg (by omega), if_neg (by omega), if_neg (by omega), if_neg (by omega)]
        rfl
      clear h h21
      generalize (⟨(opS op).toArray⟩ : ByteArray) = xs at *
      go_enter Tryz.func121, Tryz.ntmps121
      go_wp2_with (go_at_call 127; fail)
      refine (HS.out _).mono ?_
      rintro e w2 ⟨rfl, rfl⟩
      go_wp2_with fail
      have hx := Box.new w #[.int .i64 0, .bool false, .bool false, .int .i64 0] 161
      have hb := (Below.refl w.heap.size w).alloc (Nat.le_refl _) (.cells #[.int .i64 0, .bool false, .bool false, .int .i64 0] 161)
      refine bodyPost_ret (k.results_cell_tmp rfl rfl (run_loadVar_mid _ w.heap.size 0 161 _ _ hx.range rfl rfl (by kernel_rfl))) rfl ?_
      rw [HSH.out.1, HSH.out.2]
      exact ⟨rfl, hb⟩
set_option maxRecDepth 100000 in
set_option maxHeartbeats 4000000 in
/-- whether an expression isn't there -/
theorem missing_any {x : Ex} {h : EH} {w : World} {B : Nat} (hx : ExAt w B x h) : Calls Tryz.prog 119 #[.agg (eC h).toArray] w fun e w' => e = .returned (.bool (noE x)) ∧ Below w.heap.size w w' := by
  obtain ⟨xo, xn, xs, xf, xsub, xl⟩ := x
  obtain ⟨o, n, s, f, ⟨A, l, c⟩, ln⟩ := h
  unfold ExAt at hx
  obtain ⟨rfl, rfl, rfl, rfl, rfl, H, hR, hE⟩ := hx
  have hl : xsub.length = l := hE.len.symm.trans hR.1
  show Calls _ _ _ _ fun e w' => e = .returned (.bool (noE (.mk o n s f xsub ln))) ∧ _
  rw [noE, hl]
  have t3 := str_no s _ rfl
  have t4 := str_no f _ rfl
  have t5 : ((l : Int) == 0) = (l == 0) := by
    rw [Bool.eq_iff_iff, beq_iff_eq, beq_iff_eq]
    omega
  clear hR hE hl
  simp only [eC, sv, Sl.v]
  have hb := (Below.refl w.heap.size w).alloc (Nat.le_refl _) (.cells #[.int .i64 o, .int .i64 n, .string ⟨s.toArray⟩, .string ⟨f.toArray⟩, .slice A l c, .int .i64 ln] 44)
  have BB := Lib.hid hb
  clear hb
  generalize (⟨s.toArray⟩ : ByteArray) = xs at *
  generalize (⟨f.toArray⟩ : ByteArray) = xf at *
  generalize (s == []) = u3 at *
  generalize (f == []) = u4 at *
  generalize (l == 0) = u5 at *
  obtain ⟨u1, hu1⟩ : ∃ u, (o == 0) = u := ⟨_, rfl⟩
  obtain ⟨u2, hu2⟩ : ∃ u, (n == 0) = u := ⟨_, rfl⟩
  rw [hu1, hu2]
  go_enter Tryz.func119, Tryz.ntmps119
  cases u1
  · go_wp2_with fail
    go_ret
    exact ⟨rfl, BB.out⟩
  cases u2
  · go_wp2_with fail
    go_ret
    exact ⟨rfl, BB.out⟩
  cases u3
  · go_wp2_with fail
    go_ret
    exact ⟨rfl, BB.out⟩
  cases u4
  · go_wp2_with fail
    go_ret
    exact ⟨rfl, BB.out⟩
  · go_wp2_with fail
    go_ret
    exact ⟨rfl, BB.out⟩
end Go.Proofs.YtdefgghhkknnpaaGreatDoor.sh

/- The landed checks of expressions, places and labels. Condition: the library's variable MaxLen holds some number. -/
namespace Go.Proofs.YtdefgghhkknnpaaGreatDoor.sh
open Go.ChangeShapes Go.WideShapes Go.ChangeAt Go.RowKit Go.Proofs.YtdefgghhkknnpaaGreatDoor.k Go.Proofs.YtdefgghhkknnpaaGreatDoor.rr Go.Proofs.YtdefgghhkknnpaaGreatDoor.tk Go.Proofs.YtdefgghhkknnpaaGreatDoor.tr
set_option linter.unusedVariables false
set_option linter.unusedSimpArgs false

theorem at_size {α : Type} [SizeOf α] {L : List α} {i : Nat} {x : α} (h : L[i]? = some x) : SizeOf.sizeOf x < SizeOf.sizeOf L := List.sizeOf_lt_of_mem (List.mem_of_getElem? h)
theorem at_get {α : Type} {f : α → Bool} {L : List α} {i : Nat} {x : α} (h : L[i]? = some x) : (L[i]?.map f).getD false = f x := by rw [h]; rfl
theorem exsB_at {L : List Ex} {i : Nat} (h : i < L.length) : exsB (L.drop i) = ((L[i]?.map exB).getD false && exsB (L.drop (i + 1))) := by
  rw [List.drop_eq_getElem_cons h, exsB, List.getElem?_eq_getElem h]
  rfl
/-- the check of expressions up to a size -/
def RiE (N : Nat) : Prop := ∀ x : Ex, SizeOf.sizeOf x < N → ∀ (h : EH) (w : World), MaxL w → ExAt w w.heap.size x h → Calls Tryz.prog 90 #[.agg (eC h).toArray] w fun e w' => e = .returned (.bool (exB x)) ∧ Below w.heap.size w w'
theorem exl_right {N : Nat} (IH : RiE N) {L : List Ex} (hN : SizeOf.sizeOf L ≤ N) {s : Sl} {w : World} (hM : MaxL w) (h1 : ExL w w.heap.size s L) :
    Calls Tryz.prog 91 #[s.v, .func (.func 90) #[] #[]] w fun e w' => e = .returned (.bool (exsB L)) ∧ Below w.heap.size w w' := by
  obtain ⟨H, h1, h3⟩ := h1
  have l1 : L.length = s.l := h3.len.symm.trans h1.1
  refine all_e h1 (fun i => exsB (L.drop i)) (fun i => (L[i]?.map exB).getD false) _ rfl ?_ (fun i hi => exsB_at (by omega)) (fun i a ha W hW => ?_)
  · show exsB (L.drop s.l) = true
    rw [List.drop_of_length_le (by omega)]
    rfl
  · obtain ⟨x, hx, hxa⟩ := h3.at ha
    rw [at_get hx]
    exact IH x (by have := at_size hx; omega) a W (hM.below hW) (hxa.below hW hW.size)
set_option maxRecDepth 100000 in
set_option maxHeartbeats 4000000 in
theorem right_e_step {N : Nat} (IH : RiE N) : RiE (N + 1) := by
  unfold RiE
  intro x hN h w hM hx
  obtain ⟨xo, xn, xs, xf, xsub, xl⟩ := x
  obtain ⟨o, n, s, f, ⟨A, l, c⟩, ln⟩ := h
  unfold ExAt at hx
  obtain ⟨rfl, rfl, rfl, rfl, rfl, H, hR, hE⟩ := hx
  have hl : xsub.length = l := hE.len.symm.trans hR.1
  have hx : ExL w w.heap.size ⟨A, l, c⟩ xsub := ⟨H, hR, hE⟩
  show Calls _ _ _ _ fun e w' => e = .returned (.bool (exB (.mk o n s f xsub ln))) ∧ _
  have hsz : SizeOf.sizeOf xsub ≤ N := by
    simp only [Ex.mk.sizeOf_spec] at hN
    omega
  obtain ⟨u6, hu6⟩ : ∃ u, exsB xsub = u := ⟨_, rfl⟩
  have SC := Lib.hid (show ∀ W, Below w.heap.size w W → Calls Tryz.prog 91 #[.slice A l c, .func (.func 90) #[] #[]] W fun e w' => e = .returned (.bool u6) ∧ Below W.heap.size W w' from fun W hW => by
    have h := exl_right IH hsz (hM.below hW) (hx.below hW hW.size)
    rw [hu6] at h
    exact h)
  rw [exB, hu6, hl]
  have NA := Lib.hid (show ∀ W, Below w.heap.size w W → Calls Tryz.prog 122 #[sv s, .bool (namedE o)] W fun e w' => e = .returned (.bool (nameB (namedE o) s)) ∧ Below W.heap.size W w' from fun W hW => rightName_any _ s W (hM.below hW))
  have NF := Lib.hid (show ∀ W, Below w.heap.size w W → Calls Tryz.prog 122 #[sv f, .bool (fieldE o)] W fun e w' => e = .returned (.bool (nameB (fieldE o) f)) ∧ Below W.heap.size W w' from fun W hW => rightName_any _ f W (hM.below hW))
  have SH := Lib.hid fun W => shapeOf_any o W
  unfold exOk
  have hin : (decide (1 ≤ o) && decide (o ≤ 21)) = inE o := rfl
  rw [hin]
  unfold shC at SH
  have t5 : ((l : Int) == (subsE o : Int)) = (l == subsE o) := by
    rw [Bool.eq_iff_iff, beq_iff_eq, beq_iff_eq]
    omega
  simp only [eC, sv, Sl.v]
  unfold sv at NA NF
  have hb := (Below.refl w.heap.size w).alloc (Nat.le_refl _) (.cells #[.int .i64 o, .int .i64 n, .string ⟨s.toArray⟩, .string ⟨f.toArray⟩, .slice A l c, .int .i64 ln] 44)
  have hx1 := Box.new w #[.int .i64 o, .int .i64 n, .string ⟨s.toArray⟩, .string ⟨f.toArray⟩, .slice A l c, .int .i64 ln] 44
  have hz1 : (w.alloc (.cells #[.int .i64 o, .int .i64 n, .string ⟨s.toArray⟩, .string ⟨f.toArray⟩, .slice A l c, .int .i64 ln] 44)).heap.size = w.heap.size + 1 := by simp
  have B1 := Lib.hid hb
  have X1 := Lib.hid hx1
  have Z1 := Lib.hid hz1
  clear hb hx1 hz1 hR hE hl hx hN hsz hu6 IH hM hin
  generalize (⟨s.toArray⟩ : ByteArray) = xs at *
  generalize (⟨f.toArray⟩ : ByteArray) = xf at *
  obtain ⟨u3, hu3⟩ : ∃ u, nameB (namedE o) s = u := ⟨_, rfl⟩
  obtain ⟨u4, hu4⟩ : ∃ u, nameB (fieldE o) f = u := ⟨_, rfl⟩
  rw [hu3] at NA ⊢
  rw [hu4] at NF ⊢
  clear hu3 hu4
  generalize mostE o = m at *
  generalize namedE o = nb at *
  generalize fieldE o = fb at *
  generalize subsE o = k at *
  obtain ⟨u5, hu5⟩ : ∃ u, (l == k) = u := ⟨_, rfl⟩
  rw [hu5] at t5 ⊢
  obtain ⟨ui, hui⟩ : ∃ u, inE o = u := ⟨_, rfl⟩
  rw [hui] at SH ⊢
  clear hu5 hui
  obtain ⟨R, hR⟩ : ∃ R, (ui && (decide (0 ≤ n) && (decide (n ≤ m) && (u3 && (u4 && u5)))) && u6) = R := ⟨_, rfl⟩
  rw [hR]
  have HR := Lib.hid hR
  clear hR
  go_enter Tryz.func90, Tryz.ntmps90
  go_upto_region 1 with (fail)
  generalize w.alloc (.cells #[.int .i64 o, .int .i64 n, .string xs, .string xf, .slice A l c, .int .i64 ln] 44) = w1 at *
  have ⟨c0, _, c1, _, c2, _, c3, _, c4, _, _⟩ := X1.out
  go_wp2_with (go_at_call 121; fail)
  refine (SH.out _).mono ?_
  rintro e w2 ⟨rfl, hb2⟩
  have B2 := Lib.hid (B1.out.trans (hb2.mono B1.out.size))
  have X2 := Lib.hid (X1.out.below hb2 (by have := Z1.out; omega))
  have Z2 := Lib.hid (show w.heap.size < w2.heap.size by have := Z1.out; have := hb2.size; omega)
  clear hb2 SH X1 c0 c1 c2 c3 c4 B1 Z1
  cases ui
  · have HF := Lib.hid (show R = false by rw [← HR.out]; simp)
    rw [if_neg (by decide)]
    have ⟨c0, _, c1, _, c2, _, c3, _, c4, _, _⟩ := X2.out
    go_upto_region 2 with (fail)
    have hb := (Below.refl w2.heap.size w2).alloc (Nat.le_refl _) (.cells #[.int .i64 0, .bool false, .bool false, .int .i64 0] 161)
    have B3 := Lib.hid (B2.out.trans (hb.mono B2.out.size))
    clear hb
    go_wp2_with fail
    go_ret
    exact ⟨ret_bool HF.out.symm, B3.out⟩
  rw [if_pos rfl]
  go_upto_region 2 with (fail)
  have hb := (Below.refl w2.heap.size w2).alloc (Nat.le_refl _) (.cells #[.int .i64 m, .bool nb, .bool fb, .int .i64 k] 161)
  have hx := Box.new w2 #[.int .i64 m, .bool nb, .bool fb, .int .i64 k] 161
  have hz : (w2.alloc (.cells #[.int .i64 m, .bool nb, .bool fb, .int .i64 k] 161)).heap.size = w2.heap.size + 1 := by simp
  generalize w2.alloc (.cells #[.int .i64 m, .bool nb, .bool fb, .int .i64 k] 161) = w3 at *
  have B3 := Lib.hid (B2.out.trans (hb.mono B2.out.size))
  have X3 := Lib.hid (X2.out.below hb Z2.out)
  have Y3 := Lib.hid hx
  have Z3 := Lib.hid (And.intro hz Z2.out)
  clear hb hx hz X2 B2
  have ⟨c0, _, c1, _, c2, _, c3, _, c4, _, _⟩ := X3.out
  have ⟨d0, _, d1, _, d2, _, d3, _, _⟩ := Y3.out
  by_cases h0 : 0 ≤ n
  rotate_left
  · have HF := Lib.hid (show R = false by rw [← HR.out, decide_eq_false h0]; simp)
    go_wp2_with fail
    go_ret
    exact ⟨ret_bool HF.out.symm, B3.out⟩
  by_cases h1 : n ≤ m
  rotate_left
  · have HF := Lib.hid (show R = false by rw [← HR.out, decide_eq_false h1]; simp)
    go_wp2_with fail
    go_ret
    exact ⟨ret_bool HF.out.symm, B3.out⟩
  have HR2 := Lib.hid (show (u3 && (u4 && u5) && u6) = R by rw [← HR.out, decide_eq_true h0, decide_eq_true h1]; simp)
  clear HR
  have NA1 := Lib.hid (NA.out w3 B3.out)
  clear NA
  go_wp2_with (go_at_call 122; fail)
  refine NA1.out.mono ?_
  rintro e w4 ⟨rfl, hb⟩
  have B4 := Lib.hid (B3.out.trans (hb.mono B3.out.size))
  have X4 := Lib.hid (X3.out.below hb (by have := Z3.out; omega))
  have Y4 := Lib.hid (Y3.out.below hb (by have := Z3.out; omega))
  have Z4 := Lib.hid (show w.heap.size < w4.heap.size ∧ w2.heap.size < w4.heap.size by have := Z3.out; have := hb.size; omega)
  clear hb NA1 X3 Y3 B3 Z3 c0 c1 c2 c3 c4 d0 d1 d2 d3
  have ⟨c0, _, c1, _, c2, _, c3, _, c4, _, _⟩ := X4.out
  have ⟨d0, _, d1, _, d2, _, d3, _, _⟩ := Y4.out
  cases u3
  · have HF := Lib.hid (show R = false by rw [← HR2.out]; simp)
    go_wp2_with fail
    go_ret
    exact ⟨ret_bool HF.out.symm, B4.out⟩
  have NF1 := Lib.hid (NF.out w4 B4.out)
  clear NF
  go_wp2_with (go_at_call 122; fail)
  refine NF1.out.mono ?_
  rintro e w5 ⟨rfl, hb⟩
  have B5 := Lib.hid (B4.out.trans (hb.mono B4.out.size))
  have X5 := Lib.hid (X4.out.below hb Z4.out.1)
  have Y5 := Lib.hid (Y4.out.below hb Z4.out.2)
  clear hb NF1 X4 Y4 B4 c0 c1 c2 c3 c4 d0 d1 d2 d3
  have ⟨c0, _, c1, _, c2, _, c3, _, c4, _, _⟩ := X5.out
  have ⟨d0, _, d1, _, d2, _, d3, _, _⟩ := Y5.out
  cases u4
  · have HF := Lib.hid (show R = false by rw [← HR2.out]; simp)
    go_wp2_with fail
    go_ret
    exact ⟨ret_bool HF.out.symm, B5.out⟩
  cases u5
  · have HF := Lib.hid (show R = false by rw [← HR2.out]; simp)
    go_wp2_with fail
    go_ret
    exact ⟨ret_bool HF.out.symm, B5.out⟩
  have CX := Lib.hid (SC.out w5 B5.out)
  have HF := Lib.hid (show u6 = R by rw [← HR2.out]; simp)
  clear SC
  go_wp2_with (go_at_call 91; fail)
  refine CX.out.mono ?_
  rintro e w6 ⟨rfl, hb⟩
  have B6 := Lib.hid (B5.out.trans (hb.mono B5.out.size))
  clear hb CX
  go_wp2_with fail
  go_ret
  exact ⟨ret_bool HF.out, B6.out⟩
theorem right_e_all : ∀ N, RiE N
  | 0 => fun _ h => absurd h (by omega)
  | N + 1 => right_e_step (right_e_all N)
theorem right_e {x : Ex} {h : EH} {w : World} (hM : MaxL w) (hx : ExAt w w.heap.size x h) : Calls Tryz.prog 90 #[.agg (eC h).toArray] w fun e w' => e = .returned (.bool (exB x)) ∧ Below w.heap.size w w' :=
  right_e_all (SizeOf.sizeOf x + 1) x (by omega) h w hM hx
theorem right_el {L : List Ex} {s : Sl} {w : World} (hM : MaxL w) (h1 : ExL w w.heap.size s L) :
    Calls Tryz.prog 91 #[s.v, .func (.func 90) #[] #[]] w fun e w' => e = .returned (.bool (exsB L)) ∧ Below w.heap.size w w' :=
  exl_right (right_e_all (SizeOf.sizeOf L)) (Nat.le_refl _) hM h1
end Go.Proofs.YtdefgghhkknnpaaGreatDoor.sh

/- The landed checks of a statement's parts: how many there are of each. Conditions: what each line says. -/
namespace Go.Proofs.YtdefgghhkknnpaaGreatDoor.sh
open Go.ChangeShapes Go.WideShapes Go.ChangeAt Go.RowKit Go.Proofs.YtdefgghhkknnpaaGreatDoor.k Go.Proofs.YtdefgghhkknnpaaGreatDoor.rr Go.Proofs.YtdefgghhkknnpaaGreatDoor.tk Go.Proofs.YtdefgghhkknnpaaGreatDoor.tr
set_option linter.unusedVariables false
set_option linter.unusedSimpArgs false

theorem al1 (w : World) (o : Obj) : Below w.heap.size w (w.alloc o) := (Below.refl _ _).alloc (Nat.le_refl _) o
theorem al2 (w : World) (o p : Obj) : Below w.heap.size w ((w.alloc o).alloc p) := (al1 w o).trans ((al1 _ p).mono (by simp))
theorem al3 (w : World) (o p q : Obj) : Below w.heap.size w (((w.alloc o).alloc p).alloc q) := (al2 w o p).trans ((al1 _ q).mono (by simp; omega))
def ptC (h : Pt) : List Value := [.int .i64 h.nm, .int .i64 h.dst, .int .i64 h.val, .int .i64 h.cs, .int .i64 h.ls, .int .i64 h.fs, .int .i64 h.bs]
theorem ptC_one (h : Pt) : ∀ u ∈ ptC h, u.oneCell' = true := by
  intro u hu
  simp only [ptC, List.mem_cons, List.not_mem_nil, or_false] at hu
  rcases hu with rfl | rfl | rfl | rfl | rfl | rfl | rfl <;> rfl
theorem int_eq (d : Nat) (x y : Int) (w : World) : (Op.equalIn (d + 1) 3 (.int .i64 x) (.int .i64 y)).run Tryz.prog w = .ok (x == y) w := run_equalIn_int w d _ _ _ x y Tryz.underlying3
theorem int_part (xs : Array Value) (o : Nat) (v : Value) (w : World) (h : xs[o]? = some v) : (part 3 xs o).run Tryz.prog w = .ok v w := run_part_plain w (by kernel_rfl) h
set_option maxHeartbeats 1000000 in
set_option maxRecDepth 100000 in
theorem pt_run (a0 a1 a2 a3 a4 a5 a6 b0 b1 b2 b3 b4 b5 b6 : Int) (w : World) : (binOp .eql 136 (.agg #[.int .i64 a0, .int .i64 a1, .int .i64 a2, .int .i64 a3, .int .i64 a4, .int .i64 a5, .int .i64 a6]) (.agg #[.int .i64 b0, .int .i64 b1, .int .i64 b2, .int .i64 b3, .int .i64 b4, .int .i64 b5, .int .i64 b6])).run Tryz.prog w = .ok (.bool (a0 == b0 && (a1 == b1 && (a2 == b2 && (a3 == b3 && (a4 == b4 && (a5 == b5 && a6 == b6))))))) w := by
  have hu := run_underlying (w := w) Tryz.underlying136
  have hs : Tryz.prog.stoodInHeld 136 = false := by kernel_rfl
  have h := int_eq 9998
  simp only [binOp, Op.equal, Op.maxDepth]
  rw [show (10000 : Nat) = 9999 + 1 from rfl, Op.equalIn]
  simp [hu, hs, h, int_part, part]
  (repeat' split) <;> simp_all
theorem pt_dec (h a : Pt) : ((h.nm : Int) == a.nm && ((h.dst : Int) == a.dst && ((h.val : Int) == a.val && ((h.cs : Int) == a.cs && ((h.ls : Int) == a.ls && ((h.fs : Int) == a.fs && (h.bs : Int) == a.bs)))))) = decide (h = a) := by
  obtain ⟨a0, a1, a2, a3, a4, a5, a6⟩ := h
  obtain ⟨b0, b1, b2, b3, b4, b5, b6⟩ := a
  rw [Bool.eq_iff_iff]
  simp only [Bool.and_eq_true, beq_iff_eq, decide_eq_true_eq, Pt.mk.injEq]
  omega
/-- two counts are compared -/
theorem pt_eq (h a : Pt) (w : World) : (binOp .eql 136 (.agg (ptC h).toArray) (.agg (ptC a).toArray)).run Tryz.prog w = .ok (.bool (decide (h = a))) w := by
  rw [← pt_dec]
  exact pt_run _ _ _ _ _ _ _ _ _ _ _ _ _ _ w
set_option maxRecDepth 100000 in
set_option maxHeartbeats 4000000 in
theorem withElse_any (h a : Pt) (hb : a.bs < 9223372036854775807) (w : World) : Calls Tryz.prog 120 #[.agg (ptC h).toArray, .agg (ptC a).toArray] w fun e w' => e = .returned (.bool (elseB h a)) ∧ Below w.heap.size w w' := by
  have hw1 : wrap64 ((a.bs : Int) + 1) = ((a.bs + 1 : Nat) : Int) := by unfold wrap64; omega
  have E1 := pt_dec h a
  have E2 := pt_dec h { a with bs := a.bs + 1 }
  obtain ⟨a0, a1, a2, a3, a4, a5, a6⟩ := h
  obtain ⟨b0, b1, b2, b3, b4, b5, b6⟩ := a
  unfold elseB
  simp only at hw1 E1 E2 ⊢
  have PE := pt_run
  obtain ⟨v1, h1⟩ : ∃ v, decide ((⟨a0, a1, a2, a3, a4, a5, a6⟩ : Pt) = ⟨b0, b1, b2, b3, b4, b5, b6⟩) = v := ⟨_, rfl⟩
  obtain ⟨v2, h2⟩ : ∃ v, decide ((⟨a0, a1, a2, a3, a4, a5, a6⟩ : Pt) = ⟨b0, b1, b2, b3, b4, b5, b6 + 1⟩) = v := ⟨_, rfl⟩
  rw [h1] at E1 ⊢
  rw [h2] at E2 ⊢
  clear h1 h2 hb
  simp only [ptC]
  generalize (a0 : Int) = a0 at *
  generalize (a1 : Int) = a1 at *
  generalize (a2 : Int) = a2 at *
  generalize (a3 : Int) = a3 at *
  generalize (a4 : Int) = a4 at *
  generalize (a5 : Int) = a5 at *
  generalize (a6 : Int) = a6 at *
  generalize (b0 : Int) = b0 at *
  generalize (b1 : Int) = b1 at *
  generalize (b2 : Int) = b2 at *
  generalize (b3 : Int) = b3 at *
  generalize (b4 : Int) = b4 at *
  generalize (b5 : Int) = b5 at *
  generalize ((b6 + 1 : Nat) : Int) = c6 at *
  generalize (b6 : Int) = b6 at *
  go_enter Tryz.func120, Tryz.ntmps120
  have HB := Lib.hid (al3 w (.cells #[.int .i64 a0, .int .i64 a1, .int .i64 a2, .int .i64 a3, .int .i64 a4, .int .i64 a5, .int .i64 a6] 136) (.cells #[.int .i64 b0, .int .i64 b1, .int .i64 b2, .int .i64 b3, .int .i64 b4, .int .i64 b5, .int .i64 b6] 136) (.cells #[.int .i64 b0, .int .i64 b1, .int .i64 b2, .int .i64 b3, .int .i64 b4, .int .i64 b5, .int .i64 c6] 136))
  cases v1 <;> cases v2
  all_goals
    go_wp2
    go_ret
    exact ⟨rfl, HB.out⟩
theorem oneIf_le (b : Bool) : oneIf b ≤ 1 := by cases b <;> decide
set_option maxRecDepth 100000 in
set_option maxHeartbeats 4000000 in
/-- whether these are the parts of a kind -/
theorem rightParts_any (op : Int) (h : Pt) (h3 : h.cs < 9223372036854775807) (h4 : h.ls < 9223372036854775807) (w : World) : Calls Tryz.prog 88 #[.int .i64 op, .agg (ptC h).toArray] w fun e w' => e = .returned (.bool (stOk op h)) ∧ Below w.heap.size w w' := by
  obtain ⟨a0, a1, a2, a3, a4, a5, a6⟩ := h
  simp only at h3 h4
  have PE := pt_run
  have W2 := Lib.hid (show ∀ W, Calls Tryz.prog 120 #[.agg #[.int .i64 a0, .int .i64 a1, .int .i64 a2, .int .i64 a3, .int .i64 a4, .int .i64 a5, .int .i64 a6], .agg #[.int .i64 0, .int .i64 0, .int .i64 0, .int .i64 a3, .int .i64 0, .int .i64 0, .int .i64 a3]] W fun e w' => e = .returned (.bool (elseB ⟨a0, a1, a2, a3, a4, a5, a6⟩ ⟨0, 0, 0, a3, 0, 0, a3⟩)) ∧ Below W.heap.size W w' from fun W => withElse_any _ ⟨0, 0, 0, a3, 0, 0, a3⟩ h3 W)
  have W3 := Lib.hid (show ∀ W, Calls Tryz.prog 120 #[.agg #[.int .i64 a0, .int .i64 a1, .int .i64 a2, .int .i64 a3, .int .i64 a4, .int .i64 a5, .int .i64 a6], .agg #[.int .i64 0, .int .i64 0, .int .i64 1, .int .i64 0, .int .i64 a4, .int .i64 0, .int .i64 a4]] W fun e w' => e = .returned (.bool (elseB ⟨a0, a1, a2, a3, a4, a5, a6⟩ ⟨0, 0, 1, 0, a4, 0, a4⟩)) ∧ Below W.heap.size W w' from fun W => withElse_any _ ⟨0, 0, 1, 0, a4, 0, a4⟩ h4 W)
  have HB := Lib.hid (al1 w (.cells #[.int .i64 a0, .int .i64 a1, .int .i64 a2, .int .i64 a3, .int .i64 a4, .int .i64 a5, .int .i64 a6] 136))
  have hz : (w.alloc (.cells #[.int .i64 a0, .int .i64 a1, .int .i64 a2, .int .i64 a3, .int .i64 a4, .int .i64 a5, .int .i64 a6] 136)).heap.size = w.heap.size + 1 := by simp
  have HZ := Lib.hid hz
  clear hz h3 h4
  simp only [ptC]
  by_cases e1 : op = 1
  · subst e1
    rw [stOk, if_pos rfl]
    have E : ((a0 : Int) == 0 && ((a1 : Int) == 1 && ((a2 : Int) == 1 && ((a3 : Int) == 0 && ((a4 : Int) == 0 && ((a5 : Int) == 0 && ((a6 : Int) == 0))))))) = decide ((⟨a0, a1, a2, a3, a4, a5, a6⟩ : Pt) = ⟨0, 1, 1, 0, 0, 0, 0⟩) := pt_dec ⟨a0, a1, a2, a3, a4, a5, a6⟩ ⟨0, 1, 1, 0, 0, 0, 0⟩
    have HE := Lib.hid E
    generalize decide ((⟨a0, a1, a2, a3, a4, a5, a6⟩ : Pt) = ⟨0, 1, 1, 0, 0, 0, 0⟩) = v at *
    clear E
    go_enter Tryz.func88, Tryz.ntmps88
    go_wp2
    go_ret
    exact ⟨ret_bool HE.out, HB.out⟩
  by_cases e2 : op = 2
  · subst e2
    rw [stOk, if_neg (by decide), if_pos rfl]
    generalize elseB ⟨a0, a1, a2, a3, a4, a5, a6⟩ ⟨0, 0, 0, a3, 0, 0, a3⟩ = v at *
    by_cases h0 : 0 < a3
    · rw [decide_eq_true h0]
      have h0' : (0 : Int) < a3 := by omega
      clear PE W3 h0
      go_enter Tryz.func88, Tryz.ntmps88
      go_wp2_with (go_at_call 120; fail)
      refine (W2.out _).mono ?_
      rintro e w2 ⟨rfl, hb⟩
      have B2 := Lib.hid (HB.out.trans (hb.mono HB.out.size))
      clear hb W2
      go_wp2_with fail
      go_ret
      exact ⟨rfl, B2.out⟩
    · rw [decide_eq_false h0]
      have h0' : ¬ (0 : Int) < a3 := by omega
      clear PE W3 W2 h0
      go_enter Tryz.func88, Tryz.ntmps88
      go_wp2
      go_ret
      exact ⟨rfl, HB.out⟩
  by_cases e3 : op = 3
  · subst e3
    rw [stOk, if_neg (by decide), if_neg (by decide), if_pos rfl]
    generalize elseB ⟨a0, a1, a2, a3, a4, a5, a6⟩ ⟨0, 0, 1, 0, a4, 0, a4⟩ = v at *
    clear PE W2
    go_enter Tryz.func88, Tryz.ntmps88
    go_wp2_with (go_at_call 120; fail)
    refine (W3.out _).mono ?_
    rintro e w2 ⟨rfl, hb⟩
    have B2 := Lib.hid (HB.out.trans (hb.mono HB.out.size))
    clear hb W3
    go_wp2_with fail
    go_ret
    exact ⟨rfl, B2.out⟩
  clear W2 W3
  by_cases e4 : op = 4
  · subst e4
    rw [stOk, if_neg (by decide), if_neg (by decide), if_neg (by decide), if_pos rfl]
    have E : ((a0 : Int) == 1 && ((a1 : Int) == 0 && ((a2 : Int) == 0 && ((a3 : Int) == 3 && ((a4 : Int) == 0 && ((a5 : Int) == 0 && ((a6 : Int) == 1))))))) = decide ((⟨a0, a1, a2, a3, a4, a5, a6⟩ : Pt) = ⟨1, 0, 0, 3, 0, 0, 1⟩) := pt_dec ⟨a0, a1, a2, a3, a4, a5, a6⟩ ⟨1, 0, 0, 3, 0, 0, 1⟩
    have HE := Lib.hid E
    generalize decide ((⟨a0, a1, a2, a3, a4, a5, a6⟩ : Pt) = ⟨1, 0, 0, 3, 0, 0, 1⟩) = v at *
    clear E
    go_enter Tryz.func88, Tryz.ntmps88
    go_wp2
    go_ret
    exact ⟨ret_bool HE.out, HB.out⟩
  by_cases e5 : op = 5
  · subst e5
    rw [stOk, if_neg (by decide), if_neg (by decide), if_neg (by decide), if_neg (by decide), if_pos (by decide)]
    have E : ((a0 : Int) == 0 && ((a1 : Int) == 0 && ((a2 : Int) == 1 && ((a3 : Int) == 0 && ((a4 : Int) == 0 && ((a5 : Int) == 0 && ((a6 : Int) == 1))))))) = decide ((⟨a0, a1, a2, a3, a4, a5, a6⟩ : Pt) = ⟨0, 0, 1, 0, 0, 0, 1⟩) := pt_dec ⟨a0, a1, a2, a3, a4, a5, a6⟩ ⟨0, 0, 1, 0, 0, 0, 1⟩
    have HE := Lib.hid E
    generalize decide ((⟨a0, a1, a2, a3, a4, a5, a6⟩ : Pt) = ⟨0, 0, 1, 0, 0, 0, 1⟩) = v at *
    clear E
    go_enter Tryz.func88, Tryz.ntmps88
    go_wp2
    go_ret
    exact ⟨ret_bool HE.out, HB.out⟩
  by_cases e6 : op = 6
  · subst e6
    rw [stOk, if_neg (by decide), if_neg (by decide), if_neg (by decide), if_neg (by decide), if_pos (by decide)]
    have E : ((a0 : Int) == 0 && ((a1 : Int) == 0 && ((a2 : Int) == 1 && ((a3 : Int) == 0 && ((a4 : Int) == 0 && ((a5 : Int) == 0 && ((a6 : Int) == 1))))))) = decide ((⟨a0, a1, a2, a3, a4, a5, a6⟩ : Pt) = ⟨0, 0, 1, 0, 0, 0, 1⟩) := pt_dec ⟨a0, a1, a2, a3, a4, a5, a6⟩ ⟨0, 0, 1, 0, 0, 0, 1⟩
    have HE := Lib.hid E
    generalize decide ((⟨a0, a1, a2, a3, a4, a5, a6⟩ : Pt) = ⟨0, 0, 1, 0, 0, 0, 1⟩) = v at *
    clear E
    go_enter Tryz.func88, Tryz.ntmps88
    go_wp2
    go_ret
    exact ⟨ret_bool HE.out, HB.out⟩
  by_cases e7 : op = 7
  · subst e7
    rw [stOk, if_neg (by decide), if_neg (by decide), if_neg (by decide), if_neg (by decide), if_neg (by decide), if_pos (by decide)]
    have E : ((a0 : Int) == 0 && ((a1 : Int) == 0 && ((a2 : Int) == 0 && ((a3 : Int) == 0 && ((a4 : Int) == 0 && ((a5 : Int) == 0 && ((a6 : Int) == 0))))))) = decide ((⟨a0, a1, a2, a3, a4, a5, a6⟩ : Pt) = ⟨0, 0, 0, 0, 0, 0, 0⟩) := pt_dec ⟨a0, a1, a2, a3, a4, a5, a6⟩ ⟨0, 0, 0, 0, 0, 0, 0⟩
    have HE := Lib.hid E
    generalize decide ((⟨a0, a1, a2, a3, a4, a5, a6⟩ : Pt) = ⟨0, 0, 0, 0, 0, 0, 0⟩) = v at *
    clear E
    go_enter Tryz.func88, Tryz.ntmps88
    go_wp2
    go_ret
    exact ⟨ret_bool HE.out, HB.out⟩
  by_cases e8 : op = 8
  · subst e8
    rw [stOk, if_neg (by decide), if_neg (by decide), if_neg (by decide), if_neg (by decide), if_neg (by decide), if_pos (by decide)]
    have E : ((a0 : Int) == 0 && ((a1 : Int) == 0 && ((a2 : Int) == 0 && ((a3 : Int) == 0 && ((a4 : Int) == 0 && ((a5 : Int) == 0 && ((a6 : Int) == 0))))))) = decide ((⟨a0, a1, a2, a3, a4, a5, a6⟩ : Pt) = ⟨0, 0, 0, 0, 0, 0, 0⟩) := pt_dec ⟨a0, a1, a2, a3, a4, a5, a6⟩ ⟨0, 0, 0, 0, 0, 0, 0⟩
    have HE := Lib.hid E
    generalize decide ((⟨a0, a1, a2, a3, a4, a5, a6⟩ : Pt) = ⟨0, 0, 0, 0, 0, 0, 0⟩) = v at *
    clear E
    go_enter Tryz.func88, Tryz.ntmps88
    go_wp2
    go_ret
    exact ⟨ret_bool HE.out, HB.out⟩
  by_cases e9 : op = 9
  · subst e9
    rw [stOk, if_neg (by decide), if_neg (by decide), if_neg (by decide), if_neg (by decide), if_neg (by decide), if_neg (by decide), if_pos rfl]
    have E : ((a0 : Int) == 1 && ((a1 : Int) == 0 && ((a2 : Int) == 0 && ((a3 : Int) == (a3 : Int) && ((a4 : Int) == 0 && ((a5 : Int) == (a3 : Int) && ((a6 : Int) == 0))))))) = decide ((⟨a0, a1, a2, a3, a4, a5, a6⟩ : Pt) = ⟨1, 0, 0, a3, 0, a3, 0⟩) := pt_dec ⟨a0, a1, a2, a3, a4, a5, a6⟩ ⟨1, 0, 0, a3, 0, a3, 0⟩
    rw [beq_self_eq_true, Bool.true_and] at E
    have HE := Lib.hid E
    generalize decide ((⟨a0, a1, a2, a3, a4, a5, a6⟩ : Pt) = ⟨1, 0, 0, a3, 0, a3, 0⟩) = v at *
    clear E
    go_enter Tryz.func88, Tryz.ntmps88
    go_wp2
    go_ret
    exact ⟨ret_bool HE.out, HB.out⟩
  rw [stOk, if_neg e1, if_neg e2, if_neg e3, if_neg e4, if_neg (by omega), if_neg (by omega), if_neg e9]
  have z1 := neb e1
  have z2 := neb e2
  have z3 := neb e3
  have z4 := neb e4
  have z5 := neb e5
  have z6 := neb e6
  have z7 := neb e7
  have z8 := neb e8
  have z9 := neb e9
  clear PE e1 e2 e3 e4 e5 e6 e7 e8 e9
  go_enter Tryz.func88, Tryz.ntmps88
  go_wp2
  go_ret
  exact ⟨rfl, HB.out⟩
end Go.Proofs.YtdefgghhkknnpaaGreatDoor.sh
